/-
  AtArg SeAwake VaRvCrash Els ElsArg: what each of them says stands at its head.
-/
import Derived.Test.YtfpgglclpkcdhaaBw5
import Derived.Deep.CutBlock
import Derived.Lib.AppendZerosOnto
namespace Go.Proofs.Ytfpgglclpkcdhaa
set_option maxRecDepth 20000
open Go.ChangeShapes Go.WideShapes Go.ChangeAt Go.RowKit Go.Deep
theorem drop_part {α:Type} {cs l:List α} {o k:Nat} (h:(cs.drop o).take k=l):cs.drop o=l ++ cs.drop (o + k):=by
 conv=>lhs;rw [← List.take_append_drop k (cs.drop o),List.drop_drop,h]
end Go.Proofs.Ytfpgglclpkcdhaa
namespace Go.Proofs.Ytfpgglclpkcdhaa
set_option maxRecDepth 20000
open Go.RowKit
theorem setSe_alloc (w:World) (T:TypeId) (C0 C:Array Value):setSe (w.alloc (.cells C0 T)) w.heap.size C=w.alloc (.cells C T):=by
 have hm:∀ (a:Array Obj) (x:Obj) (f:Obj→Obj),(a.push x).modify a.size f=a.push (f x):=by
  intro a x f
  apply Array.ext_getElem?
  intro k
  rw [Array.getElem?_modify]
  by_cases h:a.size=k
  ·subst h
   simp
  ·rw [if_neg h,Array.getElem?_push,Array.getElem?_push]
   rw [if_neg (fun e=>h e.symm),if_neg (fun e=>h e.symm)]
 unfold setSe World.setRow World.alloc
 simp only [hm]
end Go.Proofs.Ytfpgglclpkcdhaa
namespace Go.Proofs.Ytfpgglclpkcdhaa
set_option maxRecDepth 20000
open Go.RowKit
theorem own_set {B:Nat} {w:World} {g n c:Nat} {l:List UInt8} (h:Own B w (.slice (some ⟨g,0,none⟩) n c) l) (hn:n=l.length) {i:Nat} (x:UInt8):
  Own B (w.setCell ⟨g,i,none⟩ (bcell x)) (.slice (some ⟨g,0,none⟩) n c) (l.set i x):=by
 subst hn
 have:=(World.ownsRow.stored h i (bcell x)).1
 have e:(bcells l).set i (bcell x)=bcells (l.set i x):=by unfold bcells;rw [List.map_set]
 rw [e] at this
 unfold Own
 rw [List.length_set]
 exact this
end Go.Proofs.Ytfpgglclpkcdhaa
namespace Go.Proofs.Ytfpgglclpkcdhaa
set_option maxRecDepth 20000
open Go.RowKit
structure Elt {α:Type} (ec:α→List Value) (P:α→Prop) (n:Nat) (T SL:TypeId):Prop where
 pos:0 < n
 len:∀ a,P a→(ec a).length=n
 one:∀ a,∀ u ∈ ec a,u.oneCell'=true
 under:Try.prog.underlying SL=some (.slice T)
 cells:Try.prog.cellsOf T=n
 info:∃ i z,Try.prog.info? T=some i∧i.zero=some z∧i.size=n∧i.bytes≤100000∧z.cells.size=n
section
variable {α:Type} (ec:α→List Value) (n:Nat)
def ElsA (w:World) (A:Option Addr) (L:List α):Prop:=
 0 < L.length→∃ b off,A=some ⟨b,off,none⟩∧b < w.heap.size∧∀ j (h:j < L.length),w.rangeAt b (off + j * n) (ec L[j])
def Els (w:World) (v:Value) (L:List α):Prop:=∃ A c,v=.slice A L.length c∧L.length≤c∧c≤maxLen∧ElsA ec n w A L
def OwnE (T:TypeId) (B:Nat) (w:World) (v:Value) (L:List α):Prop:=w.ownsRow B T n v L.length (L.map ec).flatten
end
theorem range_kept {w w':World} {b o:Nat} {l:List Value} (h:w.rangeAt b o l) (hk:w'.heap[b]?=w.heap[b]?):w'.rangeAt b o l:=fun j u hu=>(World.cell?_of_block hk).trans (h j u hu)
section
variable {α:Type} {ec:α→List Value} {n:Nat} {w w':World} {A:Option Addr} {v:Value} {L:List α}
theorem ElsA.nil (w:World) (A:Option Addr):ElsA ec n w A []:=fun h=>absurd h (by simp)
theorem ElsA.below (h:ElsA ec n w A L) (hb:Below w.heap.size w w'):ElsA ec n w' A L:=fun hl=>by
 obtain ⟨b,off,e,hlt,hc⟩:=h hl
 exact ⟨b,off,e,Nat.lt_of_lt_of_le hlt hb.size,fun j hj=>range_kept (hc j hj) (hb.block b hlt)⟩
theorem Els.nil (w:World):Els ec n w (.slice none 0 0) []:=⟨none,0,rfl,Nat.le_refl _,Nat.zero_le _,ElsA.nil _ _⟩
theorem Els.below (h:Els ec n w v L) (hb:Below w.heap.size w w'):Els ec n w' v L:=by
 obtain ⟨A,c,rfl,h1,h2,h3⟩:=h
 exact ⟨A,c,rfl,h1,h2,h3.below hb⟩
theorem Els.len (h:Els ec n w v L):L.length≤maxLen:=by
 obtain ⟨_,_,_,h1,h2,_⟩:=h
 omega
theorem Els.shape (h:Els ec n w v L):∃ A c,v=.slice A L.length c:=by
 obtain ⟨A,c,e,_⟩:=h
 exact ⟨A,c,e⟩
theorem Els.at_ {k c:Nat} (h:Els ec n w (.slice A k c) L):k=L.length∧L.length≤c∧c≤maxLen∧ElsA ec n w A L:=by
 obtain ⟨A',c',e,h1,h2,h3⟩:=h
 injection e with e1 e2 e3
 subst e1 e2 e3
 exact ⟨rfl,h1,h2,h3⟩
end
section
variable {α:Type} {ec:α→List Value} {P:α→Prop} {n:Nat} {T SL:TypeId} {w w':World} {v:Value} {L:List α} {B:Nat}
theorem Elt.ecs_length (E:Elt ec P n T SL) (hL:∀ a ∈ L,P a):(L.map ec).flatten.length=L.length * n:=by
 induction L with
 | nil=>simp
 | cons a L ih=>
  rw [List.map_cons,List.flatten_cons,List.length_append,ih (fun x hx=>hL x (List.mem_cons_of_mem _ hx)),E.len a (hL a (by simp)),List.length_cons,Nat.succ_mul,Nat.add_comm]
theorem Elt.ecs_at (E:Elt ec P n T SL) (hL:∀ a ∈ L,P a) {j:Nat} (hj:j < L.length) {k:Nat} (hk:k < n):(L.map ec).flatten[j * n + k]?=(ec L[j])[k]?:=by
 induction L generalizing j with
 | nil=>simp at hj
 | cons a L ih=>
  have ha:=E.len a (hL a (by simp))
  rw [List.map_cons,List.flatten_cons]
  cases j with
  | zero=>
   rw [Nat.zero_mul,Nat.zero_add,List.getElem?_append_left (by rw [ha];exact hk)]
   rfl
  | succ j=>
   rw [List.getElem?_append_right (by rw [ha,Nat.succ_mul];omega),ha,show (j + 1) * n + k - n=j * n + k from by rw [Nat.succ_mul];omega]
   exact ih (fun x hx=>hL x (List.mem_cons_of_mem _ hx)) (by simpa using hj)
theorem Elt.ecs_get (E:Elt ec P n T SL) (hL:∀ a ∈ L,P a) {i:Nat} {u:Value} (h:(L.map ec).flatten[i]?=some u):∃ (hj:i / n < L.length),(ec L[i / n])[i % n]?=some u:=by
 have hi:=(List.getElem?_eq_some_iff.1 h).1
 rw [E.ecs_length hL] at hi
 have hj:i / n < L.length:=(Nat.div_lt_iff_lt_mul E.pos).2 hi
 refine ⟨hj,?_⟩
 have:=E.ecs_at hL hj (Nat.mod_lt i E.pos)
 rw [Nat.div_add_mod' i n,h] at this
 exact this.symm
theorem Elt.ecs_one (E:Elt ec P n T SL) (L:List α):∀ u ∈ (L.map ec).flatten,u.oneCell'=true:=by
 intro u hu
 obtain ⟨l,hl,hu⟩:=List.mem_flatten.1 hu
 obtain ⟨a,_,rfl⟩:=List.mem_map.1 hl
 exact E.one a u hu
theorem OwnE.nil (B:Nat) (w:World):OwnE ec n T B w (.slice none 0 0) []:=World.ownsRow_nil _ _ _ _
theorem OwnE.els (h:OwnE ec n T B w v L) (E:Elt ec P n T SL) (hL:∀ a ∈ L,P a):Els ec n w v L:=by
 rcases h.2 with ⟨rfl,h0⟩ | ⟨g,cap,cur,rfl,_,hh,hn,hm,hs,ht⟩
 ·have:L=[]:=List.eq_nil_of_length_eq_zero h0
  subst this
  exact Els.nil w
 ·refine ⟨_,cap,rfl,hn,hm,fun _=>⟨g,0,rfl,lt_of_block hh,fun j hj k u hu=>?_⟩⟩
  have hk:k < n:=by
   have:=(List.getElem?_eq_some_iff.1 hu).1
   rw [E.len _ (hL _ (List.getElem_mem hj))] at this
   exact this
  have hlt:j * n + k < L.length * n:=Nat.lt_of_lt_of_le (show j * n + k < (j + 1) * n by rw [Nat.succ_mul];omega) (Nat.mul_le_mul_right n hj)
  rw [Nat.zero_add,cell_of_row w g _ _ _ (0,0) hh,← Array.getElem?_toList]
  have e:=E.ecs_at hL hj hk
  rw [hu,← ht,List.getElem?_take_of_lt hlt] at e
  exact e
theorem OwnE.more (h:OwnE ec n T B w v L) {B':Nat} (hB:B'≤B):OwnE ec n T B' w v L:=by
 refine ⟨h.1,?_⟩
 rcases h.2 with h0 | ⟨g,cap,cur,e,hg,r⟩
 ·exact .inl h0
 ·exact .inr ⟨g,cap,cur,e,by omega,r⟩
theorem OwnE.keep (h:OwnE ec n T B w v L) (hk:∀ b,b < w.heap.size→v.ownBlock=some b→w'.heap[b]?=w.heap[b]?):OwnE ec n T B w' v L:=by
 refine ⟨h.1,?_⟩
 rcases h.2 with h0 | ⟨g,cap,cur,rfl,hg,hh,r⟩
 ·exact .inl h0
 ·exact .inr ⟨g,cap,cur,rfl,hg,(hk g (lt_of_block hh) rfl).trans hh,r⟩
theorem OwnE.below (h:OwnE ec n T B w v L) (hb:Below w.heap.size w w'):OwnE ec n T B w' v L:=h.keep fun b hlt _=>hb.block b hlt
theorem OwnE.alloc (h:OwnE ec n T B w v L) (o:Obj):OwnE ec n T B (w.alloc o) v L:=h.below ((Below.refl _ _).alloc (Nat.le_refl _) o)
theorem OwnE.far (h:OwnE ec n T B w v L) {g:Nat} (hg:w.grownBy w' (some g)) (hB:g < B):OwnE ec n T B w' v L:=h.keep fun b hlt e=>hg.block b hlt (fun e'=>by
 have:=(World.ownsRow.lt h b e).1
 injection e' with e'
 omega)
theorem OwnE.set (h:OwnE ec n T B w v L) {g:Nat} (hB:g < B) (i:Nat) (u:Value):OwnE ec n T B (w.setCell ⟨g,i,none⟩ u) v L:=h.keep fun b _ e=>Below.heap_setCell w _ u b (fun e'=>by
 have:=(World.ownsRow.lt h b e).1
 simp only at e'
 omega)
theorem OwnE.row (h:OwnE ec n T B w v L) {g:Nat} {C:Array Value} (hB:g < B):OwnE ec n T B (w.setRow g C) v L:=h.keep fun b _ e=>setRow_other w g b _ (fun e'=>by
 have:=(World.ownsRow.lt h b e).1
 omega)
theorem OwnE.shape (h:OwnE ec n T B w v L):∃ A c,v=.slice A L.length c:=by
 rcases h.2 with ⟨rfl,h0⟩ | ⟨g,cap,cur,rfl,_⟩
 ·exact ⟨none,0,by rw [h0]⟩
 ·exact ⟨_,cap,rfl⟩
theorem els_one (w:World) (a:α) (C:Array Value) (T:TypeId) (h:(ec a).toArray=C):Els ec n (w.alloc (.cells C T)) (.slice (some ⟨w.heap.size,0,none⟩) 1 1) [a]:=by
 subst h
 refine ⟨_,1,rfl,Nat.le_refl _,by unfold maxLen;omega,fun _=>⟨w.heap.size,0,rfl,by simp,fun j hj k u hu=>?_⟩⟩
 obtain rfl:j=0:=by simpa using hj
 rw [Nat.zero_mul,Nat.zero_add,cell_blk (heap_alloc_new w _) k]
 simpa using hu
theorem Elt.run_append (E:Elt ec P n T SL) {x:Value} {l m:List α} (ty:TypeId) (hm:∀ a ∈ m,P a) (hv:OwnE ec n T B w v l) (hx:Els ec n w x m) (hs:l.length + m.length≤1000000) (hB:B≤w.heap.size):
  ∃ v' w',(Builtin.append_ #[SL,SL] ty #[v,x]).run Try.prog w=.ok v' w'∧OwnE ec n T B w' v' (l ++ m)∧w.grownBy w' v.ownBlock∧(v'.ownBlock=v.ownBlock∨v'.ownBlock=some w.heap.size):=by
 obtain ⟨i0,z,hi,hz0,hz1,hz2,hzc⟩:=E.info
 obtain ⟨A,c,rfl,hmc,hcm,hr⟩:=hx
 have hlm:(l ++ m).length=l.length + m.length:=by simp
 rcases A with _ | ad
 ·have h0:m=[]:=by
   rcases m with _ | ⟨x,m⟩
   ·rfl
   ·obtain ⟨_,_,h,_⟩:=hr (by simp)
    cases h
  subst h0
  refine ⟨v,w,?_,by rw [List.append_nil];exact hv,World.grownBy.refl w _,.inl rfl⟩
  rcases hv.2 with ⟨rfl,h0⟩ | ⟨g,cap,cur,rfl,_,_,hnc,_⟩
  ·simp [Builtin.append_,run_underlying E.under,sizeOf,typeInfo,hi,Builtin.lenOf,Builtin.firstCells]
  ·simp [Builtin.append_,run_underlying E.under,sizeOf,typeInfo,hi,Builtin.lenOf,Builtin.firstCells,hnc,storeCells]
 ·have hcells:∀ j u,(m.map ec).flatten[j]?=some u→w.cell? (ad.add j)=some u:=by
   intro j u hu
   obtain ⟨hj,hu'⟩:=E.ecs_get hm hu
   obtain ⟨b,off,e,_,hc⟩:=hr (Nat.lt_of_le_of_lt (Nat.zero_le _) hj)
   injection e with e
   subst e
   rw [addr_add]
   have:=hc (j / n) hj (j % n) u hu'
   rw [show off + j / n * n + j % n=off + j from by rw [Nat.add_assoc,Nat.div_add_mod' j n]] at this
   exact this
  have hby:(l.length + m.length) * i0.bytes≤140737488355328:=Nat.le_trans (Nat.mul_le_mul hs hz2) (by decide)
  obtain ⟨v',w',hrun,h2,h3,_,h5⟩:=run_append_own_at (P:=Try.prog) w B SL ty T i0 z n i0.bytes E.under hi hz0 hz1 rfl hzc E.pos v l.length (l.map ec).flatten hv ad m.length c (m.map ec).flatten (E.ecs_length hm) hcells (E.ecs_one m) (by unfold maxLen;omega) hby hB
  refine ⟨v',w',hrun,?_,h3,h5⟩
  unfold OwnE
  rw [hlm,List.map_append,List.flatten_append]
  exact h2
theorem Elt.wp_append (E:Elt ec P n T SL) {o:Oper} {a:Act} {K:Act→World→Prop} {Q:Exit→Act→World→Prop} (s y:Operand) (ho:o.op=.call { callee:=.builtin .append,args:=#[s,y],argTypes:=#[SL,SL] })
  {x:Value} {l m:List α} (hes:a.eval s=v) (hey:a.eval y=x) (hm:∀ a ∈ m,P a) (hv:OwnE ec n T B w v l) (hx:Els ec n w x m) (hs:l.length + m.length≤1000000) (hB:B≤w.heap.size)
  (h:∀ v' w',OwnE ec n T B w' v' (l ++ m)→w.grownBy w' v.ownBlock→(v'.ownBlock=v.ownBlock∨v'.ownBlock=some w.heap.size)→K (a.put o.dst v') w'):o.wp Try.prog a w K Q:=by
 obtain ⟨v',w',hrun,h2,h3,h4⟩:=E.run_append (w:=w) o.type hm hv hx hs hB
 unfold Oper.wp execOp
 simp only [ho,resolve,invoke,builtin,Sem.run_bind,Sem.run_pure,Result.andThen_ok,List.map_toArray,List.map_cons,List.map_nil,hes,hey,hrun]
 exact h v' w' h2 h3 h4
theorem Elt.wpList_append (E:Elt ec P n T SL) {ops:Array Oper} {rest:List Oper} {o:Oper} {a:Act} {Q:Exit→Act→World→Prop} (hgd:o.guard=none) (s y:Operand) (ho:o.op=.call { callee:=.builtin .append,args:=#[s,y],argTypes:=#[SL,SL] })
  {x:Value} {l m:List α} (hes:a.eval s=v) (hey:a.eval y=x) (hm:∀ a ∈ m,P a) (hv:OwnE ec n T B w v l) (hx:Els ec n w x m) (hs:l.length + m.length≤1000000) (hB:B≤w.heap.size)
  (h:∀ v' w',OwnE ec n T B w' v' (l ++ m)→w.grownBy w' v.ownBlock→(v'.ownBlock=v.ownBlock∨v'.ownBlock=some w.heap.size)→wpList Try.prog ops Q rest (a.put o.dst v') w'):wpList Try.prog ops Q (o :: rest) a w:=
 wpList_plain hgd fun _ hK=>E.wp_append s y ho hes hey hm hv hx hs hB fun v' w' h2 h3 h4=>hK _ _ (h v' w' h2 h3 h4)
end
end Go.Proofs.Ytfpgglclpkcdhaa
namespace Go.Proofs.Ytfpgglclpkcdhaa
set_option maxRecDepth 20000
open Go.ChangeShapes Go.WideShapes Go.ChangeAt Go.RowKit Go.Deep
section
variable {H:Type} {enc:TypeId × Value→H} {w:World} {base:Nat} {spare:Nat→Bool} {held:Bool} {fuel:Nat} {cs:List Value} {x:DataW H × List MemPlace}
theorem Elt.trod {α:Type} {ec:α→List Value} {P:α→Prop} {n:Nat} {T SL:TypeId} (E:Elt ec P n T SL) (a0:α) (h0:P a0)
  (el:∀ {fuel:Nat} {cs:List Value} {x:DataW H × List MemPlace},DataW.trod enc Try.prog w base spare held fuel T cs=some x→∃ a,P a∧cs=ec a)
  (h:DataW.trod enc Try.prog w base spare held fuel SL cs=some x):∃ v L,cs=[v]∧Els ec n w v L∧∀ a ∈ L,P a:=by
 rcases open_slice E.under h with ⟨rfl,_⟩ | ⟨a,len,cap,m,k,D,Pl,rfl,_,hl,hm,hmm,_,hi⟩
 ·exact ⟨_,[],rfl,⟨none,0,rfl,Nat.le_refl _,Nat.zero_le _,ElsA.nil _ _⟩,fun t ht=>by cases ht⟩
 ·have hlm:len≤m:=by rw [hmm];split <;> omega
  rw [E.cells] at hi
  have hex:∀ i,∃ t:α,P t∧(i < len→∀ j u,(ec t)[j]?=some u→w.cell? (a.add (i * n + j))=some u):=by
   intro i
   by_cases hil:i < len
   ·obtain ⟨cs',hcs,ht⟩:=hi i (by omega)
    obtain ⟨t,hb,rfl⟩:=el ht
    obtain ⟨_,hlen',hat⟩:=World.cells?_some hcs
    refine ⟨t,hb,fun _ j u hu=>?_⟩
    have hj:j < n:=by
     have:=(List.getElem?_eq_some_iff.1 hu).1
     rw [E.len t hb] at this
     exact this
    rw [← Go.Deep.add_add,hat j hj]
    exact hu
   ·exact ⟨a0,h0,fun h=>absurd h hil⟩
  refine ⟨_,(List.range len).map fun i=>(hex i).choose,rfl,⟨some a,cap,by simp,by simpa using hl,hm,fun h0'=>?_⟩,fun t ht=>?_⟩
  ·have h1:0 < len:=by simpa using h0'
   have hpos:=E.pos
   obtain ⟨b,off,spot⟩:=a
   have hl0:0 < (ec (hex 0).choose).length:=by rw [E.len _ (hex 0).choose_spec.1];exact hpos
   have hsp:=(hex 0).choose_spec.2 h1 0 _ (List.getElem?_eq_getElem hl0)
   have hspot:spot=none:=by simpa [Addr.add] using World.cell?_spot hsp
   subst hspot
   refine ⟨b,off,rfl,?_,fun i hil=>?_⟩
   ·have:=World.block_lt_of_cell? w _ hsp
    rw [addr_add] at this
    exact this
   ·have hil':i < len:=by simpa using hil
    simp only [List.getElem_map,List.getElem_range]
    intro j u hu
    have:=(hex i).choose_spec.2 hil' j u hu
    rw [addr_add] at this
    rw [← this,Nat.add_assoc]
  ·obtain ⟨i,_,rfl⟩:=List.mem_map.1 ht
   exact (hex i).choose_spec.1
end
end Go.Proofs.Ytfpgglclpkcdhaa
