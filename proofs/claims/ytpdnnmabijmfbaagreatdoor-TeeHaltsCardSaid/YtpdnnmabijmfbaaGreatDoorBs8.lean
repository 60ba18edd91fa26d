/-
  HashZero Concat Els ElsArg EltIc: what each of them says stands at its head.
-/
import Derived.Test.YtpdnnmabijmfbaaGreatDoorBs6
namespace Go.Proofs.YtpdnnmabijmfbaaGreatDoor
set_option maxRecDepth 20000
open Go.RowKit
noncomputable def buildH (w : World) : Result Next := Sem.run Tryz.prog (execOp (fun _ => undef) { dst := none, op := .build 38 #[], type := 0, pos := "", after := #[], guard := none }) w
theorem exec_build_hash (r:Operand→Value) (dst:Option Tmp) (ty:TypeId) (pos:String) (after:Array Edge) (guard:Option (Nat × Bool)) (w:World):
  Sem.run Tryz.prog (execOp r { dst:=dst,op:=.build 38 #[],type:=ty,pos:=pos,after:=after,guard:=guard }) w=buildH w:=by
 unfold buildH execOp
 simp
theorem buildH_eq (w:World):buildH w=.ok (.value (.agg (fcells 32 fun _=>bcell 0))) w:=by
 unfold buildH
 go_simp
 rfl
theorem fcells_nought:fcells 32 (fun _=>bcell 0)=hcells (List.replicate 32 0):=by kernel_rfl
end Go.Proofs.YtpdnnmabijmfbaaGreatDoor
namespace Go.Proofs.YtpdnnmabijmfbaaGreatDoor
set_option maxRecDepth 20000
open Go.RowKit
theorem own_none {B:Nat} {w:World} {v:Value} {l:List UInt8} (h:Own B w v l) (A:Option Addr) (n c:Nat) (e:v=.slice A n c):Own B w (.slice A 0 c) []:=by
 subst e
 refine ⟨rfl,?_⟩
 rcases h.2 with ⟨e,_⟩ | ⟨g,cap,cur,e,hg,hh,hn,hm,hs,ht⟩
 ·cases e
  exact .inl ⟨rfl,rfl⟩
 ·cases e
  exact .inr ⟨g,c,cur,rfl,hg,hh,Nat.zero_le _,hm,hs,by simp [bcells]⟩
theorem wpList_append_zeros {ops:Array Oper} {rest:List Oper} {o:Oper} {a:Act} {Q:Exit→Act→World→Prop} {w:World} (hgd:o.guard=none) (s y:Operand)
  (ho:o.op=.call { callee:=.builtin .append,args:=#[s,y],argTypes:=#[33,3] })
  {B:Nat} {v:Value} {l:List UInt8} {k:Nat} (hes:a.eval s=v) (hey:a.eval y=.int .i64 (k:Int)) (hv:Own B w v l) (hs:l.length + k≤140737488355328) (hB:B≤w.heap.size)
  (h:∀ A c w',Own B w' (.slice A (l.length + k) c) (l ++ List.replicate k 0)→w.grownBy w' v.ownBlock→wpList Tryz.prog ops Q rest (a.put o.dst (.slice A (l.length + k) c)) w'):
  wpList Tryz.prog ops Q (o :: rest) a w:=by
 obtain ⟨v',w',hrun,h2,h3,_⟩:=run_append_zeros_byt k o.type hv hs hB
 obtain ⟨A,c,rfl⟩:=h2.byt.shape
 have e:(l ++ List.replicate k (0:UInt8)).length=l.length + k:=by simp
 rw [e] at h2 hrun
 exact wpList_plain hgd fun _ hK=>Lib.wp_append_run w s y _ _ ho _ _ hes hey _ w' hrun (hK _ _ (h A c w' h2 h3))
set_option maxHeartbeats 1600000 in
theorem grow_any (n:Nat) (w:World) (hn:n≤140737488355328):
  Calls Tryz.prog 177 #[.slice none 0 0,.int .i64 (n:Int)] w fun e w'=>∃ v,e=.returned v∧Own w.heap.size w' v []∧Below w.heap.size w w':=by
 by_cases h0:n=0
 ·subst h0
  go_enter Tryz.func177,Tryz.ntmps177
  go_wp2_with fail
  go_ret
  exact ⟨_,rfl,Own.nil _ _,Below.refl _ _⟩
 ·have h1:(0:Int) < (n:Int):=by omega
  have h2:¬ (n:Int) < 0:=by omega
  have hn2:([]:List UInt8).length + n≤140737488355328:=by simpa using hn
  go_enter Tryz.func177,Tryz.ntmps177
  go_wp2_with (at_builtin;refine wpList_append_zeros rfl (.tmp 20) (.tmp 21) rfl rfl rfl (Own.nil w.heap.size w) hn2 (Nat.le_refl _) ?_;intro A1 c1 w1 ho1 hg1;have hm1:=ho1.byt.at_.2.2.1;unfold maxLen at hm1)
  go_ret
  exact ⟨_,rfl,own_none ho1 _ _ _ rfl,(Below.refl _ _).grown hg1 (Nat.le_refl _) (fun k hk=>by cases hk)⟩
set_option maxHeartbeats 1600000 in
theorem concat_any (ls:List (List UInt8)) (vs:Nat→Value) (g n c:Nat) (w:World) (hn:ls.length=n) (hg:g < w.heap.size) (hc:∀ j,j < n→w.cell? ⟨g,j,none⟩=some (vs j))
  (hv:∀ j (h:j < ls.length),Byt w (vs j) ls[j]) (hs:ls.flatten.length≤1099511627776) (hn2:n≤1000):
  Calls Tryz.prog 135 #[.slice (some ⟨g,0,none⟩) n c] w fun e w'=>∃ v,e=.returned v∧Own w.heap.size w' v ls.flatten∧Below w.heap.size w w':=by
 go_enter Tryz.func135,Tryz.ntmps135
 have Hn:=hid hn
 clear hn
 go_wp2
 go_loop [3,11] (fun sz ix=>∃ k:Nat,k≤n∧ix=.int .i64 k∧sz=.int .i64 (tot ls k)) (fun _ ix=>n - (intOf ix).toNat)
 case atStart=>exact ⟨0,Nat.zero_le _,rfl,by rw [tot_zero];rfl⟩
 case round=>
  obtain ⟨k,hk,rfl,rfl⟩:=hrel
  have htk:=tot_le ls k
  by_cases hlt:k < n
  ·have hlt':k < ls.length:=by rw [Hn.out];exact hlt
   have hck:=hc k hlt
   obtain ⟨A,cp,hvk,_⟩:=hv k hlt'
   have hts:=tot_succ ls k hlt'
   have htk1:=tot_le ls (k + 1)
   have hb:tot ls k + ls[k].length≤1099511627776:=by omega
   have hnn:¬ ((tot ls k:Int) + (ls[k].length:Int) < 0):=by omega
   rw [hvk] at hck
   have HT:=hid hts
   clear hts hvk hc hv
   go_wp2
   go_round
   case rel=>exact ⟨k + 1,by omega,by go_num,by rw [HT.out];go_num⟩
   case measure=>simp [intOf];omega
  ·obtain rfl:k=n:=by omega
   have hb3:tot ls k≤140737488355328:=by omega
   go_wp2_with fail
   refine (grow_any _ w hb3).mono ?_
   rintro e w0 ⟨v0,rfl,hv0,hb0⟩
   go_wp2
   go_loopw [6,27] (fun out ix wr=>∃ j:Nat,j≤k∧ix=.int .i64 j∧Own w.heap.size wr out (ls.take j).flatten∧Below w.heap.size w wr) (fun _ ix _=>k - (intOf ix).toNat)
   case atStart=>exact ⟨0,Nat.zero_le _,rfl,by simpa using hv0,hb0⟩
   case round=>
    obtain ⟨j,hj,rfl,hown,hbw⟩:=hrel
    by_cases hlt2:j < k
    ·have hlt':j < ls.length:=by rw [Hn.out];exact hlt2
     have hcj:wr.cell? ⟨g,j,none⟩=some (vs j):=(hbw.cell (p:=⟨g,j,none⟩) hg).trans (hc j hlt2)
     have hvj:=(hv j hlt').below hbw
     have hsum:(ls.take j).flatten.length + ls[j].length≤140737488355328:=by
      have:=tot_succ ls j hlt'
      have:=tot_le ls (j + 1)
      unfold tot at *
      omega
     have hbs:=hbw.size
     go_wp2_with (at_builtin;refine wpList_append_byt rfl (.tmp 31) (.tmp 32) rfl rfl rfl hown hvj hsum hbs ?_;intro v1 w1 hown1 hg1 _)
     have hfl:(ls.take j).flatten ++ ls[j]=(ls.take (j + 1)).flatten:=take_flat ls j hlt'
     have hb1:Below w.heap.size w w1:=hbw.grown hg1 hbs (fun k hk=>(World.ownsRow.lt hown k hk).1)
     rw [hfl] at hown1
     clear hfl hg1
     go_roundw
     case rel=>exact ⟨j + 1,by omega,by go_num,hown1,hb1⟩
     case measure=>simp [intOf];omega
    ·obtain rfl:j=k:=by omega
     go_wp2
     go_ret
     refine ⟨_,rfl,?_,hbw⟩
     have e:ls.take j=ls:=by rw [← Hn.out];exact List.take_length
     rw [e] at hown
     exact hown
theorem concat1 (u:Value) (l:List UInt8) (g c:Nat) (w:World) (hg:g < w.heap.size) (c0:w.cell? ⟨g,0,none⟩=some u) (hu:Byt w u l) (hs:l.length≤1099511627776):
  Calls Tryz.prog 135 #[.slice (some ⟨g,0,none⟩) 1 c] w fun e w'=>∃ v,e=.returned v∧Own w.heap.size w' v l∧Below w.heap.size w w':=by
 have h:=concat_any [l] (fun _=>u) g 1 c w rfl hg (fun j hj=>by
  match j,hj with
  | 0,_=>exact c0) (fun j hj=>by
  match j,hj with
  | 0,_=>exact hu) (by simpa using hs) (by omega)
 simpa using h
theorem concat2 (u v:Value) (l m:List UInt8) (g c:Nat) (w:World) (hg:g < w.heap.size) (c0:w.cell? ⟨g,0,none⟩=some u) (c1:w.cell? ⟨g,1,none⟩=some v) (hu:Byt w u l) (hv:Byt w v m) (hs:l.length + m.length≤1099511627776):
  Calls Tryz.prog 135 #[.slice (some ⟨g,0,none⟩) 2 c] w fun e w'=>∃ x,e=.returned x∧Own w.heap.size w' x (l ++ m)∧Below w.heap.size w w':=by
 have h:=concat_any [l,m] (fun j=>if j=0 then u else v) g 2 c w rfl hg (fun j hj=>by
  match j,hj with
  | 0,_=>exact c0
  | 1,_=>exact c1) (fun j hj=>by
  match j,hj with
  | 0,_=>exact hu
  | 1,_=>exact hv) (by simpa using hs) (by omega)
 simpa using h
end Go.Proofs.YtpdnnmabijmfbaaGreatDoor
namespace Go.Proofs.YtpdnnmabijmfbaaGreatDoor
set_option maxRecDepth 20000
open Go.RowKit
structure Elt {α:Type} (ec:α→List Value) (P:α→Prop) (n:Nat) (T SL:TypeId):Prop where
 pos:0 < n
 len:∀ a,P a→(ec a).length=n
 one:∀ a,∀ u ∈ ec a,u.oneCell'=true
 under:Tryz.prog.underlying SL=some (.slice T)
 cells:Tryz.prog.cellsOf T=n
 info:∃ i z,Tryz.prog.info? T=some i∧i.zero=some z∧i.size=n∧i.bytes≤100000∧z.cells.size=n
section
variable {α:Type} (ec:α→List Value) (n:Nat)
def ElsA (w:World) (A:Option Addr) (L:List α):Prop:=
 0 < L.length→∃ b off,A=some ⟨b,off,none⟩∧b < w.heap.size∧∀ j (h:j < L.length),w.rangeAt b (off + j * n) (ec L[j])
def Els (w:World) (v:Value) (L:List α):Prop:=∃ A c,v=.slice A L.length c∧L.length≤c∧c≤maxLen∧ElsA ec n w A L
def OwnE (T:TypeId) (B:Nat) (w:World) (v:Value) (L:List α):Prop:=w.ownsRow B T n v L.length (L.map ec).flatten
end
theorem range_kept {w w':World} {b o:Nat} {l:List Value} (h:w.rangeAt b o l) (hk:w'.heap[b]?=w.heap[b]?):w'.rangeAt b o l:=fun j u hu=>(World.cell?_of_block hk).trans (h j u hu)
section
variable {α:Type} {ec:α→List Value} {n:Nat} {w w':World} {A:Option Addr} {v:Value} {L:List α}
theorem ElsA.nil (w:World) (A:Option Addr):ElsA ec n w A []:=fun h=>absurd h (by simp)
theorem ElsA.below (h:ElsA ec n w A L) (hb:Below w.heap.size w w'):ElsA ec n w' A L:=fun hl=>by
 obtain ⟨b,off,e,hlt,hc⟩:=h hl
 exact ⟨b,off,e,Nat.lt_of_lt_of_le hlt hb.size,fun j hj=>range_kept (hc j hj) (hb.block b hlt)⟩
theorem Els.nil (w:World):Els ec n w (.slice none 0 0) []:=⟨none,0,rfl,Nat.le_refl _,Nat.zero_le _,ElsA.nil _ _⟩
theorem Els.below (h:Els ec n w v L) (hb:Below w.heap.size w w'):Els ec n w' v L:=by
 obtain ⟨A,c,rfl,h1,h2,h3⟩:=h
 exact ⟨A,c,rfl,h1,h2,h3.below hb⟩
theorem Els.len (h:Els ec n w v L):L.length≤maxLen:=by
 obtain ⟨_,_,_,h1,h2,_⟩:=h
 omega
theorem Els.shape (h:Els ec n w v L):∃ A c,v=.slice A L.length c:=by
 obtain ⟨A,c,e,_⟩:=h
 exact ⟨A,c,e⟩
theorem Els.at_ {k c:Nat} (h:Els ec n w (.slice A k c) L):k=L.length∧L.length≤c∧c≤maxLen∧ElsA ec n w A L:=by
 obtain ⟨A',c',e,h1,h2,h3⟩:=h
 injection e with e1 e2 e3
 subst e1 e2 e3
 exact ⟨rfl,h1,h2,h3⟩
end
section
variable {α:Type} {ec:α→List Value} {P:α→Prop} {n:Nat} {T SL:TypeId} {w w':World} {v:Value} {L:List α} {B:Nat}
theorem Elt.ecs_length (E:Elt ec P n T SL) (hL:∀ a ∈ L,P a):(L.map ec).flatten.length=L.length * n:=by
 induction L with
 | nil=>simp
 | cons a L ih=>
  rw [List.map_cons,List.flatten_cons,List.length_append,ih (fun x hx=>hL x (List.mem_cons_of_mem _ hx)),E.len a (hL a (by simp)),List.length_cons,Nat.succ_mul,Nat.add_comm]
theorem Elt.ecs_at (E:Elt ec P n T SL) (hL:∀ a ∈ L,P a) {j:Nat} (hj:j < L.length) {k:Nat} (hk:k < n):(L.map ec).flatten[j * n + k]?=(ec L[j])[k]?:=by
 induction L generalizing j with
 | nil=>simp at hj
 | cons a L ih=>
  have ha:=E.len a (hL a (by simp))
  rw [List.map_cons,List.flatten_cons]
  cases j with
  | zero=>
   rw [Nat.zero_mul,Nat.zero_add,List.getElem?_append_left (by rw [ha];exact hk)]
   rfl
  | succ j=>
   rw [List.getElem?_append_right (by rw [ha,Nat.succ_mul];omega),ha,show (j + 1) * n + k - n=j * n + k from by rw [Nat.succ_mul];omega]
   exact ih (fun x hx=>hL x (List.mem_cons_of_mem _ hx)) (by simpa using hj)
theorem Elt.ecs_get (E:Elt ec P n T SL) (hL:∀ a ∈ L,P a) {i:Nat} {u:Value} (h:(L.map ec).flatten[i]?=some u):∃ (hj:i / n < L.length),(ec L[i / n])[i % n]?=some u:=by
 have hi:=(List.getElem?_eq_some_iff.1 h).1
 rw [E.ecs_length hL] at hi
 have hj:i / n < L.length:=(Nat.div_lt_iff_lt_mul E.pos).2 hi
 refine ⟨hj,?_⟩
 have:=E.ecs_at hL hj (Nat.mod_lt i E.pos)
 rw [Nat.div_add_mod' i n,h] at this
 exact this.symm
theorem Elt.ecs_one (E:Elt ec P n T SL) (L:List α):∀ u ∈ (L.map ec).flatten,u.oneCell'=true:=by
 intro u hu
 obtain ⟨l,hl,hu⟩:=List.mem_flatten.1 hu
 obtain ⟨a,_,rfl⟩:=List.mem_map.1 hl
 exact E.one a u hu
theorem OwnE.nil (B:Nat) (w:World):OwnE ec n T B w (.slice none 0 0) []:=World.ownsRow_nil _ _ _ _
theorem OwnE.els (h:OwnE ec n T B w v L) (E:Elt ec P n T SL) (hL:∀ a ∈ L,P a):Els ec n w v L:=by
 rcases h.2 with ⟨rfl,h0⟩ | ⟨g,cap,cur,rfl,_,hh,hn,hm,hs,ht⟩
 ·have:L=[]:=List.eq_nil_of_length_eq_zero h0
  subst this
  exact Els.nil w
 ·refine ⟨_,cap,rfl,hn,hm,fun _=>⟨g,0,rfl,lt_of_block hh,fun j hj k u hu=>?_⟩⟩
  have hk:k < n:=by
   have:=(List.getElem?_eq_some_iff.1 hu).1
   rw [E.len _ (hL _ (List.getElem_mem hj))] at this
   exact this
  have hlt:j * n + k < L.length * n:=Nat.lt_of_lt_of_le (show j * n + k < (j + 1) * n by rw [Nat.succ_mul];omega) (Nat.mul_le_mul_right n hj)
  rw [Nat.zero_add,cell_of_row w g _ _ _ (0,0) hh,← Array.getElem?_toList]
  have e:=E.ecs_at hL hj hk
  rw [hu,← ht,List.getElem?_take_of_lt hlt] at e
  exact e
theorem OwnE.more (h:OwnE ec n T B w v L) {B':Nat} (hB:B'≤B):OwnE ec n T B' w v L:=by
 refine ⟨h.1,?_⟩
 rcases h.2 with h0 | ⟨g,cap,cur,e,hg,r⟩
 ·exact .inl h0
 ·exact .inr ⟨g,cap,cur,e,by omega,r⟩
theorem OwnE.keep (h:OwnE ec n T B w v L) (hk:∀ b,b < w.heap.size→v.ownBlock=some b→w'.heap[b]?=w.heap[b]?):OwnE ec n T B w' v L:=by
 refine ⟨h.1,?_⟩
 rcases h.2 with h0 | ⟨g,cap,cur,rfl,hg,hh,r⟩
 ·exact .inl h0
 ·exact .inr ⟨g,cap,cur,rfl,hg,(hk g (lt_of_block hh) rfl).trans hh,r⟩
theorem OwnE.below (h:OwnE ec n T B w v L) (hb:Below w.heap.size w w'):OwnE ec n T B w' v L:=h.keep fun b hlt _=>hb.block b hlt
theorem OwnE.alloc (h:OwnE ec n T B w v L) (o:Obj):OwnE ec n T B (w.alloc o) v L:=h.below ((Below.refl _ _).alloc (Nat.le_refl _) o)
theorem OwnE.far (h:OwnE ec n T B w v L) {g:Nat} (hg:w.grownBy w' (some g)) (hB:g < B):OwnE ec n T B w' v L:=h.keep fun b hlt e=>hg.block b hlt (fun e'=>by
 have:=(World.ownsRow.lt h b e).1
 injection e' with e'
 omega)
theorem OwnE.set (h:OwnE ec n T B w v L) {g:Nat} (hB:g < B) (i:Nat) (u:Value):OwnE ec n T B (w.setCell ⟨g,i,none⟩ u) v L:=h.keep fun b _ e=>Below.heap_setCell w _ u b (fun e'=>by
 have:=(World.ownsRow.lt h b e).1
 simp only at e'
 omega)
theorem OwnE.row (h:OwnE ec n T B w v L) {g:Nat} {C:Array Value} (hB:g < B):OwnE ec n T B (w.setRow g C) v L:=h.keep fun b _ e=>setRow_other w g b _ (fun e'=>by
 have:=(World.ownsRow.lt h b e).1
 omega)
theorem OwnE.shape (h:OwnE ec n T B w v L):∃ A c,v=.slice A L.length c:=by
 rcases h.2 with ⟨rfl,h0⟩ | ⟨g,cap,cur,rfl,_⟩
 ·exact ⟨none,0,by rw [h0]⟩
 ·exact ⟨_,cap,rfl⟩
theorem els_one (w:World) (a:α) (C:Array Value) (T:TypeId) (h:(ec a).toArray=C):Els ec n (w.alloc (.cells C T)) (.slice (some ⟨w.heap.size,0,none⟩) 1 1) [a]:=by
 subst h
 refine ⟨_,1,rfl,Nat.le_refl _,by unfold maxLen;omega,fun _=>⟨w.heap.size,0,rfl,by simp,fun j hj k u hu=>?_⟩⟩
 obtain rfl:j=0:=by simpa using hj
 rw [Nat.zero_mul,Nat.zero_add,cell_blk (heap_alloc_new w _) k]
 simpa using hu
theorem Elt.run_append (E:Elt ec P n T SL) {x:Value} {l m:List α} (ty:TypeId) (hm:∀ a ∈ m,P a) (hv:OwnE ec n T B w v l) (hx:Els ec n w x m) (hs:l.length + m.length≤1000000) (hB:B≤w.heap.size):
  ∃ v' w',(Builtin.append_ #[SL,SL] ty #[v,x]).run Tryz.prog w=.ok v' w'∧OwnE ec n T B w' v' (l ++ m)∧w.grownBy w' v.ownBlock∧(v'.ownBlock=v.ownBlock∨v'.ownBlock=some w.heap.size):=by
 obtain ⟨i0,z,hi,hz0,hz1,hz2,hzc⟩:=E.info
 obtain ⟨A,c,rfl,hmc,hcm,hr⟩:=hx
 have hlm:(l ++ m).length=l.length + m.length:=by simp
 rcases A with _ | ad
 ·have h0:m=[]:=by
   rcases m with _ | ⟨x,m⟩
   ·rfl
   ·obtain ⟨_,_,h,_⟩:=hr (by simp)
    cases h
  subst h0
  refine ⟨v,w,?_,by rw [List.append_nil];exact hv,World.grownBy.refl w _,.inl rfl⟩
  rcases hv.2 with ⟨rfl,h0⟩ | ⟨g,cap,cur,rfl,_,_,hnc,_⟩
  ·simp [Builtin.append_,run_underlying E.under,sizeOf,typeInfo,hi,Builtin.lenOf,Builtin.firstCells]
  ·simp [Builtin.append_,run_underlying E.under,sizeOf,typeInfo,hi,Builtin.lenOf,Builtin.firstCells,hnc,storeCells]
 ·have hcells:∀ j u,(m.map ec).flatten[j]?=some u→w.cell? (ad.add j)=some u:=by
   intro j u hu
   obtain ⟨hj,hu'⟩:=E.ecs_get hm hu
   obtain ⟨b,off,e,_,hc⟩:=hr (Nat.lt_of_le_of_lt (Nat.zero_le _) hj)
   injection e with e
   subst e
   rw [addr_add]
   have:=hc (j / n) hj (j % n) u hu'
   rw [show off + j / n * n + j % n=off + j from by rw [Nat.add_assoc,Nat.div_add_mod' j n]] at this
   exact this
  have hby:(l.length + m.length) * i0.bytes≤140737488355328:=Nat.le_trans (Nat.mul_le_mul hs hz2) (by decide)
  obtain ⟨v',w',hrun,h2,h3,_,h5⟩:=run_append_own_at (P:=Tryz.prog) w B SL ty T i0 z n i0.bytes E.under hi hz0 hz1 rfl hzc E.pos v l.length (l.map ec).flatten hv ad m.length c (m.map ec).flatten (E.ecs_length hm) hcells (E.ecs_one m) (by unfold maxLen;omega) hby hB
  refine ⟨v',w',hrun,?_,h3,h5⟩
  unfold OwnE
  rw [hlm,List.map_append,List.flatten_append]
  exact h2
theorem Elt.wp_append (E:Elt ec P n T SL) {o:Oper} {a:Act} {K:Act→World→Prop} {Q:Exit→Act→World→Prop} (s y:Operand) (ho:o.op=.call { callee:=.builtin .append,args:=#[s,y],argTypes:=#[SL,SL] })
  {x:Value} {l m:List α} (hes:a.eval s=v) (hey:a.eval y=x) (hm:∀ a ∈ m,P a) (hv:OwnE ec n T B w v l) (hx:Els ec n w x m) (hs:l.length + m.length≤1000000) (hB:B≤w.heap.size)
  (h:∀ v' w',OwnE ec n T B w' v' (l ++ m)→w.grownBy w' v.ownBlock→(v'.ownBlock=v.ownBlock∨v'.ownBlock=some w.heap.size)→K (a.put o.dst v') w'):o.wp Tryz.prog a w K Q:=by
 obtain ⟨v',w',hrun,h2,h3,h4⟩:=E.run_append (w:=w) o.type hm hv hx hs hB
 unfold Oper.wp execOp
 simp only [ho,resolve,invoke,builtin,Sem.run_bind,Sem.run_pure,Result.andThen_ok,List.map_toArray,List.map_cons,List.map_nil,hes,hey,hrun]
 exact h v' w' h2 h3 h4
theorem Elt.wpList_append (E:Elt ec P n T SL) {ops:Array Oper} {rest:List Oper} {o:Oper} {a:Act} {Q:Exit→Act→World→Prop} (hgd:o.guard=none) (s y:Operand) (ho:o.op=.call { callee:=.builtin .append,args:=#[s,y],argTypes:=#[SL,SL] })
  {x:Value} {l m:List α} (hes:a.eval s=v) (hey:a.eval y=x) (hm:∀ a ∈ m,P a) (hv:OwnE ec n T B w v l) (hx:Els ec n w x m) (hs:l.length + m.length≤1000000) (hB:B≤w.heap.size)
  (h:∀ v' w',OwnE ec n T B w' v' (l ++ m)→w.grownBy w' v.ownBlock→(v'.ownBlock=v.ownBlock∨v'.ownBlock=some w.heap.size)→wpList Tryz.prog ops Q rest (a.put o.dst v') w'):wpList Tryz.prog ops Q (o :: rest) a w:=
 wpList_plain hgd fun _ hK=>E.wp_append s y ho hes hey hm hv hx hs hB fun v' w' h2 h3 h4=>hK _ _ (h v' w' h2 h3 h4)
end
end Go.Proofs.YtpdnnmabijmfbaaGreatDoor
namespace Go.Proofs.YtpdnnmabijmfbaaGreatDoor
set_option maxRecDepth 20000
open Go.ChangeShapes Go.WideShapes Go.ChangeAt Go.RowKit Go.Deep
section
variable {H:Type} {enc:TypeId × Value→H} {w:World} {base:Nat} {spare:Nat→Bool} {held:Bool} {fuel:Nat} {cs:List Value} {x:DataW H × List MemPlace}
theorem Elt.trod {α:Type} {ec:α→List Value} {P:α→Prop} {n:Nat} {T SL:TypeId} (E:Elt ec P n T SL) (a0:α) (h0:P a0)
  (el:∀ {fuel:Nat} {cs:List Value} {x:DataW H × List MemPlace},DataW.trod enc Tryz.prog w base spare held fuel T cs=some x→∃ a,P a∧cs=ec a)
  (h:DataW.trod enc Tryz.prog w base spare held fuel SL cs=some x):∃ v L,cs=[v]∧Els ec n w v L∧∀ a ∈ L,P a:=by
 rcases open_slice E.under h with ⟨rfl,_⟩ | ⟨a,len,cap,m,k,D,Pl,rfl,_,hl,hm,hmm,_,hi⟩
 ·exact ⟨_,[],rfl,⟨none,0,rfl,Nat.le_refl _,Nat.zero_le _,ElsA.nil _ _⟩,fun t ht=>by cases ht⟩
 ·have hlm:len≤m:=by rw [hmm];split <;> omega
  rw [E.cells] at hi
  have hex:∀ i,∃ t:α,P t∧(i < len→∀ j u,(ec t)[j]?=some u→w.cell? (a.add (i * n + j))=some u):=by
   intro i
   by_cases hil:i < len
   ·obtain ⟨cs',hcs,ht⟩:=hi i (by omega)
    obtain ⟨t,hb,rfl⟩:=el ht
    obtain ⟨_,hlen',hat⟩:=World.cells?_some hcs
    refine ⟨t,hb,fun _ j u hu=>?_⟩
    have hj:j < n:=by
     have:=(List.getElem?_eq_some_iff.1 hu).1
     rw [E.len t hb] at this
     exact this
    rw [← Go.Deep.add_add,hat j hj]
    exact hu
   ·exact ⟨a0,h0,fun h=>absurd h hil⟩
  refine ⟨_,(List.range len).map fun i=>(hex i).choose,rfl,⟨some a,cap,by simp,by simpa using hl,hm,fun h0'=>?_⟩,fun t ht=>?_⟩
  ·have h1:0 < len:=by simpa using h0'
   have hpos:=E.pos
   obtain ⟨b,off,spot⟩:=a
   have hl0:0 < (ec (hex 0).choose).length:=by rw [E.len _ (hex 0).choose_spec.1];exact hpos
   have hsp:=(hex 0).choose_spec.2 h1 0 _ (List.getElem?_eq_getElem hl0)
   have hspot:spot=none:=by simpa [Addr.add] using World.cell?_spot hsp
   subst hspot
   refine ⟨b,off,rfl,?_,fun i hil=>?_⟩
   ·have:=World.block_lt_of_cell? w _ hsp
    rw [addr_add] at this
    exact this
   ·have hil':i < len:=by simpa using hil
    simp only [List.getElem_map,List.getElem_range]
    intro j u hu
    have:=(hex i).choose_spec.2 hil' j u hu
    rw [addr_add] at this
    rw [← this,Nat.add_assoc]
  ·obtain ⟨i,_,rfl⟩:=List.mem_map.1 ht
   exact (hex i).choose_spec.1
end
end Go.Proofs.YtpdnnmabijmfbaaGreatDoor
namespace Go.Proofs.YtpdnnmabijmfbaaGreatDoor
set_option maxRecDepth 20000
open Go.RowKit
def icl (n:Int):List Value:=[.int .i64 n]
theorem info_int:(Tryz.prog.info? 3).map (fun i=>(i.zero,i.size,decide (i.bytes≤100000)))=some (some (.int .i64 0),1,true):=by kernel_rfl
theorem eltIc:Elt icl (fun _=>True) 1 3 50:=by
 refine ⟨by omega,fun _ _=>rfl,fun a u hu=>by obtain rfl:=List.mem_singleton.1 hu;rfl,by kernel_rfl,by kernel_rfl,?_⟩
 obtain ⟨i,hi,h⟩:=Option.map_eq_some_iff.1 info_int
 injection h with h1 h
 injection h with h2 h3
 exact ⟨i,_,hi,h1,h2,of_decide_eq_true h3,rfl⟩
end Go.Proofs.YtpdnnmabijmfbaaGreatDoor
