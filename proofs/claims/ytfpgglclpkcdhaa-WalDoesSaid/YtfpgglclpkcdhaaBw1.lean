/-
  Words Append Cut Same Bare Reader Arr RefText Row Puts Take: what each of them says stands at its head.
-/
import Derived.Below
import Derived.Deep.AppendLies
import Derived.Deep.Draws
import Derived.Laws.AppendOwnNone
import Derived.Laws.OwnMore
import Derived.Maps.AppendAt
import Derived.OwnWalk
import Derived.Test.YtfpgglclpkcdhaaRows
import Derived.WalkKit
import Derived.WalkSpells
import Derived.Deep.RegionLaw
import Derived.RegionTactic
import Derived.BigQuiet
import Derived.Deep.QuietTactic
import Derived.LoopTactic
import Derived.Outline
import Derived.ArgAppend
import Derived.LaidEqlPtr
import Derived.Laws.Bits64
import Derived.Laws.BitsAllLaws
import Derived.WalkLawsBesides
import Derived.ChangeKeysEq
import Derived.Deep.MidRow
import Derived.Laws.CopyOwn
import Derived.Laws.Rows
import Derived.Laws.StructEq
import Derived.Laws.Tables
import Derived.Deep.RegionHeld3
import Derived.Handy
import Derived.StillTailTactics
import Derived.ChangeOld
import Derived.OpenShut
import Derived.ProofKit
import Derived.ShutString
import Derived.ChangeArms
import Derived.Deep.Slices
namespace Go.Proofs.Ytfpgglclpkcdhaa
set_option maxRecDepth 20000
open Go.RowKit
theorem hid {p:Prop} (h:p):Hid p:=h
def bcell (c:UInt8):Value:=.int .u8 (c.toNat:Int)
def bcells (l:List UInt8):List Value:=l.map bcell
theorem bcells_length (l:List UInt8):(bcells l).length=l.length:=by simp [bcells]
theorem bcells_append (l m:List UInt8):bcells (l ++ m)=bcells l ++ bcells m:=by simp [bcells]
theorem bcells_one (l:List UInt8):∀ u ∈ bcells l,u.oneCell'=true:=by
 intro u hu
 obtain ⟨c,_,rfl⟩:=List.mem_map.1 hu
 rfl
theorem bcells_get (l:List UInt8) (j:Nat) (u:Value) (h:(bcells l)[j]?=some u):∃ hj:j < l.length,u=bcell l[j]:=by
 have hj:j < l.length:=by
  have:=(List.getElem?_eq_some_iff.1 h).1
  simpa [bcells] using this
 refine ⟨hj,?_⟩
 simp [bcells,hj] at h
 exact h.symm
theorem byte_lt (c:UInt8):(0:Int)≤(c.toNat:Int)∧(c.toNat:Int)≤255:=by
 have:=c.toNat_lt
 omega
def RdB (w:World) (A:Option Addr) (l:List UInt8):Prop:=
 0 < l.length→∃ b off,A=some ⟨b,off,none⟩∧b < w.heap.size∧∀ j (h:j < l.length),w.cell? ⟨b,off + j,none⟩=some (bcell l[j])
def Byt (w:World) (v:Value) (l:List UInt8):Prop:=∃ A c,v=.slice A l.length c∧l.length≤c∧c≤maxLen∧RdB w A l
def Own (B:Nat) (w:World) (v:Value) (l:List UInt8):Prop:=w.ownsRow B 5 1 v l.length (bcells l)
section
variable {w w':World} {A:Option Addr} {v:Value} {l:List UInt8} {B:Nat}
theorem RdB.nil (w:World) (A:Option Addr):RdB w A []:=fun h=>absurd h (by simp)
theorem RdB.keep (h:RdB w A l) (hs:w.heap.size≤w'.heap.size) (hk:∀ b off,A=some ⟨b,off,none⟩→b < w.heap.size→w'.heap[b]?=w.heap[b]?):RdB w' A l:=fun hl=>by
 obtain ⟨b,off,e,hb,hc⟩:=h hl
 exact ⟨b,off,e,by omega,fun j hj=>(World.cell?_of_block (hk b off e hb)).trans (hc j hj)⟩
theorem RdB.below (h:RdB w A l) (hb:Below w.heap.size w w'):RdB w' A l:=h.keep hb.size fun b _ _ hlt=>hb.block b hlt
theorem Byt.keep (h:Byt w v l) (hs:w.heap.size≤w'.heap.size) (hk:∀ b,b < w.heap.size→v.ownBlock=some b→w'.heap[b]?=w.heap[b]?):Byt w' v l:=by
 obtain ⟨A,c,rfl,h1,h2,h3⟩:=h
 exact ⟨A,c,rfl,h1,h2,h3.keep hs fun b off e hlt=>hk b hlt (by subst e;rfl)⟩
theorem Byt.below (h:Byt w v l) (hb:Below w.heap.size w w'):Byt w' v l:=h.keep hb.size fun b hlt _=>hb.block b hlt
theorem Byt.nil (w:World):Byt w (.slice none 0 0) []:=⟨none,0,rfl,Nat.le_refl _,Nat.zero_le _,RdB.nil _ _⟩
theorem Byt.len (h:Byt w v l):l.length≤maxLen:=by
 obtain ⟨_,_,_,h1,h2,_⟩:=h
 omega
theorem Own.nil (B:Nat) (w:World):Own B w (.slice none 0 0) []:=World.ownsRow_nil _ _ _ _
theorem Own.byt (h:Own B w v l):Byt w v l:=by
 rcases h.2 with ⟨rfl,h0⟩ | ⟨g,cap,cur,rfl,_,hh,hn,hm,hs,ht⟩
 ·have:l=[]:=List.eq_nil_of_length_eq_zero h0
  subst this
  exact Byt.nil w
 ·refine ⟨_,cap,rfl,hn,hm,fun _=>⟨g,0,rfl,lt_of_block hh,fun j hj=>?_⟩⟩
  rw [Nat.zero_add,World.ownsRow.cellAt h j (by omega)]
  simp [bcells,hj]
theorem Own.more (h:Own B w v l) {B':Nat} (hB:B'≤B):Own B' w v l:=by
 refine ⟨h.1,?_⟩
 rcases h.2 with h0 | ⟨g,cap,cur,e,hg,r⟩
 ·exact .inl h0
 ·exact .inr ⟨g,cap,cur,e,by omega,r⟩
theorem Own.keep (h:Own B w v l) (hk:∀ b,b < w.heap.size→v.ownBlock=some b→w'.heap[b]?=w.heap[b]?):Own B w' v l:=by
 refine ⟨h.1,?_⟩
 rcases h.2 with h0 | ⟨g,cap,cur,rfl,hg,hh,r⟩
 ·exact .inl h0
 ·exact .inr ⟨g,cap,cur,rfl,hg,(hk g (lt_of_block hh) rfl).trans hh,r⟩
theorem Own.below (h:Own B w v l) (hb:Below w.heap.size w w'):Own B w' v l:=h.keep fun b hlt _=>hb.block b hlt
end
theorem Byt.shape {w:World} {v:Value} {l:List UInt8} (h:Byt w v l):∃ A c,v=.slice A l.length c:=by
 obtain ⟨A,c,e,_⟩:=h
 exact ⟨A,c,e⟩
theorem Byt.at_ {w:World} {A:Option Addr} {n c:Nat} {l:List UInt8} (h:Byt w (.slice A n c) l):n=l.length∧l.length≤c∧c≤maxLen∧RdB w A l:=by
 obtain ⟨A',c',e,h1,h2,h3⟩:=h
 injection e with e1 e2 e3
 subst e1 e2 e3
 exact ⟨rfl,h1,h2,h3⟩
theorem Byt.alloc {w:World} {v:Value} {l:List UInt8} (h:Byt w v l) (o:Obj):Byt (w.alloc o) v l:=h.below ((Below.refl _ _).alloc (Nat.le_refl _) o)
theorem Byt.drewN {w:World} {v:Value} {l:List UInt8} (h:Byt w v l) (n:Nat):Byt (w.drewN n) v l:=h
theorem below_drewN {B:Nat} {a w:World} (h:Below B a w) (n:Nat):Below B a (w.drewN n):=⟨h.os,h.tape,h.output,h.size,h.block⟩
end Go.Proofs.Ytfpgglclpkcdhaa
namespace Go.Proofs.Ytfpgglclpkcdhaa
set_option maxRecDepth 20000
open Go.RowKit
theorem info_u8:(Try.prog.info? 5).map (fun i=>(i.zero,i.size,i.bytes))=some (some (.int .u8 0),1,1):=by kernel_rfl
theorem under_bytes:Try.prog.underlying 33=some (.slice 5):=by kernel_rfl
theorem addr_add (b off j:Nat):(⟨b,off,none⟩:Addr).add j=⟨b,off + j,none⟩:=by
 unfold Addr.add
 split <;> simp_all
theorem run_append_byt {w:World} {B:Nat} {v x:Value} {l m:List UInt8} (ty:TypeId) (hv:Own B w v l) (hx:Byt w x m) (hs:l.length + m.length≤140737488355328) (hB:B≤w.heap.size):
  ∃ v' w',(Builtin.append_ #[33,33] ty #[v,x]).run Try.prog w=.ok v' w'∧Own B w' v' (l ++ m)∧w.grownBy w' v.ownBlock∧(v'.ownBlock=v.ownBlock∨v'.ownBlock=some w.heap.size):=by
 obtain ⟨i0,hi,hz0,hz1,hz2⟩:=info_parts info_u8
 obtain ⟨A,c,rfl,hmc,hcm,hr⟩:=hx
 have hlm:(l ++ m).length=l.length + m.length:=by simp
 rcases A with _ | ad
 ·have h0:m=[]:=by
   rcases m with _ | ⟨x,m⟩
   ·rfl
   ·obtain ⟨_,_,h,_⟩:=hr (by simp)
    cases h
  subst h0
  refine ⟨v,w,?_,by rw [List.append_nil];exact hv,World.grownBy.refl w _,.inl rfl⟩
  rcases hv.2 with ⟨rfl,h0⟩ | ⟨g,cap,cur,rfl,_,_,hnc,_⟩
  ·simp [Builtin.append_,run_underlying under_bytes,sizeOf,typeInfo,hi,Builtin.lenOf,Builtin.firstCells]
  ·simp [Builtin.append_,run_underlying under_bytes,sizeOf,typeInfo,hi,Builtin.lenOf,Builtin.firstCells,hnc,storeCells]
 ·have hcells:∀ j u,(bcells m)[j]?=some u→w.cell? (ad.add j)=some u:=by
   intro j u hu
   obtain ⟨hj,rfl⟩:=bcells_get m j u hu
   obtain ⟨b,off,e,_,hc⟩:=hr (by omega)
   injection e with e
   subst e
   rw [addr_add]
   exact hc j hj
  obtain ⟨v',w',hrun,h2,h3,_,h5⟩:=run_append_own_at (P:=Try.prog) w B 33 ty 5 i0 (.int .u8 0) 1 1 under_bytes hi hz0 hz1 hz2 rfl (by omega) v l.length (bcells l) hv ad m.length c (bcells m) (by simp [bcells]) hcells (bcells_one m) (by unfold maxLen;omega) (by omega) hB
  refine ⟨v',w',hrun,?_,h3,h5⟩
  unfold Own
  rw [hlm,bcells_append]
  exact h2
theorem wp_append_byt {o:Oper} {a:Act} {K:Act→World→Prop} {Q:Exit→Act→World→Prop} {w:World} (s y:Operand)
  (ho:o.op=.call { callee:=.builtin .append,args:=#[s,y],argTypes:=#[33,33] })
  {B:Nat} {v x:Value} {l m:List UInt8} (hes:a.eval s=v) (hey:a.eval y=x) (hv:Own B w v l) (hx:Byt w x m) (hs:l.length + m.length≤140737488355328) (hB:B≤w.heap.size)
  (h:∀ v' w',Own B w' v' (l ++ m)→w.grownBy w' v.ownBlock→(v'.ownBlock=v.ownBlock∨v'.ownBlock=some w.heap.size)→K (a.put o.dst v') w'):o.wp Try.prog a w K Q:=by
 obtain ⟨v',w',hrun,h2,h3,h4⟩:=run_append_byt o.type hv hx hs hB
 unfold Oper.wp execOp
 simp only [ho,resolve,invoke,builtin,Sem.run_bind,Sem.run_pure,Result.andThen_ok,List.map_toArray,List.map_cons,List.map_nil,hes,hey,hrun]
 exact h v' w' h2 h3 h4
theorem wpList_append_byt {ops:Array Oper} {rest:List Oper} {o:Oper} {a:Act} {Q:Exit→Act→World→Prop} {w:World} (hgd:o.guard=none) (s y:Operand)
  (ho:o.op=.call { callee:=.builtin .append,args:=#[s,y],argTypes:=#[33,33] })
  {B:Nat} {v x:Value} {l m:List UInt8} (hes:a.eval s=v) (hey:a.eval y=x) (hv:Own B w v l) (hx:Byt w x m) (hs:l.length + m.length≤140737488355328) (hB:B≤w.heap.size)
  (h:∀ v' w',Own B w' v' (l ++ m)→w.grownBy w' v.ownBlock→(v'.ownBlock=v.ownBlock∨v'.ownBlock=some w.heap.size)→wpList Try.prog ops Q rest (a.put o.dst v') w'):
  wpList Try.prog ops Q (o :: rest) a w:=
 wpList_plain hgd fun _ hK=>wp_append_byt s y ho hes hey hv hx hs hB fun v' w' h2 h3 h4=>hK _ _ (h v' w' h2 h3 h4)
theorem Own.alloc {w:World} {B:Nat} {v:Value} {l:List UInt8} (h:Own B w v l) (o:Obj):Own B (w.alloc o) v l:=World.ownsRow.alloc h o
theorem Own.drewN {w:World} {B:Nat} {v:Value} {l:List UInt8} (h:Own B w v l) (n:Nat):Own B (w.drewN n) v l:=h
theorem Own.grows {w w':World} {B:Nat} {v v':Value} {l:List UInt8} {w0:World} (h:Own B w v l) (hb:Below B w0 w) (hB:B≤w.heap.size) (hg:w.grownBy w' v'.ownBlock) (hv:v'.ownBlock=v.ownBlock):Below B w0 w':=
 hb.grown hg hB fun k hk=>(World.ownsRow.lt h k (by rw [← hv];exact hk)).1
end Go.Proofs.Ytfpgglclpkcdhaa
namespace Go.Proofs.Ytfpgglclpkcdhaa
set_option maxRecDepth 20000
open Go.RowKit
noncomputable def cutH (v h : Value) (w : World) : Result Next := Sem.run Try.prog (execOp (fun o => match o with | .tmp 0 => v | _ => h) { dst := none, op := .slice 33 (.tmp 0) none (some (.tmp 1)) none, type := 0, pos := "", after := #[], guard := none }) w
noncomputable def cutL (v l : Value) (w : World) : Result Next := Sem.run Try.prog (execOp (fun o => match o with | .tmp 0 => v | _ => l) { dst := none, op := .slice 33 (.tmp 0) (some (.tmp 1)) none none, type := 0, pos := "", after := #[], guard := none }) w
noncomputable def cutLH (v l h : Value) (w : World) : Result Next := Sem.run Try.prog (execOp (fun o => match o with | .tmp 0 => v | .tmp 1 => l | _ => h) { dst := none, op := .slice 33 (.tmp 0) (some (.tmp 1)) (some (.tmp 2)) none, type := 0, pos := "", after := #[], guard := none }) w
theorem exec_cutH (r:Operand→Value) (x h:Operand) (dst:Option Tmp) (ty:TypeId) (pos:String) (after:Array Edge) (guard:Option (Nat × Bool)) (w:World):
  Sem.run Try.prog (execOp r { dst:=dst,op:=.slice 33 x none (some h) none,type:=ty,pos:=pos,after:=after,guard:=guard }) w=cutH (r x) (r h) w:=rfl
theorem exec_cutL (r:Operand→Value) (x l:Operand) (dst:Option Tmp) (ty:TypeId) (pos:String) (after:Array Edge) (guard:Option (Nat × Bool)) (w:World):
  Sem.run Try.prog (execOp r { dst:=dst,op:=.slice 33 x (some l) none none,type:=ty,pos:=pos,after:=after,guard:=guard }) w=cutL (r x) (r l) w:=rfl
theorem exec_cutLH (r:Operand→Value) (x l h:Operand) (dst:Option Tmp) (ty:TypeId) (pos:String) (after:Array Edge) (guard:Option (Nat × Bool)) (w:World):
  Sem.run Try.prog (execOp r { dst:=dst,op:=.slice 33 x (some l) (some h) none,type:=ty,pos:=pos,after:=after,guard:=guard }) w=cutLH (r x) (r l) (r h) w:=rfl
theorem RdB.sub {w:World} {A:Option Addr} {l:List UInt8} (h:RdB w A l) (i k c:Nat) (hik:i≤k) (hk:k≤l.length) (hc:l.length≤c):RdB w (if c=i then A else A.map (·.add i)) ((l.drop i).take (k - i)):=fun h0=>by
 rw [List.length_take,List.length_drop] at h0
 obtain ⟨b,off,rfl,hb,hcl⟩:=h (by omega)
 rw [if_neg (by omega)]
 refine ⟨b,off + i,by rw [Option.map_some,addr_add],hb,fun j hj=>?_⟩
 rw [List.length_take,List.length_drop] at hj
 rw [Nat.add_assoc,hcl (i + j) (by omega),List.getElem_take,List.getElem_drop]
theorem sub_length {l:List UInt8} {i k:Nat} (hk:k≤l.length):((l.drop i).take (k - i)).length=k - i:=by
 rw [List.length_take,List.length_drop]
 omega
theorem cut_lh (A:Option Addr) (c L i k:Nat) (hik:i≤k) (hk:k≤L) (hc:L≤c):∃ A' c',(∀ w,cutLH (.slice A L c) (.int .i64 (i:Int)) (.int .i64 (k:Int)) w=.ok (.value (.slice A' (k - i) c')) w)∧∀ w l,l.length=L→Byt w (.slice A L c) l→Byt w (.slice A' (k - i) c') ((l.drop i).take (k - i)):=by
 refine ⟨if c=i then A else A.map (·.add i),c - i,fun w=>?_,fun w l hl hv=>?_⟩
 ·obtain ⟨i0,hi,hz0,hz1,hz2⟩:=info_parts info_u8
  have hk4:k≤c:=by omega
  unfold cutLH execOp
  simp [Instr.sliceAt,Instr.slice,run_underlying under_bytes,Instr.sliceBounds,Instr.sliceBound,asIntOf,sizeOf,typeInfo,hi,hz1,hik,hk4,Sem.run_bind]
 ·obtain ⟨_,h1,h2,h3⟩:=hv.at_
  have hs:=sub_length (l:=l) (i:=i) (k:=k) (by omega)
  exact ⟨_,_,by rw [hs],by omega,by omega,h3.sub i k c hik (by omega) (by omega)⟩
theorem cut_h (A:Option Addr) (c L k:Nat) (hk:k≤L) (hc:L≤c):∃ A' c',(∀ w,cutH (.slice A L c) (.int .i64 (k:Int)) w=.ok (.value (.slice A' k c')) w)∧∀ w l,l.length=L→Byt w (.slice A L c) l→Byt w (.slice A' k c') (l.take k):=by
 refine ⟨if c=0 then A else A.map (·.add 0),c,fun w=>?_,fun w l hl hv=>?_⟩
 ·obtain ⟨i0,hi,hz0,hz1,hz2⟩:=info_parts info_u8
  have hk4:k≤c:=by omega
  unfold cutH execOp
  simp [Instr.sliceAt,Instr.slice,run_underlying under_bytes,Instr.sliceBounds,Instr.sliceBound,asIntOf,sizeOf,typeInfo,hi,hk4,Sem.run_bind]
 ·obtain ⟨_,h1,h2,h3⟩:=hv.at_
  have hs:=sub_length (l:=l) (i:=0) (k:=k) (by omega)
  have h4:=h3.sub 0 k c (Nat.zero_le _) (by omega) (by omega)
  rw [List.drop_zero,Nat.sub_zero] at h4 hs
  exact ⟨_,_,by rw [hs],by omega,by omega,h4⟩
theorem cut_l (A:Option Addr) (c L i:Nat) (hi:i≤L) (hc:L≤c):∃ A' c',(∀ w,cutL (.slice A L c) (.int .i64 (i:Int)) w=.ok (.value (.slice A' (L - i) c')) w)∧∀ w l,l.length=L→Byt w (.slice A L c) l→Byt w (.slice A' (L - i) c') (l.drop i):=by
 refine ⟨if c=i then A else A.map (·.add i),c - i,fun w=>?_,fun w l hl hv=>?_⟩
 ·obtain ⟨i0,hi0,hz0,hz1,hz2⟩:=info_parts info_u8
  unfold cutL execOp
  simp [Instr.sliceAt,Instr.slice,run_underlying under_bytes,Instr.sliceBounds,Instr.sliceBound,asIntOf,sizeOf,typeInfo,hi0,hz1,hi,Sem.run_bind]
 ·obtain ⟨_,h1,h2,h3⟩:=hv.at_
  have hs:=sub_length (l:=l) (i:=i) (k:=l.length) (by omega)
  have h4:=h3.sub i l.length c (by omega) (by omega) (by omega)
  have e:(l.drop i).take (l.length - i)=l.drop i:=List.take_of_length_le (by rw [List.length_drop];omega)
  rw [e] at h4 hs
  exact ⟨_,_,by rw [hs,hl],by omega,by omega,h4⟩
theorem new_cell (w:World) (C:Array Value) (T:TypeId) (i:Nat) (v:Value) (h:C[i]?=some v):(w.alloc (.cells C T)).cell? ⟨w.heap.size,i,none⟩=some v:=by
 rw [cell_of_row _ _ _ _ _ (0,0) (heap_alloc_new w _)]
 exact h
end Go.Proofs.Ytfpgglclpkcdhaa
namespace Go.Proofs.Ytfpgglclpkcdhaa
set_option maxRecDepth 20000
open Go.RowKit
set_option maxHeartbeats 1600000 in
theorem same_any (u v:Value) (l m:List UInt8) (w:World) (hu:Byt w u l) (hv:Byt w v m):
  Calls Try.prog 38 #[u,v] w fun e w'=>e=.returned (.bool (decide (l=m)))∧∃ n,w'=w.drewN n:=by
 obtain ⟨A,c,rfl⟩:=hu.shape
 obtain ⟨B,d,rfl⟩:=hv.shape
 obtain ⟨_,hc1,hc2,hr⟩:=hu.at_
 obtain ⟨_,hd1,hd2,hs⟩:=hv.at_
 unfold maxLen at hc2 hd2
 obtain ⟨L,HL⟩:∃ L:Nat,Hid (l.length=L):=⟨_,rfl⟩
 obtain ⟨M,HM⟩:∃ M:Nat,Hid (m.length=M):=⟨_,rfl⟩
 rw [HL.out] at hc1 ⊢
 rw [HM.out] at hd1 ⊢
 by_cases hne:L=M
 ·subst hne
  have hb0:((L:Int) != (L:Int))=false:=by simp
  by_cases h0:L=0
  ·subst h0
   have e:decide (l=m)=true:=by
    have h1:l=[]:=List.eq_nil_of_length_eq_zero HL.out
    have h2:m=[]:=List.eq_nil_of_length_eq_zero HM.out
    simp [h1,h2]
   rw [e]
   clear e
   go_enter Try.func38,Try.ntmps38
   go_wp2
   refine wp_loop_rounds 1 ?_
   rw [rounds_succ]
   go_wp2
   go_ret
   exact ⟨rfl,0,rfl⟩
  ·obtain ⟨b,off,rfl,hb,hcl⟩:=hr (by have:=HL.out;omega)
   obtain ⟨b2,off2,rfl,hb2,hcm⟩:=hs (by have:=HM.out;omega)
   obtain ⟨ans,HA⟩:∃ ans:Bool,Hid (decide (l=m)=ans):=⟨_,rfl⟩
   rw [HA.out]
   go_enter Try.func38,Try.ntmps38
   go_wp2
   go_loopw [5] (fun si wr=>∃ i:Nat,i≤L∧si=.int .i64 i∧Hid (∀ j (h:j < l.length) (h2:j < m.length),j < i→l[j]=m[j])∧∃ n,wr=w.drewN n) (fun si _=>L - (intOf si).toNat)
   case atStart=>exact ⟨0,Nat.zero_le _,rfl,hid (fun j _ _ h=>absurd h (by omega)),0,rfl⟩
   case round=>
    obtain ⟨i,hi,rfl,HB,n,rfl⟩:=hrel
    by_cases hlt:i < L
    ·have hil:i < l.length:=by rw [HL.out];exact hlt
     have him:i < m.length:=by rw [HM.out];exact hlt
     have c1:w.cell? ⟨b,off + i,none⟩=some (bcell l[i]):=hcl i hil
     have c2:w.cell? ⟨b2,off2 + i,none⟩=some (bcell m[i]):=hcm i him
     obtain ⟨x,hx0,hx1,HX⟩:∃ x:Int,0≤x∧x≤255∧Hid ((l[i].toNat:Int)=x):=⟨_,(byte_lt l[i]).1,(byte_lt l[i]).2,rfl⟩
     obtain ⟨y,hy0,hy1,HY⟩:∃ y:Int,0≤y∧y≤255∧Hid ((m[i].toNat:Int)=y):=⟨_,(byte_lt m[i]).1,(byte_lt m[i]).2,rfl⟩
     unfold bcell at c1 c2
     rw [HX.out] at c1
     rw [HY.out] at c2
     have hI:(i:Int) < (L:Int):=by omega
     clear hcl hcm
     by_cases hxy:x=y
     ·subst hxy
      have hb1:(x != x)=false:=by simp
      go_wp2_with fail
      go_quiet (fail)
      go_wp2
      go_roundw
      case rel=>
       refine ⟨i + 1,by omega,by go_num,hid (fun j h h2 hj=>?_),_,rfl⟩
       by_cases hji:j < i
       ·exact HB.out j h h2 hji
       ·obtain rfl:j=i:=by omega
        exact UInt8.toNat_inj.1 (by have:=HX.out;have:=HY.out;omega)
      case measure=>simp [intOf];omega
     ·have hb1:(x != y)=true:=by simpa using hxy
      go_wp2_with fail
      go_quiet (fail)
      go_wp2
      go_ret
      have e:ans=false:=by
       rw [← HA.out]
       refine decide_eq_false fun e=>hxy ?_
       subst e
       rw [← HX.out,← HY.out]
      subst e
      exact ⟨rfl,_,World.drewN_drewN _ _ _⟩
    ·obtain rfl:i=L:=by omega
     go_wp2
     go_ret
     have e:ans=true:=by
      rw [← HA.out]
      refine decide_eq_true (List.ext_getElem (by rw [HL.out,HM.out]) fun j h h2=>HB.out j h h2 (by have:=HL.out;omega))
     subst e
     exact ⟨rfl,n,rfl⟩
 ·have hb0:((L:Int) != (M:Int))=true:=by simp;omega
  have e:decide (l=m)=false:=decide_eq_false fun e=>hne (by rw [← HL.out,← HM.out,e])
  rw [e]
  clear e
  go_enter Try.func38,Try.ntmps38
  go_wp2
  go_ret
  exact ⟨rfl,0,rfl⟩
end Go.Proofs.Ytfpgglclpkcdhaa
namespace Go.Proofs.Ytfpgglclpkcdhaa
set_option maxRecDepth 20000
open Go.RowKit
theorem wpList_append_bare {ops:Array Oper} {rest:List Oper} {o:Oper} {a:Act} {Q:Exit→Act→World→Prop} {w:World} (hgd:o.guard=none) (s y:Operand)
  (ho:o.op=.call { callee:=.builtin .append,args:=#[s,y],argTypes:=#[33,33] })
  {A:Option Addr} {x:Value} {m:List UInt8} (hes:a.eval s=.slice A 0 0) (hey:a.eval y=x) (hx:Byt w x m) (h0:0 < m.length) (hs:m.length≤140737488355328)
  (h:∀ v' w',Own w.heap.size w' v' m→w.grownBy w' none→wpList Try.prog ops Q rest (a.put o.dst v') w'):
  wpList Try.prog ops Q (o :: rest) a w:=by
 obtain ⟨i0,hi,hz0,hz1,hz2⟩:=info_parts info_u8
 obtain ⟨A2,c,rfl,hmc,hcm,hr⟩:=hx
 obtain ⟨b,off,rfl,_,hc⟩:=hr h0
 refine wpList_append_grows w hgd s y 33 ho 5 i0 (.int .u8 0) 1 1 under_bytes hi hz0 hz1 hz2 rfl (by omega) A 0 0 [] hes (fun _=>⟨rfl,rfl⟩) rfl (by intro _ _ _ _ h;simp at h) ⟨b,off,none⟩ m.length c (bcells m) hey (by simp [bcells]) ?_ (bcells_one m) (by omega) (by omega) (by omega) ?_
 ·intro j u hu
  obtain ⟨hj,rfl⟩:=bcells_get m j u hu
  rw [addr_add]
  exact hc j hj
 ·intro v' w' hown hg
  refine h v' w' ?_ hg
  rw [Nat.zero_add,List.nil_append] at hown
  exact hown
noncomputable def cutHM (v h m : Value) (w : World) : Result Next := Sem.run Try.prog (execOp (fun o => match o with | .tmp 0 => v | .tmp 1 => h | _ => m) { dst := none, op := .slice 33 (.tmp 0) none (some (.tmp 1)) (some (.tmp 2)), type := 0, pos := "", after := #[], guard := none }) w
theorem exec_cutHM (r:Operand→Value) (x h m:Operand) (dst:Option Tmp) (ty:TypeId) (pos:String) (after:Array Edge) (guard:Option (Nat × Bool)) (w:World):
  Sem.run Try.prog (execOp r { dst:=dst,op:=.slice 33 x none (some h) (some m),type:=ty,pos:=pos,after:=after,guard:=guard }) w=cutHM (r x) (r h) (r m) w:=rfl
theorem cut_zero (A:Option Addr) (c L:Nat):∃ A',∀ w,cutHM (.slice A L c) (.int .i64 0) (.int .i64 0) w=.ok (.value (.slice A' 0 0)) w:=by
 refine ⟨if (0:Nat)=0 then A else A.map (·.add 0),fun w=>?_⟩
 obtain ⟨i0,hi,hz0,hz1,hz2⟩:=info_parts info_u8
 unfold cutHM execOp
 simp [Instr.sliceAt,Instr.slice,run_underlying under_bytes,Instr.sliceBounds,Instr.sliceBound,asIntOf,sizeOf,typeInfo,hi,Sem.run_bind]
end Go.Proofs.Ytfpgglclpkcdhaa
namespace Go.Proofs.Ytfpgglclpkcdhaa
set_option maxRecDepth 20000
open Go.RowKit
theorem cell_blk {w:World} {g:Nat} {cs:Array Value} {t:TypeId} (h:w.heap[g]?=some (.cells cs t (0,0))) (i:Nat):w.cell? ⟨g,i,none⟩=cs[i]?:=cell_of_row w g i cs t (0,0) h
end Go.Proofs.Ytfpgglclpkcdhaa
namespace Go.Proofs.Ytfpgglclpkcdhaa
set_option maxRecDepth 20000
open Go.RowKit
def hcells (h:List UInt8):Array Value:=(bcells h).toArray
end Go.Proofs.Ytfpgglclpkcdhaa
namespace Go.Proofs.Ytfpgglclpkcdhaa
set_option maxRecDepth 20000
open Go.RowKit
theorem Own.set {B g:Nat} {w:World} {v:Value} {l:List UInt8} (h:Own B w v l) (hne:v.ownBlock≠some g) (i:Nat) (u:Value):Own B (w.setCell ⟨g,i,none⟩ u) v l:=ownsRow_setCell_other h hne u
end Go.Proofs.Ytfpgglclpkcdhaa
namespace Go.Proofs.Ytfpgglclpkcdhaa
set_option maxRecDepth 20000
open Go.ChangeShapes Go.WideShapes Go.ChangeAt Go.RowKit
theorem ownKnob_none:ownKnob Try.prog.godebug=none:=by kernel_rfl
theorem laidOut:laidOutB Try.prog=true:=by kernel_rfl
def IsRow (k:IntKind) (w:World) (a:Option Addr) (len cap:Nat) (zs:List Int):Prop:=
 (a=none∧len=0∧cap=0∧zs=[])∨
 ∃ x,a=some x∧len≤cap∧cap≤maxLen∧zs.length=cap∧(∀ i,i < zs.length→w.cell? (x.add i)=some (.int k (zs.getD i 0)))∧∀ n ∈ zs,(Lit.int k n).wf=true
theorem row_byt {w:World} {a:Option Addr} {len cap:Nat} {zs:List Int} (h:IsRow .u8 w a len cap zs):∃ l:List UInt8,l.length=len∧Byt w (.slice a len cap) l:=by
 rcases h with ⟨rfl,rfl,rfl,rfl⟩ | ⟨x,rfl,hl,hm,hz,hcell,hwz⟩
 ·exact ⟨[],rfl,Byt.nil w⟩
 ·have hlen:((zs.take len).map fun n=>UInt8.ofNat n.toNat).length=len:=by simp;omega
  refine ⟨(zs.take len).map fun n=>UInt8.ofNat n.toNat,hlen,some x,cap,by rw [hlen],by omega,hm,fun h0=>?_⟩
  rw [hlen] at h0
  obtain ⟨b,off,spot⟩:=x
  have hc:=hcell 0 (by omega)
  have hspot:spot=none:=by simpa [Addr.add] using World.cell?_spot hc
  subst hspot
  refine ⟨b,off,rfl,?_,fun j hj=>?_⟩
  ·have:=World.block_lt_of_cell? w _ hc
   rw [addr_add] at this
   exact this
  ·rw [hlen] at hj
   have hjz:j < zs.length:=by omega
   have:=hcell j hjz
   rw [addr_add] at this
   rw [this]
   have hw:=hwz zs[j] (List.getElem_mem hjz)
   have hr:0≤zs[j]∧zs[j]≤255:=by simpa [Lit.wf,IntKind.min,IntKind.max,IntKind.signed,IntKind.bits] using hw
   have e:zs.getD j 0=zs[j]:=by simp [hjz]
   rw [e]
   unfold bcell
   congr 2
   simp only [List.getElem_map,List.getElem_take]
   rw [UInt8.toNat_ofNat']
   omega
end Go.Proofs.Ytfpgglclpkcdhaa
namespace Go.Proofs.Ytfpgglclpkcdhaa
set_option maxRecDepth 20000
open Go.ChangeShapes Go.WideShapes Go.ChangeAt Go.RowKit Go.Deep
section
variable {H:Type} {enc:TypeId × Value→H} {w:World} {base:Nat} {spare:Nat→Bool} {held:Bool} {fuel:Nat} {cs:List Value} {x:DataW H × List MemPlace}
theorem trod_bytes (h:DataW.trod enc Try.prog w base spare held fuel 33 cs=some x):∃ v l,cs=[v]∧Byt w v l:=by
 rcases open_ints Try.underlying33 Try.underlying5 (by kernel_rfl) h with ⟨rfl,_⟩ | ⟨a,len,cap,zs,rfl,_,hl,hm,hz,_,hcell,hwz⟩
 ·exact ⟨_,[],rfl,Byt.nil w⟩
 ·have hlz:len≤zs.length:=by rw [hz];split <;> omega
  have hlen:((zs.take len).map fun n=>UInt8.ofNat n.toNat).length=len:=by simp;omega
  refine ⟨_,(zs.take len).map fun n=>UInt8.ofNat n.toNat,rfl,some a,cap,by rw [hlen],by omega,hm,fun h0=>?_⟩
  rw [hlen] at h0
  obtain ⟨b,off,spot⟩:=a
  have hc:=hcell 0 (by omega)
  have hspot:spot=none:=by simpa [Addr.add] using World.cell?_spot hc
  subst hspot
  refine ⟨b,off,rfl,?_,fun j hj=>?_⟩
  ·have:=World.block_lt_of_cell? w _ hc
   rw [addr_add] at this
   exact this
  ·rw [hlen] at hj
   have hjz:j < zs.length:=by omega
   have:=hcell j hjz
   rw [addr_add] at this
   rw [this]
   have hw:=hwz zs[j] (List.getElem_mem hjz)
   have hr:0≤zs[j]∧zs[j]≤255:=by simpa [Lit.wf,IntKind.min,IntKind.max,IntKind.signed,IntKind.bits] using hw
   have e:zs.getD j 0=zs[j]:=by simp [hjz]
   rw [e]
   unfold bcell
   congr 2
   simp only [List.getElem_map,List.getElem_take]
   rw [UInt8.toNat_ofNat']
   omega
end
end Go.Proofs.Ytfpgglclpkcdhaa
namespace Go.Proofs.Ytfpgglclpkcdhaa
set_option maxRecDepth 20000
open Go.RowKit
theorem take_off {P:Program} {md:Region.Mode} {l:List Oper} {Q:Exit→Act→World→Prop} {S:World→Prop} {i:Nat} {oi:Oper} {fuel:Nat} {listed:Array Bool} {a:Act} {w:World} (hi:l[i]?=some oi)
  (hs:Region.noSelect l.toArray=true) (hf:Region.free md l.toArray listed i=true) (hr:(Region.ready md l.toArray listed).contains i=true) (hQ:∀ c a w,Q (.panic c) (a.put oi.dst undef) w→Q (.panic c) a w)
  (hw:Region.wanted oi (yielded l.toArray a.tmps)=false) (hS:S w) (h:wpAnyH P md l.toArray Q S fuel (listed.setIfInBounds i true) (a.put oi.dst undef) w):wpAnyH P md l.toArray Q S (fuel + 1) listed a w:=
 wpAnyH_take (by simpa using hi) hs hf hr hQ (Or.inr ⟨hw,rfl⟩) hS h
theorem take_on {P:Program} {md:Region.Mode} {l:List Oper} {Q:Exit→Act→World→Prop} {S:World→Prop} {i:Nat} {oi:Oper} {v:Value} {fuel:Nat} {listed:Array Bool} {a:Act} {w:World} (hi:l[i]?=some oi)
  (hs:Region.noSelect l.toArray=true) (hf:Region.free md l.toArray listed i=true) (hr:(Region.ready md l.toArray listed).contains i=true) (hQ:∀ c a w,Q (.panic c) (a.put oi.dst v) w→Q (.panic c) a w)
  (hw:Region.wanted oi (yielded l.toArray a.tmps)=true) (hv:∀ w,S w→(execOp a.eval oi).run P w=.ok (.value v) w) (hS:S w) (h:wpAnyH P md l.toArray Q S fuel (listed.setIfInBounds i true) (a.put oi.dst v) w):wpAnyH P md l.toArray Q S (fuel + 1) listed a w:=
 wpAnyH_take (by simpa using hi) hs hf hr hQ (Or.inl ⟨hw,hv⟩) hS h
theorem call_on {P:Program} {md:Region.Mode} {l:List Oper} {Q:Exit→Act→World→Prop} {S:World→Prop} {i:Nat} {oi:Oper} {fuel:Nat} {listed:Array Bool} {a:Act} {w:World} (hi:l[i]?=some oi)
  (hr:Region.ready md l.toArray listed=[i]) (hw:Region.wanted oi (yielded l.toArray a.tmps)=true)
  (h:∀ K':Act→World→Prop,Shut (∀ a w,S w→(S w→wpAnyH P md l.toArray Q S fuel (listed.setIfInBounds i true) a w)→K' a w)→Oper.wp P oi a w K' Q):wpAnyH P md l.toArray Q S (fuel + 1) listed a w:=
 wpAnyH_ready hr (by simp) (AllReadyH.cons (by simpa using hi) (fun K hK=>by rw [if_pos hw];exact h K hK) AllReadyH.nil)
theorem tk {P:Program} {md:Region.Mode} {l:List Oper} {Q:Exit→Act→World→Prop} {S:World→Prop} {i:Nat} {oi:Oper} {v:Value} {fuel:Nat} {listed:Array Bool} {a:Act} {w:World} (hi:l[i]?=some oi)
  (hv:∀ w,S w→(execOp a.eval oi).run P w=.ok (.value v) w) (h:wpAnyH P md l.toArray Q S fuel (listed.setIfInBounds i true) (a.put oi.dst v) w) (hS:S w:=by assumption)
  (hs:Region.noSelect l.toArray=true:=by kernel_rfl) (hf:Region.free md l.toArray listed i=true:=by kernel_rfl) (hr:(Region.ready md l.toArray listed).contains i=true:=by kernel_rfl) (hQ:∀ c a w,Q (.panic c) (a.put oi.dst v) w→Q (.panic c) a w:=by exact fun _ _ _ h=>h)
  (hw:Region.wanted oi (yielded l.toArray a.tmps)=true:=by rfl):wpAnyH P md l.toArray Q S (fuel + 1) listed a w:=take_on hi hs hf hr hQ hw hv hS h
theorem tf {P:Program} {md:Region.Mode} {l:List Oper} {Q:Exit→Act→World→Prop} {S:World→Prop} {i:Nat} {oi:Oper} {fuel:Nat} {listed:Array Bool} {a:Act} {w:World} (hi:l[i]?=some oi)
  (h:wpAnyH P md l.toArray Q S fuel (listed.setIfInBounds i true) (a.put oi.dst undef) w) (hS:S w:=by assumption)
  (hs:Region.noSelect l.toArray=true:=by kernel_rfl) (hf:Region.free md l.toArray listed i=true:=by kernel_rfl) (hr:(Region.ready md l.toArray listed).contains i=true:=by kernel_rfl) (hQ:∀ c a w,Q (.panic c) (a.put oi.dst undef) w→Q (.panic c) a w:=by exact fun _ _ _ h=>h)
  (hw:Region.wanted oi (yielded l.toArray a.tmps)=false:=by rfl):wpAnyH P md l.toArray Q S (fuel + 1) listed a w:=take_off hi hs hf hr hQ hw hS h
theorem tkq {P:Program} {md:Region.Mode} {l:List Oper} {Q:Exit→Act→World→Prop} {S:World→Prop} (i:Nat) {oi:Oper} {v:Value} {fuel:Nat} {listed:Array Bool} {a:Act} {w:World} (hi:l[i]?=some oi)
  (h:wpAnyH P md l.toArray Q S fuel (listed.setIfInBounds i true) (a.put oi.dst v) w) (hv:∀ w,S w→(execOp a.eval oi).run P w=.ok (.value v) w:=by (intro W hW;(try dsimp only at hW);go_simp;first | done | with_reducible rfl)) (hS:S w:=by assumption)
  (hs:Region.noSelect l.toArray=true:=by kernel_rfl) (hf:Region.free md l.toArray listed i=true:=by kernel_rfl) (hr:(Region.ready md l.toArray listed).contains i=true:=by kernel_rfl) (hQ:∀ c a w,Q (.panic c) (a.put oi.dst v) w→Q (.panic c) a w:=by exact fun _ _ _ h=>h)
  (hw:Region.wanted oi (yielded l.toArray a.tmps)=true:=by rfl):wpAnyH P md l.toArray Q S (fuel + 1) listed a w:=take_on hi hs hf hr hQ hw hv hS h
theorem tkq2 {P:Program} {md:Region.Mode} {l:List Oper} {Q:Exit→Act→World→Prop} {S:World→Prop} (i:Nat) {oi:Oper} {v:Value} {fuel:Nat} {listed:Array Bool} {a:Act} {w:World} (hi:l[i]?=some oi)
  (h:wpAnyH P md l.toArray Q S fuel (listed.setIfInBounds i true) (a.put oi.dst v) w) (hv:∀ w,S w→(execOp a.eval oi).run P w=.ok (.value v) w:=by (intro W hW;(try dsimp only at hW);obtain ⟨hW1,hW2⟩:=hW;go_simp;first | done | with_reducible rfl)) (hS:S w:=by assumption)
  (hs:Region.noSelect l.toArray=true:=by kernel_rfl) (hf:Region.free md l.toArray listed i=true:=by kernel_rfl) (hr:(Region.ready md l.toArray listed).contains i=true:=by kernel_rfl) (hQ:∀ c a w,Q (.panic c) (a.put oi.dst v) w→Q (.panic c) a w:=by exact fun _ _ _ h=>h)
  (hw:Region.wanted oi (yielded l.toArray a.tmps)=true:=by rfl):wpAnyH P md l.toArray Q S (fuel + 1) listed a w:=take_on hi hs hf hr hQ hw hv hS h
theorem tkq3 {P:Program} {md:Region.Mode} {l:List Oper} {Q:Exit→Act→World→Prop} {S:World→Prop} (i:Nat) {oi:Oper} {v:Value} {fuel:Nat} {listed:Array Bool} {a:Act} {w:World} (hi:l[i]?=some oi)
  (h:wpAnyH P md l.toArray Q S fuel (listed.setIfInBounds i true) (a.put oi.dst v) w) (hv:∀ w,S w→(execOp a.eval oi).run P w=.ok (.value v) w:=by (intro W hW;(try dsimp only at hW);obtain ⟨hW1,hW2,hW3⟩:=hW;go_simp;first | done | with_reducible rfl)) (hS:S w:=by assumption)
  (hs:Region.noSelect l.toArray=true:=by kernel_rfl) (hf:Region.free md l.toArray listed i=true:=by kernel_rfl) (hr:(Region.ready md l.toArray listed).contains i=true:=by kernel_rfl) (hQ:∀ c a w,Q (.panic c) (a.put oi.dst v) w→Q (.panic c) a w:=by exact fun _ _ _ h=>h)
  (hw:Region.wanted oi (yielded l.toArray a.tmps)=true:=by rfl):wpAnyH P md l.toArray Q S (fuel + 1) listed a w:=take_on hi hs hf hr hQ hw hv hS h
theorem lay:(∀ (a:Act) (v:Value),a.put none v=a)∧(∀ (a:Act) (t:Tmp) (v:Value),a.put (some t) v={ a with tmps:=a.tmps.setIfInBounds t v })∧(∀ (l:List Value) (i:Nat) (v:Value),l.toArray.setIfInBounds i v=(l.set i v).toArray)∧(∀ (l:List Bool) (i:Nat) (v:Bool),l.toArray.setIfInBounds i v=(l.set i v).toArray)
  ∧ (∀ (a b:Value) (l:List Value),(a :: l).set 0 b=b :: l)∧(∀ (a b:Bool) (l:List Bool),(a :: l).set 0 b=b :: l)∧(∀ (a b:Value) (l:List Value) (i:Nat),(a :: l).set (i + 1) b=a :: l.set i b)∧(∀ (a b:Bool) (l:List Bool) (i:Nat),(a :: l).set (i + 1) b=a :: l.set i b):=
 ⟨fun _ _=>rfl,fun _ _ _=>rfl,fun _ _ _=>List.setIfInBounds_toArray ..,fun _ _ _=>List.setIfInBounds_toArray ..,fun _ _ _=>rfl,fun _ _ _=>rfl,fun _ _ _ _=>rfl,fun _ _ _ _=>rfl⟩
theorem pair_on {P:Program} {md:Region.Mode} {l:List Oper} {Q:Exit→Act→World→Prop} {S:World→Prop} {i j:Nat} {oi oj:Oper} {fuel:Nat} {listed:Array Bool} {a:Act} {w:World} (hi:l[i]?=some oi) (hj:l[j]?=some oj)
  (hr:Region.ready md l.toArray listed=[i,j]) (hw:Region.wanted oi (yielded l.toArray a.tmps)=true) (hv:Region.wanted oj (yielded l.toArray a.tmps)=true)
  (h:∀ K':Act→World→Prop,Shut (∀ a w,S w→(S w→wpAnyH P md l.toArray Q S fuel (listed.setIfInBounds i true) a w)→K' a w)→Oper.wp P oi a w K' Q)
  (k:∀ K':Act→World→Prop,Shut (∀ a w,S w→(S w→wpAnyH P md l.toArray Q S fuel (listed.setIfInBounds j true) a w)→K' a w)→Oper.wp P oj a w K' Q):wpAnyH P md l.toArray Q S (fuel + 1) listed a w:=
 wpAnyH_ready hr (by simp) (AllReadyH.cons (by simpa using hi) (fun K hK=>by rw [if_pos hw];exact h K hK) (AllReadyH.cons (by simpa using hj) (fun K hK=>by rw [if_pos hv];exact k K hK) AllReadyH.nil))
end Go.Proofs.Ytfpgglclpkcdhaa
