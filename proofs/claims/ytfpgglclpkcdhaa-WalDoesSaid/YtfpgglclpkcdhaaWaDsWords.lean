/-
  WalDoes: what stands between two acts.
-/
import Derived.Test.YtfpgglclpkcdhaaDkDo
import Derived.Test.YtfpgglclpkcdhaaDkLike
import Derived.Test.YtfpgglclpkcdhaaWaKpWords
import Derived.Test.YtfpgglclpkcdhaaWaRvB
import Derived.Test.YtfpgglclpkcdhaaWaRvC
import Derived.Test.YtfpgglclpkcdhaaWaRvD
namespace Go.Proofs.Ytfpgglclpkcdhaa
set_option maxRecDepth 20000
open Go.RowKit
def totD (D:DkM):Nat:=D.s.length + D.m.length + D.h.length
theorem tot_step (D:DkM):totD (stepDk D)=totD D:=by
 unfold stepDk
 split
 ·rfl
 split <;> rfl
theorem tot_app (D:DkM) (b:List UInt8):totD (appD D b)≤totD D + b.length:=by
 unfold appD
 split
 ·omega
 split
 ·omega
 split
 ·omega
 split
 ·unfold totD;simp only;omega
 ·have h:=tot_step D
  unfold totD at h ⊢
  have e:stepDk D={ D with left:=(stepDk D).left,dead:=(stepDk D).dead }:=by
   unfold stepDk
   split
   ·rfl
   split <;> rfl
  rw [e]
  simp only [List.length_append]
  omega
theorem step_parts (D:DkM):(stepDk D).s=D.s∧(stepDk D).m=D.m∧(stepDk D).h=D.h:=by
 unfold stepDk
 split
 ·exact ⟨rfl,rfl,rfl⟩
 split <;> exact ⟨rfl,rfl,rfl⟩
theorem tot_sync (D:DkM):totD (syncD D)≤totD D:=by
 obtain ⟨h1,h2,h3⟩:=step_parts D
 unfold syncD
 split
 ·omega
 split
 ·unfold totD;simp only;omega
 ·unfold totD
  simp only [h3,List.length_append,List.length_nil]
  omega
theorem tot_cut (D:DkM) (n:Int):totD (cutD D n)≤totD D:=by
 obtain ⟨h1,h2,h3⟩:=step_parts D
 unfold cutD
 split
 ·omega
 split
 ·omega
 split
 ·omega
 split
 ·unfold totD;simp only;omega
 ·unfold totD
  simp only [h3,List.length_take,List.length_append,List.length_nil]
  omega
theorem tot_crash (D:DkM) (n:Int):totD (crashD D n)≤totD D:=by
 unfold crashD totD
 simp only [List.length_append,List.length_take,List.length_nil]
 omega
theorem tot_act (D:DkM) (k:Int) (b:List UInt8) (n:Int):totD (actD D k b n)≤totD D + b.length:=by
 have h1:=tot_app D b
 have h2:=tot_sync D
 have h3:=tot_cut D n
 have h4:=tot_crash D n
 unfold actD
 split
 ·exact h1
 split
 ·omega
 split
 ·omega
 split
 ·show totD D≤_
  omega
 split
 ·omega
 ·omega
theorem tot_open (D:DkM):totD (openD D)≤totD D:=by
 have h1:totD (tcutD D)≤totD D:=by
  unfold tcutD
  split
  ·omega
  ·exact tot_cut _ _
 have h2:=tot_sync (tcutD D)
 unfold openD
 split
 ·omega
 split
 ·omega
 split
 ·exact h1
 ·omega
theorem tot_put (V:WaM) (l:List (List UInt8)):totD (putD V l)≤totD V.d + (flatR l).length:=by
 have h1:=tot_app V.d (flatR l)
 have h2:=tot_sync (appD V.d (flatR l))
 unfold putD
 split
 ·omega
 split
 ·omega
 split
 ·omega
 split
 ·exact h1
 ·omega
theorem tot_spoil (D:DkM) (k:Int) (x:UInt8):totD (spoilD D k x)=totD D:=by
 obtain ⟨l1,l2⟩:=spoilD_lens D k x
 obtain ⟨r1,_⟩:=spoilD_rest D k x
 unfold totD
 rw [l1,l2,r1]
theorem putW_d (V:WaM) (l:List (List UInt8)):(putW V l).d=putD V l:=by
 unfold putW putD
 split
 ·rfl
 split
 ·rfl
 split <;> rfl
theorem putW_is {V:WaM} (h:V.is_=true) (l:List (List UInt8)):(putW V l).is_=true:=by
 unfold putW
 split
 ·exact h
 split
 ·exact h
 split
 ·exact h
 ·rfl
theorem putW_no {V:WaM} (h:V.is_=false) (l:List (List UInt8)):putW V l=V∧putE V l=5:=by
 unfold putW putE
 rw [if_pos (.inl h),if_pos (.inl h)]
 exact ⟨rfl,rfl⟩
def WlM (w W:World) (b:Nat) (p:Value) (V:WaM):Prop:=(V.is_=true∧∃ c,p=.pointer (some ⟨c,0,none⟩)∧w.heap.size≤c∧WlE W c b (V.many:Int) V.broken)∨(V.is_=false∧p=.pointer none∧V.many=0)
structure DsE (w W:World) (b g i:Nat) (p:Value) (V:WaM) (X:Array Value) (va vt:Value):Prop where
 e:DkE W b w.heap.size V.d va vt
 gd:V.d.Good
 wl:WlM w W b p V
 r:W.heap[g]?=some (.cells X 37 (0,0))
 rw_:RwC W X V va.ownBlock
 z:totD V.d≤2600 * i
 m0:V.many≤2600 * i
 bel:Below w.heap.size w W
 hb:w.heap.size≤b
 hg:w.heap.size≤g
section
variable {w W W':World} {b g i:Nat} {p:Value} {V:WaM} {X:Array Value} {va vt:Value}
theorem WlM.below (h:WlM w W b p V) (hb:Below W.heap.size W W'):WlM w W' b p V:=by
 rcases h with ⟨h1,c,h2,h3,h4⟩ | h
 ·exact .inl ⟨h1,c,h2,h3,h4.below hb⟩
 ·exact .inr h
theorem WlM.other (h:WlM w W b p V) {D:DkM} {B:Nat} (hE:DkE W b B D va vt) (ht:TnD b va.ownBlock W W') {V':WaM} (h1:V'.is_=V.is_) (h2:V'.many=V.many) (h3:V'.broken=V.broken):WlM w W' b p V':=by
 unfold WlM
 rw [h1,h2,h3]
 rcases h with ⟨h1,c,h2,h3,h4⟩ | h
 ·exact .inl ⟨h1,c,h2,h3,h4.other hE ht⟩
 ·exact .inr h
theorem RwC.turnD (h:RwC W X V va.ownBlock) {B:Nat} {E:DkM} {a':Option Nat} (hE:DkE W b B E va vt) (ht:TnD b va.ownBlock W W') (hn:Nw W va.ownBlock a'):RwC W' X V a':=by
 obtain ⟨C,rfl,hC⟩:=h
 exact ⟨C,rfl,hC.turn hE ht hn⟩
theorem DsE.below (h:DsE w W b g i p V X va vt) (hb:Below W.heap.size W W'):DsE w W' b g i p V X va vt:=
 ⟨h.e.below hb,h.gd,h.wl.below hb,(hb.block _ (lt_of_block h.r)).trans h.r,h.rw_.below hb,h.z,h.m0,h.bel.trans (hb.mono h.bel.size),h.hb,h.hg⟩
theorem DsE.var (h:DsE w W b g i p V X va vt) (Y:Array Value):DkE (setSe W g Y) b w.heap.size V.d va vt∧WlM w (setSe W g Y) b p V∧Below w.heap.size w (setSe W g Y)∧(setSe W g Y).heap[g]?=some (.cells Y 37 (0,0))∧W.heap.size≤(setSe W g Y).heap.size:=by
 have hs:=(setSe_below (C:=Y) (Below.refl 0 W) (Nat.zero_le g)).size
 refine ⟨h.e.kept hs (fun k C T hk hT=>setSe_other W _ (blk_ne hk h.r (by rcases hT with rfl | rfl <;> decide))),?_,setSe_below h.bel h.hg,setSe_same h.r,hs⟩
 rcases h.wl with ⟨h1,c,h2,h3,h4⟩ | hw
 ·exact .inl ⟨h1,c,h2,h3,(setSe_other W _ (blk_ne h4 h.r (by decide))).trans h4⟩
 ·exact .inr hw
theorem DsE.varO (h:DsE w W b g i p V X va vt) (Y:Array Value) {k:Nat} {C:Array Value} {T:TypeId} (hk:W.heap[k]?=some (.cells C T (0,0))) (hT:T≠37):(setSe W g Y).heap[k]?=some (.cells C T (0,0)):=(setSe_other W _ (blk_ne hk h.r hT)).trans hk
theorem DsE.varR (h:DsE w W b g i p V X va vt) (Y:Array Value) {X':Array Value} {V':WaM} {a:Option Nat} (hX:RwC W X' V' a):RwC (setSe W g Y) X' V' a:=hX.away (setSe_below (C:=Y) (Below.refl 0 W) (Nat.zero_le g)).size (fun k C hk=>setSe_other W _ (blk_ne hk h.r (by decide)))
theorem DsE.mid (h:DsE w W b g i p V X va vt) {C S:Array Value} (hX:X=rwc C V.many V.broken V.is_) (hC:C.size=6) {D':DkM} (hS:RfC W S D' va.ownBlock):DkE (setRw W g S) b w.heap.size V.d va vt∧WlM w (setRw W g S) b p V∧Below w.heap.size w (setRw W g S)∧(setRw W g S).heap[g]?=some (.cells (rwc S V.many V.broken V.is_) 37 (0,0))∧RwC (setRw W g S) (rwc S V.many V.broken V.is_) { V with d:=D' } va.ownBlock:=by
 have hr:=h.r
 rw [hX] at hr
 have hs:W.heap.size≤(setRw W g S).heap.size:=Nat.le_of_eq (setRw_size W g S).symm
 refine ⟨h.e.kept hs (fun k R T hk hT=>setRw_other W _ (blk_ne hk hr (by rcases hT with rfl | rfl <;> decide))),?_,setRw_below h.bel h.hg h.bel.size,setRw_row hr hC hS.size,⟨S,rfl,hS.away hs (fun k R hk=>setRw_other W _ (blk_ne hk hr (by decide)))⟩⟩
 rcases h.wl with ⟨h1,c,h2,h3,h4⟩ | hw
 ·exact .inl ⟨h1,c,h2,h3,(setRw_other W _ (blk_ne h4 hr (by decide))).trans h4⟩
 ·exact .inr hw
end
def DsMid (w W:World) (b g i:Nat) (p:Value):Prop:=∃ V X va vt,DsE w W b g i p V X va vt
theorem own_stay {w W W':World} {b B:Nat} {D:DkM} {va vt v:Value} {l:List UInt8} (ho:Own w.heap.size W v l) (h0:DkE w b B D va vt) (hE:DkE W b B D va vt) (ht:TnD b va.ownBlock W W'):Own w.heap.size W' v l:=ho.keep (fun k hk ek=>ht.block k hk (by
  obtain ⟨C,hC⟩:=ho.blk ek
  exact blk_ne hC hE.p (by decide)) (fun e=>by
  have h5:=(h0.o.base e.symm).2
  have h6:=(ho.base ek).1
  omega))
theorem ownB_stay {W W':World} {b B B':Nat} {D:DkM} {va vt v:Value} {L:List BtM} (ho:OwnB B' W v L) (hE:DkE W b B D va vt) (ht:TnD b va.ownBlock W W'):OwnB B' W' v L:=ho.kept (fun k C hC=>(hE.other hC (by decide) (by decide) ht).trans hC.symm)
theorem recs_count {L:List BtM} {D:DkM} (h:bls L=openR D) (h0:openE D=0):(openW D).many=L.length:=by
 unfold openW
 rw [if_pos h0]
 show (openR D).length=_
 rw [← h,bls_length]
end Go.Proofs.Ytfpgglclpkcdhaa
