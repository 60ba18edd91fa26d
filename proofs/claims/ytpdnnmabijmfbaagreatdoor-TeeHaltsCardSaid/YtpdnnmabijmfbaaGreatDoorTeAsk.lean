/-
  tithinglaw17.ask: what a request tells, by what the methods tell. Printed with gente.py.
-/
import Derived.Test.YtpdnnmabijmfbaaGreatDoorTeArg
import Derived.Test.YtpdnnmabijmfbaaGreatDoorTeCodeA
namespace Go.Proofs.YtpdnnmabijmfbaaGreatDoor
set_option maxRecDepth 20000
open Go.RowKit
attribute [local go_sem ↓] exec_load_st exec_load_bk exec_load_ax exec_load_ct exec_load_att exec_alloc_att exec_store_att
def AkPost (P:World→World→Prop) (A:Array Value) (E:Int) (w:World) (e:Ending) (w':World):Prop:=
 e=.returned (.tuple #[.agg A,.int .i64 E])∧∃ W w1 Z,Below w.heap.size w W∧P W w1∧w1.heap[w.heap.size + 1]?=some (.cells Z 54 (0,0))∧w'=setAtt w1 (w.heap.size + 1) A
set_option maxHeartbeats 3200000 in
theorem ask_gen (P:World→World→Prop) (v:Value) (x:StM) (w:World) (hx:StOk w x) (A:Array Value) (E:Int) (hA:A.size=101∧A.all (·.oneCell')=true)
  (HN:x.act=0→∀ W,Below w.heap.size w W→Calls Tryz.prog 24 #[v,.int .i64 x.vi] W fun e w'=>e=.returned (.tuple #[.agg A,.int .i64 E])∧P W w')
  (HP:x.act=1→∀ W,Below w.heap.size w W→Calls Tryz.prog 37 #[v,.agg (bkc x.b x.sb),.agg (axc x.a x.sa)] W fun e w'=>e=.returned (.tuple #[.agg A,.int .i64 E])∧P W w')
  (HS:x.act≠0→x.act≠1→∀ W,Below w.heap.size w W→Calls Tryz.prog 25 #[v,.agg (ctc x.c x.sc)] W fun e w'=>e=.returned (.tuple #[.agg A,.int .i64 E])∧P W w')
  (HR:∀ W w' Z,Below w.heap.size w W→P W w'→W.heap[w.heap.size + 1]?=some (.cells Z 54 (0,0))→w'.heap[w.heap.size + 1]?=some (.cells Z 54 (0,0))):
  Calls Tryz.prog 12 #[v,.agg (stc x)] w (AkPost P A E w):=by
 have HRD:Hid (∀ W,W.heap[w.heap.size]?=some (.cells (stc x) 59 (0,0))→StRd W w.heap.size x):=hid (fun W h=>st_read h hx)
 have HNN:=hid HN
 have HPP:=hid HP
 have HSS:=hid HS
 have HRR:=hid HR
 have HAA:=hid hA
 obtain ⟨C,HC⟩:∃ q:Array Value,Hid (stc x=q):=⟨_,hid rfl⟩
 obtain ⟨Z,HZ⟩:∃ q:Array Value,Hid (atc atZ=q):=⟨_,hid rfl⟩
 have HZS:Hid (Z.size=101):=hid (by rw [← HZ.out];exact atc_size atZ_ok)
 obtain ⟨B,HBB⟩:∃ q:Array Value,Hid (bkc x.b x.sb=q):=⟨_,hid rfl⟩
 obtain ⟨X,HXX⟩:∃ q:Array Value,Hid (axc x.a x.sa=q):=⟨_,hid rfl⟩
 obtain ⟨D,HDD⟩:∃ q:Array Value,Hid (ctc x.c x.sc=q):=⟨_,hid rfl⟩
 have HF:Hid (∀ W,W.heap[w.heap.size]?=some (.cells C 59 (0,0))→(W.cell? ⟨w.heap.size,0,none⟩=some (.int .i64 x.act)∧W.cell? ⟨w.heap.size,1,none⟩=some (.int .i64 x.vi))∧loadK (.pointer (some ⟨w.heap.size,2,none⟩)) W=.ok (.value (.agg B)) W∧loadAx (.pointer (some ⟨w.heap.size,38,none⟩)) W=.ok (.value (.agg X)) W∧loadCt (.pointer (some ⟨w.heap.size,106,none⟩)) W=.ok (.value (.agg D)) W):=hid (fun W h=>by
  rw [← HC.out] at h
  have r:=HRD.out W h
  rw [← HBB.out,← HXX.out,← HDD.out]
  exact ⟨⟨r.act,r.vi⟩,r.bk,r.ax,r.ct⟩)
 have hal:allocAtt (w.alloc (.cells C 59))=.ok (.value (.pointer (some ⟨w.heap.size + 1,0,none⟩))) ((w.alloc (.cells C 59)).alloc (.cells Z 54)):=by
  have:=allocAtt_eq (w.alloc (.cells C 59))
  rw [HZ.out] at this
  rwa [show (w.alloc (.cells C 59)).heap.size=w.heap.size + 1 from by simp] at this
 obtain ⟨hr0,hr1⟩:=rows_two w (.cells C 59) (.cells Z 54)
 have HB:Hid (Below w.heap.size w ((w.alloc (.cells C 59)).alloc (.cells Z 54))):=hid (((Below.refl _ _).alloc (Nat.le_refl _) _).alloc (by simp) _)
 have HR0:=hid hr0
 have HR1:=hid hr1
 rw [HBB.out,HXX.out] at HPP
 rw [HDD.out] at HSS
 rw [HC.out]
 obtain ⟨ac,HAC⟩:∃ q:Int,Hid (x.act=q):=⟨_,hid rfl⟩
 obtain ⟨vi,HVI⟩:∃ q:Int,Hid (x.vi=q):=⟨_,hid rfl⟩
 rw [HAC.out] at HNN HPP HSS HF
 rw [HVI.out] at HNN HF
 clear hx hA HN HP HS HR hr0 hr1 HRD HC HZ HBB HXX HDD
 go_enter Tryz.func12,Tryz.ntmps12
 go_upto_region 1 with (fail)
 clear hal
 generalize ((w.alloc (.cells C 59)).alloc (.cells Z 54))=wz at *
 obtain ⟨⟨k0,k1⟩,l2,l3,l4⟩:=HF.out wz HR0.out
 by_cases e0:ac=0
 ·subst e0
  go_wp2_with fail
  refine (HNN.out (by trivial) wz HB.out).mono ?_
  rintro e w1 ⟨rfl,hp⟩
  have hr1:=HRR.out _ _ _ HB.out hp HR1.out
  have hst:=storeAtt_eq hr1 HZS.out HAA.out.1 HAA.out.2
  have HRP:=hid (setAtt_same (C:=A) hr1)
  have HW:=hid (show ∃ W w1' Z,Below w.heap.size w W∧P W w1'∧w1'.heap[w.heap.size + 1]?=some (.cells Z 54 (0,0))∧setAtt w1 (w.heap.size + 1) A=setAtt w1' (w.heap.size + 1) A from ⟨wz,w1,Z,HB.out,hp,hr1,rfl⟩)
  clear hp hr1 k0 k1 l2 l3 l4
  go_wp2_with fail
  try simp only [Exit.inBlock,Exit.then]
  refine bodyPost_ret (results_at2 rfl _ _ _ _ _ _ rfl rfl HRP.out HAA.out.1) rfl ⟨rfl,HW.out⟩
 ·have f0:(ac == 0)=false:=by simpa using e0
  by_cases e1:ac=1
  ·subst e1
   go_wp2_with fail
   refine (HPP.out (by trivial) wz HB.out).mono ?_
   rintro e w1 ⟨rfl,hp⟩
   have hr1:=HRR.out _ _ _ HB.out hp HR1.out
   have hst:=storeAtt_eq hr1 HZS.out HAA.out.1 HAA.out.2
   have HRP:=hid (setAtt_same (C:=A) hr1)
   have HW:=hid (show ∃ W w1' Z,Below w.heap.size w W∧P W w1'∧w1'.heap[w.heap.size + 1]?=some (.cells Z 54 (0,0))∧setAtt w1 (w.heap.size + 1) A=setAtt w1' (w.heap.size + 1) A from ⟨wz,w1,Z,HB.out,hp,hr1,rfl⟩)
   clear hp hr1 k0 k1 l2 l3 l4
   go_wp2_with fail
   try simp only [Exit.inBlock,Exit.then]
   refine bodyPost_ret (results_at2 rfl _ _ _ _ _ _ rfl rfl HRP.out HAA.out.1) rfl ⟨rfl,HW.out⟩
  ·have f1:(ac == 1)=false:=by simpa using e1
   go_wp2_with fail
   refine (HSS.out (by have:=f0;simpa using this) (by have:=f1;simpa using this) wz HB.out).mono ?_
   rintro e w1 ⟨rfl,hp⟩
   have hr1:=HRR.out _ _ _ HB.out hp HR1.out
   have hst:=storeAtt_eq hr1 HZS.out HAA.out.1 HAA.out.2
   have HRP:=hid (setAtt_same (C:=A) hr1)
   have HW:=hid (show ∃ W w1' Z,Below w.heap.size w W∧P W w1'∧w1'.heap[w.heap.size + 1]?=some (.cells Z 54 (0,0))∧setAtt w1 (w.heap.size + 1) A=setAtt w1' (w.heap.size + 1) A from ⟨wz,w1,Z,HB.out,hp,hr1,rfl⟩)
   clear hp hr1 k0 k1 l2 l3 l4
   go_wp2_with fail
   try simp only [Exit.inBlock,Exit.then]
   refine bodyPost_ret (results_at2 rfl _ _ _ _ _ _ rfl rfl HRP.out HAA.out.1) rfl ⟨rfl,HW.out⟩
end Go.Proofs.YtpdnnmabijmfbaaGreatDoor
