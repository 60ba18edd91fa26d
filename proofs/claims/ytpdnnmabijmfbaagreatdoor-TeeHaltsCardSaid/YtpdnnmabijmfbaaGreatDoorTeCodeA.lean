/-
  tee: whether Start made it; why it is halted; its seal. Printed with gente.py.
-/
import Derived.Test.YtpdnnmabijmfbaaGreatDoorBs36
import Derived.Test.YtpdnnmabijmfbaaGreatDoorTeWords
namespace Go.Proofs.YtpdnnmabijmfbaaGreatDoor
set_option maxRecDepth 20000
open Go.RowKit
attribute [local go_sem ↓] exec_load_se exec_alloc_se exec_store_se exec_build_se exec_load_att exec_alloc_att exec_store_att exec_build_att
section
variable {w:World} {g b c a:Nat} {t:TeM}
theorem tmade_yes (h:TeeW w g b c a t):Calls Tryz.prog 51 #[.pointer (some ⟨g,0,none⟩)] w fun e w'=>e=.returned (.bool true)∧w=w':=by
 obtain ⟨_,h⟩:=h
 obtain ⟨_,_,h2⟩:=h.cells
 clear h
 go_enter Tryz.func51,Tryz.ntmps51
 go_wp2
 go_ret
 exact ⟨rfl,rfl⟩
theorem tmade_none (w:World):Calls Tryz.prog 51 #[.pointer none] w fun e w'=>e=.returned (.bool false)∧w=w':=by
 go_enter Tryz.func51,Tryz.ntmps51
 go_wp2
 go_ret
 exact ⟨rfl,rfl⟩
theorem noTee_cell {g:Nat} (hc:w.heap[g]?=some (.cells (tec 0 0 none seZ 0 0) 95 (0,0))):w.cell? ⟨g,2,none⟩=some (.pointer none):=by
 unfold tec at hc
 exact head_cell hc (by decide)
theorem tmade_no {v:Value} (h:NoTee w v):Calls Tryz.prog 51 #[v] w fun e w'=>e=.returned (.bool false)∧w=w':=by
 rcases h with rfl | ⟨g,rfl,hc⟩
 ·exact tmade_none w
 ·have h3:=noTee_cell hc
  clear hc
  go_enter Tryz.func51,Tryz.ntmps51
  go_wp2
  go_ret
  exact ⟨rfl,rfl⟩
theorem tWhy_any (h:TeeW w g b c a t) (G:t.Good):Calls Tryz.prog 21 #[.pointer (some ⟨g,0,none⟩)] w fun e w'=>e=.returned (.int .i64 t.e)∧w=w':=by
 have HM:=hid (tmade_yes h)
 obtain ⟨_,h⟩:=h
 obtain ⟨_,_,_,h3⟩:=h.tail G.s
 clear h
 go_enter Tryz.func21,Tryz.ntmps21
 go_wp2_with fail
 refine HM.out.mono ?_
 rintro e w1 ⟨rfl,rfl⟩
 go_wp2_with fail
 go_ret
 exact ⟨rfl,rfl⟩
theorem tWhy_no {v:Value} (h:NoTee w v):Calls Tryz.prog 21 #[v] w fun e w'=>e=.returned (.int .i64 8)∧w=w':=by
 have HM:=hid (tmade_no h)
 clear h
 go_enter Tryz.func21,Tryz.ntmps21
 go_wp2_with fail
 refine HM.out.mono ?_
 rintro e w1 ⟨rfl,rfl⟩
 go_wp2_with fail
 go_ret
 exact ⟨rfl,rfl⟩
theorem tHalted_any (h:TeeW w g b c a t) (G:t.Good):Calls Tryz.prog 20 #[.pointer (some ⟨g,0,none⟩)] w fun e w'=>e=.returned (.bool (t.e != 0))∧w=w':=by
 have HM:=hid (tWhy_any h G)
 obtain ⟨e,he⟩:∃ q,t.e=q:=⟨_,rfl⟩
 rw [he] at HM ⊢
 clear he
 clear h
 go_enter Tryz.func20,Tryz.ntmps20
 go_wp2_with fail
 refine HM.out.mono ?_
 rintro e w1 ⟨rfl,rfl⟩
 go_wp2_with fail
 go_ret
 exact ⟨rfl,rfl⟩
theorem tHalted_no {v:Value} (h:NoTee w v):Calls Tryz.prog 20 #[v] w fun e w'=>e=.returned (.bool true)∧w=w':=by
 have HM:=hid (tWhy_no h)
 clear h
 go_enter Tryz.func20,Tryz.ntmps20
 go_wp2_with fail
 refine HM.out.mono ?_
 rintro e w1 ⟨rfl,rfl⟩
 go_wp2_with fail
 go_ret
 exact ⟨rfl,rfl⟩
set_option maxHeartbeats 1600000 in
theorem tSeal_any (h:TeeW w g b c a t) (G:t.Good):Calls Tryz.prog 19 #[.pointer (some ⟨g,0,none⟩)] w fun e w'=>e=.returned (.agg (sec t.s))∧Below w.heap.size w w':=by
 have hb0:Below w.heap.size w (w.alloc (.cells (sec seZ) 40)):=(Below.refl _ _).alloc (Nat.le_refl _) _
 have HM:=hid (tmade_yes (h.below hb0))
 have hld:loadSe (.pointer (some ⟨g,3,none⟩)) (w.alloc (.cells (sec seZ) 40))=.ok (.value (.agg (sec t.s))) (w.alloc (.cells (sec seZ) 40)):=by
  obtain ⟨_,h⟩:=h
  exact (h.below hb0).seal_ G.s
 have hr0:=heap_alloc_new w (.cells (sec seZ) 40)
 have hal:allocSe w=.ok (.value (.pointer (some ⟨w.heap.size,0,none⟩))) (w.alloc (.cells (sec seZ) 40)):=allocSe_eq w
 obtain ⟨S,HS⟩:∃ q:Array Value,Hid (sec t.s=q):=⟨_,hid rfl⟩
 have HSS:Hid (S.size=35∧S.all (·.oneCell')=true):=hid (by rw [← HS.out];exact ⟨sec_size G.s,sec_one _⟩)
 have hst:=storeSe_eq hr0 (sec_size seZ_ok) HSS.out.1 HSS.out.2
 have HR0:=hid (setSe_same (C:=S) hr0)
 have HB:=hid (setSe_below (C:=S) hb0 (Nat.le_refl _))
 rw [HS.out]
 rw [HS.out] at hld
 obtain ⟨Z,HZ⟩:∃ C:Array Value,Hid (sec seZ=C):=⟨_,hid rfl⟩
 rw [HZ.out] at hb0 hal hst HR0 HB HM hld
 clear h hr0 hb0 HS
 go_enter Tryz.func19,Tryz.ntmps19
 go_upto_region 1 with (fail)
 clear hal
 generalize (w.alloc (.cells Z 40))=w0 at *
 go_wp2_with fail
 refine HM.out.mono ?_
 rintro e w1 ⟨rfl,rfl⟩
 go_wp2_with fail
 try simp only [Exit.inBlock,Exit.then]
 refine bodyPost_ret (results_ck1 rfl _ _ _ _ _ rfl HR0.out HSS.out.1) rfl ⟨rfl,HB.out⟩
set_option maxHeartbeats 1600000 in
theorem tSeal_no {v:Value} (h:NoTee w v):Calls Tryz.prog 19 #[v] w fun e w'=>e=.returned (.agg (sec seZ))∧Below w.heap.size w w':=by
 have hb0:Below w.heap.size w (w.alloc (.cells (sec seZ) 40)):=(Below.refl _ _).alloc (Nat.le_refl _) _
 have HM:Hid (Calls Tryz.prog 51 #[v] (w.alloc (.cells (sec seZ) 40)) fun e w'=>e=.returned (.bool false)∧(w.alloc (.cells (sec seZ) 40))=w'):=hid (tmade_no (by
  rcases h with rfl | ⟨g,rfl,hc⟩
  ·exact .inl rfl
  ·exact .inr ⟨g,rfl,(hb0.block g (lt_of_block hc)).trans hc⟩))
 have hr0:=heap_alloc_new w (.cells (sec seZ) 40)
 have hal:allocSe w=.ok (.value (.pointer (some ⟨w.heap.size,0,none⟩))) (w.alloc (.cells (sec seZ) 40)):=allocSe_eq w
 have hbz:∀ W,buildSe W=.ok (.value (.agg (sec seZ))) W:=buildSe_eq
 obtain ⟨Z,HZ⟩:∃ C:Array Value,Hid (sec seZ=C):=⟨_,hid rfl⟩
 have HSS:Hid (Z.size=35∧Z.all (·.oneCell')=true):=hid (by rw [← HZ.out];exact ⟨sec_size seZ_ok,sec_one _⟩)
 rw [HZ.out] at hb0 hal HM hr0 hbz ⊢
 have hst:=storeSe_eq hr0 HSS.out.1 HSS.out.1 HSS.out.2
 have HR0:=hid (setSe_same (C:=Z) hr0)
 have HB:=hid (setSe_below (C:=Z) hb0 (Nat.le_refl _))
 clear h hr0 hb0 HZ
 go_enter Tryz.func19,Tryz.ntmps19
 go_upto_region 1 with (fail)
 clear hal
 generalize (w.alloc (.cells Z 40))=w0 at *
 go_wp2_with fail
 refine HM.out.mono ?_
 rintro e w1 ⟨rfl,rfl⟩
 go_wp2_with fail
 try simp only [Exit.inBlock,Exit.then]
 refine bodyPost_ret (results_ck1 rfl _ _ _ _ _ rfl HR0.out HSS.out.1) rfl ⟨rfl,HB.out⟩
end
end Go.Proofs.YtpdnnmabijmfbaaGreatDoor
