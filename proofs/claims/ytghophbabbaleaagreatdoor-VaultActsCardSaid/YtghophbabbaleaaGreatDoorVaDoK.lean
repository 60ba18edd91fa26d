/-
  tithinglaw14.Do: what an act tells is as it must be: Keep, Load. Printed with genvacts.py.
-/
import Derived.Test.YtghophbabbaleaaGreatDoorVaDoWords
namespace Go.Proofs.YtghophbabbaleaaGreatDoor
set_option maxRecDepth 20000
open Go.RowKit
attribute [local go_sem ↓] exec_load_rv exec_alloc_rv exec_store_rv exec_load_se exec_alloc_se exec_store_se exec_eq_se
set_option maxHeartbeats 25600000 in
theorem doK_any {b c a : Nat} (V : VaM) (C : Array Value) (x : ActM) (s3 : Value) (Ls : List OldM) (w : World) (hv : Vlt w b c a V) (g : V.Good) (hC : RvC w C V) (hx : ActOk w x) (hxl : x.bl.length ≤ 1200) (ho : Els ocl 2 w s3 Ls) (hoo : ∀ o ∈ Ls, OldOk w o)
    (hact : x.act = 0 ∨ x.act = 1) (hKT : ∀ W, Turn b a w W → Kst 1 W ∧ Kst 0 W) :
    Calls Tryz.prog 10 #[.pointer (some ⟨b, 0, none⟩), .agg C, .agg (acc x), s3] w (DoPost b c a w) := by
  have HG := hid g
  have HKT := hid hKT
  have HXO := hid hx.1
  have HXN := hid (show x.n ≤ 9223372036854775807 ∧ -9223372036854775808 ≤ x.m ∧ x.m ≤ 9223372036854775807 from by
    have h1 : -9223372036854775808 ≤ x.n ∧ x.n ≤ 9223372036854775807 := by simpa [Lit.wf, IntKind.min, IntKind.max, IntKind.signed, IntKind.bits] using hx.2.1.1
    have h2 : -9223372036854775808 ≤ x.m ∧ x.m ≤ 9223372036854775807 := by simpa [Lit.wf, IntKind.min, IntKind.max, IntKind.signed, IntKind.bits] using hx.2.1.2.1
    exact ⟨h1.2, h2.1, h2.2⟩)
  have HXB : Hid (∀ W, Turn b a w W → Byt W x.b x.bl) := hid (fun W t => hv.turned hx.2.2 t)
  have HXL := hid hxl
  obtain ⟨A3, d3, rfl⟩ := ho.shape
  have HOLD : Hid (∀ k (h : k < Ls.length), ∃ bo oo, A3 = some ⟨bo, oo, none⟩ ∧ bo < w.heap.size ∧ w.cell? ⟨bo, oo + k * 2, none⟩ = some (.slice Ls[k].A0 Ls[k].l0.length Ls[k].c0) ∧ w.cell? ⟨bo, oo + k * 2 + 1, none⟩ = some (.slice Ls[k].A1 Ls[k].l1.length Ls[k].c1) ∧ OldOk w Ls[k]) := hid (fun k hk => by
    obtain ⟨bo, oo, e, hb, hc⟩ := ho.at_.2.2.2 (by omega)
    exact ⟨bo, oo, e, hb, hc k hk 0 _ rfl, hc k hk 1 _ rfl, hoo _ (List.getElem_mem hk)⟩)
  have HTO : Hid (∀ W v l, Byt w v l → Turn b a w W → Byt W v l) := hid (fun W v l h t => hv.turned h t)
  obtain ⟨N3, HN3⟩ : ∃ q : Nat, Hid (Ls.length = q) := ⟨_, hid rfl⟩
  rw [HN3.out]
  obtain ⟨AX, HAX⟩ : ∃ q : Array Value, Hid (acc x = q) := ⟨_, hid rfl⟩
  have HACT : Hid (∀ (W : World) (gx : Nat), W.heap[gx]? = some (.cells AX 42 (0, 0)) → (W.cell? ⟨gx, 0, none⟩ = some (.int .i64 x.act) ∧ W.cell? ⟨gx, 36, none⟩ = some (.int .i64 x.n) ∧ W.cell? ⟨gx, 37, none⟩ = some (.int .i64 x.m) ∧ W.cell? ⟨gx, 38, none⟩ = some (.int .i64 x.k) ∧ W.cell? ⟨gx, 39, none⟩ = some x.b) ∧ loadSe (.pointer (some ⟨gx, 1, none⟩)) W = .ok (.value (.agg (sec x.s))) W) := hid (fun W gx h => by
    rw [← HAX.out] at h
    have h2 : BoxAc W gx x := h
    exact ⟨h2.cells HXO.out, h2.sealed HXO.out⟩)
  obtain ⟨SC, HSC⟩ : ∃ q : Array Value, Hid (sec x.s = q) := ⟨_, hid rfl⟩
  rw [HSC.out] at HACT
  rw [HAX.out]
  have hr5 := heap_alloc_new w (.cells C 32)
  have hb5 : Below w.heap.size w (w.alloc (.cells C 32)) := (Below.refl _ _).alloc (Nat.le_refl _) _
  have hsz5 : (w.alloc (.cells C 32)).heap.size = w.heap.size + 1 := by simp
  have hr6 := heap_alloc_new (w.alloc (.cells C 32)) (.cells AX 42)
  have hb6 : Below (w.alloc (.cells C 32)).heap.size (w.alloc (.cells C 32)) ((w.alloc (.cells C 32)).alloc (.cells AX 42)) := (Below.refl _ _).alloc (Nat.le_refl _) _
  have hsz6 : ((w.alloc (.cells C 32)).alloc (.cells AX 42)).heap.size = w.heap.size + 2 := by simp
  have hal := allocRv_eq ((w.alloc (.cells C 32)).alloc (.cells AX 42))
  have hr8 := heap_alloc_new ((w.alloc (.cells C 32)).alloc (.cells AX 42)) (.cells rvZ 32)
  have hb8 : Below ((w.alloc (.cells C 32)).alloc (.cells AX 42)).heap.size ((w.alloc (.cells C 32)).alloc (.cells AX 42)) (((w.alloc (.cells C 32)).alloc (.cells AX 42)).alloc (.cells rvZ 32)) := (Below.refl _ _).alloc (Nat.le_refl _) _
  have hbz := (hb5.trans (hb6.mono hb5.size)).trans (hb8.mono (Nat.le_trans hb5.size hb6.size))
  have hr5z := (hb8.block _ (by have := lt_of_block hr5; omega)).trans ((hb6.block _ (lt_of_block hr5)).trans hr5)
  have hr6z := (hb8.block _ (lt_of_block hr6)).trans hr6
  rw [hsz5] at hr6z
  rw [hsz6] at hr8 hal
  have HS0 : Hid (DoSt w (((w.alloc (.cells C 32)).alloc (.cells AX 42)).alloc (.cells rvZ 32)) b c a w.heap.size V V C AX) := hid ⟨hv.below hbz, hr5z, hr6z, hr8, hC.below hbz, Turn.of hbz⟩
  have HLE := hid (Nat.le_refl w.heap.size)
  have HOB := hid hbz.block
  clear hv g hC hx hxl ho hoo hKT hr5 hb5 hsz5 hr6 hb6 hsz6 hr8 hb8 hbz hr5z hr6z HAX
  go_enter Tryz.func10, Tryz.ntmps10
  go_upto_region 1 with (fail)
  clear hal
  generalize (((w.alloc (.cells C 32)).alloc (.cells AX 42)).alloc (.cells rvZ 32)) = wz at *
  have x0 := (HACT.out wz _ HS0.out.r6).1.1
  have HACD := hid x0
  clear x0
  obtain ⟨act, HAC⟩ : ∃ q : Int, Hid (x.act = q) := ⟨_, hid rfl⟩
  rw [HAC.out] at HACD HACT
  have x0 := HACD.out
  have hact2 : act = 0 ∨ act = 1 := by rw [← HAC.out]; exact hact
  clear hact
  by_cases d0 : act = 0
  · as_aux_lemma =>
    subst d0
    have hld5 := HS0.out.ld5
    have xs := (HACT.out wz _ HS0.out.r6).2
    have HRK : Hid (Calls Tryz.prog 25 #[.agg C, .agg SC] wz (RkPost (keepE V x.s) (keepV V x.s) wz)) := hid (by
      have := refKeep14_any V C x.s wz HS0.out.rc HG.out HXO.out (HKT.out wz HS0.out.t).2
      rw [HSC.out] at this
      exact this)
    have HVK : Hid (∀ W, Turn b a w W → Vlt W b c a V → Calls Tryz.prog 18 #[.pointer (some ⟨b, 0, none⟩), .agg SC] W fun e w' => e = .returned (.int .i64 (keepE V x.s)) ∧ Vlt w' b c a (keepV V x.s) ∧ Turn b a W w') := hid (fun W t hv => by
      have := vKeep_any hv HG.out x.s HXO.out (HKT.out W t).1
      rw [HSC.out] at this
      exact this)
    have HGK := hid (keepV_good (s := x.s) HG.out HXO.out)
    obtain ⟨kE, HKE⟩ : ∃ q : Int, Hid (keepE V x.s = q) := ⟨_, hid rfl⟩
    obtain ⟨kV, HKV⟩ : ∃ q : VaM, Hid (keepV V x.s = q) := ⟨_, hid rfl⟩
    rw [HKE.out, HKV.out] at HRK HVK
    rw [HKV.out] at HGK
    go_wp2_with fail
    refine HRK.out.mono ?_
    rintro e w1 ⟨C1, rfl, hC1, hb1⟩
    have hal := allocRv_eq w1
    have hsv := rv_var w1 (Z := rvZ) rfl hC1.size hC1.one
    have hb2 := hb1.alloc hb1.size (.cells C1 32)
    have HS2 := hid (HS0.out.below hb2)
    have HC2 := hid (hC1.below (show Below w1.heap.size w1 (w1.alloc (.cells C1 32)) from (Below.refl _ _).alloc (Nat.le_refl _) _))
    have HR2 := hid (heap_alloc_new w1 (.cells C1 32))
    clear hC1 hb1 hb2 hld5 xs x0
    go_upto_region 4 with (fail)
    clear hal hsv
    generalize (w1.alloc (.cells C1 32)) = w2 at *
    generalize w1.heap.size = g10 at *
    have hke : (kE == kE) = true := by simp
    have hdr : Below w2.heap.size w2 w2.drew := (Below.refl _ _).drew
    have HS2d := hid (HS2.out.below hdr)
    have HR2d : Hid (w2.drew.heap[g10]? = some (.cells C1 32 (0, 0))) := HR2
    have HC2d := hid (HC2.out.below hdr)
    refine wp_region_held_drew (S := fun W => loadRv (.pointer (some ⟨g10, 0, none⟩)) W = .ok (.value (.agg C1)) W ∧ loadSe (.pointer (some ⟨w.heap.size + 1, 1, none⟩)) W = .ok (.value (.agg SC)) W) (by kernel_rfl) ⟨loadRv_row HR2d.out HC2d.out.size, (HACT.out _ _ HS2d.out.r6).2⟩ (fun hHeld => ?_)
    refine' tk (i := 0) (v := _) rfl (fun W hW => hW.1) ?_
    try simp only [lay]
    refine' tk (i := 1) (v := _) rfl ?_ ?_
    rotate_left
    · (intro W hW; (try dsimp only at hW); go_simp; first | done | with_reducible rfl)
    try simp only [lay]
    refine' tk (i := 2) (v := _) rfl ?_ ?_
    rotate_left
    · (intro W hW; (try dsimp only at hW); go_simp; first | done | with_reducible rfl)
    try simp only [lay]
    refine' tk (i := 3) (v := _) rfl (fun W hW => hW.2) ?_
    try simp only [lay]
    refine' tk (i := 5) (v := _) rfl ?_ ?_
    rotate_left
    · (intro W hW; (try dsimp only at hW); go_simp; first | done | with_reducible rfl)
    try simp only [lay]
    refine call_on (i := 4) rfl (by kernel_rfl) (by rfl) (fun K hK => ?_)
    go_simp
    refine (HVK.out _ HS2d.out.t HS2d.out.v).mono ?_
    rintro e w3 ⟨rfl, h3, t3⟩
    have HS3 := hid (HS2d.out.turn t3 h3)
    have HR3 := hid (HS2d.out.v.other HR2d.out (by decide) (by decide) t3)
    have HC3 := hid (HS2d.out.v.turnedR HC2d.out t3)
    refine hK.out _ _ (⟨loadRv_row HR3.out HC3.out.size, (HACT.out _ _ HS3.out.r6).2⟩) (fun hHeld => ?_)
    clear hK K
    try simp only [lay]
    refine' tk (i := 6) (v := _) rfl ?_ ?_
    rotate_left
    · (intro W hW; (try dsimp only at hW); go_simp; first | done | with_reducible rfl)
    try simp only [lay]
    obtain ⟨hst, hrw, hvf, hrc, htf⟩ := HS3.out.fin HLE.out HC3.out
    have HRW := hid hrw
    have HVF := hid hvf
    have HRC := hid hrc
    have HTF := hid htf
    have HR9 := hid (show (setSe w3 (w.heap.size + 2) C1).heap[g10]? = some (.cells C1 32 (0, 0)) from by
      by_cases e : g10 = w.heap.size + 2
      · rw [e]
        exact hrw
      · exact (setSe_other _ _ e).trans HR3.out)
    have HR69 := hid (show (setSe w3 (w.heap.size + 2) C1).heap[w.heap.size + 1]? = some (.cells AX 42 (0, 0)) from (setSe_other _ _ (by omega)).trans HS3.out.r6)
    clear hrw hvf hrc htf
    refine call_on (i := 7) rfl (by kernel_rfl) (by rfl) (fun K hK => ?_)
    go_simp
    refine hK.out _ _ (⟨loadRv_row HR9.out HC3.out.size, (HACT.out _ _ HR69.out).2⟩) (fun hHeld => ?_)
    clear hK K
    try simp only [lay]
    refine' tk (i := 8) (v := _) rfl ?_ ?_
    rotate_left
    · (intro W hW; (try dsimp only at hW); go_simp; first | done | with_reducible rfl)
    try simp only [lay]
    refine wpAnyH_done (by kernel_rfl) ?_ _
    clear hHeld hst hke hdr h3 t3
    go_wp2_with fail
    try simp only [Exit.inBlock, Exit.then]
    refine bodyPost_ret (results_rv2 rfl _ _ _ _ _ _ rfl rfl HRW.out HRC.out.size) rfl ⟨_, _, rfl, HVF.out, HGK.out, HRC.out, HTF.out⟩
  by_cases d1 : act = 1
  · as_aux_lemma =>
    subst d1
    clear d0
    have hld5 := HS0.out.ld5
    obtain ⟨S, HS⟩ : ∃ q : Array Value, Hid (sec (loadS V) = q) := ⟨_, hid rfl⟩
    obtain ⟨E, HE⟩ : ∃ q : Int, Hid (loadE V = q) := ⟨_, hid rfl⟩
    have HSS : Hid (S.size = 35 ∧ S.all (·.oneCell') = true) := hid (by rw [← HS.out]; exact ⟨sec_size (loadS_ok _), sec_one _⟩)
    have HEQ : Hid (∀ W, eqSe (.agg S) (.agg S) W = .ok (.value (.bool true)) W) := hid (fun W => by
      have := eqSe_eq (loadS V) (loadS V) (loadS_ok _) (loadS_ok _) W
      rw [HS.out, decide_eq_true rfl] at this
      exact this)
    obtain ⟨Z, HZ⟩ : ∃ q : Array Value, Hid (sec seZ = q) := ⟨_, hid rfl⟩
    have HZS : Hid (Z.size = 35) := hid (by rw [← HZ.out]; exact sec_size seZ_ok)
    have HAL : Hid (∀ W, allocSe W = .ok (.value (.pointer (some ⟨W.heap.size, 0, none⟩))) (W.alloc (.cells Z 40))) := hid (fun W => by rw [← HZ.out]; exact allocSe_eq W)
    have HRL : Hid (Calls Tryz.prog 26 #[.agg C] wz fun e w' => e = .returned (.tuple #[.agg S, .int .i64 E]) ∧ Below wz.heap.size wz w') := hid (by
      have := refLoad14_any V C wz HS0.out.rc HG.out (HKT.out wz HS0.out.t).2
      rw [HS.out, HE.out] at this
      exact this)
    have HVL : Hid (∀ W, Turn b a w W → Vlt W b c a V → Calls Tryz.prog 20 #[.pointer (some ⟨b, 0, none⟩)] W fun e w' => e = .returned (.tuple #[.agg S, .int .i64 E]) ∧ Below W.heap.size W w') := hid (fun W t hv => by
      have := vLoad_any hv HG.out (HKT.out W t).1
      rw [HS.out, HE.out] at this
      exact this)
    clear HS HE HZ
    go_wp2_with fail
    refine HRL.out.mono ?_
    rintro e w1 ⟨rfl, hb1⟩
    have hal := HAL.out
    have hs1 := se_var w1 HZS.out HSS.out.1 HSS.out.2
    have hb2 := hb1.alloc hb1.size (.cells S 40)
    have HS2 := hid (HS0.out.below hb2)
    have HR2 := hid (heap_alloc_new w1 (.cells S 40))
    clear hb1 hb2 hld5 x0
    go_upto_region 7 with (fail)
    clear hal hs1
    generalize (w1.alloc (.cells S 40)) = w2 at *
    generalize w1.heap.size = g12 at *
    go_wp2_with fail
    refine (HVL.out w2 HS2.out.t HS2.out.v).mono ?_
    rintro e w3 ⟨rfl, hb3⟩
    have hal := HAL.out
    have hs3 := se_var w3 HZS.out HSS.out.1 HSS.out.2
    have hb4 := hb3.alloc hb3.size (.cells S 40)
    have HS4 := hid (HS2.out.below hb4)
    have HR4 := hid ((hb4.block _ (lt_of_block HR2.out)).trans HR2.out)
    have HR5 := hid (heap_alloc_new w3 (.cells S 40))
    clear hb3 hb4
    go_upto_region 8 with (fail)
    clear hal hs3
    generalize (w3.alloc (.cells S 40)) = w4 at *
    generalize w3.heap.size = g14 at *
    have hee : (E == E) = true := by simp
    have heq := HEQ.out
    have hdr : Below w4.heap.size w4 w4.drew := (Below.refl _ _).drew
    have HSd := hid (HS4.out.below hdr)
    have HRa : Hid (w4.drew.heap[g12]? = some (.cells S 40 (0, 0))) := HR4
    have HRb : Hid (w4.drew.heap[g14]? = some (.cells S 40 (0, 0))) := HR5
    refine wp_region_held_drew (S := fun W => loadRv (.pointer (some ⟨w.heap.size, 0, none⟩)) W = .ok (.value (.agg C)) W ∧ loadSe (.pointer (some ⟨g12, 0, none⟩)) W = .ok (.value (.agg S)) W ∧ loadSe (.pointer (some ⟨g14, 0, none⟩)) W = .ok (.value (.agg S)) W) (by kernel_rfl) ⟨HSd.out.ld5, loadSe_row HRa.out HSS.out.1, loadSe_row HRb.out HSS.out.1⟩ (fun hHeld => ?_)
    refine' tk (i := 0) (v := _) rfl (fun W hW => hW.1) ?_
    try simp only [lay]
    refine' tk (i := 1) (v := _) rfl (fun W hW => hW.2.1) ?_
    try simp only [lay]
    refine' tk (i := 2) (v := _) rfl (fun W hW => hW.2.2) ?_
    try simp only [lay]
    refine' tk (i := 3) (v := _) rfl ?_ ?_
    rotate_left
    · (intro W hW; (try dsimp only at hW); go_simp; first | done | with_reducible rfl)
    try simp only [lay]
    refine' tk (i := 4) (v := _) rfl ?_ ?_
    rotate_left
    · (intro W hW; (try dsimp only at hW); go_simp; first | done | with_reducible rfl)
    try simp only [lay]
    refine' tk (i := 5) (v := _) rfl ?_ ?_
    rotate_left
    · (intro W hW; (try dsimp only at hW); go_simp; first | done | with_reducible rfl)
    try simp only [lay]
    refine' tk (i := 6) (v := _) rfl ?_ ?_
    rotate_left
    · (intro W hW; (try dsimp only at hW); go_simp; first | done | with_reducible rfl)
    try simp only [lay]
    refine' tk (i := 7) (v := _) rfl ?_ ?_
    rotate_left
    · (intro W hW; (try dsimp only at hW); go_simp; first | done | with_reducible rfl)
    try simp only [lay]
    refine' tk (i := 8) (v := _) rfl ?_ ?_
    rotate_left
    · (intro W hW; (try dsimp only at hW); go_simp; first | done | with_reducible rfl)
    try simp only [lay]
    obtain ⟨hst, hrw, hvf, hrc, htf⟩ := HSd.out.fin HLE.out HSd.out.rc
    have HRW := hid hrw
    have HVF := hid hvf
    have HRC := hid hrc
    have HTF := hid htf
    have HN12 := hid (show g12 ≠ w.heap.size + 2 from blk_ne HRa.out HSd.out.r8 (by decide))
    have HN14 := hid (show g14 ≠ w.heap.size + 2 from blk_ne HRb.out HSd.out.r8 (by decide))
    have HR0 := hid (show (setSe w4.drew (w.heap.size + 2) C).heap[w.heap.size]? = some (.cells C 32 (0, 0)) from (setSe_other _ _ (by omega)).trans HSd.out.r5)
    clear hrw hvf hrc htf
    refine call_on (i := 9) rfl (by kernel_rfl) (by rfl) (fun K hK => ?_)
    go_simp
    refine hK.out _ _ (⟨loadRv_row HR0.out HSd.out.rc.size, loadSe_row ((setSe_other _ _ HN12.out).trans HRa.out) HSS.out.1, loadSe_row ((setSe_other _ _ HN14.out).trans HRb.out) HSS.out.1⟩) (fun hHeld => ?_)
    clear hK K
    try simp only [lay]
    refine' tk (i := 10) (v := _) rfl ?_ ?_
    rotate_left
    · (intro W hW; (try dsimp only at hW); go_simp; first | done | with_reducible rfl)
    try simp only [lay]
    refine wpAnyH_done (by kernel_rfl) ?_ _
    clear hHeld hst hee heq hdr
    go_wp2_with fail
    try simp only [Exit.inBlock, Exit.then]
    refine bodyPost_ret (results_rv2 rfl _ _ _ _ _ _ rfl rfl HRW.out HRC.out.size) rfl ⟨_, _, rfl, HVF.out, HG.out, HRC.out, HTF.out⟩
  · exact (hact2.elim d0 d1).elim
end Go.Proofs.YtghophbabbaleaaGreatDoor
