/-
  AccuPuts: any accumulation's bytes behind any, that it is read, and which one any bytes begin with: the law's walk, from what accu's functions tell. Printed with genacputsw.py.
-/
import Derived.Test.YthgdgkdnidjdgaaDoorAcOk
import Derived.Test.YthgdgkdnidjdgaaDoorAcBytes
import Derived.Test.YthgdgkdnidjdgaaDoorAcSame
import Derived.Test.YthgdgkdnidjdgaaDoorAcMay
import Derived.Test.YthgdgkdnidjdgaaDoorAcRead
import Derived.Test.YthgdgkdnidjdgaaDoorBs2
import Derived.Test.YthgdgkdnidjdgaaDoorBs6
import Derived.Deep.DeepCutAuto
namespace Go.Proofs.YthgdgkdnidjdgaaDoor
set_option maxRecDepth 20000
open Go.RowKit
attribute [local go_sem ↓] exec_load_ax exec_alloc_ax exec_store_ax

set_option maxHeartbeats 12800000 in
theorem lawAccuPuts_any (hP : AcPutOk) (hD : AcReadOk) (hA : AcAwakeOk) (v0 : Value) (c : AcM) (v1 : Value) (l1 : List UInt8) (v2 : Value) (l2 : List UInt8) (w : World) (hv0 : AcV w v0 c) (hv1 : Byt w v1 l1) (hv2 : Byt w v2 l2) (hK : Kst 0 w) :
    Calls Tryd.prog 5 #[v0, v1, v2] w fun e w' => e = .returned (.bool true) ∧ Below w.heap.size w w' := by
  have HA := hid (fun W (h : Below w.heap.size w W) => hA W (hK.below h))
  have hm1 := hv1.len
  have hm2 := hv2.len
  unfold maxLen at hm1 hm2
  obtain ⟨A1, c1, rfl⟩ := hv1.shape
  obtain ⟨A2, c2, rfl⟩ := hv2.shape
  obtain ⟨L1, HL1⟩ : ∃ n : Nat, Hid (l1.length = n) := ⟨_, hid rfl⟩
  obtain ⟨L2, HL2⟩ : ∃ n : Nat, Hid (l2.length = n) := ⟨_, hid rfl⟩
  have HRE := hid (fun W (h : Below w.heap.size w W) (hl : l2.length ≤ 1000000) => refRead10_any A2 c2 0 true l2 W (hv2.below h) (Nat.zero_le _) hl)
  rw [HL1.out] at hv1 hm1 ⊢
  rw [HL2.out] at hv2 hm2 ⊢
  have HV1 := hid (fun W (h : Below w.heap.size w W) => hv1.below h)
  have HV2 := hid (fun W (h : Below w.heap.size w W) => hv2.below h)
  obtain ⟨m, HM⟩ : ∃ m : Bool, Hid (mayX c = m) := ⟨_, hid rfl⟩
  obtain ⟨P, HPA⟩ : ∃ P : List UInt8, Hid (putX l1 c = P) := ⟨_, hid rfl⟩
  obtain ⟨SL, HSL⟩ : ∃ n : Nat, Hid (c.fr.length = n) := ⟨_, hid rfl⟩
  have HPT : Hid (SL ≤ 1000 → ∀ v W, Below w.heap.size w W → Byt W v l1 → l1.length ≤ 1000000 → Calls Tryd.prog 17 #[v, v0] W fun e w' => ∃ x, e = .returned x ∧ Byt w' x P ∧ Below W.heap.size W w') := hid (fun hs v W hb h hl => by
    have := hP v v0 l1 c W h hl (hv0.below hb) (by rw [HSL.out]; exact hs)
    rw [HPA.out] at this
    exact this)
  have HMA : Hid (∀ W, Below w.heap.size w W → Calls Tryd.prog 18 #[v0] W fun e w' => e = .returned (.bool m) ∧ Below W.heap.size W w') := hid (fun W hb => by
    have := refMay10_any v0 c W (hv0.below hb)
    rw [HM.out] at this
    exact this)
  obtain ⟨O, HO⟩ : ∃ O : List UInt8, Hid (bytesX c = O) := ⟨_, hid rfl⟩
  have HBY : Hid (m = true → ∀ W, Below w.heap.size w W → Calls Tryd.prog 20 #[v0] W fun e w' => ∃ x, e = .returned x ∧ Own W.heap.size w' x O ∧ Below W.heap.size W w') := hid (fun hm W hb => by
    have := refBytes10_any v0 c W (hv0.below hb) (HM.out.trans hm)
    rw [HO.out] at this
    exact this)
  have HCO : Hid c.Ok := hid (by obtain ⟨s, _, h, _⟩ := hv0; exact h)
  have HOL : Hid (m = true → O.length ≤ 1000) := hid (fun hm => by rw [← HO.out]; exact Nat.le_trans (bytesX_len HCO.out (HM.out.trans hm)) (by omega))
  have HRD : Hid (m = true → ∀ g W, Rdr W g (O ++ l2) 0 true → (O ++ l2).length ≤ 1000000 → Calls Tryd.prog 14 #[.pointer (some ⟨g, 0, none⟩)] W fun e w' => ∃ x, e = .returned (.tuple #[x, .bool true]) ∧ AcV w' x c ∧ W.grownBy w' (some g)) := hid (fun hm g W h hl => by
    obtain ⟨i1, i2, _⟩ := acIs_back (L := O ++ l2) (r := l2) (p := 0) HCO.out (HM.out.trans hm) (by rw [HO.out, List.drop_zero])
    refine (hD g (O ++ l2) 0 true W h hl).mono ?_
    rintro e w' ⟨x, rfl, hx, _, hg⟩
    rw [i1]
    rw [i2] at hx
    exact ⟨x, rfl, hx, hg⟩)
  have HPM : Hid (m = true → P = l1 ++ O) := hid (fun hm => by rw [← HPA.out, ← HO.out]; unfold putX; rw [if_pos (HM.out.trans hm)])
  have HPN : Hid (m = false → P = l1) := hid (fun hm => by rw [← HPA.out]; unfold putX; rw [if_neg (by rw [HM.out, hm]; decide)])
  obtain ⟨ok, HOK⟩ : ∃ q : Bool, Hid (acIs l2 0 true = q) := ⟨_, hid rfl⟩
  obtain ⟨y, HY⟩ : ∃ q : AcM, Hid (acOf l2 0 true = q) := ⟨_, hid rfl⟩
  obtain ⟨p, HP⟩ : ∃ n : Nat, Hid ((rawX l2 0 true).2.1 = n) := ⟨_, hid rfl⟩
  obtain ⟨wr, HWR⟩ : ∃ q : Bool, Hid ((!(rawX l2 0 true).2.2) = q) := ⟨_, hid rfl⟩
  have HDD := hid (fun g W (h : Rdr W g l2 0 true) (hl : l2.length ≤ 1000000) => hD g l2 0 true W h hl)
  rw [HY.out, HOK.out, HP.out] at HDD
  rw [HY.out, HOK.out, HP.out, HWR.out, HL2.out] at HRE
  have HVC := hid (fun W (h : Below w.heap.size w W) => hv0.below h)
  obtain ⟨sc, rfl, hoc, hec⟩ := hv0
  have HSZS := hid (axc_size sc hoc)
  obtain ⟨A0, k0, rfl⟩ := hec.shape
  have HCS : Hid ((axc c (.slice A0 c.fr.length k0))[35]? = some (.slice A0 SL k0)) := hid (by rw [axc_35 _ hoc, HSL.out])
  obtain ⟨S, HS⟩ : ∃ C : Array Value, Hid (axc c (.slice A0 c.fr.length k0) = C) := ⟨_, hid rfl⟩
  rw [HS.out] at HPT HMA HBY HVC HSZS HCS ⊢
  obtain ⟨Z, HZ⟩ : ∃ C : Array Value, Hid (axc acZ (.slice none 0 0) = C) := ⟨_, hid rfl⟩
  have HAL : Hid (∀ W, allocAx W = .ok (.value (.pointer (some ⟨W.heap.size, 0, none⟩))) (W.alloc (.cells Z 30))) := hid (fun W => by rw [← HZ.out]; exact allocAx_eq W)
  have HSZ : Hid (Z.size = 68) := hid (by rw [← HZ.out]; exact axc_size _ acZ_ok)
  have hr0 := heap_alloc_new w (.cells S 30)
  have hb0 : Below w.heap.size w (w.alloc (.cells S 30)) := (Below.refl _ _).alloc (Nat.le_refl _) _
  clear hP hD hA hv1 hv2 hK hoc hec
  go_enter Tryd.func5, Tryd.ntmps5
  go_upto_region 1 with (fail)
  generalize (w.alloc (.cells S 30)) = w0 at *
  have hl0 := lt_of_block hr0
  have HLD : Hid (∀ W, Below w0.heap.size w0 W → loadAx (.pointer (some ⟨w.heap.size, 0, none⟩)) W = .ok (.value (.agg S)) W) := hid (fun W h => loadAx_row ((h.block _ hl0).trans hr0) HSZS.out)
  have c0 := (cell_blk hr0 35).trans HCS.out
  clear hr0 hl0
  by_cases h0 : 30 < SL
  · have i0 : (30 : Int) < (SL : Int) := by omega
    go_wp2_with fail
    refine (HA.out w0 hb0).mono ?_
    rintro e w1 ⟨rfl, hb1⟩
    go_wp2_with fail
    go_ret
    exact ⟨rfl, hb0.trans (hb1.mono hb0.size)⟩
  by_cases h1 : 200 < L1
  · have i0 : ¬ (30 : Int) < (SL : Int) := by omega
    have i1 : (200 : Int) < (L1 : Int) := by omega
    go_wp2_with fail
    refine (HA.out w0 hb0).mono ?_
    rintro e w1 ⟨rfl, hb1⟩
    go_wp2_with fail
    go_ret
    exact ⟨rfl, hb0.trans (hb1.mono hb0.size)⟩
  by_cases h2 : 500 < L2
  · have i0 : ¬ (30 : Int) < (SL : Int) := by omega
    have i1 : ¬ (200 : Int) < (L1 : Int) := by omega
    have i2 : (500 : Int) < (L2 : Int) := by omega
    go_wp2_with fail
    refine (HA.out w0 hb0).mono ?_
    rintro e w1 ⟨rfl, hb1⟩
    go_wp2_with fail
    go_ret
    exact ⟨rfl, hb0.trans (hb1.mono hb0.size)⟩
  have i0 : ¬ (30 : Int) < (SL : Int) := by omega
  have i1 : ¬ (200 : Int) < (L1 : Int) := by omega
  have i2 : ¬ (500 : Int) < (L2 : Int) := by omega
  have HI0 : Hid (SL ≤ 30) := hid (by omega)
  have HI1 : Hid (L1 ≤ 200) := hid (by omega)
  have HI2 : Hid (L2 ≤ 500) := hid (by omega)
  have HL6 : Hid (l2.length ≤ 1000000) := hid (by rw [HL2.out]; omega)
  clear h0 h1 h2
  go_wp2_with fail
  have C := read_any (.slice A2 L2 c2) l2 w0 (HV2.out w0 hb0) (by have := HL6.out; omega)
  refine C.mono ?_
  clear C
  rintro e w1 ⟨g, rfl, hgl, hrd, hb1⟩
  clear c0 i0 i1 i2
  go_wp2_with fail
  refine (HDD.out g w1 hrd HL6.out).mono ?_
  rintro e w2 ⟨x2, rfl, hcx, ⟨p', r', hrd2, hpr⟩, hgr⟩
  have hb2 : Below w0.heap.size w0 w2 := hb1.grown hgr hb1.size (fun k hk => by injection hk with hk; omega)
  have HPR := hid hpr
  obtain ⟨s1, rfl, hk1, hel1⟩ := hcx
  have HT1 := hid (axc_one (a := y) hel1)
  have HX2 : Hid (AcV w2 (.agg (axc y s1)) y) := hid ⟨_, rfl, hk1, hel1⟩
  have HZ1 := hid (axc_size s1 hk1)
  obtain ⟨X, HX1⟩ : ∃ C : Array Value, Hid (axc y s1 = C) := ⟨_, hid rfl⟩
  rw [HX1.out] at HT1 HX2 HZ1 ⊢
  have hal := HAL.out
  have hs2 := ax_var w2 HSZ.out HZ1.out HT1.out
  have hr2 := heap_alloc_new w2 (.cells X 30)
  have hbn : Below w2.heap.size w2 (w2.alloc (.cells X 30)) := (Below.refl _ _).alloc (Nat.le_refl _) _
  have hb3 := hb2.trans (hbn.mono hb2.size)
  have hrd3 := hrd2.below hbn
  have HX3 := hid (HX2.out.below hbn)
  clear hpr hrd hgr hrd2 hbn hb1 hgl hk1 hel1 hb2
  go_upto_region 5 with (fail)
  generalize w2.alloc (.cells X 30) = w3 at *
  have hl3 := lt_of_block hr2
  have hB3 := accu_thru hb0 hb3
  clear hs2 hal
  go_wp2_with fail
  refine (HRE.out w3 hB3 (by have := HL6.out; rw [HL2.out] at this; exact this)).mono ?_
  rintro e w4 ⟨x4, rfl, hcy, hb4'⟩
  unfold rv
  have hb4 := accu_thru hb3 hb4'
  have hr4 := (hb4'.block _ hl3).trans hr2
  have hrd4 := hrd3.below hb4'
  have HX4 := hid (HX3.out.below hb4')
  obtain ⟨s2, rfl, hk2, hel2⟩ := hcy
  have HT2 := hid (axc_one (a := y) hel2)
  have HY4 : Hid (AcV w4 (.agg (axc y s2)) y) := hid ⟨_, rfl, hk2, hel2⟩
  have HZ2 := hid (axc_size s2 hk2)
  obtain ⟨Y, HY1⟩ : ∃ C : Array Value, Hid (axc y s2 = C) := ⟨_, hid rfl⟩
  rw [HY1.out] at HT2 HY4 HZ2 ⊢
  have hal := HAL.out
  have hs4 := ax_var (w4.alloc (.cells #[.slice A2 L2 c2, .int .i64 (p : Int), .bool wr] 46)) HSZ.out HZ2.out HT2.out
  rw [show (w4.alloc (.cells #[.slice A2 L2 c2, .int .i64 (p : Int), .bool wr] 46)).heap.size = w4.heap.size + 1 from by simp] at hs4
  have hq0 := heap1 w4 (.cells #[.slice A2 L2 c2, .int .i64 (p : Int), .bool wr] 46) (.cells Y 30)
  have hq1 := heap2 w4 (.cells #[.slice A2 L2 c2, .int .i64 (p : Int), .bool wr] 46) (.cells Y 30)
  have hbn : Below w4.heap.size w4 ((w4.alloc (.cells #[.slice A2 L2 c2, .int .i64 (p : Int), .bool wr] 46)).alloc (.cells Y 30)) := ((Below.refl _ _).alloc (Nat.le_refl _) _).alloc (by simp) _
  have hb5 := accu_thru hb4 hbn
  have hrd5 := hrd4.below hbn
  have hr5 := (hbn.block _ (lt_of_block hr4)).trans hr4
  have hl4 := lt_of_block hr4
  have HX5 := hid (HX4.out.below hbn)
  have HY5 := hid (HY4.out.below hbn)
  clear hrd3 hrd4 hr2 hr4 hbn hb3 hb4 hb4' hl3 hk2 hel2 hB3
  go_upto_region 6 with (fail)
  generalize ((w4.alloc (.cells #[.slice A2 L2 c2, .int .i64 (p : Int), .bool wr] 46)).alloc (.cells Y 30)) = w5 at *
  clear hs4 hal
  have hlq := lt_of_block hq1
  have HX : Hid (∀ W, Below w5.heap.size w5 W → (W.heap[w2.heap.size]? = some (.cells X 30 (0, 0)) ∧ W.heap[w4.heap.size + 1]? = some (.cells Y 30 (0, 0)) ∧ W.cell? ⟨w4.heap.size, 1, none⟩ = some (.int .i64 (p : Int)))) := hid (fun W h =>
    ⟨(h.block _ (by omega)).trans hr5, (h.block _ hlq).trans hq1, cell_blk ((h.block _ (by omega)).trans hq0) 1⟩)
  have HB5 := hid (accu_thru hb0 hb5)
  have HH5 := hid hb5
  have HRW := hid (fun W (h : Below w5.heap.size w5 W) => hrd5.below h)
  have hbd : Below w5.heap.size w5 w5.drew := (Below.refl _ _).drew
  have HSA : Hid (Calls Tryd.prog 9 #[.agg X, .agg Y] w5.drew fun e w' => e = .returned (.bool true) ∧ Below w5.heap.size w5 w') := hid (by
    refine (refSame10_any _ _ y y w5.drew (HX5.out.below hbd) (HY5.out.below hbd)).mono ?_
    rintro e w' ⟨rfl, hb⟩
    rw [decide_eq_true (rfl : y = y)]
    exact ⟨rfl, accu_thru hbd hb⟩)
  have hL2 : ¬ (L2 : Int) < 0 := by omega
  clear hr5 hq0 hq1 hlq hrd5 hl4 hb5
  go_cut [67] (fun s67 wx => s67 = .bool false ∧ Below w5.heap.size w5 wx)
  case first =>
    refine wp_region_held_drew (S := fun W => W.heap[w2.heap.size]? = some (.cells X 30 (0, 0)) ∧ W.heap[w4.heap.size + 1]? = some (.cells Y 30 (0, 0)) ∧ W.cell? ⟨w4.heap.size, 1, none⟩ = some (.int .i64 (p : Int))) (by kernel_rfl) (HX.out _ hbd) (fun hHeld => ?_)
    cases ok with
    | false =>
      refine' take_on (i := 0) (v := _) rfl (by kernel_rfl) (by kernel_rfl) (by kernel_rfl) (fun _ _ _ h => h) (by rfl) ?_ (by assumption) ?_
      rotate_left
      · (intro W hW; (try dsimp only at hW); go_simp; first | done | with_reducible rfl)
      try simp only [Act.put, List.setIfInBounds_toArray, List.set_cons_zero, List.set_cons_succ]
      refine' take_on (i := 1) (v := _) rfl (by kernel_rfl) (by kernel_rfl) (by kernel_rfl) (fun _ _ _ h => h) (by rfl) ?_ (by assumption) ?_
      rotate_left
      · (intro W hW; (try dsimp only at hW); go_simp; first | done | with_reducible rfl)
      try simp only [Act.put, List.setIfInBounds_toArray, List.set_cons_zero, List.set_cons_succ]
      refine' take_on (i := 2) (v := _) rfl (by kernel_rfl) (by kernel_rfl) (by kernel_rfl) (fun _ _ _ h => h) (by rfl) ?_ (by assumption) ?_
      rotate_left
      · (intro W hW; (try dsimp only at hW); go_simp; first | done | with_reducible rfl)
      try simp only [Act.put, List.setIfInBounds_toArray, List.set_cons_zero, List.set_cons_succ]
      refine' take_on (i := 3) (v := _) rfl (by kernel_rfl) (by kernel_rfl) (by kernel_rfl) (fun _ _ _ h => h) (by rfl) ?_ (by assumption) ?_
      rotate_left
      · (intro W hW; (try dsimp only at hW); go_simp; first | done | with_reducible rfl)
      try simp only [Act.put, List.setIfInBounds_toArray, List.set_cons_zero, List.set_cons_succ]
      refine' take_on (i := 4) (v := _) rfl (by kernel_rfl) (by kernel_rfl) (by kernel_rfl) (fun _ _ _ h => h) (by rfl) (fun W hW => loadAx_row hW.1 HZ1.out) (by assumption) ?_
      try simp only [Act.put, List.setIfInBounds_toArray, List.set_cons_zero, List.set_cons_succ]
      refine' take_on (i := 5) (v := _) rfl (by kernel_rfl) (by kernel_rfl) (by kernel_rfl) (fun _ _ _ h => h) (by rfl) (fun W hW => loadAx_row hW.2.1 HZ2.out) (by assumption) ?_
      try simp only [Act.put, List.setIfInBounds_toArray, List.set_cons_zero, List.set_cons_succ]
      refine call_on (i := 6) rfl (by kernel_rfl) (by rfl) (fun K hK => ?_)
      go_simp
      refine HSA.out.mono ?_
      rintro e w6 ⟨rfl, hb6⟩
      refine hK.out _ _ (HX.out _ hb6) (fun hHeld => ?_)
      clear hK K
      try simp only [Act.put, List.setIfInBounds_toArray, List.set_cons_zero, List.set_cons_succ]
      refine' take_on (i := 7) (v := _) rfl (by kernel_rfl) (by kernel_rfl) (by kernel_rfl) (fun _ _ _ h => h) (by rfl) ?_ (by assumption) ?_
      rotate_left
      · (intro W hW; (try dsimp only at hW); go_simp; first | done | with_reducible rfl)
      try simp only [Act.put, List.setIfInBounds_toArray, List.set_cons_zero, List.set_cons_succ]
      refine' take_on (i := 8) (v := _) rfl (by kernel_rfl) (by kernel_rfl) (by kernel_rfl) (fun _ _ _ h => h) (by rfl) ?_ (by assumption) ?_
      rotate_left
      · (intro W hW; (try dsimp only at hW); go_simp; first | done | with_reducible rfl)
      try simp only [Act.put, List.setIfInBounds_toArray, List.set_cons_zero, List.set_cons_succ]
      refine' take_on (i := 9) (v := _) rfl (by kernel_rfl) (by kernel_rfl) (by kernel_rfl) (fun _ _ _ h => h) (by rfl) ?_ (by assumption) ?_
      rotate_left
      · (intro W hW; (try dsimp only at hW); go_simp; first | done | with_reducible rfl)
      try simp only [Act.put, List.setIfInBounds_toArray, List.set_cons_zero, List.set_cons_succ]
      refine' take_on (i := 10) (v := _) rfl (by kernel_rfl) (by kernel_rfl) (by kernel_rfl) (fun _ _ _ h => h) (by rfl) ?_ (by assumption) ?_
      rotate_left
      · (intro W hW; (try dsimp only at hW); go_simp; first | done | with_reducible rfl)
      try simp only [Act.put, List.setIfInBounds_toArray, List.set_cons_zero, List.set_cons_succ]
      refine' take_on (i := 11) (v := _) rfl (by kernel_rfl) (by kernel_rfl) (by kernel_rfl) (fun _ _ _ h => h) (by rfl) ?_ (by assumption) ?_
      rotate_left
      · (intro W hW; (try dsimp only at hW); go_simp; first | done | with_reducible rfl)
      try simp only [Act.put, List.setIfInBounds_toArray, List.set_cons_zero, List.set_cons_succ]
      refine take_off (i := 12) rfl (by kernel_rfl) (by kernel_rfl) (by kernel_rfl) (fun _ _ _ h => h) (by rfl) (by assumption) ?_
      try simp only [Act.put, List.setIfInBounds_toArray, List.set_cons_zero, List.set_cons_succ]
      refine take_off (i := 13) rfl (by kernel_rfl) (by kernel_rfl) (by kernel_rfl) (fun _ _ _ h => h) (by rfl) (by assumption) ?_
      try simp only [Act.put, List.setIfInBounds_toArray, List.set_cons_zero, List.set_cons_succ]
      refine take_off (i := 14) rfl (by kernel_rfl) (by kernel_rfl) (by kernel_rfl) (fun _ _ _ h => h) (by rfl) (by assumption) ?_
      try simp only [Act.put, List.setIfInBounds_toArray, List.set_cons_zero, List.set_cons_succ]
      refine take_off (i := 15) rfl (by kernel_rfl) (by kernel_rfl) (by kernel_rfl) (fun _ _ _ h => h) (by rfl) (by assumption) ?_
      try simp only [Act.put, List.setIfInBounds_toArray, List.set_cons_zero, List.set_cons_succ]
      refine take_off (i := 16) rfl (by kernel_rfl) (by kernel_rfl) (by kernel_rfl) (fun _ _ _ h => h) (by rfl) (by assumption) ?_
      try simp only [Act.put, List.setIfInBounds_toArray, List.set_cons_zero, List.set_cons_succ]
      refine take_off (i := 17) rfl (by kernel_rfl) (by kernel_rfl) (by kernel_rfl) (fun _ _ _ h => h) (by rfl) (by assumption) ?_
      try simp only [Act.put, List.setIfInBounds_toArray, List.set_cons_zero, List.set_cons_succ]
      refine take_off (i := 18) rfl (by kernel_rfl) (by kernel_rfl) (by kernel_rfl) (fun _ _ _ h => h) (by rfl) (by assumption) ?_
      try simp only [Act.put, List.setIfInBounds_toArray, List.set_cons_zero, List.set_cons_succ]
      refine take_off (i := 19) rfl (by kernel_rfl) (by kernel_rfl) (by kernel_rfl) (fun _ _ _ h => h) (by rfl) (by assumption) ?_
      try simp only [Act.put, List.setIfInBounds_toArray, List.set_cons_zero, List.set_cons_succ]
      refine' take_on (i := 20) (v := _) rfl (by kernel_rfl) (by kernel_rfl) (by kernel_rfl) (fun _ _ _ h => h) (by rfl) ?_ (by assumption) ?_
      rotate_left
      · (intro W hW; (try dsimp only at hW); go_simp; first | done | with_reducible rfl)
      try simp only [Act.put, List.setIfInBounds_toArray, List.set_cons_zero, List.set_cons_succ]
      refine' take_on (i := 21) (v := _) rfl (by kernel_rfl) (by kernel_rfl) (by kernel_rfl) (fun _ _ _ h => h) (by rfl) ?_ (by assumption) ?_
      rotate_left
      · (intro W hW; (try dsimp only at hW); go_simp; first | done | with_reducible rfl)
      try simp only [Act.put, List.setIfInBounds_toArray, List.set_cons_zero, List.set_cons_succ]
      refine wpAnyH_done (by kernel_rfl) ?_ _
      have HBF := hid hb6
      clear hHeld
      go_wp2_with fail
      go_meet
      case rel => exact ⟨rfl, HBF.out⟩
    | true =>
      obtain ⟨e1, e2⟩ := HPR.out rfl
      have HRX : Hid (∀ W, Below w5.heap.size w5 W → Rdr W g l2 p true) := hid (fun W h => by have := HRW.out W h; rw [e1, e2] at this; exact this)
      clear e1 e2 HRW
      refine' take_on (i := 0) (v := _) rfl (by kernel_rfl) (by kernel_rfl) (by kernel_rfl) (fun _ _ _ h => h) (by rfl) ?_ (by assumption) ?_
      rotate_left
      · (intro W hW; (try dsimp only at hW); go_simp; first | done | with_reducible rfl)
      try simp only [Act.put, List.setIfInBounds_toArray, List.set_cons_zero, List.set_cons_succ]
      refine' take_on (i := 1) (v := _) rfl (by kernel_rfl) (by kernel_rfl) (by kernel_rfl) (fun _ _ _ h => h) (by rfl) ?_ (by assumption) ?_
      rotate_left
      · (intro W hW; (try dsimp only at hW); go_simp; first | done | with_reducible rfl)
      try simp only [Act.put, List.setIfInBounds_toArray, List.set_cons_zero, List.set_cons_succ]
      refine' take_on (i := 2) (v := _) rfl (by kernel_rfl) (by kernel_rfl) (by kernel_rfl) (fun _ _ _ h => h) (by rfl) ?_ (by assumption) ?_
      rotate_left
      · (intro W hW; (try dsimp only at hW); go_simp; first | done | with_reducible rfl)
      try simp only [Act.put, List.setIfInBounds_toArray, List.set_cons_zero, List.set_cons_succ]
      refine' take_on (i := 3) (v := _) rfl (by kernel_rfl) (by kernel_rfl) (by kernel_rfl) (fun _ _ _ h => h) (by rfl) ?_ (by assumption) ?_
      rotate_left
      · (intro W hW; (try dsimp only at hW); go_simp; first | done | with_reducible rfl)
      try simp only [Act.put, List.setIfInBounds_toArray, List.set_cons_zero, List.set_cons_succ]
      refine' take_on (i := 4) (v := _) rfl (by kernel_rfl) (by kernel_rfl) (by kernel_rfl) (fun _ _ _ h => h) (by rfl) (fun W hW => loadAx_row hW.1 HZ1.out) (by assumption) ?_
      try simp only [Act.put, List.setIfInBounds_toArray, List.set_cons_zero, List.set_cons_succ]
      refine' take_on (i := 5) (v := _) rfl (by kernel_rfl) (by kernel_rfl) (by kernel_rfl) (fun _ _ _ h => h) (by rfl) (fun W hW => loadAx_row hW.2.1 HZ2.out) (by assumption) ?_
      try simp only [Act.put, List.setIfInBounds_toArray, List.set_cons_zero, List.set_cons_succ]
      refine call_on (i := 6) rfl (by kernel_rfl) (by rfl) (fun K hK => ?_)
      go_simp
      refine HSA.out.mono ?_
      rintro e w6 ⟨rfl, hb6⟩
      refine hK.out _ _ (HX.out _ hb6) (fun hHeld => ?_)
      clear hK K
      try simp only [Act.put, List.setIfInBounds_toArray, List.set_cons_zero, List.set_cons_succ]
      refine' take_on (i := 7) (v := _) rfl (by kernel_rfl) (by kernel_rfl) (by kernel_rfl) (fun _ _ _ h => h) (by rfl) ?_ (by assumption) ?_
      rotate_left
      · (intro W hW; (try dsimp only at hW); go_simp; first | done | with_reducible rfl)
      try simp only [Act.put, List.setIfInBounds_toArray, List.set_cons_zero, List.set_cons_succ]
      refine' take_on (i := 8) (v := _) rfl (by kernel_rfl) (by kernel_rfl) (by kernel_rfl) (fun _ _ _ h => h) (by rfl) ?_ (by assumption) ?_
      rotate_left
      · (intro W hW; (try dsimp only at hW); go_simp; first | done | with_reducible rfl)
      try simp only [Act.put, List.setIfInBounds_toArray, List.set_cons_zero, List.set_cons_succ]
      refine' take_on (i := 9) (v := _) rfl (by kernel_rfl) (by kernel_rfl) (by kernel_rfl) (fun _ _ _ h => h) (by rfl) ?_ (by assumption) ?_
      rotate_left
      · (intro W hW; (try dsimp only at hW); go_simp; first | done | with_reducible rfl)
      try simp only [Act.put, List.setIfInBounds_toArray, List.set_cons_zero, List.set_cons_succ]
      refine' take_on (i := 10) (v := _) rfl (by kernel_rfl) (by kernel_rfl) (by kernel_rfl) (fun _ _ _ h => h) (by rfl) ?_ (by assumption) ?_
      rotate_left
      · (intro W hW; (try dsimp only at hW); go_simp; first | done | with_reducible rfl)
      try simp only [Act.put, List.setIfInBounds_toArray, List.set_cons_zero, List.set_cons_succ]
      refine' take_on (i := 11) (v := _) rfl (by kernel_rfl) (by kernel_rfl) (by kernel_rfl) (fun _ _ _ h => h) (by rfl) ?_ (by assumption) ?_
      rotate_left
      · (intro W hW; (try dsimp only at hW); go_simp; first | done | with_reducible rfl)
      try simp only [Act.put, List.setIfInBounds_toArray, List.set_cons_zero, List.set_cons_succ]
      refine' take_on (i := 12) (v := _) rfl (by kernel_rfl) (by kernel_rfl) (by kernel_rfl) (fun _ _ _ h => h) (by rfl) ?_ (by assumption) ?_
      rotate_left
      · (intro W hW; (try dsimp only at hW); go_simp; first | done | with_reducible rfl)
      try simp only [Act.put, List.setIfInBounds_toArray, List.set_cons_zero, List.set_cons_succ]
      refine' take_on (i := 14) (v := _) rfl (by kernel_rfl) (by kernel_rfl) (by kernel_rfl) (fun _ _ _ h => h) (by rfl) ?_ (by assumption) ?_
      rotate_left
      · (intro W hW; (try dsimp only at hW); go_simp; first | done | with_reducible rfl)
      try simp only [Act.put, List.setIfInBounds_toArray, List.set_cons_zero, List.set_cons_succ]
      refine' take_on (i := 15) (v := _) rfl (by kernel_rfl) (by kernel_rfl) (by kernel_rfl) (fun _ _ _ h => h) (by rfl) ?_ (by assumption) ?_
      rotate_left
      · (intro W hW; (try dsimp only at hW); go_simp; first | done | with_reducible rfl)
      try simp only [Act.put, List.setIfInBounds_toArray, List.set_cons_zero, List.set_cons_succ]
      refine' take_on (i := 16) (v := _) rfl (by kernel_rfl) (by kernel_rfl) (by kernel_rfl) (fun _ _ _ h => h) (by rfl) ?_ (by assumption) ?_
      rotate_left
      · (intro W hW; (try dsimp only at hW); go_simp; first | done | with_reducible rfl)
      try simp only [Act.put, List.setIfInBounds_toArray, List.set_cons_zero, List.set_cons_succ]
      refine' take_on (i := 17) (v := _) rfl (by kernel_rfl) (by kernel_rfl) (by kernel_rfl) (fun _ _ _ h => h) (by rfl) ?_ (by assumption) ?_
      rotate_left
      · (intro W hW; (try dsimp only at hW); have hW3 := hW.2.2; go_simp; first | done | with_reducible rfl)
      try simp only [Act.put, List.setIfInBounds_toArray, List.set_cons_zero, List.set_cons_succ]
      have hwp : IntKind.i64.wrap ((L2 : Int) - (p : Int)) = (L2 : Int) - (p : Int) := by have := (HRX.out _ hbd).le; rw [HL2.out] at this; rw [IntKind.wrap_i64]; omega
      refine' take_on (i := 18) (v := _) rfl (by kernel_rfl) (by kernel_rfl) (by kernel_rfl) (fun _ _ _ h => h) (by rfl) ?_ (by assumption) ?_
      rotate_left
      · (intro W hW; (try dsimp only at hW); go_simp; first | done | with_reducible rfl)
      try simp only [Act.put, List.setIfInBounds_toArray, List.set_cons_zero, List.set_cons_succ]
      clear hwp
      refine call_on (i := 13) rfl (by kernel_rfl) (by rfl) (fun K hK => ?_)
      go_simp
      have C := left_any g l2 p true w6 (HRX.out _ hb6) (by have := HL6.out; omega)
      rw [HL2.out] at C
      refine C.mono ?_
      clear C
      rintro e w7 ⟨rfl, n7, hw7⟩
      have hb7 : Below w5.heap.size w5 w7 := by rw [hw7]; exact below_drewN hb6 n7
      clear hw7
      refine hK.out _ _ (HX.out _ hb7) (fun hHeld => ?_)
      clear hK K
      try simp only [Act.put, List.setIfInBounds_toArray, List.set_cons_zero, List.set_cons_succ]
      refine' take_on (i := 19) (v := _) rfl (by kernel_rfl) (by kernel_rfl) (by kernel_rfl) (fun _ _ _ h => h) (by rfl) ?_ (by assumption) ?_
      rotate_left
      · (intro W hW; (try dsimp only at hW); go_simp; first | done | with_reducible rfl)
      try simp only [Act.put, List.setIfInBounds_toArray, List.set_cons_zero, List.set_cons_succ]
      refine' take_on (i := 20) (v := _) rfl (by kernel_rfl) (by kernel_rfl) (by kernel_rfl) (fun _ _ _ h => h) (by rfl) ?_ (by assumption) ?_
      rotate_left
      · (intro W hW; (try dsimp only at hW); go_simp; first | done | with_reducible rfl)
      try simp only [Act.put, List.setIfInBounds_toArray, List.set_cons_zero, List.set_cons_succ]
      refine' take_on (i := 21) (v := _) rfl (by kernel_rfl) (by kernel_rfl) (by kernel_rfl) (fun _ _ _ h => h) (by rfl) ?_ (by assumption) ?_
      rotate_left
      · (intro W hW; (try dsimp only at hW); go_simp; first | done | with_reducible rfl)
      try simp only [Act.put, List.setIfInBounds_toArray, List.set_cons_zero, List.set_cons_succ]
      refine wpAnyH_done (by kernel_rfl) ?_ _
      have HBF := hid hb7
      clear hHeld
      go_wp2_with fail
      go_meet
      case rel => exact ⟨rfl, HBF.out⟩
  case rest =>
    obtain ⟨rfl, hbc⟩ := hcut
    have hbw := accu_thru HH5.out hbc
    have hB := accu_thru hb0 hbw
    have la := HLD.out wc hbw
    clear hbd hL2
    go_wp2_with fail
    refine (HPT.out (by have := HI0.out; omega) _ wc hB (HV1.out wc hB) (by rw [HL1.out]; have := HI1.out; omega)).mono ?_
    rintro e w8 ⟨x8, rfl, hx8, hb8'⟩
    have hb8 := accu_thru hbw hb8'
    have hB8 := accu_thru hB hb8'
    obtain ⟨A8, k8, rfl⟩ := hx8.shape
    clear la
    have la := HLD.out w8 hb8
    go_wp2_with fail
    refine (HMA.out w8 hB8).mono ?_
    rintro e w9 ⟨rfl, hb9'⟩
    have hb9 := accu_thru hb8 hb9'
    have hB9 := accu_thru hB8 hb9'
    have hx9 := hx8.below hb9'
    clear la hx8 hb9' hb8 hb8' hB8 hB hbw hbc
    cases m with
    | false =>
      obtain rfl := HPN.out rfl
      go_wp2_with fail
      refine (same_yes _ _ P w9 hx9 (HV1.out _ hB9)).mono ?_
      rintro e w10 ⟨rfl, k10, rfl⟩
      have hB10 := below_drewN hB9 k10
      go_wp2_with fail
      refine (HA.out _ hB10).mono ?_
      rintro e w11 ⟨rfl, hb11⟩
      go_wp2_with fail
      go_ret
      exact ⟨rfl, accu_thru hB10 hb11⟩
    | true =>
      have HBY2 := hid (HBY.out rfl)
      have HOL2 := hid (HOL.out rfl)
      have HRD2 := hid (HRD.out rfl)
      have HPM2 := hid (HPM.out rfl)
      have la := HLD.out w9 hb9
      go_wp2_with fail
      refine (HBY2.out w9 hB9).mono ?_
      rintro e w10 ⟨x10, rfl, ho10, hb10'⟩
      have hB10 := accu_thru hB9 hb10'
      have hb10 := accu_thru hb9 hb10'
      have hx10 := ho10.byt
      have hp10 := hx9.below hb10'
      obtain ⟨A10, k10, rfl⟩ := hx10.shape
      obtain ⟨n, HN⟩ : ∃ n : Nat, Hid (O.length = n) := ⟨_, hid rfl⟩
      have HN1 : Hid (n ≤ 1000) := hid (by rw [← HN.out]; exact HOL2.out)
      rw [HN.out] at hx10 ⊢
      have HO10 := hid (fun W (h : Below w10.heap.size w10 W) => hx10.below h)
      have HP10 := hid (fun W (h : Below w10.heap.size w10 W) => hp10.below h)
      have hl6 : ([] : List UInt8).length + O.length ≤ 140737488355328 := by rw [HN.out]; have := HN1.out; simp only [List.length_nil]; omega
      have hl7 : O.length + l2.length ≤ 140737488355328 := by rw [HN.out, HL2.out]; have := HN1.out; have := HI2.out; omega
      clear la hx9 hb10' hb9 hB9 ho10 hx10 hp10
      go_wp2_with (first
        | (at_builtin; refine wpList_append_byt rfl (.tmp 83) (.tmp 84) rfl rfl rfl (fresh0_own w10) (HO10.out _ ((Below.refl _ _).alloc (Nat.le_refl _) _)) hl6 (al_le w10 _) ?_; intro v11 w11 ho11 hg11 hv11; simp only [List.nil_append] at ho11; have hb11 := fresh0_below hg11; clear hg11 hv11)
        | (at_builtin; refine wpList_append_byt rfl (.tmp 85) (.tmp 86) rfl rfl rfl ho11 (HV2.out _ (accu_thru hB10 hb11)) hl7 hb11.size ?_; intro v12 w12 ho12 hg12 hv12; have hb12 := hb11.grown hg12 hb11.size (fun q hq => (World.ownsRow.lt ho11 q hq).1); clear hg12 hv12))
      refine (read_any v12 (O ++ l2) w12 ho12.byt (by rw [List.length_append, HN.out, HL2.out]; have := HN1.out; have := HI2.out; omega)).mono ?_
      rintro e w13 ⟨g3, rfl, hgl, hrd, hb13'⟩
      have hb13 := accu_thru hb12 hb13'
      clear ho11 hb11 ho12 hb13'
      go_wp2_with fail
      refine (HRD2.out g3 w13 hrd (by rw [List.length_append, HN.out, HL2.out]; have := HN1.out; have := HI2.out; omega)).mono ?_
      rintro e w14 ⟨x14, rfl, hcz, hgr⟩
      have hb14 : Below w10.heap.size w10 w14 := hb13.grown hgr hb13.size (fun k hk => by injection hk with hk; have := hb12.size; omega)
      obtain ⟨s3, rfl, hk3, hel3⟩ := hcz
      have HT3 := hid (axc_one (a := c) hel3)
      have HW3 : Hid (AcV w14 (.agg (axc c s3)) c) := hid ⟨_, rfl, hk3, hel3⟩
      have HZ3 := hid (axc_size s3 hk3)
      obtain ⟨D, HD1⟩ : ∃ C : Array Value, Hid (axc c s3 = C) := ⟨_, hid rfl⟩
      rw [HD1.out] at HT3 HW3 HZ3 ⊢
      have hal := HAL.out
      have hs14 := ax_var w14 HSZ.out HZ3.out HT3.out
      have hrn := heap_alloc_new w14 (.cells D 30)
      have hbn : Below w14.heap.size w14 (w14.alloc (.cells D 30)) := (Below.refl _ _).alloc (Nat.le_refl _) _
      have hb15 := accu_thru hb14 hbn
      have HW4 := hid (HW3.out.below hbn)
      clear hrd hgr hbn hb12 hb13 hb14 hl6 hl7 hgl hk3 hel3
      go_upto_region 13 with (fail)
      generalize w14.alloc (.cells D 30) = w15 at *
      clear hs14 hal
      have hln := lt_of_block hrn
      have hB15 := accu_thru hB10 hb15
      have HLN : Hid (∀ W, Below w15.heap.size w15 W → loadAx (.pointer (some ⟨w14.heap.size, 0, none⟩)) W = .ok (.value (.agg D)) W ∧ loadAx (.pointer (some ⟨w.heap.size, 0, none⟩)) W = .ok (.value (.agg S)) W) := hid (fun W h => ⟨loadAx_row ((h.block _ hln).trans hrn) HZ3.out, HLD.out W (accu_thru (accu_thru hb10 hb15) h)⟩)
      have hl11 : ([] : List UInt8).length + l1.length ≤ 140737488355328 := by rw [HL1.out]; have := HI1.out; simp only [List.length_nil]; omega
      have hl12 : l1.length + O.length ≤ 140737488355328 := by rw [HN.out, HL1.out]; have := HN1.out; have := HI1.out; omega
      have HB15 := hid hb15
      clear hrn hln hb15
      go_wp2_with (first
        | (at_builtin; refine wpList_append_byt rfl (.tmp 93) (.tmp 94) rfl rfl rfl (fresh0_own w15) (HV1.out _ (hB15.alloc hB15.size _)) hl11 (al_le w15 _) ?_; intro v16 w16 ho16 hg16 hv16; simp only [List.nil_append] at ho16; have hb16 := fresh0_below hg16; clear hg16 hv16)
        | (at_builtin; refine wpList_append_byt rfl (.tmp 95) (.tmp 96) rfl rfl rfl ho16 (HO10.out _ (accu_thru HB15.out hb16)) hl12 hb16.size ?_; intro v17 w17 ho17 hg17 hv17; have hb17 := hb16.grown hg17 hb16.size (fun q hq => (World.ownsRow.lt ho16 q hq).1); clear hg17 hv17))
      have hp17 := HP10.out w17 (accu_thru HB15.out hb17)
      have hx17 := ho17.byt
      rw [← HPM2.out] at hx17
      refine (same_yes _ _ P w17 hp17 hx17).mono ?_
      rintro e w18 ⟨rfl, k18, hw18⟩
      have hb18 : Below w15.heap.size w15 w18 := by rw [hw18]; exact below_drewN hb17 k18
      obtain ⟨l18, m18⟩ := HLN.out w18 hb18
      have hB18 := accu_thru hB15 hb18
      have HSC : Hid (Calls Tryd.prog 9 #[.agg D, .agg S] w18 fun e w' => e = .returned (.bool true) ∧ Below w18.heap.size w18 w') := hid (by
        have := refSame10_any _ _ c c w18 (HW4.out.below hb18) (HVC.out w18 hB18)
        rw [decide_eq_true (rfl : c = c)] at this
        exact this)
      clear hw18 hp17 hx17 ho16 ho17 hb16 hb17 hl11 hl12
      go_wp2_with fail
      refine HSC.out.mono ?_
      rintro e w19 ⟨rfl, hb19⟩
      have hB19 := accu_thru hB18 hb19
      clear l18 m18
      go_wp2_with fail
      refine (HA.out _ hB19).mono ?_
      rintro e w20 ⟨rfl, hb20⟩
      go_wp2_with fail
      go_ret
      exact ⟨rfl, accu_thru hB19 hb20⟩
end Go.Proofs.YthgdgkdnidjdgaaDoor
