/-
  blob.highest, blob.isLater, blob.Check, blob.Less: which seals may be, and which is ahead. Printed with gensecode.py.
-/
import Derived.Test.YtifkkpfiejiojaaDoorSeMay
namespace Go.Proofs.YtifkkpfiejiojaaDoor
set_option maxRecDepth 20000
open Go.RowKit
attribute [local go_sem ↓] exec_load_se exec_build_se exec_eq_se
def highS (s : SeM) : Int := if s.ph = 3 then s.vi else s.vi - 1
def laterS (s : SeM) : Bool := if s.vi < 1 ∨ 1099511627776 < s.vi ∨ s.ph < 1 ∨ 3 < s.ph then false else decide (0 ≤ s.pv) && decide (s.pv ≤ highS s)
theorem mayS_later (s : SeM) : mayS s = (decide (s = seZ) || laterS s) := by
  by_cases h0 : s = seZ
  · subst h0
    decide
  · unfold mayS laterS highS
    simp only [h0, decide_false, Bool.false_or]
    obtain ⟨vi, ph, pv, pa⟩ := s
    simp only
    by_cases h : vi = 0
    · subst h
      rw [if_pos rfl, if_pos (by omega)]
    · rw [if_neg h]
      by_cases h1 : vi < 1 ∨ 1099511627776 < vi ∨ ph < 1 ∨ 3 < ph
      · rw [if_pos h1, if_pos (by omega)]
      · rw [if_neg h1]
        by_cases h2 : pv < 0
        · rw [if_pos (by omega), decide_eq_false (show ¬ 0 ≤ pv by omega)]
          rfl
        · rw [if_neg (by omega), decide_eq_true (show 0 ≤ pv by omega), Bool.true_and, Bool.eq_iff_iff]
          by_cases h3 : ph = 3
          · rw [if_pos h3]
            simp only [Bool.or_eq_true, Bool.and_eq_true, decide_eq_true_eq]
            omega
          · rw [if_neg h3]
            simp only [Bool.or_eq_true, Bool.and_eq_true, decide_eq_true_eq]
            omega
set_option maxHeartbeats 1600000 in
theorem seHigh_any (s : SeM) (w : World) (h1 : 1 ≤ s.vi) (h2 : s.vi ≤ 1099511627776) :
    Calls Tryd.prog 37 #[.agg (sec s)] w fun e w' => e = .returned (.int .i64 (highS s)) ∧ Below w.heap.size w w' := by
  have hb0 : Below w.heap.size w (w.alloc (.cells (sec s) 25)) := (Below.refl _ _).alloc (Nat.le_refl _) _
  have hA := BoxSe.new w s
  obtain ⟨C, HC⟩ : ∃ C : Array Value, Hid (sec s = C) := ⟨_, hid rfl⟩
  obtain ⟨q, HQ⟩ : ∃ q : Int, Hid (highS s = q) := ⟨_, hid rfl⟩
  rw [HC.out] at hb0 hA ⊢
  rw [HQ.out]
  go_enter Tryd.func37, Tryd.ntmps37
  go_upto_region 1 with (fail)
  generalize (w.alloc (.cells C 25)) = w0 at *
  obtain ⟨k0, k1, k2⟩ := hA.cells
  clear hA HC
  obtain ⟨vi, ph, pv, pa⟩ := s
  simp only at k0 k1 k2 h1 h2
  have hw : IntKind.i64.wrap (vi - 1) = vi - 1 := by rw [IntKind.wrap_i64]; omega
  have HH := hid (show 1 ≤ vi ∧ vi ≤ 1099511627776 from ⟨h1, h2⟩)
  clear h1 h2
  by_cases h3 : ph = 3
  all_goals
    go_wp2_with fail
    go_ret
    refine ⟨?_, hb0⟩
    refine congrArg (fun b => Ending.returned (Value.int IntKind.i64 b)) ?_
    rw [← HQ.out]
    unfold highS
    simp [h3]
set_option maxHeartbeats 3200000 in
theorem seLater_any (s : SeM) (w : World) (ho : s.Ok) :
    Calls Tryd.prog 20 #[.agg (sec s)] w fun e w' => e = .returned (.bool (laterS s)) ∧ Below w.heap.size w w' := by
  have hb0 : Below w.heap.size w (w.alloc (.cells (sec s) 25)) := (Below.refl _ _).alloc (Nat.le_refl _) _
  have hA := BoxSe.new w s
  have HHI : Hid (1 ≤ s.vi → s.vi ≤ 1099511627776 → ∀ W, Calls Tryd.prog 37 #[.agg (sec s)] W fun e w' => e = .returned (.int .i64 (highS s)) ∧ Below W.heap.size W w') := hid (fun h1 h2 W => seHigh_any s W h1 h2)
  obtain ⟨C, HC⟩ : ∃ C : Array Value, Hid (sec s = C) := ⟨_, hid rfl⟩
  obtain ⟨q, HQ⟩ : ∃ q : Bool, Hid (laterS s = q) := ⟨_, hid rfl⟩
  obtain ⟨hi, HHA⟩ : ∃ q : Int, Hid (highS s = q) := ⟨_, hid rfl⟩
  have HLD0 : Hid (∀ W, BoxSe W w.heap.size s → loadSe (.pointer (some ⟨w.heap.size, 0, none⟩)) W = .ok (.value (.agg C)) W) := hid (fun W h => by
    have := loadSe_eq h ho
    rw [HC.out] at this
    exact this)
  rw [HC.out] at hb0 hA HHI ⊢
  rw [HHA.out] at HHI
  rw [HQ.out]
  have HM : Hid (q = if s.vi < 1 ∨ 1099511627776 < s.vi ∨ s.ph < 1 ∨ 3 < s.ph then false else decide (0 ≤ s.pv) && decide (s.pv ≤ hi)) := hid (by rw [← HQ.out, ← HHA.out]; rfl)
  go_enter Tryd.func20, Tryd.ntmps20
  go_upto_region 1 with (fail)
  generalize (w.alloc (.cells C 25)) = w0 at *
  have HX : Hid (∀ W : World, Below w0.heap.size w0 W → W.cell? ⟨w.heap.size, 2, none⟩ = some (.int .i64 s.pv) ∧ loadSe (.pointer (some ⟨w.heap.size, 0, none⟩)) W = .ok (.value (.agg C)) W) := hid (fun W h => ⟨(hA.keep h).cells.2.2, HLD0.out W (hA.keep h)⟩)
  obtain ⟨k0, k1, k2⟩ := hA.cells
  clear hA HC ho HQ HHA HLD0
  obtain ⟨vi, ph, pv, pa⟩ := s
  simp only at k0 k1 k2 HX HHI HM
  have hd1 : ∀ a : Int, (1099511627776 < a) = (1099511627776 < a) := fun _ => rfl
  clear hd1
  by_cases h1 : vi < 1
  · go_wp2_with fail
    go_ret
    exact ⟨by rw [HM.out, if_pos (.inl h1)]; rfl, hb0⟩
  by_cases h2 : 1099511627776 < vi
  · go_wp2_with fail
    go_ret
    exact ⟨by rw [HM.out, if_pos (.inr (.inl h2))]; rfl, hb0⟩
  by_cases h3 : ph < 1
  · go_wp2_with fail
    go_ret
    exact ⟨by rw [HM.out, if_pos (.inr (.inr (.inl h3)))]; rfl, hb0⟩
  by_cases h4 : 3 < ph
  · go_wp2_with fail
    go_ret
    exact ⟨by rw [HM.out, if_pos (.inr (.inr (.inr h4)))]; rfl, hb0⟩
  have HI := hid (HHI.out (by omega) (by omega))
  have HM3 : Hid (q = (decide (0 ≤ pv) && decide (pv ≤ hi))) := hid (by rw [HM.out, if_neg (by omega)])
  clear HHI HM
  go_upto_region 3 with (fail)
  clear k0 k1 k2 h1 h2 h3 h4
  have hbd : Below w0.heap.size w0 w0.drew := (Below.refl _ _).drew
  refine wp_region_held_drew (S := fun W => W.cell? ⟨w.heap.size, 2, none⟩ = some (.int .i64 pv) ∧ loadSe (.pointer (some ⟨w.heap.size, 0, none⟩)) W = .ok (.value (.agg C)) W) (by kernel_rfl) (HX.out _ hbd) (fun hHeld => ?_)
  obtain ⟨d0, HD0⟩ : ∃ d : Bool, Hid (decide (0 ≤ pv) = d) := ⟨_, hid rfl⟩
  obtain ⟨d1, HD1⟩ : ∃ d : Bool, Hid (decide (pv ≤ hi) = d) := ⟨_, hid rfl⟩
  refine' tk (i := 0) (v := _) rfl ?_ ?_
  rotate_left
  · (intro W hW; (try dsimp only at hW); go_simp; first | done | with_reducible rfl)
  try simp only [lay]
  refine' tk (i := 1) (v := _) rfl ?_ ?_
  rotate_left
  · (intro W hW; (try dsimp only at hW); have hW1 := hW.1; clear hW; go_simp; first | done | with_reducible rfl)
  try simp only [lay]
  refine' tk (i := 2) (v := _) rfl ?_ ?_
  rotate_left
  · (intro W hW; (try dsimp only at hW); go_simp; first | done | with_reducible rfl)
  try simp only [lay]
  rw [HD0.out]
  refine' tk (i := 3) (v := _) rfl ?_ ?_
  rotate_left
  · (intro W hW; (try dsimp only at hW); go_simp; first | done | with_reducible rfl)
  try simp only [lay]
  cases d0 with
  | false =>
    refine tf (i := 4) rfl ?_
    try simp only [lay]
    refine tf (i := 5) rfl ?_
    try simp only [lay]
    refine tf (i := 6) rfl ?_
    try simp only [lay]
    refine tf (i := 7) rfl ?_
    try simp only [lay]
    refine tf (i := 8) rfl ?_
    try simp only [lay]
    refine' tk (i := 9) (v := _) rfl ?_ ?_
    rotate_left
    · (intro W hW; (try dsimp only at hW); go_simp; first | done | with_reducible rfl)
    try simp only [lay]
    refine' tk (i := 10) (v := _) rfl ?_ ?_
    rotate_left
    · (intro W hW; (try dsimp only at hW); go_simp; first | done | with_reducible rfl)
    try simp only [lay]
    refine wpAnyH_done (by kernel_rfl) ?_ _
    go_wp2_with fail
    go_ret
    exact ⟨by rw [HM3.out, HD0.out]; rfl, hb0.trans (hbd.mono hb0.size)⟩
  | true =>
    refine' tk (i := 4) (v := _) rfl ?_ ?_
    rotate_left
    · (intro W hW; (try dsimp only at hW); go_simp; first | done | with_reducible rfl)
    try simp only [lay]
    refine' tk (i := 5) (v := _) rfl ?_ ?_
    rotate_left
    · (intro W hW; (try dsimp only at hW); have hW1 := hW.1; clear hW; go_simp; first | done | with_reducible rfl)
    try simp only [lay]
    refine' tk (i := 6) (v := _) rfl (fun W hW => hW.2) ?_
    try simp only [lay]
    refine call_on (i := 7) rfl (by kernel_rfl) (by rfl) (fun K hK => ?_)
    go_simp
    refine (HI.out _).mono ?_
    rintro e w2 ⟨rfl, hb2'⟩
    have hb2 := hbd.trans (hb2'.mono hbd.size)
    refine hK.out _ _ (HX.out _ hb2) (fun hHeld => ?_)
    clear hK K
    try simp only [lay]
    refine' tk (i := 8) (v := _) rfl ?_ ?_
    rotate_left
    · (intro W hW; (try dsimp only at hW); go_simp; first | done | with_reducible rfl)
    try simp only [lay]
    rw [HD1.out]
    refine' tk (i := 9) (v := _) rfl ?_ ?_
    rotate_left
    · (intro W hW; (try dsimp only at hW); go_simp; first | done | with_reducible rfl)
    try simp only [lay]
    refine' tk (i := 10) (v := _) rfl ?_ ?_
    rotate_left
    · (intro W hW; (try dsimp only at hW); go_simp; first | done | with_reducible rfl)
    try simp only [lay]
    refine wpAnyH_done (by kernel_rfl) ?_ _
    go_wp2_with fail
    go_ret
    exact ⟨by rw [HM3.out, HD0.out, HD1.out]; cases d1 <;> rfl, hb0.trans (hb2.mono hb0.size)⟩
set_option maxHeartbeats 3200000 in
theorem seCheck_ok : SeCheckOk := by
  intro s w ho
  have hb0 : Below w.heap.size w (w.alloc (.cells (sec s) 25)) := (Below.refl _ _).alloc (Nat.le_refl _) _
  have hA := BoxSe.new w s
  have l0 := loadSe_eq hA ho
  have HLA : Hid (∀ W, Calls Tryd.prog 20 #[.agg (sec s)] W fun e w' => e = .returned (.bool (laterS s)) ∧ Below W.heap.size W w') := hid (fun W => seLater_any s W ho)
  have heq : ∀ W, eqSe (.agg (sec s)) (.agg (sec seZ)) W = .ok (.value (.bool (decide (s = seZ)))) W := fun W => eqSe_eq s seZ ho seZ_ok W
  have hbz := buildSe_eq
  have hml := mayS_later s
  obtain ⟨C, HC⟩ : ∃ C : Array Value, Hid (sec s = C) := ⟨_, hid rfl⟩
  obtain ⟨Z, HZ⟩ : ∃ C : Array Value, Hid (sec seZ = C) := ⟨_, hid rfl⟩
  obtain ⟨d, HD⟩ : ∃ q : Bool, Hid (decide (s = seZ) = q) := ⟨_, hid rfl⟩
  obtain ⟨la, HL⟩ : ∃ q : Bool, Hid (laterS s = q) := ⟨_, hid rfl⟩
  obtain ⟨q, HQ⟩ : ∃ q : Int, Hid ((if mayS s = true then (0 : Int) else 1) = q) := ⟨_, hid rfl⟩
  rw [HD.out, HL.out] at hml
  have HML := hid hml
  rw [HC.out] at hb0 hA l0 heq HLA ⊢
  rw [HZ.out] at hbz heq
  rw [HD.out] at heq
  rw [HL.out] at HLA
  rw [HQ.out]
  go_enter Tryd.func7, Tryd.ntmps7
  go_upto_region 1 with (fail)
  generalize (w.alloc (.cells C 25)) = w0 at *
  clear hA HC HZ HD HL ho hml
  cases d with
  | true =>
    go_wp2_with fail
    go_ret
    exact ⟨by rw [← HQ.out, HML.out]; rfl, hb0⟩
  | false =>
    go_wp2_with fail
    refine (HLA.out w0).mono ?_
    rintro e w1 ⟨rfl, hb1⟩
    clear l0 heq hbz
    cases la with
    | true =>
      go_wp2_with fail
      go_ret
      exact ⟨by rw [← HQ.out, HML.out]; rfl, hb0.trans (hb1.mono hb0.size)⟩
    | false =>
      go_wp2_with fail
      go_ret
      exact ⟨by rw [← HQ.out, HML.out]; rfl, hb0.trans (hb1.mono hb0.size)⟩
set_option maxHeartbeats 3200000 in
theorem seLess_ok : SeLessOk := by
  intro a b w _ _
  have hb0 : Below w.heap.size w ((w.alloc (.cells (sec a) 25)).alloc (.cells (sec b) 25)) := ((Below.refl _ _).alloc (Nat.le_refl _) _).alloc (by simp) _
  have hA : BoxSe ((w.alloc (.cells (sec a) 25)).alloc (.cells (sec b) 25)) w.heap.size a := heap1 w _ _
  have hB : BoxSe ((w.alloc (.cells (sec a) 25)).alloc (.cells (sec b) 25)) (w.heap.size + 1) b := heap2 w _ _
  obtain ⟨C, HC⟩ : ∃ C : Array Value, Hid (sec a = C) := ⟨_, hid rfl⟩
  obtain ⟨D, HD⟩ : ∃ C : Array Value, Hid (sec b = C) := ⟨_, hid rfl⟩
  obtain ⟨q, HQ⟩ : ∃ q : Bool, Hid (lessS a b = q) := ⟨_, hid rfl⟩
  rw [HC.out, HD.out] at hb0 hA hB ⊢
  rw [HQ.out]
  go_enter Tryd.func8, Tryd.ntmps8
  go_upto_region 1 with (fail)
  generalize ((w.alloc (.cells C 25)).alloc (.cells D 25)) = w0 at *
  obtain ⟨k0, k1, k2⟩ := hA.cells
  obtain ⟨j0, j1, j2⟩ := hB.cells
  clear hA hB HC HD
  obtain ⟨vi, ph, pv, pa⟩ := a
  obtain ⟨vi2, ph2, pv2, pa2⟩ := b
  simp only at k0 k1 k2 j0 j1 j2
  go_wp2_with fail
  all_goals
    go_ret
    refine ⟨?_, hb0⟩
    refine congrArg (fun b => Ending.returned (Value.bool b)) ?_
    rw [← HQ.out]
    unfold lessS
    simp only
  all_goals grind
end Go.Proofs.YtifkkpfiejiojaaDoor
