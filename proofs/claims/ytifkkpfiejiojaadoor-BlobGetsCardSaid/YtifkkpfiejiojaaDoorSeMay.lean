/-
  The document's answer for which seals there may be, and which is ahead: tithingref13.May, tithingref13.Less.
-/
import Derived.Test.YtifkkpfiejiojaaDoorBs10
namespace Go.Proofs.YtifkkpfiejiojaaDoor
set_option maxRecDepth 20000
open Go.RowKit
attribute [local go_sem ↓] exec_load_se exec_build_se exec_eq_se
set_option maxHeartbeats 3200000 in
theorem refMay13_any (s : SeM) (w : World) (ho : s.Ok) :
    Calls Tryd.prog 6 #[.agg (sec s)] w fun e w' => e = .returned (.bool (mayS s)) ∧ Below w.heap.size w w' := by
  have hb0 : Below w.heap.size w (w.alloc (.cells (sec s) 25)) := (Below.refl _ _).alloc (Nat.le_refl _) _
  have hA := BoxSe.new w s
  have heq : ∀ W, eqSe (.agg (sec s)) (.agg (sec seZ)) W = .ok (.value (.bool (decide (s = seZ)))) W := fun W => eqSe_eq s seZ ho seZ_ok W
  have hbz := buildSe_eq
  have hl0 := loadSe_eq hA ho
  obtain ⟨C, HC⟩ : ∃ C : Array Value, Hid (sec s = C) := ⟨_, hid rfl⟩
  obtain ⟨Z, HZ⟩ : ∃ C : Array Value, Hid (sec seZ = C) := ⟨_, hid rfl⟩
  obtain ⟨q, HQ⟩ : ∃ q : Bool, Hid (mayS s = q) := ⟨_, hid rfl⟩
  obtain ⟨d, HD⟩ : ∃ q : Bool, Hid (decide (s = seZ) = q) := ⟨_, hid rfl⟩
  rw [HC.out] at hb0 hA hl0 heq ⊢
  rw [HZ.out] at hbz heq
  rw [HD.out] at heq
  rw [HQ.out]
  go_enter Tryd.func6, Tryd.ntmps6
  go_upto_region 1 with (fail)
  generalize (w.alloc (.cells C 25)) = w0 at *
  obtain ⟨k0, k1, k2⟩ := hA.cells
  have HM : Hid (q = if s.vi = 0 then d else if s.vi < 0 ∨ 1099511627776 < s.vi ∨ s.ph < 1 ∨ 3 < s.ph ∨ s.pv < 0 then false else decide (s.pv < s.vi) || (decide (s.pv = s.vi) && decide (s.ph = 3))) := hid (by rw [← HQ.out, ← HD.out]; rfl)
  clear hA HC HZ HQ HD ho
  obtain ⟨vi, ph, pv, pa⟩ := s
  simp only at k0 k1 k2 HM
  go_wp2_with fail
  all_goals
    go_ret
    refine ⟨?_, hb0⟩
    refine congrArg (fun b => Ending.returned (Value.bool b)) ?_
    rw [HM.out]
  all_goals grind
set_option maxHeartbeats 3200000 in
theorem refLess13_any (a b : SeM) (w : World) :
    Calls Tryd.prog 9 #[.agg (sec a), .agg (sec b)] w fun e w' => e = .returned (.bool (lessS a b)) ∧ Below w.heap.size w w' := by
  have hb0 : Below w.heap.size w ((w.alloc (.cells (sec a) 25)).alloc (.cells (sec b) 25)) := ((Below.refl _ _).alloc (Nat.le_refl _) _).alloc (by simp) _
  have hA : BoxSe ((w.alloc (.cells (sec a) 25)).alloc (.cells (sec b) 25)) w.heap.size a := heap1 w _ _
  have hB : BoxSe ((w.alloc (.cells (sec a) 25)).alloc (.cells (sec b) 25)) (w.heap.size + 1) b := heap2 w _ _
  obtain ⟨C, HC⟩ : ∃ C : Array Value, Hid (sec a = C) := ⟨_, hid rfl⟩
  obtain ⟨D, HD⟩ : ∃ C : Array Value, Hid (sec b = C) := ⟨_, hid rfl⟩
  obtain ⟨q, HQ⟩ : ∃ q : Bool, Hid (lessS a b = q) := ⟨_, hid rfl⟩
  rw [HC.out, HD.out] at hb0 hA hB ⊢
  rw [HQ.out]
  go_enter Tryd.func9, Tryd.ntmps9
  go_upto_region 1 with (fail)
  generalize ((w.alloc (.cells C 25)).alloc (.cells D 25)) = w0 at *
  obtain ⟨k0, k1, k2⟩ := hA.cells
  obtain ⟨j0, j1, j2⟩ := hB.cells
  clear hA hB HC HD
  obtain ⟨vi, ph, pv, pa⟩ := a
  obtain ⟨vi2, ph2, pv2, pa2⟩ := b
  simp only at k0 k1 k2 j0 j1 j2
  go_wp2_with fail
  all_goals
    go_ret
    refine ⟨?_, hb0⟩
    refine congrArg (fun b => Ending.returned (Value.bool b)) ?_
    rw [← HQ.out]
    unfold lessS
    simp only
  all_goals grind
end Go.Proofs.YtifkkpfiejiojaaDoor
