/-
  accu.counts: whether an attestation can be accumulated.
-/
import Derived.Test.YthgdgkdnidjdgaaDoorAcOk
import Derived.Test.YthgdgkdnidjdgaaDoorBs7
namespace Go.Proofs.YthgdgkdnidjdgaaDoor
set_option maxRecDepth 20000
open Go.RowKit
attribute [local go_sem ↓] exec_load_att

set_option maxHeartbeats 1600000 in
theorem acCounts_any (n vi : Int) (a : AtM) (w : World) (ho : a.Ok) (hK : Kst 0 w) :
    Calls Tryd.prog 24 #[.int .i64 n, .int .i64 vi, .agg (atc a)] w fun e w' => e = .returned (.bool (goodX n vi a)) ∧ Below w.heap.size w w' := by
  have hb0 : Below w.heap.size w (w.alloc (.cells (atc a) 36)) := (Below.refl _ _).alloc (Nat.le_refl _) _
  have hA := BoxA.new w a
  obtain ⟨ans, HAN⟩ : ∃ q : Bool, Hid (goodX n vi a = q) := ⟨_, hid rfl⟩
  obtain ⟨m, HM⟩ : ∃ q : Bool, Hid (rightA a = q) := ⟨_, hid rfl⟩
  have HGO : Hid (ans = (m && (decide (a.ki = 1) && (decide (a.vi = vi) && decide (a.bo ≤ n))))) := hid (by rw [← HAN.out, ← HM.out]; rfl)
  have HR : Hid (Calls Tryd.prog 49 #[.agg (atc a)] (w.alloc (.cells (atc a) 36)) fun e w' => e = .returned (.bool m) ∧ Below (w.alloc (.cells (atc a) 36)).heap.size (w.alloc (.cells (atc a) 36)) w') := hid (by
    have := atRight_ok a (w.alloc (.cells (atc a) 36)) ho (hK.below hb0)
    rw [HM.out] at this
    exact this)
  rw [HAN.out]
  have HO := hid ho
  clear ho hK
  obtain ⟨C, HC⟩ : ∃ C : Array Value, Hid (atc a = C) := ⟨_, hid rfl⟩
  have hl0 := loadAtt_eq hA HO.out
  rw [HC.out] at hb0 hA HR hl0 ⊢
  go_enter Tryd.func24, Tryd.ntmps24
  go_upto_region 1 with (fail)
  generalize (w.alloc (.cells C 36)) = w0 at *
  obtain ⟨k0, k1, k2, _⟩ := hA.cells
  clear hA
  obtain ⟨bo, HBO⟩ : ∃ x : Int, Hid (a.bo = x) := ⟨_, hid rfl⟩
  obtain ⟨ki, HKI⟩ : ∃ x : Int, Hid (a.ki = x) := ⟨_, hid rfl⟩
  obtain ⟨va, HVA⟩ : ∃ x : Int, Hid (a.vi = x) := ⟨_, hid rfl⟩
  rw [HBO.out, HKI.out, HVA.out] at HGO
  rw [HBO.out] at k0
  rw [HKI.out] at k1
  rw [HVA.out] at k2
  have HL0 := hid hl0
  clear hl0
  by_cases h1 : bo ≤ n
  case neg =>
    obtain rfl : ans = false := by rw [HGO.out, decide_eq_false h1]; simp
    go_wp2_with fail
    go_ret
    exact ⟨rfl, hb0⟩
  by_cases h2 : ki = 1
  case neg =>
    have t2 : (ki == 1) = false := by simpa using h2
    obtain rfl : ans = false := by rw [HGO.out, decide_eq_false h2]; simp
    clear h2
    go_wp2_with fail
    go_ret
    exact ⟨rfl, hb0⟩
  by_cases h3 : va = vi
  case neg =>
    have t2 : (ki == 1) = true := by simpa using h2
    have t3 : (va == vi) = false := by simpa using h3
    obtain rfl : ans = false := by rw [HGO.out, decide_eq_false h3]; simp
    clear h2 h3
    go_wp2_with fail
    go_ret
    exact ⟨rfl, hb0⟩
  have t2 : (ki == 1) = true := by simpa using h2
  have t3 : (va == vi) = true := by simpa using h3
  obtain rfl : ans = m := by rw [HGO.out, decide_eq_true h1, decide_eq_true h2, decide_eq_true h3]; simp
  clear h2 h3
  have hl0 := HL0.out
  go_wp2_with fail
  refine HR.out.mono ?_
  rintro e w1 ⟨rfl, hb1⟩
  clear hl0 k0 k1 k2
  go_wp2_with fail
  go_ret
  exact ⟨rfl, hb0.trans (hb1.mono hb0.size)⟩
end Go.Proofs.YthgdgkdnidjdgaaDoor
