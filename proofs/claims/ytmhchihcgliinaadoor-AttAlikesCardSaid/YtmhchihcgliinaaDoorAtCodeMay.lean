/-
  att.Check: which attestations may be.
-/
import Derived.Test.YtmhchihcgliinaaDoorAtOk
import Derived.Test.YtmhchihcgliinaaDoorBs7
import Derived.Deep.RegionHeld3
import Derived.Deep.QuietTactic
import Derived.BigQuiet
namespace Go.Proofs.YtmhchihcgliinaaDoor
set_option maxRecDepth 20000
open Go.RowKit
attribute [local go_sem ↓] exec_load_att

/-- Of which view the last prepared block can be at most. -/
def highA (a : AtM) : Int := if a.ki = 3 then a.vi else a.vi - 1

set_option maxHeartbeats 1600000 in
theorem atHigh_any (a : AtM) (w : World) (h1 : 1 ≤ a.vi) (h2 : a.vi ≤ 1099511627776) :
    Calls Tryd.prog 33 #[.agg (atc a)] w fun e w' => e = .returned (.int .i64 (highA a)) ∧ Below w.heap.size w w' := by
  have hb0 : Below w.heap.size w (w.alloc (.cells (atc a) 25)) := (Below.refl _ _).alloc (Nat.le_refl _) _
  have hA := BoxA.new w a
  obtain ⟨C, HC⟩ : ∃ C : Array Value, Hid (atc a = C) := ⟨_, hid rfl⟩
  obtain ⟨q, HQ⟩ : ∃ q : Int, Hid (highA a = q) := ⟨_, hid rfl⟩
  rw [HC.out] at hb0 hA ⊢
  rw [HQ.out]
  go_enter Tryd.func33, Tryd.ntmps33
  go_upto_region 1 with (fail)
  generalize (w.alloc (.cells C 25)) = w0 at *
  obtain ⟨k0, k1, k2, k3⟩ := hA.cells
  clear hA HC
  obtain ⟨bo, ki, vi, ph, ha, pv, pa, tg⟩ := a
  simp only at k0 k1 k2 k3 h1 h2
  have hw : IntKind.i64.wrap (vi - 1) = vi - 1 := by rw [IntKind.wrap_i64]; omega
  have HH := hid (show 1 ≤ vi ∧ vi ≤ 1099511627776 from ⟨h1, h2⟩)
  clear h1 h2
  by_cases h3 : ki = 3
  all_goals
    go_wp2_with fail
    go_ret
    refine ⟨?_, hb0⟩
    refine congrArg (fun b => Ending.returned (Value.int IntKind.i64 b)) ?_
    rw [← HQ.out]
    unfold highA
    simp [h3]

set_option maxHeartbeats 3200000 in
theorem atCheck_ok : AtCheckOk := by
  intro a w ho
  have hb0 : Below w.heap.size w (w.alloc (.cells (atc a) 25)) := (Below.refl _ _).alloc (Nat.le_refl _) _
  have hA := BoxA.new w a
  have HHI : Hid (1 ≤ a.vi → a.vi ≤ 1099511627776 → ∀ W, Calls Tryd.prog 33 #[.agg (atc a)] W fun e w' => e = .returned (.int .i64 (highA a)) ∧ Below W.heap.size W w') := hid (fun h1 h2 W => atHigh_any a W h1 h2)
  obtain ⟨C, HC⟩ : ∃ C : Array Value, Hid (atc a = C) := ⟨_, hid rfl⟩
  obtain ⟨q, HQ⟩ : ∃ q : Int, Hid ((if mayA a = true then (0 : Int) else 1) = q) := ⟨_, hid rfl⟩
  obtain ⟨hi, HHA⟩ : ∃ q : Int, Hid (highA a = q) := ⟨_, hid rfl⟩
  rw [HC.out] at hb0 hA HHI ⊢
  rw [HHA.out] at HHI
  rw [HQ.out]
  go_enter Tryd.func18, Tryd.ntmps18
  go_upto_region 1 with (fail)
  generalize (w.alloc (.cells C 25)) = w0 at *
  have HX : Hid (∀ W : World, Below w0.heap.size w0 W → W.cell? ⟨w.heap.size, 2, none⟩ = some (.int .i64 a.vi) ∧ W.cell? ⟨w.heap.size, 36, none⟩ = some (.int .i64 a.pv) ∧ loadAtt (.pointer (some ⟨w.heap.size, 0, none⟩)) W = .ok (.value (.agg C)) W) := hid (fun W h => by
    have hW := hA.keep h
    have h1 := loadAtt_eq hW ho
    rw [HC.out] at h1
    exact ⟨hW.cells.2.2.1, hW.pv ho, h1⟩)
  obtain ⟨k0, k1, k2, k3⟩ := hA.cells
  have k5 := hA.pv ho
  clear hA HC ho
  obtain ⟨bo, ki, vi, ph, ha, pv, pa, tg⟩ := a
  simp only at k0 k1 k2 k3 k5 HX HHI
  have HM : Hid (q = if nodeB bo = true ∧ ¬ ki < 1 ∧ ¬ 3 < ki ∧ ph = ki ∧ ¬ vi < 1 ∧ ¬ 1099511627776 < vi ∧ ¬ pv < 0 ∧ ¬ hi < pv then 0 else 1) := hid (by
    rw [← HQ.out, ← HHA.out]
    unfold mayA highA nodeB
    grind)
  clear HQ HHA
  go_wp2_with fail
  refine (node_any bo w0).mono ?_
  rintro e w1 ⟨rfl, rfl⟩
  obtain ⟨nb, HN⟩ : ∃ q : Bool, Hid (nodeB bo = q) := ⟨_, hid rfl⟩
  rw [HN.out] at HM ⊢
  clear HN
  cases nb with
  | false =>
    go_wp2_with fail
    go_ret
    exact ⟨by rw [HM.out]; rfl, hb0⟩
  | true =>
    by_cases h1 : ki < 1
    · go_wp2_with fail
      go_ret
      exact ⟨by rw [HM.out, if_neg (by rintro ⟨_, h, _⟩; omega)]; rfl, hb0⟩
    by_cases h2 : 3 < ki
    · go_wp2_with fail
      go_ret
      exact ⟨by rw [HM.out, if_neg (by rintro ⟨_, _, h, _⟩; omega)]; rfl, hb0⟩
    by_cases h3' : ¬ ph = ki
    · have hd : (ph != ki) = true := by simp [h3']
      go_wp2_with fail
      all_goals first
        | (go_ret; exact ⟨by rw [HM.out, if_neg (by rintro ⟨_, _, _, h, _⟩; omega)]; rfl, hb0⟩)
        | skip
    have h3 : ph = ki := Decidable.not_not.1 h3'
    clear h3'
    have HM2 : Hid (q = if ¬ vi < 1 ∧ ¬ 1099511627776 < vi ∧ ¬ pv < 0 ∧ ¬ hi < pv then 0 else 1) := hid (by rw [HM.out]; simp only [true_and, eq_self]; split <;> split <;> first | rfl | (exfalso; omega))
    clear HM
    go_upto_region 3 with (fail)
    clear k0 k1 k3 h1 h2 h3
    by_cases h4 : vi < 1
    · have hd : decide (vi < 1) = true := decide_eq_true h4
      go_quiet (fail)
      go_wp2_with fail
      go_ret
      exact ⟨by rw [HM2.out, if_neg (by rintro ⟨h, _⟩; omega)]; rfl, below_drewN hb0 _⟩
    have hd4 : decide (vi < 1) = false := decide_eq_false h4
    by_cases h5 : 1099511627776 < vi
    · have hd : decide (1099511627776 < vi) = true := decide_eq_true h5
      go_quiet (fail)
      go_wp2_with fail
      go_ret
      exact ⟨by rw [HM2.out, if_neg (by rintro ⟨_, h, _⟩; omega)]; rfl, below_drewN hb0 _⟩
    have hd5 : decide (1099511627776 < vi) = false := decide_eq_false h5
    by_cases h6 : pv < 0
    · have hd : decide (pv < 0) = true := decide_eq_true h6
      go_quiet (fail)
      go_wp2_with fail
      go_ret
      exact ⟨by rw [HM2.out, if_neg (by rintro ⟨_, _, h, _⟩; omega)]; rfl, below_drewN hb0 _⟩
    have hd6 : decide (pv < 0) = false := decide_eq_false h6
    have HI := hid (HHI.out (by omega) (by omega))
    have HM3 : Hid (q = if ¬ hi < pv then 0 else 1) := hid (by rw [HM2.out]; split <;> split <;> first | rfl | (exfalso; omega))
    have hbd : Below w0.heap.size w0 w0.drew := (Below.refl _ _).drew
    clear HM2 HHI k2 k5
    go_region_held3 (fun W => W.cell? ⟨w.heap.size, 2, none⟩ = some (.int .i64 vi) ∧ W.cell? ⟨w.heap.size, 36, none⟩ = some (.int .i64 pv) ∧ loadAtt (.pointer (some ⟨w.heap.size, 0, none⟩)) W = .ok (.value (.agg C)) W)
      (first | (refine HX.out _ hbd) | (refine HX.out _ hb2) | fail)
      (first
        | (go_at_call 33; (with_reducible refine (HI.out _).mono ?_); rintro e w2 ⟨rfl, hb2'⟩; have hb2 : Below w0.heap.size w0 w2 := hbd.trans hb2')
        | fail)
    all_goals
      by_cases h7 : hi < pv
      all_goals
        go_wp2_with fail
        go_ret
        exact ⟨by rw [HM3.out]; simp [h7], hb0.trans (hb2.mono hb0.size)⟩
end Go.Proofs.YtmhchihcgliinaaDoor
