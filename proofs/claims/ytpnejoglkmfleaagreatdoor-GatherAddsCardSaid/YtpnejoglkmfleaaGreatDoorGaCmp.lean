/-
  cmp.Compare, cmp.Or, byPlace: which of two attestations is first by view, kind and part.
-/
import Derived.Sort.Grow
import Derived.Test.YtpnejoglkmfleaaGreatDoorGaNeed
import Derived.Test.YtpnejoglkmfleaaGreatDoorGaPure
namespace Go.Proofs.YtpnejoglkmfleaaGreatDoor
set_option maxRecDepth 20000
open Go.RowKit Go.Sort
attribute [local go_sem ↓] exec_load_att
def cmpI (x y : Int) : Int := if x < y then -1 else if y < x then 1 else 0
def orI (a b c : Int) : Int := if a = 0 then (if b = 0 then c else b) else a
def cmpA (a b : AtM) : Int := orI (cmpI a.vi b.vi) (cmpI a.ki b.ki) (cmpI a.bo b.bo)
theorem cmpA_ahead (a b : AtM) : decide (cmpA a b < 0) = aheadA a b := by
  have K : ∀ x y : Int, (cmpI x y < 0 ↔ x < y) ∧ (cmpI x y = 0 ↔ x = y) := fun x y => by
    unfold cmpI
    split
    · omega
    · split <;> omega
  rw [Bool.eq_iff_iff, decide_eq_true_iff, aheadA_iff]
  unfold cmpA orI
  have k1 := K a.vi b.vi
  have k2 := K a.ki b.ki
  have k3 := K a.bo b.bo
  generalize cmpI a.vi b.vi = p at *
  generalize cmpI a.ki b.ki = q at *
  generalize cmpI a.bo b.bo = r at *
  split
  · split <;> omega
  · omega
theorem gaNan_any (x : Int) (w : World) : Calls Tryz.prog 60 #[.int .i64 x] w fun e w' => e = .returned (.bool false) ∧ w = w' := by
  go_enter Tryz.func60, Tryz.ntmps60
  go_wp2
  go_ret
  exact ⟨by simp, rfl⟩
set_option maxHeartbeats 800000 in
theorem gaCompare_any (x y : Int) (w : World) : Calls Tryz.prog 46 #[.int .i64 x, .int .i64 y] w fun e w' => e = .returned (.int .i64 (cmpI x y)) ∧ w = w' := by
  have h1 := hid (gaNan_any x w)
  have h2 := hid (gaNan_any y w)
  obtain ⟨q, hq⟩ : ∃ q, cmpI x y = q := ⟨_, rfl⟩
  rw [hq]
  have HQ := hid hq
  clear hq
  go_enter Tryz.func46, Tryz.ntmps46
  go_wp2_with fail
  refine h1.out.mono ?_
  rintro e w1 ⟨rfl, rfl⟩
  go_wp2_with fail
  refine h2.out.mono ?_
  rintro e w1 ⟨rfl, rfl⟩
  rcases Int.lt_trichotomy x y with h | h | h
  · have hn : ¬ y < x := by omega
    go_wp2_with fail
    go_ret
    refine ⟨?_, rfl⟩
    rw [← HQ.out]
    unfold cmpI
    rw [if_pos h]
    rfl
  · subst h
    have hn : ¬ x < x := by omega
    go_wp2_with fail
    go_ret
    refine ⟨?_, rfl⟩
    rw [← HQ.out]
    unfold cmpI
    rw [if_neg (by omega), if_neg (by omega)]
    rfl
  · have hn : ¬ x < y := by omega
    go_wp2_with fail
    go_ret
    refine ⟨?_, rfl⟩
    rw [← HQ.out]
    unfold cmpI
    rw [if_neg (by omega), if_pos (by omega)]
    rfl
set_option maxHeartbeats 1600000 in
theorem gaOr_any (a b c : Int) (g : Nat) (w : World) (h : w.heap[g]? = some (.cells #[.int .i64 a, .int .i64 b, .int .i64 c] 3 (0, 0))) :
    Calls Tryz.prog 45 #[.slice (some ⟨g, 0, none⟩) 3 3] w fun e w' => e = .returned (.int .i64 (orI a b c)) ∧ w = w' := by
  have k0 : w.cell? ⟨g, 0, none⟩ = some (.int .i64 a) := cell_blk h 0
  have k1 : w.cell? ⟨g, 1, none⟩ = some (.int .i64 b) := cell_blk h 1
  have k2 : w.cell? ⟨g, 2, none⟩ = some (.int .i64 c) := cell_blk h 2
  obtain ⟨q, hq⟩ : ∃ q, orI a b c = q := ⟨_, rfl⟩
  rw [hq]
  have HQ := hid hq
  clear hq h
  go_enter Tryz.func45, Tryz.ntmps45
  go_wp2_with fail
  go_loopw [8] (fun s8 wr => ∃ i : Nat, i ≤ 3 ∧ s8 = .int .i64 i ∧ Hid (wr = w) ∧ Hid ((0 < i → a = 0) ∧ (1 < i → b = 0) ∧ (2 < i → c = 0))) (fun s8 _ => 3 - (intOf s8).toNat)
  case atStart => exact ⟨0, by omega, rfl, hid rfl, hid ⟨fun h => absurd h (by omega), fun h => absurd h (by omega), fun h => absurd h (by omega)⟩⟩
  case round =>
    obtain ⟨i, hi, rfl, HW, HZ⟩ := hrel
    obtain rfl := HW.out
    clear HW
    obtain rfl | rfl | rfl | rfl : i = 0 ∨ i = 1 ∨ i = 2 ∨ i = 3 := by omega
    · by_cases h0 : a = 0
      · subst h0
        go_wp2_with fail
        go_roundw
        case rel => exact ⟨1, by omega, by first | rfl | go_num, hid (by simp), hid ⟨fun _ => (by simp), fun h => absurd h (by omega), fun h => absurd h (by omega)⟩⟩
        case measure => simp [intOf]
      · go_wp2_with fail
        go_ret
        refine ⟨?_, rfl⟩
        rw [← HQ.out]
        unfold orI
        rw [if_neg h0]
        rfl
    · have h0 := HZ.out.1 (by omega)
      have HE := hid h0
      by_cases h1 : b = 0
      · subst h1
        clear h0
        go_wp2_with fail
        go_roundw
        case rel => exact ⟨2, by omega, by first | rfl | go_num, hid (by simp), hid ⟨fun _ => HE.out, fun _ => (by simp), fun h => absurd h (by omega)⟩⟩
        case measure => simp [intOf]
      · clear h0
        go_wp2_with fail
        go_ret
        refine ⟨?_, rfl⟩
        rw [← HQ.out]
        unfold orI
        rw [if_pos HE.out, if_neg h1]
        rfl
    · have HE := hid (And.intro (HZ.out.1 (by omega)) (HZ.out.2.1 (by omega)))
      by_cases h1 : c = 0
      · subst h1
        go_wp2_with fail
        go_roundw
        case rel => exact ⟨3, by omega, by first | rfl | go_num, hid (by simp), hid ⟨fun _ => HE.out.1, fun _ => HE.out.2, fun _ => (by simp)⟩⟩
        case measure => simp [intOf]
      · go_wp2_with fail
        go_ret
        refine ⟨?_, rfl⟩
        rw [← HQ.out]
        unfold orI
        rw [if_pos HE.out.1, if_pos HE.out.2]
        rfl
    · have HE := hid HZ.out
      go_wp2_with fail
      go_ret
      refine ⟨?_, rfl⟩
      rw [← HQ.out]
      unfold orI
      rw [if_pos (HE.out.1 (by omega)), if_pos (HE.out.2.1 (by omega)), HE.out.2.2 (by omega)]
      rfl
end Go.Proofs.YtpnejoglkmfleaaGreatDoor
