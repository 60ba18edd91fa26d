/-
  tithingref02.less tells whether a number's third power is not above another one times 2^96.
-/
import Derived.Test.YtgcagidkeacheaaDoorMul
namespace Go.Proofs.YtgcagidkeacheaaDoor
open Go.RowKit

theorem three_cells (w : World) (d0 d1 d2 : Nat) (x : Nat) (h0 : x % 65536 = d0) (h1 : x / 65536 % 65536 = d1) (h2 : x / 4294967296 = d2) :
    ∀ j, j < 3 → (w.alloc (.cells #[.int .u64 (d0 : Int), .int .u64 (d1 : Int), .int .u64 (d2 : Int)] 41)).cell? ⟨w.heap.size, j, none⟩ = some (uc (digS x j)) := fun j hj => by
  rw [cell_of_row _ _ _ _ _ (0, 0) (heap_alloc_new w _)]
  obtain rfl | rfl | rfl : j = 0 ∨ j = 1 ∨ j = 2 := by omega
  · show some (uc d0) = _
    rw [← h0]; rfl
  · show some (uc d1) = _
    rw [← h1]; rfl
  · show some (uc d2) = _
    rw [← h2]; rfl
theorem seven_cells (w : World) (p : Nat) :
    ∀ j, j < 7 → (w.alloc (.cells #[.int .u64 0, .int .u64 0, .int .u64 0, .int .u64 0, .int .u64 0, .int .u64 0, .int .u64 (p : Int)] 41)).cell? ⟨w.heap.size, j, none⟩ = some (uc (bdS p j)) := fun j hj => by
  rw [cell_of_row _ _ _ _ _ (0, 0) (heap_alloc_new w _)]
  obtain rfl | rfl | rfl | rfl | rfl | rfl | rfl : j = 0 ∨ j = 1 ∨ j = 2 ∨ j = 3 ∨ j = 4 ∨ j = 5 ∨ j = 6 := by omega
  all_goals rfl

set_option maxHeartbeats 3200000 in
theorem less_any (x p : Nat) (w : World) (hx : x < 68719476736) (hp : p ≤ 65535) :
    Calls Tryd.prog 35 #[.int .u64 (x : Int), .int .u64 (p : Int)] w fun e w' => e = .returned (.bool (lessB x p)) ∧ Below w.heap.size w w' := by
  obtain ⟨d0, H0⟩ : ∃ d : Nat, Hid (x % 65536 = d) := ⟨_, hid rfl⟩
  obtain ⟨e1, HE⟩ : ∃ d : Nat, Hid (x / 65536 = d) := ⟨_, hid rfl⟩
  obtain ⟨d1, H1⟩ : ∃ d : Nat, Hid (x / 65536 % 65536 = d) := ⟨_, hid rfl⟩
  obtain ⟨d2, H2⟩ : ∃ d : Nat, Hid (x / 4294967296 = d) := ⟨_, hid rfl⟩
  have q0 : (x : Int) % 65536 = (d0 : Int) := by have := H0.out; omega
  have qe : (x : Int) / 65536 = (e1 : Int) := by have := HE.out; omega
  have q1 : (e1 : Int) % 65536 = (d1 : Int) := by have h1 := H1.out; have h2 := HE.out; rw [h2] at h1; omega
  have q2 : (x : Int) / 4294967296 = (d2 : Int) := by have := H2.out; omega
  have w1 : IntKind.u64.wrap (e1 : Int) = (e1 : Int) := IntWalk.u64_in _ (by omega)
  have w2 : IntKind.u64.wrap (d2 : Int) = (d2 : Int) := IntWalk.u64_in _ (by omega)
  have hd := three_cells w d0 d1 d2 x H0.out H1.out H2.out
  have hb1 : Below w.heap.size w (w.alloc (.cells #[.int .u64 (d0 : Int), .int .u64 (d1 : Int), .int .u64 (d2 : Int)] 41)) := (Below.refl _ _).alloc (Nat.le_refl _) _
  have hz1 : (w.alloc (.cells #[.int .u64 (d0 : Int), .int .u64 (d1 : Int), .int .u64 (d2 : Int)] 41)).heap.size = w.heap.size + 1 := by simp
  have HDc := hid hd
  have HZ1 := hid hz1
  clear hd hz1
  go_enter Tryd.func35, Tryd.ntmps35
  go_wp2_with fail
  generalize w.alloc (.cells #[.int .u64 (d0 : Int), .int .u64 (d1 : Int), .int .u64 (d2 : Int)] 41) = wd at *
  clear q0 qe q1 q2 w1 w2
  obtain ⟨G0, HG0⟩ : ∃ g : Nat, Hid (w.heap.size = g) := ⟨_, hid rfl⟩
  have hlt0 : G0 < wd.heap.size := by have := HZ1.out; have := HG0.out; omega
  have hDc : ∀ j, j < 3 → wd.cell? ⟨G0, j, none⟩ = some (uc (digS x j)) := by rw [← HG0.out]; exact HDc.out
  rw [HG0.out] at hb1 ⊢
  have HDd := hid hDc
  clear hDc
  refine (mul_any (digS x) (digS x) G0 G0 3 3 7 _ _ wd rfl (by omega) (by omega) (by omega) hlt0 hlt0 HDd.out HDd.out (digS_le hx) (digS_le hx) mk7).mono ?_
  rintro e wa ⟨rfl, hBa, hba⟩
  obtain ⟨G1, HG1⟩ : ∃ g : Nat, Hid (wd.heap.size = g) := ⟨_, hid rfl⟩
  have hb2 : Below G0 w wa := hb1.trans (hba.mono (by omega))
  have hlt1 := hBa.lt
  have hDa := hid (fun j hj => (hba.cell (p := ⟨G0, j, none⟩) hlt0).trans (HDd.out j hj) : ∀ j, j < 3 → wa.cell? ⟨G0, j, none⟩ = some (uc (digS x j)))
  have hlt0a : G0 < wa.heap.size := by have := hba.size; omega
  rw [HG1.out] at hBa hlt1 ⊢
  have hSa := hid (fun j hj => (hBa.cell hj).trans (by unfold cutS; rw [if_pos hj]; rfl) : ∀ j, j < 7 → wa.cell? ⟨G1, j, none⟩ = some (uc (cutS (sqS x) 7 j)))
  clear hb1 hba hBa hlt0
  go_wp2_with fail
  refine (mul_any (cutS (sqS x) 7) (digS x) G1 G0 7 3 11 _ _ wa rfl (by omega) (by omega) (by omega) hlt1 hlt0a hSa.out hDa.out (cutS_le hx) (digS_le hx) mk11).mono ?_
  rintro e wc ⟨rfl, hBc, hbc⟩
  obtain ⟨G2, HG2⟩ : ∃ g : Nat, Hid (wa.heap.size = g) := ⟨_, hid rfl⟩
  have hb3 : Below G0 w wc := hb2.trans (hbc.mono (by omega))
  rw [HG2.out] at hBc ⊢
  have hlt2 := hBc.lt
  have hC := hid (fun j hj => (hBc.alloc _).cell hj : ∀ j, j < 11 → (wc.alloc (.cells #[.int .u64 0, .int .u64 0, .int .u64 0, .int .u64 0, .int .u64 0, .int .u64 0, .int .u64 (p : Int)] 41)).cell? ⟨G2, j, none⟩ = some (uc (cuS x j)))
  have hD := hid (seven_cells wc p)
  have hb4 : Below G0 w (wc.alloc (.cells #[.int .u64 0, .int .u64 0, .int .u64 0, .int .u64 0, .int .u64 0, .int .u64 0, .int .u64 (p : Int)] 41)) := hb3.alloc (by have := HG2.out; omega) _
  clear hb2 hbc hBc hb3 hDa hSa
  go_wp2_with fail
  generalize wc.alloc (.cells #[.int .u64 0, .int .u64 0, .int .u64 0, .int .u64 0, .int .u64 0, .int .u64 0, .int .u64 (p : Int)] 41) = wz at *
  obtain ⟨G3, HG3⟩ : ∃ g : Nat, Hid (wc.heap.size = g) := ⟨_, hid rfl⟩
  have HD := hid (show ∀ j, j < 7 → wz.cell? ⟨G3, j, none⟩ = some (uc (bdS p j)) by rw [← HG3.out]; exact hD.out)
  rw [HG3.out]
  clear hD
  go_loop [9] (fun si => ∃ (k : Nat) (z : Int), z + 1 = (k : Int) ∧ k ≤ 10 ∧ si = .int .i64 z ∧ Hid (∀ j, k ≤ j → j < 10 → cuS x j = bdS p j)) (fun si => ((intOf si) + 1).toNat)
  case atStart => exact ⟨10, 9, by omega, by omega, rfl, hid fun j h1 h2 => absurd h1 (by omega)⟩
  case round =>
    obtain ⟨k, z, hz, hk, rfl, HE⟩ := hrel
    rcases k with _ | i
    · have hz0 : z < 0 := by omega
      have hz1 : ¬ 0 ≤ z := by omega
      have e := less_same hx fun j hj => HE.out j (Nat.zero_le _) hj
      go_wp2_with fail
      go_ret
      exact ⟨rfl, by rw [HG0.out]; exact hb4⟩
    · obtain rfl : z = (i : Int) := by omega
      have hi11 : (i : Int) < 11 := by omega
      have c1 : wz.cell? ⟨G2, i, none⟩ = some (uc (cuS x i)) := hC.out i (by omega)
      obtain ⟨x1, HX1⟩ : ∃ n : Nat, Hid (cuS x i = n) := ⟨_, hid rfl⟩
      obtain ⟨y1, HY1⟩ : ∃ n : Nat, Hid (bdS p i = n) := ⟨_, hid rfl⟩
      rw [HX1.out] at c1
      unfold uc at c1
      have hi0 : (0 : Int) ≤ (i : Int) := by omega
      clear hz
      have cases3 : x1 < y1 ∨ x1 = y1 ∨ y1 < x1 := by omega
      by_cases h7 : i < 7
      · have hi7 : (i : Int) < 7 := by omega
        have c2 := HD.out i h7
        rw [HY1.out] at c2
        unfold uc at c2
        rcases cases3 with h | h | h
        · have e := less_yes hx (i := i) (by omega) (fun j h1 h2 => HE.out j (by omega) h2) (by rw [HX1.out, HY1.out]; exact h)
          have t1 : ((x1 : Int) != (y1 : Int)) = true := by simp; omega
          have t2 : (x1 : Int) < (y1 : Int) := by omega
          clear h
          go_wp2_with fail
          go_ret
          exact ⟨rfl, by rw [HG0.out]; exact hb4⟩
        · subst h
          have t1 : ((x1 : Int) != (x1 : Int)) = false := by simp
          have HE2 := hid (fun j h1 h2 => by
            by_cases e : j = i
            · subst e; rw [HX1.out, HY1.out]
            · exact HE.out j (by omega) h2 : ∀ j, i ≤ j → j < 10 → cuS x j = bdS p j)
          go_wp2_with fail
          go_round
          case rel => exact ⟨i, (i : Int) - 1, by omega, by omega, rfl, HE2⟩
          case measure => simp [intOf]
        · have e := less_no hx hp (i := i) (by omega) (fun j h1 h2 => HE.out j (by omega) h2) (by rw [HX1.out, HY1.out]; exact h)
          have t1 : ((x1 : Int) != (y1 : Int)) = true := by simp; omega
          have t2 : ¬ (x1 : Int) < (y1 : Int) := by omega
          clear h
          go_wp2_with fail
          go_ret
          exact ⟨rfl, by rw [HG0.out]; exact hb4⟩
      · have hi7 : ¬ (i : Int) < 7 := by omega
        obtain rfl : y1 = 0 := by
          rw [← HY1.out]
          exact if_neg (by omega)
        rcases cases3 with h | h | h
        · omega
        · subst h
          have HE2 := hid (fun j h1 h2 => by
            by_cases e : j = i
            · subst e; rw [HX1.out, HY1.out]
            · exact HE.out j (by omega) h2 : ∀ j, i ≤ j → j < 10 → cuS x j = bdS p j)
          go_wp2_with fail
          go_round
          case rel => exact ⟨i, (i : Int) - 1, by omega, by omega, rfl, HE2⟩
          case measure => simp [intOf]
        · have e := less_no hx hp (i := i) (by omega) (fun j h1 h2 => HE.out j (by omega) h2) (by rw [HX1.out, HY1.out]; exact h)
          have t1 : ((x1 : Int) != 0) = true := by simp; omega
          have t2 : ¬ (x1 : Int) < 0 := by omega
          clear h
          go_wp2_with fail
          go_ret
          exact ⟨rfl, by rw [HG0.out]; exact hb4⟩
end Go.Proofs.YtgcagidkeacheaaDoor
