/-
  The laws of counters: their walks.
-/
import Derived.Test.YtolbblfnjgbdoaaCoCode
namespace Go.Proofs.Ytolbblfnjgbdoaa
set_option maxRecDepth 20000
open Go.RowKit

theorem coAwake_any (w : World) : Calls Try.prog 6 #[] w fun e w' => e = .returned (.bool true) ∧ Below w.heap.size w w' := by
  go_enter Try.func6, Try.ntmps6
  go_wp2_with fail
  refine (new_yes 0 w (by omega) (by omega)).mono ?_
  rintro e w1 ⟨rfl, hc, hb, _⟩
  go_wp2_with fail
  refine (up_yes hc (by omega) (by omega)).mono ?_
  rintro e w2 ⟨rfl, rfl⟩
  go_wp2_with fail
  refine (at_yes (hc.set 1) (by omega)).mono ?_
  rintro e w2 ⟨rfl, rfl⟩
  go_wp2_with fail
  go_ret
  exact ⟨rfl, hb.setCell (Nat.le_refl _) _⟩

theorem refUp_lt (n : Int) (w : World) (h0 : 0 ≤ n) (h : n < 1099511627776) :
    Calls Try.prog 8 #[.int .i64 n] w fun e w' => e = .returned (.tuple #[.int .i64 (n + 1), .int .i64 0]) ∧ w = w' := by
  go_enter Try.func8, Try.ntmps8
  go_wp2
  go_ret2
  exact ⟨rfl, rfl⟩
theorem refUp_ge (n : Int) (w : World) (h : 1099511627776 ≤ n) :
    Calls Try.prog 8 #[.int .i64 n] w fun e w' => e = .returned (.tuple #[.int .i64 n, .int .i64 9]) ∧ w = w' := by
  go_enter Try.func8, Try.ntmps8
  go_wp2
  go_ret2
  exact ⟨rfl, rfl⟩
theorem at_is {w : World} {b a : Nat} {n : Int} (h : Ctr w b a n) (h0 : 0 ≤ n) {x : Int} (hx : cap n = x) :
    Calls Try.prog 9 #[.pointer (some ⟨b, 0, none⟩)] w fun e w' => e = .returned (.int .i64 x) ∧ w = w' := hx ▸ at_yes h h0
theorem Ctr.lt {w : World} {b a : Nat} {n : Int} (h : Ctr w b a n) : b < w.heap.size ∧ a < w.heap.size := ⟨(Array.getElem?_eq_some_iff.1 h.p).1, (Array.getElem?_eq_some_iff.1 h.q).1⟩
/-- What a counter's step leaves of the world. -/
theorem Ctr.far {w : World} {b a a2 : Nat} {n : Int} (h : Ctr w b a n) (hb : b ≠ a2) (ha : a ≠ a2) (x : Int) : Ctr (w.setCell ⟨a2, 0, none⟩ (.int .i64 x)) b a n := by
  refine ⟨?_, ?_⟩
  · have := h.p
    simp [World.setCell, Array.getElem?_modify, Ne.symm hb, this]
  · have := h.q
    simp [World.setCell, Array.getElem?_modify, Ne.symm ha, this]

set_option maxHeartbeats 1600000 in
theorem lawCounterUps_any (n : Int) (k m : Nat) (w : World) (hk : k ≤ 255) (hm : m ≤ 255) :
    Calls Try.prog 3 #[.int .i64 n, .int .u8 k, .int .u8 m] w fun e w' => e = .returned (.bool true) ∧ Below w.heap.size w w' := by
  by_cases h : n < 0 ∨ 1099511627776 < n
  · by_cases h0 : n < 0
    · go_enter Try.func3, Try.ntmps3
      go_wp2_with fail
      refine (new_no n w h).mono ?_
      rintro e w1 ⟨rfl, rfl⟩
      go_wp2_with fail
      refine (coAwake_any w).mono ?_
      rintro e w1 ⟨rfl, hb⟩
      go_wp2_with fail
      go_ret
      exact ⟨rfl, hb⟩
    · have h1 : 1099511627776 < n := by omega
      go_enter Try.func3, Try.ntmps3
      go_wp2_with fail
      refine (new_no n w h).mono ?_
      rintro e w1 ⟨rfl, rfl⟩
      go_wp2_with fail
      refine (coAwake_any w).mono ?_
      rintro e w1 ⟨rfl, hb⟩
      go_wp2_with fail
      go_ret
      exact ⟨rfl, hb⟩
  · have h0 : 0 ≤ n := by omega
    have h1 : n ≤ 1099511627776 := by omega
    clear h
    go_enter Try.func3, Try.ntmps3
    go_wp2_with fail
    refine (new_yes n w h0 h1).mono ?_
    rintro e w1 ⟨rfl, hc, hb, _⟩
    obtain ⟨B, HB⟩ : ∃ B, Hid (w.heap.size + 1 = B) := ⟨_, hid rfl⟩
    obtain ⟨A, HA⟩ : ∃ A, Hid (w.heap.size = A) := ⟨_, hid rfl⟩
    have hw1 : w.heap.size ≤ A := by rw [HA.out]; exact Nat.le_refl _
    rw [HB.out, HA.out] at hc
    rw [HB.out]
    go_wp2_with fail
    go_loopw [9, 10] (fun wv iv wr => ∃ j : Nat, j ≤ k ∧ iv = .int .i64 j ∧ wv = .int .i64 (cap (n + j)) ∧ Ctr wr B A (n + j) ∧ Below w.heap.size w wr) (fun _ iv _ => k - (intOf iv).toNat)
    case atStart => exact ⟨0, Nat.zero_le _, rfl, by rw [show cap (n + ((0 : Nat) : Int)) = n by unfold cap; split <;> omega], by simpa using hc, hb⟩
    case round =>
      obtain ⟨j, hj, rfl, rfl, hcj, hbj⟩ := hrel
      by_cases hlt : j < k
      · have ee : n + j + 1 = n + ((j + 1 : Nat) : Int) := by omega
        by_cases hr : n + j < 1099511627776
        · have e0 : cap (n + j) = n + j := by unfold cap; split <;> omega
          have e1 : cap (n + j + 1) = n + j + 1 := by unfold cap; split <;> omega
          have e2 : (.int .i64 (n + j + 1) : Value) = .int .i64 (cap (n + ((j + 1 : Nat) : Int))) := by rw [← ee, e1]
          have E2 := hid e2
          have EE := hid ee
          rw [e0]
          clear e2 ee e0
          go_wp2_with fail
          refine (up_yes hcj (by omega) hr).mono ?_
          rintro e w2 ⟨rfl, rfl⟩
          go_wp2_with fail
          refine (refUp_lt _ _ (by omega) hr).mono ?_
          rintro e w2 ⟨rfl, rfl⟩
          go_wp2_with fail
          refine (at_is (hcj.set _) (by omega) e1).mono ?_
          rintro e w2 ⟨rfl, rfl⟩
          clear e1
          go_wp2_with fail
          go_roundw
          case rel => exact ⟨j + 1, by omega, by go_num, E2.out, by rw [← EE.out]; exact hcj.set _, hbj.setCell hw1 _⟩
          case measure => simp [intOf]; omega
        · have hr' : 1099511627776 ≤ n + j := by omega
          have e0 : cap (n + j) = 1099511627776 := by unfold cap; split <;> omega
          have e1 : cap (n + j + 1) = 1099511627776 := by unfold cap; split <;> omega
          have e2 : (.int .i64 1099511627776 : Value) = .int .i64 (cap (n + ((j + 1 : Nat) : Int))) := by rw [← ee, e1]
          have E2 := hid e2
          have EE := hid ee
          rw [e0]
          clear e2 ee e0
          go_wp2_with fail
          refine (up_no hcj hr' (by omega)).mono ?_
          rintro e w2 ⟨rfl, rfl⟩
          go_wp2_with fail
          refine (refUp_ge _ _ (by omega)).mono ?_
          rintro e w2 ⟨rfl, rfl⟩
          go_wp2_with fail
          refine (at_is (hcj.set _) (by omega) e1).mono ?_
          rintro e w2 ⟨rfl, rfl⟩
          clear e1
          go_wp2_with fail
          go_roundw
          case rel => exact ⟨j + 1, by omega, by go_num, E2.out, by rw [← EE.out]; exact hcj.set _, hbj.setCell hw1 _⟩
          case measure => simp [intOf]; omega
      · obtain rfl : j = k := by omega
        clear hlt hj
        obtain ⟨v, HV⟩ : ∃ v, Hid (cap (n + (j : Int)) = v) := ⟨_, hid rfl⟩
        have hv : 0 ≤ v ∧ v ≤ 1099511627776 ∧ v ≤ n + j := by rw [← HV.out]; unfold cap; split <;> omega
        rw [HV.out]
        go_wp2_with fail
        refine (clone_yes hcj (by omega)).mono ?_
        rintro e w2 ⟨rfl, hd, hb2, _⟩
        rw [HV.out] at hd
        have hlt := hcj.lt
        have hc2 := hcj.below hb2 hlt.1 hlt.2
        have hb3 := hbj.trans (hb2.mono hbj.size)
        obtain ⟨D, HD⟩ : ∃ D, Hid (wr.heap.size + 1 = D) := ⟨_, hid rfl⟩
        obtain ⟨C, HC⟩ : ∃ C, Hid (wr.heap.size = C) := ⟨_, hid rfl⟩
        have hn1 : D ≠ A := by rw [← HD.out]; omega
        have hn2 : C ≠ A := by rw [← HC.out]; omega
        rw [HD.out, HC.out] at hd
        rw [HD.out]
        have HN1 := hid hn1
        have HN2 := hid hn2
        clear hn1 hn2 hb2 hcj hbj hlt
        go_wp2_with fail
        go_loopw [16] (fun iv wr => ∃ i : Nat, i ≤ m ∧ iv = .int .i64 i ∧ Ctr wr B A (n + j + i) ∧ Ctr wr D C v ∧ Below w.heap.size w wr) (fun iv _ => m - (intOf iv).toNat)
        case atStart => exact ⟨0, Nat.zero_le _, rfl, by simpa using hc2, hd, hb3⟩
        case round =>
          obtain ⟨i, hi, rfl, hci, hdi, hbi⟩ := hrel
          by_cases hlt : i < m
          · have ee : n + j + i + 1 = n + j + ((i + 1 : Nat) : Int) := by omega
            have EE := hid ee
            clear ee
            by_cases hr : n + j + i < 1099511627776
            · go_wp2_with fail
              refine (up_yes hci (by omega) hr).mono ?_
              rintro e w3 ⟨rfl, rfl⟩
              go_wp2_with fail
              go_roundw
              case rel => exact ⟨i + 1, by omega, by go_num, by rw [← EE.out]; exact hci.set _, hdi.far HN1.out HN2.out _, hbi.setCell hw1 _⟩
              case measure => simp [intOf]; omega
            · go_wp2_with fail
              refine (up_no hci (by omega) (by omega)).mono ?_
              rintro e w3 ⟨rfl, rfl⟩
              go_wp2_with fail
              go_roundw
              case rel => exact ⟨i + 1, by omega, by go_num, by rw [← EE.out]; exact hci.set _, hdi.far HN1.out HN2.out _, hbi.setCell hw1 _⟩
              case measure => simp [intOf]; omega
          · have ev : cap v = v := by unfold cap; split <;> omega
            obtain ⟨z, HZ⟩ : ∃ z, Hid (cap (n + j + (i : Int)) = z) := ⟨_, hid rfl⟩
            have hz : v ≤ z := by rw [← HV.out, ← HZ.out]; unfold cap; split <;> split <;> omega
            go_wp2_with fail
            refine (at_is hdi hv.1 ev).mono ?_
            rintro e w3 ⟨rfl, rfl⟩
            clear ev
            go_wp2_with fail
            refine (at_is hci (by omega) HZ.out).mono ?_
            rintro e w3 ⟨rfl, rfl⟩
            go_wp2_with fail
            refine (coAwake_any _).mono ?_
            rintro e w3 ⟨rfl, hb4⟩
            go_wp2_with fail
            go_ret
            exact ⟨rfl, hbi.trans (hb4.mono hbi.size)⟩

set_option maxHeartbeats 800000 in
theorem lawCounterNobody_any (n : Nat) (w : World) (hn : n ≤ 255) :
    Calls Try.prog 4 #[.int .u8 n] w fun e w' => e = .returned (.bool true) ∧ Below w.heap.size w w' := by
  go_enter Try.func4, Try.ntmps4
  go_wp2_with fail
  go_loopw [3] (fun iv wr => ∃ j : Nat, j ≤ 2 ∧ iv = .int .i64 j ∧ Below w.heap.size w wr) (fun iv _ => 2 - (intOf iv).toNat)
  case atStart => exact ⟨0, by omega, rfl, Below.refl _ _⟩
  case round =>
    obtain ⟨j, hj, rfl, hbj⟩ := hrel
    obtain ⟨wo, rfl⟩ : ∃ wo : World, wo = wr := ⟨_, rfl⟩
    by_cases h2 : j < 2
    · by_cases h1 : j = 1
      · subst h1
        go_wp2_with fail
        have hn0 : NoCtr (wo.alloc (.cells #[.pointer none] 35)) (.pointer (some ⟨wo.heap.size, 0, none⟩)) := .inr ⟨_, rfl, heapA_new _ _⟩
        have hb0 : Below w.heap.size w (wo.alloc (.cells #[.pointer none] 35)) := hbj.alloc hbj.size _
        go_loopw [5] (fun iv wr => ∃ i : Nat, iv = .int .i64 i ∧ NoCtr wr (.pointer (some ⟨wo.heap.size, 0, none⟩)) ∧ Below w.heap.size w wr) (fun iv _ => 4 - (intOf iv).toNat)
        case atStart => exact ⟨0, rfl, hn0, hb0⟩
        case round =>
          obtain ⟨i, rfl, hnc, hbi⟩ := hrel
          by_cases hlt : i < n % 4
          · go_wp2_with fail
            refine (up_nobody hnc).mono ?_
            rintro e w3 ⟨rfl, rfl⟩
            go_wp2_with fail
            refine (at_nobody hnc).mono ?_
            rintro e w3 ⟨rfl, rfl⟩
            go_wp2_with fail
            go_roundw
            case rel =>
              (repeat apply Exists.intro)
              exact ⟨⟨i + 1, by go_num, hnc, hbi⟩, rfl⟩
            case measure => simp [intOf]; omega
          · go_wp2_with fail
            refine (clone_nobody hnc).mono ?_
            rintro e w3 ⟨v, rfl, hnc3, hb3⟩
            go_wp2_with fail
            refine (up_nobody hnc3).mono ?_
            rintro e w4 ⟨rfl, rfl⟩
            go_wp2_with fail
            go_roundw
            case rel => exact ⟨2, by omega, by go_num, hbi.trans (hb3.mono hbi.size)⟩
            case measure => simp [intOf]
      · obtain rfl : j = 0 := by omega
        go_wp2_with fail
        have hn0 : NoCtr wo (.pointer none) := .inl rfl
        have hb0 := hbj
        go_loopw [5] (fun iv wr => ∃ i : Nat, iv = .int .i64 i ∧ NoCtr wr (.pointer none) ∧ Below w.heap.size w wr) (fun iv _ => 4 - (intOf iv).toNat)
        case atStart => exact ⟨0, rfl, hn0, hb0⟩
        case round =>
          obtain ⟨i, rfl, hnc, hbi⟩ := hrel
          by_cases hlt : i < n % 4
          · go_wp2_with fail
            refine (up_nobody hnc).mono ?_
            rintro e w3 ⟨rfl, rfl⟩
            go_wp2_with fail
            refine (at_nobody hnc).mono ?_
            rintro e w3 ⟨rfl, rfl⟩
            go_wp2_with fail
            go_roundw
            case rel =>
              (repeat apply Exists.intro)
              exact ⟨⟨i + 1, by go_num, hnc, hbi⟩, rfl⟩
            case measure => simp [intOf]; omega
          · go_wp2_with fail
            refine (clone_nobody hnc).mono ?_
            rintro e w3 ⟨v, rfl, hnc3, hb3⟩
            go_wp2_with fail
            refine (up_nobody hnc3).mono ?_
            rintro e w4 ⟨rfl, rfl⟩
            go_wp2_with fail
            go_roundw
            case rel => exact ⟨1, by omega, by go_num, hbi.trans (hb3.mono hbi.size)⟩
            case measure => simp [intOf]
    · go_wp2_with fail
      refine (coAwake_any _).mono ?_
      rintro e w3 ⟨rfl, hb4⟩
      go_wp2_with fail
      go_ret
      exact ⟨rfl, hbj.trans (hb4.mono hbj.size)⟩
end Go.Proofs.Ytolbblfnjgbdoaa
