/-
  tithingref06.Key and tithingref06.May: which keys and transactions there may be.
-/
import Derived.Test.YtefngncieagobaaTxBack
import Derived.LoopTactic
import Derived.Outline
namespace Go.Proofs.Ytefngncieagobaa
open Go.RowKit

theorem keyB_cases (c : UInt8) (y : Int) (hy : ((c.toNat : Nat) : Int) = y) : (keyB c = true ∧ 97 ≤ y ∧ y ≤ 122) ∨ (keyB c = true ∧ ¬ 97 ≤ y ∧ 48 ≤ y ∧ y ≤ 57) ∨ (keyB c = false ∧ 122 < y) ∨ (keyB c = false ∧ ¬ 97 ≤ y ∧ 57 < y) ∨ (keyB c = false ∧ y < 48) := by
  subst hy
  unfold keyB
  by_cases h1 : 97 ≤ c.toNat
  · by_cases h2 : c.toNat ≤ 122
    · exact .inl ⟨by simp [h1, h2], by omega, by omega⟩
    · exact .inr (.inr (.inl ⟨by simp [h2]; omega, by omega⟩))
  · by_cases h3 : 48 ≤ c.toNat
    · by_cases h4 : c.toNat ≤ 57
      · exact .inr (.inl ⟨by simp [h3, h4], by omega, by omega, by omega⟩)
      · exact .inr (.inr (.inr (.inl ⟨by simp [h1, h4], by omega, by omega⟩)))
    · exact .inr (.inr (.inr (.inr ⟨by simp [h1, h3], by omega⟩)))
theorem keyOk_no {l : List UInt8} {j : Nat} (hj : j < l.length) (h : keyB (l.getD j 0) = false) : keyOk l = false := by
  unfold keyOk
  have hm : l.getD j 0 ∈ l := by rw [List.getD_eq_getElem?_getD, List.getElem?_eq_getElem hj]; exact List.getElem_mem hj
  have : l.all keyB = false := by
    rw [Bool.eq_false_iff]
    intro ha
    rw [List.all_eq_true.1 ha _ hm] at h
    cases h
  rw [this, Bool.false_and]
theorem keyOk_yes {l : List UInt8} (h : ∀ j, j < l.length → keyB (l.getD j 0) = true) : keyOk l = (decide (1 ≤ l.length) && decide (l.length ≤ 16)) := by
  unfold keyOk
  have : l.all keyB = true := by
    rw [List.all_eq_true]
    intro c hc
    obtain ⟨j, hj, rfl⟩ := List.getElem_of_mem hc
    have := h j hj
    rwa [List.getD_eq_getElem?_getD, List.getElem?_eq_getElem hj] at this
  rw [this, Bool.true_and]

set_option maxHeartbeats 1600000 in
theorem refKey6_any (l : List UInt8) (w : World) (hs : l.length ≤ 1000000) :
    Calls Try.prog 29 #[.string (sb l)] w fun e w' => e = .returned (.bool (keyOk l)) ∧ w = w' := by
  have hsz := sb_size l
  obtain ⟨L, HL⟩ : ∃ L : Nat, Hid (l.length = L) := ⟨_, hid rfl⟩
  rw [HL.out] at hsz hs
  obtain ⟨s, HS⟩ : ∃ s : ByteArray, Hid (sb l = s) := ⟨_, hid rfl⟩
  rw [HS.out] at hsz ⊢
  go_enter Try.func29, Try.ntmps29
  go_wp2_with fail
  go_loopw [3] (fun si wr => ∃ i : Nat, i ≤ L ∧ si = .int .i64 (i : Int) ∧ Hid (∀ j, j < i → keyB (l.getD j 0) = true) ∧ Hid (w = wr)) (fun si _ => L - (intOf si).toNat)
  case atStart => exact ⟨0, Nat.zero_le _, rfl, hid (fun j hj => absurd hj (Nat.not_lt_zero _)), hid rfl⟩
  case round =>
    obtain ⟨i, hi, rfl, HD, HW⟩ := hrel
    obtain rfl := HW.out
    clear HW
    by_cases hlt : i < L
    · have hiL : (i : Int) < (L : Int) := by omega
      have hil : i < l.length := by rw [HL.out]; exact hlt
      obtain ⟨y, HY⟩ : ∃ y : Int, Hid (((l.getD i 0).toNat : Int) = y) := ⟨_, hid rfl⟩
      have i0 : ∀ w : World, (Instr.index 9 (.string s) (.int .i64 (i : Int))).run Try.prog w = .ok (.int .u8 y) w := fun w => by
        rw [← HS.out]
        exact str_index l i hil _ rfl HY.out w
      have hr : 0 ≤ y ∧ y ≤ 255 := by have := byte_lt (l.getD i 0); rw [HY.out] at this; exact this
      have HNO : ∀ (_ : keyB (l.getD i 0) = false), Hid (keyOk l = false) := fun h => hid (keyOk_no hil h)
      have HYES : ∀ (_ : keyB (l.getD i 0) = true), Hid (∀ j, j < i + 1 → keyB (l.getD j 0) = true) := fun h => hid (fun j hj => by
        rcases Nat.lt_or_ge j i with h2 | h2
        · exact HD.out j h2
        · obtain rfl : j = i := by omega
          exact h)
      obtain ⟨hk, h1, h2⟩ | ⟨hk, h1, h2, h3⟩ | ⟨hk, h1⟩ | ⟨hk, h1, h2⟩ | ⟨hk, h1⟩ := keyB_cases (l.getD i 0) y HY.out
      · have HY2 := HYES hk
        clear HNO HYES hk HD
        go_wp2_with fail
        go_roundw
        case rel => exact ⟨i + 1, by omega, by go_num, HY2, (by first | exact hid rfl | exact hid trivial)⟩
        case measure => simp [intOf]; omega
      · have HY2 := HYES hk
        clear HNO HYES hk HD
        go_wp2_with fail
        go_roundw
        case rel => exact ⟨i + 1, by omega, by go_num, HY2, (by first | exact hid rfl | exact hid trivial)⟩
        case measure => simp [intOf]; omega
      · have HN2 := HNO hk
        clear HNO HYES hk HD
        have h2 : 97 ≤ y := by omega
        have h3 : 48 ≤ y := by omega
        have h4 : ¬ y ≤ 57 := by omega
        have h5 : ¬ y ≤ 122 := by omega
        go_wp2_with fail
        go_ret
        exact ⟨by rw [HN2.out]; rfl, rfl⟩
      · have HN2 := HNO hk
        clear HNO HYES hk HD
        have h3 : 48 ≤ y := by omega
        have h4 : ¬ y ≤ 57 := by omega
        go_wp2_with fail
        go_ret
        exact ⟨by rw [HN2.out]; rfl, rfl⟩
      · have HN2 := HNO hk
        clear HNO HYES hk HD
        have h2 : ¬ 97 ≤ y := by omega
        have h3 : ¬ 48 ≤ y := by omega
        go_wp2_with fail
        go_ret
        exact ⟨by rw [HN2.out]; rfl, rfl⟩
    · have hiL : ¬ (i : Int) < (L : Int) := by omega
      obtain rfl : i = L := by omega
      have HK := hid (keyOk_yes (l := l) (by rw [HL.out]; exact HD.out))
      clear HD
      by_cases h1 : 1 ≤ i
      · have h1i : 1 ≤ (i : Int) := by omega
        by_cases h2 : i ≤ 16
        · have h2i : (i : Int) ≤ 16 := by omega
          go_wp2_with fail
          go_ret
          exact ⟨by rw [HK.out, HL.out, decide_eq_true h1, decide_eq_true h2]; rfl, rfl⟩
        · have h2i : ¬ (i : Int) ≤ 16 := by omega
          go_wp2_with fail
          go_ret
          exact ⟨by rw [HK.out, HL.out, decide_eq_true h1, decide_eq_false h2]; rfl, rfl⟩
      · have h1i : ¬ 1 ≤ (i : Int) := by omega
        go_wp2_with fail
        go_ret
        exact ⟨by rw [HK.out, HL.out, decide_eq_false h1]; rfl, rfl⟩
end Go.Proofs.Ytefngncieagobaa
