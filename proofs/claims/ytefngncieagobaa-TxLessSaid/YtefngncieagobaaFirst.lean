/-
  octet.first finds the number that bytes begin with, and how many bytes it has; or none.
-/
import Derived.Test.YtefngncieagobaaAppend
import Derived.Test.YtefngncieagobaaPlain
import Derived.LoopTactic
import Derived.Outline
import Derived.Laws.BitsAllLaws
import Derived.Laws.Bits64
import Derived.WalkLawsBesides
namespace Go.Proofs.Ytefngncieagobaa
open Go.RowKit

theorem and127 (x : Int) (h0 : 0 ≤ x) (h1 : x ≤ 255) : bits BinOp.and IntKind.u8 x 127 = x % 128 := by
  obtain ⟨n, rfl⟩ := Int.eq_ofNat_of_zero_le h0
  have h : ∀ n : Fin 256, bits BinOp.and IntKind.u8 ((n.val : Nat) : Int) 127 = ((n.val : Nat) : Int) % 128 := by decide +kernel
  exact h ⟨n, by omega⟩
theorem wrap_u64 (x : Int) (h0 : 0 ≤ x) (h1 : x < 18446744073709551616) : IntKind.u64.wrap x = x := by
  simp [IntKind.wrap, IntKind.signed, IntKind.bits]
  omega
theorem pow7 (i : Nat) : 128 ^ i = 2 ^ (7 * i) := by rw [Nat.pow_mul]
/-- One digit more. -/
theorem or_step (n i : Nat) (x : Int) (hn : n < 18446744073709551616) (h0 : 0 ≤ x) (h1 : x ≤ 255) (hx : x % 128 = ((n / 128 ^ i % 128 : Nat) : Int)) :
    bits BinOp.or IntKind.u64 (low n i : Int) (IntKind.u64.wrap (IntKind.u64.wrap (bits BinOp.and IntKind.u8 x 127) * 2 ^ (7 * i))) = (low n (i + 1) : Int) := by
  have hd : n / 128 ^ i % 128 < 128 := Nat.mod_lt _ (by omega)
  have hle : low n i + n / 128 ^ i % 128 * 128 ^ i ≤ n := by
    rw [← low_succ]
    exact Nat.mod_le _ _
  rw [and127 x h0 h1, hx, wrap_u64 ((n / 128 ^ i % 128 : Nat) : Int) (by omega) (by omega), low_succ]
  generalize n / 128 ^ i % 128 = d at *
  have e : (d : Int) * 2 ^ (7 * i) = ((d * 128 ^ i : Nat) : Int) := by rw [pow7]; simp
  rw [e, wrap_u64 _ (by omega) (by omega), u64_or_nat _ _ (by omega) (by omega)]
  congr 1
  have hl := low_lt n i
  rw [pow7] at hl ⊢
  rw [Nat.or_comm, Nat.mul_comm, ← Nat.two_pow_add_eq_or_of_lt hl, Nat.add_comm]

theorem ret2_eq {a b c d : Int} (h1 : a = b) (h2 : c = d) : Ending.returned (.tuple #[.int .u64 a, .int .i64 c]) = Ending.returned (.tuple #[.int .u64 b, .int .i64 d]) := by rw [h1, h2]

set_option maxHeartbeats 1600000 in
theorem first_yes (v : Value) (l : List UInt8) (n : Nat) (w : World) (hv : Byt w v l) (hn : n < 18446744073709551616) (hp : dg n <+: l) :
    Calls Try.prog 25 #[v] w fun e w' => e = .returned (.tuple #[.int .u64 (n : Int), .int .i64 ((dg n).length : Int)]) ∧ w = w' := by
  obtain ⟨A, c, rfl⟩ := hv.shape
  obtain ⟨_, hc1, hc2, hr⟩ := hv.at_
  have hk := dg_len10 hn
  have hkp := dg_pos n
  have hkl := hp.length_le
  obtain ⟨b, off, rfl, hb, hcell⟩ := hr (by omega)
  unfold maxLen at hc2
  obtain ⟨k, HK⟩ : ∃ k : Nat, Hid ((dg n).length = k) := ⟨_, rfl⟩
  rw [HK.out] at hk hkp hkl ⊢
  have hget : ∀ i (h : i < k), (i + 1 < k → (l[i]'(by omega)).toNat = 128 + n / 128 ^ i % 128) ∧ (i + 1 = k → (l[i]'(by omega)).toNat = n / 128 ^ i ∧ n / 128 ^ i < 128 ∧ (0 < i → 0 < n / 128 ^ i)) := by
    intro i h
    have hik : i < (dg n).length := by rw [HK.out]; exact h
    have e : l[i]'(by omega) = (dg n)[i] := (hp.getElem hik).symm
    have := dg_get n i hik
    rw [HK.out] at this
    rw [e]
    exact this
  have hend : n / 128 ^ (k - 1) < 128 := ((hget (k - 1) (by omega)).2 (by omega)).2.1
  have hlowk : low n k = n := by
    refine low_all n k ?_
    have e : k = k - 1 + 1 := by omega
    rw [e, Nat.pow_succ, Nat.mul_comm]
    have := Nat.pow_pos (n := k - 1) (show 0 < 128 by omega)
    exact (Nat.div_lt_iff_lt_mul this).1 hend
  have h9 : ∀ i, i = 9 → n / 128 ^ i ≤ 1 := by
    intro i hi
    subst hi
    have : (128 : Nat) ^ 9 = 9223372036854775808 := by decide
    rw [this]
    omega
  obtain ⟨L, HL⟩ : ∃ L : Nat, Hid (l.length = L) := ⟨_, rfl⟩
  have hkL : k ≤ L := by rw [← HL.out]; exact hkl
  rw [HL.out]
  have HW := hid hlowk
  clear hlowk hend hp
  go_enter Try.func25, Try.ntmps25
  go_wp2
  go_loop [4, 5] (fun sa si => ∃ i : Nat, i < k ∧ si = .int .i64 i ∧ sa = .int .u64 (low n i : Int)) (fun _ si => 10 - (intOf si).toNat)
  case atStart => exact ⟨0, by omega, rfl, by rw [low_zero]; rfl⟩
  case round =>
    obtain ⟨i, hi, rfl, rfl⟩ := hrel
    have hil : i < l.length := by omega
    have hiL : i < L := by omega
    have hc := hcell i hil
    have hx := hget i hi
    obtain ⟨x, hx0, hx1, HX⟩ : ∃ x : Int, 0 ≤ x ∧ x ≤ 255 ∧ Hid ((l[i].toNat : Int) = x) := ⟨_, (byte_lt l[i]).1, (byte_lt l[i]).2, rfl⟩
    unfold bcell at hc
    rw [HX.out] at hc
    have hi10 : (i : Int) < 10 := by omega
    by_cases hlast : i + 1 < k
    · have hx2 := hx.1 hlast
      have hx3 : 128 ≤ x := by rw [← HX.out]; omega
      have hx4 : x % 128 = ((n / 128 ^ i % 128 : Nat) : Int) := by rw [← HX.out]; omega
      have HS := hid (or_step n i x hn hx0 hx1 hx4)
      clear hx hx2 hx4 hget hcell h9
      go_wp2
      go_round
      case rel => exact ⟨i + 1, hlast, by go_num, by rw [HS.out]⟩
      case measure => simp [intOf]; omega
    · obtain ⟨hx2, hx5, hx6⟩ := hx.2 (by omega)
      have hx3 : x < 128 := by rw [← HX.out]; omega
      have hx4 : x % 128 = ((n / 128 ^ i % 128 : Nat) : Int) := by rw [← HX.out]; omega
      have HS := hid (or_step n i x hn hx0 hx1 hx4)
      have hik : i + 1 = k := by omega
      have hx7 : 0 < i → 0 < x := fun h => by have := hx6 h; rw [← HX.out]; omega
      have h1 : i = 9 → x ≤ 1 := by
        intro e
        have := h9 i e
        rw [← HX.out]
        omega
      clear hx hx2 hx4 hx5 hx6 hget hcell h9
      have HK1 := hid hik
      clear hik
      go_wp2
      all_goals first
        | (exfalso; have := hx7 (by assumption); omega)
        | (try (have e0 : x = 0 := by assumption
                subst e0)
           go_ret2
           exact ⟨ret2_eq (HS.out.trans (by rw [HK1.out, HW.out])) (by have := HK1.out; omega), rfl⟩)

set_option maxHeartbeats 1600000 in
theorem first_no (v : Value) (l : List UInt8) (w : World) (hv : Byt w v l) (hp : ∀ n, n < 18446744073709551616 → ¬ dg n <+: l) :
    Calls Try.prog 25 #[v] w fun e w' => e = .returned (.tuple #[.int .u64 0, .int .i64 0]) ∧ w = w' := by
  obtain ⟨A, c, rfl⟩ := hv.shape
  obtain ⟨_, hc1, hc2, hr⟩ := hv.at_
  unfold maxLen at hc2
  by_cases hl : l.length = 0
  · rw [hl]
    go_enter Try.func25, Try.ntmps25
    go_wp2
    refine wp_loop_rounds 1 ?_
    rw [rounds_succ]
    go_wp2
    go_ret2
    exact ⟨rfl, rfl⟩
  obtain ⟨b, off, rfl, hb, hcell⟩ := hr (by omega)
  have hgood : ∀ i (h : i < l.length), i < 10 → (∀ j (hj : j < i), 128 ≤ (l[j]'(by omega)).toNat) → (l[i].toNat < 128) → (0 < i → 0 < l[i].toNat) → (i = 9 → l[i].toNat ≤ 1) → False := by
    intro i h hi hj hlt h0 h9
    obtain ⟨e, _⟩ := dg_val (l.take i) l[i] (fun x hx => by
      obtain ⟨j, hjl, rfl⟩ := List.getElem_of_mem hx
      rw [List.getElem_take]
      exact hj j (by simp at hjl; omega)) hlt (fun hne => h0 (by
        rcases Nat.eq_zero_or_pos i with h | h
        · subst h; simp at hne
        · exact h))
    rw [← List.take_succ_eq_append_getElem h] at e
    have e1 := List.take_succ_eq_append_getElem h
    refine hp _ ?_ (by rw [e]; exact List.take_prefix _ _)
    rw [e1]
    exact val_64 _ _ (by simp; omega) hlt (fun h => h9 (by simp at h; omega))
  obtain ⟨L, HL⟩ : ∃ L : Nat, Hid (l.length = L) := ⟨_, rfl⟩
  have hL0 : 0 < L := by have := HL.out; omega
  rw [HL.out] at hc1 ⊢
  have HG := hid hgood
  clear hgood hp hl
  go_enter Try.func25, Try.ntmps25
  go_wp2
  go_loop [4, 5] (fun sa si => ∃ (i : Nat) (a : Int), i ≤ L ∧ i ≤ 10 ∧ si = .int .i64 i ∧ sa = .int .u64 a ∧ Hid (∀ j (hj : j < i) (hl : j < l.length), 128 ≤ (l[j]).toNat)) (fun _ si => 10 - (intOf si).toNat)
  case atStart => exact ⟨0, 0, by omega, by omega, rfl, rfl, hid (fun j hj => by omega)⟩
  case round =>
    obtain ⟨i, a, hi, hi10, rfl, rfl, HB⟩ := hrel
    by_cases hin : i < L ∧ i < 10
    · obtain ⟨hiL, hi9⟩ := hin
      have hil : i < l.length := by rw [HL.out]; exact hiL
      have hc := hcell i hil
      obtain ⟨x, hx0, hx1, HX⟩ : ∃ x : Int, 0 ≤ x ∧ x ≤ 255 ∧ Hid ((l[i].toNat : Int) = x) := ⟨_, (byte_lt l[i]).1, (byte_lt l[i]).2, rfl⟩
      unfold bcell at hc
      rw [HX.out] at hc
      have hi10' : (i : Int) < 10 := by omega
      clear hcell
      by_cases hbig : 128 ≤ x
      · go_wp2
        go_round
        case rel =>
          refine ⟨i + 1, _, by omega, by omega, by go_num, rfl, hid (fun j hj hjl => ?_)⟩
          by_cases hji : j < i
          · exact HB.out j hji hjl
          · obtain rfl : j = i := by omega
            have := HX.out
            omega
        case measure => simp [intOf]; omega
      · have hno : ¬ ((0 < i → 0 < x) ∧ (i = 9 → x ≤ 1)) := fun hh => HG.out i hil (by omega) (fun j hj => HB.out j hj _) (by have := HX.out; omega) (fun h0 => by have := HX.out; have := hh.1 h0; omega) (fun h9 => by have := HX.out; have := hh.2 h9; omega)
        have HN := hid hno
        clear hno
        go_wp2
        all_goals first
          | (go_ret2; exact ⟨rfl, rfl⟩)
          | (exfalso; refine HN.out ⟨fun _ => ?_, fun _ => ?_⟩ <;> omega)
    · by_cases hiL : i < L
      · obtain rfl : i = 10 := by omega
        go_wp2
        go_ret2
        exact ⟨rfl, rfl⟩
      · go_wp2
        go_ret2
        exact ⟨rfl, rfl⟩
end Go.Proofs.Ytefngncieagobaa
