/-
  Turned bits: a record, some of whose bytes' bits are turned, all within 32 in a row, is none. Plain mathematics; no function of the program.
-/
import Derived.Test.YtpecdlafeelkoaaCrcNext
namespace Go.Proofs.Ytpecdlafeelkoaa

/-- One bit turned. -/
def flipL (c : List UInt8) (k : Nat) : List UInt8 := c.set (k / 8) (c.getD (k / 8) 0 ^^^ UInt8.ofNat (2 ^ (7 - k % 8)))
theorem flipL_length (c : List UInt8) (k : Nat) : (flipL c k).length = c.length := by simp [flipL]
theorem pow_small {j : Nat} (hj : j ≤ 7) : (2 : Nat) ^ j < 256 := by
  have : ∀ j : Fin 8, (2 : Nat) ^ j.val < 256 := by decide
  exact this ⟨j, by omega⟩
theorem mb_flip (c : List UInt8) (k : Nat) (hk : k / 8 < c.length) (k' : Nat) : mb (flipL c k) k' = (mb c k' ^^ decide (k' = k)) := by
  have e : k' = 8 * (k' / 8) + k' % 8 := by omega
  rw [e, mb_at _ _ _ (by omega), mb_at _ _ _ (by omega), ← e]
  have hg : (flipL c k).getD (k' / 8) 0 = if k' / 8 = k / 8 then c.getD (k / 8) 0 ^^^ UInt8.ofNat (2 ^ (7 - k % 8)) else c.getD (k' / 8) 0 := by
    unfold flipL
    rw [List.getD_eq_getElem?_getD, List.getD_eq_getElem?_getD, List.getD_eq_getElem?_getD, List.getElem?_set]
    by_cases h : k' / 8 = k / 8
    · rw [if_pos h, if_pos h.symm, if_pos hk]
      rfl
    · rw [if_neg h, if_neg (fun h2 => h h2.symm)]
  rw [hg]
  by_cases h : k' / 8 = k / 8
  · rw [if_pos h, UInt8.toNat_xor, Nat.testBit_xor, UInt8.toNat_ofNat', Nat.mod_eq_of_lt (pow_small (by omega)), Nat.testBit_two_pow, h]
    congr 1
    rw [Bool.eq_iff_iff, decide_eq_true_eq, decide_eq_true_eq]
    omega
  · rw [if_neg h, decide_eq_false (fun h2 => h (by rw [h2])), Bool.xor_false]

/-- The first i of 32 bits from f on have been turned where 'bits' says so. -/
def TurnedAt (l c : List UInt8) (f i bits : Nat) : Prop := ∀ k, mb c k = (mb l k ^^ (decide (f ≤ k ∧ k < f + i) && bits.testBit (k - f)))
theorem turned_zero (l : List UInt8) (f bits : Nat) : TurnedAt l l f 0 bits := fun k => by
  rw [decide_eq_false (by omega), Bool.false_and, Bool.xor_false]
theorem turned_no {l c : List UInt8} {f i bits : Nat} (h : TurnedAt l c f i bits) (hb : bits.testBit i = false) : TurnedAt l c f (i + 1) bits := fun k => by
  rw [h k]
  congr 1
  by_cases e : k = f + i
  · subst e
    rw [Nat.add_sub_cancel_left, hb, Bool.and_false, Bool.and_false]
  · congr 1
    rw [Bool.eq_iff_iff, decide_eq_true_eq, decide_eq_true_eq]
    omega
theorem turned_yes {l c : List UInt8} {f i bits : Nat} (h : TurnedAt l c f i bits) (hb : bits.testBit i = true) (hk : (f + i) / 8 < c.length) : TurnedAt l (flipL c (f + i)) f (i + 1) bits := fun k => by
  rw [mb_flip c _ hk, h k, Bool.xor_assoc]
  congr 1
  by_cases e : k = f + i
  · subst e
    rw [Nat.add_sub_cancel_left, hb, decide_eq_false (by omega), decide_eq_true rfl, decide_eq_true (by omega)]
    rfl
  · rw [decide_eq_false e, Bool.xor_false]
    congr 1
    rw [Bool.eq_iff_iff, decide_eq_true_eq, decide_eq_true_eq]
    omega

theorem getD_app (a b : List UInt8) (j : Nat) (h : j < a.length) : (a ++ b).getD j 0 = a.getD j 0 := by
  rw [List.getD_eq_getElem?_getD, List.getD_eq_getElem?_getD, List.getElem?_append_left h]
theorem numL_four (n : Nat) (hn : n ≤ 4294967295) (m : List UInt8) : numL (fourL n ++ m) = n := by
  unfold numL
  rw [getD_app _ _ _ (by rw [fourL_length]; omega), getD_app _ _ _ (by rw [fourL_length]; omega), getD_app _ _ _ (by rw [fourL_length]; omega), getD_app _ _ _ (by rw [fourL_length]; omega)]
  show (UInt8.ofNat (n / 16777216)).toNat * 16777216 + (UInt8.ofNat (n / 65536 % 256)).toNat * 65536 + (UInt8.ofNat (n / 256 % 256)).toNat * 256 + (UInt8.ofNat (n % 256)).toNat = n
  rw [UInt8.toNat_ofNat', UInt8.toNat_ofNat', UInt8.toNat_ofNat', UInt8.toNat_ofNat']
  omega
theorem fourL_inj {n m : Nat} (hn : n ≤ 4294967295) (hm : m ≤ 4294967295) (h : fourL n = fourL m) : n = m := by
  have h1 := numL_four n hn []
  rw [h, numL_four m hm []] at h1
  exact h1.symm
/-- What a record's bytes with others in their place begin with. -/
theorem next_other {l c : List UInt8} (h0 : 1 ≤ l.length) (h1 : l.length ≤ 65536) (hc : c.length = l.length) :
    nextN (fourL l.length ++ (fourL (crcS (fourL l.length ++ l)).toNat ++ c)) = if crcS (fourL l.length ++ c) = crcS (fourL l.length ++ l) then 1 else 0 := by
  have hlen : (fourL l.length ++ (fourL (crcS (fourL l.length ++ l)).toNat ++ c)).length = 8 + l.length := by
    rw [List.length_append, List.length_append, fourL_length, fourL_length, hc]
    omega
  have hnum := numL_four l.length (by omega) (fourL (crcS (fourL l.length ++ l)).toNat ++ c)
  have hin : inL (fourL l.length ++ (fourL (crcS (fourL l.length ++ l)).toNat ++ c)) = c := by
    unfold inL
    rw [hnum, ← List.append_assoc, List.drop_append_of_le_length (by rw [List.length_append, fourL_length, fourL_length]; omega), List.drop_of_length_le (by rw [List.length_append, fourL_length, fourL_length]; omega), List.nil_append, ← hc, List.take_length]
  unfold nextN
  rw [hnum, hin, hlen, if_neg (by omega), if_neg (by omega), if_neg (by omega), List.take_of_length_le (by rw [hlen]; omega)]
  unfold recS
  rw [hc]
  by_cases h : crcS (fourL l.length ++ c) = crcS (fourL l.length ++ l)
  · rw [h, if_pos rfl, if_pos rfl]
  · rw [if_neg h, if_neg]
    intro e
    have e2 := List.append_cancel_left e
    have e3 := (List.append_inj e2 (by rw [fourL_length, fourL_length])).1
    exact h (BitVec.eq_of_toNat_eq (fourL_inj (Nat.le_of_lt_succ (BitVec.isLt _)) (Nat.le_of_lt_succ (BitVec.isLt _)) e3))
/-- The theorem of turned bits. -/
theorem next_turned {l c : List UInt8} {f i bits : Nat} (h0 : 1 ≤ l.length) (h1 : l.length ≤ 65536) (hc : c.length = l.length) (hi : i ≤ 32) (h : TurnedAt l c f i bits) {t : Bool} (ht : t = true ↔ ∃ j, j < i ∧ bits.testBit j = true) :
    nextN (fourL l.length ++ (fourL (crcS (fourL l.length ++ l)).toNat ++ c)) = if t = true then 0 else 1 := by
  rw [next_other h0 h1 hc]
  have hd : ∀ k, mb l k ≠ mb c k → f ≤ k ∧ k < f + 32 := fun k hk => by
    rw [h k] at hk
    by_cases hb : f ≤ k ∧ k < f + i
    · omega
    · rw [decide_eq_false hb, Bool.false_and, Bool.xor_false] at hk
      exact absurd rfl hk
  by_cases hcl : c = l
  · rw [hcl, if_pos rfl, if_neg]
    intro htt
    obtain ⟨j, hj, hb⟩ := ht.1 htt
    have := h (f + j)
    rw [hcl, decide_eq_true (by omega), Nat.add_sub_cancel_left, hb] at this
    cases hmb : mb l (f + j) <;> rw [hmb] at this <;> cases this
  · have hne : ¬ crcS (fourL l.length ++ c) = crcS (fourL l.length ++ l) := fun e => hcl (turned_told (p := fourL l.length) (f := f) hc.symm hd e.symm).symm
    rw [if_neg hne, if_pos]
    refine ht.2 ?_
    refine Classical.byContradiction fun hno => hcl ?_
    refine (mb_ext hc.symm fun k => ?_).symm
    rw [h k]
    by_cases hb : f ≤ k ∧ k < f + i
    · have : bits.testBit (k - f) = false := by
        cases hbb : bits.testBit (k - f)
        · rfl
        · exact absurd ⟨k - f, by omega, hbb⟩ hno
      rw [this, Bool.and_false, Bool.xor_false]
    · rw [decide_eq_false hb, Bool.false_and, Bool.xor_false]
/-- What is put is got, whatever stands behind. -/
theorem next_rec {b : List UInt8} (h0 : 1 ≤ b.length) (h1 : b.length ≤ 65536) (more : List UInt8) : nextN (recS b ++ more) = 1 ∧ nextB (recS b ++ more) = b := by
  have hr : (recS b).length = 8 + b.length := recS_length b
  have hnum : numL (recS b ++ more) = b.length := by
    unfold recS
    rw [List.append_assoc]
    exact numL_four _ (by omega) _
  have hin : inL (recS b ++ more) = b := by
    unfold inL
    rw [hnum]
    have e : recS b ++ more = (fourL b.length ++ fourL (crcS (fourL b.length ++ b)).toNat) ++ (b ++ more) := by
      unfold recS
      simp only [List.append_assoc]
    rw [e, List.drop_append_of_le_length (by rw [List.length_append, fourL_length, fourL_length]; omega), List.drop_of_length_le (by rw [List.length_append, fourL_length, fourL_length]; omega), List.nil_append, List.take_left' rfl]
  have hn : nextN (recS b ++ more) = 1 := by
    unfold nextN
    rw [hnum, hin, List.length_append, hr, if_neg (by omega), if_neg (by omega), if_neg (by omega), List.take_left' hr, if_pos rfl]
  exact ⟨hn, by unfold nextB; rw [if_pos hn, hin]⟩
end Go.Proofs.Ytpecdlafeelkoaa
