/-
  The bytes of numbers and texts, as plain functions on lists. No function of the program.
-/
import Derived.Test.YtefngncieagobaaWords
namespace Go.Proofs.Ytefngncieagobaa

/-- A number's bytes. -/
def dg (n : Nat) : List UInt8 := if n < 128 then [UInt8.ofNat n] else UInt8.ofNat (128 + n % 128) :: dg (n / 128)
termination_by n
decreasing_by omega

theorem dg_small {n : Nat} (h : n < 128) : dg n = [UInt8.ofNat n] := by rw [dg, if_pos h]
theorem dg_big {n : Nat} (h : ¬ n < 128) : dg n = UInt8.ofNat (128 + n % 128) :: dg (n / 128) := by rw [dg, if_neg h]
theorem dg_len (k : Nat) : ∀ n, n < 128 ^ (k + 1) → (dg n).length ≤ k + 1 := by
  induction k with
  | zero =>
    intro n h
    rw [dg_small (by simpa using h)]
    simp
  | succ k ih =>
    intro n h
    by_cases h1 : n < 128
    · rw [dg_small h1]; simp
    · rw [dg_big h1]
      have := ih (n / 128) (by rw [Nat.pow_succ] at h; exact Nat.div_lt_of_lt_mul (by rw [Nat.mul_comm]; exact h))
      simp
      omega
theorem dg_len10 {n : Nat} (h : n < 18446744073709551616) : (dg n).length ≤ 10 := dg_len 9 n (by omega)
theorem dg_pos (n : Nat) : 0 < (dg n).length := by
  by_cases h : n < 128
  · rw [dg_small h]; simp
  · rw [dg_big h]; simp

/-- The bytes of a number, one by one. -/
theorem dg_get (n : Nat) : ∀ j (h : j < (dg n).length),
    (j + 1 < (dg n).length → ((dg n)[j]).toNat = 128 + n / 128 ^ j % 128) ∧ (j + 1 = (dg n).length → ((dg n)[j]).toNat = n / 128 ^ j ∧ n / 128 ^ j < 128 ∧ (0 < j → 0 < n / 128 ^ j)) := by
  induction n using Nat.strongRecOn with
  | _ n ih =>
    intro j h
    by_cases hn : n < 128
    · have hl : (dg n).length = 1 := by rw [dg_small hn]; rfl
      obtain rfl : j = 0 := by omega
      refine ⟨fun h1 => by omega, fun _ => ?_⟩
      have e : (dg n)[0] = UInt8.ofNat n := by simp [dg_small hn]
      rw [e, UInt8.toNat_ofNat']
      simp
      omega
    · have hl : (dg n).length = (dg (n / 128)).length + 1 := by rw [dg_big hn]; rfl
      have hp := dg_pos (n / 128)
      rcases j with _ | j
      · refine ⟨fun _ => ?_, fun h1 => by omega⟩
        have e : (dg n)[0] = UInt8.ofNat (128 + n % 128) := by simp [dg_big hn]
        rw [e, UInt8.toNat_ofNat']
        simp
        omega
      · have e : (dg n)[j + 1] = (dg (n / 128))[j]'(by omega) := by simp [dg_big hn]
        have := ih (n / 128) (by omega) j (by omega)
        have hq : n / 128 ^ (j + 1) = n / 128 / 128 ^ j := by rw [Nat.pow_succ, Nat.mul_comm, Nat.div_div_eq_div_mul]
        rw [e, hq]
        refine ⟨fun h1 => this.1 (by omega), fun h1 => ?_⟩
        obtain ⟨a, b, c⟩ := this.2 (by omega)
        refine ⟨a, b, fun _ => ?_⟩
        rcases Nat.eq_zero_or_pos j with h0 | h0
        · subst h0
          simp
          omega
        · exact c h0

/-- What the lowest i digits make. -/
def low (n i : Nat) : Nat := n % 128 ^ i
theorem low_zero (n : Nat) : low n 0 = 0 := by simp [low, Nat.mod_one]
theorem low_lt (n i : Nat) : low n i < 128 ^ i := Nat.mod_lt _ (Nat.pow_pos (by omega))
theorem low_succ (n i : Nat) : low n (i + 1) = low n i + (n / 128 ^ i % 128) * 128 ^ i := by
  unfold low
  rw [Nat.pow_succ, Nat.mod_mul, Nat.mul_comm]
theorem low_all (n i : Nat) (h : n < 128 ^ i) : low n i = n := Nat.mod_eq_of_lt h

/-- What bytes make that are digits, the lowest first. -/
def val : List UInt8 → Nat
  | [] => 0
  | c :: l => c.toNat % 128 + 128 * val l
theorem val_lt (l : List UInt8) : val l < 128 ^ l.length := by
  induction l with
  | nil => simp [val]
  | cons c l ih =>
    simp only [val, List.length_cons, Nat.pow_succ]
    have := Nat.mod_lt c.toNat (show 128 > 0 by omega)
    omega
theorem val_snoc (l : List UInt8) (c : UInt8) : val (l ++ [c]) = val l + c.toNat % 128 * 128 ^ l.length := by
  induction l with
  | nil => simp [val]
  | cons x l ih =>
    simp only [List.cons_append, val, ih, List.length_cons, Nat.pow_succ]
    rw [Nat.mul_add, ← Nat.mul_assoc, Nat.mul_comm 128 (c.toNat % 128), Nat.mul_assoc, Nat.mul_comm 128 (128 ^ l.length)]
    omega
/-- Up to ten bytes, the tenth at most 1, make no more than 64 bits. -/
theorem val_64 (l : List UInt8) (c : UInt8) (hl : l.length ≤ 9) (hc : c.toNat < 128) (h9 : l.length = 9 → c.toNat ≤ 1) : val (l ++ [c]) < 18446744073709551616 := by
  rw [val_snoc]
  have h := val_lt l
  have e9 : (128 : Nat) ^ 9 = 9223372036854775808 := by decide
  by_cases h8 : l.length = 9
  · have := h9 h8
    rw [h8, e9] at h
    rw [h8, e9, Nat.mod_eq_of_lt hc]
    omega
  · have hp : (128 : Nat) ^ l.length ≤ 128 ^ 8 := Nat.pow_le_pow_right (by omega) (by omega)
    have e8 : (128 : Nat) ^ 8 = 72057594037927936 := by decide
    rw [e8] at hp
    have : c.toNat % 128 * 128 ^ l.length ≤ 127 * 72057594037927936 := Nat.mul_le_mul (by omega) hp
    omega
/-- Bytes that are all great but the last one, which is not nought if others are ahead, are their number's bytes. -/
theorem dg_val (l : List UInt8) (c : UInt8) (h : ∀ x ∈ l, 128 ≤ x.toNat) (hc : c.toNat < 128) (h0 : l ≠ [] → 0 < c.toNat) : dg (val (l ++ [c])) = l ++ [c] ∧ (l ≠ [] → 0 < val (l ++ [c])) := by
  induction l with
  | nil =>
    refine ⟨?_, fun h => absurd rfl h⟩
    simp only [List.nil_append, val]
    rw [dg_small (by omega)]
    congr 1
    apply UInt8.toNat_inj.1
    rw [UInt8.toNat_ofNat']
    omega
  | cons x l ih =>
    have hx := h x (by simp)
    have hxl := x.toNat_lt
    have hv : 0 < val (l ++ [c]) := by
      rcases l with _ | ⟨y, l⟩
      · have := h0 (by simp)
        simp only [List.nil_append, val]
        omega
      · exact (ih (fun z hz => h z (List.mem_cons_of_mem _ hz)) (fun _ => h0 (by simp))).2 (by simp)
    have := (ih (fun z hz => h z (List.mem_cons_of_mem _ hz)) (fun _ => h0 (by simp))).1
    simp only [List.cons_append, val]
    refine ⟨?_, fun _ => by omega⟩
    rw [dg_big (by omega), show (x.toNat % 128 + 128 * val (l ++ [c])) / 128 = val (l ++ [c]) from by omega, this]
    congr 1
    apply UInt8.toNat_inj.1
    rw [UInt8.toNat_ofNat']
    omega

/-- A text's bytes. -/
def tx (t : List UInt8) : List UInt8 := dg t.length ++ t

/-- Which number bytes begin with, as they are written, whether or not in the shortest way. -/
def raw : List UInt8 → Option Nat
  | [] => none
  | c :: l => if c.toNat < 128 then some c.toNat else (raw l).map fun n => c.toNat % 128 + 128 * n
theorem raw_dg (n : Nat) : ∀ t, raw (dg n ++ t) = some n := by
  induction n using Nat.strongRecOn with
  | _ n ih =>
    intro t
    by_cases hn : n < 128
    · have e : (UInt8.ofNat n).toNat = n := by rw [UInt8.toNat_ofNat']; omega
      simp [dg_small hn, raw, e, hn]
    · have e : (UInt8.ofNat (128 + n % 128)).toNat = 128 + n % 128 := by rw [UInt8.toNat_ofNat']; omega
      rw [dg_big hn, List.cons_append]
      simp only [raw, e]
      rw [if_neg (by omega), ih (n / 128) (by omega) t]
      simp
      omega
/-- Which number bytes begin with: none, if they begin with no number's bytes. -/
def frst (l : List UInt8) : Option Nat :=
  match raw l with
  | some n => if n < 18446744073709551616 ∧ (dg n).isPrefixOf l = true then some n else none
  | none => none
theorem frst_some {l : List UInt8} {n : Nat} (h : frst l = some n) : n < 18446744073709551616 ∧ dg n <+: l := by
  unfold frst at h
  split at h
  · split at h
    · injection h with h
      subst h
      rename_i hh
      exact ⟨hh.1, List.isPrefixOf_iff_prefix.1 hh.2⟩
    · cases h
  · cases h
theorem frst_eq {l : List UInt8} {n : Nat} (hn : n < 18446744073709551616) (h : dg n <+: l) : frst l = some n := by
  obtain ⟨t, rfl⟩ := h
  unfold frst
  rw [raw_dg]
  simp only
  rw [if_pos ⟨hn, List.isPrefixOf_iff_prefix.2 (List.prefix_append _ _)⟩]
theorem frst_none {l : List UInt8} (h : frst l = none) : ∀ n, n < 18446744073709551616 → ¬ dg n <+: l := fun n hn hp => by
  rw [frst_eq hn hp] at h
  cases h

/-- A reader of bytes l at place p, right or not: what it reads of a number that is most at most, and where it is then. -/
def rdNum (most : Nat) (l : List UInt8) (p : Nat) (r : Bool) : Nat × Nat × Bool :=
  if r = false then (0, p, false) else
    match frst (l.drop p) with
    | some n => if n ≤ most then (n, p + (dg n).length, true) else (0, p, false)
    | none => (0, p, false)
/-- .. of a text. -/
def rdText (l : List UInt8) (p : Nat) (r : Bool) : List UInt8 × Nat × Bool :=
  if r = false then ([], p, false) else
    match frst (l.drop p) with
    | some n => if n ≤ 65536 ∧ p + (dg n).length + n ≤ l.length then ((l.drop (p + (dg n).length)).take n, p + (dg n).length + n, true) else ([], p, false)
    | none => ([], p, false)
/-- .. of a hash. -/
def rdHash (l : List UInt8) (p : Nat) (r : Bool) : List UInt8 × Nat × Bool :=
  if r = false then (List.replicate 32 0, p, false) else
    if p + 32 ≤ l.length then ((l.drop p).take 32, p + 32, true) else (List.replicate 32 0, p, false)
theorem rdNum_bad (most : Nat) (l : List UInt8) (p : Nat) : rdNum most l p false = (0, p, false) := by simp [rdNum]
theorem rdNum_yes {most : Nat} {l : List UInt8} {p n : Nat} (h : frst (l.drop p) = some n) (hm : n ≤ most) : rdNum most l p true = (n, p + (dg n).length, true) := by simp [rdNum, h, hm]
theorem rdNum_big {most : Nat} {l : List UInt8} {p n : Nat} (h : frst (l.drop p) = some n) (hm : ¬ n ≤ most) : rdNum most l p true = (0, p, false) := by simp [rdNum, h, hm]
theorem rdNum_no {most : Nat} {l : List UInt8} {p : Nat} (h : frst (l.drop p) = none) : rdNum most l p true = (0, p, false) := by simp [rdNum, h]
theorem rdText_bad (l : List UInt8) (p : Nat) : rdText l p false = ([], p, false) := by simp [rdText]
theorem rdText_yes {l : List UInt8} {p n : Nat} (h : frst (l.drop p) = some n) (hm : n ≤ 65536) (hl : p + (dg n).length + n ≤ l.length) :
    rdText l p true = ((l.drop (p + (dg n).length)).take n, p + (dg n).length + n, true) := by simp only [rdText, h]; rw [if_neg (by simp), if_pos ⟨hm, hl⟩]
theorem rdText_big {l : List UInt8} {p n : Nat} (h : frst (l.drop p) = some n) (hm : ¬ (n ≤ 65536 ∧ p + (dg n).length + n ≤ l.length)) : rdText l p true = ([], p, false) := by simp only [rdText, h]; rw [if_neg (by simp), if_neg hm]
theorem rdText_no {l : List UInt8} {p : Nat} (h : frst (l.drop p) = none) : rdText l p true = ([], p, false) := by simp [rdText, h]

/-! What was put is read. -/
theorem drop_more {L a r : List UInt8} {p : Nat} (h : L.drop p = a ++ r) : L.drop (p + a.length) = r := by
  rw [← List.drop_drop, h, List.drop_left]
theorem drop_len {L a r : List UInt8} {p : Nat} (h : L.drop p = a ++ r) (ha : 0 < a.length) : p + a.length + r.length = L.length := by
  have := congrArg List.length h
  simp at this
  omega
theorem rdNum_at {L r : List UInt8} {p n : Nat} (h : L.drop p = dg n ++ r) (hn : n < 18446744073709551616) : rdNum 18446744073709551615 L p true = (n, p + (dg n).length, true) :=
  rdNum_yes (frst_eq hn (by rw [h]; exact List.prefix_append _ _)) (by omega)
theorem tx_len (t : List UInt8) : (tx t).length = (dg t.length).length + t.length := by simp [tx]
theorem rdText_at {L r t : List UInt8} {p : Nat} (h : L.drop p = tx t ++ r) (ht : t.length ≤ 65536) : rdText L p true = (t, p + (tx t).length, true) := by
  have h1 : L.drop p = dg t.length ++ (t ++ r) := by rw [h]; simp [tx]
  have h2 := drop_more h1
  have h3 := drop_len h1 (dg_pos _)
  simp at h3
  rw [rdText_yes (frst_eq (by omega) (by rw [h1]; exact List.prefix_append _ _)) ht (by omega), h2, List.take_left, tx_len, Nat.add_assoc]
theorem rdHash_at {L r hh : List UInt8} {p : Nat} (h : L.drop p = hh ++ r) (hl : hh.length = 32) : rdHash L p true = (hh, p + 32, true) := by
  have h3 := drop_len h (by omega)
  unfold rdHash
  rw [if_neg (by simp), if_pos (by omega), h, List.take_left' hl]
end Go.Proofs.Ytefngncieagobaa
