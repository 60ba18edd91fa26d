/-
  The check byte by byte and bit by bit; what is turned within 32 bits is told. Plain mathematics; no function of the program.
-/
import Derived.Test.YtpecdlafeelkoaaCrcPure
namespace Go.Proofs.Ytpecdlafeelkoaa

/-- A byte's bits, the highest first. -/
def cb (c : UInt8) : List Bool := (List.range 8).map fun k => c.toNat.testBit (7 - k)
def bitsOf (l : List UInt8) : List Bool := l.flatMap cb
theorem cb_length (c : UInt8) : (cb c).length = 8 := by simp [cb]
theorem bitsOf_nil : bitsOf [] = [] := rfl
theorem bitsOf_cons (c : UInt8) (l : List UInt8) : bitsOf (c :: l) = cb c ++ bitsOf l := rfl
theorem bitsOf_append (l m : List UInt8) : bitsOf (l ++ m) = bitsOf l ++ bitsOf m := by simp [bitsOf]
theorem bitsOf_length : ∀ l : List UInt8, (bitsOf l).length = 8 * l.length
  | [] => rfl
  | c :: l => by
    rw [bitsOf_cons, List.length_append, cb_length, bitsOf_length l, List.length_cons]
    omega
/-- One byte: to the highest eight bits, then eight steps. -/
def crN (r : BitVec 32) (c : UInt8) : BitVec 32 := crTn 8 (r ^^^ BitVec.ofNat 32 (c.toNat * 16777216))
/-- The check of bytes. -/
def crcS (l : List UInt8) : BitVec 32 := l.foldl crN 0#32

theorem byte_up : ∀ n : Fin 256, crTn 24 (BitVec.ofNat 32 n.val) = BitVec.ofNat 32 (n.val * 16777216) := by decide +kernel
theorem byte_bits : ∀ n : Fin 256, gf ((List.range 8).map fun k => n.val.testBit (7 - k)) 0#32 = BitVec.ofNat 32 n.val := by decide +kernel
theorem gf_zero (ys : List Bool) (r : BitVec 32) : gf ys r = crTn ys.length r ^^^ gf ys 0#32 := by
  have h := gf_xor (List.replicate ys.length false) ys r 0#32 (by simp)
  rw [gf_falses] at h
  have e : ∀ zs : List Bool, List.zipWith (· ^^ ·) (List.replicate zs.length false) zs = zs := fun zs => by
    induction zs with
    | nil => rfl
    | cons z zs ih => simp [List.replicate_succ, ih]
  rw [e, BitVec.xor_zero] at h
  exact h
theorem crN_eq (s : BitVec 32) (c : UInt8) : crN (crTn 32 s) c = crTn 32 (gf (cb c) s) := by
  have hc : c.toNat < 256 := c.toNat_lt
  have h1 := byte_up ⟨c.toNat, hc⟩
  have h2 := byte_bits ⟨c.toNat, hc⟩
  simp only at h1 h2
  have h3 : gf (cb c) s = crTn 8 s ^^^ BitVec.ofNat 32 c.toNat := by
    have := gf_zero (cb c) s
    rw [cb_length] at this
    rw [this]
    congr 1
  unfold crN
  rw [h3, crTn_xor, crTn_xor, ← crTn_add 8 s 32, ← crTn_add 32 s 8, ← h1, ← crTn_add 24 _ 8]
theorem crc_fold : ∀ (l : List UInt8) (s : BitVec 32), l.foldl crN (crTn 32 s) = crTn 32 (gf (bitsOf l) s)
  | [], _ => rfl
  | c :: l, s => by
    rw [List.foldl_cons, crN_eq, crc_fold l, bitsOf_cons, gf_append]
/-- The check is the rest of the bits, with 32 noughts behind. -/
theorem crcS_eq (l : List UInt8) : crcS l = crTn 32 (gf (bitsOf l) 0#32) := by
  have h := crc_fold l 0#32
  rw [crTn_zero] at h
  exact h

/-- Two texts of one length, exclusive-ored. -/
def xorL (l m : List UInt8) : List UInt8 := List.zipWith (· ^^^ ·) l m
theorem cb_xor (c d : UInt8) : cb (c ^^^ d) = List.zipWith (· ^^ ·) (cb c) (cb d) := by
  apply List.ext_getElem (by simp [cb])
  intro i h1 h2
  simp [cb, UInt8.toNat_xor, Nat.testBit_xor]
theorem bitsOf_xor : ∀ (l m : List UInt8), l.length = m.length → bitsOf (xorL l m) = List.zipWith (· ^^ ·) (bitsOf l) (bitsOf m)
  | [], [], _ => rfl
  | c :: l, d :: m, h => by
    have ih := bitsOf_xor l m (by simpa using h)
    unfold xorL at ih ⊢
    rw [List.zipWith_cons_cons, bitsOf_cons, bitsOf_cons, bitsOf_cons, ih, cb_xor, List.zipWith_append (by rw [cb_length, cb_length])]
  | [], _ :: _, h => by simp at h
  | _ :: _, [], h => by simp at h
theorem crcS_xor (l m : List UInt8) (h : l.length = m.length) : crcS (xorL l m) = crcS l ^^^ crcS m := by
  rw [crcS_eq, crcS_eq, crcS_eq, bitsOf_xor l m h, ← crTn_xor]
  congr 1
  have := gf_xor (bitsOf l) (bitsOf m) 0#32 0#32 (by rw [bitsOf_length, bitsOf_length, h])
  rw [BitVec.xor_zero] at this
  exact this

theorem falses_of {ys : List Bool} (h : ∀ k, ys.getD k false = false) : ys = List.replicate ys.length false := by
  apply List.ext_getElem (by simp)
  intro i h1 h2
  have := h i
  rw [List.getD_eq_getElem?_getD, List.getElem?_eq_getElem h1] at this
  simpa using this
/-- A difference within 32 bits in a row, none elsewhere, is told. -/
theorem burst : ∀ (ys : List Bool) (f : Nat), (∀ k, k < f → ys.getD k false = false) → (∀ k, f + 32 ≤ k → ys.getD k false = false) → gf ys 0#32 = 0#32 → ∀ k, ys.getD k false = false
  | [], _, _, _, _ => fun k => by simp
  | false :: ys, f, hlo, hhi, h => by
    have h2 : gf ys 0#32 = 0#32 := by
      have e : crG 0#32 false = 0#32 := by decide
      have : gf (false :: ys) 0#32 = gf ys (crG 0#32 false) := rfl
      rw [this, e] at h
      exact h
    have ih := burst ys (f - 1) (fun k hk => by
      have := hlo (k + 1) (by omega)
      simpa using this) (fun k hk => by
      have := hhi (k + 1) (by omega)
      simpa using this) h2
    intro k
    rcases k with _ | k
    · rfl
    · have := ih k
      simpa using this
  | true :: ys, f, hlo, hhi, h => by
    have hf : f = 0 := by
      rcases f with _ | f
      · rfl
      · have := hlo 0 (by omega)
        simp at this
    subst hf
    have e1 : crG 0#32 true = 1#32 := by decide
    have h1 : gf (true :: ys) 0#32 = gf ys (crG 0#32 true) := rfl
    rw [h1, e1] at h
    have hd : ys.drop 31 = List.replicate (ys.drop 31).length false := falses_of fun k => by
      have := hhi (31 + k + 1) (by omega)
      rw [List.getD_eq_getElem?_getD, List.getElem?_drop]
      simpa using this
    have h3 : gf ys 1#32 = crTn (ys.drop 31).length (gf (ys.take 31) 1#32) := by
      rw [← gf_falses, ← hd, ← gf_append, List.take_append_drop]
    rw [h3] at h
    have h4 := crTn_some _ h
    exact absurd h4 (gf_small (ys.take 31) 1#32 1 (by rw [List.length_take]; omega) (by decide) (by decide))

/-- Bit k of a text, the highest of its first byte first. -/
def mb (l : List UInt8) (k : Nat) : Bool := (bitsOf l).getD k false
theorem mb_at : ∀ (l : List UInt8) (q j : Nat), j < 8 → mb l (8 * q + j) = (l.getD q 0).toNat.testBit (7 - j)
  | [], q, j, _ => by simp [mb, bitsOf]
  | c :: l, 0, j, hj => by
    unfold mb
    rw [bitsOf_cons, Nat.mul_zero, Nat.zero_add, List.getD_eq_getElem?_getD, List.getElem?_append_left (by rw [cb_length]; exact hj)]
    simp [cb, hj]
  | c :: l, q + 1, j, hj => by
    have ih := mb_at l q j hj
    unfold mb at ih ⊢
    rw [bitsOf_cons, List.getD_eq_getElem?_getD, List.getElem?_append_right (by rw [cb_length]; omega), cb_length, show 8 * (q + 1) + j - 8 = 8 * q + j from by omega, ← List.getD_eq_getElem?_getD, ih]
    simp
theorem mb_ext {l m : List UInt8} (hl : l.length = m.length) (h : ∀ k, mb l k = mb m k) : l = m := by
  apply List.ext_getElem hl
  intro q h1 h2
  apply UInt8.toNat_inj.1
  apply Nat.eq_of_testBit_eq
  intro i
  by_cases hi : i < 8
  · have := h (8 * q + (7 - i))
    rw [mb_at l q (7 - i) (by omega), mb_at m q (7 - i) (by omega), show 7 - (7 - i) = i from by omega] at this
    simpa [h1, h2] using this
  · have e1 : l[q].toNat.testBit i = false := Nat.testBit_lt_two_pow (Nat.lt_of_lt_of_le l[q].toNat_lt (Nat.pow_le_pow_right (by omega) (by omega)))
    have e2 : m[q].toNat.testBit i = false := Nat.testBit_lt_two_pow (Nat.lt_of_lt_of_le m[q].toNat_lt (Nat.pow_le_pow_right (by omega) (by omega)))
    rw [e1, e2]
theorem mb_xor {l m : List UInt8} (h : l.length = m.length) (k : Nat) : mb (xorL l m) k = (mb l k ^^ mb m k) := by
  unfold mb
  rw [bitsOf_xor l m h]
  have hlen : (bitsOf l).length = (bitsOf m).length := by rw [bitsOf_length, bitsOf_length, h]
  simp only [List.getD_eq_getElem?_getD, List.getElem?_zipWith]
  by_cases hk : k < (bitsOf l).length
  · rw [List.getElem?_eq_getElem hk, List.getElem?_eq_getElem (by omega)]
    simp
  · rw [List.getElem?_eq_none (by omega), List.getElem?_eq_none (by omega)]
    simp
/-- Two texts of one length behind the same beginning, that differ within 32 bits in a row alone, have one check only if they are the same. -/
theorem turned_told {p b c : List UInt8} {f : Nat} (hl : b.length = c.length) (hd : ∀ k, mb b k ≠ mb c k → f ≤ k ∧ k < f + 32) (h : crcS (p ++ b) = crcS (p ++ c)) : b = c := by
  have h1 := crcS_xor (p ++ b) (p ++ c) (by rw [List.length_append, List.length_append, hl])
  rw [h, BitVec.xor_self] at h1
  have h2 : xorL (p ++ b) (p ++ c) = List.replicate p.length 0 ++ xorL b c := by
    unfold xorL
    rw [List.zipWith_append rfl]
    congr 1
    apply List.ext_getElem (by simp)
    intro i h1 h2
    simp
  rw [h2, crcS_eq, bitsOf_append, gf_append] at h1
  have h3 := crTn_some 32 h1
  have hz : ∀ n, gf (bitsOf (List.replicate n 0)) 0#32 = 0#32 := fun n => by
    have e : bitsOf (List.replicate n 0) = List.replicate (bitsOf (List.replicate n 0)).length false := falses_of fun k => by
      have h8 : k = 8 * (k / 8) + k % 8 := by omega
      have := mb_at (List.replicate n 0) (k / 8) (k % 8) (by omega)
      rw [← h8] at this
      unfold mb at this
      rw [this, List.getD_eq_getElem?_getD, List.getElem?_replicate]
      split <;> simp
    rw [e, gf_falses, crTn_zero]
  rw [hz] at h3
  have h4 := burst (bitsOf (xorL b c)) f (fun k hk => by
    have := mb_xor hl k
    unfold mb at this
    rw [this]
    by_cases e : mb b k = mb c k
    · unfold mb at e
      rw [e]
      simp
    · have := hd k e
      omega) (fun k hk => by
    have := mb_xor hl k
    unfold mb at this
    rw [this]
    by_cases e : mb b k = mb c k
    · unfold mb at e
      rw [e]
      simp
    · have := hd k e
      omega) h3
  refine mb_ext hl fun k => ?_
  have h5 := mb_xor hl k
  have h6 : mb (xorL b c) k = false := h4 k
  rw [h6] at h5
  revert h5
  cases mb b k <;> cases mb c k <;> simp
end Go.Proofs.Ytpecdlafeelkoaa
