/-
  A check of 32 bits xs a division of bits: it is linear, and a difference within 32 bits in a row is told. Plain mathematics; no function of the program.
-/
import Derived.Test.YtpecdlafeelkoaaRows
namespace Go.Proofs.Ytpecdlafeelkoaa

theorem bv_left (x y z : BitVec 32) : x ^^^ (y ^^^ z) = y ^^^ (x ^^^ z) := by rw [← BitVec.xor_assoc, BitVec.xor_comm x y, BitVec.xor_assoc]
theorem bv_twice (x y : BitVec 32) : x ^^^ (x ^^^ y) = y := by rw [← BitVec.xor_assoc, BitVec.xor_self, BitVec.zero_xor]
theorem xor_odd (n : Nat) : n * 2 ^^^ 1 = n * 2 + 1 := by
  have h1 : (n * 2 ^^^ 1) / 2 = n := by
    rw [Nat.xor_div_two, Nat.mul_div_cancel _ (by omega)]
    simp
  have h2 : (n * 2 ^^^ 1) % 2 = 1 := by
    rw [Nat.xor_mod_two_eq_one]
    omega
  omega

def crP : BitVec 32 := 0x814141AB#32
/-- One step without a bit. -/
def crT (r : BitVec 32) : BitVec 32 := (r <<< 1) ^^^ (if r.msb then crP else 0#32)
def crTn : Nat → BitVec 32 → BitVec 32
  | 0, r => r
  | n + 1, r => crT (crTn n r)
theorem crTn_add (m : Nat) (r : BitVec 32) : ∀ n, crTn (n + m) r = crTn n (crTn m r)
  | 0 => by rw [Nat.zero_add]; rfl
  | n + 1 => by
    rw [show n + 1 + m = (n + m) + 1 from by omega]
    unfold crTn
    rw [crTn_add m r n]
theorem crT_xor (r s : BitVec 32) : crT (r ^^^ s) = crT r ^^^ crT s := by
  unfold crT
  rw [BitVec.shiftLeft_xor_distrib, BitVec.msb_xor]
  cases r.msb <;> cases s.msb <;> simp [BitVec.xor_assoc, bv_left crP]
  exact BitVec.xor_comm _ _
theorem crT_zero : crT 0#32 = 0#32 := by decide
theorem crTn_zero : ∀ n, crTn n 0#32 = 0#32
  | 0 => rfl
  | n + 1 => by
    unfold crTn
    rw [crTn_zero n, crT_zero]
theorem crTn_xor (r s : BitVec 32) : ∀ n, crTn n (r ^^^ s) = crTn n r ^^^ crTn n s
  | 0 => rfl
  | n + 1 => by
    unfold crTn
    rw [crTn_xor r s n, crT_xor]
theorem crT_some {r : BitVec 32} (h : crT r = 0#32) : r = 0#32 := by
  unfold crT at h
  by_cases hm : r.msb = true
  · rw [hm] at h
    have h0 := congrArg (fun x : BitVec 32 => x.getLsbD 0) h
    simp [crP] at h0
  · have hm2 : r.msb = false := by simpa using hm
    rw [hm2] at h
    have h1 : r <<< 1 = 0#32 := by simpa using h
    apply BitVec.eq_of_getLsbD_eq
    intro i hi
    by_cases h31 : i = 31
    · subst h31
      have : r.msb = r.getLsbD 31 := by simp [BitVec.msb_eq_getLsbD_last]
      rw [← this, hm2]
      rfl
    · have h2 := congrArg (fun x : BitVec 32 => x.getLsbD (i + 1)) h1
      have hi2 : i + 1 < 32 := by omega
      simp [hi2] at h2
      simpa [BitVec.getLsbD_eq_getElem hi] using h2
theorem crTn_some {r : BitVec 32} : ∀ n, crTn n r = 0#32 → r = 0#32
  | 0, h => h
  | n + 1, h => crTn_some n (crT_some h)

/-- One step with a bit. -/
def bit1 (b : Bool) : BitVec 32 := if b then 1#32 else 0#32
def crG (r : BitVec 32) (b : Bool) : BitVec 32 := crT r ^^^ bit1 b
def gf (ys : List Bool) (r : BitVec 32) : BitVec 32 := ys.foldl crG r
theorem gf_append (xs ys : List Bool) (r : BitVec 32) : gf (xs ++ ys) r = gf ys (gf xs r) := by
  unfold gf
  rw [List.foldl_append]
theorem bit1_xor (a b : Bool) : bit1 (a ^^ b) = bit1 a ^^^ bit1 b := by cases a <;> cases b <;> rfl
theorem crG_xor (r s : BitVec 32) (a b : Bool) : crG (r ^^^ s) (a ^^ b) = crG r a ^^^ crG s b := by
  unfold crG
  rw [crT_xor, bit1_xor]
  rw [BitVec.xor_assoc, BitVec.xor_assoc, bv_left (crT s)]
theorem gf_xor : ∀ (xs ys : List Bool) (r s : BitVec 32), xs.length = ys.length → gf (List.zipWith (· ^^ ·) xs ys) (r ^^^ s) = gf xs r ^^^ gf ys s
  | [], [], _, _, _ => rfl
  | a :: xs, b :: ys, r, s, h => by
    show gf (List.zipWith (· ^^ ·) xs ys) (crG (r ^^^ s) (a ^^ b)) = gf xs (crG r a) ^^^ gf ys (crG s b)
    rw [crG_xor, gf_xor xs ys _ _ (by simpa using h)]
  | [], _ :: _, _, _, h => by simp at h
  | _ :: _, [], _, _, h => by simp at h
theorem gf_falses (n : Nat) (r : BitVec 32) : gf (List.replicate n false) r = crTn n r := by
  induction n with
  | zero => rfl
  | succ n ih =>
    rw [List.replicate_succ', gf_append, ih]
    show crT (crTn n r) ^^^ 0#32 = crT (crTn n r)
    simp
/-- Bits that begin at nought leave their own number, up to 32. -/
theorem gf_small : ∀ (ys : List Bool) (r : BitVec 32) (j : Nat), ys.length + j ≤ 32 → r.toNat < 2 ^ j → 0 < r.toNat → gf ys r ≠ 0#32
  | [], r, j, _, _, h0 => fun e => by
    have : r = 0#32 := e
    rw [this] at h0
    simp at h0
  | b :: ys, r, j, hl, hr, h0 => by
    have hj : j ≤ 31 := by simp at hl; omega
    have hp : 2 ^ j ≤ 2 ^ 31 := Nat.pow_le_pow_right (by omega) hj
    have hm : r.msb = false := by
      rw [BitVec.msb_eq_decide]
      simp
      omega
    have hT : (crT r).toNat = 2 * r.toNat := by
      unfold crT
      rw [hm]
      simp [BitVec.toNat_shiftLeft, Nat.shiftLeft_eq]
      omega
    have hG : (crG r b).toNat = 2 * r.toNat + (if b then 1 else 0) := by
      unfold crG bit1
      rw [BitVec.toNat_xor, hT]
      cases b
      · simp
      · simp only [if_true]
        have e1 : (1#32).toNat = 1 := rfl
        rw [e1, Nat.mul_comm, xor_odd]
    show gf ys (crG r b) ≠ 0#32
    refine gf_small ys (crG r b) (j + 1) (by simp at hl; omega) ?_ ?_
    · rw [hG, Nat.pow_succ]
      split <;> omega
    · rw [hG]
      omega
end Go.Proofs.Ytpecdlafeelkoaa
