/-
  The check's steps as numbers: how the program and the document's answer reckon them.
-/
import Derived.Test.YtpecdlafeelkoaaCrcBits
namespace Go.Proofs.Ytpecdlafeelkoaa

theorem crT_nat (r : BitVec 32) : (crT r).toNat = if 2147483648 ≤ r.toNat then (2 * r.toNat - 4294967296) ^^^ 2168537515 else 2 * r.toNat := by
  have hr := r.isLt
  have hs : (r <<< 1).toNat = 2 * r.toNat % 4294967296 := by
    rw [BitVec.toNat_shiftLeft, Nat.shiftLeft_eq]
    omega
  have hm : r.msb = decide (2147483648 ≤ r.toNat) := by
    rw [BitVec.msb_eq_decide]
  unfold crT
  rw [hm]
  by_cases h : 2147483648 ≤ r.toNat
  · rw [if_pos h, if_pos (by simpa using h), BitVec.toNat_xor, hs]
    have e : 2 * r.toNat % 4294967296 = 2 * r.toNat - 4294967296 := by omega
    rw [e]
    rfl
  · rw [if_neg h, if_neg (by simpa using h), BitVec.xor_zero, hs]
    omega
theorem xor_bit (n m : Nat) : n * 2 ^^^ m ^^^ 1 = (n * 2 + 1) ^^^ m := by
  rw [Nat.xor_assoc, Nat.xor_comm m 1, ← Nat.xor_assoc, xor_odd]
/-- With a bit: doubled, the bit added, and what goes over 32 bits divided out. -/
theorem crG_nat (r : BitVec 32) (b : Bool) : (crG r b).toNat = if 4294967296 ≤ 2 * r.toNat + b.toNat then (2 * r.toNat + b.toNat - 4294967296) ^^^ 2168537515 else 2 * r.toNat + b.toNat := by
  have hr := r.isLt
  unfold crG bit1
  rw [BitVec.toNat_xor, crT_nat]
  cases b
  · simp only [Bool.toNat_false, Nat.add_zero, Bool.false_eq_true, if_false]
    have e : (0#32).toNat = 0 := rfl
    rw [e, Nat.xor_zero]
    by_cases h : 2147483648 ≤ r.toNat
    · rw [if_pos h, if_pos (by omega)]
    · rw [if_neg h, if_neg (by omega)]
  · simp only [Bool.toNat_true, if_true]
    have e : (1#32).toNat = 1 := rfl
    rw [e]
    by_cases h : 2147483648 ≤ r.toNat
    · rw [if_pos h, if_pos (by omega), show 2 * r.toNat - 4294967296 = (r.toNat - 2147483648) * 2 from by omega, xor_bit, show 2 * r.toNat + 1 - 4294967296 = (r.toNat - 2147483648) * 2 + 1 from by omega]
    · rw [if_neg h, if_neg (by omega), Nat.mul_comm, xor_odd]
/-- The known check. -/
theorem crc_known : (crcS [49, 50, 51, 52, 53, 54, 55, 56, 57]).toNat = 0x3010bf7f := by decide +kernel
end Go.Proofs.Ytpecdlafeelkoaa
