/-
  Texts as values: a string's bytes as a list. No function of the program.
-/
import Derived.Test.YtefngncieagobaaWords
import Derived.ChangeKeysEq
namespace Go.Proofs.Ytefngncieagobaa
open Go.RowKit

/-- The string of bytes, and a string's bytes. -/
def sb (l : List UInt8) : ByteArray := ⟨l.toArray⟩
def bs (s : ByteArray) : List UInt8 := s.data.toList
theorem sb_bs (s : ByteArray) : sb (bs s) = s := by unfold sb bs; rw [Array.toArray_toList]
theorem bs_sb (l : List UInt8) : bs (sb l) = l := rfl
theorem sb_size (l : List UInt8) : (sb l).size = l.length := by simp [sb, ByteArray.size]
theorem sb_inj {l m : List UInt8} (h : sb l = sb m) : l = m := by rw [← bs_sb l, h, bs_sb]
theorem sb_get (l : List UInt8) (j : Nat) (hj : j < l.length) : (sb l)[j]? = some (l.getD j 0) := by
  have hj2 : j < (sb l).size := by rw [sb_size]; exact hj
  simp [hj2, List.getD_eq_getElem?_getD, hj]
  rfl
theorem sb_toList (l : List UInt8) : (sb l).toList = l := by rw [ByteArray.toList_eq]; rfl
theorem sb_empty (l : List UInt8) : (sb l).toList.isEmpty = decide (l = []) := by
  rw [sb_toList]
  cases l <;> simp
theorem under_string : Try.prog.underlying 9 = some .string := by kernel_rfl
/-- A text's byte. -/
theorem str_index (l : List UInt8) (j : Nat) (hj : j < l.length) (i : Int) (hi : i = (j : Int)) {y : Int} (hy : ((l.getD j 0).toNat : Int) = y) (w : World) : (Instr.index 9 (.string (sb l)) (.int .i64 i)).run Try.prog w = .ok (.int .u8 y) w := by
  subst hi hy
  have e2 : 0 ≤ (j : Int) := by omega
  simp only [Instr.index, asIntOf, Sem.run_bind, run_underlying under_string, Sem.run_pure, Result.andThen_ok, e2, ↓reduceIte, Int.toNat_natCast, sb_get l j hj]
end Go.Proofs.Ytefngncieagobaa
