/-
  A text's bytes in new memory: the conversion of a string. No function of the program.
-/
import Derived.Test.YtefngncieagobaaStr
import Derived.Test.YtefngncieagobaaAppend
import Derived.Laws.IdiomStrings
namespace Go.Proofs.Ytefngncieagobaa
open Go.RowKit

theorem al_le (w : World) (o : Obj) : w.heap.size ≤ (w.alloc o).heap.size := by simp
/-- An empty row in a new block. -/
theorem fresh0_own (w : World) : Own w.heap.size (w.alloc (.cells #[] 5)) (.slice (some ⟨w.heap.size, 0, none⟩) 0 0) [] := World.ownsRow_made w #[] 0 (Nat.le_refl _) (Nat.zero_le _) rfl
theorem fresh0_below {w w2 : World} (hg : (w.alloc (.cells #[] 5)).grownBy w2 (Value.slice (some ⟨w.heap.size, 0, none⟩) 0 0).ownBlock) : Below w.heap.size w w2 :=
  ((Below.refl _ _).alloc (Nat.le_refl _) _).grown hg (by simp) (fun k hk => (World.ownsRow.lt (fresh0_own w) k hk).1)
theorem run_bs (l : List UInt8) (w : World) (hl : l.length ≤ maxLen) : ∃ v w', (convert 9 22 (.string (sb l))).run Try.prog w = .ok v w' ∧ Byt w' v l ∧ Below w.heap.size w w' := by
  refine ⟨_, _, run_bytes_of_string w 9 22 5 (sb l) under_string under_bytes (by kernel_rfl), ?_, ((Below.refl _ _).drew).alloc (Nat.le_refl _) _⟩
  rw [sb_size]
  refine ⟨_, _, rfl, grownCap_ge _ _ _ _, grownCap_le_maxLen _ _ _ _ hl, fun h0 => ⟨w.heap.size, 0, rfl, by simp, fun j hj => ?_⟩⟩
  have hb := heap_alloc_new w.drew (.cells (bytesRow (sb l) (grownCap w l.length 0 5)) 5 ((bytesRow (sb l) (grownCap w l.length 0 5)).size, (bytesRow (sb l) (grownCap w l.length 0 5)).size + 1))
  rw [Nat.zero_add]
  refine (cell_of_row _ _ _ _ _ _ hb).trans ?_
  unfold bytesRow
  rw [Array.getElem?_append_left (by simp [sb]; exact hj)]
  simp [sb, hj, bcell]
end Go.Proofs.Ytefngncieagobaa
