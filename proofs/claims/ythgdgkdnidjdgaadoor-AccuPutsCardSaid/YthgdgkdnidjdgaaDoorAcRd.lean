/-
  What tithingref10.Read has in memory while it reads: the reader, the results yet nought, the accumulation.
-/
import Derived.Test.YthgdgkdnidjdgaaDoorAcMay
import Derived.Test.YthgdgkdnidjdgaaDoorBs6
namespace Go.Proofs.YthgdgkdnidjdgaaDoor
set_option maxRecDepth 20000
open Go.RowKit

/-- Blocks B .. B + 3: the reader, the results yet nought, the accumulation. -/
structure AxSt (w0 w : World) (x0 x1 x2 : Value) (a : AcM) (s : Value) : Prop where
  bel : Below w0.heap.size w0 w
  b0 : w.heap[w0.heap.size]? = some (.cells #[x0, x1, x2] 46 (0, 0))
  b1 : w.heap[w0.heap.size + 1]? = some (.cells #[.slice none 0 0, .int .i64 0, .bool false] 46 (0, 0))
  b2 : BoxX w (w0.heap.size + 1 + 1) acZ (.slice none 0 0)
  b3 : BoxX w (w0.heap.size + 1 + 1 + 1) a s
section
variable {w0 w w' : World} {x0 x1 x2 s : Value} {a : AcM}
theorem AxSt.lt (h : AxSt w0 w x0 x1 x2 a s) : w0.heap.size + 1 + 1 + 1 < w.heap.size := lt_of_block h.b3
theorem AxSt.below (h : AxSt w0 w x0 x1 x2 a s) (hb : Below w.heap.size w w') : AxSt w0 w' x0 x1 x2 a s := by
  have hlt := h.lt
  exact ⟨h.bel.trans (hb.mono h.bel.size), (hb.block _ (by omega)).trans h.b0, (hb.block _ (by omega)).trans h.b1, (hb.block _ (by omega)).trans h.b2, (hb.block _ hlt).trans h.b3⟩
theorem AxSt.new (w : World) (x0 x1 x2 : Value) :
    AxSt w ((((w.alloc (.cells #[x0, x1, x2] 46)).alloc (.cells #[.slice none 0 0, .int .i64 0, .bool false] 46)).alloc (.cells (axc acZ (.slice none 0 0)) 30)).alloc (.cells (axc acZ (.slice none 0 0)) 30)) x0 x1 x2 acZ (.slice none 0 0) :=
  ⟨four_below _ _ _ _ _, four_0 _ _ _ _ _, four_1 _ _ _ _ _, four_2 _ _ _ _ _, four_3 _ _ _ _ _⟩
theorem AxSt.put (h : AxSt w0 w x0 x1 x2 a s) (y0 y1 y2 : Value) :
    AxSt w0 (((w.setCell ⟨w0.heap.size, 0, none⟩ y0).setCell ⟨w0.heap.size, 1, none⟩ y1).setCell ⟨w0.heap.size, 2, none⟩ y2) y0 y1 y2 a s := by
  refine ⟨((h.bel.setCell (Nat.le_refl _) _).setCell (Nat.le_refl _) _).setCell (Nat.le_refl _) _, ?_, ?_, ?_, ?_⟩
  · exact set_blk (set_blk (set_blk h.b0 0 y0) 1 y1) 2 y2
  · exact blk_other (blk_other (blk_other h.b1 y0 (by omega)) y1 (by omega)) y2 (by omega)
  · exact blk_other (blk_other (blk_other h.b2 y0 (by omega)) y1 (by omega)) y2 (by omega)
  · exact blk_other (blk_other (blk_other h.b3 y0 (by omega)) y1 (by omega)) y2 (by omega)
theorem AxSt.cell (h : AxSt w0 w x0 x1 x2 a s) {b : AcM} {v t : Value} (i : Nat) (e : (axc a s).setIfInBounds i v = axc b t) : AxSt w0 (w.setCell ⟨w0.heap.size + 1 + 1 + 1, i, none⟩ v) x0 x1 x2 b t := by
  refine ⟨h.bel.setCell (by simp only; omega) _, blk_other h.b0 _ (by omega), blk_other h.b1 _ (by omega), blk_other h.b2 _ (by omega), ?_⟩
  have := set_blk h.b3 i v
  rw [e] at this
  exact this
theorem AxSt.far (h : AxSt w0 w x0 x1 x2 a s) {g : Nat} (hg : w0.heap.size + 1 + 1 + 1 < g) (i : Nat) (v : Value) : AxSt w0 (w.setCell ⟨g, i, none⟩ v) x0 x1 x2 a s :=
  ⟨h.bel.setCell (by simp only; omega) _, blk_other h.b0 _ (by omega), blk_other h.b1 _ (by omega), blk_other h.b2 _ (by omega), blk_other h.b3 _ (by omega)⟩
theorem AxSt.grown (h : AxSt w0 w x0 x1 x2 a s) {g : Option Nat} (hg : w.grownBy w' g) (hB : ∀ k, g = some k → w0.heap.size + 1 + 1 + 1 < k) : AxSt w0 w' x0 x1 x2 a s := by
  have hlt := h.lt
  refine ⟨h.bel.grown hg h.bel.size (fun k hk => by have := hB k hk; omega), ?_, ?_, ?_, ?_⟩
  · exact (hg.block _ (by omega) (fun e => by have := hB _ e.symm; omega)).trans h.b0
  · exact (hg.block _ (by omega) (fun e => by have := hB _ e.symm; omega)).trans h.b1
  · exact (hg.block _ (by omega) (fun e => by have := hB _ e.symm; omega)).trans h.b2
  · exact (hg.block _ hlt (fun e => by have := hB _ e.symm; omega)).trans h.b3
theorem AxSt.att (h : AxSt w0 w x0 x1 x2 a s) {b : AcM} {v : Value} (hg : w.grownBy w' (some (w0.heap.size + 1 + 1 + 1))) (hb : BoxX w' (w0.heap.size + 1 + 1 + 1) b v) : AxSt w0 w' x0 x1 x2 b v := by
  have hlt := h.lt
  refine ⟨h.bel.grown hg h.bel.size (fun k hk => by injection hk with hk; omega), ?_, ?_, ?_, hb⟩
  · exact (hg.block _ (by omega) (fun e => by injection e with e; omega)).trans h.b0
  · exact (hg.block _ (by omega) (fun e => by injection e with e; omega)).trans h.b1
  · exact (hg.block _ (by omega) (fun e => by injection e with e; omega)).trans h.b2
/-- The cells, and that none is fixed. -/
theorem AxSt.cells (h : AxSt w0 w x0 x1 x2 a s) (ho : a.Ok) :
    (w.cell? ⟨w0.heap.size, 0, none⟩ = some x0 ∧ w.cell? ⟨w0.heap.size, 1, none⟩ = some x1 ∧ w.cell? ⟨w0.heap.size, 2, none⟩ = some x2) ∧
    (w.cell? ⟨w0.heap.size + 1 + 1 + 1, 0, none⟩ = some (.int .i64 a.bo) ∧ w.cell? ⟨w0.heap.size + 1 + 1 + 1, 1, none⟩ = some (.int .i64 a.vi) ∧ w.cell? ⟨w0.heap.size + 1 + 1 + 1, 2, none⟩ = some (.int .i64 a.pv) ∧ w.cell? ⟨w0.heap.size + 1 + 1 + 1, 35, none⟩ = some s) ∧
    (∀ i, w.frozen? ⟨w0.heap.size, i, none⟩ = false) ∧ (∀ i, w.frozen? ⟨w0.heap.size + 1 + 1 + 1, i, none⟩ = false) :=
  ⟨⟨cell_blk h.b0 0, cell_blk h.b0 1, cell_blk h.b0 2⟩, ⟨h.b3.ints.1, h.b3.ints.2.1, h.b3.ints.2.2, h.b3.fr ho⟩, free_blk h.b0, h.b3.free⟩
end
end Go.Proofs.YthgdgkdnidjdgaaDoor
