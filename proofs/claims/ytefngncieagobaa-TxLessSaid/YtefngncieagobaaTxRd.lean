/-
  What tithingref06.Read has in memory while it reads: the reader, the results, the transaction.
-/
import Derived.Test.YtefngncieagobaaTxMay
import Derived.Test.YtefngncieagobaaRefUpto
import Derived.Test.YtefngncieagobaaRefText
namespace Go.Proofs.Ytefngncieagobaa
open Go.RowKit

theorem blk_other {w : World} {g b i : Nat} {o : Obj} (h : w.heap[g]? = some o) (u : Value) (hne : g ≠ b) : (w.setCell ⟨b, i, none⟩ u).heap[g]? = some o := by
  rw [Below.heap_setCell w _ u g (fun e => hne e)]
  exact h
def zeroTx : Array Value := #[.int .i64 0, .int .i64 0, .int .i64 0, .int .i64 0, .int .i64 0, .string { data := #[] }, .string { data := #[] }]
/-- Blocks b .. b + 3: the reader x, the two results yet nought, the transaction t. -/
structure RdSt (w0 w : World) (x0 x1 x2 : Value) (t : Array Value) : Prop where
  bel : Below w0.heap.size w0 w
  b0 : w.heap[w0.heap.size]? = some (.cells #[x0, x1, x2] 31 (0, 0))
  b1 : w.heap[w0.heap.size + 1]? = some (.cells #[.slice none 0 0, .int .i64 0, .bool false] 31 (0, 0))
  b2 : w.heap[w0.heap.size + 1 + 1]? = some (.cells zeroTx 27 (0, 0))
  b3 : w.heap[w0.heap.size + 1 + 1 + 1]? = some (.cells t 27 (0, 0))
theorem RdSt.lt {w0 w : World} {x0 x1 x2 : Value} {t : Array Value} (h : RdSt w0 w x0 x1 x2 t) : w0.heap.size + 1 + 1 + 1 < w.heap.size := lt_of_block h.b3
theorem RdSt.below {w0 w w' : World} {x0 x1 x2 : Value} {t : Array Value} (h : RdSt w0 w x0 x1 x2 t) (hb : Below w.heap.size w w') : RdSt w0 w' x0 x1 x2 t := by
  have hlt := h.lt
  exact ⟨h.bel.trans (hb.mono h.bel.size), (hb.block _ (by omega)).trans h.b0, (hb.block _ (by omega)).trans h.b1, (hb.block _ (by omega)).trans h.b2, (hb.block _ hlt).trans h.b3⟩
theorem RdSt.new (w : World) (x0 x1 x2 : Value) : RdSt w ((((w.alloc (.cells #[x0, x1, x2] 31)).alloc (.cells #[.slice none 0 0, .int .i64 0, .bool false] 31)).alloc (.cells zeroTx 27)).alloc (.cells zeroTx 27)) x0 x1 x2 zeroTx := by
  refine ⟨((((Below.refl _ _).alloc (Nat.le_refl _) _).alloc (by simp) _).alloc (by simp <;> omega) _).alloc (by simp <;> omega) _, ?_, ?_, ?_, ?_⟩
  · rw [Below.heap_alloc _ _ _ (by simp <;> omega), Below.heap_alloc _ _ _ (by simp <;> omega), Below.heap_alloc _ _ _ (by simp), heap_alloc_new]
  · rw [Below.heap_alloc _ _ _ (by simp <;> omega), Below.heap_alloc _ _ _ (by simp)]
    exact heap_alloc2_new w _ _
  · rw [Below.heap_alloc _ _ _ (by simp)]
    have := heap_alloc2_new (w.alloc (.cells #[x0, x1, x2] 31)) (.cells #[.slice none 0 0, .int .i64 0, .bool false] 31) (.cells zeroTx 27)
    simpa using this
  · have := heap_alloc2_new ((w.alloc (.cells #[x0, x1, x2] 31)).alloc (.cells #[.slice none 0 0, .int .i64 0, .bool false] 31)) (.cells zeroTx 27) (.cells zeroTx 27)
    simpa using this
theorem RdSt.put {w0 w : World} {x0 x1 x2 : Value} {t : Array Value} (h : RdSt w0 w x0 x1 x2 t) (y0 y1 y2 : Value) :
    RdSt w0 (((w.setCell ⟨w0.heap.size, 0, none⟩ y0).setCell ⟨w0.heap.size, 1, none⟩ y1).setCell ⟨w0.heap.size, 2, none⟩ y2) y0 y1 y2 t := by
  refine ⟨((h.bel.setCell (Nat.le_refl _) _).setCell (Nat.le_refl _) _).setCell (Nat.le_refl _) _, ?_, ?_, ?_, ?_⟩
  · exact set_blk (set_blk (set_blk h.b0 0 y0) 1 y1) 2 y2
  · exact blk_other (blk_other (blk_other h.b1 y0 (by omega)) y1 (by omega)) y2 (by omega)
  · exact blk_other (blk_other (blk_other h.b2 y0 (by omega)) y1 (by omega)) y2 (by omega)
  · exact blk_other (blk_other (blk_other h.b3 y0 (by omega)) y1 (by omega)) y2 (by omega)
theorem RdSt.tx {w0 w : World} {x0 x1 x2 : Value} {t : Array Value} (h : RdSt w0 w x0 x1 x2 t) (i : Nat) (u : Value) :
    RdSt w0 (w.setCell ⟨w0.heap.size + 1 + 1 + 1, i, none⟩ u) x0 x1 x2 (t.setIfInBounds i u) := by
  refine ⟨h.bel.setCell (by simp only; omega) _, ?_, ?_, ?_, set_blk h.b3 i u⟩
  · exact blk_other h.b0 u (by omega)
  · exact blk_other h.b1 u (by omega)
  · exact blk_other h.b2 u (by omega)
/-- The cells, and that none is fixed. -/
theorem RdSt.cells {w0 w : World} {x0 x1 x2 t0 t1 t2 t3 t4 t5 t6 : Value} (h : RdSt w0 w x0 x1 x2 #[t0, t1, t2, t3, t4, t5, t6]) :
    (w.cell? ⟨w0.heap.size, 0, none⟩ = some x0 ∧ w.cell? ⟨w0.heap.size, 1, none⟩ = some x1 ∧ w.cell? ⟨w0.heap.size, 2, none⟩ = some x2) ∧
    (w.cell? ⟨w0.heap.size + 1 + 1 + 1, 0, none⟩ = some t0 ∧ w.cell? ⟨w0.heap.size + 1 + 1 + 1, 1, none⟩ = some t1 ∧ w.cell? ⟨w0.heap.size + 1 + 1 + 1, 2, none⟩ = some t2 ∧ w.cell? ⟨w0.heap.size + 1 + 1 + 1, 3, none⟩ = some t3 ∧ w.cell? ⟨w0.heap.size + 1 + 1 + 1, 4, none⟩ = some t4 ∧ w.cell? ⟨w0.heap.size + 1 + 1 + 1, 5, none⟩ = some t5 ∧ w.cell? ⟨w0.heap.size + 1 + 1 + 1, 6, none⟩ = some t6) ∧
    (∀ i, w.frozen? ⟨w0.heap.size, i, none⟩ = false) ∧ (∀ i, w.frozen? ⟨w0.heap.size + 1, i, none⟩ = false) ∧ (∀ i, w.frozen? ⟨w0.heap.size + 1 + 1, i, none⟩ = false) ∧ (∀ i, w.frozen? ⟨w0.heap.size + 1 + 1 + 1, i, none⟩ = false) :=
  ⟨⟨cell_blk h.b0 0, cell_blk h.b0 1, cell_blk h.b0 2⟩, ⟨cell_blk h.b3 0, cell_blk h.b3 1, cell_blk h.b3 2, cell_blk h.b3 3, cell_blk h.b3 4, cell_blk h.b3 5, cell_blk h.b3 6⟩, free_blk h.b0, free_blk h.b1, free_blk h.b2, free_blk h.b3⟩
/-- The cells of the results. -/
theorem RdSt.cells2 {w0 w : World} {x0 x1 x2 : Value} {t : Array Value} (h : RdSt w0 w x0 x1 x2 t) :
    (w.cell? ⟨w0.heap.size + 1, 0, none⟩ = some (.slice none 0 0) ∧ w.cell? ⟨w0.heap.size + 1, 1, none⟩ = some (.int .i64 0) ∧ w.cell? ⟨w0.heap.size + 1, 2, none⟩ = some (.bool false)) ∧
    (w.cell? ⟨w0.heap.size + 1 + 1, 0, none⟩ = some (.int .i64 0) ∧ w.cell? ⟨w0.heap.size + 1 + 1, 1, none⟩ = some (.int .i64 0) ∧ w.cell? ⟨w0.heap.size + 1 + 1, 2, none⟩ = some (.int .i64 0) ∧ w.cell? ⟨w0.heap.size + 1 + 1, 3, none⟩ = some (.int .i64 0) ∧ w.cell? ⟨w0.heap.size + 1 + 1, 4, none⟩ = some (.int .i64 0) ∧ w.cell? ⟨w0.heap.size + 1 + 1, 5, none⟩ = some (.string { data := #[] }) ∧ w.cell? ⟨w0.heap.size + 1 + 1, 6, none⟩ = some (.string { data := #[] })) :=
  ⟨⟨cell_blk h.b1 0, cell_blk h.b1 1, cell_blk h.b1 2⟩, ⟨cell_blk h.b2 0, cell_blk h.b2 1, cell_blk h.b2 2, cell_blk h.b2 3, cell_blk h.b2 4, cell_blk h.b2 5, cell_blk h.b2 6⟩⟩

theorem rdNum_pl {m : Nat} {l : List UInt8} {p : Nat} {r : Bool} (hp : p ≤ l.length) : (rdNum m l p r).2.1 ≤ l.length := by
  cases r with
  | false => rw [rdNum_bad]; exact hp
  | true =>
    cases hf : frst (l.drop p) with
    | none => rw [rdNum_no hf]; exact hp
    | some k =>
      by_cases hk : k ≤ m
      · rw [rdNum_yes hf hk]
        obtain ⟨_, x, hx⟩ := frst_some hf
        have := drop_len hx.symm (dg_pos k)
        simp only
        omega
      · rw [rdNum_big hf hk]; exact hp
theorem rdUpto_pl {m : Int} {l : List UInt8} {p : Nat} {r : Bool} (hp : p ≤ l.length) : (rdUpto m l p r).2.1 ≤ l.length := by
  unfold rdUpto
  split
  · exact hp
  · exact rdNum_pl hp
theorem rdUpto_le {m : Nat} {l : List UInt8} {p : Nat} {r : Bool} : (rdUpto (m : Int) l p r).1 ≤ m := by
  unfold rdUpto
  split
  · exact Nat.zero_le _
  · exact rdNum_le
theorem rdText_pl {l : List UInt8} {p : Nat} {r : Bool} (hp : p ≤ l.length) : (rdText l p r).2.1 ≤ l.length ∧ (rdText l p r).1.length ≤ 65536 := by
  cases r with
  | false => rw [rdText_bad]; exact ⟨hp, by simp⟩
  | true =>
    cases hf : frst (l.drop p) with
    | none => rw [rdText_no hf]; exact ⟨hp, by simp⟩
    | some k =>
      by_cases hk : k ≤ 65536 ∧ p + (dg k).length + k ≤ l.length
      · rw [rdText_yes hf hk.1 hk.2]
        refine ⟨hk.2, ?_⟩
        simp only [List.length_take]
        omega
      · rw [rdText_big hf hk]; exact ⟨hp, by simp⟩
end Go.Proofs.Ytefngncieagobaa
