/-
  What tithingref13.Get has in memory while it reads: the result yet nought, the seal, the reader. Printed with genseget.py.
-/
import Derived.Test.YtifkkpfiejiojaaDoorSeMay
namespace Go.Proofs.YtifkkpfiejiojaaDoor
set_option maxRecDepth 20000
open Go.RowKit
theorem sel_pa (a : SeM) : sel a = [.int .i64 a.vi, .int .i64 a.ph, .int .i64 a.pv] ++ (bcells a.pa ++ []) := by rw [List.append_nil]; rfl
section
variable {ops : Array Oper} {rest : List Oper} {o : Oper} {ac : Act} {w : World} {Q : Exit → Act → World → Prop}
theorem wpList_store_seh (hgd : o.guard = none) (x y : Operand) (ho : o.op = .store 23 x y)
    {g : Nat} {a : SeM} {h : List UInt8} (hx : ac.eval x = .pointer (some ⟨g, 3, none⟩)) (hy : ac.eval y = .agg (hcells h)) (hg : BoxSe w g a) (hok : a.Ok) (hl : h.length = 32)
    (hh : ∀ w', w.grownBy w' (some g) → BoxSe w' g { a with pa := h } → w'.heap.size = w.heap.size → wpList Tryd.prog ops Q rest (ac.put o.dst undef) w') : wpList Tryd.prog ops Q (o :: rest) ac w := by
  unfold BoxSe sec at hg
  rw [sel_pa] at hg
  have hpl : a.pa.length = 32 := hok
  refine wpList_store_midh hgd x y ho hx hy hg rfl (by rw [bcells_length, hpl]) hl (fun w' h1 h2 h3 => hh w' h1 ?_ h3)
  unfold BoxSe sec
  rw [sel_pa]
  exact h2
end
theorem setSe_self {w : World} {g : Nat} {t : TypeId} {C : Array Value} {fr : Nat × Nat} (hg : w.heap[g]? = some (.cells C t fr)) : setSe w g C = w := by
  have e : ∀ f : Obj → Obj, f (.cells C t fr) = .cells C t fr → w.heap.modify g f = w.heap := by
    intro f hf
    apply Array.ext_getElem?
    intro k
    rw [Array.getElem?_modify]
    by_cases h : g = k
    · subst h
      rw [if_pos rfl, hg]
      simp [hf]
    · rw [if_neg h]
  unfold setSe World.setRow
  rw [e _ rfl]
theorem wp_store_se {op : Oper} {ac : Act} {w : World} {K : Act → World → Prop} {Q : Exit → Act → World → Prop} (x y : Operand) (ho : op.op = .store 25 x y) {g : Nat} {t : TypeId} {C0 C : Array Value}
    (hx : ac.eval x = .pointer (some ⟨g, 0, none⟩)) (hy : ac.eval y = .agg C) (hg : w.heap[g]? = some (.cells C0 t (0, 0))) (hi : C.size = 35) (hs : C0.size = 35) (h1 : C.all (·.oneCell') = true)
    (hh : ∀ w', w.grownBy w' (some g) → w'.heap[g]? = some (.cells C t (0, 0)) → w'.heap.size = w.heap.size → K (ac.put op.dst undef) w') : op.wp Tryd.prog ac w K Q := by
  refine wp_store_mid _ x y ho g 0 C hx hy (fun j hj => ⟨?_, free_blk hg _⟩) (by rw [size_se, hi]) h1 ?_
  · rw [cell_blk hg, Nat.zero_add, Array.getElem?_eq_getElem (by omega)]
    rfl
  · refine hh _ (grown_setCells g _ _ _) ?_ (setCells_size g _ _ _)
    have := setCells_row C.toList 0 w C0 hg
    have e := putAt_mid C.toList [] C0.toList [] (by rw [Array.length_toList, Array.length_toList, hi, hs])
    simp only [List.nil_append, List.append_nil, List.length_nil, Array.toArray_toList] at e
    rw [e] at this
    exact this
theorem results_se {fn : Func} {p q s : Tmp} (h : fn.results = #[.tmp p, .cell q 25, .tmp s]) (tmps : Array Value) (w : World) (g2 : Nat) (t2 : TypeId) (ys : Array Value) (u v : Value)
    (hu : tmps.getD p undef = u) (hq : tmps.getD q undef = .pointer (some ⟨g2, 0, none⟩)) (hv : tmps.getD s undef = v) (h2 : w.heap[g2]? = some (.cells ys t2 (0, 0))) (hy : ys.size = 35) :
    (results fn tmps).run Tryd.prog w = .ok (.tuple #[u, .agg ys, v]) w := by
  have hu' : tmps[p]?.getD undef = u := by simpa using hu
  have hq' : tmps[q]?.getD undef = .pointer (some ⟨g2, 0, none⟩) := by simpa using hq
  have hv' : tmps[s]?.getD undef = v := by simpa using hv
  have r2 := run_loadVar_row (P := Tryd.prog) w g2 t2 25 ys (0, 0) _ h2 under_se rfl (by rw [size_se, hy])
  simp [results, h, hu', hq', hv', asAddr, r2]
theorem getB_text {i : Int} {l : List UInt8} (h : textB l = false) : getB i l = (0, seZ, 2) := by
  unfold getB
  rw [h, if_neg (by decide)]
theorem getB_tag {i : Int} {l : List UInt8} (h : textB l = true) (h2 : ¬ (nodeB i = true ∧ (rawB l).2.2.1 = tagS i (rawB l).1 (rawB l).2.1)) : getB i l = (0, seZ, 7) := by
  unfold getB
  rw [if_pos h, if_neg h2]
theorem getB_yes {i : Int} {l : List UInt8} (h : textB l = true) (h2 : nodeB i = true ∧ (rawB l).2.2.1 = tagS i (rawB l).1 (rawB l).2.1) : getB i l = ((rawB l).1, (rawB l).2.1, 0) := by
  unfold getB
  rw [if_pos h, if_pos h2]
theorem textB_raw {l : List UInt8} {n : Int} {s : SeM} {t : List UInt8} {p : Nat} {r : Bool} (h : rawB l = (n, s, t, p, r)) : textB l = ((r && decide (p = l.length)) && (decide (1 ≤ n) && mayS s)) := by
  unfold textB
  rw [h]
structure GsSt (w0 w : World) (x0 x1 x2 : Value) (a : SeM) : Prop where
  bel : Below w0.heap.size w0 w
  b0 : BoxSe w w0.heap.size seZ
  b1 : BoxSe w (w0.heap.size + 1) a
  b2 : w.heap[w0.heap.size + 1 + 1]? = some (.cells #[x0, x1, x2] 54 (0, 0))
section
variable {w0 w w' : World} {x0 x1 x2 : Value} {a : SeM}
theorem GsSt.lt (h : GsSt w0 w x0 x1 x2 a) : w0.heap.size + 1 + 1 < w.heap.size := lt_of_block h.b2
theorem GsSt.below (h : GsSt w0 w x0 x1 x2 a) (hb : Below w.heap.size w w') : GsSt w0 w' x0 x1 x2 a := by
  have hlt := h.lt
  exact ⟨h.bel.trans (hb.mono h.bel.size), (hb.block _ (by omega)).trans h.b0, (hb.block _ (by omega)).trans h.b1, (hb.block _ (by omega)).trans h.b2⟩
theorem GsSt.new (w : World) (x0 x1 x2 : Value) :
    GsSt w (((w.alloc (.cells (sec seZ) 25)).alloc (.cells (sec seZ) 25)).alloc (.cells #[x0, x1, x2] 54)) x0 x1 x2 seZ := by
  refine ⟨(((Below.refl _ _).alloc (Nat.le_refl _) _).alloc (by simp) _).alloc (by simp <;> omega) _, ?_, ?_, ?_⟩
  · exact (Below.heap_alloc _ _ _ (by simp <;> omega)).trans (heap1 w _ _)
  · exact (Below.heap_alloc _ _ _ (by simp)).trans (heap2 w _ _)
  · have := heap2 (w.alloc (.cells (sec seZ) 25)) (.cells (sec seZ) 25) (.cells #[x0, x1, x2] 54)
    rwa [show (w.alloc (.cells (sec seZ) 25)).heap.size = w.heap.size + 1 from by simp] at this
theorem GsSt.put (h : GsSt w0 w x0 x1 x2 a) (y0 y1 y2 : Value) :
    GsSt w0 (((w.setCell ⟨w0.heap.size + 1 + 1, 0, none⟩ y0).setCell ⟨w0.heap.size + 1 + 1, 1, none⟩ y1).setCell ⟨w0.heap.size + 1 + 1, 2, none⟩ y2) y0 y1 y2 a := by
  refine ⟨((h.bel.setCell (by simp only; omega) _).setCell (by simp only; omega) _).setCell (by simp only; omega) _, ?_, ?_, ?_⟩
  · exact blk_other (blk_other (blk_other h.b0 y0 (by omega)) y1 (by omega)) y2 (by omega)
  · exact blk_other (blk_other (blk_other h.b1 y0 (by omega)) y1 (by omega)) y2 (by omega)
  · exact set_blk (set_blk (set_blk h.b2 0 y0) 1 y1) 2 y2
theorem GsSt.cell (h : GsSt w0 w x0 x1 x2 a) {b : SeM} {v : Value} (i : Nat) (e : (sec a).setIfInBounds i v = sec b) : GsSt w0 (w.setCell ⟨w0.heap.size + 1, i, none⟩ v) x0 x1 x2 b := by
  refine ⟨h.bel.setCell (by simp only; omega) _, blk_other h.b0 _ (by omega), ?_, blk_other h.b2 _ (by omega)⟩
  have := set_blk h.b1 i v
  rw [e] at this
  exact this
theorem GsSt.se (h : GsSt w0 w x0 x1 x2 a) {b : SeM} (hg : w.grownBy w' (some (w0.heap.size + 1))) (hb : BoxSe w' (w0.heap.size + 1) b) : GsSt w0 w' x0 x1 x2 b := by
  have hlt := h.lt
  refine ⟨h.bel.grown hg h.bel.size (fun k hk => by injection hk with hk; omega), ?_, hb, ?_⟩
  · exact (hg.block _ (by omega) (fun e => by injection e with e; omega)).trans h.b0
  · exact (hg.block _ (by omega) (fun e => by injection e with e; omega)).trans h.b2
theorem GsSt.cells (h : GsSt w0 w x0 x1 x2 a) :
    (w.cell? ⟨w0.heap.size + 1 + 1, 0, none⟩ = some x0 ∧ w.cell? ⟨w0.heap.size + 1 + 1, 1, none⟩ = some x1 ∧ w.cell? ⟨w0.heap.size + 1 + 1, 2, none⟩ = some x2) ∧
    (w.cell? ⟨w0.heap.size + 1, 0, none⟩ = some (.int .i64 a.vi) ∧ w.cell? ⟨w0.heap.size + 1, 1, none⟩ = some (.int .i64 a.ph) ∧ w.cell? ⟨w0.heap.size + 1, 2, none⟩ = some (.int .i64 a.pv)) ∧
    (∀ i, w.frozen? ⟨w0.heap.size + 1, i, none⟩ = false) ∧ (∀ i, w.frozen? ⟨w0.heap.size + 1 + 1, i, none⟩ = false) :=
  ⟨⟨cell_blk h.b2 0, cell_blk h.b2 1, cell_blk h.b2 2⟩, h.b1.cells, h.b1.free, free_blk h.b2⟩
end
theorem rdHash_plS {l : List UInt8} {p : Nat} {r : Bool} (hp : p ≤ l.length) : (rdHash l p r).2.1 ≤ l.length := by
  unfold rdHash
  split
  · exact hp
  · split
    · assumption
    · exact hp
end Go.Proofs.YtifkkpfiejiojaaDoor
