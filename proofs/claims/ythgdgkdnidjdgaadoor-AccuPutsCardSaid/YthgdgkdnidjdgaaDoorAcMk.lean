/-
  What tithingref10.Make has in memory while it makes an accumulation. An accumulation of two numbers, built whole. The attestations of a slice, as they are read.
-/
import Derived.Test.YthgdgkdnidjdgaaDoorAcWords
import Derived.Test.YthgdgkdnidjdgaaDoorBs7
namespace Go.Proofs.YthgdgkdnidjdgaaDoor
set_option maxRecDepth 20000
open Go.RowKit

/-- An accumulation of who, and a view. -/
noncomputable def buildAx2 (u v : Value) (w : World) : Result Next := Sem.run Tryd.prog (execOp (fun x => match x with
  | .tmp 0 => u
  | _ => v) { dst := none, op := .build 30 #[(0, .tmp 0), (1, .tmp 1)], type := 0, pos := "", after := #[], guard := none }) w
theorem exec_build_ax2 (r : Operand → Value) (x y : Operand) (dst : Option Tmp) (ty : TypeId) (pos : String) (after : Array Edge) (guard : Option (Nat × Bool)) (w : World) :
    Sem.run Tryd.prog (execOp r { dst := dst, op := .build 30 #[(0, x), (1, y)], type := ty, pos := pos, after := after, guard := guard }) w = buildAx2 (r x) (r y) w := by
  unfold buildAx2 execOp
  simp
theorem buildAx2_eq (b vi : Int) (w : World) : buildAx2 (.int .i64 b) (.int .i64 vi) w = .ok (.value (.agg (axc ⟨b, vi, 0, z32, [], z32⟩ (.slice none 0 0)))) w := by
  unfold buildAx2
  go_simp
  rfl

/-- Block B: the result yet nought; block g: the accumulation. -/
structure MkSx (w0 w : World) (g : Nat) (a : AcM) (s : Value) : Prop where
  bel : Below w0.heap.size w0 w
  b0 : BoxX w w0.heap.size acZ (.slice none 0 0)
  lt : w0.heap.size < g
  b1 : BoxX w g a s
section
variable {w0 w w' : World} {g : Nat} {a : AcM} {s : Value}
theorem MkSx.below (h : MkSx w0 w g a s) (hb : Below w.heap.size w w') : MkSx w0 w' g a s :=
  ⟨h.bel.trans (hb.mono h.bel.size), (hb.block _ h.b0.lt).trans h.b0, h.lt, (hb.block _ h.b1.lt).trans h.b1⟩
theorem MkSx.app (h : MkSx w0 w g a s) {T : TypeId} {L : List Int} (ho : OwnE icl 1 T (g + 1) w s L) (hg : w.grownBy w' s.ownBlock) : MkSx w0 w' g a s := by
  have hlt := h.lt
  have hne : ∀ k, k ≤ g → some k ≠ s.ownBlock := fun k hk e => by
    have := (World.ownsRow.lt ho k e.symm).1
    omega
  refine ⟨h.bel.grown hg h.bel.size (fun k hk => by have := (World.ownsRow.lt ho k hk).1; omega), (hg.block _ h.b0.lt (hne _ (by omega))).trans h.b0, hlt, (hg.block _ h.b1.lt (hne _ (Nat.le_refl _))).trans h.b1⟩
theorem MkSx.cell (h : MkSx w0 w g a s) {b : AcM} {v t : Value} (i : Nat) (e : (axc a s).setIfInBounds i v = axc b t) : MkSx w0 (w.setCell ⟨g, i, none⟩ v) g b t := by
  have hlt := h.lt
  refine ⟨h.bel.setCell (by simp only; omega) _, blk_other h.b0 _ (by omega), hlt, ?_⟩
  have := set_blk h.b1 i v
  rw [e] at this
  exact this
theorem MkSx.refr (h : MkSx w0 w g a s) (f : List Int) : MkSx w0 w g { a with fr := f } s := ⟨h.bel, h.b0, h.lt, h.b1⟩
theorem MkSx.att (h : MkSx w0 w g a s) {b : AcM} {t : Value} (hg : w.grownBy w' (some g)) (hb : BoxX w' g b t) : MkSx w0 w' g b t := by
  have hlt := h.lt
  exact ⟨h.bel.grown hg h.bel.size (fun k hk => by injection hk with hk; omega), (hg.block _ h.b0.lt (fun e => by injection e with e; omega)).trans h.b0, hlt, hb⟩
theorem MkSx.fr (h : MkSx w0 w g a s) (ho : a.Ok) : w.cell? ⟨g, 35, none⟩ = some s ∧ w.cell? ⟨g, 2, none⟩ = some (.int .i64 a.pv) ∧ (∀ i, w.frozen? ⟨g, i, none⟩ = false) := ⟨h.b1.fr ho, h.b1.ints.2.2, h.b1.free⟩
end
/-- One result that lies in memory, and one that doesn't. -/
theorem results_xb {fn : Func} {q s : Tmp} (h : fn.results = #[.cell q 30, .tmp s]) (tmps : Array Value) (w : World) (g2 : Nat) (t2 : TypeId) (ys : Array Value) (v : Value)
    (hq : tmps.getD q undef = .pointer (some ⟨g2, 0, none⟩)) (hv : tmps.getD s undef = v) (h2 : w.heap[g2]? = some (.cells ys t2 (0, 0))) (hy : ys.size = 68) :
    (results fn tmps).run Tryd.prog w = .ok (.tuple #[.agg ys, v]) w := by
  have hq' : tmps[q]?.getD undef = .pointer (some ⟨g2, 0, none⟩) := by simpa using hq
  have hv' : tmps[s]?.getD undef = v := by simpa using hv
  have r2 := run_loadVar_row (P := Tryd.prog) w g2 t2 30 ys (0, 0) _ h2 under_ax rfl (by rw [size_ax, hy])
  simp [results, h, hq', hv', asAddr, r2]
/-- The attestations of a slice, as they are read. -/
theorem els_att {w : World} {A : Option Addr} {k c : Nat} {l : List AtM} (h : Els atl 101 w (.slice A k c) l) (hok : ∀ a ∈ l, a.Ok) (hp : 0 < l.length) :
    ∃ g og, A = some ⟨g, og, none⟩ ∧ ∀ j (h : j < l.length) W, Below w.heap.size w W → loadAtt (.pointer (some ⟨g, og + j * 101, none⟩)) W = .ok (.value (.agg (atc l[j]))) W ∧ W.cell? ⟨g, og + j * 101, none⟩ = some (.int .i64 l[j].bo) ∧ W.cell? ⟨g, og + j * 101 + 1, none⟩ = some (.int .i64 l[j].ki) ∧
      W.cell? ⟨g, og + j * 101 + 2, none⟩ = some (.int .i64 l[j].vi) ∧ W.cell? ⟨g, og + j * 101 + 36, none⟩ = some (.int .i64 l[j].pv) ∧ loadH (.pointer (some ⟨g, og + j * 101 + 37, none⟩)) W = .ok (.value (.agg (hcells l[j].pa))) W := by
  obtain ⟨g, og, rfl, hg, hcl⟩ := h.at_.2.2.2 hp
  refine ⟨g, og, rfl, fun j h W hb => ?_⟩
  have ho := hok _ (List.getElem_mem h)
  have hr := range_kept (hcl j h) (hb.block g hg)
  refine ⟨loadAtt_in hr ho, hr 0 _ rfl, hr 1 _ rfl, hr 2 _ rfl, hr 36 _ ?_, loadH_mid (fun i u hu => ?_) ho.pa⟩
  · rw [atl_pv, List.getElem?_append_right (by simp only [List.length_append, bcells_length, ho.ha, List.length_cons, List.length_nil]; omega)]
    simp only [List.length_append, bcells_length, ho.ha, List.length_cons, List.length_nil]
    rfl
  · rw [Nat.add_assoc]
    refine hr (37 + i) u ?_
    rw [atl_pa, List.getElem?_append_right (by simp only [List.length_append, bcells_length, ho.ha, List.length_cons, List.length_nil]; omega)]
    simp only [List.length_append, bcells_length, ho.ha, List.length_cons, List.length_nil]
    rw [show 37 + i - (0 + 1 + 1 + 1 + 1 + (32 + (0 + 1))) = i from by omega, List.getElem?_append_left (List.getElem?_eq_some_iff.1 hu).1]
    exact hu
/-- What Make tells. -/
def MxPost (b n vi : Int) (l : List AtM) (w : World) (e : Ending) (w' : World) : Prop := ∃ x, e = .returned (.tuple #[x, .int .i64 (makeX b n vi l).2]) ∧ AcV w' x (makeX b n vi l).1 ∧ Below w.heap.size w w'
theorem mxPost_no {b n vi : Int} {l : List AtM} {w w' : World} {k : Int} (h : makeX b n vi l = (acZ, k)) (hb : Below w.heap.size w w') : MxPost b n vi l w (.returned (.tuple #[.agg (axc acZ (.slice none 0 0)), .int .i64 k])) w' := by
  unfold MxPost
  rw [h]
  exact ⟨_, rfl, ⟨_, rfl, acZ_ok, Els.nil w'⟩, hb⟩
theorem mxPost_yes {b n vi : Int} {l : List AtM} {w w' : World} {c : AcM} {s : Value} (h : makeX b n vi l = (c, 0)) (ho : c.Ok) (hs : Els icl 1 w' s c.fr) (hb : Below w.heap.size w w') : MxPost b n vi l w (.returned (.tuple #[.agg (axc c s), .int .i64 0])) w' := by
  unfold MxPost
  rw [h]
  exact ⟨_, rfl, ⟨_, rfl, ho, hs⟩, hb⟩
end Go.Proofs.YthgdgkdnidjdgaaDoor
