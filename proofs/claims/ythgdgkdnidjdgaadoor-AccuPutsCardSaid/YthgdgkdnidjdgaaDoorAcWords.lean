/-
  Accumulations in memory: their cells, loads and stores of whole ones.
-/
import Derived.Test.YthgdgkdnidjdgaaDoorAcPure
import Derived.Test.YthgdgkdnidjdgaaDoorBs10
import Derived.Test.YthgdgkdnidjdgaaDoorBs6
namespace Go.Proofs.YthgdgkdnidjdgaaDoor
set_option maxRecDepth 20000
open Go.RowKit

/-- An accumulation's cells: its numbers are the slice s. -/
def axl (a : AcM) (s : Value) : List Value := [.int .i64 a.bo, .int .i64 a.vi, .int .i64 a.pv] ++ (bcells a.pa ++ (s :: bcells a.tg))
def axc (a : AcM) (s : Value) : Array Value := (axl a s).toArray
theorem axl_length {a : AcM} (s : Value) (h : a.Ok) : (axl a s).length = 68 := by simp [axl, bcells_length, h.pa, h.tg]
theorem axc_size {a : AcM} (s : Value) (h : a.Ok) : (axc a s).size = 68 := by simp [axc, axl_length s h]
theorem axl_pre (a : AcM) (s : Value) : axl a s = [.int .i64 a.bo, .int .i64 a.vi, .int .i64 a.pv] ++ (bcells a.pa ++ ([s] ++ bcells a.tg)) := rfl
theorem axl_tag (a : AcM) (s : Value) : axl a s = ([.int .i64 a.bo, .int .i64 a.vi, .int .i64 a.pv] ++ (bcells a.pa ++ [s])) ++ (bcells a.tg ++ []) := by
  unfold axl
  simp only [List.append_assoc, List.append_nil, List.cons_append, List.nil_append]
/-- The value is an accumulation. -/
def AcV (w : World) (v : Value) (a : AcM) : Prop := ∃ s, v = .agg (axc a s) ∧ a.Ok ∧ Els icl 1 w s a.fr
theorem AcV.below {w w' : World} {v : Value} {a : AcM} (h : AcV w v a) (hb : Below w.heap.size w w') : AcV w' v a := by
  obtain ⟨s, rfl, h1, h2⟩ := h
  exact ⟨s, rfl, h1, h2.below hb⟩
/-- An accumulation is boxed in g. -/
def BoxX (w : World) (g : Nat) (a : AcM) (s : Value) : Prop := w.heap[g]? = some (.cells (axc a s) 30 (0, 0))
section
variable {w w' : World} {g : Nat} {a : AcM} {s : Value}
theorem BoxX.new (w : World) (a : AcM) (s : Value) : BoxX (w.alloc (.cells (axc a s) 30)) w.heap.size a s := heap_alloc_new w _
theorem BoxX.lt (h : BoxX w g a s) : g < w.heap.size := lt_of_block h
theorem BoxX.below {B : Nat} (h : BoxX w g a s) (hb : Below B w w') (hg : g < B) : BoxX w' g a s := (hb.block g hg).trans h
theorem BoxX.free (h : BoxX w g a s) (i : Nat) : w.frozen? ⟨g, i, none⟩ = false := free_blk h i
theorem BoxX.cell (h : BoxX w g a s) (i : Nat) : w.cell? ⟨g, i, none⟩ = (axl a s)[i]? := by
  rw [cell_blk h i]
  unfold axc
  rw [List.getElem?_toArray]
theorem BoxX.ints (h : BoxX w g a s) : w.cell? ⟨g, 0, none⟩ = some (.int .i64 a.bo) ∧ w.cell? ⟨g, 1, none⟩ = some (.int .i64 a.vi) ∧ w.cell? ⟨g, 2, none⟩ = some (.int .i64 a.pv) :=
  ⟨h.cell 0, h.cell 1, h.cell 2⟩
theorem BoxX.fr (h : BoxX w g a s) (ho : a.Ok) : w.cell? ⟨g, 35, none⟩ = some s := by
  rw [h.cell, axl_pre, List.getElem?_append_right (by simp), List.getElem?_append_right (by rw [bcells_length, ho.pa]; simp)]
  rw [bcells_length, ho.pa]
  rfl
theorem BoxX.pa (h : BoxX w g a s) : w.rangeAt g 3 (bcells a.pa) := fun j u hu => by
  rw [h.cell, axl_pre, List.getElem?_append_right (by simp)]
  simp only [List.length_cons, List.length_nil]
  rw [show 3 + j - (0 + 1 + 1 + 1) = j from by omega, List.getElem?_append_left (List.getElem?_eq_some_iff.1 hu).1]
  exact hu
theorem BoxX.tg (h : BoxX w g a s) (ho : a.Ok) : w.rangeAt g 36 (bcells a.tg) := fun j u hu => by
  rw [h.cell, axl_tag, List.append_nil, List.getElem?_append_right (by simp only [List.length_append, bcells_length, ho.pa, List.length_cons, List.length_nil]; omega)]
  simp only [List.length_append, bcells_length, ho.pa, List.length_cons, List.length_nil]
  rw [show 36 + j - (0 + 1 + 1 + 1 + (32 + (0 + 1))) = j from by omega]
  exact hu
end
theorem axc_bo (a : AcM) (s : Value) (n : Int) : (axc a s).setIfInBounds 0 (.int .i64 n) = axc { a with bo := n } s := by
  unfold axc axl
  rw [List.setIfInBounds_toArray]
  rfl
theorem axc_vi (a : AcM) (s : Value) (n : Int) : (axc a s).setIfInBounds 1 (.int .i64 n) = axc { a with vi := n } s := by
  unfold axc axl
  rw [List.setIfInBounds_toArray]
  rfl
theorem axc_pv (a : AcM) (s : Value) (n : Int) : (axc a s).setIfInBounds 2 (.int .i64 n) = axc { a with pv := n } s := by
  unfold axc axl
  rw [List.setIfInBounds_toArray]
  rfl
theorem axc_fr (a : AcM) (s v : Value) (ho : a.Ok) : (axc a s).setIfInBounds 35 v = axc a v := by
  unfold axc
  rw [List.setIfInBounds_toArray]
  congr 1
  unfold axl
  rw [List.set_append_right _ _ (by simp), List.set_append_right _ _ (by rw [bcells_length, ho.pa]; simp)]
  rw [bcells_length, ho.pa]
  rfl
section
variable {ops : Array Oper} {rest : List Oper} {o : Oper} {ac : Act} {w : World} {Q : Exit → Act → World → Prop}
theorem wpList_store_xpa (hgd : o.guard = none) (x y : Operand) (ho : o.op = .store 27 x y)
    {g : Nat} {a : AcM} {s : Value} {h : List UInt8} (hx : ac.eval x = .pointer (some ⟨g, 3, none⟩)) (hy : ac.eval y = .agg (hcells h)) (hg : BoxX w g a s) (hok : a.Ok) (hl : h.length = 32)
    (hh : ∀ w', w.grownBy w' (some g) → BoxX w' g { a with pa := h } s → w'.heap.size = w.heap.size → wpList Tryd.prog ops Q rest (ac.put o.dst undef) w') : wpList Tryd.prog ops Q (o :: rest) ac w := by
  unfold BoxX axc at hg
  rw [axl_pre] at hg
  refine wpList_store_midh hgd x y ho hx hy hg rfl (by rw [bcells_length, hok.pa]) hl (fun w' h1 h2 h3 => hh w' h1 ?_ h3)
  unfold BoxX axc
  rw [axl_pre]
  exact h2
theorem wpList_store_xtg (hgd : o.guard = none) (x y : Operand) (ho : o.op = .store 27 x y)
    {g : Nat} {a : AcM} {s : Value} {h : List UInt8} (hx : ac.eval x = .pointer (some ⟨g, 36, none⟩)) (hy : ac.eval y = .agg (hcells h)) (hg : BoxX w g a s) (hok : a.Ok) (hl : h.length = 32)
    (hh : ∀ w', w.grownBy w' (some g) → BoxX w' g { a with tg := h } s → w'.heap.size = w.heap.size → wpList Tryd.prog ops Q rest (ac.put o.dst undef) w') : wpList Tryd.prog ops Q (o :: rest) ac w := by
  unfold BoxX axc at hg
  rw [axl_tag] at hg
  refine wpList_store_midh hgd x y ho hx hy hg (by simp only [List.length_append, bcells_length, hok.pa, List.length_cons, List.length_nil]) (by rw [bcells_length, hok.tg]) hl (fun w' h1 h2 h3 => hh w' h1 ?_ h3)
  unfold BoxX axc
  rw [axl_tag]
  exact h2
end
/-- A load of a whole accumulation: kept whole. -/
noncomputable def loadAx (v : Value) (w : World) : Result Next := Sem.run Tryd.prog (execOp (fun _ => v) { dst := none, op := .load 30 (.tmp 0), type := 0, pos := "", after := #[], guard := none }) w
theorem exec_load_ax (r : Operand → Value) (x : Operand) (dst : Option Tmp) (ty : TypeId) (pos : String) (after : Array Edge) (guard : Option (Nat × Bool)) (w : World) :
    Sem.run Tryd.prog (execOp r { dst := dst, op := .load 30 x, type := ty, pos := pos, after := after, guard := guard }) w = loadAx (r x) w := rfl
theorem under_ax : Tryd.prog.underlying 30 = some (.struct (Tryd.prog.fieldsOf 30)) := by kernel_rfl
theorem size_ax : (Tryd.prog.info? 30).map (·.size) = some 68 := by kernel_rfl
theorem loadAx_row {w : World} {g : Nat} {C : Array Value} {T : TypeId} (h : w.heap[g]? = some (.cells C T (0, 0))) (hs : C.size = 68) : loadAx (.pointer (some ⟨g, 0, none⟩)) w = .ok (.value (.agg C)) w := by
  have := run_loadAt_mid (P := Tryd.prog) w g 0 30 C.toList _ (fun j v hj => by rw [Nat.zero_add, cell_blk h j]; simpa using hj) under_ax rfl (by rw [size_ax]; simp [hs])
  simp only [Array.toArray_toList] at this
  unfold loadAx execOp
  simp only [Sem.run_bind, this, Result.andThen_ok, Sem.run_pure]
theorem axc_one {w : World} {a : AcM} {s : Value} (h : Els icl 1 w s a.fr) : (axc a s).all (·.oneCell') = true := by
  obtain ⟨A, k, rfl, _⟩ := h
  unfold axc
  refine all_oneCell_toArray ?_
  intro u hu
  unfold axl at hu
  rcases List.mem_append.1 hu with hu | hu
  · simp only [List.mem_cons, List.not_mem_nil, or_false] at hu
    obtain rfl | rfl | rfl := hu <;> rfl
  · rcases List.mem_append.1 hu with hu | hu
    · exact bcells_one _ u hu
    · rcases List.mem_cons.1 hu with rfl | hu
      · rfl
      · exact bcells_one _ u hu
theorem zero_ax : (Tryd.prog.info? 30).bind (·.zero) = some (.agg (axc acZ (.slice none 0 0))) := by kernel_rfl
theorem run_zero_ax (w : World) : (zeroValue 30).run Tryd.prog w = .ok (.agg (axc acZ (.slice none 0 0))) w := by
  have h := zero_ax
  cases hq : Tryd.prog.info? 30 with
  | none => rw [hq] at h; cases h
  | some i =>
    rw [hq] at h
    have hz : i.zero = some (.agg (axc acZ (.slice none 0 0))) := h
    simp [zeroValue, typeInfo, hq, hz]
/-- The accumulation that has nothing. -/
noncomputable def buildAx (w : World) : Result Next := Sem.run Tryd.prog (execOp (fun _ => undef) { dst := none, op := .build 30 #[], type := 0, pos := "", after := #[], guard := none }) w
theorem exec_build_ax (r : Operand → Value) (dst : Option Tmp) (ty : TypeId) (pos : String) (after : Array Edge) (guard : Option (Nat × Bool)) (w : World) :
    Sem.run Tryd.prog (execOp r { dst := dst, op := .build 30 #[], type := ty, pos := pos, after := after, guard := guard }) w = buildAx w := by
  unfold buildAx execOp
  simp
theorem buildAx_eq (w : World) : buildAx w = .ok (.value (.agg (axc acZ (.slice none 0 0)))) w := by
  unfold buildAx
  go_simp
  rfl
/-- A variable for a accumulation. -/
noncomputable def allocAx (w : World) : Result Next := Sem.run Tryd.prog (execOp (fun _ => undef) { dst := none, op := .alloc 30, type := 0, pos := "", after := #[], guard := none }) w
theorem exec_alloc_ax (r : Operand → Value) (dst : Option Tmp) (ty : TypeId) (pos : String) (after : Array Edge) (guard : Option (Nat × Bool)) (w : World) :
    Sem.run Tryd.prog (execOp r { dst := dst, op := .alloc 30, type := ty, pos := pos, after := after, guard := guard }) w = allocAx w := rfl
theorem allocAx_eq (w : World) : allocAx w = .ok (.value (.pointer (some ⟨w.heap.size, 0, none⟩))) (w.alloc (.cells (axc acZ (.slice none 0 0)) 30)) := by
  unfold allocAx execOp
  simp only [Sem.run_bind, Instr.alloc, run_zero_ax, newVar, newRow, run_newObj_alloc, Sem.run_pure, Result.andThen_ok, Value.cells]
noncomputable def storeAx (p v : Value) (w : World) : Result Next := Sem.run Tryd.prog (execOp (fun x => match x with
  | .tmp 0 => p
  | _ => v) { dst := none, op := .store 30 (.tmp 0) (.tmp 1), type := 0, pos := "", after := #[], guard := none }) w
theorem exec_store_ax (r : Operand → Value) (x y : Operand) (dst : Option Tmp) (ty : TypeId) (pos : String) (after : Array Edge) (guard : Option (Nat × Bool)) (w : World) :
    Sem.run Tryd.prog (execOp r { dst := dst, op := .store 30 x y, type := ty, pos := pos, after := after, guard := guard }) w = storeAx (r x) (r y) w := rfl
/-- The world behind a store of a whole accumulation: kept whole. -/
def setAx (w : World) (g : Nat) (C : Array Value) : World := w.setRow g C
theorem storeAx_eq {w : World} {g : Nat} {t : TypeId} {C0 C : Array Value} (hg : w.heap[g]? = some (.cells C0 t (0, 0))) (h0 : C0.size = 68) (hC : C.size = 68) (h1 : C.all (·.oneCell') = true) :
    storeAx (.pointer (some ⟨g, 0, none⟩)) (.agg C) w = .ok .skip (setAx w g C) := by
  have := run_storeVar_row (P := Tryd.prog) w g t 30 C0 C hg (by rw [size_ax, hC]) (by rw [h0, hC]) h1
  unfold storeAx execOp
  simp only [Instr.storeAt, Instr.sureAddr, Sem.run_bind, Sem.run_pure, Result.andThen_ok, this]
  rfl
theorem setAx_other (w : World) {g k : Nat} (C : Array Value) (hk : k ≠ g) : (setAx w g C).heap[k]? = w.heap[k]? := setRow_other w g k _ hk
theorem setAx_same {w : World} {g : Nat} {t : TypeId} {C0 C : Array Value} (hg : w.heap[g]? = some (.cells C0 t (0, 0))) : (setAx w g C).heap[g]? = some (.cells C t (0, 0)) := setRow_heap w g _ _ t _ hg
theorem setAx_size (w : World) (g : Nat) (C : Array Value) : (setAx w g C).heap.size = w.heap.size := by simp [setAx]
theorem setAx_below {B g : Nat} {a w : World} {C : Array Value} (hb : Below B a w) (hg : B ≤ g) : Below B a (setAx w g C) := below_setRow hb hg _
theorem setAx_self {w : World} {g : Nat} {t : TypeId} {C : Array Value} {fr : Nat × Nat} (hg : w.heap[g]? = some (.cells C t fr)) : setAx w g C = w := by
  have e : ∀ f : Obj → Obj, f (.cells C t fr) = .cells C t fr → w.heap.modify g f = w.heap := by
    intro f hf
    apply Array.ext_getElem?
    intro k
    rw [Array.getElem?_modify]
    by_cases h : g = k
    · subst h
      rw [if_pos rfl, hg]
      simp [hf]
    · rw [if_neg h]
  unfold setAx World.setRow
  rw [e _ rfl]
theorem setAx_alloc (w : World) (T : TypeId) (C0 C : Array Value) : setAx (w.alloc (.cells C0 T)) w.heap.size C = w.alloc (.cells C T) := by
  have hm : ∀ (a : Array Obj) (x : Obj) (f : Obj → Obj), (a.push x).modify a.size f = a.push (f x) := by
    intro a x f
    apply Array.ext_getElem?
    intro k
    rw [Array.getElem?_modify]
    by_cases h : a.size = k
    · subst h
      simp
    · rw [if_neg h, Array.getElem?_push, Array.getElem?_push]
      rw [if_neg (fun e => h e.symm), if_neg (fun e => h e.symm)]
  unfold setAx World.setRow World.alloc
  simp only [hm]
/-- A variable for a accumulation, and what is told stored into it. -/
theorem ax_var (w : World) {Z S : Array Value} (hZ : Z.size = 68) (hS : S.size = 68) (h1 : S.all (·.oneCell') = true) :
    storeAx (.pointer (some ⟨w.heap.size, 0, none⟩)) (.agg S) (w.alloc (.cells Z 30)) = .ok .skip (w.alloc (.cells S 30)) := by
  rw [storeAx_eq (heap_alloc_new w _) hZ hS h1, setAx_alloc]
end Go.Proofs.YthgdgkdnidjdgaaDoor
