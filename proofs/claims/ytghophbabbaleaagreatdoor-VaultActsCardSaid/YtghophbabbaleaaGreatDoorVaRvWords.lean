/-
  The document's vault as plain data in memory: its eight cells, loads and stores of a whole one.
-/
import Derived.Test.YtghophbabbaleaaGreatDoorBs12
import Derived.Test.YtghophbabbaleaaGreatDoorVaWords
namespace Go.Proofs.YtghophbabbaleaaGreatDoor
set_option maxRecDepth 20000
open Go.RowKit
def rvc (V : VaM) (v0 v1 vh : Value) (wh : Int) : Array Value := #[.int .i64 V.i, v0, v1, .int .i64 V.n, .int .i64 V.left, .bool V.dead, vh, .int .i64 wh]
def RvC (w : World) (C : Array Value) (V : VaM) : Prop := ∃ v0 v1 vh wh, C = rvc V v0 v1 vh wh ∧ Bys w v0 V.s0 ∧ Bys w v1 V.s1 ∧ Bys w vh V.torn ∧ (V.torn ≠ [] → wh = placeV V)
theorem rvc_one (V : VaM) (A0 A1 A2 : Option Addr) (n0 n1 n2 c0 c1 c2 : Nat) (wh : Int) : (rvc V (.slice A0 n0 c0) (.slice A1 n1 c1) (.slice A2 n2 c2) wh).all (·.oneCell') = true := by
  unfold rvc
  refine all_oneCell_toArray (cs := [_, _, _, _, _, _, _, _]) (fun u hu => ?_)
  simp only [List.mem_cons, List.not_mem_nil, or_false] at hu
  rcases hu with rfl | rfl | rfl | rfl | rfl | rfl | rfl | rfl <;> rfl
theorem rvc_size (V : VaM) (v0 v1 vh : Value) (wh : Int) : (rvc V v0 v1 vh wh).size = 8 := rfl
theorem RvC.size {w : World} {C : Array Value} {V : VaM} (h : RvC w C V) : C.size = 8 := by
  obtain ⟨_, _, _, _, rfl, _⟩ := h
  rfl
theorem RvC.one {w : World} {C : Array Value} {V : VaM} (h : RvC w C V) : C.all (·.oneCell') = true := by
  obtain ⟨v0, v1, vh, wh, rfl, h0, h1, h2, _⟩ := h
  obtain ⟨A0, c0, r0⟩ := h0.shape
  obtain ⟨A1, c1, r1⟩ := h1.shape
  obtain ⟨A2, c2, r2⟩ := h2.shape
  subst r0 r1 r2
  exact rvc_one ..
theorem RvC.away {w w' : World} {C : Array Value} {V : VaM} (h : RvC w C V) (hs : w.heap.size ≤ w'.heap.size) (hk : ∀ (k : Nat) (C : Array Value), w.heap[k]? = some (Obj.cells C 5 (0, 0)) → w'.heap[k]? = w.heap[k]?) : RvC w' C V := by
  obtain ⟨v0, v1, vh, wh, rfl, h0, h1, h2, h3⟩ := h
  exact ⟨v0, v1, vh, wh, rfl, h0.away hs hk, h1.away hs hk, h2.away hs hk, h3⟩
theorem RvC.below {w w' : World} {C : Array Value} {V : VaM} (h : RvC w C V) (hb : Below w.heap.size w w') : RvC w' C V := h.away hb.size (fun k _ hk => hb.block k (lt_of_block hk))
theorem Vlt.turnedR {w w' : World} {b c a : Nat} {V V' : VaM} {C : Array Value} (h : Vlt w b c a V) (hv : RvC w C V') (ht : Turn b a w w') : RvC w' C V' := by
  obtain ⟨v0, v1, vt, h⟩ := h
  exact hv.away ht.size (fun k _ hk => ht.block k (lt_of_block hk) (blk_ne hk h.p (by decide)) (blk_ne hk h.k.q (by decide)))
theorem Vlt.turnedB {w w' : World} {b c a : Nat} {V : VaM} (h : Vlt w b c a V) {v : Value} {l : List UInt8} (hv : Bys w v l) (ht : Turn b a w w') : Bys w' v l := by
  obtain ⟨v0, v1, vt, h⟩ := h
  exact h.turnedS hv ht
theorem under_rv : Tryz.prog.underlying 32 = some (.struct (Tryz.prog.fieldsOf 32)) := by kernel_rfl
theorem size_rv : (Tryz.prog.info? 32).map (·.size) = some 8 := by kernel_rfl
noncomputable def loadRv (v : Value) (w : World) : Result Next := Sem.run Tryz.prog (execOp (fun _ => v) { dst := none, op := .load 32 (.tmp 0), type := 0, pos := "", after := #[], guard := none }) w
theorem exec_load_rv (r : Operand → Value) (x : Operand) (dst : Option Tmp) (ty : TypeId) (pos : String) (after : Array Edge) (guard : Option (Nat × Bool)) (w : World) :
    Sem.run Tryz.prog (execOp r { dst := dst, op := .load 32 x, type := ty, pos := pos, after := after, guard := guard }) w = loadRv (r x) w := rfl
theorem loadRv_row {w : World} {g : Nat} {C : Array Value} {T : TypeId} (h : w.heap[g]? = some (.cells C T (0, 0))) (hs : C.size = 8) : loadRv (.pointer (some ⟨g, 0, none⟩)) w = .ok (.value (.agg C)) w := by
  have := run_loadAt_mid (P := Tryz.prog) w g 0 32 C.toList _ (fun j v hj => by rw [Nat.zero_add, cell_blk h j]; simpa using hj) under_rv rfl (by rw [size_rv]; simp [hs])
  simp only [Array.toArray_toList] at this
  unfold loadRv execOp
  simp only [Sem.run_bind, this, Result.andThen_ok, Sem.run_pure]
def rvZ : Array Value := rvc ⟨0, [], [], 0, 0, false, []⟩ (.slice none 0 0) (.slice none 0 0) (.slice none 0 0) 0
theorem zero_rv : (Tryz.prog.info? 32).bind (·.zero) = some (.agg rvZ) := by kernel_rfl
theorem run_zero_rv (w : World) : (zeroValue 32).run Tryz.prog w = .ok (.agg rvZ) w := by
  have h := zero_rv
  cases hq : Tryz.prog.info? 32 with
  | none => rw [hq] at h; cases h
  | some i =>
    rw [hq] at h
    have hz : i.zero = some (.agg rvZ) := h
    simp [zeroValue, typeInfo, hq, hz]
noncomputable def allocRv (w : World) : Result Next := Sem.run Tryz.prog (execOp (fun _ => undef) { dst := none, op := .alloc 32, type := 0, pos := "", after := #[], guard := none }) w
theorem exec_alloc_rv (r : Operand → Value) (dst : Option Tmp) (ty : TypeId) (pos : String) (after : Array Edge) (guard : Option (Nat × Bool)) (w : World) :
    Sem.run Tryz.prog (execOp r { dst := dst, op := .alloc 32, type := ty, pos := pos, after := after, guard := guard }) w = allocRv w := rfl
theorem allocRv_eq (w : World) : allocRv w = .ok (.value (.pointer (some ⟨w.heap.size, 0, none⟩))) (w.alloc (.cells rvZ 32)) := by
  unfold allocRv execOp
  simp only [Sem.run_bind, Instr.alloc, run_zero_rv, newVar, newRow, run_newObj_alloc, Sem.run_pure, Result.andThen_ok, Value.cells]
noncomputable def storeRv (p v : Value) (w : World) : Result Next := Sem.run Tryz.prog (execOp (fun x => match x with
  | .tmp 0 => p
  | _ => v) { dst := none, op := .store 32 (.tmp 0) (.tmp 1), type := 0, pos := "", after := #[], guard := none }) w
theorem exec_store_rv (r : Operand → Value) (x y : Operand) (dst : Option Tmp) (ty : TypeId) (pos : String) (after : Array Edge) (guard : Option (Nat × Bool)) (w : World) :
    Sem.run Tryz.prog (execOp r { dst := dst, op := .store 32 x y, type := ty, pos := pos, after := after, guard := guard }) w = storeRv (r x) (r y) w := rfl
theorem storeRv_eq {w : World} {g : Nat} {t : TypeId} {C0 C : Array Value} (hg : w.heap[g]? = some (.cells C0 t (0, 0))) (h0 : C0.size = 8) (hC : C.size = 8) (h1 : C.all (·.oneCell') = true) :
    storeRv (.pointer (some ⟨g, 0, none⟩)) (.agg C) w = .ok .skip (setSe w g C) := by
  have := run_storeVar_row (P := Tryz.prog) w g t 32 C0 C hg (by rw [size_rv, hC]) (by rw [h0, hC]) h1
  unfold storeRv execOp
  simp only [Instr.storeAt, Instr.sureAddr, Sem.run_bind, Sem.run_pure, Result.andThen_ok, this]
  rfl
theorem rv_var (w : World) {Z S : Array Value} (hZ : Z.size = 8) (hS : S.size = 8) (h1 : S.all (·.oneCell') = true) :
    storeRv (.pointer (some ⟨w.heap.size, 0, none⟩)) (.agg S) (w.alloc (.cells Z 32)) = .ok .skip (w.alloc (.cells S 32)) := by
  rw [storeRv_eq (heap_alloc_new w _) hZ hS h1, setSe_alloc]
theorem results_rv1 {fn : Func} {q : Tmp} (h : fn.results = #[.cell q 32]) (tmps : Array Value) (w : World) (g2 : Nat) (t2 : TypeId) (ys : Array Value)
    (hq : tmps.getD q undef = .pointer (some ⟨g2, 0, none⟩)) (h2 : w.heap[g2]? = some (.cells ys t2 (0, 0))) (hy : ys.size = 8) :
    (results fn tmps).run Tryz.prog w = .ok (.agg ys) w := by
  have hq' : tmps[q]?.getD undef = .pointer (some ⟨g2, 0, none⟩) := by simpa using hq
  have r2 := run_loadVar_row (P := Tryz.prog) w g2 t2 32 ys (0, 0) _ h2 under_rv rfl (by rw [size_rv, hy])
  simp [results, h, hq', asAddr, r2]
theorem results_rv2 {fn : Func} {q s : Tmp} (h : fn.results = #[.cell q 32, .tmp s]) (tmps : Array Value) (w : World) (g2 : Nat) (t2 : TypeId) (ys : Array Value) (v : Value)
    (hq : tmps.getD q undef = .pointer (some ⟨g2, 0, none⟩)) (hv : tmps.getD s undef = v) (h2 : w.heap[g2]? = some (.cells ys t2 (0, 0))) (hy : ys.size = 8) :
    (results fn tmps).run Tryz.prog w = .ok (.tuple #[.agg ys, v]) w := by
  have hq' : tmps[q]?.getD undef = .pointer (some ⟨g2, 0, none⟩) := by simpa using hq
  have hv' : tmps[s]?.getD undef = v := by simpa using hv
  have r2 := run_loadVar_row (P := Tryz.prog) w g2 t2 32 ys (0, 0) _ h2 under_rv rfl (by rw [size_rv, hy])
  simp [results, h, hq', hv', asAddr, r2]
theorem rv_cell {w : World} {g : Nat} {V : VaM} {v0 v1 vh : Value} {wh : Int} {T : TypeId} (h : w.heap[g]? = some (.cells (rvc V v0 v1 vh wh) T (0, 0))) :
    w.cell? ⟨g, 0, none⟩ = some (.int .i64 V.i) ∧ w.cell? ⟨g, 1, none⟩ = some v0 ∧ w.cell? ⟨g, 2, none⟩ = some v1 ∧ w.cell? ⟨g, 3, none⟩ = some (.int .i64 V.n) ∧ w.cell? ⟨g, 4, none⟩ = some (.int .i64 V.left) ∧ w.cell? ⟨g, 5, none⟩ = some (.bool V.dead) ∧ w.cell? ⟨g, 6, none⟩ = some vh ∧ w.cell? ⟨g, 7, none⟩ = some (.int .i64 wh) := by
  simp only [coBlk_cell h]
  exact ⟨rfl, rfl, rfl, rfl, rfl, rfl, rfl, rfl⟩
def BoxRv (w : World) (g : Nat) (V : VaM) (v0 v1 vh : Value) (wh : Int) : Prop := w.heap[g]? = some (.cells (rvc V v0 v1 vh wh) 32 (0, 0))
section
variable {w : World} {g : Nat} {V : VaM} {v0 v1 vh : Value} {wh : Int}
theorem BoxRv.set (h : BoxRv w g V v0 v1 vh wh) {i : Nat} {u : Value} {V' : VaM} {u0 u1 uh : Value} {k : Int} (hc : (rvc V v0 v1 vh wh).setIfInBounds i u = rvc V' u0 u1 uh k) : BoxRv (w.setCell ⟨g, i, none⟩ u) g V' u0 u1 uh k := by
  unfold BoxRv
  rw [heapA_set w h, hc]
theorem BoxRv.cells (h : BoxRv w g V v0 v1 vh wh) : w.cell? ⟨g, 0, none⟩ = some (.int .i64 V.i) ∧ w.cell? ⟨g, 1, none⟩ = some v0 ∧ w.cell? ⟨g, 2, none⟩ = some v1 ∧ w.cell? ⟨g, 3, none⟩ = some (.int .i64 V.n) ∧ w.cell? ⟨g, 4, none⟩ = some (.int .i64 V.left) ∧ w.cell? ⟨g, 5, none⟩ = some (.bool V.dead) ∧ w.cell? ⟨g, 6, none⟩ = some vh ∧ w.cell? ⟨g, 7, none⟩ = some (.int .i64 wh) := rv_cell h
theorem BoxRv.free (h : BoxRv w g V v0 v1 vh wh) (i : Nat) : w.frozen? ⟨g, i, none⟩ = false := coBlk_free h i
theorem BoxRv.ld (h : BoxRv w g V v0 v1 vh wh) : loadRv (.pointer (some ⟨g, 0, none⟩)) w = .ok (.value (.agg (rvc V v0 v1 vh wh))) w := loadRv_row h rfl
theorem BoxRv.below {w' : World} (h : BoxRv w g V v0 v1 vh wh) (hb : Below w.heap.size w w') : BoxRv w' g V v0 v1 vh wh := (hb.block g (lt_of_block h)).trans h
end
theorem rv_end {w0 w : World} {B g : Nat} {C0 C : Array Value} {T : TypeId} (hb : Below B w0 w) (hg : w.heap[g]? = some (.cells C0 T (0, 0))) (hB : B ≤ g) (h0 : C0.size = 8) (hC : C.size = 8) (h1 : C.all (·.oneCell') = true) :
    storeRv (.pointer (some ⟨g, 0, none⟩)) (.agg C) w = .ok .skip (setSe w g C) ∧ (setSe w g C).heap[g]? = some (.cells C T (0, 0)) ∧ Below B w0 (setSe w g C) := ⟨storeRv_eq hg h0 hC h1, setSe_same hg, setSe_below hb hB⟩
end Go.Proofs.YtghophbabbaleaaGreatDoor
