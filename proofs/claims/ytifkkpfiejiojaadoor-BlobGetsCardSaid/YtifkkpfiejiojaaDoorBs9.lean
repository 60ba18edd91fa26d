/-
  HashMid HashZero SeWords SeOk AtEq AtTagged AtArg AtCodeSign AtCodeRight: what each of them says stands at its head.
-/
import Derived.Test.YtifkkpfiejiojaaDoorBs7
namespace Go.Proofs.YtifkkpfiejiojaaDoor
set_option maxRecDepth 20000
open Go.RowKit
theorem loadH_mid {w : World} {g o : Nat} {h : List UInt8} (hr : w.rangeAt g o (bcells h)) (hl : h.length = 32) : loadH (.pointer (some ⟨g, o, none⟩)) w = .ok (.value (.agg (hcells h))) w := by
  have := run_loadAt_mid (P := Tryd.prog) w g o 23 (bcells h) _ hr under_hash rfl (by rw [size_hash, bcells_length, hl])
  unfold loadH execOp
  simp only [Sem.run_bind, this, Result.andThen_ok, Sem.run_pure]
  rfl
def putAt (C : Array Value) (o : Nat) : List Value → Array Value
  | [] => C
  | v :: r => putAt (C.setIfInBounds o v) (o + 1) r
theorem setCells_row {g : Nat} {t : TypeId} : ∀ (vs : List Value) (o : Nat) (w : World) (C : Array Value), w.heap[g]? = some (.cells C t (0, 0)) → (w.setCells g o vs).heap[g]? = some (.cells (putAt C o vs) t (0, 0))
  | [], _, _, _, h => h
  | v :: r, o, w, C, h => setCells_row r (o + 1) (w.setCell ⟨g, o, none⟩ v) (C.setIfInBounds o v) (set_blk h o v)
theorem putAt_mid : ∀ (vs pre old post : List Value), old.length = vs.length → putAt (pre ++ (old ++ post)).toArray pre.length vs = (pre ++ (vs ++ post)).toArray
  | [], pre, old, post, h => by
    obtain rfl : old = [] := List.eq_nil_of_length_eq_zero h
    rfl
  | v :: r, pre, o :: old, post, h => by
    have e : (pre ++ (o :: old ++ post)).toArray.setIfInBounds pre.length v = ((pre ++ [v]) ++ (old ++ post)).toArray := by
      simp
    have e2 : pre.length + 1 = (pre ++ [v]).length := by simp
    unfold putAt
    rw [e, e2, putAt_mid r (pre ++ [v]) old post (by simpa using h)]
    simp
  | _ :: _, _, [], _, h => by cases h
theorem wpList_store_midh {ops : Array Oper} {rest : List Oper} {o : Oper} {a : Act} {w : World} {Q : Exit → Act → World → Prop} (hgd : o.guard = none) (x y : Operand) (ho : o.op = .store 23 x y)
    {g k : Nat} {t : TypeId} {pre old post : List Value} {h : List UInt8} (hx : a.eval x = .pointer (some ⟨g, k, none⟩)) (hy : a.eval y = .agg (hcells h)) (hg : w.heap[g]? = some (.cells (pre ++ (old ++ post)).toArray t (0, 0))) (hk : k = pre.length) (hold : old.length = 32) (hl : h.length = 32)
    (hh : ∀ w', w.grownBy w' (some g) → w'.heap[g]? = some (.cells (pre ++ (bcells h ++ post)).toArray t (0, 0)) → w'.heap.size = w.heap.size → wpList Tryd.prog ops Q rest (a.put o.dst undef) w') : wpList Tryd.prog ops Q (o :: rest) a w := by
  subst hk
  refine wpList_store_mid hgd _ x y ho (b := g) (o := pre.length) (cells := hcells h) hx hy (fun j hj => ⟨?_, free_blk hg _⟩) (by rw [size_hash, hcells_size, hl]) (hcells_one _) ?_
  · rw [hcells_size, hl] at hj
    rw [cell_blk hg, List.getElem?_toArray, List.getElem?_append_right (by omega), Nat.add_sub_cancel_left, List.getElem?_append_left (by omega), List.getElem?_eq_getElem (by omega)]
    rfl
  · rw [hcells_list]
    refine hh _ (grown_setCells g _ _ _) ?_ (setCells_size g _ _ _)
    have := setCells_row (bcells h) pre.length w _ hg
    rw [putAt_mid (bcells h) pre old post (by rw [bcells_length, hl, hold])] at this
    exact this
end Go.Proofs.YtifkkpfiejiojaaDoor
namespace Go.Proofs.YtifkkpfiejiojaaDoor
set_option maxRecDepth 20000
open Go.RowKit
noncomputable def buildH (w : World) : Result Next := Sem.run Tryd.prog (execOp (fun _ => undef) { dst := none, op := .build 23 #[], type := 0, pos := "", after := #[], guard := none }) w
theorem exec_build_hash (r : Operand → Value) (dst : Option Tmp) (ty : TypeId) (pos : String) (after : Array Edge) (guard : Option (Nat × Bool)) (w : World) :
    Sem.run Tryd.prog (execOp r { dst := dst, op := .build 23 #[], type := ty, pos := pos, after := after, guard := guard }) w = buildH w := by
  unfold buildH execOp
  simp
end Go.Proofs.YtifkkpfiejiojaaDoor
namespace Go.Proofs.YtifkkpfiejiojaaDoor
set_option maxRecDepth 20000
open Go.RowKit
def sel (a : SeM) : List Value := [.int .i64 a.vi, .int .i64 a.ph, .int .i64 a.pv] ++ bcells a.pa
def sec (a : SeM) : Array Value := (sel a).toArray
theorem sel_length {a : SeM} (h : a.Ok) : (sel a).length = 35 := by
  have : a.pa.length = 32 := h
  unfold sel
  simp only [List.length_append, bcells_length, List.length_cons, List.length_nil]
  omega
theorem sec_size {a : SeM} (h : a.Ok) : (sec a).size = 35 := by
  unfold sec
  rw [List.size_toArray, sel_length h]
def BoxSe (w : World) (g : Nat) (a : SeM) : Prop := w.heap[g]? = some (.cells (sec a) 25 (0, 0))
section
variable {w w' : World} {g : Nat} {a : SeM}
theorem BoxSe.new (w : World) (a : SeM) : BoxSe (w.alloc (.cells (sec a) 25)) w.heap.size a := heap_alloc_new w _
theorem BoxSe.lt (h : BoxSe w g a) : g < w.heap.size := lt_of_block h
theorem BoxSe.below {B : Nat} (h : BoxSe w g a) (hb : Below B w w') (hg : g < B) : BoxSe w' g a := (hb.block g hg).trans h
theorem BoxSe.keep (h : BoxSe w g a) (hb : Below w.heap.size w w') : BoxSe w' g a := h.below hb h.lt
theorem BoxSe.free (h : BoxSe w g a) (i : Nat) : w.frozen? ⟨g, i, none⟩ = false := free_blk h i
theorem BoxSe.cell (h : BoxSe w g a) (i : Nat) : w.cell? ⟨g, i, none⟩ = (sel a)[i]? := by
  rw [cell_blk h i]
  unfold sec
  rw [List.getElem?_toArray]
theorem BoxSe.cells (h : BoxSe w g a) : w.cell? ⟨g, 0, none⟩ = some (.int .i64 a.vi) ∧ w.cell? ⟨g, 1, none⟩ = some (.int .i64 a.ph) ∧ w.cell? ⟨g, 2, none⟩ = some (.int .i64 a.pv) := ⟨h.cell 0, h.cell 1, h.cell 2⟩
theorem BoxSe.range0 (h : BoxSe w g a) {pre l post : List Value} (e : sel a = pre ++ (l ++ post)) : w.rangeAt g pre.length l := fun j u hu => by
  rw [h.cell, e, List.getElem?_append_right (by omega), Nat.add_sub_cancel_left, List.getElem?_append_left (List.getElem?_eq_some_iff.1 hu).1]
  exact hu
theorem BoxSe.hash (h : BoxSe w g a) : w.rangeAt g 3 (bcells a.pa) := h.range0 (pre := [.int .i64 a.vi, .int .i64 a.ph, .int .i64 a.pv]) (post := []) (by rw [List.append_nil]; rfl)
end
noncomputable def loadSe (v : Value) (w : World) : Result Next := Sem.run Tryd.prog (execOp (fun _ => v) { dst := none, op := .load 25 (.tmp 0), type := 0, pos := "", after := #[], guard := none }) w
theorem exec_load_se (r : Operand → Value) (x : Operand) (dst : Option Tmp) (ty : TypeId) (pos : String) (after : Array Edge) (guard : Option (Nat × Bool)) (w : World) :
    Sem.run Tryd.prog (execOp r { dst := dst, op := .load 25 x, type := ty, pos := pos, after := after, guard := guard }) w = loadSe (r x) w := rfl
theorem under_se : Tryd.prog.underlying 25 = some (.struct (Tryd.prog.fieldsOf 25)) := by kernel_rfl
theorem size_se : (Tryd.prog.info? 25).map (·.size) = some 35 := by kernel_rfl
theorem loadSe_row {w : World} {g : Nat} {C : Array Value} {T : TypeId} (h : w.heap[g]? = some (.cells C T (0, 0))) (hs : C.size = 35) : loadSe (.pointer (some ⟨g, 0, none⟩)) w = .ok (.value (.agg C)) w := by
  have := run_loadAt_mid (P := Tryd.prog) w g 0 25 C.toList _ (fun j v hj => by rw [Nat.zero_add, cell_blk h j]; simpa using hj) under_se rfl (by rw [size_se]; simp [hs])
  simp only [Array.toArray_toList] at this
  unfold loadSe execOp
  simp only [Sem.run_bind, this, Result.andThen_ok, Sem.run_pure]
theorem loadSe_eq {w : World} {g : Nat} {a : SeM} (h : BoxSe w g a) (ho : a.Ok) : loadSe (.pointer (some ⟨g, 0, none⟩)) w = .ok (.value (.agg (sec a))) w := loadSe_row h (sec_size ho)
theorem sel_one (a : SeM) : ∀ u ∈ sel a, u.oneCell' = true := by
  intro u hu
  unfold sel at hu
  simp only [List.mem_append, List.mem_cons, List.not_mem_nil, or_false] at hu
  rcases hu with (rfl | rfl | rfl) | hu
  · rfl
  · rfl
  · rfl
  · exact bcells_one _ u hu
theorem sec_one (a : SeM) : (sec a).all (·.oneCell') = true := all_oneCell_toArray (sel_one a)
theorem zero_se : (Tryd.prog.info? 25).bind (·.zero) = some (.agg (sec seZ)) := by kernel_rfl
theorem run_zero_se (w : World) : (zeroValue 25).run Tryd.prog w = .ok (.agg (sec seZ)) w := by
  have h := zero_se
  cases hq : Tryd.prog.info? 25 with
  | none => rw [hq] at h; cases h
  | some i =>
    rw [hq] at h
    have hz : i.zero = some (.agg (sec seZ)) := h
    simp [zeroValue, typeInfo, hq, hz]
noncomputable def buildSe (w : World) : Result Next := Sem.run Tryd.prog (execOp (fun _ => undef) { dst := none, op := .build 25 #[], type := 0, pos := "", after := #[], guard := none }) w
theorem exec_build_se (r : Operand → Value) (dst : Option Tmp) (ty : TypeId) (pos : String) (after : Array Edge) (guard : Option (Nat × Bool)) (w : World) :
    Sem.run Tryd.prog (execOp r { dst := dst, op := .build 25 #[], type := ty, pos := pos, after := after, guard := guard }) w = buildSe w := by
  unfold buildSe execOp
  simp
theorem buildSe_eq (w : World) : buildSe w = .ok (.value (.agg (sec seZ))) w := by
  unfold buildSe
  go_simp
  rfl
noncomputable def allocSe (w : World) : Result Next := Sem.run Tryd.prog (execOp (fun _ => undef) { dst := none, op := .alloc 25, type := 0, pos := "", after := #[], guard := none }) w
theorem exec_alloc_se (r : Operand → Value) (dst : Option Tmp) (ty : TypeId) (pos : String) (after : Array Edge) (guard : Option (Nat × Bool)) (w : World) :
    Sem.run Tryd.prog (execOp r { dst := dst, op := .alloc 25, type := ty, pos := pos, after := after, guard := guard }) w = allocSe w := rfl
theorem allocSe_eq (w : World) : allocSe w = .ok (.value (.pointer (some ⟨w.heap.size, 0, none⟩))) (w.alloc (.cells (sec seZ) 25)) := by
  unfold allocSe execOp
  simp only [Sem.run_bind, Instr.alloc, run_zero_se, newVar, newRow, run_newObj_alloc, Sem.run_pure, Result.andThen_ok, Value.cells]
noncomputable def storeSe (p v : Value) (w : World) : Result Next := Sem.run Tryd.prog (execOp (fun x => match x with
  | .tmp 0 => p
  | _ => v) { dst := none, op := .store 25 (.tmp 0) (.tmp 1), type := 0, pos := "", after := #[], guard := none }) w
theorem exec_store_se (r : Operand → Value) (x y : Operand) (dst : Option Tmp) (ty : TypeId) (pos : String) (after : Array Edge) (guard : Option (Nat × Bool)) (w : World) :
    Sem.run Tryd.prog (execOp r { dst := dst, op := .store 25 x y, type := ty, pos := pos, after := after, guard := guard }) w = storeSe (r x) (r y) w := rfl
def setSe (w : World) (g : Nat) (C : Array Value) : World := w.setRow g C
theorem storeSe_eq {w : World} {g : Nat} {t : TypeId} {C0 C : Array Value} (hg : w.heap[g]? = some (.cells C0 t (0, 0))) (h0 : C0.size = 35) (hC : C.size = 35) (h1 : C.all (·.oneCell') = true) :
    storeSe (.pointer (some ⟨g, 0, none⟩)) (.agg C) w = .ok .skip (setSe w g C) := by
  have := run_storeVar_row (P := Tryd.prog) w g t 25 C0 C hg (by rw [size_se, hC]) (by rw [h0, hC]) h1
  unfold storeSe execOp
  simp only [Instr.storeAt, Instr.sureAddr, Sem.run_bind, Sem.run_pure, Result.andThen_ok, this]
  rfl
theorem setSe_other (w : World) {g k : Nat} (C : Array Value) (hk : k ≠ g) : (setSe w g C).heap[k]? = w.heap[k]? := setRow_other w g k _ hk
theorem setSe_same {w : World} {g : Nat} {t : TypeId} {C0 C : Array Value} (hg : w.heap[g]? = some (.cells C0 t (0, 0))) : (setSe w g C).heap[g]? = some (.cells C t (0, 0)) := setRow_heap w g _ _ t _ hg
end Go.Proofs.YtifkkpfiejiojaaDoor
namespace Go.Proofs.YtifkkpfiejiojaaDoor
set_option maxRecDepth 20000
open Go.RowKit
def putOkS (i n : Int) (s : SeM) : Bool := nodeB i && (versB n && mayS s)
def SeCheckOk : Prop := ∀ (s : SeM) (w : World), s.Ok → Calls Tryd.prog 7 #[.agg (sec s)] w fun e w' => e = .returned (.int .i64 (if mayS s = true then 0 else 1)) ∧ Below w.heap.size w w'
def SeLessOk : Prop := ∀ (a b : SeM) (w : World), a.Ok → b.Ok → Calls Tryd.prog 8 #[.agg (sec a), .agg (sec b)] w fun e w' => e = .returned (.bool (lessS a b)) ∧ Below w.heap.size w w'
def SePutOk : Prop := ∀ (i n : Int) (s : SeM) (w : World), (Lit.int .i64 i).wf = true → (Lit.int .i64 n).wf = true → s.Ok → Kst 1 w →
  Calls Tryd.prog 5 #[.int .i64 i, .int .i64 n, .agg (sec s)] w fun e w' => ∃ x, e = .returned (.tuple #[x, .int .i64 (if putOkS i n s = true then 0 else 1)]) ∧ Byt w' x (if putOkS i n s = true then blobS i n s else []) ∧ Below w.heap.size w w'
def SeGetOk : Prop := ∀ (i : Int) (v : Value) (l : List UInt8) (w : World), (Lit.int .i64 i).wf = true → Byt w v l → l.length ≤ 1000000 → Kst 1 w →
  Calls Tryd.prog 11 #[.int .i64 i, v] w fun e w' => e = .returned (.tuple #[.int .i64 (getB i l).1, .agg (sec (getB i l).2.1), .int .i64 (getB i l).2.2]) ∧ Below w.heap.size w w'
theorem getB_ok (i : Int) (l : List UInt8) : (getB i l).2.1.Ok := by
  unfold getB
  split
  · split
    · exact rawB_ok l
    · exact seZ_ok
  · exact seZ_ok
end Go.Proofs.YtifkkpfiejiojaaDoor
namespace Go.Proofs.YtifkkpfiejiojaaDoor
set_option maxRecDepth 20000
open Go.RowKit
theorem eq_hash_at (d : Nat) (a b : List UInt8) (ha : a.length = 32) (hb : b.length = 32) (w : World) : (Op.equalIn (d + 2) 23 (.agg (hcells a)) (.agg (hcells b))).run Tryd.prog w = .ok (decide (a = b)) w := by
  obtain ⟨i0, hi, _⟩ := info_parts info_u8
  rw [run_equalIn_array w (d + 1) (hcells a) (hcells b) under_hash hi, eqItems_bytes d a b w _ (fun i h => by have := List.mem_range.1 h; omega)]
  congr 1
  rw [Bool.eq_iff_iff]
  simp only [List.all_eq_true, List.mem_range, decide_eq_true_eq]
  constructor
  · intro h
    apply List.ext_getElem?
    intro i
    by_cases h32 : i < 32
    · exact h i h32
    · rw [List.getElem?_eq_none (by omega), List.getElem?_eq_none (by omega)]
  · rintro rfl i _
    rfl
def eqF (d : Nat) (xs ys : Array Value) : List (TypeId × Nat × Bool) → Sem Bool
  | [] => pure true
  | (t, o, s) :: fs =>
    if s = true then eqF d xs ys fs
    else do
      let a ← Go.part t xs o
      let b ← Go.part t ys o
      let r ← Op.equalIn d t a b
      if (!r) = true then pure false else eqF d xs ys fs
theorem eqF_of (d : Nat) (xs ys : Array Value) : ∀ fs : List Field, Op.eqFields d xs ys fs = eqF d xs ys (fs.map fun f => (f.type, f.offset, f.name == "_"))
  | [] => rfl
  | f :: fs => by
    unfold Op.eqFields
    rw [eqF_of d xs ys fs, List.map_cons]
    conv => rhs; unfold eqF
    by_cases h : f.name = "_" <;> simp [h]
theorem eqF_step {P : Program} {d : Nat} {xs ys : Array Value} {t : TypeId} {o : Nat} {fs : List (TypeId × Nat × Bool)} {w : World} {u v : Value} {r : Bool} (h1 : (Go.part t xs o).run P w = .ok u w) (h2 : (Go.part t ys o).run P w = .ok v w)
    (h3 : (Op.equalIn d t u v).run P w = .ok r w) : (eqF d xs ys ((t, o, false) :: fs)).run P w = if r = true then (eqF d xs ys fs).run P w else .ok false w := by
  conv => lhs; unfold eqF
  simp only [Bool.false_eq_true, if_false, Sem.run_bind, h1, h2, h3, Result.andThen_ok]
  cases r <;> rfl
theorem under_att_int : Tryd.prog.underlying 3 = some (.int .i64) := by kernel_rfl
theorem part_att_hash {w : World} {C : Array Value} {o : Nat} {l : List UInt8} (h : (C.toList.drop o).take 32 = bcells l) : (Go.part 23 C o).run Tryd.prog w = .ok (.agg (hcells l)) w := by
  have hz := size_hash
  obtain ⟨i, hi, hs⟩ := Option.map_eq_some_iff.1 hz
  have hc : Tryd.prog.cellsOf 23 = 32 := by kernel_rfl
  have e : C.extract o (o + 32) = hcells l := by
    apply Array.ext'
    rw [hcells_list, ← h, Array.toList_extract, List.extract_eq_take_drop]
    simp
  unfold Go.part
  simp only [Sem.run_bind, isAgg, run_underlying under_hash, Result.andThen_ok, run_sizeOf w hi, hc, e, Sem.run_pure, if_true]
theorem part_att_int {w : World} {C : Array Value} {o : Nat} {v : Value} (h : C[o]? = some v) : (Go.part 3 C o).run Tryd.prog w = .ok v w := run_part_plain (P := Tryd.prog) w (by kernel_rfl) h
theorem drop_at {α : Type} {l pre m post : List α} {o : Nat} (e : l = pre ++ (m ++ post)) (ho : pre.length = o) (hm : m.length = 32) : (l.drop o).take 32 = m := by
  subst e ho
  rw [List.drop_left, ← hm, List.take_left]
end Go.Proofs.YtifkkpfiejiojaaDoor
namespace Go.Proofs.YtifkkpfiejiojaaDoor
set_option maxRecDepth 20000
open Go.RowKit
attribute [local go_sem ↓] exec_load_hash
theorem one_own (w : World) (n : Nat) (h : n < 256) : Own w.heap.size (w.alloc (.cells #[.int .u8 (n : Int)] 5)) (.slice (some ⟨w.heap.size, 0, none⟩) 1 1) [UInt8.ofNat n] :=
  own_of_blk (l := [UInt8.ofNat n]) (by
    have e : (n : Int) = ((UInt8.ofNat n).toNat : Int) := by rw [UInt8.toNat_ofNat']; omega
    rw [e]
    exact heap_alloc_new w _) (Nat.le_refl _) rfl (by unfold maxLen; omega)
end Go.Proofs.YtifkkpfiejiojaaDoor
namespace Go.Proofs.YtifkkpfiejiojaaDoor
set_option maxRecDepth 20000
open Go.ChangeShapes Go.WideShapes Go.ChangeAt Go.RowKit Go.Deep
theorem drop_part {α : Type} {cs l : List α} {o k : Nat} (h : (cs.drop o).take k = l) : cs.drop o = l ++ cs.drop (o + k) := by
  conv => lhs; rw [← List.take_append_drop k (cs.drop o), List.drop_drop, h]
end Go.Proofs.YtifkkpfiejiojaaDoor
namespace Go.Proofs.YtifkkpfiejiojaaDoor
set_option maxRecDepth 20000
open Go.RowKit
attribute [local go_sem ↓] exec_build_hash
theorem tag_one (i : Int) (d : UInt8) (v0 : Value) (l0 : List UInt8) (gp c : Nat) (w : World) (hg : gp < w.heap.size) (h0 : w.cell? ⟨gp, 0, none⟩ = some v0) (b0 : Byt w v0 l0) (hl : l0.length ≤ 1000000) (hK : Kst 1 w) :
    Calls Tryd.prog 18 #[.int .i64 i, .int .u8 (d.toNat : Int), .slice (some ⟨gp, 0, none⟩) 1 c] w fun e w' => e = .returned (.agg (hcells (Go.Proofs.YtifkkpfiejiojaaDoor.hl 32 (tagF i d l0)))) ∧ Below w.heap.size w w' := by
  have h := tag_any i d [l0] (fun _ => v0) gp 1 c w rfl hg (fun j hj => by
    match j, hj with
    | 0, _ => exact h0) (fun j hj => by
    match j, hj with
    | 0, _ => exact b0) (by simpa using hl) (by omega) hK
  have e : ([l0] : List (List UInt8)).flatten = l0 := by simp
  rw [e, fcells_hl] at h
  exact h
theorem alloc_cell0 (w : World) (x : Value) (T : TypeId) : (w.alloc (.cells #[x] T)).cell? ⟨w.heap.size, 0, none⟩ = some x := by simp
end Go.Proofs.YtifkkpfiejiojaaDoor
namespace Go.Proofs.YtifkkpfiejiojaaDoor
set_option maxRecDepth 20000
open Go.RowKit
attribute [local go_sem ↓] exec_load_hash
theorem check_hash (i : Int) (d : UInt8) (t : List UInt8) (ht : t.length = 32) (v0 : Value) (l0 : List UInt8) (gp c : Nat) (w : World) (hg : gp < w.heap.size) (h0 : w.cell? ⟨gp, 0, none⟩ = some v0) (b0 : Byt w v0 l0) (hl0 : l0.length ≤ 1000000) (hK : Kst 1 w) :
    Calls Tryd.prog 26 #[.int .i64 i, .int .u8 (d.toNat : Int), .agg (hcells t), .slice (some ⟨gp, 0, none⟩) 1 c] w fun e w' => e = .returned (.bool (nodeB i && decide (t = hl 32 (tagF i d l0)))) ∧ Below w.heap.size w w' := by
  have e : ([l0] : List (List UInt8)).flatten = l0 := by simp
  have h := check_any i d (fun j => t.getD j 0) [l0] (fun _ => v0) gp 1 c w rfl hg (fun j hj => by
    obtain rfl : j = 0 := by omega
    exact h0) (fun j hj => by
    have hj2 : j < 1 := hj
    obtain rfl : j = 0 := by omega
    exact b0) (by rw [e]; omega) (by omega) hK
  have et : hl 32 (fun j => t.getD j 0) = t := by
    apply List.ext_getElem
    · rw [hl_length, ht]
    · intro j h1 h2
      rw [hl_get]
      simp [List.getD, h2]
  rw [e, fcells_hl, et] at h
  unfold checkB sameB at h
  rw [et] at h
  exact h
end Go.Proofs.YtifkkpfiejiojaaDoor
