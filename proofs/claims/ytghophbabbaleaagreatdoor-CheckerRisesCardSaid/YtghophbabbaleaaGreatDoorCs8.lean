/-
  SePure HashMid HashZero SeWords SeOk AtWords AtEq AtMay AtTagged AtTag AtRight AtOk AtCodeMay AtCodeTagged: what each of them says stands at its head.
-/
import Derived.Test.YtghophbabbaleaaGreatDoorCs7
namespace Go.Proofs.YtghophbabbaleaaGreatDoor
set_option maxRecDepth 20000
structure SeM where
  vi : Int
  ph : Int
  pv : Int
  pa : List UInt8
  deriving DecidableEq
def seZ : SeM := ⟨0, 0, 0, z32⟩
def SeM.Ok (s : SeM) : Prop := s.pa.length = 32
theorem seZ_ok : seZ.Ok := rfl
def mayS (s : SeM) : Bool := if s.vi = 0 then decide (s = seZ) else if s.vi < 0 ∨ 1099511627776 < s.vi ∨ s.ph < 1 ∨ 3 < s.ph ∨ s.pv < 0 then false else decide (s.pv < s.vi) || (decide (s.pv = s.vi) && decide (s.ph = 3))
theorem mayS_iff {s : SeM} (h : mayS s = true) : 0 ≤ s.vi ∧ s.vi ≤ 1099511627776 ∧ 0 ≤ s.ph ∧ s.ph ≤ 3 ∧ 0 ≤ s.pv ∧ s.pv ≤ s.vi := by
  unfold mayS at h
  split at h
  · rw [decide_eq_true_eq] at h
    subst h
    decide
  · split at h
    · cases h
    · simp only [Bool.or_eq_true, Bool.and_eq_true, decide_eq_true_eq] at h
      omega
def lessS (a b : SeM) : Bool := decide (a.vi < b.vi) || (decide (a.vi = b.vi) && decide (a.ph < b.ph))
end Go.Proofs.YtghophbabbaleaaGreatDoor
namespace Go.Proofs.YtghophbabbaleaaGreatDoor
set_option maxRecDepth 20000
open Go.RowKit
theorem loadH_mid {w : World} {g o : Nat} {h : List UInt8} (hr : w.rangeAt g o (bcells h)) (hl : h.length = 32) : loadH (.pointer (some ⟨g, o, none⟩)) w = .ok (.value (.agg (hcells h))) w := by
  have := run_loadAt_mid (P := Tryz.prog) w g o 38 (bcells h) _ hr under_hash rfl (by rw [size_hash, bcells_length, hl])
  unfold loadH execOp
  simp only [Sem.run_bind, this, Result.andThen_ok, Sem.run_pure]
  rfl
def putAt (C : Array Value) (o : Nat) : List Value → Array Value
  | [] => C
  | v :: r => putAt (C.setIfInBounds o v) (o + 1) r
theorem setCells_row {g : Nat} {t : TypeId} : ∀ (vs : List Value) (o : Nat) (w : World) (C : Array Value), w.heap[g]? = some (.cells C t (0, 0)) → (w.setCells g o vs).heap[g]? = some (.cells (putAt C o vs) t (0, 0))
  | [], _, _, _, h => h
  | v :: r, o, w, C, h => setCells_row r (o + 1) (w.setCell ⟨g, o, none⟩ v) (C.setIfInBounds o v) (set_blk h o v)
theorem putAt_mid : ∀ (vs pre old post : List Value), old.length = vs.length → putAt (pre ++ (old ++ post)).toArray pre.length vs = (pre ++ (vs ++ post)).toArray
  | [], pre, old, post, h => by
    obtain rfl : old = [] := List.eq_nil_of_length_eq_zero h
    rfl
  | v :: r, pre, o :: old, post, h => by
    have e : (pre ++ (o :: old ++ post)).toArray.setIfInBounds pre.length v = ((pre ++ [v]) ++ (old ++ post)).toArray := by
      simp
    have e2 : pre.length + 1 = (pre ++ [v]).length := by simp
    unfold putAt
    rw [e, e2, putAt_mid r (pre ++ [v]) old post (by simpa using h)]
    simp
  | _ :: _, _, [], _, h => by cases h
theorem wpList_store_midh {ops : Array Oper} {rest : List Oper} {o : Oper} {a : Act} {w : World} {Q : Exit → Act → World → Prop} (hgd : o.guard = none) (x y : Operand) (ho : o.op = .store 38 x y)
    {g k : Nat} {t : TypeId} {pre old post : List Value} {h : List UInt8} (hx : a.eval x = .pointer (some ⟨g, k, none⟩)) (hy : a.eval y = .agg (hcells h)) (hg : w.heap[g]? = some (.cells (pre ++ (old ++ post)).toArray t (0, 0))) (hk : k = pre.length) (hold : old.length = 32) (hl : h.length = 32)
    (hh : ∀ w', w.grownBy w' (some g) → w'.heap[g]? = some (.cells (pre ++ (bcells h ++ post)).toArray t (0, 0)) → w'.heap.size = w.heap.size → wpList Tryz.prog ops Q rest (a.put o.dst undef) w') : wpList Tryz.prog ops Q (o :: rest) a w := by
  subst hk
  refine wpList_store_mid hgd _ x y ho (b := g) (o := pre.length) (cells := hcells h) hx hy (fun j hj => ⟨?_, free_blk hg _⟩) (by rw [size_hash, hcells_size, hl]) (hcells_one _) ?_
  · rw [hcells_size, hl] at hj
    rw [cell_blk hg, List.getElem?_toArray, List.getElem?_append_right (by omega), Nat.add_sub_cancel_left, List.getElem?_append_left (by omega), List.getElem?_eq_getElem (by omega)]
    rfl
  · rw [hcells_list]
    refine hh _ (grown_setCells g _ _ _) ?_ (setCells_size g _ _ _)
    have := setCells_row (bcells h) pre.length w _ hg
    rw [putAt_mid (bcells h) pre old post (by rw [bcells_length, hl, hold])] at this
    exact this
end Go.Proofs.YtghophbabbaleaaGreatDoor
namespace Go.Proofs.YtghophbabbaleaaGreatDoor
set_option maxRecDepth 20000
open Go.RowKit
noncomputable def buildH (w : World) : Result Next := Sem.run Tryz.prog (execOp (fun _ => undef) { dst := none, op := .build 38 #[], type := 0, pos := "", after := #[], guard := none }) w
theorem exec_build_hash (r : Operand → Value) (dst : Option Tmp) (ty : TypeId) (pos : String) (after : Array Edge) (guard : Option (Nat × Bool)) (w : World) :
    Sem.run Tryz.prog (execOp r { dst := dst, op := .build 38 #[], type := ty, pos := pos, after := after, guard := guard }) w = buildH w := by
  unfold buildH execOp
  simp
theorem buildH_eq (w : World) : buildH w = .ok (.value (.agg (fcells 32 fun _ => bcell 0))) w := by
  unfold buildH
  go_simp
  rfl
theorem fcells_nought : fcells 32 (fun _ => bcell 0) = hcells (List.replicate 32 0) := by kernel_rfl
end Go.Proofs.YtghophbabbaleaaGreatDoor
namespace Go.Proofs.YtghophbabbaleaaGreatDoor
set_option maxRecDepth 20000
open Go.RowKit
def sel (a : SeM) : List Value := [.int .i64 a.vi, .int .i64 a.ph, .int .i64 a.pv] ++ bcells a.pa
def sec (a : SeM) : Array Value := (sel a).toArray
theorem sel_length {a : SeM} (h : a.Ok) : (sel a).length = 35 := by
  have : a.pa.length = 32 := h
  unfold sel
  simp only [List.length_append, bcells_length, List.length_cons, List.length_nil]
  omega
theorem sec_size {a : SeM} (h : a.Ok) : (sec a).size = 35 := by
  unfold sec
  rw [List.size_toArray, sel_length h]
def BoxSe (w : World) (g : Nat) (a : SeM) : Prop := w.heap[g]? = some (.cells (sec a) 40 (0, 0))
section
variable {w w' : World} {g : Nat} {a : SeM}
theorem BoxSe.new (w : World) (a : SeM) : BoxSe (w.alloc (.cells (sec a) 40)) w.heap.size a := heap_alloc_new w _
theorem BoxSe.lt (h : BoxSe w g a) : g < w.heap.size := lt_of_block h
theorem BoxSe.below {B : Nat} (h : BoxSe w g a) (hb : Below B w w') (hg : g < B) : BoxSe w' g a := (hb.block g hg).trans h
theorem BoxSe.keep (h : BoxSe w g a) (hb : Below w.heap.size w w') : BoxSe w' g a := h.below hb h.lt
theorem BoxSe.free (h : BoxSe w g a) (i : Nat) : w.frozen? ⟨g, i, none⟩ = false := free_blk h i
theorem BoxSe.cell (h : BoxSe w g a) (i : Nat) : w.cell? ⟨g, i, none⟩ = (sel a)[i]? := by
  rw [cell_blk h i]
  unfold sec
  rw [List.getElem?_toArray]
theorem BoxSe.cells (h : BoxSe w g a) : w.cell? ⟨g, 0, none⟩ = some (.int .i64 a.vi) ∧ w.cell? ⟨g, 1, none⟩ = some (.int .i64 a.ph) ∧ w.cell? ⟨g, 2, none⟩ = some (.int .i64 a.pv) := ⟨h.cell 0, h.cell 1, h.cell 2⟩
theorem BoxSe.range0 (h : BoxSe w g a) {pre l post : List Value} (e : sel a = pre ++ (l ++ post)) : w.rangeAt g pre.length l := fun j u hu => by
  rw [h.cell, e, List.getElem?_append_right (by omega), Nat.add_sub_cancel_left, List.getElem?_append_left (List.getElem?_eq_some_iff.1 hu).1]
  exact hu
theorem BoxSe.hash (h : BoxSe w g a) : w.rangeAt g 3 (bcells a.pa) := h.range0 (pre := [.int .i64 a.vi, .int .i64 a.ph, .int .i64 a.pv]) (post := []) (by rw [List.append_nil]; rfl)
end
noncomputable def loadSe (v : Value) (w : World) : Result Next := Sem.run Tryz.prog (execOp (fun _ => v) { dst := none, op := .load 40 (.tmp 0), type := 0, pos := "", after := #[], guard := none }) w
theorem exec_load_se (r : Operand → Value) (x : Operand) (dst : Option Tmp) (ty : TypeId) (pos : String) (after : Array Edge) (guard : Option (Nat × Bool)) (w : World) :
    Sem.run Tryz.prog (execOp r { dst := dst, op := .load 40 x, type := ty, pos := pos, after := after, guard := guard }) w = loadSe (r x) w := rfl
theorem under_se : Tryz.prog.underlying 40 = some (.struct (Tryz.prog.fieldsOf 40)) := by kernel_rfl
theorem size_se : (Tryz.prog.info? 40).map (·.size) = some 35 := by kernel_rfl
theorem loadSe_row {w : World} {g : Nat} {C : Array Value} {T : TypeId} (h : w.heap[g]? = some (.cells C T (0, 0))) (hs : C.size = 35) : loadSe (.pointer (some ⟨g, 0, none⟩)) w = .ok (.value (.agg C)) w := by
  have := run_loadAt_mid (P := Tryz.prog) w g 0 40 C.toList _ (fun j v hj => by rw [Nat.zero_add, cell_blk h j]; simpa using hj) under_se rfl (by rw [size_se]; simp [hs])
  simp only [Array.toArray_toList] at this
  unfold loadSe execOp
  simp only [Sem.run_bind, this, Result.andThen_ok, Sem.run_pure]
theorem loadSe_eq {w : World} {g : Nat} {a : SeM} (h : BoxSe w g a) (ho : a.Ok) : loadSe (.pointer (some ⟨g, 0, none⟩)) w = .ok (.value (.agg (sec a))) w := loadSe_row h (sec_size ho)
theorem sel_one (a : SeM) : ∀ u ∈ sel a, u.oneCell' = true := by
  intro u hu
  unfold sel at hu
  simp only [List.mem_append, List.mem_cons, List.not_mem_nil, or_false] at hu
  rcases hu with (rfl | rfl | rfl) | hu
  · rfl
  · rfl
  · rfl
  · exact bcells_one _ u hu
theorem sec_one (a : SeM) : (sec a).all (·.oneCell') = true := all_oneCell_toArray (sel_one a)
theorem zero_se : (Tryz.prog.info? 40).bind (·.zero) = some (.agg (sec seZ)) := by kernel_rfl
theorem run_zero_se (w : World) : (zeroValue 40).run Tryz.prog w = .ok (.agg (sec seZ)) w := by
  have h := zero_se
  cases hq : Tryz.prog.info? 40 with
  | none => rw [hq] at h; cases h
  | some i =>
    rw [hq] at h
    have hz : i.zero = some (.agg (sec seZ)) := h
    simp [zeroValue, typeInfo, hq, hz]
noncomputable def buildSe (w : World) : Result Next := Sem.run Tryz.prog (execOp (fun _ => undef) { dst := none, op := .build 40 #[], type := 0, pos := "", after := #[], guard := none }) w
theorem exec_build_se (r : Operand → Value) (dst : Option Tmp) (ty : TypeId) (pos : String) (after : Array Edge) (guard : Option (Nat × Bool)) (w : World) :
    Sem.run Tryz.prog (execOp r { dst := dst, op := .build 40 #[], type := ty, pos := pos, after := after, guard := guard }) w = buildSe w := by
  unfold buildSe execOp
  simp
theorem buildSe_eq (w : World) : buildSe w = .ok (.value (.agg (sec seZ))) w := by
  unfold buildSe
  go_simp
  rfl
noncomputable def allocSe (w : World) : Result Next := Sem.run Tryz.prog (execOp (fun _ => undef) { dst := none, op := .alloc 40, type := 0, pos := "", after := #[], guard := none }) w
theorem exec_alloc_se (r : Operand → Value) (dst : Option Tmp) (ty : TypeId) (pos : String) (after : Array Edge) (guard : Option (Nat × Bool)) (w : World) :
    Sem.run Tryz.prog (execOp r { dst := dst, op := .alloc 40, type := ty, pos := pos, after := after, guard := guard }) w = allocSe w := rfl
theorem allocSe_eq (w : World) : allocSe w = .ok (.value (.pointer (some ⟨w.heap.size, 0, none⟩))) (w.alloc (.cells (sec seZ) 40)) := by
  unfold allocSe execOp
  simp only [Sem.run_bind, Instr.alloc, run_zero_se, newVar, newRow, run_newObj_alloc, Sem.run_pure, Result.andThen_ok, Value.cells]
noncomputable def storeSe (p v : Value) (w : World) : Result Next := Sem.run Tryz.prog (execOp (fun x => match x with
  | .tmp 0 => p
  | _ => v) { dst := none, op := .store 40 (.tmp 0) (.tmp 1), type := 0, pos := "", after := #[], guard := none }) w
theorem exec_store_se (r : Operand → Value) (x y : Operand) (dst : Option Tmp) (ty : TypeId) (pos : String) (after : Array Edge) (guard : Option (Nat × Bool)) (w : World) :
    Sem.run Tryz.prog (execOp r { dst := dst, op := .store 40 x y, type := ty, pos := pos, after := after, guard := guard }) w = storeSe (r x) (r y) w := rfl
def setSe (w : World) (g : Nat) (C : Array Value) : World := w.setRow g C
theorem storeSe_eq {w : World} {g : Nat} {t : TypeId} {C0 C : Array Value} (hg : w.heap[g]? = some (.cells C0 t (0, 0))) (h0 : C0.size = 35) (hC : C.size = 35) (h1 : C.all (·.oneCell') = true) :
    storeSe (.pointer (some ⟨g, 0, none⟩)) (.agg C) w = .ok .skip (setSe w g C) := by
  have := run_storeVar_row (P := Tryz.prog) w g t 40 C0 C hg (by rw [size_se, hC]) (by rw [h0, hC]) h1
  unfold storeSe execOp
  simp only [Instr.storeAt, Instr.sureAddr, Sem.run_bind, Sem.run_pure, Result.andThen_ok, this]
  rfl
theorem setSe_other (w : World) {g k : Nat} (C : Array Value) (hk : k ≠ g) : (setSe w g C).heap[k]? = w.heap[k]? := setRow_other w g k _ hk
theorem setSe_same {w : World} {g : Nat} {t : TypeId} {C0 C : Array Value} (hg : w.heap[g]? = some (.cells C0 t (0, 0))) : (setSe w g C).heap[g]? = some (.cells C t (0, 0)) := setRow_heap w g _ _ t _ hg
theorem setSe_below {B g : Nat} {a w : World} {C : Array Value} (hb : Below B a w) (hg : B ≤ g) : Below B a (setSe w g C) := below_setRow hb hg _
end Go.Proofs.YtghophbabbaleaaGreatDoor
namespace Go.Proofs.YtghophbabbaleaaGreatDoor
set_option maxRecDepth 20000
open Go.RowKit
def SeCheckOk : Prop := ∀ (s : SeM) (w : World), s.Ok → Calls Tryz.prog 40 #[.agg (sec s)] w fun e w' => e = .returned (.int .i64 (if mayS s = true then 0 else 1)) ∧ Below w.heap.size w w'
def SeLessOk : Prop := ∀ (a b : SeM) (w : World), a.Ok → b.Ok → Calls Tryz.prog 91 #[.agg (sec a), .agg (sec b)] w fun e w' => e = .returned (.bool (lessS a b)) ∧ Below w.heap.size w w'
end Go.Proofs.YtghophbabbaleaaGreatDoor
namespace Go.Proofs.YtghophbabbaleaaGreatDoor
set_option maxRecDepth 20000
open Go.RowKit
def atl (a : AtM) : List Value := [.int .i64 a.bo, .int .i64 a.ki, .int .i64 a.vi, .int .i64 a.ph] ++ (bcells a.ha ++ ([.int .i64 a.pv] ++ (bcells a.pa ++ bcells a.tg)))
def atc (a : AtM) : Array Value := (atl a).toArray
theorem atl_length {a : AtM} (h : a.Ok) : (atl a).length = 101 := by
  have := h.ha
  have := h.pa
  have := h.tg
  unfold atl
  simp only [List.length_append, bcells_length, List.length_cons, List.length_nil]
  omega
theorem atc_size {a : AtM} (h : a.Ok) : (atc a).size = 101 := by
  unfold atc
  rw [List.size_toArray, atl_length h]
def BoxA (w : World) (g : Nat) (a : AtM) : Prop := w.heap[g]? = some (.cells (atc a) 52 (0, 0))
section
variable {w w' : World} {g : Nat} {a : AtM}
theorem BoxA.new (w : World) (a : AtM) : BoxA (w.alloc (.cells (atc a) 52)) w.heap.size a := heap_alloc_new w _
theorem BoxA.lt (h : BoxA w g a) : g < w.heap.size := lt_of_block h
theorem BoxA.below {B : Nat} (h : BoxA w g a) (hb : Below B w w') (hg : g < B) : BoxA w' g a := (hb.block g hg).trans h
theorem BoxA.keep (h : BoxA w g a) (hb : Below w.heap.size w w') : BoxA w' g a := h.below hb h.lt
theorem BoxA.free (h : BoxA w g a) (i : Nat) : w.frozen? ⟨g, i, none⟩ = false := free_blk h i
theorem BoxA.cell (h : BoxA w g a) (i : Nat) : w.cell? ⟨g, i, none⟩ = (atl a)[i]? := by
  rw [cell_blk h i]
  unfold atc
  rw [List.getElem?_toArray]
theorem BoxA.cells (h : BoxA w g a) : w.cell? ⟨g, 0, none⟩ = some (.int .i64 a.bo) ∧ w.cell? ⟨g, 1, none⟩ = some (.int .i64 a.ki) ∧ w.cell? ⟨g, 2, none⟩ = some (.int .i64 a.vi) ∧ w.cell? ⟨g, 3, none⟩ = some (.int .i64 a.ph) :=
  ⟨h.cell 0, h.cell 1, h.cell 2, h.cell 3⟩
theorem BoxA.range0 (h : BoxA w g a) {pre l post : List Value} (e : atl a = pre ++ (l ++ post)) : w.rangeAt g pre.length l := fun j u hu => by
  rw [h.cell, e, List.getElem?_append_right (by omega), Nat.add_sub_cancel_left, List.getElem?_append_left (List.getElem?_eq_some_iff.1 hu).1]
  exact hu
theorem BoxA.pv (h : BoxA w g a) (ho : a.Ok) : w.cell? ⟨g, 36, none⟩ = some (.int .i64 a.pv) := by
  have := h.range0 (pre := [.int .i64 a.bo, .int .i64 a.ki, .int .i64 a.vi, .int .i64 a.ph] ++ bcells a.ha) (l := [.int .i64 a.pv]) (post := bcells a.pa ++ bcells a.tg) (by unfold atl; simp only [List.append_assoc]) 0 _ rfl
  rw [List.length_append, bcells_length, ho.ha] at this
  exact this
theorem BoxA.hash (h : BoxA w g a) : w.rangeAt g 4 (bcells a.ha) := h.range0 (pre := [.int .i64 a.bo, .int .i64 a.ki, .int .i64 a.vi, .int .i64 a.ph]) rfl
theorem BoxA.phash (h : BoxA w g a) (ho : a.Ok) : w.rangeAt g 37 (bcells a.pa) := by
  have := h.range0 (pre := [.int .i64 a.bo, .int .i64 a.ki, .int .i64 a.vi, .int .i64 a.ph] ++ (bcells a.ha ++ [.int .i64 a.pv])) (l := bcells a.pa) (post := bcells a.tg) (by unfold atl; simp only [List.append_assoc])
  rw [List.length_append, List.length_append, bcells_length, ho.ha] at this
  exact this
theorem BoxA.tag (h : BoxA w g a) (ho : a.Ok) : w.rangeAt g 69 (bcells a.tg) := by
  have := h.range0 (pre := [.int .i64 a.bo, .int .i64 a.ki, .int .i64 a.vi, .int .i64 a.ph] ++ (bcells a.ha ++ ([.int .i64 a.pv] ++ bcells a.pa))) (l := bcells a.tg) (post := []) (by unfold atl; simp only [List.append_assoc, List.append_nil])
  rw [List.length_append, List.length_append, List.length_append, bcells_length, bcells_length, ho.ha, ho.pa] at this
  exact this
end
noncomputable def loadAtt (v : Value) (w : World) : Result Next := Sem.run Tryz.prog (execOp (fun _ => v) { dst := none, op := .load 52 (.tmp 0), type := 0, pos := "", after := #[], guard := none }) w
theorem exec_load_att (r : Operand → Value) (x : Operand) (dst : Option Tmp) (ty : TypeId) (pos : String) (after : Array Edge) (guard : Option (Nat × Bool)) (w : World) :
    Sem.run Tryz.prog (execOp r { dst := dst, op := .load 52 x, type := ty, pos := pos, after := after, guard := guard }) w = loadAtt (r x) w := rfl
theorem under_att : Tryz.prog.underlying 52 = some (.struct (Tryz.prog.fieldsOf 52)) := by kernel_rfl
theorem size_att : (Tryz.prog.info? 52).map (·.size) = some 101 := by kernel_rfl
theorem loadAtt_row {w : World} {g : Nat} {C : Array Value} {T : TypeId} (h : w.heap[g]? = some (.cells C T (0, 0))) (hs : C.size = 101) : loadAtt (.pointer (some ⟨g, 0, none⟩)) w = .ok (.value (.agg C)) w := by
  have := run_loadAt_mid (P := Tryz.prog) w g 0 52 C.toList _ (fun j v hj => by rw [Nat.zero_add, cell_blk h j]; simpa using hj) under_att rfl (by rw [size_att]; simp [hs])
  simp only [Array.toArray_toList] at this
  unfold loadAtt execOp
  simp only [Sem.run_bind, this, Result.andThen_ok, Sem.run_pure]
theorem loadAtt_eq {w : World} {g : Nat} {a : AtM} (h : BoxA w g a) (ho : a.Ok) : loadAtt (.pointer (some ⟨g, 0, none⟩)) w = .ok (.value (.agg (atc a))) w := loadAtt_row h (atc_size ho)
theorem atl_one (a : AtM) : ∀ u ∈ atl a, u.oneCell' = true := by
  intro u hu
  unfold atl at hu
  simp only [List.mem_append, List.mem_cons, List.not_mem_nil, or_false] at hu
  rcases hu with (rfl | rfl | rfl | rfl) | hu | rfl | hu | hu
  · rfl
  · rfl
  · rfl
  · rfl
  · exact bcells_one _ u hu
  · rfl
  · exact bcells_one _ u hu
  · exact bcells_one _ u hu
theorem atc_one (a : AtM) : (atc a).all (·.oneCell') = true := all_oneCell_toArray (atl_one a)
theorem zero_att : (Tryz.prog.info? 52).bind (·.zero) = some (.agg (atc atZ)) := by kernel_rfl
theorem run_zero_att (w : World) : (zeroValue 52).run Tryz.prog w = .ok (.agg (atc atZ)) w := by
  have h := zero_att
  cases hq : Tryz.prog.info? 52 with
  | none => rw [hq] at h; cases h
  | some i =>
    rw [hq] at h
    have hz : i.zero = some (.agg (atc atZ)) := h
    simp [zeroValue, typeInfo, hq, hz]
noncomputable def buildAtt (w : World) : Result Next := Sem.run Tryz.prog (execOp (fun _ => undef) { dst := none, op := .build 52 #[], type := 0, pos := "", after := #[], guard := none }) w
theorem exec_build_att (r : Operand → Value) (dst : Option Tmp) (ty : TypeId) (pos : String) (after : Array Edge) (guard : Option (Nat × Bool)) (w : World) :
    Sem.run Tryz.prog (execOp r { dst := dst, op := .build 52 #[], type := ty, pos := pos, after := after, guard := guard }) w = buildAtt w := by
  unfold buildAtt execOp
  simp
theorem buildAtt_eq (w : World) : buildAtt w = .ok (.value (.agg (atc atZ))) w := by
  unfold buildAtt
  go_simp
  rfl
noncomputable def allocAtt (w : World) : Result Next := Sem.run Tryz.prog (execOp (fun _ => undef) { dst := none, op := .alloc 52, type := 0, pos := "", after := #[], guard := none }) w
theorem exec_alloc_att (r : Operand → Value) (dst : Option Tmp) (ty : TypeId) (pos : String) (after : Array Edge) (guard : Option (Nat × Bool)) (w : World) :
    Sem.run Tryz.prog (execOp r { dst := dst, op := .alloc 52, type := ty, pos := pos, after := after, guard := guard }) w = allocAtt w := rfl
theorem allocAtt_eq (w : World) : allocAtt w = .ok (.value (.pointer (some ⟨w.heap.size, 0, none⟩))) (w.alloc (.cells (atc atZ) 52)) := by
  unfold allocAtt execOp
  simp only [Sem.run_bind, Instr.alloc, run_zero_att, newVar, newRow, run_newObj_alloc, Sem.run_pure, Result.andThen_ok, Value.cells]
noncomputable def storeAtt (p v : Value) (w : World) : Result Next := Sem.run Tryz.prog (execOp (fun x => match x with
  | .tmp 0 => p
  | _ => v) { dst := none, op := .store 52 (.tmp 0) (.tmp 1), type := 0, pos := "", after := #[], guard := none }) w
theorem exec_store_att (r : Operand → Value) (x y : Operand) (dst : Option Tmp) (ty : TypeId) (pos : String) (after : Array Edge) (guard : Option (Nat × Bool)) (w : World) :
    Sem.run Tryz.prog (execOp r { dst := dst, op := .store 52 x y, type := ty, pos := pos, after := after, guard := guard }) w = storeAtt (r x) (r y) w := rfl
def setAtt (w : World) (g : Nat) (C : Array Value) : World := w.setRow g C
theorem storeAtt_eq {w : World} {g : Nat} {t : TypeId} {C0 C : Array Value} (hg : w.heap[g]? = some (.cells C0 t (0, 0))) (h0 : C0.size = 101) (hC : C.size = 101) (h1 : C.all (·.oneCell') = true) :
    storeAtt (.pointer (some ⟨g, 0, none⟩)) (.agg C) w = .ok .skip (setAtt w g C) := by
  have := run_storeVar_row (P := Tryz.prog) w g t 52 C0 C hg (by rw [size_att, hC]) (by rw [h0, hC]) h1
  unfold storeAtt execOp
  simp only [Instr.storeAt, Instr.sureAddr, Sem.run_bind, Sem.run_pure, Result.andThen_ok, this]
  rfl
theorem setAtt_other (w : World) {g k : Nat} (C : Array Value) (hk : k ≠ g) : (setAtt w g C).heap[k]? = w.heap[k]? := setRow_other w g k _ hk
theorem setAtt_same {w : World} {g : Nat} {t : TypeId} {C0 C : Array Value} (hg : w.heap[g]? = some (.cells C0 t (0, 0))) : (setAtt w g C).heap[g]? = some (.cells C t (0, 0)) := setRow_heap w g _ _ t _ hg
theorem setAtt_below {B g : Nat} {a w : World} {C : Array Value} (hb : Below B a w) (hg : B ≤ g) : Below B a (setAtt w g C) := below_setRow hb hg _
theorem atl_tag (a : AtM) : atl a = ([.int .i64 a.bo, .int .i64 a.ki, .int .i64 a.vi, .int .i64 a.ph] ++ (bcells a.ha ++ ([.int .i64 a.pv] ++ bcells a.pa))) ++ (bcells a.tg ++ []) := by
  unfold atl
  simp only [List.append_assoc, List.append_nil]
theorem wpList_store_tag {ops : Array Oper} {rest : List Oper} {o : Oper} {ac : Act} {w : World} {Q : Exit → Act → World → Prop} (hgd : o.guard = none) (x y : Operand) (ho : o.op = .store 38 x y)
    {g : Nat} {a : AtM} {h : List UInt8} (hx : ac.eval x = .pointer (some ⟨g, 69, none⟩)) (hy : ac.eval y = .agg (hcells h)) (hg : BoxA w g a) (hok : a.Ok) (hl : h.length = 32)
    (hh : ∀ w', w.grownBy w' (some g) → BoxA w' g { a with tg := h } → w'.heap.size = w.heap.size → wpList Tryz.prog ops Q rest (ac.put o.dst undef) w') : wpList Tryz.prog ops Q (o :: rest) ac w := by
  unfold BoxA atc at hg
  rw [atl_tag] at hg
  refine wpList_store_midh hgd x y ho hx hy hg (by simp only [List.length_append, bcells_length, hok.ha, hok.pa, List.length_cons, List.length_nil]) (by rw [bcells_length, hok.tg]) hl (fun w' h1 h2 h3 => hh w' h1 ?_ h3)
  unfold BoxA atc
  rw [atl_tag]
  exact h2
end Go.Proofs.YtghophbabbaleaaGreatDoor
namespace Go.Proofs.YtghophbabbaleaaGreatDoor
set_option maxRecDepth 20000
open Go.RowKit
theorem eq_hash_at (d : Nat) (a b : List UInt8) (ha : a.length = 32) (hb : b.length = 32) (w : World) : (Op.equalIn (d + 2) 38 (.agg (hcells a)) (.agg (hcells b))).run Tryz.prog w = .ok (decide (a = b)) w := by
  obtain ⟨i0, hi, _⟩ := info_parts info_u8
  rw [run_equalIn_array w (d + 1) (hcells a) (hcells b) under_hash hi, eqItems_bytes d a b w _ (fun i h => by have := List.mem_range.1 h; omega)]
  congr 1
  rw [Bool.eq_iff_iff]
  simp only [List.all_eq_true, List.mem_range, decide_eq_true_eq]
  constructor
  · intro h
    apply List.ext_getElem?
    intro i
    by_cases h32 : i < 32
    · exact h i h32
    · rw [List.getElem?_eq_none (by omega), List.getElem?_eq_none (by omega)]
  · rintro rfl i _
    rfl
def eqF (d : Nat) (xs ys : Array Value) : List (TypeId × Nat × Bool) → Sem Bool
  | [] => pure true
  | (t, o, s) :: fs =>
    if s = true then eqF d xs ys fs
    else do
      let a ← Go.part t xs o
      let b ← Go.part t ys o
      let r ← Op.equalIn d t a b
      if (!r) = true then pure false else eqF d xs ys fs
theorem eqF_of (d : Nat) (xs ys : Array Value) : ∀ fs : List Field, Op.eqFields d xs ys fs = eqF d xs ys (fs.map fun f => (f.type, f.offset, f.name == "_"))
  | [] => rfl
  | f :: fs => by
    unfold Op.eqFields
    rw [eqF_of d xs ys fs, List.map_cons]
    conv => rhs; unfold eqF
    by_cases h : f.name = "_" <;> simp [h]
theorem eqF_step {P : Program} {d : Nat} {xs ys : Array Value} {t : TypeId} {o : Nat} {fs : List (TypeId × Nat × Bool)} {w : World} {u v : Value} {r : Bool} (h1 : (Go.part t xs o).run P w = .ok u w) (h2 : (Go.part t ys o).run P w = .ok v w)
    (h3 : (Op.equalIn d t u v).run P w = .ok r w) : (eqF d xs ys ((t, o, false) :: fs)).run P w = if r = true then (eqF d xs ys fs).run P w else .ok false w := by
  conv => lhs; unfold eqF
  simp only [Bool.false_eq_true, if_false, Sem.run_bind, h1, h2, h3, Result.andThen_ok]
  cases r <;> rfl
theorem fields_att : (Tryz.prog.fieldsOf 52).toList.map (fun f => (f.type, f.offset, f.name == "_")) =
    [(3, 0, false), (3, 1, false), (3, 2, false), (3, 3, false), (38, 4, false), (3, 36, false), (38, 37, false), (38, 69, false)] := by kernel_rfl
theorem under_att_int : Tryz.prog.underlying 3 = some (.int .i64) := by kernel_rfl
theorem part_att_hash {w : World} {C : Array Value} {o : Nat} {l : List UInt8} (h : (C.toList.drop o).take 32 = bcells l) : (Go.part 38 C o).run Tryz.prog w = .ok (.agg (hcells l)) w := by
  have hz := size_hash
  obtain ⟨i, hi, hs⟩ := Option.map_eq_some_iff.1 hz
  have hc : Tryz.prog.cellsOf 38 = 32 := by kernel_rfl
  have e : C.extract o (o + 32) = hcells l := by
    apply Array.ext'
    rw [hcells_list, ← h, Array.toList_extract, List.extract_eq_take_drop]
    simp
  unfold Go.part
  simp only [Sem.run_bind, isAgg, run_underlying under_hash, Result.andThen_ok, run_sizeOf w hi, hc, e, Sem.run_pure, if_true]
theorem part_att_int {w : World} {C : Array Value} {o : Nat} {v : Value} (h : C[o]? = some v) : (Go.part 3 C o).run Tryz.prog w = .ok v w := run_part_plain (P := Tryz.prog) w (by kernel_rfl) h
theorem drop_at {α : Type} {l pre m post : List α} {o : Nat} (e : l = pre ++ (m ++ post)) (ho : pre.length = o) (hm : m.length = 32) : (l.drop o).take 32 = m := by
  subst e ho
  rw [List.drop_left, ← hm, List.take_left]
set_option maxHeartbeats 1600000 in
theorem eq_att (a b : AtM) (ho : a.Ok) (hp : b.Ok) (w : World) : (Op.equalIn 10000 52 (.agg (atc a)) (.agg (atc b))).run Tryz.prog w = .ok (decide (a = b)) w := by
  have K : ∀ c : AtM, c.Ok → (atc c)[0]? = some (.int .i64 c.bo) ∧ (atc c)[1]? = some (.int .i64 c.ki) ∧ (atc c)[2]? = some (.int .i64 c.vi) ∧ (atc c)[3]? = some (.int .i64 c.ph) ∧ (atc c)[36]? = some (.int .i64 c.pv)
      ∧ ((atc c).toList.drop 4).take 32 = bcells c.ha ∧ ((atc c).toList.drop 37).take 32 = bcells c.pa ∧ ((atc c).toList.drop 69).take 32 = bcells c.tg := by
    intro c hc
    refine ⟨rfl, rfl, rfl, rfl, ?_, ?_, ?_, ?_⟩
    · unfold atc atl
      rw [List.getElem?_toArray, List.getElem?_append_right (by simp), List.getElem?_append_right (by simp [bcells_length, hc.ha])]
      simp [bcells_length, hc.ha]
    · exact drop_at (pre := [.int .i64 c.bo, .int .i64 c.ki, .int .i64 c.vi, .int .i64 c.ph]) (m := bcells c.ha) (post := [.int .i64 c.pv] ++ (bcells c.pa ++ bcells c.tg)) rfl rfl (by rw [bcells_length, hc.ha])
    · exact drop_at (pre := [.int .i64 c.bo, .int .i64 c.ki, .int .i64 c.vi, .int .i64 c.ph] ++ (bcells c.ha ++ [.int .i64 c.pv])) (m := bcells c.pa) (post := bcells c.tg) (by show atl c = _; unfold atl; simp only [List.append_assoc]) (by simp [bcells_length, hc.ha]) (by rw [bcells_length, hc.pa])
    · exact drop_at (pre := [.int .i64 c.bo, .int .i64 c.ki, .int .i64 c.vi, .int .i64 c.ph] ++ (bcells c.ha ++ ([.int .i64 c.pv] ++ bcells c.pa))) (m := bcells c.tg) (post := []) (by show atl c = _; unfold atl; simp only [List.append_assoc, List.append_nil]) (by simp [bcells_length, hc.ha, hc.pa]) (by rw [bcells_length, hc.tg])
  obtain ⟨a0, a1, a2, a3, a4, a5, a6, a7⟩ := K a ho
  obtain ⟨b0, b1, b2, b3, b4, b5, b6, b7⟩ := K b hp
  have EI : ∀ x y : Int, (Op.equalIn 9999 3 (.int .i64 x) (.int .i64 y)).run Tryz.prog w = .ok (x == y) w := fun x y => run_equalIn_int (P := Tryz.prog) w 9998 3 .i64 .i64 x y under_att_int
  rw [run_equalIn_struct w 9999 _ _ _ under_att (by kernel_rfl), eqF_of, fields_att]
  rw [eqF_step (part_att_int a0) (part_att_int b0) (EI _ _), eqF_step (part_att_int a1) (part_att_int b1) (EI _ _), eqF_step (part_att_int a2) (part_att_int b2) (EI _ _), eqF_step (part_att_int a3) (part_att_int b3) (EI _ _),
    eqF_step (part_att_hash a5) (part_att_hash b5) (eq_hash_at 9997 _ _ ho.ha hp.ha w), eqF_step (part_att_int a4) (part_att_int b4) (EI _ _),
    eqF_step (part_att_hash a6) (part_att_hash b6) (eq_hash_at 9997 _ _ ho.pa hp.pa w), eqF_step (part_att_hash a7) (part_att_hash b7) (eq_hash_at 9997 _ _ ho.tg hp.tg w)]
  obtain ⟨p1, p2, p3, p4, p5, p6, p7, p8⟩ := a
  obtain ⟨q1, q2, q3, q4, q5, q6, q7, q8⟩ := b
  simp only [eqF, Sem.run_pure, AtM.mk.injEq, beq_iff_eq, decide_eq_true_eq]
  (repeat' split) <;> simp_all
end Go.Proofs.YtghophbabbaleaaGreatDoor
namespace Go.Proofs.YtghophbabbaleaaGreatDoor
set_option maxRecDepth 20000
open Go.RowKit
attribute [local go_sem ↓] exec_load_hash
set_option maxHeartbeats 3200000 in
theorem refMay8_any (a : AtM) (w : World) (ho : a.Ok) :
    Calls Tryz.prog 17 #[.agg (atc a)] w fun e w' => e = .returned (.bool (mayA a)) ∧ Below w.heap.size w w' := by
  have hb0 : Below w.heap.size w (w.alloc (.cells (atc a) 52)) := (Below.refl _ _).alloc (Nat.le_refl _) _
  have hA := BoxA.new w a
  obtain ⟨C, HC⟩ : ∃ C : Array Value, Hid (atc a = C) := ⟨_, hid rfl⟩
  obtain ⟨q, HQ⟩ : ∃ q : Bool, Hid (mayA a = q) := ⟨_, hid rfl⟩
  rw [HC.out] at hb0 hA ⊢
  rw [HQ.out]
  go_enter Tryz.func17, Tryz.ntmps17
  go_upto_region 1 with (fail)
  generalize (w.alloc (.cells C 52)) = w0 at *
  obtain ⟨k0, k1, k2, k3⟩ := hA.cells
  have k5 := hA.pv ho
  clear hA HC ho
  obtain ⟨bo, ki, vi, ph, ha, pv, pa, tg⟩ := a
  simp only at k0 k1 k2 k3 k5
  go_wp2_with fail
  all_goals
    go_ret
    refine ⟨?_, hb0⟩
    refine congrArg (fun b => Ending.returned (Value.bool b)) ?_
    rw [← HQ.out]
    unfold mayA
    simp only
  all_goals grind
end Go.Proofs.YtghophbabbaleaaGreatDoor
namespace Go.Proofs.YtghophbabbaleaaGreatDoor
set_option maxRecDepth 20000
open Go.RowKit
attribute [local go_sem ↓] exec_load_hash
theorem one_own (w : World) (n : Nat) (h : n < 256) : Own w.heap.size (w.alloc (.cells #[.int .u8 (n : Int)] 5)) (.slice (some ⟨w.heap.size, 0, none⟩) 1 1) [UInt8.ofNat n] :=
  own_of_blk (l := [UInt8.ofNat n]) (by
    have e : (n : Int) = ((UInt8.ofNat n).toNat : Int) := by rw [UInt8.toNat_ofNat']; omega
    rw [e]
    exact heap_alloc_new w _) (Nat.le_refl _) rfl (by unfold maxLen; omega)
theorem refBytes7_arr (h : List UInt8) (w : World) (h32 : h.length = 32) :
    Calls Tryz.prog 87 #[.agg (bcells h).toArray] w fun e w' => ∃ x, e = .returned x ∧ Own w.heap.size w' x h ∧ Below w.heap.size w w' := refBytes7_any h w h32
theorem own_past {B : Nat} {w5 wa w7 w8 : World} {v5 v7 : Value} {P l : List UInt8} (h5 : Own B w5 v5 P) (ha : w5.heap.size ≤ wa.heap.size) (h7 : Own wa.heap.size w7 v7 l) (hg : w7.grownBy w8 v5.ownBlock) : Byt w8 v7 l :=
  (h7.keep fun b hlt e => hg.block b hlt (fun e' => by
    have h1 := (World.ownsRow.lt h7 b e).1
    have h2 := (World.ownsRow.lt h5 b e'.symm).2
    omega)).byt
set_option maxHeartbeats 6400000 in
theorem refTagged_of (a : AtM) (w : World) (ho : a.Ok) (hm : 1 ≤ a.ki ∧ a.ki ≤ 3 ∧ a.ph = a.ki ∧ 1 ≤ a.vi ∧ a.vi ≤ 1099511627776 ∧ 0 ≤ a.pv ∧ a.pv ≤ a.vi) :
    Calls Tryz.prog 167 #[.agg (atc a)] w fun e w' => ∃ x, e = .returned x ∧ Own w.heap.size w' x (taggedA a) ∧ Below w.heap.size w w' := by
  obtain ⟨h3, h4, h5, h6, h7, h8, h9⟩ := hm
  have hb0 : Below w.heap.size w (w.alloc (.cells (atc a) 52)) := (Below.refl _ _).alloc (Nat.le_refl _) _
  have hA := BoxA.new w a
  obtain ⟨C, HC⟩ : ∃ C : Array Value, Hid (atc a = C) := ⟨_, hid rfl⟩
  obtain ⟨O, HO⟩ : ∃ O : List UInt8, Hid (taggedA a = O) := ⟨_, hid rfl⟩
  rw [HC.out] at hb0 hA ⊢
  rw [HO.out]
  have HOK := hid ho
  have HA := hid hA
  have hlA := hA.lt
  clear hA ho HC
  obtain ⟨bo, ki, vi, ph, ha, pv, pa, tg⟩ := a
  simp only at h3 h4 h5 h6 h7 h8 h9
  obtain ⟨k, rfl⟩ := nat_of (i := ki) (by omega)
  obtain ⟨v, rfl⟩ := nat_of (i := vi) (by omega)
  obtain ⟨p, rfl⟩ := nat_of (i := ph) (by omega)
  obtain ⟨q, rfl⟩ := nat_of (i := pv) (by omega)
  have hk1 : IntKind.u8.wrap (k : Int) = (k : Int) := by rw [IntKind.wrap_u8']; omega
  have hp1 : IntKind.u8.wrap (p : Int) = (p : Int) := by rw [IntKind.wrap_u8']; omega
  have hv1 : IntKind.u64.wrap (v : Int) = (v : Int) := wrap_u64 _ (by omega) (by omega)
  have hq1 : IntKind.u64.wrap (q : Int) = (q : Int) := wrap_u64 _ (by omega) (by omega)
  have HNV := hid (fun w => refnum_any (v : Int) w (by omega) (by omega))
  have HNQ := hid (fun w => refnum_any (q : Int) w (by omega) (by omega))
  have HLV := hid (dg_len10 (n := v) (by omega))
  have HLQ := hid (dg_len10 (n := q) (by omega))
  have HDK : Hid (dg k = [UInt8.ofNat k]) := hid (dg_small (by omega))
  have HDP : Hid (dg p = [UInt8.ofNat p]) := hid (dg_small (by omega))
  have HYK := hid (fun w => one_own w k (by omega))
  have HYP := hid (fun w => one_own w p (by omega))
  have HBH := hid (fun w => refBytes7_arr ha w HOK.out.ha)
  have HBP := hid (fun w => refBytes7_any pa w HOK.out.pa)
  clear h3 h4 h5 h6 h7 h8 h9
  go_enter Tryz.func167, Tryz.ntmps167
  go_upto_region 1 with (fail)
  generalize (w.alloc (.cells C 52)) = w0 at *
  have HX : Hid (∀ W : World, Below w0.heap.size w0 W → W.cell? ⟨w.heap.size, 1, none⟩ = some (.int .i64 (k : Int)) ∧ W.cell? ⟨w.heap.size, 2, none⟩ = some (.int .i64 (v : Int)) ∧ W.cell? ⟨w.heap.size, 3, none⟩ = some (.int .i64 (p : Int)) ∧ W.cell? ⟨w.heap.size, 36, none⟩ = some (.int .i64 (q : Int)) ∧ W.rangeAt w.heap.size 4 (bcells ha) ∧ W.rangeAt w.heap.size 37 (bcells pa)) := hid (fun W h => by
    have hW := HA.out.below h hlA
    exact ⟨hW.cells.2.1, hW.cells.2.2.1, hW.cells.2.2.2, hW.pv HOK.out, hW.hash, hW.phash HOK.out⟩)
  have hbd : Below w0.heap.size w0 w0.drew := (Below.refl _ _).drew
  have hs0 := hb0.size
  have hbA : Below w0.heap.size w0 (w0.alloc (.cells #[.int .u8 (k : Int)] 5)).drew := ((Below.refl _ _).alloc (Nat.le_refl _) _).drew
  have hoA : Own w0.heap.size (w0.alloc (.cells #[.int .u8 (k : Int)] 5)).drew (.slice (some ⟨w0.heap.size, 0, none⟩) 1 1) [UInt8.ofNat k] := HYK.out w0
  have HA1 := hid hbA
  have HA2 := hid hoA
  clear hbA hoA
  clear HA hlA
  go_region_held3 (fun W => W.cell? ⟨w.heap.size, 1, none⟩ = some (.int .i64 (k : Int)) ∧ W.cell? ⟨w.heap.size, 2, none⟩ = some (.int .i64 (v : Int)))
    (first
      | (refine ⟨(HX.out _ hbd).1, (HX.out _ hbd).2.1⟩)
      | (refine ⟨(HX.out _ hb5).1, (HX.out _ hb5).2.1⟩)
      | (refine ⟨(HX.out _ hb4).1, (HX.out _ hb4).2.1⟩)
      | (refine ⟨(HX.out _ HA1.out).1, (HX.out _ HA1.out).2.1⟩)
      | (refine ⟨(HX.out _ (hb4.alloc hb4.size _)).1, (HX.out _ (hb4.alloc hb4.size _)).2.1⟩)
      | fail)
    (first
      | (refine step_append_byt (by rfl) (.tmp 7) (.tmp 11) (by rfl) (by rfl) (by rfl) (HA2.out.below hb4') ho4.byt (by have := HLV.out; simp only [List.length_cons, List.length_nil, Int.toNat_natCast]; omega) hb4.size ?_; intro v5 w5 ho5 hg5 _; have hb5 := hb4.grown hg5 hb4.size (fun q hq => (World.ownsRow.lt (HA2.out.below hb4') q hq).1); clear hg5)
      | (refine step_append_byt (by rfl) (.tmp 7) (.tmp 11) (by rfl) (by rfl) (by rfl) ((HYK.out w4).more hb4.size) (ho4.byt.alloc _) (by have := HLV.out; simp only [List.length_cons, List.length_nil, Int.toNat_natCast]; omega) (Nat.le_trans hb4.size (al_le _ _)) ?_; intro v5 w5 ho5 hg5 _; have hb5 := (hb4.alloc hb4.size _).grown hg5 (Nat.le_trans hb4.size (al_le _ _)) (fun q hq => (World.ownsRow.lt ((HYK.out w4).more hb4.size) q hq).1); clear hg5)
      | (go_at_call 129; (with_reducible refine (HNV.out (w0.alloc (.cells #[.int .u8 (k : Int)] 5)).drew).mono ?_); rintro e w4 ⟨v4, rfl, ho4, hb4'⟩; have hb4 := HA1.out.trans (hb4'.mono HA1.out.size))
      | (go_at_call 129; (with_reducible refine (HNV.out w0.drew).mono ?_); rintro e w4 ⟨v4, rfl, ho4, hb4'⟩; have hb4 := hbd.trans hb4')
      | fail)
  all_goals
    rw [Int.toNat_natCast] at ho4 ho5
    have ho5' : Own w0.heap.size w5 v5 ([UInt8.ofNat k] ++ dg v) := ho5
    clear ho4 ho5 hb4 hb4'
    obtain ⟨P, HP⟩ : ∃ P : List UInt8, Hid ([UInt8.ofNat k] ++ dg v = P) := ⟨_, hid rfl⟩
    have HPL : Hid (P.length ≤ 11) := hid (by rw [← HP.out, List.length_append]; have := HLV.out; simp only [List.length_cons, List.length_nil]; omega)
    rw [HP.out] at ho5'
    have hbd5 : Below w0.heap.size w0 w5.drew := hb5.drew
    have hz5 := hb5.size
    have hbB : Below w5.heap.size w5 (w5.alloc (.cells #[.int .u8 (p : Int)] 5)).drew := ((Below.refl _ _).alloc (Nat.le_refl _) _).drew
    have hyB : Byt (w5.alloc (.cells #[.int .u8 (p : Int)] 5)).drew (.slice (some ⟨w5.heap.size, 0, none⟩) 1 1) [UInt8.ofNat p] := (HYP.out w5).byt
    have HB1 := hid hbB
    have HB2 := hid hyB
    have HB3 := hid (hb5.trans (hbB.mono hb5.size))
    have hd5 : Below w5.heap.size w5 w5.drew := (Below.refl _ _).drew
    have hu := under_hash
    have hsz : (Tryz.prog.info? 38).map (·.size) = some (bcells ha).length := by rw [size_hash, bcells_length, HOK.out.ha]
    clear hbB hyB
    go_upto_region 2 with (fail)
    go_region_held3 (fun W => W.cell? ⟨w.heap.size, 3, none⟩ = some (.int .i64 (p : Int)) ∧ W.rangeAt w.heap.size 4 (bcells ha))
      (first
        | (refine ⟨(HX.out _ hbd5).2.2.1, (HX.out _ hbd5).2.2.2.2.1⟩)
        | (refine ⟨(HX.out _ hb8).2.2.1, (HX.out _ hb8).2.2.2.2.1⟩)
        | (refine ⟨(HX.out _ hb7).2.2.1, (HX.out _ hb7).2.2.2.2.1⟩)
        | (refine ⟨(HX.out _ hb6).2.2.1, (HX.out _ hb6).2.2.2.2.1⟩)
        | (refine ⟨(HX.out _ HB3.out).2.2.1, (HX.out _ HB3.out).2.2.2.2.1⟩)
        | (refine ⟨(HX.out _ (hb7.alloc hb7.size _)).2.2.1, (HX.out _ (hb7.alloc hb7.size _)).2.2.2.2.1⟩)
        | fail)
      (first
        | (refine step_append_byt (by rfl) (.tmp 18) (.tmp 21) (by rfl) (by rfl) (by rfl) (ho6.below hb7') ho7.byt (by rw [List.length_append]; have := HPL.out; have := HOK.out.ha; simp only [List.length_cons, List.length_nil] at *; omega) hb7.size ?_; intro v8 w8 ho8 hg8 _; have hb8 := hb7.grown hg8 hb7.size (fun q hq => (World.ownsRow.lt (ho6.below hb7') q hq).1); clear hg8)
        | (refine step_append_byt (by rfl) (.tmp 18) (.tmp 21) (by rfl) (by rfl) (by rfl) ho6 hy7 (by rw [List.length_append]; have := HPL.out; have := HOK.out.ha; simp only [List.length_cons, List.length_nil] at *; omega) hb6.size ?_; intro v8 w8 ho8 hg8 _; have hb8 := hb6.grown hg8 hb6.size (fun q hq => (World.ownsRow.lt ho6 q hq).1); clear hg8)
        | (refine step_append_byt (by rfl) (.tmp 13) (.tmp 17) (by rfl) (by rfl) (by rfl) (ho5'.below HB1.out) HB2.out (by have := HPL.out; simp only [List.length_cons, List.length_nil]; omega) HB3.out.size ?_; intro v6 w6 ho6 hg6 _; have hb6 := HB3.out.grown hg6 HB3.out.size (fun q hq => (World.ownsRow.lt (ho5'.below HB1.out) q hq).1); clear hg6)
        | (refine step_append_byt (by rfl) (.tmp 13) (.tmp 17) (by rfl) (by rfl) (by rfl) ((ho5'.below HB1.out).below hb7') (HB2.out.below hb7') (by have := HPL.out; simp only [List.length_cons, List.length_nil]; omega) hb7.size ?_; intro v6 w6 ho6 hg6 _; have hb6 := hb7.grown hg6 hb7.size (fun q hq => (World.ownsRow.lt ((ho5'.below HB1.out).below hb7') q hq).1); have hy7 := own_past ho5' HB1.out.size ho7 hg6; clear hg6)
        | (refine step_append_byt (by rfl) (.tmp 13) (.tmp 17) (by rfl) (by rfl) (by rfl) (((ho5'.below hd5).below hb7').alloc _) (HYP.out w7).byt (by have := HPL.out; simp only [List.length_cons, List.length_nil]; omega) (Nat.le_trans hb7.size (al_le _ _)) ?_; intro v6 w6 ho6 hg6 _; have hb6 := (hb7.alloc hb7.size _).grown hg6 (Nat.le_trans hb7.size (al_le _ _)) (fun q hq => (World.ownsRow.lt (((ho5'.below hd5).below hb7').alloc _) q hq).1); have hy7 := own_past ho5' hd5.size (ho7.alloc _) hg6; clear hg6)
        | (go_at_call 87; (with_reducible refine (HBH.out w6).mono ?_); rintro e w7 ⟨v7, rfl, ho7, hb7'⟩; have hb7 := hb6.trans (hb7'.mono hb6.size))
        | (go_at_call 87; (with_reducible refine (HBH.out (w5.alloc (.cells #[.int .u8 (p : Int)] 5)).drew).mono ?_); rintro e w7 ⟨v7, rfl, ho7, hb7'⟩; have hb7 := HB3.out.trans (hb7'.mono HB3.out.size))
        | (go_at_call 87; (with_reducible refine (HBH.out w5.drew).mono ?_); rintro e w7 ⟨v7, rfl, ho7, hb7'⟩; have hb7 := hbd5.trans (hb7'.mono hbd5.size))
        | fail)
  all_goals
    have ho8' : Own w0.heap.size w8 v8 (P ++ [UInt8.ofNat p] ++ ha) := ho8
    obtain ⟨M, HM⟩ : ∃ M : List UInt8, Hid (P ++ [UInt8.ofNat p] ++ ha = M) := ⟨_, hid rfl⟩
    have HML : Hid (M.length ≤ 44) := hid (by rw [← HM.out, List.length_append, List.length_append]; have := HPL.out; have := HOK.out.ha; simp only [List.length_cons, List.length_nil] at *; omega)
    rw [HM.out] at ho8'
    have k8 := (HX.out _ hb8).2.2.2.1
    clear ho5' ho6 ho7 ho8 hb6 hb7 hb7' hbd5 hz5 hd5 hu hsz HB1 HB2 HB3 hbd
    (try clear hy7)
    go_wp2_with fail
    refine (HNQ.out w8).mono ?_
    rintro e w9 ⟨v9, rfl, ho9, hb9'⟩
    rw [Int.toNat_natCast] at ho9
    have hb9 := hb8.trans (hb9'.mono hb8.size)
    have ho89 := ho8'.below hb9'
    have hl9 : M.length + (dg q).length ≤ 140737488355328 := by have := HML.out; have := HLQ.out; omega
    clear k8
    go_wp2_with (at_builtin; refine wpList_append_byt rfl (.tmp 23) (.tmp 27) rfl rfl rfl ho89 ho9.byt hl9 hb9.size ?_; intro v10 w10 ho10 hg10 hv10; have hb10 := hb9.grown hg10 hb9.size (fun q hq => (World.ownsRow.lt ho89 q hq).1); have l10 := loadH_mid (HX.out _ hb10).2.2.2.2.2 HOK.out.pa; clear hg10 hv10)
    refine (HBP.out w10).mono ?_
    rintro e w11 ⟨v11, rfl, ho11, hb11'⟩
    have hb11 := hb10.trans (hb11'.mono hb10.size)
    have ho1011 := ho10.below hb11'
    have hl11 : (M ++ dg q).length + pa.length ≤ 140737488355328 := by rw [List.length_append]; have := HML.out; have := HLQ.out; have := HOK.out.pa; simp only at this; omega
    clear l10
    go_wp2_with (at_builtin; refine wpList_append_byt rfl (.tmp 29) (.tmp 32) rfl rfl rfl ho1011 ho11.byt hl11 hb11.size ?_; intro v12 w12 ho12 hg12 hv12; have hb12 := hb11.grown hg12 hb11.size (fun q hq => (World.ownsRow.lt ho1011 q hq).1); clear hg12 hv12)
    go_ret
    refine ⟨v12, rfl, ?_, hb0.trans (hb12.mono hs0)⟩
    have e : M ++ dg q ++ pa = O := by
      rw [← HO.out, ← HM.out, ← HP.out]
      unfold taggedA
      simp only [Int.toNat_natCast, HDK.out, HDP.out, List.append_assoc]
    rw [e] at ho12
    exact ho12.more hs0
theorem refTagged_any (a : AtM) (w : World) (ho : a.Ok) (hm : mayA a = true) :
    Calls Tryz.prog 167 #[.agg (atc a)] w fun e w' => ∃ x, e = .returned x ∧ Own w.heap.size w' x (taggedA a) ∧ Below w.heap.size w w' := by
  obtain ⟨_, _, h3, h4, h5, h6, h7, h8, h9⟩ := mayA_iff hm
  exact refTagged_of a w ho ⟨h3, h4, h5, h6, h7, h8, h9⟩
end Go.Proofs.YtghophbabbaleaaGreatDoor
namespace Go.Proofs.YtghophbabbaleaaGreatDoor
set_option maxRecDepth 20000
open Go.RowKit
attribute [local go_sem ↓] exec_load_hash exec_load_att exec_alloc_att exec_store_att
def tagA (a : AtM) : List UInt8 := hl 32 (tagF a.bo 1 (taggedA a))
theorem tagA_len (a : AtM) : (tagA a).length = 32 := hl_length _ _
def signA (a : AtM) : AtM := { a with tg := tagA a }
theorem wp_store_arrH {op : Oper} {a : Act} {w : World} {K : Act → World → Prop} {Q : Exit → Act → World → Prop} (x y : Operand) (ho : op.op = .store 38 x y) {g : Nat} {t : TypeId} {f f' : Nat → Value}
    (hx : a.eval x = .pointer (some ⟨g, 0, none⟩)) (hy : a.eval y = .agg (fcells 32 f')) (hg : Blk w g 32 f t) (h1 : ∀ i, i < 32 → (f' i).oneCell' = true)
    (hh : ∀ w', w.grownBy w' (some g) → Blk w' g 32 f' t → w'.heap.size = w.heap.size → K (a.put op.dst undef) w') : op.wp Tryz.prog a w K Q := by
  obtain ⟨w', hrun, hgr, hb, hs⟩ := arrH.store_mid (o := 0) (f' := f') hg (by omega) h1
  unfold Oper.wp execOp
  simp only [ho, hx, hy, Sem.run_bind, hrun, Result.andThen_ok, Sem.run_pure]
  exact hh w' hgr (hb.congr fun i hi => by rw [if_pos ⟨Nat.zero_le _, by omega⟩, Nat.sub_zero]) hs
set_option maxHeartbeats 3200000 in
theorem refTag8_any (a : AtM) (w : World) (ho : a.Ok) (hm : mayA a = true) (hK : Kst 0 w) :
    Calls Tryz.prog 151 #[.agg (atc a)] w fun e w' => e = .returned (.agg (hcells (tagA a))) ∧ Below w.heap.size w w' := by
  have hr0 := heap1 w (.cells (atc a) 52) (.cells (fcells 32 fun _ => bcell 0) 38)
  have hH0 : Blk ((w.alloc (.cells (atc a) 52)).alloc (.cells (fcells 32 fun _ => bcell 0) 38)) (w.heap.size + 1) 32 (fun _ => bcell 0) 38 := heap2 w (.cells (atc a) 52) _
  have hb0 : Below w.heap.size w ((w.alloc (.cells (atc a) 52)).alloc (.cells (fcells 32 fun _ => bcell 0) 38)) := ((Below.refl _ _).alloc (Nat.le_refl _) _).alloc (by simp) _
  have HTD := hid (fun W => refTagged_any a W ho hm)
  have HKB := hid (fun W (h : Below w.heap.size w W) => (show Kst 0 W from hK.below h))
  have hlen := taggedA_len ho hm
  have HTG : Hid (∀ v W, Below w.heap.size w W → Byt W v (taggedA a) → Calls Tryz.prog 88 #[.int .i64 a.bo, .int .u8 1, v] W fun e w' => e = .returned (.agg (fcells 32 fun j => bcell (tagF a.bo 1 (taggedA a) j))) ∧ Below W.heap.size W w') := hid (fun v W h hv => by
    have := refTag_any a.bo 1 v (taggedA a) W hv (by omega) (HKB.out W h)
    exact this)
  obtain ⟨C, HC⟩ : ∃ C : Array Value, Hid (atc a = C) := ⟨_, hid rfl⟩
  obtain ⟨τ, HT⟩ : ∃ t : Nat → UInt8, Hid (tagF a.bo 1 (taggedA a) = t) := ⟨_, hid rfl⟩
  obtain ⟨D, HD⟩ : ∃ C : Array Value, Hid ((fcells 32 fun j => bcell (τ j)) = C) := ⟨_, hid rfl⟩
  have HRS : Hid (hcells (tagA a) = D) := hid (by rw [← HD.out, ← HT.out, fcells_hl]; rfl)
  rw [HC.out] at hr0 hH0 hb0 HTD ⊢
  rw [HT.out, HD.out] at HTG
  rw [HRS.out]
  have hA : BoxA ((w.alloc (.cells C 52)).alloc (.cells (fcells 32 fun _ => bcell 0) 38)) w.heap.size a := by
    unfold BoxA
    rw [HC.out]
    exact hr0
  have HOK := hid ho
  have HCS : Hid (C.size = 101) := hid (by rw [← HC.out]; exact atc_size ho)
  clear hK ho hm hlen hr0
  go_enter Tryz.func151, Tryz.ntmps151
  go_upto_region 1 with (refine wpList_alloc_arr arrH rfl rfl ?_)
  generalize ((w.alloc (.cells C 52)).alloc (.cells (fcells 32 fun _ => bcell 0) 38)) = w0 at *
  have HXR : Hid (∀ W : World, BoxA W w.heap.size a → W.cell? ⟨w.heap.size, 0, none⟩ = some (.int .i64 a.bo) ∧ loadAtt (.pointer (some ⟨w.heap.size, 0, none⟩)) W = .ok (.value (.agg C)) W) := hid (fun W hW => by
    refine ⟨hW.cells.1, ?_⟩
    have := loadAtt_eq hW HOK.out
    rw [HC.out] at this
    exact this)
  have HA := hid hA
  have HX := hid (fun W (h : Below w0.heap.size w0 W) => HXR.out W (hA.keep h))
  have hbd : Below w0.heap.size w0 w0.drew := (Below.refl _ _).drew
  have HH0 := hid hH0
  clear hA hH0
  refine wp_region_held_drew (S := fun W => W.cell? ⟨w.heap.size, 0, none⟩ = some (.int .i64 a.bo) ∧ loadAtt (.pointer (some ⟨w.heap.size, 0, none⟩)) W = .ok (.value (.agg C)) W) (by kernel_rfl) (HX.out _ hbd) (fun hHeld => ?_)
  refine' tk (i := 0) (v := _) rfl ?_ ?_
  rotate_left
  · (intro W hW; (try dsimp only at hW); go_simp; first | done | with_reducible rfl)
  try simp only [lay]
  refine' tk (i := 1) (v := _) rfl ?_ ?_
  rotate_left
  · (intro W hW; (try dsimp only at hW); obtain ⟨hW1, hW2⟩ := hW; go_simp; first | done | with_reducible rfl)
  try simp only [lay]
  refine' tk (i := 2) (v := _) rfl (fun W hW => hW.2) ?_
  try simp only [lay]
  refine call_on (i := 3) rfl (by kernel_rfl) (by rfl) (fun K hK => ?_)
  go_simp
  refine (HTD.out w0.drew).mono ?_
  rintro e w2 ⟨v2, rfl, ho2, hb2'⟩
  have hb2 := hbd.trans hb2'
  refine hK.out _ _ (HX.out _ hb2) (fun hHeld => ?_)
  clear hK K
  try simp only [lay]
  refine call_on (i := 4) rfl (by kernel_rfl) (by rfl) (fun K hK => ?_)
  go_simp
  refine (HTG.out v2 w2 (hb0.trans (hb2.mono hb0.size)) ho2.byt).mono ?_
  rintro e w3 ⟨rfl, hb3'⟩
  have hb3 := hb2.trans (hb3'.mono hb2.size)
  have hB3 := hb0.trans (hb3.mono hb0.size)
  have hH3 := HH0.out.keep hb3
  refine hK.out _ _ (HX.out _ hb3) (fun hHeld => ?_)
  clear hK K
  try simp only [lay]
  refine call_on (i := 5) rfl (by kernel_rfl) (by rfl) (fun K hK => ?_)
  refine wp_store_arrH (f' := fun j => bcell (τ j)) _ _ rfl rfl (by rw [HD.out]; rfl) hH3 (fun _ _ => rfl) ?_
  intro w4 hg4 hH4 hs4
  have hA4 : BoxA w4 w.heap.size a := (hg4.block _ (Nat.lt_of_lt_of_le HA.out.lt hb3.size) (fun e => by injection e with e; omega)).trans (HA.out.keep hb3)
  refine hK.out _ _ (HXR.out _ hA4) (fun hHeld => ?_)
  clear hK K
  try simp only [Act.put]
  refine wpAnyH_done (by kernel_rfl) ?_ _
  go_wp2_with fail
  refine bodyPost_ret (arrH.result rfl _ _ rfl hH4) rfl ⟨by rw [HD.out], ?_⟩
  exact below_into hB3 (Nat.le_succ _) hg4 hB3.size
end Go.Proofs.YtghophbabbaleaaGreatDoor
namespace Go.Proofs.YtghophbabbaleaaGreatDoor
set_option maxRecDepth 20000
open Go.RowKit
attribute [local go_sem ↓] exec_load_att exec_load_hash
def rightA (a : AtM) : Bool := mayA a && decide (a.tg = tagA a)
set_option maxHeartbeats 3200000 in
theorem refRight8_any (a : AtM) (w : World) (ho : a.Ok) (hK : Kst 0 w) :
    Calls Tryz.prog 112 #[.agg (atc a)] w fun e w' => e = .returned (.bool (rightA a)) ∧ Below w.heap.size w w' := by
  obtain ⟨m, HM⟩ : ∃ m : Bool, Hid (mayA a = m) := ⟨_, hid rfl⟩
  obtain ⟨q, HQ⟩ : ∃ q : Bool, Hid (decide (a.tg = tagA a) = q) := ⟨_, hid rfl⟩
  have HR : Hid (rightA a = (m && q)) := hid (by unfold rightA; rw [HM.out, HQ.out])
  have HMA : Hid (∀ W, Calls Tryz.prog 17 #[.agg (atc a)] W fun e w' => e = .returned (.bool m) ∧ Below W.heap.size W w') := hid (fun W => by
    have := refMay8_any a W ho
    rw [HM.out] at this
    exact this)
  have HTG : Hid (m = true → ∀ W, Below w.heap.size w W → Calls Tryz.prog 151 #[.agg (atc a)] W fun e w' => e = .returned (.agg (hcells (tagA a))) ∧ Below W.heap.size W w') := hid (fun h W hb => refTag8_any a W ho (HM.out.trans h) (hK.below hb))
  have HEQ : Hid (∀ W, (Op.equalIn 10000 38 (.agg (hcells a.tg)) (.agg (hcells (tagA a)))).run Tryz.prog W = .ok q W) := hid (fun W => by
    have := eq_hash a.tg (tagA a) ho.tg (tagA_len a) W
    rw [HQ.out] at this
    exact this)
  have hb0 : Below w.heap.size w (w.alloc (.cells (atc a) 52)) := (Below.refl _ _).alloc (Nat.le_refl _) _
  have hA := BoxA.new w a
  obtain ⟨C, HC⟩ : ∃ C : Array Value, Hid (atc a = C) := ⟨_, hid rfl⟩
  obtain ⟨T, HT⟩ : ∃ C : Array Value, Hid (hcells (tagA a) = C) := ⟨_, hid rfl⟩
  obtain ⟨G, HG⟩ : ∃ C : Array Value, Hid (hcells a.tg = C) := ⟨_, hid rfl⟩
  rw [HC.out, HT.out] at HTG
  rw [HC.out] at HMA hb0 hA
  rw [HG.out, HT.out] at HEQ
  rw [HR.out, HC.out]
  have HX : Hid (∀ W : World, BoxA W w.heap.size a → loadAtt (.pointer (some ⟨w.heap.size, 0, none⟩)) W = .ok (.value (.agg C)) W ∧ loadH (.pointer (some ⟨w.heap.size, 69, none⟩)) W = .ok (.value (.agg G)) W) := hid (fun W h => by
    have h1 := loadAtt_eq h ho
    have h2 := loadH_mid (h.tag ho) ho.tg
    rw [HC.out] at h1
    rw [HG.out] at h2
    exact ⟨h1, h2⟩)
  clear hK ho
  go_enter Tryz.func112, Tryz.ntmps112
  go_upto_region 1 with (fail)
  generalize (w.alloc (.cells C 52)) = w0 at *
  have HXW := hid (fun W (h : Below w0.heap.size w0 W) => HX.out W (hA.keep h))
  have hbd : Below w0.heap.size w0 w0.drew := (Below.refl _ _).drew
  clear hA
  refine wp_region_held_drew (S := fun W => loadAtt (.pointer (some ⟨w.heap.size, 0, none⟩)) W = .ok (.value (.agg C)) W ∧ loadH (.pointer (some ⟨w.heap.size, 69, none⟩)) W = .ok (.value (.agg G)) W) (by kernel_rfl) (HXW.out _ hbd) (fun hHeld => ?_)
  refine' tk (i := 0) (v := _) rfl (fun W hW => hW.1) ?_
  try simp only [lay]
  refine call_on (i := 1) rfl (by kernel_rfl) (by rfl) (fun K hK => ?_)
  go_simp
  refine (HMA.out w0.drew).mono ?_
  rintro e w2 ⟨rfl, hb2'⟩
  have hb2 := hbd.trans hb2'
  refine hK.out _ _ (HXW.out _ hb2) (fun hHeld => ?_)
  clear hK K
  try simp only [lay]
  refine' tk (i := 2) (v := _) rfl ?_ ?_
  rotate_left
  · (intro W hW; (try dsimp only at hW); go_simp; first | done | with_reducible rfl)
  try simp only [lay]
  cases m with
  | false =>
    refine tf (i := 3) rfl ?_
    try simp only [lay]
    refine tf (i := 4) rfl ?_
    try simp only [lay]
    refine tf (i := 5) rfl ?_
    try simp only [lay]
    refine tf (i := 6) rfl ?_
    try simp only [lay]
    refine tf (i := 7) rfl ?_
    try simp only [lay]
    refine' tk (i := 8) (v := _) rfl ?_ ?_
    rotate_left
    · (intro W hW; (try dsimp only at hW); go_simp; first | done | with_reducible rfl)
    try simp only [lay]
    refine' tk (i := 9) (v := _) rfl ?_ ?_
    rotate_left
    · (intro W hW; (try dsimp only at hW); go_simp; first | done | with_reducible rfl)
    try simp only [lay]
    refine wpAnyH_done (by kernel_rfl) ?_ _
    go_wp2_with fail
    go_ret
    exact ⟨rfl, hb0.trans (hb2.mono hb0.size)⟩
  | true =>
    refine' tk (i := 3) (v := _) rfl ?_ ?_
    rotate_left
    · (intro W hW; (try dsimp only at hW); go_simp; first | done | with_reducible rfl)
    try simp only [lay]
    refine' tk (i := 4) (v := _) rfl (fun W hW => hW.2) ?_
    try simp only [lay]
    refine' tk (i := 5) (v := _) rfl (fun W hW => hW.1) ?_
    try simp only [lay]
    refine call_on (i := 6) rfl (by kernel_rfl) (by rfl) (fun K hK => ?_)
    go_simp
    refine (HTG.out rfl w2 (hb0.trans (hb2.mono hb0.size))).mono ?_
    rintro e w3 ⟨rfl, hb3'⟩
    have hb3 := hb2.trans (hb3'.mono hb2.size)
    refine hK.out _ _ (HXW.out _ hb3) (fun hHeld => ?_)
    clear hK K
    try simp only [lay]
    have heq := HEQ.out
    refine' tk (i := 7) (v := _) rfl ?_ ?_
    rotate_left
    · (intro W hW; (try dsimp only at hW); go_simp; first | done | with_reducible rfl)
    try simp only [lay]
    clear heq
    refine' tk (i := 8) (v := _) rfl ?_ ?_
    rotate_left
    · (intro W hW; (try dsimp only at hW); go_simp; first | done | with_reducible rfl)
    try simp only [lay]
    refine' tk (i := 9) (v := _) rfl ?_ ?_
    rotate_left
    · (intro W hW; (try dsimp only at hW); go_simp; first | done | with_reducible rfl)
    try simp only [lay]
    refine wpAnyH_done (by kernel_rfl) ?_ _
    go_wp2_with fail
    go_ret
    exact ⟨rfl, hb0.trans (hb3.mono hb0.size)⟩
end Go.Proofs.YtghophbabbaleaaGreatDoor
namespace Go.Proofs.YtghophbabbaleaaGreatDoor
set_option maxRecDepth 20000
open Go.RowKit
def AtCheckOk : Prop := ∀ (a : AtM) (w : World), a.Ok → Calls Tryz.prog 148 #[.agg (atc a)] w fun e w' => e = .returned (.int .i64 (if mayA a = true then 0 else 1)) ∧ Below w.heap.size w w'
def AtRightOk : Prop := ∀ (a : AtM) (w : World), a.Ok → Kst 1 w → Calls Tryz.prog 108 #[.agg (atc a)] w fun e w' => e = .returned (.bool (rightA a)) ∧ Below w.heap.size w w'
theorem wp_store_tag {op : Oper} {ac : Act} {w : World} {K : Act → World → Prop} {Q : Exit → Act → World → Prop} (x y : Operand) (ho : op.op = .store 38 x y)
    {g : Nat} {a : AtM} {h : List UInt8} (hx : ac.eval x = .pointer (some ⟨g, 69, none⟩)) (hy : ac.eval y = .agg (hcells h)) (hg : BoxA w g a) (hok : a.Ok) (hl : h.length = 32)
    (hh : ∀ w', w.grownBy w' (some g) → BoxA w' g { a with tg := h } → w'.heap.size = w.heap.size → K (ac.put op.dst undef) w') : op.wp Tryz.prog ac w K Q := by
  have hpre : ([.int .i64 a.bo, .int .i64 a.ki, .int .i64 a.vi, .int .i64 a.ph] ++ (bcells a.ha ++ ([.int .i64 a.pv] ++ bcells a.pa)) : List Value).length = 69 := by simp only [List.length_append, bcells_length, hok.ha, hok.pa, List.length_cons, List.length_nil]
  refine wp_store_mid _ x y ho g 69 (hcells h) hx hy (fun j hj => ⟨?_, hg.free _⟩) (by rw [size_hash, hcells_size, hl]) (hcells_one _) ?_
  · rw [hcells_size, hl] at hj
    rw [hg.cell, List.getElem?_eq_getElem (by rw [atl_length hok]; omega)]
    rfl
  · rw [hcells_list]
    refine hh _ (grown_setCells g _ _ _) ?_ (setCells_size g _ _ _)
    unfold BoxA atc at hg ⊢
    rw [atl_tag] at hg ⊢
    have := setCells_row (bcells h) 69 w _ hg
    rw [← hpre, putAt_mid (bcells h) _ (bcells a.tg) [] (by rw [bcells_length, bcells_length, hl, hok.tg])] at this
    rw [← hpre]
    exact this
end Go.Proofs.YtghophbabbaleaaGreatDoor
namespace Go.Proofs.YtghophbabbaleaaGreatDoor
set_option maxRecDepth 20000
open Go.RowKit
attribute [local go_sem ↓] exec_load_att
def highA (a : AtM) : Int := if a.ki = 3 then a.vi else a.vi - 1
set_option maxHeartbeats 1600000 in
theorem atHigh_any (a : AtM) (w : World) (h1 : 1 ≤ a.vi) (h2 : a.vi ≤ 1099511627776) :
    Calls Tryz.prog 165 #[.agg (atc a)] w fun e w' => e = .returned (.int .i64 (highA a)) ∧ Below w.heap.size w w' := by
  have hb0 : Below w.heap.size w (w.alloc (.cells (atc a) 52)) := (Below.refl _ _).alloc (Nat.le_refl _) _
  have hA := BoxA.new w a
  obtain ⟨C, HC⟩ : ∃ C : Array Value, Hid (atc a = C) := ⟨_, hid rfl⟩
  obtain ⟨q, HQ⟩ : ∃ q : Int, Hid (highA a = q) := ⟨_, hid rfl⟩
  rw [HC.out] at hb0 hA ⊢
  rw [HQ.out]
  go_enter Tryz.func165, Tryz.ntmps165
  go_upto_region 1 with (fail)
  generalize (w.alloc (.cells C 52)) = w0 at *
  obtain ⟨k0, k1, k2, k3⟩ := hA.cells
  clear hA HC
  obtain ⟨bo, ki, vi, ph, ha, pv, pa, tg⟩ := a
  simp only at k0 k1 k2 k3 h1 h2
  have hw : IntKind.i64.wrap (vi - 1) = vi - 1 := by rw [IntKind.wrap_i64]; omega
  have HH := hid (show 1 ≤ vi ∧ vi ≤ 1099511627776 from ⟨h1, h2⟩)
  clear h1 h2
  by_cases h3 : ki = 3
  all_goals
    go_wp2_with fail
    go_ret
    refine ⟨?_, hb0⟩
    refine congrArg (fun b => Ending.returned (Value.int IntKind.i64 b)) ?_
    rw [← HQ.out]
    unfold highA
    simp [h3]
set_option maxHeartbeats 3200000 in
theorem atCheck_ok : AtCheckOk := by
  intro a w ho
  have hb0 : Below w.heap.size w (w.alloc (.cells (atc a) 52)) := (Below.refl _ _).alloc (Nat.le_refl _) _
  have hA := BoxA.new w a
  have HHI : Hid (1 ≤ a.vi → a.vi ≤ 1099511627776 → ∀ W, Calls Tryz.prog 165 #[.agg (atc a)] W fun e w' => e = .returned (.int .i64 (highA a)) ∧ Below W.heap.size W w') := hid (fun h1 h2 W => atHigh_any a W h1 h2)
  obtain ⟨C, HC⟩ : ∃ C : Array Value, Hid (atc a = C) := ⟨_, hid rfl⟩
  obtain ⟨q, HQ⟩ : ∃ q : Int, Hid ((if mayA a = true then (0 : Int) else 1) = q) := ⟨_, hid rfl⟩
  obtain ⟨hi, HHA⟩ : ∃ q : Int, Hid (highA a = q) := ⟨_, hid rfl⟩
  rw [HC.out] at hb0 hA HHI ⊢
  rw [HHA.out] at HHI
  rw [HQ.out]
  go_enter Tryz.func148, Tryz.ntmps148
  go_upto_region 1 with (fail)
  generalize (w.alloc (.cells C 52)) = w0 at *
  have HX : Hid (∀ W : World, Below w0.heap.size w0 W → W.cell? ⟨w.heap.size, 2, none⟩ = some (.int .i64 a.vi) ∧ W.cell? ⟨w.heap.size, 36, none⟩ = some (.int .i64 a.pv) ∧ loadAtt (.pointer (some ⟨w.heap.size, 0, none⟩)) W = .ok (.value (.agg C)) W) := hid (fun W h => by
    have hW := hA.keep h
    have h1 := loadAtt_eq hW ho
    rw [HC.out] at h1
    exact ⟨hW.cells.2.2.1, hW.pv ho, h1⟩)
  obtain ⟨k0, k1, k2, k3⟩ := hA.cells
  have k5 := hA.pv ho
  clear hA HC ho
  obtain ⟨bo, ki, vi, ph, ha, pv, pa, tg⟩ := a
  simp only at k0 k1 k2 k3 k5 HX HHI
  have HM : Hid (q = if nodeB bo = true ∧ ¬ ki < 1 ∧ ¬ 3 < ki ∧ ph = ki ∧ ¬ vi < 1 ∧ ¬ 1099511627776 < vi ∧ ¬ pv < 0 ∧ ¬ hi < pv then 0 else 1) := hid (by
    rw [← HQ.out, ← HHA.out]
    unfold mayA highA nodeB
    grind)
  clear HQ HHA
  go_wp2_with fail
  refine (node_any bo w0).mono ?_
  rintro e w1 ⟨rfl, rfl⟩
  obtain ⟨nb, HN⟩ : ∃ q : Bool, Hid (nodeB bo = q) := ⟨_, hid rfl⟩
  rw [HN.out] at HM ⊢
  clear HN
  cases nb with
  | false =>
    go_wp2_with fail
    go_ret
    exact ⟨by rw [HM.out]; rfl, hb0⟩
  | true =>
    by_cases h1 : ki < 1
    · go_wp2_with fail
      go_ret
      exact ⟨by rw [HM.out, if_neg (by rintro ⟨_, h, _⟩; omega)]; rfl, hb0⟩
    by_cases h2 : 3 < ki
    · go_wp2_with fail
      go_ret
      exact ⟨by rw [HM.out, if_neg (by rintro ⟨_, _, h, _⟩; omega)]; rfl, hb0⟩
    by_cases h3' : ¬ ph = ki
    · have hd : (ph != ki) = true := by simp [h3']
      go_wp2_with fail
      all_goals first
        | (go_ret; exact ⟨by rw [HM.out, if_neg (by rintro ⟨_, _, _, h, _⟩; omega)]; rfl, hb0⟩)
        | skip
    have h3 : ph = ki := Decidable.not_not.1 h3'
    clear h3'
    have HM2 : Hid (q = if ¬ vi < 1 ∧ ¬ 1099511627776 < vi ∧ ¬ pv < 0 ∧ ¬ hi < pv then 0 else 1) := hid (by rw [HM.out]; simp only [true_and, eq_self]; split <;> split <;> first | rfl | (exfalso; omega))
    clear HM
    go_upto_region 3 with (fail)
    clear k0 k1 k3 h1 h2 h3
    by_cases h4 : vi < 1
    · have hd : decide (vi < 1) = true := decide_eq_true h4
      go_quiet (fail)
      go_wp2_with fail
      go_ret
      exact ⟨by rw [HM2.out, if_neg (by rintro ⟨h, _⟩; omega)]; rfl, below_drewN hb0 _⟩
    have hd4 : decide (vi < 1) = false := decide_eq_false h4
    by_cases h5 : 1099511627776 < vi
    · have hd : decide (1099511627776 < vi) = true := decide_eq_true h5
      go_quiet (fail)
      go_wp2_with fail
      go_ret
      exact ⟨by rw [HM2.out, if_neg (by rintro ⟨_, h, _⟩; omega)]; rfl, below_drewN hb0 _⟩
    have hd5 : decide (1099511627776 < vi) = false := decide_eq_false h5
    by_cases h6 : pv < 0
    · have hd : decide (pv < 0) = true := decide_eq_true h6
      go_quiet (fail)
      go_wp2_with fail
      go_ret
      exact ⟨by rw [HM2.out, if_neg (by rintro ⟨_, _, h, _⟩; omega)]; rfl, below_drewN hb0 _⟩
    have hd6 : decide (pv < 0) = false := decide_eq_false h6
    have HI := hid (HHI.out (by omega) (by omega))
    have HM3 : Hid (q = if ¬ hi < pv then 0 else 1) := hid (by rw [HM2.out]; split <;> split <;> first | rfl | (exfalso; omega))
    have hbd : Below w0.heap.size w0 w0.drew := (Below.refl _ _).drew
    clear HM2 HHI k2 k5
    go_region_held3 (fun W => W.cell? ⟨w.heap.size, 2, none⟩ = some (.int .i64 vi) ∧ W.cell? ⟨w.heap.size, 36, none⟩ = some (.int .i64 pv) ∧ loadAtt (.pointer (some ⟨w.heap.size, 0, none⟩)) W = .ok (.value (.agg C)) W)
      (first | (refine HX.out _ hbd) | (refine HX.out _ hb2) | fail)
      (first
        | (go_at_call 165; (with_reducible refine (HI.out _).mono ?_); rintro e w2 ⟨rfl, hb2'⟩; have hb2 : Below w0.heap.size w0 w2 := hbd.trans hb2')
        | fail)
    all_goals
      by_cases h7 : hi < pv
      all_goals
        go_wp2_with fail
        go_ret
        exact ⟨by rw [HM3.out]; simp [h7], hb0.trans (hb2.mono hb0.size)⟩
end Go.Proofs.YtghophbabbaleaaGreatDoor
namespace Go.Proofs.YtghophbabbaleaaGreatDoor
set_option maxRecDepth 20000
open Go.RowKit
attribute [local go_sem ↓] exec_load_hash
theorem atnum_any (v : Value) (l : List UInt8) (n : Int) (w : World) (hv : Byt w v l) (h0 : 0 ≤ n) (h1 : n < 9223372036854775808) (hs : l.length ≤ 1099511627000) :
    Calls Tryz.prog 166 #[v, .int .i64 n] w fun e w' => ∃ x, e = .returned x ∧ Own w.heap.size w' x (l ++ dg n.toNat) ∧ Below w.heap.size w w' := by
  have hw : IntKind.u64.wrap n = n := wrap_u64 _ (by omega) (by omega)
  go_enter Tryz.func166, Tryz.ntmps166
  go_wp2_with fail
  refine (num_any v l n w hv h0 (by omega) hs).mono ?_
  rintro e w1 ⟨v1, rfl, ho1, hb1⟩
  go_wp2_with fail
  go_ret
  exact ⟨_, rfl, ho1, hb1⟩
set_option maxHeartbeats 3200000 in
theorem attagged_any (a : AtM) (w : World) (ho : a.Ok) (hm : mayA a = true) :
    Calls Tryz.prog 150 #[.agg (atc a)] w fun e w' => ∃ x, e = .returned x ∧ Own w.heap.size w' x (taggedA a) ∧ Below w.heap.size w w' := by
  obtain ⟨h1, h2, h3, h4, h5, h6, h7, h8, h9⟩ := mayA_iff hm
  have hb0 : Below w.heap.size w (w.alloc (.cells (atc a) 52)) := (Below.refl _ _).alloc (Nat.le_refl _) _
  have hA := BoxA.new w a
  obtain ⟨C, HC⟩ : ∃ C : Array Value, Hid (atc a = C) := ⟨_, hid rfl⟩
  obtain ⟨O, HO⟩ : ∃ O : List UInt8, Hid (taggedA a = O) := ⟨_, hid rfl⟩
  rw [HC.out] at hb0 hA ⊢
  rw [HO.out]
  have HOK := hid ho
  have HA := hid hA
  clear hA HC hm ho
  obtain ⟨bo, ki, vi, ph, ha, pv, pa, tg⟩ := a
  simp only at h1 h2 h3 h4 h5 h6 h7 h8 h9
  obtain ⟨k, rfl⟩ := nat_of (i := ki) (by omega)
  obtain ⟨v, rfl⟩ := nat_of (i := vi) (by omega)
  obtain ⟨p, rfl⟩ := nat_of (i := ph) (by omega)
  obtain ⟨q, rfl⟩ := nat_of (i := pv) (by omega)
  have HLK := hid (dg_len10 (n := k) (by omega))
  have HLV := hid (dg_len10 (n := v) (by omega))
  have HLP := hid (dg_len10 (n := p) (by omega))
  have HLQ := hid (dg_len10 (n := q) (by omega))
  have HB : Hid (k < 9223372036854775808 ∧ v < 9223372036854775808 ∧ p < 9223372036854775808 ∧ q < 9223372036854775808) := hid (by omega)
  have hha : ha.length = 32 := HOK.out.ha
  have hpa : pa.length = 32 := HOK.out.pa
  have HHL := hid (show ha.length = 32 ∧ pa.length = 32 from ⟨hha, hpa⟩)
  have HO2 : Hid (O = dg k ++ (dg v ++ (dg p ++ (ha ++ (dg q ++ pa))))) := hid (by rw [← HO.out]; unfold taggedA; simp)
  clear h1 h2 h3 h4 h5 h6 h7 h8 h9 hha hpa HO
  go_enter Tryz.func150, Tryz.ntmps150
  go_upto_region 1 with (fail)
  generalize (w.alloc (.cells C 52)) = w0 at *
  have HX : Hid (∀ W : World, Below w0.heap.size w0 W → W.cell? ⟨w.heap.size, 1, none⟩ = some (.int .i64 (k : Int)) ∧ W.cell? ⟨w.heap.size, 2, none⟩ = some (.int .i64 (v : Int)) ∧ W.cell? ⟨w.heap.size, 3, none⟩ = some (.int .i64 (p : Int)) ∧ W.cell? ⟨w.heap.size, 36, none⟩ = some (.int .i64 (q : Int)) ∧ loadH (.pointer (some ⟨w.heap.size, 4, none⟩)) W = .ok (.value (.agg (hcells ha))) W ∧ loadH (.pointer (some ⟨w.heap.size, 37, none⟩)) W = .ok (.value (.agg (hcells pa))) W) := hid (fun W h => by
    have hW := HA.out.keep h
    exact ⟨hW.cells.2.1, hW.cells.2.2.1, hW.cells.2.2.2, hW.pv HOK.out, loadH_mid hW.hash HOK.out.ha, loadH_mid (hW.phash HOK.out) HOK.out.pa⟩)
  have HB0 := hid hb0
  have d1 := (HX.out w0 (Below.refl _ _)).1
  clear HA hb0
  go_wp2_with fail
  refine (atnum_any _ [] (k : Int) w0 (Byt.nil _) (by omega) (by have := HB.out; omega) (by decide)).mono ?_
  rintro e w1 ⟨v1, rfl, ho1, hb1⟩
  rw [Int.toNat_natCast, List.nil_append] at ho1
  have d2 := (HX.out w1 hb1).2.1
  clear d1
  go_wp2_with fail
  refine (atnum_any _ _ (v : Int) w1 ho1.byt (by omega) (by have := HB.out; omega) (by have := HLK.out; omega)).mono ?_
  rintro e w2 ⟨v2, rfl, ho2, hb2'⟩
  have hb2 := hb1.trans (hb2'.mono hb1.size)
  rw [Int.toNat_natCast] at ho2
  have d3 := (HX.out w2 hb2).2.2.1
  clear d2 hb2'
  go_wp2_with fail
  refine (atnum_any _ _ (p : Int) w2 ho2.byt (by omega) (by have := HB.out; omega) (by rw [List.length_append]; have := HLK.out; have := HLV.out; omega)).mono ?_
  rintro e w3 ⟨v3, rfl, ho3, hb3'⟩
  have hb3 := hb2.trans (hb3'.mono hb2.size)
  rw [Int.toNat_natCast] at ho3
  have d4 := (HX.out w3 hb3).2.2.2.2.1
  clear d3 hb3'
  go_wp2_with fail
  refine (hash_any _ _ ha w3 ho3.byt (by simp only [List.length_append]; have := HLK.out; have := HLV.out; have := HLP.out; omega) HHL.out.1).mono ?_
  rintro e w4 ⟨v4, rfl, ho4, hb4'⟩
  have hb4 := hb3.trans (hb4'.mono hb3.size)
  have d5 := (HX.out w4 hb4).2.2.2.1
  clear d4 hb4'
  go_wp2_with fail
  refine (atnum_any _ _ (q : Int) w4 ho4.byt (by omega) (by have := HB.out; omega) (by simp only [List.length_append]; have := HLK.out; have := HLV.out; have := HLP.out; have := HHL.out.1; omega)).mono ?_
  rintro e w5 ⟨v5, rfl, ho5, hb5'⟩
  have hb5 := hb4.trans (hb5'.mono hb4.size)
  rw [Int.toNat_natCast] at ho5
  have d6 := (HX.out w5 hb5).2.2.2.2.2
  clear d5 hb5'
  go_wp2_with fail
  refine (hash_any _ _ pa w5 ho5.byt (by simp only [List.length_append]; have := HLK.out; have := HLV.out; have := HLP.out; have := HLQ.out; have := HHL.out.1; omega) HHL.out.2).mono ?_
  rintro e w6 ⟨v6, rfl, ho6, hb6'⟩
  have hb6 := hb5.trans (hb6'.mono hb5.size)
  clear d6
  go_wp2_with fail
  go_ret
  refine ⟨v6, rfl, ?_, HB0.out.trans (hb6.mono HB0.out.size)⟩
  rw [HO2.out]
  simp only [List.append_assoc] at ho6
  exact ho6.more (by have := HB0.out.size; have := hb5.size; omega)
end Go.Proofs.YtghophbabbaleaaGreatDoor
