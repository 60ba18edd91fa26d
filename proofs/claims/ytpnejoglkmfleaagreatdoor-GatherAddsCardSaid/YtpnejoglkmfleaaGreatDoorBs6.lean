/-
  HashMid HashZero AtWords AtEq AtMay AtTagged AtArg: what each of them says stands at its head.
-/
import Derived.Test.YtpnejoglkmfleaaGreatDoorBs2
namespace Go.Proofs.YtpnejoglkmfleaaGreatDoor
set_option maxRecDepth 20000
open Go.RowKit
theorem loadH_mid {w : World} {g o : Nat} {h : List UInt8} (hr : w.rangeAt g o (bcells h)) (hl : h.length = 32) : loadH (.pointer (some ⟨g, o, none⟩)) w = .ok (.value (.agg (hcells h))) w := by
  have := run_loadAt_mid (P := Tryz.prog) w g o 34 (bcells h) _ hr under_hash rfl (by rw [size_hash, bcells_length, hl])
  unfold loadH execOp
  simp only [Sem.run_bind, this, Result.andThen_ok, Sem.run_pure]
  rfl
def putAt (C : Array Value) (o : Nat) : List Value → Array Value
  | [] => C
  | v :: r => putAt (C.setIfInBounds o v) (o + 1) r
theorem setCells_row {g : Nat} {t : TypeId} : ∀ (vs : List Value) (o : Nat) (w : World) (C : Array Value), w.heap[g]? = some (.cells C t (0, 0)) → (w.setCells g o vs).heap[g]? = some (.cells (putAt C o vs) t (0, 0))
  | [], _, _, _, h => h
  | v :: r, o, w, C, h => setCells_row r (o + 1) (w.setCell ⟨g, o, none⟩ v) (C.setIfInBounds o v) (set_blk h o v)
theorem putAt_mid : ∀ (vs pre old post : List Value), old.length = vs.length → putAt (pre ++ (old ++ post)).toArray pre.length vs = (pre ++ (vs ++ post)).toArray
  | [], pre, old, post, h => by
    obtain rfl : old = [] := List.eq_nil_of_length_eq_zero h
    rfl
  | v :: r, pre, o :: old, post, h => by
    have e : (pre ++ (o :: old ++ post)).toArray.setIfInBounds pre.length v = ((pre ++ [v]) ++ (old ++ post)).toArray := by
      simp
    have e2 : pre.length + 1 = (pre ++ [v]).length := by simp
    unfold putAt
    rw [e, e2, putAt_mid r (pre ++ [v]) old post (by simpa using h)]
    simp
  | _ :: _, _, [], _, h => by cases h
theorem wpList_store_midh {ops : Array Oper} {rest : List Oper} {o : Oper} {a : Act} {w : World} {Q : Exit → Act → World → Prop} (hgd : o.guard = none) (x y : Operand) (ho : o.op = .store 34 x y)
    {g k : Nat} {t : TypeId} {pre old post : List Value} {h : List UInt8} (hx : a.eval x = .pointer (some ⟨g, k, none⟩)) (hy : a.eval y = .agg (hcells h)) (hg : w.heap[g]? = some (.cells (pre ++ (old ++ post)).toArray t (0, 0))) (hk : k = pre.length) (hold : old.length = 32) (hl : h.length = 32)
    (hh : ∀ w', w.grownBy w' (some g) → w'.heap[g]? = some (.cells (pre ++ (bcells h ++ post)).toArray t (0, 0)) → w'.heap.size = w.heap.size → wpList Tryz.prog ops Q rest (a.put o.dst undef) w') : wpList Tryz.prog ops Q (o :: rest) a w := by
  subst hk
  refine wpList_store_mid hgd _ x y ho (b := g) (o := pre.length) (cells := hcells h) hx hy (fun j hj => ⟨?_, free_blk hg _⟩) (by rw [size_hash, hcells_size, hl]) (hcells_one _) ?_
  · rw [hcells_size, hl] at hj
    rw [cell_blk hg, List.getElem?_toArray, List.getElem?_append_right (by omega), Nat.add_sub_cancel_left, List.getElem?_append_left (by omega), List.getElem?_eq_getElem (by omega)]
    rfl
  · rw [hcells_list]
    refine hh _ (grown_setCells g _ _ _) ?_ (setCells_size g _ _ _)
    have := setCells_row (bcells h) pre.length w _ hg
    rw [putAt_mid (bcells h) pre old post (by rw [bcells_length, hl, hold])] at this
    exact this
end Go.Proofs.YtpnejoglkmfleaaGreatDoor
namespace Go.Proofs.YtpnejoglkmfleaaGreatDoor
set_option maxRecDepth 20000
open Go.RowKit
noncomputable def buildH (w : World) : Result Next := Sem.run Tryz.prog (execOp (fun _ => undef) { dst := none, op := .build 34 #[], type := 0, pos := "", after := #[], guard := none }) w
theorem exec_build_hash (r : Operand → Value) (dst : Option Tmp) (ty : TypeId) (pos : String) (after : Array Edge) (guard : Option (Nat × Bool)) (w : World) :
    Sem.run Tryz.prog (execOp r { dst := dst, op := .build 34 #[], type := ty, pos := pos, after := after, guard := guard }) w = buildH w := by
  unfold buildH execOp
  simp
theorem buildH_eq (w : World) : buildH w = .ok (.value (.agg (fcells 32 fun _ => bcell 0))) w := by
  unfold buildH
  go_simp
  rfl
theorem fcells_nought : fcells 32 (fun _ => bcell 0) = hcells (List.replicate 32 0) := by kernel_rfl
end Go.Proofs.YtpnejoglkmfleaaGreatDoor
namespace Go.Proofs.YtpnejoglkmfleaaGreatDoor
set_option maxRecDepth 20000
open Go.RowKit
def atl (a : AtM) : List Value := [.int .i64 a.bo, .int .i64 a.ki, .int .i64 a.vi, .int .i64 a.ph] ++ (bcells a.ha ++ ([.int .i64 a.pv] ++ (bcells a.pa ++ bcells a.tg)))
def atc (a : AtM) : Array Value := (atl a).toArray
theorem atl_length {a : AtM} (h : a.Ok) : (atl a).length = 101 := by
  have := h.ha
  have := h.pa
  have := h.tg
  unfold atl
  simp only [List.length_append, bcells_length, List.length_cons, List.length_nil]
  omega
theorem atc_size {a : AtM} (h : a.Ok) : (atc a).size = 101 := by
  unfold atc
  rw [List.size_toArray, atl_length h]
def BoxA (w : World) (g : Nat) (a : AtM) : Prop := w.heap[g]? = some (.cells (atc a) 36 (0, 0))
section
variable {w w' : World} {g : Nat} {a : AtM}
theorem BoxA.new (w : World) (a : AtM) : BoxA (w.alloc (.cells (atc a) 36)) w.heap.size a := heap_alloc_new w _
theorem BoxA.lt (h : BoxA w g a) : g < w.heap.size := lt_of_block h
theorem BoxA.below {B : Nat} (h : BoxA w g a) (hb : Below B w w') (hg : g < B) : BoxA w' g a := (hb.block g hg).trans h
theorem BoxA.keep (h : BoxA w g a) (hb : Below w.heap.size w w') : BoxA w' g a := h.below hb h.lt
theorem BoxA.free (h : BoxA w g a) (i : Nat) : w.frozen? ⟨g, i, none⟩ = false := free_blk h i
theorem BoxA.cell (h : BoxA w g a) (i : Nat) : w.cell? ⟨g, i, none⟩ = (atl a)[i]? := by
  rw [cell_blk h i]
  unfold atc
  rw [List.getElem?_toArray]
theorem BoxA.cells (h : BoxA w g a) : w.cell? ⟨g, 0, none⟩ = some (.int .i64 a.bo) ∧ w.cell? ⟨g, 1, none⟩ = some (.int .i64 a.ki) ∧ w.cell? ⟨g, 2, none⟩ = some (.int .i64 a.vi) ∧ w.cell? ⟨g, 3, none⟩ = some (.int .i64 a.ph) :=
  ⟨h.cell 0, h.cell 1, h.cell 2, h.cell 3⟩
theorem BoxA.range0 (h : BoxA w g a) {pre l post : List Value} (e : atl a = pre ++ (l ++ post)) : w.rangeAt g pre.length l := fun j u hu => by
  rw [h.cell, e, List.getElem?_append_right (by omega), Nat.add_sub_cancel_left, List.getElem?_append_left (List.getElem?_eq_some_iff.1 hu).1]
  exact hu
theorem BoxA.pv (h : BoxA w g a) (ho : a.Ok) : w.cell? ⟨g, 36, none⟩ = some (.int .i64 a.pv) := by
  have := h.range0 (pre := [.int .i64 a.bo, .int .i64 a.ki, .int .i64 a.vi, .int .i64 a.ph] ++ bcells a.ha) (l := [.int .i64 a.pv]) (post := bcells a.pa ++ bcells a.tg) (by unfold atl; simp only [List.append_assoc]) 0 _ rfl
  rw [List.length_append, bcells_length, ho.ha] at this
  exact this
theorem BoxA.hash (h : BoxA w g a) : w.rangeAt g 4 (bcells a.ha) := h.range0 (pre := [.int .i64 a.bo, .int .i64 a.ki, .int .i64 a.vi, .int .i64 a.ph]) rfl
theorem BoxA.phash (h : BoxA w g a) (ho : a.Ok) : w.rangeAt g 37 (bcells a.pa) := by
  have := h.range0 (pre := [.int .i64 a.bo, .int .i64 a.ki, .int .i64 a.vi, .int .i64 a.ph] ++ (bcells a.ha ++ [.int .i64 a.pv])) (l := bcells a.pa) (post := bcells a.tg) (by unfold atl; simp only [List.append_assoc])
  rw [List.length_append, List.length_append, bcells_length, ho.ha] at this
  exact this
theorem BoxA.tag (h : BoxA w g a) (ho : a.Ok) : w.rangeAt g 69 (bcells a.tg) := by
  have := h.range0 (pre := [.int .i64 a.bo, .int .i64 a.ki, .int .i64 a.vi, .int .i64 a.ph] ++ (bcells a.ha ++ ([.int .i64 a.pv] ++ bcells a.pa))) (l := bcells a.tg) (post := []) (by unfold atl; simp only [List.append_assoc, List.append_nil])
  rw [List.length_append, List.length_append, List.length_append, bcells_length, bcells_length, ho.ha, ho.pa] at this
  exact this
end
noncomputable def loadAtt (v : Value) (w : World) : Result Next := Sem.run Tryz.prog (execOp (fun _ => v) { dst := none, op := .load 36 (.tmp 0), type := 0, pos := "", after := #[], guard := none }) w
theorem exec_load_att (r : Operand → Value) (x : Operand) (dst : Option Tmp) (ty : TypeId) (pos : String) (after : Array Edge) (guard : Option (Nat × Bool)) (w : World) :
    Sem.run Tryz.prog (execOp r { dst := dst, op := .load 36 x, type := ty, pos := pos, after := after, guard := guard }) w = loadAtt (r x) w := rfl
theorem under_att : Tryz.prog.underlying 36 = some (.struct (Tryz.prog.fieldsOf 36)) := by kernel_rfl
theorem size_att : (Tryz.prog.info? 36).map (·.size) = some 101 := by kernel_rfl
theorem loadAtt_row {w : World} {g : Nat} {C : Array Value} {T : TypeId} (h : w.heap[g]? = some (.cells C T (0, 0))) (hs : C.size = 101) : loadAtt (.pointer (some ⟨g, 0, none⟩)) w = .ok (.value (.agg C)) w := by
  have := run_loadAt_mid (P := Tryz.prog) w g 0 36 C.toList _ (fun j v hj => by rw [Nat.zero_add, cell_blk h j]; simpa using hj) under_att rfl (by rw [size_att]; simp [hs])
  simp only [Array.toArray_toList] at this
  unfold loadAtt execOp
  simp only [Sem.run_bind, this, Result.andThen_ok, Sem.run_pure]
theorem loadAtt_eq {w : World} {g : Nat} {a : AtM} (h : BoxA w g a) (ho : a.Ok) : loadAtt (.pointer (some ⟨g, 0, none⟩)) w = .ok (.value (.agg (atc a))) w := loadAtt_row h (atc_size ho)
theorem atl_one (a : AtM) : ∀ u ∈ atl a, u.oneCell' = true := by
  intro u hu
  unfold atl at hu
  simp only [List.mem_append, List.mem_cons, List.not_mem_nil, or_false] at hu
  rcases hu with (rfl | rfl | rfl | rfl) | hu | rfl | hu | hu
  · rfl
  · rfl
  · rfl
  · rfl
  · exact bcells_one _ u hu
  · rfl
  · exact bcells_one _ u hu
  · exact bcells_one _ u hu
theorem atc_one (a : AtM) : (atc a).all (·.oneCell') = true := all_oneCell_toArray (atl_one a)
theorem zero_att : (Tryz.prog.info? 36).bind (·.zero) = some (.agg (atc atZ)) := by kernel_rfl
theorem run_zero_att (w : World) : (zeroValue 36).run Tryz.prog w = .ok (.agg (atc atZ)) w := by
  have h := zero_att
  cases hq : Tryz.prog.info? 36 with
  | none => rw [hq] at h; cases h
  | some i =>
    rw [hq] at h
    have hz : i.zero = some (.agg (atc atZ)) := h
    simp [zeroValue, typeInfo, hq, hz]
noncomputable def buildAtt (w : World) : Result Next := Sem.run Tryz.prog (execOp (fun _ => undef) { dst := none, op := .build 36 #[], type := 0, pos := "", after := #[], guard := none }) w
theorem exec_build_att (r : Operand → Value) (dst : Option Tmp) (ty : TypeId) (pos : String) (after : Array Edge) (guard : Option (Nat × Bool)) (w : World) :
    Sem.run Tryz.prog (execOp r { dst := dst, op := .build 36 #[], type := ty, pos := pos, after := after, guard := guard }) w = buildAtt w := by
  unfold buildAtt execOp
  simp
theorem buildAtt_eq (w : World) : buildAtt w = .ok (.value (.agg (atc atZ))) w := by
  unfold buildAtt
  go_simp
  rfl
noncomputable def allocAtt (w : World) : Result Next := Sem.run Tryz.prog (execOp (fun _ => undef) { dst := none, op := .alloc 36, type := 0, pos := "", after := #[], guard := none }) w
theorem exec_alloc_att (r : Operand → Value) (dst : Option Tmp) (ty : TypeId) (pos : String) (after : Array Edge) (guard : Option (Nat × Bool)) (w : World) :
    Sem.run Tryz.prog (execOp r { dst := dst, op := .alloc 36, type := ty, pos := pos, after := after, guard := guard }) w = allocAtt w := rfl
theorem allocAtt_eq (w : World) : allocAtt w = .ok (.value (.pointer (some ⟨w.heap.size, 0, none⟩))) (w.alloc (.cells (atc atZ) 36)) := by
  unfold allocAtt execOp
  simp only [Sem.run_bind, Instr.alloc, run_zero_att, newVar, newRow, run_newObj_alloc, Sem.run_pure, Result.andThen_ok, Value.cells]
noncomputable def storeAtt (p v : Value) (w : World) : Result Next := Sem.run Tryz.prog (execOp (fun x => match x with
  | .tmp 0 => p
  | _ => v) { dst := none, op := .store 36 (.tmp 0) (.tmp 1), type := 0, pos := "", after := #[], guard := none }) w
theorem exec_store_att (r : Operand → Value) (x y : Operand) (dst : Option Tmp) (ty : TypeId) (pos : String) (after : Array Edge) (guard : Option (Nat × Bool)) (w : World) :
    Sem.run Tryz.prog (execOp r { dst := dst, op := .store 36 x y, type := ty, pos := pos, after := after, guard := guard }) w = storeAtt (r x) (r y) w := rfl
def setAtt (w : World) (g : Nat) (C : Array Value) : World := w.setRow g C
theorem storeAtt_eq {w : World} {g : Nat} {t : TypeId} {C0 C : Array Value} (hg : w.heap[g]? = some (.cells C0 t (0, 0))) (h0 : C0.size = 101) (hC : C.size = 101) (h1 : C.all (·.oneCell') = true) :
    storeAtt (.pointer (some ⟨g, 0, none⟩)) (.agg C) w = .ok .skip (setAtt w g C) := by
  have := run_storeVar_row (P := Tryz.prog) w g t 36 C0 C hg (by rw [size_att, hC]) (by rw [h0, hC]) h1
  unfold storeAtt execOp
  simp only [Instr.storeAt, Instr.sureAddr, Sem.run_bind, Sem.run_pure, Result.andThen_ok, this]
  rfl
theorem setAtt_other (w : World) {g k : Nat} (C : Array Value) (hk : k ≠ g) : (setAtt w g C).heap[k]? = w.heap[k]? := setRow_other w g k _ hk
theorem setAtt_same {w : World} {g : Nat} {t : TypeId} {C0 C : Array Value} (hg : w.heap[g]? = some (.cells C0 t (0, 0))) : (setAtt w g C).heap[g]? = some (.cells C t (0, 0)) := setRow_heap w g _ _ t _ hg
theorem setAtt_below {B g : Nat} {a w : World} {C : Array Value} (hb : Below B a w) (hg : B ≤ g) : Below B a (setAtt w g C) := below_setRow hb hg _
theorem atl_tag (a : AtM) : atl a = ([.int .i64 a.bo, .int .i64 a.ki, .int .i64 a.vi, .int .i64 a.ph] ++ (bcells a.ha ++ ([.int .i64 a.pv] ++ bcells a.pa))) ++ (bcells a.tg ++ []) := by
  unfold atl
  simp only [List.append_assoc, List.append_nil]
theorem wpList_store_tag {ops : Array Oper} {rest : List Oper} {o : Oper} {ac : Act} {w : World} {Q : Exit → Act → World → Prop} (hgd : o.guard = none) (x y : Operand) (ho : o.op = .store 34 x y)
    {g : Nat} {a : AtM} {h : List UInt8} (hx : ac.eval x = .pointer (some ⟨g, 69, none⟩)) (hy : ac.eval y = .agg (hcells h)) (hg : BoxA w g a) (hok : a.Ok) (hl : h.length = 32)
    (hh : ∀ w', w.grownBy w' (some g) → BoxA w' g { a with tg := h } → w'.heap.size = w.heap.size → wpList Tryz.prog ops Q rest (ac.put o.dst undef) w') : wpList Tryz.prog ops Q (o :: rest) ac w := by
  unfold BoxA atc at hg
  rw [atl_tag] at hg
  refine wpList_store_midh hgd x y ho hx hy hg (by simp only [List.length_append, bcells_length, hok.ha, hok.pa, List.length_cons, List.length_nil]) (by rw [bcells_length, hok.tg]) hl (fun w' h1 h2 h3 => hh w' h1 ?_ h3)
  unfold BoxA atc
  rw [atl_tag]
  exact h2
end Go.Proofs.YtpnejoglkmfleaaGreatDoor
namespace Go.Proofs.YtpnejoglkmfleaaGreatDoor
set_option maxRecDepth 20000
open Go.RowKit
theorem eq_hash_at (d : Nat) (a b : List UInt8) (ha : a.length = 32) (hb : b.length = 32) (w : World) : (Op.equalIn (d + 2) 34 (.agg (hcells a)) (.agg (hcells b))).run Tryz.prog w = .ok (decide (a = b)) w := by
  obtain ⟨i0, hi, _⟩ := info_parts info_u8
  rw [run_equalIn_array w (d + 1) (hcells a) (hcells b) under_hash hi, eqItems_bytes d a b w _ (fun i h => by have := List.mem_range.1 h; omega)]
  congr 1
  rw [Bool.eq_iff_iff]
  simp only [List.all_eq_true, List.mem_range, decide_eq_true_eq]
  constructor
  · intro h
    apply List.ext_getElem?
    intro i
    by_cases h32 : i < 32
    · exact h i h32
    · rw [List.getElem?_eq_none (by omega), List.getElem?_eq_none (by omega)]
  · rintro rfl i _
    rfl
def eqF (d : Nat) (xs ys : Array Value) : List (TypeId × Nat × Bool) → Sem Bool
  | [] => pure true
  | (t, o, s) :: fs =>
    if s = true then eqF d xs ys fs
    else do
      let a ← Go.part t xs o
      let b ← Go.part t ys o
      let r ← Op.equalIn d t a b
      if (!r) = true then pure false else eqF d xs ys fs
theorem eqF_of (d : Nat) (xs ys : Array Value) : ∀ fs : List Field, Op.eqFields d xs ys fs = eqF d xs ys (fs.map fun f => (f.type, f.offset, f.name == "_"))
  | [] => rfl
  | f :: fs => by
    unfold Op.eqFields
    rw [eqF_of d xs ys fs, List.map_cons]
    conv => rhs; unfold eqF
    by_cases h : f.name = "_" <;> simp [h]
theorem eqF_step {P : Program} {d : Nat} {xs ys : Array Value} {t : TypeId} {o : Nat} {fs : List (TypeId × Nat × Bool)} {w : World} {u v : Value} {r : Bool} (h1 : (Go.part t xs o).run P w = .ok u w) (h2 : (Go.part t ys o).run P w = .ok v w)
    (h3 : (Op.equalIn d t u v).run P w = .ok r w) : (eqF d xs ys ((t, o, false) :: fs)).run P w = if r = true then (eqF d xs ys fs).run P w else .ok false w := by
  conv => lhs; unfold eqF
  simp only [Bool.false_eq_true, if_false, Sem.run_bind, h1, h2, h3, Result.andThen_ok]
  cases r <;> rfl
theorem fields_att : (Tryz.prog.fieldsOf 36).toList.map (fun f => (f.type, f.offset, f.name == "_")) =
    [(3, 0, false), (3, 1, false), (3, 2, false), (3, 3, false), (34, 4, false), (3, 36, false), (34, 37, false), (34, 69, false)] := by kernel_rfl
theorem under_att_int : Tryz.prog.underlying 3 = some (.int .i64) := by kernel_rfl
theorem part_att_hash {w : World} {C : Array Value} {o : Nat} {l : List UInt8} (h : (C.toList.drop o).take 32 = bcells l) : (Go.part 34 C o).run Tryz.prog w = .ok (.agg (hcells l)) w := by
  have hz := size_hash
  obtain ⟨i, hi, hs⟩ := Option.map_eq_some_iff.1 hz
  have hc : Tryz.prog.cellsOf 34 = 32 := by kernel_rfl
  have e : C.extract o (o + 32) = hcells l := by
    apply Array.ext'
    rw [hcells_list, ← h, Array.toList_extract, List.extract_eq_take_drop]
    simp
  unfold Go.part
  simp only [Sem.run_bind, isAgg, run_underlying under_hash, Result.andThen_ok, run_sizeOf w hi, hc, e, Sem.run_pure, if_true]
theorem part_att_int {w : World} {C : Array Value} {o : Nat} {v : Value} (h : C[o]? = some v) : (Go.part 3 C o).run Tryz.prog w = .ok v w := run_part_plain (P := Tryz.prog) w (by kernel_rfl) h
theorem drop_at {α : Type} {l pre m post : List α} {o : Nat} (e : l = pre ++ (m ++ post)) (ho : pre.length = o) (hm : m.length = 32) : (l.drop o).take 32 = m := by
  subst e ho
  rw [List.drop_left, ← hm, List.take_left]
set_option maxHeartbeats 1600000 in
theorem eq_att (a b : AtM) (ho : a.Ok) (hp : b.Ok) (w : World) : (Op.equalIn 10000 36 (.agg (atc a)) (.agg (atc b))).run Tryz.prog w = .ok (decide (a = b)) w := by
  have K : ∀ c : AtM, c.Ok → (atc c)[0]? = some (.int .i64 c.bo) ∧ (atc c)[1]? = some (.int .i64 c.ki) ∧ (atc c)[2]? = some (.int .i64 c.vi) ∧ (atc c)[3]? = some (.int .i64 c.ph) ∧ (atc c)[36]? = some (.int .i64 c.pv)
      ∧ ((atc c).toList.drop 4).take 32 = bcells c.ha ∧ ((atc c).toList.drop 37).take 32 = bcells c.pa ∧ ((atc c).toList.drop 69).take 32 = bcells c.tg := by
    intro c hc
    refine ⟨rfl, rfl, rfl, rfl, ?_, ?_, ?_, ?_⟩
    · unfold atc atl
      rw [List.getElem?_toArray, List.getElem?_append_right (by simp), List.getElem?_append_right (by simp [bcells_length, hc.ha])]
      simp [bcells_length, hc.ha]
    · exact drop_at (pre := [.int .i64 c.bo, .int .i64 c.ki, .int .i64 c.vi, .int .i64 c.ph]) (m := bcells c.ha) (post := [.int .i64 c.pv] ++ (bcells c.pa ++ bcells c.tg)) rfl rfl (by rw [bcells_length, hc.ha])
    · exact drop_at (pre := [.int .i64 c.bo, .int .i64 c.ki, .int .i64 c.vi, .int .i64 c.ph] ++ (bcells c.ha ++ [.int .i64 c.pv])) (m := bcells c.pa) (post := bcells c.tg) (by show atl c = _; unfold atl; simp only [List.append_assoc]) (by simp [bcells_length, hc.ha]) (by rw [bcells_length, hc.pa])
    · exact drop_at (pre := [.int .i64 c.bo, .int .i64 c.ki, .int .i64 c.vi, .int .i64 c.ph] ++ (bcells c.ha ++ ([.int .i64 c.pv] ++ bcells c.pa))) (m := bcells c.tg) (post := []) (by show atl c = _; unfold atl; simp only [List.append_assoc, List.append_nil]) (by simp [bcells_length, hc.ha, hc.pa]) (by rw [bcells_length, hc.tg])
  obtain ⟨a0, a1, a2, a3, a4, a5, a6, a7⟩ := K a ho
  obtain ⟨b0, b1, b2, b3, b4, b5, b6, b7⟩ := K b hp
  have EI : ∀ x y : Int, (Op.equalIn 9999 3 (.int .i64 x) (.int .i64 y)).run Tryz.prog w = .ok (x == y) w := fun x y => run_equalIn_int (P := Tryz.prog) w 9998 3 .i64 .i64 x y under_att_int
  rw [run_equalIn_struct w 9999 _ _ _ under_att (by kernel_rfl), eqF_of, fields_att]
  rw [eqF_step (part_att_int a0) (part_att_int b0) (EI _ _), eqF_step (part_att_int a1) (part_att_int b1) (EI _ _), eqF_step (part_att_int a2) (part_att_int b2) (EI _ _), eqF_step (part_att_int a3) (part_att_int b3) (EI _ _),
    eqF_step (part_att_hash a5) (part_att_hash b5) (eq_hash_at 9997 _ _ ho.ha hp.ha w), eqF_step (part_att_int a4) (part_att_int b4) (EI _ _),
    eqF_step (part_att_hash a6) (part_att_hash b6) (eq_hash_at 9997 _ _ ho.pa hp.pa w), eqF_step (part_att_hash a7) (part_att_hash b7) (eq_hash_at 9997 _ _ ho.tg hp.tg w)]
  obtain ⟨p1, p2, p3, p4, p5, p6, p7, p8⟩ := a
  obtain ⟨q1, q2, q3, q4, q5, q6, q7, q8⟩ := b
  simp only [eqF, Sem.run_pure, AtM.mk.injEq, beq_iff_eq, decide_eq_true_eq]
  (repeat' split) <;> simp_all
end Go.Proofs.YtpnejoglkmfleaaGreatDoor
namespace Go.Proofs.YtpnejoglkmfleaaGreatDoor
set_option maxRecDepth 20000
open Go.RowKit
attribute [local go_sem ↓] exec_load_hash
set_option maxHeartbeats 3200000 in
theorem refMay8_any (a : AtM) (w : World) (ho : a.Ok) :
    Calls Tryz.prog 36 #[.agg (atc a)] w fun e w' => e = .returned (.bool (mayA a)) ∧ Below w.heap.size w w' := by
  have hb0 : Below w.heap.size w (w.alloc (.cells (atc a) 36)) := (Below.refl _ _).alloc (Nat.le_refl _) _
  have hA := BoxA.new w a
  obtain ⟨C, HC⟩ : ∃ C : Array Value, Hid (atc a = C) := ⟨_, hid rfl⟩
  obtain ⟨q, HQ⟩ : ∃ q : Bool, Hid (mayA a = q) := ⟨_, hid rfl⟩
  rw [HC.out] at hb0 hA ⊢
  rw [HQ.out]
  go_enter Tryz.func36, Tryz.ntmps36
  go_upto_region 1 with (fail)
  generalize (w.alloc (.cells C 36)) = w0 at *
  obtain ⟨k0, k1, k2, k3⟩ := hA.cells
  have k5 := hA.pv ho
  clear hA HC ho
  obtain ⟨bo, ki, vi, ph, ha, pv, pa, tg⟩ := a
  simp only at k0 k1 k2 k3 k5
  go_wp2_with fail
  all_goals
    go_ret
    refine ⟨?_, hb0⟩
    refine congrArg (fun b => Ending.returned (Value.bool b)) ?_
    rw [← HQ.out]
    unfold mayA
    simp only
  all_goals grind
set_option maxHeartbeats 3200000 in
theorem refAlike_any (a b : AtM) (w : World) (ho : a.Ok) (hp : b.Ok) :
    Calls Tryz.prog 27 #[.agg (atc a), .agg (atc b)] w fun e w' => e = .returned (.bool (alikeA a b)) ∧ Below w.heap.size w w' := by
  have hb0 : Below w.heap.size w ((w.alloc (.cells (atc a) 36)).alloc (.cells (atc b) 36)) := ((Below.refl _ _).alloc (Nat.le_refl _) _).alloc (by simp) _
  have hA : BoxA ((w.alloc (.cells (atc a) 36)).alloc (.cells (atc b) 36)) w.heap.size a := (Below.heap_alloc _ _ _ (by simp)).trans (heap_alloc_new w _)
  have hB : BoxA ((w.alloc (.cells (atc a) 36)).alloc (.cells (atc b) 36)) (w.heap.size + 1) b := by
    have := BoxA.new (w.alloc (.cells (atc a) 36)) b
    rwa [show (w.alloc (.cells (atc a) 36)).heap.size = w.heap.size + 1 from by simp] at this
  obtain ⟨C, HC⟩ : ∃ C : Array Value, Hid (atc a = C) := ⟨_, hid rfl⟩
  obtain ⟨D, HD⟩ : ∃ C : Array Value, Hid (atc b = C) := ⟨_, hid rfl⟩
  obtain ⟨q, HQ⟩ : ∃ q : Bool, Hid (alikeA a b = q) := ⟨_, hid rfl⟩
  rw [HC.out, HD.out] at hb0 hA hB ⊢
  rw [HQ.out]
  go_enter Tryz.func27, Tryz.ntmps27
  go_upto_region 1 with (fail)
  generalize ((w.alloc (.cells C 36)).alloc (.cells D 36)) = w0 at *
  obtain ⟨_, k1, k2, k3⟩ := hA.cells
  have k5 := hA.pv ho
  obtain ⟨_, j1, j2, j3⟩ := hB.cells
  have j5 := hB.pv hp
  have l1 := loadH_mid hA.hash ho.ha
  have l2 := loadH_mid (hA.phash ho) ho.pa
  have m1 := loadH_mid hB.hash hp.ha
  have m2 := loadH_mid (hB.phash hp) hp.pa
  have e1 := eq_hash a.ha b.ha ho.ha hp.ha w0
  have e2 := eq_hash a.pa b.pa ho.pa hp.pa w0
  obtain ⟨q1, HQ1⟩ : ∃ q : Bool, Hid (decide (a.ha = b.ha) = q) := ⟨_, hid rfl⟩
  obtain ⟨q2, HQ2⟩ : ∃ q : Bool, Hid (decide (a.pa = b.pa) = q) := ⟨_, hid rfl⟩
  rw [HQ1.out] at e1
  rw [HQ2.out] at e2
  obtain ⟨HA, HHA⟩ : ∃ C : Array Value, Hid (hcells a.ha = C) := ⟨_, hid rfl⟩
  obtain ⟨HB, HHB⟩ : ∃ C : Array Value, Hid (hcells b.ha = C) := ⟨_, hid rfl⟩
  obtain ⟨PA, HPA⟩ : ∃ C : Array Value, Hid (hcells a.pa = C) := ⟨_, hid rfl⟩
  obtain ⟨PB, HPB⟩ : ∃ C : Array Value, Hid (hcells b.pa = C) := ⟨_, hid rfl⟩
  rw [HHA.out] at l1 e1
  rw [HHB.out] at m1 e1
  rw [HPA.out] at l2 e2
  rw [HPB.out] at m2 e2
  clear hA hB HC HD ho hp HHA HHB HPA HPB
  obtain ⟨bo, ki, vi, ph, ha, pv, pa, tg⟩ := a
  obtain ⟨bo2, ki2, vi2, ph2, ha2, pv2, pa2, tg2⟩ := b
  simp only at k1 k2 k3 k5 j1 j2 j3 j5 HQ1 HQ2
  cases q1 <;> cases q2
  all_goals
    go_wp2_with fail
    all_goals
      go_ret
      refine ⟨?_, hb0⟩
      refine congrArg (fun b => Ending.returned (Value.bool b)) ?_
      rw [← HQ.out]
      unfold alikeA
      simp only [HQ1.out, HQ2.out]
  all_goals grind
end Go.Proofs.YtpnejoglkmfleaaGreatDoor
namespace Go.Proofs.YtpnejoglkmfleaaGreatDoor
set_option maxRecDepth 20000
open Go.RowKit
attribute [local go_sem ↓] exec_load_hash
theorem one_own (w : World) (n : Nat) (h : n < 256) : Own w.heap.size (w.alloc (.cells #[.int .u8 (n : Int)] 5)) (.slice (some ⟨w.heap.size, 0, none⟩) 1 1) [UInt8.ofNat n] :=
  own_of_blk (l := [UInt8.ofNat n]) (by
    have e : (n : Int) = ((UInt8.ofNat n).toNat : Int) := by rw [UInt8.toNat_ofNat']; omega
    rw [e]
    exact heap_alloc_new w _) (Nat.le_refl _) rfl (by unfold maxLen; omega)
theorem refBytes7_arr (h : List UInt8) (w : World) (h32 : h.length = 32) :
    Calls Tryz.prog 68 #[.agg (bcells h).toArray] w fun e w' => ∃ x, e = .returned x ∧ Own w.heap.size w' x h ∧ Below w.heap.size w w' := refBytes7_any h w h32
theorem own_past {B : Nat} {w5 wa w7 w8 : World} {v5 v7 : Value} {P l : List UInt8} (h5 : Own B w5 v5 P) (ha : w5.heap.size ≤ wa.heap.size) (h7 : Own wa.heap.size w7 v7 l) (hg : w7.grownBy w8 v5.ownBlock) : Byt w8 v7 l :=
  (h7.keep fun b hlt e => hg.block b hlt (fun e' => by
    have h1 := (World.ownsRow.lt h7 b e).1
    have h2 := (World.ownsRow.lt h5 b e'.symm).2
    omega)).byt
set_option maxHeartbeats 6400000 in
theorem refTagged_of (a : AtM) (w : World) (ho : a.Ok) (hm : 1 ≤ a.ki ∧ a.ki ≤ 3 ∧ a.ph = a.ki ∧ 1 ≤ a.vi ∧ a.vi ≤ 1099511627776 ∧ 0 ≤ a.pv ∧ a.pv ≤ a.vi) :
    Calls Tryz.prog 53 #[.agg (atc a)] w fun e w' => ∃ x, e = .returned x ∧ Own w.heap.size w' x (taggedA a) ∧ Below w.heap.size w w' := by
  obtain ⟨h3, h4, h5, h6, h7, h8, h9⟩ := hm
  have hb0 : Below w.heap.size w (w.alloc (.cells (atc a) 36)) := (Below.refl _ _).alloc (Nat.le_refl _) _
  have hA := BoxA.new w a
  obtain ⟨C, HC⟩ : ∃ C : Array Value, Hid (atc a = C) := ⟨_, hid rfl⟩
  obtain ⟨O, HO⟩ : ∃ O : List UInt8, Hid (taggedA a = O) := ⟨_, hid rfl⟩
  rw [HC.out] at hb0 hA ⊢
  rw [HO.out]
  have HOK := hid ho
  have HA := hid hA
  have hlA := hA.lt
  clear hA ho HC
  obtain ⟨bo, ki, vi, ph, ha, pv, pa, tg⟩ := a
  simp only at h3 h4 h5 h6 h7 h8 h9
  obtain ⟨k, rfl⟩ := nat_of (i := ki) (by omega)
  obtain ⟨v, rfl⟩ := nat_of (i := vi) (by omega)
  obtain ⟨p, rfl⟩ := nat_of (i := ph) (by omega)
  obtain ⟨q, rfl⟩ := nat_of (i := pv) (by omega)
  have hk1 : IntKind.u8.wrap (k : Int) = (k : Int) := by rw [IntKind.wrap_u8']; omega
  have hp1 : IntKind.u8.wrap (p : Int) = (p : Int) := by rw [IntKind.wrap_u8']; omega
  have hv1 : IntKind.u64.wrap (v : Int) = (v : Int) := wrap_u64 _ (by omega) (by omega)
  have hq1 : IntKind.u64.wrap (q : Int) = (q : Int) := wrap_u64 _ (by omega) (by omega)
  have HNV := hid (fun w => refnum_any (v : Int) w (by omega) (by omega))
  have HNQ := hid (fun w => refnum_any (q : Int) w (by omega) (by omega))
  have HLV := hid (dg_len10 (n := v) (by omega))
  have HLQ := hid (dg_len10 (n := q) (by omega))
  have HDK : Hid (dg k = [UInt8.ofNat k]) := hid (dg_small (by omega))
  have HDP : Hid (dg p = [UInt8.ofNat p]) := hid (dg_small (by omega))
  have HYK := hid (fun w => one_own w k (by omega))
  have HYP := hid (fun w => one_own w p (by omega))
  have HBH := hid (fun w => refBytes7_arr ha w HOK.out.ha)
  have HBP := hid (fun w => refBytes7_any pa w HOK.out.pa)
  clear h3 h4 h5 h6 h7 h8 h9
  go_enter Tryz.func53, Tryz.ntmps53
  go_upto_region 1 with (fail)
  generalize (w.alloc (.cells C 36)) = w0 at *
  have HX : Hid (∀ W : World, Below w0.heap.size w0 W → W.cell? ⟨w.heap.size, 1, none⟩ = some (.int .i64 (k : Int)) ∧ W.cell? ⟨w.heap.size, 2, none⟩ = some (.int .i64 (v : Int)) ∧ W.cell? ⟨w.heap.size, 3, none⟩ = some (.int .i64 (p : Int)) ∧ W.cell? ⟨w.heap.size, 36, none⟩ = some (.int .i64 (q : Int)) ∧ W.rangeAt w.heap.size 4 (bcells ha) ∧ W.rangeAt w.heap.size 37 (bcells pa)) := hid (fun W h => by
    have hW := HA.out.below h hlA
    exact ⟨hW.cells.2.1, hW.cells.2.2.1, hW.cells.2.2.2, hW.pv HOK.out, hW.hash, hW.phash HOK.out⟩)
  have hbd : Below w0.heap.size w0 w0.drew := (Below.refl _ _).drew
  have hs0 := hb0.size
  have hbA : Below w0.heap.size w0 (w0.alloc (.cells #[.int .u8 (k : Int)] 5)).drew := ((Below.refl _ _).alloc (Nat.le_refl _) _).drew
  have hoA : Own w0.heap.size (w0.alloc (.cells #[.int .u8 (k : Int)] 5)).drew (.slice (some ⟨w0.heap.size, 0, none⟩) 1 1) [UInt8.ofNat k] := HYK.out w0
  have HA1 := hid hbA
  have HA2 := hid hoA
  clear hbA hoA
  clear HA hlA
  go_region_held3 (fun W => W.cell? ⟨w.heap.size, 1, none⟩ = some (.int .i64 (k : Int)) ∧ W.cell? ⟨w.heap.size, 2, none⟩ = some (.int .i64 (v : Int)))
    (first
      | (refine ⟨(HX.out _ hbd).1, (HX.out _ hbd).2.1⟩)
      | (refine ⟨(HX.out _ hb5).1, (HX.out _ hb5).2.1⟩)
      | (refine ⟨(HX.out _ hb4).1, (HX.out _ hb4).2.1⟩)
      | (refine ⟨(HX.out _ HA1.out).1, (HX.out _ HA1.out).2.1⟩)
      | (refine ⟨(HX.out _ (hb4.alloc hb4.size _)).1, (HX.out _ (hb4.alloc hb4.size _)).2.1⟩)
      | fail)
    (first
      | (refine step_append_byt (by rfl) (.tmp 7) (.tmp 11) (by rfl) (by rfl) (by rfl) (HA2.out.below hb4') ho4.byt (by have := HLV.out; simp only [List.length_cons, List.length_nil, Int.toNat_natCast]; omega) hb4.size ?_; intro v5 w5 ho5 hg5 _; have hb5 := hb4.grown hg5 hb4.size (fun q hq => (World.ownsRow.lt (HA2.out.below hb4') q hq).1); clear hg5)
      | (refine step_append_byt (by rfl) (.tmp 7) (.tmp 11) (by rfl) (by rfl) (by rfl) ((HYK.out w4).more hb4.size) (ho4.byt.alloc _) (by have := HLV.out; simp only [List.length_cons, List.length_nil, Int.toNat_natCast]; omega) (Nat.le_trans hb4.size (al_le _ _)) ?_; intro v5 w5 ho5 hg5 _; have hb5 := (hb4.alloc hb4.size _).grown hg5 (Nat.le_trans hb4.size (al_le _ _)) (fun q hq => (World.ownsRow.lt ((HYK.out w4).more hb4.size) q hq).1); clear hg5)
      | (go_at_call 67; (with_reducible refine (HNV.out (w0.alloc (.cells #[.int .u8 (k : Int)] 5)).drew).mono ?_); rintro e w4 ⟨v4, rfl, ho4, hb4'⟩; have hb4 := HA1.out.trans (hb4'.mono HA1.out.size))
      | (go_at_call 67; (with_reducible refine (HNV.out w0.drew).mono ?_); rintro e w4 ⟨v4, rfl, ho4, hb4'⟩; have hb4 := hbd.trans hb4')
      | fail)
  all_goals
    rw [Int.toNat_natCast] at ho4 ho5
    have ho5' : Own w0.heap.size w5 v5 ([UInt8.ofNat k] ++ dg v) := ho5
    clear ho4 ho5 hb4 hb4'
    obtain ⟨P, HP⟩ : ∃ P : List UInt8, Hid ([UInt8.ofNat k] ++ dg v = P) := ⟨_, hid rfl⟩
    have HPL : Hid (P.length ≤ 11) := hid (by rw [← HP.out, List.length_append]; have := HLV.out; simp only [List.length_cons, List.length_nil]; omega)
    rw [HP.out] at ho5'
    have hbd5 : Below w0.heap.size w0 w5.drew := hb5.drew
    have hz5 := hb5.size
    have hbB : Below w5.heap.size w5 (w5.alloc (.cells #[.int .u8 (p : Int)] 5)).drew := ((Below.refl _ _).alloc (Nat.le_refl _) _).drew
    have hyB : Byt (w5.alloc (.cells #[.int .u8 (p : Int)] 5)).drew (.slice (some ⟨w5.heap.size, 0, none⟩) 1 1) [UInt8.ofNat p] := (HYP.out w5).byt
    have HB1 := hid hbB
    have HB2 := hid hyB
    have HB3 := hid (hb5.trans (hbB.mono hb5.size))
    have hd5 : Below w5.heap.size w5 w5.drew := (Below.refl _ _).drew
    have hu := under_hash
    have hsz : (Tryz.prog.info? 34).map (·.size) = some (bcells ha).length := by rw [size_hash, bcells_length, HOK.out.ha]
    clear hbB hyB
    go_upto_region 2 with (fail)
    go_region_held3 (fun W => W.cell? ⟨w.heap.size, 3, none⟩ = some (.int .i64 (p : Int)) ∧ W.rangeAt w.heap.size 4 (bcells ha))
      (first
        | (refine ⟨(HX.out _ hbd5).2.2.1, (HX.out _ hbd5).2.2.2.2.1⟩)
        | (refine ⟨(HX.out _ hb8).2.2.1, (HX.out _ hb8).2.2.2.2.1⟩)
        | (refine ⟨(HX.out _ hb7).2.2.1, (HX.out _ hb7).2.2.2.2.1⟩)
        | (refine ⟨(HX.out _ hb6).2.2.1, (HX.out _ hb6).2.2.2.2.1⟩)
        | (refine ⟨(HX.out _ HB3.out).2.2.1, (HX.out _ HB3.out).2.2.2.2.1⟩)
        | (refine ⟨(HX.out _ (hb7.alloc hb7.size _)).2.2.1, (HX.out _ (hb7.alloc hb7.size _)).2.2.2.2.1⟩)
        | fail)
      (first
        | (refine step_append_byt (by rfl) (.tmp 18) (.tmp 21) (by rfl) (by rfl) (by rfl) (ho6.below hb7') ho7.byt (by rw [List.length_append]; have := HPL.out; have := HOK.out.ha; simp only [List.length_cons, List.length_nil] at *; omega) hb7.size ?_; intro v8 w8 ho8 hg8 _; have hb8 := hb7.grown hg8 hb7.size (fun q hq => (World.ownsRow.lt (ho6.below hb7') q hq).1); clear hg8)
        | (refine step_append_byt (by rfl) (.tmp 18) (.tmp 21) (by rfl) (by rfl) (by rfl) ho6 hy7 (by rw [List.length_append]; have := HPL.out; have := HOK.out.ha; simp only [List.length_cons, List.length_nil] at *; omega) hb6.size ?_; intro v8 w8 ho8 hg8 _; have hb8 := hb6.grown hg8 hb6.size (fun q hq => (World.ownsRow.lt ho6 q hq).1); clear hg8)
        | (refine step_append_byt (by rfl) (.tmp 13) (.tmp 17) (by rfl) (by rfl) (by rfl) (ho5'.below HB1.out) HB2.out (by have := HPL.out; simp only [List.length_cons, List.length_nil]; omega) HB3.out.size ?_; intro v6 w6 ho6 hg6 _; have hb6 := HB3.out.grown hg6 HB3.out.size (fun q hq => (World.ownsRow.lt (ho5'.below HB1.out) q hq).1); clear hg6)
        | (refine step_append_byt (by rfl) (.tmp 13) (.tmp 17) (by rfl) (by rfl) (by rfl) ((ho5'.below HB1.out).below hb7') (HB2.out.below hb7') (by have := HPL.out; simp only [List.length_cons, List.length_nil]; omega) hb7.size ?_; intro v6 w6 ho6 hg6 _; have hb6 := hb7.grown hg6 hb7.size (fun q hq => (World.ownsRow.lt ((ho5'.below HB1.out).below hb7') q hq).1); have hy7 := own_past ho5' HB1.out.size ho7 hg6; clear hg6)
        | (refine step_append_byt (by rfl) (.tmp 13) (.tmp 17) (by rfl) (by rfl) (by rfl) (((ho5'.below hd5).below hb7').alloc _) (HYP.out w7).byt (by have := HPL.out; simp only [List.length_cons, List.length_nil]; omega) (Nat.le_trans hb7.size (al_le _ _)) ?_; intro v6 w6 ho6 hg6 _; have hb6 := (hb7.alloc hb7.size _).grown hg6 (Nat.le_trans hb7.size (al_le _ _)) (fun q hq => (World.ownsRow.lt (((ho5'.below hd5).below hb7').alloc _) q hq).1); have hy7 := own_past ho5' hd5.size (ho7.alloc _) hg6; clear hg6)
        | (go_at_call 68; (with_reducible refine (HBH.out w6).mono ?_); rintro e w7 ⟨v7, rfl, ho7, hb7'⟩; have hb7 := hb6.trans (hb7'.mono hb6.size))
        | (go_at_call 68; (with_reducible refine (HBH.out (w5.alloc (.cells #[.int .u8 (p : Int)] 5)).drew).mono ?_); rintro e w7 ⟨v7, rfl, ho7, hb7'⟩; have hb7 := HB3.out.trans (hb7'.mono HB3.out.size))
        | (go_at_call 68; (with_reducible refine (HBH.out w5.drew).mono ?_); rintro e w7 ⟨v7, rfl, ho7, hb7'⟩; have hb7 := hbd5.trans (hb7'.mono hbd5.size))
        | fail)
  all_goals
    have ho8' : Own w0.heap.size w8 v8 (P ++ [UInt8.ofNat p] ++ ha) := ho8
    obtain ⟨M, HM⟩ : ∃ M : List UInt8, Hid (P ++ [UInt8.ofNat p] ++ ha = M) := ⟨_, hid rfl⟩
    have HML : Hid (M.length ≤ 44) := hid (by rw [← HM.out, List.length_append, List.length_append]; have := HPL.out; have := HOK.out.ha; simp only [List.length_cons, List.length_nil] at *; omega)
    rw [HM.out] at ho8'
    have k8 := (HX.out _ hb8).2.2.2.1
    clear ho5' ho6 ho7 ho8 hb6 hb7 hb7' hbd5 hz5 hd5 hu hsz HB1 HB2 HB3 hbd
    (try clear hy7)
    go_wp2_with fail
    refine (HNQ.out w8).mono ?_
    rintro e w9 ⟨v9, rfl, ho9, hb9'⟩
    rw [Int.toNat_natCast] at ho9
    have hb9 := hb8.trans (hb9'.mono hb8.size)
    have ho89 := ho8'.below hb9'
    have hl9 : M.length + (dg q).length ≤ 140737488355328 := by have := HML.out; have := HLQ.out; omega
    clear k8
    go_wp2_with (at_builtin; refine wpList_append_byt rfl (.tmp 23) (.tmp 27) rfl rfl rfl ho89 ho9.byt hl9 hb9.size ?_; intro v10 w10 ho10 hg10 hv10; have hb10 := hb9.grown hg10 hb9.size (fun q hq => (World.ownsRow.lt ho89 q hq).1); have l10 := loadH_mid (HX.out _ hb10).2.2.2.2.2 HOK.out.pa; clear hg10 hv10)
    refine (HBP.out w10).mono ?_
    rintro e w11 ⟨v11, rfl, ho11, hb11'⟩
    have hb11 := hb10.trans (hb11'.mono hb10.size)
    have ho1011 := ho10.below hb11'
    have hl11 : (M ++ dg q).length + pa.length ≤ 140737488355328 := by rw [List.length_append]; have := HML.out; have := HLQ.out; have := HOK.out.pa; simp only at this; omega
    clear l10
    go_wp2_with (at_builtin; refine wpList_append_byt rfl (.tmp 29) (.tmp 32) rfl rfl rfl ho1011 ho11.byt hl11 hb11.size ?_; intro v12 w12 ho12 hg12 hv12; have hb12 := hb11.grown hg12 hb11.size (fun q hq => (World.ownsRow.lt ho1011 q hq).1); clear hg12 hv12)
    go_ret
    refine ⟨v12, rfl, ?_, hb0.trans (hb12.mono hs0)⟩
    have e : M ++ dg q ++ pa = O := by
      rw [← HO.out, ← HM.out, ← HP.out]
      unfold taggedA
      simp only [Int.toNat_natCast, HDK.out, HDP.out, List.append_assoc]
    rw [e] at ho12
    exact ho12.more hs0
theorem refTagged_any (a : AtM) (w : World) (ho : a.Ok) (hm : mayA a = true) :
    Calls Tryz.prog 53 #[.agg (atc a)] w fun e w' => ∃ x, e = .returned x ∧ Own w.heap.size w' x (taggedA a) ∧ Below w.heap.size w w' := by
  obtain ⟨_, _, h3, h4, h5, h6, h7, h8, h9⟩ := mayA_iff hm
  exact refTagged_of a w ho ⟨h3, h4, h5, h6, h7, h8, h9⟩
end Go.Proofs.YtpnejoglkmfleaaGreatDoor
namespace Go.Proofs.YtpnejoglkmfleaaGreatDoor
set_option maxRecDepth 20000
open Go.ChangeShapes Go.WideShapes Go.ChangeAt Go.RowKit Go.Deep
theorem drop_part {α : Type} {cs l : List α} {o k : Nat} (h : (cs.drop o).take k = l) : cs.drop o = l ++ cs.drop (o + k) := by
  conv => lhs; rw [← List.take_append_drop k (cs.drop o), List.drop_drop, h]
section
variable {H : Type} {enc : TypeId × Value → H} {w : World} {base : Nat} {spare : Nat → Bool} {held : Bool} {fuel : Nat} {cs : List Value} {x : DataW H × List MemPlace}
theorem fields_at : ∃ f0 f1 f2 f3 f4 f5 f6 f7 : Field, Tryz.prog.underlying 36 = some (.struct #[f0, f1, f2, f3, f4, f5, f6, f7]) ∧ (f0.type, f0.offset) = (3, 0) ∧ (f1.type, f1.offset) = (3, 1) ∧ (f2.type, f2.offset) = (3, 2)
    ∧ (f3.type, f3.offset) = (3, 3) ∧ (f4.type, f4.offset) = (34, 4) ∧ (f5.type, f5.offset) = (3, 36) ∧ (f6.type, f6.offset) = (34, 37) ∧ (f7.type, f7.offset) = (34, 69) :=
  ⟨_, _, _, _, _, _, _, _, Tryz.underlying36, rfl, rfl, rfl, rfl, rfl, rfl, rfl, rfl⟩
theorem trod_at (h : DataW.trod enc Tryz.prog w base spare held fuel 36 cs = some x) : ∃ a : AtM, a.Ok ∧ cs = atl a := by
  obtain ⟨f0, f1, f2, f3, f4, f5, f6, f7, hu, e0, e1, e2, e3, e4, e5, e6, e7⟩ := fields_at
  injection e0 with t0 o0
  injection e1 with t1 o1
  injection e2 with t2 o2
  injection e3 with t3 o3
  injection e4 with t4 o4
  injection e5 with t5 o5
  injection e6 with t6 o6
  injection e7 with t7 o7
  obtain ⟨xs, m, _, _, hlen, hxl, hf⟩ := DataW.trod_struct hu h
  have hc : Tryz.prog.cellsOf 36 = 101 := by kernel_rfl
  have hci : Tryz.prog.cellsOf 3 = 1 := by kernel_rfl
  have hch : Tryz.prog.cellsOf 34 = 32 := by kernel_rfl
  rw [hc] at hlen
  have hx : xs.length = 8 := hxl
  have g0 := hf 0 f0 rfl
  have g1 := hf 1 f1 rfl
  have g2 := hf 2 f2 rfl
  have g3 := hf 3 f3 rfl
  have g4 := hf 4 f4 rfl
  have g5 := hf 5 f5 rfl
  have g6 := hf 6 f6 rfl
  have g7 := hf 7 f7 rfl
  rw [t0, o0, hci, List.getElem?_eq_getElem (by omega)] at g0
  rw [t1, o1, hci, List.getElem?_eq_getElem (by omega)] at g1
  rw [t2, o2, hci, List.getElem?_eq_getElem (by omega)] at g2
  rw [t3, o3, hci, List.getElem?_eq_getElem (by omega)] at g3
  rw [t4, o4, hch, List.getElem?_eq_getElem (by omega)] at g4
  rw [t5, o5, hci, List.getElem?_eq_getElem (by omega)] at g5
  rw [t6, o6, hch, List.getElem?_eq_getElem (by omega)] at g6
  rw [t7, o7, hch, List.getElem?_eq_getElem (by omega)] at g7
  obtain ⟨n0, c0, _, _⟩ := DataW.trod_int Tryz.underlying3 g0
  obtain ⟨n1, c1, _, _⟩ := DataW.trod_int Tryz.underlying3 g1
  obtain ⟨n2, c2, _, _⟩ := DataW.trod_int Tryz.underlying3 g2
  obtain ⟨n3, c3, _, _⟩ := DataW.trod_int Tryz.underlying3 g3
  obtain ⟨ha, h4, c4⟩ := trod_hash g4
  obtain ⟨n5, c5, _, _⟩ := DataW.trod_int Tryz.underlying3 g5
  obtain ⟨pa, h6, c6⟩ := trod_hash g6
  obtain ⟨tg, h7, c7⟩ := trod_hash g7
  refine ⟨⟨n0, n1, n2, n3, ha, n5, pa, tg⟩, ⟨h4, h6, h7⟩, ?_⟩
  have e : cs = cs.drop 0 := rfl
  rw [e, drop_part c0, drop_part c1, drop_part c2, drop_part c3, drop_part c4, drop_part c5, drop_part c6, drop_part c7, List.drop_eq_nil_of_le (by omega)]
  unfold atl
  simp only [List.append_nil, List.cons_append, List.nil_append]
theorem trod_att (h : DataW.trod enc Tryz.prog w base spare held fuel 36 cs = some x) : ∃ a : AtM, a.Ok ∧ cs = (atc a).toList := by
  obtain ⟨a, ho, e⟩ := trod_at h
  exact ⟨a, ho, e⟩
end
end Go.Proofs.YtpnejoglkmfleaaGreatDoor
