/-
  CtPure CtWords CtRd CtSlice CtMk CtSame CtArg CtOk CtCodeWith: what each of them says stands at its head.
-/
import Derived.Test.YtpnejoglkmfleaaDoorBs12
import Derived.Lib.AppendZerosOnto
namespace Go.Proofs.YtpnejoglkmfleaaDoor
set_option maxRecDepth 20000
structure SgM where
  bo : Int
  tg : List UInt8
  deriving DecidableEq
def SgM.Ok (s : SgM) : Prop := s.tg.length = 32
structure CtM where
  att : AtM
  sg : List SgM
  deriving DecidableEq
structure CtM.Ok (c : CtM) : Prop where
  att : c.att.Ok
  sg : ∀ s ∈ c.sg, s.Ok
def ctZ : CtM := ⟨atZ, []⟩
theorem ctZ_ok : ctZ.Ok := ⟨atZ_ok, fun s hs => absurd hs (by simp [ctZ])⟩
def withC (a : AtM) (s : SgM) : AtM := { a with bo := s.bo, tg := s.tg }
theorem withC_ok {a : AtM} {s : SgM} (ha : a.Ok) (hs : s.Ok) : (withC a s).Ok := ⟨ha.ha, ha.pa, hs⟩
def sigsC (l : List AtM) (q : Nat) : Nat → List SgM
  | 0 => []
  | k + 1 => if (sigsC l q k).length < q then match l.find? (fun a => decide (a.bo = ((k + 1 : Nat) : Int))) with
    | some a => sigsC l q k ++ [⟨((k + 1 : Nat) : Int), a.tg⟩]
    | none => sigsC l q k
    else sigsC l q k
def makeC (n : Int) (l : List AtM) : CtM × Int := match l with
  | [] => (ctZ, 1)
  | a0 :: r => if quoS n = 0 then (ctZ, 1) else if ((a0 :: r).all fun a => rightA a && decide (a.bo ≤ n)) = false then (ctZ, 7) else if ((a0 :: r).all fun a => alikeA a a0) = false then (ctZ, 1)
    else if (sigsC (a0 :: r) (quoS n) n.toNat).length < quoS n then (ctZ, 3) else (⟨withC a0 ⟨0, z32⟩, sigsC (a0 :: r) (quoS n) n.toNat⟩, 0)
theorem sigsC_len (l : List AtM) (q : Nat) : ∀ k, (sigsC l q k).length ≤ q
  | 0 => Nat.zero_le _
  | k + 1 => by
    have ih := sigsC_len l q k
    unfold sigsC
    split
    · split
      · simp only [List.length_append, List.length_cons, List.length_nil]
        omega
      · exact ih
    · exact ih
theorem sigsC_mem (l : List AtM) (q : Nat) : ∀ k, ∀ s ∈ sigsC l q k, ∃ a ∈ l, a.bo = s.bo ∧ a.tg = s.tg
  | 0, s, hs => by cases hs
  | k + 1, s, hs => by
    have ih := sigsC_mem l q k s
    unfold sigsC at hs
    split at hs
    · split at hs
      · rename_i a ha
        rcases List.mem_append.1 hs with hs | hs
        · exact ih hs
        · obtain rfl := List.mem_singleton.1 hs
          refine ⟨a, List.mem_of_find?_eq_some ha, ?_, rfl⟩
          have := List.find?_some ha
          exact of_decide_eq_true this
      · exact ih hs
    · exact ih hs
theorem quoS_top {n : Int} (h : quoS n ≠ 0) : 1 ≤ n ∧ n ≤ 21 ∧ 0 < quoS n ∧ n < 2 * (quoS n : Int) := by
  unfold quoS at h ⊢
  split at h
  · rename_i hc
    rw [if_pos hc]
    omega
  · exact absurd rfl h
end Go.Proofs.YtpnejoglkmfleaaDoor
namespace Go.Proofs.YtpnejoglkmfleaaDoor
set_option maxRecDepth 20000
open Go.RowKit
def scl (s : SgM) : List Value := .int .i64 s.bo :: bcells s.tg
def sgc (s : SgM) : Array Value := (scl s).toArray
theorem scl_length {s : SgM} (h : s.Ok) : (scl s).length = 33 := by
  unfold scl
  rw [List.length_cons, bcells_length, h]
theorem sgc_size {s : SgM} (h : s.Ok) : (sgc s).size = 33 := by
  unfold sgc
  rw [List.size_toArray, scl_length h]
theorem scl_one (s : SgM) : ∀ u ∈ scl s, u.oneCell' = true := by
  intro u hu
  rcases List.mem_cons.1 hu with rfl | hu
  · rfl
  · exact bcells_one _ u hu
def sgZ : SgM := ⟨0, z32⟩
theorem sgZ_ok : sgZ.Ok := rfl
theorem under_sg : Tryd.prog.underlying 59 = some (.struct (Tryd.prog.fieldsOf 59)) := by kernel_rfl
theorem size_sg : (Tryd.prog.info? 59).map (·.size) = some 33 := by kernel_rfl
theorem info_sg : (Tryd.prog.info? 59).map (fun i => (i.zero, i.size, decide (i.bytes ≤ 100000))) = some (some (.agg (sgc sgZ)), 33, true) := by kernel_rfl
theorem eltSg : Elt scl SgM.Ok 33 59 35 := by
  refine ⟨by omega, fun _ h => scl_length h, scl_one, by kernel_rfl, by kernel_rfl, ?_⟩
  obtain ⟨i, hi, h⟩ := Option.map_eq_some_iff.1 info_sg
  injection h with h1 h
  injection h with h2 h3
  exact ⟨i, _, hi, h1, h2, of_decide_eq_true h3, by show (sgc sgZ).size = 33; exact sgc_size sgZ_ok⟩
noncomputable def loadSg (v : Value) (w : World) : Result Next := Sem.run Tryd.prog (execOp (fun _ => v) { dst := none, op := .load 59 (.tmp 0), type := 0, pos := "", after := #[], guard := none }) w
theorem exec_load_sg (r : Operand → Value) (x : Operand) (dst : Option Tmp) (ty : TypeId) (pos : String) (after : Array Edge) (guard : Option (Nat × Bool)) (w : World) :
    Sem.run Tryd.prog (execOp r { dst := dst, op := .load 59 x, type := ty, pos := pos, after := after, guard := guard }) w = loadSg (r x) w := rfl
theorem loadSg_mid {w : World} {g o : Nat} {s : SgM} (hr : w.rangeAt g o (scl s)) (ho : s.Ok) : loadSg (.pointer (some ⟨g, o, none⟩)) w = .ok (.value (.agg (sgc s))) w := by
  have := run_loadAt_mid (P := Tryd.prog) w g o 59 (scl s) _ hr under_sg rfl (by rw [size_sg, scl_length ho])
  unfold loadSg execOp
  simp only [Sem.run_bind, this, Result.andThen_ok, Sem.run_pure]
  rfl
theorem sg_range {w : World} {g o : Nat} {s : SgM} (hr : w.rangeAt g o (scl s)) : w.cell? ⟨g, o, none⟩ = some (.int .i64 s.bo) ∧ w.rangeAt g (o + 1) (bcells s.tg) := by
  refine ⟨hr 0 _ rfl, fun j u hu => ?_⟩
  rw [show o + 1 + j = o + (j + 1) from by omega]
  exact hr (j + 1) u hu
def ctc (c : CtM) (s : Value) : Array Value := (atl c.att ++ [s]).toArray
theorem ctc_size {c : CtM} (s : Value) (h : c.att.Ok) : (ctc c s).size = 102 := by simp [ctc, atl_length h]
def CtV (w : World) (v : Value) (c : CtM) : Prop := ∃ s, v = .agg (ctc c s) ∧ c.Ok ∧ Els scl 33 w s c.sg
theorem CtV.below {w w' : World} {v : Value} {c : CtM} (h : CtV w v c) (hb : Below w.heap.size w w') : CtV w' v c := by
  obtain ⟨s, rfl, h1, h2⟩ := h
  exact ⟨s, rfl, h1, h2.below hb⟩
def BoxC (w : World) (g : Nat) (c : CtM) (s : Value) : Prop := w.heap[g]? = some (.cells (ctc c s) 37 (0, 0))
section
variable {w w' : World} {g : Nat} {c : CtM} {s : Value}
theorem BoxC.new (w : World) (c : CtM) (s : Value) : BoxC (w.alloc (.cells (ctc c s) 37)) w.heap.size c s := heap_alloc_new w _
theorem BoxC.lt (h : BoxC w g c s) : g < w.heap.size := lt_of_block h
theorem BoxC.below {B : Nat} (h : BoxC w g c s) (hb : Below B w w') (hg : g < B) : BoxC w' g c s := (hb.block g hg).trans h
theorem BoxC.free (h : BoxC w g c s) (i : Nat) : w.frozen? ⟨g, i, none⟩ = false := free_blk h i
theorem BoxC.cell (h : BoxC w g c s) (i : Nat) : w.cell? ⟨g, i, none⟩ = (atl c.att ++ [s])[i]? := by
  rw [cell_blk h i]
  unfold ctc
  rw [List.getElem?_toArray]
theorem BoxC.att (h : BoxC w g c s) : w.rangeAt g 0 (atl c.att) := fun j u hu => by
  rw [Nat.zero_add, h.cell, List.getElem?_append_left (List.getElem?_eq_some_iff.1 hu).1]
  exact hu
theorem BoxC.sigs (h : BoxC w g c s) (ho : c.att.Ok) : w.cell? ⟨g, 101, none⟩ = some s := by
  rw [h.cell, List.getElem?_append_right (by rw [atl_length ho]; omega), atl_length ho]
  rfl
theorem BoxC.bo (h : BoxC w g c s) : w.cell? ⟨g, 0, none⟩ = some (.int .i64 c.att.bo) := h.att 0 _ rfl
theorem BoxC.tag (h : BoxC w g c s) (ho : c.att.Ok) : w.rangeAt g 69 (bcells c.att.tg) := fun j u hu => by
  have e := h.att (69 + j) u (by
    rw [atl_tag, List.append_nil, List.getElem?_append_right (by simp only [List.length_append, bcells_length, ho.ha, ho.pa, List.length_cons, List.length_nil]; omega)]
    simp only [List.length_append, bcells_length, ho.ha, ho.pa, List.length_cons, List.length_nil]
    rw [show 69 + j - (0 + 1 + 1 + 1 + 1 + (32 + (0 + 1 + 32))) = j from by omega]
    exact hu)
  rwa [Nat.zero_add] at e
end
noncomputable def loadCt (v : Value) (w : World) : Result Next := Sem.run Tryd.prog (execOp (fun _ => v) { dst := none, op := .load 37 (.tmp 0), type := 0, pos := "", after := #[], guard := none }) w
theorem exec_load_ct (r : Operand → Value) (x : Operand) (dst : Option Tmp) (ty : TypeId) (pos : String) (after : Array Edge) (guard : Option (Nat × Bool)) (w : World) :
    Sem.run Tryd.prog (execOp r { dst := dst, op := .load 37 x, type := ty, pos := pos, after := after, guard := guard }) w = loadCt (r x) w := rfl
theorem under_ct : Tryd.prog.underlying 37 = some (.struct (Tryd.prog.fieldsOf 37)) := by kernel_rfl
theorem size_ct : (Tryd.prog.info? 37).map (·.size) = some 102 := by kernel_rfl
theorem loadCt_row {w : World} {g : Nat} {C : Array Value} {T : TypeId} (h : w.heap[g]? = some (.cells C T (0, 0))) (hs : C.size = 102) : loadCt (.pointer (some ⟨g, 0, none⟩)) w = .ok (.value (.agg C)) w := by
  have := run_loadAt_mid (P := Tryd.prog) w g 0 37 C.toList _ (fun j v hj => by rw [Nat.zero_add, cell_blk h j]; simpa using hj) under_ct rfl (by rw [size_ct]; simp [hs])
  simp only [Array.toArray_toList] at this
  unfold loadCt execOp
  simp only [Sem.run_bind, this, Result.andThen_ok, Sem.run_pure]
theorem ctc_one {w : World} {c : CtM} {s : Value} (h : Els scl 33 w s c.sg) : (ctc c s).all (·.oneCell') = true := by
  obtain ⟨A, k, rfl, _⟩ := h
  unfold ctc
  refine all_oneCell_toArray ?_
  intro u hu
  rcases List.mem_append.1 hu with hu | hu
  · exact atl_one _ u hu
  · obtain rfl := List.mem_singleton.1 hu
    rfl
theorem zero_ct : (Tryd.prog.info? 37).bind (·.zero) = some (.agg (ctc ctZ (.slice none 0 0))) := by kernel_rfl
theorem run_zero_ct (w : World) : (zeroValue 37).run Tryd.prog w = .ok (.agg (ctc ctZ (.slice none 0 0))) w := by
  have h := zero_ct
  cases hq : Tryd.prog.info? 37 with
  | none => rw [hq] at h; cases h
  | some i =>
    rw [hq] at h
    have hz : i.zero = some (.agg (ctc ctZ (.slice none 0 0))) := h
    simp [zeroValue, typeInfo, hq, hz]
noncomputable def buildCt (w : World) : Result Next := Sem.run Tryd.prog (execOp (fun _ => undef) { dst := none, op := .build 37 #[], type := 0, pos := "", after := #[], guard := none }) w
theorem exec_build_ct (r : Operand → Value) (dst : Option Tmp) (ty : TypeId) (pos : String) (after : Array Edge) (guard : Option (Nat × Bool)) (w : World) :
    Sem.run Tryd.prog (execOp r { dst := dst, op := .build 37 #[], type := ty, pos := pos, after := after, guard := guard }) w = buildCt w := by
  unfold buildCt execOp
  simp
theorem buildCt_eq (w : World) : buildCt w = .ok (.value (.agg (ctc ctZ (.slice none 0 0)))) w := by
  unfold buildCt
  go_simp
  rfl
noncomputable def allocCt (w : World) : Result Next := Sem.run Tryd.prog (execOp (fun _ => undef) { dst := none, op := .alloc 37, type := 0, pos := "", after := #[], guard := none }) w
theorem exec_alloc_ct (r : Operand → Value) (dst : Option Tmp) (ty : TypeId) (pos : String) (after : Array Edge) (guard : Option (Nat × Bool)) (w : World) :
    Sem.run Tryd.prog (execOp r { dst := dst, op := .alloc 37, type := ty, pos := pos, after := after, guard := guard }) w = allocCt w := rfl
theorem allocCt_eq (w : World) : allocCt w = .ok (.value (.pointer (some ⟨w.heap.size, 0, none⟩))) (w.alloc (.cells (ctc ctZ (.slice none 0 0)) 37)) := by
  unfold allocCt execOp
  simp only [Sem.run_bind, Instr.alloc, run_zero_ct, newVar, newRow, run_newObj_alloc, Sem.run_pure, Result.andThen_ok, Value.cells]
noncomputable def storeCt (p v : Value) (w : World) : Result Next := Sem.run Tryd.prog (execOp (fun x => match x with
  | .tmp 0 => p
  | _ => v) { dst := none, op := .store 37 (.tmp 0) (.tmp 1), type := 0, pos := "", after := #[], guard := none }) w
theorem exec_store_ct (r : Operand → Value) (x y : Operand) (dst : Option Tmp) (ty : TypeId) (pos : String) (after : Array Edge) (guard : Option (Nat × Bool)) (w : World) :
    Sem.run Tryd.prog (execOp r { dst := dst, op := .store 37 x y, type := ty, pos := pos, after := after, guard := guard }) w = storeCt (r x) (r y) w := rfl
def setCt (w : World) (g : Nat) (C : Array Value) : World := w.setRow g C
theorem storeCt_eq {w : World} {g : Nat} {t : TypeId} {C0 C : Array Value} (hg : w.heap[g]? = some (.cells C0 t (0, 0))) (h0 : C0.size = 102) (hC : C.size = 102) (h1 : C.all (·.oneCell') = true) :
    storeCt (.pointer (some ⟨g, 0, none⟩)) (.agg C) w = .ok .skip (setCt w g C) := by
  have := run_storeVar_row (P := Tryd.prog) w g t 37 C0 C hg (by rw [size_ct, hC]) (by rw [h0, hC]) h1
  unfold storeCt execOp
  simp only [Instr.storeAt, Instr.sureAddr, Sem.run_bind, Sem.run_pure, Result.andThen_ok, this]
  rfl
theorem setCt_other (w : World) {g k : Nat} (C : Array Value) (hk : k ≠ g) : (setCt w g C).heap[k]? = w.heap[k]? := setRow_other w g k _ hk
theorem setCt_same {w : World} {g : Nat} {t : TypeId} {C0 C : Array Value} (hg : w.heap[g]? = some (.cells C0 t (0, 0))) : (setCt w g C).heap[g]? = some (.cells C t (0, 0)) := setRow_heap w g _ _ t _ hg
theorem setCt_below {B g : Nat} {a w : World} {C : Array Value} (hb : Below B a w) (hg : B ≤ g) : Below B a (setCt w g C) := below_setRow hb hg _
theorem setCt_self {w : World} {g : Nat} {t : TypeId} {C : Array Value} {fr : Nat × Nat} (hg : w.heap[g]? = some (.cells C t fr)) : setCt w g C = w := by
  have e : ∀ f : Obj → Obj, f (.cells C t fr) = .cells C t fr → w.heap.modify g f = w.heap := by
    intro f hf
    apply Array.ext_getElem?
    intro k
    rw [Array.getElem?_modify]
    by_cases h : g = k
    · subst h
      rw [if_pos rfl, hg]
      simp [hf]
    · rw [if_neg h]
  unfold setCt World.setRow
  rw [e _ rfl]
theorem setCt_alloc (w : World) (T : TypeId) (C0 C : Array Value) : setCt (w.alloc (.cells C0 T)) w.heap.size C = w.alloc (.cells C T) := by
  have hm : ∀ (a : Array Obj) (x : Obj) (f : Obj → Obj), (a.push x).modify a.size f = a.push (f x) := by
    intro a x f
    apply Array.ext_getElem?
    intro k
    rw [Array.getElem?_modify]
    by_cases h : a.size = k
    · subst h
      simp
    · rw [if_neg h, Array.getElem?_push, Array.getElem?_push]
      rw [if_neg (fun e => h e.symm), if_neg (fun e => h e.symm)]
  unfold setCt World.setRow World.alloc
  simp only [hm]
theorem ct_var (w : World) {Z S : Array Value} (hZ : Z.size = 102) (hS : S.size = 102) (h1 : S.all (·.oneCell') = true) :
    storeCt (.pointer (some ⟨w.heap.size, 0, none⟩)) (.agg S) (w.alloc (.cells Z 37)) = .ok .skip (w.alloc (.cells S 37)) := by
  rw [storeCt_eq (heap_alloc_new w _) hZ hS h1, setCt_alloc]
theorem fields_sg : (Tryd.prog.fieldsOf 59).toList.map (fun f => (f.type, f.offset, f.name == "_")) = [(3, 0, false), (27, 1, false)] := by kernel_rfl
set_option maxHeartbeats 1600000 in
theorem eq_sg (a b : SgM) (ho : a.Ok) (hp : b.Ok) (w : World) : (Op.equalIn 10000 59 (.agg (sgc a)) (.agg (sgc b))).run Tryd.prog w = .ok (decide (a = b)) w := by
  have K : ∀ c : SgM, c.Ok → (sgc c)[0]? = some (.int .i64 c.bo) ∧ ((sgc c).toList.drop 1).take 32 = bcells c.tg := fun c hc =>
    ⟨rfl, drop_at (pre := [.int .i64 c.bo]) (m := bcells c.tg) (post := []) (by show scl c = _; unfold scl; simp) rfl (by rw [bcells_length]; exact hc)⟩
  obtain ⟨a0, a1⟩ := K a ho
  obtain ⟨b0, b1⟩ := K b hp
  have EI : ∀ x y : Int, (Op.equalIn 9999 3 (.int .i64 x) (.int .i64 y)).run Tryd.prog w = .ok (x == y) w := fun x y => run_equalIn_int (P := Tryd.prog) w 9998 3 .i64 .i64 x y under_att_int
  rw [run_equalIn_struct w 9999 _ _ _ under_sg (by kernel_rfl), eqF_of, fields_sg]
  rw [eqF_step (part_att_int a0) (part_att_int b0) (EI _ _), eqF_step (part_att_hash a1) (part_att_hash b1) (eq_hash_at 9997 _ _ ho hp w)]
  obtain ⟨p1, p2⟩ := a
  obtain ⟨q1, q2⟩ := b
  simp only [eqF, Sem.run_pure, SgM.mk.injEq, beq_iff_eq, decide_eq_true_eq]
  (repeat' split) <;> simp_all
theorem atc_by (a : AtM) (n : Int) : (atc a).setIfInBounds 0 (.int .i64 n) = atc { a with bo := n } := by
  unfold atc atl
  rw [List.setIfInBounds_toArray]
  rfl
end Go.Proofs.YtpnejoglkmfleaaDoor
namespace Go.Proofs.YtpnejoglkmfleaaDoor
set_option maxRecDepth 20000
open Go.RowKit
noncomputable def buildSg (w : World) : Result Next := Sem.run Tryd.prog (execOp (fun _ => undef) { dst := none, op := .build 59 #[], type := 0, pos := "", after := #[], guard := none }) w
theorem exec_build_sg (r : Operand → Value) (dst : Option Tmp) (ty : TypeId) (pos : String) (after : Array Edge) (guard : Option (Nat × Bool)) (w : World) :
    Sem.run Tryd.prog (execOp r { dst := dst, op := .build 59 #[], type := ty, pos := pos, after := after, guard := guard }) w = buildSg w := by
  unfold buildSg execOp
  simp
theorem buildSg_eq (w : World) : buildSg w = .ok (.value (.agg (sgc sgZ))) w := by
  unfold buildSg
  go_simp
  rfl
end Go.Proofs.YtpnejoglkmfleaaDoor
namespace Go.Proofs.YtpnejoglkmfleaaDoor
set_option maxRecDepth 20000
open Go.RowKit
noncomputable def sliceSg (v : Value) (w : World) : Result Next := Sem.run Tryd.prog (execOp (fun _ => v) { dst := none, op := .buildSlice 35 1 #[(0, .tmp 0)], type := 0, pos := "", after := #[], guard := none }) w
theorem exec_slice_sg (r : Operand → Value) (x : Operand) (dst : Option Tmp) (ty : TypeId) (pos : String) (after : Array Edge) (guard : Option (Nat × Bool)) (w : World) :
    Sem.run Tryd.prog (execOp r { dst := dst, op := .buildSlice 35 1 #[(0, x)], type := ty, pos := pos, after := after, guard := guard }) w = sliceSg (r x) w := by
  unfold sliceSg execOp
  simp
theorem sliceSg_eq (s : SgM) (hs : s.Ok) (w : World) : sliceSg (.agg (sgc s)) w = .ok (.value (.slice (some ⟨w.heap.size, 0, none⟩) 1 1)) (w.alloc (.cells (sgc s) 59)) := by
  have hsz : (sgc s).size = 33 := sgc_size hs
  have e0 : (sgc s).zipIdx = ((scl s).zipIdx).toArray := by unfold sgc; simp
  unfold sliceSg
  go_simp
  have e := putAt_mid (scl s) [] (scl sgZ) [] (by rw [scl_length hs, scl_length sgZ_ok])
  simp only [List.nil_append, List.append_nil, List.length_nil] at e
  rw [← fold_putSg] at e
  exact congrArg (fun C => w.alloc (.cells C 59)) e
end Go.Proofs.YtpnejoglkmfleaaDoor
namespace Go.Proofs.YtpnejoglkmfleaaDoor
set_option maxRecDepth 20000
open Go.RowKit
noncomputable def buildSg2 (u v : Value) (w : World) : Result Next := Sem.run Tryd.prog (execOp (fun x => match x with
  | .tmp 0 => u
  | _ => v) { dst := none, op := .build 59 #[(0, .tmp 0), (1, .tmp 1)], type := 0, pos := "", after := #[], guard := none }) w
theorem exec_build_sg2 (r : Operand → Value) (x y : Operand) (dst : Option Tmp) (ty : TypeId) (pos : String) (after : Array Edge) (guard : Option (Nat × Bool)) (w : World) :
    Sem.run Tryd.prog (execOp r { dst := dst, op := .build 59 #[(0, x), (1, y)], type := ty, pos := pos, after := after, guard := guard }) w = buildSg2 (r x) (r y) w := by
  unfold buildSg2 execOp
  simp
theorem buildSg2_eq (n : Int) (t : List UInt8) (ht : t.length = 32) (w : World) : buildSg2 (.int .i64 n) (.agg (hcells t)) w = .ok (.value (.agg (sgc ⟨n, t⟩))) w := by
  have hsz : (hcells t).size = 32 := by rw [hcells_size, ht]
  have e0 : (hcells t).zipIdx = ((bcells t).zipIdx).toArray := by simp [hcells]
  unfold buildSg2
  go_simp
  have e := putAt_mid (bcells t) [.int .i64 n] (bcells z32) [] (by rw [bcells_length, bcells_length, ht]; rfl)
  simp only [List.append_nil, List.length_cons, List.length_nil] at e
  exact (fold_putSgO (bcells t) 0 1 _).trans e
theorem results_cb {fn : Func} {q s : Tmp} (h : fn.results = #[.cell q 37, .tmp s]) (tmps : Array Value) (w : World) (g2 : Nat) (t2 : TypeId) (ys : Array Value) (v : Value)
    (hq : tmps.getD q undef = .pointer (some ⟨g2, 0, none⟩)) (hv : tmps.getD s undef = v) (h2 : w.heap[g2]? = some (.cells ys t2 (0, 0))) (hy : ys.size = 102) :
    (results fn tmps).run Tryd.prog w = .ok (.tuple #[.agg ys, v]) w := by
  have hq' : tmps[q]?.getD undef = .pointer (some ⟨g2, 0, none⟩) := by simpa using hq
  have hv' : tmps[s]?.getD undef = v := by simpa using hv
  have r2 := run_loadVar_row (P := Tryd.prog) w g2 t2 37 ys (0, 0) _ h2 under_ct rfl (by rw [size_ct, hy])
  simp [results, h, hq', hv', asAddr, r2]
section
variable {n : Int} {l r : List AtM} {a0 : AtM} {q : Nat}
theorem makeC_arg (h : quoS n = 0 ∨ l = []) : makeC n l = (ctZ, 1) := by
  cases l with
  | nil => rfl
  | cons a0 r =>
    obtain h | h := h
    · unfold makeC
      simp only
      rw [if_pos h]
    · cases h
theorem makeC_tag (hq : quoS n ≠ 0) (hl : l = a0 :: r) (h : (l.all fun a => rightA a && decide (a.bo ≤ n)) = false) : makeC n l = (ctZ, 7) := by
  subst hl
  unfold makeC
  simp only
  rw [if_neg hq, if_pos h]
theorem makeC_alike (hq : quoS n ≠ 0) (hl : l = a0 :: r) (h : (l.all fun a => rightA a && decide (a.bo ≤ n)) = true) (h2 : (l.all fun a => alikeA a a0) = false) : makeC n l = (ctZ, 1) := by
  subst hl
  unfold makeC
  simp only
  rw [if_neg hq, if_neg (by rw [h]; decide), if_pos h2]
theorem makeC_few (hq : quoS n ≠ 0) (hl : l = a0 :: r) (h : (l.all fun a => rightA a && decide (a.bo ≤ n)) = true) (h2 : (l.all fun a => alikeA a a0) = true) (h3 : (sigsC l (quoS n) n.toNat).length < quoS n) : makeC n l = (ctZ, 3) := by
  subst hl
  unfold makeC
  simp only
  rw [if_neg hq, if_neg (by rw [h]; decide), if_neg (by rw [h2]; decide), if_pos h3]
theorem makeC_done (hq : quoS n ≠ 0) (hl : l = a0 :: r) (h : (l.all fun a => rightA a && decide (a.bo ≤ n)) = true) (h2 : (l.all fun a => alikeA a a0) = true) (h3 : ¬ (sigsC l (quoS n) n.toNat).length < quoS n) :
    makeC n l = (⟨withC a0 ⟨0, z32⟩, sigsC l (quoS n) n.toNat⟩, 0) := by
  subst hl
  unfold makeC
  simp only
  rw [if_neg hq, if_neg (by rw [h]; decide), if_neg (by rw [h2]; decide), if_neg h3]
theorem sigsC_full {k : Nat} (h : ¬ (sigsC l q k).length < q) : ∀ m, k ≤ m → sigsC l q m = sigsC l q k := by
  intro m hm
  induction m with
  | zero => rw [show k = 0 from by omega]
  | succ m ih =>
    by_cases e : k = m + 1
    · rw [e]
    · have := ih (by omega)
      rw [← this] at h ⊢
      conv => lhs; unfold sigsC
      rw [if_neg h]
theorem sigsC_found {k i : Nat} (h : (sigsC l q k).length < q) (hi : i < l.length) (hb : l[i].bo = ((k + 1 : Nat) : Int)) (hn : ∀ j (hj : j < l.length), j < i → l[j].bo ≠ ((k + 1 : Nat) : Int)) :
    sigsC l q (k + 1) = sigsC l q k ++ [⟨((k + 1 : Nat) : Int), l[i].tg⟩] := by
  have hf : l.find? (fun a => decide (a.bo = ((k + 1 : Nat) : Int))) = some l[i] := by
    rw [List.find?_eq_some_iff_getElem]
    exact ⟨decide_eq_true hb, i, hi, rfl, fun j hj => by simpa using hn j (by omega) hj⟩
  conv => lhs; unfold sigsC
  rw [if_pos h, hf]
theorem sigsC_lack {k : Nat} (hn : ∀ j (hj : j < l.length), l[j].bo ≠ ((k + 1 : Nat) : Int)) : sigsC l q (k + 1) = sigsC l q k := by
  have hf : l.find? (fun a => decide (a.bo = ((k + 1 : Nat) : Int))) = none := by
    rw [List.find?_eq_none]
    intro a ha
    obtain ⟨j, hj, rfl⟩ := List.getElem_of_mem ha
    simpa using hn j hj
  conv => lhs; unfold sigsC
  rw [hf]
  simp
end
def MkPost (n : Int) (l : List AtM) (w : World) (e : Ending) (w' : World) : Prop := ∃ x, e = .returned (.tuple #[x, .int .i64 (makeC n l).2]) ∧ CtV w' x (makeC n l).1 ∧ Below w.heap.size w w'
def MkPostN (n : Int) (l : List AtM) (w : World) (e : Ending) (w' : World) : Prop := ∃ s, e = .returned (.tuple #[.agg (ctc (makeC n l).1 s), .int .i64 (makeC n l).2]) ∧ (makeC n l).1.Ok ∧ OwnE scl 33 59 w.heap.size w' s (makeC n l).1.sg ∧ Below w.heap.size w w'
theorem MkPostN.v {n : Int} {l : List AtM} {w w' : World} {e : Ending} (h : MkPostN n l w e w') : MkPost n l w e w' := by
  obtain ⟨s, he, ho, hs, hb⟩ := h
  exact ⟨_, he, ⟨s, rfl, ho, hs.els eltSg ho.sg⟩, hb⟩
theorem mkPostN_no {n : Int} {l : List AtM} {w w' : World} {k : Int} (h : makeC n l = (ctZ, k)) (hb : Below w.heap.size w w') : MkPostN n l w (.returned (.tuple #[.agg (ctc ctZ (.slice none 0 0)), .int .i64 k])) w' := by
  unfold MkPostN
  rw [h]
  exact ⟨_, rfl, ctZ_ok, OwnE.nil _ w', hb⟩
theorem mkPostN_yes {n : Int} {l : List AtM} {w w' : World} {c : CtM} {s : Value} (h : makeC n l = (c, 0)) (ho : c.Ok) (hs : OwnE scl 33 59 w.heap.size w' s c.sg) (hb : Below w.heap.size w w') : MkPostN n l w (.returned (.tuple #[.agg (ctc c s), .int .i64 0])) w' := by
  unfold MkPostN
  rw [h]
  exact ⟨_, rfl, ho, hs, hb⟩
end Go.Proofs.YtpnejoglkmfleaaDoor
namespace Go.Proofs.YtpnejoglkmfleaaDoor
set_option maxRecDepth 20000
open Go.RowKit
attribute [local go_sem ↓] exec_load_att exec_load_sg
set_option maxHeartbeats 600000 in
theorem refSame9_any (va vb : Value) (a b : CtM) (w : World) (hva : CtV w va a) (hvb : CtV w vb b) :
    Calls Tryd.prog 10 #[va, vb] w fun e w' => e = .returned (.bool (decide (a = b))) ∧ Below w.heap.size w w' := by
  obtain ⟨sa, rfl, hoa, hta⟩ := hva
  obtain ⟨sb, rfl, hob, htb⟩ := hvb
  have hb0 : Below w.heap.size w ((w.alloc (.cells (ctc a sa) 37)).alloc (.cells (ctc b sb) 37)) := ((Below.refl _ _).alloc (Nat.le_refl _) _).alloc (by simp) _
  have hA : BoxC ((w.alloc (.cells (ctc a sa) 37)).alloc (.cells (ctc b sb) 37)) w.heap.size a sa := heap1 w _ _
  have hB : BoxC ((w.alloc (.cells (ctc a sa) 37)).alloc (.cells (ctc b sb) 37)) (w.heap.size + 1) b sb := heap2 w _ _
  have hta0 := hta.below hb0
  have htb0 := htb.below hb0
  obtain ⟨AA, ca, rfl⟩ := hta.shape
  obtain ⟨AB, cb, rfl⟩ := htb.shape
  obtain ⟨CA, HCA⟩ : ∃ C : Array Value, Hid (ctc a (.slice AA a.sg.length ca) = C) := ⟨_, hid rfl⟩
  obtain ⟨CB, HCB⟩ : ∃ C : Array Value, Hid (ctc b (.slice AB b.sg.length cb) = C) := ⟨_, hid rfl⟩
  rw [HCA.out, HCB.out] at hA hB hb0 hta0 htb0 ⊢
  obtain ⟨ans, HAN⟩ : ∃ q : Bool, Hid (decide (a = b) = q) := ⟨_, hid rfl⟩
  rw [HAN.out]
  go_enter Tryd.func10, Tryd.ntmps10
  go_upto_region 1 with (fail)
  generalize ((w.alloc (.cells CA 37)).alloc (.cells CB 37)) = w0 at *
  clear HCA HCB hta htb
  have a4 := hA.sigs hoa.att
  have b4 := hB.sigs hob.att
  have la := loadAtt_in hA.att hoa.att
  have lb := loadAtt_in hB.att hob.att
  have heq := fun W => eq_att a.att b.att hoa.att hob.att W
  obtain ⟨q, HQ⟩ : ∃ q : Bool, Hid (decide (a.att = b.att) = q) := ⟨_, hid rfl⟩
  rw [HQ.out] at heq
  obtain ⟨GA, HGA⟩ : ∃ C : Array Value, Hid (atc a.att = C) := ⟨_, hid rfl⟩
  obtain ⟨GB, HGB⟩ : ∃ C : Array Value, Hid (atc b.att = C) := ⟨_, hid rfl⟩
  rw [HGA.out] at la heq
  rw [HGB.out] at lb heq
  have a4d : ∀ n, (w0.drewN n).cell? ⟨w.heap.size, 101, none⟩ = some (.slice AA a.sg.length ca) := fun n => hA.sigs hoa.att
  have b4d : ∀ n, (w0.drewN n).cell? ⟨w.heap.size + 1, 101, none⟩ = some (.slice AB b.sg.length cb) := fun n => hB.sigs hob.att
  have HOA := hid hoa.sg
  have HOB := hid hob.sg
  clear hA hB hoa hob HGA HGB
  obtain ⟨LA, HLA⟩ : ∃ n : Nat, Hid (a.sg.length = n) := ⟨_, hid rfl⟩
  obtain ⟨LB, HLB⟩ : ∃ n : Nat, Hid (b.sg.length = n) := ⟨_, hid rfl⟩
  have hlena := hta0.len
  have hlenb := htb0.len
  rw [HLA.out] at a4 a4d hta0 hlena
  rw [HLB.out] at b4 b4d htb0 hlenb
  unfold maxLen at hlena hlenb
  obtain ⟨aa, sa⟩ := a
  obtain ⟨ab, sb⟩ := b
  simp only at HQ HLA HLB hta0 htb0 HOA HOB
  cases q with
  | false =>
    obtain rfl : ans = false := by
      rw [← HAN.out]
      exact decide_eq_false (fun e => by injection e with e _; exact of_decide_eq_false HQ.out e)
    clear a4d b4d
    go_wp2_with fail
    go_ret
    exact ⟨rfl, hb0⟩
  | true =>
    by_cases e4 : LA = LB
    · subst e4
      have t4 : ((LA : Int) != (LA : Int)) = false := by simp
      obtain ⟨_, hca1, hca2, hra⟩ := hta0.at_
      obtain ⟨_, hcb1, hcb2, hrb⟩ := htb0.at_
      rw [HLA.out] at hca1
      rw [HLB.out] at hcb1
      unfold maxLen at hca2 hcb2
      have HRA := hid hra
      have HRB := hid hrb
      have HA4 := hid a4d
      have HB4 := hid b4d
      clear hra hrb hta0 htb0 a4d b4d
      go_wp2_with fail
      clear t4 heq la lb a4 b4
      go_loopw [5] (fun si wr => ∃ i : Nat, i ≤ LA ∧ si = .int .i64 i ∧ Hid (∀ j (h : j < sa.length) (h2 : j < sb.length), j < i → sa[j] = sb[j]) ∧ ∃ n, wr = w0.drewN n) (fun si _ => LA - (intOf si).toNat)
      case atStart => exact ⟨0, Nat.zero_le _, rfl, hid (fun j _ _ h => absurd h (by omega)), 0, rfl⟩
      case round =>
        obtain ⟨i, hi, rfl, HBB, n, rfl⟩ := hrel
        have a4d := HA4.out
        have b4d := HB4.out
        by_cases hlt : i < LA
        · have hil : i < sa.length := by rw [HLA.out]; exact hlt
          have him : i < sb.length := by rw [HLB.out]; exact hlt
          obtain ⟨ba, oa', rfl, hba, hcla⟩ := HRA.out (by omega)
          obtain ⟨bb, ob', rfl, hbb, hclb⟩ := HRB.out (by omega)
          have l1 : ∀ k, loadSg (.pointer (some ⟨ba, oa' + i * 33, none⟩)) (w0.drewN k) = .ok (.value (.agg (sgc sa[i]))) (w0.drewN k) := fun k => loadSg_mid (hcla i hil) (HOA.out _ (List.getElem_mem hil))
          have l2 : ∀ k, loadSg (.pointer (some ⟨bb, ob' + i * 33, none⟩)) (w0.drewN k) = .ok (.value (.agg (sgc sb[i]))) (w0.drewN k) := fun k => loadSg_mid (hclb i him) (HOB.out _ (List.getElem_mem him))
          have hI : (i : Int) < (LA : Int) := by omega
          have eqt : ∀ W, (Op.equalIn 10000 59 (.agg (sgc sa[i])) (.agg (sgc sb[i]))).run Tryd.prog W = .ok (decide (sa[i] = sb[i])) W := fun W => eq_sg _ _ (HOA.out _ (List.getElem_mem hil)) (HOB.out _ (List.getElem_mem him)) W
          clear hcla hclb
          obtain ⟨X, HX⟩ : ∃ C : Array Value, Hid (sgc sa[i] = C) := ⟨_, hid rfl⟩
          obtain ⟨Y, HY⟩ : ∃ C : Array Value, Hid (sgc sb[i] = C) := ⟨_, hid rfl⟩
          rw [HX.out] at l1 eqt
          rw [HY.out] at l2 eqt
          by_cases hxy : sa[i] = sb[i]
          · rw [decide_eq_true hxy] at eqt
            go_wp2_with fail
            go_quiet (fail)
            go_wp2
            go_roundw
            case rel =>
              refine ⟨i + 1, by omega, by go_num, hid (fun j h h2 hj => ?_), _, rfl⟩
              by_cases hji : j < i
              · exact HBB.out j h h2 hji
              · obtain rfl : j = i := by omega
                exact hxy
            case measure => simp [intOf]; omega
          · rw [decide_eq_false hxy] at eqt
            go_wp2_with fail
            go_quiet (fail)
            go_wp2
            go_ret
            have e : ans = false := by
              rw [← HAN.out]
              exact decide_eq_false (fun e => by injection e with _ e; subst e; exact hxy rfl)
            subst e
            exact ⟨rfl, below_drewN (below_drewN hb0 _) _⟩
        · obtain rfl : i = LA := by omega
          go_wp2
          go_ret
          have e : ans = true := by
            rw [← HAN.out]
            refine decide_eq_true ?_
            have hp : aa = ab := of_decide_eq_true HQ.out
            have ht : sa = sb := List.ext_getElem (by rw [HLA.out, HLB.out]) fun j h h2 => HBB.out j h h2 (by have := HLA.out; omega)
            rw [hp, ht]
          subst e
          exact ⟨rfl, below_drewN hb0 n⟩
    · have t4 : ((LA : Int) != (LB : Int)) = true := by simp; omega
      obtain rfl : ans = false := by
        rw [← HAN.out]
        exact decide_eq_false (fun e => by injection e with _ e; rw [e] at HLA; exact e4 (HLA.out.symm.trans HLB.out))
      clear e4 a4d b4d hta0 htb0
      go_wp2_with fail
      go_ret
      exact ⟨rfl, hb0⟩
end Go.Proofs.YtpnejoglkmfleaaDoor
namespace Go.Proofs.YtpnejoglkmfleaaDoor
set_option maxRecDepth 20000
open Go.ChangeShapes Go.WideShapes Go.ChangeAt Go.RowKit Go.Deep
section
variable {H : Type} {enc : TypeId × Value → H} {w : World} {base : Nat} {spare : Nat → Bool} {held : Bool} {fuel : Nat} {cs : List Value} {x : DataW H × List MemPlace}
theorem trod_ats (h : DataW.trod enc Tryd.prog w base spare held fuel 22 cs = some x) : ∃ v L, cs = [v] ∧ Els atl 101 w v L ∧ ∀ a ∈ L, a.Ok :=
  eltAt.trod atZ atZ_ok (fun h => trod_at h) h
end
end Go.Proofs.YtpnejoglkmfleaaDoor
namespace Go.Proofs.YtpnejoglkmfleaaDoor
set_option maxRecDepth 20000
open Go.RowKit
def CtMakeOk : Prop := ∀ (n : Int) (v : Value) (l : List AtM) (w : World), (Lit.int .i64 n).wf = true → Els atl 101 w v l → (∀ a ∈ l, a.Ok) → l.length ≤ 1000 → Kst 1 w →
  Calls Tryd.prog 22 #[.int .i64 n, v] w fun e w' => ∃ x, e = .returned (.tuple #[x, .int .i64 (makeC n l).2]) ∧ CtV w' x (makeC n l).1 ∧ Below w.heap.size w w'
end Go.Proofs.YtpnejoglkmfleaaDoor
namespace Go.Proofs.YtpnejoglkmfleaaDoor
set_option maxRecDepth 20000
open Go.RowKit
attribute [local go_sem ↓] exec_load_att exec_alloc_att exec_store_att exec_load_hash
set_option maxHeartbeats 1600000 in
theorem ctWith_any (a : AtM) (s : SgM) (w : World) (ha : a.Ok) (hs : s.Ok) :
    Calls Tryd.prog 35 #[.agg (atc a), .agg (sgc s)] w fun e w' => e = .returned (.agg (atc (withC a s))) ∧ Below w.heap.size w w' := by
  obtain ⟨C, HC⟩ : ∃ C : Array Value, Hid (atc a = C) := ⟨_, hid rfl⟩
  obtain ⟨G, HG⟩ : ∃ C : Array Value, Hid (sgc s = C) := ⟨_, hid rfl⟩
  obtain ⟨D, HD⟩ : ∃ C : Array Value, Hid (atc (withC a s) = C) := ⟨_, hid rfl⟩
  obtain ⟨Z, HZ⟩ : ∃ C : Array Value, Hid (atc atZ = C) := ⟨_, hid rfl⟩
  have hal : ∀ W, allocAtt W = .ok (.value (.pointer (some ⟨W.heap.size, 0, none⟩))) (W.alloc (.cells Z 29)) := fun W => by rw [← HZ.out]; exact allocAtt_eq W
  have HZS : Hid (Z.size = 101) := hid (by rw [← HZ.out]; exact atc_size atZ_ok)
  have HDS : Hid (D.size = 101 ∧ D.all (·.oneCell') = true) := hid (by rw [← HD.out]; exact ⟨atc_size (withC_ok ha hs), atc_one _⟩)
  have hb0 : Below w.heap.size w (((w.alloc (.cells C 29)).alloc (.cells G 59)).alloc (.cells Z 29)) := (((Below.refl _ _).alloc (Nat.le_refl _) _).alloc (by simp) _).alloc (by simp; omega) _
  have hr0 : (((w.alloc (.cells C 29)).alloc (.cells G 59)).alloc (.cells Z 29)).heap[w.heap.size]? = some (.cells C 29 (0, 0)) := (Below.heap_alloc _ _ _ (by simp; omega)).trans (heap1 w _ _)
  have hr1 : (((w.alloc (.cells C 29)).alloc (.cells G 59)).alloc (.cells Z 29)).heap[w.heap.size + 1]? = some (.cells G 59 (0, 0)) := (Below.heap_alloc _ _ _ (by simp)).trans (heap2 w _ _)
  have hr2 : (((w.alloc (.cells C 29)).alloc (.cells G 59)).alloc (.cells Z 29)).heap[w.heap.size + 1 + 1]? = some (.cells Z 29 (0, 0)) := by
    have := heap2 (w.alloc (.cells C 29)) (.cells G 59) (.cells Z 29)
    rwa [show (w.alloc (.cells C 29)).heap.size = w.heap.size + 1 from by simp] at this
  obtain ⟨T, HT⟩ : ∃ C : Array Value, Hid (hcells s.tg = C) := ⟨_, hid rfl⟩
  have HSG : Hid (∀ W : World, W.heap[w.heap.size + 1]? = some (.cells G 59 (0, 0)) → W.cell? ⟨w.heap.size + 1, 0, none⟩ = some (.int .i64 s.bo) ∧ loadH (.pointer (some ⟨w.heap.size + 1, 1, none⟩)) W = .ok (.value (.agg T)) W) := hid (fun W h => by
    rw [← HG.out] at h
    have hr : W.rangeAt (w.heap.size + 1) 0 (scl s) := fun j u hu => by
      rw [Nat.zero_add, cell_blk h j]
      unfold sgc
      rw [List.getElem?_toArray]
      exact hu
    obtain ⟨h1, h2⟩ := sg_range hr
    rw [← HT.out]
    exact ⟨h1, loadH_mid h2 hs⟩)
  have HLD : Hid (∀ W : World, BoxA W w.heap.size { { a with bo := s.bo } with tg := s.tg } → loadAtt (.pointer (some ⟨w.heap.size, 0, none⟩)) W = .ok (.value (.agg D)) W) := hid (fun W h => by
    rw [← HD.out]
    exact loadAtt_eq h (withC_ok ha hs))
  have HOA : Hid ({ a with bo := s.bo } : AtM).Ok := hid ⟨ha.ha, ha.pa, ha.tg⟩
  have HS := hid hs
  rw [HD.out, HC.out, HG.out]
  go_enter Tryd.func35, Tryd.ntmps35
  go_upto_region 1 with (fail)
  generalize (((w.alloc (.cells C 29)).alloc (.cells G 59)).alloc (.cells Z 29)) = w0 at *
  have HA : Hid (BoxA w0 w.heap.size a) := hid (by unfold BoxA; rw [HC.out]; exact hr0)
  have hbd : Below w0.heap.size w0 w0.drew := (Below.refl _ _).drew
  have HB0 := hid hb0
  have HR1 := hid hr1
  have HR2 := hid hr2
  clear hr0 hr1 hr2 hb0 hal ha hs
  refine wp_region_held_drew (S := fun W => W.cell? ⟨w.heap.size + 1, 0, none⟩ = some (.int .i64 s.bo) ∧ loadH (.pointer (some ⟨w.heap.size + 1, 1, none⟩)) W = .ok (.value (.agg T)) W) (by kernel_rfl) (HSG.out _ ((hbd.block _ (lt_of_block HR1.out)).trans HR1.out)) (fun hHeld => ?_)
  refine' tk (i := 0) (v := _) rfl ?_ ?_
  rotate_left
  · (intro W hW; (try dsimp only at hW); go_simp; first | done | with_reducible rfl)
  try simp only [lay]
  refine' tk (i := 1) (v := _) rfl ?_ ?_
  rotate_left
  · (intro W hW; (try dsimp only at hW); obtain ⟨hW1, hW2⟩ := hW; go_simp; first | done | with_reducible rfl)
  try simp only [lay]
  refine' tk (i := 2) (v := _) rfl ?_ ?_
  rotate_left
  · (intro W hW; (try dsimp only at hW); go_simp; first | done | with_reducible rfl)
  try simp only [lay]
  refine' tk (i := 3) (v := _) rfl (fun W hW => hW.2) ?_
  try simp only [lay]
  refine' tk (i := 4) (v := _) rfl ?_ ?_
  rotate_left
  · (intro W hW; (try dsimp only at hW); go_simp; first | done | with_reducible rfl)
  try simp only [lay]
  have k1 := HA.out.free 0
  have k2 := HA.out.cells.1
  have hA2 : BoxA ((w0.setCell ⟨w.heap.size, 0, none⟩ (.int .i64 s.bo)).drew) w.heap.size { a with bo := s.bo } := by
    have := set_blk HA.out 0 (.int .i64 s.bo)
    rw [atc_by] at this
    exact this
  have hR12 : ((w0.setCell ⟨w.heap.size, 0, none⟩ (.int .i64 s.bo)).drew).heap[w.heap.size + 1]? = some (.cells G 59 (0, 0)) := blk_other HR1.out _ (by omega)
  have hR22 : ((w0.setCell ⟨w.heap.size, 0, none⟩ (.int .i64 s.bo)).drew).heap[w.heap.size + 1 + 1]? = some (.cells Z 29 (0, 0)) := blk_other HR2.out _ (by omega)
  have hb2 : Below w.heap.size w ((w0.setCell ⟨w.heap.size, 0, none⟩ (.int .i64 s.bo)).drew) := (HB0.out.setCell (Nat.le_refl _) _).drew
  refine call_on (i := 5) rfl (by kernel_rfl) (by rfl) (fun K hK => ?_)
  go_simp
  refine hK.out _ _ (HSG.out _ hR12) (fun hHeld => ?_)
  clear hK K
  try simp only [lay]
  clear k1 k2
  generalize ((w0.setCell ⟨w.heap.size, 0, none⟩ (.int .i64 s.bo)).drew) = w2 at *
  refine' tk (i := 6) (v := _) rfl ?_ ?_
  rotate_left
  · (intro W hW; (try dsimp only at hW); go_simp; first | done | with_reducible rfl)
  try simp only [lay]
  refine call_on (i := 7) rfl (by kernel_rfl) (by rfl) (fun K hK => ?_)
  refine wp_store_tag (h := s.tg) (a := { a with bo := s.bo }) _ _ rfl rfl (by rw [HT.out]; rfl) hA2 HOA.out HS.out ?_
  intro w3 hg3 hA3 hs3
  have hR13 := (hg3.block _ (lt_of_block hR12) (fun e => by injection e with e; omega)).trans hR12
  have hR23 := (hg3.block _ (lt_of_block hR22) (fun e => by injection e with e; omega)).trans hR22
  have hb3 : Below w.heap.size w w3 := below_into hb2 (Nat.le_refl _) hg3 hb2.size
  refine hK.out _ _ (HSG.out _ hR13) (fun hHeld => ?_)
  clear hK K
  try simp only [Act.put]
  refine wpAnyH_done (by kernel_rfl) ?_ _
  have l3 := HLD.out w3 hA3
  have hst := storeAtt_eq hR23 HZS.out HDS.out.1 HDS.out.2
  have HR23 := hid hR23
  have HB3 := hid hb3
  clear hHeld hR23 hR22 hR13 hR12 hb3 hb2
  go_wp2_with fail
  refine bodyPost_ret (results_cell_row rfl _ _ _ _ _ (0, 0) _ rfl (setAtt_same HR23.out) under_att rfl (by rw [size_att, HDS.out.1])) rfl ⟨rfl, ?_⟩
  exact setAtt_below HB3.out (by omega)
end Go.Proofs.YtpnejoglkmfleaaDoor
