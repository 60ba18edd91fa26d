/-
  CtPure CtWords CtRd CtSlice CtMk: what each of them says stands at its head.
-/
import Derived.Test.YtpnejoglkmfleaaGreatDoorBs10
import Derived.Test.YtpnejoglkmfleaaGreatDoorBs11
namespace Go.Proofs.YtpnejoglkmfleaaGreatDoor
set_option maxRecDepth 20000
structure SgM where
  bo : Int
  tg : List UInt8
  deriving DecidableEq
def SgM.Ok (s : SgM) : Prop := s.tg.length = 32
structure CtM where
  att : AtM
  sg : List SgM
  deriving DecidableEq
structure CtM.Ok (c : CtM) : Prop where
  att : c.att.Ok
  sg : ∀ s ∈ c.sg, s.Ok
def ctZ : CtM := ⟨atZ, []⟩
theorem ctZ_ok : ctZ.Ok := ⟨atZ_ok, fun s hs => absurd hs (by simp [ctZ])⟩
def withC (a : AtM) (s : SgM) : AtM := { a with bo := s.bo, tg := s.tg }
theorem withC_ok {a : AtM} {s : SgM} (ha : a.Ok) (hs : s.Ok) : (withC a s).Ok := ⟨ha.ha, ha.pa, hs⟩
def sigsC (l : List AtM) (q : Nat) : Nat → List SgM
  | 0 => []
  | k + 1 => if (sigsC l q k).length < q then match l.find? (fun a => decide (a.bo = ((k + 1 : Nat) : Int))) with
    | some a => sigsC l q k ++ [⟨((k + 1 : Nat) : Int), a.tg⟩]
    | none => sigsC l q k
    else sigsC l q k
def makeC (n : Int) (l : List AtM) : CtM × Int := match l with
  | [] => (ctZ, 1)
  | a0 :: r => if quoS n = 0 then (ctZ, 1) else if ((a0 :: r).all fun a => rightA a && decide (a.bo ≤ n)) = false then (ctZ, 7) else if ((a0 :: r).all fun a => alikeA a a0) = false then (ctZ, 1)
    else if (sigsC (a0 :: r) (quoS n) n.toNat).length < quoS n then (ctZ, 3) else (⟨withC a0 ⟨0, z32⟩, sigsC (a0 :: r) (quoS n) n.toNat⟩, 0)
theorem sigsC_len (l : List AtM) (q : Nat) : ∀ k, (sigsC l q k).length ≤ q
  | 0 => Nat.zero_le _
  | k + 1 => by
    have ih := sigsC_len l q k
    unfold sigsC
    split
    · split
      · simp only [List.length_append, List.length_cons, List.length_nil]
        omega
      · exact ih
    · exact ih
theorem sigsC_mem (l : List AtM) (q : Nat) : ∀ k, ∀ s ∈ sigsC l q k, ∃ a ∈ l, a.bo = s.bo ∧ a.tg = s.tg
  | 0, s, hs => by cases hs
  | k + 1, s, hs => by
    have ih := sigsC_mem l q k s
    unfold sigsC at hs
    split at hs
    · split at hs
      · rename_i a ha
        rcases List.mem_append.1 hs with hs | hs
        · exact ih hs
        · obtain rfl := List.mem_singleton.1 hs
          refine ⟨a, List.mem_of_find?_eq_some ha, ?_, rfl⟩
          have := List.find?_some ha
          exact of_decide_eq_true this
      · exact ih hs
    · exact ih hs
theorem quoS_top {n : Int} (h : quoS n ≠ 0) : 1 ≤ n ∧ n ≤ 21 ∧ 0 < quoS n ∧ n < 2 * (quoS n : Int) := by
  unfold quoS at h ⊢
  split at h
  · rename_i hc
    rw [if_pos hc]
    omega
  · exact absurd rfl h
end Go.Proofs.YtpnejoglkmfleaaGreatDoor
namespace Go.Proofs.YtpnejoglkmfleaaGreatDoor
set_option maxRecDepth 20000
open Go.RowKit
def scl (s : SgM) : List Value := .int .i64 s.bo :: bcells s.tg
def sgc (s : SgM) : Array Value := (scl s).toArray
theorem scl_length {s : SgM} (h : s.Ok) : (scl s).length = 33 := by
  unfold scl
  rw [List.length_cons, bcells_length, h]
theorem sgc_size {s : SgM} (h : s.Ok) : (sgc s).size = 33 := by
  unfold sgc
  rw [List.size_toArray, scl_length h]
theorem scl_one (s : SgM) : ∀ u ∈ scl s, u.oneCell' = true := by
  intro u hu
  rcases List.mem_cons.1 hu with rfl | hu
  · rfl
  · exact bcells_one _ u hu
def sgZ : SgM := ⟨0, z32⟩
theorem sgZ_ok : sgZ.Ok := rfl
theorem under_sg : Tryz.prog.underlying 66 = some (.struct (Tryz.prog.fieldsOf 66)) := by kernel_rfl
theorem size_sg : (Tryz.prog.info? 66).map (·.size) = some 33 := by kernel_rfl
theorem info_sg : (Tryz.prog.info? 66).map (fun i => (i.zero, i.size, decide (i.bytes ≤ 100000))) = some (some (.agg (sgc sgZ)), 33, true) := by kernel_rfl
theorem eltSg : Elt scl SgM.Ok 33 66 38 := by
  refine ⟨by omega, fun _ h => scl_length h, scl_one, by kernel_rfl, by kernel_rfl, ?_⟩
  obtain ⟨i, hi, h⟩ := Option.map_eq_some_iff.1 info_sg
  injection h with h1 h
  injection h with h2 h3
  exact ⟨i, _, hi, h1, h2, of_decide_eq_true h3, by show (sgc sgZ).size = 33; exact sgc_size sgZ_ok⟩
noncomputable def loadSg (v : Value) (w : World) : Result Next := Sem.run Tryz.prog (execOp (fun _ => v) { dst := none, op := .load 66 (.tmp 0), type := 0, pos := "", after := #[], guard := none }) w
theorem exec_load_sg (r : Operand → Value) (x : Operand) (dst : Option Tmp) (ty : TypeId) (pos : String) (after : Array Edge) (guard : Option (Nat × Bool)) (w : World) :
    Sem.run Tryz.prog (execOp r { dst := dst, op := .load 66 x, type := ty, pos := pos, after := after, guard := guard }) w = loadSg (r x) w := rfl
theorem loadSg_mid {w : World} {g o : Nat} {s : SgM} (hr : w.rangeAt g o (scl s)) (ho : s.Ok) : loadSg (.pointer (some ⟨g, o, none⟩)) w = .ok (.value (.agg (sgc s))) w := by
  have := run_loadAt_mid (P := Tryz.prog) w g o 66 (scl s) _ hr under_sg rfl (by rw [size_sg, scl_length ho])
  unfold loadSg execOp
  simp only [Sem.run_bind, this, Result.andThen_ok, Sem.run_pure]
  rfl
theorem sg_range {w : World} {g o : Nat} {s : SgM} (hr : w.rangeAt g o (scl s)) : w.cell? ⟨g, o, none⟩ = some (.int .i64 s.bo) ∧ w.rangeAt g (o + 1) (bcells s.tg) := by
  refine ⟨hr 0 _ rfl, fun j u hu => ?_⟩
  rw [show o + 1 + j = o + (j + 1) from by omega]
  exact hr (j + 1) u hu
def ctc (c : CtM) (s : Value) : Array Value := (atl c.att ++ [s]).toArray
theorem ctc_size {c : CtM} (s : Value) (h : c.att.Ok) : (ctc c s).size = 102 := by simp [ctc, atl_length h]
def CtV (w : World) (v : Value) (c : CtM) : Prop := ∃ s, v = .agg (ctc c s) ∧ c.Ok ∧ Els scl 33 w s c.sg
theorem CtV.below {w w' : World} {v : Value} {c : CtM} (h : CtV w v c) (hb : Below w.heap.size w w') : CtV w' v c := by
  obtain ⟨s, rfl, h1, h2⟩ := h
  exact ⟨s, rfl, h1, h2.below hb⟩
def BoxC (w : World) (g : Nat) (c : CtM) (s : Value) : Prop := w.heap[g]? = some (.cells (ctc c s) 40 (0, 0))
section
variable {w w' : World} {g : Nat} {c : CtM} {s : Value}
theorem BoxC.new (w : World) (c : CtM) (s : Value) : BoxC (w.alloc (.cells (ctc c s) 40)) w.heap.size c s := heap_alloc_new w _
theorem BoxC.lt (h : BoxC w g c s) : g < w.heap.size := lt_of_block h
theorem BoxC.below {B : Nat} (h : BoxC w g c s) (hb : Below B w w') (hg : g < B) : BoxC w' g c s := (hb.block g hg).trans h
theorem BoxC.free (h : BoxC w g c s) (i : Nat) : w.frozen? ⟨g, i, none⟩ = false := free_blk h i
theorem BoxC.cell (h : BoxC w g c s) (i : Nat) : w.cell? ⟨g, i, none⟩ = (atl c.att ++ [s])[i]? := by
  rw [cell_blk h i]
  unfold ctc
  rw [List.getElem?_toArray]
theorem BoxC.att (h : BoxC w g c s) : w.rangeAt g 0 (atl c.att) := fun j u hu => by
  rw [Nat.zero_add, h.cell, List.getElem?_append_left (List.getElem?_eq_some_iff.1 hu).1]
  exact hu
theorem BoxC.sigs (h : BoxC w g c s) (ho : c.att.Ok) : w.cell? ⟨g, 101, none⟩ = some s := by
  rw [h.cell, List.getElem?_append_right (by rw [atl_length ho]; omega), atl_length ho]
  rfl
theorem BoxC.bo (h : BoxC w g c s) : w.cell? ⟨g, 0, none⟩ = some (.int .i64 c.att.bo) := h.att 0 _ rfl
theorem BoxC.tag (h : BoxC w g c s) (ho : c.att.Ok) : w.rangeAt g 69 (bcells c.att.tg) := fun j u hu => by
  have e := h.att (69 + j) u (by
    rw [atl_tag, List.append_nil, List.getElem?_append_right (by simp only [List.length_append, bcells_length, ho.ha, ho.pa, List.length_cons, List.length_nil]; omega)]
    simp only [List.length_append, bcells_length, ho.ha, ho.pa, List.length_cons, List.length_nil]
    rw [show 69 + j - (0 + 1 + 1 + 1 + 1 + (32 + (0 + 1 + 32))) = j from by omega]
    exact hu)
  rwa [Nat.zero_add] at e
end
noncomputable def loadCt (v : Value) (w : World) : Result Next := Sem.run Tryz.prog (execOp (fun _ => v) { dst := none, op := .load 40 (.tmp 0), type := 0, pos := "", after := #[], guard := none }) w
theorem exec_load_ct (r : Operand → Value) (x : Operand) (dst : Option Tmp) (ty : TypeId) (pos : String) (after : Array Edge) (guard : Option (Nat × Bool)) (w : World) :
    Sem.run Tryz.prog (execOp r { dst := dst, op := .load 40 x, type := ty, pos := pos, after := after, guard := guard }) w = loadCt (r x) w := rfl
theorem under_ct : Tryz.prog.underlying 40 = some (.struct (Tryz.prog.fieldsOf 40)) := by kernel_rfl
theorem size_ct : (Tryz.prog.info? 40).map (·.size) = some 102 := by kernel_rfl
theorem loadCt_row {w : World} {g : Nat} {C : Array Value} {T : TypeId} (h : w.heap[g]? = some (.cells C T (0, 0))) (hs : C.size = 102) : loadCt (.pointer (some ⟨g, 0, none⟩)) w = .ok (.value (.agg C)) w := by
  have := run_loadAt_mid (P := Tryz.prog) w g 0 40 C.toList _ (fun j v hj => by rw [Nat.zero_add, cell_blk h j]; simpa using hj) under_ct rfl (by rw [size_ct]; simp [hs])
  simp only [Array.toArray_toList] at this
  unfold loadCt execOp
  simp only [Sem.run_bind, this, Result.andThen_ok, Sem.run_pure]
theorem ctc_one {w : World} {c : CtM} {s : Value} (h : Els scl 33 w s c.sg) : (ctc c s).all (·.oneCell') = true := by
  obtain ⟨A, k, rfl, _⟩ := h
  unfold ctc
  refine all_oneCell_toArray ?_
  intro u hu
  rcases List.mem_append.1 hu with hu | hu
  · exact atl_one _ u hu
  · obtain rfl := List.mem_singleton.1 hu
    rfl
theorem zero_ct : (Tryz.prog.info? 40).bind (·.zero) = some (.agg (ctc ctZ (.slice none 0 0))) := by kernel_rfl
theorem run_zero_ct (w : World) : (zeroValue 40).run Tryz.prog w = .ok (.agg (ctc ctZ (.slice none 0 0))) w := by
  have h := zero_ct
  cases hq : Tryz.prog.info? 40 with
  | none => rw [hq] at h; cases h
  | some i =>
    rw [hq] at h
    have hz : i.zero = some (.agg (ctc ctZ (.slice none 0 0))) := h
    simp [zeroValue, typeInfo, hq, hz]
noncomputable def buildCt (w : World) : Result Next := Sem.run Tryz.prog (execOp (fun _ => undef) { dst := none, op := .build 40 #[], type := 0, pos := "", after := #[], guard := none }) w
theorem exec_build_ct (r : Operand → Value) (dst : Option Tmp) (ty : TypeId) (pos : String) (after : Array Edge) (guard : Option (Nat × Bool)) (w : World) :
    Sem.run Tryz.prog (execOp r { dst := dst, op := .build 40 #[], type := ty, pos := pos, after := after, guard := guard }) w = buildCt w := by
  unfold buildCt execOp
  simp
theorem buildCt_eq (w : World) : buildCt w = .ok (.value (.agg (ctc ctZ (.slice none 0 0)))) w := by
  unfold buildCt
  go_simp
  rfl
noncomputable def allocCt (w : World) : Result Next := Sem.run Tryz.prog (execOp (fun _ => undef) { dst := none, op := .alloc 40, type := 0, pos := "", after := #[], guard := none }) w
theorem exec_alloc_ct (r : Operand → Value) (dst : Option Tmp) (ty : TypeId) (pos : String) (after : Array Edge) (guard : Option (Nat × Bool)) (w : World) :
    Sem.run Tryz.prog (execOp r { dst := dst, op := .alloc 40, type := ty, pos := pos, after := after, guard := guard }) w = allocCt w := rfl
theorem allocCt_eq (w : World) : allocCt w = .ok (.value (.pointer (some ⟨w.heap.size, 0, none⟩))) (w.alloc (.cells (ctc ctZ (.slice none 0 0)) 40)) := by
  unfold allocCt execOp
  simp only [Sem.run_bind, Instr.alloc, run_zero_ct, newVar, newRow, run_newObj_alloc, Sem.run_pure, Result.andThen_ok, Value.cells]
noncomputable def storeCt (p v : Value) (w : World) : Result Next := Sem.run Tryz.prog (execOp (fun x => match x with
  | .tmp 0 => p
  | _ => v) { dst := none, op := .store 40 (.tmp 0) (.tmp 1), type := 0, pos := "", after := #[], guard := none }) w
theorem exec_store_ct (r : Operand → Value) (x y : Operand) (dst : Option Tmp) (ty : TypeId) (pos : String) (after : Array Edge) (guard : Option (Nat × Bool)) (w : World) :
    Sem.run Tryz.prog (execOp r { dst := dst, op := .store 40 x y, type := ty, pos := pos, after := after, guard := guard }) w = storeCt (r x) (r y) w := rfl
def setCt (w : World) (g : Nat) (C : Array Value) : World := w.setRow g C
theorem storeCt_eq {w : World} {g : Nat} {t : TypeId} {C0 C : Array Value} (hg : w.heap[g]? = some (.cells C0 t (0, 0))) (h0 : C0.size = 102) (hC : C.size = 102) (h1 : C.all (·.oneCell') = true) :
    storeCt (.pointer (some ⟨g, 0, none⟩)) (.agg C) w = .ok .skip (setCt w g C) := by
  have := run_storeVar_row (P := Tryz.prog) w g t 40 C0 C hg (by rw [size_ct, hC]) (by rw [h0, hC]) h1
  unfold storeCt execOp
  simp only [Instr.storeAt, Instr.sureAddr, Sem.run_bind, Sem.run_pure, Result.andThen_ok, this]
  rfl
theorem setCt_other (w : World) {g k : Nat} (C : Array Value) (hk : k ≠ g) : (setCt w g C).heap[k]? = w.heap[k]? := setRow_other w g k _ hk
theorem setCt_same {w : World} {g : Nat} {t : TypeId} {C0 C : Array Value} (hg : w.heap[g]? = some (.cells C0 t (0, 0))) : (setCt w g C).heap[g]? = some (.cells C t (0, 0)) := setRow_heap w g _ _ t _ hg
theorem setCt_below {B g : Nat} {a w : World} {C : Array Value} (hb : Below B a w) (hg : B ≤ g) : Below B a (setCt w g C) := below_setRow hb hg _
theorem setCt_self {w : World} {g : Nat} {t : TypeId} {C : Array Value} {fr : Nat × Nat} (hg : w.heap[g]? = some (.cells C t fr)) : setCt w g C = w := by
  have e : ∀ f : Obj → Obj, f (.cells C t fr) = .cells C t fr → w.heap.modify g f = w.heap := by
    intro f hf
    apply Array.ext_getElem?
    intro k
    rw [Array.getElem?_modify]
    by_cases h : g = k
    · subst h
      rw [if_pos rfl, hg]
      simp [hf]
    · rw [if_neg h]
  unfold setCt World.setRow
  rw [e _ rfl]
theorem setCt_alloc (w : World) (T : TypeId) (C0 C : Array Value) : setCt (w.alloc (.cells C0 T)) w.heap.size C = w.alloc (.cells C T) := by
  have hm : ∀ (a : Array Obj) (x : Obj) (f : Obj → Obj), (a.push x).modify a.size f = a.push (f x) := by
    intro a x f
    apply Array.ext_getElem?
    intro k
    rw [Array.getElem?_modify]
    by_cases h : a.size = k
    · subst h
      simp
    · rw [if_neg h, Array.getElem?_push, Array.getElem?_push]
      rw [if_neg (fun e => h e.symm), if_neg (fun e => h e.symm)]
  unfold setCt World.setRow World.alloc
  simp only [hm]
theorem ct_var (w : World) {Z S : Array Value} (hZ : Z.size = 102) (hS : S.size = 102) (h1 : S.all (·.oneCell') = true) :
    storeCt (.pointer (some ⟨w.heap.size, 0, none⟩)) (.agg S) (w.alloc (.cells Z 40)) = .ok .skip (w.alloc (.cells S 40)) := by
  rw [storeCt_eq (heap_alloc_new w _) hZ hS h1, setCt_alloc]
theorem fields_sg : (Tryz.prog.fieldsOf 66).toList.map (fun f => (f.type, f.offset, f.name == "_")) = [(3, 0, false), (34, 1, false)] := by kernel_rfl
set_option maxHeartbeats 1600000 in
theorem eq_sg (a b : SgM) (ho : a.Ok) (hp : b.Ok) (w : World) : (Op.equalIn 10000 66 (.agg (sgc a)) (.agg (sgc b))).run Tryz.prog w = .ok (decide (a = b)) w := by
  have K : ∀ c : SgM, c.Ok → (sgc c)[0]? = some (.int .i64 c.bo) ∧ ((sgc c).toList.drop 1).take 32 = bcells c.tg := fun c hc =>
    ⟨rfl, drop_at (pre := [.int .i64 c.bo]) (m := bcells c.tg) (post := []) (by show scl c = _; unfold scl; simp) rfl (by rw [bcells_length]; exact hc)⟩
  obtain ⟨a0, a1⟩ := K a ho
  obtain ⟨b0, b1⟩ := K b hp
  have EI : ∀ x y : Int, (Op.equalIn 9999 3 (.int .i64 x) (.int .i64 y)).run Tryz.prog w = .ok (x == y) w := fun x y => run_equalIn_int (P := Tryz.prog) w 9998 3 .i64 .i64 x y under_att_int
  rw [run_equalIn_struct w 9999 _ _ _ under_sg (by kernel_rfl), eqF_of, fields_sg]
  rw [eqF_step (part_att_int a0) (part_att_int b0) (EI _ _), eqF_step (part_att_hash a1) (part_att_hash b1) (eq_hash_at 9997 _ _ ho hp w)]
  obtain ⟨p1, p2⟩ := a
  obtain ⟨q1, q2⟩ := b
  simp only [eqF, Sem.run_pure, SgM.mk.injEq, beq_iff_eq, decide_eq_true_eq]
  (repeat' split) <;> simp_all
theorem atc_by (a : AtM) (n : Int) : (atc a).setIfInBounds 0 (.int .i64 n) = atc { a with bo := n } := by
  unfold atc atl
  rw [List.setIfInBounds_toArray]
  rfl
end Go.Proofs.YtpnejoglkmfleaaGreatDoor
namespace Go.Proofs.YtpnejoglkmfleaaGreatDoor
set_option maxRecDepth 20000
open Go.RowKit
noncomputable def buildSg (w : World) : Result Next := Sem.run Tryz.prog (execOp (fun _ => undef) { dst := none, op := .build 66 #[], type := 0, pos := "", after := #[], guard := none }) w
theorem exec_build_sg (r : Operand → Value) (dst : Option Tmp) (ty : TypeId) (pos : String) (after : Array Edge) (guard : Option (Nat × Bool)) (w : World) :
    Sem.run Tryz.prog (execOp r { dst := dst, op := .build 66 #[], type := ty, pos := pos, after := after, guard := guard }) w = buildSg w := by
  unfold buildSg execOp
  simp
theorem buildSg_eq (w : World) : buildSg w = .ok (.value (.agg (sgc sgZ))) w := by
  unfold buildSg
  go_simp
  rfl
end Go.Proofs.YtpnejoglkmfleaaGreatDoor
namespace Go.Proofs.YtpnejoglkmfleaaGreatDoor
set_option maxRecDepth 20000
open Go.RowKit
noncomputable def sliceSg (v : Value) (w : World) : Result Next := Sem.run Tryz.prog (execOp (fun _ => v) { dst := none, op := .buildSlice 38 1 #[(0, .tmp 0)], type := 0, pos := "", after := #[], guard := none }) w
theorem exec_slice_sg (r : Operand → Value) (x : Operand) (dst : Option Tmp) (ty : TypeId) (pos : String) (after : Array Edge) (guard : Option (Nat × Bool)) (w : World) :
    Sem.run Tryz.prog (execOp r { dst := dst, op := .buildSlice 38 1 #[(0, x)], type := ty, pos := pos, after := after, guard := guard }) w = sliceSg (r x) w := by
  unfold sliceSg execOp
  simp
theorem sliceSg_eq (s : SgM) (hs : s.Ok) (w : World) : sliceSg (.agg (sgc s)) w = .ok (.value (.slice (some ⟨w.heap.size, 0, none⟩) 1 1)) (w.alloc (.cells (sgc s) 66)) := by
  have hsz : (sgc s).size = 33 := sgc_size hs
  have e0 : (sgc s).zipIdx = ((scl s).zipIdx).toArray := by unfold sgc; simp
  unfold sliceSg
  go_simp
  have e := putAt_mid (scl s) [] (scl sgZ) [] (by rw [scl_length hs, scl_length sgZ_ok])
  simp only [List.nil_append, List.append_nil, List.length_nil] at e
  rw [← fold_putSg] at e
  exact congrArg (fun C => w.alloc (.cells C 66)) e
end Go.Proofs.YtpnejoglkmfleaaGreatDoor
namespace Go.Proofs.YtpnejoglkmfleaaGreatDoor
set_option maxRecDepth 20000
open Go.RowKit
noncomputable def buildCtA (v : Value) (w : World) : Result Next := Sem.run Tryz.prog (execOp (fun _ => v) { dst := none, op := .build 40 #[(0, .tmp 0)], type := 0, pos := "", after := #[], guard := none }) w
theorem exec_build_cta (r : Operand → Value) (x : Operand) (dst : Option Tmp) (ty : TypeId) (pos : String) (after : Array Edge) (guard : Option (Nat × Bool)) (w : World) :
    Sem.run Tryz.prog (execOp r { dst := dst, op := .build 40 #[(0, x)], type := ty, pos := pos, after := after, guard := guard }) w = buildCtA (r x) w := by
  unfold buildCtA execOp
  simp
theorem buildCtA_eq (a : AtM) (ho : a.Ok) (w : World) : buildCtA (.agg (atc a)) w = .ok (.value (.agg (ctc ⟨a, []⟩ (.slice none 0 0)))) w := by
  have hsz : (atc a).size = 101 := atc_size ho
  have e0 : (atc a).zipIdx = ((atl a).zipIdx).toArray := by unfold atc; simp
  unfold buildCtA
  go_simp
  have e := putAt_mid (atl a) [] (atl atZ) [.slice none 0 0] (by rw [atl_length ho, atl_length atZ_ok])
  simp only [List.nil_append, List.length_nil] at e
  rw [← fold_putSg] at e
  exact e
noncomputable def buildSg2 (u v : Value) (w : World) : Result Next := Sem.run Tryz.prog (execOp (fun x => match x with
  | .tmp 0 => u
  | _ => v) { dst := none, op := .build 66 #[(0, .tmp 0), (1, .tmp 1)], type := 0, pos := "", after := #[], guard := none }) w
theorem exec_build_sg2 (r : Operand → Value) (x y : Operand) (dst : Option Tmp) (ty : TypeId) (pos : String) (after : Array Edge) (guard : Option (Nat × Bool)) (w : World) :
    Sem.run Tryz.prog (execOp r { dst := dst, op := .build 66 #[(0, x), (1, y)], type := ty, pos := pos, after := after, guard := guard }) w = buildSg2 (r x) (r y) w := by
  unfold buildSg2 execOp
  simp
theorem buildSg2_eq (n : Int) (t : List UInt8) (ht : t.length = 32) (w : World) : buildSg2 (.int .i64 n) (.agg (hcells t)) w = .ok (.value (.agg (sgc ⟨n, t⟩))) w := by
  have hsz : (hcells t).size = 32 := by rw [hcells_size, ht]
  have e0 : (hcells t).zipIdx = ((bcells t).zipIdx).toArray := by simp [hcells]
  unfold buildSg2
  go_simp
  have e := putAt_mid (bcells t) [.int .i64 n] (bcells z32) [] (by rw [bcells_length, bcells_length, ht]; rfl)
  simp only [List.append_nil, List.length_cons, List.length_nil] at e
  exact (fold_putSgO (bcells t) 0 1 _).trans e
theorem atl_tgs (a : AtM) (s : Value) : atl a ++ [s] = ([.int .i64 a.bo, .int .i64 a.ki, .int .i64 a.vi, .int .i64 a.ph] ++ (bcells a.ha ++ ([.int .i64 a.pv] ++ bcells a.pa))) ++ (bcells a.tg ++ [s]) := by
  unfold atl
  simp only [List.append_assoc]
theorem wpList_store_ctg {ops : Array Oper} {rest : List Oper} {o : Oper} {ac : Act} {w : World} {Q : Exit → Act → World → Prop} (hgd : o.guard = none) (x y : Operand) (ho : o.op = .store 34 x y)
    {g : Nat} {a : AtM} {s : Value} {h : List UInt8} (hx : ac.eval x = .pointer (some ⟨g, 69, none⟩)) (hy : ac.eval y = .agg (hcells h)) (hg : BoxC w g ⟨a, []⟩ s) (hok : a.Ok) (hl : h.length = 32)
    (hh : ∀ w', w.grownBy w' (some g) → BoxC w' g ⟨{ a with tg := h }, []⟩ s → w'.heap.size = w.heap.size → wpList Tryz.prog ops Q rest (ac.put o.dst undef) w') : wpList Tryz.prog ops Q (o :: rest) ac w := by
  unfold BoxC ctc at hg
  rw [atl_tgs] at hg
  refine wpList_store_midh hgd x y ho hx hy hg (by simp only [List.length_append, bcells_length, hok.ha, hok.pa, List.length_cons, List.length_nil]) (by rw [bcells_length, hok.tg]) hl (fun w' h1 h2 h3 => hh w' h1 ?_ h3)
  unfold BoxC ctc
  rw [atl_tgs]
  exact h2
structure MkSt (w0 w : World) (g : Nat) (a : AtM) (s : Value) : Prop where
  bel : Below w0.heap.size w0 w
  b0 : BoxC w w0.heap.size ctZ (.slice none 0 0)
  lt : w0.heap.size < g
  b1 : BoxC w g ⟨a, []⟩ s
section
variable {w0 w w' : World} {g : Nat} {a : AtM} {s : Value}
theorem MkSt.below (h : MkSt w0 w g a s) (hb : Below w.heap.size w w') : MkSt w0 w' g a s :=
  ⟨h.bel.trans (hb.mono h.bel.size), (hb.block _ h.b0.lt).trans h.b0, h.lt, (hb.block _ h.b1.lt).trans h.b1⟩
theorem MkSt.app (h : MkSt w0 w g a s) {T : TypeId} {L : List SgM} (ho : OwnE scl 33 T (g + 1) w s L) (hg : w.grownBy w' s.ownBlock) : MkSt w0 w' g a s := by
  have hlt := h.lt
  have hne : ∀ k, k ≤ g → some k ≠ s.ownBlock := fun k hk e => by
    have := (World.ownsRow.lt ho k e.symm).1
    omega
  refine ⟨h.bel.grown hg h.bel.size (fun k hk => by have := (World.ownsRow.lt ho k hk).1; omega), (hg.block _ h.b0.lt (hne _ (by omega))).trans h.b0, hlt, (hg.block _ h.b1.lt (hne _ (Nat.le_refl _))).trans h.b1⟩
theorem MkSt.sig (h : MkSt w0 w g a s) (ho : a.Ok) (v : Value) : MkSt w0 (w.setCell ⟨g, 101, none⟩ v) g a v := by
  have hlt := h.lt
  refine ⟨h.bel.setCell (by simp only; omega) _, blk_other h.b0 _ (by omega), hlt, ?_⟩
  have := set_blk h.b1 101 v
  unfold ctc at this
  rw [List.setIfInBounds_toArray, List.set_append_right _ _ (by rw [atl_length ho]; omega), atl_length ho] at this
  exact this
theorem MkSt.sigs (h : MkSt w0 w g a s) (ho : a.Ok) : w.cell? ⟨g, 101, none⟩ = some s ∧ (∀ i, w.frozen? ⟨g, i, none⟩ = false) := ⟨h.b1.sigs ho, h.b1.free⟩
end
theorem results_cb {fn : Func} {q s : Tmp} (h : fn.results = #[.cell q 40, .tmp s]) (tmps : Array Value) (w : World) (g2 : Nat) (t2 : TypeId) (ys : Array Value) (v : Value)
    (hq : tmps.getD q undef = .pointer (some ⟨g2, 0, none⟩)) (hv : tmps.getD s undef = v) (h2 : w.heap[g2]? = some (.cells ys t2 (0, 0))) (hy : ys.size = 102) :
    (results fn tmps).run Tryz.prog w = .ok (.tuple #[.agg ys, v]) w := by
  have hq' : tmps[q]?.getD undef = .pointer (some ⟨g2, 0, none⟩) := by simpa using hq
  have hv' : tmps[s]?.getD undef = v := by simpa using hv
  have r2 := run_loadVar_row (P := Tryz.prog) w g2 t2 40 ys (0, 0) _ h2 under_ct rfl (by rw [size_ct, hy])
  simp [results, h, hq', hv', asAddr, r2]
section
variable {n : Int} {l r : List AtM} {a0 : AtM} {q : Nat}
theorem makeC_arg (h : quoS n = 0 ∨ l = []) : makeC n l = (ctZ, 1) := by
  cases l with
  | nil => rfl
  | cons a0 r =>
    obtain h | h := h
    · unfold makeC
      simp only
      rw [if_pos h]
    · cases h
theorem makeC_tag (hq : quoS n ≠ 0) (hl : l = a0 :: r) (h : (l.all fun a => rightA a && decide (a.bo ≤ n)) = false) : makeC n l = (ctZ, 7) := by
  subst hl
  unfold makeC
  simp only
  rw [if_neg hq, if_pos h]
theorem makeC_alike (hq : quoS n ≠ 0) (hl : l = a0 :: r) (h : (l.all fun a => rightA a && decide (a.bo ≤ n)) = true) (h2 : (l.all fun a => alikeA a a0) = false) : makeC n l = (ctZ, 1) := by
  subst hl
  unfold makeC
  simp only
  rw [if_neg hq, if_neg (by rw [h]; decide), if_pos h2]
theorem makeC_few (hq : quoS n ≠ 0) (hl : l = a0 :: r) (h : (l.all fun a => rightA a && decide (a.bo ≤ n)) = true) (h2 : (l.all fun a => alikeA a a0) = true) (h3 : (sigsC l (quoS n) n.toNat).length < quoS n) : makeC n l = (ctZ, 3) := by
  subst hl
  unfold makeC
  simp only
  rw [if_neg hq, if_neg (by rw [h]; decide), if_neg (by rw [h2]; decide), if_pos h3]
theorem makeC_done (hq : quoS n ≠ 0) (hl : l = a0 :: r) (h : (l.all fun a => rightA a && decide (a.bo ≤ n)) = true) (h2 : (l.all fun a => alikeA a a0) = true) (h3 : ¬ (sigsC l (quoS n) n.toNat).length < quoS n) :
    makeC n l = (⟨withC a0 ⟨0, z32⟩, sigsC l (quoS n) n.toNat⟩, 0) := by
  subst hl
  unfold makeC
  simp only
  rw [if_neg hq, if_neg (by rw [h]; decide), if_neg (by rw [h2]; decide), if_neg h3]
theorem sigsC_full {k : Nat} (h : ¬ (sigsC l q k).length < q) : ∀ m, k ≤ m → sigsC l q m = sigsC l q k := by
  intro m hm
  induction m with
  | zero => rw [show k = 0 from by omega]
  | succ m ih =>
    by_cases e : k = m + 1
    · rw [e]
    · have := ih (by omega)
      rw [← this] at h ⊢
      conv => lhs; unfold sigsC
      rw [if_neg h]
theorem sigsC_found {k i : Nat} (h : (sigsC l q k).length < q) (hi : i < l.length) (hb : l[i].bo = ((k + 1 : Nat) : Int)) (hn : ∀ j (hj : j < l.length), j < i → l[j].bo ≠ ((k + 1 : Nat) : Int)) :
    sigsC l q (k + 1) = sigsC l q k ++ [⟨((k + 1 : Nat) : Int), l[i].tg⟩] := by
  have hf : l.find? (fun a => decide (a.bo = ((k + 1 : Nat) : Int))) = some l[i] := by
    rw [List.find?_eq_some_iff_getElem]
    exact ⟨decide_eq_true hb, i, hi, rfl, fun j hj => by simpa using hn j (by omega) hj⟩
  conv => lhs; unfold sigsC
  rw [if_pos h, hf]
theorem sigsC_lack {k : Nat} (hn : ∀ j (hj : j < l.length), l[j].bo ≠ ((k + 1 : Nat) : Int)) : sigsC l q (k + 1) = sigsC l q k := by
  have hf : l.find? (fun a => decide (a.bo = ((k + 1 : Nat) : Int))) = none := by
    rw [List.find?_eq_none]
    intro a ha
    obtain ⟨j, hj, rfl⟩ := List.getElem_of_mem ha
    simpa using hn j hj
  conv => lhs; unfold sigsC
  rw [hf]
  simp
end
def MkPost (n : Int) (l : List AtM) (w : World) (e : Ending) (w' : World) : Prop := ∃ x, e = .returned (.tuple #[x, .int .i64 (makeC n l).2]) ∧ CtV w' x (makeC n l).1 ∧ Below w.heap.size w w'
def MkPostN (n : Int) (l : List AtM) (w : World) (e : Ending) (w' : World) : Prop := ∃ s, e = .returned (.tuple #[.agg (ctc (makeC n l).1 s), .int .i64 (makeC n l).2]) ∧ (makeC n l).1.Ok ∧ OwnE scl 33 66 w.heap.size w' s (makeC n l).1.sg ∧ Below w.heap.size w w'
theorem MkPostN.v {n : Int} {l : List AtM} {w w' : World} {e : Ending} (h : MkPostN n l w e w') : MkPost n l w e w' := by
  obtain ⟨s, he, ho, hs, hb⟩ := h
  exact ⟨_, he, ⟨s, rfl, ho, hs.els eltSg ho.sg⟩, hb⟩
theorem mkPostN_no {n : Int} {l : List AtM} {w w' : World} {k : Int} (h : makeC n l = (ctZ, k)) (hb : Below w.heap.size w w') : MkPostN n l w (.returned (.tuple #[.agg (ctc ctZ (.slice none 0 0)), .int .i64 k])) w' := by
  unfold MkPostN
  rw [h]
  exact ⟨_, rfl, ctZ_ok, OwnE.nil _ w', hb⟩
theorem mkPostN_yes {n : Int} {l : List AtM} {w w' : World} {c : CtM} {s : Value} (h : makeC n l = (c, 0)) (ho : c.Ok) (hs : OwnE scl 33 66 w.heap.size w' s c.sg) (hb : Below w.heap.size w w') : MkPostN n l w (.returned (.tuple #[.agg (ctc c s), .int .i64 0])) w' := by
  unfold MkPostN
  rw [h]
  exact ⟨_, rfl, ho, hs, hb⟩
end Go.Proofs.YtpnejoglkmfleaaGreatDoor
