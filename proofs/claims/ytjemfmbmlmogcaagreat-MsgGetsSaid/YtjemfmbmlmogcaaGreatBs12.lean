/-
  AtPure AtWords AtMay AtTagged AtEq AtBytes: what each of them says stands at its head.
-/
import Derived.Test.YtjemfmbmlmogcaaGreatBs6
import Derived.Test.YtjemfmbmlmogcaaGreatBs7
import Derived.Deep.DeepCutAuto
import Derived.Outline
import Derived.Test.YtjemfmbmlmogcaaGreatBs2
namespace Go.Proofs.YtjemfmbmlmogcaaGreat
set_option maxRecDepth 20000
structure AtM where
  bo : Int
  ki : Int
  vi : Int
  ph : Int
  ha : List UInt8
  pv : Int
  pa : List UInt8
  tg : List UInt8
  deriving DecidableEq
def z32 : List UInt8 := List.replicate 32 0
def atZ : AtM := ⟨0, 0, 0, 0, z32, 0, z32, z32⟩
structure AtM.Ok (a : AtM) : Prop where
  ha : a.ha.length = 32
  pa : a.pa.length = 32
  tg : a.tg.length = 32
theorem atZ_ok : atZ.Ok := ⟨rfl, rfl, rfl⟩
def mayA (a : AtM) : Bool :=
  if a.bo < 1 ∨ 21 < a.bo ∨ a.ki < 1 ∨ 3 < a.ki ∨ a.ph ≠ a.ki ∨ a.vi < 1 ∨ 1099511627776 < a.vi ∨ a.pv < 0 then false else decide (a.pv < a.vi) || (decide (a.ki = 3) && decide (a.pv = a.vi))
theorem mayA_iff {a : AtM} (h : mayA a = true) : 1 ≤ a.bo ∧ a.bo ≤ 21 ∧ 1 ≤ a.ki ∧ a.ki ≤ 3 ∧ a.ph = a.ki ∧ 1 ≤ a.vi ∧ a.vi ≤ 1099511627776 ∧ 0 ≤ a.pv ∧ a.pv ≤ a.vi := by
  unfold mayA at h
  split at h
  · cases h
  · rename_i hn
    simp only [Bool.or_eq_true, Bool.and_eq_true, decide_eq_true_eq] at h
    omega
def taggedA (a : AtM) : List UInt8 := dg a.ki.toNat ++ (dg a.vi.toNat ++ (dg a.ph.toNat ++ (a.ha ++ (dg a.pv.toNat ++ a.pa))))
def bytesA (a : AtM) : List UInt8 := dg a.bo.toNat ++ (taggedA a ++ a.tg)
theorem taggedA_len {a : AtM} (ho : a.Ok) (hm : mayA a = true) : (taggedA a).length ≤ 104 := by
  obtain ⟨h1, h2, h3, h4, h5, h6, h7, h8, h9⟩ := mayA_iff hm
  have e1 := dg_len10 (n := a.ki.toNat) (by omega)
  have e2 := dg_len10 (n := a.vi.toNat) (by omega)
  have e3 := dg_len10 (n := a.ph.toNat) (by omega)
  have e4 := dg_len10 (n := a.pv.toNat) (by omega)
  have := ho.ha
  have := ho.pa
  unfold taggedA
  simp only [List.length_append]
  omega
theorem bytesA_len {a : AtM} (ho : a.Ok) (hm : mayA a = true) : (bytesA a).length ≤ 150 := by
  obtain ⟨h1, h2, _⟩ := mayA_iff hm
  have e1 := dg_len10 (n := a.bo.toNat) (by omega)
  have := taggedA_len ho hm
  have := ho.tg
  unfold bytesA
  simp only [List.length_append]
  omega
def rawA (l : List UInt8) (p : Nat) (r : Bool) : AtM × Nat × Bool :=
  let a := rdUpto 21 l p r
  let b := rdUpto 3 l a.2.1 a.2.2
  let c := rdUpto 1099511627776 l b.2.1 b.2.2
  let d := rdUpto 3 l c.2.1 c.2.2
  let e := rdHash l d.2.1 d.2.2
  let f := rdUpto 1099511627776 l e.2.1 e.2.2
  let g := rdHash l f.2.1 f.2.2
  let h := rdHash l g.2.1 g.2.2
  (⟨a.1, b.1, c.1, d.1, e.1, f.1, g.1, h.1⟩, h.2)
def atIs (l : List UInt8) (p : Nat) (r : Bool) : Bool := (rawA l p r).2.2 && mayA (rawA l p r).1
def atOf (l : List UInt8) (p : Nat) (r : Bool) : AtM := if atIs l p r = true then (rawA l p r).1 else atZ
theorem rawA_ok (l : List UInt8) (p : Nat) (r : Bool) : (rawA l p r).1.Ok := ⟨rdHash_32 _ _ _, rdHash_32 _ _ _, rdHash_32 _ _ _⟩
theorem atOf_ok (l : List UInt8) (p : Nat) (r : Bool) : (atOf l p r).Ok := by
  unfold atOf
  split
  · exact rawA_ok l p r
  · exact atZ_ok
theorem rawA_back {a : AtM} {L r : List UInt8} {p : Nat} (ho : a.Ok) (hm : mayA a = true) (h : L.drop p = bytesA a ++ r) : rawA L p true = (a, p + (bytesA a).length, true) := by
  obtain ⟨h1, h2, h3, h4, h5, h6, h7, h8, h9⟩ := mayA_iff hm
  obtain ⟨k1, k2, k3⟩ := ho
  obtain ⟨bo, ki, vi, ph, ha, pv, pa, tg⟩ := a
  simp only at h1 h2 h3 h4 h5 h6 h7 h8 h9 k1 k2 k3
  obtain ⟨x1, rfl⟩ := nat_of (i := bo) (by omega)
  obtain ⟨x2, rfl⟩ := nat_of (i := ki) (by omega)
  obtain ⟨x3, rfl⟩ := nat_of (i := vi) (by omega)
  obtain ⟨x4, rfl⟩ := nat_of (i := ph) (by omega)
  obtain ⟨x5, rfl⟩ := nat_of (i := pv) (by omega)
  unfold bytesA taggedA at h ⊢
  simp only [Int.toNat_natCast, List.append_assoc] at h ⊢
  have d1 := drop_more h
  have d2 := drop_more d1
  have d3 := drop_more d2
  have d4 := drop_more d3
  have d5 := drop_more d4
  rw [k1] at d5
  have d6 := drop_more d5
  have d7 := drop_more d6
  rw [k2] at d7
  unfold rawA
  simp only [rdUpto_at (m := 21) h (by omega) (by omega), rdUpto_at (m := 3) d1 (by omega) (by omega), rdUpto_at (m := 1099511627776) d2 (by omega) (by omega), rdUpto_at (m := 3) d3 (by omega) (by omega), rdHash_at d4 k1,
    rdUpto_at (m := 1099511627776) d5 (by omega) (by omega), rdHash_at d6 k2, rdHash_at d7 k3]
  simp [k1, k2, k3, Nat.add_assoc]
theorem atIs_back {a : AtM} {L r : List UInt8} {p : Nat} (ho : a.Ok) (hm : mayA a = true) (h : L.drop p = bytesA a ++ r) : atIs L p true = true ∧ atOf L p true = a ∧ (rawA L p true).2.1 = p + (bytesA a).length := by
  have e := rawA_back ho hm h
  have hi : atIs L p true = true := by unfold atIs; rw [e, hm]; rfl
  exact ⟨hi, by unfold atOf; rw [if_pos hi, e], by rw [e]⟩
end Go.Proofs.YtjemfmbmlmogcaaGreat
namespace Go.Proofs.YtjemfmbmlmogcaaGreat
set_option maxRecDepth 20000
open Go.RowKit
def atl (a : AtM) : List Value := [.int .i64 a.bo, .int .i64 a.ki, .int .i64 a.vi, .int .i64 a.ph] ++ (bcells a.ha ++ ([.int .i64 a.pv] ++ (bcells a.pa ++ bcells a.tg)))
def atc (a : AtM) : Array Value := (atl a).toArray
theorem atl_length {a : AtM} (h : a.Ok) : (atl a).length = 101 := by
  have := h.ha
  have := h.pa
  have := h.tg
  unfold atl
  simp only [List.length_append, bcells_length, List.length_cons, List.length_nil]
  omega
theorem atc_size {a : AtM} (h : a.Ok) : (atc a).size = 101 := by
  unfold atc
  rw [List.size_toArray, atl_length h]
def BoxA (w : World) (g : Nat) (a : AtM) : Prop := w.heap[g]? = some (.cells (atc a) 25 (0, 0))
section
variable {w w' : World} {g : Nat} {a : AtM}
theorem BoxA.new (w : World) (a : AtM) : BoxA (w.alloc (.cells (atc a) 25)) w.heap.size a := heap_alloc_new w _
theorem BoxA.lt (h : BoxA w g a) : g < w.heap.size := lt_of_block h
theorem BoxA.below {B : Nat} (h : BoxA w g a) (hb : Below B w w') (hg : g < B) : BoxA w' g a := (hb.block g hg).trans h
theorem BoxA.keep (h : BoxA w g a) (hb : Below w.heap.size w w') : BoxA w' g a := h.below hb h.lt
theorem BoxA.free (h : BoxA w g a) (i : Nat) : w.frozen? ⟨g, i, none⟩ = false := free_blk h i
theorem BoxA.cell (h : BoxA w g a) (i : Nat) : w.cell? ⟨g, i, none⟩ = (atl a)[i]? := by
  rw [cell_blk h i]
  unfold atc
  rw [List.getElem?_toArray]
theorem BoxA.cells (h : BoxA w g a) : w.cell? ⟨g, 0, none⟩ = some (.int .i64 a.bo) ∧ w.cell? ⟨g, 1, none⟩ = some (.int .i64 a.ki) ∧ w.cell? ⟨g, 2, none⟩ = some (.int .i64 a.vi) ∧ w.cell? ⟨g, 3, none⟩ = some (.int .i64 a.ph) :=
  ⟨h.cell 0, h.cell 1, h.cell 2, h.cell 3⟩
theorem BoxA.range0 (h : BoxA w g a) {pre l post : List Value} (e : atl a = pre ++ (l ++ post)) : w.rangeAt g pre.length l := fun j u hu => by
  rw [h.cell, e, List.getElem?_append_right (by omega), Nat.add_sub_cancel_left, List.getElem?_append_left (List.getElem?_eq_some_iff.1 hu).1]
  exact hu
theorem BoxA.pv (h : BoxA w g a) (ho : a.Ok) : w.cell? ⟨g, 36, none⟩ = some (.int .i64 a.pv) := by
  have := h.range0 (pre := [.int .i64 a.bo, .int .i64 a.ki, .int .i64 a.vi, .int .i64 a.ph] ++ bcells a.ha) (l := [.int .i64 a.pv]) (post := bcells a.pa ++ bcells a.tg) (by unfold atl; simp only [List.append_assoc]) 0 _ rfl
  rw [List.length_append, bcells_length, ho.ha] at this
  exact this
theorem BoxA.hash (h : BoxA w g a) : w.rangeAt g 4 (bcells a.ha) := h.range0 (pre := [.int .i64 a.bo, .int .i64 a.ki, .int .i64 a.vi, .int .i64 a.ph]) rfl
theorem BoxA.phash (h : BoxA w g a) (ho : a.Ok) : w.rangeAt g 37 (bcells a.pa) := by
  have := h.range0 (pre := [.int .i64 a.bo, .int .i64 a.ki, .int .i64 a.vi, .int .i64 a.ph] ++ (bcells a.ha ++ [.int .i64 a.pv])) (l := bcells a.pa) (post := bcells a.tg) (by unfold atl; simp only [List.append_assoc])
  rw [List.length_append, List.length_append, bcells_length, ho.ha] at this
  exact this
theorem BoxA.tag (h : BoxA w g a) (ho : a.Ok) : w.rangeAt g 69 (bcells a.tg) := by
  have := h.range0 (pre := [.int .i64 a.bo, .int .i64 a.ki, .int .i64 a.vi, .int .i64 a.ph] ++ (bcells a.ha ++ ([.int .i64 a.pv] ++ bcells a.pa))) (l := bcells a.tg) (post := []) (by unfold atl; simp only [List.append_assoc, List.append_nil])
  rw [List.length_append, List.length_append, List.length_append, bcells_length, bcells_length, ho.ha, ho.pa] at this
  exact this
end
noncomputable def loadAtt (v : Value) (w : World) : Result Next := Sem.run Tryz.prog (execOp (fun _ => v) { dst := none, op := .load 25 (.tmp 0), type := 0, pos := "", after := #[], guard := none }) w
theorem exec_load_att (r : Operand → Value) (x : Operand) (dst : Option Tmp) (ty : TypeId) (pos : String) (after : Array Edge) (guard : Option (Nat × Bool)) (w : World) :
    Sem.run Tryz.prog (execOp r { dst := dst, op := .load 25 x, type := ty, pos := pos, after := after, guard := guard }) w = loadAtt (r x) w := rfl
theorem under_att : Tryz.prog.underlying 25 = some (.struct (Tryz.prog.fieldsOf 25)) := by kernel_rfl
theorem size_att : (Tryz.prog.info? 25).map (·.size) = some 101 := by kernel_rfl
theorem loadAtt_row {w : World} {g : Nat} {C : Array Value} {T : TypeId} (h : w.heap[g]? = some (.cells C T (0, 0))) (hs : C.size = 101) : loadAtt (.pointer (some ⟨g, 0, none⟩)) w = .ok (.value (.agg C)) w := by
  have := run_loadAt_mid (P := Tryz.prog) w g 0 25 C.toList _ (fun j v hj => by rw [Nat.zero_add, cell_blk h j]; simpa using hj) under_att rfl (by rw [size_att]; simp [hs])
  simp only [Array.toArray_toList] at this
  unfold loadAtt execOp
  simp only [Sem.run_bind, this, Result.andThen_ok, Sem.run_pure]
theorem loadAtt_eq {w : World} {g : Nat} {a : AtM} (h : BoxA w g a) (ho : a.Ok) : loadAtt (.pointer (some ⟨g, 0, none⟩)) w = .ok (.value (.agg (atc a))) w := loadAtt_row h (atc_size ho)
theorem atl_one (a : AtM) : ∀ u ∈ atl a, u.oneCell' = true := by
  intro u hu
  unfold atl at hu
  simp only [List.mem_append, List.mem_cons, List.not_mem_nil, or_false] at hu
  rcases hu with (rfl | rfl | rfl | rfl) | hu | rfl | hu | hu
  · rfl
  · rfl
  · rfl
  · rfl
  · exact bcells_one _ u hu
  · rfl
  · exact bcells_one _ u hu
  · exact bcells_one _ u hu
theorem atc_one (a : AtM) : (atc a).all (·.oneCell') = true := all_oneCell_toArray (atl_one a)
theorem zero_att : (Tryz.prog.info? 25).bind (·.zero) = some (.agg (atc atZ)) := by kernel_rfl
theorem run_zero_att (w : World) : (zeroValue 25).run Tryz.prog w = .ok (.agg (atc atZ)) w := by
  have h := zero_att
  cases hq : Tryz.prog.info? 25 with
  | none => rw [hq] at h; cases h
  | some i =>
    rw [hq] at h
    have hz : i.zero = some (.agg (atc atZ)) := h
    simp [zeroValue, typeInfo, hq, hz]
noncomputable def buildAtt (w : World) : Result Next := Sem.run Tryz.prog (execOp (fun _ => undef) { dst := none, op := .build 25 #[], type := 0, pos := "", after := #[], guard := none }) w
theorem exec_build_att (r : Operand → Value) (dst : Option Tmp) (ty : TypeId) (pos : String) (after : Array Edge) (guard : Option (Nat × Bool)) (w : World) :
    Sem.run Tryz.prog (execOp r { dst := dst, op := .build 25 #[], type := ty, pos := pos, after := after, guard := guard }) w = buildAtt w := by
  unfold buildAtt execOp
  simp
theorem buildAtt_eq (w : World) : buildAtt w = .ok (.value (.agg (atc atZ))) w := by
  unfold buildAtt
  go_simp
  rfl
noncomputable def allocAtt (w : World) : Result Next := Sem.run Tryz.prog (execOp (fun _ => undef) { dst := none, op := .alloc 25, type := 0, pos := "", after := #[], guard := none }) w
theorem exec_alloc_att (r : Operand → Value) (dst : Option Tmp) (ty : TypeId) (pos : String) (after : Array Edge) (guard : Option (Nat × Bool)) (w : World) :
    Sem.run Tryz.prog (execOp r { dst := dst, op := .alloc 25, type := ty, pos := pos, after := after, guard := guard }) w = allocAtt w := rfl
theorem allocAtt_eq (w : World) : allocAtt w = .ok (.value (.pointer (some ⟨w.heap.size, 0, none⟩))) (w.alloc (.cells (atc atZ) 25)) := by
  unfold allocAtt execOp
  simp only [Sem.run_bind, Instr.alloc, run_zero_att, newVar, newRow, run_newObj_alloc, Sem.run_pure, Result.andThen_ok, Value.cells]
noncomputable def storeAtt (p v : Value) (w : World) : Result Next := Sem.run Tryz.prog (execOp (fun x => match x with
  | .tmp 0 => p
  | _ => v) { dst := none, op := .store 25 (.tmp 0) (.tmp 1), type := 0, pos := "", after := #[], guard := none }) w
theorem exec_store_att (r : Operand → Value) (x y : Operand) (dst : Option Tmp) (ty : TypeId) (pos : String) (after : Array Edge) (guard : Option (Nat × Bool)) (w : World) :
    Sem.run Tryz.prog (execOp r { dst := dst, op := .store 25 x y, type := ty, pos := pos, after := after, guard := guard }) w = storeAtt (r x) (r y) w := rfl
def setAtt (w : World) (g : Nat) (C : Array Value) : World := w.setRow g C
theorem storeAtt_eq {w : World} {g : Nat} {t : TypeId} {C0 C : Array Value} (hg : w.heap[g]? = some (.cells C0 t (0, 0))) (h0 : C0.size = 101) (hC : C.size = 101) (h1 : C.all (·.oneCell') = true) :
    storeAtt (.pointer (some ⟨g, 0, none⟩)) (.agg C) w = .ok .skip (setAtt w g C) := by
  have := run_storeVar_row (P := Tryz.prog) w g t 25 C0 C hg (by rw [size_att, hC]) (by rw [h0, hC]) h1
  unfold storeAtt execOp
  simp only [Instr.storeAt, Instr.sureAddr, Sem.run_bind, Sem.run_pure, Result.andThen_ok, this]
  rfl
theorem setAtt_other (w : World) {g k : Nat} (C : Array Value) (hk : k ≠ g) : (setAtt w g C).heap[k]? = w.heap[k]? := setRow_other w g k _ hk
theorem setAtt_same {w : World} {g : Nat} {t : TypeId} {C0 C : Array Value} (hg : w.heap[g]? = some (.cells C0 t (0, 0))) : (setAtt w g C).heap[g]? = some (.cells C t (0, 0)) := setRow_heap w g _ _ t _ hg
theorem setAtt_below {B g : Nat} {a w : World} {C : Array Value} (hb : Below B a w) (hg : B ≤ g) : Below B a (setAtt w g C) := below_setRow hb hg _
theorem atl_tag (a : AtM) : atl a = ([.int .i64 a.bo, .int .i64 a.ki, .int .i64 a.vi, .int .i64 a.ph] ++ (bcells a.ha ++ ([.int .i64 a.pv] ++ bcells a.pa))) ++ (bcells a.tg ++ []) := by
  unfold atl
  simp only [List.append_assoc, List.append_nil]
theorem wpList_store_tag {ops : Array Oper} {rest : List Oper} {o : Oper} {ac : Act} {w : World} {Q : Exit → Act → World → Prop} (hgd : o.guard = none) (x y : Operand) (ho : o.op = .store 23 x y)
    {g : Nat} {a : AtM} {h : List UInt8} (hx : ac.eval x = .pointer (some ⟨g, 69, none⟩)) (hy : ac.eval y = .agg (hcells h)) (hg : BoxA w g a) (hok : a.Ok) (hl : h.length = 32)
    (hh : ∀ w', w.grownBy w' (some g) → BoxA w' g { a with tg := h } → w'.heap.size = w.heap.size → wpList Tryz.prog ops Q rest (ac.put o.dst undef) w') : wpList Tryz.prog ops Q (o :: rest) ac w := by
  unfold BoxA atc at hg
  rw [atl_tag] at hg
  refine wpList_store_midh hgd x y ho hx hy hg (by simp only [List.length_append, bcells_length, hok.ha, hok.pa, List.length_cons, List.length_nil]) (by rw [bcells_length, hok.tg]) hl (fun w' h1 h2 h3 => hh w' h1 ?_ h3)
  unfold BoxA atc
  rw [atl_tag]
  exact h2
end Go.Proofs.YtjemfmbmlmogcaaGreat
namespace Go.Proofs.YtjemfmbmlmogcaaGreat
set_option maxRecDepth 20000
open Go.RowKit
attribute [local go_sem ↓] exec_load_hash
set_option maxHeartbeats 3200000 in
theorem refMay8_any (a : AtM) (w : World) (ho : a.Ok) :
    Calls Tryz.prog 21 #[.agg (atc a)] w fun e w' => e = .returned (.bool (mayA a)) ∧ Below w.heap.size w w' := by
  have hb0 : Below w.heap.size w (w.alloc (.cells (atc a) 25)) := (Below.refl _ _).alloc (Nat.le_refl _) _
  have hA := BoxA.new w a
  obtain ⟨C, HC⟩ : ∃ C : Array Value, Hid (atc a = C) := ⟨_, hid rfl⟩
  obtain ⟨q, HQ⟩ : ∃ q : Bool, Hid (mayA a = q) := ⟨_, hid rfl⟩
  rw [HC.out] at hb0 hA ⊢
  rw [HQ.out]
  go_enter Tryz.func21, Tryz.ntmps21
  go_upto_region 1 with (fail)
  generalize (w.alloc (.cells C 25)) = w0 at *
  obtain ⟨k0, k1, k2, k3⟩ := hA.cells
  have k5 := hA.pv ho
  clear hA HC ho
  obtain ⟨bo, ki, vi, ph, ha, pv, pa, tg⟩ := a
  simp only at k0 k1 k2 k3 k5
  go_wp2_with fail
  all_goals
    go_ret
    refine ⟨?_, hb0⟩
    refine congrArg (fun b => Ending.returned (Value.bool b)) ?_
    rw [← HQ.out]
    unfold mayA
    simp only
  all_goals grind
end Go.Proofs.YtjemfmbmlmogcaaGreat
namespace Go.Proofs.YtjemfmbmlmogcaaGreat
set_option maxRecDepth 20000
open Go.RowKit
attribute [local go_sem ↓] exec_load_hash
theorem one_own (w : World) (n : Nat) (h : n < 256) : Own w.heap.size (w.alloc (.cells #[.int .u8 (n : Int)] 5)) (.slice (some ⟨w.heap.size, 0, none⟩) 1 1) [UInt8.ofNat n] :=
  own_of_blk (l := [UInt8.ofNat n]) (by
    have e : (n : Int) = ((UInt8.ofNat n).toNat : Int) := by rw [UInt8.toNat_ofNat']; omega
    rw [e]
    exact heap_alloc_new w _) (Nat.le_refl _) rfl (by unfold maxLen; omega)
theorem refBytes7_arr (h : List UInt8) (w : World) (h32 : h.length = 32) :
    Calls Tryz.prog 40 #[.agg (bcells h).toArray] w fun e w' => ∃ x, e = .returned x ∧ Own w.heap.size w' x h ∧ Below w.heap.size w w' := refBytes7_any h w h32
theorem own_past {B : Nat} {w5 wa w7 w8 : World} {v5 v7 : Value} {P l : List UInt8} (h5 : Own B w5 v5 P) (ha : w5.heap.size ≤ wa.heap.size) (h7 : Own wa.heap.size w7 v7 l) (hg : w7.grownBy w8 v5.ownBlock) : Byt w8 v7 l :=
  (h7.keep fun b hlt e => hg.block b hlt (fun e' => by
    have h1 := (World.ownsRow.lt h7 b e).1
    have h2 := (World.ownsRow.lt h5 b e'.symm).2
    omega)).byt
set_option maxHeartbeats 6400000 in
theorem refTagged_of (a : AtM) (w : World) (ho : a.Ok) (hm : 1 ≤ a.ki ∧ a.ki ≤ 3 ∧ a.ph = a.ki ∧ 1 ≤ a.vi ∧ a.vi ≤ 1099511627776 ∧ 0 ≤ a.pv ∧ a.pv ≤ a.vi) :
    Calls Tryz.prog 83 #[.agg (atc a)] w fun e w' => ∃ x, e = .returned x ∧ Own w.heap.size w' x (taggedA a) ∧ Below w.heap.size w w' := by
  obtain ⟨h3, h4, h5, h6, h7, h8, h9⟩ := hm
  have hb0 : Below w.heap.size w (w.alloc (.cells (atc a) 25)) := (Below.refl _ _).alloc (Nat.le_refl _) _
  have hA := BoxA.new w a
  obtain ⟨C, HC⟩ : ∃ C : Array Value, Hid (atc a = C) := ⟨_, hid rfl⟩
  obtain ⟨O, HO⟩ : ∃ O : List UInt8, Hid (taggedA a = O) := ⟨_, hid rfl⟩
  rw [HC.out] at hb0 hA ⊢
  rw [HO.out]
  have HOK := hid ho
  have HA := hid hA
  have hlA := hA.lt
  clear hA ho HC
  obtain ⟨bo, ki, vi, ph, ha, pv, pa, tg⟩ := a
  simp only at h3 h4 h5 h6 h7 h8 h9
  obtain ⟨k, rfl⟩ := nat_of (i := ki) (by omega)
  obtain ⟨v, rfl⟩ := nat_of (i := vi) (by omega)
  obtain ⟨p, rfl⟩ := nat_of (i := ph) (by omega)
  obtain ⟨q, rfl⟩ := nat_of (i := pv) (by omega)
  have hk1 : IntKind.u8.wrap (k : Int) = (k : Int) := by rw [IntKind.wrap_u8']; omega
  have hp1 : IntKind.u8.wrap (p : Int) = (p : Int) := by rw [IntKind.wrap_u8']; omega
  have hv1 : IntKind.u64.wrap (v : Int) = (v : Int) := wrap_u64 _ (by omega) (by omega)
  have hq1 : IntKind.u64.wrap (q : Int) = (q : Int) := wrap_u64 _ (by omega) (by omega)
  have HNV := hid (fun w => refnum_any (v : Int) w (by omega) (by omega))
  have HNQ := hid (fun w => refnum_any (q : Int) w (by omega) (by omega))
  have HLV := hid (dg_len10 (n := v) (by omega))
  have HLQ := hid (dg_len10 (n := q) (by omega))
  have HDK : Hid (dg k = [UInt8.ofNat k]) := hid (dg_small (by omega))
  have HDP : Hid (dg p = [UInt8.ofNat p]) := hid (dg_small (by omega))
  have HYK := hid (fun w => one_own w k (by omega))
  have HYP := hid (fun w => one_own w p (by omega))
  have HBH := hid (fun w => refBytes7_arr ha w HOK.out.ha)
  have HBP := hid (fun w => refBytes7_any pa w HOK.out.pa)
  clear h3 h4 h5 h6 h7 h8 h9
  go_enter Tryz.func83, Tryz.ntmps83
  go_upto_region 1 with (fail)
  generalize (w.alloc (.cells C 25)) = w0 at *
  have HX : Hid (∀ W : World, Below w0.heap.size w0 W → W.cell? ⟨w.heap.size, 1, none⟩ = some (.int .i64 (k : Int)) ∧ W.cell? ⟨w.heap.size, 2, none⟩ = some (.int .i64 (v : Int)) ∧ W.cell? ⟨w.heap.size, 3, none⟩ = some (.int .i64 (p : Int)) ∧ W.cell? ⟨w.heap.size, 36, none⟩ = some (.int .i64 (q : Int)) ∧ W.rangeAt w.heap.size 4 (bcells ha) ∧ W.rangeAt w.heap.size 37 (bcells pa)) := hid (fun W h => by
    have hW := HA.out.below h hlA
    exact ⟨hW.cells.2.1, hW.cells.2.2.1, hW.cells.2.2.2, hW.pv HOK.out, hW.hash, hW.phash HOK.out⟩)
  have hbd : Below w0.heap.size w0 w0.drew := (Below.refl _ _).drew
  have hs0 := hb0.size
  have hbA : Below w0.heap.size w0 (w0.alloc (.cells #[.int .u8 (k : Int)] 5)).drew := ((Below.refl _ _).alloc (Nat.le_refl _) _).drew
  have hoA : Own w0.heap.size (w0.alloc (.cells #[.int .u8 (k : Int)] 5)).drew (.slice (some ⟨w0.heap.size, 0, none⟩) 1 1) [UInt8.ofNat k] := HYK.out w0
  have HA1 := hid hbA
  have HA2 := hid hoA
  clear hbA hoA
  clear HA hlA
  go_region_held3 (fun W => W.cell? ⟨w.heap.size, 1, none⟩ = some (.int .i64 (k : Int)) ∧ W.cell? ⟨w.heap.size, 2, none⟩ = some (.int .i64 (v : Int)))
    (first
      | (refine ⟨(HX.out _ hbd).1, (HX.out _ hbd).2.1⟩)
      | (refine ⟨(HX.out _ hb5).1, (HX.out _ hb5).2.1⟩)
      | (refine ⟨(HX.out _ hb4).1, (HX.out _ hb4).2.1⟩)
      | (refine ⟨(HX.out _ HA1.out).1, (HX.out _ HA1.out).2.1⟩)
      | (refine ⟨(HX.out _ (hb4.alloc hb4.size _)).1, (HX.out _ (hb4.alloc hb4.size _)).2.1⟩)
      | fail)
    (first
      | (refine step_append_byt (by rfl) (.tmp 7) (.tmp 11) (by rfl) (by rfl) (by rfl) (HA2.out.below hb4') ho4.byt (by have := HLV.out; simp only [List.length_cons, List.length_nil, Int.toNat_natCast]; omega) hb4.size ?_; intro v5 w5 ho5 hg5 _; have hb5 := hb4.grown hg5 hb4.size (fun q hq => (World.ownsRow.lt (HA2.out.below hb4') q hq).1); clear hg5)
      | (refine step_append_byt (by rfl) (.tmp 7) (.tmp 11) (by rfl) (by rfl) (by rfl) ((HYK.out w4).more hb4.size) (ho4.byt.alloc _) (by have := HLV.out; simp only [List.length_cons, List.length_nil, Int.toNat_natCast]; omega) (Nat.le_trans hb4.size (al_le _ _)) ?_; intro v5 w5 ho5 hg5 _; have hb5 := (hb4.alloc hb4.size _).grown hg5 (Nat.le_trans hb4.size (al_le _ _)) (fun q hq => (World.ownsRow.lt ((HYK.out w4).more hb4.size) q hq).1); clear hg5)
      | (go_at_call 84; (with_reducible refine (HNV.out (w0.alloc (.cells #[.int .u8 (k : Int)] 5)).drew).mono ?_); rintro e w4 ⟨v4, rfl, ho4, hb4'⟩; have hb4 := HA1.out.trans (hb4'.mono HA1.out.size))
      | (go_at_call 84; (with_reducible refine (HNV.out w0.drew).mono ?_); rintro e w4 ⟨v4, rfl, ho4, hb4'⟩; have hb4 := hbd.trans hb4')
      | fail)
  all_goals
    rw [Int.toNat_natCast] at ho4 ho5
    have ho5' : Own w0.heap.size w5 v5 ([UInt8.ofNat k] ++ dg v) := ho5
    clear ho4 ho5 hb4 hb4'
    obtain ⟨P, HP⟩ : ∃ P : List UInt8, Hid ([UInt8.ofNat k] ++ dg v = P) := ⟨_, hid rfl⟩
    have HPL : Hid (P.length ≤ 11) := hid (by rw [← HP.out, List.length_append]; have := HLV.out; simp only [List.length_cons, List.length_nil]; omega)
    rw [HP.out] at ho5'
    have hbd5 : Below w0.heap.size w0 w5.drew := hb5.drew
    have hz5 := hb5.size
    have hbB : Below w5.heap.size w5 (w5.alloc (.cells #[.int .u8 (p : Int)] 5)).drew := ((Below.refl _ _).alloc (Nat.le_refl _) _).drew
    have hyB : Byt (w5.alloc (.cells #[.int .u8 (p : Int)] 5)).drew (.slice (some ⟨w5.heap.size, 0, none⟩) 1 1) [UInt8.ofNat p] := (HYP.out w5).byt
    have HB1 := hid hbB
    have HB2 := hid hyB
    have HB3 := hid (hb5.trans (hbB.mono hb5.size))
    have hd5 : Below w5.heap.size w5 w5.drew := (Below.refl _ _).drew
    have hu := under_hash
    have hsz : (Tryz.prog.info? 23).map (·.size) = some (bcells ha).length := by rw [size_hash, bcells_length, HOK.out.ha]
    clear hbB hyB
    go_upto_region 2 with (fail)
    go_region_held3 (fun W => W.cell? ⟨w.heap.size, 3, none⟩ = some (.int .i64 (p : Int)) ∧ W.rangeAt w.heap.size 4 (bcells ha))
      (first
        | (refine ⟨(HX.out _ hbd5).2.2.1, (HX.out _ hbd5).2.2.2.2.1⟩)
        | (refine ⟨(HX.out _ hb8).2.2.1, (HX.out _ hb8).2.2.2.2.1⟩)
        | (refine ⟨(HX.out _ hb7).2.2.1, (HX.out _ hb7).2.2.2.2.1⟩)
        | (refine ⟨(HX.out _ hb6).2.2.1, (HX.out _ hb6).2.2.2.2.1⟩)
        | (refine ⟨(HX.out _ HB3.out).2.2.1, (HX.out _ HB3.out).2.2.2.2.1⟩)
        | (refine ⟨(HX.out _ (hb7.alloc hb7.size _)).2.2.1, (HX.out _ (hb7.alloc hb7.size _)).2.2.2.2.1⟩)
        | fail)
      (first
        | (refine step_append_byt (by rfl) (.tmp 18) (.tmp 21) (by rfl) (by rfl) (by rfl) (ho6.below hb7') ho7.byt (by rw [List.length_append]; have := HPL.out; have := HOK.out.ha; simp only [List.length_cons, List.length_nil] at *; omega) hb7.size ?_; intro v8 w8 ho8 hg8 _; have hb8 := hb7.grown hg8 hb7.size (fun q hq => (World.ownsRow.lt (ho6.below hb7') q hq).1); clear hg8)
        | (refine step_append_byt (by rfl) (.tmp 18) (.tmp 21) (by rfl) (by rfl) (by rfl) ho6 hy7 (by rw [List.length_append]; have := HPL.out; have := HOK.out.ha; simp only [List.length_cons, List.length_nil] at *; omega) hb6.size ?_; intro v8 w8 ho8 hg8 _; have hb8 := hb6.grown hg8 hb6.size (fun q hq => (World.ownsRow.lt ho6 q hq).1); clear hg8)
        | (refine step_append_byt (by rfl) (.tmp 13) (.tmp 17) (by rfl) (by rfl) (by rfl) (ho5'.below HB1.out) HB2.out (by have := HPL.out; simp only [List.length_cons, List.length_nil]; omega) HB3.out.size ?_; intro v6 w6 ho6 hg6 _; have hb6 := HB3.out.grown hg6 HB3.out.size (fun q hq => (World.ownsRow.lt (ho5'.below HB1.out) q hq).1); clear hg6)
        | (refine step_append_byt (by rfl) (.tmp 13) (.tmp 17) (by rfl) (by rfl) (by rfl) ((ho5'.below HB1.out).below hb7') (HB2.out.below hb7') (by have := HPL.out; simp only [List.length_cons, List.length_nil]; omega) hb7.size ?_; intro v6 w6 ho6 hg6 _; have hb6 := hb7.grown hg6 hb7.size (fun q hq => (World.ownsRow.lt ((ho5'.below HB1.out).below hb7') q hq).1); have hy7 := own_past ho5' HB1.out.size ho7 hg6; clear hg6)
        | (refine step_append_byt (by rfl) (.tmp 13) (.tmp 17) (by rfl) (by rfl) (by rfl) (((ho5'.below hd5).below hb7').alloc _) (HYP.out w7).byt (by have := HPL.out; simp only [List.length_cons, List.length_nil]; omega) (Nat.le_trans hb7.size (al_le _ _)) ?_; intro v6 w6 ho6 hg6 _; have hb6 := (hb7.alloc hb7.size _).grown hg6 (Nat.le_trans hb7.size (al_le _ _)) (fun q hq => (World.ownsRow.lt (((ho5'.below hd5).below hb7').alloc _) q hq).1); have hy7 := own_past ho5' hd5.size (ho7.alloc _) hg6; clear hg6)
        | (go_at_call 40; (with_reducible refine (HBH.out w6).mono ?_); rintro e w7 ⟨v7, rfl, ho7, hb7'⟩; have hb7 := hb6.trans (hb7'.mono hb6.size))
        | (go_at_call 40; (with_reducible refine (HBH.out (w5.alloc (.cells #[.int .u8 (p : Int)] 5)).drew).mono ?_); rintro e w7 ⟨v7, rfl, ho7, hb7'⟩; have hb7 := HB3.out.trans (hb7'.mono HB3.out.size))
        | (go_at_call 40; (with_reducible refine (HBH.out w5.drew).mono ?_); rintro e w7 ⟨v7, rfl, ho7, hb7'⟩; have hb7 := hbd5.trans (hb7'.mono hbd5.size))
        | fail)
  all_goals
    have ho8' : Own w0.heap.size w8 v8 (P ++ [UInt8.ofNat p] ++ ha) := ho8
    obtain ⟨M, HM⟩ : ∃ M : List UInt8, Hid (P ++ [UInt8.ofNat p] ++ ha = M) := ⟨_, hid rfl⟩
    have HML : Hid (M.length ≤ 44) := hid (by rw [← HM.out, List.length_append, List.length_append]; have := HPL.out; have := HOK.out.ha; simp only [List.length_cons, List.length_nil] at *; omega)
    rw [HM.out] at ho8'
    have k8 := (HX.out _ hb8).2.2.2.1
    clear ho5' ho6 ho7 ho8 hb6 hb7 hb7' hbd5 hz5 hd5 hu hsz HB1 HB2 HB3 hbd
    (try clear hy7)
    go_wp2_with fail
    refine (HNQ.out w8).mono ?_
    rintro e w9 ⟨v9, rfl, ho9, hb9'⟩
    rw [Int.toNat_natCast] at ho9
    have hb9 := hb8.trans (hb9'.mono hb8.size)
    have ho89 := ho8'.below hb9'
    have hl9 : M.length + (dg q).length ≤ 140737488355328 := by have := HML.out; have := HLQ.out; omega
    clear k8
    go_wp2_with (at_builtin; refine wpList_append_byt rfl (.tmp 23) (.tmp 27) rfl rfl rfl ho89 ho9.byt hl9 hb9.size ?_; intro v10 w10 ho10 hg10 hv10; have hb10 := hb9.grown hg10 hb9.size (fun q hq => (World.ownsRow.lt ho89 q hq).1); have l10 := loadH_mid (HX.out _ hb10).2.2.2.2.2 HOK.out.pa; clear hg10 hv10)
    refine (HBP.out w10).mono ?_
    rintro e w11 ⟨v11, rfl, ho11, hb11'⟩
    have hb11 := hb10.trans (hb11'.mono hb10.size)
    have ho1011 := ho10.below hb11'
    have hl11 : (M ++ dg q).length + pa.length ≤ 140737488355328 := by rw [List.length_append]; have := HML.out; have := HLQ.out; have := HOK.out.pa; simp only at this; omega
    clear l10
    go_wp2_with (at_builtin; refine wpList_append_byt rfl (.tmp 29) (.tmp 32) rfl rfl rfl ho1011 ho11.byt hl11 hb11.size ?_; intro v12 w12 ho12 hg12 hv12; have hb12 := hb11.grown hg12 hb11.size (fun q hq => (World.ownsRow.lt ho1011 q hq).1); clear hg12 hv12)
    go_ret
    refine ⟨v12, rfl, ?_, hb0.trans (hb12.mono hs0)⟩
    have e : M ++ dg q ++ pa = O := by
      rw [← HO.out, ← HM.out, ← HP.out]
      unfold taggedA
      simp only [Int.toNat_natCast, HDK.out, HDP.out, List.append_assoc]
    rw [e] at ho12
    exact ho12.more hs0
theorem refTagged_any (a : AtM) (w : World) (ho : a.Ok) (hm : mayA a = true) :
    Calls Tryz.prog 83 #[.agg (atc a)] w fun e w' => ∃ x, e = .returned x ∧ Own w.heap.size w' x (taggedA a) ∧ Below w.heap.size w w' := by
  obtain ⟨_, _, h3, h4, h5, h6, h7, h8, h9⟩ := mayA_iff hm
  exact refTagged_of a w ho ⟨h3, h4, h5, h6, h7, h8, h9⟩
end Go.Proofs.YtjemfmbmlmogcaaGreat
namespace Go.Proofs.YtjemfmbmlmogcaaGreat
set_option maxRecDepth 20000
open Go.RowKit
theorem eq_hash_at (d : Nat) (a b : List UInt8) (ha : a.length = 32) (hb : b.length = 32) (w : World) : (Op.equalIn (d + 2) 23 (.agg (hcells a)) (.agg (hcells b))).run Tryz.prog w = .ok (decide (a = b)) w := by
  obtain ⟨i0, hi, _⟩ := info_parts info_u8
  rw [run_equalIn_array w (d + 1) (hcells a) (hcells b) under_hash hi, eqItems_bytes d a b w _ (fun i h => by have := List.mem_range.1 h; omega)]
  congr 1
  rw [Bool.eq_iff_iff]
  simp only [List.all_eq_true, List.mem_range, decide_eq_true_eq]
  constructor
  · intro h
    apply List.ext_getElem?
    intro i
    by_cases h32 : i < 32
    · exact h i h32
    · rw [List.getElem?_eq_none (by omega), List.getElem?_eq_none (by omega)]
  · rintro rfl i _
    rfl
def eqF (d : Nat) (xs ys : Array Value) : List (TypeId × Nat × Bool) → Sem Bool
  | [] => pure true
  | (t, o, s) :: fs =>
    if s = true then eqF d xs ys fs
    else do
      let a ← Go.part t xs o
      let b ← Go.part t ys o
      let r ← Op.equalIn d t a b
      if (!r) = true then pure false else eqF d xs ys fs
theorem eqF_of (d : Nat) (xs ys : Array Value) : ∀ fs : List Field, Op.eqFields d xs ys fs = eqF d xs ys (fs.map fun f => (f.type, f.offset, f.name == "_"))
  | [] => rfl
  | f :: fs => by
    unfold Op.eqFields
    rw [eqF_of d xs ys fs, List.map_cons]
    conv => rhs; unfold eqF
    by_cases h : f.name = "_" <;> simp [h]
theorem eqF_step {P : Program} {d : Nat} {xs ys : Array Value} {t : TypeId} {o : Nat} {fs : List (TypeId × Nat × Bool)} {w : World} {u v : Value} {r : Bool} (h1 : (Go.part t xs o).run P w = .ok u w) (h2 : (Go.part t ys o).run P w = .ok v w)
    (h3 : (Op.equalIn d t u v).run P w = .ok r w) : (eqF d xs ys ((t, o, false) :: fs)).run P w = if r = true then (eqF d xs ys fs).run P w else .ok false w := by
  conv => lhs; unfold eqF
  simp only [Bool.false_eq_true, if_false, Sem.run_bind, h1, h2, h3, Result.andThen_ok]
  cases r <;> rfl
theorem fields_att : (Tryz.prog.fieldsOf 25).toList.map (fun f => (f.type, f.offset, f.name == "_")) =
    [(3, 0, false), (3, 1, false), (3, 2, false), (3, 3, false), (23, 4, false), (3, 36, false), (23, 37, false), (23, 69, false)] := by kernel_rfl
theorem under_att_int : Tryz.prog.underlying 3 = some (.int .i64) := by kernel_rfl
theorem part_att_hash {w : World} {C : Array Value} {o : Nat} {l : List UInt8} (h : (C.toList.drop o).take 32 = bcells l) : (Go.part 23 C o).run Tryz.prog w = .ok (.agg (hcells l)) w := by
  have hz := size_hash
  obtain ⟨i, hi, hs⟩ := Option.map_eq_some_iff.1 hz
  have hc : Tryz.prog.cellsOf 23 = 32 := by kernel_rfl
  have e : C.extract o (o + 32) = hcells l := by
    apply Array.ext'
    rw [hcells_list, ← h, Array.toList_extract, List.extract_eq_take_drop]
    simp
  unfold Go.part
  simp only [Sem.run_bind, isAgg, run_underlying under_hash, Result.andThen_ok, run_sizeOf w hi, hc, e, Sem.run_pure, if_true]
theorem part_att_int {w : World} {C : Array Value} {o : Nat} {v : Value} (h : C[o]? = some v) : (Go.part 3 C o).run Tryz.prog w = .ok v w := run_part_plain (P := Tryz.prog) w (by kernel_rfl) h
theorem drop_at {α : Type} {l pre m post : List α} {o : Nat} (e : l = pre ++ (m ++ post)) (ho : pre.length = o) (hm : m.length = 32) : (l.drop o).take 32 = m := by
  subst e ho
  rw [List.drop_left, ← hm, List.take_left]
set_option maxHeartbeats 1600000 in
theorem eq_att (a b : AtM) (ho : a.Ok) (hp : b.Ok) (w : World) : (Op.equalIn 10000 25 (.agg (atc a)) (.agg (atc b))).run Tryz.prog w = .ok (decide (a = b)) w := by
  have K : ∀ c : AtM, c.Ok → (atc c)[0]? = some (.int .i64 c.bo) ∧ (atc c)[1]? = some (.int .i64 c.ki) ∧ (atc c)[2]? = some (.int .i64 c.vi) ∧ (atc c)[3]? = some (.int .i64 c.ph) ∧ (atc c)[36]? = some (.int .i64 c.pv)
      ∧ ((atc c).toList.drop 4).take 32 = bcells c.ha ∧ ((atc c).toList.drop 37).take 32 = bcells c.pa ∧ ((atc c).toList.drop 69).take 32 = bcells c.tg := by
    intro c hc
    refine ⟨rfl, rfl, rfl, rfl, ?_, ?_, ?_, ?_⟩
    · unfold atc atl
      rw [List.getElem?_toArray, List.getElem?_append_right (by simp), List.getElem?_append_right (by simp [bcells_length, hc.ha])]
      simp [bcells_length, hc.ha]
    · exact drop_at (pre := [.int .i64 c.bo, .int .i64 c.ki, .int .i64 c.vi, .int .i64 c.ph]) (m := bcells c.ha) (post := [.int .i64 c.pv] ++ (bcells c.pa ++ bcells c.tg)) rfl rfl (by rw [bcells_length, hc.ha])
    · exact drop_at (pre := [.int .i64 c.bo, .int .i64 c.ki, .int .i64 c.vi, .int .i64 c.ph] ++ (bcells c.ha ++ [.int .i64 c.pv])) (m := bcells c.pa) (post := bcells c.tg) (by show atl c = _; unfold atl; simp only [List.append_assoc]) (by simp [bcells_length, hc.ha]) (by rw [bcells_length, hc.pa])
    · exact drop_at (pre := [.int .i64 c.bo, .int .i64 c.ki, .int .i64 c.vi, .int .i64 c.ph] ++ (bcells c.ha ++ ([.int .i64 c.pv] ++ bcells c.pa))) (m := bcells c.tg) (post := []) (by show atl c = _; unfold atl; simp only [List.append_assoc, List.append_nil]) (by simp [bcells_length, hc.ha, hc.pa]) (by rw [bcells_length, hc.tg])
  obtain ⟨a0, a1, a2, a3, a4, a5, a6, a7⟩ := K a ho
  obtain ⟨b0, b1, b2, b3, b4, b5, b6, b7⟩ := K b hp
  have EI : ∀ x y : Int, (Op.equalIn 9999 3 (.int .i64 x) (.int .i64 y)).run Tryz.prog w = .ok (x == y) w := fun x y => run_equalIn_int (P := Tryz.prog) w 9998 3 .i64 .i64 x y under_att_int
  rw [run_equalIn_struct w 9999 _ _ _ under_att (by kernel_rfl), eqF_of, fields_att]
  rw [eqF_step (part_att_int a0) (part_att_int b0) (EI _ _), eqF_step (part_att_int a1) (part_att_int b1) (EI _ _), eqF_step (part_att_int a2) (part_att_int b2) (EI _ _), eqF_step (part_att_int a3) (part_att_int b3) (EI _ _),
    eqF_step (part_att_hash a5) (part_att_hash b5) (eq_hash_at 9997 _ _ ho.ha hp.ha w), eqF_step (part_att_int a4) (part_att_int b4) (EI _ _),
    eqF_step (part_att_hash a6) (part_att_hash b6) (eq_hash_at 9997 _ _ ho.pa hp.pa w), eqF_step (part_att_hash a7) (part_att_hash b7) (eq_hash_at 9997 _ _ ho.tg hp.tg w)]
  obtain ⟨p1, p2, p3, p4, p5, p6, p7, p8⟩ := a
  obtain ⟨q1, q2, q3, q4, q5, q6, q7, q8⟩ := b
  simp only [eqF, Sem.run_pure, AtM.mk.injEq, beq_iff_eq, decide_eq_true_eq]
  (repeat' split) <;> simp_all
end Go.Proofs.YtjemfmbmlmogcaaGreat
namespace Go.Proofs.YtjemfmbmlmogcaaGreat
set_option maxRecDepth 20000
open Go.RowKit
attribute [local go_sem ↓] exec_load_att
set_option maxHeartbeats 6400000 in
theorem refBytes8_any (a : AtM) (w : World) (ho : a.Ok) (hm : mayA a = true) :
    Calls Tryz.prog 38 #[.agg (atc a)] w fun e w' => ∃ x, e = .returned x ∧ Own w.heap.size w' x (bytesA a) ∧ Below w.heap.size w w' := by
  obtain ⟨h1, h2, _⟩ := mayA_iff hm
  have HTD := hid (fun W => refTagged_any a W ho hm)
  have hlen := taggedA_len ho hm
  have hb0 : Below w.heap.size w (w.alloc (.cells (atc a) 25)) := (Below.refl _ _).alloc (Nat.le_refl _) _
  have hA := BoxA.new w a
  obtain ⟨C, HC⟩ : ∃ C : Array Value, Hid (atc a = C) := ⟨_, hid rfl⟩
  obtain ⟨O, HO⟩ : ∃ O : List UInt8, Hid (bytesA a = O) := ⟨_, hid rfl⟩
  obtain ⟨M, HM⟩ : ∃ O : List UInt8, Hid (taggedA a = O) := ⟨_, hid rfl⟩
  obtain ⟨G, HG⟩ : ∃ O : List UInt8, Hid (a.tg = O) := ⟨_, hid rfl⟩
  have HGL : Hid (G.length = 32) := hid (by rw [← HG.out]; exact ho.tg)
  have HML : Hid (M.length ≤ 104) := hid (by rw [← HM.out]; exact hlen)
  obtain ⟨o, HBO⟩ := nat_of (i := a.bo) (by omega)
  have HX : Hid (∀ W : World, BoxA W w.heap.size a → W.cell? ⟨w.heap.size, 0, none⟩ = some (.int .i64 (o : Int)) ∧ loadAtt (.pointer (some ⟨w.heap.size, 0, none⟩)) W = .ok (.value (.agg C)) W ∧ W.rangeAt w.heap.size 69 (bcells G)) := hid (fun W h => by
    have e1 := h.cells.1
    have e2 := loadAtt_eq h ho
    have e3 := h.tag ho
    rw [HBO] at e1
    rw [HC.out] at e2
    rw [HG.out] at e3
    exact ⟨e1, e2, e3⟩)
  have HOB : Hid (O = dg o ++ (M ++ G)) := hid (by rw [← HO.out, ← HM.out, ← HG.out]; unfold bytesA; rw [HBO, Int.toNat_natCast])
  have HDO : Hid (dg o = [UInt8.ofNat o]) := hid (dg_small (by omega))
  have hk1 : IntKind.u8.wrap (o : Int) = (o : Int) := by rw [IntKind.wrap_u8']; omega
  have HYB := hid (fun w => one_own w o (by omega))
  have HBG := hid (fun w => refBytes7_arr G w HGL.out)
  rw [HC.out, HM.out] at HTD
  rw [HC.out] at hb0 hA ⊢
  rw [HO.out]
  clear h1 h2 hlen ho hm HBO
  go_enter Tryz.func38, Tryz.ntmps38
  go_upto_region 1 with (fail)
  generalize (w.alloc (.cells C 25)) = w0 at *
  have HXW := hid (fun W (h : Below w0.heap.size w0 W) => HX.out W (hA.keep h))
  have hbd : Below w0.heap.size w0 w0.drew := (Below.refl _ _).drew
  have hbA : Below w0.heap.size w0 (w0.alloc (.cells #[.int .u8 (o : Int)] 5)).drew := ((Below.refl _ _).alloc (Nat.le_refl _) _).drew
  have hoA : Own w0.heap.size (w0.alloc (.cells #[.int .u8 (o : Int)] 5)).drew (.slice (some ⟨w0.heap.size, 0, none⟩) 1 1) [UInt8.ofNat o] := HYB.out w0
  have HA1 := hid hbA
  have HA2 := hid hoA
  have hs0 := hb0.size
  have hu := under_hash
  have hsz : (Tryz.prog.info? 23).map (·.size) = some (bcells G).length := by rw [size_hash, bcells_length, HGL.out]
  clear hbA hoA hA
  go_region_held3 (fun W => W.cell? ⟨w.heap.size, 0, none⟩ = some (.int .i64 (o : Int)) ∧ loadAtt (.pointer (some ⟨w.heap.size, 0, none⟩)) W = .ok (.value (.agg C)) W ∧ W.rangeAt w.heap.size 69 (bcells G))
    (first
      | (refine HXW.out _ hbd)
      | (refine HXW.out _ hb7)
      | (refine HXW.out _ hb5)
      | (refine HXW.out _ hb6)
      | (refine HXW.out _ hb4)
      | (refine HXW.out _ HA1.out)
      | (refine HXW.out _ (hb6.alloc hb6.size _))
      | (refine HXW.out _ (hb4.alloc hb4.size _))
      | fail)
    (first
      | (refine step_append_byt (by rfl) (.tmp 9) (.tmp 12) (by rfl) (by rfl) (by rfl) (ho5.below hb6') ho6.byt (by rw [List.length_append]; have := HML.out; have := HGL.out; simp only [List.length_cons, List.length_nil]; omega) hb6.size ?_; intro v7 w7 ho7 hg7 _; have hb7 := hb6.grown hg7 hb6.size (fun q hq => (World.ownsRow.lt (ho5.below hb6') q hq).1); clear hg7)
      | (refine step_append_byt (by rfl) (.tmp 9) (.tmp 12) (by rfl) (by rfl) (by rfl) ho5 hy6 (by rw [List.length_append]; have := HML.out; have := HGL.out; simp only [List.length_cons, List.length_nil]; omega) hb5.size ?_; intro v7 w7 ho7 hg7 _; have hb7 := hb5.grown hg7 hb5.size (fun q hq => (World.ownsRow.lt ho5 q hq).1); clear hg7)
      | (refine step_append_byt (by rfl) (.tmp 6) (.tmp 8) (by rfl) (by rfl) (by rfl) hoB ho4.byt (by have := HML.out; simp only [List.length_cons, List.length_nil]; omega) hb4.size ?_; intro v5 w5 ho5 hg5 _; have hb5 := hb4.grown hg5 hb4.size (fun q hq => (World.ownsRow.lt hoB q hq).1); clear hg5)
      | (refine step_append_byt (by rfl) (.tmp 6) (.tmp 8) (by rfl) (by rfl) (by rfl) (hoB.below hb6') (ho4.byt.below hb6') (by have := HML.out; simp only [List.length_cons, List.length_nil]; omega) hb6.size ?_; intro v5 w5 ho5 hg5 _; have hb5 := hb6.grown hg5 hb6.size (fun q hq => (World.ownsRow.lt (hoB.below hb6') q hq).1); have hy6 := own_past hoB (Nat.le_refl _) ho6 hg5; clear hg5)
      | (refine step_append_byt (by rfl) (.tmp 6) (.tmp 8) (by rfl) (by rfl) (by rfl) ((HYB.out w4).more hb4.size) (ho4.byt.alloc _) (by have := HML.out; simp only [List.length_cons, List.length_nil]; omega) (Nat.le_trans hb4.size (al_le _ _)) ?_; intro v5 w5 ho5 hg5 _; have hb5 := (hb4.alloc hb4.size _).grown hg5 (Nat.le_trans hb4.size (al_le _ _)) (fun q hq => (World.ownsRow.lt ((HYB.out w4).more hb4.size) q hq).1); clear hg5)
      | (refine step_append_byt (by rfl) (.tmp 6) (.tmp 8) (by rfl) (by rfl) (by rfl) (((HYB.out w4).more hb4.size).below hb6') ((ho4.byt.alloc _).below hb6') (by have := HML.out; simp only [List.length_cons, List.length_nil]; omega) hb6.size ?_; intro v5 w5 ho5 hg5 _; have hb5 := hb6.grown hg5 hb6.size (fun q hq => (World.ownsRow.lt (((HYB.out w4).more hb4.size).below hb6') q hq).1); have hy6 := own_past (HYB.out w4) (Nat.le_refl _) ho6 hg5; clear hg5)
      | (refine step_append_byt (by rfl) (.tmp 6) (.tmp 8) (by rfl) (by rfl) (by rfl) ((HYB.out w6).more hb6.size) ((ho4.byt.below hb6').alloc _) (by have := HML.out; simp only [List.length_cons, List.length_nil]; omega) (Nat.le_trans hb6.size (al_le _ _)) ?_; intro v5 w5 ho5 hg5 _; have hb5 := (hb6.alloc hb6.size _).grown hg5 (Nat.le_trans hb6.size (al_le _ _)) (fun q hq => (World.ownsRow.lt ((HYB.out w6).more hb6.size) q hq).1); have hy6 : Byt w5 v6 G := ((ho6.alloc _).keep fun b hlt e => hg5.block b hlt (fun e' => by have h1 := (World.ownsRow.lt ho6 b e).2; have h2 := (World.ownsRow.lt (HYB.out w6) b e'.symm).1; omega)).byt; clear hg5)
      | (go_at_call 40; (with_reducible refine (HBG.out w5).mono ?_); rintro e w6 ⟨v6, rfl, ho6, hb6'⟩; have hb6 := hb5.trans (hb6'.mono hb5.size))
      | (go_at_call 40; (with_reducible refine (HBG.out w4).mono ?_); rintro e w6 ⟨v6, rfl, ho6, hb6'⟩; have hb6 := hb4.trans (hb6'.mono hb4.size))
      | (go_at_call 40; (with_reducible refine (HBG.out (w4.alloc (.cells #[.int .u8 (o : Int)] 5))).mono ?_); rintro e w6 ⟨v6, rfl, ho6, hb6'⟩; have hb6 := (hb4.alloc hb4.size _).trans (hb6'.mono (Nat.le_trans hb4.size (al_le _ _))))
      | (go_at_call 83; (with_reducible refine (HTD.out (w0.alloc (.cells #[.int .u8 (o : Int)] 5)).drew).mono ?_); rintro e w4 ⟨v4, rfl, ho4, hb4'⟩; have hb4 := HA1.out.trans (hb4'.mono HA1.out.size); have hoB := HA2.out.below hb4')
      | (go_at_call 83; (with_reducible refine (HTD.out w0.drew).mono ?_); rintro e w4 ⟨v4, rfl, ho4, hb4'⟩; have hb4 := hbd.trans hb4')
      | fail)
  all_goals
    go_wp2_with fail
    go_ret
    refine ⟨v7, rfl, ?_, hb0.trans (hb7.mono hs0)⟩
    have e : [UInt8.ofNat o] ++ M ++ G = O := by rw [HOB.out, HDO.out, List.append_assoc]
    have ho8 : Own w0.heap.size w7 v7 ([UInt8.ofNat o] ++ M ++ G) := ho7
    rw [e] at ho8
    exact ho8.more hs0
end Go.Proofs.YtjemfmbmlmogcaaGreat
