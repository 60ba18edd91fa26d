/-
  SePure HashMid HashZero SeWords SeOk: what each of them says stands at its head.
-/
import Derived.Test.YtghophbabbaleaaGreatDoorBs9
namespace Go.Proofs.YtghophbabbaleaaGreatDoor
set_option maxRecDepth 20000
structure SeM where
  vi : Int
  ph : Int
  pv : Int
  pa : List UInt8
  deriving DecidableEq
def seZ : SeM := ⟨0, 0, 0, z32⟩
def SeM.Ok (s : SeM) : Prop := s.pa.length = 32
theorem seZ_ok : seZ.Ok := rfl
def mayS (s : SeM) : Bool := if s.vi = 0 then decide (s = seZ) else if s.vi < 0 ∨ 1099511627776 < s.vi ∨ s.ph < 1 ∨ 3 < s.ph ∨ s.pv < 0 then false else decide (s.pv < s.vi) || (decide (s.pv = s.vi) && decide (s.ph = 3))
theorem mayS_iff {s : SeM} (h : mayS s = true) : 0 ≤ s.vi ∧ s.vi ≤ 1099511627776 ∧ 0 ≤ s.ph ∧ s.ph ≤ 3 ∧ 0 ≤ s.pv ∧ s.pv ≤ s.vi := by
  unfold mayS at h
  split at h
  · rw [decide_eq_true_eq] at h
    subst h
    decide
  · split at h
    · cases h
    · simp only [Bool.or_eq_true, Bool.and_eq_true, decide_eq_true_eq] at h
      omega
def taggedS (n : Int) (s : SeM) : List UInt8 := dg n.toNat ++ (dg s.vi.toNat ++ (dg s.ph.toNat ++ (dg s.pv.toNat ++ s.pa)))
def tagS (i n : Int) (s : SeM) : List UInt8 := hl 32 (tagF i 3 (taggedS n s))
theorem tagS_len (i n : Int) (s : SeM) : (tagS i n s).length = 32 := hl_length _ _
def blobS (i n : Int) (s : SeM) : List UInt8 := taggedS n s ++ tagS i n s
def versB (n : Int) : Bool := decide (1 ≤ n ∧ n ≤ 1099511627776)
theorem taggedS_len {n : Int} {s : SeM} (ho : s.Ok) (hn : versB n = true) (hm : mayS s = true) : (taggedS n s).length ≤ 72 := by
  obtain ⟨h1, h2, h3, h4, h5, h6⟩ := mayS_iff hm
  unfold versB at hn
  rw [decide_eq_true_eq] at hn
  have e1 := dg_len10 (n := n.toNat) (by omega)
  have e2 := dg_len10 (n := s.vi.toNat) (by omega)
  have e3 := dg_len10 (n := s.ph.toNat) (by omega)
  have e4 := dg_len10 (n := s.pv.toNat) (by omega)
  have e5 : s.pa.length = 32 := ho
  unfold taggedS
  simp only [List.length_append]
  omega
def rawB (l : List UInt8) : Int × SeM × List UInt8 × Nat × Bool :=
  let a := rdUpto 1099511627776 l 0 true
  let b := rdUpto 1099511627776 l a.2.1 a.2.2
  let c := rdUpto 3 l b.2.1 b.2.2
  let d := rdUpto 1099511627776 l c.2.1 c.2.2
  let e := rdHash l d.2.1 d.2.2
  let f := rdHash l e.2.1 e.2.2
  (a.1, ⟨b.1, c.1, d.1, e.1⟩, f.1, f.2)
def textB (l : List UInt8) : Bool := ((rawB l).2.2.2.2 && decide ((rawB l).2.2.2.1 = l.length)) && (decide (1 ≤ (rawB l).1) && mayS (rawB l).2.1)
def getB (i : Int) (l : List UInt8) : Int × SeM × Int :=
  if textB l = true then if nodeB i = true ∧ (rawB l).2.2.1 = tagS i (rawB l).1 (rawB l).2.1 then ((rawB l).1, (rawB l).2.1, 0) else (0, seZ, 7) else (0, seZ, 2)
theorem rawB_ok (l : List UInt8) : (rawB l).2.1.Ok := rdHash_32 _ _ _
theorem rawB_le (l : List UInt8) : 0 ≤ (rawB l).1 ∧ (rawB l).1 ≤ 1099511627776 := by
  unfold rawB
  simp only
  have h := rdNum_le (most := 1099511627776) (l := l) (p := 0) (r := true)
  unfold rdUpto
  rw [if_neg (by omega)]
  have e : (1099511627776 : Int).toNat = 1099511627776 := rfl
  rw [e]
  omega
theorem textB_so {l : List UInt8} (h : textB l = true) : l = taggedS (rawB l).1 (rawB l).2.1 ++ (rawB l).2.2.1 ∧ versB (rawB l).1 = true ∧ mayS (rawB l).2.1 = true ∧ (rawB l).2.2.1.length = 32 := by
  unfold textB at h
  simp only [Bool.and_eq_true, decide_eq_true_eq] at h
  obtain ⟨⟨h1, h2⟩, h3, h4⟩ := h
  have hle := rawB_le l
  refine ⟨?_, decide_eq_true ⟨h3, hle.2⟩, h4, rdHash_32 _ _ _⟩
  clear h3 h4 hle
  unfold rawB at h1 h2 ⊢
  obtain ⟨a, p1, r1, ha⟩ : ∃ x q s, rdUpto 1099511627776 l 0 true = (x, q, s) := ⟨_, _, _, rfl⟩
  obtain ⟨b, p2, r2, hb⟩ : ∃ x q s, rdUpto 1099511627776 l p1 r1 = (x, q, s) := ⟨_, _, _, rfl⟩
  obtain ⟨c, p3, r3, hc⟩ : ∃ x q s, rdUpto 3 l p2 r2 = (x, q, s) := ⟨_, _, _, rfl⟩
  obtain ⟨d, p4, r4, hd⟩ : ∃ x q s, rdUpto 1099511627776 l p3 r3 = (x, q, s) := ⟨_, _, _, rfl⟩
  obtain ⟨e, p5, r5, he⟩ : ∃ x q s, rdHash l p4 r4 = (x, q, s) := ⟨_, _, _, rfl⟩
  obtain ⟨f, p6, r6, hf⟩ : ∃ x q s, rdHash l p5 r5 = (x, q, s) := ⟨_, _, _, rfl⟩
  simp only [ha, hb, hc, hd, he, hf] at h1 h2 ⊢
  subst h1
  obtain ⟨rfl, _, q6, y6, hy6⟩ := rdHash_so hf
  obtain ⟨rfl, _, q5, y5, hy5⟩ := rdHash_so he
  obtain ⟨rfl, _, _, q4, y4, hy4⟩ := rdUpto_so hd
  obtain ⟨rfl, _, _, q3, y3, hy3⟩ := rdUpto_so hc
  obtain ⟨rfl, _, _, q2, y2, hy2⟩ := rdUpto_so hb
  obtain ⟨_, _, _, q1, y1, hy1⟩ := rdUpto_so ha
  have d1 := drop_more hy1
  rw [← q1, hy2] at d1
  have d2 := drop_more hy2
  rw [← q2, hy3] at d2
  have d3 := drop_more hy3
  rw [← q3, hy4] at d3
  have d4 := drop_more hy4
  rw [← q4, hy5] at d4
  have d5 := drop_more hy5
  rw [← q5, hy6] at d5
  have d6 := drop_more hy6
  rw [← q6, h2, List.drop_length] at d6
  subst d6
  rw [List.drop_zero] at hy1
  unfold taggedS
  simp only [Int.toNat_natCast, List.append_assoc]
  rw [hy1, ← d1, ← d2, ← d3, ← d4, ← d5, List.append_nil]
theorem textB_eq {l : List UInt8} (i : Int) (h : textB l = true) : (blobS i (rawB l).1 (rawB l).2.1 = l) ↔ (rawB l).2.2.1 = tagS i (rawB l).1 (rawB l).2.1 := by
  obtain ⟨h1, _, _, h4⟩ := textB_so h
  unfold blobS
  constructor
  · intro e
    have e2 := e.trans h1
    exact (List.append_cancel_left e2).symm
  · intro e
    rw [← e]
    exact h1.symm
theorem rawB_back {n : Int} {s : SeM} {t : List UInt8} (ho : s.Ok) (hn : versB n = true) (hm : mayS s = true) (ht : t.length = 32) : rawB (taggedS n s ++ t) = (n, s, t, (taggedS n s ++ t).length, true) := by
  obtain ⟨h1, h2, h3, h4, h5, h6⟩ := mayS_iff hm
  unfold versB at hn
  rw [decide_eq_true_eq] at hn
  obtain ⟨vi, ph, pv, pa⟩ := s
  have ho' : pa.length = 32 := ho
  simp only at h1 h2 h3 h4 h5 h6
  obtain ⟨x0, rfl⟩ := nat_of (i := n) (by omega)
  obtain ⟨x1, rfl⟩ := nat_of (i := vi) (by omega)
  obtain ⟨x2, rfl⟩ := nat_of (i := ph) (by omega)
  obtain ⟨x3, rfl⟩ := nat_of (i := pv) (by omega)
  have d0 : (taggedS (x0 : Int) ⟨x1, x2, x3, pa⟩ ++ t).drop 0 = dg x0 ++ (dg x1 ++ (dg x2 ++ (dg x3 ++ (pa ++ t)))) := by
    unfold taggedS
    simp only [Int.toNat_natCast, List.append_assoc, List.drop_zero]
  have hlen : (taggedS (x0 : Int) ⟨x1, x2, x3, pa⟩ ++ t).length = (dg x0).length + (dg x1).length + (dg x2).length + (dg x3).length + 32 + 32 := by
    have := congrArg List.length d0
    rw [List.drop_zero] at this
    rw [this]
    simp only [List.length_append, ho', ht]
    omega
  have d1 := drop_more d0
  have d2 := drop_more d1
  have d3 := drop_more d2
  have d4 := drop_more d3
  have d5 := drop_more d4
  rw [ho'] at d5
  rw [hlen]
  generalize taggedS (x0 : Int) ⟨x1, x2, x3, pa⟩ ++ t = L at *
  unfold rawB
  simp only [rdUpto_at (m := 1099511627776) d0 (by omega) (by omega), rdUpto_at (m := 1099511627776) d1 (by omega) (by omega), rdUpto_at (m := 3) d2 (by omega) (by omega), rdUpto_at (m := 1099511627776) d3 (by omega) (by omega), rdHash_at d4 ho',
    rdHash_at (r := []) (by rw [List.append_nil]; exact d5) ht]
  simp only [Nat.zero_add]
theorem getB_back {i n : Int} {s : SeM} (ho : s.Ok) (hn : versB n = true) (hm : mayS s = true) (hi : nodeB i = true) : getB i (blobS i n s) = (n, s, 0) := by
  have e : rawB (blobS i n s) = (n, s, tagS i n s, (blobS i n s).length, true) := rawB_back ho hn hm (tagS_len _ _ _)
  have ht : textB (blobS i n s) = true := by
    unfold textB
    rw [e]
    unfold versB at hn
    rw [decide_eq_true_eq] at hn
    simp only [Bool.true_and, Bool.and_eq_true, decide_eq_true_eq, hm, and_true, true_and]
    exact hn.1
  unfold getB
  rw [if_pos ht, e]
  simp only
  rw [if_pos ⟨hi, trivial⟩]
end Go.Proofs.YtghophbabbaleaaGreatDoor
namespace Go.Proofs.YtghophbabbaleaaGreatDoor
set_option maxRecDepth 20000
open Go.RowKit
theorem loadH_mid {w : World} {g o : Nat} {h : List UInt8} (hr : w.rangeAt g o (bcells h)) (hl : h.length = 32) : loadH (.pointer (some ⟨g, o, none⟩)) w = .ok (.value (.agg (hcells h))) w := by
  have := run_loadAt_mid (P := Tryz.prog) w g o 38 (bcells h) _ hr under_hash rfl (by rw [size_hash, bcells_length, hl])
  unfold loadH execOp
  simp only [Sem.run_bind, this, Result.andThen_ok, Sem.run_pure]
  rfl
def putAt (C : Array Value) (o : Nat) : List Value → Array Value
  | [] => C
  | v :: r => putAt (C.setIfInBounds o v) (o + 1) r
theorem setCells_row {g : Nat} {t : TypeId} : ∀ (vs : List Value) (o : Nat) (w : World) (C : Array Value), w.heap[g]? = some (.cells C t (0, 0)) → (w.setCells g o vs).heap[g]? = some (.cells (putAt C o vs) t (0, 0))
  | [], _, _, _, h => h
  | v :: r, o, w, C, h => setCells_row r (o + 1) (w.setCell ⟨g, o, none⟩ v) (C.setIfInBounds o v) (set_blk h o v)
theorem putAt_mid : ∀ (vs pre old post : List Value), old.length = vs.length → putAt (pre ++ (old ++ post)).toArray pre.length vs = (pre ++ (vs ++ post)).toArray
  | [], pre, old, post, h => by
    obtain rfl : old = [] := List.eq_nil_of_length_eq_zero h
    rfl
  | v :: r, pre, o :: old, post, h => by
    have e : (pre ++ (o :: old ++ post)).toArray.setIfInBounds pre.length v = ((pre ++ [v]) ++ (old ++ post)).toArray := by
      simp
    have e2 : pre.length + 1 = (pre ++ [v]).length := by simp
    unfold putAt
    rw [e, e2, putAt_mid r (pre ++ [v]) old post (by simpa using h)]
    simp
  | _ :: _, _, [], _, h => by cases h
theorem wpList_store_midh {ops : Array Oper} {rest : List Oper} {o : Oper} {a : Act} {w : World} {Q : Exit → Act → World → Prop} (hgd : o.guard = none) (x y : Operand) (ho : o.op = .store 38 x y)
    {g k : Nat} {t : TypeId} {pre old post : List Value} {h : List UInt8} (hx : a.eval x = .pointer (some ⟨g, k, none⟩)) (hy : a.eval y = .agg (hcells h)) (hg : w.heap[g]? = some (.cells (pre ++ (old ++ post)).toArray t (0, 0))) (hk : k = pre.length) (hold : old.length = 32) (hl : h.length = 32)
    (hh : ∀ w', w.grownBy w' (some g) → w'.heap[g]? = some (.cells (pre ++ (bcells h ++ post)).toArray t (0, 0)) → w'.heap.size = w.heap.size → wpList Tryz.prog ops Q rest (a.put o.dst undef) w') : wpList Tryz.prog ops Q (o :: rest) a w := by
  subst hk
  refine wpList_store_mid hgd _ x y ho (b := g) (o := pre.length) (cells := hcells h) hx hy (fun j hj => ⟨?_, free_blk hg _⟩) (by rw [size_hash, hcells_size, hl]) (hcells_one _) ?_
  · rw [hcells_size, hl] at hj
    rw [cell_blk hg, List.getElem?_toArray, List.getElem?_append_right (by omega), Nat.add_sub_cancel_left, List.getElem?_append_left (by omega), List.getElem?_eq_getElem (by omega)]
    rfl
  · rw [hcells_list]
    refine hh _ (grown_setCells g _ _ _) ?_ (setCells_size g _ _ _)
    have := setCells_row (bcells h) pre.length w _ hg
    rw [putAt_mid (bcells h) pre old post (by rw [bcells_length, hl, hold])] at this
    exact this
end Go.Proofs.YtghophbabbaleaaGreatDoor
namespace Go.Proofs.YtghophbabbaleaaGreatDoor
set_option maxRecDepth 20000
open Go.RowKit
noncomputable def buildH (w : World) : Result Next := Sem.run Tryz.prog (execOp (fun _ => undef) { dst := none, op := .build 38 #[], type := 0, pos := "", after := #[], guard := none }) w
theorem exec_build_hash (r : Operand → Value) (dst : Option Tmp) (ty : TypeId) (pos : String) (after : Array Edge) (guard : Option (Nat × Bool)) (w : World) :
    Sem.run Tryz.prog (execOp r { dst := dst, op := .build 38 #[], type := ty, pos := pos, after := after, guard := guard }) w = buildH w := by
  unfold buildH execOp
  simp
end Go.Proofs.YtghophbabbaleaaGreatDoor
namespace Go.Proofs.YtghophbabbaleaaGreatDoor
set_option maxRecDepth 20000
open Go.RowKit
def sel (a : SeM) : List Value := [.int .i64 a.vi, .int .i64 a.ph, .int .i64 a.pv] ++ bcells a.pa
def sec (a : SeM) : Array Value := (sel a).toArray
theorem sel_length {a : SeM} (h : a.Ok) : (sel a).length = 35 := by
  have : a.pa.length = 32 := h
  unfold sel
  simp only [List.length_append, bcells_length, List.length_cons, List.length_nil]
  omega
theorem sec_size {a : SeM} (h : a.Ok) : (sec a).size = 35 := by
  unfold sec
  rw [List.size_toArray, sel_length h]
def BoxSe (w : World) (g : Nat) (a : SeM) : Prop := w.heap[g]? = some (.cells (sec a) 40 (0, 0))
section
variable {w w' : World} {g : Nat} {a : SeM}
theorem BoxSe.new (w : World) (a : SeM) : BoxSe (w.alloc (.cells (sec a) 40)) w.heap.size a := heap_alloc_new w _
theorem BoxSe.lt (h : BoxSe w g a) : g < w.heap.size := lt_of_block h
theorem BoxSe.below {B : Nat} (h : BoxSe w g a) (hb : Below B w w') (hg : g < B) : BoxSe w' g a := (hb.block g hg).trans h
theorem BoxSe.keep (h : BoxSe w g a) (hb : Below w.heap.size w w') : BoxSe w' g a := h.below hb h.lt
theorem BoxSe.free (h : BoxSe w g a) (i : Nat) : w.frozen? ⟨g, i, none⟩ = false := free_blk h i
theorem BoxSe.cell (h : BoxSe w g a) (i : Nat) : w.cell? ⟨g, i, none⟩ = (sel a)[i]? := by
  rw [cell_blk h i]
  unfold sec
  rw [List.getElem?_toArray]
theorem BoxSe.cells (h : BoxSe w g a) : w.cell? ⟨g, 0, none⟩ = some (.int .i64 a.vi) ∧ w.cell? ⟨g, 1, none⟩ = some (.int .i64 a.ph) ∧ w.cell? ⟨g, 2, none⟩ = some (.int .i64 a.pv) := ⟨h.cell 0, h.cell 1, h.cell 2⟩
theorem BoxSe.range0 (h : BoxSe w g a) {pre l post : List Value} (e : sel a = pre ++ (l ++ post)) : w.rangeAt g pre.length l := fun j u hu => by
  rw [h.cell, e, List.getElem?_append_right (by omega), Nat.add_sub_cancel_left, List.getElem?_append_left (List.getElem?_eq_some_iff.1 hu).1]
  exact hu
theorem BoxSe.hash (h : BoxSe w g a) : w.rangeAt g 3 (bcells a.pa) := h.range0 (pre := [.int .i64 a.vi, .int .i64 a.ph, .int .i64 a.pv]) (post := []) (by rw [List.append_nil]; rfl)
end
noncomputable def loadSe (v : Value) (w : World) : Result Next := Sem.run Tryz.prog (execOp (fun _ => v) { dst := none, op := .load 40 (.tmp 0), type := 0, pos := "", after := #[], guard := none }) w
theorem exec_load_se (r : Operand → Value) (x : Operand) (dst : Option Tmp) (ty : TypeId) (pos : String) (after : Array Edge) (guard : Option (Nat × Bool)) (w : World) :
    Sem.run Tryz.prog (execOp r { dst := dst, op := .load 40 x, type := ty, pos := pos, after := after, guard := guard }) w = loadSe (r x) w := rfl
theorem under_se : Tryz.prog.underlying 40 = some (.struct (Tryz.prog.fieldsOf 40)) := by kernel_rfl
theorem size_se : (Tryz.prog.info? 40).map (·.size) = some 35 := by kernel_rfl
theorem loadSe_row {w : World} {g : Nat} {C : Array Value} {T : TypeId} (h : w.heap[g]? = some (.cells C T (0, 0))) (hs : C.size = 35) : loadSe (.pointer (some ⟨g, 0, none⟩)) w = .ok (.value (.agg C)) w := by
  have := run_loadAt_mid (P := Tryz.prog) w g 0 40 C.toList _ (fun j v hj => by rw [Nat.zero_add, cell_blk h j]; simpa using hj) under_se rfl (by rw [size_se]; simp [hs])
  simp only [Array.toArray_toList] at this
  unfold loadSe execOp
  simp only [Sem.run_bind, this, Result.andThen_ok, Sem.run_pure]
theorem loadSe_eq {w : World} {g : Nat} {a : SeM} (h : BoxSe w g a) (ho : a.Ok) : loadSe (.pointer (some ⟨g, 0, none⟩)) w = .ok (.value (.agg (sec a))) w := loadSe_row h (sec_size ho)
theorem sel_one (a : SeM) : ∀ u ∈ sel a, u.oneCell' = true := by
  intro u hu
  unfold sel at hu
  simp only [List.mem_append, List.mem_cons, List.not_mem_nil, or_false] at hu
  rcases hu with (rfl | rfl | rfl) | hu
  · rfl
  · rfl
  · rfl
  · exact bcells_one _ u hu
theorem sec_one (a : SeM) : (sec a).all (·.oneCell') = true := all_oneCell_toArray (sel_one a)
theorem zero_se : (Tryz.prog.info? 40).bind (·.zero) = some (.agg (sec seZ)) := by kernel_rfl
theorem run_zero_se (w : World) : (zeroValue 40).run Tryz.prog w = .ok (.agg (sec seZ)) w := by
  have h := zero_se
  cases hq : Tryz.prog.info? 40 with
  | none => rw [hq] at h; cases h
  | some i =>
    rw [hq] at h
    have hz : i.zero = some (.agg (sec seZ)) := h
    simp [zeroValue, typeInfo, hq, hz]
noncomputable def buildSe (w : World) : Result Next := Sem.run Tryz.prog (execOp (fun _ => undef) { dst := none, op := .build 40 #[], type := 0, pos := "", after := #[], guard := none }) w
theorem exec_build_se (r : Operand → Value) (dst : Option Tmp) (ty : TypeId) (pos : String) (after : Array Edge) (guard : Option (Nat × Bool)) (w : World) :
    Sem.run Tryz.prog (execOp r { dst := dst, op := .build 40 #[], type := ty, pos := pos, after := after, guard := guard }) w = buildSe w := by
  unfold buildSe execOp
  simp
theorem buildSe_eq (w : World) : buildSe w = .ok (.value (.agg (sec seZ))) w := by
  unfold buildSe
  go_simp
  rfl
noncomputable def allocSe (w : World) : Result Next := Sem.run Tryz.prog (execOp (fun _ => undef) { dst := none, op := .alloc 40, type := 0, pos := "", after := #[], guard := none }) w
theorem exec_alloc_se (r : Operand → Value) (dst : Option Tmp) (ty : TypeId) (pos : String) (after : Array Edge) (guard : Option (Nat × Bool)) (w : World) :
    Sem.run Tryz.prog (execOp r { dst := dst, op := .alloc 40, type := ty, pos := pos, after := after, guard := guard }) w = allocSe w := rfl
theorem allocSe_eq (w : World) : allocSe w = .ok (.value (.pointer (some ⟨w.heap.size, 0, none⟩))) (w.alloc (.cells (sec seZ) 40)) := by
  unfold allocSe execOp
  simp only [Sem.run_bind, Instr.alloc, run_zero_se, newVar, newRow, run_newObj_alloc, Sem.run_pure, Result.andThen_ok, Value.cells]
noncomputable def storeSe (p v : Value) (w : World) : Result Next := Sem.run Tryz.prog (execOp (fun x => match x with
  | .tmp 0 => p
  | _ => v) { dst := none, op := .store 40 (.tmp 0) (.tmp 1), type := 0, pos := "", after := #[], guard := none }) w
theorem exec_store_se (r : Operand → Value) (x y : Operand) (dst : Option Tmp) (ty : TypeId) (pos : String) (after : Array Edge) (guard : Option (Nat × Bool)) (w : World) :
    Sem.run Tryz.prog (execOp r { dst := dst, op := .store 40 x y, type := ty, pos := pos, after := after, guard := guard }) w = storeSe (r x) (r y) w := rfl
def setSe (w : World) (g : Nat) (C : Array Value) : World := w.setRow g C
theorem storeSe_eq {w : World} {g : Nat} {t : TypeId} {C0 C : Array Value} (hg : w.heap[g]? = some (.cells C0 t (0, 0))) (h0 : C0.size = 35) (hC : C.size = 35) (h1 : C.all (·.oneCell') = true) :
    storeSe (.pointer (some ⟨g, 0, none⟩)) (.agg C) w = .ok .skip (setSe w g C) := by
  have := run_storeVar_row (P := Tryz.prog) w g t 40 C0 C hg (by rw [size_se, hC]) (by rw [h0, hC]) h1
  unfold storeSe execOp
  simp only [Instr.storeAt, Instr.sureAddr, Sem.run_bind, Sem.run_pure, Result.andThen_ok, this]
  rfl
theorem setSe_other (w : World) {g k : Nat} (C : Array Value) (hk : k ≠ g) : (setSe w g C).heap[k]? = w.heap[k]? := setRow_other w g k _ hk
theorem setSe_same {w : World} {g : Nat} {t : TypeId} {C0 C : Array Value} (hg : w.heap[g]? = some (.cells C0 t (0, 0))) : (setSe w g C).heap[g]? = some (.cells C t (0, 0)) := setRow_heap w g _ _ t _ hg
theorem setSe_below {B g : Nat} {a w : World} {C : Array Value} (hb : Below B a w) (hg : B ≤ g) : Below B a (setSe w g C) := below_setRow hb hg _
end Go.Proofs.YtghophbabbaleaaGreatDoor
namespace Go.Proofs.YtghophbabbaleaaGreatDoor
set_option maxRecDepth 20000
open Go.RowKit
def putOkS (i n : Int) (s : SeM) : Bool := nodeB i && (versB n && mayS s)
def SeCheckOk : Prop := ∀ (s : SeM) (w : World), s.Ok → Calls Tryz.prog 40 #[.agg (sec s)] w fun e w' => e = .returned (.int .i64 (if mayS s = true then 0 else 1)) ∧ Below w.heap.size w w'
def SePutOk : Prop := ∀ (i n : Int) (s : SeM) (w : World), (Lit.int .i64 i).wf = true → (Lit.int .i64 n).wf = true → s.Ok → Kst 1 w →
  Calls Tryz.prog 42 #[.int .i64 i, .int .i64 n, .agg (sec s)] w fun e w' => ∃ x, e = .returned (.tuple #[x, .int .i64 (if putOkS i n s = true then 0 else 1)]) ∧ Byt w' x (if putOkS i n s = true then blobS i n s else []) ∧ Below w.heap.size w w'
def SeGetOk : Prop := ∀ (i : Int) (v : Value) (l : List UInt8) (w : World), (Lit.int .i64 i).wf = true → Byt w v l → l.length ≤ 1000000 → Kst 1 w →
  Calls Tryz.prog 47 #[.int .i64 i, v] w fun e w' => e = .returned (.tuple #[.int .i64 (getB i l).1, .agg (sec (getB i l).2.1), .int .i64 (getB i l).2.2]) ∧ Below w.heap.size w w'
theorem getB_ok (i : Int) (l : List UInt8) : (getB i l).2.1.Ok := by
  unfold getB
  split
  · split
    · exact rawB_ok l
    · exact seZ_ok
  · exact seZ_ok
end Go.Proofs.YtghophbabbaleaaGreatDoor
