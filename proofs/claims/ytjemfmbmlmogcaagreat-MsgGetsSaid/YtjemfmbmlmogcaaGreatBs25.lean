/-
  MgWords MgStore MgOk MgSame: what each of them says stands at its head.
-/
import Derived.BigQuiet
import Derived.Deep.DeepCutAuto
import Derived.Deep.QuietTactic
import Derived.Deep.RegionHeld3
import Derived.Deep.RegionWith
import Derived.LaidMore
import Derived.Laws.IdiomCopy
import Derived.Lib.LaidTab
import Derived.LoopTactic
import Derived.MakeChecks
import Derived.OpenShut
import Derived.Outline
import Derived.StillTailTactics
import Derived.Stop.Joined
import Derived.Stop.LaidErr
import Derived.Test.YtjemfmbmlmogcaaGreatBs22
import Derived.Test.YtjemfmbmlmogcaaGreatBs23
import Derived.Test.YtjemfmbmlmogcaaGreatBs24
import Derived.Test.YtjemfmbmlmogcaaGreatBs2
import Derived.Test.YtjemfmbmlmogcaaGreatBs12
import Derived.Test.YtjemfmbmlmogcaaGreatBs13
import Derived.Test.YtjemfmbmlmogcaaGreatBs14
import Derived.Test.YtjemfmbmlmogcaaGreatBs6
import Derived.Test.YtjemfmbmlmogcaaGreatBs11
import Derived.Test.YtjemfmbmlmogcaaGreatBs10
import Derived.Test.YtjemfmbmlmogcaaGreatBs8
import Derived.Test.YtjemfmbmlmogcaaGreatBs7
import Derived.Test.YtjemfmbmlmogcaaGreatBs9
import Derived.Test.YtjemfmbmlmogcaaGreatBs18
import Derived.Test.YtjemfmbmlmogcaaGreatBs19
import Derived.Test.YtjemfmbmlmogcaaGreatBs20
import Derived.Test.YtjemfmbmlmogcaaGreatBs3
import Derived.Test.YtjemfmbmlmogcaaGreatBs15
import Derived.Test.YtjemfmbmlmogcaaGreatBs1
import Derived.Test.YtjemfmbmlmogcaaGreatBs5
import Derived.Test.YtjemfmbmlmogcaaGreatBs4
namespace Go.Proofs.YtjemfmbmlmogcaaGreat
set_option maxRecDepth 20000
open Go.RowKit
def ctl (c : CtM) (s : Value) : List Value := atl c.att ++ [s]
def bkl (b : BkM) (s : Value) : List Value := bcells b.par ++ [.int .i64 b.vi, .int .i64 b.he, .int .i64 b.bo, s]
theorem ctl_len {c : CtM} (s : Value) (h : c.att.Ok) : (ctl c s).length = 102 := by simp [ctl, atl_length h]
theorem bkl_len {b : BkM} (s : Value) (h : b.par.length = 32) : (bkl b s).length = 36 := by simp [bkl, bcells, h]
def mgl (m : MgM) (s1 s2 s3 : Value) : List Value :=
  [.int .i64 m.ki, .int .i64 m.fr, .int .i64 m.tu] ++ (atl m.aa ++ (ctl m.cc s1 ++ (axl m.xx s2 ++ (bkl m.kk s3 ++ (bcells m.hh ++ tcl m.tt)))))
def mgc (m : MgM) (s1 s2 s3 : Value) : Array Value := (mgl m s1 s2 s3).toArray
theorem mgl_length {m : MgM} (s1 s2 s3 : Value) (h : m.Ok) : (mgl m s1 s2 s3).length = 349 := by
  simp only [mgl, List.length_append, atl_length h.aa, ctl_len s1 h.cc.att, axl_length s2 h.xx, bkl_len s3 h.kk, bcells_length, h.hh, tcl_length, List.length_cons, List.length_nil]
theorem mgc_size {m : MgM} (s1 s2 s3 : Value) (h : m.Ok) : (mgc m s1 s2 s3).size = 349 := by unfold mgc; rw [List.size_toArray, mgl_length _ _ _ h]
def MgV (w : World) (v : Value) (m : MgM) : Prop := ∃ s1 s2 s3, v = .agg (mgc m s1 s2 s3) ∧ m.Ok ∧ Els scl 33 w s1 m.cc.sg ∧ Els icl 1 w s2 m.xx.fr ∧ Txs w s3 m.kk.txs
theorem MgV.below {w w' : World} {v : Value} {m : MgM} (h : MgV w v m) (hb : Below w.heap.size w w') : MgV w' v m := by
  obtain ⟨s1, s2, s3, rfl, h0, h1, h2, h3⟩ := h
  exact ⟨s1, s2, s3, rfl, h0, h1.below hb, h2.below hb, h3.below hb⟩
def BoxM (w : World) (g : Nat) (m : MgM) (s1 s2 s3 : Value) : Prop := w.heap[g]? = some (.cells (mgc m s1 s2 s3) 38 (0, 0))
theorem part_range {w : World} {g o : Nat} {t : TypeId} {C : Array Value} {pre mid post : List Value} (h : w.heap[g]? = some (.cells C t (0, 0))) (hC : C = (pre ++ (mid ++ post)).toArray) (ho : o = pre.length) : w.rangeAt g o mid := fun j u hu => by
  subst hC ho
  rw [cell_blk h, List.getElem?_toArray, List.getElem?_append_right (by omega), Nat.add_sub_cancel_left, List.getElem?_append_left (List.getElem?_eq_some_iff.1 hu).1]
  exact hu
section
variable (m : MgM) (s1 s2 s3 : Value)
theorem mgl_aa : mgl m s1 s2 s3 = [.int .i64 m.ki, .int .i64 m.fr, .int .i64 m.tu] ++ (atl m.aa ++ (ctl m.cc s1 ++ (axl m.xx s2 ++ (bkl m.kk s3 ++ (bcells m.hh ++ tcl m.tt))))) := rfl
theorem mgl_cc : mgl m s1 s2 s3 = ([.int .i64 m.ki, .int .i64 m.fr, .int .i64 m.tu] ++ atl m.aa) ++ (ctl m.cc s1 ++ (axl m.xx s2 ++ (bkl m.kk s3 ++ (bcells m.hh ++ tcl m.tt)))) := by
  unfold mgl; simp only [List.append_assoc]
theorem mgl_xx : mgl m s1 s2 s3 = ([.int .i64 m.ki, .int .i64 m.fr, .int .i64 m.tu] ++ (atl m.aa ++ ctl m.cc s1)) ++ (axl m.xx s2 ++ (bkl m.kk s3 ++ (bcells m.hh ++ tcl m.tt))) := by
  unfold mgl; simp only [List.append_assoc]
theorem mgl_kk : mgl m s1 s2 s3 = ([.int .i64 m.ki, .int .i64 m.fr, .int .i64 m.tu] ++ (atl m.aa ++ (ctl m.cc s1 ++ axl m.xx s2))) ++ (bkl m.kk s3 ++ (bcells m.hh ++ tcl m.tt)) := by
  unfold mgl; simp only [List.append_assoc]
theorem mgl_hh : mgl m s1 s2 s3 = ([.int .i64 m.ki, .int .i64 m.fr, .int .i64 m.tu] ++ (atl m.aa ++ (ctl m.cc s1 ++ (axl m.xx s2 ++ bkl m.kk s3)))) ++ (bcells m.hh ++ tcl m.tt) := by
  unfold mgl; simp only [List.append_assoc]
theorem mgl_tt : mgl m s1 s2 s3 = ([.int .i64 m.ki, .int .i64 m.fr, .int .i64 m.tu] ++ (atl m.aa ++ (ctl m.cc s1 ++ (axl m.xx s2 ++ (bkl m.kk s3 ++ bcells m.hh))))) ++ (tcl m.tt ++ []) := by
  unfold mgl; simp only [List.append_assoc, List.append_nil]
end
section
variable {w w' : World} {g : Nat} {m : MgM} {s1 s2 s3 : Value}
theorem BoxM.new (w : World) (m : MgM) (s1 s2 s3 : Value) : BoxM (w.alloc (.cells (mgc m s1 s2 s3) 38)) w.heap.size m s1 s2 s3 := heap_alloc_new w _
theorem BoxM.lt (h : BoxM w g m s1 s2 s3) : g < w.heap.size := lt_of_block h
theorem BoxM.below {B : Nat} (h : BoxM w g m s1 s2 s3) (hb : Below B w w') (hg : g < B) : BoxM w' g m s1 s2 s3 := (hb.block g hg).trans h
theorem BoxM.keep (h : BoxM w g m s1 s2 s3) (hb : Below w.heap.size w w') : BoxM w' g m s1 s2 s3 := h.below hb h.lt
theorem BoxM.free (h : BoxM w g m s1 s2 s3) (i : Nat) : w.frozen? ⟨g, i, none⟩ = false := free_blk h i
theorem BoxM.ints (h : BoxM w g m s1 s2 s3) : w.cell? ⟨g, 0, none⟩ = some (.int .i64 m.ki) ∧ w.cell? ⟨g, 1, none⟩ = some (.int .i64 m.fr) ∧ w.cell? ⟨g, 2, none⟩ = some (.int .i64 m.tu) :=
  ⟨cell_blk h 0, cell_blk h 1, cell_blk h 2⟩
theorem BoxM.aa (h : BoxM w g m s1 s2 s3) : w.rangeAt g 3 (atl m.aa) := part_range h (congrArg List.toArray (mgl_aa m s1 s2 s3)) rfl
theorem BoxM.cc (h : BoxM w g m s1 s2 s3) (ho : m.Ok) : w.rangeAt g 104 (ctl m.cc s1) := part_range h (congrArg List.toArray (mgl_cc m s1 s2 s3)) (by simp only [List.length_append, atl_length ho.aa, List.length_cons, List.length_nil])
theorem BoxM.xx (h : BoxM w g m s1 s2 s3) (ho : m.Ok) : w.rangeAt g 206 (axl m.xx s2) := part_range h (congrArg List.toArray (mgl_xx m s1 s2 s3)) (by simp only [List.length_append, atl_length ho.aa, ctl_len s1 ho.cc.att, List.length_cons, List.length_nil])
theorem BoxM.kk (h : BoxM w g m s1 s2 s3) (ho : m.Ok) : w.rangeAt g 274 (bkl m.kk s3) := part_range h (congrArg List.toArray (mgl_kk m s1 s2 s3)) (by simp only [List.length_append, atl_length ho.aa, ctl_len s1 ho.cc.att, axl_length s2 ho.xx, List.length_cons, List.length_nil])
theorem BoxM.hh (h : BoxM w g m s1 s2 s3) (ho : m.Ok) : w.rangeAt g 310 (bcells m.hh) := part_range h (congrArg List.toArray (mgl_hh m s1 s2 s3)) (by simp only [List.length_append, atl_length ho.aa, ctl_len s1 ho.cc.att, axl_length s2 ho.xx, bkl_len s3 ho.kk, List.length_cons, List.length_nil])
theorem BoxM.tt (h : BoxM w g m s1 s2 s3) (ho : m.Ok) : w.rangeAt g 342 (tcl m.tt) := part_range h (congrArg List.toArray (mgl_tt m s1 s2 s3)) (by simp only [List.length_append, atl_length ho.aa, ctl_len s1 ho.cc.att, axl_length s2 ho.xx, bkl_len s3 ho.kk, bcells_length, ho.hh, List.length_cons, List.length_nil])
end
theorem loadCt_in {w : World} {g o : Nat} {c : CtM} {s : Value} (hr : w.rangeAt g o (ctl c s)) (ho : c.att.Ok) : loadCt (.pointer (some ⟨g, o, none⟩)) w = .ok (.value (.agg (ctc c s))) w := by
  have := run_loadAt_mid (P := Tryz.prog) w g o 28 (ctl c s) _ hr under_ct rfl (by rw [size_ct, ctl_len s ho])
  unfold loadCt execOp
  simp only [Sem.run_bind, this, Result.andThen_ok, Sem.run_pure]
  rfl
theorem loadAx_in {w : World} {g o : Nat} {a : AcM} {s : Value} (hr : w.rangeAt g o (axl a s)) (ho : a.Ok) : loadAx (.pointer (some ⟨g, o, none⟩)) w = .ok (.value (.agg (axc a s))) w := by
  have := run_loadAt_mid (P := Tryz.prog) w g o 31 (axl a s) _ hr under_ax rfl (by rw [size_ax, axl_length s ho])
  unfold loadAx execOp
  simp only [Sem.run_bind, this, Result.andThen_ok, Sem.run_pure]
  rfl
theorem loadK_in {w : World} {g o : Nat} {b : BkM} {s : Value} (hr : w.rangeAt g o (bkl b s)) (ho : b.par.length = 32) : loadK (.pointer (some ⟨g, o, none⟩)) w = .ok (.value (.agg (bkc b s))) w := by
  have := run_loadAt_mid (P := Tryz.prog) w g o 34 (bkl b s) _ hr under_bk rfl (by rw [size_bk, bkl_len s ho])
  unfold loadK execOp
  simp only [Sem.run_bind, this, Result.andThen_ok, Sem.run_pure]
  rfl
structure PartsM (w : World) (g : Nat) (m : MgM) (s1 s2 s3 : Value) : Prop where
  ki : w.cell? ⟨g, 0, none⟩ = some (.int .i64 m.ki)
  fr : w.cell? ⟨g, 1, none⟩ = some (.int .i64 m.fr)
  tu : w.cell? ⟨g, 2, none⟩ = some (.int .i64 m.tu)
  aa : loadAtt (.pointer (some ⟨g, 3, none⟩)) w = .ok (.value (.agg (atc m.aa))) w
  ak : w.cell? ⟨g, 4, none⟩ = some (.int .i64 m.aa.ki)
  cc : loadCt (.pointer (some ⟨g, 104, none⟩)) w = .ok (.value (.agg (ctc m.cc s1))) w
  ck : w.cell? ⟨g, 105, none⟩ = some (.int .i64 m.cc.att.ki)
  xx : loadAx (.pointer (some ⟨g, 206, none⟩)) w = .ok (.value (.agg (axc m.xx s2))) w
  kk : loadK (.pointer (some ⟨g, 274, none⟩)) w = .ok (.value (.agg (bkc m.kk s3))) w
  kv : w.cell? ⟨g, 306, none⟩ = some (.int .i64 m.kk.vi)
  hh : loadH (.pointer (some ⟨g, 310, none⟩)) w = .ok (.value (.agg (hcells m.hh))) w
  tt : loadTx (.pointer (some ⟨g, 342, none⟩)) w = .ok (.value (txv m.tt)) w
theorem BoxM.parts {w : World} {g : Nat} {m : MgM} {s1 s2 s3 : Value} (h : BoxM w g m s1 s2 s3) (ho : m.Ok) : PartsM w g m s1 s2 s3 :=
  ⟨h.ints.1, h.ints.2.1, h.ints.2.2, loadAtt_in h.aa ho.aa, h.aa 1 _ rfl, loadCt_in (h.cc ho) ho.cc.att, h.cc ho 1 _ rfl, loadAx_in (h.xx ho) ho.xx, loadK_in (h.kk ho) ho.kk,
    h.kk ho 32 _ (by unfold bkl; rw [List.getElem?_append_right (by rw [bcells_length, ho.kk]; omega), bcells_length, ho.kk]; rfl), loadH_mid (h.hh ho) ho.hh, loadTx_mid (h.tt ho)⟩
noncomputable def loadMg (v : Value) (w : World) : Result Next := Sem.run Tryz.prog (execOp (fun _ => v) { dst := none, op := .load 38 (.tmp 0), type := 0, pos := "", after := #[], guard := none }) w
theorem exec_load_mg (r : Operand → Value) (x : Operand) (dst : Option Tmp) (ty : TypeId) (pos : String) (after : Array Edge) (guard : Option (Nat × Bool)) (w : World) :
    Sem.run Tryz.prog (execOp r { dst := dst, op := .load 38 x, type := ty, pos := pos, after := after, guard := guard }) w = loadMg (r x) w := rfl
theorem under_mg : Tryz.prog.underlying 38 = some (.struct (Tryz.prog.fieldsOf 38)) := by kernel_rfl
theorem size_mg : (Tryz.prog.info? 38).map (·.size) = some 349 := by kernel_rfl
theorem loadMg_row {w : World} {g : Nat} {C : Array Value} {T : TypeId} (h : w.heap[g]? = some (.cells C T (0, 0))) (hs : C.size = 349) : loadMg (.pointer (some ⟨g, 0, none⟩)) w = .ok (.value (.agg C)) w := by
  have := run_loadAt_mid (P := Tryz.prog) w g 0 38 C.toList _ (fun j v hj => by rw [Nat.zero_add, cell_blk h j]; simpa using hj) under_mg rfl (by rw [size_mg]; simp [hs])
  simp only [Array.toArray_toList] at this
  unfold loadMg execOp
  simp only [Sem.run_bind, this, Result.andThen_ok, Sem.run_pure]
theorem mgc_one {w : World} {m : MgM} {s1 s2 s3 : Value} (h1 : Els scl 33 w s1 m.cc.sg) (h2 : Els icl 1 w s2 m.xx.fr) (h3 : Txs w s3 m.kk.txs) : (mgc m s1 s2 s3).all (·.oneCell') = true := by
  obtain ⟨A1, k1, rfl, _⟩ := h1
  obtain ⟨A2, k2, rfl, _⟩ := h2
  obtain ⟨A3, k3, rfl, _⟩ := h3
  unfold mgc
  refine all_oneCell_toArray ?_
  intro u hu
  unfold mgl ctl axl bkl tcl at hu
  simp only [List.mem_append, List.mem_cons, List.not_mem_nil, or_false] at hu
  rcases hu with ((rfl | rfl | rfl) | hu | (hu | rfl) | ((rfl | rfl | rfl) | hu | rfl | hu) | (hu | rfl | rfl | rfl | rfl) | hu | rfl | rfl | rfl | rfl | rfl | rfl | rfl)
  all_goals first | rfl | exact atl_one _ _ hu | exact bcells_one _ _ hu
theorem zero_mg : (Tryz.prog.info? 38).bind (·.zero) = some (.agg (mgc mgZ (.slice none 0 0) (.slice none 0 0) (.slice none 0 0))) := by kernel_rfl
theorem run_zero_mg (w : World) : (zeroValue 38).run Tryz.prog w = .ok (.agg (mgc mgZ (.slice none 0 0) (.slice none 0 0) (.slice none 0 0))) w := by
  have h := zero_mg
  cases hq : Tryz.prog.info? 38 with
  | none => rw [hq] at h; cases h
  | some i =>
    rw [hq] at h
    have hz : i.zero = some (.agg (mgc mgZ (.slice none 0 0) (.slice none 0 0) (.slice none 0 0))) := h
    simp [zeroValue, typeInfo, hq, hz]
noncomputable def buildMg (w : World) : Result Next := Sem.run Tryz.prog (execOp (fun _ => undef) { dst := none, op := .build 38 #[], type := 0, pos := "", after := #[], guard := none }) w
theorem exec_build_mg (r : Operand → Value) (dst : Option Tmp) (ty : TypeId) (pos : String) (after : Array Edge) (guard : Option (Nat × Bool)) (w : World) :
    Sem.run Tryz.prog (execOp r { dst := dst, op := .build 38 #[], type := ty, pos := pos, after := after, guard := guard }) w = buildMg w := by
  unfold buildMg execOp
  simp
theorem buildMg_eq (w : World) : buildMg w = .ok (.value (.agg (mgc mgZ (.slice none 0 0) (.slice none 0 0) (.slice none 0 0)))) w := by
  unfold buildMg
  go_simp
  rfl
noncomputable def buildMg3 (u v x : Value) (w : World) : Result Next := Sem.run Tryz.prog (execOp (fun y => match y with
  | .tmp 0 => u
  | .tmp 1 => v
  | _ => x) { dst := none, op := .build 38 #[(0, .tmp 0), (1, .tmp 1), (2, .tmp 2)], type := 0, pos := "", after := #[], guard := none }) w
theorem exec_build_mg3 (r : Operand → Value) (x0 x1 x2 : Operand) (dst : Option Tmp) (ty : TypeId) (pos : String) (after : Array Edge) (guard : Option (Nat × Bool)) (w : World) :
    Sem.run Tryz.prog (execOp r { dst := dst, op := .build 38 #[(0, x0), (1, x1), (2, x2)], type := ty, pos := pos, after := after, guard := guard }) w = buildMg3 (r x0) (r x1) (r x2) w := by
  unfold buildMg3 execOp
  simp
theorem buildMg3_eq (a b c : Int) (w : World) : buildMg3 (.int .i64 a) (.int .i64 b) (.int .i64 c) w = .ok (.value (.agg (mgc { mgZ with ki := a, fr := b, tu := c } (.slice none 0 0) (.slice none 0 0) (.slice none 0 0)))) w := by
  unfold buildMg3
  go_simp
  rfl
noncomputable def allocMg (w : World) : Result Next := Sem.run Tryz.prog (execOp (fun _ => undef) { dst := none, op := .alloc 38, type := 0, pos := "", after := #[], guard := none }) w
theorem exec_alloc_mg (r : Operand → Value) (dst : Option Tmp) (ty : TypeId) (pos : String) (after : Array Edge) (guard : Option (Nat × Bool)) (w : World) :
    Sem.run Tryz.prog (execOp r { dst := dst, op := .alloc 38, type := ty, pos := pos, after := after, guard := guard }) w = allocMg w := rfl
theorem allocMg_eq (w : World) : allocMg w = .ok (.value (.pointer (some ⟨w.heap.size, 0, none⟩))) (w.alloc (.cells (mgc mgZ (.slice none 0 0) (.slice none 0 0) (.slice none 0 0)) 38)) := by
  unfold allocMg execOp
  simp only [Sem.run_bind, Instr.alloc, run_zero_mg, newVar, newRow, run_newObj_alloc, Sem.run_pure, Result.andThen_ok, Value.cells]
noncomputable def storeMg (p v : Value) (w : World) : Result Next := Sem.run Tryz.prog (execOp (fun x => match x with
  | .tmp 0 => p
  | _ => v) { dst := none, op := .store 38 (.tmp 0) (.tmp 1), type := 0, pos := "", after := #[], guard := none }) w
theorem exec_store_mg (r : Operand → Value) (x y : Operand) (dst : Option Tmp) (ty : TypeId) (pos : String) (after : Array Edge) (guard : Option (Nat × Bool)) (w : World) :
    Sem.run Tryz.prog (execOp r { dst := dst, op := .store 38 x y, type := ty, pos := pos, after := after, guard := guard }) w = storeMg (r x) (r y) w := rfl
def setMg (w : World) (g : Nat) (C : Array Value) : World := w.setRow g C
theorem storeMg_eq {w : World} {g : Nat} {t : TypeId} {C0 C : Array Value} (hg : w.heap[g]? = some (.cells C0 t (0, 0))) (h0 : C0.size = 349) (hC : C.size = 349) (h1 : C.all (·.oneCell') = true) :
    storeMg (.pointer (some ⟨g, 0, none⟩)) (.agg C) w = .ok .skip (setMg w g C) := by
  have := run_storeVar_row (P := Tryz.prog) w g t 38 C0 C hg (by rw [size_mg, hC]) (by rw [h0, hC]) h1
  unfold storeMg execOp
  simp only [Instr.storeAt, Instr.sureAddr, Sem.run_bind, Sem.run_pure, Result.andThen_ok, this]
  rfl
theorem setMg_other (w : World) {g k : Nat} (C : Array Value) (hk : k ≠ g) : (setMg w g C).heap[k]? = w.heap[k]? := setRow_other w g k _ hk
theorem setMg_same {w : World} {g : Nat} {t : TypeId} {C0 C : Array Value} (hg : w.heap[g]? = some (.cells C0 t (0, 0))) : (setMg w g C).heap[g]? = some (.cells C t (0, 0)) := setRow_heap w g _ _ t _ hg
theorem setMg_size (w : World) (g : Nat) (C : Array Value) : (setMg w g C).heap.size = w.heap.size := by simp [setMg]
theorem setMg_below {B g : Nat} {a w : World} {C : Array Value} (hb : Below B a w) (hg : B ≤ g) : Below B a (setMg w g C) := below_setRow hb hg _
theorem setMg_self {w : World} {g : Nat} {t : TypeId} {C : Array Value} {fr : Nat × Nat} (hg : w.heap[g]? = some (.cells C t fr)) : setMg w g C = w := setAx_self hg
theorem setMg_alloc (w : World) (T : TypeId) (C0 C : Array Value) : setMg (w.alloc (.cells C0 T)) w.heap.size C = w.alloc (.cells C T) := setAx_alloc w T C0 C
theorem mg_var (w : World) {Z S : Array Value} (hZ : Z.size = 349) (hS : S.size = 349) (h1 : S.all (·.oneCell') = true) :
    storeMg (.pointer (some ⟨w.heap.size, 0, none⟩)) (.agg S) (w.alloc (.cells Z 38)) = .ok .skip (w.alloc (.cells S 38)) := by
  rw [storeMg_eq (heap_alloc_new w _) hZ hS h1, setMg_alloc]
theorem wpList_store_part {T : TypeId} {ops : Array Oper} {rest : List Oper} {o : Oper} {a : Act} {w : World} {Q : Exit → Act → World → Prop} (hgd : o.guard = none) (x y : Operand) (ho : o.op = .store T x y)
    {g k n : Nat} {t : TypeId} {C : Array Value} {pre old new post : List Value} (hx : a.eval x = .pointer (some ⟨g, k, none⟩)) (hy : a.eval y = .agg new.toArray) (hg : w.heap[g]? = some (.cells C t (0, 0))) (hC : C = (pre ++ (old ++ post)).toArray) (hk : k = pre.length) (hold : old.length = n) (hl : new.length = n)
    (hs : (Tryz.prog.info? T).map (·.size) = some n) (h1 : ∀ u ∈ new, u.oneCell' = true)
    (hh : ∀ w', w.grownBy w' (some g) → w'.heap[g]? = some (.cells (pre ++ (new ++ post)).toArray t (0, 0)) → w'.heap.size = w.heap.size → wpList Tryz.prog ops Q rest (a.put o.dst undef) w') : wpList Tryz.prog ops Q (o :: rest) a w := by
  subst hk hC
  refine wpList_store_mid hgd _ x y ho (b := g) (o := pre.length) (cells := new.toArray) hx hy (fun j hj => ⟨?_, free_blk hg _⟩) (by rw [hs, List.size_toArray, hl]) (all_oneCell_toArray h1) ?_
  · rw [List.size_toArray, hl] at hj
    rw [cell_blk hg, List.getElem?_toArray, List.getElem?_append_right (by omega), Nat.add_sub_cancel_left, List.getElem?_append_left (by omega), List.getElem?_eq_getElem (by omega)]
    rfl
  · refine hh _ (grown_setCells g _ _ _) ?_ (setCells_size g _ _ _)
    have := setCells_row new pre.length w _ hg
    rw [putAt_mid new pre old post (by rw [hl, hold])] at this
    exact this
end Go.Proofs.YtjemfmbmlmogcaaGreat
namespace Go.Proofs.YtjemfmbmlmogcaaGreat
set_option maxRecDepth 20000
open Go.RowKit
noncomputable def buildTx (w : World) : Result Next := Sem.run Tryz.prog (execOp (fun _ => undef) { dst := none, op := .build 36 #[], type := 0, pos := "", after := #[], guard := none }) w
theorem exec_build_tx (r : Operand → Value) (dst : Option Tmp) (ty : TypeId) (pos : String) (after : Array Edge) (guard : Option (Nat × Bool)) (w : World) :
    Sem.run Tryz.prog (execOp r { dst := dst, op := .build 36 #[], type := ty, pos := pos, after := after, guard := guard }) w = buildTx w := by
  unfold buildTx execOp
  simp
theorem buildTx_eq (w : World) : buildTx w = .ok (.value (.agg (tcl txZ).toArray)) w := by
  unfold buildTx
  go_simp
  rfl
theorem size_txs : (Tryz.prog.info? 36).map (·.size) = some 7 := by kernel_rfl
theorem ctl_one {w : World} {c : CtM} {s : Value} (h : Els scl 33 w s c.sg) : ∀ u ∈ ctl c s, u.oneCell' = true := by
  obtain ⟨A, k, rfl, _⟩ := h
  intro u hu
  unfold ctl at hu
  rcases List.mem_append.1 hu with hu | hu
  · exact atl_one _ u hu
  · obtain rfl := List.mem_singleton.1 hu
    rfl
theorem axl_one {w : World} {a : AcM} {s : Value} (h : Els icl 1 w s a.fr) : ∀ u ∈ axl a s, u.oneCell' = true := by
  obtain ⟨A, k, rfl, _⟩ := h
  intro u hu
  unfold axl at hu
  simp only [List.mem_append, List.mem_cons, List.not_mem_nil, or_false] at hu
  rcases hu with (rfl | rfl | rfl) | hu | rfl | hu
  all_goals first | rfl | exact bcells_one _ _ hu
theorem bkl_one {w : World} {b : BkM} {s : Value} (h : Txs w s b.txs) : ∀ u ∈ bkl b s, u.oneCell' = true := by
  obtain ⟨A, k, rfl, _⟩ := h
  intro u hu
  unfold bkl at hu
  simp only [List.mem_append, List.mem_cons, List.not_mem_nil, or_false] at hu
  rcases hu with hu | rfl | rfl | rfl | rfl
  all_goals first | rfl | exact bcells_one _ _ hu
section
variable {ops : Array Oper} {rest : List Oper} {o : Oper} {ac : Act} {w : World} {Q : Exit → Act → World → Prop} {g : Nat} {m : MgM} {s1 s2 s3 : Value}
theorem wpList_store_maa (hgd : o.guard = none) (x y : Operand) (hop : o.op = .store 25 x y) (n : AtM) (hn : n.Ok) (hx : ac.eval x = .pointer (some ⟨g, 3, none⟩)) (hy : ac.eval y = .agg (atc n)) (hg : BoxM w g m s1 s2 s3) (ho : m.Ok)
    (hh : ∀ w', w.grownBy w' (some g) → BoxM w' g { m with aa := n } s1 s2 s3 → w'.heap.size = w.heap.size → wpList Tryz.prog ops Q rest (ac.put o.dst undef) w') : wpList Tryz.prog ops Q (o :: rest) ac w := by
  refine wpList_store_part (n := 101) hgd x y hop hx hy hg (congrArg List.toArray (mgl_aa m s1 s2 s3)) rfl (atl_length ho.aa) (atl_length hn) size_att (atl_one n) (fun w' h1 h2 h3 => hh w' h1 ?_ h3)
  unfold BoxM mgc
  rw [mgl_aa]
  exact h2
theorem wpList_store_mcc (hgd : o.guard = none) (x y : Operand) (hop : o.op = .store 28 x y) (n : CtM) (t : Value) (hn : n.att.Ok) (h1 : ∀ u ∈ ctl n t, u.oneCell' = true) (hx : ac.eval x = .pointer (some ⟨g, 104, none⟩)) (hy : ac.eval y = .agg (ctc n t)) (hg : BoxM w g m s1 s2 s3) (ho : m.Ok)
    (hh : ∀ w', w.grownBy w' (some g) → BoxM w' g { m with cc := n } t s2 s3 → w'.heap.size = w.heap.size → wpList Tryz.prog ops Q rest (ac.put o.dst undef) w') : wpList Tryz.prog ops Q (o :: rest) ac w := by
  refine wpList_store_part (n := 102) hgd x y hop hx hy hg (congrArg List.toArray (mgl_cc m s1 s2 s3)) (by simp only [List.length_append, atl_length ho.aa, List.length_cons, List.length_nil]) (ctl_len s1 ho.cc.att) (ctl_len t hn) size_ct h1 (fun w' h1 h2 h3 => hh w' h1 ?_ h3)
  unfold BoxM mgc
  rw [mgl_cc]
  exact h2
theorem wpList_store_mxx (hgd : o.guard = none) (x y : Operand) (hop : o.op = .store 31 x y) (n : AcM) (t : Value) (hn : n.Ok) (h1 : ∀ u ∈ axl n t, u.oneCell' = true) (hx : ac.eval x = .pointer (some ⟨g, 206, none⟩)) (hy : ac.eval y = .agg (axc n t)) (hg : BoxM w g m s1 s2 s3) (ho : m.Ok)
    (hh : ∀ w', w.grownBy w' (some g) → BoxM w' g { m with xx := n } s1 t s3 → w'.heap.size = w.heap.size → wpList Tryz.prog ops Q rest (ac.put o.dst undef) w') : wpList Tryz.prog ops Q (o :: rest) ac w := by
  refine wpList_store_part (n := 68) hgd x y hop hx hy hg (congrArg List.toArray (mgl_xx m s1 s2 s3)) (by simp only [List.length_append, atl_length ho.aa, ctl_len s1 ho.cc.att, List.length_cons, List.length_nil]) (axl_length s2 ho.xx) (axl_length t hn) size_ax h1 (fun w' h1 h2 h3 => hh w' h1 ?_ h3)
  unfold BoxM mgc
  rw [mgl_xx]
  exact h2
theorem wpList_store_mkk (hgd : o.guard = none) (x y : Operand) (hop : o.op = .store 34 x y) (n : BkM) (t : Value) (hn : n.par.length = 32) (h1 : ∀ u ∈ bkl n t, u.oneCell' = true) (hx : ac.eval x = .pointer (some ⟨g, 274, none⟩)) (hy : ac.eval y = .agg (bkc n t)) (hg : BoxM w g m s1 s2 s3) (ho : m.Ok)
    (hh : ∀ w', w.grownBy w' (some g) → BoxM w' g { m with kk := n } s1 s2 t → w'.heap.size = w.heap.size → wpList Tryz.prog ops Q rest (ac.put o.dst undef) w') : wpList Tryz.prog ops Q (o :: rest) ac w := by
  refine wpList_store_part (n := 36) hgd x y hop hx hy hg (congrArg List.toArray (mgl_kk m s1 s2 s3)) (by simp only [List.length_append, atl_length ho.aa, ctl_len s1 ho.cc.att, axl_length s2 ho.xx, List.length_cons, List.length_nil]) (bkl_len s3 ho.kk) (bkl_len t hn) size_bk h1 (fun w' h1 h2 h3 => hh w' h1 ?_ h3)
  unfold BoxM mgc
  rw [mgl_kk]
  exact h2
theorem wpList_store_mhh (hgd : o.guard = none) (x y : Operand) (hop : o.op = .store 23 x y) (n : List UInt8) (hn : n.length = 32) (hx : ac.eval x = .pointer (some ⟨g, 310, none⟩)) (hy : ac.eval y = .agg (hcells n)) (hg : BoxM w g m s1 s2 s3) (ho : m.Ok)
    (hh : ∀ w', w.grownBy w' (some g) → BoxM w' g { m with hh := n } s1 s2 s3 → w'.heap.size = w.heap.size → wpList Tryz.prog ops Q rest (ac.put o.dst undef) w') : wpList Tryz.prog ops Q (o :: rest) ac w := by
  refine wpList_store_part (n := 32) hgd x y hop hx hy hg (congrArg List.toArray (mgl_hh m s1 s2 s3)) (by simp only [List.length_append, atl_length ho.aa, ctl_len s1 ho.cc.att, axl_length s2 ho.xx, bkl_len s3 ho.kk, List.length_cons, List.length_nil]) (by rw [bcells_length, ho.hh]) (by rw [bcells_length, hn]) size_hash (bcells_one n) (fun w' h1 h2 h3 => hh w' h1 ?_ h3)
  unfold BoxM mgc
  rw [mgl_hh]
  exact h2
theorem wpList_store_mtt (hgd : o.guard = none) (x y : Operand) (hop : o.op = .store 36 x y) (n : TxM) (hx : ac.eval x = .pointer (some ⟨g, 342, none⟩)) (hy : ac.eval y = .agg ((tcl n).toArray)) (hg : BoxM w g m s1 s2 s3) (ho : m.Ok)
    (hh : ∀ w', w.grownBy w' (some g) → BoxM w' g { m with tt := n } s1 s2 s3 → w'.heap.size = w.heap.size → wpList Tryz.prog ops Q rest (ac.put o.dst undef) w') : wpList Tryz.prog ops Q (o :: rest) ac w := by
  refine wpList_store_part (n := 7) hgd x y hop hx hy hg (congrArg List.toArray (mgl_tt m s1 s2 s3)) (by simp only [List.length_append, atl_length ho.aa, ctl_len s1 ho.cc.att, axl_length s2 ho.xx, bkl_len s3 ho.kk, bcells_length, ho.hh, List.length_cons, List.length_nil]) (tcl_length _) (tcl_length _) size_txs (tcl_one n) (fun w' h1 h2 h3 => hh w' h1 ?_ h3)
  unfold BoxM mgc
  rw [mgl_tt]
  exact h2
end
theorem kind_aa {m : MgM} (h : isA m.ki) : kindM m = (mayA m.aa && decide (m.aa.ki = (m.ki + 1) / 2)) ∧ clearM m = { m with aa := atZ } := by
  unfold kindM clearM
  exact ⟨by rw [if_pos h], by rw [if_pos h]⟩
theorem kind_ka {m : MgM} (h : m.ki = 2) : kindM m = (mayK m.kk && (decide (0 < m.kk.vi) && mayX m.xx)) ∧ clearM m = { m with kk := bkZ, xx := acZ } := by
  unfold kindM clearM
  exact ⟨by rw [if_neg (by unfold isA; omega), if_pos h], by rw [if_neg (by unfold isA; omega), if_pos h]⟩
theorem kind_cc {m : MgM} (h : isC m.ki) : kindM m = (mayC m.cc && decide (m.cc.att.ki = m.ki / 2)) ∧ clearM m = { m with cc := ctZ } := by
  unfold kindM clearM
  exact ⟨by rw [if_neg (by unfold isC at h; unfold isA; omega), if_neg (by unfold isC at h; omega), if_pos h], by rw [if_neg (by unfold isC at h; unfold isA; omega), if_neg (by unfold isC at h; omega), if_pos h]⟩
theorem kind_hh {m : MgM} (h : m.ki = 7) : kindM m = (true) ∧ clearM m = { m with hh := z32 } := by
  unfold kindM clearM
  exact ⟨by rw [if_neg (by unfold isA; omega), if_neg (by omega), if_neg (by unfold isC; omega), if_pos h], by rw [if_neg (by unfold isA; omega), if_neg (by omega), if_neg (by unfold isC; omega), if_pos h]⟩
theorem kind_kk {m : MgM} (h : m.ki = 8) : kindM m = (mayK m.kk && decide (0 < m.kk.vi)) ∧ clearM m = { m with kk := bkZ } := by
  unfold kindM clearM
  exact ⟨by rw [if_neg (by unfold isA; omega), if_neg (by omega), if_neg (by unfold isC; omega), if_neg (by omega), if_pos h], by rw [if_neg (by unfold isA; omega), if_neg (by omega), if_neg (by unfold isC; omega), if_neg (by omega), if_pos h]⟩
theorem kind_tt {m : MgM} (h : m.ki = 9) : kindM m = (mayT m.tt) ∧ clearM m = { m with tt := txZ } := by
  unfold kindM clearM
  exact ⟨by rw [if_neg (by unfold isA; omega), if_neg (by omega), if_neg (by unfold isC; omega), if_neg (by omega), if_neg (by omega), if_pos h], by rw [if_neg (by unfold isA; omega), if_neg (by omega), if_neg (by unfold isC; omega), if_neg (by omega), if_neg (by omega), if_pos h]⟩
theorem kind_xx {m : MgM} (h : m.ki = 10) : kindM m = (mayX m.xx) ∧ clearM m = { m with xx := acZ } := by
  unfold kindM clearM
  exact ⟨by rw [if_neg (by unfold isA; omega), if_neg (by omega), if_neg (by unfold isC; omega), if_neg (by omega), if_neg (by omega), if_neg (by omega), if_pos h], by rw [if_neg (by unfold isA; omega), if_neg (by omega), if_neg (by unfold isC; omega), if_neg (by omega), if_neg (by omega), if_neg (by omega), if_pos h]⟩
theorem kind_no {m : MgM} (h : m.ki < 1 ∨ 10 < m.ki) : kindM m = false ∧ clearM m = m := by
  have e1 : ¬ isA m.ki := by unfold isA; omega
  have e2 : ¬ isC m.ki := by unfold isC; omega
  unfold kindM clearM
  exact ⟨by rw [if_neg e1, if_neg (by omega), if_neg e2, if_neg (by omega), if_neg (by omega), if_neg (by omega), if_neg (by omega)], by rw [if_neg e1, if_neg (by omega), if_neg e2, if_neg (by omega), if_neg (by omega), if_neg (by omega), if_neg (by omega)]⟩
theorem bytesM_len {m : MgM} (ho : m.Ok) (hm : mayM m = true) : (bytesM m).length ≤ 1000000 := by
  obtain ⟨⟨f1, f2, f3, f4, _⟩, hh⟩ := mayM_has hm
  obtain ⟨g1, g2⟩ := hh.ki
  have e1 := dg_len10 (n := m.ki.toNat) (by omega)
  have e2 := dg_len10 (n := m.fr.toNat) (by omega)
  have e3 := dg_len10 (n := m.tu.toNat) (by omega)
  have hb : (bodyM m).length ≤ 10000 := by
    unfold bodyM
    cases hh with
    | aa h h1 _ _ => rw [if_pos h]; have := bytesA_len ho.aa h1; omega
    | ka h h1 _ h3 _ =>
      rw [if_neg (by unfold isA; omega), if_neg (by unfold isC; omega), if_neg (by omega), if_neg (by omega), if_neg (by omega), if_pos h, List.length_append, tx_len]
      have := bytesK_len ho.kk h1
      have := bytesX_len ho.xx h3
      have := dg_len10 (n := (bytesK m.kk).length) (by omega)
      omega
    | cc h h1 _ _ => rw [if_neg (by unfold isC at h; unfold isA; omega), if_pos h]; have := bytesC_len ho.cc h1; omega
    | hh h _ => rw [if_neg (by unfold isA; omega), if_neg (by unfold isC; omega), if_pos h, ho.hh]; omega
    | kk h h1 _ _ =>
      rw [if_neg (by unfold isA; omega), if_neg (by unfold isC; omega), if_neg (by omega), if_neg (by omega), if_neg (by omega), if_neg (by omega), List.append_nil, tx_len]
      have := bytesK_len ho.kk h1
      have := dg_len10 (n := (bytesK m.kk).length) (by omega)
      omega
    | tt h h1 _ => rw [if_neg (by unfold isA; omega), if_neg (by unfold isC; omega), if_neg (by omega), if_pos h]; have := bytesT_len h1; omega
    | xx h h1 _ => rw [if_neg (by unfold isA; omega), if_neg (by unfold isC; omega), if_neg (by omega), if_neg (by omega), if_pos h]; have := bytesX_len ho.xx h1; omega
  unfold bytesM
  simp only [List.length_append]
  omega
theorem bareM_ok (m : MgM) : (bareM m).Ok := ⟨⟨rfl, rfl, rfl⟩, ctZ_ok, acZ_ok, rfl, rfl⟩
theorem clearM_ok {m : MgM} (h : m.Ok) : (clearM m).Ok := by
  unfold clearM
  repeat' split
  all_goals first | exact h | exact ⟨⟨rfl, rfl, rfl⟩, h.cc, h.xx, h.kk, h.hh⟩ | exact ⟨h.aa, h.cc, acZ_ok, rfl, h.hh⟩ | exact ⟨h.aa, ctZ_ok, h.xx, h.kk, h.hh⟩ | exact ⟨h.aa, h.cc, h.xx, h.kk, rfl⟩ | exact ⟨h.aa, h.cc, h.xx, rfl, h.hh⟩ | exact ⟨h.aa, h.cc, acZ_ok, h.kk, h.hh⟩ | exact ⟨h.aa, h.cc, h.xx, h.kk, h.hh⟩
end Go.Proofs.YtjemfmbmlmogcaaGreat
namespace Go.Proofs.YtjemfmbmlmogcaaGreat
set_option maxRecDepth 20000
open Go.RowKit
attribute [local go_sem ↓] exec_load_bk exec_load_tx
structure LimM (m : MgM) : Prop where
  sg : m.cc.sg.length ≤ 1000
  fr : m.xx.fr.length ≤ 1000
  txs : m.kk.txs.length ≤ 1000
  kk : lightK m.kk
  tt : m.tt.key.length ≤ 1000000 ∧ m.tt.val.length ≤ 1000000
def MgCheckOk : Prop := ∀ (v : Value) (m : MgM) (w : World), MgV w v m → LimM m → Calls Tryz.prog 9 #[v] w fun e w' => e = .returned (.int .i64 (if mayM m = true then 0 else 1)) ∧ Below w.heap.size w w'
def MgPutOk : Prop := ∀ (v : Value) (m : MgM) (w : World), MgV w v m → LimM m →
  Calls Tryz.prog 7 #[v] w fun e w' => ∃ x, e = .returned (.tuple #[x, .int .i64 (if mayM m = true then 0 else 1)]) ∧ Byt w' x (if mayM m = true then bytesM m else []) ∧ Below w.heap.size w w'
def MgGetOk : Prop := ∀ (v : Value) (l : List UInt8) (w : World), Byt w v l → l.length ≤ 1000000 →
  Calls Tryz.prog 12 #[v] w fun e w' => ∃ x, e = .returned (.tuple #[x, .int .i64 (if mgIs l = true then 0 else 2)]) ∧ MgV w' x (mgOf l) ∧ Below w.heap.size w w'
def MgSameOk : Prop := ∀ (va vb : Value) (a b : MgM) (w : World), MgV w va a → MgV w vb b → LimM a → LimM b → Calls Tryz.prog 10 #[va, vb] w fun e w' => e = .returned (.bool (sameM a b)) ∧ Below w.heap.size w w'
end Go.Proofs.YtjemfmbmlmogcaaGreat
namespace Go.Proofs.YtjemfmbmlmogcaaGreat
set_option maxRecDepth 20000
open Go.RowKit
attribute [local go_sem ↓] exec_load_att exec_load_ct exec_load_ax exec_load_bk exec_load_tx exec_load_hash exec_eq_att
set_option maxHeartbeats 6400000 in
theorem refSame11_any (va vb : Value) (a b : MgM) (w : World) (hva : MgV w va a) (hvb : MgV w vb b) :
    Calls Tryz.prog 11 #[va, vb] w fun e w' => e = .returned (.bool (sameM a b)) ∧ Below w.heap.size w w' := by
  obtain ⟨a1, a2, a3, rfl, hoa, ea1, ea2, ea3⟩ := hva
  obtain ⟨b1, b2, b3, rfl, hob, eb1, eb2, eb3⟩ := hvb
  have hb0 : Below w.heap.size w ((w.alloc (.cells (mgc a a1 a2 a3) 38)).alloc (.cells (mgc b b1 b2 b3) 38)) := ((Below.refl _ _).alloc (Nat.le_refl _) _).alloc (by simp) _
  have hA : BoxM ((w.alloc (.cells (mgc a a1 a2 a3) 38)).alloc (.cells (mgc b b1 b2 b3) 38)) w.heap.size a a1 a2 a3 := heap1 w _ _
  have hB : BoxM ((w.alloc (.cells (mgc a a1 a2 a3) 38)).alloc (.cells (mgc b b1 b2 b3) 38)) (w.heap.size + 1) b b1 b2 b3 := heap2 w _ _
  have HPW := hid (fun W (h : Below w.heap.size w W) => (show (CtV W (.agg (ctc a.cc a1)) a.cc ∧ CtV W (.agg (ctc b.cc b1)) b.cc) ∧ (AcV W (.agg (axc a.xx a2)) a.xx ∧ AcV W (.agg (axc b.xx b2)) b.xx) ∧ (BkV W (.agg (bkc a.kk a3)) a.kk ∧ BkV W (.agg (bkc b.kk b3)) b.kk) from
    ⟨⟨⟨_, rfl, hoa.cc, ea1.below h⟩, ⟨_, rfl, hob.cc, eb1.below h⟩⟩, ⟨⟨_, rfl, hoa.xx, ea2.below h⟩, ⟨_, rfl, hob.xx, eb2.below h⟩⟩, ⟨⟨_, rfl, hoa.kk, ea3.below h⟩, ⟨_, rfl, hob.kk, eb3.below h⟩⟩⟩))
  obtain ⟨ans, HAN⟩ : ∃ q : Bool, Hid (sameM a b = q) := ⟨_, hid rfl⟩
  have heq := fun W => eq_att a.aa b.aa hoa.aa hob.aa W
  have heh := fun W => eq_hash a.hh b.hh hoa.hh hob.hh W
  have het := fun W => eq_tx2 a.tt b.tt W
  have HS9 := hid (fun W (h : Below w.heap.size w W) => refSame9_any _ _ a.cc b.cc W (HPW.out W h).1.1 (HPW.out W h).1.2)
  have HS10 := hid (fun W (h : Below w.heap.size w W) => refSame10_any _ _ a.xx b.xx W (HPW.out W h).2.1.1 (HPW.out W h).2.1.2)
  have HS7 := hid (fun W (h : Below w.heap.size w W) => refSame7_any _ _ a.kk b.kk W (HPW.out W h).2.2.1 (HPW.out W h).2.2.2)
  obtain ⟨q3, HQ3⟩ : ∃ q : Bool, Hid (decide (a.aa = b.aa) = q) := ⟨_, hid rfl⟩
  obtain ⟨q4, HQ4⟩ : ∃ q : Bool, Hid (decide (a.cc = b.cc) = q) := ⟨_, hid rfl⟩
  obtain ⟨q5, HQ5⟩ : ∃ q : Bool, Hid (decide (a.xx = b.xx) = q) := ⟨_, hid rfl⟩
  obtain ⟨q6, HQ6⟩ : ∃ q : Bool, Hid (sameK a.kk b.kk = q) := ⟨_, hid rfl⟩
  obtain ⟨q7, HQ7⟩ : ∃ q : Bool, Hid (decide (a.hh = b.hh) = q) := ⟨_, hid rfl⟩
  obtain ⟨q8, HQ8⟩ : ∃ q : Bool, Hid (decide (a.tt = b.tt) = q) := ⟨_, hid rfl⟩
  have HANS : Hid (ans = (decide (a.ki = b.ki) && (decide (a.fr = b.fr) && (decide (a.tu = b.tu) && (q3 && (q4 && (q5 && (q6 && (q7 && q8))))))))) := hid (by
    rw [← HAN.out, ← HQ3.out, ← HQ4.out, ← HQ5.out, ← HQ6.out, ← HQ7.out, ← HQ8.out]
    rfl)
  rw [HAN.out]
  rw [HQ3.out] at heq
  rw [HQ7.out] at heh
  rw [HQ8.out] at het
  rw [HQ4.out] at HS9
  rw [HQ5.out] at HS10
  rw [HQ6.out] at HS7
  go_enter Tryz.func11, Tryz.ntmps11
  go_upto_region 1 with (fail)
  generalize ((w.alloc (.cells (mgc a a1 a2 a3) 38)).alloc (.cells (mgc b b1 b2 b3) 38)) = w0 at *
  have HP := hid (fun W (h : Below w0.heap.size w0 W) => (show PartsM W w.heap.size a a1 a2 a3 ∧ PartsM W (w.heap.size + 1) b b1 b2 b3 from ⟨(hA.keep h).parts hoa, (hB.keep h).parts hob⟩))
  clear hA hB hoa hob ea1 ea2 ea3 eb1 eb2 eb3 HPW
  have HB0 := hid hb0
  clear hb0
  obtain ⟨A3, HA3⟩ : ∃ C : Array Value, Hid (atc a.aa = C) := ⟨_, hid rfl⟩
  obtain ⟨B3, HB3⟩ : ∃ C : Array Value, Hid (atc b.aa = C) := ⟨_, hid rfl⟩
  obtain ⟨A4, HA4⟩ : ∃ C : Array Value, Hid (ctc a.cc a1 = C) := ⟨_, hid rfl⟩
  obtain ⟨B4, HB4⟩ : ∃ C : Array Value, Hid (ctc b.cc b1 = C) := ⟨_, hid rfl⟩
  obtain ⟨A5, HA5⟩ : ∃ C : Array Value, Hid (axc a.xx a2 = C) := ⟨_, hid rfl⟩
  obtain ⟨B5, HB5⟩ : ∃ C : Array Value, Hid (axc b.xx b2 = C) := ⟨_, hid rfl⟩
  obtain ⟨A6, HA6⟩ : ∃ C : Array Value, Hid (bkc a.kk a3 = C) := ⟨_, hid rfl⟩
  obtain ⟨B6, HB6⟩ : ∃ C : Array Value, Hid (bkc b.kk b3 = C) := ⟨_, hid rfl⟩
  obtain ⟨A7, HA7⟩ : ∃ C : Array Value, Hid (hcells a.hh = C) := ⟨_, hid rfl⟩
  obtain ⟨B7, HB7⟩ : ∃ C : Array Value, Hid (hcells b.hh = C) := ⟨_, hid rfl⟩
  obtain ⟨A8, HA8⟩ : ∃ C : Array Value, Hid ((tcl a.tt).toArray = C) := ⟨_, hid rfl⟩
  obtain ⟨B8, HB8⟩ : ∃ C : Array Value, Hid ((tcl b.tt).toArray = C) := ⟨_, hid rfl⟩
  rw [HA3.out, HB3.out] at heq
  rw [HA4.out, HB4.out] at HS9
  rw [HA5.out, HB5.out] at HS10
  rw [HA6.out, HB6.out] at HS7
  rw [HA7.out, HB7.out] at heh
  rw [txv_tcl, txv_tcl, HA8.out, HB8.out] at het
  have HEQ := hid (fun W => eqAtt_eq heq W)
  have HEH := hid heh
  have HET := hid het
  clear heq heh het
  obtain ⟨x0, HX0⟩ : ∃ n : Int, Hid (a.ki = n) := ⟨_, hid rfl⟩
  obtain ⟨y0, HY0⟩ : ∃ n : Int, Hid (b.ki = n) := ⟨_, hid rfl⟩
  obtain ⟨x1, HX1⟩ : ∃ n : Int, Hid (a.fr = n) := ⟨_, hid rfl⟩
  obtain ⟨y1, HY1⟩ : ∃ n : Int, Hid (b.fr = n) := ⟨_, hid rfl⟩
  obtain ⟨x2, HX2⟩ : ∃ n : Int, Hid (a.tu = n) := ⟨_, hid rfl⟩
  obtain ⟨y2, HY2⟩ : ∃ n : Int, Hid (b.tu = n) := ⟨_, hid rfl⟩
  rw [HX0.out, HX1.out, HX2.out, HY0.out, HY1.out, HY2.out] at HANS
  have aki := (HP.out w0 (Below.refl _ _)).1.ki
  have bki := (HP.out w0 (Below.refl _ _)).2.ki
  rw [HX0.out] at aki
  rw [HY0.out] at bki
  have afr := (HP.out w0 (Below.refl _ _)).1.fr
  have bfr := (HP.out w0 (Below.refl _ _)).2.fr
  rw [HX1.out] at afr
  rw [HY1.out] at bfr
  have atu := (HP.out w0 (Below.refl _ _)).1.tu
  have btu := (HP.out w0 (Below.refl _ _)).2.tu
  rw [HX2.out] at atu
  rw [HY2.out] at btu
  by_cases e0 : x0 = y0
  case neg =>
    have t : (x0 == y0) = false := by simpa using e0
    obtain rfl : ans = false := by rw [HANS.out, decide_eq_false e0]; simp
    clear e0
    go_wp2_with fail
    go_ret
    exact ⟨rfl, HB0.out⟩
  have t0 : (x0 == y0) = true := by simpa using e0
  have HE0 := hid e0
  clear e0
  by_cases e1 : x1 = y1
  case neg =>
    have t : (x1 == y1) = false := by simpa using e1
    obtain rfl : ans = false := by rw [HANS.out, decide_eq_false e1]; simp
    clear e1
    go_wp2_with fail
    go_ret
    exact ⟨rfl, HB0.out⟩
  have t1 : (x1 == y1) = true := by simpa using e1
  have HE1 := hid e1
  clear e1
  by_cases e2 : x2 = y2
  case neg =>
    have t : (x2 == y2) = false := by simpa using e2
    obtain rfl : ans = false := by rw [HANS.out, decide_eq_false e2]; simp
    clear e2
    go_wp2_with fail
    go_ret
    exact ⟨rfl, HB0.out⟩
  have t2 : (x2 == y2) = true := by simpa using e2
  have HE2 := hid e2
  clear e2
  have HANS2 : Hid (ans = (q3 && (q4 && (q5 && (q6 && (q7 && q8)))))) := hid (by rw [HANS.out, decide_eq_true HE0.out, decide_eq_true HE1.out, decide_eq_true HE2.out]; rfl)
  have la := (HP.out w0 (Below.refl _ _)).1.aa
  have lb := (HP.out w0 (Below.refl _ _)).2.aa
  rw [HA3.out] at la
  rw [HB3.out] at lb
  have le := HEQ.out w0
  cases q3 with
  | false =>
    obtain rfl : ans = false := HANS2.out
    go_wp2_with fail
    go_ret
    exact ⟨rfl, HB0.out⟩
  | true =>
    have lA4 := (HP.out w0 (Below.refl _ _)).1.cc
    have lB4 := (HP.out w0 (Below.refl _ _)).2.cc
    rw [HA4.out] at lA4
    rw [HB4.out] at lB4
    go_wp2_with fail
    refine (HS9.out w0 HB0.out).mono ?_
    rintro e w1 ⟨rfl, hb1⟩
    have HB1 := hid (HB0.out.trans (hb1.mono HB0.out.size))
    have HB10 := hid hb1
    clear hb1 la lb le lA4 lB4 aki afr atu bki bfr btu t0 t1 t2
    cases q4 with
    | false =>
      obtain rfl : ans = false := HANS2.out
      go_wp2_with fail
      go_ret
      exact ⟨rfl, HB1.out⟩
    | true =>
      have lA5 := (HP.out w1 HB10.out).1.xx
      have lB5 := (HP.out w1 HB10.out).2.xx
      rw [HA5.out] at lA5
      rw [HB5.out] at lB5
      go_wp2_with fail
      refine (HS10.out w1 HB1.out).mono ?_
      rintro e w2 ⟨rfl, hb2⟩
      have HB2 := hid (HB1.out.trans (hb2.mono HB1.out.size))
      have HB20 := hid (HB10.out.trans (hb2.mono HB10.out.size))
      clear hb2 lA5 lB5
      cases q5 with
      | false =>
        obtain rfl : ans = false := HANS2.out
        go_wp2_with fail
        go_ret
        exact ⟨rfl, HB2.out⟩
      | true =>
        have lA6 := (HP.out w2 HB20.out).1.kk
        have lB6 := (HP.out w2 HB20.out).2.kk
        rw [HA6.out] at lA6
        rw [HB6.out] at lB6
        go_wp2_with fail
        refine (HS7.out w2 HB2.out).mono ?_
        rintro e w3 ⟨rfl, hb3⟩
        have HB3 := hid (HB2.out.trans (hb3.mono HB2.out.size))
        have HB30 := hid (HB20.out.trans (hb3.mono HB20.out.size))
        clear hb3 lA6 lB6
        cases q6 with
        | false =>
          obtain rfl : ans = false := HANS2.out
          go_wp2_with fail
          go_ret
          exact ⟨rfl, HB3.out⟩
        | true =>
          have lA7 := (HP.out w3 HB30.out).1.hh
          have lB7 := (HP.out w3 HB30.out).2.hh
          rw [HA7.out] at lA7
          rw [HB7.out] at lB7
          have heh := HEH.out
          cases q7 with
          | false =>
            obtain rfl : ans = false := HANS2.out
            go_wp2_with fail
            go_ret
            exact ⟨rfl, HB3.out⟩
          | true =>
            have lA8 := (HP.out w3 HB30.out).1.tt
            have lB8 := (HP.out w3 HB30.out).2.tt
            rw [txv_tcl, HA8.out] at lA8
            rw [txv_tcl, HB8.out] at lB8
            have het := HET.out
            obtain rfl : ans = q8 := HANS2.out
            go_wp2_with fail
            go_ret
            exact ⟨rfl, HB3.out⟩
end Go.Proofs.YtjemfmbmlmogcaaGreat
