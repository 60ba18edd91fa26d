/-
  A gatherer as the document has it: its two cells, loads and stores of a whole one; '!=' of attestations; parts of filtered lists.
-/
import Derived.Test.YtpnejoglkmfleaaGreatDoorGaNeed
import Derived.Test.YtpnejoglkmfleaaGreatDoorGaPure
namespace Go.Proofs.YtpnejoglkmfleaaGreatDoor
set_option maxRecDepth 20000
open Go.RowKit
noncomputable def neAtt (u v : Value) (w : World) : Result Next := Sem.run Tryz.prog (execOp (fun x => match x with
  | .tmp 0 => u
  | _ => v) { dst := none, op := .binOp .neq 36 (.tmp 0) (.tmp 1) 36, type := 0, pos := "", after := #[], guard := none }) w
theorem exec_ne_att (r : Operand → Value) (i j : Tmp) (dst : Option Tmp) (ty : TypeId) (pos : String) (after : Array Edge) (guard : Option (Nat × Bool)) (w : World) :
    Sem.run Tryz.prog (execOp r { dst := dst, op := .binOp .neq 36 (.tmp i) (.tmp j) 36, type := ty, pos := pos, after := after, guard := guard }) w = neAtt (r (.tmp i)) (r (.tmp j)) w := rfl
theorem neAtt_eq (a b : AtM) (ho : a.Ok) (hp : b.Ok) (w : World) : neAtt (.agg (atc a)) (.agg (atc b)) w = .ok (.value (.bool (!decide (a = b)))) w := by
  have heq := fun W => eq_att a b ho hp W
  obtain ⟨q, HQ⟩ : ∃ q : Bool, Hid (decide (a = b) = q) := ⟨_, hid rfl⟩
  obtain ⟨C, HC⟩ : ∃ C : Array Value, Hid (atc a = C) := ⟨_, hid rfl⟩
  obtain ⟨D, HD⟩ : ∃ C : Array Value, Hid (atc b = C) := ⟨_, hid rfl⟩
  rw [HQ.out, HC.out, HD.out] at heq
  rw [HQ.out, HC.out, HD.out]
  unfold neAtt
  go_simp
theorem under_gv : Tryz.prog.underlying 30 = some (.struct (Tryz.prog.fieldsOf 30)) := by kernel_rfl
theorem size_gv : (Tryz.prog.info? 30).map (·.size) = some 2 := by kernel_rfl
noncomputable def loadGv (v : Value) (w : World) : Result Next := Sem.run Tryz.prog (execOp (fun _ => v) { dst := none, op := .load 30 (.tmp 0), type := 0, pos := "", after := #[], guard := none }) w
theorem exec_load_gv (r : Operand → Value) (x : Operand) (dst : Option Tmp) (ty : TypeId) (pos : String) (after : Array Edge) (guard : Option (Nat × Bool)) (w : World) :
    Sem.run Tryz.prog (execOp r { dst := dst, op := .load 30 x, type := ty, pos := pos, after := after, guard := guard }) w = loadGv (r x) w := rfl
theorem loadGv_row {w : World} {g : Nat} {C : Array Value} {T : TypeId} (h : w.heap[g]? = some (.cells C T (0, 0))) (hs : C.size = 2) : loadGv (.pointer (some ⟨g, 0, none⟩)) w = .ok (.value (.agg C)) w := by
  have := run_loadAt_mid (P := Tryz.prog) w g 0 30 C.toList _ (fun j v hj => by rw [Nat.zero_add, cell_blk h j]; simpa using hj) under_gv rfl (by rw [size_gv]; simp [hs])
  simp only [Array.toArray_toList] at this
  unfold loadGv execOp
  simp only [Sem.run_bind, this, Result.andThen_ok, Sem.run_pure]
def gvZ : Array Value := #[.int .i64 0, .slice none 0 0]
theorem zero_gv : (Tryz.prog.info? 30).bind (·.zero) = some (.agg gvZ) := by kernel_rfl
theorem run_zero_gv (w : World) : (zeroValue 30).run Tryz.prog w = .ok (.agg gvZ) w := by
  have h := zero_gv
  cases hq : Tryz.prog.info? 30 with
  | none => rw [hq] at h; cases h
  | some i =>
    rw [hq] at h
    have hz : i.zero = some (.agg gvZ) := h
    simp [zeroValue, typeInfo, hq, hz]
noncomputable def allocGv (w : World) : Result Next := Sem.run Tryz.prog (execOp (fun _ => undef) { dst := none, op := .alloc 30, type := 0, pos := "", after := #[], guard := none }) w
theorem exec_alloc_gv (r : Operand → Value) (dst : Option Tmp) (ty : TypeId) (pos : String) (after : Array Edge) (guard : Option (Nat × Bool)) (w : World) :
    Sem.run Tryz.prog (execOp r { dst := dst, op := .alloc 30, type := ty, pos := pos, after := after, guard := guard }) w = allocGv w := rfl
theorem allocGv_eq (w : World) : allocGv w = .ok (.value (.pointer (some ⟨w.heap.size, 0, none⟩))) (w.alloc (.cells gvZ 30)) := by
  unfold allocGv execOp
  simp only [Sem.run_bind, Instr.alloc, run_zero_gv, newVar, newRow, run_newObj_alloc, Sem.run_pure, Result.andThen_ok, Value.cells]
noncomputable def storeGv (p v : Value) (w : World) : Result Next := Sem.run Tryz.prog (execOp (fun x => match x with
  | .tmp 0 => p
  | _ => v) { dst := none, op := .store 30 (.tmp 0) (.tmp 1), type := 0, pos := "", after := #[], guard := none }) w
theorem exec_store_gv (r : Operand → Value) (x y : Operand) (dst : Option Tmp) (ty : TypeId) (pos : String) (after : Array Edge) (guard : Option (Nat × Bool)) (w : World) :
    Sem.run Tryz.prog (execOp r { dst := dst, op := .store 30 x y, type := ty, pos := pos, after := after, guard := guard }) w = storeGv (r x) (r y) w := rfl
theorem storeGv_eq {w : World} {g : Nat} {t : TypeId} {C0 C : Array Value} (hg : w.heap[g]? = some (.cells C0 t (0, 0))) (h0 : C0.size = 2) (hC : C.size = 2) (h1 : C.all (·.oneCell') = true) :
    storeGv (.pointer (some ⟨g, 0, none⟩)) (.agg C) w = .ok .skip (setAtt w g C) := by
  have := run_storeVar_row (P := Tryz.prog) w g t 30 C0 C hg (by rw [size_gv, hC]) (by rw [h0, hC]) h1
  unfold storeGv execOp
  simp only [Instr.storeAt, Instr.sureAddr, Sem.run_bind, Sem.run_pure, Result.andThen_ok, this]
  rfl
theorem gv_one (n : Int) (A : Option Addr) (m c : Nat) : (#[.int .i64 n, .slice A m c] : Array Value).all (·.oneCell') = true :=
  all_oneCell_toArray (cs := [_, _]) (fun u hu => by
    simp only [List.mem_cons, List.not_mem_nil, or_false] at hu
    rcases hu with rfl | rfl <;> rfl)
theorem results_gv1 {fn : Func} {q : Tmp} (h : fn.results = #[.cell q 30]) (tmps : Array Value) (w : World) (g2 : Nat) (t2 : TypeId) (ys : Array Value)
    (hq : tmps.getD q undef = .pointer (some ⟨g2, 0, none⟩)) (h2 : w.heap[g2]? = some (.cells ys t2 (0, 0))) (hy : ys.size = 2) :
    (results fn tmps).run Tryz.prog w = .ok (.agg ys) w := by
  have hq' : tmps[q]?.getD undef = .pointer (some ⟨g2, 0, none⟩) := by simpa using hq
  have r2 := run_loadVar_row (P := Tryz.prog) w g2 t2 30 ys (0, 0) _ h2 under_gv rfl (by rw [size_gv, hy])
  simp [results, h, hq', asAddr, r2]
theorem results_gv2 {fn : Func} {q s : Tmp} (h : fn.results = #[.cell q 30, .tmp s]) (tmps : Array Value) (w : World) (g2 : Nat) (t2 : TypeId) (ys : Array Value) (v : Value)
    (hq : tmps.getD q undef = .pointer (some ⟨g2, 0, none⟩)) (hv : tmps.getD s undef = v) (h2 : w.heap[g2]? = some (.cells ys t2 (0, 0))) (hy : ys.size = 2) :
    (results fn tmps).run Tryz.prog w = .ok (.tuple #[.agg ys, v]) w := by
  have hq' : tmps[q]?.getD undef = .pointer (some ⟨g2, 0, none⟩) := by simpa using hq
  have hv' : tmps[s]?.getD undef = v := by simpa using hv
  have r2 := run_loadVar_row (P := Tryz.prog) w g2 t2 30 ys (0, 0) _ h2 under_gv rfl (by rw [size_gv, hy])
  simp [results, h, hq', hv', asAddr, r2]
theorem filter_take_yes {α : Type} {L : List α} {i : Nat} (p : α → Bool) (h : i < L.length) (hp : p L[i] = true) : (L.take (i + 1)).filter p = (L.take i).filter p ++ [L[i]] := by
  rw [List.take_succ_eq_append_getElem h, List.filter_append]
  simp [hp]
theorem filter_take_no {α : Type} {L : List α} {i : Nat} (p : α → Bool) (h : i < L.length) (hp : p L[i] = false) : (L.take (i + 1)).filter p = (L.take i).filter p := by
  rw [List.take_succ_eq_append_getElem h, List.filter_append]
  simp [hp]
theorem filter_take_len {α : Type} (L : List α) (i : Nat) (p : α → Bool) : ((L.take i).filter p).length ≤ i := Nat.le_trans (List.length_filter_le _ _) (by rw [List.length_take]; omega)
structure ElG (W : World) (b o : Nat) (a : AtM) : Prop where
  bo : W.cell? ⟨b, o, none⟩ = some (.int .i64 a.bo)
  ki : W.cell? ⟨b, o + 1, none⟩ = some (.int .i64 a.ki)
  vi : W.cell? ⟨b, o + 2, none⟩ = some (.int .i64 a.vi)
  ld : loadAtt (.pointer (some ⟨b, o, none⟩)) W = .ok (.value (.agg (atc a))) W
theorem elG_of {W : World} {b o : Nat} {a : AtM} (h : W.rangeAt b o (atl a)) (ho : a.Ok) : ElG W b o a := ⟨h 0 _ rfl, h 1 _ rfl, h 2 _ rfl, loadAtt_in h ho⟩
theorem elG_at {w : World} {A : Option Addr} {m c : Nat} {L : List AtM} (h : Els atl 101 w (.slice A m c) L) (ho : ∀ a ∈ L, a.Ok) {j : Nat} (hj : j < L.length) :
    ∃ b off, A = some ⟨b, off, none⟩ ∧ ∀ W, Below w.heap.size w W → ElG W b (off + j * 101) L[j] := by
  obtain ⟨b, off, e, hb, hc⟩ := h.at_.2.2.2 (Nat.lt_of_le_of_lt (Nat.zero_le _) hj)
  exact ⟨b, off, e, fun W hW => elG_of (range_kept (hc j hj) (hW.block b hb)) (ho _ (List.getElem_mem hj))⟩
structure FlSt (wz W : World) (x : Value) (M : List AtM) : Prop where
  own : OwnE atl 101 36 wz.heap.size W x M
  bel : Below wz.heap.size wz W
theorem FlSt.below {wz W W' : World} {x : Value} {M : List AtM} (h : FlSt wz W x M) (hb : Below W.heap.size W W') : FlSt wz W' x M := ⟨h.own.below hb, h.bel.trans (hb.mono h.bel.size)⟩
theorem FlSt.fresh (w : World) : FlSt w (w.alloc (.cells #[] 36)) (.slice (some ⟨w.heap.size, 0, none⟩) 0 0) [] :=
  ⟨World.ownsRow_made w #[] 0 (Nat.le_refl _) (Nat.zero_le _) rfl, (Below.refl _ _).alloc (Nat.le_refl _) _⟩
theorem FlSt.app {wz W W' : World} {x x' : Value} {M M' : List AtM} (h : FlSt wz W x M) (ho : OwnE atl 101 36 wz.heap.size W' x' M') (hg : W.grownBy W' x.ownBlock) : FlSt wz W' x' M' :=
  ⟨ho, h.bel.grown hg h.bel.size (fun k hk => (World.ownsRow.lt h.own k hk).1)⟩
theorem ga_setIn (w : World) {g : Nat} {C : Array Value} {T : TypeId} (h : w.heap[g]? = some (.cells C T (0, 0))) (i : Nat) (u : Value) : (w.setCell ⟨g, i, none⟩ u).heap[g]? = some (.cells (C.setIfInBounds i u) T (0, 0)) := by
  simp [World.setCell, Array.getElem?_modify, h]
theorem ga_meas {N k : Nat} (h : k < N) (hw : wrap64 ((k : Int) + 1) = (k : Int) + 1) : N - (intOf (Value.int IntKind.i64 (wrap64 ((k : Int) + 1)))).toNat < N - (intOf (Value.int IntKind.i64 (k : Int))).toNat := by
  rw [hw]
  simp only [intOf]
  omega
end Go.Proofs.YtpnejoglkmfleaaGreatDoor
