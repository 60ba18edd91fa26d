/-
  What the law of tags knows of its world: the block of what is asked, and a new hash that may be laid at any time.
-/
import Derived.Test.YtakigopjbbhjkaaDoorKAwake
import Derived.Test.YtakigopjbbhjkaaDoorRefTag
import Derived.Test.YtakigopjbbhjkaaDoorParts
import Derived.Test.YtakigopjbbhjkaaDoorPair
namespace Go.Proofs.YtakigopjbbhjkaaDoor
open Go.RowKit

theorem exec_alloc_H (r : Operand → Value) (dst : Option Tmp) (ty : TypeId) (pos : String) (after : Array Edge) (guard : Option (Nat × Bool)) (w : World) :
    Sem.run Tryd.prog (execOp r { dst := dst, op := .alloc 23, type := ty, pos := pos, after := after, guard := guard }) w = .ok (.value (.pointer (some ⟨w.heap.size, 0, none⟩))) (w.alloc (.cells (fcells 32 fun _ => bcell 0) 23)) := by
  unfold execOp
  simp only [Sem.run_bind, Instr.alloc, arrH.run_zero, newVar, newRow, run_newObj_alloc, Sem.run_pure, Result.andThen_ok, Value.cells]

/-- Block g is a hash. -/
def HasH (W : World) (g : Nat) : Prop := ∃ f, Blk W g 32 f 23
theorem HasH.alloc (W : World) (o : Obj) (g : Nat) (h : HasH W g) : HasH (W.alloc o) g := by
  obtain ⟨f, h⟩ := h
  exact ⟨f, h.alloc o⟩
theorem HasH.drew (W : World) (g : Nat) (h : HasH W g) : HasH W.drew g := h
theorem HasH.new (W : World) : HasH (W.alloc (.cells (fcells 32 fun _ => bcell 0) 23)) W.heap.size := ⟨_, Blk.new W _ _ _⟩
theorem HasH.new2 (W : World) (o : Obj) : HasH ((W.alloc o).alloc (.cells (fcells 32 fun _ => bcell 0) 23)) (W.heap.size + 1) := by
  have := HasH.new (W.alloc o)
  rw [show (W.alloc o).heap.size = W.heap.size + 1 from by simp] at this
  exact this
theorem HasH.keep {W W' : World} (hb : Below W.heap.size W W') (g : Nat) (h : HasH W g) : HasH W' g := by
  obtain ⟨f, h⟩ := h
  exact ⟨f, h.keep hb⟩
theorem HasH.newOld (W : World) (o : Obj) : HasH ((W.alloc (.cells (fcells 32 fun _ => bcell 0) 23)).alloc o) W.heap.size := HasH.alloc _ o _ (HasH.new W)
theorem store_hasH {T : TypeId} (hT : T = 23) {D : Array Value} {f : Nat → UInt8} (hD : fcells 32 (fun j => bcell (f j)) = D) (W : World) (g : Nat) (h : HasH W g) :
    storeA (tyHide T 23) (.pointer (some ⟨g, 0, none⟩)) (.agg D) W = .ok .skip (W.setRow g D) := by
  obtain ⟨f0, hg⟩ := h
  subst hD
  have hr := run_storeVar_row (P := Tryd.prog) W g 23 23 (fcells 32 f0) (fcells 32 fun j => bcell (f j)) hg (by rw [arrH.size, fcells_size]) (by rw [fcells_size, fcells_size]) (fcells_one fun _ _ => rfl)
  unfold tyHide
  rw [hT]
  unfold storeA execOp
  simp only [Instr.storeAt, Instr.sureAddr, Sem.run_bind, Sem.run_pure, Result.andThen_ok, hr]
theorem set_hasH {W : World} {g : Nat} {f : Nat → UInt8} {D : Array Value} (hD : fcells 32 (fun j => bcell (f j)) = D) (h : HasH W g) : Blk (W.setRow g D) g 32 (fun j => bcell (f j)) 23 := by
  obtain ⟨f0, hg⟩ := h
  subst hD
  exact setRow_heap W g _ _ _ _ hg

/-- What is asked, as cells. -/
def askF (i : Int) (d : UInt8) (f : Nat → UInt8) (j : Nat) : Value := if j = 0 then .int .i64 i else if j = 1 then .int .u8 (d.toNat : Int) else bcell (f (j - 2))

/-- What is known of a world: block G, and all that was ahead of it. -/
def OkA (w : World) (G : Nat) (F : Nat → Value) (W : World) : Prop := Blk W G 34 F 25 ∧ Below G w W
section
variable {w : World} {G : Nat} {F : Nat → Value}
theorem OkA.alloc (W : World) (o : Obj) (h : OkA w G F W) : OkA w G F (W.alloc o) := ⟨h.1.alloc o, h.2.alloc (Nat.le_of_lt h.1.lt) o⟩
theorem OkA.drew (W : World) (h : OkA w G F W) : OkA w G F W.drew := ⟨h.1.drew, h.2.drew⟩
theorem OkA.keep {W W' : World} (hb : Below W.heap.size W W') (h : OkA w G F W) : OkA w G F W' := ⟨h.1.keep hb, h.2.trans (hb.mono (Nat.le_of_lt h.1.lt))⟩
theorem OkA.set (W : World) (g : Nat) (D : Array Value) (hg : G < g) (h : OkA w G F W) : OkA w G F (W.setRow g D) :=
  ⟨(setRow_other W g G _ (by omega)).trans h.1, below_into h.2 (g := g) (by omega) ⟨rfl, rfl, rfl, by simp, fun k _ hk => setRow_other W g k _ (fun e => hk (by simp [e]))⟩ (Nat.le_of_lt h.1.lt)⟩
theorem OkA.cells {W : World} {v0 v1 : Value} (h0 : F 0 = v0) (h1 : F 1 = v1) (h : OkA w G F W) : OkA w G F W ∧ W.cell? ⟨G, 0, none⟩ = some v0 ∧ W.cell? ⟨G, 1, none⟩ = some v1 :=
  ⟨h, by rw [← h0]; exact h.1.cell (by omega), by rw [← h1]; exact h.1.cell (by omega)⟩
end
/-- Behind the tag: its block. -/
def TagAt (w : World) (G : Nat) (F : Nat → Value) (τ : Nat → UInt8) (v8 : Value) (W : World) : Prop :=
  ∃ T, v8 = .pointer (some ⟨T, 0, none⟩) ∧ Blk W T 32 (fun j => bcell (τ j)) 23 ∧ OkA w G F W
theorem TagAt.of {w : World} {G T : Nat} {F : Nat → Value} {τ : Nat → UInt8} {D : Array Value} {W : World} (hD : fcells 32 (fun j => bcell (τ j)) = D) (hT : HasH W T) (hg : G < T) (h : OkA w G F W) : TagAt w G F τ (.pointer (some ⟨T, 0, none⟩)) (W.setRow T D) :=
  ⟨T, rfl, set_hasH hD hT, h.set _ _ _ hg⟩
theorem new_cell2_drew (w : World) (o : Obj) (C : Array Value) (T : TypeId) (i : Nat) (v : Value) (h : C[i]? = some v) : ((w.alloc o).alloc (.cells C T)).drew.cell? ⟨w.heap.size + 1, i, none⟩ = some v := by
  have := new_cell_drew (w.alloc o) C T i v h
  rw [show (w.alloc o).heap.size = w.heap.size + 1 from by simp] at this
  exact this
theorem old_cell_drew (w : World) (o : Obj) (C : Array Value) (T : TypeId) (i : Nat) (v : Value) (h : C[i]? = some v) : ((w.alloc (.cells C T)).alloc o).drew.cell? ⟨w.heap.size, i, none⟩ = some v := by
  have h1 := new_cell w C T i v h
  exact (((Below.refl (w.alloc (.cells C T)).heap.size (w.alloc (.cells C T))).alloc (Nat.le_refl _) o).cell (p := ⟨w.heap.size, i, none⟩) (by simp)).trans h1
/-- An operation under a name: it is not wanted where its guard says no. -/
def opHide (o : Op) (_ : Nat) : Op := o
theorem hide_addr (d : Option Tmp) (t : TypeId) (x : Operand) (k : Nat) (ty : TypeId) (pos : String) (af : Array Edge) : (⟨d, .fieldAddr t x k, ty, pos, af, some (23, true)⟩ : Oper) = ⟨d, opHide (.fieldAddr t x k) 0, ty, pos, af, some (23, true)⟩ := rfl
theorem hide_load (d : Option Tmp) (t : TypeId) (x : Operand) (ty : TypeId) (pos : String) (af : Array Edge) : (⟨d, .load t x, ty, pos, af, some (23, true)⟩ : Oper) = ⟨d, opHide (.load t x) 0, ty, pos, af, some (23, true)⟩ := rfl
theorem hide_bin (d : Option Tmp) (o : BinOp) (t : TypeId) (x y : Operand) (u : TypeId) (ty : TypeId) (pos : String) (af : Array Edge) : (⟨d, .binOp o t x y u, ty, pos, af, some (23, true)⟩ : Oper) = ⟨d, opHide (.binOp o t x y u) 0, ty, pos, af, some (23, true)⟩ := rfl

/-- Behind both tags: their blocks. -/
def Tags2At (w : World) (G T8 : Nat) (F : Nat → Value) (τ : Nat → UInt8) (v9 : Value) (W : World) : Prop :=
  ∃ T, v9 = .pointer (some ⟨T, 0, none⟩) ∧ Blk W T8 32 (fun j => bcell (τ j)) 23 ∧ Blk W T 32 (fun j => bcell (τ j)) 23 ∧ OkA w G F W
theorem Tags2At.of {w : World} {G T8 : Nat} {F : Nat → Value} {τ : Nat → UInt8} {D : Array Value} {W : World} (hD : fcells 32 (fun j => bcell (τ j)) = D) (h8 : Blk W T8 32 (fun j => bcell (τ j)) 23) (h : OkA w G F W) :
    Tags2At w G T8 F τ (.pointer (some ⟨W.heap.size, 0, none⟩)) ((W.alloc (.cells (fcells 32 fun _ => bcell 0) 23)).setRow W.heap.size D) :=
  ⟨W.heap.size, rfl, (setRow_other _ _ T8 _ (by have := h8.lt; omega)).trans (h8.alloc _), set_hasH hD (HasH.new W), (h.alloc _ _).set _ _ _ h.1.lt⟩
/-- Behind the test whether there is a part. -/
def MayAt (wc : World) (b : Bool) (v10 : Value) (W : World) : Prop := v10 = .bool b ∧ W = wc
/-- What the law's last statement reads. -/
def KT (G T8 T9 : Nat) (F : Nat → Value) (τ : Nat → UInt8) (W : World) : Prop :=
  Blk W T8 32 (fun j => bcell (τ j)) 23 ∧ Blk W T9 32 (fun j => bcell (τ j)) 23 ∧ Blk W G 34 F 25
theorem KT.keep {G T8 T9 : Nat} {F : Nat → Value} {τ : Nat → UInt8} {W W' : World} (hb : Below W.heap.size W W') (h : KT G T8 T9 F τ W) : KT G T8 T9 F τ W' := ⟨h.1.keep hb, h.2.1.keep hb, h.2.2.keep hb⟩
theorem KT.all {G T8 T9 : Nat} {F : Nat → Value} {τ : Nat → UInt8} {W : World} {v0 v1 : Value} (h0 : F 0 = v0) (h1 : F 1 = v1) (h : KT G T8 T9 F τ W) :
    Blk W T8 32 (fun j => bcell (τ j)) 23 ∧ Blk W T9 32 (fun j => bcell (τ j)) 23 ∧ Blk W G 34 F 25 ∧ W.cell? ⟨G, 0, none⟩ = some v0 ∧ W.cell? ⟨G, 1, none⟩ = some v1 :=
  ⟨h.1, h.2.1, h.2.2, by rw [← h0]; exact h.2.2.cell (by omega), by rw [← h1]; exact h.2.2.cell (by omega)⟩
theorem lt_new (w : World) (o : Obj) : w.heap.size < (w.alloc o).drew.heap.size := by
  show w.heap.size < (w.alloc o).heap.size
  simp
theorem lt_new2 (w : World) (o o2 : Obj) : w.heap.size < ((w.alloc o).alloc o2).drew.heap.size := by
  show w.heap.size < ((w.alloc o).alloc o2).heap.size
  simp; omega
theorem lt_new3 (w : World) (o o2 : Obj) : w.heap.size + 1 < ((w.alloc o).alloc o2).drew.heap.size := by
  show w.heap.size + 1 < ((w.alloc o).alloc o2).heap.size
  simp
end Go.Proofs.YtakigopjbbhjkaaDoor
