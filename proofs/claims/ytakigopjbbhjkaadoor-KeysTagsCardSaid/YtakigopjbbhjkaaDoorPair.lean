/-
  A statement that gives two blocks of 64 bytes from two calls: its allocations may come at any time. What is known of a world, as rules for the walk.
-/
import Derived.Test.YtakigopjbbhjkaaDoorMasked
import Derived.Test.YtakigopjbbhjkaaDoorKeyBlock
import Derived.Deep.RegionHeld3
import Derived.Deep.DeepCutAuto
namespace Go.Proofs.YtakigopjbbhjkaaDoor
open Go.RowKit

theorem exec_alloc_B (r : Operand → Value) (dst : Option Tmp) (ty : TypeId) (pos : String) (after : Array Edge) (guard : Option (Nat × Bool)) (w : World) :
    Sem.run Tryd.prog (execOp r { dst := dst, op := .alloc 45, type := ty, pos := pos, after := after, guard := guard }) w = .ok (.value (.pointer (some ⟨w.heap.size, 0, none⟩))) (w.alloc (.cells (fcells 64 fun _ => bcell 0) 45)) := by
  unfold execOp
  simp only [Sem.run_bind, Instr.alloc, arrB.run_zero, newVar, newRow, run_newObj_alloc, Sem.run_pure, Result.andThen_ok, Value.cells]
theorem exec_store_hide (T : TypeId) (k : Nat) (r : Operand → Value) (x y : Operand) (dst : Option Tmp) (ty : TypeId) (pos : String) (after : Array Edge) (guard : Option (Nat × Bool)) (w : World) :
    Sem.run Tryd.prog (execOp r { dst := dst, op := .store (tyHide T k) x y, type := ty, pos := pos, after := after, guard := guard }) w = storeA (tyHide T k) (r x) (r y) w := rfl
theorem tyHide_store {T : TypeId} {k : Nat} (h : T = k) (x y : Operand) : Op.store k x y = Op.store (tyHide T k) x y := by
  unfold tyHide
  rw [h]

theorem size_drew (W : World) : W.drew.heap.size = W.heap.size := rfl
theorem size_alloc (W : World) (o : Obj) : (W.alloc o).heap.size = W.heap.size + 1 := by simp
/-- Block g is one of 64 bytes. -/
def Has (W : World) (g : Nat) : Prop := ∃ f, Blk W g 64 f 45
theorem Has.alloc (W : World) (o : Obj) (g : Nat) (h : Has W g) : Has (W.alloc o) g := by
  obtain ⟨f, h⟩ := h
  exact ⟨f, h.alloc o⟩
theorem Has.drew (W : World) (g : Nat) (h : Has W g) : Has W.drew g := h
theorem Has.new (W : World) : Has (W.alloc (.cells (fcells 64 fun _ => bcell 0) 45)) W.heap.size := ⟨_, Blk.new W _ _ _⟩
theorem Has.new2 (W : World) (o : Obj) : Has ((W.alloc o).alloc (.cells (fcells 64 fun _ => bcell 0) 45)) (W.heap.size + 1) := by
  have := Has.new (W.alloc o)
  rw [show (W.alloc o).heap.size = W.heap.size + 1 from by simp] at this
  exact this
theorem Has.keep {W W' : World} (hb : Below W.heap.size W W') (g : Nat) (h : Has W g) : Has W' g := by
  obtain ⟨f, h⟩ := h
  exact ⟨f, h.keep hb⟩
theorem Has.set (W : World) (k g : Nat) (f : Nat → Value) (h : Has W g) : Has (W.setRow k (fcells 64 f)) g := by
  obtain ⟨f0, h⟩ := h
  by_cases e : g = k
  · subst e
    exact ⟨f, setRow_heap W g _ _ _ _ h⟩
  · exact ⟨f0, (setRow_other W k g _ e).trans h⟩
theorem Has.newOld (W : World) (o : Obj) : Has ((W.alloc (.cells (fcells 64 fun _ => bcell 0) 45)).alloc o) W.heap.size := Has.alloc _ o _ (Has.new W)
theorem Has.setAlloc (W : World) (o : Obj) (k g : Nat) (f : Nat → Value) (h : Has W g) : Has ((W.alloc o).setRow k (fcells 64 f)) g := Has.set _ k g f (Has.alloc W o g h)
theorem Has.setNewOld (W : World) (o : Obj) (k : Nat) (f : Nat → Value) : Has (((W.alloc (.cells (fcells 64 fun _ => bcell 0) 45)).alloc o).setRow k (fcells 64 f)) W.heap.size := Has.set _ k _ f (Has.newOld W o)
theorem Has.setNew2 (W : World) (o : Obj) (k : Nat) (f : Nat → Value) : Has (((W.alloc o).alloc (.cells (fcells 64 fun _ => bcell 0) 45)).setRow k (fcells 64 f)) (W.heap.size + 1) := Has.set _ k _ f (Has.new2 W o)
theorem Has.setNew (W : World) (k : Nat) (f : Nat → Value) : Has ((W.alloc (.cells (fcells 64 fun _ => bcell 0) 45)).setRow k (fcells 64 f)) W.heap.size := Has.set _ k _ f (Has.new W)
theorem store_has {T : TypeId} (hT : T = 45) (f : Nat → Value) (h1 : ∀ i, i < 64 → (f i).oneCell' = true) (W : World) (g : Nat) (h : Has W g) :
    storeA (tyHide T 45) (.pointer (some ⟨g, 0, none⟩)) (.agg (fcells 64 f)) W = .ok .skip (W.setRow g (fcells 64 f)) := by
  obtain ⟨f0, hg⟩ := h
  have hr := run_storeVar_row (P := Tryd.prog) W g 45 45 (fcells 64 f0) (fcells 64 f) hg (by rw [arrB.size, fcells_size]) (by rw [fcells_size, fcells_size]) (fcells_one h1)
  unfold tyHide
  rw [hT]
  unfold storeA execOp
  simp only [Instr.storeAt, Instr.sureAddr, Sem.run_bind, Sem.run_pure, Result.andThen_ok, hr]
theorem pair_of {W : World} {I O : Nat} {fi fo : Nat → Value} (hI : Has W I) (hO : Has W O) (hne : I ≠ O) :
    Blk ((W.setRow I (fcells 64 fi)).setRow O (fcells 64 fo)) I 64 fi 45 ∧ Blk ((W.setRow I (fcells 64 fi)).setRow O (fcells 64 fo)) O 64 fo 45 := by
  obtain ⟨f1, h1⟩ := hI
  obtain ⟨f2, h2⟩ := hO
  exact ⟨(setRow_other _ _ _ _ hne).trans (setRow_heap W I _ _ _ _ h1), setRow_heap _ O _ _ _ _ ((setRow_other W I O _ (fun e => hne e.symm)).trans h2)⟩

/-- What mac.Of knows of its world: its key's block B, its result R, all that was ahead. -/
def Ok (w : World) (R B : Nat) (b : Nat → UInt8) (W : World) : Prop := R < B ∧ B < W.heap.size ∧ Blk W R 32 (fun _ => bcell 0) 23 ∧ Blk W B 64 (fun j => bcell (b j)) 45 ∧ Below R w W
section
variable {w : World} {R B : Nat} {b : Nat → UInt8}
theorem Ok.alloc (W : World) (o : Obj) (h : Ok w R B b W) : Ok w R B b (W.alloc o) := ⟨h.1, by have := h.2.1; simp; omega, h.2.2.1.alloc o, h.2.2.2.1.alloc o, h.2.2.2.2.alloc (by have := h.1; have := h.2.1; omega) o⟩
theorem Ok.drew (W : World) (h : Ok w R B b W) : Ok w R B b W.drew := ⟨h.1, h.2.1, h.2.2.1, h.2.2.2.1, h.2.2.2.2.drew⟩
theorem Ok.keep {W W' : World} (hb : Below W.heap.size W W') (h : Ok w R B b W) : Ok w R B b W' := ⟨h.1, Nat.lt_of_lt_of_le h.2.1 hb.size, h.2.2.1.keep hb, h.2.2.2.1.keep hb, h.2.2.2.2.trans (hb.mono (by have := h.1; have := h.2.1; omega))⟩
theorem Ok.set (W : World) (g : Nat) (f : Nat → Value) (hg : B < g) (h : Ok w R B b W) : Ok w R B b (W.setRow g (fcells 64 f)) :=
  ⟨h.1, by have := h.2.1; simp; omega, (setRow_other W g R _ (by have := h.1; omega)).trans h.2.2.1, (setRow_other W g B _ (by omega)).trans h.2.2.2.1, below_into h.2.2.2.2 (g := g) (by have := h.1; omega) ⟨rfl, rfl, rfl, by simp, fun k _ hk => setRow_other W g k _ (fun e => hk (by simp [e]))⟩ (by have := h.1; have := h.2.1; omega)⟩
end
/-- Two blocks that two slots point to. -/
def InOut (w : World) (R B : Nat) (b : Nat → UInt8) (fi fo : Nat → Value) (v6 v7 : Value) (W : World) : Prop :=
  ∃ I O, v6 = .pointer (some ⟨I, 0, none⟩) ∧ v7 = .pointer (some ⟨O, 0, none⟩) ∧ R < I ∧ R < O ∧ Blk W I 64 fi 45 ∧ Blk W O 64 fo 45 ∧ Ok w R B b W
theorem InOut.of {w : World} {R B I O : Nat} {b : Nat → UInt8} {fi fo : Nat → Value} {W : World} (hI : Has W I) (hO : Has W O) (hne : I ≠ O) (hRI : R < I) (hRO : R < O) (hok : Ok w R B b ((W.setRow I (fcells 64 fi)).setRow O (fcells 64 fo))) :
    InOut w R B b fi fo (.pointer (some ⟨I, 0, none⟩)) (.pointer (some ⟨O, 0, none⟩)) ((W.setRow I (fcells 64 fi)).setRow O (fcells 64 fo)) :=
  ⟨I, O, rfl, rfl, hRI, hRO, (pair_of hI hO hne).1, (pair_of hI hO hne).2, hok⟩
end Go.Proofs.YtakigopjbbhjkaaDoor
