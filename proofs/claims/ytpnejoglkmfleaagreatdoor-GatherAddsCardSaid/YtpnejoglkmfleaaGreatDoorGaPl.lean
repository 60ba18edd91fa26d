/-
  Places as whole values: allocations, stores, loads.
-/
import Derived.Test.YtpnejoglkmfleaaGreatDoorGaMem
namespace Go.Proofs.YtpnejoglkmfleaaGreatDoor
set_option maxRecDepth 20000
open Go.RowKit
theorem size_pl : (Tryz.prog.info? 59).map (·.size) = some 3 := by kernel_rfl
noncomputable def loadPl (v : Value) (w : World) : Result Next := Sem.run Tryz.prog (execOp (fun _ => v) { dst := none, op := .load 59 (.tmp 0), type := 0, pos := "", after := #[], guard := none }) w
theorem exec_load_pl (r : Operand → Value) (x : Operand) (dst : Option Tmp) (ty : TypeId) (pos : String) (after : Array Edge) (guard : Option (Nat × Bool)) (w : World) :
    Sem.run Tryz.prog (execOp r { dst := dst, op := .load 59 x, type := ty, pos := pos, after := after, guard := guard }) w = loadPl (r x) w := rfl
theorem loadPl_row {w : World} {g : Nat} {C : Array Value} {T : TypeId} (h : w.heap[g]? = some (.cells C T (0, 0))) (hs : C.size = 3) : loadPl (.pointer (some ⟨g, 0, none⟩)) w = .ok (.value (.agg C)) w := by
  have := run_loadAt_mid (P := Tryz.prog) w g 0 59 C.toList _ (fun j v hj => by rw [Nat.zero_add, cell_blk h j]; simpa using hj) under_pl rfl (by rw [size_pl]; simp [hs])
  simp only [Array.toArray_toList] at this
  unfold loadPl execOp
  simp only [Sem.run_bind, this, Result.andThen_ok, Sem.run_pure]
def plZ : Array Value := #[.int .i64 0, .int .i64 0, .int .i64 0]
theorem zero_pl : (Tryz.prog.info? 59).bind (·.zero) = some (.agg plZ) := by kernel_rfl
theorem run_zero_pl (w : World) : (zeroValue 59).run Tryz.prog w = .ok (.agg plZ) w := by
  have h := zero_pl
  cases hq : Tryz.prog.info? 59 with
  | none => rw [hq] at h; cases h
  | some i =>
    rw [hq] at h
    have hz : i.zero = some (.agg plZ) := h
    simp [zeroValue, typeInfo, hq, hz]
noncomputable def allocPl (w : World) : Result Next := Sem.run Tryz.prog (execOp (fun _ => undef) { dst := none, op := .alloc 59, type := 0, pos := "", after := #[], guard := none }) w
theorem exec_alloc_pl (r : Operand → Value) (dst : Option Tmp) (ty : TypeId) (pos : String) (after : Array Edge) (guard : Option (Nat × Bool)) (w : World) :
    Sem.run Tryz.prog (execOp r { dst := dst, op := .alloc 59, type := ty, pos := pos, after := after, guard := guard }) w = allocPl w := rfl
theorem allocPl_eq (w : World) : allocPl w = .ok (.value (.pointer (some ⟨w.heap.size, 0, none⟩))) (w.alloc (.cells plZ 59)) := by
  unfold allocPl execOp
  simp only [Sem.run_bind, Instr.alloc, run_zero_pl, newVar, newRow, run_newObj_alloc, Sem.run_pure, Result.andThen_ok, Value.cells]
noncomputable def storePl (p v : Value) (w : World) : Result Next := Sem.run Tryz.prog (execOp (fun x => match x with
  | .tmp 0 => p
  | _ => v) { dst := none, op := .store 59 (.tmp 0) (.tmp 1), type := 0, pos := "", after := #[], guard := none }) w
theorem exec_store_pl (r : Operand → Value) (x y : Operand) (dst : Option Tmp) (ty : TypeId) (pos : String) (after : Array Edge) (guard : Option (Nat × Bool)) (w : World) :
    Sem.run Tryz.prog (execOp r { dst := dst, op := .store 59 x y, type := ty, pos := pos, after := after, guard := guard }) w = storePl (r x) (r y) w := rfl
theorem storePl_eq {w : World} {g : Nat} {t : TypeId} {C0 C : Array Value} (hg : w.heap[g]? = some (.cells C0 t (0, 0))) (h0 : C0.size = 3) (hC : C.size = 3) (h1 : C.all (·.oneCell') = true) :
    storePl (.pointer (some ⟨g, 0, none⟩)) (.agg C) w = .ok .skip (setCt w g C) := by
  have := run_storeVar_row (P := Tryz.prog) w g t 59 C0 C hg (by rw [size_pl, hC]) (by rw [h0, hC]) h1
  unfold storePl execOp
  simp only [Instr.storeAt, Instr.sureAddr, Sem.run_bind, Sem.run_pure, Result.andThen_ok, this]
  rfl
theorem plVar_eq (w : World) (x y z : Int) : storePl (.pointer (some ⟨w.heap.size, 0, none⟩)) (.agg #[.int .i64 x, .int .i64 y, .int .i64 z]) (w.alloc (.cells plZ 59)) = .ok .skip (w.alloc (.cells #[.int .i64 x, .int .i64 y, .int .i64 z] 59)) := by
  rw [storePl_eq (heap_alloc_new w _) rfl rfl (all_oneCell_toArray (cs := [_, _, _]) (fun u hu => by
    simp only [List.mem_cons, List.not_mem_nil, or_false] at hu
    rcases hu with rfl | rfl | rfl <;> rfl))]
  exact congrArg (fun W => Result.ok Next.skip W) (setCt_alloc w _ _ _)
end Go.Proofs.YtpnejoglkmfleaaGreatDoor
