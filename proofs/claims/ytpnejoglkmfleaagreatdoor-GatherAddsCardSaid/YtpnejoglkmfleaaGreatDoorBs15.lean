/-
  AcCodeFirst: what each of them says stands at its head.
-/
import Derived.Test.YtpnejoglkmfleaaGreatDoorBs12
namespace Go.Proofs.YtpnejoglkmfleaaGreatDoor
set_option maxRecDepth 20000
open Go.RowKit
noncomputable def sliceAt1 (v : Value) (w : World) : Result Next := Sem.run Tryz.prog (execOp (fun _ => v) { dst := none, op := .buildSlice 22 1 #[(0, .tmp 0)], type := 0, pos := "", after := #[], guard := none }) w
theorem exec_slice_at1 (r : Operand → Value) (x : Operand) (dst : Option Tmp) (ty : TypeId) (pos : String) (after : Array Edge) (guard : Option (Nat × Bool)) (w : World) :
    Sem.run Tryz.prog (execOp r { dst := dst, op := .buildSlice 22 1 #[(0, x)], type := ty, pos := pos, after := after, guard := guard }) w = sliceAt1 (r x) w := by
  unfold sliceAt1 execOp
  simp
theorem sliceAt1_eq (a : AtM) (ha : a.Ok) (w : World) : sliceAt1 (.agg (atc a)) w = .ok (.value (.slice (some ⟨w.heap.size, 0, none⟩) 1 1)) (w.alloc (.cells (atc a) 36)) := by
  have hsz : (atc a).size = 101 := atc_size ha
  have e0 : (atc a).zipIdx = ((atl a).zipIdx).toArray := by unfold atc; simp
  unfold sliceAt1
  go_simp
  have e := putAt_mid (atl a) [] (atl atZ) [] (by rw [atl_length ha, atl_length atZ_ok])
  simp only [List.nil_append, List.append_nil, List.length_nil] at e
  rw [← fold_putSg] at e
  exact congrArg (fun C => w.alloc (.cells C 36)) e
attribute [local go_sem ↓] exec_load_att exec_load_hash exec_slice_at1
end Go.Proofs.YtpnejoglkmfleaaGreatDoor
