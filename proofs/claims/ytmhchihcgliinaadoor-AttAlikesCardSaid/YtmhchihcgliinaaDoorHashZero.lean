/-
  The hash that is nought, built: kept whole.
-/
import Derived.Test.YtmhchihcgliinaaDoorBs3
import Derived.Test.YtmhchihcgliinaaDoorBs2
namespace Go.Proofs.YtmhchihcgliinaaDoor
set_option maxRecDepth 20000
open Go.RowKit

/-- The hash that is nought. -/
noncomputable def buildH (w : World) : Result Next := Sem.run Tryd.prog (execOp (fun _ => undef) { dst := none, op := .build 23 #[], type := 0, pos := "", after := #[], guard := none }) w
theorem exec_build_hash (r : Operand → Value) (dst : Option Tmp) (ty : TypeId) (pos : String) (after : Array Edge) (guard : Option (Nat × Bool)) (w : World) :
    Sem.run Tryd.prog (execOp r { dst := dst, op := .build 23 #[], type := ty, pos := pos, after := after, guard := guard }) w = buildH w := by
  unfold buildH execOp
  simp
theorem buildH_eq (w : World) : buildH w = .ok (.value (.agg (fcells 32 fun _ => bcell 0))) w := by
  unfold buildH
  go_simp
  rfl
theorem fcells_nought : fcells 32 (fun _ => bcell 0) = hcells (List.replicate 32 0) := by kernel_rfl
end Go.Proofs.YtmhchihcgliinaaDoor
