/-
  VaultKeeps, with all that it is told of what comes in.
-/
import Derived.Test.YticnhdlmkkmjmaaDoorVaKeepsWalk
namespace Go.Proofs.YticnhdlmkkmjmaaDoor
open Go.RowKit
theorem lawVaultKeeps_all (i : Int) (v : Value) (L : List ActM) (w : World) (hi : (Lit.int .i64 i).wf = true) (hv : Els acl 40 w v L) (ho : ∀ x ∈ L, ActOk w x) (hK : Kst 1 w) :
    Calls Tryd.prog 3 #[.int .i64 i, v] w fun e w' => e = .returned (.bool true) ∧ Below w.heap.size w w' := lawVaultKeeps_any i v L w hi hv ho hK
end Go.Proofs.YticnhdlmkkmjmaaDoor
