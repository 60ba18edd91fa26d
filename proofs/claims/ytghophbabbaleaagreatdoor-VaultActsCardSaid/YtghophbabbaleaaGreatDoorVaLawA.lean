/-
  VaultActs, with all that it is told of what comes in.
-/
import Derived.Test.YtghophbabbaleaaGreatDoorVaActsWalk
namespace Go.Proofs.YtghophbabbaleaaGreatDoor
open Go.RowKit
theorem lawVaultActs_all (i n : Int) (v : Value) (L : List ActM) (w : World) (_ : (Lit.int .i64 i).wf = true) (_ : (Lit.int .i64 n).wf = true) (hv : Els acl 40 w v L) (ho : ∀ x ∈ L, ActOk w x) (hK1 : Kst 1 w) (hK0 : Kst 0 w) :
    Calls Tryz.prog 3 #[.int .i64 i, .int .i64 n, v] w fun e w' => e = .returned (.bool true) ∧ Below w.heap.size w w' := lawVaultActs_any i n v L w hv ho hK1 hK0
end Go.Proofs.YtghophbabbaleaaGreatDoor
