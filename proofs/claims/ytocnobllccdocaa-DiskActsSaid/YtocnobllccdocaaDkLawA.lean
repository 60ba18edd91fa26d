/-
  DiskActs, with all that it is told of what comes in.
-/
import Derived.Test.YtocnobllccdocaaDkActsWalk
namespace Go.Proofs.Ytocnobllccdocaa
open Go.RowKit
theorem lawDiskActs_all (n:Int) (v:Value) (L:List ActDk) (w:World) (_:(Lit.int .i64 n).wf=true) (hv:Els akl 3 w v L) (ho:∀ x ∈ L,AkOk w x):
  Calls Try.prog 3 #[.int .i64 n,v] w fun e w'=>e=.returned (.bool true)∧Below w.heap.size w w':=lawDiskActs_any n v L w hv ho
end Go.Proofs.Ytocnobllccdocaa
