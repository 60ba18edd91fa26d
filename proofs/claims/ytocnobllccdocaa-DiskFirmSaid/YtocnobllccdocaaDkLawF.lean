/-
  DiskFirm, with all that it is told of what comes in.
-/
import Derived.Test.YtocnobllccdocaaDkFirmWalk
namespace Go.Proofs.Ytocnobllccdocaa
open Go.RowKit
theorem lawDiskFirm_all (v:Value) (L:List ActDk) (w:World) (hv:Els akl 3 w v L) (ho:∀ x ∈ L,AkOk w x):
  Calls Try.prog 4 #[v] w fun e w'=>e=.returned (.bool true)∧Below w.heap.size w w':=lawDiskFirm_any v L w hv ho
end Go.Proofs.Ytocnobllccdocaa
