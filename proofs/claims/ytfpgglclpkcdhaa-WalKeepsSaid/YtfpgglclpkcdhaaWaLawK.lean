/-
  WalKeeps, with all that it is told of what comes in.
-/
import Derived.Test.YtfpgglclpkcdhaaWaKeepsWalk
namespace Go.Proofs.Ytfpgglclpkcdhaa
open Go.RowKit
theorem lawWalKeeps_all (v:Value) (L:List ActW) (w:World) (hv:Els awl 6 w v L) (ho:∀ x ∈ L,AwOk w x):
  Calls Try.prog 4 #[v] w fun e w'=>e=.returned (.bool true)∧Below w.heap.size w w':=lawWalKeeps_any v L w hv ho
end Go.Proofs.Ytfpgglclpkcdhaa
