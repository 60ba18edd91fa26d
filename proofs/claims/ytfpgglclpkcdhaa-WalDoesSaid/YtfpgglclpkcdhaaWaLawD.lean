/-
  WalDoes, with all that it is told of what comes in.
-/
import Derived.Test.YtfpgglclpkcdhaaWaDoesWalk
namespace Go.Proofs.Ytfpgglclpkcdhaa
open Go.RowKit
theorem lawWalDoes_all (room:Int) (v:Value) (L:List ActW) (w:World) (_:(Lit.int .i64 room).wf=true) (hv:Els awl 6 w v L) (ho:∀ x ∈ L,AwOk w x):
  Calls Try.prog 3 #[.int .i64 room,v] w fun e w'=>e=.returned (.bool true)∧Below w.heap.size w w':=lawWalDoes_any room v L w hv ho
end Go.Proofs.Ytfpgglclpkcdhaa
