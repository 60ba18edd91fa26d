/-
  WalSpoilt, with all that it is told of what comes in.
-/
import Derived.Test.YtfpgglclpkcdhaaWaSpoiltWalk
namespace Go.Proofs.Ytfpgglclpkcdhaa
open Go.RowKit
theorem lawWalSpoilt_all (v:Value) (L:List BtM) (x:TnM) (w:World) (hv:Els btl 1 w v L) (hb:Bts w L) (hx:TnOk x):
  Calls Try.prog 5 #[v,.agg (tnc x)] w fun e w'=>e=.returned (.bool true)∧Below w.heap.size w w':=lawWalSpoilt_any v L x w hv hb hx
end Go.Proofs.Ytfpgglclpkcdhaa
