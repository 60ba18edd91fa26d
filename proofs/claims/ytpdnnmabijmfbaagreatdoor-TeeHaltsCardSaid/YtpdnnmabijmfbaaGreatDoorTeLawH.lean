/-
  TeeHalts, with all that it is told of what comes in.
-/
import Derived.Test.YtpdnnmabijmfbaaGreatDoorTeHaltsWalk
namespace Go.Proofs.YtpdnnmabijmfbaaGreatDoor
open Go.RowKit
theorem lawTeeHalts_all (n:Int) (x y:Value) (l m:List UInt8) (v:Value) (L:List SpM) (w:World) (_:(Lit.int .i64 n).wf=true) (hb:Byt w x l∧Byt w y m) (hv:Els spl 253 w v L) (ho:∀ x ∈ L,SpOk w x) (hK:Kst 1 w) (hK2:Kst 0 w):
  Calls Tryz.prog 4 #[.int .i64 n,.agg #[x,y],v] w fun e w'=>e=.returned (.bool true)∧Below w.heap.size w w':=lawTeeHalts_any n x y l m v L w hb.1 hb.2 hv ho hK hK2
end Go.Proofs.YtpdnnmabijmfbaaGreatDoor
