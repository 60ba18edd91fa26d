/-
  The law of tags: any part's key, any tag, in any parts, whether any hash is one, and any quorum.
-/
import Derived.Test.YtakigopjbbhjkaaDoorTagsYes
import Derived.Test.YtakigopjbbhjkaaDoorTagsNo
namespace Go.Proofs.YtakigopjbbhjkaaDoor
open Go.RowKit

theorem lawKeysTags_any (i : Int) (d : UInt8) (f : Nat → UInt8) (v2 : Value) (text : List UInt8) (at' : Nat) (w : World) (hwi : (Lit.int .i64 i).wf = true) (hv2 : Byt w v2 text) (hat : at' ≤ 65535) (hK : Kst 1 w) (hK0 : Kst 0 w) :
    Calls Tryd.prog 3 #[.agg (fcells 34 (askF i d f)), v2, .int .u16 (at' : Int)] w fun e w' => e = .returned (.bool true) ∧ Below w.heap.size w w' := by
  cases h : nodeB i
  · exact lawKeysTags_no i d f v2 text at' w hwi h hv2 hat hK hK0
  · exact lawKeysTags_yes i d f v2 text at' w hwi h hv2 hat hK hK0
end Go.Proofs.YtakigopjbbhjkaaDoor
