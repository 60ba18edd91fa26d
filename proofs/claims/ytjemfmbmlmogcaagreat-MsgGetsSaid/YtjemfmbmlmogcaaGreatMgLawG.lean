/-
  Messages' laws, from what msg's functions tell.
-/
import Derived.Test.YtjemfmbmlmogcaaGreatMgGetsWalk
namespace Go.Proofs.YtjemfmbmlmogcaaGreat
set_option maxRecDepth 20000
open Go.RowKit
theorem lawMsgGets_all (v : Value) (l : List UInt8) (w : World) (hv : Byt w v l) :
    Calls Tryz.prog 4 #[v] w fun e w' => e = .returned (.bool true) ∧ Below w.heap.size w w' :=
  lawMsgGets_any mgPut_ok mgGet_ok v l w hv
end Go.Proofs.YtjemfmbmlmogcaaGreat
