/-
  Messages' laws, from what msg's functions tell.
-/
import Derived.Test.YtjemfmbmlmogcaaGreatMgArg
import Derived.Test.YtjemfmbmlmogcaaGreatBs30
import Derived.Test.YtjemfmbmlmogcaaGreatMgPutsWalk
namespace Go.Proofs.YtjemfmbmlmogcaaGreat
set_option maxRecDepth 20000
open Go.RowKit
theorem lawMsgPuts_all (va : Value) (a : MgM) (vb : Value) (b : MgM) (w : World) (hva : MgV w va a) (hza : sizedM a) (hvb : MgV w vb b) (hzb : sizedM b) :
    Calls Tryz.prog 3 #[va, vb] w fun e w' => e = .returned (.bool true) ∧ Below w.heap.size w w' :=
  lawMsgPuts_any mgCheck_ok mgPut_ok mgGet_ok mgSame_ok va a vb b w hva hvb hza hzb
end Go.Proofs.YtjemfmbmlmogcaaGreat
