/-
  Accumulations' laws, from what accu's functions tell (XAcCode).
-/
import Derived.Test.YthgdgkdnidjdgaaDoorAcCode
import Derived.Test.YthgdgkdnidjdgaaDoorAcAwake
import Derived.Test.YthgdgkdnidjdgaaDoorAcArg
import Derived.Test.YthgdgkdnidjdgaaDoorAcMakesWalk
import Derived.Test.YthgdgkdnidjdgaaDoorAcRightWalk
import Derived.Test.YthgdgkdnidjdgaaDoorAcPutsWalk
namespace Go.Proofs.YthgdgkdnidjdgaaDoor
set_option maxRecDepth 20000
open Go.RowKit

theorem acAwake_all : AcAwakeOk := acAwake_any acMake_ok acRight_ok
theorem lawAccuMakes_all (b n m : Int) (v : Value) (l : List AtM) (w : World) (hx : (Lit.int .i64 b).wf = true ∧ (Lit.int .i64 n).wf = true ∧ (Lit.int .i64 m).wf = true) (hv : Els atl 101 w v l) (ho : ∀ x ∈ l, x.Ok) (hK1 : Kst 0 w) (hK0 : Kst 1 w) :
    Calls Tryd.prog 3 #[.agg #[.int .i64 b, .int .i64 n, .int .i64 m], v] w fun e w' => e = .returned (.bool true) ∧ Below w.heap.size w w' :=
  lawAccuMakes_any acMake_ok acRight_ok acAwake_all b n m v l w hx hv ho hK1 hK0
theorem lawAccuRight_all (n : Int) (va : Value) (a : AcM) (vb : Value) (b : AcM) (w : World) (hn : (Lit.int .i64 n).wf = true) (hva : AcV w va a) (hvb : AcV w vb b) (hK1 : Kst 0 w) (hK0 : Kst 1 w) :
    Calls Tryd.prog 4 #[.int .i64 n, va, vb] w fun e w' => e = .returned (.bool true) ∧ Below w.heap.size w w' :=
  lawAccuRight_any acRight_ok acSame_ok acAwake_all n va a vb b w hn hva hvb hK1 hK0
theorem lawAccuPuts_all (v0 : Value) (a : AcM) (v1 : Value) (l1 : List UInt8) (v2 : Value) (l2 : List UInt8) (w : World) (hv0 : AcV w v0 a) (hv1 : Byt w v1 l1) (hv2 : Byt w v2 l2) (hK : Kst 0 w) :
    Calls Tryd.prog 5 #[v0, v1, v2] w fun e w' => e = .returned (.bool true) ∧ Below w.heap.size w w' :=
  lawAccuPuts_any acPut_ok acRead_ok acAwake_all v0 a v1 l1 v2 l2 w hv0 hv1 hv2 hK
end Go.Proofs.YthgdgkdnidjdgaaDoor
