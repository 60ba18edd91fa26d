/-
  Certificates' laws, from what cert's functions tell (XCtCode).
-/
import Derived.Test.YtnancafpecfcjaaDoorCtCode
import Derived.Test.YtnancafpecfcjaaDoorCtAwake
import Derived.Test.YtnancafpecfcjaaDoorCtMakesWalk
import Derived.Test.YtnancafpecfcjaaDoorCtRightWalk
import Derived.Test.YtnancafpecfcjaaDoorCtPutsWalk
import Derived.Test.YtnancafpecfcjaaDoorCtMeetWalk
namespace Go.Proofs.YtnancafpecfcjaaDoor
set_option maxRecDepth 20000
open Go.RowKit

theorem ctAwake_all : CtAwakeOk := ctAwake_any ctMake_ok ctRight_ok ctSigners_ok
theorem lawCertMakes_all (n : Int) (v : Value) (l : List AtM) (w : World) (hn : (Lit.int .i64 n).wf = true) (hv : Els atl 101 w v l) (ho : ∀ x ∈ l, x.Ok) (hK1 : Kst 0 w) (hK0 : Kst 1 w) :
    Calls Tryd.prog 3 #[.int .i64 n, v] w fun e w' => e = .returned (.bool true) ∧ Below w.heap.size w w' :=
  lawCertMakes_any ctMake_ok ctRight_ok ctSigners_ok ctAwake_all n v l w hn hv ho hK1 hK0
theorem lawCertRight_all (n : Int) (va : Value) (a : CtM) (vb : Value) (b : CtM) (w : World) (hn : (Lit.int .i64 n).wf = true) (hva : CtV w va a) (hvb : CtV w vb b) (hK1 : Kst 0 w) (hK0 : Kst 1 w) :
    Calls Tryd.prog 4 #[.int .i64 n, va, vb] w fun e w' => e = .returned (.bool true) ∧ Below w.heap.size w w' :=
  lawCertRight_any ctRight_ok ctSame_ok ctAwake_all n va a vb b w hn hva hvb hK1 hK0
theorem lawCertPuts_all (v0 : Value) (c : CtM) (v1 : Value) (l1 : List UInt8) (v2 : Value) (l2 : List UInt8) (w : World) (hv0 : CtV w v0 c) (hv1 : Byt w v1 l1) (hv2 : Byt w v2 l2) (hK : Kst 0 w) :
    Calls Tryd.prog 5 #[v0, v1, v2] w fun e w' => e = .returned (.bool true) ∧ Below w.heap.size w w' :=
  lawCertPuts_any ctPut_ok ctRead_ok ctAwake_all v0 c v1 l1 v2 l2 w hv0 hv1 hv2 hK
theorem lawCertMeet_all (n : Int) (v1 : Value) (l1 : List AtM) (v2 : Value) (l2 : List AtM) (w : World) (hn : (Lit.int .i64 n).wf = true) (hv1 : Els atl 101 w v1 l1) (ho1 : ∀ x ∈ l1, x.Ok) (hv2 : Els atl 101 w v2 l2) (ho2 : ∀ x ∈ l2, x.Ok) (hK : Kst 0 w) :
    Calls Tryd.prog 6 #[.int .i64 n, v1, v2] w fun e w' => e = .returned (.bool true) ∧ Below w.heap.size w w' :=
  lawCertMeet_any ctMake_ok ctSigners_ok ctAwake_all n v1 l1 v2 l2 w hn hv1 ho1 hv2 ho2 hK
end Go.Proofs.YtnancafpecfcjaaDoor
