/-
  Attestations' laws, from what att's functions tell (XAtCode).
-/
import Derived.Test.YtmhchihcgliinaaDoorAtCode
import Derived.Test.YtmhchihcgliinaaDoorAtPutsWalk
import Derived.Test.YtmhchihcgliinaaDoorAtReadsWalk
import Derived.Test.YtmhchihcgliinaaDoorAtAlikesWalk
namespace Go.Proofs.YtmhchihcgliinaaDoor
set_option maxRecDepth 20000
open Go.RowKit

theorem atAwake_all (w : World) (hK : Kst 0 w) : Calls Tryd.prog 6 #[] w fun e w' => e = .returned (.bool true) ∧ Below w.heap.size w w' := atAwake_any atSign_ok atRight_ok atAlike_ok w hK
theorem lawAttPuts_all (a : AtM) (v1 : Value) (l1 : List UInt8) (v2 : Value) (l2 : List UInt8) (w : World) (ha : a.Ok) (hv1 : Byt w v1 l1) (hv2 : Byt w v2 l2) (hK : Kst 0 w) :
    Calls Tryd.prog 3 #[.agg (atc a), v1, v2] w fun e w' => e = .returned (.bool true) ∧ Below w.heap.size w w' :=
  lawAttPuts_any atPut_ok atRead_ok atAwake_all a v1 l1 v2 l2 w ha hv1 hv2 hK
theorem lawAttReads_all (v : Value) (l : List UInt8) (w : World) (hv : Byt w v l) (hK : Kst 0 w) :
    Calls Tryd.prog 4 #[v] w fun e w' => e = .returned (.bool true) ∧ Below w.heap.size w w' :=
  lawAttReads_any atRead_ok atAwake_all v l w hv hK
theorem lawAttAlikes_all {P : Prop} (a b c : AtM) (n : Int) (f : Nat → UInt8) (w : World) (ho : a.Ok ∧ b.Ok ∧ c.Ok) (_ : P) (hK : Kst 0 w) :
    Calls Tryd.prog 5 #[.agg (at3c a b c), .int .i64 n, .agg (fcells 32 fun j => bcell (f j))] w fun e w' => e = .returned (.bool true) ∧ Below w.heap.size w w' :=
  lawAttAlikes_any atSign_ok atRight_ok atAlike_ok a b c n f w ho hK
end Go.Proofs.YtmhchihcgliinaaDoor
