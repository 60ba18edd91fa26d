/-
  Blobs' laws, from what blob's functions tell (XSeCode).
-/
import Derived.Test.YtifkkpfiejiojaaDoorSeCode
import Derived.Test.YtifkkpfiejiojaaDoorSeGetsWalk
import Derived.Test.YtifkkpfiejiojaaDoorSePutsWalk
namespace Go.Proofs.YtifkkpfiejiojaaDoor
set_option maxRecDepth 20000
open Go.RowKit
theorem seAwake_all (w : World) (hK : Kst 1 w) : Calls Tryd.prog 10 #[] w fun e w' => e = .returned (.bool true) ∧ Below w.heap.size w w' := seAwake_any sePut_ok seGet_ok w hK
theorem lawBlobPuts_all (i n : Int) (a b : SeM) (w : World) (hi : (Lit.int .i64 i).wf = true) (hn : (Lit.int .i64 n).wf = true) (ho : a.Ok ∧ b.Ok) (hK : Kst 1 w) (hK2 : Kst 0 w) :
    Calls Tryd.prog 3 #[.int .i64 i, .int .i64 n, .agg (se2c a b)] w fun e w' => e = .returned (.bool true) ∧ Below w.heap.size w w' :=
  lawBlobPuts_any seCheck_ok seLess_ok sePut_ok seGet_ok seAwake_all i n a b w hi hn ho hK hK2
theorem lawBlobGets_all (i : Int) (v : Value) (l : List UInt8) (w : World) (hi : (Lit.int .i64 i).wf = true) (hv : Byt w v l) (hK : Kst 1 w) (hK2 : Kst 0 w) :
    Calls Tryd.prog 4 #[.int .i64 i, v] w fun e w' => e = .returned (.bool true) ∧ Below w.heap.size w w' :=
  lawBlobGets_any seGet_ok seAwake_all i v l w hi hv hK hK2
end Go.Proofs.YtifkkpfiejiojaaDoor
