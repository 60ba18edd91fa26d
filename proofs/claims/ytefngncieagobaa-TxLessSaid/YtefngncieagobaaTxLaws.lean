/-
  The laws of transactions, from what tx's functions tell (XTxCode has these).
-/
import Derived.Test.YtefngncieagobaaTxCode
import Derived.Test.YtefngncieagobaaTxLessWalk
import Derived.Test.YtefngncieagobaaTxReadsWalk
import Derived.Test.YtefngncieagobaaTxArg
namespace Go.Proofs.Ytefngncieagobaa
open Go.RowKit

theorem lawTxLess_all (a b c : TxM) (w : World) (_h1 : a.key.length ≤ maxLen ∧ a.val.length ≤ maxLen) (_h2 : b.key.length ≤ maxLen ∧ b.val.length ≤ maxLen) (_h3 : c.key.length ≤ maxLen ∧ c.val.length ≤ maxLen) :
    Calls Try.prog 4 #[txv a, txv b, txv c] w fun e w' => e = .returned (.bool true) ∧ Below w.heap.size w w' := lawTxLess_any txLess_ok txPut_ok txRead_ok a b c w
theorem lawTxReads_all (v : Value) (l : List UInt8) (w : World) (hv : Byt w v l) :
    Calls Try.prog 3 #[v] w fun e w' => e = .returned (.bool true) ∧ Below w.heap.size w w' := lawTxReads_any txPut_ok txRead_ok v l w hv
end Go.Proofs.Ytefngncieagobaa
