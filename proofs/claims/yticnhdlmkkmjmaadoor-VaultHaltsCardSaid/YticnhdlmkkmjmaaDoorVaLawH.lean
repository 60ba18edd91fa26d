/-
  VaultHalts, with all that it is told of what comes in.
-/
import Derived.Test.YticnhdlmkkmjmaaDoorVaHaltsWalk
namespace Go.Proofs.YticnhdlmkkmjmaaDoor
open Go.RowKit
theorem lawVaultHalts_all (i n : Int) (x y : Value) (l m : List UInt8) (w : World) (_ : (Lit.int .i64 i).wf = true) (_ : (Lit.int .i64 n).wf = true) (hb : Byt w x l ∧ Byt w y m) (hK : Kst 1 w) (hK2 : Kst 0 w) :
    Calls Tryd.prog 4 #[.int .i64 i, .int .i64 n, .agg #[x, y]] w fun e w' => e = .returned (.bool true) ∧ Below w.heap.size w w' := lawVaultHalts_any i n x y l m w hb.1 hb.2 hK hK2
end Go.Proofs.YticnhdlmkkmjmaaDoor
