/-
  The laws of records and of turned bits.
-/
import Derived.Test.YtpecdlafeelkoaaCrcNextOk
namespace Go.Proofs.Ytpecdlafeelkoaa
open Go.RowKit

theorem lawCrcRecords_all (v1 : Value) (b : List UInt8) (v2 : Value) (m : List UInt8) (w : World) (hv1 : Byt w v1 b) (hv2 : Byt w v2 m) :
    Calls Try.prog 4 #[v1, v2] w fun e w' => e = .returned (.bool true) ∧ Below w.heap.size w w' := lawCrcRecords_any record_ok record_none next_ok v1 b v2 m w hv1 hv2
theorem lawCrcTurns_all (v1 : Value) (l : List UInt8) (at' bt : Nat) (w : World) (hv1 : Byt w v1 l) (hat : at' ≤ 65535) (hbt : bt ≤ 4294967295) :
    Calls Try.prog 5 #[v1, .int .u16 (at' : Int), .int .u32 (bt : Int)] w fun e w' => e = .returned (.bool true) ∧ Below w.heap.size w w' := lawCrcTurns_any record_ok next_ok v1 l at' bt w hv1 hat hbt
end Go.Proofs.Ytpecdlafeelkoaa
