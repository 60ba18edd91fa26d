/-
  What tx's functions must tell, and the law's small example.
-/
import Derived.Test.YtefngncieagobaaTxRd
import Derived.Test.YtefngncieagobaaReader
import Derived.Deep.MidRow
namespace Go.Proofs.Ytefngncieagobaa
open Go.RowKit

/-- A load of a whole transaction: kept whole. -/
noncomputable def loadTx (v : Value) (w : World) : Result Next := Sem.run Try.prog (execOp (fun _ => v) { dst := none, op := .load 27 (.tmp 0), type := 0, pos := "", after := #[], guard := none }) w
theorem exec_load_tx (r : Operand → Value) (x : Operand) (dst : Option Tmp) (ty : TypeId) (pos : String) (after : Array Edge) (guard : Option (Nat × Bool)) (w : World) :
    Sem.run Try.prog (execOp r { dst := dst, op := .load 27 x, type := ty, pos := pos, after := after, guard := guard }) w = loadTx (r x) w := rfl
theorem under_txs : Try.prog.underlying 27 = some (.struct (Try.prog.fieldsOf 27)) := by kernel_rfl
theorem loadTx_eq {w : World} {b : Nat} {C : Array Value} {T : TypeId} (h : w.heap[b]? = some (.cells C T (0, 0))) (hs : C.size = 7) : loadTx (.pointer (some ⟨b, 0, none⟩)) w = .ok (.value (.agg C)) w := by
  have := run_loadAt_mid (P := Try.prog) w b 0 27 C.toList _ (fun j v hj => by rw [Nat.zero_add, cell_blk h j]; simpa using hj) under_txs rfl (by rw [show (Try.prog.info? 27).map (·.size) = some 7 from by kernel_rfl]; simp [hs])
  simp only [Array.toArray_toList] at this
  unfold loadTx execOp
  simp only [Sem.run_bind, this, Result.andThen_ok, Sem.run_pure]

def lessT (a b : TxM) : Bool := decide (a.fr < b.fr) || (decide (a.fr = b.fr) && decide (a.no < b.no))
def lightT (t : TxM) : Prop := t.key.length ≤ 70000 ∧ t.val.length ≤ 70000
def TxLessOk : Prop := ∀ (a b : TxM) (w : World), Calls Try.prog 12 #[txv a, txv b] w fun e w' => e = .returned (.bool (lessT a b)) ∧ Below w.heap.size w w'
def putT (l : List UInt8) (t : TxM) : List UInt8 := if mayT t = true then l ++ bytesT t else l
def TxPutOk : Prop := ∀ (v : Value) (l : List UInt8) (t : TxM) (w : World), Byt w v l → l.length ≤ 1000000 → lightT t →
  Calls Try.prog 11 #[v, txv t] w fun e w' => ∃ x, e = .returned x ∧ Byt w' x (putT l t) ∧ Below w.heap.size w w'
def TxReadOk : Prop := ∀ (g : Nat) (l : List UInt8) (p : Nat) (r : Bool) (w : World), Rdr w g l p r → l.length ≤ 1000000 →
  Calls Try.prog 7 #[.pointer (some ⟨g, 0, none⟩)] w fun e w' => e = .returned (.tuple #[txv (rdTx l p r), .bool (rdIs l p r)]) ∧ (∃ p' r', Rdr w' g l p' r' ∧ (rdIs l p r = true → p' = (rdRaw l p r).2.1 ∧ r' = true)) ∧ w.grownBy w' (some g)

/-- The small example's transaction. -/
def exT : TxM := ⟨3, 1, 2, 0, 0, [97], []⟩
theorem exT_bytes : bytesT exT = [3, 1, 2, 1, 97, 0] := by decide +kernel
theorem exT_may : mayT exT = true := by decide +kernel
theorem exT_put : putT [] exT = [3, 1, 2, 1, 97, 0] := by unfold putT; rw [if_pos exT_may, exT_bytes]; rfl
theorem exT_read : rdIs [3, 1, 2, 1, 97, 0] 0 true = true ∧ rdTx [3, 1, 2, 1, 97, 0] 0 true = exT := by
  have h := rdTx_back (t := exT) (L := [3, 1, 2, 1, 97, 0]) (r := []) (p := 0) exT_may (by rw [exT_bytes]; rfl)
  exact ⟨h.1, h.2.1⟩

set_option maxHeartbeats 1600000 in
theorem txAwake_any (hPut : TxPutOk) (hRead : TxReadOk) (w : World) : Calls Try.prog 5 #[] w fun e w' => e = .returned (.bool true) ∧ Below w.heap.size w w' := by
  have HPT := hid hPut
  have HRD := hid hRead
  clear hPut hRead
  go_enter Try.func5, Try.ntmps5
  go_wp2_with fail
  have C := HPT.out (.slice none 0 0) [] exT w (Byt.nil w) (by decide) (by unfold lightT; decide)
  rw [exT_put] at C
  refine C.mono ?_
  clear C
  rintro e w1 ⟨v1, rfl, hb1, hw1⟩
  obtain ⟨A1, c1, rfl⟩ := hb1.shape
  go_wp2_with fail
  refine (read_any _ _ w1 hb1 (by decide)).mono ?_
  rintro e w2 ⟨g, rfl, hg, hr2, hw2⟩
  go_wp2_with fail
  have C := HRD.out g _ 0 true w2 hr2 (by decide)
  rw [exT_read.1, exT_read.2] at C
  refine C.mono ?_
  clear C
  rintro e w3 ⟨rfl, _, hw3⟩
  have hb3 : Below w.heap.size w w3 := (hw1.trans (hw2.mono hw1.size)).grown hw3 (Nat.le_trans hw1.size hw2.size) (fun k hk => by
    injection hk with hk
    have := hw1.size
    omega)
  have hex : txv exT = .agg #[.int .i64 3, .int .i64 1, .int .i64 2, .int .i64 0, .int .i64 0, .string (sb [97]), .string (sb [])] := rfl
  rw [hex]
  clear hex hb1 hw1 hw2 hr2 hg hw3
  go_wp2_with fail
  go_ret
  exact ⟨congrArg (fun b => Ending.returned (Value.bool b)) (show ((sb [97]).toList == [97]) = true by rw [sb_toList]; rfl), hb3.alloc hb3.size _⟩
end Go.Proofs.Ytefngncieagobaa
