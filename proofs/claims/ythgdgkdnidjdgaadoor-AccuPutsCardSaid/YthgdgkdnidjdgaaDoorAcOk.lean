/-
  What accu's functions must tell.
-/
import Derived.Test.YthgdgkdnidjdgaaDoorAcWords
import Derived.Test.YthgdgkdnidjdgaaDoorBs10
import Derived.Test.YthgdgkdnidjdgaaDoorBs1
namespace Go.Proofs.YthgdgkdnidjdgaaDoor
set_option maxRecDepth 20000
open Go.RowKit

def AcMakeOk : Prop := ∀ (b n vi : Int) (v : Value) (l : List AtM) (w : World), (Lit.int .i64 b).wf = true → (Lit.int .i64 n).wf = true → (Lit.int .i64 vi).wf = true → Els atl 101 w v l → (∀ a ∈ l, a.Ok) → l.length ≤ 1000 → Kst 0 w →
  Calls Tryd.prog 7 #[.int .i64 b, .int .i64 n, .int .i64 vi, v] w fun e w' => ∃ x, e = .returned (.tuple #[x, .int .i64 (makeX b n vi l).2]) ∧ AcV w' x (makeX b n vi l).1 ∧ Below w.heap.size w w'
def AcRightOk : Prop := ∀ (n : Int) (v : Value) (a : AcM) (w : World), (Lit.int .i64 n).wf = true → AcV w v a → a.fr.length ≤ 1000 → Kst 0 w →
  Calls Tryd.prog 10 #[.int .i64 n, v] w fun e w' => e = .returned (.bool (rightX n a)) ∧ Below w.heap.size w w'
def AcSameOk : Prop := ∀ (v u : Value) (a b : AcM) (w : World), AcV w v a → AcV w u b → a.fr.length ≤ 1000 → b.fr.length ≤ 1000 → Calls Tryd.prog 12 #[v, u] w fun e w' => e = .returned (.bool (decide (a = b))) ∧ Below w.heap.size w w'
/-- Bytes with an accumulation's behind. -/
def putX (l : List UInt8) (a : AcM) : List UInt8 := if mayX a = true then l ++ bytesX a else l
def AcPutOk : Prop := ∀ (v u : Value) (l : List UInt8) (a : AcM) (w : World), Byt w v l → l.length ≤ 1000000 → AcV w u a → a.fr.length ≤ 1000 → Calls Tryd.prog 17 #[v, u] w fun e w' => ∃ x, e = .returned x ∧ Byt w' x (putX l a) ∧ Below w.heap.size w w'
def AcReadOk : Prop := ∀ (g : Nat) (l : List UInt8) (p : Nat) (r : Bool) (w : World), Rdr w g l p r → l.length ≤ 1000000 →
  Calls Tryd.prog 14 #[.pointer (some ⟨g, 0, none⟩)] w fun e w' => ∃ x, e = .returned (.tuple #[x, .bool (acIs l p r)]) ∧ AcV w' x (acOf l p r) ∧ (∃ p' r', Rdr w' g l p' r' ∧ (acIs l p r = true → p' = (rawX l p r).2.1 ∧ r' = true)) ∧ w.grownBy w' (some g)
def AcAwakeOk : Prop := ∀ (w : World), Kst 0 w → Calls Tryd.prog 6 #[] w fun e w' => e = .returned (.bool true) ∧ Below w.heap.size w w'
theorem axc_35 {a : AcM} (s : Value) (ho : a.Ok) : (axc a s)[35]? = some s := by
  unfold axc
  rw [List.getElem?_toArray, axl_pre, List.getElem?_append_right (by simp), List.getElem?_append_right (by rw [bcells_length, ho.pa]; simp)]
  rw [bcells_length, ho.pa]
  rfl
theorem accu_thru {a b c : World} (h : Below a.heap.size a b) (k : Below b.heap.size b c) : Below a.heap.size a c := h.trans (k.mono h.size)
end Go.Proofs.YthgdgkdnidjdgaaDoor
