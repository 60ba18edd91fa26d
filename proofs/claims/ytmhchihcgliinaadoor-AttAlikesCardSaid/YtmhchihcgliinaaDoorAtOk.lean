/-
  What att's functions must tell. The laws' small example.
-/
import Derived.Test.YtmhchihcgliinaaDoorBs6
import Derived.Test.YtmhchihcgliinaaDoorBs1
namespace Go.Proofs.YtmhchihcgliinaaDoor
set_option maxRecDepth 20000
open Go.RowKit

def AtCheckOk : Prop := ∀ (a : AtM) (w : World), a.Ok → Calls Tryd.prog 18 #[.agg (atc a)] w fun e w' => e = .returned (.int .i64 (if mayA a = true then 0 else 1)) ∧ Below w.heap.size w w'
def AtSignOk : Prop := ∀ (a : AtM) (w : World), a.Ok → mayA a = true → Kst 0 w → Calls Tryd.prog 16 #[.agg (atc a)] w fun e w' => e = .returned (.agg (atc (signA a))) ∧ Below w.heap.size w w'
def AtRightOk : Prop := ∀ (a : AtM) (w : World), a.Ok → Kst 0 w → Calls Tryd.prog 17 #[.agg (atc a)] w fun e w' => e = .returned (.bool (rightA a)) ∧ Below w.heap.size w w'
def AtAlikeOk : Prop := ∀ (a b : AtM) (w : World), a.Ok → b.Ok → Calls Tryd.prog 15 #[.agg (atc a), .agg (atc b)] w fun e w' => e = .returned (.bool (alikeA a b)) ∧ Below w.heap.size w w'
/-- Bytes with an attestation's behind. -/
def putA (l : List UInt8) (a : AtM) : List UInt8 := if mayA a = true then l ++ bytesA a else l
def AtPutOk : Prop := ∀ (v : Value) (l : List UInt8) (a : AtM) (w : World), Byt w v l → l.length ≤ 1000000 → a.Ok → Calls Tryd.prog 7 #[v, .agg (atc a)] w fun e w' => ∃ x, e = .returned x ∧ Byt w' x (putA l a) ∧ Below w.heap.size w w'
def AtReadOk : Prop := ∀ (g : Nat) (l : List UInt8) (p : Nat) (r : Bool) (w : World), Rdr w g l p r → l.length ≤ 1000000 →
  Calls Tryd.prog 12 #[.pointer (some ⟨g, 0, none⟩)] w fun e w' => e = .returned (.tuple #[.agg (atc (atOf l p r)), .bool (atIs l p r)]) ∧ (∃ p' r', Rdr w' g l p' r' ∧ (atIs l p r = true → p' = (rawA l p r).2.1 ∧ r' = true)) ∧ w.grownBy w' (some g)

/-- The tag is stored into an attestation's variable, in a region walked by hand. -/
theorem wp_store_tag {op : Oper} {ac : Act} {w : World} {K : Act → World → Prop} {Q : Exit → Act → World → Prop} (x y : Operand) (ho : op.op = .store 23 x y)
    {g : Nat} {a : AtM} {h : List UInt8} (hx : ac.eval x = .pointer (some ⟨g, 69, none⟩)) (hy : ac.eval y = .agg (hcells h)) (hg : BoxA w g a) (hok : a.Ok) (hl : h.length = 32)
    (hh : ∀ w', w.grownBy w' (some g) → BoxA w' g { a with tg := h } → w'.heap.size = w.heap.size → K (ac.put op.dst undef) w') : op.wp Tryd.prog ac w K Q := by
  have hpre : ([.int .i64 a.bo, .int .i64 a.ki, .int .i64 a.vi, .int .i64 a.ph] ++ (bcells a.ha ++ ([.int .i64 a.pv] ++ bcells a.pa)) : List Value).length = 69 := by simp only [List.length_append, bcells_length, hok.ha, hok.pa, List.length_cons, List.length_nil]
  refine wp_store_mid _ x y ho g 69 (hcells h) hx hy (fun j hj => ⟨?_, hg.free _⟩) (by rw [size_hash, hcells_size, hl]) (hcells_one _) ?_
  · rw [hcells_size, hl] at hj
    rw [hg.cell, List.getElem?_eq_getElem (by rw [atl_length hok]; omega)]
    rfl
  · rw [hcells_list]
    refine hh _ (grown_setCells g _ _ _) ?_ (setCells_size g _ _ _)
    unfold BoxA atc at hg ⊢
    rw [atl_tag] at hg ⊢
    have := setCells_row (bcells h) 69 w _ hg
    rw [← hpre, putAt_mid (bcells h) _ (bcells a.tg) [] (by rw [bcells_length, bcells_length, hl, hok.tg])] at this
    rw [← hpre]
    exact this

/-- The small example's attestation, before it is signed. -/
def exA : AtM := ⟨2, 1, 3, 1, z32, 2, z32, z32⟩
theorem exA_ok : exA.Ok := ⟨rfl, rfl, rfl⟩
theorem exA_may : mayA exA = true := by decide
end Go.Proofs.YtmhchihcgliinaaDoor
