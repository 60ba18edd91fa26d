/-
  Three attestations, as they came in by value.
-/
import Derived.Test.YtmhchihcgliinaaDoorBs7
namespace Go.Proofs.YtmhchihcgliinaaDoor
set_option maxRecDepth 20000
open Go.ChangeShapes Go.WideShapes Go.ChangeAt Go.RowKit Go.Deep

/-- Three attestations' cells. -/
def at3c (a b c : AtM) : Array Value := (atl a ++ (atl b ++ atl c)).toArray
theorem under_at3 : Tryd.prog.underlying 43 = some (.array 3 25) := by kernel_rfl
section
variable {H : Type} {enc : TypeId × Value → H} {w : World} {base : Nat} {spare : Nat → Bool} {held : Bool} {fuel : Nat} {cs : List Value} {x : DataW H × List MemPlace}
theorem trod_at3 (h : DataW.trod enc Tryd.prog w base spare held fuel 43 cs = some x) : ∃ a b c : AtM, (a.Ok ∧ b.Ok ∧ c.Ok) ∧ cs = (at3c a b c).toList := by
  obtain ⟨xs, m, _, _, hl, hn, hel⟩ := DataW.trod_array under_at3 h
  have hct : Tryd.prog.cellsOf 43 = 303 := by kernel_rfl
  have hce : Tryd.prog.cellsOf 25 = 101 := by kernel_rfl
  rw [hct] at hl
  have g0 := hel 0 (by omega)
  have g1 := hel 1 (by omega)
  have g2 := hel 2 (by omega)
  rw [hce, List.getElem?_eq_getElem (by omega)] at g0 g1 g2
  obtain ⟨a, oa, e0⟩ := trod_at g0
  obtain ⟨b, ob, e1⟩ := trod_at g1
  obtain ⟨c, oc, e2⟩ := trod_at g2
  refine ⟨a, b, c, ⟨oa, ob, oc⟩, ?_⟩
  have e : cs = cs.drop (0 * 101) := rfl
  rw [e, drop_part e0, show 0 * 101 + 101 = 1 * 101 from rfl, drop_part e1, show 1 * 101 + 101 = 2 * 101 from rfl, drop_part e2, List.drop_eq_nil_of_le (by omega)]
  unfold at3c
  simp only [List.append_nil]
end
end Go.Proofs.YtmhchihcgliinaaDoor
