/-
  An accumulation, who asks, a list of attestations, as they came in by value.
-/
import Derived.Test.YtjemfmbmlmogcaaGreatBs21
import Derived.Test.YtjemfmbmlmogcaaGreatAtArg
import Derived.Test.YtjemfmbmlmogcaaGreatElsArg
namespace Go.Proofs.YtjemfmbmlmogcaaGreat
set_option maxRecDepth 20000
open Go.ChangeShapes Go.WideShapes Go.ChangeAt Go.RowKit Go.Deep
section
variable {H : Type} {enc : TypeId × Value → H} {w : World} {base : Nat} {spare : Nat → Bool} {held : Bool} {fuel : Nat} {cs : List Value} {x : DataW H × List MemPlace}
theorem trod_ics (h : DataW.trod enc Tryz.prog w base spare held fuel 29 cs = some x) : ∃ v L, cs = [v] ∧ Els icl 1 w v L := by
  obtain ⟨v, L, h1, h2, _⟩ := eltIc.trod 0 trivial (fun h => by
    obtain ⟨n, e, _, _⟩ := DataW.trod_int Tryz.underlying3 h
    exact ⟨n, trivial, e⟩) h
  exact ⟨v, L, h1, h2⟩
theorem fields_ac : ∃ f0 f1 f2 f3 f4 f5 : Field, Tryz.prog.underlying 31 = some (.struct #[f0, f1, f2, f3, f4, f5]) ∧ (f0.type, f0.offset) = (3, 0) ∧ (f1.type, f1.offset) = (3, 1) ∧ (f2.type, f2.offset) = (3, 2) ∧ (f3.type, f3.offset) = (23, 3) ∧ (f4.type, f4.offset) = (29, 35) ∧ (f5.type, f5.offset) = (23, 36) :=
  ⟨_, _, _, _, _, _, Tryz.underlying31, rfl, rfl, rfl, rfl, rfl, rfl⟩
theorem trod_ac (h : DataW.trod enc Tryz.prog w base spare held fuel 31 cs = some x) : ∃ a : AcM, AcV w (.agg cs.toArray) a := by
  obtain ⟨f0, f1, f2, f3, f4, f5, hu, e0, e1, e2, e3, e4, e5⟩ := fields_ac
  injection e0 with t0 o0
  injection e1 with t1 o1
  injection e2 with t2 o2
  injection e3 with t3 o3
  injection e4 with t4 o4
  injection e5 with t5 o5
  obtain ⟨xs, m, _, _, hlen, hxl, hf⟩ := DataW.trod_struct hu h
  have hc : Tryz.prog.cellsOf 31 = 68 := by kernel_rfl
  have hci : Tryz.prog.cellsOf 3 = 1 := by kernel_rfl
  have hch : Tryz.prog.cellsOf 23 = 32 := by kernel_rfl
  have hcs : Tryz.prog.cellsOf 29 = 1 := by kernel_rfl
  rw [hc] at hlen
  have hx : xs.length = 6 := hxl
  have g0 := hf 0 f0 rfl
  have g1 := hf 1 f1 rfl
  have g2 := hf 2 f2 rfl
  have g3 := hf 3 f3 rfl
  have g4 := hf 4 f4 rfl
  have g5 := hf 5 f5 rfl
  rw [t0, o0, hci, List.getElem?_eq_getElem (by omega)] at g0
  rw [t1, o1, hci, List.getElem?_eq_getElem (by omega)] at g1
  rw [t2, o2, hci, List.getElem?_eq_getElem (by omega)] at g2
  rw [t3, o3, hch, List.getElem?_eq_getElem (by omega)] at g3
  rw [t4, o4, hcs, List.getElem?_eq_getElem (by omega)] at g4
  rw [t5, o5, hch, List.getElem?_eq_getElem (by omega)] at g5
  obtain ⟨n0, c0, _, _⟩ := DataW.trod_int Tryz.underlying3 g0
  obtain ⟨n1, c1, _, _⟩ := DataW.trod_int Tryz.underlying3 g1
  obtain ⟨n2, c2, _, _⟩ := DataW.trod_int Tryz.underlying3 g2
  obtain ⟨pa, h3, c3⟩ := trod_hash g3
  obtain ⟨v, L, c4, hv⟩ := trod_ics g4
  obtain ⟨tg, h5, c5⟩ := trod_hash g5
  refine ⟨⟨n0, n1, n2, pa, L, tg⟩, v, ?_, ⟨h3, h5⟩, hv⟩
  have e : cs = cs.drop 0 := rfl
  rw [e, drop_part c0, drop_part c1, drop_part c2, drop_part c3, drop_part c4, drop_part c5, List.drop_eq_nil_of_le (by omega)]
  unfold axc axl
  simp only [List.append_nil, List.cons_append, List.nil_append]
end
end Go.Proofs.YtjemfmbmlmogcaaGreat
