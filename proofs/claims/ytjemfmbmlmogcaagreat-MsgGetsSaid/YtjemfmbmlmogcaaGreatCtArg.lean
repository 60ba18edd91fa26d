/-
  A certificate, a list of attestations, as they came in by value.
-/
import Derived.Test.YtjemfmbmlmogcaaGreatAtArg
import Derived.Test.YtjemfmbmlmogcaaGreatElsArg
namespace Go.Proofs.YtjemfmbmlmogcaaGreat
set_option maxRecDepth 20000
open Go.ChangeShapes Go.WideShapes Go.ChangeAt Go.RowKit Go.Deep
section
variable {H : Type} {enc : TypeId × Value → H} {w : World} {base : Nat} {spare : Nat → Bool} {held : Bool} {fuel : Nat} {cs : List Value} {x : DataW H × List MemPlace}
theorem fields_sg2 : ∃ f0 f1 : Field, Tryz.prog.underlying 111 = some (.struct #[f0, f1]) ∧ (f0.type, f0.offset) = (3, 0) ∧ (f1.type, f1.offset) = (23, 1) :=
  ⟨_, _, Tryz.underlying111, rfl, rfl⟩
theorem trod_sg (h : DataW.trod enc Tryz.prog w base spare held fuel 111 cs = some x) : ∃ s : SgM, s.Ok ∧ cs = scl s := by
  obtain ⟨f0, f1, hu, e0, e1⟩ := fields_sg2
  injection e0 with t0 o0
  injection e1 with t1 o1
  obtain ⟨xs, m, _, _, hlen, hxl, hf⟩ := DataW.trod_struct hu h
  have hc : Tryz.prog.cellsOf 111 = 33 := by kernel_rfl
  have hci : Tryz.prog.cellsOf 3 = 1 := by kernel_rfl
  have hch : Tryz.prog.cellsOf 23 = 32 := by kernel_rfl
  rw [hc] at hlen
  have hx : xs.length = 2 := hxl
  have g0 := hf 0 f0 rfl
  have g1 := hf 1 f1 rfl
  rw [t0, o0, hci, List.getElem?_eq_getElem (by omega)] at g0
  rw [t1, o1, hch, List.getElem?_eq_getElem (by omega)] at g1
  obtain ⟨n0, c0, _, _⟩ := DataW.trod_int Tryz.underlying3 g0
  obtain ⟨tg, h1, c1⟩ := trod_hash g1
  refine ⟨⟨n0, tg⟩, h1, ?_⟩
  have e : cs = cs.drop 0 := rfl
  rw [e, drop_part c0, drop_part c1, List.drop_eq_nil_of_le (by omega)]
  unfold scl
  simp only [List.append_nil, List.cons_append, List.nil_append]
theorem trod_sgs (h : DataW.trod enc Tryz.prog w base spare held fuel 26 cs = some x) : ∃ v L, cs = [v] ∧ Els scl 33 w v L ∧ ∀ s ∈ L, s.Ok :=
  eltSg.trod sgZ sgZ_ok (fun h => trod_sg h) h
theorem fields_ct : ∃ f0 f1 : Field, Tryz.prog.underlying 28 = some (.struct #[f0, f1]) ∧ (f0.type, f0.offset) = (25, 0) ∧ (f1.type, f1.offset) = (26, 101) :=
  ⟨_, _, Tryz.underlying28, rfl, rfl⟩
theorem trod_ct (h : DataW.trod enc Tryz.prog w base spare held fuel 28 cs = some x) : ∃ c : CtM, CtV w (.agg cs.toArray) c := by
  obtain ⟨f0, f1, hu, e0, e1⟩ := fields_ct
  injection e0 with t0 o0
  injection e1 with t1 o1
  obtain ⟨xs, m, _, _, hlen, hxl, hf⟩ := DataW.trod_struct hu h
  have hc : Tryz.prog.cellsOf 28 = 102 := by kernel_rfl
  have hca : Tryz.prog.cellsOf 25 = 101 := by kernel_rfl
  have hcs : Tryz.prog.cellsOf 26 = 1 := by kernel_rfl
  rw [hc] at hlen
  have hx : xs.length = 2 := hxl
  have g0 := hf 0 f0 rfl
  have g1 := hf 1 f1 rfl
  rw [t0, o0, hca, List.getElem?_eq_getElem (by omega)] at g0
  rw [t1, o1, hcs, List.getElem?_eq_getElem (by omega)] at g1
  obtain ⟨a, ha, c0⟩ := trod_at g0
  obtain ⟨v, L, c1, hv, hL⟩ := trod_sgs g1
  refine ⟨⟨a, L⟩, v, ?_, ⟨ha, hL⟩, hv⟩
  have e : cs = cs.drop 0 := rfl
  rw [e, drop_part c0, drop_part c1, List.drop_eq_nil_of_le (by omega)]
  unfold ctc
  simp only [List.append_nil]
end
end Go.Proofs.YtjemfmbmlmogcaaGreat
