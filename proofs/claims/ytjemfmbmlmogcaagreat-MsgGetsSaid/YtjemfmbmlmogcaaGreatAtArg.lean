/-
  An attestation, as it came in by value.
-/
import Derived.Test.YtjemfmbmlmogcaaGreatBs12
namespace Go.Proofs.YtjemfmbmlmogcaaGreat
set_option maxRecDepth 20000
open Go.ChangeShapes Go.WideShapes Go.ChangeAt Go.RowKit Go.Deep
theorem drop_part {α : Type} {cs l : List α} {o k : Nat} (h : (cs.drop o).take k = l) : cs.drop o = l ++ cs.drop (o + k) := by
  conv => lhs; rw [← List.take_append_drop k (cs.drop o), List.drop_drop, h]
section
variable {H : Type} {enc : TypeId × Value → H} {w : World} {base : Nat} {spare : Nat → Bool} {held : Bool} {fuel : Nat} {cs : List Value} {x : DataW H × List MemPlace}
theorem fields_at : ∃ f0 f1 f2 f3 f4 f5 f6 f7 : Field, Tryz.prog.underlying 25 = some (.struct #[f0, f1, f2, f3, f4, f5, f6, f7]) ∧ (f0.type, f0.offset) = (3, 0) ∧ (f1.type, f1.offset) = (3, 1) ∧ (f2.type, f2.offset) = (3, 2)
    ∧ (f3.type, f3.offset) = (3, 3) ∧ (f4.type, f4.offset) = (23, 4) ∧ (f5.type, f5.offset) = (3, 36) ∧ (f6.type, f6.offset) = (23, 37) ∧ (f7.type, f7.offset) = (23, 69) :=
  ⟨_, _, _, _, _, _, _, _, Tryz.underlying25, rfl, rfl, rfl, rfl, rfl, rfl, rfl, rfl⟩
theorem trod_at (h : DataW.trod enc Tryz.prog w base spare held fuel 25 cs = some x) : ∃ a : AtM, a.Ok ∧ cs = atl a := by
  obtain ⟨f0, f1, f2, f3, f4, f5, f6, f7, hu, e0, e1, e2, e3, e4, e5, e6, e7⟩ := fields_at
  injection e0 with t0 o0
  injection e1 with t1 o1
  injection e2 with t2 o2
  injection e3 with t3 o3
  injection e4 with t4 o4
  injection e5 with t5 o5
  injection e6 with t6 o6
  injection e7 with t7 o7
  obtain ⟨xs, m, _, _, hlen, hxl, hf⟩ := DataW.trod_struct hu h
  have hc : Tryz.prog.cellsOf 25 = 101 := by kernel_rfl
  have hci : Tryz.prog.cellsOf 3 = 1 := by kernel_rfl
  have hch : Tryz.prog.cellsOf 23 = 32 := by kernel_rfl
  rw [hc] at hlen
  have hx : xs.length = 8 := hxl
  have g0 := hf 0 f0 rfl
  have g1 := hf 1 f1 rfl
  have g2 := hf 2 f2 rfl
  have g3 := hf 3 f3 rfl
  have g4 := hf 4 f4 rfl
  have g5 := hf 5 f5 rfl
  have g6 := hf 6 f6 rfl
  have g7 := hf 7 f7 rfl
  rw [t0, o0, hci, List.getElem?_eq_getElem (by omega)] at g0
  rw [t1, o1, hci, List.getElem?_eq_getElem (by omega)] at g1
  rw [t2, o2, hci, List.getElem?_eq_getElem (by omega)] at g2
  rw [t3, o3, hci, List.getElem?_eq_getElem (by omega)] at g3
  rw [t4, o4, hch, List.getElem?_eq_getElem (by omega)] at g4
  rw [t5, o5, hci, List.getElem?_eq_getElem (by omega)] at g5
  rw [t6, o6, hch, List.getElem?_eq_getElem (by omega)] at g6
  rw [t7, o7, hch, List.getElem?_eq_getElem (by omega)] at g7
  obtain ⟨n0, c0, _, _⟩ := DataW.trod_int Tryz.underlying3 g0
  obtain ⟨n1, c1, _, _⟩ := DataW.trod_int Tryz.underlying3 g1
  obtain ⟨n2, c2, _, _⟩ := DataW.trod_int Tryz.underlying3 g2
  obtain ⟨n3, c3, _, _⟩ := DataW.trod_int Tryz.underlying3 g3
  obtain ⟨ha, h4, c4⟩ := trod_hash g4
  obtain ⟨n5, c5, _, _⟩ := DataW.trod_int Tryz.underlying3 g5
  obtain ⟨pa, h6, c6⟩ := trod_hash g6
  obtain ⟨tg, h7, c7⟩ := trod_hash g7
  refine ⟨⟨n0, n1, n2, n3, ha, n5, pa, tg⟩, ⟨h4, h6, h7⟩, ?_⟩
  have e : cs = cs.drop 0 := rfl
  rw [e, drop_part c0, drop_part c1, drop_part c2, drop_part c3, drop_part c4, drop_part c5, drop_part c6, drop_part c7, List.drop_eq_nil_of_le (by omega)]
  unfold atl
  simp only [List.append_nil, List.cons_append, List.nil_append]
theorem trod_att (h : DataW.trod enc Tryz.prog w base spare held fuel 25 cs = some x) : ∃ a : AtM, a.Ok ∧ cs = (atc a).toList := by
  obtain ⟨a, ho, e⟩ := trod_at h
  exact ⟨a, ho, e⟩
end
end Go.Proofs.YtjemfmbmlmogcaaGreat
