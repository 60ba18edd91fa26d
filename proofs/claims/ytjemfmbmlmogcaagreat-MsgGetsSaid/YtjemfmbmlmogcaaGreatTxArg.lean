/-
  A transaction, as it came in by value.
-/
import Derived.Test.YtjemfmbmlmogcaaGreatBs3
import Derived.Test.YtjemfmbmlmogcaaGreatBs4
namespace Go.Proofs.YtjemfmbmlmogcaaGreat
set_option maxRecDepth 20000
open Go.ChangeShapes Go.WideShapes Go.ChangeAt Go.RowKit
theorem fields_tx : ∃ f0 f1 f2 f3 f4 f5 f6 : Field, Tryz.prog.underlying 36 = some (.struct #[f0, f1, f2, f3, f4, f5, f6]) ∧ (f0.type, f0.offset) = (3, 0) ∧ (f1.type, f1.offset) = (3, 1) ∧ (f2.type, f2.offset) = (3, 2)
    ∧ (f3.type, f3.offset) = (3, 3) ∧ (f4.type, f4.offset) = (3, 4) ∧ (f5.type, f5.offset) = (9, 5) ∧ (f6.type, f6.offset) = (9, 6) :=
  ⟨_, _, _, _, _, _, _, Tryz.underlying36, rfl, rfl, rfl, rfl, rfl, rfl, rfl⟩
theorem cell_of_part {cs : List Value} {o : Nat} {v : Value} (e : (cs.drop o).take 1 = [v]) : cs[o]? = some v := by
  have h1 := congrArg (fun l => l[0]?) e
  simp only [List.getElem?_take_of_lt (show 0 < 1 by omega), List.getElem?_drop, Nat.add_zero] at h1
  exact h1
theorem trod_tx {H : Type} {enc : TypeId × Value → H} {w : World} {base : Nat} {spare : Nat → Bool} {held : Bool} {fuel : Nat} {cs : List Value} {x : DataW H × List MemPlace}
    (h : DataW.trod enc Tryz.prog w base spare held fuel 36 cs = some x) : ∃ t : TxM, (t.key.length ≤ maxLen ∧ t.val.length ≤ maxLen) ∧ cs = (#[.int .i64 t.fr, .int .i64 t.no, .int .i64 t.ki, .int .i64 t.to, .int .i64 t.am, .string (sb t.key), .string (sb t.val)] : Array Value).toList := by
  obtain ⟨f0, f1, f2, f3, f4, f5, f6, hu, e0, e1, e2, e3, e4, e5, e6⟩ := fields_tx
  injection e0 with t0 o0
  injection e1 with t1 o1
  injection e2 with t2 o2
  injection e3 with t3 o3
  injection e4 with t4 o4
  injection e5 with t5 o5
  injection e6 with t6 o6
  obtain ⟨xs, m, _, _, hlen, hxl, hf⟩ := DataW.trod_struct hu h
  have hc : Tryz.prog.cellsOf 36 = 7 := by kernel_rfl
  have hci : Tryz.prog.cellsOf 3 = 1 := by kernel_rfl
  have hcs : Tryz.prog.cellsOf 9 = 1 := by kernel_rfl
  rw [hc] at hlen
  have hx : xs.length = 7 := hxl
  have g0 := hf 0 f0 rfl
  have g1 := hf 1 f1 rfl
  have g2 := hf 2 f2 rfl
  have g3 := hf 3 f3 rfl
  have g4 := hf 4 f4 rfl
  have g5 := hf 5 f5 rfl
  have g6 := hf 6 f6 rfl
  rw [t0, o0, hci, List.getElem?_eq_getElem (by omega)] at g0
  rw [t1, o1, hci, List.getElem?_eq_getElem (by omega)] at g1
  rw [t2, o2, hci, List.getElem?_eq_getElem (by omega)] at g2
  rw [t3, o3, hci, List.getElem?_eq_getElem (by omega)] at g3
  rw [t4, o4, hci, List.getElem?_eq_getElem (by omega)] at g4
  rw [t5, o5, hcs, List.getElem?_eq_getElem (by omega)] at g5
  rw [t6, o6, hcs, List.getElem?_eq_getElem (by omega)] at g6
  obtain ⟨n0, c0, _, _⟩ := DataW.trod_int Tryz.underlying3 g0
  obtain ⟨n1, c1, _, _⟩ := DataW.trod_int Tryz.underlying3 g1
  obtain ⟨n2, c2, _, _⟩ := DataW.trod_int Tryz.underlying3 g2
  obtain ⟨n3, c3, _, _⟩ := DataW.trod_int Tryz.underlying3 g3
  obtain ⟨n4, c4, _, _⟩ := DataW.trod_int Tryz.underlying3 g4
  obtain ⟨s5, c5, _, h5⟩ := DataW.trod_string Tryz.underlying9 g5
  obtain ⟨s6, c6, _, h6⟩ := DataW.trod_string Tryz.underlying9 g6
  refine ⟨⟨n0, n1, n2, n3, n4, bs s5, bs s6⟩, ⟨by simpa [bs] using h5, by simpa [bs] using h6⟩, ?_⟩
  have d0 := cell_of_part c0
  have d1 := cell_of_part c1
  have d2 := cell_of_part c2
  have d3 := cell_of_part c3
  have d4 := cell_of_part c4
  have d5 := cell_of_part c5
  have d6 := cell_of_part c6
  rw [sb_bs, sb_bs]
  apply List.ext_getElem?
  intro i
  match i with
  | 0 => exact d0
  | 1 => exact d1
  | 2 => exact d2
  | 3 => exact d3
  | 4 => exact d4
  | 5 => exact d5
  | 6 => exact d6
  | i + 7 => rw [List.getElem?_eq_none (by omega)]; rfl
end Go.Proofs.YtjemfmbmlmogcaaGreat
