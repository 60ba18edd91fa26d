/-
  What is asked, as it came in by value.
-/
import Derived.Test.YtakigopjbbhjkaaDoorTagsWalk
import Derived.Test.YtakigopjbbhjkaaDoorTrod
namespace Go.Proofs.YtakigopjbbhjkaaDoor
open Go.ChangeShapes Go.WideShapes Go.ChangeAt Go.RowKit

theorem under_asked : ∃ f0 f1 f2 : Field, Tryd.prog.underlying 25 = some (.struct #[f0, f1, f2]) ∧ (f0.type, f0.offset) = (3, 0) ∧ (f1.type, f1.offset) = (5, 1) ∧ (f2.type, f2.offset) = (23, 2) :=
  ⟨_, _, _, Tryd.underlying25, rfl, rfl, rfl⟩

theorem trod_asked {H : Type} {enc : TypeId × Value → H} {w : World} {base : Nat} {spare : Nat → Bool} {held : Bool} {fuel : Nat} {cs : List Value} {x : DataW H × List MemPlace}
    (h : DataW.trod enc Tryd.prog w base spare held fuel 25 cs = some x) : ∃ (i : Int) (d : UInt8) (f : Nat → UInt8), (Lit.int .i64 i).wf = true ∧ cs = (fcells 34 (askF i d f)).toList := by
  obtain ⟨f0, f1, f2, hu, e0, e1, e2⟩ := under_asked
  injection e0 with t0 o0
  injection e1 with t1 o1
  injection e2 with t2 o2
  obtain ⟨xs, m, _, _, hlen, hxl, hf⟩ := DataW.trod_struct hu h
  have hc : Tryd.prog.cellsOf 25 = 34 := by kernel_rfl
  have hc0 : Tryd.prog.cellsOf 3 = 1 := by kernel_rfl
  have hc1 : Tryd.prog.cellsOf 5 = 1 := by kernel_rfl
  have hc2 : Tryd.prog.cellsOf 23 = 32 := by kernel_rfl
  rw [hc] at hlen
  have hx : xs.length = 3 := hxl
  have g0 := hf 0 f0 rfl
  have g1 := hf 1 f1 rfl
  have g2 := hf 2 f2 rfl
  rw [t0, o0, hc0, List.getElem?_eq_getElem (by omega)] at g0
  rw [t1, o1, hc1, List.getElem?_eq_getElem (by omega)] at g1
  rw [t2, o2, hc2, List.getElem?_eq_getElem (by omega)] at g2
  obtain ⟨n, en, _, hwn⟩ := DataW.trod_int Tryd.underlying3 g0
  obtain ⟨y, ey, _, hwy⟩ := DataW.trod_int Tryd.underlying5 g1
  obtain ⟨f, ef⟩ := trod_hashF g2
  have hr : 0 ≤ y ∧ y ≤ 255 := by simpa [Lit.wf, IntKind.min, IntKind.max, IntKind.signed, IntKind.bits] using hwy
  refine ⟨n, UInt8.ofNat y.toNat, f, hwn, ?_⟩
  have hyd : ((UInt8.ofNat y.toNat).toNat : Int) = y := by
    rw [UInt8.toNat_ofNat']
    omega
  apply List.ext_getElem?
  intro i
  rw [fcells_list]
  by_cases h0 : i = 0
  · subst h0
    have h1 := congrArg (fun l => l[0]?) en
    simp only [List.getElem?_take_of_lt (show 0 < 1 by omega), List.getElem?_drop, Nat.add_zero] at h1
    rw [h1, if_pos (by omega)]
    rfl
  · by_cases h1' : i = 1
    · subst h1'
      have h1 := congrArg (fun l => l[0]?) ey
      simp only [List.getElem?_take_of_lt (show 0 < 1 by omega), List.getElem?_drop, Nat.add_zero] at h1
      rw [h1, if_pos (by omega)]
      unfold askF
      rw [if_neg (by omega), if_pos rfl, hyd]
      rfl
    · by_cases h34 : i < 34
      · have h1 := congrArg (fun l => l[i - 2]?) ef
        simp only [List.getElem?_take_of_lt (show i - 2 < 32 by omega), List.getElem?_drop, fcells_list, if_pos (show i - 2 < 32 by omega)] at h1
        rw [show 2 + (i - 2) = i from by omega] at h1
        rw [h1, if_pos h34]
        unfold askF
        rw [if_neg h0, if_neg h1']
      · rw [if_neg h34, List.getElem?_eq_none (by omega)]
end Go.Proofs.YtakigopjbbhjkaaDoor
