/-
  Two hashes and a place that came in by value.
-/
import Derived.Test.YtgcagidkeacheaaDoorMacOfWalk
import Derived.Test.YtgcagidkeacheaaDoorArgs
namespace Go.Proofs.YtgcagidkeacheaaDoor
open Go.ChangeShapes Go.WideShapes Go.ChangeAt Go.RowKit

theorem under_two : ∃ f0 f1 f2 : Field, Tryd.prog.underlying 44 = some (.struct #[f0, f1, f2]) ∧ (f0.type, f0.offset) = (26, 0) ∧ (f1.type, f1.offset) = (26, 32) ∧ (f2.type, f2.offset) = (23, 64) :=
  ⟨_, _, _, Tryd.underlying44, rfl, rfl, rfl⟩

theorem trod_hashF {H : Type} {enc : TypeId × Value → H} {w : World} {base : Nat} {spare : Nat → Bool} {held : Bool} {fuel : Nat} {cs : List Value} {x : DataW H × List MemPlace}
    (h : DataW.trod enc Tryd.prog w base spare held fuel 26 cs = some x) : ∃ f : Nat → UInt8, cs = (fcells 32 fun j => bcell (f j)).toList := by
  obtain ⟨hl, hc⟩ := open_arr arrH.under Tryd.underlying5 arrH.ecells (by kernel_rfl) h
  exact bytes_of hl hc

theorem trod_two {H : Type} {enc : TypeId × Value → H} {w : World} {base : Nat} {spare : Nat → Bool} {held : Bool} {fuel : Nat} {cs : List Value} {x : DataW H × List MemPlace}
    (h : DataW.trod enc Tryd.prog w base spare held fuel 44 cs = some x) : ∃ (f g : Nat → UInt8) (a : Nat), a ≤ 65535 ∧ cs = (fcells 65 (twoF f g a)).toList := by
  obtain ⟨f0, f1, f2, hu, e0, e1, e2⟩ := under_two
  injection e0 with t0 o0
  injection e1 with t1 o1
  injection e2 with t2 o2
  obtain ⟨xs, m, _, _, hlen, hxl, hf⟩ := DataW.trod_struct hu h
  have hc : Tryd.prog.cellsOf 44 = 65 := by kernel_rfl
  have hc0 : Tryd.prog.cellsOf 26 = 32 := by kernel_rfl
  have hc2 : Tryd.prog.cellsOf 23 = 1 := by kernel_rfl
  rw [hc] at hlen
  have hx : xs.length = 3 := hxl
  have g0 := hf 0 f0 rfl
  have g1 := hf 1 f1 rfl
  have g2 := hf 2 f2 rfl
  rw [t0, o0, hc0, List.getElem?_eq_getElem (by omega)] at g0
  rw [t1, o1, hc0, List.getElem?_eq_getElem (by omega)] at g1
  rw [t2, o2, hc2, List.getElem?_eq_getElem (by omega)] at g2
  obtain ⟨f, ef⟩ := trod_hashF g0
  obtain ⟨g, eg⟩ := trod_hashF g1
  obtain ⟨n, en, _, hw⟩ := DataW.trod_int Tryd.underlying23 g2
  have hr : 0 ≤ n ∧ n ≤ 65535 := by simpa [Lit.wf, IntKind.min, IntKind.max, IntKind.signed, IntKind.bits] using hw
  refine ⟨f, g, n.toNat, by omega, ?_⟩
  apply List.ext_getElem?
  intro i
  rw [fcells_list]
  by_cases h32 : i < 32
  · have h1 := congrArg (fun l => l[i]?) ef
    simp only [List.drop_zero, List.getElem?_take_of_lt h32, fcells_list, if_pos h32] at h1
    rw [h1, if_pos (by omega)]
    unfold twoF
    rw [if_pos h32]
  · by_cases h64 : i < 64
    · have h1 := congrArg (fun l => l[i - 32]?) eg
      simp only [List.getElem?_take_of_lt (show i - 32 < 32 by omega), List.getElem?_drop, fcells_list, if_pos (show i - 32 < 32 by omega)] at h1
      rw [show 32 + (i - 32) = i from by omega] at h1
      rw [h1, if_pos (by omega)]
      unfold twoF
      rw [if_neg h32, if_pos h64]
    · by_cases h65 : i < 65
      · obtain rfl : i = 64 := by omega
        have h1 := congrArg (fun l => l[0]?) en
        simp only [List.getElem?_take_of_lt (show 0 < 1 by omega), List.getElem?_drop, Nat.add_zero] at h1
        rw [h1, if_pos (by omega)]
        unfold twoF
        rw [if_neg (by omega), if_neg (by omega), Int.toNat_of_nonneg hr.1]
        rfl
      · rw [if_neg h65, List.getElem?_eq_none (by omega)]
end Go.Proofs.YtgcagidkeacheaaDoor
