/-
  Arrays that came in by value: what is known of their cells.
-/
import Derived.Test.YtmhchihcgliinaaDoorTables
import Derived.OpenShut
import Derived.Stop.LaidErr
namespace Go.Proofs.YtmhchihcgliinaaDoor
set_option maxRecDepth 20000
open Go.ChangeShapes Go.WideShapes Go.ChangeAt Go.RowKit

theorem okWide_arr' {P : Program} {w : World} {r : Reach} {base : Nat} {v : Value} {t e : TypeId} {n : Nat} (ht : P.underlying t = some (.array n e)) (h : Value.okWide P w r base t v) : ∃ cs, v = .agg cs ∧ cs.size = P.cellsOf t := by
  cases v <;> simp [Value.okWide, ht] at h
  exact ⟨_, rfl, h.1⟩

theorem open_arr {H : Type} {enc : TypeId × Value → H} {w : World} {base : Nat} {spare : Nat → Bool} {held : Bool} {fuel : Nat} {t e : TypeId} {n : Nat} {k : IntKind} {cs : List Value} {x : DataW H × List MemPlace}
    (ht : Tryd.prog.underlying t = some (.array n e)) (he : Tryd.prog.underlying e = some (.int k)) (hce : Tryd.prog.cellsOf e = 1) (hct : Tryd.prog.cellsOf t = n)
    (h : DataW.trod enc Tryd.prog w base spare held fuel t cs = some x) : cs.length = n ∧ ∀ i, i < n → ∃ z, cs[i]? = some (.int k z) ∧ (Lit.int k z).wf = true := by
  obtain ⟨xs, m, _, _, hl, hn, hel⟩ := DataW.trod_array ht h
  rw [hct] at hl
  refine ⟨hl, fun i hi => ?_⟩
  have h1 := hel i hi
  rw [hce, Nat.mul_one, List.getElem?_eq_getElem (by omega : i < xs.length)] at h1
  obtain ⟨z, e1, e2, e3⟩ := DataW.trod_int he h1
  refine ⟨z, ?_, ?_⟩
  · have hi2 : i < cs.length := by omega
    have : (cs.drop i).take 1 = [cs[i]] := by
      rw [List.drop_eq_getElem_cons hi2]
      rfl
    rw [this] at e1
    rw [List.getElem?_eq_getElem hi2]
    injection e1 with e1 _
    rw [e1]
  · exact e3

def zof : Option Value → Nat
  | some (.int _ z) => z.toNat
  | _ => 0
theorem bytes_of {cs : List Value} {n : Nat} (hl : cs.length = n) (h : ∀ i, i < n → ∃ z, cs[i]? = some (.int .u8 z) ∧ (Lit.int .u8 z).wf = true) : ∃ f : Nat → UInt8, cs = (fcells n fun j => bcell (f j)).toList := by
  refine ⟨fun i => UInt8.ofNat (zof cs[i]?), ?_⟩
  apply List.ext_getElem?
  intro i
  rw [fcells_list]
  by_cases hi : i < n
  · obtain ⟨z, e, hw⟩ := h i hi
    have hr : 0 ≤ z ∧ z ≤ 255 := by simpa [Lit.wf, IntKind.min, IntKind.max, IntKind.signed, IntKind.bits] using hw
    rw [if_pos hi, e]
    have ez : zof cs[i]? = z.toNat := by rw [e]; rfl
    show some (Value.int .u8 z) = some (.int .u8 ((UInt8.ofNat (zof cs[i]?)).toNat : Int))
    rw [ez, UInt8.toNat_ofNat', show ((z.toNat % 2 ^ 8 : Nat) : Int) = z from by omega]
  · rw [if_neg hi, List.getElem?_eq_none (by omega)]
theorem words_of {cs : List Value} {n : Nat} (hl : cs.length = n) (h : ∀ i, i < n → ∃ z, cs[i]? = some (.int .u32 z) ∧ (Lit.int .u32 z).wf = true) : ∃ f : Nat → UInt32, cs = (fcells n fun j => wc (f j)).toList := by
  refine ⟨fun i => UInt32.ofNat (zof cs[i]?), ?_⟩
  apply List.ext_getElem?
  intro i
  rw [fcells_list]
  by_cases hi : i < n
  · obtain ⟨z, e, hw⟩ := h i hi
    have hr : 0 ≤ z ∧ z ≤ 4294967295 := by simpa [Lit.wf, IntKind.min, IntKind.max, IntKind.signed, IntKind.bits] using hw
    rw [if_pos hi, e]
    have ez : zof cs[i]? = z.toNat := by rw [e]; rfl
    show some (Value.int .u32 z) = some (.int .u32 (wv (UInt32.ofNat (zof cs[i]?))))
    rw [ez, wv_of _ (by omega), show ((z.toNat : Nat) : Int) = z from by omega]
  · rw [if_neg hi, List.getElem?_eq_none (by omega)]
theorem laid_tail {P : Program} {x : String × DataW Unit} {r : List (String × DataW Unit)} {w : World} (h : laidMet P (x :: r) w) : laidMet P r w := laidMet.tail h
end Go.Proofs.YtmhchihcgliinaaDoor
