/-
  '!=' of whole seals; two lists of bytes as they came in by value.
-/
import Derived.Test.YtghophbabbaleaaGreatDoorBs11
import Derived.Test.YtghophbabbaleaaGreatDoorVaWords
namespace Go.Proofs.YtghophbabbaleaaGreatDoor
set_option maxRecDepth 20000
open Go.ChangeShapes Go.WideShapes Go.ChangeAt Go.RowKit Go.Deep
noncomputable def neSe (u v : Value) (w : World) : Result Next := Sem.run Tryz.prog (execOp (fun x => match x with
  | .tmp 0 => u
  | _ => v) { dst := none, op := .binOp .neq 40 (.tmp 0) (.tmp 1) 40, type := 0, pos := "", after := #[], guard := none }) w
theorem exec_ne_se (r : Operand → Value) (i j : Tmp) (dst : Option Tmp) (ty : TypeId) (pos : String) (after : Array Edge) (guard : Option (Nat × Bool)) (w : World) :
    Sem.run Tryz.prog (execOp r { dst := dst, op := .binOp .neq 40 (.tmp i) (.tmp j) 40, type := ty, pos := pos, after := after, guard := guard }) w = neSe (r (.tmp i)) (r (.tmp j)) w := rfl
theorem neSe_eq (a b : SeM) (ho : a.Ok) (hp : b.Ok) (w : World) : neSe (.agg (sec a)) (.agg (sec b)) w = .ok (.value (.bool (!decide (a = b)))) w := by
  have heq := fun W => eq_se a b ho hp W
  obtain ⟨q, HQ⟩ : ∃ q : Bool, Hid (decide (a = b) = q) := ⟨_, hid rfl⟩
  obtain ⟨C, HC⟩ : ∃ C : Array Value, Hid (sec a = C) := ⟨_, hid rfl⟩
  obtain ⟨D, HD⟩ : ∃ C : Array Value, Hid (sec b = C) := ⟨_, hid rfl⟩
  rw [HQ.out, HC.out, HD.out] at heq
  rw [HQ.out, HC.out, HD.out]
  unfold neSe
  go_simp
section
variable {H : Type} {enc : TypeId × Value → H} {w : World} {base : Nat} {spare : Nat → Bool} {held : Bool} {fuel : Nat} {cs : List Value} {x : DataW H × List MemPlace}
theorem trod_two (h : DataW.trod enc Tryz.prog w base spare held fuel 30 cs = some x) : ∃ v0 v1 l0 l1, (Byt w v0 l0 ∧ Byt w v1 l1) ∧ cs = [v0, v1] := by
  obtain ⟨xs, m, _, _, hl, hn, hel⟩ := DataW.trod_array under_two h
  have hct : Tryz.prog.cellsOf 30 = 2 := by kernel_rfl
  have hce : Tryz.prog.cellsOf 29 = 1 := by kernel_rfl
  rw [hct] at hl
  have g0 := hel 0 (by omega)
  have g1 := hel 1 (by omega)
  rw [hce, List.getElem?_eq_getElem (by omega)] at g0 g1
  obtain ⟨v0, l0, e0, b0⟩ := trod_bytes g0
  obtain ⟨v1, l1, e1, b1⟩ := trod_bytes g1
  refine ⟨v0, v1, l0, l1, ⟨b0, b1⟩, ?_⟩
  have e : cs = cs.drop (0 * 1) := rfl
  rw [e, drop_part e0, show 0 * 1 + 1 = 1 * 1 from rfl, drop_part e1, List.drop_eq_nil_of_le (by omega)]
  simp only [List.append_nil, List.cons_append, List.nil_append]
end
end Go.Proofs.YtghophbabbaleaaGreatDoor
