/-
  A hash that came in by value, as a field.
-/
import Derived.Test.YtakigopjbbhjkaaDoorArgs
namespace Go.Proofs.YtakigopjbbhjkaaDoor
open Go.ChangeShapes Go.WideShapes Go.ChangeAt Go.RowKit

theorem trod_hashF {H : Type} {enc : TypeId × Value → H} {w : World} {base : Nat} {spare : Nat → Bool} {held : Bool} {fuel : Nat} {cs : List Value} {x : DataW H × List MemPlace}
    (h : DataW.trod enc Tryd.prog w base spare held fuel 23 cs = some x) : ∃ f : Nat → UInt8, cs = (fcells 32 fun j => bcell (f j)).toList := by
  obtain ⟨hl, hc⟩ := open_arr arrH.under Tryd.underlying5 arrH.ecells (by kernel_rfl) h
  exact bytes_of hl hc

end Go.Proofs.YtakigopjbbhjkaaDoor
