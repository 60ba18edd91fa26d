/-
  A row of the call's own stays where a later one is made and filled.
-/
import Derived.Test.YtakigopjbbhjkaaDoorFill
namespace Go.Proofs.YtakigopjbbhjkaaDoor
open Go.RowKit

theorem keep_new {w w' : World} {B N : Nat} {v v' : Value} {l : List UInt8} (h : Own B w v l) (h1 : ∀ k, v.ownBlock = some k → k < N) (hg : w.grownBy w' v'.ownBlock) (h2 : ∀ k, v'.ownBlock = some k → N ≤ k) : Own B w' v l :=
  h.keep fun b hb e => hg.block b hb (fun e2 => by
    have := h1 b e
    have := h2 b e2.symm
    omega)

end Go.Proofs.YtakigopjbbhjkaaDoor
