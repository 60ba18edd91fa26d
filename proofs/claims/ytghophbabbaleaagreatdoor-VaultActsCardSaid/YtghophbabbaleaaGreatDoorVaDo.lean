/-
  tithinglaw14.Do: what an act tells is as it must be. Printed with genvacts.py.
-/
import Derived.Test.YtghophbabbaleaaGreatDoorVaDoK
import Derived.Test.YtghophbabbaleaaGreatDoorVaDoN
import Derived.Test.YtghophbabbaleaaGreatDoorVaDoS
import Derived.Test.YtghophbabbaleaaGreatDoorVaDoT
import Derived.Test.YtghophbabbaleaaGreatDoorVaDoY
namespace Go.Proofs.YtghophbabbaleaaGreatDoor
set_option maxRecDepth 20000
open Go.RowKit
theorem do14_any {b c a : Nat} (V : VaM) (C : Array Value) (x : ActM) (s3 : Value) (Ls : List OldM) (w : World) (hv : Vlt w b c a V) (g : V.Good) (hC : RvC w C V) (hx : ActOk w x) (hxl : x.bl.length ≤ 1200) (ho : Els ocl 2 w s3 Ls) (hoo : ∀ o ∈ Ls, OldOk w o)
    (hKT : ∀ W, Turn b a w W → Kst 1 W ∧ Kst 0 W) :
    Calls Tryz.prog 10 #[.pointer (some ⟨b, 0, none⟩), .agg C, .agg (acc x), s3] w (DoPost b c a w) := by
  by_cases d0 : x.act = 0
  · exact doK_any V C x s3 Ls w hv g hC hx hxl ho hoo (.inl d0) hKT
  by_cases d1 : x.act = 1
  · exact doK_any V C x s3 Ls w hv g hC hx hxl ho hoo (.inr d1) hKT
  by_cases d2 : x.act = 2
  · exact doS_any V C x s3 Ls w hv g hC hx hxl ho hoo d2 hKT
  by_cases d3 : x.act = 3
  · by_cases r : 0 ≤ x.k ∧ x.k < (Ls.length : Int)
    · exact doY_any V C x s3 Ls w hv g hC hx hxl ho hoo d3 r hKT
    · exact doN_any V C x s3 Ls w hv g hC hx hxl ho hoo d3 r hKT
  exact doT_any V C x s3 Ls w hv g hC hx hxl ho hoo ⟨d0, d1, d2, d3⟩ hKT
end Go.Proofs.YtghophbabbaleaaGreatDoor
