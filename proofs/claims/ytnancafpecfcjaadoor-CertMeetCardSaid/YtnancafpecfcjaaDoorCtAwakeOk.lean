/-
  That the small example's walk is true: what the laws' walks take. How long what is made is.
-/
import Derived.Test.YtnancafpecfcjaaDoorBs10
import Derived.Test.YtnancafpecfcjaaDoorBs11
namespace Go.Proofs.YtnancafpecfcjaaDoor
set_option maxRecDepth 20000
open Go.RowKit

def CtAwakeOk : Prop := ∀ (w : World), Kst 0 w → Calls Tryd.prog 7 #[] w fun e w' => e = .returned (.bool true) ∧ Below w.heap.size w w'
theorem made_len {n : Int} {l : List AtM} : (makeC n l).1.sg.length ≤ 1000 := by
  rcases makeC_cases n l with ⟨h, _⟩ | ⟨h0, a0, r, rfl, h1, _, _, h4, h5⟩
  · rw [h]
    simp [ctZ]
  · rw [h5]
    simp only
    rw [h4]
    have hq : quoS n ≤ 21 := by
      unfold quoS
      split <;> omega
    omega
end Go.Proofs.YtnancafpecfcjaaDoor
