/-
  What the groups lack.
-/
import Derived.Test.YticnhdlmkkmjmaaDoorBs1
import Derived.Test.YticnhdlmkkmjmaaDoorBs2
import Derived.Test.YticnhdlmkkmjmaaDoorBs3
import Derived.Test.YticnhdlmkkmjmaaDoorBs4
import Derived.Test.YticnhdlmkkmjmaaDoorBs5
import Derived.Test.YticnhdlmkkmjmaaDoorBs6
import Derived.Test.YticnhdlmkkmjmaaDoorBs7
import Derived.Test.YticnhdlmkkmjmaaDoorBs8
import Derived.Test.YticnhdlmkkmjmaaDoorBs9
import Derived.Test.YticnhdlmkkmjmaaDoorBs10
import Derived.Test.YticnhdlmkkmjmaaDoorBs11
import Derived.Test.YticnhdlmkkmjmaaDoorBs12
import Derived.Test.YticnhdlmkkmjmaaDoorBs13
import Derived.Test.YticnhdlmkkmjmaaDoorBs14
import Derived.Lib.LaidTab
import Derived.MakeChecks
import Derived.LaidMore
import Derived.Stop.Joined
namespace Go.Proofs.YticnhdlmkkmjmaaDoor
set_option maxRecDepth 20000
open Go.RowKit
def eight (v : Nat → Value) : Array Value := #[v 0, v 1, v 2, v 3, v 4, v 5, v 6, v 7]
end Go.Proofs.YticnhdlmkkmjmaaDoor
namespace Go.Proofs.YticnhdlmkkmjmaaDoor
set_option maxRecDepth 20000
open Go.ChangeShapes Go.WideShapes Go.ChangeAt Go.RowKit
theorem one_met {W : World} (h : laidMetH Tryd.prog [("tithing/sha.constants", Rows.laid_tithing_sha_constants)] W) : Kst 1 W := by
  rw [MakeChecks.laidMetH_plain _ _ _ (by kernel_rfl), laid_sha] at h
  exact kst_of gSha tSha h
theorem door_one (os : Os) (args : Array Value) : laidMetH Tryd.prog [("tithing/sha.constants", Rows.laid_tithing_sha_constants)] ((World.doorLaid Tryd.prog 400 os).forCall (fun _ _ => 0) ⟨#[], args, []⟩).memory :=
  laidMetH_of_parts3 (fuel := 8) (laidMet_of_run' 8 (by kernel_rfl) (by kernel_rfl)) (by kernel_rfl) (by kernel_rfl)
end Go.Proofs.YticnhdlmkkmjmaaDoor
