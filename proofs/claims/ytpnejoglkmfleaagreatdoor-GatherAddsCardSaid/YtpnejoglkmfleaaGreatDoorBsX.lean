/-
  What the groups lack.
-/
import Derived.Test.YtpnejoglkmfleaaGreatDoorBs1
import Derived.Test.YtpnejoglkmfleaaGreatDoorBs2
import Derived.Test.YtpnejoglkmfleaaGreatDoorBs3
import Derived.Test.YtpnejoglkmfleaaGreatDoorBs4
import Derived.Test.YtpnejoglkmfleaaGreatDoorBs5
import Derived.Test.YtpnejoglkmfleaaGreatDoorBs6
import Derived.Test.YtpnejoglkmfleaaGreatDoorBs7
import Derived.Test.YtpnejoglkmfleaaGreatDoorBs8
import Derived.Test.YtpnejoglkmfleaaGreatDoorBs9
import Derived.Test.YtpnejoglkmfleaaGreatDoorBs10
import Derived.Test.YtpnejoglkmfleaaGreatDoorBs11
import Derived.Test.YtpnejoglkmfleaaGreatDoorBs12
import Derived.Test.YtpnejoglkmfleaaGreatDoorBs13
import Derived.Test.YtpnejoglkmfleaaGreatDoorBs14
import Derived.Test.YtpnejoglkmfleaaGreatDoorBs15
import Derived.Lib.LaidTab
import Derived.MakeChecks
import Derived.LaidMore
import Derived.Stop.Joined
namespace Go.Proofs.YtpnejoglkmfleaaGreatDoor
set_option maxRecDepth 20000
open Go.ChangeShapes Go.WideShapes Go.ChangeAt Go.RowKit
theorem one_met {W : World} (h : laidMetH Tryz.prog [("tithing/sha.constants", Rows.laid_tithing_sha_constants)] W) : Kst 0 W := by
  rw [MakeChecks.laidMetH_plain _ _ _ (by kernel_rfl), laid_sha] at h
  exact kst_of gSha tSha h
end Go.Proofs.YtpnejoglkmfleaaGreatDoor
namespace Go.Proofs.YtpnejoglkmfleaaGreatDoor
set_option maxRecDepth 20000
open Go.RowKit
theorem right_sign {a : AtM} (h : mayA a = true) : rightA (signA a) = true := by
  unfold rightA
  rw [show mayA (signA a) = mayA a from rfl, h, show tagA (signA a) = tagA a from rfl]
  exact decide_eq_true rfl
end Go.Proofs.YtpnejoglkmfleaaGreatDoor
namespace Go.Proofs.YtpnejoglkmfleaaGreatDoor
set_option maxRecDepth 20000
open Go.RowKit
theorem atc_bo (a : AtM) (n : Int) : (atc a).setIfInBounds 0 (.int .i64 n) = atc { a with bo := n } := by
  unfold atc atl
  rw [List.setIfInBounds_toArray]
  rfl
attribute [local go_sem ↓] exec_load_att exec_alloc_att exec_store_att
end Go.Proofs.YtpnejoglkmfleaaGreatDoor
