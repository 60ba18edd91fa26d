/-
  What the groups lack.
-/
import Derived.Test.YtpnejoglkmfleaaDoorBs1
import Derived.Test.YtpnejoglkmfleaaDoorBs2
import Derived.Test.YtpnejoglkmfleaaDoorBs3
import Derived.Test.YtpnejoglkmfleaaDoorBs4
import Derived.Test.YtpnejoglkmfleaaDoorBs5
import Derived.Test.YtpnejoglkmfleaaDoorBs6
import Derived.Test.YtpnejoglkmfleaaDoorBs7
import Derived.Test.YtpnejoglkmfleaaDoorBs8
import Derived.Test.YtpnejoglkmfleaaDoorBs9
import Derived.Test.YtpnejoglkmfleaaDoorBs10
import Derived.Test.YtpnejoglkmfleaaDoorBs11
import Derived.Test.YtpnejoglkmfleaaDoorBs12
import Derived.Test.YtpnejoglkmfleaaDoorBs13
import Derived.Test.YtpnejoglkmfleaaDoorBs14
import Derived.Test.YtpnejoglkmfleaaDoorBs15
import Derived.Lib.LaidTab
import Derived.MakeChecks
import Derived.LaidMore
import Derived.Stop.Joined
import Derived.Deep.MidRow
import Derived.Maps.AppendAt
namespace Go.Proofs.YtpnejoglkmfleaaDoor
set_option maxRecDepth 20000
theorem alikeA_comm (a b : AtM) : alikeA a b = alikeA b a := by
  rw [Bool.eq_iff_iff, alikeA_iff, alikeA_iff]
  constructor <;> (rintro ⟨h1, h2, h3, h4, h5, h6⟩; exact ⟨h1.symm, h2.symm, h3.symm, h4.symm, h5.symm, h6.symm⟩)
theorem alikeA_trans {a b c : AtM} (h : alikeA a b = true) (k : alikeA b c = true) : alikeA a c = true := by
  rw [alikeA_iff] at h k ⊢
  obtain ⟨h1, h2, h3, h4, h5, h6⟩ := h
  obtain ⟨k1, k2, k3, k4, k5, k6⟩ := k
  exact ⟨h1.trans k1, h2.trans k2, h3.trans k3, h4.trans k4, h5.trans k5, h6.trans k6⟩
end Go.Proofs.YtpnejoglkmfleaaDoor
namespace Go.Proofs.YtpnejoglkmfleaaDoor
set_option maxRecDepth 20000
open Go.ChangeShapes Go.WideShapes Go.ChangeAt Go.RowKit
theorem one_met {W : World} (h : laidMetH Tryd.prog [("tithing/sha.constants", Rows.laid_tithing_sha_constants)] W) : Kst 1 W := by
  rw [MakeChecks.laidMetH_plain _ _ _ (by kernel_rfl), laid_sha] at h
  exact kst_of gSha tSha h
theorem door_one (os : Os) (args : Array Value) : laidMetH Tryd.prog [("tithing/sha.constants", Rows.laid_tithing_sha_constants)] ((World.doorLaid Tryd.prog 400 os).forCall (fun _ _ => 0) ⟨#[], args, []⟩).memory :=
  laidMetH_of_parts3 (fuel := 8) (laidMet_of_run' 8 (by kernel_rfl) (by kernel_rfl)) (by kernel_rfl) (by kernel_rfl)
end Go.Proofs.YtpnejoglkmfleaaDoor
namespace Go.Proofs.YtpnejoglkmfleaaDoor
set_option maxRecDepth 20000
open Go.RowKit
theorem right_sign {a : AtM} (h : mayA a = true) : rightA (signA a) = true := by
  unfold rightA
  rw [show mayA (signA a) = mayA a from rfl, h, show tagA (signA a) = tagA a from rfl]
  exact decide_eq_true rfl
end Go.Proofs.YtpnejoglkmfleaaDoor
namespace Go.Proofs.YtpnejoglkmfleaaDoor
set_option maxRecDepth 20000
open Go.RowKit
theorem atc_bo (a : AtM) (n : Int) : (atc a).setIfInBounds 0 (.int .i64 n) = atc { a with bo := n } := by
  unfold atc atl
  rw [List.setIfInBounds_toArray]
  rfl
attribute [local go_sem ↓] exec_load_att exec_alloc_att exec_store_att
end Go.Proofs.YtpnejoglkmfleaaDoor
namespace Go.Proofs.YtpnejoglkmfleaaDoor
set_option maxRecDepth 20000
open Go.RowKit
section
variable {α : Type} {ec : α → List Value} {P : α → Prop} {n : Nat} {T SL : TypeId} {w w' : World} {v : Value} {L : List α} {B : Nat}
theorem OwnE.far (h : OwnE ec n T B w v L) {g : Nat} (hg : w.grownBy w' (some g)) (hB : g < B) : OwnE ec n T B w' v L := h.keep fun b hlt e => hg.block b hlt (fun e' => by
  have := (World.ownsRow.lt h b e).1
  injection e' with e'
  omega)
end
end Go.Proofs.YtpnejoglkmfleaaDoor
