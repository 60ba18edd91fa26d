/-
  What the listed variables hold when the call begins: the constants.
-/
import Derived.Test.YtmhchihcgliinaaDoorBs4
import Derived.Test.YtmhchihcgliinaaDoorBs7
import Derived.Lib.LaidTab
import Derived.MakeChecks
import Derived.LaidMore
import Derived.Stop.Joined
namespace Go.Proofs.YtmhchihcgliinaaDoor
set_option maxRecDepth 20000
open Go.ChangeShapes Go.WideShapes Go.ChangeAt Go.RowKit

def kz : List Int := kl.map wv
theorem laid_sha : (Rows.laid_tithing_sha_constants : DataW Unit) = Lib.tabData .u32 kz := by kernel_rfl
theorem kz_at {i : Nat} (h : i < 64) : kz.getD i 0 = wv (kc i) := by
  have hl : kl.length = 64 := rfl
  unfold kz kc
  simp [List.getD_eq_getElem?_getD, hl, h]
theorem gSha : Tryd.prog.globalNamed "tithing/sha.constants" = some 0 := by kernel_rfl
theorem tSha : (Tryd.prog.globals[0]?).map (·.type) = some 90 := by kernel_rfl
theorem kst_of {name : String} {g : Nat} {W : World} {rest : List (String × DataW Unit)} (hg : Tryd.prog.globalNamed name = some g) (ht : (Tryd.prog.globals[g]?).map (·.type) = some 90)
    (h : laidMet Tryd.prog ((name, Lib.tabData .u32 kz) :: rest) W) : Kst g W := by
  have hT := Lib.tabIs_of_head hg ht Tryd.underlying90 Tryd.underlying82 (by kernel_rfl) (by kernel_rfl) h
  have hc : ∀ j, j < 64 → W.cell? ⟨g, j, none⟩ = some (.int .u32 (wv (kc j))) := fun j hj => by
    rw [hT.cell hg j (by simp [kz]; exact hj), kz_at hj]
  exact ⟨World.block_lt_of_cell? W _ (hc 0 (by omega)), hc⟩
theorem one_met {W : World} (h : laidMetH Tryd.prog [("tithing/sha.constants", Rows.laid_tithing_sha_constants)] W) : Kst 0 W := by
  rw [MakeChecks.laidMetH_plain _ _ _ (by kernel_rfl), laid_sha] at h
  exact kst_of gSha tSha h
theorem door_one (os : Os) (args : Array Value) : laidMetH Tryd.prog [("tithing/sha.constants", Rows.laid_tithing_sha_constants)] ((World.doorLaid Tryd.prog 400 os).forCall (fun _ _ => 0) ⟨#[], args, []⟩).memory :=
  laidMetH_of_parts3 (fuel := 8) (laidMet_of_run' 8 (by kernel_rfl) (by kernel_rfl)) (by kernel_rfl) (by kernel_rfl)
end Go.Proofs.YtmhchihcgliinaaDoor
