/-
  The laws' small example: the zero seal's blob of part 2 has 68 bytes, is got by part 2, and not by part 3.
-/
import Derived.Test.YtifkkpfiejiojaaDoorBs9
import Derived.Test.YtifkkpfiejiojaaDoorBs8
namespace Go.Proofs.YtifkkpfiejiojaaDoor
set_option maxRecDepth 20000
open Go.RowKit
theorem exS_tagged : (3 : UInt8) :: taggedS 1 seZ = seText := by
  unfold taggedS seZ
  simp only [show ((1 : Int).toNat) = 1 from rfl, show ((0 : Int).toNat) = 0 from rfl, dg_small (n := 1) (by decide), dg_small (n := 0) (by decide)]
  decide
theorem exS_two : tagS 2 1 seZ = se2OH := by
  have h1 : nodeB 2 = true := by decide
  have h2 : hl 32 (sumS (keyText 2)) = key2H := key2_sum
  unfold tagS
  rw [tagF_yes h1, keyF_yes h1, h2, exS_tagged]
  exact se2_mac
theorem exS_three : tagS 3 1 seZ = se3OH := by
  have h1 : nodeB 3 = true := by decide
  have h2 : hl 32 (sumS (keyText 3)) = sk3H := sk3_sum
  unfold tagS
  rw [tagF_yes h1, keyF_yes h1, h2, exS_tagged]
  exact se3_mac
theorem exS_put : putOkS 2 1 seZ = true := by decide
theorem exS_len : (blobS 2 1 seZ).length = 68 := by
  unfold blobS
  rw [List.length_append, tagS_len]
  have := congrArg List.length exS_tagged
  rw [List.length_cons, show seText.length = 37 from by decide] at this
  omega
theorem exS_get2 : getB 2 (blobS 2 1 seZ) = (1, seZ, 0) := getB_back seZ_ok (by decide) (by decide) (by decide)
theorem exS_get3 : getB 3 (blobS 2 1 seZ) = (0, seZ, 7) := by
  have e : rawB (blobS 2 1 seZ) = (1, seZ, tagS 2 1 seZ, (blobS 2 1 seZ).length, true) := rawB_back seZ_ok (by decide) (by decide) (tagS_len _ _ _)
  have ht : textB (blobS 2 1 seZ) = true := by
    unfold textB
    rw [e]
    simp only [Bool.true_and, decide_true]
    decide
  unfold getB
  rw [if_pos ht, e]
  simp only
  rw [if_neg]
  rintro ⟨_, h⟩
  rw [exS_two, exS_three] at h
  exact se_unlike h
end Go.Proofs.YtifkkpfiejiojaaDoor
