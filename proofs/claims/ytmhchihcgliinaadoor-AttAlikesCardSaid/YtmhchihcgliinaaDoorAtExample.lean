/-
  The laws' small example: part 2's attestation, signed, is right; as part 3's it is not.
-/
import Derived.Test.YtmhchihcgliinaaDoorAtOk
import Derived.Test.YtmhchihcgliinaaDoorAtSum
namespace Go.Proofs.YtmhchihcgliinaaDoor
set_option maxRecDepth 20000
open Go.RowKit

/-- .. as if another part's. -/
def exB : AtM := { signA exA with bo := 3 }
theorem exB_ok : exB.Ok := ⟨rfl, rfl, tagA_len exA⟩
theorem exA_tagged : (1 : UInt8) :: taggedA exA = atText := by
  unfold taggedA exA
  simp only [show ((1 : Int).toNat) = 1 from rfl, show ((2 : Int).toNat) = 2 from rfl, show ((3 : Int).toNat) = 3 from rfl, dg_small (n := 1) (by decide), dg_small (n := 2) (by decide), dg_small (n := 3) (by decide)]
  decide
theorem exA_tag : tagA exA = at2OH := by
  have h1 : nodeB 2 = true := by decide
  have h2 : hl 32 (sumS (keyText 2)) = key2H := key2_sum
  unfold tagA
  rw [show exA.bo = 2 from rfl, tagF_yes h1, keyF_yes h1, h2, exA_tagged]
  exact at2_mac
theorem exB_tag : tagA exB = at3OH := by
  have h1 : nodeB 3 = true := by decide
  have h2 : hl 32 (sumS (keyText 3)) = key3H := key3_sum
  unfold tagA
  rw [show exB.bo = 3 from rfl, tagF_yes h1, keyF_yes h1, h2, show taggedA exB = taggedA exA from rfl, exA_tagged]
  exact at3_mac
theorem right_sign {a : AtM} (h : mayA a = true) : rightA (signA a) = true := by
  unfold rightA
  rw [show mayA (signA a) = mayA a from rfl, h, show tagA (signA a) = tagA a from rfl]
  exact decide_eq_true rfl
theorem exB_not : rightA exB = false := by
  unfold rightA
  rw [decide_eq_false (by
    show ¬ tagA exA = tagA exB
    rw [exA_tag, exB_tag]
    exact at_unlike), Bool.and_false]
theorem exB_alike : alikeA (signA exA) exB = true := alikeA_iff.2 ⟨rfl, rfl, rfl, rfl, rfl, rfl⟩
end Go.Proofs.YtmhchihcgliinaaDoor
