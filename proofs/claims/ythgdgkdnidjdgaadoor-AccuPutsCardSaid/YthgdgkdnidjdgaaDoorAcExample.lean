/-
  Accumulations' small example: of views 0 and 2 the greater one is told.
-/
import Derived.Test.YthgdgkdnidjdgaaDoorAcOk
namespace Go.Proofs.YthgdgkdnidjdgaaDoor
set_option maxRecDepth 20000
open Go.RowKit

def exP : AtM := ⟨2, 1, 3, 1, z32, 2, z32, z32⟩
def exQ : AtM := ⟨1, 1, 3, 1, z32, 0, z32, z32⟩
theorem exP_ok : exP.Ok := ⟨rfl, rfl, rfl⟩
theorem exQ_ok : exQ.Ok := ⟨rfl, rfl, rfl⟩
theorem exP_may : mayA exP = true := by decide
theorem exQ_may : mayA exQ = true := by decide
def exY : AcM := ⟨3, 3, 2, z32, [1, 2], z32⟩
/-- What they make. -/
def exX : AcM := { exY with tg := tagX exY }
theorem exX_ok : exX.Ok := ⟨rfl, tagX_len _⟩
theorem rightX_sign {a : AtM} (h : mayA a = true) : rightA (signA a) = true := by
  unfold rightA
  rw [show mayA (signA a) = mayA a from rfl, h, show tagA (signA a) = tagA a from rfl]
  exact decide_eq_true rfl
theorem exX_fr : frX [signA exP, signA exQ] 2 3 = ([1, 2], 2, z32) := by
  have h1 : frX [signA exP, signA exQ] 2 1 = ([1], 0, z32) := by
    simp [frX, List.find?, signA, exP, exQ]
  have h2 : frX [signA exP, signA exQ] 2 2 = ([1, 2], 2, z32) := by
    unfold frX
    rw [h1]
    simp [List.find?, signA, exP]
  unfold frX
  rw [h2]
  simp
theorem exX_make : makeX 3 3 3 [signA exP, signA exQ] = (exX, 0) := by
  have hq : quoS 3 = 2 := by decide
  have g1 : goodX 3 3 (signA exP) = true := goodX_iff.2 ⟨rightX_sign exP_may, rfl, rfl, by decide⟩
  have g2 : goodX 3 3 (signA exQ) = true := goodX_iff.2 ⟨rightX_sign exQ_may, rfl, rfl, by decide⟩
  have hf : frX [signA exP, signA exQ] 2 (3 : Int).toNat = ([1, 2], 2, z32) := exX_fr
  rw [makeX_done (by rw [hq]; omega) (by simp [g1, g2]) (by rw [hq, hf]; decide), hq, hf]
  rfl
theorem exX_right : rightX 3 exX = true := by
  have := madeX_right (b := 3) (n := 3) (vi := 3) (l := [signA exP, signA exQ]) (by rw [exX_make])
  rw [exX_make] at this
  exact this
end Go.Proofs.YthgdgkdnidjdgaaDoor
