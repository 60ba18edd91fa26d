/-
  Certificates' small example: two of three make one, which is not right for five.
-/
import Derived.Test.YtnancafpecfcjaaDoorBs10
namespace Go.Proofs.YtnancafpecfcjaaDoor
set_option maxRecDepth 20000
open Go.RowKit

def exM : AtM := ⟨2, 2, 3, 2, z32, 0, z32, z32⟩
def exN : AtM := ⟨1, 2, 3, 2, z32, 0, z32, z32⟩
theorem exM_ok : exM.Ok := ⟨rfl, rfl, rfl⟩
theorem exN_ok : exN.Ok := ⟨rfl, rfl, rfl⟩
theorem exM_may : mayA exM = true := by decide
theorem exN_may : mayA exN = true := by decide
/-- What they make. -/
def exC : CtM := ⟨withC (signA exM) ⟨0, z32⟩, [⟨1, tagA exN⟩, ⟨2, tagA exM⟩]⟩
theorem exC_ok : exC.Ok := ⟨⟨rfl, rfl, rfl⟩, fun s hs => by
  rcases List.mem_cons.1 hs with rfl | hs
  · exact tagA_len _
  · obtain rfl := List.mem_singleton.1 hs
    exact tagA_len _⟩
theorem rightA_sign {a : AtM} (h : mayA a = true) : rightA (signA a) = true := by
  unfold rightA
  rw [show mayA (signA a) = mayA a from rfl, h, show tagA (signA a) = tagA a from rfl]
  exact decide_eq_true rfl
theorem ex_sigs : sigsC [signA exM, signA exN] 2 3 = [⟨1, tagA exN⟩, ⟨2, tagA exM⟩] := by
  have h1 : sigsC [signA exM, signA exN] 2 1 = [⟨1, tagA exN⟩] := by
    simp [sigsC, List.find?, signA, exM, exN]
  have h2 : sigsC [signA exM, signA exN] 2 2 = [⟨1, tagA exN⟩, ⟨2, tagA exM⟩] := by
    unfold sigsC
    rw [h1]
    simp [List.find?, signA, exM, exN]
  unfold sigsC
  rw [h2]
  simp
theorem ex_make : makeC 3 [signA exM, signA exN] = (exC, 0) := by
  have hq : quoS 3 = 2 := by decide
  have r1 := rightA_sign exM_may
  have r2 := rightA_sign exN_may
  have b1 : (signA exM).bo = 2 := rfl
  have b2 : (signA exN).bo = 1 := rfl
  have a1 : alikeA (signA exM) (signA exM) = true := alikeA_self _
  have a2 : alikeA (signA exN) (signA exM) = true := alikeA_iff.2 ⟨rfl, rfl, rfl, rfl, rfl, rfl⟩
  have hs : sigsC [signA exM, signA exN] 2 (3 : Int).toNat = [⟨1, tagA exN⟩, ⟨2, tagA exM⟩] := ex_sigs
  unfold makeC
  simp only [hq, List.all_cons, List.all_nil, r1, r2, b1, b2, a1, a2, hs]
  simp [exC]
theorem ex_right3 : rightC 3 exC = true := by
  have := made_right (n := 3) (l := [signA exM, signA exN]) (by rw [ex_make])
  rw [ex_make] at this
  exact this
theorem ex_right5 : rightC 5 exC = false := by
  have hq : quoS 5 = 3 := by decide
  have hl : exC.sg.length = 2 := rfl
  unfold rightC
  rw [hq, hl]
  simp
end Go.Proofs.YtnancafpecfcjaaDoor
