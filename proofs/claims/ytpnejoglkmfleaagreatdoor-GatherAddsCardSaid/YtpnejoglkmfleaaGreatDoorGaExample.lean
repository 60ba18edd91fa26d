/-
  The law's small example as plain lists: of three parts one vote is no certificate, two that agree are.
-/
import Derived.Test.YtpnejoglkmfleaaGreatDoorGaPure
namespace Go.Proofs.YtpnejoglkmfleaaGreatDoor
set_option maxRecDepth 20000
def gaV (b : Int) : AtM := ⟨b, 2, 3, 2, z32, 0, z32, z32⟩
theorem gaV_ok (b : Int) : (gaV b).Ok := ⟨rfl, rfl, rfl⟩
theorem gaV_may2 : mayA (gaV 2) = true := by decide
theorem gaV_may3 : mayA (gaV 3) = true := by decide
section
variable (ta tb : List UInt8)
def gaT (b : Int) (t : List UInt8) : AtM := { gaV b with tg := t }
theorem signA_gaT (b : Int) : signA (gaV b) = gaT b (tagA (gaV b)) := rfl
theorem ga_sig1 : sigsC [gaT 2 ta] 2 3 = [⟨2, ta⟩] := by
  have h1 : sigsC [gaT 2 ta] 2 1 = [] := by simp [sigsC, gaT, gaV]
  have h2 : sigsC [gaT 2 ta] 2 2 = [⟨2, ta⟩] := by
    show (if (sigsC [gaT 2 ta] 2 1).length < 2 then _ else _) = _
    rw [h1]
    simp [gaT, gaV]
  show (if (sigsC [gaT 2 ta] 2 2).length < 2 then _ else _) = _
  rw [h2]
  simp [gaT, gaV]
theorem ga_sig2 : sigsC [gaT 2 ta, gaT 3 tb] 2 3 = [⟨2, ta⟩, ⟨3, tb⟩] := by
  have h1 : sigsC [gaT 2 ta, gaT 3 tb] 2 1 = [] := by simp [sigsC, gaT, gaV]
  have h2 : sigsC [gaT 2 ta, gaT 3 tb] 2 2 = [⟨2, ta⟩] := by
    show (if (sigsC [gaT 2 ta, gaT 3 tb] 2 1).length < 2 then _ else _) = _
    rw [h1]
    simp [gaT, gaV]
  show (if (sigsC [gaT 2 ta, gaT 3 tb] 2 2).length < 2 then _ else _) = _
  rw [h2]
  simp [gaT, gaV]
theorem ga_alike (a b : Int) : alikeA (gaT a ta) (gaT b tb) = true := alikeA_iff.2 ⟨rfl, rfl, rfl, rfl, rfl, rfl⟩
variable (ha : rightA (gaT 2 ta) = true) (hb : rightA (gaT 3 tb) = true)
include ha
theorem ga_make1 : makeC 3 [gaT 2 ta] = (ctZ, 3) := by
  unfold makeC
  have hq : quoS 3 = 2 := by decide
  have h1 : ([gaT 2 ta].all fun a => rightA a && decide (a.bo ≤ 3)) = true := by
    rw [List.all_cons, List.all_nil, ha]
    rfl
  have h2 : ([gaT 2 ta].all fun a => alikeA a (gaT 2 ta)) = true := by
    rw [List.all_cons, List.all_nil, ga_alike]
    rfl
  simp only [hq, h1, h2]
  rw [show Int.toNat 3 = 3 from rfl, ga_sig1 ta]
  rfl
include hb
theorem ga_make2 : (makeC 3 [gaT 2 ta, gaT 3 tb]).2 = 0 ∧ (makeC 3 [gaT 2 ta, gaT 3 tb]).1.sg = [⟨2, ta⟩, ⟨3, tb⟩] := by
  unfold makeC
  have hq : quoS 3 = 2 := by decide
  have h1 : ([gaT 2 ta, gaT 3 tb].all fun a => rightA a && decide (a.bo ≤ 3)) = true := by
    rw [List.all_cons, List.all_cons, List.all_nil, ha, hb]
    rfl
  have h2 : ([gaT 2 ta, gaT 3 tb].all fun a => alikeA a (gaT 2 ta)) = true := by
    rw [List.all_cons, List.all_cons, List.all_nil, ga_alike, ga_alike]
    rfl
  simp only [hq, h1, h2]
  rw [show Int.toNat 3 = 3 from rfl, ga_sig2 ta tb]
  exact ⟨rfl, rfl⟩
omit hb in
theorem ga_add1 : addG 3 [] (gaT 2 ta) = ([gaT 2 ta], 0) := by
  unfold addG okG
  rw [ha]
  rfl
omit hb in
theorem ga_cert1 : certG 3 [gaT 2 ta] 2 3 = (ctZ, false) := by
  have ht : thoseG [gaT 2 ta] 2 3 = [gaT 2 ta] := rfl
  have hf : [gaT 2 ta].filter (alikeA (gaT 2 ta)) = [gaT 2 ta] := by simp [ga_alike]
  unfold certG
  rw [ht]
  have : [gaT 2 ta].find? (fun a => decide ((makeC 3 ([gaT 2 ta].filter (alikeA a))).2 = 0)) = none := by
    rw [List.find?_cons, hf, ga_make1 ta ha]
    rfl
  rw [this]
omit ha in
theorem ga_add2 : addG 3 [gaT 2 ta] (gaT 3 tb) = ([gaT 2 ta, gaT 3 tb], 0) := by
  unfold addG okG
  rw [hb]
  rfl
theorem ga_cert2 : (certG 3 [gaT 2 ta, gaT 3 tb] 2 3).2 = true ∧ (certG 3 [gaT 2 ta, gaT 3 tb] 2 3).1.sg.length = 2 := by
  have ht : thoseG [gaT 2 ta, gaT 3 tb] 2 3 = [gaT 2 ta, gaT 3 tb] := rfl
  have hf : [gaT 2 ta, gaT 3 tb].filter (alikeA (gaT 2 ta)) = [gaT 2 ta, gaT 3 tb] := by simp [ga_alike]
  obtain ⟨m1, m2⟩ := ga_make2 ta tb ha hb
  unfold certG
  rw [ht]
  have : [gaT 2 ta, gaT 3 tb].find? (fun a => decide ((makeC 3 ([gaT 2 ta, gaT 3 tb].filter (alikeA a))).2 = 0)) = some (gaT 2 ta) := by
    rw [List.find?_cons, hf, m1]
    rfl
  rw [this]
  simp only
  rw [hf]
  exact ⟨trivial, by rw [m2]; rfl⟩
end
end Go.Proofs.YtpnejoglkmfleaaGreatDoor
