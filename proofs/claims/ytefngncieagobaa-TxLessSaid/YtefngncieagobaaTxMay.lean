/-
  tithingref06.May: which transactions there may be.
-/
import Derived.Test.YtefngncieagobaaTxKey
namespace Go.Proofs.Ytefngncieagobaa
open Go.RowKit

set_option maxHeartbeats 6400000 in
theorem refMay_any (t : TxM) (w : World) (hk : t.key.length ≤ 1000000) (hv : t.val.length ≤ 1000000) :
    Calls Try.prog 20 #[txv t] w fun e w' => e = .returned (.bool (mayT t)) ∧ Below w.heap.size w w' := by
  obtain ⟨fr, no, ki, to, am, key, val⟩ := t
  simp only at hk hv
  have HK := hid hk
  have hvs := sb_size val
  have hke := sb_empty key
  have hve := sb_empty val
  clear hk hv
  unfold txv
  simp only
  obtain ⟨s, HS⟩ : ∃ s : ByteArray, Hid (sb key = s) := ⟨_, hid rfl⟩
  obtain ⟨u, HU⟩ : ∃ s : ByteArray, Hid (sb val = s) := ⟨_, hid rfl⟩
  obtain ⟨n, HN⟩ : ∃ n : Nat, Hid (val.length = n) := ⟨_, hid rfl⟩
  rw [HS.out] at hke ⊢
  rw [HU.out] at hve hvs ⊢
  rw [HN.out] at hvs
  obtain ⟨m, HM⟩ : ∃ m : Bool, Hid (mayT ⟨fr, no, ki, to, am, key, val⟩ = m) := ⟨_, hid rfl⟩
  rw [HM.out]
  obtain ⟨ke, HKE⟩ : ∃ b : Bool, Hid (decide (key = []) = b) := ⟨_, hid rfl⟩
  obtain ⟨ve, HVE⟩ : ∃ b : Bool, Hid (decide (val = []) = b) := ⟨_, hid rfl⟩
  rw [HKE.out] at hke
  rw [HVE.out] at hve
  go_enter Try.func20, Try.ntmps20
  go_wp2_with fail
  all_goals first
    | (have C := fun w => refKey6_any key w HK.out
       rw [HS.out] at C
       refine (C _).mono ?_
       clear C
       rintro e w1 ⟨rfl, rfl⟩
       obtain ⟨ko, HKO⟩ : ∃ b : Bool, Hid (keyOk key = b) := ⟨_, hid rfl⟩
       rw [HKO.out]
       have hko := HKO.out
       go_wp2_with fail)
    | skip
  all_goals
    go_ret
    refine ⟨?_, (Below.refl _ _).alloc (Nat.le_refl _) _⟩
    refine congrArg (fun b => Ending.returned (Value.bool b)) ?_
    rw [← HM.out]
    clear HM HS HU HK
    unfold mayT
    simp only [HKE.out, HVE.out, HN.out]
  all_goals grind
end Go.Proofs.Ytefngncieagobaa
