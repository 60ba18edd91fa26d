/-
  tx.account, tx.key, tx.ofKind, tx.Check, tx.Less: which transactions there may be, which is ahead.
-/
import Derived.Test.YtefngncieagobaaTxOk
namespace Go.Proofs.Ytefngncieagobaa
open Go.RowKit

theorem account_any (n : Int) (w : World) : Calls Try.prog 26 #[.int .i64 n] w fun e w' => e = .returned (.bool (decide (1 ≤ n) && decide (n ≤ 40))) ∧ w = w' := by
  go_enter Try.func26, Try.ntmps26
  go_wp2_with fail
  all_goals
    go_ret
    refine ⟨congrArg (fun b => Ending.returned (Value.bool b)) ?_, rfl⟩
  all_goals grind

set_option maxHeartbeats 1600000 in
theorem key_any (l : List UInt8) (w : World) (hs : l.length ≤ 1000000) :
    Calls Try.prog 33 #[.string (sb l)] w fun e w' => e = .returned (.bool (keyOk l)) ∧ w = w' := by
  have hsz := sb_size l
  obtain ⟨L, HL⟩ : ∃ L : Nat, Hid (l.length = L) := ⟨_, hid rfl⟩
  rw [HL.out] at hsz hs
  obtain ⟨s, HS⟩ : ∃ s : ByteArray, Hid (sb l = s) := ⟨_, hid rfl⟩
  rw [HS.out] at hsz ⊢
  by_cases h1 : 1 ≤ L
  · by_cases h2 : L ≤ 16
    · have h1i : ¬ (L : Int) < 1 := by omega
      have h2i : ¬ (16 : Int) < (L : Int) := by omega
      go_enter Try.func33, Try.ntmps33
      go_wp2_with fail
      go_loop [15, 3, 4] (fun si _ _ => ∃ i : Nat, i ≤ L ∧ si = .int .i64 (i : Int) ∧ Hid (∀ j, j < i → keyB (l.getD j 0) = true)) (fun si _ _ => L - (intOf si).toNat)
      case atStart => exact ⟨0, Nat.zero_le _, rfl, hid (fun j hj => absurd hj (Nat.not_lt_zero _))⟩
      case round =>
        obtain ⟨i, hi, rfl, HD⟩ := hrel
        by_cases hlt : i < L
        · have hiL : (i : Int) < (L : Int) := by omega
          have hil : i < l.length := by rw [HL.out]; exact hlt
          obtain ⟨y, HY⟩ : ∃ y : Int, Hid (((l.getD i 0).toNat : Int) = y) := ⟨_, hid rfl⟩
          have i0 : ∀ w : World, (Instr.index 9 (.string s) (.int .i64 (i : Int))).run Try.prog w = .ok (.int .u8 y) w := fun w => by
            rw [← HS.out]
            exact str_index l i hil _ rfl HY.out w
          have hr : 0 ≤ y ∧ y ≤ 255 := by have := byte_lt (l.getD i 0); rw [HY.out] at this; exact this
          have HNO : ∀ (_ : keyB (l.getD i 0) = false), Hid (keyOk l = false) := fun h => hid (keyOk_no hil h)
          have HYES : ∀ (_ : keyB (l.getD i 0) = true), Hid (∀ j, j < i + 1 → keyB (l.getD j 0) = true) := fun h => hid (fun j hj => by
            rcases Nat.lt_or_ge j i with h2 | h2
            · exact HD.out j h2
            · obtain rfl : j = i := by omega
              exact h)
          obtain ⟨hk, g1, g2⟩ | ⟨hk, g1, g2, g3⟩ | ⟨hk, g1⟩ | ⟨hk, g1, g2⟩ | ⟨hk, g1⟩ := keyB_cases (l.getD i 0) y HY.out
          · have HY2 := HYES hk
            have k1 : ¬ y < 97 := by omega
            have k2 : ¬ 122 < y := by omega
            clear HNO HYES hk HD
            go_wp2_with fail
            go_round
            case rel => exact ⟨i + 1, by omega, by go_num, HY2⟩
            case measure => simp [intOf]; omega
          · have HY2 := HYES hk
            have k1 : y < 97 := by omega
            have k3 : ¬ y < 48 := by omega
            have k4 : ¬ 57 < y := by omega
            clear HNO HYES hk HD
            go_wp2_with fail
            go_round
            case rel => exact ⟨i + 1, by omega, by go_num, HY2⟩
            case measure => simp [intOf]; omega
          · have HN2 := HNO hk
            clear HNO HYES hk HD
            have k1 : ¬ y < 97 := by omega
            have k2 : 122 < y := by omega
            have k3 : ¬ y < 48 := by omega
            have k4 : 57 < y := by omega
            go_wp2_with fail
            go_ret
            exact ⟨by rw [HN2.out]; rfl, rfl⟩
          · have HN2 := HNO hk
            clear HNO HYES hk HD
            have k1 : y < 97 := by omega
            have k3 : ¬ y < 48 := by omega
            go_wp2_with fail
            go_ret
            exact ⟨by rw [HN2.out]; rfl, rfl⟩
          · have HN2 := HNO hk
            clear HNO HYES hk HD
            have k1 : y < 97 := by omega
            go_wp2_with fail
            go_ret
            exact ⟨by rw [HN2.out]; rfl, rfl⟩
        · have hiL : ¬ (i : Int) < (L : Int) := by omega
          obtain rfl : i = L := by omega
          have HK := hid (keyOk_yes (l := l) (by rw [HL.out]; exact HD.out))
          clear HD
          go_wp2_with fail
          go_ret
          exact ⟨by rw [HK.out, HL.out, decide_eq_true h1, decide_eq_true h2]; rfl, rfl⟩
    · have h1i : ¬ (L : Int) < 1 := by omega
      have h2i : (16 : Int) < (L : Int) := by omega
      have HN : Hid (keyOk l = false) := hid (by unfold keyOk; rw [HL.out, decide_eq_false h2, Bool.and_false, Bool.and_false])
      go_enter Try.func33, Try.ntmps33
      go_wp2_with fail
      go_ret
      exact ⟨by rw [HN.out]; rfl, rfl⟩
  · have h1i : (L : Int) < 1 := by omega
    have HN : Hid (keyOk l = false) := hid (by unfold keyOk; rw [HL.out, decide_eq_false h1, Bool.false_and, Bool.and_false])
    go_enter Try.func33, Try.ntmps33
    go_wp2_with fail
    go_ret
    exact ⟨by rw [HN.out]; rfl, rfl⟩

/-- What a kind names, and nothing else. -/
def kindT (t : TxM) : Bool :=
  if t.ki = 1 then decide (1 ≤ t.to) && decide (t.to ≤ 40) && decide (0 ≤ t.am) && decide (t.am ≤ 1099511627776) && decide (t.key = []) && decide (t.val = []) else
  if t.ki = 2 then decide (t.to = 0) && decide (t.am = 0) && keyOk t.key && decide (t.val.length ≤ 200) else
  if t.ki = 3 then decide (t.to = 0) && decide (t.am = 0) && keyOk t.key && decide (t.val = []) else false

set_option maxHeartbeats 6400000 in
theorem ofKind_any (t : TxM) (w : World) (hk : t.key.length ≤ 1000000) (hv : t.val.length ≤ 1000000) :
    Calls Try.prog 27 #[txv t] w fun e w' => e = .returned (.bool (kindT t)) ∧ Below w.heap.size w w' := by
  obtain ⟨fr, no, ki, to, am, key, val⟩ := t
  simp only at hk hv
  have HK := hid hk
  have hvs := sb_size val
  have hke := sb_empty key
  have hve := sb_empty val
  clear hk hv
  unfold txv
  simp only
  obtain ⟨s, HS⟩ : ∃ s : ByteArray, Hid (sb key = s) := ⟨_, hid rfl⟩
  obtain ⟨u, HU⟩ : ∃ s : ByteArray, Hid (sb val = s) := ⟨_, hid rfl⟩
  obtain ⟨n, HN⟩ : ∃ n : Nat, Hid (val.length = n) := ⟨_, hid rfl⟩
  rw [HS.out] at hke ⊢
  rw [HU.out] at hve hvs ⊢
  rw [HN.out] at hvs
  obtain ⟨m, HM⟩ : ∃ m : Bool, Hid (kindT ⟨fr, no, ki, to, am, key, val⟩ = m) := ⟨_, hid rfl⟩
  rw [HM.out]
  obtain ⟨ke, HKE⟩ : ∃ b : Bool, Hid (decide (key = []) = b) := ⟨_, hid rfl⟩
  obtain ⟨ve, HVE⟩ : ∃ b : Bool, Hid (decide (val = []) = b) := ⟨_, hid rfl⟩
  rw [HKE.out] at hke
  rw [HVE.out] at hve
  go_enter Try.func27, Try.ntmps27
  go_wp2_with fail
  all_goals first
    | (have C := fun w => key_any key w HK.out
       rw [HS.out] at C
       refine (C _).mono ?_
       clear C
       rintro e w1 ⟨rfl, rfl⟩
       obtain ⟨ko, HKO⟩ : ∃ b : Bool, Hid (keyOk key = b) := ⟨_, hid rfl⟩
       rw [HKO.out]
       have hko := HKO.out
       go_wp2_with fail)
    | (refine (account_any to _).mono ?_
       rintro e w1 ⟨rfl, rfl⟩
       obtain ⟨ao, HAO⟩ : ∃ b : Bool, Hid ((decide (1 ≤ to) && decide (to ≤ 40)) = b) := ⟨_, hid rfl⟩
       rw [HAO.out]
       have hao := HAO.out
       go_wp2_with fail)
    | skip
  all_goals
    go_ret
    refine ⟨?_, (Below.refl _ _).alloc (Nat.le_refl _) _⟩
    refine congrArg (fun b => Ending.returned (Value.bool b)) ?_
    rw [← HM.out]
    clear HM HS HU HK
    unfold kindT
    simp only [HKE.out, HVE.out, HN.out]
  all_goals grind

set_option maxHeartbeats 1600000 in
theorem txLess_ok : TxLessOk := by
  intro a b w
  obtain ⟨fr, no, ki, to, am, key, val⟩ := a
  obtain ⟨fr2, no2, ki2, to2, am2, key2, val2⟩ := b
  unfold txv
  simp only
  obtain ⟨m, HM⟩ : ∃ m : Bool, Hid (lessT ⟨fr, no, ki, to, am, key, val⟩ ⟨fr2, no2, ki2, to2, am2, key2, val2⟩ = m) := ⟨_, hid rfl⟩
  rw [HM.out]
  go_enter Try.func12, Try.ntmps12
  go_wp2_with fail
  all_goals
    go_ret
    refine ⟨?_, ((Below.refl _ _).alloc (Nat.le_refl _) _).alloc (by simp) _⟩
    refine congrArg (fun b => Ending.returned (Value.bool b)) ?_
    rw [← HM.out]
    clear HM
    unfold lessT
  all_goals grind
end Go.Proofs.Ytefngncieagobaa
