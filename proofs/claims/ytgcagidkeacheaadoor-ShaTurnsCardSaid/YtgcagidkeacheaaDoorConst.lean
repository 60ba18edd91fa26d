/-
  tithingref02.Constant gives a third root's first bits.
-/
import Derived.Test.YtgcagidkeacheaaDoorLess
namespace Go.Proofs.YtgcagidkeacheaaDoor
open Go.RowKit

set_option maxHeartbeats 3200000 in
theorem const_any (p : Nat) (w : World) (hp : p ≤ 65535) :
    Calls Tryd.prog 17 #[.int .u64 (p : Int)] w fun e w' => e = .returned (.int .u32 ((rt p 36 % 4294967296 : Nat) : Int)) ∧ Below w.heap.size w w' := by
  go_enter Tryd.func17, Tryd.ntmps17
  go_wp2_with fail
  go_loopw [3, 4] (fun sx sb wr => ∃ (n : Nat) (z : Int), z + (n : Int) = 35 ∧ n ≤ 36 ∧ sb = .int .i64 z ∧ sx = .int .u64 ((rt p n : Nat) : Int) ∧ Below w.heap.size w wr) (fun _ sb _ => (intOf sb + 1).toNat)
  case atStart => exact ⟨0, 35, by omega, by omega, rfl, rfl, Below.refl _ _⟩
  case round =>
    obtain ⟨n, z, hz, hn, rfl, rfl, hbw⟩ := hrel
    have hrt := rt_lt p n hn
    obtain ⟨r, HR⟩ : ∃ r : Nat, Hid (rt p n = r) := ⟨_, hid rfl⟩
    rw [HR.out] at hrt ⊢
    by_cases hlt : n < 36
    · obtain ⟨b, HB⟩ : ∃ b : Nat, Hid (35 - n = b) := ⟨_, hid rfl⟩
      obtain rfl : z = (b : Int) := by have := HB.out; omega
      have e36 : 2 ^ (36 - n) = 2 ^ b + 2 ^ b := by
        have := HB.out
        rw [show 36 - n = b + 1 from by omega, Nat.pow_succ]
        omega
      rw [e36] at hrt
      obtain ⟨q, HQ⟩ : ∃ q : Nat, Hid (2 ^ b = q) := ⟨_, hid rfl⟩
      rw [HQ.out] at hrt
      clear e36 hz
      have hb35 : b ≤ 35 := by have := HB.out; omega
      have hb64 : (b : Int) < 64 := by omega
      have hq0 : 0 < q := by rw [← HQ.out]; exact Nat.pow_pos (by decide)
      obtain ⟨y, HY⟩ : ∃ y : Nat, Hid (r + q = y) := ⟨_, hid rfl⟩
      have hy : y < 68719476736 := by have := HY.out; omega
      have qp : IntKind.u64.wrap ((2 : Int) ^ b) = (q : Int) := by
        have e : (2 : Int) ^ b = (q : Int) := by rw [← HQ.out]; exact (Int.natCast_pow 2 b).symm
        rw [e, IntWalk.u64_in _ (by omega)]
      have qs : IntKind.u64.wrap ((r : Int) + (q : Int)) = (y : Int) := by rw [IntWalk.u64_in _ (by omega)]; have := HY.out; omega
      have HN : Hid (rt p (n + 1) = if lessB y p then y else r) := by
        refine hid ?_
        show (if lessB (rt p n + 2 ^ (35 - n)) p then rt p n + 2 ^ (35 - n) else rt p n) = _
        rw [HR.out, HB.out, HQ.out, HY.out]
      clear hrt hq0
      go_wp2_with fail
      refine (less_any y p wr hy hp).mono ?_
      rintro e w1 ⟨rfl, hb1⟩
      have hbw1 := hbw.trans (hb1.mono hbw.size)
      clear hbw hb1 qp qs
      obtain ⟨t, HT⟩ : ∃ t : Bool, Hid (lessB y p = t) := ⟨_, hid rfl⟩
      rw [HT.out]
      have HN2 : Hid (rt p (n + 1) = if t = true then y else r) := by
        refine hid ?_
        rw [HN.out, HT.out]
      cases t
      · go_wp2_with fail
        go_roundw
        case rel => exact ⟨n + 1, (b : Int) - 1, by have := HB.out; omega, by omega, rfl, by rw [HN2.out]; rfl, hbw1⟩
        case measure => simp [intOf]
      · go_wp2_with fail
        go_roundw
        case rel => exact ⟨n + 1, (b : Int) - 1, by have := HB.out; omega, by omega, rfl, by rw [HN2.out]; rfl, hbw1⟩
        case measure => simp [intOf]
    · obtain rfl : n = 36 := by omega
      have hz0 : ¬ 0 ≤ z := by omega
      obtain ⟨v, HV⟩ : ∃ v : Nat, Hid (r % 4294967296 = v) := ⟨_, hid rfl⟩
      have q1 : (r : Int) % 4294967296 = (v : Int) := by have := HV.out; omega
      have hv : v < 4294967296 := by have := HV.out; omega
      have q2 : IntKind.u32.wrap (v : Int) = (v : Int) := IntWalk.u32_in _ (by omega)
      clear hz hrt
      go_wp2_with fail
      go_ret
      exact ⟨by rw [HR.out, q1]; rfl, hbw⟩
end Go.Proofs.YtgcagidkeacheaaDoor
