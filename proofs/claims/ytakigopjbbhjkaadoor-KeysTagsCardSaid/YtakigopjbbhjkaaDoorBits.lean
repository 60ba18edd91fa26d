/-
  Words: what sha's small functions tell.
-/
import Derived.Test.YtakigopjbbhjkaaDoorSpec
import Derived.LoopTactic
import Derived.Outline
import Derived.Laws.BitsAllLaws
import Derived.Laws.Bits64
import Derived.WalkLawsBesides
import Derived.IntWalk
namespace Go.Proofs.YtakigopjbbhjkaaDoor
open Go.RowKit

theorem rot_and (n : Nat) (h0 : 1 ≤ n) (h1 : n ≤ 31) : bits BinOp.and IntKind.u64 (IntKind.u64.wrap (-(n : Int))) 31 = ((32 - n : Nat) : Int) := by
  have e : IntKind.u64.wrap (-(n : Int)) = ((18446744073709551616 - n : Nat) : Int) := by
    simp [IntKind.wrap, IntKind.signed, IntKind.bits]
    omega
  rw [e, show (31 : Int) = ((31 : Nat) : Int) from rfl, u64_and_nat _ _ (by omega) (by omega), nat_mask5]
  congr 1
  omega
theorem ret_u32 {a b : Int} (h : a = b) : Ending.returned (.int .u32 a) = Ending.returned (.int .u32 b) := by rw [h]
theorem wv_and (x y : UInt32) : bits BinOp.and IntKind.u32 (wv x) (wv y) = wv (x &&& y) := by
  have := x.toNat_lt
  have := y.toNat_lt
  unfold wv
  rw [u32_and_nat _ _ (by omega) (by omega), UInt32.toNat_and]
theorem wv_or (x y : UInt32) : bits BinOp.or IntKind.u32 (wv x) (wv y) = wv (x ||| y) := by
  have := x.toNat_lt
  have := y.toNat_lt
  unfold wv
  rw [u32_or_nat _ _ (by omega) (by omega), UInt32.toNat_or]
theorem wv_xor (x y : UInt32) : bits BinOp.xor IntKind.u32 (wv x) (wv y) = wv (x ^^^ y) := by
  have := x.toNat_lt
  have := y.toNat_lt
  unfold wv
  rw [u32_xor_nat _ _ (by omega) (by omega), UInt32.toNat_xor]
theorem wv_add (x y : UInt32) : (wv x + wv y) % 4294967296 = wv (x + y) := by
  unfold wv
  rw [UInt32.toNat_add]
  omega
theorem wv_not (x : UInt32) : 4294967295 - wv x = wv (~~~x) := by
  have := x.toNat_lt
  have e : UInt32.size = 4294967296 := rfl
  unfold wv
  rw [UInt32.toNat_not, e]
  omega
theorem wv_max (x : UInt32) : bits BinOp.xor IntKind.u32 IntKind.u32.max (wv x) = wv (~~~x) := by
  have e : IntKind.u32.max = wv 4294967295 := rfl
  rw [e, wv_xor]
  congr 1
theorem wv_of (n : Nat) (h : n < 4294967296) : wv (UInt32.ofNat n) = (n : Int) := by
  unfold wv
  rw [UInt32.toNat_ofNat', Nat.mod_eq_of_lt h]
theorem wv_sr (x : UInt32) (n : Nat) : wv x / 2 ^ n = wv (sr x n) := by
  have := x.toNat_lt
  have h := Nat.div_le_self x.toNat (2 ^ n)
  unfold sr
  rw [wv_of _ (by omega)]
  unfold wv
  simp
theorem rr_lt (x : UInt32) (n : Nat) (h0 : 1 ≤ n) (h1 : n ≤ 31) : x.toNat / 2 ^ n + x.toNat % 2 ^ n * 2 ^ (32 - n) < 4294967296 ∧ x.toNat / 2 ^ n < 2 ^ (32 - n) := by
  have hx := x.toNat_lt
  have e : (2 : Nat) ^ n * 2 ^ (32 - n) = 4294967296 := by rw [← Nat.pow_add, show n + (32 - n) = 32 from by omega]
  have hq : x.toNat / 2 ^ n < 2 ^ (32 - n) := (Nat.div_lt_iff_lt_mul (Nat.pow_pos (by omega))).2 (by rw [Nat.mul_comm, e]; omega)
  have hr := Nat.mod_lt x.toNat (Nat.pow_pos (n := n) (show 0 < 2 by omega))
  refine ⟨?_, hq⟩
  generalize x.toNat / 2 ^ n = q at *
  generalize x.toNat % 2 ^ n = r at *
  generalize (2 : Nat) ^ n = A at *
  generalize (2 : Nat) ^ (32 - n) = B at *
  have : (r + 1) * B ≤ A * B := Nat.mul_le_mul_right _ hr
  rw [Nat.add_mul] at this
  omega
theorem rot_eq (x : UInt32) (n : Nat) (h0 : 1 ≤ n) (h1 : n ≤ 31) : bits BinOp.or IntKind.u32 (wv x * 2 ^ (32 - n) % 4294967296) (wv x / 2 ^ (32 - (32 - n))) = wv (rr x n) := by
  obtain ⟨hlt, hq⟩ := rr_lt x n h0 h1
  unfold rr
  rw [wv_of _ hlt, show 32 - (32 - n) = n from by omega]
  unfold wv
  have e : (2 : Nat) ^ n * 2 ^ (32 - n) = 4294967296 := by rw [← Nat.pow_add, show n + (32 - n) = 32 from by omega]
  have hm : x.toNat * 2 ^ (32 - n) % 4294967296 = x.toNat % 2 ^ n * 2 ^ (32 - n) := by
    rw [← e, Nat.mul_mod_mul_right]
  have e1 : (x.toNat : Int) * 2 ^ (32 - n) % 4294967296 = ((x.toNat % 2 ^ n * 2 ^ (32 - n) : Nat) : Int) := by
    rw [← hm]
    simp
  have e2 : (x.toNat : Int) / 2 ^ n = ((x.toNat / 2 ^ n : Nat) : Int) := by simp
  rw [e1, e2, u32_or_nat _ _ (by omega) (by omega), nat_join (32 - n) _ _ (Nat.mul_mod_left _ _) hq, Nat.add_comm]

set_option maxHeartbeats 800000 in
theorem rotl_any (x : UInt32) (n : Nat) (h0 : 1 ≤ n) (h1 : n ≤ 31) (w : World) : Calls Tryd.prog 39 #[wc x, .int .i64 (-(n : Int))] w fun e w' => e = .returned (wc (rr x n)) ∧ w = w' := by
  have HS := rot_and n h0 h1
  obtain ⟨b0, b1⟩ := wv_lt x
  unfold wc
  go_enter Tryd.func39, Tryd.ntmps39
  go_wp2
  go_ret
  exact ⟨ret_u32 (rot_eq x n h0 h1), rfl⟩

theorem right_any (x : UInt32) (n : Nat) (h0 : 1 ≤ n) (h1 : n ≤ 31) (w : World) : Calls Tryd.prog 38 #[wc x, .int .i64 (n : Int)] w fun e w' => e = .returned (wc (rr x n)) ∧ w = w' := by
  have C := rotl_any x n h0 h1 w
  unfold wc at C ⊢
  go_enter Tryd.func38, Tryd.ntmps38
  go_wp2_with fail
  refine C.mono ?_
  rintro e w' ⟨rfl, rfl⟩
  go_wp2_with fail
  go_ret
  exact ⟨rfl, rfl⟩

theorem sm0_any (x : UInt32) (w : World) : Calls Tryd.prog 37 #[wc x] w fun e w' => e = .returned (wc (sm0 x)) ∧ w = w' := by
  have C1 := right_any x 7 (by omega) (by omega) w
  have C2 := right_any x 18 (by omega) (by omega) w
  obtain ⟨b0, b1⟩ := wv_lt x
  unfold wc at C1 C2 ⊢
  go_enter Tryd.func37, Tryd.ntmps37
  go_wp2_with fail
  refine C1.mono ?_
  rintro e w' ⟨rfl, rfl⟩
  go_wp2_with fail
  refine C2.mono ?_
  rintro e w' ⟨rfl, rfl⟩
  go_wp2_with fail
  go_ret
  refine ⟨ret_u32 ?_, rfl⟩
  rw [wv_xor, show wv x / 8 = wv (sr x 3) from wv_sr x 3, wv_xor]
  rfl
theorem sm1_any (x : UInt32) (w : World) : Calls Tryd.prog 36 #[wc x] w fun e w' => e = .returned (wc (sm1 x)) ∧ w = w' := by
  have C1 := right_any x 17 (by omega) (by omega) w
  have C2 := right_any x 19 (by omega) (by omega) w
  obtain ⟨b0, b1⟩ := wv_lt x
  unfold wc at C1 C2 ⊢
  go_enter Tryd.func36, Tryd.ntmps36
  go_wp2_with fail
  refine C1.mono ?_
  rintro e w' ⟨rfl, rfl⟩
  go_wp2_with fail
  refine C2.mono ?_
  rintro e w' ⟨rfl, rfl⟩
  go_wp2_with fail
  go_ret
  refine ⟨ret_u32 ?_, rfl⟩
  rw [wv_xor, show wv x / 1024 = wv (sr x 10) from wv_sr x 10, wv_xor]
  rfl
theorem bg0_any (x : UInt32) (w : World) : Calls Tryd.prog 34 #[wc x] w fun e w' => e = .returned (wc (bg0 x)) ∧ w = w' := by
  have C1 := right_any x 2 (by omega) (by omega) w
  have C2 := right_any x 13 (by omega) (by omega) w
  have C3 := right_any x 22 (by omega) (by omega) w
  unfold wc at C1 C2 C3 ⊢
  go_enter Tryd.func34, Tryd.ntmps34
  go_wp2_with fail
  refine C1.mono ?_
  rintro e w' ⟨rfl, rfl⟩
  go_wp2_with fail
  refine C2.mono ?_
  rintro e w' ⟨rfl, rfl⟩
  go_wp2_with fail
  refine C3.mono ?_
  rintro e w' ⟨rfl, rfl⟩
  go_wp2_with fail
  go_ret
  refine ⟨ret_u32 ?_, rfl⟩
  rw [wv_xor, wv_xor]
  rfl
theorem bg1_any (x : UInt32) (w : World) : Calls Tryd.prog 32 #[wc x] w fun e w' => e = .returned (wc (bg1 x)) ∧ w = w' := by
  have C1 := right_any x 6 (by omega) (by omega) w
  have C2 := right_any x 11 (by omega) (by omega) w
  have C3 := right_any x 25 (by omega) (by omega) w
  unfold wc at C1 C2 C3 ⊢
  go_enter Tryd.func32, Tryd.ntmps32
  go_wp2_with fail
  refine C1.mono ?_
  rintro e w' ⟨rfl, rfl⟩
  go_wp2_with fail
  refine C2.mono ?_
  rintro e w' ⟨rfl, rfl⟩
  go_wp2_with fail
  refine C3.mono ?_
  rintro e w' ⟨rfl, rfl⟩
  go_wp2_with fail
  go_ret
  refine ⟨ret_u32 ?_, rfl⟩
  rw [wv_xor, wv_xor]
  rfl
theorem chc_any (x y z : UInt32) (w : World) : Calls Tryd.prog 33 #[wc x, wc y, wc z] w fun e w' => e = .returned (wc (chc x y z)) ∧ w = w' := by
  obtain ⟨b0, b1⟩ := wv_lt x
  unfold wc
  go_enter Tryd.func33, Tryd.ntmps33
  go_wp2
  go_ret
  refine ⟨ret_u32 ?_, rfl⟩
  rw [wv_max, wv_and, wv_and, wv_or]
  rfl
theorem maj_any (x y z : UInt32) (w : World) : Calls Tryd.prog 35 #[wc x, wc y, wc z] w fun e w' => e = .returned (wc (maj x y z)) ∧ w = w' := by
  unfold wc
  go_enter Tryd.func35, Tryd.ntmps35
  go_wp2
  go_ret
  refine ⟨ret_u32 ?_, rfl⟩
  rw [wv_and, wv_and, wv_and, wv_or, wv_or]
  rfl
end Go.Proofs.YtakigopjbbhjkaaDoor
