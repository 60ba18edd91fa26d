/-
  Words, as the document's answer turns and shifts them bit by bit.
-/
import Derived.Test.YtakigopjbbhjkaaDoorTurn
namespace Go.Proofs.YtakigopjbbhjkaaDoor
open Go.RowKit

theorem rr_zero (x : UInt32) : rr x 0 = x := by
  unfold rr
  apply UInt32.toNat_inj.1
  have := x.toNat_lt
  rw [UInt32.toNat_ofNat', Nat.pow_zero, Nat.div_one, Nat.mod_one, Nat.zero_mul, Nat.add_zero, Nat.mod_eq_of_lt (by omega)]
theorem sr_zero (x : UInt32) : sr x 0 = x := by
  unfold sr
  apply UInt32.toNat_inj.1
  have := x.toNat_lt
  rw [UInt32.toNat_ofNat', Nat.pow_zero, Nat.div_one, Nat.mod_eq_of_lt (by omega)]
theorem rr_lt' (x : UInt32) (n : Nat) (h1 : n ≤ 31) : x.toNat / 2 ^ n + x.toNat % 2 ^ n * 2 ^ (32 - n) < 4294967296 := by
  by_cases h0 : 1 ≤ n
  · exact (rr_lt x n h0 h1).1
  · obtain rfl : n = 0 := by omega
    have := x.toNat_lt
    rw [Nat.pow_zero, Nat.div_one, Nat.mod_one, Nat.zero_mul, Nat.add_zero]
    omega
theorem rr_succ (x : UInt32) (n : Nat) (h : n ≤ 30) : wv (rr x n) / 2 + wv (rr x n) % 2 * 2147483648 = wv (rr x (n + 1)) := by
  have e1 := rr_lt' x n (by omega)
  have e2 := rr_lt' x (n + 1) (by omega)
  unfold rr
  rw [wv_of _ e1, wv_of _ e2]
  clear e1 e2
  have hq : x.toNat / 2 ^ (n + 1) = x.toNat / 2 ^ n / 2 := by rw [Nat.pow_succ, Nat.div_div_eq_div_mul]
  have hr : x.toNat % 2 ^ (n + 1) = x.toNat % 2 ^ n + x.toNat / 2 ^ n % 2 * 2 ^ n := by rw [Nat.pow_succ, Nat.mod_mul, Nat.mul_comm (2 ^ n)]
  have hp : (2 : Nat) ^ (32 - n) = 2 * 2 ^ (31 - n) := by rw [show 32 - n = 31 - n + 1 from by omega, Nat.pow_succ, Nat.mul_comm]
  have hb : (2 : Nat) ^ n * 2 ^ (31 - n) = 2147483648 := by rw [← Nat.pow_add, show n + (31 - n) = 31 from by omega]
  rw [hq, hr, hp, show 32 - (n + 1) = 31 - n from by omega, Nat.add_mul, Nat.mul_assoc, hb]
  generalize x.toNat / 2 ^ n = q
  generalize x.toNat % 2 ^ n = r
  generalize (2 : Nat) ^ (31 - n) = B
  rw [Nat.mul_left_comm r 2 B]
  generalize r * B = t
  omega
theorem sr_succ (x : UInt32) (n : Nat) : wv (sr x n) / 2 = wv (sr x (n + 1)) := by
  have hx := x.toNat_lt
  have h1 := Nat.div_le_self x.toNat (2 ^ n)
  have h2 := Nat.div_le_self x.toNat (2 ^ (n + 1))
  unfold sr
  rw [wv_of _ (by omega), wv_of _ (by omega), Nat.pow_succ, ← Nat.div_div_eq_div_mul]
  omega

set_option maxHeartbeats 800000 in
theorem rturn_any (x : UInt32) (n : Nat) (hn : n ≤ 31) (w : World) : Calls Tryd.prog 29 #[.int .u32 (wv x), .int .i64 (n : Int)] w fun e w' => e = .returned (.int .u32 (wv (rr x n))) ∧ w = w' := by
  go_enter Tryd.func29, Tryd.ntmps29
  go_wp2
  go_loop [0, 5] (fun sx si => ∃ i : Nat, i ≤ n ∧ si = .int .i64 i ∧ sx = .int .u32 (wv (rr x i))) (fun _ si => n - (intOf si).toNat)
  case atStart => exact ⟨0, Nat.zero_le _, rfl, by rw [rr_zero]⟩
  case round =>
    obtain ⟨i, hi, rfl, rfl⟩ := hrel
    obtain ⟨b0, b1⟩ := wv_lt (rr x i)
    by_cases hlt : i < n
    · have hlt2 : (i : Int) < (n : Int) := by omega
      have HS := hid (rr_succ x i (by omega))
      go_wp2
      go_round
      case rel => exact ⟨i + 1, by omega, by go_num, by rw [HS.out]⟩
      case measure => simp [intOf]; omega
    · have hlt2 : ¬ (i : Int) < (n : Int) := by omega
      obtain rfl : i = n := by omega
      go_wp2
      go_ret
      exact ⟨rfl, rfl⟩

set_option maxHeartbeats 800000 in
theorem rshift_any (x : UInt32) (n : Nat) (hn : n ≤ 31) (w : World) : Calls Tryd.prog 30 #[.int .u32 (wv x), .int .i64 (n : Int)] w fun e w' => e = .returned (.int .u32 (wv (sr x n))) ∧ w = w' := by
  go_enter Tryd.func30, Tryd.ntmps30
  go_wp2
  go_loop [0, 5] (fun sx si => ∃ i : Nat, i ≤ n ∧ si = .int .i64 i ∧ sx = .int .u32 (wv (sr x i))) (fun _ si => n - (intOf si).toNat)
  case atStart => exact ⟨0, Nat.zero_le _, rfl, by rw [sr_zero]⟩
  case round =>
    obtain ⟨i, hi, rfl, rfl⟩ := hrel
    obtain ⟨b0, b1⟩ := wv_lt (sr x i)
    by_cases hlt : i < n
    · have hlt2 : (i : Int) < (n : Int) := by omega
      have HS := hid (sr_succ x i)
      go_wp2
      go_round
      case rel => exact ⟨i + 1, by omega, by go_num, by rw [HS.out]⟩
      case measure => simp [intOf]; omega
    · have hlt2 : ¬ (i : Int) < (n : Int) := by omega
      obtain rfl : i = n := by omega
      go_wp2
      go_ret
      exact ⟨rfl, rfl⟩

/-- With the counts as the program's text has them. -/
theorem rturn_same (x : UInt32) (n : Nat) (k : Int) (hk : k = (n : Int)) (hn : n ≤ 31) (w : World) : Calls Tryd.prog 29 #[.int .u32 (wv x), .int .i64 k] w fun e w' => e = .returned (.int .u32 (wv (rr x n))) ∧ w = w' := by
  subst hk
  exact rturn_any x n hn w
theorem rshift_same (x : UInt32) (n : Nat) (k : Int) (hk : k = (n : Int)) (hn : n ≤ 31) (w : World) : Calls Tryd.prog 30 #[.int .u32 (wv x), .int .i64 k] w fun e w' => e = .returned (.int .u32 (wv (sr x n))) ∧ w = w' := by
  subst hk
  exact rshift_any x n hn w
theorem rturn_still (x : UInt32) (n : Nat) (k : Int) (hk : k = (n : Int)) (hn : n ≤ 31) (w : World) : Calls Tryd.prog 29 #[.int .u32 (wv x), .int .i64 k] w fun e w' => e = .returned (.int .u32 (wv (rr x n))) ∧ w' = w := (rturn_same x n k hk hn w).mono fun _ _ ⟨h, h2⟩ => ⟨h, h2.symm⟩
theorem rshift_still (x : UInt32) (n : Nat) (k : Int) (hk : k = (n : Int)) (hn : n ≤ 31) (w : World) : Calls Tryd.prog 30 #[.int .u32 (wv x), .int .i64 k] w fun e w' => e = .returned (.int .u32 (wv (sr x n))) ∧ w' = w := (rshift_same x n k hk hn w).mono fun _ _ ⟨h, h2⟩ => ⟨h, h2.symm⟩
/-- At any count: one contract for all calls of a statement. -/
theorem rturn_lit (x : UInt32) (k : Int) (h0 : 0 ≤ k) (h1 : k ≤ 31) (w : World) : Calls Tryd.prog 29 #[.int .u32 (wv x), .int .i64 k] w fun e w' => e = .returned (.int .u32 (wv (rr x k.toNat))) ∧ w' = w := by
  obtain ⟨n, rfl⟩ := Int.eq_ofNat_of_zero_le h0
  exact rturn_still x n _ rfl (by omega) w
theorem rturn_lit2 (x : UInt32) (k : Int) (h0 : 0 ≤ k) (h1 : k ≤ 31) (w : World) : Calls Tryd.prog 29 #[.int .u32 (wv x), .int .i64 k] w fun e w' => e = .returned (.int .u32 (wv (rr x k.toNat))) ∧ w = w' := (rturn_lit x k h0 h1 w).mono fun _ _ ⟨h, h2⟩ => ⟨h, h2.symm⟩
theorem u32_ext {a b : Int} (h : a = b) : Value.int .u32 a = .int .u32 b := by rw [h]
/-- A store of eight words as they were built. -/
theorem wpList_store_eight {ops : Array Oper} {rest : List Oper} {o : Oper} {a : Act} {w : World} {Q : Exit → Act → World → Prop} (hgd : o.guard = none) (x y : Operand) (ho : o.op = .store 49 x y)
    {g : Nat} {t : TypeId} {f : Nat → Value} {v0 v1 v2 v3 v4 v5 v6 v7 : Int} (hx : a.eval x = .pointer (some ⟨g, 0, none⟩)) (hy : a.eval y = .agg #[.int .u32 v0, .int .u32 v1, .int .u32 v2, .int .u32 v3, .int .u32 v4, .int .u32 v5, .int .u32 v6, .int .u32 v7]) (hg : Blk w g 8 f t)
    (hh : ∀ w', w.grownBy w' (some g) → Blk w' g 8 (fun j => .int .u32 ([v0, v1, v2, v3, v4, v5, v6, v7].getD j 0)) t → w'.heap.size = w.heap.size → wpList Tryd.prog ops Q rest (a.put o.dst undef) w') : wpList Tryd.prog ops Q (o :: rest) a w :=
  wpList_store_arr arrS (f' := fun j => .int .u32 ([v0, v1, v2, v3, v4, v5, v6, v7].getD j 0)) hgd x y ho hx hy hg (fun _ _ => rfl) hh
theorem wpList_build_eight {ops : Array Oper} {rest : List Oper} {o : Oper} {a : Act} {w : World} {Q : Exit → Act → World → Prop} (hgd : o.guard = none) {x0 x1 x2 x3 x4 x5 x6 x7 : Operand} (ho : o.op = .build 49 #[(0, x0), (1, x1), (2, x2), (3, x3), (4, x4), (5, x5), (6, x6), (7, x7)])
    (v0 v1 v2 v3 v4 v5 v6 v7 : Int) (h0 : a.eval x0 = .int .u32 v0) (h1 : a.eval x1 = .int .u32 v1) (h2 : a.eval x2 = .int .u32 v2) (h3 : a.eval x3 = .int .u32 v3) (h4 : a.eval x4 = .int .u32 v4) (h5 : a.eval x5 = .int .u32 v5) (h6 : a.eval x6 = .int .u32 v6) (h7 : a.eval x7 = .int .u32 v7)
    (h : wpList Tryd.prog ops Q rest (a.put o.dst (.agg #[.int .u32 v0, .int .u32 v1, .int .u32 v2, .int .u32 v3, .int .u32 v4, .int .u32 v5, .int .u32 v6, .int .u32 v7])) w) : wpList Tryd.prog ops Q (o :: rest) a w :=
  wpList_plain hgd fun _ hK => by
    have e : (Instr.build 49 #[(0, .int .u32 v0), (1, .int .u32 v1), (2, .int .u32 v2), (3, .int .u32 v3), (4, .int .u32 v4), (5, .int .u32 v5), (6, .int .u32 v6), (7, .int .u32 v7)]).run Tryd.prog w = .ok (.agg #[.int .u32 v0, .int .u32 v1, .int .u32 v2, .int .u32 v3, .int .u32 v4, .int .u32 v5, .int .u32 v6, .int .u32 v7]) w := by
      have e2 : fcells 8 (fun _ => wc 0) = #[wc 0, wc 0, wc 0, wc 0, wc 0, wc 0, wc 0, wc 0] := by kernel_rfl
      simp [Instr.build, Sem.run_bind, arrS.run_zero, run_underlying arrS.under, arrS.run_esize, Instr.fill, Value.cells, e2]
    unfold Oper.wp execOp
    simp only [ho, Sem.run_bind, List.map_toArray, List.map_cons, List.map_nil, h0, h1, h2, h3, h4, h5, h6, h7, e, Sem.run_pure, Result.andThen_ok]
    exact hK _ _ h
theorem blk_heap {w w' : World} {g n : Nat} {f : Nat → Value} {t : TypeId} (h : Blk w g n f t) (e : w'.heap = w.heap) : Blk w' g n f t := by
  unfold Blk at h ⊢
  rw [e]
  exact h
/-- What is written into block B leaves what lies below it. -/
theorem below_heap {B : Nat} {a w u w' : World} (h : Below B a w) (hg : u.grownBy w' (some B)) (e1 : u.heap = w.heap) (e2 : u.os = w.os) (e3 : u.tape = w.tape) (e4 : u.output = w.output) (hs : B ≤ w.heap.size) : Below B a w' := by
  have hu : Below B a u := ⟨by rw [e2]; exact h.os, by rw [e3]; exact h.tape, by rw [e4]; exact h.output, by rw [e1]; exact h.size, fun k hk => by rw [e1]; exact h.block k hk⟩
  exact hu.grown hg (by rw [e1]; exact hs) (fun k hk => by injection hk; omega)
end Go.Proofs.YtakigopjbbhjkaaDoor
