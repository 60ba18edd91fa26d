/-
  octet.digits gives a number's bytes, in a row of its own.
-/
import Derived.Test.YtefngncieagobaaAppend
import Derived.Test.YtefngncieagobaaPlain
import Derived.LoopTactic
import Derived.Outline
namespace Go.Proofs.Ytefngncieagobaa
open Go.RowKit

theorem or128 (k : Int) (h0 : 0 ≤ k) (h1 : k < 256) : bits BinOp.or IntKind.u8 k 128 = 128 + k % 128 := by
  obtain ⟨n, rfl⟩ := Int.eq_ofNat_of_zero_le h0
  have h : ∀ n : Fin 256, bits BinOp.or IntKind.u8 ((n.val : Nat) : Int) 128 = 128 + ((n.val : Nat) : Int) % 128 := by decide +kernel
  exact h ⟨n, by omega⟩

set_option maxHeartbeats 800000 in
theorem digits_any (n : Int) (w : World) (h0 : 0 ≤ n) (h1 : n < 18446744073709551616) :
    Calls Try.prog 36 #[.int .u64 n] w fun e w' => ∃ v, e = .returned v ∧ Own w.heap.size w' v (dg n.toNat) ∧ Below w.heap.size w w' := by
  obtain ⟨i0, hi, hz0, hz1, hz2⟩ := info_parts info_u8
  have hL := dg_len10 (n := n.toNat) (by omega)
  go_enter Try.func36, Try.ntmps36
  go_wp2_with (at_make; refine wpList_make_own _ rfl _ _ 22 rfl w.heap.size 5 i0 (.int .u8 0) 1 under_bytes hi hz0 hz1 _ _ _ 10 rfl rfl (by omega) ?b2 ?b3 (Nat.le_refl _) ?_)
  case b2 => rw [hz2]; omega
  case b3 => unfold maxLen; omega
  intro w0 hown0 hgrow0
  have hb0 : Below w.heap.size w w0 := (Below.refl _ _).grown hgrow0 (Nat.le_refl _) (fun k h => by cases h)
  have hv0 : Own w.heap.size w0 (.slice (some ⟨w.heap.size, 0, none⟩) 0 10) [] := hown0
  clear hown0 hgrow0
  go_wp2
  go_loopw [0, 3] (fun sn out wr => ∃ (m : Int) (acc : List UInt8), 0 ≤ m ∧ m < 18446744073709551616 ∧ sn = .int .u64 m ∧ Own w.heap.size wr out acc ∧ Hid (acc ++ dg m.toNat = dg n.toNat) ∧ acc.length ≤ 10 ∧ Below w.heap.size w wr)
    (fun sn _ _ => (intOf sn).toNat)
  case atStart => exact ⟨n, [], h0, h1, rfl, hv0, by simp [Hid], by simp, hb0⟩
  case round =>
    obtain ⟨m, acc, hm0, hm1, rfl, hown, heq, hal, hb⟩ := hrel
    by_cases hlt : m < 128
    · have hq : m = ((UInt8.ofNat m.toNat).toNat : Int) := by rw [UInt8.toNat_ofNat']; omega
      have hql : acc.length + [UInt8.ofNat m.toNat].length ≤ 140737488355328 := by simp; omega
      have hbs := hb.size
      have HQ := hid hq
      clear hq
      go_wp2_with (at_builtin; refine wpList_append_byt rfl (.tmp 15) (.tmp 18) rfl rfl rfl (hown.alloc _) (byt_one _ _ (UInt8.ofNat m.toNat) HQ.out) hql (by simp; omega) ?_; intro v1 w1 hown1 hg1 _)
      go_ret
      rw [dg_small (by omega)] at heq
      rw [heq.out] at hown1
      exact ⟨v1, rfl, hown1, (hb.alloc hbs _).grown hg1 (by simp; omega) (fun k hk => (World.ownsRow.lt hown k hk).1)⟩
    · have hq : bits BinOp.or IntKind.u8 (m % 256) 128 = ((UInt8.ofNat (128 + m.toNat % 128)).toNat : Int) := by
        rw [or128 _ (by omega) (by omega), UInt8.toNat_ofNat']; omega
      have hql : acc.length + [UInt8.ofNat (128 + m.toNat % 128)].length ≤ 140737488355328 := by simp; omega
      have hbs := hb.size
      have HQ := hid hq
      clear hq
      have hge : 128 ≤ m := by omega
      go_wp2_with (at_builtin; refine wpList_append_byt rfl (.tmp 7) (.tmp 11) rfl rfl rfl (hown.alloc _) (byt_one _ _ (UInt8.ofNat (128 + m.toNat % 128)) HQ.out) hql (by simp; omega) ?_; intro v1 w1 hown1 hg1 _)
      have hlen : (acc ++ [UInt8.ofNat (128 + m.toNat % 128)]).length ≤ 10 ∧ acc ++ [UInt8.ofNat (128 + m.toNat % 128)] ++ dg (m / 128).toNat = dg n.toNat := by
        have h2 := heq.out
        rw [dg_big (n := m.toNat) (by omega)] at h2
        have e : m.toNat / 128 = (m / 128).toNat := by omega
        rw [e] at h2
        have h3 := congrArg List.length h2
        have h4 := dg_pos (m / 128).toNat
        simp at h3
        exact ⟨by simp; omega, by simpa using h2⟩
      go_roundw
      case rel => exact ⟨m / 128, _, by omega, by omega, rfl, hown1, hid hlen.2, hlen.1, (hb.alloc hbs _).grown hg1 (by simp; omega) (fun k hk => (World.ownsRow.lt hown k hk).1)⟩
      case measure => simp [intOf]; omega
end Go.Proofs.Ytefngncieagobaa
