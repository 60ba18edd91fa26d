/-
  tithingref01.Same tells whether bytes are the same.
-/
import Derived.Test.YtefngncieagobaaAppend
import Derived.LoopTactic
import Derived.Outline
import Derived.Deep.QuietTactic
import Derived.BigQuiet
namespace Go.Proofs.Ytefngncieagobaa
open Go.RowKit

set_option maxHeartbeats 1600000 in
theorem same_any (u v : Value) (l m : List UInt8) (w : World) (hu : Byt w u l) (hv : Byt w v m) :
    Calls Try.prog 10 #[u, v] w fun e w' => e = .returned (.bool (decide (l = m))) ∧ ∃ n, w' = w.drewN n := by
  obtain ⟨A, c, rfl⟩ := hu.shape
  obtain ⟨B, d, rfl⟩ := hv.shape
  obtain ⟨_, hc1, hc2, hr⟩ := hu.at_
  obtain ⟨_, hd1, hd2, hs⟩ := hv.at_
  unfold maxLen at hc2 hd2
  obtain ⟨L, HL⟩ : ∃ L : Nat, Hid (l.length = L) := ⟨_, rfl⟩
  obtain ⟨M, HM⟩ : ∃ M : Nat, Hid (m.length = M) := ⟨_, rfl⟩
  rw [HL.out] at hc1 ⊢
  rw [HM.out] at hd1 ⊢
  by_cases hne : L = M
  · subst hne
    have hb0 : ((L : Int) != (L : Int)) = false := by simp
    by_cases h0 : L = 0
    · subst h0
      have e : decide (l = m) = true := by
        have h1 : l = [] := List.eq_nil_of_length_eq_zero HL.out
        have h2 : m = [] := List.eq_nil_of_length_eq_zero HM.out
        simp [h1, h2]
      rw [e]
      clear e
      go_enter Try.func10, Try.ntmps10
      go_wp2
      refine wp_loop_rounds 1 ?_
      rw [rounds_succ]
      go_wp2
      go_ret
      exact ⟨rfl, 0, rfl⟩
    · obtain ⟨b, off, rfl, hb, hcl⟩ := hr (by have := HL.out; omega)
      obtain ⟨b2, off2, rfl, hb2, hcm⟩ := hs (by have := HM.out; omega)
      obtain ⟨ans, HA⟩ : ∃ ans : Bool, Hid (decide (l = m) = ans) := ⟨_, rfl⟩
      rw [HA.out]
      go_enter Try.func10, Try.ntmps10
      go_wp2
      go_loopw [5] (fun si wr => ∃ i : Nat, i ≤ L ∧ si = .int .i64 i ∧ Hid (∀ j (h : j < l.length) (h2 : j < m.length), j < i → l[j] = m[j]) ∧ ∃ n, wr = w.drewN n) (fun si _ => L - (intOf si).toNat)
      case atStart => exact ⟨0, Nat.zero_le _, rfl, hid (fun j _ _ h => absurd h (by omega)), 0, rfl⟩
      case round =>
        obtain ⟨i, hi, rfl, HB, n, rfl⟩ := hrel
        by_cases hlt : i < L
        · have hil : i < l.length := by rw [HL.out]; exact hlt
          have him : i < m.length := by rw [HM.out]; exact hlt
          have c1 : w.cell? ⟨b, off + i, none⟩ = some (bcell l[i]) := hcl i hil
          have c2 : w.cell? ⟨b2, off2 + i, none⟩ = some (bcell m[i]) := hcm i him
          obtain ⟨x, hx0, hx1, HX⟩ : ∃ x : Int, 0 ≤ x ∧ x ≤ 255 ∧ Hid ((l[i].toNat : Int) = x) := ⟨_, (byte_lt l[i]).1, (byte_lt l[i]).2, rfl⟩
          obtain ⟨y, hy0, hy1, HY⟩ : ∃ y : Int, 0 ≤ y ∧ y ≤ 255 ∧ Hid ((m[i].toNat : Int) = y) := ⟨_, (byte_lt m[i]).1, (byte_lt m[i]).2, rfl⟩
          unfold bcell at c1 c2
          rw [HX.out] at c1
          rw [HY.out] at c2
          have hI : (i : Int) < (L : Int) := by omega
          clear hcl hcm
          by_cases hxy : x = y
          · subst hxy
            have hb1 : (x != x) = false := by simp
            go_wp2_with fail
            go_quiet (fail)
            go_wp2
            go_roundw
            case rel =>
              refine ⟨i + 1, by omega, by go_num, hid (fun j h h2 hj => ?_), _, rfl⟩
              by_cases hji : j < i
              · exact HB.out j h h2 hji
              · obtain rfl : j = i := by omega
                exact UInt8.toNat_inj.1 (by have := HX.out; have := HY.out; omega)
            case measure => simp [intOf]; omega
          · have hb1 : (x != y) = true := by simpa using hxy
            go_wp2_with fail
            go_quiet (fail)
            go_wp2
            go_ret
            have e : ans = false := by
              rw [← HA.out]
              refine decide_eq_false fun e => hxy ?_
              subst e
              rw [← HX.out, ← HY.out]
            subst e
            exact ⟨rfl, _, World.drewN_drewN _ _ _⟩
        · obtain rfl : i = L := by omega
          go_wp2
          go_ret
          have e : ans = true := by
            rw [← HA.out]
            refine decide_eq_true (List.ext_getElem (by rw [HL.out, HM.out]) fun j h h2 => HB.out j h h2 (by have := HL.out; omega))
          subst e
          exact ⟨rfl, n, rfl⟩
  · have hb0 : ((L : Int) != (M : Int)) = true := by simp; omega
    have e : decide (l = m) = false := decide_eq_false fun e => hne (by rw [← HL.out, ← HM.out, e])
    rw [e]
    clear e
    go_enter Try.func10, Try.ntmps10
    go_wp2
    go_ret
    exact ⟨rfl, 0, rfl⟩
theorem same_yes (u v : Value) (l : List UInt8) (w : World) (hu : Byt w u l) (hv : Byt w v l) :
    Calls Try.prog 10 #[u, v] w fun e w' => e = .returned (.bool true) ∧ ∃ n, w' = w.drewN n := by
  have h := same_any u v l l w hu hv
  rw [decide_eq_true rfl] at h
  exact h

end Go.Proofs.Ytefngncieagobaa
