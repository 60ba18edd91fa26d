/-
  The law of one form: whatever the bytes, it returns true.
-/
import Derived.Test.YtggonealcpbonaaAwake
import Derived.Test.YtggonealcpbonaaText
import Derived.Test.YtggonealcpbonaaHash
namespace Go.Proofs.Ytggonealcpbonaa
open Go.RowKit

theorem same_yes (u v : Value) (l : List UInt8) (w : World) (hu : Byt w u l) (hv : Byt w v l) :
    Calls Try.prog 11 #[u, v] w fun e w' => e = .returned (.bool true) ∧ ∃ n, w' = w.drewN n := by
  have h := same_any u v l l w hu hv
  rw [decide_eq_true rfl] at h
  exact h

theorem rdNum_own {l : List UInt8} {x p : Nat} (h : rdNum 18446744073709551615 l 0 true = (x, p, true)) : x < 18446744073709551616 ∧ p ≤ l.length ∧ dg x = l.take p := by
  cases hf : frst (l.drop 0) with
  | none => rw [rdNum_no hf] at h; simp at h
  | some n =>
    obtain ⟨hn, hp⟩ := frst_some hf
    rw [rdNum_yes hf (by omega)] at h
    injection h with h1 h
    injection h with h2 h3
    subst h1
    rw [Nat.zero_add] at h2
    subst h2
    rw [List.drop_zero] at hp
    exact ⟨hn, hp.length_le, List.prefix_iff_eq_take.1 hp⟩
theorem rdText_own {l t : List UInt8} {p : Nat} (h : rdText l 0 true = (t, p, true)) : t.length ≤ 65536 ∧ p ≤ l.length ∧ tx t = l.take p := by
  cases hf : frst (l.drop 0) with
  | none => rw [rdText_no hf] at h; simp at h
  | some n =>
    obtain ⟨hn, hp⟩ := frst_some hf
    rw [List.drop_zero] at hp
    by_cases hm : n ≤ 65536 ∧ 0 + (dg n).length + n ≤ l.length
    · rw [rdText_yes hf hm.1 hm.2] at h
      injection h with h1 h
      injection h with h2 h3
      rw [Nat.zero_add] at h1 h2 hm
      subst h2
      have hl : t.length = n := by rw [← h1, List.length_take, List.length_drop]; omega
      refine ⟨by omega, by omega, ?_⟩
      unfold tx
      rw [hl, ← h1, List.prefix_iff_eq_take.1 hp]
      rw [List.length_take, Nat.min_eq_left hp.length_le, ← List.take_add]
    · rw [rdText_big hf hm] at h
      simp at h
theorem eq_noughts (w : World) : (Op.equalIn 10000 25 (.agg (hcells nought)) (.agg #[.int .u8 0, .int .u8 0, .int .u8 0, .int .u8 0, .int .u8 0, .int .u8 0, .int .u8 0, .int .u8 0, .int .u8 0, .int .u8 0, .int .u8 0, .int .u8 0, .int .u8 0, .int .u8 0, .int .u8 0, .int .u8 0, .int .u8 0, .int .u8 0, .int .u8 0, .int .u8 0, .int .u8 0, .int .u8 0, .int .u8 0, .int .u8 0, .int .u8 0, .int .u8 0, .int .u8 0, .int .u8 0, .int .u8 0, .int .u8 0, .int .u8 0, .int .u8 0])).run Try.prog w = .ok true w := by
  have h := eq_hash nought nought nought_length nought_length w
  rw [decide_eq_true rfl] at h
  exact h
theorem Byt.upto {w : World} {A : Option Addr} {l : List UInt8} {c p : Nat} (h : Byt w (.slice A l.length c) l) (hp : p ≤ l.length) : Byt w (.slice A p c) (l.take p) := by
  obtain ⟨_, h1, h2, h3⟩ := h.at_
  have hlen : (l.take p).length = p := by rw [List.length_take]; omega
  refine ⟨A, c, by rw [hlen], by omega, h2, fun hl => ?_⟩
  obtain ⟨b, off, e, hb, hc⟩ := h3 (by omega)
  refine ⟨b, off, e, hb, fun j hj => ?_⟩
  rw [hlen] at hj
  rw [hc j (by omega), List.getElem_take]

set_option maxHeartbeats 3200000 in
theorem one_any (v : Value) (l : List UInt8) (w : World) (hv : Byt w v l) : Calls Try.prog 6 #[v] w fun e w' => e = .returned (.bool true) ∧ Below w.heap.size w w' := by
  have hvm := hv.len
  unfold maxLen at hvm
  obtain ⟨A, c, rfl⟩ := hv.shape
  have hlc := hv.at_.2.1
  have hcm := hv.at_.2.2.1
  unfold maxLen at hcm
  by_cases hlong : 1000 < l.length
  · go_enter Try.func6, Try.ntmps6
    go_wp2_with fail
    refine (awake_any w).mono ?_
    rintro e w' ⟨rfl, hb⟩
    go_wp2_with fail
    go_ret
    exact ⟨rfl, hb⟩
  · obtain ⟨x, p1, r1, E1⟩ : ∃ x p1 r1, rdNum 18446744073709551615 l 0 true = (x, p1, r1) := ⟨_, _, _, rfl⟩
    obtain ⟨t, p2, r2, E2⟩ : ∃ t p2 r2, rdText l 0 true = (t, p2, r2) := ⟨_, _, _, rfl⟩
    have HE1 := hid E1
    have HE2 := hid E2
    clear E1 E2
    have hl2 : l.length ≤ 1099511627776 := by omega
    go_enter Try.func6, Try.ntmps6
    go_wp2_with fail
    refine (read_any _ l w hv hl2).mono ?_
    rintro e w1 ⟨g1, rfl, hg1, hr1, hb1⟩
    have hlt1 := hr1.lt
    go_wp2_with fail
    refine (read_any _ l w1 (hv.below hb1) hl2).mono ?_
    rintro e w2 ⟨g2, rfl, hg2, hr2, hb2⟩
    have hbw2 : Below w.heap.size w w2 := hb1.trans (hb2.mono hb1.size)
    have hrA := hr1.below hb2
    have hlt2 := hr2.lt
    have hs1 := hb1.size
    have hs2 := hb2.size
    have hne : g1 ≠ g2 := by omega
    clear hr1
    go_wp2_with fail
    have C1 := rnum_any g1 l 0 true w2 hrA hl2
    rw [HE1.out] at C1
    refine C1.mono ?_
    clear C1
    rintro e w3 ⟨rfl, hr3, hG3⟩
    have hbw3 : Below w.heap.size w w3 := hbw2.grown hG3 (by omega) (fun k hk => by injection hk; omega)
    have hrB := hr2.far hrA hne.symm hG3
    have hs3 := hG3.size
    go_wp2_with fail
    have C2 := rtext_any g2 l 0 true w3 hrB hl2
    rw [HE2.out] at C2
    refine C2.mono ?_
    clear C2
    rintro e w4 ⟨v4, rfl, hown4, hr4, hG4⟩
    have hbw4 : Below w.heap.size w w4 := hbw3.grown hG4 (by omega) (fun k hk => by injection hk; omega)
    have hrC := hr3.far hrB hne hG4
    have hs4 := hG4.size
    obtain ⟨A4, c4, rfl⟩ := hown4.byt.shape
    clear hrA hr2 hrB hr3 hG3 hG4 hb1 hb2 hbw2 hbw3
    go_wp2_with fail
    refine (wrong_any g1 l p1 r1 w4 hrC).mono ?_
    rintro e w' ⟨rfl, rfl⟩
    cases r1 with
    | true =>
      have hx := rdNum_own HE1.out
      have hp1 := hx.2.1
      go_wp2_with fail
      refine (num_any _ [] (x : Int) w4 (Byt.nil _) (by omega) (by have := hx.1; omega) (by simp)).mono ?_
      rintro e w5 ⟨v5, rfl, hown5, hb5⟩
      rw [Int.toNat_natCast, List.nil_append, hx.2.2] at hown5
      have hrD := hrC.below hb5
      have hr5 := hr4.below hb5
      have hown6 := hown4.below hb5
      have hbw5 : Below w.heap.size w w5 := hbw4.trans (hb5.mono hbw4.size)
      go_wp2_with fail
      refine (left_any g1 l p1 true w5 hrD hl2).mono ?_
      rintro e w' ⟨rfl, n5, rfl⟩
      have hv5 : Byt (w5.drewN n5) (.slice A p1 c) (l.take p1) := ((hv.below hbw5).upto hp1).drewN n5
      have q1 : (l.length : Int) - ((l.length : Int) - (p1 : Int)) = (p1 : Int) := by omega
      have q2 : (p1 : Int) ≤ (c : Int) := by omega
      clear hx
      go_wp2_with fail
      refine (same_yes _ _ _ _ (hown5.byt.drewN _) hv5).mono ?_
      rintro e w' ⟨rfl, n6, rfl⟩
      clear hv5 hown5 q1 q2
      go_wp2_with fail
      refine (wrong_any g2 l p2 r2 _ (hr5.drewN _)).mono ?_
      rintro e w' ⟨rfl, rfl⟩
      obtain ⟨w6, hw6⟩ : ∃ w6 : World, w6 = w5.drewN (n5 + n6) := ⟨_, rfl⟩
      have hr6 : Rdr w6 g2 l p2 r2 := by rw [hw6]; exact hr5.drewN _
      have hown7 : Own w3.heap.size w6 (.slice A4 t.length c4) t := by rw [hw6]; exact hown6.drewN _
      have hbw6 : Below w.heap.size w w6 := by rw [hw6]; exact below_drewN hbw5 _
      rw [← hw6]
      clear hw6 hr5 hown6 hbw5 hb5 hrD hbw4 hrC hr4 hown4
      cases r2 with
      | true =>
        have hy := rdText_own HE2.out
        have hp2 := hy.2.1
        go_wp2_with fail
        refine (text_any _ _ [] t w6 (Byt.nil _) hown7.byt (by simp) hy.1).mono ?_
        rintro e w7 ⟨v7, rfl, hown8, hb7⟩
        rw [List.nil_append, hy.2.2] at hown8
        have hr7 := hr6.below hb7
        have hbw7 : Below w.heap.size w w7 := hbw6.trans (hb7.mono hbw6.size)
        go_wp2_with fail
        refine (left_any g2 l p2 true w7 hr7 hl2).mono ?_
        rintro e w' ⟨rfl, n7, rfl⟩
        have hv7 : Byt (w7.drewN n7) (.slice A p2 c) (l.take p2) := ((hv.below hbw7).upto hp2).drewN n7
        have q1 : (l.length : Int) - ((l.length : Int) - (p2 : Int)) = (p2 : Int) := by omega
        have q2 : (p2 : Int) ≤ (c : Int) := by omega
        clear hy
        go_wp2_with fail
        refine (same_yes _ _ _ _ (hown8.byt.drewN _) hv7).mono ?_
        rintro e w' ⟨rfl, n8, rfl⟩
        obtain ⟨w8, hw8⟩ : ∃ w8 : World, w8 = (w7.drewN n7).drewN n8 := ⟨_, rfl⟩
        have hbw8 : Below w.heap.size w w8 := by rw [hw8]; exact below_drewN (below_drewN hbw7 _) _
        rw [← hw8]
        clear hw8 hv7 hown8 q1 q2 hr7 hbw7 hb7 hr6 hown7 hbw6
        clear hv
        have heq := eq_noughts
        go_wp2_with fail
        refine (rnum_nil _).mono ?_
        rintro e w' ⟨rfl, rfl⟩
        go_wp2_with fail
        refine (upto_nil 5 _ (by omega) (by omega)).mono ?_
        rintro e w' ⟨rfl, rfl⟩
        go_wp2_with fail
        refine (rtext_nil _).mono ?_
        rintro e w' ⟨rfl, rfl⟩
        go_wp2_with fail
        refine (rhash_nil _).mono ?_
        rintro e w9 ⟨rfl, hb9⟩
        have hbw9 : Below w.heap.size w w9 := hbw8.trans (hb9.mono hbw8.size)
        go_wp2_with fail
        refine (left_nil _).mono ?_
        rintro e w' ⟨rfl, rfl⟩
        go_wp2_with fail
        refine (wrong_nil _).mono ?_
        rintro e w' ⟨rfl, rfl⟩
        go_wp2_with fail
        refine (done_nil _).mono ?_
        rintro e w' ⟨rfl, rfl⟩
        go_wp2_with fail
        refine (awake_any w9).mono ?_
        rintro e w10 ⟨rfl, hb10⟩
        go_wp2_with fail
        go_ret
        exact ⟨rfl, hbw9.trans (hb10.mono hbw9.size)⟩
      | false =>
        have hbw8 := hbw6
        clear hr6 hown7
        clear hv
        have heq := eq_noughts
        go_wp2_with fail
        refine (rnum_nil _).mono ?_
        rintro e w' ⟨rfl, rfl⟩
        go_wp2_with fail
        refine (upto_nil 5 _ (by omega) (by omega)).mono ?_
        rintro e w' ⟨rfl, rfl⟩
        go_wp2_with fail
        refine (rtext_nil _).mono ?_
        rintro e w' ⟨rfl, rfl⟩
        go_wp2_with fail
        refine (rhash_nil _).mono ?_
        rintro e w9 ⟨rfl, hb9⟩
        have hbw9 : Below w.heap.size w w9 := hbw8.trans (hb9.mono hbw8.size)
        go_wp2_with fail
        refine (left_nil _).mono ?_
        rintro e w' ⟨rfl, rfl⟩
        go_wp2_with fail
        refine (wrong_nil _).mono ?_
        rintro e w' ⟨rfl, rfl⟩
        go_wp2_with fail
        refine (done_nil _).mono ?_
        rintro e w' ⟨rfl, rfl⟩
        go_wp2_with fail
        refine (awake_any w9).mono ?_
        rintro e w10 ⟨rfl, hb10⟩
        go_wp2_with fail
        go_ret
        exact ⟨rfl, hbw9.trans (hb10.mono hbw9.size)⟩
    | false =>
      go_wp2_with fail
      refine (wrong_any g2 l p2 r2 w4 hr4).mono ?_
      rintro e w' ⟨rfl, rfl⟩
      obtain ⟨w6, hw6⟩ : ∃ w6 : World, w6 = w4 := ⟨_, rfl⟩
      rw [← hw6] at hr4 hown4 hbw4 ⊢
      have hr6 := hr4
      have hown7 := hown4
      have hbw6 := hbw4
      clear hw6 hr4 hown4 hbw4 hrC
      cases r2 with
      | true =>
        have hy := rdText_own HE2.out
        have hp2 := hy.2.1
        go_wp2_with fail
        refine (text_any _ _ [] t w6 (Byt.nil _) hown7.byt (by simp) hy.1).mono ?_
        rintro e w7 ⟨v7, rfl, hown8, hb7⟩
        rw [List.nil_append, hy.2.2] at hown8
        have hr7 := hr6.below hb7
        have hbw7 : Below w.heap.size w w7 := hbw6.trans (hb7.mono hbw6.size)
        go_wp2_with fail
        refine (left_any g2 l p2 true w7 hr7 hl2).mono ?_
        rintro e w' ⟨rfl, n7, rfl⟩
        have hv7 : Byt (w7.drewN n7) (.slice A p2 c) (l.take p2) := ((hv.below hbw7).upto hp2).drewN n7
        have q1 : (l.length : Int) - ((l.length : Int) - (p2 : Int)) = (p2 : Int) := by omega
        have q2 : (p2 : Int) ≤ (c : Int) := by omega
        clear hy
        go_wp2_with fail
        refine (same_yes _ _ _ _ (hown8.byt.drewN _) hv7).mono ?_
        rintro e w' ⟨rfl, n8, rfl⟩
        obtain ⟨w8, hw8⟩ : ∃ w8 : World, w8 = (w7.drewN n7).drewN n8 := ⟨_, rfl⟩
        have hbw8 : Below w.heap.size w w8 := by rw [hw8]; exact below_drewN (below_drewN hbw7 _) _
        rw [← hw8]
        clear hw8 hv7 hown8 q1 q2 hr7 hbw7 hb7 hr6 hown7 hbw6
        clear hv
        have heq := eq_noughts
        go_wp2_with fail
        refine (rnum_nil _).mono ?_
        rintro e w' ⟨rfl, rfl⟩
        go_wp2_with fail
        refine (upto_nil 5 _ (by omega) (by omega)).mono ?_
        rintro e w' ⟨rfl, rfl⟩
        go_wp2_with fail
        refine (rtext_nil _).mono ?_
        rintro e w' ⟨rfl, rfl⟩
        go_wp2_with fail
        refine (rhash_nil _).mono ?_
        rintro e w9 ⟨rfl, hb9⟩
        have hbw9 : Below w.heap.size w w9 := hbw8.trans (hb9.mono hbw8.size)
        go_wp2_with fail
        refine (left_nil _).mono ?_
        rintro e w' ⟨rfl, rfl⟩
        go_wp2_with fail
        refine (wrong_nil _).mono ?_
        rintro e w' ⟨rfl, rfl⟩
        go_wp2_with fail
        refine (done_nil _).mono ?_
        rintro e w' ⟨rfl, rfl⟩
        go_wp2_with fail
        refine (awake_any w9).mono ?_
        rintro e w10 ⟨rfl, hb10⟩
        go_wp2_with fail
        go_ret
        exact ⟨rfl, hbw9.trans (hb10.mono hbw9.size)⟩
      | false =>
        have hbw8 := hbw6
        clear hr6 hown7
        clear hv
        have heq := eq_noughts
        go_wp2_with fail
        refine (rnum_nil _).mono ?_
        rintro e w' ⟨rfl, rfl⟩
        go_wp2_with fail
        refine (upto_nil 5 _ (by omega) (by omega)).mono ?_
        rintro e w' ⟨rfl, rfl⟩
        go_wp2_with fail
        refine (rtext_nil _).mono ?_
        rintro e w' ⟨rfl, rfl⟩
        go_wp2_with fail
        refine (rhash_nil _).mono ?_
        rintro e w9 ⟨rfl, hb9⟩
        have hbw9 : Below w.heap.size w w9 := hbw8.trans (hb9.mono hbw8.size)
        go_wp2_with fail
        refine (left_nil _).mono ?_
        rintro e w' ⟨rfl, rfl⟩
        go_wp2_with fail
        refine (wrong_nil _).mono ?_
        rintro e w' ⟨rfl, rfl⟩
        go_wp2_with fail
        refine (done_nil _).mono ?_
        rintro e w' ⟨rfl, rfl⟩
        go_wp2_with fail
        refine (awake_any w9).mono ?_
        rintro e w10 ⟨rfl, hb10⟩
        go_wp2_with fail
        go_ret
        exact ⟨rfl, hbw9.trans (hb10.mono hbw9.size)⟩
end Go.Proofs.Ytggonealcpbonaa
