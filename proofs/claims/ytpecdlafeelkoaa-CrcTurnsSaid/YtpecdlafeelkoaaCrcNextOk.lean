/-
  crc.take and crc.Next.
-/
import Derived.Test.YtpecdlafeelkoaaCrcNumber
import Derived.Test.YtpecdlafeelkoaaCrcGot
import Derived.Test.YtpecdlafeelkoaaBare
namespace Go.Proofs.Ytpecdlafeelkoaa
open Go.RowKit

attribute [local go_sem ↓] exec_cutLHM exec_cutHM

/-- What is taken of bytes: a value for all worlds. -/
theorem take_any (A : Option Addr) (c L i k : Nat) (hik : i < k) (hk : k ≤ L) (hc : L ≤ c) (i' k' : Int) (hi : i' = (i : Int)) (hk' : k' = (k : Int)) (d : Nat) (hd : k - i = d) :
    ∃ A', (∀ w, Calls Try.prog 16 #[.slice A L c, .int .i64 i', .int .i64 k'] w fun e w' => e = .returned (.slice A' d d) ∧ w = w') ∧ ∀ w l, l.length = L → Byt w (.slice A L c) l → Byt w (.slice A' d d) ((l.drop i).take d) := by
  subst hi hk' hd
  obtain ⟨A', h1, h2⟩ := cut_lhm A c L i k hik hk hc
  refine ⟨A', fun w => ?_, h2⟩
  clear h2 hik hk hc
  go_enter Try.func16, Try.ntmps16
  go_wp2_with fail
  go_ret
  exact ⟨rfl, rfl⟩

theorem numL_take {l : List UInt8} (h : 4 ≤ l.length) : numL (l.take 4) = numL l := by
  rw [take4 h]
  rfl

set_option maxHeartbeats 1600000 in
theorem next_ok : NextOk := fun v l w hv hs => by
  obtain ⟨A, c, rfl⟩ := hv.shape
  obtain ⟨_, hc, hm, hr⟩ := hv.at_
  unfold maxLen at hm
  obtain ⟨L, HL⟩ : ∃ L : Nat, Hid (l.length = L) := ⟨_, hid rfl⟩
  have HV := hid hv
  rw [HL.out] at hc hs ⊢
  have HVW : Hid (∀ W : World, Below w.heap.size w W → Byt W (.slice A L c) l) := hid (fun W h => by have := HV.out.below h; rw [HL.out] at this; exact this)
  clear hv hr
  by_cases h8 : L < 8
  · have h8i : (L : Int) < 8 := by omega
    have HN : Hid (nextN l = 2) := hid (by unfold nextN; rw [if_pos (by rw [HL.out]; exact h8)])
    go_enter Try.func10, Try.ntmps10
    go_wp2_with fail
    go_ret3
    refine ⟨.slice none 0 0, by unfold nextK nextE; rw [HN.out]; rfl, ?_, Below.refl _ _⟩
    rw [nextB_no (by rw [HN.out]; decide)]
    exact Byt.nil w
  have h8i : ¬ (L : Int) < 8 := by omega
  have H8 := hid (show ¬ l.length < 8 by rw [HL.out]; exact h8)
  obtain ⟨n, HN⟩ : ∃ n : Nat, Hid (numL l = n) := ⟨_, hid rfl⟩
  have hn32 : n ≤ 4294967295 := by rw [← HN.out]; exact numL_lt l
  obtain ⟨A4, r4, p4⟩ := take_any A c L 0 4 (by omega) (by omega) hc 0 4 rfl rfl 4 rfl
  have HP4 : Hid (∀ W : World, Below w.heap.size w W → Byt W (.slice A4 4 4) (l.take 4)) := hid (fun W h => by have := p4 W l HL.out (HVW.out W h); rw [List.drop_zero] at this; exact this)
  have HR4 := hid r4
  clear r4 p4
  have C := number_any (.slice A4 4 4) (l.take 4) w (HP4.out w (Below.refl _ _)) (by rw [List.length_take, HL.out]; omega)
  rw [numL_take (by rw [HL.out]; omega), HN.out] at C
  have HCN := hid C
  clear C
  by_cases hbad : n < 1 ∨ 65536 < n
  · have HX : Hid (nextN l = 0) := hid (by unfold nextN; rw [if_neg H8.out, if_pos (by rw [HN.out]; exact hbad)])
    have HB := hid hbad
    clear hbad
    by_cases h1 : n < 1
    · have h1i : (n : Int) < 1 := by omega
      go_enter Try.func10, Try.ntmps10
      go_wp2_with fail
      refine (HR4.out w).mono ?_
      rintro e w1 ⟨rfl, rfl⟩
      go_wp2_with fail
      refine HCN.out.mono ?_
      rintro e w1 ⟨rfl, k1, rfl⟩
      go_wp2_with fail
      go_ret3
      refine ⟨.slice none 0 0, by unfold nextK nextE; rw [HX.out]; rfl, ?_, below_drewN (Below.refl _ _) _⟩
      rw [nextB_no (by rw [HX.out]; decide)]
      exact Byt.nil _
    · have h1i : ¬ (n : Int) < 1 := by omega
      have h2i : (65536 : Int) < (n : Int) := by have := HB.out; omega
      go_enter Try.func10, Try.ntmps10
      go_wp2_with fail
      refine (HR4.out w).mono ?_
      rintro e w1 ⟨rfl, rfl⟩
      go_wp2_with fail
      refine HCN.out.mono ?_
      rintro e w1 ⟨rfl, k1, rfl⟩
      go_wp2_with fail
      go_ret3
      refine ⟨.slice none 0 0, by unfold nextK nextE; rw [HX.out]; rfl, ?_, below_drewN (Below.refl _ _) _⟩
      rw [nextB_no (by rw [HX.out]; decide)]
      exact Byt.nil _
  have h1i : ¬ (n : Int) < 1 := by omega
  have h2i : ¬ (65536 : Int) < (n : Int) := by omega
  have HB := hid hbad
  clear hbad
  obtain ⟨m, HM⟩ : ∃ m : Nat, Hid (8 + n = m) := ⟨_, hid rfl⟩
  have hm8 : (8 : Int) + (n : Int) = (m : Int) := by have := HM.out; omega
  by_cases hend : L < m
  · have hei : (L : Int) < (m : Int) := by omega
    have HX : Hid (nextN l = 2) := hid (by unfold nextN; rw [if_neg H8.out, if_neg (by rw [HN.out]; exact HB.out), if_pos (by rw [HN.out, HL.out, HM.out]; exact hend)])
    go_enter Try.func10, Try.ntmps10
    go_wp2_with fail
    refine (HR4.out w).mono ?_
    rintro e w1 ⟨rfl, rfl⟩
    go_wp2_with fail
    refine HCN.out.mono ?_
    rintro e w1 ⟨rfl, k1, rfl⟩
    go_wp2_with fail
    go_ret3
    refine ⟨.slice none 0 0, by unfold nextK nextE; rw [HX.out]; rfl, ?_, below_drewN (Below.refl _ _) _⟩
    rw [nextB_no (by rw [HX.out]; decide)]
    exact Byt.nil _
  have hei : ¬ (L : Int) < (m : Int) := by omega
  obtain ⟨d, HD⟩ : ∃ d : Nat, Hid (m - 8 = d) := ⟨_, hid rfl⟩
  have HDN : Hid (d = n) := hid (by have := HD.out; have := HM.out; omega)
  obtain ⟨A3, r3, p3⟩ := take_any A c L 8 m (by have := HM.out; have := HB.out; omega) (by omega) hc 8 (m : Int) rfl rfl d HD.out
  obtain ⟨A5, r5, p5⟩ := take_any A c L 4 8 (by omega) (by omega) hc 4 8 rfl rfl 4 rfl
  obtain ⟨A6, r6⟩ := cut_zero A3 d d
  have HP3 : Hid (∀ W : World, Below w.heap.size w W → Byt W (.slice A3 d d) (inL l)) := hid (fun W h => by
    have := p3 W l HL.out (HVW.out W h)
    have e : (l.drop 8).take d = inL l := by unfold inL; rw [HN.out, HDN.out]
    rw [e] at this
    exact this)
  have HP5 : Hid (∀ W : World, Below w.heap.size w W → Byt W (.slice A5 4 4) ((l.drop 4).take 4)) := hid (fun W h => p5 W l HL.out (HVW.out W h))
  have HR3 := hid r3
  have HR5 := hid r5
  clear r3 r5 p3 p5
  have HGI := hid (got_iff (l := l) (by rw [HN.out, HL.out, HM.out]; omega))
  have HIL := hid (show (l.take 4 ++ inL l).length ≤ 1000000 by rw [List.length_append, List.length_take]; unfold inL; rw [List.length_take, List.length_drop, HL.out]; omega)
  have HIN : Hid ((inL l).length = n) := hid (by unfold inL; rw [List.length_take, List.length_drop, HL.out, HN.out]; have := HM.out; omega)
  have HI0 := hid (show 0 < (inL l).length by rw [HIN.out]; have := HB.out; omega)
  have HI1 := hid (show (inL l).length ≤ 140737488355328 by rw [HIN.out]; omega)
  have HD4 := hid (show 4 ≤ ((l.drop 4).take 4).length by rw [List.length_take, List.length_drop, HL.out]; omega)
  obtain ⟨q, HQ⟩ : ∃ q : Nat, Hid ((crcS (l.take 4 ++ inL l)).toNat = q) := ⟨_, hid rfl⟩
  obtain ⟨u, HU⟩ : ∃ q : Nat, Hid (numL ((l.drop 4).take 4) = q) := ⟨_, hid rfl⟩
  go_enter Try.func10, Try.ntmps10
  go_wp2_with fail
  refine (HR4.out w).mono ?_
  rintro e w1 ⟨rfl, rfl⟩
  go_wp2_with fail
  refine HCN.out.mono ?_
  rintro e w1 ⟨rfl, k1, hw1⟩
  have hb1 : Below w.heap.size w w1 := by rw [hw1]; exact below_drewN (Below.refl _ _) k1
  clear hw1 HCN
  go_wp2_with fail
  refine (HR3.out w1).mono ?_
  rintro e w2 ⟨rfl, rfl⟩
  go_wp2_with fail
  refine (HR5.out w1).mono ?_
  rintro e w2 ⟨rfl, rfl⟩
  go_wp2_with fail
  have C := number_any _ _ w1 (HP5.out _ hb1) HD4.out
  rw [HU.out] at C
  refine C.mono ?_
  clear C
  rintro e w2 ⟨rfl, k2, hw2⟩
  have hb2 : Below w.heap.size w w2 := by rw [hw2]; exact below_drewN hb1 k2
  clear hw2 hb1
  go_wp2_with fail
  have hbl : Below w.heap.size w (w2.alloc (.cells #[.slice A4 4 4, .slice A3 d d] 22)) := hb2.alloc hb2.size _
  have CO := crcOf_two _ _ (l.take 4) (inL l) w2.heap.size 2 (w2.alloc (.cells #[.slice A4 4 4, .slice A3 d d] 22)) (lt_al w2 _) (new_cell w2 _ _ 0 _ rfl) (new_cell w2 _ _ 1 _ rfl) (HP4.out _ hbl) (HP3.out _ hbl) rfl HIL.out
  rw [HQ.out] at CO
  refine CO.mono ?_
  clear CO
  rintro e w3 ⟨rfl, hb3'⟩
  have hb3 := hbl.trans (hb3'.mono hbl.size)
  clear hbl hb3' hb2
  by_cases hqu : q = u
  · have hne : ((u : Int) != (q : Int)) = false := by rw [hqu]; simp
    have HX : Hid (nextN l = 1) := hid (by
      unfold nextN
      rw [if_neg H8.out, if_neg (by rw [HN.out]; exact HB.out), if_neg (by rw [HN.out, HL.out, HM.out]; exact hend), if_pos (HGI.out.2 (by rw [HQ.out, HU.out]; exact hqu))])
    clear hqu
    go_wp2_with (at_builtin; refine wpList_append_bare rfl (.tmp 41) (.tmp 42) rfl rfl rfl (HP3.out _ hb3) HI0.out HI1.out ?_; intro v4 w4 hown4 hg4; have hb4 := hb3.grown hg4 hb3.size (fun k h => by cases h); clear hg4)
    go_ret3
    refine ⟨v4, by unfold nextK nextE; rw [if_pos HX.out, if_pos HX.out, HN.out, HM.out]; rfl, ?_, hb4⟩
    unfold nextB
    rw [if_pos HX.out]
    exact hown4.byt
  · have hne : ((u : Int) != (q : Int)) = true := by rw [bne_iff_ne]; omega
    have HX : Hid (nextN l = 0) := hid (by
      unfold nextN
      rw [if_neg H8.out, if_neg (by rw [HN.out]; exact HB.out), if_neg (by rw [HN.out, HL.out, HM.out]; exact hend), if_neg (fun h => hqu (by have := HGI.out.1 h; rw [HQ.out, HU.out] at this; exact this))])
    clear hqu
    go_wp2_with fail
    go_ret3
    refine ⟨.slice none 0 0, by unfold nextK nextE; rw [HX.out]; rfl, ?_, hb3⟩
    rw [nextB_no (by rw [HX.out]; decide)]
    exact Byt.nil _
end Go.Proofs.Ytpecdlafeelkoaa
