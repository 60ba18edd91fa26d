/-
  The law of records, from what crc.Record and crc.Next tell.
-/
import Derived.Test.YtpecdlafeelkoaaCrcTurnsWalk
namespace Go.Proofs.Ytpecdlafeelkoaa
open Go.RowKit

/-- What crc.Record tells of no bytes. -/
def RecordNone : Prop := ∀ (v : Value) (w : World), Byt w v [] →
  Calls Try.prog 9 #[v] w fun e w' => ∃ x, e = .returned (.tuple #[x, .int .i64 1]) ∧ Byt w' x [] ∧ Below w.heap.size w w'

theorem next_in {l : List UInt8} (h : nextN l = 1) : (nextB l).length = numL l := by
  unfold nextB
  rw [if_pos h]
  unfold nextN at h
  unfold inL
  rw [List.length_take, List.length_drop]
  by_cases h1 : l.length < 8
  · rw [if_pos h1] at h
    omega
  · rw [if_neg h1] at h
    by_cases h2 : numL l < 1 ∨ 65536 < numL l
    · rw [if_pos h2] at h
      omega
    · rw [if_neg h2] at h
      by_cases h3 : l.length < 8 + numL l
      · rw [if_pos h3] at h
        omega
      · omega
theorem nextN_le (l : List UInt8) : nextN l = 0 ∨ nextN l = 1 ∨ nextN l = 2 := by
  unfold nextN
  split
  · exact .inr (.inr rfl)
  · split
    · exact .inl rfl
    · split
      · exact .inr (.inr rfl)
      · split
        · exact .inr (.inl rfl)
        · exact .inl rfl

set_option maxHeartbeats 1600000 in
theorem lawCrcRecords_any (hRec : RecordOk) (hNone : RecordNone) (hNext : NextOk) (v1 : Value) (b : List UInt8) (v2 : Value) (m : List UInt8) (w : World) (hv1 : Byt w v1 b) (hv2 : Byt w v2 m) :
    Calls Try.prog 4 #[v1, v2] w fun e w' => e = .returned (.bool true) ∧ Below w.heap.size w w' := by
  have HRC := hid hRec
  have HRN := hid hNone
  have HNX := hid hNext
  clear hRec hNext hNone
  obtain ⟨A1, c1, rfl⟩ := hv1.shape
  obtain ⟨A2, c2, rfl⟩ := hv2.shape
  obtain ⟨L, HL⟩ : ∃ L : Nat, Hid (b.length = L) := ⟨_, hid rfl⟩
  obtain ⟨M, HM⟩ : ∃ L : Nat, Hid (m.length = L) := ⟨_, hid rfl⟩
  rw [HL.out] at hv1 ⊢
  rw [HM.out] at hv2 ⊢
  have HV1 := hid hv1
  have HV2 := hid hv2
  clear hv1 hv2
  by_cases hlong : 1000 < L
  · have hq : (1000 : Int) < (L : Int) := by omega
    go_enter Try.func4, Try.ntmps4
    go_wp2_with fail
    refine (crcAwake_any w).mono ?_
    rintro e w' ⟨rfl, hb⟩
    go_wp2_with fail
    go_ret
    exact ⟨rfl, hb⟩
  have hq : ¬ (1000 : Int) < (L : Int) := by omega
  by_cases hlong2 : 1000 < M
  · have hq2 : (1000 : Int) < (M : Int) := by omega
    go_enter Try.func4, Try.ntmps4
    go_wp2_with fail
    refine (crcAwake_any w).mono ?_
    rintro e w' ⟨rfl, hb⟩
    go_wp2_with fail
    go_ret
    exact ⟨rfl, hb⟩
  have hq2 : ¬ (1000 : Int) < (M : Int) := by omega
  have HM9 := hid (show m.length ≤ 900000 by rw [HM.out]; omega)
  have hnx := nextN_le m
  obtain ⟨N, HN⟩ : ∃ N : Nat, Hid ((nextB m).length = N) := ⟨_, hid rfl⟩
  have HKE : Hid ((nextN m = 0 ∧ nextK m = 0 ∧ nextE m = 2) ∨ (nextN m = 1 ∧ nextK m = 8 + N ∧ nextE m = 0) ∨ (nextN m = 2 ∧ nextK m = 0 ∧ nextE m = 3)) := hid (by
    rcases hnx with h | h | h
    · exact .inl ⟨h, by unfold nextK; rw [h]; rfl, by unfold nextE; rw [h]; rfl⟩
    · exact .inr (.inl ⟨h, by unfold nextK; rw [if_pos h, ← HN.out, next_in h], by unfold nextE; rw [if_pos h]⟩)
    · exact .inr (.inr ⟨h, by unfold nextK; rw [h]; rfl, by unfold nextE; rw [h]; rfl⟩))
  have hN9 : N ≤ 900000 := by
    rw [← HN.out]
    unfold nextB
    split
    · unfold inL
      rw [List.length_take, List.length_drop, HM.out]
      omega
    · exact Nat.zero_le _
  have CN := fun w' (h : Below w.heap.size w w') => HNX.out _ m w' (by have := HV2.out.below h; exact this) HM9.out
  have CR := fun w' (h : Below w.heap.size w w') => refNext_any _ m w' (by have := HV2.out.below h; exact this) HM9.out
  clear hnx
  by_cases h0 : L = 0
  · subst h0
    have hnil : b = [] := List.eq_nil_of_length_eq_zero HL.out
    have HNIL := hid hnil
    clear hnil
    rcases HKE.out with ⟨h1, h2, h3⟩ | ⟨h1, h2, h3⟩ | ⟨h1, h2, h3⟩
    · simp only [h2, h3] at CN
      simp only [h1] at CR
      have HCN := hid CN
      have HCR := hid CR
      clear CN CR h1 h2 h3
      go_enter Try.func4, Try.ntmps4
      go_wp2_with fail
      refine (HRN.out _ w (by have := HV1.out; rw [HNIL.out] at this; exact this)).mono ?_
      rintro e w1 ⟨r, rfl, hr, hb1⟩
      obtain ⟨Ar, cr, rfl⟩ := hr.shape
      have hb1' := hb1
      have HRB := hid hr
      clear hr
      go_wp2_with fail
      refine (HCN.out w1 hb1).mono ?_
      rintro e w2 ⟨x, rfl, hx, hb2⟩
      have hb2' := hb1.trans (hb2.mono hb1.size)
      go_wp2_with fail
      refine (HCR.out w2 hb2').mono ?_
      rintro e w3 ⟨y, rfl, hy, hb3⟩
      have hb3' := hb2'.trans (hb3.mono hb2'.size)
      have hx3 := hx.below hb3
      obtain ⟨Ay, cy, rfl⟩ := hy.shape
      have CS := same_yes _ _ (nextB m) w3 hx3 hy
      rw [HN.out] at CS ⊢
      have HCS := hid CS
      have hr3 := (HRB.out.below hb2).below hb3
      have HR3 := hid hr3
      clear CS hx hx3 hy hr3
      go_wp2_with fail
      refine HCS.out.mono ?_
      rintro e w4 ⟨rfl, k4, hw4⟩
      have hb4 : Below w.heap.size w w4 := by rw [hw4]; exact below_drewN hb3' k4
      clear hw4
      go_wp2_with fail
      refine (crcAwake_any _).mono ?_
      rintro e w5 ⟨rfl, hb5⟩
      go_wp2_with fail
      go_ret
      exact ⟨rfl, hb4.trans (hb5.mono hb4.size)⟩
    · simp only [h2, h3] at CN
      simp only [h1] at CR
      have HCN := hid CN
      have HCR := hid CR
      clear CN CR h1 h2 h3
      go_enter Try.func4, Try.ntmps4
      go_wp2_with fail
      refine (HRN.out _ w (by have := HV1.out; rw [HNIL.out] at this; exact this)).mono ?_
      rintro e w1 ⟨r, rfl, hr, hb1⟩
      obtain ⟨Ar, cr, rfl⟩ := hr.shape
      have hb1' := hb1
      have HRB := hid hr
      clear hr
      go_wp2_with fail
      refine (HCN.out w1 hb1).mono ?_
      rintro e w2 ⟨x, rfl, hx, hb2⟩
      have hb2' := hb1.trans (hb2.mono hb1.size)
      go_wp2_with fail
      refine (HCR.out w2 hb2').mono ?_
      rintro e w3 ⟨y, rfl, hy, hb3⟩
      have hb3' := hb2'.trans (hb3.mono hb2'.size)
      have hx3 := hx.below hb3
      obtain ⟨Ay, cy, rfl⟩ := hy.shape
      have CS := same_yes _ _ (nextB m) w3 hx3 hy
      rw [HN.out] at CS ⊢
      have HCS := hid CS
      have hr3 := (HRB.out.below hb2).below hb3
      have HR3 := hid hr3
      clear CS hx hx3 hy hr3
      have hk0 : (8 + (N : Int) == 0) = false := by rw [beq_eq_false_iff_ne]; omega
      go_wp2_with fail
      refine HCS.out.mono ?_
      rintro e w4 ⟨rfl, k4, hw4⟩
      have hb4 : Below w.heap.size w w4 := by rw [hw4]; exact below_drewN hb3' k4
      clear hw4
      go_wp2_with fail
      refine (crcAwake_any _).mono ?_
      rintro e w5 ⟨rfl, hb5⟩
      go_wp2_with fail
      go_ret
      exact ⟨rfl, hb4.trans (hb5.mono hb4.size)⟩
    · simp only [h2, h3] at CN
      simp only [h1] at CR
      have HCN := hid CN
      have HCR := hid CR
      clear CN CR h1 h2 h3
      go_enter Try.func4, Try.ntmps4
      go_wp2_with fail
      refine (HRN.out _ w (by have := HV1.out; rw [HNIL.out] at this; exact this)).mono ?_
      rintro e w1 ⟨r, rfl, hr, hb1⟩
      obtain ⟨Ar, cr, rfl⟩ := hr.shape
      have hb1' := hb1
      have HRB := hid hr
      clear hr
      go_wp2_with fail
      refine (HCN.out w1 hb1).mono ?_
      rintro e w2 ⟨x, rfl, hx, hb2⟩
      have hb2' := hb1.trans (hb2.mono hb1.size)
      go_wp2_with fail
      refine (HCR.out w2 hb2').mono ?_
      rintro e w3 ⟨y, rfl, hy, hb3⟩
      have hb3' := hb2'.trans (hb3.mono hb2'.size)
      have hx3 := hx.below hb3
      obtain ⟨Ay, cy, rfl⟩ := hy.shape
      have CS := same_yes _ _ (nextB m) w3 hx3 hy
      rw [HN.out] at CS ⊢
      have HCS := hid CS
      have hr3 := (HRB.out.below hb2).below hb3
      have HR3 := hid hr3
      clear CS hx hx3 hy hr3
      go_wp2_with fail
      refine HCS.out.mono ?_
      rintro e w4 ⟨rfl, k4, hw4⟩
      have hb4 : Below w.heap.size w w4 := by rw [hw4]; exact below_drewN hb3' k4
      clear hw4
      go_wp2_with fail
      refine (crcAwake_any _).mono ?_
      rintro e w5 ⟨rfl, hb5⟩
      go_wp2_with fail
      go_ret
      exact ⟨rfl, hb4.trans (hb5.mono hb4.size)⟩
  · have h0b : ((L : Int) == 0) = false := by rw [beq_eq_false_iff_ne]; omega
    have hL1 : 1 ≤ L := by omega
    have HLL := hid hL1
    clear h0 hL1
    have hrl : (recS b).length = 8 + L := by rw [recS_length, HL.out]
    have HRL := hid hrl
    obtain ⟨R, HR⟩ : ∃ R : Nat, Hid (8 + L = R) := ⟨_, hid rfl⟩
    have hR9 : R ≤ 2000 := by have := HR.out; omega
    have HK2 : Hid (nextK (recS b ++ m) = R ∧ nextE (recS b ++ m) = 0 ∧ nextB (recS b ++ m) = b) := hid (by
      obtain ⟨h1, h2⟩ := next_rec (b := b) (by rw [HL.out]; exact HLL.out) (by rw [HL.out]; omega) m
      refine ⟨?_, by unfold nextE; rw [if_pos h1], h2⟩
      have h3 := next_in h1
      rw [h2, HL.out] at h3
      unfold nextK
      rw [if_pos h1, ← h3, HR.out])
    clear hrl
    rcases HKE.out with ⟨h1, h2, h3⟩ | ⟨h1, h2, h3⟩ | ⟨h1, h2, h3⟩
    · simp only [h2, h3] at CN
      simp only [h1] at CR
      have HCN := hid CN
      have HCR := hid CR
      clear CN CR h1 h2 h3
      go_enter Try.func4, Try.ntmps4
      go_wp2_with fail
      refine (HRC.out _ b w (by have := HV1.out; exact this) (by rw [HL.out]; exact HLL.out) (by rw [HL.out]; omega)).mono ?_
      rintro e w1 ⟨r, rfl, hr0, hb1⟩
      have hr := hr0.byt
      obtain ⟨Ar, cr, rfl⟩ := hr.shape
      have HRO := hid hr0
      rw [HRL.out, HR.out] at hr ⊢
      clear hr0
      have HRB := hid hr
      clear hr
      go_wp2_with fail
      refine (HCN.out w1 hb1).mono ?_
      rintro e w2 ⟨x, rfl, hx, hb2⟩
      have hb2' := hb1.trans (hb2.mono hb1.size)
      go_wp2_with fail
      refine (HCR.out w2 hb2').mono ?_
      rintro e w3 ⟨y, rfl, hy, hb3⟩
      have hb3' := hb2'.trans (hb3.mono hb2'.size)
      have hx3 := hx.below hb3
      obtain ⟨Ay, cy, rfl⟩ := hy.shape
      have CS := same_yes _ _ (nextB m) w3 hx3 hy
      rw [HN.out] at CS ⊢
      have HCS := hid CS
      have hr3 := (HRB.out.below hb2).below hb3
      have HR3 := hid hr3
      clear CS hx hx3 hy hr3
      go_wp2_with fail
      refine HCS.out.mono ?_
      rintro e w4 ⟨rfl, k4, hw4⟩
      have hb4 : Below w.heap.size w w4 := by rw [hw4]; exact below_drewN hb3' k4
      have hr4 : Byt w4 (.slice Ar R cr) (recS b) := by rw [hw4]; exact HR3.out
      clear hw4
      have hl0 : ([] : List UInt8).length + (recS b).length ≤ 140737488355328 := by rw [HRL.out, List.length_nil]; omega
      have hl1 : (recS b).length + m.length ≤ 140737488355328 := by rw [HRL.out, HM.out]; omega
      have hl9 : (recS b ++ m).length ≤ 900000 := by rw [List.length_append, HRL.out, HM.out]; omega
      have HL1 := hid hl1
      have HL9 := hid hl9
      have HL0 := hid hl0
      have HR4 := hid hr4
      clear hl1 hl9 hl0 hr4
      go_wp2_with (first
        | (at_builtin; refine wpList_append_byt rfl (.tmp 97) (.tmp 98) rfl rfl rfl (fresh_own w4) (HR4.out.alloc _) HL0.out (alloc_le w4 _) ?_; intro v5 w5 hown5 hg5 hv5; simp only [List.nil_append] at hown5; have hb5 := fresh_below hg5; clear hg5)
        | (at_builtin; refine wpList_append_byt rfl (.tmp 99) (.tmp 100) rfl rfl rfl hown5 (HV2.out.below (hb4.trans (hb5.mono hb4.size)) |> fun h => (by have := h; exact this)) HL1.out hb5.size ?_; intro v6 w6 hown6 hg6 hv6; have hb6 := hb5.grown hg6 hb5.size (fun k hk => (World.ownsRow.lt hown5 k hk).1); clear hg6))
      have C := HNX.out v6 (recS b ++ m) w6 hown6.byt HL9.out
      rw [HK2.out.1, HK2.out.2.1, HK2.out.2.2] at C
      refine C.mono ?_
      clear C hown5 hown6 hv5 hv6
      rintro e w7 ⟨z, rfl, hz, hb7⟩
      have hb6' := hb4.trans (hb6.mono hb4.size)
      have hb7' := hb6'.trans (hb7.mono hb6'.size)
      have HZ := hid hz
      have HR7 := hid ((HR4.out.below hb6).below hb7)
      clear hz hb5 hb6 hb7
      go_wp2_with fail
      refine (refRecord_any _ b w7 (by have := HV1.out.below hb7'; exact this) (by rw [HL.out]; omega)).mono ?_
      rintro e w8 ⟨u, rfl, hu, hb8⟩
      have hb8' := hb7'.trans (hb8.mono hb7'.size)
      go_wp2_with fail
      refine (same_yes _ _ (recS b) w8 (HR7.out.below hb8) hu.byt).mono ?_
      rintro e w9 ⟨rfl, k9, hw9⟩
      have hb9 : Below w.heap.size w w9 := by rw [hw9]; exact below_drewN hb8' k9
      have hz9 : Byt w9 z b := by rw [hw9]; exact Byt.drewN (HZ.out.below hb8) k9
      clear hw9 hu
      go_wp2_with fail
      refine (same_yes _ _ b w9 hz9 (by have := HV1.out.below hb9; exact this)).mono ?_
      rintro e w10 ⟨rfl, k10, hw10⟩
      have hb10 : Below w.heap.size w w10 := by rw [hw10]; exact below_drewN hb9 k10
      clear hw10 hz9
      go_wp2_with fail
      refine (crcAwake_any _).mono ?_
      rintro e w11 ⟨rfl, hb11⟩
      go_wp2_with fail
      go_ret
      exact ⟨rfl, hb10.trans (hb11.mono hb10.size)⟩
    · simp only [h2, h3] at CN
      simp only [h1] at CR
      have HCN := hid CN
      have HCR := hid CR
      clear CN CR h1 h2 h3
      go_enter Try.func4, Try.ntmps4
      go_wp2_with fail
      refine (HRC.out _ b w (by have := HV1.out; exact this) (by rw [HL.out]; exact HLL.out) (by rw [HL.out]; omega)).mono ?_
      rintro e w1 ⟨r, rfl, hr0, hb1⟩
      have hr := hr0.byt
      obtain ⟨Ar, cr, rfl⟩ := hr.shape
      have HRO := hid hr0
      rw [HRL.out, HR.out] at hr ⊢
      clear hr0
      have HRB := hid hr
      clear hr
      go_wp2_with fail
      refine (HCN.out w1 hb1).mono ?_
      rintro e w2 ⟨x, rfl, hx, hb2⟩
      have hb2' := hb1.trans (hb2.mono hb1.size)
      go_wp2_with fail
      refine (HCR.out w2 hb2').mono ?_
      rintro e w3 ⟨y, rfl, hy, hb3⟩
      have hb3' := hb2'.trans (hb3.mono hb2'.size)
      have hx3 := hx.below hb3
      obtain ⟨Ay, cy, rfl⟩ := hy.shape
      have CS := same_yes _ _ (nextB m) w3 hx3 hy
      rw [HN.out] at CS ⊢
      have HCS := hid CS
      have hr3 := (HRB.out.below hb2).below hb3
      have HR3 := hid hr3
      clear CS hx hx3 hy hr3
      have hk0 : (8 + (N : Int) == 0) = false := by rw [beq_eq_false_iff_ne]; omega
      go_wp2_with fail
      refine HCS.out.mono ?_
      rintro e w4 ⟨rfl, k4, hw4⟩
      have hb4 : Below w.heap.size w w4 := by rw [hw4]; exact below_drewN hb3' k4
      have hr4 : Byt w4 (.slice Ar R cr) (recS b) := by rw [hw4]; exact HR3.out
      clear hw4
      have hl0 : ([] : List UInt8).length + (recS b).length ≤ 140737488355328 := by rw [HRL.out, List.length_nil]; omega
      have hl1 : (recS b).length + m.length ≤ 140737488355328 := by rw [HRL.out, HM.out]; omega
      have hl9 : (recS b ++ m).length ≤ 900000 := by rw [List.length_append, HRL.out, HM.out]; omega
      have HL1 := hid hl1
      have HL9 := hid hl9
      have HL0 := hid hl0
      have HR4 := hid hr4
      clear hl1 hl9 hl0 hr4
      go_wp2_with (first
        | (at_builtin; refine wpList_append_byt rfl (.tmp 97) (.tmp 98) rfl rfl rfl (fresh_own w4) (HR4.out.alloc _) HL0.out (alloc_le w4 _) ?_; intro v5 w5 hown5 hg5 hv5; simp only [List.nil_append] at hown5; have hb5 := fresh_below hg5; clear hg5)
        | (at_builtin; refine wpList_append_byt rfl (.tmp 99) (.tmp 100) rfl rfl rfl hown5 (HV2.out.below (hb4.trans (hb5.mono hb4.size)) |> fun h => (by have := h; exact this)) HL1.out hb5.size ?_; intro v6 w6 hown6 hg6 hv6; have hb6 := hb5.grown hg6 hb5.size (fun k hk => (World.ownsRow.lt hown5 k hk).1); clear hg6))
      have C := HNX.out v6 (recS b ++ m) w6 hown6.byt HL9.out
      rw [HK2.out.1, HK2.out.2.1, HK2.out.2.2] at C
      refine C.mono ?_
      clear C hown5 hown6 hv5 hv6
      rintro e w7 ⟨z, rfl, hz, hb7⟩
      have hb6' := hb4.trans (hb6.mono hb4.size)
      have hb7' := hb6'.trans (hb7.mono hb6'.size)
      have HZ := hid hz
      have HR7 := hid ((HR4.out.below hb6).below hb7)
      clear hz hb5 hb6 hb7
      go_wp2_with fail
      refine (refRecord_any _ b w7 (by have := HV1.out.below hb7'; exact this) (by rw [HL.out]; omega)).mono ?_
      rintro e w8 ⟨u, rfl, hu, hb8⟩
      have hb8' := hb7'.trans (hb8.mono hb7'.size)
      go_wp2_with fail
      refine (same_yes _ _ (recS b) w8 (HR7.out.below hb8) hu.byt).mono ?_
      rintro e w9 ⟨rfl, k9, hw9⟩
      have hb9 : Below w.heap.size w w9 := by rw [hw9]; exact below_drewN hb8' k9
      have hz9 : Byt w9 z b := by rw [hw9]; exact Byt.drewN (HZ.out.below hb8) k9
      clear hw9 hu
      go_wp2_with fail
      refine (same_yes _ _ b w9 hz9 (by have := HV1.out.below hb9; exact this)).mono ?_
      rintro e w10 ⟨rfl, k10, hw10⟩
      have hb10 : Below w.heap.size w w10 := by rw [hw10]; exact below_drewN hb9 k10
      clear hw10 hz9
      go_wp2_with fail
      refine (crcAwake_any _).mono ?_
      rintro e w11 ⟨rfl, hb11⟩
      go_wp2_with fail
      go_ret
      exact ⟨rfl, hb10.trans (hb11.mono hb10.size)⟩
    · simp only [h2, h3] at CN
      simp only [h1] at CR
      have HCN := hid CN
      have HCR := hid CR
      clear CN CR h1 h2 h3
      go_enter Try.func4, Try.ntmps4
      go_wp2_with fail
      refine (HRC.out _ b w (by have := HV1.out; exact this) (by rw [HL.out]; exact HLL.out) (by rw [HL.out]; omega)).mono ?_
      rintro e w1 ⟨r, rfl, hr0, hb1⟩
      have hr := hr0.byt
      obtain ⟨Ar, cr, rfl⟩ := hr.shape
      have HRO := hid hr0
      rw [HRL.out, HR.out] at hr ⊢
      clear hr0
      have HRB := hid hr
      clear hr
      go_wp2_with fail
      refine (HCN.out w1 hb1).mono ?_
      rintro e w2 ⟨x, rfl, hx, hb2⟩
      have hb2' := hb1.trans (hb2.mono hb1.size)
      go_wp2_with fail
      refine (HCR.out w2 hb2').mono ?_
      rintro e w3 ⟨y, rfl, hy, hb3⟩
      have hb3' := hb2'.trans (hb3.mono hb2'.size)
      have hx3 := hx.below hb3
      obtain ⟨Ay, cy, rfl⟩ := hy.shape
      have CS := same_yes _ _ (nextB m) w3 hx3 hy
      rw [HN.out] at CS ⊢
      have HCS := hid CS
      have hr3 := (HRB.out.below hb2).below hb3
      have HR3 := hid hr3
      clear CS hx hx3 hy hr3
      go_wp2_with fail
      refine HCS.out.mono ?_
      rintro e w4 ⟨rfl, k4, hw4⟩
      have hb4 : Below w.heap.size w w4 := by rw [hw4]; exact below_drewN hb3' k4
      have hr4 : Byt w4 (.slice Ar R cr) (recS b) := by rw [hw4]; exact HR3.out
      clear hw4
      have hl0 : ([] : List UInt8).length + (recS b).length ≤ 140737488355328 := by rw [HRL.out, List.length_nil]; omega
      have hl1 : (recS b).length + m.length ≤ 140737488355328 := by rw [HRL.out, HM.out]; omega
      have hl9 : (recS b ++ m).length ≤ 900000 := by rw [List.length_append, HRL.out, HM.out]; omega
      have HL1 := hid hl1
      have HL9 := hid hl9
      have HL0 := hid hl0
      have HR4 := hid hr4
      clear hl1 hl9 hl0 hr4
      go_wp2_with (first
        | (at_builtin; refine wpList_append_byt rfl (.tmp 97) (.tmp 98) rfl rfl rfl (fresh_own w4) (HR4.out.alloc _) HL0.out (alloc_le w4 _) ?_; intro v5 w5 hown5 hg5 hv5; simp only [List.nil_append] at hown5; have hb5 := fresh_below hg5; clear hg5)
        | (at_builtin; refine wpList_append_byt rfl (.tmp 99) (.tmp 100) rfl rfl rfl hown5 (HV2.out.below (hb4.trans (hb5.mono hb4.size)) |> fun h => (by have := h; exact this)) HL1.out hb5.size ?_; intro v6 w6 hown6 hg6 hv6; have hb6 := hb5.grown hg6 hb5.size (fun k hk => (World.ownsRow.lt hown5 k hk).1); clear hg6))
      have C := HNX.out v6 (recS b ++ m) w6 hown6.byt HL9.out
      rw [HK2.out.1, HK2.out.2.1, HK2.out.2.2] at C
      refine C.mono ?_
      clear C hown5 hown6 hv5 hv6
      rintro e w7 ⟨z, rfl, hz, hb7⟩
      have hb6' := hb4.trans (hb6.mono hb4.size)
      have hb7' := hb6'.trans (hb7.mono hb6'.size)
      have HZ := hid hz
      have HR7 := hid ((HR4.out.below hb6).below hb7)
      clear hz hb5 hb6 hb7
      go_wp2_with fail
      refine (refRecord_any _ b w7 (by have := HV1.out.below hb7'; exact this) (by rw [HL.out]; omega)).mono ?_
      rintro e w8 ⟨u, rfl, hu, hb8⟩
      have hb8' := hb7'.trans (hb8.mono hb7'.size)
      go_wp2_with fail
      refine (same_yes _ _ (recS b) w8 (HR7.out.below hb8) hu.byt).mono ?_
      rintro e w9 ⟨rfl, k9, hw9⟩
      have hb9 : Below w.heap.size w w9 := by rw [hw9]; exact below_drewN hb8' k9
      have hz9 : Byt w9 z b := by rw [hw9]; exact Byt.drewN (HZ.out.below hb8) k9
      clear hw9 hu
      go_wp2_with fail
      refine (same_yes _ _ b w9 hz9 (by have := HV1.out.below hb9; exact this)).mono ?_
      rintro e w10 ⟨rfl, k10, hw10⟩
      have hb10 : Below w.heap.size w w10 := by rw [hw10]; exact below_drewN hb9 k10
      clear hw10 hz9
      go_wp2_with fail
      refine (crcAwake_any _).mono ?_
      rintro e w11 ⟨rfl, hb11⟩
      go_wp2_with fail
      go_ret
      exact ⟨rfl, hb10.trans (hb11.mono hb10.size)⟩
end Go.Proofs.Ytpecdlafeelkoaa
