/-
  slices.Clone; vault's Slot and Swap. Printed with genvcode.py.
-/
import Derived.Test.YtghophbabbaleaaGreatDoorVaCodeBits
namespace Go.Proofs.YtghophbabbaleaaGreatDoor
set_option maxRecDepth 20000
open Go.RowKit
set_option maxHeartbeats 1600000 in
theorem clone_any (v : Value) (l : List UInt8) (w : World) (hv : Byt w v l) (hs : l.length ≤ 1000000) : Calls Tryz.prog 48 #[v] w fun e w' => ∃ x, e = .returned x ∧ Own w.heap.size w' x l ∧ Below w.heap.size w w' := by
  obtain ⟨A, c, rfl⟩ := hv.shape
  obtain ⟨_, h1, h2, h3⟩ := hv.at_
  rcases A with _ | ad
  · have hl : l = [] := by
      rcases l with _ | ⟨x, l⟩
      · rfl
      · obtain ⟨_, _, e, _⟩ := h3 (by simp)
        cases e
    subst hl
    clear h1 h2 h3 hv hs
    have qT := qnil_bytes
    go_enter Tryz.func48, Tryz.ntmps48
    go_wp2
    go_ret
    exact ⟨_, rfl, Own.nil _ _, Below.refl _ _⟩
  · have HV := hid (hv.alloc (.cells #[] 5))
    have hs2 : ([] : List UInt8).length + l.length ≤ 140737488355328 := by simp only [List.length_nil]; omega
    obtain ⟨L, HL⟩ : ∃ k : Nat, Hid (l.length = k) := ⟨_, hid rfl⟩
    rw [HL.out] at HV ⊢
    clear h1 h2 h3 hv hs HL
    have qT := qnil_bytes
    go_enter Tryz.func48, Tryz.ntmps48
    go_wp2_with (at_builtin; refine wpList_append_byt rfl (.tmp 5) (.tmp 6) rfl rfl rfl (fresh0_own w) HV.out hs2 (al_le w _) ?_; intro v1 w1 ho1 hg1 hv1; simp only [List.nil_append] at ho1; have hb1 := fresh0_below hg1; clear hg1 hv1)
    go_ret
    exact ⟨_, rfl, ho1, hb1⟩
section
variable {w : World} {b c a : Nat} {V : VaM} {v0 v1 vt : Value}
theorem vSlot_out (h : VltE w b c a V v0 v1 vt) (k : Int) (hk : ¬ (0 ≤ k ∧ k < 2)) : Calls Tryz.prog 19 #[.pointer (some ⟨b, 0, none⟩), .int .i64 k] w fun e w' => e = .returned (.slice none 0 0) ∧ w = w' := by
  have HM := hid (vmade_yes h)
  have HI := hid (visSlot_any k w)
  have e : (decide (0 ≤ k) && decide (k < 2)) = false := by simpa [Bool.and_eq_false_iff] using fun h0 => by omega
  rw [e] at HI
  clear h hk e
  go_enter Tryz.func19, Tryz.ntmps19
  go_wp2_with fail
  refine HM.out.mono ?_
  rintro e w1 ⟨rfl, rfl⟩
  go_wp2_with fail
  refine HI.out.mono ?_
  rintro e w1 ⟨rfl, rfl⟩
  go_wp2_with fail
  go_ret
  exact ⟨rfl, rfl⟩
set_option maxHeartbeats 1600000 in
theorem vSlot_zero (h : VltE w b c a V v0 v1 vt) (g : V.Good) : Calls Tryz.prog 19 #[.pointer (some ⟨b, 0, none⟩), .int .i64 0] w fun e w' => ∃ x, e = .returned x ∧ Byt w' x V.s0 ∧ Below w.heap.size w w' := by
  obtain ⟨_, h1, h2, _, _, _, _⟩ := h.cells
  have HM := hid (vmade_yes h)
  have HI := hid (visSlot_any 0 w)
  rw [show (decide ((0 : Int) ≤ 0) && decide ((0 : Int) < 2)) = true from by decide] at HI
  have HY := hid h.y0.byt
  have hs2 : ([] : List UInt8).length + V.s0.length ≤ 140737488355328 := by have := g.l0; simp only [List.length_nil]; omega
  clear h2 h g
  generalize V.s0 = l at *
  obtain ⟨A, c1, e⟩ := HY.out.shape
  subst e
  obtain ⟨L, HL⟩ : ∃ k : Nat, Hid (l.length = k) := ⟨_, hid rfl⟩
  rw [HL.out] at HY h1
  clear HL
  go_enter Tryz.func19, Tryz.ntmps19
  go_wp2_with fail
  refine HM.out.mono ?_
  rintro e w1 ⟨rfl, rfl⟩
  go_wp2_with fail
  refine HI.out.mono ?_
  rintro e w1 ⟨rfl, rfl⟩
  go_wp2_with (at_builtin; refine wpList_append_byt rfl (.const (.slice none 0 0)) (.tmp 18) rfl rfl rfl (Own.nil w.heap.size w) HY.out hs2 (Nat.le_refl _) ?_; intro v1 w1 ho1 hg1 hv1; simp only [List.nil_append] at ho1; have hb1 := (Below.refl w.heap.size w).grown hg1 (Nat.le_refl _) (fun k hk => by cases hk); clear hg1 hv1)
  go_ret
  exact ⟨_, rfl, ho1.byt, hb1⟩
set_option maxHeartbeats 1600000 in
theorem vSlot_one (h : VltE w b c a V v0 v1 vt) (g : V.Good) : Calls Tryz.prog 19 #[.pointer (some ⟨b, 0, none⟩), .int .i64 1] w fun e w' => ∃ x, e = .returned x ∧ Byt w' x V.s1 ∧ Below w.heap.size w w' := by
  obtain ⟨_, h1, h2, _, _, _, _⟩ := h.cells
  have HM := hid (vmade_yes h)
  have HI := hid (visSlot_any 1 w)
  rw [show (decide ((0 : Int) ≤ 1) && decide ((1 : Int) < 2)) = true from by decide] at HI
  have HY := hid h.y1.byt
  have hs2 : ([] : List UInt8).length + V.s1.length ≤ 140737488355328 := by have := g.l1; simp only [List.length_nil]; omega
  clear h1 h g
  generalize V.s1 = l at *
  obtain ⟨A, c1, e⟩ := HY.out.shape
  subst e
  obtain ⟨L, HL⟩ : ∃ k : Nat, Hid (l.length = k) := ⟨_, hid rfl⟩
  rw [HL.out] at HY h2
  clear HL
  go_enter Tryz.func19, Tryz.ntmps19
  go_wp2_with fail
  refine HM.out.mono ?_
  rintro e w1 ⟨rfl, rfl⟩
  go_wp2_with fail
  refine HI.out.mono ?_
  rintro e w1 ⟨rfl, rfl⟩
  go_wp2_with (at_builtin; refine wpList_append_byt rfl (.const (.slice none 0 0)) (.tmp 18) rfl rfl rfl (Own.nil w.heap.size w) HY.out hs2 (Nat.le_refl _) ?_; intro v1 w1 ho1 hg1 hv1; simp only [List.nil_append] at ho1; have hb1 := (Below.refl w.heap.size w).grown hg1 (Nat.le_refl _) (fun k hk => by cases hk); clear hg1 hv1)
  go_ret
  exact ⟨_, rfl, ho1.byt, hb1⟩
theorem vSlot_no {v : Value} (h : NoVlt w v) (k : Int) : Calls Tryz.prog 19 #[v, .int .i64 k] w fun e w' => e = .returned (.slice none 0 0) ∧ w = w' := by
  have HM := hid (vmade_no h)
  clear h
  go_enter Tryz.func19, Tryz.ntmps19
  go_wp2_with fail
  refine HM.out.mono ?_
  rintro e w1 ⟨rfl, rfl⟩
  go_wp2_with fail
  go_ret
  exact ⟨rfl, rfl⟩
theorem vSlot_any (h : Vlt w b c a V) (g : V.Good) (k : Int) : Calls Tryz.prog 19 #[.pointer (some ⟨b, 0, none⟩), .int .i64 k] w fun e w' => ∃ x, e = .returned x ∧ Byt w' x (slotV V k) ∧ Below w.heap.size w w' := by
  obtain ⟨v0, v1, vt, h⟩ := h
  by_cases hk : 0 ≤ k ∧ k < 2
  · obtain rfl | rfl : k = 0 ∨ k = 1 := by omega
    · exact vSlot_zero h g
    · exact vSlot_one h g
  · refine (vSlot_out h k hk).mono ?_
    rintro e w1 ⟨rfl, rfl⟩
    refine ⟨_, rfl, ?_, Below.refl _ _⟩
    unfold slotV
    rw [if_neg (by omega), if_neg (by omega)]
    exact Byt.nil _
theorem vSwap_no {v : Value} (h : NoVlt w v) (k : Int) (x : Value) : Calls Tryz.prog 21 #[v, .int .i64 k, x] w fun e w' => e = .returned (.int .i64 5) ∧ w = w' := by
  have HM := hid (vmade_no h)
  clear h
  go_enter Tryz.func21, Tryz.ntmps21
  go_wp2_with fail
  refine HM.out.mono ?_
  rintro e w1 ⟨rfl, rfl⟩
  go_wp2_with fail
  go_ret
  exact ⟨rfl, rfl⟩
theorem vSwap_out (h : VltE w b c a V v0 v1 vt) (k : Int) {A : Option Addr} {n d : Nat} (hk : k < 0 ∨ 1 < k ∨ 1000 < n) : Calls Tryz.prog 21 #[.pointer (some ⟨b, 0, none⟩), .int .i64 k, .slice A n d] w fun e w' => e = .returned (.int .i64 1) ∧ w = w' := by
  have HM := hid (vmade_yes h)
  have HI := hid (visSlot_any k w)
  clear h
  by_cases h0 : 0 ≤ k ∧ k < 2
  · rw [decide_eq_true h0.1, decide_eq_true h0.2] at HI
    have hn : (1000 : Int) < (n : Int) := by omega
    clear hk h0
    go_enter Tryz.func21, Tryz.ntmps21
    go_wp2_with fail
    refine HM.out.mono ?_
    rintro e w1 ⟨rfl, rfl⟩
    go_wp2_with fail
    refine HI.out.mono ?_
    rintro e w1 ⟨rfl, rfl⟩
    go_wp2_with fail
    go_ret
    exact ⟨rfl, rfl⟩
  · have e : (decide (0 ≤ k) && decide (k < 2)) = false := by simpa [Bool.and_eq_false_iff] using fun h0 => by omega
    rw [e] at HI
    clear hk h0 e
    go_enter Tryz.func21, Tryz.ntmps21
    go_wp2_with fail
    refine HM.out.mono ?_
    rintro e w1 ⟨rfl, rfl⟩
    go_wp2_with fail
    refine HI.out.mono ?_
    rintro e w1 ⟨rfl, rfl⟩
    go_wp2_with fail
    go_ret
    exact ⟨rfl, rfl⟩
set_option maxHeartbeats 3200000 in
theorem vSwap_zero (h : VltE w b c a V v0 v1 vt) {x : Value} {l : List UInt8} (hx : Byt w x l) (hl : l.length ≤ 1000) : Calls Tryz.prog 21 #[.pointer (some ⟨b, 0, none⟩), .int .i64 0, x] w fun e w' => e = .returned (.int .i64 0) ∧ Vlt w' b c a (putV V 0 l) ∧ Turn b a w w' := by
  have HM := hid (vmade_yes h)
  have HI := hid (visSlot_any 0 w)
  rw [show (decide ((0 : Int) ≤ 0) && decide ((0 : Int) < 2)) = true from by decide] at HI
  have HC := hid (clone_any x l w.drew (hx.drewN 1) (by omega))
  have HE : Hid (∀ W u, Below w.drew.heap.size w.drew W → Bys W u l → Vlt (W.setCell ⟨b, 1, none⟩ u) b c a (putV V 0 l) ∧ Turn b a w (W.setCell ⟨b, 1, none⟩ u)) := hid (fun W u hb hu => by
    have hb' : Below w.heap.size w W := ((Below.refl _ _).drew).trans hb
    refine ⟨?_, (Turn.of hb').setB _ _⟩
    have := (h.below hb').setSlot (k := 0) (.inl rfl) hu
    exact this)
  have HF : Hid (∀ W, Below w.drew.heap.size w.drew W → W.cell? ⟨b, 1, none⟩ = some v0 ∧ W.frozen? ⟨b, 1, none⟩ = false) := hid (fun W hb => by
    have hb' : Below w.heap.size w W := ((Below.refl _ _).drew).trans hb
    exact ⟨(h.below hb').cells.2.1, (h.below hb').free _⟩)
  obtain ⟨A0, c0, r0⟩ := h.y0.shape
  obtain ⟨A, d, rfl⟩ := hx.shape
  have hn : ¬ (1000 : Int) < (l.length : Int) := by omega
  obtain ⟨L, HL⟩ : ∃ q : Nat, Hid (l.length = q) := ⟨_, hid rfl⟩
  rw [HL.out] at HC hn ⊢
  subst r0
  generalize V.s0.length = L0 at *
  clear hx hl h HL
  go_enter Tryz.func21, Tryz.ntmps21
  go_wp2_with fail
  refine HM.out.mono ?_
  rintro e w1 ⟨rfl, rfl⟩
  go_wp2_with fail
  refine HI.out.mono ?_
  rintro e w1 ⟨rfl, rfl⟩
  go_upto_region 5 with (fail)
  clear hn
  refine wp_region_held_drew (S := fun _ => True) (by kernel_rfl) True.intro (fun hHeld => ?_)
  refine' tk (i := 0) (v := _) rfl ?_ ?_
  rotate_left
  · (intro W hW; (try dsimp only at hW); go_simp; first | done | with_reducible rfl)
  try simp only [lay]
  refine' tk (i := 1) (v := _) rfl ?_ ?_
  rotate_left
  · (intro W hW; (try dsimp only at hW); go_simp; first | done | with_reducible rfl)
  try simp only [lay]
  refine' tk (i := 2) (v := _) rfl ?_ ?_
  rotate_left
  · (intro W hW; (try dsimp only at hW); go_simp; first | done | with_reducible rfl)
  try simp only [lay]
  refine' tk (i := 4) (v := _) rfl ?_ ?_
  rotate_left
  · (intro W hW; (try dsimp only at hW); go_simp; first | done | with_reducible rfl)
  try simp only [lay]
  refine' tk (i := 5) (v := _) rfl ?_ ?_
  rotate_left
  · (intro W hW; (try dsimp only at hW); go_simp; first | done | with_reducible rfl)
  try simp only [lay]
  refine call_on (i := 3) rfl (by kernel_rfl) (by rfl) (fun K hK => ?_)
  go_simp
  refine HC.out.mono ?_
  rintro e w2 ⟨x2, rfl, ho2, hb2⟩
  have hx2 := ho2.bys
  obtain ⟨A2, c2, r2⟩ := hx2.shape
  subst r2
  refine hK.out _ _ (True.intro) (fun hHeld => ?_)
  clear hK K
  try simp only [lay]
  refine' tk (i := 6) (v := _) rfl ?_ ?_
  rotate_left
  · (intro W hW; (try dsimp only at hW); go_simp; first | done | with_reducible rfl)
  try simp only [lay]
  obtain ⟨hc2, hf2⟩ := HF.out w2 hb2
  refine call_on (i := 7) rfl (by kernel_rfl) (by rfl) (fun K hK => ?_)
  go_simp
  refine hK.out _ _ (True.intro) (fun hHeld => ?_)
  clear hK K
  try simp only [lay]
  refine wpAnyH_done (by kernel_rfl) ?_ _
  go_wp2_with fail
  go_ret
  exact ⟨rfl, HE.out _ _ hb2 hx2⟩
set_option maxHeartbeats 3200000 in
theorem vSwap_one (h : VltE w b c a V v0 v1 vt) {x : Value} {l : List UInt8} (hx : Byt w x l) (hl : l.length ≤ 1000) : Calls Tryz.prog 21 #[.pointer (some ⟨b, 0, none⟩), .int .i64 1, x] w fun e w' => e = .returned (.int .i64 0) ∧ Vlt w' b c a (putV V 1 l) ∧ Turn b a w w' := by
  have HM := hid (vmade_yes h)
  have HI := hid (visSlot_any 1 w)
  rw [show (decide ((0 : Int) ≤ 1) && decide ((1 : Int) < 2)) = true from by decide] at HI
  have HC := hid (clone_any x l w.drew (hx.drewN 1) (by omega))
  have HE : Hid (∀ W u, Below w.drew.heap.size w.drew W → Bys W u l → Vlt (W.setCell ⟨b, 2, none⟩ u) b c a (putV V 1 l) ∧ Turn b a w (W.setCell ⟨b, 2, none⟩ u)) := hid (fun W u hb hu => by
    have hb' : Below w.heap.size w W := ((Below.refl _ _).drew).trans hb
    refine ⟨?_, (Turn.of hb').setB _ _⟩
    have := (h.below hb').setSlot (k := 1) (.inr rfl) hu
    exact this)
  have HF : Hid (∀ W, Below w.drew.heap.size w.drew W → W.cell? ⟨b, 2, none⟩ = some v1 ∧ W.frozen? ⟨b, 2, none⟩ = false) := hid (fun W hb => by
    have hb' : Below w.heap.size w W := ((Below.refl _ _).drew).trans hb
    exact ⟨(h.below hb').cells.2.2.1, (h.below hb').free _⟩)
  obtain ⟨A0, c0, r0⟩ := h.y1.shape
  obtain ⟨A, d, rfl⟩ := hx.shape
  have hn : ¬ (1000 : Int) < (l.length : Int) := by omega
  obtain ⟨L, HL⟩ : ∃ q : Nat, Hid (l.length = q) := ⟨_, hid rfl⟩
  rw [HL.out] at HC hn ⊢
  subst r0
  generalize V.s1.length = L0 at *
  clear hx hl h HL
  go_enter Tryz.func21, Tryz.ntmps21
  go_wp2_with fail
  refine HM.out.mono ?_
  rintro e w1 ⟨rfl, rfl⟩
  go_wp2_with fail
  refine HI.out.mono ?_
  rintro e w1 ⟨rfl, rfl⟩
  go_upto_region 5 with (fail)
  clear hn
  refine wp_region_held_drew (S := fun _ => True) (by kernel_rfl) True.intro (fun hHeld => ?_)
  refine' tk (i := 0) (v := _) rfl ?_ ?_
  rotate_left
  · (intro W hW; (try dsimp only at hW); go_simp; first | done | with_reducible rfl)
  try simp only [lay]
  refine' tk (i := 1) (v := _) rfl ?_ ?_
  rotate_left
  · (intro W hW; (try dsimp only at hW); go_simp; first | done | with_reducible rfl)
  try simp only [lay]
  refine' tk (i := 2) (v := _) rfl ?_ ?_
  rotate_left
  · (intro W hW; (try dsimp only at hW); go_simp; first | done | with_reducible rfl)
  try simp only [lay]
  refine' tk (i := 4) (v := _) rfl ?_ ?_
  rotate_left
  · (intro W hW; (try dsimp only at hW); go_simp; first | done | with_reducible rfl)
  try simp only [lay]
  refine' tk (i := 5) (v := _) rfl ?_ ?_
  rotate_left
  · (intro W hW; (try dsimp only at hW); go_simp; first | done | with_reducible rfl)
  try simp only [lay]
  refine call_on (i := 3) rfl (by kernel_rfl) (by rfl) (fun K hK => ?_)
  go_simp
  refine HC.out.mono ?_
  rintro e w2 ⟨x2, rfl, ho2, hb2⟩
  have hx2 := ho2.bys
  obtain ⟨A2, c2, r2⟩ := hx2.shape
  subst r2
  refine hK.out _ _ (True.intro) (fun hHeld => ?_)
  clear hK K
  try simp only [lay]
  refine' tk (i := 6) (v := _) rfl ?_ ?_
  rotate_left
  · (intro W hW; (try dsimp only at hW); go_simp; first | done | with_reducible rfl)
  try simp only [lay]
  obtain ⟨hc2, hf2⟩ := HF.out w2 hb2
  refine call_on (i := 7) rfl (by kernel_rfl) (by rfl) (fun K hK => ?_)
  go_simp
  refine hK.out _ _ (True.intro) (fun hHeld => ?_)
  clear hK K
  try simp only [lay]
  refine wpAnyH_done (by kernel_rfl) ?_ _
  go_wp2_with fail
  go_ret
  exact ⟨rfl, HE.out _ _ hb2 hx2⟩
theorem vSwap_any (h : Vlt w b c a V) (k : Int) {x : Value} {l : List UInt8} (hx : Byt w x l) : Calls Tryz.prog 21 #[.pointer (some ⟨b, 0, none⟩), .int .i64 k, x] w fun e w' => e = .returned (.int .i64 (swapE k l)) ∧ Vlt w' b c a (swapV V k l) ∧ Turn b a w w' := by
  obtain ⟨v0, v1, vt, h⟩ := h
  unfold swapE swapV
  by_cases hk : k < 0 ∨ 1 < k ∨ 1000 < l.length
  · rw [if_pos hk, if_pos hk]
    obtain ⟨A, d, rfl⟩ := hx.shape
    refine (vSwap_out h k hk).mono ?_
    rintro e w1 ⟨rfl, rfl⟩
    exact ⟨rfl, ⟨v0, v1, vt, h⟩, Turn.refl _ _ _⟩
  · rw [if_neg hk, if_neg hk]
    obtain rfl | rfl : k = 0 ∨ k = 1 := by omega
    · exact vSwap_zero h hx (by omega)
    · exact vSwap_one h hx (by omega)
end
end Go.Proofs.YtghophbabbaleaaGreatDoor
