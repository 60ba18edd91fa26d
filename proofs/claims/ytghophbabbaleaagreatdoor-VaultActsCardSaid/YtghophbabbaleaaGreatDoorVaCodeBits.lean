/-
  vault's small functions: made, fault, next, place, isSlot, step, At, Dead, Arm, New.
-/
import Derived.Test.YtghophbabbaleaaGreatDoorVaWords
namespace Go.Proofs.YtghophbabbaleaaGreatDoor
set_option maxRecDepth 20000
open Go.RowKit
section
variable {w : World} {b c a : Nat} {V : VaM} {v0 v1 vt : Value}
theorem vmade_yes (h : VltE w b c a V v0 v1 vt) : Calls Tryz.prog 45 #[.pointer (some ⟨b, 0, none⟩)] w fun e w' => e = .returned (.bool true) ∧ w = w' := by
  obtain ⟨_, _, _, h3, _, _, _⟩ := h.cells
  clear h
  go_enter Tryz.func45, Tryz.ntmps45
  go_wp2
  go_ret
  exact ⟨rfl, rfl⟩
theorem vmade_none (w : World) : Calls Tryz.prog 45 #[.pointer none] w fun e w' => e = .returned (.bool false) ∧ w = w' := by
  go_enter Tryz.func45, Tryz.ntmps45
  go_wp2
  go_ret
  exact ⟨rfl, rfl⟩
theorem vmade_no {v : Value} (h : NoVlt w v) : Calls Tryz.prog 45 #[v] w fun e w' => e = .returned (.bool false) ∧ w = w' := by
  rcases h with rfl | ⟨b, rfl, hc⟩
  · exact vmade_none w
  · have h3 : w.cell? ⟨b, 3, none⟩ = some (.pointer none) := by rw [coBlk_cell hc]; rfl
    clear hc
    go_enter Tryz.func45, Tryz.ntmps45
    go_wp2
    go_ret
    exact ⟨rfl, rfl⟩
theorem vfault_any (h : VltE w b c a V v0 v1 vt) : Calls Tryz.prog 39 #[.pointer (some ⟨b, 0, none⟩)] w fun e w' => e = .returned (.int .i64 (if V.dead = true then 6 else 0)) ∧ w = w' := by
  obtain ⟨_, _, _, _, _, h5, _⟩ := h.cells
  have HM := hid (vmade_yes h)
  obtain ⟨d, hd⟩ : ∃ d, V.dead = d := ⟨_, rfl⟩
  rw [hd] at h5 ⊢
  clear h hd
  cases d with
  | true =>
    rw [if_pos rfl]
    go_enter Tryz.func39, Tryz.ntmps39
    go_wp2_with fail
    refine HM.out.mono ?_
    rintro e w1 ⟨rfl, rfl⟩
    go_wp2_with fail
    go_ret
    exact ⟨rfl, rfl⟩
  | false =>
    rw [if_neg (by decide)]
    go_enter Tryz.func39, Tryz.ntmps39
    go_wp2_with fail
    refine HM.out.mono ?_
    rintro e w1 ⟨rfl, rfl⟩
    go_wp2_with fail
    go_ret
    exact ⟨rfl, rfl⟩
theorem vfault_no {v : Value} (h : NoVlt w v) : Calls Tryz.prog 39 #[v] w fun e w' => e = .returned (.int .i64 5) ∧ w = w' := by
  have HM := hid (vmade_no h)
  clear h
  go_enter Tryz.func39, Tryz.ntmps39
  go_wp2_with fail
  refine HM.out.mono ?_
  rintro e w1 ⟨rfl, rfl⟩
  go_wp2_with fail
  go_ret
  exact ⟨rfl, rfl⟩
theorem cap_le {n : Int} (h : n ≤ 1099511627776) : cap n = n := by
  unfold cap
  split <;> omega
theorem vcount_any (h : VltE w b c a V v0 v1 vt) (g : V.Good) : Calls Tryz.prog 41 #[.pointer (some ⟨c, 0, none⟩)] w fun e w' => e = .returned (.int .i64 V.n) ∧ w = w' := by
  have := at_yes h.k g.n0
  rw [cap_le g.n1] at this
  exact this
theorem vnext_any (h : VltE w b c a V v0 v1 vt) (g : V.Good) : Calls Tryz.prog 43 #[.pointer (some ⟨b, 0, none⟩)] w fun e w' => e = .returned (.int .i64 (V.n + 1)) ∧ w = w' := by
  obtain ⟨_, _, _, h3, _, _, _⟩ := h.cells
  have HC := hid (vcount_any h g)
  have h0 := g.n0
  have h1 := g.n1
  have hw : IntKind.i64.wrap (V.n + 1) = V.n + 1 := by rw [IntKind.wrap_i64]; omega
  clear h g
  generalize V.n = n at *
  go_enter Tryz.func43, Tryz.ntmps43
  go_wp2_with fail
  refine HC.out.mono ?_
  rintro e w1 ⟨rfl, rfl⟩
  go_wp2_with fail
  go_ret
  exact ⟨rfl, rfl⟩
theorem vplace_any (h : VltE w b c a V v0 v1 vt) (g : V.Good) : Calls Tryz.prog 77 #[.pointer (some ⟨b, 0, none⟩)] w fun e w' => e = .returned (.int .i64 (placeV V)) ∧ w = w' := by
  have HC := hid (vnext_any h g)
  have h0 := g.n0
  have h1 := g.n1
  have q0 : (V.n + 1).tmod 2 = placeV V := by unfold placeV; rw [Int.tmod_eq_emod_of_nonneg (by omega)]
  have q1 : IntKind.i64.wrap (placeV V) = placeV V := by unfold placeV; rw [IntKind.wrap_i64]; omega
  clear h g
  generalize placeV V = k at *
  generalize V.n = n at *
  go_enter Tryz.func77, Tryz.ntmps77
  go_wp2_with fail
  refine HC.out.mono ?_
  rintro e w1 ⟨rfl, rfl⟩
  go_wp2_with fail
  go_ret
  exact ⟨rfl, rfl⟩
theorem visSlot_any (k : Int) (w : World) : Calls Tryz.prog 46 #[.int .i64 k] w fun e w' => e = .returned (.bool (decide (0 ≤ k) && decide (k < 2))) ∧ w = w' := by
  by_cases h0 : 0 ≤ k
  · rw [decide_eq_true h0, Bool.true_and]
    by_cases h1 : k < 2
    · rw [decide_eq_true h1]
      go_enter Tryz.func46, Tryz.ntmps46
      go_wp2
      go_ret
      exact ⟨rfl, rfl⟩
    · rw [decide_eq_false h1]
      go_enter Tryz.func46, Tryz.ntmps46
      go_wp2
      go_ret
      exact ⟨rfl, rfl⟩
  · rw [decide_eq_false h0, Bool.false_and]
    go_enter Tryz.func46, Tryz.ntmps46
    go_wp2
    go_ret
    exact ⟨rfl, rfl⟩
theorem vstep_any (h : VltE w b c a V v0 v1 vt) (g : V.Good) : Calls Tryz.prog 76 #[.pointer (some ⟨b, 0, none⟩)] w fun e w' => e = .returned (.bool (stepB V)) ∧ VltE w' b c a (stepV V) v0 v1 vt ∧ Turn b a w w' := by
  obtain ⟨_, _, _, _, h4, _, _⟩ := h.cells
  have f4 := h.free 4
  have f5 := h.free 5
  have hA : ∀ w', Calls Tryz.prog 76 #[.pointer (some ⟨b, 0, none⟩)] w (fun e w2 => e = .returned (.bool (stepB V)) ∧ w' = w2) → VltE w' b c a (stepV V) v0 v1 vt → Turn b a w w' →
      Calls Tryz.prog 76 #[.pointer (some ⟨b, 0, none⟩)] w fun e w' => e = .returned (.bool (stepB V)) ∧ VltE w' b c a (stepV V) v0 v1 vt ∧ Turn b a w w' := by
    intro w' h1 h2 h3
    refine h1.mono ?_
    rintro e w2 ⟨he, rfl⟩
    exact ⟨he, h2, h3⟩
  have gl := g.left0
  have gr := g.left1
  by_cases e1 : V.left = -1
  · refine hA w ?_ (by unfold stepV; rw [if_neg (by omega), if_pos (by omega)]; exact h) (Turn.refl _ _ _)
    have e2 : stepB V = true := by unfold stepB; rw [e1]; rfl
    rw [e2]
    rw [e1] at h4
    clear hA h g gl gr e1 e2
    go_enter Tryz.func76, Tryz.ntmps76
    go_wp2
    go_ret
    exact ⟨rfl, rfl⟩
  by_cases e0 : V.left = 0
  · refine hA (w.setCell ⟨b, 5, none⟩ (.bool true)) ?_ (by unfold stepV; rw [if_pos e0]; exact h.setDead true) ((Turn.refl _ _ _).setB _ _)
    have e2 : stepB V = false := by unfold stepB; rw [e0]; rfl
    rw [e2]
    rw [e0] at h4
    obtain ⟨_, _, _, _, _, h5, _⟩ := h.cells
    clear hA h g gl gr e1 e2 e0
    go_enter Tryz.func76, Tryz.ntmps76
    go_wp2
    go_ret
    exact ⟨rfl, rfl⟩
  · refine hA (w.setCell ⟨b, 4, none⟩ (.int .i64 (V.left - 1))) ?_ (by unfold stepV; rw [if_neg e0, if_neg (by omega)]; exact h.setLeft _) ((Turn.refl _ _ _).setB _ _)
    have e2 : stepB V = true := by unfold stepB; rw [decide_eq_false e0]; rfl
    rw [e2]
    have hw : IntKind.i64.wrap (V.left - 1) = V.left - 1 := by rw [IntKind.wrap_i64]; omega
    clear hA h g e2
    generalize V.left = x at *
    clear gl gr
    go_enter Tryz.func76, Tryz.ntmps76
    go_wp2
    go_ret
    exact ⟨rfl, rfl⟩
theorem vAt_any (h : VltE w b c a V v0 v1 vt) (g : V.Good) : Calls Tryz.prog 22 #[.pointer (some ⟨b, 0, none⟩)] w fun e w' => e = .returned (.int .i64 V.n) ∧ w = w' := by
  obtain ⟨_, _, _, h3, _, _, _⟩ := h.cells
  have HC := hid (vcount_any h g)
  have HM := hid (vmade_yes h)
  clear h g
  go_enter Tryz.func22, Tryz.ntmps22
  go_wp2_with fail
  refine HM.out.mono ?_
  rintro e w1 ⟨rfl, rfl⟩
  go_wp2_with fail
  refine HC.out.mono ?_
  rintro e w1 ⟨rfl, rfl⟩
  go_wp2_with fail
  go_ret
  exact ⟨rfl, rfl⟩
theorem vAt_no {v : Value} (h : NoVlt w v) : Calls Tryz.prog 22 #[v] w fun e w' => e = .returned (.int .i64 0) ∧ w = w' := by
  have HM := hid (vmade_no h)
  clear h
  go_enter Tryz.func22, Tryz.ntmps22
  go_wp2_with fail
  refine HM.out.mono ?_
  rintro e w1 ⟨rfl, rfl⟩
  go_wp2_with fail
  go_ret
  exact ⟨rfl, rfl⟩
theorem vDead_any (h : VltE w b c a V v0 v1 vt) : Calls Tryz.prog 30 #[.pointer (some ⟨b, 0, none⟩)] w fun e w' => e = .returned (.bool V.dead) ∧ w = w' := by
  obtain ⟨_, _, _, _, _, h5, _⟩ := h.cells
  have HM := hid (vmade_yes h)
  clear h
  go_enter Tryz.func30, Tryz.ntmps30
  go_wp2_with fail
  refine HM.out.mono ?_
  rintro e w1 ⟨rfl, rfl⟩
  go_wp2_with fail
  go_ret
  exact ⟨rfl, rfl⟩
theorem vDead_no {v : Value} (h : NoVlt w v) : Calls Tryz.prog 30 #[v] w fun e w' => e = .returned (.bool true) ∧ w = w' := by
  have HM := hid (vmade_no h)
  clear h
  go_enter Tryz.func30, Tryz.ntmps30
  go_wp2_with fail
  refine HM.out.mono ?_
  rintro e w1 ⟨rfl, rfl⟩
  go_wp2_with fail
  go_ret
  exact ⟨rfl, rfl⟩
theorem vArm_any (h : VltE w b c a V v0 v1 vt) (n : Int) : Calls Tryz.prog 27 #[.pointer (some ⟨b, 0, none⟩), .int .i64 n] w fun e w' => e = .returned (.tuple #[]) ∧ VltE w' b c a (armV V n) v0 v1 vt ∧ Turn b a w w' := by
  obtain ⟨_, _, _, _, h4, _, _⟩ := h.cells
  have f4 := h.free 4
  have HM := hid (vmade_yes h)
  have HS : Hid (∀ x, (if n < 0 then -1 else n) = x → VltE (w.setCell ⟨b, 4, none⟩ (.int .i64 x)) b c a (armV V n) v0 v1 vt ∧ Turn b a w (w.setCell ⟨b, 4, none⟩ (.int .i64 x))) := hid (fun x e => by
    refine ⟨?_, (Turn.refl _ _ _).setB _ _⟩
    unfold armV
    rw [e]
    exact h.setLeft x)
  clear h
  generalize V.left = left at *
  rcases Int.lt_trichotomy n (-1) with hn | rfl | hn
  · go_enter Tryz.func27, Tryz.ntmps27
    go_wp2_with fail
    refine HM.out.mono ?_
    rintro e w1 ⟨rfl, rfl⟩
    go_wp2_with fail
    go_end0
    exact ⟨rfl, HS.out _ (by rw [if_pos (by omega)])⟩
  · go_enter Tryz.func27, Tryz.ntmps27
    go_wp2_with fail
    refine HM.out.mono ?_
    rintro e w1 ⟨rfl, rfl⟩
    go_wp2_with fail
    go_end0
    exact ⟨rfl, HS.out _ (by decide)⟩
  · go_enter Tryz.func27, Tryz.ntmps27
    go_wp2_with fail
    refine HM.out.mono ?_
    rintro e w1 ⟨rfl, rfl⟩
    go_wp2_with fail
    go_end0
    exact ⟨rfl, HS.out _ (by rw [if_neg (by omega)])⟩
theorem vArm_no {v : Value} (h : NoVlt w v) (n : Int) : Calls Tryz.prog 27 #[v, .int .i64 n] w fun e w' => e = .returned (.tuple #[]) ∧ w = w' := by
  have HM := hid (vmade_no h)
  clear h
  go_enter Tryz.func27, Tryz.ntmps27
  go_wp2_with fail
  refine HM.out.mono ?_
  rintro e w1 ⟨rfl, rfl⟩
  go_wp2_with fail
  go_end0
  exact ⟨rfl, rfl⟩
end
theorem vNew_no (i n : Int) (w : World) (h : nodeB i = false ∨ n < 0 ∨ 1099511627776 < n) : Calls Tryz.prog 8 #[.int .i64 i, .int .i64 n] w fun e w' => e = .returned (.tuple #[.pointer none, .int .i64 1]) ∧ w = w' := by
  obtain ⟨nd, hnd⟩ : ∃ x, nodeB i = x := ⟨_, rfl⟩
  have HN := hid (node_any i w)
  rw [hnd] at h HN
  clear hnd
  cases nd with
  | false =>
    clear h
    go_enter Tryz.func8, Tryz.ntmps8
    go_wp2_with fail
    refine HN.out.mono ?_
    rintro e w1 ⟨rfl, rfl⟩
    go_wp2_with fail
    go_ret2
    exact ⟨rfl, rfl⟩
  | true =>
    have HC := hid (new_no n w (h.resolve_left (by decide)))
    clear h
    go_enter Tryz.func8, Tryz.ntmps8
    go_wp2_with fail
    refine HN.out.mono ?_
    rintro e w1 ⟨rfl, rfl⟩
    go_wp2_with fail
    refine HC.out.mono ?_
    rintro e w1 ⟨rfl, rfl⟩
    go_wp2_with fail
    go_ret2
    exact ⟨rfl, rfl⟩
theorem vNew_yes (i n : Int) (w : World) (h : nodeB i = true) (h0 : 0 ≤ n) (h1 : n ≤ 1099511627776) : Calls Tryz.prog 8 #[.int .i64 i, .int .i64 n] w fun e w' => ∃ b c a, e = .returned (.tuple #[.pointer (some ⟨b, 0, none⟩), .int .i64 0]) ∧ Vlt w' b c a (newV i n) ∧ w.heap.size ≤ b ∧ w.heap.size ≤ a ∧ Below w.heap.size w w' := by
  have HN := hid (node_any i w)
  rw [h] at HN
  have HC := hid (new_yes n w h0 h1)
  clear h h0 h1
  go_enter Tryz.func8, Tryz.ntmps8
  go_wp2_with fail
  refine HN.out.mono ?_
  rintro e w1 ⟨rfl, rfl⟩
  go_wp2_with fail
  refine HC.out.mono ?_
  rintro e w1 ⟨rfl, hc, hb, hz⟩
  have HF := hid (show Vlt (w1.alloc (.cells (vac i (.slice none 0 0) (.slice none 0 0) (w.heap.size + 1) (-1) false (.slice none 0 0)) 78)) w1.heap.size (w.heap.size + 1) w.heap.size (newV i n) from by
    refine ⟨_, _, _, heap_alloc_new _ _, hc.below ((Below.refl w1.heap.size w1).alloc (Nat.le_refl _) _) (by omega) (by omega), Bys.nil _, Bys.nil _, Bys.nil _, fun _ => rfl⟩)
  have HB := hid (hb.alloc (by omega) (.cells (vac i (.slice none 0 0) (.slice none 0 0) (w.heap.size + 1) (-1) false (.slice none 0 0)) 78))
  rw [hz] at HF
  clear hc hb
  go_wp2_with fail
  go_ret2
  exact ⟨w.heap.size + 2, w.heap.size + 1, w.heap.size, rfl, HF.out, by omega, Nat.le_refl _, HB.out⟩
end Go.Proofs.YtghophbabbaleaaGreatDoor
