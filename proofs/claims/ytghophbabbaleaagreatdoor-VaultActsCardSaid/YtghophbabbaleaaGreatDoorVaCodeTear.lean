/-
  vault.tear, vault.Crash. Printed with genvcode.py.
-/
import Derived.Test.YtghophbabbaleaaGreatDoorBs13
import Derived.Test.YtghophbabbaleaaGreatDoorVaCodeSlots
namespace Go.Proofs.YtghophbabbaleaaGreatDoor
set_option maxRecDepth 20000
open Go.RowKit
attribute [local go_sem ↓] exec_cutH exec_cutL
def mxI (x y : Int) : Int := if y > x then y else x
def mnI (x y : Int) : Int := if y < x then y else x
theorem max2_int (ats : Array TypeId) (ty : TypeId) (k k' : IntKind) (x y : Int) : Builtin.max_ ats ty #[.int k x, .int k' y] = pure (.int k (mxI x y)) := rfl
theorem min2_int (ats : Array TypeId) (ty : TypeId) (k k' : IntKind) (x y : Int) : Builtin.min_ ats ty #[.int k x, .int k' y] = pure (.int k (mnI x y)) := rfl
attribute [local go_sem ↓] max2_int min2_int
section
variable {w : World} {b c a : Nat} {V : VaM} {v0 v1 vt : Value}
theorem vtear_none (h : VltE w b c a V v0 v1 vt) (ht : V.torn = []) (m : Int) : Calls Tryz.prog 53 #[.pointer (some ⟨b, 0, none⟩), .int .i64 m] w fun e w' => e = .returned (.tuple #[]) ∧ w = w' := by
  obtain ⟨_, _, _, _, _, _, h6⟩ := h.cells
  rw [h.nt ht] at h6
  clear h ht
  have qT := qnil_bytes
  go_enter Tryz.func53, Tryz.ntmps53
  go_wp2
  (try simp only [Exit.inBlock, Exit.then])
  refine bodyPost_ret (results_none rfl _ _ _) rfl ?_
  exact ⟨rfl, rfl⟩
set_option maxHeartbeats 6400000 in
theorem vtear_zero (h : VltE w b c a V v0 v1 vt) (g : V.Good) (ht : ¬ V.torn = []) (hp : placeV V = 0) (m : Int) : Calls Tryz.prog 53 #[.pointer (some ⟨b, 0, none⟩), .int .i64 m] w fun e w' => e = .returned (.tuple #[]) ∧ Vlt w' b c a (tearV V m) ∧ Turn b a w w' := by
  have q1 : tearV V m = { putV V 0 (tearL V.torn V.s0 m) with torn := [] } := by
    unfold tearV
    rw [if_neg ht, hp]
    rfl
  rw [q1]
  have HP := hid (vplace_any h g)
  rw [hp] at HP
  obtain ⟨L, HL⟩ : ∃ q : Nat, Hid (V.torn.length = q) := ⟨_, hid rfl⟩
  obtain ⟨N, HN⟩ : ∃ q : Nat, Hid (V.s0.length = q) := ⟨_, hid rfl⟩
  have hL1 : L ≤ 1000 := by rw [← HL.out]; exact g.lt
  have hN1 : N ≤ 1000 := by rw [← HN.out]; exact g.l0
  obtain ⟨T, HT⟩ : ∃ q : Nat, Hid (min m.toNat L = q) := ⟨_, hid rfl⟩
  have hTL : T ≤ L := by have := HT.out; omega
  obtain ⟨U, HU⟩ : ∃ q : Nat, Hid (min T N = q) := ⟨_, hid rfl⟩
  have hUN : U ≤ N := by have := HU.out; omega
  have m1 : mnI (mxI m 0) (L : Int) = (T : Int) := by
    have := HT.out
    unfold mnI mxI
    split <;> split <;> omega
  have m2 : mnI (T : Int) (N : Int) = (U : Int) := by
    have := HU.out
    unfold mnI
    split <;> omega
  have HR : Hid (V.torn.take T ++ V.s0.drop U = tearL V.torn V.s0 m) := hid (by
    have e1 : V.torn.take T = V.torn.take m.toNat := by
      rw [← HT.out, ← HL.out]
      by_cases hm : m.toNat ≤ V.torn.length
      · rw [Nat.min_eq_left hm]
      · rw [Nat.min_eq_right (by omega), List.take_length, List.take_of_length_le (by omega)]
    unfold tearL
    rw [← e1]
    congr 1
    have e2 : (V.torn.take T).length = T := by rw [List.length_take, HL.out]; omega
    rw [e2, ← HU.out, ← HN.out]
    by_cases hm : T ≤ V.s0.length
    · rw [Nat.min_eq_left hm]
    · rw [Nat.min_eq_right (by omega), List.drop_length, List.drop_of_length_le (by omega)])
  have hyt := h.yt.byt
  have hy := h.y0.byt
  obtain ⟨A6, d6, r6⟩ := hyt.shape
  rw [HL.out] at r6
  subst r6
  obtain ⟨A1, d1, r1⟩ := hy.shape
  rw [HN.out] at r1
  subst r1
  have hcL := hyt.at_.2.1
  have hra := hyt.at_.2.2.2
  rw [HL.out] at hcL
  have hcN := hy.at_.2.1
  rw [HN.out] at hcN
  obtain ⟨ad, rfl⟩ : ∃ x, A6 = some x := by
    obtain ⟨x, y, e, _⟩ := hra (by rcases ht2 : V.torn with _ | ⟨x, y⟩; exact absurd ht2 ht; simp)
    exact ⟨_, e⟩
  obtain ⟨A3, c3, r3, p3⟩ := cut_h (some ad) d6 L T hTL hcL
  obtain ⟨A4, c4, r4, p4⟩ := cut_l A1 d1 N U hUN hcN
  have hd : Below w.heap.size w w.drew := (Below.refl _ _).drew
  have hy3 := p3 w.drew _ HL.out (hyt.drewN 1)
  have hy4 := p4 w.drew _ HN.out (hy.drewN 1)
  have hcells := h.cells
  have HPD := hid (vplace_any (h.below hd) g)
  rw [hp] at HPD
  have HX : Hid (∀ W u, Below w.heap.size w W → Bys W u (tearL V.torn V.s0 m) → VltE (W.setCell ⟨b, 1, none⟩ u) b c a (putV V 0 (tearL V.torn V.s0 m)) u v1 (.slice (some ad) L d6) ∧ Turn b a w (W.setCell ⟨b, 1, none⟩ u) ∧ W.cell? ⟨b, 1, none⟩ = some (.slice A1 N d1) ∧ W.frozen? ⟨b, 1, none⟩ = false) := hid (fun W u hb hu =>
    ⟨(h.below hb).setZero hu, (Turn.of hb).setB _ _, (h.below hb).cells.2.1, (h.below hb).free _⟩)
  have HC6 : Hid (∀ W, Below w.heap.size w W → W.cell? ⟨b, 6, none⟩ = some (.slice (some ad) L d6)) := hid (fun W hb => (h.below hb).cells.2.2.2.2.2.2)
  obtain ⟨_, c1, c2, _, _, _, c6⟩ := hcells
  have hTT : (V.torn.take T).length = T := by rw [List.length_take, HL.out]; omega
  have hUU : (V.s0.drop U).length = N - U := by rw [List.length_drop, HN.out]
  clear h g ht hp q1 hyt hy hra HT HU hd p3 p4 HL HN c2
  generalize tearL V.torn V.s0 m = R at *
  have HY3 := hid hy3
  have HY4 := hid hy4
  clear hy3 hy4
  have qT := qnil_bytes
  go_enter Tryz.func53, Tryz.ntmps53
  go_upto_region 2 with (fail)
  clear qT
  go_wp2_with fail
  refine HP.out.mono ?_
  rintro e w1 ⟨rfl, rfl⟩
  go_upto_region 4 with (fail)
  refine wp_region_held_drew (S := fun W => W.cell? ⟨b, 6, none⟩ = some (.slice (some ad) L d6)) (by kernel_rfl) c6 (fun hHeld => ?_)
  refine' tk (i := 0) (v := _) rfl ?_ ?_
  rotate_left
  · (intro W hW; (try dsimp only at hW); go_simp; first | done | with_reducible rfl)
  try simp only [lay]
  refine' tk (i := 1) (v := _) rfl ?_ ?_
  rotate_left
  · (intro W hW; (try dsimp only at hW); go_simp; first | done | with_reducible rfl)
  try simp only [lay]
  refine' tk (i := 2) (v := _) rfl ?_ ?_
  rotate_left
  · (intro W hW; (try dsimp only at hW); go_simp; first | done | with_reducible rfl)
  try simp only [lay]
  refine' tk (i := 3) (v := _) rfl ?_ ?_
  rotate_left
  · (intro W hW; (try dsimp only at hW); go_simp; first | done | with_reducible rfl)
  try simp only [lay]
  refine' tk (i := 4) (v := _) rfl ?_ ?_
  rotate_left
  · (intro W hW; (try dsimp only at hW); go_simp; first | done | with_reducible rfl)
  try simp only [lay]
  refine' tk (i := 5) (v := _) rfl ?_ ?_
  rotate_left
  · (intro W hW; (try dsimp only at hW); go_simp; first | done | with_reducible rfl)
  try simp only [lay]
  refine' tk (i := 6) (v := _) rfl ?_ ?_
  rotate_left
  · (intro W hW; (try dsimp only at hW); go_simp; first | done | with_reducible rfl)
  try simp only [lay]
  refine' tk (i := 7) (v := _) rfl ?_ ?_
  rotate_left
  · (intro W hW; (try dsimp only at hW); go_simp; first | done | with_reducible rfl)
  try simp only [lay]
  refine' tk (i := 8) (v := _) rfl ?_ ?_
  rotate_left
  · (intro W hW; (try dsimp only at hW); go_simp; first | done | with_reducible rfl)
  try simp only [lay]
  refine' tk (i := 9) (v := _) rfl ?_ ?_
  rotate_left
  · (intro W hW; (try dsimp only at hW); go_simp; first | done | with_reducible rfl)
  try simp only [lay]
  refine' tk (i := 10) (v := _) rfl ?_ ?_
  rotate_left
  · (intro W hW; (try dsimp only at hW); go_simp; first | done | with_reducible rfl)
  try simp only [lay]
  refine' tk (i := 11) (v := _) rfl ?_ ?_
  rotate_left
  · (intro W hW; (try dsimp only at hW); go_simp; first | done | with_reducible rfl)
  try simp only [lay]
  refine' tk (i := 12) (v := _) rfl ?_ ?_
  rotate_left
  · (intro W hW; (try dsimp only at hW); go_simp; first | done | with_reducible rfl)
  try simp only [lay]
  refine' tk (i := 13) (v := _) rfl ?_ ?_
  rotate_left
  · (intro W hW; (try dsimp only at hW); go_simp; first | done | with_reducible rfl)
  try simp only [lay]
  refine' tk (i := 16) (v := _) rfl ?_ ?_
  rotate_left
  · (intro W hW; (try dsimp only at hW); go_simp; first | done | with_reducible rfl)
  try simp only [lay]
  refine' tk (i := 17) (v := _) rfl ?_ ?_
  rotate_left
  · (intro W hW; (try dsimp only at hW); go_simp; first | done | with_reducible rfl)
  try simp only [lay]
  have HBA : Below w.heap.size w (w.drew.alloc (.cells #[.slice A3 T c3, .slice A4 (N - U) c4] 29)) := ((Below.refl _ _).drew).alloc (Nat.le_refl _) _
  refine call_on (i := 14) rfl (by kernel_rfl) (by rfl) (fun K hK => ?_)
  go_simp
  refine hK.out _ _ (HC6.out _ HBA) (fun hHeld => ?_)
  clear hK K
  try simp only [lay]
  have HCC := hid (concat2 (.slice A3 T c3) (.slice A4 (N - U) c4) _ _ w.heap.size 2 (w.drew.alloc (.cells #[.slice A3 T c3, .slice A4 (N - U) c4] 29)) (by simp) (new_cell w.drew _ _ 0 _ rfl) (new_cell w.drew _ _ 1 _ rfl) (HY3.out.alloc _) (HY4.out.alloc _) (by omega))
  rw [HR.out] at HCC
  refine call_on (i := 15) rfl (by kernel_rfl) (by rfl) (fun K hK => ?_)
  go_simp
  refine HCC.out.mono ?_
  rintro e w3 ⟨x3, rfl, ho3, hb3⟩
  have hb4 := HBA.trans (hb3.mono HBA.size)
  have hx3 := ho3.bys
  obtain ⟨A5, c5, r5⟩ := hx3.shape
  subst r5
  obtain ⟨h5, ht4, hc4, hf4⟩ := HX.out w3 _ hb4 hx3
  refine hK.out _ _ (HC6.out _ hb4) (fun hHeld => ?_)
  clear hK K
  try simp only [lay]
  refine' tk (i := 18) (v := _) rfl ?_ ?_
  rotate_left
  · (intro W hW; (try dsimp only at hW); go_simp; first | done | with_reducible rfl)
  try simp only [lay]
  refine call_on (i := 19) rfl (by kernel_rfl) (by rfl) (fun K hK => ?_)
  go_simp
  refine hK.out _ _ (h5.cells.2.2.2.2.2.2) (fun hHeld => ?_)
  clear hK K
  try simp only [lay]
  refine wpAnyH_done (by kernel_rfl) ?_ _
  clear hHeld hc4 hf4
  have HE := hid (h5.setTorn (Bys.nil _) (fun _ => rfl))
  have HT5 := hid (ht4.setB 6 (.slice none 0 0))
  obtain ⟨_, _, _, _, _, _, k6⟩ := h5.cells
  have f6 := h5.free 6
  clear h5 ht4
  go_wp2_with fail
  go_end0
  exact ⟨rfl, ⟨_, _, _, HE.out⟩, HT5.out⟩
set_option maxHeartbeats 6400000 in
theorem vtear_one (h : VltE w b c a V v0 v1 vt) (g : V.Good) (ht : ¬ V.torn = []) (hp : placeV V = 1) (m : Int) : Calls Tryz.prog 53 #[.pointer (some ⟨b, 0, none⟩), .int .i64 m] w fun e w' => e = .returned (.tuple #[]) ∧ Vlt w' b c a (tearV V m) ∧ Turn b a w w' := by
  have q1 : tearV V m = { putV V 1 (tearL V.torn V.s1 m) with torn := [] } := by
    unfold tearV
    rw [if_neg ht, hp]
    rfl
  rw [q1]
  have HP := hid (vplace_any h g)
  rw [hp] at HP
  obtain ⟨L, HL⟩ : ∃ q : Nat, Hid (V.torn.length = q) := ⟨_, hid rfl⟩
  obtain ⟨N, HN⟩ : ∃ q : Nat, Hid (V.s1.length = q) := ⟨_, hid rfl⟩
  have hL1 : L ≤ 1000 := by rw [← HL.out]; exact g.lt
  have hN1 : N ≤ 1000 := by rw [← HN.out]; exact g.l1
  obtain ⟨T, HT⟩ : ∃ q : Nat, Hid (min m.toNat L = q) := ⟨_, hid rfl⟩
  have hTL : T ≤ L := by have := HT.out; omega
  obtain ⟨U, HU⟩ : ∃ q : Nat, Hid (min T N = q) := ⟨_, hid rfl⟩
  have hUN : U ≤ N := by have := HU.out; omega
  have m1 : mnI (mxI m 0) (L : Int) = (T : Int) := by
    have := HT.out
    unfold mnI mxI
    split <;> split <;> omega
  have m2 : mnI (T : Int) (N : Int) = (U : Int) := by
    have := HU.out
    unfold mnI
    split <;> omega
  have HR : Hid (V.torn.take T ++ V.s1.drop U = tearL V.torn V.s1 m) := hid (by
    have e1 : V.torn.take T = V.torn.take m.toNat := by
      rw [← HT.out, ← HL.out]
      by_cases hm : m.toNat ≤ V.torn.length
      · rw [Nat.min_eq_left hm]
      · rw [Nat.min_eq_right (by omega), List.take_length, List.take_of_length_le (by omega)]
    unfold tearL
    rw [← e1]
    congr 1
    have e2 : (V.torn.take T).length = T := by rw [List.length_take, HL.out]; omega
    rw [e2, ← HU.out, ← HN.out]
    by_cases hm : T ≤ V.s1.length
    · rw [Nat.min_eq_left hm]
    · rw [Nat.min_eq_right (by omega), List.drop_length, List.drop_of_length_le (by omega)])
  have hyt := h.yt.byt
  have hy := h.y1.byt
  obtain ⟨A6, d6, r6⟩ := hyt.shape
  rw [HL.out] at r6
  subst r6
  obtain ⟨A1, d1, r1⟩ := hy.shape
  rw [HN.out] at r1
  subst r1
  have hcL := hyt.at_.2.1
  have hra := hyt.at_.2.2.2
  rw [HL.out] at hcL
  have hcN := hy.at_.2.1
  rw [HN.out] at hcN
  obtain ⟨ad, rfl⟩ : ∃ x, A6 = some x := by
    obtain ⟨x, y, e, _⟩ := hra (by rcases ht2 : V.torn with _ | ⟨x, y⟩; exact absurd ht2 ht; simp)
    exact ⟨_, e⟩
  obtain ⟨A3, c3, r3, p3⟩ := cut_h (some ad) d6 L T hTL hcL
  obtain ⟨A4, c4, r4, p4⟩ := cut_l A1 d1 N U hUN hcN
  have hd : Below w.heap.size w w.drew := (Below.refl _ _).drew
  have hy3 := p3 w.drew _ HL.out (hyt.drewN 1)
  have hy4 := p4 w.drew _ HN.out (hy.drewN 1)
  have hcells := h.cells
  have HPD := hid (vplace_any (h.below hd) g)
  rw [hp] at HPD
  have HX : Hid (∀ W u, Below w.heap.size w W → Bys W u (tearL V.torn V.s1 m) → VltE (W.setCell ⟨b, 2, none⟩ u) b c a (putV V 1 (tearL V.torn V.s1 m)) v0 u (.slice (some ad) L d6) ∧ Turn b a w (W.setCell ⟨b, 2, none⟩ u) ∧ W.cell? ⟨b, 2, none⟩ = some (.slice A1 N d1) ∧ W.frozen? ⟨b, 2, none⟩ = false) := hid (fun W u hb hu =>
    ⟨(h.below hb).setOne hu, (Turn.of hb).setB _ _, (h.below hb).cells.2.2.1, (h.below hb).free _⟩)
  have HC6 : Hid (∀ W, Below w.heap.size w W → W.cell? ⟨b, 6, none⟩ = some (.slice (some ad) L d6)) := hid (fun W hb => (h.below hb).cells.2.2.2.2.2.2)
  obtain ⟨_, c1, c2, _, _, _, c6⟩ := hcells
  have hTT : (V.torn.take T).length = T := by rw [List.length_take, HL.out]; omega
  have hUU : (V.s1.drop U).length = N - U := by rw [List.length_drop, HN.out]
  clear h g ht hp q1 hyt hy hra HT HU hd p3 p4 HL HN c1
  generalize tearL V.torn V.s1 m = R at *
  have HY3 := hid hy3
  have HY4 := hid hy4
  clear hy3 hy4
  have qT := qnil_bytes
  go_enter Tryz.func53, Tryz.ntmps53
  go_upto_region 2 with (fail)
  clear qT
  go_wp2_with fail
  refine HP.out.mono ?_
  rintro e w1 ⟨rfl, rfl⟩
  go_upto_region 4 with (fail)
  refine wp_region_held_drew (S := fun W => W.cell? ⟨b, 6, none⟩ = some (.slice (some ad) L d6)) (by kernel_rfl) c6 (fun hHeld => ?_)
  refine' tk (i := 0) (v := _) rfl ?_ ?_
  rotate_left
  · (intro W hW; (try dsimp only at hW); go_simp; first | done | with_reducible rfl)
  try simp only [lay]
  refine' tk (i := 1) (v := _) rfl ?_ ?_
  rotate_left
  · (intro W hW; (try dsimp only at hW); go_simp; first | done | with_reducible rfl)
  try simp only [lay]
  refine' tk (i := 2) (v := _) rfl ?_ ?_
  rotate_left
  · (intro W hW; (try dsimp only at hW); go_simp; first | done | with_reducible rfl)
  try simp only [lay]
  refine' tk (i := 3) (v := _) rfl ?_ ?_
  rotate_left
  · (intro W hW; (try dsimp only at hW); go_simp; first | done | with_reducible rfl)
  try simp only [lay]
  refine' tk (i := 4) (v := _) rfl ?_ ?_
  rotate_left
  · (intro W hW; (try dsimp only at hW); go_simp; first | done | with_reducible rfl)
  try simp only [lay]
  refine' tk (i := 5) (v := _) rfl ?_ ?_
  rotate_left
  · (intro W hW; (try dsimp only at hW); go_simp; first | done | with_reducible rfl)
  try simp only [lay]
  refine' tk (i := 6) (v := _) rfl ?_ ?_
  rotate_left
  · (intro W hW; (try dsimp only at hW); go_simp; first | done | with_reducible rfl)
  try simp only [lay]
  refine' tk (i := 7) (v := _) rfl ?_ ?_
  rotate_left
  · (intro W hW; (try dsimp only at hW); go_simp; first | done | with_reducible rfl)
  try simp only [lay]
  refine' tk (i := 8) (v := _) rfl ?_ ?_
  rotate_left
  · (intro W hW; (try dsimp only at hW); go_simp; first | done | with_reducible rfl)
  try simp only [lay]
  refine' tk (i := 9) (v := _) rfl ?_ ?_
  rotate_left
  · (intro W hW; (try dsimp only at hW); go_simp; first | done | with_reducible rfl)
  try simp only [lay]
  refine' tk (i := 10) (v := _) rfl ?_ ?_
  rotate_left
  · (intro W hW; (try dsimp only at hW); go_simp; first | done | with_reducible rfl)
  try simp only [lay]
  refine' tk (i := 11) (v := _) rfl ?_ ?_
  rotate_left
  · (intro W hW; (try dsimp only at hW); go_simp; first | done | with_reducible rfl)
  try simp only [lay]
  refine' tk (i := 12) (v := _) rfl ?_ ?_
  rotate_left
  · (intro W hW; (try dsimp only at hW); go_simp; first | done | with_reducible rfl)
  try simp only [lay]
  refine' tk (i := 13) (v := _) rfl ?_ ?_
  rotate_left
  · (intro W hW; (try dsimp only at hW); go_simp; first | done | with_reducible rfl)
  try simp only [lay]
  refine' tk (i := 16) (v := _) rfl ?_ ?_
  rotate_left
  · (intro W hW; (try dsimp only at hW); go_simp; first | done | with_reducible rfl)
  try simp only [lay]
  refine' tk (i := 17) (v := _) rfl ?_ ?_
  rotate_left
  · (intro W hW; (try dsimp only at hW); go_simp; first | done | with_reducible rfl)
  try simp only [lay]
  have HBA : Below w.heap.size w (w.drew.alloc (.cells #[.slice A3 T c3, .slice A4 (N - U) c4] 29)) := ((Below.refl _ _).drew).alloc (Nat.le_refl _) _
  refine call_on (i := 14) rfl (by kernel_rfl) (by rfl) (fun K hK => ?_)
  go_simp
  refine hK.out _ _ (HC6.out _ HBA) (fun hHeld => ?_)
  clear hK K
  try simp only [lay]
  have HCC := hid (concat2 (.slice A3 T c3) (.slice A4 (N - U) c4) _ _ w.heap.size 2 (w.drew.alloc (.cells #[.slice A3 T c3, .slice A4 (N - U) c4] 29)) (by simp) (new_cell w.drew _ _ 0 _ rfl) (new_cell w.drew _ _ 1 _ rfl) (HY3.out.alloc _) (HY4.out.alloc _) (by omega))
  rw [HR.out] at HCC
  refine call_on (i := 15) rfl (by kernel_rfl) (by rfl) (fun K hK => ?_)
  go_simp
  refine HCC.out.mono ?_
  rintro e w3 ⟨x3, rfl, ho3, hb3⟩
  have hb4 := HBA.trans (hb3.mono HBA.size)
  have hx3 := ho3.bys
  obtain ⟨A5, c5, r5⟩ := hx3.shape
  subst r5
  obtain ⟨h5, ht4, hc4, hf4⟩ := HX.out w3 _ hb4 hx3
  refine hK.out _ _ (HC6.out _ hb4) (fun hHeld => ?_)
  clear hK K
  try simp only [lay]
  refine' tk (i := 18) (v := _) rfl ?_ ?_
  rotate_left
  · (intro W hW; (try dsimp only at hW); go_simp; first | done | with_reducible rfl)
  try simp only [lay]
  refine call_on (i := 19) rfl (by kernel_rfl) (by rfl) (fun K hK => ?_)
  go_simp
  refine hK.out _ _ (h5.cells.2.2.2.2.2.2) (fun hHeld => ?_)
  clear hK K
  try simp only [lay]
  refine wpAnyH_done (by kernel_rfl) ?_ _
  clear hHeld hc4 hf4
  have HE := hid (h5.setTorn (Bys.nil _) (fun _ => rfl))
  have HT5 := hid (ht4.setB 6 (.slice none 0 0))
  obtain ⟨_, _, _, _, _, _, k6⟩ := h5.cells
  have f6 := h5.free 6
  clear h5 ht4
  go_wp2_with fail
  go_end0
  exact ⟨rfl, ⟨_, _, _, HE.out⟩, HT5.out⟩
theorem vtear_any (h : Vlt w b c a V) (g : V.Good) (m : Int) : Calls Tryz.prog 53 #[.pointer (some ⟨b, 0, none⟩), .int .i64 m] w fun e w' => e = .returned (.tuple #[]) ∧ Vlt w' b c a (tearV V m) ∧ Turn b a w w' := by
  obtain ⟨v0, v1, vt, h⟩ := h
  by_cases ht : V.torn = []
  · refine (vtear_none h ht m).mono ?_
    rintro e w1 ⟨rfl, rfl⟩
    refine ⟨rfl, ?_, Turn.refl _ _ _⟩
    unfold tearV
    rw [if_pos ht]
    exact ⟨_, _, _, h⟩
  · rcases placeV_two V with hp | hp
    · exact vtear_zero h g ht hp m
    · exact vtear_one h g ht hp m
theorem vCrash_any (h : Vlt w b c a V) (g : V.Good) (m : Int) : Calls Tryz.prog 28 #[.pointer (some ⟨b, 0, none⟩), .int .i64 m] w fun e w' => e = .returned (.tuple #[]) ∧ Vlt w' b c a (crashV V m) ∧ Turn b a w w' := by
  have HT := hid (vtear_any h g m)
  obtain ⟨v0, v1, vt, h⟩ := h
  have HM := hid (vmade_yes h)
  clear h g
  go_enter Tryz.func28, Tryz.ntmps28
  go_wp2_with fail
  refine HM.out.mono ?_
  rintro e w1 ⟨rfl, rfl⟩
  go_wp2_with fail
  refine HT.out.mono ?_
  rintro e w1 ⟨rfl, ⟨u0, u1, ut, h1⟩, t1⟩
  have HE := hid ((h1.setDead false).setLeft (-1))
  have HT1 := hid ((t1.setB 5 (.bool false)).setB 4 (.int .i64 (-1)))
  obtain ⟨_, _, _, _, c4, c5, _⟩ := h1.cells
  have f5 := h1.free 5
  have f4 := (h1.setDead false).free 4
  have k4 := (h1.setDead false).cells.2.2.2.2.1
  clear h1 t1 c4
  go_wp2_with fail
  go_end0
  exact ⟨rfl, ⟨_, _, _, HE.out⟩, HT1.out⟩
theorem vCrash_no {v : Value} (h : NoVlt w v) (m : Int) : Calls Tryz.prog 28 #[v, .int .i64 m] w fun e w' => e = .returned (.tuple #[]) ∧ w = w' := by
  have HM := hid (vmade_no h)
  clear h
  go_enter Tryz.func28, Tryz.ntmps28
  go_wp2_with fail
  refine HM.out.mono ?_
  rintro e w1 ⟨rfl, rfl⟩
  go_wp2_with fail
  (try simp only [Exit.inBlock, Exit.then])
  refine bodyPost_ret (results_none rfl _ _ _) rfl ?_
  exact ⟨rfl, rfl⟩
end
end Go.Proofs.YtghophbabbaleaaGreatDoor
