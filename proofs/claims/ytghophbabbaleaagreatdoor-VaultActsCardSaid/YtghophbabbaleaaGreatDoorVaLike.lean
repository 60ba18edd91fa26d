/-
  tithinglaw14.Like: a vault is as the document's one. Printed with genvacts.py.
-/
import Derived.Test.YtghophbabbaleaaGreatDoorVaCodeSlots
import Derived.Test.YtghophbabbaleaaGreatDoorVaRvWords
namespace Go.Proofs.YtghophbabbaleaaGreatDoor
set_option maxRecDepth 20000
open Go.RowKit
set_option maxHeartbeats 6400000 in
theorem like14_any {b c a : Nat} (V : VaM) (C : Array Value) (w : World) (hv : Vlt w b c a V) (g : V.Good) (hC : RvC w C V) : Calls Tryz.prog 11 #[.pointer (some ⟨b, 0, none⟩), .agg C] w fun e w' => e = .returned (.bool true) ∧ Below w.heap.size w w' := by
  obtain ⟨v0, v1, vh, wh, rfl, hy0, hy1, _, _⟩ := hC
  have hr0 : BoxRv (w.alloc (.cells (rvc V v0 v1 vh wh) 32)) w.heap.size V v0 v1 vh wh := heap_alloc_new w _
  have HB0 := hid (show Below w.heap.size w (w.alloc (.cells (rvc V v0 v1 vh wh) 32)) from (Below.refl _ _).alloc (Nat.le_refl _) _)
  have HV : Hid (∀ W, Below w.heap.size w W → Vlt W b c a V) := hid (fun W hb => hv.below hb)
  have HY : Hid (∀ W, Below w.heap.size w W → Byt W v0 V.s0 ∧ Byt W v1 V.s1) := hid (fun W hb => ⟨hy0.byt.below hb, hy1.byt.below hb⟩)
  obtain ⟨D, HD⟩ : ∃ x : Array Value, Hid (rvc V v0 v1 vh wh = x) := ⟨_, hid rfl⟩
  have HDD : Hid (∀ W, Below w.heap.size w W → Calls Tryz.prog 30 #[.pointer (some ⟨b, 0, none⟩)] W fun e w' => e = .returned (.bool V.dead) ∧ W = w') := hid (fun W hb => by obtain ⟨_, _, _, h⟩ := hv.below hb; exact vDead_any h)
  have HAT : Hid (∀ W, Below w.heap.size w W → Calls Tryz.prog 22 #[.pointer (some ⟨b, 0, none⟩)] W fun e w' => e = .returned (.int .i64 V.n) ∧ W = w') := hid (fun W hb => by obtain ⟨_, _, _, h⟩ := hv.below hb; exact vAt_any h g)
  have HSL : Hid (∀ k W, Below w.heap.size w W → Calls Tryz.prog 19 #[.pointer (some ⟨b, 0, none⟩), .int .i64 k] W fun e w' => ∃ x, e = .returned x ∧ Byt w' x (slotV V k) ∧ Below W.heap.size W w') := hid (fun k W hb => vSlot_any (hv.below hb) g k)
  rw [HD.out] at hr0 HB0 ⊢
  clear hy0 hy1 hv g
  go_enter Tryz.func11, Tryz.ntmps11
  go_upto_region 1 with (fail)
  generalize (w.alloc (.cells D 32)) = wz at *
  have HBX := hid hr0
  have HBW : Hid (∀ W, Below wz.heap.size wz W → Below w.heap.size w W) := hid (fun W hb => HB0.out.trans (hb.mono HB0.out.size))
  have HCL : Hid (∀ W, Below wz.heap.size wz W → W.cell? ⟨w.heap.size, 1, none⟩ = some v0 ∧ W.cell? ⟨w.heap.size, 2, none⟩ = some v1 ∧ W.cell? ⟨w.heap.size, 3, none⟩ = some (.int .i64 V.n) ∧ W.cell? ⟨w.heap.size, 5, none⟩ = some (.bool V.dead)) := hid (fun W hb => by
    obtain ⟨_, h1, h2, h3, _, h5, _, _⟩ := (HBX.out.below hb).cells
    exact ⟨h1, h2, h3, h5⟩)
  have hbd : Below wz.heap.size wz wz.drew := (Below.refl _ _).drew
  have hdd : (V.dead == V.dead) = true := by simp
  have hnn : (V.n == V.n) = true := by simp
  clear hr0
  refine wp_region_held_drew (S := fun W => W.cell? ⟨w.heap.size, 1, none⟩ = some v0 ∧ W.cell? ⟨w.heap.size, 2, none⟩ = some v1 ∧ W.cell? ⟨w.heap.size, 3, none⟩ = some (.int .i64 V.n) ∧ W.cell? ⟨w.heap.size, 5, none⟩ = some (.bool V.dead)) (by kernel_rfl) (HCL.out _ hbd) (fun hHeld => ?_)
  refine' tk (i := 0) (v := _) rfl ?_ ?_
  rotate_left
  · (intro W hW; (try dsimp only at hW); go_simp; first | done | with_reducible rfl)
  try simp only [lay]
  refine' tk (i := 1) (v := _) rfl ?_ ?_
  rotate_left
  · (intro W hW; (try dsimp only at hW); go_simp; first | done | with_reducible rfl)
  try simp only [lay]
  refine' tk (i := 2) (v := _) rfl ?_ ?_
  rotate_left
  · (intro W hW; (try dsimp only at hW); go_simp; first | done | with_reducible rfl)
  try simp only [lay]
  refine' tk (i := 3) (v := _) rfl ?_ ?_
  rotate_left
  · (intro W hW; (try dsimp only at hW); go_simp; first | done | with_reducible rfl)
  try simp only [lay]
  refine' tk (i := 5) (v := _) rfl ?_ ?_
  rotate_left
  · (intro W hW; (try dsimp only at hW); go_simp; first | done | with_reducible rfl)
  try simp only [lay]
  refine' tk (i := 6) (v := _) rfl ?_ ?_
  rotate_left
  · (intro W hW; (try dsimp only at hW); obtain ⟨hW1, hW2, hW3, hW5⟩ := hW; go_simp; first | done | with_reducible rfl)
  try simp only [lay]
  refine call_on (i := 4) rfl (by kernel_rfl) (by rfl) (fun K hK => ?_)
  go_simp
  refine (HDD.out _ (HBW.out _ hbd)).mono ?_
  rintro e x1 ⟨rfl, rfl⟩
  refine hK.out _ _ (HCL.out _ hbd) (fun hHeld => ?_)
  clear hK K
  try simp only [lay]
  refine' tk (i := 7) (v := _) rfl ?_ ?_
  rotate_left
  · (intro W hW; (try dsimp only at hW); go_simp; first | done | with_reducible rfl)
  try simp only [lay]
  refine' tk (i := 8) (v := _) rfl ?_ ?_
  rotate_left
  · (intro W hW; (try dsimp only at hW); go_simp; first | done | with_reducible rfl)
  try simp only [lay]
  refine' tk (i := 9) (v := _) rfl ?_ ?_
  rotate_left
  · (intro W hW; (try dsimp only at hW); go_simp; first | done | with_reducible rfl)
  try simp only [lay]
  refine' tk (i := 10) (v := _) rfl ?_ ?_
  rotate_left
  · (intro W hW; (try dsimp only at hW); go_simp; first | done | with_reducible rfl)
  try simp only [lay]
  refine' tk (i := 12) (v := _) rfl ?_ ?_
  rotate_left
  · (intro W hW; (try dsimp only at hW); go_simp; first | done | with_reducible rfl)
  try simp only [lay]
  refine' tk (i := 13) (v := _) rfl ?_ ?_
  rotate_left
  · (intro W hW; (try dsimp only at hW); obtain ⟨hW1, hW2, hW3, hW5⟩ := hW; go_simp; first | done | with_reducible rfl)
  try simp only [lay]
  refine call_on (i := 11) rfl (by kernel_rfl) (by rfl) (fun K hK => ?_)
  go_simp
  refine (HAT.out _ (HBW.out _ hbd)).mono ?_
  rintro e x1 ⟨rfl, rfl⟩
  refine hK.out _ _ (HCL.out _ hbd) (fun hHeld => ?_)
  clear hK K
  try simp only [lay]
  refine' tk (i := 14) (v := _) rfl ?_ ?_
  rotate_left
  · (intro W hW; (try dsimp only at hW); go_simp; first | done | with_reducible rfl)
  try simp only [lay]
  refine' tk (i := 15) (v := _) rfl ?_ ?_
  rotate_left
  · (intro W hW; (try dsimp only at hW); go_simp; first | done | with_reducible rfl)
  try simp only [lay]
  refine' tk (i := 16) (v := _) rfl ?_ ?_
  rotate_left
  · (intro W hW; (try dsimp only at hW); go_simp; first | done | with_reducible rfl)
  try simp only [lay]
  refine' tk (i := 17) (v := _) rfl ?_ ?_
  rotate_left
  · (intro W hW; (try dsimp only at hW); go_simp; first | done | with_reducible rfl)
  try simp only [lay]
  refine' tk (i := 19) (v := _) rfl ?_ ?_
  rotate_left
  · (intro W hW; (try dsimp only at hW); go_simp; first | done | with_reducible rfl)
  try simp only [lay]
  refine' tk (i := 20) (v := _) rfl ?_ ?_
  rotate_left
  · (intro W hW; (try dsimp only at hW); go_simp; first | done | with_reducible rfl)
  try simp only [lay]
  refine' tk (i := 21) (v := _) rfl ?_ ?_
  rotate_left
  · (intro W hW; (try dsimp only at hW); obtain ⟨hW1, hW2, hW3, hW5⟩ := hW; go_simp; first | done | with_reducible rfl)
  try simp only [lay]
  refine call_on (i := 18) rfl (by kernel_rfl) (by rfl) (fun K hK => ?_)
  go_simp
  refine (HSL.out 0 _ (HBW.out _ hbd)).mono ?_
  rintro e x2 ⟨s0, rfl, hs0, hb2'⟩
  have hb2 := hbd.trans (hb2'.mono hbd.size)
  refine hK.out _ _ (HCL.out _ hb2) (fun hHeld => ?_)
  clear hK K
  try simp only [lay]
  refine call_on (i := 22) rfl (by kernel_rfl) (by rfl) (fun K hK => ?_)
  go_simp
  refine (same_yes _ _ V.s0 x2 hs0 (HY.out _ (HBW.out _ hb2)).1).mono ?_
  rintro e x3 ⟨rfl, m3, rfl⟩
  have hb3 := below_drewN hb2 m3
  refine hK.out _ _ (HCL.out _ hb3) (fun hHeld => ?_)
  clear hK K
  try simp only [lay]
  refine' tk (i := 23) (v := _) rfl ?_ ?_
  rotate_left
  · (intro W hW; (try dsimp only at hW); go_simp; first | done | with_reducible rfl)
  try simp only [lay]
  refine' tk (i := 24) (v := _) rfl ?_ ?_
  rotate_left
  · (intro W hW; (try dsimp only at hW); go_simp; first | done | with_reducible rfl)
  try simp only [lay]
  refine' tk (i := 25) (v := _) rfl ?_ ?_
  rotate_left
  · (intro W hW; (try dsimp only at hW); go_simp; first | done | with_reducible rfl)
  try simp only [lay]
  refine' tk (i := 27) (v := _) rfl ?_ ?_
  rotate_left
  · (intro W hW; (try dsimp only at hW); go_simp; first | done | with_reducible rfl)
  try simp only [lay]
  refine' tk (i := 28) (v := _) rfl ?_ ?_
  rotate_left
  · (intro W hW; (try dsimp only at hW); go_simp; first | done | with_reducible rfl)
  try simp only [lay]
  refine' tk (i := 29) (v := _) rfl ?_ ?_
  rotate_left
  · (intro W hW; (try dsimp only at hW); obtain ⟨hW1, hW2, hW3, hW5⟩ := hW; go_simp; first | done | with_reducible rfl)
  try simp only [lay]
  refine call_on (i := 26) rfl (by kernel_rfl) (by rfl) (fun K hK => ?_)
  go_simp
  refine (HSL.out 1 _ (HBW.out _ hb3)).mono ?_
  rintro e x4 ⟨s1, rfl, hs1, hb4'⟩
  have hb4 := hb3.trans (hb4'.mono hb3.size)
  refine hK.out _ _ (HCL.out _ hb4) (fun hHeld => ?_)
  clear hK K
  try simp only [lay]
  refine call_on (i := 30) rfl (by kernel_rfl) (by rfl) (fun K hK => ?_)
  go_simp
  refine (same_yes _ _ V.s1 x4 hs1 (HY.out _ (HBW.out _ hb4)).2).mono ?_
  rintro e x5 ⟨rfl, m5, rfl⟩
  have hb5 := below_drewN hb4 m5
  refine hK.out _ _ (HCL.out _ hb5) (fun hHeld => ?_)
  clear hK K
  try simp only [lay]
  refine' tk (i := 31) (v := _) rfl ?_ ?_
  rotate_left
  · (intro W hW; (try dsimp only at hW); go_simp; first | done | with_reducible rfl)
  try simp only [lay]
  refine' tk (i := 32) (v := _) rfl ?_ ?_
  rotate_left
  · (intro W hW; (try dsimp only at hW); go_simp; first | done | with_reducible rfl)
  try simp only [lay]
  refine' tk (i := 33) (v := _) rfl ?_ ?_
  rotate_left
  · (intro W hW; (try dsimp only at hW); go_simp; first | done | with_reducible rfl)
  try simp only [lay]
  refine call_on (i := 34) rfl (by kernel_rfl) (by rfl) (fun K hK => ?_)
  go_simp
  refine (HSL.out 2 _ (HBW.out _ hb5)).mono ?_
  rintro e x6 ⟨s2, rfl, hs2, hb6'⟩
  have hb6 := hb5.trans (hb6'.mono hb5.size)
  obtain ⟨A6, c6, r6⟩ := hs2.shape
  have e6 : (slotV V 2).length = 0 := rfl
  rw [e6] at r6
  subst r6
  refine hK.out _ _ (HCL.out _ hb6) (fun hHeld => ?_)
  clear hK K
  try simp only [lay]
  refine' tk (i := 35) (v := _) rfl ?_ ?_
  rotate_left
  · (intro W hW; (try dsimp only at hW); go_simp; first | done | with_reducible rfl)
  try simp only [lay]
  refine' tk (i := 36) (v := _) rfl ?_ ?_
  rotate_left
  · (intro W hW; (try dsimp only at hW); go_simp; first | done | with_reducible rfl)
  try simp only [lay]
  refine' tk (i := 37) (v := _) rfl ?_ ?_
  rotate_left
  · (intro W hW; (try dsimp only at hW); go_simp; first | done | with_reducible rfl)
  try simp only [lay]
  refine' tk (i := 38) (v := _) rfl ?_ ?_
  rotate_left
  · (intro W hW; (try dsimp only at hW); go_simp; first | done | with_reducible rfl)
  try simp only [lay]
  refine wpAnyH_done (by kernel_rfl) ?_ _
  have HBF := hid hb6
  clear hHeld hb6 hb6' hb5 hb4 hb4' hb3 hb2 hb2' hbd hs0 hs1 hs2
  go_wp2_with fail
  go_ret
  exact ⟨rfl, HBW.out _ HBF.out⟩
end Go.Proofs.YtghophbabbaleaaGreatDoor
