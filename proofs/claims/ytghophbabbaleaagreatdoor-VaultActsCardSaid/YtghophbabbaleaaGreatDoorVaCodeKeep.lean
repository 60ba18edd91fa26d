/-
  vault.keep, vault.Keep. Printed with genvcode.py.
-/
import Derived.Test.YtghophbabbaleaaGreatDoorBs12
import Derived.Test.YtghophbabbaleaaGreatDoorBs13
import Derived.Test.YtghophbabbaleaaGreatDoorVaCodeSlots
namespace Go.Proofs.YtghophbabbaleaaGreatDoor
set_option maxRecDepth 20000
open Go.RowKit
attribute [local go_sem ↓] exec_load_se
section
variable {w : World} {b c a : Nat} {V : VaM} {v0 v1 vt : Value}
theorem writeV_stop {V : VaM} {l : List UInt8} (h : stepB V = false) : writeE V = 6 ∧ writeV V l = { stepV V with torn := l } := by
  unfold writeE writeV
  rw [h, if_neg (by decide), if_neg (by decide)]
  exact ⟨rfl, rfl⟩
theorem writeV_half {V : VaM} {l : List UInt8} (h : stepB V = true) (h2 : stepB (stepV V) = false) : writeE V = 6 ∧ writeV V l = stepV (putV (stepV V) (placeV V) l) := by
  unfold writeE writeV
  rw [h, h2, if_pos rfl, if_pos rfl, if_neg (by decide), if_neg (by decide)]
  exact ⟨rfl, rfl⟩
theorem writeV_full {V : VaM} {l : List UInt8} (h : stepB V = true) (h2 : stepB (stepV V) = true) : writeE V = 0 ∧ writeV V l = { stepV (putV (stepV V) (placeV V) l) with n := V.n + 1 } := by
  unfold writeE writeV
  rw [h, h2, if_pos rfl, if_pos rfl, if_pos rfl, if_pos rfl]
  exact ⟨rfl, rfl⟩
theorem placeV_step (V : VaM) : placeV (stepV V) = placeV V := by unfold placeV; rw [stepV_n]
set_option maxHeartbeats 3200000 in
theorem vkeep_stop (h : VltE w b c a V v0 v1 vt) (g : V.Good) {x : Value} {l : List UInt8} (hx : Bys w x l) (hl : l ≠ []) (e1 : stepB V = false) :
    Calls Tryz.prog 44 #[.pointer (some ⟨b, 0, none⟩), x] w fun e w' => e = .returned (.int .i64 (writeE V)) ∧ Vlt w' b c a (writeV V l) ∧ Turn b a w w' := by
  have HS := hid (vstep_any h g)
  rw [e1] at HS
  obtain ⟨q1, q2⟩ := writeV_stop (l := l) e1
  rw [q1, q2]
  have HX : Hid (∀ W, Turn b a w W → Bys W x l) := hid (fun W t => h.turnedS hx t)
  obtain ⟨A, d, rfl⟩ := hx.shape
  have HL := hid hl
  clear q1 q2 e1 hx g hl h
  go_enter Tryz.func44, Tryz.ntmps44
  go_wp2_with fail
  refine HS.out.mono ?_
  rintro e w1 ⟨rfl, h1, t1⟩
  have HE := hid (h1.setTorn (HX.out w1 t1) (fun e => absurd e HL.out))
  have HT := hid (t1.setB 6 (.slice A l.length d))
  obtain ⟨_, _, _, _, _, _, c6⟩ := h1.cells
  have f6 := h1.free 6
  clear h1 t1
  go_wp2_with fail
  go_ret
  exact ⟨rfl, ⟨_, _, _, HE.out⟩, HT.out⟩
set_option maxHeartbeats 3200000 in
theorem vkeep_zero_half (h : VltE w b c a V v0 v1 vt) (g : V.Good) {x : Value} {l : List UInt8} (hx : Bys w x l) (hl : l.length ≤ 1000) (e1 : stepB V = true) (e2 : stepB (stepV V) = false) (hp : placeV V = 0) :
    Calls Tryz.prog 44 #[.pointer (some ⟨b, 0, none⟩), x] w fun e w' => e = .returned (.int .i64 (writeE V)) ∧ Vlt w' b c a (writeV V l) ∧ Turn b a w w' := by
  have HS := hid (vstep_any h g)
  rw [e1] at HS
  obtain ⟨q1, q2⟩ := writeV_half (l := l) e1 e2
  rw [q1, q2, hp]
  have g1 := stepV_good g
  have HP : Hid (∀ W, VltE W b c a (stepV V) v0 v1 vt → Calls Tryz.prog 77 #[.pointer (some ⟨b, 0, none⟩)] W fun e w' => e = .returned (.int .i64 0) ∧ W = w') := hid (fun W h1 => by
    have := vplace_any h1 g1
    rw [placeV_step, hp] at this
    exact this)
  have g2 := putV_good g1 0 hl
  have HS2 : Hid (∀ W u0 u1 ut, VltE W b c a (putV (stepV V) 0 l) u0 u1 ut → Calls Tryz.prog 76 #[.pointer (some ⟨b, 0, none⟩)] W fun e w' => e = .returned (.bool false) ∧ VltE w' b c a (stepV (putV (stepV V) 0 l)) u0 u1 ut ∧ Turn b a W w') := hid (fun W u0 u1 ut h2 => by
    have := vstep_any h2 g2
    rw [show stepB (putV (stepV V) 0 l) = false from e2] at this
    exact this)
  have HX : Hid (∀ W, Turn b a w W → Bys W x l) := hid (fun W t => h.turnedS hx t)
  obtain ⟨A, d, rfl⟩ := hx.shape
  clear q1 q2 e1 e2 hx g hl h hp g1 g2
  go_enter Tryz.func44, Tryz.ntmps44
  go_wp2_with fail
  refine HS.out.mono ?_
  rintro e w1 ⟨rfl, h1, t1⟩
  have hd : Below w1.heap.size w1 w1.drew := (Below.refl _ _).drew
  have HE := hid (show Vlt (w1.drew.setCell ⟨b, 1, none⟩ (.slice A l.length d)) b c a (putV (stepV V) 0 l) from (h1.below hd).setSlot (k := 0) (.inl rfl) (HX.out _ (t1.then hd)))
  have HT := hid ((t1.then hd).setB 1 (.slice A l.length d))
  have HP1 := hid (HP.out _ (h1.below hd))
  have hc1 := (h1.below hd).cells.2.1
  have hf1 := (h1.below hd).free 1
  clear h1 t1 hd
  go_upto_region 4 with (fail)
  refine wp_region_held_drew (S := fun _ => True) (by kernel_rfl) True.intro (fun hHeld => ?_)
  refine' tk (i := 0) (v := _) rfl ?_ ?_
  rotate_left
  · (intro W hW; (try dsimp only at hW); go_simp; first | done | with_reducible rfl)
  try simp only [lay]
  refine' tk (i := 1) (v := _) rfl ?_ ?_
  rotate_left
  · (intro W hW; (try dsimp only at hW); go_simp; first | done | with_reducible rfl)
  try simp only [lay]
  refine' tk (i := 3) (v := _) rfl ?_ ?_
  rotate_left
  · (intro W hW; (try dsimp only at hW); go_simp; first | done | with_reducible rfl)
  try simp only [lay]
  refine' tk (i := 4) (v := _) rfl ?_ ?_
  rotate_left
  · (intro W hW; (try dsimp only at hW); go_simp; first | done | with_reducible rfl)
  try simp only [lay]
  refine' tk (i := 5) (v := _) rfl ?_ ?_
  rotate_left
  · (intro W hW; (try dsimp only at hW); go_simp; first | done | with_reducible rfl)
  try simp only [lay]
  refine call_on (i := 2) rfl (by kernel_rfl) (by rfl) (fun K hK => ?_)
  go_simp
  refine HP1.out.mono ?_
  rintro e w2 ⟨rfl, rfl⟩
  refine hK.out _ _ (True.intro) (fun hHeld => ?_)
  clear hK K
  try simp only [lay]
  refine' tk (i := 6) (v := _) rfl ?_ ?_
  rotate_left
  · (intro W hW; (try dsimp only at hW); go_simp; first | done | with_reducible rfl)
  try simp only [lay]
  refine call_on (i := 7) rfl (by kernel_rfl) (by rfl) (fun K hK => ?_)
  go_simp
  refine hK.out _ _ (True.intro) (fun hHeld => ?_)
  clear hK K
  try simp only [lay]
  refine wpAnyH_done (by kernel_rfl) ?_ _
  clear hHeld hc1 hf1
  obtain ⟨u0, u1, ut, h2⟩ := HE.out
  have HS3 := hid (HS2.out _ _ _ _ h2)
  clear h2
  go_wp2_with fail
  refine HS3.out.mono ?_
  rintro e w3 ⟨rfl, h3, t3⟩
  go_wp2_with fail
  go_ret
  exact ⟨rfl, ⟨_, _, _, h3⟩, HT.out.trans t3⟩
set_option maxHeartbeats 3200000 in
theorem vkeep_zero_full (h : VltE w b c a V v0 v1 vt) (g : V.Good) (hn : V.n < 1099511627776) {x : Value} {l : List UInt8} (hx : Bys w x l) (hl : l.length ≤ 1000) (e1 : stepB V = true) (e2 : stepB (stepV V) = true) (hp : placeV V = 0) :
    Calls Tryz.prog 44 #[.pointer (some ⟨b, 0, none⟩), x] w fun e w' => e = .returned (.int .i64 (writeE V)) ∧ Vlt w' b c a (writeV V l) ∧ Turn b a w w' := by
  have HS := hid (vstep_any h g)
  rw [e1] at HS
  obtain ⟨q1, q2⟩ := writeV_full (l := l) e1 e2
  rw [q1, q2, hp]
  have g1 := stepV_good g
  have HP : Hid (∀ W, VltE W b c a (stepV V) v0 v1 vt → Calls Tryz.prog 77 #[.pointer (some ⟨b, 0, none⟩)] W fun e w' => e = .returned (.int .i64 0) ∧ W = w') := hid (fun W h1 => by
    have := vplace_any h1 g1
    rw [placeV_step, hp] at this
    exact this)
  have g2 := putV_good g1 0 hl
  have HS2 : Hid (∀ W u0 u1 ut, VltE W b c a (putV (stepV V) 0 l) u0 u1 ut → Calls Tryz.prog 76 #[.pointer (some ⟨b, 0, none⟩)] W fun e w' => e = .returned (.bool true) ∧ VltE w' b c a (stepV (putV (stepV V) 0 l)) u0 u1 ut ∧ Turn b a W w') := hid (fun W u0 u1 ut h2 => by
    have := vstep_any h2 g2
    rw [show stepB (putV (stepV V) 0 l) = true from e2] at this
    exact this)
  have HN : Hid ((stepV (putV (stepV V) 0 l)).n = V.n) := hid (by rw [stepV_n]; exact stepV_n V)
  have HUP : Hid (∀ W u0 u1 ut, VltE W b c a (stepV (putV (stepV V) 0 l)) u0 u1 ut → Calls Tryz.prog 78 #[.pointer (some ⟨c, 0, none⟩)] W fun e w' => e = .returned (.tuple #[.int .i64 (V.n + 1), .int .i64 0]) ∧ W.setCell ⟨a, 0, none⟩ (.int .i64 (V.n + 1)) = w') := hid (fun W u0 u1 ut h3 => by
    have := h3.k
    rw [HN.out] at this
    exact up_yes this g.n0 hn)
  have HX : Hid (∀ W, Turn b a w W → Bys W x l) := hid (fun W t => h.turnedS hx t)
  obtain ⟨A, d, rfl⟩ := hx.shape
  clear q1 q2 e1 e2 hx g hl h hp g1 g2 hn
  go_enter Tryz.func44, Tryz.ntmps44
  go_wp2_with fail
  refine HS.out.mono ?_
  rintro e w1 ⟨rfl, h1, t1⟩
  have hd : Below w1.heap.size w1 w1.drew := (Below.refl _ _).drew
  have HE := hid (show Vlt (w1.drew.setCell ⟨b, 1, none⟩ (.slice A l.length d)) b c a (putV (stepV V) 0 l) from (h1.below hd).setSlot (k := 0) (.inl rfl) (HX.out _ (t1.then hd)))
  have HT := hid ((t1.then hd).setB 1 (.slice A l.length d))
  have HP1 := hid (HP.out _ (h1.below hd))
  have hc1 := (h1.below hd).cells.2.1
  have hf1 := (h1.below hd).free 1
  clear h1 t1 hd
  go_upto_region 4 with (fail)
  refine wp_region_held_drew (S := fun _ => True) (by kernel_rfl) True.intro (fun hHeld => ?_)
  refine' tk (i := 0) (v := _) rfl ?_ ?_
  rotate_left
  · (intro W hW; (try dsimp only at hW); go_simp; first | done | with_reducible rfl)
  try simp only [lay]
  refine' tk (i := 1) (v := _) rfl ?_ ?_
  rotate_left
  · (intro W hW; (try dsimp only at hW); go_simp; first | done | with_reducible rfl)
  try simp only [lay]
  refine' tk (i := 3) (v := _) rfl ?_ ?_
  rotate_left
  · (intro W hW; (try dsimp only at hW); go_simp; first | done | with_reducible rfl)
  try simp only [lay]
  refine' tk (i := 4) (v := _) rfl ?_ ?_
  rotate_left
  · (intro W hW; (try dsimp only at hW); go_simp; first | done | with_reducible rfl)
  try simp only [lay]
  refine' tk (i := 5) (v := _) rfl ?_ ?_
  rotate_left
  · (intro W hW; (try dsimp only at hW); go_simp; first | done | with_reducible rfl)
  try simp only [lay]
  refine call_on (i := 2) rfl (by kernel_rfl) (by rfl) (fun K hK => ?_)
  go_simp
  refine HP1.out.mono ?_
  rintro e w2 ⟨rfl, rfl⟩
  refine hK.out _ _ (True.intro) (fun hHeld => ?_)
  clear hK K
  try simp only [lay]
  refine' tk (i := 6) (v := _) rfl ?_ ?_
  rotate_left
  · (intro W hW; (try dsimp only at hW); go_simp; first | done | with_reducible rfl)
  try simp only [lay]
  refine call_on (i := 7) rfl (by kernel_rfl) (by rfl) (fun K hK => ?_)
  go_simp
  refine hK.out _ _ (True.intro) (fun hHeld => ?_)
  clear hK K
  try simp only [lay]
  refine wpAnyH_done (by kernel_rfl) ?_ _
  clear hHeld hc1 hf1
  obtain ⟨u0, u1, ut, h2⟩ := HE.out
  have HS3 := hid (HS2.out _ _ _ _ h2)
  clear h2
  go_wp2_with fail
  refine HS3.out.mono ?_
  rintro e w3 ⟨rfl, h3, t3⟩
  have HE3 := hid (h3.up (V.n + 1))
  have HT3 := hid ((HT.out.trans t3).setA 0 (.int .i64 (V.n + 1)))
  have HUP3 := hid (HUP.out _ _ _ _ h3)
  obtain ⟨_, _, _, c3, _, _, _⟩ := h3.cells
  clear h3 t3
  go_wp2_with fail
  refine HUP3.out.mono ?_
  rintro e w4 ⟨rfl, rfl⟩
  go_wp2_with fail
  go_ret
  exact ⟨rfl, ⟨_, _, _, HE3.out⟩, HT3.out⟩
set_option maxHeartbeats 3200000 in
theorem vkeep_one_half (h : VltE w b c a V v0 v1 vt) (g : V.Good) {x : Value} {l : List UInt8} (hx : Bys w x l) (hl : l.length ≤ 1000) (e1 : stepB V = true) (e2 : stepB (stepV V) = false) (hp : placeV V = 1) :
    Calls Tryz.prog 44 #[.pointer (some ⟨b, 0, none⟩), x] w fun e w' => e = .returned (.int .i64 (writeE V)) ∧ Vlt w' b c a (writeV V l) ∧ Turn b a w w' := by
  have HS := hid (vstep_any h g)
  rw [e1] at HS
  obtain ⟨q1, q2⟩ := writeV_half (l := l) e1 e2
  rw [q1, q2, hp]
  have g1 := stepV_good g
  have HP : Hid (∀ W, VltE W b c a (stepV V) v0 v1 vt → Calls Tryz.prog 77 #[.pointer (some ⟨b, 0, none⟩)] W fun e w' => e = .returned (.int .i64 1) ∧ W = w') := hid (fun W h1 => by
    have := vplace_any h1 g1
    rw [placeV_step, hp] at this
    exact this)
  have g2 := putV_good g1 1 hl
  have HS2 : Hid (∀ W u0 u1 ut, VltE W b c a (putV (stepV V) 1 l) u0 u1 ut → Calls Tryz.prog 76 #[.pointer (some ⟨b, 0, none⟩)] W fun e w' => e = .returned (.bool false) ∧ VltE w' b c a (stepV (putV (stepV V) 1 l)) u0 u1 ut ∧ Turn b a W w') := hid (fun W u0 u1 ut h2 => by
    have := vstep_any h2 g2
    rw [show stepB (putV (stepV V) 1 l) = false from e2] at this
    exact this)
  have HX : Hid (∀ W, Turn b a w W → Bys W x l) := hid (fun W t => h.turnedS hx t)
  obtain ⟨A, d, rfl⟩ := hx.shape
  clear q1 q2 e1 e2 hx g hl h hp g1 g2
  go_enter Tryz.func44, Tryz.ntmps44
  go_wp2_with fail
  refine HS.out.mono ?_
  rintro e w1 ⟨rfl, h1, t1⟩
  have hd : Below w1.heap.size w1 w1.drew := (Below.refl _ _).drew
  have HE := hid (show Vlt (w1.drew.setCell ⟨b, 2, none⟩ (.slice A l.length d)) b c a (putV (stepV V) 1 l) from (h1.below hd).setSlot (k := 1) (.inr rfl) (HX.out _ (t1.then hd)))
  have HT := hid ((t1.then hd).setB 2 (.slice A l.length d))
  have HP1 := hid (HP.out _ (h1.below hd))
  have hc1 := (h1.below hd).cells.2.2.1
  have hf1 := (h1.below hd).free 2
  clear h1 t1 hd
  go_upto_region 4 with (fail)
  refine wp_region_held_drew (S := fun _ => True) (by kernel_rfl) True.intro (fun hHeld => ?_)
  refine' tk (i := 0) (v := _) rfl ?_ ?_
  rotate_left
  · (intro W hW; (try dsimp only at hW); go_simp; first | done | with_reducible rfl)
  try simp only [lay]
  refine' tk (i := 1) (v := _) rfl ?_ ?_
  rotate_left
  · (intro W hW; (try dsimp only at hW); go_simp; first | done | with_reducible rfl)
  try simp only [lay]
  refine' tk (i := 3) (v := _) rfl ?_ ?_
  rotate_left
  · (intro W hW; (try dsimp only at hW); go_simp; first | done | with_reducible rfl)
  try simp only [lay]
  refine' tk (i := 4) (v := _) rfl ?_ ?_
  rotate_left
  · (intro W hW; (try dsimp only at hW); go_simp; first | done | with_reducible rfl)
  try simp only [lay]
  refine' tk (i := 5) (v := _) rfl ?_ ?_
  rotate_left
  · (intro W hW; (try dsimp only at hW); go_simp; first | done | with_reducible rfl)
  try simp only [lay]
  refine call_on (i := 2) rfl (by kernel_rfl) (by rfl) (fun K hK => ?_)
  go_simp
  refine HP1.out.mono ?_
  rintro e w2 ⟨rfl, rfl⟩
  refine hK.out _ _ (True.intro) (fun hHeld => ?_)
  clear hK K
  try simp only [lay]
  refine' tk (i := 6) (v := _) rfl ?_ ?_
  rotate_left
  · (intro W hW; (try dsimp only at hW); go_simp; first | done | with_reducible rfl)
  try simp only [lay]
  refine call_on (i := 7) rfl (by kernel_rfl) (by rfl) (fun K hK => ?_)
  go_simp
  refine hK.out _ _ (True.intro) (fun hHeld => ?_)
  clear hK K
  try simp only [lay]
  refine wpAnyH_done (by kernel_rfl) ?_ _
  clear hHeld hc1 hf1
  obtain ⟨u0, u1, ut, h2⟩ := HE.out
  have HS3 := hid (HS2.out _ _ _ _ h2)
  clear h2
  go_wp2_with fail
  refine HS3.out.mono ?_
  rintro e w3 ⟨rfl, h3, t3⟩
  go_wp2_with fail
  go_ret
  exact ⟨rfl, ⟨_, _, _, h3⟩, HT.out.trans t3⟩
set_option maxHeartbeats 3200000 in
theorem vkeep_one_full (h : VltE w b c a V v0 v1 vt) (g : V.Good) (hn : V.n < 1099511627776) {x : Value} {l : List UInt8} (hx : Bys w x l) (hl : l.length ≤ 1000) (e1 : stepB V = true) (e2 : stepB (stepV V) = true) (hp : placeV V = 1) :
    Calls Tryz.prog 44 #[.pointer (some ⟨b, 0, none⟩), x] w fun e w' => e = .returned (.int .i64 (writeE V)) ∧ Vlt w' b c a (writeV V l) ∧ Turn b a w w' := by
  have HS := hid (vstep_any h g)
  rw [e1] at HS
  obtain ⟨q1, q2⟩ := writeV_full (l := l) e1 e2
  rw [q1, q2, hp]
  have g1 := stepV_good g
  have HP : Hid (∀ W, VltE W b c a (stepV V) v0 v1 vt → Calls Tryz.prog 77 #[.pointer (some ⟨b, 0, none⟩)] W fun e w' => e = .returned (.int .i64 1) ∧ W = w') := hid (fun W h1 => by
    have := vplace_any h1 g1
    rw [placeV_step, hp] at this
    exact this)
  have g2 := putV_good g1 1 hl
  have HS2 : Hid (∀ W u0 u1 ut, VltE W b c a (putV (stepV V) 1 l) u0 u1 ut → Calls Tryz.prog 76 #[.pointer (some ⟨b, 0, none⟩)] W fun e w' => e = .returned (.bool true) ∧ VltE w' b c a (stepV (putV (stepV V) 1 l)) u0 u1 ut ∧ Turn b a W w') := hid (fun W u0 u1 ut h2 => by
    have := vstep_any h2 g2
    rw [show stepB (putV (stepV V) 1 l) = true from e2] at this
    exact this)
  have HN : Hid ((stepV (putV (stepV V) 1 l)).n = V.n) := hid (by rw [stepV_n]; exact stepV_n V)
  have HUP : Hid (∀ W u0 u1 ut, VltE W b c a (stepV (putV (stepV V) 1 l)) u0 u1 ut → Calls Tryz.prog 78 #[.pointer (some ⟨c, 0, none⟩)] W fun e w' => e = .returned (.tuple #[.int .i64 (V.n + 1), .int .i64 0]) ∧ W.setCell ⟨a, 0, none⟩ (.int .i64 (V.n + 1)) = w') := hid (fun W u0 u1 ut h3 => by
    have := h3.k
    rw [HN.out] at this
    exact up_yes this g.n0 hn)
  have HX : Hid (∀ W, Turn b a w W → Bys W x l) := hid (fun W t => h.turnedS hx t)
  obtain ⟨A, d, rfl⟩ := hx.shape
  clear q1 q2 e1 e2 hx g hl h hp g1 g2 hn
  go_enter Tryz.func44, Tryz.ntmps44
  go_wp2_with fail
  refine HS.out.mono ?_
  rintro e w1 ⟨rfl, h1, t1⟩
  have hd : Below w1.heap.size w1 w1.drew := (Below.refl _ _).drew
  have HE := hid (show Vlt (w1.drew.setCell ⟨b, 2, none⟩ (.slice A l.length d)) b c a (putV (stepV V) 1 l) from (h1.below hd).setSlot (k := 1) (.inr rfl) (HX.out _ (t1.then hd)))
  have HT := hid ((t1.then hd).setB 2 (.slice A l.length d))
  have HP1 := hid (HP.out _ (h1.below hd))
  have hc1 := (h1.below hd).cells.2.2.1
  have hf1 := (h1.below hd).free 2
  clear h1 t1 hd
  go_upto_region 4 with (fail)
  refine wp_region_held_drew (S := fun _ => True) (by kernel_rfl) True.intro (fun hHeld => ?_)
  refine' tk (i := 0) (v := _) rfl ?_ ?_
  rotate_left
  · (intro W hW; (try dsimp only at hW); go_simp; first | done | with_reducible rfl)
  try simp only [lay]
  refine' tk (i := 1) (v := _) rfl ?_ ?_
  rotate_left
  · (intro W hW; (try dsimp only at hW); go_simp; first | done | with_reducible rfl)
  try simp only [lay]
  refine' tk (i := 3) (v := _) rfl ?_ ?_
  rotate_left
  · (intro W hW; (try dsimp only at hW); go_simp; first | done | with_reducible rfl)
  try simp only [lay]
  refine' tk (i := 4) (v := _) rfl ?_ ?_
  rotate_left
  · (intro W hW; (try dsimp only at hW); go_simp; first | done | with_reducible rfl)
  try simp only [lay]
  refine' tk (i := 5) (v := _) rfl ?_ ?_
  rotate_left
  · (intro W hW; (try dsimp only at hW); go_simp; first | done | with_reducible rfl)
  try simp only [lay]
  refine call_on (i := 2) rfl (by kernel_rfl) (by rfl) (fun K hK => ?_)
  go_simp
  refine HP1.out.mono ?_
  rintro e w2 ⟨rfl, rfl⟩
  refine hK.out _ _ (True.intro) (fun hHeld => ?_)
  clear hK K
  try simp only [lay]
  refine' tk (i := 6) (v := _) rfl ?_ ?_
  rotate_left
  · (intro W hW; (try dsimp only at hW); go_simp; first | done | with_reducible rfl)
  try simp only [lay]
  refine call_on (i := 7) rfl (by kernel_rfl) (by rfl) (fun K hK => ?_)
  go_simp
  refine hK.out _ _ (True.intro) (fun hHeld => ?_)
  clear hK K
  try simp only [lay]
  refine wpAnyH_done (by kernel_rfl) ?_ _
  clear hHeld hc1 hf1
  obtain ⟨u0, u1, ut, h2⟩ := HE.out
  have HS3 := hid (HS2.out _ _ _ _ h2)
  clear h2
  go_wp2_with fail
  refine HS3.out.mono ?_
  rintro e w3 ⟨rfl, h3, t3⟩
  have HE3 := hid (h3.up (V.n + 1))
  have HT3 := hid ((HT.out.trans t3).setA 0 (.int .i64 (V.n + 1)))
  have HUP3 := hid (HUP.out _ _ _ _ h3)
  obtain ⟨_, _, _, c3, _, _, _⟩ := h3.cells
  clear h3 t3
  go_wp2_with fail
  refine HUP3.out.mono ?_
  rintro e w4 ⟨rfl, rfl⟩
  go_wp2_with fail
  go_ret
  exact ⟨rfl, ⟨_, _, _, HE3.out⟩, HT3.out⟩
theorem vkeep_any (h : Vlt w b c a V) (g : V.Good) (hn : V.n < 1099511627776) {x : Value} {l : List UInt8} (hx : Bys w x l) (h0 : l ≠ []) (hl : l.length ≤ 1000) :
    Calls Tryz.prog 44 #[.pointer (some ⟨b, 0, none⟩), x] w fun e w' => e = .returned (.int .i64 (writeE V)) ∧ Vlt w' b c a (writeV V l) ∧ Turn b a w w' := by
  obtain ⟨v0, v1, vt, h⟩ := h
  cases e1 : stepB V with
  | false => exact vkeep_stop h g hx h0 e1
  | true =>
    cases e2 : stepB (stepV V) with
    | false =>
      rcases placeV_two V with hp | hp
      · exact vkeep_zero_half h g hx hl e1 e2 hp
      · exact vkeep_one_half h g hx hl e1 e2 hp
    | true =>
      rcases placeV_two V with hp | hp
      · exact vkeep_zero_full h g hn hx hl e1 e2 hp
      · exact vkeep_one_full h g hn hx hl e1 e2 hp
theorem vKeep_no {v : Value} (h : NoVlt w v) (s : SeM) : Calls Tryz.prog 18 #[v, .agg (sec s)] w fun e w' => e = .returned (.int .i64 5) ∧ Below w.heap.size w w' := by
  have hb0 : Below w.heap.size w (w.alloc (.cells (sec s) 40)) := (Below.refl _ _).alloc (Nat.le_refl _) _
  have HM := hid (vfault_no (h.below hb0))
  obtain ⟨C, HC⟩ : ∃ C : Array Value, Hid (sec s = C) := ⟨_, hid rfl⟩
  rw [HC.out] at hb0 HM ⊢
  have HB := hid hb0
  clear h hb0 HC
  go_enter Tryz.func18, Tryz.ntmps18
  go_wp2_with fail
  refine HM.out.mono ?_
  rintro e w1 ⟨rfl, rfl⟩
  go_wp2_with fail
  go_ret
  exact ⟨rfl, HB.out⟩
set_option maxHeartbeats 6400000 in
theorem vKeep_any (h : Vlt w b c a V) (g : V.Good) (s : SeM) (ho : s.Ok) (hK : Kst 1 w) :
    Calls Tryz.prog 18 #[.pointer (some ⟨b, 0, none⟩), .agg (sec s)] w fun e w' => e = .returned (.int .i64 (keepE V s)) ∧ Vlt w' b c a (keepV V s) ∧ Turn b a w w' := by
  obtain ⟨v0, v1, vt, h⟩ := h
  have hb0 : Below w.heap.size w (w.alloc (.cells (sec s) 40)) := (Below.refl _ _).alloc (Nat.le_refl _) _
  have hA := BoxSe.new w s
  have HV : Hid (∀ W, Below w.heap.size w W → VltE W b c a V v0 v1 vt) := hid (fun W hb => h.below hb)
  have HLD : Hid (∀ W, Below (w.alloc (.cells (sec s) 40)).heap.size (w.alloc (.cells (sec s) 40)) W → loadSe (.pointer (some ⟨w.heap.size, 0, none⟩)) W = .ok (.value (.agg (sec s))) W) := hid (fun W hb => loadSe_eq (hA.keep hb) ho)
  have HCK : Hid (∀ W, Calls Tryz.prog 40 #[.agg (sec s)] W fun e w' => e = .returned (.int .i64 (if mayS s = true then 0 else 1)) ∧ Below W.heap.size W w') := hid (fun W => seCheck_ok s W ho)
  have HPU : Hid (mayS s = true → V.n < 1099511627776 → ∀ W, Below w.heap.size w W → Calls Tryz.prog 42 #[.int .i64 V.i, .int .i64 (V.n + 1), .agg (sec s)] W fun e w' => ∃ x, e = .returned (.tuple #[x, .int .i64 0]) ∧ Bys w' x (blobS V.i (V.n + 1) s) ∧ Below W.heap.size W w') := hid (fun hm hn W hb => by
    have n0 := g.n0
    have hi := g.i
    unfold nodeB at hi
    rw [decide_eq_true_eq] at hi
    have := sePut_own V.i (V.n + 1) s W (by simp [Lit.wf, IntKind.min, IntKind.max, IntKind.signed, IntKind.bits]; omega) (by simp [Lit.wf, IntKind.min, IntKind.max, IntKind.signed, IntKind.bits]; omega) ho (hK.below hb)
    have hp : putOkS V.i (V.n + 1) s = true := by
      unfold putOkS versB
      rw [g.i, hm, decide_eq_true (by omega)]
      rfl
    rw [hp, if_pos rfl, if_pos rfl] at this
    exact this.mono fun _ _ ⟨x, he, hx, hb⟩ => ⟨x, he, hx.bys, hb⟩)
  have HBN : Hid (mayS s = true → V.n < 1099511627776 → blobS V.i (V.n + 1) s ≠ [] ∧ (blobS V.i (V.n + 1) s).length ≤ 1000) := hid (fun hm hn => by
    have n0 := g.n0
    have := blobS_len' (i := V.i) (n := V.n + 1) ho (by unfold versB; rw [decide_eq_true_eq]; omega) hm
    refine ⟨fun e => ?_, by omega⟩
    have e2 := congrArg List.length e
    unfold blobS at e2
    rw [List.length_append, tagS_len] at e2
    simp at e2)
  have HE : Hid (V.dead = false → mayS s = true → ¬ V.n = 1099511627776 → keepE V s = writeE V ∧ keepV V s = writeV V (blobS V.i (V.n + 1) s)) := hid (fun h1 h2 h3 => by
    unfold keepE keepV
    rw [h1, h2, if_neg (by decide), if_neg (by decide), if_neg h3, if_neg (by decide), if_neg (by decide), if_neg h3]
    exact ⟨rfl, rfl⟩)
  have HE1 : Hid (V.dead = true → keepE V s = 6 ∧ keepV V s = V) := hid (fun h1 => by
    unfold keepE keepV
    rw [if_pos h1, if_pos h1]
    exact ⟨rfl, rfl⟩)
  have HE2 : Hid (V.dead = false → mayS s = false → keepE V s = 1 ∧ keepV V s = V) := hid (fun h1 h2 => by
    unfold keepE keepV
    simp only [h1, h2, Bool.false_eq_true, if_false, if_true]
    exact ⟨trivial, trivial⟩)
  have HE3 : Hid (V.dead = false → mayS s = true → V.n = 1099511627776 → keepE V s = 9 ∧ keepV V s = V) := hid (fun h1 h2 h3 => by
    unfold keepE keepV
    rw [h1, h2, if_neg (by decide), if_neg (by decide), if_pos h3, if_neg (by decide), if_neg (by decide), if_pos h3]
    exact ⟨rfl, rfl⟩)
  have HG := hid g
  obtain ⟨m, HM⟩ : ∃ q : Bool, Hid (mayS s = q) := ⟨_, hid rfl⟩
  obtain ⟨C, HC⟩ : ∃ C : Array Value, Hid (sec s = C) := ⟨_, hid rfl⟩
  obtain ⟨O, HO⟩ : ∃ O : List UInt8, Hid (blobS V.i (V.n + 1) s = O) := ⟨_, hid rfl⟩
  obtain ⟨ke, HKE⟩ : ∃ q : Int, Hid (keepE V s = q) := ⟨_, hid rfl⟩
  obtain ⟨kv, HKV⟩ : ∃ q : VaM, Hid (keepV V s = q) := ⟨_, hid rfl⟩
  rw [HKE.out, HKV.out] at HE HE1 HE2 HE3
  rw [HM.out] at HCK HPU HBN HE HE2 HE3
  rw [HO.out] at HPU HBN HE
  rw [HC.out] at hb0 HLD HCK HPU ⊢
  rw [HKE.out, HKV.out]
  have HF : Hid (∀ W, Below w.heap.size w W → Calls Tryz.prog 39 #[.pointer (some ⟨b, 0, none⟩)] W fun e w' => e = .returned (.int .i64 (if V.dead = true then 6 else 0)) ∧ W = w') := hid (fun W hb => vfault_any (HV.out W hb))
  have HB0 := hid hb0
  obtain ⟨dd, hdd⟩ : ∃ q : Bool, V.dead = q := ⟨_, rfl⟩
  rw [hdd] at HE HE1 HE2 HE3 HF
  clear h hA g ho hK HM HC HKE HKV hdd hb0 HO
  go_enter Tryz.func18, Tryz.ntmps18
  go_upto_region 1 with (fail)
  generalize (w.alloc (.cells C 40)) = w0 at *
  go_wp2_with fail
  refine (HF.out w0 HB0.out).mono ?_
  rintro e w1 ⟨rfl, rfl⟩
  cases dd with
  | true =>
    obtain ⟨rfl, rfl⟩ := HE1.out rfl
    rw [if_pos rfl]
    go_wp2_with fail
    go_ret
    exact ⟨rfl, ⟨_, _, _, HV.out _ HB0.out⟩, Turn.of HB0.out⟩
  | false =>
    have HEa := hid (HE.out rfl)
    have HE2a := hid (HE2.out rfl)
    have HE3a := hid (HE3.out rfl)
    clear HE HE1 HE2 HE3
    rw [if_neg (by decide)]
    have l0 := HLD.out w0 (Below.refl _ _)
    go_wp2_with fail
    refine (HCK.out w0).mono ?_
    rintro e w1 ⟨rfl, hb1⟩
    have HB1 := hid (HB0.out.trans (hb1.mono HB0.out.size))
    have HL1 := hid (fun W (h : Below w1.heap.size w1 W) => HLD.out W (hb1.trans (h.mono hb1.size)))
    clear l0 hb1
    cases m with
    | false =>
      obtain ⟨rfl, rfl⟩ := HE2a.out rfl
      rw [if_neg (by decide)]
      go_wp2_with fail
      go_ret
      exact ⟨rfl, ⟨_, _, _, HV.out _ HB1.out⟩, Turn.of HB1.out⟩
    | true =>
      have HEb := hid (HEa.out rfl)
      have HE3b := hid (HE3a.out rfl)
      have HPUa := hid (HPU.out rfl)
      have HBNa := hid (HBN.out rfl)
      clear HEa HE2a HE3a HPU HBN
      rw [if_pos rfl]
      have h1 := HV.out w1 HB1.out
      obtain ⟨_, _, _, c3, _, _, _⟩ := h1.cells
      have HCT := hid (vcount_any h1 HG.out)
      clear h1
      go_wp2_with fail
      refine HCT.out.mono ?_
      rintro e w2 ⟨rfl, rfl⟩
      clear c3
      by_cases hn : V.n = 1099511627776
      · obtain ⟨rfl, rfl⟩ := HE3b.out hn
        go_wp2_with fail
        go_ret
        exact ⟨rfl, ⟨_, _, _, HV.out _ HB1.out⟩, Turn.of HB1.out⟩
      · obtain ⟨rfl, rfl⟩ := HEb.out hn
        have hlt : V.n < 1099511627776 := by have := HG.out.n1; omega
        have HPUb := hid (HPUa.out hlt)
        obtain ⟨hO0, hO1⟩ := HBNa.out hlt
        have HO0 := hid hO0
        have HO1 := hid hO1
        have HLT := hid hlt
        have hd : Below w1.heap.size w1 w1.drew := (Below.refl _ _).drew
        have HBD := hid (HB1.out.trans (hd.mono HB1.out.size))
        have HNX := hid (vnext_any (HV.out _ HBD.out) HG.out)
        have hc0 := (HV.out _ HBD.out).cells.1
        have hl1 : loadSe (.pointer (some ⟨w.heap.size, 0, none⟩)) w1.drew = .ok (.value (.agg C)) w1.drew := by
          exact HL1.out _ hd
        clear hlt hO0 hO1 hd
        go_upto_region 9 with (fail)
        clear hn
        refine wp_region_held_drew (S := fun W => W.cell? ⟨b, 0, none⟩ = some (.int .i64 V.i) ∧ loadSe (.pointer (some ⟨w.heap.size, 0, none⟩)) W = .ok (.value (.agg C)) W) (by kernel_rfl) ⟨hc0, hl1⟩ (fun hHeld => ?_)
        refine' tk (i := 0) (v := _) rfl ?_ ?_
        rotate_left
        · (intro W hW; (try dsimp only at hW); go_simp; first | done | with_reducible rfl)
        try simp only [lay]
        refine' tk (i := 1) (v := _) rfl ?_ ?_
        rotate_left
        · (intro W hW; (try dsimp only at hW); go_simp; first | done | with_reducible rfl)
        try simp only [lay]
        refine' tk (i := 2) (v := _) rfl ?_ ?_
        rotate_left
        · (intro W hW; (try dsimp only at hW); go_simp; first | done | with_reducible rfl)
        try simp only [lay]
        refine' tk (i := 3) (v := _) rfl ?_ ?_
        rotate_left
        · (intro W hW; (try dsimp only at hW); obtain ⟨hW1, hW2⟩ := hW; go_simp; first | done | with_reducible rfl)
        try simp only [lay]
        refine' tk (i := 4) (v := _) rfl ?_ ?_
        rotate_left
        · (intro W hW; (try dsimp only at hW); go_simp; first | done | with_reducible rfl)
        try simp only [lay]
        refine' tk (i := 6) (v := _) rfl (fun W hW => hW.2) ?_
        try simp only [lay]
        refine call_on (i := 5) rfl (by kernel_rfl) (by rfl) (fun K hK => ?_)
        go_simp
        refine HNX.out.mono ?_
        rintro e w2 ⟨rfl, rfl⟩
        refine hK.out _ _ (⟨hc0, hl1⟩) (fun hHeld => ?_)
        clear hK K
        try simp only [lay]
        refine call_on (i := 7) rfl (by kernel_rfl) (by rfl) (fun K hK => ?_)
        go_simp
        refine (HPUb.out _ HBD.out).mono ?_
        rintro e w3 ⟨x3, rfl, hx3, hb3⟩
        obtain ⟨A3, c3, r3⟩ := hx3.shape
        subst r3
        have HB3 := hid (HBD.out.trans (hb3.mono HBD.out.size))
        refine hK.out _ _ (⟨(HV.out _ HB3.out).cells.1, HL1.out _ (((Below.refl _ _).drew).trans hb3)⟩) (fun hHeld => ?_)
        clear hK K
        try simp only [lay]
        refine' tk (i := 8) (v := _) rfl ?_ ?_
        rotate_left
        · (intro W hW; (try dsimp only at hW); go_simp; first | done | with_reducible rfl)
        try simp only [lay]
        refine' tk (i := 9) (v := _) rfl ?_ ?_
        rotate_left
        · (intro W hW; (try dsimp only at hW); go_simp; first | done | with_reducible rfl)
        try simp only [lay]
        refine' tk (i := 10) (v := _) rfl ?_ ?_
        rotate_left
        · (intro W hW; (try dsimp only at hW); go_simp; first | done | with_reducible rfl)
        try simp only [lay]
        refine' tk (i := 11) (v := _) rfl ?_ ?_
        rotate_left
        · (intro W hW; (try dsimp only at hW); go_simp; first | done | with_reducible rfl)
        try simp only [lay]
        refine' tk (i := 12) (v := _) rfl ?_ ?_
        rotate_left
        · (intro W hW; (try dsimp only at hW); go_simp; first | done | with_reducible rfl)
        try simp only [lay]
        refine wpAnyH_done (by kernel_rfl) ?_ _
        clear hHeld hc0 hl1 hb3
        have HKP := hid (vkeep_any ⟨_, _, _, HV.out _ HB3.out⟩ HG.out HLT.out hx3 HO0.out HO1.out)
        clear hx3
        go_wp2_with fail
        refine HKP.out.mono ?_
        rintro e w4 ⟨rfl, h4, t4⟩
        go_wp2_with fail
        go_ret
        exact ⟨rfl, h4, (Turn.of HB3.out).trans t4⟩
end
end Go.Proofs.YtghophbabbaleaaGreatDoor
