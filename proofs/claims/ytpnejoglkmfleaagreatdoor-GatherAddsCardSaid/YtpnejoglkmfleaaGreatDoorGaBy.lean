/-
  byPlace: which of two attestations is first. Printed with gengc.py.
-/
import Derived.Test.YtpnejoglkmfleaaGreatDoorGaCmp
namespace Go.Proofs.YtpnejoglkmfleaaGreatDoor
set_option maxRecDepth 20000
open Go.RowKit
attribute [local go_sem ↓] exec_load_att
open Go.Sort
structure CmpSt (W : World) (g h : Nat) (a b : AtM) : Prop where
  a0 : W.cell? ⟨g, 0, none⟩ = some (.int .i64 a.bo)
  a1 : W.cell? ⟨g, 1, none⟩ = some (.int .i64 a.ki)
  a2 : W.cell? ⟨g, 2, none⟩ = some (.int .i64 a.vi)
  b0 : W.cell? ⟨h, 0, none⟩ = some (.int .i64 b.bo)
  b1 : W.cell? ⟨h, 1, none⟩ = some (.int .i64 b.ki)
  b2 : W.cell? ⟨h, 2, none⟩ = some (.int .i64 b.vi)
set_option maxHeartbeats 6400000 in
theorem gaBy_any (a b : AtM) (w : World) :
    Calls Tryz.prog 31 #[.agg (atc a), .agg (atc b)] w fun e w' => e = .returned (.int .i64 (cmpA a b)) ∧ ∃ q os, w' = grow (w.drewN q) os := by
  have hA : BoxA ((w.alloc (.cells (atc a) 36)).alloc (.cells (atc b) 36)) w.heap.size a := (Below.heap_alloc _ _ _ (by simp)).trans (heap_alloc_new w _)
  have hB : BoxA ((w.alloc (.cells (atc a) 36)).alloc (.cells (atc b) 36)) (w.heap.size + 1) b := by
    have := BoxA.new (w.alloc (.cells (atc a) 36)) b
    rwa [show (w.alloc (.cells (atc a) 36)).heap.size = w.heap.size + 1 from by simp] at this
  have hw : ∃ os, (w.alloc (.cells (atc a) 36)).alloc (.cells (atc b) 36) = grow (w.drewN 0) os := ⟨_, by rw [alloc_eq_grow, alloc_eq_grow, grow_grow]; rfl⟩
  have HW := hid hw
  have HS : Hid (∀ W, Below ((w.alloc (.cells (atc a) 36)).alloc (.cells (atc b) 36)).heap.size ((w.alloc (.cells (atc a) 36)).alloc (.cells (atc b) 36)) W → CmpSt W w.heap.size (w.heap.size + 1) a b) := hid (fun W h => by
    obtain ⟨k0, k1, k2, _⟩ := BoxA.cells ((h.block _ (lt_of_block hA)).trans hA)
    obtain ⟨j0, j1, j2, _⟩ := BoxA.cells ((h.block _ (lt_of_block hB)).trans hB)
    exact ⟨k0, k1, k2, j0, j1, j2⟩)
  obtain ⟨C, HC⟩ : ∃ C : Array Value, Hid (atc a = C) := ⟨_, hid rfl⟩
  obtain ⟨D, HD⟩ : ∃ C : Array Value, Hid (atc b = C) := ⟨_, hid rfl⟩
  obtain ⟨r, HR⟩ : ∃ q : Int, Hid (cmpA a b = q) := ⟨_, hid rfl⟩
  rw [HC.out, HD.out] at HW HS ⊢
  rw [HR.out]
  clear hA hB hw HC HD
  go_enter Tryz.func31, Tryz.ntmps31
  go_upto_region 1 with (fail)
  generalize ((w.alloc (.cells C 36)).alloc (.cells D 36)) = w0 at *
  generalize w.heap.size = g at *
  have HR2 : Hid (orI (cmpI a.vi b.vi) (cmpI a.ki b.ki) (cmpI a.bo b.bo) = r) := hid HR.out
  clear HR
  obtain ⟨bo, ki, vi, _, _, _, _, _⟩ := a
  obtain ⟨bo', ki', vi', _, _, _, _, _⟩ := b
  obtain ⟨q1, H1⟩ : ∃ q : Int, Hid (cmpI vi vi' = q) := ⟨_, hid rfl⟩
  obtain ⟨q2, H2⟩ : ∃ q : Int, Hid (cmpI ki ki' = q) := ⟨_, hid rfl⟩
  obtain ⟨q3, H3⟩ : ∃ q : Int, Hid (cmpI bo bo' = q) := ⟨_, hid rfl⟩
  have K1 : Hid (∀ W, Calls Tryz.prog 46 #[.int .i64 vi, .int .i64 vi'] W fun e w' => e = .returned (.int .i64 q1) ∧ W = w') := hid (fun W => by rw [← H1.out]; exact gaCompare_any vi vi' W)
  have K2 : Hid (∀ W, Calls Tryz.prog 46 #[.int .i64 ki, .int .i64 ki'] W fun e w' => e = .returned (.int .i64 q2) ∧ W = w') := hid (fun W => by rw [← H2.out]; exact gaCompare_any ki ki' W)
  have K3 : Hid (∀ W, Calls Tryz.prog 46 #[.int .i64 bo, .int .i64 bo'] W fun e w' => e = .returned (.int .i64 q3) ∧ W = w') := hid (fun W => by rw [← H3.out]; exact gaCompare_any bo bo' W)
  have HQ : Hid (orI q1 q2 q3 = r) := hid (by rw [← HR2.out, ← H1.out, ← H2.out, ← H3.out])
  have hbd : Below w0.heap.size w0 w0.drew := (Below.refl _ _).drew
  refine wp_region_held_drew (S := fun W => W.cell? ⟨g, 0, none⟩ = some (.int .i64 bo) ∧ W.cell? ⟨g, 1, none⟩ = some (.int .i64 ki) ∧ W.cell? ⟨g, 2, none⟩ = some (.int .i64 vi) ∧ W.cell? ⟨g + 1, 0, none⟩ = some (.int .i64 bo') ∧ W.cell? ⟨g + 1, 1, none⟩ = some (.int .i64 ki') ∧ W.cell? ⟨g + 1, 2, none⟩ = some (.int .i64 vi')) (by kernel_rfl) (by obtain ⟨x0, x1, x2, x3, x4, x5⟩ := HS.out _ hbd; exact ⟨x0, x1, x2, x3, x4, x5⟩) (fun hHeld => ?_)
  refine' tk (i := 0) (v := _) rfl ?_ ?_
  rotate_left
  · (intro W hW; (try dsimp only at hW); go_simp; first | done | with_reducible rfl)
  try simp only [lay]
  refine' tk (i := 2) (v := _) rfl ?_ ?_
  rotate_left
  · (intro W hW; (try dsimp only at hW); go_simp; first | done | with_reducible rfl)
  try simp only [lay]
  refine' tk (i := 5) (v := _) rfl ?_ ?_
  rotate_left
  · (intro W hW; (try dsimp only at hW); go_simp; first | done | with_reducible rfl)
  try simp only [lay]
  refine' tk (i := 7) (v := _) rfl ?_ ?_
  rotate_left
  · (intro W hW; (try dsimp only at hW); go_simp; first | done | with_reducible rfl)
  try simp only [lay]
  refine' tk (i := 10) (v := _) rfl ?_ ?_
  rotate_left
  · (intro W hW; (try dsimp only at hW); go_simp; first | done | with_reducible rfl)
  try simp only [lay]
  refine' tk (i := 12) (v := _) rfl ?_ ?_
  rotate_left
  · (intro W hW; (try dsimp only at hW); go_simp; first | done | with_reducible rfl)
  try simp only [lay]
  refine' tk (i := 1) (v := _) rfl ?_ ?_
  rotate_left
  · (intro W hW; (try dsimp only at hW); obtain ⟨x0, x1, x2, x3, x4, x5⟩ := hW; go_simp; first | done | with_reducible rfl)
  try simp only [lay]
  refine' tk (i := 3) (v := _) rfl ?_ ?_
  rotate_left
  · (intro W hW; (try dsimp only at hW); obtain ⟨x0, x1, x2, x3, x4, x5⟩ := hW; go_simp; first | done | with_reducible rfl)
  try simp only [lay]
  refine' tk (i := 6) (v := _) rfl ?_ ?_
  rotate_left
  · (intro W hW; (try dsimp only at hW); obtain ⟨x0, x1, x2, x3, x4, x5⟩ := hW; go_simp; first | done | with_reducible rfl)
  try simp only [lay]
  refine' tk (i := 8) (v := _) rfl ?_ ?_
  rotate_left
  · (intro W hW; (try dsimp only at hW); obtain ⟨x0, x1, x2, x3, x4, x5⟩ := hW; go_simp; first | done | with_reducible rfl)
  try simp only [lay]
  refine' tk (i := 11) (v := _) rfl ?_ ?_
  rotate_left
  · (intro W hW; (try dsimp only at hW); obtain ⟨x0, x1, x2, x3, x4, x5⟩ := hW; go_simp; first | done | with_reducible rfl)
  try simp only [lay]
  refine' tk (i := 13) (v := _) rfl ?_ ?_
  rotate_left
  · (intro W hW; (try dsimp only at hW); obtain ⟨x0, x1, x2, x3, x4, x5⟩ := hW; go_simp; first | done | with_reducible rfl)
  try simp only [lay]
  refine call_on (i := 4) rfl (by kernel_rfl) (by rfl) (fun K hK => ?_)
  go_simp
  refine (K1.out _).mono ?_
  rintro e w5 ⟨rfl, rfl⟩
  refine hK.out _ _ (by obtain ⟨x0, x1, x2, x3, x4, x5⟩ := HS.out _ hbd; exact ⟨x0, x1, x2, x3, x4, x5⟩) (fun hHeld => ?_)
  clear hK K
  try simp only [lay]
  refine call_on (i := 9) rfl (by kernel_rfl) (by rfl) (fun K hK => ?_)
  go_simp
  refine (K2.out _).mono ?_
  rintro e w5 ⟨rfl, rfl⟩
  refine hK.out _ _ (by obtain ⟨x0, x1, x2, x3, x4, x5⟩ := HS.out _ hbd; exact ⟨x0, x1, x2, x3, x4, x5⟩) (fun hHeld => ?_)
  clear hK K
  try simp only [lay]
  refine call_on (i := 14) rfl (by kernel_rfl) (by rfl) (fun K hK => ?_)
  go_simp
  refine (K3.out _).mono ?_
  rintro e w5 ⟨rfl, rfl⟩
  refine hK.out _ _ (by obtain ⟨x0, x1, x2, x3, x4, x5⟩ := HS.out _ hbd; exact ⟨x0, x1, x2, x3, x4, x5⟩) (fun hHeld => ?_)
  clear hK K
  try simp only [lay]
  refine call_on (i := 15) rfl (by kernel_rfl) (by rfl) (fun K hK => ?_)
  go_simp
  have hb1 := hbd.alloc hbd.size (.cells #[.int .i64 q1, .int .i64 q2, .int .i64 q3] 3)
  have HO : Hid (∀ W, W = w0.drew.alloc (.cells #[.int .i64 q1, .int .i64 q2, .int .i64 q3] 3) → Calls Tryz.prog 45 #[.slice (some ⟨w0.heap.size, 0, none⟩) 3 3] W fun e w' => e = .returned (.int .i64 r) ∧ W = w') := hid (fun W hW => by
    subst hW
    rw [← HQ.out]
    exact gaOr_any q1 q2 q3 w0.heap.size _ (heap_alloc_new w0.drew _))
  refine hK.out _ _ (by obtain ⟨x0, x1, x2, x3, x4, x5⟩ := HS.out _ hb1; exact ⟨x0, x1, x2, x3, x4, x5⟩) (fun hHeld => ?_)
  clear hK K
  try simp only [lay]
  refine call_on (i := 16) rfl (by kernel_rfl) (by rfl) (fun K hK => ?_)
  go_simp
  refine (HO.out _ rfl).mono ?_
  rintro e w5 ⟨rfl, rfl⟩
  refine hK.out _ _ (by obtain ⟨x0, x1, x2, x3, x4, x5⟩ := HS.out _ hb1; exact ⟨x0, x1, x2, x3, x4, x5⟩) (fun hHeld => ?_)
  clear hK K
  try simp only [lay]
  refine' tk (i := 17) (v := _) rfl ?_ ?_
  rotate_left
  · (intro W hW; (try dsimp only at hW); go_simp; first | done | with_reducible rfl)
  try simp only [lay]
  refine wpAnyH_done (by kernel_rfl) ?_ _
  clear hHeld
  go_wp2_with fail
  go_ret
  obtain ⟨os, e⟩ := HW.out
  refine ⟨rfl, 1, os ++ #[.cells #[.int .i64 q1, .int .i64 q2, .int .i64 q3] 3], ?_⟩
  subst e
  rw [alloc_eq_grow, ← grow_grow]
  rfl
end Go.Proofs.YtpnejoglkmfleaaGreatDoor
