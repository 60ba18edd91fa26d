/-
  tithinglaw14.Do: what an act tells is as it must be: Swap for what a slot was. Printed with genvacts.py.
-/
import Derived.Test.YtghophbabbaleaaGreatDoorVaDoWords
namespace Go.Proofs.YtghophbabbaleaaGreatDoor
set_option maxRecDepth 20000
open Go.RowKit
attribute [local go_sem ↓] exec_load_rv exec_alloc_rv exec_store_rv exec_load_se exec_alloc_se exec_store_se exec_eq_se
set_option maxHeartbeats 25600000 in
theorem doY_any {b c a : Nat} (V : VaM) (C : Array Value) (x : ActM) (s3 : Value) (Ls : List OldM) (w : World) (hv : Vlt w b c a V) (g : V.Good) (hC : RvC w C V) (hx : ActOk w x) (hxl : x.bl.length ≤ 1200) (ho : Els ocl 2 w s3 Ls) (hoo : ∀ o ∈ Ls, OldOk w o)
    (hact : x.act = 3) (hr : 0 ≤ x.k ∧ x.k < (Ls.length : Int)) (hKT : ∀ W, Turn b a w W → Kst 1 W ∧ Kst 0 W) :
    Calls Tryz.prog 10 #[.pointer (some ⟨b, 0, none⟩), .agg C, .agg (acc x), s3] w (DoPost b c a w) := by
  have HG := hid g
  have HKT := hid hKT
  have HXO := hid hx.1
  have HXN := hid (show x.n ≤ 9223372036854775807 ∧ -9223372036854775808 ≤ x.m ∧ x.m ≤ 9223372036854775807 from by
    have h1 : -9223372036854775808 ≤ x.n ∧ x.n ≤ 9223372036854775807 := by simpa [Lit.wf, IntKind.min, IntKind.max, IntKind.signed, IntKind.bits] using hx.2.1.1
    have h2 : -9223372036854775808 ≤ x.m ∧ x.m ≤ 9223372036854775807 := by simpa [Lit.wf, IntKind.min, IntKind.max, IntKind.signed, IntKind.bits] using hx.2.1.2.1
    exact ⟨h1.2, h2.1, h2.2⟩)
  have HXB : Hid (∀ W, Turn b a w W → Byt W x.b x.bl) := hid (fun W t => hv.turned hx.2.2 t)
  have HXL := hid hxl
  obtain ⟨A3, d3, rfl⟩ := ho.shape
  have HOLD : Hid (∀ k (h : k < Ls.length), ∃ bo oo, A3 = some ⟨bo, oo, none⟩ ∧ bo < w.heap.size ∧ w.cell? ⟨bo, oo + k * 2, none⟩ = some (.slice Ls[k].A0 Ls[k].l0.length Ls[k].c0) ∧ w.cell? ⟨bo, oo + k * 2 + 1, none⟩ = some (.slice Ls[k].A1 Ls[k].l1.length Ls[k].c1) ∧ OldOk w Ls[k]) := hid (fun k hk => by
    obtain ⟨bo, oo, e, hb, hc⟩ := ho.at_.2.2.2 (by omega)
    exact ⟨bo, oo, e, hb, hc k hk 0 _ rfl, hc k hk 1 _ rfl, hoo _ (List.getElem_mem hk)⟩)
  have HTO : Hid (∀ W v l, Byt w v l → Turn b a w W → Byt W v l) := hid (fun W v l h t => hv.turned h t)
  obtain ⟨N3, HN3⟩ : ∃ q : Nat, Hid (Ls.length = q) := ⟨_, hid rfl⟩
  rw [HN3.out]
  obtain ⟨AX, HAX⟩ : ∃ q : Array Value, Hid (acc x = q) := ⟨_, hid rfl⟩
  have HACT : Hid (∀ (W : World) (gx : Nat), W.heap[gx]? = some (.cells AX 42 (0, 0)) → (W.cell? ⟨gx, 0, none⟩ = some (.int .i64 x.act) ∧ W.cell? ⟨gx, 36, none⟩ = some (.int .i64 x.n) ∧ W.cell? ⟨gx, 37, none⟩ = some (.int .i64 x.m) ∧ W.cell? ⟨gx, 38, none⟩ = some (.int .i64 x.k) ∧ W.cell? ⟨gx, 39, none⟩ = some x.b) ∧ loadSe (.pointer (some ⟨gx, 1, none⟩)) W = .ok (.value (.agg (sec x.s))) W) := hid (fun W gx h => by
    rw [← HAX.out] at h
    have h2 : BoxAc W gx x := h
    exact ⟨h2.cells HXO.out, h2.sealed HXO.out⟩)
  obtain ⟨SC, HSC⟩ : ∃ q : Array Value, Hid (sec x.s = q) := ⟨_, hid rfl⟩
  rw [HSC.out] at HACT
  rw [HAX.out]
  have hr5 := heap_alloc_new w (.cells C 32)
  have hb5 : Below w.heap.size w (w.alloc (.cells C 32)) := (Below.refl _ _).alloc (Nat.le_refl _) _
  have hsz5 : (w.alloc (.cells C 32)).heap.size = w.heap.size + 1 := by simp
  have hr6 := heap_alloc_new (w.alloc (.cells C 32)) (.cells AX 42)
  have hb6 : Below (w.alloc (.cells C 32)).heap.size (w.alloc (.cells C 32)) ((w.alloc (.cells C 32)).alloc (.cells AX 42)) := (Below.refl _ _).alloc (Nat.le_refl _) _
  have hsz6 : ((w.alloc (.cells C 32)).alloc (.cells AX 42)).heap.size = w.heap.size + 2 := by simp
  have hal := allocRv_eq ((w.alloc (.cells C 32)).alloc (.cells AX 42))
  have hr8 := heap_alloc_new ((w.alloc (.cells C 32)).alloc (.cells AX 42)) (.cells rvZ 32)
  have hb8 : Below ((w.alloc (.cells C 32)).alloc (.cells AX 42)).heap.size ((w.alloc (.cells C 32)).alloc (.cells AX 42)) (((w.alloc (.cells C 32)).alloc (.cells AX 42)).alloc (.cells rvZ 32)) := (Below.refl _ _).alloc (Nat.le_refl _) _
  have hbz := (hb5.trans (hb6.mono hb5.size)).trans (hb8.mono (Nat.le_trans hb5.size hb6.size))
  have hr5z := (hb8.block _ (by have := lt_of_block hr5; omega)).trans ((hb6.block _ (lt_of_block hr5)).trans hr5)
  have hr6z := (hb8.block _ (lt_of_block hr6)).trans hr6
  rw [hsz5] at hr6z
  rw [hsz6] at hr8 hal
  have HS0 : Hid (DoSt w (((w.alloc (.cells C 32)).alloc (.cells AX 42)).alloc (.cells rvZ 32)) b c a w.heap.size V V C AX) := hid ⟨hv.below hbz, hr5z, hr6z, hr8, hC.below hbz, Turn.of hbz⟩
  have HLE := hid (Nat.le_refl w.heap.size)
  have HOB := hid hbz.block
  clear hv g hC hx hxl ho hoo hKT hr5 hb5 hsz5 hr6 hb6 hsz6 hr8 hb8 hbz hr5z hr6z HAX
  go_enter Tryz.func10, Tryz.ntmps10
  go_upto_region 1 with (fail)
  clear hal
  generalize (((w.alloc (.cells C 32)).alloc (.cells AX 42)).alloc (.cells rvZ 32)) = wz at *
  have x0 := (HACT.out wz _ HS0.out.r6).1.1
  have HACD := hid x0
  clear x0
  obtain ⟨act, HAC⟩ : ∃ q : Int, Hid (x.act = q) := ⟨_, hid rfl⟩
  rw [HAC.out] at HACD HACT
  have x0 := HACD.out
  have d3 : act = 3 := by rw [← HAC.out]; exact hact
  have d0 : ¬ act = 0 := by rw [← HAC.out]; omega
  have d1 : ¬ act = 1 := by rw [← HAC.out]; omega
  have d2 : ¬ act = 2 := by rw [← HAC.out]; omega
  clear hact
  subst d3
  clear d0 d1 d2
  have x37 := (HACT.out wz _ HS0.out.r6).1.2.2.1
  have x38 := (HACT.out wz _ HS0.out.r6).1.2.2.2.1
  have x39 := (HACT.out wz _ HS0.out.r6).1.2.2.2.2
  obtain ⟨kk, HKK⟩ : ∃ q : Int, Hid (x.k = q) := ⟨_, hid rfl⟩
  rw [HKK.out] at x38
  have r : 0 ≤ kk ∧ kk < (N3 : Int) := by rw [← HKK.out, ← HN3.out]; exact hr
  clear hr
  obtain ⟨r0, r1⟩ := r
  obtain ⟨j, rfl⟩ : ∃ j : Nat, kk = (j : Int) := ⟨kk.toNat, by omega⟩
  have hj : j < Ls.length := by rw [HN3.out]; omega
  obtain ⟨bo, oo, rfl, hbo, hcl0, hcl1, hok⟩ := HOLD.out j hj
  generalize Ls[j] = od at *
  have HSH : Hid (wz.heap[bo]? = w.heap[bo]?) := hid (HOB.out bo hbo)
  have J0 := hid ((World.cell?_of_block (a := ⟨bo, oo + j * 2, none⟩) HSH.out).trans hcl0)
  have J1 := hid ((World.cell?_of_block (a := ⟨bo, oo + j * 2 + 1, none⟩) HSH.out).trans hcl1)
  have HOK := hid hok
  obtain ⟨mm, HMM⟩ : ∃ q : Int, Hid (x.m = q) := ⟨_, hid rfl⟩
  rw [HMM.out] at x37
  have HTM := hid (tmod2 mm)
  unfold ActM.b at x39
  clear hcl0 hcl1 hok hbo hj r0
  go_upto_region 13 with (fail)
  all_goals try (exfalso; omega)
  clear x39 x0
  go_cut [16] from 77 (fun s16 wx => VbOk b a w s16 ∧ wx = wz.drew)
  case first =>
    have j0 := J0.out
    have j1 := J1.out
    rcases HTM.out with hm | hm | hm
    · have hz1 : IntKind.i64.wrap 1 = 1 := by decide
      have hz2 : (1 : Int).tmod 2 = 1 := by decide
      have hz3 : IntKind.i64.wrap 1 = 1 := by decide
      refine wp_region_held_drew (S := fun W => W.cell? ⟨w.heap.size + 1, 38, none⟩ = some (.int .i64 (j : Int)) ∧ W.cell? ⟨w.heap.size + 1, 37, none⟩ = some (.int .i64 mm) ∧ W.cell? ⟨bo, oo + j * 2, none⟩ = some (.slice od.A0 od.l0.length od.c0) ∧ W.cell? ⟨bo, oo + j * 2 + 1, none⟩ = some (.slice od.A1 od.l1.length od.c1)) (by kernel_rfl) ⟨x38, x37, j0, j1⟩ (fun hHeld => ?_)
      refine' tk (i := 0) (v := _) rfl ?_ ?_
      rotate_left
      · (intro W hW; (try dsimp only at hW); go_simp; first | done | with_reducible rfl)
      try simp only [lay]
      refine' tk (i := 1) (v := _) rfl ?_ ?_
      rotate_left
      · (intro W hW; (try dsimp only at hW); go_simp; first | done | with_reducible rfl)
      try simp only [lay]
      refine' tk (i := 2) (v := _) rfl ?_ ?_
      rotate_left
      · (intro W hW; (try dsimp only at hW); obtain ⟨hW1, hW2, hW3, hW4⟩ := hW; go_simp; first | done | with_reducible rfl)
      try simp only [lay]
      refine' tk (i := 3) (v := _) rfl ?_ ?_
      rotate_left
      · (intro W hW; (try dsimp only at hW); go_simp; first | done | with_reducible rfl)
      try simp only [lay]
      refine' tk (i := 4) (v := _) rfl ?_ ?_
      rotate_left
      · (intro W hW; (try dsimp only at hW); obtain ⟨hW1, hW2, hW3, hW4⟩ := hW; go_simp; first | done | with_reducible rfl)
      try simp only [lay]
      refine' tk (i := 5) (v := _) rfl ?_ ?_
      rotate_left
      · (intro W hW; (try dsimp only at hW); go_simp; first | done | with_reducible rfl)
      try simp only [lay]
      refine' tk (i := 6) (v := _) rfl ?_ ?_
      rotate_left
      · (intro W hW; (try dsimp only at hW); go_simp; first | done | with_reducible rfl)
      try simp only [lay]
      refine' tk (i := 7) (v := _) rfl ?_ ?_
      rotate_left
      · (intro W hW; (try dsimp only at hW); go_simp; first | done | with_reducible rfl)
      try simp only [lay]
      refine' tk (i := 8) (v := _) rfl ?_ ?_
      rotate_left
      · (intro W hW; (try dsimp only at hW); go_simp; first | done | with_reducible rfl)
      try simp only [lay]
      refine' tk (i := 9) (v := _) rfl ?_ ?_
      rotate_left
      · (intro W hW; (try dsimp only at hW); go_simp; first | done | with_reducible rfl)
      try simp only [lay]
      refine' tk (i := 10) (v := _) rfl ?_ ?_
      rotate_left
      · (intro W hW; (try dsimp only at hW); obtain ⟨hW1, hW2, hW3, hW4⟩ := hW; go_simp; first | done | with_reducible rfl)
      try simp only [lay]
      refine' tk (i := 11) (v := _) rfl ?_ ?_
      rotate_left
      · (intro W hW; (try dsimp only at hW); go_simp; first | done | with_reducible rfl)
      try simp only [lay]
      refine wpAnyH_done (by kernel_rfl) ?_ _
      clear hHeld
      go_wp2_with fail
      go_meet
      case rel => exact ⟨⟨od.l1, fun W t => HTO.out W _ _ HOK.out.2.1.byt t, by have h1 := HOK.out.2.2.1; have h2 := HOK.out.2.2.2; omega⟩, rfl⟩
    · have hz1 : IntKind.i64.wrap 2 = 2 := by decide
      have hz2 : (2 : Int).tmod 2 = 0 := by decide
      have hz3 : IntKind.i64.wrap 0 = 0 := by decide
      refine wp_region_held_drew (S := fun W => W.cell? ⟨w.heap.size + 1, 38, none⟩ = some (.int .i64 (j : Int)) ∧ W.cell? ⟨w.heap.size + 1, 37, none⟩ = some (.int .i64 mm) ∧ W.cell? ⟨bo, oo + j * 2, none⟩ = some (.slice od.A0 od.l0.length od.c0) ∧ W.cell? ⟨bo, oo + j * 2 + 1, none⟩ = some (.slice od.A1 od.l1.length od.c1)) (by kernel_rfl) ⟨x38, x37, j0, j1⟩ (fun hHeld => ?_)
      refine' tk (i := 0) (v := _) rfl ?_ ?_
      rotate_left
      · (intro W hW; (try dsimp only at hW); go_simp; first | done | with_reducible rfl)
      try simp only [lay]
      refine' tk (i := 1) (v := _) rfl ?_ ?_
      rotate_left
      · (intro W hW; (try dsimp only at hW); go_simp; first | done | with_reducible rfl)
      try simp only [lay]
      refine' tk (i := 2) (v := _) rfl ?_ ?_
      rotate_left
      · (intro W hW; (try dsimp only at hW); obtain ⟨hW1, hW2, hW3, hW4⟩ := hW; go_simp; first | done | with_reducible rfl)
      try simp only [lay]
      refine' tk (i := 3) (v := _) rfl ?_ ?_
      rotate_left
      · (intro W hW; (try dsimp only at hW); go_simp; first | done | with_reducible rfl)
      try simp only [lay]
      refine' tk (i := 4) (v := _) rfl ?_ ?_
      rotate_left
      · (intro W hW; (try dsimp only at hW); obtain ⟨hW1, hW2, hW3, hW4⟩ := hW; go_simp; first | done | with_reducible rfl)
      try simp only [lay]
      refine' tk (i := 5) (v := _) rfl ?_ ?_
      rotate_left
      · (intro W hW; (try dsimp only at hW); go_simp; first | done | with_reducible rfl)
      try simp only [lay]
      refine' tk (i := 6) (v := _) rfl ?_ ?_
      rotate_left
      · (intro W hW; (try dsimp only at hW); go_simp; first | done | with_reducible rfl)
      try simp only [lay]
      refine' tk (i := 7) (v := _) rfl ?_ ?_
      rotate_left
      · (intro W hW; (try dsimp only at hW); go_simp; first | done | with_reducible rfl)
      try simp only [lay]
      refine' tk (i := 8) (v := _) rfl ?_ ?_
      rotate_left
      · (intro W hW; (try dsimp only at hW); go_simp; first | done | with_reducible rfl)
      try simp only [lay]
      refine' tk (i := 9) (v := _) rfl ?_ ?_
      rotate_left
      · (intro W hW; (try dsimp only at hW); go_simp; first | done | with_reducible rfl)
      try simp only [lay]
      refine' tk (i := 10) (v := _) rfl ?_ ?_
      rotate_left
      · (intro W hW; (try dsimp only at hW); obtain ⟨hW1, hW2, hW3, hW4⟩ := hW; go_simp; first | done | with_reducible rfl)
      try simp only [lay]
      refine' tk (i := 11) (v := _) rfl ?_ ?_
      rotate_left
      · (intro W hW; (try dsimp only at hW); go_simp; first | done | with_reducible rfl)
      try simp only [lay]
      refine wpAnyH_done (by kernel_rfl) ?_ _
      clear hHeld
      go_wp2_with fail
      go_meet
      case rel => exact ⟨⟨od.l0, fun W t => HTO.out W _ _ HOK.out.1.byt t, by have h1 := HOK.out.2.2.1; have h2 := HOK.out.2.2.2; omega⟩, rfl⟩
    · have hz1 : IntKind.i64.wrap 3 = 3 := by decide
      have hz2 : (3 : Int).tmod 2 = 1 := by decide
      have hz3 : IntKind.i64.wrap 1 = 1 := by decide
      refine wp_region_held_drew (S := fun W => W.cell? ⟨w.heap.size + 1, 38, none⟩ = some (.int .i64 (j : Int)) ∧ W.cell? ⟨w.heap.size + 1, 37, none⟩ = some (.int .i64 mm) ∧ W.cell? ⟨bo, oo + j * 2, none⟩ = some (.slice od.A0 od.l0.length od.c0) ∧ W.cell? ⟨bo, oo + j * 2 + 1, none⟩ = some (.slice od.A1 od.l1.length od.c1)) (by kernel_rfl) ⟨x38, x37, j0, j1⟩ (fun hHeld => ?_)
      refine' tk (i := 0) (v := _) rfl ?_ ?_
      rotate_left
      · (intro W hW; (try dsimp only at hW); go_simp; first | done | with_reducible rfl)
      try simp only [lay]
      refine' tk (i := 1) (v := _) rfl ?_ ?_
      rotate_left
      · (intro W hW; (try dsimp only at hW); go_simp; first | done | with_reducible rfl)
      try simp only [lay]
      refine' tk (i := 2) (v := _) rfl ?_ ?_
      rotate_left
      · (intro W hW; (try dsimp only at hW); obtain ⟨hW1, hW2, hW3, hW4⟩ := hW; go_simp; first | done | with_reducible rfl)
      try simp only [lay]
      refine' tk (i := 3) (v := _) rfl ?_ ?_
      rotate_left
      · (intro W hW; (try dsimp only at hW); go_simp; first | done | with_reducible rfl)
      try simp only [lay]
      refine' tk (i := 4) (v := _) rfl ?_ ?_
      rotate_left
      · (intro W hW; (try dsimp only at hW); obtain ⟨hW1, hW2, hW3, hW4⟩ := hW; go_simp; first | done | with_reducible rfl)
      try simp only [lay]
      refine' tk (i := 5) (v := _) rfl ?_ ?_
      rotate_left
      · (intro W hW; (try dsimp only at hW); go_simp; first | done | with_reducible rfl)
      try simp only [lay]
      refine' tk (i := 6) (v := _) rfl ?_ ?_
      rotate_left
      · (intro W hW; (try dsimp only at hW); go_simp; first | done | with_reducible rfl)
      try simp only [lay]
      refine' tk (i := 7) (v := _) rfl ?_ ?_
      rotate_left
      · (intro W hW; (try dsimp only at hW); go_simp; first | done | with_reducible rfl)
      try simp only [lay]
      refine' tk (i := 8) (v := _) rfl ?_ ?_
      rotate_left
      · (intro W hW; (try dsimp only at hW); go_simp; first | done | with_reducible rfl)
      try simp only [lay]
      refine' tk (i := 9) (v := _) rfl ?_ ?_
      rotate_left
      · (intro W hW; (try dsimp only at hW); go_simp; first | done | with_reducible rfl)
      try simp only [lay]
      refine' tk (i := 10) (v := _) rfl ?_ ?_
      rotate_left
      · (intro W hW; (try dsimp only at hW); obtain ⟨hW1, hW2, hW3, hW4⟩ := hW; go_simp; first | done | with_reducible rfl)
      try simp only [lay]
      refine' tk (i := 11) (v := _) rfl ?_ ?_
      rotate_left
      · (intro W hW; (try dsimp only at hW); go_simp; first | done | with_reducible rfl)
      try simp only [lay]
      refine wpAnyH_done (by kernel_rfl) ?_ _
      clear hHeld
      go_wp2_with fail
      go_meet
      case rel => exact ⟨⟨od.l1, fun W t => HTO.out W _ _ HOK.out.2.1.byt t, by have h1 := HOK.out.2.2.1; have h2 := HOK.out.2.2.2; omega⟩, rfl⟩
  case rest =>
    obtain ⟨hvl, hw⟩ := hcut
    have HS0d := hid (HS0.out.below ((Below.refl wz.heap.size wz).drew))
    rw [← hw] at HS0d
    clear HS0 hw HSH J0 J1 HACD
    obtain ⟨lb, HVB0, HLB0⟩ := hvl
    have HVB := hid HVB0
    have HLB := hid HLB0
    clear HVB0 HLB0 x37 x38 r1
    obtain ⟨Ab, cb, rb⟩ := (HVB.out wc HS0d.out.t).shape
    obtain ⟨nb, HNB⟩ : ∃ q : Nat, Hid (lb.length = q) := ⟨_, hid rfl⟩
    rw [HNB.out] at rb
    subst rb
    have HVS : Hid (∀ W v, Turn b a w W → Vlt W b c a V → Byt W v lb → Calls Tryz.prog 21 #[.pointer (some ⟨b, 0, none⟩), .int .i64 x.n, v] W fun e w' => e = .returned (.int .i64 (swapE x.n lb)) ∧ Vlt w' b c a (swapV V x.n lb) ∧ Turn b a W w') := hid (fun W v t hv hy => vSwap_any hv x.n hy)
    have HGS := hid (swapV_good HG.out x.n lb)
    obtain ⟨sE, HSE⟩ : ∃ q : Int, Hid (swapE x.n lb = q) := ⟨_, hid rfl⟩
    obtain ⟨sV, HSV⟩ : ∃ q : VaM, Hid (swapV V x.n lb = q) := ⟨_, hid rfl⟩
    rw [HSE.out, HSV.out] at HVS
    rw [HSV.out] at HGS
    obtain ⟨n, HNX⟩ : ∃ q : Int, Hid (x.n = q) := ⟨_, hid rfl⟩
    have HAC2 : Hid (∀ (W : World) (gx : Nat), W.heap[gx]? = some (.cells AX 42 (0, 0)) → W.cell? ⟨gx, 36, none⟩ = some (.int .i64 n)) := hid (fun W gx h => by
      have := (HACT.out W gx h).1.2.1
      rw [HNX.out] at this
      exact this)
    rw [HNX.out] at HVS HSE HSV
    go_upto_region 14 with (fail)
    have hb1 := ((Below.refl wc.heap.size wc).drew).alloc (Nat.le_refl _) (.cells #[] 5)
    have HS1 := hid (HS0d.out.below hb1)
    have HSd := hid (HS0d.out.below ((Below.refl wc.heap.size wc).drew))
    have hs2 : ([] : List UInt8).length + lb.length ≤ 140737488355328 := by have := HLB.out; simp only [List.length_nil]; omega
    have hvb := HVB.out _ HS1.out.t
    refine wp_region_held_drew (S := fun W => W.cell? ⟨w.heap.size + 1, 36, none⟩ = some (.int .i64 n)) (by kernel_rfl) (HAC2.out _ _ HSd.out.r6) (fun hHeld => ?_)
    refine' tk (i := 0) (v := _) rfl ?_ ?_
    rotate_left
    · (intro W hW; (try dsimp only at hW); go_simp; first | done | with_reducible rfl)
    try simp only [lay]
    refine' tk (i := 1) (v := _) rfl ?_ ?_
    rotate_left
    · (intro W hW; (try dsimp only at hW); go_simp; first | done | with_reducible rfl)
    try simp only [lay]
    refine' tk (i := 2) (v := _) rfl ?_ ?_
    rotate_left
    · (intro W hW; (try dsimp only at hW); go_simp; first | done | with_reducible rfl)
    try simp only [lay]
    refine' tk (i := 4) (v := _) rfl ?_ ?_
    rotate_left
    · (intro W hW; (try dsimp only at hW); go_simp; first | done | with_reducible rfl)
    try simp only [lay]
    refine call_on (i := 3) rfl (by kernel_rfl) (by rfl) (fun K hK => ?_)
    go_simp
    refine hK.out _ _ (HAC2.out _ _ HS1.out.r6) (fun hHeld => ?_)
    clear hK K
    try simp only [lay]
    refine call_on (i := 5) rfl (by kernel_rfl) (by rfl) (fun K hK => ?_)
    refine wp_append_byt (.tmp 91) (.tmp 92) rfl rfl rfl (fresh0_own wc.drew) hvb hs2 (al_le wc.drew _) ?_
    intro v3 w3 ho3 hg3 _
    simp only [List.nil_append] at ho3
    have hb3 : Below wc.drew.heap.size wc.drew w3 := fresh0_below hg3
    have HS3 := hid (HSd.out.below hb3)
    have hy3 := ho3.byt
    obtain ⟨A3v, c3v, r3⟩ := hy3.shape
    rw [HNB.out] at r3
    subst r3
    refine hK.out _ _ (HAC2.out _ _ HS3.out.r6) (fun hHeld => ?_)
    clear hK K
    try simp only [lay]
    refine call_on (i := 6) rfl (by kernel_rfl) (by rfl) (fun K hK => ?_)
    go_simp
    refine (HVS.out w3 _ HS3.out.t HS3.out.v hy3).mono ?_
    rintro e w4 ⟨rfl, h4, t4⟩
    have HS4 := hid (HS3.out.turn t4 h4)
    refine hK.out _ _ (HAC2.out _ _ HS4.out.r6) (fun hHeld => ?_)
    clear hK K
    try simp only [lay]
    refine' tk (i := 7) (v := _) rfl ?_ ?_
    rotate_left
    · (intro W hW; (try dsimp only at hW); go_simp; first | done | with_reducible rfl)
    try simp only [lay]
    refine wpAnyH_done (by kernel_rfl) ?_ _
    clear hHeld hb1 hs2 hvb ho3 hg3 hb3 hy3 h4 t4
    have x36 := HAC2.out _ _ HS4.out.r6
    have HLN : Hid ((swapE n lb = 1 ∧ swapV V n lb = V) ∨ (¬ n < 0 ∧ ¬ 1 < n ∧ ¬ 1000 < lb.length)) := hid (by
      unfold swapE swapV
      by_cases h : n < 0 ∨ 1 < n ∨ 1000 < lb.length
      · rw [if_pos h, if_pos h]
        exact .inl ⟨rfl, rfl⟩
      · exact .inr ⟨fun e => h (.inl e), fun e => h (.inr (.inl e)), fun e => h (.inr (.inr e))⟩)
    have HNO : Hid (n < 0 ∨ 1 < n ∨ 1000 < lb.length → sE = 1 ∧ sV = V) := hid (fun h => by
      rw [← HSE.out, ← HSV.out]
      unfold swapE swapV
      rw [if_pos h, if_pos h]
      exact ⟨rfl, rfl⟩)
    have HYES : Hid (¬ (n < 0 ∨ 1 < n ∨ 1000 < lb.length) → sE = 0 ∧ sV = putV V n lb) := hid (fun h => by
      rw [← HSE.out, ← HSV.out]
      unfold swapE swapV
      rw [if_neg h, if_neg h]
      exact ⟨rfl, rfl⟩)
    have hld5 := HS4.out.ld5
    by_cases p0 : n < 0
    · obtain ⟨q1, q2⟩ := HNO.out (.inl p0)
      obtain rfl := q1
      obtain rfl := q2.symm
      clear HNO HYES
      obtain ⟨hst, hrw, hvf, hrc, htf⟩ := HS4.out.fin HLE.out HS4.out.rc
      have HRW := hid hrw
      have HVF := hid hvf
      have HRC := hid hrc
      have HTF := hid htf
      clear hrw hvf hrc htf
      go_wp2_with fail
      try simp only [Exit.inBlock, Exit.then]
      refine bodyPost_ret (results_rv2 rfl _ _ _ _ _ _ rfl rfl HRW.out HRC.out.size) rfl ⟨_, _, rfl, HVF.out, HG.out, HRC.out, HTF.out⟩
    by_cases p1 : 1 < n
    · obtain ⟨q1, q2⟩ := HNO.out (.inr (.inl p1))
      obtain rfl := q1
      obtain rfl := q2.symm
      clear HNO HYES
      obtain ⟨hst, hrw, hvf, hrc, htf⟩ := HS4.out.fin HLE.out HS4.out.rc
      have HRW := hid hrw
      have HVF := hid hvf
      have HRC := hid hrc
      have HTF := hid htf
      clear hrw hvf hrc htf
      go_wp2_with fail
      try simp only [Exit.inBlock, Exit.then]
      refine bodyPost_ret (results_rv2 rfl _ _ _ _ _ _ rfl rfl HRW.out HRC.out.size) rfl ⟨_, _, rfl, HVF.out, HG.out, HRC.out, HTF.out⟩
    by_cases p2 : (1000 : Int) < (nb : Int)
    · obtain ⟨q1, q2⟩ := HNO.out (.inr (.inr (by rw [HNB.out]; omega)))
      obtain rfl := q1
      obtain rfl := q2.symm
      clear HNO HYES
      obtain ⟨hst, hrw, hvf, hrc, htf⟩ := HS4.out.fin HLE.out HS4.out.rc
      have HRW := hid hrw
      have HVF := hid hvf
      have HRC := hid hrc
      have HTF := hid htf
      clear hrw hvf hrc htf
      go_wp2_with fail
      try simp only [Exit.inBlock, Exit.then]
      refine bodyPost_ret (results_rv2 rfl _ _ _ _ _ _ rfl rfl HRW.out HRC.out.size) rfl ⟨_, _, rfl, HVF.out, HG.out, HRC.out, HTF.out⟩
    obtain ⟨q1, q2⟩ := HYES.out (by rintro (h | h | h); exact p0 h; exact p1 h; rw [HNB.out] at h; omega)
    obtain rfl := q1
    obtain rfl := q2
    clear HNO HYES HLN
    go_upto_region 17 with (fail)
    clear p2 x36 hld5
    have hn01 : n = 0 ∨ n = 1 := by omega
    clear p0 p1
    have hb5 := ((Below.refl w4.heap.size w4).drew).alloc (Nat.le_refl _) (.cells #[] 5)
    have HS5 := hid (HS4.out.below hb5)
    have HS4d := hid (HS4.out.below ((Below.refl w4.heap.size w4).drew))
    have hs2 : ([] : List UInt8).length + lb.length ≤ 140737488355328 := by have := HLB.out; simp only [List.length_nil]; omega
    have hvb := HVB.out _ HS5.out.t
    obtain ⟨u0, u1, uh, kh, hCC, hyu0, hyu1, hyuh, hkh⟩ := HS4.out.rc
    rcases hn01 with rfl | rfl
    · refine wp_region_held_drew (S := fun W => W.cell? ⟨w.heap.size + 1, 36, none⟩ = some (.int .i64 0)) (by kernel_rfl) (HAC2.out _ _ HS4d.out.r6) (fun hHeld => ?_)
      refine' tk (i := 0) (v := _) rfl ?_ ?_
      rotate_left
      · (intro W hW; (try dsimp only at hW); go_simp; first | done | with_reducible rfl)
      try simp only [lay]
      refine' tk (i := 1) (v := _) rfl ?_ ?_
      rotate_left
      · (intro W hW; (try dsimp only at hW); go_simp; first | done | with_reducible rfl)
      try simp only [lay]
      refine' tk (i := 3) (v := _) rfl ?_ ?_
      rotate_left
      · (intro W hW; (try dsimp only at hW); go_simp; first | done | with_reducible rfl)
      try simp only [lay]
      refine' tk (i := 5) (v := _) rfl ?_ ?_
      rotate_left
      · (intro W hW; (try dsimp only at hW); go_simp; first | done | with_reducible rfl)
      try simp only [lay]
      refine call_on (i := 2) rfl (by kernel_rfl) (by rfl) (fun K hK => ?_)
      go_simp
      refine hK.out _ _ (HAC2.out _ _ HS5.out.r6) (fun hHeld => ?_)
      clear hK K
      try simp only [lay]
      refine call_on (i := 4) rfl (by kernel_rfl) (by rfl) (fun K hK => ?_)
      refine wp_append_byt (.tmp 113) (.tmp 114) rfl rfl rfl (fresh0_own w4.drew) hvb hs2 (al_le w4.drew _) ?_
      intro v6 w6 ho6 hg6 _
      simp only [List.nil_append] at ho6
      have hb6 : Below w4.drew.heap.size w4.drew w6 := fresh0_below hg6
      have HS6 := hid (HS4d.out.below hb6)
      have HY6 := hid ho6.bys
      obtain ⟨A6v, c6v, r6⟩ := ho6.byt.shape
      rw [HNB.out] at r6
      subst r6
      refine hK.out _ _ (HAC2.out _ _ HS6.out.r6) (fun hHeld => ?_)
      clear hK K
      try simp only [lay]
      refine' tk (i := 6) (v := _) rfl ?_ ?_
      rotate_left
      · (intro W hW; (try dsimp only at hW); go_simp; first | done | with_reducible rfl)
      try simp only [lay]
      have HYU := hid (show Bys w6 u0 V.s0 ∧ Bys w6 u1 V.s1 ∧ Bys w6 uh V.torn from by
        have hq : Below w4.heap.size w4 w6 := ((Below.refl w4.heap.size w4).drew).trans hb6
        exact ⟨hyu0.below hq, hyu1.below hq, hyuh.below hq⟩)
      have HRV7 : Hid (RvC w6 (rvc (putV V 0 lb) (.slice A6v nb c6v) u1 uh kh) (putV V 0 lb)) := hid ⟨_, _, _, _, rfl, HY6.out, HYU.out.2.1, HYU.out.2.2, hkh⟩
      have HS7 : Hid (DoSt w (w6.setCell ⟨w.heap.size, 1, none⟩ (.slice A6v nb c6v)) b c a w.heap.size (putV V 0 lb) (putV V 0 lb) (rvc (putV V 0 lb) (.slice A6v nb c6v) u1 uh kh) AX) := hid (HS6.out.set HLE.out (fun h => by
        rw [hCC] at h
        exact BoxRv.set (V' := putV V 0 lb) (u0 := (.slice A6v nb c6v)) (u1 := u1) (uh := uh) (k := kh) h rfl) HRV7.out)
      obtain ⟨k1, k2, f1⟩ : w6.cell? ⟨w.heap.size, 1, none⟩ = some u0 ∧ w6.cell? ⟨w.heap.size, 2, none⟩ = some u1 ∧ w6.frozen? ⟨w.heap.size, 1, none⟩ = false := by
        have h := HS6.out.r5
        rw [hCC] at h
        exact ⟨(rv_cell h).2.1, (rv_cell h).2.2.1, coBlk_free h _⟩
      refine call_on (i := 7) rfl (by kernel_rfl) (by rfl) (fun K hK => ?_)
      go_simp
      refine hK.out _ _ (HAC2.out _ _ HS7.out.r6) (fun hHeld => ?_)
      clear hK K
      try simp only [lay]
      refine wpAnyH_done (by kernel_rfl) ?_ _
      clear hHeld hb5 hs2 hvb ho6 hg6 hb6 k1 k2 f1 hCC hyu0 hyu1 hyuh hkh
      obtain ⟨D7, HD7⟩ : ∃ q : Array Value, Hid (rvc (putV V 0 lb) (.slice A6v nb c6v) u1 uh kh = q) := ⟨_, hid rfl⟩
      rw [HD7.out] at HS7
      have hld5 := HS7.out.ld5
      obtain ⟨hst, hrw, hvf, hrc, htf⟩ := HS7.out.fin HLE.out HS7.out.rc
      have HRW := hid hrw
      have HVF := hid hvf
      have HRC := hid hrc
      have HTF := hid htf
      clear hrw hvf hrc htf
      go_wp2_with fail
      try simp only [Exit.inBlock, Exit.then]
      refine bodyPost_ret (results_rv2 rfl _ _ _ _ _ _ rfl rfl HRW.out HRC.out.size) rfl ⟨_, _, rfl, HVF.out, HGS.out, HRC.out, HTF.out⟩
    · refine wp_region_held_drew (S := fun W => W.cell? ⟨w.heap.size + 1, 36, none⟩ = some (.int .i64 1)) (by kernel_rfl) (HAC2.out _ _ HS4d.out.r6) (fun hHeld => ?_)
      refine' tk (i := 0) (v := _) rfl ?_ ?_
      rotate_left
      · (intro W hW; (try dsimp only at hW); go_simp; first | done | with_reducible rfl)
      try simp only [lay]
      refine' tk (i := 1) (v := _) rfl ?_ ?_
      rotate_left
      · (intro W hW; (try dsimp only at hW); go_simp; first | done | with_reducible rfl)
      try simp only [lay]
      refine' tk (i := 3) (v := _) rfl ?_ ?_
      rotate_left
      · (intro W hW; (try dsimp only at hW); go_simp; first | done | with_reducible rfl)
      try simp only [lay]
      refine' tk (i := 5) (v := _) rfl ?_ ?_
      rotate_left
      · (intro W hW; (try dsimp only at hW); go_simp; first | done | with_reducible rfl)
      try simp only [lay]
      refine call_on (i := 2) rfl (by kernel_rfl) (by rfl) (fun K hK => ?_)
      go_simp
      refine hK.out _ _ (HAC2.out _ _ HS5.out.r6) (fun hHeld => ?_)
      clear hK K
      try simp only [lay]
      refine call_on (i := 4) rfl (by kernel_rfl) (by rfl) (fun K hK => ?_)
      refine wp_append_byt (.tmp 113) (.tmp 114) rfl rfl rfl (fresh0_own w4.drew) hvb hs2 (al_le w4.drew _) ?_
      intro v6 w6 ho6 hg6 _
      simp only [List.nil_append] at ho6
      have hb6 : Below w4.drew.heap.size w4.drew w6 := fresh0_below hg6
      have HS6 := hid (HS4d.out.below hb6)
      have HY6 := hid ho6.bys
      obtain ⟨A6v, c6v, r6⟩ := ho6.byt.shape
      rw [HNB.out] at r6
      subst r6
      refine hK.out _ _ (HAC2.out _ _ HS6.out.r6) (fun hHeld => ?_)
      clear hK K
      try simp only [lay]
      refine' tk (i := 6) (v := _) rfl ?_ ?_
      rotate_left
      · (intro W hW; (try dsimp only at hW); go_simp; first | done | with_reducible rfl)
      try simp only [lay]
      have HYU := hid (show Bys w6 u0 V.s0 ∧ Bys w6 u1 V.s1 ∧ Bys w6 uh V.torn from by
        have hq : Below w4.heap.size w4 w6 := ((Below.refl w4.heap.size w4).drew).trans hb6
        exact ⟨hyu0.below hq, hyu1.below hq, hyuh.below hq⟩)
      have HRV7 : Hid (RvC w6 (rvc (putV V 1 lb) u0 (.slice A6v nb c6v) uh kh) (putV V 1 lb)) := hid ⟨_, _, _, _, rfl, HYU.out.1, HY6.out, HYU.out.2.2, hkh⟩
      have HS7 : Hid (DoSt w (w6.setCell ⟨w.heap.size, 2, none⟩ (.slice A6v nb c6v)) b c a w.heap.size (putV V 1 lb) (putV V 1 lb) (rvc (putV V 1 lb) u0 (.slice A6v nb c6v) uh kh) AX) := hid (HS6.out.set HLE.out (fun h => by
        rw [hCC] at h
        exact BoxRv.set (V' := putV V 1 lb) (u0 := u0) (u1 := (.slice A6v nb c6v)) (uh := uh) (k := kh) h rfl) HRV7.out)
      obtain ⟨k1, k2, f1⟩ : w6.cell? ⟨w.heap.size, 1, none⟩ = some u0 ∧ w6.cell? ⟨w.heap.size, 2, none⟩ = some u1 ∧ w6.frozen? ⟨w.heap.size, 2, none⟩ = false := by
        have h := HS6.out.r5
        rw [hCC] at h
        exact ⟨(rv_cell h).2.1, (rv_cell h).2.2.1, coBlk_free h _⟩
      refine call_on (i := 7) rfl (by kernel_rfl) (by rfl) (fun K hK => ?_)
      go_simp
      refine hK.out _ _ (HAC2.out _ _ HS7.out.r6) (fun hHeld => ?_)
      clear hK K
      try simp only [lay]
      refine wpAnyH_done (by kernel_rfl) ?_ _
      clear hHeld hb5 hs2 hvb ho6 hg6 hb6 k1 k2 f1 hCC hyu0 hyu1 hyuh hkh
      obtain ⟨D7, HD7⟩ : ∃ q : Array Value, Hid (rvc (putV V 1 lb) u0 (.slice A6v nb c6v) uh kh = q) := ⟨_, hid rfl⟩
      rw [HD7.out] at HS7
      have hld5 := HS7.out.ld5
      obtain ⟨hst, hrw, hvf, hrc, htf⟩ := HS7.out.fin HLE.out HS7.out.rc
      have HRW := hid hrw
      have HVF := hid hvf
      have HRC := hid hrc
      have HTF := hid htf
      clear hrw hvf hrc htf
      go_wp2_with fail
      try simp only [Exit.inBlock, Exit.then]
      refine bodyPost_ret (results_rv2 rfl _ _ _ _ _ _ rfl rfl HRW.out HRC.out.size) rfl ⟨_, _, rfl, HVF.out, HGS.out, HRC.out, HTF.out⟩
end Go.Proofs.YtghophbabbaleaaGreatDoor
