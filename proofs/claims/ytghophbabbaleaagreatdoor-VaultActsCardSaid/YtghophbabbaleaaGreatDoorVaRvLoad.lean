/-
  The document's answer for Load: tithingref14.Load. Printed with genvref.py.
-/
import Derived.Deep.CutBlock
import Derived.Test.YtghophbabbaleaaGreatDoorVaCodeLoad
import Derived.Test.YtghophbabbaleaaGreatDoorVaRvWords
namespace Go.Proofs.YtghophbabbaleaaGreatDoor
set_option maxRecDepth 20000
open Go.RowKit
attribute [local go_sem ↓] exec_load_se exec_alloc_se exec_store_se exec_build_se
set_option maxHeartbeats 6400000 in
theorem refLoad14_any (V : VaM) (C : Array Value) (w : World) (hC : RvC w C V) (g : V.Good) (hK2 : Kst 0 w) :
    Calls Tryz.prog 26 #[.agg C] w fun e w' => e = .returned (.tuple #[.agg (sec (loadS V)), .int .i64 (loadE V)]) ∧ Below w.heap.size w w' := by
  obtain ⟨v0, v1, vh, wh, rfl, hy0, hy1, hyh, _⟩ := hC
  obtain ⟨n0, HN0⟩ : ∃ x, Hid ((getB V.i V.s0).1 = x) := ⟨_, hid rfl⟩
  obtain ⟨G0, HG0⟩ : ∃ x, Hid (sec (getB V.i V.s0).2.1 = x) := ⟨_, hid rfl⟩
  obtain ⟨e0, HE0⟩ : ∃ x, Hid ((getB V.i V.s0).2.2 = x) := ⟨_, hid rfl⟩
  have HGS0 : Hid (G0.size = 35 ∧ G0.all (·.oneCell') = true) := hid (by rw [← HG0.out]; exact ⟨sec_size (getB_ok' _ _), sec_one _⟩)
  have HGT0 : Hid (∀ W, Below w.heap.size w W → Calls Tryz.prog 52 #[.int .i64 V.i, v0] W fun e w' => e = .returned (.tuple #[.int .i64 n0, .agg G0, .int .i64 e0]) ∧ Below W.heap.size W w') := hid (fun W hb => by
    have := refGet13_any V.i v0 V.s0 W (hy0.byt.below hb) (by have := g.l0; omega) (hK2.below hb)
    rw [HN0.out, HG0.out, HE0.out] at this
    exact this)
  obtain ⟨n1, HN1⟩ : ∃ x, Hid ((getB V.i V.s1).1 = x) := ⟨_, hid rfl⟩
  obtain ⟨G1, HG1⟩ : ∃ x, Hid (sec (getB V.i V.s1).2.1 = x) := ⟨_, hid rfl⟩
  obtain ⟨e1, HE1⟩ : ∃ x, Hid ((getB V.i V.s1).2.2 = x) := ⟨_, hid rfl⟩
  have HGS1 : Hid (G1.size = 35 ∧ G1.all (·.oneCell') = true) := hid (by rw [← HG1.out]; exact ⟨sec_size (getB_ok' _ _), sec_one _⟩)
  have HGT1 : Hid (∀ W, Below w.heap.size w W → Calls Tryz.prog 52 #[.int .i64 V.i, v1] W fun e w' => e = .returned (.tuple #[.int .i64 n1, .agg G1, .int .i64 e1]) ∧ Below W.heap.size W w') := hid (fun W hb => by
    have := refGet13_any V.i v1 V.s1 W (hy1.byt.below hb) (by have := g.l1; omega) (hK2.below hb)
    rw [HN1.out, HG1.out, HE1.out] at this
    exact this)
  obtain ⟨Z, HZ⟩ : ∃ C : Array Value, Hid (sec seZ = C) := ⟨_, hid rfl⟩
  have HZS : Hid (Z.size = 35) := hid (by rw [← HZ.out]; exact sec_size seZ_ok)
  have HZ1 : Hid (Z.all (·.oneCell') = true) := hid (by rw [← HZ.out]; exact sec_one _)
  have HAL : Hid (∀ W, allocSe W = .ok (.value (.pointer (some ⟨W.heap.size, 0, none⟩))) (W.alloc (.cells Z 40))) := hid (fun W => by rw [← HZ.out]; exact allocSe_eq W)
  have HBZ : Hid (∀ W, buildSe W = .ok (.value (.agg Z)) W) := hid (fun W => by rw [← HZ.out]; exact buildSe_eq W)
  obtain ⟨S, HS⟩ : ∃ C : Array Value, Hid (sec (loadS V) = C) := ⟨_, hid rfl⟩
  obtain ⟨E, HE⟩ : ∃ C : Int, Hid (loadE V = C) := ⟨_, hid rfl⟩
  have HA1 : Hid (V.dead = true → S = Z ∧ E = 6) := hid (fun hd => by
    rw [← HS.out, ← HE.out, ← HZ.out]
    obtain ⟨q1, q2⟩ := load_dead hd
    rw [q1, q2]
    exact ⟨rfl, rfl⟩)
  have HA2 : Hid (V.dead = false → V.n = 0 → S = Z ∧ E = 0) := hid (fun hd hn => by
    rw [← HS.out, ← HE.out, ← HZ.out]
    unfold loadS loadE
    have hd' : ¬ V.dead = true := by rw [hd]; decide
    rw [if_neg hd', if_neg hd', if_pos hn, if_pos hn]
    exact ⟨rfl, rfl⟩)
  have HA3 : Hid (V.dead = false → ¬ V.n = 0 → e0 = 0 → n0 = V.n → S = G0 ∧ E = 0) := hid (fun hd hn h1 h2 => by
    have hh : hitB V.i V.n V.s0 = true := by unfold hitB; rw [HE0.out, HN0.out, decide_eq_true h1, decide_eq_true h2]; rfl
    rw [← HS.out, ← HE.out, ← HG0.out]
    unfold loadS loadE
    have hd' : ¬ V.dead = true := by rw [hd]; decide
    rw [if_neg hd', if_neg hd', if_neg hn, if_neg hn, if_pos hh, if_pos hh]
    exact ⟨rfl, rfl⟩)
  have HA4 : Hid (V.dead = false → ¬ V.n = 0 → ¬ (e0 = 0 ∧ n0 = V.n) → e1 = 0 → n1 = V.n → S = G1 ∧ E = 0) := hid (fun hd hn h0 h1 h2 => by
    have hh : hitB V.i V.n V.s1 = true := by unfold hitB; rw [HE1.out, HN1.out, decide_eq_true h1, decide_eq_true h2]; rfl
    have hg : ¬ hitB V.i V.n V.s0 = true := by unfold hitB; rw [HE0.out, HN0.out]; simpa using h0
    rw [← HS.out, ← HE.out, ← HG1.out]
    unfold loadS loadE
    have hd' : ¬ V.dead = true := by rw [hd]; decide
    rw [if_neg hd', if_neg hd', if_neg hn, if_neg hn, if_neg hg, if_neg hg, if_pos hh, if_pos hh]
    exact ⟨rfl, rfl⟩)
  have HA5 : Hid (V.dead = false → ¬ V.n = 0 → ¬ (e0 = 0 ∧ n0 = V.n) → ¬ (e1 = 0 ∧ n1 = V.n) → S = Z ∧ E = 8) := hid (fun hd hn h0 h1 => by
    have hh : ¬ hitB V.i V.n V.s1 = true := by unfold hitB; rw [HE1.out, HN1.out]; simpa using h1
    have hg : ¬ hitB V.i V.n V.s0 = true := by unfold hitB; rw [HE0.out, HN0.out]; simpa using h0
    rw [← HS.out, ← HE.out, ← HZ.out]
    unfold loadS loadE
    have hd' : ¬ V.dead = true := by rw [hd]; decide
    rw [if_neg hd', if_neg hd', if_neg hn, if_neg hn, if_neg hg, if_neg hg, if_neg hh, if_neg hh]
    exact ⟨rfl, rfl⟩)
  rw [HS.out, HE.out]
  have hbb : Below w.heap.size w (w.alloc (.cells (rvc V v0 v1 vh wh) 32)) := (Below.refl _ _).alloc (Nat.le_refl _) _
  have hrb : BoxRv (w.alloc (.cells (rvc V v0 v1 vh wh) 32)) w.heap.size V v0 v1 vh wh := heap_alloc_new w _
  obtain ⟨D, HD⟩ : ∃ x : Array Value, Hid (rvc V v0 v1 vh wh = x) := ⟨_, hid rfl⟩
  rw [HD.out] at hbb hrb ⊢
  have hal := HAL.out (w.alloc (.cells D 32))
  have hb2 : Below (w.alloc (.cells D 32)).heap.size (w.alloc (.cells D 32)) ((w.alloc (.cells D 32)).alloc (.cells Z 40)) := (Below.refl _ _).alloc (Nat.le_refl _) _
  have hr2 := heap_alloc_new (w.alloc (.cells D 32)) (.cells Z 40)
  have hsz : (w.alloc (.cells D 32)).heap.size = w.heap.size + 1 := by simp
  have HBX := hid (hrb.below hb2)
  have HB0 := hid (hbb.trans (hb2.mono hbb.size))
  rw [hsz] at hr2 hal
  have HR2 := hid hr2
  have HYS : Hid ((∃ A d, v0 = .slice A V.s0.length d) ∧ (∃ A d, v1 = .slice A V.s1.length d)) := hid ⟨hy0.shape, hy1.shape⟩
  clear hy0 hy1 hyh g hK2 hbb hrb hb2 hr2 hsz HN0 HN1 HG0 HG1 HE0 HE1 HS HE HZ
  go_enter Tryz.func26, Tryz.ntmps26
  go_upto_region 1 with (fail)
  clear hal
  generalize ((w.alloc (.cells D 32)).alloc (.cells Z 40)) = w0 at *
  have HEND : Hid (∀ W C, Below w0.heap.size w0 W → C.size = 35 → C.all (·.oneCell') = true → storeSe (.pointer (some ⟨w.heap.size + 1, 0, none⟩)) (.agg C) W = .ok .skip (setSe W (w.heap.size + 1) C) ∧ (setSe W (w.heap.size + 1) C).heap[w.heap.size + 1]? = some (.cells C 40 (0, 0)) ∧ Below w.heap.size w (setSe W (w.heap.size + 1) C)) := hid (fun W C hb h1 h2 =>
    have hr := (hb.block _ (lt_of_block HR2.out)).trans HR2.out
    ⟨storeSe_eq hr HZS.out h1 h2, setSe_same hr, setSe_below (HB0.out.trans (hb.mono HB0.out.size)) (Nat.le_succ _)⟩)
  have HBW : Hid (∀ W, Below w0.heap.size w0 W → Below w.heap.size w W) := hid (fun W hb => HB0.out.trans (hb.mono HB0.out.size))
  have HRF := hid (Below.refl w0.heap.size w0)
  have HCL : Hid (∀ W, Below w0.heap.size w0 W → W.cell? ⟨w.heap.size, 0, none⟩ = some (.int .i64 V.i) ∧ W.cell? ⟨w.heap.size, 1, none⟩ = some v0 ∧ W.cell? ⟨w.heap.size, 2, none⟩ = some v1 ∧ W.cell? ⟨w.heap.size, 3, none⟩ = some (.int .i64 V.n) ∧ W.cell? ⟨w.heap.size, 5, none⟩ = some (.bool V.dead)) := hid (fun W hb => by
    obtain ⟨h0, h1, h2, h3, _, h5, _, _⟩ := (HBX.out.below hb).cells
    exact ⟨h0, h1, h2, h3, h5⟩)
  obtain ⟨dd, hdd⟩ : ∃ q : Bool, V.dead = q := ⟨_, rfl⟩
  rw [hdd] at HA1 HA2 HA3 HA4 HA5 HCL
  clear hdd
  obtain ⟨⟨A0, d0, rfl⟩, A1, d1, rfl⟩ := HYS.out
  generalize V.s0.length = L0 at *
  generalize V.s1.length = L1 at *
  obtain ⟨_, _, _, k3, k5⟩ := HCL.out w0 HRF.out
  cases dd with
  | true =>
    obtain ⟨rfl, rfl⟩ := HA1.out rfl
    have hbz := HBZ.out
    obtain ⟨hst, hrw, hbw⟩ := HEND.out w0 _ HRF.out HZS.out HZ1.out
    have HRW := hid hrw
    have HBB := hid hbw
    clear hrw hbw
    go_wp2_with fail
    try simp only [Exit.inBlock, Exit.then]
    refine bodyPost_ret (results_se2 rfl _ _ _ _ _ _ rfl rfl HRW.out HZS.out) rfl ⟨rfl, HBB.out⟩
  | false =>
    have HA2a := hid (HA2.out rfl)
    have HA3a := hid (HA3.out rfl)
    have HA4a := hid (HA4.out rfl)
    have HA5a := hid (HA5.out rfl)
    clear HA1 HA2 HA3 HA4 HA5
    by_cases hn : V.n = 0
    · obtain ⟨rfl, rfl⟩ := HA2a.out hn
      have hbz := HBZ.out
      obtain ⟨hst, hrw, hbw⟩ := HEND.out w0 _ HRF.out HZS.out HZ1.out
      have HRW := hid hrw
      have HBB := hid hbw
      clear hrw hbw
      go_wp2_with fail
      try simp only [Exit.inBlock, Exit.then]
      refine bodyPost_ret (results_se2 rfl _ _ _ _ _ _ rfl rfl HRW.out HZS.out) rfl ⟨rfl, HBB.out⟩
    have HA3b := hid (HA3a.out hn)
    have HA4b := hid (HA4a.out hn)
    have HA5b := hid (HA5a.out hn)
    clear HA2a HA3a HA4a HA5a
    go_wp2_with fail
    clear hn k3 k5
    generalize hnn : V.n = n at *
    clear hnn
    refine wp_loop_rounds 3 ?_
    rw [rounds_succ]
    go_upto_region 8 with (fail)
    go_cut [5, 6, 7] from 8 (fun s5 s6 s7 wx => ∃ gx, s5 = .int .i64 n0 ∧ s6 = .pointer (some ⟨gx, 0, none⟩) ∧ s7 = .int .i64 e0 ∧ wx.heap[gx]? = some (.cells G0 40 (0, 0)) ∧ Below w0.heap.size w0 wx)
    case first =>
      have hbd := HRF.out.drew
      have hal := HAL.out
      refine wp_region_held_drew (S := fun W => W.cell? ⟨w.heap.size, 0, none⟩ = some (.int .i64 V.i) ∧ W.cell? ⟨w.heap.size, 1, none⟩ = some (.slice A0 L0 d0)) (by kernel_rfl) ⟨(HCL.out _ hbd).1, (HCL.out _ hbd).2.1⟩ (fun hHeld => ?_)
      refine' tk (i := 0) (v := _) rfl ?_ ?_
      rotate_left
      · (intro W hW; (try dsimp only at hW); go_simp; first | done | with_reducible rfl)
      try simp only [lay]
      refine' tk (i := 1) (v := _) rfl ?_ ?_
      rotate_left
      · (intro W hW; (try dsimp only at hW); obtain ⟨hW1, hW2⟩ := hW; go_simp; first | done | with_reducible rfl)
      try simp only [lay]
      refine' tk (i := 2) (v := _) rfl ?_ ?_
      rotate_left
      · (intro W hW; (try dsimp only at hW); go_simp; first | done | with_reducible rfl)
      try simp only [lay]
      refine' tk (i := 3) (v := _) rfl ?_ ?_
      rotate_left
      · (intro W hW; (try dsimp only at hW); go_simp; first | done | with_reducible rfl)
      try simp only [lay]
      refine' tk (i := 4) (v := _) rfl ?_ ?_
      rotate_left
      · (intro W hW; (try dsimp only at hW); go_simp; first | done | with_reducible rfl)
      try simp only [lay]
      refine' tk (i := 5) (v := _) rfl ?_ ?_
      rotate_left
      · (intro W hW; (try dsimp only at hW); obtain ⟨hW1, hW2⟩ := hW; go_simp; first | done | with_reducible rfl)
      try simp only [lay]
      refine pair_on (i := 6) (j := 11) rfl rfl (by kernel_rfl) (by rfl) (by rfl) (fun K hK => ?_) (fun K hK => ?_)
      · go_simp
        refine (HGT0.out _ (HBW.out _ hbd)).mono ?_
        rintro e x0 ⟨rfl, hbx0⟩
        have hX0 := hbd.trans (hbx0.mono hbd.size)
        refine hK.out _ _ ⟨(HCL.out _ hX0).1, (HCL.out _ hX0).2.1⟩ (fun hHeld => ?_)
        clear hK K
        try simp only [lay]
        refine' tk (i := 7) (v := _) rfl ?_ ?_
        rotate_left
        · (intro W hW; (try dsimp only at hW); go_simp; first | done | with_reducible rfl)
        try simp only [lay]
        refine' tk (i := 8) (v := _) rfl ?_ ?_
        rotate_left
        · (intro W hW; (try dsimp only at hW); go_simp; first | done | with_reducible rfl)
        try simp only [lay]
        refine' tk (i := 9) (v := _) rfl ?_ ?_
        rotate_left
        · (intro W hW; (try dsimp only at hW); go_simp; first | done | with_reducible rfl)
        try simp only [lay]
        refine' tk (i := 10) (v := _) rfl ?_ ?_
        rotate_left
        · (intro W hW; (try dsimp only at hW); go_simp; first | done | with_reducible rfl)
        try simp only [lay]
        have hbA := hX0.alloc hX0.size (.cells Z 40)
        have hbB := hX0.alloc hX0.size (.cells G0 40)
        have hs0 := se_var x0 HZS.out HGS0.out.1 HGS0.out.2
        refine call_on (i := 11) rfl (by kernel_rfl) (by rfl) (fun K hK => ?_)
        go_simp
        refine hK.out _ _ (⟨(HCL.out _ hbA).1, (HCL.out _ hbA).2.1⟩) (fun hHeld => ?_)
        clear hK K
        try simp only [lay]
        refine' tk (i := 12) (v := _) rfl ?_ ?_
        rotate_left
        · (intro W hW; (try dsimp only at hW); go_simp; first | done | with_reducible rfl)
        try simp only [lay]
        refine call_on (i := 13) rfl (by kernel_rfl) (by rfl) (fun K hK => ?_)
        go_simp
        refine hK.out _ _ (⟨(HCL.out _ hbB).1, (HCL.out _ hbB).2.1⟩) (fun hHeld => ?_)
        clear hK K
        try simp only [lay]
        refine' tk (i := 14) (v := _) rfl ?_ ?_
        rotate_left
        · (intro W hW; (try dsimp only at hW); go_simp; first | done | with_reducible rfl)
        try simp only [lay]
        refine wpAnyH_done (by kernel_rfl) ?_ _
        clear hHeld
        have HRR := hid (heap_alloc_new x0 (.cells G0 40))
        have HBB := hid hbB
        clear hbA hbB hs0 hal hbd hX0 hbx0
        go_wp2_with fail
        go_meet
        case rel => exact ⟨_, rfl, rfl, rfl, HRR.out, HBB.out⟩
      · go_simp
        have hbA := hbd.alloc hbd.size (.cells Z 40)
        have hrA := heap_alloc_new w0.drew (.cells Z 40)
        refine hK.out _ _ ⟨(HCL.out _ hbA).1, (HCL.out _ hbA).2.1⟩ (fun hHeld => ?_)
        clear hK K
        try simp only [lay]
        refine call_on (i := 6) rfl (by kernel_rfl) (by rfl) (fun K hK => ?_)
        go_simp
        refine (HGT0.out _ (HBW.out _ hbA)).mono ?_
        rintro e x0 ⟨rfl, hbx0⟩
        have hX0 := hbA.trans (hbx0.mono hbA.size)
        refine hK.out _ _ (⟨(HCL.out _ hX0).1, (HCL.out _ hX0).2.1⟩) (fun hHeld => ?_)
        clear hK K
        try simp only [lay]
        refine' tk (i := 7) (v := _) rfl ?_ ?_
        rotate_left
        · (intro W hW; (try dsimp only at hW); go_simp; first | done | with_reducible rfl)
        try simp only [lay]
        refine' tk (i := 8) (v := _) rfl ?_ ?_
        rotate_left
        · (intro W hW; (try dsimp only at hW); go_simp; first | done | with_reducible rfl)
        try simp only [lay]
        refine' tk (i := 9) (v := _) rfl ?_ ?_
        rotate_left
        · (intro W hW; (try dsimp only at hW); go_simp; first | done | with_reducible rfl)
        try simp only [lay]
        refine' tk (i := 10) (v := _) rfl ?_ ?_
        rotate_left
        · (intro W hW; (try dsimp only at hW); go_simp; first | done | with_reducible rfl)
        try simp only [lay]
        have hrX : x0.heap[w0.heap.size]? = some (.cells Z 40 (0, 0)) := (hbx0.block _ (lt_of_block hrA)).trans hrA
        have hs0 := storeSe_eq (C := G0) hrX HZS.out HGS0.out.1 HGS0.out.2
        have hbS := setSe_below (C := G0) hX0 (Nat.le_trans HRF.out.size (Nat.le_refl w0.heap.size))
        have hrS := setSe_same (C := G0) hrX
        refine' tk (i := 12) (v := _) rfl ?_ ?_
        rotate_left
        · (intro W hW; (try dsimp only at hW); go_simp; first | done | with_reducible rfl)
        try simp only [lay]
        refine call_on (i := 13) rfl (by kernel_rfl) (by rfl) (fun K hK => ?_)
        go_simp
        refine hK.out _ _ (⟨(HCL.out _ hbS).1, (HCL.out _ hbS).2.1⟩) (fun hHeld => ?_)
        clear hK K
        try simp only [lay]
        refine' tk (i := 14) (v := _) rfl ?_ ?_
        rotate_left
        · (intro W hW; (try dsimp only at hW); go_simp; first | done | with_reducible rfl)
        try simp only [lay]
        refine wpAnyH_done (by kernel_rfl) ?_ _
        clear hHeld
        have HRR := hid hrS
        have HBB := hid hbS
        clear hbA hrA hrX hbS hrS hs0 hal hbd hX0 hbx0
        go_wp2_with fail
        go_meet
        case rel => exact ⟨_, rfl, rfl, rfl, HRR.out, HBB.out⟩
    case rest =>
      obtain ⟨gx0, rfl, rfl, rfl, hrx0, hbx0⟩ := hcut
      have HR0 := hid hrx0
      have HW0 := hid hbx0
      clear hrx0 hbx0
      generalize wc = y0 at *
      obtain ⟨_, _, _, k3, _⟩ := HCL.out y0 HW0.out
      by_cases h1 : e0 = 0
      · have hq1 : (e0 == 0) = true := by simp [h1]
        by_cases h2 : n0 = n
        · have hq2 : (n0 == n) = true := by simp [h2]
          obtain ⟨rfl, rfl⟩ := HA3b.out  h1 h2
          have ld := loadSe_row HR0.out HGS0.out.1
          clear h1 h2
          obtain ⟨hst, hrw, hbw⟩ := HEND.out y0 _ HW0.out HGS0.out.1 HGS0.out.2
          have HRW := hid hrw
          have HBB := hid hbw
          clear hrw hbw
          go_wp2_with fail
          try simp only [Exit.inBlock, Exit.then]
          refine bodyPost_ret (results_se2 rfl _ _ _ _ _ _ rfl rfl HRW.out HGS0.out.1) rfl ⟨rfl, HBB.out⟩
        · have HNO0 : Hid (¬ (e0 = 0 ∧ n0 = n)) := hid (fun h => h2 h.2)
          have hq2 : (n0 == n) = false := by simp [h2]
          clear h1
          go_wp2_with fail
          rw [rounds_succ]
          clear k3
          obtain ⟨k0, _, k2, _, _⟩ := HCL.out y0 HW0.out
          go_upto_region 8 with (fail)
          go_cut [5, 6, 7] from 8 (fun s5 s6 s7 wx => ∃ gx, s5 = .int .i64 n1 ∧ s6 = .pointer (some ⟨gx, 0, none⟩) ∧ s7 = .int .i64 e1 ∧ wx.heap[gx]? = some (.cells G1 40 (0, 0)) ∧ Below w0.heap.size w0 wx)
          case first =>
            have hbd := HW0.out.drew
            have hal := HAL.out
            refine wp_region_held_drew (S := fun W => W.cell? ⟨w.heap.size, 0, none⟩ = some (.int .i64 V.i) ∧ W.cell? ⟨w.heap.size, 2, none⟩ = some (.slice A1 L1 d1)) (by kernel_rfl) ⟨(HCL.out _ hbd).1, (HCL.out _ hbd).2.2.1⟩ (fun hHeld => ?_)
            refine' tk (i := 0) (v := _) rfl ?_ ?_
            rotate_left
            · (intro W hW; (try dsimp only at hW); go_simp; first | done | with_reducible rfl)
            try simp only [lay]
            refine' tk (i := 1) (v := _) rfl ?_ ?_
            rotate_left
            · (intro W hW; (try dsimp only at hW); obtain ⟨hW1, hW2⟩ := hW; go_simp; first | done | with_reducible rfl)
            try simp only [lay]
            refine' tk (i := 2) (v := _) rfl ?_ ?_
            rotate_left
            · (intro W hW; (try dsimp only at hW); go_simp; first | done | with_reducible rfl)
            try simp only [lay]
            refine' tk (i := 3) (v := _) rfl ?_ ?_
            rotate_left
            · (intro W hW; (try dsimp only at hW); go_simp; first | done | with_reducible rfl)
            try simp only [lay]
            refine' tk (i := 4) (v := _) rfl ?_ ?_
            rotate_left
            · (intro W hW; (try dsimp only at hW); go_simp; first | done | with_reducible rfl)
            try simp only [lay]
            refine' tk (i := 5) (v := _) rfl ?_ ?_
            rotate_left
            · (intro W hW; (try dsimp only at hW); obtain ⟨hW1, hW2⟩ := hW; go_simp; first | done | with_reducible rfl)
            try simp only [lay]
            refine pair_on (i := 6) (j := 11) rfl rfl (by kernel_rfl) (by rfl) (by rfl) (fun K hK => ?_) (fun K hK => ?_)
            · go_simp
              refine (HGT1.out _ (HBW.out _ hbd)).mono ?_
              rintro e x1 ⟨rfl, hbx1⟩
              have hX1 := hbd.trans (hbx1.mono hbd.size)
              refine hK.out _ _ ⟨(HCL.out _ hX1).1, (HCL.out _ hX1).2.2.1⟩ (fun hHeld => ?_)
              clear hK K
              try simp only [lay]
              refine' tk (i := 7) (v := _) rfl ?_ ?_
              rotate_left
              · (intro W hW; (try dsimp only at hW); go_simp; first | done | with_reducible rfl)
              try simp only [lay]
              refine' tk (i := 8) (v := _) rfl ?_ ?_
              rotate_left
              · (intro W hW; (try dsimp only at hW); go_simp; first | done | with_reducible rfl)
              try simp only [lay]
              refine' tk (i := 9) (v := _) rfl ?_ ?_
              rotate_left
              · (intro W hW; (try dsimp only at hW); go_simp; first | done | with_reducible rfl)
              try simp only [lay]
              refine' tk (i := 10) (v := _) rfl ?_ ?_
              rotate_left
              · (intro W hW; (try dsimp only at hW); go_simp; first | done | with_reducible rfl)
              try simp only [lay]
              have hbA := hX1.alloc hX1.size (.cells Z 40)
              have hbB := hX1.alloc hX1.size (.cells G1 40)
              have hs1 := se_var x1 HZS.out HGS1.out.1 HGS1.out.2
              refine call_on (i := 11) rfl (by kernel_rfl) (by rfl) (fun K hK => ?_)
              go_simp
              refine hK.out _ _ (⟨(HCL.out _ hbA).1, (HCL.out _ hbA).2.2.1⟩) (fun hHeld => ?_)
              clear hK K
              try simp only [lay]
              refine' tk (i := 12) (v := _) rfl ?_ ?_
              rotate_left
              · (intro W hW; (try dsimp only at hW); go_simp; first | done | with_reducible rfl)
              try simp only [lay]
              refine call_on (i := 13) rfl (by kernel_rfl) (by rfl) (fun K hK => ?_)
              go_simp
              refine hK.out _ _ (⟨(HCL.out _ hbB).1, (HCL.out _ hbB).2.2.1⟩) (fun hHeld => ?_)
              clear hK K
              try simp only [lay]
              refine' tk (i := 14) (v := _) rfl ?_ ?_
              rotate_left
              · (intro W hW; (try dsimp only at hW); go_simp; first | done | with_reducible rfl)
              try simp only [lay]
              refine wpAnyH_done (by kernel_rfl) ?_ _
              clear hHeld
              have HRR := hid (heap_alloc_new x1 (.cells G1 40))
              have HBB := hid hbB
              clear hbA hbB hs1 hal hbd hX1 hbx1
              go_wp2_with fail
              go_meet
              case rel => exact ⟨_, rfl, rfl, rfl, HRR.out, HBB.out⟩
            · go_simp
              have hbA := hbd.alloc hbd.size (.cells Z 40)
              have hrA := heap_alloc_new y0.drew (.cells Z 40)
              refine hK.out _ _ ⟨(HCL.out _ hbA).1, (HCL.out _ hbA).2.2.1⟩ (fun hHeld => ?_)
              clear hK K
              try simp only [lay]
              refine call_on (i := 6) rfl (by kernel_rfl) (by rfl) (fun K hK => ?_)
              go_simp
              refine (HGT1.out _ (HBW.out _ hbA)).mono ?_
              rintro e x1 ⟨rfl, hbx1⟩
              have hX1 := hbA.trans (hbx1.mono hbA.size)
              refine hK.out _ _ (⟨(HCL.out _ hX1).1, (HCL.out _ hX1).2.2.1⟩) (fun hHeld => ?_)
              clear hK K
              try simp only [lay]
              refine' tk (i := 7) (v := _) rfl ?_ ?_
              rotate_left
              · (intro W hW; (try dsimp only at hW); go_simp; first | done | with_reducible rfl)
              try simp only [lay]
              refine' tk (i := 8) (v := _) rfl ?_ ?_
              rotate_left
              · (intro W hW; (try dsimp only at hW); go_simp; first | done | with_reducible rfl)
              try simp only [lay]
              refine' tk (i := 9) (v := _) rfl ?_ ?_
              rotate_left
              · (intro W hW; (try dsimp only at hW); go_simp; first | done | with_reducible rfl)
              try simp only [lay]
              refine' tk (i := 10) (v := _) rfl ?_ ?_
              rotate_left
              · (intro W hW; (try dsimp only at hW); go_simp; first | done | with_reducible rfl)
              try simp only [lay]
              have hrX : x1.heap[y0.heap.size]? = some (.cells Z 40 (0, 0)) := (hbx1.block _ (lt_of_block hrA)).trans hrA
              have hs1 := storeSe_eq (C := G1) hrX HZS.out HGS1.out.1 HGS1.out.2
              have hbS := setSe_below (C := G1) hX1 (Nat.le_trans HW0.out.size (Nat.le_refl y0.heap.size))
              have hrS := setSe_same (C := G1) hrX
              refine' tk (i := 12) (v := _) rfl ?_ ?_
              rotate_left
              · (intro W hW; (try dsimp only at hW); go_simp; first | done | with_reducible rfl)
              try simp only [lay]
              refine call_on (i := 13) rfl (by kernel_rfl) (by rfl) (fun K hK => ?_)
              go_simp
              refine hK.out _ _ (⟨(HCL.out _ hbS).1, (HCL.out _ hbS).2.2.1⟩) (fun hHeld => ?_)
              clear hK K
              try simp only [lay]
              refine' tk (i := 14) (v := _) rfl ?_ ?_
              rotate_left
              · (intro W hW; (try dsimp only at hW); go_simp; first | done | with_reducible rfl)
              try simp only [lay]
              refine wpAnyH_done (by kernel_rfl) ?_ _
              clear hHeld
              have HRR := hid hrS
              have HBB := hid hbS
              clear hbA hrA hrX hbS hrS hs1 hal hbd hX1 hbx1
              go_wp2_with fail
              go_meet
              case rel => exact ⟨_, rfl, rfl, rfl, HRR.out, HBB.out⟩
          case rest =>
            obtain ⟨gx1, rfl, rfl, rfl, hrx1, hbx1⟩ := hcut
            have HR1 := hid hrx1
            have HW1 := hid hbx1
            clear hrx1 hbx1
            generalize wc = y1 at *
            obtain ⟨_, _, _, k3, _⟩ := HCL.out y1 HW1.out
            by_cases h1 : e1 = 0
            · have hq1 : (e1 == 0) = true := by simp [h1]
              by_cases h2 : n1 = n
              · have hq2 : (n1 == n) = true := by simp [h2]
                obtain ⟨rfl, rfl⟩ := HA4b.out HNO0.out h1 h2
                have ld := loadSe_row HR1.out HGS1.out.1
                clear h1 h2
                obtain ⟨hst, hrw, hbw⟩ := HEND.out y1 _ HW1.out HGS1.out.1 HGS1.out.2
                have HRW := hid hrw
                have HBB := hid hbw
                clear hrw hbw
                go_wp2_with fail
                try simp only [Exit.inBlock, Exit.then]
                refine bodyPost_ret (results_se2 rfl _ _ _ _ _ _ rfl rfl HRW.out HGS1.out.1) rfl ⟨rfl, HBB.out⟩
              · have HNO1 : Hid (¬ (e1 = 0 ∧ n1 = n)) := hid (fun h => h2 h.2)
                have hq2 : (n1 == n) = false := by simp [h2]
                obtain ⟨rfl, rfl⟩ := HA5b.out HNO0.out HNO1.out
                have hbz := HBZ.out
                clear h1
                obtain ⟨hst, hrw, hbw⟩ := HEND.out y1 _ HW1.out HZS.out HZ1.out
                have HRW := hid hrw
                have HBB := hid hbw
                clear hrw hbw
                go_wp2_with fail
                rw [rounds_succ]
                go_wp2_with fail
                try simp only [Exit.inBlock, Exit.then]
                refine bodyPost_ret (results_se2 rfl _ _ _ _ _ _ rfl rfl HRW.out HZS.out) rfl ⟨rfl, HBB.out⟩
            · have HNO1 : Hid (¬ (e1 = 0 ∧ n1 = n)) := hid (fun h => h1 h.1)
              have hq1 : (e1 == 0) = false := by simp [h1]
              obtain ⟨rfl, rfl⟩ := HA5b.out HNO0.out HNO1.out
              have hbz := HBZ.out
              clear h1
              obtain ⟨hst, hrw, hbw⟩ := HEND.out y1 _ HW1.out HZS.out HZ1.out
              have HRW := hid hrw
              have HBB := hid hbw
              clear hrw hbw
              go_wp2_with fail
              rw [rounds_succ]
              go_wp2_with fail
              try simp only [Exit.inBlock, Exit.then]
              refine bodyPost_ret (results_se2 rfl _ _ _ _ _ _ rfl rfl HRW.out HZS.out) rfl ⟨rfl, HBB.out⟩
      · have HNO0 : Hid (¬ (e0 = 0 ∧ n0 = n)) := hid (fun h => h1 h.1)
        have hq1 : (e0 == 0) = false := by simp [h1]
        clear h1
        go_wp2_with fail
        rw [rounds_succ]
        clear k3
        obtain ⟨k0, _, k2, _, _⟩ := HCL.out y0 HW0.out
        go_upto_region 8 with (fail)
        go_cut [5, 6, 7] from 8 (fun s5 s6 s7 wx => ∃ gx, s5 = .int .i64 n1 ∧ s6 = .pointer (some ⟨gx, 0, none⟩) ∧ s7 = .int .i64 e1 ∧ wx.heap[gx]? = some (.cells G1 40 (0, 0)) ∧ Below w0.heap.size w0 wx)
        case first =>
          have hbd := HW0.out.drew
          have hal := HAL.out
          refine wp_region_held_drew (S := fun W => W.cell? ⟨w.heap.size, 0, none⟩ = some (.int .i64 V.i) ∧ W.cell? ⟨w.heap.size, 2, none⟩ = some (.slice A1 L1 d1)) (by kernel_rfl) ⟨(HCL.out _ hbd).1, (HCL.out _ hbd).2.2.1⟩ (fun hHeld => ?_)
          refine' tk (i := 0) (v := _) rfl ?_ ?_
          rotate_left
          · (intro W hW; (try dsimp only at hW); go_simp; first | done | with_reducible rfl)
          try simp only [lay]
          refine' tk (i := 1) (v := _) rfl ?_ ?_
          rotate_left
          · (intro W hW; (try dsimp only at hW); obtain ⟨hW1, hW2⟩ := hW; go_simp; first | done | with_reducible rfl)
          try simp only [lay]
          refine' tk (i := 2) (v := _) rfl ?_ ?_
          rotate_left
          · (intro W hW; (try dsimp only at hW); go_simp; first | done | with_reducible rfl)
          try simp only [lay]
          refine' tk (i := 3) (v := _) rfl ?_ ?_
          rotate_left
          · (intro W hW; (try dsimp only at hW); go_simp; first | done | with_reducible rfl)
          try simp only [lay]
          refine' tk (i := 4) (v := _) rfl ?_ ?_
          rotate_left
          · (intro W hW; (try dsimp only at hW); go_simp; first | done | with_reducible rfl)
          try simp only [lay]
          refine' tk (i := 5) (v := _) rfl ?_ ?_
          rotate_left
          · (intro W hW; (try dsimp only at hW); obtain ⟨hW1, hW2⟩ := hW; go_simp; first | done | with_reducible rfl)
          try simp only [lay]
          refine pair_on (i := 6) (j := 11) rfl rfl (by kernel_rfl) (by rfl) (by rfl) (fun K hK => ?_) (fun K hK => ?_)
          · go_simp
            refine (HGT1.out _ (HBW.out _ hbd)).mono ?_
            rintro e x1 ⟨rfl, hbx1⟩
            have hX1 := hbd.trans (hbx1.mono hbd.size)
            refine hK.out _ _ ⟨(HCL.out _ hX1).1, (HCL.out _ hX1).2.2.1⟩ (fun hHeld => ?_)
            clear hK K
            try simp only [lay]
            refine' tk (i := 7) (v := _) rfl ?_ ?_
            rotate_left
            · (intro W hW; (try dsimp only at hW); go_simp; first | done | with_reducible rfl)
            try simp only [lay]
            refine' tk (i := 8) (v := _) rfl ?_ ?_
            rotate_left
            · (intro W hW; (try dsimp only at hW); go_simp; first | done | with_reducible rfl)
            try simp only [lay]
            refine' tk (i := 9) (v := _) rfl ?_ ?_
            rotate_left
            · (intro W hW; (try dsimp only at hW); go_simp; first | done | with_reducible rfl)
            try simp only [lay]
            refine' tk (i := 10) (v := _) rfl ?_ ?_
            rotate_left
            · (intro W hW; (try dsimp only at hW); go_simp; first | done | with_reducible rfl)
            try simp only [lay]
            have hbA := hX1.alloc hX1.size (.cells Z 40)
            have hbB := hX1.alloc hX1.size (.cells G1 40)
            have hs1 := se_var x1 HZS.out HGS1.out.1 HGS1.out.2
            refine call_on (i := 11) rfl (by kernel_rfl) (by rfl) (fun K hK => ?_)
            go_simp
            refine hK.out _ _ (⟨(HCL.out _ hbA).1, (HCL.out _ hbA).2.2.1⟩) (fun hHeld => ?_)
            clear hK K
            try simp only [lay]
            refine' tk (i := 12) (v := _) rfl ?_ ?_
            rotate_left
            · (intro W hW; (try dsimp only at hW); go_simp; first | done | with_reducible rfl)
            try simp only [lay]
            refine call_on (i := 13) rfl (by kernel_rfl) (by rfl) (fun K hK => ?_)
            go_simp
            refine hK.out _ _ (⟨(HCL.out _ hbB).1, (HCL.out _ hbB).2.2.1⟩) (fun hHeld => ?_)
            clear hK K
            try simp only [lay]
            refine' tk (i := 14) (v := _) rfl ?_ ?_
            rotate_left
            · (intro W hW; (try dsimp only at hW); go_simp; first | done | with_reducible rfl)
            try simp only [lay]
            refine wpAnyH_done (by kernel_rfl) ?_ _
            clear hHeld
            have HRR := hid (heap_alloc_new x1 (.cells G1 40))
            have HBB := hid hbB
            clear hbA hbB hs1 hal hbd hX1 hbx1
            go_wp2_with fail
            go_meet
            case rel => exact ⟨_, rfl, rfl, rfl, HRR.out, HBB.out⟩
          · go_simp
            have hbA := hbd.alloc hbd.size (.cells Z 40)
            have hrA := heap_alloc_new y0.drew (.cells Z 40)
            refine hK.out _ _ ⟨(HCL.out _ hbA).1, (HCL.out _ hbA).2.2.1⟩ (fun hHeld => ?_)
            clear hK K
            try simp only [lay]
            refine call_on (i := 6) rfl (by kernel_rfl) (by rfl) (fun K hK => ?_)
            go_simp
            refine (HGT1.out _ (HBW.out _ hbA)).mono ?_
            rintro e x1 ⟨rfl, hbx1⟩
            have hX1 := hbA.trans (hbx1.mono hbA.size)
            refine hK.out _ _ (⟨(HCL.out _ hX1).1, (HCL.out _ hX1).2.2.1⟩) (fun hHeld => ?_)
            clear hK K
            try simp only [lay]
            refine' tk (i := 7) (v := _) rfl ?_ ?_
            rotate_left
            · (intro W hW; (try dsimp only at hW); go_simp; first | done | with_reducible rfl)
            try simp only [lay]
            refine' tk (i := 8) (v := _) rfl ?_ ?_
            rotate_left
            · (intro W hW; (try dsimp only at hW); go_simp; first | done | with_reducible rfl)
            try simp only [lay]
            refine' tk (i := 9) (v := _) rfl ?_ ?_
            rotate_left
            · (intro W hW; (try dsimp only at hW); go_simp; first | done | with_reducible rfl)
            try simp only [lay]
            refine' tk (i := 10) (v := _) rfl ?_ ?_
            rotate_left
            · (intro W hW; (try dsimp only at hW); go_simp; first | done | with_reducible rfl)
            try simp only [lay]
            have hrX : x1.heap[y0.heap.size]? = some (.cells Z 40 (0, 0)) := (hbx1.block _ (lt_of_block hrA)).trans hrA
            have hs1 := storeSe_eq (C := G1) hrX HZS.out HGS1.out.1 HGS1.out.2
            have hbS := setSe_below (C := G1) hX1 (Nat.le_trans HW0.out.size (Nat.le_refl y0.heap.size))
            have hrS := setSe_same (C := G1) hrX
            refine' tk (i := 12) (v := _) rfl ?_ ?_
            rotate_left
            · (intro W hW; (try dsimp only at hW); go_simp; first | done | with_reducible rfl)
            try simp only [lay]
            refine call_on (i := 13) rfl (by kernel_rfl) (by rfl) (fun K hK => ?_)
            go_simp
            refine hK.out _ _ (⟨(HCL.out _ hbS).1, (HCL.out _ hbS).2.2.1⟩) (fun hHeld => ?_)
            clear hK K
            try simp only [lay]
            refine' tk (i := 14) (v := _) rfl ?_ ?_
            rotate_left
            · (intro W hW; (try dsimp only at hW); go_simp; first | done | with_reducible rfl)
            try simp only [lay]
            refine wpAnyH_done (by kernel_rfl) ?_ _
            clear hHeld
            have HRR := hid hrS
            have HBB := hid hbS
            clear hbA hrA hrX hbS hrS hs1 hal hbd hX1 hbx1
            go_wp2_with fail
            go_meet
            case rel => exact ⟨_, rfl, rfl, rfl, HRR.out, HBB.out⟩
        case rest =>
          obtain ⟨gx1, rfl, rfl, rfl, hrx1, hbx1⟩ := hcut
          have HR1 := hid hrx1
          have HW1 := hid hbx1
          clear hrx1 hbx1
          generalize wc = y1 at *
          obtain ⟨_, _, _, k3, _⟩ := HCL.out y1 HW1.out
          by_cases h1 : e1 = 0
          · have hq1 : (e1 == 0) = true := by simp [h1]
            by_cases h2 : n1 = n
            · have hq2 : (n1 == n) = true := by simp [h2]
              obtain ⟨rfl, rfl⟩ := HA4b.out HNO0.out h1 h2
              have ld := loadSe_row HR1.out HGS1.out.1
              clear h1 h2
              obtain ⟨hst, hrw, hbw⟩ := HEND.out y1 _ HW1.out HGS1.out.1 HGS1.out.2
              have HRW := hid hrw
              have HBB := hid hbw
              clear hrw hbw
              go_wp2_with fail
              try simp only [Exit.inBlock, Exit.then]
              refine bodyPost_ret (results_se2 rfl _ _ _ _ _ _ rfl rfl HRW.out HGS1.out.1) rfl ⟨rfl, HBB.out⟩
            · have HNO1 : Hid (¬ (e1 = 0 ∧ n1 = n)) := hid (fun h => h2 h.2)
              have hq2 : (n1 == n) = false := by simp [h2]
              obtain ⟨rfl, rfl⟩ := HA5b.out HNO0.out HNO1.out
              have hbz := HBZ.out
              clear h1
              obtain ⟨hst, hrw, hbw⟩ := HEND.out y1 _ HW1.out HZS.out HZ1.out
              have HRW := hid hrw
              have HBB := hid hbw
              clear hrw hbw
              go_wp2_with fail
              rw [rounds_succ]
              go_wp2_with fail
              try simp only [Exit.inBlock, Exit.then]
              refine bodyPost_ret (results_se2 rfl _ _ _ _ _ _ rfl rfl HRW.out HZS.out) rfl ⟨rfl, HBB.out⟩
          · have HNO1 : Hid (¬ (e1 = 0 ∧ n1 = n)) := hid (fun h => h1 h.1)
            have hq1 : (e1 == 0) = false := by simp [h1]
            obtain ⟨rfl, rfl⟩ := HA5b.out HNO0.out HNO1.out
            have hbz := HBZ.out
            clear h1
            obtain ⟨hst, hrw, hbw⟩ := HEND.out y1 _ HW1.out HZS.out HZ1.out
            have HRW := hid hrw
            have HBB := hid hbw
            clear hrw hbw
            go_wp2_with fail
            rw [rounds_succ]
            go_wp2_with fail
            try simp only [Exit.inBlock, Exit.then]
            refine bodyPost_ret (results_se2 rfl _ _ _ _ _ _ rfl rfl HRW.out HZS.out) rfl ⟨rfl, HBB.out⟩
end Go.Proofs.YtghophbabbaleaaGreatDoor
