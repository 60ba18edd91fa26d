/-
  vault.Load. Printed with genvcode.py.
-/
import Derived.Test.YtghophbabbaleaaGreatDoorBs12
import Derived.Test.YtghophbabbaleaaGreatDoorBs13
import Derived.Test.YtghophbabbaleaaGreatDoorVaCodeBits
namespace Go.Proofs.YtghophbabbaleaaGreatDoor
set_option maxRecDepth 20000
open Go.RowKit
attribute [local go_sem ↓] exec_load_se exec_alloc_se exec_store_se exec_build_se
theorem results_se2 {fn : Func} {q s : Tmp} (h : fn.results = #[.cell q 40, .tmp s]) (tmps : Array Value) (w : World) (g2 : Nat) (t2 : TypeId) (ys : Array Value) (v : Value)
    (hq : tmps.getD q undef = .pointer (some ⟨g2, 0, none⟩)) (hv : tmps.getD s undef = v) (h2 : w.heap[g2]? = some (.cells ys t2 (0, 0))) (hy : ys.size = 35) :
    (results fn tmps).run Tryz.prog w = .ok (.tuple #[.agg ys, v]) w := by
  have hq' : tmps[q]?.getD undef = .pointer (some ⟨g2, 0, none⟩) := by simpa using hq
  have hv' : tmps[s]?.getD undef = v := by simpa using hv
  have r2 := run_loadVar_row (P := Tryz.prog) w g2 t2 40 ys (0, 0) _ h2 under_se rfl (by rw [size_se, hy])
  simp [results, h, hq', hv', asAddr, r2]
section
variable {w : World} {b c a : Nat} {V : VaM} {v0 v1 vt : Value}
theorem vLoad_no {v : Value} (h : NoVlt w v) : Calls Tryz.prog 20 #[v] w fun e w' => e = .returned (.tuple #[.agg (sec seZ), .int .i64 5]) ∧ Below w.heap.size w w' := by
  have hb0 : Below w.heap.size w (w.alloc (.cells (sec seZ) 40)) := (Below.refl _ _).alloc (Nat.le_refl _) _
  have HM := hid (vfault_no (h.below hb0))
  have hr0 := heap_alloc_new w (.cells (sec seZ) 40)
  obtain ⟨Z, HZ⟩ : ∃ C : Array Value, Hid (sec seZ = C) := ⟨_, hid rfl⟩
  have HZS : Hid (Z.size = 35) := hid (by rw [← HZ.out]; exact sec_size seZ_ok)
  have HZ1 : Hid (Z.all (·.oneCell') = true) := hid (by rw [← HZ.out]; exact sec_one _)
  have hal : allocSe w = .ok (.value (.pointer (some ⟨w.heap.size, 0, none⟩))) (w.alloc (.cells Z 40)) := by rw [← HZ.out]; exact allocSe_eq w
  have hbz : ∀ W, buildSe W = .ok (.value (.agg Z)) W := fun W => by rw [← HZ.out]; exact buildSe_eq W
  rw [HZ.out] at hb0 HM hr0 ⊢
  have hst := storeSe_eq hr0 HZS.out HZS.out HZ1.out
  have HR0 := hid (setSe_same (C := Z) hr0)
  have HB := hid (setSe_below (C := Z) hb0 (Nat.le_refl _))
  clear h HZ hr0 hb0
  go_enter Tryz.func20, Tryz.ntmps20
  go_upto_region 1 with (fail)
  clear hal
  generalize (w.alloc (.cells Z 40)) = w0 at *
  go_wp2_with fail
  refine HM.out.mono ?_
  rintro e w1 ⟨rfl, rfl⟩
  go_wp2_with fail
  try simp only [Exit.inBlock, Exit.then]
  refine bodyPost_ret (results_se2 rfl _ _ _ _ _ _ rfl rfl HR0.out HZS.out) rfl ⟨rfl, HB.out⟩
set_option maxHeartbeats 6400000 in
theorem vLoad_any (h : Vlt w b c a V) (g : V.Good) (hK : Kst 1 w) :
    Calls Tryz.prog 20 #[.pointer (some ⟨b, 0, none⟩)] w fun e w' => e = .returned (.tuple #[.agg (sec (loadS V)), .int .i64 (loadE V)]) ∧ Below w.heap.size w w' := by
  obtain ⟨v0, v1, vt, h⟩ := h
  have hb0 : Below w.heap.size w (w.alloc (.cells (sec seZ) 40)) := (Below.refl _ _).alloc (Nat.le_refl _) _
  have hr0 := heap_alloc_new w (.cells (sec seZ) 40)
  have HV : Hid (∀ W, Below w.heap.size w W → VltE W b c a V v0 v1 vt) := hid (fun W hb => h.below hb)
  have hi := g.i
  unfold nodeB at hi
  rw [decide_eq_true_eq] at hi
  have HIW : Hid ((Lit.int .i64 V.i).wf = true) := hid (by simp [Lit.wf, IntKind.min, IntKind.max, IntKind.signed, IntKind.bits]; omega)
  obtain ⟨n0, HN0⟩ : ∃ x, Hid ((getB V.i V.s0).1 = x) := ⟨_, hid rfl⟩
  obtain ⟨G0, HG0⟩ : ∃ x, Hid (sec (getB V.i V.s0).2.1 = x) := ⟨_, hid rfl⟩
  obtain ⟨e0, HE0⟩ : ∃ x, Hid ((getB V.i V.s0).2.2 = x) := ⟨_, hid rfl⟩
  have HGS0 : Hid (G0.size = 35 ∧ G0.all (·.oneCell') = true) := hid (by rw [← HG0.out]; exact ⟨sec_size (getB_ok' _ _), sec_one _⟩)
  have HGT0 : Hid (∀ W, Below w.heap.size w W → Calls Tryz.prog 47 #[.int .i64 V.i, v0] W fun e w' => e = .returned (.tuple #[.int .i64 n0, .agg G0, .int .i64 e0]) ∧ Below W.heap.size W w') := hid (fun W hb => by
    have := seGet_ok V.i v0 V.s0 W HIW.out (h.y0.byt.below hb) (by have := g.l0; omega) (hK.below hb)
    rw [HN0.out, HG0.out, HE0.out] at this
    exact this)
  obtain ⟨n1, HN1⟩ : ∃ x, Hid ((getB V.i V.s1).1 = x) := ⟨_, hid rfl⟩
  obtain ⟨G1, HG1⟩ : ∃ x, Hid (sec (getB V.i V.s1).2.1 = x) := ⟨_, hid rfl⟩
  obtain ⟨e1, HE1⟩ : ∃ x, Hid ((getB V.i V.s1).2.2 = x) := ⟨_, hid rfl⟩
  have HGS1 : Hid (G1.size = 35 ∧ G1.all (·.oneCell') = true) := hid (by rw [← HG1.out]; exact ⟨sec_size (getB_ok' _ _), sec_one _⟩)
  have HGT1 : Hid (∀ W, Below w.heap.size w W → Calls Tryz.prog 47 #[.int .i64 V.i, v1] W fun e w' => e = .returned (.tuple #[.int .i64 n1, .agg G1, .int .i64 e1]) ∧ Below W.heap.size W w') := hid (fun W hb => by
    have := seGet_ok V.i v1 V.s1 W HIW.out (h.y1.byt.below hb) (by have := g.l1; omega) (hK.below hb)
    rw [HN1.out, HG1.out, HE1.out] at this
    exact this)
  obtain ⟨Z, HZ⟩ : ∃ C : Array Value, Hid (sec seZ = C) := ⟨_, hid rfl⟩
  have HZS : Hid (Z.size = 35) := hid (by rw [← HZ.out]; exact sec_size seZ_ok)
  have HZ1 : Hid (Z.all (·.oneCell') = true) := hid (by rw [← HZ.out]; exact sec_one _)
  have HAL : Hid (∀ W, allocSe W = .ok (.value (.pointer (some ⟨W.heap.size, 0, none⟩))) (W.alloc (.cells Z 40))) := hid (fun W => by rw [← HZ.out]; exact allocSe_eq W)
  have HBZ : Hid (∀ W, buildSe W = .ok (.value (.agg Z)) W) := hid (fun W => by rw [← HZ.out]; exact buildSe_eq W)
  obtain ⟨S, HS⟩ : ∃ C : Array Value, Hid (sec (loadS V) = C) := ⟨_, hid rfl⟩
  obtain ⟨E, HE⟩ : ∃ C : Int, Hid (loadE V = C) := ⟨_, hid rfl⟩
  have HA1 : Hid (V.dead = true → S = Z ∧ E = 6) := hid (fun hd => by
    rw [← HS.out, ← HE.out, ← HZ.out]
    obtain ⟨q1, q2⟩ := load_dead hd
    rw [q1, q2]
    exact ⟨rfl, rfl⟩)
  have HA2 : Hid (V.dead = false → V.n = 0 → S = Z ∧ E = 0) := hid (fun hd hn => by
    rw [← HS.out, ← HE.out, ← HZ.out]
    unfold loadS loadE
    have hd' : ¬ V.dead = true := by rw [hd]; decide
    rw [if_neg hd', if_neg hd', if_pos hn, if_pos hn]
    exact ⟨rfl, rfl⟩)
  have HA3 : Hid (V.dead = false → ¬ V.n = 0 → e0 = 0 → n0 = V.n → S = G0 ∧ E = 0) := hid (fun hd hn h1 h2 => by
    have hh : hitB V.i V.n V.s0 = true := by unfold hitB; rw [HE0.out, HN0.out, decide_eq_true h1, decide_eq_true h2]; rfl
    rw [← HS.out, ← HE.out, ← HG0.out]
    unfold loadS loadE
    have hd' : ¬ V.dead = true := by rw [hd]; decide
    rw [if_neg hd', if_neg hd', if_neg hn, if_neg hn, if_pos hh, if_pos hh]
    exact ⟨rfl, rfl⟩)
  have HA4 : Hid (V.dead = false → ¬ V.n = 0 → ¬ (e0 = 0 ∧ n0 = V.n) → e1 = 0 → n1 = V.n → S = G1 ∧ E = 0) := hid (fun hd hn h0 h1 h2 => by
    have hh : hitB V.i V.n V.s1 = true := by unfold hitB; rw [HE1.out, HN1.out, decide_eq_true h1, decide_eq_true h2]; rfl
    have hg : ¬ hitB V.i V.n V.s0 = true := by unfold hitB; rw [HE0.out, HN0.out]; simpa using h0
    rw [← HS.out, ← HE.out, ← HG1.out]
    unfold loadS loadE
    have hd' : ¬ V.dead = true := by rw [hd]; decide
    rw [if_neg hd', if_neg hd', if_neg hn, if_neg hn, if_neg hg, if_neg hg, if_pos hh, if_pos hh]
    exact ⟨rfl, rfl⟩)
  have HA5 : Hid (V.dead = false → ¬ V.n = 0 → ¬ (e0 = 0 ∧ n0 = V.n) → ¬ (e1 = 0 ∧ n1 = V.n) → S = Z ∧ E = 8) := hid (fun hd hn h0 h1 => by
    have hh : ¬ hitB V.i V.n V.s1 = true := by unfold hitB; rw [HE1.out, HN1.out]; simpa using h1
    have hg : ¬ hitB V.i V.n V.s0 = true := by unfold hitB; rw [HE0.out, HN0.out]; simpa using h0
    rw [← HS.out, ← HE.out, ← HZ.out]
    unfold loadS loadE
    have hd' : ¬ V.dead = true := by rw [hd]; decide
    rw [if_neg hd', if_neg hd', if_neg hn, if_neg hn, if_neg hg, if_neg hg, if_neg hh, if_neg hh]
    exact ⟨rfl, rfl⟩)
  rw [HZ.out] at hb0 hr0
  rw [HS.out, HE.out]
  have HF : Hid (∀ W, Below w.heap.size w W → Calls Tryz.prog 39 #[.pointer (some ⟨b, 0, none⟩)] W fun e w' => e = .returned (.int .i64 (if V.dead = true then 6 else 0)) ∧ W = w') := hid (fun W hb => vfault_any (HV.out W hb))
  have HCT : Hid (∀ W, Below w.heap.size w W → Calls Tryz.prog 41 #[.pointer (some ⟨c, 0, none⟩)] W fun e w' => e = .returned (.int .i64 V.n) ∧ W = w') := hid (fun W hb => vcount_any (HV.out W hb) g)
  have HR0 : Hid (∀ W, Below (w.heap.size + 1) (w.alloc (.cells Z 40)) W → W.heap[w.heap.size]? = some (.cells Z 40 (0, 0))) := hid (fun W hb => (hb.block _ (Nat.lt_succ_self _)).trans hr0)
  have HEND : Hid (∀ W C, Below (w.heap.size + 1) (w.alloc (.cells Z 40)) W → C.size = 35 → C.all (·.oneCell') = true → storeSe (.pointer (some ⟨w.heap.size, 0, none⟩)) (.agg C) W = .ok .skip (setSe W w.heap.size C) ∧ (setSe W w.heap.size C).heap[w.heap.size]? = some (.cells C 40 (0, 0)) ∧ Below w.heap.size w (setSe W w.heap.size C)) := hid (fun W C hb h1 h2 =>
    ⟨storeSe_eq (HR0.out W hb) HZS.out h1 h2, setSe_same (HR0.out W hb), setSe_below (hb0.trans (hb.mono (Nat.le_succ _))) (Nat.le_refl _)⟩)
  have HBW : Hid (∀ W, Below (w.heap.size + 1) (w.alloc (.cells Z 40)) W → Below w.heap.size w W) := hid (fun W hb => hb0.trans (hb.mono (Nat.le_succ _)))
  have HB0 : Hid (Below (w.heap.size + 1) (w.alloc (.cells Z 40)) (w.alloc (.cells Z 40))) := hid (Below.refl _ _)
  have HSZ0 : Hid (w.heap.size + 1 ≤ (w.alloc (.cells Z 40)).heap.size) := hid (by simp)
  have HYS : Hid ((∃ A d, v0 = .slice A V.s0.length d) ∧ (∃ A d, v1 = .slice A V.s1.length d)) := hid ⟨h.y0.shape, h.y1.shape⟩
  obtain ⟨dd, hdd⟩ : ∃ q : Bool, V.dead = q := ⟨_, rfl⟩
  rw [hdd] at HA1 HA2 HA3 HA4 HA5 HF
  have hal := HAL.out w
  clear h g hK hi hb0 hr0 hdd HN0 HN1 HG0 HG1 HE0 HE1 HS HE HZ HIW HR0
  go_enter Tryz.func20, Tryz.ntmps20
  go_upto_region 1 with (fail)
  clear hal
  generalize (w.alloc (.cells Z 40)) = w0 at *
  go_wp2_with fail
  refine (HF.out w0 (HBW.out _ HB0.out)).mono ?_
  rintro e w1 ⟨rfl, rfl⟩
  cases dd with
  | true =>
    obtain ⟨rfl, rfl⟩ := HA1.out rfl
    rw [if_pos rfl]
    have hbz := HBZ.out
    obtain ⟨hst, hrw, hbw⟩ := HEND.out w0 _ HB0.out HZS.out HZ1.out
    have HRW := hid hrw
    have HBB := hid hbw
    clear hrw hbw
    go_wp2_with fail
    try simp only [Exit.inBlock, Exit.then]
    refine bodyPost_ret (results_se2 rfl _ _ _ _ _ _ rfl rfl HRW.out HZS.out) rfl ⟨rfl, HBB.out⟩
  | false =>
    have HA2a := hid (HA2.out rfl)
    have HA3a := hid (HA3.out rfl)
    have HA4a := hid (HA4.out rfl)
    have HA5a := hid (HA5.out rfl)
    clear HA1 HA2 HA3 HA4 HA5
    rw [if_neg (by decide)]
    obtain ⟨_, _, _, c3, _, _, _⟩ := (HV.out w0 (HBW.out _ HB0.out)).cells
    go_wp2_with fail
    refine (HCT.out w0 (HBW.out _ HB0.out)).mono ?_
    rintro e w1 ⟨rfl, rfl⟩
    clear c3
    by_cases hn : V.n = 0
    · obtain ⟨rfl, rfl⟩ := HA2a.out hn
      have hbz := HBZ.out
      obtain ⟨hst, hrw, hbw⟩ := HEND.out w0 _ HB0.out HZS.out HZ1.out
      have HRW := hid hrw
      have HBB := hid hbw
      clear hrw hbw
      go_wp2_with fail
      try simp only [Exit.inBlock, Exit.then]
      refine bodyPost_ret (results_se2 rfl _ _ _ _ _ _ rfl rfl HRW.out HZS.out) rfl ⟨rfl, HBB.out⟩
    have HA3b := hid (HA3a.out hn)
    have HA4b := hid (HA4a.out hn)
    have HA5b := hid (HA5a.out hn)
    clear HA2a HA3a HA4a HA5a
    obtain ⟨_, c1, c2, _, _, _, _⟩ := (HV.out w0 (HBW.out _ HB0.out)).cells
    obtain ⟨⟨A0, d0, rfl⟩, A1, d1, rfl⟩ := HYS.out
    generalize V.s0.length = L0 at *
    generalize V.s1.length = L1 at *
    go_wp2_with fail
    clear hn c1 c2
    generalize hnn : V.n = n at *
    clear hnn
    have qI := fun W => idx_two (.slice A0 L0 d0) (.slice A1 L1 d1) W
    refine wp_loop_rounds 3 ?_
    rw [rounds_succ]
    obtain ⟨c0, _, _, _, _, _, _⟩ := (HV.out w0 (HBW.out _ HB0.out)).cells
    go_wp2_with fail
    clear c0
    refine (HGT0.out w0 (HBW.out _ HB0.out)).mono ?_
    rintro e x0 ⟨rfl, hbx0⟩
    have hal := HAL.out
    have hs0 := se_var x0 HZS.out HGS0.out.1 HGS0.out.2
    have HX0 := hid (HB0.out.trans (hbx0.mono (Nat.le_trans HSZ0.out HB0.out.size)))
    have HY0 := hid (HX0.out.alloc (Nat.le_trans HSZ0.out HX0.out.size) (.cells G0 40))
    have HR0 := hid (heap_alloc_new x0 (.cells G0 40))
    clear hbx0
    go_upto_region 11 with (fail)
    clear hal hs0
    generalize (x0.alloc (.cells G0 40)) = y0 at *
    by_cases h1 : e0 = 0
    · by_cases h2 : n0 = n
      · obtain ⟨rfl, rfl⟩ := HA3b.out  h1 h2
        have ld := loadSe_row HR0.out HGS0.out.1
        obtain ⟨hst, hrw, hbw⟩ := HEND.out y0 _ HY0.out HGS0.out.1 HGS0.out.2
        have HRW := hid hrw
        have HBB := hid hbw
        clear hrw hbw
        go_wp2_with fail
        try simp only [Exit.inBlock, Exit.then]
        refine bodyPost_ret (results_se2 rfl _ _ _ _ _ _ rfl rfl HRW.out HGS0.out.1) rfl ⟨rfl, HBB.out⟩
      · have HNO0 : Hid (¬ (e0 = 0 ∧ n0 = n)) := hid (fun h => h2 h.2)
        go_wp2_with fail
        rw [rounds_succ]
        obtain ⟨c0, _, _, _, _, _, _⟩ := (HV.out y0 (HBW.out _ HY0.out)).cells
        go_wp2_with fail
        clear c0
        refine (HGT1.out y0 (HBW.out _ HY0.out)).mono ?_
        rintro e x1 ⟨rfl, hbx1⟩
        have hal := HAL.out
        have hs1 := se_var x1 HZS.out HGS1.out.1 HGS1.out.2
        have HX1 := hid (HY0.out.trans (hbx1.mono (Nat.le_trans HSZ0.out HY0.out.size)))
        have HY1 := hid (HX1.out.alloc (Nat.le_trans HSZ0.out HX1.out.size) (.cells G1 40))
        have HR1 := hid (heap_alloc_new x1 (.cells G1 40))
        clear hbx1
        go_upto_region 11 with (fail)
        clear hal hs1
        generalize (x1.alloc (.cells G1 40)) = y1 at *
        by_cases h1 : e1 = 0
        · by_cases h2 : n1 = n
          · obtain ⟨rfl, rfl⟩ := HA4b.out HNO0.out h1 h2
            have ld := loadSe_row HR1.out HGS1.out.1
            obtain ⟨hst, hrw, hbw⟩ := HEND.out y1 _ HY1.out HGS1.out.1 HGS1.out.2
            have HRW := hid hrw
            have HBB := hid hbw
            clear hrw hbw
            go_wp2_with fail
            try simp only [Exit.inBlock, Exit.then]
            refine bodyPost_ret (results_se2 rfl _ _ _ _ _ _ rfl rfl HRW.out HGS1.out.1) rfl ⟨rfl, HBB.out⟩
          · have HNO1 : Hid (¬ (e1 = 0 ∧ n1 = n)) := hid (fun h => h2 h.2)
            obtain ⟨rfl, rfl⟩ := HA5b.out HNO0.out HNO1.out
            have hbz := HBZ.out
            obtain ⟨hst, hrw, hbw⟩ := HEND.out y1 _ HY1.out HZS.out HZ1.out
            have HRW := hid hrw
            have HBB := hid hbw
            clear hrw hbw
            go_wp2_with fail
            rw [rounds_succ]
            go_wp2_with fail
            try simp only [Exit.inBlock, Exit.then]
            refine bodyPost_ret (results_se2 rfl _ _ _ _ _ _ rfl rfl HRW.out HZS.out) rfl ⟨rfl, HBB.out⟩
        · have HNO1 : Hid (¬ (e1 = 0 ∧ n1 = n)) := hid (fun h => h1 h.1)
          obtain ⟨rfl, rfl⟩ := HA5b.out HNO0.out HNO1.out
          have hbz := HBZ.out
          obtain ⟨hst, hrw, hbw⟩ := HEND.out y1 _ HY1.out HZS.out HZ1.out
          have HRW := hid hrw
          have HBB := hid hbw
          clear hrw hbw
          go_wp2_with fail
          rw [rounds_succ]
          go_wp2_with fail
          try simp only [Exit.inBlock, Exit.then]
          refine bodyPost_ret (results_se2 rfl _ _ _ _ _ _ rfl rfl HRW.out HZS.out) rfl ⟨rfl, HBB.out⟩
    · have HNO0 : Hid (¬ (e0 = 0 ∧ n0 = n)) := hid (fun h => h1 h.1)
      go_wp2_with fail
      rw [rounds_succ]
      obtain ⟨c0, _, _, _, _, _, _⟩ := (HV.out y0 (HBW.out _ HY0.out)).cells
      go_wp2_with fail
      clear c0
      refine (HGT1.out y0 (HBW.out _ HY0.out)).mono ?_
      rintro e x1 ⟨rfl, hbx1⟩
      have hal := HAL.out
      have hs1 := se_var x1 HZS.out HGS1.out.1 HGS1.out.2
      have HX1 := hid (HY0.out.trans (hbx1.mono (Nat.le_trans HSZ0.out HY0.out.size)))
      have HY1 := hid (HX1.out.alloc (Nat.le_trans HSZ0.out HX1.out.size) (.cells G1 40))
      have HR1 := hid (heap_alloc_new x1 (.cells G1 40))
      clear hbx1
      go_upto_region 11 with (fail)
      clear hal hs1
      generalize (x1.alloc (.cells G1 40)) = y1 at *
      by_cases h1 : e1 = 0
      · by_cases h2 : n1 = n
        · obtain ⟨rfl, rfl⟩ := HA4b.out HNO0.out h1 h2
          have ld := loadSe_row HR1.out HGS1.out.1
          obtain ⟨hst, hrw, hbw⟩ := HEND.out y1 _ HY1.out HGS1.out.1 HGS1.out.2
          have HRW := hid hrw
          have HBB := hid hbw
          clear hrw hbw
          go_wp2_with fail
          try simp only [Exit.inBlock, Exit.then]
          refine bodyPost_ret (results_se2 rfl _ _ _ _ _ _ rfl rfl HRW.out HGS1.out.1) rfl ⟨rfl, HBB.out⟩
        · have HNO1 : Hid (¬ (e1 = 0 ∧ n1 = n)) := hid (fun h => h2 h.2)
          obtain ⟨rfl, rfl⟩ := HA5b.out HNO0.out HNO1.out
          have hbz := HBZ.out
          obtain ⟨hst, hrw, hbw⟩ := HEND.out y1 _ HY1.out HZS.out HZ1.out
          have HRW := hid hrw
          have HBB := hid hbw
          clear hrw hbw
          go_wp2_with fail
          rw [rounds_succ]
          go_wp2_with fail
          try simp only [Exit.inBlock, Exit.then]
          refine bodyPost_ret (results_se2 rfl _ _ _ _ _ _ rfl rfl HRW.out HZS.out) rfl ⟨rfl, HBB.out⟩
      · have HNO1 : Hid (¬ (e1 = 0 ∧ n1 = n)) := hid (fun h => h1 h.1)
        obtain ⟨rfl, rfl⟩ := HA5b.out HNO0.out HNO1.out
        have hbz := HBZ.out
        obtain ⟨hst, hrw, hbw⟩ := HEND.out y1 _ HY1.out HZS.out HZ1.out
        have HRW := hid hrw
        have HBB := hid hbw
        clear hrw hbw
        go_wp2_with fail
        rw [rounds_succ]
        go_wp2_with fail
        try simp only [Exit.inBlock, Exit.then]
        refine bodyPost_ret (results_se2 rfl _ _ _ _ _ _ rfl rfl HRW.out HZS.out) rfl ⟨rfl, HBB.out⟩
end
end Go.Proofs.YtghophbabbaleaaGreatDoor
