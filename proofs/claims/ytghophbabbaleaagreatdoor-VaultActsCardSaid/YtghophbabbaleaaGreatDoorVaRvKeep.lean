/-
  The document's answer for Keep: tithingref14.Keep. Printed with genvref.py.
-/
import Derived.Test.YtghophbabbaleaaGreatDoorVaCodeKeep
import Derived.Test.YtghophbabbaleaaGreatDoorVaRvStep
namespace Go.Proofs.YtghophbabbaleaaGreatDoor
set_option maxRecDepth 20000
open Go.RowKit
attribute [local go_sem ↓] exec_load_rv exec_alloc_rv exec_store_rv exec_load_se
def RkPost (k : Int) (V : VaM) (w : World) (e : Ending) (w' : World) : Prop := ∃ C, e = .returned (.tuple #[.agg C, .int .i64 k]) ∧ RvC w' C V ∧ Below w.heap.size w w'
theorem RvC.setSe {w : World} {C D C0 : Array Value} {V : VaM} {g : Nat} (h : RvC w C V) (hg : w.heap[g]? = some (.cells C0 32 (0, 0))) : RvC (setSe w g D) C V :=
  h.away (by unfold Go.Proofs.YtghophbabbaleaaGreatDoor.setSe; simp) (fun k _ hk => setSe_other w D (blk_ne hk hg (by decide)))
theorem rk_end {w wz W : World} {g4 : Nat} {C C0 : Array Value} {V : VaM} (hb : Below wz.heap.size wz W) (hg : wz.heap[g4]? = some (.cells C0 32 (0, 0))) (h0 : C0.size = 8) (hB : w.heap.size ≤ g4) (hz : Below w.heap.size w wz) (hC : RvC W C V) :
    storeRv (.pointer (some ⟨g4, 0, none⟩)) (.agg C) W = .ok .skip (setSe W g4 C) ∧ (setSe W g4 C).heap[g4]? = some (.cells C 32 (0, 0)) ∧ RvC (setSe W g4 C) C V ∧ Below w.heap.size w (setSe W g4 C) := by
  have hg2 := (hb.block _ (lt_of_block hg)).trans hg
  obtain ⟨h1, h2, h3⟩ := rv_end (C := C) (hz.trans (hb.mono hz.size)) hg2 hB h0 hC.size hC.one
  exact ⟨h1, h2, hC.setSe hg2, h3⟩
set_option maxHeartbeats 12800000 in
theorem refKeep14_any (V : VaM) (C : Array Value) (s : SeM) (w : World) (hC : RvC w C V) (g : V.Good) (ho : s.Ok) (hK2 : Kst 0 w) :
    Calls Tryz.prog 25 #[.agg C, .agg (sec s)] w (RkPost (keepE V s) (keepV V s) w) := by
  obtain ⟨v0, v1, vh, wh, rfl, hy0, hy1, hyh, hwh⟩ := hC
  have HY : Hid (∀ W, Below w.heap.size w W → Bys W v0 V.s0 ∧ Bys W v1 V.s1 ∧ Bys W vh V.torn) := hid (fun W hb => ⟨hy0.below hb, hy1.below hb, hyh.below hb⟩)
  have HWH := hid hwh
  obtain ⟨A0, c0, r0⟩ := hy0.shape
  obtain ⟨A1, c1, r1⟩ := hy1.shape
  obtain ⟨A2, c2, r2⟩ := hyh.shape
  have HON : Hid (∀ V', (rvc V' v0 v1 vh wh).all (·.oneCell') = true) := hid (fun V' => by subst r0 r1 r2; exact rvc_one ..)
  have HPU : Hid (mayS s = true → V.n < 1099511627776 → ∀ W, Below w.heap.size w W → Calls Tryz.prog 50 #[.int .i64 V.i, .int .i64 (V.n + 1), .agg (sec s)] W fun e w' => ∃ x, e = .returned x ∧ Bys w' x (blobS V.i (V.n + 1) s) ∧ Below W.heap.size W w') := hid (fun hm hn W hb => by
    have n0 := g.n0
    have := refPut13_any V.i (V.n + 1) s W ho (by unfold versB; rw [decide_eq_true_eq]; omega) hm (hK2.below hb)
    exact this.mono fun _ _ ⟨x, he, hx, hb⟩ => ⟨x, he, hx.bys, hb⟩)
  have HMY : Hid (∀ W, Calls Tryz.prog 15 #[.agg (sec s)] W fun e w' => e = .returned (.bool (mayS s)) ∧ Below W.heap.size W w') := hid (fun W => refMay13_any s W ho)
  have HE : Hid (V.dead = false → mayS s = true → ¬ V.n = 1099511627776 → keepE V s = writeE V ∧ keepV V s = writeV V (blobS V.i (V.n + 1) s)) := hid (fun h1 h2 h3 => by
    unfold keepE keepV
    rw [h1, h2, if_neg (by decide), if_neg (by decide), if_neg h3, if_neg (by decide), if_neg (by decide), if_neg h3]
    exact ⟨rfl, rfl⟩)
  have HE1 : Hid (V.dead = true → keepE V s = 6 ∧ keepV V s = V) := hid (fun h1 => by
    unfold keepE keepV
    rw [if_pos h1, if_pos h1]
    exact ⟨rfl, rfl⟩)
  have HE2 : Hid (V.dead = false → mayS s = false → keepE V s = 1 ∧ keepV V s = V) := hid (fun h1 h2 => by
    unfold keepE keepV
    simp only [h1, h2, Bool.false_eq_true, if_false, if_true]
    exact ⟨trivial, trivial⟩)
  have HE3 : Hid (V.dead = false → mayS s = true → V.n = 1099511627776 → keepE V s = 9 ∧ keepV V s = V) := hid (fun h1 h2 h3 => by
    unfold keepE keepV
    rw [h1, h2, if_neg (by decide), if_neg (by decide), if_pos h3, if_neg (by decide), if_neg (by decide), if_pos h3]
    exact ⟨rfl, rfl⟩)
  have HG := hid g
  have HSO := hid ho
  obtain ⟨b, HBL⟩ : ∃ x, Hid (blobS V.i (V.n + 1) s = x) := ⟨_, hid rfl⟩
  obtain ⟨m, HM⟩ : ∃ q : Bool, Hid (mayS s = q) := ⟨_, hid rfl⟩
  obtain ⟨SC, HSC⟩ : ∃ x : Array Value, Hid (sec s = x) := ⟨_, hid rfl⟩
  obtain ⟨D, HD⟩ : ∃ x : Array Value, Hid (rvc V v0 v1 vh wh = x) := ⟨_, hid rfl⟩
  obtain ⟨ke, HKE⟩ : ∃ q : Int, Hid (keepE V s = q) := ⟨_, hid rfl⟩
  obtain ⟨kv, HKV⟩ : ∃ q : VaM, Hid (keepV V s = q) := ⟨_, hid rfl⟩
  rw [HKE.out, HKV.out] at HE HE1 HE2 HE3
  rw [HM.out] at HPU HMY HE HE2 HE3
  have HBLM : Hid (m = true → V.n < 1099511627776 → b.length ≤ 1000) := hid (fun hm hn => by
    have n0 := g.n0
    have := blobS_len' (i := V.i) (n := V.n + 1) (s := s) ho (by unfold versB; rw [decide_eq_true_eq]; omega) (HM.out.trans hm)
    rw [HBL.out] at this
    omega)
  rw [HBL.out] at HPU HE
  rw [HSC.out] at HPU HMY
  have hr0 : BoxRv (w.alloc (.cells (rvc V v0 v1 vh wh) 32)) w.heap.size V v0 v1 vh wh := heap_alloc_new w _
  have hb0 : Below w.heap.size w (w.alloc (.cells (rvc V v0 v1 vh wh) 32)) := (Below.refl _ _).alloc (Nat.le_refl _) _
  rw [HKE.out, HKV.out, HSC.out]
  rw [HD.out] at hr0 hb0 ⊢
  have hsz0 : (w.alloc (.cells D 32)).heap.size = w.heap.size + 1 := by simp
  have hr1 := heap_alloc_new (w.alloc (.cells D 32)) (.cells SC 40)
  have hb01 : Below (w.alloc (.cells D 32)).heap.size (w.alloc (.cells D 32)) ((w.alloc (.cells D 32)).alloc (.cells SC 40)) := (Below.refl _ _).alloc (Nat.le_refl _) _
  have hsz1 : ((w.alloc (.cells D 32)).alloc (.cells SC 40)).heap.size = w.heap.size + 2 := by simp
  have hal := allocRv_eq ((w.alloc (.cells D 32)).alloc (.cells SC 40))
  have hr2 := heap_alloc_new ((w.alloc (.cells D 32)).alloc (.cells SC 40)) (.cells rvZ 32)
  have hb12 : Below ((w.alloc (.cells D 32)).alloc (.cells SC 40)).heap.size ((w.alloc (.cells D 32)).alloc (.cells SC 40)) (((w.alloc (.cells D 32)).alloc (.cells SC 40)).alloc (.cells rvZ 32)) := (Below.refl _ _).alloc (Nat.le_refl _) _
  have HR0 := hid ((hr0.below hb01).below hb12)
  have HR1 := hid ((hb12.block _ (lt_of_block hr1)).trans hr1)
  have HBZ := hid ((hb0.trans (hb01.mono hb0.size)).trans (hb12.mono (Nat.le_trans hb0.size hb01.size)))
  rw [hsz0] at HR1
  rw [hsz1] at hal hr2
  have HR2 := hid hr2
  clear hy0 hy1 hyh hwh g ho hK2 hr0 hb0 hr1 hb01 hsz0 hsz1 hr2 hb12 HKE HKV HM
  go_enter Tryz.func25, Tryz.ntmps25
  go_upto_region 1 with (fail)
  clear hal
  generalize (((w.alloc (.cells D 32)).alloc (.cells SC 40)).alloc (.cells rvZ 32)) = wz at *
  have HLDV : Hid (∀ W, Below wz.heap.size wz W → loadRv (.pointer (some ⟨w.heap.size, 0, none⟩)) W = .ok (.value (.agg D)) W ∧ loadSe (.pointer (some ⟨w.heap.size + 1, 0, none⟩)) W = .ok (.value (.agg SC)) W) := hid (fun W hb => ⟨by
    have := (HR0.out.below hb).ld
    rw [HD.out] at this
    exact this, by
    have h2 := (hb.block _ (lt_of_block HR1.out)).trans HR1.out
    refine loadSe_row h2 ?_
    rw [← HSC.out]
    exact sec_size HSO.out⟩)
  have HCL : Hid (∀ W, Below wz.heap.size wz W → W.cell? ⟨w.heap.size, 0, none⟩ = some (.int .i64 V.i) ∧ W.cell? ⟨w.heap.size, 3, none⟩ = some (.int .i64 V.n) ∧ W.cell? ⟨w.heap.size, 5, none⟩ = some (.bool V.dead)) := hid (fun W hb => by
    obtain ⟨h0, _, _, h3, _, h5, _, _⟩ := (HR0.out.below hb).cells
    exact ⟨h0, h3, h5⟩)
  have HSAME : Hid (∀ W, Below wz.heap.size wz W → RvC W D V) := hid (fun W hb => by
    obtain ⟨h0, h1, h2⟩ := HY.out W (HBZ.out.trans (hb.mono HBZ.out.size))
    exact ⟨v0, v1, vh, wh, HD.out.symm, h0, h1, h2, HWH.out⟩)
  have HEND : Hid (∀ W C' V', Below wz.heap.size wz W → RvC W C' V' → storeRv (.pointer (some ⟨w.heap.size + 2, 0, none⟩)) (.agg C') W = .ok .skip (setSe W (w.heap.size + 2) C') ∧ (setSe W (w.heap.size + 2) C').heap[w.heap.size + 2]? = some (.cells C' 32 (0, 0)) ∧ RvC (setSe W (w.heap.size + 2) C') C' V' ∧ Below w.heap.size w (setSe W (w.heap.size + 2) C')) := hid (fun W C' V' hb hC => rk_end hb HR2.out rfl (by omega) HBZ.out hC)
  have HREF := hid (Below.refl wz.heap.size wz)
  obtain ⟨dd, hdd⟩ : ∃ q : Bool, V.dead = q := ⟨_, rfl⟩
  rw [hdd] at HE HE1 HE2 HE3 HCL
  have HDD := hid hdd
  clear hdd
  obtain ⟨_, _, k5⟩ := HCL.out wz HREF.out
  cases dd with
  | true =>
    obtain ⟨rfl, hk2⟩ := HE1.out rfl
    obtain rfl := hk2.symm
    have hld := (HLDV.out wz HREF.out).1
    obtain ⟨hst, hrw, hrv, hbw⟩ := HEND.out wz _ _ HREF.out (HSAME.out wz HREF.out)
    have HRW := hid hrw
    have HRV := hid hrv
    have HBW := hid hbw
    clear hrw hrv hbw
    go_wp2_with fail
    try simp only [Exit.inBlock, Exit.then]
    refine bodyPost_ret (results_rv2 rfl _ _ _ _ _ _ rfl rfl HRW.out HRV.out.size) rfl ⟨_, rfl, HRV.out, HBW.out⟩
  | false =>
    have HEa := hid (HE.out rfl)
    have HE2a := hid (HE2.out rfl)
    have HE3a := hid (HE3.out rfl)
    clear HE HE1 HE2 HE3
    have hls := (HLDV.out wz HREF.out).2
    go_wp2_with fail
    refine (HMY.out wz).mono ?_
    rintro e w1 ⟨rfl, hb1⟩
    have HB1 := hid hb1
    clear hls hb1 k5
    cases m with
    | false =>
      obtain ⟨rfl, hk2⟩ := HE2a.out rfl
      obtain rfl := hk2.symm
      have hld := (HLDV.out w1 HB1.out).1
      obtain ⟨hst, hrw, hrv, hbw⟩ := HEND.out w1 _ _ HB1.out (HSAME.out w1 HB1.out)
      have HRW := hid hrw
      have HRV := hid hrv
      have HBW := hid hbw
      clear hrw hrv hbw
      go_wp2_with fail
      try simp only [Exit.inBlock, Exit.then]
      refine bodyPost_ret (results_rv2 rfl _ _ _ _ _ _ rfl rfl HRW.out HRV.out.size) rfl ⟨_, rfl, HRV.out, HBW.out⟩
    | true =>
      have HEb := hid (HEa.out rfl)
      have HE3b := hid (HE3a.out rfl)
      have HPUa := hid (HPU.out rfl)
      have HBLN := hid (HBLM.out rfl)
      clear HEa HE2a HE3a HPU
      obtain ⟨k0, k3, _⟩ := HCL.out w1 HB1.out
      by_cases hn : V.n = 1099511627776
      · obtain ⟨rfl, hk2⟩ := HE3b.out hn
        obtain rfl := hk2.symm
        have hld := (HLDV.out w1 HB1.out).1
        have hge : (1099511627776 : Int) ≤ V.n := by omega
        clear hn
        obtain ⟨hst, hrw, hrv, hbw⟩ := HEND.out w1 _ _ HB1.out (HSAME.out w1 HB1.out)
        have HRW := hid hrw
        have HRV := hid hrv
        have HBW := hid hbw
        clear hrw hrv hbw
        go_wp2_with fail
        try simp only [Exit.inBlock, Exit.then]
        refine bodyPost_ret (results_rv2 rfl _ _ _ _ _ _ rfl rfl HRW.out HRV.out.size) rfl ⟨_, rfl, HRV.out, HBW.out⟩
      · obtain ⟨rfl, rfl⟩ := HEb.out hn
        have hlt : V.n < 1099511627776 := by have := HG.out.n1; omega
        have hn0 : 0 ≤ V.n := HG.out.n0
        have HLT := hid hlt
        have HBLEN := hid (HBLN.out hlt)
        have HPUb := hid (HPUa.out hlt)
        have hge : ¬ (1099511627776 : Int) ≤ V.n := by omega
        have hls := (HLDV.out w1 HB1.out).2
        have hwr : IntKind.i64.wrap (V.n + 1) = V.n + 1 := by rw [IntKind.wrap_i64]; omega
        clear hn HE3b HPUa HEb
        go_wp2_with fail
        refine (HPUb.out w1 (HBZ.out.trans (HB1.out.mono HBZ.out.size))).mono ?_
        rintro e w2 ⟨x, rfl, hx, hb2⟩
        have HB2 := hid (HB1.out.trans (hb2.mono HB1.out.size))
        have HX := hid (fun W (h : Below w2.heap.size w2 W) => hx.below h)
        obtain ⟨Ax, dx, rfl⟩ := hx.shape
        obtain ⟨lx, HLX⟩ : ∃ q : Nat, Hid (b.length = q) := ⟨_, hid rfl⟩
        rw [HLX.out] at HX ⊢
        clear hls hb2 hx k0 k3
        obtain ⟨_, k3, _⟩ := HCL.out w2 HB2.out
        have q0 : (V.n + 1).tmod 2 = placeV V := by unfold placeV; rw [Int.tmod_eq_emod_of_nonneg (by omega)]
        have q1 : IntKind.i64.wrap (placeV V) = placeV V := by unfold placeV; rw [IntKind.wrap_i64]; omega
        have hld := (HLDV.out w2 HB2.out).1
        have HPL := hid (placeV_two V)
        obtain ⟨p, HP⟩ : ∃ q : Int, Hid (placeV V = q) := ⟨_, hid rfl⟩
        rw [HP.out] at q0 q1 HPL
        have HST : Hid (∀ W, Calls Tryz.prog 51 #[.agg D] W fun e w' => e = .returned (.tuple #[.agg (rvc (stepV V) v0 v1 vh wh), .bool (stepB V)]) ∧ Below W.heap.size W w') := hid (fun W => by
          have := refStep14_any V v0 v1 vh wh W HG.out.left0 HG.out.left1 HON.out
          rw [HD.out] at this
          exact this)
        obtain ⟨D1, HD1⟩ : ∃ q : Array Value, Hid (rvc (stepV V) v0 v1 vh wh = q) := ⟨_, hid rfl⟩
        have HD1S : Hid (D1.size = 8 ∧ D1.all (·.oneCell') = true) := hid (by rw [← HD1.out]; exact ⟨rfl, HON.out _⟩)
        rw [HD1.out] at HST
        obtain ⟨sb, HSB⟩ : ∃ q : Bool, Hid (stepB V = q) := ⟨_, hid rfl⟩
        rw [HSB.out] at HST
        clear hge hlt
        go_wp2_with fail
        clear hwr q0 q1 k3 hn0
        refine (HST.out w2).mono ?_
        rintro e w3 ⟨rfl, hb3⟩
        have hal := allocRv_eq w3
        have hsv := rv_var w3 (Z := rvZ) rfl HD1S.out.1 HD1S.out.2
        have hb23 : Below w2.heap.size w2 (w3.alloc (.cells D1 32)) := hb3.alloc hb3.size _
        have HB4 := hid (HB2.out.trans (hb23.mono HB2.out.size))
        have HX4 := hid (HX.out _ hb23)
        have hr4 := heap_alloc_new w3 (.cells D1 32)
        have HG8 := hid (show wz.heap.size ≤ w3.heap.size from Nat.le_trans HB2.out.size hb3.size)
        rw [← HD1.out] at hr4
        have HR4 : Hid (BoxRv (w3.alloc (.cells (rvc (stepV V) v0 v1 vh wh) 32)) w3.heap.size (stepV V) v0 v1 vh wh) := hid hr4
        rw [HD1.out] at HR4
        clear hb3 hb23 hr4 hld
        go_upto_region 10 with (fail)
        clear hal hsv
        generalize (w3.alloc (.cells D1 32)) = w4 at *
        generalize w3.heap.size = g8 at *
        have HYZ : Hid (∀ W, Below wz.heap.size wz W → Bys W v0 V.s0 ∧ Bys W v1 V.s1 ∧ Bys W vh V.torn) := hid (fun W h => HY.out W (HBZ.out.trans (h.mono HBZ.out.size)))
        have HBS : Hid (∀ W i u, Below wz.heap.size wz W → Below wz.heap.size wz (W.setCell ⟨g8, i, none⟩ u)) := hid (fun W i u h => h.setCell HG8.out u)
        have HAW : Hid (∀ W i u x l, W.heap[g8]? = some (.cells x 32 (0, 0)) → ∀ v, Bys W v l → Bys (W.setCell ⟨g8, i, none⟩ u) v l) := hid (fun W i u x l h v hv => hv.away (by simp [World.setCell]) (fun k _ hk => Below.heap_setCell _ _ _ _ (blk_ne hk h (by decide))))
        cases sb with
        | false =>
          obtain ⟨u1, u2⟩ := writeV_stop (l := b) HSB.out
          rw [u1, u2]
          have HE1 := hid (HR4.out.set (i := 6) (u := .slice Ax lx dx) (V' := { stepV V with torn := b }) (u0 := v0) (u1 := v1) (uh := .slice Ax lx dx) (k := wh) rfl)
          have HE2 := hid (HE1.out.set (i := 7) (u := .int .i64 p) (V' := { stepV V with torn := b }) (u0 := v0) (u1 := v1) (uh := .slice Ax lx dx) (k := p) rfl)
          have HBF := hid (HBS.out _ 7 (.int .i64 p) (HBS.out _ 6 (.slice Ax lx dx) HB4.out))
          have HCF : Hid (RvC ((w4.setCell ⟨g8, 6, none⟩ (.slice Ax lx dx)).setCell ⟨g8, 7, none⟩ (.int .i64 p)) (rvc { stepV V with torn := b } v0 v1 (.slice Ax lx dx) p) { stepV V with torn := b }) := hid (by
            obtain ⟨y0, y1, y2⟩ := HYZ.out _ HBF.out
            refine ⟨_, _, _, _, rfl, ?_, ?_, HAW.out _ _ _ _ _ HE1.out _ (HAW.out _ _ _ _ _ HR4.out _ HX4.out), fun _ => ?_⟩
            · show Bys _ v0 (slotV (stepV V) 0)
              rw [stepV_slot]
              exact y0
            · show Bys _ v1 (slotV (stepV V) 1)
              rw [stepV_slot]
              exact y1
            · rw [← HP.out]
              exact (placeV_step V).symm)
          have f6 := HR4.out.free 6
          have f7 := HE1.out.free 7
          obtain ⟨_, _, _, _, _, _, k6, _⟩ := HR4.out.cells
          obtain ⟨_, _, _, _, _, _, _, k7⟩ := HE1.out.cells
          have hld := HE2.out.ld
          obtain ⟨D2, HD2⟩ : ∃ q : Array Value, Hid (rvc { stepV V with torn := b } v0 v1 (.slice Ax lx dx) p = q) := ⟨_, hid rfl⟩
          rw [HD2.out] at hld HCF
          obtain ⟨hst, hrw, hrv, hbw⟩ := HEND.out _ _ _ HBF.out HCF.out
          have HRW := hid hrw
          have HRV := hid hrv
          have HBW := hid hbw
          clear hrw hrv hbw
          go_wp2_with fail
          try simp only [Exit.inBlock, Exit.then]
          refine bodyPost_ret (results_rv2 rfl _ _ _ _ _ _ rfl rfl HRW.out HRV.out.size) rfl ⟨_, rfl, HRV.out, HBW.out⟩
        | true =>
          have HPLC : Hid (placeV V = p) := HP
          have hpp := HPL.out
          rcases hpp with rfl | rfl
          · have HE1 := hid (HR4.out.set (i := 1) (u := .slice Ax lx dx) (V' := putV (stepV V) 0 b) (u0 := .slice Ax lx dx) (u1 := v1) (uh := vh) (k := wh) rfl)
            have HBF := hid (HBS.out _ 1 (.slice Ax lx dx) HB4.out)
            have HXF := hid (HAW.out _ 1 (.slice Ax lx dx) _ _ HR4.out _ HX4.out)
            have HON2 : Hid (∀ V', (rvc V' (.slice Ax lx dx) (v1) vh wh).all (·.oneCell') = true) := hid (fun V' => by subst r0 r1 r2; exact rvc_one ..)
            have HPE : Hid (placeV V = 0) := HP
            have f1 := HR4.out.free 1
            obtain ⟨_, k1, k2, _⟩ := HR4.out.cells
            obtain ⟨D2, HD2⟩ : ∃ q : Array Value, Hid (rvc (putV (stepV V) 0 b) (.slice Ax lx dx) (v1) vh wh = q) := ⟨_, hid rfl⟩
            have hld := HE1.out.ld
            have HG1 := hid (putV_good (V := stepV V) (stepV_good HG.out) 0 (l := b) HBLEN.out)
            have HST2 : Hid (∀ W, Calls Tryz.prog 51 #[.agg D2] W fun e w' => e = .returned (.tuple #[.agg (rvc (stepV (putV (stepV V) 0 b)) (.slice Ax lx dx) (v1) vh wh), .bool (stepB (stepV V))]) ∧ Below W.heap.size W w') := hid (fun W => by
              have := refStep14_any (putV (stepV V) 0 b) (.slice Ax lx dx) (v1) vh wh W HG1.out.left0 HG1.out.left1 HON2.out
              rw [HD2.out] at this
              exact this)
            obtain ⟨D3, HD3⟩ : ∃ q : Array Value, Hid (rvc (stepV (putV (stepV V) 0 b)) (.slice Ax lx dx) (v1) vh wh = q) := ⟨_, hid rfl⟩
            have HD3S : Hid (D3.size = 8 ∧ D3.all (·.oneCell') = true) := hid (by rw [← HD3.out]; exact ⟨rfl, HON2.out _⟩)
            rw [HD3.out] at HST2
            rw [HD2.out] at hld
            obtain ⟨sb2, HSB2⟩ : ∃ q : Bool, Hid (stepB (stepV V) = q) := ⟨_, hid rfl⟩
            rw [HSB2.out] at HST2
            go_wp2_with fail
            clear f1 k1 k2 hld
            refine (HST2.out _).mono ?_
            rintro e w5 ⟨rfl, hb5⟩
            have hal := allocRv_eq w5
            have hsv := rv_var w5 (Z := rvZ) rfl HD3S.out.1 HD3S.out.2
            have hb6 := hb5.alloc hb5.size (.cells D3 32)
            have HB6 := hid (HBF.out.trans (hb6.mono HBF.out.size))
            have HX6 := hid (HXF.out.below hb6)
            have hr6 := heap_alloc_new w5 (.cells D3 32)
            have HG10 := hid (show wz.heap.size ≤ w5.heap.size from Nat.le_trans HBF.out.size hb5.size)
            rw [← HD3.out] at hr6
            have HR6 : Hid (BoxRv (w5.alloc (.cells (rvc (stepV (putV (stepV V) 0 b)) (.slice Ax lx dx) (v1) vh wh) 32)) w5.heap.size (stepV (putV (stepV V) 0 b)) (.slice Ax lx dx) (v1) vh wh) := hid hr6
            rw [HD3.out] at HR6
            clear hb5 hb6 hr6
            go_upto_region 16 with (fail)
            clear hal hsv
            generalize (w5.alloc (.cells D3 32)) = w6 at *
            generalize w5.heap.size = g10 at *
            have HTN : Hid (V.torn = []) := hid (HG.out.dt HDD.out)
            have HRC : Hid (∀ W n, Below wz.heap.size wz W → Bys W (.slice Ax lx dx) b → RvC W (rvc { stepV (putV (stepV V) 0 b) with n := n } (.slice Ax lx dx) (v1) vh wh) { stepV (putV (stepV V) 0 b) with n := n }) := hid (fun W n hb hx => by
              obtain ⟨y0, y1, y2⟩ := HYZ.out _ hb
              refine ⟨_, _, _, _, rfl, ?_, ?_, ?_, ?_⟩
              · show Bys W _ (slotV (stepV (putV (stepV V) 0 b)) 0)
                rw [stepV_slot]
                exact hx
              · show Bys W _ (slotV (stepV (putV (stepV V) 0 b)) 1)
                rw [stepV_slot]
                show Bys W v1 (slotV (stepV V) 1)
                rw [stepV_slot]
                exact y1
              · show Bys W vh (stepV (putV (stepV V) 0 b)).torn
                rw [stepV_torn]
                show Bys W vh (stepV V).torn
                rw [stepV_torn]
                exact y2
              · intro h
                refine absurd ?_ h
                show (stepV (putV (stepV V) 0 b)).torn = []
                rw [stepV_torn]
                show (stepV V).torn = []
                rw [stepV_torn]
                exact HTN.out)
            cases sb2 with
            | false =>
              obtain ⟨u1, u2⟩ := writeV_half (l := b) HSB.out HSB2.out
              rw [HPE.out] at u2
              rw [u1, u2]
              have hld := HR6.out.ld
              have HCF := hid (HRC.out _ (stepV (putV (stepV V) 0 b)).n HB6.out HX6.out)
              have HCF2 : Hid (RvC w6 (rvc (stepV (putV (stepV V) 0 b)) (.slice Ax lx dx) (v1) vh wh) (stepV (putV (stepV V) 0 b))) := HCF
              rw [HD3.out] at hld HCF2
              obtain ⟨hst, hrw, hrv, hbw⟩ := HEND.out _ _ _ HB6.out HCF2.out
              have HRW := hid hrw
              have HRV := hid hrv
              have HBW := hid hbw
              clear hrw hrv hbw
              go_wp2_with fail
              try simp only [Exit.inBlock, Exit.then]
              refine bodyPost_ret (results_rv2 rfl _ _ _ _ _ _ rfl rfl HRW.out HRV.out.size) rfl ⟨_, rfl, HRV.out, HBW.out⟩
            | true =>
              obtain ⟨u1, u2⟩ := writeV_full (l := b) HSB.out HSB2.out
              rw [HPE.out] at u2
              rw [u1, u2]
              have HNN : Hid ((stepV (putV (stepV V) 0 b)).n = V.n) := hid (by rw [stepV_n]; exact stepV_n V)
              have HE6 := hid (HR6.out.set (i := 3) (u := .int .i64 (V.n + 1)) (V' := { stepV (putV (stepV V) 0 b) with n := V.n + 1 }) (u0 := .slice Ax lx dx) (u1 := v1) (uh := vh) (k := wh) rfl)
              have HBG := hid (HB6.out.setCell (p := ⟨g10, 3, none⟩) HG10.out (.int .i64 (V.n + 1)))
              have HXG := hid (HX6.out.away (w' := w6.setCell ⟨g10, 3, none⟩ (.int .i64 (V.n + 1))) (by simp [World.setCell]) (fun k _ hk => Below.heap_setCell _ _ _ _ (blk_ne hk HR6.out (by decide))))
              have f3 := HR6.out.free 3
              obtain ⟨_, _, _, k3, _⟩ := HR6.out.cells
              rw [HNN.out] at k3
              have hwr : IntKind.i64.wrap (V.n + 1) = V.n + 1 := by rw [IntKind.wrap_i64]; have := HLT.out; have := HG.out.n0; omega
              have hld := HE6.out.ld
              have HCF := hid (HRC.out _ (V.n + 1) HBG.out HXG.out)
              obtain ⟨D4, HD4⟩ : ∃ q : Array Value, Hid (rvc { stepV (putV (stepV V) 0 b) with n := V.n + 1 } (.slice Ax lx dx) (v1) vh wh = q) := ⟨_, hid rfl⟩
              rw [HD4.out] at hld HCF
              obtain ⟨hst, hrw, hrv, hbw⟩ := HEND.out _ _ _ HBG.out HCF.out
              have HRW := hid hrw
              have HRV := hid hrv
              have HBW := hid hbw
              clear hrw hrv hbw
              go_wp2_with fail
              try simp only [Exit.inBlock, Exit.then]
              refine bodyPost_ret (results_rv2 rfl _ _ _ _ _ _ rfl rfl HRW.out HRV.out.size) rfl ⟨_, rfl, HRV.out, HBW.out⟩
          · have HE1 := hid (HR4.out.set (i := 2) (u := .slice Ax lx dx) (V' := putV (stepV V) 1 b) (u0 := v0) (u1 := .slice Ax lx dx) (uh := vh) (k := wh) rfl)
            have HBF := hid (HBS.out _ 2 (.slice Ax lx dx) HB4.out)
            have HXF := hid (HAW.out _ 2 (.slice Ax lx dx) _ _ HR4.out _ HX4.out)
            have HON2 : Hid (∀ V', (rvc V' (v0) (.slice Ax lx dx) vh wh).all (·.oneCell') = true) := hid (fun V' => by subst r0 r1 r2; exact rvc_one ..)
            have HPE : Hid (placeV V = 1) := HP
            have f1 := HR4.out.free 2
            obtain ⟨_, k1, k2, _⟩ := HR4.out.cells
            obtain ⟨D2, HD2⟩ : ∃ q : Array Value, Hid (rvc (putV (stepV V) 1 b) (v0) (.slice Ax lx dx) vh wh = q) := ⟨_, hid rfl⟩
            have hld := HE1.out.ld
            have HG1 := hid (putV_good (V := stepV V) (stepV_good HG.out) 1 (l := b) HBLEN.out)
            have HST2 : Hid (∀ W, Calls Tryz.prog 51 #[.agg D2] W fun e w' => e = .returned (.tuple #[.agg (rvc (stepV (putV (stepV V) 1 b)) (v0) (.slice Ax lx dx) vh wh), .bool (stepB (stepV V))]) ∧ Below W.heap.size W w') := hid (fun W => by
              have := refStep14_any (putV (stepV V) 1 b) (v0) (.slice Ax lx dx) vh wh W HG1.out.left0 HG1.out.left1 HON2.out
              rw [HD2.out] at this
              exact this)
            obtain ⟨D3, HD3⟩ : ∃ q : Array Value, Hid (rvc (stepV (putV (stepV V) 1 b)) (v0) (.slice Ax lx dx) vh wh = q) := ⟨_, hid rfl⟩
            have HD3S : Hid (D3.size = 8 ∧ D3.all (·.oneCell') = true) := hid (by rw [← HD3.out]; exact ⟨rfl, HON2.out _⟩)
            rw [HD3.out] at HST2
            rw [HD2.out] at hld
            obtain ⟨sb2, HSB2⟩ : ∃ q : Bool, Hid (stepB (stepV V) = q) := ⟨_, hid rfl⟩
            rw [HSB2.out] at HST2
            go_wp2_with fail
            clear f1 k1 k2 hld
            refine (HST2.out _).mono ?_
            rintro e w5 ⟨rfl, hb5⟩
            have hal := allocRv_eq w5
            have hsv := rv_var w5 (Z := rvZ) rfl HD3S.out.1 HD3S.out.2
            have hb6 := hb5.alloc hb5.size (.cells D3 32)
            have HB6 := hid (HBF.out.trans (hb6.mono HBF.out.size))
            have HX6 := hid (HXF.out.below hb6)
            have hr6 := heap_alloc_new w5 (.cells D3 32)
            have HG10 := hid (show wz.heap.size ≤ w5.heap.size from Nat.le_trans HBF.out.size hb5.size)
            rw [← HD3.out] at hr6
            have HR6 : Hid (BoxRv (w5.alloc (.cells (rvc (stepV (putV (stepV V) 1 b)) (v0) (.slice Ax lx dx) vh wh) 32)) w5.heap.size (stepV (putV (stepV V) 1 b)) (v0) (.slice Ax lx dx) vh wh) := hid hr6
            rw [HD3.out] at HR6
            clear hb5 hb6 hr6
            go_upto_region 16 with (fail)
            clear hal hsv
            generalize (w5.alloc (.cells D3 32)) = w6 at *
            generalize w5.heap.size = g10 at *
            have HTN : Hid (V.torn = []) := hid (HG.out.dt HDD.out)
            have HRC : Hid (∀ W n, Below wz.heap.size wz W → Bys W (.slice Ax lx dx) b → RvC W (rvc { stepV (putV (stepV V) 1 b) with n := n } (v0) (.slice Ax lx dx) vh wh) { stepV (putV (stepV V) 1 b) with n := n }) := hid (fun W n hb hx => by
              obtain ⟨y0, y1, y2⟩ := HYZ.out _ hb
              refine ⟨_, _, _, _, rfl, ?_, ?_, ?_, ?_⟩
              · show Bys W _ (slotV (stepV (putV (stepV V) 1 b)) 0)
                rw [stepV_slot]
                show Bys W v0 (slotV (stepV V) 0)
                rw [stepV_slot]
                exact y0
              · show Bys W _ (slotV (stepV (putV (stepV V) 1 b)) 1)
                rw [stepV_slot]
                exact hx
              · show Bys W vh (stepV (putV (stepV V) 1 b)).torn
                rw [stepV_torn]
                show Bys W vh (stepV V).torn
                rw [stepV_torn]
                exact y2
              · intro h
                refine absurd ?_ h
                show (stepV (putV (stepV V) 1 b)).torn = []
                rw [stepV_torn]
                show (stepV V).torn = []
                rw [stepV_torn]
                exact HTN.out)
            cases sb2 with
            | false =>
              obtain ⟨u1, u2⟩ := writeV_half (l := b) HSB.out HSB2.out
              rw [HPE.out] at u2
              rw [u1, u2]
              have hld := HR6.out.ld
              have HCF := hid (HRC.out _ (stepV (putV (stepV V) 1 b)).n HB6.out HX6.out)
              have HCF2 : Hid (RvC w6 (rvc (stepV (putV (stepV V) 1 b)) (v0) (.slice Ax lx dx) vh wh) (stepV (putV (stepV V) 1 b))) := HCF
              rw [HD3.out] at hld HCF2
              obtain ⟨hst, hrw, hrv, hbw⟩ := HEND.out _ _ _ HB6.out HCF2.out
              have HRW := hid hrw
              have HRV := hid hrv
              have HBW := hid hbw
              clear hrw hrv hbw
              go_wp2_with fail
              try simp only [Exit.inBlock, Exit.then]
              refine bodyPost_ret (results_rv2 rfl _ _ _ _ _ _ rfl rfl HRW.out HRV.out.size) rfl ⟨_, rfl, HRV.out, HBW.out⟩
            | true =>
              obtain ⟨u1, u2⟩ := writeV_full (l := b) HSB.out HSB2.out
              rw [HPE.out] at u2
              rw [u1, u2]
              have HNN : Hid ((stepV (putV (stepV V) 1 b)).n = V.n) := hid (by rw [stepV_n]; exact stepV_n V)
              have HE6 := hid (HR6.out.set (i := 3) (u := .int .i64 (V.n + 1)) (V' := { stepV (putV (stepV V) 1 b) with n := V.n + 1 }) (u0 := v0) (u1 := .slice Ax lx dx) (uh := vh) (k := wh) rfl)
              have HBG := hid (HB6.out.setCell (p := ⟨g10, 3, none⟩) HG10.out (.int .i64 (V.n + 1)))
              have HXG := hid (HX6.out.away (w' := w6.setCell ⟨g10, 3, none⟩ (.int .i64 (V.n + 1))) (by simp [World.setCell]) (fun k _ hk => Below.heap_setCell _ _ _ _ (blk_ne hk HR6.out (by decide))))
              have f3 := HR6.out.free 3
              obtain ⟨_, _, _, k3, _⟩ := HR6.out.cells
              rw [HNN.out] at k3
              have hwr : IntKind.i64.wrap (V.n + 1) = V.n + 1 := by rw [IntKind.wrap_i64]; have := HLT.out; have := HG.out.n0; omega
              have hld := HE6.out.ld
              have HCF := hid (HRC.out _ (V.n + 1) HBG.out HXG.out)
              obtain ⟨D4, HD4⟩ : ∃ q : Array Value, Hid (rvc { stepV (putV (stepV V) 1 b) with n := V.n + 1 } (v0) (.slice Ax lx dx) vh wh = q) := ⟨_, hid rfl⟩
              rw [HD4.out] at hld HCF
              obtain ⟨hst, hrw, hrv, hbw⟩ := HEND.out _ _ _ HBG.out HCF.out
              have HRW := hid hrw
              have HRV := hid hrv
              have HBW := hid hbw
              clear hrw hrv hbw
              go_wp2_with fail
              try simp only [Exit.inBlock, Exit.then]
              refine bodyPost_ret (results_rv2 rfl _ _ _ _ _ _ rfl rfl HRW.out HRV.out.size) rfl ⟨_, rfl, HRV.out, HBW.out⟩
end Go.Proofs.YtghophbabbaleaaGreatDoor
