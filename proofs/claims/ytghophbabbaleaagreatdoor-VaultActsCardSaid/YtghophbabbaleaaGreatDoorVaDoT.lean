/-
  tithinglaw14.Do: what an act tells is as it must be: Arm, Crash, nothing. Printed with genvacts.py.
-/
import Derived.Test.YtghophbabbaleaaGreatDoorVaDoWords
namespace Go.Proofs.YtghophbabbaleaaGreatDoor
set_option maxRecDepth 20000
open Go.RowKit
attribute [local go_sem ↓] exec_load_rv exec_alloc_rv exec_store_rv exec_load_se exec_alloc_se exec_store_se exec_eq_se
set_option maxHeartbeats 25600000 in
theorem doT_any {b c a : Nat} (V : VaM) (C : Array Value) (x : ActM) (s3 : Value) (Ls : List OldM) (w : World) (hv : Vlt w b c a V) (g : V.Good) (hC : RvC w C V) (hx : ActOk w x) (hxl : x.bl.length ≤ 1200) (ho : Els ocl 2 w s3 Ls) (hoo : ∀ o ∈ Ls, OldOk w o)
    (hact : x.act ≠ 0 ∧ x.act ≠ 1 ∧ x.act ≠ 2 ∧ x.act ≠ 3) (hKT : ∀ W, Turn b a w W → Kst 1 W ∧ Kst 0 W) :
    Calls Tryz.prog 10 #[.pointer (some ⟨b, 0, none⟩), .agg C, .agg (acc x), s3] w (DoPost b c a w) := by
  have HG := hid g
  have HKT := hid hKT
  have HXO := hid hx.1
  have HXN := hid (show x.n ≤ 9223372036854775807 ∧ -9223372036854775808 ≤ x.m ∧ x.m ≤ 9223372036854775807 from by
    have h1 : -9223372036854775808 ≤ x.n ∧ x.n ≤ 9223372036854775807 := by simpa [Lit.wf, IntKind.min, IntKind.max, IntKind.signed, IntKind.bits] using hx.2.1.1
    have h2 : -9223372036854775808 ≤ x.m ∧ x.m ≤ 9223372036854775807 := by simpa [Lit.wf, IntKind.min, IntKind.max, IntKind.signed, IntKind.bits] using hx.2.1.2.1
    exact ⟨h1.2, h2.1, h2.2⟩)
  have HXB : Hid (∀ W, Turn b a w W → Byt W x.b x.bl) := hid (fun W t => hv.turned hx.2.2 t)
  have HXL := hid hxl
  obtain ⟨A3, d3, rfl⟩ := ho.shape
  have HOLD : Hid (∀ k (h : k < Ls.length), ∃ bo oo, A3 = some ⟨bo, oo, none⟩ ∧ bo < w.heap.size ∧ w.cell? ⟨bo, oo + k * 2, none⟩ = some (.slice Ls[k].A0 Ls[k].l0.length Ls[k].c0) ∧ w.cell? ⟨bo, oo + k * 2 + 1, none⟩ = some (.slice Ls[k].A1 Ls[k].l1.length Ls[k].c1) ∧ OldOk w Ls[k]) := hid (fun k hk => by
    obtain ⟨bo, oo, e, hb, hc⟩ := ho.at_.2.2.2 (by omega)
    exact ⟨bo, oo, e, hb, hc k hk 0 _ rfl, hc k hk 1 _ rfl, hoo _ (List.getElem_mem hk)⟩)
  have HTO : Hid (∀ W v l, Byt w v l → Turn b a w W → Byt W v l) := hid (fun W v l h t => hv.turned h t)
  obtain ⟨N3, HN3⟩ : ∃ q : Nat, Hid (Ls.length = q) := ⟨_, hid rfl⟩
  rw [HN3.out]
  obtain ⟨AX, HAX⟩ : ∃ q : Array Value, Hid (acc x = q) := ⟨_, hid rfl⟩
  have HACT : Hid (∀ (W : World) (gx : Nat), W.heap[gx]? = some (.cells AX 42 (0, 0)) → (W.cell? ⟨gx, 0, none⟩ = some (.int .i64 x.act) ∧ W.cell? ⟨gx, 36, none⟩ = some (.int .i64 x.n) ∧ W.cell? ⟨gx, 37, none⟩ = some (.int .i64 x.m) ∧ W.cell? ⟨gx, 38, none⟩ = some (.int .i64 x.k) ∧ W.cell? ⟨gx, 39, none⟩ = some x.b) ∧ loadSe (.pointer (some ⟨gx, 1, none⟩)) W = .ok (.value (.agg (sec x.s))) W) := hid (fun W gx h => by
    rw [← HAX.out] at h
    have h2 : BoxAc W gx x := h
    exact ⟨h2.cells HXO.out, h2.sealed HXO.out⟩)
  obtain ⟨SC, HSC⟩ : ∃ q : Array Value, Hid (sec x.s = q) := ⟨_, hid rfl⟩
  rw [HSC.out] at HACT
  rw [HAX.out]
  have hr5 := heap_alloc_new w (.cells C 32)
  have hb5 : Below w.heap.size w (w.alloc (.cells C 32)) := (Below.refl _ _).alloc (Nat.le_refl _) _
  have hsz5 : (w.alloc (.cells C 32)).heap.size = w.heap.size + 1 := by simp
  have hr6 := heap_alloc_new (w.alloc (.cells C 32)) (.cells AX 42)
  have hb6 : Below (w.alloc (.cells C 32)).heap.size (w.alloc (.cells C 32)) ((w.alloc (.cells C 32)).alloc (.cells AX 42)) := (Below.refl _ _).alloc (Nat.le_refl _) _
  have hsz6 : ((w.alloc (.cells C 32)).alloc (.cells AX 42)).heap.size = w.heap.size + 2 := by simp
  have hal := allocRv_eq ((w.alloc (.cells C 32)).alloc (.cells AX 42))
  have hr8 := heap_alloc_new ((w.alloc (.cells C 32)).alloc (.cells AX 42)) (.cells rvZ 32)
  have hb8 : Below ((w.alloc (.cells C 32)).alloc (.cells AX 42)).heap.size ((w.alloc (.cells C 32)).alloc (.cells AX 42)) (((w.alloc (.cells C 32)).alloc (.cells AX 42)).alloc (.cells rvZ 32)) := (Below.refl _ _).alloc (Nat.le_refl _) _
  have hbz := (hb5.trans (hb6.mono hb5.size)).trans (hb8.mono (Nat.le_trans hb5.size hb6.size))
  have hr5z := (hb8.block _ (by have := lt_of_block hr5; omega)).trans ((hb6.block _ (lt_of_block hr5)).trans hr5)
  have hr6z := (hb8.block _ (lt_of_block hr6)).trans hr6
  rw [hsz5] at hr6z
  rw [hsz6] at hr8 hal
  have HS0 : Hid (DoSt w (((w.alloc (.cells C 32)).alloc (.cells AX 42)).alloc (.cells rvZ 32)) b c a w.heap.size V V C AX) := hid ⟨hv.below hbz, hr5z, hr6z, hr8, hC.below hbz, Turn.of hbz⟩
  have HLE := hid (Nat.le_refl w.heap.size)
  have HOB := hid hbz.block
  clear hv g hC hx hxl ho hoo hKT hr5 hb5 hsz5 hr6 hb6 hsz6 hr8 hb8 hbz hr5z hr6z HAX
  go_enter Tryz.func10, Tryz.ntmps10
  go_upto_region 1 with (fail)
  clear hal
  generalize (((w.alloc (.cells C 32)).alloc (.cells AX 42)).alloc (.cells rvZ 32)) = wz at *
  have x0 := (HACT.out wz _ HS0.out.r6).1.1
  have HACD := hid x0
  clear x0
  obtain ⟨act, HAC⟩ : ∃ q : Int, Hid (x.act = q) := ⟨_, hid rfl⟩
  rw [HAC.out] at HACD HACT
  have x0 := HACD.out
  have d0 : ¬ act = 0 := by rw [← HAC.out]; omega
  have d1 : ¬ act = 1 := by rw [← HAC.out]; omega
  have d2 : ¬ act = 2 := by rw [← HAC.out]; omega
  have d3 : ¬ act = 3 := by rw [← HAC.out]; omega
  clear hact
  by_cases d4 : act = 4
  · as_aux_lemma =>
    subst d4
    clear d0 d1 d2 d3
    have x36 := (HACT.out wz _ HS0.out.r6).1.2.1
    obtain ⟨n, HNX⟩ : ∃ q : Int, Hid (x.n = q) := ⟨_, hid rfl⟩
    have HVA : Hid (Calls Tryz.prog 27 #[.pointer (some ⟨b, 0, none⟩), .int .i64 n] wz fun e w' => e = .returned (.tuple #[]) ∧ Vlt w' b c a (armV V n) ∧ Turn b a wz w') := hid (by
      obtain ⟨_, _, _, hv⟩ := HS0.out.v
      exact (vArm_any hv n).mono fun _ _ ⟨h1, h2, h3⟩ => ⟨h1, ⟨_, _, _, h2⟩, h3⟩)
    have HGA := hid (armV_good HG.out (n := n) (by rw [← HNX.out]; exact HXN.out.1))
    have HAC2 : Hid (∀ (W : World) (gx : Nat), W.heap[gx]? = some (.cells AX 42 (0, 0)) → W.cell? ⟨gx, 36, none⟩ = some (.int .i64 n)) := hid (fun W gx h => by
      have := (HACT.out W gx h).1.2.1
      rw [HNX.out] at this
      exact this)
    rw [HNX.out] at x36
    obtain ⟨aV, HAV⟩ : ∃ q : VaM, Hid (armV V n = q) := ⟨_, hid rfl⟩
    have HAE : Hid (aV = { V with left := if n < 0 then -1 else n }) := hid HAV.out.symm
    rw [HAV.out] at HVA HGA
    go_wp2_with fail
    refine HVA.out.mono ?_
    rintro e w1 ⟨rfl, h1, t1⟩
    have HS1 := hid (HS0.out.turn t1 h1)
    clear h1 t1 x36 x0
    obtain ⟨u0, u1, uh, kh, hCC, hy0, hy1, hyh, hkh⟩ := HS1.out.rc
    have x36 := HAC2.out _ _ HS1.out.r6
    have HBX : Hid (BoxRv w1 w.heap.size V u0 u1 uh kh) := hid (by
      have h := HS1.out.r5
      rw [hCC] at h
      exact h)
    obtain ⟨_, _, _, _, k4, _, _, _⟩ := HBX.out.cells
    have f4 := HBX.out.free 4
    have HRV : Hid (∀ z, RvC w1 (rvc { V with left := z } u0 u1 uh kh) { V with left := z }) := hid (fun z => ⟨_, _, _, _, rfl, hy0, hy1, hyh, hkh⟩)
    have HSX : Hid (∀ z, DoSt w (w1.setCell ⟨w.heap.size, 4, none⟩ (.int .i64 z)) b c a w.heap.size aV { V with left := z } (rvc { V with left := z } u0 u1 uh kh) AX) := hid (fun z => HS1.out.set HLE.out (fun h => by
      rw [hCC] at h
      exact BoxRv.set (V' := { V with left := z }) (u0 := u0) (u1 := u1) (uh := uh) (k := kh) h rfl) (HRV.out z))
    clear hCC hy0 hy1 hyh hkh
    by_cases p0 : n < 0
    · have HBX2 : Hid (BoxRv (w1.setCell ⟨w.heap.size, 4, none⟩ (.int .i64 n)) w.heap.size { V with left := n } u0 u1 uh kh) := hid (HBX.out.set (V' := { V with left := n }) rfl)
      have HRV2 : Hid (RvC (w1.setCell ⟨w.heap.size, 4, none⟩ (.int .i64 n)) (rvc { V with left := -1 } u0 u1 uh kh) { V with left := -1 }) := hid ((HRV.out (-1)).away (by simp [World.setCell]) (fun k D hk => Below.heap_setCell _ _ _ _ (blk_ne hk HBX.out (by decide))))
      have HSY : Hid (DoSt w ((w1.setCell ⟨w.heap.size, 4, none⟩ (.int .i64 n)).setCell ⟨w.heap.size, 4, none⟩ (.int .i64 (-1))) b c a w.heap.size aV { V with left := -1 } (rvc { V with left := -1 } u0 u1 uh kh) AX) := hid ((HSX.out n).set HLE.out (fun h => BoxRv.set (V' := { V with left := -1 }) (u0 := u0) (u1 := u1) (uh := uh) (k := kh) h rfl) HRV2.out)
      have x36b := HAC2.out _ _ (HSX.out n).r6
      have f4b := HBX2.out.free 4
      obtain ⟨_, _, _, _, k4b, _, _, _⟩ := HBX2.out.cells
      obtain rfl : aV = { V with left := -1 } := by rw [HAE.out, if_pos p0]
      have hld5 := HSY.out.ld5
      obtain ⟨D7, HD7⟩ : ∃ q : Array Value, Hid (rvc { V with left := -1 } u0 u1 uh kh = q) := ⟨_, hid rfl⟩
      rw [HD7.out] at hld5 HSY
      obtain ⟨hst, hrw, hvf, hrc, htf⟩ := HSY.out.fin HLE.out HSY.out.rc
      have HRW := hid hrw
      have HVF := hid hvf
      have HRC := hid hrc
      have HTF := hid htf
      clear hrw hvf hrc htf
      go_wp2_with fail
      try simp only [Exit.inBlock, Exit.then]
      refine bodyPost_ret (results_rv2 rfl _ _ _ _ _ _ rfl rfl HRW.out HRC.out.size) rfl ⟨_, _, rfl, HVF.out, HGA.out, HRC.out, HTF.out⟩
    · obtain rfl : aV = { V with left := n } := by rw [HAE.out, if_neg p0]
      have HSY := hid (HSX.out n)
      have x36b := HAC2.out _ _ HSY.out.r6
      have hld5 := HSY.out.ld5
      obtain ⟨D7, HD7⟩ : ∃ q : Array Value, Hid (rvc { V with left := n } u0 u1 uh kh = q) := ⟨_, hid rfl⟩
      rw [HD7.out] at hld5 HSY
      obtain ⟨hst, hrw, hvf, hrc, htf⟩ := HSY.out.fin HLE.out HSY.out.rc
      have HRW := hid hrw
      have HVF := hid hvf
      have HRC := hid hrc
      have HTF := hid htf
      clear hrw hvf hrc htf
      go_wp2_with fail
      try simp only [Exit.inBlock, Exit.then]
      refine bodyPost_ret (results_rv2 rfl _ _ _ _ _ _ rfl rfl HRW.out HRC.out.size) rfl ⟨_, _, rfl, HVF.out, HGA.out, HRC.out, HTF.out⟩
  by_cases d5 : act = 5
  · as_aux_lemma =>
    subst d5
    clear d0 d1 d2 d3 d4
    have x36 := (HACT.out wz _ HS0.out.r6).1.2.1
    obtain ⟨n, HNX⟩ : ∃ q : Int, Hid (x.n = q) := ⟨_, hid rfl⟩
    have HVC := hid (vCrash_any HS0.out.v HG.out n)
    have HGC := hid (crashV_good HG.out n)
    have HAC2 : Hid (∀ (W : World) (gx : Nat), W.heap[gx]? = some (.cells AX 42 (0, 0)) → W.cell? ⟨gx, 36, none⟩ = some (.int .i64 n)) := hid (fun W gx h => by
      have := (HACT.out W gx h).1.2.1
      rw [HNX.out] at this
      exact this)
    rw [HNX.out] at x36
    obtain ⟨cV, HCV⟩ : ∃ q : VaM, Hid (crashV V n = q) := ⟨_, hid rfl⟩
    have HRC14 : Hid (∀ W, RvC W C V → Calls Tryz.prog 29 #[.agg C, .int .i64 n] W (RcPost14 cV W)) := hid (fun W hc => by
      have := refCrash14_any V C n W hc HG.out
      rw [HCV.out] at this
      exact this)
    rw [HCV.out] at HVC HGC
    go_wp2_with fail
    refine HVC.out.mono ?_
    rintro e w1 ⟨rfl, h1, t1⟩
    have HS1 := hid (HS0.out.turn t1 h1)
    clear h1 t1 x36 x0
    have x36 := HAC2.out _ _ HS1.out.r6
    have hld5 := HS1.out.ld5
    go_wp2_with fail
    refine (HRC14.out w1 HS1.out.rc).mono ?_
    rintro e w2 ⟨C2, rfl, hC2, hb2⟩
    have HS2 := hid (HS1.out.below hb2)
    have HC2 := hid hC2
    clear hC2 hb2 x36 hld5
    obtain ⟨hst, hrw, hvf, hrc, htf⟩ := HS2.out.fin HLE.out HC2.out
    have HRW := hid hrw
    have HVF := hid hvf
    have HRC := hid hrc
    have HTF := hid htf
    clear hrw hvf hrc htf
    go_wp2_with fail
    try simp only [Exit.inBlock, Exit.then]
    refine bodyPost_ret (results_rv2 rfl _ _ _ _ _ _ rfl rfl HRW.out HRC.out.size) rfl ⟨_, _, rfl, HVF.out, HGC.out, HRC.out, HTF.out⟩
  · as_aux_lemma =>
    have hld5 := HS0.out.ld5
    obtain ⟨hst, hrw, hvf, hrc, htf⟩ := HS0.out.fin HLE.out HS0.out.rc
    have HRW := hid hrw
    have HVF := hid hvf
    have HRC := hid hrc
    have HTF := hid htf
    clear hrw hvf hrc htf
    go_wp2_with fail
    try simp only [Exit.inBlock, Exit.then]
    refine bodyPost_ret (results_rv2 rfl _ _ _ _ _ _ rfl rfl HRW.out HRC.out.size) rfl ⟨_, _, rfl, HVF.out, HG.out, HRC.out, HTF.out⟩
end Go.Proofs.YtghophbabbaleaaGreatDoor
