/-
  tithingref15.Prep. Printed with genck.py.
-/
import Derived.Test.YtghophbabbaleaaGreatDoorCkRefA
namespace Go.Proofs.YtghophbabbaleaaGreatDoor
set_option maxRecDepth 20000
open Go.RowKit
attribute [local go_sem ↓] exec_load_se exec_alloc_se exec_store_se exec_build_se exec_load_att exec_alloc_att exec_store_att exec_build_att exec_load_hash exec_build_se4 exec_build_at2 exec_build_at3 exec_build_at5 exec_build_at6 exec_load_bk exec_load_ax exec_load_ct
set_option maxHeartbeats 12800000 in
theorem refPrep15_any (s : SeM) (hs : s.Ok) (n : Int) (vb vx : Value) (b : BkM) (a : AcM) (w : World) (hv : BkV w vb b) (hlk : lightK b) (hx : AcV w vx a) (hK : Kst 0 w) :
    Calls Tryz.prog 36 #[.agg (sec s), .int .i64 n, vb, vx] w (TlPost (prepQ s n b a) w) := by
  have HSO := hid hs
  have HSZ0 := hid (sec_size hs)
  have HSC : Hid (∀ (W : World) (g : Nat), W.heap[g]? = some (.cells (sec s) 40 (0, 0)) → (W.cell? ⟨g, 0, none⟩ = some (.int .i64 s.vi) ∧ W.cell? ⟨g, 1, none⟩ = some (.int .i64 s.ph) ∧ W.cell? ⟨g, 2, none⟩ = some (.int .i64 s.pv)) ∧ loadH (.pointer (some ⟨g, 3, none⟩)) W = .ok (.value (.agg (hcells s.pa))) W) := hid (fun W g h => ⟨BoxSe.cells (a := s) h, loadH_mid (BoxSe.hash (a := s) h) hs⟩)
  have HMY : Hid (∀ W, Calls Tryz.prog 15 #[.agg (sec s)] W fun e w' => e = .returned (.bool (mayS s)) ∧ Below W.heap.size W w') := hid (fun W => refMay13_any s W hs)
  have HMB : Hid (∀ W, Below w.heap.size w W → Calls Tryz.prog 64 #[vb] W fun e w' => e = .returned (.bool (mayK b)) ∧ Below W.heap.size W w') := hid (fun W h => refMay7_any vb b W (hv.below h) hlk)
  have HRT : Hid (∀ W, Below w.heap.size w W → Calls Tryz.prog 65 #[.int .i64 n, vx] W fun e w' => e = .returned (.bool (rightX n a)) ∧ Below W.heap.size W w') := hid (fun W h => refRight10_any n vx a W (hx.below h) (hK.below h))
  have HHS : Hid (∀ W, Below w.heap.size w W → Calls Tryz.prog 66 #[vb] W fun e w' => e = .returned (.agg (hcells (hashL b))) ∧ Below W.heap.size W w') := hid (fun W h => by
    have := refHash7_any vb b W (hv.below h) hlk (hK.below h)
    rw [fcells_hl] at this
    exact this)
  have HOL : Hid (∀ W, Calls Tryz.prog 58 #[.agg (sec s), .int .i64 b.vi, .int .i64 2] W fun e w' => e = .returned (.bool (oldS s b.vi 2)) ∧ Below W.heap.size W w') := hid (fun W => refOld15_any s b.vi 2 W)
  have hn0 : SeM.Ok ⟨b.vi, 2, s.pv, s.pa⟩ := hs
  have HBV := hid (fun W (h : Below w.heap.size w W) => hv.below h)
  obtain ⟨sb, rfl, hp, ht⟩ := hv
  have HPO := hid hp
  have HBZ0 := hid (bkc_size sb hp)
  have HBC : Hid (∀ (W : World) (g : Nat), W.heap[g]? = some (.cells (bkc b sb) 47 (0, 0)) → W.cell? ⟨g, 32, none⟩ = some (.int .i64 b.vi) ∧ loadH (.pointer (some ⟨g, 0, none⟩)) W = .ok (.value (.agg (hcells b.par))) W) := hid (fun W g h => ⟨(BoxK.cells (b := b) (s := sb) h hp).1, loadH_mid (BoxK.range (b := b) (s := sb) h) hp⟩)
  have HXV := hid (fun W (h : Below w.heap.size w W) => hx.below h)
  obtain ⟨sx, rfl, hxo, hxe⟩ := hx
  have HXO := hid hxo
  have HXZ0 := hid (axc_size sx hxo)
  have HXC : Hid (∀ (W : World) (g : Nat), W.heap[g]? = some (.cells (axc a sx) 50 (0, 0)) → (W.cell? ⟨g, 1, none⟩ = some (.int .i64 a.vi) ∧ W.cell? ⟨g, 2, none⟩ = some (.int .i64 a.pv)) ∧ loadH (.pointer (some ⟨g, 3, none⟩)) W = .ok (.value (.agg (hcells a.pa))) W) := hid (fun W g h => ⟨⟨cell_blk h 1, cell_blk h 2⟩, loadH_mid (BoxX.pa (a := a) (s := sx) h) hxo.pa⟩)
  have HEQ : Hid (∀ W, (Op.equalIn 10000 38 (.agg (hcells a.pa)) (.agg (hcells b.par))).run Tryz.prog W = .ok (decide (a.pa = b.par)) W) := hid (fun W => eq_hash a.pa b.par hxo.pa hp W)
  have ht0 : TldM.Ok ⟨⟨b.vi, 2, s.pv, s.pa⟩, ⟨0, 2, b.vi, 2, hashL b, a.pv, a.pa, z32⟩, 0⟩ := ⟨hn0, ⟨hashL_len b, hxo.pa, rfl⟩⟩
  have HTK := hid ht0
  have HB4 := hid (buildSe4_eq b.vi 2 s.pv s.pa hs)
  have HB6 := hid (buildAt6_eq 2 b.vi 2 a.pv (hashL b) a.pa (hashL_len b) hxo.pa)
  clear hn0 ht0
  obtain ⟨S, HS⟩ : ∃ q : Array Value, Hid (sec s = q) := ⟨_, hid rfl⟩
  obtain ⟨N, HN⟩ : ∃ q : Array Value, Hid (sec ⟨b.vi, 2, s.pv, s.pa⟩ = q) := ⟨_, hid rfl⟩
  obtain ⟨A0, HA0⟩ : ∃ q : Array Value, Hid (atc ⟨0, 2, b.vi, 2, hashL b, a.pv, a.pa, z32⟩ = q) := ⟨_, hid rfl⟩
  obtain ⟨G, HG⟩ : ∃ q : Array Value, Hid (hcells (hashL b) = q) := ⟨_, hid rfl⟩
  obtain ⟨P, HP⟩ : ∃ q : Array Value, Hid (hcells a.pa = q) := ⟨_, hid rfl⟩
  obtain ⟨U, HU⟩ : ∃ q : Array Value, Hid (hcells s.pa = q) := ⟨_, hid rfl⟩
  obtain ⟨R, HR⟩ : ∃ q : Array Value, Hid (hcells b.par = q) := ⟨_, hid rfl⟩
  obtain ⟨B, HB⟩ : ∃ q : Array Value, Hid (bkc b sb = q) := ⟨_, hid rfl⟩
  obtain ⟨X, HX⟩ : ∃ q : Array Value, Hid (axc a sx = q) := ⟨_, hid rfl⟩
  obtain ⟨eq, HEQQ⟩ : ∃ q : Bool, Hid (decide (a.pa = b.par) = q) := ⟨_, hid rfl⟩
  rw [HS.out] at HSZ0 HSC HMY HOL
  rw [HN.out] at HB4
  rw [HA0.out] at HB6
  rw [HG.out] at HHS HB6
  rw [HP.out] at HXC HB6 HEQ
  rw [HU.out] at HSC HB4
  rw [HR.out] at HBC HEQ
  rw [HEQQ.out] at HEQ
  rw [HB.out] at HBV HBZ0 HBC HMB HHS
  rw [HX.out] at HXV HXZ0 HXC HRT
  rw [HS.out, HB.out, HX.out]
  clear hs hlk hK hp ht hxo hxe HR
  obtain ⟨ZS, HZS⟩ : ∃ q : Array Value, Hid (sec seZ = q) := ⟨_, hid rfl⟩
  obtain ⟨ZA, HZA⟩ : ∃ q : Array Value, Hid (atc atZ = q) := ⟨_, hid rfl⟩
  have HZZ : Hid (ZS.size = 35 ∧ ZA.size = 101) := hid (by rw [← HZS.out, ← HZA.out]; exact ⟨sec_size seZ_ok, atc_size atZ_ok⟩)
  have HBS : Hid (∀ W, buildSe W = .ok (.value (.agg ZS)) W) := hid (fun W => by rw [← HZS.out]; exact buildSe_eq W)
  have HBA : Hid (∀ W, buildAtt W = .ok (.value (.agg ZA)) W) := hid (fun W => by rw [← HZA.out]; exact buildAtt_eq W)
  have HLS : Hid (∀ W, allocSe W = .ok (.value (.pointer (some ⟨W.heap.size, 0, none⟩))) (W.alloc (.cells ZS 40))) := hid (fun W => by rw [← HZS.out]; exact allocSe_eq W)
  have HLA : Hid (∀ W, allocAtt W = .ok (.value (.pointer (some ⟨W.heap.size, 0, none⟩))) (W.alloc (.cells ZA 52))) := hid (fun W => by rw [← HZA.out]; exact allocAtt_eq W)
  have hal1 : allocSe (((w.alloc (.cells S 40)).alloc (.cells B 47)).alloc (.cells X 50)) = .ok (.value (.pointer (some ⟨w.heap.size + 3, 0, none⟩))) ((((w.alloc (.cells S 40)).alloc (.cells B 47)).alloc (.cells X 50)).alloc (.cells ZS 40)) := by
    have := HLS.out (((w.alloc (.cells S 40)).alloc (.cells B 47)).alloc (.cells X 50))
    rwa [show ((((w.alloc (.cells S 40)).alloc (.cells B 47)).alloc (.cells X 50))).heap.size = w.heap.size + 3 from by simp] at this
  have hal2 : allocAtt ((((w.alloc (.cells S 40)).alloc (.cells B 47)).alloc (.cells X 50)).alloc (.cells ZS 40)) = .ok (.value (.pointer (some ⟨w.heap.size + 4, 0, none⟩))) (((((w.alloc (.cells S 40)).alloc (.cells B 47)).alloc (.cells X 50)).alloc (.cells ZS 40)).alloc (.cells ZA 52)) := by
    have := HLA.out ((((w.alloc (.cells S 40)).alloc (.cells B 47)).alloc (.cells X 50)).alloc (.cells ZS 40))
    rwa [show (((((w.alloc (.cells S 40)).alloc (.cells B 47)).alloc (.cells X 50)).alloc (.cells ZS 40))).heap.size = w.heap.size + 4 from by simp] at this
  obtain ⟨hr0, hr1, hr2, hr3, hr4⟩ := rows_five w (.cells S 40) (.cells B 47) (.cells X 50) (.cells ZS 40) (.cells ZA 52)
  have HBZ : Hid (Below w.heap.size w (((((w.alloc (.cells S 40)).alloc (.cells B 47)).alloc (.cells X 50)).alloc (.cells ZS 40)).alloc (.cells ZA 52))) := hid ((((((Below.refl w.heap.size w).alloc (Nat.le_refl _) _).alloc (by simp; try omega) _).alloc (by simp; try omega) _).alloc (by simp; try omega) _).alloc (by simp; try omega) _)
  have HR : Hid (ResSt w (((((w.alloc (.cells S 40)).alloc (.cells B 47)).alloc (.cells X 50)).alloc (.cells ZS 40)).alloc (.cells ZA 52)) (w.heap.size + 3) (w.heap.size + 4) ZS ZA) := hid ⟨hr3, hr4, by omega, by omega, HBZ.out, HZZ.out.1, HZZ.out.2⟩
  have HR0 := hid (show (((((w.alloc (.cells S 40)).alloc (.cells B 47)).alloc (.cells X 50)).alloc (.cells ZS 40)).alloc (.cells ZA 52)).heap[w.heap.size]? = some (.cells S 40 (0, 0)) from hr0)
  have HR1 := hid (show (((((w.alloc (.cells S 40)).alloc (.cells B 47)).alloc (.cells X 50)).alloc (.cells ZS 40)).alloc (.cells ZA 52)).heap[w.heap.size + 1]? = some (.cells B 47 (0, 0)) from hr1)
  have HR2 := hid (show (((((w.alloc (.cells S 40)).alloc (.cells B 47)).alloc (.cells X 50)).alloc (.cells ZS 40)).alloc (.cells ZA 52)).heap[w.heap.size + 1 + 1]? = some (.cells X 50 (0, 0)) from hr2)
  clear hr0 hr1 hr2 hr3 hr4
  go_enter Tryz.func36, Tryz.ntmps36
  go_upto_region 1 with (fail)
  clear hal1 hal2
  generalize (((((w.alloc (.cells S 40)).alloc (.cells B 47)).alloc (.cells X 50)).alloc (.cells ZS 40)).alloc (.cells ZA 52)) = wz at *
  have l0 := loadSe_row HR0.out HSZ0.out
  obtain ⟨m, HM⟩ : ∃ q : Bool, Hid (mayS s = q) := ⟨_, hid rfl⟩
  rw [HM.out] at HMY
  obtain ⟨k, HKB⟩ : ∃ q : Bool, Hid (mayK b = q) := ⟨_, hid rfl⟩
  rw [HKB.out] at HMB
  obtain ⟨r, HRX⟩ : ∃ q : Bool, Hid (rightX n a = q) := ⟨_, hid rfl⟩
  rw [HRX.out] at HRT
  obtain ⟨bv, HBVV⟩ : ∃ q : Int, Hid (b.vi = q) := ⟨_, hid rfl⟩
  obtain ⟨av, HAV⟩ : ∃ q : Int, Hid (a.vi = q) := ⟨_, hid rfl⟩
  obtain ⟨ol, HO⟩ : ∃ q : Bool, Hid (oldS s b.vi 2 = q) := ⟨_, hid rfl⟩
  rw [HO.out] at HOL
  rw [HBVV.out] at HBC HOL HB4 HB6
  rw [HAV.out] at HXC
  have HFR : Hid (∀ W, Tws (w.heap.size + 3) (w.heap.size + 4) wz W → W.heap[w.heap.size]? = some (.cells S 40 (0, 0)) ∧ W.heap[w.heap.size + 1]? = some (.cells B 47 (0, 0)) ∧ W.heap[w.heap.size + 1 + 1]? = some (.cells X 50 (0, 0))) := hid (fun W t => ⟨(t.block _ (lt_of_block HR0.out) (by omega) (by omega)).trans HR0.out, (t.block _ (lt_of_block HR1.out) (by omega) (by omega)).trans HR1.out, (t.block _ (lt_of_block HR2.out) (by omega) (by omega)).trans HR2.out⟩)
  have HL : Hid (∀ W, Tws (w.heap.size + 3) (w.heap.size + 4) wz W → loadSe (.pointer (some ⟨w.heap.size, 0, none⟩)) W = .ok (.value (.agg S)) W ∧ loadK (.pointer (some ⟨w.heap.size + 1, 0, none⟩)) W = .ok (.value (.agg B)) W ∧ loadAx (.pointer (some ⟨w.heap.size + 1 + 1, 0, none⟩)) W = .ok (.value (.agg X)) W) := hid (fun W t => ⟨loadSe_row (HFR.out W t).1 HSZ0.out, loadK_row (HFR.out W t).2.1 HBZ0.out, loadAx_row (HFR.out W t).2.2 HXZ0.out⟩)
  have HBW : Hid (∀ W, Below wz.heap.size wz W → Below w.heap.size w W) := hid (fun W h => HBZ.out.trans (h.mono HBZ.out.size))
  go_wp2_with fail
  refine (HMY.out wz).mono ?_
  rintro e x1 ⟨rfl, hx1⟩
  have HX1 := hid hx1
  have HRS1 := hid (HR.out.below hx1)
  clear l0 hx1
  cases m with
  | false =>
    have HQ : Hid (prepQ s n b a = noQ 1) := hid (by unfold prepQ; rw [if_neg (fun h => by rw [HM.out] at h; cases h.1)])
    obtain ⟨hst, hsa, hrs, hra, hbe, hzs, hza⟩ := (HRS1.out).fin (t := noQ 1) (noQ_ok 1)
    have hbs := HBS.out
    have hba := HBA.out
    rw [show TldM.s (noQ 1) = seZ from rfl, HZS.out] at hst hsa hrs hra hbe hzs
    rw [show TldM.a (noQ 1) = atZ from rfl, HZA.out] at hsa hrs hra hbe hza
    have HRS := hid hrs
    have HRA := hid hra
    have HBE := hid hbe
    clear hrs hra hbe hzs hza
    go_wp2_with fail
    try simp only [Exit.inBlock, Exit.then]
    refine bodyPost_ret (results_ck rfl _ _ _ _ _ _ _ _ _ rfl rfl rfl HRS.out HRA.out HZZ.out.1 HZZ.out.2) rfl ⟨?_, HBE.out⟩
    rw [HQ.out, ← HZS.out, ← HZA.out]
    rfl
  | true =>
  obtain ⟨_, lb, _⟩ := HL.out x1 (Tws.of HX1.out)
  go_wp2_with fail
  refine (HMB.out x1 (HBW.out _ HX1.out)).mono ?_
  rintro e x2 ⟨rfl, hx2⟩
  have HX2 := hid (HX1.out.trans (hx2.mono HX1.out.size))
  have HRS2 := hid (HR.out.below HX2.out)
  clear lb hx2
  cases k with
  | false =>
    have HQ : Hid (prepQ s n b a = noQ 1) := hid (by unfold prepQ; rw [if_neg (fun h => by rw [HKB.out] at h; cases h.2.1)])
    obtain ⟨hst, hsa, hrs, hra, hbe, hzs, hza⟩ := (HRS2.out).fin (t := noQ 1) (noQ_ok 1)
    have hbs := HBS.out
    have hba := HBA.out
    rw [show TldM.s (noQ 1) = seZ from rfl, HZS.out] at hst hsa hrs hra hbe hzs
    rw [show TldM.a (noQ 1) = atZ from rfl, HZA.out] at hsa hrs hra hbe hza
    have HRS := hid hrs
    have HRA := hid hra
    have HBE := hid hbe
    clear hrs hra hbe hzs hza
    go_wp2_with fail
    try simp only [Exit.inBlock, Exit.then]
    refine bodyPost_ret (results_ck rfl _ _ _ _ _ _ _ _ _ rfl rfl rfl HRS.out HRA.out HZZ.out.1 HZZ.out.2) rfl ⟨?_, HBE.out⟩
    rw [HQ.out, ← HZS.out, ← HZA.out]
    rfl
  | true =>
  obtain ⟨kb, _⟩ := HBC.out x2 _ (HFR.out x2 (Tws.of HX2.out)).2.1
  by_cases p0 : bv = 0
  · have HQ : Hid (prepQ s n b a = noQ 1) := hid (by unfold prepQ; rw [if_neg (fun h => h.2.2 (HBVV.out.trans p0))])
    subst p0
    obtain ⟨hst, hsa, hrs, hra, hbe, hzs, hza⟩ := (HRS2.out).fin (t := noQ 1) (noQ_ok 1)
    have hbs := HBS.out
    have hba := HBA.out
    rw [show TldM.s (noQ 1) = seZ from rfl, HZS.out] at hst hsa hrs hra hbe hzs
    rw [show TldM.a (noQ 1) = atZ from rfl, HZA.out] at hsa hrs hra hbe hza
    have HRS := hid hrs
    have HRA := hid hra
    have HBE := hid hbe
    clear hrs hra hbe hzs hza
    go_wp2_with fail
    try simp only [Exit.inBlock, Exit.then]
    refine bodyPost_ret (results_ck rfl _ _ _ _ _ _ _ _ _ rfl rfl rfl HRS.out HRA.out HZZ.out.1 HZZ.out.2) rfl ⟨?_, HBE.out⟩
    rw [HQ.out, ← HZS.out, ← HZA.out]
    rfl
  have HV0 : Hid (mayS s = true ∧ mayK b = true ∧ b.vi ≠ 0) := hid ⟨HM.out, HKB.out, fun h => p0 (HBVV.out.symm.trans h)⟩
  go_upto_region 3 with (fail)
  clear kb p0
  obtain ⟨_, _, lx⟩ := HL.out x2 (Tws.of HX2.out)
  go_wp2_with fail
  refine (HRT.out x2 (HBW.out _ HX2.out)).mono ?_
  rintro e x5 ⟨rfl, hx5⟩
  have HX5 := hid (HX2.out.trans (hx5.mono HX2.out.size))
  have HRS5 := hid (HR.out.below HX5.out)
  clear hx5 lx
  cases r with
  | false =>
    have HQ : Hid (prepQ s n b a = noQ 7) := hid (by unfold prepQ; rw [if_pos HV0.out, if_neg (fun h => by rw [HRX.out] at h; cases h.1)])
    obtain ⟨hst, hsa, hrs, hra, hbe, hzs, hza⟩ := (HRS5.out).fin (t := noQ 7) (noQ_ok 7)
    have hbs := HBS.out
    have hba := HBA.out
    rw [show TldM.s (noQ 7) = seZ from rfl, HZS.out] at hst hsa hrs hra hbe hzs
    rw [show TldM.a (noQ 7) = atZ from rfl, HZA.out] at hsa hrs hra hbe hza
    have HRS := hid hrs
    have HRA := hid hra
    have HBE := hid hbe
    clear hrs hra hbe hzs hza
    go_wp2_with fail
    try simp only [Exit.inBlock, Exit.then]
    refine bodyPost_ret (results_ck rfl _ _ _ _ _ _ _ _ _ rfl rfl rfl HRS.out HRA.out HZZ.out.1 HZZ.out.2) rfl ⟨?_, HBE.out⟩
    rw [HQ.out, ← HZS.out, ← HZA.out]
    rfl
  | true =>
  have f5 := HFR.out x5 (Tws.of HX5.out)
  obtain ⟨kb, hb⟩ := HBC.out x5 _ f5.2.1
  obtain ⟨⟨kx, _⟩, hpx⟩ := HXC.out x5 _ f5.2.2
  have heq := HEQ.out
  clear f5
  by_cases p1 : av = bv
  · cases eq with
    | false =>
      have HQ : Hid (prepQ s n b a = noQ 7) := hid (by unfold prepQ; rw [if_pos HV0.out, if_neg (fun h => of_decide_eq_false HEQQ.out h.2.2)])
      subst p1
      obtain ⟨hst, hsa, hrs, hra, hbe, hzs, hza⟩ := (HRS5.out).fin (t := noQ 7) (noQ_ok 7)
      have hbs := HBS.out
      have hba := HBA.out
      rw [show TldM.s (noQ 7) = seZ from rfl, HZS.out] at hst hsa hrs hra hbe hzs
      rw [show TldM.a (noQ 7) = atZ from rfl, HZA.out] at hsa hrs hra hbe hza
      have HRS := hid hrs
      have HRA := hid hra
      have HBE := hid hbe
      clear hrs hra hbe hzs hza
      go_wp2_with fail
      try simp only [Exit.inBlock, Exit.then]
      refine bodyPost_ret (results_ck rfl _ _ _ _ _ _ _ _ _ rfl rfl rfl HRS.out HRA.out HZZ.out.1 HZZ.out.2) rfl ⟨?_, HBE.out⟩
      rw [HQ.out, ← HZS.out, ← HZA.out]
      rfl
    | true =>
      have HQ0 : Hid (prepQ s n b a = stepQ s ⟨b.vi, 2, s.pv, s.pa⟩ ⟨0, 0, 0, 0, hashL b, a.pv, a.pa, z32⟩) := hid (by unfold prepQ; rw [if_pos HV0.out, if_pos ⟨HRX.out, HAV.out.trans (p1.trans HBVV.out.symm), of_decide_eq_true HEQQ.out⟩])
      subst p1
      go_upto_region 5 with (fail)
      obtain ⟨l5, _, _⟩ := HL.out x5 (Tws.of HX5.out)
      clear hb kx hpx heq
      go_wp2_with fail
      refine (HOL.out x5).mono ?_
      rintro e x6 ⟨rfl, hx6⟩
      have HX6 := hid (HX5.out.trans (hx6.mono HX5.out.size))
      have HRS6 := hid (HR.out.below HX6.out)
      clear hx6 l5 kb
      cases ol with
      | true =>
        have HQ : Hid (prepQ s n b a = noQ 11) := hid (by rw [HQ0.out]; exact stepQ_old HO.out)
        obtain ⟨hst, hsa, hrs, hra, hbe, hzs, hza⟩ := (HRS6.out).fin (t := noQ 11) (noQ_ok 11)
        have hbs := HBS.out
        have hba := HBA.out
        rw [show TldM.s (noQ 11) = seZ from rfl, HZS.out] at hst hsa hrs hra hbe hzs
        rw [show TldM.a (noQ 11) = atZ from rfl, HZA.out] at hsa hrs hra hbe hza
        have HRS := hid hrs
        have HRA := hid hra
        have HBE := hid hbe
        clear hrs hra hbe hzs hza
        go_wp2_with fail
        try simp only [Exit.inBlock, Exit.then]
        refine bodyPost_ret (results_ck rfl _ _ _ _ _ _ _ _ _ rfl rfl rfl HRS.out HRA.out HZZ.out.1 HZZ.out.2) rfl ⟨?_, HBE.out⟩
        rw [HQ.out, ← HZS.out, ← HZA.out]
        rfl
      | false =>
        have HQ : Hid (prepQ s n b a = ⟨⟨b.vi, 2, s.pv, s.pa⟩, ⟨0, 2, b.vi, 2, hashL b, a.pv, a.pa, z32⟩, 0⟩) := hid (by rw [HQ0.out]; exact stepQ_go HO.out)
        go_upto_region 7 with (fail)
        have HXD := hid (HX6.out.trans (Below.refl wz.heap.size x6).drew)
        have HRSD := hid (HR.out.below HXD.out)
        have HLN : Hid (∀ W, Tws (w.heap.size + 3) (w.heap.size + 4) x6.drew W → ((W.cell? ⟨w.heap.size, 2, none⟩ = some (.int .i64 s.pv) ∧ loadH (.pointer (some ⟨w.heap.size, 3, none⟩)) W = .ok (.value (.agg U)) W) ∧ loadK (.pointer (some ⟨w.heap.size + 1, 0, none⟩)) W = .ok (.value (.agg B)) W ∧ W.cell? ⟨w.heap.size + 1, 32, none⟩ = some (.int .i64 av)) ∧ W.cell? ⟨w.heap.size + 1 + 1, 2, none⟩ = some (.int .i64 a.pv) ∧ loadH (.pointer (some ⟨w.heap.size + 1 + 1, 3, none⟩)) W = .ok (.value (.agg P)) W) := hid (fun W t => by
          have t0 : Tws (w.heap.size + 3) (w.heap.size + 4) wz W := (Tws.of HXD.out).trans t
          obtain ⟨f0, f1, f2⟩ := HFR.out W t0
          exact ⟨⟨⟨(HSC.out W _ f0).1.2.2, (HSC.out W _ f0).2⟩, (HL.out W t0).2.1, (HBC.out W _ f1).1⟩, (HXC.out W _ f2).1.2, (HXC.out W _ f2).2⟩)
        have hb4 := HB4.out
        have hb6 := HB6.out
        refine wp_region_held_drew (S := fun W => Tws (w.heap.size + 3) (w.heap.size + 4) x6.drew W) (by kernel_rfl) (Tws.refl _ _ _) (fun hHeld => ?_)
        refine' tk (i := 0) (v := _) rfl ?_ ?_
        rotate_left
        · (intro W hW; (try dsimp only at hW); go_simp; first | done | with_reducible rfl)
        try simp only [lay]
        refine' tk (i := 1) (v := _) rfl ?_ ?_
        rotate_left
        · (intro W hW; (try dsimp only at hW); have hW1 := (HLN.out W hW).1.2.2; go_simp; first | done | with_reducible rfl)
        try simp only [lay]
        refine' tk (i := 2) (v := _) rfl ?_ ?_
        rotate_left
        · (intro W hW; (try dsimp only at hW); go_simp; first | done | with_reducible rfl)
        try simp only [lay]
        refine' tk (i := 3) (v := _) rfl ?_ ?_
        rotate_left
        · (intro W hW; (try dsimp only at hW); have hW1 := (HLN.out W hW).1.1.1; go_simp; first | done | with_reducible rfl)
        try simp only [lay]
        refine' tk (i := 4) (v := _) rfl ?_ ?_
        rotate_left
        · (intro W hW; (try dsimp only at hW); go_simp; first | done | with_reducible rfl)
        try simp only [lay]
        refine' tk (i := 5) (v := _) rfl ?_ ?_
        rotate_left
        · (intro W hW; (try dsimp only at hW); have hW1 := (HLN.out W hW).1.1.2; go_simp; first | done | with_reducible rfl)
        try simp only [lay]
        refine' tk (i := 6) (v := _) rfl ?_ ?_
        rotate_left
        · (intro W hW; (try dsimp only at hW); go_simp; first | done | with_reducible rfl)
        try simp only [lay]
        refine' tk (i := 7) (v := _) rfl ?_ ?_
        rotate_left
        · (intro W hW; (try dsimp only at hW); go_simp; first | done | with_reducible rfl)
        try simp only [lay]
        refine' tk (i := 8) (v := _) rfl ?_ ?_
        rotate_left
        · (intro W hW; (try dsimp only at hW); have hW1 := (HLN.out W hW).1.2.2; go_simp; first | done | with_reducible rfl)
        try simp only [lay]
        refine' tk (i := 9) (v := _) rfl (fun W hW => (HLN.out W hW).1.2.1) ?_
        try simp only [lay]
        refine' tk (i := 11) (v := _) rfl ?_ ?_
        rotate_left
        · (intro W hW; (try dsimp only at hW); go_simp; first | done | with_reducible rfl)
        try simp only [lay]
        refine' tk (i := 12) (v := _) rfl ?_ ?_
        rotate_left
        · (intro W hW; (try dsimp only at hW); have hW1 := (HLN.out W hW).2.1; go_simp; first | done | with_reducible rfl)
        try simp only [lay]
        refine' tk (i := 13) (v := _) rfl ?_ ?_
        rotate_left
        · (intro W hW; (try dsimp only at hW); go_simp; first | done | with_reducible rfl)
        try simp only [lay]
        refine' tk (i := 14) (v := _) rfl ?_ ?_
        rotate_left
        · (intro W hW; (try dsimp only at hW); have hW1 := (HLN.out W hW).2.2; go_simp; first | done | with_reducible rfl)
        try simp only [lay]
        refine call_on (i := 10) rfl (by kernel_rfl) (by rfl) (fun K hK => ?_)
        go_simp
        refine (HHS.out x6.drew (HBW.out _ HXD.out)).mono ?_
        rintro e x8 ⟨rfl, hx8'⟩
        have HT8 := hid (Tws.of (b := w.heap.size + 3) (a := w.heap.size + 4) hx8')
        have HRS8 := hid (HRSD.out.below hx8')
        clear hx8'
        refine hK.out _ _ (HT8.out) (fun hHeld => ?_)
        clear hK K
        try simp only [lay]
        refine' tk (i := 15) (v := _) rfl ?_ ?_
        rotate_left
        · (intro W hW; (try dsimp only at hW); go_simp; first | done | with_reducible rfl)
        try simp only [lay]
        obtain ⟨hst, hsa, hrs, hra, hbe, hzs, hza⟩ := (HRS8.out).fin (t := ⟨⟨b.vi, 2, s.pv, s.pa⟩, ⟨0, 2, b.vi, 2, hashL b, a.pv, a.pa, z32⟩, 0⟩) HTK.out
        simp only at hst hsa hrs hra hbe hzs hza
        rw [HN.out] at hst hsa hrs hra hbe hzs
        rw [HA0.out] at hsa hrs hra hbe hza
        have HRS := hid hrs
        have HRA := hid hra
        have HBE := hid hbe
        have HSZ := hid (And.intro hzs hza)
        clear hrs hra hbe hzs hza
        refine call_on (i := 16) rfl (by kernel_rfl) (by rfl) (fun K hK => ?_)
        go_simp
        refine hK.out _ _ (HT8.out.setS N) (fun hHeld => ?_)
        clear hK K
        try simp only [lay]
        refine call_on (i := 17) rfl (by kernel_rfl) (by rfl) (fun K hK => ?_)
        go_simp
        refine hK.out _ _ ((HT8.out.setS N).setY A0) (fun hHeld => ?_)
        clear hK K
        try simp only [lay]
        refine' tk (i := 18) (v := _) rfl ?_ ?_
        rotate_left
        · (intro W hW; (try dsimp only at hW); go_simp; first | done | with_reducible rfl)
        try simp only [lay]
        refine wpAnyH_done (by kernel_rfl) ?_ _
        clear hb4 hb6
        clear hHeld hst hsa
        go_wp2_with fail
        try simp only [Exit.inBlock, Exit.then]
        refine bodyPost_ret (results_ck rfl _ _ _ _ _ _ _ _ _ rfl rfl rfl HRS.out HRA.out HSZ.out.1 HSZ.out.2) rfl ⟨?_, HBE.out⟩
        rw [HQ.out, ← HN.out, ← HA0.out]
        rfl
  · have HQ : Hid (prepQ s n b a = noQ 7) := hid (by unfold prepQ; rw [if_pos HV0.out, if_neg (fun h => p1 (HAV.out.symm.trans (h.2.1.trans HBVV.out)))])
    obtain ⟨hst, hsa, hrs, hra, hbe, hzs, hza⟩ := (HRS5.out).fin (t := noQ 7) (noQ_ok 7)
    have hbs := HBS.out
    have hba := HBA.out
    rw [show TldM.s (noQ 7) = seZ from rfl, HZS.out] at hst hsa hrs hra hbe hzs
    rw [show TldM.a (noQ 7) = atZ from rfl, HZA.out] at hsa hrs hra hbe hza
    have HRS := hid hrs
    have HRA := hid hra
    have HBE := hid hbe
    clear hrs hra hbe hzs hza
    go_wp2_with fail
    try simp only [Exit.inBlock, Exit.then]
    refine bodyPost_ret (results_ck rfl _ _ _ _ _ _ _ _ _ rfl rfl rfl HRS.out HRA.out HZZ.out.1 HZZ.out.2) rfl ⟨?_, HBE.out⟩
    rw [HQ.out, ← HZS.out, ← HZA.out]
    rfl
end Go.Proofs.YtghophbabbaleaaGreatDoor
