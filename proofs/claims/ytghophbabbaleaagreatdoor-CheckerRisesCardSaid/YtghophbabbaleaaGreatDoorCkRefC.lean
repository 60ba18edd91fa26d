/-
  tithingref15.Store. Printed with genck.py.
-/
import Derived.Test.YtghophbabbaleaaGreatDoorCkRefA
namespace Go.Proofs.YtghophbabbaleaaGreatDoor
set_option maxRecDepth 20000
open Go.RowKit
attribute [local go_sem ↓] exec_load_se exec_alloc_se exec_store_se exec_build_se exec_load_att exec_alloc_att exec_store_att exec_build_att exec_load_hash exec_build_se4 exec_build_at2 exec_build_at3 exec_build_at5 exec_build_at6 exec_load_bk exec_load_ax exec_load_ct
set_option maxHeartbeats 12800000 in
theorem refStore15_any (s : SeM) (hs : s.Ok) (n : Int) (v : Value) (c : CtM) (w : World) (hv : CtV w v c) (hK : Kst 0 w) :
    Calls Tryz.prog 38 #[.agg (sec s), .int .i64 n, v] w (TlPost (storeQ s n c) w) := by
  have HSO := hid hs
  have HSZ0 := hid (sec_size hs)
  have HSC : Hid (∀ (W : World) (g : Nat), W.heap[g]? = some (.cells (sec s) 40 (0, 0)) → (W.cell? ⟨g, 0, none⟩ = some (.int .i64 s.vi) ∧ W.cell? ⟨g, 1, none⟩ = some (.int .i64 s.ph) ∧ W.cell? ⟨g, 2, none⟩ = some (.int .i64 s.pv)) ∧ loadH (.pointer (some ⟨g, 3, none⟩)) W = .ok (.value (.agg (hcells s.pa))) W) := hid (fun W g h => ⟨BoxSe.cells (a := s) h, loadH_mid (BoxSe.hash (a := s) h) hs⟩)
  have HMY : Hid (∀ W, Calls Tryz.prog 15 #[.agg (sec s)] W fun e w' => e = .returned (.bool (mayS s)) ∧ Below W.heap.size W w') := hid (fun W => refMay13_any s W hs)
  have HRT : Hid (∀ W, Below w.heap.size w W → Calls Tryz.prog 68 #[.int .i64 n, v] W fun e w' => e = .returned (.bool (rightC n c)) ∧ Below W.heap.size W w') := hid (fun W h => refRight9_any n v c W (hv.below h) (hK.below h))
  have HOL : Hid (∀ W, Calls Tryz.prog 58 #[.agg (sec s), .int .i64 c.att.vi, .int .i64 3] W fun e w' => e = .returned (.bool (oldS s c.att.vi 3)) ∧ Below W.heap.size W w') := hid (fun W => refOld15_any s c.att.vi 3 W)
  have HCV := hid (fun W (h : Below w.heap.size w W) => hv.below h)
  obtain ⟨sc, rfl, hco, hce⟩ := hv
  have HCO := hid hco
  have HCZ0 := hid (ctc_size sc hco.att)
  have HCC : Hid (∀ (W : World) (g : Nat), W.heap[g]? = some (.cells (ctc c sc) 55 (0, 0)) → (W.cell? ⟨g, 1, none⟩ = some (.int .i64 c.att.ki) ∧ W.cell? ⟨g, 2, none⟩ = some (.int .i64 c.att.vi)) ∧ loadH (.pointer (some ⟨g, 4, none⟩)) W = .ok (.value (.agg (hcells c.att.ha))) W) := hid (fun W g h => by
    have hat := BoxC.att (c := c) (s := sc) h
    refine ⟨⟨hat 1 _ rfl, hat 2 _ rfl⟩, loadH_mid (fun j u hu => ?_) hco.att.ha⟩
    have e : (atl c.att)[4 + j]? = some u := by
      rw [atl_ha, List.getElem?_append_right (by simp), List.getElem?_append_left (by simpa using (List.getElem?_eq_some_iff.1 hu).1)]
      simpa using hu
    have := hat (4 + j) u e
    rwa [Nat.zero_add] at this)
  have ht0 : TldM.Ok ⟨⟨c.att.vi, 3, c.att.vi, c.att.ha⟩, ⟨0, 3, c.att.vi, 3, c.att.ha, c.att.vi, c.att.ha, z32⟩, 0⟩ := ⟨hco.att.ha, ⟨hco.att.ha, hco.att.ha, rfl⟩⟩
  have HTK := hid ht0
  have HB4 := hid (buildSe4_eq c.att.vi 3 c.att.vi c.att.ha hco.att.ha)
  have HB6 := hid (buildAt6_eq 3 c.att.vi 3 c.att.vi c.att.ha c.att.ha hco.att.ha hco.att.ha)
  clear ht0
  obtain ⟨S, HS⟩ : ∃ q : Array Value, Hid (sec s = q) := ⟨_, hid rfl⟩
  obtain ⟨N, HN⟩ : ∃ q : Array Value, Hid (sec ⟨c.att.vi, 3, c.att.vi, c.att.ha⟩ = q) := ⟨_, hid rfl⟩
  obtain ⟨A0, HA0⟩ : ∃ q : Array Value, Hid (atc ⟨0, 3, c.att.vi, 3, c.att.ha, c.att.vi, c.att.ha, z32⟩ = q) := ⟨_, hid rfl⟩
  obtain ⟨G, HG⟩ : ∃ q : Array Value, Hid (hcells c.att.ha = q) := ⟨_, hid rfl⟩
  obtain ⟨C, HC⟩ : ∃ q : Array Value, Hid (ctc c sc = q) := ⟨_, hid rfl⟩
  rw [HS.out] at HSZ0 HSC HMY HOL
  rw [HN.out] at HB4
  rw [HA0.out] at HB6
  rw [HG.out] at HCC HB4 HB6
  rw [HC.out] at HCV HCZ0 HCC HRT
  rw [HS.out, HC.out]
  clear hs hK hco hce
  obtain ⟨ZS, HZS⟩ : ∃ q : Array Value, Hid (sec seZ = q) := ⟨_, hid rfl⟩
  obtain ⟨ZA, HZA⟩ : ∃ q : Array Value, Hid (atc atZ = q) := ⟨_, hid rfl⟩
  have HZZ : Hid (ZS.size = 35 ∧ ZA.size = 101) := hid (by rw [← HZS.out, ← HZA.out]; exact ⟨sec_size seZ_ok, atc_size atZ_ok⟩)
  have HBS : Hid (∀ W, buildSe W = .ok (.value (.agg ZS)) W) := hid (fun W => by rw [← HZS.out]; exact buildSe_eq W)
  have HBA : Hid (∀ W, buildAtt W = .ok (.value (.agg ZA)) W) := hid (fun W => by rw [← HZA.out]; exact buildAtt_eq W)
  have HLS : Hid (∀ W, allocSe W = .ok (.value (.pointer (some ⟨W.heap.size, 0, none⟩))) (W.alloc (.cells ZS 40))) := hid (fun W => by rw [← HZS.out]; exact allocSe_eq W)
  have HLA : Hid (∀ W, allocAtt W = .ok (.value (.pointer (some ⟨W.heap.size, 0, none⟩))) (W.alloc (.cells ZA 52))) := hid (fun W => by rw [← HZA.out]; exact allocAtt_eq W)
  have hal1 : allocSe ((w.alloc (.cells S 40)).alloc (.cells C 55)) = .ok (.value (.pointer (some ⟨w.heap.size + 2, 0, none⟩))) (((w.alloc (.cells S 40)).alloc (.cells C 55)).alloc (.cells ZS 40)) := by
    have := HLS.out ((w.alloc (.cells S 40)).alloc (.cells C 55))
    rwa [show (((w.alloc (.cells S 40)).alloc (.cells C 55))).heap.size = w.heap.size + 2 from by simp] at this
  have hal2 : allocAtt (((w.alloc (.cells S 40)).alloc (.cells C 55)).alloc (.cells ZS 40)) = .ok (.value (.pointer (some ⟨w.heap.size + 3, 0, none⟩))) ((((w.alloc (.cells S 40)).alloc (.cells C 55)).alloc (.cells ZS 40)).alloc (.cells ZA 52)) := by
    have := HLA.out (((w.alloc (.cells S 40)).alloc (.cells C 55)).alloc (.cells ZS 40))
    rwa [show ((((w.alloc (.cells S 40)).alloc (.cells C 55)).alloc (.cells ZS 40))).heap.size = w.heap.size + 3 from by simp] at this
  obtain ⟨hr0, hr1, hr2, hr3⟩ := rows_four w (.cells S 40) (.cells C 55) (.cells ZS 40) (.cells ZA 52)
  have HBZ : Hid (Below w.heap.size w ((((w.alloc (.cells S 40)).alloc (.cells C 55)).alloc (.cells ZS 40)).alloc (.cells ZA 52))) := hid (((((Below.refl w.heap.size w).alloc (Nat.le_refl _) _).alloc (by simp; try omega) _).alloc (by simp; try omega) _).alloc (by simp; try omega) _)
  have HR : Hid (ResSt w ((((w.alloc (.cells S 40)).alloc (.cells C 55)).alloc (.cells ZS 40)).alloc (.cells ZA 52)) (w.heap.size + 2) (w.heap.size + 3) ZS ZA) := hid ⟨hr2, hr3, by omega, by omega, HBZ.out, HZZ.out.1, HZZ.out.2⟩
  have HR0 := hid (show ((((w.alloc (.cells S 40)).alloc (.cells C 55)).alloc (.cells ZS 40)).alloc (.cells ZA 52)).heap[w.heap.size]? = some (.cells S 40 (0, 0)) from hr0)
  have HR1 := hid (show ((((w.alloc (.cells S 40)).alloc (.cells C 55)).alloc (.cells ZS 40)).alloc (.cells ZA 52)).heap[w.heap.size + 1]? = some (.cells C 55 (0, 0)) from hr1)
  clear hr0 hr1 hr2 hr3
  go_enter Tryz.func38, Tryz.ntmps38
  go_upto_region 1 with (fail)
  clear hal1 hal2
  generalize ((((w.alloc (.cells S 40)).alloc (.cells C 55)).alloc (.cells ZS 40)).alloc (.cells ZA 52)) = wz at *
  have l0 := loadSe_row HR0.out HSZ0.out
  obtain ⟨m, HM⟩ : ∃ q : Bool, Hid (mayS s = q) := ⟨_, hid rfl⟩
  rw [HM.out] at HMY
  obtain ⟨r, HRX⟩ : ∃ q : Bool, Hid (rightC n c = q) := ⟨_, hid rfl⟩
  rw [HRX.out] at HRT
  obtain ⟨cv, HCV2⟩ : ∃ q : Int, Hid (c.att.vi = q) := ⟨_, hid rfl⟩
  obtain ⟨ki, HKI⟩ : ∃ q : Int, Hid (c.att.ki = q) := ⟨_, hid rfl⟩
  obtain ⟨ol, HO⟩ : ∃ q : Bool, Hid (oldS s c.att.vi 3 = q) := ⟨_, hid rfl⟩
  rw [HO.out] at HOL
  rw [HCV2.out] at HCC HOL HB4 HB6
  rw [HKI.out] at HCC
  go_wp2_with fail
  refine (HMY.out wz).mono ?_
  rintro e x1 ⟨rfl, hx1⟩
  have HRS1 := hid (HR.out.below hx1)
  have HS1 := hid ((hx1.block _ (lt_of_block HR0.out)).trans HR0.out)
  have HC1 := hid ((hx1.block _ (lt_of_block HR1.out)).trans HR1.out)
  clear l0 hx1
  cases m with
  | false =>
    have HQ : Hid (storeQ s n c = noQ 1) := hid (by unfold storeQ; rw [if_neg (fun h => by rw [HM.out] at h; cases h)])
    obtain ⟨hst, hsa, hrs, hra, hbe, hzs, hza⟩ := (HRS1.out).fin (t := noQ 1) (noQ_ok 1)
    have hbs := HBS.out
    have hba := HBA.out
    rw [show TldM.s (noQ 1) = seZ from rfl, HZS.out] at hst hsa hrs hra hbe hzs
    rw [show TldM.a (noQ 1) = atZ from rfl, HZA.out] at hsa hrs hra hbe hza
    have HRS := hid hrs
    have HRA := hid hra
    have HBE := hid hbe
    clear hrs hra hbe hzs hza
    go_wp2_with fail
    try simp only [Exit.inBlock, Exit.then]
    refine bodyPost_ret (results_ck rfl _ _ _ _ _ _ _ _ _ rfl rfl rfl HRS.out HRA.out HZZ.out.1 HZZ.out.2) rfl ⟨?_, HBE.out⟩
    rw [HQ.out, ← HZS.out, ← HZA.out]
    rfl
  | true =>
  go_upto_region 3 with (fail)
  have lc := loadCt_row HC1.out HCZ0.out
  go_wp2_with fail
  refine (HRT.out x1 HRS1.out.bel).mono ?_
  rintro e x2 ⟨rfl, hx2⟩
  have HRS2 := hid (HRS1.out.below hx2)
  have HS2 := hid ((hx2.block _ (lt_of_block HS1.out)).trans HS1.out)
  have HC2 := hid ((hx2.block _ (lt_of_block HC1.out)).trans HC1.out)
  clear hx2 lc
  cases r with
  | false =>
    have HQ : Hid (storeQ s n c = noQ 7) := hid (by unfold storeQ; rw [if_pos HM.out, if_neg (fun h => by rw [HRX.out] at h; cases h.1)])
    obtain ⟨hst, hsa, hrs, hra, hbe, hzs, hza⟩ := (HRS2.out).fin (t := noQ 7) (noQ_ok 7)
    have hbs := HBS.out
    have hba := HBA.out
    rw [show TldM.s (noQ 7) = seZ from rfl, HZS.out] at hst hsa hrs hra hbe hzs
    rw [show TldM.a (noQ 7) = atZ from rfl, HZA.out] at hsa hrs hra hbe hza
    have HRS := hid hrs
    have HRA := hid hra
    have HBE := hid hbe
    clear hrs hra hbe hzs hza
    go_wp2_with fail
    try simp only [Exit.inBlock, Exit.then]
    refine bodyPost_ret (results_ck rfl _ _ _ _ _ _ _ _ _ rfl rfl rfl HRS.out HRA.out HZZ.out.1 HZZ.out.2) rfl ⟨?_, HBE.out⟩
    rw [HQ.out, ← HZS.out, ← HZA.out]
    rfl
  | true =>
  obtain ⟨⟨k1, k2⟩, _⟩ := HCC.out x2 _ HC2.out
  by_cases p1 : ki = 2
  · have HQ0 : Hid (storeQ s n c = stepQ s ⟨c.att.vi, 3, c.att.vi, c.att.ha⟩ ⟨0, 0, 0, 0, c.att.ha, c.att.vi, c.att.ha, z32⟩) := hid (by unfold storeQ; rw [if_pos HM.out, if_pos ⟨HRX.out, HKI.out.trans p1⟩])
    subst p1
    go_upto_region 6 with (fail)
    have l2 := loadSe_row HS2.out HSZ0.out
    clear k1 k2
    go_wp2_with fail
    refine (HOL.out x2).mono ?_
    rintro e x6 ⟨rfl, hx6⟩
    have HRS6 := hid (HRS2.out.below hx6)
    have HC6 := hid ((hx6.block _ (lt_of_block HC2.out)).trans HC2.out)
    clear hx6 l2
    cases ol with
    | true =>
      have HQ : Hid (storeQ s n c = noQ 11) := hid (by rw [HQ0.out]; exact stepQ_old HO.out)
      obtain ⟨hst, hsa, hrs, hra, hbe, hzs, hza⟩ := (HRS6.out).fin (t := noQ 11) (noQ_ok 11)
      have hbs := HBS.out
      have hba := HBA.out
      rw [show TldM.s (noQ 11) = seZ from rfl, HZS.out] at hst hsa hrs hra hbe hzs
      rw [show TldM.a (noQ 11) = atZ from rfl, HZA.out] at hsa hrs hra hbe hza
      have HRS := hid hrs
      have HRA := hid hra
      have HBE := hid hbe
      clear hrs hra hbe hzs hza
      go_wp2_with fail
      try simp only [Exit.inBlock, Exit.then]
      refine bodyPost_ret (results_ck rfl _ _ _ _ _ _ _ _ _ rfl rfl rfl HRS.out HRA.out HZZ.out.1 HZZ.out.2) rfl ⟨?_, HBE.out⟩
      rw [HQ.out, ← HZS.out, ← HZA.out]
      rfl
    | false =>
      have HQ : Hid (storeQ s n c = ⟨⟨c.att.vi, 3, c.att.vi, c.att.ha⟩, ⟨0, 3, c.att.vi, 3, c.att.ha, c.att.vi, c.att.ha, z32⟩, 0⟩) := hid (by rw [HQ0.out]; exact stepQ_go HO.out)
      go_upto_region 8 with (fail)
      have HRSD := hid (HRS6.out.below ((Below.refl x6.heap.size x6).drew))
      have HLN : Hid (∀ W, Tws (w.heap.size + 2) (w.heap.size + 3) x6.drew W → loadH (.pointer (some ⟨w.heap.size + 1, 4, none⟩)) W = .ok (.value (.agg G)) W) := hid (fun W t => (HCC.out W _ ((t.block _ (lt_of_block HC6.out) (by omega) (by omega)).trans HC6.out)).2)
      have hb4 := HB4.out
      have hb6 := HB6.out
      obtain ⟨hst, hsa, hrs, hra, hbe, hzs, hza⟩ := (HRSD.out).fin (t := ⟨⟨c.att.vi, 3, c.att.vi, c.att.ha⟩, ⟨0, 3, c.att.vi, 3, c.att.ha, c.att.vi, c.att.ha, z32⟩, 0⟩) HTK.out
      simp only at hst hsa hrs hra hbe hzs hza
      rw [HN.out] at hst hsa hrs hra hbe hzs
      rw [HA0.out] at hsa hrs hra hbe hza
      have HRS := hid hrs
      have HRA := hid hra
      have HBE := hid hbe
      have HSZ := hid (And.intro hzs hza)
      clear hrs hra hbe hzs hza
      refine wp_region_held_drew (S := fun W => Tws (w.heap.size + 2) (w.heap.size + 3) x6.drew W) (by kernel_rfl) (Tws.refl _ _ _) (fun hHeld => ?_)
      refine' tk (i := 0) (v := _) rfl ?_ ?_
      rotate_left
      · (intro W hW; (try dsimp only at hW); go_simp; first | done | with_reducible rfl)
      try simp only [lay]
      refine' tk (i := 1) (v := _) rfl ?_ ?_
      rotate_left
      · (intro W hW; (try dsimp only at hW); go_simp; first | done | with_reducible rfl)
      try simp only [lay]
      refine' tk (i := 2) (v := _) rfl ?_ ?_
      rotate_left
      · (intro W hW; (try dsimp only at hW); go_simp; first | done | with_reducible rfl)
      try simp only [lay]
      refine' tk (i := 3) (v := _) rfl ?_ ?_
      rotate_left
      · (intro W hW; (try dsimp only at hW); go_simp; first | done | with_reducible rfl)
      try simp only [lay]
      refine' tk (i := 4) (v := _) rfl ?_ ?_
      rotate_left
      · (intro W hW; (try dsimp only at hW); have hW1 := HLN.out W hW; go_simp; first | done | with_reducible rfl)
      try simp only [lay]
      refine' tk (i := 5) (v := _) rfl ?_ ?_
      rotate_left
      · (intro W hW; (try dsimp only at hW); go_simp; first | done | with_reducible rfl)
      try simp only [lay]
      refine' tk (i := 6) (v := _) rfl ?_ ?_
      rotate_left
      · (intro W hW; (try dsimp only at hW); go_simp; first | done | with_reducible rfl)
      try simp only [lay]
      refine' tk (i := 7) (v := _) rfl ?_ ?_
      rotate_left
      · (intro W hW; (try dsimp only at hW); go_simp; first | done | with_reducible rfl)
      try simp only [lay]
      refine' tk (i := 8) (v := _) rfl ?_ ?_
      rotate_left
      · (intro W hW; (try dsimp only at hW); go_simp; first | done | with_reducible rfl)
      try simp only [lay]
      refine' tk (i := 9) (v := _) rfl ?_ ?_
      rotate_left
      · (intro W hW; (try dsimp only at hW); have hW1 := HLN.out W hW; go_simp; first | done | with_reducible rfl)
      try simp only [lay]
      refine' tk (i := 10) (v := _) rfl ?_ ?_
      rotate_left
      · (intro W hW; (try dsimp only at hW); go_simp; first | done | with_reducible rfl)
      try simp only [lay]
      refine' tk (i := 11) (v := _) rfl ?_ ?_
      rotate_left
      · (intro W hW; (try dsimp only at hW); go_simp; first | done | with_reducible rfl)
      try simp only [lay]
      refine' tk (i := 12) (v := _) rfl ?_ ?_
      rotate_left
      · (intro W hW; (try dsimp only at hW); go_simp; first | done | with_reducible rfl)
      try simp only [lay]
      refine' tk (i := 13) (v := _) rfl ?_ ?_
      rotate_left
      · (intro W hW; (try dsimp only at hW); have hW1 := HLN.out W hW; go_simp; first | done | with_reducible rfl)
      try simp only [lay]
      refine' tk (i := 14) (v := _) rfl ?_ ?_
      rotate_left
      · (intro W hW; (try dsimp only at hW); go_simp; first | done | with_reducible rfl)
      try simp only [lay]
      refine call_on (i := 15) rfl (by kernel_rfl) (by rfl) (fun K hK => ?_)
      go_simp
      refine hK.out _ _ ((Tws.refl _ _ _).setS N) (fun hHeld => ?_)
      clear hK K
      try simp only [lay]
      refine call_on (i := 16) rfl (by kernel_rfl) (by rfl) (fun K hK => ?_)
      go_simp
      refine hK.out _ _ (((Tws.refl _ _ _).setS N).setY A0) (fun hHeld => ?_)
      clear hK K
      try simp only [lay]
      refine' tk (i := 17) (v := _) rfl ?_ ?_
      rotate_left
      · (intro W hW; (try dsimp only at hW); go_simp; first | done | with_reducible rfl)
      try simp only [lay]
      refine wpAnyH_done (by kernel_rfl) ?_ _
      clear hb4 hb6
      clear hHeld hst hsa
      go_wp2_with fail
      try simp only [Exit.inBlock, Exit.then]
      refine bodyPost_ret (results_ck rfl _ _ _ _ _ _ _ _ _ rfl rfl rfl HRS.out HRA.out HSZ.out.1 HSZ.out.2) rfl ⟨?_, HBE.out⟩
      rw [HQ.out, ← HN.out, ← HA0.out]
      rfl
  · have HQ : Hid (storeQ s n c = noQ 7) := hid (by unfold storeQ; rw [if_pos HM.out, if_neg (fun h => p1 (HKI.out.symm.trans h.2))])
    obtain ⟨hst, hsa, hrs, hra, hbe, hzs, hza⟩ := (HRS2.out).fin (t := noQ 7) (noQ_ok 7)
    have hbs := HBS.out
    have hba := HBA.out
    rw [show TldM.s (noQ 7) = seZ from rfl, HZS.out] at hst hsa hrs hra hbe hzs
    rw [show TldM.a (noQ 7) = atZ from rfl, HZA.out] at hsa hrs hra hbe hza
    have HRS := hid hrs
    have HRA := hid hra
    have HBE := hid hbe
    clear hrs hra hbe hzs hza
    go_wp2_with fail
    try simp only [Exit.inBlock, Exit.then]
    refine bodyPost_ret (results_ck rfl _ _ _ _ _ _ _ _ _ rfl rfl rfl HRS.out HRA.out HZZ.out.1 HZZ.out.2) rfl ⟨?_, HBE.out⟩
    rw [HQ.out, ← HZS.out, ← HZA.out]
    rfl
end Go.Proofs.YtghophbabbaleaaGreatDoor
