/-
  tithingref15.old, tithingref15.New. Printed with genck.py.
-/
import Derived.Deep.CutBlock
import Derived.Test.YtghophbabbaleaaGreatDoorCkWords
namespace Go.Proofs.YtghophbabbaleaaGreatDoor
set_option maxRecDepth 20000
open Go.RowKit
attribute [local go_sem ↓] exec_load_se exec_alloc_se exec_store_se exec_build_se exec_load_att exec_alloc_att exec_store_att exec_build_att exec_load_hash exec_build_se4 exec_build_at2 exec_build_at3 exec_build_at5 exec_build_at6 exec_load_bk exec_load_ax exec_load_ct
set_option maxHeartbeats 3200000 in
theorem refOld15_any (s : SeM) (v p : Int) (w : World) :
    Calls Tryz.prog 58 #[.agg (sec s), .int .i64 v, .int .i64 p] w fun e w' => e = .returned (.bool (oldS s v p)) ∧ Below w.heap.size w w' := by
  have hb0 : Below w.heap.size w (w.alloc (.cells (sec s) 40)) := (Below.refl _ _).alloc (Nat.le_refl _) _
  have hA := BoxSe.new w s
  obtain ⟨C, HC⟩ : ∃ C : Array Value, Hid (sec s = C) := ⟨_, hid rfl⟩
  obtain ⟨q, HQ⟩ : ∃ q : Bool, Hid (oldS s v p = q) := ⟨_, hid rfl⟩
  rw [HC.out] at hb0 hA ⊢
  rw [HQ.out]
  go_enter Tryz.func58, Tryz.ntmps58
  go_upto_region 1 with (fail)
  generalize (w.alloc (.cells C 40)) = w0 at *
  obtain ⟨k0, k1, k2⟩ := hA.cells
  have HM : Hid (q = (decide (v < s.vi) || (decide (s.vi = v) && decide (p ≤ s.ph)))) := hid (by rw [← HQ.out]; rfl)
  clear hA HC HQ k2
  obtain ⟨vi, ph, pv, pa⟩ := s
  simp only at k0 k1 HM
  go_wp2_with fail
  all_goals
    go_ret
    refine ⟨?_, hb0⟩
    refine congrArg (fun b => Ending.returned (Value.bool b)) ?_
    rw [HM.out]
  all_goals grind
set_option maxHeartbeats 6400000 in
theorem refNew15_any (s : SeM) (hs : s.Ok) (v : Int) (w : World) : Calls Tryz.prog 34 #[.agg (sec s), .int .i64 v] w (TlPost (newQ s v) w) := by
  have HSO := hid hs
  have HSZ0 := hid (sec_size hs)
  have HSC : Hid (∀ (W : World) (g : Nat), W.heap[g]? = some (.cells (sec s) 40 (0, 0)) → (W.cell? ⟨g, 0, none⟩ = some (.int .i64 s.vi) ∧ W.cell? ⟨g, 1, none⟩ = some (.int .i64 s.ph) ∧ W.cell? ⟨g, 2, none⟩ = some (.int .i64 s.pv)) ∧ loadH (.pointer (some ⟨g, 3, none⟩)) W = .ok (.value (.agg (hcells s.pa))) W) := hid (fun W g h => ⟨BoxSe.cells (a := s) h, loadH_mid (BoxSe.hash (a := s) h) hs⟩)
  have HMY : Hid (∀ W, Calls Tryz.prog 15 #[.agg (sec s)] W fun e w' => e = .returned (.bool (mayS s)) ∧ Below W.heap.size W w') := hid (fun W => refMay13_any s W hs)
  have HOL : Hid (∀ W, Calls Tryz.prog 58 #[.agg (sec s), .int .i64 v, .int .i64 1] W fun e w' => e = .returned (.bool (oldS s v 1)) ∧ Below W.heap.size W w') := hid (fun W => refOld15_any s v 1 W)
  have HB4 := hid (buildSe4_eq v 1 s.pv s.pa hs)
  have HB5 := hid (buildAt5_eq 1 v 1 s.pv s.pa hs)
  have ht0 : TldM.Ok ⟨⟨v, 1, s.pv, s.pa⟩, ⟨0, 1, v, 1, z32, s.pv, s.pa, z32⟩, 0⟩ := ⟨hs, ⟨rfl, hs, rfl⟩⟩
  have HTK := hid ht0
  clear ht0
  obtain ⟨S, HS⟩ : ∃ q : Array Value, Hid (sec s = q) := ⟨_, hid rfl⟩
  obtain ⟨N, HN⟩ : ∃ q : Array Value, Hid (sec ⟨v, 1, s.pv, s.pa⟩ = q) := ⟨_, hid rfl⟩
  obtain ⟨A0, HA0⟩ : ∃ q : Array Value, Hid (atc ⟨0, 1, v, 1, z32, s.pv, s.pa, z32⟩ = q) := ⟨_, hid rfl⟩
  obtain ⟨P, HP⟩ : ∃ q : Array Value, Hid (hcells s.pa = q) := ⟨_, hid rfl⟩
  rw [HS.out] at HSZ0 HSC HMY HOL
  rw [HN.out] at HB4
  rw [HA0.out] at HB5
  rw [HP.out] at HSC HB4 HB5
  rw [HS.out]
  clear hs
  obtain ⟨ZS, HZS⟩ : ∃ q : Array Value, Hid (sec seZ = q) := ⟨_, hid rfl⟩
  obtain ⟨ZA, HZA⟩ : ∃ q : Array Value, Hid (atc atZ = q) := ⟨_, hid rfl⟩
  have HZZ : Hid (ZS.size = 35 ∧ ZA.size = 101) := hid (by rw [← HZS.out, ← HZA.out]; exact ⟨sec_size seZ_ok, atc_size atZ_ok⟩)
  have HBS : Hid (∀ W, buildSe W = .ok (.value (.agg ZS)) W) := hid (fun W => by rw [← HZS.out]; exact buildSe_eq W)
  have HBA : Hid (∀ W, buildAtt W = .ok (.value (.agg ZA)) W) := hid (fun W => by rw [← HZA.out]; exact buildAtt_eq W)
  have HLS : Hid (∀ W, allocSe W = .ok (.value (.pointer (some ⟨W.heap.size, 0, none⟩))) (W.alloc (.cells ZS 40))) := hid (fun W => by rw [← HZS.out]; exact allocSe_eq W)
  have HLA : Hid (∀ W, allocAtt W = .ok (.value (.pointer (some ⟨W.heap.size, 0, none⟩))) (W.alloc (.cells ZA 52))) := hid (fun W => by rw [← HZA.out]; exact allocAtt_eq W)
  have hal1 : allocSe (w.alloc (.cells S 40)) = .ok (.value (.pointer (some ⟨w.heap.size + 1, 0, none⟩))) ((w.alloc (.cells S 40)).alloc (.cells ZS 40)) := by
    have := HLS.out (w.alloc (.cells S 40))
    rwa [show ((w.alloc (.cells S 40))).heap.size = w.heap.size + 1 from by simp] at this
  have hal2 : allocAtt ((w.alloc (.cells S 40)).alloc (.cells ZS 40)) = .ok (.value (.pointer (some ⟨w.heap.size + 2, 0, none⟩))) (((w.alloc (.cells S 40)).alloc (.cells ZS 40)).alloc (.cells ZA 52)) := by
    have := HLA.out ((w.alloc (.cells S 40)).alloc (.cells ZS 40))
    rwa [show (((w.alloc (.cells S 40)).alloc (.cells ZS 40))).heap.size = w.heap.size + 2 from by simp] at this
  obtain ⟨hr0, hr1, hr2⟩ := rows_three w (.cells S 40) (.cells ZS 40) (.cells ZA 52)
  have HBZ : Hid (Below w.heap.size w (((w.alloc (.cells S 40)).alloc (.cells ZS 40)).alloc (.cells ZA 52))) := hid ((((Below.refl w.heap.size w).alloc (Nat.le_refl _) _).alloc (by simp; try omega) _).alloc (by simp; try omega) _)
  have HR : Hid (ResSt w (((w.alloc (.cells S 40)).alloc (.cells ZS 40)).alloc (.cells ZA 52)) (w.heap.size + 1) (w.heap.size + 2) ZS ZA) := hid ⟨hr1, hr2, by omega, by omega, HBZ.out, HZZ.out.1, HZZ.out.2⟩
  have HR0 := hid (show (((w.alloc (.cells S 40)).alloc (.cells ZS 40)).alloc (.cells ZA 52)).heap[w.heap.size]? = some (.cells S 40 (0, 0)) from hr0)
  clear hr0 hr1 hr2
  go_enter Tryz.func34, Tryz.ntmps34
  go_upto_region 1 with (fail)
  clear hal1 hal2
  generalize (((w.alloc (.cells S 40)).alloc (.cells ZS 40)).alloc (.cells ZA 52)) = wz at *
  have l0 := loadSe_row HR0.out HSZ0.out
  obtain ⟨m, HM⟩ : ∃ q : Bool, Hid (mayS s = q) := ⟨_, hid rfl⟩
  rw [HM.out] at HMY
  go_wp2_with fail
  refine (HMY.out wz).mono ?_
  rintro e w1 ⟨rfl, hb1⟩
  have HR1 := hid (HR.out.below hb1)
  have HB1 := hid ((hb1.block _ (lt_of_block HR0.out)).trans HR0.out)
  clear l0 hb1
  cases m with
  | true =>
    by_cases p1 : v < 1
    · have HQ : Hid (newQ s v = noQ 1) := hid (by unfold newQ; rw [if_neg (fun h => by omega)])
      obtain ⟨hst, hsa, hrs, hra, hbe, hzs, hza⟩ := (HR1.out).fin (t := noQ 1) (noQ_ok 1)
      have hbs := HBS.out
      have hba := HBA.out
      rw [show TldM.s (noQ 1) = seZ from rfl, HZS.out] at hst hsa hrs hra hbe hzs
      rw [show TldM.a (noQ 1) = atZ from rfl, HZA.out] at hsa hrs hra hbe hza
      have HRS := hid hrs
      have HRA := hid hra
      have HBE := hid hbe
      clear hrs hra hbe hzs hza
      go_wp2_with fail
      try simp only [Exit.inBlock, Exit.then]
      refine bodyPost_ret (results_ck rfl _ _ _ _ _ _ _ _ _ rfl rfl rfl HRS.out HRA.out HZZ.out.1 HZZ.out.2) rfl ⟨?_, HBE.out⟩
      rw [HQ.out, ← HZS.out, ← HZA.out]
      rfl
    by_cases p2 : 1099511627776 < v
    · have HQ : Hid (newQ s v = noQ 1) := hid (by unfold newQ; rw [if_neg (fun h => by omega)])
      obtain ⟨hst, hsa, hrs, hra, hbe, hzs, hza⟩ := (HR1.out).fin (t := noQ 1) (noQ_ok 1)
      have hbs := HBS.out
      have hba := HBA.out
      rw [show TldM.s (noQ 1) = seZ from rfl, HZS.out] at hst hsa hrs hra hbe hzs
      rw [show TldM.a (noQ 1) = atZ from rfl, HZA.out] at hsa hrs hra hbe hza
      have HRS := hid hrs
      have HRA := hid hra
      have HBE := hid hbe
      clear hrs hra hbe hzs hza
      go_wp2_with fail
      try simp only [Exit.inBlock, Exit.then]
      refine bodyPost_ret (results_ck rfl _ _ _ _ _ _ _ _ _ rfl rfl rfl HRS.out HRA.out HZZ.out.1 HZZ.out.2) rfl ⟨?_, HBE.out⟩
      rw [HQ.out, ← HZS.out, ← HZA.out]
      rfl
    have HQ0 : Hid (newQ s v = stepQ s ⟨v, 1, s.pv, s.pa⟩ ⟨0, 0, 0, 0, z32, s.pv, s.pa, z32⟩) := hid (by unfold newQ; rw [if_pos ⟨HM.out, by omega, by omega⟩])
    have l1 := loadSe_row HB1.out HSZ0.out
    go_upto_region 3 with (fail)
    clear p1 p2
    obtain ⟨o, HO⟩ : ∃ q : Bool, Hid (oldS s v 1 = q) := ⟨_, hid rfl⟩
    rw [HO.out] at HOL
    go_wp2_with fail
    refine (HOL.out w1).mono ?_
    rintro e w2 ⟨rfl, hb2⟩
    have HR2 := hid (HR1.out.below hb2)
    have HB2 := hid ((hb2.block _ (lt_of_block HB1.out)).trans HB1.out)
    clear l1 hb2
    cases o with
    | true =>
      have HQ : Hid (newQ s v = noQ 11) := hid (by rw [HQ0.out]; exact stepQ_old HO.out)
      obtain ⟨hst, hsa, hrs, hra, hbe, hzs, hza⟩ := (HR2.out).fin (t := noQ 11) (noQ_ok 11)
      have hbs := HBS.out
      have hba := HBA.out
      rw [show TldM.s (noQ 11) = seZ from rfl, HZS.out] at hst hsa hrs hra hbe hzs
      rw [show TldM.a (noQ 11) = atZ from rfl, HZA.out] at hsa hrs hra hbe hza
      have HRS := hid hrs
      have HRA := hid hra
      have HBE := hid hbe
      clear hrs hra hbe hzs hza
      go_wp2_with fail
      try simp only [Exit.inBlock, Exit.then]
      refine bodyPost_ret (results_ck rfl _ _ _ _ _ _ _ _ _ rfl rfl rfl HRS.out HRA.out HZZ.out.1 HZZ.out.2) rfl ⟨?_, HBE.out⟩
      rw [HQ.out, ← HZS.out, ← HZA.out]
      rfl
    | false =>
      have HQ : Hid (newQ s v = ⟨⟨v, 1, s.pv, s.pa⟩, ⟨0, 1, v, 1, z32, s.pv, s.pa, z32⟩, 0⟩) := hid (by rw [HQ0.out]; exact stepQ_go HO.out)
      go_upto_region 5 with (fail)
      have HRD := hid (HR2.out.below ((Below.refl w2.heap.size w2).drew))
      obtain ⟨hst, hsa, hrs, hra, hbe, hzs, hza⟩ := HRD.out.fin (t := ⟨⟨v, 1, s.pv, s.pa⟩, ⟨0, 1, v, 1, z32, s.pv, s.pa, z32⟩, 0⟩) HTK.out
      simp only at hst hsa hrs hra hbe hzs hza
      rw [HN.out] at hst hsa hrs hra hbe hzs
      rw [HA0.out] at hsa hrs hra hbe hza
      have HRS := hid hrs
      have HRA := hid hra
      have HBE := hid hbe
      have HSZ := hid (And.intro hzs hza)
      clear hrs hra hbe hzs hza
      have hb4 := HB4.out
      have hb5 := HB5.out
      have HKP : Hid (∀ W, Tws (w.heap.size + 1) (w.heap.size + 2) w2.drew W → W.cell? ⟨w.heap.size, 2, none⟩ = some (.int .i64 s.pv) ∧ loadH (.pointer (some ⟨w.heap.size, 3, none⟩)) W = .ok (.value (.agg P)) W) := hid (fun W t => by
        have h := HSC.out W _ ((t.block _ (lt_of_block HB2.out) (by omega) (by omega)).trans HB2.out)
        exact ⟨h.1.2.2, h.2⟩)
      refine wp_region_held_drew (S := fun W => Tws (w.heap.size + 1) (w.heap.size + 2) w2.drew W) (by kernel_rfl) (Tws.refl _ _ _) (fun hHeld => ?_)
      refine' tk (i := 0) (v := _) rfl ?_ ?_
      rotate_left
      · (intro W hW; (try dsimp only at hW); go_simp; first | done | with_reducible rfl)
      try simp only [lay]
      refine' tk (i := 1) (v := _) rfl ?_ ?_
      rotate_left
      · (intro W hW; (try dsimp only at hW); go_simp; first | done | with_reducible rfl)
      try simp only [lay]
      refine' tk (i := 2) (v := _) rfl ?_ ?_
      rotate_left
      · (intro W hW; (try dsimp only at hW); obtain ⟨hW1, hW2⟩ := HKP.out W hW; go_simp; first | done | with_reducible rfl)
      try simp only [lay]
      refine' tk (i := 3) (v := _) rfl ?_ ?_
      rotate_left
      · (intro W hW; (try dsimp only at hW); go_simp; first | done | with_reducible rfl)
      try simp only [lay]
      refine' tk (i := 4) (v := _) rfl ?_ ?_
      rotate_left
      · (intro W hW; (try dsimp only at hW); obtain ⟨hW1, hW2⟩ := HKP.out W hW; go_simp; first | done | with_reducible rfl)
      try simp only [lay]
      refine' tk (i := 5) (v := _) rfl ?_ ?_
      rotate_left
      · (intro W hW; (try dsimp only at hW); go_simp; first | done | with_reducible rfl)
      try simp only [lay]
      refine' tk (i := 6) (v := _) rfl ?_ ?_
      rotate_left
      · (intro W hW; (try dsimp only at hW); go_simp; first | done | with_reducible rfl)
      try simp only [lay]
      refine' tk (i := 7) (v := _) rfl ?_ ?_
      rotate_left
      · (intro W hW; (try dsimp only at hW); go_simp; first | done | with_reducible rfl)
      try simp only [lay]
      refine' tk (i := 8) (v := _) rfl ?_ ?_
      rotate_left
      · (intro W hW; (try dsimp only at hW); obtain ⟨hW1, hW2⟩ := HKP.out W hW; go_simp; first | done | with_reducible rfl)
      try simp only [lay]
      refine' tk (i := 9) (v := _) rfl ?_ ?_
      rotate_left
      · (intro W hW; (try dsimp only at hW); go_simp; first | done | with_reducible rfl)
      try simp only [lay]
      refine' tk (i := 10) (v := _) rfl ?_ ?_
      rotate_left
      · (intro W hW; (try dsimp only at hW); obtain ⟨hW1, hW2⟩ := HKP.out W hW; go_simp; first | done | with_reducible rfl)
      try simp only [lay]
      refine' tk (i := 11) (v := _) rfl ?_ ?_
      rotate_left
      · (intro W hW; (try dsimp only at hW); go_simp; first | done | with_reducible rfl)
      try simp only [lay]
      refine call_on (i := 12) rfl (by kernel_rfl) (by rfl) (fun K hK => ?_)
      go_simp
      refine hK.out _ _ ((Tws.refl _ _ _).setS N) (fun hHeld => ?_)
      clear hK K
      try simp only [lay]
      refine call_on (i := 13) rfl (by kernel_rfl) (by rfl) (fun K hK => ?_)
      go_simp
      refine hK.out _ _ (((Tws.refl _ _ _).setS N).setY A0) (fun hHeld => ?_)
      clear hK K
      try simp only [lay]
      refine' tk (i := 14) (v := _) rfl ?_ ?_
      rotate_left
      · (intro W hW; (try dsimp only at hW); go_simp; first | done | with_reducible rfl)
      try simp only [lay]
      refine wpAnyH_done (by kernel_rfl) ?_ _
      clear hHeld hst hsa
      go_wp2_with fail
      try simp only [Exit.inBlock, Exit.then]
      refine bodyPost_ret (results_ck rfl _ _ _ _ _ _ _ _ _ rfl rfl rfl HRS.out HRA.out HSZ.out.1 HSZ.out.2) rfl ⟨?_, HBE.out⟩
      rw [HQ.out, ← HN.out, ← HA0.out]
      rfl
  | false =>
    have HQ : Hid (newQ s v = noQ 1) := hid (by unfold newQ; rw [if_neg (fun h => by rw [HM.out] at h; cases h.1)])
    obtain ⟨hst, hsa, hrs, hra, hbe, hzs, hza⟩ := (HR1.out).fin (t := noQ 1) (noQ_ok 1)
    have hbs := HBS.out
    have hba := HBA.out
    rw [show TldM.s (noQ 1) = seZ from rfl, HZS.out] at hst hsa hrs hra hbe hzs
    rw [show TldM.a (noQ 1) = atZ from rfl, HZA.out] at hsa hrs hra hbe hza
    have HRS := hid hrs
    have HRA := hid hra
    have HBE := hid hbe
    clear hrs hra hbe hzs hza
    go_wp2_with fail
    try simp only [Exit.inBlock, Exit.then]
    refine bodyPost_ret (results_ck rfl _ _ _ _ _ _ _ _ _ rfl rfl rfl HRS.out HRA.out HZZ.out.1 HZZ.out.2) rfl ⟨?_, HBE.out⟩
    rw [HQ.out, ← HZS.out, ← HZA.out]
    rfl
end Go.Proofs.YtghophbabbaleaaGreatDoor
