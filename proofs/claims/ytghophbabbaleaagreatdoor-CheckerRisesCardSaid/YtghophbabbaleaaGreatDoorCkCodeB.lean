/-
  checker.New: a step to a new view. Printed with genck.py.
-/
import Derived.Test.YtghophbabbaleaaGreatDoorCkCodeA
namespace Go.Proofs.YtghophbabbaleaaGreatDoor
set_option maxRecDepth 20000
open Go.RowKit
attribute [local go_sem ↓] exec_load_se exec_alloc_se exec_store_se exec_build_se exec_load_att exec_alloc_att exec_store_att exec_build_att exec_load_hash exec_build_se4 exec_build_at2 exec_build_at3 exec_build_at5 exec_build_at6 exec_load_bk exec_load_ax exec_load_ct
set_option maxHeartbeats 6400000 in
theorem ckNew_any (s : SeM) (hs : s.Ok) (v : Int) (w : World) : Calls Tryz.prog 33 #[.agg (sec s), .int .i64 v] w (TlPost (newQ s v) w) := by
  have HSO := hid hs
  have HSZ0 := hid (sec_size hs)
  have HSC : Hid (∀ (W : World) (g : Nat), W.heap[g]? = some (.cells (sec s) 40 (0, 0)) → (W.cell? ⟨g, 0, none⟩ = some (.int .i64 s.vi) ∧ W.cell? ⟨g, 1, none⟩ = some (.int .i64 s.ph) ∧ W.cell? ⟨g, 2, none⟩ = some (.int .i64 s.pv)) ∧ loadH (.pointer (some ⟨g, 3, none⟩)) W = .ok (.value (.agg (hcells s.pa))) W) := hid (fun W g h => ⟨BoxSe.cells (a := s) h, loadH_mid (BoxSe.hash (a := s) h) hs⟩)
  have HCK : Hid (∀ W, Calls Tryz.prog 40 #[.agg (sec s)] W fun e w' => e = .returned (.int .i64 (if mayS s = true then 0 else 1)) ∧ Below W.heap.size W w') := hid (fun W => seCheck_ok s W hs)
  have HMV : Hid (∀ W, Calls Tryz.prog 56 #[.agg (sec s), .int .i64 v, .int .i64 1] W fun e w' => e = .returned (.agg (sec ⟨v, 1, s.pv, s.pa⟩)) ∧ Below W.heap.size W w') := hid (fun W => ckMoved_any s hs v 1 W)
  have HBT := hid (buildAt2_eq s.pv s.pa hs)
  have hn0 : SeM.Ok ⟨v, 1, s.pv, s.pa⟩ := hs
  have ha0 : AtM.Ok ⟨0, 0, 0, 0, z32, s.pv, s.pa, z32⟩ := ⟨rfl, hs, rfl⟩
  have HST : Hid (∀ W, Calls Tryz.prog 57 #[.agg (sec s), .agg (sec ⟨v, 1, s.pv, s.pa⟩), .agg (atc ⟨0, 0, 0, 0, z32, s.pv, s.pa, z32⟩)] W (TlPost (stepQ s ⟨v, 1, s.pv, s.pa⟩ ⟨0, 0, 0, 0, z32, s.pv, s.pa, z32⟩) W)) := hid (fun W => ckStep_any s _ _ hs hn0 ha0 W)
  have HTK : Hid (TldM.Ok (stepQ s ⟨v, 1, s.pv, s.pa⟩ ⟨0, 0, 0, 0, z32, s.pv, s.pa, z32⟩)) := hid (stepQ_ok hn0 ha0)
  clear hn0 ha0
  have HNZ : Hid ((sec ⟨v, 1, s.pv, s.pa⟩).size = 35 ∧ (sec ⟨v, 1, s.pv, s.pa⟩).all (·.oneCell') = true) := hid ⟨sec_size hs, sec_one _⟩
  obtain ⟨S, HS⟩ : ∃ q : Array Value, Hid (sec s = q) := ⟨_, hid rfl⟩
  obtain ⟨N, HN⟩ : ∃ q : Array Value, Hid (sec ⟨v, 1, s.pv, s.pa⟩ = q) := ⟨_, hid rfl⟩
  obtain ⟨A0, HA0⟩ : ∃ q : Array Value, Hid (atc ⟨0, 0, 0, 0, z32, s.pv, s.pa, z32⟩ = q) := ⟨_, hid rfl⟩
  obtain ⟨P, HP⟩ : ∃ q : Array Value, Hid (hcells s.pa = q) := ⟨_, hid rfl⟩
  obtain ⟨Tq, HTq⟩ : ∃ q : TldM, Hid (stepQ s ⟨v, 1, s.pv, s.pa⟩ ⟨0, 0, 0, 0, z32, s.pv, s.pa, z32⟩ = q) := ⟨_, hid rfl⟩
  rw [HS.out] at HSZ0 HSC HCK HMV HST
  rw [HN.out] at HMV HST HNZ
  rw [HA0.out] at HST HBT
  rw [HTq.out] at HST HTK
  rw [HP.out] at HSC HBT
  rw [HS.out]
  clear hs
  obtain ⟨ZS, HZS⟩ : ∃ q : Array Value, Hid (sec seZ = q) := ⟨_, hid rfl⟩
  obtain ⟨ZA, HZA⟩ : ∃ q : Array Value, Hid (atc atZ = q) := ⟨_, hid rfl⟩
  have HZZ : Hid (ZS.size = 35 ∧ ZA.size = 101) := hid (by rw [← HZS.out, ← HZA.out]; exact ⟨sec_size seZ_ok, atc_size atZ_ok⟩)
  have HBS : Hid (∀ W, buildSe W = .ok (.value (.agg ZS)) W) := hid (fun W => by rw [← HZS.out]; exact buildSe_eq W)
  have HBA : Hid (∀ W, buildAtt W = .ok (.value (.agg ZA)) W) := hid (fun W => by rw [← HZA.out]; exact buildAtt_eq W)
  have HLS : Hid (∀ W, allocSe W = .ok (.value (.pointer (some ⟨W.heap.size, 0, none⟩))) (W.alloc (.cells ZS 40))) := hid (fun W => by rw [← HZS.out]; exact allocSe_eq W)
  have HLA : Hid (∀ W, allocAtt W = .ok (.value (.pointer (some ⟨W.heap.size, 0, none⟩))) (W.alloc (.cells ZA 52))) := hid (fun W => by rw [← HZA.out]; exact allocAtt_eq W)
  have hal1 : allocSe (w.alloc (.cells S 40)) = .ok (.value (.pointer (some ⟨w.heap.size + 1, 0, none⟩))) ((w.alloc (.cells S 40)).alloc (.cells ZS 40)) := by
    have := HLS.out (w.alloc (.cells S 40))
    rwa [show ((w.alloc (.cells S 40))).heap.size = w.heap.size + 1 from by simp] at this
  have hal2 : allocAtt ((w.alloc (.cells S 40)).alloc (.cells ZS 40)) = .ok (.value (.pointer (some ⟨w.heap.size + 2, 0, none⟩))) (((w.alloc (.cells S 40)).alloc (.cells ZS 40)).alloc (.cells ZA 52)) := by
    have := HLA.out ((w.alloc (.cells S 40)).alloc (.cells ZS 40))
    rwa [show (((w.alloc (.cells S 40)).alloc (.cells ZS 40))).heap.size = w.heap.size + 2 from by simp] at this
  obtain ⟨hr0, hr1, hr2⟩ := rows_three w (.cells S 40) (.cells ZS 40) (.cells ZA 52)
  have HBZ : Hid (Below w.heap.size w (((w.alloc (.cells S 40)).alloc (.cells ZS 40)).alloc (.cells ZA 52))) := hid ((((Below.refl w.heap.size w).alloc (Nat.le_refl _) _).alloc (by simp; try omega) _).alloc (by simp; try omega) _)
  have HR : Hid (ResSt w (((w.alloc (.cells S 40)).alloc (.cells ZS 40)).alloc (.cells ZA 52)) (w.heap.size + 1) (w.heap.size + 2) ZS ZA) := hid ⟨hr1, hr2, by omega, by omega, HBZ.out, HZZ.out.1, HZZ.out.2⟩
  have HR0 := hid (show (((w.alloc (.cells S 40)).alloc (.cells ZS 40)).alloc (.cells ZA 52)).heap[w.heap.size]? = some (.cells S 40 (0, 0)) from hr0)
  clear hr0 hr1 hr2
  go_enter Tryz.func33, Tryz.ntmps33
  go_upto_region 1 with (fail)
  clear hal1 hal2
  generalize (((w.alloc (.cells S 40)).alloc (.cells ZS 40)).alloc (.cells ZA 52)) = wz at *
  have l0 := loadSe_row HR0.out HSZ0.out
  obtain ⟨E, HE⟩ : ∃ q : Int, Hid ((if mayS s = true then 0 else 1) = q) := ⟨_, hid rfl⟩
  rw [HE.out] at HCK
  have HEM : Hid ((E = 0 ∧ mayS s = true) ∨ (E = 1 ∧ mayS s = false)) := hid (by
    rw [← HE.out]
    cases mayS s
    · exact .inr ⟨rfl, rfl⟩
    · exact .inl ⟨rfl, rfl⟩)
  go_wp2_with fail
  refine (HCK.out wz).mono ?_
  rintro e w1 ⟨rfl, hb1⟩
  have HR1 := hid (HR.out.below hb1)
  have HB1 := hid ((hb1.block _ (lt_of_block HR0.out)).trans HR0.out)
  clear l0 hb1
  rcases HEM.out with ⟨hE, hm⟩ | ⟨hE, hm⟩
  · subst hE
    have HM := hid hm
    clear hm
    by_cases p1 : v < 1
    · have HQ : Hid (newQ s v = noQ 1) := hid (by unfold newQ; rw [if_neg (fun h => by omega)])
      go_wp2_with fail
      refine (ckFails_any 1 w1).mono ?_
      rintro e wf ⟨rfl, hbf⟩
      unfold tldV
      obtain ⟨hst, hsa, hrs, hra, hbe, hzs, hza⟩ := (HR1.out.below hbf).fin (t := noQ 1) (noQ_ok 1)
      have HRS := hid hrs
      have HRA := hid hra
      have HBE := hid hbe
      have HSZ := hid (And.intro hzs hza)
      clear hrs hra hbe hzs hza
      obtain ⟨X9, HX9⟩ : ∃ q : Array Value, Hid (sec (noQ 1).s = q) := ⟨_, hid rfl⟩
      obtain ⟨Y9, HY9⟩ : ∃ q : Array Value, Hid (atc (noQ 1).a = q) := ⟨_, hid rfl⟩
      obtain ⟨E9, HE9⟩ : ∃ q : Int, Hid ((noQ 1).e = q) := ⟨_, hid rfl⟩
      rw [HX9.out] at hst hsa HRS HRA HBE HSZ
      rw [HY9.out] at hsa HRS HRA HBE HSZ
      rw [HX9.out, HY9.out, HE9.out]
      go_wp2_with fail
      try simp only [Exit.inBlock, Exit.then]
      refine bodyPost_ret (results_ck rfl _ _ _ _ _ _ _ _ _ rfl rfl rfl HRS.out HRA.out HSZ.out.1 HSZ.out.2) rfl ⟨?_, HBE.out⟩
      rw [HQ.out, ← HX9.out, ← HY9.out, ← HE9.out]
      rfl
    by_cases p2 : 1099511627776 < v
    · have HQ : Hid (newQ s v = noQ 1) := hid (by unfold newQ; rw [if_neg (fun h => by omega)])
      go_wp2_with fail
      refine (ckFails_any 1 w1).mono ?_
      rintro e wf ⟨rfl, hbf⟩
      unfold tldV
      obtain ⟨hst, hsa, hrs, hra, hbe, hzs, hza⟩ := (HR1.out.below hbf).fin (t := noQ 1) (noQ_ok 1)
      have HRS := hid hrs
      have HRA := hid hra
      have HBE := hid hbe
      have HSZ := hid (And.intro hzs hza)
      clear hrs hra hbe hzs hza
      obtain ⟨X9, HX9⟩ : ∃ q : Array Value, Hid (sec (noQ 1).s = q) := ⟨_, hid rfl⟩
      obtain ⟨Y9, HY9⟩ : ∃ q : Array Value, Hid (atc (noQ 1).a = q) := ⟨_, hid rfl⟩
      obtain ⟨E9, HE9⟩ : ∃ q : Int, Hid ((noQ 1).e = q) := ⟨_, hid rfl⟩
      rw [HX9.out] at hst hsa HRS HRA HBE HSZ
      rw [HY9.out] at hsa HRS HRA HBE HSZ
      rw [HX9.out, HY9.out, HE9.out]
      go_wp2_with fail
      try simp only [Exit.inBlock, Exit.then]
      refine bodyPost_ret (results_ck rfl _ _ _ _ _ _ _ _ _ rfl rfl rfl HRS.out HRA.out HSZ.out.1 HSZ.out.2) rfl ⟨?_, HBE.out⟩
      rw [HQ.out, ← HX9.out, ← HY9.out, ← HE9.out]
      rfl
    have HQ : Hid (newQ s v = Tq) := hid (by unfold newQ; rw [if_pos ⟨HM.out, by omega, by omega⟩]; exact HTq.out)
    have l1 := loadSe_row HB1.out HSZ0.out
    go_upto_region 3 with (fail)
    clear p1 p2
    go_wp2_with fail
    refine (HMV.out w1).mono ?_
    rintro e w2 ⟨rfl, hb2⟩
    have hal := HLS.out
    have hsv := se_var w2 HZZ.out.1 HNZ.out.1 HNZ.out.2
    have hb3 := hb2.alloc hb2.size (.cells N 40)
    have HR3 := hid (HR1.out.below hb3)
    have HB3 := hid ((hb3.block _ (lt_of_block HB1.out)).trans HB1.out)
    have HN3 := hid (heap_alloc_new w2 (.cells N 40))
    clear hb2 hb3 l1
    go_upto_region 4 with (fail)
    clear hal hsv
    generalize (w2.alloc (.cells N 40)) = w3 at *
    generalize w2.heap.size = gN at *
    have l2 := loadSe_row HB3.out HSZ0.out
    have lN := loadSe_row HN3.out HNZ.out.1
    obtain ⟨⟨_, _, k2⟩, h3⟩ := HSC.out w3 _ HB3.out
    have hbt := HBT.out
    go_wp2_with fail
    refine (HST.out w3).mono ?_
    rintro e w4 ⟨rfl, hb4⟩
    clear l2 lN k2 h3 hbt
    unfold tldV
    obtain ⟨hst, hsa, hrs, hra, hbe, hzs, hza⟩ := (HR3.out.below hb4).fin (t := Tq) HTK.out
    have HRS := hid hrs
    have HRA := hid hra
    have HBE := hid hbe
    have HSZ := hid (And.intro hzs hza)
    clear hrs hra hbe hzs hza
    obtain ⟨X9, HX9⟩ : ∃ q : Array Value, Hid (sec (Tq).s = q) := ⟨_, hid rfl⟩
    obtain ⟨Y9, HY9⟩ : ∃ q : Array Value, Hid (atc (Tq).a = q) := ⟨_, hid rfl⟩
    obtain ⟨E9, HE9⟩ : ∃ q : Int, Hid ((Tq).e = q) := ⟨_, hid rfl⟩
    rw [HX9.out] at hst hsa HRS HRA HBE HSZ
    rw [HY9.out] at hsa HRS HRA HBE HSZ
    rw [HX9.out, HY9.out, HE9.out]
    go_wp2_with fail
    try simp only [Exit.inBlock, Exit.then]
    refine bodyPost_ret (results_ck rfl _ _ _ _ _ _ _ _ _ rfl rfl rfl HRS.out HRA.out HSZ.out.1 HSZ.out.2) rfl ⟨?_, HBE.out⟩
    rw [HQ.out, ← HX9.out, ← HY9.out, ← HE9.out]
    rfl
  · subst hE
    have HQ : Hid (newQ s v = noQ 1) := hid (by unfold newQ; rw [if_neg (fun h => by rw [hm] at h; cases h.1)])
    clear hm
    go_wp2_with fail
    refine (ckFails_any 1 w1).mono ?_
    rintro e wf ⟨rfl, hbf⟩
    unfold tldV
    obtain ⟨hst, hsa, hrs, hra, hbe, hzs, hza⟩ := (HR1.out.below hbf).fin (t := noQ 1) (noQ_ok 1)
    have HRS := hid hrs
    have HRA := hid hra
    have HBE := hid hbe
    have HSZ := hid (And.intro hzs hza)
    clear hrs hra hbe hzs hza
    obtain ⟨X9, HX9⟩ : ∃ q : Array Value, Hid (sec (noQ 1).s = q) := ⟨_, hid rfl⟩
    obtain ⟨Y9, HY9⟩ : ∃ q : Array Value, Hid (atc (noQ 1).a = q) := ⟨_, hid rfl⟩
    obtain ⟨E9, HE9⟩ : ∃ q : Int, Hid ((noQ 1).e = q) := ⟨_, hid rfl⟩
    rw [HX9.out] at hst hsa HRS HRA HBE HSZ
    rw [HY9.out] at hsa HRS HRA HBE HSZ
    rw [HX9.out, HY9.out, HE9.out]
    go_wp2_with fail
    try simp only [Exit.inBlock, Exit.then]
    refine bodyPost_ret (results_ck rfl _ _ _ _ _ _ _ _ _ rfl rfl rfl HRS.out HRA.out HSZ.out.1 HSZ.out.2) rfl ⟨?_, HBE.out⟩
    rw [HQ.out, ← HX9.out, ← HY9.out, ← HE9.out]
    rfl
end Go.Proofs.YtghophbabbaleaaGreatDoor
