/-
  checker.Store: a step by a certificate. Printed with genck.py.
-/
import Derived.Test.YtghophbabbaleaaGreatDoorCkCodeA
namespace Go.Proofs.YtghophbabbaleaaGreatDoor
set_option maxRecDepth 20000
open Go.RowKit
attribute [local go_sem ↓] exec_load_se exec_alloc_se exec_store_se exec_build_se exec_load_att exec_alloc_att exec_store_att exec_build_att exec_load_hash exec_build_se4 exec_build_at2 exec_build_at3 exec_build_at5 exec_build_at6 exec_load_bk exec_load_ax exec_load_ct exec_store_hash
theorem storeH_se {w : World} {g : Nat} {s : SeM} {h : List UInt8} (hg : w.heap[g]? = some (.cells (sec s) 40 (0, 0))) (hs : s.Ok) (hl : h.length = 32) :
    storeH (.pointer (some ⟨g, 3, none⟩)) (.agg (hcells h)) w = .ok .skip (w.setCells g 3 (bcells h)) ∧ (w.setCells g 3 (bcells h)).heap[g]? = some (.cells (sec { s with pa := h }) 40 (0, 0)) ∧ w.grownBy (w.setCells g 3 (bcells h)) (some g) := by
  have hth : w.there g 3 (hcells h).size := fun j hj => by
    rw [hcells_size, hl] at hj
    refine ⟨?_, free_blk hg _⟩
    rw [cell_blk hg, Array.getElem?_eq_getElem (by rw [sec_size hs]; omega)]
    rfl
  have hrun := run_storeVar_mid (P := Tryz.prog) w g 3 38 (hcells h) hth (by rw [size_hash, hcells_size, hl]) (hcells_one _)
  rw [hcells_list] at hrun
  refine ⟨?_, ?_, grown_setCells g _ _ _⟩
  · unfold storeH execOp
    simp only [Instr.storeAt, Instr.sureAddr, Sem.run_bind, Sem.run_pure, Result.andThen_ok, hrun]
  · rw [setCells_row (bcells h) 3 w (sec s) hg, sec_pa s hs h hl]
theorem ResSt.grow {w W W' : World} {p q : Nat} {Z Y : Array Value} (h : ResSt w W p q Z Y) {g : Nat} (hg : W.grownBy W' (some g)) (h1 : p ≠ g) (h2 : q ≠ g) (h3 : w.heap.size ≤ g) : ResSt w W' p q Z Y :=
  ⟨(hg.block p (lt_of_block h.s) (fun e => by injection e with e; omega)).trans h.s, (hg.block q (lt_of_block h.a) (fun e => by injection e with e; omega)).trans h.a, h.hp, h.hq, h.bel.grown hg h.bel.size (fun k e => by injection e with e; omega), h.zs, h.za⟩
structure StMid (w W : World) (gN : Nat) (S C N Z Y : Array Value) : Prop where
  r : ResSt w W (w.heap.size + 2) (w.heap.size + 3) Z Y
  s : W.heap[w.heap.size]? = some (.cells S 40 (0, 0))
  c : W.heap[w.heap.size + 1]? = some (.cells C 55 (0, 0))
  n : W.heap[gN]? = some (.cells N 40 (0, 0))
set_option maxHeartbeats 12800000 in
theorem ckStore_any (s : SeM) (hs : s.Ok) (n : Int) (hn : (Lit.int .i64 n).wf = true) (v : Value) (c : CtM) (w : World) (hv : CtV w v c) (hsg : c.sg.length ≤ 1000) (hK : Kst 1 w) :
    Calls Tryz.prog 37 #[.agg (sec s), .int .i64 n, v] w (TlPost (storeQ s n c) w) := by
  have HSO := hid hs
  have HSZ0 := hid (sec_size hs)
  have HSC : Hid (∀ (W : World) (g : Nat), W.heap[g]? = some (.cells (sec s) 40 (0, 0)) → (W.cell? ⟨g, 0, none⟩ = some (.int .i64 s.vi) ∧ W.cell? ⟨g, 1, none⟩ = some (.int .i64 s.ph) ∧ W.cell? ⟨g, 2, none⟩ = some (.int .i64 s.pv)) ∧ loadH (.pointer (some ⟨g, 3, none⟩)) W = .ok (.value (.agg (hcells s.pa))) W) := hid (fun W g h => ⟨BoxSe.cells (a := s) h, loadH_mid (BoxSe.hash (a := s) h) hs⟩)
  have HCK : Hid (∀ W, Calls Tryz.prog 40 #[.agg (sec s)] W fun e w' => e = .returned (.int .i64 (if mayS s = true then 0 else 1)) ∧ Below W.heap.size W w') := hid (fun W => seCheck_ok s W hs)
  have HRT : Hid (∀ W, Below w.heap.size w W → Calls Tryz.prog 67 #[.int .i64 n, v] W fun e w' => e = .returned (.bool (rightC n c)) ∧ Below W.heap.size W w') := hid (fun W h => ctRight_ok n v c W hn (hv.below h) hsg (hK.below h))
  have HCV := hid (fun W (h : Below w.heap.size w W) => hv.below h)
  obtain ⟨sc, rfl, hco, hce⟩ := hv
  have HCO := hid hco
  have HCZ0 := hid (ctc_size sc hco.att)
  have HCC : Hid (∀ (W : World) (g : Nat), W.heap[g]? = some (.cells (ctc c sc) 55 (0, 0)) → (W.cell? ⟨g, 1, none⟩ = some (.int .i64 c.att.ki) ∧ W.cell? ⟨g, 2, none⟩ = some (.int .i64 c.att.vi)) ∧ loadH (.pointer (some ⟨g, 4, none⟩)) W = .ok (.value (.agg (hcells c.att.ha))) W) := hid (fun W g h => by
    have hat := BoxC.att (c := c) (s := sc) h
    refine ⟨⟨hat 1 _ rfl, hat 2 _ rfl⟩, loadH_mid (fun j u hu => ?_) hco.att.ha⟩
    have e : (atl c.att)[4 + j]? = some u := by
      rw [atl_ha, List.getElem?_append_right (by simp), List.getElem?_append_left (by simpa using (List.getElem?_eq_some_iff.1 hu).1)]
      simpa using hu
    have := hat (4 + j) u e
    rwa [Nat.zero_add] at this)
  have hn0 : SeM.Ok ⟨c.att.vi, 3, c.att.vi, c.att.ha⟩ := hco.att.ha
  have hn1 : SeM.Ok ⟨c.att.vi, 3, s.pv, s.pa⟩ := hs
  have ha0 : AtM.Ok ⟨0, 0, 0, 0, c.att.ha, c.att.vi, c.att.ha, z32⟩ := ⟨hco.att.ha, hco.att.ha, rfl⟩
  have HMV : Hid (∀ W, Calls Tryz.prog 56 #[.agg (sec s), .int .i64 c.att.vi, .int .i64 3] W fun e w' => e = .returned (.agg (sec ⟨c.att.vi, 3, s.pv, s.pa⟩)) ∧ Below W.heap.size W w') := hid (fun W => ckMoved_any s hs c.att.vi 3 W)
  have HBT := hid (buildAt3_eq c.att.vi c.att.ha c.att.ha hco.att.ha hco.att.ha)
  have HST : Hid (∀ W, Calls Tryz.prog 57 #[.agg (sec s), .agg (sec ⟨c.att.vi, 3, c.att.vi, c.att.ha⟩), .agg (atc ⟨0, 0, 0, 0, c.att.ha, c.att.vi, c.att.ha, z32⟩)] W (TlPost (stepQ s ⟨c.att.vi, 3, c.att.vi, c.att.ha⟩ ⟨0, 0, 0, 0, c.att.ha, c.att.vi, c.att.ha, z32⟩) W)) := hid (fun W => ckStep_any s _ _ hs hn0 ha0 W)
  have HTK : Hid (TldM.Ok (stepQ s ⟨c.att.vi, 3, c.att.vi, c.att.ha⟩ ⟨0, 0, 0, 0, c.att.ha, c.att.vi, c.att.ha, z32⟩)) := hid (stepQ_ok hn0 ha0)
  have HNZ : Hid ((sec ⟨c.att.vi, 3, s.pv, s.pa⟩).size = 35 ∧ (sec ⟨c.att.vi, 3, s.pv, s.pa⟩).all (·.oneCell') = true) := hid ⟨sec_size hn1, sec_one _⟩
  have HN0 := hid hn0
  have HN1 := hid hn1
  clear hn0 ha0 hn1
  obtain ⟨S, HS⟩ : ∃ q : Array Value, Hid (sec s = q) := ⟨_, hid rfl⟩
  obtain ⟨M, HM⟩ : ∃ q : Array Value, Hid (sec ⟨c.att.vi, 3, s.pv, s.pa⟩ = q) := ⟨_, hid rfl⟩
  obtain ⟨N, HN⟩ : ∃ q : Array Value, Hid (sec ⟨c.att.vi, 3, c.att.vi, c.att.ha⟩ = q) := ⟨_, hid rfl⟩
  obtain ⟨A0, HA0⟩ : ∃ q : Array Value, Hid (atc ⟨0, 0, 0, 0, c.att.ha, c.att.vi, c.att.ha, z32⟩ = q) := ⟨_, hid rfl⟩
  obtain ⟨G, HG⟩ : ∃ q : Array Value, Hid (hcells c.att.ha = q) := ⟨_, hid rfl⟩
  obtain ⟨C, HC⟩ : ∃ q : Array Value, Hid (ctc c sc = q) := ⟨_, hid rfl⟩
  obtain ⟨Tq, HTq⟩ : ∃ q : TldM, Hid (stepQ s ⟨c.att.vi, 3, c.att.vi, c.att.ha⟩ ⟨0, 0, 0, 0, c.att.ha, c.att.vi, c.att.ha, z32⟩ = q) := ⟨_, hid rfl⟩
  have HSC2 := hid HSC.out
  rw [HS.out] at HSZ0 HSC HCK HMV HST
  rw [HM.out] at HMV HNZ
  rw [HN.out] at HST
  rw [HA0.out] at HST HBT
  rw [HTq.out] at HST HTK
  rw [HG.out] at HCC HBT
  rw [HC.out] at HCV HCZ0 HCC HRT
  rw [HS.out, HC.out]
  clear hs hn hsg hK hco hce
  obtain ⟨ZS, HZS⟩ : ∃ q : Array Value, Hid (sec seZ = q) := ⟨_, hid rfl⟩
  obtain ⟨ZA, HZA⟩ : ∃ q : Array Value, Hid (atc atZ = q) := ⟨_, hid rfl⟩
  have HZZ : Hid (ZS.size = 35 ∧ ZA.size = 101) := hid (by rw [← HZS.out, ← HZA.out]; exact ⟨sec_size seZ_ok, atc_size atZ_ok⟩)
  have HBS : Hid (∀ W, buildSe W = .ok (.value (.agg ZS)) W) := hid (fun W => by rw [← HZS.out]; exact buildSe_eq W)
  have HBA : Hid (∀ W, buildAtt W = .ok (.value (.agg ZA)) W) := hid (fun W => by rw [← HZA.out]; exact buildAtt_eq W)
  have HLS : Hid (∀ W, allocSe W = .ok (.value (.pointer (some ⟨W.heap.size, 0, none⟩))) (W.alloc (.cells ZS 40))) := hid (fun W => by rw [← HZS.out]; exact allocSe_eq W)
  have HLA : Hid (∀ W, allocAtt W = .ok (.value (.pointer (some ⟨W.heap.size, 0, none⟩))) (W.alloc (.cells ZA 52))) := hid (fun W => by rw [← HZA.out]; exact allocAtt_eq W)
  have hal1 : allocSe ((w.alloc (.cells S 40)).alloc (.cells C 55)) = .ok (.value (.pointer (some ⟨w.heap.size + 2, 0, none⟩))) (((w.alloc (.cells S 40)).alloc (.cells C 55)).alloc (.cells ZS 40)) := by
    have := HLS.out ((w.alloc (.cells S 40)).alloc (.cells C 55))
    rwa [show (((w.alloc (.cells S 40)).alloc (.cells C 55))).heap.size = w.heap.size + 2 from by simp] at this
  have hal2 : allocAtt (((w.alloc (.cells S 40)).alloc (.cells C 55)).alloc (.cells ZS 40)) = .ok (.value (.pointer (some ⟨w.heap.size + 3, 0, none⟩))) ((((w.alloc (.cells S 40)).alloc (.cells C 55)).alloc (.cells ZS 40)).alloc (.cells ZA 52)) := by
    have := HLA.out (((w.alloc (.cells S 40)).alloc (.cells C 55)).alloc (.cells ZS 40))
    rwa [show ((((w.alloc (.cells S 40)).alloc (.cells C 55)).alloc (.cells ZS 40))).heap.size = w.heap.size + 3 from by simp] at this
  obtain ⟨hr0, hr1, hr2, hr3⟩ := rows_four w (.cells S 40) (.cells C 55) (.cells ZS 40) (.cells ZA 52)
  have HBZ : Hid (Below w.heap.size w ((((w.alloc (.cells S 40)).alloc (.cells C 55)).alloc (.cells ZS 40)).alloc (.cells ZA 52))) := hid (((((Below.refl w.heap.size w).alloc (Nat.le_refl _) _).alloc (by simp; try omega) _).alloc (by simp; try omega) _).alloc (by simp; try omega) _)
  have HR : Hid (ResSt w ((((w.alloc (.cells S 40)).alloc (.cells C 55)).alloc (.cells ZS 40)).alloc (.cells ZA 52)) (w.heap.size + 2) (w.heap.size + 3) ZS ZA) := hid ⟨hr2, hr3, by omega, by omega, HBZ.out, HZZ.out.1, HZZ.out.2⟩
  have HR0 := hid (show ((((w.alloc (.cells S 40)).alloc (.cells C 55)).alloc (.cells ZS 40)).alloc (.cells ZA 52)).heap[w.heap.size]? = some (.cells S 40 (0, 0)) from hr0)
  have HR1 := hid (show ((((w.alloc (.cells S 40)).alloc (.cells C 55)).alloc (.cells ZS 40)).alloc (.cells ZA 52)).heap[w.heap.size + 1]? = some (.cells C 55 (0, 0)) from hr1)
  clear hr0 hr1 hr2 hr3
  go_enter Tryz.func37, Tryz.ntmps37
  go_upto_region 1 with (fail)
  clear hal1 hal2
  generalize ((((w.alloc (.cells S 40)).alloc (.cells C 55)).alloc (.cells ZS 40)).alloc (.cells ZA 52)) = wz at *
  obtain ⟨E, HE⟩ : ∃ q : Int, Hid ((if mayS s = true then 0 else 1) = q) := ⟨_, hid rfl⟩
  rw [HE.out] at HCK
  have HEM : Hid ((E = 0 ∧ mayS s = true) ∨ (E = 1 ∧ mayS s = false)) := hid (by
    rw [← HE.out]
    cases mayS s
    · exact .inr ⟨rfl, rfl⟩
    · exact .inl ⟨rfl, rfl⟩)
  have l0 := loadSe_row HR0.out HSZ0.out
  go_wp2_with fail
  refine (HCK.out wz).mono ?_
  rintro e x1 ⟨rfl, hx1⟩
  have HX1 := hid hx1
  have HRS1 := hid (HR.out.below hx1)
  have HS1 := hid ((hx1.block _ (lt_of_block HR0.out)).trans HR0.out)
  have HC1 := hid ((hx1.block _ (lt_of_block HR1.out)).trans HR1.out)
  clear hx1 l0
  rcases HEM.out with ⟨hE, hm⟩ | ⟨hE, hm⟩
  · have HMS := hid hm
    subst hE
    clear hm
    go_upto_region 3 with (fail)
    have lc := loadCt_row HC1.out HCZ0.out
    obtain ⟨r, HRX⟩ : ∃ q : Bool, Hid (rightC n c = q) := ⟨_, hid rfl⟩
    rw [HRX.out] at HRT
    go_wp2_with fail
    refine (HRT.out x1 HRS1.out.bel).mono ?_
    rintro e x2 ⟨rfl, hx2⟩
    have HRS2 := hid (HRS1.out.below hx2)
    have HS2 := hid ((hx2.block _ (lt_of_block HS1.out)).trans HS1.out)
    have HC2 := hid ((hx2.block _ (lt_of_block HC1.out)).trans HC1.out)
    clear hx2 lc
    cases r with
    | false =>
      have HQ : Hid (storeQ s n c = noQ 7) := hid (by unfold storeQ; rw [if_pos HMS.out, if_neg (fun h => by rw [HRX.out] at h; cases h.1)])
      go_wp2_with fail
      refine (ckFails_any 7 x2).mono ?_
      rintro e wf ⟨rfl, hbf⟩
      unfold tldV
      obtain ⟨hst, hsa, hrs, hra, hbe, hzs, hza⟩ := (HRS2.out.below hbf).fin (t := noQ 7) (noQ_ok 7)
      have HRS := hid hrs
      have HRA := hid hra
      have HBE := hid hbe
      have HSZ := hid (And.intro hzs hza)
      clear hrs hra hbe hzs hza
      obtain ⟨X9, HX9⟩ : ∃ q : Array Value, Hid (sec (noQ 7).s = q) := ⟨_, hid rfl⟩
      obtain ⟨Y9, HY9⟩ : ∃ q : Array Value, Hid (atc (noQ 7).a = q) := ⟨_, hid rfl⟩
      obtain ⟨E9, HE9⟩ : ∃ q : Int, Hid ((noQ 7).e = q) := ⟨_, hid rfl⟩
      rw [HX9.out] at hst hsa HRS HRA HBE HSZ
      rw [HY9.out] at hsa HRS HRA HBE HSZ
      rw [HX9.out, HY9.out, HE9.out]
      go_wp2_with fail
      try simp only [Exit.inBlock, Exit.then]
      refine bodyPost_ret (results_ck rfl _ _ _ _ _ _ _ _ _ rfl rfl rfl HRS.out HRA.out HSZ.out.1 HSZ.out.2) rfl ⟨?_, HBE.out⟩
      rw [HQ.out, ← HX9.out, ← HY9.out, ← HE9.out]
      rfl
    | true =>
      obtain ⟨⟨k1, _⟩, _⟩ := HCC.out x2 _ HC2.out
      obtain ⟨ki, HKI⟩ : ∃ q : Int, Hid (c.att.ki = q) := ⟨_, hid rfl⟩
      rw [HKI.out] at k1
      by_cases p1 : ki = 2
      · subst p1
        have HQ : Hid (storeQ s n c = Tq) := hid (by unfold storeQ; rw [if_pos HMS.out, if_pos ⟨HRX.out, HKI.out⟩]; exact HTq.out)
        go_upto_region 5 with (fail)
        obtain ⟨⟨_, k2⟩, _⟩ := HCC.out x2 _ HC2.out
        have l2 := loadSe_row HS2.out HSZ0.out
        clear k1
        go_wp2_with fail
        refine (HMV.out x2).mono ?_
        rintro e x3 ⟨rfl, hx3⟩
        have hal := HLS.out
        have hsv := se_var x3 HZZ.out.1 HNZ.out.1 HNZ.out.2
        have hx4 := hx3.alloc hx3.size (.cells M 40)
        have HRS4 := hid (HRS2.out.below hx4)
        have HS4 := hid ((hx4.block _ (lt_of_block HS2.out)).trans HS2.out)
        have HC4 := hid ((hx4.block _ (lt_of_block HC2.out)).trans HC2.out)
        have HN4 := hid (heap_alloc_new x3 (.cells M 40))
        have HGN := hid (Nat.lt_of_lt_of_le (lt_of_block HRS2.out.a) hx3.size)
        clear hx3 hx4 l2 k2
        go_upto_region 6 with (fail)
        clear hal hsv
        generalize (x3.alloc (.cells M 40)) = x4 at *
        generalize x3.heap.size = gN at *
        go_cut [] (fun wy => Hid (StMid w wy gN S C N ZS ZA))
        case first =>
          have HMR : Hid (x4.drew.heap[gN]? = some (.cells (sec ⟨c.att.vi, 3, s.pv, s.pa⟩) 40 (0, 0))) := hid (by rw [HM.out]; exact HN4.out)
          have HA2 : Hid ((x4.drew.setCell ⟨gN, 2, none⟩ (.int .i64 c.att.vi)).heap[gN]? = some (.cells (sec ⟨c.att.vi, 3, c.att.vi, s.pa⟩) 40 (0, 0))) := hid (by rw [heap_setIn _ HMR.out, sec_pv])
          have k2 : x4.cell? ⟨gN, 2, none⟩ = some (.int .i64 s.pv) := (BoxSe.cells (a := ⟨c.att.vi, 3, s.pv, s.pa⟩) HMR.out).2.2
          have f2 : x4.frozen? ⟨gN, 2, none⟩ = false := BoxSe.free (a := ⟨c.att.vi, 3, s.pv, s.pa⟩) HMR.out 2
          obtain ⟨hs1, hr1, hg1⟩ := storeH_se (w := (x4.setCell ⟨gN, 2, none⟩ (.int .i64 c.att.vi)).drew) HA2.out HN1.out HN0.out
          have hs2 := (storeH_se (w := x4.drew.setCell ⟨gN, 2, none⟩ (.int .i64 c.att.vi)) HA2.out HN1.out HN0.out).1
          rw [HG.out] at hs1 hs2
          simp only at hr1
          rw [HN.out] at hr1
          have hne : w.heap.size ≠ gN ∧ w.heap.size + 1 ≠ gN ∧ w.heap.size + 2 ≠ gN ∧ w.heap.size + 3 ≠ gN ∧ w.heap.size ≤ gN := by have := HGN.out; omega
          have HB2 := hid (HRS4.out.cell hne.2.2.1 hne.2.2.2.1 hne.2.2.2.2 2 (.int .i64 c.att.vi))
          have HC2' := hid ((Below.heap_setCell x4 ⟨gN, 2, none⟩ (.int .i64 c.att.vi) _ hne.2.1).trans HC4.out)
          have HS2' := hid ((Below.heap_setCell x4 ⟨gN, 2, none⟩ (.int .i64 c.att.vi) _ hne.1).trans HS4.out)
          have HC3' := hid ((hg1.block _ (lt_of_block HC2'.out) (fun e => hne.2.1 (by injection e with e))).trans HC2'.out)
          have HS3' := hid ((hg1.block _ (lt_of_block HS2'.out) (fun e => hne.1 (by injection e with e))).trans HS2'.out)
          have HB3 : Hid (ResSt w ((x4.setCell ⟨gN, 2, none⟩ (.int .i64 c.att.vi)).drew.setCells gN 3 (bcells c.att.ha)) (w.heap.size + 2) (w.heap.size + 3) ZS ZA) := hid (ResSt.grow (W := (x4.setCell ⟨gN, 2, none⟩ (.int .i64 c.att.vi)).drew) (HB2.out.below ((Below.refl _ _).drew)) hg1 hne.2.2.1 hne.2.2.2.1 hne.2.2.2.2)
          have HREL : Hid (StMid w ((x4.setCell ⟨gN, 2, none⟩ (.int .i64 c.att.vi)).drew.setCells gN 3 (bcells c.att.ha)) gN S C N ZS ZA) := hid ⟨HB3.out, HS3'.out, HC3'.out, hr1⟩
          have HKP : Hid (∀ W : World, W.heap[w.heap.size + 1]? = some (.cells C 55 (0, 0)) → W.cell? ⟨w.heap.size + 1, 2, none⟩ = some (.int .i64 c.att.vi) ∧ loadH (.pointer (some ⟨w.heap.size + 1, 4, none⟩)) W = .ok (.value (.agg G)) W) := hid (fun W h => ⟨(HCC.out W _ h).1.2, (HCC.out W _ h).2⟩)
          clear hr1 hne
          refine wp_region_held_drew (S := fun W => W.cell? ⟨w.heap.size + 1, 2, none⟩ = some (.int .i64 c.att.vi) ∧ loadH (.pointer (some ⟨w.heap.size + 1, 4, none⟩)) W = .ok (.value (.agg G)) W) (by kernel_rfl) (HKP.out x4.drew HC4.out) (fun hHeld => ?_)
          refine' tk (i := 0) (v := _) rfl ?_ ?_
          rotate_left
          · (intro W hW; (try dsimp only at hW); go_simp; first | done | with_reducible rfl)
          try simp only [lay]
          refine' tk (i := 1) (v := _) rfl ?_ ?_
          rotate_left
          · (intro W hW; (try dsimp only at hW); go_simp; first | done | with_reducible rfl)
          try simp only [lay]
          refine' tk (i := 2) (v := _) rfl ?_ ?_
          rotate_left
          · (intro W hW; (try dsimp only at hW); obtain ⟨hW1, hW2⟩ := hW; go_simp; first | done | with_reducible rfl)
          try simp only [lay]
          refine' tk (i := 3) (v := _) rfl ?_ ?_
          rotate_left
          · (intro W hW; (try dsimp only at hW); go_simp; first | done | with_reducible rfl)
          try simp only [lay]
          refine' tk (i := 4) (v := _) rfl ?_ ?_
          rotate_left
          · (intro W hW; (try dsimp only at hW); go_simp; first | done | with_reducible rfl)
          try simp only [lay]
          refine' tk (i := 5) (v := _) rfl ?_ ?_
          rotate_left
          · (intro W hW; (try dsimp only at hW); obtain ⟨hW1, hW2⟩ := hW; go_simp; first | done | with_reducible rfl)
          try simp only [lay]
          refine' tk (i := 6) (v := _) rfl ?_ ?_
          rotate_left
          · (intro W hW; (try dsimp only at hW); go_simp; first | done | with_reducible rfl)
          try simp only [lay]
          refine call_on (i := 7) rfl (by kernel_rfl) (by rfl) (fun K hK => ?_)
          go_simp
          refine hK.out _ _ (HKP.out (x4.setCell ⟨gN, 2, none⟩ (.int .i64 c.att.vi)).drew HC2'.out) (fun hHeld => ?_)
          clear hK K
          try simp only [lay]
          refine' tk (i := 8) (v := _) rfl ?_ ?_
          rotate_left
          · (intro W hW; (try dsimp only at hW); go_simp; first | done | with_reducible rfl)
          try simp only [lay]
          refine call_on (i := 9) rfl (by kernel_rfl) (by rfl) (fun K hK => ?_)
          go_simp
          refine hK.out _ _ (HKP.out _ HC3'.out) (fun hHeld => ?_)
          clear hK K
          try simp only [lay]
          refine wpAnyH_done (by kernel_rfl) ?_ _
          clear hHeld hs1 hs2 hg1 k2 f2
          go_wp2_with fail
          go_meet
          case rel => exact HREL
        case rest =>
          have HMD := hcut
          clear hcut HRS4 HS4 HC4 HN4
          have l3 := loadSe_row HMD.out.s HSZ0.out
          have HNR : Hid (wc.heap[gN]? = some (.cells (sec ⟨c.att.vi, 3, c.att.vi, c.att.ha⟩) 40 (0, 0))) := hid (by rw [HN.out]; exact HMD.out.n)
          have lN : loadSe (.pointer (some ⟨gN, 0, none⟩)) wc = .ok (.value (.agg N)) wc := loadSe_row HMD.out.n (by rw [← HN.out]; exact sec_size HN0.out)
          have k2 : wc.cell? ⟨gN, 2, none⟩ = some (.int .i64 c.att.vi) := (BoxSe.cells (a := ⟨c.att.vi, 3, c.att.vi, c.att.ha⟩) HNR.out).2.2
          have h3 : loadH (.pointer (some ⟨gN, 3, none⟩)) wc = .ok (.value (.agg G)) wc := by
            rw [← HG.out]
            exact loadH_mid (BoxSe.hash (a := ⟨c.att.vi, 3, c.att.vi, c.att.ha⟩) HNR.out) HN0.out
          obtain ⟨_, h4⟩ := HCC.out wc _ HMD.out.c
          have hbt := HBT.out
          go_wp2_with fail
          refine (HST.out wc).mono ?_
          rintro e w9 ⟨rfl, hb9⟩
          clear l3 lN k2 h3 h4 hbt
          unfold tldV
          obtain ⟨hst, hsa, hrs, hra, hbe, hzs, hza⟩ := (HMD.out.r.below hb9).fin (t := Tq) HTK.out
          have HRS := hid hrs
          have HRA := hid hra
          have HBE := hid hbe
          have HSZ := hid (And.intro hzs hza)
          clear hrs hra hbe hzs hza
          obtain ⟨X9, HX9⟩ : ∃ q : Array Value, Hid (sec (Tq).s = q) := ⟨_, hid rfl⟩
          obtain ⟨Y9, HY9⟩ : ∃ q : Array Value, Hid (atc (Tq).a = q) := ⟨_, hid rfl⟩
          obtain ⟨E9, HE9⟩ : ∃ q : Int, Hid ((Tq).e = q) := ⟨_, hid rfl⟩
          rw [HX9.out] at hst hsa HRS HRA HBE HSZ
          rw [HY9.out] at hsa HRS HRA HBE HSZ
          rw [HX9.out, HY9.out, HE9.out]
          go_wp2_with fail
          try simp only [Exit.inBlock, Exit.then]
          refine bodyPost_ret (results_ck rfl _ _ _ _ _ _ _ _ _ rfl rfl rfl HRS.out HRA.out HSZ.out.1 HSZ.out.2) rfl ⟨?_, HBE.out⟩
          rw [HQ.out, ← HX9.out, ← HY9.out, ← HE9.out]
          rfl
      · have HQ : Hid (storeQ s n c = noQ 7) := hid (by unfold storeQ; rw [if_pos HMS.out, if_neg (fun h => p1 (HKI.out.symm.trans h.2))])
        go_wp2_with fail
        refine (ckFails_any 7 x2).mono ?_
        rintro e wf ⟨rfl, hbf⟩
        unfold tldV
        obtain ⟨hst, hsa, hrs, hra, hbe, hzs, hza⟩ := (HRS2.out.below hbf).fin (t := noQ 7) (noQ_ok 7)
        have HRS := hid hrs
        have HRA := hid hra
        have HBE := hid hbe
        have HSZ := hid (And.intro hzs hza)
        clear hrs hra hbe hzs hza
        obtain ⟨X9, HX9⟩ : ∃ q : Array Value, Hid (sec (noQ 7).s = q) := ⟨_, hid rfl⟩
        obtain ⟨Y9, HY9⟩ : ∃ q : Array Value, Hid (atc (noQ 7).a = q) := ⟨_, hid rfl⟩
        obtain ⟨E9, HE9⟩ : ∃ q : Int, Hid ((noQ 7).e = q) := ⟨_, hid rfl⟩
        rw [HX9.out] at hst hsa HRS HRA HBE HSZ
        rw [HY9.out] at hsa HRS HRA HBE HSZ
        rw [HX9.out, HY9.out, HE9.out]
        go_wp2_with fail
        try simp only [Exit.inBlock, Exit.then]
        refine bodyPost_ret (results_ck rfl _ _ _ _ _ _ _ _ _ rfl rfl rfl HRS.out HRA.out HSZ.out.1 HSZ.out.2) rfl ⟨?_, HBE.out⟩
        rw [HQ.out, ← HX9.out, ← HY9.out, ← HE9.out]
        rfl
  · have HQ : Hid (storeQ s n c = noQ 1) := hid (by unfold storeQ; rw [if_neg (fun h => by rw [hm] at h; cases h)])
    subst hE
    clear hm
    go_wp2_with fail
    refine (ckFails_any 1 x1).mono ?_
    rintro e wf ⟨rfl, hbf⟩
    unfold tldV
    obtain ⟨hst, hsa, hrs, hra, hbe, hzs, hza⟩ := (HRS1.out.below hbf).fin (t := noQ 1) (noQ_ok 1)
    have HRS := hid hrs
    have HRA := hid hra
    have HBE := hid hbe
    have HSZ := hid (And.intro hzs hza)
    clear hrs hra hbe hzs hza
    obtain ⟨X9, HX9⟩ : ∃ q : Array Value, Hid (sec (noQ 1).s = q) := ⟨_, hid rfl⟩
    obtain ⟨Y9, HY9⟩ : ∃ q : Array Value, Hid (atc (noQ 1).a = q) := ⟨_, hid rfl⟩
    obtain ⟨E9, HE9⟩ : ∃ q : Int, Hid ((noQ 1).e = q) := ⟨_, hid rfl⟩
    rw [HX9.out] at hst hsa HRS HRA HBE HSZ
    rw [HY9.out] at hsa HRS HRA HBE HSZ
    rw [HX9.out, HY9.out, HE9.out]
    go_wp2_with fail
    try simp only [Exit.inBlock, Exit.then]
    refine bodyPost_ret (results_ck rfl _ _ _ _ _ _ _ _ _ rfl rfl rfl HRS.out HRA.out HSZ.out.1 HSZ.out.2) rfl ⟨?_, HBE.out⟩
    rw [HQ.out, ← HX9.out, ← HY9.out, ← HE9.out]
    rfl
end Go.Proofs.YtghophbabbaleaaGreatDoor
