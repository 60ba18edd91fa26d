/-
  tithinglaw15.awake, tithinglaw15.Do. Printed with genck.py.
-/
import Derived.Test.YtghophbabbaleaaGreatDoorCkArg
import Derived.Test.YtghophbabbaleaaGreatDoorCkCodeB
import Derived.Test.YtghophbabbaleaaGreatDoorCkCodeC
import Derived.Test.YtghophbabbaleaaGreatDoorCkCodeD
import Derived.Test.YtghophbabbaleaaGreatDoorCkRefB
import Derived.Test.YtghophbabbaleaaGreatDoorCkRefC
namespace Go.Proofs.YtghophbabbaleaaGreatDoor
set_option maxRecDepth 20000
open Go.RowKit
attribute [local go_sem ↓] exec_load_se exec_alloc_se exec_store_se exec_build_se exec_load_att exec_alloc_att exec_store_att exec_build_att exec_load_hash exec_build_se4 exec_build_at2 exec_build_at3 exec_build_at5 exec_build_at6 exec_load_bk exec_load_ax exec_load_ct exec_eq_se exec_eq_att exec_load_st
theorem vars_two (w : World) {Z Y : Array Value} (hz : Z.size = 35) (hy : Y.size = 101) {t : TldM} (ho : t.Ok) : ResEnd w ((w.alloc (.cells Z 40)).alloc (.cells Y 52)) w.heap.size (w.heap.size + 1) (sec t.s) (atc t.a) := by
  obtain ⟨h1, h2⟩ := rows_two w (.cells Z 40) (.cells Y 52)
  exact ResSt.fin (Z := Z) (Y := Y) ⟨h1, h2, Nat.le_refl _, Nat.le_succ _, ((Below.refl _ _).alloc (Nat.le_refl _) _).alloc (by simp) _, hz, hy⟩ ho
def seThree : SeM := ⟨3, 1, 0, z32⟩
theorem awake_new : newQ seZ 3 = ⟨seThree, ⟨0, 1, 3, 1, z32, 0, z32, z32⟩, 0⟩ := by
  unfold newQ
  rw [if_pos ⟨by decide, by decide, by decide⟩]
  exact stepQ_go (by decide)
theorem awake_old : newQ seThree 3 = noQ 11 := by
  unfold newQ
  rw [if_pos ⟨by decide, by decide, by decide⟩]
  exact stepQ_old (by decide)
set_option maxHeartbeats 3200000 in
theorem ckAwake_any (w : World) : Calls Tryz.prog 13 #[] w fun e w' => e = .returned (.bool true) ∧ Below w.heap.size w w' := by
  obtain ⟨ZS, HZS⟩ : ∃ q : Array Value, Hid (sec seZ = q) := ⟨_, hid rfl⟩
  obtain ⟨ZA, HZA⟩ : ∃ q : Array Value, Hid (atc atZ = q) := ⟨_, hid rfl⟩
  have HZZ : Hid (ZS.size = 35 ∧ ZA.size = 101) := hid (by rw [← HZS.out, ← HZA.out]; exact ⟨sec_size seZ_ok, atc_size atZ_ok⟩)
  have HLS : Hid (∀ W, allocSe W = .ok (.value (.pointer (some ⟨W.heap.size, 0, none⟩))) (W.alloc (.cells ZS 40))) := hid (fun W => by rw [← HZS.out]; exact allocSe_eq W)
  have HLA : Hid (∀ W, allocAtt W = .ok (.value (.pointer (some ⟨W.heap.size, 0, none⟩))) (W.alloc (.cells ZA 52))) := hid (fun W => by rw [← HZA.out]; exact allocAtt_eq W)
  have HBS : Hid (∀ W, buildSe W = .ok (.value (.agg ZS)) W) := hid (fun W => by rw [← HZS.out]; exact buildSe_eq W)
  have HN1 : Hid (∀ W, Calls Tryz.prog 33 #[.agg (sec seZ), .int .i64 3] W (TlPost ⟨seThree, ⟨0, 1, 3, 1, z32, 0, z32, z32⟩, 0⟩ W)) := hid (fun W => by
    have := ckNew_any seZ seZ_ok 3 W
    rwa [awake_new] at this)
  have HN2 : Hid (∀ W, Calls Tryz.prog 33 #[.agg (sec seThree), .int .i64 3] W (TlPost (noQ 11) W)) := hid (fun W => by
    have := ckNew_any seThree rfl 3 W
    rwa [awake_old] at this)
  have HTK1 : Hid (TldM.Ok ⟨seThree, ⟨0, 1, 3, 1, z32, 0, z32, z32⟩, 0⟩) := hid ⟨rfl, ⟨rfl, rfl, rfl⟩⟩
  have HTK2 := hid (noQ_ok 11)
  have HSC : Hid (∀ (W : World) (g : Nat), W.heap[g]? = some (.cells (sec seThree) 40 (0, 0)) → W.cell? ⟨g, 0, none⟩ = some (.int .i64 3)) := hid (fun W g h => (BoxSe.cells (a := seThree) h).1)
  have HAC : Hid (∀ (W : World) (g : Nat), W.heap[g]? = some (.cells (atc ⟨0, 1, 3, 1, z32, 0, z32, z32⟩) 52 (0, 0)) → W.cell? ⟨g, 1, none⟩ = some (.int .i64 1) ∧ W.cell? ⟨g, 2, none⟩ = some (.int .i64 3)) := hid (fun W g h => ⟨(BoxA.cells (a := ⟨0, 1, 3, 1, z32, 0, z32, z32⟩) h).2.1, (BoxA.cells (a := ⟨0, 1, 3, 1, z32, 0, z32, z32⟩) h).2.2.1⟩)
  obtain ⟨t1, HT1⟩ : ∃ q : TldM, Hid (TldM.mk seThree ⟨0, 1, 3, 1, z32, 0, z32, z32⟩ 0 = q) := ⟨_, hid rfl⟩
  obtain ⟨t2, HT2⟩ : ∃ q : TldM, Hid (noQ 11 = q) := ⟨_, hid rfl⟩
  have HE1 : Hid (t1.e = 0 ∧ sec t1.s = sec seThree ∧ atc t1.a = atc ⟨0, 1, 3, 1, z32, 0, z32, z32⟩) := hid (by rw [← HT1.out]; exact ⟨rfl, rfl, rfl⟩)
  have HE2 : Hid (t2.e = 11) := hid (by rw [← HT2.out]; rfl)
  rw [HT1.out] at HN1 HTK1
  rw [HT2.out] at HN2 HTK2
  rw [HZS.out] at HN1
  obtain ⟨X, HX⟩ : ∃ q : Array Value, Hid (sec seThree = q) := ⟨_, hid rfl⟩
  obtain ⟨Y, HY⟩ : ∃ q : Array Value, Hid (atc ⟨0, 1, 3, 1, z32, 0, z32, z32⟩ = q) := ⟨_, hid rfl⟩
  obtain ⟨X2, HX2⟩ : ∃ q : Array Value, Hid (sec t2.s = q) := ⟨_, hid rfl⟩
  obtain ⟨Y2, HY2⟩ : ∃ q : Array Value, Hid (atc t2.a = q) := ⟨_, hid rfl⟩
  rw [HX.out] at HE1 HN2 HSC
  rw [HY.out] at HE1 HAC
  have HX1 : Hid (sec t1.s = X) := hid HE1.out.2.1
  have HY1 : Hid (atc t1.a = Y) := hid HE1.out.2.2
  have hbs := HBS.out
  go_enter Tryz.func13, Tryz.ntmps13
  go_wp2_with fail
  refine (HN1.out w).mono ?_
  unfold TlPost tldV
  rintro e w1 ⟨rfl, hb1⟩
  have HB1 := hid hb1
  rw [HX1.out, HY1.out, HE1.out.1]
  clear hb1 hbs
  have hal1 := HLS.out w1
  have hal2 : allocAtt (w1.alloc (.cells ZS 40)) = .ok (.value (.pointer (some ⟨w1.heap.size + 1, 0, none⟩))) ((w1.alloc (.cells ZS 40)).alloc (.cells ZA 52)) := by
    have := HLA.out (w1.alloc (.cells ZS 40))
    rwa [show (w1.alloc (.cells ZS 40)).heap.size = w1.heap.size + 1 from by simp] at this
  obtain ⟨hst, hsa, hrs, hra, hbe, hzs, hza⟩ := vars_two w1 HZZ.out.1 HZZ.out.2 (t := t1) HTK1.out
  rw [HX1.out] at hst hsa hrs hra hbe hzs
  rw [HY1.out] at hsa hrs hra hbe hza
  have HRSw2 := hid hrs
  have HRAw2 := hid hra
  have HBEw2 := hid hbe
  have HSZw2 := hid (And.intro hzs hza)
  clear hrs hra hbe hzs hza
  go_upto_region 2 with (fail)
  clear hal1 hal2 hst hsa
  generalize (setAtt (setSe ((w1.alloc (.cells ZS 40)).alloc (.cells ZA 52)) w1.heap.size X) (w1.heap.size + 1) Y) = w2 at *
  generalize hpp : w1.heap.size = p1 at *
  have HBEw2 := hid (show Below w1.heap.size w1 w2 from by rw [hpp]; exact HBEw2.out)
  clear hpp
  have l1 := loadSe_row HRSw2.out HSZw2.out.1
  go_wp2_with fail
  refine (HN2.out w2).mono ?_
  unfold TlPost tldV
  rintro e w3 ⟨rfl, hb3⟩
  have HB3 := hid hb3
  rw [HX2.out, HY2.out, HE2.out]
  clear hb3 l1
  have HRS3 := hid ((HB3.out.block _ (lt_of_block HRSw2.out)).trans HRSw2.out)
  have HRA3 := hid ((HB3.out.block _ (lt_of_block HRAw2.out)).trans HRAw2.out)
  have hal1 := HLS.out w3
  have hal2 : allocAtt (w3.alloc (.cells ZS 40)) = .ok (.value (.pointer (some ⟨w3.heap.size + 1, 0, none⟩))) ((w3.alloc (.cells ZS 40)).alloc (.cells ZA 52)) := by
    have := HLA.out (w3.alloc (.cells ZS 40))
    rwa [show (w3.alloc (.cells ZS 40)).heap.size = w3.heap.size + 1 from by simp] at this
  obtain ⟨hst, hsa, hrs, hra, hbe, hzs, hza⟩ := vars_two w3 HZZ.out.1 HZZ.out.2 (t := t2) HTK2.out
  rw [HX2.out] at hst hsa hrs hra hbe hzs
  rw [HY2.out] at hsa hrs hra hbe hza
  have HRSw4 := hid hrs
  have HRAw4 := hid hra
  have HBEw4 := hid hbe
  have HSZw4 := hid (And.intro hzs hza)
  clear hrs hra hbe hzs hza
  go_upto_region 3 with (fail)
  clear hal1 hal2 hst hsa
  generalize (setAtt (setSe ((w3.alloc (.cells ZS 40)).alloc (.cells ZA 52)) w3.heap.size X2) (w3.heap.size + 1) Y2) = w4 at *
  generalize hpp : w3.heap.size = p3 at *
  have HBEw4 := hid (show Below w3.heap.size w3 w4 from by rw [hpp]; exact HBEw4.out)
  clear hpp
  have k0 := HSC.out w4 _ ((HBEw4.out.block _ (lt_of_block HRS3.out)).trans HRS3.out)
  obtain ⟨k1, k2⟩ := HAC.out w4 _ ((HBEw4.out.block _ (lt_of_block HRA3.out)).trans HRA3.out)
  have HBF : Hid (Below w.heap.size w w4) := hid (by
    have h1 := HB1.out
    have h2 := h1.trans (HBEw2.out.mono h1.size)
    have h3 := h2.trans (HB3.out.mono h2.size)
    exact h3.trans (HBEw4.out.mono h3.size))
  go_wp2_with fail
  go_ret
  exact ⟨rfl, HBF.out⟩
noncomputable def doQ (s : SeM) (n : Int) (x : StM) : TldM := if x.act = 0 then newQ s x.vi else if x.act = 1 then prepQ s n x.b x.a else storeQ s n x.c
def D4Post (t : TldM) (w : World) (e : Ending) (w' : World) : Prop := e = .returned (.tuple #[.agg (sec t.s), .agg (atc t.a), .int .i64 t.e, .bool true]) ∧ Below w.heap.size w w'
set_option maxHeartbeats 12800000 in
theorem do15_any (s : SeM) (hs : s.Ok) (n : Int) (hn : (Lit.int .i64 n).wf = true) (x : StM) (w : World) (hx : StOk w x) (hlt : litS x = true) (hK : Kst 1 w) (hK0 : Kst 0 w) :
    Calls Tryz.prog 14 #[.agg (sec s), .int .i64 n, .agg (stc x)] w (D4Post (doQ s n x) w) := by
  have hlit : litK x.b = true ∧ x.a.fr.length ≤ 1000 ∧ x.c.sg.length ≤ 1000 := by
    unfold litS at hlt
    simp only [Bool.and_eq_true, decide_eq_true_eq] at hlt
    exact ⟨hlt.1, by omega, by omega⟩
  have hlk := lightK_of hlit.1
  have HCN : Hid (∀ W, Calls Tryz.prog 33 #[.agg (sec s), .int .i64 x.vi] W (TlPost (newQ s x.vi) W)) := hid (fun W => ckNew_any s hs x.vi W)
  have HRN : Hid (∀ W, Calls Tryz.prog 34 #[.agg (sec s), .int .i64 x.vi] W (TlPost (newQ s x.vi) W)) := hid (fun W => refNew15_any s hs x.vi W)
  have HCP : Hid (∀ W, Below w.heap.size w W → Calls Tryz.prog 35 #[.agg (sec s), .int .i64 n, .agg (bkc x.b x.sb), .agg (axc x.a x.sa)] W (TlPost (prepQ s n x.b x.a) W)) := hid (fun W h => ckPrep_any s hs n hn _ _ x.b x.a W (hx.bk.below h) hlk (hx.ax.below h) hlit.2.1 (hK.below h))
  have HRP : Hid (∀ W, Below w.heap.size w W → Calls Tryz.prog 36 #[.agg (sec s), .int .i64 n, .agg (bkc x.b x.sb), .agg (axc x.a x.sa)] W (TlPost (prepQ s n x.b x.a) W)) := hid (fun W h => refPrep15_any s hs n _ _ x.b x.a W (hx.bk.below h) hlk (hx.ax.below h) (hK0.below h))
  have HCS : Hid (∀ W, Below w.heap.size w W → Calls Tryz.prog 37 #[.agg (sec s), .int .i64 n, .agg (ctc x.c x.sc)] W (TlPost (storeQ s n x.c) W)) := hid (fun W h => ckStore_any s hs n hn _ x.c W (hx.ct.below h) hlit.2.2 (hK.below h))
  have HRT : Hid (∀ W, Below w.heap.size w W → Calls Tryz.prog 38 #[.agg (sec s), .int .i64 n, .agg (ctc x.c x.sc)] W (TlPost (storeQ s n x.c) W)) := hid (fun W h => refStore15_any s hs n _ x.c W (hx.ct.below h) (hK0.below h))
  have HTN := hid (newQ_ok hs x.vi)
  have HTP : Hid (prepQ s n x.b x.a).Ok := hid (prepQ_ok hs hx.ao)
  have HTS : Hid (storeQ s n x.c).Ok := hid (storeQ_ok hx.co)
  have HSZ0 := hid (sec_size hs)
  have HRD : Hid (∀ (W : World) (g : Nat), W.heap[g]? = some (.cells (stc x) 57 (0, 0)) → StRd W g x) := hid (fun W g h => st_read h hx)
  obtain ⟨S, HS⟩ : ∃ q : Array Value, Hid (sec s = q) := ⟨_, hid rfl⟩
  obtain ⟨C, HC⟩ : ∃ q : Array Value, Hid (stc x = q) := ⟨_, hid rfl⟩
  obtain ⟨B, HB⟩ : ∃ q : Array Value, Hid (bkc x.b x.sb = q) := ⟨_, hid rfl⟩
  obtain ⟨A, HA⟩ : ∃ q : Array Value, Hid (axc x.a x.sa = q) := ⟨_, hid rfl⟩
  obtain ⟨K, HK⟩ : ∃ q : Array Value, Hid (ctc x.c x.sc = q) := ⟨_, hid rfl⟩
  have HRE : Hid (∀ (W : World) (g : Nat), W.heap[g]? = some (.cells C 57 (0, 0)) → (W.cell? ⟨g, 0, none⟩ = some (.int .i64 x.act) ∧ W.cell? ⟨g, 1, none⟩ = some (.int .i64 x.vi)) ∧ loadK (.pointer (some ⟨g, 2, none⟩)) W = .ok (.value (.agg B)) W ∧ loadAx (.pointer (some ⟨g, 38, none⟩)) W = .ok (.value (.agg A)) W ∧ loadCt (.pointer (some ⟨g, 106, none⟩)) W = .ok (.value (.agg K)) W) := hid (fun W g h => by
    rw [← HC.out] at h
    have r := HRD.out W g h
    have r1 := r.bk
    have r2 := r.ax
    have r3 := r.ct
    rw [HB.out] at r1
    rw [HA.out] at r2
    rw [HK.out] at r3
    exact ⟨⟨r.act, r.vi⟩, r1, r2, r3⟩)
  rw [HS.out] at HSZ0 HCN HRN HCP HRP HCS HRT
  rw [HB.out, HA.out] at HCP HRP
  rw [HK.out] at HCS HRT
  rw [HS.out, HC.out]
  clear hs hn hx hlt hK hK0 hlit hlk HRD HC HB HA HK
  obtain ⟨ZS, HZS⟩ : ∃ q : Array Value, Hid (sec seZ = q) := ⟨_, hid rfl⟩
  obtain ⟨ZA, HZA⟩ : ∃ q : Array Value, Hid (atc atZ = q) := ⟨_, hid rfl⟩
  have HZZ : Hid (ZS.size = 35 ∧ ZA.size = 101) := hid (by rw [← HZS.out, ← HZA.out]; exact ⟨sec_size seZ_ok, atc_size atZ_ok⟩)
  have HBS : Hid (∀ W, buildSe W = .ok (.value (.agg ZS)) W) := hid (fun W => by rw [← HZS.out]; exact buildSe_eq W)
  have HBA : Hid (∀ W, buildAtt W = .ok (.value (.agg ZA)) W) := hid (fun W => by rw [← HZA.out]; exact buildAtt_eq W)
  have HLS : Hid (∀ W, allocSe W = .ok (.value (.pointer (some ⟨W.heap.size, 0, none⟩))) (W.alloc (.cells ZS 40))) := hid (fun W => by rw [← HZS.out]; exact allocSe_eq W)
  have HLA : Hid (∀ W, allocAtt W = .ok (.value (.pointer (some ⟨W.heap.size, 0, none⟩))) (W.alloc (.cells ZA 52))) := hid (fun W => by rw [← HZA.out]; exact allocAtt_eq W)
  have hal1 : allocSe ((w.alloc (.cells S 40)).alloc (.cells C 57)) = .ok (.value (.pointer (some ⟨w.heap.size + 2, 0, none⟩))) (((w.alloc (.cells S 40)).alloc (.cells C 57)).alloc (.cells ZS 40)) := by
    have := HLS.out ((w.alloc (.cells S 40)).alloc (.cells C 57))
    rwa [show (((w.alloc (.cells S 40)).alloc (.cells C 57))).heap.size = w.heap.size + 2 from by simp] at this
  have hal2 : allocAtt (((w.alloc (.cells S 40)).alloc (.cells C 57)).alloc (.cells ZS 40)) = .ok (.value (.pointer (some ⟨w.heap.size + 3, 0, none⟩))) ((((w.alloc (.cells S 40)).alloc (.cells C 57)).alloc (.cells ZS 40)).alloc (.cells ZA 52)) := by
    have := HLA.out (((w.alloc (.cells S 40)).alloc (.cells C 57)).alloc (.cells ZS 40))
    rwa [show ((((w.alloc (.cells S 40)).alloc (.cells C 57)).alloc (.cells ZS 40))).heap.size = w.heap.size + 3 from by simp] at this
  obtain ⟨hr0, hr1, hr2, hr3⟩ := rows_four w (.cells S 40) (.cells C 57) (.cells ZS 40) (.cells ZA 52)
  have HBZ : Hid (Below w.heap.size w ((((w.alloc (.cells S 40)).alloc (.cells C 57)).alloc (.cells ZS 40)).alloc (.cells ZA 52))) := hid (((((Below.refl w.heap.size w).alloc (Nat.le_refl _) _).alloc (by simp; try omega) _).alloc (by simp; try omega) _).alloc (by simp; try omega) _)
  have HR : Hid (ResSt w ((((w.alloc (.cells S 40)).alloc (.cells C 57)).alloc (.cells ZS 40)).alloc (.cells ZA 52)) (w.heap.size + 2) (w.heap.size + 3) ZS ZA) := hid ⟨hr2, hr3, by omega, by omega, HBZ.out, HZZ.out.1, HZZ.out.2⟩
  have HR0 := hid (show ((((w.alloc (.cells S 40)).alloc (.cells C 57)).alloc (.cells ZS 40)).alloc (.cells ZA 52)).heap[w.heap.size]? = some (.cells S 40 (0, 0)) from hr0)
  have HR1 := hid (show ((((w.alloc (.cells S 40)).alloc (.cells C 57)).alloc (.cells ZS 40)).alloc (.cells ZA 52)).heap[w.heap.size + 1]? = some (.cells C 57 (0, 0)) from hr1)
  clear hr0 hr1 hr2 hr3
  go_enter Tryz.func14, Tryz.ntmps14
  go_upto_region 1 with (fail)
  clear hal1 hal2
  generalize ((((w.alloc (.cells S 40)).alloc (.cells C 57)).alloc (.cells ZS 40)).alloc (.cells ZA 52)) = wz at *
  obtain ⟨⟨k0, _⟩, _⟩ := HRE.out wz _ HR1.out
  obtain ⟨act, HAC⟩ : ∃ q : Int, Hid (x.act = q) := ⟨_, hid rfl⟩
  rw [HAC.out] at k0
  by_cases d0 : act = 0
  · as_aux_lemma =>
    subst d0
    have HQ : Hid (doQ s n x = newQ s x.vi) := hid (by unfold doQ; rw [HAC.out]; rw [if_pos rfl])
    obtain ⟨t, HT⟩ : ∃ q : TldM, Hid (newQ s x.vi = q) := ⟨_, hid rfl⟩
    have HTK : Hid t.Ok := hid (by rw [← HT.out]; exact HTN.out)
    rw [HT.out] at HQ HCN HRN
    obtain ⟨X9, HX9⟩ : ∃ q : Array Value, Hid (sec t.s = q) := ⟨_, hid rfl⟩
    obtain ⟨Y9, HY9⟩ : ∃ q : Array Value, Hid (atc t.a = q) := ⟨_, hid rfl⟩
    obtain ⟨E9, HE9⟩ : ∃ q : Int, Hid (t.e = q) := ⟨_, hid rfl⟩
    have HEQS : Hid (∀ W, eqSe (.agg X9) (.agg X9) W = .ok (.value (.bool true)) W) := hid (fun W => by
      have := eqSe_eq t.s t.s HTK.out.s HTK.out.s W
      rw [decide_eq_true rfl, HX9.out] at this
      exact this)
    have HEQA : Hid (∀ W, eqAtt (.agg Y9) (.agg Y9) W = .ok (.value (.bool true)) W) := hid (fun W => by
      have := eqAtt_eq (fun W => eq_att t.a t.a HTK.out.a HTK.out.a W) W
      rw [decide_eq_true rfl, HY9.out] at this
      exact this)
    go_upto_region 3 with (fail)
    have l0 := loadSe_row HR0.out HSZ0.out
    obtain ⟨⟨_, kv⟩, _⟩ := HRE.out wz _ HR1.out
    go_wp2_with fail
    refine (HCN.out wz).mono ?_
    unfold TlPost tldV
    rintro e w1 ⟨rfl, hb1⟩
    rw [HX9.out, HY9.out, HE9.out]
    have HB1 := hid hb1
    clear hb1 l0 kv
    have hal1 := HLS.out w1
    have hal2 : allocAtt (w1.alloc (.cells ZS 40)) = .ok (.value (.pointer (some ⟨w1.heap.size + 1, 0, none⟩))) ((w1.alloc (.cells ZS 40)).alloc (.cells ZA 52)) := by
      have := HLA.out (w1.alloc (.cells ZS 40))
      rwa [show (w1.alloc (.cells ZS 40)).heap.size = w1.heap.size + 1 from by simp] at this
    obtain ⟨hst, hsa, hrs, hra, hbe, hzs, hza⟩ := vars_two w1 HZZ.out.1 HZZ.out.2 (t := t) HTK.out
    rw [HX9.out] at hst hsa hrs hra hbe hzs
    rw [HY9.out] at hsa hrs hra hbe hza
    have HRSw2 := hid hrs
    have HRAw2 := hid hra
    have HBEw2 := hid hbe
    have HSZw2 := hid (And.intro hzs hza)
    have HPw2 := hid (show wz.heap.size ≤ w1.heap.size from HB1.out.size)
    clear hrs hra hbe hzs hza
    go_upto_region 4 with (fail)
    clear hal1 hal2 hst hsa
    generalize (setAtt (setSe ((w1.alloc (.cells ZS 40)).alloc (.cells ZA 52)) w1.heap.size X9) (w1.heap.size + 1) Y9) = w2 at *
    generalize hpp : w1.heap.size = p1 at *
    have HBEw2 := hid (show Below w1.heap.size w1 w2 from by rw [hpp]; exact HBEw2.out)
    clear hpp
    have HX2 := hid (HB1.out.trans (HBEw2.out.mono HB1.out.size))
    have HS2 := hid ((HX2.out.block _ (lt_of_block HR0.out)).trans HR0.out)
    have HC2 := hid ((HX2.out.block _ (lt_of_block HR1.out)).trans HR1.out)
    have l0 := loadSe_row HS2.out HSZ0.out
    obtain ⟨⟨_, kv⟩, _⟩ := HRE.out w2 _ HC2.out
    go_wp2_with fail
    refine (HRN.out w2).mono ?_
    unfold TlPost tldV
    rintro e w3 ⟨rfl, hb3⟩
    rw [HX9.out, HY9.out, HE9.out]
    have HX3 := hid (HX2.out.trans (hb3.mono HX2.out.size))
    have HRS3 := hid ((hb3.block _ (lt_of_block HRSw2.out)).trans HRSw2.out)
    have HRA3 := hid ((hb3.block _ (lt_of_block HRAw2.out)).trans HRAw2.out)
    clear hb3 l0 kv
    have hal1 := HLS.out w3
    have hal2 : allocAtt (w3.alloc (.cells ZS 40)) = .ok (.value (.pointer (some ⟨w3.heap.size + 1, 0, none⟩))) ((w3.alloc (.cells ZS 40)).alloc (.cells ZA 52)) := by
      have := HLA.out (w3.alloc (.cells ZS 40))
      rwa [show (w3.alloc (.cells ZS 40)).heap.size = w3.heap.size + 1 from by simp] at this
    obtain ⟨hst, hsa, hrs, hra, hbe, hzs, hza⟩ := vars_two w3 HZZ.out.1 HZZ.out.2 (t := t) HTK.out
    rw [HX9.out] at hst hsa hrs hra hbe hzs
    rw [HY9.out] at hsa hrs hra hbe hza
    have HRSw4 := hid hrs
    have HRAw4 := hid hra
    have HBEw4 := hid hbe
    have HSZw4 := hid (And.intro hzs hza)
    have HPw4 := hid (show wz.heap.size ≤ w3.heap.size from HX3.out.size)
    clear hrs hra hbe hzs hza
    go_upto_region 5 with (fail)
    clear hal1 hal2 hst hsa
    generalize (setAtt (setSe ((w3.alloc (.cells ZS 40)).alloc (.cells ZA 52)) w3.heap.size X9) (w3.heap.size + 1) Y9) = w4 at *
    generalize hpp : w3.heap.size = p3 at *
    have HBEw4 := hid (show Below w3.heap.size w3 w4 from by rw [hpp]; exact HBEw4.out)
    clear hpp
    have HX4 := hid (HX3.out.trans (HBEw4.out.mono HX3.out.size))
    have HRS4 := hid ((HBEw4.out.block _ (lt_of_block HRS3.out)).trans HRS3.out)
    have HRA4 := hid ((HBEw4.out.block _ (lt_of_block HRA3.out)).trans HRA3.out)
    have HRD := hid (HR.out.below (HX4.out.trans (Below.refl wz.heap.size w4).drew))
    have HPN : Hid (w.heap.size + 3 < p1 ∧ w.heap.size + 3 < p3) := hid (by
      have h1 := lt_of_block HR.out.a
      have h2 := HPw2.out
      have h3 := HPw4.out
      omega)
    have HLN : Hid (∀ W, Tws (w.heap.size + 2) (w.heap.size + 3) w4.drew W → (loadSe (.pointer (some ⟨p1, 0, none⟩)) W = .ok (.value (.agg X9)) W ∧ loadAtt (.pointer (some ⟨p1 + 1, 0, none⟩)) W = .ok (.value (.agg Y9)) W) ∧ loadSe (.pointer (some ⟨p3, 0, none⟩)) W = .ok (.value (.agg X9)) W ∧ loadAtt (.pointer (some ⟨p3 + 1, 0, none⟩)) W = .ok (.value (.agg Y9)) W) := hid (fun W t => by
      have h := HPN.out
      exact ⟨⟨loadSe_row ((t.block _ (lt_of_block HRS4.out) (by omega) (by omega)).trans HRS4.out) HSZw2.out.1, loadAtt_row ((t.block _ (lt_of_block HRA4.out) (by omega) (by omega)).trans HRA4.out) HSZw2.out.2⟩, loadSe_row ((t.block _ (lt_of_block HRSw4.out) (by omega) (by omega)).trans HRSw4.out) HSZw4.out.1, loadAtt_row ((t.block _ (lt_of_block HRAw4.out) (by omega) (by omega)).trans HRAw4.out) HSZw4.out.2⟩)
    obtain ⟨hst, hsa, hrs, hra, hbe, hzs, hza⟩ := HRD.out.fin (t := t) HTK.out
    rw [HX9.out] at hst hsa hrs hra hbe hzs
    rw [HY9.out] at hsa hrs hra hbe hza
    have HRS := hid hrs
    have HRA := hid hra
    have HBE := hid hbe
    have HSZ := hid (And.intro hzs hza)
    have heqs := HEQS.out
    have heqa := HEQA.out
    have hee : (E9 == E9) = true := by simp
    clear hrs hra hbe hzs hza
    refine wp_region_held_drew (S := fun W => Tws (w.heap.size + 2) (w.heap.size + 3) w4.drew W) (by kernel_rfl) (Tws.refl _ _ _) (fun hHeld => ?_)
    refine' tk (i := 0) (v := _) rfl (fun W hW => (HLN.out W hW).1.1) ?_
    try simp only [lay]
    refine' tk (i := 1) (v := _) rfl (fun W hW => (HLN.out W hW).1.2) ?_
    try simp only [lay]
    refine' tk (i := 2) (v := _) rfl ?_ ?_
    rotate_left
    · (intro W hW; (try dsimp only at hW); go_simp; first | done | with_reducible rfl)
    try simp only [lay]
    refine' tk (i := 3) (v := _) rfl (fun W hW => (HLN.out W hW).1.1) ?_
    try simp only [lay]
    refine' tk (i := 4) (v := _) rfl (fun W hW => (HLN.out W hW).2.1) ?_
    try simp only [lay]
    refine' tk (i := 5) (v := _) rfl ?_ ?_
    rotate_left
    · (intro W hW; (try dsimp only at hW); go_simp; first | done | with_reducible rfl)
    try simp only [lay]
    refine' tk (i := 6) (v := _) rfl ?_ ?_
    rotate_left
    · (intro W hW; (try dsimp only at hW); go_simp; first | done | with_reducible rfl)
    try simp only [lay]
    refine' tk (i := 7) (v := _) rfl (fun W hW => (HLN.out W hW).1.2) ?_
    try simp only [lay]
    refine' tk (i := 8) (v := _) rfl (fun W hW => (HLN.out W hW).2.2) ?_
    try simp only [lay]
    refine' tk (i := 9) (v := _) rfl ?_ ?_
    rotate_left
    · (intro W hW; (try dsimp only at hW); go_simp; first | done | with_reducible rfl)
    try simp only [lay]
    refine' tk (i := 10) (v := _) rfl ?_ ?_
    rotate_left
    · (intro W hW; (try dsimp only at hW); go_simp; first | done | with_reducible rfl)
    try simp only [lay]
    refine' tk (i := 11) (v := _) rfl ?_ ?_
    rotate_left
    · (intro W hW; (try dsimp only at hW); go_simp; first | done | with_reducible rfl)
    try simp only [lay]
    refine' tk (i := 12) (v := _) rfl ?_ ?_
    rotate_left
    · (intro W hW; (try dsimp only at hW); go_simp; first | done | with_reducible rfl)
    try simp only [lay]
    refine' tk (i := 13) (v := _) rfl ?_ ?_
    rotate_left
    · (intro W hW; (try dsimp only at hW); go_simp; first | done | with_reducible rfl)
    try simp only [lay]
    refine' tk (i := 14) (v := _) rfl ?_ ?_
    rotate_left
    · (intro W hW; (try dsimp only at hW); go_simp; first | done | with_reducible rfl)
    try simp only [lay]
    refine' tk (i := 15) (v := _) rfl ?_ ?_
    rotate_left
    · (intro W hW; (try dsimp only at hW); go_simp; first | done | with_reducible rfl)
    try simp only [lay]
    refine call_on (i := 16) rfl (by kernel_rfl) (by rfl) (fun K hK => ?_)
    go_simp
    refine hK.out _ _ ((Tws.refl _ _ _).setS X9) (fun hHeld => ?_)
    clear hK K
    try simp only [lay]
    refine call_on (i := 17) rfl (by kernel_rfl) (by rfl) (fun K hK => ?_)
    go_simp
    refine hK.out _ _ (((Tws.refl _ _ _).setS X9).setY Y9) (fun hHeld => ?_)
    clear hK K
    try simp only [lay]
    refine' tk (i := 18) (v := _) rfl ?_ ?_
    rotate_left
    · (intro W hW; (try dsimp only at hW); go_simp; first | done | with_reducible rfl)
    try simp only [lay]
    refine' tk (i := 19) (v := _) rfl ?_ ?_
    rotate_left
    · (intro W hW; (try dsimp only at hW); go_simp; first | done | with_reducible rfl)
    try simp only [lay]
    refine wpAnyH_done (by kernel_rfl) ?_ _
    clear hHeld hst hsa heqs heqa hee
    go_wp2_with fail
    try simp only [Exit.inBlock, Exit.then]
    refine bodyPost_ret (results_ck4 rfl _ _ _ _ _ _ _ _ _ _ rfl rfl rfl rfl HRS.out HRA.out HSZ.out.1 HSZ.out.2) rfl ⟨?_, HBE.out⟩
    rw [HQ.out, ← HX9.out, ← HY9.out, ← HE9.out]
    rfl
  by_cases d1 : act = 1
  · as_aux_lemma =>
    subst d1
    clear d0
    have HQ : Hid (doQ s n x = prepQ s n x.b x.a) := hid (by unfold doQ; rw [HAC.out]; rw [if_neg (by decide), if_pos rfl])
    obtain ⟨t, HT⟩ : ∃ q : TldM, Hid (prepQ s n x.b x.a = q) := ⟨_, hid rfl⟩
    have HTK : Hid t.Ok := hid (by rw [← HT.out]; exact HTP.out)
    rw [HT.out] at HQ HCP HRP
    obtain ⟨X9, HX9⟩ : ∃ q : Array Value, Hid (sec t.s = q) := ⟨_, hid rfl⟩
    obtain ⟨Y9, HY9⟩ : ∃ q : Array Value, Hid (atc t.a = q) := ⟨_, hid rfl⟩
    obtain ⟨E9, HE9⟩ : ∃ q : Int, Hid (t.e = q) := ⟨_, hid rfl⟩
    have HEQS : Hid (∀ W, eqSe (.agg X9) (.agg X9) W = .ok (.value (.bool true)) W) := hid (fun W => by
      have := eqSe_eq t.s t.s HTK.out.s HTK.out.s W
      rw [decide_eq_true rfl, HX9.out] at this
      exact this)
    have HEQA : Hid (∀ W, eqAtt (.agg Y9) (.agg Y9) W = .ok (.value (.bool true)) W) := hid (fun W => by
      have := eqAtt_eq (fun W => eq_att t.a t.a HTK.out.a HTK.out.a W) W
      rw [decide_eq_true rfl, HY9.out] at this
      exact this)
    go_upto_region 7 with (fail)
    have l0 := loadSe_row HR0.out HSZ0.out
    obtain ⟨_, lb, la, _⟩ := HRE.out wz _ HR1.out
    go_wp2_with fail
    refine (HCP.out wz HBZ.out).mono ?_
    unfold TlPost tldV
    rintro e w1 ⟨rfl, hb1⟩
    rw [HX9.out, HY9.out, HE9.out]
    have HB1 := hid hb1
    clear hb1 l0 lb la
    have hal1 := HLS.out w1
    have hal2 : allocAtt (w1.alloc (.cells ZS 40)) = .ok (.value (.pointer (some ⟨w1.heap.size + 1, 0, none⟩))) ((w1.alloc (.cells ZS 40)).alloc (.cells ZA 52)) := by
      have := HLA.out (w1.alloc (.cells ZS 40))
      rwa [show (w1.alloc (.cells ZS 40)).heap.size = w1.heap.size + 1 from by simp] at this
    obtain ⟨hst, hsa, hrs, hra, hbe, hzs, hza⟩ := vars_two w1 HZZ.out.1 HZZ.out.2 (t := t) HTK.out
    rw [HX9.out] at hst hsa hrs hra hbe hzs
    rw [HY9.out] at hsa hrs hra hbe hza
    have HRSw2 := hid hrs
    have HRAw2 := hid hra
    have HBEw2 := hid hbe
    have HSZw2 := hid (And.intro hzs hza)
    have HPw2 := hid (show wz.heap.size ≤ w1.heap.size from HB1.out.size)
    clear hrs hra hbe hzs hza
    go_upto_region 8 with (fail)
    clear hal1 hal2 hst hsa
    generalize (setAtt (setSe ((w1.alloc (.cells ZS 40)).alloc (.cells ZA 52)) w1.heap.size X9) (w1.heap.size + 1) Y9) = w2 at *
    generalize hpp : w1.heap.size = p1 at *
    have HBEw2 := hid (show Below w1.heap.size w1 w2 from by rw [hpp]; exact HBEw2.out)
    clear hpp
    have HX2 := hid (HB1.out.trans (HBEw2.out.mono HB1.out.size))
    have HS2 := hid ((HX2.out.block _ (lt_of_block HR0.out)).trans HR0.out)
    have HC2 := hid ((HX2.out.block _ (lt_of_block HR1.out)).trans HR1.out)
    have l0 := loadSe_row HS2.out HSZ0.out
    obtain ⟨_, lb, la, _⟩ := HRE.out w2 _ HC2.out
    go_wp2_with fail
    refine (HRP.out w2 (HBZ.out.trans (HX2.out.mono HBZ.out.size))).mono ?_
    unfold TlPost tldV
    rintro e w3 ⟨rfl, hb3⟩
    rw [HX9.out, HY9.out, HE9.out]
    have HX3 := hid (HX2.out.trans (hb3.mono HX2.out.size))
    have HRS3 := hid ((hb3.block _ (lt_of_block HRSw2.out)).trans HRSw2.out)
    have HRA3 := hid ((hb3.block _ (lt_of_block HRAw2.out)).trans HRAw2.out)
    clear hb3 l0 lb la
    have hal1 := HLS.out w3
    have hal2 : allocAtt (w3.alloc (.cells ZS 40)) = .ok (.value (.pointer (some ⟨w3.heap.size + 1, 0, none⟩))) ((w3.alloc (.cells ZS 40)).alloc (.cells ZA 52)) := by
      have := HLA.out (w3.alloc (.cells ZS 40))
      rwa [show (w3.alloc (.cells ZS 40)).heap.size = w3.heap.size + 1 from by simp] at this
    obtain ⟨hst, hsa, hrs, hra, hbe, hzs, hza⟩ := vars_two w3 HZZ.out.1 HZZ.out.2 (t := t) HTK.out
    rw [HX9.out] at hst hsa hrs hra hbe hzs
    rw [HY9.out] at hsa hrs hra hbe hza
    have HRSw4 := hid hrs
    have HRAw4 := hid hra
    have HBEw4 := hid hbe
    have HSZw4 := hid (And.intro hzs hza)
    have HPw4 := hid (show wz.heap.size ≤ w3.heap.size from HX3.out.size)
    clear hrs hra hbe hzs hza
    go_upto_region 9 with (fail)
    clear hal1 hal2 hst hsa
    generalize (setAtt (setSe ((w3.alloc (.cells ZS 40)).alloc (.cells ZA 52)) w3.heap.size X9) (w3.heap.size + 1) Y9) = w4 at *
    generalize hpp : w3.heap.size = p3 at *
    have HBEw4 := hid (show Below w3.heap.size w3 w4 from by rw [hpp]; exact HBEw4.out)
    clear hpp
    have HX4 := hid (HX3.out.trans (HBEw4.out.mono HX3.out.size))
    have HRS4 := hid ((HBEw4.out.block _ (lt_of_block HRS3.out)).trans HRS3.out)
    have HRA4 := hid ((HBEw4.out.block _ (lt_of_block HRA3.out)).trans HRA3.out)
    have HRD := hid (HR.out.below (HX4.out.trans (Below.refl wz.heap.size w4).drew))
    have HPN : Hid (w.heap.size + 3 < p1 ∧ w.heap.size + 3 < p3) := hid (by
      have h1 := lt_of_block HR.out.a
      have h2 := HPw2.out
      have h3 := HPw4.out
      omega)
    have HLN : Hid (∀ W, Tws (w.heap.size + 2) (w.heap.size + 3) w4.drew W → (loadSe (.pointer (some ⟨p1, 0, none⟩)) W = .ok (.value (.agg X9)) W ∧ loadAtt (.pointer (some ⟨p1 + 1, 0, none⟩)) W = .ok (.value (.agg Y9)) W) ∧ loadSe (.pointer (some ⟨p3, 0, none⟩)) W = .ok (.value (.agg X9)) W ∧ loadAtt (.pointer (some ⟨p3 + 1, 0, none⟩)) W = .ok (.value (.agg Y9)) W) := hid (fun W t => by
      have h := HPN.out
      exact ⟨⟨loadSe_row ((t.block _ (lt_of_block HRS4.out) (by omega) (by omega)).trans HRS4.out) HSZw2.out.1, loadAtt_row ((t.block _ (lt_of_block HRA4.out) (by omega) (by omega)).trans HRA4.out) HSZw2.out.2⟩, loadSe_row ((t.block _ (lt_of_block HRSw4.out) (by omega) (by omega)).trans HRSw4.out) HSZw4.out.1, loadAtt_row ((t.block _ (lt_of_block HRAw4.out) (by omega) (by omega)).trans HRAw4.out) HSZw4.out.2⟩)
    obtain ⟨hst, hsa, hrs, hra, hbe, hzs, hza⟩ := HRD.out.fin (t := t) HTK.out
    rw [HX9.out] at hst hsa hrs hra hbe hzs
    rw [HY9.out] at hsa hrs hra hbe hza
    have HRS := hid hrs
    have HRA := hid hra
    have HBE := hid hbe
    have HSZ := hid (And.intro hzs hza)
    have heqs := HEQS.out
    have heqa := HEQA.out
    have hee : (E9 == E9) = true := by simp
    clear hrs hra hbe hzs hza
    refine wp_region_held_drew (S := fun W => Tws (w.heap.size + 2) (w.heap.size + 3) w4.drew W) (by kernel_rfl) (Tws.refl _ _ _) (fun hHeld => ?_)
    refine' tk (i := 0) (v := _) rfl (fun W hW => (HLN.out W hW).1.1) ?_
    try simp only [lay]
    refine' tk (i := 1) (v := _) rfl (fun W hW => (HLN.out W hW).1.2) ?_
    try simp only [lay]
    refine' tk (i := 2) (v := _) rfl ?_ ?_
    rotate_left
    · (intro W hW; (try dsimp only at hW); go_simp; first | done | with_reducible rfl)
    try simp only [lay]
    refine' tk (i := 3) (v := _) rfl (fun W hW => (HLN.out W hW).1.1) ?_
    try simp only [lay]
    refine' tk (i := 4) (v := _) rfl (fun W hW => (HLN.out W hW).2.1) ?_
    try simp only [lay]
    refine' tk (i := 5) (v := _) rfl ?_ ?_
    rotate_left
    · (intro W hW; (try dsimp only at hW); go_simp; first | done | with_reducible rfl)
    try simp only [lay]
    refine' tk (i := 6) (v := _) rfl ?_ ?_
    rotate_left
    · (intro W hW; (try dsimp only at hW); go_simp; first | done | with_reducible rfl)
    try simp only [lay]
    refine' tk (i := 7) (v := _) rfl (fun W hW => (HLN.out W hW).1.2) ?_
    try simp only [lay]
    refine' tk (i := 8) (v := _) rfl (fun W hW => (HLN.out W hW).2.2) ?_
    try simp only [lay]
    refine' tk (i := 9) (v := _) rfl ?_ ?_
    rotate_left
    · (intro W hW; (try dsimp only at hW); go_simp; first | done | with_reducible rfl)
    try simp only [lay]
    refine' tk (i := 10) (v := _) rfl ?_ ?_
    rotate_left
    · (intro W hW; (try dsimp only at hW); go_simp; first | done | with_reducible rfl)
    try simp only [lay]
    refine' tk (i := 11) (v := _) rfl ?_ ?_
    rotate_left
    · (intro W hW; (try dsimp only at hW); go_simp; first | done | with_reducible rfl)
    try simp only [lay]
    refine' tk (i := 12) (v := _) rfl ?_ ?_
    rotate_left
    · (intro W hW; (try dsimp only at hW); go_simp; first | done | with_reducible rfl)
    try simp only [lay]
    refine' tk (i := 13) (v := _) rfl ?_ ?_
    rotate_left
    · (intro W hW; (try dsimp only at hW); go_simp; first | done | with_reducible rfl)
    try simp only [lay]
    refine' tk (i := 14) (v := _) rfl ?_ ?_
    rotate_left
    · (intro W hW; (try dsimp only at hW); go_simp; first | done | with_reducible rfl)
    try simp only [lay]
    refine' tk (i := 15) (v := _) rfl ?_ ?_
    rotate_left
    · (intro W hW; (try dsimp only at hW); go_simp; first | done | with_reducible rfl)
    try simp only [lay]
    refine call_on (i := 16) rfl (by kernel_rfl) (by rfl) (fun K hK => ?_)
    go_simp
    refine hK.out _ _ ((Tws.refl _ _ _).setS X9) (fun hHeld => ?_)
    clear hK K
    try simp only [lay]
    refine call_on (i := 17) rfl (by kernel_rfl) (by rfl) (fun K hK => ?_)
    go_simp
    refine hK.out _ _ (((Tws.refl _ _ _).setS X9).setY Y9) (fun hHeld => ?_)
    clear hK K
    try simp only [lay]
    refine' tk (i := 18) (v := _) rfl ?_ ?_
    rotate_left
    · (intro W hW; (try dsimp only at hW); go_simp; first | done | with_reducible rfl)
    try simp only [lay]
    refine' tk (i := 19) (v := _) rfl ?_ ?_
    rotate_left
    · (intro W hW; (try dsimp only at hW); go_simp; first | done | with_reducible rfl)
    try simp only [lay]
    refine wpAnyH_done (by kernel_rfl) ?_ _
    clear hHeld hst hsa heqs heqa hee
    go_wp2_with fail
    try simp only [Exit.inBlock, Exit.then]
    refine bodyPost_ret (results_ck4 rfl _ _ _ _ _ _ _ _ _ _ rfl rfl rfl rfl HRS.out HRA.out HSZ.out.1 HSZ.out.2) rfl ⟨?_, HBE.out⟩
    rw [HQ.out, ← HX9.out, ← HY9.out, ← HE9.out]
    rfl
  · as_aux_lemma =>
    have d0' := d0
    have d1' := d1
    have HQ : Hid (doQ s n x = storeQ s n x.c) := hid (by unfold doQ; rw [HAC.out]; rw [if_neg d0', if_neg d1'])
    obtain ⟨t, HT⟩ : ∃ q : TldM, Hid (storeQ s n x.c = q) := ⟨_, hid rfl⟩
    have HTK : Hid t.Ok := hid (by rw [← HT.out]; exact HTS.out)
    rw [HT.out] at HQ HCS HRT
    obtain ⟨X9, HX9⟩ : ∃ q : Array Value, Hid (sec t.s = q) := ⟨_, hid rfl⟩
    obtain ⟨Y9, HY9⟩ : ∃ q : Array Value, Hid (atc t.a = q) := ⟨_, hid rfl⟩
    obtain ⟨E9, HE9⟩ : ∃ q : Int, Hid (t.e = q) := ⟨_, hid rfl⟩
    have HEQS : Hid (∀ W, eqSe (.agg X9) (.agg X9) W = .ok (.value (.bool true)) W) := hid (fun W => by
      have := eqSe_eq t.s t.s HTK.out.s HTK.out.s W
      rw [decide_eq_true rfl, HX9.out] at this
      exact this)
    have HEQA : Hid (∀ W, eqAtt (.agg Y9) (.agg Y9) W = .ok (.value (.bool true)) W) := hid (fun W => by
      have := eqAtt_eq (fun W => eq_att t.a t.a HTK.out.a HTK.out.a W) W
      rw [decide_eq_true rfl, HY9.out] at this
      exact this)
    go_upto_region 10 with (fail)
    have l0 := loadSe_row HR0.out HSZ0.out
    obtain ⟨_, _, _, lc⟩ := HRE.out wz _ HR1.out
    go_wp2_with fail
    refine (HCS.out wz HBZ.out).mono ?_
    unfold TlPost tldV
    rintro e w1 ⟨rfl, hb1⟩
    rw [HX9.out, HY9.out, HE9.out]
    have HB1 := hid hb1
    clear hb1 l0 lc
    have hal1 := HLS.out w1
    have hal2 : allocAtt (w1.alloc (.cells ZS 40)) = .ok (.value (.pointer (some ⟨w1.heap.size + 1, 0, none⟩))) ((w1.alloc (.cells ZS 40)).alloc (.cells ZA 52)) := by
      have := HLA.out (w1.alloc (.cells ZS 40))
      rwa [show (w1.alloc (.cells ZS 40)).heap.size = w1.heap.size + 1 from by simp] at this
    obtain ⟨hst, hsa, hrs, hra, hbe, hzs, hza⟩ := vars_two w1 HZZ.out.1 HZZ.out.2 (t := t) HTK.out
    rw [HX9.out] at hst hsa hrs hra hbe hzs
    rw [HY9.out] at hsa hrs hra hbe hza
    have HRSw2 := hid hrs
    have HRAw2 := hid hra
    have HBEw2 := hid hbe
    have HSZw2 := hid (And.intro hzs hza)
    have HPw2 := hid (show wz.heap.size ≤ w1.heap.size from HB1.out.size)
    clear hrs hra hbe hzs hza
    go_upto_region 11 with (fail)
    clear hal1 hal2 hst hsa
    generalize (setAtt (setSe ((w1.alloc (.cells ZS 40)).alloc (.cells ZA 52)) w1.heap.size X9) (w1.heap.size + 1) Y9) = w2 at *
    generalize hpp : w1.heap.size = p1 at *
    have HBEw2 := hid (show Below w1.heap.size w1 w2 from by rw [hpp]; exact HBEw2.out)
    clear hpp
    have HX2 := hid (HB1.out.trans (HBEw2.out.mono HB1.out.size))
    have HS2 := hid ((HX2.out.block _ (lt_of_block HR0.out)).trans HR0.out)
    have HC2 := hid ((HX2.out.block _ (lt_of_block HR1.out)).trans HR1.out)
    have l0 := loadSe_row HS2.out HSZ0.out
    obtain ⟨_, _, _, lc⟩ := HRE.out w2 _ HC2.out
    go_wp2_with fail
    refine (HRT.out w2 (HBZ.out.trans (HX2.out.mono HBZ.out.size))).mono ?_
    unfold TlPost tldV
    rintro e w3 ⟨rfl, hb3⟩
    rw [HX9.out, HY9.out, HE9.out]
    have HX3 := hid (HX2.out.trans (hb3.mono HX2.out.size))
    have HRS3 := hid ((hb3.block _ (lt_of_block HRSw2.out)).trans HRSw2.out)
    have HRA3 := hid ((hb3.block _ (lt_of_block HRAw2.out)).trans HRAw2.out)
    clear hb3 l0 lc
    have hal1 := HLS.out w3
    have hal2 : allocAtt (w3.alloc (.cells ZS 40)) = .ok (.value (.pointer (some ⟨w3.heap.size + 1, 0, none⟩))) ((w3.alloc (.cells ZS 40)).alloc (.cells ZA 52)) := by
      have := HLA.out (w3.alloc (.cells ZS 40))
      rwa [show (w3.alloc (.cells ZS 40)).heap.size = w3.heap.size + 1 from by simp] at this
    obtain ⟨hst, hsa, hrs, hra, hbe, hzs, hza⟩ := vars_two w3 HZZ.out.1 HZZ.out.2 (t := t) HTK.out
    rw [HX9.out] at hst hsa hrs hra hbe hzs
    rw [HY9.out] at hsa hrs hra hbe hza
    have HRSw4 := hid hrs
    have HRAw4 := hid hra
    have HBEw4 := hid hbe
    have HSZw4 := hid (And.intro hzs hza)
    have HPw4 := hid (show wz.heap.size ≤ w3.heap.size from HX3.out.size)
    clear hrs hra hbe hzs hza
    go_upto_region 12 with (fail)
    clear hal1 hal2 hst hsa
    generalize (setAtt (setSe ((w3.alloc (.cells ZS 40)).alloc (.cells ZA 52)) w3.heap.size X9) (w3.heap.size + 1) Y9) = w4 at *
    generalize hpp : w3.heap.size = p3 at *
    have HBEw4 := hid (show Below w3.heap.size w3 w4 from by rw [hpp]; exact HBEw4.out)
    clear hpp
    have HX4 := hid (HX3.out.trans (HBEw4.out.mono HX3.out.size))
    have HRS4 := hid ((HBEw4.out.block _ (lt_of_block HRS3.out)).trans HRS3.out)
    have HRA4 := hid ((HBEw4.out.block _ (lt_of_block HRA3.out)).trans HRA3.out)
    have HRD := hid (HR.out.below (HX4.out.trans (Below.refl wz.heap.size w4).drew))
    have HPN : Hid (w.heap.size + 3 < p1 ∧ w.heap.size + 3 < p3) := hid (by
      have h1 := lt_of_block HR.out.a
      have h2 := HPw2.out
      have h3 := HPw4.out
      omega)
    have HLN : Hid (∀ W, Tws (w.heap.size + 2) (w.heap.size + 3) w4.drew W → (loadSe (.pointer (some ⟨p1, 0, none⟩)) W = .ok (.value (.agg X9)) W ∧ loadAtt (.pointer (some ⟨p1 + 1, 0, none⟩)) W = .ok (.value (.agg Y9)) W) ∧ loadSe (.pointer (some ⟨p3, 0, none⟩)) W = .ok (.value (.agg X9)) W ∧ loadAtt (.pointer (some ⟨p3 + 1, 0, none⟩)) W = .ok (.value (.agg Y9)) W) := hid (fun W t => by
      have h := HPN.out
      exact ⟨⟨loadSe_row ((t.block _ (lt_of_block HRS4.out) (by omega) (by omega)).trans HRS4.out) HSZw2.out.1, loadAtt_row ((t.block _ (lt_of_block HRA4.out) (by omega) (by omega)).trans HRA4.out) HSZw2.out.2⟩, loadSe_row ((t.block _ (lt_of_block HRSw4.out) (by omega) (by omega)).trans HRSw4.out) HSZw4.out.1, loadAtt_row ((t.block _ (lt_of_block HRAw4.out) (by omega) (by omega)).trans HRAw4.out) HSZw4.out.2⟩)
    obtain ⟨hst, hsa, hrs, hra, hbe, hzs, hza⟩ := HRD.out.fin (t := t) HTK.out
    rw [HX9.out] at hst hsa hrs hra hbe hzs
    rw [HY9.out] at hsa hrs hra hbe hza
    have HRS := hid hrs
    have HRA := hid hra
    have HBE := hid hbe
    have HSZ := hid (And.intro hzs hza)
    have heqs := HEQS.out
    have heqa := HEQA.out
    have hee : (E9 == E9) = true := by simp
    clear hrs hra hbe hzs hza
    refine wp_region_held_drew (S := fun W => Tws (w.heap.size + 2) (w.heap.size + 3) w4.drew W) (by kernel_rfl) (Tws.refl _ _ _) (fun hHeld => ?_)
    refine' tk (i := 0) (v := _) rfl (fun W hW => (HLN.out W hW).1.1) ?_
    try simp only [lay]
    refine' tk (i := 1) (v := _) rfl (fun W hW => (HLN.out W hW).1.2) ?_
    try simp only [lay]
    refine' tk (i := 2) (v := _) rfl ?_ ?_
    rotate_left
    · (intro W hW; (try dsimp only at hW); go_simp; first | done | with_reducible rfl)
    try simp only [lay]
    refine' tk (i := 3) (v := _) rfl (fun W hW => (HLN.out W hW).1.1) ?_
    try simp only [lay]
    refine' tk (i := 4) (v := _) rfl (fun W hW => (HLN.out W hW).2.1) ?_
    try simp only [lay]
    refine' tk (i := 5) (v := _) rfl ?_ ?_
    rotate_left
    · (intro W hW; (try dsimp only at hW); go_simp; first | done | with_reducible rfl)
    try simp only [lay]
    refine' tk (i := 6) (v := _) rfl ?_ ?_
    rotate_left
    · (intro W hW; (try dsimp only at hW); go_simp; first | done | with_reducible rfl)
    try simp only [lay]
    refine' tk (i := 7) (v := _) rfl (fun W hW => (HLN.out W hW).1.2) ?_
    try simp only [lay]
    refine' tk (i := 8) (v := _) rfl (fun W hW => (HLN.out W hW).2.2) ?_
    try simp only [lay]
    refine' tk (i := 9) (v := _) rfl ?_ ?_
    rotate_left
    · (intro W hW; (try dsimp only at hW); go_simp; first | done | with_reducible rfl)
    try simp only [lay]
    refine' tk (i := 10) (v := _) rfl ?_ ?_
    rotate_left
    · (intro W hW; (try dsimp only at hW); go_simp; first | done | with_reducible rfl)
    try simp only [lay]
    refine' tk (i := 11) (v := _) rfl ?_ ?_
    rotate_left
    · (intro W hW; (try dsimp only at hW); go_simp; first | done | with_reducible rfl)
    try simp only [lay]
    refine' tk (i := 12) (v := _) rfl ?_ ?_
    rotate_left
    · (intro W hW; (try dsimp only at hW); go_simp; first | done | with_reducible rfl)
    try simp only [lay]
    refine' tk (i := 13) (v := _) rfl ?_ ?_
    rotate_left
    · (intro W hW; (try dsimp only at hW); go_simp; first | done | with_reducible rfl)
    try simp only [lay]
    refine' tk (i := 14) (v := _) rfl ?_ ?_
    rotate_left
    · (intro W hW; (try dsimp only at hW); go_simp; first | done | with_reducible rfl)
    try simp only [lay]
    refine' tk (i := 15) (v := _) rfl ?_ ?_
    rotate_left
    · (intro W hW; (try dsimp only at hW); go_simp; first | done | with_reducible rfl)
    try simp only [lay]
    refine call_on (i := 16) rfl (by kernel_rfl) (by rfl) (fun K hK => ?_)
    go_simp
    refine hK.out _ _ ((Tws.refl _ _ _).setS X9) (fun hHeld => ?_)
    clear hK K
    try simp only [lay]
    refine call_on (i := 17) rfl (by kernel_rfl) (by rfl) (fun K hK => ?_)
    go_simp
    refine hK.out _ _ (((Tws.refl _ _ _).setS X9).setY Y9) (fun hHeld => ?_)
    clear hK K
    try simp only [lay]
    refine' tk (i := 18) (v := _) rfl ?_ ?_
    rotate_left
    · (intro W hW; (try dsimp only at hW); go_simp; first | done | with_reducible rfl)
    try simp only [lay]
    refine' tk (i := 19) (v := _) rfl ?_ ?_
    rotate_left
    · (intro W hW; (try dsimp only at hW); go_simp; first | done | with_reducible rfl)
    try simp only [lay]
    refine wpAnyH_done (by kernel_rfl) ?_ _
    clear hHeld hst hsa heqs heqa hee
    go_wp2_with fail
    try simp only [Exit.inBlock, Exit.then]
    refine bodyPost_ret (results_ck4 rfl _ _ _ _ _ _ _ _ _ _ rfl rfl rfl rfl HRS.out HRA.out HSZ.out.1 HSZ.out.2) rfl ⟨?_, HBE.out⟩
    rw [HQ.out, ← HX9.out, ← HY9.out, ← HE9.out]
    rfl
end Go.Proofs.YtghophbabbaleaaGreatDoor
