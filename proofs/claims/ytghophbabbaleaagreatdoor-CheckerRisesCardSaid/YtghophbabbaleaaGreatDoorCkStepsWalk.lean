/-
  CheckerSteps: what any request makes of any seal: the law's walk. Printed with genck.py.
-/
import Derived.Test.YtghophbabbaleaaGreatDoorCkDo
namespace Go.Proofs.YtghophbabbaleaaGreatDoor
set_option maxRecDepth 20000
open Go.RowKit
attribute [local go_sem ↓] exec_load_se exec_alloc_se exec_store_se exec_build_se exec_load_att exec_alloc_att exec_store_att exec_build_att exec_load_hash exec_build_se4 exec_build_at2 exec_build_at3 exec_build_at5 exec_build_at6 exec_load_bk exec_load_ax exec_load_ct exec_eq_se exec_eq_att exec_load_st
theorem doQ_told {w : World} {s : SeM} (hs : s.Ok) {n : Int} {x : StM} (hx : StOk w x) : Told s (doQ s n x) := by
  unfold doQ
  split
  · exact newQ_told hs _
  · split
    · exact prepQ_told hs hx.ao
    · exact storeQ_told hx.co
set_option maxHeartbeats 12800000 in
theorem lawCheckerSteps_all (s : SeM) (n : Int) (x : StM) (w : World) (hs : s.Ok) (hn : (Lit.int .i64 n).wf = true) (hx : StOk w x) (hK : Kst 1 w) (hK0 : Kst 0 w) :
    Calls Tryz.prog 4 #[.agg (sec s), .int .i64 n, .agg (stc x)] w fun e w' => e = .returned (.bool true) ∧ Below w.heap.size w w' := by
  have HAW : Hid (∀ W, Below w.heap.size w W → Calls Tryz.prog 13 #[] W fun e w' => e = .returned (.bool true) ∧ Below w.heap.size w w') := hid (fun W hb => (ckAwake_any W).mono fun _ _ ⟨h1, h2⟩ => ⟨h1, hb.trans (h2.mono hb.size)⟩)
  have HLT : Hid (∀ W, Below w.heap.size w W → Calls Tryz.prog 12 #[.agg (stc x)] W fun e w' => e = .returned (.bool (litS x)) ∧ Below W.heap.size W w') := hid (fun W h => light15_any x W (hx.below h))
  have HDO : Hid (litS x = true → ∀ W, Below w.heap.size w W → Calls Tryz.prog 14 #[.agg (sec s), .int .i64 n, .agg (stc x)] W (D4Post (doQ s n x) W)) := hid (fun hl W h => do15_any s hs n hn x W (hx.below h) hl (hK.below h) (hK0.below h))
  have HTD : Hid (Told s (doQ s n x)) := hid (doQ_told hs hx)
  obtain ⟨t, HT⟩ : ∃ q : TldM, Hid (doQ s n x = q) := ⟨_, hid rfl⟩
  rw [HT.out] at HDO HTD
  have HTK := hid HTD.out.ok
  have HSZ0 := hid (sec_size hs)
  have HSO := hid hs
  have HXZ0 := hid (stc_size hx)
  have HLX : Hid (∀ (W : World) (g : Nat), W.heap[g]? = some (.cells (stc x) 57 (0, 0)) → loadSt (.pointer (some ⟨g, 0, none⟩)) W = .ok (.value (.agg (stc x))) W) := hid (fun W g h => loadSt_row h hx)
  have HM1 : Hid (∀ W, Calls Tryz.prog 15 #[.agg (sec t.s)] W fun e w' => e = .returned (.bool (mayS t.s)) ∧ Below W.heap.size W w') := hid (fun W => refMay13_any t.s W HTK.out.s)
  have HM2 : Hid (∀ W, Calls Tryz.prog 16 #[.agg (sec s), .agg (sec t.s)] W fun e w' => e = .returned (.bool (lessS s t.s)) ∧ Below W.heap.size W w') := hid (fun W => refLess13_any s t.s W)
  have hao : AtM.Ok { t.a with bo := 1 } := ⟨HTK.out.a.ha, HTK.out.a.pa, HTK.out.a.tg⟩
  have HM3 : Hid (∀ W, Calls Tryz.prog 17 #[.agg (atc { t.a with bo := 1 })] W fun e w' => e = .returned (.bool (mayA { t.a with bo := 1 })) ∧ Below W.heap.size W w') := hid (fun W => refMay8_any _ W hao)
  have HAZ1 := hid (atc_size hao)
  clear hao
  obtain ⟨ZS, HZS⟩ : ∃ q : Array Value, Hid (sec seZ = q) := ⟨_, hid rfl⟩
  obtain ⟨ZA, HZA⟩ : ∃ q : Array Value, Hid (atc atZ = q) := ⟨_, hid rfl⟩
  have HZZ : Hid (ZS.size = 35 ∧ ZA.size = 101) := hid (by rw [← HZS.out, ← HZA.out]; exact ⟨sec_size seZ_ok, atc_size atZ_ok⟩)
  have HLS : Hid (∀ W, allocSe W = .ok (.value (.pointer (some ⟨W.heap.size, 0, none⟩))) (W.alloc (.cells ZS 40))) := hid (fun W => by rw [← HZS.out]; exact allocSe_eq W)
  have HLA : Hid (∀ W, allocAtt W = .ok (.value (.pointer (some ⟨W.heap.size, 0, none⟩))) (W.alloc (.cells ZA 52))) := hid (fun W => by rw [← HZA.out]; exact allocAtt_eq W)
  have HBS : Hid (∀ W, buildSe W = .ok (.value (.agg ZS)) W) := hid (fun W => by rw [← HZS.out]; exact buildSe_eq W)
  have HBA : Hid (∀ W, buildAtt W = .ok (.value (.agg ZA)) W) := hid (fun W => by rw [← HZA.out]; exact buildAtt_eq W)
  have HEQS : Hid (∀ W, eqSe (.agg ZS) (.agg ZS) W = .ok (.value (.bool true)) W) := hid (fun W => by
    have := eqSe_eq seZ seZ seZ_ok seZ_ok W
    rw [decide_eq_true rfl, HZS.out] at this
    exact this)
  have HEQA : Hid (∀ W, eqAtt (.agg ZA) (.agg ZA) W = .ok (.value (.bool true)) W) := hid (fun W => by
    have := eqAtt_eq (fun W => eq_att atZ atZ atZ_ok atZ_ok W) W
    rw [decide_eq_true rfl, HZA.out] at this
    exact this)
  obtain ⟨S, HS⟩ : ∃ q : Array Value, Hid (sec s = q) := ⟨_, hid rfl⟩
  obtain ⟨C, HC⟩ : ∃ q : Array Value, Hid (stc x = q) := ⟨_, hid rfl⟩
  obtain ⟨X9, HX9⟩ : ∃ q : Array Value, Hid (sec t.s = q) := ⟨_, hid rfl⟩
  obtain ⟨Y9, HY9⟩ : ∃ q : Array Value, Hid (atc t.a = q) := ⟨_, hid rfl⟩
  obtain ⟨E9, HE9⟩ : ∃ q : Int, Hid (t.e = q) := ⟨_, hid rfl⟩
  obtain ⟨Y1, HY1⟩ : ∃ q : Array Value, Hid (atc { t.a with bo := 1 } = q) := ⟨_, hid rfl⟩
  have HDO2 : Hid (litS x = true → ∀ W, Below w.heap.size w W → Calls Tryz.prog 14 #[.agg S, .int .i64 n, .agg C] W fun e w' => e = .returned (.tuple #[.agg X9, .agg Y9, .int .i64 E9, .bool true]) ∧ Below W.heap.size W w') := hid (fun hl W h => by
    have := HDO.out hl W h
    unfold D4Post at this
    rw [HS.out, HC.out, HX9.out, HY9.out, HE9.out] at this
    exact this)
  rw [HS.out] at HSZ0 HM2
  rw [HC.out] at HXZ0 HLX HLT
  rw [HX9.out] at HM1 HM2
  rw [HY1.out] at HM3 HAZ1
  rw [HS.out, HC.out]
  clear hs hn hx hK hK0 HDO HC
  have hr := rows_two w (.cells S 40) (.cells C 57)
  have HB0 : Hid (Below w.heap.size w ((w.alloc (.cells S 40)).alloc (.cells C 57))) := hid (((Below.refl _ _).alloc (Nat.le_refl _) _).alloc (by simp) _)
  have HR0 := hid hr.1
  have HR1 := hid hr.2
  clear hr
  go_enter Tryz.func4, Tryz.ntmps4
  go_upto_region 1 with (fail)
  generalize ((w.alloc (.cells S 40)).alloc (.cells C 57)) = wz at *
  have lx := HLX.out wz _ HR1.out
  obtain ⟨l, HL⟩ : ∃ q : Bool, Hid (litS x = q) := ⟨_, hid rfl⟩
  rw [HL.out] at HLT
  go_wp2_with fail
  refine (HLT.out wz HB0.out).mono ?_
  rintro e w1 ⟨rfl, hb1⟩
  have HB1 := hid (HB0.out.trans (hb1.mono HB0.out.size))
  have HS1 := hid ((hb1.block _ (lt_of_block HR0.out)).trans HR0.out)
  have HC1 := hid ((hb1.block _ (lt_of_block HR1.out)).trans HR1.out)
  clear hb1 lx
  cases l with
  | false =>
    go_wp2_with fail
    refine (HAW.out w1 HB1.out).mono ?_
    rintro e w2 ⟨rfl, hb2⟩
    go_wp2_with fail
    go_ret
    exact ⟨rfl, hb2⟩
  | true =>
  go_upto_region 3 with (fail)
  have ls := loadSe_row HS1.out HSZ0.out
  have lx := HLX.out w1 _ HC1.out
  go_wp2_with fail
  refine (HDO2.out HL.out w1 HB1.out).mono ?_
  rintro e w2 ⟨rfl, hb2⟩
  have HB2 := hid (HB1.out.trans (hb2.mono HB1.out.size))
  have HS2 := hid ((hb2.block _ (lt_of_block HS1.out)).trans HS1.out)
  clear hb2 ls lx
  have hal1 := HLS.out w2
  have hal2 : allocAtt (w2.alloc (.cells ZS 40)) = .ok (.value (.pointer (some ⟨w2.heap.size + 1, 0, none⟩))) ((w2.alloc (.cells ZS 40)).alloc (.cells ZA 52)) := by
    have := HLA.out (w2.alloc (.cells ZS 40))
    rwa [show (w2.alloc (.cells ZS 40)).heap.size = w2.heap.size + 1 from by simp] at this
  obtain ⟨hst, hsa, hrs, hra, hbe, hzs, hza⟩ := vars_two w2 HZZ.out.1 HZZ.out.2 (t := t) HTK.out
  rw [HX9.out] at hst hsa hrs hra hbe hzs
  rw [HY9.out] at hsa hrs hra hbe hza
  have HRSw3 := hid hrs
  have HRAw3 := hid hra
  have HBEw3 := hid hbe
  have HSZw3 := hid (And.intro hzs hza)
  have HPw3 := hid (show w.heap.size ≤ w2.heap.size from HB2.out.size)
  clear hrs hra hbe hzs hza
  go_upto_region 4 with (fail)
  clear hal1 hal2 hst hsa
  generalize (setAtt (setSe ((w2.alloc (.cells ZS 40)).alloc (.cells ZA 52)) w2.heap.size X9) (w2.heap.size + 1) Y9) = w3 at *
  generalize hpp : w2.heap.size = p2 at *
  have HBEw3 := hid (show Below w2.heap.size w2 w3 from by rw [hpp]; exact HBEw3.out)
  clear hpp
  have HB3 := hid (HB2.out.trans (HBEw3.out.mono HB2.out.size))
  have HS3 := hid ((HBEw3.out.block _ (lt_of_block HS2.out)).trans HS2.out)
  by_cases e0 : E9 = 0
  · subst e0
    obtain ⟨q1, q2, q3⟩ := HTD.out.may HE9.out
    obtain ⟨q4, q5⟩ := HTD.out.eq HE9.out
    have HM := hid (And.intro (And.intro q4 q5) trivial)
    rw [q1] at HM1
    rw [q2] at HM2
    rw [q3] at HM3
    have HA3 : Hid (w3.heap[p2 + 1]? = some (.cells (atc t.a) 52 (0, 0))) := hid (by rw [HY9.out]; exact HRAw3.out)
    have k0 : w3.cell? ⟨p2 + 1, 0, none⟩ = some (.int .i64 t.a.bo) := (BoxA.cells (a := t.a) HA3.out).1
    have f0 : w3.frozen? ⟨p2 + 1, 0, none⟩ = false := BoxA.free (a := t.a) HA3.out 0
    have HA4 : Hid ((w3.setCell ⟨p2 + 1, 0, none⟩ (.int .i64 1)).heap[p2 + 1]? = some (.cells Y1 52 (0, 0))) := hid (by rw [heap_setIn w3 HA3.out, ← HY1.out]; rfl)
    have HT4 := hid ((Below.heap_setCell w3 ⟨p2 + 1, 0, none⟩ (.int .i64 1) p2 (by show p2 ≠ p2 + 1; omega)).trans HRSw3.out)
    have HS4 := hid ((Below.heap_setCell w3 ⟨p2 + 1, 0, none⟩ (.int .i64 1) w.heap.size (by show w.heap.size ≠ p2 + 1; have := HPw3.out; omega)).trans HS3.out)
    have HB4 := hid (HB3.out.setCell (p := ⟨p2 + 1, 0, none⟩) (by show w.heap.size ≤ p2 + 1; have := HPw3.out; omega) (.int .i64 1))
    clear q1 q2 q3 q4 q5
    go_upto_region 9 with (fail)
    clear k0 f0
    generalize (w3.setCell ⟨p2 + 1, 0, none⟩ (.int .i64 1)) = w4 at *
    have HF : Hid (∀ W, Below w4.heap.size w4 W → (loadSe (.pointer (some ⟨w.heap.size, 0, none⟩)) W = .ok (.value (.agg S)) W ∧ loadSe (.pointer (some ⟨p2, 0, none⟩)) W = .ok (.value (.agg X9)) W ∧ loadAtt (.pointer (some ⟨p2 + 1, 0, none⟩)) W = .ok (.value (.agg Y1)) W) ∧ (W.cell? ⟨p2, 0, none⟩ = some (.int .i64 t.s.vi) ∧ W.cell? ⟨p2, 1, none⟩ = some (.int .i64 t.s.ph)) ∧ W.cell? ⟨p2 + 1, 2, none⟩ = some (.int .i64 t.s.vi) ∧ W.cell? ⟨p2 + 1, 3, none⟩ = some (.int .i64 t.s.ph)) := hid (fun W h => by
      have h0 := (h.block _ (lt_of_block HS4.out)).trans HS4.out
      have h1 := (h.block _ (lt_of_block HT4.out)).trans HT4.out
      have h2 := (h.block _ (lt_of_block HA4.out)).trans HA4.out
      have h1' := h1
      have h2' := h2
      rw [← HX9.out] at h1'
      rw [← HY1.out] at h2'
      have c1 := BoxSe.cells (a := t.s) h1'
      have c2 := BoxA.cells (a := { t.a with bo := 1 }) h2'
      simp only at c2
      rw [HM.out.1.1, HM.out.1.2] at c2
      exact ⟨⟨loadSe_row h0 HSZ0.out, loadSe_row h1 HSZw3.out.1, loadAtt_row h2 HAZ1.out⟩, ⟨c1.1, c1.2.1⟩, c2.2.2.1, c2.2.2.2⟩)
    have HV := hid (And.intro rfl trivial : (t.s.vi = t.s.vi) ∧ True)
    obtain ⟨tv, HTV⟩ : ∃ q : Int, Hid (t.s.vi = q) := ⟨_, hid rfl⟩
    obtain ⟨tp, HTP⟩ : ∃ q : Int, Hid (t.s.ph = q) := ⟨_, hid rfl⟩
    rw [HTV.out, HTP.out] at HF
    have hvv : (tv == tv) = true := by simp
    have hpp : (tp == tp) = true := by simp
    obtain ⟨⟨_, l1, _⟩, _⟩ := HF.out w4 (Below.refl _ _)
    go_wp2_with fail
    refine (HM1.out w4).mono ?_
    rintro e w5 ⟨rfl, hb5⟩
    have HB5 := hid hb5
    clear l1 hb5
    obtain ⟨⟨l0, l1, _⟩, _⟩ := HF.out w5 HB5.out
    go_wp2_with fail
    refine (HM2.out w5).mono ?_
    rintro e w6 ⟨rfl, hb6⟩
    have HB6 := hid (HB5.out.trans (hb6.mono HB5.out.size))
    clear l0 l1 hb6
    obtain ⟨⟨_, _, l2⟩, _⟩ := HF.out w6 HB6.out
    go_wp2_with fail
    refine (HM3.out w6).mono ?_
    rintro e w7 ⟨rfl, hb7⟩
    have HB7 := hid (HB6.out.trans (hb7.mono HB6.out.size))
    clear l2 hb7
    obtain ⟨_, ⟨c1, c2⟩, c3, c4⟩ := HF.out w7 HB7.out
    go_wp2_with fail
    refine (HAW.out w7 (HB4.out.trans (HB7.out.mono HB4.out.size))).mono ?_
    rintro e w8 ⟨rfl, hb8⟩
    clear c1 c2 c3 c4
    go_wp2_with fail
    go_ret
    exact ⟨rfl, hb8⟩
  · obtain ⟨hz1, hz2⟩ := HTD.out.no (by rw [HE9.out]; exact e0)
    have HX0 : Hid (X9 = ZS) := hid (by rw [← HX9.out, hz1, HZS.out])
    have HY0 : Hid (Y9 = ZA) := hid (by rw [← HY9.out, hz2, HZA.out])
    have l1 : loadSe (.pointer (some ⟨p2, 0, none⟩)) w3 = .ok (.value (.agg ZS)) w3 := by
      have := loadSe_row HRSw3.out HSZw3.out.1
      rwa [HX0.out] at this
    have l2 : loadAtt (.pointer (some ⟨p2 + 1, 0, none⟩)) w3 = .ok (.value (.agg ZA)) w3 := by
      have := loadAtt_row HRAw3.out HSZw3.out.2
      rwa [HY0.out] at this
    have hbs := HBS.out
    have hba := HBA.out
    have heqs := HEQS.out
    have heqa := HEQA.out
    clear hz1 hz2
    go_wp2_with fail
    refine (HAW.out w3 HB3.out).mono ?_
    rintro e w8 ⟨rfl, hb8⟩
    clear l1 l2 hbs hba heqs heqa
    go_wp2_with fail
    go_ret
    exact ⟨rfl, hb8⟩
end Go.Proofs.YtghophbabbaleaaGreatDoor
