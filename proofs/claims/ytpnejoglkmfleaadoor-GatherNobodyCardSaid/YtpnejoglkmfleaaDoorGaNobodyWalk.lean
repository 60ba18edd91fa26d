/-
  GatherNobody: nobody's gatherer has nothing, and what is not right is not there: the law's walk.
-/
import Derived.Test.YtpnejoglkmfleaaDoorGaAwake
namespace Go.Proofs.YtpnejoglkmfleaaDoor
set_option maxRecDepth 20000
open Go.RowKit
attribute [local go_sem ↓] exec_load_att exec_alloc_att exec_store_att exec_load_ct exec_alloc_ct exec_store_ct
theorem insG_nil (a : AtM) : insG a [] = [a] := rfl
theorem addG_nil_yes {n : Int} {a : AtM} (h : okG n a = true) : addG n [] a = ([a], 0) := by
  unfold addG
  rw [if_pos h]
  rfl
theorem addG_nil_no {n : Int} {a : AtM} (h : okG n a = false) : addG n [] a = ([], 7) := by
  unfold addG
  rw [h]
  rfl
set_option maxHeartbeats 12800000 in
theorem lawGatherNobody_all (a : AtM) (w : World) (ha : a.Ok) (hK1 : Kst 1 w) (hK0 : Kst 0 w) :
    Calls Tryd.prog 4 #[.agg (atc a)] w fun e w' => e = .returned (.bool true) ∧ Below w.heap.size w w' := by
  have HO := hid ha
  have HAW : Hid (∀ W, Below w.heap.size w W → Calls Tryd.prog 6 #[] W fun e w' => e = .returned (.bool true) ∧ Below w.heap.size w w') := hid (fun W hb => (gaAwake_any W (hK1.below hb)).mono fun _ _ ⟨h1, h2⟩ => ⟨h1, hb.trans (h2.mono hb.size)⟩)
  have HK1 := hid (fun W (h : Below w.heap.size w W) => (show Kst 1 W from hK1.below h))
  have HRT : Hid (∀ W, Below w.heap.size w W → Calls Tryd.prog 13 #[.agg (atc a)] W fun e w' => e = .returned (.bool (rightA a)) ∧ Below W.heap.size W w') := hid (fun W h => refRight8_any a W ha (hK0.below h))
  have HOG : Hid (∀ r, rightA a = r → okG 5 a = (r && decide (a.bo ≤ 5))) := hid (fun r e => by unfold okG; rw [e])
  have HOK0 : Hid (OkG 5 []) := hid (OkG.nil (by decide))
  have HXS : Hid ((atc a).size = 101) := hid (atc_size ha)
  have HB0 : Hid (Below w.heap.size w (w.alloc (.cells (atc a) 29))) := hid ((Below.refl _ _).alloc (Nat.le_refl _) _)
  have hr := BoxA.new w a
  have HBX : Hid (∀ W, Below (w.alloc (.cells (atc a) 29)).heap.size (w.alloc (.cells (atc a) 29)) W → Below w.heap.size w W ∧ W.cell? ⟨w.heap.size, 0, none⟩ = some (.int .i64 a.bo) ∧ loadAtt (.pointer (some ⟨w.heap.size, 0, none⟩)) W = .ok (.value (.agg (atc a))) W) := hid (fun W hW => by
    have hb := (hW.block _ (lt_of_block hr)).trans hr
    exact ⟨HB0.out.trans (hW.mono HB0.out.size), (BoxA.cells hb).1, loadAtt_row hb HXS.out⟩)
  have HADD : Hid (∀ (W : World) b m, Below w.heap.size w W → Gth W b m 5 [] → Calls Tryd.prog 8 #[.pointer (some ⟨b, 0, none⟩), .agg (atc a)] W fun e w' => e = .returned (.int .i64 (addG 5 [] a).2) ∧ Gth w' b m 5 (addG 5 [] a).1 ∧ W.grownBy w' (some m)) := hid (fun W b m hb hg => gAdd_any hg HOK0.out a HO.out (HK1.out W hb))
  have HADN : Hid (∀ W v0, NoGth W v0 → Calls Tryd.prog 8 #[v0, .agg (atc a)] W fun e w' => e = .returned (.int .i64 5) ∧ Below W.heap.size W w') := hid (fun W v0 h => gAdd_no h a)
  have HNW : Hid (∀ W, Calls Tryd.prog 7 #[.int .i64 5] W fun e w' => ∃ b m, e = .returned (.tuple #[.pointer (some ⟨b, 0, none⟩), .int .i64 0]) ∧ Gth w' b m 5 [] ∧ Below W.heap.size W w' ∧ W.heap.size ≤ b ∧ W.heap.size ≤ m) := hid (fun W => gNew_yes 5 W rfl (by decide))
  obtain ⟨X, HX⟩ : ∃ C : Array Value, Hid (atc a = C) := ⟨_, hid rfl⟩
  rw [HX.out] at HRT HB0 HBX HADD HADN HXS ⊢
  obtain ⟨bo, HBO⟩ : ∃ q : Int, Hid (a.bo = q) := ⟨_, hid rfl⟩
  rw [HBO.out] at HBX HOG
  obtain ⟨r, HRA⟩ : ∃ q : Bool, Hid (rightA a = q) := ⟨_, hid rfl⟩
  rw [HRA.out] at HRT
  have HOK := hid (HOG.out r HRA.out)
  obtain ⟨ZC, HZC⟩ : ∃ C : Array Value, Hid (ctc ctZ (.slice none 0 0) = C) := ⟨_, hid rfl⟩
  have HAC : Hid (∀ W, allocCt W = .ok (.value (.pointer (some ⟨W.heap.size, 0, none⟩))) (W.alloc (.cells ZC 37))) := hid (fun W => by rw [← HZC.out]; exact allocCt_eq W)
  have HZCS : Hid (ZC.size = 102 ∧ ZC.all (·.oneCell') = true) := hid (by rw [← HZC.out]; exact ⟨ctc_size _ ctZ_ok.att, ctc_one (c := ctZ) (w := w) (Els.nil w)⟩)
  have HCN : Hid (∀ W v0, NoGth W v0 → Calls Tryd.prog 9 #[v0, .int .i64 1, .int .i64 1] W fun e w' => e = .returned (.tuple #[.agg ZC, .bool false]) ∧ Below W.heap.size W w') := hid (fun W v0 h => by rw [← HZC.out]; exact gCert_no h 1 1)
  clear ha hK1 hK0 hr HOG
  go_enter Tryd.func4, Tryd.ntmps4
  go_upto_region 1 with (fail)
  generalize (w.alloc (.cells X 29)) = w0 at *
  go_wp2_with fail
  refine (HNW.out w0).mono ?_
  rintro e w1 ⟨b, m, rfl, hgt, hb1, hbb, hmm⟩
  have HB1 := hid hb1
  have HGT := hid hgt
  have HMM := hid hmm
  obtain ⟨e1, _, l1⟩ := HBX.out w1 hb1
  have HE1 := hid e1
  clear hgt hb1 hbb hmm e1
  go_wp2_with fail
  refine (HADD.out w1 b m HE1.out HGT.out).mono ?_
  rintro e w2 ⟨rfl, hgt2, hg2⟩
  have HB2 : Hid (Below w0.heap.size w0 w2) := hid (HB1.out.grown hg2 HB1.out.size (fun k e => by injection e with e; rw [← e]; exact HMM.out))
  have HGT2 := hid hgt2
  clear hgt2 hg2 l1
  have HRX : Hid (∀ W, Below w0.heap.size w0 W → Calls Tryd.prog 13 #[.agg X] W fun e w' => e = .returned (.bool r) ∧ Below W.heap.size W w') := hid (fun W h => HRT.out W (HBX.out W h).1)
  go_upto_region 5 with (fail)
  go_cut [5, 41] (fun s5 s41 wx => (∃ q : Int, s5 = .int .i64 q) ∧ s41 = .bool false ∧ Hid (Below w0.heap.size w0 wx))
  case first =>
    obtain ⟨_, _, l2⟩ := HBX.out w2 HB2.out
    cases hok : okG 5 a with
    | true =>
      rw [hok] at HOK
      have h2 := HOK.out.symm
      rw [Bool.and_eq_true, decide_eq_true_eq] at h2
      obtain ⟨rfl, hbo⟩ := h2
      have hbo' : bo ≤ 5 := hbo
      have HOKA : Hid (OkG 5 [a]) := hid (by have := HOK0.out.add (a := a) HO.out; rw [addG_nil_yes hok] at this; exact this)
      rw [addG_nil_yes hok] at HGT2 ⊢
      clear hok
      go_wp2_with fail
      refine (HRX.out w2 HB2.out).mono ?_
      rintro e w3 ⟨rfl, hb3⟩
      have HB3 := hid (HB2.out.trans (hb3.mono HB2.out.size))
      have HGT3 := hid (HGT2.out.below hb3)
      obtain ⟨_, c3, _⟩ := HBX.out w3 HB3.out
      have HALL := hid (gAll_any HGT3.out HOKA.out)
      clear l2 hb3
      go_wp2_with fail
      refine HALL.out.mono ?_
      rintro e w4 ⟨x4, rfl, ho4, hb4⟩
      obtain ⟨A4, c4, rfl⟩ := ho4.shape
      have HB4 := hid (HB3.out.trans (hb4.mono HB3.out.size))
      clear ho4 hb4 c3
      go_wp2_with fail
      go_meet
      case rel => exact ⟨⟨_, rfl⟩, by first | rfl | rw [decide_eq_false (by omega)], HB4⟩
    | false =>
      rw [hok] at HOK
      rw [addG_nil_no hok] at HGT2 ⊢
      clear hok
      cases r with
      | false =>
        go_wp2_with fail
        refine (HRX.out w2 HB2.out).mono ?_
        rintro e w3 ⟨rfl, hb3⟩
        have HB3 := hid (HB2.out.trans (hb3.mono HB2.out.size))
        have HGT3 := hid (HGT2.out.below hb3)
        have HALL := hid (gAll_any HGT3.out HOK0.out)
        clear l2 hb3
        go_wp2_with fail
        refine HALL.out.mono ?_
        rintro e w4 ⟨x4, rfl, ho4, hb4⟩
        obtain ⟨A4, c4, rfl⟩ := ho4.shape
        have HB4 := hid (HB3.out.trans (hb4.mono HB3.out.size))
        clear ho4 hb4
        go_wp2_with fail
        go_meet
        case rel => exact ⟨⟨_, rfl⟩, by first | rfl | rw [decide_eq_false (by omega)], HB4⟩
      | true =>
        have hbo : ¬ bo ≤ 5 := by
          have := HOK.out
          rw [Bool.true_and] at this
          exact of_decide_eq_false this.symm
        go_wp2_with fail
        refine (HRX.out w2 HB2.out).mono ?_
        rintro e w3 ⟨rfl, hb3⟩
        have HB3 := hid (HB2.out.trans (hb3.mono HB2.out.size))
        have HGT3 := hid (HGT2.out.below hb3)
        obtain ⟨_, c3, _⟩ := HBX.out w3 HB3.out
        have HALL := hid (gAll_any HGT3.out HOK0.out)
        clear l2 hb3
        go_wp2_with fail
        refine HALL.out.mono ?_
        rintro e w4 ⟨x4, rfl, ho4, hb4⟩
        obtain ⟨A4, c4, rfl⟩ := ho4.shape
        have HB4 := hid (HB3.out.trans (hb4.mono HB3.out.size))
        clear ho4 hb4 c3
        go_wp2_with fail
        go_meet
        case rel => exact ⟨⟨_, rfl⟩, by first | rfl | rw [decide_eq_false (by omega)], HB4⟩
  case rest =>
    obtain ⟨⟨q5, rfl⟩, rfl, HX0⟩ := hcut
    go_wp2_with fail
    go_loopw [6] (fun s6 wr => ∃ i : Nat, i ≤ 2 ∧ s6 = .int .i64 i ∧ Hid (Below w0.heap.size w0 wr)) (fun s6 _ => 2 - (intOf s6).toNat)
    case atStart => exact ⟨0, by omega, rfl, HX0⟩
    case round =>
      obtain ⟨i, hi, rfl, HBR⟩ := hrel
      obtain rfl | rfl | rfl : i = 0 ∨ i = 1 ∨ i = 2 := by omega
      · have HN : Hid (∀ W, NoGth W (.pointer none)) := hid (fun W => .inl rfl)
        have HDN := hid (gDrop_no (HN.out wr) 1)
        have HCE := hid (HCN.out wr _ (HN.out wr))
        go_wp2_with fail
        refine HDN.out.mono ?_
        rintro e w5 ⟨rfl, rfl⟩
        go_wp2_with fail
        refine HCE.out.mono ?_
        rintro e w5 ⟨rfl, hb5⟩
        have HB5 := hid (HBR.out.trans (hb5.mono HBR.out.size))
        have hac := HAC.out w5
        have hst := ct_var w5 HZCS.out.1 HZCS.out.1 HZCS.out.2
        clear hb5
        go_upto_region 15 with (fail)
        have HB6 := hid (HB5.out.alloc HB5.out.size (.cells ZC 37))
        clear hac hst
        generalize (w5.alloc (.cells ZC 37)) = w6 at *
        obtain ⟨_, _, l6⟩ := HBX.out w6 HB6.out
        go_wp2_with fail
        refine (HADN.out w6 _ (HN.out w6)).mono ?_
        rintro e w7 ⟨rfl, hb7⟩
        have HB7 := hid (HB6.out.trans (hb7.mono HB6.out.size))
        have HNE := hid (gNews_no (HN.out w7) 1)
        have HAN := hid (gAll_no (HN.out w7))
        clear l6 hb7
        go_wp2_with fail
        refine HNE.out.mono ?_
        rintro e w8 ⟨rfl, rfl⟩
        go_wp2_with fail
        refine HAN.out.mono ?_
        rintro e w8 ⟨rfl, rfl⟩
        go_wp2_with fail
        go_roundw
        case rel => exact ⟨1, by omega, by first | rfl | go_num, HB7⟩
        case measure => simp [intOf]
      · have hr2 := heap_alloc_new wr (.cells #[.int .i64 0, .map none] 47)
        have HBZ := hid (HBR.out.alloc HBR.out.size (.cells #[.int .i64 0, .map none] 47))
        go_upto_region 13 with (fail)
        generalize (wr.alloc (.cells #[.int .i64 0, .map none] 47)) = wz at *
        generalize wr.heap.size = gz at *
        have HN : Hid (∀ W, Below wz.heap.size wz W → NoGth W (.pointer (some ⟨gz, 0, none⟩))) := hid (fun W h => .inr ⟨gz, rfl, (h.block _ (lt_of_block hr2)).trans hr2⟩)
        have HREF := hid (Below.refl wz.heap.size wz)
        have HDN := hid (gDrop_no (HN.out wz HREF.out) 1)
        have HCE := hid (HCN.out wz _ (HN.out wz HREF.out))
        clear hr2
        go_wp2_with fail
        refine HDN.out.mono ?_
        rintro e w5 ⟨rfl, rfl⟩
        go_wp2_with fail
        refine HCE.out.mono ?_
        rintro e w5 ⟨rfl, hb5⟩
        have HB5 := hid (HBZ.out.trans (hb5.mono HBZ.out.size))
        have HBN5 := hid hb5
        have hac := HAC.out w5
        have hst := ct_var w5 HZCS.out.1 HZCS.out.1 HZCS.out.2
        clear hb5
        go_upto_region 15 with (fail)
        have HB6 := hid (HB5.out.alloc HB5.out.size (.cells ZC 37))
        have HBN6 := hid (HBN5.out.alloc HBN5.out.size (.cells ZC 37))
        clear hac hst
        generalize (w5.alloc (.cells ZC 37)) = w6 at *
        obtain ⟨_, _, l6⟩ := HBX.out w6 HB6.out
        go_wp2_with fail
        refine (HADN.out w6 _ (HN.out w6 HBN6.out)).mono ?_
        rintro e w7 ⟨rfl, hb7⟩
        have HB7 := hid (HB6.out.trans (hb7.mono HB6.out.size))
        have HBN7 := hid (HBN6.out.trans (hb7.mono HBN6.out.size))
        have HNE := hid (gNews_no (HN.out w7 HBN7.out) 1)
        have HAN := hid (gAll_no (HN.out w7 HBN7.out))
        clear l6 hb7
        go_wp2_with fail
        refine HNE.out.mono ?_
        rintro e w8 ⟨rfl, rfl⟩
        go_wp2_with fail
        refine HAN.out.mono ?_
        rintro e w8 ⟨rfl, rfl⟩
        go_wp2_with fail
        go_roundw
        case rel => exact ⟨2, by omega, by first | rfl | go_num, HB7⟩
        case measure => simp [intOf]
      · have HAX := hid (HAW.out wr (HBX.out wr HBR.out).1)
        go_wp2_with fail
        refine HAX.out.mono ?_
        rintro e w9 ⟨rfl, hb9⟩
        have HB9 := hid hb9
        clear hb9
        go_wp2_with fail
        go_ret
        exact ⟨rfl, HB9.out⟩
end Go.Proofs.YtpnejoglkmfleaaDoor
