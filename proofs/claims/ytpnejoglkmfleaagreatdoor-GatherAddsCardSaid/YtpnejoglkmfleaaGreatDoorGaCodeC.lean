/-
  A gatherer's Cert. Printed with gengc.py.
-/
import Derived.Test.YtpnejoglkmfleaaGreatDoorGaCodeB
namespace Go.Proofs.YtpnejoglkmfleaaGreatDoor
set_option maxRecDepth 20000
open Go.RowKit
attribute [local go_sem ↓] exec_load_att exec_alloc_att exec_store_att exec_load_ct exec_alloc_ct exec_store_ct exec_build_ct
set_option maxHeartbeats 12800000 in
theorem gCert_new {w : World} {b m : Nat} {n : Int} {L : List AtM} (h : Gth w b m n L) (g : OkG n L) (k v : Int) (hK : Kst 0 w) :
    Calls Tryz.prog 9 #[.pointer (some ⟨b, 0, none⟩), .int .i64 k, .int .i64 v] w fun e w' => ∃ s, e = .returned (.tuple #[.agg (ctc (certG n L k v).1 s), .bool (certG n L k v).2]) ∧ (certG n L k v).1.Ok ∧ OwnE scl 33 66 w.heap.size w' s (certG n L k v).1.sg ∧ Below w.heap.size w w' := by
  obtain ⟨hn1, hn2, _⟩ := quoS_range g.quo
  have hwn : (Lit.int .i64 n).wf = true := WalkArith.wf_i64 (by omega)
  have HOF : Hid (∀ W, Below w.heap.size w W → Calls Tryz.prog 24 #[.pointer (some ⟨b, 0, none⟩), .int .i64 k, .int .i64 v] W fun e w' => ∃ x, e = .returned x ∧ OwnE atl 101 36 W.heap.size w' x (thoseG L k v) ∧ Below W.heap.size W w') := hid (fun W hW => gOf_any (h.below hW) g k v)
  have HN0 : Hid (∀ W, Below w.heap.size w W → W.cell? ⟨b, 0, none⟩ = some (.int .i64 n)) := hid (fun W hW => by
    obtain ⟨P, c, h2, _⟩ := h.below hW
    exact h2.cells.1)
  have HQU : Hid (∀ W, Calls Tryz.prog 19 #[.int .i64 n] W fun e w' => e = .returned (.int .i64 (quoS n : Int)) ∧ W = w') := hid (fun W => quorum_any n W hwn)
  have HTO : Hid (∀ a ∈ thoseG L k v, a.Ok) := hid (fun a ha => g.ok a (those_mem.1 ha).1)
  have HTL : Hid ((thoseG L k v).length ≤ 200) := hid (Nat.le_trans (List.length_filter_le _ _) g.len)
  have HAE : Hid (∀ a, agrQ n (thoseG L k v) a = decide (quoS n ≤ ((thoseG L k v).filter (fun x => alikeA x a)).length)) := hid (fun a => agrQ_enough g.quo g.good g.sort a)
  have HCN : Hid ((∀ a ∈ thoseG L k v, agrQ n (thoseG L k v) a = false) → certG n L k v = (ctZ, false)) := hid certQ_no
  have HCY : Hid (∀ i (hi : i < (thoseG L k v).length), (∀ j (h : j < (thoseG L k v).length), j < i → agrQ n (thoseG L k v) (thoseG L k v)[j] = false) → agrQ n (thoseG L k v) (thoseG L k v)[i] = true → certG n L k v = ((makeC n ((thoseG L k v).filter (alikeA (thoseG L k v)[i]))).1, true)) := hid (fun i hi h0 h1 => certQ_yes hi h0 h1)
  have HKK := hid hK
  have HMK : Hid (∀ W x l, Els atl 101 W x l → (∀ a ∈ l, a.Ok) → l.length ≤ 1000 → Kst 0 W → Calls Tryz.prog 26 #[.int .i64 n, x] W (MkPostN n l W)) := hid (fun W x l h1 h2 h3 h4 => ctMake_new n x l W hwn h1 h2 h3 h4)
  have HAG : Hid (∀ W x l a, Els atl 101 W x l → (∀ y ∈ l, y.Ok) → a.Ok → l.length ≤ 1000 → Calls Tryz.prog 25 #[x, .agg (atc a)] W fun e w' => ∃ y, e = .returned y ∧ OwnE atl 101 36 W.heap.size w' y (l.filter (fun x => alikeA x a)) ∧ Below W.heap.size W w') := hid (fun W x l a h1 h2 h3 h4 => gAgree_any x l a W h1 h2 h3 h4)
  obtain ⟨Tq, HT⟩ : ∃ q : List AtM, Hid (thoseG L k v = q) := ⟨_, hid rfl⟩
  obtain ⟨cg, HCG⟩ : ∃ q : CtM × Bool, Hid (certG n L k v = q) := ⟨_, hid rfl⟩
  have HCY2 : Hid (∀ i (hi : i < Tq.length), (∀ j (h : j < Tq.length), j < i → agrQ n Tq Tq[j] = false) → agrQ n Tq Tq[i] = true → cg = ((makeC n (Tq.filter (alikeA Tq[i]))).1, true)) := hid (by
    have h1 := HT.out
    have h2 := HCG.out
    have h := HCY.out
    subst h1
    rw [h2] at h
    exact h)
  rw [HT.out] at HOF HTO HTL HCN HAE
  rw [HCG.out] at HCN ⊢
  obtain ⟨qn, HQN⟩ : ∃ q : Nat, Hid (quoS n = q) := ⟨_, hid rfl⟩
  rw [HQN.out] at HQU HAE
  obtain ⟨NT, HNT⟩ : ∃ n : Nat, Hid (Tq.length = n) := ⟨_, hid rfl⟩
  rw [HNT.out] at HTL
  obtain ⟨Z, HZ⟩ : ∃ C : Array Value, Hid (ctc ctZ (.slice none 0 0) = C) := ⟨_, hid rfl⟩
  have HZS : Hid (Z.size = 102 ∧ Z.all (·.oneCell') = true) := hid (by rw [← HZ.out]; exact ⟨ctc_size _ ctZ_ok.att, ctc_one (c := ctZ) (w := w) (Els.nil w)⟩)
  have HAL : Hid (∀ W, allocCt W = .ok (.value (.pointer (some ⟨W.heap.size, 0, none⟩))) (W.alloc (.cells Z 40))) := hid (fun W => by rw [← HZ.out]; exact allocCt_eq W)
  have HBZ : Hid (∀ W, buildCt W = .ok (.value (.agg Z)) W) := hid (fun W => by rw [← HZ.out]; exact buildCt_eq W)
  obtain ⟨ZA, HZA⟩ : ∃ C : Array Value, Hid (atc atZ = C) := ⟨_, hid rfl⟩
  have HALA : Hid (∀ W, allocAtt W = .ok (.value (.pointer (some ⟨W.heap.size, 0, none⟩))) (W.alloc (.cells ZA 36))) := hid (fun W => by rw [← HZA.out]; exact allocAtt_eq W)
  have HSZA : Hid (ZA.size = 101) := hid (by rw [← HZA.out]; exact atc_size atZ_ok)
  have hr := heap_alloc_new w (.cells Z 40)
  have hal := HAL.out w
  have HB0 : Hid (Below w.heap.size w (w.alloc (.cells Z 40))) := hid ((Below.refl _ _).alloc (Nat.le_refl _) _)
  have HR := hid hr
  clear h g hK hr hwn hn1 hn2 HCY
  go_enter Tryz.func9, Tryz.ntmps9
  go_upto_region 1 with (fail)
  clear hal
  generalize (w.alloc (.cells Z 40)) = wz at *
  go_wp2_with fail
  refine (HOF.out wz HB0.out).mono ?_
  rintro e w1 ⟨x8, rfl, ho8, hb1⟩
  obtain ⟨A8, c8, rfl⟩ := ho8.shape
  have HE8 := hid (ho8.els eltAt HTO.out)
  have HX1 := hid (HB0.out.trans (hb1.mono HB0.out.size))
  have HRZ : Hid (w1.heap[w.heap.size]? = some (.cells Z 40 (0, 0))) := hid ((hb1.block _ (lt_of_block HR.out)).trans HR.out)
  rw [HNT.out] at HE8 ⊢
  clear ho8 hb1
  have HA8 : Hid (∀ j (h : j < Tq.length), ∃ b off, A8 = some ⟨b, off, none⟩ ∧ ∀ W, Below w1.heap.size w1 W → ElG W b (off + j * 101) Tq[j]) := hid (fun j h => elG_at HE8.out HTO.out h)
  have HRW : Hid (∀ W, Below w1.heap.size w1 W → Below w.heap.size w W ∧ W.cell? ⟨b, 0, none⟩ = some (.int .i64 n) ∧ W.heap[w.heap.size]? = some (.cells Z 40 (0, 0))) := hid (fun W h => by
    have e := HX1.out.trans (h.mono HX1.out.size)
    exact ⟨e, HN0.out W e, (h.block _ (lt_of_block HRZ.out)).trans HRZ.out⟩)
  go_wp2_with fail
  go_loopw [20] (fun s9 wr => ∃ i : Nat, i ≤ NT ∧ s9 = .int .i64 i ∧ Hid ((∀ j (h : j < Tq.length), j < i → agrQ n Tq Tq[j] = false) ∧ Below w1.heap.size w1 wr)) (fun s9 _ => NT - (intOf s9).toNat)
  case atStart => exact ⟨0, Nat.zero_le _, rfl, hid ⟨fun j _ h => absurd h (by omega), Below.refl _ _⟩⟩
  case round =>
    obtain ⟨i, hi, rfl, HREL⟩ := hrel
    by_cases hlt : i < NT
    · have hlt' : (i : Int) < (NT : Int) := by omega
      have HIL : Hid (i < Tq.length) := hid (by rw [HNT.out]; exact hlt)
      obtain ⟨b1, o1, rfl, h1⟩ := HA8.out i HIL.out
      have HXO := hid (HTO.out _ (List.getElem_mem HIL.out))
      have HYI := hid (HCY2.out i HIL.out HREL.out.1)
      have HAI := hid (HAE.out Tq[i])
      have HNI : Hid (agrQ n Tq Tq[i] = false → ∀ j (h : j < Tq.length), j < i + 1 → agrQ n Tq Tq[j] = false) := hid (fun e j h hj => by
        by_cases hji : j = i
        · subst hji
          exact e
        · exact HREL.out.1 j h (by omega))
      have l1 := (h1 wr HREL.out.2).ld
      generalize Tq[i] = x at *
      have HHK := hid (show i < NT from hlt)
      have HWI : Hid (wrap64 ((i : Int) + 1) = (i : Int) + 1) := hid (by have := HTL.out; unfold wrap64; omega)
      have hwi := HWI.out
      have HBR := hid HREL.out.2
      obtain ⟨F, HF⟩ : ∃ C : Array Value, Hid (atc x = C) := ⟨_, hid rfl⟩
      have HFS : Hid (F.size = 101 ∧ F.all (·.oneCell') = true) := hid (by rw [← HF.out]; exact ⟨atc_size HXO.out, atc_one _⟩)
      rw [HF.out] at l1
      have hal := HALA.out wr
      have hst : storeAtt (.pointer (some ⟨wr.heap.size, 0, none⟩)) (.agg F) (wr.alloc (.cells ZA 36)) = .ok .skip (wr.alloc (.cells F 36)) := by
        rw [storeAtt_eq (heap_alloc_new wr _) HSZA.out HFS.out.1 HFS.out.2]
        exact congrArg (fun W => Result.ok Next.skip W) (setCt_alloc wr _ _ F)
      clear h1 hlt hi HREL
      go_upto_region 5 with (fail)
      have hr1 := heap_alloc_new wr (.cells F 36)
      have HBR2 := hid (HBR.out.alloc HBR.out.size (.cells F 36))
      clear l1 hst hal
      generalize (wr.alloc (.cells F 36)) = w2 at *
      generalize wr.heap.size = gx at *
      have l2 : loadAtt (.pointer (some ⟨gx, 0, none⟩)) w2 = .ok (.value (.agg F)) w2 := loadAtt_row hr1 HFS.out.1
      have HAX : Hid (Calls Tryz.prog 25 #[.slice (some ⟨b1, o1, none⟩) NT c8, .agg F] w2 fun e w' => ∃ y, e = .returned y ∧ OwnE atl 101 36 w2.heap.size w' y (Tq.filter (fun y => alikeA y x)) ∧ Below w2.heap.size w2 w') := hid (by
        have := HAG.out w2 _ Tq x (HE8.out.below HBR2.out) HTO.out HXO.out (by rw [HNT.out]; have := HTL.out; omega)
        rw [HF.out] at this
        exact this)
      clear hr1
      go_wp2_with fail
      refine HAX.out.mono ?_
      rintro e w3 ⟨y3, rfl, ho3, hb3⟩
      have HSO : Hid (∀ a ∈ Tq.filter (fun y => alikeA y x), a.Ok) := hid (fun a ha => HTO.out a (List.mem_filter.1 ha).1)
      have HSL : Hid ((Tq.filter (fun y => alikeA y x)).length ≤ 200) := hid (Nat.le_trans (List.length_filter_le _ _) (by rw [HNT.out]; exact HTL.out))
      have HE3 := hid (ho3.els eltAt HSO.out)
      have HB3 := hid (HBR2.out.trans (hb3.mono HBR2.out.size))
      have HAF : Hid (Tq.filter (fun y => alikeA y x) = Tq.filter (alikeA x)) := hid alike_filter
      clear ho3 hb3 l2
      obtain ⟨A3, c3, rfl⟩ := HE3.out.shape
      obtain ⟨S, HS⟩ : ∃ q : List AtM, Hid (Tq.filter (fun y => alikeA y x) = q) := ⟨_, hid rfl⟩
      rw [HS.out] at HSO HSL HE3 HAI HAF ⊢
      obtain ⟨NS, HNS⟩ : ∃ n : Nat, Hid (S.length = n) := ⟨_, hid rfl⟩
      rw [HNS.out] at HE3 HAI HSL ⊢
      obtain ⟨e0, c0, _⟩ := HRW.out w3 HB3.out
      have HW0 := hid e0
      clear e0
      by_cases hq : qn ≤ NS
      · have hq' : (qn : Int) ≤ (NS : Int) := by omega
        have HAT : Hid (agrQ n Tq x = true) := hid (by rw [HAI.out]; exact decide_eq_true hq)
        have HRES : Hid (cg = ((makeC n S).1, true)) := hid (by rw [HYI.out HAT.out, ← HAF.out])
        have HM0 : Hid ((makeC n S).2 = 0) := hid (by
          have := HAT.out
          unfold agrQ at this
          rw [← HAF.out] at this
          exact of_decide_eq_true this)
        have HMC := hid (HMK.out w3 _ S HE3.out HSO.out (by rw [HNS.out]; have := HSL.out; omega) (HKK.out.below HW0.out))
        clear hq
        go_wp2_with fail
        refine (HQU.out w3).mono ?_
        rintro e w4 ⟨rfl, rfl⟩
        go_wp2_with fail
        refine HMC.out.mono ?_
        rintro e w4 ⟨s4, rfl, hok4, ho4, hb4⟩
        obtain ⟨A4, c4, rfl⟩ := ho4.shape
        rw [HM0.out]
        have HV4 := hid (ho4.els eltSg hok4.sg)
        have HO4 := hid ho4
        have HLZ : Hid (w.heap.size < w3.heap.size) := hid (Nat.lt_of_lt_of_le (lt_of_block HRZ.out) HB3.out.size)
        have HOK4 := hid hok4
        obtain ⟨Y, HY⟩ : ∃ C : Array Value, Hid (ctc (makeC n S).1 (.slice A4 (makeC n S).1.sg.length c4) = C) := ⟨_, hid rfl⟩
        have HYS : Hid (Y.size = 102 ∧ Y.all (·.oneCell') = true) := hid (by rw [← HY.out]; exact ⟨ctc_size _ HOK4.out.att, ctc_one (c := (makeC n S).1) (w := w4) HV4.out⟩)
        have HB4 := hid (HB3.out.trans (hb4.mono HB3.out.size))
        rw [HY.out]
        have hal4 := HAL.out w4
        have hst4 := ct_var w4 HZS.out.1 HYS.out.1 HYS.out.2
        clear ho4 hb4 hok4 c0 hq'
        go_upto_region 8 with (fail)
        have hr5 := heap_alloc_new w4 (.cells Y 40)
        have HB5 := hid (HB4.out.alloc HB4.out.size (.cells Y 40))
        have HV5 := hid (HO4.out.below ((Below.refl w4.heap.size w4).alloc (Nat.le_refl _) (.cells Y 40)))
        clear hal4 hst4
        generalize (w4.alloc (.cells Y 40)) = w5 at *
        generalize w4.heap.size = gy at *
        have hld : loadCt (.pointer (some ⟨gy, 0, none⟩)) w5 = .ok (.value (.agg Y)) w5 := loadCt_row hr5 HYS.out.1
        obtain ⟨e5, _, hz5⟩ := HRW.out w5 HB5.out
        have hst5 := storeCt_eq hz5 HZS.out.1 HYS.out.1 HYS.out.2
        have HR6 := hid (setCt_same (C := Y) hz5)
        have HB6 := hid (setCt_below (C := Y) e5 (Nat.le_refl _))
        have HV6 : Hid (OwnE scl 33 66 w.heap.size (setCt w5 w.heap.size Y) (.slice A4 (makeC n S).1.sg.length c4) (makeC n S).1.sg) := hid ((HV5.out.row (g := w.heap.size) (C := Y) HLZ.out).more (Nat.le_of_lt HLZ.out))
        clear hr5 e5 hz5
        go_wp2_with fail
        try simp only [Exit.inBlock, Exit.then]
        refine bodyPost_ret (results_cb rfl _ _ _ _ _ _ rfl rfl HR6.out HYS.out.1) rfl ?_
        rw [HRES.out]
        exact ⟨_, by rw [← HY.out]; rfl, HOK4.out, HV6.out, HB6.out⟩
      · have hq' : ¬ (qn : Int) ≤ (NS : Int) := by omega
        have HAT : Hid (agrQ n Tq x = false) := hid (by rw [HAI.out]; exact decide_eq_false hq)
        have HN2 := hid (HNI.out HAT.out)
        clear hq
        go_wp2_with fail
        refine (HQU.out w3).mono ?_
        rintro e w4 ⟨rfl, rfl⟩
        go_wp2_with fail
        go_roundw
        case rel => exact ⟨i + 1, HHK.out, by first | go_num | (rw [HWI.out]; rfl), hid ⟨HN2.out, HB3.out⟩⟩
        case measure => exact ga_meas HHK.out hwi
    · have hlt' : ¬ (i : Int) < (NT : Int) := by omega
      have HRES : Hid (cg = (ctZ, false)) := hid (HCN.out (fun a ha => by
        obtain ⟨j, hj, rfl⟩ := List.getElem_of_mem ha
        exact HREL.out.1 j hj (by rw [HNT.out] at hj; omega)))
      obtain ⟨e5, _, hz5⟩ := HRW.out wr HREL.out.2
      have hbz := HBZ.out wr
      have hst5 : storeCt (.pointer (some ⟨w.heap.size, 0, none⟩)) (.agg Z) wr = .ok .skip wr := by
        rw [storeCt_eq hz5 HZS.out.1 HZS.out.1 HZS.out.2, setCt_self hz5]
      have HR6 := hid hz5
      have HB6 := hid e5
      clear hlt hi e5 hz5 HREL
      go_wp2_with fail
      try simp only [Exit.inBlock, Exit.then]
      refine bodyPost_ret (results_cb rfl _ _ _ _ _ _ rfl rfl HR6.out HZS.out.1) rfl ?_
      rw [HRES.out]
      exact ⟨_, by rw [← HZ.out]; rfl, ctZ_ok, OwnE.nil _ _, HB6.out⟩
theorem gCert_any {w : World} {b m : Nat} {n : Int} {L : List AtM} (h : Gth w b m n L) (g : OkG n L) (k v : Int) (hK : Kst 0 w) :
    Calls Tryz.prog 9 #[.pointer (some ⟨b, 0, none⟩), .int .i64 k, .int .i64 v] w fun e w' => ∃ x, e = .returned (.tuple #[x, .bool (certG n L k v).2]) ∧ CtV w' x (certG n L k v).1 ∧ Below w.heap.size w w' :=
  (gCert_new h g k v hK).mono fun _ _ ⟨_, h1, h2, h3, h4⟩ => ⟨_, h1, ⟨_, rfl, h2, h3.els eltSg h2.sg⟩, h4⟩
end Go.Proofs.YtpnejoglkmfleaaGreatDoor
