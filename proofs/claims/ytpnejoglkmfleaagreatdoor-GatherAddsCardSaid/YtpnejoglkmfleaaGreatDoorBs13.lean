/-
  CtMake CtSame CtArg CtOk CtCodeWith: what each of them says stands at its head.
-/
import Derived.Test.YtpnejoglkmfleaaGreatDoorBs12
import Derived.Lib.AppendZerosOnto
namespace Go.Proofs.YtpnejoglkmfleaaGreatDoor
set_option maxRecDepth 20000
open Go.RowKit
attribute [local go_sem ↓] exec_load_att exec_load_ct exec_alloc_ct exec_store_ct exec_build_ct exec_build_cta exec_build_hash exec_build_sg2 exec_slice_sg exec_load_hash
set_option maxHeartbeats 12800000 in
theorem refMake9_new (n : Int) (v : Value) (l : List AtM) (w : World) (hv : Els atl 101 w v l) (hok : ∀ a ∈ l, a.Ok) (hlen : l.length ≤ 1000) (hK : Kst 1 w) :
    Calls Tryz.prog 28 #[.int .i64 n, v] w (MkPostN n l w) := by
  obtain ⟨A, kk, rfl⟩ := hv.shape
  obtain ⟨L, HL⟩ : ∃ n : Nat, Hid (l.length = n) := ⟨_, hid rfl⟩
  obtain ⟨q, HQ⟩ : ∃ q : Nat, Hid (quoS n = q) := ⟨_, hid rfl⟩
  rw [HL.out] at hv hlen ⊢
  have HV := hid hv
  have HOK := hid hok
  have HKB := hid (fun W (h : Below w.heap.size w W) => (show Kst 1 W from hK.below h))
  have HQU : Hid (∀ W, Calls Tryz.prog 6 #[.int .i64 n] W fun e w' => e = .returned (.int .i64 (q : Int)) ∧ W = w') := hid (fun W => by
    have := refQuorum_any n W
    rw [HQ.out] at this
    exact this)
  have HRT : Hid (∀ a ∈ l, ∀ W, Below w.heap.size w W → Calls Tryz.prog 20 #[.agg (atc a)] W fun e w' => e = .returned (.bool (rightA a)) ∧ Below W.heap.size W w') := hid (fun a ha W h => refRight8_any a W (HOK.out a ha) (HKB.out W h))
  have HAL : Hid (∀ a ∈ l, ∀ b ∈ l, ∀ W, Calls Tryz.prog 27 #[.agg (atc a), .agg (atc b)] W fun e w' => e = .returned (.bool (alikeA a b)) ∧ Below W.heap.size W w') := hid (fun a ha b hb W => refAlike_any a b W (HOK.out a ha) (HOK.out b hb))
  obtain ⟨Z, HZ⟩ : ∃ C : Array Value, Hid (ctc ctZ (.slice none 0 0) = C) := ⟨_, hid rfl⟩
  have hbz : ∀ W, buildCt W = .ok (.value (.agg Z)) W := fun W => by rw [← HZ.out]; exact buildCt_eq W
  have hal : ∀ W, allocCt W = .ok (.value (.pointer (some ⟨W.heap.size, 0, none⟩))) (W.alloc (.cells Z 40)) := fun W => by rw [← HZ.out]; exact allocCt_eq W
  have HSZ : Hid (Z.size = 102) := hid (by rw [← HZ.out]; exact ctc_size _ atZ_ok)
  have HZ1 : Hid (Z.all (·.oneCell') = true) := hid (by rw [← HZ.out]; exact ctc_one (w := w) (c := ctZ) (Els.nil w))
  have hb0 : Below w.heap.size w (w.alloc (.cells Z 40)) := (Below.refl _ _).alloc (Nat.le_refl _) _
  have hr0 := heap_alloc_new w (.cells Z 40)
  have HZF : Hid (∀ W : World, W.heap[w.heap.size]? = some (.cells Z 40 (0, 0)) → storeCt (.pointer (some ⟨w.heap.size, 0, none⟩)) (.agg Z) W = .ok .skip W) := hid (fun W h => by rw [storeCt_eq h HSZ.out HSZ.out HZ1.out, setCt_self h])
  clear hv hok hK
  go_enter Tryz.func28, Tryz.ntmps28
  go_upto_region 1 with (fail)
  generalize (w.alloc (.cells Z 40)) = w0 at *
  have HR0 := hid hr0
  have HB0 := hid hb0
  have hz0 := HZF.out w0 hr0
  clear hr0 hb0
  go_wp2_with fail
  refine (HQU.out w0).mono ?_
  rintro e w1 ⟨rfl, rfl⟩
  by_cases hq : q = 0
  · subst hq
    have HM := hid (makeC_arg (l := l) (.inl HQ.out))
    go_wp2_with fail
    refine bodyPost_ret (results_cb rfl _ _ _ _ _ _ rfl rfl HR0.out HSZ.out) rfl ?_
    rw [← HZ.out]
    exact mkPostN_no HM.out HB0.out
  have hq1 : ((q : Int) == 0) = false := by simpa using hq
  by_cases hL : L = 0
  · subst hL
    have HM := hid (makeC_arg (n := n) (l := l) (.inr (List.eq_nil_of_length_eq_zero HL.out)))
    go_wp2_with fail
    refine bodyPost_ret (results_cb rfl _ _ _ _ _ _ rfl rfl HR0.out HSZ.out) rfl ?_
    rw [← HZ.out]
    exact mkPostN_no HM.out HB0.out
  have hL1 : ((L : Int) == 0) = false := by simpa using hL
  have HLP : Hid (0 < l.length) := hid (by rw [HL.out]; omega)
  have HQN : Hid (quoS n ≠ 0) := hid (by rw [HQ.out]; exact hq)
  obtain ⟨g, og, rfl, hg, hcl⟩ := HV.out.at_.2.2.2 HLP.out
  have HE : Hid (∀ j (h : j < l.length) W, Below w.heap.size w W → loadAtt (.pointer (some ⟨g, og + j * 101, none⟩)) W = .ok (.value (.agg (atc l[j]))) W ∧ W.cell? ⟨g, og + j * 101, none⟩ = some (.int .i64 l[j].bo) ∧ loadH (.pointer (some ⟨g, og + j * 101 + 69, none⟩)) W = .ok (.value (.agg (hcells l[j].tg))) W) := hid (fun j h W hb => by
    have ho := HOK.out _ (List.getElem_mem h)
    have hr := range_kept (hcl j h) (hb.block g hg)
    refine ⟨loadAtt_in hr ho, hr 0 _ rfl, loadH_mid (fun i u hu => ?_) ho.tg⟩
    rw [Nat.add_assoc]
    refine hr (69 + i) u ?_
    rw [atl_tag, List.append_nil, List.getElem?_append_right (by simp only [List.length_append, bcells_length, ho.ha, ho.pa, List.length_cons, List.length_nil]; omega)]
    simp only [List.length_append, bcells_length, ho.ha, ho.pa, List.length_cons, List.length_nil]
    rw [show 69 + i - (0 + 1 + 1 + 1 + 1 + (32 + (0 + 1 + 32))) = i from by omega]
    exact hu)
  have HGL := hid hg
  obtain ⟨a0, HA0⟩ : ∃ a : AtM, Hid (l[0]'HLP.out = a) := ⟨_, hid rfl⟩
  have HM0 : Hid (a0 ∈ l) := hid (by rw [← HA0.out]; exact List.getElem_mem _)
  have HCO : Hid (l = a0 :: l.tail) := hid (by
    have := HA0.out
    have hp := HLP.out
    cases hl : l with
    | nil => rw [hl] at hp; simp at hp
    | cons a r => subst hl; simp only [List.getElem_cons_zero] at this; rw [this]; rfl)
  have HO0 := hid (HOK.out a0 HM0.out)
  clear hcl hg HV
  go_wp2_with fail
  go_loopw [7] (fun si wr => ∃ i : Nat, i ≤ L ∧ si = .int .i64 i ∧ Hid (∀ j (h : j < l.length), j < i → (rightA l[j] && decide (l[j].bo ≤ n)) = true) ∧ Below w0.heap.size w0 wr) (fun si _ => L - (intOf si).toNat)
  case atStart => exact ⟨0, Nat.zero_le _, rfl, hid (fun j _ h => absurd h (by omega)), Below.refl _ _⟩
  case round =>
    obtain ⟨i, hi, rfl, HD, hbr⟩ := hrel
    have HBR := hid (HB0.out.trans (hbr.mono HB0.out.size))
    have HRR := hid ((hbr.block _ (lt_of_block HR0.out)).trans HR0.out)
    by_cases hlt : i < L
    · have hil : i < l.length := by rw [HL.out]; exact hlt
      have hI : (i : Int) < (L : Int) := by omega
      have hM := List.getElem_mem hil
      obtain ⟨X, HX⟩ : ∃ C : Array Value, Hid (atc l[i] = C) := ⟨_, hid rfl⟩
      obtain ⟨m, HMM⟩ : ∃ m : Bool, Hid (rightA l[i] = m) := ⟨_, hid rfl⟩
      obtain ⟨bo, HBO⟩ : ∃ b : Int, Hid (l[i].bo = b) := ⟨_, hid rfl⟩
      have HR2 : Hid (∀ W, Below w.heap.size w W → Calls Tryz.prog 20 #[.agg X] W fun e w' => e = .returned (.bool m) ∧ Below W.heap.size W w') := hid (fun W h => by
        have := HRT.out _ hM W h
        rw [HX.out, HMM.out] at this
        exact this)
      obtain ⟨l1, _, _⟩ := HE.out i hil wr HBR.out
      rw [HX.out] at l1
      clear hM
      go_wp2_with fail
      refine (HR2.out wr HBR.out).mono ?_
      rintro e w2 ⟨rfl, hb2⟩
      have hbr2 := hbr.trans (hb2.mono hbr.size)
      have HB2 := hid (HB0.out.trans (hbr2.mono HB0.out.size))
      have HR2' := hid ((hb2.block _ (lt_of_block HRR.out)).trans HRR.out)
      have hz2 := HZF.out w2 HR2'.out
      obtain ⟨_, c2, _⟩ := HE.out i hil w2 HB2.out
      rw [HBO.out] at c2
      clear l1
      cases m with
      | false =>
        have HM := hid (makeC_tag HQN.out HCO.out (by
          rw [List.all_eq_false]
          exact ⟨_, List.getElem_mem hil, by rw [HMM.out]; simp⟩))
        go_wp2_with fail
        refine bodyPost_ret (results_cb rfl _ _ _ _ _ _ rfl rfl HR2'.out HSZ.out) rfl ?_
        rw [← HZ.out]
        exact mkPostN_no HM.out HB2.out
      | true =>
        by_cases hbn : n < bo
        · have HM := hid (makeC_tag HQN.out HCO.out (by
            rw [List.all_eq_false]
            exact ⟨_, List.getElem_mem hil, by rw [HMM.out, HBO.out, decide_eq_false (by omega)]; simp⟩))
          go_wp2_with fail
          refine bodyPost_ret (results_cb rfl _ _ _ _ _ _ rfl rfl HR2'.out HSZ.out) rfl ?_
          rw [← HZ.out]
          exact mkPostN_no HM.out HB2.out
        · have HT : Hid ((rightA l[i] && decide (l[i].bo ≤ n)) = true) := hid (by rw [HMM.out, HBO.out, decide_eq_true (show bo ≤ n by omega)]; rfl)
          clear hz2
          go_wp2_with fail
          go_roundw
          case rel =>
            refine ⟨i + 1, by omega, by go_num, hid (fun j h hj => ?_), hbr2⟩
            by_cases hji : j < i
            · exact HD.out j h hji
            · obtain rfl : j = i := by omega
              exact HT.out
          case measure => simp [intOf]; omega
    · have HIL := hid (show i = L by omega)
      have hI : ¬ (i : Int) < (L : Int) := by omega
      have HALL : Hid ((l.all fun a => rightA a && decide (a.bo ≤ n)) = true) := hid (by
        rw [List.all_eq_true]
        intro a ha
        obtain ⟨j, hj, rfl⟩ := List.getElem_of_mem ha
        exact HD.out j hj (by have := HL.out; have := HIL.out; omega))
      obtain ⟨l1, _, _⟩ := HE.out 0 HLP.out wr HBR.out
      rw [HA0.out, Nat.zero_mul, Nat.add_zero] at l1
      obtain ⟨X0, HX0⟩ : ∃ C : Array Value, Hid (atc a0 = C) := ⟨_, hid rfl⟩
      obtain ⟨Y0, HY0⟩ : ∃ C : Array Value, Hid (ctc ⟨a0, []⟩ (.slice none 0 0) = C) := ⟨_, hid rfl⟩
      rw [HX0.out] at l1
      have hbc : ∀ W, buildCtA (.agg X0) W = .ok (.value (.agg Y0)) W := fun W => by rw [← HX0.out, ← HY0.out]; exact buildCtA_eq a0 HO0.out W
      have hst : storeCt (.pointer (some ⟨wr.heap.size, 0, none⟩)) (.agg Y0) (wr.alloc (.cells Z 40)) = .ok .skip (wr.alloc (.cells Y0 40)) := by
        refine ct_var wr HSZ.out ?_ ?_
        · rw [← HY0.out]; exact ctc_size (c := ⟨a0, []⟩) _ HO0.out
        · rw [← HY0.out]; exact ctc_one (w := w) (c := ⟨a0, []⟩) (Els.nil w)
      have hbA : Below wr.heap.size wr (wr.alloc (.cells Y0 40)) := (Below.refl _ _).alloc (Nat.le_refl _) _
      have HC2 : Hid (MkSt w (wr.alloc (.cells Y0 40)) wr.heap.size a0 (.slice none 0 0)) := hid (by
        refine ⟨HBR.out.trans (hbA.mono HBR.out.size), ?_, lt_of_block HRR.out, ?_⟩
        · unfold BoxC
          rw [HZ.out]
          exact (hbA.block _ (lt_of_block HRR.out)).trans HRR.out
        · unfold BoxC
          rw [HY0.out]
          exact heap_alloc_new wr _)
      have hiL := HIL.out
      clear HD hlt hbA
      go_upto_region 10 with (fail)
      generalize (wr.alloc (.cells Y0 40)) = w3 at *
      obtain ⟨g2, HG2⟩ : ∃ g2 : Nat, Hid (wr.heap.size = g2) := ⟨_, hid rfl⟩
      rw [HG2.out] at HC2 ⊢
      clear l1 hbc hst hal
      have f3 := HC2.out.b1.free 0
      have k3 := HC2.out.b1.bo
      simp only at k3
      obtain ⟨a1, HA1⟩ : ∃ a : AtM, Hid ({ a0 with bo := 0 } = a) := ⟨_, hid rfl⟩
      have HO1 : Hid a1.Ok := hid (by rw [← HA1.out]; exact ⟨HO0.out.ha, HO0.out.pa, HO0.out.tg⟩)
      have HC4 : Hid (MkSt w (w3.setCell ⟨g2, 0, none⟩ (.int .i64 0)) g2 a1 (.slice none 0 0)) := hid (by
        have h := HC2.out
        have hlt := h.lt
        refine ⟨h.bel.setCell (by simp only; omega) _, blk_other h.b0 _ (by omega), hlt, ?_⟩
        have := set_blk h.b1 0 (.int .i64 0)
        rw [← HA1.out]
        exact this)
      go_upto_region 11 with (fail)
      generalize (w3.setCell ⟨g2, 0, none⟩ (.int .i64 0)) = w4 at *
      clear f3 k3 HC2
      obtain ⟨N, HN⟩ : ∃ C : Array Value, Hid (hcells z32 = C) := ⟨_, hid rfl⟩
      have hbh : ∀ W, buildH W = .ok (.value (.agg N)) W := fun W => by rw [buildH_eq, fcells_nought, ← HN.out]; rfl
      obtain ⟨a2, HA2⟩ : ∃ a : AtM, Hid ({ a1 with tg := z32 } = a) := ⟨_, hid rfl⟩
      have HO2 : Hid a2.Ok := hid (by rw [← HA2.out]; exact ⟨HO1.out.ha, HO1.out.pa, rfl⟩)
      have HAW : Hid (a2 = withC a0 ⟨0, z32⟩) := hid (by rw [← HA2.out, ← HA1.out]; rfl)
      go_upto_region 12 with (refine wpList_store_ctg rfl _ _ rfl rfl (by rw [HN.out]; rfl) HC4.out.b1 HO1.out (show z32.length = 32 from rfl) ?_; intro w5 hg5 hC5 hs5)
      rw [HA2.out] at hC5
      have HC5 : Hid (MkSt w w5 g2 a2 (.slice none 0 0)) := hid (by
        have h := HC4.out
        have hlt := h.lt
        exact ⟨h.bel.grown hg5 h.bel.size (fun k hk => by injection hk with hk; omega), (hg5.block _ h.b0.lt (fun e => by injection e with e; omega)).trans h.b0, hlt, hC5⟩)
      clear hbh hg5 hC5 hs5 HC4
      go_wp2_with fail
      go_loopw [9] (fun si wr => ∃ i : Nat, i ≤ L ∧ si = .int .i64 i ∧ Hid (∀ j (h : j < l.length), j < i → alikeA l[j] a0 = true) ∧ MkSt w wr g2 a2 (.slice none 0 0)) (fun si _ => L - (intOf si).toNat)
      case atStart => exact ⟨0, Nat.zero_le _, rfl, hid (fun j _ h => absurd h (by omega)), HC5.out⟩
      case round =>
        obtain ⟨i, hi, rfl, HD, hst⟩ := hrel
        have HST := hid hst
        clear hst
        by_cases hlt : i < L
        · have hil : i < l.length := by rw [HL.out]; exact hlt
          have hI : (i : Int) < (L : Int) := by omega
          have hM := List.getElem_mem hil
          obtain ⟨X, HX⟩ : ∃ C : Array Value, Hid (atc l[i] = C) := ⟨_, hid rfl⟩
          obtain ⟨m, HMM⟩ : ∃ m : Bool, Hid (alikeA l[i] a0 = m) := ⟨_, hid rfl⟩
          have HA3 : Hid (∀ W, Calls Tryz.prog 27 #[.agg X, .agg X0] W fun e w' => e = .returned (.bool m) ∧ Below W.heap.size W w') := hid (fun W => by
            have := HAL.out _ hM _ HM0.out W
            rw [HX.out, HX0.out, HMM.out] at this
            exact this)
          have HXS : Hid (∀ W, Below w.heap.size w W → loadAtt (.pointer (some ⟨g, og + i * 101, none⟩)) W = .ok (.value (.agg X)) W ∧ loadAtt (.pointer (some ⟨g, og, none⟩)) W = .ok (.value (.agg X0)) W) := hid (fun W h => by
            have h1 := (HE.out i hil W h).1
            have h2 := (HE.out 0 HLP.out W h).1
            rw [HA0.out, Nat.zero_mul, Nat.add_zero, HX0.out] at h2
            rw [HX.out] at h1
            exact ⟨h1, h2⟩)
          have hbd : Below wr.heap.size wr wr.drew := (Below.refl _ _).drew
          have hB := HST.out.bel
          have hBd : Below w.heap.size w wr.drew := hB.drew
          have h0L : (0 : Int) < (L : Int) := by omega
          have h0N : 0 < L := by omega
          clear hM
          go_upto_region 15 with (fail)
          go_region_held3 (fun W => loadAtt (.pointer (some ⟨g, og + i * 101, none⟩)) W = .ok (.value (.agg X)) W ∧ loadAtt (.pointer (some ⟨g, og, none⟩)) W = .ok (.value (.agg X0)) W)
            (first | (refine HXS.out _ hBd) | (refine HXS.out _ (hB.trans (hb2.mono hB.size))) | fail)
            (first
              | (go_at_call 27; (with_reducible refine (HA3.out _).mono ?_); rintro e w6 ⟨rfl, hb2'⟩; have hb2 : Below wr.heap.size wr w6 := hbd.trans hb2')
              | fail)
          have HS6 := hid (HST.out.below hb2)
          have HZ6 : Hid (w6.heap[w.heap.size]? = some (.cells Z 40 (0, 0))) := hid (by have := HS6.out.b0; unfold BoxC at this; rw [HZ.out] at this; exact this)
          clear hb2 hb2' hbd hB hBd
          cases m with
          | false =>
            have HM := hid (makeC_alike HQN.out HCO.out HALL.out (by
              rw [List.all_eq_false]
              exact ⟨_, List.getElem_mem hil, by rw [HMM.out]; simp⟩))
            have hz6 := HZF.out w6 HZ6.out
            go_wp2_with fail
            refine bodyPost_ret (results_cb rfl _ _ _ _ _ _ rfl rfl HZ6.out HSZ.out) rfl ?_
            rw [← HZ.out]
            exact mkPostN_no HM.out HS6.out.bel
          | true =>
            go_wp2_with fail
            go_roundw
            case rel =>
              refine ⟨i + 1, by omega, by go_num, hid (fun j h hj => ?_), HS6.out⟩
              by_cases hji : j < i
              · exact HD.out j h hji
              · obtain rfl : j = i := by omega
                exact HMM.out
            case measure => simp [intOf]; omega
        · have HIL2 := hid (show i = L by omega)
          have hI : ¬ (i : Int) < (L : Int) := by omega
          have HAL2 : Hid ((l.all fun a => alikeA a a0) = true) := hid (by
            rw [List.all_eq_true]
            intro a ha
            obtain ⟨j, hj, rfl⟩ := List.getElem_of_mem ha
            exact HD.out j hj (by have := HL.out; have := HIL2.out; omega))
          obtain ⟨NN, hN1, hN21, HNN⟩ : ∃ k : Nat, 1 ≤ k ∧ k ≤ 21 ∧ Hid (n = (k : Int)) := by
            have := quoS_top HQN.out
            exact ⟨n.toNat, by omega, by omega, hid (by omega)⟩
          have hnn := HNN.out
          have HQ21 : Hid (q ≤ 21) := hid (by
            have h := quoS_top HQN.out
            rw [← HQ.out]
            unfold quoS
            split <;> omega)
          clear HD hlt
          go_wp2_with fail
          go_loopw [10] (fun si wr => ∃ (k : Nat) (s : Value), k ≤ NN ∧ si = .int .i64 ((k + 1 : Nat) : Int) ∧ MkSt w wr g2 a2 s ∧ OwnE scl 33 66 (g2 + 1) wr s (sigsC l q k)) (fun si _ => NN + 1 - (intOf si).toNat)
          case atStart => exact ⟨0, _, Nat.zero_le _, rfl, HST.out, OwnE.nil _ _⟩
          case round =>
            obtain ⟨k, s, hk, rfl, hst, how⟩ := hrel
            have HSG : Hid (∀ x ∈ sigsC l q k, x.Ok) := hid (fun x hx => by
              obtain ⟨a, ha, _, e⟩ := sigsC_mem _ _ _ x hx
              show x.tg.length = 32
              rw [← e]
              exact (HOK.out a ha).tg)
            obtain ⟨SL, HSL⟩ : ∃ x : List SgM, Hid (sigsC l q k = x) := ⟨_, hid rfl⟩
            have HQL : Hid (SL.length ≤ q) := hid (by rw [← HSL.out]; exact sigsC_len l q k)
            rw [HSL.out] at how HSG
            obtain ⟨SA, SC, rfl⟩ := how.shape
            obtain ⟨sn, HSN⟩ : ∃ x : Nat, Hid (SL.length = x) := ⟨_, hid rfl⟩
            rw [HSN.out] at hst how
            have HST := hid hst
            have HOW := hid how
            obtain ⟨c1, f1⟩ := HST.out.sigs HO2.out
            clear hst how
            by_cases hle : k + 1 ≤ NN
            · have hle1 : ((k + 1 : Nat) : Int) ≤ (NN : Int) := by omega
              by_cases hlq : sn < q
              · have hlq1 : (sn : Int) < (q : Int) := by omega
                subst hnn
                go_wp2_with fail
                clear c1 f1
                go_loop [11] (fun si => ∃ j : Nat, j ≤ L ∧ si = .int .i64 j ∧ Hid (∀ i (h : i < l.length), i < j → l[i].bo ≠ ((k + 1 : Nat) : Int))) (fun si => L - (intOf si).toNat)
                case atStart => exact ⟨0, Nat.zero_le _, rfl, hid (fun j _ h => absurd h (by omega))⟩
                case round =>
                  obtain ⟨j, hj, rfl, HNO⟩ := hrel
                  by_cases hjl : j < L
                  · have hil : j < l.length := by rw [HL.out]; exact hjl
                    have hJ : (j : Int) < (L : Int) := by omega
                    have hMj := List.getElem_mem hil
                    obtain ⟨bo, HBO⟩ : ∃ b : Int, Hid (l[j].bo = b) := ⟨_, hid rfl⟩
                    obtain ⟨_, c2, _⟩ := HE.out j hil wr HST.out.bel
                    rw [HBO.out] at c2
                    by_cases hbk : bo = ((k + 1 : Nat) : Int)
                    · have hbk1 : (bo == ((k + 1 : Nat) : Int)) = true := by simpa using hbk
                      obtain ⟨t, HTT⟩ : ∃ t : List UInt8, Hid (l[j].tg = t) := ⟨_, hid rfl⟩
                      have HTL : Hid (t.length = 32) := hid (by rw [← HTT.out]; exact (HOK.out _ hMj).tg)
                      have HFD : Hid (sigsC l q (k + 1) = SL ++ [⟨((k + 1 : Nat) : Int), t⟩]) := hid (by
                        rw [← HSL.out, ← HTT.out]
                        refine sigsC_found (by rw [HSL.out, HSN.out]; exact hlq) hil (by rw [HBO.out]; exact hbk) (fun i h hi => HNO.out i h hi))
                      obtain ⟨TC, HTC⟩ : ∃ C : Array Value, Hid (hcells t = C) := ⟨_, hid rfl⟩
                      obtain ⟨by_, HBY⟩ : ∃ b : Int, Hid (((k + 1 : Nat) : Int) = b) := ⟨_, hid rfl⟩
                      obtain ⟨G, HG⟩ : ∃ C : Array Value, Hid (sgc ⟨((k + 1 : Nat) : Int), t⟩ = C) := ⟨_, hid rfl⟩
                      have hbs : ∀ W, buildSg2 (.int .i64 ((k : Int) + 1)) (.agg TC) W = .ok (.value (.agg G)) W := fun W => by rw [← HG.out, ← HTC.out]; exact buildSg2_eq ((k + 1 : Nat) : Int) t HTL.out W
                      have hsl : ∀ W, sliceSg (.agg G) W = .ok (.value (.slice (some ⟨W.heap.size, 0, none⟩) 1 1)) (W.alloc (.cells G 66)) := fun W => by rw [← HG.out]; exact sliceSg_eq ⟨((k + 1 : Nat) : Int), t⟩ HTL.out W
                      have HLS : Hid (∀ W, Below w.heap.size w W → loadH (.pointer (some ⟨g, og + j * 101 + 69, none⟩)) W = .ok (.value (.agg TC)) W) := hid (fun W h => by
                        have := (HE.out j hil W h).2.2
                        rw [HTT.out, HTC.out] at this
                        exact this)
                      have HSGK : Hid (∀ u ∈ [(⟨((k + 1 : Nat) : Int), t⟩ : SgM)], u.Ok) := hid (fun u hu => by obtain rfl := List.mem_singleton.1 hu; exact HTL.out)
                      clear hMj
                      go_upto_region 24 with (fail)
                      have hbd : Below w.heap.size w wr.drew := HST.out.bel.drew
                      have hbA : Below w.heap.size w (wr.alloc (.cells G 66)).drew := (HST.out.bel.alloc HST.out.bel.size _).drew
                      have hbB : Below wr.heap.size wr (wr.alloc (.cells G 66)).drew := ((Below.refl _ _).alloc (Nat.le_refl _) _).drew
                      have HST9 := hid (HST.out.below hbB)
                      have HOW9 := hid (HOW.out.below hbB)
                      have HEL9 : Hid (Els scl 33 (wr.alloc (.cells G 66)).drew (.slice (some ⟨wr.heap.size, 0, none⟩) 1 1) [(⟨((k + 1 : Nat) : Int), t⟩ : SgM)]) := hid ((els_one wr (⟨((k + 1 : Nat) : Int), t⟩ : SgM) G 66 HG.out).below ((Below.refl _ _).drew))
                      have HB9 : Hid (g2 + 1 ≤ (wr.alloc (.cells G 66)).drew.heap.size) := hid HST9.out.b1.lt
                      obtain ⟨c1, f1⟩ := HST.out.sigs HO2.out
                      obtain ⟨c9, f9⟩ := HST9.out.sigs HO2.out
                      refine wp_region_held_drew (S := fun W => loadH (.pointer (some ⟨g, og + j * 101 + 69, none⟩)) W = .ok (.value (.agg TC)) W) (by kernel_rfl) (HLS.out _ hbd) (fun hHeld => ?_)
                      refine' tk (i := 0) (v := _) rfl ?_ ?_
                      rotate_left
                      · (intro W hW; (try dsimp only at hW); go_simp; first | done | with_reducible rfl)
                      try simp only [lay]
                      refine' tk (i := 2) (v := _) rfl ?_ ?_
                      rotate_left
                      · (intro W hW; (try dsimp only at hW); go_simp; first | done | with_reducible rfl)
                      try simp only [lay]
                      refine' tk (i := 3) (v := _) rfl ?_ ?_
                      rotate_left
                      · (intro W hW; (try dsimp only at hW); go_simp; first | done | with_reducible rfl)
                      try simp only [lay]
                      refine' tk (i := 4) (v := _) rfl ?_ ?_
                      rotate_left
                      · (intro W hW; (try dsimp only at hW); go_simp; first | done | with_reducible rfl)
                      try simp only [lay]
                      refine' tk (i := 5) (v := _) rfl ?_ ?_
                      rotate_left
                      · (intro W hW; (try dsimp only at hW); go_simp; first | done | with_reducible rfl)
                      try simp only [lay]
                      refine' tk (i := 6) (v := _) rfl ?_ ?_
                      rotate_left
                      · (intro W hW; (try dsimp only at hW); go_simp; first | done | with_reducible rfl)
                      try simp only [lay]
                      refine' tk (i := 7) (v := _) rfl (fun W hW => hW) ?_
                      try simp only [lay]
                      refine' tk (i := 8) (v := _) rfl ?_ ?_
                      rotate_left
                      · (intro W hW; (try dsimp only at hW); go_simp; first | done | with_reducible rfl)
                      try simp only [lay]
                      refine pair_on (i := 1) (j := 9) rfl rfl (by kernel_rfl) (by rfl) (by rfl) (fun K hK => ?_) (fun K hK => ?_)
                      · go_simp
                        refine hK.out _ _ (HLS.out _ hbd) (fun hHeld => ?_)
                        clear hK K
                        try simp only [lay]
                        refine call_on (i := 9) rfl (by kernel_rfl) (by rfl) (fun K hK => ?_)
                        go_simp
                        refine hK.out _ _ (HLS.out _ hbA) (fun hHeld => ?_)
                        clear hK K
                        try simp only [lay]
                        refine call_on (i := 10) rfl (by kernel_rfl) (by rfl) (fun K hK => ?_)
                        refine eltSg.wp_append (.tmp 95) (.tmp 103) rfl rfl rfl HSGK.out (HOW9.out) (HEL9.out) (by have := HSN.out; have := HQL.out; have := HQ21.out; simp only [List.length_cons, List.length_nil]; omega) HB9.out ?_
                        intro v10 w10 ho10 hg10 hv10
                        have hs10 := HST9.out.app HOW9.out hg10
                        have hb10 := hs10.bel
                        obtain ⟨A9, n9, c9, rfl⟩ : ∃ A n c, v10 = .slice A n c := (by obtain ⟨A, c, e⟩ := ho10.shape; exact ⟨_, _, _, e⟩)
                        refine hK.out _ _ (HLS.out _ hb10) (fun hHeld => ?_)
                        clear hK K
                        try simp only [lay]
                        refine' tk (i := 11) (v := _) rfl ?_ ?_
                        rotate_left
                        · (intro W hW; (try dsimp only at hW); go_simp; first | done | with_reducible rfl)
                        try simp only [lay]
                        obtain ⟨c10, f10⟩ := hs10.sigs HO2.out
                        have hs11 := hs10.sig HO2.out (.slice A9 n9 c9)
                        have ho11 := ho10.set (g := g2) (by omega) 101 (.slice A9 n9 c9)
                        refine call_on (i := 12) rfl (by kernel_rfl) (by rfl) (fun K hK => ?_)
                        go_simp
                        refine hK.out _ _ (HLS.out _ hs11.bel) (fun hHeld => ?_)
                        clear hK K
                        try simp only [lay]
                        refine wpAnyH_done (by kernel_rfl) ?_ _
                        have HS11 := hid hs11
                        have HO11 := hid ho11
                        clear hs10 hb10 c10 f10 hs11 ho11 hg10 hv10 ho10
                        go_wp2_with fail
                        go_roundw
                        case rel =>
                          refine ⟨k + 1, .slice A9 n9 c9, by omega, by go_num, HS11.out, ?_⟩
                          rw [HFD.out]
                          exact HO11.out
                        case measure => simp [intOf]; omega
                      · go_simp
                        refine hK.out _ _ (HLS.out _ hbA) (fun hHeld => ?_)
                        clear hK K
                        try simp only [lay]
                        refine call_on (i := 1) rfl (by kernel_rfl) (by rfl) (fun K hK => ?_)
                        go_simp
                        refine hK.out _ _ (HLS.out _ hbA) (fun hHeld => ?_)
                        clear hK K
                        try simp only [lay]
                        refine call_on (i := 10) rfl (by kernel_rfl) (by rfl) (fun K hK => ?_)
                        refine eltSg.wp_append (.tmp 95) (.tmp 103) rfl rfl rfl HSGK.out (HOW9.out) (HEL9.out) (by have := HSN.out; have := HQL.out; have := HQ21.out; simp only [List.length_cons, List.length_nil]; omega) HB9.out ?_
                        intro v10 w10 ho10 hg10 hv10
                        have hs10 := HST9.out.app HOW9.out hg10
                        have hb10 := hs10.bel
                        obtain ⟨A9, n9, c9, rfl⟩ : ∃ A n c, v10 = .slice A n c := (by obtain ⟨A, c, e⟩ := ho10.shape; exact ⟨_, _, _, e⟩)
                        refine hK.out _ _ (HLS.out _ hb10) (fun hHeld => ?_)
                        clear hK K
                        try simp only [lay]
                        refine' tk (i := 11) (v := _) rfl ?_ ?_
                        rotate_left
                        · (intro W hW; (try dsimp only at hW); go_simp; first | done | with_reducible rfl)
                        try simp only [lay]
                        obtain ⟨c10, f10⟩ := hs10.sigs HO2.out
                        have hs11 := hs10.sig HO2.out (.slice A9 n9 c9)
                        have ho11 := ho10.set (g := g2) (by omega) 101 (.slice A9 n9 c9)
                        refine call_on (i := 12) rfl (by kernel_rfl) (by rfl) (fun K hK => ?_)
                        go_simp
                        refine hK.out _ _ (HLS.out _ hs11.bel) (fun hHeld => ?_)
                        clear hK K
                        try simp only [lay]
                        refine wpAnyH_done (by kernel_rfl) ?_ _
                        have HS11 := hid hs11
                        have HO11 := hid ho11
                        clear hs10 hb10 c10 f10 hs11 ho11 hg10 hv10 ho10
                        go_wp2_with fail
                        go_roundw
                        case rel =>
                          refine ⟨k + 1, .slice A9 n9 c9, by omega, by go_num, HS11.out, ?_⟩
                          rw [HFD.out]
                          exact HO11.out
                        case measure => simp [intOf]; omega
                    · have hbk1 : (bo == ((k + 1 : Nat) : Int)) = false := by simpa using hbk
                      have HNB : Hid (l[j].bo ≠ ((k + 1 : Nat) : Int)) := hid (by rw [HBO.out]; exact hbk)
                      clear hMj
                      go_wp2_with fail
                      go_round
                      case rel =>
                        refine ⟨j + 1, by omega, by go_num, hid (fun i h hi => ?_)⟩
                        by_cases hij : i < j
                        · exact HNO.out i h hij
                        · obtain rfl : i = j := by omega
                          exact HNB.out
                      case measure => simp [intOf]; omega
                  · have hJ : ¬ (j : Int) < (L : Int) := by omega
                    have HFD : Hid (sigsC l q (k + 1) = SL) := hid (by
                      rw [← HSL.out]
                      exact sigsC_lack (fun i h => HNO.out i h (by have := HL.out; omega)))
                    go_wp2_with fail
                    go_roundw
                    case rel =>
                      refine ⟨k + 1, .slice SA sn SC, by omega, by go_num, HST.out, ?_⟩
                      rw [HFD.out]
                      exact HOW.out
                    case measure => simp [intOf]; omega
              · have hlq1 : ¬ (sn : Int) < (q : Int) := by omega
                subst hnn
                have HFI : Hid (sigsC l (quoS (NN : Int)) (NN : Int).toNat = SL) := hid (by
                  rw [HQ.out, Int.toNat_natCast, ← HSL.out]
                  rw [sigsC_full (by rw [HSL.out, HSN.out]; exact hlq) NN hk])
                by_cases hfew : sn < q
                · exact absurd hfew hlq
                · have HM := hid (makeC_done HQN.out HCO.out HALL.out HAL2.out (by rw [HFI.out, HQ.out, HSN.out]; exact hfew))
                  obtain ⟨CC, HCC⟩ : ∃ C : Array Value, Hid (ctc ⟨a2, []⟩ (.slice SA sn SC) = C) := ⟨_, hid rfl⟩
                  have HC2S : Hid (CC.size = 102 ∧ CC.all (·.oneCell') = true) := hid (by
                    rw [← HCC.out]
                    refine ⟨ctc_size (c := ⟨a2, []⟩) _ HO2.out, ?_⟩
                    have := ctc_one (c := ⟨a2, SL⟩) (HOW.out.els eltSg HSG.out)
                    exact this)
                  have hld : loadCt (.pointer (some ⟨g2, 0, none⟩)) wr = .ok (.value (.agg CC)) wr := by
                    have h := HST.out.b1
                    unfold BoxC at h
                    rw [HCC.out] at h
                    exact loadCt_row h HC2S.out.1
                  have hz := HST.out.b0
                  unfold BoxC at hz
                  rw [HZ.out] at hz
                  have hsr := storeCt_eq hz HSZ.out HC2S.out.1 HC2S.out.2
                  have HSS := hid (setCt_same (C := CC) hz)
                  have HOW2 := hid (HOW.out.row (g := w.heap.size) (C := CC) (by have := HST.out.lt; omega))
                  have HBF := hid (setCt_below (C := CC) HST.out.bel (Nat.le_refl w.heap.size))
                  have hf2 : ¬ (sn : Int) < (q : Int) := by omega
                  clear hz
                  go_wp2_with fail
                  refine bodyPost_ret (results_cb rfl _ _ _ _ _ _ rfl rfl HSS.out HC2S.out.1) rfl ?_
                  rw [← HCC.out] at HOW2 HBF ⊢
                  rw [HFI.out, ← HAW.out] at HM
                  exact mkPostN_yes (c := ⟨a2, SL⟩) HM.out ⟨HO2.out, HSG.out⟩ (HOW2.out.more (by have := HST.out.lt; omega)) HBF.out
            · have hle1 : ¬ ((k + 1 : Nat) : Int) ≤ (NN : Int) := by omega
              subst hnn
              have HFI : Hid (sigsC l (quoS (NN : Int)) (NN : Int).toNat = SL) := hid (by
                rw [HQ.out, Int.toNat_natCast, ← HSL.out]
                rw [show NN = k from by omega])
              by_cases hfew : sn < q
              · have HM := hid (makeC_few HQN.out HCO.out HALL.out HAL2.out (by rw [HFI.out, HQ.out, HSN.out]; exact hfew))
                have HZ6 : Hid (wr.heap[w.heap.size]? = some (.cells Z 40 (0, 0))) := hid (by have := HST.out.b0; unfold BoxC at this; rw [HZ.out] at this; exact this)
                have hz6 := HZF.out wr HZ6.out
                have hf2 : (sn : Int) < (q : Int) := by omega
                go_wp2_with fail
                refine bodyPost_ret (results_cb rfl _ _ _ _ _ _ rfl rfl HZ6.out HSZ.out) rfl ?_
                rw [← HZ.out]
                exact mkPostN_no HM.out HST.out.bel
              · have HM := hid (makeC_done HQN.out HCO.out HALL.out HAL2.out (by rw [HFI.out, HQ.out, HSN.out]; exact hfew))
                obtain ⟨CC, HCC⟩ : ∃ C : Array Value, Hid (ctc ⟨a2, []⟩ (.slice SA sn SC) = C) := ⟨_, hid rfl⟩
                have HC2S : Hid (CC.size = 102 ∧ CC.all (·.oneCell') = true) := hid (by
                  rw [← HCC.out]
                  refine ⟨ctc_size (c := ⟨a2, []⟩) _ HO2.out, ?_⟩
                  have := ctc_one (c := ⟨a2, SL⟩) (HOW.out.els eltSg HSG.out)
                  exact this)
                have hld : loadCt (.pointer (some ⟨g2, 0, none⟩)) wr = .ok (.value (.agg CC)) wr := by
                  have h := HST.out.b1
                  unfold BoxC at h
                  rw [HCC.out] at h
                  exact loadCt_row h HC2S.out.1
                have hz := HST.out.b0
                unfold BoxC at hz
                rw [HZ.out] at hz
                have hsr := storeCt_eq hz HSZ.out HC2S.out.1 HC2S.out.2
                have HSS := hid (setCt_same (C := CC) hz)
                have HOW2 := hid (HOW.out.row (g := w.heap.size) (C := CC) (by have := HST.out.lt; omega))
                have HBF := hid (setCt_below (C := CC) HST.out.bel (Nat.le_refl w.heap.size))
                have hf2 : ¬ (sn : Int) < (q : Int) := by omega
                clear hz
                go_wp2_with fail
                refine bodyPost_ret (results_cb rfl _ _ _ _ _ _ rfl rfl HSS.out HC2S.out.1) rfl ?_
                rw [← HCC.out] at HOW2 HBF ⊢
                rw [HFI.out, ← HAW.out] at HM
                exact mkPostN_yes (c := ⟨a2, SL⟩) HM.out ⟨HO2.out, HSG.out⟩ (HOW2.out.more (by have := HST.out.lt; omega)) HBF.out
theorem refMake9_any (n : Int) (v : Value) (l : List AtM) (w : World) (hv : Els atl 101 w v l) (hok : ∀ a ∈ l, a.Ok) (hlen : l.length ≤ 1000) (hK : Kst 1 w) :
    Calls Tryz.prog 28 #[.int .i64 n, v] w (MkPost n l w) := (refMake9_new n v l w hv hok hlen hK).mono fun _ _ h => h.v
end Go.Proofs.YtpnejoglkmfleaaGreatDoor
namespace Go.Proofs.YtpnejoglkmfleaaGreatDoor
set_option maxRecDepth 20000
open Go.RowKit
attribute [local go_sem ↓] exec_load_att exec_load_sg
set_option maxHeartbeats 600000 in
theorem refSame9_any (va vb : Value) (a b : CtM) (w : World) (hva : CtV w va a) (hvb : CtV w vb b) :
    Calls Tryz.prog 11 #[va, vb] w fun e w' => e = .returned (.bool (decide (a = b))) ∧ Below w.heap.size w w' := by
  obtain ⟨sa, rfl, hoa, hta⟩ := hva
  obtain ⟨sb, rfl, hob, htb⟩ := hvb
  have hb0 : Below w.heap.size w ((w.alloc (.cells (ctc a sa) 40)).alloc (.cells (ctc b sb) 40)) := ((Below.refl _ _).alloc (Nat.le_refl _) _).alloc (by simp) _
  have hA : BoxC ((w.alloc (.cells (ctc a sa) 40)).alloc (.cells (ctc b sb) 40)) w.heap.size a sa := heap1 w _ _
  have hB : BoxC ((w.alloc (.cells (ctc a sa) 40)).alloc (.cells (ctc b sb) 40)) (w.heap.size + 1) b sb := heap2 w _ _
  have hta0 := hta.below hb0
  have htb0 := htb.below hb0
  obtain ⟨AA, ca, rfl⟩ := hta.shape
  obtain ⟨AB, cb, rfl⟩ := htb.shape
  obtain ⟨CA, HCA⟩ : ∃ C : Array Value, Hid (ctc a (.slice AA a.sg.length ca) = C) := ⟨_, hid rfl⟩
  obtain ⟨CB, HCB⟩ : ∃ C : Array Value, Hid (ctc b (.slice AB b.sg.length cb) = C) := ⟨_, hid rfl⟩
  rw [HCA.out, HCB.out] at hA hB hb0 hta0 htb0 ⊢
  obtain ⟨ans, HAN⟩ : ∃ q : Bool, Hid (decide (a = b) = q) := ⟨_, hid rfl⟩
  rw [HAN.out]
  go_enter Tryz.func11, Tryz.ntmps11
  go_upto_region 1 with (fail)
  generalize ((w.alloc (.cells CA 40)).alloc (.cells CB 40)) = w0 at *
  clear HCA HCB hta htb
  have a4 := hA.sigs hoa.att
  have b4 := hB.sigs hob.att
  have la := loadAtt_in hA.att hoa.att
  have lb := loadAtt_in hB.att hob.att
  have heq := fun W => eq_att a.att b.att hoa.att hob.att W
  obtain ⟨q, HQ⟩ : ∃ q : Bool, Hid (decide (a.att = b.att) = q) := ⟨_, hid rfl⟩
  rw [HQ.out] at heq
  obtain ⟨GA, HGA⟩ : ∃ C : Array Value, Hid (atc a.att = C) := ⟨_, hid rfl⟩
  obtain ⟨GB, HGB⟩ : ∃ C : Array Value, Hid (atc b.att = C) := ⟨_, hid rfl⟩
  rw [HGA.out] at la heq
  rw [HGB.out] at lb heq
  have a4d : ∀ n, (w0.drewN n).cell? ⟨w.heap.size, 101, none⟩ = some (.slice AA a.sg.length ca) := fun n => hA.sigs hoa.att
  have b4d : ∀ n, (w0.drewN n).cell? ⟨w.heap.size + 1, 101, none⟩ = some (.slice AB b.sg.length cb) := fun n => hB.sigs hob.att
  have HOA := hid hoa.sg
  have HOB := hid hob.sg
  clear hA hB hoa hob HGA HGB
  obtain ⟨LA, HLA⟩ : ∃ n : Nat, Hid (a.sg.length = n) := ⟨_, hid rfl⟩
  obtain ⟨LB, HLB⟩ : ∃ n : Nat, Hid (b.sg.length = n) := ⟨_, hid rfl⟩
  have hlena := hta0.len
  have hlenb := htb0.len
  rw [HLA.out] at a4 a4d hta0 hlena
  rw [HLB.out] at b4 b4d htb0 hlenb
  unfold maxLen at hlena hlenb
  obtain ⟨aa, sa⟩ := a
  obtain ⟨ab, sb⟩ := b
  simp only at HQ HLA HLB hta0 htb0 HOA HOB
  cases q with
  | false =>
    obtain rfl : ans = false := by
      rw [← HAN.out]
      exact decide_eq_false (fun e => by injection e with e _; exact of_decide_eq_false HQ.out e)
    clear a4d b4d
    go_wp2_with fail
    go_ret
    exact ⟨rfl, hb0⟩
  | true =>
    by_cases e4 : LA = LB
    · subst e4
      have t4 : ((LA : Int) != (LA : Int)) = false := by simp
      obtain ⟨_, hca1, hca2, hra⟩ := hta0.at_
      obtain ⟨_, hcb1, hcb2, hrb⟩ := htb0.at_
      rw [HLA.out] at hca1
      rw [HLB.out] at hcb1
      unfold maxLen at hca2 hcb2
      have HRA := hid hra
      have HRB := hid hrb
      have HA4 := hid a4d
      have HB4 := hid b4d
      clear hra hrb hta0 htb0 a4d b4d
      go_wp2_with fail
      clear t4 heq la lb a4 b4
      go_loopw [5] (fun si wr => ∃ i : Nat, i ≤ LA ∧ si = .int .i64 i ∧ Hid (∀ j (h : j < sa.length) (h2 : j < sb.length), j < i → sa[j] = sb[j]) ∧ ∃ n, wr = w0.drewN n) (fun si _ => LA - (intOf si).toNat)
      case atStart => exact ⟨0, Nat.zero_le _, rfl, hid (fun j _ _ h => absurd h (by omega)), 0, rfl⟩
      case round =>
        obtain ⟨i, hi, rfl, HBB, n, rfl⟩ := hrel
        have a4d := HA4.out
        have b4d := HB4.out
        by_cases hlt : i < LA
        · have hil : i < sa.length := by rw [HLA.out]; exact hlt
          have him : i < sb.length := by rw [HLB.out]; exact hlt
          obtain ⟨ba, oa', rfl, hba, hcla⟩ := HRA.out (by omega)
          obtain ⟨bb, ob', rfl, hbb, hclb⟩ := HRB.out (by omega)
          have l1 : ∀ k, loadSg (.pointer (some ⟨ba, oa' + i * 33, none⟩)) (w0.drewN k) = .ok (.value (.agg (sgc sa[i]))) (w0.drewN k) := fun k => loadSg_mid (hcla i hil) (HOA.out _ (List.getElem_mem hil))
          have l2 : ∀ k, loadSg (.pointer (some ⟨bb, ob' + i * 33, none⟩)) (w0.drewN k) = .ok (.value (.agg (sgc sb[i]))) (w0.drewN k) := fun k => loadSg_mid (hclb i him) (HOB.out _ (List.getElem_mem him))
          have hI : (i : Int) < (LA : Int) := by omega
          have eqt : ∀ W, (Op.equalIn 10000 66 (.agg (sgc sa[i])) (.agg (sgc sb[i]))).run Tryz.prog W = .ok (decide (sa[i] = sb[i])) W := fun W => eq_sg _ _ (HOA.out _ (List.getElem_mem hil)) (HOB.out _ (List.getElem_mem him)) W
          clear hcla hclb
          obtain ⟨X, HX⟩ : ∃ C : Array Value, Hid (sgc sa[i] = C) := ⟨_, hid rfl⟩
          obtain ⟨Y, HY⟩ : ∃ C : Array Value, Hid (sgc sb[i] = C) := ⟨_, hid rfl⟩
          rw [HX.out] at l1 eqt
          rw [HY.out] at l2 eqt
          by_cases hxy : sa[i] = sb[i]
          · rw [decide_eq_true hxy] at eqt
            go_wp2_with fail
            go_quiet (fail)
            go_wp2
            go_roundw
            case rel =>
              refine ⟨i + 1, by omega, by go_num, hid (fun j h h2 hj => ?_), _, rfl⟩
              by_cases hji : j < i
              · exact HBB.out j h h2 hji
              · obtain rfl : j = i := by omega
                exact hxy
            case measure => simp [intOf]; omega
          · rw [decide_eq_false hxy] at eqt
            go_wp2_with fail
            go_quiet (fail)
            go_wp2
            go_ret
            have e : ans = false := by
              rw [← HAN.out]
              exact decide_eq_false (fun e => by injection e with _ e; subst e; exact hxy rfl)
            subst e
            exact ⟨rfl, below_drewN (below_drewN hb0 _) _⟩
        · obtain rfl : i = LA := by omega
          go_wp2
          go_ret
          have e : ans = true := by
            rw [← HAN.out]
            refine decide_eq_true ?_
            have hp : aa = ab := of_decide_eq_true HQ.out
            have ht : sa = sb := List.ext_getElem (by rw [HLA.out, HLB.out]) fun j h h2 => HBB.out j h h2 (by have := HLA.out; omega)
            rw [hp, ht]
          subst e
          exact ⟨rfl, below_drewN hb0 n⟩
    · have t4 : ((LA : Int) != (LB : Int)) = true := by simp; omega
      obtain rfl : ans = false := by
        rw [← HAN.out]
        exact decide_eq_false (fun e => by injection e with _ e; rw [e] at HLA; exact e4 (HLA.out.symm.trans HLB.out))
      clear e4 a4d b4d hta0 htb0
      go_wp2_with fail
      go_ret
      exact ⟨rfl, hb0⟩
end Go.Proofs.YtpnejoglkmfleaaGreatDoor
namespace Go.Proofs.YtpnejoglkmfleaaGreatDoor
set_option maxRecDepth 20000
open Go.ChangeShapes Go.WideShapes Go.ChangeAt Go.RowKit Go.Deep
section
variable {H : Type} {enc : TypeId × Value → H} {w : World} {base : Nat} {spare : Nat → Bool} {held : Bool} {fuel : Nat} {cs : List Value} {x : DataW H × List MemPlace}
theorem trod_ats (h : DataW.trod enc Tryz.prog w base spare held fuel 22 cs = some x) : ∃ v L, cs = [v] ∧ Els atl 101 w v L ∧ ∀ a ∈ L, a.Ok :=
  eltAt.trod atZ atZ_ok (fun h => trod_at h) h
end
end Go.Proofs.YtpnejoglkmfleaaGreatDoor
namespace Go.Proofs.YtpnejoglkmfleaaGreatDoor
set_option maxRecDepth 20000
open Go.RowKit
def CtMakeOk : Prop := ∀ (n : Int) (v : Value) (l : List AtM) (w : World), (Lit.int .i64 n).wf = true → Els atl 101 w v l → (∀ a ∈ l, a.Ok) → l.length ≤ 1000 → Kst 0 w →
  Calls Tryz.prog 26 #[.int .i64 n, v] w fun e w' => ∃ x, e = .returned (.tuple #[x, .int .i64 (makeC n l).2]) ∧ CtV w' x (makeC n l).1 ∧ Below w.heap.size w w'
end Go.Proofs.YtpnejoglkmfleaaGreatDoor
namespace Go.Proofs.YtpnejoglkmfleaaGreatDoor
set_option maxRecDepth 20000
open Go.RowKit
attribute [local go_sem ↓] exec_load_att exec_alloc_att exec_store_att exec_load_hash
set_option maxHeartbeats 1600000 in
theorem ctWith_any (a : AtM) (s : SgM) (w : World) (ha : a.Ok) (hs : s.Ok) :
    Calls Tryz.prog 41 #[.agg (atc a), .agg (sgc s)] w fun e w' => e = .returned (.agg (atc (withC a s))) ∧ Below w.heap.size w w' := by
  obtain ⟨C, HC⟩ : ∃ C : Array Value, Hid (atc a = C) := ⟨_, hid rfl⟩
  obtain ⟨G, HG⟩ : ∃ C : Array Value, Hid (sgc s = C) := ⟨_, hid rfl⟩
  obtain ⟨D, HD⟩ : ∃ C : Array Value, Hid (atc (withC a s) = C) := ⟨_, hid rfl⟩
  obtain ⟨Z, HZ⟩ : ∃ C : Array Value, Hid (atc atZ = C) := ⟨_, hid rfl⟩
  have hal : ∀ W, allocAtt W = .ok (.value (.pointer (some ⟨W.heap.size, 0, none⟩))) (W.alloc (.cells Z 36)) := fun W => by rw [← HZ.out]; exact allocAtt_eq W
  have HZS : Hid (Z.size = 101) := hid (by rw [← HZ.out]; exact atc_size atZ_ok)
  have HDS : Hid (D.size = 101 ∧ D.all (·.oneCell') = true) := hid (by rw [← HD.out]; exact ⟨atc_size (withC_ok ha hs), atc_one _⟩)
  have hb0 : Below w.heap.size w (((w.alloc (.cells C 36)).alloc (.cells G 66)).alloc (.cells Z 36)) := (((Below.refl _ _).alloc (Nat.le_refl _) _).alloc (by simp) _).alloc (by simp; omega) _
  have hr0 : (((w.alloc (.cells C 36)).alloc (.cells G 66)).alloc (.cells Z 36)).heap[w.heap.size]? = some (.cells C 36 (0, 0)) := (Below.heap_alloc _ _ _ (by simp; omega)).trans (heap1 w _ _)
  have hr1 : (((w.alloc (.cells C 36)).alloc (.cells G 66)).alloc (.cells Z 36)).heap[w.heap.size + 1]? = some (.cells G 66 (0, 0)) := (Below.heap_alloc _ _ _ (by simp)).trans (heap2 w _ _)
  have hr2 : (((w.alloc (.cells C 36)).alloc (.cells G 66)).alloc (.cells Z 36)).heap[w.heap.size + 1 + 1]? = some (.cells Z 36 (0, 0)) := by
    have := heap2 (w.alloc (.cells C 36)) (.cells G 66) (.cells Z 36)
    rwa [show (w.alloc (.cells C 36)).heap.size = w.heap.size + 1 from by simp] at this
  obtain ⟨T, HT⟩ : ∃ C : Array Value, Hid (hcells s.tg = C) := ⟨_, hid rfl⟩
  have HSG : Hid (∀ W : World, W.heap[w.heap.size + 1]? = some (.cells G 66 (0, 0)) → W.cell? ⟨w.heap.size + 1, 0, none⟩ = some (.int .i64 s.bo) ∧ loadH (.pointer (some ⟨w.heap.size + 1, 1, none⟩)) W = .ok (.value (.agg T)) W) := hid (fun W h => by
    rw [← HG.out] at h
    have hr : W.rangeAt (w.heap.size + 1) 0 (scl s) := fun j u hu => by
      rw [Nat.zero_add, cell_blk h j]
      unfold sgc
      rw [List.getElem?_toArray]
      exact hu
    obtain ⟨h1, h2⟩ := sg_range hr
    rw [← HT.out]
    exact ⟨h1, loadH_mid h2 hs⟩)
  have HLD : Hid (∀ W : World, BoxA W w.heap.size { { a with bo := s.bo } with tg := s.tg } → loadAtt (.pointer (some ⟨w.heap.size, 0, none⟩)) W = .ok (.value (.agg D)) W) := hid (fun W h => by
    rw [← HD.out]
    exact loadAtt_eq h (withC_ok ha hs))
  have HOA : Hid ({ a with bo := s.bo } : AtM).Ok := hid ⟨ha.ha, ha.pa, ha.tg⟩
  have HS := hid hs
  rw [HD.out, HC.out, HG.out]
  go_enter Tryz.func41, Tryz.ntmps41
  go_upto_region 1 with (fail)
  generalize (((w.alloc (.cells C 36)).alloc (.cells G 66)).alloc (.cells Z 36)) = w0 at *
  have HA : Hid (BoxA w0 w.heap.size a) := hid (by unfold BoxA; rw [HC.out]; exact hr0)
  have hbd : Below w0.heap.size w0 w0.drew := (Below.refl _ _).drew
  have HB0 := hid hb0
  have HR1 := hid hr1
  have HR2 := hid hr2
  clear hr0 hr1 hr2 hb0 hal ha hs
  refine wp_region_held_drew (S := fun W => W.cell? ⟨w.heap.size + 1, 0, none⟩ = some (.int .i64 s.bo) ∧ loadH (.pointer (some ⟨w.heap.size + 1, 1, none⟩)) W = .ok (.value (.agg T)) W) (by kernel_rfl) (HSG.out _ ((hbd.block _ (lt_of_block HR1.out)).trans HR1.out)) (fun hHeld => ?_)
  refine' tk (i := 0) (v := _) rfl ?_ ?_
  rotate_left
  · (intro W hW; (try dsimp only at hW); go_simp; first | done | with_reducible rfl)
  try simp only [lay]
  refine' tk (i := 1) (v := _) rfl ?_ ?_
  rotate_left
  · (intro W hW; (try dsimp only at hW); obtain ⟨hW1, hW2⟩ := hW; go_simp; first | done | with_reducible rfl)
  try simp only [lay]
  refine' tk (i := 2) (v := _) rfl ?_ ?_
  rotate_left
  · (intro W hW; (try dsimp only at hW); go_simp; first | done | with_reducible rfl)
  try simp only [lay]
  refine' tk (i := 3) (v := _) rfl (fun W hW => hW.2) ?_
  try simp only [lay]
  refine' tk (i := 4) (v := _) rfl ?_ ?_
  rotate_left
  · (intro W hW; (try dsimp only at hW); go_simp; first | done | with_reducible rfl)
  try simp only [lay]
  have k1 := HA.out.free 0
  have k2 := HA.out.cells.1
  have hA2 : BoxA ((w0.setCell ⟨w.heap.size, 0, none⟩ (.int .i64 s.bo)).drew) w.heap.size { a with bo := s.bo } := by
    have := set_blk HA.out 0 (.int .i64 s.bo)
    rw [atc_by] at this
    exact this
  have hR12 : ((w0.setCell ⟨w.heap.size, 0, none⟩ (.int .i64 s.bo)).drew).heap[w.heap.size + 1]? = some (.cells G 66 (0, 0)) := blk_other HR1.out _ (by omega)
  have hR22 : ((w0.setCell ⟨w.heap.size, 0, none⟩ (.int .i64 s.bo)).drew).heap[w.heap.size + 1 + 1]? = some (.cells Z 36 (0, 0)) := blk_other HR2.out _ (by omega)
  have hb2 : Below w.heap.size w ((w0.setCell ⟨w.heap.size, 0, none⟩ (.int .i64 s.bo)).drew) := (HB0.out.setCell (Nat.le_refl _) _).drew
  refine call_on (i := 5) rfl (by kernel_rfl) (by rfl) (fun K hK => ?_)
  go_simp
  refine hK.out _ _ (HSG.out _ hR12) (fun hHeld => ?_)
  clear hK K
  try simp only [lay]
  clear k1 k2
  generalize ((w0.setCell ⟨w.heap.size, 0, none⟩ (.int .i64 s.bo)).drew) = w2 at *
  refine' tk (i := 6) (v := _) rfl ?_ ?_
  rotate_left
  · (intro W hW; (try dsimp only at hW); go_simp; first | done | with_reducible rfl)
  try simp only [lay]
  refine call_on (i := 7) rfl (by kernel_rfl) (by rfl) (fun K hK => ?_)
  refine wp_store_tag (h := s.tg) (a := { a with bo := s.bo }) _ _ rfl rfl (by rw [HT.out]; rfl) hA2 HOA.out HS.out ?_
  intro w3 hg3 hA3 hs3
  have hR13 := (hg3.block _ (lt_of_block hR12) (fun e => by injection e with e; omega)).trans hR12
  have hR23 := (hg3.block _ (lt_of_block hR22) (fun e => by injection e with e; omega)).trans hR22
  have hb3 : Below w.heap.size w w3 := below_into hb2 (Nat.le_refl _) hg3 hb2.size
  refine hK.out _ _ (HSG.out _ hR13) (fun hHeld => ?_)
  clear hK K
  try simp only [Act.put]
  refine wpAnyH_done (by kernel_rfl) ?_ _
  have l3 := HLD.out w3 hA3
  have hst := storeAtt_eq hR23 HZS.out HDS.out.1 HDS.out.2
  have HR23 := hid hR23
  have HB3 := hid hb3
  clear hHeld hR23 hR22 hR13 hR12 hb3 hb2
  go_wp2_with fail
  refine bodyPost_ret (results_cell_row rfl _ _ _ _ _ (0, 0) _ rfl (setAtt_same HR23.out) under_att rfl (by rw [size_att, HDS.out.1])) rfl ⟨rfl, ?_⟩
  exact setAtt_below HB3.out (by omega)
end Go.Proofs.YtpnejoglkmfleaaGreatDoor
