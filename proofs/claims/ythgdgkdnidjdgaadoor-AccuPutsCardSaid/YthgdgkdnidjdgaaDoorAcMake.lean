/-
  tithingref10.Make: the accumulation of attestations. Printed with genacmake.py.
-/
import Derived.Test.YthgdgkdnidjdgaaDoorAcMk
import Derived.Test.YthgdgkdnidjdgaaDoorAcTag
import Derived.Test.YthgdgkdnidjdgaaDoorBs6
import Derived.Test.YthgdgkdnidjdgaaDoorBs10
import Derived.LoopTactic
import Derived.Deep.QuietTactic
import Derived.BigQuiet
namespace Go.Proofs.YthgdgkdnidjdgaaDoor
set_option maxRecDepth 20000
open Go.RowKit
attribute [local go_sem ↓] exec_load_att exec_load_ax exec_alloc_ax exec_store_ax exec_build_ax exec_build_ax2 exec_load_hash

set_option maxHeartbeats 12800000 in
theorem refMake10_any (b n vi : Int) (v : Value) (l : List AtM) (w : World) (hv : Els atl 101 w v l) (hok : ∀ a ∈ l, a.Ok) (hlen : l.length ≤ 1000) (hK : Kst 1 w) :
    Calls Tryd.prog 8 #[.int .i64 b, .int .i64 n, .int .i64 vi, v] w (MxPost b n vi l w) := by
  obtain ⟨A, kk, rfl⟩ := hv.shape
  obtain ⟨L, HL⟩ : ∃ n : Nat, Hid (l.length = n) := ⟨_, hid rfl⟩
  obtain ⟨q, HQ⟩ : ∃ q : Nat, Hid (quoS n = q) := ⟨_, hid rfl⟩
  have HE := hid (fun hp => els_att hv hok hp)
  rw [HL.out] at hlen ⊢
  have HOK := hid hok
  have HKB := hid (fun W (h : Below w.heap.size w W) => (show Kst 1 W from hK.below h))
  have HQU : Hid (∀ W, Calls Tryd.prog 30 #[.int .i64 n] W fun e w' => e = .returned (.int .i64 (q : Int)) ∧ W = w') := hid (fun W => by
    have := refQuorum_any n W
    rw [HQ.out] at this
    exact this)
  have HRT : Hid (∀ a ∈ l, ∀ W, Below w.heap.size w W → Calls Tryd.prog 31 #[.agg (atc a)] W fun e w' => e = .returned (.bool (rightA a)) ∧ Below W.heap.size W w') := hid (fun a ha W h => refRight8_any a W (HOK.out a ha) (HKB.out W h))
  obtain ⟨Z, HZ⟩ : ∃ C : Array Value, Hid (axc acZ (.slice none 0 0) = C) := ⟨_, hid rfl⟩
  have hbz : ∀ W, buildAx W = .ok (.value (.agg Z)) W := fun W => by rw [← HZ.out]; exact buildAx_eq W
  have hal : ∀ W, allocAx W = .ok (.value (.pointer (some ⟨W.heap.size, 0, none⟩))) (W.alloc (.cells Z 30)) := fun W => by rw [← HZ.out]; exact allocAx_eq W
  have HSZ : Hid (Z.size = 68) := hid (by rw [← HZ.out]; exact axc_size _ acZ_ok)
  have HZ1 : Hid (Z.all (·.oneCell') = true) := hid (by rw [← HZ.out]; exact axc_one (w := w) (a := acZ) (Els.nil w))
  have hb0 : Below w.heap.size w (w.alloc (.cells Z 30)) := (Below.refl _ _).alloc (Nat.le_refl _) _
  have hr0 := heap_alloc_new w (.cells Z 30)
  have HZF : Hid (∀ W : World, W.heap[w.heap.size]? = some (.cells Z 30 (0, 0)) → storeAx (.pointer (some ⟨w.heap.size, 0, none⟩)) (.agg Z) W = .ok .skip W) := hid (fun W h => by rw [storeAx_eq h HSZ.out HSZ.out HZ1.out, setAx_self h])
  clear hv hok hK
  go_enter Tryd.func8, Tryd.ntmps8
  go_upto_region 1 with (fail)
  generalize (w.alloc (.cells Z 30)) = w0 at *
  have HR0 := hid hr0
  have HB0 := hid hb0
  have hz0 := HZF.out w0 hr0
  clear hr0 hb0
  go_wp2_with fail
  refine (HQU.out w0).mono ?_
  rintro e w1 ⟨rfl, rfl⟩
  by_cases hq : q = 0
  · subst hq
    have HM := hid (makeX_arg (l := l) (b := b) (n := n) (vi := vi) (.inl HQ.out))
    go_wp2_with fail
    refine bodyPost_ret (results_xb rfl _ _ _ _ _ _ rfl rfl HR0.out HSZ.out) rfl ?_
    rw [← HZ.out]
    exact mxPost_no HM.out HB0.out
  have hq1 : ((q : Int) == 0) = false := by simpa using hq
  by_cases h0 : b < 1
  · have HM := hid (makeX_arg (l := l) (b := b) (n := n) (vi := vi) (.inr (.inl h0)))
    go_wp2_with fail
    refine bodyPost_ret (results_xb rfl _ _ _ _ _ _ rfl rfl HR0.out HSZ.out) rfl ?_
    rw [← HZ.out]
    exact mxPost_no HM.out HB0.out
  by_cases h1 : n < b
  · have HM := hid (makeX_arg (l := l) (b := b) (n := n) (vi := vi) (.inr (.inr (.inl h1))))
    go_wp2_with fail
    refine bodyPost_ret (results_xb rfl _ _ _ _ _ _ rfl rfl HR0.out HSZ.out) rfl ?_
    rw [← HZ.out]
    exact mxPost_no HM.out HB0.out
  by_cases h2 : vi < 1
  · have HM := hid (makeX_arg (l := l) (b := b) (n := n) (vi := vi) (.inr (.inr (.inr (.inl h2)))))
    go_wp2_with fail
    refine bodyPost_ret (results_xb rfl _ _ _ _ _ _ rfl rfl HR0.out HSZ.out) rfl ?_
    rw [← HZ.out]
    exact mxPost_no HM.out HB0.out
  by_cases h3 : 1099511627776 < vi
  · have HM := hid (makeX_arg (l := l) (b := b) (n := n) (vi := vi) (.inr (.inr (.inr (.inr h3)))))
    go_wp2_with fail
    refine bodyPost_ret (results_xb rfl _ _ _ _ _ _ rfl rfl HR0.out HSZ.out) rfl ?_
    rw [← HZ.out]
    exact mxPost_no HM.out HB0.out
  have HNA : Hid (¬ (quoS n = 0 ∨ b < 1 ∨ n < b ∨ vi < 1 ∨ 1099511627776 < vi)) := hid (by rw [HQ.out]; omega)
  go_wp2_with fail
  clear hq1 h0 h1 h2 h3
  go_loopw [11] (fun si wr => ∃ i : Nat, i ≤ L ∧ si = .int .i64 i ∧ Hid (∀ j (h : j < l.length), j < i → goodX n vi l[j] = true) ∧ Below w0.heap.size w0 wr) (fun si _ => L - (intOf si).toNat)
  case atStart => exact ⟨0, Nat.zero_le _, rfl, hid (fun j _ h => absurd h (by omega)), Below.refl _ _⟩
  case round =>
    obtain ⟨i, hi, rfl, HD, hbr⟩ := hrel
    have HBR := hid (HB0.out.trans (hbr.mono HB0.out.size))
    have HRR := hid ((hbr.block _ (lt_of_block HR0.out)).trans HR0.out)
    by_cases hlt : i < L
    · have hil : i < l.length := by rw [HL.out]; exact hlt
      have hI : (i : Int) < (L : Int) := by omega
      have hM := List.getElem_mem hil
      obtain ⟨g, og, rfl, hE⟩ := HE.out (by omega)
      obtain ⟨X, HX⟩ : ∃ C : Array Value, Hid (atc l[i] = C) := ⟨_, hid rfl⟩
      obtain ⟨m, HMM⟩ : ∃ m : Bool, Hid (rightA l[i] = m) := ⟨_, hid rfl⟩
      obtain ⟨bo, HBO⟩ : ∃ b : Int, Hid (l[i].bo = b) := ⟨_, hid rfl⟩
      obtain ⟨ki, HKI⟩ : ∃ b : Int, Hid (l[i].ki = b) := ⟨_, hid rfl⟩
      obtain ⟨vj, HVJ⟩ : ∃ b : Int, Hid (l[i].vi = b) := ⟨_, hid rfl⟩
      have HR2 : Hid (∀ W, Below w.heap.size w W → Calls Tryd.prog 31 #[.agg X] W fun e w' => e = .returned (.bool m) ∧ Below W.heap.size W w') := hid (fun W h => by
        have := HRT.out _ hM W h
        rw [HX.out, HMM.out] at this
        exact this)
      have HEI := hid (hE i hil)
      have l1 := (HEI.out wr HBR.out).1
      rw [HX.out] at l1
      clear hM hE
      go_wp2_with fail
      refine (HR2.out wr HBR.out).mono ?_
      rintro e w2 ⟨rfl, hb2⟩
      have hbr2 := hbr.trans (hb2.mono hbr.size)
      have HB2 := hid (HB0.out.trans (hbr2.mono HB0.out.size))
      have HR2' := hid ((hb2.block _ (lt_of_block HRR.out)).trans HRR.out)
      have hz2 := HZF.out w2 HR2'.out
      have c0 := (HEI.out w2 HB2.out).2.1
      have c1 := (HEI.out w2 HB2.out).2.2.1
      have c2 := (HEI.out w2 HB2.out).2.2.2.1
      rw [HBO.out] at c0
      rw [HKI.out] at c1
      rw [HVJ.out] at c2
      clear l1
      have HGX : Hid (goodX n vi l[i] = (m && (decide (ki = 1) && (decide (vj = vi) && decide (bo ≤ n))))) := hid (by unfold goodX; rw [HMM.out, HBO.out, HKI.out, HVJ.out])
      cases m with
      | false =>
        have HM := hid (makeX_tag HNA.out (by
          rw [List.all_eq_false]
          exact ⟨_, List.getElem_mem hil, by rw [HGX.out]; simp⟩))
        go_wp2_with fail
        refine bodyPost_ret (results_xb rfl _ _ _ _ _ _ rfl rfl HR2'.out HSZ.out) rfl ?_
        rw [← HZ.out]
        exact mxPost_no HM.out HB2.out
      | true =>
        by_cases k1 : ¬ ki = 1
        · have t1 : (ki != 1) = true := by simpa using k1
          have HM := hid (makeX_tag HNA.out (by
            rw [List.all_eq_false]
            exact ⟨_, List.getElem_mem hil, by rw [HGX.out, decide_eq_false k1]; simp⟩))
          go_wp2_with fail
          refine bodyPost_ret (results_xb rfl _ _ _ _ _ _ rfl rfl HR2'.out HSZ.out) rfl ?_
          rw [← HZ.out]
          exact mxPost_no HM.out HB2.out
        have t1 : (ki != 1) = false := by simpa using k1
        by_cases k2 : ¬ vj = vi
        · have t2 : (vj != vi) = true := by simpa using k2
          have HM := hid (makeX_tag HNA.out (by
            rw [List.all_eq_false]
            exact ⟨_, List.getElem_mem hil, by rw [HGX.out, decide_eq_false k2]; simp⟩))
          go_wp2_with fail
          refine bodyPost_ret (results_xb rfl _ _ _ _ _ _ rfl rfl HR2'.out HSZ.out) rfl ?_
          rw [← HZ.out]
          exact mxPost_no HM.out HB2.out
        have t2 : (vj != vi) = false := by simpa using k2
        by_cases k3 : n < bo
        · have HM := hid (makeX_tag HNA.out (by
            rw [List.all_eq_false]
            exact ⟨_, List.getElem_mem hil, by rw [HGX.out, decide_eq_false (show ¬ bo ≤ n by omega)]; simp⟩))
          go_wp2_with fail
          refine bodyPost_ret (results_xb rfl _ _ _ _ _ _ rfl rfl HR2'.out HSZ.out) rfl ?_
          rw [← HZ.out]
          exact mxPost_no HM.out HB2.out
        have HT : Hid (goodX n vi l[i] = true) := hid (by rw [HGX.out, decide_eq_true (show ki = 1 by omega), decide_eq_true (show vj = vi by omega), decide_eq_true (show bo ≤ n by omega)]; rfl)
        clear hz2
        go_wp2_with fail
        go_roundw
        case rel =>
          refine ⟨i + 1, by omega, by go_num, hid (fun j h hj => ?_), hbr2⟩
          by_cases hji : j < i
          · exact HD.out j h hji
          · obtain rfl : j = i := by omega
            exact HT.out
        case measure => simp [intOf]; omega
    · have HIL := hid (show i = L by omega)
      have hI : ¬ (i : Int) < (L : Int) := by omega
      have HALL : Hid ((l.all (goodX n vi)) = true) := hid (by
        rw [List.all_eq_true]
        intro a ha
        obtain ⟨j, hj, rfl⟩ := List.getElem_of_mem ha
        exact HD.out j hj (by have := HL.out; have := HIL.out; omega))
      obtain ⟨Y0, HY0⟩ : ∃ C : Array Value, Hid (axc ⟨b, vi, 0, z32, [], z32⟩ (.slice none 0 0) = C) := ⟨_, hid rfl⟩
      have hbc : ∀ W, buildAx2 (.int .i64 b) (.int .i64 vi) W = .ok (.value (.agg Y0)) W := fun W => by rw [← HY0.out]; exact buildAx2_eq b vi W
      have hst : storeAx (.pointer (some ⟨wr.heap.size, 0, none⟩)) (.agg Y0) (wr.alloc (.cells Z 30)) = .ok .skip (wr.alloc (.cells Y0 30)) := by
        refine ax_var wr HSZ.out ?_ ?_
        · rw [← HY0.out]; exact axc_size _ ⟨rfl, rfl⟩
        · rw [← HY0.out]; exact axc_one (w := w) (a := ⟨b, vi, 0, z32, [], z32⟩) (Els.nil w)
      have hbA : Below wr.heap.size wr (wr.alloc (.cells Y0 30)) := (Below.refl _ _).alloc (Nat.le_refl _) _
      have HC2 : Hid (MkSx w (wr.alloc (.cells Y0 30)) wr.heap.size (bodyX b vi (frX l q 0)) (.slice none 0 0)) := hid (by
        refine ⟨HBR.out.trans (hbA.mono HBR.out.size), ?_, lt_of_block HRR.out, ?_⟩
        · unfold BoxX
          rw [HZ.out]
          exact (hbA.block _ (lt_of_block HRR.out)).trans HRR.out
        · unfold BoxX
          show _ = some (Obj.cells (axc ⟨b, vi, 0, z32, [], z32⟩ (.slice none 0 0)) _ _)
          rw [HY0.out]
          exact heap_alloc_new wr _)
      have hiL := HIL.out
      clear HD hlt hbA
      go_upto_region 10 with (fail)
      generalize (wr.alloc (.cells Y0 30)) = w3 at *
      obtain ⟨g2, HG2⟩ : ∃ g2 : Nat, Hid (wr.heap.size = g2) := ⟨_, hid rfl⟩
      rw [HG2.out] at HC2 ⊢
      clear hbc hst hal
      obtain ⟨NN, hN1, hN21, HNN⟩ : ∃ k : Nat, 1 ≤ k ∧ k ≤ 21 ∧ Hid (n = (k : Int)) := by
        have h0 : quoS n ≠ 0 := fun e => HNA.out (.inl e)
        have := quoS_top h0
        exact ⟨n.toNat, by omega, by omega, hid (by omega)⟩
      have hnn := HNN.out
      have HQ21 : Hid (q ≤ 21) := hid (by
        rw [← HQ.out]
        unfold quoS
        split <;> omega)
      have HPA := hid (fun k => frX_pa (l := l) (q := q) HOK.out k)
      go_wp2_with fail
      go_loopw [13] (fun si wr => ∃ (k : Nat) (s : Value), k ≤ NN ∧ si = .int .i64 ((k + 1 : Nat) : Int) ∧ MkSx w wr g2 (bodyX b vi (frX l q k)) s ∧ OwnE icl 1 3 (g2 + 1) wr s (frX l q k).1) (fun si _ => NN + 1 - (intOf si).toNat)
      case atStart => exact ⟨0, _, Nat.zero_le _, rfl, HC2.out, OwnE.nil _ _⟩
      case round =>
        obtain ⟨k, s, hk, rfl, hst, how⟩ := hrel
        obtain ⟨SL, HSL⟩ : ∃ x : List Int, Hid ((frX l q k).1 = x) := ⟨_, hid rfl⟩
        obtain ⟨pv, HPV⟩ : ∃ x : Int, Hid ((frX l q k).2.1 = x) := ⟨_, hid rfl⟩
        have HQL : Hid (SL.length ≤ q) := hid (by rw [← HSL.out]; exact frX_len l q k)
        have HBK : Hid ((bodyX b vi (frX l q k)).Ok) := hid ⟨HPA.out k, rfl⟩
        rw [HSL.out] at how
        obtain ⟨SA, SC, rfl⟩ := how.shape
        obtain ⟨sn, HSN⟩ : ∃ x : Nat, Hid (SL.length = x) := ⟨_, hid rfl⟩
        rw [HSN.out] at hst how
        have HST := hid hst
        have HOW := hid how
        obtain ⟨c1, c2, f1⟩ := HST.out.fr HBK.out
        rw [show (bodyX b vi (frX l q k)).pv = pv from HPV.out] at c2
        clear hst how
        by_cases hle : k + 1 ≤ NN
        · have hle1 : ((k + 1 : Nat) : Int) ≤ (NN : Int) := by omega
          by_cases hlq : sn < q
          · have hlq1 : (sn : Int) < (q : Int) := by omega
            subst hnn
            go_wp2_with fail
            clear c1 c2 f1
            go_loop [14] (fun si => ∃ j : Nat, j ≤ L ∧ si = .int .i64 j ∧ Hid (∀ i (h : i < l.length), i < j → l[i].bo ≠ ((k + 1 : Nat) : Int))) (fun si => L - (intOf si).toNat)
            case atStart => exact ⟨0, Nat.zero_le _, rfl, hid (fun j _ h => absurd h (by omega))⟩
            case round =>
              obtain ⟨j, hj, rfl, HNO⟩ := hrel
              by_cases hjl : j < L
              · have hil : j < l.length := by rw [HL.out]; exact hjl
                have hJ : (j : Int) < (L : Int) := by omega
                obtain ⟨g, og, rfl, hE⟩ := HE.out (by omega)
                have HEJ := hid (hE j hil)
                have HMJ := hid (List.getElem_mem hil)
                obtain ⟨bo, HBO⟩ : ∃ b : Int, Hid (l[j].bo = b) := ⟨_, hid rfl⟩
                have d0 := (HEJ.out wr HST.out.bel).2.1
                rw [HBO.out] at d0
                clear hE
                by_cases hbk : bo = ((k + 1 : Nat) : Int)
                · have hbk1 : (bo == ((k + 1 : Nat) : Int)) = true := by simpa using hbk
                  have hbk2 : (bo == (k : Int) + 1) = true := by simpa using hbk
                  obtain ⟨pj, HPJ⟩ : ∃ b : Int, Hid (l[j].pv = b) := ⟨_, hid rfl⟩
                  obtain ⟨pa, HPB⟩ : ∃ b : List UInt8, Hid (l[j].pa = b) := ⟨_, hid rfl⟩
                  have HPL : Hid (pa.length = 32) := hid (by rw [← HPB.out]; exact (HOK.out _ HMJ.out).pa)
                  go_upto_region 17 with (fail)
                  clear d0 hbk1 hbk2
                  obtain ⟨c1, c2, f1⟩ := HST.out.fr HBK.out
                  rw [show (bodyX b vi (frX l q k)).pv = pv from HPV.out] at c2
                  have d3 := (HEJ.out wr HST.out.bel).2.2.2.2.1
                  rw [HPJ.out] at d3
                  by_cases hs0 : sn = 0
                  · have hsb : ((sn : Int) == 0) = true := by simp; omega
                    have HUP : Hid (SL = [] ∨ pv < pj) := hid (.inl (List.eq_nil_of_length_eq_zero (by rw [HSN.out]; exact hs0)))
                    clear hs0
                    have HFD : Hid (frX l q (k + 1) = (SL ++ [((k + 1 : Nat) : Int)], pj, pa)) := hid (by
                      rw [frX_found (by rw [HSL.out, HSN.out]; exact hlq) hil (by rw [HBO.out]; exact hbk) (fun i h hi => HNO.out i h hi), if_pos (by rw [HSL.out, HPV.out, HPJ.out]; exact HUP.out), HSL.out, HPJ.out, HPB.out])
                    go_quiet (fail)
                    clear c1 c2 f1 d3 hsb
                    have HS6 := hid (HST.out.below (below_drewN (Below.refl wr.heap.size wr) nq))
                    have HO6 := hid (HOW.out.below (below_drewN (Below.refl wr.heap.size wr) nq))
                    generalize hw6 : wr.drewN nq = w6 at *
                    have e2 := (HS6.out.fr HBK.out).2.1
                    have f1 := (HS6.out.fr HBK.out).2.2
                    rw [show (bodyX b vi (frX l q k)).pv = pv from HPV.out] at e2
                    have d3 := (HEJ.out w6 HS6.out.bel).2.2.2.2.1
                    rw [HPJ.out] at d3
                    have HS7 : Hid (MkSx w (w6.setCell ⟨g2, 2, none⟩ (.int .i64 pj)) g2 { bodyX b vi (frX l q k) with pv := pj } (.slice SA sn SC)) := hid (HS6.out.cell 2 (axc_pv _ _ _))
                    have HO7 := hid (HO6.out.set (g := g2) (Nat.lt_succ_self g2) 2 (.int .i64 pj))
                    go_upto_region 19 with (fail)
                    clear e2 f1 d3
                    generalize (w6.setCell ⟨g2, 2, none⟩ (.int .i64 pj)) = w7 at *
                    have d6 := (HEJ.out w7 HS7.out.bel).2.2.2.2.2
                    rw [HPB.out] at d6
                    have HBK7 : Hid (({ bodyX b vi (frX l q k) with pv := pj } : AcM).Ok) := hid ⟨HPA.out k, rfl⟩
                    have HB8 : Hid ((bodyX b vi (frX l q (k + 1))).Ok) := hid ⟨HPA.out (k + 1), rfl⟩
                    obtain ⟨PC, HPC⟩ : ∃ C : Array Value, Hid (hcells pa = C) := ⟨_, hid rfl⟩
                    rw [HPC.out] at d6
                    go_upto_region 20 with (refine wpList_store_xpa rfl _ _ rfl rfl (by rw [HPC.out]; rfl) HS7.out.b1 HBK7.out HPL.out ?_; intro w8 hg8 hC8 hs8)
                    have HS8 : Hid (MkSx w w8 g2 (bodyX b vi (frX l q (k + 1))) (.slice SA sn SC)) := hid (HS7.out.att hg8 (by rw [HFD.out]; exact hC8))
                    have HO8 := hid (HO7.out.far hg8 (Nat.lt_succ_self g2))
                    clear hg8 hC8 hs8 d6 HS7 HO7
                    have e1 := (HS8.out.fr HB8.out).1
                    have f4 := (HS8.out.fr HB8.out).2.2
                    go_wp2_with (at_builtin; go_loud (refine eltIc.wpList_append (x := .slice (some ⟨w8.heap.size, 0, none⟩) 1 1) (m := [((k + 1 : Nat) : Int)]) rfl (.tmp 131) (.tmp 133) rfl rfl rfl (fun _ _ => trivial) (HO8.out.alloc _) (els_one w8 ((k + 1 : Nat) : Int) _ 3 rfl) (by have := HSN.out; have := HQL.out; have := HQ21.out; simp only [List.length_cons, List.length_nil]; omega) (Nat.le_trans HS8.out.b1.lt (al_le _ _)) ?_; intro v10 w10 ho10 hg10 hv10; have HS10 := hid ((HS8.out.below ((Below.refl _ _).alloc (Nat.le_refl _) _)).app (HO8.out.alloc _) hg10); have e2 := (HS10.out.fr HB8.out).1; have f5 := (HS10.out.fr HB8.out).2.2; obtain ⟨A9, n9, c9, rfl⟩ : ∃ A n c, v10 = .slice A n c := (by obtain ⟨A, c, e⟩ := ho10.shape; exact ⟨_, _, _, e⟩); clear hg10 hv10))
                    go_roundw
                    case rel =>
                      refine ⟨k + 1, .slice A9 n9 c9, by omega, by go_num, ?_, ?_⟩
                      · exact HS10.out.cell (t := .slice A9 n9 c9) 35 (axc_fr _ _ _ HB8.out)
                      · rw [HFD.out]
                        show OwnE icl 1 _ _ _ _ (SL ++ [((k + 1 : Nat) : Int)])
                        exact ho10.set (g := g2) (Nat.lt_succ_self g2) 35 _
                    case measure => simp [intOf]; omega
                  have hsb : ((sn : Int) == 0) = false := by simp; omega
                  by_cases hpj : pv < pj
                  · have HUP : Hid (SL = [] ∨ pv < pj) := hid (.inr hpj)
                    have HFD : Hid (frX l q (k + 1) = (SL ++ [((k + 1 : Nat) : Int)], pj, pa)) := hid (by
                      rw [frX_found (by rw [HSL.out, HSN.out]; exact hlq) hil (by rw [HBO.out]; exact hbk) (fun i h hi => HNO.out i h hi), if_pos (by rw [HSL.out, HPV.out, HPJ.out]; exact HUP.out), HSL.out, HPJ.out, HPB.out])
                    go_quiet (fail)
                    clear c1 c2 f1 d3 hsb
                    have HS6 := hid (HST.out.below (below_drewN (Below.refl wr.heap.size wr) nq))
                    have HO6 := hid (HOW.out.below (below_drewN (Below.refl wr.heap.size wr) nq))
                    generalize hw6 : wr.drewN nq = w6 at *
                    have e2 := (HS6.out.fr HBK.out).2.1
                    have f1 := (HS6.out.fr HBK.out).2.2
                    rw [show (bodyX b vi (frX l q k)).pv = pv from HPV.out] at e2
                    have d3 := (HEJ.out w6 HS6.out.bel).2.2.2.2.1
                    rw [HPJ.out] at d3
                    have HS7 : Hid (MkSx w (w6.setCell ⟨g2, 2, none⟩ (.int .i64 pj)) g2 { bodyX b vi (frX l q k) with pv := pj } (.slice SA sn SC)) := hid (HS6.out.cell 2 (axc_pv _ _ _))
                    have HO7 := hid (HO6.out.set (g := g2) (Nat.lt_succ_self g2) 2 (.int .i64 pj))
                    go_upto_region 19 with (fail)
                    clear e2 f1 d3
                    generalize (w6.setCell ⟨g2, 2, none⟩ (.int .i64 pj)) = w7 at *
                    have d6 := (HEJ.out w7 HS7.out.bel).2.2.2.2.2
                    rw [HPB.out] at d6
                    have HBK7 : Hid (({ bodyX b vi (frX l q k) with pv := pj } : AcM).Ok) := hid ⟨HPA.out k, rfl⟩
                    have HB8 : Hid ((bodyX b vi (frX l q (k + 1))).Ok) := hid ⟨HPA.out (k + 1), rfl⟩
                    obtain ⟨PC, HPC⟩ : ∃ C : Array Value, Hid (hcells pa = C) := ⟨_, hid rfl⟩
                    rw [HPC.out] at d6
                    go_upto_region 20 with (refine wpList_store_xpa rfl _ _ rfl rfl (by rw [HPC.out]; rfl) HS7.out.b1 HBK7.out HPL.out ?_; intro w8 hg8 hC8 hs8)
                    have HS8 : Hid (MkSx w w8 g2 (bodyX b vi (frX l q (k + 1))) (.slice SA sn SC)) := hid (HS7.out.att hg8 (by rw [HFD.out]; exact hC8))
                    have HO8 := hid (HO7.out.far hg8 (Nat.lt_succ_self g2))
                    clear hg8 hC8 hs8 d6 HS7 HO7
                    have e1 := (HS8.out.fr HB8.out).1
                    have f4 := (HS8.out.fr HB8.out).2.2
                    go_wp2_with (at_builtin; go_loud (refine eltIc.wpList_append (x := .slice (some ⟨w8.heap.size, 0, none⟩) 1 1) (m := [((k + 1 : Nat) : Int)]) rfl (.tmp 131) (.tmp 133) rfl rfl rfl (fun _ _ => trivial) (HO8.out.alloc _) (els_one w8 ((k + 1 : Nat) : Int) _ 3 rfl) (by have := HSN.out; have := HQL.out; have := HQ21.out; simp only [List.length_cons, List.length_nil]; omega) (Nat.le_trans HS8.out.b1.lt (al_le _ _)) ?_; intro v10 w10 ho10 hg10 hv10; have HS10 := hid ((HS8.out.below ((Below.refl _ _).alloc (Nat.le_refl _) _)).app (HO8.out.alloc _) hg10); have e2 := (HS10.out.fr HB8.out).1; have f5 := (HS10.out.fr HB8.out).2.2; obtain ⟨A9, n9, c9, rfl⟩ : ∃ A n c, v10 = .slice A n c := (by obtain ⟨A, c, e⟩ := ho10.shape; exact ⟨_, _, _, e⟩); clear hg10 hv10))
                    go_roundw
                    case rel =>
                      refine ⟨k + 1, .slice A9 n9 c9, by omega, by go_num, ?_, ?_⟩
                      · exact HS10.out.cell (t := .slice A9 n9 c9) 35 (axc_fr _ _ _ HB8.out)
                      · rw [HFD.out]
                        show OwnE icl 1 _ _ _ _ (SL ++ [((k + 1 : Nat) : Int)])
                        exact ho10.set (g := g2) (Nat.lt_succ_self g2) 35 _
                    case measure => simp [intOf]; omega
                  have HUP : Hid (¬ (SL = [] ∨ pv < pj)) := hid (fun h => by
                    rcases h with h | h
                    · rw [h] at HSN; exact hs0 HSN.out.symm
                    · exact hpj h)
                  have HFD : Hid (frX l q (k + 1) = (SL ++ [((k + 1 : Nat) : Int)], (frX l q k).2)) := hid (by
                    rw [frX_found (by rw [HSL.out, HSN.out]; exact hlq) hil (by rw [HBO.out]; exact hbk) (fun i h hi => HNO.out i h hi), if_neg (by rw [HSL.out, HPV.out, HPJ.out]; exact HUP.out), HSL.out])
                  have HB8 : Hid ((bodyX b vi (frX l q (k + 1))).Ok) := hid ⟨HPA.out (k + 1), rfl⟩
                  go_quiet (fail)
                  clear c1 c2 f1 d3 hsb
                  have HS8 : Hid (MkSx w (wr.drewN nq) g2 (bodyX b vi (frX l q (k + 1))) (.slice SA sn SC)) := hid (by rw [HFD.out]; exact MkSx.refr (HST.out.below (below_drewN (Below.refl wr.heap.size wr) nq)) (SL ++ [((k + 1 : Nat) : Int)]))
                  have HO8 := hid (HOW.out.below (below_drewN (Below.refl wr.heap.size wr) nq))
                  go_upto_region 20 with (fail)
                  generalize hw6 : wr.drewN nq = w8 at *
                  have e1 := (HS8.out.fr HB8.out).1
                  have f4 := (HS8.out.fr HB8.out).2.2
                  go_wp2_with (at_builtin; go_loud (refine eltIc.wpList_append (x := .slice (some ⟨w8.heap.size, 0, none⟩) 1 1) (m := [((k + 1 : Nat) : Int)]) rfl (.tmp 131) (.tmp 133) rfl rfl rfl (fun _ _ => trivial) (HO8.out.alloc _) (els_one w8 ((k + 1 : Nat) : Int) _ 3 rfl) (by have := HSN.out; have := HQL.out; have := HQ21.out; simp only [List.length_cons, List.length_nil]; omega) (Nat.le_trans HS8.out.b1.lt (al_le _ _)) ?_; intro v10 w10 ho10 hg10 hv10; have HS10 := hid ((HS8.out.below ((Below.refl _ _).alloc (Nat.le_refl _) _)).app (HO8.out.alloc _) hg10); have e2 := (HS10.out.fr HB8.out).1; have f5 := (HS10.out.fr HB8.out).2.2; obtain ⟨A9, n9, c9, rfl⟩ : ∃ A n c, v10 = .slice A n c := (by obtain ⟨A, c, e⟩ := ho10.shape; exact ⟨_, _, _, e⟩); clear hg10 hv10))
                  go_roundw
                  case rel =>
                    refine ⟨k + 1, .slice A9 n9 c9, by omega, by go_num, ?_, ?_⟩
                    · exact HS10.out.cell (t := .slice A9 n9 c9) 35 (axc_fr _ _ _ HB8.out)
                    · rw [HFD.out]
                      show OwnE icl 1 _ _ _ _ (SL ++ [((k + 1 : Nat) : Int)])
                      exact ho10.set (g := g2) (Nat.lt_succ_self g2) 35 _
                  case measure => simp [intOf]; omega
                · have hbk1 : (bo == ((k + 1 : Nat) : Int)) = false := by simpa using hbk
                  have hbk2 : (bo == (k : Int) + 1) = false := by simpa using hbk
                  have HNB : Hid (l[j].bo ≠ ((k + 1 : Nat) : Int)) := hid (by rw [HBO.out]; exact hbk)
                  go_wp2_with fail
                  go_round
                  case rel =>
                    refine ⟨j + 1, by omega, by go_num, hid (fun i h hi => ?_)⟩
                    by_cases hij : i < j
                    · exact HNO.out i h hij
                    · obtain rfl : i = j := by omega
                      exact HNB.out
                  case measure => simp [intOf]; omega
              · have hJ : ¬ (j : Int) < (L : Int) := by omega
                have HFD : Hid (frX l q (k + 1) = frX l q k) := hid (frX_lack (fun i h => HNO.out i h (by have := HL.out; omega)))
                go_wp2_with fail
                go_roundw
                case rel =>
                  refine ⟨k + 1, .slice SA sn SC, by omega, by go_num, ?_, ?_⟩
                  · rw [HFD.out]
                    exact HST.out
                  · rw [HFD.out, HSL.out]
                    exact HOW.out
                case measure => simp [intOf]; omega
          · have hlq1 : ¬ (sn : Int) < (q : Int) := by omega
            subst hnn
            have HFI : Hid (frX l (quoS (NN : Int)) (NN : Int).toNat = frX l q k) := hid (by
              rw [HQ.out, Int.toNat_natCast]
              rw [frX_full (by rw [HSL.out, HSN.out]; exact hlq) NN hk])
            by_cases hfew : sn < q
            · exact absurd hfew hlq
            · have hnf : ¬ (frX l (quoS (NN : Int)) (NN : Int).toNat).1.length < quoS (NN : Int) := by rw [HFI.out, HQ.out, HSL.out, HSN.out]; exact hfew
              have HM := hid (makeX_done HNA.out HALL.out hnf)
              have HMY := hid (frX_may HNA.out HALL.out hnf)
              rw [HFI.out] at HM HMY
              obtain ⟨a2, HA2⟩ : ∃ a : AcM, Hid (bodyX b vi (frX l q k) = a) := ⟨_, hid rfl⟩
              have HFR : Hid (a2.fr = SL) := hid (by rw [← HA2.out]; exact HSL.out)
              rw [HA2.out] at HM HMY HST HBK
              obtain ⟨CC, HCC⟩ : ∃ C : Array Value, Hid (axc a2 (.slice SA sn SC) = C) := ⟨_, hid rfl⟩
              have HCS : Hid (CC.size = 68) := hid (by rw [← HCC.out]; exact axc_size _ HBK.out)
              have hld : loadAx (.pointer (some ⟨g2, 0, none⟩)) wr = .ok (.value (.agg CC)) wr := by
                have h := HST.out.b1
                unfold BoxX at h
                rw [HCC.out] at h
                exact loadAx_row h HCS.out
              have HTG : Hid (Calls Tryd.prog 32 #[.agg CC] wr fun e w' => e = .returned (.agg (hcells (tagX a2))) ∧ Below wr.heap.size wr w') := hid (refTag10_any (.agg CC) a2 wr ⟨_, by rw [HCC.out], HBK.out, by rw [HFR.out]; exact HOW.out.els eltIc (fun _ _ => trivial)⟩ HMY.out (HKB.out wr HST.out.bel))
              have hf2 : ¬ (sn : Int) < (q : Int) := by omega
              clear hnf c2
              go_wp2_with fail
              refine HTG.out.mono ?_
              rintro e w6 ⟨rfl, hb6⟩
              have HS6 := hid (HST.out.below hb6)
              have HO6 := hid (HOW.out.below hb6)
              clear hld hb6 c1 f1
              obtain ⟨TT, HTT⟩ : ∃ C : Array Value, Hid (hcells (tagX a2) = C) := ⟨_, hid rfl⟩
              obtain ⟨a3, HA3⟩ : ∃ a : AcM, Hid ({ a2 with tg := tagX a2 } = a) := ⟨_, hid rfl⟩
              have HF3 : Hid (a3.fr = SL) := hid (by rw [← HA3.out]; exact HFR.out)
              have HB3 : Hid a3.Ok := hid (by rw [← HA3.out]; exact ⟨HBK.out.pa, tagX_len _⟩)
              go_upto_region 24 with (refine wpList_store_xtg rfl _ _ rfl rfl (by rw [HTT.out]; rfl) HS6.out.b1 HBK.out (tagX_len a2) ?_; intro w7 hg7 hC7 hs7)
              have HS7 : Hid (MkSx w w7 g2 a3 (.slice SA sn SC)) := hid (HS6.out.att hg7 (by rw [← HA3.out]; exact hC7))
              have HO7 := hid (HO6.out.far hg7 (Nat.lt_succ_self g2))
              clear hg7 hC7 hs7
              obtain ⟨CD, HCD⟩ : ∃ C : Array Value, Hid (axc a3 (.slice SA sn SC) = C) := ⟨_, hid rfl⟩
              have HC2S : Hid (CD.size = 68 ∧ CD.all (·.oneCell') = true) := hid (by
                rw [← HCD.out]
                exact ⟨axc_size _ HB3.out, axc_one (w := w7) (a := a3) (by rw [HF3.out]; exact HO7.out.els eltIc (fun _ _ => trivial))⟩)
              have hld : loadAx (.pointer (some ⟨g2, 0, none⟩)) w7 = .ok (.value (.agg CD)) w7 := by
                have h := HS7.out.b1
                unfold BoxX at h
                rw [HCD.out] at h
                exact loadAx_row h HC2S.out.1
              have hz := HS7.out.b0
              unfold BoxX at hz
              rw [HZ.out] at hz
              have hsr := storeAx_eq hz HSZ.out HC2S.out.1 HC2S.out.2
              have HSS := hid (setAx_same (C := CD) hz)
              have HOW2 := hid (HO7.out.row (g := w.heap.size) (C := CD) (by have := HS7.out.lt; omega))
              have HBF := hid (setAx_below (C := CD) HS7.out.bel (Nat.le_refl w.heap.size))
              clear hz
              go_wp2_with fail
              refine bodyPost_ret (results_xb rfl _ _ _ _ _ _ rfl rfl HSS.out HC2S.out.1) rfl ?_
              rw [← HCD.out] at HOW2 HBF ⊢
              rw [HA3.out] at HM
              exact mxPost_yes HM.out HB3.out (by rw [HF3.out]; exact HOW2.out.els eltIc (fun _ _ => trivial)) HBF.out
        · have hle1 : ¬ ((k + 1 : Nat) : Int) ≤ (NN : Int) := by omega
          subst hnn
          have HFI : Hid (frX l (quoS (NN : Int)) (NN : Int).toNat = frX l q k) := hid (by
            rw [HQ.out, Int.toNat_natCast]
            rw [show NN = k from by omega])
          by_cases hfew : sn < q
          · have HM := hid (makeX_few HNA.out HALL.out (by rw [HFI.out, HQ.out, HSL.out, HSN.out]; exact hfew))
            have HZ6 : Hid (wr.heap[w.heap.size]? = some (.cells Z 30 (0, 0))) := hid (by have := HST.out.b0; unfold BoxX at this; rw [HZ.out] at this; exact this)
            have hz6 := HZF.out wr HZ6.out
            have hf2 : (sn : Int) < (q : Int) := by omega
            go_wp2_with fail
            refine bodyPost_ret (results_xb rfl _ _ _ _ _ _ rfl rfl HZ6.out HSZ.out) rfl ?_
            rw [← HZ.out]
            exact mxPost_no HM.out HST.out.bel
          · have hnf : ¬ (frX l (quoS (NN : Int)) (NN : Int).toNat).1.length < quoS (NN : Int) := by rw [HFI.out, HQ.out, HSL.out, HSN.out]; exact hfew
            have HM := hid (makeX_done HNA.out HALL.out hnf)
            have HMY := hid (frX_may HNA.out HALL.out hnf)
            rw [HFI.out] at HM HMY
            obtain ⟨a2, HA2⟩ : ∃ a : AcM, Hid (bodyX b vi (frX l q k) = a) := ⟨_, hid rfl⟩
            have HFR : Hid (a2.fr = SL) := hid (by rw [← HA2.out]; exact HSL.out)
            rw [HA2.out] at HM HMY HST HBK
            obtain ⟨CC, HCC⟩ : ∃ C : Array Value, Hid (axc a2 (.slice SA sn SC) = C) := ⟨_, hid rfl⟩
            have HCS : Hid (CC.size = 68) := hid (by rw [← HCC.out]; exact axc_size _ HBK.out)
            have hld : loadAx (.pointer (some ⟨g2, 0, none⟩)) wr = .ok (.value (.agg CC)) wr := by
              have h := HST.out.b1
              unfold BoxX at h
              rw [HCC.out] at h
              exact loadAx_row h HCS.out
            have HTG : Hid (Calls Tryd.prog 32 #[.agg CC] wr fun e w' => e = .returned (.agg (hcells (tagX a2))) ∧ Below wr.heap.size wr w') := hid (refTag10_any (.agg CC) a2 wr ⟨_, by rw [HCC.out], HBK.out, by rw [HFR.out]; exact HOW.out.els eltIc (fun _ _ => trivial)⟩ HMY.out (HKB.out wr HST.out.bel))
            have hf2 : ¬ (sn : Int) < (q : Int) := by omega
            clear hnf c2
            go_wp2_with fail
            refine HTG.out.mono ?_
            rintro e w6 ⟨rfl, hb6⟩
            have HS6 := hid (HST.out.below hb6)
            have HO6 := hid (HOW.out.below hb6)
            clear hld hb6 c1 f1
            obtain ⟨TT, HTT⟩ : ∃ C : Array Value, Hid (hcells (tagX a2) = C) := ⟨_, hid rfl⟩
            obtain ⟨a3, HA3⟩ : ∃ a : AcM, Hid ({ a2 with tg := tagX a2 } = a) := ⟨_, hid rfl⟩
            have HF3 : Hid (a3.fr = SL) := hid (by rw [← HA3.out]; exact HFR.out)
            have HB3 : Hid a3.Ok := hid (by rw [← HA3.out]; exact ⟨HBK.out.pa, tagX_len _⟩)
            go_upto_region 24 with (refine wpList_store_xtg rfl _ _ rfl rfl (by rw [HTT.out]; rfl) HS6.out.b1 HBK.out (tagX_len a2) ?_; intro w7 hg7 hC7 hs7)
            have HS7 : Hid (MkSx w w7 g2 a3 (.slice SA sn SC)) := hid (HS6.out.att hg7 (by rw [← HA3.out]; exact hC7))
            have HO7 := hid (HO6.out.far hg7 (Nat.lt_succ_self g2))
            clear hg7 hC7 hs7
            obtain ⟨CD, HCD⟩ : ∃ C : Array Value, Hid (axc a3 (.slice SA sn SC) = C) := ⟨_, hid rfl⟩
            have HC2S : Hid (CD.size = 68 ∧ CD.all (·.oneCell') = true) := hid (by
              rw [← HCD.out]
              exact ⟨axc_size _ HB3.out, axc_one (w := w7) (a := a3) (by rw [HF3.out]; exact HO7.out.els eltIc (fun _ _ => trivial))⟩)
            have hld : loadAx (.pointer (some ⟨g2, 0, none⟩)) w7 = .ok (.value (.agg CD)) w7 := by
              have h := HS7.out.b1
              unfold BoxX at h
              rw [HCD.out] at h
              exact loadAx_row h HC2S.out.1
            have hz := HS7.out.b0
            unfold BoxX at hz
            rw [HZ.out] at hz
            have hsr := storeAx_eq hz HSZ.out HC2S.out.1 HC2S.out.2
            have HSS := hid (setAx_same (C := CD) hz)
            have HOW2 := hid (HO7.out.row (g := w.heap.size) (C := CD) (by have := HS7.out.lt; omega))
            have HBF := hid (setAx_below (C := CD) HS7.out.bel (Nat.le_refl w.heap.size))
            clear hz
            go_wp2_with fail
            refine bodyPost_ret (results_xb rfl _ _ _ _ _ _ rfl rfl HSS.out HC2S.out.1) rfl ?_
            rw [← HCD.out] at HOW2 HBF ⊢
            rw [HA3.out] at HM
            exact mxPost_yes HM.out HB3.out (by rw [HF3.out]; exact HOW2.out.els eltIc (fun _ _ => trivial)) HBF.out
end Go.Proofs.YthgdgkdnidjdgaaDoor
