/-
  CertMeet: two certificates that are made for the same number of parts have a signer in common: the law's walk, from what cert's functions tell. Printed with gencmeet.py.
-/
import Derived.Test.YtnancafpecfcjaaDoorCtAwakeOk
import Derived.Test.YtnancafpecfcjaaDoorBs6
import Derived.LoopTactic
import Derived.Deep.QuietTactic
import Derived.BigQuiet
namespace Go.Proofs.YtnancafpecfcjaaDoor
set_option maxRecDepth 20000
open Go.RowKit
attribute [local go_sem ↓] exec_load_ct exec_alloc_ct exec_store_ct

theorem below_thru {a b c : World} (h : Below a.heap.size a b) (k : Below b.heap.size b c) : Below a.heap.size a c := h.trans (k.mono h.size)

set_option maxHeartbeats 6400000 in
theorem lawCertMeet_any (hM : CtMakeOk) (hG : CtSignersOk) (hA : CtAwakeOk) (n : Int) (v1 : Value) (l1 : List AtM) (v2 : Value) (l2 : List AtM) (w : World) (hn : (Lit.int .i64 n).wf = true) (hv1 : Els atl 101 w v1 l1) (ho1 : ∀ x ∈ l1, x.Ok) (hv2 : Els atl 101 w v2 l2) (ho2 : ∀ x ∈ l2, x.Ok) (hK : Kst 0 w) :
    Calls Tryd.prog 6 #[.int .i64 n, v1, v2] w fun e w' => e = .returned (.bool true) ∧ Below w.heap.size w w' := by
  have HA := hid (fun W (h : Below w.heap.size w W) => hA W (hK.below h))
  have HM1 : Hid (l1.length ≤ 1000 → ∀ W, Below w.heap.size w W → Calls Tryd.prog 8 #[.int .i64 n, v1] W fun e w' => ∃ x, e = .returned (.tuple #[x, .int .i64 (makeC n l1).2]) ∧ CtV w' x (makeC n l1).1 ∧ Below W.heap.size W w') := hid (fun h W hb => hM n v1 l1 W hn (hv1.below hb) ho1 h (hK.below hb))
  have HM2 : Hid (l2.length ≤ 1000 → ∀ W, Below w.heap.size w W → Calls Tryd.prog 8 #[.int .i64 n, v2] W fun e w' => ∃ x, e = .returned (.tuple #[x, .int .i64 (makeC n l2).2]) ∧ CtV w' x (makeC n l2).1 ∧ Below W.heap.size W w') := hid (fun h W hb => hM n v2 l2 W hn (hv2.below hb) ho2 h (hK.below hb))
  obtain ⟨A1, k1, rfl⟩ := hv1.shape
  obtain ⟨A2, k2, rfl⟩ := hv2.shape
  obtain ⟨L1, HL1⟩ : ∃ n : Nat, Hid (l1.length = n) := ⟨_, hid rfl⟩
  obtain ⟨L2, HL2⟩ : ∃ n : Nat, Hid (l2.length = n) := ⟨_, hid rfl⟩
  obtain ⟨Z, HZ⟩ : ∃ C : Array Value, Hid (ctc ctZ (.slice none 0 0) = C) := ⟨_, hid rfl⟩
  have HAL : Hid (∀ W, allocCt W = .ok (.value (.pointer (some ⟨W.heap.size, 0, none⟩))) (W.alloc (.cells Z 30))) := hid (fun W => by rw [← HZ.out]; exact allocCt_eq W)
  have HSZ : Hid (Z.size = 102) := hid (by rw [← HZ.out]; exact ctc_size _ atZ_ok)
  obtain ⟨e1, HE1⟩ : ∃ k : Int, Hid ((makeC n l1).2 = k) := ⟨_, hid rfl⟩
  obtain ⟨e2, HE2⟩ : ∃ k : Int, Hid ((makeC n l2).2 = k) := ⟨_, hid rfl⟩
  obtain ⟨c1, HC1⟩ : ∃ k : CtM, Hid ((makeC n l1).1 = k) := ⟨_, hid rfl⟩
  obtain ⟨c2, HC2⟩ : ∃ k : CtM, Hid ((makeC n l2).1 = k) := ⟨_, hid rfl⟩
  rw [HL1.out, HE1.out, HC1.out] at HM1
  rw [HL2.out, HE2.out, HC2.out] at HM2
  rw [HL1.out, HL2.out]
  clear hv1 hv2 ho1 ho2 hK hn
  go_enter Tryd.func6, Tryd.ntmps6
  by_cases h1 : 25 < L1
  · have i1 : (25 : Int) < (L1 : Int) := by omega
    go_wp2_with fail
    refine (HA.out w (Below.refl _ _)).mono ?_
    rintro e w1 ⟨rfl, hb1⟩
    go_wp2_with fail
    go_ret
    exact ⟨rfl, hb1⟩
  by_cases h2 : 25 < L2
  · have i1 : ¬ (25 : Int) < (L1 : Int) := by omega
    have i2 : (25 : Int) < (L2 : Int) := by omega
    go_wp2_with fail
    refine (HA.out w (Below.refl _ _)).mono ?_
    rintro e w1 ⟨rfl, hb1⟩
    go_wp2_with fail
    go_ret
    exact ⟨rfl, hb1⟩
  have i1 : ¬ (25 : Int) < (L1 : Int) := by omega
  have i2 : ¬ (25 : Int) < (L2 : Int) := by omega
  go_wp2_with fail
  refine (HM1.out (by omega) w (Below.refl _ _)).mono ?_
  rintro e w1 ⟨x1, rfl, hc1, hb1⟩
  obtain ⟨s1, rfl, hk1, hel1⟩ := hc1
  have HT1 := hid (ctc_one (c := c1) hel1)
  have HV1 : Hid (CtV w1 (.agg (ctc c1 s1)) c1) := hid ⟨_, rfl, hk1, hel1⟩
  have HZ1 := hid (ctc_size s1 hk1.att)
  obtain ⟨C1, HC1'⟩ : ∃ C : Array Value, Hid (ctc c1 s1 = C) := ⟨_, hid rfl⟩
  rw [HC1'.out] at HT1 HV1 HZ1 ⊢
  have hs1 := ct_var w1 HSZ.out HZ1.out HT1.out
  have hal := HAL.out
  have hr1 := heap_alloc_new w1 (.cells C1 30)
  have hbA : Below w1.heap.size w1 (w1.alloc (.cells C1 30)) := (Below.refl _ _).alloc (Nat.le_refl _) _
  have hb2 := hb1.trans (hbA.mono hb1.size)
  have HV2 := hid (HV1.out.below hbA)
  clear hk1 hel1
  go_upto_region 4 with (fail)
  generalize (w1.alloc (.cells C1 30)) = w2 at *
  clear hs1 hal hbA hb1
  go_wp2_with fail
  refine (HM2.out (by omega) w2 hb2).mono ?_
  rintro e w3 ⟨x2, rfl, hc2, hb3'⟩
  have hb3 := hb2.trans (hb3'.mono hb2.size)
  have hr3 := (hb3'.block _ (lt_of_block hr1)).trans hr1
  have HV3 := hid (HV2.out.below hb3')
  obtain ⟨s2, rfl, hk2, hel2⟩ := hc2
  have HT2 := hid (ctc_one (c := c2) hel2)
  have HU3 : Hid (CtV w3 (.agg (ctc c2 s2)) c2) := hid ⟨_, rfl, hk2, hel2⟩
  have HZ2 := hid (ctc_size s2 hk2.att)
  obtain ⟨C2, HC2'⟩ : ∃ C : Array Value, Hid (ctc c2 s2 = C) := ⟨_, hid rfl⟩
  rw [HC2'.out] at HT2 HU3 HZ2 ⊢
  have hs2 := ct_var w3 HSZ.out HZ2.out HT2.out
  have hal := HAL.out
  have hr4 := heap_alloc_new w3 (.cells C2 30)
  have hbA : Below w3.heap.size w3 (w3.alloc (.cells C2 30)) := (Below.refl _ _).alloc (Nat.le_refl _) _
  have hb4 := hb3.trans (hbA.mono hb3.size)
  have hr1' := (hbA.block _ (lt_of_block hr3)).trans hr3
  have HV4 := hid (HV3.out.below hbA)
  have HU4 := hid (HU3.out.below hbA)
  clear hk2 hel2 hr3 hr1
  go_upto_region 5 with (fail)
  generalize (w3.alloc (.cells C2 30)) = w4 at *
  clear hs2 hal hbA hb3 hb3' hb2
  by_cases he1 : ¬ e1 = 0
  · have j1 : (e1 != 0) = true := by simpa using he1
    go_wp2_with fail
    refine (HA.out w4 hb4).mono ?_
    rintro e w5 ⟨rfl, hb5⟩
    go_wp2_with fail
    go_ret
    exact ⟨rfl, hb4.trans (hb5.mono hb4.size)⟩
  have j1 : (e1 != 0) = false := by simpa using he1
  by_cases he2 : ¬ e2 = 0
  · have j2 : (e2 != 0) = true := by simpa using he2
    go_wp2_with fail
    refine (HA.out w4 hb4).mono ?_
    rintro e w5 ⟨rfl, hb5⟩
    go_wp2_with fail
    go_ret
    exact ⟨rfl, hb4.trans (hb5.mono hb4.size)⟩
  have j2 : (e2 != 0) = false := by simpa using he2
  have HME : Hid (∃ x, x ∈ c1.sg.map (·.bo) ∧ x ∈ c2.sg.map (·.bo)) := hid (by
    rw [← HC1.out, ← HC2.out]
    exact made_meet (by rw [HE1.out]; simpa using he1) (by rw [HE2.out]; simpa using he2))
  have HQ1 : Hid (c1.sg.length ≤ 1000 ∧ c2.sg.length ≤ 1000) := hid (by
    have K : ∀ l, (makeC n l).1.sg.length ≤ 1000 := fun l => made_len
    rw [← HC1.out, ← HC2.out]
    exact ⟨K _, K _⟩)
  have HG1 : Hid (∀ W, Below w4.heap.size w4 W → Calls Tryd.prog 12 #[.agg C1] W fun e w' => ∃ x, e = .returned x ∧ Els icl 1 w' x (c1.sg.map (·.bo)) ∧ Below W.heap.size W w') := hid (fun W h => hG _ c1 W (HV4.out.below h) HQ1.out.1)
  have HG2 : Hid (∀ W, Below w4.heap.size w4 W → Calls Tryd.prog 12 #[.agg C2] W fun e w' => ∃ x, e = .returned x ∧ Els icl 1 w' x (c2.sg.map (·.bo)) ∧ Below W.heap.size W w') := hid (fun W h => hG _ c2 W (HU4.out.below h) HQ1.out.2)
  have hl1 := lt_of_block hr1'
  have hl4 := lt_of_block hr4
  have HLD : Hid (∀ W, Below w4.heap.size w4 W → loadCt (.pointer (some ⟨w1.heap.size, 0, none⟩)) W = .ok (.value (.agg C1)) W ∧ loadCt (.pointer (some ⟨w3.heap.size, 0, none⟩)) W = .ok (.value (.agg C2)) W) := hid (fun W h => ⟨loadCt_row ((h.block _ hl1).trans hr1') HZ1.out, loadCt_row ((h.block _ hl4).trans hr4) HZ2.out⟩)
  have hbd : Below w4.heap.size w4 w4.drew := (Below.refl _ _).drew
  clear he1 he2 hr1' hr4 hl1 hl4
  go_upto_region 7 with (fail)
  clear j1 j2 i1 i2 h1 h2
  refine wp_region_held_drew (S := fun W => loadCt (.pointer (some ⟨w1.heap.size, 0, none⟩)) W = .ok (.value (.agg C1)) W ∧ loadCt (.pointer (some ⟨w3.heap.size, 0, none⟩)) W = .ok (.value (.agg C2)) W) (by kernel_rfl) (HLD.out _ hbd) (fun hHeld => ?_)
  refine' take_on (i := 0) (v := _) rfl (by kernel_rfl) (by kernel_rfl) (by kernel_rfl) (fun _ _ _ h => h) (by rfl) (fun W hW => hW.1) (by assumption) ?_
  try simp only [Act.put, List.setIfInBounds_toArray, List.set_cons_zero, List.set_cons_succ]
  refine' take_on (i := 2) (v := _) rfl (by kernel_rfl) (by kernel_rfl) (by kernel_rfl) (fun _ _ _ h => h) (by rfl) (fun W hW => hW.2) (by assumption) ?_
  try simp only [Act.put, List.setIfInBounds_toArray, List.set_cons_zero, List.set_cons_succ]
  refine call_on (i := 1) rfl (by kernel_rfl) (by rfl) (fun K hK => ?_)
  go_simp
  refine (HG1.out w4.drew hbd).mono ?_
  rintro e w5 ⟨x5, rfl, hx5, hb5'⟩
  have hb5 := hbd.trans hb5'
  refine hK.out _ _ (HLD.out _ hb5) (fun hHeld => ?_)
  clear hK K
  try simp only [Act.put, List.setIfInBounds_toArray, List.set_cons_zero, List.set_cons_succ]
  refine call_on (i := 3) rfl (by kernel_rfl) (by rfl) (fun K hK => ?_)
  go_simp
  refine (HG2.out w5 hb5).mono ?_
  rintro e w6 ⟨x6, rfl, hx6, hb6'⟩
  have hb6 := hb5.trans (hb6'.mono hb5.size)
  have hx5 := hx5.below hb6'
  refine hK.out _ _ (HLD.out _ hb6) (fun hHeld => ?_)
  clear hK K
  try simp only [Act.put, List.setIfInBounds_toArray, List.set_cons_zero, List.set_cons_succ]
  refine' take_on (i := 4) (v := _) rfl (by kernel_rfl) (by kernel_rfl) (by kernel_rfl) (fun _ _ _ h => h) (by rfl) ?_ (by assumption) ?_
  rotate_left
  · (intro W hW; (try dsimp only at hW); go_simp; first | done | with_reducible rfl)
  try simp only [Act.put, List.setIfInBounds_toArray, List.set_cons_zero, List.set_cons_succ]
  refine' take_on (i := 5) (v := _) rfl (by kernel_rfl) (by kernel_rfl) (by kernel_rfl) (fun _ _ _ h => h) (by rfl) ?_ (by assumption) ?_
  rotate_left
  · (intro W hW; (try dsimp only at hW); go_simp; first | done | with_reducible rfl)
  try simp only [Act.put, List.setIfInBounds_toArray, List.set_cons_zero, List.set_cons_succ]
  refine wpAnyH_done (by kernel_rfl) ?_ _
  have hB6 := hb4.trans (hb6.mono hb4.size)
  obtain ⟨X, HX⟩ : ∃ l : List Int, Hid (c1.sg.map (·.bo) = l) := ⟨_, hid rfl⟩
  obtain ⟨Y, HY⟩ : ∃ l : List Int, Hid (c2.sg.map (·.bo) = l) := ⟨_, hid rfl⟩
  rw [HX.out] at HME hx5
  rw [HY.out] at HME hx6
  obtain ⟨A5, k5, rfl⟩ := hx5.shape
  obtain ⟨A6, k6, rfl⟩ := hx6.shape
  obtain ⟨N1, HN1⟩ : ∃ n : Nat, Hid (X.length = n) := ⟨_, hid rfl⟩
  obtain ⟨N2, HN2⟩ : ∃ n : Nat, Hid (Y.length = n) := ⟨_, hid rfl⟩
  have hN1 : N1 ≤ 1000 := by rw [← HN1.out, ← HX.out, List.length_map]; exact HQ1.out.1
  have hN2 : N2 ≤ 1000 := by rw [← HN2.out, ← HY.out, List.length_map]; exact HQ1.out.2
  rw [HN1.out] at hx5 ⊢
  rw [HN2.out] at hx6 ⊢
  have HP5 := hid hx5
  have HP6 := hid hx6
  clear hHeld hx5 hx6 hb5 hb5' hb6 hb6' hbd HLD HG1 HG2
  go_wp2_with fail
  go_loopw [13] (fun si wr => ∃ i : Nat, i ≤ N1 ∧ si = .int .i64 i ∧ Hid (∀ a (h : a < X.length) b (h' : b < Y.length), a < i → X[a] ≠ Y[b]) ∧ Below w6.heap.size w6 wr) (fun si _ => N1 - (intOf si).toNat)
  case atStart => exact ⟨0, Nat.zero_le _, rfl, hid (fun a _ b _ h => absurd h (by omega)), Below.refl _ _⟩
  case round =>
    obtain ⟨i, hi, rfl, HNO, hbr⟩ := hrel
    by_cases hlt : i < N1
    · have hI : (i : Int) < (N1 : Int) := by omega
      have hix : i < X.length := by rw [HN1.out]; exact hlt
      obtain ⟨g1, o1, rfl, hg1, hcl1⟩ := HP5.out.at_.2.2.2 (by omega)
      have HCX : Hid (∀ W, Below w6.heap.size w6 W → W.cell? ⟨g1, o1 + i, none⟩ = some (.int .i64 X[i])) := hid (fun W h => by
        have := range_kept (hcl1 i hix) (h.block g1 hg1) 0 _ rfl
        rwa [Nat.mul_one, Nat.add_zero] at this)
      clear hcl1
      go_wp2_with fail
      go_loopw [14] (fun sk wr => ∃ k : Nat, k ≤ N2 ∧ sk = .int .i64 k ∧ Hid (∀ b (h' : b < Y.length), b < k → X[i] ≠ Y[b]) ∧ Below w6.heap.size w6 wr) (fun sk _ => N2 - (intOf sk).toNat)
      case atStart => exact ⟨0, Nat.zero_le _, rfl, hid (fun b _ h => absurd h (by omega)), hbr⟩
      case round =>
        obtain ⟨k, hk, rfl, HNB, hbq⟩ := hrel
        by_cases hlk : k < N2
        · have hKk : (k : Int) < (N2 : Int) := by omega
          have hky : k < Y.length := by rw [HN2.out]; exact hlk
          obtain ⟨g2, o2, rfl, hg2, hcl2⟩ := HP6.out.at_.2.2.2 (by omega)
          have c1' := HCX.out wr hbq
          have c2' : wr.cell? ⟨g2, o2 + k, none⟩ = some (.int .i64 Y[k]) := by
            have := range_kept (hcl2 k hky) (hbq.block g2 hg2) 0 _ rfl
            rwa [Nat.mul_one, Nat.add_zero] at this
          obtain ⟨x, HXI⟩ : ∃ x : Int, Hid (X[i] = x) := ⟨_, hid rfl⟩
          obtain ⟨y, HYK⟩ : ∃ x : Int, Hid (Y[k] = x) := ⟨_, hid rfl⟩
          rw [HXI.out] at c1'
          rw [HYK.out] at c2'
          clear hcl2
          by_cases hxy : x = y
          · have hd : (x == y) = true := by simpa using hxy
            go_upto_region 14 with (fail)
            go_quiet (fail)
            go_wp2_with fail
            refine (HA.out _ (hB6.trans ((below_drewN hbq _).mono hB6.size))).mono ?_
            rintro e w7 ⟨rfl, hb7⟩
            go_wp2_with fail
            go_ret
            exact ⟨rfl, below_thru (below_thru hB6 (below_drewN hbq _)) hb7⟩
          · have hd : (x == y) = false := by simpa using hxy
            have HNE : Hid (X[i] ≠ Y[k]) := hid (by rw [HXI.out, HYK.out]; exact hxy)
            go_upto_region 14 with (fail)
            go_quiet (fail)
            go_wp2_with fail
            go_roundw
            case rel =>
              refine ⟨k + 1, by omega, by go_num, hid (fun b h hb => ?_), below_drewN hbq _⟩
              by_cases hbk : b < k
              · exact HNB.out b h hbk
              · obtain rfl : b = k := by omega
                exact HNE.out
            case measure => simp [intOf]; omega
        · have hKk : ¬ (k : Int) < (N2 : Int) := by omega
          go_wp2_with fail
          go_roundw
          case rel =>
            refine ⟨i + 1, by omega, by go_num, hid (fun a h b h' ha => ?_), hbq⟩
            by_cases hai : a < i
            · exact HNO.out a h b h' hai
            · obtain rfl : a = i := by omega
              exact HNB.out b h' (by have := HN2.out; omega)
          case measure => simp [intOf]; omega
    · exfalso
      obtain ⟨z, hz1, hz2⟩ := HME.out
      obtain ⟨a, ha, rfl⟩ := List.getElem_of_mem hz1
      obtain ⟨b, hb, e⟩ := List.getElem_of_mem hz2
      exact HNO.out a ha b hb (by have := HN1.out; omega) e.symm
end Go.Proofs.YtnancafpecfcjaaDoor
