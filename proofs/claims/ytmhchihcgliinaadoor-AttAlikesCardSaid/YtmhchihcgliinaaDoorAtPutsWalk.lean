/-
  AttPuts: any attestation's bytes behind any, and that it is read, whatever stands behind: the law's walk, from what att's functions tell.
-/
import Derived.Test.YtmhchihcgliinaaDoorAtAwake
import Derived.Test.YtmhchihcgliinaaDoorAtBytes
import Derived.Test.YtmhchihcgliinaaDoorBs2
namespace Go.Proofs.YtmhchihcgliinaaDoor
set_option maxRecDepth 20000
open Go.RowKit
attribute [local go_sem ↓] exec_load_att exec_alloc_att exec_store_att

set_option maxHeartbeats 6400000 in
theorem lawAttPuts_any (hP : AtPutOk) (hD : AtReadOk) (hA : ∀ w, Kst 0 w → Calls Tryd.prog 6 #[] w fun e w' => e = .returned (.bool true) ∧ Below w.heap.size w w')
    (a : AtM) (v1 : Value) (l1 : List UInt8) (v2 : Value) (l2 : List UInt8) (w : World) (ha : a.Ok) (hv1 : Byt w v1 l1) (hv2 : Byt w v2 l2) (hK : Kst 0 w) :
    Calls Tryd.prog 3 #[.agg (atc a), v1, v2] w fun e w' => e = .returned (.bool true) ∧ Below w.heap.size w w' := by
  have HA : Hid (∀ W, Below w.heap.size w W → Calls Tryd.prog 6 #[] W fun e w' => e = .returned (.bool true) ∧ Below W.heap.size W w') := hid (fun W h => hA W (hK.below h))
  have hm1 := hv1.len
  have hm2 := hv2.len
  unfold maxLen at hm1 hm2
  obtain ⟨A1, c1, rfl⟩ := hv1.shape
  obtain ⟨A2, c2, rfl⟩ := hv2.shape
  obtain ⟨L1, HL1⟩ : ∃ n : Nat, Hid (l1.length = n) := ⟨_, hid rfl⟩
  obtain ⟨L2, HL2⟩ : ∃ n : Nat, Hid (l2.length = n) := ⟨_, hid rfl⟩
  rw [HL1.out] at hv1 hm1 ⊢
  rw [HL2.out] at hv2 hm2 ⊢
  have HV1 := hid (fun W (h : Below w.heap.size w W) => hv1.below h)
  have HV2 := hid (fun W (h : Below w.heap.size w W) => hv2.below h)
  obtain ⟨m, HM⟩ : ∃ m : Bool, Hid (mayA a = m) := ⟨_, hid rfl⟩
  obtain ⟨P, HPA⟩ : ∃ P : List UInt8, Hid (putA l1 a = P) := ⟨_, hid rfl⟩
  have HPT : Hid (∀ v W, Byt W v l1 → l1.length ≤ 1000000 → Calls Tryd.prog 7 #[v, .agg (atc a)] W fun e w' => ∃ x, e = .returned x ∧ Byt w' x P ∧ Below W.heap.size W w') := hid (fun v W h hl => by
    have := hP v l1 a W h hl ha
    rw [HPA.out] at this
    exact this)
  have HMA : Hid (∀ W, Calls Tryd.prog 8 #[.agg (atc a)] W fun e w' => e = .returned (.bool m) ∧ Below W.heap.size W w') := hid (fun W => by
    have := refMay8_any a W ha
    rw [HM.out] at this
    exact this)
  obtain ⟨O, HO⟩ : ∃ O : List UInt8, Hid (bytesA a = O) := ⟨_, hid rfl⟩
  have HBY : Hid (m = true → ∀ W, Calls Tryd.prog 10 #[.agg (atc a)] W fun e w' => ∃ x, e = .returned x ∧ Own W.heap.size w' x O ∧ Below W.heap.size W w') := hid (fun hm W => by
    have := refBytes8_any a W ha (HM.out.trans hm)
    rw [HO.out] at this
    exact this)
  have HOL : Hid (m = true → O.length ≤ 150) := hid (fun hm => by rw [← HO.out]; exact bytesA_len ha (HM.out.trans hm))
  have HRD : Hid (m = true → ∀ g W, Rdr W g (O ++ l2) 0 true → (O ++ l2).length ≤ 1000000 → Calls Tryd.prog 12 #[.pointer (some ⟨g, 0, none⟩)] W fun e w' => e = .returned (.tuple #[.agg (atc a), .bool true]) ∧ Rdr w' g (O ++ l2) O.length true ∧ W.grownBy w' (some g)) := hid (fun hm g W h hl => by
    obtain ⟨i1, i2, i3⟩ := atIs_back (L := O ++ l2) (r := l2) (p := 0) ha (HM.out.trans hm) (by rw [HO.out, List.drop_zero])
    rw [HO.out, Nat.zero_add] at i3
    refine (hD g (O ++ l2) 0 true W h hl).mono ?_
    rintro e w' ⟨rfl, ⟨p', r', hr, hpr⟩, hg⟩
    rw [i1, i2]
    obtain ⟨e1, e2⟩ := hpr i1
    rw [e1, e2, i3] at hr
    exact ⟨rfl, hr, hg⟩)
  have HPM : Hid (m = true → P = l1 ++ O) := hid (fun hm => by rw [← HPA.out, ← HO.out]; unfold putA; rw [if_pos (HM.out.trans hm)])
  have HPN : Hid (m = false → P = l1) := hid (fun hm => by rw [← HPA.out]; unfold putA; rw [if_neg (by rw [HM.out, hm]; decide)])
  have HEQ : Hid (∀ W, (Op.equalIn 10000 25 (.agg (atc a)) (.agg (atc a))).run Tryd.prog W = .ok true W) := hid (fun W => by
    have := eq_att a a ha ha W
    rw [decide_eq_true rfl] at this
    exact this)
  obtain ⟨S, HS⟩ : ∃ C : Array Value, Hid (atc a = C) := ⟨_, hid rfl⟩
  obtain ⟨Z, HZ⟩ : ∃ C : Array Value, Hid (atc atZ = C) := ⟨_, hid rfl⟩
  have HAL : Hid (∀ W, allocAtt W = .ok (.value (.pointer (some ⟨W.heap.size, 0, none⟩))) (W.alloc (.cells Z 25))) := hid (fun W => by rw [← HZ.out]; exact allocAtt_eq W)
  have HZS : Hid (Z.size = 101) := hid (by rw [← HZ.out]; exact atc_size atZ_ok)
  have HSS : Hid (S.size = 101) := hid (by rw [← HS.out]; exact atc_size ha)
  have HS1 : Hid (S.all (·.oneCell') = true) := hid (by rw [← HS.out]; exact atc_one _)
  rw [HS.out] at HPT HMA HBY HRD HEQ
  rw [HS.out]
  have hr0 := heap_alloc_new w (.cells S 25)
  have hb0 : Below w.heap.size w (w.alloc (.cells S 25)) := (Below.refl _ _).alloc (Nat.le_refl _) _
  clear hP hD hA ha hv1 hv2 hK
  go_enter Tryd.func3, Tryd.ntmps3
  go_upto_region 1 with (fail)
  generalize (w.alloc (.cells S 25)) = w0 at *
  have hl0 := lt_of_block hr0
  have HLD : Hid (∀ W, Below w0.heap.size w0 W → loadAtt (.pointer (some ⟨w.heap.size, 0, none⟩)) W = .ok (.value (.agg S)) W) := hid (fun W h => loadAtt_row ((h.block _ hl0).trans hr0) HSS.out)
  clear hr0 hl0
  by_cases h1 : L1 ≤ 200
  · by_cases h2 : L2 ≤ 200
    · have i1 : ¬ (200 : Int) < (L1 : Int) := by omega
      have i2 : ¬ (200 : Int) < (L2 : Int) := by omega
      have HI1 := hid h1
      have HI2 := hid h2
      have la := HLD.out w0 (Below.refl _ _)
      clear h1 h2
      go_wp2_with fail
      refine (HPT.out _ w0 (HV1.out w0 hb0) (by rw [HL1.out]; have := HI1.out; omega)).mono ?_
      rintro e w1 ⟨x1, rfl, hx1, hb1⟩
      have hB1 := hb0.trans (hb1.mono hb0.size)
      obtain ⟨A3, c3, rfl⟩ := hx1.shape
      have la1 := HLD.out w1 hb1
      clear la i1 i2
      go_wp2_with fail
      refine (HMA.out w1).mono ?_
      rintro e w2 ⟨rfl, hb2'⟩
      have hB2 := hB1.trans (hb2'.mono hB1.size)
      have hb2 := hb1.trans (hb2'.mono hb1.size)
      have hx2 := hx1.below hb2'
      clear la1 hx1 hb2' hb1 hB1
      cases m with
      | false =>
        obtain rfl := HPN.out rfl
        go_wp2_with fail
        refine (same_yes _ _ P w2 hx2 (HV1.out _ hB2)).mono ?_
        rintro e w3 ⟨rfl, k3, rfl⟩
        have hB3 := below_drewN hB2 k3
        go_wp2_with fail
        refine (HA.out _ hB3).mono ?_
        rintro e w4 ⟨rfl, hb4⟩
        go_wp2_with fail
        go_ret
        exact ⟨rfl, hB3.trans (hb4.mono hB3.size)⟩
      | true =>
        have HBY2 := hid (HBY.out rfl)
        have HOL2 := hid (HOL.out rfl)
        have HRD2 := hid (HRD.out rfl)
        have HPM2 := hid (HPM.out rfl)
        have la2 := HLD.out w2 hb2
        go_wp2_with fail
        refine (HBY2.out w2).mono ?_
        rintro e w5 ⟨x5, rfl, ho5, hb5'⟩
        have hB5 := hB2.trans (hb5'.mono hB2.size)
        have hb5 := hb2.trans (hb5'.mono hb2.size)
        have hx5 := ho5.byt
        have hp5 := hx2.below hb5'
        obtain ⟨A5, c5, rfl⟩ := hx5.shape
        obtain ⟨n, HN⟩ : ∃ n : Nat, Hid (O.length = n) := ⟨_, hid rfl⟩
        have HN150 : Hid (n ≤ 150) := hid (by rw [← HN.out]; exact HOL2.out)
        rw [HN.out] at hx5 ⊢
        have HX5 := hid (fun W (h : Below w5.heap.size w5 W) => hx5.below h)
        have HP5 := hid (fun W (h : Below w5.heap.size w5 W) => hp5.below h)
        have hl6 : ([] : List UInt8).length + O.length ≤ 140737488355328 := by rw [HN.out]; have := HN150.out; simp only [List.length_nil]; omega
        have hl7 : O.length + l2.length ≤ 140737488355328 := by rw [HN.out, HL2.out]; have := HN150.out; have := HI2.out; omega
        clear la2 hx2 hb5' hb2 hB2 ho5 hx5 hp5
        go_wp2_with (first
          | (at_builtin; refine wpList_append_byt rfl (.tmp 35) (.tmp 36) rfl rfl rfl (fresh0_own w5) (HX5.out _ ((Below.refl _ _).alloc (Nat.le_refl _) _)) hl6 (al_le w5 _) ?_; intro v6 w6 ho6 hg6 hv6; simp only [List.nil_append] at ho6; have hb6 := fresh0_below hg6; clear hg6 hv6)
          | (at_builtin; refine wpList_append_byt rfl (.tmp 37) (.tmp 38) rfl rfl rfl ho6 (HV2.out _ (hB5.trans (hb6.mono hB5.size))) hl7 hb6.size ?_; intro v7 w7 ho7 hg7 hv7; have hb7 := hb6.grown hg7 hb6.size (fun q hq => (World.ownsRow.lt ho6 q hq).1); clear hg7 hv7))
        refine (read_any v7 (O ++ l2) w7 ho7.byt (by rw [List.length_append, HN.out, HL2.out]; have := HN150.out; have := HI2.out; omega)).mono ?_
        rintro e w8 ⟨g, rfl, hgl, hrd, hb8'⟩
        have hb8 := hb7.trans (hb8'.mono hb7.size)
        clear ho6 hb6 ho7 hb8'
        go_wp2_with fail
        refine (HRD2.out g w8 hrd (by rw [List.length_append, HN.out, HL2.out]; have := HN150.out; have := HI2.out; omega)).mono ?_
        rintro e w9 ⟨rfl, hrd9, hgr⟩
        have hb9 : Below w5.heap.size w5 w9 := hb8.grown hgr hb8.size (fun k hk => by injection hk with hk; have := hb7.size; omega)
        have hal := HAL.out
        have hs9 := att_var w9 HZS.out HSS.out HS1.out
        have hrn := heap_alloc_new w9 (.cells S 25)
        have hbn : Below w9.heap.size w9 (w9.alloc (.cells S 25)) := (Below.refl _ _).alloc (Nat.le_refl _) _
        have hb10 := hb9.trans (hbn.mono hb9.size)
        have hrd10 := hrd9.below hbn
        clear hrd hgr hrd9 hbn hb7 hb8 hb9 hl6 hl7 hgl
        go_upto_region 9 with (fail)
        generalize w9.alloc (.cells S 25) = w10 at *
        clear hs9 hal
        have hln := lt_of_block hrn
        have hB10 := hB5.trans (hb10.mono hB5.size)
        have HLN : Hid (∀ W, Below w10.heap.size w10 W → loadAtt (.pointer (some ⟨w9.heap.size, 0, none⟩)) W = .ok (.value (.agg S)) W ∧ loadAtt (.pointer (some ⟨w.heap.size, 0, none⟩)) W = .ok (.value (.agg S)) W) := hid (fun W h => ⟨loadAtt_row ((h.block _ hln).trans hrn) HSS.out, HLD.out W (hb5.trans ((hb10.trans (h.mono hb10.size)).mono hb5.size))⟩)
        have HRX := hid (fun W (h : Below w10.heap.size w10 W) => hrd10.below h)
        have hl11 : ([] : List UInt8).length + l1.length ≤ 140737488355328 := by rw [HL1.out]; have := HI1.out; simp only [List.length_nil]; omega
        have hl12 : l1.length + O.length ≤ 140737488355328 := by rw [HN.out, HL1.out]; have := HN150.out; have := HI1.out; omega
        clear hrn hln hrd10
        go_wp2_with (first
          | (at_builtin; refine wpList_append_byt rfl (.tmp 47) (.tmp 48) rfl rfl rfl (fresh0_own w10) (HV1.out _ (hB10.alloc hB10.size _)) hl11 (al_le w10 _) ?_; intro v11 w11 ho11 hg11 hv11; simp only [List.nil_append] at ho11; have hb11 := fresh0_below hg11; clear hg11 hv11)
          | (at_builtin; refine wpList_append_byt rfl (.tmp 49) (.tmp 50) rfl rfl rfl ho11 (HX5.out _ (hb10.trans (hb11.mono hb10.size))) hl12 hb11.size ?_; intro v12 w12 ho12 hg12 hv12; have hb12 := hb11.grown hg12 hb11.size (fun q hq => (World.ownsRow.lt ho11 q hq).1); clear hg12 hv12))
        have hp12 := HP5.out w12 (hb10.trans (hb12.mono hb10.size))
        have hx12 := ho12.byt
        rw [← HPM2.out] at hx12
        refine (same_yes _ _ P w12 hp12 hx12).mono ?_
        rintro e w13 ⟨rfl, k13, hw13⟩
        have hb13 : Below w10.heap.size w10 w13 := by rw [hw13]; exact below_drewN hb12 k13
        obtain ⟨l13, m13⟩ := HLN.out w13 hb13
        have heq := HEQ.out
        clear hw13 hp12 hx12 ho11 ho12 hb11 hb12 hl11 hl12
        go_wp2_with fail
        have C := left_any g (O ++ l2) O.length true w13 (HRX.out _ hb13) (by rw [List.length_append, HN.out, HL2.out]; have := HN150.out; have := HI2.out; omega)
        rw [show (((O ++ l2).length : Int) - (O.length : Int)) = (L2 : Int) from by rw [List.length_append, HL2.out]; omega] at C
        refine C.mono ?_
        clear C
        rintro e w14 ⟨rfl, k14, hw14⟩
        have hb14 : Below w10.heap.size w10 w14 := by rw [hw14]; exact below_drewN hb13 k14
        have hB14 := hB10.trans (hb14.mono hB10.size)
        clear hw14 l13 m13 heq
        go_wp2_with fail
        refine (HA.out _ hB14).mono ?_
        rintro e w15 ⟨rfl, hb15⟩
        go_wp2_with fail
        go_ret
        exact ⟨rfl, hB14.trans (hb15.mono hB14.size)⟩
    · have i1 : ¬ (200 : Int) < (L1 : Int) := by omega
      have i2 : (200 : Int) < (L2 : Int) := by omega
      go_wp2_with fail
      refine (HA.out w0 hb0).mono ?_
      rintro e w1 ⟨rfl, hb1⟩
      go_wp2_with fail
      go_ret
      exact ⟨rfl, hb0.trans (hb1.mono hb0.size)⟩
  · have i1 : (200 : Int) < (L1 : Int) := by omega
    go_wp2_with fail
    refine (HA.out w0 hb0).mono ?_
    rintro e w1 ⟨rfl, hb1⟩
    go_wp2_with fail
    go_ret
    exact ⟨rfl, hb0.trans (hb1.mono hb0.size)⟩
end Go.Proofs.YtmhchihcgliinaaDoor
