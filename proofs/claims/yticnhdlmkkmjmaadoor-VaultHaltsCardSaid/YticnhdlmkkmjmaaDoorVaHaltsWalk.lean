/-
  VaultHalts: what a vault loads both of whose slots were swapped; nobody's vault: the law's walk. Printed with genvlaws.py.
-/
import Derived.Deep.CutBlock
import Derived.Test.YticnhdlmkkmjmaaDoorVaAwake
import Derived.Test.YticnhdlmkkmjmaaDoorVaCodeTear
import Derived.Test.YticnhdlmkkmjmaaDoorVaEq
namespace Go.Proofs.YticnhdlmkkmjmaaDoor
set_option maxRecDepth 20000
open Go.RowKit
attribute [local go_sem ↓] exec_load_se exec_alloc_se exec_store_se exec_build_se exec_ne_se
theorem noV_none (W : World) : NoVlt W (.pointer none) := .inl rfl
set_option maxHeartbeats 12800000 in
theorem lawVaultHalts_any (i n : Int) (v0 v1 : Value) (l0 l1 : List UInt8) (w : World) (hy0 : Byt w v0 l0) (hy1 : Byt w v1 l1) (hK : Kst 1 w) (hK2 : Kst 0 w) :
    Calls Tryd.prog 4 #[.int .i64 i, .int .i64 n, .agg #[v0, v1]] w fun e w' => e = .returned (.bool true) ∧ Below w.heap.size w w' := by
  have HAW : Hid (∀ W, Below w.heap.size w W → Calls Tryd.prog 6 #[] W fun e w' => e = .returned (.bool true) ∧ Below W.heap.size W w') := hid (fun W hb => vaAwake_any W (hK.below hb))
  have HB0 := hid (show Below w.heap.size w (w.alloc (.cells #[v0, v1] 42)) from (Below.refl _ _).alloc (Nat.le_refl _) _)
  have hr0 := heap_alloc_new w (.cells #[v0, v1] 42)
  have HC : Hid (∀ W, Below (w.alloc (.cells #[v0, v1] 42)).heap.size (w.alloc (.cells #[v0, v1] 42)) W → W.cell? ⟨w.heap.size, 0, none⟩ = some v0 ∧ W.cell? ⟨w.heap.size, 1, none⟩ = some v1) := hid (fun W hb => by
    have := (hb.block _ (lt_of_block hr0)).trans hr0
    exact ⟨by rw [coBlk_cell this]; rfl, by rw [coBlk_cell this]; rfl⟩)
  have HY : Hid (∀ W, Below w.heap.size w W → Byt W v0 l0 ∧ Byt W v1 l1) := hid (fun W hb => ⟨hy0.below hb, hy1.below hb⟩)
  obtain ⟨n0, HN0⟩ : ∃ x, Hid ((getB i l0).1 = x) := ⟨_, hid rfl⟩
  obtain ⟨G0, HG0⟩ : ∃ x, Hid (sec (getB i l0).2.1 = x) := ⟨_, hid rfl⟩
  obtain ⟨e0, HE0⟩ : ∃ x, Hid ((getB i l0).2.2 = x) := ⟨_, hid rfl⟩
  obtain ⟨n1, HN1⟩ : ∃ x, Hid ((getB i l1).1 = x) := ⟨_, hid rfl⟩
  obtain ⟨G1, HG1⟩ : ∃ x, Hid (sec (getB i l1).2.1 = x) := ⟨_, hid rfl⟩
  obtain ⟨e1, HE1⟩ : ∃ x, Hid ((getB i l1).2.2 = x) := ⟨_, hid rfl⟩
  have HGS : Hid ((G0.size = 35 ∧ G0.all (·.oneCell') = true) ∧ G1.size = 35 ∧ G1.all (·.oneCell') = true) := hid (by rw [← HG0.out, ← HG1.out]; exact ⟨⟨sec_size (getB_ok' _ _), sec_one _⟩, sec_size (getB_ok' _ _), sec_one _⟩)
  have HGT : Hid (l0.length ≤ 1000 → l1.length ≤ 1000 → ∀ W, Below w.heap.size w W → (Calls Tryd.prog 15 #[.int .i64 i, v0] W fun e w' => e = .returned (.tuple #[.int .i64 n0, .agg G0, .int .i64 e0]) ∧ Below W.heap.size W w') ∧ (Calls Tryd.prog 15 #[.int .i64 i, v1] W fun e w' => e = .returned (.tuple #[.int .i64 n1, .agg G1, .int .i64 e1]) ∧ Below W.heap.size W w')) := hid (fun h1 h2 W hb => by
    have a := refGet13_any i v0 l0 W (hy0.below hb) (by omega) (hK2.below hb)
    have b := refGet13_any i v1 l1 W (hy1.below hb) (by omega) (hK2.below hb)
    rw [HN0.out, HG0.out, HE0.out] at a
    rw [HN1.out, HG1.out, HE1.out] at b
    exact ⟨a, b⟩)
  obtain ⟨Z, HZ⟩ : ∃ C : Array Value, Hid (sec seZ = C) := ⟨_, hid rfl⟩
  have HZS : Hid (Z.size = 35 ∧ Z.all (·.oneCell') = true) := hid (by rw [← HZ.out]; exact ⟨sec_size seZ_ok, sec_one _⟩)
  have HAL : Hid (∀ W, allocSe W = .ok (.value (.pointer (some ⟨W.heap.size, 0, none⟩))) (W.alloc (.cells Z 32))) := hid (fun W => by rw [← HZ.out]; exact allocSe_eq W)
  have HBZ : Hid (∀ W, buildSe W = .ok (.value (.agg Z)) W) := hid (fun W => by rw [← HZ.out]; exact buildSe_eq W)
  have HLN : Hid (∀ W v, NoVlt W v → Calls Tryd.prog 12 #[v] W fun e w' => e = .returned (.tuple #[.agg Z, .int .i64 5]) ∧ Below W.heap.size W w') := hid (fun W v h => by
    have := vLoad_no h
    rw [HZ.out] at this
    exact this)
  have HKN : Hid (∀ W v, NoVlt W v → Calls Tryd.prog 8 #[v, .agg Z] W fun e w' => e = .returned (.int .i64 5) ∧ Below W.heap.size W w') := hid (fun W v h => by
    have := vKeep_no h seZ
    rw [HZ.out] at this
    exact this)
  have HNEQ : Hid (∀ W, neSe (.agg Z) (.agg Z) W = .ok (.value (.bool false)) W) := hid (fun W => by
    have := neSe_eq seZ seZ seZ_ok seZ_ok W
    rw [HZ.out, decide_eq_true rfl] at this
    exact this)
  obtain ⟨S, HS⟩ : ∃ C : Array Value, Hid (sec (loadS ⟨i, l0, l1, n, -1, false, []⟩) = C) := ⟨_, hid rfl⟩
  obtain ⟨E, HE⟩ : ∃ C : Int, Hid (loadE ⟨i, l0, l1, n, -1, false, []⟩ = C) := ⟨_, hid rfl⟩
  have HSS : Hid (S.size = 35 ∧ S.all (·.oneCell') = true) := hid (by rw [← HS.out]; exact ⟨sec_size (loadS_ok _), sec_one _⟩)
  obtain ⟨hh, HHH⟩ : ∃ q : Bool, Hid ((!(hitB i n l0) && !(hitB i n l1)) = q) := ⟨_, hid rfl⟩
  obtain ⟨y0, f0⟩ : ∃ y, (e0 != 0) = y := ⟨_, rfl⟩
  obtain ⟨y1, f1⟩ : ∃ y, (n0 != n) = y := ⟨_, rfl⟩
  obtain ⟨y2, f2⟩ : ∃ y, (e1 != 0) = y := ⟨_, rfl⟩
  obtain ⟨y3, f3⟩ : ∃ y, (n1 != n) = y := ⟨_, rfl⟩
  have HH2 : Hid (hh = ((y0 || y1) && (y2 || y3))) := hid (by
    rw [← HHH.out]
    unfold hitB
    rw [HN0.out, HE0.out, HN1.out, HE1.out, ← f0, ← f1, ← f2, ← f3]
    by_cases q0 : e0 = 0 <;> by_cases q1 : n0 = n <;> by_cases q2 : e1 = 0 <;> by_cases q3 : n1 = n <;> simp [q0, q1, q2, q3])
  have HF0 := hid f0
  have HF1 := hid f1
  have HF2 := hid f2
  have HF3 := hid f3
  have HANS : Hid (1 ≤ n → (hh = true → S = Z ∧ E = 8) ∧ (hh = false → E = 0)) := hid (fun hn => by
    rw [← HHH.out, ← HS.out, ← HE.out, ← HZ.out]
    have hn' : ¬ n = 0 := by omega
    unfold loadS loadE
    simp only [Bool.false_eq_true, if_false, hn']
    cases hitB i n l0 <;> cases hitB i n l1 <;> simp)
  have HNW : Hid (nodeB i = true → 0 ≤ n → n ≤ 1099511627776 → ∀ W, Calls Tryd.prog 7 #[.int .i64 i, .int .i64 n] W fun e w' => ∃ b c a, e = .returned (.tuple #[.pointer (some ⟨b, 0, none⟩), .int .i64 0]) ∧ Vlt w' b c a (newV i n) ∧ W.heap.size ≤ b ∧ W.heap.size ≤ a ∧ Below W.heap.size W w') := hid (fun h1 h2 h3 W => vNew_yes i n W h1 h2 h3)
  have HGV : Hid (nodeB i = true → 0 ≤ n → n ≤ 1099511627776 → l0.length ≤ 1000 → l1.length ≤ 1000 → (⟨i, l0, l1, n, -1, false, []⟩ : VaM).Good) := hid (fun h1 h2 h3 h4 h5 => ⟨h1, h2, h3, by show (-1 : Int) ≤ -1; decide, by show (-1 : Int) ≤ _; decide, h4, h5, Nat.zero_le _, fun _ => rfl⟩)
  have HSW0 : Hid (l0.length ≤ 1000 → ∀ b c a W, Vlt W b c a (newV i n) → Below w.heap.size w W → Calls Tryd.prog 14 #[.pointer (some ⟨b, 0, none⟩), .int .i64 0, v0] W fun e w' => e = .returned (.int .i64 0) ∧ Vlt w' b c a ⟨i, l0, [], n, -1, false, []⟩ ∧ Turn b a W w') := hid (fun hl b c a W h hb => by
    have := vSwap_any h 0 (hy0.below hb)
    unfold swapE swapV at this
    rw [if_neg (by omega), if_neg (by omega)] at this
    exact this)
  have HSW1 : Hid (l1.length ≤ 1000 → ∀ b c a W, Vlt W b c a ⟨i, l0, [], n, -1, false, []⟩ → Below w.heap.size w W → Calls Tryd.prog 14 #[.pointer (some ⟨b, 0, none⟩), .int .i64 1, v1] W fun e w' => e = .returned (.int .i64 0) ∧ Vlt w' b c a ⟨i, l0, l1, n, -1, false, []⟩ ∧ Turn b a W w') := hid (fun hl b c a W h hb => by
    have := vSwap_any h 1 (hy1.below hb)
    unfold swapE swapV at this
    rw [if_neg (by omega), if_neg (by omega)] at this
    exact this)
  have HLD : Hid ((⟨i, l0, l1, n, -1, false, []⟩ : VaM).Good → ∀ b c a W, Vlt W b c a ⟨i, l0, l1, n, -1, false, []⟩ → Below w.heap.size w W → Calls Tryd.prog 12 #[.pointer (some ⟨b, 0, none⟩)] W fun e w' => e = .returned (.tuple #[.agg S, .int .i64 E]) ∧ Below W.heap.size W w') := hid (fun g b c a W h hb => by
    have := vLoad_any h g (hK.below hb)
    rw [HS.out, HE.out] at this
    exact this)
  obtain ⟨A0, c0, r0⟩ := hy0.shape
  obtain ⟨A1, c1, r1⟩ := hy1.shape
  have HLE0 : Hid (∀ m : Nat, l0.length = m → ¬ (1000 : Int) < (m : Int) → l0.length ≤ 1000) := hid (fun m h1 h2 => by omega)
  have HLE1 : Hid (∀ m : Nat, l1.length = m → ¬ (1000 : Int) < (m : Int) → l1.length ≤ 1000) := hid (fun m h1 h2 => by omega)
  obtain ⟨L0, HL0⟩ : ∃ q : Nat, Hid (l0.length = q) := ⟨_, hid rfl⟩
  obtain ⟨L1, HL1⟩ : ∃ q : Nat, Hid (l1.length = q) := ⟨_, hid rfl⟩
  rw [HL0.out] at r0
  rw [HL1.out] at r1
  subst r0 r1
  clear hy0 hy1 hK hK2 hr0 HN0 HN1 HE0 HE1 HG0 HG1 HZ HS HE HHH f0 f1 f2 f3
  go_enter Tryd.func4, Tryd.ntmps4
  go_upto_region 1 with (fail)
  generalize (w.alloc (.cells #[.slice A0 L0 c0, .slice A1 L1 c1] 42)) = w0 at *
  have ⟨k0, k1⟩ := HC.out w0 (Below.refl _ _)
  by_cases p0 : (1000 : Int) < (L0 : Int)
  · go_wp2_with fail
    refine (HAW.out w0 HB0.out).mono ?_
    rintro e w1 ⟨rfl, hb1⟩
    go_wp2_with fail
    go_ret
    exact ⟨rfl, HB0.out.trans (hb1.mono HB0.out.size)⟩
  by_cases p1 : (1000 : Int) < (L1 : Int)
  · go_wp2_with fail
    refine (HAW.out w0 HB0.out).mono ?_
    rintro e w1 ⟨rfl, hb1⟩
    go_wp2_with fail
    go_ret
    exact ⟨rfl, HB0.out.trans (hb1.mono HB0.out.size)⟩
  by_cases p2 : i < 1
  · go_wp2_with fail
    refine (HAW.out w0 HB0.out).mono ?_
    rintro e w1 ⟨rfl, hb1⟩
    go_wp2_with fail
    go_ret
    exact ⟨rfl, HB0.out.trans (hb1.mono HB0.out.size)⟩
  by_cases p3 : 21 < i
  · go_wp2_with fail
    refine (HAW.out w0 HB0.out).mono ?_
    rintro e w1 ⟨rfl, hb1⟩
    go_wp2_with fail
    go_ret
    exact ⟨rfl, HB0.out.trans (hb1.mono HB0.out.size)⟩
  by_cases p4 : n < 1
  · go_wp2_with fail
    refine (HAW.out w0 HB0.out).mono ?_
    rintro e w1 ⟨rfl, hb1⟩
    go_wp2_with fail
    go_ret
    exact ⟨rfl, HB0.out.trans (hb1.mono HB0.out.size)⟩
  by_cases p5 : 1099511627776 < n
  · go_wp2_with fail
    refine (HAW.out w0 HB0.out).mono ?_
    rintro e w1 ⟨rfl, hb1⟩
    go_wp2_with fail
    go_ret
    exact ⟨rfl, HB0.out.trans (hb1.mono HB0.out.size)⟩
  have HLL0 := hid (HLE0.out L0 HL0.out p0)
  have HLL1 := hid (HLE1.out L1 HL1.out p1)
  have HND : Hid (nodeB i = true) := hid (by unfold nodeB; rw [decide_eq_true_eq]; omega)
  have HNN : Hid (1 ≤ n ∧ 0 ≤ n ∧ n ≤ 1099511627776) := hid (by omega)
  have HGG := hid (HGV.out HND.out HNN.out.2.1 HNN.out.2.2 HLL0.out HLL1.out)
  have HNW2 := hid (HNW.out HND.out HNN.out.2.1 HNN.out.2.2)
  clear HGV HNW HLE0 HLE1
  go_upto_region 3 with (fail)
  clear p0 p1 p2 p3 p4 p5 k0 k1
  go_wp2_with fail
  refine (HNW2.out w0).mono ?_
  rintro e w1 ⟨b, c, a, rfl, h1, hbb, hba, hb1⟩
  have HHB := hid hbb
  have HHA := hid hba
  have HB1 := hid hb1
  clear hbb hba hb1
  obtain ⟨k0, _⟩ := HC.out w1 HB1.out
  go_wp2_with fail
  refine (HSW0.out HLL0.out b c a w1 h1 (HB0.out.trans (HB1.out.mono HB0.out.size))).mono ?_
  rintro e w2 ⟨rfl, h2, t2⟩
  have HB2 := hid (t2.below HB1.out HHB.out HHA.out HB1.out.size)
  clear h1 t2 k0
  obtain ⟨_, k1⟩ := HC.out w2 HB2.out
  go_wp2_with fail
  refine (HSW1.out HLL1.out b c a w2 h2 (HB0.out.trans (HB2.out.mono HB0.out.size))).mono ?_
  rintro e w3 ⟨rfl, h3, t3⟩
  have HB3 := hid (t3.below HB2.out HHB.out HHA.out HB2.out.size)
  have HV3 := hid h3
  clear h2 t3 k1 h3
  obtain ⟨k0, _⟩ := HC.out w3 HB3.out
  go_wp2_with fail
  refine (HGT.out HLL0.out HLL1.out w3 (HB0.out.trans (HB3.out.mono HB0.out.size))).1.mono ?_
  rintro e w4 ⟨rfl, hb4⟩
  have hal := HAL.out
  have hs4 := se_var w4 HZS.out.1 HGS.out.1.1 HGS.out.1.2
  have hb45 : Below w3.heap.size w3 (w4.alloc (.cells G0 32)) := hb4.alloc hb4.size _
  have HB5 := hid (HB3.out.trans (hb45.mono HB3.out.size))
  have HV5 := hid (HV3.out.below hb45)
  clear hb4 hb45 k0
  go_upto_region 7 with (fail)
  clear hal hs4
  generalize (w4.alloc (.cells G0 32)) = w5 at *
  obtain ⟨_, k1⟩ := HC.out w5 HB5.out
  go_wp2_with fail
  refine (HGT.out HLL0.out HLL1.out w5 (HB0.out.trans (HB5.out.mono HB0.out.size))).2.mono ?_
  rintro e w6 ⟨rfl, hb6⟩
  have hal := HAL.out
  have hs6 := se_var w6 HZS.out.1 HGS.out.2.1 HGS.out.2.2
  have hb67 : Below w5.heap.size w5 (w6.alloc (.cells G1 32)) := hb6.alloc hb6.size _
  have HB7 := hid (HB5.out.trans (hb67.mono HB5.out.size))
  have HV7 := hid (HV5.out.below hb67)
  clear hb6 hb67 k1
  go_upto_region 8 with (fail)
  clear hal hs6
  generalize (w6.alloc (.cells G1 32)) = w7 at *
  go_wp2_with fail
  refine (HLD.out HGG.out b c a w7 HV7.out (HB0.out.trans (HB7.out.mono HB0.out.size))).mono ?_
  rintro e w8 ⟨rfl, hb8⟩
  have hal := HAL.out
  have hs8 := se_var w8 HZS.out.1 HSS.out.1 HSS.out.2
  have hb89 : Below w7.heap.size w7 (w8.alloc (.cells S 32)) := hb8.alloc hb8.size _
  have HB9 := hid (HB0.out.trans ((HB7.out.trans (hb89.mono HB7.out.size)).mono HB0.out.size))
  have HR9 := hid (heap_alloc_new w8 (.cells S 32))
  clear hb8 hb89 HV3 HV5 HV7 HB1 HB2 HB3 HB5 HB7 HC
  go_upto_region 9 with (fail)
  clear hal hs8
  generalize (w8.alloc (.cells S 32)) = w9 at *
  generalize w8.heap.size = g8 at *
  go_cut [17] (fun s17 wx => s17 = .bool hh ∧ wx = w9)
  case first =>
    have f0 := HF0.out
    have f1 := HF1.out
    have f2 := HF2.out
    have f3 := HF3.out
    cases y0 with
    | true =>
      cases y2 with
      | true =>
        go_wp2_with fail
        go_meet
        case rel => exact ⟨congrArg Value.bool HH2.out.symm, rfl⟩
      | false =>
        cases y3 with
        | true =>
          go_wp2_with fail
          go_meet
          case rel => exact ⟨congrArg Value.bool HH2.out.symm, rfl⟩
        | false =>
          go_wp2_with fail
          go_meet
          case rel => exact ⟨congrArg Value.bool HH2.out.symm, rfl⟩
    | false =>
      cases y1 with
      | true =>
        cases y2 with
        | true =>
          go_wp2_with fail
          go_meet
          case rel => exact ⟨congrArg Value.bool HH2.out.symm, rfl⟩
        | false =>
          cases y3 with
          | true =>
            go_wp2_with fail
            go_meet
            case rel => exact ⟨congrArg Value.bool HH2.out.symm, rfl⟩
          | false =>
            go_wp2_with fail
            go_meet
            case rel => exact ⟨congrArg Value.bool HH2.out.symm, rfl⟩
      | false =>
        go_wp2_with fail
        go_meet
        case rel => exact ⟨congrArg Value.bool HH2.out.symm, rfl⟩
  case rest =>
    obtain ⟨rfl, hw⟩ := hcut
    have hw := hw.symm
    subst hw
    have HAN := hid (HANS.out HNN.out.1)
    clear HANS HH2 HF0 HF1 HF2 HF3
    go_upto_region 10 with (fail)
    go_cut [123] (fun s wx => s = .bool false ∧ wx = w9)
    case first =>
      cases hh with
      | true =>
        obtain ⟨rfl, rfl⟩ := HAN.out.1 rfl
        have l9 := loadSe_row HR9.out HSS.out.1
        have hbz := HBZ.out
        have hne := HNEQ.out
        go_wp2_with fail
        go_meet
        case rel => exact ⟨rfl, rfl⟩
      | false =>
        obtain rfl := HAN.out.2 rfl
        go_wp2_with fail
        go_meet
        case rel => exact ⟨rfl, rfl⟩
    case rest =>
      obtain ⟨rfl, hw⟩ := hcut
      have hw := hw.symm
      subst hw
      clear HAN HR9
      go_wp2_with fail
      refine wp_loop_rounds 3 ?_
      rw [rounds_succ]
      go_wp2_with fail
      refine (vArm_no (noV_none _) 1).mono ?_
      rintro e x0a ⟨rfl, rfl⟩
      go_wp2_with fail
      refine (vCrash_no (noV_none _) 1).mono ?_
      rintro e x0a ⟨rfl, rfl⟩
      go_wp2_with fail
      refine (HLN.out _ _ (noV_none _)).mono ?_
      rintro e x0b ⟨rfl, hb0b⟩
      have hal := HAL.out
      have hs0 := se_var x0b HZS.out.1 HZS.out.1 HZS.out.2
      have hb0c : Below w9.heap.size w9 (x0b.alloc (.cells Z 32)) := hb0b.alloc hb0b.size _
      have HBA0 := hid (HB9.out.trans (hb0c.mono HB9.out.size))
      have HNO0 := hid (NoVlt.below (noV_none _) hb0c)
      clear hb0b hb0c
      go_upto_region 21 with (fail)
      clear hal hs0
      generalize (x0b.alloc (.cells Z 32)) = y0 at *
      have hbz := HBZ.out
      go_wp2_with fail
      refine (HKN.out _ _ HNO0.out).mono ?_
      rintro e x0d ⟨rfl, hb0d⟩
      have HBD0 := hid (HBA0.out.trans (hb0d.mono HBA0.out.size))
      have HND0 := hid (HNO0.out.below hb0d)
      clear hb0d
      clear hbz
      go_wp2_with fail
      refine (vSwap_no HND0.out 0 _).mono ?_
      rintro e x0e ⟨rfl, rfl⟩
      go_wp2_with fail
      refine (vSlot_no HND0.out 0).mono ?_
      rintro e x0e ⟨rfl, rfl⟩
      go_wp2_with fail
      refine (vDead_no HND0.out).mono ?_
      rintro e x0e ⟨rfl, rfl⟩
      go_wp2_with fail
      refine (vAt_no HND0.out).mono ?_
      rintro e x0e ⟨rfl, rfl⟩
      go_wp2_with fail
      rw [rounds_succ]
      have HN1 := hid (show NoVlt (x0d.alloc (.cells #[.int .i64 0, .slice none 0 0, .slice none 0 0, .pointer none, .int .i64 0, .bool false, .slice none 0 0] 48)) (.pointer (some ⟨x0d.heap.size, 0, none⟩)) from .inr ⟨_, rfl, heap_alloc_new _ _⟩)
      have HZ1 := hid (HBD0.out.alloc HBD0.out.size (.cells #[.int .i64 0, .slice none 0 0, .slice none 0 0, .pointer none, .int .i64 0, .bool false, .slice none 0 0] 48))
      go_upto_region 18 with (fail)
      generalize (x0d.alloc (.cells #[.int .i64 0, .slice none 0 0, .slice none 0 0, .pointer none, .int .i64 0, .bool false, .slice none 0 0] 48)) = z1 at *
      generalize x0d.heap.size = gz at *
      go_wp2_with fail
      refine (vArm_no (HN1.out) 1).mono ?_
      rintro e x1a ⟨rfl, rfl⟩
      go_wp2_with fail
      refine (vCrash_no (HN1.out) 1).mono ?_
      rintro e x1a ⟨rfl, rfl⟩
      go_wp2_with fail
      refine (HLN.out _ _ (HN1.out)).mono ?_
      rintro e x1b ⟨rfl, hb1b⟩
      have hal := HAL.out
      have hs1 := se_var x1b HZS.out.1 HZS.out.1 HZS.out.2
      have hb1c : Below z1.heap.size z1 (x1b.alloc (.cells Z 32)) := hb1b.alloc hb1b.size _
      have HBA1 := hid (HZ1.out.trans (hb1c.mono HZ1.out.size))
      have HNO1 := hid (NoVlt.below (HN1.out) hb1c)
      clear hb1b hb1c
      go_upto_region 21 with (fail)
      clear hal hs1
      generalize (x1b.alloc (.cells Z 32)) = y1 at *
      have hbz := HBZ.out
      go_wp2_with fail
      refine (HKN.out _ _ HNO1.out).mono ?_
      rintro e x1d ⟨rfl, hb1d⟩
      have HBD1 := hid (HBA1.out.trans (hb1d.mono HBA1.out.size))
      have HND1 := hid (HNO1.out.below hb1d)
      clear hb1d
      clear hbz
      go_wp2_with fail
      refine (vSwap_no HND1.out 0 _).mono ?_
      rintro e x1e ⟨rfl, rfl⟩
      go_wp2_with fail
      refine (vSlot_no HND1.out 0).mono ?_
      rintro e x1e ⟨rfl, rfl⟩
      go_wp2_with fail
      refine (vDead_no HND1.out).mono ?_
      rintro e x1e ⟨rfl, rfl⟩
      go_wp2_with fail
      refine (vAt_no HND1.out).mono ?_
      rintro e x1e ⟨rfl, rfl⟩
      go_wp2_with fail
      rw [rounds_succ]
      go_wp2_with fail
      refine (HAW.out x1d HBD1.out).mono ?_
      rintro e w10 ⟨rfl, hb10⟩
      go_wp2_with fail
      go_ret
      exact ⟨rfl, HBD1.out.trans (hb10.mono HBD1.out.size)⟩
end Go.Proofs.YticnhdlmkkmjmaaDoor
