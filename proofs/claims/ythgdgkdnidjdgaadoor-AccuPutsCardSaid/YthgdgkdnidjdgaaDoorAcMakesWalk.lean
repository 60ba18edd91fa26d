/-
  AccuMakes: the accumulation of any attestations; it is right, and none that it was made of has a greater view: the law's walk, from what accu's functions tell. Printed with genacmakesw.py.
-/
import Derived.Test.YthgdgkdnidjdgaaDoorAcOk
import Derived.Test.YthgdgkdnidjdgaaDoorAcMake
import Derived.Test.YthgdgkdnidjdgaaDoorAcSame
import Derived.LoopTactic
import Derived.Deep.QuietTactic
import Derived.BigQuiet
namespace Go.Proofs.YthgdgkdnidjdgaaDoor
set_option maxRecDepth 20000
open Go.RowKit
attribute [local go_sem ↓] exec_load_ax exec_alloc_ax exec_store_ax exec_load_hash

/-- Does the first attestation of one have the view, and the hash, that are told? -/
def fitX (l : List AtM) (a : AcM) (x : Int) : Bool := match l.find? (fun t => decide (t.bo = x)) with
  | some t => decide (t.pv = a.pv) && decide (t.pa = a.pa)
  | none => false
section
variable {l : List AtM} {a : AcM} {x : Int} {i : Nat}
theorem find_at (hi : i < l.length) (hb : l[i].bo = x) (hn : ∀ j (hj : j < l.length), j < i → l[j].bo ≠ x) : l.find? (fun t => decide (t.bo = x)) = some l[i] := by
  rw [List.find?_eq_some_iff_getElem]
  exact ⟨decide_eq_true hb, i, hi, rfl, fun j hj => by simpa using hn j (by omega) hj⟩
theorem fitX_at (hi : i < l.length) (hb : l[i].bo = x) (hn : ∀ j (hj : j < l.length), j < i → l[j].bo ≠ x) : fitX l a x = (decide (l[i].pv = a.pv) && decide (l[i].pa = a.pa)) := by
  unfold fitX
  rw [find_at hi hb hn]
theorem fitX_none (hn : ∀ j (hj : j < l.length), l[j].bo ≠ x) : fitX l a x = false := by
  have hf : l.find? (fun t => decide (t.bo = x)) = none := by
    rw [List.find?_eq_none]
    intro a ha
    obtain ⟨j, hj, rfl⟩ := List.getElem_of_mem ha
    simpa using hn j hj
  unfold fitX
  rw [hf]
theorem any_snoc {f : Int → Bool} {fr : List Int} (h : i < fr.length) : (fr.take (i + 1)).any f = ((fr.take i).any f || f fr[i]) := by
  rw [List.take_succ_eq_append_getElem h, List.any_append]
  simp
end
theorem fitX_all {b n vi : Int} {l : List AtM} (h : (makeX b n vi l).2 = 0) : (makeX b n vi l).1.fr.any (fitX l (makeX b n vi l).1) = true := by
  obtain ⟨_, x, hx, a, _, hf, h1, h2⟩ := madeX_told h
  rw [List.any_eq_true]
  refine ⟨x, hx, ?_⟩
  unfold fitX
  rw [hf]
  simp [h1, h2]

set_option maxHeartbeats 12800000 in
theorem lawAccuMakes_any (hM : AcMakeOk) (hR : AcRightOk) (hA : AcAwakeOk) (b n vi : Int) (v : Value) (l : List AtM) (w : World) (hx : (Lit.int .i64 b).wf = true ∧ (Lit.int .i64 n).wf = true ∧ (Lit.int .i64 vi).wf = true) (hv : Els atl 101 w v l) (ho : ∀ x ∈ l, x.Ok) (hK1 : Kst 0 w) (hK0 : Kst 1 w) :
    Calls Tryd.prog 3 #[.agg #[.int .i64 b, .int .i64 n, .int .i64 vi], v] w fun e w' => e = .returned (.bool true) ∧ Below w.heap.size w w' := by
  have HA := hid (fun W (h : Below w.heap.size w W) => hA W (hK1.below h))
  have HM1 : Hid (l.length ≤ 1000 → ∀ W, Below w.heap.size w W → Calls Tryd.prog 7 #[.int .i64 b, .int .i64 n, .int .i64 vi, v] W fun e w' => ∃ x, e = .returned (.tuple #[x, .int .i64 (makeX b n vi l).2]) ∧ AcV w' x (makeX b n vi l).1 ∧ Below W.heap.size W w') := hid (fun h W hb => hM b n vi v l W hx.1 hx.2.1 hx.2.2 (hv.below hb) ho h (hK1.below hb))
  have HM2 : Hid (l.length ≤ 1000 → ∀ W, Below w.heap.size w W → Calls Tryd.prog 8 #[.int .i64 b, .int .i64 n, .int .i64 vi, v] W fun e w' => ∃ x, e = .returned (.tuple #[x, .int .i64 (makeX b n vi l).2]) ∧ AcV w' x (makeX b n vi l).1 ∧ Below W.heap.size W w') := hid (fun h W hb => refMake10_any b n vi v l W (hv.below hb) ho h (hK0.below hb))
  have HRC : Hid (∀ W x c, Below w.heap.size w W → AcV W x c → c.fr.length ≤ 1000 → Calls Tryd.prog 10 #[.int .i64 n, x] W fun e w' => e = .returned (.bool (rightX n c)) ∧ Below W.heap.size W w') := hid (fun W x c h hx' hl => hR n x c W hx.2.1 hx' hl (hK1.below h))
  obtain ⟨A1, k1, rfl⟩ := hv.shape
  have HE := hid (fun hp => els_att hv ho hp)
  have HOK := hid ho
  obtain ⟨L1, HL1⟩ : ∃ n : Nat, Hid (l.length = n) := ⟨_, hid rfl⟩
  obtain ⟨Z, HZ⟩ : ∃ C : Array Value, Hid (axc acZ (.slice none 0 0) = C) := ⟨_, hid rfl⟩
  have HAL : Hid (∀ W, allocAx W = .ok (.value (.pointer (some ⟨W.heap.size, 0, none⟩))) (W.alloc (.cells Z 30))) := hid (fun W => by rw [← HZ.out]; exact allocAx_eq W)
  have HSZ : Hid (Z.size = 68) := hid (by rw [← HZ.out]; exact axc_size _ acZ_ok)
  obtain ⟨e1, HE1⟩ : ∃ k : Int, Hid ((makeX b n vi l).2 = k) := ⟨_, hid rfl⟩
  obtain ⟨c1, HC1⟩ : ∃ k : AcM, Hid ((makeX b n vi l).1 = k) := ⟨_, hid rfl⟩
  have HQ1 : Hid (c1.fr.length ≤ 21) := hid (by rw [← HC1.out]; exact madeX_len)
  have HMR : Hid (e1 = 0 → rightX n c1 = true ∧ (∀ x ∈ c1.fr, ∃ a ∈ l, l.find? (fun t => decide (t.bo = x)) = some a ∧ a.pv ≤ c1.pv) ∧ c1.fr.any (fitX l c1) = true) := hid (fun h => by
    rw [← HC1.out]
    exact ⟨madeX_right (by rw [HE1.out]; exact h), (madeX_told (by rw [HE1.out]; exact h)).1, fitX_all (by rw [HE1.out]; exact h)⟩)
  rw [HL1.out, HE1.out, HC1.out] at HM1 HM2
  rw [HL1.out]
  have hr0 := heap_alloc_new w (.cells #[.int .i64 b, .int .i64 n, .int .i64 vi] 23)
  have hb0 : Below w.heap.size w (w.alloc (.cells #[.int .i64 b, .int .i64 n, .int .i64 vi] 23)) := (Below.refl _ _).alloc (Nat.le_refl _) _
  clear hv ho hK1 hK0 hx
  go_enter Tryd.func3, Tryd.ntmps3
  go_upto_region 1 with (fail)
  generalize (w.alloc (.cells #[.int .i64 b, .int .i64 n, .int .i64 vi] 23)) = w0 at *
  have HAS : Hid (∀ W, Below w0.heap.size w0 W → W.cell? ⟨w.heap.size, 0, none⟩ = some (.int .i64 b) ∧ W.cell? ⟨w.heap.size, 1, none⟩ = some (.int .i64 n) ∧ W.cell? ⟨w.heap.size, 2, none⟩ = some (.int .i64 vi)) := hid (fun W h => by
    have hr := (h.block _ (lt_of_block hr0)).trans hr0
    exact ⟨cell_blk hr 0, cell_blk hr 1, cell_blk hr 2⟩)
  clear hr0
  by_cases h1 : 25 < L1
  · have i1 : (25 : Int) < (L1 : Int) := by omega
    go_wp2_with fail
    refine (HA.out w0 hb0).mono ?_
    rintro e w1 ⟨rfl, hb1⟩
    go_wp2_with fail
    go_ret
    exact ⟨rfl, accu_thru hb0 hb1⟩
  have i1 : ¬ (25 : Int) < (L1 : Int) := by omega
  obtain ⟨a0, a1, a2⟩ := HAS.out w0 (Below.refl _ _)
  go_wp2_with fail
  refine (HM1.out (by omega) w0 hb0).mono ?_
  rintro e w1 ⟨x1, rfl, hc1, hb1⟩
  clear a0 a1 a2
  obtain ⟨s1, rfl, hk1, hel1⟩ := hc1
  have HT1 := hid (axc_one (a := c1) hel1)
  have HV1 : Hid (AcV w1 (.agg (axc c1 s1)) c1) := hid ⟨_, rfl, hk1, hel1⟩
  have HZ1 := hid (axc_size s1 hk1)
  obtain ⟨A5, k5, rfl⟩ := hel1.shape
  obtain ⟨SL, HSL⟩ : ∃ n : Nat, Hid (c1.fr.length = n) := ⟨_, hid rfl⟩
  have HCO := hid hk1
  rw [HSL.out] at HT1 HV1 HZ1 hel1 ⊢
  have HEL := hid hel1
  obtain ⟨C1, HC1'⟩ : ∃ C : Array Value, Hid (axc c1 (.slice A5 SL k5) = C) := ⟨_, hid rfl⟩
  rw [HC1'.out] at HT1 HV1 HZ1 ⊢
  have hs1 := ax_var w1 HSZ.out HZ1.out HT1.out
  have hal := HAL.out
  have hr1 := heap_alloc_new w1 (.cells C1 30)
  have hbA : Below w1.heap.size w1 (w1.alloc (.cells C1 30)) := (Below.refl _ _).alloc (Nat.le_refl _) _
  have hb2 := accu_thru hb1 hbA
  have HV2 := hid (HV1.out.below hbA)
  have HEL2 := hid (fun W (h : Below w1.heap.size w1 W) => HEL.out.below h)
  clear hk1 hel1
  go_upto_region 4 with (fail)
  generalize (w1.alloc (.cells C1 30)) = w2 at *
  clear hs1 hal hb1
  obtain ⟨a0, a1, a2⟩ := HAS.out w2 hb2
  go_wp2_with fail
  refine (HM2.out (by omega) w2 (accu_thru hb0 hb2)).mono ?_
  rintro e w3 ⟨x2, rfl, hc2, hb3'⟩
  clear a0 a1 a2
  have hb3 := accu_thru hb2 hb3'
  have hr3 := (hb3'.block _ (lt_of_block hr1)).trans hr1
  have HV3 := hid (HV2.out.below hb3')
  have hbA3 := accu_thru hbA hb3'
  obtain ⟨s2, rfl, hk2, hel2⟩ := hc2
  have HT2 := hid (axc_one (a := c1) hel2)
  have HU3 : Hid (AcV w3 (.agg (axc c1 s2)) c1) := hid ⟨_, rfl, hk2, hel2⟩
  have HZ2 := hid (axc_size s2 hk2)
  obtain ⟨C2, HC2'⟩ : ∃ C : Array Value, Hid (axc c1 s2 = C) := ⟨_, hid rfl⟩
  rw [HC2'.out] at HT2 HU3 HZ2 ⊢
  have hs2 := ax_var w3 HSZ.out HZ2.out HT2.out
  have hal := HAL.out
  have hr4 := heap_alloc_new w3 (.cells C2 30)
  have hbB : Below w3.heap.size w3 (w3.alloc (.cells C2 30)) := (Below.refl _ _).alloc (Nat.le_refl _) _
  have hb4 := accu_thru hb3 hbB
  have hbA4 := accu_thru hbA3 hbB
  have hr1' := (hbB.block _ (lt_of_block hr3)).trans hr3
  have HV4 := hid (HV3.out.below hbB)
  have HU4 := hid (HU3.out.below hbB)
  clear hk2 hel2 hr3 hr1
  go_upto_region 5 with (fail)
  generalize (w3.alloc (.cells C2 30)) = w4 at *
  clear hs2 hal hbB hb3 hb3' hb2 hbA hbA3
  have l1 := loadAx_row hr1' HZ1.out
  have l2 := loadAx_row hr4 HZ2.out
  have HSA : Hid (Calls Tryd.prog 9 #[.agg C1, .agg C2] w4 fun e w' => e = .returned (.bool true) ∧ Below w4.heap.size w4 w') := hid (by
    have := refSame10_any _ _ c1 c1 w4 HV4.out HU4.out
    rw [decide_eq_true (rfl : c1 = c1)] at this
    exact this)
  go_wp2_with fail
  refine HSA.out.mono ?_
  rintro e w5 ⟨rfl, hb5'⟩
  have HB05 := hid (accu_thru hb4 hb5')
  have hb5 := accu_thru hb0 HB05.out
  have hr5 := (hb5'.block _ (lt_of_block hr1')).trans hr1'
  have HV5 := hid (HV4.out.below hb5')
  have HE5 := hid (HEL2.out w5 (accu_thru hbA4 hb5'))
  clear l1 l2 hr1' hr4 hb4 hb5' hbA4
  by_cases he1 : ¬ e1 = 0
  · have j1 : (e1 != 0) = true := by simpa using he1
    go_wp2_with fail
    refine (HA.out w5 hb5).mono ?_
    rintro e w6 ⟨rfl, hb6⟩
    go_wp2_with fail
    go_ret
    exact ⟨rfl, accu_thru hb5 hb6⟩
  obtain rfl : e1 = 0 := by omega
  obtain ⟨hmr, hto, hal⟩ := HMR.out rfl
  have HTO := hid hto
  have HALL := hid hal
  have HRX : Hid (∀ W, Below w5.heap.size w5 W → Calls Tryd.prog 10 #[.int .i64 n, .agg C1] W fun e w' => e = .returned (.bool true) ∧ Below W.heap.size W w') := hid (fun W h => by
    have := HRC.out W _ c1 (accu_thru hb5 h) (HV5.out.below h) (by have := HQ1.out; omega)
    rw [hmr] at this
    exact this)
  have HB5 := hid hb5
  have hlB := lt_of_block hr5
  have HXC : Hid (∀ W, Below w5.heap.size w5 W → BoxX W w1.heap.size c1 (.slice A5 SL k5) ∧ loadAx (.pointer (some ⟨w1.heap.size, 0, none⟩)) W = .ok (.value (.agg C1)) W) := hid (fun W h => by
    have hr := (h.block _ hlB).trans hr5
    refine ⟨?_, loadAx_row hr HZ1.out⟩
    unfold BoxX
    rw [HC1'.out]
    exact hr)
  clear hmr hto hal hb5 hr5 hlB
  have hSL : SL ≤ 21 := by have := HQ1.out; have := HSL.out; omega
  have hL25 : L1 ≤ 25 := by omega
  have c5 := (HXC.out w5 (Below.refl _ _)).1.fr HCO.out
  go_wp2_with fail
  clear c5 i1 h1
  go_loopw [9, 10] (fun st si wr => ∃ i : Nat, i ≤ SL ∧ si = .int .i64 i ∧ st = .bool ((c1.fr.take i).any (fitX l c1)) ∧ Below w5.heap.size w5 wr) (fun _ si _ => SL - (intOf si).toNat)
  case atStart => exact ⟨0, Nat.zero_le _, rfl, rfl, Below.refl _ _⟩
  case round =>
    obtain ⟨i, hi, rfl, rfl, hbr⟩ := hrel
    have c5 := (HXC.out wr hbr).1.fr HCO.out
    obtain ⟨told, HTD⟩ : ∃ q : Bool, Hid ((c1.fr.take i).any (fitX l c1) = q) := ⟨_, hid rfl⟩
    rw [HTD.out]
    by_cases hlt : i < SL
    · have hil : i < c1.fr.length := by rw [HSL.out]; exact hlt
      have hI : (i : Int) < (SL : Int) := by omega
      obtain ⟨gf, of_, rfl, hgf, hclf⟩ := HE5.out.at_.2.2.2 (by omega)
      have HNX := hid (any_snoc (f := fitX l c1) hil)
      rw [HTD.out] at HNX
      have HXM := hid (HTO.out _ (List.getElem_mem hil))
      obtain ⟨x, HXX⟩ : ∃ x : Int, Hid (c1.fr[i] = x) := ⟨_, hid rfl⟩
      rw [HXX.out] at HNX HXM
      have HXF : Hid (∀ W, Below w5.heap.size w5 W → W.cell? ⟨gf, of_ + i, none⟩ = some (.int .i64 x)) := hid (fun W h => by
        have := range_kept (hclf i hil) (h.block gf hgf) 0 _ rfl
        rwa [Nat.mul_one, Nat.add_zero, HXX.out] at this)
      clear hclf hgf
      go_wp2_with fail
      clear c5
      go_loopw [9, 11] (fun st sk wr => st = .bool told ∧ ∃ k : Nat, k ≤ L1 ∧ sk = .int .i64 k ∧ Hid (∀ j (h : j < l.length), j < k → l[j].bo ≠ x) ∧ Below w5.heap.size w5 wr) (fun _ sk _ => L1 - (intOf sk).toNat)
      case atStart => exact ⟨rfl, 0, Nat.zero_le _, rfl, hid (fun j _ h => absurd h (by omega)), hbr⟩
      case round =>
        obtain ⟨rfl, k, hk, rfl, HNO, hbq⟩ := hrel
        by_cases hlk : k < L1
        · have hkl : k < l.length := by rw [HL1.out]; exact hlk
          have hKk : (k : Int) < (L1 : Int) := by omega
          obtain ⟨g, og, rfl, hE⟩ := HE.out (by omega)
          have HEK := hid (fun W (h : Below w5.heap.size w5 W) => hE k hkl W (accu_thru HB5.out h))
          obtain ⟨bo, HBO⟩ : ∃ x : Int, Hid (l[k].bo = x) := ⟨_, hid rfl⟩
          have d0 := (HEK.out wr hbq).2.1
          have d1 := (HXC.out wr hbq).1.fr HCO.out
          have d2 := HXF.out wr hbq
          rw [HBO.out] at d0
          clear hE
          by_cases hbx : bo = x
          · have hd : (bo == x) = true := by simpa using hbx
            have HF := hid (fitX_at (a := c1) hkl (HBO.out.trans hbx) (fun j hj h => HNO.out j hj h))
            have HFD := hid (find_at hkl (HBO.out.trans hbx) (fun j hj h => HNO.out j hj h))
            have HPO := hid (HOK.out _ (List.getElem_mem hkl)).pa
            obtain ⟨pj, HPJ⟩ : ∃ x : Int, Hid (l[k].pv = x) := ⟨_, hid rfl⟩
            obtain ⟨pa, HPB⟩ : ∃ x : List UInt8, Hid (l[k].pa = x) := ⟨_, hid rfl⟩
            obtain ⟨pv, HPV⟩ : ∃ x : Int, Hid (c1.pv = x) := ⟨_, hid rfl⟩
            rw [HPJ.out, HPB.out, HPV.out] at HF
            rw [HPB.out] at HPO
            have hle : pj ≤ pv := by
              obtain ⟨t, _, e, hp⟩ := HXM.out
              rw [HFD.out] at e
              injection e with e
              subst e
              rw [← HPJ.out, ← HPV.out]
              exact hp
            go_upto_region 16 with (fail)
            go_quiet (fail)
            clear d0 d1 d2 hd
            have hbA := below_drewN hbq nq
            generalize wr.drewN nq = wA at *
            have d3 := (HEK.out wA hbA).2.2.2.2.1
            have d4 := (HXC.out wA hbA).1.ints.2.2
            rw [HPJ.out] at d3
            rw [HPV.out] at d4
            have hgt : ¬ pv < pj := by omega
            go_upto_region 17 with (fail)
            go_quiet (fail)
            clear d3 d4 hgt
            have hbB := below_drewN hbA nq
            generalize wA.drewN nq = wB at *
            have HTQ : Hid (∀ q : Bool, decide (pa = c1.pa) = q → ∀ W, (Op.equalIn 10000 27 (.agg (hcells pa)) (.agg (hcells c1.pa))).run Tryd.prog W = .ok q W) := hid (fun q hq W => by
              have := eq_hash pa c1.pa HPO.out HCO.out.pa W
              rw [hq] at this
              exact this)
            cases told with
            | true =>
              go_upto_region 19 with (fail)
              go_quiet (fail)
              go_wp2_with fail
              go_roundw
              case rel => exact ⟨i + 1, by omega, by go_num, by rw [HNX.out, HF.out, Bool.true_or], below_drewN hbB nq⟩
              case measure => simp [intOf]; omega
            | false =>
              have d3 := (HEK.out wB hbB).2.2.2.2.1
              have d4 := (HXC.out wB hbB).1.ints.2.2
              rw [HPJ.out] at d3
              rw [HPV.out] at d4
              by_cases hpp : ¬ pj = pv
              · have hd : (pj == pv) = false := by simpa using hpp
                go_upto_region 19 with (fail)
                go_quiet (fail)
                clear d3 d4 hd
                go_wp2_with fail
                go_roundw
                case rel => exact ⟨i + 1, by omega, by go_num, by rw [HNX.out, HF.out, decide_eq_false hpp, Bool.false_and, Bool.false_or], below_drewN hbB nq⟩
                case measure => simp [intOf]; omega
              have hd : (pj == pv) = true := by simp; omega
              obtain ⟨q, HQP⟩ : ∃ q : Bool, Hid (decide (pa = c1.pa) = q) := ⟨_, hid rfl⟩
              have heq := HTQ.out q HQP.out
              have d6 : ∀ j, loadH (.pointer (some ⟨g, og + k * 101 + 37, none⟩)) (wB.drewN j) = .ok (.value (.agg (hcells pa))) (wB.drewN j) := fun j => by
                have := (HEK.out _ (below_drewN hbB j)).2.2.2.2.2
                rwa [HPB.out] at this
              have d7 : ∀ j, loadH (.pointer (some ⟨w1.heap.size, 3, none⟩)) (wB.drewN j) = .ok (.value (.agg (hcells c1.pa))) (wB.drewN j) := fun j => loadH_mid (HXC.out _ (below_drewN hbB j)).1.pa HCO.out.pa
              obtain ⟨PC, HPC⟩ : ∃ C : Array Value, Hid (hcells pa = C) := ⟨_, hid rfl⟩
              obtain ⟨PD, HPD⟩ : ∃ C : Array Value, Hid (hcells c1.pa = C) := ⟨_, hid rfl⟩
              rw [HPC.out] at d6
              rw [HPD.out] at d7
              rw [HPC.out, HPD.out] at heq
              have hpe : pj = pv := by omega
              go_upto_region 19 with (fail)
              go_quiet (fail)
              clear d3 d4 d6 d7 heq hd
              go_wp2_with fail
              go_roundw
              case rel => exact ⟨i + 1, by omega, by go_num, by rw [HNX.out, HF.out, decide_eq_true hpe, HQP.out, Bool.true_and, Bool.false_or], below_drewN hbB nq⟩
              case measure => simp [intOf]; omega
          · have hd : (bo == x) = false := by simpa using hbx
            have HNB : Hid (l[k].bo ≠ x) := hid (by rw [HBO.out]; exact hbx)
            go_upto_region 16 with (fail)
            go_quiet (fail)
            go_wp2_with fail
            go_roundw
            case rel =>
              refine ⟨rfl, k + 1, by omega, by go_num, hid (fun j h hj => ?_), below_drewN hbq _⟩
              by_cases hjk : j < k
              · exact HNO.out j h hjk
              · obtain rfl : j = k := by omega
                exact HNB.out
            case measure => simp [intOf]; omega
        · have hKk : ¬ (k : Int) < (L1 : Int) := by omega
          have HFN : Hid ((c1.fr.take (i + 1)).any (fitX l c1) = told) := hid (by
            rw [HNX.out, fitX_none (fun j h => HNO.out j h (by have := HL1.out; omega)), Bool.or_false])
          go_wp2_with fail
          go_roundw
          case rel => exact ⟨i + 1, by omega, by go_num, by rw [HFN.out], hbq⟩
          case measure => simp [intOf]; omega
    · have HIL := hid (show i = SL by omega)
      have hI : ¬ (i : Int) < (SL : Int) := by omega
      obtain rfl : told = true := by
        rw [← HTD.out, HIL.out, List.take_of_length_le (by rw [HSL.out]; exact Nat.le_refl _)]
        exact HALL.out
      have a1 := (HAS.out wr (accu_thru HB05.out hbr)).2.1
      have l1 := (HXC.out wr hbr).2
      go_wp2_with fail
      refine (HRX.out wr hbr).mono ?_
      rintro e w7 ⟨rfl, hb7'⟩
      have hB7 := accu_thru HB5.out (accu_thru hbr hb7')
      clear a1 l1 c5
      go_wp2_with fail
      refine (HA.out w7 hB7).mono ?_
      rintro e w8 ⟨rfl, hb8⟩
      go_wp2_with fail
      go_ret
      exact ⟨rfl, accu_thru hB7 hb8⟩
end Go.Proofs.YthgdgkdnidjdgaaDoor
