/-
  The law's small example: two of three that agree make a certificate.
-/
import Derived.Test.YtpnejoglkmfleaaGreatDoorGaCodeAdd
import Derived.Test.YtpnejoglkmfleaaGreatDoorGaCodeD
import Derived.Test.YtpnejoglkmfleaaGreatDoorGaExample
namespace Go.Proofs.YtpnejoglkmfleaaGreatDoor
set_option maxRecDepth 20000
open Go.RowKit
theorem buildGV_run (w : World) : (Instr.build 36 #[(0, .int .i64 2), (1, .int .i64 2), (2, .int .i64 3), (3, .int .i64 2)]).run Tryz.prog w = .ok (.agg (atc (gaV 2))) w := by
  go_simp
  rfl
theorem exec_build_gav (a : Act) (dst : Option Tmp) (ty : TypeId) (pos : String) (after : Array Edge) (guard : Option (Nat × Bool)) (w : World) :
    Sem.run Tryz.prog (execOp a.eval { dst := dst, op := .build 36 #[(0, .const (.int .i64 2)), (1, .const (.int .i64 2)), (2, .const (.int .i64 3)), (3, .const (.int .i64 2))], type := ty, pos := pos, after := after, guard := guard }) w = .ok (.value (.agg (atc (gaV 2)))) w := by
  unfold execOp
  simp [Act.eval, buildGV_run]
attribute [local go_sem ↓] exec_load_att exec_alloc_att exec_store_att exec_build_gav exec_load_ct exec_alloc_ct exec_store_ct
structure AwG (w W : World) (b m g3 g4 : Nat) (L : List AtM) (M N : Array Value) : Prop where
  gt : Gth W b m 3 L
  r3 : W.heap[g3]? = some (.cells M 36 (0, 0))
  r4 : W.heap[g4]? = some (.cells N 36 (0, 0))
  bel : Below w.heap.size w W
  hm : w.heap.size ≤ m
section
variable {w W W' : World} {b m g3 g4 : Nat} {L L' : List AtM} {M N : Array Value}
theorem Gth.ne {k : Nat} {C : Array Value} {T : TypeId} {n : Int} (h : Gth W b m n L) (hk : W.heap[k]? = some (.cells C T (0, 0))) : k ≠ m := by
  rintro rfl
  obtain ⟨P, c, h, _⟩ := h
  have := hk.symm.trans h.q
  cases this
theorem AwG.below (h : AwG w W b m g3 g4 L M N) (hb : Below W.heap.size W W') : AwG w W' b m g3 g4 L M N :=
  ⟨h.gt.below hb, (hb.block _ (lt_of_block h.r3)).trans h.r3, (hb.block _ (lt_of_block h.r4)).trans h.r4, h.bel.trans (hb.mono h.bel.size), h.hm⟩
theorem AwG.turn (h : AwG w W b m g3 g4 L M N) (h2 : Gth W' b m 3 L') (hg : W.grownBy W' (some m)) : AwG w W' b m g3 g4 L' M N :=
  ⟨h2, (hg.block _ (lt_of_block h.r3) (fun e => h.gt.ne h.r3 (by injection e))).trans h.r3, (hg.block _ (lt_of_block h.r4) (fun e => h.gt.ne h.r4 (by injection e))).trans h.r4,
    h.bel.grown hg h.bel.size (fun k e => by injection e with e; rw [← e]; exact h.hm), h.hm⟩
end
theorem ctc_sigs (c : CtM) (s : Value) (h : c.att.Ok) : (ctc c s)[101]? = some s := by
  unfold ctc
  rw [List.getElem?_toArray, List.getElem?_append_right (by rw [atl_length h]; exact Nat.le_refl _), atl_length h]
  rfl
set_option maxHeartbeats 12800000 in
theorem gaAwake_any (w : World) (hK : Kst 0 w) : Calls Tryz.prog 4 #[] w fun e w' => e = .returned (.bool true) ∧ Below w.heap.size w w' := by
  obtain ⟨x, HX⟩ : ∃ x : AtM, Hid (signA (gaV 2) = x) := ⟨_, hid rfl⟩
  obtain ⟨y, HY⟩ : ∃ y : AtM, Hid (signA (gaV 3) = y) := ⟨_, hid rfl⟩
  have HRX : Hid (rightA (gaT 2 (tagA (gaV 2))) = true) := hid (by rw [← signA_gaT]; exact right_sign gaV_may2)
  have HRY : Hid (rightA (gaT 3 (tagA (gaV 3))) = true) := hid (by rw [← signA_gaT]; exact right_sign gaV_may3)
  have HXO : Hid x.Ok := hid (by rw [← HX.out]; exact signA_ok (gaV_ok 2))
  have HYO : Hid y.Ok := hid (by rw [← HY.out]; exact signA_ok (gaV_ok 3))
  have HAD1 : Hid (addG 3 [] x = ([x], 0)) := hid (by rw [← HX.out, signA_gaT]; exact ga_add1 _ HRX.out)
  have HAD2 : Hid (addG 3 [x] y = ([x, y], 0)) := hid (by rw [← HX.out, ← HY.out, signA_gaT, signA_gaT]; exact ga_add2 _ _ HRY.out)
  have HCE1 : Hid (certG 3 [x] 2 3 = (ctZ, false)) := hid (by rw [← HX.out, signA_gaT]; exact ga_cert1 _ HRX.out)
  have HCE2 : Hid ((certG 3 [x, y] 2 3).2 = true ∧ (certG 3 [x, y] 2 3).1.sg.length = 2) := hid (by rw [← HX.out, ← HY.out, signA_gaT, signA_gaT]; exact ga_cert2 _ _ HRX.out HRY.out)
  have HOK0 : Hid (OkG 3 []) := hid (OkG.nil (by decide))
  have HOK1 : Hid (OkG 3 [x]) := hid (by have := HOK0.out.add (a := x) HXO.out; rw [HAD1.out] at this; exact this)
  have HOK2 : Hid (OkG 3 [x, y]) := hid (by have := HOK1.out.add (a := y) HYO.out; rw [HAD2.out] at this; exact this)
  have HKB : Hid (∀ W, Below w.heap.size w W → Kst 0 W) := hid (fun W h => hK.below h)
  have HS2 : Hid (∀ W, Below w.heap.size w W → Calls Tryz.prog 18 #[.agg (atc (gaV 2))] W fun e w' => e = .returned (.agg (atc x)) ∧ Below W.heap.size W w') := hid (fun W h => by rw [← HX.out]; exact atSign_ok _ W (gaV_ok 2) gaV_may2 (HKB.out W h))
  have HS3 : Hid (∀ W, Below w.heap.size w W → Calls Tryz.prog 18 #[.agg (atc (gaV 3))] W fun e w' => e = .returned (.agg (atc y)) ∧ Below W.heap.size W w') := hid (fun W h => by rw [← HY.out]; exact atSign_ok _ W (gaV_ok 3) gaV_may3 (HKB.out W h))
  have HNW := hid (gNew_yes 3 w rfl (by decide))
  obtain ⟨Z, HZ⟩ : ∃ C : Array Value, Hid (atc atZ = C) := ⟨_, hid rfl⟩
  have HAL : Hid (∀ W, allocAtt W = .ok (.value (.pointer (some ⟨W.heap.size, 0, none⟩))) (W.alloc (.cells Z 36))) := hid (fun W => by rw [← HZ.out]; exact allocAtt_eq W)
  have HZS : Hid (Z.size = 101) := hid (by rw [← HZ.out]; exact atc_size atZ_ok)
  obtain ⟨ZC, HZC⟩ : ∃ C : Array Value, Hid (ctc ctZ (.slice none 0 0) = C) := ⟨_, hid rfl⟩
  have HAC : Hid (∀ W, allocCt W = .ok (.value (.pointer (some ⟨W.heap.size, 0, none⟩))) (W.alloc (.cells ZC 40))) := hid (fun W => by rw [← HZC.out]; exact allocCt_eq W)
  have HZCS : Hid (ZC.size = 102) := hid (by rw [← HZC.out]; exact ctc_size _ atZ_ok)
  obtain ⟨M, HM⟩ : ∃ C : Array Value, Hid (atc (gaV 2) = C) := ⟨_, hid rfl⟩
  obtain ⟨N, HN⟩ : ∃ C : Array Value, Hid (atc (gaV 3) = C) := ⟨_, hid rfl⟩
  have HMS : Hid (M.size = 101 ∧ M.all (·.oneCell') = true) := hid (by rw [← HM.out]; exact ⟨atc_size (gaV_ok 2), atc_one _⟩)
  have HNS : Hid (N.size = 101 ∧ N.all (·.oneCell') = true) := hid (by rw [← HN.out]; exact ⟨atc_size (gaV_ok 3), atc_one _⟩)
  have HMN : Hid (M.setIfInBounds 0 (.int .i64 3) = N) := hid (by rw [← HM.out, ← HN.out]; exact atc_bo _ 3)
  have HM0 : Hid (M[0]? = some (.int .i64 2)) := hid (by rw [← HM.out]; rfl)
  rw [HM.out] at HS2
  rw [HN.out] at HS3
  clear hK
  go_enter Tryz.func4, Tryz.ntmps4
  go_wp2_with fail
  refine HNW.out.mono ?_
  rintro e w1 ⟨b, m, rfl, hgt, hb1, _, hm⟩
  have HGT := hid hgt
  have HB1 := hid hb1
  have HMM := hid hm
  have hal := HAL.out w1
  have hal2 := HAL.out (w1.alloc (.cells M 36))
  have hs1 := att_var w1 HZS.out HMS.out.1 HMS.out.2
  have hr1 := heap_alloc_new w1 (.cells M 36)
  have l1 := loadAtt_row hr1 HMS.out.1
  have hs2 := att_var (w1.alloc (.cells M 36)) HZS.out HMS.out.1 HMS.out.2
  rw [show (w1.alloc (.cells M 36)).heap.size = w1.heap.size + 1 from by simp] at hs2 hal2
  have hr3 := heap2 w1 (.cells M 36) (.cells M 36)
  have hf3 := free_blk hr3 0
  have hc3 := (cell_blk hr3 0).trans HM0.out
  have hr2' := heap1 w1 (.cells M 36) (.cells N 36)
  have hr3' := heap2 w1 (.cells M 36) (.cells N 36)
  have hb3 : Below w1.heap.size w1 ((w1.alloc (.cells M 36)).alloc (.cells N 36)) := ((Below.refl _ _).alloc (Nat.le_refl _) _).alloc (by simp) _
  have HA := hid (⟨HGT.out.below hb3, hr2', hr3', HB1.out.trans (hb3.mono HB1.out.size), HMM.out⟩ : AwG w ((w1.alloc (.cells M 36)).alloc (.cells N 36)) b m w1.heap.size (w1.heap.size + 1) [] M N)
  have hme := HM.out
  clear hr1 hr3 hgt hb1 hm hr2' hr3' hb3
  go_upto_region 7 with (fail)
  rw [HMN.out]
  generalize ((w1.alloc (.cells M 36)).alloc (.cells N 36)) = w3 at *
  clear hs1 l1 hs2 hf3 hc3 hal hal2 hme
  generalize w1.heap.size = g3 at *
  have l3 := loadAtt_row HA.out.r3 HMS.out.1
  go_wp2_with fail
  refine (HS2.out w3 HA.out.bel).mono ?_
  rintro e w4 ⟨rfl, hb4⟩
  have HA4 := hid (HA.out.below hb4)
  clear l3 hb4
  have HD1 := hid (gAdd_any HA4.out.gt HOK0.out x HXO.out (HKB.out _ HA4.out.bel))
  rw [HAD1.out] at HD1
  go_wp2_with fail
  refine HD1.out.mono ?_
  rintro e w5 ⟨rfl, hgt5, hg5⟩
  have HA5 := hid (HA4.out.turn hgt5 hg5)
  have HE5 := hid (gCert_any HA5.out.gt HOK1.out 2 3 (HKB.out _ HA5.out.bel))
  rw [HCE1.out] at HE5
  clear hgt5 hg5
  go_wp2_with fail
  refine HE5.out.mono ?_
  rintro e w6 ⟨v6, rfl, ⟨s6, rfl, hok6, hv6⟩, hb6⟩
  have HA6 := hid (HA5.out.below hb6)
  obtain ⟨Y6, HY6⟩ : ∃ C : Array Value, Hid (ctc ctZ s6 = C) := ⟨_, hid rfl⟩
  have HYS6 : Hid (Y6.size = 102 ∧ Y6.all (·.oneCell') = true) := hid (by rw [← HY6.out]; exact ⟨ctc_size _ hok6.att, ctc_one (c := ctZ) (w := w6) hv6⟩)
  rw [HY6.out]
  have hac6 := HAC.out w6
  have hst6 := ct_var w6 HZCS.out HYS6.out.1 HYS6.out.2
  clear hok6 hv6 hb6
  go_upto_region 9 with (fail)
  have HA7 := hid (HA6.out.below ((Below.refl w6.heap.size w6).alloc (Nat.le_refl _) (.cells Y6 40)))
  clear hac6 hst6
  generalize (w6.alloc (.cells Y6 40)) = w7 at *
  have l4 := loadAtt_row HA7.out.r4 HNS.out.1
  go_wp2_with fail
  refine (HS3.out w7 HA7.out.bel).mono ?_
  rintro e w8 ⟨rfl, hb8⟩
  have HA8 := hid (HA7.out.below hb8)
  clear l4 hb8
  have HD2 := hid (gAdd_any HA8.out.gt HOK1.out y HYO.out (HKB.out _ HA8.out.bel))
  rw [HAD2.out] at HD2
  go_wp2_with fail
  refine HD2.out.mono ?_
  rintro e w9 ⟨rfl, hgt9, hg9⟩
  have HA9 := hid (HA8.out.turn hgt9 hg9)
  have HE9 := hid (gCert_any HA9.out.gt HOK2.out 2 3 (HKB.out _ HA9.out.bel))
  obtain ⟨cg, HCG⟩ : ∃ q : CtM × Bool, Hid (certG 3 [x, y] 2 3 = q) := ⟨_, hid rfl⟩
  rw [HCG.out] at HE9 HCE2
  obtain ⟨ct, cb⟩ := cg
  obtain rfl : cb = true := HCE2.out.1
  have HCL : Hid (ct.sg.length = 2) := hid HCE2.out.2
  clear hgt9 hg9
  go_wp2_with fail
  refine HE9.out.mono ?_
  rintro e w10 ⟨v10, rfl, ⟨s10, rfl, hok10, hv10⟩, hb10⟩
  have HA10 := hid (HA9.out.below hb10)
  obtain ⟨A10, c10, rfl⟩ := hv10.shape
  rw [HCL.out] at hv10 ⊢
  obtain ⟨Y10, HY10⟩ : ∃ C : Array Value, Hid (ctc ct (.slice A10 2 c10) = C) := ⟨_, hid rfl⟩
  have HYS10 : Hid (Y10.size = 102 ∧ Y10.all (·.oneCell') = true) := hid (by rw [← HY10.out]; exact ⟨ctc_size _ hok10.att, ctc_one (c := ct) (w := w10) hv10⟩)
  have HYF : Hid (Y10[101]? = some (.slice A10 2 c10)) := hid (by rw [← HY10.out]; exact ctc_sigs ct _ hok10.att)
  rw [HY10.out]
  have hac10 := HAC.out w10
  have hst10 := ct_var w10 HZCS.out HYS10.out.1 HYS10.out.2
  clear hok10 hv10 hb10
  go_upto_region 11 with (fail)
  have HA11 := hid (HA10.out.below ((Below.refl w10.heap.size w10).alloc (Nat.le_refl _) (.cells Y10 40)))
  have c11 := (cell_blk (heap_alloc_new w10 (.cells Y10 40)) 101).trans HYF.out
  clear hac10 hst10
  generalize (w10.alloc (.cells Y10 40)) = w11 at *
  have HALL := hid (gAll_any HA11.out.gt HOK2.out)
  go_wp2_with fail
  refine HALL.out.mono ?_
  rintro e w12 ⟨v12, rfl, ho12, hb12⟩
  obtain ⟨A12, c12, rfl⟩ := ho12.shape
  have HA12 := hid (HA11.out.below hb12)
  clear ho12 hb12
  go_wp2_with fail
  go_ret
  exact ⟨rfl, HA12.out.bel⟩
end Go.Proofs.YtpnejoglkmfleaaGreatDoor
