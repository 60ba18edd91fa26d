/-
  CertMakes: the certificate of any attestations; what is made is right: the law's walk, from what cert's functions tell. Printed with gencmakesw.py.
-/
import Derived.Test.YtnancafpecfcjaaDoorCtAwakeOk
import Derived.Test.YtnancafpecfcjaaDoorCtMake
import Derived.Test.YtnancafpecfcjaaDoorBs12
import Derived.Test.YtnancafpecfcjaaDoorBs6
import Derived.Deep.DeepCutAuto
namespace Go.Proofs.YtnancafpecfcjaaDoor
set_option maxRecDepth 20000
open Go.RowKit
attribute [local go_sem ↓] exec_load_ct exec_alloc_ct exec_store_ct

set_option maxHeartbeats 6400000 in
theorem lawCertMakes_any (hM : CtMakeOk) (hR : CtRightOk) (hG : CtSignersOk) (hA : CtAwakeOk) (n : Int) (v : Value) (l : List AtM) (w : World) (hn : (Lit.int .i64 n).wf = true) (hv : Els atl 101 w v l) (ho : ∀ x ∈ l, x.Ok) (hK1 : Kst 0 w) (hK0 : Kst 1 w) :
    Calls Tryd.prog 3 #[.int .i64 n, v] w fun e w' => e = .returned (.bool true) ∧ Below w.heap.size w w' := by
  have HA := hid (fun W (h : Below w.heap.size w W) => hA W (hK1.below h))
  have HM1 : Hid (l.length ≤ 1000 → ∀ W, Below w.heap.size w W → Calls Tryd.prog 8 #[.int .i64 n, v] W fun e w' => ∃ x, e = .returned (.tuple #[x, .int .i64 (makeC n l).2]) ∧ CtV w' x (makeC n l).1 ∧ Below W.heap.size W w') := hid (fun h W hb => hM n v l W hn (hv.below hb) ho h (hK1.below hb))
  have HM2 : Hid (l.length ≤ 1000 → ∀ W, Below w.heap.size w W → Calls Tryd.prog 9 #[.int .i64 n, v] W fun e w' => ∃ x, e = .returned (.tuple #[x, .int .i64 (makeC n l).2]) ∧ CtV w' x (makeC n l).1 ∧ Below W.heap.size W w') := hid (fun h W hb => refMake9_any n v l W (hv.below hb) ho h (hK0.below hb))
  have HRC : Hid (∀ W x c, Below w.heap.size w W → CtV W x c → c.sg.length ≤ 1000 → Calls Tryd.prog 11 #[.int .i64 n, x] W fun e w' => e = .returned (.bool (rightC n c)) ∧ Below W.heap.size W w') := hid (fun W x c h hx hl => hR n x c W hn hx hl (hK1.below h))
  obtain ⟨A1, k1, rfl⟩ := hv.shape
  obtain ⟨L1, HL1⟩ : ∃ n : Nat, Hid (l.length = n) := ⟨_, hid rfl⟩
  obtain ⟨Z, HZ⟩ : ∃ C : Array Value, Hid (ctc ctZ (.slice none 0 0) = C) := ⟨_, hid rfl⟩
  have HAL : Hid (∀ W, allocCt W = .ok (.value (.pointer (some ⟨W.heap.size, 0, none⟩))) (W.alloc (.cells Z 30))) := hid (fun W => by rw [← HZ.out]; exact allocCt_eq W)
  have HSZ : Hid (Z.size = 102) := hid (by rw [← HZ.out]; exact ctc_size _ atZ_ok)
  obtain ⟨e1, HE1⟩ : ∃ k : Int, Hid ((makeC n l).2 = k) := ⟨_, hid rfl⟩
  obtain ⟨c1, HC1⟩ : ∃ k : CtM, Hid ((makeC n l).1 = k) := ⟨_, hid rfl⟩
  have HQ1 : Hid (c1.sg.length ≤ 1000) := hid (by rw [← HC1.out]; exact made_len)
  have HMR : Hid (e1 = 0 → rightC n c1 = true) := hid (fun h => by
    rw [← HC1.out]
    exact made_right (by rw [HE1.out]; exact h))
  rw [HL1.out, HE1.out, HC1.out] at HM1 HM2
  rw [HL1.out]
  clear hv ho hK1 hK0 hn
  go_enter Tryd.func3, Tryd.ntmps3
  by_cases h1 : 25 < L1
  · have i1 : (25 : Int) < (L1 : Int) := by omega
    go_wp2_with fail
    refine (HA.out w (Below.refl _ _)).mono ?_
    rintro e w1 ⟨rfl, hb1⟩
    go_wp2_with fail
    go_ret
    exact ⟨rfl, hb1⟩
  have i1 : ¬ (25 : Int) < (L1 : Int) := by omega
  go_wp2_with fail
  refine (HM1.out (by omega) w (Below.refl _ _)).mono ?_
  rintro e w1 ⟨x1, rfl, hc1, hb1⟩
  obtain ⟨s1, rfl, hk1, hel1⟩ := hc1
  have HT1 := hid (ctc_one (c := c1) hel1)
  have HV1 : Hid (CtV w1 (.agg (ctc c1 s1)) c1) := hid ⟨_, rfl, hk1, hel1⟩
  have HZ1 := hid (ctc_size s1 hk1.att)
  obtain ⟨A5, k5, rfl⟩ := hel1.shape
  obtain ⟨SL, HSL⟩ : ∃ n : Nat, Hid (c1.sg.length = n) := ⟨_, hid rfl⟩
  have HCS : Hid ((ctc c1 (.slice A5 c1.sg.length k5))[101]? = some (.slice A5 SL k5)) := hid (by
    unfold ctc
    rw [List.getElem?_toArray, List.getElem?_append_right (by rw [atl_length hk1.att]; omega), atl_length hk1.att, HSL.out]
    rfl)
  obtain ⟨C1, HC1'⟩ : ∃ C : Array Value, Hid (ctc c1 (.slice A5 c1.sg.length k5) = C) := ⟨_, hid rfl⟩
  rw [HC1'.out] at HT1 HV1 HZ1 HCS ⊢
  have hs1 := ct_var w1 HSZ.out HZ1.out HT1.out
  have hal := HAL.out
  have hr1 := heap_alloc_new w1 (.cells C1 30)
  have hbA : Below w1.heap.size w1 (w1.alloc (.cells C1 30)) := (Below.refl _ _).alloc (Nat.le_refl _) _
  have hb2 := hb1.trans (hbA.mono hb1.size)
  have HV2 := hid (HV1.out.below hbA)
  clear hk1 hel1
  go_upto_region 4 with (fail)
  generalize (w1.alloc (.cells C1 30)) = w2 at *
  clear hs1 hal hbA hb1
  go_wp2_with fail
  refine (HM2.out (by omega) w2 hb2).mono ?_
  rintro e w3 ⟨x2, rfl, hc2, hb3'⟩
  have hb3 := hb2.trans (hb3'.mono hb2.size)
  have hr3 := (hb3'.block _ (lt_of_block hr1)).trans hr1
  have HV3 := hid (HV2.out.below hb3')
  obtain ⟨s2, rfl, hk2, hel2⟩ := hc2
  have HT2 := hid (ctc_one (c := c1) hel2)
  have HU3 : Hid (CtV w3 (.agg (ctc c1 s2)) c1) := hid ⟨_, rfl, hk2, hel2⟩
  have HZ2 := hid (ctc_size s2 hk2.att)
  obtain ⟨C2, HC2'⟩ : ∃ C : Array Value, Hid (ctc c1 s2 = C) := ⟨_, hid rfl⟩
  rw [HC2'.out] at HT2 HU3 HZ2 ⊢
  have hs2 := ct_var w3 HSZ.out HZ2.out HT2.out
  have hal := HAL.out
  have hr4 := heap_alloc_new w3 (.cells C2 30)
  have hbA : Below w3.heap.size w3 (w3.alloc (.cells C2 30)) := (Below.refl _ _).alloc (Nat.le_refl _) _
  have hb4 := hb3.trans (hbA.mono hb3.size)
  have hr1' := (hbA.block _ (lt_of_block hr3)).trans hr3
  have HV4 := hid (HV3.out.below hbA)
  have HU4 := hid (HU3.out.below hbA)
  clear hk2 hel2 hr3 hr1
  go_upto_region 5 with (fail)
  generalize (w3.alloc (.cells C2 30)) = w4 at *
  clear hs2 hal hbA hb3 hb3' hb2
  have l1 := loadCt_row hr1' HZ1.out
  have l2 := loadCt_row hr4 HZ2.out
  have HSA : Hid (Calls Tryd.prog 10 #[.agg C1, .agg C2] w4 fun e w' => e = .returned (.bool true) ∧ Below w4.heap.size w4 w') := hid (by
    have := refSame9_any _ _ c1 c1 w4 HV4.out HU4.out
    rw [decide_eq_true (rfl : c1 = c1)] at this
    exact this)
  go_wp2_with fail
  refine HSA.out.mono ?_
  rintro e w5 ⟨rfl, hb5'⟩
  have hb5 := hb4.trans (hb5'.mono hb4.size)
  have hr5 := (hb5'.block _ (lt_of_block hr1')).trans hr1'
  have HV5 := hid (HV4.out.below hb5')
  clear l1 l2 hr1' hr4 hb4 hb5'
  have hbd : Below w5.heap.size w5 w5.drew := (Below.refl _ _).drew
  have HRW : Hid (∀ W, Below w5.heap.size w5 W → W.heap[w1.heap.size]? = some (.cells C1 30 (0, 0))) := hid (fun W h => (h.block _ (lt_of_block hr5)).trans hr5)
  have HLD : Hid (∀ W : World, W.heap[w1.heap.size]? = some (.cells C1 30 (0, 0)) → loadCt (.pointer (some ⟨w1.heap.size, 0, none⟩)) W = .ok (.value (.agg C1)) W ∧ W.cell? ⟨w1.heap.size, 101, none⟩ = some (.slice A5 SL k5)) := hid (fun W h => ⟨loadCt_row h HZ1.out, (cell_blk h 101).trans HCS.out⟩)
  have HR1 : Hid (∀ W, Below w5.heap.size w5 W → Calls Tryd.prog 11 #[.int .i64 n, .agg C1] W fun e w' => e = .returned (.bool (rightC n c1)) ∧ Below W.heap.size W w') := hid (fun W h => HRC.out W _ c1 (hb5.trans (h.mono hb5.size)) (HV5.out.below h) HQ1.out)
  have HG1 : Hid (∀ W, Below w5.heap.size w5 W → Calls Tryd.prog 12 #[.agg C1] W fun e w' => ∃ x, e = .returned x ∧ Els icl 1 w' x (c1.sg.map (·.bo)) ∧ Below W.heap.size W w') := hid (fun W h => hG _ c1 W (HV5.out.below h) HQ1.out)
  have HML : Hid ((c1.sg.map (·.bo)).length = SL) := hid (by rw [List.length_map, HSL.out])
  go_upto_region 7 with (fail)
  clear hr5 i1 h1
  by_cases he1 : ¬ e1 = 0
  · have j1 : (e1 != 0) = true := by simpa using he1
    refine wp_region_held_drew (S := fun W => W.heap[w1.heap.size]? = some (.cells C1 30 (0, 0))) (by kernel_rfl) (HRW.out _ hbd) (fun hHeld => ?_)
    refine' take_on (i := 0) (v := _) rfl (by kernel_rfl) (by kernel_rfl) (by kernel_rfl) (fun _ _ _ h => h) (by rfl) ?_ (by assumption) ?_
    rotate_left
    · (intro W hW; (try dsimp only at hW); go_simp; first | done | with_reducible rfl)
    try simp only [Act.put, List.setIfInBounds_toArray, List.set_cons_zero, List.set_cons_succ]
    refine' take_on (i := 1) (v := _) rfl (by kernel_rfl) (by kernel_rfl) (by kernel_rfl) (fun _ _ _ h => h) (by rfl) ?_ (by assumption) ?_
    rotate_left
    · (intro W hW; (try dsimp only at hW); go_simp; first | done | with_reducible rfl)
    try simp only [Act.put, List.setIfInBounds_toArray, List.set_cons_zero, List.set_cons_succ]
    refine' take_on (i := 2) (v := _) rfl (by kernel_rfl) (by kernel_rfl) (by kernel_rfl) (fun _ _ _ h => h) (by rfl) ?_ (by assumption) ?_
    rotate_left
    · (intro W hW; (try dsimp only at hW); go_simp; first | done | with_reducible rfl)
    try simp only [Act.put, List.setIfInBounds_toArray, List.set_cons_zero, List.set_cons_succ]
    refine take_off (i := 3) rfl (by kernel_rfl) (by kernel_rfl) (by kernel_rfl) (fun _ _ _ h => h) (by rfl) (by assumption) ?_
    try simp only [Act.put, List.setIfInBounds_toArray, List.set_cons_zero, List.set_cons_succ]
    refine take_off (i := 4) rfl (by kernel_rfl) (by kernel_rfl) (by kernel_rfl) (fun _ _ _ h => h) (by rfl) (by assumption) ?_
    try simp only [Act.put, List.setIfInBounds_toArray, List.set_cons_zero, List.set_cons_succ]
    refine take_off (i := 5) rfl (by kernel_rfl) (by kernel_rfl) (by kernel_rfl) (fun _ _ _ h => h) (by rfl) (by assumption) ?_
    try simp only [Act.put, List.setIfInBounds_toArray, List.set_cons_zero, List.set_cons_succ]
    refine take_off (i := 6) rfl (by kernel_rfl) (by kernel_rfl) (by kernel_rfl) (fun _ _ _ h => h) (by rfl) (by assumption) ?_
    try simp only [Act.put, List.setIfInBounds_toArray, List.set_cons_zero, List.set_cons_succ]
    refine take_off (i := 7) rfl (by kernel_rfl) (by kernel_rfl) (by kernel_rfl) (fun _ _ _ h => h) (by rfl) (by assumption) ?_
    try simp only [Act.put, List.setIfInBounds_toArray, List.set_cons_zero, List.set_cons_succ]
    refine take_off (i := 8) rfl (by kernel_rfl) (by kernel_rfl) (by kernel_rfl) (fun _ _ _ h => h) (by rfl) (by assumption) ?_
    try simp only [Act.put, List.setIfInBounds_toArray, List.set_cons_zero, List.set_cons_succ]
    refine take_off (i := 9) rfl (by kernel_rfl) (by kernel_rfl) (by kernel_rfl) (fun _ _ _ h => h) (by rfl) (by assumption) ?_
    try simp only [Act.put, List.setIfInBounds_toArray, List.set_cons_zero, List.set_cons_succ]
    refine take_off (i := 10) rfl (by kernel_rfl) (by kernel_rfl) (by kernel_rfl) (fun _ _ _ h => h) (by rfl) (by assumption) ?_
    try simp only [Act.put, List.setIfInBounds_toArray, List.set_cons_zero, List.set_cons_succ]
    refine take_off (i := 11) rfl (by kernel_rfl) (by kernel_rfl) (by kernel_rfl) (fun _ _ _ h => h) (by rfl) (by assumption) ?_
    try simp only [Act.put, List.setIfInBounds_toArray, List.set_cons_zero, List.set_cons_succ]
    refine take_off (i := 12) rfl (by kernel_rfl) (by kernel_rfl) (by kernel_rfl) (fun _ _ _ h => h) (by rfl) (by assumption) ?_
    try simp only [Act.put, List.setIfInBounds_toArray, List.set_cons_zero, List.set_cons_succ]
    refine take_off (i := 13) rfl (by kernel_rfl) (by kernel_rfl) (by kernel_rfl) (fun _ _ _ h => h) (by rfl) (by assumption) ?_
    try simp only [Act.put, List.setIfInBounds_toArray, List.set_cons_zero, List.set_cons_succ]
    refine take_off (i := 14) rfl (by kernel_rfl) (by kernel_rfl) (by kernel_rfl) (fun _ _ _ h => h) (by rfl) (by assumption) ?_
    try simp only [Act.put, List.setIfInBounds_toArray, List.set_cons_zero, List.set_cons_succ]
    refine' take_on (i := 15) (v := _) rfl (by kernel_rfl) (by kernel_rfl) (by kernel_rfl) (fun _ _ _ h => h) (by rfl) ?_ (by assumption) ?_
    rotate_left
    · (intro W hW; (try dsimp only at hW); go_simp; first | done | with_reducible rfl)
    try simp only [Act.put, List.setIfInBounds_toArray, List.set_cons_zero, List.set_cons_succ]
    refine' take_on (i := 16) (v := _) rfl (by kernel_rfl) (by kernel_rfl) (by kernel_rfl) (fun _ _ _ h => h) (by rfl) ?_ (by assumption) ?_
    rotate_left
    · (intro W hW; (try dsimp only at hW); go_simp; first | done | with_reducible rfl)
    try simp only [Act.put, List.setIfInBounds_toArray, List.set_cons_zero, List.set_cons_succ]
    refine call_on (i := 17) rfl (by kernel_rfl) (by rfl) (fun K hK => ?_)
    go_simp
    refine (HA.out w5.drew (hb5.trans (hbd.mono hb5.size))).mono ?_
    rintro e w6 ⟨rfl, hb6'⟩
    have hb6 := hbd.trans (hb6'.mono hbd.size)
    refine hK.out _ _ (HRW.out _ hb6) (fun hHeld => ?_)
    clear hK K
    try simp only [Act.put, List.setIfInBounds_toArray, List.set_cons_zero, List.set_cons_succ]
    refine' take_on (i := 18) (v := _) rfl (by kernel_rfl) (by kernel_rfl) (by kernel_rfl) (fun _ _ _ h => h) (by rfl) ?_ (by assumption) ?_
    rotate_left
    · (intro W hW; (try dsimp only at hW); go_simp; first | done | with_reducible rfl)
    try simp only [Act.put, List.setIfInBounds_toArray, List.set_cons_zero, List.set_cons_succ]
    refine' take_on (i := 19) (v := _) rfl (by kernel_rfl) (by kernel_rfl) (by kernel_rfl) (fun _ _ _ h => h) (by rfl) ?_ (by assumption) ?_
    rotate_left
    · (intro W hW; (try dsimp only at hW); go_simp; first | done | with_reducible rfl)
    try simp only [Act.put, List.setIfInBounds_toArray, List.set_cons_zero, List.set_cons_succ]
    refine wpAnyH_done (by kernel_rfl) ?_ _
    have HB := hid (hb5.trans (hb6.mono hb5.size))
    clear hHeld
    go_wp2_with fail
    go_ret
    exact ⟨rfl, HB.out⟩
  obtain rfl : e1 = 0 := by omega
  rw [HMR.out rfl] at HR1
  refine wp_region_held_drew (S := fun W => W.heap[w1.heap.size]? = some (.cells C1 30 (0, 0))) (by kernel_rfl) (HRW.out _ hbd) (fun hHeld => ?_)
  refine' take_on (i := 0) (v := _) rfl (by kernel_rfl) (by kernel_rfl) (by kernel_rfl) (fun _ _ _ h => h) (by rfl) ?_ (by assumption) ?_
  rotate_left
  · (intro W hW; (try dsimp only at hW); go_simp; first | done | with_reducible rfl)
  try simp only [Act.put, List.setIfInBounds_toArray, List.set_cons_zero, List.set_cons_succ]
  refine' take_on (i := 1) (v := _) rfl (by kernel_rfl) (by kernel_rfl) (by kernel_rfl) (fun _ _ _ h => h) (by rfl) ?_ (by assumption) ?_
  rotate_left
  · (intro W hW; (try dsimp only at hW); go_simp; first | done | with_reducible rfl)
  try simp only [Act.put, List.setIfInBounds_toArray, List.set_cons_zero, List.set_cons_succ]
  refine' take_on (i := 2) (v := _) rfl (by kernel_rfl) (by kernel_rfl) (by kernel_rfl) (fun _ _ _ h => h) (by rfl) ?_ (by assumption) ?_
  rotate_left
  · (intro W hW; (try dsimp only at hW); go_simp; first | done | with_reducible rfl)
  try simp only [Act.put, List.setIfInBounds_toArray, List.set_cons_zero, List.set_cons_succ]
  refine' take_on (i := 3) (v := _) rfl (by kernel_rfl) (by kernel_rfl) (by kernel_rfl) (fun _ _ _ h => h) (by rfl) ?_ (by assumption) ?_
  rotate_left
  · (intro W hW; (try dsimp only at hW); go_simp; first | done | with_reducible rfl)
  try simp only [Act.put, List.setIfInBounds_toArray, List.set_cons_zero, List.set_cons_succ]
  refine' take_on (i := 4) (v := _) rfl (by kernel_rfl) (by kernel_rfl) (by kernel_rfl) (fun _ _ _ h => h) (by rfl) (fun W hW => (HLD.out W hW).1) (by assumption) ?_
  try simp only [Act.put, List.setIfInBounds_toArray, List.set_cons_zero, List.set_cons_succ]
  refine call_on (i := 5) rfl (by kernel_rfl) (by rfl) (fun K hK => ?_)
  go_simp
  refine (HR1.out w5.drew hbd).mono ?_
  rintro e w6 ⟨rfl, hb6'⟩
  have hb6 := hbd.trans (hb6'.mono hbd.size)
  refine hK.out _ _ (HRW.out _ hb6) (fun hHeld => ?_)
  clear hK K
  try simp only [Act.put, List.setIfInBounds_toArray, List.set_cons_zero, List.set_cons_succ]
  refine' take_on (i := 6) (v := _) rfl (by kernel_rfl) (by kernel_rfl) (by kernel_rfl) (fun _ _ _ h => h) (by rfl) ?_ (by assumption) ?_
  rotate_left
  · (intro W hW; (try dsimp only at hW); go_simp; first | done | with_reducible rfl)
  try simp only [Act.put, List.setIfInBounds_toArray, List.set_cons_zero, List.set_cons_succ]
  refine' take_on (i := 7) (v := _) rfl (by kernel_rfl) (by kernel_rfl) (by kernel_rfl) (fun _ _ _ h => h) (by rfl) (fun W hW => (HLD.out W hW).1) (by assumption) ?_
  try simp only [Act.put, List.setIfInBounds_toArray, List.set_cons_zero, List.set_cons_succ]
  refine' take_on (i := 10) (v := _) rfl (by kernel_rfl) (by kernel_rfl) (by kernel_rfl) (fun _ _ _ h => h) (by rfl) ?_ (by assumption) ?_
  rotate_left
  · (intro W hW; (try dsimp only at hW); go_simp; first | done | with_reducible rfl)
  try simp only [Act.put, List.setIfInBounds_toArray, List.set_cons_zero, List.set_cons_succ]
  refine' take_on (i := 11) (v := _) rfl (by kernel_rfl) (by kernel_rfl) (by kernel_rfl) (fun _ _ _ h => h) (by rfl) ?_ (by assumption) ?_
  rotate_left
  · (intro W hW; (try dsimp only at hW); have hW1 := (HLD.out W hW).2; go_simp; first | done | with_reducible rfl)
  try simp only [Act.put, List.setIfInBounds_toArray, List.set_cons_zero, List.set_cons_succ]
  refine' take_on (i := 12) (v := _) rfl (by kernel_rfl) (by kernel_rfl) (by kernel_rfl) (fun _ _ _ h => h) (by rfl) ?_ (by assumption) ?_
  rotate_left
  · (intro W hW; (try dsimp only at hW); go_simp; first | done | with_reducible rfl)
  try simp only [Act.put, List.setIfInBounds_toArray, List.set_cons_zero, List.set_cons_succ]
  refine call_on (i := 8) rfl (by kernel_rfl) (by rfl) (fun K hK => ?_)
  go_simp
  refine (HG1.out w6 hb6).mono ?_
  rintro e w7 ⟨x7, rfl, hx7, hb7'⟩
  have hb7 := hb6.trans (hb7'.mono hb6.size)
  obtain ⟨A7, k7, rfl⟩ := hx7.shape
  rw [HML.out]
  refine hK.out _ _ (HRW.out _ hb7) (fun hHeld => ?_)
  clear hK K
  try simp only [Act.put, List.setIfInBounds_toArray, List.set_cons_zero, List.set_cons_succ]
  refine' take_on (i := 9) (v := _) rfl (by kernel_rfl) (by kernel_rfl) (by kernel_rfl) (fun _ _ _ h => h) (by rfl) ?_ (by assumption) ?_
  rotate_left
  · (intro W hW; (try dsimp only at hW); go_simp; first | done | with_reducible rfl)
  try simp only [Act.put, List.setIfInBounds_toArray, List.set_cons_zero, List.set_cons_succ]
  refine' take_on (i := 13) (v := _) rfl (by kernel_rfl) (by kernel_rfl) (by kernel_rfl) (fun _ _ _ h => h) (by rfl) ?_ (by assumption) ?_
  rotate_left
  · (intro W hW; (try dsimp only at hW); go_simp; first | done | with_reducible rfl)
  try simp only [Act.put, List.setIfInBounds_toArray, List.set_cons_zero, List.set_cons_succ]
  refine' take_on (i := 14) (v := _) rfl (by kernel_rfl) (by kernel_rfl) (by kernel_rfl) (fun _ _ _ h => h) (by rfl) ?_ (by assumption) ?_
  rotate_left
  · (intro W hW; (try dsimp only at hW); go_simp; first | done | with_reducible rfl)
  try simp only [Act.put, List.setIfInBounds_toArray, List.set_cons_zero, List.set_cons_succ]
  refine' take_on (i := 15) (v := _) rfl (by kernel_rfl) (by kernel_rfl) (by kernel_rfl) (fun _ _ _ h => h) (by rfl) ?_ (by assumption) ?_
  rotate_left
  · (intro W hW; (try dsimp only at hW); go_simp; first | done | with_reducible rfl)
  try simp only [Act.put, List.setIfInBounds_toArray, List.set_cons_zero, List.set_cons_succ]
  refine' take_on (i := 16) (v := _) rfl (by kernel_rfl) (by kernel_rfl) (by kernel_rfl) (fun _ _ _ h => h) (by rfl) ?_ (by assumption) ?_
  rotate_left
  · (intro W hW; (try dsimp only at hW); go_simp; first | done | with_reducible rfl)
  try simp only [Act.put, List.setIfInBounds_toArray, List.set_cons_zero, List.set_cons_succ]
  refine call_on (i := 17) rfl (by kernel_rfl) (by rfl) (fun K hK => ?_)
  go_simp
  refine (HA.out w7 (hb5.trans (hb7.mono hb5.size))).mono ?_
  rintro e w8 ⟨rfl, hb8'⟩
  have hb8 := hb7.trans (hb8'.mono hb7.size)
  refine hK.out _ _ (HRW.out _ hb8) (fun hHeld => ?_)
  clear hK K
  try simp only [Act.put, List.setIfInBounds_toArray, List.set_cons_zero, List.set_cons_succ]
  refine' take_on (i := 18) (v := _) rfl (by kernel_rfl) (by kernel_rfl) (by kernel_rfl) (fun _ _ _ h => h) (by rfl) ?_ (by assumption) ?_
  rotate_left
  · (intro W hW; (try dsimp only at hW); go_simp; first | done | with_reducible rfl)
  try simp only [Act.put, List.setIfInBounds_toArray, List.set_cons_zero, List.set_cons_succ]
  refine' take_on (i := 19) (v := _) rfl (by kernel_rfl) (by kernel_rfl) (by kernel_rfl) (fun _ _ _ h => h) (by rfl) ?_ (by assumption) ?_
  rotate_left
  · (intro W hW; (try dsimp only at hW); go_simp; first | done | with_reducible rfl)
  try simp only [Act.put, List.setIfInBounds_toArray, List.set_cons_zero, List.set_cons_succ]
  refine wpAnyH_done (by kernel_rfl) ?_ _
  have HB := hid (hb5.trans (hb8.mono hb5.size))
  clear hHeld
  go_wp2_with fail
  go_ret
  exact ⟨rfl, HB.out⟩
end Go.Proofs.YtnancafpecfcjaaDoor
