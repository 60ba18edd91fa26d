/-
  The laws' small example returns true, from what accu's functions tell. Printed with genacawake.py.
-/
import Derived.Test.YthgdgkdnidjdgaaDoorAcExample
import Derived.Test.YthgdgkdnidjdgaaDoorBs10
import Derived.Test.YthgdgkdnidjdgaaDoorBs7
import Derived.Test.YthgdgkdnidjdgaaDoorBs6
import Derived.Deep.DeepCutAuto
namespace Go.Proofs.YthgdgkdnidjdgaaDoor
set_option maxRecDepth 20000
open Go.RowKit

theorem buildEP_run (w : World) : (Instr.build 36 #[(0, .int .i64 2), (1, .int .i64 1), (2, .int .i64 3), (3, .int .i64 1), (5, .int .i64 2)]).run Tryd.prog w = .ok (.agg (atc exP)) w := by
  go_simp
  rfl
theorem exec_build_ep (a : Act) (dst : Option Tmp) (ty : TypeId) (pos : String) (after : Array Edge) (guard : Option (Nat × Bool)) (w : World) :
    Sem.run Tryd.prog (execOp a.eval { dst := dst, op := .build 36 #[(0, .const (.int .i64 2)), (1, .const (.int .i64 1)), (2, .const (.int .i64 3)), (3, .const (.int .i64 1)), (5, .const (.int .i64 2))], type := ty, pos := pos, after := after, guard := guard }) w = .ok (.value (.agg (atc exP))) w := by
  unfold execOp
  simp [Act.eval, buildEP_run]
theorem buildEQ_run (w : World) : (Instr.build 36 #[(0, .int .i64 1), (1, .int .i64 1), (2, .int .i64 3), (3, .int .i64 1)]).run Tryd.prog w = .ok (.agg (atc exQ)) w := by
  go_simp
  rfl
theorem exec_build_eq (a : Act) (dst : Option Tmp) (ty : TypeId) (pos : String) (after : Array Edge) (guard : Option (Nat × Bool)) (w : World) :
    Sem.run Tryd.prog (execOp a.eval { dst := dst, op := .build 36 #[(0, .const (.int .i64 1)), (1, .const (.int .i64 1)), (2, .const (.int .i64 3)), (3, .const (.int .i64 1))], type := ty, pos := pos, after := after, guard := guard }) w = .ok (.value (.agg (atc exQ))) w := by
  unfold execOp
  simp [Act.eval, buildEQ_run]
attribute [local go_sem ↓] exec_load_att exec_alloc_att exec_store_att exec_build_ep exec_build_eq exec_load_ax exec_alloc_ax exec_store_ax exec_slice_at2

theorem acZ_no (i : Nat) : (axc acZ (.slice none 0 0))[i]? ≠ some (.int .i64 1) := by
  intro h
  have hm : (.int .i64 1 : Value) ∈ (axc acZ (.slice none 0 0)).toList := by
    rw [← Array.getElem?_toList] at h
    exact List.mem_of_getElem? h
  simp [axc, axl, bcells, bcell, acZ, z32] at hm
/-- A store into the accumulation's variable, which was nought, leaves its numbers. -/
theorem els_storedX {W W' : World} {b : Nat} {T : TypeId} {s : Value} (h : Els icl 1 W s exX.fr) (hr : W.heap[b]? = some (.cells (axc acZ (.slice none 0 0)) T (0, 0))) (hg : W.grownBy W' (some b)) : Els icl 1 W' s exX.fr := by
  obtain ⟨A, c, rfl, h1, h2, h3⟩ := h
  refine ⟨A, c, rfl, h1, h2, fun hl => ?_⟩
  obtain ⟨g, off, rfl, hlt, hc⟩ := h3 hl
  have hne : g ≠ b := by
    rintro rfl
    have := hc 0 hl 0 (.int .i64 1) rfl
    rw [cell_blk hr] at this
    exact acZ_no _ this
  exact ⟨g, off, rfl, Nat.lt_of_lt_of_le hlt hg.size, fun j hj => range_kept (hc j hj) (hg.block g hlt (fun e => by injection e with e; exact hne e))⟩

/-- Behind the making: the accumulation's variable, and what was told. -/
def MadeXAt (w0 : World) (s3 s4 : Value) (W : World) : Prop := ∃ b s, s3 = .pointer (some ⟨b, 0, none⟩) ∧ s4 = .int .i64 0 ∧ Els icl 1 W s exX.fr ∧ W.heap[b]? = some (.cells (axc exX s) 30 (0, 0)) ∧ Below w0.heap.size w0 W

set_option maxHeartbeats 6400000 in
theorem acAwake_any (hM : AcMakeOk) (hR : AcRightOk) : AcAwakeOk := by
  intro w hK
  have HSM : Hid (∀ W, Below w.heap.size w W → Calls Tryd.prog 21 #[.agg (atc exP)] W fun e w' => e = .returned (.agg (atc (signA exP))) ∧ Below W.heap.size W w') := hid (fun W h => atSign_ok exP W exP_ok exP_may (hK.below h))
  have HSN : Hid (∀ W, Below w.heap.size w W → Calls Tryd.prog 21 #[.agg (atc exQ)] W fun e w' => e = .returned (.agg (atc (signA exQ))) ∧ Below W.heap.size W w') := hid (fun W h => atSign_ok exQ W exQ_ok exQ_may (hK.below h))
  have hoM := signA_ok exP_ok
  have hoN := signA_ok exQ_ok
  have HMK : Hid (∀ W v, Below w.heap.size w W → Els atl 101 W v [signA exP, signA exQ] → Calls Tryd.prog 7 #[.int .i64 3, .int .i64 3, .int .i64 3, v] W fun e w' => ∃ s, e = .returned (.tuple #[.agg (axc exX s), .int .i64 0]) ∧ Els icl 1 w' s exX.fr ∧ Below W.heap.size W w') := hid (fun W v h he => by
    have := hM 3 3 3 v [signA exP, signA exQ] W rfl rfl rfl he (by intro a ha; simp only [List.mem_cons, List.not_mem_nil, or_false] at ha; obtain rfl | rfl := ha <;> assumption) (by simp) (hK.below h)
    rw [exX_make] at this
    refine this.mono ?_
    rintro e w' ⟨x, rfl, ⟨s, rfl, _, hs⟩, hb⟩
    exact ⟨s, rfl, hs, hb⟩)
  have HR3 : Hid (∀ W s, Below w.heap.size w W → Els icl 1 W s exX.fr → Calls Tryd.prog 10 #[.int .i64 3, .agg (axc exX s)] W fun e w' => e = .returned (.bool true) ∧ Below W.heap.size W w') := hid (fun W s h he => by
    have := hR 3 _ exX W rfl ⟨s, rfl, exX_ok, he⟩ (by show 2 ≤ 1000; omega) (hK.below h)
    rw [exX_right] at this
    exact this)
  obtain ⟨Z, HZ⟩ : ∃ C : Array Value, Hid (atc atZ = C) := ⟨_, hid rfl⟩
  have hal : ∀ W, allocAtt W = .ok (.value (.pointer (some ⟨W.heap.size, 0, none⟩))) (W.alloc (.cells Z 36)) := fun W => by rw [← HZ.out]; exact allocAtt_eq W
  have HZS : Hid (Z.size = 101) := hid (by rw [← HZ.out]; exact atc_size atZ_ok)
  obtain ⟨ZC, HZC⟩ : ∃ C : Array Value, Hid (axc acZ (.slice none 0 0) = C) := ⟨_, hid rfl⟩
  have HAC : Hid (∀ W, allocAx W = .ok (.value (.pointer (some ⟨W.heap.size, 0, none⟩))) (W.alloc (.cells ZC 30))) := hid (fun W => by rw [← HZC.out]; exact allocAx_eq W)
  have HZCS : Hid (ZC.size = 68) := hid (by rw [← HZC.out]; exact axc_size _ acZ_ok)
  obtain ⟨M, HM⟩ : ∃ C : Array Value, Hid (atc exP = C) := ⟨_, hid rfl⟩
  obtain ⟨N, HN⟩ : ∃ C : Array Value, Hid (atc exQ = C) := ⟨_, hid rfl⟩
  obtain ⟨SM, HM1⟩ : ∃ C : Array Value, Hid (atc (signA exP) = C) := ⟨_, hid rfl⟩
  obtain ⟨SN, HN1⟩ : ∃ C : Array Value, Hid (atc (signA exQ) = C) := ⟨_, hid rfl⟩
  obtain ⟨D, HD⟩ : ∃ C : Array Value, Hid ((atl (signA exP) ++ atl (signA exQ)).toArray = C) := ⟨_, hid rfl⟩
  have HSL : Hid (∀ W, sliceAt2 (.agg SM) (.agg SN) W = .ok (.value (.slice (some ⟨W.heap.size, 0, none⟩) 2 2)) (W.alloc (.cells D 36))) := hid (fun W => by rw [← HM1.out, ← HN1.out, ← HD.out]; exact sliceAt2_eq _ _ hoM hoN W)
  have HEL : Hid (∀ W : World, Els atl 101 (W.alloc (.cells D 36)) (.slice (some ⟨W.heap.size, 0, none⟩) 2 2) [signA exP, signA exQ]) := hid (fun W => by rw [← HD.out]; exact els_two W _ _ hoM)
  have HMS : Hid (M.size = 101) := hid (by rw [← HM.out]; exact atc_size exP_ok)
  have HM1' : Hid (M.all (·.oneCell') = true) := hid (by rw [← HM.out]; exact atc_one _)
  have HNS : Hid (N.size = 101) := hid (by rw [← HN.out]; exact atc_size exQ_ok)
  have HN1' : Hid (N.all (·.oneCell') = true) := hid (by rw [← HN.out]; exact atc_one _)
  rw [HM.out, HM1.out] at HSM
  rw [HN.out, HN1.out] at HSN
  clear hoM hoN hK
  go_enter Tryd.func6, Tryd.ntmps6
  have hs1 := att_var w HZS.out HMS.out HM1'.out
  have hs2 := att_var (w.alloc (.cells M 36)) HZS.out HNS.out HN1'.out
  rw [show (w.alloc (.cells M 36)).heap.size = w.heap.size + 1 from by simp] at hs2
  have hr2' := heap1 w (.cells M 36) (.cells N 36)
  have hr3' := heap2 w (.cells M 36) (.cells N 36)
  have hb3 : Below w.heap.size w ((w.alloc (.cells M 36)).alloc (.cells N 36)) := ((Below.refl _ _).alloc (Nat.le_refl _) _).alloc (by simp) _
  have hme := HM.out
  have hne := HN.out
  go_upto_region 3 with (fail)
  generalize ((w.alloc (.cells M 36)).alloc (.cells N 36)) = w3 at *
  clear hs1 hs2 hal hme hne
  have hl3 := lt_of_block hr3'
  have HLD := hid (fun W (h : Below w3.heap.size w3 W) => (⟨loadAtt_row ((h.block _ (by omega)).trans hr2') HMS.out, loadAtt_row ((h.block _ hl3).trans hr3') HNS.out⟩ : loadAtt (.pointer (some ⟨w.heap.size, 0, none⟩)) W = .ok (.value (.agg M)) W ∧ loadAtt (.pointer (some ⟨w.heap.size + 1, 0, none⟩)) W = .ok (.value (.agg N)) W))
  have hbd : Below w3.heap.size w3 w3.drew := (Below.refl _ _).drew
  clear hr2' hr3' hl3
  go_cut [3, 4] (fun s3 s4 wx => MadeXAt w3 s3 s4 wx)
  case first =>
    refine wp_region_held_drew (S := fun W => loadAtt (.pointer (some ⟨w.heap.size, 0, none⟩)) W = .ok (.value (.agg M)) W ∧ loadAtt (.pointer (some ⟨w.heap.size + 1, 0, none⟩)) W = .ok (.value (.agg N)) W) (by kernel_rfl) (HLD.out _ hbd) (fun hHeld => ?_)
    refine' take_on (i := 0) (v := _) rfl (by kernel_rfl) (by kernel_rfl) (by kernel_rfl) (fun _ _ _ h => h) (by rfl) (fun W hW => hW.1) (by assumption) ?_
    try simp only [Act.put, List.setIfInBounds_toArray, List.set_cons_zero, List.set_cons_succ]
    refine' take_on (i := 2) (v := _) rfl (by kernel_rfl) (by kernel_rfl) (by kernel_rfl) (fun _ _ _ h => h) (by rfl) (fun W hW => hW.2) (by assumption) ?_
    try simp only [Act.put, List.setIfInBounds_toArray, List.set_cons_zero, List.set_cons_succ]
    refine pair_on (i := 1) (j := 9) rfl rfl (by kernel_rfl) (by rfl) (by rfl) (fun K hK => ?_) (fun K hK => ?_)
    · go_simp
      refine (HSM.out w3.drew (hb3.trans (hbd.mono hb3.size))).mono ?_
      rintro e vw1 ⟨rfl, kb2⟩
      have kb3 := hbd.trans (kb2.mono hbd.size)
      refine hK.out _ _ (HLD.out _ kb3) (fun hHeld => ?_)
      clear hK K
      try simp only [Act.put, List.setIfInBounds_toArray, List.set_cons_zero, List.set_cons_succ]
      refine pair_on (i := 3) (j := 9) rfl rfl (by kernel_rfl) (by rfl) (by rfl) (fun K hK => ?_) (fun K hK => ?_)
      · go_simp
        refine (HSN.out vw1 (hb3.trans (kb3.mono hb3.size))).mono ?_
        rintro e vw4 ⟨rfl, kb5⟩
        have kb6 := kb3.trans (kb5.mono kb3.size)
        refine hK.out _ _ (HLD.out _ kb6) (fun hHeld => ?_)
        clear hK K
        try simp only [Act.put, List.setIfInBounds_toArray, List.set_cons_zero, List.set_cons_succ]
        refine pair_on (i := 4) (j := 9) rfl rfl (by kernel_rfl) (by rfl) (by rfl) (fun K hK => ?_) (fun K hK => ?_)
        · have hsl := HSL.out
          go_simp
          clear hsl
          have kb7 := kb6.alloc kb6.size (.cells D 36)
          have ke8 := HEL.out vw4
          refine hK.out _ _ (HLD.out _ kb7) (fun hHeld => ?_)
          clear hK K
          try simp only [Act.put, List.setIfInBounds_toArray, List.set_cons_zero, List.set_cons_succ]
          refine pair_on (i := 5) (j := 9) rfl rfl (by kernel_rfl) (by rfl) (by rfl) (fun K hK => ?_) (fun K hK => ?_)
          · go_simp
            refine (HMK.out _ _ (hb3.trans (kb7.mono hb3.size)) ke8).mono ?_
            rintro e vw9 ⟨s, rfl, ke12, kb10⟩
            have kb11 := kb7.trans (kb10.mono kb7.size)
            obtain ⟨CC, HCC⟩ : ∃ C : Array Value, Hid (axc exX s = C) := ⟨_, hid rfl⟩
            have HCS : Hid (CC.size = 68 ∧ CC.all (·.oneCell') = true) := hid (by rw [← HCC.out]; exact ⟨axc_size _ exX_ok, axc_one (a := exX) ke12⟩)
            rw [HCC.out]
            refine hK.out _ _ (HLD.out _ kb11) (fun hHeld => ?_)
            clear hK K
            try simp only [Act.put, List.setIfInBounds_toArray, List.set_cons_zero, List.set_cons_succ]
            refine' take_on (i := 6) (v := _) rfl (by kernel_rfl) (by kernel_rfl) (by kernel_rfl) (fun _ _ _ h => h) (by rfl) ?_ (by assumption) ?_
            rotate_left
            · (intro W hW; (try dsimp only at hW); go_simp; first | done | with_reducible rfl)
            try simp only [Act.put, List.setIfInBounds_toArray, List.set_cons_zero, List.set_cons_succ]
            refine' take_on (i := 7) (v := _) rfl (by kernel_rfl) (by kernel_rfl) (by kernel_rfl) (fun _ _ _ h => h) (by rfl) ?_ (by assumption) ?_
            rotate_left
            · (intro W hW; (try dsimp only at hW); go_simp; first | done | with_reducible rfl)
            try simp only [Act.put, List.setIfInBounds_toArray, List.set_cons_zero, List.set_cons_succ]
            refine' take_on (i := 8) (v := _) rfl (by kernel_rfl) (by kernel_rfl) (by kernel_rfl) (fun _ _ _ h => h) (by rfl) ?_ (by assumption) ?_
            rotate_left
            · (intro W hW; (try dsimp only at hW); go_simp; first | done | with_reducible rfl)
            try simp only [Act.put, List.setIfInBounds_toArray, List.set_cons_zero, List.set_cons_succ]
            refine call_on (i := 9) rfl (by kernel_rfl) (by rfl) (fun K hK => ?_)
            have hac := HAC.out
            go_simp
            clear hac
            have kb13 := kb11.alloc kb11.size (.cells ZC 30)
            have kr14 := heap_alloc_new vw9 (.cells ZC 30)
            have ke15 := ke12.below ((Below.refl _ _).alloc (Nat.le_refl _) (.cells ZC 30))
            refine hK.out _ _ (HLD.out _ kb13) (fun hHeld => ?_)
            clear hK K
            try simp only [Act.put, List.setIfInBounds_toArray, List.set_cons_zero, List.set_cons_succ]
            refine call_on (i := 10) rfl (by kernel_rfl) (by rfl) (fun K hK => ?_)
            refine wp_store_whole (.tmp 3) (.tmp 14) rfl (g := vw9.heap.size) rfl rfl kr14 (by rw [size_ax, HCS.out.1]) (by rw [HZCS.out, HCS.out.1]) HCS.out.2 ?_
            intro wz hgz hrz hsz
            have hbz := kb13.grown hgz kb13.size (fun k hk => by injection hk with hk; have := kb11.size; omega)
            have hez := els_storedX ke15 (by rw [HZC.out]; exact kr14) hgz
            refine hK.out _ _ (HLD.out _ hbz) (fun hHeld => ?_)
            clear hK K
            try simp only [Act.put]
            refine' take_on (i := 11) (v := _) rfl (by kernel_rfl) (by kernel_rfl) (by kernel_rfl) (fun _ _ _ h => h) (by rfl) ?_ (by assumption) ?_
            rotate_left
            · (intro W hW; (try dsimp only at hW); go_simp; first | done | with_reducible rfl)
            try simp only [Act.put, List.setIfInBounds_toArray, List.set_cons_zero, List.set_cons_succ]
            refine wpAnyH_done (by kernel_rfl) ?_ _
            have HF : Hid (MadeXAt w3 (.pointer (some ⟨vw9.heap.size, 0, none⟩)) (.int .i64 0) wz) := hid ⟨_, s, rfl, rfl, hez, by rw [HCC.out]; exact hrz, hbz⟩
            clear hHeld hbz hrz hez hgz hsz
            go_wp2_with fail
            go_meet
            case rel => exact HF.out
          · have hac := HAC.out
            go_simp
            clear hac
            have kb16 := kb7.alloc kb7.size (.cells ZC 30)
            have kr17 := heap2 vw4 (.cells D 36) (.cells ZC 30)
            have ke18 := ke8.below ((Below.refl _ _).alloc (Nat.le_refl _) (.cells ZC 30))
            refine hK.out _ _ (HLD.out _ kb16) (fun hHeld => ?_)
            clear hK K
            try simp only [Act.put, List.setIfInBounds_toArray, List.set_cons_zero, List.set_cons_succ]
            refine call_on (i := 5) rfl (by kernel_rfl) (by rfl) (fun K hK => ?_)
            go_simp
            refine (HMK.out _ _ (hb3.trans (kb16.mono hb3.size)) ke18).mono ?_
            rintro e vw19 ⟨s, rfl, ke22, kb20⟩
            have kb21 := kb16.trans (kb20.mono kb16.size)
            have kr23 := (kb20.block _ (lt_of_block kr17)).trans kr17
            obtain ⟨CC, HCC⟩ : ∃ C : Array Value, Hid (axc exX s = C) := ⟨_, hid rfl⟩
            have HCS : Hid (CC.size = 68 ∧ CC.all (·.oneCell') = true) := hid (by rw [← HCC.out]; exact ⟨axc_size _ exX_ok, axc_one (a := exX) ke22⟩)
            rw [HCC.out]
            refine hK.out _ _ (HLD.out _ kb21) (fun hHeld => ?_)
            clear hK K
            try simp only [Act.put, List.setIfInBounds_toArray, List.set_cons_zero, List.set_cons_succ]
            refine' take_on (i := 6) (v := _) rfl (by kernel_rfl) (by kernel_rfl) (by kernel_rfl) (fun _ _ _ h => h) (by rfl) ?_ (by assumption) ?_
            rotate_left
            · (intro W hW; (try dsimp only at hW); go_simp; first | done | with_reducible rfl)
            try simp only [Act.put, List.setIfInBounds_toArray, List.set_cons_zero, List.set_cons_succ]
            refine' take_on (i := 7) (v := _) rfl (by kernel_rfl) (by kernel_rfl) (by kernel_rfl) (fun _ _ _ h => h) (by rfl) ?_ (by assumption) ?_
            rotate_left
            · (intro W hW; (try dsimp only at hW); go_simp; first | done | with_reducible rfl)
            try simp only [Act.put, List.setIfInBounds_toArray, List.set_cons_zero, List.set_cons_succ]
            refine' take_on (i := 8) (v := _) rfl (by kernel_rfl) (by kernel_rfl) (by kernel_rfl) (fun _ _ _ h => h) (by rfl) ?_ (by assumption) ?_
            rotate_left
            · (intro W hW; (try dsimp only at hW); go_simp; first | done | with_reducible rfl)
            try simp only [Act.put, List.setIfInBounds_toArray, List.set_cons_zero, List.set_cons_succ]
            refine call_on (i := 10) rfl (by kernel_rfl) (by rfl) (fun K hK => ?_)
            refine wp_store_whole (.tmp 3) (.tmp 14) rfl (g := vw4.heap.size + 1) rfl rfl kr23 (by rw [size_ax, HCS.out.1]) (by rw [HZCS.out, HCS.out.1]) HCS.out.2 ?_
            intro wz hgz hrz hsz
            have hbz := kb21.grown hgz kb21.size (fun k hk => by injection hk with hk; have := kb6.size; omega)
            have hez := els_storedX ke22 (by rw [HZC.out]; exact kr23) hgz
            refine hK.out _ _ (HLD.out _ hbz) (fun hHeld => ?_)
            clear hK K
            try simp only [Act.put]
            refine' take_on (i := 11) (v := _) rfl (by kernel_rfl) (by kernel_rfl) (by kernel_rfl) (fun _ _ _ h => h) (by rfl) ?_ (by assumption) ?_
            rotate_left
            · (intro W hW; (try dsimp only at hW); go_simp; first | done | with_reducible rfl)
            try simp only [Act.put, List.setIfInBounds_toArray, List.set_cons_zero, List.set_cons_succ]
            refine wpAnyH_done (by kernel_rfl) ?_ _
            have HF : Hid (MadeXAt w3 (.pointer (some ⟨vw4.heap.size + 1, 0, none⟩)) (.int .i64 0) wz) := hid ⟨_, s, rfl, rfl, hez, by rw [HCC.out]; exact hrz, hbz⟩
            clear hHeld hbz hrz hez hgz hsz
            go_wp2_with fail
            go_meet
            case rel => exact HF.out
        · have hac := HAC.out
          go_simp
          clear hac
          have kb24 := kb6.alloc kb6.size (.cells ZC 30)
          have kr25 := heap_alloc_new vw4 (.cells ZC 30)
          refine hK.out _ _ (HLD.out _ kb24) (fun hHeld => ?_)
          clear hK K
          try simp only [Act.put, List.setIfInBounds_toArray, List.set_cons_zero, List.set_cons_succ]
          refine call_on (i := 4) rfl (by kernel_rfl) (by rfl) (fun K hK => ?_)
          have hsl := HSL.out
          go_simp
          clear hsl
          have kb26 := kb24.alloc kb24.size (.cells D 36)
          have ke27 := HEL.out (vw4.alloc (.cells ZC 30))
          rw [show (vw4.alloc (.cells ZC 30)).heap.size = vw4.heap.size + 1 from by simp] at ke27
          have kr28 := (Below.heap_alloc (vw4.alloc (.cells ZC 30)) (.cells D 36) _ (lt_of_block kr25)).trans kr25
          refine hK.out _ _ (HLD.out _ kb26) (fun hHeld => ?_)
          clear hK K
          try simp only [Act.put, List.setIfInBounds_toArray, List.set_cons_zero, List.set_cons_succ]
          refine call_on (i := 5) rfl (by kernel_rfl) (by rfl) (fun K hK => ?_)
          go_simp
          refine (HMK.out _ _ (hb3.trans (kb26.mono hb3.size)) ke27).mono ?_
          rintro e vw29 ⟨s, rfl, ke32, kb30⟩
          have kb31 := kb26.trans (kb30.mono kb26.size)
          have kr33 := (kb30.block _ (lt_of_block kr28)).trans kr28
          obtain ⟨CC, HCC⟩ : ∃ C : Array Value, Hid (axc exX s = C) := ⟨_, hid rfl⟩
          have HCS : Hid (CC.size = 68 ∧ CC.all (·.oneCell') = true) := hid (by rw [← HCC.out]; exact ⟨axc_size _ exX_ok, axc_one (a := exX) ke32⟩)
          rw [HCC.out]
          refine hK.out _ _ (HLD.out _ kb31) (fun hHeld => ?_)
          clear hK K
          try simp only [Act.put, List.setIfInBounds_toArray, List.set_cons_zero, List.set_cons_succ]
          refine' take_on (i := 6) (v := _) rfl (by kernel_rfl) (by kernel_rfl) (by kernel_rfl) (fun _ _ _ h => h) (by rfl) ?_ (by assumption) ?_
          rotate_left
          · (intro W hW; (try dsimp only at hW); go_simp; first | done | with_reducible rfl)
          try simp only [Act.put, List.setIfInBounds_toArray, List.set_cons_zero, List.set_cons_succ]
          refine' take_on (i := 7) (v := _) rfl (by kernel_rfl) (by kernel_rfl) (by kernel_rfl) (fun _ _ _ h => h) (by rfl) ?_ (by assumption) ?_
          rotate_left
          · (intro W hW; (try dsimp only at hW); go_simp; first | done | with_reducible rfl)
          try simp only [Act.put, List.setIfInBounds_toArray, List.set_cons_zero, List.set_cons_succ]
          refine' take_on (i := 8) (v := _) rfl (by kernel_rfl) (by kernel_rfl) (by kernel_rfl) (fun _ _ _ h => h) (by rfl) ?_ (by assumption) ?_
          rotate_left
          · (intro W hW; (try dsimp only at hW); go_simp; first | done | with_reducible rfl)
          try simp only [Act.put, List.setIfInBounds_toArray, List.set_cons_zero, List.set_cons_succ]
          refine call_on (i := 10) rfl (by kernel_rfl) (by rfl) (fun K hK => ?_)
          refine wp_store_whole (.tmp 3) (.tmp 14) rfl (g := vw4.heap.size) rfl rfl kr33 (by rw [size_ax, HCS.out.1]) (by rw [HZCS.out, HCS.out.1]) HCS.out.2 ?_
          intro wz hgz hrz hsz
          have hbz := kb31.grown hgz kb31.size (fun k hk => by injection hk with hk; have := kb6.size; omega)
          have hez := els_storedX ke32 (by rw [HZC.out]; exact kr33) hgz
          refine hK.out _ _ (HLD.out _ hbz) (fun hHeld => ?_)
          clear hK K
          try simp only [Act.put]
          refine' take_on (i := 11) (v := _) rfl (by kernel_rfl) (by kernel_rfl) (by kernel_rfl) (fun _ _ _ h => h) (by rfl) ?_ (by assumption) ?_
          rotate_left
          · (intro W hW; (try dsimp only at hW); go_simp; first | done | with_reducible rfl)
          try simp only [Act.put, List.setIfInBounds_toArray, List.set_cons_zero, List.set_cons_succ]
          refine wpAnyH_done (by kernel_rfl) ?_ _
          have HF : Hid (MadeXAt w3 (.pointer (some ⟨vw4.heap.size, 0, none⟩)) (.int .i64 0) wz) := hid ⟨_, s, rfl, rfl, hez, by rw [HCC.out]; exact hrz, hbz⟩
          clear hHeld hbz hrz hez hgz hsz
          go_wp2_with fail
          go_meet
          case rel => exact HF.out
      · have hac := HAC.out
        go_simp
        clear hac
        have kb34 := kb3.alloc kb3.size (.cells ZC 30)
        have kr35 := heap_alloc_new vw1 (.cells ZC 30)
        refine hK.out _ _ (HLD.out _ kb34) (fun hHeld => ?_)
        clear hK K
        try simp only [Act.put, List.setIfInBounds_toArray, List.set_cons_zero, List.set_cons_succ]
        refine call_on (i := 3) rfl (by kernel_rfl) (by rfl) (fun K hK => ?_)
        go_simp
        refine (HSN.out (vw1.alloc (.cells ZC 30)) (hb3.trans (kb34.mono hb3.size))).mono ?_
        rintro e vw36 ⟨rfl, kb37⟩
        have kb38 := kb34.trans (kb37.mono kb34.size)
        have kr39 := (kb37.block _ (lt_of_block kr35)).trans kr35
        refine hK.out _ _ (HLD.out _ kb38) (fun hHeld => ?_)
        clear hK K
        try simp only [Act.put, List.setIfInBounds_toArray, List.set_cons_zero, List.set_cons_succ]
        refine call_on (i := 4) rfl (by kernel_rfl) (by rfl) (fun K hK => ?_)
        have hsl := HSL.out
        go_simp
        clear hsl
        have kb40 := kb38.alloc kb38.size (.cells D 36)
        have ke41 := HEL.out vw36
        have kr42 := (Below.heap_alloc vw36 (.cells D 36) _ (lt_of_block kr39)).trans kr39
        refine hK.out _ _ (HLD.out _ kb40) (fun hHeld => ?_)
        clear hK K
        try simp only [Act.put, List.setIfInBounds_toArray, List.set_cons_zero, List.set_cons_succ]
        refine call_on (i := 5) rfl (by kernel_rfl) (by rfl) (fun K hK => ?_)
        go_simp
        refine (HMK.out _ _ (hb3.trans (kb40.mono hb3.size)) ke41).mono ?_
        rintro e vw43 ⟨s, rfl, ke46, kb44⟩
        have kb45 := kb40.trans (kb44.mono kb40.size)
        have kr47 := (kb44.block _ (lt_of_block kr42)).trans kr42
        obtain ⟨CC, HCC⟩ : ∃ C : Array Value, Hid (axc exX s = C) := ⟨_, hid rfl⟩
        have HCS : Hid (CC.size = 68 ∧ CC.all (·.oneCell') = true) := hid (by rw [← HCC.out]; exact ⟨axc_size _ exX_ok, axc_one (a := exX) ke46⟩)
        rw [HCC.out]
        refine hK.out _ _ (HLD.out _ kb45) (fun hHeld => ?_)
        clear hK K
        try simp only [Act.put, List.setIfInBounds_toArray, List.set_cons_zero, List.set_cons_succ]
        refine' take_on (i := 6) (v := _) rfl (by kernel_rfl) (by kernel_rfl) (by kernel_rfl) (fun _ _ _ h => h) (by rfl) ?_ (by assumption) ?_
        rotate_left
        · (intro W hW; (try dsimp only at hW); go_simp; first | done | with_reducible rfl)
        try simp only [Act.put, List.setIfInBounds_toArray, List.set_cons_zero, List.set_cons_succ]
        refine' take_on (i := 7) (v := _) rfl (by kernel_rfl) (by kernel_rfl) (by kernel_rfl) (fun _ _ _ h => h) (by rfl) ?_ (by assumption) ?_
        rotate_left
        · (intro W hW; (try dsimp only at hW); go_simp; first | done | with_reducible rfl)
        try simp only [Act.put, List.setIfInBounds_toArray, List.set_cons_zero, List.set_cons_succ]
        refine' take_on (i := 8) (v := _) rfl (by kernel_rfl) (by kernel_rfl) (by kernel_rfl) (fun _ _ _ h => h) (by rfl) ?_ (by assumption) ?_
        rotate_left
        · (intro W hW; (try dsimp only at hW); go_simp; first | done | with_reducible rfl)
        try simp only [Act.put, List.setIfInBounds_toArray, List.set_cons_zero, List.set_cons_succ]
        refine call_on (i := 10) rfl (by kernel_rfl) (by rfl) (fun K hK => ?_)
        refine wp_store_whole (.tmp 3) (.tmp 14) rfl (g := vw1.heap.size) rfl rfl kr47 (by rw [size_ax, HCS.out.1]) (by rw [HZCS.out, HCS.out.1]) HCS.out.2 ?_
        intro wz hgz hrz hsz
        have hbz := kb45.grown hgz kb45.size (fun k hk => by injection hk with hk; have := kb3.size; omega)
        have hez := els_storedX ke46 (by rw [HZC.out]; exact kr47) hgz
        refine hK.out _ _ (HLD.out _ hbz) (fun hHeld => ?_)
        clear hK K
        try simp only [Act.put]
        refine' take_on (i := 11) (v := _) rfl (by kernel_rfl) (by kernel_rfl) (by kernel_rfl) (fun _ _ _ h => h) (by rfl) ?_ (by assumption) ?_
        rotate_left
        · (intro W hW; (try dsimp only at hW); go_simp; first | done | with_reducible rfl)
        try simp only [Act.put, List.setIfInBounds_toArray, List.set_cons_zero, List.set_cons_succ]
        refine wpAnyH_done (by kernel_rfl) ?_ _
        have HF : Hid (MadeXAt w3 (.pointer (some ⟨vw1.heap.size, 0, none⟩)) (.int .i64 0) wz) := hid ⟨_, s, rfl, rfl, hez, by rw [HCC.out]; exact hrz, hbz⟩
        clear hHeld hbz hrz hez hgz hsz
        go_wp2_with fail
        go_meet
        case rel => exact HF.out
    · have hac := HAC.out
      go_simp
      clear hac
      have kb48 := hbd.alloc hbd.size (.cells ZC 30)
      have kr49 := heap_alloc_new w3.drew (.cells ZC 30)
      refine hK.out _ _ (HLD.out _ kb48) (fun hHeld => ?_)
      clear hK K
      try simp only [Act.put, List.setIfInBounds_toArray, List.set_cons_zero, List.set_cons_succ]
      refine call_on (i := 1) rfl (by kernel_rfl) (by rfl) (fun K hK => ?_)
      go_simp
      refine (HSM.out (w3.drew.alloc (.cells ZC 30)) (hb3.trans (kb48.mono hb3.size))).mono ?_
      rintro e vw50 ⟨rfl, kb51⟩
      have kb52 := kb48.trans (kb51.mono kb48.size)
      have kr53 := (kb51.block _ (lt_of_block kr49)).trans kr49
      refine hK.out _ _ (HLD.out _ kb52) (fun hHeld => ?_)
      clear hK K
      try simp only [Act.put, List.setIfInBounds_toArray, List.set_cons_zero, List.set_cons_succ]
      refine call_on (i := 3) rfl (by kernel_rfl) (by rfl) (fun K hK => ?_)
      go_simp
      refine (HSN.out vw50 (hb3.trans (kb52.mono hb3.size))).mono ?_
      rintro e vw54 ⟨rfl, kb55⟩
      have kb56 := kb52.trans (kb55.mono kb52.size)
      have kr57 := (kb55.block _ (lt_of_block kr53)).trans kr53
      refine hK.out _ _ (HLD.out _ kb56) (fun hHeld => ?_)
      clear hK K
      try simp only [Act.put, List.setIfInBounds_toArray, List.set_cons_zero, List.set_cons_succ]
      refine call_on (i := 4) rfl (by kernel_rfl) (by rfl) (fun K hK => ?_)
      have hsl := HSL.out
      go_simp
      clear hsl
      have kb58 := kb56.alloc kb56.size (.cells D 36)
      have ke59 := HEL.out vw54
      have kr60 := (Below.heap_alloc vw54 (.cells D 36) _ (lt_of_block kr57)).trans kr57
      refine hK.out _ _ (HLD.out _ kb58) (fun hHeld => ?_)
      clear hK K
      try simp only [Act.put, List.setIfInBounds_toArray, List.set_cons_zero, List.set_cons_succ]
      refine call_on (i := 5) rfl (by kernel_rfl) (by rfl) (fun K hK => ?_)
      go_simp
      refine (HMK.out _ _ (hb3.trans (kb58.mono hb3.size)) ke59).mono ?_
      rintro e vw61 ⟨s, rfl, ke64, kb62⟩
      have kb63 := kb58.trans (kb62.mono kb58.size)
      have kr65 := (kb62.block _ (lt_of_block kr60)).trans kr60
      obtain ⟨CC, HCC⟩ : ∃ C : Array Value, Hid (axc exX s = C) := ⟨_, hid rfl⟩
      have HCS : Hid (CC.size = 68 ∧ CC.all (·.oneCell') = true) := hid (by rw [← HCC.out]; exact ⟨axc_size _ exX_ok, axc_one (a := exX) ke64⟩)
      rw [HCC.out]
      refine hK.out _ _ (HLD.out _ kb63) (fun hHeld => ?_)
      clear hK K
      try simp only [Act.put, List.setIfInBounds_toArray, List.set_cons_zero, List.set_cons_succ]
      refine' take_on (i := 6) (v := _) rfl (by kernel_rfl) (by kernel_rfl) (by kernel_rfl) (fun _ _ _ h => h) (by rfl) ?_ (by assumption) ?_
      rotate_left
      · (intro W hW; (try dsimp only at hW); go_simp; first | done | with_reducible rfl)
      try simp only [Act.put, List.setIfInBounds_toArray, List.set_cons_zero, List.set_cons_succ]
      refine' take_on (i := 7) (v := _) rfl (by kernel_rfl) (by kernel_rfl) (by kernel_rfl) (fun _ _ _ h => h) (by rfl) ?_ (by assumption) ?_
      rotate_left
      · (intro W hW; (try dsimp only at hW); go_simp; first | done | with_reducible rfl)
      try simp only [Act.put, List.setIfInBounds_toArray, List.set_cons_zero, List.set_cons_succ]
      refine' take_on (i := 8) (v := _) rfl (by kernel_rfl) (by kernel_rfl) (by kernel_rfl) (fun _ _ _ h => h) (by rfl) ?_ (by assumption) ?_
      rotate_left
      · (intro W hW; (try dsimp only at hW); go_simp; first | done | with_reducible rfl)
      try simp only [Act.put, List.setIfInBounds_toArray, List.set_cons_zero, List.set_cons_succ]
      refine call_on (i := 10) rfl (by kernel_rfl) (by rfl) (fun K hK => ?_)
      refine wp_store_whole (.tmp 3) (.tmp 14) rfl (g := w3.drew.heap.size) rfl rfl kr65 (by rw [size_ax, HCS.out.1]) (by rw [HZCS.out, HCS.out.1]) HCS.out.2 ?_
      intro wz hgz hrz hsz
      have hbz := kb63.grown hgz kb63.size (fun k hk => by injection hk with hk; have := hbd.size; omega)
      have hez := els_storedX ke64 (by rw [HZC.out]; exact kr65) hgz
      refine hK.out _ _ (HLD.out _ hbz) (fun hHeld => ?_)
      clear hK K
      try simp only [Act.put]
      refine' take_on (i := 11) (v := _) rfl (by kernel_rfl) (by kernel_rfl) (by kernel_rfl) (fun _ _ _ h => h) (by rfl) ?_ (by assumption) ?_
      rotate_left
      · (intro W hW; (try dsimp only at hW); go_simp; first | done | with_reducible rfl)
      try simp only [Act.put, List.setIfInBounds_toArray, List.set_cons_zero, List.set_cons_succ]
      refine wpAnyH_done (by kernel_rfl) ?_ _
      have HF : Hid (MadeXAt w3 (.pointer (some ⟨w3.drew.heap.size, 0, none⟩)) (.int .i64 0) wz) := hid ⟨_, s, rfl, rfl, hez, by rw [HCC.out]; exact hrz, hbz⟩
      clear hHeld hbz hrz hez hgz hsz
      go_wp2_with fail
      go_meet
      case rel => exact HF.out
  case rest =>
    obtain ⟨b, s, rfl, rfl, hec, hrc, hbc⟩ := hcut
    obtain ⟨A, k, rfl⟩ := hec.shape
    have HBX := hid (fun W (h : Below wc.heap.size wc W) => (show BoxX W b exX _ from (h.block _ (lt_of_block hrc)).trans hrc))
    obtain ⟨g, o, rfl, hg, hcl⟩ := hec.at_.2.2.2 (by show 0 < 2; omega)
    have HCL : Hid (∀ W, Below wc.heap.size wc W → W.cell? ⟨g, o, none⟩ = some (.int .i64 1)) := hid (fun W h => by
      have := range_kept (hcl 0 (by show 0 < 2; omega)) (h.block g hg) 0 _ rfl
      rwa [Nat.zero_mul, Nat.add_zero] at this)
    obtain ⟨CC, HCC⟩ : ∃ C : Array Value, Hid (axc exX (.slice (some ⟨g, o, none⟩) exX.fr.length k) = C) := ⟨_, hid rfl⟩
    have HCS : Hid (CC.size = 68) := hid (by rw [← HCC.out]; exact axc_size _ exX_ok)
    have H3 := hid (HR3.out wc _ (hb3.trans (hbc.mono hb3.size)) hec)
    rw [HCC.out] at hrc H3
    have l1 := loadAx_row hrc HCS.out
    have HB := hid (hb3.trans (hbc.mono hb3.size))
    have c2 : wc.cell? ⟨b, 2, none⟩ = some (.int .i64 2) := (HBX.out wc (Below.refl _ _)).ints.2.2
    clear hec hrc hbc hb3 hbd hcl hg
    go_wp2_with fail
    refine H3.out.mono ?_
    rintro e w4 ⟨rfl, hb4⟩
    have c4 : w4.cell? ⟨b, 35, none⟩ = some (.slice (some ⟨g, o, none⟩) 2 k) := (HBX.out w4 hb4).fr exX_ok
    have c5 := HCL.out w4 hb4
    clear l1 c2
    go_wp2_with fail
    go_ret
    exact ⟨rfl, HB.out.trans (hb4.mono HB.out.size)⟩
end Go.Proofs.YthgdgkdnidjdgaaDoor
