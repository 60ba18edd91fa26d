/-
  blob.Get: the version and the seal of a blob. Printed with gensecode.py.
-/
import Derived.Test.YtifkkpfiejiojaaDoorSeAwake
import Derived.Test.YtifkkpfiejiojaaDoorSeCodeRead
import Derived.Test.YtifkkpfiejiojaaDoorSeCodeTagged
namespace Go.Proofs.YtifkkpfiejiojaaDoor
set_option maxRecDepth 20000
open Go.RowKit
attribute [local go_sem ↓] exec_load_se exec_alloc_se exec_store_se exec_build_se exec_load_hash
set_option maxHeartbeats 6400000 in
theorem seGet_ok : SeGetOk := by
  intro i v l w _ hv hl hK
  have HKB := hid (fun W (h : Below w.heap.size w W) => (show Kst 1 W from hK.below h))
  obtain ⟨Z, HZ⟩ : ∃ C : Array Value, Hid (sec seZ = C) := ⟨_, hid rfl⟩
  have HBZ : Hid (∀ W, buildSe W = .ok (.value (.agg Z)) W) := hid (fun W => by rw [← HZ.out]; exact buildSe_eq W)
  have hal : ∀ W, allocSe W = .ok (.value (.pointer (some ⟨W.heap.size, 0, none⟩))) (W.alloc (.cells Z 25)) := fun W => by rw [← HZ.out]; exact allocSe_eq W
  have HSZ : Hid (Z.size = 35) := hid (by rw [← HZ.out]; exact sec_size seZ_ok)
  have HZ1 : Hid (Z.all (·.oneCell') = true) := hid (by rw [← HZ.out]; exact sec_one _)
  have hz0 := heap_alloc_new w (.cells Z 25)
  have hb0 : Below w.heap.size w (w.alloc (.cells Z 25)) := (Below.refl _ _).alloc (Nat.le_refl _) _
  have hv0 := hv.below hb0
  have HAL := hid hal
  have HLE := hid hl
  clear hv hK hl
  go_enter Tryd.func11, Tryd.ntmps11
  go_upto_region 1 with (fail)
  generalize (w.alloc (.cells Z 25)) = w0 at *
  have HB0 := hid hb0
  have HZW : Hid (∀ W, Below w0.heap.size w0 W → W.heap[w.heap.size]? = some (.cells Z 25 (0, 0))) := hid (fun W h => (h.block _ (lt_of_block hz0)).trans hz0)
  have HZS : Hid (∀ W, Below w0.heap.size w0 W → storeSe (.pointer (some ⟨w.heap.size, 0, none⟩)) (.agg Z) W = .ok .skip W) := hid (fun W h => by
    have hg := HZW.out W h
    rw [storeSe_eq hg HSZ.out HSZ.out HZ1.out, setSe_self hg])
  have HLZ := hid (lt_of_block hz0)
  clear hal hz0 hb0
  go_wp2_with fail
  refine (read_any v l w0 hv0 (by have := HLE.out; omega)).mono ?_
  rintro e w1 ⟨g, rfl, hgl, hrd1, hb1⟩
  obtain ⟨a1, p1, r1, HA1⟩ : ∃ x q s, Hid (rdUpto 1099511627776 l 0 true = (x, q, s)) := ⟨_, _, _, hid rfl⟩
  have hm1 : a1 ≤ 1099511627776 := by have := rdUpto_le (m := 1099511627776) (l := l) (p := 0) (r := true); rw [show ((1099511627776 : Nat) : Int) = 1099511627776 from rfl, HA1.out] at this; exact this
  have HM1 := hid hm1
  clear hv0 hm1
  go_wp2_with fail
  have C := upto_any g l 0 true 1099511627776 w1 hrd1 (by have := HLE.out; omega) (by omega) (by omega)
  rw [HA1.out] at C
  refine C.mono ?_
  clear C
  rintro e w2 ⟨rfl, hrd2, hg2⟩
  have hb2 : Below w0.heap.size w0 w2 := hb1.grown hg2 hb1.size (fun k hk => by injection hk with hk; omega)
  obtain ⟨a, p2, r2, HA2⟩ : ∃ x q s, Hid (readS l p1 r1 = (x, q, s)) := ⟨_, _, _, hid rfl⟩
  have HOK : Hid a.Ok := hid (by have := readS_ok l p1 r1; rw [HA2.out] at this; exact this)
  clear hrd1 hb1 hg2
  simp only
  go_wp2_with fail
  have C := seread_any g l p1 r1 w2 hrd2 HLE.out
  rw [HA2.out] at C
  refine C.mono ?_
  clear C
  rintro e w3 ⟨rfl, hrd3, hg3⟩
  simp only at hrd3
  have hb3 : Below w0.heap.size w0 w3 := hb2.grown hg3 hb2.size (fun k hk => by injection hk with hk; omega)
  obtain ⟨CA, HCA⟩ : ∃ C : Array Value, Hid (sec a = C) := ⟨_, hid rfl⟩
  have HCS : Hid (CA.size = 35 ∧ CA.all (·.oneCell') = true) := hid (by rw [← HCA.out]; exact ⟨sec_size HOK.out, sec_one _⟩)
  simp only
  rw [HCA.out]
  have hal := HAL.out
  have hs3 := se_var w3 HSZ.out HCS.out.1 HCS.out.2
  have hr3 := heap_alloc_new w3 (.cells CA 25)
  have hb34 : Below w3.heap.size w3 (w3.alloc (.cells CA 25)) := (Below.refl _ _).alloc (Nat.le_refl _) _
  have hb4 := hb3.trans (hb34.mono hb3.size)
  have hrd4 := hrd3.below hb34
  have hgs : w3.heap.size ≠ g := fun e => by have := hrd3.lt; omega
  have hB3 := hb3
  clear hrd2 hg3 hb2 hb3 hb34 hrd3
  go_upto_region 4 with (fail)
  generalize w3.alloc (.cells CA 25) = w4 at *
  clear hal hs3
  obtain ⟨t, p3, r3, HA3⟩ : ∃ x q s, Hid (rdHash l p2 r2 = (x, q, s)) := ⟨_, _, _, hid rfl⟩
  have HTL : Hid (t.length = 32) := hid (by have := rdHash_32 l p2 r2; rw [HA3.out] at this; exact this)
  go_wp2_with fail
  have C := rhash_any g l p2 r2 w4 hrd4 (by have := HLE.out; omega)
  rw [HA3.out] at C
  refine C.mono ?_
  clear C
  rintro e w5 ⟨rfl, hrd5, hg5⟩
  simp only at hrd5
  have hr5 := (hg5.block _ (lt_of_block hr3) (fun e => by injection e with e; exact hgs e)).trans hr3
  have hb5 : Below w0.heap.size w0 w5 := hb4.grown hg5 hb4.size (fun k hk => by injection hk with hk; omega)
  have hrt := heap_alloc_new w5 (.cells (hcells nought) 23)
  obtain ⟨TC, HTC⟩ : ∃ x : Array Value, Hid (hcells t = x) := ⟨_, hid rfl⟩
  simp only
  rw [HTC.out]
  clear hrd4 hg5 hb4 hr3
  go_upto_region 5 with (first
    | (refine wpList_alloc_hash rfl rfl ?_)
    | (refine wpList_store_hash (h' := t) rfl _ _ rfl rfl (by rw [HTC.out]; rfl) hrt nought_length HTL.out ?_; intro w7 hg7 hr7 hs7; have hb57 : Below w5.heap.size w5 w7 := below_into ((Below.refl _ _).alloc (Nat.le_refl _) _) (Nat.le_refl _) hg7 (al_le _ _); clear hg7 hs7))
  have hb7 := hb5.trans (hb57.mono hb5.size)
  have hrd7 := hrd5.below hb57
  have hr8 := (hb57.block _ (lt_of_block hr5)).trans hr5
  have HLD : Hid (∀ W, Below w7.heap.size w7 W → loadSe (.pointer (some ⟨w3.heap.size, 0, none⟩)) W = .ok (.value (.agg CA)) W ∧ loadH (.pointer (some ⟨w5.heap.size, 0, none⟩)) W = .ok (.value (.agg TC)) W) := hid (fun W h => by
    refine ⟨loadSe_row ((h.block _ (lt_of_block hr8)).trans hr8) HCS.out.1, ?_⟩
    rw [← HTC.out]
    have hr9 := (h.block _ (lt_of_block hr7.out)).trans hr7.out
    exact loadH_mid (fun j u hu => by rw [Nat.zero_add, cell_blk hr9 j]; simpa [hcells] using hu) HTL.out)
  have HSB : Hid (∀ W, Below w7.heap.size w7 W → W.heap[w3.heap.size]? = some (.cells CA 25 (0, 0))) := hid (fun W h => (h.block _ (lt_of_block hr8)).trans hr8)
  have HNE : Hid (w3.heap.size ≠ w.heap.size) := hid (fun e => by have := hB3.size; have := HLZ.out; omega)
  have HBW : Hid (∀ W, Below w7.heap.size w7 W → Below w0.heap.size w0 W) := hid (fun W h => hb7.trans (h.mono hb7.size))
  have HRAW : Hid (rawB l = ((a1 : Int), a, t, p3, r3)) := hid (by rw [rawB_read]; simp only [HA1.out, HA2.out, HA3.out])
  obtain ⟨gs, HGS⟩ : ∃ k : Nat, Hid (w3.heap.size = k) := ⟨_, hid rfl⟩
  obtain ⟨gt, HGT⟩ : ∃ k : Nat, Hid (w5.heap.size = k) := ⟨_, hid rfl⟩
  rw [HGS.out, HGT.out] at HLD
  rw [HGS.out] at HSB HNE
  rw [HGS.out, HGT.out]
  clear hB3 hrd5 hb5 hb57 hb7 hr5 hr8 hrt hr7 hgs hgl HA1 HA2 HA3 HGS HGT
  obtain ⟨q, HQ⟩ : ∃ d : Bool, Hid ((r3 && decide (p3 = l.length)) = d) := ⟨_, hid rfl⟩
  obtain ⟨vs, HVS⟩ : ∃ d : Bool, Hid (versB (a1 : Int) = d) := ⟨_, hid rfl⟩
  obtain ⟨m, HM⟩ : ∃ d : Bool, Hid (mayS a = d) := ⟨_, hid rfl⟩
  have HTX : Hid (textB l = (q && (vs && m))) := hid (by
    rw [textB_raw HRAW.out, HQ.out, HM.out, ← HVS.out]
    unfold versB
    have := HM1.out
    congr 2
    simp
    omega)
  have HCK : Hid (∀ W, Calls Tryd.prog 7 #[.agg CA] W fun e w' => e = .returned (.int .i64 (if m = true then 0 else 1)) ∧ Below W.heap.size W w') := hid (fun W => by
    have := seCheck_ok a W HOK.out
    rw [HM.out, HCA.out] at this
    exact this)
  go_wp2_with fail
  have C := done_any g l p3 r3 w7 hrd7 (by have := HLE.out; omega)
  rw [HQ.out] at C
  refine C.mono ?_
  clear C
  rintro e w8 ⟨rfl, n8, hw8⟩
  have hb8 : Below w7.heap.size w7 w8 := by rw [hw8]; exact below_drewN (Below.refl _ _) n8
  clear hw8 hrd7
  cases q with
  | false =>
    have hbz := HBZ.out
    have hsf := HZS.out w8 (HBW.out _ hb8)
    have HF := hid (HZW.out w8 (HBW.out _ hb8))
    go_wp2_with fail
    refine bodyPost_ret (results_se rfl _ _ _ _ _ _ _ rfl rfl rfl HF.out HSZ.out) rfl ⟨?_, HB0.out.trans ((HBW.out _ hb8).mono HB0.out.size)⟩
    rw [getB_text (by rw [HTX.out]; rfl), ← HZ.out]
    all_goals rfl
  | true =>
    go_wp2_with fail
    refine (seVers_any (a1 : Int) w8).mono ?_
    rintro e w9 ⟨rfl, rfl⟩
    rw [HVS.out]
    cases vs with
    | false =>
      have hbz := HBZ.out
      have hsf := HZS.out w8 (HBW.out _ hb8)
      have HF := hid (HZW.out w8 (HBW.out _ hb8))
      go_wp2_with fail
      refine bodyPost_ret (results_se rfl _ _ _ _ _ _ _ rfl rfl rfl HF.out HSZ.out) rfl ⟨?_, HB0.out.trans ((HBW.out _ hb8).mono HB0.out.size)⟩
      rw [getB_text (by rw [HTX.out]; rfl), ← HZ.out]
      all_goals rfl
    | true =>
      have l8 := (HLD.out w8 hb8).1
      go_wp2_with fail
      refine (HCK.out w8).mono ?_
      rintro e w9 ⟨rfl, hb9'⟩
      have hb9 := hb8.trans (hb9'.mono hb8.size)
      clear l8 hb9' hb8
      cases m with
      | false =>
        simp only [Bool.false_eq_true, if_false]
        have hbz := HBZ.out
        have hsf := HZS.out w9 (HBW.out _ hb9)
        have HF := hid (HZW.out w9 (HBW.out _ hb9))
        go_wp2_with fail
        refine bodyPost_ret (results_se rfl _ _ _ _ _ _ _ rfl rfl rfl HF.out HSZ.out) rfl ⟨?_, HB0.out.trans ((HBW.out _ hb9).mono HB0.out.size)⟩
        rw [getB_text (by rw [HTX.out]; rfl), ← HZ.out]
        all_goals rfl
      | true =>
        simp only [if_true]
        go_upto_region 7 with (fail)
        have hbd : Below w7.heap.size w7 w9.drew := hb9.drew
        obtain ⟨L, HL⟩ : ∃ x : List UInt8, Hid (taggedS (a1 : Int) a = x) := ⟨_, hid rfl⟩
        have HLL : Hid (L.length ≤ 72) := hid (by rw [← HL.out]; exact taggedS_len HOK.out HVS.out HM.out)
        have HTD : Hid (∀ W, Calls Tryd.prog 17 #[.int .i64 (a1 : Int), .agg CA] W fun e w' => ∃ x, e = .returned x ∧ Own W.heap.size w' x L ∧ Below W.heap.size W w') := hid (fun W => by
          have := setagged_any (a1 : Int) a W HOK.out HVS.out HM.out
          rw [HL.out, HCA.out] at this
          exact this)
        obtain ⟨d, HD⟩ : ∃ d : Bool, Hid ((nodeB i && decide (t = hl 32 (tagF i 3 L))) = d) := ⟨_, hid rfl⟩
        have HKC : Hid (∀ v gp c W, Below w.heap.size w W → gp < W.heap.size → W.cell? ⟨gp, 0, none⟩ = some v → Byt W v L → Calls Tryd.prog 26 #[.int .i64 i, .int .u8 3, .agg TC, .slice (some ⟨gp, 0, none⟩) 1 c] W fun e w' => e = .returned (.bool d) ∧ Below W.heap.size W w') := hid (fun v gp c W hb h1 h2 h3 => by
          have := check_hash i 3 t HTL.out v L gp c W h1 h2 h3 (by have := HLL.out; omega) (HKB.out W hb)
          rw [HD.out, HTC.out] at this
          exact this)
        refine wp_region_held_drew (S := fun W => loadSe (.pointer (some ⟨gs, 0, none⟩)) W = .ok (.value (.agg CA)) W ∧ loadH (.pointer (some ⟨gt, 0, none⟩)) W = .ok (.value (.agg TC)) W) (by kernel_rfl) (HLD.out _ hbd) (fun hHeld => ?_)
        refine' tk (i := 0) (v := _) rfl ?_ ?_
        rotate_left
        · (intro W hW; (try dsimp only at hW); go_simp; first | done | with_reducible rfl)
        try simp only [lay]
        refine' tk (i := 1) (v := _) rfl (fun W hW => hW.2) ?_
        try simp only [lay]
        refine' tk (i := 2) (v := _) rfl ?_ ?_
        rotate_left
        · (intro W hW; (try dsimp only at hW); go_simp; first | done | with_reducible rfl)
        try simp only [lay]
        refine' tk (i := 3) (v := _) rfl (fun W hW => hW.1) ?_
        try simp only [lay]
        refine call_on (i := 4) rfl (by kernel_rfl) (by rfl) (fun K hK => ?_)
        go_simp
        refine (HTD.out _).mono ?_
        rintro e w10 ⟨v10, rfl, ho10, hb10'⟩
        have hb10 := hbd.trans (hb10'.mono hbd.size)
        have hv10 := ho10.byt
        obtain ⟨A3, c3, rfl⟩ := hv10.shape
        refine hK.out _ _ (HLD.out _ hb10) (fun hHeld => ?_)
        clear hK K
        try simp only [lay]
        have hb11 : Below w7.heap.size w7 (w10.alloc (.cells #[.slice A3 L.length c3] 27)) := hb10.alloc hb10.size _
        refine call_on (i := 5) rfl (by kernel_rfl) (by rfl) (fun K hK => ?_)
        go_simp
        refine hK.out _ _ (HLD.out _ hb11) (fun hHeld => ?_)
        clear hK K
        try simp only [lay]
        refine call_on (i := 6) rfl (by kernel_rfl) (by rfl) (fun K hK => ?_)
        go_simp
        refine (HKC.out (.slice A3 L.length c3) w10.heap.size 1 (w10.alloc (.cells #[.slice A3 L.length c3] 27)) (HB0.out.trans ((HBW.out _ hb11).mono HB0.out.size)) (by simp) (alloc_cell0 _ _ _) (hv10.alloc _)).mono ?_
        rintro e w12 ⟨rfl, hb12'⟩
        have hb12 := hb11.trans (hb12'.mono hb11.size)
        refine hK.out _ _ (HLD.out _ hb12) (fun hHeld => ?_)
        clear hK K
        try simp only [lay]
        refine' tk (i := 7) (v := _) rfl ?_ ?_
        rotate_left
        · (intro W hW; (try dsimp only at hW); go_simp; first | done | with_reducible rfl)
        try simp only [lay]
        refine wpAnyH_done (by kernel_rfl) ?_ _
        clear hHeld hbd hb9 ho10 hb10 hb10' hv10 hb11 hb12'
        have HDT : Hid ((nodeB i = true ∧ (rawB l).2.2.1 = tagS i (rawB l).1 (rawB l).2.1) ↔ d = true) := hid (by
          rw [HRAW.out, ← HD.out]
          unfold tagS
          simp only [HL.out, Bool.and_eq_true, decide_eq_true_eq])
        cases d with
        | false =>
          have hbz := HBZ.out
          have hsf := HZS.out w12 (HBW.out _ hb12)
          have HF := hid (HZW.out w12 (HBW.out _ hb12))
          go_wp2_with fail
          refine bodyPost_ret (results_se rfl _ _ _ _ _ _ _ rfl rfl rfl HF.out HSZ.out) rfl ⟨?_, HB0.out.trans ((HBW.out _ hb12).mono HB0.out.size)⟩
          rw [getB_tag (by rw [HTX.out]; rfl) (by rw [HDT.out]; decide), ← HZ.out]
          all_goals rfl
        | true =>
          have HDY := hid (HDT.out.2 rfl)
          go_upto_region 9 with (fail)
          have HZ9 := hid (HZW.out w12 (HBW.out _ hb12))
          have HB12 := hid (HBW.out _ hb12)
          have hbe : Below w7.heap.size w7 w12.drew := hb12.drew
          have HLT := hid (lt_of_block HZ9.out)
          have HGS : Hid (gs ≠ w.heap.size) := HNE
          refine wp_region_held_drew (S := fun W => loadSe (.pointer (some ⟨gs, 0, none⟩)) W = .ok (.value (.agg CA)) W) (by kernel_rfl) (HLD.out _ hbe).1 (fun hHeld => ?_)
          refine' tk (i := 0) (v := _) rfl ?_ ?_
          rotate_left
          · (intro W hW; (try dsimp only at hW); go_simp; first | done | with_reducible rfl)
          try simp only [lay]
          refine' tk (i := 1) (v := _) rfl (fun W hW => hW) ?_
          try simp only [lay]
          refine' tk (i := 2) (v := _) rfl ?_ ?_
          rotate_left
          · (intro W hW; (try dsimp only at hW); go_simp; first | done | with_reducible rfl)
          try simp only [lay]
          refine call_on (i := 3) rfl (by kernel_rfl) (by rfl) (fun K hK => ?_)
          refine wp_store_se (w := w12.drew) (C := CA) _ _ rfl rfl rfl HZ9.out HCS.out.1 HSZ.out HCS.out.2 ?_
          intro wa hga hra hsa
          have hBB : Below w.heap.size w wa := below_into (HB0.out.trans (HB12.out.drew.mono HB0.out.size)) (Nat.le_refl _) hga (by show _ ≤ w12.heap.size; have := HLT.out; omega)
          have hrs : wa.heap[gs]? = some (.cells CA 25 (0, 0)) := (hga.block _ (lt_of_block (HSB.out w12 hb12)) (fun e => by injection e with e; exact HGS.out e)).trans (HSB.out w12 hb12)
          refine hK.out _ _ (loadSe_row hrs HCS.out.1) (fun hHeld => ?_)
          clear hK K
          try simp only [lay]
          refine' tk (i := 4) (v := _) rfl ?_ ?_
          rotate_left
          · (intro W hW; (try dsimp only at hW); go_simp; first | done | with_reducible rfl)
          try simp only [lay]
          refine wpAnyH_done (by kernel_rfl) ?_ _
          clear hHeld
          go_wp2_with fail
          refine bodyPost_ret (results_se rfl _ _ _ _ _ _ _ rfl rfl rfl hra HCS.out.1) rfl ⟨?_, hBB⟩
          rw [getB_yes (by rw [HTX.out]; rfl) HDY.out, HRAW.out, HCA.out]
          all_goals rfl
end Go.Proofs.YtifkkpfiejiojaaDoor
