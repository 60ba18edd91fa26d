/-
  att.Sign: an attestation that may be, with the right tag.
-/
import Derived.Test.YtmhchihcgliinaaDoorAtCodeMay
import Derived.Test.YtmhchihcgliinaaDoorAtCodeTagged
import Derived.Test.YtmhchihcgliinaaDoorHashZero
namespace Go.Proofs.YtmhchihcgliinaaDoor
set_option maxRecDepth 20000
open Go.RowKit
attribute [local go_sem ↓] exec_load_att exec_alloc_att exec_store_att exec_build_hash

theorem tag_one (i : Int) (d : UInt8) (v0 : Value) (l0 : List UInt8) (gp c : Nat) (w : World) (hg : gp < w.heap.size) (h0 : w.cell? ⟨gp, 0, none⟩ = some v0) (b0 : Byt w v0 l0) (hl : l0.length ≤ 1000000) (hK : Kst 0 w) :
    Calls Tryd.prog 30 #[.int .i64 i, .int .u8 (d.toNat : Int), .slice (some ⟨gp, 0, none⟩) 1 c] w fun e w' => e = .returned (.agg (hcells (Go.Proofs.YtmhchihcgliinaaDoor.hl 32 (tagF i d l0)))) ∧ Below w.heap.size w w' := by
  have h := tag_any i d [l0] (fun _ => v0) gp 1 c w rfl hg (fun j hj => by
    match j, hj with
    | 0, _ => exact h0) (fun j hj => by
    match j, hj with
    | 0, _ => exact b0) (by simpa using hl) (by omega) hK
  have e : ([l0] : List (List UInt8)).flatten = l0 := by simp
  rw [e, fcells_hl] at h
  exact h
theorem mayA_tag (a : AtM) (t : List UInt8) : mayA { a with tg := t } = mayA a := rfl
theorem alloc_cell0 (w : World) (x : Value) (T : TypeId) : (w.alloc (.cells #[x] T)).cell? ⟨w.heap.size, 0, none⟩ = some x := by simp

set_option maxHeartbeats 3200000 in
theorem atSign_ok : AtSignOk := by
  intro a w ho hm hK
  obtain ⟨a0, HA0⟩ : ∃ x : AtM, Hid ({ a with tg := z32 } = x) := ⟨_, hid rfl⟩
  have hok0 : a0.Ok := by rw [← HA0.out]; exact ⟨ho.ha, ho.pa, rfl⟩
  have hm0 : mayA a0 = true := by rw [← HA0.out]; exact hm
  have HBO : Hid (a0.bo = a.bo) := hid (by rw [← HA0.out])
  have HTE : Hid (taggedA a0 = taggedA a) := hid (by rw [← HA0.out]; rfl)
  have HSE : Hid ({ a0 with tg := tagA a } = signA a) := hid (by rw [← HA0.out]; rfl)
  have hlen := taggedA_len ho hm
  have HCK : Hid (∀ W, Calls Tryd.prog 18 #[.agg (atc a0)] W fun e w' => e = .returned (.int .i64 0) ∧ Below W.heap.size W w') := hid (fun W => by
    have := atCheck_ok a0 W hok0
    rw [if_pos hm0] at this
    exact this)
  have HTD : Hid (∀ W, Calls Tryd.prog 21 #[.agg (atc a0)] W fun e w' => ∃ x, e = .returned x ∧ Own W.heap.size w' x (taggedA a) ∧ Below W.heap.size W w') := hid (fun W => by
    have := attagged_any a0 W hok0 hm0
    rw [HTE.out] at this
    exact this)
  obtain ⟨C, HC⟩ : ∃ C : Array Value, Hid (atc a = C) := ⟨_, hid rfl⟩
  obtain ⟨C0, HC0⟩ : ∃ C : Array Value, Hid (atc a0 = C) := ⟨_, hid rfl⟩
  obtain ⟨D, HD⟩ : ∃ C : Array Value, Hid (atc (signA a) = C) := ⟨_, hid rfl⟩
  obtain ⟨Z, HZ⟩ : ∃ C : Array Value, Hid (atc atZ = C) := ⟨_, hid rfl⟩
  obtain ⟨N, HN⟩ : ∃ C : Array Value, Hid (hcells z32 = C) := ⟨_, hid rfl⟩
  obtain ⟨T, HT⟩ : ∃ C : Array Value, Hid (hcells (tagA a) = C) := ⟨_, hid rfl⟩
  obtain ⟨L, HL⟩ : ∃ l : List UInt8, Hid (taggedA a = l) := ⟨_, hid rfl⟩
  have HTG : Hid (∀ v gp c W, Below w.heap.size w W → gp < W.heap.size → W.cell? ⟨gp, 0, none⟩ = some v → Byt W v L → Calls Tryd.prog 30 #[.int .i64 a0.bo, .int .u8 1, .slice (some ⟨gp, 0, none⟩) 1 c] W fun e w' => e = .returned (.agg T) ∧ Below W.heap.size W w') := hid (fun v gp c W h h1 h2 h3 => by
    have := tag_one a.bo 1 v L gp c W h1 h2 h3 (by rw [← HL.out]; omega) (hK.below h)
    rw [HBO.out, ← HT.out]
    unfold tagA
    rw [HL.out]
    exact this)
  rw [HC0.out] at HCK HTD
  rw [HL.out] at HTD
  rw [HC.out, HD.out]
  have hbz : ∀ W, buildH W = .ok (.value (.agg N)) W := fun W => by rw [buildH_eq, fcells_nought, ← HN.out]; rfl
  have hal : ∀ W, allocAtt W = .ok (.value (.pointer (some ⟨W.heap.size, 0, none⟩))) (W.alloc (.cells Z 25)) := fun W => by rw [← HZ.out]; exact allocAtt_eq W
  have hr1 := heap2 w (.cells C 25) (.cells Z 25)
  have hb0 : Below w.heap.size w ((w.alloc (.cells C 25)).alloc (.cells Z 25)) := ((Below.refl _ _).alloc (Nat.le_refl _) _).alloc (by simp) _
  have hA : BoxA ((w.alloc (.cells C 25)).alloc (.cells Z 25)) w.heap.size a := by
    unfold BoxA
    rw [HC.out]
    exact heap1 w (.cells C 25) (.cells Z 25)
  have HDS : Hid (D.size = 101 ∧ D.all (·.oneCell') = true) := hid (by rw [← HD.out]; exact ⟨atc_size (signA_ok ho), atc_one _⟩)
  have HZS : Hid (Z.size = 101) := hid (by rw [← HZ.out]; exact atc_size atZ_ok)
  have HTL : Hid ((tagA a).length = 32) := hid (tagA_len a)
  have HO := hid ho
  have HO0 := hid hok0
  have HR1 := hid hr1
  have HA := hid hA
  have HB0 := hid hb0
  have HX : Hid (∀ W : World, BoxA W w.heap.size a0 → W.cell? ⟨w.heap.size, 0, none⟩ = some (.int .i64 a0.bo) ∧ loadAtt (.pointer (some ⟨w.heap.size, 0, none⟩)) W = .ok (.value (.agg C0)) W) := hid (fun W h => by
    refine ⟨h.cells.1, ?_⟩
    have := loadAtt_eq h HO0.out
    rw [HC0.out] at this
    exact this)
  have HLD : Hid (∀ W : World, BoxA W w.heap.size { a0 with tg := tagA a } → loadAtt (.pointer (some ⟨w.heap.size, 0, none⟩)) W = .ok (.value (.agg D)) W) := hid (fun W h => by
    rw [HSE.out] at h
    have := loadAtt_eq h (signA_ok HO.out)
    rw [HD.out] at this
    exact this)
  clear hK ho hm hok0 hm0 hr1 hA hb0 hlen
  go_enter Tryd.func16, Tryd.ntmps16
  go_upto_region 1 with (fail)
  generalize ((w.alloc (.cells C 25)).alloc (.cells Z 25)) = w0 at *
  clear hal
  go_upto_region 2 with (refine wpList_store_tag rfl _ _ rfl rfl (by rw [HN.out]; rfl) HA.out HO.out (show z32.length = 32 from rfl) ?_; intro w1 hg1 hB1 hs1)
  rw [HA0.out] at hB1
  have hr1 := (hg1.block _ (lt_of_block HR1.out) (fun e => by injection e with e; omega)).trans HR1.out
  have hb1 : Below w.heap.size w w1 := below_into HB0.out (Nat.le_refl _) hg1 HB0.out.size
  have HR2 := hid hr1
  have HB1 := hid hb1
  have HA1 := hid hB1
  have l1 := (HX.out w1 hB1).2
  clear hbz hg1 hs1 hB1 hr1 hb1 HB0 HA HR1
  go_wp2_with fail
  refine (HCK.out w1).mono ?_
  rintro e w2 ⟨rfl, hb2'⟩
  have HB2 := hid (HB1.out.trans (hb2'.mono HB1.out.size))
  have HA2 := hid (HA1.out.keep hb2')
  have HR3 := hid ((hb2'.block _ (lt_of_block HR2.out)).trans HR2.out)
  clear l1 hb2'
  go_upto_region 3 with (fail)
  have hbd : Below w2.heap.size w2 w2.drew := (Below.refl _ _).drew
  have HXC : Hid (∀ W, Below w2.heap.size w2 W → W.cell? ⟨w.heap.size, 0, none⟩ = some (.int .i64 a0.bo)) := hid (fun W h => (HX.out W (HA2.out.keep h)).1)
  have l2 := (HX.out w2.drew (HA2.out.keep hbd)).2
  refine wp_region_held_drew (S := fun W => W.cell? ⟨w.heap.size, 0, none⟩ = some (.int .i64 a0.bo)) (by kernel_rfl) (HXC.out _ hbd) (fun hHeld => ?_)
  refine' take_on (i := 0) (v := _) rfl (by kernel_rfl) (by kernel_rfl) (by kernel_rfl) (fun _ _ _ h => h) (by rfl) ?_ (by assumption) ?_
  rotate_left
  · (intro W hW; (try dsimp only at hW); go_simp; first | done | with_reducible rfl)
  try simp only [Act.put, List.setIfInBounds_toArray, List.set_cons_zero, List.set_cons_succ]
  refine' take_on (i := 1) (v := _) rfl (by kernel_rfl) (by kernel_rfl) (by kernel_rfl) (fun _ _ _ h => h) (by rfl) ?_ (by assumption) ?_
  rotate_left
  · (intro W hW; (try dsimp only at hW); go_simp; first | done | with_reducible rfl)
  try simp only [Act.put, List.setIfInBounds_toArray, List.set_cons_zero, List.set_cons_succ]
  refine call_on (i := 2) rfl (by kernel_rfl) (by rfl) (fun K hK => ?_)
  go_simp
  refine hK.out _ _ (HXC.out _ hbd) (fun hHeld => ?_)
  clear hK K
  try simp only [Act.put, List.setIfInBounds_toArray, List.set_cons_zero, List.set_cons_succ]
  clear l2
  refine call_on (i := 3) rfl (by kernel_rfl) (by rfl) (fun K hK => ?_)
  go_simp
  refine (HTD.out w2.drew).mono ?_
  rintro e w3 ⟨v3, rfl, ho3, hb3'⟩
  have hb3 := hbd.trans hb3'
  have hv3 := ho3.byt
  obtain ⟨A3, c3, rfl⟩ := hv3.shape
  refine hK.out _ _ (HXC.out _ hb3) (fun hHeld => ?_)
  clear hK K
  try simp only [Act.put, List.setIfInBounds_toArray, List.set_cons_zero, List.set_cons_succ]
  have hb4 : Below w2.heap.size w2 (w3.alloc (.cells #[.slice A3 L.length c3] 26)) := hb3.alloc hb3.size _
  refine call_on (i := 4) rfl (by kernel_rfl) (by rfl) (fun K hK => ?_)
  go_simp
  refine hK.out _ _ (HXC.out _ hb4) (fun hHeld => ?_)
  clear hK K
  try simp only [Act.put, List.setIfInBounds_toArray, List.set_cons_zero, List.set_cons_succ]
  refine call_on (i := 5) rfl (by kernel_rfl) (by rfl) (fun K hK => ?_)
  go_simp
  refine (HTG.out (.slice A3 L.length c3) w3.heap.size 1 (w3.alloc (.cells #[.slice A3 L.length c3] 26)) (HB2.out.trans (hb4.mono HB2.out.size)) (by simp) (alloc_cell0 _ _ _) (hv3.alloc _)).mono ?_
  rintro e w5 ⟨rfl, hb5'⟩
  have hb5 := hb4.trans (hb5'.mono hb4.size)
  refine hK.out _ _ (HXC.out _ hb5) (fun hHeld => ?_)
  clear hK K
  try simp only [Act.put, List.setIfInBounds_toArray, List.set_cons_zero, List.set_cons_succ]
  refine' take_on (i := 6) (v := _) rfl (by kernel_rfl) (by kernel_rfl) (by kernel_rfl) (fun _ _ _ h => h) (by rfl) ?_ (by assumption) ?_
  rotate_left
  · (intro W hW; (try dsimp only at hW); go_simp; first | done | with_reducible rfl)
  try simp only [Act.put, List.setIfInBounds_toArray, List.set_cons_zero, List.set_cons_succ]
  refine call_on (i := 7) rfl (by kernel_rfl) (by rfl) (fun K hK => ?_)
  refine wp_store_tag _ _ rfl rfl (by rw [HT.out]; rfl) (HA2.out.keep hb5) HO0.out HTL.out ?_
  intro w6 hg6 hA6 hs6
  have hB5 := HB2.out.trans (hb5.mono HB2.out.size)
  have hr6 := (hg6.block _ (Nat.lt_of_lt_of_le (lt_of_block HR3.out) hb5.size) (fun e => by injection e with e; omega)).trans ((hb5.block _ (lt_of_block HR3.out)).trans HR3.out)
  have hB6 : Below w.heap.size w w6 := below_into hB5 (Nat.le_refl _) hg6 hB5.size
  refine hK.out _ _ hA6.cells.1 (fun hHeld => ?_)
  clear hK K
  try simp only [Act.put]
  refine wpAnyH_done (by kernel_rfl) ?_ _
  have l6 := HLD.out w6 hA6
  have hs := storeAtt_eq hr6 HZS.out HDS.out.1 HDS.out.2
  have hlt6 := lt_of_block hr6
  go_wp2_with fail
  refine bodyPost_ret (results_cell_row rfl _ _ _ _ _ (0, 0) _ rfl (setAtt_same hr6) under_att rfl (by rw [size_att, HDS.out.1])) rfl ⟨rfl, ?_⟩
  exact setAtt_below hB6 (Nat.le_succ _)
end Go.Proofs.YtmhchihcgliinaaDoor
