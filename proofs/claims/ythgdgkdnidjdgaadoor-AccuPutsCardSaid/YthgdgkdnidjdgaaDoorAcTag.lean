/-
  The document's answer for an accumulation's right tag: tithingref10.Tag. Printed with genactag.py.
-/
import Derived.Test.YthgdgkdnidjdgaaDoorAcTagged
import Derived.Test.YthgdgkdnidjdgaaDoorBs6
namespace Go.Proofs.YthgdgkdnidjdgaaDoor
set_option maxRecDepth 20000
open Go.RowKit
attribute [local go_sem ↓] exec_load_hash exec_load_ax

set_option maxHeartbeats 3200000 in
theorem refTag10_any (x0 : Value) (a : AcM) (w : World) (hv : AcV w x0 a) (hm : mayX a = true) (hK : Kst 1 w) :
    Calls Tryd.prog 32 #[x0] w fun e w' => e = .returned (.agg (hcells (tagX a))) ∧ Below w.heap.size w w' := by
  have HTD := hid (fun W (h : Below w.heap.size w W) => refTagged10_any x0 a W (hv.below h) hm)
  obtain ⟨s, rfl, ho, he⟩ := hv
  obtain ⟨C, HC⟩ : ∃ C : Array Value, Hid (axc a s = C) := ⟨_, hid rfl⟩
  have HCS : Hid (C.size = 68) := hid (by rw [← HC.out]; exact axc_size _ ho)
  rw [HC.out] at HTD ⊢
  have hr0 := heap1 w (.cells C 30) (.cells (fcells 32 fun _ => bcell 0) 27)
  have hH0 : Blk ((w.alloc (.cells C 30)).alloc (.cells (fcells 32 fun _ => bcell 0) 27)) (w.heap.size + 1) 32 (fun _ => bcell 0) 27 := heap2 w (.cells C 30) _
  have hb0 : Below w.heap.size w ((w.alloc (.cells C 30)).alloc (.cells (fcells 32 fun _ => bcell 0) 27)) := ((Below.refl _ _).alloc (Nat.le_refl _) _).alloc (by simp) _
  have HKB := hid (fun W (h : Below w.heap.size w W) => (show Kst 1 W from hK.below h))
  have hlen := taggedX_len ho hm
  have HTG : Hid (∀ v W, Below w.heap.size w W → Byt W v (taggedX a) → Calls Tryd.prog 57 #[.int .i64 a.bo, .int .u8 2, v] W fun e w' => e = .returned (.agg (fcells 32 fun j => bcell (tagF a.bo 2 (taggedX a) j))) ∧ Below W.heap.size W w') := hid (fun v W h hv => by
    have := refTag_any a.bo 2 v (taggedX a) W hv (by omega) (HKB.out W h)
    exact this)
  obtain ⟨τ, HT⟩ : ∃ t : Nat → UInt8, Hid (tagF a.bo 2 (taggedX a) = t) := ⟨_, hid rfl⟩
  obtain ⟨D, HD⟩ : ∃ C : Array Value, Hid ((fcells 32 fun j => bcell (τ j)) = C) := ⟨_, hid rfl⟩
  have HRS : Hid (hcells (tagX a) = D) := hid (by rw [← HD.out, ← HT.out, fcells_hl]; rfl)
  rw [HT.out, HD.out] at HTG
  rw [HRS.out]
  have HXR : Hid (∀ W : World, W.heap[w.heap.size]? = some (.cells C 30 (0, 0)) → W.cell? ⟨w.heap.size, 0, none⟩ = some (.int .i64 a.bo) ∧ loadAx (.pointer (some ⟨w.heap.size, 0, none⟩)) W = .ok (.value (.agg C)) W) := hid (fun W h => by
    refine ⟨?_, loadAx_row h HCS.out⟩
    rw [← HC.out] at h
    have hB : BoxX W w.heap.size a s := h
    exact hB.ints.1)
  clear hK ho hm hlen he
  go_enter Tryd.func32, Tryd.ntmps32
  go_upto_region 1 with (refine wpList_alloc_arr arrH rfl rfl ?_)
  generalize ((w.alloc (.cells C 30)).alloc (.cells (fcells 32 fun _ => bcell 0) 27)) = w0 at *
  have hl0 := lt_of_block hr0
  have HX : Hid (∀ W, Below w0.heap.size w0 W → W.heap[w.heap.size]? = some (.cells C 30 (0, 0))) := hid (fun W h => (h.block _ hl0).trans hr0)
  have hbd : Below w0.heap.size w0 w0.drew := (Below.refl _ _).drew
  have HH0 := hid hH0
  have HL0 := hid hl0
  clear hH0 hr0 hl0
  refine wp_region_held_drew (S := fun W => W.heap[w.heap.size]? = some (.cells C 30 (0, 0))) (by kernel_rfl) (HX.out _ hbd) (fun hHeld => ?_)
  refine' take_on (i := 0) (v := _) rfl (by kernel_rfl) (by kernel_rfl) (by kernel_rfl) (fun _ _ _ h => h) (by rfl) ?_ (by assumption) ?_
  rotate_left
  · (intro W hW; (try dsimp only at hW); go_simp; first | done | with_reducible rfl)
  try simp only [Act.put, List.setIfInBounds_toArray, List.set_cons_zero, List.set_cons_succ]
  refine' take_on (i := 1) (v := _) rfl (by kernel_rfl) (by kernel_rfl) (by kernel_rfl) (fun _ _ _ h => h) (by rfl) ?_ (by assumption) ?_
  rotate_left
  · (intro W hW; (try dsimp only at hW); have hW1 := (HXR.out W hW).1; go_simp; first | done | with_reducible rfl)
  try simp only [Act.put, List.setIfInBounds_toArray, List.set_cons_zero, List.set_cons_succ]
  refine' take_on (i := 2) (v := _) rfl (by kernel_rfl) (by kernel_rfl) (by kernel_rfl) (fun _ _ _ h => h) (by rfl) (fun W hW => (HXR.out W hW).2) (by assumption) ?_
  try simp only [Act.put, List.setIfInBounds_toArray, List.set_cons_zero, List.set_cons_succ]
  refine call_on (i := 3) rfl (by kernel_rfl) (by rfl) (fun K hK => ?_)
  go_simp
  refine (HTD.out w0.drew (hb0.drew)).mono ?_
  rintro e w2 ⟨v2, rfl, ho2, hb2'⟩
  have hb2 := hbd.trans hb2'
  refine hK.out _ _ (HX.out _ hb2) (fun hHeld => ?_)
  clear hK K
  try simp only [Act.put, List.setIfInBounds_toArray, List.set_cons_zero, List.set_cons_succ]
  refine call_on (i := 4) rfl (by kernel_rfl) (by rfl) (fun K hK => ?_)
  go_simp
  refine (HTG.out v2 w2 (hb0.trans (hb2.mono hb0.size)) ho2.byt).mono ?_
  rintro e w3 ⟨rfl, hb3'⟩
  have hb3 := hb2.trans (hb3'.mono hb2.size)
  have hB3 := hb0.trans (hb3.mono hb0.size)
  have hH3 := HH0.out.keep hb3
  refine hK.out _ _ (HX.out _ hb3) (fun hHeld => ?_)
  clear hK K
  try simp only [Act.put, List.setIfInBounds_toArray, List.set_cons_zero, List.set_cons_succ]
  refine call_on (i := 5) rfl (by kernel_rfl) (by rfl) (fun K hK => ?_)
  refine wp_store_arrH (f' := fun j => bcell (τ j)) _ _ rfl rfl (by rw [HD.out]; rfl) hH3 (fun _ _ => rfl) ?_
  intro w4 hg4 hH4 hs4
  refine hK.out _ _ ((hg4.block _ (Nat.lt_of_lt_of_le HL0.out hb3.size) (fun e => by injection e with e; omega)).trans (HX.out _ hb3)) (fun hHeld => ?_)
  clear hK K
  try simp only [Act.put]
  refine wpAnyH_done (by kernel_rfl) ?_ _
  go_wp2_with fail
  refine bodyPost_ret (arrH.result rfl _ _ rfl hH4) rfl ⟨by rw [HD.out], ?_⟩
  exact below_into hB3 (Nat.le_succ _) hg4 hB3.size
end Go.Proofs.YthgdgkdnidjdgaaDoor
