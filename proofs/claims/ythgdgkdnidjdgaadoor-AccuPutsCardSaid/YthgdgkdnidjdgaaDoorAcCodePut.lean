/-
  accu.Put: an accumulation's bytes behind others.
-/
import Derived.Test.YthgdgkdnidjdgaaDoorAcCodeFits
import Derived.Test.YthgdgkdnidjdgaaDoorAcCodeTagged
import Derived.Test.YthgdgkdnidjdgaaDoorBs7
import Derived.Test.YthgdgkdnidjdgaaDoorBs6
namespace Go.Proofs.YthgdgkdnidjdgaaDoor
set_option maxRecDepth 20000
open Go.RowKit
attribute [local go_sem ↓] exec_load_ax

set_option maxHeartbeats 6400000 in
theorem acPut_ok : AcPutOk := by
  intro v u l a w hv hl hu hlc
  have HU := hid (fun W (h : Below w.heap.size w W) => hu.below h)
  have HLC := hid hlc
  obtain ⟨m, HM⟩ : ∃ m : Bool, Hid (mayX a = m) := ⟨_, hid rfl⟩
  have HPT : Hid (putX l a = if m = true then l ++ bytesX a else l) := hid (by unfold putX; rw [HM.out])
  obtain ⟨s, rfl, ho, ht⟩ := hu
  have hb0 : Below w.heap.size w (w.alloc (.cells (axc a s) 30)) := (Below.refl _ _).alloc (Nat.le_refl _) _
  have hr0 : (w.alloc (.cells (axc a s) 30)).heap[w.heap.size]? = some (.cells (axc a s) 30 (0, 0)) := heap_alloc_new w _
  have HLEN : Hid (m = true → (bytesX a).length ≤ 150) := hid (fun h => bytesX_len ho (HM.out.trans h))
  have HNP : Hid (m = true → 1 ≤ a.bo ∧ a.bo ≤ 21) := hid (fun h => ⟨(mayX_iff.1 (HM.out.trans h)).2.1, (mayX_iff.1 (HM.out.trans h)).2.2.1⟩)
  obtain ⟨C, HC⟩ : ∃ C : Array Value, Hid (axc a s = C) := ⟨_, hid rfl⟩
  rw [HC.out] at hb0 hr0 HU ⊢
  have HFI : Hid (∀ W, Below w.heap.size w W → Calls Tryd.prog 33 #[.agg C] W fun e w' => e = .returned (.bool m) ∧ Below W.heap.size W w') := hid (fun W h => by
    have := acFits_any _ a W (HU.out W h) HLC.out
    rw [HM.out] at this
    exact this)
  have HTD : Hid (m = true → ∀ W, Below w.heap.size w W → Calls Tryd.prog 29 #[.agg C] W fun e w' => ∃ x, e = .returned x ∧ Own W.heap.size w' x (taggedX a) ∧ Below W.heap.size W w') := hid (fun h W hb => acTagged_any _ a W (HU.out W hb) (HM.out.trans h))
  have HNU : Hid (m = true → ∀ W, Calls Tryd.prog 43 #[.slice none 0 0, .int .i64 a.bo] W fun e w' => ∃ x, e = .returned x ∧ Own W.heap.size w' x (dg a.bo.toNat) ∧ Below W.heap.size W w') := hid (fun h W => by
    obtain ⟨j1, j2⟩ := HNP.out h
    have := acnum_any (.slice none 0 0) [] a.bo W (Byt.nil _) (by omega) (by omega) (by decide)
    simpa using this)
  obtain ⟨T, HTT⟩ : ∃ x : List UInt8, Hid (taggedX a = x) := ⟨_, hid rfl⟩
  obtain ⟨U, HUU⟩ : ∃ x : List UInt8, Hid (dg a.bo.toNat = x) := ⟨_, hid rfl⟩
  have HBY : Hid (bytesX a = U ++ (T ++ a.tg)) := hid (by unfold bytesX; rw [HTT.out, HUU.out])
  rw [HTT.out] at HTD
  rw [HUU.out] at HNU
  have HTL : Hid (a.tg.length = 32) := hid ho.tg
  obtain ⟨bo, HBO⟩ : ∃ x : Int, Hid (a.bo = x) := ⟨_, hid rfl⟩
  rw [HBO.out] at HNU
  have HX : Hid (∀ W : World, W.heap[w.heap.size]? = some (.cells C 30 (0, 0)) → W.cell? ⟨w.heap.size, 0, none⟩ = some (.int .i64 bo) ∧ loadAx (.pointer (some ⟨w.heap.size, 0, none⟩)) W = .ok (.value (.agg C)) W) := hid (fun W h => by
    have h2 := h
    rw [← HC.out] at h2
    have hBX : BoxX W w.heap.size a s := h2
    have h3 := hBX.ints.1
    rw [HBO.out] at h3
    exact ⟨h3, loadAx_row h (by rw [← HC.out]; exact axc_size _ ho)⟩)
  have HTG : Hid (∀ W : World, W.heap[w.heap.size]? = some (.cells C 30 (0, 0)) → W.rangeAt w.heap.size 36 (bcells a.tg)) := hid (fun W h => by
    rw [← HC.out] at h
    have hBX : BoxX W w.heap.size a s := h
    exact hBX.tg ho)
  have HV := hid (fun W (h : Below w.heap.size w W) => hv.below h)
  obtain ⟨A, k, rfl⟩ := hv.shape
  have HL0 := hid hl
  clear ho ht hl hlc hv HC HUU HTT
  go_enter Tryd.func17, Tryd.ntmps17
  go_upto_region 1 with (fail)
  generalize (w.alloc (.cells C 30)) = w0 at *
  have l0 := (HX.out w0 hr0).2
  have HR0 := hid hr0
  have HB0 := hid hb0
  clear hr0 hb0
  go_wp2_with fail
  refine (HFI.out w0 HB0.out).mono ?_
  rintro e w1 ⟨rfl, hb1⟩
  have HB1 := hid (HB0.out.trans (hb1.mono HB0.out.size))
  have HR1 := hid ((hb1.block _ (lt_of_block HR0.out)).trans HR0.out)
  have hv1 := HV.out w1 HB1.out
  clear l0 hb1
  cases m with
  | false =>
    simp only [Bool.false_eq_true, if_false] at HPT
    clear HTD HNU HLEN
    go_wp2_with fail
    refine (concat1 _ l w1.heap.size _ (w1.alloc (.cells #[.slice A l.length k] 40)) (by simp) (by simp) (hv1.alloc _) (by have := HL0.out; omega)).mono ?_
    rintro e w2 ⟨x, rfl, ho2, hb2⟩
    go_wp2_with fail
    go_ret
    refine ⟨x, rfl, by rw [HPT.out]; exact ho2.byt, ?_⟩
    exact (HB1.out.alloc HB1.out.size _).trans (hb2.mono (by have := HB1.out.size; simp; omega))
  | true =>
    simp only [if_true] at HPT
    have HNU2 := hid (HNU.out rfl)
    have HTD2 := hid (HTD.out rfl)
    have HLEN2 := hid (HLEN.out rfl)
    clear HNU HTD HLEN HNP
    go_upto_region 3 with (fail)
    have hl1 := lt_of_block HR1.out
    have HRW : Hid (∀ W, Below w1.heap.size w1 W → W.heap[w.heap.size]? = some (.cells C 30 (0, 0))) := hid (fun W h => (h.block _ hl1).trans HR1.out)
    have HXW : Hid (∀ W, Below w1.heap.size w1 W → W.cell? ⟨w.heap.size, 0, none⟩ = some (.int .i64 bo) ∧ loadAx (.pointer (some ⟨w.heap.size, 0, none⟩)) W = .ok (.value (.agg C)) W) := hid (fun W h => HX.out W (HRW.out W h))
    have hbd : Below w1.heap.size w1 w1.drew := (Below.refl _ _).drew
    refine wp_region_held_drew (S := fun W => W.cell? ⟨w.heap.size, 0, none⟩ = some (.int .i64 bo) ∧ loadAx (.pointer (some ⟨w.heap.size, 0, none⟩)) W = .ok (.value (.agg C)) W) (by kernel_rfl) (HXW.out _ hbd) (fun hHeld => ?_)
    refine' take_on (i := 0) (v := _) rfl (by kernel_rfl) (by kernel_rfl) (by kernel_rfl) (fun _ _ _ h => h) (by rfl) ?_ (by assumption) ?_
    rotate_left
    · (intro W hW; (try dsimp only at hW); go_simp; first | done | with_reducible rfl)
    try simp only [Act.put, List.setIfInBounds_toArray, List.set_cons_zero, List.set_cons_succ]
    refine' take_on (i := 1) (v := _) rfl (by kernel_rfl) (by kernel_rfl) (by kernel_rfl) (fun _ _ _ h => h) (by rfl) ?_ (by assumption) ?_
    rotate_left
    · (intro W hW; (try dsimp only at hW); go_simp; first | done | with_reducible rfl)
    try simp only [Act.put, List.setIfInBounds_toArray, List.set_cons_zero, List.set_cons_succ]
    refine' take_on (i := 2) (v := _) rfl (by kernel_rfl) (by kernel_rfl) (by kernel_rfl) (fun _ _ _ h => h) (by rfl) ?_ (by assumption) ?_
    rotate_left
    · (intro W hW; (try dsimp only at hW); obtain ⟨hW1, hW2⟩ := hW; go_simp; first | done | with_reducible rfl)
    try simp only [Act.put, List.setIfInBounds_toArray, List.set_cons_zero, List.set_cons_succ]
    refine' take_on (i := 4) (v := _) rfl (by kernel_rfl) (by kernel_rfl) (by kernel_rfl) (fun _ _ _ h => h) (by rfl) (fun W hW => hW.2) (by assumption) ?_
    try simp only [Act.put, List.setIfInBounds_toArray, List.set_cons_zero, List.set_cons_succ]
    refine' take_on (i := 6) (v := _) rfl (by kernel_rfl) (by kernel_rfl) (by kernel_rfl) (fun _ _ _ h => h) (by rfl) ?_ (by assumption) ?_
    rotate_left
    · (intro W hW; (try dsimp only at hW); go_simp; first | done | with_reducible rfl)
    try simp only [Act.put, List.setIfInBounds_toArray, List.set_cons_zero, List.set_cons_succ]
    refine' take_on (i := 7) (v := _) rfl (by kernel_rfl) (by kernel_rfl) (by kernel_rfl) (fun _ _ _ h => h) (by rfl) ?_ (by assumption) ?_
    rotate_left
    · (intro W hW; (try dsimp only at hW); go_simp; first | done | with_reducible rfl)
    try simp only [Act.put, List.setIfInBounds_toArray, List.set_cons_zero, List.set_cons_succ]
    refine call_on (i := 3) rfl (by kernel_rfl) (by rfl) (fun K hK => ?_)
    go_simp
    refine (HNU2.out w1.drew).mono ?_
    rintro e w2 ⟨v2, rfl, ho2, hb2'⟩
    have hb2 := hbd.trans hb2'
    obtain ⟨A2, c2, rfl⟩ := ho2.byt.shape
    refine hK.out _ _ (HXW.out _ hb2) (fun hHeld => ?_)
    clear hK K
    try simp only [Act.put, List.setIfInBounds_toArray, List.set_cons_zero, List.set_cons_succ]
    refine call_on (i := 5) rfl (by kernel_rfl) (by rfl) (fun K hK => ?_)
    go_simp
    refine (HTD2.out w2 (HB1.out.trans (hb2.mono HB1.out.size))).mono ?_
    rintro e w3 ⟨v3, rfl, ho3, hb3'⟩
    have hb3 := hb2.trans (hb3'.mono hb2.size)
    have hv3 := ho3.byt
    obtain ⟨A3, c3, rfl⟩ := hv3.shape
    have hu3 := ho2.byt.below hb3'
    have hl3 := hv1.below hb3
    have hg3 := byt_range (HTG.out w3 (HRW.out w3 hb3)) (lt_of_block (HRW.out w3 hb3)) HTL.out (by unfold maxLen; omega)
    refine hK.out _ _ (HXW.out _ hb3) (fun hHeld => ?_)
    clear hK K
    try simp only [Act.put, List.setIfInBounds_toArray, List.set_cons_zero, List.set_cons_succ]
    have hb4 : Below w1.heap.size w1 (w3.alloc (.cells #[.slice A l.length k, .slice A2 U.length c2, .slice A3 T.length c3, .slice (some ⟨w.heap.size, 36, none⟩) 32 32] 40)) := hb3.alloc hb3.size _
    refine call_on (i := 8) rfl (by kernel_rfl) (by rfl) (fun K hK => ?_)
    go_simp
    refine hK.out _ _ (HXW.out _ hb4) (fun hHeld => ?_)
    clear hK K
    try simp only [Act.put, List.setIfInBounds_toArray, List.set_cons_zero, List.set_cons_succ]
    refine call_on (i := 9) rfl (by kernel_rfl) (by rfl) (fun K hK => ?_)
    go_simp
    refine (concat4 _ _ _ _ l U T a.tg w3.heap.size 4 (w3.alloc (.cells #[.slice A l.length k, .slice A2 U.length c2, .slice A3 T.length c3, .slice (some ⟨w.heap.size, 36, none⟩) 32 32] 40)) (by simp) (by simp) (by simp) (by simp) (by simp) (hl3.alloc _) (hu3.alloc _) (hv3.alloc _) (hg3.alloc _) (L := l ++ bytesX a) (by rw [HBY.out]) (by have := HL0.out; have := HLEN2.out; rw [List.length_append]; omega)).mono ?_
    rintro e w5 ⟨x5, rfl, ho5, hb5'⟩
    have hb5 := hb4.trans (hb5'.mono hb4.size)
    refine hK.out _ _ (HXW.out _ hb5) (fun hHeld => ?_)
    clear hK K
    try simp only [Act.put, List.setIfInBounds_toArray, List.set_cons_zero, List.set_cons_succ]
    refine' take_on (i := 10) (v := _) rfl (by kernel_rfl) (by kernel_rfl) (by kernel_rfl) (fun _ _ _ h => h) (by rfl) ?_ (by assumption) ?_
    rotate_left
    · (intro W hW; (try dsimp only at hW); go_simp; first | done | with_reducible rfl)
    try simp only [Act.put, List.setIfInBounds_toArray, List.set_cons_zero, List.set_cons_succ]
    refine wpAnyH_done (by kernel_rfl) ?_ _
    go_wp2_with fail
    go_ret
    exact ⟨x5, rfl, by rw [HPT.out]; exact ho5.byt, HB1.out.trans (hb5.mono HB1.out.size)⟩
end Go.Proofs.YthgdgkdnidjdgaaDoor
