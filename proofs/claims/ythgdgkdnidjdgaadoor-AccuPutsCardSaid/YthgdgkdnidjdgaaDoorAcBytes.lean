/-
  The document's answer for an accumulation's bytes: tithingref10.Bytes. Printed with genactag.py.
-/
import Derived.Test.YthgdgkdnidjdgaaDoorAcTagged
import Derived.Test.YthgdgkdnidjdgaaDoorBs6
namespace Go.Proofs.YthgdgkdnidjdgaaDoor
set_option maxRecDepth 20000
open Go.RowKit
attribute [local go_sem ↓] exec_load_hash exec_load_ax

set_option maxHeartbeats 3200000 in
theorem refBytes10_any (x0 : Value) (a : AcM) (w : World) (hv : AcV w x0 a) (hm : mayX a = true) :
    Calls Tryd.prog 20 #[x0] w fun e w' => ∃ x, e = .returned x ∧ Own w.heap.size w' x (bytesX a) ∧ Below w.heap.size w w' := by
  have HTD := hid (fun W (h : Below w.heap.size w W) => refTagged10_any x0 a W (hv.below h) hm)
  obtain ⟨s, rfl, ho, he⟩ := hv
  obtain ⟨_, h1, h2, _⟩ := mayX_iff.1 hm
  have hlt := taggedX_len ho hm
  obtain ⟨T, HT⟩ : ∃ O : List UInt8, Hid (taggedX a = O) := ⟨_, hid rfl⟩
  obtain ⟨O, HO⟩ : ∃ O : List UInt8, Hid (bytesX a = O) := ⟨_, hid rfl⟩
  obtain ⟨n, HNN⟩ : ∃ v : Nat, Hid (a.bo = (v : Int)) := ⟨a.bo.toNat, hid (by omega)⟩
  have HOE : Hid ([UInt8.ofNat n] ++ T ++ a.tg = O) := hid (by
    rw [← HO.out]
    unfold bytesX
    rw [HT.out, HNN.out, Int.toNat_natCast, dg_small (by have := HNN.out; omega), List.append_assoc])
  rw [HT.out] at HTD hlt
  have HTL := hid hlt
  obtain ⟨C, HC⟩ : ∃ C : Array Value, Hid (axc a s = C) := ⟨_, hid rfl⟩
  have HCS : Hid (C.size = 68) := hid (by rw [← HC.out]; exact axc_size _ ho)
  rw [HO.out]
  rw [HC.out] at HTD ⊢
  have hr0 := heap_alloc_new w (.cells C 30)
  have hb0 : Below w.heap.size w (w.alloc (.cells C 30)) := (Below.refl _ _).alloc (Nat.le_refl _) _
  have HOK := hid ho
  have HBT := hid (fun w => refBytes7_arr a.tg w HOK.out.tg)
  have hnw : IntKind.u8.wrap (n : Int) = (n : Int) := by rw [IntKind.wrap_u8']; have := HNN.out; omega
  have HYN := hid (fun w => one_own w n (by have := HNN.out; omega))
  have HXR : Hid (∀ W : World, W.heap[w.heap.size]? = some (.cells C 30 (0, 0)) → W.cell? ⟨w.heap.size, 0, none⟩ = some (.int .i64 (n : Int)) ∧ loadAx (.pointer (some ⟨w.heap.size, 0, none⟩)) W = .ok (.value (.agg C)) W ∧ W.rangeAt w.heap.size 36 (bcells a.tg)) := hid (fun W h => by
    have h' := h
    rw [← HC.out] at h'
    have hB : BoxX W w.heap.size a s := h'
    rw [← HNN.out]
    exact ⟨hB.ints.1, loadAx_row h HCS.out, hB.tg HOK.out⟩)
  clear ho hm hlt he h1 h2
  go_enter Tryd.func20, Tryd.ntmps20
  go_upto_region 1 with (fail)
  generalize (w.alloc (.cells C 30)) = w0 at *
  have hl0 := lt_of_block hr0
  have HX : Hid (∀ W, Below w0.heap.size w0 W → W.heap[w.heap.size]? = some (.cells C 30 (0, 0))) := hid (fun W h => (h.block _ hl0).trans hr0)
  have hbd : Below w0.heap.size w0 w0.drew := (Below.refl _ _).drew
  have hs0 := hb0.size
  clear hr0 hl0
  go_cut [2] (fun s2 wx => Own w0.heap.size wx s2 O ∧ Below w0.heap.size w0 wx)
  case first =>
    refine wp_region_held_drew (S := fun W => W.heap[w.heap.size]? = some (.cells C 30 (0, 0))) (by kernel_rfl) (HX.out _ hbd) (fun hHeld => ?_)
    refine' take_on (i := 0) (v := _) rfl (by kernel_rfl) (by kernel_rfl) (by kernel_rfl) (fun _ _ _ h => h) (by rfl) ?_ (by assumption) ?_
    rotate_left
    · (intro W hW; (try dsimp only at hW); go_simp; first | done | with_reducible rfl)
    try simp only [Act.put, List.setIfInBounds_toArray, List.set_cons_zero, List.set_cons_succ]
    refine' take_on (i := 1) (v := _) rfl (by kernel_rfl) (by kernel_rfl) (by kernel_rfl) (fun _ _ _ h => h) (by rfl) ?_ (by assumption) ?_
    rotate_left
    · (intro W hW; (try dsimp only at hW); have hW1 := (HXR.out W hW).1; go_simp; first | done | with_reducible rfl)
    try simp only [Act.put, List.setIfInBounds_toArray, List.set_cons_zero, List.set_cons_succ]
    refine' take_on (i := 2) (v := _) rfl (by kernel_rfl) (by kernel_rfl) (by kernel_rfl) (fun _ _ _ h => h) (by rfl) ?_ (by assumption) ?_
    rotate_left
    · (intro W hW; (try dsimp only at hW); go_simp; first | done | with_reducible rfl)
    try simp only [Act.put, List.setIfInBounds_toArray, List.set_cons_zero, List.set_cons_succ]
    refine' take_on (i := 4) (v := _) rfl (by kernel_rfl) (by kernel_rfl) (by kernel_rfl) (fun _ _ _ h => h) (by rfl) (fun W hW => (HXR.out W hW).2.1) (by assumption) ?_
    try simp only [Act.put, List.setIfInBounds_toArray, List.set_cons_zero, List.set_cons_succ]
    refine' take_on (i := 7) (v := _) rfl (by kernel_rfl) (by kernel_rfl) (by kernel_rfl) (fun _ _ _ h => h) (by rfl) ?_ (by assumption) ?_
    rotate_left
    · (intro W hW; (try dsimp only at hW); go_simp; first | done | with_reducible rfl)
    try simp only [Act.put, List.setIfInBounds_toArray, List.set_cons_zero, List.set_cons_succ]
    refine' take_on (i := 8) (v := _) rfl (by kernel_rfl) (by kernel_rfl) (by kernel_rfl) (fun _ _ _ h => h) (by rfl) (fun W hW => loadH_mid (HXR.out W hW).2.2 HOK.out.tg) (by assumption) ?_
    try simp only [Act.put, List.setIfInBounds_toArray, List.set_cons_zero, List.set_cons_succ]
    refine pair_on (i := 3) (j := 5) rfl rfl (by kernel_rfl) (by rfl) (by rfl) (fun K hK => ?_) (fun K hK => ?_)
    · go_simp
      have hb3 := hbd.alloc hbd.size (.cells #[.int .u8 (n : Int)] 5)
      have ho3 := (HYN.out w0.drew)
      refine hK.out _ _ (HX.out _ hb3) (fun hHeld => ?_)
      clear hK K
      try simp only [Act.put, List.setIfInBounds_toArray, List.set_cons_zero, List.set_cons_succ]
      refine call_on (i := 5) rfl (by kernel_rfl) (by rfl) (fun K hK => ?_)
      go_simp
      refine (HTD.out _ (hb0.trans (hb3.mono hb0.size))).mono ?_
      rintro e w5 ⟨v5, rfl, ho5, hb5'⟩
      have hb5 := hb3.trans (hb5'.mono hb3.size)
      refine hK.out _ _ (HX.out _ hb5) (fun hHeld => ?_)
      clear hK K
      try simp only [Act.put, List.setIfInBounds_toArray, List.set_cons_zero, List.set_cons_succ]
      refine call_on (i := 6) rfl (by kernel_rfl) (by rfl) (fun K hK => ?_)
      refine wp_append_byt (.tmp 6) (.tmp 8) rfl rfl rfl (ho3.below hb5') ho5.byt (by have := HTL.out; simp only [List.length_cons, List.length_nil]; omega) hb5.size ?_
      intro v6 w6 ho6 hg6 _
      have hb6 := hb5.grown hg6 hb5.size (fun q hq => (World.ownsRow.lt (ho3.below hb5') q hq).1)
      refine hK.out _ _ (HX.out _ hb6) (fun hHeld => ?_)
      clear hK K
      try simp only [Act.put, List.setIfInBounds_toArray, List.set_cons_zero, List.set_cons_succ]
      refine call_on (i := 9) rfl (by kernel_rfl) (by rfl) (fun K hK => ?_)
      go_simp
      refine (HBT.out w6).mono ?_
      rintro e w7 ⟨v7, rfl, ho7, hb7'⟩
      have hb7 := hb6.trans (hb7'.mono hb6.size)
      refine hK.out _ _ (HX.out _ hb7) (fun hHeld => ?_)
      clear hK K
      try simp only [Act.put, List.setIfInBounds_toArray, List.set_cons_zero, List.set_cons_succ]
      refine call_on (i := 10) rfl (by kernel_rfl) (by rfl) (fun K hK => ?_)
      refine wp_append_byt (.tmp 9) (.tmp 12) rfl rfl rfl (ho6.below hb7') ho7.byt (by rw [List.length_append]; have := HTL.out; have := HOK.out.tg; simp only [List.length_cons, List.length_nil]; omega) hb7.size ?_
      intro v8 w8 ho8 hg8 _
      have hb8 := hb7.grown hg8 hb7.size (fun q hq => (World.ownsRow.lt (ho6.below hb7') q hq).1)
      refine hK.out _ _ (HX.out _ hb8) (fun hHeld => ?_)
      clear hK K
      try simp only [Act.put, List.setIfInBounds_toArray, List.set_cons_zero, List.set_cons_succ]
      refine' take_on (i := 11) (v := _) rfl (by kernel_rfl) (by kernel_rfl) (by kernel_rfl) (fun _ _ _ h => h) (by rfl) ?_ (by assumption) ?_
      rotate_left
      · (intro W hW; (try dsimp only at hW); go_simp; first | done | with_reducible rfl)
      try simp only [Act.put, List.setIfInBounds_toArray, List.set_cons_zero, List.set_cons_succ]
      refine wpAnyH_done (by kernel_rfl) ?_ _
      rw [HOE.out] at ho8
      have HF := hid (And.intro ho8 hb8)
      clear hHeld
      go_wp2_with fail
      go_meet
      case rel => exact HF.out
    · go_simp
      refine (HTD.out w0.drew hb0.drew).mono ?_
      rintro e w5 ⟨v5, rfl, ho5, hb5'⟩
      have hb5 := hbd.trans hb5'
      refine hK.out _ _ (HX.out _ hb5) (fun hHeld => ?_)
      clear hK K
      try simp only [Act.put, List.setIfInBounds_toArray, List.set_cons_zero, List.set_cons_succ]
      refine call_on (i := 3) rfl (by kernel_rfl) (by rfl) (fun K hK => ?_)
      go_simp
      have hb3 := hb5.alloc hb5.size (.cells #[.int .u8 (n : Int)] 5)
      have ho3 := (HYN.out w5).more hb5.size
      have hy3 := ho5.byt.alloc (.cells #[.int .u8 (n : Int)] 5)
      refine hK.out _ _ (HX.out _ hb3) (fun hHeld => ?_)
      clear hK K
      try simp only [Act.put, List.setIfInBounds_toArray, List.set_cons_zero, List.set_cons_succ]
      refine call_on (i := 6) rfl (by kernel_rfl) (by rfl) (fun K hK => ?_)
      refine wp_append_byt (.tmp 6) (.tmp 8) rfl rfl rfl ho3 hy3 (by have := HTL.out; simp only [List.length_cons, List.length_nil]; omega) hb3.size ?_
      intro v6 w6 ho6 hg6 _
      have hb6 := hb3.grown hg6 hb3.size (fun q hq => (World.ownsRow.lt ho3 q hq).1)
      refine hK.out _ _ (HX.out _ hb6) (fun hHeld => ?_)
      clear hK K
      try simp only [Act.put, List.setIfInBounds_toArray, List.set_cons_zero, List.set_cons_succ]
      refine call_on (i := 9) rfl (by kernel_rfl) (by rfl) (fun K hK => ?_)
      go_simp
      refine (HBT.out w6).mono ?_
      rintro e w7 ⟨v7, rfl, ho7, hb7'⟩
      have hb7 := hb6.trans (hb7'.mono hb6.size)
      refine hK.out _ _ (HX.out _ hb7) (fun hHeld => ?_)
      clear hK K
      try simp only [Act.put, List.setIfInBounds_toArray, List.set_cons_zero, List.set_cons_succ]
      refine call_on (i := 10) rfl (by kernel_rfl) (by rfl) (fun K hK => ?_)
      refine wp_append_byt (.tmp 9) (.tmp 12) rfl rfl rfl (ho6.below hb7') ho7.byt (by rw [List.length_append]; have := HTL.out; have := HOK.out.tg; simp only [List.length_cons, List.length_nil]; omega) hb7.size ?_
      intro v8 w8 ho8 hg8 _
      have hb8 := hb7.grown hg8 hb7.size (fun q hq => (World.ownsRow.lt (ho6.below hb7') q hq).1)
      refine hK.out _ _ (HX.out _ hb8) (fun hHeld => ?_)
      clear hK K
      try simp only [Act.put, List.setIfInBounds_toArray, List.set_cons_zero, List.set_cons_succ]
      refine' take_on (i := 11) (v := _) rfl (by kernel_rfl) (by kernel_rfl) (by kernel_rfl) (fun _ _ _ h => h) (by rfl) ?_ (by assumption) ?_
      rotate_left
      · (intro W hW; (try dsimp only at hW); go_simp; first | done | with_reducible rfl)
      try simp only [Act.put, List.setIfInBounds_toArray, List.set_cons_zero, List.set_cons_succ]
      refine wpAnyH_done (by kernel_rfl) ?_ _
      rw [HOE.out] at ho8
      have HF := hid (And.intro ho8 hb8)
      clear hHeld
      go_wp2_with fail
      go_meet
      case rel => exact HF.out
  case rest =>
    obtain ⟨hoc, hbc⟩ := hcut
    go_wp2_with fail
    go_ret
    exact ⟨_, rfl, hoc.more hs0, hb0.trans (hbc.mono hs0)⟩
end Go.Proofs.YthgdgkdnidjdgaaDoor
