/-
  The document's answer for what is tagged of an accumulation: tithingref10.Tagged. Printed with genactag.py.
-/
import Derived.Test.YthgdgkdnidjdgaaDoorAcWords
import Derived.Test.YthgdgkdnidjdgaaDoorBs3
import Derived.Test.YthgdgkdnidjdgaaDoorBs6
import Derived.LoopTactic
import Derived.Deep.DeepCutAuto
namespace Go.Proofs.YthgdgkdnidjdgaaDoor
set_option maxRecDepth 20000
open Go.RowKit
attribute [local go_sem ↓] exec_load_hash

theorem frB_snoc (l : List Int) (i : Nat) (h : i < l.length) : frB (l.take (i + 1)) = frB (l.take i) ++ dg (l[i]).toNat := by
  unfold frB
  rw [List.take_succ_eq_append_getElem h, List.map_append, List.flatten_append]
  simp

set_option maxHeartbeats 3200000 in
theorem refTagged10_any (x0 : Value) (a : AcM) (w : World) (hv : AcV w x0 a) (hm : mayX a = true) :
    Calls Tryd.prog 44 #[x0] w fun e w' => ∃ x, e = .returned x ∧ Own w.heap.size w' x (taggedX a) ∧ Below w.heap.size w w' := by
  obtain ⟨s, rfl, ho, he⟩ := hv
  obtain ⟨_, h1, h2, h3, h4, h5, h6, h7⟩ := mayX_iff.1 hm
  obtain ⟨hfr, hlen⟩ := mayX_fr hm
  have HFR := hid hfr
  obtain ⟨A, c, rfl⟩ := he.shape
  have hb0 : Below w.heap.size w (w.alloc (.cells (axc a (.slice A a.fr.length c)) 30)) := (Below.refl _ _).alloc (Nat.le_refl _) _
  have hX := BoxX.new w a (.slice A a.fr.length c)
  have he0 := he.below hb0
  obtain ⟨L, HL⟩ : ∃ n : Nat, Hid (a.fr.length = n) := ⟨_, hid rfl⟩
  rw [HL.out] at hX hb0 he0 hlen ⊢
  obtain ⟨C, HC⟩ : ∃ C : Array Value, Hid (axc a (.slice A L c) = C) := ⟨_, hid rfl⟩
  obtain ⟨O, HO⟩ : ∃ O : List UInt8, Hid (taggedX a = O) := ⟨_, hid rfl⟩
  rw [HC.out] at hb0 hX he0 ⊢
  rw [HO.out]
  have HOK := hid ho
  obtain ⟨v, HVV⟩ : ∃ v : Nat, Hid (a.vi = (v : Int)) := ⟨a.vi.toNat, hid (by omega)⟩
  obtain ⟨q, HQQ⟩ : ∃ v : Nat, Hid (a.pv = (v : Int)) := ⟨a.pv.toNat, hid (by omega)⟩
  have hv1 : IntKind.u64.wrap (v : Int) = (v : Int) := wrap_u64 _ (by have := HVV.out; omega) (by have := HVV.out; omega)
  have hq1 : IntKind.u64.wrap (q : Int) = (q : Int) := wrap_u64 _ (by have := HQQ.out; omega) (by have := HQQ.out; omega)
  have HNV := hid (fun w => refnum_any (v : Int) w (by omega) (by have := HVV.out; omega))
  have HNQ := hid (fun w => refnum_any (q : Int) w (by omega) (by have := HQQ.out; omega))
  rw [Int.toNat_natCast] at HNV HNQ
  have HLV := hid (dg_len10 (n := v) (by have := HVV.out; omega))
  have HLQ := hid (dg_len10 (n := q) (by have := HQQ.out; omega))
  have HBP := hid (fun w => refBytes7_arr a.pa w HOK.out.pa)
  have HL21 := hid hlen
  have hLw : IntKind.u8.wrap (L : Int) = (L : Int) := by rw [IntKind.wrap_u8']; omega
  have HYL := hid (fun w => one_own w L (by omega))
  have HDL : Hid (dg L = [UInt8.ofNat L]) := hid (dg_small (by omega))
  clear h1 h2 h3 h4 h5 h6 h7 hm hfr ho he
  go_enter Tryd.func44, Tryd.ntmps44
  go_upto_region 1 with (fail)
  generalize (w.alloc (.cells C 30)) = w0 at *
  have hs0 := hb0.size
  have HX : Hid (∀ W, Below w0.heap.size w0 W → W.heap[w.heap.size]? = some (.cells C 30 (0, 0))) := hid (fun W h => (h.block _ hX.lt).trans (by have := hX; unfold BoxX at this; rw [HC.out] at this; exact this))
  have HXC : Hid (∀ W : World, W.heap[w.heap.size]? = some (.cells C 30 (0, 0)) → W.cell? ⟨w.heap.size, 1, none⟩ = some (.int .i64 (v : Int)) ∧ W.cell? ⟨w.heap.size, 2, none⟩ = some (.int .i64 (q : Int)) ∧ W.cell? ⟨w.heap.size, 35, none⟩ = some (.slice A L c) ∧ W.rangeAt w.heap.size 3 (bcells a.pa)) := hid (fun W h => by
    rw [← HC.out] at h
    have hB : BoxX W w.heap.size a (.slice A L c) := h
    rw [← HVV.out, ← HQQ.out]
    exact ⟨hB.ints.2.1, hB.ints.2.2, hB.fr HOK.out, hB.pa⟩)
  have HTX := hid (fun W (h : Below w0.heap.size w0 W) => he0.below h)
  have hbd : Below w0.heap.size w0 w0.drew := (Below.refl _ _).drew
  have HB0 := hid hb0
  clear hX he0 hb0
  refine wp_region_held_drew (S := fun W => W.heap[w.heap.size]? = some (.cells C 30 (0, 0))) (by kernel_rfl) (HX.out _ hbd) (fun hHeld => ?_)
  refine' take_on (i := 0) (v := _) rfl (by kernel_rfl) (by kernel_rfl) (by kernel_rfl) (fun _ _ _ h => h) (by rfl) ?_ (by assumption) ?_
  rotate_left
  · (intro W hW; (try dsimp only at hW); go_simp; first | done | with_reducible rfl)
  try simp only [Act.put, List.setIfInBounds_toArray, List.set_cons_zero, List.set_cons_succ]
  refine' take_on (i := 1) (v := _) rfl (by kernel_rfl) (by kernel_rfl) (by kernel_rfl) (fun _ _ _ h => h) (by rfl) ?_ (by assumption) ?_
  rotate_left
  · (intro W hW; (try dsimp only at hW); have hW1 := (HXC.out W hW).1; have hW2 := (HXC.out W hW).2.1; have hW3 := (HXC.out W hW).2.2.1; clear hW; go_simp; first | done | with_reducible rfl)
  try simp only [Act.put, List.setIfInBounds_toArray, List.set_cons_zero, List.set_cons_succ]
  refine' take_on (i := 2) (v := _) rfl (by kernel_rfl) (by kernel_rfl) (by kernel_rfl) (fun _ _ _ h => h) (by rfl) ?_ (by assumption) ?_
  rotate_left
  · (intro W hW; (try dsimp only at hW); go_simp; first | done | with_reducible rfl)
  try simp only [Act.put, List.setIfInBounds_toArray, List.set_cons_zero, List.set_cons_succ]
  refine' take_on (i := 4) (v := _) rfl (by kernel_rfl) (by kernel_rfl) (by kernel_rfl) (fun _ _ _ h => h) (by rfl) ?_ (by assumption) ?_
  rotate_left
  · (intro W hW; (try dsimp only at hW); go_simp; first | done | with_reducible rfl)
  try simp only [Act.put, List.setIfInBounds_toArray, List.set_cons_zero, List.set_cons_succ]
  refine' take_on (i := 5) (v := _) rfl (by kernel_rfl) (by kernel_rfl) (by kernel_rfl) (fun _ _ _ h => h) (by rfl) ?_ (by assumption) ?_
  rotate_left
  · (intro W hW; (try dsimp only at hW); have hW1 := (HXC.out W hW).1; have hW2 := (HXC.out W hW).2.1; have hW3 := (HXC.out W hW).2.2.1; clear hW; go_simp; first | done | with_reducible rfl)
  try simp only [Act.put, List.setIfInBounds_toArray, List.set_cons_zero, List.set_cons_succ]
  refine' take_on (i := 6) (v := _) rfl (by kernel_rfl) (by kernel_rfl) (by kernel_rfl) (fun _ _ _ h => h) (by rfl) ?_ (by assumption) ?_
  rotate_left
  · (intro W hW; (try dsimp only at hW); go_simp; first | done | with_reducible rfl)
  try simp only [Act.put, List.setIfInBounds_toArray, List.set_cons_zero, List.set_cons_succ]
  refine call_on (i := 3) rfl (by kernel_rfl) (by rfl) (fun K hK => ?_)
  go_simp
  refine (HNV.out w0.drew).mono ?_
  rintro e w4 ⟨v4, rfl, ho4, hb4'⟩
  have hb4 := hbd.trans hb4'
  refine hK.out _ _ (HX.out _ hb4) (fun hHeld => ?_)
  clear hK K
  try simp only [Act.put, List.setIfInBounds_toArray, List.set_cons_zero, List.set_cons_succ]
  refine call_on (i := 7) rfl (by kernel_rfl) (by rfl) (fun K hK => ?_)
  go_simp
  refine (HNQ.out w4).mono ?_
  rintro e w5 ⟨v5, rfl, ho5, hb5'⟩
  have hb5 := hb4.trans (hb5'.mono hb4.size)
  refine hK.out _ _ (HX.out _ hb5) (fun hHeld => ?_)
  clear hK K
  try simp only [Act.put, List.setIfInBounds_toArray, List.set_cons_zero, List.set_cons_succ]
  refine call_on (i := 8) rfl (by kernel_rfl) (by rfl) (fun K hK => ?_)
  refine wp_append_byt (.tmp 8) (.tmp 12) rfl rfl rfl (ho4.below hb5') ho5.byt (by have := HLV.out; have := HLQ.out; omega) hb5.size ?_
  intro v6 w6 ho6 hg6 _
  have hb6 := hb5.grown hg6 hb5.size (fun q hq => (World.ownsRow.lt (ho4.below hb5') q hq).1)
  refine hK.out _ _ (HX.out _ hb6) (fun hHeld => ?_)
  clear hK K
  try simp only [Act.put, List.setIfInBounds_toArray, List.set_cons_zero, List.set_cons_succ]
  refine' take_on (i := 9) (v := _) rfl (by kernel_rfl) (by kernel_rfl) (by kernel_rfl) (fun _ _ _ h => h) (by rfl) ?_ (by assumption) ?_
  rotate_left
  · (intro W hW; (try dsimp only at hW); go_simp; first | done | with_reducible rfl)
  try simp only [Act.put, List.setIfInBounds_toArray, List.set_cons_zero, List.set_cons_succ]
  refine wpAnyH_done (by kernel_rfl) ?_ _
  obtain ⟨T1, HT1⟩ : ∃ O : List UInt8, Hid (dg v ++ dg q = O) := ⟨_, hid rfl⟩
  have HT1L : Hid (T1.length ≤ 20) := hid (by rw [← HT1.out, List.length_append]; have := HLV.out; have := HLQ.out; omega)
  have ho6' : Own w0.heap.size w6 v6 T1 := by rw [← HT1.out]; exact ho6
  obtain ⟨P, HP⟩ : ∃ O : List UInt8, Hid (T1 ++ a.pa ++ [UInt8.ofNat L] = O) := ⟨_, hid rfl⟩
  have HPL : Hid (P.length ≤ 60) := hid (by rw [← HP.out]; simp only [List.length_append, List.length_cons, List.length_nil, HOK.out.pa]; have := HT1L.out; omega)
  clear hHeld ho4 ho5 hb4 hb4' hb5 hb5' hg6 ho6 hv1 hq1 hbd
  go_upto_region 2 with (fail)
  have hb7 : Below w0.heap.size w0 w6.drew := hb6.drew
  have hr7 : Below w6.heap.size w6 w6.drew := (Below.refl _ _).drew
  go_cut [3] (fun s3 wx => Own w0.heap.size wx s3 P ∧ Below w0.heap.size w0 wx)
  case first =>
    refine wp_region_held_drew (S := fun W => W.heap[w.heap.size]? = some (.cells C 30 (0, 0))) (by kernel_rfl) (HX.out _ hb7) (fun hHeld => ?_)
    refine' take_on (i := 0) (v := _) rfl (by kernel_rfl) (by kernel_rfl) (by kernel_rfl) (fun _ _ _ h => h) (by rfl) ?_ (by assumption) ?_
    rotate_left
    · (intro W hW; (try dsimp only at hW); go_simp; first | done | with_reducible rfl)
    try simp only [Act.put, List.setIfInBounds_toArray, List.set_cons_zero, List.set_cons_succ]
    refine' take_on (i := 1) (v := _) rfl (by kernel_rfl) (by kernel_rfl) (by kernel_rfl) (fun _ _ _ h => h) (by rfl) ?_ (by assumption) ?_
    rotate_left
    · (intro W hW; (try dsimp only at hW); go_simp; first | done | with_reducible rfl)
    try simp only [Act.put, List.setIfInBounds_toArray, List.set_cons_zero, List.set_cons_succ]
    refine' take_on (i := 2) (v := _) rfl (by kernel_rfl) (by kernel_rfl) (by kernel_rfl) (fun _ _ _ h => h) (by rfl) (fun W hW => loadH_mid (HXC.out W hW).2.2.2 HOK.out.pa) (by assumption) ?_
    try simp only [Act.put, List.setIfInBounds_toArray, List.set_cons_zero, List.set_cons_succ]
    refine' take_on (i := 5) (v := _) rfl (by kernel_rfl) (by kernel_rfl) (by kernel_rfl) (fun _ _ _ h => h) (by rfl) ?_ (by assumption) ?_
    rotate_left
    · (intro W hW; (try dsimp only at hW); go_simp; first | done | with_reducible rfl)
    try simp only [Act.put, List.setIfInBounds_toArray, List.set_cons_zero, List.set_cons_succ]
    refine' take_on (i := 6) (v := _) rfl (by kernel_rfl) (by kernel_rfl) (by kernel_rfl) (fun _ _ _ h => h) (by rfl) ?_ (by assumption) ?_
    rotate_left
    · (intro W hW; (try dsimp only at hW); have hW3 := (HXC.out W hW).2.2.1; clear hW; go_simp; first | done | with_reducible rfl)
    try simp only [Act.put, List.setIfInBounds_toArray, List.set_cons_zero, List.set_cons_succ]
    refine' take_on (i := 7) (v := _) rfl (by kernel_rfl) (by kernel_rfl) (by kernel_rfl) (fun _ _ _ h => h) (by rfl) ?_ (by assumption) ?_
    rotate_left
    · (intro W hW; (try dsimp only at hW); go_simp; first | done | with_reducible rfl)
    try simp only [Act.put, List.setIfInBounds_toArray, List.set_cons_zero, List.set_cons_succ]
    refine' take_on (i := 8) (v := _) rfl (by kernel_rfl) (by kernel_rfl) (by kernel_rfl) (fun _ _ _ h => h) (by rfl) ?_ (by assumption) ?_
    rotate_left
    · (intro W hW; (try dsimp only at hW); go_simp; first | done | with_reducible rfl)
    try simp only [Act.put, List.setIfInBounds_toArray, List.set_cons_zero, List.set_cons_succ]
    have ho7 : Own w0.heap.size w6.drew v6 T1 := ho6'.below hr7
    refine pair_on (i := 3) (j := 9) rfl rfl (by kernel_rfl) (by rfl) (by rfl) (fun K hK => ?_) (fun K hK => ?_)
    · go_simp
      refine (HBP.out w6.drew).mono ?_
      rintro e u1 ⟨x4, rfl, ko5, kb2⟩
      have kb3 := hb7.trans (kb2.mono hb7.size)
      have kb3o := ho7.below kb2
      refine hK.out _ _ (HX.out _ kb3) (fun hHeld => ?_)
      clear hK K
      try simp only [Act.put, List.setIfInBounds_toArray, List.set_cons_zero, List.set_cons_succ]
      refine pair_on (i := 4) (j := 9) rfl rfl (by kernel_rfl) (by rfl) (by rfl) (fun K hK => ?_) (fun K hK => ?_)
      · refine wp_append_byt (.tmp 14) (.tmp 17) rfl rfl rfl kb3o ko5.byt (by have := HT1L.out; have := HOK.out.pa; omega) kb3.size ?_
        intro x6 u7 ko8 kg9 _
        have kb10 := kb3.grown kg9 kb3.size (fun q hq => (World.ownsRow.lt kb3o q hq).1)
        refine hK.out _ _ (HX.out _ kb10) (fun hHeld => ?_)
        clear hK K
        try simp only [Act.put, List.setIfInBounds_toArray, List.set_cons_zero, List.set_cons_succ]
        refine call_on (i := 9) rfl (by kernel_rfl) (by rfl) (fun K hK => ?_)
        go_simp
        have kb11 := kb10.alloc kb10.size (.cells #[.int .u8 (L : Int)] 5)
        have ky12 := (HYL.out u7).byt
        have kb11o := ko8.alloc (.cells #[.int .u8 (L : Int)] 5)
        refine hK.out _ _ (HX.out _ kb11) (fun hHeld => ?_)
        clear hK K
        try simp only [Act.put, List.setIfInBounds_toArray, List.set_cons_zero, List.set_cons_succ]
        refine call_on (i := 10) rfl (by kernel_rfl) (by rfl) (fun K hK => ?_)
        refine wp_append_byt (.tmp 18) (.tmp 23) rfl rfl rfl kb11o ky12 (by rw [List.length_append]; have := HT1L.out; have := HOK.out.pa; simp only [List.length_cons, List.length_nil]; omega) kb11.size ?_
        intro x13 u14 ko15 kg16 _
        have kb17 := kb11.grown kg16 kb11.size (fun q hq => (World.ownsRow.lt kb11o q hq).1)
        refine hK.out _ _ (HX.out _ kb17) (fun hHeld => ?_)
        clear hK K
        try simp only [Act.put, List.setIfInBounds_toArray, List.set_cons_zero, List.set_cons_succ]
        refine' take_on (i := 11) (v := _) rfl (by kernel_rfl) (by kernel_rfl) (by kernel_rfl) (fun _ _ _ h => h) (by rfl) ?_ (by assumption) ?_
        rotate_left
        · (intro W hW; (try dsimp only at hW); go_simp; first | done | with_reducible rfl)
        try simp only [Act.put, List.setIfInBounds_toArray, List.set_cons_zero, List.set_cons_succ]
        refine wpAnyH_done (by kernel_rfl) ?_ _
        rw [HP.out] at ko15
        have HF := hid (And.intro ko15 kb17)
        clear hHeld
        go_wp2_with fail
        go_meet
        case rel => exact HF.out
      · go_simp
        have kb18 := kb3.alloc kb3.size (.cells #[.int .u8 (L : Int)] 5)
        have ky19 := HYL.out u1
        have kb18o := kb3o.alloc (.cells #[.int .u8 (L : Int)] 5)
        have ko20 := ko5.alloc (.cells #[.int .u8 (L : Int)] 5)
        refine hK.out _ _ (HX.out _ kb18) (fun hHeld => ?_)
        clear hK K
        try simp only [Act.put, List.setIfInBounds_toArray, List.set_cons_zero, List.set_cons_succ]
        refine call_on (i := 4) rfl (by kernel_rfl) (by rfl) (fun K hK => ?_)
        refine wp_append_byt (.tmp 14) (.tmp 17) rfl rfl rfl kb18o ko20.byt (by have := HT1L.out; have := HOK.out.pa; omega) kb18.size ?_
        intro x21 u22 ko23 kg24 _
        have kb25 := kb18.grown kg24 kb18.size (fun q hq => (World.ownsRow.lt kb18o q hq).1)
        have ky26 := own_past ho7 kb2.size ky19 kg24
        refine hK.out _ _ (HX.out _ kb25) (fun hHeld => ?_)
        clear hK K
        try simp only [Act.put, List.setIfInBounds_toArray, List.set_cons_zero, List.set_cons_succ]
        refine call_on (i := 10) rfl (by kernel_rfl) (by rfl) (fun K hK => ?_)
        refine wp_append_byt (.tmp 18) (.tmp 23) rfl rfl rfl ko23 ky26 (by rw [List.length_append]; have := HT1L.out; have := HOK.out.pa; simp only [List.length_cons, List.length_nil]; omega) kb25.size ?_
        intro x27 u28 ko29 kg30 _
        have kb31 := kb25.grown kg30 kb25.size (fun q hq => (World.ownsRow.lt ko23 q hq).1)
        refine hK.out _ _ (HX.out _ kb31) (fun hHeld => ?_)
        clear hK K
        try simp only [Act.put, List.setIfInBounds_toArray, List.set_cons_zero, List.set_cons_succ]
        refine' take_on (i := 11) (v := _) rfl (by kernel_rfl) (by kernel_rfl) (by kernel_rfl) (fun _ _ _ h => h) (by rfl) ?_ (by assumption) ?_
        rotate_left
        · (intro W hW; (try dsimp only at hW); go_simp; first | done | with_reducible rfl)
        try simp only [Act.put, List.setIfInBounds_toArray, List.set_cons_zero, List.set_cons_succ]
        refine wpAnyH_done (by kernel_rfl) ?_ _
        rw [HP.out] at ko29
        have HF := hid (And.intro ko29 kb31)
        clear hHeld
        go_wp2_with fail
        go_meet
        case rel => exact HF.out
    · go_simp
      have kb32 := hb7.alloc hb7.size (.cells #[.int .u8 (L : Int)] 5)
      have ky33 := HYL.out w6.drew
      have kb32o := ho7.alloc (.cells #[.int .u8 (L : Int)] 5)
      refine hK.out _ _ (HX.out _ kb32) (fun hHeld => ?_)
      clear hK K
      try simp only [Act.put, List.setIfInBounds_toArray, List.set_cons_zero, List.set_cons_succ]
      refine call_on (i := 3) rfl (by kernel_rfl) (by rfl) (fun K hK => ?_)
      go_simp
      refine (HBP.out (w6.drew.alloc (.cells #[.int .u8 (L : Int)] 5))).mono ?_
      rintro e u34 ⟨x37, rfl, ko38, kb35⟩
      have kb36 := kb32.trans (kb35.mono kb32.size)
      have kb36o := kb32o.below kb35
      have ky39 := ky33.below kb35
      refine hK.out _ _ (HX.out _ kb36) (fun hHeld => ?_)
      clear hK K
      try simp only [Act.put, List.setIfInBounds_toArray, List.set_cons_zero, List.set_cons_succ]
      refine call_on (i := 4) rfl (by kernel_rfl) (by rfl) (fun K hK => ?_)
      refine wp_append_byt (.tmp 14) (.tmp 17) rfl rfl rfl kb36o ko38.byt (by have := HT1L.out; have := HOK.out.pa; omega) kb36.size ?_
      intro x40 u41 ko42 kg43 _
      have kb44 := kb36.grown kg43 kb36.size (fun q hq => (World.ownsRow.lt kb36o q hq).1)
      have ky45 := own_past ho7 (Nat.le_refl _) ky39 kg43
      refine hK.out _ _ (HX.out _ kb44) (fun hHeld => ?_)
      clear hK K
      try simp only [Act.put, List.setIfInBounds_toArray, List.set_cons_zero, List.set_cons_succ]
      refine call_on (i := 10) rfl (by kernel_rfl) (by rfl) (fun K hK => ?_)
      refine wp_append_byt (.tmp 18) (.tmp 23) rfl rfl rfl ko42 ky45 (by rw [List.length_append]; have := HT1L.out; have := HOK.out.pa; simp only [List.length_cons, List.length_nil]; omega) kb44.size ?_
      intro x46 u47 ko48 kg49 _
      have kb50 := kb44.grown kg49 kb44.size (fun q hq => (World.ownsRow.lt ko42 q hq).1)
      refine hK.out _ _ (HX.out _ kb50) (fun hHeld => ?_)
      clear hK K
      try simp only [Act.put, List.setIfInBounds_toArray, List.set_cons_zero, List.set_cons_succ]
      refine' take_on (i := 11) (v := _) rfl (by kernel_rfl) (by kernel_rfl) (by kernel_rfl) (fun _ _ _ h => h) (by rfl) ?_ (by assumption) ?_
      rotate_left
      · (intro W hW; (try dsimp only at hW); go_simp; first | done | with_reducible rfl)
      try simp only [Act.put, List.setIfInBounds_toArray, List.set_cons_zero, List.set_cons_succ]
      refine wpAnyH_done (by kernel_rfl) ?_ _
      rw [HP.out] at ko48
      have HF := hid (And.intro ko48 kb50)
      clear hHeld
      go_wp2_with fail
      go_meet
      case rel => exact HF.out
  case rest =>
    obtain ⟨hoc, hbc⟩ := hcut
    have HLI : Hid (L ≤ 9223372036854775807) := hid (by have := HL21.out; omega)
    clear ho6' hb6 hb7 hr7 hLw
    go_wp2_with fail
    go_loopw [3, 4] (fun out si wr => ∃ i : Nat, i ≤ L ∧ si = .int .i64 i ∧ Own w0.heap.size wr out (P ++ frB (a.fr.take i)) ∧ Below w0.heap.size w0 wr) (fun _ si _ => L - (intOf si).toNat)
    case atStart => exact ⟨0, Nat.zero_le _, rfl, by rw [List.take_zero]; unfold frB; rw [List.map_nil, List.flatten_nil, List.append_nil]; exact hoc, hbc⟩
    case round =>
      obtain ⟨i, hi, rfl, hown, hB⟩ := hrel
      clear hoc hbc
      by_cases hlt : i < L
      · have hil : i < a.fr.length := by rw [HL.out]; exact hlt
        obtain ⟨g, o, rfl, hg, hcl⟩ := (HTX.out wr hB).at_.2.2.2 (by omega)
        have hsi := HFR.out _ (List.getElem_mem hil)
        have HNEW := hid (frB_snoc a.fr i hil)
        have HFL : Hid ((frB (a.fr.take i)).length ≤ 21) := hid (by
          rw [frB_len _ (fun s hs => HFR.out s (List.mem_of_mem_take hs)), List.length_take]
          have := HL21.out
          omega)
        obtain ⟨b, HSI⟩ : ∃ s, Hid (a.fr[i] = s) := ⟨_, hid rfl⟩
        rw [HSI.out] at hsi HNEW
        obtain ⟨n, rfl⟩ := nat_of (i := b) (by omega)
        have hbw : IntKind.u8.wrap (n : Int) = (n : Int) := by rw [IntKind.wrap_u8']; omega
        have HDN : Hid (dg n = [UInt8.ofNat n]) := hid (dg_small (by omega))
        rw [Int.toNat_natCast, HDN.out] at HNEW
        have HYN := hid (fun w => one_own w n (by omega))
        have c0 := (HXC.out wr (HX.out wr hB)).2.2.1
        have c1 : wr.cell? ⟨g, o + i, none⟩ = some (.int .i64 (n : Int)) := by
          have := hcl i hil 0 _ rfl
          rwa [Nat.mul_one, Nat.add_zero, HSI.out] at this
        obtain ⟨Q, HQ⟩ : ∃ Q : List UInt8, Hid (P ++ frB (a.fr.take i) = Q) := ⟨_, hid rfl⟩
        have HQL : Hid (Q.length ≤ 100) := hid (by rw [← HQ.out, List.length_append]; have := HPL.out; have := HFL.out; omega)
        rw [HQ.out] at hown
        have hI : (i : Int) < (L : Int) := by omega
        have hHI : Hid (i < L) := hid hlt
        have HBW := hid hB
        have HWW := hid hown
        clear hcl hsi hg hown
        go_wp2_with (at_builtin; refine wpList_append_byt rfl (.tmp 32) (.tmp 39) rfl rfl rfl (HWW.out.alloc _) (HYN.out wr).byt (by have := HQL.out; simp only [List.length_cons, List.length_nil]; omega) (Nat.le_trans HBW.out.size (al_le _ _)) ?_; intro v8 w8 ho8 hg8 _; have HO8 := hid ho8; have HB8 := hid ((HBW.out.alloc HBW.out.size _).grown hg8 (Nat.le_trans HBW.out.size (al_le _ _)) (fun q hq => (World.ownsRow.lt HWW.out q hq).1)); clear hg8 ho8)
        go_roundw
        case rel =>
          refine ⟨i + 1, hHI.out, by go_num, ?_, HB8.out⟩
          rw [HNEW.out, ← List.append_assoc, HQ.out]
          exact HO8.out
        case measure => have := HL21.out; simp [intOf]; omega
      · have E4 := hid (show i = L by omega)
        have hI : ¬ (i : Int) < (L : Int) := by omega
        have c0 := (HXC.out wr (HX.out wr hB)).2.2.1
        go_wp2_with fail
        go_ret
        refine ⟨_, rfl, ?_, HB0.out.trans (hB.mono hs0)⟩
        rw [E4.out, List.take_of_length_le (by rw [HL.out]; exact Nat.le_refl _)] at hown
        have e : P ++ frB a.fr = O := by
          rw [← HO.out, ← HP.out, ← HT1.out]
          unfold taggedX
          rw [HL.out, HDL.out, HVV.out, HQQ.out, Int.toNat_natCast, Int.toNat_natCast]
          simp only [List.append_assoc]
        rw [e] at hown
        exact hown.more hs0
end Go.Proofs.YthgdgkdnidjdgaaDoor
