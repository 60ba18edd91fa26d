/-
  AcTagged AcCodeTagged AcCodeRight AcTag: what each of them says stands at its head.
-/
import Derived.Test.YtghophbabbaleaaGreatDoorCs13
namespace Go.Proofs.YtghophbabbaleaaGreatDoor
set_option maxRecDepth 20000
open Go.RowKit
attribute [local go_sem ↓] exec_load_hash
theorem frB_snoc (l : List Int) (i : Nat) (h : i < l.length) : frB (l.take (i + 1)) = frB (l.take i) ++ dg (l[i]).toNat := by
  unfold frB
  rw [List.take_succ_eq_append_getElem h, List.map_append, List.flatten_append]
  simp
set_option maxHeartbeats 3200000 in
theorem refTagged10_any (x0 : Value) (a : AcM) (w : World) (hv : AcV w x0 a) (hm : mayX a = true) :
    Calls Tryz.prog 144 #[x0] w fun e w' => ∃ x, e = .returned x ∧ Own w.heap.size w' x (taggedX a) ∧ Below w.heap.size w w' := by
  obtain ⟨s, rfl, ho, he⟩ := hv
  obtain ⟨_, h1, h2, h3, h4, h5, h6, h7⟩ := mayX_iff.1 hm
  obtain ⟨hfr, hlen⟩ := mayX_fr hm
  have HFR := hid hfr
  obtain ⟨A, c, rfl⟩ := he.shape
  have hb0 : Below w.heap.size w (w.alloc (.cells (axc a (.slice A a.fr.length c)) 50)) := (Below.refl _ _).alloc (Nat.le_refl _) _
  have hX := BoxX.new w a (.slice A a.fr.length c)
  have he0 := he.below hb0
  obtain ⟨L, HL⟩ : ∃ n : Nat, Hid (a.fr.length = n) := ⟨_, hid rfl⟩
  rw [HL.out] at hX hb0 he0 hlen ⊢
  obtain ⟨C, HC⟩ : ∃ C : Array Value, Hid (axc a (.slice A L c) = C) := ⟨_, hid rfl⟩
  obtain ⟨O, HO⟩ : ∃ O : List UInt8, Hid (taggedX a = O) := ⟨_, hid rfl⟩
  rw [HC.out] at hb0 hX he0 ⊢
  rw [HO.out]
  have HOK := hid ho
  obtain ⟨v, HVV⟩ : ∃ v : Nat, Hid (a.vi = (v : Int)) := ⟨a.vi.toNat, hid (by omega)⟩
  obtain ⟨q, HQQ⟩ : ∃ v : Nat, Hid (a.pv = (v : Int)) := ⟨a.pv.toNat, hid (by omega)⟩
  have hv1 : IntKind.u64.wrap (v : Int) = (v : Int) := wrap_u64 _ (by have := HVV.out; omega) (by have := HVV.out; omega)
  have hq1 : IntKind.u64.wrap (q : Int) = (q : Int) := wrap_u64 _ (by have := HQQ.out; omega) (by have := HQQ.out; omega)
  have HNV := hid (fun w => refnum_any (v : Int) w (by omega) (by have := HVV.out; omega))
  have HNQ := hid (fun w => refnum_any (q : Int) w (by omega) (by have := HQQ.out; omega))
  rw [Int.toNat_natCast] at HNV HNQ
  have HLV := hid (dg_len10 (n := v) (by have := HVV.out; omega))
  have HLQ := hid (dg_len10 (n := q) (by have := HQQ.out; omega))
  have HBP := hid (fun w => refBytes7_arr a.pa w HOK.out.pa)
  have HL21 := hid hlen
  have hLw : IntKind.u8.wrap (L : Int) = (L : Int) := by rw [IntKind.wrap_u8']; omega
  have HYL := hid (fun w => one_own w L (by omega))
  have HDL : Hid (dg L = [UInt8.ofNat L]) := hid (dg_small (by omega))
  clear h1 h2 h3 h4 h5 h6 h7 hm hfr ho he
  go_enter Tryz.func144, Tryz.ntmps144
  go_upto_region 1 with (fail)
  generalize (w.alloc (.cells C 50)) = w0 at *
  have hs0 := hb0.size
  have HX : Hid (∀ W, Below w0.heap.size w0 W → W.heap[w.heap.size]? = some (.cells C 50 (0, 0))) := hid (fun W h => (h.block _ hX.lt).trans (by have := hX; unfold BoxX at this; rw [HC.out] at this; exact this))
  have HXC : Hid (∀ W : World, W.heap[w.heap.size]? = some (.cells C 50 (0, 0)) → W.cell? ⟨w.heap.size, 1, none⟩ = some (.int .i64 (v : Int)) ∧ W.cell? ⟨w.heap.size, 2, none⟩ = some (.int .i64 (q : Int)) ∧ W.cell? ⟨w.heap.size, 35, none⟩ = some (.slice A L c) ∧ W.rangeAt w.heap.size 3 (bcells a.pa)) := hid (fun W h => by
    rw [← HC.out] at h
    have hB : BoxX W w.heap.size a (.slice A L c) := h
    rw [← HVV.out, ← HQQ.out]
    exact ⟨hB.ints.2.1, hB.ints.2.2, hB.fr HOK.out, hB.pa⟩)
  have HTX := hid (fun W (h : Below w0.heap.size w0 W) => he0.below h)
  have hbd : Below w0.heap.size w0 w0.drew := (Below.refl _ _).drew
  have HB0 := hid hb0
  clear hX he0 hb0
  refine wp_region_held_drew (S := fun W => W.heap[w.heap.size]? = some (.cells C 50 (0, 0))) (by kernel_rfl) (HX.out _ hbd) (fun hHeld => ?_)
  refine' tk (i := 0) (v := _) rfl ?_ ?_
  rotate_left
  · (intro W hW; (try dsimp only at hW); go_simp; first | done | with_reducible rfl)
  try simp only [lay]
  refine' tk (i := 1) (v := _) rfl ?_ ?_
  rotate_left
  · (intro W hW; (try dsimp only at hW); have hW1 := (HXC.out W hW).1; have hW2 := (HXC.out W hW).2.1; have hW3 := (HXC.out W hW).2.2.1; clear hW; go_simp; first | done | with_reducible rfl)
  try simp only [lay]
  refine' tk (i := 2) (v := _) rfl ?_ ?_
  rotate_left
  · (intro W hW; (try dsimp only at hW); go_simp; first | done | with_reducible rfl)
  try simp only [lay]
  refine' tk (i := 4) (v := _) rfl ?_ ?_
  rotate_left
  · (intro W hW; (try dsimp only at hW); go_simp; first | done | with_reducible rfl)
  try simp only [lay]
  refine' tk (i := 5) (v := _) rfl ?_ ?_
  rotate_left
  · (intro W hW; (try dsimp only at hW); have hW1 := (HXC.out W hW).1; have hW2 := (HXC.out W hW).2.1; have hW3 := (HXC.out W hW).2.2.1; clear hW; go_simp; first | done | with_reducible rfl)
  try simp only [lay]
  refine' tk (i := 6) (v := _) rfl ?_ ?_
  rotate_left
  · (intro W hW; (try dsimp only at hW); go_simp; first | done | with_reducible rfl)
  try simp only [lay]
  refine call_on (i := 3) rfl (by kernel_rfl) (by rfl) (fun K hK => ?_)
  go_simp
  refine (HNV.out w0.drew).mono ?_
  rintro e w4 ⟨v4, rfl, ho4, hb4'⟩
  have hb4 := hbd.trans hb4'
  refine hK.out _ _ (HX.out _ hb4) (fun hHeld => ?_)
  clear hK K
  try simp only [lay]
  refine call_on (i := 7) rfl (by kernel_rfl) (by rfl) (fun K hK => ?_)
  go_simp
  refine (HNQ.out w4).mono ?_
  rintro e w5 ⟨v5, rfl, ho5, hb5'⟩
  have hb5 := hb4.trans (hb5'.mono hb4.size)
  refine hK.out _ _ (HX.out _ hb5) (fun hHeld => ?_)
  clear hK K
  try simp only [lay]
  refine call_on (i := 8) rfl (by kernel_rfl) (by rfl) (fun K hK => ?_)
  refine wp_append_byt (.tmp 8) (.tmp 12) rfl rfl rfl (ho4.below hb5') ho5.byt (by have := HLV.out; have := HLQ.out; omega) hb5.size ?_
  intro v6 w6 ho6 hg6 _
  have hb6 := hb5.grown hg6 hb5.size (fun q hq => (World.ownsRow.lt (ho4.below hb5') q hq).1)
  refine hK.out _ _ (HX.out _ hb6) (fun hHeld => ?_)
  clear hK K
  try simp only [lay]
  refine' tk (i := 9) (v := _) rfl ?_ ?_
  rotate_left
  · (intro W hW; (try dsimp only at hW); go_simp; first | done | with_reducible rfl)
  try simp only [lay]
  refine wpAnyH_done (by kernel_rfl) ?_ _
  obtain ⟨T1, HT1⟩ : ∃ O : List UInt8, Hid (dg v ++ dg q = O) := ⟨_, hid rfl⟩
  have HT1L : Hid (T1.length ≤ 20) := hid (by rw [← HT1.out, List.length_append]; have := HLV.out; have := HLQ.out; omega)
  have ho6' : Own w0.heap.size w6 v6 T1 := by rw [← HT1.out]; exact ho6
  obtain ⟨P, HP⟩ : ∃ O : List UInt8, Hid (T1 ++ a.pa ++ [UInt8.ofNat L] = O) := ⟨_, hid rfl⟩
  have HPL : Hid (P.length ≤ 60) := hid (by rw [← HP.out]; simp only [List.length_append, List.length_cons, List.length_nil, HOK.out.pa]; have := HT1L.out; omega)
  clear hHeld ho4 ho5 hb4 hb4' hb5 hb5' hg6 ho6 hv1 hq1 hbd
  go_upto_region 2 with (fail)
  have hb7 : Below w0.heap.size w0 w6.drew := hb6.drew
  have hr7 : Below w6.heap.size w6 w6.drew := (Below.refl _ _).drew
  go_cut [3] (fun s3 wx => Own w0.heap.size wx s3 P ∧ Below w0.heap.size w0 wx)
  case first =>
    refine wp_region_held_drew (S := fun W => W.heap[w.heap.size]? = some (.cells C 50 (0, 0))) (by kernel_rfl) (HX.out _ hb7) (fun hHeld => ?_)
    refine' tk (i := 0) (v := _) rfl ?_ ?_
    rotate_left
    · (intro W hW; (try dsimp only at hW); go_simp; first | done | with_reducible rfl)
    try simp only [lay]
    refine' tk (i := 1) (v := _) rfl ?_ ?_
    rotate_left
    · (intro W hW; (try dsimp only at hW); go_simp; first | done | with_reducible rfl)
    try simp only [lay]
    refine' tk (i := 2) (v := _) rfl (fun W hW => loadH_mid (HXC.out W hW).2.2.2 HOK.out.pa) ?_
    try simp only [lay]
    refine' tk (i := 5) (v := _) rfl ?_ ?_
    rotate_left
    · (intro W hW; (try dsimp only at hW); go_simp; first | done | with_reducible rfl)
    try simp only [lay]
    refine' tk (i := 6) (v := _) rfl ?_ ?_
    rotate_left
    · (intro W hW; (try dsimp only at hW); have hW3 := (HXC.out W hW).2.2.1; clear hW; go_simp; first | done | with_reducible rfl)
    try simp only [lay]
    refine' tk (i := 7) (v := _) rfl ?_ ?_
    rotate_left
    · (intro W hW; (try dsimp only at hW); go_simp; first | done | with_reducible rfl)
    try simp only [lay]
    refine' tk (i := 8) (v := _) rfl ?_ ?_
    rotate_left
    · (intro W hW; (try dsimp only at hW); go_simp; first | done | with_reducible rfl)
    try simp only [lay]
    have ho7 : Own w0.heap.size w6.drew v6 T1 := ho6'.below hr7
    refine pair_on (i := 3) (j := 9) rfl rfl (by kernel_rfl) (by rfl) (by rfl) (fun K hK => ?_) (fun K hK => ?_)
    · go_simp
      refine (HBP.out w6.drew).mono ?_
      rintro e u1 ⟨x4, rfl, ko5, kb2⟩
      have kb3 := hb7.trans (kb2.mono hb7.size)
      have kb3o := ho7.below kb2
      refine hK.out _ _ (HX.out _ kb3) (fun hHeld => ?_)
      clear hK K
      try simp only [lay]
      refine pair_on (i := 4) (j := 9) rfl rfl (by kernel_rfl) (by rfl) (by rfl) (fun K hK => ?_) (fun K hK => ?_)
      · refine wp_append_byt (.tmp 14) (.tmp 17) rfl rfl rfl kb3o ko5.byt (by have := HT1L.out; have := HOK.out.pa; omega) kb3.size ?_
        intro x6 u7 ko8 kg9 _
        have kb10 := kb3.grown kg9 kb3.size (fun q hq => (World.ownsRow.lt kb3o q hq).1)
        refine hK.out _ _ (HX.out _ kb10) (fun hHeld => ?_)
        clear hK K
        try simp only [lay]
        refine call_on (i := 9) rfl (by kernel_rfl) (by rfl) (fun K hK => ?_)
        go_simp
        have kb11 := kb10.alloc kb10.size (.cells #[.int .u8 (L : Int)] 5)
        have ky12 := (HYL.out u7).byt
        have kb11o := ko8.alloc (.cells #[.int .u8 (L : Int)] 5)
        refine hK.out _ _ (HX.out _ kb11) (fun hHeld => ?_)
        clear hK K
        try simp only [lay]
        refine call_on (i := 10) rfl (by kernel_rfl) (by rfl) (fun K hK => ?_)
        refine wp_append_byt (.tmp 18) (.tmp 23) rfl rfl rfl kb11o ky12 (by rw [List.length_append]; have := HT1L.out; have := HOK.out.pa; simp only [List.length_cons, List.length_nil]; omega) kb11.size ?_
        intro x13 u14 ko15 kg16 _
        have kb17 := kb11.grown kg16 kb11.size (fun q hq => (World.ownsRow.lt kb11o q hq).1)
        refine hK.out _ _ (HX.out _ kb17) (fun hHeld => ?_)
        clear hK K
        try simp only [lay]
        refine' tk (i := 11) (v := _) rfl ?_ ?_
        rotate_left
        · (intro W hW; (try dsimp only at hW); go_simp; first | done | with_reducible rfl)
        try simp only [lay]
        refine wpAnyH_done (by kernel_rfl) ?_ _
        rw [HP.out] at ko15
        have HF := hid (And.intro ko15 kb17)
        clear hHeld
        go_wp2_with fail
        go_meet
        case rel => exact HF.out
      · go_simp
        have kb18 := kb3.alloc kb3.size (.cells #[.int .u8 (L : Int)] 5)
        have ky19 := HYL.out u1
        have kb18o := kb3o.alloc (.cells #[.int .u8 (L : Int)] 5)
        have ko20 := ko5.alloc (.cells #[.int .u8 (L : Int)] 5)
        refine hK.out _ _ (HX.out _ kb18) (fun hHeld => ?_)
        clear hK K
        try simp only [lay]
        refine call_on (i := 4) rfl (by kernel_rfl) (by rfl) (fun K hK => ?_)
        refine wp_append_byt (.tmp 14) (.tmp 17) rfl rfl rfl kb18o ko20.byt (by have := HT1L.out; have := HOK.out.pa; omega) kb18.size ?_
        intro x21 u22 ko23 kg24 _
        have kb25 := kb18.grown kg24 kb18.size (fun q hq => (World.ownsRow.lt kb18o q hq).1)
        have ky26 := own_past ho7 kb2.size ky19 kg24
        refine hK.out _ _ (HX.out _ kb25) (fun hHeld => ?_)
        clear hK K
        try simp only [lay]
        refine call_on (i := 10) rfl (by kernel_rfl) (by rfl) (fun K hK => ?_)
        refine wp_append_byt (.tmp 18) (.tmp 23) rfl rfl rfl ko23 ky26 (by rw [List.length_append]; have := HT1L.out; have := HOK.out.pa; simp only [List.length_cons, List.length_nil]; omega) kb25.size ?_
        intro x27 u28 ko29 kg30 _
        have kb31 := kb25.grown kg30 kb25.size (fun q hq => (World.ownsRow.lt ko23 q hq).1)
        refine hK.out _ _ (HX.out _ kb31) (fun hHeld => ?_)
        clear hK K
        try simp only [lay]
        refine' tk (i := 11) (v := _) rfl ?_ ?_
        rotate_left
        · (intro W hW; (try dsimp only at hW); go_simp; first | done | with_reducible rfl)
        try simp only [lay]
        refine wpAnyH_done (by kernel_rfl) ?_ _
        rw [HP.out] at ko29
        have HF := hid (And.intro ko29 kb31)
        clear hHeld
        go_wp2_with fail
        go_meet
        case rel => exact HF.out
    · go_simp
      have kb32 := hb7.alloc hb7.size (.cells #[.int .u8 (L : Int)] 5)
      have ky33 := HYL.out w6.drew
      have kb32o := ho7.alloc (.cells #[.int .u8 (L : Int)] 5)
      refine hK.out _ _ (HX.out _ kb32) (fun hHeld => ?_)
      clear hK K
      try simp only [lay]
      refine call_on (i := 3) rfl (by kernel_rfl) (by rfl) (fun K hK => ?_)
      go_simp
      refine (HBP.out (w6.drew.alloc (.cells #[.int .u8 (L : Int)] 5))).mono ?_
      rintro e u34 ⟨x37, rfl, ko38, kb35⟩
      have kb36 := kb32.trans (kb35.mono kb32.size)
      have kb36o := kb32o.below kb35
      have ky39 := ky33.below kb35
      refine hK.out _ _ (HX.out _ kb36) (fun hHeld => ?_)
      clear hK K
      try simp only [lay]
      refine call_on (i := 4) rfl (by kernel_rfl) (by rfl) (fun K hK => ?_)
      refine wp_append_byt (.tmp 14) (.tmp 17) rfl rfl rfl kb36o ko38.byt (by have := HT1L.out; have := HOK.out.pa; omega) kb36.size ?_
      intro x40 u41 ko42 kg43 _
      have kb44 := kb36.grown kg43 kb36.size (fun q hq => (World.ownsRow.lt kb36o q hq).1)
      have ky45 := own_past ho7 (Nat.le_refl _) ky39 kg43
      refine hK.out _ _ (HX.out _ kb44) (fun hHeld => ?_)
      clear hK K
      try simp only [lay]
      refine call_on (i := 10) rfl (by kernel_rfl) (by rfl) (fun K hK => ?_)
      refine wp_append_byt (.tmp 18) (.tmp 23) rfl rfl rfl ko42 ky45 (by rw [List.length_append]; have := HT1L.out; have := HOK.out.pa; simp only [List.length_cons, List.length_nil]; omega) kb44.size ?_
      intro x46 u47 ko48 kg49 _
      have kb50 := kb44.grown kg49 kb44.size (fun q hq => (World.ownsRow.lt ko42 q hq).1)
      refine hK.out _ _ (HX.out _ kb50) (fun hHeld => ?_)
      clear hK K
      try simp only [lay]
      refine' tk (i := 11) (v := _) rfl ?_ ?_
      rotate_left
      · (intro W hW; (try dsimp only at hW); go_simp; first | done | with_reducible rfl)
      try simp only [lay]
      refine wpAnyH_done (by kernel_rfl) ?_ _
      rw [HP.out] at ko48
      have HF := hid (And.intro ko48 kb50)
      clear hHeld
      go_wp2_with fail
      go_meet
      case rel => exact HF.out
  case rest =>
    obtain ⟨hoc, hbc⟩ := hcut
    have HLI : Hid (L ≤ 9223372036854775807) := hid (by have := HL21.out; omega)
    clear ho6' hb6 hb7 hr7 hLw
    go_wp2_with fail
    go_loopw [3, 4] (fun out si wr => ∃ i : Nat, i ≤ L ∧ si = .int .i64 i ∧ Own w0.heap.size wr out (P ++ frB (a.fr.take i)) ∧ Below w0.heap.size w0 wr) (fun _ si _ => L - (intOf si).toNat)
    case atStart => exact ⟨0, Nat.zero_le _, rfl, by rw [List.take_zero]; unfold frB; rw [List.map_nil, List.flatten_nil, List.append_nil]; exact hoc, hbc⟩
    case round =>
      obtain ⟨i, hi, rfl, hown, hB⟩ := hrel
      clear hoc hbc
      by_cases hlt : i < L
      · have hil : i < a.fr.length := by rw [HL.out]; exact hlt
        obtain ⟨g, o, rfl, hg, hcl⟩ := (HTX.out wr hB).at_.2.2.2 (by omega)
        have hsi := HFR.out _ (List.getElem_mem hil)
        have HNEW := hid (frB_snoc a.fr i hil)
        have HFL : Hid ((frB (a.fr.take i)).length ≤ 21) := hid (by
          rw [frB_len _ (fun s hs => HFR.out s (List.mem_of_mem_take hs)), List.length_take]
          have := HL21.out
          omega)
        obtain ⟨b, HSI⟩ : ∃ s, Hid (a.fr[i] = s) := ⟨_, hid rfl⟩
        rw [HSI.out] at hsi HNEW
        obtain ⟨n, rfl⟩ := nat_of (i := b) (by omega)
        have hbw : IntKind.u8.wrap (n : Int) = (n : Int) := by rw [IntKind.wrap_u8']; omega
        have HDN : Hid (dg n = [UInt8.ofNat n]) := hid (dg_small (by omega))
        rw [Int.toNat_natCast, HDN.out] at HNEW
        have HYN := hid (fun w => one_own w n (by omega))
        have c0 := (HXC.out wr (HX.out wr hB)).2.2.1
        have c1 : wr.cell? ⟨g, o + i, none⟩ = some (.int .i64 (n : Int)) := by
          have := hcl i hil 0 _ rfl
          rwa [Nat.mul_one, Nat.add_zero, HSI.out] at this
        obtain ⟨Q, HQ⟩ : ∃ Q : List UInt8, Hid (P ++ frB (a.fr.take i) = Q) := ⟨_, hid rfl⟩
        have HQL : Hid (Q.length ≤ 100) := hid (by rw [← HQ.out, List.length_append]; have := HPL.out; have := HFL.out; omega)
        rw [HQ.out] at hown
        have hI : (i : Int) < (L : Int) := by omega
        have hHI : Hid (i < L) := hid hlt
        have HBW := hid hB
        have HWW := hid hown
        clear hcl hsi hg hown
        go_wp2_with (at_builtin; refine wpList_append_byt rfl (.tmp 32) (.tmp 39) rfl rfl rfl (HWW.out.alloc _) (HYN.out wr).byt (by have := HQL.out; simp only [List.length_cons, List.length_nil]; omega) (Nat.le_trans HBW.out.size (al_le _ _)) ?_; intro v8 w8 ho8 hg8 _; have HO8 := hid ho8; have HB8 := hid ((HBW.out.alloc HBW.out.size _).grown hg8 (Nat.le_trans HBW.out.size (al_le _ _)) (fun q hq => (World.ownsRow.lt HWW.out q hq).1)); clear hg8 ho8)
        go_roundw
        case rel =>
          refine ⟨i + 1, hHI.out, by go_num, ?_, HB8.out⟩
          rw [HNEW.out, ← List.append_assoc, HQ.out]
          exact HO8.out
        case measure => have := HL21.out; simp [intOf]; omega
      · have E4 := hid (show i = L by omega)
        have hI : ¬ (i : Int) < (L : Int) := by omega
        have c0 := (HXC.out wr (HX.out wr hB)).2.2.1
        go_wp2_with fail
        go_ret
        refine ⟨_, rfl, ?_, HB0.out.trans (hB.mono hs0)⟩
        rw [E4.out, List.take_of_length_le (by rw [HL.out]; exact Nat.le_refl _)] at hown
        have e : P ++ frB a.fr = O := by
          rw [← HO.out, ← HP.out, ← HT1.out]
          unfold taggedX
          rw [HL.out, HDL.out, HVV.out, HQQ.out, Int.toNat_natCast, Int.toNat_natCast]
          simp only [List.append_assoc]
        rw [e] at hown
        exact hown.more hs0
end Go.Proofs.YtghophbabbaleaaGreatDoor
namespace Go.Proofs.YtghophbabbaleaaGreatDoor
set_option maxRecDepth 20000
open Go.RowKit
attribute [local go_sem ↓] exec_load_hash
set_option maxHeartbeats 6400000 in
theorem acTagged_any (v : Value) (a : AcM) (w : World) (hv : AcV w v a) (hm : mayX a = true) :
    Calls Tryz.prog 97 #[v] w fun e w' => ∃ x, e = .returned x ∧ Own w.heap.size w' x (taggedX a) ∧ Below w.heap.size w w' := by
  obtain ⟨s, rfl, ho, ht⟩ := hv
  obtain ⟨_, h1, h2, h3, h4, h5, h6, h7⟩ := mayX_iff.1 hm
  obtain ⟨hfr, hl21⟩ := mayX_fr hm
  have HFR := hid hfr
  have hb0 : Below w.heap.size w (w.alloc (.cells (axc a s) 50)) := (Below.refl _ _).alloc (Nat.le_refl _) _
  have hX := BoxX.new w a s
  have ht0 := ht.below hb0
  obtain ⟨A, k, rfl⟩ := ht.shape
  obtain ⟨l, HFL⟩ : ∃ l : List Int, Hid (a.fr = l) := ⟨_, hid rfl⟩
  have HO2 : Hid (taggedX a = dg a.vi.toNat ++ (dg a.pv.toNat ++ (a.pa ++ (dg l.length ++ frB l)))) := hid (by rw [← HFL.out]; rfl)
  rw [HFL.out] at hX hb0 ht0 hl21 HFR ⊢
  obtain ⟨L, HL⟩ : ∃ n : Nat, Hid (l.length = n) := ⟨_, hid rfl⟩
  rw [HL.out] at hX hb0 ht0 hl21 HO2 ⊢
  obtain ⟨C, HC⟩ : ∃ C : Array Value, Hid (axc a (.slice A L k) = C) := ⟨_, hid rfl⟩
  obtain ⟨O, HO⟩ : ∃ O : List UInt8, Hid (taggedX a = O) := ⟨_, hid rfl⟩
  rw [HC.out] at hX hb0 ht0 ⊢
  rw [HO.out] at HO2 ⊢
  have HL21 := hid hl21
  have HOK := hid ho
  obtain ⟨vn, HVV⟩ : ∃ v : Nat, Hid (a.vi = (v : Int)) := ⟨a.vi.toNat, hid (by omega)⟩
  obtain ⟨qn, HQQ⟩ : ∃ v : Nat, Hid (a.pv = (v : Int)) := ⟨a.pv.toNat, hid (by omega)⟩
  rw [HVV.out, HQQ.out] at HO2
  simp only [Int.toNat_natCast] at HO2
  have HB : Hid (vn < 9223372036854775808 ∧ qn < 9223372036854775808) := hid (by have := HVV.out; have := HQQ.out; omega)
  have HLV := hid (dg_len10 (n := vn) (by have := HVV.out; omega))
  have HLQ := hid (dg_len10 (n := qn) (by have := HQQ.out; omega))
  have HLN := hid (dg_len10 (n := L) (by omega))
  have HHL := hid ho.pa
  have HLD : Hid (∀ W : World, W.heap[w.heap.size]? = some (.cells C 50 (0, 0)) → W.cell? ⟨w.heap.size, 1, none⟩ = some (.int .i64 (vn : Int)) ∧ W.cell? ⟨w.heap.size, 2, none⟩ = some (.int .i64 (qn : Int)) ∧ loadH (.pointer (some ⟨w.heap.size, 3, none⟩)) W = .ok (.value (.agg (hcells a.pa))) W ∧ W.cell? ⟨w.heap.size, 35, none⟩ = some (.slice A L k)) := hid (fun W h => by
    rw [← HC.out] at h
    have hB : BoxX W w.heap.size a (.slice A L k) := h
    rw [← HVV.out, ← HQQ.out]
    exact ⟨hB.ints.2.1, hB.ints.2.2, loadH_mid hB.pa HOK.out.pa, hB.fr HOK.out⟩)
  have hr0 : (w.alloc (.cells C 50)).heap[w.heap.size]? = some (.cells C 50 (0, 0)) := heap_alloc_new w _
  clear ho ht hm hl21 hfr h1 h2 h3 h4 h5 h6 h7 HO HC hX
  go_enter Tryz.func97, Tryz.ntmps97
  go_upto_region 1 with (fail)
  generalize (w.alloc (.cells C 50)) = w0 at *
  have hlr := lt_of_block hr0
  have HX := hid (fun W (h : Below w0.heap.size w0 W) => HLD.out W ((h.block _ hlr).trans hr0))
  have HTX := hid (fun W (h : Below w0.heap.size w0 W) => ht0.below h)
  have HB0 := hid hb0
  clear hr0 hlr ht0 hb0
  have d1 := (HX.out w0 (Below.refl _ _)).1
  go_wp2_with fail
  refine (acnum_any _ [] (vn : Int) w0 (Byt.nil _) (by omega) (by have := HB.out; omega) (by decide)).mono ?_
  rintro e w1 ⟨v1, rfl, ho1, hb1⟩
  rw [Int.toNat_natCast, List.nil_append] at ho1
  have d2 := (HX.out w1 hb1).2.1
  clear d1
  go_wp2_with fail
  refine (acnum_any _ _ (qn : Int) w1 ho1.byt (by omega) (by have := HB.out; omega) (by have := HLV.out; omega)).mono ?_
  rintro e w2 ⟨v2, rfl, ho2, hb2'⟩
  have hb2 := hb1.trans (hb2'.mono hb1.size)
  rw [Int.toNat_natCast] at ho2
  have d4 := (HX.out w2 hb2).2.2.1
  clear d2 hb2'
  go_wp2_with fail
  refine (hash_any _ _ a.pa w2 ho2.byt (by simp only [List.length_append]; have := HLV.out; have := HLQ.out; omega) HHL.out).mono ?_
  rintro e w4 ⟨v4, rfl, ho4, hb4'⟩
  have hb4 := hb2.trans (hb4'.mono hb2.size)
  have d7 := (HX.out w4 hb4).2.2.2
  clear d4 hb4'
  go_wp2_with fail
  refine (acnum_any _ _ (L : Int) w4 ho4.byt (by omega) (by have := HL21.out; omega) (by simp only [List.length_append]; have := HLV.out; have := HLQ.out; have := HHL.out; omega)).mono ?_
  rintro e w7 ⟨v7, rfl, ho7, hb7'⟩
  have hb7 := hb4.trans (hb7'.mono hb4.size)
  rw [Int.toNat_natCast] at ho7
  have d8 := (HX.out w7 hb7).2.2.2
  have HZB := hid hb4.size
  clear d7 hb7' ho1 ho2 ho4 hb1 hb2 hb4
  obtain ⟨P, HP⟩ : ∃ P : List UInt8, Hid (dg vn ++ dg qn ++ a.pa ++ dg L = P) := ⟨_, hid rfl⟩
  have HPL : Hid (P.length ≤ 150) := hid (by rw [← HP.out]; simp only [List.length_append]; have := HLV.out; have := HLQ.out; have := HLN.out; have := HHL.out; omega)
  rw [HP.out] at ho7
  have ho7' := ho7.more HZB.out
  clear ho7
  go_wp2_with fail
  clear d8
  go_loopw [3, 25] (fun out si wr => ∃ i : Nat, i ≤ L ∧ si = .int .i64 i ∧ Own w0.heap.size wr out (P ++ frB (l.take i)) ∧ Below w0.heap.size w0 wr) (fun _ si _ => L - (intOf si).toNat)
  case atStart => exact ⟨0, Nat.zero_le _, rfl, by rw [List.take_zero]; show Own _ _ _ (P ++ []); rw [List.append_nil]; exact ho7', hb7⟩
  case round =>
    obtain ⟨i, hi, rfl, hown, hB⟩ := hrel
    clear ho7' hb7
    by_cases hlt : i < L
    · have hil : i < l.length := by rw [HL.out]; exact hlt
      obtain ⟨g, o, rfl, hg, hcl⟩ := (HTX.out wr hB).at_.2.2.2 (by omega)
      have hsi := HFR.out _ (List.getElem_mem hil)
      have HNEW := hid (frB_snoc l i hil)
      have HFL : Hid ((frB (l.take i)).length ≤ 21) := hid (by
        rw [frB_len _ (fun x hx => HFR.out x (List.mem_of_mem_take hx)), List.length_take]
        have := HL21.out
        omega)
      have l1 : wr.cell? ⟨g, o + i, none⟩ = some (.int .i64 l[i]) := by
        have := hcl i hil 0 _ rfl
        rwa [Nat.mul_one, Nat.add_zero] at this
      obtain ⟨n, HNN⟩ : ∃ n : Nat, Hid (l[i] = (n : Int)) := ⟨(l[i]).toNat, hid (by omega)⟩
      have HN21 : Hid (n ≤ 21) := hid (by have := HNN.out; omega)
      have HNL := hid (dg_len10 (n := n) (by have := HN21.out; omega))
      rw [HNN.out] at l1 HNEW
      rw [Int.toNat_natCast] at HNEW
      obtain ⟨Q, HQ⟩ : ∃ Q : List UInt8, Hid (P ++ frB (l.take i) = Q) := ⟨_, hid rfl⟩
      have HQL : Hid (Q.length ≤ 1000) := hid (by rw [← HQ.out, List.length_append]; have := HPL.out; have := HFL.out; omega)
      rw [HQ.out] at hown
      have hI : (i : Int) < (L : Int) := by omega
      obtain ⟨QA, QC, e⟩ := hown.byt.shape
      obtain ⟨qq, HQQL⟩ : ∃ n : Nat, Hid (Q.length = n) := ⟨_, hid rfl⟩
      rw [HQQL.out] at e
      subst e
      have HLT := hid hlt
      clear hcl hg hsi
      go_wp2_with fail
      refine (acnum_any _ Q (n : Int) wr hown.byt (by omega) (by have := HN21.out; omega) (by have := HQL.out; omega)).mono ?_
      rintro e w2 ⟨v2, rfl, ho2, hb2⟩
      rw [Int.toNat_natCast] at ho2
      have HO3 : Hid (Own w0.heap.size w2 v2 (P ++ frB (l.take (i + 1)))) := hid (by
        rw [HNEW.out, ← List.append_assoc, HQ.out]
        exact ho2.more hB.size)
      have HB3 := hid (hB.trans (hb2.mono hB.size))
      have HWI : Hid (wrap64 ((i : Int) + 1) = ((i + 1 : Nat) : Int)) := hid (by have h1 := HLT.out; have h2 := HL21.out; unfold wrap64; omega)
      clear ho2 hb2 l1 hown
      go_wp2_with fail
      go_roundw
      case rel => exact ⟨i + 1, by have := HLT.out; omega, by first | rw [HWI.out] | go_num, HO3.out, HB3.out⟩
      case measure =>
        have h1 := HLT.out
        have hw := HWI.out
        (try simp only [hw]); simp [intOf]; omega
    · obtain rfl : i = L := by omega
      have htk : l.take i = l := List.take_of_length_le (by rw [HL.out]; exact Nat.le_refl _)
      rw [htk, ← HP.out] at hown
      simp only [List.append_assoc] at hown
      rw [← HO2.out] at hown
      clear htk
      go_wp2_with fail
      go_ret
      exact ⟨_, rfl, hown.more HB0.out.size, HB0.out.trans (hB.mono HB0.out.size)⟩
end Go.Proofs.YtghophbabbaleaaGreatDoor
namespace Go.Proofs.YtghophbabbaleaaGreatDoor
set_option maxRecDepth 20000
open Go.RowKit
attribute [local go_sem ↓] exec_load_ax exec_load_hash
theorem rightX_may {n : Int} {a : AcM} (h : mayX a = false) : rightX n a = false := by
  unfold rightX
  rw [h, Bool.false_and, Bool.and_false]
theorem rightX_all {n : Int} {a : AcM} (h : mayX a = true) : rightX n a = (decide (a.bo ≤ n) && (decide (a.fr.length = quoS n) && (decide (lastI a.fr ≤ n) && decide (a.tg = tagX a)))) := by
  have hp := (mayX_iff.1 h).2.2.2.2.2.2.2
  unfold rightX
  rw [h, Bool.true_and, Bool.eq_iff_iff]
  simp only [Bool.and_eq_true, decide_eq_true_eq]
  constructor
  · rintro ⟨_, h1, h2, h3⟩
    exact ⟨h1, h2, h3⟩
  · rintro ⟨h1, h2, h3⟩
    exact ⟨by omega, h1, h2, h3⟩
set_option maxHeartbeats 6400000 in
theorem acRight_ok : AcRightOk := by
  intro n v a w hwn hv hlen hK
  have HV := hid (fun W (h : Below w.heap.size w W) => hv.below h)
  obtain ⟨s, rfl, ho, ht⟩ := hv
  have hb0 : Below w.heap.size w (w.alloc (.cells (axc a s) 50)) := (Below.refl _ _).alloc (Nat.le_refl _) _
  have hX := BoxX.new w a s
  obtain ⟨A, k, rfl⟩ := ht.shape
  have HT := hid (fun W (h : Below w.heap.size w W) => ht.below h)
  have HLEN := hid hlen
  obtain ⟨l, HFR⟩ : ∃ l : List Int, Hid (a.fr = l) := ⟨_, hid rfl⟩
  rw [HFR.out] at hX hb0 HV HT HLEN ⊢
  obtain ⟨L, HL⟩ : ∃ n : Nat, Hid (l.length = n) := ⟨_, hid rfl⟩
  rw [HL.out] at hX hb0 HV HT HLEN ⊢
  obtain ⟨q, HQ⟩ : ∃ q : Nat, Hid (quoS n = q) := ⟨_, hid rfl⟩
  obtain ⟨m, HM⟩ : ∃ q : Bool, Hid (mayX a = q) := ⟨_, hid rfl⟩
  obtain ⟨tq, HTQ⟩ : ∃ q : Bool, Hid (decide (a.tg = tagX a) = q) := ⟨_, hid rfl⟩
  obtain ⟨la, HLA⟩ : ∃ q : Int, Hid (lastI l = q) := ⟨_, hid rfl⟩
  obtain ⟨ans, HAN⟩ : ∃ q : Bool, Hid (rightX n a = q) := ⟨_, hid rfl⟩
  have HNO : Hid (m = false → ans = false) := hid (fun h => by rw [← HAN.out]; exact rightX_may (HM.out.trans h))
  have HYES : Hid (m = true → ans = (decide (a.bo ≤ n) && (decide (L = q) && (decide (la ≤ n) && tq)))) := hid (fun h => by rw [← HAN.out, rightX_all (HM.out.trans h), HFR.out, HL.out, HQ.out, HLA.out, HTQ.out])
  have HLP : Hid (m = true → 0 < L) := hid (fun h => by
    have := (mayX_iff.1 (HM.out.trans h)).2.2.2.2.2.2.2
    rw [HFR.out, HL.out] at this
    omega)
  rw [HAN.out]
  have HQU : Hid (∀ W, Calls Tryz.prog 96 #[.int .i64 n] W fun e w' => e = .returned (.int .i64 (q : Int)) ∧ W = w') := hid (fun W => by
    have := quorum_any n W hwn
    rw [HQ.out] at this
    exact this)
  obtain ⟨C, HC⟩ : ∃ C : Array Value, Hid (axc a (.slice A L k) = C) := ⟨_, hid rfl⟩
  rw [HC.out] at hb0 HV ⊢
  have HFI : Hid (∀ W, Below w.heap.size w W → Calls Tryz.prog 95 #[.agg C] W fun e w' => e = .returned (.bool m) ∧ Below W.heap.size W w') := hid (fun W h => by
    have := acFits_any _ a W (HV.out W h) (by rw [HFR.out, HL.out]; exact HLEN.out)
    rw [HM.out] at this
    exact this)
  obtain ⟨B, HBB⟩ : ∃ l : List UInt8, Hid (taggedX a = l) := ⟨_, hid rfl⟩
  have HTD : Hid (m = true → ∀ W, Below w.heap.size w W → Calls Tryz.prog 97 #[.agg C] W fun e w' => ∃ x, e = .returned x ∧ Own W.heap.size w' x B ∧ Below W.heap.size W w') := hid (fun h W hb => by
    have := acTagged_any _ a W (HV.out W hb) (HM.out.trans h)
    rw [HBB.out] at this
    exact this)
  have HKC : Hid (m = true → ∀ v gp c W, Below w.heap.size w W → gp < W.heap.size → W.cell? ⟨gp, 0, none⟩ = some v → Byt W v B → Calls Tryz.prog 84 #[.int .i64 a.bo, .int .u8 2, .agg (hcells a.tg), .slice (some ⟨gp, 0, none⟩) 1 c] W fun e w' => e = .returned (.bool tq) ∧ Below W.heap.size W w') := hid (fun h v gp c W hb h1 h2 h3 => by
    have hm : mayX a = true := HM.out.trans h
    have hlen := taggedX_len ho hm
    have hn : nodeB a.bo = true := by
      obtain ⟨_, j1, j2, _⟩ := mayX_iff.1 hm
      unfold nodeB
      exact decide_eq_true ⟨j1, j2⟩
    have := check_hash a.bo 2 a.tg ho.tg v B gp c W h1 h2 h3 (by rw [← HBB.out]; omega) (hK.below hb)
    rw [hn, Bool.true_and, ← HBB.out] at this
    rw [← HTQ.out]
    exact this)
  obtain ⟨G, HG⟩ : ∃ C : Array Value, Hid (hcells a.tg = C) := ⟨_, hid rfl⟩
  rw [HG.out] at HKC
  obtain ⟨bo, HBO⟩ : ∃ x : Int, Hid (a.bo = x) := ⟨_, hid rfl⟩
  rw [HBO.out] at HKC HYES
  have HX : Hid (∀ W : World, W.heap[w.heap.size]? = some (.cells C 50 (0, 0)) → loadAx (.pointer (some ⟨w.heap.size, 0, none⟩)) W = .ok (.value (.agg C)) W ∧ W.cell? ⟨w.heap.size, 0, none⟩ = some (.int .i64 bo) ∧ W.cell? ⟨w.heap.size, 35, none⟩ = some (.slice A L k) ∧ loadH (.pointer (some ⟨w.heap.size, 36, none⟩)) W = .ok (.value (.agg G)) W) := hid (fun W h => by
    have h2 := h
    rw [← HC.out] at h2
    have hBX : BoxX W w.heap.size a (.slice A L k) := h2
    have h3 := hBX.ints.1
    rw [HBO.out] at h3
    refine ⟨loadAx_row h (by rw [← HC.out]; exact axc_size _ ho), h3, hBX.fr ho, ?_⟩
    rw [← HG.out]
    exact loadH_mid (hBX.tg ho) ho.tg)
  have hr0 : (w.alloc (.cells C 50)).heap[w.heap.size]? = some (.cells C 50 (0, 0)) := heap_alloc_new w _
  clear ho ht hK hwn hX hlen
  go_enter Tryz.func62, Tryz.ntmps62
  go_upto_region 1 with (fail)
  generalize (w.alloc (.cells C 50)) = w0 at *
  have hl0 := lt_of_block hr0
  have HXW := hid (fun W (h : Below w0.heap.size w0 W) => HX.out W ((h.block _ hl0).trans hr0))
  have hbd : Below w0.heap.size w0 w0.drew := (Below.refl _ _).drew
  have HB0 := hid hb0
  clear hr0 hl0 hb0
  refine wp_region_held_drew (S := fun W => loadAx (.pointer (some ⟨w.heap.size, 0, none⟩)) W = .ok (.value (.agg C)) W ∧ W.cell? ⟨w.heap.size, 0, none⟩ = some (.int .i64 bo) ∧ W.cell? ⟨w.heap.size, 35, none⟩ = some (.slice A L k)) (by kernel_rfl) (⟨(HXW.out _ hbd).1, (HXW.out _ hbd).2.1, (HXW.out _ hbd).2.2.1⟩) (fun hHeld => ?_)
  refine' tk (i := 0) (v := _) rfl (fun W hW => hW.1) ?_
  try simp only [lay]
  refine call_on (i := 1) rfl (by kernel_rfl) (by rfl) (fun K hK => ?_)
  go_simp
  refine (HFI.out w0.drew (HB0.out.trans (hbd.mono HB0.out.size))).mono ?_
  rintro e w2 ⟨rfl, hb2'⟩
  have hb2 := hbd.trans hb2'
  refine hK.out _ _ (⟨(HXW.out _ hb2).1, (HXW.out _ hb2).2.1, (HXW.out _ hb2).2.2.1⟩) (fun hHeld => ?_)
  clear hK K
  try simp only [lay]
  cases m with
  | false =>
    obtain rfl : ans = false := HNO.out rfl
    refine' tk (i := 2) (v := _) rfl ?_ ?_
    rotate_left
    · (intro W hW; (try dsimp only at hW); go_simp; first | done | with_reducible rfl)
    try simp only [lay]
    refine' tk (i := 3) (v := _) rfl ?_ ?_
    rotate_left
    · (intro W hW; (try dsimp only at hW); go_simp; first | done | with_reducible rfl)
    try simp only [lay]
    refine tf (i := 4) rfl ?_
    try simp only [lay]
    refine tf (i := 5) rfl ?_
    try simp only [lay]
    refine tf (i := 6) rfl ?_
    try simp only [lay]
    refine tf (i := 7) rfl ?_
    try simp only [lay]
    refine' tk (i := 8) (v := _) rfl ?_ ?_
    rotate_left
    · (intro W hW; (try dsimp only at hW); go_simp; first | done | with_reducible rfl)
    try simp only [lay]
    refine' tk (i := 9) (v := _) rfl ?_ ?_
    rotate_left
    · (intro W hW; (try dsimp only at hW); go_simp; first | done | with_reducible rfl)
    try simp only [lay]
    refine tf (i := 10) rfl ?_
    try simp only [lay]
    refine tf (i := 11) rfl ?_
    try simp only [lay]
    refine tf (i := 12) rfl ?_
    try simp only [lay]
    refine tf (i := 13) rfl ?_
    try simp only [lay]
    refine tf (i := 14) rfl ?_
    try simp only [lay]
    refine tf (i := 15) rfl ?_
    try simp only [lay]
    refine' tk (i := 16) (v := _) rfl ?_ ?_
    rotate_left
    · (intro W hW; (try dsimp only at hW); go_simp; first | done | with_reducible rfl)
    try simp only [lay]
    refine wpAnyH_done (by kernel_rfl) ?_ _
    go_wp2_with fail
    go_ret
    exact ⟨rfl, HB0.out.trans (hb2.mono HB0.out.size)⟩
  | true =>
    have HANS := hid (HYES.out rfl)
    have HLQ := hid (HLP.out rfl)
    have HTD2 := hid (HTD.out rfl)
    have HKC2 := hid (HKC.out rfl)
    clear HYES HNO HTD HKC HLP
    by_cases hbn : n < bo
    · obtain rfl : ans = false := by rw [HANS.out, decide_eq_false (by omega)]; rfl
      refine' tk (i := 2) (v := _) rfl ?_ ?_
      rotate_left
      · (intro W hW; (try dsimp only at hW); go_simp; first | done | with_reducible rfl)
      try simp only [lay]
      refine' tk (i := 3) (v := _) rfl ?_ ?_
      rotate_left
      · (intro W hW; (try dsimp only at hW); go_simp; first | done | with_reducible rfl)
      try simp only [lay]
      refine' tk (i := 4) (v := _) rfl ?_ ?_
      rotate_left
      · (intro W hW; (try dsimp only at hW); go_simp; first | done | with_reducible rfl)
      try simp only [lay]
      refine' tk (i := 5) (v := _) rfl ?_ ?_
      rotate_left
      · (intro W hW; (try dsimp only at hW); obtain ⟨_, hW1, hW2⟩ := hW; go_simp; first | done | with_reducible rfl)
      try simp only [lay]
      refine' tk (i := 6) (v := _) rfl ?_ ?_
      rotate_left
      · (intro W hW; (try dsimp only at hW); go_simp; first | done | with_reducible rfl)
      try simp only [lay]
      refine' tk (i := 7) (v := _) rfl ?_ ?_
      rotate_left
      · (intro W hW; (try dsimp only at hW); go_simp; first | done | with_reducible rfl)
      try simp only [lay]
      refine' tk (i := 8) (v := _) rfl ?_ ?_
      rotate_left
      · (intro W hW; (try dsimp only at hW); go_simp; first | done | with_reducible rfl)
      try simp only [lay]
      refine' tk (i := 9) (v := _) rfl ?_ ?_
      rotate_left
      · (intro W hW; (try dsimp only at hW); go_simp; first | done | with_reducible rfl)
      try simp only [lay]
      refine tf (i := 10) rfl ?_
      try simp only [lay]
      refine tf (i := 11) rfl ?_
      try simp only [lay]
      refine tf (i := 12) rfl ?_
      try simp only [lay]
      refine tf (i := 13) rfl ?_
      try simp only [lay]
      refine tf (i := 14) rfl ?_
      try simp only [lay]
      refine tf (i := 15) rfl ?_
      try simp only [lay]
      refine' tk (i := 16) (v := _) rfl ?_ ?_
      rotate_left
      · (intro W hW; (try dsimp only at hW); go_simp; first | done | with_reducible rfl)
      try simp only [lay]
      refine wpAnyH_done (by kernel_rfl) ?_ _
      go_wp2_with fail
      go_ret
      exact ⟨rfl, HB0.out.trans (hb2.mono HB0.out.size)⟩
    · have hbn1 : ¬ bo > n := by omega
      refine' tk (i := 2) (v := _) rfl ?_ ?_
      rotate_left
      · (intro W hW; (try dsimp only at hW); go_simp; first | done | with_reducible rfl)
      try simp only [lay]
      refine' tk (i := 3) (v := _) rfl ?_ ?_
      rotate_left
      · (intro W hW; (try dsimp only at hW); go_simp; first | done | with_reducible rfl)
      try simp only [lay]
      refine' tk (i := 4) (v := _) rfl ?_ ?_
      rotate_left
      · (intro W hW; (try dsimp only at hW); go_simp; first | done | with_reducible rfl)
      try simp only [lay]
      refine' tk (i := 5) (v := _) rfl ?_ ?_
      rotate_left
      · (intro W hW; (try dsimp only at hW); obtain ⟨_, hW1, hW2⟩ := hW; go_simp; first | done | with_reducible rfl)
      try simp only [lay]
      refine' tk (i := 6) (v := _) rfl ?_ ?_
      rotate_left
      · (intro W hW; (try dsimp only at hW); go_simp; first | done | with_reducible rfl)
      try simp only [lay]
      refine' tk (i := 7) (v := _) rfl ?_ ?_
      rotate_left
      · (intro W hW; (try dsimp only at hW); go_simp; first | done | with_reducible rfl)
      try simp only [lay]
      refine' tk (i := 8) (v := _) rfl ?_ ?_
      rotate_left
      · (intro W hW; (try dsimp only at hW); go_simp; first | done | with_reducible rfl)
      try simp only [lay]
      refine' tk (i := 9) (v := _) rfl ?_ ?_
      rotate_left
      · (intro W hW; (try dsimp only at hW); go_simp; first | done | with_reducible rfl)
      try simp only [lay]
      refine' tk (i := 10) (v := _) rfl ?_ ?_
      rotate_left
      · (intro W hW; (try dsimp only at hW); go_simp; first | done | with_reducible rfl)
      try simp only [lay]
      refine' tk (i := 11) (v := _) rfl ?_ ?_
      rotate_left
      · (intro W hW; (try dsimp only at hW); obtain ⟨_, hW1, hW2⟩ := hW; go_simp; first | done | with_reducible rfl)
      try simp only [lay]
      refine' tk (i := 12) (v := _) rfl ?_ ?_
      rotate_left
      · (intro W hW; (try dsimp only at hW); go_simp; first | done | with_reducible rfl)
      try simp only [lay]
      refine' tk (i := 13) (v := _) rfl ?_ ?_
      rotate_left
      · (intro W hW; (try dsimp only at hW); go_simp; first | done | with_reducible rfl)
      try simp only [lay]
      refine call_on (i := 14) rfl (by kernel_rfl) (by rfl) (fun K hK => ?_)
      go_simp
      refine (HQU.out w2).mono ?_
      rintro e w3 ⟨rfl, rfl⟩
      refine hK.out _ _ (⟨(HXW.out _ hb2).1, (HXW.out _ hb2).2.1, (HXW.out _ hb2).2.2.1⟩) (fun hHeld => ?_)
      clear hK K
      try simp only [lay]
      by_cases hl : L = q
      case neg =>
        have hl1 : ((L : Int) != (q : Int)) = true := by simp; omega
        obtain rfl : ans = false := by rw [HANS.out, decide_eq_false hl, Bool.false_and, Bool.and_false]
        refine' tk (i := 15) (v := _) rfl ?_ ?_
        rotate_left
        · (intro W hW; (try dsimp only at hW); go_simp; first | done | with_reducible rfl)
        try simp only [lay]
        refine' tk (i := 16) (v := _) rfl ?_ ?_
        rotate_left
        · (intro W hW; (try dsimp only at hW); go_simp; first | done | with_reducible rfl)
        try simp only [lay]
        refine wpAnyH_done (by kernel_rfl) ?_ _
        clear hl
        go_wp2_with fail
        go_ret
        exact ⟨rfl, HB0.out.trans (hb2.mono HB0.out.size)⟩
      have hl1 : ((L : Int) != (q : Int)) = false := by simp [hl]
      refine' tk (i := 15) (v := _) rfl ?_ ?_
      rotate_left
      · (intro W hW; (try dsimp only at hW); go_simp; first | done | with_reducible rfl)
      try simp only [lay]
      refine' tk (i := 16) (v := _) rfl ?_ ?_
      rotate_left
      · (intro W hW; (try dsimp only at hW); go_simp; first | done | with_reducible rfl)
      try simp only [lay]
      refine wpAnyH_done (by kernel_rfl) ?_ _
      have HANS2 : Hid (ans = (decide (la ≤ n) && tq)) := hid (by rw [HANS.out, decide_eq_true hl, decide_eq_true (by omega)]; rfl)
      have HB2 := hid (HB0.out.trans (hb2.mono HB0.out.size))
      have hlast : Hid (∀ W, Below w.heap.size w W → ∃ g o, A = some ⟨g, o, none⟩ ∧ W.cell? ⟨g, o + (L - 1), none⟩ = some (.int .i64 la)) := hid (fun W h => by
        have hp := HLQ.out
        have hlp : 0 < l.length := by rw [HL.out]; exact hp
        obtain ⟨g, og, e, _, hcl⟩ := (HT.out W h).at_.2.2.2 hlp
        refine ⟨g, og, e, ?_⟩
        have := hcl (L - 1) (by rw [HL.out]; omega) 0 _ rfl
        rw [Nat.mul_one, Nat.add_zero] at this
        rw [this, ← HLA.out, lastI_at hlp]
        simp only [HL.out])
      clear hHeld hl hbn hbn1 hl1 HANS
      go_upto_region 3 with (fail)
      obtain ⟨g, og, rfl, cl2⟩ := hlast.out w2.drew HB2.out.drew
      have HLT : Hid (∀ W, Below w.heap.size w W → W.cell? ⟨g, og + (L - 1), none⟩ = some (.int .i64 la)) := hid (fun W h => by
        obtain ⟨g', og', e, hc⟩ := hlast.out W h
        injection e with e
        injection e with e1 e2 _
        subst e1 e2
        exact hc)
      have hbd2 := hb2.drew
      have q1 : IntKind.i64.wrap ((L : Int) - 1) = ((L - 1 : Nat) : Int) := by have := HLQ.out; have := HLEN.out; rw [IntKind.wrap_i64]; omega
      have q2 : ((L - 1 : Nat) : Int) < (L : Int) := by have := HLQ.out; omega
      have q3 : (0 : Int) ≤ ((L - 1 : Nat) : Int) := by omega
      have q4 : ((L - 1 : Nat) : Int).toNat = L - 1 := Int.toNat_natCast _
      have q5 : wrap64 ((L : Int) - 1) = ((L - 1 : Nat) : Int) := by have := HLQ.out; have := HLEN.out; unfold wrap64; omega
      have q6 : L - 1 < L := by have := HLQ.out; omega
      clear cl2
      obtain ⟨L1, HL1⟩ : ∃ x : Nat, Hid (L - 1 = x) := ⟨_, hid rfl⟩
      rw [HL1.out] at q1 q2 q3 q4 q5 q6 HLT
      have HS3 : Hid (∀ W, Below w0.heap.size w0 W → (loadAx (.pointer (some ⟨w.heap.size, 0, none⟩)) W = .ok (.value (.agg C)) W ∧ W.cell? ⟨w.heap.size, 0, none⟩ = some (.int .i64 bo) ∧ W.cell? ⟨w.heap.size, 35, none⟩ = some (.slice (some ⟨g, og, none⟩) L k) ∧ loadH (.pointer (some ⟨w.heap.size, 36, none⟩)) W = .ok (.value (.agg G)) W) ∧ W.cell? ⟨g, og + L1, none⟩ = some (.int .i64 la)) := hid (fun W h => ⟨HXW.out W h, HLT.out W (HB0.out.trans (h.mono HB0.out.size))⟩)
      refine wp_region_held_drew (S := fun W => (loadAx (.pointer (some ⟨w.heap.size, 0, none⟩)) W = .ok (.value (.agg C)) W ∧ W.cell? ⟨w.heap.size, 0, none⟩ = some (.int .i64 bo) ∧ W.cell? ⟨w.heap.size, 35, none⟩ = some (.slice (some ⟨g, og, none⟩) L k) ∧ loadH (.pointer (some ⟨w.heap.size, 36, none⟩)) W = .ok (.value (.agg G)) W) ∧ W.cell? ⟨g, og + L1, none⟩ = some (.int .i64 la)) (by kernel_rfl) (HS3.out _ hbd2) (fun hHeld => ?_)
      refine' tk (i := 0) (v := _) rfl ?_ ?_
      rotate_left
      · (intro W hW; (try dsimp only at hW); go_simp; first | done | with_reducible rfl)
      try simp only [lay]
      refine' tk (i := 1) (v := _) rfl ?_ ?_
      rotate_left
      · (intro W hW; (try dsimp only at hW); obtain ⟨⟨_, hW1, hW2, _⟩, hW3⟩ := hW; go_simp; first | done | with_reducible rfl)
      try simp only [lay]
      refine' tk (i := 2) (v := _) rfl ?_ ?_
      rotate_left
      · (intro W hW; (try dsimp only at hW); go_simp; first | done | with_reducible rfl)
      try simp only [lay]
      refine' tk (i := 3) (v := _) rfl ?_ ?_
      rotate_left
      · (intro W hW; (try dsimp only at hW); obtain ⟨⟨_, hW1, hW2, _⟩, hW3⟩ := hW; go_simp; first | done | with_reducible rfl)
      try simp only [lay]
      refine' tk (i := 4) (v := _) rfl ?_ ?_
      rotate_left
      · (intro W hW; (try dsimp only at hW); go_simp; first | done | with_reducible rfl)
      try simp only [lay]
      refine' tk (i := 5) (v := _) rfl ?_ ?_
      rotate_left
      · (intro W hW; (try dsimp only at hW); go_simp; first | done | with_reducible rfl)
      try simp only [lay]
      refine' tk (i := 6) (v := _) rfl ?_ ?_
      rotate_left
      · (intro W hW; (try dsimp only at hW); go_simp; first | done | with_reducible rfl)
      try simp only [lay]
      refine' tk (i := 7) (v := _) rfl ?_ ?_
      rotate_left
      · (intro W hW; (try dsimp only at hW); obtain ⟨⟨_, hW1, hW2, _⟩, hW3⟩ := hW; go_simp; first | done | with_reducible rfl)
      try simp only [lay]
      refine' tk (i := 8) (v := _) rfl ?_ ?_
      rotate_left
      · (intro W hW; (try dsimp only at hW); go_simp; first | done | with_reducible rfl)
      try simp only [lay]
      by_cases hlan : la ≤ n
      case neg =>
        obtain rfl : ans = false := by rw [HANS2.out, decide_eq_false hlan]; rfl
        refine' tk (i := 9) (v := _) rfl ?_ ?_
        rotate_left
        · (intro W hW; (try dsimp only at hW); go_simp; first | done | with_reducible rfl)
        try simp only [lay]
        refine' tk (i := 10) (v := _) rfl ?_ ?_
        rotate_left
        · (intro W hW; (try dsimp only at hW); go_simp; first | done | with_reducible rfl)
        try simp only [lay]
        refine tf (i := 11) rfl ?_
        try simp only [lay]
        refine tf (i := 12) rfl ?_
        try simp only [lay]
        refine tf (i := 13) rfl ?_
        try simp only [lay]
        refine tf (i := 14) rfl ?_
        try simp only [lay]
        refine tf (i := 15) rfl ?_
        try simp only [lay]
        refine tf (i := 16) rfl ?_
        try simp only [lay]
        refine tf (i := 17) rfl ?_
        try simp only [lay]
        refine tf (i := 18) rfl ?_
        try simp only [lay]
        refine' tk (i := 19) (v := _) rfl ?_ ?_
        rotate_left
        · (intro W hW; (try dsimp only at hW); go_simp; first | done | with_reducible rfl)
        try simp only [lay]
        refine' tk (i := 20) (v := _) rfl ?_ ?_
        rotate_left
        · (intro W hW; (try dsimp only at hW); go_simp; first | done | with_reducible rfl)
        try simp only [lay]
        refine wpAnyH_done (by kernel_rfl) ?_ _
        go_wp2_with fail
        go_ret
        exact ⟨rfl, HB2.out.drew⟩
      obtain rfl : ans = tq := by rw [HANS2.out, decide_eq_true hlan]; rfl
      refine' tk (i := 9) (v := _) rfl ?_ ?_
      rotate_left
      · (intro W hW; (try dsimp only at hW); go_simp; first | done | with_reducible rfl)
      try simp only [lay]
      refine' tk (i := 10) (v := _) rfl ?_ ?_
      rotate_left
      · (intro W hW; (try dsimp only at hW); go_simp; first | done | with_reducible rfl)
      try simp only [lay]
      refine' tk (i := 11) (v := _) rfl ?_ ?_
      rotate_left
      · (intro W hW; (try dsimp only at hW); go_simp; first | done | with_reducible rfl)
      try simp only [lay]
      refine' tk (i := 12) (v := _) rfl ?_ ?_
      rotate_left
      · (intro W hW; (try dsimp only at hW); obtain ⟨⟨_, hW1, hW2, _⟩, hW3⟩ := hW; go_simp; first | done | with_reducible rfl)
      try simp only [lay]
      refine' tk (i := 13) (v := _) rfl ?_ ?_
      rotate_left
      · (intro W hW; (try dsimp only at hW); go_simp; first | done | with_reducible rfl)
      try simp only [lay]
      refine' tk (i := 14) (v := _) rfl (fun W hW => hW.1.2.2.2) ?_
      try simp only [lay]
      refine' tk (i := 15) (v := _) rfl (fun W hW => hW.1.1) ?_
      try simp only [lay]
      refine call_on (i := 16) rfl (by kernel_rfl) (by rfl) (fun K hK => ?_)
      go_simp
      refine (HTD2.out w2.drew HB2.out.drew).mono ?_
      rintro e w3 ⟨v3, rfl, ho3, hb3'⟩
      have hb3 := hbd2.trans (hb3'.mono hbd2.size)
      have hv3 := ho3.byt
      obtain ⟨A3, c3, rfl⟩ := hv3.shape
      refine hK.out _ _ (HS3.out _ hb3) (fun hHeld => ?_)
      clear hK K
      try simp only [lay]
      have hb4 : Below w0.heap.size w0 (w3.alloc (.cells #[.slice A3 B.length c3] 29)) := hb3.alloc hb3.size _
      refine call_on (i := 17) rfl (by kernel_rfl) (by rfl) (fun K hK => ?_)
      go_simp
      refine hK.out _ _ (HS3.out _ hb4) (fun hHeld => ?_)
      clear hK K
      try simp only [lay]
      refine call_on (i := 18) rfl (by kernel_rfl) (by rfl) (fun K hK => ?_)
      go_simp
      refine (HKC2.out (.slice A3 B.length c3) w3.heap.size 1 (w3.alloc (.cells #[.slice A3 B.length c3] 29)) (HB0.out.trans (hb4.mono HB0.out.size)) (by simp) (by simp) (hv3.alloc _)).mono ?_
      rintro e w5 ⟨rfl, hb5'⟩
      have hb5 := hb4.trans (hb5'.mono hb4.size)
      refine hK.out _ _ (HS3.out _ hb5) (fun hHeld => ?_)
      clear hK K
      try simp only [lay]
      refine' tk (i := 19) (v := _) rfl ?_ ?_
      rotate_left
      · (intro W hW; (try dsimp only at hW); go_simp; first | done | with_reducible rfl)
      try simp only [lay]
      refine' tk (i := 20) (v := _) rfl ?_ ?_
      rotate_left
      · (intro W hW; (try dsimp only at hW); go_simp; first | done | with_reducible rfl)
      try simp only [lay]
      refine wpAnyH_done (by kernel_rfl) ?_ _
      go_wp2_with fail
      go_ret
      exact ⟨rfl, HB0.out.trans (hb5.mono HB0.out.size)⟩
end Go.Proofs.YtghophbabbaleaaGreatDoor
namespace Go.Proofs.YtghophbabbaleaaGreatDoor
set_option maxRecDepth 20000
open Go.RowKit
attribute [local go_sem ↓] exec_load_hash exec_load_ax
set_option maxHeartbeats 3200000 in
theorem refTag10_any (x0 : Value) (a : AcM) (w : World) (hv : AcV w x0 a) (hm : mayX a = true) (hK : Kst 0 w) :
    Calls Tryz.prog 104 #[x0] w fun e w' => e = .returned (.agg (hcells (tagX a))) ∧ Below w.heap.size w w' := by
  have HTD := hid (fun W (h : Below w.heap.size w W) => refTagged10_any x0 a W (hv.below h) hm)
  obtain ⟨s, rfl, ho, he⟩ := hv
  obtain ⟨C, HC⟩ : ∃ C : Array Value, Hid (axc a s = C) := ⟨_, hid rfl⟩
  have HCS : Hid (C.size = 68) := hid (by rw [← HC.out]; exact axc_size _ ho)
  rw [HC.out] at HTD ⊢
  have hr0 := heap1 w (.cells C 50) (.cells (fcells 32 fun _ => bcell 0) 38)
  have hH0 : Blk ((w.alloc (.cells C 50)).alloc (.cells (fcells 32 fun _ => bcell 0) 38)) (w.heap.size + 1) 32 (fun _ => bcell 0) 38 := heap2 w (.cells C 50) _
  have hb0 : Below w.heap.size w ((w.alloc (.cells C 50)).alloc (.cells (fcells 32 fun _ => bcell 0) 38)) := ((Below.refl _ _).alloc (Nat.le_refl _) _).alloc (by simp) _
  have HKB := hid (fun W (h : Below w.heap.size w W) => (show Kst 0 W from hK.below h))
  have hlen := taggedX_len ho hm
  have HTG : Hid (∀ v W, Below w.heap.size w W → Byt W v (taggedX a) → Calls Tryz.prog 88 #[.int .i64 a.bo, .int .u8 2, v] W fun e w' => e = .returned (.agg (fcells 32 fun j => bcell (tagF a.bo 2 (taggedX a) j))) ∧ Below W.heap.size W w') := hid (fun v W h hv => by
    have := refTag_any a.bo 2 v (taggedX a) W hv (by omega) (HKB.out W h)
    exact this)
  obtain ⟨τ, HT⟩ : ∃ t : Nat → UInt8, Hid (tagF a.bo 2 (taggedX a) = t) := ⟨_, hid rfl⟩
  obtain ⟨D, HD⟩ : ∃ C : Array Value, Hid ((fcells 32 fun j => bcell (τ j)) = C) := ⟨_, hid rfl⟩
  have HRS : Hid (hcells (tagX a) = D) := hid (by rw [← HD.out, ← HT.out, fcells_hl]; rfl)
  rw [HT.out, HD.out] at HTG
  rw [HRS.out]
  have HXR : Hid (∀ W : World, W.heap[w.heap.size]? = some (.cells C 50 (0, 0)) → W.cell? ⟨w.heap.size, 0, none⟩ = some (.int .i64 a.bo) ∧ loadAx (.pointer (some ⟨w.heap.size, 0, none⟩)) W = .ok (.value (.agg C)) W) := hid (fun W h => by
    refine ⟨?_, loadAx_row h HCS.out⟩
    rw [← HC.out] at h
    have hB : BoxX W w.heap.size a s := h
    exact hB.ints.1)
  clear hK ho hm hlen he
  go_enter Tryz.func104, Tryz.ntmps104
  go_upto_region 1 with (refine wpList_alloc_arr arrH rfl rfl ?_)
  generalize ((w.alloc (.cells C 50)).alloc (.cells (fcells 32 fun _ => bcell 0) 38)) = w0 at *
  have hl0 := lt_of_block hr0
  have HX : Hid (∀ W, Below w0.heap.size w0 W → W.heap[w.heap.size]? = some (.cells C 50 (0, 0))) := hid (fun W h => (h.block _ hl0).trans hr0)
  have hbd : Below w0.heap.size w0 w0.drew := (Below.refl _ _).drew
  have HH0 := hid hH0
  have HL0 := hid hl0
  clear hH0 hr0 hl0
  refine wp_region_held_drew (S := fun W => W.heap[w.heap.size]? = some (.cells C 50 (0, 0))) (by kernel_rfl) (HX.out _ hbd) (fun hHeld => ?_)
  refine' tk (i := 0) (v := _) rfl ?_ ?_
  rotate_left
  · (intro W hW; (try dsimp only at hW); go_simp; first | done | with_reducible rfl)
  try simp only [lay]
  refine' tk (i := 1) (v := _) rfl ?_ ?_
  rotate_left
  · (intro W hW; (try dsimp only at hW); have hW1 := (HXR.out W hW).1; go_simp; first | done | with_reducible rfl)
  try simp only [lay]
  refine' tk (i := 2) (v := _) rfl (fun W hW => (HXR.out W hW).2) ?_
  try simp only [lay]
  refine call_on (i := 3) rfl (by kernel_rfl) (by rfl) (fun K hK => ?_)
  go_simp
  refine (HTD.out w0.drew (hb0.drew)).mono ?_
  rintro e w2 ⟨v2, rfl, ho2, hb2'⟩
  have hb2 := hbd.trans hb2'
  refine hK.out _ _ (HX.out _ hb2) (fun hHeld => ?_)
  clear hK K
  try simp only [lay]
  refine call_on (i := 4) rfl (by kernel_rfl) (by rfl) (fun K hK => ?_)
  go_simp
  refine (HTG.out v2 w2 (hb0.trans (hb2.mono hb0.size)) ho2.byt).mono ?_
  rintro e w3 ⟨rfl, hb3'⟩
  have hb3 := hb2.trans (hb3'.mono hb2.size)
  have hB3 := hb0.trans (hb3.mono hb0.size)
  have hH3 := HH0.out.keep hb3
  refine hK.out _ _ (HX.out _ hb3) (fun hHeld => ?_)
  clear hK K
  try simp only [lay]
  refine call_on (i := 5) rfl (by kernel_rfl) (by rfl) (fun K hK => ?_)
  refine wp_store_arrH (f' := fun j => bcell (τ j)) _ _ rfl rfl (by rw [HD.out]; rfl) hH3 (fun _ _ => rfl) ?_
  intro w4 hg4 hH4 hs4
  refine hK.out _ _ ((hg4.block _ (Nat.lt_of_lt_of_le HL0.out hb3.size) (fun e => by injection e with e; omega)).trans (HX.out _ hb3)) (fun hHeld => ?_)
  clear hK K
  try simp only [Act.put]
  refine wpAnyH_done (by kernel_rfl) ?_ _
  go_wp2_with fail
  refine bodyPost_ret (arrH.result rfl _ _ rfl hH4) rfl ⟨by rw [HD.out], ?_⟩
  exact below_into hB3 (Nat.le_succ _) hg4 hB3.size
end Go.Proofs.YtghophbabbaleaaGreatDoor
