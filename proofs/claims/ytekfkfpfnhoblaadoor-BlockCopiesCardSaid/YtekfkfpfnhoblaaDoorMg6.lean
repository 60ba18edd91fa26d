/-
  TxRefBytes BkBytes BkPut Spec Bits Sched: what each of them says stands at its head.
-/
import Derived.Test.YtekfkfpfnhoblaaDoorMg2
import Derived.Test.YtekfkfpfnhoblaaDoorMg3
import Derived.Test.YtekfkfpfnhoblaaDoorMg5
import Derived.Test.YtekfkfpfnhoblaaDoorMg1
import Derived.Deep.RegionHeld3
import Derived.Deep.DeepCutAuto
import Derived.LoopTactic
import Derived.Outline
import Derived.Deep.QuietTactic
import Derived.BigQuiet
import Derived.Laws.BitsAllLaws
import Derived.Laws.Bits64
import Derived.WalkLawsBesides
import Derived.IntWalk
import Derived.StillTailTactics
import Derived.RegionTactic
import Derived.BigRegion
/-
  tithingref06.Bytes: a transaction's bytes.
-/
namespace Go.Proofs.YtekfkfpfnhoblaaDoor
set_option maxRecDepth 20000
open Go.RowKit

set_option maxHeartbeats 6400000 in
theorem refBytes_any (t : TxM) (w : World) (hm : mayT t = true) :
    Calls Tryd.prog 35 #[txv t] w fun e w' => ∃ x, e = .returned x ∧ Own w.heap.size w' x (bytesT t) ∧ Below w.heap.size w w' := by
  obtain ⟨h1, h2, h3⟩ := mayT_iff hm
  obtain ⟨fr, no, ki, tu, am, key, val⟩ := t
  simp only at h1 h2 h3
  obtain ⟨a, rfl⟩ := nat_of (i := fr) (by omega)
  obtain ⟨b, rfl⟩ := nat_of (i := no) (by omega)
  obtain ⟨c, rfl⟩ := nat_of (i := ki) (by omega)
  have hc : c < 128 := by omega
  unfold txv
  simp only
  have ha1 : IntKind.u64.wrap (a : Int) = (a : Int) := wrap_u64 _ (by omega) (by omega)
  have hb1 : IntKind.u64.wrap (b : Int) = (b : Int) := wrap_u64 _ (by omega) (by omega)
  have hc1 : IntKind.u8.wrap (c : Int) = (c : Int) := by rw [IntKind.wrap_u8']; omega
  have HNA := hid (fun w => refnum_any (a : Int) w (by omega) (by omega))
  have HNB := hid (fun w => refnum_any (b : Int) w (by omega) (by omega))
  have hrow := fun (C : Array Value) => heap_alloc_new w (.cells C 45)
  have hnew := fun (C : Array Value) => (Below.refl w.heap.size w).alloc (Nat.le_refl _) (.cells C 45)
  have HLA := hid (dg_len10 (n := a) (by omega))
  have HLB := hid (dg_len10 (n := b) (by omega))
  have HDC : Hid (dg c = [UInt8.ofNat c]) := hid (dg_small hc)
  have HY : Hid ((c : Int) = ((UInt8.ofNat c).toNat : Int)) := hid (by rw [UInt8.toNat_ofNat']; omega)
  obtain ⟨s, HS⟩ : ∃ s : ByteArray, Hid (sb key = s) := ⟨_, hid rfl⟩
  obtain ⟨u, HU⟩ : ∃ s : ByteArray, Hid (sb val = s) := ⟨_, hid rfl⟩
  rw [HS.out, HU.out]
  have hr0 := hrow #[.int .i64 (a : Int), .int .i64 (b : Int), .int .i64 (c : Int), .int .i64 tu, .int .i64 am, .string s, .string u]
  have hn0 := hnew #[.int .i64 (a : Int), .int .i64 (b : Int), .int .i64 (c : Int), .int .i64 tu, .int .i64 am, .string s, .string u]
  clear hrow hnew
  have H3 := hid h3
  clear h1 h2 h3
  go_enter Tryd.func35, Tryd.ntmps35
  go_wp2_with fail
  have hsz0 : (w.alloc (.cells #[.int .i64 (a : Int), .int .i64 (b : Int), .int .i64 (c : Int), .int .i64 tu, .int .i64 am, .string s, .string u] 45)).heap.size = w.heap.size + 1 := by simp
  generalize (w.alloc (.cells #[.int .i64 (a : Int), .int .i64 (b : Int), .int .i64 (c : Int), .int .i64 tu, .int .i64 am, .string s, .string u] 45)) = w0 at *
  have hl0 := lt_of_block hr0
  have HC : Hid (∀ W : World, Below w0.heap.size w0 W → ∀ i, W.cell? ⟨w.heap.size, i, none⟩ = #[Value.int .i64 (a : Int), .int .i64 (b : Int), .int .i64 (c : Int), .int .i64 tu, .int .i64 am, .string s, .string u][i]?) := hid (fun W h i => cell_blk ((h.block _ hl0).trans hr0) i)
  have hbd : Below w0.heap.size w0 w0.drew := (Below.refl _ _).drew
  clear hr0 hl0
  go_region_held3 (fun W => W.cell? ⟨w.heap.size, 0, none⟩ = some (.int .i64 (a : Int)) ∧ W.cell? ⟨w.heap.size, 1, none⟩ = some (.int .i64 (b : Int)))
    (first
      | (refine ⟨HC.out _ hbd 0, HC.out _ hbd 1⟩)
      | (refine ⟨HC.out _ hb5 0, HC.out _ hb5 1⟩)
      | (refine ⟨HC.out _ hb4 0, HC.out _ hb4 1⟩)
      | (refine ⟨HC.out _ hb3 0, HC.out _ hb3 1⟩)
      | fail)
    (first
      | (refine step_append_byt (by rfl) (.tmp 7) (.tmp 11) (by rfl) (by rfl) (by rfl) (ho3.below hb4') ho4.byt (by have := HLA.out; have := HLB.out; rw [Int.toNat_natCast, Int.toNat_natCast]; omega) hb4.size ?_; intro v5 w5 ho5 hg5 _; have hb5 := hb4.grown hg5 hb4.size (fun q hq => (World.ownsRow.lt ho3 q hq).1); clear hg5)
      | (go_at_call 34; refine (HNB.out w3).mono ?_; rintro e w4 ⟨v4, rfl, ho4, hb4'⟩; have hb4 := hb3.trans (hb4'.mono hb3.size))
      | (go_at_call 34; refine (HNA.out w0.drew).mono ?_; rintro e w3 ⟨v3, rfl, ho3, hb3'⟩; have hb3 := hbd.trans hb3')
      | fail)
  rw [Int.toNat_natCast] at ho3 ho4
  have HL5 := hid (show (dg a ++ dg b).length ≤ 20 by rw [List.length_append]; have := HLA.out; have := HLB.out; omega)
  have ho5' : Own w0.heap.size w5 v5 (dg a ++ dg b) := ho5
  clear ho3 ho4 ho5 hb3 hb4 hb3' hb4' HNA HNB ha1 hb1
  have c2 := HC.out w5 hb5 2
  have c3 := HC.out w5 hb5 3
  have c4 := HC.out w5 hb5 4
  have c5 := HC.out w5 hb5 5
  have c6 := HC.out w5 hb5 6
  simp at c2 c3 c4 c5 c6
  obtain ⟨P, HP⟩ : ∃ P : List UInt8, Hid (dg a ++ (dg b ++ dg c) = P) := ⟨_, hid rfl⟩
  have HPL : Hid (P.length ≤ 21) := hid (by rw [← HP.out, HDC.out, ← List.append_assoc, List.length_append]; have := HL5.out; simp only [List.length_singleton]; omega)
  have hby := byt_one w5 (c : Int) (UInt8.ofNat c) HY.out
  have hl6 : (dg a ++ dg b).length + [UInt8.ofNat c].length ≤ 140737488355328 := by have := HL5.out; simp only [List.length_singleton]; omega
  have hs5 := hb5.size
  have HB5 := hid hby
  clear hby
  have HW : Hid (w0.heap.size = w.heap.size + 1) := hid hsz0
  clear hsz0
  obtain ⟨hk, hto, ham, rfl, rfl⟩ | ⟨hk, rfl, rfl, hky, hvl⟩ | ⟨hk, rfl, rfl, hky, rfl⟩ := H3.out
  · obtain ⟨d, rfl⟩ := nat_of (i := tu) (by omega)
    obtain ⟨f, rfl⟩ := nat_of (i := am) (by omega)
    obtain rfl : c = 1 := by omega
    have hd1 : IntKind.u64.wrap (d : Int) = (d : Int) := wrap_u64 _ (by omega) (by omega)
    have hf1 : IntKind.u64.wrap (f : Int) = (f : Int) := wrap_u64 _ (by omega) (by omega)
    have HND := hid (fun w => refnum_any (d : Int) w (by omega) (by omega))
    have HNF := hid (fun w => refnum_any (f : Int) w (by omega) (by omega))
    have HLD := hid (dg_len10 (n := d) (by omega))
    have HLF := hid (dg_len10 (n := f) (by omega))
    clear hk hto ham
    go_upto_region 2 with (fail)
    go_wp2_with (first
      | (at_builtin; refine wpList_append_byt rfl (.tmp 13) (.tmp 17) rfl rfl rfl (ho5'.alloc _) HB5.out hl6 (Nat.le_trans hs5 (al_le w5 _)) ?_; intro v6 w6 ho6 hg6 hv6; have hb6 := (hb5.alloc hs5 _).grown hg6 (Nat.le_trans hs5 (al_le w5 _)) (fun q hq => (World.ownsRow.lt ho5' q hq).1); have d2 := HC.out w6 hb6 2; simp at d2; clear hg6 hv6))
    have ho6' : Own w0.heap.size w6 v6 P := by rw [← HP.out, HDC.out, ← List.append_assoc]; exact ho6
    clear ho6 c2 c3 c4 c5 c6 ho5' hb5 HB5 hs5
    have hbd6 : Below w0.heap.size w0 w6.drew := hb6.drew
    have ho6d : Own w0.heap.size w6.drew v6 P := ho6'
    go_region_held3 (fun W => W.cell? ⟨w.heap.size, 3, none⟩ = some (.int .i64 (d : Int)) ∧ W.cell? ⟨w.heap.size, 4, none⟩ = some (.int .i64 (f : Int)))
      (first
        | (refine ⟨HC.out _ hbd6 3, HC.out _ hbd6 4⟩)
        | (refine ⟨HC.out _ hb10 3, HC.out _ hb10 4⟩)
        | (refine ⟨HC.out _ hb9 3, HC.out _ hb9 4⟩)
        | (refine ⟨HC.out _ hb8 3, HC.out _ hb8 4⟩)
        | (refine ⟨HC.out _ hb7 3, HC.out _ hb7 4⟩)
        | fail)
      (first
        | (refine step_append_byt (by rfl) (.tmp 27) (.tmp 31) (by rfl) (by rfl) (by rfl) (ho8.below hb9') ho9.byt (by have := HLD.out; have := HLF.out; have := HPL.out; rw [List.length_append, Int.toNat_natCast, Int.toNat_natCast]; omega) hb9.size ?_; intro v10 w10 ho10 hg10 _; have hb10 := hb9.grown hg10 hb9.size (fun q hq => (World.ownsRow.lt ho8 q hq).1); clear hg10)
        | (go_at_call 34; refine (HNF.out w8).mono ?_; rintro e w9 ⟨v9, rfl, ho9, hb9'⟩; have hb9 := hb8.trans (hb9'.mono hb8.size))
        | (refine step_append_byt (by rfl) (.tmp 22) (.tmp 26) (by rfl) (by rfl) (by rfl) (ho6d.below hb7') ho7.byt (by have := HLD.out; have := HPL.out; rw [Int.toNat_natCast]; omega) hb7.size ?_; intro v8 w8 ho8 hg8 _; have hb8 := hb7.grown hg8 hb7.size (fun q hq => (World.ownsRow.lt ho6' q hq).1); clear hg8)
        | (go_at_call 34; refine (HND.out w6.drew).mono ?_; rintro e w7 ⟨v7, rfl, ho7, hb7'⟩; have hb7 := hbd6.trans (hb7'.mono hbd6.size))
        | fail)
    all_goals
      go_wp2_with fail
      go_ret
      refine ⟨v10, rfl, ?_, hn0.trans (hb10.mono hn0.size)⟩
      rw [bytesT_one]
      rw [← HP.out] at ho10
      simp only [Int.toNat_natCast, List.append_assoc] at ho10
      exact ho10.more (by have := HW.out; omega)
  · have HKM := hid (show key.length ≤ maxLen by have := keyOk_len hky; unfold maxLen; omega)
    have HVM := hid (show val.length ≤ maxLen by unfold maxLen; omega)
    have HKL := hid (show key.length ≤ 16 by have := keyOk_len hky; omega)
    have HVL := hid hvl
    obtain rfl : c = 2 := by omega
    clear hk hky hvl
    go_upto_region 2 with (fail)
    go_wp2_with (first
      | (at_builtin; refine wpList_append_byt rfl (.tmp 13) (.tmp 17) rfl rfl rfl (ho5'.alloc _) HB5.out hl6 (Nat.le_trans hs5 (al_le w5 _)) ?_; intro v6 w6 ho6 hg6 hv6; have hb6 := (hb5.alloc hs5 _).grown hg6 (Nat.le_trans hs5 (al_le w5 _)) (fun q hq => (World.ownsRow.lt ho5' q hq).1); have d2 := HC.out w6 hb6 2; have d5 := HC.out w6 hb6 5; simp at d2 d5; obtain ⟨v7, w7, hcv7, hby7, hb7'⟩ := run_bs key w6 HKM.out; rw [HS.out] at hcv7; clear hg6 hv6))
    have ho6' : Own w0.heap.size w6 v6 P := by rw [← HP.out, HDC.out, ← List.append_assoc]; exact ho6
    clear ho6 c2 c3 c4 c5 c6 ho5' hb5 HB5 hs5
    refine (reftext_any v7 key w7 hby7 (by have := HKL.out; omega)).mono ?_
    rintro e w8 ⟨v8, rfl, ho8, hb8'⟩
    have hb7 := hb6.trans (hb7'.mono hb6.size)
    have hb8 := hb7.trans (hb8'.mono hb7.size)
    have ho68 : Own w0.heap.size w8 v6 P := (ho6'.below hb7').below hb8'
    have hl9 : P.length + (tx key).length ≤ 140737488355328 := by
      have := HKL.out
      have := dg_len10 (n := key.length) (by omega)
      have := HPL.out
      rw [tx_len]
      omega
    clear hcv7 hby7 d2 d5 ho6'
    go_wp2_with (at_builtin; refine wpList_append_byt rfl (.tmp 33) (.tmp 37) rfl rfl rfl ho68 ho8.byt hl9 hb8.size ?_; intro v9 w9 ho9 hg9 hv9; have hb9 := hb8.grown hg9 hb8.size (fun q hq => (World.ownsRow.lt ho68 q hq).1); have e2 := HC.out w9 hb9 2; have e6 := HC.out w9 hb9 6; simp at e2 e6; clear hg9 hv9; obtain ⟨v10, w10, hcv10, hby10, hb10'⟩ := run_bs val w9 HVM.out; rw [HU.out] at hcv10)
    refine (reftext_any v10 val w10 hby10 (by have := HVL.out; omega)).mono ?_
    rintro e w11 ⟨v11, rfl, ho11, hb11'⟩
    have hb10 := hb9.trans (hb10'.mono hb9.size)
    have hb11 := hb10.trans (hb11'.mono hb10.size)
    have ho911 : Own w0.heap.size w11 v9 (P ++ tx key) := (ho9.below hb10').below hb11'
    have hl12 : (P ++ tx key).length + (tx val).length ≤ 140737488355328 := by
      have := HKL.out
      have := HVL.out
      have := dg_len10 (n := key.length) (by omega)
      have := dg_len10 (n := val.length) (by omega)
      have := HPL.out
      rw [List.length_append, tx_len, tx_len]
      omega
    clear hcv10 hby10 e2 e6
    go_wp2_with (at_builtin; refine wpList_append_byt rfl (.tmp 42) (.tmp 46) rfl rfl rfl ho911 ho11.byt hl12 hb11.size ?_; intro v12 w12 ho12 hg12 hv12; have hb12 := hb11.grown hg12 hb11.size (fun q hq => (World.ownsRow.lt ho911 q hq).1); clear hg12 hv12)
    go_ret
    refine ⟨v12, rfl, ?_, hn0.trans (hb12.mono hn0.size)⟩
    rw [bytesT_two]
    rw [← HP.out] at ho12
    simp only [List.append_assoc] at ho12
    exact ho12.more (by have := HW.out; omega)
  · have HKM := hid (show key.length ≤ maxLen by have := keyOk_len hky; unfold maxLen; omega)
    have HKL := hid (show key.length ≤ 16 by have := keyOk_len hky; omega)
    obtain rfl : c = 3 := by omega
    clear hk hky
    go_upto_region 2 with (fail)
    go_wp2_with (first
      | (at_builtin; refine wpList_append_byt rfl (.tmp 13) (.tmp 17) rfl rfl rfl (ho5'.alloc _) HB5.out hl6 (Nat.le_trans hs5 (al_le w5 _)) ?_; intro v6 w6 ho6 hg6 hv6; have hb6 := (hb5.alloc hs5 _).grown hg6 (Nat.le_trans hs5 (al_le w5 _)) (fun q hq => (World.ownsRow.lt ho5' q hq).1); have d2 := HC.out w6 hb6 2; have d5 := HC.out w6 hb6 5; simp at d2 d5; obtain ⟨v7, w7, hcv7, hby7, hb7'⟩ := run_bs key w6 HKM.out; rw [HS.out] at hcv7; clear hg6 hv6))
    have ho6' : Own w0.heap.size w6 v6 P := by rw [← HP.out, HDC.out, ← List.append_assoc]; exact ho6
    clear ho6 c2 c3 c4 c5 c6 ho5' hb5 HB5 hs5
    refine (reftext_any v7 key w7 hby7 (by have := HKL.out; omega)).mono ?_
    rintro e w8 ⟨v8, rfl, ho8, hb8'⟩
    have hb7 := hb6.trans (hb7'.mono hb6.size)
    have hb8 := hb7.trans (hb8'.mono hb7.size)
    have ho68 : Own w0.heap.size w8 v6 P := (ho6'.below hb7').below hb8'
    have hl9 : P.length + (tx key).length ≤ 140737488355328 := by
      have := HKL.out
      have := dg_len10 (n := key.length) (by omega)
      have := HPL.out
      rw [tx_len]
      omega
    clear hcv7 hby7 d2 d5 ho6'
    go_wp2_with (at_builtin; refine wpList_append_byt rfl (.tmp 33) (.tmp 37) rfl rfl rfl ho68 ho8.byt hl9 hb8.size ?_; intro v9 w9 ho9 hg9 hv9; have hb9 := hb8.grown hg9 hb8.size (fun q hq => (World.ownsRow.lt ho68 q hq).1); have e2 := HC.out w9 hb9 2; have e6 := HC.out w9 hb9 6; simp at e2 e6; clear hg9 hv9)
    go_ret
    refine ⟨v9, rfl, ?_, hn0.trans (hb9.mono hn0.size)⟩
    rw [bytesT_three]
    rw [← HP.out] at ho9
    simp only [List.append_assoc] at ho9
    exact ho9.more (by have := HW.out; omega)
end Go.Proofs.YtekfkfpfnhoblaaDoor

/-
  A hash's bytes: tithingref07.Bytes. Two bytes in a block of their own.
-/
namespace Go.Proofs.YtekfkfpfnhoblaaDoor
set_option maxRecDepth 20000
open Go.RowKit

theorem byt_pair (w : World) (x y : Int) (c d : UInt8) (hx : x = (c.toNat : Int)) (hy : y = (d.toNat : Int)) : Byt (w.alloc (.cells #[.int .u8 x, .int .u8 y] 5)) (.slice (some ⟨w.heap.size, 0, none⟩) 2 2) [c, d] := by
  subst hx hy
  refine ⟨_, 2, rfl, Nat.le_refl _, by unfold maxLen; omega, fun _ => ⟨w.heap.size, 0, rfl, by simp, fun j hj => ?_⟩⟩
  rw [Nat.zero_add, cell_blk (heap_alloc_new w _) j]
  match j, hj with
  | 0, _ => rfl
  | 1, _ => rfl

set_option maxHeartbeats 1600000 in
theorem refBytes7_any (h : List UInt8) (w : World) (h32 : h.length = 32) :
    Calls Tryd.prog 33 #[.agg (hcells h)] w fun e w' => ∃ x, e = .returned x ∧ Own w.heap.size w' x h ∧ Below w.heap.size w w' := by
  have hr0 := heap_alloc_new w (.cells (hcells h) 23)
  have hb0 : Below w.heap.size w (w.alloc (.cells (hcells h) 23)) := (Below.refl _ _).alloc (Nat.le_refl _) _
  obtain ⟨C, HC⟩ : ∃ C : Array Value, Hid (hcells h = C) := ⟨_, hid rfl⟩
  rw [HC.out] at hr0 hb0 ⊢
  go_enter Tryd.func33, Tryd.ntmps33
  go_upto_region 1 with (fail)
  generalize (w.alloc (.cells C 23)) = w0 at *
  have hl0 := lt_of_block hr0
  have HR0 := hid hr0
  have hfo := fresh0_own w0
  have hfb : Below w0.heap.size w0 (w0.alloc (.cells #[] 5)) := (Below.refl _ _).alloc (Nat.le_refl _) _
  have hs0 := hb0.size
  clear hr0
  go_wp2_with fail
  go_loopw [3, 4] (fun out si wr => ∃ i : Nat, i ≤ 32 ∧ si = .int .i64 i ∧ Own w0.heap.size wr out (h.take i) ∧ Below w0.heap.size w0 wr) (fun _ si _ => 32 - (intOf si).toNat)
  case atStart => exact ⟨0, by omega, rfl, by rw [List.take_zero]; exact hfo, hfb⟩
  case round =>
    obtain ⟨i, hi, rfl, hown, hB⟩ := hrel
    have hlen : (h.take i).length ≤ 32 := by simp only [List.length_take]; omega
    by_cases hlt2 : i < 32
    · have hih : i < h.length := by omega
      have hc : wr.cell? ⟨w.heap.size, i, none⟩ = some (bcell h[i]) := by
        have := cell_blk ((hB.block _ hl0).trans HR0.out) i
        rw [this, ← HC.out]
        exact hcells_get h i hih
      obtain ⟨x, hx0, hx1, HX⟩ : ∃ x : Int, 0 ≤ x ∧ x ≤ 255 ∧ Hid (x = (h[i].toNat : Int)) := ⟨_, (byte_lt h[i]).1, (byte_lt h[i]).2, rfl⟩
      unfold bcell at hc
      rw [← HX.out] at hc
      have hi32 : (i : Int) < 32 := by omega
      have hbs := hB.size
      clear hfo hfb
      go_wp2_with (at_builtin; refine wpList_append_byt rfl (.tmp 10) (.tmp 14) rfl rfl rfl (hown.alloc _) (byt_one _ _ h[i] HX.out) (by rw [List.length_singleton]; omega) (by simp; omega) ?_; intro v7 w7 hown7 hg7 _)
      have hnew : h.take i ++ [h[i]] = h.take (i + 1) := by rw [← List.take_succ_eq_append_getElem hih]
      rw [hnew] at hown7
      have hB7 : Below w0.heap.size w0 w7 := (hB.alloc hbs _).grown hg7 (by simp; omega) (fun q hq => (World.ownsRow.lt hown q hq).1)
      clear hnew hg7
      go_roundw
      case rel => exact ⟨i + 1, by omega, by go_num, hown7, hB7⟩
      case measure => simp [intOf]; omega
    · obtain rfl : i = 32 := by omega
      go_wp2
      go_ret
      rw [List.take_of_length_le (by omega)] at hown
      exact ⟨_, rfl, hown.more (by omega), hb0.trans (hB.mono (by omega))⟩
end Go.Proofs.YtekfkfpfnhoblaaDoor

/-
  The document's answer for a block's bytes: tithingref07.Bytes, tithingref07.Put.
-/
namespace Go.Proofs.YtekfkfpfnhoblaaDoor
set_option maxRecDepth 20000
open Go.RowKit
attribute [local go_sem ↓] exec_load_tx

theorem flat_snoc (L : List TxM) (i : Nat) (h : i < L.length) : ((L.take (i + 1)).map bytesT).flatten = ((L.take i).map bytesT).flatten ++ bytesT L[i] := by
  rw [List.take_succ_eq_append_getElem h]
  simp only [List.map_append, List.map_cons, List.map_nil, List.flatten_append, List.flatten_cons, List.flatten_nil, List.append_nil]
theorem flat_len (L : List TxM) (hm : ∀ t ∈ L, mayT t = true) : (L.map bytesT).flatten.length ≤ L.length * 300 := by
  induction L with
  | nil => simp
  | cons t L ih =>
    have h1 := bytesT_len (hm t (by simp))
    have h2 := ih (fun u hu => hm u (List.mem_cons_of_mem _ hu))
    simp only [List.map_cons, List.flatten_cons, List.length_append, List.length_cons]
    omega

set_option maxHeartbeats 3200000 in
theorem refPut7_any (v : Value) (b : BkM) (w : World) (hv : BkV w v b) (hm : mayK b = true) :
    Calls Tryd.prog 18 #[v] w fun e w' => ∃ x, e = .returned x ∧ Own w.heap.size w' x (bytesK b) ∧ Below w.heap.size w w' := by
  obtain ⟨s, rfl, hp, ht⟩ := hv
  obtain ⟨hall, h1, h2, h3, h4, h5, h6, h7⟩ := mayK_all hm
  have HALL := hid hall
  clear hall hm
  have hb0 : Below w.heap.size w (w.alloc (.cells (bkc b s) 26)) := (Below.refl _ _).alloc (Nat.le_refl _) _
  have hA := BoxK.new w b s
  have ht0 := ht.below hb0
  obtain ⟨A, c, rfl⟩ := ht.shape
  obtain ⟨L, HL⟩ : ∃ n : Nat, Hid (b.txs.length = n) := ⟨_, hid rfl⟩
  rw [HL.out] at h7
  obtain ⟨C, HC⟩ : ∃ C : Array Value, Hid (bkc b (.slice A b.txs.length c) = C) := ⟨_, hid rfl⟩
  obtain ⟨O, HO⟩ : ∃ O : List UInt8, Hid (bytesK b = O) := ⟨_, hid rfl⟩
  rw [HO.out]
  rw [HC.out] at hA hb0 ht0 ⊢
  rw [HL.out] at hA ht0 HC
  obtain ⟨par, vi, he, bo, txs⟩ := b
  simp only at h1 h2 h3 h4 h5 h6 hp HL HALL ht0
  obtain ⟨p, rfl⟩ := nat_of (i := vi) h1
  obtain ⟨q, rfl⟩ := nat_of (i := he) h3
  obtain ⟨o, rfl⟩ := nat_of (i := bo) h5
  have hp1 : IntKind.u64.wrap (p : Int) = (p : Int) := wrap_u64 _ (by omega) (by omega)
  have hq1 : IntKind.u64.wrap (q : Int) = (q : Int) := wrap_u64 _ (by omega) (by omega)
  have ho1 : IntKind.u8.wrap (o : Int) = (o : Int) := by rw [IntKind.wrap_u8']; omega
  have hL1 : IntKind.u8.wrap (L : Int) = (L : Int) := by rw [IntKind.wrap_u8']; omega
  have HNP := hid (fun w => refnum_any (p : Int) w (by omega) (by omega))
  have HNQ := hid (fun w => refnum_any (q : Int) w (by omega) (by omega))
  have HLP := hid (dg_len10 (n := p) (by omega))
  have HLQ := hid (dg_len10 (n := q) (by omega))
  have HDO : Hid (dg o = [UInt8.ofNat o]) := hid (dg_small (by omega))
  have HDL : Hid (dg L = [UInt8.ofNat L]) := hid (dg_small (by omega))
  have HYO : Hid ((o : Int) = ((UInt8.ofNat o).toNat : Int)) := hid (by rw [UInt8.toNat_ofNat']; omega)
  have HYL : Hid ((L : Int) = ((UInt8.ofNat L).toNat : Int)) := hid (by rw [UInt8.toNat_ofNat']; omega)
  have HBH := hid (fun w => refBytes7_any par w hp)
  have HPL := hid hp
  clear ht
  go_enter Tryd.func18, Tryd.ntmps18
  go_upto_region 1 with (fail)
  generalize (w.alloc (.cells C 26)) = w0 at *
  have hl0 := hA.lt
  have HX : Hid (∀ W : World, Below w0.heap.size w0 W → W.rangeAt w.heap.size 0 (bcells par) ∧ W.cell? ⟨w.heap.size, 32, none⟩ = some (.int .i64 (p : Int)) ∧ W.cell? ⟨w.heap.size, 33, none⟩ = some (.int .i64 (q : Int)) ∧ W.cell? ⟨w.heap.size, 34, none⟩ = some (.int .i64 (o : Int)) ∧ W.cell? ⟨w.heap.size, 35, none⟩ = some (.slice A L c) ∧ Txs W (.slice A L c) txs) := hid (fun W h => by
    have hW := hA.below h hl0
    exact ⟨hW.range, (hW.cells HPL.out).1, (hW.cells HPL.out).2.1, (hW.cells HPL.out).2.2.1, (hW.cells HPL.out).2.2.2, ht0.below h⟩)
  have hbd : Below w0.heap.size w0 w0.drew := (Below.refl _ _).drew
  have hu := under_hash
  have hsz : (Tryd.prog.info? 23).map (·.size) = some (bcells par).length := by rw [size_hash, bcells_length, hp]
  have hs0 := hb0.size
  clear hA ht0 hp
  go_region_held3 (fun W => W.rangeAt w.heap.size 0 (bcells par) ∧ W.cell? ⟨w.heap.size, 32, none⟩ = some (.int .i64 (p : Int)))
    (first
      | (refine ⟨(HX.out _ hbd).1, (HX.out _ hbd).2.1⟩)
      | (refine ⟨(HX.out _ hb5).1, (HX.out _ hb5).2.1⟩)
      | (refine ⟨(HX.out _ hb4).1, (HX.out _ hb4).2.1⟩)
      | (refine ⟨(HX.out _ hb3).1, (HX.out _ hb3).2.1⟩)
      | fail)
    (first
      | (refine step_append_byt (by rfl) (.tmp 7) (.tmp 11) (by rfl) (by rfl) (by rfl) (ho3.below hb4') ho4.byt (by have := HLP.out; have := HPL.out; rw [Int.toNat_natCast]; omega) hb4.size ?_; intro v5 w5 ho5 hg5 _; have hb5 := hb4.grown hg5 hb4.size (fun q hq => (World.ownsRow.lt ho3 q hq).1); clear hg5)
      | (go_at_call 34; (with_reducible refine (HNP.out w3).mono ?_); rintro e w4 ⟨v4, rfl, ho4, hb4'⟩; have hb4 := hb3.trans (hb4'.mono hb3.size))
      | (go_at_call 33; refine (HBH.out w0.drew).mono ?_; rintro e w3 ⟨v3, rfl, ho3, hb3'⟩; have hb3 := hbd.trans hb3')
      | fail)
  rw [Int.toNat_natCast] at ho4 ho5
  have ho5' : Own w0.heap.size w5 v5 (par ++ dg p) := ho5
  have HL5 := hid (show (par ++ dg p).length ≤ 42 by rw [List.length_append]; have := HLP.out; have := HPL.out; omega)
  clear ho3 ho4 ho5 hb3 hb4 hb3' hb4' HNP HBH hu hsz hbd hp1
  have k5 := (HX.out w5 hb5).2.2.1
  go_wp2_with fail
  refine (HNQ.out w5).mono ?_
  rintro e w6 ⟨v6, rfl, ho6, hb6'⟩
  rw [Int.toNat_natCast] at ho6
  have hb6 := hb5.trans (hb6'.mono hb5.size)
  have ho56 := ho5'.below hb6'
  clear k5 ho5' hb6' hq1
  have hl7 : (par ++ dg p).length + (dg q).length ≤ 140737488355328 := by have := HL5.out; have := HLQ.out; omega
  have HL7 := hid (show (par ++ dg p ++ dg q).length ≤ 52 by rw [List.length_append]; have := HL5.out; have := HLQ.out; omega)
  have HBY := hid (fun w => byt_pair w (o : Int) (L : Int) (UInt8.ofNat o) (UInt8.ofNat L) HYO.out HYL.out)
  have hl8 : (par ++ dg p ++ dg q).length + [UInt8.ofNat o, UInt8.ofNat L].length ≤ 140737488355328 := by have := HL7.out; simp only [List.length_cons, List.length_nil]; omega
  go_wp2_with (first
    | (at_builtin; refine wpList_append_byt rfl (.tmp 13) (.tmp 17) rfl rfl rfl ho56 ho6.byt hl7 hb6.size ?_; intro v7 w7 ho7 hg7 hv7; have hb7 := hb6.grown hg7 hb6.size (fun q hq => (World.ownsRow.lt ho56 q hq).1); have m3 := (HX.out w7 hb7).2.2.2.1; have m4 := (HX.out w7 hb7).2.2.2.2.1; clear hg7 hv7)
    | (at_builtin; refine wpList_append_byt rfl (.tmp 19) (.tmp 27) rfl rfl rfl (ho7.alloc _) (HBY.out w7) hl8 (Nat.le_trans hb7.size (al_le w7 _)) ?_; intro v8 w8 ho8 hg8 hv8; have hb8 := (hb7.alloc hb7.size _).grown hg8 (Nat.le_trans hb7.size (al_le w7 _)) (fun q hq => (World.ownsRow.lt ho7 q hq).1); clear hg8 hv8))
  clear ho6 ho56 hl7 hb5 hb6
  obtain ⟨P, HP⟩ : ∃ P : List UInt8, Hid (par ++ dg p ++ dg q ++ [UInt8.ofNat o, UInt8.ofNat L] = P) := ⟨_, hid rfl⟩
  rw [HP.out] at ho8
  have HPL2 : Hid (P.length ≤ 54) := hid (by rw [← HP.out, List.length_append]; have := HL7.out; simp only [List.length_cons, List.length_nil]; omega)
  clear ho7 hb7 m3 m4 HBY hl8 ho1 hL1
  have HTL : Hid ((txs.map bytesT).flatten.length ≤ L * 300) := hid (by have := flat_len txs HALL.out; rw [HL.out] at this; exact this)
  have HTK : Hid (∀ i, i ≤ L → ((txs.take i).map bytesT).flatten.length ≤ i * 300) := hid (fun i hi => by
    have := flat_len (txs.take i) (fun t ht => HALL.out t (List.mem_of_mem_take ht))
    rw [List.length_take, HL.out, Nat.min_eq_left hi] at this
    exact this)
  go_loopw [3, 4] (fun out si wr => ∃ i : Nat, i ≤ L ∧ si = .int .i64 i ∧ Own w0.heap.size wr out (P ++ ((txs.take i).map bytesT).flatten) ∧ Below w0.heap.size w0 wr) (fun _ si _ => L - (intOf si).toNat)
  case atStart => exact ⟨0, by omega, rfl, by rw [List.take_zero, List.map_nil, List.flatten_nil, List.append_nil]; exact ho8, hb8⟩
  case round =>
    obtain ⟨i, hi, rfl, hown, hB⟩ := hrel
    clear ho8 hb8
    obtain ⟨_, _, _, _, m4, m5⟩ := HX.out wr hB
    by_cases hlt : i < L
    · have hih : i < txs.length := by rw [HL.out]; exact hlt
      obtain ⟨ba, oa, rfl, hba, hcla⟩ := m5.at_.2.2.2 (by omega)
      have hI : (i : Int) < (L : Int) := by omega
      have l1 : loadTx (.pointer (some ⟨ba, oa + i * 7, none⟩)) wr = .ok (.value (txv txs[i])) wr := loadTx_mid (hcla i hih)
      have HBT : Hid (∀ W, Calls Tryd.prog 35 #[txv txs[i]] W fun e w' => ∃ x, e = .returned x ∧ Own W.heap.size w' x (bytesT txs[i]) ∧ Below W.heap.size W w') := hid (fun W => refBytes_any _ W (HALL.out _ (List.getElem_mem hih)))
      have hbl := bytesT_len (HALL.out _ (List.getElem_mem hih))
      obtain ⟨X, HX1⟩ : ∃ C : Array Value, Hid ((tcl txs[i]).toArray = C) := ⟨_, hid rfl⟩
      rw [txv_tcl, HX1.out] at l1 HBT
      have hfl := HTK.out i hi
      have hlen : (P ++ ((txs.take i).map bytesT).flatten).length + (bytesT txs[i]).length ≤ 140737488355328 := by rw [List.length_append]; have := HPL2.out; omega
      have HNEW := hid (flat_snoc txs i hih)
      clear hcla m5 hbl hfl
      go_wp2_with fail
      refine (HBT.out wr).mono ?_
      rintro e w9 ⟨v9, rfl, ho9, hb9'⟩
      have hb9 := hB.trans (hb9'.mono hB.size)
      have hown9 := hown.below hb9'
      clear l1 m4
      go_wp2_with (at_builtin; refine wpList_append_byt rfl (.tmp 36) (.tmp 42) rfl rfl rfl hown9 ho9.byt hlen hb9.size ?_; intro v10 w10 ho10 hg10 hv10; have hb10 := hb9.grown hg10 hb9.size (fun q hq => (World.ownsRow.lt hown9 q hq).1); clear hg10 hv10)
      rw [List.append_assoc, ← HNEW.out] at ho10
      go_roundw
      case rel => exact ⟨i + 1, by omega, by go_num, ho10, hb10⟩
      case measure => simp [intOf]; omega
    · obtain rfl : i = L := by omega
      clear m5
      go_wp2
      go_ret
      rw [List.take_of_length_le (by rw [HL.out]; exact Nat.le_refl _)] at hown
      refine ⟨_, rfl, ?_, hb0.trans (hB.mono hs0)⟩
      have e : P ++ (txs.map bytesT).flatten = O := by
        rw [← HO.out, ← HP.out]
        unfold bytesK
        simp only [Int.toNat_natCast, HDO.out, HL.out, HDL.out, List.append_assoc, List.cons_append, List.nil_append]
      rw [e] at hown
      exact hown.more hs0
end Go.Proofs.YtekfkfpfnhoblaaDoor

/-
  Sums of 256 bits, as plain functions on words and bytes. No function of the program.
-/
namespace Go.Proofs.YtekfkfpfnhoblaaDoor
set_option maxRecDepth 20000

/-- A word that is turned to the right, and one that is shifted. -/
def rr (x : UInt32) (n : Nat) : UInt32 := UInt32.ofNat (x.toNat / 2 ^ n + x.toNat % 2 ^ n * 2 ^ (32 - n))
def sr (x : UInt32) (n : Nat) : UInt32 := UInt32.ofNat (x.toNat / 2 ^ n)
def sm0 (x : UInt32) : UInt32 := rr x 7 ^^^ rr x 18 ^^^ sr x 3
def sm1 (x : UInt32) : UInt32 := rr x 17 ^^^ rr x 19 ^^^ sr x 10
def bg0 (x : UInt32) : UInt32 := rr x 2 ^^^ rr x 13 ^^^ rr x 22
def bg1 (x : UInt32) : UInt32 := rr x 6 ^^^ rr x 11 ^^^ rr x 25
def chc (x y z : UInt32) : UInt32 := (x &&& y) ||| (~~~x &&& z)
def maj (x y z : UInt32) : UInt32 := (x &&& y) ||| (x &&& z) ||| (y &&& z)

def kl : List UInt32 := [
  0x428a2f98, 0x71374491, 0xb5c0fbcf, 0xe9b5dba5, 0x3956c25b, 0x59f111f1, 0x923f82a4, 0xab1c5ed5,
  0xd807aa98, 0x12835b01, 0x243185be, 0x550c7dc3, 0x72be5d74, 0x80deb1fe, 0x9bdc06a7, 0xc19bf174,
  0xe49b69c1, 0xefbe4786, 0x0fc19dc6, 0x240ca1cc, 0x2de92c6f, 0x4a7484aa, 0x5cb0a9dc, 0x76f988da,
  0x983e5152, 0xa831c66d, 0xb00327c8, 0xbf597fc7, 0xc6e00bf3, 0xd5a79147, 0x06ca6351, 0x14292967,
  0x27b70a85, 0x2e1b2138, 0x4d2c6dfc, 0x53380d13, 0x650a7354, 0x766a0abb, 0x81c2c92e, 0x92722c85,
  0xa2bfe8a1, 0xa81a664b, 0xc24b8b70, 0xc76c51a3, 0xd192e819, 0xd6990624, 0xf40e3585, 0x106aa070,
  0x19a4c116, 0x1e376c08, 0x2748774c, 0x34b0bcb5, 0x391c0cb3, 0x4ed8aa4a, 0x5b9cca4f, 0x682e6ff3,
  0x748f82ee, 0x78a5636f, 0x84c87814, 0x8cc70208, 0x90befffa, 0xa4506ceb, 0xbef9a3f7, 0xc67178f2]
/-- The constants. -/
def kc (i : Nat) : UInt32 := kl.getD i 0

/-- A word of a block: four bytes, the highest first. -/
def four (a b c d : UInt8) : UInt32 := UInt32.ofNat (a.toNat * 16777216 + b.toNat * 65536 + c.toNat * 256 + d.toNat)
def wordB (b : Nat → UInt8) (i : Nat) : UInt32 := four (b (4 * i)) (b (4 * i + 1)) (b (4 * i + 2)) (b (4 * i + 3))
/-- The first n words that a block makes. -/
def sched (b : Nat → UInt8) : Nat → List UInt32
  | 0 => []
  | n + 1 => sched b n ++ [if n < 16 then wordB b n else sm1 ((sched b n).getD (n - 2) 0) + (sched b n).getD (n - 7) 0 + sm0 ((sched b n).getD (n - 15) 0) + (sched b n).getD (n - 16) 0]
def wd (b : Nat → UInt8) (i : Nat) : UInt32 := (sched b 64).getD i 0
theorem sched_length (b : Nat → UInt8) : ∀ n, (sched b n).length = n
  | 0 => rfl
  | n + 1 => by simp [sched, sched_length b n]
theorem sched_pre (b : Nat → UInt8) (i : Nat) : ∀ n, i < n → (sched b n).getD i 0 = (sched b (i + 1)).getD i 0
  | 0, h => absurd h (by omega)
  | n + 1, h => by
    by_cases e : i = n
    · subst e; rfl
    · have hi : i < n := by omega
      rw [← sched_pre b i n hi]
      have hl := sched_length b n
      simp only [sched, List.getD_eq_getElem?_getD]
      rw [List.getElem?_append_left (by omega)]
theorem sched_at (b : Nat → UInt8) {i n : Nat} (h : i < n) (h2 : n ≤ 64) : (sched b n).getD i 0 = wd b i := by
  unfold wd
  rw [sched_pre b i n h, sched_pre b i 64 (by omega)]
theorem wd_at (b : Nat → UInt8) {i : Nat} (h : i < 64) : wd b i = if i < 16 then wordB b i else sm1 ((sched b i).getD (i - 2) 0) + (sched b i).getD (i - 7) 0 + sm0 ((sched b i).getD (i - 15) 0) + (sched b i).getD (i - 16) 0 := by
  have e := sched_length b i
  unfold wd
  rw [sched_pre b i 64 h]
  simp only [sched, List.getD_eq_getElem?_getD]
  rw [List.getElem?_append_right (by omega), e, Nat.sub_self]
  rfl
theorem wd_low (b : Nat → UInt8) {i : Nat} (h : i < 16) : wd b i = wordB b i := by rw [wd_at b (by omega), if_pos h]
theorem wd_high (b : Nat → UInt8) {i : Nat} (h : 16 ≤ i) (h2 : i < 64) : wd b i = sm1 (wd b (i - 2)) + wd b (i - 7) + sm0 (wd b (i - 15)) + wd b (i - 16) := by
  rw [wd_at b h2, if_neg (by omega), sched_at b (by omega) (by omega), sched_at b (by omega) (by omega), sched_at b (by omega) (by omega), sched_at b (by omega) (by omega)]
theorem wd_congr {b b' : Nat → UInt8} (h : ∀ j, j < 64 → b j = b' j) : ∀ i, i < 64 → wd b i = wd b' i := by
  intro i
  induction i using Nat.strongRecOn with
  | _ i ih =>
    intro hi
    by_cases h16 : i < 16
    · rw [wd_low b h16, wd_low b' h16]
      unfold wordB
      rw [h _ (by omega), h _ (by omega), h _ (by omega), h _ (by omega)]
    · rw [wd_high b (by omega) hi, wd_high b' (by omega) hi, ih _ (by omega) (by omega), ih _ (by omega) (by omega), ih _ (by omega) (by omega), ih _ (by omega) (by omega)]

/-- A state. -/
structure St where
  a : UInt32
  b : UInt32
  c : UInt32
  d : UInt32
  e : UInt32
  f : UInt32
  g : UInt32
  h : UInt32
def St.at_ (v : St) (i : Nat) : UInt32 := [v.a, v.b, v.c, v.d, v.e, v.f, v.g, v.h].getD i 0
def St.of (s : Nat → UInt32) : St := ⟨s 0, s 1, s 2, s 3, s 4, s 5, s 6, s 7⟩
def rnd (k w : UInt32) (v : St) : St :=
  ⟨v.h + bg1 v.e + chc v.e v.f v.g + k + w + (bg0 v.a + maj v.a v.b v.c), v.a, v.b, v.c, v.d + (v.h + bg1 v.e + chc v.e v.f v.g + k + w), v.e, v.f, v.g⟩
def rnds (w : Nat → UInt32) : Nat → St → St
  | 0, v => v
  | n + 1, v => rnd (kc n) (w n) (rnds w n v)
/-- The state behind a block. -/
def turnS (s : Nat → UInt32) (b : Nat → UInt8) (i : Nat) : UInt32 := s i + (rnds (wd b) 64 (St.of s)).at_ i
theorem rnds_congr {w w' : Nat → UInt32} {v : St} : ∀ n, (∀ i, i < n → w i = w' i) → rnds w n v = rnds w' n v
  | 0, _ => rfl
  | n + 1, h => by
    unfold rnds
    rw [h n (by omega), rnds_congr n (fun i hi => h i (by omega))]
theorem turnS_congr {s s' : Nat → UInt32} {b b' : Nat → UInt8} (hs : ∀ i, i < 8 → s i = s' i) (hb : ∀ j, j < 64 → b j = b' j) (i : Nat) (hi : i < 8) : turnS s b i = turnS s' b' i := by
  have e : St.of s = St.of s' := by
    unfold St.of
    rw [hs 0 (by omega), hs 1 (by omega), hs 2 (by omega), hs 3 (by omega), hs 4 (by omega), hs 5 (by omega), hs 6 (by omega), hs 7 (by omega)]
  unfold turnS
  rw [e, hs i hi, rnds_congr 64 (wd_congr hb)]

def sl : List UInt32 := [0x6a09e667, 0xbb67ae85, 0x3c6ef372, 0xa54ff53a, 0x510e527f, 0x9b05688c, 0x1f83d9ab, 0x5be0cd19]
/-- The first state. -/
def start (i : Nat) : UInt32 := sl.getD i 0
/-- The state behind the first n blocks of a text. -/
def absb (l : List UInt8) : Nat → Nat → UInt32
  | 0 => start
  | n + 1 => turnS (absb l n) (fun j => l.getD (64 * n + j) 0)
theorem absb_congr {l m : List UInt8} : ∀ n, (∀ j, j < 64 * n → l.getD j 0 = m.getD j 0) → ∀ i, i < 8 → absb l n i = absb m n i
  | 0, _, _, _ => rfl
  | n + 1, h, i, hi => turnS_congr (absb_congr n fun j hj => h j (by omega)) (fun j hj => h _ (by omega)) i hi
theorem getD_left {l m : List UInt8} {j : Nat} (h : j < l.length) : (l ++ m).getD j 0 = l.getD j 0 := by
  simp only [List.getD_eq_getElem?_getD]
  rw [List.getElem?_append_left h]
theorem getD_right {l m : List UInt8} {j : Nat} : (l ++ m).getD (l.length + j) 0 = m.getD j 0 := by
  simp only [List.getD_eq_getElem?_getD]
  rw [List.getElem?_append_right (by omega), Nat.add_sub_cancel_left]
theorem absb_left {l m : List UInt8} {n : Nat} (h : 64 * n ≤ l.length) (i : Nat) (hi : i < 8) : absb (l ++ m) n i = absb l n i :=
  absb_congr n (fun _ hj => getD_left (by omega)) i hi

/-- The first k bytes of eight, the highest first. -/
def be8 (m : Nat) : Nat → List UInt8
  | 0 => []
  | k + 1 => be8 m k ++ [UInt8.ofNat (m / 2 ^ (56 - 8 * k))]
theorem be8_length (m : Nat) : ∀ k, (be8 m k).length = k
  | 0 => rfl
  | k + 1 => by simp [be8, be8_length m k]
/-- How many noughts fill a text of n bytes. -/
def noughts (n : Nat) : Nat := (64 - (n + 9) % 64) % 64
/-- What stands behind a text of n bytes when it is filled. -/
def tailS (n : Nat) : List UInt8 := 128 :: List.replicate (noughts n) 0 ++ be8 (n * 8) 8
def fillS (l : List UInt8) : List UInt8 := l ++ tailS l.length
theorem tailS_length (n : Nat) : (tailS n).length = noughts n + 9 := by
  simp [tailS, be8_length]
theorem noughts_le (n : Nat) : noughts n ≤ 63 := by unfold noughts; omega
theorem noughts_mod (n : Nat) : (n + (noughts n + 9)) % 64 = 0 := by unfold noughts; omega
theorem fillS_length (l : List UInt8) : (fillS l).length = l.length + (noughts l.length + 9) := by simp [fillS, tailS_length]
theorem fillS_mod (l : List UInt8) : (fillS l).length % 64 = 0 := by rw [fillS_length]; exact noughts_mod _
/-- The sum of a text. -/
def byteOf (x : UInt32) (j : Nat) : UInt8 := UInt8.ofNat (x.toNat / 2 ^ (24 - 8 * j))
def sumS (l : List UInt8) (i : Nat) : UInt8 := byteOf (absb (fillS l) ((fillS l).length / 64) (i / 4)) (i % 4)

/-- A digit, and a hash in digits. -/
def dgt (n : Nat) : UInt8 := if n < 10 then UInt8.ofNat (48 + n) else UInt8.ofNat (87 + n)
def hexS (h : Nat → UInt8) : Nat → List UInt8
  | 0 => []
  | n + 1 => hexS h n ++ [dgt ((h n).toNat / 16), dgt ((h n).toNat % 16)]
theorem hexS_length (h : Nat → UInt8) : ∀ n, (hexS h n).length = 2 * n
  | 0 => rfl
  | n + 1 => by
    simp [hexS, hexS_length h n]
    omega
theorem hexS_congr {h h' : Nat → UInt8} : ∀ n, (∀ i, i < n → h i = h' i) → hexS h n = hexS h' n
  | 0, _ => rfl
  | n + 1, e => by
    unfold hexS
    rw [e n (by omega), hexS_congr n (fun i hi => e i (by omega))]
end Go.Proofs.YtekfkfpfnhoblaaDoor

/-
  Words: what sha's small functions tell.
-/
namespace Go.Proofs.YtekfkfpfnhoblaaDoor
set_option maxRecDepth 20000
open Go.RowKit

theorem rot_and (n : Nat) (h0 : 1 ≤ n) (h1 : n ≤ 31) : bits BinOp.and IntKind.u64 (IntKind.u64.wrap (-(n : Int))) 31 = ((32 - n : Nat) : Int) := by
  have e : IntKind.u64.wrap (-(n : Int)) = ((18446744073709551616 - n : Nat) : Int) := by
    simp [IntKind.wrap, IntKind.signed, IntKind.bits]
    omega
  rw [e, show (31 : Int) = ((31 : Nat) : Int) from rfl, u64_and_nat _ _ (by omega) (by omega), nat_mask5]
  congr 1
  omega
theorem ret_u32 {a b : Int} (h : a = b) : Ending.returned (.int .u32 a) = Ending.returned (.int .u32 b) := by rw [h]
theorem wv_and (x y : UInt32) : bits BinOp.and IntKind.u32 (wv x) (wv y) = wv (x &&& y) := by
  have := x.toNat_lt
  have := y.toNat_lt
  unfold wv
  rw [u32_and_nat _ _ (by omega) (by omega), UInt32.toNat_and]
theorem wv_or (x y : UInt32) : bits BinOp.or IntKind.u32 (wv x) (wv y) = wv (x ||| y) := by
  have := x.toNat_lt
  have := y.toNat_lt
  unfold wv
  rw [u32_or_nat _ _ (by omega) (by omega), UInt32.toNat_or]
theorem wv_xor (x y : UInt32) : bits BinOp.xor IntKind.u32 (wv x) (wv y) = wv (x ^^^ y) := by
  have := x.toNat_lt
  have := y.toNat_lt
  unfold wv
  rw [u32_xor_nat _ _ (by omega) (by omega), UInt32.toNat_xor]
theorem wv_add (x y : UInt32) : (wv x + wv y) % 4294967296 = wv (x + y) := by
  unfold wv
  rw [UInt32.toNat_add]
  omega
theorem wv_not (x : UInt32) : 4294967295 - wv x = wv (~~~x) := by
  have := x.toNat_lt
  have e : UInt32.size = 4294967296 := rfl
  unfold wv
  rw [UInt32.toNat_not, e]
  omega
theorem wv_max (x : UInt32) : bits BinOp.xor IntKind.u32 IntKind.u32.max (wv x) = wv (~~~x) := by
  have e : IntKind.u32.max = wv 4294967295 := rfl
  rw [e, wv_xor]
  congr 1
theorem wv_of (n : Nat) (h : n < 4294967296) : wv (UInt32.ofNat n) = (n : Int) := by
  unfold wv
  rw [UInt32.toNat_ofNat', Nat.mod_eq_of_lt h]
theorem wv_sr (x : UInt32) (n : Nat) : wv x / 2 ^ n = wv (sr x n) := by
  have := x.toNat_lt
  have h := Nat.div_le_self x.toNat (2 ^ n)
  unfold sr
  rw [wv_of _ (by omega)]
  unfold wv
  simp
theorem rr_lt (x : UInt32) (n : Nat) (h0 : 1 ≤ n) (h1 : n ≤ 31) : x.toNat / 2 ^ n + x.toNat % 2 ^ n * 2 ^ (32 - n) < 4294967296 ∧ x.toNat / 2 ^ n < 2 ^ (32 - n) := by
  have hx := x.toNat_lt
  have e : (2 : Nat) ^ n * 2 ^ (32 - n) = 4294967296 := by rw [← Nat.pow_add, show n + (32 - n) = 32 from by omega]
  have hq : x.toNat / 2 ^ n < 2 ^ (32 - n) := (Nat.div_lt_iff_lt_mul (Nat.pow_pos (by omega))).2 (by rw [Nat.mul_comm, e]; omega)
  have hr := Nat.mod_lt x.toNat (Nat.pow_pos (n := n) (show 0 < 2 by omega))
  refine ⟨?_, hq⟩
  generalize x.toNat / 2 ^ n = q at *
  generalize x.toNat % 2 ^ n = r at *
  generalize (2 : Nat) ^ n = A at *
  generalize (2 : Nat) ^ (32 - n) = B at *
  have : (r + 1) * B ≤ A * B := Nat.mul_le_mul_right _ hr
  rw [Nat.add_mul] at this
  omega
theorem rot_eq (x : UInt32) (n : Nat) (h0 : 1 ≤ n) (h1 : n ≤ 31) : bits BinOp.or IntKind.u32 (wv x * 2 ^ (32 - n) % 4294967296) (wv x / 2 ^ (32 - (32 - n))) = wv (rr x n) := by
  obtain ⟨hlt, hq⟩ := rr_lt x n h0 h1
  unfold rr
  rw [wv_of _ hlt, show 32 - (32 - n) = n from by omega]
  unfold wv
  have e : (2 : Nat) ^ n * 2 ^ (32 - n) = 4294967296 := by rw [← Nat.pow_add, show n + (32 - n) = 32 from by omega]
  have hm : x.toNat * 2 ^ (32 - n) % 4294967296 = x.toNat % 2 ^ n * 2 ^ (32 - n) := by
    rw [← e, Nat.mul_mod_mul_right]
  have e1 : (x.toNat : Int) * 2 ^ (32 - n) % 4294967296 = ((x.toNat % 2 ^ n * 2 ^ (32 - n) : Nat) : Int) := by
    rw [← hm]
    simp
  have e2 : (x.toNat : Int) / 2 ^ n = ((x.toNat / 2 ^ n : Nat) : Int) := by simp
  rw [e1, e2, u32_or_nat _ _ (by omega) (by omega), nat_join (32 - n) _ _ (Nat.mul_mod_left _ _) hq, Nat.add_comm]

set_option maxHeartbeats 800000 in
theorem rotl_any (x : UInt32) (n : Nat) (h0 : 1 ≤ n) (h1 : n ≤ 31) (w : World) : Calls Tryd.prog 87 #[wc x, .int .i64 (-(n : Int))] w fun e w' => e = .returned (wc (rr x n)) ∧ w = w' := by
  have HS := rot_and n h0 h1
  obtain ⟨b0, b1⟩ := wv_lt x
  unfold wc
  go_enter Tryd.func87, Tryd.ntmps87
  go_wp2
  go_ret
  exact ⟨ret_u32 (rot_eq x n h0 h1), rfl⟩

theorem right_any (x : UInt32) (n : Nat) (h0 : 1 ≤ n) (h1 : n ≤ 31) (w : World) : Calls Tryd.prog 86 #[wc x, .int .i64 (n : Int)] w fun e w' => e = .returned (wc (rr x n)) ∧ w = w' := by
  have C := rotl_any x n h0 h1 w
  unfold wc at C ⊢
  go_enter Tryd.func86, Tryd.ntmps86
  go_wp2_with fail
  refine C.mono ?_
  rintro e w' ⟨rfl, rfl⟩
  go_wp2_with fail
  go_ret
  exact ⟨rfl, rfl⟩

theorem sm0_any (x : UInt32) (w : World) : Calls Tryd.prog 85 #[wc x] w fun e w' => e = .returned (wc (sm0 x)) ∧ w = w' := by
  have C1 := right_any x 7 (by omega) (by omega) w
  have C2 := right_any x 18 (by omega) (by omega) w
  obtain ⟨b0, b1⟩ := wv_lt x
  unfold wc at C1 C2 ⊢
  go_enter Tryd.func85, Tryd.ntmps85
  go_wp2_with fail
  refine C1.mono ?_
  rintro e w' ⟨rfl, rfl⟩
  go_wp2_with fail
  refine C2.mono ?_
  rintro e w' ⟨rfl, rfl⟩
  go_wp2_with fail
  go_ret
  refine ⟨ret_u32 ?_, rfl⟩
  rw [wv_xor, show wv x / 8 = wv (sr x 3) from wv_sr x 3, wv_xor]
  rfl
theorem sm1_any (x : UInt32) (w : World) : Calls Tryd.prog 84 #[wc x] w fun e w' => e = .returned (wc (sm1 x)) ∧ w = w' := by
  have C1 := right_any x 17 (by omega) (by omega) w
  have C2 := right_any x 19 (by omega) (by omega) w
  obtain ⟨b0, b1⟩ := wv_lt x
  unfold wc at C1 C2 ⊢
  go_enter Tryd.func84, Tryd.ntmps84
  go_wp2_with fail
  refine C1.mono ?_
  rintro e w' ⟨rfl, rfl⟩
  go_wp2_with fail
  refine C2.mono ?_
  rintro e w' ⟨rfl, rfl⟩
  go_wp2_with fail
  go_ret
  refine ⟨ret_u32 ?_, rfl⟩
  rw [wv_xor, show wv x / 1024 = wv (sr x 10) from wv_sr x 10, wv_xor]
  rfl
theorem bg0_any (x : UInt32) (w : World) : Calls Tryd.prog 80 #[wc x] w fun e w' => e = .returned (wc (bg0 x)) ∧ w = w' := by
  have C1 := right_any x 2 (by omega) (by omega) w
  have C2 := right_any x 13 (by omega) (by omega) w
  have C3 := right_any x 22 (by omega) (by omega) w
  unfold wc at C1 C2 C3 ⊢
  go_enter Tryd.func80, Tryd.ntmps80
  go_wp2_with fail
  refine C1.mono ?_
  rintro e w' ⟨rfl, rfl⟩
  go_wp2_with fail
  refine C2.mono ?_
  rintro e w' ⟨rfl, rfl⟩
  go_wp2_with fail
  refine C3.mono ?_
  rintro e w' ⟨rfl, rfl⟩
  go_wp2_with fail
  go_ret
  refine ⟨ret_u32 ?_, rfl⟩
  rw [wv_xor, wv_xor]
  rfl
theorem bg1_any (x : UInt32) (w : World) : Calls Tryd.prog 78 #[wc x] w fun e w' => e = .returned (wc (bg1 x)) ∧ w = w' := by
  have C1 := right_any x 6 (by omega) (by omega) w
  have C2 := right_any x 11 (by omega) (by omega) w
  have C3 := right_any x 25 (by omega) (by omega) w
  unfold wc at C1 C2 C3 ⊢
  go_enter Tryd.func78, Tryd.ntmps78
  go_wp2_with fail
  refine C1.mono ?_
  rintro e w' ⟨rfl, rfl⟩
  go_wp2_with fail
  refine C2.mono ?_
  rintro e w' ⟨rfl, rfl⟩
  go_wp2_with fail
  refine C3.mono ?_
  rintro e w' ⟨rfl, rfl⟩
  go_wp2_with fail
  go_ret
  refine ⟨ret_u32 ?_, rfl⟩
  rw [wv_xor, wv_xor]
  rfl
theorem chc_any (x y z : UInt32) (w : World) : Calls Tryd.prog 79 #[wc x, wc y, wc z] w fun e w' => e = .returned (wc (chc x y z)) ∧ w = w' := by
  obtain ⟨b0, b1⟩ := wv_lt x
  unfold wc
  go_enter Tryd.func79, Tryd.ntmps79
  go_wp2
  go_ret
  refine ⟨ret_u32 ?_, rfl⟩
  rw [wv_max, wv_and, wv_and, wv_or]
  rfl
theorem maj_any (x y z : UInt32) (w : World) : Calls Tryd.prog 81 #[wc x, wc y, wc z] w fun e w' => e = .returned (wc (maj x y z)) ∧ w = w' := by
  unfold wc
  go_enter Tryd.func81, Tryd.ntmps81
  go_wp2
  go_ret
  refine ⟨ret_u32 ?_, rfl⟩
  rw [wv_and, wv_and, wv_and, wv_or, wv_or]
  rfl
end Go.Proofs.YtekfkfpfnhoblaaDoor

/-
  sha.words gives the 64 words that a block makes.
-/
namespace Go.Proofs.YtekfkfpfnhoblaaDoor
set_option maxRecDepth 20000
open Go.RowKit

/-- The words that have been made behind i rounds. -/
def part (W : Nat → UInt32) (i j : Nat) : Value := if j < i then wc (W j) else wc 0

theorem part_set (W : Nat → UInt32) (i j : Nat) : (if j = i then wc (W i) else part W i j) = part W (i + 1) j := by
  unfold part
  by_cases h : j = i
  · subst h
    rw [if_pos rfl, if_pos (by omega)]
  · rw [if_neg h]
    by_cases h2 : j < i
    · rw [if_pos h2, if_pos (by omega)]
    · rw [if_neg h2, if_neg (by omega)]
theorem u32_wrap (n : Nat) (h : n < 4294967296) : IntKind.u32.wrap (n : Int) = (n : Int) := by
  rw [IntKind.wrap_u32']
  omega
theorem four_or (a b c d : UInt8) : bits BinOp.or IntKind.u32 (bits BinOp.or IntKind.u32 (bits BinOp.or IntKind.u32 (IntKind.u32.wrap (IntKind.u32.wrap (a.toNat : Int) * 16777216)) (IntKind.u32.wrap (IntKind.u32.wrap (b.toNat : Int) * 65536))) (IntKind.u32.wrap (IntKind.u32.wrap (c.toNat : Int) * 256))) (IntKind.u32.wrap (d.toNat : Int)) = wv (four a b c d) := by
  have ha := a.toNat_lt
  have hb := b.toNat_lt
  have hc := c.toNat_lt
  have hd := d.toNat_lt
  unfold four
  generalize a.toNat = A at *
  generalize b.toNat = B at *
  generalize c.toNat = C at *
  generalize d.toNat = D at *
  have e1 : IntKind.u32.wrap (IntKind.u32.wrap (A : Int) * 16777216) = ((A * 16777216 : Nat) : Int) := by rw [u32_wrap A (by omega), show (A : Int) * 16777216 = ((A * 16777216 : Nat) : Int) by omega, u32_wrap _ (by omega)]
  have e2 : IntKind.u32.wrap (IntKind.u32.wrap (B : Int) * 65536) = ((B * 65536 : Nat) : Int) := by rw [u32_wrap B (by omega), show (B : Int) * 65536 = ((B * 65536 : Nat) : Int) by omega, u32_wrap _ (by omega)]
  have e3 : IntKind.u32.wrap (IntKind.u32.wrap (C : Int) * 256) = ((C * 256 : Nat) : Int) := by rw [u32_wrap C (by omega), show (C : Int) * 256 = ((C * 256 : Nat) : Int) by omega, u32_wrap _ (by omega)]
  rw [e1, e2, e3, u32_wrap D (by omega), wv_of _ (by omega)]
  rw [u32_or_nat _ _ (by omega) (by omega), nat_join 24 _ _ (by omega) (by omega), u32_or_nat _ _ (by omega) (by omega), nat_join 16 _ _ (by omega) (by omega), u32_or_nat _ _ (by omega) (by omega), nat_join 8 _ _ (by omega) (by omega)]

theorem wv_sum4 (a b c d : UInt32) : (wv a + wv b + wv c + wv d) % 4294967296 = wv (a + b + c + d) := by
  rw [← wv_add (a + b + c) d, ← wv_add (a + b) c, ← wv_add a b]
  omega
theorem wv_wadd (x y : UInt32) : IntKind.u32.wrap (wv x + wv y) = wv (x + y) := by rw [IntKind.wrap_u32', wv_add]
theorem sm1_still (x : UInt32) (w : World) : Calls Tryd.prog 84 #[.int .u32 (wv x)] w fun e w' => e = .returned (.int .u32 (wv (sm1 x))) ∧ w' = w := (sm1_any x w).mono fun _ _ ⟨h, h2⟩ => ⟨h, h2.symm⟩
theorem sm0_still (x : UInt32) (w : World) : Calls Tryd.prog 85 #[.int .u32 (wv x)] w fun e w' => e = .returned (.int .u32 (wv (sm0 x))) ∧ w' = w := (sm0_any x w).mono fun _ _ ⟨h, h2⟩ => ⟨h, h2.symm⟩

set_option maxHeartbeats 1600000 in
theorem words_any (b : Nat → UInt8) (g : Nat) (t : TypeId) (w : World) (hg : Blk w g 64 (fun j => bcell (b j)) t) :
    Calls Tryd.prog 77 #[.pointer (some ⟨g, 0, none⟩)] w fun e w' => e = .returned (.agg (fcells 64 fun j => wc (wd b j))) ∧ Below w.heap.size w w' := by
  have hlt := hg.lt
  go_enter Tryd.func77, Tryd.ntmps77
  go_wp2_with (refine wpList_alloc_arr arrW rfl rfl ?_)
  have hG2 : Blk ((w.alloc (.cells (fcells 64 fun _ => wc 0) 103)).alloc (.cells (fcells 64 fun _ => wc 0) 103)) w.heap.size 64 (fun _ => wc 0) 103 := (Blk.new w 64 (fun _ => wc 0) 103).alloc _
  have hG3 : Blk ((w.alloc (.cells (fcells 64 fun _ => wc 0) 103)).alloc (.cells (fcells 64 fun _ => wc 0) 103)) (w.heap.size + 1) 64 (fun _ => wc 0) 103 := heap_alloc2_new w _ _
  have hbw0 : Below w.heap.size w ((w.alloc (.cells (fcells 64 fun _ => wc 0) 103)).alloc (.cells (fcells 64 fun _ => wc 0) 103)) := ((Below.refl _ _).alloc (Nat.le_refl _) _).alloc (by simp) _
  generalize ((w.alloc (.cells (fcells 64 fun _ => wc 0) 103)).alloc (.cells (fcells 64 fun _ => wc 0) 103)) = w0 at *
  go_wp2
  go_loopw [6] (fun si wr => ∃ i : Nat, i ≤ 16 ∧ si = .int .i64 i ∧ Below w.heap.size w wr ∧ Blk wr w.heap.size 64 (fun _ => wc 0) 103 ∧ Blk wr (w.heap.size + 1) 64 (part (wd b) i) 103) (fun si _ => 16 - (intOf si).toNat)
  case atStart => exact ⟨0, by omega, rfl, hbw0, hG2, hG3.congr fun i _ => by simp [part]⟩
  case round =>
    obtain ⟨i, hi, rfl, hbw, hA, hB⟩ := hrel
    by_cases hlt2 : i < 16
    · have hgr := hg.keep hbw
      obtain ⟨J, HJ⟩ : ∃ J : Nat, Hid (4 * i = J) := ⟨_, hid rfl⟩
      have hJ : J + 3 < 64 := by have := HJ.out; omega
      have c0 := hgr.cell (i := J) (by omega)
      have c1 := hgr.cell (i := J + 1) (by omega)
      have c2 := hgr.cell (i := J + 2) (by omega)
      have c3 := hgr.cell (i := J + 3) (by omega)
      have q0 : IntKind.i64.wrap (4 * (i : Int)) = (J : Int) := by rw [IntWalk.i64_in _ (by omega)]; have := HJ.out; omega
      have q1 : IntKind.i64.wrap ((J : Int) + 1) = (J : Int) + 1 := IntWalk.i64_in _ (by omega)
      have q2 : IntKind.i64.wrap ((J : Int) + 2) = (J : Int) + 2 := IntWalk.i64_in _ (by omega)
      have q3 : IntKind.i64.wrap ((J : Int) + 3) = (J : Int) + 3 := IntWalk.i64_in _ (by omega)
      have r1 : ((J : Int) + 1).toNat = J + 1 := by omega
      have r2 : ((J : Int) + 2).toNat = J + 2 := by omega
      have r3 : ((J : Int) + 3).toNat = J + 3 := by omega
      have s0 : (J : Int) < 64 := by omega
      have s1 : (J : Int) + 1 < 64 := by omega
      have s2 : (J : Int) + 2 < 64 := by omega
      have s3 : (J : Int) + 3 < 64 := by omega
      have u1 : 0 ≤ (J : Int) + 1 := by omega
      have u2 : 0 ≤ (J : Int) + 2 := by omega
      have u3 : 0 ≤ (J : Int) + 3 := by omega
      unfold bcell at c0 c1 c2 c3
      have k3 := hB.cell (i := i) (by omega)
      have f3 := hB.free i
      have hi16 : (i : Int) < 16 := by omega
      go_wp2_with fail
      go_still_tail 38, (by kernel_rfl)
      rw [four_or]
      change wpList _ _ _ _ _ wr.drew
      clear q0 q1 q2 q3 r1 r2 r3
      go_wp2_with fail
      go_roundw
      case rel =>
        refine ⟨i + 1, by omega, by go_num, (hbw.drew).setCell (by simp) _, hA.drew.apart _ _ (by simp), ((hB.drew).set (i := i) (by omega) _).congr fun j _ => ?_⟩
        rw [← part_set, wd_low b hlt2]
        unfold wordB
        rw [HJ.out]
        rfl
      case measure => simp [intOf]; omega
    · have HB16 : Hid (Blk wr (w.heap.size + 1) 64 (part (wd b) 16) 103) := by
        have e : i = 16 := by omega
        rw [← e]
        exact hid hB
      obtain ⟨m, rfl⟩ : ∃ m : Nat, i = m := ⟨i, rfl⟩
      go_wp2_with fail
      go_loopw [5] (fun si wr => ∃ i : Nat, 16 ≤ i ∧ i ≤ 64 ∧ si = .int .i64 i ∧ Below w.heap.size w wr ∧ Blk wr w.heap.size 64 (fun _ => wc 0) 103 ∧ Blk wr (w.heap.size + 1) 64 (part (wd b) i) 103) (fun si _ => 64 - (intOf si).toNat)
      case atStart => exact ⟨16, by omega, by omega, rfl, hbw, hA, HB16.out⟩
      case round =>
        clear hA hB hbw HB16
        obtain ⟨i, hi0, hi, rfl, hbw, hA, hB⟩ := hrel
        by_cases hlt2 : i < 64
        · obtain ⟨a2, H2⟩ : ∃ a2 : Nat, Hid (a2 + 2 = i) := ⟨i - 2, hid (by omega)⟩
          obtain ⟨a7, H7⟩ : ∃ a7 : Nat, Hid (a7 + 7 = i) := ⟨i - 7, hid (by omega)⟩
          obtain ⟨a15, H15⟩ : ∃ a15 : Nat, Hid (a15 + 15 = i) := ⟨i - 15, hid (by omega)⟩
          obtain ⟨a16, H16⟩ : ∃ a16 : Nat, Hid (a16 + 16 = i) := ⟨i - 16, hid (by omega)⟩
          have b2 : a2 < 64 := by have := H2.out; omega
          have b7 : a7 < 64 := by have := H7.out; omega
          have b15 : a15 < 64 := by have := H15.out; omega
          have b16 : a16 < 64 := by have := H16.out; omega
          have q2 : IntKind.i64.wrap ((i : Int) - 2) = (a2 : Int) := by rw [IntWalk.i64_in _ (by omega)]; have := H2.out; omega
          have q7 : IntKind.i64.wrap ((i : Int) - 7) = (a7 : Int) := by rw [IntWalk.i64_in _ (by omega)]; have := H7.out; omega
          have q15 : IntKind.i64.wrap ((i : Int) - 15) = (a15 : Int) := by rw [IntWalk.i64_in _ (by omega)]; have := H15.out; omega
          have q16 : IntKind.i64.wrap ((i : Int) - 16) = (a16 : Int) := by rw [IntWalk.i64_in _ (by omega)]; have := H16.out; omega
          have c2 := hB.cell (i := a2) (by omega)
          have c7 := hB.cell (i := a7) (by omega)
          have c15 := hB.cell (i := a15) (by omega)
          have c16 := hB.cell (i := a16) (by omega)
          have e2 : part (wd b) i a2 = .int .u32 (wv (wd b a2)) := if_pos (by have := H2.out; omega)
          have e7 : part (wd b) i a7 = .int .u32 (wv (wd b a7)) := if_pos (by have := H7.out; omega)
          have e15 : part (wd b) i a15 = .int .u32 (wv (wd b a15)) := if_pos (by have := H15.out; omega)
          have e16 : part (wd b) i a16 = .int .u32 (wv (wd b a16)) := if_pos (by have := H16.out; omega)
          rw [e2] at c2
          rw [e7] at c7
          rw [e15] at c15
          rw [e16] at c16
          have k3 := hB.cell (i := i) (by omega)
          have f3 := hB.free i
          have hi64 : (i : Int) < 64 := by omega
          have l2 : (a2 : Int) < 64 := by omega
          have l7 : (a7 : Int) < 64 := by omega
          have l15 : (a15 : Int) < 64 := by omega
          have l16 : (a16 : Int) < 64 := by omega
          clear e2 e7 e15 e16
          go_wp2_with fail
          refine wp_region_still_tail 22 (by kernel_rfl) (by kernel_rfl) ?_
          simp only [List.take_succ_cons, List.take_zero, List.drop_succ_cons, List.drop_zero]
          repeat still_step
          still_call (sm1_still _ _)
          repeat still_step
          still_call (sm0_still _ _)
          repeat still_step
          refine wpStill_nil ?_
          change wpList _ _ _ _ _ wr.drew
          clear q2 q7 q15 q16
          go_wp2_with fail
          go_roundw
          case rel =>
            refine ⟨i + 1, by omega, by omega, by go_num, (hbw.drew).setCell (by simp) _, hA.drew.apart _ _ (by simp), ((hB.drew).set (i := i) (by omega) _).congr fun j _ => ?_⟩
            rw [← part_set, wd_high b hi0 hlt2, show i - 2 = a2 from by have := H2.out; omega, show i - 7 = a7 from by have := H7.out; omega, show i - 15 = a15 from by have := H15.out; omega, show i - 16 = a16 from by have := H16.out; omega]
            rw [wv_sum4]
            rfl
          case measure => simp [intOf]; omega
        · obtain rfl : i = 64 := by omega
          have hB2 : Blk wr (w.heap.size + 1) 64 (fun j => wc (wd b j)) 103 := hB.congr fun j hj => if_pos hj
          go_wp2_with (first
            | (refine wpList_load_arr arrW rfl _ rfl rfl hB2 ?_)
            | (refine wpList_store_arr arrW rfl _ _ rfl rfl rfl hA (fun _ _ => rfl) ?_; intro w9 hg9 hA9 hs9))
          refine bodyPost_ret (arrW.result rfl _ _ rfl hA9) rfl ⟨rfl, ?_⟩
          exact below_into hbw (g := w.heap.size) (Nat.le_refl _) hg9 hbw.size
end Go.Proofs.YtekfkfpfnhoblaaDoor
