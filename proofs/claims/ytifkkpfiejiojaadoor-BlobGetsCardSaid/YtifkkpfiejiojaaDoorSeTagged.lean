/-
  The document's answer for what is tagged of a version and a seal: tithingref13.Tagged. Printed with gense.py.
-/
import Derived.Test.YtifkkpfiejiojaaDoorSeMay
namespace Go.Proofs.YtifkkpfiejiojaaDoor
set_option maxRecDepth 20000
open Go.RowKit
attribute [local go_sem ↓] exec_load_hash
set_option maxHeartbeats 6400000 in
theorem refTagged13_any (n : Int) (s : SeM) (w : World) (ho : s.Ok) (hn : versB n = true) (hm : mayS s = true) :
    Calls Tryd.prog 27 #[.int .i64 n, .agg (sec s)] w fun e w' => ∃ x, e = .returned x ∧ Own w.heap.size w' x (taggedS n s) ∧ Below w.heap.size w w' := by
  obtain ⟨h1, h2, h3, h4, h5, h6⟩ := mayS_iff hm
  unfold versB at hn
  rw [decide_eq_true_eq] at hn
  have hb0 : Below w.heap.size w (w.alloc (.cells (sec s) 25)) := (Below.refl _ _).alloc (Nat.le_refl _) _
  have hA := BoxSe.new w s
  obtain ⟨C, HC⟩ : ∃ C : Array Value, Hid (sec s = C) := ⟨_, hid rfl⟩
  obtain ⟨O, HO⟩ : ∃ O : List UInt8, Hid (taggedS n s = O) := ⟨_, hid rfl⟩
  rw [HC.out] at hb0 hA ⊢
  rw [HO.out]
  have HA := hid hA
  have hlA := hA.lt
  have hpl : s.pa.length = 32 := ho
  have HPL := hid hpl
  clear hA hpl ho HC hm
  obtain ⟨vi, ph, pv, pa⟩ := s
  simp only at h1 h2 h3 h4 h5 h6 HPL
  obtain ⟨z, rfl⟩ := nat_of (i := n) (by omega)
  obtain ⟨v, rfl⟩ := nat_of (i := vi) (by omega)
  obtain ⟨p, rfl⟩ := nat_of (i := ph) (by omega)
  obtain ⟨q, rfl⟩ := nat_of (i := pv) (by omega)
  have hp1 : IntKind.u8.wrap (p : Int) = (p : Int) := by rw [IntKind.wrap_u8']; omega
  have hz1 : IntKind.u64.wrap (z : Int) = (z : Int) := wrap_u64 _ (by omega) (by omega)
  have hv1 : IntKind.u64.wrap (v : Int) = (v : Int) := wrap_u64 _ (by omega) (by omega)
  have hq1 : IntKind.u64.wrap (q : Int) = (q : Int) := wrap_u64 _ (by omega) (by omega)
  have HNZ := hid (fun w => refnum_any (z : Int) w (by omega) (by omega))
  have HNV := hid (fun w => refnum_any (v : Int) w (by omega) (by omega))
  have HNQ := hid (fun w => refnum_any (q : Int) w (by omega) (by omega))
  rw [Int.toNat_natCast] at HNZ HNV HNQ
  have HLZ := hid (dg_len10 (n := z) (by omega))
  have HLV := hid (dg_len10 (n := v) (by omega))
  have HLQ := hid (dg_len10 (n := q) (by omega))
  have HDP : Hid (dg p = [UInt8.ofNat p]) := hid (dg_small (by omega))
  have HYP := hid (fun w => one_own w p (by omega))
  have HBP := hid (fun w => refBytes7_any pa w HPL.out)
  have HO2 : Hid (O = dg z ++ (dg v ++ (dg p ++ (dg q ++ pa)))) := hid (by rw [← HO.out]; unfold taggedS; simp only [Int.toNat_natCast])
  clear h1 h2 h3 h4 h5 h6 hn HO
  go_enter Tryd.func27, Tryd.ntmps27
  go_upto_region 1 with (fail)
  generalize (w.alloc (.cells C 25)) = w0 at *
  have HX : Hid (∀ W : World, Below w0.heap.size w0 W → W.cell? ⟨w.heap.size, 0, none⟩ = some (.int .i64 (v : Int)) ∧ W.cell? ⟨w.heap.size, 1, none⟩ = some (.int .i64 (p : Int)) ∧ W.cell? ⟨w.heap.size, 2, none⟩ = some (.int .i64 (q : Int)) ∧ W.rangeAt w.heap.size 3 (bcells pa)) := hid (fun W h => by
    have hW := HA.out.below h hlA
    exact ⟨hW.cells.1, hW.cells.2.1, hW.cells.2.2, hW.hash⟩)
  have hbd : Below w0.heap.size w0 w0.drew := (Below.refl _ _).drew
  have hs0 := hb0.size
  have HB0 := hid hb0
  clear HA hlA hb0
  refine wp_region_held_drew (S := fun W => W.cell? ⟨w.heap.size, 0, none⟩ = some (.int .i64 (v : Int)) ∧ W.cell? ⟨w.heap.size, 1, none⟩ = some (.int .i64 (p : Int)) ∧ W.cell? ⟨w.heap.size, 2, none⟩ = some (.int .i64 (q : Int)) ∧ W.rangeAt w.heap.size 3 (bcells pa)) (by kernel_rfl) (HX.out _ hbd) (fun hHeld => ?_)
  refine' tk (i := 0) (v := _) rfl ?_ ?_
  rotate_left
  · (intro W hW; (try dsimp only at hW); go_simp; first | done | with_reducible rfl)
  try simp only [lay]
  refine' tk (i := 1) (v := _) rfl ?_ ?_
  rotate_left
  · (intro W hW; (try dsimp only at hW); go_simp; first | done | with_reducible rfl)
  try simp only [lay]
  refine' tk (i := 3) (v := _) rfl ?_ ?_
  rotate_left
  · (intro W hW; (try dsimp only at hW); go_simp; first | done | with_reducible rfl)
  try simp only [lay]
  refine' tk (i := 4) (v := _) rfl ?_ ?_
  rotate_left
  · (intro W hW; (try dsimp only at hW); have hW1 := hW.1; have hW2 := hW.2.1; have hW3 := hW.2.2.1; clear hW; go_simp; first | done | with_reducible rfl)
  try simp only [lay]
  refine' tk (i := 5) (v := _) rfl ?_ ?_
  rotate_left
  · (intro W hW; (try dsimp only at hW); go_simp; first | done | with_reducible rfl)
  try simp only [lay]
  refine call_on (i := 2) rfl (by kernel_rfl) (by rfl) (fun K hK => ?_)
  go_simp
  refine (HNZ.out w0.drew).mono ?_
  rintro e w1 ⟨v1, rfl, ho1, hb1'⟩
  have hb1 := hbd.trans hb1'
  refine hK.out _ _ (HX.out _ hb1) (fun hHeld => ?_)
  clear hK K
  try simp only [lay]
  refine call_on (i := 6) rfl (by kernel_rfl) (by rfl) (fun K hK => ?_)
  go_simp
  refine (HNV.out w1).mono ?_
  rintro e w2 ⟨v2, rfl, ho2, hb2'⟩
  have hb2 := hb1.trans (hb2'.mono hb1.size)
  refine hK.out _ _ (HX.out _ hb2) (fun hHeld => ?_)
  clear hK K
  try simp only [lay]
  refine call_on (i := 7) rfl (by kernel_rfl) (by rfl) (fun K hK => ?_)
  refine wp_append_byt (.tmp 8) (.tmp 12) rfl rfl rfl (ho1.below hb2') ho2.byt (by have := HLZ.out; have := HLV.out; omega) hb2.size ?_
  intro v3 w3 ho3 hg3 _
  have hb3 := hb2.grown hg3 hb2.size (fun q hq => (World.ownsRow.lt (ho1.below hb2') q hq).1)
  refine hK.out _ _ (HX.out _ hb3) (fun hHeld => ?_)
  clear hK K
  try simp only [lay]
  refine' tk (i := 8) (v := _) rfl ?_ ?_
  rotate_left
  · (intro W hW; (try dsimp only at hW); go_simp; first | done | with_reducible rfl)
  try simp only [lay]
  refine wpAnyH_done (by kernel_rfl) ?_ _
  obtain ⟨T1, HT1⟩ : ∃ O : List UInt8, Hid (dg z ++ dg v = O) := ⟨_, hid rfl⟩
  have HT1L : Hid (T1.length ≤ 20) := hid (by rw [← HT1.out, List.length_append]; have := HLZ.out; have := HLV.out; omega)
  have ho4 : Own w0.heap.size w3 v3 T1 := by rw [← HT1.out]; exact ho3
  clear hHeld ho1 ho2 ho3 hb1 hb1' hb2 hb2' hg3 hz1 hv1 hbd
  go_upto_region 2 with (fail)
  have hbd : Below w0.heap.size w0 w3.drew := hb3.drew
  have hbA : Below w0.heap.size w0 (w3.drew.alloc (.cells #[.int .u8 (p : Int)] 5)) := hbd.alloc hbd.size _
  have hy5 : Byt (w3.drew.alloc (.cells #[.int .u8 (p : Int)] 5)) (.slice (some ⟨w3.heap.size, 0, none⟩) 1 1) [UInt8.ofNat p] := (HYP.out w3.drew).byt
  have ho5 : Own w0.heap.size (w3.drew.alloc (.cells #[.int .u8 (p : Int)] 5)) v3 T1 := (ho4.drewN 1).alloc _
  refine wp_region_held_drew (S := fun W => W.cell? ⟨w.heap.size, 0, none⟩ = some (.int .i64 (v : Int)) ∧ W.cell? ⟨w.heap.size, 1, none⟩ = some (.int .i64 (p : Int)) ∧ W.cell? ⟨w.heap.size, 2, none⟩ = some (.int .i64 (q : Int)) ∧ W.rangeAt w.heap.size 3 (bcells pa)) (by kernel_rfl) (HX.out _ hbd) (fun hHeld => ?_)
  refine' tk (i := 0) (v := _) rfl ?_ ?_
  rotate_left
  · (intro W hW; (try dsimp only at hW); go_simp; first | done | with_reducible rfl)
  try simp only [lay]
  refine' tk (i := 1) (v := _) rfl ?_ ?_
  rotate_left
  · (intro W hW; (try dsimp only at hW); go_simp; first | done | with_reducible rfl)
  try simp only [lay]
  refine' tk (i := 2) (v := _) rfl ?_ ?_
  rotate_left
  · (intro W hW; (try dsimp only at hW); have hW1 := hW.1; have hW2 := hW.2.1; have hW3 := hW.2.2.1; clear hW; go_simp; first | done | with_reducible rfl)
  try simp only [lay]
  refine' tk (i := 3) (v := _) rfl ?_ ?_
  rotate_left
  · (intro W hW; (try dsimp only at hW); go_simp; first | done | with_reducible rfl)
  try simp only [lay]
  refine' tk (i := 6) (v := _) rfl ?_ ?_
  rotate_left
  · (intro W hW; (try dsimp only at hW); go_simp; first | done | with_reducible rfl)
  try simp only [lay]
  refine' tk (i := 7) (v := _) rfl ?_ ?_
  rotate_left
  · (intro W hW; (try dsimp only at hW); have hW1 := hW.1; have hW2 := hW.2.1; have hW3 := hW.2.2.1; clear hW; go_simp; first | done | with_reducible rfl)
  try simp only [lay]
  refine' tk (i := 8) (v := _) rfl ?_ ?_
  rotate_left
  · (intro W hW; (try dsimp only at hW); go_simp; first | done | with_reducible rfl)
  try simp only [lay]
  refine call_on (i := 4) rfl (by kernel_rfl) (by rfl) (fun K hK => ?_)
  go_simp
  refine hK.out _ _ (HX.out _ hbA) (fun hHeld => ?_)
  clear hK K
  try simp only [lay]
  refine call_on (i := 5) rfl (by kernel_rfl) (by rfl) (fun K hK => ?_)
  refine wp_append_byt (.tmp 14) (.tmp 18) rfl rfl rfl ho5 hy5 (by have := HT1L.out; simp only [List.length_cons, List.length_nil]; omega) hbA.size ?_
  intro v6 w6 ho6 hg6 _
  have hb6 := hbA.grown hg6 hbA.size (fun q hq => (World.ownsRow.lt ho5 q hq).1)
  refine hK.out _ _ (HX.out _ hb6) (fun hHeld => ?_)
  clear hK K
  try simp only [lay]
  refine call_on (i := 9) rfl (by kernel_rfl) (by rfl) (fun K hK => ?_)
  go_simp
  refine (HNQ.out w6).mono ?_
  rintro e w7 ⟨v7, rfl, ho7, hb7'⟩
  have hb7 := hb6.trans (hb7'.mono hb6.size)
  refine hK.out _ _ (HX.out _ hb7) (fun hHeld => ?_)
  clear hK K
  try simp only [lay]
  refine call_on (i := 10) rfl (by kernel_rfl) (by rfl) (fun K hK => ?_)
  refine wp_append_byt (.tmp 19) (.tmp 23) rfl rfl rfl (ho6.below hb7') ho7.byt (by rw [List.length_append]; have := HT1L.out; have := HLQ.out; simp only [List.length_cons, List.length_nil]; omega) hb7.size ?_
  intro v8 w8 ho8 hg8 _
  have hb8 := hb7.grown hg8 hb7.size (fun q hq => (World.ownsRow.lt (ho6.below hb7') q hq).1)
  refine hK.out _ _ (HX.out _ hb8) (fun hHeld => ?_)
  clear hK K
  try simp only [lay]
  refine' tk (i := 11) (v := _) rfl ?_ ?_
  rotate_left
  · (intro W hW; (try dsimp only at hW); go_simp; first | done | with_reducible rfl)
  try simp only [lay]
  refine wpAnyH_done (by kernel_rfl) ?_ _
  obtain ⟨T2, HT2⟩ : ∃ O : List UInt8, Hid (T1 ++ [UInt8.ofNat p] ++ dg q = O) := ⟨_, hid rfl⟩
  have HT2L : Hid (T2.length ≤ 40) := hid (by rw [← HT2.out]; simp only [List.length_append, List.length_cons, List.length_nil]; have := HT1L.out; have := HLQ.out; omega)
  have ho9 : Own w0.heap.size w8 v8 T2 := by rw [← HT2.out]; exact ho8
  have l9 := loadH_mid (HX.out _ hb8).2.2.2 HPL.out
  clear hHeld ho4 ho5 hy5 ho6 ho7 ho8 hb3 hbd hbA hb6 hb7 hb7' hg6 hg8
  go_wp2_with fail
  refine (HBP.out w8).mono ?_
  rintro e w10 ⟨v10, rfl, ho10, hb10'⟩
  have hb10 := hb8.trans (hb10'.mono hb8.size)
  have ho11 := ho9.below hb10'
  have hl11 : T2.length + pa.length ≤ 140737488355328 := by have := HT2L.out; have := HPL.out; omega
  clear l9
  go_wp2_with (at_builtin; refine wpList_append_byt rfl (.tmp 25) (.tmp 28) rfl rfl rfl ho11 ho10.byt hl11 hb10.size ?_; intro v12 w12 ho12 hg12 hv12; have hb12 := hb10.grown hg12 hb10.size (fun q hq => (World.ownsRow.lt ho11 q hq).1); clear hg12 hv12)
  go_ret
  refine ⟨v12, rfl, ?_, HB0.out.trans (hb12.mono hs0)⟩
  have e : T2 ++ pa = O := by
    rw [HO2.out, ← HT2.out, ← HT1.out, HDP.out]
    simp only [List.append_assoc]
  rw [e] at ho12
  exact ho12.more hs0
end Go.Proofs.YtifkkpfiejiojaaDoor
