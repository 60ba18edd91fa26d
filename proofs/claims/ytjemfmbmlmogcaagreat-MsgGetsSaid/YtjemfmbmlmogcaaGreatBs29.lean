/-
  MgCodeBare MgCodeFits: what each of them says stands at its head.
-/
import Derived.BigQuiet
import Derived.Deep.DeepCutAuto
import Derived.Deep.QuietTactic
import Derived.Outline
import Derived.Test.YtjemfmbmlmogcaaGreatBs27
import Derived.Test.YtjemfmbmlmogcaaGreatBs25
import Derived.Deep.RegionHeld3
import Derived.Deep.RegionWith
import Derived.LaidMore
import Derived.Laws.IdiomCopy
import Derived.Lib.LaidTab
import Derived.LoopTactic
import Derived.MakeChecks
import Derived.OpenShut
import Derived.StillTailTactics
import Derived.Stop.Joined
import Derived.Stop.LaidErr
import Derived.Test.YtjemfmbmlmogcaaGreatBs22
import Derived.Test.YtjemfmbmlmogcaaGreatBs23
import Derived.Test.YtjemfmbmlmogcaaGreatBs24
import Derived.Test.YtjemfmbmlmogcaaGreatBs2
import Derived.Test.YtjemfmbmlmogcaaGreatBs12
import Derived.Test.YtjemfmbmlmogcaaGreatBs13
import Derived.Test.YtjemfmbmlmogcaaGreatBs14
import Derived.Test.YtjemfmbmlmogcaaGreatBs6
import Derived.Test.YtjemfmbmlmogcaaGreatBs11
import Derived.Test.YtjemfmbmlmogcaaGreatBs10
import Derived.Test.YtjemfmbmlmogcaaGreatBs8
import Derived.Test.YtjemfmbmlmogcaaGreatBs7
import Derived.Test.YtjemfmbmlmogcaaGreatBs9
import Derived.Test.YtjemfmbmlmogcaaGreatBs18
import Derived.Test.YtjemfmbmlmogcaaGreatBs19
import Derived.Test.YtjemfmbmlmogcaaGreatBs20
import Derived.Test.YtjemfmbmlmogcaaGreatBs3
import Derived.Test.YtjemfmbmlmogcaaGreatBs1
import Derived.Test.YtjemfmbmlmogcaaGreatBs5
namespace Go.Proofs.YtjemfmbmlmogcaaGreat
set_option maxRecDepth 20000
open Go.RowKit
attribute [local go_sem ↓] exec_load_att exec_load_ct exec_load_ax exec_load_bk exec_load_tx exec_load_hash exec_load_mg exec_alloc_mg exec_store_mg exec_build_mg3
def partM (m : MgM) : MgM :=
  if isA m.ki then { bareM m with aa := m.aa } else if m.ki = 2 then { bareM m with kk := m.kk, xx := m.xx } else if isC m.ki then { bareM m with cc := m.cc } else if m.ki = 7 then { bareM m with hh := m.hh }
  else if m.ki = 8 then { bareM m with kk := m.kk } else if m.ki = 9 then { bareM m with tt := m.tt } else if m.ki = 10 then { bareM m with xx := m.xx } else bareM m
theorem part_clear (m : MgM) : sameM m (partM m) = sameM (clearM m) (bareM m) := by
  rw [Bool.eq_iff_iff, sameM_iff, sameM_iff]
  obtain ⟨a1, a2, a3, a4, a5, a6, a7, a8, a9⟩ := m
  unfold partM clearM
  simp only
  repeat' split
  all_goals
    simp only [bareM, mgZ, MgM.mk.injEq, true_and, and_true]
    try (constructor <;> (intro h; simp only [h, and_self]))
theorem partM_ok {m : MgM} (h : m.Ok) : (partM m).Ok := by
  unfold partM
  have hb := bareM_ok m
  repeat' split
  · exact ⟨h.aa, hb.cc, hb.xx, hb.kk, hb.hh⟩
  · exact ⟨hb.aa, hb.cc, h.xx, h.kk, hb.hh⟩
  · exact ⟨hb.aa, h.cc, hb.xx, hb.kk, hb.hh⟩
  · exact ⟨hb.aa, hb.cc, hb.xx, hb.kk, h.hh⟩
  · exact ⟨hb.aa, hb.cc, hb.xx, h.kk, hb.hh⟩
  · exact ⟨hb.aa, hb.cc, hb.xx, hb.kk, hb.hh⟩
  · exact ⟨hb.aa, hb.cc, h.xx, hb.kk, hb.hh⟩
  · exact hb
theorem part_aa {m : MgM} (h : isA m.ki) : partM m = { bareM m with aa := m.aa } := by unfold partM; rw [if_pos h]
theorem part_cc {m : MgM} (h : isC m.ki) : partM m = { bareM m with cc := m.cc } := by unfold partM; rw [if_neg (by unfold isC at h; unfold isA; omega), if_neg (by unfold isC at h; omega), if_pos h]
theorem part_hh {m : MgM} (h : m.ki = 7) : partM m = { bareM m with hh := m.hh } := by unfold partM; rw [if_neg (by unfold isA; omega), if_neg (by omega), if_neg (by unfold isC; omega), if_pos h]
theorem part_kk {m : MgM} (h : m.ki = 8) : partM m = { bareM m with kk := m.kk } := by unfold partM; rw [if_neg (by unfold isA; omega), if_neg (by omega), if_neg (by unfold isC; omega), if_neg (by omega), if_pos h]
theorem part_tt {m : MgM} (h : m.ki = 9) : partM m = { bareM m with tt := m.tt } := by unfold partM; rw [if_neg (by unfold isA; omega), if_neg (by omega), if_neg (by unfold isC; omega), if_neg (by omega), if_neg (by omega), if_pos h]
theorem part_xx {m : MgM} (h : m.ki = 10) : partM m = { bareM m with xx := m.xx } := by unfold partM; rw [if_neg (by unfold isA; omega), if_neg (by omega), if_neg (by unfold isC; omega), if_neg (by omega), if_neg (by omega), if_neg (by omega), if_pos h]
theorem part_ka {m : MgM} (h : m.ki = 2) : partM m = { bareM m with kk := m.kk, xx := m.xx } := by unfold partM; rw [if_neg (by unfold isA; omega), if_pos h]
theorem heap3 (w : World) (a b c : Obj) : (((w.alloc a).alloc b).alloc c).heap[w.heap.size]? = some a ∧ (((w.alloc a).alloc b).alloc c).heap[w.heap.size + 1]? = some b ∧ (((w.alloc a).alloc b).alloc c).heap[w.heap.size + 1 + 1]? = some c := by
  refine ⟨(Below.heap_alloc _ _ _ (by simp; omega)).trans (heap1 w _ _), (Below.heap_alloc _ _ _ (by simp)).trans (heap2 w _ _), ?_⟩
  have := heap_alloc_new ((w.alloc a).alloc b) c
  rwa [show ((w.alloc a).alloc b).heap.size = w.heap.size + 1 + 1 from by simp] at this
set_option maxHeartbeats 6400000 in
theorem mgBare_any (v : Value) (m : MgM) (w : World) (hv : MgV w v m) (hk : 1 ≤ m.ki ∧ m.ki ≤ 10) :
    Calls Tryz.prog 28 #[v, .agg (ptc m.ki)] w fun e w' => ∃ x, e = .returned x ∧ MgV w' x (partM m) ∧ Below w.heap.size w w' := by
  obtain ⟨s1, s2, s3, rfl, ho, e1, e2, e3⟩ := hv
  have HO := hid ho
  have HE := hid (fun W (h : Below w.heap.size w W) => (show Els scl 33 W s1 m.cc.sg ∧ Els icl 1 W s2 m.xx.fr ∧ Txs W s3 m.kk.txs from ⟨e1.below h, e2.below h, e3.below h⟩))
  obtain ⟨CM, HCM⟩ : ∃ C : Array Value, Hid (mgc m s1 s2 s3 = C) := ⟨_, hid rfl⟩
  have HCS : Hid (CM.size = 349) := hid (by rw [← HCM.out]; exact mgc_size _ _ _ ho)
  have HBX : Hid (∀ W g, W.heap[g]? = some (.cells CM 38 (0, 0)) → BoxM W g m s1 s2 s3) := hid (fun W g h => by rw [← HCM.out] at h; exact h)
  rw [HCM.out]
  obtain ⟨Z, HZ⟩ : ∃ C : Array Value, Hid (mgc mgZ (.slice none 0 0) (.slice none 0 0) (.slice none 0 0) = C) := ⟨_, hid rfl⟩
  have HZS : Hid (Z.size = 349) := hid (by rw [← HZ.out]; exact mgc_size _ _ _ mgZ_ok)
  have hal : ∀ W, allocMg W = .ok (.value (.pointer (some ⟨W.heap.size, 0, none⟩))) (W.alloc (.cells Z 38)) := fun W => by rw [← HZ.out]; exact allocMg_eq W
  obtain ⟨P, HPC⟩ : ∃ C : Array Value, Hid (ptc m.ki = C) := ⟨_, hid rfl⟩
  rw [HPC.out]
  obtain ⟨h0, h1, h2⟩ := heap3 w (.cells CM 38) (.cells P 61) (.cells Z 38)
  have hb0 : Below w.heap.size w (((w.alloc (.cells CM 38)).alloc (.cells P 61)).alloc (.cells Z 38)) := (((Below.refl _ _).alloc (Nat.le_refl _) _).alloc (by simp) _).alloc (by simp; omega) _
  have hsz : ((w.alloc (.cells CM 38)).alloc (.cells P 61)).heap.size = w.heap.size + 1 + 1 := by simp
  have HAL := hid hal
  have HK := hid hk
  clear ho e1 e2 e3 hk
  go_enter Tryz.func28, Tryz.ntmps28
  go_upto_region 1 with (fail)
  try rw [hsz]
  generalize (((w.alloc (.cells CM 38)).alloc (.cells P 61)).alloc (.cells Z 38)) = w0 at *
  clear hal hsz
  have HB0 := hid hb0
  have HH := hid (And.intro h0 (And.intro h1 h2))
  have hl2 := lt_of_block h2
  obtain ⟨a0, a1, a2⟩ := (HBX.out w0 _ h0).ints
  obtain ⟨kn, HKN⟩ : ∃ n : Int, Hid (m.ki = n) := ⟨_, hid rfl⟩
  obtain ⟨fn, HFN⟩ : ∃ n : Int, Hid (m.fr = n) := ⟨_, hid rfl⟩
  obtain ⟨tn, HTN⟩ : ∃ n : Int, Hid (m.tu = n) := ⟨_, hid rfl⟩
  rw [HKN.out] at a0
  rw [HFN.out] at a1
  rw [HTN.out] at a2
  have hbm : ∀ W, buildMg3 (.int .i64 kn) (.int .i64 fn) (.int .i64 tn) W = .ok (.value (.agg (mgc (bareM m) (.slice none 0 0) (.slice none 0 0) (.slice none 0 0)))) W := fun W => by
    rw [buildMg3_eq, ← HKN.out, ← HFN.out, ← HTN.out]
    rfl
  obtain ⟨YC, HYC⟩ : ∃ C : Array Value, Hid (mgc (bareM m) (.slice none 0 0) (.slice none 0 0) (.slice none 0 0) = C) := ⟨_, hid rfl⟩
  have hY1 : YC.size = 349 := by rw [← HYC.out]; exact mgc_size _ _ _ (bareM_ok m)
  have hY2 : YC.all (·.oneCell') = true := by rw [← HYC.out]; exact mgc_one (w := w) (m := bareM m) (Els.nil w) (Els.nil w) (Txs.nil w)
  rw [HYC.out] at hbm
  have hst := mg_var w0 HZS.out hY1 hY2
  have hal0 := HAL.out w0
  clear h0 h1 h2 hb0 hY1 hY2
  go_upto_region 2 with (fail)
  have hr1 := heap_alloc_new w0 (.cells YC 38)
  have hb1 : Below w0.heap.size w0 (w0.alloc (.cells YC 38)) := (Below.refl _ _).alloc (Nat.le_refl _) _
  clear a0 a1 a2 hbm hst hal0
  obtain ⟨gx, HGX⟩ : ∃ k : Nat, Hid (w0.heap.size = k) := ⟨_, hid rfl⟩
  rw [HGX.out] at hr1 hl2 ⊢
  have hq0 := (hb1.block _ (by rw [HGX.out]; omega)).trans HH.out.1
  have hq1 := (hb1.block _ (by rw [HGX.out]; omega)).trans HH.out.2.1
  have hq2 := (hb1.block _ (by rw [HGX.out]; omega)).trans HH.out.2.2
  generalize (w0.alloc (.cells YC 38)) = w1 at *
  have HB1 := hid (HB0.out.trans (hb1.mono HB0.out.size))
  have HX1 : Hid (BoxM w1 gx (bareM m) (.slice none 0 0) (.slice none 0 0) (.slice none 0 0)) := hid (by rw [← HYC.out] at hr1; exact hr1)
  have HLT : Hid (w.heap.size + 1 + 1 < gx ∧ gx < w1.heap.size) := hid ⟨hl2, lt_of_block hr1⟩
  have HRW : Hid (w1.heap[w.heap.size]? = some (.cells CM 38 (0, 0)) ∧ w1.heap[w.heap.size + 1]? = some (.cells P 61 (0, 0)) ∧ w1.heap[w.heap.size + 1 + 1]? = some (.cells Z 38 (0, 0))) := hid ⟨hq0, hq1, hq2⟩
  have HP : Hid (∀ W, W.heap[w.heap.size]? = some (.cells CM 38 (0, 0)) → PartsM W w.heap.size m s1 s2 s3) := hid (fun W h => (HBX.out W _ h).parts HO.out)
  have HF : Hid (∀ W x t1 t2 t3, Below w.heap.size w W → W.heap[w.heap.size + 1 + 1]? = some (.cells Z 38 (0, 0)) → BoxM W gx x t1 t2 t3 → x.Ok → (∀ V, Below w.heap.size w V → Els scl 33 V t1 x.cc.sg ∧ Els icl 1 V t2 x.xx.fr ∧ Txs V t3 x.kk.txs) →
      ∃ X : Array Value, X.size = 349 ∧ loadMg (.pointer (some ⟨gx, 0, none⟩)) W = .ok (.value (.agg X)) W ∧ storeMg (.pointer (some ⟨w.heap.size + 1 + 1, 0, none⟩)) (.agg X) W = .ok .skip (setMg W (w.heap.size + 1 + 1) X) ∧ (setMg W (w.heap.size + 1 + 1) X).heap[w.heap.size + 1 + 1]? = some (.cells X 38 (0, 0)) ∧ MgV (setMg W (w.heap.size + 1 + 1) X) (.agg X) x ∧ Below w.heap.size w (setMg W (w.heap.size + 1 + 1) X)) := hid (fun W x t1 t2 t3 hb hz hx hxo hel => by
    have hbF : Below w.heap.size w (setMg W (w.heap.size + 1 + 1) (mgc x t1 t2 t3)) := setMg_below hb (by omega)
    obtain ⟨l1, l2, l3⟩ := hel W hb
    exact ⟨mgc x t1 t2 t3, mgc_size _ _ _ hxo, loadMg_row hx (mgc_size _ _ _ hxo), storeMg_eq hz HZS.out (mgc_size _ _ _ hxo) (mgc_one l1 l2 l3), setMg_same hz, ⟨_, _, _, rfl, hxo, hel _ hbF⟩, hbF⟩)
  clear hr1 hl2 hb1 hq0 hq1 hq2
  by_cases h : isA m.ki
  case pos =>
    have HKI : Hid (isA m.ki) := hid h
    clear h
    obtain ⟨q, hq, hq0, hqk⟩ := pt_aa HKI.out
    have HQK := hid hqk
    obtain rfl : P = #[.int .i64 q, .int .i64 0, .bool false, .bool false, .bool false, .bool false] := HPC.out.symm.trans hq
    clear hq hqk
    obtain ⟨c0, c1, c2, c3, c4, c5⟩ := pt_cells HRW.out.2.1
    have l0 := (HP.out w1 HRW.out.1).aa
    obtain ⟨G_aa, HG_aa⟩ : ∃ C : Array Value, Hid (atc m.aa = C) := ⟨_, hid rfl⟩
    rw [HG_aa.out] at l0
    have HXB := HX1
    go_upto_region 3 with (fail)
    go_upto_region 4 with (refine wpList_store_maa rfl _ _ rfl m.aa HO.out.aa rfl (by rw [HG_aa.out]; rfl) HXB.out (bareM_ok m) ?_; intro wN hg hX hs; clear HXB)
    have HRWN := hid (show wN.heap[w.heap.size]? = some (.cells CM 38 (0, 0)) ∧ wN.heap[w.heap.size + 1]? = some (.cells #[.int .i64 q, .int .i64 0, .bool false, .bool false, .bool false, .bool false] 61 (0, 0)) ∧ wN.heap[w.heap.size + 1 + 1]? = some (.cells Z 38 (0, 0)) from ⟨(hg.block _ (by have := HLT.out; omega) (fun e => by injection e with e; have := HLT.out; omega)).trans HRW.out.1, (hg.block _ (by have := HLT.out; omega) (fun e => by injection e with e; have := HLT.out; omega)).trans HRW.out.2.1, (hg.block _ (by have := HLT.out; omega) (fun e => by injection e with e; have := HLT.out; omega)).trans HRW.out.2.2⟩)
    have HXN := hid hX
    have HBN : Hid (Below w.heap.size w wN) := hid (below_into HB1.out (by have := HLT.out; omega) hg HB1.out.size)
    have HLT : Hid (w.heap.size + 1 + 1 < gx ∧ gx < wN.heap.size) := hid ⟨HLT.out.1, by rw [hs]; exact HLT.out.2⟩
    clear hg hX hs l0 c0 c1 c2 c3 c4 c5
    obtain ⟨c0, c1, c2, c3, c4, c5⟩ := pt_cells HRWN.out.2.1
    obtain ⟨pm, HPM0⟩ : ∃ x : MgM, Hid (({ bareM m with aa := m.aa } : MgM) = x) := ⟨_, hid rfl⟩
    have HPM : Hid (partM m = pm) := hid (by rw [part_aa HKI.out]; exact HPM0.out)
    have HXF : Hid (BoxM wN gx pm (.slice none 0 0) (.slice none 0 0) (.slice none 0 0)) := hid (by rw [← HPM0.out]; exact HXN.out)
    obtain ⟨X, hX349, lX, sX, rX, vX, bX⟩ := HF.out wN pm _ _ _ HBN.out HRWN.out.2.2 HXF.out (by rw [← HPM.out]; exact partM_ok HO.out) (fun V hV => by rw [← HPM0.out]; exact ⟨Els.nil _, Els.nil _, Txs.nil _⟩)
    have HFX := hid (And.intro hX349 (And.intro rX (And.intro vX bX)))
    clear hX349 rX vX bX
    go_wp2_with fail
    refine bodyPost_ret (results_mg rfl _ _ _ _ _ rfl HFX.out.2.1 HFX.out.1) rfl ?_
    exact ⟨_, rfl, by rw [HPM.out]; exact HFX.out.2.2.1, HFX.out.2.2.2⟩
  have h_aa := h
  clear h
  by_cases h : isC m.ki
  case pos =>
    have HKI : Hid (isC m.ki) := hid h
    clear h
    obtain ⟨q, hq, hq0, hqk⟩ := pt_cc HKI.out
    have HQK := hid hqk
    obtain rfl : P = #[.int .i64 0, .int .i64 q, .bool false, .bool false, .bool false, .bool false] := HPC.out.symm.trans hq
    clear hq hqk
    obtain ⟨c0, c1, c2, c3, c4, c5⟩ := pt_cells HRW.out.2.1
    have l0 := (HP.out w1 HRW.out.1).cc
    obtain ⟨G_cc, HG_cc⟩ : ∃ C : Array Value, Hid (ctc m.cc s1 = C) := ⟨_, hid rfl⟩
    rw [HG_cc.out] at l0
    have HXB := HX1
    go_upto_region 5 with (fail)
    go_upto_region 6 with (refine wpList_store_mcc rfl _ _ rfl m.cc s1 HO.out.cc.att (ctl_one (HE.out w1 HB1.out).1) rfl (by rw [HG_cc.out]; rfl) HXB.out (bareM_ok m) ?_; intro wN hg hX hs; clear HXB)
    have HRWN := hid (show wN.heap[w.heap.size]? = some (.cells CM 38 (0, 0)) ∧ wN.heap[w.heap.size + 1]? = some (.cells #[.int .i64 0, .int .i64 q, .bool false, .bool false, .bool false, .bool false] 61 (0, 0)) ∧ wN.heap[w.heap.size + 1 + 1]? = some (.cells Z 38 (0, 0)) from ⟨(hg.block _ (by have := HLT.out; omega) (fun e => by injection e with e; have := HLT.out; omega)).trans HRW.out.1, (hg.block _ (by have := HLT.out; omega) (fun e => by injection e with e; have := HLT.out; omega)).trans HRW.out.2.1, (hg.block _ (by have := HLT.out; omega) (fun e => by injection e with e; have := HLT.out; omega)).trans HRW.out.2.2⟩)
    have HXN := hid hX
    have HBN : Hid (Below w.heap.size w wN) := hid (below_into HB1.out (by have := HLT.out; omega) hg HB1.out.size)
    have HLT : Hid (w.heap.size + 1 + 1 < gx ∧ gx < wN.heap.size) := hid ⟨HLT.out.1, by rw [hs]; exact HLT.out.2⟩
    clear hg hX hs l0 c0 c1 c2 c3 c4 c5
    obtain ⟨c0, c1, c2, c3, c4, c5⟩ := pt_cells HRWN.out.2.1
    obtain ⟨pm, HPM0⟩ : ∃ x : MgM, Hid (({ bareM m with cc := m.cc } : MgM) = x) := ⟨_, hid rfl⟩
    have HPM : Hid (partM m = pm) := hid (by rw [part_cc HKI.out]; exact HPM0.out)
    have HXF : Hid (BoxM wN gx pm s1 (.slice none 0 0) (.slice none 0 0)) := hid (by rw [← HPM0.out]; exact HXN.out)
    obtain ⟨X, hX349, lX, sX, rX, vX, bX⟩ := HF.out wN pm _ _ _ HBN.out HRWN.out.2.2 HXF.out (by rw [← HPM.out]; exact partM_ok HO.out) (fun V hV => by rw [← HPM0.out]; exact ⟨(HE.out V hV).1, Els.nil _, Txs.nil _⟩)
    have HFX := hid (And.intro hX349 (And.intro rX (And.intro vX bX)))
    clear hX349 rX vX bX
    go_wp2_with fail
    refine bodyPost_ret (results_mg rfl _ _ _ _ _ rfl HFX.out.2.1 HFX.out.1) rfl ?_
    exact ⟨_, rfl, by rw [HPM.out]; exact HFX.out.2.2.1, HFX.out.2.2.2⟩
  have h_cc := h
  clear h
  by_cases h : m.ki = 7
  case pos =>
    have HKI : Hid (m.ki = 7) := hid h
    clear h
    obtain rfl : P = #[.int .i64 0, .int .i64 0, .bool false, .bool false, .bool true, .bool false] := HPC.out.symm.trans (pt_hh HKI.out)
    obtain ⟨c0, c1, c2, c3, c4, c5⟩ := pt_cells HRW.out.2.1
    have l0 := (HP.out w1 HRW.out.1).hh
    obtain ⟨G_hh, HG_hh⟩ : ∃ C : Array Value, Hid (hcells m.hh = C) := ⟨_, hid rfl⟩
    rw [HG_hh.out] at l0
    have HXB := HX1
    go_upto_region 11 with (fail)
    go_upto_region 12 with (refine wpList_store_mhh rfl _ _ rfl m.hh HO.out.hh rfl (by rw [HG_hh.out]; rfl) HXB.out (bareM_ok m) ?_; intro wN hg hX hs; clear HXB)
    have HRWN := hid (show wN.heap[w.heap.size]? = some (.cells CM 38 (0, 0)) ∧ wN.heap[w.heap.size + 1]? = some (.cells #[.int .i64 0, .int .i64 0, .bool false, .bool false, .bool true, .bool false] 61 (0, 0)) ∧ wN.heap[w.heap.size + 1 + 1]? = some (.cells Z 38 (0, 0)) from ⟨(hg.block _ (by have := HLT.out; omega) (fun e => by injection e with e; have := HLT.out; omega)).trans HRW.out.1, (hg.block _ (by have := HLT.out; omega) (fun e => by injection e with e; have := HLT.out; omega)).trans HRW.out.2.1, (hg.block _ (by have := HLT.out; omega) (fun e => by injection e with e; have := HLT.out; omega)).trans HRW.out.2.2⟩)
    have HXN := hid hX
    have HBN : Hid (Below w.heap.size w wN) := hid (below_into HB1.out (by have := HLT.out; omega) hg HB1.out.size)
    have HLT : Hid (w.heap.size + 1 + 1 < gx ∧ gx < wN.heap.size) := hid ⟨HLT.out.1, by rw [hs]; exact HLT.out.2⟩
    clear hg hX hs l0 c0 c1 c2 c3 c4 c5
    obtain ⟨c0, c1, c2, c3, c4, c5⟩ := pt_cells HRWN.out.2.1
    obtain ⟨pm, HPM0⟩ : ∃ x : MgM, Hid (({ bareM m with hh := m.hh } : MgM) = x) := ⟨_, hid rfl⟩
    have HPM : Hid (partM m = pm) := hid (by rw [part_hh HKI.out]; exact HPM0.out)
    have HXF : Hid (BoxM wN gx pm (.slice none 0 0) (.slice none 0 0) (.slice none 0 0)) := hid (by rw [← HPM0.out]; exact HXN.out)
    obtain ⟨X, hX349, lX, sX, rX, vX, bX⟩ := HF.out wN pm _ _ _ HBN.out HRWN.out.2.2 HXF.out (by rw [← HPM.out]; exact partM_ok HO.out) (fun V hV => by rw [← HPM0.out]; exact ⟨Els.nil _, Els.nil _, Txs.nil _⟩)
    have HFX := hid (And.intro hX349 (And.intro rX (And.intro vX bX)))
    clear hX349 rX vX bX
    go_wp2_with fail
    refine bodyPost_ret (results_mg rfl _ _ _ _ _ rfl HFX.out.2.1 HFX.out.1) rfl ?_
    exact ⟨_, rfl, by rw [HPM.out]; exact HFX.out.2.2.1, HFX.out.2.2.2⟩
  have h_hh := h
  clear h
  by_cases h : m.ki = 8
  case pos =>
    have HKI : Hid (m.ki = 8) := hid h
    clear h
    obtain rfl : P = #[.int .i64 0, .int .i64 0, .bool true, .bool false, .bool false, .bool false] := HPC.out.symm.trans (pt_kk HKI.out)
    obtain ⟨c0, c1, c2, c3, c4, c5⟩ := pt_cells HRW.out.2.1
    have l0 := (HP.out w1 HRW.out.1).kk
    obtain ⟨G_kk, HG_kk⟩ : ∃ C : Array Value, Hid (bkc m.kk s3 = C) := ⟨_, hid rfl⟩
    rw [HG_kk.out] at l0
    have HXB := HX1
    go_upto_region 7 with (fail)
    go_upto_region 8 with (refine wpList_store_mkk rfl _ _ rfl m.kk s3 HO.out.kk (bkl_one (HE.out w1 HB1.out).2.2) rfl (by rw [HG_kk.out]; rfl) HXB.out (bareM_ok m) ?_; intro wN hg hX hs; clear HXB)
    have HRWN := hid (show wN.heap[w.heap.size]? = some (.cells CM 38 (0, 0)) ∧ wN.heap[w.heap.size + 1]? = some (.cells #[.int .i64 0, .int .i64 0, .bool true, .bool false, .bool false, .bool false] 61 (0, 0)) ∧ wN.heap[w.heap.size + 1 + 1]? = some (.cells Z 38 (0, 0)) from ⟨(hg.block _ (by have := HLT.out; omega) (fun e => by injection e with e; have := HLT.out; omega)).trans HRW.out.1, (hg.block _ (by have := HLT.out; omega) (fun e => by injection e with e; have := HLT.out; omega)).trans HRW.out.2.1, (hg.block _ (by have := HLT.out; omega) (fun e => by injection e with e; have := HLT.out; omega)).trans HRW.out.2.2⟩)
    have HXN := hid hX
    have HBN : Hid (Below w.heap.size w wN) := hid (below_into HB1.out (by have := HLT.out; omega) hg HB1.out.size)
    have HLT : Hid (w.heap.size + 1 + 1 < gx ∧ gx < wN.heap.size) := hid ⟨HLT.out.1, by rw [hs]; exact HLT.out.2⟩
    clear hg hX hs l0 c0 c1 c2 c3 c4 c5
    obtain ⟨c0, c1, c2, c3, c4, c5⟩ := pt_cells HRWN.out.2.1
    obtain ⟨pm, HPM0⟩ : ∃ x : MgM, Hid (({ bareM m with kk := m.kk } : MgM) = x) := ⟨_, hid rfl⟩
    have HPM : Hid (partM m = pm) := hid (by rw [part_kk HKI.out]; exact HPM0.out)
    have HXF : Hid (BoxM wN gx pm (.slice none 0 0) (.slice none 0 0) s3) := hid (by rw [← HPM0.out]; exact HXN.out)
    obtain ⟨X, hX349, lX, sX, rX, vX, bX⟩ := HF.out wN pm _ _ _ HBN.out HRWN.out.2.2 HXF.out (by rw [← HPM.out]; exact partM_ok HO.out) (fun V hV => by rw [← HPM0.out]; exact ⟨Els.nil _, Els.nil _, (HE.out V hV).2.2⟩)
    have HFX := hid (And.intro hX349 (And.intro rX (And.intro vX bX)))
    clear hX349 rX vX bX
    go_wp2_with fail
    refine bodyPost_ret (results_mg rfl _ _ _ _ _ rfl HFX.out.2.1 HFX.out.1) rfl ?_
    exact ⟨_, rfl, by rw [HPM.out]; exact HFX.out.2.2.1, HFX.out.2.2.2⟩
  have h_kk := h
  clear h
  by_cases h : m.ki = 9
  case pos =>
    have HKI : Hid (m.ki = 9) := hid h
    clear h
    obtain rfl : P = #[.int .i64 0, .int .i64 0, .bool false, .bool false, .bool false, .bool true] := HPC.out.symm.trans (pt_tt HKI.out)
    obtain ⟨c0, c1, c2, c3, c4, c5⟩ := pt_cells HRW.out.2.1
    have l0 := (HP.out w1 HRW.out.1).tt
    rw [txv_tcl] at l0
    obtain ⟨G_tt, HG_tt⟩ : ∃ C : Array Value, Hid ((tcl m.tt).toArray = C) := ⟨_, hid rfl⟩
    rw [HG_tt.out] at l0
    have HXB := HX1
    go_upto_region 13 with (fail)
    go_upto_region 14 with (refine wpList_store_mtt rfl _ _ rfl m.tt rfl (by rw [HG_tt.out]; rfl) HXB.out (bareM_ok m) ?_; intro wN hg hX hs; clear HXB)
    have HRWN := hid (show wN.heap[w.heap.size]? = some (.cells CM 38 (0, 0)) ∧ wN.heap[w.heap.size + 1]? = some (.cells #[.int .i64 0, .int .i64 0, .bool false, .bool false, .bool false, .bool true] 61 (0, 0)) ∧ wN.heap[w.heap.size + 1 + 1]? = some (.cells Z 38 (0, 0)) from ⟨(hg.block _ (by have := HLT.out; omega) (fun e => by injection e with e; have := HLT.out; omega)).trans HRW.out.1, (hg.block _ (by have := HLT.out; omega) (fun e => by injection e with e; have := HLT.out; omega)).trans HRW.out.2.1, (hg.block _ (by have := HLT.out; omega) (fun e => by injection e with e; have := HLT.out; omega)).trans HRW.out.2.2⟩)
    have HXN := hid hX
    have HBN : Hid (Below w.heap.size w wN) := hid (below_into HB1.out (by have := HLT.out; omega) hg HB1.out.size)
    have HLT : Hid (w.heap.size + 1 + 1 < gx ∧ gx < wN.heap.size) := hid ⟨HLT.out.1, by rw [hs]; exact HLT.out.2⟩
    clear hg hX hs l0 c0 c1 c2 c3 c4 c5
    obtain ⟨c0, c1, c2, c3, c4, c5⟩ := pt_cells HRWN.out.2.1
    obtain ⟨pm, HPM0⟩ : ∃ x : MgM, Hid (({ bareM m with tt := m.tt } : MgM) = x) := ⟨_, hid rfl⟩
    have HPM : Hid (partM m = pm) := hid (by rw [part_tt HKI.out]; exact HPM0.out)
    have HXF : Hid (BoxM wN gx pm (.slice none 0 0) (.slice none 0 0) (.slice none 0 0)) := hid (by rw [← HPM0.out]; exact HXN.out)
    obtain ⟨X, hX349, lX, sX, rX, vX, bX⟩ := HF.out wN pm _ _ _ HBN.out HRWN.out.2.2 HXF.out (by rw [← HPM.out]; exact partM_ok HO.out) (fun V hV => by rw [← HPM0.out]; exact ⟨Els.nil _, Els.nil _, Txs.nil _⟩)
    have HFX := hid (And.intro hX349 (And.intro rX (And.intro vX bX)))
    clear hX349 rX vX bX
    go_wp2_with fail
    refine bodyPost_ret (results_mg rfl _ _ _ _ _ rfl HFX.out.2.1 HFX.out.1) rfl ?_
    exact ⟨_, rfl, by rw [HPM.out]; exact HFX.out.2.2.1, HFX.out.2.2.2⟩
  have h_tt := h
  clear h
  by_cases h : m.ki = 10
  case pos =>
    have HKI : Hid (m.ki = 10) := hid h
    clear h
    obtain rfl : P = #[.int .i64 0, .int .i64 0, .bool false, .bool true, .bool false, .bool false] := HPC.out.symm.trans (pt_xx HKI.out)
    obtain ⟨c0, c1, c2, c3, c4, c5⟩ := pt_cells HRW.out.2.1
    have l0 := (HP.out w1 HRW.out.1).xx
    obtain ⟨G_xx, HG_xx⟩ : ∃ C : Array Value, Hid (axc m.xx s2 = C) := ⟨_, hid rfl⟩
    rw [HG_xx.out] at l0
    have HXB := HX1
    go_upto_region 9 with (fail)
    go_upto_region 10 with (refine wpList_store_mxx rfl _ _ rfl m.xx s2 HO.out.xx (axl_one (HE.out w1 HB1.out).2.1) rfl (by rw [HG_xx.out]; rfl) HXB.out (bareM_ok m) ?_; intro wN hg hX hs; clear HXB)
    have HRWN := hid (show wN.heap[w.heap.size]? = some (.cells CM 38 (0, 0)) ∧ wN.heap[w.heap.size + 1]? = some (.cells #[.int .i64 0, .int .i64 0, .bool false, .bool true, .bool false, .bool false] 61 (0, 0)) ∧ wN.heap[w.heap.size + 1 + 1]? = some (.cells Z 38 (0, 0)) from ⟨(hg.block _ (by have := HLT.out; omega) (fun e => by injection e with e; have := HLT.out; omega)).trans HRW.out.1, (hg.block _ (by have := HLT.out; omega) (fun e => by injection e with e; have := HLT.out; omega)).trans HRW.out.2.1, (hg.block _ (by have := HLT.out; omega) (fun e => by injection e with e; have := HLT.out; omega)).trans HRW.out.2.2⟩)
    have HXN := hid hX
    have HBN : Hid (Below w.heap.size w wN) := hid (below_into HB1.out (by have := HLT.out; omega) hg HB1.out.size)
    have HLT : Hid (w.heap.size + 1 + 1 < gx ∧ gx < wN.heap.size) := hid ⟨HLT.out.1, by rw [hs]; exact HLT.out.2⟩
    clear hg hX hs l0 c0 c1 c2 c3 c4 c5
    obtain ⟨c0, c1, c2, c3, c4, c5⟩ := pt_cells HRWN.out.2.1
    obtain ⟨pm, HPM0⟩ : ∃ x : MgM, Hid (({ bareM m with xx := m.xx } : MgM) = x) := ⟨_, hid rfl⟩
    have HPM : Hid (partM m = pm) := hid (by rw [part_xx HKI.out]; exact HPM0.out)
    have HXF : Hid (BoxM wN gx pm (.slice none 0 0) s2 (.slice none 0 0)) := hid (by rw [← HPM0.out]; exact HXN.out)
    obtain ⟨X, hX349, lX, sX, rX, vX, bX⟩ := HF.out wN pm _ _ _ HBN.out HRWN.out.2.2 HXF.out (by rw [← HPM.out]; exact partM_ok HO.out) (fun V hV => by rw [← HPM0.out]; exact ⟨Els.nil _, (HE.out V hV).2.1, Txs.nil _⟩)
    have HFX := hid (And.intro hX349 (And.intro rX (And.intro vX bX)))
    clear hX349 rX vX bX
    go_wp2_with fail
    refine bodyPost_ret (results_mg rfl _ _ _ _ _ rfl HFX.out.2.1 HFX.out.1) rfl ?_
    exact ⟨_, rfl, by rw [HPM.out]; exact HFX.out.2.2.1, HFX.out.2.2.2⟩
  have h_xx := h
  clear h
  by_cases h : m.ki = 2
  case pos =>
    have HKI : Hid (m.ki = 2) := hid h
    clear h
    obtain rfl : P = #[.int .i64 0, .int .i64 0, .bool true, .bool true, .bool false, .bool false] := HPC.out.symm.trans (pt_ka HKI.out)
    obtain ⟨c0, c1, c2, c3, c4, c5⟩ := pt_cells HRW.out.2.1
    have l0 := (HP.out w1 HRW.out.1).kk
    obtain ⟨G_kk, HG_kk⟩ : ∃ C : Array Value, Hid (bkc m.kk s3 = C) := ⟨_, hid rfl⟩
    rw [HG_kk.out] at l0
    have HXB := HX1
    go_upto_region 7 with (fail)
    go_upto_region 8 with (refine wpList_store_mkk rfl _ _ rfl m.kk s3 HO.out.kk (bkl_one (HE.out w1 HB1.out).2.2) rfl (by rw [HG_kk.out]; rfl) HXB.out (bareM_ok m) ?_; intro wL hg hX hs; clear HXB)
    have HRWL := hid (show wL.heap[w.heap.size]? = some (.cells CM 38 (0, 0)) ∧ wL.heap[w.heap.size + 1]? = some (.cells #[.int .i64 0, .int .i64 0, .bool true, .bool true, .bool false, .bool false] 61 (0, 0)) ∧ wL.heap[w.heap.size + 1 + 1]? = some (.cells Z 38 (0, 0)) from ⟨(hg.block _ (by have := HLT.out; omega) (fun e => by injection e with e; have := HLT.out; omega)).trans HRW.out.1, (hg.block _ (by have := HLT.out; omega) (fun e => by injection e with e; have := HLT.out; omega)).trans HRW.out.2.1, (hg.block _ (by have := HLT.out; omega) (fun e => by injection e with e; have := HLT.out; omega)).trans HRW.out.2.2⟩)
    have HXL := hid hX
    have HBL : Hid (Below w.heap.size w wL) := hid (below_into HB1.out (by have := HLT.out; omega) hg HB1.out.size)
    have HLT : Hid (w.heap.size + 1 + 1 < gx ∧ gx < wL.heap.size) := hid ⟨HLT.out.1, by rw [hs]; exact HLT.out.2⟩
    clear hg hX hs l0 c0 c1 c2 c3 c4 c5
    obtain ⟨c0, c1, c2, c3, c4, c5⟩ := pt_cells HRWL.out.2.1
    have l1 := (HP.out wL HRWL.out.1).xx
    obtain ⟨G_xx, HG_xx⟩ : ∃ C : Array Value, Hid (axc m.xx s2 = C) := ⟨_, hid rfl⟩
    rw [HG_xx.out] at l1
    have HXB := HXL
    go_upto_region 9 with (fail)
    go_upto_region 10 with (refine wpList_store_mxx rfl _ _ rfl m.xx s2 HO.out.xx (axl_one (HE.out w1 HB1.out).2.1) rfl (by rw [HG_xx.out]; rfl) HXB.out ⟨(bareM_ok m).aa, (bareM_ok m).cc, (bareM_ok m).xx, HO.out.kk, (bareM_ok m).hh⟩ ?_; intro wN hg hX hs; clear HXB)
    have HRWN := hid (show wN.heap[w.heap.size]? = some (.cells CM 38 (0, 0)) ∧ wN.heap[w.heap.size + 1]? = some (.cells #[.int .i64 0, .int .i64 0, .bool true, .bool true, .bool false, .bool false] 61 (0, 0)) ∧ wN.heap[w.heap.size + 1 + 1]? = some (.cells Z 38 (0, 0)) from ⟨(hg.block _ (by have := HLT.out; omega) (fun e => by injection e with e; have := HLT.out; omega)).trans HRWL.out.1, (hg.block _ (by have := HLT.out; omega) (fun e => by injection e with e; have := HLT.out; omega)).trans HRWL.out.2.1, (hg.block _ (by have := HLT.out; omega) (fun e => by injection e with e; have := HLT.out; omega)).trans HRWL.out.2.2⟩)
    have HXN := hid hX
    have HBN : Hid (Below w.heap.size w wN) := hid (below_into HBL.out (by have := HLT.out; omega) hg HBL.out.size)
    have HLT : Hid (w.heap.size + 1 + 1 < gx ∧ gx < wN.heap.size) := hid ⟨HLT.out.1, by rw [hs]; exact HLT.out.2⟩
    clear hg hX hs l1 c0 c1 c2 c3 c4 c5
    obtain ⟨c0, c1, c2, c3, c4, c5⟩ := pt_cells HRWN.out.2.1
    obtain ⟨pm, HPM0⟩ : ∃ x : MgM, Hid (({ { bareM m with kk := m.kk } with xx := m.xx } : MgM) = x) := ⟨_, hid rfl⟩
    have HPM : Hid (partM m = pm) := hid (by rw [part_ka HKI.out]; exact HPM0.out)
    have HXF : Hid (BoxM wN gx pm (.slice none 0 0) s2 s3) := hid (by rw [← HPM0.out]; exact HXN.out)
    obtain ⟨X, hX349, lX, sX, rX, vX, bX⟩ := HF.out wN pm _ _ _ HBN.out HRWN.out.2.2 HXF.out (by rw [← HPM.out]; exact partM_ok HO.out) (fun V hV => by rw [← HPM0.out]; exact ⟨Els.nil _, (HE.out V hV).2.1, (HE.out V hV).2.2⟩)
    have HFX := hid (And.intro hX349 (And.intro rX (And.intro vX bX)))
    clear hX349 rX vX bX
    go_wp2_with fail
    refine bodyPost_ret (results_mg rfl _ _ _ _ _ rfl HFX.out.2.1 HFX.out.1) rfl ?_
    exact ⟨_, rfl, by rw [HPM.out]; exact HFX.out.2.2.1, HFX.out.2.2.2⟩
  have h_ka := h
  clear h
  exfalso
  have := HK.out
  unfold isA at h_aa
  unfold isC at h_cc
  omega
end Go.Proofs.YtjemfmbmlmogcaaGreat
namespace Go.Proofs.YtjemfmbmlmogcaaGreat
set_option maxRecDepth 20000
open Go.RowKit
attribute [local go_sem ↓] exec_load_att exec_load_ct exec_load_ax exec_load_bk exec_load_tx exec_load_hash
theorem first_vi {b : BkM} (h : mayK b = true) : decide (0 < b.vi) = !sameK b bkZ := by
  cases hs : sameK b bkZ with
  | true =>
    rw [sameK_iff.1 hs]
    rfl
  | false =>
    rcases mayK_of h with e | e
    · rw [e, sameK_self] at hs
      cases hs
    · exact decide_eq_true (by omega)
theorem putC_nil {c : CtM} (ho : c.att.Ok) : ((putC [] c).length == 0) = !mayC c := by
  unfold putC
  cases mayC c with
  | false => rfl
  | true =>
    rw [if_pos rfl, List.nil_append]
    have := ho.ha
    have : (bytesC c).length ≠ 0 := by
      unfold bytesC taggedA
      simp only [List.length_append]
      omega
    simpa using this
theorem putX_nil {a : AcM} (ho : a.Ok) : ((putX [] a).length == 0) = !mayX a := by
  unfold putX
  cases mayX a with
  | false => rfl
  | true =>
    rw [if_pos rfl, List.nil_append]
    have := ho.tg
    have : (bytesX a).length ≠ 0 := by
      unfold bytesX
      simp only [List.length_append]
      omega
    simpa using this
set_option maxHeartbeats 6400000 in
theorem mgFits_any (v : Value) (m : MgM) (w : World) (hv : MgV w v m) (hlm : LimM m) (hk : 1 ≤ m.ki ∧ m.ki ≤ 10) :
    Calls Tryz.prog 27 #[v, .agg (ptc m.ki)] w fun e w' => e = .returned (.bool (kindM m)) ∧ Below w.heap.size w w' := by
  obtain ⟨s1, s2, s3, rfl, ho, e1, e2, e3⟩ := hv
  have HO := hid ho
  have HE := hid (fun W (h : Below w.heap.size w W) => (show Els scl 33 W s1 m.cc.sg ∧ Els icl 1 W s2 m.xx.fr ∧ Txs W s3 m.kk.txs from ⟨e1.below h, e2.below h, e3.below h⟩))
  obtain ⟨CM, HCM⟩ : ∃ C : Array Value, Hid (mgc m s1 s2 s3 = C) := ⟨_, hid rfl⟩
  have HCS : Hid (CM.size = 349) := hid (by rw [← HCM.out]; exact mgc_size _ _ _ ho)
  have HBX : Hid (∀ W g, W.heap[g]? = some (.cells CM 38 (0, 0)) → BoxM W g m s1 s2 s3) := hid (fun W g h => by rw [← HCM.out] at h; exact h)
  rw [HCM.out]
  obtain ⟨P, HPC⟩ : ∃ C : Array Value, Hid (ptc m.ki = C) := ⟨_, hid rfl⟩
  rw [HPC.out]
  have h0 : ((w.alloc (.cells CM 38)).alloc (.cells P 61)).heap[w.heap.size]? = some (.cells CM 38 (0, 0)) := heap1 w _ _
  have h1 : ((w.alloc (.cells CM 38)).alloc (.cells P 61)).heap[w.heap.size + 1]? = some (.cells P 61 (0, 0)) := heap2 w _ _
  have hb0 : Below w.heap.size w ((w.alloc (.cells CM 38)).alloc (.cells P 61)) := ((Below.refl _ _).alloc (Nat.le_refl _) _).alloc (by simp) _
  have HK := hid hk
  have HLM := hid hlm
  clear ho e1 e2 e3 hk hlm
  obtain ⟨ans, HAN⟩ : ∃ q : Bool, Hid (kindM m = q) := ⟨_, hid rfl⟩
  rw [HAN.out]
  go_enter Tryz.func27, Tryz.ntmps27
  go_upto_region 1 with (fail)
  generalize ((w.alloc (.cells CM 38)).alloc (.cells P 61)) = w0 at *
  have HB0 := hid hb0
  have hl0 := lt_of_block h0
  have hl1 := lt_of_block h1
  have HP : Hid (∀ W, Below w0.heap.size w0 W → PartsM W w.heap.size m s1 s2 s3) := hid (fun W h => (HBX.out W _ ((h.block _ hl0).trans h0)).parts HO.out)
  have HPR : Hid (∀ W, Below w0.heap.size w0 W → W.heap[w.heap.size + 1]? = some (.cells P 61 (0, 0))) := hid (fun W h => (h.block _ hl1).trans h1)
  have HBW : Hid (∀ W, Below w0.heap.size w0 W → Below w.heap.size w W) := hid (fun W h => HB0.out.trans (h.mono HB0.out.size))
  have HR0 := hid (Below.refl w0.heap.size w0)
  clear h0 h1 hl0 hl1 hb0
  by_cases h : isA m.ki
  case pos =>
    have HKI : Hid (isA m.ki) := hid h
    clear h
    obtain ⟨q, hq, hq0, hqk⟩ := pt_aa HKI.out
    have HQK := hid hqk
    obtain rfl : P = #[.int .i64 q, .int .i64 0, .bool false, .bool false, .bool false, .bool false] := HPC.out.symm.trans hq
    clear hq hqk
    obtain ⟨c0, c1, c2, c3, c4, c5⟩ := pt_cells (HPR.out _ HR0.out)
    obtain ⟨an, HA⟩ : ∃ x : Int, Hid (m.aa.ki = x) := ⟨_, hid rfl⟩
    obtain ⟨b, HQ⟩ : ∃ q : Bool, Hid (mayA m.aa = q) := ⟨_, hid rfl⟩
    have HANS : Hid (ans = (b && decide (an = q))) := hid (by rw [← HAN.out, (kind_aa HKI.out).1, HQK.out, HA.out, HQ.out])
    have k1 := (HP.out w0 HR0.out).ak
    rw [HA.out] at k1
    by_cases ha : an = q
    case neg =>
      have t1 : (an != q) = true := by simpa using ha
      obtain rfl : ans = false := by rw [HANS.out, decide_eq_false ha, Bool.and_false]
      clear ha
      go_wp2_with fail
      go_ret
      exact ⟨rfl, HBW.out _ HR0.out⟩
    have t1 : (an != q) = false := by simpa using ha
    have C := atCheck_ok m.aa w0 HO.out.aa
    rw [HQ.out] at C
    obtain rfl : ans = b := by rw [HANS.out, decide_eq_true ha, Bool.and_true]
    have l1 := (HP.out w0 HR0.out).aa
    obtain ⟨G_aa, HG_aa⟩ : ∃ C : Array Value, Hid (atc m.aa = C) := ⟨_, hid rfl⟩
    rw [HG_aa.out] at l1
    rw [HG_aa.out] at C
    obtain ⟨er, HER⟩ : ∃ x : Int, Hid ((if ans = true then (0 : Int) else 1) = x) := ⟨_, hid rfl⟩
    rw [HER.out] at C
    have HC := hid C
    clear C ha HANS
    go_wp2_with fail
    refine HC.out.mono ?_
    rintro e w1 ⟨rfl, hb1'⟩
    have HB1 := hid (HR0.out.trans (hb1'.mono HR0.out.size))
    clear c0 c1 c2 c3 c4 c5 k1 l1 t1 hb1'
    obtain ⟨c0, c1, c2, c3, c4, c5⟩ := pt_cells (HPR.out _ HB1.out)
    cases ans with
    | false =>
      obtain rfl : er = 1 := HER.out.symm
      go_wp2_with fail
      go_ret
      exact ⟨rfl, HBW.out _ HB1.out⟩
    | true =>
      obtain rfl : er = 0 := HER.out.symm
      go_upto_region 5 with (fail)
      have HD := hid (show Below w0.heap.size w0 w1.drew from HB1.out.drew)
      clear c0 c1 c2 c3 c4 c5
      obtain ⟨c0, c1, c2, c3, c4, c5⟩ := pt_cells (HPR.out _ HD.out)
      refine wp_region_held_drew (S := fun W => W.cell? ⟨w.heap.size + 1, 2, none⟩ = some (.bool false)) (by kernel_rfl) c2 (fun hHeld => ?_)
      refine' tk (i := 0) (v := _) rfl ?_ ?_
      rotate_left
      · (intro W hW; (try dsimp only at hW); go_simp; first | done | with_reducible rfl)
      try simp only [lay]
      refine' tk (i := 1) (v := _) rfl ?_ ?_
      rotate_left
      · (intro W hW; (try dsimp only at hW); have hW1 := hW; go_simp; first | done | with_reducible rfl)
      try simp only [lay]
      refine' tk (i := 2) (v := _) rfl ?_ ?_
      rotate_left
      · (intro W hW; (try dsimp only at hW); go_simp; first | done | with_reducible rfl)
      try simp only [lay]
      refine tf (i := 3) rfl ?_
      try simp only [lay]
      refine tf (i := 4) rfl ?_
      try simp only [lay]
      refine tf (i := 5) rfl ?_
      try simp only [lay]
      refine tf (i := 6) rfl ?_
      try simp only [lay]
      refine tf (i := 7) rfl ?_
      try simp only [lay]
      refine tf (i := 8) rfl ?_
      try simp only [lay]
      refine tf (i := 9) rfl ?_
      try simp only [lay]
      refine tf (i := 10) rfl ?_
      try simp only [lay]
      refine tf (i := 11) rfl ?_
      try simp only [lay]
      refine tf (i := 12) rfl ?_
      try simp only [lay]
      refine' tk (i := 13) (v := _) rfl ?_ ?_
      rotate_left
      · (intro W hW; (try dsimp only at hW); go_simp; first | done | with_reducible rfl)
      try simp only [lay]
      refine wpAnyH_done (by kernel_rfl) ?_ _
      clear hHeld
      go_wp2_with fail
      go_ret
      exact ⟨rfl, HBW.out _ HD.out⟩
  have h_aa := h
  clear h
  by_cases h : isC m.ki
  case pos =>
    have HKI : Hid (isC m.ki) := hid h
    clear h
    obtain ⟨q, hq, hq0, hqk⟩ := pt_cc HKI.out
    have HQK := hid hqk
    obtain rfl : P = #[.int .i64 0, .int .i64 q, .bool false, .bool false, .bool false, .bool false] := HPC.out.symm.trans hq
    clear hq hqk
    obtain ⟨c0, c1, c2, c3, c4, c5⟩ := pt_cells (HPR.out _ HR0.out)
    obtain ⟨an, HA⟩ : ∃ x : Int, Hid (m.cc.att.ki = x) := ⟨_, hid rfl⟩
    obtain ⟨b, HQ⟩ : ∃ q : Bool, Hid (mayC m.cc = q) := ⟨_, hid rfl⟩
    have HANS : Hid (ans = (b && decide (an = q))) := hid (by rw [← HAN.out, (kind_cc HKI.out).1, HQK.out, HA.out, HQ.out])
    have k1 := (HP.out w0 HR0.out).ck
    rw [HA.out] at k1
    by_cases ha : an = q
    case neg =>
      have t1 : (an != q) = true := by simpa using ha
      obtain rfl : ans = false := by rw [HANS.out, decide_eq_false ha, Bool.and_false]
      clear ha
      go_wp2_with fail
      go_ret
      exact ⟨rfl, HBW.out _ HR0.out⟩
    have t1 : (an != q) = false := by simpa using ha
    have C := ctPut_ok (.slice none 0 0) (.agg (ctc m.cc s1)) [] m.cc w0 (Byt.nil _) (by simp) ⟨_, rfl, HO.out.cc, (HE.out w0 HB0.out).1⟩ HLM.out.sg
    obtain rfl : ans = b := by rw [HANS.out, decide_eq_true ha, Bool.and_true]
    obtain ⟨L, HL⟩ : ∃ l : List UInt8, Hid (putC [] m.cc = l) := ⟨_, hid rfl⟩
    have HLB : Hid ((L.length == 0) = !ans) := hid (by rw [← HL.out, putC_nil HO.out.cc.att, HQ.out])
    rw [HL.out] at C
    have l1 := (HP.out w0 HR0.out).cc
    obtain ⟨G_cc, HG_cc⟩ : ∃ C : Array Value, Hid (ctc m.cc s1 = C) := ⟨_, hid rfl⟩
    rw [HG_cc.out] at l1
    rw [HG_cc.out] at C
    have HC := hid C
    clear C ha HANS
    go_wp2_with fail
    refine HC.out.mono ?_
    rintro e w1 ⟨x, rfl, hx, hb1'⟩
    obtain ⟨A1, k, rfl⟩ := hx.shape
    obtain ⟨n, HN⟩ : ∃ n : Nat, Hid (L.length = n) := ⟨_, hid rfl⟩
    have hn : ((n : Int) == 0) = !ans := by have := HLB.out; rw [HN.out] at this; rw [← this, Bool.eq_iff_iff, beq_iff_eq, beq_iff_eq]; omega
    rw [HN.out]
    have HB1 := hid (HR0.out.trans (hb1'.mono HR0.out.size))
    clear c0 c1 c2 c3 c4 c5 k1 l1 t1 hb1' hx
    obtain ⟨c0, c1, c2, c3, c4, c5⟩ := pt_cells (HPR.out _ HB1.out)
    cases ans with
    | false =>
      have hn1 : ((n : Int) == 0) = true := hn
      clear hn
      go_wp2_with fail
      go_ret
      exact ⟨rfl, HBW.out _ HB1.out⟩
    | true =>
      have hn1 : ((n : Int) == 0) = false := hn
      clear hn
      go_upto_region 5 with (fail)
      have HD := hid (show Below w0.heap.size w0 w1.drew from HB1.out.drew)
      clear c0 c1 c2 c3 c4 c5 hn1
      obtain ⟨c0, c1, c2, c3, c4, c5⟩ := pt_cells (HPR.out _ HD.out)
      refine wp_region_held_drew (S := fun W => W.cell? ⟨w.heap.size + 1, 2, none⟩ = some (.bool false)) (by kernel_rfl) c2 (fun hHeld => ?_)
      refine' tk (i := 0) (v := _) rfl ?_ ?_
      rotate_left
      · (intro W hW; (try dsimp only at hW); go_simp; first | done | with_reducible rfl)
      try simp only [lay]
      refine' tk (i := 1) (v := _) rfl ?_ ?_
      rotate_left
      · (intro W hW; (try dsimp only at hW); have hW1 := hW; go_simp; first | done | with_reducible rfl)
      try simp only [lay]
      refine' tk (i := 2) (v := _) rfl ?_ ?_
      rotate_left
      · (intro W hW; (try dsimp only at hW); go_simp; first | done | with_reducible rfl)
      try simp only [lay]
      refine tf (i := 3) rfl ?_
      try simp only [lay]
      refine tf (i := 4) rfl ?_
      try simp only [lay]
      refine tf (i := 5) rfl ?_
      try simp only [lay]
      refine tf (i := 6) rfl ?_
      try simp only [lay]
      refine tf (i := 7) rfl ?_
      try simp only [lay]
      refine tf (i := 8) rfl ?_
      try simp only [lay]
      refine tf (i := 9) rfl ?_
      try simp only [lay]
      refine tf (i := 10) rfl ?_
      try simp only [lay]
      refine tf (i := 11) rfl ?_
      try simp only [lay]
      refine tf (i := 12) rfl ?_
      try simp only [lay]
      refine' tk (i := 13) (v := _) rfl ?_ ?_
      rotate_left
      · (intro W hW; (try dsimp only at hW); go_simp; first | done | with_reducible rfl)
      try simp only [lay]
      refine wpAnyH_done (by kernel_rfl) ?_ _
      clear hHeld
      go_wp2_with fail
      go_ret
      exact ⟨rfl, HBW.out _ HD.out⟩
  have h_cc := h
  clear h
  by_cases h : m.ki = 7
  case pos =>
    have HKI : Hid (m.ki = 7) := hid h
    clear h
    obtain rfl : P = #[.int .i64 0, .int .i64 0, .bool false, .bool false, .bool true, .bool false] := HPC.out.symm.trans (pt_hh HKI.out)
    obtain ⟨c0, c1, c2, c3, c4, c5⟩ := pt_cells (HPR.out _ HR0.out)
    obtain rfl : ans = true := by rw [← HAN.out, (kind_hh HKI.out).1]
    go_upto_region 5 with (fail)
    have HD := hid (show Below w0.heap.size w0 w0.drew from HR0.out.drew)
    clear c0 c1 c2 c3 c4 c5
    obtain ⟨c0, c1, c2, c3, c4, c5⟩ := pt_cells (HPR.out _ HD.out)
    refine wp_region_held_drew (S := fun W => W.cell? ⟨w.heap.size + 1, 2, none⟩ = some (.bool false)) (by kernel_rfl) c2 (fun hHeld => ?_)
    refine' tk (i := 0) (v := _) rfl ?_ ?_
    rotate_left
    · (intro W hW; (try dsimp only at hW); go_simp; first | done | with_reducible rfl)
    try simp only [lay]
    refine' tk (i := 1) (v := _) rfl ?_ ?_
    rotate_left
    · (intro W hW; (try dsimp only at hW); have hW1 := hW; go_simp; first | done | with_reducible rfl)
    try simp only [lay]
    refine' tk (i := 2) (v := _) rfl ?_ ?_
    rotate_left
    · (intro W hW; (try dsimp only at hW); go_simp; first | done | with_reducible rfl)
    try simp only [lay]
    refine tf (i := 3) rfl ?_
    try simp only [lay]
    refine tf (i := 4) rfl ?_
    try simp only [lay]
    refine tf (i := 5) rfl ?_
    try simp only [lay]
    refine tf (i := 6) rfl ?_
    try simp only [lay]
    refine tf (i := 7) rfl ?_
    try simp only [lay]
    refine tf (i := 8) rfl ?_
    try simp only [lay]
    refine tf (i := 9) rfl ?_
    try simp only [lay]
    refine tf (i := 10) rfl ?_
    try simp only [lay]
    refine tf (i := 11) rfl ?_
    try simp only [lay]
    refine tf (i := 12) rfl ?_
    try simp only [lay]
    refine' tk (i := 13) (v := _) rfl ?_ ?_
    rotate_left
    · (intro W hW; (try dsimp only at hW); go_simp; first | done | with_reducible rfl)
    try simp only [lay]
    refine wpAnyH_done (by kernel_rfl) ?_ _
    clear hHeld
    go_wp2_with fail
    go_ret
    exact ⟨rfl, HBW.out _ HD.out⟩
  have h_hh := h
  clear h
  by_cases h : m.ki = 8
  case pos =>
    have HKI : Hid (m.ki = 8) := hid h
    clear h
    obtain rfl : P = #[.int .i64 0, .int .i64 0, .bool true, .bool false, .bool false, .bool false] := HPC.out.symm.trans (pt_kk HKI.out)
    obtain ⟨c0, c1, c2, c3, c4, c5⟩ := pt_cells (HPR.out _ HR0.out)
    obtain ⟨b, HQ⟩ : ∃ q : Bool, Hid (mayK m.kk = q) := ⟨_, hid rfl⟩
    obtain ⟨f, HF⟩ : ∃ q : Bool, Hid (sameK m.kk bkZ = q) := ⟨_, hid rfl⟩
    have HANS : Hid (ans = (b && !f)) := hid (by
      rw [← HAN.out, (kind_kk HKI.out).1, HQ.out]
      cases b with
      | false => rfl
      | true => rw [first_vi HQ.out, HF.out])
    go_upto_region 5 with (fail)
    have HD := hid (show Below w0.heap.size w0 w0.drew from HR0.out.drew)
    clear c0 c1 c2 c3 c4 c5
    obtain ⟨c0, c1, c2, c3, c4, c5⟩ := pt_cells (HPR.out _ HD.out)
    have l1 := (HP.out w0.drew HD.out).kk
    obtain ⟨G_kk, HG_kk⟩ : ∃ C : Array Value, Hid (bkc m.kk s3 = C) := ⟨_, hid rfl⟩
    rw [HG_kk.out] at l1
    have HS : Hid (∀ W, Below w0.heap.size w0 W → W.cell? ⟨w.heap.size + 1, 2, none⟩ = some (.bool true) ∧ loadK (.pointer (some ⟨w.heap.size, 274, none⟩)) W = .ok (.value (.agg G_kk)) W) := hid (fun W h => ⟨(pt_cells (HPR.out W h)).2.2.1, by have := (HP.out W h).kk; rw [HG_kk.out] at this; exact this⟩)
    obtain ⟨er, HER⟩ : ∃ x : Int, Hid ((if b = true then (0 : Int) else 1) = x) := ⟨_, hid rfl⟩
    have HCK : Hid (∀ W, Below w0.heap.size w0 W → Calls Tryz.prog 67 #[.agg G_kk] W fun e w' => e = .returned (.int .i64 er) ∧ Below W.heap.size W w') := hid (fun W h => by
      have := bkCheck_ok (.agg (bkc m.kk s3)) m.kk W ⟨_, rfl, HO.out.kk, (HE.out W (HBW.out W h)).2.2⟩ HLM.out.kk
      rw [HQ.out, HG_kk.out, HER.out] at this
      exact this)
    have HSA : Hid (∀ W x, Below w0.heap.size w0 W → BkV W x bkZ → Calls Tryz.prog 31 #[.agg G_kk, x] W fun e w' => e = .returned (.bool f) ∧ Below W.heap.size W w') := hid (fun W x h hx => by
      have := bkSame_ok (.agg (bkc m.kk s3)) x m.kk bkZ W ⟨_, rfl, HO.out.kk, (HE.out W (HBW.out W h)).2.2⟩ hx
      rw [HF.out, HG_kk.out] at this
      exact this)
    clear l1 c0 c1 c2 c3 c4 c5
    refine wp_region_held_drew (S := fun W => W.cell? ⟨w.heap.size + 1, 2, none⟩ = some (.bool true) ∧ loadK (.pointer (some ⟨w.heap.size, 274, none⟩)) W = .ok (.value (.agg G_kk)) W) (by kernel_rfl) (HS.out _ HD.out) (fun hHeld => ?_)
    refine' tk (i := 0) (v := _) rfl ?_ ?_
    rotate_left
    · (intro W hW; (try dsimp only at hW); go_simp; first | done | with_reducible rfl)
    try simp only [lay]
    refine' tk (i := 1) (v := _) rfl ?_ ?_
    rotate_left
    · (intro W hW; (try dsimp only at hW); have hW1 := hW.1; go_simp; first | done | with_reducible rfl)
    try simp only [lay]
    refine' tk (i := 2) (v := _) rfl ?_ ?_
    rotate_left
    · (intro W hW; (try dsimp only at hW); go_simp; first | done | with_reducible rfl)
    try simp only [lay]
    refine' tk (i := 3) (v := _) rfl ?_ ?_
    rotate_left
    · (intro W hW; (try dsimp only at hW); go_simp; first | done | with_reducible rfl)
    try simp only [lay]
    refine' tk (i := 4) (v := _) rfl (fun W hW => hW.2) ?_
    try simp only [lay]
    cases b with
    | false =>
      obtain rfl : ans = false := HANS.out
      obtain rfl : er = 1 := HER.out.symm
      refine call_on (i := 5) rfl (by kernel_rfl) (by rfl) (fun K hK => ?_)
      go_simp
      refine (HCK.out _ HD.out).mono ?_
      rintro e w1 ⟨rfl, hb1'⟩
      have hb1 := HD.out.trans (hb1'.mono HD.out.size)
      refine hK.out _ _ (HS.out _ hb1) (fun hHeld => ?_)
      clear hK K
      try simp only [lay]
      refine' tk (i := 6) (v := _) rfl ?_ ?_
      rotate_left
      · (intro W hW; (try dsimp only at hW); go_simp; first | done | with_reducible rfl)
      try simp only [lay]
      refine' tk (i := 7) (v := _) rfl ?_ ?_
      rotate_left
      · (intro W hW; (try dsimp only at hW); go_simp; first | done | with_reducible rfl)
      try simp only [lay]
      refine tf (i := 8) rfl ?_
      try simp only [lay]
      refine tf (i := 9) rfl ?_
      try simp only [lay]
      refine tf (i := 10) rfl ?_
      try simp only [lay]
      refine tf (i := 11) rfl ?_
      try simp only [lay]
      refine' tk (i := 12) (v := _) rfl ?_ ?_
      rotate_left
      · (intro W hW; (try dsimp only at hW); go_simp; first | done | with_reducible rfl)
      try simp only [lay]
      refine' tk (i := 13) (v := _) rfl ?_ ?_
      rotate_left
      · (intro W hW; (try dsimp only at hW); go_simp; first | done | with_reducible rfl)
      try simp only [lay]
      refine wpAnyH_done (by kernel_rfl) ?_ _
      clear hHeld
      go_wp2_with fail
      go_ret
      exact ⟨rfl, HBW.out _ hb1⟩
    | true =>
      obtain rfl : er = 0 := HER.out.symm
      refine call_on (i := 5) rfl (by kernel_rfl) (by rfl) (fun K hK => ?_)
      go_simp
      refine (HCK.out _ HD.out).mono ?_
      rintro e w1 ⟨rfl, hb1'⟩
      have hb1 := HD.out.trans (hb1'.mono HD.out.size)
      refine hK.out _ _ (HS.out _ hb1) (fun hHeld => ?_)
      clear hK K
      try simp only [lay]
      refine' tk (i := 6) (v := _) rfl ?_ ?_
      rotate_left
      · (intro W hW; (try dsimp only at hW); go_simp; first | done | with_reducible rfl)
      try simp only [lay]
      refine' tk (i := 7) (v := _) rfl ?_ ?_
      rotate_left
      · (intro W hW; (try dsimp only at hW); go_simp; first | done | with_reducible rfl)
      try simp only [lay]
      refine' tk (i := 8) (v := _) rfl ?_ ?_
      rotate_left
      · (intro W hW; (try dsimp only at hW); go_simp; first | done | with_reducible rfl)
      try simp only [lay]
      refine' tk (i := 9) (v := _) rfl (fun W hW => hW.2) ?_
      try simp only [lay]
      refine call_on (i := 10) rfl (by kernel_rfl) (by rfl) (fun K hK => ?_)
      go_simp
      refine (bkFirst_ok w1).mono ?_
      rintro e w2 ⟨x2, rfl, hx2, hb2'⟩
      have hb2 := hb1.trans (hb2'.mono hb1.size)
      refine hK.out _ _ (HS.out _ hb2) (fun hHeld => ?_)
      clear hK K
      try simp only [lay]
      cases f with
      | true =>
        obtain rfl : ans = false := by rw [HANS.out]; simp
        refine call_on (i := 11) rfl (by kernel_rfl) (by rfl) (fun K hK => ?_)
        go_simp
        refine (HSA.out w2 x2 hb2 hx2).mono ?_
        rintro e w3 ⟨rfl, hb3'⟩
        have hb3 := hb2.trans (hb3'.mono hb2.size)
        refine hK.out _ _ (HS.out _ hb3) (fun hHeld => ?_)
        clear hK K
        try simp only [lay]
        refine' tk (i := 12) (v := _) rfl ?_ ?_
        rotate_left
        · (intro W hW; (try dsimp only at hW); go_simp; first | done | with_reducible rfl)
        try simp only [lay]
        refine' tk (i := 13) (v := _) rfl ?_ ?_
        rotate_left
        · (intro W hW; (try dsimp only at hW); go_simp; first | done | with_reducible rfl)
        try simp only [lay]
        refine wpAnyH_done (by kernel_rfl) ?_ _
        clear hHeld
        go_wp2_with fail
        go_ret
        exact ⟨rfl, HBW.out _ hb3⟩
      | false =>
        refine call_on (i := 11) rfl (by kernel_rfl) (by rfl) (fun K hK => ?_)
        go_simp
        refine (HSA.out w2 x2 hb2 hx2).mono ?_
        rintro e w3 ⟨rfl, hb3'⟩
        have hb3 := hb2.trans (hb3'.mono hb2.size)
        refine hK.out _ _ (HS.out _ hb3) (fun hHeld => ?_)
        clear hK K
        try simp only [lay]
        refine' tk (i := 12) (v := _) rfl ?_ ?_
        rotate_left
        · (intro W hW; (try dsimp only at hW); go_simp; first | done | with_reducible rfl)
        try simp only [lay]
        refine' tk (i := 13) (v := _) rfl ?_ ?_
        rotate_left
        · (intro W hW; (try dsimp only at hW); go_simp; first | done | with_reducible rfl)
        try simp only [lay]
        refine wpAnyH_done (by kernel_rfl) ?_ _
        clear hHeld
        obtain rfl : ans = true := HANS.out
        obtain ⟨c0, c1, c2, c3, c4, c5⟩ := pt_cells (HPR.out _ hb3)
        go_wp2_with fail
        go_ret
        exact ⟨rfl, HBW.out _ hb3⟩
  have h_kk := h
  clear h
  by_cases h : m.ki = 9
  case pos =>
    have HKI : Hid (m.ki = 9) := hid h
    clear h
    obtain rfl : P = #[.int .i64 0, .int .i64 0, .bool false, .bool false, .bool false, .bool true] := HPC.out.symm.trans (pt_tt HKI.out)
    obtain ⟨c0, c1, c2, c3, c4, c5⟩ := pt_cells (HPR.out _ HR0.out)
    obtain ⟨b, HQ⟩ : ∃ q : Bool, Hid (mayT m.tt = q) := ⟨_, hid rfl⟩
    obtain rfl : ans = b := by rw [← HAN.out, (kind_tt HKI.out).1, HQ.out]
    go_upto_region 5 with (fail)
    have HD := hid (show Below w0.heap.size w0 w0.drew from HR0.out.drew)
    clear c0 c1 c2 c3 c4 c5
    obtain ⟨c0, c1, c2, c3, c4, c5⟩ := pt_cells (HPR.out _ HD.out)
    refine wp_region_held_drew (S := fun W => W.cell? ⟨w.heap.size + 1, 2, none⟩ = some (.bool false)) (by kernel_rfl) c2 (fun hHeld => ?_)
    refine' tk (i := 0) (v := _) rfl ?_ ?_
    rotate_left
    · (intro W hW; (try dsimp only at hW); go_simp; first | done | with_reducible rfl)
    try simp only [lay]
    refine' tk (i := 1) (v := _) rfl ?_ ?_
    rotate_left
    · (intro W hW; (try dsimp only at hW); have hW1 := hW; go_simp; first | done | with_reducible rfl)
    try simp only [lay]
    refine' tk (i := 2) (v := _) rfl ?_ ?_
    rotate_left
    · (intro W hW; (try dsimp only at hW); go_simp; first | done | with_reducible rfl)
    try simp only [lay]
    refine tf (i := 3) rfl ?_
    try simp only [lay]
    refine tf (i := 4) rfl ?_
    try simp only [lay]
    refine tf (i := 5) rfl ?_
    try simp only [lay]
    refine tf (i := 6) rfl ?_
    try simp only [lay]
    refine tf (i := 7) rfl ?_
    try simp only [lay]
    refine tf (i := 8) rfl ?_
    try simp only [lay]
    refine tf (i := 9) rfl ?_
    try simp only [lay]
    refine tf (i := 10) rfl ?_
    try simp only [lay]
    refine tf (i := 11) rfl ?_
    try simp only [lay]
    refine tf (i := 12) rfl ?_
    try simp only [lay]
    refine' tk (i := 13) (v := _) rfl ?_ ?_
    rotate_left
    · (intro W hW; (try dsimp only at hW); go_simp; first | done | with_reducible rfl)
    try simp only [lay]
    refine wpAnyH_done (by kernel_rfl) ?_ _
    clear hHeld
    have C := txCheck_any m.tt w0.drew HLM.out.tt.1 HLM.out.tt.2
    rw [HQ.out, txv_tcl] at C
    have l1 := (HP.out w0.drew HD.out).tt
    rw [txv_tcl] at l1
    obtain ⟨G_tt, HG_tt⟩ : ∃ C : Array Value, Hid ((tcl m.tt).toArray = C) := ⟨_, hid rfl⟩
    rw [HG_tt.out] at l1
    rw [HG_tt.out] at C
    obtain ⟨er, HER⟩ : ∃ x : Int, Hid ((if ans = true then (0 : Int) else 1) = x) := ⟨_, hid rfl⟩
    rw [HER.out] at C
    have HC := hid C
    clear C
    go_wp2_with fail
    refine HC.out.mono ?_
    rintro e w1 ⟨rfl, hb1'⟩
    have HB1 := hid (HD.out.trans (hb1'.mono HD.out.size))
    clear c0 c1 c2 c3 c4 c5 l1 hb1'
    cases ans with
    | false =>
      obtain rfl : er = 1 := HER.out.symm
      go_wp2_with fail
      go_ret
      exact ⟨rfl, HBW.out _ HB1.out⟩
    | true =>
      obtain rfl : er = 0 := HER.out.symm
      go_wp2_with fail
      go_ret
      exact ⟨rfl, HBW.out _ HB1.out⟩
  have h_tt := h
  clear h
  by_cases h : m.ki = 10
  case pos =>
    have HKI : Hid (m.ki = 10) := hid h
    clear h
    obtain rfl : P = #[.int .i64 0, .int .i64 0, .bool false, .bool true, .bool false, .bool false] := HPC.out.symm.trans (pt_xx HKI.out)
    obtain ⟨c0, c1, c2, c3, c4, c5⟩ := pt_cells (HPR.out _ HR0.out)
    obtain ⟨b, HQ⟩ : ∃ q : Bool, Hid (mayX m.xx = q) := ⟨_, hid rfl⟩
    obtain rfl : ans = b := by rw [← HAN.out, (kind_xx HKI.out).1, HQ.out]
    go_upto_region 5 with (fail)
    have HD := hid (show Below w0.heap.size w0 w0.drew from HR0.out.drew)
    clear c0 c1 c2 c3 c4 c5
    obtain ⟨c0, c1, c2, c3, c4, c5⟩ := pt_cells (HPR.out _ HD.out)
    refine wp_region_held_drew (S := fun W => W.cell? ⟨w.heap.size + 1, 2, none⟩ = some (.bool false)) (by kernel_rfl) c2 (fun hHeld => ?_)
    refine' tk (i := 0) (v := _) rfl ?_ ?_
    rotate_left
    · (intro W hW; (try dsimp only at hW); go_simp; first | done | with_reducible rfl)
    try simp only [lay]
    refine' tk (i := 1) (v := _) rfl ?_ ?_
    rotate_left
    · (intro W hW; (try dsimp only at hW); have hW1 := hW; go_simp; first | done | with_reducible rfl)
    try simp only [lay]
    refine' tk (i := 2) (v := _) rfl ?_ ?_
    rotate_left
    · (intro W hW; (try dsimp only at hW); go_simp; first | done | with_reducible rfl)
    try simp only [lay]
    refine tf (i := 3) rfl ?_
    try simp only [lay]
    refine tf (i := 4) rfl ?_
    try simp only [lay]
    refine tf (i := 5) rfl ?_
    try simp only [lay]
    refine tf (i := 6) rfl ?_
    try simp only [lay]
    refine tf (i := 7) rfl ?_
    try simp only [lay]
    refine tf (i := 8) rfl ?_
    try simp only [lay]
    refine tf (i := 9) rfl ?_
    try simp only [lay]
    refine tf (i := 10) rfl ?_
    try simp only [lay]
    refine tf (i := 11) rfl ?_
    try simp only [lay]
    refine tf (i := 12) rfl ?_
    try simp only [lay]
    refine' tk (i := 13) (v := _) rfl ?_ ?_
    rotate_left
    · (intro W hW; (try dsimp only at hW); go_simp; first | done | with_reducible rfl)
    try simp only [lay]
    refine wpAnyH_done (by kernel_rfl) ?_ _
    clear hHeld
    have C := acPut_ok (.slice none 0 0) (.agg (axc m.xx s2)) [] m.xx (w0.drew) (Byt.nil _) (by simp) ⟨_, rfl, HO.out.xx, (HE.out _ (HBW.out _ HD.out)).2.1⟩ HLM.out.fr
    obtain ⟨L, HL⟩ : ∃ l : List UInt8, Hid (putX [] m.xx = l) := ⟨_, hid rfl⟩
    have HLB : Hid ((L.length == 0) = !ans) := hid (by rw [← HL.out, putX_nil HO.out.xx, HQ.out])
    rw [HL.out] at C
    have l1 := (HP.out (w0.drew) HD.out).xx
    obtain ⟨G_xx, HG_xx⟩ : ∃ C : Array Value, Hid (axc m.xx s2 = C) := ⟨_, hid rfl⟩
    rw [HG_xx.out] at l1
    rw [HG_xx.out] at C
    have HC := hid C
    clear C
    go_wp2_with fail
    refine HC.out.mono ?_
    rintro e w9 ⟨x9, rfl, hx, hb9'⟩
    obtain ⟨A1, k, rfl⟩ := hx.shape
    obtain ⟨n, HN⟩ : ∃ n : Nat, Hid (L.length = n) := ⟨_, hid rfl⟩
    have hn : ((n : Int) == 0) = !ans := by have := HLB.out; rw [HN.out] at this; rw [← this, Bool.eq_iff_iff, beq_iff_eq, beq_iff_eq]; omega
    rw [HN.out]
    have HB9 := hid (HD.out.trans (hb9'.mono HD.out.size))
    clear c0 c1 c2 c3 c4 c5 l1 hb9' hx
    obtain ⟨c0, c1, c2, c3, c4, c5⟩ := pt_cells (HPR.out _ HB9.out)
    cases ans with
    | false =>
      have hn1 : ((n : Int) == 0) = true := hn
      clear hn
      go_wp2_with fail
      go_ret
      exact ⟨rfl, HBW.out _ HB9.out⟩
    | true =>
      have hn1 : ((n : Int) == 0) = false := hn
      clear hn
      go_wp2_with fail
      go_ret
      exact ⟨rfl, HBW.out _ HB9.out⟩
  have h_xx := h
  clear h
  by_cases h : m.ki = 2
  case pos =>
    have HKI : Hid (m.ki = 2) := hid h
    clear h
    obtain rfl : P = #[.int .i64 0, .int .i64 0, .bool true, .bool true, .bool false, .bool false] := HPC.out.symm.trans (pt_ka HKI.out)
    obtain ⟨c0, c1, c2, c3, c4, c5⟩ := pt_cells (HPR.out _ HR0.out)
    obtain ⟨b, HQ⟩ : ∃ q : Bool, Hid (mayK m.kk = q) := ⟨_, hid rfl⟩
    obtain ⟨f, HF⟩ : ∃ q : Bool, Hid (sameK m.kk bkZ = q) := ⟨_, hid rfl⟩
    obtain ⟨x, HX⟩ : ∃ q : Bool, Hid (mayX m.xx = q) := ⟨_, hid rfl⟩
    have HANS : Hid (ans = (b && (!f && x))) := hid (by
      rw [← HAN.out, (kind_ka HKI.out).1, HQ.out, HX.out]
      cases b with
      | false => rfl
      | true => rw [first_vi HQ.out, HF.out])
    go_upto_region 5 with (fail)
    have HD := hid (show Below w0.heap.size w0 w0.drew from HR0.out.drew)
    clear c0 c1 c2 c3 c4 c5
    obtain ⟨c0, c1, c2, c3, c4, c5⟩ := pt_cells (HPR.out _ HD.out)
    have l1 := (HP.out w0.drew HD.out).kk
    obtain ⟨G_kk, HG_kk⟩ : ∃ C : Array Value, Hid (bkc m.kk s3 = C) := ⟨_, hid rfl⟩
    rw [HG_kk.out] at l1
    have HS : Hid (∀ W, Below w0.heap.size w0 W → W.cell? ⟨w.heap.size + 1, 2, none⟩ = some (.bool true) ∧ loadK (.pointer (some ⟨w.heap.size, 274, none⟩)) W = .ok (.value (.agg G_kk)) W) := hid (fun W h => ⟨(pt_cells (HPR.out W h)).2.2.1, by have := (HP.out W h).kk; rw [HG_kk.out] at this; exact this⟩)
    obtain ⟨er, HER⟩ : ∃ x : Int, Hid ((if b = true then (0 : Int) else 1) = x) := ⟨_, hid rfl⟩
    have HCK : Hid (∀ W, Below w0.heap.size w0 W → Calls Tryz.prog 67 #[.agg G_kk] W fun e w' => e = .returned (.int .i64 er) ∧ Below W.heap.size W w') := hid (fun W h => by
      have := bkCheck_ok (.agg (bkc m.kk s3)) m.kk W ⟨_, rfl, HO.out.kk, (HE.out W (HBW.out W h)).2.2⟩ HLM.out.kk
      rw [HQ.out, HG_kk.out, HER.out] at this
      exact this)
    have HSA : Hid (∀ W x, Below w0.heap.size w0 W → BkV W x bkZ → Calls Tryz.prog 31 #[.agg G_kk, x] W fun e w' => e = .returned (.bool f) ∧ Below W.heap.size W w') := hid (fun W x h hx => by
      have := bkSame_ok (.agg (bkc m.kk s3)) x m.kk bkZ W ⟨_, rfl, HO.out.kk, (HE.out W (HBW.out W h)).2.2⟩ hx
      rw [HF.out, HG_kk.out] at this
      exact this)
    clear l1 c0 c1 c2 c3 c4 c5
    refine wp_region_held_drew (S := fun W => W.cell? ⟨w.heap.size + 1, 2, none⟩ = some (.bool true) ∧ loadK (.pointer (some ⟨w.heap.size, 274, none⟩)) W = .ok (.value (.agg G_kk)) W) (by kernel_rfl) (HS.out _ HD.out) (fun hHeld => ?_)
    refine' tk (i := 0) (v := _) rfl ?_ ?_
    rotate_left
    · (intro W hW; (try dsimp only at hW); go_simp; first | done | with_reducible rfl)
    try simp only [lay]
    refine' tk (i := 1) (v := _) rfl ?_ ?_
    rotate_left
    · (intro W hW; (try dsimp only at hW); have hW1 := hW.1; go_simp; first | done | with_reducible rfl)
    try simp only [lay]
    refine' tk (i := 2) (v := _) rfl ?_ ?_
    rotate_left
    · (intro W hW; (try dsimp only at hW); go_simp; first | done | with_reducible rfl)
    try simp only [lay]
    refine' tk (i := 3) (v := _) rfl ?_ ?_
    rotate_left
    · (intro W hW; (try dsimp only at hW); go_simp; first | done | with_reducible rfl)
    try simp only [lay]
    refine' tk (i := 4) (v := _) rfl (fun W hW => hW.2) ?_
    try simp only [lay]
    cases b with
    | false =>
      obtain rfl : ans = false := HANS.out
      obtain rfl : er = 1 := HER.out.symm
      refine call_on (i := 5) rfl (by kernel_rfl) (by rfl) (fun K hK => ?_)
      go_simp
      refine (HCK.out _ HD.out).mono ?_
      rintro e w1 ⟨rfl, hb1'⟩
      have hb1 := HD.out.trans (hb1'.mono HD.out.size)
      refine hK.out _ _ (HS.out _ hb1) (fun hHeld => ?_)
      clear hK K
      try simp only [lay]
      refine' tk (i := 6) (v := _) rfl ?_ ?_
      rotate_left
      · (intro W hW; (try dsimp only at hW); go_simp; first | done | with_reducible rfl)
      try simp only [lay]
      refine' tk (i := 7) (v := _) rfl ?_ ?_
      rotate_left
      · (intro W hW; (try dsimp only at hW); go_simp; first | done | with_reducible rfl)
      try simp only [lay]
      refine tf (i := 8) rfl ?_
      try simp only [lay]
      refine tf (i := 9) rfl ?_
      try simp only [lay]
      refine tf (i := 10) rfl ?_
      try simp only [lay]
      refine tf (i := 11) rfl ?_
      try simp only [lay]
      refine' tk (i := 12) (v := _) rfl ?_ ?_
      rotate_left
      · (intro W hW; (try dsimp only at hW); go_simp; first | done | with_reducible rfl)
      try simp only [lay]
      refine' tk (i := 13) (v := _) rfl ?_ ?_
      rotate_left
      · (intro W hW; (try dsimp only at hW); go_simp; first | done | with_reducible rfl)
      try simp only [lay]
      refine wpAnyH_done (by kernel_rfl) ?_ _
      clear hHeld
      go_wp2_with fail
      go_ret
      exact ⟨rfl, HBW.out _ hb1⟩
    | true =>
      obtain rfl : er = 0 := HER.out.symm
      refine call_on (i := 5) rfl (by kernel_rfl) (by rfl) (fun K hK => ?_)
      go_simp
      refine (HCK.out _ HD.out).mono ?_
      rintro e w1 ⟨rfl, hb1'⟩
      have hb1 := HD.out.trans (hb1'.mono HD.out.size)
      refine hK.out _ _ (HS.out _ hb1) (fun hHeld => ?_)
      clear hK K
      try simp only [lay]
      refine' tk (i := 6) (v := _) rfl ?_ ?_
      rotate_left
      · (intro W hW; (try dsimp only at hW); go_simp; first | done | with_reducible rfl)
      try simp only [lay]
      refine' tk (i := 7) (v := _) rfl ?_ ?_
      rotate_left
      · (intro W hW; (try dsimp only at hW); go_simp; first | done | with_reducible rfl)
      try simp only [lay]
      refine' tk (i := 8) (v := _) rfl ?_ ?_
      rotate_left
      · (intro W hW; (try dsimp only at hW); go_simp; first | done | with_reducible rfl)
      try simp only [lay]
      refine' tk (i := 9) (v := _) rfl (fun W hW => hW.2) ?_
      try simp only [lay]
      refine call_on (i := 10) rfl (by kernel_rfl) (by rfl) (fun K hK => ?_)
      go_simp
      refine (bkFirst_ok w1).mono ?_
      rintro e w2 ⟨x2, rfl, hx2, hb2'⟩
      have hb2 := hb1.trans (hb2'.mono hb1.size)
      refine hK.out _ _ (HS.out _ hb2) (fun hHeld => ?_)
      clear hK K
      try simp only [lay]
      cases f with
      | true =>
        obtain rfl : ans = false := by rw [HANS.out]; simp
        refine call_on (i := 11) rfl (by kernel_rfl) (by rfl) (fun K hK => ?_)
        go_simp
        refine (HSA.out w2 x2 hb2 hx2).mono ?_
        rintro e w3 ⟨rfl, hb3'⟩
        have hb3 := hb2.trans (hb3'.mono hb2.size)
        refine hK.out _ _ (HS.out _ hb3) (fun hHeld => ?_)
        clear hK K
        try simp only [lay]
        refine' tk (i := 12) (v := _) rfl ?_ ?_
        rotate_left
        · (intro W hW; (try dsimp only at hW); go_simp; first | done | with_reducible rfl)
        try simp only [lay]
        refine' tk (i := 13) (v := _) rfl ?_ ?_
        rotate_left
        · (intro W hW; (try dsimp only at hW); go_simp; first | done | with_reducible rfl)
        try simp only [lay]
        refine wpAnyH_done (by kernel_rfl) ?_ _
        clear hHeld
        go_wp2_with fail
        go_ret
        exact ⟨rfl, HBW.out _ hb3⟩
      | false =>
        refine call_on (i := 11) rfl (by kernel_rfl) (by rfl) (fun K hK => ?_)
        go_simp
        refine (HSA.out w2 x2 hb2 hx2).mono ?_
        rintro e w3 ⟨rfl, hb3'⟩
        have hb3 := hb2.trans (hb3'.mono hb2.size)
        refine hK.out _ _ (HS.out _ hb3) (fun hHeld => ?_)
        clear hK K
        try simp only [lay]
        refine' tk (i := 12) (v := _) rfl ?_ ?_
        rotate_left
        · (intro W hW; (try dsimp only at hW); go_simp; first | done | with_reducible rfl)
        try simp only [lay]
        refine' tk (i := 13) (v := _) rfl ?_ ?_
        rotate_left
        · (intro W hW; (try dsimp only at hW); go_simp; first | done | with_reducible rfl)
        try simp only [lay]
        refine wpAnyH_done (by kernel_rfl) ?_ _
        clear hHeld
        obtain rfl : ans = x := by rw [HANS.out]; simp
        have HB3 := hid hb3
        have HQ := HX
        clear hb1 hb1' hb2 hb2' hb3 hb3' hx2
        obtain ⟨c0, c1, c2, c3, c4, c5⟩ := pt_cells (HPR.out _ HB3.out)
        have C := acPut_ok (.slice none 0 0) (.agg (axc m.xx s2)) [] m.xx (w3) (Byt.nil _) (by simp) ⟨_, rfl, HO.out.xx, (HE.out _ (HBW.out _ HB3.out)).2.1⟩ HLM.out.fr
        obtain ⟨L, HL⟩ : ∃ l : List UInt8, Hid (putX [] m.xx = l) := ⟨_, hid rfl⟩
        have HLB : Hid ((L.length == 0) = !ans) := hid (by rw [← HL.out, putX_nil HO.out.xx, HQ.out])
        rw [HL.out] at C
        have l1 := (HP.out (w3) HB3.out).xx
        obtain ⟨G_xx, HG_xx⟩ : ∃ C : Array Value, Hid (axc m.xx s2 = C) := ⟨_, hid rfl⟩
        rw [HG_xx.out] at l1
        rw [HG_xx.out] at C
        have HC := hid C
        clear C
        go_wp2_with fail
        refine HC.out.mono ?_
        rintro e w9 ⟨x9, rfl, hx, hb9'⟩
        obtain ⟨A1, k, rfl⟩ := hx.shape
        obtain ⟨n, HN⟩ : ∃ n : Nat, Hid (L.length = n) := ⟨_, hid rfl⟩
        have hn : ((n : Int) == 0) = !ans := by have := HLB.out; rw [HN.out] at this; rw [← this, Bool.eq_iff_iff, beq_iff_eq, beq_iff_eq]; omega
        rw [HN.out]
        have HB9 := hid (HB3.out.trans (hb9'.mono HB3.out.size))
        clear c0 c1 c2 c3 c4 c5 l1 hb9' hx
        obtain ⟨c0, c1, c2, c3, c4, c5⟩ := pt_cells (HPR.out _ HB9.out)
        cases ans with
        | false =>
          have hn1 : ((n : Int) == 0) = true := hn
          clear hn
          go_wp2_with fail
          go_ret
          exact ⟨rfl, HBW.out _ HB9.out⟩
        | true =>
          have hn1 : ((n : Int) == 0) = false := hn
          clear hn
          go_wp2_with fail
          go_ret
          exact ⟨rfl, HBW.out _ HB9.out⟩
  have h_ka := h
  clear h
  exfalso
  have := HK.out
  unfold isA at h_aa
  unfold isC at h_cc
  omega
end Go.Proofs.YtjemfmbmlmogcaaGreat
