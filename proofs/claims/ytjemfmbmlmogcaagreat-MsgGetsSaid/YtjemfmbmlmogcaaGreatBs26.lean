/-
  MgMay: what each of them says stands at its head.
-/
import Derived.BigQuiet
import Derived.Deep.CutBlock
import Derived.Deep.DeepCutAuto
import Derived.Deep.QuietTactic
import Derived.Outline
import Derived.Test.YtjemfmbmlmogcaaGreatBs21
import Derived.Test.YtjemfmbmlmogcaaGreatBs12
import Derived.Test.YtjemfmbmlmogcaaGreatBs7
import Derived.Test.YtjemfmbmlmogcaaGreatBs17
import Derived.Test.YtjemfmbmlmogcaaGreatBs25
import Derived.Test.YtjemfmbmlmogcaaGreatBs4
namespace Go.Proofs.YtjemfmbmlmogcaaGreat
set_option maxRecDepth 20000
open Go.RowKit
attribute [local go_sem ↓] exec_load_att exec_load_ct exec_load_ax exec_load_bk exec_load_tx exec_load_hash exec_load_mg exec_alloc_mg exec_store_mg exec_build_mg3 exec_build_att exec_build_ct exec_build_ax exec_build_bk exec_build_tx exec_build_hash
def MyAt (w : World) (gx : Nat) (CM : Array Value) (m : MgM) (v : Value) (wx : World) : Prop := Below w.heap.size w wx ∧ wx.heap[w.heap.size]? = some (.cells CM 38 (0, 0)) ∧ ∃ k, v = .bool k ∧ kindM m = k ∧
  (k = true → ∃ t1 t2 t3, BoxM wx gx (clearM m) t1 t2 t3 ∧ (Els scl 33 wx t1 (clearM m).cc.sg ∧ Els icl 1 wx t2 (clearM m).xx.fr ∧ Txs wx t3 (clearM m).kk.txs))
theorem mayM_of {m : MgM} {k s : Bool} (hn : 1 ≤ m.fr ∧ m.fr ≤ 21 ∧ 1 ≤ m.tu ∧ m.tu ≤ 21 ∧ m.fr ≠ m.tu) (hk : kindM m = k) (hs : sameM (clearM m) (bareM m) = s) : mayM m = (k && s) := by
  unfold mayM
  rw [decide_eq_true hn, Bool.true_and, hk, hs]
set_option maxHeartbeats 25600000 in
theorem refMay11_any (v : Value) (m : MgM) (w : World) (hv : MgV w v m) (hlk : lightK m.kk) (hlt : m.tt.key.length ≤ 1000000 ∧ m.tt.val.length ≤ 1000000) :
    Calls Tryz.prog 8 #[v] w fun e w' => e = .returned (.bool (mayM m)) ∧ Below w.heap.size w w' := by
  obtain ⟨s1, s2, s3, rfl, ho, e1, e2, e3⟩ := hv
  have hb0 : Below w.heap.size w (w.alloc (.cells (mgc m s1 s2 s3) 38)) := (Below.refl _ _).alloc (Nat.le_refl _) _
  have hA0 : BoxM (w.alloc (.cells (mgc m s1 s2 s3) 38)) w.heap.size m s1 s2 s3 := heap_alloc_new w _
  have HE := hid (fun W (h : Below w.heap.size w W) => (show Els scl 33 W s1 m.cc.sg ∧ Els icl 1 W s2 m.xx.fr ∧ Txs W s3 m.kk.txs from ⟨e1.below h, e2.below h, e3.below h⟩))
  have HO := hid ho
  have HM8 := hid (fun W => refMay8_any m.aa W ho.aa)
  have HM9 := hid (fun W (h : Below w.heap.size w W) => refMay9_any (.agg (ctc m.cc s1)) m.cc W ⟨_, rfl, ho.cc, (HE.out W h).1⟩)
  have HM10 := hid (fun W (h : Below w.heap.size w W) => refMay10_any (.agg (axc m.xx s2)) m.xx W ⟨_, rfl, ho.xx, (HE.out W h).2.1⟩)
  have HM7 := hid (fun W (h : Below w.heap.size w W) => refMay7_any (.agg (bkc m.kk s3)) m.kk W ⟨_, rfl, ho.kk, (HE.out W h).2.2⟩ hlk)
  have HM6 := hid (fun W => refMay_any m.tt W hlt.1 hlt.2)
  obtain ⟨ans, HAN⟩ : ∃ q : Bool, Hid (mayM m = q) := ⟨_, hid rfl⟩
  rw [HAN.out]
  have HNO : Hid (¬ (1 ≤ m.fr ∧ m.fr ≤ 21 ∧ 1 ≤ m.tu ∧ m.tu ≤ 21 ∧ m.fr ≠ m.tu) → ans = false) := hid (fun h => by rw [← HAN.out]; unfold mayM; rw [decide_eq_false h, Bool.false_and])
  have HKS : Hid (∀ k s : Bool, (1 ≤ m.fr ∧ m.fr ≤ 21 ∧ 1 ≤ m.tu ∧ m.tu ≤ 21 ∧ m.fr ≠ m.tu) → kindM m = k → sameM (clearM m) (bareM m) = s → ans = (k && s)) := hid (fun k s hn h1 h2 => by rw [← HAN.out]; exact mayM_of hn h1 h2)
  have hal : ∀ W, allocMg W = .ok (.value (.pointer (some ⟨W.heap.size, 0, none⟩))) (W.alloc (.cells (mgc mgZ (.slice none 0 0) (.slice none 0 0) (.slice none 0 0)) 38)) := allocMg_eq
  obtain ⟨ZM, HZM⟩ : ∃ C : Array Value, Hid (mgc mgZ (.slice none 0 0) (.slice none 0 0) (.slice none 0 0) = C) := ⟨_, hid rfl⟩
  have HZS : Hid (ZM.size = 349) := hid (by rw [← HZM.out]; exact mgc_size _ _ _ mgZ_ok)
  rw [HZM.out] at hal
  obtain ⟨CM, HCM⟩ : ∃ C : Array Value, Hid (mgc m s1 s2 s3 = C) := ⟨_, hid rfl⟩
  have HCS : Hid (CM.size = 349 ∧ CM.all (·.oneCell') = true) := hid (by rw [← HCM.out]; exact ⟨mgc_size _ _ _ ho, mgc_one e1 e2 e3⟩)
  have HBX : Hid (∀ W g, W.heap[g]? = some (.cells CM 38 (0, 0)) → BoxM W g m s1 s2 s3) := hid (fun W g h => by rw [← HCM.out] at h; exact h)
  have HAL := hid hal
  rw [HCM.out] at hb0 hA0 ⊢
  clear ho e1 e2 e3 hlk hlt hal
  go_enter Tryz.func8, Tryz.ntmps8
  go_upto_region 1 with (fail)
  have hr0 : (w.alloc (.cells CM 38)).heap[w.heap.size]? = some (.cells CM 38 (0, 0)) := heap_alloc_new w _
  generalize (w.alloc (.cells CM 38)) = w0 at *
  have HB0 := hid hb0
  obtain ⟨k0, k1, k2⟩ := (HBX.out w0 _ hr0).ints
  obtain ⟨kn, HKN⟩ : ∃ n : Int, Hid (m.ki = n) := ⟨_, hid rfl⟩
  obtain ⟨fn, HFN⟩ : ∃ n : Int, Hid (m.fr = n) := ⟨_, hid rfl⟩
  obtain ⟨tn, HTN⟩ : ∃ n : Int, Hid (m.tu = n) := ⟨_, hid rfl⟩
  rw [HKN.out] at k0
  rw [HFN.out] at k1
  rw [HTN.out] at k2
  rw [HFN.out, HTN.out] at HNO HKS
  clear hA0 hb0
  by_cases h1 : fn < 1
  case pos =>
    obtain rfl : ans = false := HNO.out (by omega)
    go_wp2_with fail
    go_ret
    exact ⟨rfl, HB0.out⟩
  by_cases h2 : 21 < fn
  case pos =>
    obtain rfl : ans = false := HNO.out (by omega)
    go_wp2_with fail
    go_ret
    exact ⟨rfl, HB0.out⟩
  by_cases h3 : tn < 1
  case pos =>
    obtain rfl : ans = false := HNO.out (by omega)
    go_wp2_with fail
    go_ret
    exact ⟨rfl, HB0.out⟩
  by_cases h4 : 21 < tn
  case pos =>
    obtain rfl : ans = false := HNO.out (by omega)
    go_wp2_with fail
    go_ret
    exact ⟨rfl, HB0.out⟩
  by_cases h5 : fn = tn
  case pos =>
    obtain rfl : ans = false := HNO.out (by omega)
    have t5 : (fn == tn) = true := by simpa using h5
    clear h5
    go_wp2_with fail
    go_ret
    exact ⟨rfl, HB0.out⟩
  have t5 : (fn == tn) = false := by simpa using h5
  have HKS2 : Hid (∀ k s : Bool, kindM m = k → sameM (clearM m) (bareM m) = s → ans = (k && s)) := hid (fun k s h1 h2 => HKS.out k s (by omega) h1 h2)
  clear h5 HKS HNO
  have lM := loadMg_row hr0 HCS.out.1
  have hst := mg_var w0 HZS.out HCS.out.1 HCS.out.2
  have hal0 := HAL.out w0
  go_upto_region 4 with (fail)
  have hr1 := heap_alloc_new w0 (.cells CM 38)
  have hb1 : Below w0.heap.size w0 (w0.alloc (.cells CM 38)) := (Below.refl _ _).alloc (Nat.le_refl _) _
  have hlt0 := lt_of_block hr0
  have hr01 := (hb1.block _ hlt0).trans hr0
  have HB1 := hid (HB0.out.trans (hb1.mono HB0.out.size))
  clear h1 h2 h3 h4 t5 k0 k1 k2 lM hst hal0 hb1
  obtain ⟨gx, HGX⟩ : ∃ k : Nat, Hid (w0.heap.size = k) := ⟨_, hid rfl⟩
  rw [HGX.out] at hr1 hlt0 ⊢
  generalize (w0.alloc (.cells CM 38)) = w1 at *
  have HR0 := hid hr01
  have HX1 := hid (HBX.out w1 gx hr1)
  have HLT : Hid (w.heap.size < gx) := hid hlt0
  have HP : Hid (∀ W, Below w1.heap.size w1 W → PartsM W w.heap.size m s1 s2 s3) := hid (fun W h => ((HBX.out w1 _ HR0.out).keep h).parts HO.out)
  have HX : Hid (∀ W, Below w1.heap.size w1 W → BoxM W gx m s1 s2 s3) := hid (fun W h => HX1.out.keep h)
  have k0 := (HP.out w1 (Below.refl _ _)).ki
  rw [HKN.out] at k0
  clear hr0 hr1 hr01 hlt0
  go_upto_block 0 with (fail)
  go_cut [4] (fun s4 wx => MyAt w gx CM m s4 wx)
  case first =>
    by_cases g1 : kn = 1
    case pos =>
      subst g1
      have HKI : Hid (isA m.ki) := hid (by rw [HKN.out]; unfold isA; omega)
      clear HAL
      have l1 := (HP.out w1 (Below.refl _ _)).aa
      have C := HM8.out w1
      obtain ⟨q, HQ⟩ : ∃ q : Bool, Hid (mayA m.aa = q) := ⟨_, hid rfl⟩
      rw [HQ.out] at C
      obtain ⟨G, HG⟩ : ∃ C : Array Value, Hid (atc m.aa = C) := ⟨_, hid rfl⟩
      rw [HG.out] at l1 C
      have HC := hid C
      clear C
      go_wp2_with fail
      refine HC.out.mono ?_
      rintro e w2 ⟨rfl, hb2⟩
      clear l1
      have HB2 := hid (HB1.out.trans (hb2.mono HB1.out.size))
      cases q with
      | false =>
        have HKT : Hid (kindM m = false) := hid (by rw [(kind_aa HKI.out).1]; rw [HQ.out]; rfl)
        obtain ⟨N0, HN0⟩ : ∃ C : Array Value, Hid (atc atZ = C) := ⟨_, hid rfl⟩
        have hz0 : ∀ W, buildAtt W = .ok (.value (.agg N0)) W := fun W => by rw [← HN0.out]; exact buildAtt_eq W
        have HXB := hid (HX.out w2 hb2)
        go_upto_region 10 with (fail)
        go_wp2_with (refine wpList_store_maa rfl _ _ rfl atZ ⟨rfl, rfl, rfl⟩ rfl (by rw [HN0.out]; rfl) HXB.out HO.out ?_; intro wN hgN hXN hsN; clear HXB)
        have HXN := hid hXN
        have HRN : Hid (wN.heap[w.heap.size]? = some (.cells CM 38 (0, 0))) := hid ((hgN.block _ (Nat.lt_of_lt_of_le (lt_of_block HR0.out) (hb2).size) (fun e => by injection e with e; have := HLT.out; omega)).trans (((hb2).block _ (lt_of_block HR0.out)).trans HR0.out))
        have HBN : Hid (Below w.heap.size w wN) := hid (below_into (HB1.out.trans ((hb2).mono HB1.out.size)) (Nat.le_of_lt HLT.out) hgN (HB1.out.trans ((hb2).mono HB1.out.size)).size)
        clear hgN hXN hsN hz0
        go_meet
        exact ⟨HBN.out, HRN.out, false, by first | rfl | exact congrArg Value.bool (decide_eq_false (by omega)), HKT.out, fun h => by cases h⟩
      | true =>
        have c1 := (HP.out w2 hb2).ak
        have c2 := (HP.out w2 hb2).ki
        rw [HKN.out] at c2
        obtain ⟨an, HAK⟩ : ∃ x : Int, Hid (m.aa.ki = x) := ⟨_, hid rfl⟩
        rw [HAK.out] at c1
        have HF : Hid ((m.ki + 1) / 2 = 1) := hid (by rw [HKN.out]; rfl)
        by_cases ha : an = 1
        case neg =>
          have HKT : Hid (kindM m = false) := hid (by rw [(kind_aa HKI.out).1]; rw [HQ.out, HAK.out, HF.out, decide_eq_false ha]; rfl)
          have t1 : (an == 1) = false := by simpa using ha
          clear ha
          obtain ⟨N0, HN0⟩ : ∃ C : Array Value, Hid (atc atZ = C) := ⟨_, hid rfl⟩
          have hz0 : ∀ W, buildAtt W = .ok (.value (.agg N0)) W := fun W => by rw [← HN0.out]; exact buildAtt_eq W
          have HXB := hid (HX.out w2 hb2)
          go_upto_region 10 with (fail)
          go_wp2_with (refine wpList_store_maa rfl _ _ rfl atZ ⟨rfl, rfl, rfl⟩ rfl (by rw [HN0.out]; rfl) HXB.out HO.out ?_; intro wN hgN hXN hsN; clear HXB)
          have HXN := hid hXN
          have HRN : Hid (wN.heap[w.heap.size]? = some (.cells CM 38 (0, 0))) := hid ((hgN.block _ (Nat.lt_of_lt_of_le (lt_of_block HR0.out) (hb2).size) (fun e => by injection e with e; have := HLT.out; omega)).trans (((hb2).block _ (lt_of_block HR0.out)).trans HR0.out))
          have HBN : Hid (Below w.heap.size w wN) := hid (below_into (HB1.out.trans ((hb2).mono HB1.out.size)) (Nat.le_of_lt HLT.out) hgN (HB1.out.trans ((hb2).mono HB1.out.size)).size)
          clear hgN hXN hsN hz0
          go_meet
          exact ⟨HBN.out, HRN.out, false, by first | rfl | exact congrArg Value.bool (decide_eq_false (by omega)), HKT.out, fun h => by cases h⟩
        have HKT : Hid (kindM m = true) := hid (by rw [(kind_aa HKI.out).1, HQ.out, HAK.out, HF.out, decide_eq_true ha]; rfl)
        have t1 : (an == 1) = true := by simpa using ha
        clear ha
        obtain ⟨N0, HN0⟩ : ∃ C : Array Value, Hid (atc atZ = C) := ⟨_, hid rfl⟩
        have hz0 : ∀ W, buildAtt W = .ok (.value (.agg N0)) W := fun W => by rw [← HN0.out]; exact buildAtt_eq W
        have HXB := hid (HX.out w2 hb2)
        go_upto_region 10 with (fail)
        go_wp2_with (refine wpList_store_maa rfl _ _ rfl atZ ⟨rfl, rfl, rfl⟩ rfl (by rw [HN0.out]; rfl) HXB.out HO.out ?_; intro wN hgN hXN hsN; clear HXB)
        have HXN := hid hXN
        have HRN : Hid (wN.heap[w.heap.size]? = some (.cells CM 38 (0, 0))) := hid ((hgN.block _ (Nat.lt_of_lt_of_le (lt_of_block HR0.out) (hb2).size) (fun e => by injection e with e; have := HLT.out; omega)).trans (((hb2).block _ (lt_of_block HR0.out)).trans HR0.out))
        have HBN : Hid (Below w.heap.size w wN) := hid (below_into (HB1.out.trans ((hb2).mono HB1.out.size)) (Nat.le_of_lt HLT.out) hgN (HB1.out.trans ((hb2).mono HB1.out.size)).size)
        clear hgN hXN hsN hz0
        clear t1 c1 c2
        obtain ⟨cm, HCL0⟩ : ∃ c : MgM, Hid (({ m with aa := atZ } : MgM) = c) := ⟨_, hid rfl⟩
        have HCL : Hid (clearM m = cm) := hid (by rw [(kind_aa HKI.out).2]; exact HCL0.out)
        have HCO : Hid cm.Ok := hid (by rw [← HCL.out]; exact clearM_ok HO.out)
        rw [HCL0.out] at HXN
        have E := HE.out wN HBN.out
        have E : Els scl 33 wN s1 cm.cc.sg ∧ Els icl 1 wN s2 cm.xx.fr ∧ Txs wN s3 cm.kk.txs := (by rw [← HCL0.out]; exact ⟨E.1, E.2.1, E.2.2⟩)
        go_meet
        exact ⟨HBN.out, HRN.out, true, rfl, HKT.out, fun _ => ⟨_, _, _, by rw [HCL.out]; exact HXN.out, by rw [HCL.out]; exact E⟩⟩
    have u1 : (kn == 1) = false := by simpa using g1
    by_cases g3 : kn = 3
    case pos =>
      subst g3
      have HKI : Hid (isA m.ki) := hid (by rw [HKN.out]; unfold isA; omega)
      clear HAL
      have l1 := (HP.out w1 (Below.refl _ _)).aa
      have C := HM8.out w1
      obtain ⟨q, HQ⟩ : ∃ q : Bool, Hid (mayA m.aa = q) := ⟨_, hid rfl⟩
      rw [HQ.out] at C
      obtain ⟨G, HG⟩ : ∃ C : Array Value, Hid (atc m.aa = C) := ⟨_, hid rfl⟩
      rw [HG.out] at l1 C
      have HC := hid C
      clear C
      go_wp2_with fail
      refine HC.out.mono ?_
      rintro e w2 ⟨rfl, hb2⟩
      clear l1
      have HB2 := hid (HB1.out.trans (hb2.mono HB1.out.size))
      cases q with
      | false =>
        have HKT : Hid (kindM m = false) := hid (by rw [(kind_aa HKI.out).1]; rw [HQ.out]; rfl)
        obtain ⟨N0, HN0⟩ : ∃ C : Array Value, Hid (atc atZ = C) := ⟨_, hid rfl⟩
        have hz0 : ∀ W, buildAtt W = .ok (.value (.agg N0)) W := fun W => by rw [← HN0.out]; exact buildAtt_eq W
        have HXB := hid (HX.out w2 hb2)
        go_upto_region 10 with (fail)
        go_wp2_with (refine wpList_store_maa rfl _ _ rfl atZ ⟨rfl, rfl, rfl⟩ rfl (by rw [HN0.out]; rfl) HXB.out HO.out ?_; intro wN hgN hXN hsN; clear HXB)
        have HXN := hid hXN
        have HRN : Hid (wN.heap[w.heap.size]? = some (.cells CM 38 (0, 0))) := hid ((hgN.block _ (Nat.lt_of_lt_of_le (lt_of_block HR0.out) (hb2).size) (fun e => by injection e with e; have := HLT.out; omega)).trans (((hb2).block _ (lt_of_block HR0.out)).trans HR0.out))
        have HBN : Hid (Below w.heap.size w wN) := hid (below_into (HB1.out.trans ((hb2).mono HB1.out.size)) (Nat.le_of_lt HLT.out) hgN (HB1.out.trans ((hb2).mono HB1.out.size)).size)
        clear hgN hXN hsN hz0
        go_meet
        exact ⟨HBN.out, HRN.out, false, by first | rfl | exact congrArg Value.bool (decide_eq_false (by omega)), HKT.out, fun h => by cases h⟩
      | true =>
        have c1 := (HP.out w2 hb2).ak
        have c2 := (HP.out w2 hb2).ki
        rw [HKN.out] at c2
        obtain ⟨an, HAK⟩ : ∃ x : Int, Hid (m.aa.ki = x) := ⟨_, hid rfl⟩
        rw [HAK.out] at c1
        have HF : Hid ((m.ki + 1) / 2 = 2) := hid (by rw [HKN.out]; rfl)
        by_cases ha : an = 2
        case neg =>
          have HKT : Hid (kindM m = false) := hid (by rw [(kind_aa HKI.out).1]; rw [HQ.out, HAK.out, HF.out, decide_eq_false ha]; rfl)
          have t1 : (an == 2) = false := by simpa using ha
          clear ha
          obtain ⟨N0, HN0⟩ : ∃ C : Array Value, Hid (atc atZ = C) := ⟨_, hid rfl⟩
          have hz0 : ∀ W, buildAtt W = .ok (.value (.agg N0)) W := fun W => by rw [← HN0.out]; exact buildAtt_eq W
          have HXB := hid (HX.out w2 hb2)
          go_upto_region 10 with (fail)
          go_wp2_with (refine wpList_store_maa rfl _ _ rfl atZ ⟨rfl, rfl, rfl⟩ rfl (by rw [HN0.out]; rfl) HXB.out HO.out ?_; intro wN hgN hXN hsN; clear HXB)
          have HXN := hid hXN
          have HRN : Hid (wN.heap[w.heap.size]? = some (.cells CM 38 (0, 0))) := hid ((hgN.block _ (Nat.lt_of_lt_of_le (lt_of_block HR0.out) (hb2).size) (fun e => by injection e with e; have := HLT.out; omega)).trans (((hb2).block _ (lt_of_block HR0.out)).trans HR0.out))
          have HBN : Hid (Below w.heap.size w wN) := hid (below_into (HB1.out.trans ((hb2).mono HB1.out.size)) (Nat.le_of_lt HLT.out) hgN (HB1.out.trans ((hb2).mono HB1.out.size)).size)
          clear hgN hXN hsN hz0
          go_meet
          exact ⟨HBN.out, HRN.out, false, by first | rfl | exact congrArg Value.bool (decide_eq_false (by omega)), HKT.out, fun h => by cases h⟩
        have HKT : Hid (kindM m = true) := hid (by rw [(kind_aa HKI.out).1, HQ.out, HAK.out, HF.out, decide_eq_true ha]; rfl)
        have t1 : (an == 2) = true := by simpa using ha
        clear ha
        obtain ⟨N0, HN0⟩ : ∃ C : Array Value, Hid (atc atZ = C) := ⟨_, hid rfl⟩
        have hz0 : ∀ W, buildAtt W = .ok (.value (.agg N0)) W := fun W => by rw [← HN0.out]; exact buildAtt_eq W
        have HXB := hid (HX.out w2 hb2)
        go_upto_region 10 with (fail)
        go_wp2_with (refine wpList_store_maa rfl _ _ rfl atZ ⟨rfl, rfl, rfl⟩ rfl (by rw [HN0.out]; rfl) HXB.out HO.out ?_; intro wN hgN hXN hsN; clear HXB)
        have HXN := hid hXN
        have HRN : Hid (wN.heap[w.heap.size]? = some (.cells CM 38 (0, 0))) := hid ((hgN.block _ (Nat.lt_of_lt_of_le (lt_of_block HR0.out) (hb2).size) (fun e => by injection e with e; have := HLT.out; omega)).trans (((hb2).block _ (lt_of_block HR0.out)).trans HR0.out))
        have HBN : Hid (Below w.heap.size w wN) := hid (below_into (HB1.out.trans ((hb2).mono HB1.out.size)) (Nat.le_of_lt HLT.out) hgN (HB1.out.trans ((hb2).mono HB1.out.size)).size)
        clear hgN hXN hsN hz0
        clear t1 c1 c2
        obtain ⟨cm, HCL0⟩ : ∃ c : MgM, Hid (({ m with aa := atZ } : MgM) = c) := ⟨_, hid rfl⟩
        have HCL : Hid (clearM m = cm) := hid (by rw [(kind_aa HKI.out).2]; exact HCL0.out)
        have HCO : Hid cm.Ok := hid (by rw [← HCL.out]; exact clearM_ok HO.out)
        rw [HCL0.out] at HXN
        have E := HE.out wN HBN.out
        have E : Els scl 33 wN s1 cm.cc.sg ∧ Els icl 1 wN s2 cm.xx.fr ∧ Txs wN s3 cm.kk.txs := (by rw [← HCL0.out]; exact ⟨E.1, E.2.1, E.2.2⟩)
        go_meet
        exact ⟨HBN.out, HRN.out, true, rfl, HKT.out, fun _ => ⟨_, _, _, by rw [HCL.out]; exact HXN.out, by rw [HCL.out]; exact E⟩⟩
    have u3 : (kn == 3) = false := by simpa using g3
    by_cases g5 : kn = 5
    case pos =>
      subst g5
      have HKI : Hid (isA m.ki) := hid (by rw [HKN.out]; unfold isA; omega)
      clear HAL
      have l1 := (HP.out w1 (Below.refl _ _)).aa
      have C := HM8.out w1
      obtain ⟨q, HQ⟩ : ∃ q : Bool, Hid (mayA m.aa = q) := ⟨_, hid rfl⟩
      rw [HQ.out] at C
      obtain ⟨G, HG⟩ : ∃ C : Array Value, Hid (atc m.aa = C) := ⟨_, hid rfl⟩
      rw [HG.out] at l1 C
      have HC := hid C
      clear C
      go_wp2_with fail
      refine HC.out.mono ?_
      rintro e w2 ⟨rfl, hb2⟩
      clear l1
      have HB2 := hid (HB1.out.trans (hb2.mono HB1.out.size))
      cases q with
      | false =>
        have HKT : Hid (kindM m = false) := hid (by rw [(kind_aa HKI.out).1]; rw [HQ.out]; rfl)
        obtain ⟨N0, HN0⟩ : ∃ C : Array Value, Hid (atc atZ = C) := ⟨_, hid rfl⟩
        have hz0 : ∀ W, buildAtt W = .ok (.value (.agg N0)) W := fun W => by rw [← HN0.out]; exact buildAtt_eq W
        have HXB := hid (HX.out w2 hb2)
        go_upto_region 10 with (fail)
        go_wp2_with (refine wpList_store_maa rfl _ _ rfl atZ ⟨rfl, rfl, rfl⟩ rfl (by rw [HN0.out]; rfl) HXB.out HO.out ?_; intro wN hgN hXN hsN; clear HXB)
        have HXN := hid hXN
        have HRN : Hid (wN.heap[w.heap.size]? = some (.cells CM 38 (0, 0))) := hid ((hgN.block _ (Nat.lt_of_lt_of_le (lt_of_block HR0.out) (hb2).size) (fun e => by injection e with e; have := HLT.out; omega)).trans (((hb2).block _ (lt_of_block HR0.out)).trans HR0.out))
        have HBN : Hid (Below w.heap.size w wN) := hid (below_into (HB1.out.trans ((hb2).mono HB1.out.size)) (Nat.le_of_lt HLT.out) hgN (HB1.out.trans ((hb2).mono HB1.out.size)).size)
        clear hgN hXN hsN hz0
        go_meet
        exact ⟨HBN.out, HRN.out, false, by first | rfl | exact congrArg Value.bool (decide_eq_false (by omega)), HKT.out, fun h => by cases h⟩
      | true =>
        have c1 := (HP.out w2 hb2).ak
        have c2 := (HP.out w2 hb2).ki
        rw [HKN.out] at c2
        obtain ⟨an, HAK⟩ : ∃ x : Int, Hid (m.aa.ki = x) := ⟨_, hid rfl⟩
        rw [HAK.out] at c1
        have HF : Hid ((m.ki + 1) / 2 = 3) := hid (by rw [HKN.out]; rfl)
        by_cases ha : an = 3
        case neg =>
          have HKT : Hid (kindM m = false) := hid (by rw [(kind_aa HKI.out).1]; rw [HQ.out, HAK.out, HF.out, decide_eq_false ha]; rfl)
          have t1 : (an == 3) = false := by simpa using ha
          clear ha
          obtain ⟨N0, HN0⟩ : ∃ C : Array Value, Hid (atc atZ = C) := ⟨_, hid rfl⟩
          have hz0 : ∀ W, buildAtt W = .ok (.value (.agg N0)) W := fun W => by rw [← HN0.out]; exact buildAtt_eq W
          have HXB := hid (HX.out w2 hb2)
          go_upto_region 10 with (fail)
          go_wp2_with (refine wpList_store_maa rfl _ _ rfl atZ ⟨rfl, rfl, rfl⟩ rfl (by rw [HN0.out]; rfl) HXB.out HO.out ?_; intro wN hgN hXN hsN; clear HXB)
          have HXN := hid hXN
          have HRN : Hid (wN.heap[w.heap.size]? = some (.cells CM 38 (0, 0))) := hid ((hgN.block _ (Nat.lt_of_lt_of_le (lt_of_block HR0.out) (hb2).size) (fun e => by injection e with e; have := HLT.out; omega)).trans (((hb2).block _ (lt_of_block HR0.out)).trans HR0.out))
          have HBN : Hid (Below w.heap.size w wN) := hid (below_into (HB1.out.trans ((hb2).mono HB1.out.size)) (Nat.le_of_lt HLT.out) hgN (HB1.out.trans ((hb2).mono HB1.out.size)).size)
          clear hgN hXN hsN hz0
          go_meet
          exact ⟨HBN.out, HRN.out, false, by first | rfl | exact congrArg Value.bool (decide_eq_false (by omega)), HKT.out, fun h => by cases h⟩
        have HKT : Hid (kindM m = true) := hid (by rw [(kind_aa HKI.out).1, HQ.out, HAK.out, HF.out, decide_eq_true ha]; rfl)
        have t1 : (an == 3) = true := by simpa using ha
        clear ha
        obtain ⟨N0, HN0⟩ : ∃ C : Array Value, Hid (atc atZ = C) := ⟨_, hid rfl⟩
        have hz0 : ∀ W, buildAtt W = .ok (.value (.agg N0)) W := fun W => by rw [← HN0.out]; exact buildAtt_eq W
        have HXB := hid (HX.out w2 hb2)
        go_upto_region 10 with (fail)
        go_wp2_with (refine wpList_store_maa rfl _ _ rfl atZ ⟨rfl, rfl, rfl⟩ rfl (by rw [HN0.out]; rfl) HXB.out HO.out ?_; intro wN hgN hXN hsN; clear HXB)
        have HXN := hid hXN
        have HRN : Hid (wN.heap[w.heap.size]? = some (.cells CM 38 (0, 0))) := hid ((hgN.block _ (Nat.lt_of_lt_of_le (lt_of_block HR0.out) (hb2).size) (fun e => by injection e with e; have := HLT.out; omega)).trans (((hb2).block _ (lt_of_block HR0.out)).trans HR0.out))
        have HBN : Hid (Below w.heap.size w wN) := hid (below_into (HB1.out.trans ((hb2).mono HB1.out.size)) (Nat.le_of_lt HLT.out) hgN (HB1.out.trans ((hb2).mono HB1.out.size)).size)
        clear hgN hXN hsN hz0
        clear t1 c1 c2
        obtain ⟨cm, HCL0⟩ : ∃ c : MgM, Hid (({ m with aa := atZ } : MgM) = c) := ⟨_, hid rfl⟩
        have HCL : Hid (clearM m = cm) := hid (by rw [(kind_aa HKI.out).2]; exact HCL0.out)
        have HCO : Hid cm.Ok := hid (by rw [← HCL.out]; exact clearM_ok HO.out)
        rw [HCL0.out] at HXN
        have E := HE.out wN HBN.out
        have E : Els scl 33 wN s1 cm.cc.sg ∧ Els icl 1 wN s2 cm.xx.fr ∧ Txs wN s3 cm.kk.txs := (by rw [← HCL0.out]; exact ⟨E.1, E.2.1, E.2.2⟩)
        go_meet
        exact ⟨HBN.out, HRN.out, true, rfl, HKT.out, fun _ => ⟨_, _, _, by rw [HCL.out]; exact HXN.out, by rw [HCL.out]; exact E⟩⟩
    have u5 : (kn == 5) = false := by simpa using g5
    by_cases g2 : kn = 2
    case pos =>
      subst g2
      have HKI : Hid (m.ki = 2) := hid (HKN.out)
      clear HAL
      have l1 := (HP.out w1 (Below.refl _ _)).kk
      have C := HM7.out w1 HB1.out
      obtain ⟨q, HQ⟩ : ∃ q : Bool, Hid (mayK m.kk = q) := ⟨_, hid rfl⟩
      rw [HQ.out] at C
      obtain ⟨G, HG⟩ : ∃ C : Array Value, Hid (bkc m.kk s3 = C) := ⟨_, hid rfl⟩
      rw [HG.out] at l1 C
      have HC := hid C
      clear C
      go_wp2_with fail
      refine HC.out.mono ?_
      rintro e w2 ⟨rfl, hb2⟩
      clear l1
      have HB2 := hid (HB1.out.trans (hb2.mono HB1.out.size))
      cases q with
      | false =>
        have HKT : Hid (kindM m = false) := hid (by rw [(kind_ka HKI.out).1]; rw [HQ.out]; rfl)
        obtain ⟨N0, HN0⟩ : ∃ C : Array Value, Hid (bkc bkZ (.slice none 0 0) = C) := ⟨_, hid rfl⟩
        have hz0 : ∀ W, buildK W = .ok (.value (.agg N0)) W := fun W => by rw [← HN0.out]; exact buildK_eq W
        obtain ⟨N1, HN1⟩ : ∃ C : Array Value, Hid (axc acZ (.slice none 0 0) = C) := ⟨_, hid rfl⟩
        have hz1 : ∀ W, buildAx W = .ok (.value (.agg N1)) W := fun W => by rw [← HN1.out]; exact buildAx_eq W
        have HXB := hid (HX.out w2 hb2)
        go_upto_region 13 with (fail)
        go_wp2_with (first | (refine wpList_store_mkk rfl _ _ rfl bkZ (.slice none 0 0) bkZ_par (bkl_one (w := w) (Txs.nil w)) rfl (by rw [HN0.out]; rfl) HXB.out HO.out ?_; intro wL hgL hXL hsL; clear HXB; have HXL := hid hXL) | (refine wpList_store_mxx rfl _ _ rfl acZ (.slice none 0 0) acZ_ok (axl_one (w := w) (Els.nil w)) rfl (by rw [HN1.out]; rfl) HXL.out ⟨HO.out.aa, HO.out.cc, HO.out.xx, bkZ_par, HO.out.hh⟩ ?_; intro wN hgN hXN hsN; clear HXL))
        have HXN := hid hXN
        have HRN : Hid (wN.heap[w.heap.size]? = some (.cells CM 38 (0, 0))) := hid ((hgN.block _ (by rw [hsL]; exact Nat.lt_of_lt_of_le (lt_of_block HR0.out) (hb2).size) (fun e => by injection e with e; have := HLT.out; omega)).trans ((hgL.block _ (Nat.lt_of_lt_of_le (lt_of_block HR0.out) (hb2).size) (fun e => by injection e with e; have := HLT.out; omega)).trans (((hb2).block _ (lt_of_block HR0.out)).trans HR0.out)))
        have HBL : Hid (Below w.heap.size w wL) := hid (below_into (HB1.out.trans ((hb2).mono HB1.out.size)) (Nat.le_of_lt HLT.out) hgL (HB1.out.trans ((hb2).mono HB1.out.size)).size)
        have HBN : Hid (Below w.heap.size w wN) := hid (below_into HBL.out (Nat.le_of_lt HLT.out) hgN HBL.out.size)
        clear hgN hXN hsN hgL hXL hsL hz0 hz1
        go_meet
        exact ⟨HBN.out, HRN.out, false, by first | rfl | exact congrArg Value.bool (decide_eq_false (by omega)), HKT.out, fun h => by cases h⟩
      | true =>
        have c1 := (HP.out w2 hb2).kv
        obtain ⟨vn, HVK⟩ : ∃ x : Int, Hid (m.kk.vi = x) := ⟨_, hid rfl⟩
        rw [HVK.out] at c1
        by_cases hp : 0 < vn
        case neg =>
          have HKT : Hid (kindM m = false) := hid (by rw [(kind_ka HKI.out).1]; rw [HQ.out, HVK.out, decide_eq_false hp]; rfl)
          obtain ⟨N0, HN0⟩ : ∃ C : Array Value, Hid (bkc bkZ (.slice none 0 0) = C) := ⟨_, hid rfl⟩
          have hz0 : ∀ W, buildK W = .ok (.value (.agg N0)) W := fun W => by rw [← HN0.out]; exact buildK_eq W
          obtain ⟨N1, HN1⟩ : ∃ C : Array Value, Hid (axc acZ (.slice none 0 0) = C) := ⟨_, hid rfl⟩
          have hz1 : ∀ W, buildAx W = .ok (.value (.agg N1)) W := fun W => by rw [← HN1.out]; exact buildAx_eq W
          have HXB := hid (HX.out w2 hb2)
          go_upto_region 13 with (fail)
          go_wp2_with (first | (refine wpList_store_mkk rfl _ _ rfl bkZ (.slice none 0 0) bkZ_par (bkl_one (w := w) (Txs.nil w)) rfl (by rw [HN0.out]; rfl) HXB.out HO.out ?_; intro wL hgL hXL hsL; clear HXB; have HXL := hid hXL) | (refine wpList_store_mxx rfl _ _ rfl acZ (.slice none 0 0) acZ_ok (axl_one (w := w) (Els.nil w)) rfl (by rw [HN1.out]; rfl) HXL.out ⟨HO.out.aa, HO.out.cc, HO.out.xx, bkZ_par, HO.out.hh⟩ ?_; intro wN hgN hXN hsN; clear HXL))
          have HXN := hid hXN
          have HRN : Hid (wN.heap[w.heap.size]? = some (.cells CM 38 (0, 0))) := hid ((hgN.block _ (by rw [hsL]; exact Nat.lt_of_lt_of_le (lt_of_block HR0.out) (hb2).size) (fun e => by injection e with e; have := HLT.out; omega)).trans ((hgL.block _ (Nat.lt_of_lt_of_le (lt_of_block HR0.out) (hb2).size) (fun e => by injection e with e; have := HLT.out; omega)).trans (((hb2).block _ (lt_of_block HR0.out)).trans HR0.out)))
          have HBL : Hid (Below w.heap.size w wL) := hid (below_into (HB1.out.trans ((hb2).mono HB1.out.size)) (Nat.le_of_lt HLT.out) hgL (HB1.out.trans ((hb2).mono HB1.out.size)).size)
          have HBN : Hid (Below w.heap.size w wN) := hid (below_into HBL.out (Nat.le_of_lt HLT.out) hgN HBL.out.size)
          clear hgN hXN hsN hgL hXL hsL hz0 hz1
          go_meet
          exact ⟨HBN.out, HRN.out, false, by first | rfl | exact congrArg Value.bool (decide_eq_false (by omega)), HKT.out, fun h => by cases h⟩
        have l2 := (HP.out w2 hb2).xx
        have C := HM10.out w2 HB2.out
        obtain ⟨r, HR⟩ : ∃ q : Bool, Hid (mayX m.xx = q) := ⟨_, hid rfl⟩
        rw [HR.out] at C
        obtain ⟨G2, HG2⟩ : ∃ C : Array Value, Hid (axc m.xx s2 = C) := ⟨_, hid rfl⟩
        rw [HG2.out] at l2 C
        have HC2 := hid C
        clear C
        go_wp2_with fail
        refine HC2.out.mono ?_
        rintro e w3 ⟨rfl, hb3'⟩
        have hb3 := hb2.trans (hb3'.mono hb2.size)
        have HPV := hid hp
        clear l2 c1 hb3' hp
        cases r with
        | false =>
          have HKT : Hid (kindM m = false) := hid (by rw [(kind_ka HKI.out).1]; rw [HQ.out, HVK.out, decide_eq_true HPV.out, HR.out]; rfl)
          obtain ⟨N0, HN0⟩ : ∃ C : Array Value, Hid (bkc bkZ (.slice none 0 0) = C) := ⟨_, hid rfl⟩
          have hz0 : ∀ W, buildK W = .ok (.value (.agg N0)) W := fun W => by rw [← HN0.out]; exact buildK_eq W
          obtain ⟨N1, HN1⟩ : ∃ C : Array Value, Hid (axc acZ (.slice none 0 0) = C) := ⟨_, hid rfl⟩
          have hz1 : ∀ W, buildAx W = .ok (.value (.agg N1)) W := fun W => by rw [← HN1.out]; exact buildAx_eq W
          have HXB := hid (HX.out w3 hb3)
          go_upto_region 13 with (fail)
          go_wp2_with (first | (refine wpList_store_mkk rfl _ _ rfl bkZ (.slice none 0 0) bkZ_par (bkl_one (w := w) (Txs.nil w)) rfl (by rw [HN0.out]; rfl) HXB.out HO.out ?_; intro wL hgL hXL hsL; clear HXB; have HXL := hid hXL) | (refine wpList_store_mxx rfl _ _ rfl acZ (.slice none 0 0) acZ_ok (axl_one (w := w) (Els.nil w)) rfl (by rw [HN1.out]; rfl) HXL.out ⟨HO.out.aa, HO.out.cc, HO.out.xx, bkZ_par, HO.out.hh⟩ ?_; intro wN hgN hXN hsN; clear HXL))
          have HXN := hid hXN
          have HRN : Hid (wN.heap[w.heap.size]? = some (.cells CM 38 (0, 0))) := hid ((hgN.block _ (by rw [hsL]; exact Nat.lt_of_lt_of_le (lt_of_block HR0.out) (hb3).size) (fun e => by injection e with e; have := HLT.out; omega)).trans ((hgL.block _ (Nat.lt_of_lt_of_le (lt_of_block HR0.out) (hb3).size) (fun e => by injection e with e; have := HLT.out; omega)).trans (((hb3).block _ (lt_of_block HR0.out)).trans HR0.out)))
          have HBL : Hid (Below w.heap.size w wL) := hid (below_into (HB1.out.trans ((hb3).mono HB1.out.size)) (Nat.le_of_lt HLT.out) hgL (HB1.out.trans ((hb3).mono HB1.out.size)).size)
          have HBN : Hid (Below w.heap.size w wN) := hid (below_into HBL.out (Nat.le_of_lt HLT.out) hgN HBL.out.size)
          clear hgN hXN hsN hgL hXL hsL hz0 hz1
          go_meet
          exact ⟨HBN.out, HRN.out, false, by first | rfl | exact congrArg Value.bool (decide_eq_false (by omega)), HKT.out, fun h => by cases h⟩
        | true =>
          have HKT : Hid (kindM m = true) := hid (by rw [(kind_ka HKI.out).1, HQ.out, HVK.out, decide_eq_true HPV.out, HR.out]; rfl)
          obtain ⟨N0, HN0⟩ : ∃ C : Array Value, Hid (bkc bkZ (.slice none 0 0) = C) := ⟨_, hid rfl⟩
          have hz0 : ∀ W, buildK W = .ok (.value (.agg N0)) W := fun W => by rw [← HN0.out]; exact buildK_eq W
          obtain ⟨N1, HN1⟩ : ∃ C : Array Value, Hid (axc acZ (.slice none 0 0) = C) := ⟨_, hid rfl⟩
          have hz1 : ∀ W, buildAx W = .ok (.value (.agg N1)) W := fun W => by rw [← HN1.out]; exact buildAx_eq W
          have HXB := hid (HX.out w3 hb3)
          go_upto_region 13 with (fail)
          go_wp2_with (first | (refine wpList_store_mkk rfl _ _ rfl bkZ (.slice none 0 0) bkZ_par (bkl_one (w := w) (Txs.nil w)) rfl (by rw [HN0.out]; rfl) HXB.out HO.out ?_; intro wL hgL hXL hsL; clear HXB; have HXL := hid hXL) | (refine wpList_store_mxx rfl _ _ rfl acZ (.slice none 0 0) acZ_ok (axl_one (w := w) (Els.nil w)) rfl (by rw [HN1.out]; rfl) HXL.out ⟨HO.out.aa, HO.out.cc, HO.out.xx, bkZ_par, HO.out.hh⟩ ?_; intro wN hgN hXN hsN; clear HXL))
          have HXN := hid hXN
          have HRN : Hid (wN.heap[w.heap.size]? = some (.cells CM 38 (0, 0))) := hid ((hgN.block _ (by rw [hsL]; exact Nat.lt_of_lt_of_le (lt_of_block HR0.out) (hb3).size) (fun e => by injection e with e; have := HLT.out; omega)).trans ((hgL.block _ (Nat.lt_of_lt_of_le (lt_of_block HR0.out) (hb3).size) (fun e => by injection e with e; have := HLT.out; omega)).trans (((hb3).block _ (lt_of_block HR0.out)).trans HR0.out)))
          have HBL : Hid (Below w.heap.size w wL) := hid (below_into (HB1.out.trans ((hb3).mono HB1.out.size)) (Nat.le_of_lt HLT.out) hgL (HB1.out.trans ((hb3).mono HB1.out.size)).size)
          have HBN : Hid (Below w.heap.size w wN) := hid (below_into HBL.out (Nat.le_of_lt HLT.out) hgN HBL.out.size)
          clear hgN hXN hsN hgL hXL hsL hz0 hz1
          obtain ⟨cm, HCL0⟩ : ∃ c : MgM, Hid (({ m with kk := bkZ, xx := acZ } : MgM) = c) := ⟨_, hid rfl⟩
          have HCL : Hid (clearM m = cm) := hid (by rw [(kind_ka HKI.out).2]; exact HCL0.out)
          have HCO : Hid cm.Ok := hid (by rw [← HCL.out]; exact clearM_ok HO.out)
          rw [HCL0.out] at HXN
          have E := HE.out wN HBN.out
          have E : Els scl 33 wN s1 cm.cc.sg ∧ Els icl 1 wN (.slice none 0 0) cm.xx.fr ∧ Txs wN (.slice none 0 0) cm.kk.txs := (by rw [← HCL0.out]; exact ⟨E.1, Els.nil _, Txs.nil _⟩)
          go_meet
          exact ⟨HBN.out, HRN.out, true, rfl, HKT.out, fun _ => ⟨_, _, _, by rw [HCL.out]; exact HXN.out, by rw [HCL.out]; exact E⟩⟩
    have u2 : (kn == 2) = false := by simpa using g2
    by_cases g4 : kn = 4
    case pos =>
      subst g4
      have HKI : Hid (isC m.ki) := hid (by rw [HKN.out]; unfold isC; omega)
      clear HAL
      have l1 := (HP.out w1 (Below.refl _ _)).cc
      have C := HM9.out w1 HB1.out
      obtain ⟨q, HQ⟩ : ∃ q : Bool, Hid (mayC m.cc = q) := ⟨_, hid rfl⟩
      rw [HQ.out] at C
      obtain ⟨G, HG⟩ : ∃ C : Array Value, Hid (ctc m.cc s1 = C) := ⟨_, hid rfl⟩
      rw [HG.out] at l1 C
      have HC := hid C
      clear C
      go_wp2_with fail
      refine HC.out.mono ?_
      rintro e w2 ⟨rfl, hb2⟩
      clear l1
      have HB2 := hid (HB1.out.trans (hb2.mono HB1.out.size))
      cases q with
      | false =>
        have HKT : Hid (kindM m = false) := hid (by rw [(kind_cc HKI.out).1]; rw [HQ.out]; rfl)
        obtain ⟨N0, HN0⟩ : ∃ C : Array Value, Hid (ctc ctZ (.slice none 0 0) = C) := ⟨_, hid rfl⟩
        have hz0 : ∀ W, buildCt W = .ok (.value (.agg N0)) W := fun W => by rw [← HN0.out]; exact buildCt_eq W
        have HXB := hid (HX.out w2 hb2)
        go_upto_region 17 with (fail)
        go_wp2_with (refine wpList_store_mcc rfl _ _ rfl ctZ (.slice none 0 0) ctZ_ok.att (ctl_one (w := w) (Els.nil w)) rfl (by rw [HN0.out]; rfl) HXB.out HO.out ?_; intro wN hgN hXN hsN; clear HXB)
        have HXN := hid hXN
        have HRN : Hid (wN.heap[w.heap.size]? = some (.cells CM 38 (0, 0))) := hid ((hgN.block _ (Nat.lt_of_lt_of_le (lt_of_block HR0.out) (hb2).size) (fun e => by injection e with e; have := HLT.out; omega)).trans (((hb2).block _ (lt_of_block HR0.out)).trans HR0.out))
        have HBN : Hid (Below w.heap.size w wN) := hid (below_into (HB1.out.trans ((hb2).mono HB1.out.size)) (Nat.le_of_lt HLT.out) hgN (HB1.out.trans ((hb2).mono HB1.out.size)).size)
        clear hgN hXN hsN hz0
        go_meet
        exact ⟨HBN.out, HRN.out, false, by first | rfl | exact congrArg Value.bool (decide_eq_false (by omega)), HKT.out, fun h => by cases h⟩
      | true =>
        have c1 := (HP.out w2 hb2).ck
        have c2 := (HP.out w2 hb2).ki
        rw [HKN.out] at c2
        obtain ⟨an, HAK⟩ : ∃ x : Int, Hid (m.cc.att.ki = x) := ⟨_, hid rfl⟩
        rw [HAK.out] at c1
        have HF : Hid (m.ki / 2 = 2) := hid (by rw [HKN.out]; rfl)
        by_cases ha : an = 2
        case neg =>
          have HKT : Hid (kindM m = false) := hid (by rw [(kind_cc HKI.out).1]; rw [HQ.out, HAK.out, HF.out, decide_eq_false ha]; rfl)
          have t1 : (an == 2) = false := by simpa using ha
          clear ha
          obtain ⟨N0, HN0⟩ : ∃ C : Array Value, Hid (ctc ctZ (.slice none 0 0) = C) := ⟨_, hid rfl⟩
          have hz0 : ∀ W, buildCt W = .ok (.value (.agg N0)) W := fun W => by rw [← HN0.out]; exact buildCt_eq W
          have HXB := hid (HX.out w2 hb2)
          go_upto_region 17 with (fail)
          go_wp2_with (refine wpList_store_mcc rfl _ _ rfl ctZ (.slice none 0 0) ctZ_ok.att (ctl_one (w := w) (Els.nil w)) rfl (by rw [HN0.out]; rfl) HXB.out HO.out ?_; intro wN hgN hXN hsN; clear HXB)
          have HXN := hid hXN
          have HRN : Hid (wN.heap[w.heap.size]? = some (.cells CM 38 (0, 0))) := hid ((hgN.block _ (Nat.lt_of_lt_of_le (lt_of_block HR0.out) (hb2).size) (fun e => by injection e with e; have := HLT.out; omega)).trans (((hb2).block _ (lt_of_block HR0.out)).trans HR0.out))
          have HBN : Hid (Below w.heap.size w wN) := hid (below_into (HB1.out.trans ((hb2).mono HB1.out.size)) (Nat.le_of_lt HLT.out) hgN (HB1.out.trans ((hb2).mono HB1.out.size)).size)
          clear hgN hXN hsN hz0
          go_meet
          exact ⟨HBN.out, HRN.out, false, by first | rfl | exact congrArg Value.bool (decide_eq_false (by omega)), HKT.out, fun h => by cases h⟩
        have HKT : Hid (kindM m = true) := hid (by rw [(kind_cc HKI.out).1, HQ.out, HAK.out, HF.out, decide_eq_true ha]; rfl)
        have t1 : (an == 2) = true := by simpa using ha
        clear ha
        obtain ⟨N0, HN0⟩ : ∃ C : Array Value, Hid (ctc ctZ (.slice none 0 0) = C) := ⟨_, hid rfl⟩
        have hz0 : ∀ W, buildCt W = .ok (.value (.agg N0)) W := fun W => by rw [← HN0.out]; exact buildCt_eq W
        have HXB := hid (HX.out w2 hb2)
        go_upto_region 17 with (fail)
        go_wp2_with (refine wpList_store_mcc rfl _ _ rfl ctZ (.slice none 0 0) ctZ_ok.att (ctl_one (w := w) (Els.nil w)) rfl (by rw [HN0.out]; rfl) HXB.out HO.out ?_; intro wN hgN hXN hsN; clear HXB)
        have HXN := hid hXN
        have HRN : Hid (wN.heap[w.heap.size]? = some (.cells CM 38 (0, 0))) := hid ((hgN.block _ (Nat.lt_of_lt_of_le (lt_of_block HR0.out) (hb2).size) (fun e => by injection e with e; have := HLT.out; omega)).trans (((hb2).block _ (lt_of_block HR0.out)).trans HR0.out))
        have HBN : Hid (Below w.heap.size w wN) := hid (below_into (HB1.out.trans ((hb2).mono HB1.out.size)) (Nat.le_of_lt HLT.out) hgN (HB1.out.trans ((hb2).mono HB1.out.size)).size)
        clear hgN hXN hsN hz0
        clear t1 c1 c2
        obtain ⟨cm, HCL0⟩ : ∃ c : MgM, Hid (({ m with cc := ctZ } : MgM) = c) := ⟨_, hid rfl⟩
        have HCL : Hid (clearM m = cm) := hid (by rw [(kind_cc HKI.out).2]; exact HCL0.out)
        have HCO : Hid cm.Ok := hid (by rw [← HCL.out]; exact clearM_ok HO.out)
        rw [HCL0.out] at HXN
        have E := HE.out wN HBN.out
        have E : Els scl 33 wN (.slice none 0 0) cm.cc.sg ∧ Els icl 1 wN s2 cm.xx.fr ∧ Txs wN s3 cm.kk.txs := (by rw [← HCL0.out]; exact ⟨Els.nil _, E.2.1, E.2.2⟩)
        go_meet
        exact ⟨HBN.out, HRN.out, true, rfl, HKT.out, fun _ => ⟨_, _, _, by rw [HCL.out]; exact HXN.out, by rw [HCL.out]; exact E⟩⟩
    have u4 : (kn == 4) = false := by simpa using g4
    by_cases g6 : kn = 6
    case pos =>
      subst g6
      have HKI : Hid (isC m.ki) := hid (by rw [HKN.out]; unfold isC; omega)
      clear HAL
      have l1 := (HP.out w1 (Below.refl _ _)).cc
      have C := HM9.out w1 HB1.out
      obtain ⟨q, HQ⟩ : ∃ q : Bool, Hid (mayC m.cc = q) := ⟨_, hid rfl⟩
      rw [HQ.out] at C
      obtain ⟨G, HG⟩ : ∃ C : Array Value, Hid (ctc m.cc s1 = C) := ⟨_, hid rfl⟩
      rw [HG.out] at l1 C
      have HC := hid C
      clear C
      go_wp2_with fail
      refine HC.out.mono ?_
      rintro e w2 ⟨rfl, hb2⟩
      clear l1
      have HB2 := hid (HB1.out.trans (hb2.mono HB1.out.size))
      cases q with
      | false =>
        have HKT : Hid (kindM m = false) := hid (by rw [(kind_cc HKI.out).1]; rw [HQ.out]; rfl)
        obtain ⟨N0, HN0⟩ : ∃ C : Array Value, Hid (ctc ctZ (.slice none 0 0) = C) := ⟨_, hid rfl⟩
        have hz0 : ∀ W, buildCt W = .ok (.value (.agg N0)) W := fun W => by rw [← HN0.out]; exact buildCt_eq W
        have HXB := hid (HX.out w2 hb2)
        go_upto_region 17 with (fail)
        go_wp2_with (refine wpList_store_mcc rfl _ _ rfl ctZ (.slice none 0 0) ctZ_ok.att (ctl_one (w := w) (Els.nil w)) rfl (by rw [HN0.out]; rfl) HXB.out HO.out ?_; intro wN hgN hXN hsN; clear HXB)
        have HXN := hid hXN
        have HRN : Hid (wN.heap[w.heap.size]? = some (.cells CM 38 (0, 0))) := hid ((hgN.block _ (Nat.lt_of_lt_of_le (lt_of_block HR0.out) (hb2).size) (fun e => by injection e with e; have := HLT.out; omega)).trans (((hb2).block _ (lt_of_block HR0.out)).trans HR0.out))
        have HBN : Hid (Below w.heap.size w wN) := hid (below_into (HB1.out.trans ((hb2).mono HB1.out.size)) (Nat.le_of_lt HLT.out) hgN (HB1.out.trans ((hb2).mono HB1.out.size)).size)
        clear hgN hXN hsN hz0
        go_meet
        exact ⟨HBN.out, HRN.out, false, by first | rfl | exact congrArg Value.bool (decide_eq_false (by omega)), HKT.out, fun h => by cases h⟩
      | true =>
        have c1 := (HP.out w2 hb2).ck
        have c2 := (HP.out w2 hb2).ki
        rw [HKN.out] at c2
        obtain ⟨an, HAK⟩ : ∃ x : Int, Hid (m.cc.att.ki = x) := ⟨_, hid rfl⟩
        rw [HAK.out] at c1
        have HF : Hid (m.ki / 2 = 3) := hid (by rw [HKN.out]; rfl)
        by_cases ha : an = 3
        case neg =>
          have HKT : Hid (kindM m = false) := hid (by rw [(kind_cc HKI.out).1]; rw [HQ.out, HAK.out, HF.out, decide_eq_false ha]; rfl)
          have t1 : (an == 3) = false := by simpa using ha
          clear ha
          obtain ⟨N0, HN0⟩ : ∃ C : Array Value, Hid (ctc ctZ (.slice none 0 0) = C) := ⟨_, hid rfl⟩
          have hz0 : ∀ W, buildCt W = .ok (.value (.agg N0)) W := fun W => by rw [← HN0.out]; exact buildCt_eq W
          have HXB := hid (HX.out w2 hb2)
          go_upto_region 17 with (fail)
          go_wp2_with (refine wpList_store_mcc rfl _ _ rfl ctZ (.slice none 0 0) ctZ_ok.att (ctl_one (w := w) (Els.nil w)) rfl (by rw [HN0.out]; rfl) HXB.out HO.out ?_; intro wN hgN hXN hsN; clear HXB)
          have HXN := hid hXN
          have HRN : Hid (wN.heap[w.heap.size]? = some (.cells CM 38 (0, 0))) := hid ((hgN.block _ (Nat.lt_of_lt_of_le (lt_of_block HR0.out) (hb2).size) (fun e => by injection e with e; have := HLT.out; omega)).trans (((hb2).block _ (lt_of_block HR0.out)).trans HR0.out))
          have HBN : Hid (Below w.heap.size w wN) := hid (below_into (HB1.out.trans ((hb2).mono HB1.out.size)) (Nat.le_of_lt HLT.out) hgN (HB1.out.trans ((hb2).mono HB1.out.size)).size)
          clear hgN hXN hsN hz0
          go_meet
          exact ⟨HBN.out, HRN.out, false, by first | rfl | exact congrArg Value.bool (decide_eq_false (by omega)), HKT.out, fun h => by cases h⟩
        have HKT : Hid (kindM m = true) := hid (by rw [(kind_cc HKI.out).1, HQ.out, HAK.out, HF.out, decide_eq_true ha]; rfl)
        have t1 : (an == 3) = true := by simpa using ha
        clear ha
        obtain ⟨N0, HN0⟩ : ∃ C : Array Value, Hid (ctc ctZ (.slice none 0 0) = C) := ⟨_, hid rfl⟩
        have hz0 : ∀ W, buildCt W = .ok (.value (.agg N0)) W := fun W => by rw [← HN0.out]; exact buildCt_eq W
        have HXB := hid (HX.out w2 hb2)
        go_upto_region 17 with (fail)
        go_wp2_with (refine wpList_store_mcc rfl _ _ rfl ctZ (.slice none 0 0) ctZ_ok.att (ctl_one (w := w) (Els.nil w)) rfl (by rw [HN0.out]; rfl) HXB.out HO.out ?_; intro wN hgN hXN hsN; clear HXB)
        have HXN := hid hXN
        have HRN : Hid (wN.heap[w.heap.size]? = some (.cells CM 38 (0, 0))) := hid ((hgN.block _ (Nat.lt_of_lt_of_le (lt_of_block HR0.out) (hb2).size) (fun e => by injection e with e; have := HLT.out; omega)).trans (((hb2).block _ (lt_of_block HR0.out)).trans HR0.out))
        have HBN : Hid (Below w.heap.size w wN) := hid (below_into (HB1.out.trans ((hb2).mono HB1.out.size)) (Nat.le_of_lt HLT.out) hgN (HB1.out.trans ((hb2).mono HB1.out.size)).size)
        clear hgN hXN hsN hz0
        clear t1 c1 c2
        obtain ⟨cm, HCL0⟩ : ∃ c : MgM, Hid (({ m with cc := ctZ } : MgM) = c) := ⟨_, hid rfl⟩
        have HCL : Hid (clearM m = cm) := hid (by rw [(kind_cc HKI.out).2]; exact HCL0.out)
        have HCO : Hid cm.Ok := hid (by rw [← HCL.out]; exact clearM_ok HO.out)
        rw [HCL0.out] at HXN
        have E := HE.out wN HBN.out
        have E : Els scl 33 wN (.slice none 0 0) cm.cc.sg ∧ Els icl 1 wN s2 cm.xx.fr ∧ Txs wN s3 cm.kk.txs := (by rw [← HCL0.out]; exact ⟨Els.nil _, E.2.1, E.2.2⟩)
        go_meet
        exact ⟨HBN.out, HRN.out, true, rfl, HKT.out, fun _ => ⟨_, _, _, by rw [HCL.out]; exact HXN.out, by rw [HCL.out]; exact E⟩⟩
    have u6 : (kn == 6) = false := by simpa using g6
    by_cases g7 : kn = 7
    case pos =>
      subst g7
      have HKI : Hid (m.ki = 7) := hid (HKN.out)
      clear HAL
      obtain ⟨N0, HN0⟩ : ∃ C : Array Value, Hid (hcells z32 = C) := ⟨_, hid rfl⟩
      have hz0 : ∀ W, buildH W = .ok (.value (.agg N0)) W := fun W => by rw [← HN0.out]; exact (buildH_eq W).trans (by rw [fcells_nought]; rfl)
      have HXB := hid (HX.out w1 (Below.refl w1.heap.size w1))
      go_upto_region 20 with (fail)
      go_wp2_with (refine wpList_store_mhh rfl _ _ rfl z32 rfl rfl (by rw [HN0.out]; rfl) HXB.out HO.out ?_; intro wN hgN hXN hsN; clear HXB)
      have HXN := hid hXN
      have HRN : Hid (wN.heap[w.heap.size]? = some (.cells CM 38 (0, 0))) := hid ((hgN.block _ (Nat.lt_of_lt_of_le (lt_of_block HR0.out) ((Below.refl w1.heap.size w1)).size) (fun e => by injection e with e; have := HLT.out; omega)).trans ((((Below.refl w1.heap.size w1)).block _ (lt_of_block HR0.out)).trans HR0.out))
      have HBN : Hid (Below w.heap.size w wN) := hid (below_into (HB1.out.trans (((Below.refl w1.heap.size w1)).mono HB1.out.size)) (Nat.le_of_lt HLT.out) hgN (HB1.out.trans (((Below.refl w1.heap.size w1)).mono HB1.out.size)).size)
      clear hgN hXN hsN hz0
      have HKT : Hid (kindM m = true) := hid (kind_hh HKI.out).1
      obtain ⟨cm, HCL0⟩ : ∃ c : MgM, Hid (({ m with hh := z32 } : MgM) = c) := ⟨_, hid rfl⟩
      have HCL : Hid (clearM m = cm) := hid (by rw [(kind_hh HKI.out).2]; exact HCL0.out)
      have HCO : Hid cm.Ok := hid (by rw [← HCL.out]; exact clearM_ok HO.out)
      rw [HCL0.out] at HXN
      have E := HE.out wN HBN.out
      have E : Els scl 33 wN s1 cm.cc.sg ∧ Els icl 1 wN s2 cm.xx.fr ∧ Txs wN s3 cm.kk.txs := (by rw [← HCL0.out]; exact ⟨E.1, E.2.1, E.2.2⟩)
      go_meet
      exact ⟨HBN.out, HRN.out, true, rfl, HKT.out, fun _ => ⟨_, _, _, by rw [HCL.out]; exact HXN.out, by rw [HCL.out]; exact E⟩⟩
    have u7 : (kn == 7) = false := by simpa using g7
    by_cases g8 : kn = 8
    case pos =>
      subst g8
      have HKI : Hid (m.ki = 8) := hid (HKN.out)
      clear HAL
      have l1 := (HP.out w1 (Below.refl _ _)).kk
      have C := HM7.out w1 HB1.out
      obtain ⟨q, HQ⟩ : ∃ q : Bool, Hid (mayK m.kk = q) := ⟨_, hid rfl⟩
      rw [HQ.out] at C
      obtain ⟨G, HG⟩ : ∃ C : Array Value, Hid (bkc m.kk s3 = C) := ⟨_, hid rfl⟩
      rw [HG.out] at l1 C
      have HC := hid C
      clear C
      go_wp2_with fail
      refine HC.out.mono ?_
      rintro e w2 ⟨rfl, hb2⟩
      clear l1
      have HB2 := hid (HB1.out.trans (hb2.mono HB1.out.size))
      cases q with
      | false =>
        have HKT : Hid (kindM m = false) := hid (by rw [(kind_kk HKI.out).1]; rw [HQ.out]; rfl)
        obtain ⟨N0, HN0⟩ : ∃ C : Array Value, Hid (bkc bkZ (.slice none 0 0) = C) := ⟨_, hid rfl⟩
        have hz0 : ∀ W, buildK W = .ok (.value (.agg N0)) W := fun W => by rw [← HN0.out]; exact buildK_eq W
        have HXB := hid (HX.out w2 hb2)
        go_upto_region 23 with (fail)
        go_wp2_with (refine wpList_store_mkk rfl _ _ rfl bkZ (.slice none 0 0) bkZ_par (bkl_one (w := w) (Txs.nil w)) rfl (by rw [HN0.out]; rfl) HXB.out HO.out ?_; intro wN hgN hXN hsN; clear HXB)
        have HXN := hid hXN
        have HRN : Hid (wN.heap[w.heap.size]? = some (.cells CM 38 (0, 0))) := hid ((hgN.block _ (Nat.lt_of_lt_of_le (lt_of_block HR0.out) (hb2).size) (fun e => by injection e with e; have := HLT.out; omega)).trans (((hb2).block _ (lt_of_block HR0.out)).trans HR0.out))
        have HBN : Hid (Below w.heap.size w wN) := hid (below_into (HB1.out.trans ((hb2).mono HB1.out.size)) (Nat.le_of_lt HLT.out) hgN (HB1.out.trans ((hb2).mono HB1.out.size)).size)
        clear hgN hXN hsN hz0
        go_meet
        exact ⟨HBN.out, HRN.out, false, by first | rfl | exact congrArg Value.bool (decide_eq_false (by omega)), HKT.out, fun h => by cases h⟩
      | true =>
        have c1 := (HP.out w2 hb2).kv
        obtain ⟨vn, HVK⟩ : ∃ x : Int, Hid (m.kk.vi = x) := ⟨_, hid rfl⟩
        rw [HVK.out] at c1
        by_cases hp : 0 < vn
        case neg =>
          have HKT : Hid (kindM m = false) := hid (by rw [(kind_kk HKI.out).1]; rw [HQ.out, HVK.out, decide_eq_false hp]; rfl)
          obtain ⟨N0, HN0⟩ : ∃ C : Array Value, Hid (bkc bkZ (.slice none 0 0) = C) := ⟨_, hid rfl⟩
          have hz0 : ∀ W, buildK W = .ok (.value (.agg N0)) W := fun W => by rw [← HN0.out]; exact buildK_eq W
          have HXB := hid (HX.out w2 hb2)
          go_upto_region 23 with (fail)
          go_wp2_with (refine wpList_store_mkk rfl _ _ rfl bkZ (.slice none 0 0) bkZ_par (bkl_one (w := w) (Txs.nil w)) rfl (by rw [HN0.out]; rfl) HXB.out HO.out ?_; intro wN hgN hXN hsN; clear HXB)
          have HXN := hid hXN
          have HRN : Hid (wN.heap[w.heap.size]? = some (.cells CM 38 (0, 0))) := hid ((hgN.block _ (Nat.lt_of_lt_of_le (lt_of_block HR0.out) (hb2).size) (fun e => by injection e with e; have := HLT.out; omega)).trans (((hb2).block _ (lt_of_block HR0.out)).trans HR0.out))
          have HBN : Hid (Below w.heap.size w wN) := hid (below_into (HB1.out.trans ((hb2).mono HB1.out.size)) (Nat.le_of_lt HLT.out) hgN (HB1.out.trans ((hb2).mono HB1.out.size)).size)
          clear hgN hXN hsN hz0
          go_meet
          exact ⟨HBN.out, HRN.out, false, by first | rfl | exact congrArg Value.bool (decide_eq_false (by omega)), HKT.out, fun h => by cases h⟩
        have HKT : Hid (kindM m = true) := hid (by rw [(kind_kk HKI.out).1, HQ.out, HVK.out, decide_eq_true hp]; rfl)
        obtain ⟨N0, HN0⟩ : ∃ C : Array Value, Hid (bkc bkZ (.slice none 0 0) = C) := ⟨_, hid rfl⟩
        have hz0 : ∀ W, buildK W = .ok (.value (.agg N0)) W := fun W => by rw [← HN0.out]; exact buildK_eq W
        have HXB := hid (HX.out w2 hb2)
        go_upto_region 23 with (fail)
        go_wp2_with (refine wpList_store_mkk rfl _ _ rfl bkZ (.slice none 0 0) bkZ_par (bkl_one (w := w) (Txs.nil w)) rfl (by rw [HN0.out]; rfl) HXB.out HO.out ?_; intro wN hgN hXN hsN; clear HXB)
        have HXN := hid hXN
        have HRN : Hid (wN.heap[w.heap.size]? = some (.cells CM 38 (0, 0))) := hid ((hgN.block _ (Nat.lt_of_lt_of_le (lt_of_block HR0.out) (hb2).size) (fun e => by injection e with e; have := HLT.out; omega)).trans (((hb2).block _ (lt_of_block HR0.out)).trans HR0.out))
        have HBN : Hid (Below w.heap.size w wN) := hid (below_into (HB1.out.trans ((hb2).mono HB1.out.size)) (Nat.le_of_lt HLT.out) hgN (HB1.out.trans ((hb2).mono HB1.out.size)).size)
        clear hgN hXN hsN hz0
        clear hp c1
        obtain ⟨cm, HCL0⟩ : ∃ c : MgM, Hid (({ m with kk := bkZ } : MgM) = c) := ⟨_, hid rfl⟩
        have HCL : Hid (clearM m = cm) := hid (by rw [(kind_kk HKI.out).2]; exact HCL0.out)
        have HCO : Hid cm.Ok := hid (by rw [← HCL.out]; exact clearM_ok HO.out)
        rw [HCL0.out] at HXN
        have E := HE.out wN HBN.out
        have E : Els scl 33 wN s1 cm.cc.sg ∧ Els icl 1 wN s2 cm.xx.fr ∧ Txs wN (.slice none 0 0) cm.kk.txs := (by rw [← HCL0.out]; exact ⟨E.1, E.2.1, Txs.nil _⟩)
        go_meet
        exact ⟨HBN.out, HRN.out, true, rfl, HKT.out, fun _ => ⟨_, _, _, by rw [HCL.out]; exact HXN.out, by rw [HCL.out]; exact E⟩⟩
    have u8 : (kn == 8) = false := by simpa using g8
    by_cases g9 : kn = 9
    case pos =>
      subst g9
      have HKI : Hid (m.ki = 9) := hid (HKN.out)
      clear HAL
      have l1 := (HP.out w1 (Below.refl _ _)).tt
      have C := HM6.out w1
      obtain ⟨q, HQ⟩ : ∃ q : Bool, Hid (mayT m.tt = q) := ⟨_, hid rfl⟩
      rw [HQ.out] at C
      obtain ⟨G, HG⟩ : ∃ C : Value, Hid (txv m.tt = C) := ⟨_, hid rfl⟩
      rw [HG.out] at l1 C
      have HC := hid C
      clear C
      go_wp2_with fail
      refine HC.out.mono ?_
      rintro e w2 ⟨rfl, hb2⟩
      clear l1
      have HB2 := hid (HB1.out.trans (hb2.mono HB1.out.size))
      cases q with
      | false =>
        have HKT : Hid (kindM m = false) := hid (by rw [(kind_tt HKI.out).1]; exact HQ.out)
        obtain ⟨N0, HN0⟩ : ∃ C : Array Value, Hid ((tcl txZ).toArray = C) := ⟨_, hid rfl⟩
        have hz0 : ∀ W, buildTx W = .ok (.value (.agg N0)) W := fun W => by rw [← HN0.out]; exact buildTx_eq W
        have HXB := hid (HX.out w2 hb2)
        go_upto_region 26 with (fail)
        go_wp2_with (refine wpList_store_mtt rfl _ _ rfl txZ rfl (by rw [HN0.out]; rfl) HXB.out HO.out ?_; intro wN hgN hXN hsN; clear HXB)
        have HXN := hid hXN
        have HRN : Hid (wN.heap[w.heap.size]? = some (.cells CM 38 (0, 0))) := hid ((hgN.block _ (Nat.lt_of_lt_of_le (lt_of_block HR0.out) (hb2).size) (fun e => by injection e with e; have := HLT.out; omega)).trans (((hb2).block _ (lt_of_block HR0.out)).trans HR0.out))
        have HBN : Hid (Below w.heap.size w wN) := hid (below_into (HB1.out.trans ((hb2).mono HB1.out.size)) (Nat.le_of_lt HLT.out) hgN (HB1.out.trans ((hb2).mono HB1.out.size)).size)
        clear hgN hXN hsN hz0
        go_meet
        exact ⟨HBN.out, HRN.out, false, by first | rfl | exact congrArg Value.bool (decide_eq_false (by omega)), HKT.out, fun h => by cases h⟩
      | true =>
        have HKT : Hid (kindM m = true) := hid (by rw [(kind_tt HKI.out).1]; exact HQ.out)
        obtain ⟨N0, HN0⟩ : ∃ C : Array Value, Hid ((tcl txZ).toArray = C) := ⟨_, hid rfl⟩
        have hz0 : ∀ W, buildTx W = .ok (.value (.agg N0)) W := fun W => by rw [← HN0.out]; exact buildTx_eq W
        have HXB := hid (HX.out w2 hb2)
        go_upto_region 26 with (fail)
        go_wp2_with (refine wpList_store_mtt rfl _ _ rfl txZ rfl (by rw [HN0.out]; rfl) HXB.out HO.out ?_; intro wN hgN hXN hsN; clear HXB)
        have HXN := hid hXN
        have HRN : Hid (wN.heap[w.heap.size]? = some (.cells CM 38 (0, 0))) := hid ((hgN.block _ (Nat.lt_of_lt_of_le (lt_of_block HR0.out) (hb2).size) (fun e => by injection e with e; have := HLT.out; omega)).trans (((hb2).block _ (lt_of_block HR0.out)).trans HR0.out))
        have HBN : Hid (Below w.heap.size w wN) := hid (below_into (HB1.out.trans ((hb2).mono HB1.out.size)) (Nat.le_of_lt HLT.out) hgN (HB1.out.trans ((hb2).mono HB1.out.size)).size)
        clear hgN hXN hsN hz0
        obtain ⟨cm, HCL0⟩ : ∃ c : MgM, Hid (({ m with tt := txZ } : MgM) = c) := ⟨_, hid rfl⟩
        have HCL : Hid (clearM m = cm) := hid (by rw [(kind_tt HKI.out).2]; exact HCL0.out)
        have HCO : Hid cm.Ok := hid (by rw [← HCL.out]; exact clearM_ok HO.out)
        rw [HCL0.out] at HXN
        have E := HE.out wN HBN.out
        have E : Els scl 33 wN s1 cm.cc.sg ∧ Els icl 1 wN s2 cm.xx.fr ∧ Txs wN s3 cm.kk.txs := (by rw [← HCL0.out]; exact ⟨E.1, E.2.1, E.2.2⟩)
        go_meet
        exact ⟨HBN.out, HRN.out, true, rfl, HKT.out, fun _ => ⟨_, _, _, by rw [HCL.out]; exact HXN.out, by rw [HCL.out]; exact E⟩⟩
    have u9 : (kn == 9) = false := by simpa using g9
    by_cases g10 : kn = 10
    case pos =>
      subst g10
      have HKI : Hid (m.ki = 10) := hid (HKN.out)
      clear HAL
      have l1 := (HP.out w1 (Below.refl _ _)).xx
      have C := HM10.out w1 HB1.out
      obtain ⟨q, HQ⟩ : ∃ q : Bool, Hid (mayX m.xx = q) := ⟨_, hid rfl⟩
      rw [HQ.out] at C
      obtain ⟨G, HG⟩ : ∃ C : Array Value, Hid (axc m.xx s2 = C) := ⟨_, hid rfl⟩
      rw [HG.out] at l1 C
      have HC := hid C
      clear C
      go_wp2_with fail
      refine HC.out.mono ?_
      rintro e w2 ⟨rfl, hb2⟩
      clear l1
      have HB2 := hid (HB1.out.trans (hb2.mono HB1.out.size))
      cases q with
      | false =>
        have HKT : Hid (kindM m = false) := hid (by rw [(kind_xx HKI.out).1]; exact HQ.out)
        obtain ⟨N0, HN0⟩ : ∃ C : Array Value, Hid (axc acZ (.slice none 0 0) = C) := ⟨_, hid rfl⟩
        have hz0 : ∀ W, buildAx W = .ok (.value (.agg N0)) W := fun W => by rw [← HN0.out]; exact buildAx_eq W
        have HXB := hid (HX.out w2 hb2)
        go_upto_region 29 with (fail)
        go_wp2_with (refine wpList_store_mxx rfl _ _ rfl acZ (.slice none 0 0) acZ_ok (axl_one (w := w) (Els.nil w)) rfl (by rw [HN0.out]; rfl) HXB.out HO.out ?_; intro wN hgN hXN hsN; clear HXB)
        have HXN := hid hXN
        have HRN : Hid (wN.heap[w.heap.size]? = some (.cells CM 38 (0, 0))) := hid ((hgN.block _ (Nat.lt_of_lt_of_le (lt_of_block HR0.out) (hb2).size) (fun e => by injection e with e; have := HLT.out; omega)).trans (((hb2).block _ (lt_of_block HR0.out)).trans HR0.out))
        have HBN : Hid (Below w.heap.size w wN) := hid (below_into (HB1.out.trans ((hb2).mono HB1.out.size)) (Nat.le_of_lt HLT.out) hgN (HB1.out.trans ((hb2).mono HB1.out.size)).size)
        clear hgN hXN hsN hz0
        go_meet
        exact ⟨HBN.out, HRN.out, false, by first | rfl | exact congrArg Value.bool (decide_eq_false (by omega)), HKT.out, fun h => by cases h⟩
      | true =>
        have HKT : Hid (kindM m = true) := hid (by rw [(kind_xx HKI.out).1]; exact HQ.out)
        obtain ⟨N0, HN0⟩ : ∃ C : Array Value, Hid (axc acZ (.slice none 0 0) = C) := ⟨_, hid rfl⟩
        have hz0 : ∀ W, buildAx W = .ok (.value (.agg N0)) W := fun W => by rw [← HN0.out]; exact buildAx_eq W
        have HXB := hid (HX.out w2 hb2)
        go_upto_region 29 with (fail)
        go_wp2_with (refine wpList_store_mxx rfl _ _ rfl acZ (.slice none 0 0) acZ_ok (axl_one (w := w) (Els.nil w)) rfl (by rw [HN0.out]; rfl) HXB.out HO.out ?_; intro wN hgN hXN hsN; clear HXB)
        have HXN := hid hXN
        have HRN : Hid (wN.heap[w.heap.size]? = some (.cells CM 38 (0, 0))) := hid ((hgN.block _ (Nat.lt_of_lt_of_le (lt_of_block HR0.out) (hb2).size) (fun e => by injection e with e; have := HLT.out; omega)).trans (((hb2).block _ (lt_of_block HR0.out)).trans HR0.out))
        have HBN : Hid (Below w.heap.size w wN) := hid (below_into (HB1.out.trans ((hb2).mono HB1.out.size)) (Nat.le_of_lt HLT.out) hgN (HB1.out.trans ((hb2).mono HB1.out.size)).size)
        clear hgN hXN hsN hz0
        obtain ⟨cm, HCL0⟩ : ∃ c : MgM, Hid (({ m with xx := acZ } : MgM) = c) := ⟨_, hid rfl⟩
        have HCL : Hid (clearM m = cm) := hid (by rw [(kind_xx HKI.out).2]; exact HCL0.out)
        have HCO : Hid cm.Ok := hid (by rw [← HCL.out]; exact clearM_ok HO.out)
        rw [HCL0.out] at HXN
        have E := HE.out wN HBN.out
        have E : Els scl 33 wN s1 cm.cc.sg ∧ Els icl 1 wN (.slice none 0 0) cm.xx.fr ∧ Txs wN s3 cm.kk.txs := (by rw [← HCL0.out]; exact ⟨E.1, Els.nil _, E.2.2⟩)
        go_meet
        exact ⟨HBN.out, HRN.out, true, rfl, HKT.out, fun _ => ⟨_, _, _, by rw [HCL.out]; exact HXN.out, by rw [HCL.out]; exact E⟩⟩
    have u10 : (kn == 10) = false := by simpa using g10
    have HKT : Hid (kindM m = false) := hid (kind_no (by rw [HKN.out]; omega)).1
    clear g1 g2 g3 g4 g5 g6 g7 g8 g9 g10
    have HBN := HB1
    have HRN := HR0
    go_wp2_with fail
    go_meet
    exact ⟨HBN.out, HRN.out, false, rfl, HKT.out, fun h => by cases h⟩
  case rest =>
    clear k0
    obtain ⟨hbn, hrn, k, rfl, hkd, hyes⟩ := hcut
    have HBN := hid hbn
    have HRN := hid hrn
    have HKT := hid hkd
    clear hbn hrn hkd
    cases k with
    | false =>
      obtain rfl : ans = false := HKS2.out false _ HKT.out rfl
      go_wp2_with fail
      go_ret
      exact ⟨rfl, HBN.out⟩
    | true =>
      obtain ⟨t1, t2, t3, hx, E⟩ := hyes rfl
      obtain ⟨cm, HCL⟩ : ∃ c : MgM, Hid (clearM m = c) := ⟨_, hid rfl⟩
      have HCO : Hid cm.Ok := hid (by rw [← HCL.out]; exact clearM_ok HO.out)
      rw [HCL.out] at hx E
      have HXN := hid hx
      clear hx hyes
      have HPN := ((HBX.out wc _ HRN.out).parts HO.out)
      have a0 := HPN.ki
      have a1 := HPN.fr
      have a2 := HPN.tu
      rw [HKN.out] at a0
      rw [HFN.out] at a1
      rw [HTN.out] at a2
      obtain ⟨XC, HXC⟩ : ∃ C : Array Value, Hid (mgc cm t1 t2 t3 = C) := ⟨_, hid rfl⟩
      have lX : loadMg (.pointer (some ⟨gx, 0, none⟩)) wc = .ok (.value (.agg XC)) wc := loadMg_row (by rw [← HXC.out]; exact HXN.out) (by rw [← HXC.out]; exact mgc_size _ _ _ HCO.out)
      have hbm : ∀ W, buildMg3 (.int .i64 kn) (.int .i64 fn) (.int .i64 tn) W = .ok (.value (.agg (mgc (bareM m) (.slice none 0 0) (.slice none 0 0) (.slice none 0 0)))) W := fun W => by
        rw [buildMg3_eq, ← HKN.out, ← HFN.out, ← HTN.out]
        rfl
      obtain ⟨YC, HYC⟩ : ∃ C : Array Value, Hid (mgc (bareM m) (.slice none 0 0) (.slice none 0 0) (.slice none 0 0) = C) := ⟨_, hid rfl⟩
      rw [HYC.out] at hbm
      have HSA := hid (refSame11_any (.agg (mgc cm t1 t2 t3)) (.agg (mgc (bareM m) (.slice none 0 0) (.slice none 0 0) (.slice none 0 0))) cm (bareM m) wc ⟨_, _, _, rfl, HCO.out, E.1, E.2.1, E.2.2⟩ ⟨_, _, _, rfl, bareM_ok m, Els.nil _, Els.nil _, Txs.nil _⟩)
      rw [HXC.out, HYC.out] at HSA
      obtain ⟨sm, HSM⟩ : ∃ q : Bool, Hid (sameM cm (bareM m) = q) := ⟨_, hid rfl⟩
      rw [HSM.out] at HSA
      obtain rfl : ans = sm := by rw [HKS2.out true (sameM cm (bareM m)) HKT.out (by rw [HCL.out]), HSM.out, Bool.true_and]
      go_wp2_with fail
      refine HSA.out.mono ?_
      rintro e w9 ⟨rfl, hb9⟩
      have HB9 := hid (HBN.out.trans (hb9.mono HBN.out.size))
      clear a0 a1 a2 lX hbm hb9 HPN
      go_wp2_with fail
      go_ret
      exact ⟨rfl, HB9.out⟩
end Go.Proofs.YtjemfmbmlmogcaaGreat
