/-
  MgBytes MgAwake MgCodeParts MgSo: what each of them says stands at its head.
-/
import Derived.BigQuiet
import Derived.Deep.DeepCutAuto
import Derived.Deep.QuietTactic
import Derived.Outline
import Derived.Test.YtjemfmbmlmogcaaGreatBs22
import Derived.Test.YtjemfmbmlmogcaaGreatBs12
import Derived.Test.YtjemfmbmlmogcaaGreatBs6
import Derived.Test.YtjemfmbmlmogcaaGreatBs7
import Derived.Test.YtjemfmbmlmogcaaGreatBs18
import Derived.Test.YtjemfmbmlmogcaaGreatBs25
import Derived.Test.YtjemfmbmlmogcaaGreatBs2
import Derived.Test.YtjemfmbmlmogcaaGreatBs4
import Derived.Deep.RegionHeld3
import Derived.Deep.RegionWith
import Derived.LaidMore
import Derived.Laws.IdiomCopy
import Derived.Lib.LaidTab
import Derived.LoopTactic
import Derived.MakeChecks
import Derived.OpenShut
import Derived.StillTailTactics
import Derived.Stop.Joined
import Derived.Stop.LaidErr
import Derived.Test.YtjemfmbmlmogcaaGreatBs23
import Derived.Test.YtjemfmbmlmogcaaGreatBs24
import Derived.Test.YtjemfmbmlmogcaaGreatBs13
import Derived.Test.YtjemfmbmlmogcaaGreatBs14
import Derived.Test.YtjemfmbmlmogcaaGreatBs11
import Derived.Test.YtjemfmbmlmogcaaGreatBs10
import Derived.Test.YtjemfmbmlmogcaaGreatBs8
import Derived.Test.YtjemfmbmlmogcaaGreatBs9
import Derived.Test.YtjemfmbmlmogcaaGreatBs19
import Derived.Test.YtjemfmbmlmogcaaGreatBs20
import Derived.Test.YtjemfmbmlmogcaaGreatBs3
import Derived.Test.YtjemfmbmlmogcaaGreatBs1
import Derived.Test.YtjemfmbmlmogcaaGreatBs5
import Derived.Test.YtjemfmbmlmogcaaGreatBs15
namespace Go.Proofs.YtjemfmbmlmogcaaGreat
set_option maxRecDepth 20000
open Go.RowKit
attribute [local go_sem ↓] exec_load_att exec_load_ct exec_load_ax exec_load_bk exec_load_tx exec_load_hash
theorem three_own (w : World) (a b c : Nat) (ha : a < 256) (hb : b < 256) (hc : c < 256) : Own w.heap.size (w.alloc (.cells #[.int .u8 (a : Int), .int .u8 (b : Int), .int .u8 (c : Int)] 5)) (.slice (some ⟨w.heap.size, 0, none⟩) 3 3) [UInt8.ofNat a, UInt8.ofNat b, UInt8.ofNat c] :=
  own_of_blk (l := [UInt8.ofNat a, UInt8.ofNat b, UInt8.ofNat c]) (by
    have e : ∀ n : Nat, n < 256 → (n : Int) = ((UInt8.ofNat n).toNat : Int) := fun n h => by rw [UInt8.toNat_ofNat']; omega
    rw [e a ha, e b hb, e c hc]
    exact heap_alloc_new w _) (Nat.le_refl _) rfl (by unfold maxLen; omega)
theorem mayM_kind {m : MgM} (h : mayM m = true) : kindM m = true := by
  unfold mayM at h
  simp only [Bool.and_eq_true] at h
  exact h.2.1
set_option maxHeartbeats 12800000 in
theorem refBytes11_any (v : Value) (m : MgM) (w : World) (hv : MgV w v m) (hm : mayM m = true) :
    Calls Tryz.prog 14 #[v] w fun e w' => ∃ x, e = .returned x ∧ Own w.heap.size w' x (bytesM m) ∧ Below w.heap.size w w' := by
  obtain ⟨s1, s2, s3, rfl, ho, e1, e2, e3⟩ := hv
  obtain ⟨⟨f1, f2, f3, f4, _⟩, hh⟩ := mayM_has hm
  obtain ⟨g1, g2⟩ := hh.ki
  have HKD := hid (mayM_kind hm)
  have hb0 : Below w.heap.size w (w.alloc (.cells (mgc m s1 s2 s3) 38)) := (Below.refl _ _).alloc (Nat.le_refl _) _
  have hA0 : BoxM (w.alloc (.cells (mgc m s1 s2 s3) 38)) w.heap.size m s1 s2 s3 := heap_alloc_new w _
  have HE := hid (fun W (h : Below w.heap.size w W) => (show Els scl 33 W s1 m.cc.sg ∧ Els icl 1 W s2 m.xx.fr ∧ Txs W s3 m.kk.txs from ⟨e1.below h, e2.below h, e3.below h⟩))
  have HO := hid ho
  obtain ⟨kn, HKN⟩ : ∃ n : Nat, Hid (m.ki = (n : Int)) := ⟨m.ki.toNat, hid (by omega)⟩
  obtain ⟨fn, HFN⟩ : ∃ n : Nat, Hid (m.fr = (n : Int)) := ⟨m.fr.toNat, hid (by omega)⟩
  obtain ⟨tn, HTN⟩ : ∃ n : Nat, Hid (m.tu = (n : Int)) := ⟨m.tu.toNat, hid (by omega)⟩
  have HK10 : Hid (1 ≤ kn ∧ kn ≤ 10 ∧ fn ≤ 21 ∧ tn ≤ 21) := hid (by have := HKN.out; have := HFN.out; have := HTN.out; omega)
  have wk : IntKind.u8.wrap (kn : Int) = (kn : Int) := by rw [IntKind.wrap_u8']; have := HK10.out; omega
  have wf : IntKind.u8.wrap (fn : Int) = (fn : Int) := by rw [IntKind.wrap_u8']; have := HK10.out; omega
  have wt : IntKind.u8.wrap (tn : Int) = (tn : Int) := by rw [IntKind.wrap_u8']; have := HK10.out; omega
  obtain ⟨H, HH⟩ : ∃ l : List UInt8, Hid ([UInt8.ofNat kn, UInt8.ofNat fn, UInt8.ofNat tn] = l) := ⟨_, hid rfl⟩
  have HHL : Hid (H.length = 3) := hid (by rw [← HH.out]; rfl)
  obtain ⟨O, HOO⟩ : ∃ l : List UInt8, Hid (bytesM m = l) := ⟨_, hid rfl⟩
  have HBE : Hid (O = H ++ bodyM m) := hid (by
    have := HK10.out
    rw [← HOO.out]
    unfold bytesM
    rw [HKN.out, HFN.out, HTN.out, ← HH.out, Int.toNat_natCast, Int.toNat_natCast, Int.toNat_natCast, dg_small (by omega), dg_small (by omega), dg_small (by omega)]
    rfl)
  rw [HOO.out]
  obtain ⟨CM, HCM⟩ : ∃ C : Array Value, Hid (mgc m s1 s2 s3 = C) := ⟨_, hid rfl⟩
  have HBX : Hid (∀ W g, W.heap[g]? = some (.cells CM 38 (0, 0)) → BoxM W g m s1 s2 s3) := hid (fun W g h => by rw [← HCM.out] at h; exact h)
  rw [HCM.out] at hb0 hA0 ⊢
  clear ho e1 e2 e3 hm hh f1 f2 f3 f4 g1 g2 hA0
  have hr0 : (w.alloc (.cells CM 38)).heap[w.heap.size]? = some (.cells CM 38 (0, 0)) := heap_alloc_new w _
  go_enter Tryz.func14, Tryz.ntmps14
  go_upto_region 1 with (fail)
  generalize (w.alloc (.cells CM 38)) = w0 at *
  have HB0 := hid hb0
  have hl0 := lt_of_block hr0
  have HP : Hid (∀ W, Below w0.heap.size w0 W → PartsM W w.heap.size m s1 s2 s3) := hid (fun W h => (HBX.out W _ ((h.block _ hl0).trans hr0)).parts HO.out)
  have k0 := (HP.out w0 (Below.refl _ _)).ki
  have k1 := (HP.out w0 (Below.refl _ _)).fr
  have k2 := (HP.out w0 (Below.refl _ _)).tu
  rw [HKN.out] at k0
  rw [HFN.out] at k1
  rw [HTN.out] at k2
  clear hb0 hr0 hl0
  go_upto_region 2 with (fail)
  have ho1 := three_own w0 kn fn tn (by have := HK10.out; omega) (by have := HK10.out; omega) (by have := HK10.out; omega)
  have hb1 : Below w0.heap.size w0 (w0.alloc (.cells #[.int .u8 (kn : Int), .int .u8 (fn : Int), .int .u8 (tn : Int)] 5)) := (Below.refl _ _).alloc (Nat.le_refl _) _
  rw [HH.out] at ho1
  obtain ⟨hb, HHB⟩ : ∃ k : Nat, Hid (w0.heap.size = k) := ⟨_, hid rfl⟩
  generalize (w0.alloc (.cells #[.int .u8 (kn : Int), .int .u8 (fn : Int), .int .u8 (tn : Int)] 5)) = w1 at *
  have HO1 := hid ho1
  have HB1 := hid hb1
  have HBW := hid (HB0.out.trans (hb1.mono HB0.out.size))
  clear k0 k1 k2 wk wf wt ho1 hb1
  have k0 := (HP.out w1 HB1.out).ki
  rw [HKN.out] at k0
  by_cases g1 : kn = 1
  case pos =>
    subst g1
    have HMK : Hid (mayA m.aa = true) := hid (by
      have h := HKD.out
      rw [(kind_aa (m := m) (by unfold isA; rw [HKN.out]; omega)).1] at h
      simp only [Bool.and_eq_true] at h
      exact h.1)
    have HLN : Hid ((bytesA m.aa).length ≤ 1000000) := hid (Nat.le_trans (bytesA_len HO.out.aa HMK.out) (by omega))
    have HBD : Hid (bodyM m = bytesA m.aa) := hid (by unfold bodyM; rw [if_pos (by unfold isA; rw [HKN.out]; omega)])
    have l1 := (HP.out w1 HB1.out).aa
    have C := refBytes8_any m.aa w1 HO.out.aa HMK.out
    obtain ⟨G, HG⟩ : ∃ C : Array Value, Hid (atc m.aa = C) := ⟨_, hid rfl⟩
    rw [HG.out] at l1 C
    obtain ⟨D, HD⟩ : ∃ l : List UInt8, Hid (bytesA m.aa = l) := ⟨_, hid rfl⟩
    rw [HD.out] at C HLN HBD
    have HOE : Hid (O = H ++ D) := hid (by rw [HBE.out, HBD.out])
    have HC := hid C
    clear C
    go_wp2_with fail
    refine HC.out.mono ?_
    rintro e w2 ⟨v2, rfl, ho2, hb2⟩
    clear l1 k0
    have HO2 := hid ho2.byt
    have HO12 := hid (HO1.out.below hb2)
    have HB2 := hid (HB1.out.trans (hb2.mono HB1.out.size))
    clear ho2 hb2
    obtain ⟨A2, n2, c2, rfl⟩ : ∃ A n c, v2 = .slice A n c := (by obtain ⟨A, c, e⟩ := HO2.out.shape; exact ⟨_, _, _, e⟩)
    go_wp2_with (at_builtin; refine wpList_append_byt rfl (.tmp 20) (.tmp 23) rfl rfl rfl HO12.out HO2.out (by have := HHL.out; have := HLN.out; omega) HB2.out.size ?_; intro v3 w3 ho3 hg3 hv3; have HB3 := hid (HB2.out.grown hg3 HB2.out.size (fun q hq => (World.ownsRow.lt HO12.out q hq).1)); have HO3 := hid ho3; clear ho3 hg3 hv3)
    go_ret
    exact ⟨_, rfl, by rw [HOE.out]; exact HO3.out.more HB0.out.size, HB0.out.trans (HB3.out.mono HB0.out.size)⟩
  have u1 : ((kn : Int) == 1) = false := by simp; omega
  by_cases g3 : kn = 3
  case pos =>
    subst g3
    have HMK : Hid (mayA m.aa = true) := hid (by
      have h := HKD.out
      rw [(kind_aa (m := m) (by unfold isA; rw [HKN.out]; omega)).1] at h
      simp only [Bool.and_eq_true] at h
      exact h.1)
    have HLN : Hid ((bytesA m.aa).length ≤ 1000000) := hid (Nat.le_trans (bytesA_len HO.out.aa HMK.out) (by omega))
    have HBD : Hid (bodyM m = bytesA m.aa) := hid (by unfold bodyM; rw [if_pos (by unfold isA; rw [HKN.out]; omega)])
    have l1 := (HP.out w1 HB1.out).aa
    have C := refBytes8_any m.aa w1 HO.out.aa HMK.out
    obtain ⟨G, HG⟩ : ∃ C : Array Value, Hid (atc m.aa = C) := ⟨_, hid rfl⟩
    rw [HG.out] at l1 C
    obtain ⟨D, HD⟩ : ∃ l : List UInt8, Hid (bytesA m.aa = l) := ⟨_, hid rfl⟩
    rw [HD.out] at C HLN HBD
    have HOE : Hid (O = H ++ D) := hid (by rw [HBE.out, HBD.out])
    have HC := hid C
    clear C
    go_wp2_with fail
    refine HC.out.mono ?_
    rintro e w2 ⟨v2, rfl, ho2, hb2⟩
    clear l1 k0
    have HO2 := hid ho2.byt
    have HO12 := hid (HO1.out.below hb2)
    have HB2 := hid (HB1.out.trans (hb2.mono HB1.out.size))
    clear ho2 hb2
    obtain ⟨A2, n2, c2, rfl⟩ : ∃ A n c, v2 = .slice A n c := (by obtain ⟨A, c, e⟩ := HO2.out.shape; exact ⟨_, _, _, e⟩)
    go_wp2_with (at_builtin; refine wpList_append_byt rfl (.tmp 20) (.tmp 23) rfl rfl rfl HO12.out HO2.out (by have := HHL.out; have := HLN.out; omega) HB2.out.size ?_; intro v3 w3 ho3 hg3 hv3; have HB3 := hid (HB2.out.grown hg3 HB2.out.size (fun q hq => (World.ownsRow.lt HO12.out q hq).1)); have HO3 := hid ho3; clear ho3 hg3 hv3)
    go_ret
    exact ⟨_, rfl, by rw [HOE.out]; exact HO3.out.more HB0.out.size, HB0.out.trans (HB3.out.mono HB0.out.size)⟩
  have u3 : ((kn : Int) == 3) = false := by simp; omega
  by_cases g5 : kn = 5
  case pos =>
    subst g5
    have HMK : Hid (mayA m.aa = true) := hid (by
      have h := HKD.out
      rw [(kind_aa (m := m) (by unfold isA; rw [HKN.out]; omega)).1] at h
      simp only [Bool.and_eq_true] at h
      exact h.1)
    have HLN : Hid ((bytesA m.aa).length ≤ 1000000) := hid (Nat.le_trans (bytesA_len HO.out.aa HMK.out) (by omega))
    have HBD : Hid (bodyM m = bytesA m.aa) := hid (by unfold bodyM; rw [if_pos (by unfold isA; rw [HKN.out]; omega)])
    have l1 := (HP.out w1 HB1.out).aa
    have C := refBytes8_any m.aa w1 HO.out.aa HMK.out
    obtain ⟨G, HG⟩ : ∃ C : Array Value, Hid (atc m.aa = C) := ⟨_, hid rfl⟩
    rw [HG.out] at l1 C
    obtain ⟨D, HD⟩ : ∃ l : List UInt8, Hid (bytesA m.aa = l) := ⟨_, hid rfl⟩
    rw [HD.out] at C HLN HBD
    have HOE : Hid (O = H ++ D) := hid (by rw [HBE.out, HBD.out])
    have HC := hid C
    clear C
    go_wp2_with fail
    refine HC.out.mono ?_
    rintro e w2 ⟨v2, rfl, ho2, hb2⟩
    clear l1 k0
    have HO2 := hid ho2.byt
    have HO12 := hid (HO1.out.below hb2)
    have HB2 := hid (HB1.out.trans (hb2.mono HB1.out.size))
    clear ho2 hb2
    obtain ⟨A2, n2, c2, rfl⟩ : ∃ A n c, v2 = .slice A n c := (by obtain ⟨A, c, e⟩ := HO2.out.shape; exact ⟨_, _, _, e⟩)
    go_wp2_with (at_builtin; refine wpList_append_byt rfl (.tmp 20) (.tmp 23) rfl rfl rfl HO12.out HO2.out (by have := HHL.out; have := HLN.out; omega) HB2.out.size ?_; intro v3 w3 ho3 hg3 hv3; have HB3 := hid (HB2.out.grown hg3 HB2.out.size (fun q hq => (World.ownsRow.lt HO12.out q hq).1)); have HO3 := hid ho3; clear ho3 hg3 hv3)
    go_ret
    exact ⟨_, rfl, by rw [HOE.out]; exact HO3.out.more HB0.out.size, HB0.out.trans (HB3.out.mono HB0.out.size)⟩
  have u5 : ((kn : Int) == 5) = false := by simp; omega
  by_cases g4 : kn = 4
  case pos =>
    subst g4
    have HMK : Hid (mayC m.cc = true) := hid (by
      have h := HKD.out
      rw [(kind_cc (m := m) (by unfold isC; rw [HKN.out]; omega)).1] at h
      simp only [Bool.and_eq_true] at h
      exact h.1)
    have HLN : Hid ((bytesC m.cc).length ≤ 1000000) := hid (Nat.le_trans (bytesC_len HO.out.cc HMK.out) (by omega))
    have HBD : Hid (bodyM m = bytesC m.cc) := hid (by unfold bodyM; rw [if_neg (by unfold isA; rw [HKN.out]; omega), if_pos (by unfold isC; rw [HKN.out]; omega)])
    have l1 := (HP.out w1 HB1.out).cc
    have C := refBytes9_any (.agg (ctc m.cc s1)) m.cc w1 ⟨_, rfl, HO.out.cc, (HE.out w1 HBW.out).1⟩ HMK.out
    obtain ⟨G, HG⟩ : ∃ C : Array Value, Hid (ctc m.cc s1 = C) := ⟨_, hid rfl⟩
    rw [HG.out] at l1 C
    obtain ⟨D, HD⟩ : ∃ l : List UInt8, Hid (bytesC m.cc = l) := ⟨_, hid rfl⟩
    rw [HD.out] at C HLN HBD
    have HOE : Hid (O = H ++ D) := hid (by rw [HBE.out, HBD.out])
    have HC := hid C
    clear C
    go_wp2_with fail
    refine HC.out.mono ?_
    rintro e w2 ⟨v2, rfl, ho2, hb2⟩
    clear l1 k0
    have HO2 := hid ho2.byt
    have HO12 := hid (HO1.out.below hb2)
    have HB2 := hid (HB1.out.trans (hb2.mono HB1.out.size))
    clear ho2 hb2
    obtain ⟨A2, n2, c2, rfl⟩ : ∃ A n c, v2 = .slice A n c := (by obtain ⟨A, c, e⟩ := HO2.out.shape; exact ⟨_, _, _, e⟩)
    go_wp2_with (at_builtin; refine wpList_append_byt rfl (.tmp 28) (.tmp 31) rfl rfl rfl HO12.out HO2.out (by have := HHL.out; have := HLN.out; omega) HB2.out.size ?_; intro v3 w3 ho3 hg3 hv3; have HB3 := hid (HB2.out.grown hg3 HB2.out.size (fun q hq => (World.ownsRow.lt HO12.out q hq).1)); have HO3 := hid ho3; clear ho3 hg3 hv3)
    go_ret
    exact ⟨_, rfl, by rw [HOE.out]; exact HO3.out.more HB0.out.size, HB0.out.trans (HB3.out.mono HB0.out.size)⟩
  have u4 : ((kn : Int) == 4) = false := by simp; omega
  by_cases g6 : kn = 6
  case pos =>
    subst g6
    have HMK : Hid (mayC m.cc = true) := hid (by
      have h := HKD.out
      rw [(kind_cc (m := m) (by unfold isC; rw [HKN.out]; omega)).1] at h
      simp only [Bool.and_eq_true] at h
      exact h.1)
    have HLN : Hid ((bytesC m.cc).length ≤ 1000000) := hid (Nat.le_trans (bytesC_len HO.out.cc HMK.out) (by omega))
    have HBD : Hid (bodyM m = bytesC m.cc) := hid (by unfold bodyM; rw [if_neg (by unfold isA; rw [HKN.out]; omega), if_pos (by unfold isC; rw [HKN.out]; omega)])
    have l1 := (HP.out w1 HB1.out).cc
    have C := refBytes9_any (.agg (ctc m.cc s1)) m.cc w1 ⟨_, rfl, HO.out.cc, (HE.out w1 HBW.out).1⟩ HMK.out
    obtain ⟨G, HG⟩ : ∃ C : Array Value, Hid (ctc m.cc s1 = C) := ⟨_, hid rfl⟩
    rw [HG.out] at l1 C
    obtain ⟨D, HD⟩ : ∃ l : List UInt8, Hid (bytesC m.cc = l) := ⟨_, hid rfl⟩
    rw [HD.out] at C HLN HBD
    have HOE : Hid (O = H ++ D) := hid (by rw [HBE.out, HBD.out])
    have HC := hid C
    clear C
    go_wp2_with fail
    refine HC.out.mono ?_
    rintro e w2 ⟨v2, rfl, ho2, hb2⟩
    clear l1 k0
    have HO2 := hid ho2.byt
    have HO12 := hid (HO1.out.below hb2)
    have HB2 := hid (HB1.out.trans (hb2.mono HB1.out.size))
    clear ho2 hb2
    obtain ⟨A2, n2, c2, rfl⟩ : ∃ A n c, v2 = .slice A n c := (by obtain ⟨A, c, e⟩ := HO2.out.shape; exact ⟨_, _, _, e⟩)
    go_wp2_with (at_builtin; refine wpList_append_byt rfl (.tmp 28) (.tmp 31) rfl rfl rfl HO12.out HO2.out (by have := HHL.out; have := HLN.out; omega) HB2.out.size ?_; intro v3 w3 ho3 hg3 hv3; have HB3 := hid (HB2.out.grown hg3 HB2.out.size (fun q hq => (World.ownsRow.lt HO12.out q hq).1)); have HO3 := hid ho3; clear ho3 hg3 hv3)
    go_ret
    exact ⟨_, rfl, by rw [HOE.out]; exact HO3.out.more HB0.out.size, HB0.out.trans (HB3.out.mono HB0.out.size)⟩
  have u6 : ((kn : Int) == 6) = false := by simp; omega
  by_cases g7 : kn = 7
  case pos =>
    subst g7
    have HLN : Hid ((m.hh).length ≤ 1000000) := hid (by rw [HO.out.hh]; omega)
    have HBD : Hid (bodyM m = m.hh) := hid (by unfold bodyM; rw [if_neg (by unfold isA; rw [HKN.out]; omega), if_neg (by unfold isC; rw [HKN.out]; omega), if_pos (by rw [HKN.out]; omega)])
    have l1 := (HP.out w1 HB1.out).hh
    have C := refBytes7_any m.hh w1 HO.out.hh
    obtain ⟨G, HG⟩ : ∃ C : Array Value, Hid (hcells m.hh = C) := ⟨_, hid rfl⟩
    rw [HG.out] at l1 C
    obtain ⟨D, HD⟩ : ∃ l : List UInt8, Hid (m.hh = l) := ⟨_, hid rfl⟩
    rw [HD.out] at C HLN HBD
    have HOE : Hid (O = H ++ D) := hid (by rw [HBE.out, HBD.out])
    have HC := hid C
    clear C
    go_wp2_with fail
    refine HC.out.mono ?_
    rintro e w2 ⟨v2, rfl, ho2, hb2⟩
    clear l1 k0
    have HO2 := hid ho2.byt
    have HO12 := hid (HO1.out.below hb2)
    have HB2 := hid (HB1.out.trans (hb2.mono HB1.out.size))
    clear ho2 hb2
    obtain ⟨A2, n2, c2, rfl⟩ : ∃ A n c, v2 = .slice A n c := (by obtain ⟨A, c, e⟩ := HO2.out.shape; exact ⟨_, _, _, e⟩)
    go_wp2_with (at_builtin; refine wpList_append_byt rfl (.tmp 35) (.tmp 38) rfl rfl rfl HO12.out HO2.out (by have := HHL.out; have := HLN.out; omega) HB2.out.size ?_; intro v3 w3 ho3 hg3 hv3; have HB3 := hid (HB2.out.grown hg3 HB2.out.size (fun q hq => (World.ownsRow.lt HO12.out q hq).1)); have HO3 := hid ho3; clear ho3 hg3 hv3)
    go_ret
    exact ⟨_, rfl, by rw [HOE.out]; exact HO3.out.more HB0.out.size, HB0.out.trans (HB3.out.mono HB0.out.size)⟩
  have u7 : ((kn : Int) == 7) = false := by simp; omega
  by_cases g9 : kn = 9
  case pos =>
    subst g9
    have HMK : Hid (mayT m.tt = true) := hid (by
      have h := HKD.out
      rw [(kind_tt (m := m) (by rw [HKN.out]; rfl)).1] at h
      exact h)
    have HLN : Hid ((bytesT m.tt).length ≤ 1000000) := hid (Nat.le_trans (bytesT_len HMK.out) (by omega))
    have HBD : Hid (bodyM m = bytesT m.tt) := hid (by unfold bodyM; rw [if_neg (by unfold isA; rw [HKN.out]; omega), if_neg (by unfold isC; rw [HKN.out]; omega), if_neg (by rw [HKN.out]; omega), if_pos (by rw [HKN.out]; omega)])
    have l1 := (HP.out w1 HB1.out).tt
    have C := refBytes_any m.tt w1 HMK.out
    obtain ⟨G, HG⟩ : ∃ C : Value, Hid (txv m.tt = C) := ⟨_, hid rfl⟩
    rw [HG.out] at l1 C
    obtain ⟨D, HD⟩ : ∃ l : List UInt8, Hid (bytesT m.tt = l) := ⟨_, hid rfl⟩
    rw [HD.out] at C HLN HBD
    have HOE : Hid (O = H ++ D) := hid (by rw [HBE.out, HBD.out])
    have HC := hid C
    clear C
    go_wp2_with fail
    refine HC.out.mono ?_
    rintro e w2 ⟨v2, rfl, ho2, hb2⟩
    clear l1 k0
    have HO2 := hid ho2.byt
    have HO12 := hid (HO1.out.below hb2)
    have HB2 := hid (HB1.out.trans (hb2.mono HB1.out.size))
    clear ho2 hb2
    obtain ⟨A2, n2, c2, rfl⟩ : ∃ A n c, v2 = .slice A n c := (by obtain ⟨A, c, e⟩ := HO2.out.shape; exact ⟨_, _, _, e⟩)
    go_wp2_with (at_builtin; refine wpList_append_byt rfl (.tmp 42) (.tmp 45) rfl rfl rfl HO12.out HO2.out (by have := HHL.out; have := HLN.out; omega) HB2.out.size ?_; intro v3 w3 ho3 hg3 hv3; have HB3 := hid (HB2.out.grown hg3 HB2.out.size (fun q hq => (World.ownsRow.lt HO12.out q hq).1)); have HO3 := hid ho3; clear ho3 hg3 hv3)
    go_ret
    exact ⟨_, rfl, by rw [HOE.out]; exact HO3.out.more HB0.out.size, HB0.out.trans (HB3.out.mono HB0.out.size)⟩
  have u9 : ((kn : Int) == 9) = false := by simp; omega
  by_cases g10 : kn = 10
  case pos =>
    subst g10
    have HMK : Hid (mayX m.xx = true) := hid (by
      have h := HKD.out
      rw [(kind_xx (m := m) (by rw [HKN.out]; rfl)).1] at h
      exact h)
    have HLN : Hid ((bytesX m.xx).length ≤ 1000000) := hid (Nat.le_trans (bytesX_len HO.out.xx HMK.out) (by omega))
    have HBD : Hid (bodyM m = bytesX m.xx) := hid (by unfold bodyM; rw [if_neg (by unfold isA; rw [HKN.out]; omega), if_neg (by unfold isC; rw [HKN.out]; omega), if_neg (by rw [HKN.out]; omega), if_neg (by rw [HKN.out]; omega), if_pos (by rw [HKN.out]; omega)])
    have l1 := (HP.out w1 HB1.out).xx
    have C := refBytes10_any (.agg (axc m.xx s2)) m.xx w1 ⟨_, rfl, HO.out.xx, (HE.out w1 HBW.out).2.1⟩ HMK.out
    obtain ⟨G, HG⟩ : ∃ C : Array Value, Hid (axc m.xx s2 = C) := ⟨_, hid rfl⟩
    rw [HG.out] at l1 C
    obtain ⟨D, HD⟩ : ∃ l : List UInt8, Hid (bytesX m.xx = l) := ⟨_, hid rfl⟩
    rw [HD.out] at C HLN HBD
    have HOE : Hid (O = H ++ D) := hid (by rw [HBE.out, HBD.out])
    have HC := hid C
    clear C
    go_wp2_with fail
    refine HC.out.mono ?_
    rintro e w2 ⟨v2, rfl, ho2, hb2⟩
    clear l1 k0
    have HO2 := hid ho2.byt
    have HO12 := hid (HO1.out.below hb2)
    have HB2 := hid (HB1.out.trans (hb2.mono HB1.out.size))
    clear ho2 hb2
    obtain ⟨A2, n2, c2, rfl⟩ : ∃ A n c, v2 = .slice A n c := (by obtain ⟨A, c, e⟩ := HO2.out.shape; exact ⟨_, _, _, e⟩)
    go_wp2_with (at_builtin; refine wpList_append_byt rfl (.tmp 49) (.tmp 52) rfl rfl rfl HO12.out HO2.out (by have := HHL.out; have := HLN.out; omega) HB2.out.size ?_; intro v3 w3 ho3 hg3 hv3; have HB3 := hid (HB2.out.grown hg3 HB2.out.size (fun q hq => (World.ownsRow.lt HO12.out q hq).1)); have HO3 := hid ho3; clear ho3 hg3 hv3)
    go_ret
    exact ⟨_, rfl, by rw [HOE.out]; exact HO3.out.more HB0.out.size, HB0.out.trans (HB3.out.mono HB0.out.size)⟩
  have u10 : ((kn : Int) == 10) = false := by simp; omega
  by_cases g2 : kn = 2
  case pos =>
    subst g2
    have HMK : Hid (mayK m.kk = true ∧ mayX m.xx = true) := hid (by
      have h := HKD.out
      rw [(kind_ka (m := m) (by rw [HKN.out]; rfl)).1] at h
      simp only [Bool.and_eq_true] at h
      exact ⟨h.1, h.2.2⟩)
    have HLN : Hid ((bytesK m.kk).length ≤ 3000) := hid (bytesK_len HO.out.kk HMK.out.1)
    have HBD : Hid (bodyM m = tx (bytesK m.kk) ++ bytesX m.xx) := hid (by unfold bodyM; rw [if_neg (by unfold isA; rw [HKN.out]; omega), if_neg (by unfold isC; rw [HKN.out]; omega), if_neg (by rw [HKN.out]; omega), if_neg (by rw [HKN.out]; omega), if_neg (by rw [HKN.out]; omega), if_pos (by rw [HKN.out]; omega)])
    have HLX : Hid ((bytesX m.xx).length ≤ 150) := hid (bytesX_len HO.out.xx HMK.out.2)
    have l1 := (HP.out w1 HB1.out).kk
    have C := refPut7_any (.agg (bkc m.kk s3)) m.kk w1 ⟨_, rfl, HO.out.kk, (HE.out w1 HBW.out).2.2⟩ HMK.out.1
    obtain ⟨D, HD⟩ : ∃ l : List UInt8, Hid (bytesK m.kk = l) := ⟨_, hid rfl⟩
    rw [HD.out] at C HLN HBD
    have HOE : Hid (O = H ++ (tx D ++ bytesX m.xx)) := hid (by rw [HBE.out, HBD.out])
    obtain ⟨G, HG⟩ : ∃ C : Array Value, Hid (bkc m.kk s3 = C) := ⟨_, hid rfl⟩
    rw [HG.out] at l1 C
    have HC := hid C
    clear C
    go_wp2_with fail
    refine HC.out.mono ?_
    rintro e w2 ⟨v2, rfl, ho2, hb2⟩
    clear l1 k0
    have HT := hid (reftext_any v2 D w2 ho2.byt (by have := HLN.out; omega))
    have HTL : Hid ((tx D).length ≤ 3020) := hid (by rw [tx_len]; have := HLN.out; have := dg_len10 (n := D.length) (by omega); omega)
    have HO12 := hid (HO1.out.below hb2)
    have HB2 := hid (HB1.out.trans (hb2.mono HB1.out.size))
    clear ho2 hb2
    go_wp2_with fail
    refine HT.out.mono ?_
    rintro e w3 ⟨v3, rfl, ho3, hb3⟩
    have HO3 := hid ho3.byt
    have HO13 := hid (HO12.out.below hb3)
    have HB3 := hid (HB2.out.trans (hb3.mono HB2.out.size))
    clear ho3 hb3 HT
    obtain ⟨A3, n3, c3, rfl⟩ : ∃ A n c, v3 = .slice A n c := (by obtain ⟨A, c, e⟩ := HO3.out.shape; exact ⟨_, _, _, e⟩)
    go_upto_region 17 with (at_builtin; refine wpList_append_byt rfl (.tmp 54) (.tmp 58) rfl rfl rfl HO13.out HO3.out (by have := HHL.out; have := HTL.out; omega) HB3.out.size ?_; intro v4 w4 ho4 hg4 hv4)
    have HB4 := hid (HB3.out.grown hg4 HB3.out.size (fun q hq => (World.ownsRow.lt HO13.out q hq).1))
    have HO4 := hid ho4
    clear ho4 hg4 hv4
    have k0 := (HP.out w4 HB4.out).ki
    rw [HKN.out] at k0
    obtain ⟨A4, n4, c4, rfl⟩ : ∃ A n c, v4 = .slice A n c := (by obtain ⟨A, c, e⟩ := HO4.out.byt.shape; exact ⟨_, _, _, e⟩)
    obtain ⟨R, HR⟩ : ∃ l : List UInt8, Hid (H ++ tx D = l) := ⟨_, hid rfl⟩
    have HRL : Hid (R.length ≤ 4000) := hid (by rw [← HR.out, List.length_append]; have := HHL.out; have := HTL.out; omega)
    rw [HR.out] at HO4
    have l5 := (HP.out w4 HB4.out).xx
    have HBW4 := hid (HB0.out.trans (HB4.out.mono HB0.out.size))
    have C := refBytes10_any (.agg (axc m.xx s2)) m.xx w4 ⟨_, rfl, HO.out.xx, (HE.out w4 HBW4.out).2.1⟩ HMK.out.2
    rw [← List.append_assoc, HR.out] at HOE
    obtain ⟨D2, HD2⟩ : ∃ l : List UInt8, Hid (bytesX m.xx = l) := ⟨_, hid rfl⟩
    rw [HD2.out] at C HLX HOE
    obtain ⟨G2, HG2⟩ : ∃ C : Array Value, Hid (axc m.xx s2 = C) := ⟨_, hid rfl⟩
    rw [HG2.out] at l5 C
    have HC2 := hid C
    clear C
    go_wp2_with fail
    refine HC2.out.mono ?_
    rintro e w5 ⟨v5, rfl, ho5, hb5⟩
    clear l5 k0
    have HO5 := hid ho5.byt
    have HO15 := hid (HO4.out.below hb5)
    have HB5 := hid (HB4.out.trans (hb5.mono HB4.out.size))
    clear ho5 hb5
    obtain ⟨A5, n5, c5, rfl⟩ : ∃ A n c, v5 = .slice A n c := (by obtain ⟨A, c, e⟩ := HO5.out.shape; exact ⟨_, _, _, e⟩)
    go_wp2_with (at_builtin; refine wpList_append_byt rfl (.tmp 63) (.tmp 66) rfl rfl rfl HO15.out HO5.out (by have := HRL.out; have := HLX.out; omega) HB5.out.size ?_; intro v6 w6 ho6 hg6 hv6; have HB6 := hid (HB5.out.grown hg6 HB5.out.size (fun q hq => (World.ownsRow.lt HO15.out q hq).1)); have HO6 := hid ho6; clear ho6 hg6 hv6)
    go_ret
    exact ⟨_, rfl, by rw [HOE.out]; exact HO6.out.more HB0.out.size, HB0.out.trans (HB6.out.mono HB0.out.size)⟩
  by_cases g8 : kn = 8
  case pos =>
    subst g8
    have HMK : Hid (mayK m.kk = true) := hid (by
      have h := HKD.out
      rw [(kind_kk (m := m) (by rw [HKN.out]; rfl)).1] at h
      simp only [Bool.and_eq_true] at h
      exact h.1)
    have HLN : Hid ((bytesK m.kk).length ≤ 3000) := hid (bytesK_len HO.out.kk HMK.out)
    have HBD : Hid (bodyM m = tx (bytesK m.kk)) := hid (by unfold bodyM; rw [if_neg (by unfold isA; rw [HKN.out]; omega), if_neg (by unfold isC; rw [HKN.out]; omega), if_neg (by rw [HKN.out]; omega), if_neg (by rw [HKN.out]; omega), if_neg (by rw [HKN.out]; omega), if_neg (by rw [HKN.out]; omega), List.append_nil])
    have l1 := (HP.out w1 HB1.out).kk
    have C := refPut7_any (.agg (bkc m.kk s3)) m.kk w1 ⟨_, rfl, HO.out.kk, (HE.out w1 HBW.out).2.2⟩ HMK.out
    obtain ⟨D, HD⟩ : ∃ l : List UInt8, Hid (bytesK m.kk = l) := ⟨_, hid rfl⟩
    rw [HD.out] at C HLN HBD
    have HOE : Hid (O = H ++ (tx D)) := hid (by rw [HBE.out, HBD.out])
    obtain ⟨G, HG⟩ : ∃ C : Array Value, Hid (bkc m.kk s3 = C) := ⟨_, hid rfl⟩
    rw [HG.out] at l1 C
    have HC := hid C
    clear C
    go_wp2_with fail
    refine HC.out.mono ?_
    rintro e w2 ⟨v2, rfl, ho2, hb2⟩
    clear l1 k0
    have HT := hid (reftext_any v2 D w2 ho2.byt (by have := HLN.out; omega))
    have HTL : Hid ((tx D).length ≤ 3020) := hid (by rw [tx_len]; have := HLN.out; have := dg_len10 (n := D.length) (by omega); omega)
    have HO12 := hid (HO1.out.below hb2)
    have HB2 := hid (HB1.out.trans (hb2.mono HB1.out.size))
    clear ho2 hb2
    go_wp2_with fail
    refine HT.out.mono ?_
    rintro e w3 ⟨v3, rfl, ho3, hb3⟩
    have HO3 := hid ho3.byt
    have HO13 := hid (HO12.out.below hb3)
    have HB3 := hid (HB2.out.trans (hb3.mono HB2.out.size))
    clear ho3 hb3 HT
    obtain ⟨A3, n3, c3, rfl⟩ : ∃ A n c, v3 = .slice A n c := (by obtain ⟨A, c, e⟩ := HO3.out.shape; exact ⟨_, _, _, e⟩)
    go_upto_region 17 with (at_builtin; refine wpList_append_byt rfl (.tmp 54) (.tmp 58) rfl rfl rfl HO13.out HO3.out (by have := HHL.out; have := HTL.out; omega) HB3.out.size ?_; intro v4 w4 ho4 hg4 hv4)
    have HB4 := hid (HB3.out.grown hg4 HB3.out.size (fun q hq => (World.ownsRow.lt HO13.out q hq).1))
    have HO4 := hid ho4
    clear ho4 hg4 hv4
    have k0 := (HP.out w4 HB4.out).ki
    rw [HKN.out] at k0
    go_wp2_with fail
    go_ret
    exact ⟨_, rfl, by rw [HOE.out]; exact HO4.out.more HB0.out.size, HB0.out.trans (HB4.out.mono HB0.out.size)⟩
  exfalso
  have := HK10.out
  omega
end Go.Proofs.YtjemfmbmlmogcaaGreat
namespace Go.Proofs.YtjemfmbmlmogcaaGreat
set_option maxRecDepth 20000
open Go.RowKit
def exM : MgM := { mgZ with ki := 7, fr := 1, tu := 2 }
theorem exM_ok : exM.Ok := bareM_ok exM
theorem exM_may : mayM exM = true := by
  have h : exM.ki = 7 := rfl
  obtain ⟨h1, h2⟩ := kind_hh h
  unfold mayM
  rw [h1, h2, Bool.true_and, show sameM ({ exM with hh := z32 } : MgM) (bareM exM) = true from sameM_iff.2 rfl]
  rfl
theorem exM_len : (bytesM exM).length = 35 := by
  have e : bodyM exM = z32 := by
    have h : exM.ki = 7 := rfl
    unfold bodyM
    rw [if_neg (by unfold isA; rw [h]; omega), if_neg (by unfold isC; rw [h]; omega), if_pos h]
    rfl
  unfold bytesM
  rw [e]
  decide +kernel
theorem exM_lim : LimM exM := ⟨by decide, by decide, by decide, (fun t h => absurd h (by simp [exM, mgZ, bkZ])), ⟨by decide, by decide⟩⟩
attribute [local go_sem ↓] exec_build_mg3 exec_alloc_mg exec_store_mg
set_option maxHeartbeats 1600000 in
theorem mgAwake_any (hPut : MgPutOk) (hGet : MgGetOk) (w : World) : Calls Tryz.prog 6 #[] w fun e w' => e = .returned (.bool true) ∧ Below w.heap.size w w' := by
  have hbm := buildMg3_eq 7 1 2
  rw [show ({ mgZ with ki := 7, fr := 1, tu := 2 } : MgM) = exM from rfl] at hbm
  have HP := hid (hPut (.agg (mgc exM (.slice none 0 0) (.slice none 0 0) (.slice none 0 0))) exM w ⟨_, _, _, rfl, exM_ok, Els.nil _, Els.nil _, Txs.nil _⟩ exM_lim)
  rw [exM_may, if_pos rfl, if_pos rfl] at HP
  obtain ⟨CE, HCE⟩ : ∃ C : Array Value, Hid (mgc exM (.slice none 0 0) (.slice none 0 0) (.slice none 0 0) = C) := ⟨_, hid rfl⟩
  rw [HCE.out] at hbm HP
  obtain ⟨L, HL⟩ : ∃ l : List UInt8, Hid (bytesM exM = l) := ⟨_, hid rfl⟩
  have HLN : Hid (L.length = 35) := hid (by rw [← HL.out]; exact exM_len)
  have HIS : Hid (mgIs L = true ∧ mgOf L = exM) := hid (by rw [← HL.out]; exact mgIs_back exM_ok exM_may)
  rw [HL.out] at HP
  obtain ⟨Z, HZ⟩ : ∃ C : Array Value, Hid (mgc mgZ (.slice none 0 0) (.slice none 0 0) (.slice none 0 0) = C) := ⟨_, hid rfl⟩
  have HZS : Hid (Z.size = 349) := hid (by rw [← HZ.out]; exact mgc_size _ _ _ mgZ_ok)
  have HAL : Hid (∀ W, allocMg W = .ok (.value (.pointer (some ⟨W.heap.size, 0, none⟩))) (W.alloc (.cells Z 38))) := hid (fun W => by rw [← HZ.out]; exact allocMg_eq W)
  go_enter Tryz.func6, Tryz.ntmps6
  go_wp2_with fail
  refine HP.out.mono ?_
  rintro e w1 ⟨x1, rfl, hx1, hb1⟩
  have HG := hid (hGet x1 L w1 hx1 (by have := HLN.out; omega))
  rw [HIS.out.1, HIS.out.2, if_pos rfl] at HG
  obtain ⟨A1, c1, rfl⟩ := hx1.shape
  rw [HLN.out] at HG ⊢
  have HB1 := hid hb1
  clear hb1 hbm hx1
  go_wp2_with fail
  refine HG.out.mono ?_
  rintro e w2 ⟨x2, rfl, hx2, hb2⟩
  have HB2 := hid (HB1.out.trans (hb2.mono HB1.out.size))
  obtain ⟨t1, t2, t3, rfl, ho2, e1, e2, e3⟩ := hx2
  have hrow : BoxM (w2.alloc (.cells (mgc exM t1 t2 t3) 38)) w2.heap.size exM t1 t2 t3 := heap_alloc_new w2 _
  have HS : Hid ((mgc exM t1 t2 t3).size = 349 ∧ (mgc exM t1 t2 t3).all (·.oneCell') = true) := hid ⟨mgc_size _ _ _ ho2, mgc_one e1 e2 e3⟩
  have hb3 : Below w.heap.size w (w2.alloc (.cells (mgc exM t1 t2 t3) 38)) := HB2.out.alloc HB2.out.size _
  obtain ⟨X, HX⟩ : ∃ C : Array Value, Hid (mgc exM t1 t2 t3 = C) := ⟨_, hid rfl⟩
  rw [HX.out] at HS hrow hb3 ⊢
  have hst := mg_var w2 HZS.out HS.out.1 HS.out.2
  have hal := HAL.out w2
  clear ho2 e1 e2 e3 hb2
  go_upto_region 3 with (fail)
  have k2 : (w2.alloc (.cells X 38)).cell? ⟨w2.heap.size, 2, none⟩ = some (.int .i64 2) := hrow.ints.2.2
  clear hst hal hrow
  obtain ⟨vb, HVB⟩ : ∃ k : Nat, Hid (w2.heap.size = k) := ⟨_, hid rfl⟩
  rw [HVB.out] at k2 ⊢
  generalize (w2.alloc (.cells X 38)) = w3 at *
  go_wp2_with fail
  go_ret
  exact ⟨rfl, hb3⟩
end Go.Proofs.YtjemfmbmlmogcaaGreat
namespace Go.Proofs.YtjemfmbmlmogcaaGreat
set_option maxRecDepth 20000
open Go.RowKit
def ptA (k : Int) : Int := if k = 1 then 1 else if k = 3 then 2 else if k = 5 then 3 else 0
def ptC (k : Int) : Int := if k = 4 then 2 else if k = 6 then 3 else 0
def ptK (k : Int) : Bool := decide (k = 2 ∨ k = 8)
def ptX (k : Int) : Bool := decide (k = 2 ∨ k = 10)
def ptH (k : Int) : Bool := decide (k = 7)
def ptT (k : Int) : Bool := decide (k = 9)
def ptc (k : Int) : Array Value := #[.int .i64 (ptA k), .int .i64 (ptC k), .bool (ptK k), .bool (ptX k), .bool (ptH k), .bool (ptT k)]
def ptZ : Array Value := #[.int .i64 0, .int .i64 0, .bool false, .bool false, .bool false, .bool false]
theorem pt_one (a c : Int) (k x h t : Bool) : (#[.int .i64 a, .int .i64 c, .bool k, .bool x, .bool h, .bool t] : Array Value).all (·.oneCell') = true := by
  refine all_oneCell_toArray (cs := [.int .i64 a, .int .i64 c, .bool k, .bool x, .bool h, .bool t]) (fun u hu => ?_)
  simp only [List.mem_cons, List.not_mem_nil, or_false] at hu
  rcases hu with rfl | rfl | rfl | rfl | rfl | rfl <;> rfl
theorem ptc_no {k : Int} (h : k < 1 ∨ 10 < k) : ptc k = ptZ := by
  unfold ptc ptA ptC ptK ptX ptH ptT ptZ
  simp only [show ¬ k = 1 by omega, show ¬ k = 2 by omega, show ¬ k = 3 by omega, show ¬ k = 4 by omega, show ¬ k = 5 by omega, show ¬ k = 6 by omega, show ¬ k = 7 by omega, show ¬ k = 8 by omega, show ¬ k = 9 by omega, show ¬ k = 10 by omega, or_self, if_false, decide_false]
theorem pt_aa {k : Int} (h : isA k) : ∃ q : Int, ptc k = #[.int .i64 q, .int .i64 0, .bool false, .bool false, .bool false, .bool false] ∧ (q != 0) = true ∧ (k + 1) / 2 = q := by
  unfold isA at h
  rcases h with rfl | rfl | rfl
  · exact ⟨1, rfl, rfl, rfl⟩
  · exact ⟨2, rfl, rfl, rfl⟩
  · exact ⟨3, rfl, rfl, rfl⟩
theorem pt_cc {k : Int} (h : isC k) : ∃ q : Int, ptc k = #[.int .i64 0, .int .i64 q, .bool false, .bool false, .bool false, .bool false] ∧ (q != 0) = true ∧ k / 2 = q := by
  unfold isC at h
  rcases h with rfl | rfl
  · exact ⟨2, rfl, rfl, rfl⟩
  · exact ⟨3, rfl, rfl, rfl⟩
theorem pt_ka {k : Int} (h : k = 2) : ptc k = #[.int .i64 0, .int .i64 0, .bool true, .bool true, .bool false, .bool false] := by subst h; rfl
theorem pt_hh {k : Int} (h : k = 7) : ptc k = #[.int .i64 0, .int .i64 0, .bool false, .bool false, .bool true, .bool false] := by subst h; rfl
theorem pt_kk {k : Int} (h : k = 8) : ptc k = #[.int .i64 0, .int .i64 0, .bool true, .bool false, .bool false, .bool false] := by subst h; rfl
theorem pt_tt {k : Int} (h : k = 9) : ptc k = #[.int .i64 0, .int .i64 0, .bool false, .bool false, .bool false, .bool true] := by subst h; rfl
theorem pt_xx {k : Int} (h : k = 10) : ptc k = #[.int .i64 0, .int .i64 0, .bool false, .bool true, .bool false, .bool false] := by subst h; rfl
theorem pt_cells {w : World} {g : Nat} {a b c d e f : Value} {T : TypeId} (h : w.heap[g]? = some (.cells #[a, b, c, d, e, f] T (0, 0))) :
    w.cell? ⟨g, 0, none⟩ = some a ∧ w.cell? ⟨g, 1, none⟩ = some b ∧ w.cell? ⟨g, 2, none⟩ = some c ∧ w.cell? ⟨g, 3, none⟩ = some d ∧ w.cell? ⟨g, 4, none⟩ = some e ∧ w.cell? ⟨g, 5, none⟩ = some f :=
  ⟨cell_blk h 0, cell_blk h 1, cell_blk h 2, cell_blk h 3, cell_blk h 4, cell_blk h 5⟩
theorem under_pt : Tryz.prog.underlying 61 = some (.struct (Tryz.prog.fieldsOf 61)) := by kernel_rfl
theorem size_pt : (Tryz.prog.info? 61).map (·.size) = some 6 := by kernel_rfl
noncomputable def loadPt (v : Value) (w : World) : Result Next := Sem.run Tryz.prog (execOp (fun _ => v) { dst := none, op := .load 61 (.tmp 0), type := 0, pos := "", after := #[], guard := none }) w
theorem exec_load_pt (r : Operand → Value) (x : Operand) (dst : Option Tmp) (ty : TypeId) (pos : String) (after : Array Edge) (guard : Option (Nat × Bool)) (w : World) :
    Sem.run Tryz.prog (execOp r { dst := dst, op := .load 61 x, type := ty, pos := pos, after := after, guard := guard }) w = loadPt (r x) w := rfl
theorem loadPt_row {w : World} {g : Nat} {C : Array Value} {T : TypeId} (h : w.heap[g]? = some (.cells C T (0, 0))) (hs : C.size = 6) : loadPt (.pointer (some ⟨g, 0, none⟩)) w = .ok (.value (.agg C)) w := by
  have := run_loadAt_mid (P := Tryz.prog) w g 0 61 C.toList _ (fun j v hj => by rw [Nat.zero_add, cell_blk h j]; simpa using hj) under_pt rfl (by rw [size_pt]; simp [hs])
  simp only [Array.toArray_toList] at this
  unfold loadPt execOp
  simp only [Sem.run_bind, this, Result.andThen_ok, Sem.run_pure]
theorem zero_pt : (Tryz.prog.info? 61).bind (·.zero) = some (.agg ptZ) := by kernel_rfl
theorem run_zero_pt (w : World) : (zeroValue 61).run Tryz.prog w = .ok (.agg ptZ) w := by
  have h := zero_pt
  cases hq : Tryz.prog.info? 61 with
  | none => rw [hq] at h; cases h
  | some i =>
    rw [hq] at h
    have hz : i.zero = some (.agg ptZ) := h
    simp [zeroValue, typeInfo, hq, hz]
noncomputable def allocPt (w : World) : Result Next := Sem.run Tryz.prog (execOp (fun _ => undef) { dst := none, op := .alloc 61, type := 0, pos := "", after := #[], guard := none }) w
theorem exec_alloc_pt (r : Operand → Value) (dst : Option Tmp) (ty : TypeId) (pos : String) (after : Array Edge) (guard : Option (Nat × Bool)) (w : World) :
    Sem.run Tryz.prog (execOp r { dst := dst, op := .alloc 61, type := ty, pos := pos, after := after, guard := guard }) w = allocPt w := rfl
theorem allocPt_eq (w : World) : allocPt w = .ok (.value (.pointer (some ⟨w.heap.size, 0, none⟩))) (w.alloc (.cells ptZ 61)) := by
  unfold allocPt execOp
  simp only [Sem.run_bind, Instr.alloc, run_zero_pt, newVar, newRow, run_newObj_alloc, Sem.run_pure, Result.andThen_ok, Value.cells]
noncomputable def storePt (p v : Value) (w : World) : Result Next := Sem.run Tryz.prog (execOp (fun x => match x with
  | .tmp 0 => p
  | _ => v) { dst := none, op := .store 61 (.tmp 0) (.tmp 1), type := 0, pos := "", after := #[], guard := none }) w
theorem exec_store_pt (r : Operand → Value) (x y : Operand) (dst : Option Tmp) (ty : TypeId) (pos : String) (after : Array Edge) (guard : Option (Nat × Bool)) (w : World) :
    Sem.run Tryz.prog (execOp r { dst := dst, op := .store 61 x y, type := ty, pos := pos, after := after, guard := guard }) w = storePt (r x) (r y) w := rfl
theorem pt_var (w : World) {Z S : Array Value} (hZ : Z.size = 6) (hS : S.size = 6) (h1 : S.all (·.oneCell') = true) :
    storePt (.pointer (some ⟨w.heap.size, 0, none⟩)) (.agg S) (w.alloc (.cells Z 61)) = .ok .skip (w.alloc (.cells S 61)) := by
  have := run_storeVar_row (P := Tryz.prog) (w.alloc (.cells Z 61)) w.heap.size 61 61 Z S (heap_alloc_new w _) (by rw [size_pt, hS]) (by rw [hZ, hS]) h1
  unfold storePt execOp
  simp only [Instr.storeAt, Instr.sureAddr, Sem.run_bind, Sem.run_pure, Result.andThen_ok, this]
  exact congrArg _ (setAx_alloc w _ Z S)
noncomputable def buildPt (w : World) : Result Next := Sem.run Tryz.prog (execOp (fun _ => undef) { dst := none, op := .build 61 #[], type := 0, pos := "", after := #[], guard := none }) w
theorem exec_build_pt (r : Operand → Value) (dst : Option Tmp) (ty : TypeId) (pos : String) (after : Array Edge) (guard : Option (Nat × Bool)) (w : World) :
    Sem.run Tryz.prog (execOp r { dst := dst, op := .build 61 #[], type := ty, pos := pos, after := after, guard := guard }) w = buildPt w := by
  unfold buildPt execOp
  simp
theorem buildPt_eq (w : World) : buildPt w = .ok (.value (.agg ptZ)) w := by
  unfold buildPt
  go_simp
  rfl
noncomputable def eqPt (u v : Value) (w : World) : Result Next := Sem.run Tryz.prog (execOp (fun x => match x with
  | .tmp 0 => u
  | _ => v) { dst := none, op := .binOp .eql 61 (.tmp 0) (.tmp 1) 61, type := 0, pos := "", after := #[], guard := none }) w
theorem exec_eq_pt (r : Operand → Value) (i j : Tmp) (dst : Option Tmp) (ty : TypeId) (pos : String) (after : Array Edge) (guard : Option (Nat × Bool)) (w : World) :
    Sem.run Tryz.prog (execOp r { dst := dst, op := .binOp .eql 61 (.tmp i) (.tmp j) 61, type := ty, pos := pos, after := after, guard := guard }) w = eqPt (r (.tmp i)) (r (.tmp j)) w := rfl
theorem eqPt_same (w : World) : eqPt (.agg ptZ) (.agg ptZ) w = .ok (.value (.bool true)) w := by
  unfold eqPt ptZ
  go_simp
theorem eqPt_not {k : Int} (h1 : 1 ≤ k) (h2 : k ≤ 10) (w : World) : eqPt (.agg (ptc k)) (.agg ptZ) w = .ok (.value (.bool false)) w := by
  have h : k = 1 ∨ k = 2 ∨ k = 3 ∨ k = 4 ∨ k = 5 ∨ k = 6 ∨ k = 7 ∨ k = 8 ∨ k = 9 ∨ k = 10 := by omega
  rcases h with rfl | rfl | rfl | rfl | rfl | rfl | rfl | rfl | rfl | rfl
  all_goals
    unfold eqPt ptc ptA ptC ptK ptX ptH ptT ptZ
    go_simp
theorem results_pt {fn : Func} {q : Tmp} (h : fn.results = #[.cell q 61]) (tmps : Array Value) (w : World) (g2 : Nat) (t2 : TypeId) (ys : Array Value)
    (hq : tmps.getD q undef = .pointer (some ⟨g2, 0, none⟩)) (h2 : w.heap[g2]? = some (.cells ys t2 (0, 0))) (hy : ys.size = 6) :
    (results fn tmps).run Tryz.prog w = .ok (.agg ys) w := by
  have hq' : tmps[q]?.getD undef = .pointer (some ⟨g2, 0, none⟩) := by simpa using hq
  have r2 := run_loadVar_row (P := Tryz.prog) w g2 t2 61 ys (0, 0) _ h2 under_pt rfl (by rw [size_pt, hy])
  simp [results, h, hq', asAddr, r2]
theorem results_mg {fn : Func} {q : Tmp} (h : fn.results = #[.cell q 38]) (tmps : Array Value) (w : World) (g2 : Nat) (t2 : TypeId) (ys : Array Value)
    (hq : tmps.getD q undef = .pointer (some ⟨g2, 0, none⟩)) (h2 : w.heap[g2]? = some (.cells ys t2 (0, 0))) (hy : ys.size = 349) :
    (results fn tmps).run Tryz.prog w = .ok (.agg ys) w := by
  have hq' : tmps[q]?.getD undef = .pointer (some ⟨g2, 0, none⟩) := by simpa using hq
  have r2 := run_loadVar_row (P := Tryz.prog) w g2 t2 38 ys (0, 0) _ h2 under_mg rfl (by rw [size_mg, hy])
  simp [results, h, hq', asAddr, r2]
theorem mgWithin_any (n : Int) (w : World) : Calls Tryz.prog 26 #[.int .i64 n] w fun e w' => e = .returned (.bool (decide (1 ≤ n) && decide (n ≤ 21))) ∧ w = w' := by
  go_enter Tryz.func26, Tryz.ntmps26
  go_wp2_with fail
  all_goals
    go_ret
    refine ⟨congrArg (fun b => Ending.returned (Value.bool b)) ?_, rfl⟩
  all_goals grind
attribute [local go_sem ↓] exec_alloc_pt exec_store_pt
set_option maxHeartbeats 6400000 in
theorem parts11_any (k : Int) (w : World) : Calls Tryz.prog 20 #[.int .i64 k] w fun e w' => e = .returned (.agg (ptc k)) ∧ Below w.heap.size w w' := by
  have hal := allocPt_eq w
  have HST := hid (fun (S : Array Value) (hS : S.size = 6) (h1 : S.all (·.oneCell') = true) => pt_var w (Z := ptZ) rfl hS h1)
  obtain ⟨Z, HZ⟩ : ∃ C : Array Value, Hid (ptZ = C) := ⟨_, hid rfl⟩
  rw [HZ.out] at hal HST
  have HFN : Hid (∀ S : Array Value, (w.alloc (.cells S 61)).heap[w.heap.size]? = some (.cells S 61 (0, 0)) ∧ Below w.heap.size w (w.alloc (.cells S 61))) := hid (fun S => ⟨heap_alloc_new w _, (Below.refl _ _).alloc (Nat.le_refl _) _⟩)
  go_enter Tryz.func20, Tryz.ntmps20
  go_upto_region 1 with (fail)
  clear hal
  by_cases g1 : k = 1
  case pos =>
    subst g1
    have hs := HST.out #[.int .i64 1, .int .i64 0, .bool false, .bool false, .bool false, .bool false] rfl (pt_one _ _ _ _ _ _)
    go_wp2_with fail
    refine bodyPost_ret (results_pt rfl _ _ _ _ _ rfl (HFN.out _).1 rfl) rfl ?_
    exact ⟨rfl, (HFN.out _).2⟩
  have u1 : (k == 1) = false := by simpa using g1
  by_cases g2 : k = 2
  case pos =>
    subst g2
    have hs := HST.out #[.int .i64 0, .int .i64 0, .bool true, .bool true, .bool false, .bool false] rfl (pt_one _ _ _ _ _ _)
    go_wp2_with fail
    refine bodyPost_ret (results_pt rfl _ _ _ _ _ rfl (HFN.out _).1 rfl) rfl ?_
    exact ⟨rfl, (HFN.out _).2⟩
  have u2 : (k == 2) = false := by simpa using g2
  by_cases g3 : k = 3
  case pos =>
    subst g3
    have hs := HST.out #[.int .i64 2, .int .i64 0, .bool false, .bool false, .bool false, .bool false] rfl (pt_one _ _ _ _ _ _)
    go_wp2_with fail
    refine bodyPost_ret (results_pt rfl _ _ _ _ _ rfl (HFN.out _).1 rfl) rfl ?_
    exact ⟨rfl, (HFN.out _).2⟩
  have u3 : (k == 3) = false := by simpa using g3
  by_cases g4 : k = 4
  case pos =>
    subst g4
    have hs := HST.out #[.int .i64 0, .int .i64 2, .bool false, .bool false, .bool false, .bool false] rfl (pt_one _ _ _ _ _ _)
    go_wp2_with fail
    refine bodyPost_ret (results_pt rfl _ _ _ _ _ rfl (HFN.out _).1 rfl) rfl ?_
    exact ⟨rfl, (HFN.out _).2⟩
  have u4 : (k == 4) = false := by simpa using g4
  by_cases g5 : k = 5
  case pos =>
    subst g5
    have hs := HST.out #[.int .i64 3, .int .i64 0, .bool false, .bool false, .bool false, .bool false] rfl (pt_one _ _ _ _ _ _)
    go_wp2_with fail
    refine bodyPost_ret (results_pt rfl _ _ _ _ _ rfl (HFN.out _).1 rfl) rfl ?_
    exact ⟨rfl, (HFN.out _).2⟩
  have u5 : (k == 5) = false := by simpa using g5
  by_cases g6 : k = 6
  case pos =>
    subst g6
    have hs := HST.out #[.int .i64 0, .int .i64 3, .bool false, .bool false, .bool false, .bool false] rfl (pt_one _ _ _ _ _ _)
    go_wp2_with fail
    refine bodyPost_ret (results_pt rfl _ _ _ _ _ rfl (HFN.out _).1 rfl) rfl ?_
    exact ⟨rfl, (HFN.out _).2⟩
  have u6 : (k == 6) = false := by simpa using g6
  by_cases g7 : k = 7
  case pos =>
    subst g7
    have hs := HST.out #[.int .i64 0, .int .i64 0, .bool false, .bool false, .bool true, .bool false] rfl (pt_one _ _ _ _ _ _)
    go_wp2_with fail
    refine bodyPost_ret (results_pt rfl _ _ _ _ _ rfl (HFN.out _).1 rfl) rfl ?_
    exact ⟨rfl, (HFN.out _).2⟩
  have u7 : (k == 7) = false := by simpa using g7
  by_cases g8 : k = 8
  case pos =>
    subst g8
    have hs := HST.out #[.int .i64 0, .int .i64 0, .bool true, .bool false, .bool false, .bool false] rfl (pt_one _ _ _ _ _ _)
    go_wp2_with fail
    refine bodyPost_ret (results_pt rfl _ _ _ _ _ rfl (HFN.out _).1 rfl) rfl ?_
    exact ⟨rfl, (HFN.out _).2⟩
  have u8 : (k == 8) = false := by simpa using g8
  by_cases g9 : k = 9
  case pos =>
    subst g9
    have hs := HST.out #[.int .i64 0, .int .i64 0, .bool false, .bool false, .bool false, .bool true] rfl (pt_one _ _ _ _ _ _)
    go_wp2_with fail
    refine bodyPost_ret (results_pt rfl _ _ _ _ _ rfl (HFN.out _).1 rfl) rfl ?_
    exact ⟨rfl, (HFN.out _).2⟩
  have u9 : (k == 9) = false := by simpa using g9
  by_cases g10 : k = 10
  case pos =>
    subst g10
    have hs := HST.out #[.int .i64 0, .int .i64 0, .bool false, .bool true, .bool false, .bool false] rfl (pt_one _ _ _ _ _ _)
    go_wp2_with fail
    refine bodyPost_ret (results_pt rfl _ _ _ _ _ rfl (HFN.out _).1 rfl) rfl ?_
    exact ⟨rfl, (HFN.out _).2⟩
  have u10 : (k == 10) = false := by simpa using g10
  have HPC : Hid (ptc k = ptZ) := hid (ptc_no (by omega))
  clear g1 g2 g3 g4 g5 g6 g7 g8 g9 g10
  have hs := HST.out #[.int .i64 0, .int .i64 0, .bool false, .bool false, .bool false, .bool false] rfl (pt_one _ _ _ _ _ _)
  go_wp2_with fail
  refine bodyPost_ret (results_pt rfl _ _ _ _ _ rfl (HFN.out _).1 rfl) rfl ?_
  exact ⟨by rw [HPC.out]; rfl, (HFN.out _).2⟩
end Go.Proofs.YtjemfmbmlmogcaaGreat
namespace Go.Proofs.YtjemfmbmlmogcaaGreat
set_option maxRecDepth 20000
open Go.RowKit
structure SoR (L : List UInt8) (p : Nat) (r : Bool) (bs : List UInt8) (q : Nat) : Prop where
  rt : r = true
  at_ : q = p + bs.length
  is : ∃ x, L.drop p = bs ++ x
section
variable {L bs cs : List UInt8} {p q s : Nat} {r t : Bool}
theorem SoR.trans (h : SoR L p r bs q) (k : SoR L q t cs s) : SoR L p r (bs ++ cs) s := by
  obtain ⟨h1, h2, x, h3⟩ := h
  obtain ⟨_, k2, y, k3⟩ := k
  have := drop_more h3
  rw [← h2, k3] at this
  exact ⟨h1, by rw [List.length_append]; omega, y, by rw [h3, ← this, List.append_assoc]⟩
theorem so_upto {m : Int} {n : Nat} (h : rdUpto m L p r = (n, q, true)) : SoR L p r (dg n) q := by
  obtain ⟨h1, _, _, h2, h3⟩ := rdUpto_so h
  exact ⟨h1, h2, h3⟩
theorem so_hash (h : rdHash L p r = (bs, q, true)) : SoR L p r bs q := by
  obtain ⟨h1, _, h2, h3⟩ := rdHash_so h
  exact ⟨h1, h2, h3⟩
theorem so_text (h : rdText L p r = (bs, q, true)) : SoR L p r (tx bs) q := by
  obtain ⟨h1, _, h2, h3⟩ := rdText_so h
  exact ⟨h1, h2, h3⟩
end
theorem rawA_so {L : List UInt8} {p : Nat} {r : Bool} (h : (rawA L p r).2.2 = true) : SoR L p r (bytesA (rawA L p r).1) (rawA L p r).2.1 := by
  unfold rawA at h ⊢
  obtain ⟨a, p1, r1, ha⟩ : ∃ x q s, rdUpto 21 L p r = (x, q, s) := ⟨_, _, _, rfl⟩
  obtain ⟨b, p2, r2, hb⟩ : ∃ x q s, rdUpto 3 L p1 r1 = (x, q, s) := ⟨_, _, _, rfl⟩
  obtain ⟨c, p3, r3, hc⟩ : ∃ x q s, rdUpto 1099511627776 L p2 r2 = (x, q, s) := ⟨_, _, _, rfl⟩
  obtain ⟨d, p4, r4, hd⟩ : ∃ x q s, rdUpto 3 L p3 r3 = (x, q, s) := ⟨_, _, _, rfl⟩
  obtain ⟨e, p5, r5, he⟩ : ∃ x q s, rdHash L p4 r4 = (x, q, s) := ⟨_, _, _, rfl⟩
  obtain ⟨f, p6, r6, hf⟩ : ∃ x q s, rdUpto 1099511627776 L p5 r5 = (x, q, s) := ⟨_, _, _, rfl⟩
  obtain ⟨g, p7, r7, hg⟩ : ∃ x q s, rdHash L p6 r6 = (x, q, s) := ⟨_, _, _, rfl⟩
  obtain ⟨k, p8, r8, hk⟩ : ∃ x q s, rdHash L p7 r7 = (x, q, s) := ⟨_, _, _, rfl⟩
  simp only [ha, hb, hc, hd, he, hf, hg, hk] at h ⊢
  subst h
  have s8 := so_hash hk
  obtain rfl := s8.rt
  have s7 := so_hash hg
  obtain rfl := s7.rt
  have s6 := so_upto hf
  obtain rfl := s6.rt
  have s5 := so_hash he
  obtain rfl := s5.rt
  have s4 := so_upto hd
  obtain rfl := s4.rt
  have s3 := so_upto hc
  obtain rfl := s3.rt
  have s2 := so_upto hb
  obtain rfl := s2.rt
  have s1 := so_upto ha
  have := s1.trans (s2.trans (s3.trans (s4.trans (s5.trans (s6.trans (s7.trans (s8)))))))
  unfold bytesA taggedA
  simp only [Int.toNat_natCast, List.append_assoc]
  exact this
theorem rdSigs_so {L : List UInt8} {p : Nat} {r : Bool} : ∀ k, (rdSigs L p r k).2.2 = true → SoR L p r ((rdSigs L p r k).1.map bytesG).flatten (rdSigs L p r k).2.1
  | 0, h => ⟨h, by simp [rdSigs], L.drop p, by simp [rdSigs]⟩
  | k + 1, h => by
    have ih := rdSigs_so (L := L) (p := p) (r := r) k
    unfold rdSigs at h ⊢
    obtain ⟨ts, p1, r1, h1⟩ : ∃ x q s, rdSigs L p r k = (x, q, s) := ⟨_, _, _, rfl⟩
    obtain ⟨u, p2, r2, h2⟩ : ∃ x q s, rdUpto 21 L p1 r1 = (x, q, s) := ⟨_, _, _, rfl⟩
    obtain ⟨v, p3, r3, h3⟩ : ∃ x q s, rdHash L p2 r2 = (x, q, s) := ⟨_, _, _, rfl⟩
    simp only [h1, h2, h3] at h ih ⊢
    subst h
    have s3 := so_hash h3
    obtain rfl := s3.rt
    have s2 := so_upto h2
    obtain rfl := s2.rt
    have := (ih rfl).trans (s2.trans s3)
    simp only [List.map_append, List.map_cons, List.map_nil, List.flatten_append, List.flatten_cons, List.flatten_nil, List.append_nil]
    unfold bytesG at this ⊢
    simp only [Int.toNat_natCast]
    exact this
theorem rdFrs_so {L : List UInt8} {p : Nat} {r : Bool} : ∀ k, (rdFrs L p r k).2.2 = true → SoR L p r (frB (rdFrs L p r k).1) (rdFrs L p r k).2.1
  | 0, h => ⟨h, by simp [rdFrs, frB], L.drop p, by simp [rdFrs, frB]⟩
  | k + 1, h => by
    have ih := rdFrs_so (L := L) (p := p) (r := r) k
    unfold rdFrs at h ⊢
    obtain ⟨ts, p1, r1, h1⟩ : ∃ x q s, rdFrs L p r k = (x, q, s) := ⟨_, _, _, rfl⟩
    obtain ⟨u, p2, r2, h2⟩ : ∃ x q s, rdUpto 21 L p1 r1 = (x, q, s) := ⟨_, _, _, rfl⟩
    simp only [h1, h2] at h ih ⊢
    subst h
    have s2 := so_upto h2
    obtain rfl := s2.rt
    have := (ih rfl).trans s2
    unfold frB at this ⊢
    simp only [List.map_append, List.map_cons, List.map_nil, List.flatten_append, List.flatten_cons, List.flatten_nil, List.append_nil, Int.toNat_natCast]
    exact this
theorem rawC_so {L : List UInt8} {p : Nat} {r : Bool} (h : (rawC L p r).2.2 = true) : SoR L p r (bytesC (rawC L p r).1) (rawC L p r).2.1 := by
  unfold rawC at h ⊢
  obtain ⟨a, p1, r1, ha⟩ : ∃ x q s, rdUpto 3 L p r = (x, q, s) := ⟨_, _, _, rfl⟩
  obtain ⟨b, p2, r2, hb⟩ : ∃ x q s, rdUpto 1099511627776 L p1 r1 = (x, q, s) := ⟨_, _, _, rfl⟩
  obtain ⟨c, p3, r3, hc⟩ : ∃ x q s, rdUpto 3 L p2 r2 = (x, q, s) := ⟨_, _, _, rfl⟩
  obtain ⟨d, p4, r4, hd⟩ : ∃ x q s, rdHash L p3 r3 = (x, q, s) := ⟨_, _, _, rfl⟩
  obtain ⟨e, p5, r5, he⟩ : ∃ x q s, rdUpto 1099511627776 L p4 r4 = (x, q, s) := ⟨_, _, _, rfl⟩
  obtain ⟨f, p6, r6, hf⟩ : ∃ x q s, rdHash L p5 r5 = (x, q, s) := ⟨_, _, _, rfl⟩
  obtain ⟨g, p7, r7, hg⟩ : ∃ x q s, rdUpto 21 L p6 r6 = (x, q, s) := ⟨_, _, _, rfl⟩
  simp only [ha, hb, hc, hd, he, hf, hg] at h ⊢
  have s8 := rdSigs_so g h
  have hl := rdSigs_len L p7 r7 g
  obtain rfl := s8.rt
  have s7 := so_upto hg
  obtain rfl := s7.rt
  have s6 := so_hash hf
  obtain rfl := s6.rt
  have s5 := so_upto he
  obtain rfl := s5.rt
  have s4 := so_hash hd
  obtain rfl := s4.rt
  have s3 := so_upto hc
  obtain rfl := s3.rt
  have s2 := so_upto hb
  obtain rfl := s2.rt
  have s1 := so_upto ha
  have := s1.trans (s2.trans (s3.trans (s4.trans (s5.trans (s6.trans (s7.trans (s8)))))))
  unfold bytesC taggedA
  simp only [Int.toNat_natCast, List.append_assoc, hl]
  exact this
theorem rawX_so {L : List UInt8} {p : Nat} {r : Bool} (h : (rawX L p r).2.2 = true) : SoR L p r (bytesX (rawX L p r).1) (rawX L p r).2.1 := by
  unfold rawX at h ⊢
  obtain ⟨a, p1, r1, ha⟩ : ∃ x q s, rdUpto 21 L p r = (x, q, s) := ⟨_, _, _, rfl⟩
  obtain ⟨b, p2, r2, hb⟩ : ∃ x q s, rdUpto 1099511627776 L p1 r1 = (x, q, s) := ⟨_, _, _, rfl⟩
  obtain ⟨c, p3, r3, hc⟩ : ∃ x q s, rdUpto 1099511627776 L p2 r2 = (x, q, s) := ⟨_, _, _, rfl⟩
  obtain ⟨d, p4, r4, hd⟩ : ∃ x q s, rdHash L p3 r3 = (x, q, s) := ⟨_, _, _, rfl⟩
  obtain ⟨e, p5, r5, he⟩ : ∃ x q s, rdUpto 21 L p4 r4 = (x, q, s) := ⟨_, _, _, rfl⟩
  obtain ⟨ts, p6, r6, hts⟩ : ∃ x q s, rdFrs L p5 r5 e = (x, q, s) := ⟨_, _, _, rfl⟩
  obtain ⟨k, p7, r7, hk⟩ : ∃ x q s, rdHash L p6 r6 = (x, q, s) := ⟨_, _, _, rfl⟩
  have hl := rdFrs_len L p5 r5 e
  have s6 := rdFrs_so (L := L) (p := p5) (r := r5) e
  simp only [ha, hb, hc, hd, he, hts, hk] at h hl s6 ⊢
  subst h
  have s7 := so_hash hk
  obtain rfl := s7.rt
  have s6 := s6 rfl
  obtain rfl := s6.rt
  have s5 := so_upto he
  obtain rfl := s5.rt
  have s4 := so_hash hd
  obtain rfl := s4.rt
  have s3 := so_upto hc
  obtain rfl := s3.rt
  have s2 := so_upto hb
  obtain rfl := s2.rt
  have s1 := so_upto ha
  have := s1.trans (s2.trans (s3.trans (s4.trans (s5.trans (s6.trans (s7))))))
  unfold bytesX taggedX
  simp only [Int.toNat_natCast, List.append_assoc, hl]
  exact this
section
variable {l : List UInt8} {p q : Nat} {r s : Bool}
theorem so_at (h : atIs l p r = true) : SoR l p r (bytesA (atOf l p r)) (rawA l p r).2.1 := by
  unfold atOf
  rw [if_pos h]
  unfold atIs at h
  rw [Bool.and_eq_true] at h
  exact rawA_so h.1
theorem so_ct (h : ctIs l p r = true) : SoR l p r (bytesC (ctOf l p r)) (rawC l p r).2.1 := by
  unfold ctOf
  rw [if_pos h]
  unfold ctIs at h
  rw [Bool.and_eq_true] at h
  exact rawC_so h.1
theorem so_ac (h : acIs l p r = true) : SoR l p r (bytesX (acOf l p r)) (rawX l p r).2.1 := by
  unfold acOf
  rw [if_pos h]
  unfold acIs at h
  rw [Bool.and_eq_true] at h
  exact rawX_so h.1
theorem so_tx (h : rdIs l p r = true) : SoR l p r (bytesT (rdTx l p r)) (rdRaw l p r).2.1 := by
  obtain ⟨h1, _, h2, h3⟩ := rdTx_so h
  exact ⟨h1, h2, h3⟩
theorem mayA_is (h : mayA (atOf l p r) = true) : atIs l p r = true := by
  unfold atOf at h
  split at h
  · assumption
  · exact absurd h (by decide)
theorem mayC_is (h : mayC (ctOf l p r) = true) : ctIs l p r = true := by
  unfold ctOf at h
  split at h
  · assumption
  · exact absurd h (by decide)
theorem mayX_is (h : mayX (acOf l p r) = true) : acIs l p r = true := by
  unfold acOf at h
  split at h
  · assumption
  · exact absurd h (by decide)
theorem mayT_is (h : mayT (rdTx l p r) = true) : rdIs l p r = true := by
  unfold rdTx at h
  split at h
  · assumption
  · exact absurd h (by decide)
theorem rdText_short (l : List UInt8) (p : Nat) (r : Bool) : (rdText l p r).1.length ≤ 65536 := by
  unfold rdText
  split
  · exact Nat.zero_le _
  · split
    · split
      · rename_i h
        rw [List.length_take]
        omega
      · exact Nat.zero_le _
    · exact Nat.zero_le _
theorem rdText_nil (h : (rdText l p r).2.2 = false) : (rdText l p r).1 = [] := by
  unfold rdText at h ⊢
  split
  · rfl
  · rename_i hr
    rw [if_neg hr] at h
    split
    · rename_i n hn
      rw [hn] at h
      simp only at h
      split
      · rename_i hc
        rw [if_pos hc] at h
        cases h
      · rfl
    · rfl
theorem gotK_so {t : List UInt8} (h : 0 < (gotK t).vi) : bytesK (gotK t) = t ∧ t ≠ [] := by
  unfold gotK at h ⊢
  cases hg : getK t with
  | none => rw [hg] at h; exact absurd h (by decide)
  | some b =>
    obtain ⟨_, h2⟩ := getK_so hg
    refine ⟨h2, fun h0 => ?_⟩
    have h3 := getK_par hg
    have h4 := congrArg List.length h2
    rw [h0] at h4
    unfold bytesK at h4
    simp only [List.length_append, List.length_nil] at h4
    omega
end
theorem mayM_kd {m : MgM} (h : mayM m = true) : kindM m = true := by
  unfold mayM at h
  simp only [Bool.and_eq_true] at h
  exact h.2.1
theorem head_back {m : MgM} (hm : mayM m = true) : ∃ p, headM (bytesM m) = (bareM m, p, true) ∧ (bytesM m).drop p = bodyM m := by
  obtain ⟨⟨f1, f2, f3, f4, _⟩, hh⟩ := mayM_has hm
  obtain ⟨k1, k2⟩ := hh.ki
  have d0 : (bytesM m).drop 0 = dg m.ki.toNat ++ (dg m.fr.toNat ++ (dg m.tu.toNat ++ bodyM m)) := rfl
  have d1 := drop_more d0
  have d2 := drop_more d1
  have d3 := drop_more d2
  have e1 := rdUpto_at (m := 10) d0 (by omega) (by omega)
  have e2 := rdUpto_at (m := 21) d1 (by omega) (by omega)
  have e3 := rdUpto_at (m := 21) d2 (by omega) (by omega)
  refine ⟨_, ?_, d3⟩
  unfold headM
  simp only [e1, e2, e3]
  unfold bareM
  simp only [Int.toNat_of_nonneg (show 0 ≤ m.ki by omega), Int.toNat_of_nonneg (show 0 ≤ m.fr by omega), Int.toNat_of_nonneg (show 0 ≤ m.tu by omega)]
def EndM (l : List UInt8) (q : Nat) (r : Bool) : Prop := mayM (rawM l) = true → (r && decide (q = l.length)) = decide (bytesM (rawM l) = l)
theorem end_so {l : List UInt8} {q : Nat} (h : SoR l 0 true (bytesM (rawM l)) q) : (true && decide (q = l.length)) = decide (bytesM (rawM l) = l) := by
  obtain ⟨_, h2, x, h3⟩ := h
  generalize bytesM (rawM l) = B at *
  rw [List.drop_zero] at h3
  rw [Bool.true_and]
  subst h3
  rw [Bool.eq_iff_iff, decide_eq_true_eq, decide_eq_true_eq]
  constructor
  · intro e
    rw [List.length_append] at e
    have : x = [] := List.eq_nil_of_length_eq_zero (by omega)
    rw [this, List.append_nil]
  · intro e
    rw [← e]
    omega
theorem restM_ki (l : List UInt8) (m : MgM) (p : Nat) (r : Bool) : (restM l m p r).ki = m.ki ∧ (restM l m p r).fr = m.fr ∧ (restM l m p r).tu = m.tu := by
  unfold restM
  repeat' split
  all_goals exact ⟨rfl, rfl, rfl⟩
section
variable {l : List UInt8} {hd : MgM} {p q : Nat} {r s : Bool} (H : headM l = (hd, p, r))
include H
theorem rawM_hd : rawM l = restM l hd p r := by
  unfold rawM
  rw [H]
theorem head_so (hr : r = true) : SoR l 0 true (dg hd.ki.toNat ++ (dg hd.fr.toNat ++ dg hd.tu.toNat)) p := by
  subst hr
  unfold headM at H
  obtain ⟨a, p1, r1, h1⟩ : ∃ x q s, rdUpto 10 l 0 true = (x, q, s) := ⟨_, _, _, rfl⟩
  obtain ⟨b, p2, r2, h2⟩ : ∃ x q s, rdUpto 21 l p1 r1 = (x, q, s) := ⟨_, _, _, rfl⟩
  obtain ⟨c, p3, r3, h3⟩ : ∃ x q s, rdUpto 21 l p2 r2 = (x, q, s) := ⟨_, _, _, rfl⟩
  simp only [h1, h2, h3, Prod.mk.injEq] at H
  obtain ⟨e1, rfl, rfl⟩ := H
  have s3 := so_upto h3
  obtain rfl := s3.rt
  have s2 := so_upto h2
  obtain rfl := s2.rt
  have := (so_upto h1).trans (s2.trans s3)
  rw [← e1]
  simp only [Int.toNat_natCast]
  exact this
theorem so_all (hb : SoR l p r (bodyM (rawM l)) q) : SoR l 0 true (bytesM (rawM l)) q := by
  have h1 := (head_so H hb.rt).trans hb
  obtain ⟨e1, e2, e3⟩ := restM_ki l hd p r
  rw [← rawM_hd H] at e1 e2 e3
  unfold bytesM
  rw [e1, e2, e3]
  simp only [List.append_assoc] at h1
  exact h1
theorem raw_ki : (rawM l).ki = hd.ki := by rw [rawM_hd H]; exact (restM_ki l hd p r).1
theorem end_aa (h : isA hd.ki) (hc : atIs l p r = true → q = (rawA l p r).2.1 ∧ s = true) : EndM l q s := by
  intro hm
  have hr : rawM l = { hd with aa := atOf l p r } := by rw [rawM_hd H]; unfold restM; rw [if_pos h]
  have hk : isA (rawM l).ki := by rw [raw_ki H]; exact h
  have hkd := mayM_kd hm
  rw [(kind_aa hk).1, Bool.and_eq_true] at hkd
  have hi : atIs l p r = true := mayA_is (by have := hkd.1; rw [hr] at this; exact this)
  obtain ⟨rfl, rfl⟩ := hc hi
  have hb : bodyM (rawM l) = bytesA (atOf l p r) := by unfold bodyM; rw [if_pos hk, hr]
  exact end_so (so_all H (by rw [hb]; exact so_at hi))
theorem end_cc (h : isC hd.ki) (hc : ctIs l p r = true → q = (rawC l p r).2.1 ∧ s = true) : EndM l q s := by
  intro hm
  have n1 : ¬ isA hd.ki := by unfold isC at h; unfold isA; omega
  have hr : rawM l = { hd with cc := ctOf l p r } := by rw [rawM_hd H]; unfold restM; rw [if_neg n1, if_pos h]
  have hk : isC (rawM l).ki := by rw [raw_ki H]; exact h
  have hkd := mayM_kd hm
  rw [(kind_cc hk).1, Bool.and_eq_true] at hkd
  have hi : ctIs l p r = true := mayC_is (by have := hkd.1; rw [hr] at this; exact this)
  obtain ⟨rfl, rfl⟩ := hc hi
  have hb : bodyM (rawM l) = bytesC (ctOf l p r) := by unfold bodyM; rw [raw_ki H, if_neg n1, if_pos h, hr]
  exact end_so (so_all H (by rw [hb]; exact so_ct hi))
theorem end_hh (h : hd.ki = 7) (hq : (rdHash l p r).2.1 = q) (hs : (rdHash l p r).2.2 = s) : EndM l q s := by
  intro hm
  have n1 : ¬ isA hd.ki := by unfold isA; omega
  have n2 : ¬ isC hd.ki := by unfold isC; omega
  have hr : rawM l = { hd with hh := (rdHash l p r).1 } := by rw [rawM_hd H]; unfold restM; rw [if_neg n1, if_neg n2, if_pos h]
  have hb : bodyM (rawM l) = (rdHash l p r).1 := by unfold bodyM; rw [raw_ki H, if_neg n1, if_neg n2, if_pos h, hr]
  subst hq
  cases s with
  | true => exact end_so (so_all H (by rw [hb]; exact so_hash (by rw [← hs])))
  | false =>
    rw [Bool.false_and]
    symm
    rw [decide_eq_false_iff_not]
    intro e
    obtain ⟨p', e1, e2⟩ := head_back hm
    rw [e, H] at e1
    rw [e, hb] at e2
    injection e1 with _ e1
    injection e1 with ep er
    subst ep er
    have := rdHash_at (L := l) (r := []) (by rw [List.append_nil]; exact e2) (rdHash_32 l p true)
    rw [this] at hs
    cases hs
theorem end_tt (h : hd.ki = 9) (hc : rdIs l p r = true → q = (rdRaw l p r).2.1 ∧ s = true) : EndM l q s := by
  intro hm
  have n1 : ¬ isA hd.ki := by unfold isA; omega
  have n2 : ¬ isC hd.ki := by unfold isC; omega
  have n3 : ¬ hd.ki = 7 := by omega
  have hr : rawM l = { hd with tt := rdTx l p r } := by rw [rawM_hd H]; unfold restM; rw [if_neg n1, if_neg n2, if_neg n3, if_pos h]
  have hk : (rawM l).ki = 9 := by rw [raw_ki H]; exact h
  have hkd := mayM_kd hm
  rw [(kind_tt hk).1] at hkd
  have hi : rdIs l p r = true := mayT_is (by rw [hr] at hkd; exact hkd)
  obtain ⟨rfl, rfl⟩ := hc hi
  have hb : bodyM (rawM l) = bytesT (rdTx l p r) := by unfold bodyM; rw [raw_ki H, if_neg n1, if_neg n2, if_neg n3, if_pos h, hr]
  exact end_so (so_all H (by rw [hb]; exact so_tx hi))
theorem end_xx (h : hd.ki = 10) (hc : acIs l p r = true → q = (rawX l p r).2.1 ∧ s = true) : EndM l q s := by
  intro hm
  have n1 : ¬ isA hd.ki := by unfold isA; omega
  have n2 : ¬ isC hd.ki := by unfold isC; omega
  have n3 : ¬ hd.ki = 7 := by omega
  have n4 : ¬ hd.ki = 9 := by omega
  have hr : rawM l = { hd with xx := acOf l p r } := by rw [rawM_hd H]; unfold restM; rw [if_neg n1, if_neg n2, if_neg n3, if_neg n4, if_pos h]
  have hk : (rawM l).ki = 10 := by rw [raw_ki H]; exact h
  have hkd := mayM_kd hm
  rw [(kind_xx hk).1] at hkd
  have hi : acIs l p r = true := mayX_is (by rw [hr] at hkd; exact hkd)
  obtain ⟨rfl, rfl⟩ := hc hi
  have hb : bodyM (rawM l) = bytesX (acOf l p r) := by unfold bodyM; rw [raw_ki H, if_neg n1, if_neg n2, if_neg n3, if_neg n4, if_pos h, hr]
  exact end_so (so_all H (by rw [hb]; exact so_ac hi))
theorem end_kk (h : hd.ki = 8) (hq : (rdText l p r).2.1 = q) (hs : (rdText l p r).2.2 = s) : EndM l q s := by
  intro hm
  have n1 : ¬ isA hd.ki := by unfold isA; omega
  have n2 : ¬ isC hd.ki := by unfold isC; omega
  have n3 : ¬ hd.ki = 7 := by omega
  have n4 : ¬ hd.ki = 9 := by omega
  have n5 : ¬ hd.ki = 10 := by omega
  have n6 : ¬ hd.ki = 2 := by omega
  have hr : rawM l = { hd with kk := gotK (rdText l p r).1 } := by rw [rawM_hd H]; unfold restM; rw [if_neg n1, if_neg n2, if_neg n3, if_neg n4, if_neg n5, if_neg n6, if_pos h]
  have hk : (rawM l).ki = 8 := by rw [raw_ki H]; exact h
  have hkd := mayM_kd hm
  rw [(kind_kk hk).1, Bool.and_eq_true, decide_eq_true_eq] at hkd
  obtain ⟨k1, k2⟩ := gotK_so (t := (rdText l p r).1) (by have := hkd.2; rw [hr] at this; exact this)
  have hb : bodyM (rawM l) = tx (rdText l p r).1 := by unfold bodyM; rw [raw_ki H, if_neg n1, if_neg n2, if_neg n3, if_neg n4, if_neg n5, if_neg n6, hr, List.append_nil]; exact congrArg tx k1
  subst hq
  cases s with
  | false => exact absurd (rdText_nil hs) k2
  | true => exact end_so (so_all H (by rw [hb]; exact so_text (by rw [← hs])))
theorem end_ka (h : hd.ki = 2) {p4 : Nat} {r4 : Bool} (hq : (rdText l p r).2.1 = p4) (hs : (rdText l p r).2.2 = r4) (hc : acIs l p4 r4 = true → q = (rawX l p4 r4).2.1 ∧ s = true) : EndM l q s := by
  intro hm
  have n1 : ¬ isA hd.ki := by unfold isA; omega
  have n2 : ¬ isC hd.ki := by unfold isC; omega
  have n3 : ¬ hd.ki = 7 := by omega
  have n4 : ¬ hd.ki = 9 := by omega
  have n5 : ¬ hd.ki = 10 := by omega
  have hr : rawM l = { hd with kk := gotK (rdText l p r).1, xx := acOf l p4 r4 } := by rw [rawM_hd H]; unfold restM; rw [if_neg n1, if_neg n2, if_neg n3, if_neg n4, if_neg n5, if_pos h, hq, hs]
  have hk : (rawM l).ki = 2 := by rw [raw_ki H]; exact h
  have hkd := mayM_kd hm
  rw [(kind_ka hk).1, Bool.and_eq_true, Bool.and_eq_true, decide_eq_true_eq] at hkd
  obtain ⟨k1, k2⟩ := gotK_so (t := (rdText l p r).1) (by have := hkd.2.1; rw [hr] at this; exact this)
  have hi : acIs l p4 r4 = true := mayX_is (by have := hkd.2.2; rw [hr] at this; exact this)
  obtain ⟨rfl, rfl⟩ := hc hi
  have hb : bodyM (rawM l) = tx (rdText l p r).1 ++ bytesX (acOf l p4 r4) := by unfold bodyM; rw [raw_ki H, if_neg n1, if_neg n2, if_neg n3, if_neg n4, if_neg n5, if_pos h, hr]; exact congrArg (fun x => tx x ++ bytesX (acOf l p4 r4)) k1
  have s2 := so_ac hi
  have e4 := s2.rt
  rw [e4] at hs
  exact end_so (so_all H (by rw [hb]; exact (so_text (q := p4) (by rw [← hq, ← hs])).trans s2))
theorem end_no (h : hd.ki < 1 ∨ 10 < hd.ki) : EndM l q s := by
  intro hm
  have hkd := mayM_kd hm
  rw [(kind_no (by rw [raw_ki H]; exact h)).1] at hkd
  cases hkd
end
theorem mgIs_end {l : List UInt8} {q : Nat} {r : Bool} (h : EndM l q r) : mgIs l = ((r && decide (q = l.length)) && mayM (rawM l)) := by
  unfold mgIs
  cases hm : mayM (rawM l) with
  | false => simp
  | true => rw [h hm, Bool.true_and, Bool.and_true]
end Go.Proofs.YtjemfmbmlmogcaaGreat
