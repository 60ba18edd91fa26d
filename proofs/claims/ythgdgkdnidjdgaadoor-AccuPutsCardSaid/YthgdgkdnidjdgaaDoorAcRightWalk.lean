/-
  AccuRight: whether any accumulation is right, and which are alike: the law's walk, from what accu's functions tell. Printed with genacrightw.py.
-/
import Derived.Test.YthgdgkdnidjdgaaDoorAcOk
import Derived.Test.YthgdgkdnidjdgaaDoorAcRight
import Derived.Test.YthgdgkdnidjdgaaDoorAcSame
import Derived.Test.YthgdgkdnidjdgaaDoorBs6
import Derived.Deep.DeepCutAuto
namespace Go.Proofs.YthgdgkdnidjdgaaDoor
set_option maxRecDepth 20000
open Go.RowKit
attribute [local go_sem ↓] exec_load_ax exec_alloc_ax exec_store_ax

/-- Two boxed accumulations. -/
def TwoX (g : Nat) (CA CB : Array Value) (W : World) : Prop := W.heap[g]? = some (.cells CA 30 (0, 0)) ∧ W.heap[g + 1]? = some (.cells CB 30 (0, 0))

set_option maxHeartbeats 6400000 in
theorem lawAccuRight_any (hR : AcRightOk) (hS : AcSameOk) (hA : AcAwakeOk) (n : Int) (va : Value) (a : AcM) (vb : Value) (b : AcM) (w : World) (hn : (Lit.int .i64 n).wf = true) (hva : AcV w va a) (hvb : AcV w vb b) (hK1 : Kst 0 w) (hK0 : Kst 1 w) :
    Calls Tryd.prog 4 #[.int .i64 n, va, vb] w fun e w' => e = .returned (.bool true) ∧ Below w.heap.size w w' := by
  have HA := hid (fun W (h : Below w.heap.size w W) => hA W (hK1.below h))
  have HRA : Hid (a.fr.length ≤ 1000 → ∀ W, Below w.heap.size w W → Calls Tryd.prog 10 #[.int .i64 n, va] W fun e w' => e = .returned (.bool (rightX n a)) ∧ Below W.heap.size W w') := hid (fun hl W h => hR n va a W hn (hva.below h) hl (hK1.below h))
  have HRR : Hid (∀ W, Below w.heap.size w W → Calls Tryd.prog 11 #[.int .i64 n, va] W fun e w' => e = .returned (.bool (rightX n a)) ∧ Below W.heap.size W w') := hid (fun W h => refRight10_any n va a W (hva.below h) (hK0.below h))
  have HSA : Hid (a.fr.length ≤ 1000 → b.fr.length ≤ 1000 → ∀ W, Below w.heap.size w W → Calls Tryd.prog 12 #[va, vb] W fun e w' => e = .returned (.bool (decide (a = b))) ∧ Below W.heap.size W w') := hid (fun h1 h2 W h => hS va vb a b W (hva.below h) (hvb.below h) h1 h2)
  have HSS : Hid (a.fr.length ≤ 1000 → ∀ W, Below w.heap.size w W → Calls Tryd.prog 12 #[va, va] W fun e w' => e = .returned (.bool true) ∧ Below W.heap.size W w') := hid (fun h1 W h => by
    have := hS va va a a W (hva.below h) (hva.below h) h1 h1
    rw [decide_eq_true (rfl : a = a)] at this
    exact this)
  have HSR : Hid (∀ W, Below w.heap.size w W → Calls Tryd.prog 9 #[va, vb] W fun e w' => e = .returned (.bool (decide (a = b))) ∧ Below W.heap.size W w') := hid (fun W h => refSame10_any va vb a b W (hva.below h) (hvb.below h))
  obtain ⟨m, HM⟩ : ∃ m : Bool, Hid (rightX n a = m) := ⟨_, hid rfl⟩
  obtain ⟨q, HQ⟩ : ∃ m : Bool, Hid (decide (a = b) = m) := ⟨_, hid rfl⟩
  obtain ⟨L1, HL1⟩ : ∃ n : Nat, Hid (a.fr.length = n) := ⟨_, hid rfl⟩
  obtain ⟨L2, HL2⟩ : ∃ n : Nat, Hid (b.fr.length = n) := ⟨_, hid rfl⟩
  rw [HM.out] at HRA HRR
  rw [HQ.out] at HSA HSR
  rw [HL1.out] at HRA HSA HSS
  rw [HL2.out] at HSA
  obtain ⟨sa, rfl, hoa, hea⟩ := hva
  obtain ⟨sb, rfl, hob, heb⟩ := hvb
  have HSZA := hid (axc_size sa hoa)
  have HSZB := hid (axc_size sb hob)
  obtain ⟨A1, k1, rfl⟩ := hea.shape
  obtain ⟨A2, k2, rfl⟩ := heb.shape
  have HCA : Hid ((axc a (.slice A1 a.fr.length k1))[35]? = some (.slice A1 L1 k1)) := hid (by rw [axc_35 _ hoa, HL1.out])
  have HCB : Hid ((axc b (.slice A2 b.fr.length k2))[35]? = some (.slice A2 L2 k2)) := hid (by rw [axc_35 _ hob, HL2.out])
  obtain ⟨CA, HA1⟩ : ∃ C : Array Value, Hid (axc a (.slice A1 a.fr.length k1) = C) := ⟨_, hid rfl⟩
  obtain ⟨CB, HB1⟩ : ∃ C : Array Value, Hid (axc b (.slice A2 b.fr.length k2) = C) := ⟨_, hid rfl⟩
  rw [HA1.out] at HRA HRR HSA HSR HSS HSZA HCA ⊢
  rw [HB1.out] at HSA HSR HSZB HCB ⊢
  have hr0 := heap1 w (.cells CA 30) (.cells CB 30)
  have hr1 := heap2 w (.cells CA 30) (.cells CB 30)
  have hb0 : Below w.heap.size w ((w.alloc (.cells CA 30)).alloc (.cells CB 30)) := ((Below.refl _ _).alloc (Nat.le_refl _) _).alloc (by simp) _
  clear hoa hob hea heb hK0 hK1 hn HA1 HB1 HL1 HL2
  go_enter Tryd.func4, Tryd.ntmps4
  go_upto_region 1 with (fail)
  generalize ((w.alloc (.cells CA 30)).alloc (.cells CB 30)) = w0 at *
  have hl1 := lt_of_block hr1
  have HTW : Hid (∀ W, Below w0.heap.size w0 W → TwoX w.heap.size CA CB W) := hid (fun W h => ⟨(h.block _ (by omega)).trans hr0, (h.block _ hl1).trans hr1⟩)
  have HDA : Hid (∀ W : World, TwoX w.heap.size CA CB W → loadAx (.pointer (some ⟨w.heap.size, 0, none⟩)) W = .ok (.value (.agg CA)) W) := hid (fun W h => loadAx_row h.1 HSZA.out)
  have HDB : Hid (∀ W : World, TwoX w.heap.size CA CB W → loadAx (.pointer (some ⟨w.heap.size + 1, 0, none⟩)) W = .ok (.value (.agg CB)) W) := hid (fun W h => loadAx_row h.2 HSZB.out)
  have c1 := (cell_blk hr0 35).trans HCA.out
  have c2 := (cell_blk hr1 35).trans HCB.out
  clear hr0 hr1 hl1
  by_cases h1 : 30 < L1
  · have i1 : (30 : Int) < (L1 : Int) := by omega
    go_wp2_with fail
    refine (HA.out w0 hb0).mono ?_
    rintro e w1 ⟨rfl, hb1⟩
    go_wp2_with fail
    go_ret
    exact ⟨rfl, hb0.trans (hb1.mono hb0.size)⟩
  have i1 : ¬ (30 : Int) < (L1 : Int) := by omega
  by_cases h2 : 30 < L2
  · have i2 : (30 : Int) < (L2 : Int) := by omega
    go_wp2_with fail
    refine (HA.out w0 hb0).mono ?_
    rintro e w1 ⟨rfl, hb1⟩
    go_wp2_with fail
    go_ret
    exact ⟨rfl, hb0.trans (hb1.mono hb0.size)⟩
  have i2 : ¬ (30 : Int) < (L2 : Int) := by omega
  have HRA' := hid (HRA.out (by omega))
  have HSA' := hid (HSA.out (by omega) (by omega))
  have HSS' := hid (HSS.out (by omega))
  clear HRA HSA HSS
  go_upto_region 3 with (fail)
  clear c1 c2 i1 i2 h1 h2
  have hbd : Below w0.heap.size w0 w0.drew := (Below.refl _ _).drew
  refine wp_region_held_drew (S := fun W => TwoX w.heap.size CA CB W) (by kernel_rfl) (HTW.out _ hbd) (fun hHeld => ?_)
  refine' take_on (i := 0) (v := _) rfl (by kernel_rfl) (by kernel_rfl) (by kernel_rfl) (fun _ _ _ h => h) (by rfl) ?_ (by assumption) ?_
  rotate_left
  · (intro W hW; (try dsimp only at hW); go_simp; first | done | with_reducible rfl)
  try simp only [Act.put, List.setIfInBounds_toArray, List.set_cons_zero, List.set_cons_succ]
  refine' take_on (i := 1) (v := _) rfl (by kernel_rfl) (by kernel_rfl) (by kernel_rfl) (fun _ _ _ h => h) (by rfl) (fun W hW => HDA.out W hW) (by assumption) ?_
  try simp only [Act.put, List.setIfInBounds_toArray, List.set_cons_zero, List.set_cons_succ]
  refine' take_on (i := 3) (v := _) rfl (by kernel_rfl) (by kernel_rfl) (by kernel_rfl) (fun _ _ _ h => h) (by rfl) ?_ (by assumption) ?_
  rotate_left
  · (intro W hW; (try dsimp only at hW); go_simp; first | done | with_reducible rfl)
  try simp only [Act.put, List.setIfInBounds_toArray, List.set_cons_zero, List.set_cons_succ]
  refine' take_on (i := 4) (v := _) rfl (by kernel_rfl) (by kernel_rfl) (by kernel_rfl) (fun _ _ _ h => h) (by rfl) (fun W hW => HDA.out W hW) (by assumption) ?_
  try simp only [Act.put, List.setIfInBounds_toArray, List.set_cons_zero, List.set_cons_succ]
  refine call_on (i := 2) rfl (by kernel_rfl) (by rfl) (fun K hK => ?_)
  go_simp
  refine (HRA'.out w0.drew (hb0.trans (hbd.mono hb0.size))).mono ?_
  rintro e w1 ⟨rfl, hb1'⟩
  have hb1 := hbd.trans (hb1'.mono hbd.size)
  refine hK.out _ _ (HTW.out _ hb1) (fun hHeld => ?_)
  clear hK K
  try simp only [Act.put, List.setIfInBounds_toArray, List.set_cons_zero, List.set_cons_succ]
  refine call_on (i := 5) rfl (by kernel_rfl) (by rfl) (fun K hK => ?_)
  go_simp
  refine (HRR.out w1 (hb0.trans (hb1.mono hb0.size))).mono ?_
  rintro e w2 ⟨rfl, hb2'⟩
  have hb2 := hb1.trans (hb2'.mono hb1.size)
  refine hK.out _ _ (HTW.out _ hb2) (fun hHeld => ?_)
  clear hK K
  try simp only [Act.put, List.setIfInBounds_toArray, List.set_cons_zero, List.set_cons_succ]
  refine' take_on (i := 6) (v := _) rfl (by kernel_rfl) (by kernel_rfl) (by kernel_rfl) (fun _ _ _ h => h) (by rfl) ?_ (by assumption) ?_
  rotate_left
  · (intro W hW; (try dsimp only at hW); go_simp; first | done | with_reducible rfl)
  try simp only [Act.put, List.setIfInBounds_toArray, List.set_cons_zero, List.set_cons_succ]
  refine' take_on (i := 7) (v := _) rfl (by kernel_rfl) (by kernel_rfl) (by kernel_rfl) (fun _ _ _ h => h) (by rfl) ?_ (by assumption) ?_
  rotate_left
  · (intro W hW; (try dsimp only at hW); go_simp; first | done | with_reducible rfl)
  try simp only [Act.put, List.setIfInBounds_toArray, List.set_cons_zero, List.set_cons_succ]
  refine' take_on (i := 8) (v := _) rfl (by kernel_rfl) (by kernel_rfl) (by kernel_rfl) (fun _ _ _ h => h) (by rfl) (fun W hW => HDA.out W hW) (by assumption) ?_
  try simp only [Act.put, List.setIfInBounds_toArray, List.set_cons_zero, List.set_cons_succ]
  refine' take_on (i := 9) (v := _) rfl (by kernel_rfl) (by kernel_rfl) (by kernel_rfl) (fun _ _ _ h => h) (by rfl) (fun W hW => HDB.out W hW) (by assumption) ?_
  try simp only [Act.put, List.setIfInBounds_toArray, List.set_cons_zero, List.set_cons_succ]
  refine' take_on (i := 11) (v := _) rfl (by kernel_rfl) (by kernel_rfl) (by kernel_rfl) (fun _ _ _ h => h) (by rfl) (fun W hW => HDA.out W hW) (by assumption) ?_
  try simp only [Act.put, List.setIfInBounds_toArray, List.set_cons_zero, List.set_cons_succ]
  refine' take_on (i := 12) (v := _) rfl (by kernel_rfl) (by kernel_rfl) (by kernel_rfl) (fun _ _ _ h => h) (by rfl) (fun W hW => HDB.out W hW) (by assumption) ?_
  try simp only [Act.put, List.setIfInBounds_toArray, List.set_cons_zero, List.set_cons_succ]
  refine call_on (i := 10) rfl (by kernel_rfl) (by rfl) (fun K hK => ?_)
  go_simp
  refine (HSA'.out w2 (hb0.trans (hb2.mono hb0.size))).mono ?_
  rintro e w3 ⟨rfl, hb3'⟩
  have hb3 := hb2.trans (hb3'.mono hb2.size)
  refine hK.out _ _ (HTW.out _ hb3) (fun hHeld => ?_)
  clear hK K
  try simp only [Act.put, List.setIfInBounds_toArray, List.set_cons_zero, List.set_cons_succ]
  refine call_on (i := 13) rfl (by kernel_rfl) (by rfl) (fun K hK => ?_)
  go_simp
  refine (HSR.out w3 (hb0.trans (hb3.mono hb0.size))).mono ?_
  rintro e w4 ⟨rfl, hb4'⟩
  have hb4 := hb3.trans (hb4'.mono hb3.size)
  refine hK.out _ _ (HTW.out _ hb4) (fun hHeld => ?_)
  clear hK K
  try simp only [Act.put, List.setIfInBounds_toArray, List.set_cons_zero, List.set_cons_succ]
  refine' take_on (i := 14) (v := _) rfl (by kernel_rfl) (by kernel_rfl) (by kernel_rfl) (fun _ _ _ h => h) (by rfl) ?_ (by assumption) ?_
  rotate_left
  · (intro W hW; (try dsimp only at hW); go_simp; first | done | with_reducible rfl)
  try simp only [Act.put, List.setIfInBounds_toArray, List.set_cons_zero, List.set_cons_succ]
  refine' take_on (i := 15) (v := _) rfl (by kernel_rfl) (by kernel_rfl) (by kernel_rfl) (fun _ _ _ h => h) (by rfl) ?_ (by assumption) ?_
  rotate_left
  · (intro W hW; (try dsimp only at hW); go_simp; first | done | with_reducible rfl)
  try simp only [Act.put, List.setIfInBounds_toArray, List.set_cons_zero, List.set_cons_succ]
  refine' take_on (i := 16) (v := _) rfl (by kernel_rfl) (by kernel_rfl) (by kernel_rfl) (fun _ _ _ h => h) (by rfl) ?_ (by assumption) ?_
  rotate_left
  · (intro W hW; (try dsimp only at hW); go_simp; first | done | with_reducible rfl)
  try simp only [Act.put, List.setIfInBounds_toArray, List.set_cons_zero, List.set_cons_succ]
  refine' take_on (i := 17) (v := _) rfl (by kernel_rfl) (by kernel_rfl) (by kernel_rfl) (fun _ _ _ h => h) (by rfl) (fun W hW => HDA.out W hW) (by assumption) ?_
  try simp only [Act.put, List.setIfInBounds_toArray, List.set_cons_zero, List.set_cons_succ]
  refine' take_on (i := 18) (v := _) rfl (by kernel_rfl) (by kernel_rfl) (by kernel_rfl) (fun _ _ _ h => h) (by rfl) (fun W hW => HDA.out W hW) (by assumption) ?_
  try simp only [Act.put, List.setIfInBounds_toArray, List.set_cons_zero, List.set_cons_succ]
  refine call_on (i := 19) rfl (by kernel_rfl) (by rfl) (fun K hK => ?_)
  go_simp
  refine (HSS'.out w4 (hb0.trans (hb4.mono hb0.size))).mono ?_
  rintro e w5 ⟨rfl, hb5'⟩
  have hb5 := hb4.trans (hb5'.mono hb4.size)
  refine hK.out _ _ (HTW.out _ hb5) (fun hHeld => ?_)
  clear hK K
  try simp only [Act.put, List.setIfInBounds_toArray, List.set_cons_zero, List.set_cons_succ]
  refine' take_on (i := 20) (v := _) rfl (by kernel_rfl) (by kernel_rfl) (by kernel_rfl) (fun _ _ _ h => h) (by rfl) ?_ (by assumption) ?_
  rotate_left
  · (intro W hW; (try dsimp only at hW); go_simp; first | done | with_reducible rfl)
  try simp only [Act.put, List.setIfInBounds_toArray, List.set_cons_zero, List.set_cons_succ]
  refine' take_on (i := 21) (v := _) rfl (by kernel_rfl) (by kernel_rfl) (by kernel_rfl) (fun _ _ _ h => h) (by rfl) ?_ (by assumption) ?_
  rotate_left
  · (intro W hW; (try dsimp only at hW); go_simp; first | done | with_reducible rfl)
  try simp only [Act.put, List.setIfInBounds_toArray, List.set_cons_zero, List.set_cons_succ]
  refine call_on (i := 22) rfl (by kernel_rfl) (by rfl) (fun K hK => ?_)
  go_simp
  refine (HA.out w5 (hb0.trans (hb5.mono hb0.size))).mono ?_
  rintro e w6 ⟨rfl, hb6'⟩
  have hb6 := hb5.trans (hb6'.mono hb5.size)
  refine hK.out _ _ (HTW.out _ hb6) (fun hHeld => ?_)
  clear hK K
  try simp only [Act.put, List.setIfInBounds_toArray, List.set_cons_zero, List.set_cons_succ]
  refine' take_on (i := 23) (v := _) rfl (by kernel_rfl) (by kernel_rfl) (by kernel_rfl) (fun _ _ _ h => h) (by rfl) ?_ (by assumption) ?_
  rotate_left
  · (intro W hW; (try dsimp only at hW); go_simp; first | done | with_reducible rfl)
  try simp only [Act.put, List.setIfInBounds_toArray, List.set_cons_zero, List.set_cons_succ]
  refine' take_on (i := 24) (v := _) rfl (by kernel_rfl) (by kernel_rfl) (by kernel_rfl) (fun _ _ _ h => h) (by rfl) ?_ (by assumption) ?_
  rotate_left
  · (intro W hW; (try dsimp only at hW); go_simp; first | done | with_reducible rfl)
  try simp only [Act.put, List.setIfInBounds_toArray, List.set_cons_zero, List.set_cons_succ]
  refine wpAnyH_done (by kernel_rfl) ?_ _
  have HB := hid (hb0.trans (hb6.mono hb0.size))
  clear hHeld
  go_wp2_with fail
  go_ret
  exact ⟨rfl, HB.out⟩
end Go.Proofs.YthgdgkdnidjdgaaDoor
