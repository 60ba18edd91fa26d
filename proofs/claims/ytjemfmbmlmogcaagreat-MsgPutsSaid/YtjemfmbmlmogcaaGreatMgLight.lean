/-
  Which messages are not too great: tithinglaw11.Light.
-/
import Derived.BigQuiet
import Derived.Deep.QuietTactic
import Derived.Outline
import Derived.Test.YtjemfmbmlmogcaaGreatBkArg
import Derived.Test.YtjemfmbmlmogcaaGreatBs25
import Derived.Test.YtjemfmbmlmogcaaGreatBs9
namespace Go.Proofs.YtjemfmbmlmogcaaGreat
set_option maxRecDepth 20000
open Go.RowKit
attribute [local go_sem ↓] exec_load_bk exec_load_tx
def litM (m : MgM) : Bool := decide (m.cc.sg.length ≤ 30) && (decide (m.xx.fr.length ≤ 30) && (litK m.kk && litT m.tt))
theorem litM_lim {m : MgM} (h : litM m = true) : LimM m := by
  unfold litM at h
  simp only [Bool.and_eq_true, decide_eq_true_eq] at h
  obtain ⟨h1, h2, h3, h4⟩ := h
  unfold litT at h4
  simp only [Bool.and_eq_true, decide_eq_true_eq] at h4
  have := litK_len h3
  exact ⟨by omega, by omega, by omega, lightK_of h3, by omega, by omega⟩
def sizedM (m : MgM) : Prop := sizedK m.kk ∧ m.tt.key.length ≤ maxLen ∧ m.tt.val.length ≤ maxLen
theorem BoxM.s1 {w : World} {g : Nat} {m : MgM} {s1 s2 s3 : Value} (h : BoxM w g m s1 s2 s3) (ho : m.Ok) : w.cell? ⟨g, 205, none⟩ = some s1 := by
  refine h.cc ho 101 s1 ?_
  unfold ctl
  rw [List.getElem?_append_right (by rw [atl_length ho.cc.att]; omega), atl_length ho.cc.att]
  rfl
theorem BoxM.s2 {w : World} {g : Nat} {m : MgM} {s1 s2 s3 : Value} (h : BoxM w g m s1 s2 s3) (ho : m.Ok) : w.cell? ⟨g, 241, none⟩ = some s2 := by
  refine h.xx ho 35 s2 ?_
  rw [axl_pre, List.getElem?_append_right (by simp), List.getElem?_append_right (by rw [bcells_length, ho.xx.pa]; simp)]
  rw [bcells_length, ho.xx.pa]
  rfl
set_option maxHeartbeats 1600000 in
theorem light11_any (v : Value) (m : MgM) (w : World) (hv : MgV w v m) (hz : sizedM m) :
    Calls Tryz.prog 5 #[v] w fun e w' => e = .returned (.bool (litM m)) ∧ Below w.heap.size w w' := by
  obtain ⟨s1, s2, s3, rfl, ho, e1, e2, e3⟩ := hv
  have hb0 : Below w.heap.size w (w.alloc (.cells (mgc m s1 s2 s3) 38)) := (Below.refl _ _).alloc (Nat.le_refl _) _
  have hA0 : BoxM (w.alloc (.cells (mgc m s1 s2 s3) 38)) w.heap.size m s1 s2 s3 := heap_alloc_new w _
  have HL7 := hid (fun W (h : Below w.heap.size w W) => light7_any (.agg (bkc m.kk s3)) m.kk W ⟨_, rfl, ho.kk, e3.below h⟩ hz.1)
  have HL6 := hid (fun W => light6_any m.tt W hz.2.1 hz.2.2)
  obtain ⟨A1, c1, rfl⟩ := e1.shape
  obtain ⟨A2, c2, rfl⟩ := e2.shape
  obtain ⟨L1, HL1⟩ : ∃ n : Nat, Hid (m.cc.sg.length = n) := ⟨_, hid rfl⟩
  obtain ⟨L2, HL2⟩ : ∃ n : Nat, Hid (m.xx.fr.length = n) := ⟨_, hid rfl⟩
  rw [HL1.out, HL2.out] at hA0 hb0 ⊢
  obtain ⟨ans, HAN⟩ : ∃ q : Bool, Hid (litM m = q) := ⟨_, hid rfl⟩
  obtain ⟨q1, HQ1⟩ : ∃ q : Bool, Hid (litK m.kk = q) := ⟨_, hid rfl⟩
  obtain ⟨q2, HQ2⟩ : ∃ q : Bool, Hid (litT m.tt = q) := ⟨_, hid rfl⟩
  have HANS : Hid (ans = (decide (L1 ≤ 30) && (decide (L2 ≤ 30) && (q1 && q2)))) := hid (by rw [← HAN.out, ← HQ1.out, ← HQ2.out, ← HL1.out, ← HL2.out]; rfl)
  rw [HAN.out]
  rw [HQ1.out] at HL7
  rw [HQ2.out] at HL6
  have HO := hid ho
  clear ho e1 e2 e3 hz
  go_enter Tryz.func5, Tryz.ntmps5
  go_upto_region 1 with (fail)
  generalize (w.alloc (.cells (mgc m (.slice A1 L1 c1) (.slice A2 L2 c2) s3) 38)) = w0 at *
  have HB0 := hid hb0
  have k1 := hA0.s1 HO.out
  have k2 := hA0.s2 HO.out
  have HP : Hid (∀ W, Below w0.heap.size w0 W → PartsM W w.heap.size m (.slice A1 L1 c1) (.slice A2 L2 c2) s3) := hid (fun W h => (hA0.keep h).parts HO.out)
  clear hb0 hA0
  by_cases h1 : L1 ≤ 30
  case neg =>
    obtain rfl : ans = false := by rw [HANS.out, decide_eq_false h1]; rfl
    have h1' : ¬ (L1 : Int) ≤ 30 := by omega
    clear h1
    go_wp2_with fail
    go_ret
    exact ⟨rfl, HB0.out⟩
  by_cases h2 : L2 ≤ 30
  case neg =>
    obtain rfl : ans = false := by rw [HANS.out, decide_eq_false h2]; simp
    have h1' : (L1 : Int) ≤ 30 := by omega
    have h2' : ¬ (L2 : Int) ≤ 30 := by omega
    clear h1 h2
    go_wp2_with fail
    go_ret
    exact ⟨rfl, HB0.out⟩
  have HANS2 : Hid (ans = (q1 && q2)) := hid (by rw [HANS.out, decide_eq_true h1, decide_eq_true h2]; rfl)
  have h1' : (L1 : Int) ≤ 30 := by omega
  have h2' : (L2 : Int) ≤ 30 := by omega
  have l1 := (HP.out w0 (Below.refl _ _)).kk
  obtain ⟨G, HG⟩ : ∃ C : Array Value, Hid (bkc m.kk s3 = C) := ⟨_, hid rfl⟩
  rw [HG.out] at l1 HL7
  clear h1 h2
  go_wp2_with fail
  refine (HL7.out w0 HB0.out).mono ?_
  rintro e w1 ⟨rfl, hb1⟩
  have HB1 := hid (HB0.out.trans (hb1.mono HB0.out.size))
  have l2 := (HP.out w1 hb1).tt
  clear l1 k1 k2 hb1 h1' h2'
  obtain ⟨T, HT⟩ : ∃ C : Value, Hid (txv m.tt = C) := ⟨_, hid rfl⟩
  rw [HT.out] at l2 HL6
  cases q1 with
  | false =>
    obtain rfl : ans = false := HANS2.out
    go_wp2_with fail
    go_ret
    exact ⟨rfl, HB1.out⟩
  | true =>
    obtain rfl : ans = q2 := HANS2.out
    go_wp2_with fail
    refine (HL6.out w1).mono ?_
    rintro e w2 ⟨rfl, hb2⟩
    clear l2
    go_wp2_with fail
    go_ret
    exact ⟨rfl, HB1.out.trans (hb2.mono HB1.out.size)⟩
end Go.Proofs.YtjemfmbmlmogcaaGreat
