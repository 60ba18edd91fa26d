/-
  accu.fits: whether an accumulation may be.
-/
import Derived.Test.YthgdgkdnidjdgaaDoorAcCodeRise
namespace Go.Proofs.YthgdgkdnidjdgaaDoor
set_option maxRecDepth 20000
open Go.RowKit

set_option maxHeartbeats 1600000 in
theorem acFits_any (v : Value) (a : AcM) (w : World) (hv : AcV w v a) (hl : a.fr.length ≤ 1000) :
    Calls Tryd.prog 33 #[v] w fun e w' => e = .returned (.bool (mayX a)) ∧ Below w.heap.size w w' := by
  obtain ⟨s, rfl, ho, ht⟩ := hv
  have hb0 : Below w.heap.size w (w.alloc (.cells (axc a s) 30)) := (Below.refl _ _).alloc (Nat.le_refl _) _
  have hX := BoxX.new w a s
  obtain ⟨A, k, rfl⟩ := ht.shape
  have HT := hid (fun W (h : Below w.heap.size w W) => ht.below h)
  have HLL := hid hl
  obtain ⟨L, HL⟩ : ∃ n : Nat, Hid (a.fr.length = n) := ⟨_, hid rfl⟩
  rw [HL.out] at hX hb0 HT ⊢
  obtain ⟨ans, HAN⟩ : ∃ q : Bool, Hid (mayX a = q) := ⟨_, hid rfl⟩
  obtain ⟨nb, HNB⟩ : ∃ q : Bool, Hid (nodeB a.bo = q) := ⟨_, hid rfl⟩
  obtain ⟨vb, HVB⟩ : ∃ q : Bool, Hid (viewB a.vi = q) := ⟨_, hid rfl⟩
  obtain ⟨r, HR⟩ : ∃ q : Bool, Hid ((decide (0 < a.fr.length) && risesI 21 0 a.fr) = q) := ⟨_, hid rfl⟩
  have HMA : Hid (ans = (nb && (vb && (decide (0 ≤ a.pv ∧ a.pv < a.vi) && r)))) := hid (by
    rw [← HAN.out, ← HNB.out, ← HVB.out, ← HR.out]
    unfold mayX nodeB viewB
    rw [Bool.eq_iff_iff]
    simp only [Bool.and_eq_true, decide_eq_true_eq]
    constructor
    · rintro ⟨h, h1, h2, h3, h4, h5, h6, h7⟩
      exact ⟨⟨h1, h2⟩, ⟨h3, h4⟩, ⟨h5, h6⟩, by omega, h⟩
    · rintro ⟨⟨h1, h2⟩, ⟨h3, h4⟩, ⟨h5, h6⟩, h7, h⟩
      exact ⟨h, h1, h2, h3, h4, h5, h6, by omega⟩)
  rw [HAN.out]
  have HCN : Hid (∀ W, Calls Tryd.prog 48 #[.int .i64 a.bo] W fun e w' => e = .returned (.bool nb) ∧ W = w') := hid (fun W => by have := node_any a.bo W; rw [HNB.out] at this; exact this)
  have HCV : Hid (∀ W, Calls Tryd.prog 23 #[.int .i64 a.vi] W fun e w' => e = .returned (.bool vb) ∧ W = w') := hid (fun W => by have := acViewed_any a.vi W; rw [HVB.out] at this; exact this)
  have HRI : Hid (∀ W, Below w.heap.size w W → Calls Tryd.prog 58 #[.slice A L k] W fun e w' => e = .returned (.bool r) ∧ Below W.heap.size W w') := hid (fun W h => by
    have := acRise_any (.slice A L k) a.fr W (HT.out W h) HLL.out
    rw [HR.out] at this
    exact this)
  have HO := hid ho
  clear ho ht hl
  go_enter Tryd.func33, Tryd.ntmps33
  go_upto_region 1 with (fail)
  generalize (w.alloc (.cells (axc a (.slice A L k)) 30)) = w0 at *
  obtain ⟨k0, k1, k2⟩ := hX.ints
  have k3 := hX.fr HO.out
  clear hX
  obtain ⟨bo, HBO⟩ : ∃ x : Int, Hid (a.bo = x) := ⟨_, hid rfl⟩
  obtain ⟨vi, HVI⟩ : ∃ x : Int, Hid (a.vi = x) := ⟨_, hid rfl⟩
  obtain ⟨pv, HPV⟩ : ∃ x : Int, Hid (a.pv = x) := ⟨_, hid rfl⟩
  rw [HBO.out] at k0 HCN
  rw [HVI.out] at k1 HCV HMA
  rw [HPV.out] at k2 HMA
  go_wp2_with fail
  refine (HCN.out w0).mono ?_
  rintro e w1 ⟨rfl, rfl⟩
  cases nb with
  | false =>
    obtain rfl : ans = false := HMA.out
    go_wp2_with fail
    go_ret
    exact ⟨rfl, hb0⟩
  | true =>
    go_wp2_with fail
    refine (HCV.out w0).mono ?_
    rintro e w1 ⟨rfl, rfl⟩
    cases vb with
    | false =>
      obtain rfl : ans = false := HMA.out
      go_wp2_with fail
      go_ret
      exact ⟨rfl, hb0⟩
    | true =>
      by_cases h1 : pv < 0
      · obtain rfl : ans = false := by rw [HMA.out, decide_eq_false (by omega)]; rfl
        go_wp2_with fail
        go_ret
        exact ⟨rfl, hb0⟩
      by_cases h2 : vi ≤ pv
      · obtain rfl : ans = false := by rw [HMA.out, decide_eq_false (by omega)]; rfl
        go_wp2_with fail
        go_ret
        exact ⟨rfl, hb0⟩
      obtain rfl : ans = r := by rw [HMA.out, decide_eq_true (by omega)]; rfl
      go_wp2_with fail
      refine (HRI.out w0 hb0).mono ?_
      rintro e w4 ⟨rfl, hb4⟩
      have hB4 := hb0.trans (hb4.mono hb0.size)
      clear k0 k1 k2 k3
      go_wp2_with fail
      go_ret
      exact ⟨rfl, hB4⟩
end Go.Proofs.YthgdgkdnidjdgaaDoor
