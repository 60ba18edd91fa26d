/-
  tithingref05.Next: the record that bytes begin with.
-/
import Derived.Test.YtpecdlafeelkoaaCrcFour
import Derived.Test.YtpecdlafeelkoaaCut
import Derived.Test.YtpecdlafeelkoaaSame
import Derived.Deep.RegionHeld3
namespace Go.Proofs.Ytpecdlafeelkoaa
open Go.RowKit

/-- The number that the first four bytes are. -/
def numL (l : List UInt8) : Nat := (l.getD 0 0).toNat * 16777216 + (l.getD 1 0).toNat * 65536 + (l.getD 2 0).toNat * 256 + (l.getD 3 0).toNat
theorem numL_lt (l : List UInt8) : numL l ≤ 4294967295 := by
  have h0 := (l.getD 0 0).toNat_lt
  have h1 := (l.getD 1 0).toNat_lt
  have h2 := (l.getD 2 0).toNat_lt
  have h3 := (l.getD 3 0).toNat_lt
  unfold numL
  omega
/-- The bytes that a record says it has. -/
def inL (l : List UInt8) : List UInt8 := (l.drop 8).take (numL l)
/-- Which record bytes begin with: 0 none, 1 it is one, 2 bytes end within it. -/
def nextN (l : List UInt8) : Nat :=
  if l.length < 8 then 2 else if numL l < 1 ∨ 65536 < numL l then 0 else if l.length < 8 + numL l then 2 else if recS (inL l) = l.take (8 + numL l) then 1 else 0
def nextB (l : List UInt8) : List UInt8 := if nextN l = 1 then inL l else []
theorem nextB_no {l : List UInt8} (h : nextN l ≠ 1) : nextB l = [] := if_neg h

attribute [local go_sem ↓] exec_cutH exec_cutLH

set_option maxHeartbeats 1600000 in
theorem refNext_any (v : Value) (l : List UInt8) (w : World) (hv : Byt w v l) (hs : l.length ≤ 900000) :
    Calls Try.prog 11 #[v] w fun e w' => ∃ x, e = .returned (.tuple #[x, .int .i64 (nextN l : Int)]) ∧ Byt w' x (nextB l) ∧ Below w.heap.size w w' := by
  obtain ⟨A, c, rfl⟩ := hv.shape
  obtain ⟨_, hc, hm, hr⟩ := hv.at_
  unfold maxLen at hm
  obtain ⟨L, HL⟩ : ∃ L : Nat, Hid (l.length = L) := ⟨_, hid rfl⟩
  have HV := hid hv
  have HS := hid hs
  rw [HL.out] at hc ⊢
  clear hv hs
  by_cases h8 : L < 8
  · have h8i : (L : Int) < 8 := by omega
    have HN : Hid (nextN l = 2) := hid (by unfold nextN; rw [if_pos (by rw [HL.out]; exact h8)])
    go_enter Try.func11, Try.ntmps11
    go_wp2_with fail
    go_ret2
    refine ⟨.slice none 0 0, by rw [HN.out]; rfl, ?_, Below.refl _ _⟩
    rw [nextB_no (by rw [HN.out]; decide)]
    exact Byt.nil w
  have h8i : ¬ (L : Int) < 8 := by omega
  obtain ⟨b, off, rfl, _, hcl⟩ := hr (by rw [HL.out]; omega)
  have hcl2 : ∀ j, j < L → w.cell? ⟨b, off + j, none⟩ = some (.int .u8 ((l.getD j 0).toNat : Int)) := fun j hj => by
    have hjl : j < l.length := by rw [HL.out]; exact hj
    rw [hcl j hjl, List.getD_eq_getElem?_getD, List.getElem?_eq_getElem hjl]
    rfl
  have k0 := hcl2 0 (by omega)
  have k1 := hcl2 1 (by omega)
  have k2 := hcl2 2 (by omega)
  have k3 := hcl2 3 (by omega)
  clear hcl hcl2 hr
  obtain ⟨b0, H0⟩ : ∃ x : Nat, Hid ((l.getD 0 0).toNat = x) := ⟨_, hid rfl⟩
  obtain ⟨b1, H1⟩ : ∃ x : Nat, Hid ((l.getD 1 0).toNat = x) := ⟨_, hid rfl⟩
  obtain ⟨b2, H2⟩ : ∃ x : Nat, Hid ((l.getD 2 0).toNat = x) := ⟨_, hid rfl⟩
  obtain ⟨b3, H3⟩ : ∃ x : Nat, Hid ((l.getD 3 0).toNat = x) := ⟨_, hid rfl⟩
  have g0 : b0 ≤ 255 := by have := (l.getD 0 0).toNat_lt; have := H0.out; omega
  have g1 : b1 ≤ 255 := by have := (l.getD 1 0).toNat_lt; have := H1.out; omega
  have g2 : b2 ≤ 255 := by have := (l.getD 2 0).toNat_lt; have := H2.out; omega
  have g3 : b3 ≤ 255 := by have := (l.getD 3 0).toNat_lt; have := H3.out; omega
  rw [H0.out] at k0
  rw [H1.out] at k1
  rw [H2.out] at k2
  rw [H3.out] at k3
  rw [Nat.add_zero] at k0
  obtain ⟨n, HN⟩ : ∃ n : Nat, Hid (numL l = n) := ⟨_, hid rfl⟩
  have hnum : (b0 : Int) * 16777216 + (b1 : Int) * 65536 + (b2 : Int) * 256 + (b3 : Int) = (n : Int) := by
    rw [← HN.out]
    unfold numL
    rw [H0.out, H1.out, H2.out, H3.out]
    omega
  go_enter Try.func11, Try.ntmps11
  go_wp2_with fail
  go_quiet (fail)
  have H8 := hid (show ¬ l.length < 8 by rw [HL.out]; omega)
  clear k0 k1 k2 k3 hnum g0 g1 g2 g3 H0 H1 H2 H3
  by_cases hbad : n < 1 ∨ 65536 < n
  · have HX : Hid (nextN l = 0) := hid (by unfold nextN; rw [if_neg H8.out, if_pos (by rw [HN.out]; exact hbad)])
    have HB := hid hbad
    clear hbad
    by_cases h1 : n < 1
    · have h1i : (n : Int) < 1 := by omega
      go_wp2_with fail
      go_ret2
      refine ⟨.slice none 0 0, by rw [HX.out]; rfl, ?_, below_drewN (Below.refl _ _) _⟩
      rw [nextB_no (by rw [HX.out]; decide)]
      exact Byt.nil _
    · have h1i : ¬ (n : Int) < 1 := by omega
      have h2i : (65536 : Int) < (n : Int) := by have := HB.out; omega
      go_wp2_with fail
      go_ret2
      refine ⟨.slice none 0 0, by rw [HX.out]; rfl, ?_, below_drewN (Below.refl _ _) _⟩
      rw [nextB_no (by rw [HX.out]; decide)]
      exact Byt.nil _
  have h1i : ¬ (n : Int) < 1 := by omega
  have h2i : ¬ (65536 : Int) < (n : Int) := by omega
  have HB := hid hbad
  clear hbad
  obtain ⟨m, HM⟩ : ∃ m : Nat, Hid (8 + n = m) := ⟨_, hid rfl⟩
  have hm8 : (8 : Int) + (n : Int) = (m : Int) := by have := HM.out; omega
  by_cases hend : L < m
  · have hei : (L : Int) < (m : Int) := by omega
    have HX : Hid (nextN l = 2) := hid (by unfold nextN; rw [if_neg H8.out, if_neg (by rw [HN.out]; exact HB.out), if_pos (by rw [HN.out, HL.out, HM.out]; exact hend)])
    go_wp2_with fail
    go_ret2
    refine ⟨.slice none 0 0, by rw [HX.out]; rfl, ?_, below_drewN (Below.refl _ _) _⟩
    rw [nextB_no (by rw [HX.out]; decide)]
    exact Byt.nil _
  have hei : ¬ (L : Int) < (m : Int) := by omega
  obtain ⟨A3, c3, r3, p3⟩ := cut_lh (some ⟨b, off, none⟩) c L 8 m (by have := HM.out; omega) (by omega) hc
  obtain ⟨A4, c4, r4, p4⟩ := cut_h (some ⟨b, off, none⟩) c L m (by omega) hc
  have r3' : ∀ w, cutLH (.slice (some ⟨b, off, none⟩) L c) (.int .i64 8) (.int .i64 (m : Int)) w = .ok (.value (.slice A3 (m - 8) c3)) w := r3
  have P3 := hid p3
  have P4 := hid p4
  clear r3 p3 p4
  obtain ⟨I, HI⟩ : ∃ I : List UInt8, Hid (inL l = I) := ⟨_, hid rfl⟩
  have hin : (l.drop 8).take (m - 8) = I := by
    rw [← HI.out]
    unfold inL
    rw [HN.out, show m - 8 = n from by have := HM.out; omega]
  have HIL : Hid (I.length = n) := hid (by
    rw [← hin, List.length_take, List.length_drop, HL.out]
    have := HM.out
    omega)
  have HIN := hid hin
  clear hin
  have hl1 : ([] : List UInt8).length + I.length ≤ 140737488355328 := by rw [HIL.out, List.length_nil]; have := HB.out; omega
  have HI9 := hid (show I.length ≤ 900000 by rw [HIL.out]; have := HB.out; omega)
  have HV3 : Hid (∀ W : World, Below w.heap.size w W → Byt W (.slice A3 (m - 8) c3) I) := hid (fun W h => by
    have := P3.out W l HL.out (HV.out.below h |> fun h => by rw [HL.out] at h; exact h)
    rw [HIN.out] at this
    exact this)
  have HV4 : Hid (∀ W : World, Below w.heap.size w W → Byt W (.slice A4 m c4) (l.take m)) := hid (fun W h => P4.out W l HL.out (HV.out.below h |> fun h => by rw [HL.out] at h; exact h))
  have hb0 : Below w.heap.size w (w.drewN nq) := below_drewN (Below.refl _ _) _
  obtain ⟨w0, hw0⟩ : ∃ w0 : World, w.drewN nq = w0 := ⟨_, rfl⟩
  rw [hw0] at hb0 ⊢
  clear hw0
  go_wp2_with (at_builtin; refine wpList_append_byt rfl (.tmp 42) (.tmp 46) rfl rfl rfl (fresh_own w0) ((HV3.out _ hb0).alloc _) hl1 (alloc_le w0 _) ?_; intro v5 w5 hown5 hg5 hv5; simp only [List.nil_append] at hown5; have hb5 := fresh_below hg5; clear hg5)
  have hB5 := hb0.trans (hb5.mono hb0.size)
  have HO5 := hid hown5
  clear hown5 hv5 hb5
  have hB5d := hB5.drew
  have hwm : IntKind.i64.wrap (m : Int) = (m : Int) := IntWalk.i64_in _ (by omega)
  obtain ⟨ans, HA⟩ : ∃ a : Bool, Hid (decide (recS I = l.take m) = a) := ⟨_, hid rfl⟩
  go_region_held3 (fun _ => True) (trivial)
    (first
      | (go_at_call 12; have C := same_any v6 (.slice A4 m c4) (recS I) (l.take m) w6 hown6.byt (HV4.out _ hB6); rw [HA.out] at C; refine C.mono ?_; clear C; rintro e w7 ⟨rfl, k7, rfl⟩; have hB7 := below_drewN hB6 k7)
      | (go_at_call 13; refine (refRecord_any v5 I w5.drew HO5.out.byt HI9.out).mono ?_; rintro e w6 ⟨v6, rfl, hown6, hb6⟩; have hB6 := hB5d.trans (hb6.mono hB5d.size); have hb6' := hb6)
      | fail)
  have hb6s := hb6'.size
  cases ans
  · have HX : Hid (nextN l = 0) := hid (by
      unfold nextN
      rw [if_neg H8.out, if_neg (by rw [HN.out]; exact HB.out), if_neg (by rw [HN.out, HL.out, HM.out]; exact hend), HI.out, HN.out, HM.out, if_neg (of_decide_eq_false HA.out)])
    go_wp2_with fail
    go_ret2
    refine ⟨.slice none 0 0, by rw [HX.out]; rfl, ?_, hB7⟩
    rw [nextB_no (by rw [HX.out]; decide)]
    exact Byt.nil _
  · have HX : Hid (nextN l = 1) := hid (by
      unfold nextN
      rw [if_neg H8.out, if_neg (by rw [HN.out]; exact HB.out), if_neg (by rw [HN.out, HL.out, HM.out]; exact hend), HI.out, HN.out, HM.out, if_pos (of_decide_eq_true HA.out)])
    go_wp2_with fail
    go_ret2
    refine ⟨v5, by rw [HX.out]; rfl, ?_, hB7⟩
    unfold nextB
    rw [if_pos HX.out, HI.out]
    exact (HO5.out.byt.below (w := w5) ((Below.refl _ _).drew)).below hb6' |>.drewN _
end Go.Proofs.Ytpecdlafeelkoaa
