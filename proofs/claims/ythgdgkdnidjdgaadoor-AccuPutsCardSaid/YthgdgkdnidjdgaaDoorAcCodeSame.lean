/-
  slices.Equal of numbers, accu.Same: which accumulations are alike.
-/
import Derived.Test.YthgdgkdnidjdgaaDoorAcOk
import Derived.Test.YthgdgkdnidjdgaaDoorBs6
import Derived.Test.YthgdgkdnidjdgaaDoorBs2
import Derived.Test.YthgdgkdnidjdgaaDoorAcSame
import Derived.LoopTactic
import Derived.Outline
import Derived.Deep.QuietTactic
import Derived.BigQuiet
import Derived.Deep.DeepCutAuto
namespace Go.Proofs.YthgdgkdnidjdgaaDoor
set_option maxRecDepth 20000
open Go.RowKit
attribute [local go_sem ↓] exec_load_hash

set_option maxHeartbeats 800000 in
theorem equalN_any (va vb : Value) (sa sb : List Int) (w : World) (hva : Els icl 1 w va sa) (hvb : Els icl 1 w vb sb) (hl : sa.length ≤ 1000) :
    Calls Tryd.prog 35 #[va, vb] w fun e w' => e = .returned (.bool (decide (sa = sb))) ∧ Below w.heap.size w w' := by
  obtain ⟨AA, ca, rfl⟩ := hva.shape
  obtain ⟨AB, cb, rfl⟩ := hvb.shape
  obtain ⟨ans, HAN⟩ : ∃ q : Bool, Hid (decide (sa = sb) = q) := ⟨_, hid rfl⟩
  rw [HAN.out]
  obtain ⟨LA, HLA⟩ : ∃ n : Nat, Hid (sa.length = n) := ⟨_, hid rfl⟩
  obtain ⟨LB, HLB⟩ : ∃ n : Nat, Hid (sb.length = n) := ⟨_, hid rfl⟩
  rw [HLA.out] at hva hl ⊢
  rw [HLB.out] at hvb ⊢
  have hlb := hvb.len
  rw [HLB.out] at hlb
  unfold maxLen at hlb
  by_cases e4 : LA = LB
  · subst e4
    have t4 : ((LA : Int) != (LA : Int)) = false := by simp
    have HRA := hid hva.at_.2.2.2
    have HRB := hid hvb.at_.2.2.2
    clear hva hvb
    go_enter Tryd.func35, Tryd.ntmps35
    go_wp2_with fail
    clear t4
    go_loopw [13] (fun si wr => ∃ i : Nat, i ≤ LA ∧ si = .int .i64 i ∧ Hid (∀ j (h : j < sa.length) (h2 : j < sb.length), j < i → sa[j] = sb[j]) ∧ ∃ n, wr = w.drewN n) (fun si _ => LA - (intOf si).toNat)
    case atStart => exact ⟨0, Nat.zero_le _, rfl, hid (fun j _ _ h => absurd h (by omega)), 0, rfl⟩
    case round =>
      obtain ⟨i, hi, rfl, HBB, n, rfl⟩ := hrel
      by_cases hlt : i < LA
      · have hil : i < sa.length := by rw [HLA.out]; exact hlt
        have him : i < sb.length := by rw [HLB.out]; exact hlt
        obtain ⟨ba, oa', rfl, hba, hcla⟩ := HRA.out (by omega)
        obtain ⟨bb, ob', rfl, hbb, hclb⟩ := HRB.out (by omega)
        have l1 : w.cell? ⟨ba, oa' + i, none⟩ = some (.int .i64 sa[i]) := by
          have := hcla i hil 0 _ rfl
          rwa [Nat.mul_one, Nat.add_zero] at this
        have l2 : w.cell? ⟨bb, ob' + i, none⟩ = some (.int .i64 sb[i]) := by
          have := hclb i him 0 _ rfl
          rwa [Nat.mul_one, Nat.add_zero] at this
        have hI : (i : Int) < (LA : Int) := by omega
        clear hcla hclb
        obtain ⟨X, HX⟩ : ∃ x : Int, Hid (sa[i] = x) := ⟨_, hid rfl⟩
        obtain ⟨Y, HY⟩ : ∃ x : Int, Hid (sb[i] = x) := ⟨_, hid rfl⟩
        rw [HX.out] at l1
        rw [HY.out] at l2
        by_cases hxy : X = Y
        · have t5 : (X != Y) = false := by simp [hxy]
          have HXY := hid hxy
          clear hxy
          go_wp2_with fail
          go_quiet (fail)
          go_wp2
          go_roundw
          case rel =>
            refine ⟨i + 1, by omega, by go_num, hid (fun j h h2 hj => ?_), _, rfl⟩
            by_cases hji : j < i
            · exact HBB.out j h h2 hji
            · obtain rfl : j = i := by omega
              rw [HX.out, HY.out]
              exact HXY.out
          case measure => simp [intOf]; omega
        · have t5 : (X != Y) = true := by simpa using hxy
          have HXY := hid hxy
          clear hxy
          go_wp2_with fail
          go_quiet (fail)
          go_wp2
          go_ret
          have e : ans = false := by
            rw [← HAN.out]
            exact decide_eq_false (fun e => by subst e; exact HXY.out (HX.out.symm.trans HY.out))
          subst e
          exact ⟨rfl, below_drewN (below_drewN (Below.refl _ _) _) _⟩
      · obtain rfl : i = LA := by omega
        go_wp2
        go_ret
        have e : ans = true := by
          rw [← HAN.out]
          refine decide_eq_true ?_
          exact List.ext_getElem (by rw [HLA.out, HLB.out]) fun j h h2 => HBB.out j h h2 (by have := HLA.out; omega)
        subst e
        exact ⟨rfl, below_drewN (Below.refl _ _) n⟩
  · have t4 : ((LA : Int) != (LB : Int)) = true := by simp; omega
    obtain rfl : ans = false := by
      rw [← HAN.out]
      exact decide_eq_false (fun e => by rw [e] at HLA; exact e4 (HLA.out.symm.trans HLB.out))
    clear e4 hva hvb
    go_enter Tryd.func35, Tryd.ntmps35
    go_wp2_with fail
    go_ret
    exact ⟨rfl, Below.refl _ _⟩

set_option maxHeartbeats 1600000 in
theorem acSame_ok : AcSameOk := by
  intro va vb a b w hva hvb hla hlb
  obtain ⟨sa, rfl, hoa, hta⟩ := hva
  obtain ⟨sb, rfl, hob, htb⟩ := hvb
  have hb0 : Below w.heap.size w ((w.alloc (.cells (axc a sa) 30)).alloc (.cells (axc b sb) 30)) := ((Below.refl _ _).alloc (Nat.le_refl _) _).alloc (by simp) _
  have hA : BoxX ((w.alloc (.cells (axc a sa) 30)).alloc (.cells (axc b sb) 30)) w.heap.size a sa := heap1 w _ _
  have hB : BoxX ((w.alloc (.cells (axc a sa) 30)).alloc (.cells (axc b sb) 30)) (w.heap.size + 1) b sb := heap2 w _ _
  have hta0 := hta.below hb0
  have htb0 := htb.below hb0
  obtain ⟨AA, ca, rfl⟩ := hta.shape
  obtain ⟨AB, cb, rfl⟩ := htb.shape
  obtain ⟨CA, HCA⟩ : ∃ C : Array Value, Hid (axc a (.slice AA a.fr.length ca) = C) := ⟨_, hid rfl⟩
  obtain ⟨CB, HCB⟩ : ∃ C : Array Value, Hid (axc b (.slice AB b.fr.length cb) = C) := ⟨_, hid rfl⟩
  rw [HCA.out, HCB.out] at hA hB hb0 hta0 htb0 ⊢
  obtain ⟨ans, HAN⟩ : ∃ q : Bool, Hid (decide (a = b) = q) := ⟨_, hid rfl⟩
  rw [HAN.out]
  go_enter Tryd.func12, Tryd.ntmps12
  go_upto_region 1 with (fail)
  generalize ((w.alloc (.cells CA 30)).alloc (.cells CB 30)) = w0 at *
  clear HCA HCB hta htb
  have a4 := hA.fr hoa
  have b4 := hB.fr hob
  obtain ⟨a0, a1, a2⟩ := hA.ints
  obtain ⟨b0, b1, b2⟩ := hB.ints
  have a3 := loadH_mid hA.pa hoa.pa
  have b3 := loadH_mid hB.pa hob.pa
  have a5 := loadH_mid (hA.tg hoa) hoa.tg
  have b5 := loadH_mid (hB.tg hob) hob.tg
  have heq := fun W => eq_hash a.pa b.pa hoa.pa hob.pa W
  have heq2 := fun W => eq_hash a.tg b.tg hoa.tg hob.tg W
  obtain ⟨q, HQ⟩ : ∃ q : Bool, Hid (decide (a.pa = b.pa) = q) := ⟨_, hid rfl⟩
  obtain ⟨q2, HQ2⟩ : ∃ q : Bool, Hid (decide (a.tg = b.tg) = q) := ⟨_, hid rfl⟩
  obtain ⟨q3, HQ3⟩ : ∃ q : Bool, Hid (decide (a.fr = b.fr) = q) := ⟨_, hid rfl⟩
  rw [HQ.out] at heq
  rw [HQ2.out] at heq2
  have HEQ := hid (equalN_any _ _ _ _ w0 hta0 htb0 hla)
  rw [HQ3.out] at HEQ
  have HANS : Hid (ans = (decide (a.bo = b.bo) && (decide (a.vi = b.vi) && (decide (a.pv = b.pv) && (q && (q2 && q3)))))) := hid (by
    rw [← HAN.out, ← HQ.out, ← HQ2.out, ← HQ3.out]
    obtain ⟨x1, x2, x3, x4, x5, x6⟩ := a
    obtain ⟨y1, y2, y3, y4, y5, y6⟩ := b
    rw [Bool.eq_iff_iff]
    simp only [AcM.mk.injEq, Bool.and_eq_true, decide_eq_true_eq]
    constructor
    · rintro ⟨h1, h2, h3, h4, h5, h6⟩
      exact ⟨h1, h2, h3, h4, h6, h5⟩
    · rintro ⟨h1, h2, h3, h4, h6, h5⟩
      exact ⟨h1, h2, h3, h4, h5, h6⟩)
  obtain ⟨PA, HPA⟩ : ∃ C : Array Value, Hid (hcells a.pa = C) := ⟨_, hid rfl⟩
  obtain ⟨PB, HPB⟩ : ∃ C : Array Value, Hid (hcells b.pa = C) := ⟨_, hid rfl⟩
  obtain ⟨TA, HTA⟩ : ∃ C : Array Value, Hid (hcells a.tg = C) := ⟨_, hid rfl⟩
  obtain ⟨TB, HTB⟩ : ∃ C : Array Value, Hid (hcells b.tg = C) := ⟨_, hid rfl⟩
  rw [HPA.out] at a3 heq
  rw [HPB.out] at b3 heq
  rw [HTA.out] at a5 heq2
  rw [HTB.out] at b5 heq2
  obtain ⟨LA, HLA⟩ : ∃ n : Nat, Hid (a.fr.length = n) := ⟨_, hid rfl⟩
  obtain ⟨LB, HLB⟩ : ∃ n : Nat, Hid (b.fr.length = n) := ⟨_, hid rfl⟩
  rw [HLA.out] at a4 HEQ
  rw [HLB.out] at b4 HEQ
  obtain ⟨x0, HX0⟩ : ∃ n : Int, Hid (a.bo = n) := ⟨_, hid rfl⟩
  obtain ⟨x1, HX1⟩ : ∃ n : Int, Hid (a.vi = n) := ⟨_, hid rfl⟩
  obtain ⟨x2, HX2⟩ : ∃ n : Int, Hid (a.pv = n) := ⟨_, hid rfl⟩
  obtain ⟨y0, HY0⟩ : ∃ n : Int, Hid (b.bo = n) := ⟨_, hid rfl⟩
  obtain ⟨y1, HY1⟩ : ∃ n : Int, Hid (b.vi = n) := ⟨_, hid rfl⟩
  obtain ⟨y2, HY2⟩ : ∃ n : Int, Hid (b.pv = n) := ⟨_, hid rfl⟩
  rw [HX0.out] at a0
  rw [HX1.out] at a1
  rw [HX2.out] at a2
  rw [HY0.out] at b0
  rw [HY1.out] at b1
  rw [HY2.out] at b2
  rw [HX0.out, HX1.out, HX2.out, HY0.out, HY1.out, HY2.out] at HANS
  clear hA hB hoa hob hta0 htb0 hla hlb
  have HH := hid heq
  have HH2 := hid heq2
  clear heq heq2
  by_cases e0 : x0 = y0
  case neg =>
    have t : (x0 != y0) = true := by simpa using e0
    obtain rfl : ans = false := by rw [HANS.out, decide_eq_false e0]; simp
    clear e0 a3 a4 a5 b3 b4 b5
    go_wp2_with fail
    go_ret
    exact ⟨rfl, hb0⟩
  have t0 : (x0 != y0) = false := by simpa using e0
  have HE0 := hid e0
  clear e0
  by_cases e1 : x1 = y1
  case neg =>
    have t : (x1 != y1) = true := by simpa using e1
    obtain rfl : ans = false := by rw [HANS.out, decide_eq_false e1]; simp
    clear e1 a3 a4 a5 b3 b4 b5
    go_wp2_with fail
    go_ret
    exact ⟨rfl, hb0⟩
  have t1 : (x1 != y1) = false := by simpa using e1
  have HE1 := hid e1
  clear e1
  by_cases e2 : x2 = y2
  case neg =>
    have t : (x2 != y2) = true := by simpa using e2
    obtain rfl : ans = false := by rw [HANS.out, decide_eq_false e2]; simp
    clear e2 a3 a4 a5 b3 b4 b5
    go_wp2_with fail
    go_ret
    exact ⟨rfl, hb0⟩
  have t2 : (x2 != y2) = false := by simpa using e2
  have HE2 := hid e2
  clear e2
  have HANS2 : Hid (ans = (q && (q2 && q3))) := hid (by rw [HANS.out, decide_eq_true HE0.out, decide_eq_true HE1.out, decide_eq_true HE2.out]; rfl)
  go_upto_region 3 with (fail)
  have heq := HH.out
  have heq2 := HH2.out
  clear a0 a1 a2 b0 b1 b2 t0 t1 t2
  cases q with
  | false =>
    obtain rfl : ans = false := HANS2.out
    clear a4 b4 a5 b5 heq2
    go_wp2_with fail
    go_ret
    exact ⟨rfl, hb0⟩
  | true =>
    cases q2 with
    | false =>
      obtain rfl : ans = false := HANS2.out
      clear a4 b4
      go_wp2_with fail
      go_ret
      exact ⟨rfl, hb0⟩
    | true =>
      obtain rfl : ans = q3 := HANS2.out
      go_wp2_with fail
      refine HEQ.out.mono ?_
      rintro e w1 ⟨rfl, hb1⟩
      clear a4 b4 a3 b3 a5 b5 heq heq2
      go_wp2_with fail
      go_ret
      exact ⟨rfl, hb0.trans (hb1.mono hb0.size)⟩
end Go.Proofs.YthgdgkdnidjdgaaDoor
