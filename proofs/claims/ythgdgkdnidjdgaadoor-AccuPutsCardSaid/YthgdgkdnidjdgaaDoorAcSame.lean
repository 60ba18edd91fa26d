/-
  The document's answer for which accumulations are alike: tithingref10.Same. Printed with genacsame.py.
-/
import Derived.Test.YthgdgkdnidjdgaaDoorAcWords
import Derived.LoopTactic
import Derived.Outline
import Derived.Deep.QuietTactic
import Derived.BigQuiet
import Derived.Deep.DeepCutAuto
namespace Go.Proofs.YthgdgkdnidjdgaaDoor
set_option maxRecDepth 20000
open Go.RowKit
attribute [local go_sem ↓] exec_load_hash

set_option maxHeartbeats 1600000 in
theorem refSame10_any (va vb : Value) (a b : AcM) (w : World) (hva : AcV w va a) (hvb : AcV w vb b) :
    Calls Tryd.prog 9 #[va, vb] w fun e w' => e = .returned (.bool (decide (a = b))) ∧ Below w.heap.size w w' := by
  obtain ⟨sa, rfl, hoa, hta⟩ := hva
  obtain ⟨sb, rfl, hob, htb⟩ := hvb
  have hb0 : Below w.heap.size w ((w.alloc (.cells (axc a sa) 30)).alloc (.cells (axc b sb) 30)) := ((Below.refl _ _).alloc (Nat.le_refl _) _).alloc (by simp) _
  have hA : BoxX ((w.alloc (.cells (axc a sa) 30)).alloc (.cells (axc b sb) 30)) w.heap.size a sa := heap1 w _ _
  have hB : BoxX ((w.alloc (.cells (axc a sa) 30)).alloc (.cells (axc b sb) 30)) (w.heap.size + 1) b sb := heap2 w _ _
  have hta0 := hta.below hb0
  have htb0 := htb.below hb0
  obtain ⟨AA, ca, rfl⟩ := hta.shape
  obtain ⟨AB, cb, rfl⟩ := htb.shape
  obtain ⟨CA, HCA⟩ : ∃ C : Array Value, Hid (axc a (.slice AA a.fr.length ca) = C) := ⟨_, hid rfl⟩
  obtain ⟨CB, HCB⟩ : ∃ C : Array Value, Hid (axc b (.slice AB b.fr.length cb) = C) := ⟨_, hid rfl⟩
  rw [HCA.out, HCB.out] at hA hB hb0 hta0 htb0 ⊢
  obtain ⟨ans, HAN⟩ : ∃ q : Bool, Hid (decide (a = b) = q) := ⟨_, hid rfl⟩
  rw [HAN.out]
  go_enter Tryd.func9, Tryd.ntmps9
  go_upto_region 1 with (fail)
  generalize ((w.alloc (.cells CA 30)).alloc (.cells CB 30)) = w0 at *
  clear HCA HCB hta htb
  obtain ⟨k0, k1, k2⟩ := hA.ints
  obtain ⟨j0, j1, j2⟩ := hB.ints
  have k4 := hA.fr hoa
  have j4 := hB.fr hob
  have l3 := loadH_mid hA.pa hoa.pa
  have m3 := loadH_mid hB.pa hob.pa
  have l5 := loadH_mid (hA.tg hoa) hoa.tg
  have m5 := loadH_mid (hB.tg hob) hob.tg
  have e3 := eq_hash a.pa b.pa hoa.pa hob.pa w0
  have e5 := eq_hash a.tg b.tg hoa.tg hob.tg w0
  have k4d : ∀ n, (w0.drewN n).cell? ⟨w.heap.size, 35, none⟩ = some (.slice AA a.fr.length ca) := fun n => hA.fr hoa
  have j4d : ∀ n, (w0.drewN n).cell? ⟨w.heap.size + 1, 35, none⟩ = some (.slice AB b.fr.length cb) := fun n => hB.fr hob
  clear hA hB hoa hob
  obtain ⟨bo, vi, pv, pa, fr, tg⟩ := a
  obtain ⟨bo', vi', pv', pa', fr', tg'⟩ := b
  simp only at k0 k1 k2 j0 j1 j2 k4 j4 l3 m3 l5 m5 e3 e5 k4d j4d hta0 htb0 HAN
  obtain ⟨q3, HQ3⟩ : ∃ q : Bool, Hid (decide (pa = pa') = q) := ⟨_, hid rfl⟩
  obtain ⟨q5, HQ5⟩ : ∃ q : Bool, Hid (decide (tg = tg') = q) := ⟨_, hid rfl⟩
  rw [HQ3.out] at e3
  rw [HQ5.out] at e5
  obtain ⟨G3, HG3⟩ : ∃ C : Array Value, Hid (hcells pa = C) := ⟨_, hid rfl⟩
  obtain ⟨I3, HI3⟩ : ∃ C : Array Value, Hid (hcells pa' = C) := ⟨_, hid rfl⟩
  obtain ⟨G5, HG5⟩ : ∃ C : Array Value, Hid (hcells tg = C) := ⟨_, hid rfl⟩
  obtain ⟨I5, HI5⟩ : ∃ C : Array Value, Hid (hcells tg' = C) := ⟨_, hid rfl⟩
  rw [HG3.out] at l3 e3
  rw [HI3.out] at m3 e3
  rw [HG5.out] at l5 e5
  rw [HI5.out] at m5 e5
  obtain ⟨LA, HLA⟩ : ∃ n : Nat, Hid (fr.length = n) := ⟨_, hid rfl⟩
  obtain ⟨LB, HLB⟩ : ∃ n : Nat, Hid (fr'.length = n) := ⟨_, hid rfl⟩
  have hlena := hta0.len
  have hlenb := htb0.len
  rw [HLA.out] at k4 k4d hta0 hlena
  rw [HLB.out] at j4 j4d htb0 hlenb
  unfold maxLen at hlena hlenb
  have HTA := hid hta0
  have HTB := hid htb0
  have HA4 := hid k4d
  have HB4 := hid j4d
  clear hta0 htb0 k4d j4d
  by_cases n0 : ¬ bo = bo'
  · have t0 : (bo != bo') = true := by simpa using n0
    obtain rfl : ans = false := by
      rw [← HAN.out]
      exact decide_eq_false (fun e => by injection e with f0 f1 f2 f3 f4 f5; exact n0 f0)
    go_wp2_with fail
    go_ret
    exact ⟨rfl, hb0⟩
  have t0 : (bo != bo') = false := by simpa using n0
  by_cases n1 : ¬ vi = vi'
  · have t1 : (vi != vi') = true := by simpa using n1
    obtain rfl : ans = false := by
      rw [← HAN.out]
      exact decide_eq_false (fun e => by injection e with f0 f1 f2 f3 f4 f5; exact n1 f1)
    go_wp2_with fail
    go_ret
    exact ⟨rfl, hb0⟩
  have t1 : (vi != vi') = false := by simpa using n1
  by_cases n2 : ¬ pv = pv'
  · have t2 : (pv != pv') = true := by simpa using n2
    obtain rfl : ans = false := by
      rw [← HAN.out]
      exact decide_eq_false (fun e => by injection e with f0 f1 f2 f3 f4 f5; exact n2 f2)
    go_wp2_with fail
    go_ret
    exact ⟨rfl, hb0⟩
  have t2 : (pv != pv') = false := by simpa using n2
  cases q3 with
  | false =>
    obtain rfl : ans = false := by
      rw [← HAN.out]
      exact decide_eq_false (fun e => by injection e with f0 f1 f2 f3 f4 f5; exact of_decide_eq_false HQ3.out f3)
    go_wp2_with fail
    go_ret
    exact ⟨rfl, hb0⟩
  | true =>
  cases q5 with
  | false =>
    obtain rfl : ans = false := by
      rw [← HAN.out]
      exact decide_eq_false (fun e => by injection e with f0 f1 f2 f3 f4 f5; exact of_decide_eq_false HQ5.out f5)
    go_wp2_with fail
    go_ret
    exact ⟨rfl, hb0⟩
  | true =>
  by_cases n4 : ¬ LA = LB
  · have t4 : ((LA : Int) != (LB : Int)) = true := by simp; omega
    obtain rfl : ans = false := by
      rw [← HAN.out]
      exact decide_eq_false (fun e => by injection e with f0 f1 f2 f3 f4 f5; exact by subst f4; exact n4 (HLA.out.symm.trans HLB.out))
    go_wp2_with fail
    go_ret
    exact ⟨rfl, hb0⟩
  obtain rfl : LA = LB := by omega
  have t4 : ((LA : Int) != (LA : Int)) = false := by simp
  obtain ⟨_, hca1, hca2, hra⟩ := HTA.out.at_
  obtain ⟨_, hcb1, hcb2, hrb⟩ := HTB.out.at_
  rw [HLA.out] at hca1
  rw [HLB.out] at hcb1
  unfold maxLen at hca2 hcb2
  have HRA := hid hra
  have HRB := hid hrb
  have HEQ : Hid (bo = bo' ∧ vi = vi' ∧ pv = pv' ∧ pa = pa' ∧ tg = tg') := hid ⟨by omega, by omega, by omega, of_decide_eq_true HQ3.out, of_decide_eq_true HQ5.out⟩
  clear hra hrb
  go_wp2_with fail
  clear t0 t1 t2 t4 n0 n1 n2 n4 e3 e5 l3 m3 l5 m5 k0 k1 k2 j0 j1 j2 k4 j4
  go_loopw [5] (fun si wr => ∃ i : Nat, i ≤ LA ∧ si = .int .i64 i ∧ Hid (∀ j (h : j < fr.length) (h2 : j < fr'.length), j < i → fr[j] = fr'[j]) ∧ ∃ n, wr = w0.drewN n) (fun si _ => LA - (intOf si).toNat)
  case atStart => exact ⟨0, Nat.zero_le _, rfl, hid (fun j _ _ h => absurd h (by omega)), 0, rfl⟩
  case round =>
    obtain ⟨i, hi, rfl, HBB, n, rfl⟩ := hrel
    have a4d := HA4.out
    have b4d := HB4.out
    by_cases hlt : i < LA
    · have hil : i < fr.length := by rw [HLA.out]; exact hlt
      have him : i < fr'.length := by rw [HLB.out]; exact hlt
      obtain ⟨ba, oa', rfl, hba, hcla⟩ := HRA.out (by omega)
      obtain ⟨bb, ob', rfl, hbb, hclb⟩ := HRB.out (by omega)
      have l1 : ∀ k, (w0.drewN k).cell? ⟨ba, oa' + i, none⟩ = some (.int .i64 fr[i]) := fun k => by
        have := hcla i hil 0 _ rfl
        rwa [Nat.mul_one, Nat.add_zero] at this
      have l2 : ∀ k, (w0.drewN k).cell? ⟨bb, ob' + i, none⟩ = some (.int .i64 fr'[i]) := fun k => by
        have := hclb i him 0 _ rfl
        rwa [Nat.mul_one, Nat.add_zero] at this
      have hI : (i : Int) < (LA : Int) := by omega
      clear hcla hclb
      obtain ⟨x, HX⟩ : ∃ x : Int, Hid (fr[i] = x) := ⟨_, hid rfl⟩
      obtain ⟨y, HY⟩ : ∃ x : Int, Hid (fr'[i] = x) := ⟨_, hid rfl⟩
      rw [HX.out] at l1
      rw [HY.out] at l2
      by_cases hxy : x = y
      · have hd : (x != y) = false := by simpa using hxy
        have HXY : Hid (fr[i] = fr'[i]) := hid (by rw [HX.out, HY.out]; exact hxy)
        go_wp2_with fail
        go_quiet (fail)
        go_wp2_with fail
        go_roundw
        case rel =>
          refine ⟨i + 1, by omega, by go_num, hid (fun j h h2 hj => ?_), _, rfl⟩
          by_cases hji : j < i
          · exact HBB.out j h h2 hji
          · obtain rfl : j = i := by omega
            exact HXY.out
        case measure => simp [intOf]; omega
      · have hd : (x != y) = true := by simpa using hxy
        have e : ans = false := by
          rw [← HAN.out]
          exact decide_eq_false (fun e => by injection e with _ _ _ _ e _; subst e; exact hxy (HX.out.symm.trans HY.out))
        subst e
        go_wp2_with fail
        go_quiet (fail)
        go_wp2_with fail
        go_ret
        exact ⟨rfl, below_drewN (below_drewN hb0 _) _⟩
    · obtain rfl : i = LA := by omega
      have hI : ¬ (i : Int) < (i : Int) := by omega
      have e : ans = true := by
        rw [← HAN.out]
        refine decide_eq_true ?_
        obtain ⟨rfl, rfl, rfl, rfl, rfl⟩ := HEQ.out
        have ht : fr = fr' := List.ext_getElem (by rw [HLA.out, HLB.out]) fun j h h2 => HBB.out j h h2 (by have := HLA.out; omega)
        rw [ht]
      subst e
      go_wp2_with fail
      go_ret
      exact ⟨rfl, below_drewN hb0 n⟩
end Go.Proofs.YthgdgkdnidjdgaaDoor
