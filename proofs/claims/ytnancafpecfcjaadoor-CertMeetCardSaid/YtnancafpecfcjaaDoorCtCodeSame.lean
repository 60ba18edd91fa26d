/-
  cert.Same, slices.Equal of signatures: which certificates are alike.
-/
import Derived.Test.YtnancafpecfcjaaDoorBs12
import Derived.Test.YtnancafpecfcjaaDoorBs10
namespace Go.Proofs.YtnancafpecfcjaaDoor
set_option maxRecDepth 20000
open Go.RowKit
attribute [local go_sem ↓] exec_load_att exec_load_sg

set_option maxHeartbeats 800000 in
theorem equalSg_any (va vb : Value) (sa sb : List SgM) (w : World) (hva : Els scl 33 w va sa) (hvb : Els scl 33 w vb sb) (hoa : ∀ s ∈ sa, s.Ok) (hob : ∀ s ∈ sb, s.Ok) (hl : sa.length ≤ 1000) :
    Calls Tryd.prog 36 #[va, vb] w fun e w' => e = .returned (.bool (decide (sa = sb))) ∧ Below w.heap.size w w' := by
  obtain ⟨AA, ca, rfl⟩ := hva.shape
  obtain ⟨AB, cb, rfl⟩ := hvb.shape
  obtain ⟨ans, HAN⟩ : ∃ q : Bool, Hid (decide (sa = sb) = q) := ⟨_, hid rfl⟩
  rw [HAN.out]
  obtain ⟨LA, HLA⟩ : ∃ n : Nat, Hid (sa.length = n) := ⟨_, hid rfl⟩
  obtain ⟨LB, HLB⟩ : ∃ n : Nat, Hid (sb.length = n) := ⟨_, hid rfl⟩
  rw [HLA.out] at hva hl ⊢
  rw [HLB.out] at hvb ⊢
  have HOA := hid hoa
  have HOB := hid hob
  have hlb := hvb.len
  rw [HLB.out] at hlb
  unfold maxLen at hlb
  clear hoa hob
  by_cases e4 : LA = LB
  · subst e4
    have t4 : ((LA : Int) != (LA : Int)) = false := by simp
    have HRA := hid hva.at_.2.2.2
    have HRB := hid hvb.at_.2.2.2
    clear hva hvb
    go_enter Tryd.func36, Tryd.ntmps36
    go_wp2_with fail
    clear t4
    go_loopw [13] (fun si wr => ∃ i : Nat, i ≤ LA ∧ si = .int .i64 i ∧ Hid (∀ j (h : j < sa.length) (h2 : j < sb.length), j < i → sa[j] = sb[j]) ∧ ∃ n, wr = w.drewN n) (fun si _ => LA - (intOf si).toNat)
    case atStart => exact ⟨0, Nat.zero_le _, rfl, hid (fun j _ _ h => absurd h (by omega)), 0, rfl⟩
    case round =>
      obtain ⟨i, hi, rfl, HBB, n, rfl⟩ := hrel
      by_cases hlt : i < LA
      · have hil : i < sa.length := by rw [HLA.out]; exact hlt
        have him : i < sb.length := by rw [HLB.out]; exact hlt
        obtain ⟨ba, oa', rfl, hba, hcla⟩ := HRA.out (by omega)
        obtain ⟨bb, ob', rfl, hbb, hclb⟩ := HRB.out (by omega)
        have l1 : ∀ k, loadSg (.pointer (some ⟨ba, oa' + i * 33, none⟩)) (w.drewN k) = .ok (.value (.agg (sgc sa[i]))) (w.drewN k) := fun k => loadSg_mid (hcla i hil) (HOA.out _ (List.getElem_mem hil))
        have l2 : ∀ k, loadSg (.pointer (some ⟨bb, ob' + i * 33, none⟩)) (w.drewN k) = .ok (.value (.agg (sgc sb[i]))) (w.drewN k) := fun k => loadSg_mid (hclb i him) (HOB.out _ (List.getElem_mem him))
        have hI : (i : Int) < (LA : Int) := by omega
        have eqt : ∀ W, (Op.equalIn 10000 63 (.agg (sgc sa[i])) (.agg (sgc sb[i]))).run Tryd.prog W = .ok (decide (sa[i] = sb[i])) W := fun W => eq_sg _ _ (HOA.out _ (List.getElem_mem hil)) (HOB.out _ (List.getElem_mem him)) W
        clear hcla hclb
        obtain ⟨X, HX⟩ : ∃ C : Array Value, Hid (sgc sa[i] = C) := ⟨_, hid rfl⟩
        obtain ⟨Y, HY⟩ : ∃ C : Array Value, Hid (sgc sb[i] = C) := ⟨_, hid rfl⟩
        rw [HX.out] at l1 eqt
        rw [HY.out] at l2 eqt
        by_cases hxy : sa[i] = sb[i]
        · rw [decide_eq_true hxy] at eqt
          have HXY := hid hxy
          clear hxy
          go_wp2_with fail
          go_quiet (fail)
          go_wp2
          go_roundw
          case rel =>
            refine ⟨i + 1, by omega, by go_num, hid (fun j h h2 hj => ?_), _, rfl⟩
            by_cases hji : j < i
            · exact HBB.out j h h2 hji
            · obtain rfl : j = i := by omega
              exact HXY.out
          case measure => simp [intOf]; omega
        · rw [decide_eq_false hxy] at eqt
          have HXY := hid hxy
          clear hxy
          go_wp2_with fail
          go_quiet (fail)
          go_wp2
          go_ret
          have e : ans = false := by
            rw [← HAN.out]
            exact decide_eq_false (fun e => by subst e; exact HXY.out rfl)
          subst e
          exact ⟨rfl, below_drewN (below_drewN (Below.refl _ _) _) _⟩
      · obtain rfl : i = LA := by omega
        go_wp2
        go_ret
        have e : ans = true := by
          rw [← HAN.out]
          refine decide_eq_true ?_
          exact List.ext_getElem (by rw [HLA.out, HLB.out]) fun j h h2 => HBB.out j h h2 (by have := HLA.out; omega)
        subst e
        exact ⟨rfl, below_drewN (Below.refl _ _) n⟩
  · have t4 : ((LA : Int) != (LB : Int)) = true := by simp; omega
    obtain rfl : ans = false := by
      rw [← HAN.out]
      exact decide_eq_false (fun e => by rw [e] at HLA; exact e4 (HLA.out.symm.trans HLB.out))
    clear e4 hva hvb
    go_enter Tryd.func36, Tryd.ntmps36
    go_wp2_with fail
    go_ret
    exact ⟨rfl, Below.refl _ _⟩

set_option maxHeartbeats 800000 in
theorem ctSame_ok : CtSameOk := by
  intro va vb a b w hva hvb hla hlb
  obtain ⟨sa, rfl, hoa, hta⟩ := hva
  obtain ⟨sb, rfl, hob, htb⟩ := hvb
  have hb0 : Below w.heap.size w ((w.alloc (.cells (ctc a sa) 30)).alloc (.cells (ctc b sb) 30)) := ((Below.refl _ _).alloc (Nat.le_refl _) _).alloc (by simp) _
  have hA : BoxC ((w.alloc (.cells (ctc a sa) 30)).alloc (.cells (ctc b sb) 30)) w.heap.size a sa := heap1 w _ _
  have hB : BoxC ((w.alloc (.cells (ctc a sa) 30)).alloc (.cells (ctc b sb) 30)) (w.heap.size + 1) b sb := heap2 w _ _
  have hta0 := hta.below hb0
  have htb0 := htb.below hb0
  obtain ⟨AA, ca, rfl⟩ := hta.shape
  obtain ⟨AB, cb, rfl⟩ := htb.shape
  obtain ⟨CA, HCA⟩ : ∃ C : Array Value, Hid (ctc a (.slice AA a.sg.length ca) = C) := ⟨_, hid rfl⟩
  obtain ⟨CB, HCB⟩ : ∃ C : Array Value, Hid (ctc b (.slice AB b.sg.length cb) = C) := ⟨_, hid rfl⟩
  rw [HCA.out, HCB.out] at hA hB hb0 hta0 htb0 ⊢
  obtain ⟨ans, HAN⟩ : ∃ q : Bool, Hid (decide (a = b) = q) := ⟨_, hid rfl⟩
  rw [HAN.out]
  go_enter Tryd.func14, Tryd.ntmps14
  go_upto_region 1 with (fail)
  generalize ((w.alloc (.cells CA 30)).alloc (.cells CB 30)) = w0 at *
  clear HCA HCB hta htb
  have a4 := hA.sigs hoa.att
  have b4 := hB.sigs hob.att
  have la := loadAtt_in hA.att hoa.att
  have lb := loadAtt_in hB.att hob.att
  have heq := fun W => eq_att a.att b.att hoa.att hob.att W
  obtain ⟨q, HQ⟩ : ∃ q : Bool, Hid (decide (a.att = b.att) = q) := ⟨_, hid rfl⟩
  rw [HQ.out] at heq
  obtain ⟨GA, HGA⟩ : ∃ C : Array Value, Hid (atc a.att = C) := ⟨_, hid rfl⟩
  obtain ⟨GB, HGB⟩ : ∃ C : Array Value, Hid (atc b.att = C) := ⟨_, hid rfl⟩
  rw [HGA.out] at la heq
  rw [HGB.out] at lb heq
  have HEQ := hid (equalSg_any _ _ _ _ w0 hta0 htb0 hoa.sg hob.sg hla)
  obtain ⟨q2, HQ2⟩ : ∃ q : Bool, Hid (decide (a.sg = b.sg) = q) := ⟨_, hid rfl⟩
  rw [HQ2.out] at HEQ
  have HANS : Hid (ans = (q && q2)) := hid (by
    rw [← HAN.out, ← HQ.out, ← HQ2.out]
    obtain ⟨p1, p2⟩ := a
    obtain ⟨q1, q2⟩ := b
    simp only [CtM.mk.injEq, Bool.decide_and])
  obtain ⟨LA, HLA⟩ : ∃ n : Nat, Hid (a.sg.length = n) := ⟨_, hid rfl⟩
  obtain ⟨LB, HLB⟩ : ∃ n : Nat, Hid (b.sg.length = n) := ⟨_, hid rfl⟩
  rw [HLA.out] at a4 HEQ
  rw [HLB.out] at b4 HEQ
  clear hA hB hoa hob HGA HGB hta0 htb0 hla hlb
  cases q with
  | false =>
    obtain rfl : ans = false := HANS.out
    clear a4 b4
    go_wp2_with fail
    go_ret
    exact ⟨rfl, hb0⟩
  | true =>
    obtain rfl : ans = q2 := HANS.out
    go_wp2_with fail
    refine HEQ.out.mono ?_
    rintro e w1 ⟨rfl, hb1⟩
    clear a4 b4 la lb heq
    go_wp2_with fail
    go_ret
    exact ⟨rfl, hb0.trans (hb1.mono hb0.size)⟩
end Go.Proofs.YtnancafpecfcjaaDoor
