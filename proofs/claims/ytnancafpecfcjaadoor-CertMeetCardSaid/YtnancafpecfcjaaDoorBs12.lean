/-
  CtRight CtSame Tables Args: what each of them says stands at its head.
-/
import Derived.Test.YtnancafpecfcjaaDoorBs11
import Derived.Test.YtnancafpecfcjaaDoorBs6
import Derived.Test.YtnancafpecfcjaaDoorBs10
import Derived.Deep.RegionHeld3
import Derived.LoopTactic
import Derived.Outline
import Derived.Deep.QuietTactic
import Derived.BigQuiet
import Derived.Deep.DeepCutAuto
import Derived.Test.YtnancafpecfcjaaDoorBs3
import Derived.Lib.LaidTab
import Derived.MakeChecks
import Derived.LaidMore
import Derived.Stop.Joined
import Derived.OpenShut
import Derived.Stop.LaidErr
/-
  The document's answer for whether a certificate is right: tithingref09.Right.
-/
namespace Go.Proofs.YtnancafpecfcjaaDoor
set_option maxRecDepth 20000
open Go.RowKit
attribute [local go_sem ↓] exec_load_att exec_load_ct exec_load_sg

set_option maxHeartbeats 400000 in
theorem refRight9_any (n : Int) (v : Value) (c : CtM) (w : World) (hv : CtV w v c) (hK : Kst 1 w) :
    Calls Tryd.prog 13 #[.int .i64 n, v] w fun e w' => e = .returned (.bool (rightC n c)) ∧ Below w.heap.size w w' := by
  have HV := hid (fun W (h : Below w.heap.size w W) => hv.below h)
  obtain ⟨s, rfl, ho, ht⟩ := hv
  have hb0 : Below w.heap.size w (w.alloc (.cells (ctc c s) 30)) := (Below.refl _ _).alloc (Nat.le_refl _) _
  have hr0 := heap_alloc_new w (.cells (ctc c s) 30)
  obtain ⟨A, k, rfl⟩ := ht.shape
  have HT := hid (fun W (h : Below w.heap.size w W) => ht.below h)
  have hlen := ht.len
  unfold maxLen at hlen
  obtain ⟨L, HL⟩ : ∃ n : Nat, Hid (c.sg.length = n) := ⟨_, hid rfl⟩
  rw [HL.out] at hr0 hb0 HV HT hlen ⊢
  obtain ⟨C, HC⟩ : ∃ C : Array Value, Hid (ctc c (.slice A L k) = C) := ⟨_, hid rfl⟩
  obtain ⟨q, HQ⟩ : ∃ q : Nat, Hid (quoS n = q) := ⟨_, hid rfl⟩
  obtain ⟨r, HR⟩ : ∃ q : Bool, Hid (risesB n 0 c.sg = q) := ⟨_, hid rfl⟩
  obtain ⟨b, HB⟩ : ∃ q : Bool, Hid (bareC c = q) := ⟨_, hid rfl⟩
  obtain ⟨ans, HAN⟩ : ∃ q : Bool, Hid (rightC n c = q) := ⟨_, hid rfl⟩
  have HRC : Hid (ans = (decide (q ≠ 0) && (decide (L = q) && (r && (b && c.sg.all fun s => rightA (withC c.att s)))))) := hid (by rw [← HAN.out]; unfold rightC; rw [HQ.out, HL.out, HR.out, HB.out])
  rw [HC.out] at hr0 hb0 HV ⊢
  rw [HAN.out]
  have HKB := hid (fun W (h : Below w.heap.size w W) => (show Kst 1 W from hK.below h))
  have HQU : Hid (∀ W, Calls Tryd.prog 29 #[.int .i64 n] W fun e w' => e = .returned (.int .i64 (q : Int)) ∧ W = w') := hid (fun W => by
    have := refQuorum_any n W
    rw [HQ.out] at this
    exact this)
  have HBA : Hid (∀ W, Below w.heap.size w W → Calls Tryd.prog 34 #[.agg C] W fun e w' => e = .returned (.bool b) ∧ Below W.heap.size W w') := hid (fun W h => by
    have := refBare9_any _ c W (HV.out W h)
    rw [HB.out] at this
    exact this)
  have HRI : Hid (∀ W, Below w.heap.size w W → Calls Tryd.prog 33 #[.slice A L k, .int .i64 n] W fun e w' => e = .returned (.bool r) ∧ Below W.heap.size W w') := hid (fun W h => by
    have := refRises9_any (.slice A L k) c.sg n W (HT.out W h)
    rw [HR.out] at this
    exact this)
  have HSO := hid ho.sg
  have HAO := hid ho.att
  have HWI : Hid (∀ s W, s.Ok → Calls Tryd.prog 35 #[.agg (atc c.att), .agg (sgc s)] W fun e w' => e = .returned (.agg (atc (withC c.att s))) ∧ Below W.heap.size W w') := hid (fun s W hs => refWith9_any c.att s W HAO.out hs)
  have HRT : Hid (∀ s W, s.Ok → Below w.heap.size w W → Calls Tryd.prog 30 #[.agg (atc (withC c.att s))] W fun e w' => e = .returned (.bool (rightA (withC c.att s))) ∧ Below W.heap.size W w') := hid (fun s W hs h => refRight8_any _ W (withC_ok HAO.out hs) (HKB.out W h))
  obtain ⟨G, HG⟩ : ∃ C : Array Value, Hid (atc c.att = C) := ⟨_, hid rfl⟩
  rw [HG.out] at HWI
  have HLD : Hid (∀ W : World, W.heap[w.heap.size]? = some (.cells C 30 (0, 0)) → loadCt (.pointer (some ⟨w.heap.size, 0, none⟩)) W = .ok (.value (.agg C)) W ∧ loadAtt (.pointer (some ⟨w.heap.size, 0, none⟩)) W = .ok (.value (.agg G)) W ∧ W.cell? ⟨w.heap.size, 101, none⟩ = some (.slice A L k)) := hid (fun W h => by
    have h2 := h
    rw [← HC.out] at h2
    have hBC : BoxC W w.heap.size c (.slice A L k) := h2
    refine ⟨loadCt_row h (by rw [← HC.out]; exact ctc_size _ HAO.out), ?_, hBC.sigs HAO.out⟩
    rw [← HG.out]
    exact loadAtt_in hBC.att HAO.out)
  have hq21 : q ≤ 21 := by
    rw [← HQ.out]
    by_cases h : quoS n = 0
    · omega
    · have := quoS_top h
      unfold quoS
      split <;> omega
  clear ho ht hK
  go_enter Tryd.func13, Tryd.ntmps13
  go_upto_region 1 with (fail)
  generalize (w.alloc (.cells C 30)) = w0 at *
  have hl0 := lt_of_block hr0
  have HF := hid (fun W (h : Below w0.heap.size w0 W) => HLD.out W ((h.block _ hl0).trans hr0))
  obtain ⟨l0, _, c0⟩ := HF.out w0 (Below.refl _ _)
  clear hr0 hl0
  go_wp2_with fail
  refine (HQU.out w0).mono ?_
  rintro e w1 ⟨rfl, rfl⟩
  by_cases hq : q = 0
  · subst hq
    obtain rfl : ans = false := HRC.out
    go_wp2_with fail
    go_ret
    exact ⟨rfl, hb0⟩
  · have hq1 : ((q : Int) == 0) = false := by simpa using hq
    by_cases hl : L = q
    · have hl1 : ((L : Int) != (q : Int)) = false := by simp [hl]
      have HLQ := hid hl
      have HQ0 := hid hq
      clear hl hq
      go_wp2_with fail
      refine (HRI.out w0 hb0).mono ?_
      rintro e w2 ⟨rfl, hb2⟩
      have hB2 := hb0.trans (hb2.mono hb0.size)
      clear l0 c0
      cases r with
      | false =>
        obtain rfl : ans = false := by rw [HRC.out]; simp
        go_wp2_with fail
        go_ret
        exact ⟨rfl, hB2⟩
      | true =>
        obtain ⟨l2, _, c2⟩ := HF.out w2 hb2
        go_wp2_with fail
        refine (HBA.out w2 hB2).mono ?_
        rintro e w3 ⟨rfl, hb3'⟩
        have hb3 := hb2.trans (hb3'.mono hb2.size)
        have hB3 := hB2.trans (hb3'.mono hB2.size)
        clear l2 c2 hb3' hb2 hB2
        cases b with
        | false =>
          obtain rfl : ans = false := by rw [HRC.out]; simp
          go_wp2_with fail
          go_ret
          exact ⟨rfl, hB3⟩
        | true =>
          have HRC2 : Hid (ans = c.sg.all fun s => rightA (withC c.att s)) := hid (by rw [HRC.out, decide_eq_true HQ0.out, decide_eq_true HLQ.out]; rfl)
          have HTX := hid (fun W (h : Below w3.heap.size w3 W) => HT.out W (hB3.trans (h.mono hB3.size)))
          have HF3 := hid (fun W (h : Below w3.heap.size w3 W) => HF.out W (hb3.trans (h.mono hb3.size)))
          have HBW := hid (fun W (h : Below w3.heap.size w3 W) => hB3.trans (h.mono hB3.size))
          clear hl1 hq1 hb3 hB3
          go_wp2_with fail
          go_loopw [6] (fun si wr => ∃ i : Nat, i ≤ L ∧ si = .int .i64 i ∧ Hid (∀ j (h : j < c.sg.length), j < i → rightA (withC c.att c.sg[j]) = true) ∧ Below w3.heap.size w3 wr) (fun si _ => L - (intOf si).toNat)
          case atStart => exact ⟨0, Nat.zero_le _, rfl, hid (fun j _ h => absurd h (by omega)), Below.refl _ _⟩
          case round =>
            obtain ⟨i, hi, rfl, HD, hbr⟩ := hrel
            by_cases hlt : i < L
            · have hil : i < c.sg.length := by rw [HL.out]; exact hlt
              obtain ⟨g, o, rfl, hg, _⟩ := (HTX.out wr hbr).at_.2.2.2 (by omega)
              have HSX : Hid (∀ W, Below w3.heap.size w3 W → loadSg (.pointer (some ⟨g, o + i * 33, none⟩)) W = .ok (.value (.agg (sgc c.sg[i]))) W) := hid (fun W h => by
                obtain ⟨g', o', e, _, hcl⟩ := (HTX.out W h).at_.2.2.2 (by omega)
                injection e with e
                injection e with e1 e2 _
                subst e1 e2
                exact loadSg_mid (hcl i hil) (HSO.out _ (List.getElem_mem hil)))
              have hI : (i : Int) < (L : Int) := by omega
              have c1 := (HF3.out wr hbr).2.2
              obtain ⟨X, HX⟩ : ∃ C : Array Value, Hid (sgc c.sg[i] = C) := ⟨_, hid rfl⟩
              have HW2 := hid (fun W => HWI.out c.sg[i] W (HSO.out _ (List.getElem_mem hil)))
              have HR2 := hid (fun W (h : Below w.heap.size w W) => HRT.out c.sg[i] W (HSO.out _ (List.getElem_mem hil)) h)
              obtain ⟨m, HM⟩ : ∃ m : Bool, Hid (rightA (withC c.att c.sg[i]) = m) := ⟨_, hid rfl⟩
              obtain ⟨Y, HY⟩ : ∃ C : Array Value, Hid (atc (withC c.att c.sg[i]) = C) := ⟨_, hid rfl⟩
              rw [HX.out] at HSX
              rw [HX.out, HY.out] at HW2
              rw [HY.out, HM.out] at HR2
              have HSS : Hid (∀ W, Below w3.heap.size w3 W → (loadAtt (.pointer (some ⟨w.heap.size, 0, none⟩)) W = .ok (.value (.agg G)) W ∧ W.cell? ⟨w.heap.size, 101, none⟩ = some (.slice (some ⟨g, o, none⟩) L k) ∧ loadSg (.pointer (some ⟨g, o + i * 33, none⟩)) W = .ok (.value (.agg X)) W)) := hid (fun W h => ⟨(HF3.out W h).2.1, (HF3.out W h).2.2, HSX.out W h⟩)
              have hbd : Below w3.heap.size w3 wr.drew := hbr.drew
              go_upto_region 7 with (fail)
              go_region_held3 (fun W => loadAtt (.pointer (some ⟨w.heap.size, 0, none⟩)) W = .ok (.value (.agg G)) W ∧ W.cell? ⟨w.heap.size, 101, none⟩ = some (.slice (some ⟨g, o, none⟩) L k) ∧ loadSg (.pointer (some ⟨g, o + i * 33, none⟩)) W = .ok (.value (.agg X)) W)
                (first
                  | (refine HSS.out _ hbd)
                  | (refine HSS.out _ hb5)
                  | (refine HSS.out _ hb4)
                  | fail)
                (first
                  | (go_at_call 30; (with_reducible refine (HR2.out _ (HBW.out _ hb4)).mono ?_); rintro e w5 ⟨rfl, hb5'⟩; have hb5 := hb4.trans (hb5'.mono hb4.size))
                  | (go_at_call 35; (with_reducible refine (HW2.out _).mono ?_); rintro e w4 ⟨rfl, hb4'⟩; have hb4 := hbd.trans (hb4'.mono hbd.size))
                  | fail)
              clear c1 hbd hb4 hb4' hb5'
              cases m with
              | false =>
                obtain rfl : ans = false := by
                  rw [HRC2.out, List.all_eq_false]
                  exact ⟨_, List.getElem_mem hil, by simp [HM.out]⟩
                go_wp2_with fail
                go_ret
                exact ⟨rfl, HBW.out _ hb5⟩
              | true =>
                go_wp2_with fail
                go_roundw
                case rel =>
                  refine ⟨i + 1, by omega, by go_num, hid (fun j h hj => ?_), hb5⟩
                  by_cases hji : j < i
                  · exact HD.out j h hji
                  · obtain rfl : j = i := by omega
                    exact HM.out
                case measure => simp [intOf]; omega
            · obtain rfl : i = L := by omega
              obtain rfl : ans = true := by
                rw [HRC2.out, List.all_eq_true]
                intro s hs
                obtain ⟨j, hj, rfl⟩ := List.getElem_of_mem hs
                exact HD.out j hj (by have := HL.out; omega)
              have c1 := (HF3.out wr hbr).2.2
              go_wp2_with fail
              go_ret
              exact ⟨rfl, HBW.out _ hbr⟩
    · have hl1 : ((L : Int) != (q : Int)) = true := by simp; omega
      obtain rfl : ans = false := by rw [HRC.out, decide_eq_false hl, Bool.false_and, Bool.and_false]
      clear hl
      go_wp2_with fail
      go_ret
      exact ⟨rfl, hb0⟩
end Go.Proofs.YtnancafpecfcjaaDoor

/-
  The document's answer for which certificates are alike: tithingref09.Same.
-/
namespace Go.Proofs.YtnancafpecfcjaaDoor
set_option maxRecDepth 20000
open Go.RowKit
attribute [local go_sem ↓] exec_load_att exec_load_sg

set_option maxHeartbeats 600000 in
theorem refSame9_any (va vb : Value) (a b : CtM) (w : World) (hva : CtV w va a) (hvb : CtV w vb b) :
    Calls Tryd.prog 10 #[va, vb] w fun e w' => e = .returned (.bool (decide (a = b))) ∧ Below w.heap.size w w' := by
  obtain ⟨sa, rfl, hoa, hta⟩ := hva
  obtain ⟨sb, rfl, hob, htb⟩ := hvb
  have hb0 : Below w.heap.size w ((w.alloc (.cells (ctc a sa) 30)).alloc (.cells (ctc b sb) 30)) := ((Below.refl _ _).alloc (Nat.le_refl _) _).alloc (by simp) _
  have hA : BoxC ((w.alloc (.cells (ctc a sa) 30)).alloc (.cells (ctc b sb) 30)) w.heap.size a sa := heap1 w _ _
  have hB : BoxC ((w.alloc (.cells (ctc a sa) 30)).alloc (.cells (ctc b sb) 30)) (w.heap.size + 1) b sb := heap2 w _ _
  have hta0 := hta.below hb0
  have htb0 := htb.below hb0
  obtain ⟨AA, ca, rfl⟩ := hta.shape
  obtain ⟨AB, cb, rfl⟩ := htb.shape
  obtain ⟨CA, HCA⟩ : ∃ C : Array Value, Hid (ctc a (.slice AA a.sg.length ca) = C) := ⟨_, hid rfl⟩
  obtain ⟨CB, HCB⟩ : ∃ C : Array Value, Hid (ctc b (.slice AB b.sg.length cb) = C) := ⟨_, hid rfl⟩
  rw [HCA.out, HCB.out] at hA hB hb0 hta0 htb0 ⊢
  obtain ⟨ans, HAN⟩ : ∃ q : Bool, Hid (decide (a = b) = q) := ⟨_, hid rfl⟩
  rw [HAN.out]
  go_enter Tryd.func10, Tryd.ntmps10
  go_upto_region 1 with (fail)
  generalize ((w.alloc (.cells CA 30)).alloc (.cells CB 30)) = w0 at *
  clear HCA HCB hta htb
  have a4 := hA.sigs hoa.att
  have b4 := hB.sigs hob.att
  have la := loadAtt_in hA.att hoa.att
  have lb := loadAtt_in hB.att hob.att
  have heq := fun W => eq_att a.att b.att hoa.att hob.att W
  obtain ⟨q, HQ⟩ : ∃ q : Bool, Hid (decide (a.att = b.att) = q) := ⟨_, hid rfl⟩
  rw [HQ.out] at heq
  obtain ⟨GA, HGA⟩ : ∃ C : Array Value, Hid (atc a.att = C) := ⟨_, hid rfl⟩
  obtain ⟨GB, HGB⟩ : ∃ C : Array Value, Hid (atc b.att = C) := ⟨_, hid rfl⟩
  rw [HGA.out] at la heq
  rw [HGB.out] at lb heq
  have a4d : ∀ n, (w0.drewN n).cell? ⟨w.heap.size, 101, none⟩ = some (.slice AA a.sg.length ca) := fun n => hA.sigs hoa.att
  have b4d : ∀ n, (w0.drewN n).cell? ⟨w.heap.size + 1, 101, none⟩ = some (.slice AB b.sg.length cb) := fun n => hB.sigs hob.att
  have HOA := hid hoa.sg
  have HOB := hid hob.sg
  clear hA hB hoa hob HGA HGB
  obtain ⟨LA, HLA⟩ : ∃ n : Nat, Hid (a.sg.length = n) := ⟨_, hid rfl⟩
  obtain ⟨LB, HLB⟩ : ∃ n : Nat, Hid (b.sg.length = n) := ⟨_, hid rfl⟩
  have hlena := hta0.len
  have hlenb := htb0.len
  rw [HLA.out] at a4 a4d hta0 hlena
  rw [HLB.out] at b4 b4d htb0 hlenb
  unfold maxLen at hlena hlenb
  obtain ⟨aa, sa⟩ := a
  obtain ⟨ab, sb⟩ := b
  simp only at HQ HLA HLB hta0 htb0 HOA HOB
  cases q with
  | false =>
    obtain rfl : ans = false := by
      rw [← HAN.out]
      exact decide_eq_false (fun e => by injection e with e _; exact of_decide_eq_false HQ.out e)
    clear a4d b4d
    go_wp2_with fail
    go_ret
    exact ⟨rfl, hb0⟩
  | true =>
    by_cases e4 : LA = LB
    · subst e4
      have t4 : ((LA : Int) != (LA : Int)) = false := by simp
      obtain ⟨_, hca1, hca2, hra⟩ := hta0.at_
      obtain ⟨_, hcb1, hcb2, hrb⟩ := htb0.at_
      rw [HLA.out] at hca1
      rw [HLB.out] at hcb1
      unfold maxLen at hca2 hcb2
      have HRA := hid hra
      have HRB := hid hrb
      have HA4 := hid a4d
      have HB4 := hid b4d
      clear hra hrb hta0 htb0 a4d b4d
      go_wp2_with fail
      clear t4 heq la lb a4 b4
      go_loopw [5] (fun si wr => ∃ i : Nat, i ≤ LA ∧ si = .int .i64 i ∧ Hid (∀ j (h : j < sa.length) (h2 : j < sb.length), j < i → sa[j] = sb[j]) ∧ ∃ n, wr = w0.drewN n) (fun si _ => LA - (intOf si).toNat)
      case atStart => exact ⟨0, Nat.zero_le _, rfl, hid (fun j _ _ h => absurd h (by omega)), 0, rfl⟩
      case round =>
        obtain ⟨i, hi, rfl, HBB, n, rfl⟩ := hrel
        have a4d := HA4.out
        have b4d := HB4.out
        by_cases hlt : i < LA
        · have hil : i < sa.length := by rw [HLA.out]; exact hlt
          have him : i < sb.length := by rw [HLB.out]; exact hlt
          obtain ⟨ba, oa', rfl, hba, hcla⟩ := HRA.out (by omega)
          obtain ⟨bb, ob', rfl, hbb, hclb⟩ := HRB.out (by omega)
          have l1 : ∀ k, loadSg (.pointer (some ⟨ba, oa' + i * 33, none⟩)) (w0.drewN k) = .ok (.value (.agg (sgc sa[i]))) (w0.drewN k) := fun k => loadSg_mid (hcla i hil) (HOA.out _ (List.getElem_mem hil))
          have l2 : ∀ k, loadSg (.pointer (some ⟨bb, ob' + i * 33, none⟩)) (w0.drewN k) = .ok (.value (.agg (sgc sb[i]))) (w0.drewN k) := fun k => loadSg_mid (hclb i him) (HOB.out _ (List.getElem_mem him))
          have hI : (i : Int) < (LA : Int) := by omega
          have eqt : ∀ W, (Op.equalIn 10000 63 (.agg (sgc sa[i])) (.agg (sgc sb[i]))).run Tryd.prog W = .ok (decide (sa[i] = sb[i])) W := fun W => eq_sg _ _ (HOA.out _ (List.getElem_mem hil)) (HOB.out _ (List.getElem_mem him)) W
          clear hcla hclb
          obtain ⟨X, HX⟩ : ∃ C : Array Value, Hid (sgc sa[i] = C) := ⟨_, hid rfl⟩
          obtain ⟨Y, HY⟩ : ∃ C : Array Value, Hid (sgc sb[i] = C) := ⟨_, hid rfl⟩
          rw [HX.out] at l1 eqt
          rw [HY.out] at l2 eqt
          by_cases hxy : sa[i] = sb[i]
          · rw [decide_eq_true hxy] at eqt
            go_wp2_with fail
            go_quiet (fail)
            go_wp2
            go_roundw
            case rel =>
              refine ⟨i + 1, by omega, by go_num, hid (fun j h h2 hj => ?_), _, rfl⟩
              by_cases hji : j < i
              · exact HBB.out j h h2 hji
              · obtain rfl : j = i := by omega
                exact hxy
            case measure => simp [intOf]; omega
          · rw [decide_eq_false hxy] at eqt
            go_wp2_with fail
            go_quiet (fail)
            go_wp2
            go_ret
            have e : ans = false := by
              rw [← HAN.out]
              exact decide_eq_false (fun e => by injection e with _ e; subst e; exact hxy rfl)
            subst e
            exact ⟨rfl, below_drewN (below_drewN hb0 _) _⟩
        · obtain rfl : i = LA := by omega
          go_wp2
          go_ret
          have e : ans = true := by
            rw [← HAN.out]
            refine decide_eq_true ?_
            have hp : aa = ab := of_decide_eq_true HQ.out
            have ht : sa = sb := List.ext_getElem (by rw [HLA.out, HLB.out]) fun j h h2 => HBB.out j h h2 (by have := HLA.out; omega)
            rw [hp, ht]
          subst e
          exact ⟨rfl, below_drewN hb0 n⟩
    · have t4 : ((LA : Int) != (LB : Int)) = true := by simp; omega
      obtain rfl : ans = false := by
        rw [← HAN.out]
        exact decide_eq_false (fun e => by injection e with _ e; rw [e] at HLA; exact e4 (HLA.out.symm.trans HLB.out))
      clear e4 a4d b4d hta0 htb0
      go_wp2_with fail
      go_ret
      exact ⟨rfl, hb0⟩
end Go.Proofs.YtnancafpecfcjaaDoor

/-
  What the listed variables hold when the call begins: the constants.
-/
namespace Go.Proofs.YtnancafpecfcjaaDoor
set_option maxRecDepth 20000
open Go.ChangeShapes Go.WideShapes Go.ChangeAt Go.RowKit

def kz : List Int := kl.map wv
theorem laid_sha : (Rows.laid_tithing_sha_constants : DataW Unit) = Lib.tabData .u32 kz := by kernel_rfl
theorem kz_at {i : Nat} (h : i < 64) : kz.getD i 0 = wv (kc i) := by
  have hl : kl.length = 64 := rfl
  unfold kz kc
  simp [List.getD_eq_getElem?_getD, hl, h]
theorem gSha : Tryd.prog.globalNamed "tithing/sha.constants" = some 0 := by kernel_rfl
theorem tSha : (Tryd.prog.globals[0]?).map (·.type) = some 115 := by kernel_rfl
theorem gRef : Tryd.prog.globalNamed "tithing/tithingref02.constants" = some 1 := by kernel_rfl
theorem tRef : (Tryd.prog.globals[1]?).map (·.type) = some 115 := by kernel_rfl
theorem kst_of {name : String} {g : Nat} {W : World} {rest : List (String × DataW Unit)} (hg : Tryd.prog.globalNamed name = some g) (ht : (Tryd.prog.globals[g]?).map (·.type) = some 115)
    (h : laidMet Tryd.prog ((name, Lib.tabData .u32 kz) :: rest) W) : Kst g W := by
  have hT := Lib.tabIs_of_head hg ht Tryd.underlying115 Tryd.underlying104 (by kernel_rfl) (by kernel_rfl) h
  have hc : ∀ j, j < 64 → W.cell? ⟨g, j, none⟩ = some (.int .u32 (wv (kc j))) := fun j hj => by
    rw [hT.cell hg j (by simp [kz]; exact hj), kz_at hj]
  exact ⟨World.block_lt_of_cell? W _ (hc 0 (by omega)), hc⟩
theorem one_met {W : World} (h : laidMetH Tryd.prog [("tithing/sha.constants", Rows.laid_tithing_sha_constants)] W) : Kst 0 W := by
  rw [MakeChecks.laidMetH_plain _ _ _ (by kernel_rfl), laid_sha] at h
  exact kst_of gSha tSha h
theorem door_one (os : Os) (args : Array Value) : laidMetH Tryd.prog [("tithing/sha.constants", Rows.laid_tithing_sha_constants)] ((World.doorLaid Tryd.prog 400 os).forCall (fun _ _ => 0) ⟨#[], args, []⟩).memory :=
  laidMetH_of_parts3 (fuel := 8) (laidMet_of_run' 8 (by kernel_rfl) (by kernel_rfl)) (by kernel_rfl) (by kernel_rfl)
end Go.Proofs.YtnancafpecfcjaaDoor

/-
  Arrays that came in by value: what is known of their cells.
-/
namespace Go.Proofs.YtnancafpecfcjaaDoor
set_option maxRecDepth 20000
open Go.ChangeShapes Go.WideShapes Go.ChangeAt Go.RowKit

theorem laid_ref : (Rows.laid_tithing_tithingref02_constants : DataW Unit) = Lib.tabData .u32 kz := by kernel_rfl
theorem okWide_arr' {P : Program} {w : World} {r : Reach} {base : Nat} {v : Value} {t e : TypeId} {n : Nat} (ht : P.underlying t = some (.array n e)) (h : Value.okWide P w r base t v) : ∃ cs, v = .agg cs ∧ cs.size = P.cellsOf t := by
  cases v <;> simp [Value.okWide, ht] at h
  exact ⟨_, rfl, h.1⟩

theorem open_arr {H : Type} {enc : TypeId × Value → H} {w : World} {base : Nat} {spare : Nat → Bool} {held : Bool} {fuel : Nat} {t e : TypeId} {n : Nat} {k : IntKind} {cs : List Value} {x : DataW H × List MemPlace}
    (ht : Tryd.prog.underlying t = some (.array n e)) (he : Tryd.prog.underlying e = some (.int k)) (hce : Tryd.prog.cellsOf e = 1) (hct : Tryd.prog.cellsOf t = n)
    (h : DataW.trod enc Tryd.prog w base spare held fuel t cs = some x) : cs.length = n ∧ ∀ i, i < n → ∃ z, cs[i]? = some (.int k z) ∧ (Lit.int k z).wf = true := by
  obtain ⟨xs, m, _, _, hl, hn, hel⟩ := DataW.trod_array ht h
  rw [hct] at hl
  refine ⟨hl, fun i hi => ?_⟩
  have h1 := hel i hi
  rw [hce, Nat.mul_one, List.getElem?_eq_getElem (by omega : i < xs.length)] at h1
  obtain ⟨z, e1, e2, e3⟩ := DataW.trod_int he h1
  refine ⟨z, ?_, ?_⟩
  · have hi2 : i < cs.length := by omega
    have : (cs.drop i).take 1 = [cs[i]] := by
      rw [List.drop_eq_getElem_cons hi2]
      rfl
    rw [this] at e1
    rw [List.getElem?_eq_getElem hi2]
    injection e1 with e1 _
    rw [e1]
  · exact e3

def zof : Option Value → Nat
  | some (.int _ z) => z.toNat
  | _ => 0
theorem bytes_of {cs : List Value} {n : Nat} (hl : cs.length = n) (h : ∀ i, i < n → ∃ z, cs[i]? = some (.int .u8 z) ∧ (Lit.int .u8 z).wf = true) : ∃ f : Nat → UInt8, cs = (fcells n fun j => bcell (f j)).toList := by
  refine ⟨fun i => UInt8.ofNat (zof cs[i]?), ?_⟩
  apply List.ext_getElem?
  intro i
  rw [fcells_list]
  by_cases hi : i < n
  · obtain ⟨z, e, hw⟩ := h i hi
    have hr : 0 ≤ z ∧ z ≤ 255 := by simpa [Lit.wf, IntKind.min, IntKind.max, IntKind.signed, IntKind.bits] using hw
    rw [if_pos hi, e]
    have ez : zof cs[i]? = z.toNat := by rw [e]; rfl
    show some (Value.int .u8 z) = some (.int .u8 ((UInt8.ofNat (zof cs[i]?)).toNat : Int))
    rw [ez, UInt8.toNat_ofNat', show ((z.toNat % 2 ^ 8 : Nat) : Int) = z from by omega]
  · rw [if_neg hi, List.getElem?_eq_none (by omega)]
theorem words_of {cs : List Value} {n : Nat} (hl : cs.length = n) (h : ∀ i, i < n → ∃ z, cs[i]? = some (.int .u32 z) ∧ (Lit.int .u32 z).wf = true) : ∃ f : Nat → UInt32, cs = (fcells n fun j => wc (f j)).toList := by
  refine ⟨fun i => UInt32.ofNat (zof cs[i]?), ?_⟩
  apply List.ext_getElem?
  intro i
  rw [fcells_list]
  by_cases hi : i < n
  · obtain ⟨z, e, hw⟩ := h i hi
    have hr : 0 ≤ z ∧ z ≤ 4294967295 := by simpa [Lit.wf, IntKind.min, IntKind.max, IntKind.signed, IntKind.bits] using hw
    rw [if_pos hi, e]
    have ez : zof cs[i]? = z.toNat := by rw [e]; rfl
    show some (Value.int .u32 z) = some (.int .u32 (wv (UInt32.ofNat (zof cs[i]?))))
    rw [ez, wv_of _ (by omega), show ((z.toNat : Nat) : Int) = z from by omega]
  · rw [if_neg hi, List.getElem?_eq_none (by omega)]
theorem laid_tail {P : Program} {x : String × DataW Unit} {r : List (String × DataW Unit)} {w : World} (h : laidMet P (x :: r) w) : laidMet P r w := laidMet.tail h
theorem two_met {W : World} (h : laidMetH Tryd.prog [("tithing/sha.constants", Rows.laid_tithing_sha_constants), ("tithing/tithingref02.constants", Rows.laid_tithing_tithingref02_constants)] W) : Kst 0 W ∧ Kst 1 W := by
  rw [MakeChecks.laidMetH_plain _ _ _ (by kernel_rfl), laid_sha, laid_ref] at h
  exact ⟨kst_of gSha tSha h, kst_of gRef tRef (laid_tail h)⟩
theorem door_two (os : Os) (args : Array Value) : laidMetH Tryd.prog [("tithing/sha.constants", Rows.laid_tithing_sha_constants), ("tithing/tithingref02.constants", Rows.laid_tithing_tithingref02_constants)] ((World.doorLaid Tryd.prog 400 os).forCall (fun _ _ => 0) ⟨#[], args, []⟩).memory :=
  laidMetH_of_parts3 (fuel := 8) (laidMet_of_run' 8 (by kernel_rfl) (by kernel_rfl)) (by kernel_rfl) (by kernel_rfl)
end Go.Proofs.YtnancafpecfcjaaDoor
