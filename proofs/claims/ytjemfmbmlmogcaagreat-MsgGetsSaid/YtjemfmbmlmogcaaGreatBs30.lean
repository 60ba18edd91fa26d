/-
  MgCodeSame MgCodeCheck MgCodeOwn MgCodeGet MgCodePut: what each of them says stands at its head.
-/
import Derived.BigQuiet
import Derived.Deep.DeepCutAuto
import Derived.Deep.QuietTactic
import Derived.Deep.RegionHeld3
import Derived.Deep.RegionWith
import Derived.LaidMore
import Derived.Laws.IdiomCopy
import Derived.Lib.LaidTab
import Derived.LoopTactic
import Derived.MakeChecks
import Derived.OpenShut
import Derived.Outline
import Derived.StillTailTactics
import Derived.Stop.Joined
import Derived.Stop.LaidErr
import Derived.Test.YtjemfmbmlmogcaaGreatBs22
import Derived.Test.YtjemfmbmlmogcaaGreatBs23
import Derived.Test.YtjemfmbmlmogcaaGreatBs24
import Derived.Test.YtjemfmbmlmogcaaGreatBs2
import Derived.Test.YtjemfmbmlmogcaaGreatBs12
import Derived.Test.YtjemfmbmlmogcaaGreatBs13
import Derived.Test.YtjemfmbmlmogcaaGreatBs14
import Derived.Test.YtjemfmbmlmogcaaGreatBs6
import Derived.Test.YtjemfmbmlmogcaaGreatBs11
import Derived.Test.YtjemfmbmlmogcaaGreatBs10
import Derived.Test.YtjemfmbmlmogcaaGreatBs8
import Derived.Test.YtjemfmbmlmogcaaGreatBs7
import Derived.Test.YtjemfmbmlmogcaaGreatBs9
import Derived.Test.YtjemfmbmlmogcaaGreatBs18
import Derived.Test.YtjemfmbmlmogcaaGreatBs19
import Derived.Test.YtjemfmbmlmogcaaGreatBs20
import Derived.Test.YtjemfmbmlmogcaaGreatBs3
import Derived.Test.YtjemfmbmlmogcaaGreatBs25
import Derived.Test.YtjemfmbmlmogcaaGreatBs1
import Derived.Test.YtjemfmbmlmogcaaGreatBs5
import Derived.Test.YtjemfmbmlmogcaaGreatBs29
import Derived.Test.YtjemfmbmlmogcaaGreatBs27
import Derived.Test.YtjemfmbmlmogcaaGreatBs28
namespace Go.Proofs.YtjemfmbmlmogcaaGreat
set_option maxRecDepth 20000
open Go.RowKit
noncomputable def neAtt (u v : Value) (w : World) : Result Next := Sem.run Tryz.prog (execOp (fun x => match x with
  | .tmp 0 => u
  | _ => v) { dst := none, op := .binOp .neq 25 (.tmp 0) (.tmp 1) 25, type := 0, pos := "", after := #[], guard := none }) w
theorem exec_ne_att (r : Operand → Value) (i j : Tmp) (dst : Option Tmp) (ty : TypeId) (pos : String) (after : Array Edge) (guard : Option (Nat × Bool)) (w : World) :
    Sem.run Tryz.prog (execOp r { dst := dst, op := .binOp .neq 25 (.tmp i) (.tmp j) 25, type := ty, pos := pos, after := after, guard := guard }) w = neAtt (r (.tmp i)) (r (.tmp j)) w := rfl
theorem neAtt_eq {C D : Array Value} {q : Bool} (heq : ∀ W, (Op.equalIn 10000 25 (.agg C) (.agg D)).run Tryz.prog W = .ok q W) (w : World) : neAtt (.agg C) (.agg D) w = .ok (.value (.bool (!q))) w := by
  unfold neAtt
  go_simp
attribute [local go_sem ↓] exec_load_att exec_load_ct exec_load_ax exec_load_bk exec_load_tx exec_load_hash exec_ne_att
set_option maxHeartbeats 6400000 in
theorem mgSame_ok : MgSameOk := by
  intro va vb a b w hva hvb hla hlb
  obtain ⟨a1, a2, a3, rfl, hoa, ea1, ea2, ea3⟩ := hva
  obtain ⟨b1, b2, b3, rfl, hob, eb1, eb2, eb3⟩ := hvb
  have hb0 : Below w.heap.size w ((w.alloc (.cells (mgc a a1 a2 a3) 38)).alloc (.cells (mgc b b1 b2 b3) 38)) := ((Below.refl _ _).alloc (Nat.le_refl _) _).alloc (by simp) _
  have hA : BoxM ((w.alloc (.cells (mgc a a1 a2 a3) 38)).alloc (.cells (mgc b b1 b2 b3) 38)) w.heap.size a a1 a2 a3 := heap1 w _ _
  have hB : BoxM ((w.alloc (.cells (mgc a a1 a2 a3) 38)).alloc (.cells (mgc b b1 b2 b3) 38)) (w.heap.size + 1) b b1 b2 b3 := heap2 w _ _
  have HPW := hid (fun W (h : Below w.heap.size w W) => (show (CtV W (.agg (ctc a.cc a1)) a.cc ∧ CtV W (.agg (ctc b.cc b1)) b.cc) ∧ (AcV W (.agg (axc a.xx a2)) a.xx ∧ AcV W (.agg (axc b.xx b2)) b.xx) ∧ (BkV W (.agg (bkc a.kk a3)) a.kk ∧ BkV W (.agg (bkc b.kk b3)) b.kk) from
    ⟨⟨⟨_, rfl, hoa.cc, ea1.below h⟩, ⟨_, rfl, hob.cc, eb1.below h⟩⟩, ⟨⟨_, rfl, hoa.xx, ea2.below h⟩, ⟨_, rfl, hob.xx, eb2.below h⟩⟩, ⟨⟨_, rfl, hoa.kk, ea3.below h⟩, ⟨_, rfl, hob.kk, eb3.below h⟩⟩⟩))
  obtain ⟨ans, HAN⟩ : ∃ q : Bool, Hid (sameM a b = q) := ⟨_, hid rfl⟩
  have heq := fun W => eq_att a.aa b.aa hoa.aa hob.aa W
  have heh := fun W => eq_hash a.hh b.hh hoa.hh hob.hh W
  have het := fun W => eq_tx2 a.tt b.tt W
  have HS9 := hid (fun W (h : Below w.heap.size w W) => ctSame_ok _ _ a.cc b.cc W (HPW.out W h).1.1 (HPW.out W h).1.2 hla.sg hlb.sg)
  have HS10 := hid (fun W (h : Below w.heap.size w W) => acSame_ok _ _ a.xx b.xx W (HPW.out W h).2.1.1 (HPW.out W h).2.1.2 hla.fr hlb.fr)
  have HS7 := hid (fun W (h : Below w.heap.size w W) => bkSame_ok _ _ a.kk b.kk W (HPW.out W h).2.2.1 (HPW.out W h).2.2.2)
  obtain ⟨q3, HQ3⟩ : ∃ q : Bool, Hid (decide (a.aa = b.aa) = q) := ⟨_, hid rfl⟩
  obtain ⟨q4, HQ4⟩ : ∃ q : Bool, Hid (decide (a.cc = b.cc) = q) := ⟨_, hid rfl⟩
  obtain ⟨q5, HQ5⟩ : ∃ q : Bool, Hid (decide (a.xx = b.xx) = q) := ⟨_, hid rfl⟩
  obtain ⟨q6, HQ6⟩ : ∃ q : Bool, Hid (sameK a.kk b.kk = q) := ⟨_, hid rfl⟩
  obtain ⟨q7, HQ7⟩ : ∃ q : Bool, Hid (decide (a.hh = b.hh) = q) := ⟨_, hid rfl⟩
  obtain ⟨q8, HQ8⟩ : ∃ q : Bool, Hid (decide (a.tt = b.tt) = q) := ⟨_, hid rfl⟩
  have HANS : Hid (ans = (decide (a.ki = b.ki) && (decide (a.fr = b.fr) && (decide (a.tu = b.tu) && (q3 && (q4 && (q5 && (q6 && (q7 && q8))))))))) := hid (by
    rw [← HAN.out, ← HQ3.out, ← HQ4.out, ← HQ5.out, ← HQ6.out, ← HQ7.out, ← HQ8.out]
    rfl)
  rw [HAN.out]
  rw [HQ3.out] at heq
  rw [HQ7.out] at heh
  rw [HQ8.out] at het
  rw [HQ4.out] at HS9
  rw [HQ5.out] at HS10
  rw [HQ6.out] at HS7
  go_enter Tryz.func10, Tryz.ntmps10
  go_upto_region 1 with (fail)
  generalize ((w.alloc (.cells (mgc a a1 a2 a3) 38)).alloc (.cells (mgc b b1 b2 b3) 38)) = w0 at *
  have HP := hid (fun W (h : Below w0.heap.size w0 W) => (show PartsM W w.heap.size a a1 a2 a3 ∧ PartsM W (w.heap.size + 1) b b1 b2 b3 from ⟨(hA.keep h).parts hoa, (hB.keep h).parts hob⟩))
  clear hA hB hoa hob ea1 ea2 ea3 eb1 eb2 eb3 HPW hla hlb
  have HB0 := hid hb0
  clear hb0
  obtain ⟨A3, HA3⟩ : ∃ C : Array Value, Hid (atc a.aa = C) := ⟨_, hid rfl⟩
  obtain ⟨B3, HB3⟩ : ∃ C : Array Value, Hid (atc b.aa = C) := ⟨_, hid rfl⟩
  obtain ⟨A4, HA4⟩ : ∃ C : Array Value, Hid (ctc a.cc a1 = C) := ⟨_, hid rfl⟩
  obtain ⟨B4, HB4⟩ : ∃ C : Array Value, Hid (ctc b.cc b1 = C) := ⟨_, hid rfl⟩
  obtain ⟨A5, HA5⟩ : ∃ C : Array Value, Hid (axc a.xx a2 = C) := ⟨_, hid rfl⟩
  obtain ⟨B5, HB5⟩ : ∃ C : Array Value, Hid (axc b.xx b2 = C) := ⟨_, hid rfl⟩
  obtain ⟨A6, HA6⟩ : ∃ C : Array Value, Hid (bkc a.kk a3 = C) := ⟨_, hid rfl⟩
  obtain ⟨B6, HB6⟩ : ∃ C : Array Value, Hid (bkc b.kk b3 = C) := ⟨_, hid rfl⟩
  obtain ⟨A7, HA7⟩ : ∃ C : Array Value, Hid (hcells a.hh = C) := ⟨_, hid rfl⟩
  obtain ⟨B7, HB7⟩ : ∃ C : Array Value, Hid (hcells b.hh = C) := ⟨_, hid rfl⟩
  obtain ⟨A8, HA8⟩ : ∃ C : Array Value, Hid ((tcl a.tt).toArray = C) := ⟨_, hid rfl⟩
  obtain ⟨B8, HB8⟩ : ∃ C : Array Value, Hid ((tcl b.tt).toArray = C) := ⟨_, hid rfl⟩
  rw [HA3.out, HB3.out] at heq
  rw [HA4.out, HB4.out] at HS9
  rw [HA5.out, HB5.out] at HS10
  rw [HA6.out, HB6.out] at HS7
  rw [HA7.out, HB7.out] at heh
  rw [txv_tcl, txv_tcl, HA8.out, HB8.out] at het
  have HEQ := hid (fun W => neAtt_eq heq W)
  have HEH := hid heh
  have HET := hid het
  clear heq heh het
  obtain ⟨x0, HX0⟩ : ∃ n : Int, Hid (a.ki = n) := ⟨_, hid rfl⟩
  obtain ⟨y0, HY0⟩ : ∃ n : Int, Hid (b.ki = n) := ⟨_, hid rfl⟩
  obtain ⟨x1, HX1⟩ : ∃ n : Int, Hid (a.fr = n) := ⟨_, hid rfl⟩
  obtain ⟨y1, HY1⟩ : ∃ n : Int, Hid (b.fr = n) := ⟨_, hid rfl⟩
  obtain ⟨x2, HX2⟩ : ∃ n : Int, Hid (a.tu = n) := ⟨_, hid rfl⟩
  obtain ⟨y2, HY2⟩ : ∃ n : Int, Hid (b.tu = n) := ⟨_, hid rfl⟩
  rw [HX0.out, HX1.out, HX2.out, HY0.out, HY1.out, HY2.out] at HANS
  have aki := (HP.out w0 (Below.refl _ _)).1.ki
  have bki := (HP.out w0 (Below.refl _ _)).2.ki
  rw [HX0.out] at aki
  rw [HY0.out] at bki
  have afr := (HP.out w0 (Below.refl _ _)).1.fr
  have bfr := (HP.out w0 (Below.refl _ _)).2.fr
  rw [HX1.out] at afr
  rw [HY1.out] at bfr
  have atu := (HP.out w0 (Below.refl _ _)).1.tu
  have btu := (HP.out w0 (Below.refl _ _)).2.tu
  rw [HX2.out] at atu
  rw [HY2.out] at btu
  by_cases e0 : x0 = y0
  case neg =>
    have t : (x0 != y0) = true := by simpa using e0
    obtain rfl : ans = false := by rw [HANS.out, decide_eq_false e0]; simp
    clear e0
    go_wp2_with fail
    go_ret
    exact ⟨rfl, HB0.out⟩
  have t0 : (x0 != y0) = false := by simpa using e0
  have HE0 := hid e0
  clear e0
  by_cases e1 : x1 = y1
  case neg =>
    have t : (x1 != y1) = true := by simpa using e1
    obtain rfl : ans = false := by rw [HANS.out, decide_eq_false e1]; simp
    clear e1
    go_wp2_with fail
    go_ret
    exact ⟨rfl, HB0.out⟩
  have t1 : (x1 != y1) = false := by simpa using e1
  have HE1 := hid e1
  clear e1
  by_cases e2 : x2 = y2
  case neg =>
    have t : (x2 != y2) = true := by simpa using e2
    obtain rfl : ans = false := by rw [HANS.out, decide_eq_false e2]; simp
    clear e2
    go_wp2_with fail
    go_ret
    exact ⟨rfl, HB0.out⟩
  have t2 : (x2 != y2) = false := by simpa using e2
  have HE2 := hid e2
  clear e2
  have HANS2 : Hid (ans = (q3 && (q4 && (q5 && (q6 && (q7 && q8)))))) := hid (by rw [HANS.out, decide_eq_true HE0.out, decide_eq_true HE1.out, decide_eq_true HE2.out]; rfl)
  have la := (HP.out w0 (Below.refl _ _)).1.aa
  have lb := (HP.out w0 (Below.refl _ _)).2.aa
  rw [HA3.out] at la
  rw [HB3.out] at lb
  have le := HEQ.out w0
  cases q3 with
  | false =>
    obtain rfl : ans = false := by rw [HANS2.out]; simp
    go_wp2_with fail
    go_ret
    exact ⟨rfl, HB0.out⟩
  | true =>
    have lA7 := (HP.out w0 (Below.refl _ _)).1.hh
    have lB7 := (HP.out w0 (Below.refl _ _)).2.hh
    rw [HA7.out] at lA7
    rw [HB7.out] at lB7
    have heh := HEH.out
    cases q7 with
    | false =>
      obtain rfl : ans = false := by rw [HANS2.out]; simp
      go_wp2_with fail
      go_ret
      exact ⟨rfl, HB0.out⟩
    | true =>
      have lA8 := (HP.out w0 (Below.refl _ _)).1.tt
      have lB8 := (HP.out w0 (Below.refl _ _)).2.tt
      rw [txv_tcl, HA8.out] at lA8
      rw [txv_tcl, HB8.out] at lB8
      have het := HET.out
      cases q8 with
      | false =>
        obtain rfl : ans = false := by rw [HANS2.out]; simp
        go_wp2_with fail
        go_ret
        exact ⟨rfl, HB0.out⟩
      | true =>
        have lA4 := (HP.out w0 (Below.refl _ _)).1.cc
        have lB4 := (HP.out w0 (Below.refl _ _)).2.cc
        rw [HA4.out] at lA4
        rw [HB4.out] at lB4
        go_wp2_with fail
        refine (HS9.out w0 HB0.out).mono ?_
        rintro e w1 ⟨rfl, hb1⟩
        have HB1 := hid (HB0.out.trans (hb1.mono HB0.out.size))
        have HB10 := hid hb1
        clear hb1 la lb le lA4 lB4 lA7 lB7 lA8 lB8 heh het aki afr atu bki bfr btu t0 t1 t2
        cases q4 with
        | false =>
          obtain rfl : ans = false := by rw [HANS2.out]; simp
          go_wp2_with fail
          go_ret
          exact ⟨rfl, HB1.out⟩
        | true =>
          have lA5 := (HP.out w1 HB10.out).1.xx
          have lB5 := (HP.out w1 HB10.out).2.xx
          rw [HA5.out] at lA5
          rw [HB5.out] at lB5
          go_wp2_with fail
          refine (HS10.out w1 HB1.out).mono ?_
          rintro e w2 ⟨rfl, hb2⟩
          have HB2 := hid (HB1.out.trans (hb2.mono HB1.out.size))
          have HB20 := hid (HB10.out.trans (hb2.mono HB10.out.size))
          clear hb2 lA5 lB5
          cases q5 with
          | false =>
            obtain rfl : ans = false := by rw [HANS2.out]; simp
            go_wp2_with fail
            go_ret
            exact ⟨rfl, HB2.out⟩
          | true =>
            have lA6 := (HP.out w2 HB20.out).1.kk
            have lB6 := (HP.out w2 HB20.out).2.kk
            rw [HA6.out] at lA6
            rw [HB6.out] at lB6
            go_wp2_with fail
            refine (HS7.out w2 HB2.out).mono ?_
            rintro e w3 ⟨rfl, hb3⟩
            have HB3 := hid (HB2.out.trans (hb3.mono HB2.out.size))
            clear hb3 lA6 lB6
            obtain rfl : ans = q6 := by rw [HANS2.out]; simp
            go_wp2_with fail
            go_ret
            exact ⟨rfl, HB3.out⟩
end Go.Proofs.YtjemfmbmlmogcaaGreat
namespace Go.Proofs.YtjemfmbmlmogcaaGreat
set_option maxRecDepth 20000
open Go.RowKit
attribute [local go_sem ↓] exec_load_mg exec_load_pt exec_alloc_pt exec_store_pt exec_build_pt exec_eq_pt
theorem LimM.part {m : MgM} (h : LimM m) : LimM (partM m) := by
  have z1 : lightK bkZ := fun t ht => absurd ht (by simp [bkZ])
  have hb : LimM (bareM m) := ⟨by simp [bareM, mgZ, ctZ], by simp [bareM, mgZ, acZ], by simp [bareM, mgZ, bkZ], z1, by simp [bareM, mgZ, txZ]⟩
  unfold partM
  repeat' split
  · exact ⟨hb.sg, hb.fr, hb.txs, hb.kk, hb.tt⟩
  · exact ⟨hb.sg, h.fr, h.txs, h.kk, hb.tt⟩
  · exact ⟨h.sg, hb.fr, hb.txs, hb.kk, hb.tt⟩
  · exact ⟨hb.sg, hb.fr, hb.txs, hb.kk, hb.tt⟩
  · exact ⟨hb.sg, hb.fr, h.txs, h.kk, hb.tt⟩
  · exact ⟨hb.sg, hb.fr, hb.txs, hb.kk, h.tt⟩
  · exact ⟨hb.sg, h.fr, hb.txs, hb.kk, hb.tt⟩
  · exact hb
set_option maxHeartbeats 6400000 in
theorem mgCheck_ok : MgCheckOk := by
  intro v m w hv hlm
  obtain ⟨s1, s2, s3, rfl, ho, e1, e2, e3⟩ := hv
  have HO := hid ho
  have HE := hid (fun W (h : Below w.heap.size w W) => (show Els scl 33 W s1 m.cc.sg ∧ Els icl 1 W s2 m.xx.fr ∧ Txs W s3 m.kk.txs from ⟨e1.below h, e2.below h, e3.below h⟩))
  obtain ⟨CM, HCM⟩ : ∃ C : Array Value, Hid (mgc m s1 s2 s3 = C) := ⟨_, hid rfl⟩
  have HCS : Hid (CM.size = 349) := hid (by rw [← HCM.out]; exact mgc_size _ _ _ ho)
  have HBX : Hid (∀ W g, W.heap[g]? = some (.cells CM 38 (0, 0)) → BoxM W g m s1 s2 s3) := hid (fun W g h => by rw [← HCM.out] at h; exact h)
  rw [HCM.out]
  have HV : Hid (∀ W, Below w.heap.size w W → MgV W (.agg CM) m) := hid (fun W h => ⟨s1, s2, s3, by rw [HCM.out], ho, HE.out W h⟩)
  have h0 := heap_alloc_new w (.cells CM 38)
  have hb0 : Below w.heap.size w (w.alloc (.cells CM 38)) := (Below.refl _ _).alloc (Nat.le_refl _) _
  have HLM := hid hlm
  clear ho e1 e2 e3 hlm
  obtain ⟨er, HER⟩ : ∃ x : Int, Hid ((if mayM m = true then (0 : Int) else 1) = x) := ⟨_, hid rfl⟩
  rw [HER.out]
  have HNO : Hid (mayM m = false → er = 1) := hid (fun h => by rw [← HER.out, h]; rfl)
  obtain ⟨kn, HKN⟩ : ∃ n : Int, Hid (m.ki = n) := ⟨_, hid rfl⟩
  obtain ⟨fn, HFN⟩ : ∃ n : Int, Hid (m.fr = n) := ⟨_, hid rfl⟩
  obtain ⟨tn, HTN⟩ : ∃ n : Int, Hid (m.tu = n) := ⟨_, hid rfl⟩
  obtain ⟨Z, HZ⟩ : ∃ C : Array Value, Hid (ptZ = C) := ⟨_, hid rfl⟩
  obtain ⟨P, HPC⟩ : ∃ C : Array Value, Hid (ptc kn = C) := ⟨_, hid rfl⟩
  have hP6 : P.size = 6 := by rw [← HPC.out]; rfl
  have hP1 : P.all (·.oneCell') = true := by rw [← HPC.out]; exact pt_one _ _ _ _ _ _
  have HPO : Hid (∀ W, Calls Tryz.prog 20 #[.int .i64 kn] W fun e w' => e = .returned (.agg P) ∧ Below W.heap.size W w') := hid (fun W => by rw [← HPC.out]; exact parts11_any kn W)
  have HST : Hid (∀ W : World, storePt (.pointer (some ⟨W.heap.size, 0, none⟩)) (.agg P) (W.alloc (.cells Z 61)) = .ok .skip (W.alloc (.cells P 61))) := hid (fun W => pt_var W (by rw [← HZ.out]; rfl) hP6 hP1)
  have HAL : Hid (∀ W, allocPt W = .ok (.value (.pointer (some ⟨W.heap.size, 0, none⟩))) (W.alloc (.cells Z 61))) := hid (fun W => by rw [← HZ.out]; exact allocPt_eq W)
  have HBP : Hid (∀ W, buildPt W = .ok (.value (.agg Z)) W) := hid (fun W => by rw [← HZ.out]; exact buildPt_eq W)
  have HP6 := hid hP6
  clear hP6 hP1
  go_enter Tryz.func9, Tryz.ntmps9
  go_upto_region 1 with (fail)
  generalize (w.alloc (.cells CM 38)) = w0 at *
  have HB0 := hid hb0
  have HH0 := hid h0
  have a0 := (HBX.out w0 _ h0).ints.1
  rw [HKN.out] at a0
  clear h0 hb0
  go_wp2_with fail
  refine (HPO.out w0).mono ?_
  rintro e w1 ⟨rfl, hb1⟩
  have HB1 := hid (HB0.out.trans (hb1.mono HB0.out.size))
  have HH1 := hid ((hb1.block _ (lt_of_block HH0.out)).trans HH0.out)
  have hs1 := HST.out w1
  have hal1 := HAL.out w1
  clear a0 hb1
  go_upto_region 2 with (fail)
  have hr2 := heap_alloc_new w1 (.cells P 61)
  have hb2 : Below w1.heap.size w1 (w1.alloc (.cells P 61)) := (Below.refl _ _).alloc (Nat.le_refl _) _
  have hh2 := (hb2.block _ (lt_of_block HH1.out)).trans HH1.out
  obtain ⟨gp, HGP⟩ : ∃ k : Nat, Hid (w1.heap.size = k) := ⟨_, hid rfl⟩
  rw [HGP.out] at hr2 ⊢
  clear hs1 hal1
  generalize (w1.alloc (.cells P 61)) = w2 at *
  have HB2 := hid (HB1.out.trans (hb2.mono HB1.out.size))
  have HLD : Hid (∀ W, Below w2.heap.size w2 W → loadMg (.pointer (some ⟨w.heap.size, 0, none⟩)) W = .ok (.value (.agg CM)) W ∧ loadPt (.pointer (some ⟨gp, 0, none⟩)) W = .ok (.value (.agg P)) W) := hid (fun W h => ⟨loadMg_row ((h.block _ (lt_of_block hh2)).trans hh2) HCS.out, loadPt_row ((h.block _ (lt_of_block hr2)).trans hr2) HP6.out⟩)
  have HHM := hid hh2
  have HW : Hid (∀ W, Below w2.heap.size w2 W → Below w.heap.size w W) := hid (fun W h => HB2.out.trans (h.mono HB2.out.size))
  have lP := (HLD.out w2 (Below.refl _ _)).2
  have hbp := HBP.out w2
  clear hr2 hb2 hh2
  by_cases hk : kn < 1 ∨ 10 < kn
  case pos =>
    obtain rfl : er = 1 := HNO.out (by unfold mayM; rw [(kind_no (by rw [HKN.out]; exact hk)).1, Bool.false_and, Bool.and_false])
    have heq : ∀ W, eqPt (.agg P) (.agg Z) W = .ok (.value (.bool true)) W := fun W => by rw [← HPC.out, ptc_no hk, HZ.out, ← HZ.out]; exact eqPt_same W
    clear hk
    go_wp2_with fail
    go_ret
    exact ⟨rfl, HB2.out⟩
  have HKR : Hid (1 ≤ m.ki ∧ m.ki ≤ 10) := hid (by rw [HKN.out]; omega)
  have heq : ∀ W, eqPt (.agg P) (.agg Z) W = .ok (.value (.bool false)) W := fun W => by rw [← HPC.out, ← HZ.out]; exact eqPt_not (by omega) (by omega) W
  obtain ⟨_, a1, a2⟩ := (HBX.out w2 _ HHM.out).ints
  rw [HFN.out] at a1
  rw [HTN.out] at a2
  obtain ⟨q1, HQ1⟩ : ∃ q : Bool, Hid ((decide (1 ≤ fn) && decide (fn ≤ 21)) = q) := ⟨_, hid rfl⟩
  obtain ⟨q2, HQ2⟩ : ∃ q : Bool, Hid ((decide (1 ≤ tn) && decide (tn ≤ 21)) = q) := ⟨_, hid rfl⟩
  have HW1 : Hid (∀ W, Calls Tryz.prog 26 #[.int .i64 fn] W fun e w' => e = .returned (.bool q1) ∧ W = w') := hid (fun W => by have := mgWithin_any fn W; rw [HQ1.out] at this; exact this)
  have HW2 : Hid (∀ W, Calls Tryz.prog 26 #[.int .i64 tn] W fun e w' => e = .returned (.bool q2) ∧ W = w') := hid (fun W => by have := mgWithin_any tn W; rw [HQ2.out] at this; exact this)
  have HMN : Hid (¬ (1 ≤ fn ∧ fn ≤ 21 ∧ 1 ≤ tn ∧ tn ≤ 21 ∧ fn ≠ tn) → er = 1) := hid (fun h => HNO.out (by unfold mayM; rw [HFN.out, HTN.out, decide_eq_false h, Bool.false_and]))
  clear hk
  go_wp2_with fail
  refine (HW1.out w2).mono ?_
  rintro e _ ⟨rfl, rfl⟩
  clear lP hbp heq
  cases q1 with
  | false =>
    obtain rfl : er = 1 := HMN.out (fun h => by have := HQ1.out; rw [decide_eq_true h.1, decide_eq_true h.2.1] at this; cases this)
    go_wp2_with fail
    go_ret
    exact ⟨rfl, HB2.out⟩
  | true =>
    go_wp2_with fail
    refine (HW2.out w2).mono ?_
    rintro e _ ⟨rfl, rfl⟩
    cases q2 with
    | false =>
      obtain rfl : er = 1 := HMN.out (fun h => by have := HQ2.out; rw [decide_eq_true h.2.2.1, decide_eq_true h.2.2.2.1] at this; cases this)
      go_wp2_with fail
      go_ret
      exact ⟨rfl, HB2.out⟩
    | true =>
      by_cases hft : fn = tn
      case pos =>
        have t1 : (fn == tn) = true := by simpa using hft
        obtain rfl : er = 1 := HMN.out (fun h => h.2.2.2.2 hft)
        clear hft
        go_wp2_with fail
        go_ret
        exact ⟨rfl, HB2.out⟩
      have t1 : (fn == tn) = false := by simpa using hft
      have HNN : Hid (1 ≤ fn ∧ fn ≤ 21 ∧ 1 ≤ tn ∧ tn ≤ 21 ∧ fn ≠ tn) := hid (by
        have h1 := HQ1.out
        have h2 := HQ2.out
        simp only [Bool.and_eq_true, decide_eq_true_eq] at h1 h2
        exact ⟨h1.1, h1.2, h2.1, h2.2, hft⟩)
      obtain ⟨f, HF⟩ : ∃ q : Bool, Hid (kindM m = q) := ⟨_, hid rfl⟩
      obtain ⟨s, HS⟩ : ∃ q : Bool, Hid (sameM m (partM m) = q) := ⟨_, hid rfl⟩
      have HMM : Hid (mayM m = (f && s)) := hid (by unfold mayM; rw [HFN.out, HTN.out, decide_eq_true HNN.out, Bool.true_and, HF.out, ← part_clear, HS.out])
      have HCF : Hid (∀ W, Below w2.heap.size w2 W → Calls Tryz.prog 27 #[.agg CM, .agg P] W fun e w' => e = .returned (.bool f) ∧ Below W.heap.size W w') := hid (fun W h => by
        have := mgFits_any (.agg CM) m W (HV.out W (HW.out W h)) HLM.out HKR.out
        rw [HF.out, HKN.out, HPC.out] at this
        exact this)
      have HCB : Hid (∀ W, Below w2.heap.size w2 W → Calls Tryz.prog 28 #[.agg CM, .agg P] W fun e w' => ∃ x, e = .returned x ∧ MgV w' x (partM m) ∧ Below W.heap.size W w') := hid (fun W h => by
        have := mgBare_any (.agg CM) m W (HV.out W (HW.out W h)) HKR.out
        rw [HKN.out, HPC.out] at this
        exact this)
      have HCS2 : Hid (∀ W x, Below w2.heap.size w2 W → MgV W x (partM m) → Calls Tryz.prog 10 #[.agg CM, x] W fun e w' => e = .returned (.bool s) ∧ Below W.heap.size W w') := hid (fun W x h hx => by
        have := mgSame_ok (.agg CM) x m (partM m) W (HV.out W (HW.out W h)) hx HLM.out HLM.out.part
        rw [HS.out] at this
        exact this)
      have HKC : Hid (∀ b, (f && s) = b → er = if b = true then 0 else 1) := hid (fun b hb => by rw [← HER.out, HMM.out, hb])
      go_upto_region 4 with (fail)
      clear a1 a2 t1 hft
      have hbd : Below w2.heap.size w2 w2.drew := (Below.refl _ _).drew
      refine wp_region_held_drew (S := fun W => loadMg (.pointer (some ⟨w.heap.size, 0, none⟩)) W = .ok (.value (.agg CM)) W ∧ loadPt (.pointer (some ⟨gp, 0, none⟩)) W = .ok (.value (.agg P)) W) (by kernel_rfl) (HLD.out _ hbd) (fun hHeld => ?_)
      refine' tk (i := 0) (v := _) rfl (fun W hW => hW.1) ?_
      try simp only [lay]
      refine' tk (i := 1) (v := _) rfl (fun W hW => hW.2) ?_
      try simp only [lay]
      cases f with
      | false =>
        obtain rfl : er = 1 := HKC.out false rfl
        refine call_on (i := 2) rfl (by kernel_rfl) (by rfl) (fun K hK => ?_)
        go_simp
        refine (HCF.out _ hbd).mono ?_
        rintro e w3 ⟨rfl, hb3'⟩
        have hb3 := hbd.trans (hb3'.mono hbd.size)
        refine hK.out _ _ (HLD.out _ hb3) (fun hHeld => ?_)
        clear hK K
        try simp only [lay]
        refine' tk (i := 3) (v := _) rfl ?_ ?_
        rotate_left
        · (intro W hW; (try dsimp only at hW); go_simp; first | done | with_reducible rfl)
        try simp only [lay]
        refine' tk (i := 4) (v := _) rfl ?_ ?_
        rotate_left
        · (intro W hW; (try dsimp only at hW); go_simp; first | done | with_reducible rfl)
        try simp only [lay]
        refine tf (i := 5) rfl ?_
        try simp only [lay]
        refine tf (i := 6) rfl ?_
        try simp only [lay]
        refine tf (i := 7) rfl ?_
        try simp only [lay]
        refine tf (i := 8) rfl ?_
        try simp only [lay]
        refine tf (i := 9) rfl ?_
        try simp only [lay]
        refine tf (i := 10) rfl ?_
        try simp only [lay]
        refine' tk (i := 11) (v := _) rfl ?_ ?_
        rotate_left
        · (intro W hW; (try dsimp only at hW); go_simp; first | done | with_reducible rfl)
        try simp only [lay]
        refine wpAnyH_done (by kernel_rfl) ?_ _
        clear hHeld
        go_wp2_with fail
        go_ret
        exact ⟨rfl, HW.out _ hb3⟩
      | true =>
        refine call_on (i := 2) rfl (by kernel_rfl) (by rfl) (fun K hK => ?_)
        go_simp
        refine (HCF.out _ hbd).mono ?_
        rintro e w3 ⟨rfl, hb3'⟩
        have hb3 := hbd.trans (hb3'.mono hbd.size)
        refine hK.out _ _ (HLD.out _ hb3) (fun hHeld => ?_)
        clear hK K
        try simp only [lay]
        refine' tk (i := 3) (v := _) rfl ?_ ?_
        rotate_left
        · (intro W hW; (try dsimp only at hW); go_simp; first | done | with_reducible rfl)
        try simp only [lay]
        refine' tk (i := 4) (v := _) rfl ?_ ?_
        rotate_left
        · (intro W hW; (try dsimp only at hW); go_simp; first | done | with_reducible rfl)
        try simp only [lay]
        refine' tk (i := 5) (v := _) rfl (fun W hW => hW.1) ?_
        try simp only [lay]
        refine' tk (i := 6) (v := _) rfl (fun W hW => hW.1) ?_
        try simp only [lay]
        refine' tk (i := 7) (v := _) rfl (fun W hW => hW.2) ?_
        try simp only [lay]
        refine call_on (i := 8) rfl (by kernel_rfl) (by rfl) (fun K hK => ?_)
        go_simp
        refine (HCB.out _ hb3).mono ?_
        rintro e w4 ⟨x4, rfl, hx4, hb4'⟩
        have hb4 := hb3.trans (hb4'.mono hb3.size)
        refine hK.out _ _ (HLD.out _ hb4) (fun hHeld => ?_)
        clear hK K
        try simp only [lay]
        cases s with
        | false =>
          obtain rfl : er = 1 := HKC.out false rfl
          refine call_on (i := 9) rfl (by kernel_rfl) (by rfl) (fun K hK => ?_)
          go_simp
          refine (HCS2.out _ x4 hb4 hx4).mono ?_
          rintro e w5 ⟨rfl, hb5'⟩
          have hb5 := hb4.trans (hb5'.mono hb4.size)
          refine hK.out _ _ (HLD.out _ hb5) (fun hHeld => ?_)
          clear hK K
          try simp only [lay]
          refine' tk (i := 10) (v := _) rfl ?_ ?_
          rotate_left
          · (intro W hW; (try dsimp only at hW); go_simp; first | done | with_reducible rfl)
          try simp only [lay]
          refine' tk (i := 11) (v := _) rfl ?_ ?_
          rotate_left
          · (intro W hW; (try dsimp only at hW); go_simp; first | done | with_reducible rfl)
          try simp only [lay]
          refine wpAnyH_done (by kernel_rfl) ?_ _
          clear hHeld
          go_wp2_with fail
          go_ret
          exact ⟨rfl, HW.out _ hb5⟩
        | true =>
          obtain rfl : er = 0 := HKC.out true rfl
          refine call_on (i := 9) rfl (by kernel_rfl) (by rfl) (fun K hK => ?_)
          go_simp
          refine (HCS2.out _ x4 hb4 hx4).mono ?_
          rintro e w5 ⟨rfl, hb5'⟩
          have hb5 := hb4.trans (hb5'.mono hb4.size)
          refine hK.out _ _ (HLD.out _ hb5) (fun hHeld => ?_)
          clear hK K
          try simp only [lay]
          refine' tk (i := 10) (v := _) rfl ?_ ?_
          rotate_left
          · (intro W hW; (try dsimp only at hW); go_simp; first | done | with_reducible rfl)
          try simp only [lay]
          refine' tk (i := 11) (v := _) rfl ?_ ?_
          rotate_left
          · (intro W hW; (try dsimp only at hW); go_simp; first | done | with_reducible rfl)
          try simp only [lay]
          refine wpAnyH_done (by kernel_rfl) ?_ _
          clear hHeld
          go_wp2_with fail
          go_ret
          exact ⟨rfl, HW.out _ hb5⟩
end Go.Proofs.YtjemfmbmlmogcaaGreat
namespace Go.Proofs.YtjemfmbmlmogcaaGreat
set_option maxRecDepth 20000
open Go.RowKit
attribute [local go_sem ↓] exec_load_att exec_load_ct exec_load_ax exec_load_bk exec_load_tx exec_load_hash
theorem mayT_light {t : TxM} (h : mayT t = true) : lightT t := by
  obtain ⟨_, _, h⟩ := mayT_iff h
  have hk : ∀ l, keyOk l = true → l.length ≤ 16 := fun l hl => by
    unfold keyOk at hl
    simp only [Bool.and_eq_true, decide_eq_true_eq] at hl
    omega
  unfold lightT
  rcases h with ⟨_, _, _, h1, h2⟩ | ⟨_, _, _, h1, h2⟩ | ⟨_, _, _, h1, h2⟩
  · rw [h1, h2]; simp
  · have := hk _ h1; omega
  · have := hk _ h1; rw [h2]; simp; omega
set_option maxHeartbeats 6400000 in
theorem mgOwn_any (v vm : Value) (l : List UInt8) (m : MgM) (w : World) (hvb : Byt w v l) (hll : l.length ≤ 100000) (hv : MgV w vm m) (hlm : LimM m) (hm : mayM m = true) :
    Calls Tryz.prog 19 #[v, vm, .agg (ptc m.ki)] w fun e w' => ∃ x, e = .returned x ∧ Byt w' x (l ++ bodyM m) ∧ Below w.heap.size w w' := by
  obtain ⟨s1, s2, s3, rfl, ho, e1, e2, e3⟩ := hv
  have HO := hid ho
  have HE := hid (fun W (h : Below w.heap.size w W) => (show Els scl 33 W s1 m.cc.sg ∧ Els icl 1 W s2 m.xx.fr ∧ Txs W s3 m.kk.txs from ⟨e1.below h, e2.below h, e3.below h⟩))
  obtain ⟨CM, HCM⟩ : ∃ C : Array Value, Hid (mgc m s1 s2 s3 = C) := ⟨_, hid rfl⟩
  have HCS : Hid (CM.size = 349) := hid (by rw [← HCM.out]; exact mgc_size _ _ _ ho)
  have HBX : Hid (∀ W g, W.heap[g]? = some (.cells CM 38 (0, 0)) → BoxM W g m s1 s2 s3) := hid (fun W g h => by rw [← HCM.out] at h; exact h)
  rw [HCM.out]
  obtain ⟨_, hh⟩ := mayM_has hm
  obtain ⟨P, HPC⟩ : ∃ C : Array Value, Hid (ptc m.ki = C) := ⟨_, hid rfl⟩
  obtain ⟨O, HOO⟩ : ∃ x : List UInt8, Hid (l ++ bodyM m = x) := ⟨_, hid rfl⟩
  rw [HPC.out, HOO.out]
  have h0 : ((w.alloc (.cells CM 38)).alloc (.cells P 61)).heap[w.heap.size]? = some (.cells CM 38 (0, 0)) := heap1 w _ _
  have h1 : ((w.alloc (.cells CM 38)).alloc (.cells P 61)).heap[w.heap.size + 1]? = some (.cells P 61 (0, 0)) := heap2 w _ _
  have hb0 : Below w.heap.size w ((w.alloc (.cells CM 38)).alloc (.cells P 61)) := ((Below.refl _ _).alloc (Nat.le_refl _) _).alloc (by simp) _
  have hv0 := hvb.below hb0
  have HLM := hid hlm
  have HLL := hid hll
  have HHS := hid hh
  clear ho e1 e2 e3 hlm hll hm hh hvb
  go_enter Tryz.func19, Tryz.ntmps19
  go_upto_region 1 with (fail)
  generalize ((w.alloc (.cells CM 38)).alloc (.cells P 61)) = w0 at *
  have HB0 := hid hb0
  have hl0 := lt_of_block h0
  have hl1 := lt_of_block h1
  have HP : Hid (∀ W, Below w0.heap.size w0 W → PartsM W w.heap.size m s1 s2 s3) := hid (fun W h => (HBX.out W _ ((h.block _ hl0).trans h0)).parts HO.out)
  have HPR : Hid (∀ W, Below w0.heap.size w0 W → W.heap[w.heap.size + 1]? = some (.cells P 61 (0, 0))) := hid (fun W h => (h.block _ hl1).trans h1)
  have HBW : Hid (∀ W, Below w0.heap.size w0 W → Below w.heap.size w W) := hid (fun W h => HB0.out.trans (h.mono HB0.out.size))
  have HR0 := hid (Below.refl w0.heap.size w0)
  have HV0 := hid hv0
  clear h0 h1 hl0 hl1 hb0 hv0
  cases HHS.out with
  | aa h h1 h2 e =>
    have HKI : Hid (isA m.ki) := hid h
    have HOE : Hid (O = l ++ (bytesA m.aa)) := hid (by rw [← HOO.out]; unfold bodyM; rw [if_pos h])
    clear e
    obtain ⟨q, hq, hq0, hqk⟩ := pt_aa HKI.out
    have HQK := hid hqk
    obtain rfl : P = #[.int .i64 q, .int .i64 0, .bool false, .bool false, .bool false, .bool false] := HPC.out.symm.trans hq
    clear hq hqk
    obtain ⟨c0, c1, c2, c3, c4, c5⟩ := pt_cells (HPR.out _ HR0.out)
    have l1 := (HP.out w0 HR0.out).aa
    obtain ⟨G_aa, HG_aa⟩ : ∃ C : Array Value, Hid (atc m.aa = C) := ⟨_, hid rfl⟩
    rw [HG_aa.out] at l1
    have C := atPut_ok v l m.aa w0 HV0.out (by have := HLL.out; omega) HO.out.aa
    unfold putA at C
    rw [if_pos h1, HG_aa.out] at C
    rw [← HOE.out] at C
    have HC := hid C
    clear C h h1 h2
    go_wp2_with fail
    refine HC.out.mono ?_
    rintro e w1 ⟨x1, rfl, hx1, hb1'⟩
    have HB1 := hid (HR0.out.trans (hb1'.mono HR0.out.size))
    have HX1 := hid (hx1)
    clear c0 c1 c2 c3 c4 c5 l1 hb1' hx1
    obtain ⟨c0, c1, c2, c3, c4, c5⟩ := pt_cells (HPR.out _ HB1.out)
    go_wp2_with fail
    go_ret
    exact ⟨_, rfl, HX1.out, HBW.out _ HB1.out⟩
  | ka h h1 h2 h3 e =>
    have HKI : Hid (m.ki = 2) := hid h
    have HOE : Hid (O = l ++ (tx (bytesK m.kk) ++ bytesX m.xx)) := hid (by rw [← HOO.out]; unfold bodyM; rw [if_neg (by unfold isA; omega), if_neg (by unfold isC; omega), if_neg (by omega), if_neg (by omega), if_neg (by omega), if_pos h])
    clear e
    obtain rfl : P = #[.int .i64 0, .int .i64 0, .bool true, .bool true, .bool false, .bool false] := HPC.out.symm.trans (pt_ka HKI.out)
    obtain ⟨c0, c1, c2, c3, c4, c5⟩ := pt_cells (HPR.out _ HR0.out)
    have l1 := (HP.out w0 HR0.out).kk
    obtain ⟨G_kk, HG_kk⟩ : ∃ C : Array Value, Hid (bkc m.kk s3 = C) := ⟨_, hid rfl⟩
    rw [HG_kk.out] at l1
    have HLK : Hid ((bytesK m.kk).length ≤ 3000) := hid (bytesK_len HO.out.kk h1)
    have C := bkPut_ok (.agg (bkc m.kk s3)) m.kk w0 ⟨_, rfl, HO.out.kk, (HE.out w0 HB0.out).2.2⟩ HLM.out.kk
    rw [if_pos h1, if_pos h1, HG_kk.out] at C
    obtain ⟨D, HD⟩ : ∃ x : List UInt8, Hid (bytesK m.kk = x) := ⟨_, hid rfl⟩
    rw [HD.out] at C HLK HOE
    have HC := hid C
    have H3 := hid h3
    clear C h h1 h2 h3
    go_wp2_with fail
    refine HC.out.mono ?_
    rintro e w1 ⟨x1, rfl, hx1, hb1'⟩
    have HB1 := hid (HR0.out.trans (hb1'.mono HR0.out.size))
    have HT := hid (text_any v x1 l D w1 (HV0.out.below hb1') hx1 (by have := HLL.out; omega) (by have := HLK.out; omega))
    clear c0 c1 c2 c3 c4 c5 l1 hb1' hx1
    obtain ⟨c0, c1, c2, c3, c4, c5⟩ := pt_cells (HPR.out _ HB1.out)
    go_wp2_with fail
    refine HT.out.mono ?_
    rintro e w2 ⟨x2, rfl, hx2, hb2'⟩
    have HB2 := hid (HB1.out.trans (hb2'.mono HB1.out.size))
    have HX2 := hid hx2.byt
    clear c0 c1 c2 c3 c4 c5 hb2' hx2
    obtain ⟨c0, c1, c2, c3, c4, c5⟩ := pt_cells (HPR.out _ HB2.out)
    have l3 := (HP.out w2 HB2.out).xx
    obtain ⟨G_xx, HG_xx⟩ : ∃ C : Array Value, Hid (axc m.xx s2 = C) := ⟨_, hid rfl⟩
    rw [HG_xx.out] at l3
    have C := acPut_ok x2 (.agg (axc m.xx s2)) (l ++ tx D) m.xx w2 HX2.out (by rw [List.length_append, tx_len]; have := HLL.out; have := HLK.out; have := dg_len10 (n := D.length) (by omega); omega) ⟨_, rfl, HO.out.xx, (HE.out w2 (HBW.out _ HB2.out)).2.1⟩ HLM.out.fr
    unfold putX at C
    rw [if_pos H3.out, HG_xx.out, List.append_assoc] at C
    rw [← HOE.out] at C
    have HC2 := hid C
    clear C
    go_wp2_with fail
    refine HC2.out.mono ?_
    rintro e w3 ⟨x3, rfl, hx3, hb3'⟩
    have HB3 := hid (HB2.out.trans (hb3'.mono HB2.out.size))
    have HX3 := hid hx3
    clear c0 c1 c2 c3 c4 c5 l3 hb3' hx3
    obtain ⟨c0, c1, c2, c3, c4, c5⟩ := pt_cells (HPR.out _ HB3.out)
    go_wp2_with fail
    go_ret
    exact ⟨_, rfl, HX3.out, HBW.out _ HB3.out⟩
  | cc h h1 h2 e =>
    have HKI : Hid (isC m.ki) := hid h
    have HOE : Hid (O = l ++ (bytesC m.cc)) := hid (by rw [← HOO.out]; unfold bodyM; rw [if_neg (by unfold isC at h; unfold isA; omega), if_pos h])
    clear e
    obtain ⟨q, hq, hq0, hqk⟩ := pt_cc HKI.out
    have HQK := hid hqk
    obtain rfl : P = #[.int .i64 0, .int .i64 q, .bool false, .bool false, .bool false, .bool false] := HPC.out.symm.trans hq
    clear hq hqk
    obtain ⟨c0, c1, c2, c3, c4, c5⟩ := pt_cells (HPR.out _ HR0.out)
    have l1 := (HP.out w0 HR0.out).cc
    obtain ⟨G_cc, HG_cc⟩ : ∃ C : Array Value, Hid (ctc m.cc s1 = C) := ⟨_, hid rfl⟩
    rw [HG_cc.out] at l1
    have C := ctPut_ok v (.agg (ctc m.cc s1)) l m.cc w0 HV0.out (by have := HLL.out; omega) ⟨_, rfl, HO.out.cc, (HE.out w0 HB0.out).1⟩ HLM.out.sg
    unfold putC at C
    rw [if_pos h1, HG_cc.out] at C
    rw [← HOE.out] at C
    have HC := hid C
    clear C h h1 h2
    go_wp2_with fail
    refine HC.out.mono ?_
    rintro e w1 ⟨x1, rfl, hx1, hb1'⟩
    have HB1 := hid (HR0.out.trans (hb1'.mono HR0.out.size))
    have HX1 := hid (hx1)
    clear c0 c1 c2 c3 c4 c5 l1 hb1' hx1
    obtain ⟨c0, c1, c2, c3, c4, c5⟩ := pt_cells (HPR.out _ HB1.out)
    go_wp2_with fail
    go_ret
    exact ⟨_, rfl, HX1.out, HBW.out _ HB1.out⟩
  | hh h e =>
    have HKI : Hid (m.ki = 7) := hid h
    have HOE : Hid (O = l ++ (m.hh)) := hid (by rw [← HOO.out]; unfold bodyM; rw [if_neg (by unfold isA; omega), if_neg (by unfold isC; omega), if_pos h])
    clear e
    obtain rfl : P = #[.int .i64 0, .int .i64 0, .bool false, .bool false, .bool true, .bool false] := HPC.out.symm.trans (pt_hh HKI.out)
    obtain ⟨c0, c1, c2, c3, c4, c5⟩ := pt_cells (HPR.out _ HR0.out)
    have l1 := (HP.out w0 HR0.out).hh
    obtain ⟨G_hh, HG_hh⟩ : ∃ C : Array Value, Hid (hcells m.hh = C) := ⟨_, hid rfl⟩
    rw [HG_hh.out] at l1
    have C := hash_any v l m.hh w0 HV0.out (by have := HLL.out; omega) HO.out.hh
    rw [HG_hh.out] at C
    rw [← HOE.out] at C
    have HC := hid C
    clear C h
    go_wp2_with fail
    refine HC.out.mono ?_
    rintro e w1 ⟨x1, rfl, hx1, hb1'⟩
    have HB1 := hid (HR0.out.trans (hb1'.mono HR0.out.size))
    have HX1 := hid (hx1.byt)
    clear c0 c1 c2 c3 c4 c5 l1 hb1' hx1
    obtain ⟨c0, c1, c2, c3, c4, c5⟩ := pt_cells (HPR.out _ HB1.out)
    go_wp2_with fail
    go_ret
    exact ⟨_, rfl, HX1.out, HBW.out _ HB1.out⟩
  | kk h h1 h2 e =>
    have HKI : Hid (m.ki = 8) := hid h
    have HOE : Hid (O = l ++ (tx (bytesK m.kk))) := hid (by rw [← HOO.out]; unfold bodyM; rw [if_neg (by unfold isA; omega), if_neg (by unfold isC; omega), if_neg (by omega), if_neg (by omega), if_neg (by omega), if_neg (by omega), List.append_nil])
    clear e
    obtain rfl : P = #[.int .i64 0, .int .i64 0, .bool true, .bool false, .bool false, .bool false] := HPC.out.symm.trans (pt_kk HKI.out)
    obtain ⟨c0, c1, c2, c3, c4, c5⟩ := pt_cells (HPR.out _ HR0.out)
    have l1 := (HP.out w0 HR0.out).kk
    obtain ⟨G_kk, HG_kk⟩ : ∃ C : Array Value, Hid (bkc m.kk s3 = C) := ⟨_, hid rfl⟩
    rw [HG_kk.out] at l1
    have HLK : Hid ((bytesK m.kk).length ≤ 3000) := hid (bytesK_len HO.out.kk h1)
    have C := bkPut_ok (.agg (bkc m.kk s3)) m.kk w0 ⟨_, rfl, HO.out.kk, (HE.out w0 HB0.out).2.2⟩ HLM.out.kk
    rw [if_pos h1, if_pos h1, HG_kk.out] at C
    obtain ⟨D, HD⟩ : ∃ x : List UInt8, Hid (bytesK m.kk = x) := ⟨_, hid rfl⟩
    rw [HD.out] at C HLK HOE
    have HC := hid C
    clear C h h1 h2
    go_wp2_with fail
    refine HC.out.mono ?_
    rintro e w1 ⟨x1, rfl, hx1, hb1'⟩
    have HB1 := hid (HR0.out.trans (hb1'.mono HR0.out.size))
    have HT := hid (text_any v x1 l D w1 (HV0.out.below hb1') hx1 (by have := HLL.out; omega) (by have := HLK.out; omega))
    clear c0 c1 c2 c3 c4 c5 l1 hb1' hx1
    obtain ⟨c0, c1, c2, c3, c4, c5⟩ := pt_cells (HPR.out _ HB1.out)
    go_wp2_with fail
    refine HT.out.mono ?_
    rintro e w2 ⟨x2, rfl, hx2, hb2'⟩
    have HB2 := hid (HB1.out.trans (hb2'.mono HB1.out.size))
    have HX2 := hid hx2.byt
    clear c0 c1 c2 c3 c4 c5 hb2' hx2
    obtain ⟨c0, c1, c2, c3, c4, c5⟩ := pt_cells (HPR.out _ HB2.out)
    go_wp2_with fail
    go_ret
    exact ⟨_, rfl, by rw [HOE.out]; exact HX2.out, HBW.out _ HB2.out⟩
  | tt h h1 e =>
    have HKI : Hid (m.ki = 9) := hid h
    have HOE : Hid (O = l ++ (bytesT m.tt)) := hid (by rw [← HOO.out]; unfold bodyM; rw [if_neg (by unfold isA; omega), if_neg (by unfold isC; omega), if_neg (by omega), if_pos h])
    clear e
    obtain rfl : P = #[.int .i64 0, .int .i64 0, .bool false, .bool false, .bool false, .bool true] := HPC.out.symm.trans (pt_tt HKI.out)
    obtain ⟨c0, c1, c2, c3, c4, c5⟩ := pt_cells (HPR.out _ HR0.out)
    have l1 := (HP.out w0 HR0.out).tt
    rw [txv_tcl] at l1
    obtain ⟨G_tt, HG_tt⟩ : ∃ C : Array Value, Hid ((tcl m.tt).toArray = C) := ⟨_, hid rfl⟩
    rw [HG_tt.out] at l1
    have C := txPut_ok v l m.tt w0 HV0.out (by have := HLL.out; omega) (mayT_light h1)
    unfold putT at C
    rw [if_pos h1, txv_tcl, HG_tt.out] at C
    rw [← HOE.out] at C
    have HC := hid C
    clear C h h1
    go_wp2_with fail
    refine HC.out.mono ?_
    rintro e w1 ⟨x1, rfl, hx1, hb1'⟩
    have HB1 := hid (HR0.out.trans (hb1'.mono HR0.out.size))
    have HX1 := hid (hx1)
    clear c0 c1 c2 c3 c4 c5 l1 hb1' hx1
    obtain ⟨c0, c1, c2, c3, c4, c5⟩ := pt_cells (HPR.out _ HB1.out)
    go_wp2_with fail
    go_ret
    exact ⟨_, rfl, HX1.out, HBW.out _ HB1.out⟩
  | xx h h1 e =>
    have HKI : Hid (m.ki = 10) := hid h
    have HOE : Hid (O = l ++ (bytesX m.xx)) := hid (by rw [← HOO.out]; unfold bodyM; rw [if_neg (by unfold isA; omega), if_neg (by unfold isC; omega), if_neg (by omega), if_neg (by omega), if_pos h])
    clear e
    obtain rfl : P = #[.int .i64 0, .int .i64 0, .bool false, .bool true, .bool false, .bool false] := HPC.out.symm.trans (pt_xx HKI.out)
    obtain ⟨c0, c1, c2, c3, c4, c5⟩ := pt_cells (HPR.out _ HR0.out)
    have l1 := (HP.out w0 HR0.out).xx
    obtain ⟨G_xx, HG_xx⟩ : ∃ C : Array Value, Hid (axc m.xx s2 = C) := ⟨_, hid rfl⟩
    rw [HG_xx.out] at l1
    have C := acPut_ok v (.agg (axc m.xx s2)) l m.xx w0 HV0.out (by have := HLL.out; omega) ⟨_, rfl, HO.out.xx, (HE.out w0 HB0.out).2.1⟩ HLM.out.fr
    unfold putX at C
    rw [if_pos h1, HG_xx.out] at C
    rw [← HOE.out] at C
    have HC := hid C
    clear C h h1
    go_wp2_with fail
    refine HC.out.mono ?_
    rintro e w1 ⟨x1, rfl, hx1, hb1'⟩
    have HB1 := hid (HR0.out.trans (hb1'.mono HR0.out.size))
    have HX1 := hid (hx1)
    clear c0 c1 c2 c3 c4 c5 l1 hb1' hx1
    obtain ⟨c0, c1, c2, c3, c4, c5⟩ := pt_cells (HPR.out _ HB1.out)
    go_wp2_with fail
    go_ret
    exact ⟨_, rfl, HX1.out, HBW.out _ HB1.out⟩
end Go.Proofs.YtjemfmbmlmogcaaGreat
namespace Go.Proofs.YtjemfmbmlmogcaaGreat
set_option maxRecDepth 20000
open Go.RowKit
attribute [local go_sem ↓] exec_load_mg exec_alloc_mg exec_store_mg exec_build_mg
theorem results_mb2 {fn : Func} {q s : Tmp} (h : fn.results = #[.cell q 38, .tmp s]) (tmps : Array Value) (w : World) (g2 : Nat) (t2 : TypeId) (ys : Array Value) (v : Value)
    (hq : tmps.getD q undef = .pointer (some ⟨g2, 0, none⟩)) (hv : tmps.getD s undef = v) (h2 : w.heap[g2]? = some (.cells ys t2 (0, 0))) (hy : ys.size = 349) :
    (results fn tmps).run Tryz.prog w = .ok (.tuple #[.agg ys, v]) w := by
  have hq' : tmps[q]?.getD undef = .pointer (some ⟨g2, 0, none⟩) := by simpa using hq
  have hv' : tmps[s]?.getD undef = v := by simpa using hv
  have r2 := run_loadVar_row (P := Tryz.prog) w g2 t2 38 ys (0, 0) _ h2 under_mg rfl (by rw [size_mg, hy])
  simp [results, h, hq', hv', asAddr, r2]
theorem ctOf_sg (l : List UInt8) (p : Nat) (r : Bool) : (ctOf l p r).sg.length ≤ 1000 := by
  unfold ctOf
  split
  · unfold rawC
    simp only
    rw [rdSigs_len]
    exact Nat.le_trans (rdUpto_le (m := 21)) (by omega)
  · exact Nat.zero_le _
theorem acOf_fr (l : List UInt8) (p : Nat) (r : Bool) : (acOf l p r).fr.length ≤ 1000 := by
  unfold acOf
  split
  · unfold rawX
    simp only
    rw [rdFrs_len]
    exact Nat.le_trans (rdUpto_le (m := 21)) (by omega)
  · exact Nat.zero_le _
theorem gotK_lim (t : List UInt8) : (gotK t).txs.length ≤ 1000 ∧ lightK (gotK t) := by
  have hm : mayK (gotK t) = true := by
    unfold gotK
    cases h : getK t with
    | none => exact mayK_first
    | some b => exact (getK_so h).1
  have ha := mayK_all hm
  refine ⟨by have := ha.2.2.2.2.2.2.2; omega, fun x hx => ?_⟩
  have := mayT_light (ha.1 x hx)
  unfold lightT at this
  exact ⟨by omega, by omega⟩
theorem rdTx_lim (l : List UInt8) (p : Nat) (r : Bool) : (rdTx l p r).key.length ≤ 1000000 ∧ (rdTx l p r).val.length ≤ 1000000 := by
  unfold rdTx
  split
  · rename_i h
    unfold rdIs at h
    rw [Bool.and_eq_true] at h
    have := mayT_light h.2
    unfold lightT at this
    exact ⟨by omega, by omega⟩
  · exact ⟨by decide, by decide⟩
theorem rawM_lim (l : List UInt8) : LimM (rawM l) := by
  have hz : LimM (headM l).1 := ⟨by show ctZ.sg.length ≤ 1000; decide, by show acZ.fr.length ≤ 1000; decide, by show bkZ.txs.length ≤ 1000; decide, fun t ht => absurd (show t ∈ bkZ.txs from ht) (by simp [bkZ]), by show txZ.key.length ≤ 1000000 ∧ txZ.val.length ≤ 1000000; decide⟩
  unfold rawM restM
  repeat' split
  · exact ⟨hz.sg, hz.fr, hz.txs, hz.kk, hz.tt⟩
  · exact ⟨ctOf_sg _ _ _, hz.fr, hz.txs, hz.kk, hz.tt⟩
  · exact ⟨hz.sg, hz.fr, hz.txs, hz.kk, hz.tt⟩
  · exact ⟨hz.sg, hz.fr, hz.txs, hz.kk, rdTx_lim _ _ _⟩
  · exact ⟨hz.sg, acOf_fr _ _ _, hz.txs, hz.kk, hz.tt⟩
  · exact ⟨hz.sg, acOf_fr _ _ _, (gotK_lim _).1, (gotK_lim _).2, hz.tt⟩
  · exact ⟨hz.sg, hz.fr, (gotK_lim _).1, (gotK_lim _).2, hz.tt⟩
  · exact hz
set_option maxHeartbeats 6400000 in
theorem mgGet_ok : MgGetOk := by
  intro v l w hv hl
  have HRD := hid (fun g W (h : Rdr W g l 0 true) => mgRead_any g l W h hl)
  have HDN := hid (fun g p r W (h : Rdr W g l p r) => done_any g l p r W h (by omega))
  have HRE := hid (fun W (h : Byt W v l) => read_any v l W h (by omega))
  obtain ⟨er, HER⟩ : ∃ n : Int, Hid ((if mgIs l = true then (0 : Int) else 2) = n) := ⟨_, hid rfl⟩
  rw [HER.out]
  obtain ⟨Z, HZ⟩ : ∃ C : Array Value, Hid (mgc mgZ (.slice none 0 0) (.slice none 0 0) (.slice none 0 0) = C) := ⟨_, hid rfl⟩
  have HSZ : Hid (Z.size = 349) := hid (by rw [← HZ.out]; exact mgc_size _ _ _ mgZ_ok)
  have HZ1 : Hid (Z.all (·.oneCell') = true) := hid (by rw [← HZ.out]; exact mgc_one (w := w) (m := mgZ) (Els.nil w) (Els.nil w) (Txs.nil w))
  have HAL : Hid (∀ W, allocMg W = .ok (.value (.pointer (some ⟨W.heap.size, 0, none⟩))) (W.alloc (.cells Z 38))) := hid (fun W => by rw [← HZ.out]; exact allocMg_eq W)
  have HBM : Hid (∀ W, buildMg W = .ok (.value (.agg Z)) W) := hid (fun W => by rw [← HZ.out]; exact buildMg_eq W)
  have h0 := heap_alloc_new w (.cells Z 38)
  have hb0 : Below w.heap.size w (w.alloc (.cells Z 38)) := (Below.refl _ _).alloc (Nat.le_refl _) _
  have hv0 := hv.below hb0
  have hal := HAL.out w
  have HNO : Hid (mgIs l = false → ∀ W : World, W.heap[w.heap.size]? = some (.cells Z 38 (0, 0)) → er = 2 ∧ storeMg (.pointer (some ⟨w.heap.size, 0, none⟩)) (.agg Z) W = .ok .skip W ∧ MgV W (.agg Z) (mgOf l)) := hid (fun hn W hg => by
    refine ⟨by rw [← HER.out, hn]; rfl, by rw [storeMg_eq hg HSZ.out HSZ.out HZ1.out, setMg_self hg], ?_⟩
    unfold mgOf
    rw [hn, if_neg (by decide)]
    exact ⟨_, _, _, by rw [HZ.out], mgZ_ok, Els.nil _, Els.nil _, Txs.nil _⟩)
  clear hv hl
  go_enter Tryz.func12, Tryz.ntmps12
  go_upto_region 1 with (fail)
  generalize (w.alloc (.cells Z 38)) = w0 at *
  clear hal
  have HL0 := hid (lt_of_block h0)
  have HC := hid (HRE.out w0 hv0)
  clear hv0
  go_wp2_with fail
  refine HC.out.mono ?_
  rintro e w1 ⟨g, rfl, hgl, hrd, hb1⟩
  have HG := hid hgl
  have HB1 := hid (hb0.trans (hb1.mono hb0.size))
  have HH1 := hid ((hb1.block _ HL0.out).trans h0)
  have HSZ1 := hid (show w0.heap.size ≤ w1.heap.size from hb1.size)
  have HC2 := hid (HRD.out g w1 hrd)
  clear hgl hb1 h0 hrd hb0
  go_wp2_with fail
  refine HC2.out.mono ?_
  rintro e w2 ⟨x, rfl, ⟨t1, t2, t3, rfl, ho2, how2⟩, ⟨q, s, hrd2, hend⟩, hgr2⟩
  have HB2 : Hid (Below w.heap.size w w2) := hid (HB1.out.grown hgr2 HB1.out.size (fun k hk => by injection hk with hk; have := HG.out; have := HL0.out; omega))
  have HH2 := hid ((hgr2.block _ (lt_of_block HH1.out) (fun e => by injection e with e; have := HG.out; have := HL0.out; omega)).trans HH1.out)
  obtain ⟨d, HDD⟩ : ∃ d : Bool, Hid ((s && decide (q = l.length)) = d) := ⟨_, hid rfl⟩
  obtain ⟨b, HM⟩ : ∃ b : Bool, Hid (mayM (rawM l) = b) := ⟨_, hid rfl⟩
  have HIS : Hid (mgIs l = (d && b)) := hid (by rw [mgIs_end hend, HDD.out, HM.out])
  obtain ⟨m, HRM⟩ : ∃ m : MgM, Hid (rawM l = m) := ⟨_, hid rfl⟩
  have hlim := rawM_lim l
  rw [HRM.out] at ho2 how2 HM hlim ⊢
  obtain ⟨l1, l2, l3⟩ := how2.els ho2
  obtain ⟨X, HX⟩ : ∃ C : Array Value, Hid (mgc m t1 t2 t3 = C) := ⟨_, hid rfl⟩
  have HXS : Hid (X.size = 349 ∧ X.all (·.oneCell') = true) := hid (by rw [← HX.out]; exact ⟨mgc_size _ _ _ ho2, mgc_one l1 l2 l3⟩)
  have HXV : Hid (∀ W, Below w2.heap.size w2 W → MgV W (.agg X) m) := hid (fun W h => ⟨t1, t2, t3, by rw [HX.out], ho2, l1.below h, l2.below h, l3.below h⟩)
  have HXF : Hid (∀ W, Below w2.heap.size w2 W → MgV (setMg W w.heap.size X) (.agg X) m) := hid (fun W h => by
    have hg := setMg_grown2 W w.heap.size X
    have := (OwnM.mk (how2.h1.below h) (how2.h2.below h) (how2.h3.below h) (fun h0 => (how2.h4 h0).below h)).far hg (by have := HSZ1.out; have := HL0.out; omega)
    obtain ⟨i1, i2, i3⟩ := this.els ho2
    exact ⟨t1, t2, t3, by rw [HX.out], ho2, i1, i2, i3⟩)
  rw [HX.out]
  have hst := mg_var w2 HSZ.out HXS.out.1 HXS.out.2
  have hal := HAL.out w2
  have hr3 := heap_alloc_new w2 (.cells X 38)
  have hb3 : Below w2.heap.size w2 (w2.alloc (.cells X 38)) := (Below.refl _ _).alloc (Nat.le_refl _) _
  have hrd3 := hrd2.below hb3
  have HLIM := hid hlim
  clear ho2 how2 l1 l2 l3 hend hgr2 hrd2 hlim
  go_upto_region 3 with (fail)
  obtain ⟨gx, HGX⟩ : ∃ k : Nat, Hid (w2.heap.size = k) := ⟨_, hid rfl⟩
  have hh3 := (hb3.block _ (lt_of_block HH2.out)).trans HH2.out
  rw [HGX.out] at hr3 ⊢
  clear hst hal
  generalize (w2.alloc (.cells X 38)) = w3 at *
  have HB3 := hid hb3
  have HBW3 := hid (HB2.out.trans (hb3.mono HB2.out.size))
  have HH3 := hid hh3
  have HR3 := hid hr3
  have HLD : Hid (∀ W, Below w3.heap.size w3 W → loadMg (.pointer (some ⟨gx, 0, none⟩)) W = .ok (.value (.agg X)) W) := hid (fun W h => loadMg_row ((h.block _ (lt_of_block HR3.out)).trans HR3.out) HXS.out.1)
  have C := HDN.out g q s w3 hrd3
  rw [HDD.out] at C
  have HC3 := hid C
  clear C hrd3 hb3 hh3 hr3
  go_wp2_with fail
  refine HC3.out.mono ?_
  rintro e w4 ⟨rfl, k4, rfl⟩
  have HB4 := hid (below_drewN (Below.refl w3.heap.size w3) k4)
  generalize w3.drewN k4 = w4 at *
  have HBW4 := hid (HBW3.out.trans (HB4.out.mono HBW3.out.size))
  have HH4 := hid ((HB4.out.block _ (lt_of_block HH3.out)).trans HH3.out)
  cases d with
  | false =>
    obtain ⟨rfl, hs, hv⟩ := HNO.out HIS.out w4 HH4.out
    have hbz := HBM.out w4
    have HBV := hid hv
    clear hv
    go_wp2_with fail
    refine bodyPost_ret (results_mb2 rfl _ _ _ _ _ _ rfl rfl HH4.out HSZ.out) rfl ?_
    exact ⟨_, rfl, HBV.out, HBW4.out⟩
  | true =>
    have l4 := HLD.out w4 HB4.out
    have C := mgCheck_ok (.agg X) m w4 (HXV.out w4 (HB3.out.trans (HB4.out.mono HB3.out.size))) HLIM.out
    rw [HM.out] at C
    obtain ⟨ec, HEC⟩ : ∃ n : Int, Hid ((if b = true then (0 : Int) else 1) = n) := ⟨_, hid rfl⟩
    rw [HEC.out] at C
    have HC4 := hid C
    clear C
    go_wp2_with fail
    refine HC4.out.mono ?_
    rintro e w5 ⟨rfl, hb5⟩
    have HB5 := hid (HB4.out.trans (hb5.mono HB4.out.size))
    have HBW5 := hid (HBW4.out.trans (hb5.mono HBW4.out.size))
    have HH5 := hid ((hb5.block _ (lt_of_block HH4.out)).trans HH4.out)
    clear l4 hb5
    cases b with
    | false =>
      obtain rfl : ec = 1 := HEC.out.symm
      obtain ⟨rfl, hs, hv⟩ := HNO.out HIS.out w5 HH5.out
      have hbz := HBM.out w5
      have HBV := hid hv
      clear hv
      go_wp2_with fail
      refine bodyPost_ret (results_mb2 rfl _ _ _ _ _ _ rfl rfl HH5.out HSZ.out) rfl ?_
      exact ⟨_, rfl, HBV.out, HBW5.out⟩
    | true =>
      obtain rfl : ec = 0 := HEC.out.symm
      have HIT : Hid (mgIs l = true) := HIS
      obtain rfl : er = 0 := by rw [← HER.out, HIT.out, if_pos rfl]
      have l5 := HLD.out w5 HB5.out
      have hs := storeMg_eq (C := X) HH5.out HSZ.out HXS.out.1 HXS.out.2
      have HF := hid (setMg_same (C := X) HH5.out)
      have HBF := hid (setMg_below (C := X) HBW5.out (Nat.le_refl _))
      go_wp2_with fail
      refine bodyPost_ret (results_mb2 rfl _ _ _ _ _ _ rfl rfl HF.out HXS.out.1) rfl ?_
      refine ⟨_, rfl, ?_, HBF.out⟩
      unfold mgOf
      rw [HIT.out, if_pos rfl, HRM.out]
      exact HXF.out w5 (HB3.out.trans (HB5.out.mono HB3.out.size))
end Go.Proofs.YtjemfmbmlmogcaaGreat
namespace Go.Proofs.YtjemfmbmlmogcaaGreat
set_option maxRecDepth 20000
open Go.RowKit
attribute [local go_sem ↓] exec_load_mg
def preM (m : MgM) (i : Nat) : List UInt8 := (([m.ki, m.fr, m.tu].take i).map fun n => dg n.toNat).flatten
def numM (m : MgM) (i : Nat) : Int := [m.ki, m.fr, m.tu].getD i 0
theorem preM_more (m : MgM) (i : Nat) (h : i < 3) : preM m (i + 1) = preM m i ++ dg (numM m i).toNat := by
  unfold preM numM
  have : i = 0 ∨ i = 1 ∨ i = 2 := by omega
  rcases this with rfl | rfl | rfl <;> simp
theorem numM_le (m : MgM) (i : Nat) (h : 0 ≤ m.ki ∧ m.ki ≤ 21 ∧ 0 ≤ m.fr ∧ m.fr ≤ 21 ∧ 0 ≤ m.tu ∧ m.tu ≤ 21) : 0 ≤ numM m i ∧ numM m i ≤ 21 := by
  unfold numM
  match i with
  | 0 => simpa using ⟨h.1, h.2.1⟩
  | 1 => simpa using ⟨h.2.2.1, h.2.2.2.1⟩
  | 2 => simpa using ⟨h.2.2.2.2.1, h.2.2.2.2.2⟩
  | n + 3 => simp
theorem arr3 : ArrT 56 3 3 (.int .i64 0) := ⟨by kernel_rfl, by kernel_rfl, by kernel_rfl, by kernel_rfl, by kernel_rfl, by kernel_rfl, rfl⟩
theorem wpList_build_three {ops : Array Oper} {rest : List Oper} {o : Oper} {a : Act} {w : World} {Q : Exit → Act → World → Prop} (hgd : o.guard = none) {x0 x1 x2 : Operand} (ho : o.op = .build 56 #[(0, x0), (1, x1), (2, x2)])
    (v0 v1 v2 : Int) (h0 : a.eval x0 = .int .i64 v0) (h1 : a.eval x1 = .int .i64 v1) (h2 : a.eval x2 = .int .i64 v2)
    (h : wpList Tryz.prog ops Q rest (a.put o.dst (.agg #[.int .i64 v0, .int .i64 v1, .int .i64 v2])) w) : wpList Tryz.prog ops Q (o :: rest) a w :=
  wpList_plain hgd fun _ hK => by
    have e : (Instr.build 56 #[(0, .int .i64 v0), (1, .int .i64 v1), (2, .int .i64 v2)]).run Tryz.prog w = .ok (.agg #[.int .i64 v0, .int .i64 v1, .int .i64 v2]) w := by
      have e2 : fcells 3 (fun _ => (.int .i64 0 : Value)) = #[.int .i64 0, .int .i64 0, .int .i64 0] := by kernel_rfl
      simp [Instr.build, Sem.run_bind, arr3.run_zero, run_underlying arr3.under, arr3.run_esize, Instr.fill, Value.cells, e2]
    unfold Oper.wp execOp
    simp only [ho, Sem.run_bind, List.map_toArray, List.map_cons, List.map_nil, h0, h1, h2, e, Sem.run_pure, Result.andThen_ok]
    exact hK _ _ h
theorem three_index (a b c : Int) (i : Nat) (hi : i < 3) (w : World) : (Instr.index 56 (.agg #[.int .i64 a, .int .i64 b, .int .i64 c]) (.int .i64 (i : Int))).run Tryz.prog w = .ok (.int .i64 ([a, b, c].getD i 0)) w := by
  have e2 : (#[.int .i64 a, .int .i64 b, .int .i64 c] : Array Value) = fcells 3 (fun j => .int .i64 ([a, b, c].getD j 0)) := rfl
  rw [e2, arr3.run_index _ hi]
theorem preM_len (m : MgM) (i : Nat) (h : 0 ≤ m.ki ∧ m.ki ≤ 21 ∧ 0 ≤ m.fr ∧ m.fr ≤ 21 ∧ 0 ≤ m.tu ∧ m.tu ≤ 21) : (preM m i).length ≤ 100 := by
  have e1 := dg_len10 (n := m.ki.toNat) (by omega)
  have e2 := dg_len10 (n := m.fr.toNat) (by omega)
  have e3 := dg_len10 (n := m.tu.toNat) (by omega)
  unfold preM
  match i with
  | 0 => simp
  | 1 => simp; omega
  | 2 => simp; omega
  | n + 3 => simp; omega
set_option maxHeartbeats 6400000 in
theorem mgPut_ok : MgPutOk := by
  intro v m w hv hlm
  obtain ⟨s1, s2, s3, rfl, ho, e1, e2, e3⟩ := hv
  have HO := hid ho
  have HE := hid (fun W (h : Below w.heap.size w W) => (show Els scl 33 W s1 m.cc.sg ∧ Els icl 1 W s2 m.xx.fr ∧ Txs W s3 m.kk.txs from ⟨e1.below h, e2.below h, e3.below h⟩))
  obtain ⟨CM, HCM⟩ : ∃ C : Array Value, Hid (mgc m s1 s2 s3 = C) := ⟨_, hid rfl⟩
  have HCS : Hid (CM.size = 349) := hid (by rw [← HCM.out]; exact mgc_size _ _ _ ho)
  have HBX : Hid (∀ W g, W.heap[g]? = some (.cells CM 38 (0, 0)) → BoxM W g m s1 s2 s3) := hid (fun W g h => by rw [← HCM.out] at h; exact h)
  rw [HCM.out]
  have HV : Hid (∀ W, Below w.heap.size w W → MgV W (.agg CM) m) := hid (fun W h => ⟨s1, s2, s3, by rw [HCM.out], ho, HE.out W h⟩)
  have h0 := heap_alloc_new w (.cells CM 38)
  have hb0 : Below w.heap.size w (w.alloc (.cells CM 38)) := (Below.refl _ _).alloc (Nat.le_refl _) _
  have HLM := hid hlm
  clear ho e1 e2 e3 hlm
  obtain ⟨er, HER⟩ : ∃ x : Int, Hid ((if mayM m = true then (0 : Int) else 1) = x) := ⟨_, hid rfl⟩
  obtain ⟨OL, HOL⟩ : ∃ x : List UInt8, Hid ((if mayM m = true then bytesM m else []) = x) := ⟨_, hid rfl⟩
  rw [HER.out, HOL.out]
  obtain ⟨b, HM⟩ : ∃ q : Bool, Hid (mayM m = q) := ⟨_, hid rfl⟩
  have HCK : Hid (∀ W, Below w.heap.size w W → Calls Tryz.prog 9 #[.agg CM] W fun e w' => e = .returned (.int .i64 er) ∧ Below W.heap.size W w') := hid (fun W h => by
    have := mgCheck_ok (.agg CM) m W (HV.out W h) HLM.out
    rw [HER.out] at this
    exact this)
  go_enter Tryz.func7, Tryz.ntmps7
  go_upto_region 1 with (fail)
  generalize (w.alloc (.cells CM 38)) = w0 at *
  have HB0 := hid hb0
  have HLD : Hid (∀ W, Below w0.heap.size w0 W → loadMg (.pointer (some ⟨w.heap.size, 0, none⟩)) W = .ok (.value (.agg CM)) W ∧ BoxM W w.heap.size m s1 s2 s3) := hid (fun W h => ⟨loadMg_row ((h.block _ (lt_of_block h0)).trans h0) HCS.out, HBX.out W _ ((h.block _ (lt_of_block h0)).trans h0)⟩)
  have HBW : Hid (∀ W, Below w0.heap.size w0 W → Below w.heap.size w W) := hid (fun W h => HB0.out.trans (h.mono HB0.out.size))
  have l0 := (HLD.out w0 (Below.refl _ _)).1
  clear h0 hb0
  go_wp2_with fail
  refine (HCK.out w0 HB0.out).mono ?_
  rintro e w1 ⟨rfl, hb1⟩
  have HB1 := hid hb1
  clear l0 hb1
  cases b with
  | false =>
    obtain rfl : er = 1 := by rw [← HER.out, HM.out]; rfl
    obtain rfl : OL = [] := by rw [← HOL.out, HM.out]; rfl
    go_wp2_with fail
    go_ret2
    exact ⟨_, rfl, Byt.nil _, HBW.out _ HB1.out⟩
  | true =>
    obtain rfl : er = 0 := by rw [← HER.out, HM.out]; rfl
    obtain rfl : OL = bytesM m := by rw [← HOL.out, HM.out, if_pos rfl]
    obtain ⟨⟨f1, f2, f3, f4, _⟩, hh⟩ := mayM_has HM.out
    obtain ⟨g1, g2⟩ := hh.ki
    have HR : Hid (0 ≤ m.ki ∧ m.ki ≤ 21 ∧ 0 ≤ m.fr ∧ m.fr ≤ 21 ∧ 0 ≤ m.tu ∧ m.tu ≤ 21) := hid (by omega)
    obtain ⟨a0, a1, a2⟩ := (HLD.out w1 HB1.out).2.ints
    obtain ⟨kn, HKN⟩ : ∃ n : Int, Hid (m.ki = n) := ⟨_, hid rfl⟩
    obtain ⟨fn, HFN⟩ : ∃ n : Int, Hid (m.fr = n) := ⟨_, hid rfl⟩
    obtain ⟨tn, HTN⟩ : ∃ n : Int, Hid (m.tu = n) := ⟨_, hid rfl⟩
    have HIX : Hid (∀ i : Nat, i < 3 → ∀ w, (Instr.index 56 (.agg #[.int .i64 kn, .int .i64 fn, .int .i64 tn]) (.int .i64 (i : Int))).run Tryz.prog w = .ok (.int .i64 (numM m i)) w) := hid (fun i hi w => by
      unfold numM
      rw [HKN.out, HFN.out, HTN.out]
      exact three_index kn fn tn i hi w)
    obtain ⟨D, HD⟩ : ∃ D : Array Value, Hid (#[.int .i64 kn, .int .i64 fn, .int .i64 tn] = D) := ⟨_, hid rfl⟩
    rw [HD.out] at HIX
    rw [HKN.out] at a0
    rw [HFN.out] at a1
    rw [HTN.out] at a2
    clear f1 f2 f3 f4 hh g1 g2
    go_wp2_with (refine wpList_build_three rfl rfl _ _ _ rfl rfl rfl ?_)
    rw [HD.out]
    clear a0 a1 a2
    go_loopw [5, 20] (fun out si wr => ∃ i : Nat, i ≤ 3 ∧ si = .int .i64 i ∧ Byt wr out (preM m i) ∧ Below w0.heap.size w0 wr) (fun _ si _ => 3 - (intOf si).toNat)
    case atStart => exact ⟨0, by omega, rfl, Byt.nil _, HB1.out⟩
    case round =>
      obtain ⟨i, hi, rfl, hbt, hbr⟩ := hrel
      have HBT := hid hbt
      have HBR := hid hbr
      have HPL := hid (preM_len m i HR.out)
      clear hbt hbr
      by_cases hlt : i < 3
      · have i0 := HIX.out i hlt
        have HX0 := hid (numM_le m i HR.out)
        have HNX := hid (preM_more m i hlt)
        obtain ⟨x, HXV⟩ : ∃ n : Int, Hid (numM m i = n) := ⟨_, hid rfl⟩
        rw [HXV.out] at i0 HX0 HNX
        have C := num_any _ (preM m i) x wr HBT.out (by have := HX0.out; omega) (by have := HX0.out; omega) (by have := HPL.out; omega)
        rw [← HNX.out] at C
        have HC := hid C
        have hwx : IntKind.u64.wrap x = x := by have := HX0.out; exact wrap_u64 x (by omega) (by omega)
        have hlt' : (i : Int) < 3 := by omega
        have HLT := hid hlt
        clear C hi
        go_wp2_with fail
        refine HC.out.mono ?_
        rintro e w2 ⟨x2, rfl, hx2, hb2⟩
        have HX2 := hid hx2.byt
        have HB2 := hid (HBR.out.trans (hb2.mono HBR.out.size))
        clear hx2 hb2 hwx i0
        go_wp2_with fail
        go_roundw
        case rel => exact ⟨i + 1, by have := HLT.out; omega, by go_num, HX2.out, HB2.out⟩
        case measure => have := HLT.out; simp [intOf]; omega
      · obtain rfl : i = 3 := by omega
        have HVB := HBT
        have HOW : Hid (∀ v W, Below w0.heap.size w0 W → Byt W v (preM m 3) → Calls Tryz.prog 19 #[v, .agg CM, .agg (ptc kn)] W fun e w' => ∃ x, e = .returned x ∧ Byt w' x (bytesM m) ∧ Below W.heap.size W w') := hid (fun v W h hb => by
          have := mgOwn_any v (.agg CM) (preM m 3) m W hb (by have := HPL.out; omega) (HV.out W (HBW.out W h)) HLM.out HM.out
          rw [HKN.out] at this
          refine this.mono fun e w' => ?_
          rintro ⟨x, h1, h2, h3⟩
          refine ⟨x, h1, ?_, h3⟩
          have e : bytesM m = preM m 3 ++ bodyM m := by
            unfold bytesM preM
            simp
          rw [e]
          exact h2)
        obtain ⟨PC, HPC⟩ : ∃ C : Array Value, Hid (ptc kn = C) := ⟨_, hid rfl⟩
        have HPO : Hid (∀ W, Calls Tryz.prog 20 #[.int .i64 kn] W fun e w' => e = .returned (.agg PC) ∧ Below W.heap.size W w') := hid (fun W => by rw [← HPC.out]; exact parts11_any kn W)
        rw [HPC.out] at HOW
        have hn3 : ¬ ((3 : Int) < 3) := by omega
        clear hlt hi
        go_upto_region 10 with (fail)
        have hbd := HBR.out.drew
        have HS : Hid (∀ W, Below w0.heap.size w0 W → loadMg (.pointer (some ⟨w.heap.size, 0, none⟩)) W = .ok (.value (.agg CM)) W ∧ W.cell? ⟨w.heap.size, 0, none⟩ = some (.int .i64 kn)) := hid (fun W h => ⟨(HLD.out W h).1, by have := (HLD.out W h).2.ints.1; rw [HKN.out] at this; exact this⟩)
        refine wp_region_held_drew (S := fun W => loadMg (.pointer (some ⟨w.heap.size, 0, none⟩)) W = .ok (.value (.agg CM)) W ∧ W.cell? ⟨w.heap.size, 0, none⟩ = some (.int .i64 kn)) (by kernel_rfl) (HS.out _ hbd) (fun hHeld => ?_)
        refine' tk (i := 0) (v := _) rfl ?_ ?_
        rotate_left
        · (intro W hW; (try dsimp only at hW); go_simp; first | done | with_reducible rfl)
        try simp only [lay]
        refine' tk (i := 1) (v := _) rfl (fun W hW => hW.1) ?_
        try simp only [lay]
        refine' tk (i := 2) (v := _) rfl ?_ ?_
        rotate_left
        · (intro W hW; (try dsimp only at hW); go_simp; first | done | with_reducible rfl)
        try simp only [lay]
        refine' tk (i := 3) (v := _) rfl ?_ ?_
        rotate_left
        · (intro W hW; (try dsimp only at hW); have hW1 := hW.2; go_simp; first | done | with_reducible rfl)
        try simp only [lay]
        refine call_on (i := 4) rfl (by kernel_rfl) (by rfl) (fun K hK => ?_)
        go_simp
        refine (HPO.out _).mono ?_
        rintro e w2 ⟨rfl, hb2'⟩
        have hbz : Below wr.heap.size wr wr.drew := (Below.refl _ _).drew
        have hx2 := (HVB.out.below hbz).below hb2'
        have hb2 := hbd.trans (hb2'.mono hbd.size)
        refine hK.out _ _ (HS.out _ hb2) (fun hHeld => ?_)
        clear hK K
        try simp only [lay]
        refine call_on (i := 5) rfl (by kernel_rfl) (by rfl) (fun K hK => ?_)
        go_simp
        refine (HOW.out _ w2 hb2 hx2).mono ?_
        rintro e w3 ⟨x3, rfl, hx3, hb3'⟩
        have hb3 := hb2.trans (hb3'.mono hb2.size)
        refine hK.out _ _ (HS.out _ hb3) (fun hHeld => ?_)
        clear hK K
        try simp only [lay]
        refine' tk (i := 6) (v := _) rfl ?_ ?_
        rotate_left
        · (intro W hW; (try dsimp only at hW); go_simp; first | done | with_reducible rfl)
        try simp only [lay]
        refine' tk (i := 7) (v := _) rfl ?_ ?_
        rotate_left
        · (intro W hW; (try dsimp only at hW); go_simp; first | done | with_reducible rfl)
        try simp only [lay]
        refine wpAnyH_done (by kernel_rfl) ?_ _
        clear hHeld
        go_wp2_with fail
        go_ret2
        exact ⟨_, rfl, hx3, HBW.out _ hb3⟩
end Go.Proofs.YtjemfmbmlmogcaaGreat
