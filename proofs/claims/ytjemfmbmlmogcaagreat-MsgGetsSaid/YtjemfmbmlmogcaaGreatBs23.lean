/-
  AcCodeSame AcCodeRise AcCodeFits AcCodeTagged AcCodePut AcMk: what each of them says stands at its head.
-/
import Derived.BigQuiet
import Derived.Deep.DeepCutAuto
import Derived.Deep.QuietTactic
import Derived.LoopTactic
import Derived.Outline
import Derived.Test.YtjemfmbmlmogcaaGreatBs22
import Derived.Test.YtjemfmbmlmogcaaGreatBs3
import Derived.Test.YtjemfmbmlmogcaaGreatBs21
import Derived.Test.YtjemfmbmlmogcaaGreatBs13
import Derived.Test.YtjemfmbmlmogcaaGreatBs1
import Derived.Deep.RegionHeld3
import Derived.Laws.IdiomCopy
import Derived.StillTailTactics
import Derived.Test.YtjemfmbmlmogcaaGreatBs2
import Derived.Test.YtjemfmbmlmogcaaGreatBs14
import Derived.Test.YtjemfmbmlmogcaaGreatBs9
import Derived.Test.YtjemfmbmlmogcaaGreatBs8
import Derived.Test.YtjemfmbmlmogcaaGreatBs7
import Derived.Test.YtjemfmbmlmogcaaGreatBs4
namespace Go.Proofs.YtjemfmbmlmogcaaGreat
set_option maxRecDepth 20000
open Go.RowKit
attribute [local go_sem ↓] exec_load_hash
set_option maxHeartbeats 800000 in
theorem equalN_any (va vb : Value) (sa sb : List Int) (w : World) (hva : Els icl 1 w va sa) (hvb : Els icl 1 w vb sb) (hl : sa.length ≤ 1000) :
    Calls Tryz.prog 71 #[va, vb] w fun e w' => e = .returned (.bool (decide (sa = sb))) ∧ Below w.heap.size w w' := by
  obtain ⟨AA, ca, rfl⟩ := hva.shape
  obtain ⟨AB, cb, rfl⟩ := hvb.shape
  obtain ⟨ans, HAN⟩ : ∃ q : Bool, Hid (decide (sa = sb) = q) := ⟨_, hid rfl⟩
  rw [HAN.out]
  obtain ⟨LA, HLA⟩ : ∃ n : Nat, Hid (sa.length = n) := ⟨_, hid rfl⟩
  obtain ⟨LB, HLB⟩ : ∃ n : Nat, Hid (sb.length = n) := ⟨_, hid rfl⟩
  rw [HLA.out] at hva hl ⊢
  rw [HLB.out] at hvb ⊢
  have hlb := hvb.len
  rw [HLB.out] at hlb
  unfold maxLen at hlb
  by_cases e4 : LA = LB
  · subst e4
    have t4 : ((LA : Int) != (LA : Int)) = false := by simp
    have HRA := hid hva.at_.2.2.2
    have HRB := hid hvb.at_.2.2.2
    clear hva hvb
    go_enter Tryz.func71, Tryz.ntmps71
    go_wp2_with fail
    clear t4
    go_loopw [13] (fun si wr => ∃ i : Nat, i ≤ LA ∧ si = .int .i64 i ∧ Hid (∀ j (h : j < sa.length) (h2 : j < sb.length), j < i → sa[j] = sb[j]) ∧ ∃ n, wr = w.drewN n) (fun si _ => LA - (intOf si).toNat)
    case atStart => exact ⟨0, Nat.zero_le _, rfl, hid (fun j _ _ h => absurd h (by omega)), 0, rfl⟩
    case round =>
      obtain ⟨i, hi, rfl, HBB, n, rfl⟩ := hrel
      by_cases hlt : i < LA
      · have hil : i < sa.length := by rw [HLA.out]; exact hlt
        have him : i < sb.length := by rw [HLB.out]; exact hlt
        obtain ⟨ba, oa', rfl, hba, hcla⟩ := HRA.out (by omega)
        obtain ⟨bb, ob', rfl, hbb, hclb⟩ := HRB.out (by omega)
        have l1 : w.cell? ⟨ba, oa' + i, none⟩ = some (.int .i64 sa[i]) := by
          have := hcla i hil 0 _ rfl
          rwa [Nat.mul_one, Nat.add_zero] at this
        have l2 : w.cell? ⟨bb, ob' + i, none⟩ = some (.int .i64 sb[i]) := by
          have := hclb i him 0 _ rfl
          rwa [Nat.mul_one, Nat.add_zero] at this
        have hI : (i : Int) < (LA : Int) := by omega
        clear hcla hclb
        obtain ⟨X, HX⟩ : ∃ x : Int, Hid (sa[i] = x) := ⟨_, hid rfl⟩
        obtain ⟨Y, HY⟩ : ∃ x : Int, Hid (sb[i] = x) := ⟨_, hid rfl⟩
        rw [HX.out] at l1
        rw [HY.out] at l2
        by_cases hxy : X = Y
        · have t5 : (X != Y) = false := by simp [hxy]
          have HXY := hid hxy
          clear hxy
          go_wp2_with fail
          go_quiet (fail)
          go_wp2
          go_roundw
          case rel =>
            refine ⟨i + 1, by omega, by go_num, hid (fun j h h2 hj => ?_), _, rfl⟩
            by_cases hji : j < i
            · exact HBB.out j h h2 hji
            · obtain rfl : j = i := by omega
              rw [HX.out, HY.out]
              exact HXY.out
          case measure => simp [intOf]; omega
        · have t5 : (X != Y) = true := by simpa using hxy
          have HXY := hid hxy
          clear hxy
          go_wp2_with fail
          go_quiet (fail)
          go_wp2
          go_ret
          have e : ans = false := by
            rw [← HAN.out]
            exact decide_eq_false (fun e => by subst e; exact HXY.out (HX.out.symm.trans HY.out))
          subst e
          exact ⟨rfl, below_drewN (below_drewN (Below.refl _ _) _) _⟩
      · obtain rfl : i = LA := by omega
        go_wp2
        go_ret
        have e : ans = true := by
          rw [← HAN.out]
          refine decide_eq_true ?_
          exact List.ext_getElem (by rw [HLA.out, HLB.out]) fun j h h2 => HBB.out j h h2 (by have := HLA.out; omega)
        subst e
        exact ⟨rfl, below_drewN (Below.refl _ _) n⟩
  · have t4 : ((LA : Int) != (LB : Int)) = true := by simp; omega
    obtain rfl : ans = false := by
      rw [← HAN.out]
      exact decide_eq_false (fun e => by rw [e] at HLA; exact e4 (HLA.out.symm.trans HLB.out))
    clear e4 hva hvb
    go_enter Tryz.func71, Tryz.ntmps71
    go_wp2_with fail
    go_ret
    exact ⟨rfl, Below.refl _ _⟩
set_option maxHeartbeats 1600000 in
theorem acSame_ok : AcSameOk := by
  intro va vb a b w hva hvb hla hlb
  obtain ⟨sa, rfl, hoa, hta⟩ := hva
  obtain ⟨sb, rfl, hob, htb⟩ := hvb
  have hb0 : Below w.heap.size w ((w.alloc (.cells (axc a sa) 31)).alloc (.cells (axc b sb) 31)) := ((Below.refl _ _).alloc (Nat.le_refl _) _).alloc (by simp) _
  have hA : BoxX ((w.alloc (.cells (axc a sa) 31)).alloc (.cells (axc b sb) 31)) w.heap.size a sa := heap1 w _ _
  have hB : BoxX ((w.alloc (.cells (axc a sa) 31)).alloc (.cells (axc b sb) 31)) (w.heap.size + 1) b sb := heap2 w _ _
  have hta0 := hta.below hb0
  have htb0 := htb.below hb0
  obtain ⟨AA, ca, rfl⟩ := hta.shape
  obtain ⟨AB, cb, rfl⟩ := htb.shape
  obtain ⟨CA, HCA⟩ : ∃ C : Array Value, Hid (axc a (.slice AA a.fr.length ca) = C) := ⟨_, hid rfl⟩
  obtain ⟨CB, HCB⟩ : ∃ C : Array Value, Hid (axc b (.slice AB b.fr.length cb) = C) := ⟨_, hid rfl⟩
  rw [HCA.out, HCB.out] at hA hB hb0 hta0 htb0 ⊢
  obtain ⟨ans, HAN⟩ : ∃ q : Bool, Hid (decide (a = b) = q) := ⟨_, hid rfl⟩
  rw [HAN.out]
  go_enter Tryz.func30, Tryz.ntmps30
  go_upto_region 1 with (fail)
  generalize ((w.alloc (.cells CA 31)).alloc (.cells CB 31)) = w0 at *
  clear HCA HCB hta htb
  have a4 := hA.fr hoa
  have b4 := hB.fr hob
  obtain ⟨a0, a1, a2⟩ := hA.ints
  obtain ⟨b0, b1, b2⟩ := hB.ints
  have a3 := loadH_mid hA.pa hoa.pa
  have b3 := loadH_mid hB.pa hob.pa
  have a5 := loadH_mid (hA.tg hoa) hoa.tg
  have b5 := loadH_mid (hB.tg hob) hob.tg
  have heq := fun W => eq_hash a.pa b.pa hoa.pa hob.pa W
  have heq2 := fun W => eq_hash a.tg b.tg hoa.tg hob.tg W
  obtain ⟨q, HQ⟩ : ∃ q : Bool, Hid (decide (a.pa = b.pa) = q) := ⟨_, hid rfl⟩
  obtain ⟨q2, HQ2⟩ : ∃ q : Bool, Hid (decide (a.tg = b.tg) = q) := ⟨_, hid rfl⟩
  obtain ⟨q3, HQ3⟩ : ∃ q : Bool, Hid (decide (a.fr = b.fr) = q) := ⟨_, hid rfl⟩
  rw [HQ.out] at heq
  rw [HQ2.out] at heq2
  have HEQ := hid (equalN_any _ _ _ _ w0 hta0 htb0 hla)
  rw [HQ3.out] at HEQ
  have HANS : Hid (ans = (decide (a.bo = b.bo) && (decide (a.vi = b.vi) && (decide (a.pv = b.pv) && (q && (q2 && q3)))))) := hid (by
    rw [← HAN.out, ← HQ.out, ← HQ2.out, ← HQ3.out]
    obtain ⟨x1, x2, x3, x4, x5, x6⟩ := a
    obtain ⟨y1, y2, y3, y4, y5, y6⟩ := b
    rw [Bool.eq_iff_iff]
    simp only [AcM.mk.injEq, Bool.and_eq_true, decide_eq_true_eq]
    constructor
    · rintro ⟨h1, h2, h3, h4, h5, h6⟩
      exact ⟨h1, h2, h3, h4, h6, h5⟩
    · rintro ⟨h1, h2, h3, h4, h6, h5⟩
      exact ⟨h1, h2, h3, h4, h5, h6⟩)
  obtain ⟨PA, HPA⟩ : ∃ C : Array Value, Hid (hcells a.pa = C) := ⟨_, hid rfl⟩
  obtain ⟨PB, HPB⟩ : ∃ C : Array Value, Hid (hcells b.pa = C) := ⟨_, hid rfl⟩
  obtain ⟨TA, HTA⟩ : ∃ C : Array Value, Hid (hcells a.tg = C) := ⟨_, hid rfl⟩
  obtain ⟨TB, HTB⟩ : ∃ C : Array Value, Hid (hcells b.tg = C) := ⟨_, hid rfl⟩
  rw [HPA.out] at a3 heq
  rw [HPB.out] at b3 heq
  rw [HTA.out] at a5 heq2
  rw [HTB.out] at b5 heq2
  obtain ⟨LA, HLA⟩ : ∃ n : Nat, Hid (a.fr.length = n) := ⟨_, hid rfl⟩
  obtain ⟨LB, HLB⟩ : ∃ n : Nat, Hid (b.fr.length = n) := ⟨_, hid rfl⟩
  rw [HLA.out] at a4 HEQ
  rw [HLB.out] at b4 HEQ
  obtain ⟨x0, HX0⟩ : ∃ n : Int, Hid (a.bo = n) := ⟨_, hid rfl⟩
  obtain ⟨x1, HX1⟩ : ∃ n : Int, Hid (a.vi = n) := ⟨_, hid rfl⟩
  obtain ⟨x2, HX2⟩ : ∃ n : Int, Hid (a.pv = n) := ⟨_, hid rfl⟩
  obtain ⟨y0, HY0⟩ : ∃ n : Int, Hid (b.bo = n) := ⟨_, hid rfl⟩
  obtain ⟨y1, HY1⟩ : ∃ n : Int, Hid (b.vi = n) := ⟨_, hid rfl⟩
  obtain ⟨y2, HY2⟩ : ∃ n : Int, Hid (b.pv = n) := ⟨_, hid rfl⟩
  rw [HX0.out] at a0
  rw [HX1.out] at a1
  rw [HX2.out] at a2
  rw [HY0.out] at b0
  rw [HY1.out] at b1
  rw [HY2.out] at b2
  rw [HX0.out, HX1.out, HX2.out, HY0.out, HY1.out, HY2.out] at HANS
  clear hA hB hoa hob hta0 htb0 hla hlb
  have HH := hid heq
  have HH2 := hid heq2
  clear heq heq2
  by_cases e0 : x0 = y0
  case neg =>
    have t : (x0 != y0) = true := by simpa using e0
    obtain rfl : ans = false := by rw [HANS.out, decide_eq_false e0]; simp
    clear e0 a3 a4 a5 b3 b4 b5
    go_wp2_with fail
    go_ret
    exact ⟨rfl, hb0⟩
  have t0 : (x0 != y0) = false := by simpa using e0
  have HE0 := hid e0
  clear e0
  by_cases e1 : x1 = y1
  case neg =>
    have t : (x1 != y1) = true := by simpa using e1
    obtain rfl : ans = false := by rw [HANS.out, decide_eq_false e1]; simp
    clear e1 a3 a4 a5 b3 b4 b5
    go_wp2_with fail
    go_ret
    exact ⟨rfl, hb0⟩
  have t1 : (x1 != y1) = false := by simpa using e1
  have HE1 := hid e1
  clear e1
  by_cases e2 : x2 = y2
  case neg =>
    have t : (x2 != y2) = true := by simpa using e2
    obtain rfl : ans = false := by rw [HANS.out, decide_eq_false e2]; simp
    clear e2 a3 a4 a5 b3 b4 b5
    go_wp2_with fail
    go_ret
    exact ⟨rfl, hb0⟩
  have t2 : (x2 != y2) = false := by simpa using e2
  have HE2 := hid e2
  clear e2
  have HANS2 : Hid (ans = (q && (q2 && q3))) := hid (by rw [HANS.out, decide_eq_true HE0.out, decide_eq_true HE1.out, decide_eq_true HE2.out]; rfl)
  go_upto_region 3 with (fail)
  have heq := HH.out
  have heq2 := HH2.out
  clear a0 a1 a2 b0 b1 b2 t0 t1 t2
  cases q with
  | false =>
    obtain rfl : ans = false := HANS2.out
    clear a4 b4 a5 b5 heq2
    go_wp2_with fail
    go_ret
    exact ⟨rfl, hb0⟩
  | true =>
    cases q2 with
    | false =>
      obtain rfl : ans = false := HANS2.out
      clear a4 b4
      go_wp2_with fail
      go_ret
      exact ⟨rfl, hb0⟩
    | true =>
      obtain rfl : ans = q3 := HANS2.out
      go_wp2_with fail
      refine HEQ.out.mono ?_
      rintro e w1 ⟨rfl, hb1⟩
      clear a4 b4 a3 b3 a5 b5 heq heq2
      go_wp2_with fail
      go_ret
      exact ⟨rfl, hb0.trans (hb1.mono hb0.size)⟩
end Go.Proofs.YtjemfmbmlmogcaaGreat
namespace Go.Proofs.YtjemfmbmlmogcaaGreat
set_option maxRecDepth 20000
open Go.RowKit
def viewB (i : Int) : Bool := decide (1 ≤ i ∧ i ≤ 1099511627776)
theorem acViewed_any (i : Int) (w : World) : Calls Tryz.prog 111 #[.int .i64 i] w fun e w' => e = .returned (.bool (viewB i)) ∧ w = w' := by
  by_cases h1 : 1 ≤ i
  · go_enter Tryz.func111, Tryz.ntmps111
    go_wp2
    go_ret
    exact ⟨ret_boolK (by unfold viewB; rw [Bool.eq_iff_iff]; simp; omega), rfl⟩
  · go_enter Tryz.func111, Tryz.ntmps111
    go_wp2
    go_ret
    exact ⟨ret_boolK (by unfold viewB; rw [eq_comm, decide_eq_false_iff_not]; omega), rfl⟩
theorem acnum_any (v : Value) (l : List UInt8) (n : Int) (w : World) (hv : Byt w v l) (h0 : 0 ≤ n) (h1 : n < 9223372036854775808) (hs : l.length ≤ 1099511627000) :
    Calls Tryz.prog 94 #[v, .int .i64 n] w fun e w' => ∃ x, e = .returned x ∧ Own w.heap.size w' x (l ++ dg n.toNat) ∧ Below w.heap.size w w' := by
  have hw : IntKind.u64.wrap n = n := wrap_u64 _ (by omega) (by omega)
  go_enter Tryz.func94, Tryz.ntmps94
  go_wp2_with fail
  refine (num_any v l n w hv h0 (by omega) hs).mono ?_
  rintro e w1 ⟨v1, rfl, ho1, hb1⟩
  go_wp2_with fail
  go_ret
  exact ⟨_, rfl, ho1, hb1⟩
def lastN : Int → List Int → Int
  | last, [] => last
  | _, s :: r => lastN s r
theorem lastN_snoc (s : Int) : ∀ (l : List Int) (last : Int), lastN last (l ++ [s]) = s
  | [], _ => rfl
  | x :: r, _ => lastN_snoc s r x
theorem risesI_snoc (top : Int) (s : Int) : ∀ (l : List Int) (last : Int), risesI top last (l ++ [s]) = (risesI top last l && (decide (lastN last l < s) && decide (s ≤ top)))
  | [], last => by
    show ((decide (last < s) && decide (s ≤ top)) && true) = (true && (decide (last < s) && decide (s ≤ top)))
    rw [Bool.and_true, Bool.true_and]
  | x :: r, last => by
    have := risesI_snoc top s r x
    simp only [List.cons_append, risesI, lastN, this, Bool.and_assoc]
    rfl
theorem risesI_pre (top : Int) (m : List Int) : ∀ (l : List Int) (last : Int), risesI top last (l ++ m) = true → risesI top last l = true
  | [], _, _ => rfl
  | x :: r, last, h => by
    simp only [List.cons_append, risesI, Bool.and_eq_true] at h ⊢
    exact ⟨h.1, risesI_pre top m r x h.2⟩
theorem lastN_ge (top : Int) : ∀ (l : List Int) (last : Int), risesI top last l = true → last ≤ lastN last l
  | [], _, _ => Int.le_refl _
  | x :: r, last, h => by
    simp only [risesI, Bool.and_eq_true, decide_eq_true_eq] at h
    have := lastN_ge top r x h.2
    show last ≤ lastN x r
    omega
theorem lastN_pos {top : Int} {l : List Int} (h : risesI top 0 l = true) : decide (0 < lastN 0 l) = decide (0 < l.length) := by
  cases l with
  | nil => rfl
  | cons x r =>
    simp only [risesI, Bool.and_eq_true, decide_eq_true_eq] at h
    have := lastN_ge top r x h.2
    have h1 : 0 < lastN 0 (x :: r) := by
      show 0 < lastN x r
      omega
    rw [decide_eq_true h1]
    exact (decide_eq_true (by simp)).symm
theorem risesN_more {l : List Int} {i : Nat} (h : i < l.length) (hr : risesI 21 0 (l.take i) = true) (h1 : ¬ l[i] ≤ lastN 0 (l.take i)) (h2 : nodeB l[i] = true) : risesI 21 0 (l.take (i + 1)) = true := by
  unfold nodeB at h2
  rw [decide_eq_true_eq] at h2
  rw [List.take_succ_eq_append_getElem h, risesI_snoc, hr, decide_eq_true (by omega), decide_eq_true (by omega)]
  rfl
theorem risesN_not {l : List Int} {i : Nat} (h : i < l.length) (hr : risesI 21 0 (l.take i) = true) (h1 : l[i] ≤ lastN 0 (l.take i) ∨ nodeB l[i] = false) : risesI 21 0 l = false := by
  cases hq : risesI 21 0 l with
  | false => rfl
  | true =>
    exfalso
    rw [← List.take_append_drop (i + 1) l] at hq
    have := risesI_pre _ _ _ _ hq
    rw [List.take_succ_eq_append_getElem h, risesI_snoc] at this
    simp only [Bool.and_eq_true, decide_eq_true_eq] at this
    have h0 := lastN_ge _ _ _ hr
    rcases h1 with h1 | h1
    · omega
    · unfold nodeB at h1
      rw [decide_eq_false_iff_not] at h1
      omega
set_option maxHeartbeats 1600000 in
theorem acRise_any (v : Value) (l : List Int) (w0 : World) (hv : Els icl 1 w0 v l) (hl : l.length ≤ 1000) :
    Calls Tryz.prog 112 #[v] w0 fun e w' => e = .returned (.bool (decide (0 < l.length) && risesI 21 0 l)) ∧ Below w0.heap.size w0 w' := by
  obtain ⟨A, c, rfl⟩ := hv.shape
  obtain ⟨n, HN⟩ : ∃ n : Nat, Hid (l.length = n) := ⟨_, hid rfl⟩
  rw [HN.out] at hv hl ⊢
  have HT := hid hv
  obtain ⟨ans, HAN⟩ : ∃ q : Bool, Hid ((decide (0 < n) && risesI 21 0 l) = q) := ⟨_, hid rfl⟩
  rw [HAN.out]
  clear hv
  go_enter Tryz.func112, Tryz.ntmps112
  go_wp2_with fail
  go_loopw [3, 8] (fun la si wr => ∃ i : Nat, i ≤ n ∧ si = .int .i64 i ∧ la = .int .i64 (lastN 0 (l.take i)) ∧ Hid (risesI 21 0 (l.take i) = true) ∧ Below w0.heap.size w0 wr) (fun _ si _ => n - (intOf si).toNat)
  case atStart => exact ⟨0, Nat.zero_le _, rfl, rfl, hid rfl, Below.refl _ _⟩
  case round =>
    obtain ⟨i, hi, rfl, rfl, HR, hbr⟩ := hrel
    by_cases hlt : i < n
    · have hil : i < l.length := by rw [HN.out]; exact hlt
      obtain ⟨b, o, rfl, hg, hcl⟩ := (HT.out.below hbr).at_.2.2.2 (by omega)
      have hI : (i : Int) < (n : Int) := by omega
      have l1 : wr.cell? ⟨b, o + i, none⟩ = some (.int .i64 l[i]) := by
        have := hcl i hil 0 _ rfl
        rwa [Nat.mul_one, Nat.add_zero] at this
      have HMORE : Hid (¬ l[i] ≤ lastN 0 (l.take i) → nodeB l[i] = true → risesI 21 0 (l.take (i + 1)) = true) := hid (risesN_more hil HR.out)
      have HNOT : Hid ((l[i] ≤ lastN 0 (l.take i) ∨ nodeB l[i] = false) → ans = false) := hid (fun h => by rw [← HAN.out, risesN_not hil HR.out h, Bool.and_false])
      have HLAST : Hid (lastN 0 (l.take (i + 1)) = l[i]) := hid (by rw [List.take_succ_eq_append_getElem hil, lastN_snoc])
      obtain ⟨bo, HBO⟩ : ∃ x : Int, Hid (l[i] = x) := ⟨_, hid rfl⟩
      obtain ⟨la, HLA⟩ : ∃ x : Int, Hid (lastN 0 (l.take i) = x) := ⟨_, hid rfl⟩
      rw [HBO.out] at HMORE HNOT HLAST l1
      rw [HLA.out] at HMORE HNOT ⊢
      clear hcl hg
      by_cases h1 : bo ≤ la
      · obtain rfl : ans = false := HNOT.out (.inl h1)
        go_wp2_with fail
        go_ret
        exact ⟨rfl, hbr⟩
      · obtain ⟨nb, HNB⟩ : ∃ q : Bool, Hid (nodeB bo = q) := ⟨_, hid rfl⟩
        have HCN := hid (fun W => node_any bo W)
        rw [HNB.out] at HCN HMORE HNOT
        have HH1 := hid h1
        go_wp2_with fail
        refine (HCN.out wr).mono ?_
        rintro e w2 ⟨rfl, rfl⟩
        cases nb with
        | false =>
          obtain rfl : ans = false := HNOT.out (.inr rfl)
          go_wp2_with fail
          go_ret
          exact ⟨rfl, hbr⟩
        | true =>
          have HM2 := hid (HMORE.out HH1.out rfl)
          clear HMORE HNOT
          go_wp2_with fail
          go_roundw
          case rel => exact ⟨i + 1, by omega, by go_num, by rw [HLAST.out], hid HM2.out, hbr⟩
          case measure => simp [intOf]; omega
    · obtain rfl : i = n := by omega
      have htk : l.take i = l := List.take_of_length_le (by rw [HN.out]; exact Nat.le_refl _)
      have HANS : Hid (ans = decide (0 < lastN 0 (l.take i))) := hid (by
        have h := HR.out
        rw [htk] at h ⊢
        rw [← HAN.out, h, Bool.and_true, lastN_pos h, HN.out])
      obtain ⟨la, HLA⟩ : ∃ x : Int, Hid (lastN 0 (l.take i) = x) := ⟨_, hid rfl⟩
      rw [HLA.out] at HANS ⊢
      clear htk
      by_cases h1 : 0 < la
      · obtain rfl : ans = true := by rw [HANS.out, decide_eq_true h1]
        go_wp2_with fail
        go_ret
        exact ⟨rfl, hbr⟩
      · obtain rfl : ans = false := by rw [HANS.out, decide_eq_false h1]
        go_wp2_with fail
        go_ret
        exact ⟨rfl, hbr⟩
end Go.Proofs.YtjemfmbmlmogcaaGreat
namespace Go.Proofs.YtjemfmbmlmogcaaGreat
set_option maxRecDepth 20000
open Go.RowKit
set_option maxHeartbeats 1600000 in
theorem acFits_any (v : Value) (a : AcM) (w : World) (hv : AcV w v a) (hl : a.fr.length ≤ 1000) :
    Calls Tryz.prog 93 #[v] w fun e w' => e = .returned (.bool (mayX a)) ∧ Below w.heap.size w w' := by
  obtain ⟨s, rfl, ho, ht⟩ := hv
  have hb0 : Below w.heap.size w (w.alloc (.cells (axc a s) 31)) := (Below.refl _ _).alloc (Nat.le_refl _) _
  have hX := BoxX.new w a s
  obtain ⟨A, k, rfl⟩ := ht.shape
  have HT := hid (fun W (h : Below w.heap.size w W) => ht.below h)
  have HLL := hid hl
  obtain ⟨L, HL⟩ : ∃ n : Nat, Hid (a.fr.length = n) := ⟨_, hid rfl⟩
  rw [HL.out] at hX hb0 HT ⊢
  obtain ⟨ans, HAN⟩ : ∃ q : Bool, Hid (mayX a = q) := ⟨_, hid rfl⟩
  obtain ⟨nb, HNB⟩ : ∃ q : Bool, Hid (nodeB a.bo = q) := ⟨_, hid rfl⟩
  obtain ⟨vb, HVB⟩ : ∃ q : Bool, Hid (viewB a.vi = q) := ⟨_, hid rfl⟩
  obtain ⟨r, HR⟩ : ∃ q : Bool, Hid ((decide (0 < a.fr.length) && risesI 21 0 a.fr) = q) := ⟨_, hid rfl⟩
  have HMA : Hid (ans = (nb && (vb && (decide (0 ≤ a.pv ∧ a.pv < a.vi) && r)))) := hid (by
    rw [← HAN.out, ← HNB.out, ← HVB.out, ← HR.out]
    unfold mayX nodeB viewB
    rw [Bool.eq_iff_iff]
    simp only [Bool.and_eq_true, decide_eq_true_eq]
    constructor
    · rintro ⟨h, h1, h2, h3, h4, h5, h6, h7⟩
      exact ⟨⟨h1, h2⟩, ⟨h3, h4⟩, ⟨h5, h6⟩, by omega, h⟩
    · rintro ⟨⟨h1, h2⟩, ⟨h3, h4⟩, ⟨h5, h6⟩, h7, h⟩
      exact ⟨h, h1, h2, h3, h4, h5, h6, by omega⟩)
  rw [HAN.out]
  have HCN : Hid (∀ W, Calls Tryz.prog 97 #[.int .i64 a.bo] W fun e w' => e = .returned (.bool nb) ∧ W = w') := hid (fun W => by have := node_any a.bo W; rw [HNB.out] at this; exact this)
  have HCV : Hid (∀ W, Calls Tryz.prog 111 #[.int .i64 a.vi] W fun e w' => e = .returned (.bool vb) ∧ W = w') := hid (fun W => by have := acViewed_any a.vi W; rw [HVB.out] at this; exact this)
  have HRI : Hid (∀ W, Below w.heap.size w W → Calls Tryz.prog 112 #[.slice A L k] W fun e w' => e = .returned (.bool r) ∧ Below W.heap.size W w') := hid (fun W h => by
    have := acRise_any (.slice A L k) a.fr W (HT.out W h) HLL.out
    rw [HR.out] at this
    exact this)
  have HO := hid ho
  clear ho ht hl
  go_enter Tryz.func93, Tryz.ntmps93
  go_upto_region 1 with (fail)
  generalize (w.alloc (.cells (axc a (.slice A L k)) 31)) = w0 at *
  obtain ⟨k0, k1, k2⟩ := hX.ints
  have k3 := hX.fr HO.out
  clear hX
  obtain ⟨bo, HBO⟩ : ∃ x : Int, Hid (a.bo = x) := ⟨_, hid rfl⟩
  obtain ⟨vi, HVI⟩ : ∃ x : Int, Hid (a.vi = x) := ⟨_, hid rfl⟩
  obtain ⟨pv, HPV⟩ : ∃ x : Int, Hid (a.pv = x) := ⟨_, hid rfl⟩
  rw [HBO.out] at k0 HCN
  rw [HVI.out] at k1 HCV HMA
  rw [HPV.out] at k2 HMA
  go_wp2_with fail
  refine (HCN.out w0).mono ?_
  rintro e w1 ⟨rfl, rfl⟩
  cases nb with
  | false =>
    obtain rfl : ans = false := HMA.out
    go_wp2_with fail
    go_ret
    exact ⟨rfl, hb0⟩
  | true =>
    go_wp2_with fail
    refine (HCV.out w0).mono ?_
    rintro e w1 ⟨rfl, rfl⟩
    cases vb with
    | false =>
      obtain rfl : ans = false := HMA.out
      go_wp2_with fail
      go_ret
      exact ⟨rfl, hb0⟩
    | true =>
      by_cases h1 : pv < 0
      · obtain rfl : ans = false := by rw [HMA.out, decide_eq_false (by omega)]; rfl
        go_wp2_with fail
        go_ret
        exact ⟨rfl, hb0⟩
      by_cases h2 : vi ≤ pv
      · obtain rfl : ans = false := by rw [HMA.out, decide_eq_false (by omega)]; rfl
        go_wp2_with fail
        go_ret
        exact ⟨rfl, hb0⟩
      obtain rfl : ans = r := by rw [HMA.out, decide_eq_true (by omega)]; rfl
      go_wp2_with fail
      refine (HRI.out w0 hb0).mono ?_
      rintro e w4 ⟨rfl, hb4⟩
      have hB4 := hb0.trans (hb4.mono hb0.size)
      clear k0 k1 k2 k3
      go_wp2_with fail
      go_ret
      exact ⟨rfl, hB4⟩
end Go.Proofs.YtjemfmbmlmogcaaGreat
namespace Go.Proofs.YtjemfmbmlmogcaaGreat
set_option maxRecDepth 20000
open Go.RowKit
attribute [local go_sem ↓] exec_load_hash
set_option maxHeartbeats 6400000 in
theorem acTagged_any (v : Value) (a : AcM) (w : World) (hv : AcV w v a) (hm : mayX a = true) :
    Calls Tryz.prog 95 #[v] w fun e w' => ∃ x, e = .returned x ∧ Own w.heap.size w' x (taggedX a) ∧ Below w.heap.size w w' := by
  obtain ⟨s, rfl, ho, ht⟩ := hv
  obtain ⟨_, h1, h2, h3, h4, h5, h6, h7⟩ := mayX_iff.1 hm
  obtain ⟨hfr, hl21⟩ := mayX_fr hm
  have HFR := hid hfr
  have hb0 : Below w.heap.size w (w.alloc (.cells (axc a s) 31)) := (Below.refl _ _).alloc (Nat.le_refl _) _
  have hX := BoxX.new w a s
  have ht0 := ht.below hb0
  obtain ⟨A, k, rfl⟩ := ht.shape
  obtain ⟨l, HFL⟩ : ∃ l : List Int, Hid (a.fr = l) := ⟨_, hid rfl⟩
  have HO2 : Hid (taggedX a = dg a.vi.toNat ++ (dg a.pv.toNat ++ (a.pa ++ (dg l.length ++ frB l)))) := hid (by rw [← HFL.out]; rfl)
  rw [HFL.out] at hX hb0 ht0 hl21 HFR ⊢
  obtain ⟨L, HL⟩ : ∃ n : Nat, Hid (l.length = n) := ⟨_, hid rfl⟩
  rw [HL.out] at hX hb0 ht0 hl21 HO2 ⊢
  obtain ⟨C, HC⟩ : ∃ C : Array Value, Hid (axc a (.slice A L k) = C) := ⟨_, hid rfl⟩
  obtain ⟨O, HO⟩ : ∃ O : List UInt8, Hid (taggedX a = O) := ⟨_, hid rfl⟩
  rw [HC.out] at hX hb0 ht0 ⊢
  rw [HO.out] at HO2 ⊢
  have HL21 := hid hl21
  have HOK := hid ho
  obtain ⟨vn, HVV⟩ : ∃ v : Nat, Hid (a.vi = (v : Int)) := ⟨a.vi.toNat, hid (by omega)⟩
  obtain ⟨qn, HQQ⟩ : ∃ v : Nat, Hid (a.pv = (v : Int)) := ⟨a.pv.toNat, hid (by omega)⟩
  rw [HVV.out, HQQ.out] at HO2
  simp only [Int.toNat_natCast] at HO2
  have HB : Hid (vn < 9223372036854775808 ∧ qn < 9223372036854775808) := hid (by have := HVV.out; have := HQQ.out; omega)
  have HLV := hid (dg_len10 (n := vn) (by have := HVV.out; omega))
  have HLQ := hid (dg_len10 (n := qn) (by have := HQQ.out; omega))
  have HLN := hid (dg_len10 (n := L) (by omega))
  have HHL := hid ho.pa
  have HLD : Hid (∀ W : World, W.heap[w.heap.size]? = some (.cells C 31 (0, 0)) → W.cell? ⟨w.heap.size, 1, none⟩ = some (.int .i64 (vn : Int)) ∧ W.cell? ⟨w.heap.size, 2, none⟩ = some (.int .i64 (qn : Int)) ∧ loadH (.pointer (some ⟨w.heap.size, 3, none⟩)) W = .ok (.value (.agg (hcells a.pa))) W ∧ W.cell? ⟨w.heap.size, 35, none⟩ = some (.slice A L k)) := hid (fun W h => by
    rw [← HC.out] at h
    have hB : BoxX W w.heap.size a (.slice A L k) := h
    rw [← HVV.out, ← HQQ.out]
    exact ⟨hB.ints.2.1, hB.ints.2.2, loadH_mid hB.pa HOK.out.pa, hB.fr HOK.out⟩)
  have hr0 : (w.alloc (.cells C 31)).heap[w.heap.size]? = some (.cells C 31 (0, 0)) := heap_alloc_new w _
  clear ho ht hm hl21 hfr h1 h2 h3 h4 h5 h6 h7 HO HC hX
  go_enter Tryz.func95, Tryz.ntmps95
  go_upto_region 1 with (fail)
  generalize (w.alloc (.cells C 31)) = w0 at *
  have hlr := lt_of_block hr0
  have HX := hid (fun W (h : Below w0.heap.size w0 W) => HLD.out W ((h.block _ hlr).trans hr0))
  have HTX := hid (fun W (h : Below w0.heap.size w0 W) => ht0.below h)
  have HB0 := hid hb0
  clear hr0 hlr ht0 hb0
  have d1 := (HX.out w0 (Below.refl _ _)).1
  go_wp2_with fail
  refine (acnum_any _ [] (vn : Int) w0 (Byt.nil _) (by omega) (by have := HB.out; omega) (by decide)).mono ?_
  rintro e w1 ⟨v1, rfl, ho1, hb1⟩
  rw [Int.toNat_natCast, List.nil_append] at ho1
  have d2 := (HX.out w1 hb1).2.1
  clear d1
  go_wp2_with fail
  refine (acnum_any _ _ (qn : Int) w1 ho1.byt (by omega) (by have := HB.out; omega) (by have := HLV.out; omega)).mono ?_
  rintro e w2 ⟨v2, rfl, ho2, hb2'⟩
  have hb2 := hb1.trans (hb2'.mono hb1.size)
  rw [Int.toNat_natCast] at ho2
  have d4 := (HX.out w2 hb2).2.2.1
  clear d2 hb2'
  go_wp2_with fail
  refine (hash_any _ _ a.pa w2 ho2.byt (by simp only [List.length_append]; have := HLV.out; have := HLQ.out; omega) HHL.out).mono ?_
  rintro e w4 ⟨v4, rfl, ho4, hb4'⟩
  have hb4 := hb2.trans (hb4'.mono hb2.size)
  have d7 := (HX.out w4 hb4).2.2.2
  clear d4 hb4'
  go_wp2_with fail
  refine (acnum_any _ _ (L : Int) w4 ho4.byt (by omega) (by have := HL21.out; omega) (by simp only [List.length_append]; have := HLV.out; have := HLQ.out; have := HHL.out; omega)).mono ?_
  rintro e w7 ⟨v7, rfl, ho7, hb7'⟩
  have hb7 := hb4.trans (hb7'.mono hb4.size)
  rw [Int.toNat_natCast] at ho7
  have d8 := (HX.out w7 hb7).2.2.2
  have HZB := hid hb4.size
  clear d7 hb7' ho1 ho2 ho4 hb1 hb2 hb4
  obtain ⟨P, HP⟩ : ∃ P : List UInt8, Hid (dg vn ++ dg qn ++ a.pa ++ dg L = P) := ⟨_, hid rfl⟩
  have HPL : Hid (P.length ≤ 150) := hid (by rw [← HP.out]; simp only [List.length_append]; have := HLV.out; have := HLQ.out; have := HLN.out; have := HHL.out; omega)
  rw [HP.out] at ho7
  have ho7' := ho7.more HZB.out
  clear ho7
  go_wp2_with fail
  clear d8
  go_loopw [3, 25] (fun out si wr => ∃ i : Nat, i ≤ L ∧ si = .int .i64 i ∧ Own w0.heap.size wr out (P ++ frB (l.take i)) ∧ Below w0.heap.size w0 wr) (fun _ si _ => L - (intOf si).toNat)
  case atStart => exact ⟨0, Nat.zero_le _, rfl, by rw [List.take_zero]; show Own _ _ _ (P ++ []); rw [List.append_nil]; exact ho7', hb7⟩
  case round =>
    obtain ⟨i, hi, rfl, hown, hB⟩ := hrel
    clear ho7' hb7
    by_cases hlt : i < L
    · have hil : i < l.length := by rw [HL.out]; exact hlt
      obtain ⟨g, o, rfl, hg, hcl⟩ := (HTX.out wr hB).at_.2.2.2 (by omega)
      have hsi := HFR.out _ (List.getElem_mem hil)
      have HNEW := hid (frB_snoc l i hil)
      have HFL : Hid ((frB (l.take i)).length ≤ 21) := hid (by
        rw [frB_len _ (fun x hx => HFR.out x (List.mem_of_mem_take hx)), List.length_take]
        have := HL21.out
        omega)
      have l1 : wr.cell? ⟨g, o + i, none⟩ = some (.int .i64 l[i]) := by
        have := hcl i hil 0 _ rfl
        rwa [Nat.mul_one, Nat.add_zero] at this
      obtain ⟨n, HNN⟩ : ∃ n : Nat, Hid (l[i] = (n : Int)) := ⟨(l[i]).toNat, hid (by omega)⟩
      have HN21 : Hid (n ≤ 21) := hid (by have := HNN.out; omega)
      have HNL := hid (dg_len10 (n := n) (by have := HN21.out; omega))
      rw [HNN.out] at l1 HNEW
      rw [Int.toNat_natCast] at HNEW
      obtain ⟨Q, HQ⟩ : ∃ Q : List UInt8, Hid (P ++ frB (l.take i) = Q) := ⟨_, hid rfl⟩
      have HQL : Hid (Q.length ≤ 1000) := hid (by rw [← HQ.out, List.length_append]; have := HPL.out; have := HFL.out; omega)
      rw [HQ.out] at hown
      have hI : (i : Int) < (L : Int) := by omega
      obtain ⟨QA, QC, e⟩ := hown.byt.shape
      obtain ⟨qq, HQQL⟩ : ∃ n : Nat, Hid (Q.length = n) := ⟨_, hid rfl⟩
      rw [HQQL.out] at e
      subst e
      have HLT := hid hlt
      clear hcl hg hsi
      go_wp2_with fail
      refine (acnum_any _ Q (n : Int) wr hown.byt (by omega) (by have := HN21.out; omega) (by have := HQL.out; omega)).mono ?_
      rintro e w2 ⟨v2, rfl, ho2, hb2⟩
      rw [Int.toNat_natCast] at ho2
      have HO3 : Hid (Own w0.heap.size w2 v2 (P ++ frB (l.take (i + 1)))) := hid (by
        rw [HNEW.out, ← List.append_assoc, HQ.out]
        exact ho2.more hB.size)
      have HB3 := hid (hB.trans (hb2.mono hB.size))
      have HWI : Hid (wrap64 ((i : Int) + 1) = ((i + 1 : Nat) : Int)) := hid (by have h1 := HLT.out; have h2 := HL21.out; unfold wrap64; omega)
      clear ho2 hb2 l1 hown
      go_wp2_with fail
      go_roundw
      case rel => exact ⟨i + 1, by have := HLT.out; omega, by first | rw [HWI.out] | go_num, HO3.out, HB3.out⟩
      case measure =>
        have h1 := HLT.out
        have hw := HWI.out
        (try simp only [hw]); simp [intOf]; omega
    · obtain rfl : i = L := by omega
      have htk : l.take i = l := List.take_of_length_le (by rw [HL.out]; exact Nat.le_refl _)
      rw [htk, ← HP.out] at hown
      simp only [List.append_assoc] at hown
      rw [← HO2.out] at hown
      clear htk
      go_wp2_with fail
      go_ret
      exact ⟨_, rfl, hown.more HB0.out.size, HB0.out.trans (hB.mono HB0.out.size)⟩
end Go.Proofs.YtjemfmbmlmogcaaGreat
namespace Go.Proofs.YtjemfmbmlmogcaaGreat
set_option maxRecDepth 20000
open Go.RowKit
attribute [local go_sem ↓] exec_load_ax
set_option maxHeartbeats 6400000 in
theorem acPut_ok : AcPutOk := by
  intro v u l a w hv hl hu hlc
  have HU := hid (fun W (h : Below w.heap.size w W) => hu.below h)
  have HLC := hid hlc
  obtain ⟨m, HM⟩ : ∃ m : Bool, Hid (mayX a = m) := ⟨_, hid rfl⟩
  have HPT : Hid (putX l a = if m = true then l ++ bytesX a else l) := hid (by unfold putX; rw [HM.out])
  obtain ⟨s, rfl, ho, ht⟩ := hu
  have hb0 : Below w.heap.size w (w.alloc (.cells (axc a s) 31)) := (Below.refl _ _).alloc (Nat.le_refl _) _
  have hr0 : (w.alloc (.cells (axc a s) 31)).heap[w.heap.size]? = some (.cells (axc a s) 31 (0, 0)) := heap_alloc_new w _
  have HLEN : Hid (m = true → (bytesX a).length ≤ 150) := hid (fun h => bytesX_len ho (HM.out.trans h))
  have HNP : Hid (m = true → 1 ≤ a.bo ∧ a.bo ≤ 21) := hid (fun h => ⟨(mayX_iff.1 (HM.out.trans h)).2.1, (mayX_iff.1 (HM.out.trans h)).2.2.1⟩)
  obtain ⟨C, HC⟩ : ∃ C : Array Value, Hid (axc a s = C) := ⟨_, hid rfl⟩
  rw [HC.out] at hb0 hr0 HU ⊢
  have HFI : Hid (∀ W, Below w.heap.size w W → Calls Tryz.prog 93 #[.agg C] W fun e w' => e = .returned (.bool m) ∧ Below W.heap.size W w') := hid (fun W h => by
    have := acFits_any _ a W (HU.out W h) HLC.out
    rw [HM.out] at this
    exact this)
  have HTD : Hid (m = true → ∀ W, Below w.heap.size w W → Calls Tryz.prog 95 #[.agg C] W fun e w' => ∃ x, e = .returned x ∧ Own W.heap.size w' x (taggedX a) ∧ Below W.heap.size W w') := hid (fun h W hb => acTagged_any _ a W (HU.out W hb) (HM.out.trans h))
  have HNU : Hid (m = true → ∀ W, Calls Tryz.prog 94 #[.slice none 0 0, .int .i64 a.bo] W fun e w' => ∃ x, e = .returned x ∧ Own W.heap.size w' x (dg a.bo.toNat) ∧ Below W.heap.size W w') := hid (fun h W => by
    obtain ⟨j1, j2⟩ := HNP.out h
    have := acnum_any (.slice none 0 0) [] a.bo W (Byt.nil _) (by omega) (by omega) (by decide)
    simpa using this)
  obtain ⟨T, HTT⟩ : ∃ x : List UInt8, Hid (taggedX a = x) := ⟨_, hid rfl⟩
  obtain ⟨U, HUU⟩ : ∃ x : List UInt8, Hid (dg a.bo.toNat = x) := ⟨_, hid rfl⟩
  have HBY : Hid (bytesX a = U ++ (T ++ a.tg)) := hid (by unfold bytesX; rw [HTT.out, HUU.out])
  rw [HTT.out] at HTD
  rw [HUU.out] at HNU
  have HTL : Hid (a.tg.length = 32) := hid ho.tg
  obtain ⟨bo, HBO⟩ : ∃ x : Int, Hid (a.bo = x) := ⟨_, hid rfl⟩
  rw [HBO.out] at HNU
  have HX : Hid (∀ W : World, W.heap[w.heap.size]? = some (.cells C 31 (0, 0)) → W.cell? ⟨w.heap.size, 0, none⟩ = some (.int .i64 bo) ∧ loadAx (.pointer (some ⟨w.heap.size, 0, none⟩)) W = .ok (.value (.agg C)) W) := hid (fun W h => by
    have h2 := h
    rw [← HC.out] at h2
    have hBX : BoxX W w.heap.size a s := h2
    have h3 := hBX.ints.1
    rw [HBO.out] at h3
    exact ⟨h3, loadAx_row h (by rw [← HC.out]; exact axc_size _ ho)⟩)
  have HTG : Hid (∀ W : World, W.heap[w.heap.size]? = some (.cells C 31 (0, 0)) → W.rangeAt w.heap.size 36 (bcells a.tg)) := hid (fun W h => by
    rw [← HC.out] at h
    have hBX : BoxX W w.heap.size a s := h
    exact hBX.tg ho)
  have HV := hid (fun W (h : Below w.heap.size w W) => hv.below h)
  obtain ⟨A, k, rfl⟩ := hv.shape
  have HL0 := hid hl
  clear ho ht hl hlc hv HC HUU HTT
  go_enter Tryz.func59, Tryz.ntmps59
  go_upto_region 1 with (fail)
  generalize (w.alloc (.cells C 31)) = w0 at *
  have l0 := (HX.out w0 hr0).2
  have HR0 := hid hr0
  have HB0 := hid hb0
  clear hr0 hb0
  go_wp2_with fail
  refine (HFI.out w0 HB0.out).mono ?_
  rintro e w1 ⟨rfl, hb1⟩
  have HB1 := hid (HB0.out.trans (hb1.mono HB0.out.size))
  have HR1 := hid ((hb1.block _ (lt_of_block HR0.out)).trans HR0.out)
  have hv1 := HV.out w1 HB1.out
  clear l0 hb1
  cases m with
  | false =>
    simp only [Bool.false_eq_true, if_false] at HPT
    clear HTD HNU HLEN
    go_wp2_with fail
    refine (concat1 _ l w1.heap.size _ (w1.alloc (.cells #[.slice A l.length k] 41)) (by simp) (by simp) (hv1.alloc _) (by have := HL0.out; omega)).mono ?_
    rintro e w2 ⟨x, rfl, ho2, hb2⟩
    go_wp2_with fail
    go_ret
    refine ⟨x, rfl, by rw [HPT.out]; exact ho2.byt, ?_⟩
    exact (HB1.out.alloc HB1.out.size _).trans (hb2.mono (by have := HB1.out.size; simp; omega))
  | true =>
    simp only [if_true] at HPT
    have HNU2 := hid (HNU.out rfl)
    have HTD2 := hid (HTD.out rfl)
    have HLEN2 := hid (HLEN.out rfl)
    clear HNU HTD HLEN HNP
    go_upto_region 3 with (fail)
    have hl1 := lt_of_block HR1.out
    have HRW : Hid (∀ W, Below w1.heap.size w1 W → W.heap[w.heap.size]? = some (.cells C 31 (0, 0))) := hid (fun W h => (h.block _ hl1).trans HR1.out)
    have HXW : Hid (∀ W, Below w1.heap.size w1 W → W.cell? ⟨w.heap.size, 0, none⟩ = some (.int .i64 bo) ∧ loadAx (.pointer (some ⟨w.heap.size, 0, none⟩)) W = .ok (.value (.agg C)) W) := hid (fun W h => HX.out W (HRW.out W h))
    have hbd : Below w1.heap.size w1 w1.drew := (Below.refl _ _).drew
    refine wp_region_held_drew (S := fun W => W.cell? ⟨w.heap.size, 0, none⟩ = some (.int .i64 bo) ∧ loadAx (.pointer (some ⟨w.heap.size, 0, none⟩)) W = .ok (.value (.agg C)) W) (by kernel_rfl) (HXW.out _ hbd) (fun hHeld => ?_)
    refine' tk (i := 0) (v := _) rfl ?_ ?_
    rotate_left
    · (intro W hW; (try dsimp only at hW); go_simp; first | done | with_reducible rfl)
    try simp only [lay]
    refine' tk (i := 1) (v := _) rfl ?_ ?_
    rotate_left
    · (intro W hW; (try dsimp only at hW); go_simp; first | done | with_reducible rfl)
    try simp only [lay]
    refine' tk (i := 2) (v := _) rfl ?_ ?_
    rotate_left
    · (intro W hW; (try dsimp only at hW); obtain ⟨hW1, hW2⟩ := hW; go_simp; first | done | with_reducible rfl)
    try simp only [lay]
    refine' tk (i := 4) (v := _) rfl (fun W hW => hW.2) ?_
    try simp only [lay]
    refine' tk (i := 6) (v := _) rfl ?_ ?_
    rotate_left
    · (intro W hW; (try dsimp only at hW); go_simp; first | done | with_reducible rfl)
    try simp only [lay]
    refine' tk (i := 7) (v := _) rfl ?_ ?_
    rotate_left
    · (intro W hW; (try dsimp only at hW); go_simp; first | done | with_reducible rfl)
    try simp only [lay]
    refine call_on (i := 3) rfl (by kernel_rfl) (by rfl) (fun K hK => ?_)
    go_simp
    refine (HNU2.out w1.drew).mono ?_
    rintro e w2 ⟨v2, rfl, ho2, hb2'⟩
    have hb2 := hbd.trans hb2'
    obtain ⟨A2, c2, rfl⟩ := ho2.byt.shape
    refine hK.out _ _ (HXW.out _ hb2) (fun hHeld => ?_)
    clear hK K
    try simp only [lay]
    refine call_on (i := 5) rfl (by kernel_rfl) (by rfl) (fun K hK => ?_)
    go_simp
    refine (HTD2.out w2 (HB1.out.trans (hb2.mono HB1.out.size))).mono ?_
    rintro e w3 ⟨v3, rfl, ho3, hb3'⟩
    have hb3 := hb2.trans (hb3'.mono hb2.size)
    have hv3 := ho3.byt
    obtain ⟨A3, c3, rfl⟩ := hv3.shape
    have hu3 := ho2.byt.below hb3'
    have hl3 := hv1.below hb3
    have hg3 := byt_range (HTG.out w3 (HRW.out w3 hb3)) (lt_of_block (HRW.out w3 hb3)) HTL.out (by unfold maxLen; omega)
    refine hK.out _ _ (HXW.out _ hb3) (fun hHeld => ?_)
    clear hK K
    try simp only [lay]
    have hb4 : Below w1.heap.size w1 (w3.alloc (.cells #[.slice A l.length k, .slice A2 U.length c2, .slice A3 T.length c3, .slice (some ⟨w.heap.size, 36, none⟩) 32 32] 41)) := hb3.alloc hb3.size _
    refine call_on (i := 8) rfl (by kernel_rfl) (by rfl) (fun K hK => ?_)
    go_simp
    refine hK.out _ _ (HXW.out _ hb4) (fun hHeld => ?_)
    clear hK K
    try simp only [lay]
    refine call_on (i := 9) rfl (by kernel_rfl) (by rfl) (fun K hK => ?_)
    go_simp
    refine (concat4 _ _ _ _ l U T a.tg w3.heap.size 4 (w3.alloc (.cells #[.slice A l.length k, .slice A2 U.length c2, .slice A3 T.length c3, .slice (some ⟨w.heap.size, 36, none⟩) 32 32] 41)) (by simp) (by simp) (by simp) (by simp) (by simp) (hl3.alloc _) (hu3.alloc _) (hv3.alloc _) (hg3.alloc _) (L := l ++ bytesX a) (by rw [HBY.out]) (by have := HL0.out; have := HLEN2.out; rw [List.length_append]; omega)).mono ?_
    rintro e w5 ⟨x5, rfl, ho5, hb5'⟩
    have hb5 := hb4.trans (hb5'.mono hb4.size)
    refine hK.out _ _ (HXW.out _ hb5) (fun hHeld => ?_)
    clear hK K
    try simp only [lay]
    refine' tk (i := 10) (v := _) rfl ?_ ?_
    rotate_left
    · (intro W hW; (try dsimp only at hW); go_simp; first | done | with_reducible rfl)
    try simp only [lay]
    refine wpAnyH_done (by kernel_rfl) ?_ _
    go_wp2_with fail
    go_ret
    exact ⟨x5, rfl, by rw [HPT.out]; exact ho5.byt, HB1.out.trans (hb5.mono HB1.out.size)⟩
end Go.Proofs.YtjemfmbmlmogcaaGreat
namespace Go.Proofs.YtjemfmbmlmogcaaGreat
set_option maxRecDepth 20000
open Go.RowKit
theorem results_xb {fn : Func} {q s : Tmp} (h : fn.results = #[.cell q 31, .tmp s]) (tmps : Array Value) (w : World) (g2 : Nat) (t2 : TypeId) (ys : Array Value) (v : Value)
    (hq : tmps.getD q undef = .pointer (some ⟨g2, 0, none⟩)) (hv : tmps.getD s undef = v) (h2 : w.heap[g2]? = some (.cells ys t2 (0, 0))) (hy : ys.size = 68) :
    (results fn tmps).run Tryz.prog w = .ok (.tuple #[.agg ys, v]) w := by
  have hq' : tmps[q]?.getD undef = .pointer (some ⟨g2, 0, none⟩) := by simpa using hq
  have hv' : tmps[s]?.getD undef = v := by simpa using hv
  have r2 := run_loadVar_row (P := Tryz.prog) w g2 t2 31 ys (0, 0) _ h2 under_ax rfl (by rw [size_ax, hy])
  simp [results, h, hq', hv', asAddr, r2]
end Go.Proofs.YtjemfmbmlmogcaaGreat
