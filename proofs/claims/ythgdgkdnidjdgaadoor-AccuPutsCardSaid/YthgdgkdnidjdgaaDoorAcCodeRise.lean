/-
  accu.viewed, accu.number, accu.rise: whether there is a view; a number's bytes behind others; whether numbers rise.
-/
import Derived.Test.YthgdgkdnidjdgaaDoorAcRd
import Derived.Test.YthgdgkdnidjdgaaDoorAcOk
import Derived.Test.YthgdgkdnidjdgaaDoorBs4
import Derived.Test.YthgdgkdnidjdgaaDoorBs1
import Derived.LoopTactic
import Derived.Outline
import Derived.Deep.QuietTactic
import Derived.BigQuiet
import Derived.Deep.DeepCutAuto
namespace Go.Proofs.YthgdgkdnidjdgaaDoor
set_option maxRecDepth 20000
open Go.RowKit

/-- Is there a view? -/
def viewB (i : Int) : Bool := decide (1 ≤ i ∧ i ≤ 1099511627776)
theorem acViewed_any (i : Int) (w : World) : Calls Tryd.prog 23 #[.int .i64 i] w fun e w' => e = .returned (.bool (viewB i)) ∧ w = w' := by
  by_cases h1 : 1 ≤ i
  · go_enter Tryd.func23, Tryd.ntmps23
    go_wp2
    go_ret
    exact ⟨ret_boolK (by unfold viewB; rw [Bool.eq_iff_iff]; simp; omega), rfl⟩
  · go_enter Tryd.func23, Tryd.ntmps23
    go_wp2
    go_ret
    exact ⟨ret_boolK (by unfold viewB; rw [eq_comm, decide_eq_false_iff_not]; omega), rfl⟩

theorem acnum_any (v : Value) (l : List UInt8) (n : Int) (w : World) (hv : Byt w v l) (h0 : 0 ≤ n) (h1 : n < 9223372036854775808) (hs : l.length ≤ 1099511627000) :
    Calls Tryd.prog 43 #[v, .int .i64 n] w fun e w' => ∃ x, e = .returned x ∧ Own w.heap.size w' x (l ++ dg n.toNat) ∧ Below w.heap.size w w' := by
  have hw : IntKind.u64.wrap n = n := wrap_u64 _ (by omega) (by omega)
  go_enter Tryd.func43, Tryd.ntmps43
  go_wp2_with fail
  refine (num_any v l n w hv h0 (by omega) hs).mono ?_
  rintro e w1 ⟨v1, rfl, ho1, hb1⟩
  go_wp2_with fail
  go_ret
  exact ⟨_, rfl, ho1, hb1⟩

/-- The last number; who is told if there is none. -/
def lastN : Int → List Int → Int
  | last, [] => last
  | _, s :: r => lastN s r
theorem lastN_snoc (s : Int) : ∀ (l : List Int) (last : Int), lastN last (l ++ [s]) = s
  | [], _ => rfl
  | x :: r, _ => lastN_snoc s r x
theorem risesI_snoc (top : Int) (s : Int) : ∀ (l : List Int) (last : Int), risesI top last (l ++ [s]) = (risesI top last l && (decide (lastN last l < s) && decide (s ≤ top)))
  | [], last => by
    show ((decide (last < s) && decide (s ≤ top)) && true) = (true && (decide (last < s) && decide (s ≤ top)))
    rw [Bool.and_true, Bool.true_and]
  | x :: r, last => by
    have := risesI_snoc top s r x
    simp only [List.cons_append, risesI, lastN, this, Bool.and_assoc]
    rfl
theorem risesI_pre (top : Int) (m : List Int) : ∀ (l : List Int) (last : Int), risesI top last (l ++ m) = true → risesI top last l = true
  | [], _, _ => rfl
  | x :: r, last, h => by
    simp only [List.cons_append, risesI, Bool.and_eq_true] at h ⊢
    exact ⟨h.1, risesI_pre top m r x h.2⟩
theorem lastN_ge (top : Int) : ∀ (l : List Int) (last : Int), risesI top last l = true → last ≤ lastN last l
  | [], _, _ => Int.le_refl _
  | x :: r, last, h => by
    simp only [risesI, Bool.and_eq_true, decide_eq_true_eq] at h
    have := lastN_ge top r x h.2
    show last ≤ lastN x r
    omega
theorem lastN_pos {top : Int} {l : List Int} (h : risesI top 0 l = true) : decide (0 < lastN 0 l) = decide (0 < l.length) := by
  cases l with
  | nil => rfl
  | cons x r =>
    simp only [risesI, Bool.and_eq_true, decide_eq_true_eq] at h
    have := lastN_ge top r x h.2
    have h1 : 0 < lastN 0 (x :: r) := by
      show 0 < lastN x r
      omega
    rw [decide_eq_true h1]
    exact (decide_eq_true (by simp)).symm
theorem risesN_more {l : List Int} {i : Nat} (h : i < l.length) (hr : risesI 21 0 (l.take i) = true) (h1 : ¬ l[i] ≤ lastN 0 (l.take i)) (h2 : nodeB l[i] = true) : risesI 21 0 (l.take (i + 1)) = true := by
  unfold nodeB at h2
  rw [decide_eq_true_eq] at h2
  rw [List.take_succ_eq_append_getElem h, risesI_snoc, hr, decide_eq_true (by omega), decide_eq_true (by omega)]
  rfl
theorem risesN_not {l : List Int} {i : Nat} (h : i < l.length) (hr : risesI 21 0 (l.take i) = true) (h1 : l[i] ≤ lastN 0 (l.take i) ∨ nodeB l[i] = false) : risesI 21 0 l = false := by
  cases hq : risesI 21 0 l with
  | false => rfl
  | true =>
    exfalso
    rw [← List.take_append_drop (i + 1) l] at hq
    have := risesI_pre _ _ _ _ hq
    rw [List.take_succ_eq_append_getElem h, risesI_snoc] at this
    simp only [Bool.and_eq_true, decide_eq_true_eq] at this
    have h0 := lastN_ge _ _ _ hr
    rcases h1 with h1 | h1
    · omega
    · unfold nodeB at h1
      rw [decide_eq_false_iff_not] at h1
      omega

set_option maxHeartbeats 1600000 in
theorem acRise_any (v : Value) (l : List Int) (w0 : World) (hv : Els icl 1 w0 v l) (hl : l.length ≤ 1000) :
    Calls Tryd.prog 58 #[v] w0 fun e w' => e = .returned (.bool (decide (0 < l.length) && risesI 21 0 l)) ∧ Below w0.heap.size w0 w' := by
  obtain ⟨A, c, rfl⟩ := hv.shape
  obtain ⟨n, HN⟩ : ∃ n : Nat, Hid (l.length = n) := ⟨_, hid rfl⟩
  rw [HN.out] at hv hl ⊢
  have HT := hid hv
  obtain ⟨ans, HAN⟩ : ∃ q : Bool, Hid ((decide (0 < n) && risesI 21 0 l) = q) := ⟨_, hid rfl⟩
  rw [HAN.out]
  clear hv
  go_enter Tryd.func58, Tryd.ntmps58
  go_wp2_with fail
  go_loopw [3, 8] (fun la si wr => ∃ i : Nat, i ≤ n ∧ si = .int .i64 i ∧ la = .int .i64 (lastN 0 (l.take i)) ∧ Hid (risesI 21 0 (l.take i) = true) ∧ Below w0.heap.size w0 wr) (fun _ si _ => n - (intOf si).toNat)
  case atStart => exact ⟨0, Nat.zero_le _, rfl, rfl, hid rfl, Below.refl _ _⟩
  case round =>
    obtain ⟨i, hi, rfl, rfl, HR, hbr⟩ := hrel
    by_cases hlt : i < n
    · have hil : i < l.length := by rw [HN.out]; exact hlt
      obtain ⟨b, o, rfl, hg, hcl⟩ := (HT.out.below hbr).at_.2.2.2 (by omega)
      have hI : (i : Int) < (n : Int) := by omega
      have l1 : wr.cell? ⟨b, o + i, none⟩ = some (.int .i64 l[i]) := by
        have := hcl i hil 0 _ rfl
        rwa [Nat.mul_one, Nat.add_zero] at this
      have HMORE : Hid (¬ l[i] ≤ lastN 0 (l.take i) → nodeB l[i] = true → risesI 21 0 (l.take (i + 1)) = true) := hid (risesN_more hil HR.out)
      have HNOT : Hid ((l[i] ≤ lastN 0 (l.take i) ∨ nodeB l[i] = false) → ans = false) := hid (fun h => by rw [← HAN.out, risesN_not hil HR.out h, Bool.and_false])
      have HLAST : Hid (lastN 0 (l.take (i + 1)) = l[i]) := hid (by rw [List.take_succ_eq_append_getElem hil, lastN_snoc])
      obtain ⟨bo, HBO⟩ : ∃ x : Int, Hid (l[i] = x) := ⟨_, hid rfl⟩
      obtain ⟨la, HLA⟩ : ∃ x : Int, Hid (lastN 0 (l.take i) = x) := ⟨_, hid rfl⟩
      rw [HBO.out] at HMORE HNOT HLAST l1
      rw [HLA.out] at HMORE HNOT ⊢
      clear hcl hg
      by_cases h1 : bo ≤ la
      · obtain rfl : ans = false := HNOT.out (.inl h1)
        go_wp2_with fail
        go_ret
        exact ⟨rfl, hbr⟩
      · obtain ⟨nb, HNB⟩ : ∃ q : Bool, Hid (nodeB bo = q) := ⟨_, hid rfl⟩
        have HCN := hid (fun W => node_any bo W)
        rw [HNB.out] at HCN HMORE HNOT
        have HH1 := hid h1
        go_wp2_with fail
        refine (HCN.out wr).mono ?_
        rintro e w2 ⟨rfl, rfl⟩
        cases nb with
        | false =>
          obtain rfl : ans = false := HNOT.out (.inr rfl)
          go_wp2_with fail
          go_ret
          exact ⟨rfl, hbr⟩
        | true =>
          have HM2 := hid (HMORE.out HH1.out rfl)
          clear HMORE HNOT
          go_wp2_with fail
          go_roundw
          case rel => exact ⟨i + 1, by omega, by go_num, by rw [HLAST.out], hid HM2.out, hbr⟩
          case measure => simp [intOf]; omega
    · obtain rfl : i = n := by omega
      have htk : l.take i = l := List.take_of_length_le (by rw [HN.out]; exact Nat.le_refl _)
      have HANS : Hid (ans = decide (0 < lastN 0 (l.take i))) := hid (by
        have h := HR.out
        rw [htk] at h ⊢
        rw [← HAN.out, h, Bool.and_true, lastN_pos h, HN.out])
      obtain ⟨la, HLA⟩ : ∃ x : Int, Hid (lastN 0 (l.take i) = x) := ⟨_, hid rfl⟩
      rw [HLA.out] at HANS ⊢
      clear htk
      by_cases h1 : 0 < la
      · obtain rfl : ans = true := by rw [HANS.out, decide_eq_true h1]
        go_wp2_with fail
        go_ret
        exact ⟨rfl, hbr⟩
      · obtain rfl : ans = false := by rw [HANS.out, decide_eq_false h1]
        go_wp2_with fail
        go_ret
        exact ⟨rfl, hbr⟩
end Go.Proofs.YthgdgkdnidjdgaaDoor
