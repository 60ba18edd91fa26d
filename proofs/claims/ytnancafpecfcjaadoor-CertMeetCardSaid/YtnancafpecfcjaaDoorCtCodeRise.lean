/-
  cert.rise: whether signers rise.
-/
import Derived.Test.YtnancafpecfcjaaDoorBs11
import Derived.Test.YtnancafpecfcjaaDoorBs10
import Derived.Test.YtnancafpecfcjaaDoorBs4
import Derived.LoopTactic
import Derived.Outline
import Derived.Deep.QuietTactic
import Derived.BigQuiet
import Derived.Deep.DeepCutAuto
namespace Go.Proofs.YtnancafpecfcjaaDoor
set_option maxRecDepth 20000
open Go.RowKit
attribute [local go_sem ↓] exec_load_sg exec_alloc_sg exec_store_sg

/-- The last signer; who is told if there is none. -/
def lastO : Int → List SgM → Int
  | last, [] => last
  | _, s :: r => lastO s.bo r
theorem lastO_snoc (s : SgM) : ∀ (l : List SgM) (last : Int), lastO last (l ++ [s]) = s.bo
  | [], _ => rfl
  | x :: r, _ => lastO_snoc s r x.bo
theorem risesB_snoc (top : Int) (s : SgM) : ∀ (l : List SgM) (last : Int), risesB top last (l ++ [s]) = (risesB top last l && (decide (lastO last l < s.bo) && decide (s.bo ≤ top)))
  | [], last => by
    show ((decide (last < s.bo) && decide (s.bo ≤ top)) && true) = (true && (decide (last < s.bo) && decide (s.bo ≤ top)))
    rw [Bool.and_true, Bool.true_and]
  | x :: r, last => by
    have := risesB_snoc top s r x.bo
    simp only [List.cons_append, risesB, lastO, this, Bool.and_assoc]
    rfl
theorem risesB_pre (top : Int) (m : List SgM) : ∀ (l : List SgM) (last : Int), risesB top last (l ++ m) = true → risesB top last l = true
  | [], _, _ => rfl
  | x :: r, last, h => by
    simp only [List.cons_append, risesB, Bool.and_eq_true] at h ⊢
    exact ⟨h.1, risesB_pre top m r x.bo h.2⟩
theorem lastO_ge (top : Int) : ∀ (l : List SgM) (last : Int), risesB top last l = true → last ≤ lastO last l
  | [], _, _ => Int.le_refl _
  | x :: r, last, h => by
    simp only [risesB, Bool.and_eq_true, decide_eq_true_eq] at h
    have := lastO_ge top r x.bo h.2
    show last ≤ lastO x.bo r
    omega
theorem lastO_pos {top : Int} {l : List SgM} (h : risesB top 0 l = true) : decide (0 < lastO 0 l) = decide (0 < l.length) := by
  cases l with
  | nil => rfl
  | cons x r =>
    simp only [risesB, Bool.and_eq_true, decide_eq_true_eq] at h
    have := lastO_ge top r x.bo h.2
    have h1 : 0 < lastO 0 (x :: r) := by
      show 0 < lastO x.bo r
      omega
    rw [decide_eq_true h1]
    exact (decide_eq_true (by simp)).symm
theorem take_one (l : List SgM) (i : Nat) (h : i < l.length) : l.take (i + 1) = l.take i ++ [l[i]] := List.take_succ_eq_append_getElem h
theorem rises_more {l : List SgM} {i : Nat} (h : i < l.length) (hr : risesB 21 0 (l.take i) = true) (h1 : ¬ l[i].bo ≤ lastO 0 (l.take i)) (h2 : nodeB l[i].bo = true) : risesB 21 0 (l.take (i + 1)) = true := by
  unfold nodeB at h2
  rw [decide_eq_true_eq] at h2
  rw [take_one l i h, risesB_snoc, hr, decide_eq_true (by omega), decide_eq_true (by omega)]
  rfl
theorem rises_not {l : List SgM} {i : Nat} (h : i < l.length) (hr : risesB 21 0 (l.take i) = true) (h1 : l[i].bo ≤ lastO 0 (l.take i) ∨ nodeB l[i].bo = false) : risesB 21 0 l = false := by
  cases hq : risesB 21 0 l with
  | false => rfl
  | true =>
    exfalso
    rw [← List.take_append_drop (i + 1) l] at hq
    have := risesB_pre _ _ _ _ hq
    rw [take_one l i h, risesB_snoc] at this
    simp only [Bool.and_eq_true, decide_eq_true_eq] at this
    have h0 := lastO_ge _ _ _ hr
    rcases h1 with h1 | h1
    · omega
    · unfold nodeB at h1
      rw [decide_eq_false_iff_not] at h1
      omega

set_option maxHeartbeats 1600000 in
theorem ctRise_any (v : Value) (l : List SgM) (w0 : World) (hv : Els scl 33 w0 v l) (ho : ∀ s ∈ l, s.Ok) (hl : l.length ≤ 1000) :
    Calls Tryd.prog 56 #[v] w0 fun e w' => e = .returned (.bool (decide (0 < l.length) && risesB 21 0 l)) ∧ Below w0.heap.size w0 w' := by
  obtain ⟨A, c, rfl⟩ := hv.shape
  obtain ⟨n, HN⟩ : ∃ n : Nat, Hid (l.length = n) := ⟨_, hid rfl⟩
  rw [HN.out] at hv hl ⊢
  have HT := hid hv
  have HO := hid ho
  obtain ⟨ans, HAN⟩ : ∃ q : Bool, Hid ((decide (0 < n) && risesB 21 0 l) = q) := ⟨_, hid rfl⟩
  rw [HAN.out]
  obtain ⟨Z, HZ⟩ : ∃ C : Array Value, Hid (sgc sgZ = C) := ⟨_, hid rfl⟩
  have HZS : Hid (Z.size = 33) := hid (by rw [← HZ.out]; exact sgc_size sgZ_ok)
  have hal : ∀ W, allocSg W = .ok (.value (.pointer (some ⟨W.heap.size, 0, none⟩))) (W.alloc (.cells Z 63)) := fun W => by rw [← HZ.out]; exact allocSg_eq W
  clear hv ho
  go_enter Tryd.func56, Tryd.ntmps56
  go_wp2_with fail
  go_loopw [3, 8] (fun la si wr => ∃ i : Nat, i ≤ n ∧ si = .int .i64 i ∧ la = .int .i64 (lastO 0 (l.take i)) ∧ Hid (risesB 21 0 (l.take i) = true) ∧ Below w0.heap.size w0 wr) (fun _ si _ => n - (intOf si).toNat)
  case atStart => exact ⟨0, Nat.zero_le _, rfl, rfl, hid rfl, Below.refl _ _⟩
  case round =>
    obtain ⟨i, hi, rfl, rfl, HR, hbr⟩ := hrel
    by_cases hlt : i < n
    · have hil : i < l.length := by rw [HN.out]; exact hlt
      obtain ⟨b, o, rfl, hg, hcl⟩ := (HT.out.below hbr).at_.2.2.2 (by omega)
      have hI : (i : Int) < (n : Int) := by omega
      have hoi := HO.out _ (List.getElem_mem hil)
      have l1 : loadSg (.pointer (some ⟨b, o + i * 33, none⟩)) wr = .ok (.value (.agg (sgc l[i]))) wr := loadSg_mid (hcl i hil) hoi
      have HXS : Hid ((sgc l[i]).size = 33 ∧ (sgc l[i]).all (·.oneCell') = true) := hid ⟨sgc_size hoi, sgc_one _⟩
      have HMORE : Hid (¬ l[i].bo ≤ lastO 0 (l.take i) → nodeB l[i].bo = true → risesB 21 0 (l.take (i + 1)) = true) := hid (rises_more hil HR.out)
      have HNOT : Hid ((l[i].bo ≤ lastO 0 (l.take i) ∨ nodeB l[i].bo = false) → ans = false) := hid (fun h => by rw [← HAN.out, rises_not hil HR.out h, Bool.and_false])
      have HLAST : Hid (lastO 0 (l.take (i + 1)) = l[i].bo) := hid (by rw [take_one l i hil, lastO_snoc])
      have HC0 : Hid (∀ (W : World) (g : Nat), W.heap[g]? = some (.cells (sgc l[i]) 63 (0, 0)) → W.cell? ⟨g, 0, none⟩ = some (.int .i64 l[i].bo)) := hid (fun W g h => cell_blk h 0)
      obtain ⟨X, HX⟩ : ∃ C : Array Value, Hid (sgc l[i] = C) := ⟨_, hid rfl⟩
      obtain ⟨bo, HBO⟩ : ∃ x : Int, Hid (l[i].bo = x) := ⟨_, hid rfl⟩
      obtain ⟨la, HLA⟩ : ∃ x : Int, Hid (lastO 0 (l.take i) = x) := ⟨_, hid rfl⟩
      rw [HX.out] at l1 HXS HC0
      rw [HBO.out] at HMORE HNOT HLAST HC0
      rw [HLA.out] at HMORE HNOT ⊢
      have hst := sg_var wr HZS.out HXS.out.1 HXS.out.2
      have hal1 := hal wr
      clear hcl hoi hg
      go_upto_region 5 with (fail)
      have hr1 := heap_alloc_new wr (.cells X 63)
      have hb1 : Below w0.heap.size w0 (wr.alloc (.cells X 63)) := hbr.alloc hbr.size _
      have c0 := HC0.out _ _ hr1
      clear l1 hst hr1
      generalize (wr.alloc (.cells X 63)) = w1 at *
      by_cases h1 : bo ≤ la
      · obtain rfl : ans = false := HNOT.out (.inl h1)
        go_wp2_with fail
        go_ret
        exact ⟨rfl, hb1⟩
      · obtain ⟨nb, HNB⟩ : ∃ q : Bool, Hid (nodeB bo = q) := ⟨_, hid rfl⟩
        have HCN := hid (fun W => node_any bo W)
        rw [HNB.out] at HCN HMORE HNOT
        have HH1 := hid h1
        go_wp2_with fail
        refine (HCN.out w1).mono ?_
        rintro e w2 ⟨rfl, rfl⟩
        cases nb with
        | false =>
          obtain rfl : ans = false := HNOT.out (.inr rfl)
          go_wp2_with fail
          go_ret
          exact ⟨rfl, hb1⟩
        | true =>
          have HM2 := hid (HMORE.out HH1.out rfl)
          clear HMORE HNOT
          go_wp2_with fail
          go_roundw
          case rel => exact ⟨i + 1, by omega, by go_num, by rw [HLAST.out], hid HM2.out, hb1⟩
          case measure => simp [intOf]; omega
    · obtain rfl : i = n := by omega
      have htk : l.take i = l := List.take_of_length_le (by rw [HN.out]; exact Nat.le_refl _)
      have HANS : Hid (ans = decide (0 < lastO 0 (l.take i))) := hid (by
        have h := HR.out
        rw [htk] at h ⊢
        rw [← HAN.out, h, Bool.and_true, lastO_pos h, HN.out])
      obtain ⟨la, HLA⟩ : ∃ x : Int, Hid (lastO 0 (l.take i) = x) := ⟨_, hid rfl⟩
      rw [HLA.out] at HANS ⊢
      clear htk
      by_cases h1 : 0 < la
      · obtain rfl : ans = true := by rw [HANS.out, decide_eq_true h1]
        go_wp2_with fail
        go_ret
        exact ⟨rfl, hbr⟩
      · obtain rfl : ans = false := by rw [HANS.out, decide_eq_false h1]
        go_wp2_with fail
        go_ret
        exact ⟨rfl, hbr⟩
end Go.Proofs.YtnancafpecfcjaaDoor
