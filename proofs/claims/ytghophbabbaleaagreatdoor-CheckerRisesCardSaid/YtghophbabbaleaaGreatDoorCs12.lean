/-
  CtCodeRise CtCodeFits CtCodeRight CtRight CtArg: what each of them says stands at its head.
-/
import Derived.Test.YtghophbabbaleaaGreatDoorCs11
namespace Go.Proofs.YtghophbabbaleaaGreatDoor
set_option maxRecDepth 20000
open Go.RowKit
attribute [local go_sem ↓] exec_load_sg exec_alloc_sg exec_store_sg
def lastO : Int → List SgM → Int
  | last, [] => last
  | _, s :: r => lastO s.bo r
theorem lastO_snoc (s : SgM) : ∀ (l : List SgM) (last : Int), lastO last (l ++ [s]) = s.bo
  | [], _ => rfl
  | x :: r, _ => lastO_snoc s r x.bo
theorem risesB_snoc (top : Int) (s : SgM) : ∀ (l : List SgM) (last : Int), risesB top last (l ++ [s]) = (risesB top last l && (decide (lastO last l < s.bo) && decide (s.bo ≤ top)))
  | [], last => by
    show ((decide (last < s.bo) && decide (s.bo ≤ top)) && true) = (true && (decide (last < s.bo) && decide (s.bo ≤ top)))
    rw [Bool.and_true, Bool.true_and]
  | x :: r, last => by
    have := risesB_snoc top s r x.bo
    simp only [List.cons_append, risesB, lastO, this, Bool.and_assoc]
    rfl
theorem risesB_pre (top : Int) (m : List SgM) : ∀ (l : List SgM) (last : Int), risesB top last (l ++ m) = true → risesB top last l = true
  | [], _, _ => rfl
  | x :: r, last, h => by
    simp only [List.cons_append, risesB, Bool.and_eq_true] at h ⊢
    exact ⟨h.1, risesB_pre top m r x.bo h.2⟩
theorem lastO_ge (top : Int) : ∀ (l : List SgM) (last : Int), risesB top last l = true → last ≤ lastO last l
  | [], _, _ => Int.le_refl _
  | x :: r, last, h => by
    simp only [risesB, Bool.and_eq_true, decide_eq_true_eq] at h
    have := lastO_ge top r x.bo h.2
    show last ≤ lastO x.bo r
    omega
theorem lastO_pos {top : Int} {l : List SgM} (h : risesB top 0 l = true) : decide (0 < lastO 0 l) = decide (0 < l.length) := by
  cases l with
  | nil => rfl
  | cons x r =>
    simp only [risesB, Bool.and_eq_true, decide_eq_true_eq] at h
    have := lastO_ge top r x.bo h.2
    have h1 : 0 < lastO 0 (x :: r) := by
      show 0 < lastO x.bo r
      omega
    rw [decide_eq_true h1]
    exact (decide_eq_true (by simp)).symm
theorem take_one (l : List SgM) (i : Nat) (h : i < l.length) : l.take (i + 1) = l.take i ++ [l[i]] := List.take_succ_eq_append_getElem h
theorem rises_more {l : List SgM} {i : Nat} (h : i < l.length) (hr : risesB 21 0 (l.take i) = true) (h1 : ¬ l[i].bo ≤ lastO 0 (l.take i)) (h2 : nodeB l[i].bo = true) : risesB 21 0 (l.take (i + 1)) = true := by
  unfold nodeB at h2
  rw [decide_eq_true_eq] at h2
  rw [take_one l i h, risesB_snoc, hr, decide_eq_true (by omega), decide_eq_true (by omega)]
  rfl
theorem rises_not {l : List SgM} {i : Nat} (h : i < l.length) (hr : risesB 21 0 (l.take i) = true) (h1 : l[i].bo ≤ lastO 0 (l.take i) ∨ nodeB l[i].bo = false) : risesB 21 0 l = false := by
  cases hq : risesB 21 0 l with
  | false => rfl
  | true =>
    exfalso
    rw [← List.take_append_drop (i + 1) l] at hq
    have := risesB_pre _ _ _ _ hq
    rw [take_one l i h, risesB_snoc] at this
    simp only [Bool.and_eq_true, decide_eq_true_eq] at this
    have h0 := lastO_ge _ _ _ hr
    rcases h1 with h1 | h1
    · omega
    · unfold nodeB at h1
      rw [decide_eq_false_iff_not] at h1
      omega
set_option maxHeartbeats 1600000 in
theorem ctRise_any (v : Value) (l : List SgM) (w0 : World) (hv : Els scl 33 w0 v l) (ho : ∀ s ∈ l, s.Ok) (hl : l.length ≤ 1000) :
    Calls Tryz.prog 149 #[v] w0 fun e w' => e = .returned (.bool (decide (0 < l.length) && risesB 21 0 l)) ∧ Below w0.heap.size w0 w' := by
  obtain ⟨A, c, rfl⟩ := hv.shape
  obtain ⟨n, HN⟩ : ∃ n : Nat, Hid (l.length = n) := ⟨_, hid rfl⟩
  rw [HN.out] at hv hl ⊢
  have HT := hid hv
  have HO := hid ho
  obtain ⟨ans, HAN⟩ : ∃ q : Bool, Hid ((decide (0 < n) && risesB 21 0 l) = q) := ⟨_, hid rfl⟩
  rw [HAN.out]
  obtain ⟨Z, HZ⟩ : ∃ C : Array Value, Hid (sgc sgZ = C) := ⟨_, hid rfl⟩
  have HZS : Hid (Z.size = 33) := hid (by rw [← HZ.out]; exact sgc_size sgZ_ok)
  have hal : ∀ W, allocSg W = .ok (.value (.pointer (some ⟨W.heap.size, 0, none⟩))) (W.alloc (.cells Z 151)) := fun W => by rw [← HZ.out]; exact allocSg_eq W
  clear hv ho
  go_enter Tryz.func149, Tryz.ntmps149
  go_wp2_with fail
  go_loopw [3, 8] (fun la si wr => ∃ i : Nat, i ≤ n ∧ si = .int .i64 i ∧ la = .int .i64 (lastO 0 (l.take i)) ∧ Hid (risesB 21 0 (l.take i) = true) ∧ Below w0.heap.size w0 wr) (fun _ si _ => n - (intOf si).toNat)
  case atStart => exact ⟨0, Nat.zero_le _, rfl, rfl, hid rfl, Below.refl _ _⟩
  case round =>
    obtain ⟨i, hi, rfl, rfl, HR, hbr⟩ := hrel
    by_cases hlt : i < n
    · have hil : i < l.length := by rw [HN.out]; exact hlt
      obtain ⟨b, o, rfl, hg, hcl⟩ := (HT.out.below hbr).at_.2.2.2 (by omega)
      have hI : (i : Int) < (n : Int) := by omega
      have hoi := HO.out _ (List.getElem_mem hil)
      have l1 : loadSg (.pointer (some ⟨b, o + i * 33, none⟩)) wr = .ok (.value (.agg (sgc l[i]))) wr := loadSg_mid (hcl i hil) hoi
      have HXS : Hid ((sgc l[i]).size = 33 ∧ (sgc l[i]).all (·.oneCell') = true) := hid ⟨sgc_size hoi, sgc_one _⟩
      have HMORE : Hid (¬ l[i].bo ≤ lastO 0 (l.take i) → nodeB l[i].bo = true → risesB 21 0 (l.take (i + 1)) = true) := hid (rises_more hil HR.out)
      have HNOT : Hid ((l[i].bo ≤ lastO 0 (l.take i) ∨ nodeB l[i].bo = false) → ans = false) := hid (fun h => by rw [← HAN.out, rises_not hil HR.out h, Bool.and_false])
      have HLAST : Hid (lastO 0 (l.take (i + 1)) = l[i].bo) := hid (by rw [take_one l i hil, lastO_snoc])
      have HC0 : Hid (∀ (W : World) (g : Nat), W.heap[g]? = some (.cells (sgc l[i]) 151 (0, 0)) → W.cell? ⟨g, 0, none⟩ = some (.int .i64 l[i].bo)) := hid (fun W g h => cell_blk h 0)
      obtain ⟨X, HX⟩ : ∃ C : Array Value, Hid (sgc l[i] = C) := ⟨_, hid rfl⟩
      obtain ⟨bo, HBO⟩ : ∃ x : Int, Hid (l[i].bo = x) := ⟨_, hid rfl⟩
      obtain ⟨la, HLA⟩ : ∃ x : Int, Hid (lastO 0 (l.take i) = x) := ⟨_, hid rfl⟩
      rw [HX.out] at l1 HXS HC0
      rw [HBO.out] at HMORE HNOT HLAST HC0
      rw [HLA.out] at HMORE HNOT ⊢
      have hst := sg_var wr HZS.out HXS.out.1 HXS.out.2
      have hal1 := hal wr
      clear hcl hoi hg
      go_upto_region 5 with (fail)
      have hr1 := heap_alloc_new wr (.cells X 151)
      have hb1 : Below w0.heap.size w0 (wr.alloc (.cells X 151)) := hbr.alloc hbr.size _
      have c0 := HC0.out _ _ hr1
      clear l1 hst hr1
      generalize (wr.alloc (.cells X 151)) = w1 at *
      by_cases h1 : bo ≤ la
      · obtain rfl : ans = false := HNOT.out (.inl h1)
        go_wp2_with fail
        go_ret
        exact ⟨rfl, hb1⟩
      · obtain ⟨nb, HNB⟩ : ∃ q : Bool, Hid (nodeB bo = q) := ⟨_, hid rfl⟩
        have HCN := hid (fun W => node_any bo W)
        rw [HNB.out] at HCN HMORE HNOT
        have HH1 := hid h1
        go_wp2_with fail
        refine (HCN.out w1).mono ?_
        rintro e w2 ⟨rfl, rfl⟩
        cases nb with
        | false =>
          obtain rfl : ans = false := HNOT.out (.inr rfl)
          go_wp2_with fail
          go_ret
          exact ⟨rfl, hb1⟩
        | true =>
          have HM2 := hid (HMORE.out HH1.out rfl)
          clear HMORE HNOT
          go_wp2_with fail
          go_roundw
          case rel => exact ⟨i + 1, by omega, by go_num, by rw [HLAST.out], hid HM2.out, hb1⟩
          case measure => simp [intOf]; omega
    · obtain rfl : i = n := by omega
      have htk : l.take i = l := List.take_of_length_le (by rw [HN.out]; exact Nat.le_refl _)
      have HANS : Hid (ans = decide (0 < lastO 0 (l.take i))) := hid (by
        have h := HR.out
        rw [htk] at h ⊢
        rw [← HAN.out, h, Bool.and_true, lastO_pos h, HN.out])
      obtain ⟨la, HLA⟩ : ∃ x : Int, Hid (lastO 0 (l.take i) = x) := ⟨_, hid rfl⟩
      rw [HLA.out] at HANS ⊢
      clear htk
      by_cases h1 : 0 < la
      · obtain rfl : ans = true := by rw [HANS.out, decide_eq_true h1]
        go_wp2_with fail
        go_ret
        exact ⟨rfl, hbr⟩
      · obtain rfl : ans = false := by rw [HANS.out, decide_eq_false h1]
        go_wp2_with fail
        go_ret
        exact ⟨rfl, hbr⟩
end Go.Proofs.YtghophbabbaleaaGreatDoor
namespace Go.Proofs.YtghophbabbaleaaGreatDoor
set_option maxRecDepth 20000
open Go.RowKit
attribute [local go_sem ↓] exec_load_att exec_load_ct exec_build_sg1 exec_load_hash exec_build_hash
set_option maxHeartbeats 1600000 in
theorem ctFits_any (v : Value) (c : CtM) (w : World) (hv : CtV w v c) (hl : c.sg.length ≤ 1000) :
    Calls Tryz.prog 107 #[v] w fun e w' => e = .returned (.bool (mayC c)) ∧ Below w.heap.size w w' := by
  obtain ⟨s, rfl, ho, ht⟩ := hv
  have hb0 : Below w.heap.size w (w.alloc (.cells (ctc c s) 55)) := (Below.refl _ _).alloc (Nat.le_refl _) _
  have hr0 := heap_alloc_new w (.cells (ctc c s) 55)
  obtain ⟨A, k, rfl⟩ := ht.shape
  have HT := hid (fun W (h : Below w.heap.size w W) => ht.below h)
  have HLL := hid hl
  have HSO := hid ho.sg
  obtain ⟨L, HL⟩ : ∃ n : Nat, Hid (c.sg.length = n) := ⟨_, hid rfl⟩
  rw [HL.out] at hr0 hb0 HT ⊢
  obtain ⟨C, HC⟩ : ∃ C : Array Value, Hid (ctc c (.slice A L k) = C) := ⟨_, hid rfl⟩
  rw [HC.out] at hr0 hb0 ⊢
  obtain ⟨ans, HAN⟩ : ∃ q : Bool, Hid (mayC c = q) := ⟨_, hid rfl⟩
  obtain ⟨n, HN⟩ : ∃ n : Int, Hid (c.att.bo = n) := ⟨_, hid rfl⟩
  obtain ⟨q1, HQ1⟩ : ∃ q : Bool, Hid (decide (c.att.tg = z32) = q) := ⟨_, hid rfl⟩
  obtain ⟨m, HM⟩ : ∃ q : Bool, Hid (mayA (withC c.att ⟨1, z32⟩) = q) := ⟨_, hid rfl⟩
  obtain ⟨r, HR⟩ : ∃ q : Bool, Hid ((decide (0 < c.sg.length) && risesB 21 0 c.sg) = q) := ⟨_, hid rfl⟩
  have HMC : Hid (ans = ((decide (n = 0) && q1) && (m && r))) := hid (by rw [← HAN.out]; unfold mayC bareC; rw [HN.out, HQ1.out, HM.out, HR.out])
  rw [HAN.out]
  have hw1 : (withC c.att ⟨1, z32⟩).Ok := withC_ok ho.att rfl
  have HWI : Hid (∀ W, Calls Tryz.prog 109 #[.agg (atc c.att), .agg (sgc ⟨1, z32⟩)] W fun e w' => e = .returned (.agg (atc (withC c.att ⟨1, z32⟩))) ∧ Below W.heap.size W w') := hid (fun W => ctWith_any c.att ⟨1, z32⟩ W ho.att rfl)
  have HMA : Hid (∀ W, Calls Tryz.prog 148 #[.agg (atc (withC c.att ⟨1, z32⟩))] W fun e w' => e = .returned (.int .i64 (if m = true then 0 else 1)) ∧ Below W.heap.size W w') := hid (fun W => by
    have := atCheck_ok _ W hw1
    rw [HM.out] at this
    exact this)
  have HRI : Hid (∀ W, Below w.heap.size w W → Calls Tryz.prog 149 #[.slice A L k] W fun e w' => e = .returned (.bool r) ∧ Below W.heap.size W w') := hid (fun W h => by
    have := ctRise_any (.slice A L k) c.sg W (HT.out W h) HSO.out HLL.out
    rw [HR.out] at this
    exact this)
  obtain ⟨G, HG⟩ : ∃ C : Array Value, Hid (atc c.att = C) := ⟨_, hid rfl⟩
  obtain ⟨S, HS⟩ : ∃ C : Array Value, Hid (sgc ⟨1, z32⟩ = C) := ⟨_, hid rfl⟩
  obtain ⟨X, HX⟩ : ∃ C : Array Value, Hid (atc (withC c.att ⟨1, z32⟩) = C) := ⟨_, hid rfl⟩
  rw [HG.out, HS.out, HX.out] at HWI
  rw [HX.out] at HMA
  obtain ⟨T, HTT⟩ : ∃ C : Array Value, Hid (hcells c.att.tg = C) := ⟨_, hid rfl⟩
  obtain ⟨O, HO⟩ : ∃ C : Array Value, Hid (hcells z32 = C) := ⟨_, hid rfl⟩
  have HLD : Hid (∀ W : World, W.heap[w.heap.size]? = some (.cells C 55 (0, 0)) → (W.cell? ⟨w.heap.size, 0, none⟩ = some (.int .i64 n) ∧ loadH (.pointer (some ⟨w.heap.size, 69, none⟩)) W = .ok (.value (.agg T)) W) ∧ loadAtt (.pointer (some ⟨w.heap.size, 0, none⟩)) W = .ok (.value (.agg G)) W ∧ W.cell? ⟨w.heap.size, 101, none⟩ = some (.slice A L k)) := hid (fun W h => by
    rw [← HC.out] at h
    have hBC : BoxC W w.heap.size c (.slice A L k) := h
    have k0 := hBC.bo
    have k1 := loadH_mid (hBC.tag ho.att) ho.att.tg
    rw [HN.out] at k0
    rw [HTT.out] at k1
    refine ⟨⟨k0, k1⟩, ?_, hBC.sigs ho.att⟩
    rw [← HG.out]
    exact loadAtt_in hBC.att ho.att)
  have heq := fun W => eq_hash c.att.tg z32 ho.att.tg rfl W
  rw [HQ1.out, HTT.out, HO.out] at heq
  have hbz : ∀ W, buildH W = .ok (.value (.agg O)) W := fun W => by rw [← HO.out, buildH_eq, fcells_nought]; rfl
  clear ho ht hw1 hl
  go_enter Tryz.func107, Tryz.ntmps107
  go_upto_region 1 with (fail)
  generalize (w.alloc (.cells C 55)) = w0 at *
  have hl0 := lt_of_block hr0
  have HF := hid (fun W (h : Below w0.heap.size w0 W) => HLD.out W ((h.block _ hl0).trans hr0))
  obtain ⟨⟨k0, k1⟩, la, c0⟩ := HF.out w0 (Below.refl _ _)
  clear hr0 hl0
  by_cases h0 : n = 0
  · subst h0
    cases q1 with
    | false =>
      obtain rfl : ans = false := by rw [HMC.out]; rfl
      clear la c0
      go_wp2_with fail
      go_ret
      exact ⟨rfl, hb0⟩
    | true =>
      have HMC2 : Hid (ans = (m && r)) := hid (by rw [HMC.out]; rfl)
      go_upto_region 3 with (fail)
      clear k0 k1 c0 heq hbz
      go_wp2_with fail
      rw [HS.out]
      refine (HWI.out w0).mono ?_
      rintro e w2 ⟨rfl, hb2⟩
      have hB2 := hb0.trans (hb2.mono hb0.size)
      clear la
      go_wp2_with fail
      refine (HMA.out w2).mono ?_
      rintro e w3 ⟨rfl, hb3'⟩
      have hb3 := hb2.trans (hb3'.mono hb2.size)
      have hB3 := hB2.trans (hb3'.mono hB2.size)
      clear hb2 hb3' hB2
      cases m with
      | false =>
        obtain rfl : ans = false := HMC2.out
        simp only [Bool.false_eq_true, if_false]
        go_wp2_with fail
        go_ret
        exact ⟨rfl, hB3⟩
      | true =>
        have c3 := (HF.out w3 hb3).2.2
        simp only [if_true]
        go_wp2_with fail
        refine (HRI.out w3 hB3).mono ?_
        rintro e w4 ⟨rfl, hb4⟩
        have hB4 := hB3.trans (hb4.mono hB3.size)
        obtain rfl : ans = r := HMC2.out
        clear c3
        go_wp2_with fail
        go_ret
        exact ⟨rfl, hB4⟩
  · have h1 : (n != 0) = true := by simpa using h0
    obtain rfl : ans = false := by rw [HMC.out, decide_eq_false h0]; rfl
    clear h0 k1 la c0 heq hbz
    go_wp2_with fail
    go_ret
    exact ⟨rfl, hb0⟩
end Go.Proofs.YtghophbabbaleaaGreatDoor
namespace Go.Proofs.YtghophbabbaleaaGreatDoor
set_option maxRecDepth 20000
open Go.RowKit
attribute [local go_sem ↓] exec_load_att exec_load_ct exec_load_sg exec_alloc_sg exec_store_sg
theorem risesB_up {n : Int} : ∀ {l : List SgM} {last : Int}, risesB 21 last l = true → (∀ s ∈ l, s.bo ≤ n) → risesB n last l = true
  | [], _, _, _ => rfl
  | x :: r, last, h, hn => by
    unfold risesB at h ⊢
    simp only [Bool.and_eq_true, decide_eq_true_eq] at h ⊢
    exact ⟨⟨h.1.1, hn x (by simp)⟩, risesB_up h.2 (fun s hs => hn s (List.mem_cons_of_mem _ hs))⟩
theorem rightC_may {n : Int} {c : CtM} (h : rightC n c = true) : mayC c = true := by
  unfold rightC at h
  simp only [Bool.and_eq_true, decide_eq_true_eq, List.all_eq_true] at h
  obtain ⟨h0, h1, h2, h3, h4⟩ := h
  have hq := quoS_top h0
  unfold mayC
  simp only [Bool.and_eq_true, decide_eq_true_eq]
  refine ⟨h3, ?_, by omega, risesB_top h2 hq.2.1⟩
  obtain ⟨s, hs⟩ : ∃ s, s ∈ c.sg := by
    cases hc : c.sg with
    | nil => rw [hc] at h1; simp only [List.length_nil] at h1; omega
    | cons x r => exact ⟨x, by simp⟩
  have hr := h4 s hs
  have hm : mayA (withC c.att s) = true := by
    unfold rightA at hr
    simp only [Bool.and_eq_true] at hr
    exact hr.1
  unfold mayA withC at hm ⊢
  simp only at hm ⊢
  split at hm
  · cases hm
  · rename_i hn
    rw [if_neg (by omega)]
    exact hm
theorem rightC_of {n : Int} {c : CtM} (hm : mayC c = true) (hl : c.sg.length = quoS n) (h : ∀ s ∈ c.sg, s.bo ≤ n ∧ rightA (withC c.att s) = true) : rightC n c = true := by
  unfold mayC at hm
  simp only [Bool.and_eq_true, decide_eq_true_eq] at hm
  obtain ⟨h1, _, h3, h4⟩ := hm
  unfold rightC
  simp only [Bool.and_eq_true, decide_eq_true_eq, List.all_eq_true]
  exact ⟨by omega, hl, risesB_up h4 (fun s hs => (h s hs).1), h1, fun s hs => (h s hs).2⟩
theorem rightC_no {n : Int} {c : CtM} {s : SgM} (hs : s ∈ c.sg) (h : n < s.bo ∨ rightA (withC c.att s) = false) : rightC n c = false := by
  cases hr : rightC n c with
  | false => rfl
  | true =>
    exfalso
    unfold rightC at hr
    simp only [Bool.and_eq_true, decide_eq_true_eq, List.all_eq_true] at hr
    obtain ⟨_, _, h2, _, h4⟩ := hr
    rcases h with h | h
    · have := risesB_mem h2 s hs
      omega
    · rw [h4 s hs] at h
      cases h
set_option maxHeartbeats 3200000 in
theorem ctRight_ok : CtRightOk := by
  intro n v c w hwn hv hlen hK
  have HV := hid (fun W (h : Below w.heap.size w W) => hv.below h)
  obtain ⟨s, rfl, ho, ht⟩ := hv
  have hb0 : Below w.heap.size w (w.alloc (.cells (ctc c s) 55)) := (Below.refl _ _).alloc (Nat.le_refl _) _
  have hr0 := heap_alloc_new w (.cells (ctc c s) 55)
  obtain ⟨A, k, rfl⟩ := ht.shape
  have HT := hid (fun W (h : Below w.heap.size w W) => ht.below h)
  have HLEN := hid hlen
  obtain ⟨L, HL⟩ : ∃ n : Nat, Hid (c.sg.length = n) := ⟨_, hid rfl⟩
  rw [HL.out] at hr0 hb0 HV HT hlen ⊢
  obtain ⟨C, HC⟩ : ∃ C : Array Value, Hid (ctc c (.slice A L k) = C) := ⟨_, hid rfl⟩
  obtain ⟨q, HQ⟩ : ∃ q : Nat, Hid (quoS n = q) := ⟨_, hid rfl⟩
  obtain ⟨mc, HMC⟩ : ∃ q : Bool, Hid (mayC c = q) := ⟨_, hid rfl⟩
  obtain ⟨ans, HAN⟩ : ∃ q : Bool, Hid (rightC n c = q) := ⟨_, hid rfl⟩
  rw [HC.out] at hr0 hb0 HV ⊢
  rw [HAN.out]
  have HKB := hid (fun W (h : Below w.heap.size w W) => (show Kst 1 W from hK.below h))
  have HQU : Hid (∀ W, Calls Tryz.prog 96 #[.int .i64 n] W fun e w' => e = .returned (.int .i64 (q : Int)) ∧ W = w') := hid (fun W => by
    have := quorum_any n W hwn
    rw [HQ.out] at this
    exact this)
  have HFI : Hid (∀ W, Below w.heap.size w W → Calls Tryz.prog 107 #[.agg C] W fun e w' => e = .returned (.bool mc) ∧ Below W.heap.size W w') := hid (fun W h => by
    have := ctFits_any _ c W (HV.out W h) HLEN.out
    rw [HMC.out] at this
    exact this)
  have HSO := hid ho.sg
  have HAO := hid ho.att
  have HWI : Hid (∀ s W, s.Ok → Calls Tryz.prog 109 #[.agg (atc c.att), .agg (sgc s)] W fun e w' => e = .returned (.agg (atc (withC c.att s))) ∧ Below W.heap.size W w') := hid (fun s W hs => ctWith_any c.att s W HAO.out hs)
  have HRT : Hid (∀ s W, s.Ok → Below w.heap.size w W → Calls Tryz.prog 108 #[.agg (atc (withC c.att s))] W fun e w' => e = .returned (.bool (rightA (withC c.att s))) ∧ Below W.heap.size W w') := hid (fun s W hs h => atRight_ok _ W (withC_ok HAO.out hs) (HKB.out W h))
  obtain ⟨G, HG⟩ : ∃ C : Array Value, Hid (atc c.att = C) := ⟨_, hid rfl⟩
  rw [HG.out] at HWI
  have HLD : Hid (∀ W : World, W.heap[w.heap.size]? = some (.cells C 55 (0, 0)) → loadCt (.pointer (some ⟨w.heap.size, 0, none⟩)) W = .ok (.value (.agg C)) W ∧ loadAtt (.pointer (some ⟨w.heap.size, 0, none⟩)) W = .ok (.value (.agg G)) W ∧ W.cell? ⟨w.heap.size, 101, none⟩ = some (.slice A L k)) := hid (fun W h => by
    have h2 := h
    rw [← HC.out] at h2
    have hBC : BoxC W w.heap.size c (.slice A L k) := h2
    refine ⟨loadCt_row h (by rw [← HC.out]; exact ctc_size _ HAO.out), ?_, hBC.sigs HAO.out⟩
    rw [← HG.out]
    exact loadAtt_in hBC.att HAO.out)
  obtain ⟨Z, HZ⟩ : ∃ C : Array Value, Hid (sgc sgZ = C) := ⟨_, hid rfl⟩
  have HZS : Hid (Z.size = 33) := hid (by rw [← HZ.out]; exact sgc_size sgZ_ok)
  have hal : ∀ W, allocSg W = .ok (.value (.pointer (some ⟨W.heap.size, 0, none⟩))) (W.alloc (.cells Z 151)) := fun W => by rw [← HZ.out]; exact allocSg_eq W
  clear ho ht hK hwn
  go_enter Tryz.func67, Tryz.ntmps67
  go_upto_region 1 with (fail)
  generalize (w.alloc (.cells C 55)) = w0 at *
  have hl0 := lt_of_block hr0
  have HF := hid (fun W (h : Below w0.heap.size w0 W) => HLD.out W ((h.block _ hl0).trans hr0))
  have HXW : Hid (∀ W, Below w0.heap.size w0 W → loadCt (.pointer (some ⟨w.heap.size, 0, none⟩)) W = .ok (.value (.agg C)) W ∧ W.cell? ⟨w.heap.size, 101, none⟩ = some (.slice A L k)) := hid (fun W h => ⟨(HF.out W h).1, (HF.out W h).2.2⟩)
  have hbd : Below w0.heap.size w0 w0.drew := (Below.refl _ _).drew
  have HB0 := hid hb0
  clear hr0 hl0 hb0
  refine wp_region_held_drew (S := fun W => loadCt (.pointer (some ⟨w.heap.size, 0, none⟩)) W = .ok (.value (.agg C)) W ∧ W.cell? ⟨w.heap.size, 101, none⟩ = some (.slice A L k)) (by kernel_rfl) (HXW.out _ hbd) (fun hHeld => ?_)
  refine' tk (i := 0) (v := _) rfl (fun W hW => hW.1) ?_
  try simp only [lay]
  refine call_on (i := 1) rfl (by kernel_rfl) (by rfl) (fun K hK => ?_)
  go_simp
  refine (HFI.out w0.drew (HB0.out.trans (hbd.mono HB0.out.size))).mono ?_
  rintro e w2 ⟨rfl, hb2'⟩
  have hb2 := hbd.trans hb2'
  refine hK.out _ _ (HXW.out _ hb2) (fun hHeld => ?_)
  clear hK K
  try simp only [lay]
  cases mc with
  | false =>
    obtain rfl : ans = false := by
      rw [← HAN.out]
      cases hr : rightC n c with
      | false => rfl
      | true => have := rightC_may hr; rw [HMC.out] at this; cases this
    refine' tk (i := 2) (v := _) rfl ?_ ?_
    rotate_left
    · (intro W hW; (try dsimp only at hW); go_simp; first | done | with_reducible rfl)
    try simp only [lay]
    refine' tk (i := 3) (v := _) rfl ?_ ?_
    rotate_left
    · (intro W hW; (try dsimp only at hW); go_simp; first | done | with_reducible rfl)
    try simp only [lay]
    refine tf (i := 4) rfl ?_
    try simp only [lay]
    refine tf (i := 5) rfl ?_
    try simp only [lay]
    refine tf (i := 6) rfl ?_
    try simp only [lay]
    refine tf (i := 7) rfl ?_
    try simp only [lay]
    refine tf (i := 8) rfl ?_
    try simp only [lay]
    refine tf (i := 9) rfl ?_
    try simp only [lay]
    refine' tk (i := 10) (v := _) rfl ?_ ?_
    rotate_left
    · (intro W hW; (try dsimp only at hW); go_simp; first | done | with_reducible rfl)
    try simp only [lay]
    refine wpAnyH_done (by kernel_rfl) ?_ _
    go_wp2_with fail
    go_ret
    exact ⟨rfl, HB0.out.trans (hb2.mono HB0.out.size)⟩
  | true =>
    refine' tk (i := 2) (v := _) rfl ?_ ?_
    rotate_left
    · (intro W hW; (try dsimp only at hW); go_simp; first | done | with_reducible rfl)
    try simp only [lay]
    refine' tk (i := 3) (v := _) rfl ?_ ?_
    rotate_left
    · (intro W hW; (try dsimp only at hW); go_simp; first | done | with_reducible rfl)
    try simp only [lay]
    refine' tk (i := 4) (v := _) rfl ?_ ?_
    rotate_left
    · (intro W hW; (try dsimp only at hW); go_simp; first | done | with_reducible rfl)
    try simp only [lay]
    refine' tk (i := 5) (v := _) rfl ?_ ?_
    rotate_left
    · (intro W hW; (try dsimp only at hW); obtain ⟨hW1, hW2⟩ := hW; go_simp; first | done | with_reducible rfl)
    try simp only [lay]
    refine' tk (i := 6) (v := _) rfl ?_ ?_
    rotate_left
    · (intro W hW; (try dsimp only at hW); go_simp; first | done | with_reducible rfl)
    try simp only [lay]
    refine' tk (i := 7) (v := _) rfl ?_ ?_
    rotate_left
    · (intro W hW; (try dsimp only at hW); go_simp; first | done | with_reducible rfl)
    try simp only [lay]
    refine call_on (i := 8) rfl (by kernel_rfl) (by rfl) (fun K hK => ?_)
    go_simp
    refine (HQU.out w2).mono ?_
    rintro e w3 ⟨rfl, rfl⟩
    refine hK.out _ _ (HXW.out _ hb2) (fun hHeld => ?_)
    clear hK K
    try simp only [lay]
    by_cases hl : L = q
    · have hl1 : ((L : Int) != (q : Int)) = false := by simp [hl]
      refine' tk (i := 9) (v := _) rfl ?_ ?_
      rotate_left
      · (intro W hW; (try dsimp only at hW); go_simp; first | done | with_reducible rfl)
      try simp only [lay]
      refine' tk (i := 10) (v := _) rfl ?_ ?_
      rotate_left
      · (intro W hW; (try dsimp only at hW); go_simp; first | done | with_reducible rfl)
      try simp only [lay]
      refine wpAnyH_done (by kernel_rfl) ?_ _
      have HB2 := hid (HB0.out.trans (hb2.mono HB0.out.size))
      have c2 := (HXW.out w2 hb2).2
      have HHB2 := hid hb2
      clear hHeld hbd hb2' hb2
      have HLQ := hid hl
      clear hl
      go_wp2_with fail
      clear c2
      go_loopw [21] (fun si wr => ∃ i : Nat, i ≤ L ∧ si = .int .i64 i ∧ Hid (∀ j (h : j < c.sg.length), j < i → c.sg[j].bo ≤ n ∧ rightA (withC c.att c.sg[j]) = true) ∧ Below w0.heap.size w0 wr) (fun si _ => L - (intOf si).toNat)
      case atStart => exact ⟨0, Nat.zero_le _, rfl, hid (fun j _ h => absurd h (by omega)), HHB2.out⟩
      case round =>
        obtain ⟨i, hi, rfl, HD, hbr⟩ := hrel
        have HBR := hid (HB0.out.trans (hbr.mono HB0.out.size))
        by_cases hlt : i < L
        · have hil : i < c.sg.length := by rw [HL.out]; exact hlt
          obtain ⟨g, o, rfl, _, hcl⟩ := (HT.out wr HBR.out).at_.2.2.2 (by omega)
          have hI : (i : Int) < (L : Int) := by omega
          have hoi := HSO.out _ (List.getElem_mem hil)
          have l1 : loadSg (.pointer (some ⟨g, o + i * 33, none⟩)) wr = .ok (.value (.agg (sgc c.sg[i]))) wr := loadSg_mid (hcl i hil) hoi
          have HXS : Hid ((sgc c.sg[i]).size = 33 ∧ (sgc c.sg[i]).all (·.oneCell') = true) := hid ⟨sgc_size hoi, sgc_one _⟩
          have HC0 : Hid (∀ (W : World) (g : Nat), W.heap[g]? = some (.cells (sgc c.sg[i]) 151 (0, 0)) → W.cell? ⟨g, 0, none⟩ = some (.int .i64 c.sg[i].bo) ∧ loadSg (.pointer (some ⟨g, 0, none⟩)) W = .ok (.value (.agg (sgc c.sg[i]))) W) := hid (fun W g h => by
            refine ⟨cell_blk h 0, loadSg_mid (fun j u hu => ?_) hoi⟩
            rw [Nat.zero_add, cell_blk h j]
            unfold sgc
            rw [List.getElem?_toArray]
            exact hu)
          have HW2 := hid (fun W => HWI.out c.sg[i] W hoi)
          have HR2 := hid (fun W (h : Below w.heap.size w W) => HRT.out c.sg[i] W hoi h)
          have HNO : Hid ((n < c.sg[i].bo ∨ rightA (withC c.att c.sg[i]) = false) → ans = false) := hid (fun h => by rw [← HAN.out]; exact rightC_no (List.getElem_mem hil) h)
          have HYES : Hid (c.sg[i].bo ≤ n → rightA (withC c.att c.sg[i]) = true → ∀ j (h : j < c.sg.length), j < i + 1 → c.sg[j].bo ≤ n ∧ rightA (withC c.att c.sg[j]) = true) := hid (fun h1 h2 j h hj => by
            by_cases hji : j < i
            · exact HD.out j h hji
            · obtain rfl : j = i := by omega
              exact ⟨h1, h2⟩)
          obtain ⟨X, HX⟩ : ∃ C : Array Value, Hid (sgc c.sg[i] = C) := ⟨_, hid rfl⟩
          obtain ⟨bo, HBO⟩ : ∃ x : Int, Hid (c.sg[i].bo = x) := ⟨_, hid rfl⟩
          obtain ⟨m, HM⟩ : ∃ m : Bool, Hid (rightA (withC c.att c.sg[i]) = m) := ⟨_, hid rfl⟩
          obtain ⟨Y, HY⟩ : ∃ C : Array Value, Hid (atc (withC c.att c.sg[i]) = C) := ⟨_, hid rfl⟩
          rw [HX.out] at l1 HXS HC0
          rw [HX.out, HY.out] at HW2
          rw [HY.out, HM.out] at HR2
          rw [HBO.out, HM.out] at HNO HYES
          rw [HBO.out] at HC0
          have hst := sg_var wr HZS.out HXS.out.1 HXS.out.2
          have hal1 := hal wr
          clear hcl hoi
          go_upto_region 6 with (fail)
          have hr1 := heap_alloc_new wr (.cells X 151)
          have hb1 : Below w0.heap.size w0 (wr.alloc (.cells X 151)) := hbr.alloc hbr.size _
          obtain ⟨c0, l2⟩ := HC0.out _ _ hr1
          clear l1 hst hr1 hal1
          generalize (wr.alloc (.cells X 151)) = w1 at *
          obtain ⟨_, l3, _⟩ := HF.out w1 hb1
          have HB1 := hid (HB0.out.trans (hb1.mono HB0.out.size))
          by_cases h1 : n < bo
          · obtain rfl : ans = false := HNO.out (.inl h1)
            clear l2 l3
            go_wp2_with fail
            go_ret
            exact ⟨rfl, HB1.out⟩
          · have HH1 := hid (show bo ≤ n by omega)
            go_wp2_with fail
            refine (HW2.out w1).mono ?_
            rintro e w4 ⟨rfl, hb4⟩
            have HB4 := hid (HB1.out.trans (hb4.mono HB1.out.size))
            have HB40 := hid (hb1.trans (hb4.mono hb1.size))
            clear l2 l3 c0 hb4
            go_wp2_with fail
            refine (HR2.out w4 HB4.out).mono ?_
            rintro e w5 ⟨rfl, hb5⟩
            have HB5 := hid (HB4.out.trans (hb5.mono HB4.out.size))
            have HB50 := hid (HB40.out.trans (hb5.mono HB40.out.size))
            clear hb5
            cases m with
            | false =>
              obtain rfl : ans = false := HNO.out (.inr rfl)
              go_wp2_with fail
              go_ret
              exact ⟨rfl, HB5.out⟩
            | true =>
              have HM2 := hid (HYES.out HH1.out rfl)
              clear HYES HNO
              go_wp2_with fail
              go_roundw
              case rel => exact ⟨i + 1, by omega, by go_num, hid HM2.out, HB50.out⟩
              case measure => simp [intOf]; omega
        · obtain rfl : i = L := by omega
          obtain rfl : ans = true := by
            rw [← HAN.out]
            refine rightC_of HMC.out (by rw [HL.out, HQ.out]; exact HLQ.out) (fun s hs => ?_)
            obtain ⟨j, hj, rfl⟩ := List.getElem_of_mem hs
            exact HD.out j hj (by have := HL.out; omega)
          go_wp2_with fail
          go_ret
          exact ⟨rfl, HBR.out⟩
    · have hl1 : ((L : Int) != (q : Int)) = true := by simp; omega
      refine' tk (i := 9) (v := _) rfl ?_ ?_
      rotate_left
      · (intro W hW; (try dsimp only at hW); go_simp; first | done | with_reducible rfl)
      try simp only [lay]
      refine' tk (i := 10) (v := _) rfl ?_ ?_
      rotate_left
      · (intro W hW; (try dsimp only at hW); go_simp; first | done | with_reducible rfl)
      try simp only [lay]
      refine wpAnyH_done (by kernel_rfl) ?_ _
      have HB2 := hid (HB0.out.trans (hb2.mono HB0.out.size))
      have c2 := (HXW.out w2 hb2).2
      have HHB2 := hid hb2
      clear hHeld hbd hb2' hb2
      obtain rfl : ans = false := by
        rw [← HAN.out]
        unfold rightC
        rw [HL.out, HQ.out, decide_eq_false hl, Bool.false_and, Bool.and_false]
      clear hl
      go_wp2_with fail
      go_ret
      exact ⟨rfl, HB2.out⟩
end Go.Proofs.YtghophbabbaleaaGreatDoor
namespace Go.Proofs.YtghophbabbaleaaGreatDoor
set_option maxRecDepth 20000
open Go.RowKit
attribute [local go_sem ↓] exec_load_att exec_load_ct exec_load_sg
set_option maxHeartbeats 400000 in
theorem refRight9_any (n : Int) (v : Value) (c : CtM) (w : World) (hv : CtV w v c) (hK : Kst 0 w) :
    Calls Tryz.prog 68 #[.int .i64 n, v] w fun e w' => e = .returned (.bool (rightC n c)) ∧ Below w.heap.size w w' := by
  have HV := hid (fun W (h : Below w.heap.size w W) => hv.below h)
  obtain ⟨s, rfl, ho, ht⟩ := hv
  have hb0 : Below w.heap.size w (w.alloc (.cells (ctc c s) 55)) := (Below.refl _ _).alloc (Nat.le_refl _) _
  have hr0 := heap_alloc_new w (.cells (ctc c s) 55)
  obtain ⟨A, k, rfl⟩ := ht.shape
  have HT := hid (fun W (h : Below w.heap.size w W) => ht.below h)
  have hlen := ht.len
  unfold maxLen at hlen
  obtain ⟨L, HL⟩ : ∃ n : Nat, Hid (c.sg.length = n) := ⟨_, hid rfl⟩
  rw [HL.out] at hr0 hb0 HV HT hlen ⊢
  obtain ⟨C, HC⟩ : ∃ C : Array Value, Hid (ctc c (.slice A L k) = C) := ⟨_, hid rfl⟩
  obtain ⟨q, HQ⟩ : ∃ q : Nat, Hid (quoS n = q) := ⟨_, hid rfl⟩
  obtain ⟨r, HR⟩ : ∃ q : Bool, Hid (risesB n 0 c.sg = q) := ⟨_, hid rfl⟩
  obtain ⟨b, HB⟩ : ∃ q : Bool, Hid (bareC c = q) := ⟨_, hid rfl⟩
  obtain ⟨ans, HAN⟩ : ∃ q : Bool, Hid (rightC n c = q) := ⟨_, hid rfl⟩
  have HRC : Hid (ans = (decide (q ≠ 0) && (decide (L = q) && (r && (b && c.sg.all fun s => rightA (withC c.att s)))))) := hid (by rw [← HAN.out]; unfold rightC; rw [HQ.out, HL.out, HR.out, HB.out])
  rw [HC.out] at hr0 hb0 HV ⊢
  rw [HAN.out]
  have HKB := hid (fun W (h : Below w.heap.size w W) => (show Kst 0 W from hK.below h))
  have HQU : Hid (∀ W, Calls Tryz.prog 102 #[.int .i64 n] W fun e w' => e = .returned (.int .i64 (q : Int)) ∧ W = w') := hid (fun W => by
    have := refQuorum_any n W
    rw [HQ.out] at this
    exact this)
  have HBA : Hid (∀ W, Below w.heap.size w W → Calls Tryz.prog 111 #[.agg C] W fun e w' => e = .returned (.bool b) ∧ Below W.heap.size W w') := hid (fun W h => by
    have := refBare9_any _ c W (HV.out W h)
    rw [HB.out] at this
    exact this)
  have HRI : Hid (∀ W, Below w.heap.size w W → Calls Tryz.prog 110 #[.slice A L k, .int .i64 n] W fun e w' => e = .returned (.bool r) ∧ Below W.heap.size W w') := hid (fun W h => by
    have := refRises9_any (.slice A L k) c.sg n W (HT.out W h)
    rw [HR.out] at this
    exact this)
  have HSO := hid ho.sg
  have HAO := hid ho.att
  have HWI : Hid (∀ s W, s.Ok → Calls Tryz.prog 113 #[.agg (atc c.att), .agg (sgc s)] W fun e w' => e = .returned (.agg (atc (withC c.att s))) ∧ Below W.heap.size W w') := hid (fun s W hs => refWith9_any c.att s W HAO.out hs)
  have HRT : Hid (∀ s W, s.Ok → Below w.heap.size w W → Calls Tryz.prog 112 #[.agg (atc (withC c.att s))] W fun e w' => e = .returned (.bool (rightA (withC c.att s))) ∧ Below W.heap.size W w') := hid (fun s W hs h => refRight8_any _ W (withC_ok HAO.out hs) (HKB.out W h))
  obtain ⟨G, HG⟩ : ∃ C : Array Value, Hid (atc c.att = C) := ⟨_, hid rfl⟩
  rw [HG.out] at HWI
  have HLD : Hid (∀ W : World, W.heap[w.heap.size]? = some (.cells C 55 (0, 0)) → loadCt (.pointer (some ⟨w.heap.size, 0, none⟩)) W = .ok (.value (.agg C)) W ∧ loadAtt (.pointer (some ⟨w.heap.size, 0, none⟩)) W = .ok (.value (.agg G)) W ∧ W.cell? ⟨w.heap.size, 101, none⟩ = some (.slice A L k)) := hid (fun W h => by
    have h2 := h
    rw [← HC.out] at h2
    have hBC : BoxC W w.heap.size c (.slice A L k) := h2
    refine ⟨loadCt_row h (by rw [← HC.out]; exact ctc_size _ HAO.out), ?_, hBC.sigs HAO.out⟩
    rw [← HG.out]
    exact loadAtt_in hBC.att HAO.out)
  have hq21 : q ≤ 21 := by
    rw [← HQ.out]
    by_cases h : quoS n = 0
    · omega
    · have := quoS_top h
      unfold quoS
      split <;> omega
  clear ho ht hK
  go_enter Tryz.func68, Tryz.ntmps68
  go_upto_region 1 with (fail)
  generalize (w.alloc (.cells C 55)) = w0 at *
  have hl0 := lt_of_block hr0
  have HF := hid (fun W (h : Below w0.heap.size w0 W) => HLD.out W ((h.block _ hl0).trans hr0))
  obtain ⟨l0, _, c0⟩ := HF.out w0 (Below.refl _ _)
  clear hr0 hl0
  go_wp2_with fail
  refine (HQU.out w0).mono ?_
  rintro e w1 ⟨rfl, rfl⟩
  by_cases hq : q = 0
  · subst hq
    obtain rfl : ans = false := HRC.out
    go_wp2_with fail
    go_ret
    exact ⟨rfl, hb0⟩
  · have hq1 : ((q : Int) == 0) = false := by simpa using hq
    by_cases hl : L = q
    · have hl1 : ((L : Int) != (q : Int)) = false := by simp [hl]
      have HLQ := hid hl
      have HQ0 := hid hq
      clear hl hq
      go_wp2_with fail
      refine (HRI.out w0 hb0).mono ?_
      rintro e w2 ⟨rfl, hb2⟩
      have hB2 := hb0.trans (hb2.mono hb0.size)
      clear l0 c0
      cases r with
      | false =>
        obtain rfl : ans = false := by rw [HRC.out]; simp
        go_wp2_with fail
        go_ret
        exact ⟨rfl, hB2⟩
      | true =>
        obtain ⟨l2, _, c2⟩ := HF.out w2 hb2
        go_wp2_with fail
        refine (HBA.out w2 hB2).mono ?_
        rintro e w3 ⟨rfl, hb3'⟩
        have hb3 := hb2.trans (hb3'.mono hb2.size)
        have hB3 := hB2.trans (hb3'.mono hB2.size)
        clear l2 c2 hb3' hb2 hB2
        cases b with
        | false =>
          obtain rfl : ans = false := by rw [HRC.out]; simp
          go_wp2_with fail
          go_ret
          exact ⟨rfl, hB3⟩
        | true =>
          have HRC2 : Hid (ans = c.sg.all fun s => rightA (withC c.att s)) := hid (by rw [HRC.out, decide_eq_true HQ0.out, decide_eq_true HLQ.out]; rfl)
          have HTX := hid (fun W (h : Below w3.heap.size w3 W) => HT.out W (hB3.trans (h.mono hB3.size)))
          have HF3 := hid (fun W (h : Below w3.heap.size w3 W) => HF.out W (hb3.trans (h.mono hb3.size)))
          have HBW := hid (fun W (h : Below w3.heap.size w3 W) => hB3.trans (h.mono hB3.size))
          clear hl1 hq1 hb3 hB3
          go_wp2_with fail
          go_loopw [6] (fun si wr => ∃ i : Nat, i ≤ L ∧ si = .int .i64 i ∧ Hid (∀ j (h : j < c.sg.length), j < i → rightA (withC c.att c.sg[j]) = true) ∧ Below w3.heap.size w3 wr) (fun si _ => L - (intOf si).toNat)
          case atStart => exact ⟨0, Nat.zero_le _, rfl, hid (fun j _ h => absurd h (by omega)), Below.refl _ _⟩
          case round =>
            obtain ⟨i, hi, rfl, HD, hbr⟩ := hrel
            by_cases hlt : i < L
            · have hil : i < c.sg.length := by rw [HL.out]; exact hlt
              obtain ⟨g, o, rfl, hg, _⟩ := (HTX.out wr hbr).at_.2.2.2 (by omega)
              have HSX : Hid (∀ W, Below w3.heap.size w3 W → loadSg (.pointer (some ⟨g, o + i * 33, none⟩)) W = .ok (.value (.agg (sgc c.sg[i]))) W) := hid (fun W h => by
                obtain ⟨g', o', e, _, hcl⟩ := (HTX.out W h).at_.2.2.2 (by omega)
                injection e with e
                injection e with e1 e2 _
                subst e1 e2
                exact loadSg_mid (hcl i hil) (HSO.out _ (List.getElem_mem hil)))
              have hI : (i : Int) < (L : Int) := by omega
              have c1 := (HF3.out wr hbr).2.2
              obtain ⟨X, HX⟩ : ∃ C : Array Value, Hid (sgc c.sg[i] = C) := ⟨_, hid rfl⟩
              have HW2 := hid (fun W => HWI.out c.sg[i] W (HSO.out _ (List.getElem_mem hil)))
              have HR2 := hid (fun W (h : Below w.heap.size w W) => HRT.out c.sg[i] W (HSO.out _ (List.getElem_mem hil)) h)
              obtain ⟨m, HM⟩ : ∃ m : Bool, Hid (rightA (withC c.att c.sg[i]) = m) := ⟨_, hid rfl⟩
              obtain ⟨Y, HY⟩ : ∃ C : Array Value, Hid (atc (withC c.att c.sg[i]) = C) := ⟨_, hid rfl⟩
              rw [HX.out] at HSX
              rw [HX.out, HY.out] at HW2
              rw [HY.out, HM.out] at HR2
              have HSS : Hid (∀ W, Below w3.heap.size w3 W → (loadAtt (.pointer (some ⟨w.heap.size, 0, none⟩)) W = .ok (.value (.agg G)) W ∧ W.cell? ⟨w.heap.size, 101, none⟩ = some (.slice (some ⟨g, o, none⟩) L k) ∧ loadSg (.pointer (some ⟨g, o + i * 33, none⟩)) W = .ok (.value (.agg X)) W)) := hid (fun W h => ⟨(HF3.out W h).2.1, (HF3.out W h).2.2, HSX.out W h⟩)
              have hbd : Below w3.heap.size w3 wr.drew := hbr.drew
              go_upto_region 7 with (fail)
              go_region_held3 (fun W => loadAtt (.pointer (some ⟨w.heap.size, 0, none⟩)) W = .ok (.value (.agg G)) W ∧ W.cell? ⟨w.heap.size, 101, none⟩ = some (.slice (some ⟨g, o, none⟩) L k) ∧ loadSg (.pointer (some ⟨g, o + i * 33, none⟩)) W = .ok (.value (.agg X)) W)
                (first
                  | (refine HSS.out _ hbd)
                  | (refine HSS.out _ hb5)
                  | (refine HSS.out _ hb4)
                  | fail)
                (first
                  | (go_at_call 112; (with_reducible refine (HR2.out _ (HBW.out _ hb4)).mono ?_); rintro e w5 ⟨rfl, hb5'⟩; have hb5 := hb4.trans (hb5'.mono hb4.size))
                  | (go_at_call 113; (with_reducible refine (HW2.out _).mono ?_); rintro e w4 ⟨rfl, hb4'⟩; have hb4 := hbd.trans (hb4'.mono hbd.size))
                  | fail)
              clear c1 hbd hb4 hb4' hb5'
              cases m with
              | false =>
                obtain rfl : ans = false := by
                  rw [HRC2.out, List.all_eq_false]
                  exact ⟨_, List.getElem_mem hil, by simp [HM.out]⟩
                go_wp2_with fail
                go_ret
                exact ⟨rfl, HBW.out _ hb5⟩
              | true =>
                go_wp2_with fail
                go_roundw
                case rel =>
                  refine ⟨i + 1, by omega, by go_num, hid (fun j h hj => ?_), hb5⟩
                  by_cases hji : j < i
                  · exact HD.out j h hji
                  · obtain rfl : j = i := by omega
                    exact HM.out
                case measure => simp [intOf]; omega
            · obtain rfl : i = L := by omega
              obtain rfl : ans = true := by
                rw [HRC2.out, List.all_eq_true]
                intro s hs
                obtain ⟨j, hj, rfl⟩ := List.getElem_of_mem hs
                exact HD.out j hj (by have := HL.out; omega)
              have c1 := (HF3.out wr hbr).2.2
              go_wp2_with fail
              go_ret
              exact ⟨rfl, HBW.out _ hbr⟩
    · have hl1 : ((L : Int) != (q : Int)) = true := by simp; omega
      obtain rfl : ans = false := by rw [HRC.out, decide_eq_false hl, Bool.false_and, Bool.and_false]
      clear hl
      go_wp2_with fail
      go_ret
      exact ⟨rfl, hb0⟩
end Go.Proofs.YtghophbabbaleaaGreatDoor
namespace Go.Proofs.YtghophbabbaleaaGreatDoor
set_option maxRecDepth 20000
open Go.ChangeShapes Go.WideShapes Go.ChangeAt Go.RowKit Go.Deep
section
variable {H : Type} {enc : TypeId × Value → H} {w : World} {base : Nat} {spare : Nat → Bool} {held : Bool} {fuel : Nat} {cs : List Value} {x : DataW H × List MemPlace}
theorem fields_sg2 : ∃ f0 f1 : Field, Tryz.prog.underlying 151 = some (.struct #[f0, f1]) ∧ (f0.type, f0.offset) = (3, 0) ∧ (f1.type, f1.offset) = (38, 1) :=
  ⟨_, _, Tryz.underlying151, rfl, rfl⟩
theorem trod_sg (h : DataW.trod enc Tryz.prog w base spare held fuel 151 cs = some x) : ∃ s : SgM, s.Ok ∧ cs = scl s := by
  obtain ⟨f0, f1, hu, e0, e1⟩ := fields_sg2
  injection e0 with t0 o0
  injection e1 with t1 o1
  obtain ⟨xs, m, _, _, hlen, hxl, hf⟩ := DataW.trod_struct hu h
  have hc : Tryz.prog.cellsOf 151 = 33 := by kernel_rfl
  have hci : Tryz.prog.cellsOf 3 = 1 := by kernel_rfl
  have hch : Tryz.prog.cellsOf 38 = 32 := by kernel_rfl
  rw [hc] at hlen
  have hx : xs.length = 2 := hxl
  have g0 := hf 0 f0 rfl
  have g1 := hf 1 f1 rfl
  rw [t0, o0, hci, List.getElem?_eq_getElem (by omega)] at g0
  rw [t1, o1, hch, List.getElem?_eq_getElem (by omega)] at g1
  obtain ⟨n0, c0, _, _⟩ := DataW.trod_int Tryz.underlying3 g0
  obtain ⟨tg, h1, c1⟩ := trod_hash g1
  refine ⟨⟨n0, tg⟩, h1, ?_⟩
  have e : cs = cs.drop 0 := rfl
  rw [e, drop_part c0, drop_part c1, List.drop_eq_nil_of_le (by omega)]
  unfold scl
  simp only [List.append_nil, List.cons_append, List.nil_append]
theorem trod_sgs (h : DataW.trod enc Tryz.prog w base spare held fuel 53 cs = some x) : ∃ v L, cs = [v] ∧ Els scl 33 w v L ∧ ∀ s ∈ L, s.Ok :=
  eltSg.trod sgZ sgZ_ok (fun h => trod_sg h) h
theorem fields_ct : ∃ f0 f1 : Field, Tryz.prog.underlying 55 = some (.struct #[f0, f1]) ∧ (f0.type, f0.offset) = (52, 0) ∧ (f1.type, f1.offset) = (53, 101) :=
  ⟨_, _, Tryz.underlying55, rfl, rfl⟩
theorem trod_ct (h : DataW.trod enc Tryz.prog w base spare held fuel 55 cs = some x) : ∃ c : CtM, CtV w (.agg cs.toArray) c := by
  obtain ⟨f0, f1, hu, e0, e1⟩ := fields_ct
  injection e0 with t0 o0
  injection e1 with t1 o1
  obtain ⟨xs, m, _, _, hlen, hxl, hf⟩ := DataW.trod_struct hu h
  have hc : Tryz.prog.cellsOf 55 = 102 := by kernel_rfl
  have hca : Tryz.prog.cellsOf 52 = 101 := by kernel_rfl
  have hcs : Tryz.prog.cellsOf 53 = 1 := by kernel_rfl
  rw [hc] at hlen
  have hx : xs.length = 2 := hxl
  have g0 := hf 0 f0 rfl
  have g1 := hf 1 f1 rfl
  rw [t0, o0, hca, List.getElem?_eq_getElem (by omega)] at g0
  rw [t1, o1, hcs, List.getElem?_eq_getElem (by omega)] at g1
  obtain ⟨a, ha, c0⟩ := trod_at g0
  obtain ⟨v, L, c1, hv, hL⟩ := trod_sgs g1
  refine ⟨⟨a, L⟩, v, ?_, ⟨ha, hL⟩, hv⟩
  have e : cs = cs.drop 0 := rfl
  rw [e, drop_part c0, drop_part c1, List.drop_eq_nil_of_le (by omega)]
  unfold ctc
  simp only [List.append_nil]
end
end Go.Proofs.YtghophbabbaleaaGreatDoor
