/-
  cert.Right: whether a certificate is right.
-/
import Derived.Test.YtnancafpecfcjaaDoorCtCodeFits
import Derived.Test.YtnancafpecfcjaaDoorBs6
import Derived.Test.YtnancafpecfcjaaDoorBs4
import Derived.LoopTactic
import Derived.Outline
import Derived.Deep.QuietTactic
import Derived.BigQuiet
import Derived.Deep.DeepCutAuto
namespace Go.Proofs.YtnancafpecfcjaaDoor
set_option maxRecDepth 20000
open Go.RowKit
attribute [local go_sem ↓] exec_load_att exec_load_ct exec_load_sg exec_alloc_sg exec_store_sg

/-- Right is: it has bytes, it has as many signatures as the quorum, and each is right. -/
theorem risesB_up {n : Int} : ∀ {l : List SgM} {last : Int}, risesB 21 last l = true → (∀ s ∈ l, s.bo ≤ n) → risesB n last l = true
  | [], _, _, _ => rfl
  | x :: r, last, h, hn => by
    unfold risesB at h ⊢
    simp only [Bool.and_eq_true, decide_eq_true_eq] at h ⊢
    exact ⟨⟨h.1.1, hn x (by simp)⟩, risesB_up h.2 (fun s hs => hn s (List.mem_cons_of_mem _ hs))⟩
theorem rightC_may {n : Int} {c : CtM} (h : rightC n c = true) : mayC c = true := by
  unfold rightC at h
  simp only [Bool.and_eq_true, decide_eq_true_eq, List.all_eq_true] at h
  obtain ⟨h0, h1, h2, h3, h4⟩ := h
  have hq := quoS_top h0
  unfold mayC
  simp only [Bool.and_eq_true, decide_eq_true_eq]
  refine ⟨h3, ?_, by omega, risesB_top h2 hq.2.1⟩
  obtain ⟨s, hs⟩ : ∃ s, s ∈ c.sg := by
    cases hc : c.sg with
    | nil => rw [hc] at h1; simp only [List.length_nil] at h1; omega
    | cons x r => exact ⟨x, by simp⟩
  have hr := h4 s hs
  have hm : mayA (withC c.att s) = true := by
    unfold rightA at hr
    simp only [Bool.and_eq_true] at hr
    exact hr.1
  unfold mayA withC at hm ⊢
  simp only at hm ⊢
  split at hm
  · cases hm
  · rename_i hn
    rw [if_neg (by omega)]
    exact hm
theorem rightC_of {n : Int} {c : CtM} (hm : mayC c = true) (hl : c.sg.length = quoS n) (h : ∀ s ∈ c.sg, s.bo ≤ n ∧ rightA (withC c.att s) = true) : rightC n c = true := by
  unfold mayC at hm
  simp only [Bool.and_eq_true, decide_eq_true_eq] at hm
  obtain ⟨h1, _, h3, h4⟩ := hm
  unfold rightC
  simp only [Bool.and_eq_true, decide_eq_true_eq, List.all_eq_true]
  exact ⟨by omega, hl, risesB_up h4 (fun s hs => (h s hs).1), h1, fun s hs => (h s hs).2⟩
theorem rightC_no {n : Int} {c : CtM} {s : SgM} (hs : s ∈ c.sg) (h : n < s.bo ∨ rightA (withC c.att s) = false) : rightC n c = false := by
  cases hr : rightC n c with
  | false => rfl
  | true =>
    exfalso
    unfold rightC at hr
    simp only [Bool.and_eq_true, decide_eq_true_eq, List.all_eq_true] at hr
    obtain ⟨_, _, h2, _, h4⟩ := hr
    rcases h with h | h
    · have := risesB_mem h2 s hs
      omega
    · rw [h4 s hs] at h
      cases h

set_option maxHeartbeats 3200000 in
theorem ctRight_ok : CtRightOk := by
  intro n v c w hwn hv hlen hK
  have HV := hid (fun W (h : Below w.heap.size w W) => hv.below h)
  obtain ⟨s, rfl, ho, ht⟩ := hv
  have hb0 : Below w.heap.size w (w.alloc (.cells (ctc c s) 30)) := (Below.refl _ _).alloc (Nat.le_refl _) _
  have hr0 := heap_alloc_new w (.cells (ctc c s) 30)
  obtain ⟨A, k, rfl⟩ := ht.shape
  have HT := hid (fun W (h : Below w.heap.size w W) => ht.below h)
  have HLEN := hid hlen
  obtain ⟨L, HL⟩ : ∃ n : Nat, Hid (c.sg.length = n) := ⟨_, hid rfl⟩
  rw [HL.out] at hr0 hb0 HV HT hlen ⊢
  obtain ⟨C, HC⟩ : ∃ C : Array Value, Hid (ctc c (.slice A L k) = C) := ⟨_, hid rfl⟩
  obtain ⟨q, HQ⟩ : ∃ q : Nat, Hid (quoS n = q) := ⟨_, hid rfl⟩
  obtain ⟨mc, HMC⟩ : ∃ q : Bool, Hid (mayC c = q) := ⟨_, hid rfl⟩
  obtain ⟨ans, HAN⟩ : ∃ q : Bool, Hid (rightC n c = q) := ⟨_, hid rfl⟩
  rw [HC.out] at hr0 hb0 HV ⊢
  rw [HAN.out]
  have HKB := hid (fun W (h : Below w.heap.size w W) => (show Kst 0 W from hK.below h))
  have HQU : Hid (∀ W, Calls Tryd.prog 24 #[.int .i64 n] W fun e w' => e = .returned (.int .i64 (q : Int)) ∧ W = w') := hid (fun W => by
    have := quorum_any n W hwn
    rw [HQ.out] at this
    exact this)
  have HFI : Hid (∀ W, Below w.heap.size w W → Calls Tryd.prog 32 #[.agg C] W fun e w' => e = .returned (.bool mc) ∧ Below W.heap.size W w') := hid (fun W h => by
    have := ctFits_any _ c W (HV.out W h) HLEN.out
    rw [HMC.out] at this
    exact this)
  have HSO := hid ho.sg
  have HAO := hid ho.att
  have HWI : Hid (∀ s W, s.Ok → Calls Tryd.prog 28 #[.agg (atc c.att), .agg (sgc s)] W fun e w' => e = .returned (.agg (atc (withC c.att s))) ∧ Below W.heap.size W w') := hid (fun s W hs => ctWith_any c.att s W HAO.out hs)
  have HRT : Hid (∀ s W, s.Ok → Below w.heap.size w W → Calls Tryd.prog 25 #[.agg (atc (withC c.att s))] W fun e w' => e = .returned (.bool (rightA (withC c.att s))) ∧ Below W.heap.size W w') := hid (fun s W hs h => atRight_ok _ W (withC_ok HAO.out hs) (HKB.out W h))
  obtain ⟨G, HG⟩ : ∃ C : Array Value, Hid (atc c.att = C) := ⟨_, hid rfl⟩
  rw [HG.out] at HWI
  have HLD : Hid (∀ W : World, W.heap[w.heap.size]? = some (.cells C 30 (0, 0)) → loadCt (.pointer (some ⟨w.heap.size, 0, none⟩)) W = .ok (.value (.agg C)) W ∧ loadAtt (.pointer (some ⟨w.heap.size, 0, none⟩)) W = .ok (.value (.agg G)) W ∧ W.cell? ⟨w.heap.size, 101, none⟩ = some (.slice A L k)) := hid (fun W h => by
    have h2 := h
    rw [← HC.out] at h2
    have hBC : BoxC W w.heap.size c (.slice A L k) := h2
    refine ⟨loadCt_row h (by rw [← HC.out]; exact ctc_size _ HAO.out), ?_, hBC.sigs HAO.out⟩
    rw [← HG.out]
    exact loadAtt_in hBC.att HAO.out)
  obtain ⟨Z, HZ⟩ : ∃ C : Array Value, Hid (sgc sgZ = C) := ⟨_, hid rfl⟩
  have HZS : Hid (Z.size = 33) := hid (by rw [← HZ.out]; exact sgc_size sgZ_ok)
  have hal : ∀ W, allocSg W = .ok (.value (.pointer (some ⟨W.heap.size, 0, none⟩))) (W.alloc (.cells Z 63)) := fun W => by rw [← HZ.out]; exact allocSg_eq W
  clear ho ht hK hwn
  go_enter Tryd.func11, Tryd.ntmps11
  go_upto_region 1 with (fail)
  generalize (w.alloc (.cells C 30)) = w0 at *
  have hl0 := lt_of_block hr0
  have HF := hid (fun W (h : Below w0.heap.size w0 W) => HLD.out W ((h.block _ hl0).trans hr0))
  have HXW : Hid (∀ W, Below w0.heap.size w0 W → loadCt (.pointer (some ⟨w.heap.size, 0, none⟩)) W = .ok (.value (.agg C)) W ∧ W.cell? ⟨w.heap.size, 101, none⟩ = some (.slice A L k)) := hid (fun W h => ⟨(HF.out W h).1, (HF.out W h).2.2⟩)
  have hbd : Below w0.heap.size w0 w0.drew := (Below.refl _ _).drew
  have HB0 := hid hb0
  clear hr0 hl0 hb0
  refine wp_region_held_drew (S := fun W => loadCt (.pointer (some ⟨w.heap.size, 0, none⟩)) W = .ok (.value (.agg C)) W ∧ W.cell? ⟨w.heap.size, 101, none⟩ = some (.slice A L k)) (by kernel_rfl) (HXW.out _ hbd) (fun hHeld => ?_)
  refine' take_on (i := 0) (v := _) rfl (by kernel_rfl) (by kernel_rfl) (by kernel_rfl) (fun _ _ _ h => h) (by rfl) (fun W hW => hW.1) (by assumption) ?_
  try simp only [Act.put, List.setIfInBounds_toArray, List.set_cons_zero, List.set_cons_succ]
  refine call_on (i := 1) rfl (by kernel_rfl) (by rfl) (fun K hK => ?_)
  go_simp
  refine (HFI.out w0.drew (HB0.out.trans (hbd.mono HB0.out.size))).mono ?_
  rintro e w2 ⟨rfl, hb2'⟩
  have hb2 := hbd.trans hb2'
  refine hK.out _ _ (HXW.out _ hb2) (fun hHeld => ?_)
  clear hK K
  try simp only [Act.put, List.setIfInBounds_toArray, List.set_cons_zero, List.set_cons_succ]
  cases mc with
  | false =>
    obtain rfl : ans = false := by
      rw [← HAN.out]
      cases hr : rightC n c with
      | false => rfl
      | true => have := rightC_may hr; rw [HMC.out] at this; cases this
    refine' take_on (i := 2) (v := _) rfl (by kernel_rfl) (by kernel_rfl) (by kernel_rfl) (fun _ _ _ h => h) (by rfl) ?_ (by assumption) ?_
    rotate_left
    · (intro W hW; (try dsimp only at hW); go_simp; first | done | with_reducible rfl)
    try simp only [Act.put, List.setIfInBounds_toArray, List.set_cons_zero, List.set_cons_succ]
    refine' take_on (i := 3) (v := _) rfl (by kernel_rfl) (by kernel_rfl) (by kernel_rfl) (fun _ _ _ h => h) (by rfl) ?_ (by assumption) ?_
    rotate_left
    · (intro W hW; (try dsimp only at hW); go_simp; first | done | with_reducible rfl)
    try simp only [Act.put, List.setIfInBounds_toArray, List.set_cons_zero, List.set_cons_succ]
    refine take_off (i := 4) rfl (by kernel_rfl) (by kernel_rfl) (by kernel_rfl) (fun _ _ _ h => h) (by rfl) (by assumption) ?_
    try simp only [Act.put, List.setIfInBounds_toArray, List.set_cons_zero, List.set_cons_succ]
    refine take_off (i := 5) rfl (by kernel_rfl) (by kernel_rfl) (by kernel_rfl) (fun _ _ _ h => h) (by rfl) (by assumption) ?_
    try simp only [Act.put, List.setIfInBounds_toArray, List.set_cons_zero, List.set_cons_succ]
    refine take_off (i := 6) rfl (by kernel_rfl) (by kernel_rfl) (by kernel_rfl) (fun _ _ _ h => h) (by rfl) (by assumption) ?_
    try simp only [Act.put, List.setIfInBounds_toArray, List.set_cons_zero, List.set_cons_succ]
    refine take_off (i := 7) rfl (by kernel_rfl) (by kernel_rfl) (by kernel_rfl) (fun _ _ _ h => h) (by rfl) (by assumption) ?_
    try simp only [Act.put, List.setIfInBounds_toArray, List.set_cons_zero, List.set_cons_succ]
    refine take_off (i := 8) rfl (by kernel_rfl) (by kernel_rfl) (by kernel_rfl) (fun _ _ _ h => h) (by rfl) (by assumption) ?_
    try simp only [Act.put, List.setIfInBounds_toArray, List.set_cons_zero, List.set_cons_succ]
    refine take_off (i := 9) rfl (by kernel_rfl) (by kernel_rfl) (by kernel_rfl) (fun _ _ _ h => h) (by rfl) (by assumption) ?_
    try simp only [Act.put, List.setIfInBounds_toArray, List.set_cons_zero, List.set_cons_succ]
    refine' take_on (i := 10) (v := _) rfl (by kernel_rfl) (by kernel_rfl) (by kernel_rfl) (fun _ _ _ h => h) (by rfl) ?_ (by assumption) ?_
    rotate_left
    · (intro W hW; (try dsimp only at hW); go_simp; first | done | with_reducible rfl)
    try simp only [Act.put, List.setIfInBounds_toArray, List.set_cons_zero, List.set_cons_succ]
    refine wpAnyH_done (by kernel_rfl) ?_ _
    go_wp2_with fail
    go_ret
    exact ⟨rfl, HB0.out.trans (hb2.mono HB0.out.size)⟩
  | true =>
    refine' take_on (i := 2) (v := _) rfl (by kernel_rfl) (by kernel_rfl) (by kernel_rfl) (fun _ _ _ h => h) (by rfl) ?_ (by assumption) ?_
    rotate_left
    · (intro W hW; (try dsimp only at hW); go_simp; first | done | with_reducible rfl)
    try simp only [Act.put, List.setIfInBounds_toArray, List.set_cons_zero, List.set_cons_succ]
    refine' take_on (i := 3) (v := _) rfl (by kernel_rfl) (by kernel_rfl) (by kernel_rfl) (fun _ _ _ h => h) (by rfl) ?_ (by assumption) ?_
    rotate_left
    · (intro W hW; (try dsimp only at hW); go_simp; first | done | with_reducible rfl)
    try simp only [Act.put, List.setIfInBounds_toArray, List.set_cons_zero, List.set_cons_succ]
    refine' take_on (i := 4) (v := _) rfl (by kernel_rfl) (by kernel_rfl) (by kernel_rfl) (fun _ _ _ h => h) (by rfl) ?_ (by assumption) ?_
    rotate_left
    · (intro W hW; (try dsimp only at hW); go_simp; first | done | with_reducible rfl)
    try simp only [Act.put, List.setIfInBounds_toArray, List.set_cons_zero, List.set_cons_succ]
    refine' take_on (i := 5) (v := _) rfl (by kernel_rfl) (by kernel_rfl) (by kernel_rfl) (fun _ _ _ h => h) (by rfl) ?_ (by assumption) ?_
    rotate_left
    · (intro W hW; (try dsimp only at hW); obtain ⟨hW1, hW2⟩ := hW; go_simp; first | done | with_reducible rfl)
    try simp only [Act.put, List.setIfInBounds_toArray, List.set_cons_zero, List.set_cons_succ]
    refine' take_on (i := 6) (v := _) rfl (by kernel_rfl) (by kernel_rfl) (by kernel_rfl) (fun _ _ _ h => h) (by rfl) ?_ (by assumption) ?_
    rotate_left
    · (intro W hW; (try dsimp only at hW); go_simp; first | done | with_reducible rfl)
    try simp only [Act.put, List.setIfInBounds_toArray, List.set_cons_zero, List.set_cons_succ]
    refine' take_on (i := 7) (v := _) rfl (by kernel_rfl) (by kernel_rfl) (by kernel_rfl) (fun _ _ _ h => h) (by rfl) ?_ (by assumption) ?_
    rotate_left
    · (intro W hW; (try dsimp only at hW); go_simp; first | done | with_reducible rfl)
    try simp only [Act.put, List.setIfInBounds_toArray, List.set_cons_zero, List.set_cons_succ]
    refine call_on (i := 8) rfl (by kernel_rfl) (by rfl) (fun K hK => ?_)
    go_simp
    refine (HQU.out w2).mono ?_
    rintro e w3 ⟨rfl, rfl⟩
    refine hK.out _ _ (HXW.out _ hb2) (fun hHeld => ?_)
    clear hK K
    try simp only [Act.put, List.setIfInBounds_toArray, List.set_cons_zero, List.set_cons_succ]
    by_cases hl : L = q
    · have hl1 : ((L : Int) != (q : Int)) = false := by simp [hl]
      refine' take_on (i := 9) (v := _) rfl (by kernel_rfl) (by kernel_rfl) (by kernel_rfl) (fun _ _ _ h => h) (by rfl) ?_ (by assumption) ?_
      rotate_left
      · (intro W hW; (try dsimp only at hW); go_simp; first | done | with_reducible rfl)
      try simp only [Act.put, List.setIfInBounds_toArray, List.set_cons_zero, List.set_cons_succ]
      refine' take_on (i := 10) (v := _) rfl (by kernel_rfl) (by kernel_rfl) (by kernel_rfl) (fun _ _ _ h => h) (by rfl) ?_ (by assumption) ?_
      rotate_left
      · (intro W hW; (try dsimp only at hW); go_simp; first | done | with_reducible rfl)
      try simp only [Act.put, List.setIfInBounds_toArray, List.set_cons_zero, List.set_cons_succ]
      refine wpAnyH_done (by kernel_rfl) ?_ _
      have HB2 := hid (HB0.out.trans (hb2.mono HB0.out.size))
      have c2 := (HXW.out w2 hb2).2
      have HHB2 := hid hb2
      clear hHeld hbd hb2' hb2
      have HLQ := hid hl
      clear hl
      go_wp2_with fail
      clear c2
      go_loopw [21] (fun si wr => ∃ i : Nat, i ≤ L ∧ si = .int .i64 i ∧ Hid (∀ j (h : j < c.sg.length), j < i → c.sg[j].bo ≤ n ∧ rightA (withC c.att c.sg[j]) = true) ∧ Below w0.heap.size w0 wr) (fun si _ => L - (intOf si).toNat)
      case atStart => exact ⟨0, Nat.zero_le _, rfl, hid (fun j _ h => absurd h (by omega)), HHB2.out⟩
      case round =>
        obtain ⟨i, hi, rfl, HD, hbr⟩ := hrel
        have HBR := hid (HB0.out.trans (hbr.mono HB0.out.size))
        by_cases hlt : i < L
        · have hil : i < c.sg.length := by rw [HL.out]; exact hlt
          obtain ⟨g, o, rfl, _, hcl⟩ := (HT.out wr HBR.out).at_.2.2.2 (by omega)
          have hI : (i : Int) < (L : Int) := by omega
          have hoi := HSO.out _ (List.getElem_mem hil)
          have l1 : loadSg (.pointer (some ⟨g, o + i * 33, none⟩)) wr = .ok (.value (.agg (sgc c.sg[i]))) wr := loadSg_mid (hcl i hil) hoi
          have HXS : Hid ((sgc c.sg[i]).size = 33 ∧ (sgc c.sg[i]).all (·.oneCell') = true) := hid ⟨sgc_size hoi, sgc_one _⟩
          have HC0 : Hid (∀ (W : World) (g : Nat), W.heap[g]? = some (.cells (sgc c.sg[i]) 63 (0, 0)) → W.cell? ⟨g, 0, none⟩ = some (.int .i64 c.sg[i].bo) ∧ loadSg (.pointer (some ⟨g, 0, none⟩)) W = .ok (.value (.agg (sgc c.sg[i]))) W) := hid (fun W g h => by
            refine ⟨cell_blk h 0, loadSg_mid (fun j u hu => ?_) hoi⟩
            rw [Nat.zero_add, cell_blk h j]
            unfold sgc
            rw [List.getElem?_toArray]
            exact hu)
          have HW2 := hid (fun W => HWI.out c.sg[i] W hoi)
          have HR2 := hid (fun W (h : Below w.heap.size w W) => HRT.out c.sg[i] W hoi h)
          have HNO : Hid ((n < c.sg[i].bo ∨ rightA (withC c.att c.sg[i]) = false) → ans = false) := hid (fun h => by rw [← HAN.out]; exact rightC_no (List.getElem_mem hil) h)
          have HYES : Hid (c.sg[i].bo ≤ n → rightA (withC c.att c.sg[i]) = true → ∀ j (h : j < c.sg.length), j < i + 1 → c.sg[j].bo ≤ n ∧ rightA (withC c.att c.sg[j]) = true) := hid (fun h1 h2 j h hj => by
            by_cases hji : j < i
            · exact HD.out j h hji
            · obtain rfl : j = i := by omega
              exact ⟨h1, h2⟩)
          obtain ⟨X, HX⟩ : ∃ C : Array Value, Hid (sgc c.sg[i] = C) := ⟨_, hid rfl⟩
          obtain ⟨bo, HBO⟩ : ∃ x : Int, Hid (c.sg[i].bo = x) := ⟨_, hid rfl⟩
          obtain ⟨m, HM⟩ : ∃ m : Bool, Hid (rightA (withC c.att c.sg[i]) = m) := ⟨_, hid rfl⟩
          obtain ⟨Y, HY⟩ : ∃ C : Array Value, Hid (atc (withC c.att c.sg[i]) = C) := ⟨_, hid rfl⟩
          rw [HX.out] at l1 HXS HC0
          rw [HX.out, HY.out] at HW2
          rw [HY.out, HM.out] at HR2
          rw [HBO.out, HM.out] at HNO HYES
          rw [HBO.out] at HC0
          have hst := sg_var wr HZS.out HXS.out.1 HXS.out.2
          have hal1 := hal wr
          clear hcl hoi
          go_upto_region 6 with (fail)
          have hr1 := heap_alloc_new wr (.cells X 63)
          have hb1 : Below w0.heap.size w0 (wr.alloc (.cells X 63)) := hbr.alloc hbr.size _
          obtain ⟨c0, l2⟩ := HC0.out _ _ hr1
          clear l1 hst hr1 hal1
          generalize (wr.alloc (.cells X 63)) = w1 at *
          obtain ⟨_, l3, _⟩ := HF.out w1 hb1
          have HB1 := hid (HB0.out.trans (hb1.mono HB0.out.size))
          by_cases h1 : n < bo
          · obtain rfl : ans = false := HNO.out (.inl h1)
            clear l2 l3
            go_wp2_with fail
            go_ret
            exact ⟨rfl, HB1.out⟩
          · have HH1 := hid (show bo ≤ n by omega)
            go_wp2_with fail
            refine (HW2.out w1).mono ?_
            rintro e w4 ⟨rfl, hb4⟩
            have HB4 := hid (HB1.out.trans (hb4.mono HB1.out.size))
            have HB40 := hid (hb1.trans (hb4.mono hb1.size))
            clear l2 l3 c0 hb4
            go_wp2_with fail
            refine (HR2.out w4 HB4.out).mono ?_
            rintro e w5 ⟨rfl, hb5⟩
            have HB5 := hid (HB4.out.trans (hb5.mono HB4.out.size))
            have HB50 := hid (HB40.out.trans (hb5.mono HB40.out.size))
            clear hb5
            cases m with
            | false =>
              obtain rfl : ans = false := HNO.out (.inr rfl)
              go_wp2_with fail
              go_ret
              exact ⟨rfl, HB5.out⟩
            | true =>
              have HM2 := hid (HYES.out HH1.out rfl)
              clear HYES HNO
              go_wp2_with fail
              go_roundw
              case rel => exact ⟨i + 1, by omega, by go_num, hid HM2.out, HB50.out⟩
              case measure => simp [intOf]; omega
        · obtain rfl : i = L := by omega
          obtain rfl : ans = true := by
            rw [← HAN.out]
            refine rightC_of HMC.out (by rw [HL.out, HQ.out]; exact HLQ.out) (fun s hs => ?_)
            obtain ⟨j, hj, rfl⟩ := List.getElem_of_mem hs
            exact HD.out j hj (by have := HL.out; omega)
          go_wp2_with fail
          go_ret
          exact ⟨rfl, HBR.out⟩
    · have hl1 : ((L : Int) != (q : Int)) = true := by simp; omega
      refine' take_on (i := 9) (v := _) rfl (by kernel_rfl) (by kernel_rfl) (by kernel_rfl) (fun _ _ _ h => h) (by rfl) ?_ (by assumption) ?_
      rotate_left
      · (intro W hW; (try dsimp only at hW); go_simp; first | done | with_reducible rfl)
      try simp only [Act.put, List.setIfInBounds_toArray, List.set_cons_zero, List.set_cons_succ]
      refine' take_on (i := 10) (v := _) rfl (by kernel_rfl) (by kernel_rfl) (by kernel_rfl) (fun _ _ _ h => h) (by rfl) ?_ (by assumption) ?_
      rotate_left
      · (intro W hW; (try dsimp only at hW); go_simp; first | done | with_reducible rfl)
      try simp only [Act.put, List.setIfInBounds_toArray, List.set_cons_zero, List.set_cons_succ]
      refine wpAnyH_done (by kernel_rfl) ?_ _
      have HB2 := hid (HB0.out.trans (hb2.mono HB0.out.size))
      have c2 := (HXW.out w2 hb2).2
      have HHB2 := hid hb2
      clear hHeld hbd hb2' hb2
      obtain rfl : ans = false := by
        rw [← HAN.out]
        unfold rightC
        rw [HL.out, HQ.out, decide_eq_false hl, Bool.false_and, Bool.and_false]
      clear hl
      go_wp2_with fail
      go_ret
      exact ⟨rfl, HB2.out⟩
end Go.Proofs.YtnancafpecfcjaaDoor
