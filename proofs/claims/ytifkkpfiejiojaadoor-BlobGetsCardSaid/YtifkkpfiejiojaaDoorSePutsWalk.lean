/-
  BlobPuts: which seals there may be, any one's blob, that it is got, and which of any two is ahead: the law's walk, from what blob's functions tell. Printed with genselaws.py.
-/
import Derived.Test.YtifkkpfiejiojaaDoorSeAwake
import Derived.Test.YtifkkpfiejiojaaDoorSePut
namespace Go.Proofs.YtifkkpfiejiojaaDoor
set_option maxRecDepth 20000
open Go.RowKit
attribute [local go_sem ↓] exec_load_se exec_alloc_se exec_store_se exec_eq_se
theorem se2_row {w : World} {g : Nat} {a b : SeM} (h : w.heap[g]? = some (.cells (se2c a b) 26 (0, 0))) (ha : a.Ok) (hb : b.Ok) :
    loadSe (.pointer (some ⟨g, 0, none⟩)) w = .ok (.value (.agg (sec a))) w ∧ loadSe (.pointer (some ⟨g, 35, none⟩)) w = .ok (.value (.agg (sec b))) w := by
  have hl := sel_length ha
  have key : ∀ (o : Nat) (c : SeM), c.Ok → w.rangeAt g o (sel c) → loadSe (.pointer (some ⟨g, o, none⟩)) w = .ok (.value (.agg (sec c))) w := by
    intro o c hc hr
    have := run_loadAt_mid (P := Tryd.prog) w g o 25 (sel c) _ hr under_se rfl (by rw [size_se, sel_length hc])
    unfold loadSe execOp
    simp only [Sem.run_bind, this, Result.andThen_ok, Sem.run_pure]
    rfl
  constructor
  · refine key 0 a ha (fun j u hu => ?_)
    rw [cell_blk h]
    unfold se2c
    rw [List.getElem?_toArray, Nat.zero_add, List.getElem?_append_left (List.getElem?_eq_some_iff.1 hu).1]
    exact hu
  · refine key 35 b hb (fun j u hu => ?_)
    rw [cell_blk h]
    unfold se2c
    rw [List.getElem?_toArray, List.getElem?_append_right (by omega), hl, Nat.add_sub_cancel_left]
    exact hu
set_option maxHeartbeats 6400000 in
theorem lawBlobPuts_any (hC : SeCheckOk) (hL : SeLessOk) (hP : SePutOk) (hG : SeGetOk) (hA : ∀ w, Kst 1 w → Calls Tryd.prog 10 #[] w fun e w' => e = .returned (.bool true) ∧ Below w.heap.size w w')
    (i n : Int) (a b : SeM) (w : World) (hi : (Lit.int .i64 i).wf = true) (hn : (Lit.int .i64 n).wf = true) (ho : a.Ok ∧ b.Ok) (hK : Kst 1 w) (hK2 : Kst 0 w) :
    Calls Tryd.prog 3 #[.int .i64 i, .int .i64 n, .agg (se2c a b)] w fun e w' => e = .returned (.bool true) ∧ Below w.heap.size w w' := by
  obtain ⟨oa, ob⟩ := ho
  have HA : Hid (∀ W, Below w.heap.size w W → Calls Tryd.prog 10 #[] W fun e w' => e = .returned (.bool true) ∧ Below W.heap.size W w') := hid (fun W h => hA W (hK.below h))
  have hr0 := heap_alloc_new w (.cells (se2c a b) 26)
  have hb0 : Below w.heap.size w (w.alloc (.cells (se2c a b) 26)) := (Below.refl _ _).alloc (Nat.le_refl _) _
  have HLD0 := hid (fun (W : World) (h : W.heap[w.heap.size]? = some (.cells (se2c a b) 26 (0, 0))) => se2_row h oa ob)
  obtain ⟨D, HD⟩ : ∃ C : Array Value, Hid (se2c a b = C) := ⟨_, hid rfl⟩
  obtain ⟨CA, HCA⟩ : ∃ C : Array Value, Hid (sec a = C) := ⟨_, hid rfl⟩
  obtain ⟨CB, HCB⟩ : ∃ C : Array Value, Hid (sec b = C) := ⟨_, hid rfl⟩
  obtain ⟨Z, HZ⟩ : ∃ C : Array Value, Hid (sec seZ = C) := ⟨_, hid rfl⟩
  obtain ⟨m, HM⟩ : ∃ q : Bool, Hid (mayS a = q) := ⟨_, hid rfl⟩
  obtain ⟨ls, HLS⟩ : ∃ q : Bool, Hid (lessS a b = q) := ⟨_, hid rfl⟩
  obtain ⟨p, HPO⟩ : ∃ q : Bool, Hid (putOkS i n a = q) := ⟨_, hid rfl⟩
  obtain ⟨O, HO⟩ : ∃ q : List UInt8, Hid (blobS i n a = q) := ⟨_, hid rfl⟩
  have HPD : Hid (p = (decide (1 ≤ i ∧ i ≤ 21) && (decide (1 ≤ n ∧ n ≤ 1099511627776) && m))) := hid (by rw [← HPO.out, ← HM.out]; rfl)
  have HPU : Hid (∀ W, Below w.heap.size w W → Calls Tryd.prog 5 #[.int .i64 i, .int .i64 n, .agg CA] W fun e w' => ∃ x, e = .returned (.tuple #[x, .int .i64 (if p = true then 0 else 1)]) ∧ Byt w' x (if p = true then O else []) ∧ Below W.heap.size W w') := hid (fun W h => by
    have := hP i n a W hi hn oa (hK.below h)
    rw [HPO.out, HO.out, HCA.out] at this
    exact this)
  have HMA : Hid (∀ W, Calls Tryd.prog 6 #[.agg CA] W fun e w' => e = .returned (.bool m) ∧ Below W.heap.size W w') := hid (fun W => by
    have := refMay13_any a W oa
    rw [HM.out, HCA.out] at this
    exact this)
  have HCK : Hid (∀ W, Calls Tryd.prog 7 #[.agg CA] W fun e w' => e = .returned (.int .i64 (if m = true then 0 else 1)) ∧ Below W.heap.size W w') := hid (fun W => by
    have := hC a W oa
    rw [HM.out, HCA.out] at this
    exact this)
  have HLC : Hid (∀ W, Calls Tryd.prog 8 #[.agg CA, .agg CB] W fun e w' => e = .returned (.bool ls) ∧ Below W.heap.size W w') := hid (fun W => by
    have := hL a b W oa ob
    rw [HLS.out, HCA.out, HCB.out] at this
    exact this)
  have HLR : Hid (∀ W, Calls Tryd.prog 9 #[.agg CA, .agg CB] W fun e w' => e = .returned (.bool ls) ∧ Below W.heap.size W w') := hid (fun W => by
    have := refLess13_any a b W
    rw [HLS.out, HCA.out, HCB.out] at this
    exact this)
  have HGT : Hid (p = true → ∀ v W, Below w.heap.size w W → Byt W v O → Calls Tryd.prog 11 #[.int .i64 i, v] W fun e w' => e = .returned (.tuple #[.int .i64 n, .agg CA, .int .i64 0]) ∧ Below W.heap.size W w') := hid (fun h v W hb hy => by
    rw [h] at HPO
    have h2 := HPO.out
    unfold putOkS at h2
    simp only [Bool.and_eq_true] at h2
    obtain ⟨p1, p2, p3⟩ := h2
    have := hG i v O W hi hy (by rw [← HO.out]; have := blobS_len (i := i) oa p2 p3; omega) (hK.below hb)
    rw [← HO.out, getB_back oa p2 p3 p1, HCA.out] at this
    exact this)
  have HRP : Hid (p = true → ∀ W, Below w.heap.size w W → Calls Tryd.prog 13 #[.int .i64 i, .int .i64 n, .agg CA] W fun e w' => ∃ x, e = .returned x ∧ Own W.heap.size w' x O ∧ Below W.heap.size W w') := hid (fun h W hb => by
    rw [h] at HPO
    have h2 := HPO.out
    unfold putOkS at h2
    simp only [Bool.and_eq_true] at h2
    obtain ⟨p1, p2, p3⟩ := h2
    have := refPut13_any i n a W oa p2 p3 (hK2.below hb)
    rw [HO.out, HCA.out] at this
    exact this)
  have HAL : Hid (∀ W, allocSe W = .ok (.value (.pointer (some ⟨W.heap.size, 0, none⟩))) (W.alloc (.cells Z 25))) := hid (fun W => by rw [← HZ.out]; exact allocSe_eq W)
  have HZS : Hid (Z.size = 35) := hid (by rw [← HZ.out]; exact sec_size seZ_ok)
  have HSS : Hid (CA.size = 35) := hid (by rw [← HCA.out]; exact sec_size oa)
  have HS1 : Hid (CA.all (·.oneCell') = true) := hid (by rw [← HCA.out]; exact sec_one _)
  have HEQ : Hid (∀ W, eqSe (.agg CA) (.agg CA) W = .ok (.value (.bool true)) W) := hid (fun W => by
    have := eqSe_eq a a oa oa W
    rw [HCA.out, decide_eq_true rfl] at this
    exact this)
  rw [HD.out, HCA.out, HCB.out] at HLD0
  rw [HD.out] at hr0 hb0 ⊢
  clear hC hL hP hG hA hi hn hK hK2 oa ob HD HCA HCB HM HLS HPO HO
  go_enter Tryd.func3, Tryd.ntmps3
  go_upto_region 1 with (fail)
  generalize (w.alloc (.cells D 26)) = w0 at *
  have HLD : Hid (∀ W, Below w0.heap.size w0 W → loadSe (.pointer (some ⟨w.heap.size, 0, none⟩)) W = .ok (.value (.agg CA)) W ∧ loadSe (.pointer (some ⟨w.heap.size, 35, none⟩)) W = .ok (.value (.agg CB)) W) := hid (fun W h => HLD0.out W ((h.block _ (lt_of_block hr0)).trans hr0))
  have HB0 := hid hb0
  obtain ⟨l0, _⟩ := HLD.out w0 (Below.refl _ _)
  clear hr0 hb0
  go_wp2_with fail
  refine (HPU.out w0 HB0.out).mono ?_
  rintro e w1 ⟨v1, rfl, hy1, hb1⟩
  obtain ⟨A1, c1, rfl⟩ := hy1.shape
  obtain ⟨er, HER⟩ : ∃ x : Int, Hid ((if p = true then (0 : Int) else 1) = x) := ⟨_, hid rfl⟩
  obtain ⟨P, HPP⟩ : ∃ x : List UInt8, Hid ((if p = true then O else []) = x) := ⟨_, hid rfl⟩
  rw [HER.out, HPP.out]
  rw [HPP.out] at hy1
  obtain ⟨n1, HN1⟩ : ∃ x : Nat, Hid (P.length = x) := ⟨_, hid rfl⟩
  rw [HN1.out] at hy1 ⊢
  have l1 := (HLD.out w1 hb1).1
  clear l0
  go_wp2_with fail
  refine (HMA.out w1).mono ?_
  rintro e w2 ⟨rfl, hb2'⟩
  have hb2 := hb1.trans (hb2'.mono hb1.size)
  have hy2 := hy1.below hb2'
  clear l1 hy1 hb2' hb1
  go_upto_region 3 with (fail)
  have HY2 := hid hy2
  have HB2 := hid hb2
  clear hy2 hb2
  obtain ⟨ck, HCC⟩ : ∃ x : Int, Hid ((if m = true then (0 : Int) else 1) = x) := ⟨_, hid rfl⟩
  rw [HCC.out] at HCK
  have hq : (ck == 0) = m := by rw [← HCC.out]; cases m <;> rfl
  have hqm : (m != m) = false := by cases m <;> rfl
  have hqs : (ls != ls) = false := by cases ls <;> rfl
  have hbd : Below w0.heap.size w0 w2.drew := HB2.out.drew
  refine wp_region_held_drew (S := fun W => loadSe (.pointer (some ⟨w.heap.size, 0, none⟩)) W = .ok (.value (.agg CA)) W ∧ loadSe (.pointer (some ⟨w.heap.size, 35, none⟩)) W = .ok (.value (.agg CB)) W) (by kernel_rfl) (HLD.out _ hbd) (fun hHeld => ?_)
  refine' tk (i := 0) (v := _) rfl ?_ ?_
  rotate_left
  · (intro W hW; (try dsimp only at hW); go_simp; first | done | with_reducible rfl)
  try simp only [lay]
  refine' tk (i := 1) (v := _) rfl (fun W hW => hW.1) ?_
  try simp only [lay]
  refine' tk (i := 4) (v := _) rfl ?_ ?_
  rotate_left
  · (intro W hW; (try dsimp only at hW); go_simp; first | done | with_reducible rfl)
  try simp only [lay]
  refine call_on (i := 2) rfl (by kernel_rfl) (by rfl) (fun K hK => ?_)
  go_simp
  refine (HCK.out _).mono ?_
  rintro e w3 ⟨rfl, hb3'⟩
  have hb3 := hbd.trans (hb3'.mono hbd.size)
  refine hK.out _ _ (HLD.out _ hb3) (fun hHeld => ?_)
  clear hK K
  try simp only [lay]
  refine' tk (i := 3) (v := _) rfl ?_ ?_
  rotate_left
  · (intro W hW; (try dsimp only at hW); go_simp; first | done | with_reducible rfl)
  try simp only [lay]
  refine' tk (i := 5) (v := _) rfl ?_ ?_
  rotate_left
  · (intro W hW; (try dsimp only at hW); go_simp; first | done | with_reducible rfl)
  try simp only [lay]
  refine' tk (i := 6) (v := _) rfl ?_ ?_
  rotate_left
  · (intro W hW; (try dsimp only at hW); go_simp; first | done | with_reducible rfl)
  try simp only [lay]
  refine' tk (i := 7) (v := _) rfl ?_ ?_
  rotate_left
  · (intro W hW; (try dsimp only at hW); go_simp; first | done | with_reducible rfl)
  try simp only [lay]
  refine' tk (i := 8) (v := _) rfl (fun W hW => hW.1) ?_
  try simp only [lay]
  refine' tk (i := 9) (v := _) rfl ?_ ?_
  rotate_left
  · (intro W hW; (try dsimp only at hW); go_simp; first | done | with_reducible rfl)
  try simp only [lay]
  refine' tk (i := 10) (v := _) rfl (fun W hW => hW.2) ?_
  try simp only [lay]
  refine' tk (i := 12) (v := _) rfl ?_ ?_
  rotate_left
  · (intro W hW; (try dsimp only at hW); go_simp; first | done | with_reducible rfl)
  try simp only [lay]
  refine' tk (i := 13) (v := _) rfl (fun W hW => hW.1) ?_
  try simp only [lay]
  refine' tk (i := 14) (v := _) rfl ?_ ?_
  rotate_left
  · (intro W hW; (try dsimp only at hW); go_simp; first | done | with_reducible rfl)
  try simp only [lay]
  refine' tk (i := 15) (v := _) rfl (fun W hW => hW.2) ?_
  try simp only [lay]
  refine call_on (i := 11) rfl (by kernel_rfl) (by rfl) (fun K hK => ?_)
  go_simp
  refine (HLC.out _).mono ?_
  rintro e w4 ⟨rfl, hb4'⟩
  have hb4 := hb3.trans (hb4'.mono hb3.size)
  refine hK.out _ _ (HLD.out _ hb4) (fun hHeld => ?_)
  clear hK K
  try simp only [lay]
  refine call_on (i := 16) rfl (by kernel_rfl) (by rfl) (fun K hK => ?_)
  go_simp
  refine (HLR.out _).mono ?_
  rintro e w5 ⟨rfl, hb5'⟩
  have hb5 := hb4.trans (hb5'.mono hb4.size)
  refine hK.out _ _ (HLD.out _ hb5) (fun hHeld => ?_)
  clear hK K
  try simp only [lay]
  refine' tk (i := 17) (v := _) rfl ?_ ?_
  rotate_left
  · (intro W hW; (try dsimp only at hW); go_simp; first | done | with_reducible rfl)
  try simp only [lay]
  refine' tk (i := 18) (v := _) rfl ?_ ?_
  rotate_left
  · (intro W hW; (try dsimp only at hW); go_simp; first | done | with_reducible rfl)
  try simp only [lay]
  refine wpAnyH_done (by kernel_rfl) ?_ _
  have hY5 : Byt w5 (.slice A1 n1 c1) P := ((((HY2.out.below ((Below.refl _ _).drew)).below hb3').below hb4').below hb5')
  have HY5 := hid hY5
  have HB5 := hid hb5
  clear hHeld hb3 hb3' hb4 hb4' hb5 hb5' hbd hY5 hq hqm hqs HY2 HB2
  cases p with
  | false =>
    obtain rfl : er = 1 := by rw [← HER.out]; rfl
    have hn1 : n1 = 0 := by rw [← HN1.out, ← HPP.out]; rfl
    subst hn1
    have hall := HPD.out
    have HNOT : Hid (m = false ∨ i < 1 ∨ 21 < i ∨ n < 1 ∨ 1099511627776 < n) := hid (by
      cases m with
      | false => exact .inl rfl
      | true =>
        refine .inr ?_
        by_cases g1 : 1 ≤ i ∧ i ≤ 21
        · by_cases g2 : 1 ≤ n ∧ n ≤ 1099511627776
          · rw [decide_eq_true g1, decide_eq_true g2] at hall
            cases hall
          · omega
        · omega)
    clear hall
    go_upto_region 5 with (fail)
    have fin : ∀ W, W = w5 → Calls Tryd.prog 10 #[] W fun e w' => e = .returned (.bool true) ∧ Below w0.heap.size w0 w' := fun W h => by
      subst h
      exact (HA.out _ (HB0.out.trans (HB5.out.mono HB0.out.size))).mono fun e w' ⟨h1, h2⟩ => ⟨h1, HB5.out.trans (h2.mono HB5.out.size)⟩
    have HFIN := hid fin
    clear fin
    cases m with
    | false =>
      go_wp2_with fail
      refine (HFIN.out _ rfl).mono ?_
      rintro e w6 ⟨rfl, hb6⟩
      go_wp2_with fail
      go_ret
      exact ⟨rfl, HB0.out.trans (hb6.mono HB0.out.size)⟩
    | true =>
      by_cases g0 : i < 1
      · go_wp2_with fail
        refine (HFIN.out _ rfl).mono ?_
        rintro e w6 ⟨rfl, hb6⟩
        go_wp2_with fail
        go_ret
        exact ⟨rfl, HB0.out.trans (hb6.mono HB0.out.size)⟩
      by_cases g1 : 21 < i
      · go_wp2_with fail
        refine (HFIN.out _ rfl).mono ?_
        rintro e w6 ⟨rfl, hb6⟩
        go_wp2_with fail
        go_ret
        exact ⟨rfl, HB0.out.trans (hb6.mono HB0.out.size)⟩
      by_cases g2 : n < 1
      · go_wp2_with fail
        refine (HFIN.out _ rfl).mono ?_
        rintro e w6 ⟨rfl, hb6⟩
        go_wp2_with fail
        go_ret
        exact ⟨rfl, HB0.out.trans (hb6.mono HB0.out.size)⟩
      by_cases g3 : 1099511627776 < n
      · go_wp2_with fail
        refine (HFIN.out _ rfl).mono ?_
        rintro e w6 ⟨rfl, hb6⟩
        go_wp2_with fail
        go_ret
        exact ⟨rfl, HB0.out.trans (hb6.mono HB0.out.size)⟩
      exfalso
      have := HNOT.out
      rcases this with h | h | h | h | h
      · cases h
      all_goals omega
  | true =>
    obtain rfl : er = 0 := by rw [← HER.out]; rfl
    obtain rfl : P = O := by rw [← HPP.out]; rfl
    have HGT2 := hid (HGT.out rfl)
    have HRP2 := hid (HRP.out rfl)
    have hall := HPD.out.symm
    simp only [Bool.and_eq_true, decide_eq_true_eq] at hall
    obtain ⟨⟨q1, q2⟩, ⟨q3, q4⟩, rfl⟩ := hall
    have g0 : ¬ i < 1 := by omega
    have g1 : ¬ 21 < i := by omega
    have g2 : ¬ n < 1 := by omega
    have g3 : ¬ 1099511627776 < n := by omega
    clear q1 q2 q3 q4
    go_wp2_with fail
    refine (HGT2.out _ w5 (HB0.out.trans (HB5.out.mono HB0.out.size)) HY5.out).mono ?_
    rintro e w6 ⟨rfl, hb6'⟩
    have hb6 := HB5.out.trans (hb6'.mono HB5.out.size)
    have hy6 := HY5.out.below hb6'
    have hal := HAL.out
    have hs6 := se_var w6 HZS.out HSS.out HS1.out
    have hr7 := heap_alloc_new w6 (.cells CA 25)
    have hb7 : Below w0.heap.size w0 (w6.alloc (.cells CA 25)) := hb6.alloc hb6.size _
    have hy7 := hy6.alloc (.cells CA 25)
    clear hb6 hb6' hy6 g0 g1 g2 g3
    go_upto_region 8 with (fail)
    generalize w6.alloc (.cells CA 25) = w7 at *
    have l7 := (HLD.out w7 hb7).1
    clear hal hs6
    go_wp2_with fail
    refine (HRP2.out w7 (HB0.out.trans (hb7.mono HB0.out.size))).mono ?_
    rintro e w8 ⟨x8, rfl, ho8, hb8'⟩
    have hb8 := hb7.trans (hb8'.mono hb7.size)
    have hy8 := hy7.below hb8'
    have hr8 := (hb8'.block _ (lt_of_block hr7)).trans hr7
    clear l7 hr7 hb8' hy7
    go_wp2_with fail
    refine (same_yes _ _ P w8 hy8 ho8.byt).mono ?_
    rintro e w9 ⟨rfl, n9, rfl⟩
    have hb9 := below_drewN hb8 n9
    have hr9 : (w8.drewN n9).heap[w6.heap.size]? = some (.cells CA 25 (0, 0)) := hr8
    generalize w8.drewN n9 = wQ at *
    obtain ⟨l9, _⟩ := HLD.out wQ hb9
    have k9 := loadSe_row hr9 HSS.out
    have heq := HEQ.out
    clear hr8 hr9 hy8 ho8 hb8
    go_wp2_with fail
    refine (HA.out wQ (HB0.out.trans (hb9.mono HB0.out.size))).mono ?_
    rintro e w10 ⟨rfl, hb10⟩
    go_wp2_with fail
    go_ret
    exact ⟨rfl, HB0.out.trans ((hb9.trans (hb10.mono hb9.size)).mono HB0.out.size)⟩
end Go.Proofs.YtifkkpfiejiojaaDoor
