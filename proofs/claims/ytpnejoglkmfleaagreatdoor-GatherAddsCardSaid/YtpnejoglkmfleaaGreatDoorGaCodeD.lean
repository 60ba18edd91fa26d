/-
  A gatherer's Drop and All; of nobody's gatherer. Printed with gengc.py.
-/
import Derived.Test.YtpnejoglkmfleaaGreatDoorGaAll
import Derived.Test.YtpnejoglkmfleaaGreatDoorGaCodeC
namespace Go.Proofs.YtpnejoglkmfleaaGreatDoor
set_option maxRecDepth 20000
open Go.RowKit
attribute [local go_sem ↓] exec_alloc_pl exec_store_pl exec_load_pl exec_load_att exec_alloc_att exec_store_att exec_load_ct exec_alloc_ct exec_store_ct exec_build_ct
theorem sortG_nodup {L : List AtM} (h : SortG L) : L.Nodup := List.Pairwise.imp (fun {a b} hab e => by
  subst e
  rw [aheadA_irr] at hab
  cases hab) h
theorem fst_inj {P : List (AtM × Nat)} (h : (P.map (·.1)).Nodup) {p q : AtM × Nat} (hp : p ∈ P) (hq : q ∈ P) (e : p.1 = q.1) : p = q := by
  obtain ⟨i, hi, rfl⟩ := List.getElem_of_mem hp
  obtain ⟨j, hj, rfl⟩ := List.getElem_of_mem hq
  have h2 := List.pairwise_iff_getElem.1 h
  rcases Nat.lt_trichotomy i j with c | c | c
  · exact absurd (by rw [List.getElem_map, List.getElem_map]; exact e) (h2 i j (by simpa using hi) (by simpa using hj) c)
  · subst c
    rfl
  · exact absurd (by rw [List.getElem_map, List.getElem_map]; exact e.symm) (h2 j i (by simpa using hj) (by simpa using hi) c)
structure DropG (w wr : World) (b m r : Nat) (n v : Int) (P ps Q : List (AtM × Nat)) (seen : Array Nat) (c : Nat) : Prop where
  sn : SeenG P ps seen
  at_ : GthE wr b m n Q c
  it : wr.heap[r]? = some (.mapIter (some m) c seen c)
  sub : ∀ p ∈ Q, p ∈ P
  nd : (Q.map (·.1)).Nodup
  keep : ∀ p ∈ P, v ≤ p.1.vi → p ∈ Q
  gone : ∀ p ∈ Q, p.2 ∈ seen → v ≤ p.1.vi
  grown : w.grownBy wr (some m)
theorem DropG.fin {w wr : World} {b m r : Nat} {n v : Int} {P ps Q : List (AtM × Nat)} {seen : Array Nat} {c : Nat} {L : List AtM} (h : DropG w wr b m r n v P ps Q seen c) (hp : (P.map (·.1)).Perm L) (hs : SortG L) (ha : ∀ p ∈ Q, p.2 ∈ seen) : Gth wr b m n (dropG L v) := by
  refine ⟨Q, c, h.at_, ?_⟩
  rw [List.perm_ext_iff_of_nodup h.nd (sortG_nodup (dropG_sort hs v))]
  intro x
  unfold dropG
  rw [List.mem_filter, decide_eq_true_eq]
  constructor
  · intro hx
    obtain ⟨p, hpq, rfl⟩ := List.mem_map.1 hx
    exact ⟨mem_perm hp (h.sub p hpq), h.gone p hpq (ha p hpq)⟩
  · rintro ⟨h1, h2⟩
    obtain ⟨p, hpp, rfl⟩ := List.mem_map.1 (hp.symm.subset h1)
    exact List.mem_map_of_mem (h.keep p hpp h2)
theorem DropG.next {w wr w3 : World} {b m r : Nat} {n v : Int} {P ps Q Q' : List (AtM × Nat)} {seen : Array Nat} {c : Nat} (h : DropG w wr b m r n v P ps Q seen c) {p : AtM × Nat} (hp : p ∈ Q) (hn : p.2 ∉ seen)
    (h3 : GthE w3 b m n Q' c) (hi : w3.heap[r]? = some (.mapIter (some m) c (seen.push p.2) c)) (hsub : Q'.Sublist Q) (hk : ∀ q ∈ Q, q ≠ p → q ∈ Q') (hpq : p ∈ Q' ↔ v ≤ p.1.vi) (hg : w.grownBy w3 (some m)) : DropG w w3 b m r n v P (ps ++ [p]) Q' (seen.push p.2) c :=
  ⟨h.sn.step (h.sub p hp) hn, h3, hi, fun q hq => h.sub q (hsub.subset hq), h.nd.sublist (hsub.map _), fun q hq hv => by
    by_cases e : q = p
    · subst e
      exact hpq.2 hv
    · exact hk q (h.keep q hq hv) e, fun q hq hs => by
    rcases Array.mem_push.1 hs with hs | hs
    · exact h.gone q (hsub.subset hq) hs
    · have e : q = p := snd_inj h.at_.nd (hsub.subset hq) hp hs
      subst e
      exact hpq.1 hq, hg⟩
set_option maxHeartbeats 12800000 in
theorem gDrop_any {w : World} {b m : Nat} {n : Int} {L : List AtM} (h : Gth w b m n L) (g : OkG n L) (v : Int) :
    Calls Tryz.prog 16 #[.pointer (some ⟨b, 0, none⟩), .int .i64 v] w fun e w' => e = .returned (.tuple #[]) ∧ Gth w' b m n (dropG L v) ∧ w.grownBy w' (some m) := by
  obtain ⟨P, c, h, hp⟩ := h
  obtain ⟨hn1, hn2, _⟩ := quoS_range g.quo
  have HP := hid hp
  have HGS := hid g.sort
  have HM := hid (gMade_yes h (by omega))
  obtain ⟨_, k1⟩ := h.cells
  have hrange := range_any h.q
  have HI0 : Hid (DropG w (w.alloc (.mapIter (some m) c #[] c)) b m w.heap.size n v P [] P #[] c) := hid ⟨SeenG.start P, h.below ((Below.refl _ _).alloc (Nat.le_refl _) _), heap_alloc_new w _, fun p h => h, (hp.nodup_iff).2 (sortG_nodup g.sort), fun p h _ => h, fun p _ h => absurd h (by simp), World.grownBy_alloc w _ _⟩
  clear h hp g hn1 hn2
  go_enter Tryz.func16, Tryz.ntmps16
  go_wp2_with fail
  refine HM.out.mono ?_
  rintro e w1 ⟨rfl, rfl⟩
  go_wp2
  go_loopw [4] (fun _ wr => Hid (∃ ps Q seen, DropG w wr b m w.heap.size n v P ps Q seen c)) (fun _ wr => P.length - seenG wr w.heap.size)
  case atStart => exact hid ⟨_, _, _, HI0.out⟩
  case round =>
    obtain ⟨ps, Q, seen, hd⟩ := hrel.out
    have HD := hid hd
    clear hrel
    have HSZ : Hid (w.heap.size < wr.heap.size) := hid (Array.getElem?_eq_some_iff.1 hd.it).1
    have HM : Hid (seenG wr w.heap.size = ps.length) := hid (by unfold seenG; rw [hd.it]; exact hd.sn.size)
    rcases next_any hd.it hd.at_.q hd.at_.nd hd.at_.lt with ⟨hall, hrun⟩ | ⟨p, hpq, hns, w2, hrun, hi2, hm2, hg2, hs2, hen⟩
    · have HF := hid (hd.fin HP.out HGS.out hall)
      have HG := hid hd.grown
      clear hall hd
      go_wp2
      go_end0
      exact ⟨rfl, HF.out, HG.out⟩
    · have h2 : GthE w2 b m n Q c := ⟨(hg2.block b hd.at_.lb (fun e => by
        have e : b = w.heap.size := by injection e
        have h1 := hd.at_.p
        rw [e, hd.it] at h1
        cases h1)).trans hd.at_.p, hm2, hd.at_.nd, hd.at_.lt⟩
      have HPQ := hid hpq
      have HNS := hid hns
      have HLT : Hid (ps.length < P.length) := hid (by
        have h1 := (hd.sn.step (hd.sub p hpq) hns).le
        simp only [List.length_append, List.length_cons, List.length_nil] at h1
        omega)
      have HSP := hid hd.sn.size
      obtain ⟨vi, HVI⟩ : ∃ q : Int, Hid (p.1.vi = q) := ⟨_, hid rfl⟩
      obtain ⟨ki, HKI⟩ : ∃ q : Int, Hid (p.1.ki = q) := ⟨_, hid rfl⟩
      obtain ⟨bo, HBO⟩ : ∃ q : Int, Hid (p.1.bo = q) := ⟨_, hid rfl⟩
      have hb3 : Below w2.heap.size w2 (w2.alloc (.cells #[.int .i64 vi, .int .i64 ki, .int .i64 bo] 59)) := (Below.refl _ _).alloc (Nat.le_refl _) _
      have HG3 : Hid (w.grownBy (w2.alloc (.cells #[.int .i64 vi, .int .i64 ki, .int .i64 bo] 59)) (some m)) := hid ((hd.grown.andThen hg2 (fun j e => .inl (by injection e with e; omega))).trans (World.grownBy_alloc w2 _ _))
      have HI3 : Hid ((w2.alloc (.cells #[.int .i64 vi, .int .i64 ki, .int .i64 bo] 59)).heap[w.heap.size]? = some (.mapIter (some m) c (seen.push p.2) c)) := hid ((hb3.block _ (Array.getElem?_eq_some_iff.1 hi2).1).trans hi2)
      have HT3 := hid (h2.below hb3)
      have hr3 := heap_alloc_new w2 (.cells #[.int .i64 vi, .int .i64 ki, .int .i64 bo] 59)
      have hal := allocPl_eq w2
      have hst := plVar_eq w2 vi ki bo
      have HU : Hid (∀ p ∈ Q, ∀ q ∈ Q, keyA p.1 q.1 = true → p = q) := hid (fun p1 h1 q1 h2 e => fst_inj hd.nd h1 h2 (sortG_key HGS.out (mem_perm HP.out (hd.sub p1 h1)) (mem_perm HP.out (hd.sub q1 h2)) e))
      unfold kv at hrun hen
      rw [HVI.out, HKI.out, HBO.out] at hrun hen
      obtain ⟨AC, HAC⟩ : ∃ q : Array Value, Hid (atc p.1 = q) := ⟨_, hid rfl⟩
      rw [HAC.out] at hrun hen
      clear hi2 hm2 hg2 hs2 h2 hb3 hd hpq hns
      go_upto_region 4 with (fail)
      clear hal hst hrun hen
      generalize (w2.alloc (.cells #[.int .i64 vi, .int .i64 ki, .int .i64 bo] 59)) = w3 at *
      generalize w2.heap.size = gp at *
      have HR3 := hid hr3
      have c2 : w3.cell? ⟨gp, 0, none⟩ = some (.int .i64 vi) := cell_blk hr3 0
      clear hr3
      by_cases hv : vi < v
      · go_upto_region 5 with (fail)
        have hbd : Below w3.heap.size w3 w3.drew := (Below.refl _ _).drew
        have HTD := hid (HT3.out.below hbd)
        obtain ⟨Q', hdel, hsub, hnq, hkeep⟩ := gaDel_any HTD.out HU.out HPQ.out 0
        have hdel2 : ∀ T, (Builtin.delete_ #[53, 59] T #[.map (some m), .agg #[.int .i64 vi, .int .i64 ki, .int .i64 bo]]).run Tryz.prog w3.drew = .ok (.tuple #[]) (setG w3.drew m Q' c) := fun T => by
          have e : (Builtin.delete_ #[53, 59] T #[.map (some m), kv p.1.vi p.1.ki p.1.bo]).run Tryz.prog w3.drew = .ok (.tuple #[]) (setG w3.drew m Q' c) := hdel
          unfold kv at e
          rw [HVI.out, HKI.out, HBO.out] at e
          exact e
        have HT5 := hid (setG_at (P' := Q') (c' := c) HTD.out (HTD.out.nd.sublist (hsub.map _)) (fun q hq => HTD.out.lt q (hsub.subset hq)))
        have HKP : Hid (∀ (k : Nat) (o : Obj), k ≠ m → w3.heap[k]? = some o → (setG w3.drew m Q' c).heap[k]? = some o) := hid (fun k o hk ho => ((setG_grown w3.drew m Q' c).block k (Array.getElem?_eq_some_iff.1 ho).1 (fun e => hk (by injection e))).trans ho)
        have HGM : Hid (gp ≠ m) := hid (fun e => by
          have h1 := HR3.out
          rw [e, HT3.out.q] at h1
          cases h1)
        have HWM : Hid (w.heap.size ≠ m) := hid (fun e => by
          have h1 := HI3.out
          rw [e, HT3.out.q] at h1
          cases h1)
        have HN := hid (HD.out.next HPQ.out HNS.out HT5.out (HKP.out _ _ HWM.out HI3.out) hsub hkeep ⟨fun h => absurd h hnq, fun h => absurd (by rw [HVI.out] at h; exact h) (by omega)⟩ ((HG3.out.trans (grown_below hbd (some m))).trans (setG_grown w3.drew m Q' c)))
        have HS0 : Hid (∀ W, W = w3.drew → W.cell? ⟨b, 1, none⟩ = some (.map (some m)) ∧ loadPl (.pointer (some ⟨gp, 0, none⟩)) W = .ok (.value (.agg #[.int .i64 vi, .int .i64 ki, .int .i64 bo])) W) := hid (fun W e => by
          subst e
          exact ⟨HTD.out.cells.2, loadPl_row HR3.out rfl⟩)
        have HS1 : Hid ((setG w3.drew m Q' c).cell? ⟨b, 1, none⟩ = some (.map (some m)) ∧ loadPl (.pointer (some ⟨gp, 0, none⟩)) (setG w3.drew m Q' c) = .ok (.value (.agg #[.int .i64 vi, .int .i64 ki, .int .i64 bo])) (setG w3.drew m Q' c)) := hid ⟨HT5.out.cells.2, loadPl_row (HKP.out _ _ HGM.out HR3.out) rfl⟩
        clear hdel hsub hnq hkeep c2 hbd
        refine wp_region_held_drew (S := fun W => W.cell? ⟨b, 1, none⟩ = some (.map (some m)) ∧ loadPl (.pointer (some ⟨gp, 0, none⟩)) W = .ok (.value (.agg #[.int .i64 vi, .int .i64 ki, .int .i64 bo])) W) (by kernel_rfl) (HS0.out _ rfl) (fun hHeld => ?_)
        refine' tk (i := 0) (v := _) rfl ?_ ?_
        rotate_left
        · (intro W hW; (try dsimp only at hW); go_simp; first | done | with_reducible rfl)
        try simp only [lay]
        refine' tk (i := 1) (v := _) rfl ?_ ?_
        rotate_left
        · (intro W hW; (try dsimp only at hW); go_simp; first | done | with_reducible rfl)
        try simp only [lay]
        refine' tk (i := 2) (v := _) rfl ?_ ?_
        rotate_left
        · (intro W hW; (try dsimp only at hW); go_simp; first | done | with_reducible rfl)
        try simp only [lay]
        refine' tk (i := 3) (v := _) rfl ?_ ?_
        rotate_left
        · (intro W hW; (try dsimp only at hW); obtain ⟨x0, x1⟩ := hW; go_simp; first | done | with_reducible rfl)
        try simp only [lay]
        refine' tk (i := 4) (v := _) rfl ?_ ?_
        rotate_left
        · (intro W hW; (try dsimp only at hW); obtain ⟨x0, x1⟩ := hW; go_simp; first | done | with_reducible rfl)
        try simp only [lay]
        refine call_on (i := 5) rfl (by kernel_rfl) (by rfl) (fun K hK => ?_)
        go_simp
        refine hK.out _ _ (HS1.out) (fun hHeld => ?_)
        clear hK K
        try simp only [lay]
        refine wpAnyH_done (by kernel_rfl) ?_ _
        clear hHeld hdel2 hv
        have HM5 : Hid (seenG (setG w3.drew m Q' c) w.heap.size = ps.length + 1) := hid (by
          unfold seenG
          rw [HN.out.it]
          simp only [Array.size_push]
          rw [HSP.out])
        generalize (setG w3.drew m Q' c) = w5 at *
        go_wp2_with fail
        go_roundw
        case rel => exact hid ⟨_, _, _, HN.out⟩
        case measure =>
          rw [HM5.out, HM.out]
          have := HLT.out
          omega
      · have hnv : ¬ vi < v := hv
        have HN := hid (HD.out.next HPQ.out HNS.out HT3.out HI3.out (List.Sublist.refl _) (fun q hq _ => hq) ⟨fun _ => by rw [HVI.out]; omega, fun _ => HPQ.out⟩ HG3.out)
        have HM5 : Hid (seenG w3 w.heap.size = ps.length + 1) := hid (by
          unfold seenG
          rw [HN.out.it]
          simp only [Array.size_push]
          rw [HSP.out])
        clear hv
        go_wp2_with fail
        go_roundw
        case rel => exact hid ⟨_, _, _, HN.out⟩
        case measure =>
          rw [HM5.out, HM.out]
          have := HLT.out
          omega
theorem gDrop_no {w : World} {v0 : Value} (h : NoGth w v0) (v : Int) : Calls Tryz.prog 16 #[v0, .int .i64 v] w fun e w' => e = .returned (.tuple #[]) ∧ w = w' := by
  have HM := hid (gMade_no h)
  clear h
  go_enter Tryz.func16, Tryz.ntmps16
  go_wp2_with fail
  refine HM.out.mono ?_
  rintro e w1 ⟨rfl, rfl⟩
  go_wp2_with fail
  refine bodyPost_ret (results_none rfl _ _ _) rfl ⟨rfl, rfl⟩
theorem gAdd_no {w : World} {v0 : Value} (h : NoGth w v0) (a : AtM) : Calls Tryz.prog 8 #[v0, .agg (atc a)] w fun e w' => e = .returned (.int .i64 5) ∧ Below w.heap.size w w' := by
  have HB0 : Hid (Below w.heap.size w (w.alloc (.cells (atc a) 36))) := hid ((Below.refl _ _).alloc (Nat.le_refl _) _)
  have HM := hid (gMade_no (h.below HB0.out))
  obtain ⟨X, HX⟩ : ∃ C : Array Value, Hid (atc a = C) := ⟨_, hid rfl⟩
  rw [HX.out] at HM HB0 ⊢
  clear h HX
  go_enter Tryz.func8, Tryz.ntmps8
  go_upto_region 1 with (fail)
  generalize (w.alloc (.cells X 36)) = w0 at *
  go_wp2_with fail
  refine HM.out.mono ?_
  rintro e w1 ⟨rfl, rfl⟩
  go_wp2_with fail
  go_ret
  exact ⟨rfl, HB0.out⟩
set_option maxHeartbeats 1600000 in
theorem gCert_no {w : World} {v0 : Value} (h : NoGth w v0) (k v : Int) : Calls Tryz.prog 9 #[v0, .int .i64 k, .int .i64 v] w fun e w' => e = .returned (.tuple #[.agg (ctc ctZ (.slice none 0 0)), .bool false]) ∧ Below w.heap.size w w' := by
  have HB0 : Hid (Below w.heap.size w (w.alloc (.cells (ctc ctZ (.slice none 0 0)) 40))) := hid ((Below.refl _ _).alloc (Nat.le_refl _) _)
  have HOF := hid (gOf_no (h.below HB0.out) k v)
  have hr := heap_alloc_new w (.cells (ctc ctZ (.slice none 0 0)) 40)
  have hal := allocCt_eq w
  have HBZ : Hid (∀ W, buildCt W = .ok (.value (.agg (ctc ctZ (.slice none 0 0)))) W) := hid buildCt_eq
  have HZS : Hid ((ctc ctZ (.slice none 0 0)).size = 102 ∧ (ctc ctZ (.slice none 0 0)).all (·.oneCell') = true) := hid ⟨ctc_size _ ctZ_ok.att, ctc_one (c := ctZ) (w := w) (Els.nil w)⟩
  obtain ⟨Z, HZ⟩ : ∃ C : Array Value, Hid (ctc ctZ (.slice none 0 0) = C) := ⟨_, hid rfl⟩
  rw [HZ.out] at HB0 HOF hr hal HBZ HZS ⊢
  clear h HZ
  go_enter Tryz.func9, Tryz.ntmps9
  go_upto_region 1 with (fail)
  clear hal
  generalize (w.alloc (.cells Z 40)) = wz at *
  go_wp2_with fail
  refine HOF.out.mono ?_
  rintro e w1 ⟨rfl, rfl⟩
  have hbz := HBZ.out wz
  have hst : storeCt (.pointer (some ⟨w.heap.size, 0, none⟩)) (.agg Z) wz = .ok .skip wz := by
    rw [storeCt_eq hr HZS.out.1 HZS.out.1 HZS.out.2, setCt_self hr]
  have HR := hid hr
  clear hr
  go_wp2_with fail
  go_loopw [20] (fun s9 wr => s9 = .int .i64 0 ∧ Hid (wr = wz)) (fun s9 _ => 0)
  case atStart => exact ⟨rfl, hid rfl⟩
  case round =>
    obtain ⟨rfl, HW⟩ := hrel
    obtain rfl := HW.out
    clear HW
    go_wp2_with fail
    try simp only [Exit.inBlock, Exit.then]
    refine bodyPost_ret (results_cb rfl _ _ _ _ _ _ rfl rfl HR.out HZS.out.1) rfl ?_
    exact ⟨rfl, HB0.out⟩
theorem gAll_no {w : World} {v0 : Value} (h : NoGth w v0) : Calls Tryz.prog 15 #[v0] w fun e w' => e = .returned (.slice none 0 0) ∧ w = w' := by
  have HM := hid (gMade_no h)
  clear h
  go_enter Tryz.func15, Tryz.ntmps15
  go_wp2_with fail
  refine HM.out.mono ?_
  rintro e w1 ⟨rfl, rfl⟩
  go_wp2_with fail
  go_ret
  exact ⟨rfl, rfl⟩
theorem gAll_any {w : World} {b m : Nat} {n : Int} {L : List AtM} (h : Gth w b m n L) (g : OkG n L) :
    Calls Tryz.prog 15 #[.pointer (some ⟨b, 0, none⟩)] w fun e w' => ∃ x, e = .returned x ∧ OwnE atl 101 36 w.heap.size w' x L ∧ Below w.heap.size w w' := by
  obtain ⟨P, c, h, hp⟩ := h
  obtain ⟨hn1, hn2, _⟩ := quoS_range g.quo
  have HM := hid (gMade_yes h (by omega))
  obtain ⟨_, k1⟩ := h.cells
  have hb1 : Below w.heap.size w (w.alloc (.cells #[.map (some m)] 53)) := (Below.refl _ _).alloc (Nat.le_refl _) _
  have HV := hid (gaValues_any m w)
  have HS := hid (gaSorted_any w.heap.size m c P L hp g.sort g.ok (Nat.le_trans g.len (by omega)) h.nd h.lt (w.alloc (.cells #[.map (some m)] 53)) (by simp) (cell_of_one (heap_alloc_new w _)) ((hb1.block m h.lm).trans h.q))
  have HB1 := hid hb1
  clear h hp g hn1 hn2 hb1
  go_enter Tryz.func15, Tryz.ntmps15
  go_wp2_with fail
  refine HM.out.mono ?_
  rintro e w1 ⟨rfl, rfl⟩
  go_wp2_with fail
  refine HV.out.mono ?_
  rintro e w1 ⟨rfl, rfl⟩
  go_wp2_with fail
  refine HS.out.mono ?_
  rintro e w1 ⟨x, rfl, ho, hb⟩
  have HE := hid (And.intro (ho.more HB1.out.size) (HB1.out.trans (hb.mono HB1.out.size)))
  clear ho hb
  go_wp2_with fail
  go_ret
  exact ⟨x, rfl, HE.out.1, HE.out.2⟩
end Go.Proofs.YtpnejoglkmfleaaGreatDoor
