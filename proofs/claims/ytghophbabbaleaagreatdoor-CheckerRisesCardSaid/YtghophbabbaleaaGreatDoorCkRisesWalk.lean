/-
  CheckerRises: whatever is asked, one behind the other, views and phases rise: the law's walk. Printed with genck.py.
-/
import Derived.Test.YtghophbabbaleaaGreatDoorCkStepsWalk
namespace Go.Proofs.YtghophbabbaleaaGreatDoor
set_option maxRecDepth 20000
open Go.RowKit
attribute [local go_sem ↓] exec_load_se exec_alloc_se exec_store_se exec_build_se exec_load_att exec_alloc_att exec_store_att exec_build_att exec_load_hash exec_build_se4 exec_build_at2 exec_build_at3 exec_build_at5 exec_build_at6 exec_load_bk exec_load_ax exec_load_ct exec_eq_se exec_eq_att exec_load_st
theorem three_on {P : Program} {md : Region.Mode} {l : List Oper} {Q : Exit → Act → World → Prop} {S : World → Prop} {i j k : Nat} {oi oj ok : Oper} {fuel : Nat} {listed : Array Bool} {a : Act} {w : World} (hi : l[i]? = some oi) (hj : l[j]? = some oj) (hk : l[k]? = some ok)
    (hr : Region.ready md l.toArray listed = [i, j, k]) (hw : Region.wanted oi (yielded l.toArray a.tmps) = true) (hv : Region.wanted oj (yielded l.toArray a.tmps) = true) (hu : Region.wanted ok (yielded l.toArray a.tmps) = true)
    (h : ∀ K' : Act → World → Prop, Shut (∀ a w, S w → (S w → wpAnyH P md l.toArray Q S fuel (listed.setIfInBounds i true) a w) → K' a w) → Oper.wp P oi a w K' Q)
    (h2 : ∀ K' : Act → World → Prop, Shut (∀ a w, S w → (S w → wpAnyH P md l.toArray Q S fuel (listed.setIfInBounds j true) a w) → K' a w) → Oper.wp P oj a w K' Q)
    (h3 : ∀ K' : Act → World → Prop, Shut (∀ a w, S w → (S w → wpAnyH P md l.toArray Q S fuel (listed.setIfInBounds k true) a w) → K' a w) → Oper.wp P ok a w K' Q) : wpAnyH P md l.toArray Q S (fuel + 1) listed a w :=
  wpAnyH_ready hr (by simp) (AllReadyH.cons (by simpa using hi) (fun K hK => by rw [if_pos hw]; exact h K hK) (AllReadyH.cons (by simpa using hj) (fun K hK => by rw [if_pos hv]; exact h2 K hK) (AllReadyH.cons (by simpa using hk) (fun K hK => by rw [if_pos hu]; exact h3 K hK) AllReadyH.nil)))
structure RzSt (w W : World) (p : Nat) (S : Array Value) : Prop where
  r : W.heap[p]? = some (.cells S 40 (0, 0))
  hp : w.heap.size ≤ p
  bel : Below w.heap.size w W
section
variable {w W W' : World} {p : Nat} {S : Array Value}
theorem RzSt.below (h : RzSt w W p S) (hb : Below W.heap.size W W') : RzSt w W' p S := ⟨(hb.block _ (lt_of_block h.r)).trans h.r, h.hp, h.bel.trans (hb.mono h.bel.size)⟩
theorem RzSt.setS (h : RzSt w W p S) {g : Nat} (X : Array Value) (hn : p ≠ g) (hg : w.heap.size ≤ g) : RzSt w (setSe W g X) p S := ⟨(setSe_other W _ hn).trans h.r, h.hp, setSe_below h.bel hg⟩
theorem RzSt.setY (h : RzSt w W p S) {g : Nat} (X : Array Value) (hn : p ≠ g) (hg : w.heap.size ≤ g) : RzSt w (setAtt W g X) p S := ⟨(setAtt_other W _ hn).trans h.r, h.hp, setAtt_below h.bel hg⟩
end
def RzRel (w W : World) (p : Nat) (v f : Int) : Prop := ∃ s : SeM, s.Ok ∧ s.vi = v ∧ s.ph = f ∧ RzSt w W p (sec s)
def RzMid (w W : World) (p : Nat) (S X Y : Array Value) (E : Int) (s9 s10 s11 s12 : Value) : Prop := ∃ g h, s9 = .pointer (some ⟨g, 0, none⟩) ∧ s10 = .pointer (some ⟨h, 0, none⟩) ∧ s11 = .int .i64 E ∧ s12 = .bool true ∧ W.heap[g]? = some (.cells X 40 (0, 0)) ∧ W.heap[h]? = some (.cells Y 52 (0, 0)) ∧ p ≠ g ∧ RzSt w W p S
theorem rz_meas {N k : Nat} (h : k < N) (hw : wrap64 ((k : Int) + 1) = (k : Int) + 1) : N - (intOf (Value.int IntKind.i64 (wrap64 ((k : Int) + 1)))).toNat < N - (intOf (Value.int IntKind.i64 (k : Int))).toNat := by
  rw [hw]
  simp only [intOf]
  omega
set_option maxHeartbeats 25600000 in
theorem lawCheckerRises_all (n : Int) (v : Value) (L : List StM) (w : World) (hn : (Lit.int .i64 n).wf = true) (hv : Els stl 208 w v L) (ho : ∀ x ∈ L, StOk w x) (hK : Kst 1 w) (hK0 : Kst 0 w) :
    Calls Tryz.prog 5 #[.int .i64 n, v] w fun e w' => e = .returned (.bool true) ∧ Below w.heap.size w w' := by
  have HAW : Hid (∀ W, Below w.heap.size w W → Calls Tryz.prog 13 #[] W fun e w' => e = .returned (.bool true) ∧ Below w.heap.size w w') := hid (fun W hb => (ckAwake_any W).mono fun _ _ ⟨h1, h2⟩ => ⟨h1, hb.trans (h2.mono hb.size)⟩)
  have HDOA : Hid (∀ (s : SeM) (x : StM) W, s.Ok → StOk w x → litS x = true → Below w.heap.size w W → Calls Tryz.prog 14 #[.agg (sec s), .int .i64 n, .agg (stc x)] W (D4Post (doQ s n x) W)) := hid (fun s x W hs hx hl h => do15_any s hs n hn x W (hx.below h) hl (hK.below h) (hK0.below h))
  obtain ⟨A, d, rfl⟩ := hv.shape
  have hr := hv.at_.2.2.2
  have hmx := hv.len
  unfold maxLen at hmx
  obtain ⟨N, HN⟩ : ∃ q : Nat, Hid (L.length = q) := ⟨_, hid rfl⟩
  have HCEL : Hid (∀ k (h : k < L.length), ∃ b off, A = some ⟨b, off, none⟩ ∧ ∀ W, Below w.heap.size w W → loadSt (.pointer (some ⟨b, off + k * 208, none⟩)) W = .ok (.value (.agg (stc L[k]))) W) := hid (fun k hk => by
    obtain ⟨b, off, e, hb, hc⟩ := hr (by omega)
    exact ⟨b, off, e, fun W hW => loadSt_mid (range_kept (hc k hk) (hW.block b hb)) (ho _ (List.getElem_mem hk))⟩)
  have HOK : Hid (∀ k (h : k < L.length), StOk w L[k]) := hid (fun k hk => ho _ (List.getElem_mem hk))
  rw [HN.out] at hmx ⊢
  have HMX := hid hmx
  clear hv ho hr hK hK0 hn hmx
  obtain ⟨ZS, HZS⟩ : ∃ q : Array Value, Hid (sec seZ = q) := ⟨_, hid rfl⟩
  obtain ⟨ZA, HZA⟩ : ∃ q : Array Value, Hid (atc atZ = q) := ⟨_, hid rfl⟩
  have HZZ : Hid (ZS.size = 35 ∧ ZA.size = 101) := hid (by rw [← HZS.out, ← HZA.out]; exact ⟨sec_size seZ_ok, atc_size atZ_ok⟩)
  have HLS : Hid (∀ W, allocSe W = .ok (.value (.pointer (some ⟨W.heap.size, 0, none⟩))) (W.alloc (.cells ZS 40))) := hid (fun W => by rw [← HZS.out]; exact allocSe_eq W)
  have HLA : Hid (∀ W, allocAtt W = .ok (.value (.pointer (some ⟨W.heap.size, 0, none⟩))) (W.alloc (.cells ZA 52))) := hid (fun W => by rw [← HZA.out]; exact allocAtt_eq W)
  have HBS : Hid (∀ W, buildSe W = .ok (.value (.agg ZS)) W) := hid (fun W => by rw [← HZS.out]; exact buildSe_eq W)
  have HREF := hid (Below.refl w.heap.size w)
  go_enter Tryz.func5, Tryz.ntmps5
  by_cases p1 : (30 : Int) < (N : Int)
  · go_wp2_with fail
    refine (HAW.out w HREF.out).mono ?_
    rintro e w2 ⟨rfl, hb2⟩
    go_wp2_with fail
    go_ret
    exact ⟨rfl, hb2⟩
  have hbs := HBS.out
  have hal := HLS.out
  have hsv := se_var w HZZ.out.1 HZZ.out.1 (by rw [← HZS.out]; exact sec_one _)
  have hb3 : Below w.heap.size w (w.alloc (.cells ZS 40)) := (Below.refl _ _).alloc (Nat.le_refl _) _
  have HST : Hid (RzRel w (w.alloc (.cells ZS 40)) w.heap.size 0 0) := hid ⟨seZ, seZ_ok, rfl, rfl, by rw [HZS.out]; exact heap_alloc_new w _, Nat.le_refl _, hb3⟩
  clear hb3
  go_upto_region 4 with (fail)
  clear hal hsv hbs p1
  generalize (w.alloc (.cells ZS 40)) = w3 at *
  obtain ⟨p, HP⟩ : ∃ q : Nat, Hid (w.heap.size = q) := ⟨_, hid rfl⟩
  have HST : Hid (RzRel w w3 p 0 0) := hid (by rw [← HP.out]; exact HST.out)
  rw [HP.out]
  go_wp2_with fail
  go_loopw [6, 7, 8] (fun s6 s7 s8 wr => ∃ (k : Nat) (vi ph : Int), k ≤ N ∧ s8 = .int .i64 k ∧ s6 = .int .i64 vi ∧ s7 = .int .i64 ph ∧ Hid (RzRel w wr p vi ph)) (fun _ _ s8 _ => N - (intOf s8).toNat)
  case atStart => exact ⟨0, 0, 0, Nat.zero_le _, rfl, rfl, rfl, HST⟩
  case round =>
    obtain ⟨k, vi, ph, hk, rfl, rfl, rfl, HREL⟩ := hrel
    by_cases hlt : k < N
    · have hlt' : (k : Int) < (N : Int) := by omega
      have hkL : k < L.length := by rw [HN.out]; exact hlt
      obtain ⟨b0, off, rfl, hld⟩ := HCEL.out k hkL
      have HKO := hid (HOK.out k hkL)
      obtain ⟨s, hso, hsv, hsp, hS⟩ := HREL.out
      have HSO := hid hso
      have HSV := hid (And.intro hsv hsp)
      have HLD := hid hld
      generalize L[k] = x at *
      have HHK := hid (show k < N from hlt)
      have HWI : Hid (wrap64 ((k : Int) + 1) = (k : Int) + 1) := hid (by have := HMX.out; unfold wrap64; omega)
      have HLT : Hid (∀ W, Below w.heap.size w W → Calls Tryz.prog 12 #[.agg (stc x)] W fun e w' => e = .returned (.bool (litS x)) ∧ Below W.heap.size W w') := hid (fun W h => light15_any x W (HKO.out.below h))
      have HTD : Hid (Told s (doQ s n x)) := hid (doQ_told HSO.out HKO.out)
      obtain ⟨t, HT⟩ : ∃ q : TldM, Hid (doQ s n x = q) := ⟨_, hid rfl⟩
      rw [HT.out] at HTD
      have HTK := hid HTD.out.ok
      obtain ⟨S, HS⟩ : ∃ q : Array Value, Hid (sec s = q) := ⟨_, hid rfl⟩
      obtain ⟨C, HC⟩ : ∃ q : Array Value, Hid (stc x = q) := ⟨_, hid rfl⟩
      obtain ⟨X9, HX9⟩ : ∃ q : Array Value, Hid (sec t.s = q) := ⟨_, hid rfl⟩
      obtain ⟨Y9, HY9⟩ : ∃ q : Array Value, Hid (atc t.a = q) := ⟨_, hid rfl⟩
      obtain ⟨E9, HE9⟩ : ∃ q : Int, Hid (t.e = q) := ⟨_, hid rfl⟩
      have HDO : Hid (litS x = true → ∀ W, RzSt w W p S → Calls Tryz.prog 14 #[.agg S, .int .i64 n, .agg C] W fun e w' => e = .returned (.tuple #[.agg X9, .agg Y9, .int .i64 E9, .bool true]) ∧ Below W.heap.size W w') := hid (fun hl W h => by
        have := HDOA.out s x W HSO.out HKO.out hl h.bel
        unfold D4Post at this
        rw [HT.out, HS.out, HC.out, HX9.out, HY9.out, HE9.out] at this
        exact this)
      have HSZ0 : Hid (S.size = 35) := hid (by rw [← HS.out]; exact sec_size HSO.out)
      rw [HS.out] at hS
      rw [HC.out] at HLD HLT
      have HS0 := hid hS
      obtain ⟨l, HL⟩ : ∃ q : Bool, Hid (litS x = q) := ⟨_, hid rfl⟩
      rw [HL.out] at HLT
      have hl0 := HLD.out wr hS.bel
      clear hso hsv hsp hS hld hkL HREL hlt hk
      go_wp2_with fail
      refine (HLT.out wr HS0.out.bel).mono ?_
      rintro e w1 ⟨rfl, hb1⟩
      have HS1 := hid (HS0.out.below hb1)
      clear hb1 hl0
      cases l with
      | false =>
        go_wp2_with fail
        refine (HAW.out w1 HS1.out.bel).mono ?_
        rintro e w2 ⟨rfl, hb2⟩
        go_wp2_with fail
        go_ret
        exact ⟨rfl, hb2⟩
      | true =>
      go_upto_region 10 with (fail)
      go_cut [9, 10, 11, 12] (fun s9 s10 s11 s12 wy => Hid (RzMid w wy p S X9 Y9 E9 s9 s10 s11 s12))
      case first =>
        have HSd := hid (HS1.out.below ((Below.refl w1.heap.size w1).drew))
        have hal1 := HLS.out
        have hal2 := HLA.out
        have HKP : Hid (∀ W, RzSt w W p S → loadSe (.pointer (some ⟨p, 0, none⟩)) W = .ok (.value (.agg S)) W ∧ loadSt (.pointer (some ⟨b0, off + k * 208, none⟩)) W = .ok (.value (.agg C)) W) := hid (fun W h => ⟨loadSe_row h.r HSZ0.out, HLD.out W h.bel⟩)
        have HDL := hid (HDO.out HL.out)
        refine wp_region_held_drew (S := fun W => loadSe (.pointer (some ⟨p, 0, none⟩)) W = .ok (.value (.agg S)) W ∧ loadSt (.pointer (some ⟨b0, off + k * 208, none⟩)) W = .ok (.value (.agg C)) W) (by kernel_rfl) (HKP.out _ HSd.out) (fun hHeld => ?_)
        refine' tk (i := 0) (v := _) rfl ?_ ?_
        rotate_left
        · (intro W hW; (try dsimp only at hW); obtain ⟨hW1, hW2⟩ := hW; go_simp; first | done | with_reducible rfl)
        try simp only [lay]
        refine' tk (i := 1) (v := _) rfl ?_ ?_
        rotate_left
        · (intro W hW; (try dsimp only at hW); go_simp; first | done | with_reducible rfl)
        try simp only [lay]
        refine' tk (i := 2) (v := _) rfl ?_ ?_
        rotate_left
        · (intro W hW; (try dsimp only at hW); go_simp; first | done | with_reducible rfl)
        try simp only [lay]
        refine' tk (i := 3) (v := _) rfl ?_ ?_
        rotate_left
        · (intro W hW; (try dsimp only at hW); go_simp; first | done | with_reducible rfl)
        try simp only [lay]
        refine' tk (i := 4) (v := _) rfl ?_ ?_
        rotate_left
        · (intro W hW; (try dsimp only at hW); go_simp; first | done | with_reducible rfl)
        try simp only [lay]
        refine' tk (i := 5) (v := _) rfl ?_ ?_
        rotate_left
        · (intro W hW; (try dsimp only at hW); obtain ⟨hW1, hW2⟩ := hW; go_simp; first | done | with_reducible rfl)
        try simp only [lay]
        refine three_on (i := 6) (j := 12) (k := 13) rfl rfl rfl (by kernel_rfl) (by rfl) (by rfl) (by rfl) (fun K hK => ?_) (fun K hK => ?_) (fun K hK => ?_)
        · go_simp
          refine (HDL.out w1.drew HSd.out).mono ?_
          rintro e wD1 ⟨rfl, hbD⟩
          have HR1 := hid (HSd.out.below hbD)
          clear hbD
          refine hK.out _ _ (HKP.out wD1 HR1.out) (fun hHeld => ?_)
          clear hK K
          try simp only [lay]
          refine' tk (i := 7) (v := _) rfl ?_ ?_
          rotate_left
          · (intro W hW; (try dsimp only at hW); go_simp; first | done | with_reducible rfl)
          try simp only [lay]
          refine' tk (i := 8) (v := _) rfl ?_ ?_
          rotate_left
          · (intro W hW; (try dsimp only at hW); go_simp; first | done | with_reducible rfl)
          try simp only [lay]
          refine' tk (i := 9) (v := _) rfl ?_ ?_
          rotate_left
          · (intro W hW; (try dsimp only at hW); go_simp; first | done | with_reducible rfl)
          try simp only [lay]
          refine' tk (i := 10) (v := _) rfl ?_ ?_
          rotate_left
          · (intro W hW; (try dsimp only at hW); go_simp; first | done | with_reducible rfl)
          try simp only [lay]
          refine' tk (i := 11) (v := _) rfl ?_ ?_
          rotate_left
          · (intro W hW; (try dsimp only at hW); go_simp; first | done | with_reducible rfl)
          try simp only [lay]
          refine pair_on (i := 12) (j := 13) rfl rfl (by kernel_rfl) (by rfl) (by rfl) (fun K hK => ?_) (fun K hK => ?_)
          · go_simp
            have HR2 := hid (HR1.out.below ((Below.refl wD1.heap.size wD1).alloc (Nat.le_refl _) (.cells ZS 40)))
            have HN2 : Hid ((wD1.alloc (.cells ZS 40)).heap[wD1.heap.size]? = some (.cells ZS 40 (0, 0)) ∧ w.heap.size ≤ wD1.heap.size ∧ p ≠ wD1.heap.size) := hid (by
              have h1 := heap_alloc_new wD1 (.cells ZS 40)
              have h2 := HR1.out.bel.size
              have h3 := lt_of_block HR1.out.r
              have h4 : wD1.heap.size = wD1.heap.size := by first | rfl | simp
              rw [h4] at h1 h2 h3
              exact ⟨h1, h2, by omega⟩)
            refine hK.out _ _ (HKP.out (wD1.alloc (.cells ZS 40)) HR2.out) (fun hHeld => ?_)
            clear hK K
            try simp only [lay]
            refine call_on (i := 13) rfl (by kernel_rfl) (by rfl) (fun K hK => ?_)
            go_simp
            have HR3 := hid (HR2.out.below ((Below.refl (wD1.alloc (.cells ZS 40)).heap.size (wD1.alloc (.cells ZS 40))).alloc (Nat.le_refl _) (.cells ZA 52)))
            have HN3 : Hid (((wD1.alloc (.cells ZS 40)).alloc (.cells ZA 52)).heap[wD1.heap.size + 1]? = some (.cells ZA 52 (0, 0)) ∧ w.heap.size ≤ wD1.heap.size + 1 ∧ p ≠ wD1.heap.size + 1) := hid (by
              have h1 := heap_alloc_new (wD1.alloc (.cells ZS 40)) (.cells ZA 52)
              have h2 := HR2.out.bel.size
              have h3 := lt_of_block HR2.out.r
              have h4 : (wD1.alloc (.cells ZS 40)).heap.size = wD1.heap.size + 1 := by first | rfl | simp
              rw [h4] at h1 h2 h3
              exact ⟨h1, h2, by omega⟩)
            have HA3 := hid (And.intro ((Below.heap_alloc (wD1.alloc (.cells ZS 40)) (.cells ZA 52) _ (lt_of_block HN2.out.1)).trans HN2.out.1) HN2.out.2)
            refine hK.out _ _ (HKP.out ((wD1.alloc (.cells ZS 40)).alloc (.cells ZA 52)) HR3.out) (fun hHeld => ?_)
            clear hK K
            try simp only [lay]
            obtain ⟨hst, hsa, hrs, hra, hbe, hzs, hza⟩ := ResSt.fin (t := t) (show ResSt w ((wD1.alloc (.cells ZS 40)).alloc (.cells ZA 52)) (wD1.heap.size) (wD1.heap.size + 1) ZS ZA from ⟨HA3.out.1, HN3.out.1, HA3.out.2.1, HN3.out.2.1, HR3.out.bel, HZZ.out.1, HZZ.out.2⟩) HTK.out
            rw [HX9.out] at hst hsa hrs hra hbe hzs
            rw [HY9.out] at hsa hrs hra hbe hza
            have HRS := hid hrs
            have HRA := hid hra
            have HSE := hid (HR3.out.setS X9 HA3.out.2.2 HA3.out.2.1)
            have HSF := hid (HSE.out.setY Y9 HN3.out.2.2 HN3.out.2.1)
            clear hrs hra hbe hzs hza
            refine call_on (i := 14) rfl (by kernel_rfl) (by rfl) (fun K hK => ?_)
            go_simp
            refine hK.out _ _ (HKP.out _ HSE.out) (fun hHeld => ?_)
            clear hK K
            try simp only [lay]
            refine call_on (i := 15) rfl (by kernel_rfl) (by rfl) (fun K hK => ?_)
            go_simp
            refine hK.out _ _ (HKP.out _ HSF.out) (fun hHeld => ?_)
            clear hK K
            try simp only [lay]
            refine' tk (i := 16) (v := _) rfl ?_ ?_
            rotate_left
            · (intro W hW; (try dsimp only at hW); go_simp; first | done | with_reducible rfl)
            try simp only [lay]
            refine' tk (i := 17) (v := _) rfl ?_ ?_
            rotate_left
            · (intro W hW; (try dsimp only at hW); go_simp; first | done | with_reducible rfl)
            try simp only [lay]
            refine wpAnyH_done (by kernel_rfl) ?_ _
            clear hHeld hst hsa hal1 hal2
            go_wp2_with fail
            go_meet
            case rel => exact hid ⟨_, _, rfl, rfl, rfl, rfl, HRS.out, HRA.out, HA3.out.2.2, HSF.out⟩
          · go_simp
            have HR4 := hid (HR1.out.below ((Below.refl wD1.heap.size wD1).alloc (Nat.le_refl _) (.cells ZA 52)))
            have HN4 : Hid ((wD1.alloc (.cells ZA 52)).heap[wD1.heap.size]? = some (.cells ZA 52 (0, 0)) ∧ w.heap.size ≤ wD1.heap.size ∧ p ≠ wD1.heap.size) := hid (by
              have h1 := heap_alloc_new wD1 (.cells ZA 52)
              have h2 := HR1.out.bel.size
              have h3 := lt_of_block HR1.out.r
              have h4 : wD1.heap.size = wD1.heap.size := by first | rfl | simp
              rw [h4] at h1 h2 h3
              exact ⟨h1, h2, by omega⟩)
            refine hK.out _ _ (HKP.out (wD1.alloc (.cells ZA 52)) HR4.out) (fun hHeld => ?_)
            clear hK K
            try simp only [lay]
            refine call_on (i := 12) rfl (by kernel_rfl) (by rfl) (fun K hK => ?_)
            go_simp
            have HR5 := hid (HR4.out.below ((Below.refl (wD1.alloc (.cells ZA 52)).heap.size (wD1.alloc (.cells ZA 52))).alloc (Nat.le_refl _) (.cells ZS 40)))
            have HN5 : Hid (((wD1.alloc (.cells ZA 52)).alloc (.cells ZS 40)).heap[wD1.heap.size + 1]? = some (.cells ZS 40 (0, 0)) ∧ w.heap.size ≤ wD1.heap.size + 1 ∧ p ≠ wD1.heap.size + 1) := hid (by
              have h1 := heap_alloc_new (wD1.alloc (.cells ZA 52)) (.cells ZS 40)
              have h2 := HR4.out.bel.size
              have h3 := lt_of_block HR4.out.r
              have h4 : (wD1.alloc (.cells ZA 52)).heap.size = wD1.heap.size + 1 := by first | rfl | simp
              rw [h4] at h1 h2 h3
              exact ⟨h1, h2, by omega⟩)
            have HB5 := hid (And.intro ((Below.heap_alloc (wD1.alloc (.cells ZA 52)) (.cells ZS 40) _ (lt_of_block HN4.out.1)).trans HN4.out.1) HN4.out.2)
            refine hK.out _ _ (HKP.out ((wD1.alloc (.cells ZA 52)).alloc (.cells ZS 40)) HR5.out) (fun hHeld => ?_)
            clear hK K
            try simp only [lay]
            obtain ⟨hst, hsa, hrs, hra, hbe, hzs, hza⟩ := ResSt.fin (t := t) (show ResSt w ((wD1.alloc (.cells ZA 52)).alloc (.cells ZS 40)) (wD1.heap.size + 1) (wD1.heap.size) ZS ZA from ⟨HN5.out.1, HB5.out.1, HN5.out.2.1, HB5.out.2.1, HR5.out.bel, HZZ.out.1, HZZ.out.2⟩) HTK.out
            rw [HX9.out] at hst hsa hrs hra hbe hzs
            rw [HY9.out] at hsa hrs hra hbe hza
            have HRS := hid hrs
            have HRA := hid hra
            have HSE := hid (HR5.out.setS X9 HN5.out.2.2 HN5.out.2.1)
            have HSF := hid (HSE.out.setY Y9 HB5.out.2.2 HB5.out.2.1)
            clear hrs hra hbe hzs hza
            refine call_on (i := 14) rfl (by kernel_rfl) (by rfl) (fun K hK => ?_)
            go_simp
            refine hK.out _ _ (HKP.out _ HSE.out) (fun hHeld => ?_)
            clear hK K
            try simp only [lay]
            refine call_on (i := 15) rfl (by kernel_rfl) (by rfl) (fun K hK => ?_)
            go_simp
            refine hK.out _ _ (HKP.out _ HSF.out) (fun hHeld => ?_)
            clear hK K
            try simp only [lay]
            refine' tk (i := 16) (v := _) rfl ?_ ?_
            rotate_left
            · (intro W hW; (try dsimp only at hW); go_simp; first | done | with_reducible rfl)
            try simp only [lay]
            refine' tk (i := 17) (v := _) rfl ?_ ?_
            rotate_left
            · (intro W hW; (try dsimp only at hW); go_simp; first | done | with_reducible rfl)
            try simp only [lay]
            refine wpAnyH_done (by kernel_rfl) ?_ _
            clear hHeld hst hsa hal1 hal2
            go_wp2_with fail
            go_meet
            case rel => exact hid ⟨_, _, rfl, rfl, rfl, rfl, HRS.out, HRA.out, HN5.out.2.2, HSF.out⟩
        · go_simp
          have HR6 := hid (HSd.out.below ((Below.refl w1.drew.heap.size w1.drew).alloc (Nat.le_refl _) (.cells ZS 40)))
          have HN6 : Hid ((w1.drew.alloc (.cells ZS 40)).heap[w1.heap.size]? = some (.cells ZS 40 (0, 0)) ∧ w.heap.size ≤ w1.heap.size ∧ p ≠ w1.heap.size) := hid (by
            have h1 := heap_alloc_new w1.drew (.cells ZS 40)
            have h2 := HSd.out.bel.size
            have h3 := lt_of_block HSd.out.r
            have h4 : w1.drew.heap.size = w1.heap.size := by first | rfl | simp
            rw [h4] at h1 h2 h3
            exact ⟨h1, h2, by omega⟩)
          refine hK.out _ _ (HKP.out (w1.drew.alloc (.cells ZS 40)) HR6.out) (fun hHeld => ?_)
          clear hK K
          try simp only [lay]
          refine pair_on (i := 6) (j := 13) rfl rfl (by kernel_rfl) (by rfl) (by rfl) (fun K hK => ?_) (fun K hK => ?_)
          · go_simp
            refine (HDL.out (w1.drew.alloc (.cells ZS 40)) HR6.out).mono ?_
            rintro e wD7 ⟨rfl, hbD⟩
            have HR7 := hid (HR6.out.below hbD)
            have HA7 := hid (And.intro ((hbD.block _ (lt_of_block HN6.out.1)).trans HN6.out.1) HN6.out.2)
            clear hbD
            refine hK.out _ _ (HKP.out wD7 HR7.out) (fun hHeld => ?_)
            clear hK K
            try simp only [lay]
            refine' tk (i := 7) (v := _) rfl ?_ ?_
            rotate_left
            · (intro W hW; (try dsimp only at hW); go_simp; first | done | with_reducible rfl)
            try simp only [lay]
            refine' tk (i := 8) (v := _) rfl ?_ ?_
            rotate_left
            · (intro W hW; (try dsimp only at hW); go_simp; first | done | with_reducible rfl)
            try simp only [lay]
            refine' tk (i := 9) (v := _) rfl ?_ ?_
            rotate_left
            · (intro W hW; (try dsimp only at hW); go_simp; first | done | with_reducible rfl)
            try simp only [lay]
            refine' tk (i := 10) (v := _) rfl ?_ ?_
            rotate_left
            · (intro W hW; (try dsimp only at hW); go_simp; first | done | with_reducible rfl)
            try simp only [lay]
            refine' tk (i := 11) (v := _) rfl ?_ ?_
            rotate_left
            · (intro W hW; (try dsimp only at hW); go_simp; first | done | with_reducible rfl)
            try simp only [lay]
            refine call_on (i := 13) rfl (by kernel_rfl) (by rfl) (fun K hK => ?_)
            go_simp
            have HR8 := hid (HR7.out.below ((Below.refl wD7.heap.size wD7).alloc (Nat.le_refl _) (.cells ZA 52)))
            have HN8 : Hid ((wD7.alloc (.cells ZA 52)).heap[wD7.heap.size]? = some (.cells ZA 52 (0, 0)) ∧ w.heap.size ≤ wD7.heap.size ∧ p ≠ wD7.heap.size) := hid (by
              have h1 := heap_alloc_new wD7 (.cells ZA 52)
              have h2 := HR7.out.bel.size
              have h3 := lt_of_block HR7.out.r
              have h4 : wD7.heap.size = wD7.heap.size := by first | rfl | simp
              rw [h4] at h1 h2 h3
              exact ⟨h1, h2, by omega⟩)
            have HA8 := hid (And.intro ((Below.heap_alloc wD7 (.cells ZA 52) _ (lt_of_block HA7.out.1)).trans HA7.out.1) HA7.out.2)
            refine hK.out _ _ (HKP.out (wD7.alloc (.cells ZA 52)) HR8.out) (fun hHeld => ?_)
            clear hK K
            try simp only [lay]
            obtain ⟨hst, hsa, hrs, hra, hbe, hzs, hza⟩ := ResSt.fin (t := t) (show ResSt w (wD7.alloc (.cells ZA 52)) (w1.heap.size) (wD7.heap.size) ZS ZA from ⟨HA8.out.1, HN8.out.1, HA8.out.2.1, HN8.out.2.1, HR8.out.bel, HZZ.out.1, HZZ.out.2⟩) HTK.out
            rw [HX9.out] at hst hsa hrs hra hbe hzs
            rw [HY9.out] at hsa hrs hra hbe hza
            have HRS := hid hrs
            have HRA := hid hra
            have HSE := hid (HR8.out.setS X9 HA8.out.2.2 HA8.out.2.1)
            have HSF := hid (HSE.out.setY Y9 HN8.out.2.2 HN8.out.2.1)
            clear hrs hra hbe hzs hza
            refine call_on (i := 14) rfl (by kernel_rfl) (by rfl) (fun K hK => ?_)
            go_simp
            refine hK.out _ _ (HKP.out _ HSE.out) (fun hHeld => ?_)
            clear hK K
            try simp only [lay]
            refine call_on (i := 15) rfl (by kernel_rfl) (by rfl) (fun K hK => ?_)
            go_simp
            refine hK.out _ _ (HKP.out _ HSF.out) (fun hHeld => ?_)
            clear hK K
            try simp only [lay]
            refine' tk (i := 16) (v := _) rfl ?_ ?_
            rotate_left
            · (intro W hW; (try dsimp only at hW); go_simp; first | done | with_reducible rfl)
            try simp only [lay]
            refine' tk (i := 17) (v := _) rfl ?_ ?_
            rotate_left
            · (intro W hW; (try dsimp only at hW); go_simp; first | done | with_reducible rfl)
            try simp only [lay]
            refine wpAnyH_done (by kernel_rfl) ?_ _
            clear hHeld hst hsa hal1 hal2
            go_wp2_with fail
            go_meet
            case rel => exact hid ⟨_, _, rfl, rfl, rfl, rfl, HRS.out, HRA.out, HA8.out.2.2, HSF.out⟩
          · go_simp
            have HR9 := hid (HR6.out.below ((Below.refl (w1.drew.alloc (.cells ZS 40)).heap.size (w1.drew.alloc (.cells ZS 40))).alloc (Nat.le_refl _) (.cells ZA 52)))
            have HN9 : Hid (((w1.drew.alloc (.cells ZS 40)).alloc (.cells ZA 52)).heap[w1.heap.size + 1]? = some (.cells ZA 52 (0, 0)) ∧ w.heap.size ≤ w1.heap.size + 1 ∧ p ≠ w1.heap.size + 1) := hid (by
              have h1 := heap_alloc_new (w1.drew.alloc (.cells ZS 40)) (.cells ZA 52)
              have h2 := HR6.out.bel.size
              have h3 := lt_of_block HR6.out.r
              have h4 : (w1.drew.alloc (.cells ZS 40)).heap.size = w1.heap.size + 1 := by first | rfl | simp
              rw [h4] at h1 h2 h3
              exact ⟨h1, h2, by omega⟩)
            have HA9 := hid (And.intro ((Below.heap_alloc (w1.drew.alloc (.cells ZS 40)) (.cells ZA 52) _ (lt_of_block HN6.out.1)).trans HN6.out.1) HN6.out.2)
            refine hK.out _ _ (HKP.out ((w1.drew.alloc (.cells ZS 40)).alloc (.cells ZA 52)) HR9.out) (fun hHeld => ?_)
            clear hK K
            try simp only [lay]
            refine call_on (i := 6) rfl (by kernel_rfl) (by rfl) (fun K hK => ?_)
            go_simp
            refine (HDL.out ((w1.drew.alloc (.cells ZS 40)).alloc (.cells ZA 52)) HR9.out).mono ?_
            rintro e wD10 ⟨rfl, hbD⟩
            have HR10 := hid (HR9.out.below hbD)
            have HA10 := hid (And.intro ((hbD.block _ (lt_of_block HA9.out.1)).trans HA9.out.1) HA9.out.2)
            have HB10 := hid (And.intro ((hbD.block _ (lt_of_block HN9.out.1)).trans HN9.out.1) HN9.out.2)
            clear hbD
            refine hK.out _ _ (HKP.out wD10 HR10.out) (fun hHeld => ?_)
            clear hK K
            try simp only [lay]
            refine' tk (i := 7) (v := _) rfl ?_ ?_
            rotate_left
            · (intro W hW; (try dsimp only at hW); go_simp; first | done | with_reducible rfl)
            try simp only [lay]
            refine' tk (i := 8) (v := _) rfl ?_ ?_
            rotate_left
            · (intro W hW; (try dsimp only at hW); go_simp; first | done | with_reducible rfl)
            try simp only [lay]
            refine' tk (i := 9) (v := _) rfl ?_ ?_
            rotate_left
            · (intro W hW; (try dsimp only at hW); go_simp; first | done | with_reducible rfl)
            try simp only [lay]
            refine' tk (i := 10) (v := _) rfl ?_ ?_
            rotate_left
            · (intro W hW; (try dsimp only at hW); go_simp; first | done | with_reducible rfl)
            try simp only [lay]
            refine' tk (i := 11) (v := _) rfl ?_ ?_
            rotate_left
            · (intro W hW; (try dsimp only at hW); go_simp; first | done | with_reducible rfl)
            try simp only [lay]
            obtain ⟨hst, hsa, hrs, hra, hbe, hzs, hza⟩ := ResSt.fin (t := t) (show ResSt w wD10 (w1.heap.size) (w1.heap.size + 1) ZS ZA from ⟨HA10.out.1, HB10.out.1, HA10.out.2.1, HB10.out.2.1, HR10.out.bel, HZZ.out.1, HZZ.out.2⟩) HTK.out
            rw [HX9.out] at hst hsa hrs hra hbe hzs
            rw [HY9.out] at hsa hrs hra hbe hza
            have HRS := hid hrs
            have HRA := hid hra
            have HSE := hid (HR10.out.setS X9 HA10.out.2.2 HA10.out.2.1)
            have HSF := hid (HSE.out.setY Y9 HB10.out.2.2 HB10.out.2.1)
            clear hrs hra hbe hzs hza
            refine call_on (i := 14) rfl (by kernel_rfl) (by rfl) (fun K hK => ?_)
            go_simp
            refine hK.out _ _ (HKP.out _ HSE.out) (fun hHeld => ?_)
            clear hK K
            try simp only [lay]
            refine call_on (i := 15) rfl (by kernel_rfl) (by rfl) (fun K hK => ?_)
            go_simp
            refine hK.out _ _ (HKP.out _ HSF.out) (fun hHeld => ?_)
            clear hK K
            try simp only [lay]
            refine' tk (i := 16) (v := _) rfl ?_ ?_
            rotate_left
            · (intro W hW; (try dsimp only at hW); go_simp; first | done | with_reducible rfl)
            try simp only [lay]
            refine' tk (i := 17) (v := _) rfl ?_ ?_
            rotate_left
            · (intro W hW; (try dsimp only at hW); go_simp; first | done | with_reducible rfl)
            try simp only [lay]
            refine wpAnyH_done (by kernel_rfl) ?_ _
            clear hHeld hst hsa hal1 hal2
            go_wp2_with fail
            go_meet
            case rel => exact hid ⟨_, _, rfl, rfl, rfl, rfl, HRS.out, HRA.out, HA10.out.2.2, HSF.out⟩
        · go_simp
          have HR11 := hid (HSd.out.below ((Below.refl w1.drew.heap.size w1.drew).alloc (Nat.le_refl _) (.cells ZA 52)))
          have HN11 : Hid ((w1.drew.alloc (.cells ZA 52)).heap[w1.heap.size]? = some (.cells ZA 52 (0, 0)) ∧ w.heap.size ≤ w1.heap.size ∧ p ≠ w1.heap.size) := hid (by
            have h1 := heap_alloc_new w1.drew (.cells ZA 52)
            have h2 := HSd.out.bel.size
            have h3 := lt_of_block HSd.out.r
            have h4 : w1.drew.heap.size = w1.heap.size := by first | rfl | simp
            rw [h4] at h1 h2 h3
            exact ⟨h1, h2, by omega⟩)
          refine hK.out _ _ (HKP.out (w1.drew.alloc (.cells ZA 52)) HR11.out) (fun hHeld => ?_)
          clear hK K
          try simp only [lay]
          refine pair_on (i := 6) (j := 12) rfl rfl (by kernel_rfl) (by rfl) (by rfl) (fun K hK => ?_) (fun K hK => ?_)
          · go_simp
            refine (HDL.out (w1.drew.alloc (.cells ZA 52)) HR11.out).mono ?_
            rintro e wD12 ⟨rfl, hbD⟩
            have HR12 := hid (HR11.out.below hbD)
            have HB12 := hid (And.intro ((hbD.block _ (lt_of_block HN11.out.1)).trans HN11.out.1) HN11.out.2)
            clear hbD
            refine hK.out _ _ (HKP.out wD12 HR12.out) (fun hHeld => ?_)
            clear hK K
            try simp only [lay]
            refine' tk (i := 7) (v := _) rfl ?_ ?_
            rotate_left
            · (intro W hW; (try dsimp only at hW); go_simp; first | done | with_reducible rfl)
            try simp only [lay]
            refine' tk (i := 8) (v := _) rfl ?_ ?_
            rotate_left
            · (intro W hW; (try dsimp only at hW); go_simp; first | done | with_reducible rfl)
            try simp only [lay]
            refine' tk (i := 9) (v := _) rfl ?_ ?_
            rotate_left
            · (intro W hW; (try dsimp only at hW); go_simp; first | done | with_reducible rfl)
            try simp only [lay]
            refine' tk (i := 10) (v := _) rfl ?_ ?_
            rotate_left
            · (intro W hW; (try dsimp only at hW); go_simp; first | done | with_reducible rfl)
            try simp only [lay]
            refine' tk (i := 11) (v := _) rfl ?_ ?_
            rotate_left
            · (intro W hW; (try dsimp only at hW); go_simp; first | done | with_reducible rfl)
            try simp only [lay]
            refine call_on (i := 12) rfl (by kernel_rfl) (by rfl) (fun K hK => ?_)
            go_simp
            have HR13 := hid (HR12.out.below ((Below.refl wD12.heap.size wD12).alloc (Nat.le_refl _) (.cells ZS 40)))
            have HN13 : Hid ((wD12.alloc (.cells ZS 40)).heap[wD12.heap.size]? = some (.cells ZS 40 (0, 0)) ∧ w.heap.size ≤ wD12.heap.size ∧ p ≠ wD12.heap.size) := hid (by
              have h1 := heap_alloc_new wD12 (.cells ZS 40)
              have h2 := HR12.out.bel.size
              have h3 := lt_of_block HR12.out.r
              have h4 : wD12.heap.size = wD12.heap.size := by first | rfl | simp
              rw [h4] at h1 h2 h3
              exact ⟨h1, h2, by omega⟩)
            have HB13 := hid (And.intro ((Below.heap_alloc wD12 (.cells ZS 40) _ (lt_of_block HB12.out.1)).trans HB12.out.1) HB12.out.2)
            refine hK.out _ _ (HKP.out (wD12.alloc (.cells ZS 40)) HR13.out) (fun hHeld => ?_)
            clear hK K
            try simp only [lay]
            obtain ⟨hst, hsa, hrs, hra, hbe, hzs, hza⟩ := ResSt.fin (t := t) (show ResSt w (wD12.alloc (.cells ZS 40)) (wD12.heap.size) (w1.heap.size) ZS ZA from ⟨HN13.out.1, HB13.out.1, HN13.out.2.1, HB13.out.2.1, HR13.out.bel, HZZ.out.1, HZZ.out.2⟩) HTK.out
            rw [HX9.out] at hst hsa hrs hra hbe hzs
            rw [HY9.out] at hsa hrs hra hbe hza
            have HRS := hid hrs
            have HRA := hid hra
            have HSE := hid (HR13.out.setS X9 HN13.out.2.2 HN13.out.2.1)
            have HSF := hid (HSE.out.setY Y9 HB13.out.2.2 HB13.out.2.1)
            clear hrs hra hbe hzs hza
            refine call_on (i := 14) rfl (by kernel_rfl) (by rfl) (fun K hK => ?_)
            go_simp
            refine hK.out _ _ (HKP.out _ HSE.out) (fun hHeld => ?_)
            clear hK K
            try simp only [lay]
            refine call_on (i := 15) rfl (by kernel_rfl) (by rfl) (fun K hK => ?_)
            go_simp
            refine hK.out _ _ (HKP.out _ HSF.out) (fun hHeld => ?_)
            clear hK K
            try simp only [lay]
            refine' tk (i := 16) (v := _) rfl ?_ ?_
            rotate_left
            · (intro W hW; (try dsimp only at hW); go_simp; first | done | with_reducible rfl)
            try simp only [lay]
            refine' tk (i := 17) (v := _) rfl ?_ ?_
            rotate_left
            · (intro W hW; (try dsimp only at hW); go_simp; first | done | with_reducible rfl)
            try simp only [lay]
            refine wpAnyH_done (by kernel_rfl) ?_ _
            clear hHeld hst hsa hal1 hal2
            go_wp2_with fail
            go_meet
            case rel => exact hid ⟨_, _, rfl, rfl, rfl, rfl, HRS.out, HRA.out, HN13.out.2.2, HSF.out⟩
          · go_simp
            have HR14 := hid (HR11.out.below ((Below.refl (w1.drew.alloc (.cells ZA 52)).heap.size (w1.drew.alloc (.cells ZA 52))).alloc (Nat.le_refl _) (.cells ZS 40)))
            have HN14 : Hid (((w1.drew.alloc (.cells ZA 52)).alloc (.cells ZS 40)).heap[w1.heap.size + 1]? = some (.cells ZS 40 (0, 0)) ∧ w.heap.size ≤ w1.heap.size + 1 ∧ p ≠ w1.heap.size + 1) := hid (by
              have h1 := heap_alloc_new (w1.drew.alloc (.cells ZA 52)) (.cells ZS 40)
              have h2 := HR11.out.bel.size
              have h3 := lt_of_block HR11.out.r
              have h4 : (w1.drew.alloc (.cells ZA 52)).heap.size = w1.heap.size + 1 := by first | rfl | simp
              rw [h4] at h1 h2 h3
              exact ⟨h1, h2, by omega⟩)
            have HB14 := hid (And.intro ((Below.heap_alloc (w1.drew.alloc (.cells ZA 52)) (.cells ZS 40) _ (lt_of_block HN11.out.1)).trans HN11.out.1) HN11.out.2)
            refine hK.out _ _ (HKP.out ((w1.drew.alloc (.cells ZA 52)).alloc (.cells ZS 40)) HR14.out) (fun hHeld => ?_)
            clear hK K
            try simp only [lay]
            refine call_on (i := 6) rfl (by kernel_rfl) (by rfl) (fun K hK => ?_)
            go_simp
            refine (HDL.out ((w1.drew.alloc (.cells ZA 52)).alloc (.cells ZS 40)) HR14.out).mono ?_
            rintro e wD15 ⟨rfl, hbD⟩
            have HR15 := hid (HR14.out.below hbD)
            have HA15 := hid (And.intro ((hbD.block _ (lt_of_block HN14.out.1)).trans HN14.out.1) HN14.out.2)
            have HB15 := hid (And.intro ((hbD.block _ (lt_of_block HB14.out.1)).trans HB14.out.1) HB14.out.2)
            clear hbD
            refine hK.out _ _ (HKP.out wD15 HR15.out) (fun hHeld => ?_)
            clear hK K
            try simp only [lay]
            refine' tk (i := 7) (v := _) rfl ?_ ?_
            rotate_left
            · (intro W hW; (try dsimp only at hW); go_simp; first | done | with_reducible rfl)
            try simp only [lay]
            refine' tk (i := 8) (v := _) rfl ?_ ?_
            rotate_left
            · (intro W hW; (try dsimp only at hW); go_simp; first | done | with_reducible rfl)
            try simp only [lay]
            refine' tk (i := 9) (v := _) rfl ?_ ?_
            rotate_left
            · (intro W hW; (try dsimp only at hW); go_simp; first | done | with_reducible rfl)
            try simp only [lay]
            refine' tk (i := 10) (v := _) rfl ?_ ?_
            rotate_left
            · (intro W hW; (try dsimp only at hW); go_simp; first | done | with_reducible rfl)
            try simp only [lay]
            refine' tk (i := 11) (v := _) rfl ?_ ?_
            rotate_left
            · (intro W hW; (try dsimp only at hW); go_simp; first | done | with_reducible rfl)
            try simp only [lay]
            obtain ⟨hst, hsa, hrs, hra, hbe, hzs, hza⟩ := ResSt.fin (t := t) (show ResSt w wD15 (w1.heap.size + 1) (w1.heap.size) ZS ZA from ⟨HA15.out.1, HB15.out.1, HA15.out.2.1, HB15.out.2.1, HR15.out.bel, HZZ.out.1, HZZ.out.2⟩) HTK.out
            rw [HX9.out] at hst hsa hrs hra hbe hzs
            rw [HY9.out] at hsa hrs hra hbe hza
            have HRS := hid hrs
            have HRA := hid hra
            have HSE := hid (HR15.out.setS X9 HA15.out.2.2 HA15.out.2.1)
            have HSF := hid (HSE.out.setY Y9 HB15.out.2.2 HB15.out.2.1)
            clear hrs hra hbe hzs hza
            refine call_on (i := 14) rfl (by kernel_rfl) (by rfl) (fun K hK => ?_)
            go_simp
            refine hK.out _ _ (HKP.out _ HSE.out) (fun hHeld => ?_)
            clear hK K
            try simp only [lay]
            refine call_on (i := 15) rfl (by kernel_rfl) (by rfl) (fun K hK => ?_)
            go_simp
            refine hK.out _ _ (HKP.out _ HSF.out) (fun hHeld => ?_)
            clear hK K
            try simp only [lay]
            refine' tk (i := 16) (v := _) rfl ?_ ?_
            rotate_left
            · (intro W hW; (try dsimp only at hW); go_simp; first | done | with_reducible rfl)
            try simp only [lay]
            refine' tk (i := 17) (v := _) rfl ?_ ?_
            rotate_left
            · (intro W hW; (try dsimp only at hW); go_simp; first | done | with_reducible rfl)
            try simp only [lay]
            refine wpAnyH_done (by kernel_rfl) ?_ _
            clear hHeld hst hsa hal1 hal2
            go_wp2_with fail
            go_meet
            case rel => exact hid ⟨_, _, rfl, rfl, rfl, rfl, HRS.out, HRA.out, HA15.out.2.2, HSF.out⟩
      case rest =>
        obtain ⟨g, h, rfl, rfl, rfl, rfl, hrg, hrh, hpg, hS2⟩ := hcut.out
        have HRG := hid hrg
        have HRH := hid hrh
        have HPG := hid hpg
        have HS2 := hid hS2
        clear hrg hrh hpg hS2 hcut HS0 HS1
        have hwi := HWI.out
        by_cases e0 : E9 = 0
        · subst e0
          have HQ := hid (less_cases (HTD.out.may HE9.out).2.1)
          have HQE := hid (HTD.out.eq HE9.out)
          have HUP := hid (HTD.out.up HE9.out)
          have HXC : Hid ((wc.cell? ⟨g, 2, none⟩ = some (.int .i64 t.s.pv)) ∧ loadH (.pointer (some ⟨g, 3, none⟩)) wc = .ok (.value (.agg (hcells t.s.pa))) wc) := hid (by
            have hh := HRG.out
            rw [← HX9.out] at hh
            exact ⟨(BoxSe.cells (a := t.s) hh).2.2, loadH_mid (BoxSe.hash (a := t.s) hh) HTK.out.s⟩)
          have HYC : Hid (wc.cell? ⟨h, 2, none⟩ = some (.int .i64 t.s.vi) ∧ wc.cell? ⟨h, 3, none⟩ = some (.int .i64 t.s.ph)) := hid (by
            have hh := HRH.out
            rw [← HY9.out] at hh
            have := BoxA.cells (a := t.a) hh
            rw [HQE.out.1, HQE.out.2] at this
            exact this.2.2)
          have HSC : Hid (wc.cell? ⟨p, 2, none⟩ = some (.int .i64 s.pv) ∧ loadH (.pointer (some ⟨p, 3, none⟩)) wc = .ok (.value (.agg (hcells s.pa))) wc) := hid (by
            have hh := HS2.out.r
            rw [← HS.out] at hh
            exact ⟨(BoxSe.cells (a := s) hh).2.2, loadH_mid (BoxSe.hash (a := s) hh) HSO.out⟩)
          have HEQ : Hid (∀ W, (Op.equalIn 10000 38 (.agg (hcells t.s.pa)) (.agg (hcells s.pa))).run Tryz.prog W = .ok (decide (t.s.pa = s.pa)) W) := hid (fun W => eq_hash t.s.pa s.pa HTK.out.s HSO.out W)
          obtain ⟨P1, HP1⟩ : ∃ q : Array Value, Hid (hcells t.s.pa = q) := ⟨_, hid rfl⟩
          obtain ⟨P2, HP2⟩ : ∃ q : Array Value, Hid (hcells s.pa = q) := ⟨_, hid rfl⟩
          obtain ⟨d, HD⟩ : ∃ q : Bool, Hid (decide (t.s.pa = s.pa) = q) := ⟨_, hid rfl⟩
          rw [HP1.out] at HXC HEQ
          rw [HP2.out] at HSC HEQ
          rw [HD.out] at HEQ
          have HIN : Hid (RzRel w (setSe wc p X9) p t.s.vi t.s.ph) := hid ⟨t.s, HTK.out.s, rfl, rfl, by rw [HX9.out]; exact setSe_same HS2.out.r, HS2.out.hp, setSe_below HS2.out.bel HS2.out.hp⟩
          have HXZ : Hid (X9.size = 35 ∧ X9.all (·.oneCell') = true) := hid (by rw [← HX9.out]; exact ⟨sec_size HTK.out.s, sec_one _⟩)
          rw [HSV.out.1, HSV.out.2] at HQ
          obtain ⟨tv, HTV⟩ : ∃ q : Int, Hid (t.s.vi = q) := ⟨_, hid rfl⟩
          obtain ⟨tp, HTP⟩ : ∃ q : Int, Hid (t.s.ph = q) := ⟨_, hid rfl⟩
          obtain ⟨tq, HTQ⟩ : ∃ q : Int, Hid (t.s.pv = q) := ⟨_, hid rfl⟩
          obtain ⟨sq, HSQ⟩ : ∃ q : Int, Hid (s.pv = q) := ⟨_, hid rfl⟩
          rw [HTV.out, HTP.out] at HQ HYC HIN
          rw [HTQ.out] at HXC HUP
          rw [HSQ.out] at HSC HUP
          obtain ⟨x2, x3⟩ := HXC.out
          obtain ⟨y2, y3⟩ := HYC.out
          obtain ⟨z2, z3⟩ := HSC.out
          have heq := HEQ.out
          have q1 : ¬ tv < vi := by have := HQ.out; omega
          have q3 : ¬ tq < sq := by have := HUP.out; omega
          go_upto_region 12 with (fail)
          go_cut [81] (fun s81 wy => s81 = .bool false ∧ wy = wc)
          case first =>
            by_cases r1 : tv = vi
            · have q2 : ¬ tp ≤ ph := by have := HQ.out; omega
              by_cases r2 : tq = sq
              · obtain rfl : d = true := by
                  rw [← HD.out]
                  have := HUP.out
                  exact decide_eq_true ((this.resolve_left (by omega)).2)
                subst r1 r2
                go_wp2_with fail
                go_meet
                case rel => exact ⟨rfl, rfl⟩
              · subst r1
                go_wp2_with fail
                go_meet
                case rel => exact ⟨rfl, rfl⟩
            · by_cases r2 : tq = sq
              · obtain rfl : d = true := by
                  rw [← HD.out]
                  have := HUP.out
                  exact decide_eq_true ((this.resolve_left (by omega)).2)
                subst r2
                go_wp2_with fail
                go_meet
                case rel => exact ⟨rfl, rfl⟩
              · go_wp2_with fail
                go_meet
                case rel => exact ⟨rfl, rfl⟩
          case rest =>
            obtain ⟨rfl, hw⟩ := hcut
            have HYD : Hid (wc.drew.cell? ⟨h, 2, none⟩ = some (.int .i64 tv) ∧ wc.drew.cell? ⟨h, 3, none⟩ = some (.int .i64 tp)) := hid (by rw [hw]; exact HYC.out)
            have HRGd : Hid (wc.drew.heap[g]? = some (.cells X9 40 (0, 0))) := hid (by rw [hw]; exact HRG.out)
            have HRPd : Hid (wc.drew.heap[p]? = some (.cells S 40 (0, 0))) := hid (by rw [hw]; exact HS2.out.r)
            have HINd : Hid (RzRel w (setSe wc.drew p X9) p tv tp) := hid (by
              rw [hw]
              exact ⟨t.s, HTK.out.s, HTV.out, HTP.out, by rw [HX9.out]; exact setSe_same (show _ from HS2.out.r), HS2.out.hp, setSe_below (HS2.out.bel.drew) HS2.out.hp⟩)
            clear hw x2 x3 y2 y3 z2 z3 heq q1 q3 HIN
            go_upto_region 14 with (fail)
            refine wp_region_held_drew (S := fun W => W.cell? ⟨h, 2, none⟩ = some (.int .i64 tv) ∧ W.cell? ⟨h, 3, none⟩ = some (.int .i64 tp)) (by kernel_rfl) HYD.out (fun hHeld => ?_)
            refine' tk (i := 0) (v := _) rfl ?_ ?_
            rotate_left
            · (intro W hW; (try dsimp only at hW); go_simp; first | done | with_reducible rfl)
            try simp only [lay]
            refine' tk (i := 1) (v := _) rfl ?_ ?_
            rotate_left
            · (intro W hW; (try dsimp only at hW); obtain ⟨hW1, hW2⟩ := hW; go_simp; first | done | with_reducible rfl)
            try simp only [lay]
            refine' tk (i := 2) (v := _) rfl ?_ ?_
            rotate_left
            · (intro W hW; (try dsimp only at hW); go_simp; first | done | with_reducible rfl)
            try simp only [lay]
            refine' tk (i := 3) (v := _) rfl ?_ ?_
            rotate_left
            · (intro W hW; (try dsimp only at hW); obtain ⟨hW1, hW2⟩ := hW; go_simp; first | done | with_reducible rfl)
            try simp only [lay]
            refine' tk (i := 4) (v := _) rfl ?_ ?_
            rotate_left
            · (intro W hW; (try dsimp only at hW); go_simp; first | done | with_reducible rfl)
            try simp only [lay]
            refine' tk (i := 5) (v := _) rfl ?_ ?_
            rotate_left
            · (intro W hW; (try dsimp only at hW); go_simp; first | done | with_reducible rfl)
            try simp only [lay]
            refine wpAnyH_done (by kernel_rfl) ?_ _
            clear hHeld
            go_upto_region 15 with (fail)
            have hlg := loadSe_row HRGd.out HXZ.out.1
            have hst := storeSe_eq HRPd.out HSZ0.out HXZ.out.1 HXZ.out.2
            go_wp2_with fail
            go_roundw
            case rel => exact ⟨k + 1, tv, tp, HHK.out, by first | go_num | (rw [HWI.out]; rfl), rfl, rfl, HINd⟩
            case measure => exact rz_meas HHK.out hwi
        · clear HTD
          go_wp2_with fail
          go_roundw
          case rel => exact ⟨k + 1, vi, ph, HHK.out, by first | go_num | (rw [HWI.out]; rfl), rfl, rfl, hid ⟨s, HSO.out, HSV.out.1, HSV.out.2, by rw [HS.out]; exact HS2.out⟩⟩
          case measure => exact rz_meas HHK.out hwi
    · have hlt' : ¬ (k : Int) < (N : Int) := by omega
      have HBE : Hid (Below w.heap.size w wr) := hid (by
        obtain ⟨s, _, _, _, hS⟩ := HREL.out
        exact hS.bel)
      clear HREL hlt hk
      go_wp2_with fail
      refine (HAW.out wr HBE.out).mono ?_
      rintro e w4 ⟨rfl, hb4⟩
      go_wp2_with fail
      go_ret
      exact ⟨rfl, hb4⟩
end Go.Proofs.YtghophbabbaleaaGreatDoor
