/-
  tithingref16.Add: an attestation is added. Printed with genga.py.
-/
import Derived.Test.YtpnejoglkmfleaaGreatDoorAtCut
import Derived.Test.YtpnejoglkmfleaaGreatDoorGaRef
namespace Go.Proofs.YtpnejoglkmfleaaGreatDoor
set_option maxRecDepth 20000
open Go.RowKit
attribute [local go_sem ↓] exec_load_gv exec_alloc_gv exec_store_gv exec_load_att exec_alloc_att exec_store_att exec_ne_att exec_slice_at1 exec_cut_ath exec_cut_atl
theorem rows_gthree (w : World) (a b c : Obj) : (((w.alloc a).alloc b).alloc c).heap[w.heap.size]? = some a ∧ (((w.alloc a).alloc b).alloc c).heap[w.heap.size + 1]? = some b ∧ (((w.alloc a).alloc b).alloc c).heap[w.heap.size + 2]? = some c := by
  have e1 : (w.alloc a).heap.size = w.heap.size + 1 := by simp
  have e2 : ((w.alloc a).alloc b).heap.size = w.heap.size + 2 := by simp
  have h2 := heap_alloc_new (w.alloc a) b
  have h3 := heap_alloc_new ((w.alloc a).alloc b) c
  rw [e1] at h2
  rw [e2] at h3
  refine ⟨(Below.heap_alloc _ _ _ (by rw [e2]; omega)).trans ((Below.heap_alloc _ _ _ (by rw [e1]; omega)).trans (heap_alloc_new w a)), (Below.heap_alloc _ _ _ (by rw [e2]; omega)).trans h2, h3⟩
theorem addG_ok {n : Int} {L : List AtM} {a : AtM} (hL : ∀ x ∈ L, x.Ok) (ha : a.Ok) : ∀ x ∈ (addG n L a).1, x.Ok := fun x hx => by
  rcases addG_mem hx with h | ⟨rfl, _⟩
  · exact hL x h
  · exact ha
theorem placeG_step (a x : AtM) (r : List AtM) (i k : Nat) : placeG a (x :: r) i k = placeG a r (i + 1) (if aheadA x a = true then i + 1 else k) := rfl
theorem three_g {P : Program} {md : Region.Mode} {l : List Oper} {Q : Exit → Act → World → Prop} {S : World → Prop} {i j k : Nat} {oi oj ok : Oper} {fuel : Nat} {listed : Array Bool} {a : Act} {w : World} (hi : l[i]? = some oi) (hj : l[j]? = some oj) (hk : l[k]? = some ok)
    (hr : Region.ready md l.toArray listed = [i, j, k]) (hw : Region.wanted oi (yielded l.toArray a.tmps) = true) (hv : Region.wanted oj (yielded l.toArray a.tmps) = true) (hu : Region.wanted ok (yielded l.toArray a.tmps) = true)
    (h : ∀ K' : Act → World → Prop, Shut (∀ a w, S w → (S w → wpAnyH P md l.toArray Q S fuel (listed.setIfInBounds i true) a w) → K' a w) → Oper.wp P oi a w K' Q)
    (h2 : ∀ K' : Act → World → Prop, Shut (∀ a w, S w → (S w → wpAnyH P md l.toArray Q S fuel (listed.setIfInBounds j true) a w) → K' a w) → Oper.wp P oj a w K' Q)
    (h3 : ∀ K' : Act → World → Prop, Shut (∀ a w, S w → (S w → wpAnyH P md l.toArray Q S fuel (listed.setIfInBounds k true) a w) → K' a w) → Oper.wp P ok a w K' Q) : wpAnyH P md l.toArray Q S (fuel + 1) listed a w :=
  wpAnyH_ready hr (by simp) (AllReadyH.cons (by simpa using hi) (fun K hK => by rw [if_pos hw]; exact h K hK) (AllReadyH.cons (by simpa using hj) (fun K hK => by rw [if_pos hv]; exact h2 K hK) (AllReadyH.cons (by simpa using hk) (fun K hK => by rw [if_pos hu]; exact h3 K hK) AllReadyH.nil)))
theorem el_one {w : World} {b : Nat} {a : AtM} {T : TypeId} (h : w.heap[b]? = some (.cells (atc a) T (0, 0))) : Els atl 101 w (.slice (some ⟨b, 0, none⟩) 1 1) [a] := by
  refine ⟨_, 1, rfl, Nat.le_refl _, by unfold maxLen; omega, fun _ => ⟨b, 0, rfl, lt_of_block h, fun j hj k u hu => ?_⟩⟩
  obtain rfl : j = 0 := by simpa using hj
  rw [Nat.zero_mul, Nat.zero_add, cell_blk h k]
  unfold atc
  rw [List.getElem?_toArray]
  exact hu
def AdEnd (w W : World) (n : Int) (L : List AtM) (a : AtM) : Prop := ∃ A m c, W.heap[w.heap.size]? = some (.cells #[.int .i64 n, .slice A m c] 30 (0, 0)) ∧ W.heap[w.heap.size + 2]? = some (.cells gvZ 30 (0, 0)) ∧ OwnE atl 101 36 (w.heap.size + 3) W (.slice A m c) (insG a L) ∧ Below w.heap.size w W
theorem adEnd_of {w W : World} {n : Int} {L : List AtM} {a : AtM} {A A0 : Option Addr} {m c m0 c0 B : Nat} (hb : Below w.heap.size w W) (h1 : W.heap[w.heap.size]? = some (.cells #[.int .i64 n, .slice A0 m0 c0] 30 (0, 0))) (h2 : W.heap[w.heap.size + 2]? = some (.cells gvZ 30 (0, 0))) (ho : OwnE atl 101 36 B W (.slice A m c) (insG a L)) (hB : w.heap.size + 2 < B) : AdEnd w (W.setCell ⟨w.heap.size, 1, none⟩ (.slice A m c)) n L a :=
  ⟨A, m, c, by rw [ga_setIn W h1]; rfl, (Below.heap_setCell _ _ _ _ (by show w.heap.size + 2 ≠ w.heap.size; omega)).trans h2, (ho.set (g := w.heap.size) (by omega) 1 _).more (by omega), hb.setCell (p := ⟨w.heap.size, 1, none⟩) (Nat.le_refl _) _⟩
structure PlSt (wz W : World) (a : AtM) (L : List AtM) (i k : Nat) : Prop where
  pl : placeG a (L.drop i) i k = placeG a L 0 0
  le : k ≤ i
  no : ∀ j (h : j < L.length), j < i → keyA L[j] a = false
  bel : Below wz.heap.size wz W
set_option maxHeartbeats 25600000 in
theorem refAdd16_any (n : Int) (s : Value) (L : List AtM) (a : AtM) (w : World) (hs : Els atl 101 w s L) (ho : ∀ x ∈ L, x.Ok) (hl : L.length ≤ 200) (hao : a.Ok) (hK : Kst 1 w) :
    Calls Tryz.prog 7 #[.agg #[.int .i64 n, s], .agg (atc a)] w fun e w' => ∃ x, e = .returned (.tuple #[.agg #[.int .i64 n, x], .int .i64 (addG n L a).2]) ∧ Els atl 101 w' x (addG n L a).1 ∧ (∀ y ∈ (addG n L a).1, y.Ok) ∧ Below w.heap.size w w' := by
  obtain ⟨A, c, rfl⟩ := hs.shape
  have HV := hid hs
  have HO := hid ho
  have HAO := hid hao
  have HRT : Hid (∀ W, Below w.heap.size w W → Calls Tryz.prog 20 #[.agg (atc a)] W fun e w' => e = .returned (.bool (rightA a)) ∧ Below W.heap.size W w') := hid (fun W h => refRight8_any a W hao (hK.below h))
  have HAH : Hid (∀ x W, Calls Tryz.prog 21 #[.agg (atc x), .agg (atc a)] W fun e w' => e = .returned (.bool (aheadA x a)) ∧ Below W.heap.size W w') := hid (fun x W => refAhead16_any x a W)
  have HEL : Hid (∀ j (h : j < L.length), ∃ b off, A = some ⟨b, off, none⟩ ∧ ∀ W, Below w.heap.size w W → ElG W b (off + j * 101) L[j]) := hid (fun j h => elG_at hs ho h)
  have HCAP := hid hs.at_.2.1
  have HAZ := hid (atc_size hao)
  have HAC : Hid (∀ (W : World) (g : Nat), W.heap[g]? = some (.cells (atc a) 36 (0, 0)) → W.cell? ⟨g, 0, none⟩ = some (.int .i64 a.bo) ∧ W.cell? ⟨g, 1, none⟩ = some (.int .i64 a.ki) ∧ W.cell? ⟨g, 2, none⟩ = some (.int .i64 a.vi)) := hid (fun W g h => by
    have := BoxA.cells (a := a) h
    exact ⟨this.1, this.2.1, this.2.2.1⟩)
  obtain ⟨N, HN⟩ : ∃ n : Nat, Hid (L.length = n) := ⟨_, hid rfl⟩
  rw [HN.out] at hl HV HCAP ⊢
  have HLN := hid hl
  obtain ⟨X, HX⟩ : ∃ C : Array Value, Hid (atc a = C) := ⟨_, hid rfl⟩
  rw [HX.out] at HRT HAZ HAC ⊢
  have hrs := rows_gthree w (.cells #[.int .i64 n, .slice A N c] 30) (.cells X 36) (.cells gvZ 30)
  have hal : allocGv ((w.alloc (.cells #[.int .i64 n, .slice A N c] 30)).alloc (.cells X 36)) = .ok (.value (.pointer (some ⟨w.heap.size + 2, 0, none⟩))) (((w.alloc (.cells #[.int .i64 n, .slice A N c] 30)).alloc (.cells X 36)).alloc (.cells gvZ 30)) := by
    have := allocGv_eq ((w.alloc (.cells #[.int .i64 n, .slice A N c] 30)).alloc (.cells X 36))
    rwa [show ((w.alloc (.cells #[.int .i64 n, .slice A N c] 30)).alloc (.cells X 36)).heap.size = w.heap.size + 2 from by simp] at this
  have HB0 : Hid (Below w.heap.size w (((w.alloc (.cells #[.int .i64 n, .slice A N c] 30)).alloc (.cells X 36)).alloc (.cells gvZ 30))) := hid ((((Below.refl _ _).alloc (Nat.le_refl _) _).alloc (by simp) _).alloc (by simp; omega) _)
  have HRS := hid hrs
  clear hs ho hl hao hK hrs
  go_enter Tryz.func7, Tryz.ntmps7
  go_upto_region 1 with (fail)
  clear hal
  generalize (((w.alloc (.cells #[.int .i64 n, .slice A N c] 30)).alloc (.cells X 36)).alloc (.cells gvZ 30)) = wz at *
  have HF : Hid (∀ W, Below wz.heap.size wz W → Below w.heap.size w W ∧ W.heap[w.heap.size]? = some (.cells #[.int .i64 n, .slice A N c] 30 (0, 0)) ∧ W.heap[w.heap.size + 1]? = some (.cells X 36 (0, 0)) ∧ W.heap[w.heap.size + 2]? = some (.cells gvZ 30 (0, 0))) := hid (fun W h => ⟨HB0.out.trans (h.mono HB0.out.size), (h.block _ (lt_of_block HRS.out.1)).trans HRS.out.1, (h.block _ (lt_of_block HRS.out.2.1)).trans HRS.out.2.1, (h.block _ (lt_of_block HRS.out.2.2)).trans HRS.out.2.2⟩)
  have HG : Hid (∀ W, Below wz.heap.size wz W → (W.cell? ⟨w.heap.size, 0, none⟩ = some (.int .i64 n) ∧ W.cell? ⟨w.heap.size, 1, none⟩ = some (.slice A N c)) ∧ (W.cell? ⟨w.heap.size + 1, 0, none⟩ = some (.int .i64 a.bo) ∧ W.cell? ⟨w.heap.size + 1, 1, none⟩ = some (.int .i64 a.ki) ∧ W.cell? ⟨w.heap.size + 1, 2, none⟩ = some (.int .i64 a.vi)) ∧ loadAtt (.pointer (some ⟨w.heap.size + 1, 0, none⟩)) W = .ok (.value (.agg X)) W) := hid (fun W h => ⟨⟨cell_blk (HF.out W h).2.1 0, cell_blk (HF.out W h).2.1 1⟩, HAC.out W _ (HF.out W h).2.2.1, loadAtt_row (HF.out W h).2.2.1 HAZ.out⟩)
  obtain ⟨r, HR⟩ : ∃ q : Bool, Hid (rightA a = q) := ⟨_, hid rfl⟩
  rw [HR.out] at HRT
  obtain ⟨_, _, l3⟩ := HG.out wz (Below.refl _ _)
  go_wp2_with fail
  refine (HRT.out wz HB0.out).mono ?_
  rintro e w1 ⟨rfl, hb1⟩
  have HX1 := hid hb1
  clear hb1 l3
  have HR1 := hid (HF.out w1 HX1.out).2.1
  cases r with
  | false =>
    have HQ : Hid (addG n L a = (L, 7)) := hid (by unfold addG okG; rw [HR.out]; rfl)
    have hld := loadGv_row (C := #[.int .i64 n, .slice A N c]) HR1.out rfl
    have hst := storeGv_eq (C := #[.int .i64 n, .slice A N c]) (HF.out w1 HX1.out).2.2.2 rfl rfl (gv_one ..)
    have HRF := hid (setAtt_same (C := #[.int .i64 n, .slice A N c]) (HF.out w1 HX1.out).2.2.2)
    have HBF := hid (setAtt_below (C := #[.int .i64 n, .slice A N c]) (HF.out w1 HX1.out).1 (show w.heap.size ≤ w.heap.size + 2 by omega))
    go_wp2_with fail
    try simp only [Exit.inBlock, Exit.then]
    refine bodyPost_ret (results_gv2 rfl _ _ _ _ _ _ rfl rfl HRF.out rfl) rfl ?_
    rw [HQ.out]
    exact ⟨_, rfl, HV.out.below HBF.out, HO.out, HBF.out⟩
  | true =>
  obtain ⟨⟨k0, _⟩, ⟨k1, _, _⟩, _⟩ := HG.out w1 HX1.out
  obtain ⟨ab, HAB⟩ : ∃ q : Int, Hid (a.bo = q) := ⟨_, hid rfl⟩
  rw [HAB.out] at k1 HG
  by_cases p1 : n < ab
  · have HQ : Hid (addG n L a = (L, 7)) := hid (by unfold addG okG; rw [HR.out, decide_eq_false (by rw [HAB.out]; omega)]; rfl)
    go_upto_region 2 with (fail)
    clear k0 k1
    have hld := loadGv_row (C := #[.int .i64 n, .slice A N c]) HR1.out rfl
    have hst := storeGv_eq (C := #[.int .i64 n, .slice A N c]) (HF.out w1 HX1.out).2.2.2 rfl rfl (gv_one ..)
    have HRF := hid (setAtt_same (C := #[.int .i64 n, .slice A N c]) (HF.out w1 HX1.out).2.2.2)
    have HBF := hid (setAtt_below (C := #[.int .i64 n, .slice A N c]) (HF.out w1 HX1.out).1 (show w.heap.size ≤ w.heap.size + 2 by omega))
    go_wp2_with fail
    try simp only [Exit.inBlock, Exit.then]
    refine bodyPost_ret (results_gv2 rfl _ _ _ _ _ _ rfl rfl HRF.out rfl) rfl ?_
    rw [HQ.out]
    exact ⟨_, rfl, HV.out.below HBF.out, HO.out, HBF.out⟩
  have HOK : Hid (okG n a = true) := hid (by unfold okG; rw [HR.out, decide_eq_true (by rw [HAB.out]; omega)]; rfl)
  go_upto_region 3 with (fail)
  clear k0 k1 p1
  obtain ⟨ak, HAK⟩ : ∃ q : Int, Hid (a.ki = q) := ⟨_, hid rfl⟩
  obtain ⟨av, HAV⟩ : ∃ q : Int, Hid (a.vi = q) := ⟨_, hid rfl⟩
  rw [HAK.out, HAV.out] at HG
  go_wp2_with fail
  go_loopw [6, 7] (fun s6 s7 wr => ∃ i kk : Nat, i ≤ N ∧ s7 = .int .i64 i ∧ s6 = .int .i64 kk ∧ Hid (PlSt wz wr a L i kk)) (fun _ s7 _ => N - (intOf s7).toNat)
  case atStart => exact ⟨0, 0, Nat.zero_le _, rfl, rfl, hid ⟨rfl, Nat.le_refl _, fun j _ h => absurd h (by omega), HX1.out⟩⟩
  case round =>
    obtain ⟨i, kk, hi, rfl, rfl, HP⟩ := hrel
    obtain ⟨⟨_, c1⟩, _, _⟩ := HG.out wr HP.out.bel
    by_cases hlt : i < N
    · have hlt' : (i : Int) < (N : Int) := by omega
      have hiL : i < L.length := by rw [HN.out]; exact hlt
      obtain ⟨b1, o1, rfl, h1⟩ := HEL.out i hiL
      have HDR : Hid (L.drop i = L[i] :: L.drop (i + 1)) := hid (List.drop_eq_getElem_cons hiL)
      have HNO : Hid (keyA L[i] a = false → ∀ j (h : j < L.length), j < i + 1 → keyA L[j] a = false) := hid (fun e j h hj => by
        by_cases hji : j = i
        · subst hji
          exact e
        · exact HP.out.no j h (by omega))
      have HANY : Hid (keyA L[i] a = true → L.any (fun x => keyA x a) = true) := hid (fun e => List.any_eq_true.2 ⟨_, List.getElem_mem hiL, e⟩)
      have H1 := hid h1
      have HAI := hid (HAH.out L[i])
      have hpl := HP.out.pl
      rw [HDR.out, placeG_step] at hpl
      have HPL := hid hpl
      have HLE := hid HP.out.le
      have HBE := hid HP.out.bel
      generalize L[i] = x at *
      have HHK := hid (show i < N from hlt)
      have HWI : Hid (wrap64 ((i : Int) + 1) = (i : Int) + 1) := hid (by have := HLN.out; unfold wrap64; omega)
      obtain ⟨F, HFX⟩ : ∃ C : Array Value, Hid (atc x = C) := ⟨_, hid rfl⟩
      obtain ⟨xb, HXB⟩ : ∃ q : Int, Hid (x.bo = q) := ⟨_, hid rfl⟩
      obtain ⟨xk, HXK⟩ : ∃ q : Int, Hid (x.ki = q) := ⟨_, hid rfl⟩
      obtain ⟨xv, HXV⟩ : ∃ q : Int, Hid (x.vi = q) := ⟨_, hid rfl⟩
      have HKEY : Hid (keyA x a = (decide (xb = ab) && (decide (xk = ak) && decide (xv = av)))) := hid (by rw [← HXB.out, ← HXK.out, ← HXV.out, ← HAB.out, ← HAK.out, ← HAV.out]; rfl)
      have HE : Hid (∀ W, Below wz.heap.size wz W → ((W.cell? ⟨w.heap.size, 1, none⟩ = some (.slice (some ⟨b1, o1, none⟩) N c) ∧ W.cell? ⟨w.heap.size + 1, 0, none⟩ = some (.int .i64 ab) ∧ W.cell? ⟨w.heap.size + 1, 1, none⟩ = some (.int .i64 ak) ∧ W.cell? ⟨w.heap.size + 1, 2, none⟩ = some (.int .i64 av)) ∧ W.cell? ⟨b1, o1 + i * 101, none⟩ = some (.int .i64 xb) ∧ W.cell? ⟨b1, o1 + i * 101 + 1, none⟩ = some (.int .i64 xk) ∧ W.cell? ⟨b1, o1 + i * 101 + 2, none⟩ = some (.int .i64 xv)) ∧ loadAtt (.pointer (some ⟨b1, o1 + i * 101, none⟩)) W = .ok (.value (.agg F)) W ∧ loadAtt (.pointer (some ⟨w.heap.size + 1, 0, none⟩)) W = .ok (.value (.agg X)) W) := hid (fun W h => by
        obtain ⟨⟨_, q1⟩, ⟨q2, q3, q4⟩, q5⟩ := HG.out W h
        obtain ⟨e1, e2, e3, e4⟩ := H1.out W (HF.out W h).1
        rw [HXB.out] at e1
        rw [HXK.out] at e2
        rw [HXV.out] at e3
        rw [HFX.out] at e4
        exact ⟨⟨⟨q1, q2, q3, q4⟩, e1, e2, e3⟩, e4, q5⟩)
      have HBD := hid (HBE.out.drew)
      rw [HFX.out, HX.out] at HAI
      clear h1 hiL hlt hi hpl HP
      go_upto_region 7 with (fail)
      clear c1
      go_cut [57] (fun s57 wy => s57 = .bool (decide (xb = ab) && (decide (xk = ak) && decide (xv = av))) ∧ wy = wr.drew)
      case first =>
        refine wp_region_held_drew (S := fun W => Below wz.heap.size wz W) (by kernel_rfl) HBD.out (fun hHeld => ?_)
        refine' tk (i := 0) (v := _) rfl ?_ ?_
        rotate_left
        · (intro W hW; (try dsimp only at hW); go_simp; first | done | with_reducible rfl)
        try simp only [lay]
        refine' tk (i := 1) (v := _) rfl ?_ ?_
        rotate_left
        · (intro W hW; (try dsimp only at hW); have hq := HE.out W hW; obtain ⟨⟨⟨q1, q2, q3, q4⟩, e1, e2, e3⟩, e4, q5⟩ := hq; go_simp; first | done | with_reducible rfl)
        try simp only [lay]
        refine' tk (i := 2) (v := _) rfl ?_ ?_
        rotate_left
        · (intro W hW; (try dsimp only at hW); go_simp; first | done | with_reducible rfl)
        try simp only [lay]
        refine' tk (i := 3) (v := _) rfl ?_ ?_
        rotate_left
        · (intro W hW; (try dsimp only at hW); go_simp; first | done | with_reducible rfl)
        try simp only [lay]
        refine' tk (i := 4) (v := _) rfl ?_ ?_
        rotate_left
        · (intro W hW; (try dsimp only at hW); go_simp; first | done | with_reducible rfl)
        try simp only [lay]
        refine' tk (i := 5) (v := _) rfl ?_ ?_
        rotate_left
        · (intro W hW; (try dsimp only at hW); have hq := HE.out W hW; obtain ⟨⟨⟨q1, q2, q3, q4⟩, e1, e2, e3⟩, e4, q5⟩ := hq; go_simp; first | done | with_reducible rfl)
        try simp only [lay]
        refine' tk (i := 6) (v := _) rfl ?_ ?_
        rotate_left
        · (intro W hW; (try dsimp only at hW); go_simp; first | done | with_reducible rfl)
        try simp only [lay]
        refine' tk (i := 7) (v := _) rfl ?_ ?_
        rotate_left
        · (intro W hW; (try dsimp only at hW); have hq := HE.out W hW; obtain ⟨⟨⟨q1, q2, q3, q4⟩, e1, e2, e3⟩, e4, q5⟩ := hq; go_simp; first | done | with_reducible rfl)
        try simp only [lay]
        by_cases d1 : xb = ab
        · have z1 : (xb == ab) = true := by simp [d1]
          refine' tk (i := 8) (v := _) rfl ?_ ?_
          rotate_left
          · (intro W hW; (try dsimp only at hW); go_simp; first | done | with_reducible rfl)
          try simp only [lay]
          refine' tk (i := 9) (v := _) rfl ?_ ?_
          rotate_left
          · (intro W hW; (try dsimp only at hW); go_simp; first | done | with_reducible rfl)
          try simp only [lay]
          refine' tk (i := 10) (v := _) rfl ?_ ?_
          rotate_left
          · (intro W hW; (try dsimp only at hW); go_simp; first | done | with_reducible rfl)
          try simp only [lay]
          refine' tk (i := 11) (v := _) rfl ?_ ?_
          rotate_left
          · (intro W hW; (try dsimp only at hW); have hq := HE.out W hW; obtain ⟨⟨⟨q1, q2, q3, q4⟩, e1, e2, e3⟩, e4, q5⟩ := hq; go_simp; first | done | with_reducible rfl)
          try simp only [lay]
          refine' tk (i := 12) (v := _) rfl ?_ ?_
          rotate_left
          · (intro W hW; (try dsimp only at hW); go_simp; first | done | with_reducible rfl)
          try simp only [lay]
          refine' tk (i := 13) (v := _) rfl ?_ ?_
          rotate_left
          · (intro W hW; (try dsimp only at hW); go_simp; first | done | with_reducible rfl)
          try simp only [lay]
          refine' tk (i := 14) (v := _) rfl ?_ ?_
          rotate_left
          · (intro W hW; (try dsimp only at hW); go_simp; first | done | with_reducible rfl)
          try simp only [lay]
          refine' tk (i := 15) (v := _) rfl ?_ ?_
          rotate_left
          · (intro W hW; (try dsimp only at hW); have hq := HE.out W hW; obtain ⟨⟨⟨q1, q2, q3, q4⟩, e1, e2, e3⟩, e4, q5⟩ := hq; go_simp; first | done | with_reducible rfl)
          try simp only [lay]
          refine' tk (i := 16) (v := _) rfl ?_ ?_
          rotate_left
          · (intro W hW; (try dsimp only at hW); go_simp; first | done | with_reducible rfl)
          try simp only [lay]
          refine' tk (i := 17) (v := _) rfl ?_ ?_
          rotate_left
          · (intro W hW; (try dsimp only at hW); have hq := HE.out W hW; obtain ⟨⟨⟨q1, q2, q3, q4⟩, e1, e2, e3⟩, e4, q5⟩ := hq; go_simp; first | done | with_reducible rfl)
          try simp only [lay]
          by_cases d2 : xk = ak
          · have z2 : (xk == ak) = true := by simp [d2]
            refine' tk (i := 18) (v := _) rfl ?_ ?_
            rotate_left
            · (intro W hW; (try dsimp only at hW); go_simp; first | done | with_reducible rfl)
            try simp only [lay]
            refine' tk (i := 19) (v := _) rfl ?_ ?_
            rotate_left
            · (intro W hW; (try dsimp only at hW); go_simp; first | done | with_reducible rfl)
            try simp only [lay]
            refine' tk (i := 20) (v := _) rfl ?_ ?_
            rotate_left
            · (intro W hW; (try dsimp only at hW); go_simp; first | done | with_reducible rfl)
            try simp only [lay]
            refine' tk (i := 21) (v := _) rfl ?_ ?_
            rotate_left
            · (intro W hW; (try dsimp only at hW); go_simp; first | done | with_reducible rfl)
            try simp only [lay]
            refine' tk (i := 22) (v := _) rfl ?_ ?_
            rotate_left
            · (intro W hW; (try dsimp only at hW); have hq := HE.out W hW; obtain ⟨⟨⟨q1, q2, q3, q4⟩, e1, e2, e3⟩, e4, q5⟩ := hq; go_simp; first | done | with_reducible rfl)
            try simp only [lay]
            refine' tk (i := 23) (v := _) rfl ?_ ?_
            rotate_left
            · (intro W hW; (try dsimp only at hW); go_simp; first | done | with_reducible rfl)
            try simp only [lay]
            refine' tk (i := 24) (v := _) rfl ?_ ?_
            rotate_left
            · (intro W hW; (try dsimp only at hW); go_simp; first | done | with_reducible rfl)
            try simp only [lay]
            refine' tk (i := 25) (v := _) rfl ?_ ?_
            rotate_left
            · (intro W hW; (try dsimp only at hW); go_simp; first | done | with_reducible rfl)
            try simp only [lay]
            refine' tk (i := 26) (v := _) rfl ?_ ?_
            rotate_left
            · (intro W hW; (try dsimp only at hW); have hq := HE.out W hW; obtain ⟨⟨⟨q1, q2, q3, q4⟩, e1, e2, e3⟩, e4, q5⟩ := hq; go_simp; first | done | with_reducible rfl)
            try simp only [lay]
            refine' tk (i := 27) (v := _) rfl ?_ ?_
            rotate_left
            · (intro W hW; (try dsimp only at hW); go_simp; first | done | with_reducible rfl)
            try simp only [lay]
            refine' tk (i := 28) (v := _) rfl ?_ ?_
            rotate_left
            · (intro W hW; (try dsimp only at hW); have hq := HE.out W hW; obtain ⟨⟨⟨q1, q2, q3, q4⟩, e1, e2, e3⟩, e4, q5⟩ := hq; go_simp; first | done | with_reducible rfl)
            try simp only [lay]
            refine' tk (i := 29) (v := _) rfl ?_ ?_
            rotate_left
            · (intro W hW; (try dsimp only at hW); go_simp; first | done | with_reducible rfl)
            try simp only [lay]
            refine' tk (i := 30) (v := _) rfl ?_ ?_
            rotate_left
            · (intro W hW; (try dsimp only at hW); go_simp; first | done | with_reducible rfl)
            try simp only [lay]
            refine wpAnyH_done (by kernel_rfl) ?_ _
            clear hHeld
            go_wp2_with fail
            go_meet
            case rel => exact ⟨by first | (simp [d1, d2]; done) | (simp [d1, d2]; rfl), rfl⟩
          · have z2 : (xk == ak) = false := by simp [d2]
            refine' tk (i := 18) (v := _) rfl ?_ ?_
            rotate_left
            · (intro W hW; (try dsimp only at hW); go_simp; first | done | with_reducible rfl)
            try simp only [lay]
            refine' tk (i := 19) (v := _) rfl ?_ ?_
            rotate_left
            · (intro W hW; (try dsimp only at hW); go_simp; first | done | with_reducible rfl)
            try simp only [lay]
            refine' tk (i := 20) (v := _) rfl ?_ ?_
            rotate_left
            · (intro W hW; (try dsimp only at hW); go_simp; first | done | with_reducible rfl)
            try simp only [lay]
            refine tf (i := 21) rfl ?_
            try simp only [lay]
            refine tf (i := 22) rfl ?_
            try simp only [lay]
            refine tf (i := 23) rfl ?_
            try simp only [lay]
            refine tf (i := 24) rfl ?_
            try simp only [lay]
            refine tf (i := 25) rfl ?_
            try simp only [lay]
            refine tf (i := 26) rfl ?_
            try simp only [lay]
            refine tf (i := 27) rfl ?_
            try simp only [lay]
            refine tf (i := 28) rfl ?_
            try simp only [lay]
            refine tf (i := 29) rfl ?_
            try simp only [lay]
            refine' tk (i := 30) (v := _) rfl ?_ ?_
            rotate_left
            · (intro W hW; (try dsimp only at hW); go_simp; first | done | with_reducible rfl)
            try simp only [lay]
            refine wpAnyH_done (by kernel_rfl) ?_ _
            clear hHeld
            go_wp2_with fail
            go_meet
            case rel => exact ⟨by simp [d1, d2], rfl⟩
        · have z1 : (xb == ab) = false := by simp [d1]
          refine' tk (i := 8) (v := _) rfl ?_ ?_
          rotate_left
          · (intro W hW; (try dsimp only at hW); go_simp; first | done | with_reducible rfl)
          try simp only [lay]
          refine' tk (i := 9) (v := _) rfl ?_ ?_
          rotate_left
          · (intro W hW; (try dsimp only at hW); go_simp; first | done | with_reducible rfl)
          try simp only [lay]
          refine tf (i := 10) rfl ?_
          try simp only [lay]
          refine tf (i := 11) rfl ?_
          try simp only [lay]
          refine tf (i := 12) rfl ?_
          try simp only [lay]
          refine tf (i := 13) rfl ?_
          try simp only [lay]
          refine tf (i := 14) rfl ?_
          try simp only [lay]
          refine tf (i := 15) rfl ?_
          try simp only [lay]
          refine tf (i := 16) rfl ?_
          try simp only [lay]
          refine tf (i := 17) rfl ?_
          try simp only [lay]
          refine tf (i := 18) rfl ?_
          try simp only [lay]
          refine' tk (i := 19) (v := _) rfl ?_ ?_
          rotate_left
          · (intro W hW; (try dsimp only at hW); go_simp; first | done | with_reducible rfl)
          try simp only [lay]
          refine' tk (i := 20) (v := _) rfl ?_ ?_
          rotate_left
          · (intro W hW; (try dsimp only at hW); go_simp; first | done | with_reducible rfl)
          try simp only [lay]
          refine tf (i := 21) rfl ?_
          try simp only [lay]
          refine tf (i := 22) rfl ?_
          try simp only [lay]
          refine tf (i := 23) rfl ?_
          try simp only [lay]
          refine tf (i := 24) rfl ?_
          try simp only [lay]
          refine tf (i := 25) rfl ?_
          try simp only [lay]
          refine tf (i := 26) rfl ?_
          try simp only [lay]
          refine tf (i := 27) rfl ?_
          try simp only [lay]
          refine tf (i := 28) rfl ?_
          try simp only [lay]
          refine tf (i := 29) rfl ?_
          try simp only [lay]
          refine' tk (i := 30) (v := _) rfl ?_ ?_
          rotate_left
          · (intro W hW; (try dsimp only at hW); go_simp; first | done | with_reducible rfl)
          try simp only [lay]
          refine wpAnyH_done (by kernel_rfl) ?_ _
          clear hHeld
          go_wp2_with fail
          go_meet
          case rel => exact ⟨by simp [d1], rfl⟩
      case rest =>
        obtain ⟨rfl, hw⟩ := hcut
        rw [← HKEY.out]
        obtain ⟨q, HQK⟩ : ∃ q : Bool, Hid (keyA x a = q) := ⟨_, hid rfl⟩
        rw [HQK.out] at HNO HANY ⊢
        have HBC : Hid (Below wz.heap.size wz wc) := hid (by rw [hw]; exact HBD.out)
        clear hw HBD
        cases q with
        | true =>
          have HQ : Hid (addG n L a = (L, 15)) := hid (by unfold addG; rw [if_pos HOK.out, if_pos (HANY.out rfl)])
          have HRC := hid (HF.out wc HBC.out).2.1
          go_upto_region 8 with (fail)
          have hld := loadGv_row (C := #[.int .i64 n, .slice (some ⟨b1, o1, none⟩) N c]) HRC.out rfl
          have hst := storeGv_eq (C := #[.int .i64 n, .slice (some ⟨b1, o1, none⟩) N c]) (HF.out wc HBC.out).2.2.2 rfl rfl (gv_one ..)
          have HRF := hid (setAtt_same (C := #[.int .i64 n, .slice (some ⟨b1, o1, none⟩) N c]) (HF.out wc HBC.out).2.2.2)
          have HBF := hid (setAtt_below (C := #[.int .i64 n, .slice (some ⟨b1, o1, none⟩) N c]) (HF.out wc HBC.out).1 (show w.heap.size ≤ w.heap.size + 2 by omega))
          go_wp2_with fail
          try simp only [Exit.inBlock, Exit.then]
          refine bodyPost_ret (results_gv2 rfl _ _ _ _ _ _ rfl rfl HRF.out rfl) rfl ?_
          rw [HQ.out]
          exact ⟨_, rfl, HV.out.below HBF.out, HO.out, HBF.out⟩
        | false =>
          have HN2 := hid (HNO.out rfl)
          go_upto_region 9 with (fail)
          have HBD := hid (HBC.out.drew)
          obtain ⟨h, HH⟩ : ∃ q : Bool, Hid (aheadA x a = q) := ⟨_, hid rfl⟩
          rw [HH.out] at HAI HPL
          refine wp_region_held_drew (S := fun W => Below wz.heap.size wz W) (by kernel_rfl) HBD.out (fun hHeld => ?_)
          refine' tk (i := 0) (v := _) rfl ?_ ?_
          rotate_left
          · (intro W hW; (try dsimp only at hW); go_simp; first | done | with_reducible rfl)
          try simp only [lay]
          refine' tk (i := 1) (v := _) rfl ?_ ?_
          rotate_left
          · (intro W hW; (try dsimp only at hW); have hq := HE.out W hW; obtain ⟨⟨⟨q1, q2, q3, q4⟩, e1, e2, e3⟩, e4, q5⟩ := hq; go_simp; first | done | with_reducible rfl)
          try simp only [lay]
          refine' tk (i := 2) (v := _) rfl ?_ ?_
          rotate_left
          · (intro W hW; (try dsimp only at hW); go_simp; first | done | with_reducible rfl)
          try simp only [lay]
          refine' tk (i := 3) (v := _) rfl ?_ ?_
          rotate_left
          · (intro W hW; (try dsimp only at hW); go_simp; first | done | with_reducible rfl)
          try simp only [lay]
          refine' tk (i := 4) (v := _) rfl ?_ ?_
          rotate_left
          · (intro W hW; (try dsimp only at hW); have hq := HE.out W hW; obtain ⟨⟨⟨q1, q2, q3, q4⟩, e1, e2, e3⟩, e4, q5⟩ := hq; go_simp; first | done | with_reducible rfl)
          try simp only [lay]
          refine' tk (i := 5) (v := _) rfl ?_ ?_
          rotate_left
          · (intro W hW; (try dsimp only at hW); have hq := HE.out W hW; obtain ⟨⟨⟨q1, q2, q3, q4⟩, e1, e2, e3⟩, e4, q5⟩ := hq; go_simp; first | done | with_reducible rfl)
          try simp only [lay]
          refine call_on (i := 6) rfl (by kernel_rfl) (by rfl) (fun K hK => ?_)
          go_simp
          refine (HAI.out wc.drew).mono ?_
          rintro e w5 ⟨rfl, hb5⟩
          have HB5 := hid (HBD.out.trans (hb5.mono HBD.out.size))
          clear hb5
          refine hK.out _ _ (HB5.out) (fun hHeld => ?_)
          clear hK K
          try simp only [lay]
          refine wpAnyH_done (by kernel_rfl) ?_ _
          clear hHeld
          have hwi := HWI.out
          cases h with
          | true =>
            have HP2 : Hid (PlSt wz w5 a L (i + 1) (i + 1)) := hid ⟨by have := HPL.out; rwa [if_pos rfl] at this, Nat.le_refl _, HN2.out, HB5.out⟩
            go_wp2_with fail
            go_roundw
            case rel => exact ⟨i + 1, i + 1, HHK.out, by first | go_num | (rw [HWI.out]; rfl), by first | go_num | (rw [HWI.out]; rfl), HP2⟩
            case measure => exact ga_meas HHK.out hwi
          | false =>
            have HP2 : Hid (PlSt wz w5 a L (i + 1) kk) := hid ⟨by have := HPL.out; rwa [if_neg (by decide)] at this, by have := HLE.out; omega, HN2.out, HB5.out⟩
            go_wp2_with fail
            go_roundw
            case rel => exact ⟨i + 1, kk, HHK.out, by first | go_num | (rw [HWI.out]; rfl), rfl, HP2⟩
            case measure => exact ga_meas HHK.out hwi
    · have hlt' : ¬ (i : Int) < (N : Int) := by omega
      obtain rfl : i = N := by omega
      have HPK : Hid (kk = placeG a L 0 0) := hid (by
        have := HP.out.pl
        rw [List.drop_eq_nil_of_le (by rw [HN.out]; exact Nat.le_refl _)] at this
        exact this)
      have HNA : Hid (L.any (fun x => keyA x a) = false) := hid (by
        rw [Bool.eq_false_iff]
        intro h
        obtain ⟨x, hx, e⟩ := List.any_eq_true.1 h
        obtain ⟨j, hj, rfl⟩ := List.getElem_of_mem hx
        have := HP.out.no j hj (by rw [← HN.out]; exact hj)
        rw [this] at e
        cases e)
      have HLE := hid HP.out.le
      have HBE := hid HP.out.bel
      clear hlt hi HP
      go_upto_region 11 with (fail)
      clear hlt'
      by_cases p200 : (200 : Int) ≤ (i : Int)
      · have HQ : Hid (addG n L a = (L, 4)) := hid (by unfold addG; rw [if_pos HOK.out, if_neg (by rw [HNA.out]; decide), if_pos (by rw [HN.out]; omega)])
        have HRC := hid (HF.out wr HBE.out).2.1
        go_upto_region 12 with (fail)
        clear c1
        have hld := loadGv_row (C := #[.int .i64 n, .slice A i c]) HRC.out rfl
        have hst := storeGv_eq (C := #[.int .i64 n, .slice A i c]) (HF.out wr HBE.out).2.2.2 rfl rfl (gv_one ..)
        have HRF := hid (setAtt_same (C := #[.int .i64 n, .slice A i c]) (HF.out wr HBE.out).2.2.2)
        have HBF := hid (setAtt_below (C := #[.int .i64 n, .slice A i c]) (HF.out wr HBE.out).1 (show w.heap.size ≤ w.heap.size + 2 by omega))
        go_wp2_with fail
        try simp only [Exit.inBlock, Exit.then]
        refine bodyPost_ret (results_gv2 rfl _ _ _ _ _ _ rfl rfl HRF.out rfl) rfl ?_
        rw [HQ.out]
        exact ⟨_, rfl, HV.out.below HBF.out, HO.out, HBF.out⟩
      · have HQ : Hid (addG n L a = (insG a L, 0)) := hid (by unfold addG; rw [if_pos HOK.out, if_neg (by rw [HNA.out]; decide), if_neg (by rw [HN.out]; omega)])
        have HIN : Hid ((([] ++ L.take kk) ++ [a]) ++ ([] ++ L.drop kk) = insG a L) := hid (by unfold insG; rw [← HPK.out]; simp)
        have HKE := hid (Nat.le_trans HLE.out (Nat.le_refl i))
        obtain ⟨A1, m1, hc1, he1⟩ := cut_atl A c i kk HLE.out (by have := HCAP.out; omega)
        obtain ⟨A2, m2, hc2, he2⟩ := cut_ath A c i kk HLE.out (by have := HCAP.out; omega)
        have HE1 := hid he1
        have HE2 := hid he2
        have HF0 := hid (FlSt.fresh wr)
        have HEV : Hid (∀ W, Below w.heap.size w W → Els atl 101 W (.slice A1 (i - kk) m1) (L.drop kk) ∧ Els atl 101 W (.slice A2 kk m2) (L.take kk)) := hid (fun W h => ⟨HE1.out W L HN.out (HV.out.below h), HE2.out W L HN.out (HV.out.below h)⟩)
        have HX0 := hid ((HEV.out _ ((HF.out _ HBE.out).1.trans (HF0.out.bel.mono (HF.out _ HBE.out).1.size))).1)
        have HOD : Hid (∀ y ∈ L.drop kk, y.Ok) := hid (fun y hy => HO.out y (List.mem_of_mem_drop hy))
        have HOT : Hid (∀ y ∈ L.take kk, y.Ok) := hid (fun y hy => HO.out y (List.mem_of_mem_take hy))
        have HL0 : Hid (([] : List AtM).length + (L.drop kk).length ≤ 1000000) := hid (by rw [List.length_drop, HN.out]; have := HLN.out; simp only [List.length_nil]; omega)
        have HLT : Hid (([] : List AtM).length + (L.take kk).length ≤ 1000000) := hid (by rw [List.length_take, HN.out]; have := HLN.out; simp only [List.length_nil]; omega)
        clear he1 he2
        have c2 := (HG.out _ (HBE.out.alloc HBE.out.size (.cells #[] 36))).1.2
        go_upto_region 13 with (fail)
        clear p200
        go_upto_region 14 with (at_builtin; go_loud (refine eltAt.wpList_append rfl (.tmp 73) (.tmp 77) rfl rfl rfl HOD.out HF0.out.own HX0.out HL0.out HF0.out.bel.size ?_; intro v5 w5 ho5 hg5 hv5; have HF5 := hid (HF0.out.app ho5 hg5); obtain ⟨A5, n5, c5, rfl⟩ : ∃ A n c, v5 = .slice A n c := (by obtain ⟨A, c, e⟩ := ho5.shape; exact ⟨_, _, _, e⟩); clear ho5 hg5 hv5))
        clear hc1 c1 c2
        have HW5 : Hid (Below wz.heap.size wz w5) := hid (HBE.out.trans (HF5.out.bel.mono HBE.out.size))
        have HR5 := hid (HF5.out.own.els eltAt (fun y hy => HOD.out y (by simpa using hy)))
        have hsl : ∀ W, sliceAt1 (.agg X) W = .ok (.value (.slice (some ⟨W.heap.size, 0, none⟩) 1 1)) (W.alloc (.cells X 36)) := fun W => by rw [← HX.out]; exact sliceAt1_eq a HAO.out W
        have HKP : Hid (∀ W, Below w5.heap.size w5 W → (W.frozen? ⟨w.heap.size, 1, none⟩ = false ∧ loadAtt (.pointer (some ⟨w.heap.size + 1, 0, none⟩)) W = .ok (.value (.agg X)) W) ∧ W.cell? ⟨w.heap.size, 1, none⟩ = some (.slice A i c)) := hid (fun W h => by
          have hb := HW5.out.trans (h.mono HW5.out.size)
          exact ⟨⟨free_blk (HF.out W hb).2.1 1, (HG.out W hb).2.2⟩, (HG.out W hb).1.2⟩)
        have HBD := hid ((Below.refl w5.heap.size w5).drew)
        go_cut [] (fun wy => Hid (AdEnd w wy n L a))
        case first =>
          refine wp_region_held_drew (S := fun W => W.frozen? ⟨w.heap.size, 1, none⟩ = false ∧ loadAtt (.pointer (some ⟨w.heap.size + 1, 0, none⟩)) W = .ok (.value (.agg X)) W) (by kernel_rfl) (HKP.out _ HBD.out).1 (fun hHeld => ?_)
          refine' tk (i := 1) (v := _) rfl ?_ ?_
          rotate_left
          · (intro W hW; (try dsimp only at hW); go_simp; first | done | with_reducible rfl)
          try simp only [lay]
          refine' tk (i := 3) (v := _) rfl ?_ ?_
          rotate_left
          · (intro W hW; (try dsimp only at hW); go_simp; first | done | with_reducible rfl)
          try simp only [lay]
          refine' tk (i := 6) (v := _) rfl ?_ ?_
          rotate_left
          · (intro W hW; (try dsimp only at hW); obtain ⟨hW1, hW2⟩ := hW; go_simp; first | done | with_reducible rfl)
          try simp only [lay]
          refine' tk (i := 9) (v := _) rfl ?_ ?_
          rotate_left
          · (intro W hW; (try dsimp only at hW); go_simp; first | done | with_reducible rfl)
          try simp only [lay]
          refine three_g (i := 0) (j := 2) (k := 7) rfl rfl rfl (by kernel_rfl) (by rfl) (by rfl) (by rfl) (fun K hK => ?_) (fun K hK => ?_) (fun K hK => ?_)
          · have HB1 := hid (HBD.out.alloc HBD.out.size (.cells #[] 36))
            have HZ1 : Hid (FlSt w5.drew (w5.drew.alloc (.cells #[] 36)) (.slice (some ⟨w5.heap.size, 0, none⟩) 0 0) []) := hid (by
              have h := FlSt.fresh w5.drew
              rwa [show w5.drew.heap.size = w5.heap.size from by first | rfl | simp] at h)
            have HBB : Hid (w5.heap.size ≤ w5.drew.heap.size) := hid HBD.out.size
            go_simp
            refine hK.out _ _ (HKP.out (w5.drew.alloc (.cells #[] 36)) HB1.out).1 (fun hHeld => ?_)
            clear hK K
            try simp only [lay]
            refine pair_on (i := 2) (j := 7) rfl rfl (by kernel_rfl) (by rfl) (by rfl) (fun K hK => ?_) (fun K hK => ?_)
            · have kq2 : (w5.alloc (.cells #[] 36)).cell? ⟨w.heap.size, 1, none⟩ = some (.slice A i c) := (HKP.out (w5.drew.alloc (.cells #[] 36)) HB1.out).2
              go_simp
              refine hK.out _ _ (HKP.out (w5.drew.alloc (.cells #[] 36)) HB1.out).1 (fun hHeld => ?_)
              clear hK K kq2
              try simp only [lay]
              refine' tk (i := 4) (v := _) rfl ?_ ?_
              rotate_left
              · (intro W hW; (try dsimp only at hW); go_simp; first | done | with_reducible rfl)
              try simp only [lay]
              refine pair_on (i := 5) (j := 7) rfl rfl (by kernel_rfl) (by rfl) (by rfl) (fun K hK => ?_) (fun K hK => ?_)
              · refine eltAt.wp_append (.tmp 79) (.tmp 83) rfl rfl rfl HOT.out HZ1.out.own ((HEV.out _ ((HF.out _ (HW5.out.trans (HB1.out.mono HW5.out.size))).1)).2) HLT.out HZ1.out.bel.size ?_
                intro v6 w6 ho6 hg6 _
                have HZ3 := hid (HZ1.out.app ho6 hg6)
                have HB3 := hid (HB1.out.grown hg6 (Nat.le_trans HB1.out.size (Nat.le_refl _)) (fun q hq => Nat.le_trans HBB.out ((World.ownsRow.lt HZ1.out.own q hq).1)))
                obtain ⟨A6, n6, c6, rfl⟩ : ∃ A n c, v6 = .slice A n c := (by obtain ⟨A, c, e⟩ := ho6.shape; exact ⟨_, _, _, e⟩)
                refine hK.out _ _ (HKP.out w6 HB3.out).1 (fun hHeld => ?_)
                clear hK K ho6 hg6
                try simp only [lay]
                refine call_on (i := 7) rfl (by kernel_rfl) (by rfl) (fun K hK => ?_)
                have HB4 := hid (HB3.out.alloc HB3.out.size (.cells X 36))
                have HO4 : Hid ((w6.alloc (.cells X 36)).heap[w6.heap.size]? = some (.cells X 36 (0, 0))) := hid (by
                  have h := heap_alloc_new w6 (.cells X 36)
                  rwa [show w6.heap.size = w6.heap.size from by first | rfl | simp] at h)
                have HZ4 := hid (HZ3.out.below ((Below.refl w6.heap.size w6).alloc (Nat.le_refl _) (.cells X 36)))
                go_simp
                refine hK.out _ _ (HKP.out (w6.alloc (.cells X 36)) HB4.out).1 (fun hHeld => ?_)
                clear hK K
                try simp only [lay]
                refine call_on (i := 8) rfl (by kernel_rfl) (by rfl) (fun K hK => ?_)
                refine eltAt.wp_append (.tmp 84) (.tmp 86) rfl rfl rfl (fun y hy => by obtain rfl := List.mem_singleton.1 hy; exact HAO.out) HZ4.out.own (el_one (by rw [HX.out]; exact HO4.out)) (by simp only [List.nil_append, List.length_cons, List.length_nil, List.length_take, HN.out]; have := HLN.out; omega) HZ4.out.bel.size ?_
                intro v8 w8 ho8 hg8 _
                have HFa := hid (HZ4.out.app ho8 hg8)
                have HBa := hid (HB4.out.grown hg8 (Nat.le_trans HB4.out.size (Nat.le_refl _)) (fun q hq => Nat.le_trans HBB.out ((World.ownsRow.lt HZ4.out.own q hq).1)))
                obtain ⟨Aa, na, ca, rfl⟩ : ∃ A n c, v8 = .slice A n c := (by obtain ⟨A, c, e⟩ := ho8.shape; exact ⟨_, _, _, e⟩)
                refine hK.out _ _ (HKP.out w8 HBa.out).1 (fun hHeld => ?_)
                clear hK K ho8 hg8
                try simp only [lay]
                refine call_on (i := 10) rfl (by kernel_rfl) (by rfl) (fun K hK => ?_)
                refine eltAt.wp_append (.tmp 87) (.tmp 88) rfl rfl rfl (fun y hy => HOD.out y (by simpa using hy)) HFa.out.own (HR5.out.below HBa.out) (by simp only [List.nil_append, List.length_append, List.length_cons, List.length_nil, List.length_take, List.length_drop, HN.out]; have := HLN.out; omega) HFa.out.bel.size ?_
                intro v9 w9 ho9 hg9 _
                have HFb := hid (HFa.out.app ho9 hg9)
                have HBb := hid (HBa.out.grown hg9 (Nat.le_trans HBa.out.size (Nat.le_refl _)) (fun q hq => Nat.le_trans HBB.out ((World.ownsRow.lt HFa.out.own q hq).1)))
                obtain ⟨Ab, nb, cb, rfl⟩ : ∃ A n c, v9 = .slice A n c := (by obtain ⟨A, c, e⟩ := ho9.shape; exact ⟨_, _, _, e⟩)
                refine hK.out _ _ (HKP.out w9 HBb.out).1 (fun hHeld => ?_)
                clear hK K ho9 hg9
                try simp only [lay]
                refine' tk (i := 11) (v := _) rfl ?_ ?_
                rotate_left
                · (intro W hW; (try dsimp only at hW); go_simp; first | done | with_reducible rfl)
                try simp only [lay]
                obtain ⟨⟨f1, _⟩, k1⟩ := HKP.out w9 HBb.out
                have HWZ9 := hid (HW5.out.trans (HBb.out.mono HW5.out.size))
                have HEND : Hid (AdEnd w (w9.setCell ⟨w.heap.size, 1, none⟩ (.slice Ab nb cb)) n L a) := hid (adEnd_of (HF.out _ HWZ9.out).1 (HF.out _ HWZ9.out).2.1 (HF.out _ HWZ9.out).2.2.2 (by have := HFb.out.own; rw [HIN.out] at this; exact this) (Nat.lt_of_lt_of_le (lt_of_block (HF.out _ HW5.out).2.2.2) HBB.out))
                have HKF : Hid ((w9.setCell ⟨w.heap.size, 1, none⟩ (.slice Ab nb cb)).frozen? ⟨w.heap.size, 1, none⟩ = false ∧ loadAtt (.pointer (some ⟨w.heap.size + 1, 0, none⟩)) (w9.setCell ⟨w.heap.size, 1, none⟩ (.slice Ab nb cb)) = .ok (.value (.agg X)) (w9.setCell ⟨w.heap.size, 1, none⟩ (.slice Ab nb cb))) := hid ⟨free_blk (ga_setIn w9 (HF.out _ HWZ9.out).2.1 1 _) 1, loadAtt_row ((Below.heap_setCell _ _ _ _ (by show w.heap.size + 1 ≠ w.heap.size; omega)).trans (HF.out _ HWZ9.out).2.2.1) HAZ.out⟩
                refine call_on (i := 12) rfl (by kernel_rfl) (by rfl) (fun K hK => ?_)
                go_simp
                refine hK.out _ _ (HKF.out) (fun hHeld => ?_)
                clear hK K
                try simp only [lay]
                refine wpAnyH_done (by kernel_rfl) ?_ _
                clear hHeld f1 k1
                go_wp2_with fail
                go_meet
                case rel => exact HEND
              · have HB6 := hid (HB1.out.alloc HB1.out.size (.cells X 36))
                have HO6 : Hid (((w5.drew.alloc (.cells #[] 36)).alloc (.cells X 36)).heap[w5.heap.size + 1]? = some (.cells X 36 (0, 0))) := hid (by
                  have h := heap_alloc_new (w5.drew.alloc (.cells #[] 36)) (.cells X 36)
                  rwa [show (w5.drew.alloc (.cells #[] 36)).heap.size = w5.heap.size + 1 from by first | rfl | simp] at h)
                have HZ6 := hid (HZ1.out.below ((Below.refl (w5.drew.alloc (.cells #[] 36)).heap.size (w5.drew.alloc (.cells #[] 36))).alloc (Nat.le_refl _) (.cells X 36)))
                go_simp
                refine hK.out _ _ (HKP.out ((w5.drew.alloc (.cells #[] 36)).alloc (.cells X 36)) HB6.out).1 (fun hHeld => ?_)
                clear hK K
                try simp only [lay]
                refine call_on (i := 5) rfl (by kernel_rfl) (by rfl) (fun K hK => ?_)
                refine eltAt.wp_append (.tmp 79) (.tmp 83) rfl rfl rfl HOT.out HZ6.out.own ((HEV.out _ ((HF.out _ (HW5.out.trans (HB6.out.mono HW5.out.size))).1)).2) HLT.out HZ6.out.bel.size ?_
                intro v6 w6 ho6 hg6 _
                have HZ7 := hid (HZ6.out.app ho6 hg6)
                have HB7 := hid (HB6.out.grown hg6 (Nat.le_trans HB6.out.size (Nat.le_refl _)) (fun q hq => Nat.le_trans HBB.out ((World.ownsRow.lt HZ6.out.own q hq).1)))
                have HO7 := hid ((hg6.block _ (lt_of_block HO6.out) (fun e => by first | (injection e with e; simp at e) | (injection e with e; simp at e; omega))).trans HO6.out)
                obtain ⟨A6, n6, c6, rfl⟩ : ∃ A n c, v6 = .slice A n c := (by obtain ⟨A, c, e⟩ := ho6.shape; exact ⟨_, _, _, e⟩)
                refine hK.out _ _ (HKP.out w6 HB7.out).1 (fun hHeld => ?_)
                clear hK K ho6 hg6
                try simp only [lay]
                refine call_on (i := 8) rfl (by kernel_rfl) (by rfl) (fun K hK => ?_)
                refine eltAt.wp_append (.tmp 84) (.tmp 86) rfl rfl rfl (fun y hy => by obtain rfl := List.mem_singleton.1 hy; exact HAO.out) HZ7.out.own (el_one (by rw [HX.out]; exact HO7.out)) (by simp only [List.nil_append, List.length_cons, List.length_nil, List.length_take, HN.out]; have := HLN.out; omega) HZ7.out.bel.size ?_
                intro v8 w8 ho8 hg8 _
                have HFa := hid (HZ7.out.app ho8 hg8)
                have HBa := hid (HB7.out.grown hg8 (Nat.le_trans HB7.out.size (Nat.le_refl _)) (fun q hq => Nat.le_trans HBB.out ((World.ownsRow.lt HZ7.out.own q hq).1)))
                obtain ⟨Aa, na, ca, rfl⟩ : ∃ A n c, v8 = .slice A n c := (by obtain ⟨A, c, e⟩ := ho8.shape; exact ⟨_, _, _, e⟩)
                refine hK.out _ _ (HKP.out w8 HBa.out).1 (fun hHeld => ?_)
                clear hK K ho8 hg8
                try simp only [lay]
                refine call_on (i := 10) rfl (by kernel_rfl) (by rfl) (fun K hK => ?_)
                refine eltAt.wp_append (.tmp 87) (.tmp 88) rfl rfl rfl (fun y hy => HOD.out y (by simpa using hy)) HFa.out.own (HR5.out.below HBa.out) (by simp only [List.nil_append, List.length_append, List.length_cons, List.length_nil, List.length_take, List.length_drop, HN.out]; have := HLN.out; omega) HFa.out.bel.size ?_
                intro v9 w9 ho9 hg9 _
                have HFb := hid (HFa.out.app ho9 hg9)
                have HBb := hid (HBa.out.grown hg9 (Nat.le_trans HBa.out.size (Nat.le_refl _)) (fun q hq => Nat.le_trans HBB.out ((World.ownsRow.lt HFa.out.own q hq).1)))
                obtain ⟨Ab, nb, cb, rfl⟩ : ∃ A n c, v9 = .slice A n c := (by obtain ⟨A, c, e⟩ := ho9.shape; exact ⟨_, _, _, e⟩)
                refine hK.out _ _ (HKP.out w9 HBb.out).1 (fun hHeld => ?_)
                clear hK K ho9 hg9
                try simp only [lay]
                refine' tk (i := 11) (v := _) rfl ?_ ?_
                rotate_left
                · (intro W hW; (try dsimp only at hW); go_simp; first | done | with_reducible rfl)
                try simp only [lay]
                obtain ⟨⟨f1, _⟩, k1⟩ := HKP.out w9 HBb.out
                have HWZ9 := hid (HW5.out.trans (HBb.out.mono HW5.out.size))
                have HEND : Hid (AdEnd w (w9.setCell ⟨w.heap.size, 1, none⟩ (.slice Ab nb cb)) n L a) := hid (adEnd_of (HF.out _ HWZ9.out).1 (HF.out _ HWZ9.out).2.1 (HF.out _ HWZ9.out).2.2.2 (by have := HFb.out.own; rw [HIN.out] at this; exact this) (Nat.lt_of_lt_of_le (lt_of_block (HF.out _ HW5.out).2.2.2) HBB.out))
                have HKF : Hid ((w9.setCell ⟨w.heap.size, 1, none⟩ (.slice Ab nb cb)).frozen? ⟨w.heap.size, 1, none⟩ = false ∧ loadAtt (.pointer (some ⟨w.heap.size + 1, 0, none⟩)) (w9.setCell ⟨w.heap.size, 1, none⟩ (.slice Ab nb cb)) = .ok (.value (.agg X)) (w9.setCell ⟨w.heap.size, 1, none⟩ (.slice Ab nb cb))) := hid ⟨free_blk (ga_setIn w9 (HF.out _ HWZ9.out).2.1 1 _) 1, loadAtt_row ((Below.heap_setCell _ _ _ _ (by show w.heap.size + 1 ≠ w.heap.size; omega)).trans (HF.out _ HWZ9.out).2.2.1) HAZ.out⟩
                refine call_on (i := 12) rfl (by kernel_rfl) (by rfl) (fun K hK => ?_)
                go_simp
                refine hK.out _ _ (HKF.out) (fun hHeld => ?_)
                clear hK K
                try simp only [lay]
                refine wpAnyH_done (by kernel_rfl) ?_ _
                clear hHeld f1 k1
                go_wp2_with fail
                go_meet
                case rel => exact HEND
            · have HB9 := hid (HB1.out.alloc HB1.out.size (.cells X 36))
              have HO9 : Hid (((w5.drew.alloc (.cells #[] 36)).alloc (.cells X 36)).heap[w5.heap.size + 1]? = some (.cells X 36 (0, 0))) := hid (by
                have h := heap_alloc_new (w5.drew.alloc (.cells #[] 36)) (.cells X 36)
                rwa [show (w5.drew.alloc (.cells #[] 36)).heap.size = w5.heap.size + 1 from by first | rfl | simp] at h)
              have HZ9 := hid (HZ1.out.below ((Below.refl (w5.drew.alloc (.cells #[] 36)).heap.size (w5.drew.alloc (.cells #[] 36))).alloc (Nat.le_refl _) (.cells X 36)))
              go_simp
              refine hK.out _ _ (HKP.out ((w5.drew.alloc (.cells #[] 36)).alloc (.cells X 36)) HB9.out).1 (fun hHeld => ?_)
              clear hK K
              try simp only [lay]
              refine call_on (i := 2) rfl (by kernel_rfl) (by rfl) (fun K hK => ?_)
              have kq10 : ((w5.alloc (.cells #[] 36)).alloc (.cells X 36)).cell? ⟨w.heap.size, 1, none⟩ = some (.slice A i c) := (HKP.out ((w5.drew.alloc (.cells #[] 36)).alloc (.cells X 36)) HB9.out).2
              go_simp
              refine hK.out _ _ (HKP.out ((w5.drew.alloc (.cells #[] 36)).alloc (.cells X 36)) HB9.out).1 (fun hHeld => ?_)
              clear hK K kq10
              try simp only [lay]
              refine' tk (i := 4) (v := _) rfl ?_ ?_
              rotate_left
              · (intro W hW; (try dsimp only at hW); go_simp; first | done | with_reducible rfl)
              try simp only [lay]
              refine call_on (i := 5) rfl (by kernel_rfl) (by rfl) (fun K hK => ?_)
              refine eltAt.wp_append (.tmp 79) (.tmp 83) rfl rfl rfl HOT.out HZ9.out.own ((HEV.out _ ((HF.out _ (HW5.out.trans (HB9.out.mono HW5.out.size))).1)).2) HLT.out HZ9.out.bel.size ?_
              intro v6 w6 ho6 hg6 _
              have HZ11 := hid (HZ9.out.app ho6 hg6)
              have HB11 := hid (HB9.out.grown hg6 (Nat.le_trans HB9.out.size (Nat.le_refl _)) (fun q hq => Nat.le_trans HBB.out ((World.ownsRow.lt HZ9.out.own q hq).1)))
              have HO11 := hid ((hg6.block _ (lt_of_block HO9.out) (fun e => by first | (injection e with e; simp at e) | (injection e with e; simp at e; omega))).trans HO9.out)
              obtain ⟨A6, n6, c6, rfl⟩ : ∃ A n c, v6 = .slice A n c := (by obtain ⟨A, c, e⟩ := ho6.shape; exact ⟨_, _, _, e⟩)
              refine hK.out _ _ (HKP.out w6 HB11.out).1 (fun hHeld => ?_)
              clear hK K ho6 hg6
              try simp only [lay]
              refine call_on (i := 8) rfl (by kernel_rfl) (by rfl) (fun K hK => ?_)
              refine eltAt.wp_append (.tmp 84) (.tmp 86) rfl rfl rfl (fun y hy => by obtain rfl := List.mem_singleton.1 hy; exact HAO.out) HZ11.out.own (el_one (by rw [HX.out]; exact HO11.out)) (by simp only [List.nil_append, List.length_cons, List.length_nil, List.length_take, HN.out]; have := HLN.out; omega) HZ11.out.bel.size ?_
              intro v8 w8 ho8 hg8 _
              have HFa := hid (HZ11.out.app ho8 hg8)
              have HBa := hid (HB11.out.grown hg8 (Nat.le_trans HB11.out.size (Nat.le_refl _)) (fun q hq => Nat.le_trans HBB.out ((World.ownsRow.lt HZ11.out.own q hq).1)))
              obtain ⟨Aa, na, ca, rfl⟩ : ∃ A n c, v8 = .slice A n c := (by obtain ⟨A, c, e⟩ := ho8.shape; exact ⟨_, _, _, e⟩)
              refine hK.out _ _ (HKP.out w8 HBa.out).1 (fun hHeld => ?_)
              clear hK K ho8 hg8
              try simp only [lay]
              refine call_on (i := 10) rfl (by kernel_rfl) (by rfl) (fun K hK => ?_)
              refine eltAt.wp_append (.tmp 87) (.tmp 88) rfl rfl rfl (fun y hy => HOD.out y (by simpa using hy)) HFa.out.own (HR5.out.below HBa.out) (by simp only [List.nil_append, List.length_append, List.length_cons, List.length_nil, List.length_take, List.length_drop, HN.out]; have := HLN.out; omega) HFa.out.bel.size ?_
              intro v9 w9 ho9 hg9 _
              have HFb := hid (HFa.out.app ho9 hg9)
              have HBb := hid (HBa.out.grown hg9 (Nat.le_trans HBa.out.size (Nat.le_refl _)) (fun q hq => Nat.le_trans HBB.out ((World.ownsRow.lt HFa.out.own q hq).1)))
              obtain ⟨Ab, nb, cb, rfl⟩ : ∃ A n c, v9 = .slice A n c := (by obtain ⟨A, c, e⟩ := ho9.shape; exact ⟨_, _, _, e⟩)
              refine hK.out _ _ (HKP.out w9 HBb.out).1 (fun hHeld => ?_)
              clear hK K ho9 hg9
              try simp only [lay]
              refine' tk (i := 11) (v := _) rfl ?_ ?_
              rotate_left
              · (intro W hW; (try dsimp only at hW); go_simp; first | done | with_reducible rfl)
              try simp only [lay]
              obtain ⟨⟨f1, _⟩, k1⟩ := HKP.out w9 HBb.out
              have HWZ9 := hid (HW5.out.trans (HBb.out.mono HW5.out.size))
              have HEND : Hid (AdEnd w (w9.setCell ⟨w.heap.size, 1, none⟩ (.slice Ab nb cb)) n L a) := hid (adEnd_of (HF.out _ HWZ9.out).1 (HF.out _ HWZ9.out).2.1 (HF.out _ HWZ9.out).2.2.2 (by have := HFb.out.own; rw [HIN.out] at this; exact this) (Nat.lt_of_lt_of_le (lt_of_block (HF.out _ HW5.out).2.2.2) HBB.out))
              have HKF : Hid ((w9.setCell ⟨w.heap.size, 1, none⟩ (.slice Ab nb cb)).frozen? ⟨w.heap.size, 1, none⟩ = false ∧ loadAtt (.pointer (some ⟨w.heap.size + 1, 0, none⟩)) (w9.setCell ⟨w.heap.size, 1, none⟩ (.slice Ab nb cb)) = .ok (.value (.agg X)) (w9.setCell ⟨w.heap.size, 1, none⟩ (.slice Ab nb cb))) := hid ⟨free_blk (ga_setIn w9 (HF.out _ HWZ9.out).2.1 1 _) 1, loadAtt_row ((Below.heap_setCell _ _ _ _ (by show w.heap.size + 1 ≠ w.heap.size; omega)).trans (HF.out _ HWZ9.out).2.2.1) HAZ.out⟩
              refine call_on (i := 12) rfl (by kernel_rfl) (by rfl) (fun K hK => ?_)
              go_simp
              refine hK.out _ _ (HKF.out) (fun hHeld => ?_)
              clear hK K
              try simp only [lay]
              refine wpAnyH_done (by kernel_rfl) ?_ _
              clear hHeld f1 k1
              go_wp2_with fail
              go_meet
              case rel => exact HEND
          · have kq13 : w5.cell? ⟨w.heap.size, 1, none⟩ = some (.slice A i c) := (HKP.out w5.drew HBD.out).2
            go_simp
            refine hK.out _ _ (HKP.out w5.drew HBD.out).1 (fun hHeld => ?_)
            clear hK K kq13
            try simp only [lay]
            refine' tk (i := 4) (v := _) rfl ?_ ?_
            rotate_left
            · (intro W hW; (try dsimp only at hW); go_simp; first | done | with_reducible rfl)
            try simp only [lay]
            refine pair_on (i := 0) (j := 7) rfl rfl (by kernel_rfl) (by rfl) (by rfl) (fun K hK => ?_) (fun K hK => ?_)
            · have HB14 := hid (HBD.out.alloc HBD.out.size (.cells #[] 36))
              have HZ14 : Hid (FlSt w5.drew (w5.drew.alloc (.cells #[] 36)) (.slice (some ⟨w5.heap.size, 0, none⟩) 0 0) []) := hid (by
                have h := FlSt.fresh w5.drew
                rwa [show w5.drew.heap.size = w5.heap.size from by first | rfl | simp] at h)
              have HBB : Hid (w5.heap.size ≤ w5.drew.heap.size) := hid HBD.out.size
              go_simp
              refine hK.out _ _ (HKP.out (w5.drew.alloc (.cells #[] 36)) HB14.out).1 (fun hHeld => ?_)
              clear hK K
              try simp only [lay]
              refine pair_on (i := 5) (j := 7) rfl rfl (by kernel_rfl) (by rfl) (by rfl) (fun K hK => ?_) (fun K hK => ?_)
              · refine eltAt.wp_append (.tmp 79) (.tmp 83) rfl rfl rfl HOT.out HZ14.out.own ((HEV.out _ ((HF.out _ (HW5.out.trans (HB14.out.mono HW5.out.size))).1)).2) HLT.out HZ14.out.bel.size ?_
                intro v6 w6 ho6 hg6 _
                have HZ15 := hid (HZ14.out.app ho6 hg6)
                have HB15 := hid (HB14.out.grown hg6 (Nat.le_trans HB14.out.size (Nat.le_refl _)) (fun q hq => Nat.le_trans HBB.out ((World.ownsRow.lt HZ14.out.own q hq).1)))
                obtain ⟨A6, n6, c6, rfl⟩ : ∃ A n c, v6 = .slice A n c := (by obtain ⟨A, c, e⟩ := ho6.shape; exact ⟨_, _, _, e⟩)
                refine hK.out _ _ (HKP.out w6 HB15.out).1 (fun hHeld => ?_)
                clear hK K ho6 hg6
                try simp only [lay]
                refine call_on (i := 7) rfl (by kernel_rfl) (by rfl) (fun K hK => ?_)
                have HB16 := hid (HB15.out.alloc HB15.out.size (.cells X 36))
                have HO16 : Hid ((w6.alloc (.cells X 36)).heap[w6.heap.size]? = some (.cells X 36 (0, 0))) := hid (by
                  have h := heap_alloc_new w6 (.cells X 36)
                  rwa [show w6.heap.size = w6.heap.size from by first | rfl | simp] at h)
                have HZ16 := hid (HZ15.out.below ((Below.refl w6.heap.size w6).alloc (Nat.le_refl _) (.cells X 36)))
                go_simp
                refine hK.out _ _ (HKP.out (w6.alloc (.cells X 36)) HB16.out).1 (fun hHeld => ?_)
                clear hK K
                try simp only [lay]
                refine call_on (i := 8) rfl (by kernel_rfl) (by rfl) (fun K hK => ?_)
                refine eltAt.wp_append (.tmp 84) (.tmp 86) rfl rfl rfl (fun y hy => by obtain rfl := List.mem_singleton.1 hy; exact HAO.out) HZ16.out.own (el_one (by rw [HX.out]; exact HO16.out)) (by simp only [List.nil_append, List.length_cons, List.length_nil, List.length_take, HN.out]; have := HLN.out; omega) HZ16.out.bel.size ?_
                intro v8 w8 ho8 hg8 _
                have HFa := hid (HZ16.out.app ho8 hg8)
                have HBa := hid (HB16.out.grown hg8 (Nat.le_trans HB16.out.size (Nat.le_refl _)) (fun q hq => Nat.le_trans HBB.out ((World.ownsRow.lt HZ16.out.own q hq).1)))
                obtain ⟨Aa, na, ca, rfl⟩ : ∃ A n c, v8 = .slice A n c := (by obtain ⟨A, c, e⟩ := ho8.shape; exact ⟨_, _, _, e⟩)
                refine hK.out _ _ (HKP.out w8 HBa.out).1 (fun hHeld => ?_)
                clear hK K ho8 hg8
                try simp only [lay]
                refine call_on (i := 10) rfl (by kernel_rfl) (by rfl) (fun K hK => ?_)
                refine eltAt.wp_append (.tmp 87) (.tmp 88) rfl rfl rfl (fun y hy => HOD.out y (by simpa using hy)) HFa.out.own (HR5.out.below HBa.out) (by simp only [List.nil_append, List.length_append, List.length_cons, List.length_nil, List.length_take, List.length_drop, HN.out]; have := HLN.out; omega) HFa.out.bel.size ?_
                intro v9 w9 ho9 hg9 _
                have HFb := hid (HFa.out.app ho9 hg9)
                have HBb := hid (HBa.out.grown hg9 (Nat.le_trans HBa.out.size (Nat.le_refl _)) (fun q hq => Nat.le_trans HBB.out ((World.ownsRow.lt HFa.out.own q hq).1)))
                obtain ⟨Ab, nb, cb, rfl⟩ : ∃ A n c, v9 = .slice A n c := (by obtain ⟨A, c, e⟩ := ho9.shape; exact ⟨_, _, _, e⟩)
                refine hK.out _ _ (HKP.out w9 HBb.out).1 (fun hHeld => ?_)
                clear hK K ho9 hg9
                try simp only [lay]
                refine' tk (i := 11) (v := _) rfl ?_ ?_
                rotate_left
                · (intro W hW; (try dsimp only at hW); go_simp; first | done | with_reducible rfl)
                try simp only [lay]
                obtain ⟨⟨f1, _⟩, k1⟩ := HKP.out w9 HBb.out
                have HWZ9 := hid (HW5.out.trans (HBb.out.mono HW5.out.size))
                have HEND : Hid (AdEnd w (w9.setCell ⟨w.heap.size, 1, none⟩ (.slice Ab nb cb)) n L a) := hid (adEnd_of (HF.out _ HWZ9.out).1 (HF.out _ HWZ9.out).2.1 (HF.out _ HWZ9.out).2.2.2 (by have := HFb.out.own; rw [HIN.out] at this; exact this) (Nat.lt_of_lt_of_le (lt_of_block (HF.out _ HW5.out).2.2.2) HBB.out))
                have HKF : Hid ((w9.setCell ⟨w.heap.size, 1, none⟩ (.slice Ab nb cb)).frozen? ⟨w.heap.size, 1, none⟩ = false ∧ loadAtt (.pointer (some ⟨w.heap.size + 1, 0, none⟩)) (w9.setCell ⟨w.heap.size, 1, none⟩ (.slice Ab nb cb)) = .ok (.value (.agg X)) (w9.setCell ⟨w.heap.size, 1, none⟩ (.slice Ab nb cb))) := hid ⟨free_blk (ga_setIn w9 (HF.out _ HWZ9.out).2.1 1 _) 1, loadAtt_row ((Below.heap_setCell _ _ _ _ (by show w.heap.size + 1 ≠ w.heap.size; omega)).trans (HF.out _ HWZ9.out).2.2.1) HAZ.out⟩
                refine call_on (i := 12) rfl (by kernel_rfl) (by rfl) (fun K hK => ?_)
                go_simp
                refine hK.out _ _ (HKF.out) (fun hHeld => ?_)
                clear hK K
                try simp only [lay]
                refine wpAnyH_done (by kernel_rfl) ?_ _
                clear hHeld f1 k1
                go_wp2_with fail
                go_meet
                case rel => exact HEND
              · have HB18 := hid (HB14.out.alloc HB14.out.size (.cells X 36))
                have HO18 : Hid (((w5.drew.alloc (.cells #[] 36)).alloc (.cells X 36)).heap[w5.heap.size + 1]? = some (.cells X 36 (0, 0))) := hid (by
                  have h := heap_alloc_new (w5.drew.alloc (.cells #[] 36)) (.cells X 36)
                  rwa [show (w5.drew.alloc (.cells #[] 36)).heap.size = w5.heap.size + 1 from by first | rfl | simp] at h)
                have HZ18 := hid (HZ14.out.below ((Below.refl (w5.drew.alloc (.cells #[] 36)).heap.size (w5.drew.alloc (.cells #[] 36))).alloc (Nat.le_refl _) (.cells X 36)))
                go_simp
                refine hK.out _ _ (HKP.out ((w5.drew.alloc (.cells #[] 36)).alloc (.cells X 36)) HB18.out).1 (fun hHeld => ?_)
                clear hK K
                try simp only [lay]
                refine call_on (i := 5) rfl (by kernel_rfl) (by rfl) (fun K hK => ?_)
                refine eltAt.wp_append (.tmp 79) (.tmp 83) rfl rfl rfl HOT.out HZ18.out.own ((HEV.out _ ((HF.out _ (HW5.out.trans (HB18.out.mono HW5.out.size))).1)).2) HLT.out HZ18.out.bel.size ?_
                intro v6 w6 ho6 hg6 _
                have HZ19 := hid (HZ18.out.app ho6 hg6)
                have HB19 := hid (HB18.out.grown hg6 (Nat.le_trans HB18.out.size (Nat.le_refl _)) (fun q hq => Nat.le_trans HBB.out ((World.ownsRow.lt HZ18.out.own q hq).1)))
                have HO19 := hid ((hg6.block _ (lt_of_block HO18.out) (fun e => by first | (injection e with e; simp at e) | (injection e with e; simp at e; omega))).trans HO18.out)
                obtain ⟨A6, n6, c6, rfl⟩ : ∃ A n c, v6 = .slice A n c := (by obtain ⟨A, c, e⟩ := ho6.shape; exact ⟨_, _, _, e⟩)
                refine hK.out _ _ (HKP.out w6 HB19.out).1 (fun hHeld => ?_)
                clear hK K ho6 hg6
                try simp only [lay]
                refine call_on (i := 8) rfl (by kernel_rfl) (by rfl) (fun K hK => ?_)
                refine eltAt.wp_append (.tmp 84) (.tmp 86) rfl rfl rfl (fun y hy => by obtain rfl := List.mem_singleton.1 hy; exact HAO.out) HZ19.out.own (el_one (by rw [HX.out]; exact HO19.out)) (by simp only [List.nil_append, List.length_cons, List.length_nil, List.length_take, HN.out]; have := HLN.out; omega) HZ19.out.bel.size ?_
                intro v8 w8 ho8 hg8 _
                have HFa := hid (HZ19.out.app ho8 hg8)
                have HBa := hid (HB19.out.grown hg8 (Nat.le_trans HB19.out.size (Nat.le_refl _)) (fun q hq => Nat.le_trans HBB.out ((World.ownsRow.lt HZ19.out.own q hq).1)))
                obtain ⟨Aa, na, ca, rfl⟩ : ∃ A n c, v8 = .slice A n c := (by obtain ⟨A, c, e⟩ := ho8.shape; exact ⟨_, _, _, e⟩)
                refine hK.out _ _ (HKP.out w8 HBa.out).1 (fun hHeld => ?_)
                clear hK K ho8 hg8
                try simp only [lay]
                refine call_on (i := 10) rfl (by kernel_rfl) (by rfl) (fun K hK => ?_)
                refine eltAt.wp_append (.tmp 87) (.tmp 88) rfl rfl rfl (fun y hy => HOD.out y (by simpa using hy)) HFa.out.own (HR5.out.below HBa.out) (by simp only [List.nil_append, List.length_append, List.length_cons, List.length_nil, List.length_take, List.length_drop, HN.out]; have := HLN.out; omega) HFa.out.bel.size ?_
                intro v9 w9 ho9 hg9 _
                have HFb := hid (HFa.out.app ho9 hg9)
                have HBb := hid (HBa.out.grown hg9 (Nat.le_trans HBa.out.size (Nat.le_refl _)) (fun q hq => Nat.le_trans HBB.out ((World.ownsRow.lt HFa.out.own q hq).1)))
                obtain ⟨Ab, nb, cb, rfl⟩ : ∃ A n c, v9 = .slice A n c := (by obtain ⟨A, c, e⟩ := ho9.shape; exact ⟨_, _, _, e⟩)
                refine hK.out _ _ (HKP.out w9 HBb.out).1 (fun hHeld => ?_)
                clear hK K ho9 hg9
                try simp only [lay]
                refine' tk (i := 11) (v := _) rfl ?_ ?_
                rotate_left
                · (intro W hW; (try dsimp only at hW); go_simp; first | done | with_reducible rfl)
                try simp only [lay]
                obtain ⟨⟨f1, _⟩, k1⟩ := HKP.out w9 HBb.out
                have HWZ9 := hid (HW5.out.trans (HBb.out.mono HW5.out.size))
                have HEND : Hid (AdEnd w (w9.setCell ⟨w.heap.size, 1, none⟩ (.slice Ab nb cb)) n L a) := hid (adEnd_of (HF.out _ HWZ9.out).1 (HF.out _ HWZ9.out).2.1 (HF.out _ HWZ9.out).2.2.2 (by have := HFb.out.own; rw [HIN.out] at this; exact this) (Nat.lt_of_lt_of_le (lt_of_block (HF.out _ HW5.out).2.2.2) HBB.out))
                have HKF : Hid ((w9.setCell ⟨w.heap.size, 1, none⟩ (.slice Ab nb cb)).frozen? ⟨w.heap.size, 1, none⟩ = false ∧ loadAtt (.pointer (some ⟨w.heap.size + 1, 0, none⟩)) (w9.setCell ⟨w.heap.size, 1, none⟩ (.slice Ab nb cb)) = .ok (.value (.agg X)) (w9.setCell ⟨w.heap.size, 1, none⟩ (.slice Ab nb cb))) := hid ⟨free_blk (ga_setIn w9 (HF.out _ HWZ9.out).2.1 1 _) 1, loadAtt_row ((Below.heap_setCell _ _ _ _ (by show w.heap.size + 1 ≠ w.heap.size; omega)).trans (HF.out _ HWZ9.out).2.2.1) HAZ.out⟩
                refine call_on (i := 12) rfl (by kernel_rfl) (by rfl) (fun K hK => ?_)
                go_simp
                refine hK.out _ _ (HKF.out) (fun hHeld => ?_)
                clear hK K
                try simp only [lay]
                refine wpAnyH_done (by kernel_rfl) ?_ _
                clear hHeld f1 k1
                go_wp2_with fail
                go_meet
                case rel => exact HEND
            · have HB21 := hid (HBD.out.alloc HBD.out.size (.cells X 36))
              have HO21 : Hid ((w5.drew.alloc (.cells X 36)).heap[w5.heap.size]? = some (.cells X 36 (0, 0))) := hid (by
                have h := heap_alloc_new w5.drew (.cells X 36)
                rwa [show w5.drew.heap.size = w5.heap.size from by first | rfl | simp] at h)
              go_simp
              refine hK.out _ _ (HKP.out (w5.drew.alloc (.cells X 36)) HB21.out).1 (fun hHeld => ?_)
              clear hK K
              try simp only [lay]
              refine call_on (i := 0) rfl (by kernel_rfl) (by rfl) (fun K hK => ?_)
              have HB22 := hid (HB21.out.alloc HB21.out.size (.cells #[] 36))
              have HZ22 : Hid (FlSt (w5.drew.alloc (.cells X 36)) ((w5.drew.alloc (.cells X 36)).alloc (.cells #[] 36)) (.slice (some ⟨w5.heap.size + 1, 0, none⟩) 0 0) []) := hid (by
                have h := FlSt.fresh (w5.drew.alloc (.cells X 36))
                rwa [show (w5.drew.alloc (.cells X 36)).heap.size = w5.heap.size + 1 from by first | rfl | simp] at h)
              have HBB : Hid (w5.heap.size ≤ (w5.drew.alloc (.cells X 36)).heap.size) := hid HB21.out.size
              have HO22 := hid ((Below.heap_alloc (w5.drew.alloc (.cells X 36)) (.cells #[] 36) _ (lt_of_block HO21.out)).trans HO21.out)
              go_simp
              refine hK.out _ _ (HKP.out ((w5.drew.alloc (.cells X 36)).alloc (.cells #[] 36)) HB22.out).1 (fun hHeld => ?_)
              clear hK K
              try simp only [lay]
              refine call_on (i := 5) rfl (by kernel_rfl) (by rfl) (fun K hK => ?_)
              refine eltAt.wp_append (.tmp 79) (.tmp 83) rfl rfl rfl HOT.out HZ22.out.own ((HEV.out _ ((HF.out _ (HW5.out.trans (HB22.out.mono HW5.out.size))).1)).2) HLT.out HZ22.out.bel.size ?_
              intro v6 w6 ho6 hg6 _
              have HZ23 := hid (HZ22.out.app ho6 hg6)
              have HB23 := hid (HB22.out.grown hg6 (Nat.le_trans HB22.out.size (Nat.le_refl _)) (fun q hq => Nat.le_trans HBB.out ((World.ownsRow.lt HZ22.out.own q hq).1)))
              have HO23 := hid ((hg6.block _ (lt_of_block HO22.out) (fun e => by first | (injection e with e; simp at e) | (injection e with e; simp at e; omega))).trans HO22.out)
              obtain ⟨A6, n6, c6, rfl⟩ : ∃ A n c, v6 = .slice A n c := (by obtain ⟨A, c, e⟩ := ho6.shape; exact ⟨_, _, _, e⟩)
              refine hK.out _ _ (HKP.out w6 HB23.out).1 (fun hHeld => ?_)
              clear hK K ho6 hg6
              try simp only [lay]
              refine call_on (i := 8) rfl (by kernel_rfl) (by rfl) (fun K hK => ?_)
              refine eltAt.wp_append (.tmp 84) (.tmp 86) rfl rfl rfl (fun y hy => by obtain rfl := List.mem_singleton.1 hy; exact HAO.out) HZ23.out.own (el_one (by rw [HX.out]; exact HO23.out)) (by simp only [List.nil_append, List.length_cons, List.length_nil, List.length_take, HN.out]; have := HLN.out; omega) HZ23.out.bel.size ?_
              intro v8 w8 ho8 hg8 _
              have HFa := hid (HZ23.out.app ho8 hg8)
              have HBa := hid (HB23.out.grown hg8 (Nat.le_trans HB23.out.size (Nat.le_refl _)) (fun q hq => Nat.le_trans HBB.out ((World.ownsRow.lt HZ23.out.own q hq).1)))
              obtain ⟨Aa, na, ca, rfl⟩ : ∃ A n c, v8 = .slice A n c := (by obtain ⟨A, c, e⟩ := ho8.shape; exact ⟨_, _, _, e⟩)
              refine hK.out _ _ (HKP.out w8 HBa.out).1 (fun hHeld => ?_)
              clear hK K ho8 hg8
              try simp only [lay]
              refine call_on (i := 10) rfl (by kernel_rfl) (by rfl) (fun K hK => ?_)
              refine eltAt.wp_append (.tmp 87) (.tmp 88) rfl rfl rfl (fun y hy => HOD.out y (by simpa using hy)) HFa.out.own (HR5.out.below HBa.out) (by simp only [List.nil_append, List.length_append, List.length_cons, List.length_nil, List.length_take, List.length_drop, HN.out]; have := HLN.out; omega) HFa.out.bel.size ?_
              intro v9 w9 ho9 hg9 _
              have HFb := hid (HFa.out.app ho9 hg9)
              have HBb := hid (HBa.out.grown hg9 (Nat.le_trans HBa.out.size (Nat.le_refl _)) (fun q hq => Nat.le_trans HBB.out ((World.ownsRow.lt HFa.out.own q hq).1)))
              obtain ⟨Ab, nb, cb, rfl⟩ : ∃ A n c, v9 = .slice A n c := (by obtain ⟨A, c, e⟩ := ho9.shape; exact ⟨_, _, _, e⟩)
              refine hK.out _ _ (HKP.out w9 HBb.out).1 (fun hHeld => ?_)
              clear hK K ho9 hg9
              try simp only [lay]
              refine' tk (i := 11) (v := _) rfl ?_ ?_
              rotate_left
              · (intro W hW; (try dsimp only at hW); go_simp; first | done | with_reducible rfl)
              try simp only [lay]
              obtain ⟨⟨f1, _⟩, k1⟩ := HKP.out w9 HBb.out
              have HWZ9 := hid (HW5.out.trans (HBb.out.mono HW5.out.size))
              have HEND : Hid (AdEnd w (w9.setCell ⟨w.heap.size, 1, none⟩ (.slice Ab nb cb)) n L a) := hid (adEnd_of (HF.out _ HWZ9.out).1 (HF.out _ HWZ9.out).2.1 (HF.out _ HWZ9.out).2.2.2 (by have := HFb.out.own; rw [HIN.out] at this; exact this) (Nat.lt_of_lt_of_le (lt_of_block (HF.out _ HW5.out).2.2.2) HBB.out))
              have HKF : Hid ((w9.setCell ⟨w.heap.size, 1, none⟩ (.slice Ab nb cb)).frozen? ⟨w.heap.size, 1, none⟩ = false ∧ loadAtt (.pointer (some ⟨w.heap.size + 1, 0, none⟩)) (w9.setCell ⟨w.heap.size, 1, none⟩ (.slice Ab nb cb)) = .ok (.value (.agg X)) (w9.setCell ⟨w.heap.size, 1, none⟩ (.slice Ab nb cb))) := hid ⟨free_blk (ga_setIn w9 (HF.out _ HWZ9.out).2.1 1 _) 1, loadAtt_row ((Below.heap_setCell _ _ _ _ (by show w.heap.size + 1 ≠ w.heap.size; omega)).trans (HF.out _ HWZ9.out).2.2.1) HAZ.out⟩
              refine call_on (i := 12) rfl (by kernel_rfl) (by rfl) (fun K hK => ?_)
              go_simp
              refine hK.out _ _ (HKF.out) (fun hHeld => ?_)
              clear hK K
              try simp only [lay]
              refine wpAnyH_done (by kernel_rfl) ?_ _
              clear hHeld f1 k1
              go_wp2_with fail
              go_meet
              case rel => exact HEND
          · have HB25 := hid (HBD.out.alloc HBD.out.size (.cells X 36))
            have HO25 : Hid ((w5.drew.alloc (.cells X 36)).heap[w5.heap.size]? = some (.cells X 36 (0, 0))) := hid (by
              have h := heap_alloc_new w5.drew (.cells X 36)
              rwa [show w5.drew.heap.size = w5.heap.size from by first | rfl | simp] at h)
            go_simp
            refine hK.out _ _ (HKP.out (w5.drew.alloc (.cells X 36)) HB25.out).1 (fun hHeld => ?_)
            clear hK K
            try simp only [lay]
            refine pair_on (i := 0) (j := 2) rfl rfl (by kernel_rfl) (by rfl) (by rfl) (fun K hK => ?_) (fun K hK => ?_)
            · have HB26 := hid (HB25.out.alloc HB25.out.size (.cells #[] 36))
              have HZ26 : Hid (FlSt (w5.drew.alloc (.cells X 36)) ((w5.drew.alloc (.cells X 36)).alloc (.cells #[] 36)) (.slice (some ⟨w5.heap.size + 1, 0, none⟩) 0 0) []) := hid (by
                have h := FlSt.fresh (w5.drew.alloc (.cells X 36))
                rwa [show (w5.drew.alloc (.cells X 36)).heap.size = w5.heap.size + 1 from by first | rfl | simp] at h)
              have HBB : Hid (w5.heap.size ≤ (w5.drew.alloc (.cells X 36)).heap.size) := hid HB25.out.size
              have HO26 := hid ((Below.heap_alloc (w5.drew.alloc (.cells X 36)) (.cells #[] 36) _ (lt_of_block HO25.out)).trans HO25.out)
              go_simp
              refine hK.out _ _ (HKP.out ((w5.drew.alloc (.cells X 36)).alloc (.cells #[] 36)) HB26.out).1 (fun hHeld => ?_)
              clear hK K
              try simp only [lay]
              refine call_on (i := 2) rfl (by kernel_rfl) (by rfl) (fun K hK => ?_)
              have kq27 : ((w5.alloc (.cells X 36)).alloc (.cells #[] 36)).cell? ⟨w.heap.size, 1, none⟩ = some (.slice A i c) := (HKP.out ((w5.drew.alloc (.cells X 36)).alloc (.cells #[] 36)) HB26.out).2
              go_simp
              refine hK.out _ _ (HKP.out ((w5.drew.alloc (.cells X 36)).alloc (.cells #[] 36)) HB26.out).1 (fun hHeld => ?_)
              clear hK K kq27
              try simp only [lay]
              refine' tk (i := 4) (v := _) rfl ?_ ?_
              rotate_left
              · (intro W hW; (try dsimp only at hW); go_simp; first | done | with_reducible rfl)
              try simp only [lay]
              refine call_on (i := 5) rfl (by kernel_rfl) (by rfl) (fun K hK => ?_)
              refine eltAt.wp_append (.tmp 79) (.tmp 83) rfl rfl rfl HOT.out HZ26.out.own ((HEV.out _ ((HF.out _ (HW5.out.trans (HB26.out.mono HW5.out.size))).1)).2) HLT.out HZ26.out.bel.size ?_
              intro v6 w6 ho6 hg6 _
              have HZ28 := hid (HZ26.out.app ho6 hg6)
              have HB28 := hid (HB26.out.grown hg6 (Nat.le_trans HB26.out.size (Nat.le_refl _)) (fun q hq => Nat.le_trans HBB.out ((World.ownsRow.lt HZ26.out.own q hq).1)))
              have HO28 := hid ((hg6.block _ (lt_of_block HO26.out) (fun e => by first | (injection e with e; simp at e) | (injection e with e; simp at e; omega))).trans HO26.out)
              obtain ⟨A6, n6, c6, rfl⟩ : ∃ A n c, v6 = .slice A n c := (by obtain ⟨A, c, e⟩ := ho6.shape; exact ⟨_, _, _, e⟩)
              refine hK.out _ _ (HKP.out w6 HB28.out).1 (fun hHeld => ?_)
              clear hK K ho6 hg6
              try simp only [lay]
              refine call_on (i := 8) rfl (by kernel_rfl) (by rfl) (fun K hK => ?_)
              refine eltAt.wp_append (.tmp 84) (.tmp 86) rfl rfl rfl (fun y hy => by obtain rfl := List.mem_singleton.1 hy; exact HAO.out) HZ28.out.own (el_one (by rw [HX.out]; exact HO28.out)) (by simp only [List.nil_append, List.length_cons, List.length_nil, List.length_take, HN.out]; have := HLN.out; omega) HZ28.out.bel.size ?_
              intro v8 w8 ho8 hg8 _
              have HFa := hid (HZ28.out.app ho8 hg8)
              have HBa := hid (HB28.out.grown hg8 (Nat.le_trans HB28.out.size (Nat.le_refl _)) (fun q hq => Nat.le_trans HBB.out ((World.ownsRow.lt HZ28.out.own q hq).1)))
              obtain ⟨Aa, na, ca, rfl⟩ : ∃ A n c, v8 = .slice A n c := (by obtain ⟨A, c, e⟩ := ho8.shape; exact ⟨_, _, _, e⟩)
              refine hK.out _ _ (HKP.out w8 HBa.out).1 (fun hHeld => ?_)
              clear hK K ho8 hg8
              try simp only [lay]
              refine call_on (i := 10) rfl (by kernel_rfl) (by rfl) (fun K hK => ?_)
              refine eltAt.wp_append (.tmp 87) (.tmp 88) rfl rfl rfl (fun y hy => HOD.out y (by simpa using hy)) HFa.out.own (HR5.out.below HBa.out) (by simp only [List.nil_append, List.length_append, List.length_cons, List.length_nil, List.length_take, List.length_drop, HN.out]; have := HLN.out; omega) HFa.out.bel.size ?_
              intro v9 w9 ho9 hg9 _
              have HFb := hid (HFa.out.app ho9 hg9)
              have HBb := hid (HBa.out.grown hg9 (Nat.le_trans HBa.out.size (Nat.le_refl _)) (fun q hq => Nat.le_trans HBB.out ((World.ownsRow.lt HFa.out.own q hq).1)))
              obtain ⟨Ab, nb, cb, rfl⟩ : ∃ A n c, v9 = .slice A n c := (by obtain ⟨A, c, e⟩ := ho9.shape; exact ⟨_, _, _, e⟩)
              refine hK.out _ _ (HKP.out w9 HBb.out).1 (fun hHeld => ?_)
              clear hK K ho9 hg9
              try simp only [lay]
              refine' tk (i := 11) (v := _) rfl ?_ ?_
              rotate_left
              · (intro W hW; (try dsimp only at hW); go_simp; first | done | with_reducible rfl)
              try simp only [lay]
              obtain ⟨⟨f1, _⟩, k1⟩ := HKP.out w9 HBb.out
              have HWZ9 := hid (HW5.out.trans (HBb.out.mono HW5.out.size))
              have HEND : Hid (AdEnd w (w9.setCell ⟨w.heap.size, 1, none⟩ (.slice Ab nb cb)) n L a) := hid (adEnd_of (HF.out _ HWZ9.out).1 (HF.out _ HWZ9.out).2.1 (HF.out _ HWZ9.out).2.2.2 (by have := HFb.out.own; rw [HIN.out] at this; exact this) (Nat.lt_of_lt_of_le (lt_of_block (HF.out _ HW5.out).2.2.2) HBB.out))
              have HKF : Hid ((w9.setCell ⟨w.heap.size, 1, none⟩ (.slice Ab nb cb)).frozen? ⟨w.heap.size, 1, none⟩ = false ∧ loadAtt (.pointer (some ⟨w.heap.size + 1, 0, none⟩)) (w9.setCell ⟨w.heap.size, 1, none⟩ (.slice Ab nb cb)) = .ok (.value (.agg X)) (w9.setCell ⟨w.heap.size, 1, none⟩ (.slice Ab nb cb))) := hid ⟨free_blk (ga_setIn w9 (HF.out _ HWZ9.out).2.1 1 _) 1, loadAtt_row ((Below.heap_setCell _ _ _ _ (by show w.heap.size + 1 ≠ w.heap.size; omega)).trans (HF.out _ HWZ9.out).2.2.1) HAZ.out⟩
              refine call_on (i := 12) rfl (by kernel_rfl) (by rfl) (fun K hK => ?_)
              go_simp
              refine hK.out _ _ (HKF.out) (fun hHeld => ?_)
              clear hK K
              try simp only [lay]
              refine wpAnyH_done (by kernel_rfl) ?_ _
              clear hHeld f1 k1
              go_wp2_with fail
              go_meet
              case rel => exact HEND
            · have kq30 : (w5.alloc (.cells X 36)).cell? ⟨w.heap.size, 1, none⟩ = some (.slice A i c) := (HKP.out (w5.drew.alloc (.cells X 36)) HB25.out).2
              go_simp
              refine hK.out _ _ (HKP.out (w5.drew.alloc (.cells X 36)) HB25.out).1 (fun hHeld => ?_)
              clear hK K kq30
              try simp only [lay]
              refine' tk (i := 4) (v := _) rfl ?_ ?_
              rotate_left
              · (intro W hW; (try dsimp only at hW); go_simp; first | done | with_reducible rfl)
              try simp only [lay]
              refine call_on (i := 0) rfl (by kernel_rfl) (by rfl) (fun K hK => ?_)
              have HB31 := hid (HB25.out.alloc HB25.out.size (.cells #[] 36))
              have HZ31 : Hid (FlSt (w5.drew.alloc (.cells X 36)) ((w5.drew.alloc (.cells X 36)).alloc (.cells #[] 36)) (.slice (some ⟨w5.heap.size + 1, 0, none⟩) 0 0) []) := hid (by
                have h := FlSt.fresh (w5.drew.alloc (.cells X 36))
                rwa [show (w5.drew.alloc (.cells X 36)).heap.size = w5.heap.size + 1 from by first | rfl | simp] at h)
              have HBB : Hid (w5.heap.size ≤ (w5.drew.alloc (.cells X 36)).heap.size) := hid HB25.out.size
              have HO31 := hid ((Below.heap_alloc (w5.drew.alloc (.cells X 36)) (.cells #[] 36) _ (lt_of_block HO25.out)).trans HO25.out)
              go_simp
              refine hK.out _ _ (HKP.out ((w5.drew.alloc (.cells X 36)).alloc (.cells #[] 36)) HB31.out).1 (fun hHeld => ?_)
              clear hK K
              try simp only [lay]
              refine call_on (i := 5) rfl (by kernel_rfl) (by rfl) (fun K hK => ?_)
              refine eltAt.wp_append (.tmp 79) (.tmp 83) rfl rfl rfl HOT.out HZ31.out.own ((HEV.out _ ((HF.out _ (HW5.out.trans (HB31.out.mono HW5.out.size))).1)).2) HLT.out HZ31.out.bel.size ?_
              intro v6 w6 ho6 hg6 _
              have HZ32 := hid (HZ31.out.app ho6 hg6)
              have HB32 := hid (HB31.out.grown hg6 (Nat.le_trans HB31.out.size (Nat.le_refl _)) (fun q hq => Nat.le_trans HBB.out ((World.ownsRow.lt HZ31.out.own q hq).1)))
              have HO32 := hid ((hg6.block _ (lt_of_block HO31.out) (fun e => by first | (injection e with e; simp at e) | (injection e with e; simp at e; omega))).trans HO31.out)
              obtain ⟨A6, n6, c6, rfl⟩ : ∃ A n c, v6 = .slice A n c := (by obtain ⟨A, c, e⟩ := ho6.shape; exact ⟨_, _, _, e⟩)
              refine hK.out _ _ (HKP.out w6 HB32.out).1 (fun hHeld => ?_)
              clear hK K ho6 hg6
              try simp only [lay]
              refine call_on (i := 8) rfl (by kernel_rfl) (by rfl) (fun K hK => ?_)
              refine eltAt.wp_append (.tmp 84) (.tmp 86) rfl rfl rfl (fun y hy => by obtain rfl := List.mem_singleton.1 hy; exact HAO.out) HZ32.out.own (el_one (by rw [HX.out]; exact HO32.out)) (by simp only [List.nil_append, List.length_cons, List.length_nil, List.length_take, HN.out]; have := HLN.out; omega) HZ32.out.bel.size ?_
              intro v8 w8 ho8 hg8 _
              have HFa := hid (HZ32.out.app ho8 hg8)
              have HBa := hid (HB32.out.grown hg8 (Nat.le_trans HB32.out.size (Nat.le_refl _)) (fun q hq => Nat.le_trans HBB.out ((World.ownsRow.lt HZ32.out.own q hq).1)))
              obtain ⟨Aa, na, ca, rfl⟩ : ∃ A n c, v8 = .slice A n c := (by obtain ⟨A, c, e⟩ := ho8.shape; exact ⟨_, _, _, e⟩)
              refine hK.out _ _ (HKP.out w8 HBa.out).1 (fun hHeld => ?_)
              clear hK K ho8 hg8
              try simp only [lay]
              refine call_on (i := 10) rfl (by kernel_rfl) (by rfl) (fun K hK => ?_)
              refine eltAt.wp_append (.tmp 87) (.tmp 88) rfl rfl rfl (fun y hy => HOD.out y (by simpa using hy)) HFa.out.own (HR5.out.below HBa.out) (by simp only [List.nil_append, List.length_append, List.length_cons, List.length_nil, List.length_take, List.length_drop, HN.out]; have := HLN.out; omega) HFa.out.bel.size ?_
              intro v9 w9 ho9 hg9 _
              have HFb := hid (HFa.out.app ho9 hg9)
              have HBb := hid (HBa.out.grown hg9 (Nat.le_trans HBa.out.size (Nat.le_refl _)) (fun q hq => Nat.le_trans HBB.out ((World.ownsRow.lt HFa.out.own q hq).1)))
              obtain ⟨Ab, nb, cb, rfl⟩ : ∃ A n c, v9 = .slice A n c := (by obtain ⟨A, c, e⟩ := ho9.shape; exact ⟨_, _, _, e⟩)
              refine hK.out _ _ (HKP.out w9 HBb.out).1 (fun hHeld => ?_)
              clear hK K ho9 hg9
              try simp only [lay]
              refine' tk (i := 11) (v := _) rfl ?_ ?_
              rotate_left
              · (intro W hW; (try dsimp only at hW); go_simp; first | done | with_reducible rfl)
              try simp only [lay]
              obtain ⟨⟨f1, _⟩, k1⟩ := HKP.out w9 HBb.out
              have HWZ9 := hid (HW5.out.trans (HBb.out.mono HW5.out.size))
              have HEND : Hid (AdEnd w (w9.setCell ⟨w.heap.size, 1, none⟩ (.slice Ab nb cb)) n L a) := hid (adEnd_of (HF.out _ HWZ9.out).1 (HF.out _ HWZ9.out).2.1 (HF.out _ HWZ9.out).2.2.2 (by have := HFb.out.own; rw [HIN.out] at this; exact this) (Nat.lt_of_lt_of_le (lt_of_block (HF.out _ HW5.out).2.2.2) HBB.out))
              have HKF : Hid ((w9.setCell ⟨w.heap.size, 1, none⟩ (.slice Ab nb cb)).frozen? ⟨w.heap.size, 1, none⟩ = false ∧ loadAtt (.pointer (some ⟨w.heap.size + 1, 0, none⟩)) (w9.setCell ⟨w.heap.size, 1, none⟩ (.slice Ab nb cb)) = .ok (.value (.agg X)) (w9.setCell ⟨w.heap.size, 1, none⟩ (.slice Ab nb cb))) := hid ⟨free_blk (ga_setIn w9 (HF.out _ HWZ9.out).2.1 1 _) 1, loadAtt_row ((Below.heap_setCell _ _ _ _ (by show w.heap.size + 1 ≠ w.heap.size; omega)).trans (HF.out _ HWZ9.out).2.2.1) HAZ.out⟩
              refine call_on (i := 12) rfl (by kernel_rfl) (by rfl) (fun K hK => ?_)
              go_simp
              refine hK.out _ _ (HKF.out) (fun hHeld => ?_)
              clear hK K
              try simp only [lay]
              refine wpAnyH_done (by kernel_rfl) ?_ _
              clear hHeld f1 k1
              go_wp2_with fail
              go_meet
              case rel => exact HEND
        case rest =>
          obtain ⟨A9, n9, c9, hr9, hr8, he9, hb9⟩ := hcut.out
          have HV := hid he9
          have HBX := hid hb9
          have HR8 := hid hr8
          have hld := loadGv_row hr9 rfl
          have hst := storeGv_eq (C := #[.int .i64 n, .slice A9 n9 c9]) hr8 rfl rfl (gv_one ..)
          have HRF := hid (setAtt_same (C := #[.int .i64 n, .slice A9 n9 c9]) hr8)
          have HBF := hid (setAtt_below (C := #[.int .i64 n, .slice A9 n9 c9]) HBX.out (show w.heap.size ≤ w.heap.size + 2 by omega))
          have HOI : Hid (∀ y ∈ insG a L, y.Ok) := hid (fun y hy => by
            rcases mem_insG.1 hy with rfl | h
            · exact HAO.out
            · exact HO.out y h)
          have HEF := hid ((HV.out.row (g := w.heap.size + 2) (C := #[.int .i64 n, .slice A9 n9 c9]) (by omega)).els eltAt HOI.out)
          clear hr9 hr8 he9 hb9
          go_wp2_with fail
          try simp only [Exit.inBlock, Exit.then]
          refine bodyPost_ret (results_gv2 rfl _ _ _ _ _ _ rfl rfl HRF.out rfl) rfl ?_
          rw [HQ.out]
          exact ⟨_, rfl, HEF.out, HOI.out, HBF.out⟩
end Go.Proofs.YtpnejoglkmfleaaGreatDoor
