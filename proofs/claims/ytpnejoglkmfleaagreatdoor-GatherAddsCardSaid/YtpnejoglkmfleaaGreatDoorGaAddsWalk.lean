/-
  GatherAdds: what is added is there, what is told is right: the law's walk. Printed with genad.py.
-/
import Derived.Test.YtpnejoglkmfleaaGreatDoorGaAdd
import Derived.Test.YtpnejoglkmfleaaGreatDoorGaAwake
import Derived.Test.YtpnejoglkmfleaaGreatDoorGaCert
namespace Go.Proofs.YtpnejoglkmfleaaGreatDoor
set_option maxRecDepth 20000
open Go.RowKit
attribute [local go_sem ↓] exec_load_gv exec_alloc_gv exec_store_gv exec_load_att exec_alloc_att exec_store_att exec_load_ct exec_alloc_ct exec_store_ct
theorem gv_var (w : World) (n : Int) (A : Option Addr) (m c : Nat) : storeGv (.pointer (some ⟨w.heap.size, 0, none⟩)) (.agg #[.int .i64 n, .slice A m c]) (w.alloc (.cells gvZ 30)) = .ok .skip (w.alloc (.cells #[.int .i64 n, .slice A m c] 30)) := by
  rw [storeGv_eq (heap_alloc_new w _) rfl rfl (gv_one n A m c)]
  exact congrArg (fun W => Result.ok Next.skip W) (setAtt_alloc w _ _ _)
section
variable {w W W' : World} {v : Value} {L : List AtM} {g b m : Nat} {n : Int} {A A2 : Option Addr} {c c2 : Nat} {R R2 S S2 : List AtM}
theorem els_wide (h : Els atl 101 W v L) (ho : ∀ a ∈ L, a.Ok) (hk : ∀ b, b < W.heap.size → (∃ k u, 2 ≤ k ∧ W.cell? ⟨b, k, none⟩ = some u) → W'.heap[b]? = W.heap[b]?) : Els atl 101 W' v L := by
  obtain ⟨A, c, rfl, h1, h2, h3⟩ := h
  refine ⟨A, c, rfl, h1, h2, fun hl => ?_⟩
  obtain ⟨b, off, e, hlt, hc⟩ := h3 hl
  have hlen := atl_length (ho _ (List.getElem_mem hl))
  have hb := hk b hlt ⟨off + 0 * 101 + 100, _, by omega, hc 0 hl 100 _ (List.getElem?_eq_getElem (by rw [hlen]; omega))⟩
  exact ⟨b, off, e, lt_of_block (hb.trans (Array.getElem?_eq_getElem hlt)), fun j hj => range_kept (hc j hj) hb⟩
theorem els_setGv (h : Els atl 101 W v L) (ho : ∀ a ∈ L, a.Ok) {C0 C : Array Value} {T : TypeId} (hr : W.heap[g]? = some (.cells C0 T (0, 0))) (hs : C0.size = 2) : Els atl 101 (setAtt W g C) v L :=
  els_wide h ho (fun b _ ⟨k, u, hk, hu⟩ => setAtt_other W C (fun e => by
    subst e
    rw [cell_of_row W b k _ _ (0, 0) hr, Array.getElem?_eq_none (by rw [hs]; exact hk)] at hu
    cases hu))
theorem els_turn (h : Els atl 101 W v L) (ho : ∀ a ∈ L, a.Ok) {E : Array MapEntry} {k : Nat} (hm : W.heap[m]? = some (.map E k)) (hg : W.grownBy W' (some m)) : Els atl 101 W' v L :=
  els_wide h ho (fun b hb ⟨k, u, _, hu⟩ => hg.block b hb (fun e => by
    injection e with e
    subst e
    simp [World.cell?, hm] at hu))
structure AdSt (w W : World) (b m g : Nat) (n : Int) (A : Option Addr) (c : Nat) (R S : List AtM) : Prop where
  gt : Gth W b m n R
  ok : OkG n R
  oks : OkG n S
  hm : w.heap.size ≤ m
  hg : w.heap.size ≤ g
  row : W.heap[g]? = some (.cells #[.int .i64 n, .slice A S.length c] 30 (0, 0))
  els : Els atl 101 W (.slice A S.length c) S
  bel : Below w.heap.size w W
theorem AdSt.below (h : AdSt w W b m g n A c R S) (hb : Below W.heap.size W W') : AdSt w W' b m g n A c R S :=
  ⟨h.gt.below hb, h.ok, h.oks, h.hm, h.hg, (hb.block g (lt_of_block h.row)).trans h.row, h.els.below hb, h.bel.trans (hb.mono h.bel.size)⟩
theorem AdSt.put (h : AdSt w W b m g n A c R S) (hx : Els atl 101 W (.slice A2 S2.length c2) S2) (hS : OkG n S2) : AdSt w (setAtt W g #[.int .i64 n, .slice A2 S2.length c2]) b m g n A2 c2 R S2 := by
  obtain ⟨P, k, h2, hp⟩ := h.gt
  have hbg : b ≠ g := fun e => by
    have h3 := h2.p
    rw [e, h.row] at h3
    injection h3 with h3
    injection h3 with h3 _ _
    have := congrArg (fun C => C[1]?) h3
    simp at this
  have hmg : m ≠ g := fun e => by
    have h3 := h2.q
    rw [e, h.row] at h3
    injection h3 with h3
    cases h3
  exact ⟨⟨P, k, ⟨(setAtt_other W _ hbg).trans h2.p, (setAtt_other W _ hmg).trans h2.q, h2.nd, h2.lt⟩, hp⟩, h.ok, hS, h.hm, h.hg, setAtt_same h.row, els_setGv hx hS.ok h.row rfl, setAtt_below h.bel h.hg⟩
theorem AdSt.turn (h : AdSt w W b m g n A c R S) (hg : Gth W' b m n R2) (ho : OkG n R2) (hw : W.grownBy W' (some m)) : AdSt w W' b m g n A c R2 S := by
  obtain ⟨P, k, h2, hp⟩ := h.gt
  have hmg : g ≠ m := fun e => by
    have h3 := h2.q
    rw [← e, h.row] at h3
    injection h3 with h3
    cases h3
  exact ⟨hg, ho, h.oks, h.hm, h.hg, (hw.block g (lt_of_block h.row) (fun e => hmg (by injection e))).trans h.row, els_turn h.els h.oks.ok h2.q hw, h.bel.grown hw h.bel.size (fun k e => by injection e with e; rw [← e]; exact h.hm)⟩
def AdNew (w0 : World) (n : Int) (S : List AtM) (er : Int) (s t : Value) (W : World) : Prop := ∃ g A c, s = .pointer (some ⟨g, 0, none⟩) ∧ t = .int .i64 er ∧ W.heap[g]? = some (.cells #[.int .i64 n, .slice A S.length c] 30 (0, 0)) ∧ Els atl 101 W (.slice A S.length c) S ∧ Below w0.heap.size w0 W
theorem resG_take {n : Int} {L : List AtM} {i : Nat} (h : i < L.length) : resG n [] (L.take (i + 1)) = (addG n (resG n [] (L.take i)) L[i]).1 := by
  rw [List.take_succ_eq_append_getElem h, resG_snoc]
end
def CeAt (w0 : World) (c : CtM × Bool) (s t : Value) (W : World) : Prop := ∃ g C, s = .pointer (some ⟨g, 0, none⟩) ∧ t = .bool c.2 ∧ W.heap[g]? = some (.cells C 40 (0, 0)) ∧ C.size = 102 ∧ CtV W (.agg C) c.1 ∧ Below w0.heap.size w0 W
theorem ctc_own {B : Nat} {w : World} {s : Value} {c : CtM} (h1 : c.Ok) (h2 : OwnE scl 33 66 B w s c.sg) : (ctc c s).size = 102 ∧ (ctc c s).all (·.oneCell') = true := ⟨ctc_size _ h1.att, ctc_one (c := c) (h2.els eltSg h1.sg)⟩
theorem ceAt_mk {B g : Nat} {w0 w : World} {s : Value} {c : CtM × Bool} (h1 : c.1.Ok) (h2 : OwnE scl 33 66 B w s c.1.sg) (h3 : w.heap[g]? = some (.cells (ctc c.1 s) 40 (0, 0))) (h4 : Below w0.heap.size w0 w) : CeAt w0 c (.pointer (some ⟨g, 0, none⟩)) (.bool c.2) w :=
  ⟨g, _, rfl, rfl, h3, ctc_size _ h1.att, ⟨s, rfl, h1, h2.els eltSg h1.sg⟩, h4⟩
set_option maxHeartbeats 51200000 in
theorem lawGatherAdds_all (n : Int) (v : Value) (L : List AtM) (d : Int) (w : World) (hn : (Lit.int .i64 n).wf = true) (hv : Els atl 101 w v L) (ho : ∀ x ∈ L, x.Ok) (_hd : (Lit.int .i64 d).wf = true) (hK1 : Kst 0 w) (hK0 : Kst 1 w) :
    Calls Tryz.prog 3 #[.int .i64 n, v, .int .i64 d] w fun e w' => e = .returned (.bool true) ∧ Below w.heap.size w w' := by
  have HAW : Hid (∀ W, Below w.heap.size w W → Calls Tryz.prog 4 #[] W fun e w' => e = .returned (.bool true) ∧ Below w.heap.size w w') := hid (fun W hb => (gaAwake_any W (hK1.below hb)).mono fun _ _ ⟨h1, h2⟩ => ⟨h1, hb.trans (h2.mono hb.size)⟩)
  have HKB := hid (fun W (h : Below w.heap.size w W) => (show Kst 0 W from hK1.below h))
  have HKR := hid (fun W (h : Below w.heap.size w W) => (show Kst 1 W from hK0.below h))
  have HWN := hid hn
  have HV := hid hv
  have HOL := hid ho
  obtain ⟨A, c, rfl⟩ := hv.shape
  have HEL : Hid (∀ j (h : j < L.length), ∃ b off, A = some ⟨b, off, none⟩ ∧ ∀ W, Below w.heap.size w W → ElG W b (off + j * 101) L[j]) := hid (fun j h => elG_at hv ho h)
  have HQU : Hid (∀ W, Calls Tryz.prog 6 #[.int .i64 n] W fun e w' => e = .returned (.int .i64 (quoS n : Int)) ∧ W = w') := hid (refQuorum_any n)
  obtain ⟨N, HN⟩ : ∃ q : Nat, Hid (L.length = q) := ⟨_, hid rfl⟩
  obtain ⟨qn, HQN⟩ : ∃ q : Nat, Hid (quoS n = q) := ⟨_, hid rfl⟩
  rw [HN.out] at HV ⊢
  rw [HQN.out] at HQU
  have HREF := hid (Below.refl w.heap.size w)
  obtain ⟨ZC, HZC⟩ : ∃ C : Array Value, Hid (ctc ctZ (.slice none 0 0) = C) := ⟨_, hid rfl⟩
  have HAC : Hid (∀ W, allocCt W = .ok (.value (.pointer (some ⟨W.heap.size, 0, none⟩))) (W.alloc (.cells ZC 40))) := hid (fun W => by rw [← HZC.out]; exact allocCt_eq W)
  have HZCS : Hid (ZC.size = 102) := hid (by rw [← HZC.out]; exact ctc_size _ ctZ_ok.att)
  clear hn hv ho hK1 hK0 _hd
  go_enter Tryz.func3, Tryz.ntmps3
  by_cases h1 : 220 < N
  · have h1' : (220 : Int) < (N : Int) := by omega
    clear h1
    go_wp2_with fail
    refine (HAW.out w HREF.out).mono ?_
    rintro e w1 ⟨rfl, hb1⟩
    have HB1 := hid hb1
    clear hb1
    go_wp2_with fail
    go_ret
    exact ⟨rfl, HB1.out⟩
  have HN220 : Hid (N ≤ 220) := hid (by omega)
  have h1' : ¬ (220 : Int) < (N : Int) := by omega
  by_cases h3 : qn = 0
  · subst h3
    have HNW := hid (gNew_no n w HWN.out HQN.out)
    clear h1
    go_wp2_with fail
    refine HNW.out.mono ?_
    rintro e w1 ⟨rfl, rfl⟩
    go_wp2_with fail
    refine (HQU.out w).mono ?_
    rintro e w1 ⟨rfl, rfl⟩
    go_wp2_with fail
    refine (HAW.out w HREF.out).mono ?_
    rintro e w1 ⟨rfl, hb1⟩
    have HB1 := hid hb1
    clear hb1
    go_wp2_with fail
    go_ret
    exact ⟨rfl, HB1.out⟩
  have HQ0 : Hid (quoS n ≠ 0) := hid (by rw [HQN.out]; exact h3)
  have h3' : ((qn : Int) == 0) = false := by simp [h3]
  have HNW := hid (gNew_yes n w HWN.out HQ0.out)
  clear h1 h3
  go_wp2_with fail
  refine HNW.out.mono ?_
  rintro e w1 ⟨b, m, rfl, hg1, hb1, _, hm1⟩
  have HG1 := hid hg1
  have HB1 := hid hb1
  have HM1 := hid hm1
  clear hg1 hb1 hm1
  go_wp2_with fail
  refine (HQU.out w1).mono ?_
  rintro e w2 ⟨rfl, rfl⟩
  have hac := allocGv_eq w1
  have hst := gv_var w1 n none 0 0
  go_upto_region 9 with (fail)
  clear h1' h3' hac hst
  have HAD0 : Hid (AdSt w (w1.alloc (.cells #[.int .i64 n, .slice none 0 0] 30)) b m w1.heap.size n none 0 [] []) := hid ⟨HG1.out.below ((Below.refl w1.heap.size w1).alloc (Nat.le_refl _) _), OkG.nil HQ0.out, OkG.nil HQ0.out, HM1.out, HB1.out.size, heap_alloc_new w1 _, Els.nil _, HB1.out.alloc HB1.out.size _⟩
  generalize (w1.alloc (.cells #[.int .i64 n, .slice none 0 0] 30)) = w2 at *
  generalize w1.heap.size = g at *
  clear HG1 HB1 HM1 HNW
  go_wp2_with fail
  go_loopw [10] (fun s10 wr => ∃ i : Nat, i ≤ N ∧ s10 = .int .i64 i ∧ Hid (∃ A c, AdSt w wr b m g n A c (resG n [] (L.take i)) (resG n [] (L.take i)))) (fun s10 _ => N - (intOf s10).toNat)
  case atStart => exact ⟨0, Nat.zero_le _, rfl, hid ⟨_, _, HAD0.out⟩⟩
  case round =>
    clear HAD0
    obtain ⟨i, hi, rfl, HREL⟩ := hrel
    obtain ⟨A2, c2, hrl⟩ := HREL.out
    have HL := hid hrl
    clear HREL hrl
    obtain ⟨wo, rfl⟩ : ∃ q : World, q = wr := ⟨wr, rfl⟩
    by_cases hlt : i < N
    · have hlt' : (i : Int) < (N : Int) := by omega
      have hiL : i < L.length := by rw [HN.out]; exact hlt
      obtain ⟨b1x, o1x, rfl, h1⟩ := HEL.out i hiL
      have H1 := hid h1
      have HXO := hid (HOL.out _ (List.getElem_mem hiL))
      have HRT := hid (resG_take (n := n) hiL)
      generalize L[i] = x at *
      obtain ⟨R, HR⟩ : ∃ q : List AtM, Hid (resG n [] (L.take i) = q) := ⟨_, hid rfl⟩
      rw [HR.out] at HL HRT
      have HHI := hid (show i < N from hlt)
      have HWI : Hid (wrap64 ((i : Int) + 1) = (i : Int) + 1) := hid (by have := HN220.out; unfold wrap64; omega)
      have HO2 := hid (HL.out.ok.add HXO.out)
      obtain ⟨X, HX⟩ : ∃ C : Array Value, Hid (atc x = C) := ⟨_, hid rfl⟩
      have HAD : Hid (∀ W, Below wo.heap.size wo W → Calls Tryz.prog 7 #[.agg #[.int .i64 n, .slice A2 R.length c2], .agg X] W fun e w' => ∃ y, e = .returned (.tuple #[.agg #[.int .i64 n, y], .int .i64 (addG n R x).2]) ∧ Els atl 101 w' y (addG n R x).1 ∧ (∀ y ∈ (addG n R x).1, y.Ok) ∧ Below W.heap.size W w') := hid (fun W h => by
        rw [← HX.out]
        exact refAdd16_any n _ R x W (HL.out.els.below h) HL.out.ok.ok HL.out.ok.len HXO.out (HKR.out _ (HL.out.bel.trans (h.mono HL.out.bel.size))))
      have HGA : Hid (∀ W, Gth W b m n R → Below w.heap.size w W → Calls Tryz.prog 8 #[.pointer (some ⟨b, 0, none⟩), .agg X] W fun e w' => e = .returned (.int .i64 (addG n R x).2) ∧ Gth w' b m n (addG n R x).1 ∧ W.grownBy w' (some m)) := hid (fun W h hb => by
        rw [← HX.out]
        exact gAdd_any h HL.out.ok x HXO.out (HKB.out _ hb))
      obtain ⟨R2, HR2⟩ : ∃ q : List AtM, Hid ((addG n R x).1 = q) := ⟨_, hid rfl⟩
      obtain ⟨er, HER⟩ : ∃ q : Int, Hid ((addG n R x).2 = q) := ⟨_, hid rfl⟩
      rw [HR2.out, HER.out] at HAD HGA
      rw [HR2.out] at HO2 HRT
      have HLD : Hid (∀ W, Below wo.heap.size wo W → loadGv (.pointer (some ⟨g, 0, none⟩)) W = .ok (.value (.agg #[.int .i64 n, .slice A2 R.length c2])) W ∧ loadAtt (.pointer (some ⟨b1x, o1x + i * 101, none⟩)) W = .ok (.value (.agg X)) W) := hid (fun W h => by
        refine ⟨loadGv_row (HL.out.below h).row rfl, ?_⟩
        rw [← HX.out]
        exact (H1.out W (HL.out.below h).bel).ld)
      clear h1 hiL hlt hi
      go_upto_region 12 with (fail)
      go_cut [11, 12] (fun s11 s12 wx => AdNew wo n R2 er s11 s12 wx)
      case first =>
        refine wp_region_held_drew (S := fun W => Below wo.heap.size wo W) (by kernel_rfl) ((Below.refl _ _).drew) (fun hHeld => ?_)
        have hbd : Below wo.heap.size wo wo.drew := (Below.refl _ _).drew
        refine' tk (i := 0) (v := _) rfl ?_ ?_
        rotate_left
        · (intro W hW; (try dsimp only at hW); have hq := HLD.out W hW; obtain ⟨q1, q2⟩ := hq; go_simp; first | done | with_reducible rfl)
        try simp only [lay]
        refine' tk (i := 1) (v := _) rfl ?_ ?_
        rotate_left
        · (intro W hW; (try dsimp only at hW); go_simp; first | done | with_reducible rfl)
        try simp only [lay]
        refine' tk (i := 2) (v := _) rfl ?_ ?_
        rotate_left
        · (intro W hW; (try dsimp only at hW); go_simp; first | done | with_reducible rfl)
        try simp only [lay]
        refine' tk (i := 3) (v := _) rfl ?_ ?_
        rotate_left
        · (intro W hW; (try dsimp only at hW); go_simp; first | done | with_reducible rfl)
        try simp only [lay]
        refine' tk (i := 4) (v := _) rfl ?_ ?_
        rotate_left
        · (intro W hW; (try dsimp only at hW); have hq := HLD.out W hW; obtain ⟨q1, q2⟩ := hq; go_simp; first | done | with_reducible rfl)
        try simp only [lay]
        refine pair_on (i := 5) (j := 9) rfl rfl (by kernel_rfl) (by rfl) (by rfl) (fun K hK => ?_) (fun K hK => ?_)
        · go_simp
          refine (HAD.out _ hbd).mono ?_
          rintro e w6 ⟨x6, rfl, hx6, _, hb6⟩
          have HB6 := hid (hbd.trans (hb6.mono hbd.size))
          obtain ⟨A6, c6, rfl⟩ := hx6.shape
          have HX6 := hid hx6
          refine hK.out _ _ (HB6.out) (fun hHeld => ?_)
          clear hK K hb6 hx6
          try simp only [lay]
          refine' tk (i := 6) (v := _) rfl ?_ ?_
          rotate_left
          · (intro W hW; (try dsimp only at hW); go_simp; first | done | with_reducible rfl)
          try simp only [lay]
          refine' tk (i := 7) (v := _) rfl ?_ ?_
          rotate_left
          · (intro W hW; (try dsimp only at hW); go_simp; first | done | with_reducible rfl)
          try simp only [lay]
          refine' tk (i := 8) (v := _) rfl ?_ ?_
          rotate_left
          · (intro W hW; (try dsimp only at hW); go_simp; first | done | with_reducible rfl)
          try simp only [lay]
          have hac := allocGv_eq w6
          have hst := gv_var w6 n A6 R2.length c6
          refine call_on (i := 9) rfl (by kernel_rfl) (by rfl) (fun K hK => ?_)
          go_simp
          refine hK.out _ _ (HB6.out.alloc HB6.out.size _) (fun hHeld => ?_)
          clear hK K
          try simp only [lay]
          refine call_on (i := 10) rfl (by kernel_rfl) (by rfl) (fun K hK => ?_)
          go_simp
          have HB8 := hid (HB6.out.alloc HB6.out.size (.cells #[.int .i64 n, .slice A6 R2.length c6] 30))
          have HR8 := hid (heap_alloc_new w6 (.cells #[.int .i64 n, .slice A6 R2.length c6] 30))
          have HX8 := hid (HX6.out.below ((Below.refl w6.heap.size w6).alloc (Nat.le_refl _) (.cells #[.int .i64 n, .slice A6 R2.length c6] 30)))
          have HC8 := hid (show AdNew wo n R2 er (.pointer (some ⟨w6.heap.size, 0, none⟩)) (.int .i64 er) (w6.alloc (.cells #[.int .i64 n, .slice A6 R2.length c6] 30)) from ⟨_, _, _, rfl, rfl, HR8.out, HX8.out, HB8.out⟩)
          refine hK.out _ _ (HB8.out) (fun hHeld => ?_)
          clear hK K hac hst
          try simp only [lay]
          refine' tk (i := 11) (v := _) rfl ?_ ?_
          rotate_left
          · (intro W hW; (try dsimp only at hW); go_simp; first | done | with_reducible rfl)
          try simp only [lay]
          refine wpAnyH_done (by kernel_rfl) ?_ _
          clear hHeld
          go_wp2_with fail
          go_meet
          case rel => exact HC8.out
        · have hac := allocGv_eq wo.drew
          go_simp
          have hbe := hbd.alloc hbd.size (.cells gvZ 30)
          have HRZ := hid (heap_alloc_new wo.drew (.cells gvZ 30))
          refine hK.out _ _ hbe (fun hHeld => ?_)
          clear hK K hac
          try simp only [lay]
          refine call_on (i := 5) rfl (by kernel_rfl) (by rfl) (fun K hK => ?_)
          go_simp
          refine (HAD.out _ hbe).mono ?_
          rintro e w6 ⟨x6, rfl, hx6, _, hb6⟩
          have HB6 := hid (hbe.trans (hb6.mono hbe.size))
          have HRY := hid ((hb6.block _ (lt_of_block HRZ.out)).trans HRZ.out)
          obtain ⟨A6, c6, rfl⟩ := hx6.shape
          have HX6 := hid hx6
          refine hK.out _ _ (HB6.out) (fun hHeld => ?_)
          clear hK K hb6 hx6
          try simp only [lay]
          refine' tk (i := 6) (v := _) rfl ?_ ?_
          rotate_left
          · (intro W hW; (try dsimp only at hW); go_simp; first | done | with_reducible rfl)
          try simp only [lay]
          refine' tk (i := 7) (v := _) rfl ?_ ?_
          rotate_left
          · (intro W hW; (try dsimp only at hW); go_simp; first | done | with_reducible rfl)
          try simp only [lay]
          refine' tk (i := 8) (v := _) rfl ?_ ?_
          rotate_left
          · (intro W hW; (try dsimp only at hW); go_simp; first | done | with_reducible rfl)
          try simp only [lay]
          have hst : storeGv (.pointer (some ⟨wo.heap.size, 0, none⟩)) (.agg #[.int .i64 n, .slice A6 R2.length c6]) w6 = .ok .skip (setAtt w6 wo.heap.size #[.int .i64 n, .slice A6 R2.length c6]) := storeGv_eq HRY.out rfl rfl (gv_one ..)
          refine call_on (i := 10) rfl (by kernel_rfl) (by rfl) (fun K hK => ?_)
          go_simp
          have HB8 := hid (setAtt_below (C := #[.int .i64 n, .slice A6 R2.length c6]) HB6.out (Nat.le_refl _))
          have HR8 := hid (setAtt_same (C := #[.int .i64 n, .slice A6 R2.length c6]) HRY.out)
          have HX8 := hid (els_setGv (C := #[.int .i64 n, .slice A6 R2.length c6]) HX6.out HO2.out.ok HRY.out rfl)
          have HC8 := hid (show AdNew wo n R2 er (.pointer (some ⟨wo.heap.size, 0, none⟩)) (.int .i64 er) (setAtt w6 wo.heap.size #[.int .i64 n, .slice A6 R2.length c6]) from ⟨_, _, _, rfl, rfl, HR8.out, HX8.out, HB8.out⟩)
          refine hK.out _ _ (HB8.out) (fun hHeld => ?_)
          clear hK K hst
          try simp only [lay]
          refine' tk (i := 11) (v := _) rfl ?_ ?_
          rotate_left
          · (intro W hW; (try dsimp only at hW); go_simp; first | done | with_reducible rfl)
          try simp only [lay]
          refine wpAnyH_done (by kernel_rfl) ?_ _
          clear hHeld
          go_wp2_with fail
          go_meet
          case rel => exact HC8.out
      case rest =>
        obtain ⟨g11, A3, c3, rfl, rfl, hr11, he11, hb11⟩ := hcut
        obtain ⟨wm, rfl⟩ : ∃ q : World, q = wc := ⟨wc, rfl⟩
        have HL3 := hid (HL.out.below hb11)
        have HE3 := hid he11
        have HP := hid (HL3.out.put HE3.out HO2.out)
        have l11 := loadGv_row hr11 rfl
        have hst := storeGv_eq (C := #[.int .i64 n, .slice A3 R2.length c3]) HL3.out.row rfl rfl (gv_one ..)
        clear hr11 he11 hb11
        go_upto_region 14 with (fail)
        clear l11 hst
        generalize (setAtt wm g #[.int .i64 n, .slice A3 R2.length c3]) = w4 at *
        have l1 : loadAtt (.pointer (some ⟨b1x, o1x + i * 101, none⟩)) w4 = .ok (.value (.agg X)) w4 := by
          rw [← HX.out]
          exact (H1.out w4 HP.out.bel).ld
        have HGX := hid (HGA.out w4 HP.out.gt HP.out.bel)
        go_wp2_with fail
        refine HGX.out.mono ?_
        rintro e w5 ⟨rfl, hg5, hw5⟩
        have HL5 := hid (HP.out.turn hg5 HO2.out hw5)
        have hee : (er != er) = false := by simp
        clear hg5 hw5 l1 HGX HP HL3 HE3
        go_upto_region 16 with (fail)
        clear hee
        obtain ⟨xk, HXK⟩ : ∃ q : Int, Hid (x.ki = q) := ⟨_, hid rfl⟩
        obtain ⟨xv, HXV⟩ : ∃ q : Int, Hid (x.vi = q) := ⟨_, hid rfl⟩
        have HE : Hid (∀ W, Below w.heap.size w W → W.cell? ⟨b1x, o1x + i * 101 + 1, none⟩ = some (.int .i64 xk) ∧ W.cell? ⟨b1x, o1x + i * 101 + 2, none⟩ = some (.int .i64 xv)) := hid (fun W h => by
          obtain ⟨_, e2, e3, _⟩ := H1.out W h
          rw [HXK.out] at e2
          rw [HXV.out] at e3
          exact ⟨e2, e3⟩)
        obtain ⟨cg, HCG⟩ : ∃ q : CtM × Bool, Hid (certG n R2 xk xv = q) := ⟨_, hid rfl⟩
        have HC1 : Hid (∀ W, Below w5.heap.size w5 W → Calls Tryz.prog 9 #[.pointer (some ⟨b, 0, none⟩), .int .i64 xk, .int .i64 xv] W fun e w' => ∃ s, e = .returned (.tuple #[.agg (ctc cg.1 s), .bool cg.2]) ∧ cg.1.Ok ∧ OwnE scl 33 66 W.heap.size w' s cg.1.sg ∧ Below W.heap.size W w') := hid (fun W h => by
          rw [← HCG.out]
          have ho := HL5.out.below h
          exact gCert_new ho.gt ho.ok xk xv (HKB.out _ ho.bel))
        have HC2 : Hid (∀ W, Below w5.heap.size w5 W → Calls Tryz.prog 10 #[.agg #[.int .i64 n, .slice A3 R2.length c3], .int .i64 xk, .int .i64 xv] W fun e w' => ∃ s, e = .returned (.tuple #[.agg (ctc cg.1 s), .bool cg.2]) ∧ cg.1.Ok ∧ OwnE scl 33 66 W.heap.size w' s cg.1.sg ∧ Below W.heap.size W w') := hid (fun W h => by
          rw [← HCG.out]
          have ho := HL5.out.below h
          exact refCert16_new n _ R2 xk xv W ho.els ho.ok.ok (Nat.le_trans ho.ok.len (by decide)) (HKR.out _ ho.bel))
        have HNE : Hid (∀ W, Below w5.heap.size w5 W → Calls Tryz.prog 13 #[.pointer (some ⟨b, 0, none⟩), .int .i64 xv] W fun e w' => ∃ x, e = .returned x ∧ OwnE atl 101 36 W.heap.size w' x (thoseG R2 1 xv) ∧ Below W.heap.size W w') := hid (fun W h => by
          have ho := HL5.out.below h
          exact gNews_any ho.gt ho.ok xv)
        have HTH : Hid (∀ W, Below w5.heap.size w5 W → Calls Tryz.prog 14 #[.agg #[.int .i64 n, .slice A3 R2.length c3], .int .i64 1, .int .i64 xv] W fun e w' => ∃ x, e = .returned x ∧ OwnE atl 101 36 W.heap.size w' x (thoseG R2 1 xv) ∧ Below W.heap.size W w') := hid (fun W h => by
          have ho := HL5.out.below h
          exact refThose16_any n _ R2 1 xv W ho.els ho.ok.ok (Nat.le_trans ho.ok.len (by decide)))
        have HBX : Hid (∀ W, Below w5.heap.size w5 W → Below w.heap.size w W) := hid (fun W h => (HL5.out.below h).bel)
        have HLG : Hid (∀ W, Below w5.heap.size w5 W → loadGv (.pointer (some ⟨g, 0, none⟩)) W = .ok (.value (.agg #[.int .i64 n, .slice A3 R2.length c3])) W) := hid (fun W h => loadGv_row (HL5.out.below h).row rfl)
        have HTO : Hid (∀ a ∈ thoseG R2 1 xv, a.Ok) := hid (fun a ha => HO2.out.ok a ((List.mem_filter.1 ha).1))
        obtain ⟨TH, HTHE⟩ : ∃ q : List AtM, Hid (thoseG R2 1 xv = q) := ⟨_, hid rfl⟩
        rw [HTHE.out] at HNE HTH HTO
        clear HXK HXV
        go_cut [13, 14] (fun s13 s14 wx => CeAt w5 cg s13 s14 wx)
        case first =>
          refine wp_region_held_drew (S := fun W => Below w5.heap.size w5 W) (by kernel_rfl) ((Below.refl _ _).drew) (fun hHeld => ?_)
          refine' tk (i := 0) (v := _) rfl ?_ ?_
          rotate_left
          · (intro W hW; (try dsimp only at hW); go_simp; first | done | with_reducible rfl)
          try simp only [lay]
          refine' tk (i := 1) (v := _) rfl ?_ ?_
          rotate_left
          · (intro W hW; (try dsimp only at hW); go_simp; first | done | with_reducible rfl)
          try simp only [lay]
          refine' tk (i := 2) (v := _) rfl ?_ ?_
          rotate_left
          · (intro W hW; (try dsimp only at hW); go_simp; first | done | with_reducible rfl)
          try simp only [lay]
          refine' tk (i := 3) (v := _) rfl ?_ ?_
          rotate_left
          · (intro W hW; (try dsimp only at hW); go_simp; first | done | with_reducible rfl)
          try simp only [lay]
          refine' tk (i := 4) (v := _) rfl ?_ ?_
          rotate_left
          · (intro W hW; (try dsimp only at hW); go_simp; first | done | with_reducible rfl)
          try simp only [lay]
          refine' tk (i := 5) (v := _) rfl ?_ ?_
          rotate_left
          · (intro W hW; (try dsimp only at hW); have hq := HE.out W (HBX.out W hW); obtain ⟨e2, e3⟩ := hq; go_simp; first | done | with_reducible rfl)
          try simp only [lay]
          refine' tk (i := 6) (v := _) rfl ?_ ?_
          rotate_left
          · (intro W hW; (try dsimp only at hW); go_simp; first | done | with_reducible rfl)
          try simp only [lay]
          refine' tk (i := 7) (v := _) rfl ?_ ?_
          rotate_left
          · (intro W hW; (try dsimp only at hW); go_simp; first | done | with_reducible rfl)
          try simp only [lay]
          refine' tk (i := 8) (v := _) rfl ?_ ?_
          rotate_left
          · (intro W hW; (try dsimp only at hW); go_simp; first | done | with_reducible rfl)
          try simp only [lay]
          refine' tk (i := 9) (v := _) rfl ?_ ?_
          rotate_left
          · (intro W hW; (try dsimp only at hW); go_simp; first | done | with_reducible rfl)
          try simp only [lay]
          refine' tk (i := 10) (v := _) rfl ?_ ?_
          rotate_left
          · (intro W hW; (try dsimp only at hW); have hq := HE.out W (HBX.out W hW); obtain ⟨e2, e3⟩ := hq; go_simp; first | done | with_reducible rfl)
          try simp only [lay]
          have hbd : Below w5.heap.size w5 w5.drew := (Below.refl _ _).drew
          refine pair_on (i := 11) (j := 15) rfl rfl (by kernel_rfl) (by rfl) (by rfl) (fun K hK => ?_) (fun K hK => ?_)
          · go_simp
            refine (HC1.out _ (hbd)).mono ?_
            rintro e w6 ⟨s6, rfl, hk6, ho6, hb6⟩
            have HB6 := hid (hbd.trans (hb6.mono hbd.size))
            have HO6 := hid ho6
            have HK6 := hid hk6
            obtain ⟨hy1, hy2⟩ := ctc_own hk6 ho6
            refine hK.out _ _ (HB6.out) (fun hHeld => ?_)
            clear hK K hb6 hk6 ho6
            try simp only [lay]
            refine' tk (i := 12) (v := _) rfl ?_ ?_
            rotate_left
            · (intro W hW; (try dsimp only at hW); go_simp; first | done | with_reducible rfl)
            try simp only [lay]
            refine' tk (i := 13) (v := _) rfl ?_ ?_
            rotate_left
            · (intro W hW; (try dsimp only at hW); go_simp; first | done | with_reducible rfl)
            try simp only [lay]
            refine' tk (i := 14) (v := _) rfl ?_ ?_
            rotate_left
            · (intro W hW; (try dsimp only at hW); go_simp; first | done | with_reducible rfl)
            try simp only [lay]
            have hac := HAC.out w6
            have hst := ct_var w6 HZCS.out hy1 hy2
            refine call_on (i := 15) rfl (by kernel_rfl) (by rfl) (fun K hK => ?_)
            go_simp
            refine hK.out _ _ (HB6.out.alloc HB6.out.size _) (fun hHeld => ?_)
            clear hK K
            try simp only [lay]
            refine call_on (i := 16) rfl (by kernel_rfl) (by rfl) (fun K hK => ?_)
            go_simp
            have HB8 := hid (HB6.out.alloc HB6.out.size (.cells (ctc cg.1 s6) 40))
            have HC8 := hid (ceAt_mk HK6.out (HO6.out.below ((Below.refl w6.heap.size w6).alloc (Nat.le_refl _) (.cells (ctc cg.1 s6) 40))) (heap_alloc_new w6 (.cells (ctc cg.1 s6) 40)) HB8.out)
            refine hK.out _ _ (HB8.out) (fun hHeld => ?_)
            clear hK K hac hst
            try simp only [lay]
            refine' tk (i := 17) (v := _) rfl ?_ ?_
            rotate_left
            · (intro W hW; (try dsimp only at hW); go_simp; first | done | with_reducible rfl)
            try simp only [lay]
            refine wpAnyH_done (by kernel_rfl) ?_ _
            clear hHeld
            go_wp2_with fail
            go_meet
            case rel => exact HC8.out
          · have hac := HAC.out w5.drew
            go_simp
            have hbe := hbd.alloc hbd.size (.cells ZC 40)
            have HRZ := hid (heap_alloc_new w5.drew (.cells ZC 40))
            refine hK.out _ _ hbe (fun hHeld => ?_)
            clear hK K hac
            try simp only [lay]
            refine call_on (i := 11) rfl (by kernel_rfl) (by rfl) (fun K hK => ?_)
            go_simp
            refine (HC1.out _ (hbe)).mono ?_
            rintro e w6 ⟨s6, rfl, hk6, ho6, hb6⟩
            have HB6 := hid (hbe.trans (hb6.mono hbe.size))
            have HO6 := hid ho6
            have HK6 := hid hk6
            have HR6 := hid ((hb6.block _ (lt_of_block HRZ.out)).trans HRZ.out)
            obtain ⟨hy1, hy2⟩ := ctc_own hk6 ho6
            refine hK.out _ _ (HB6.out) (fun hHeld => ?_)
            clear hK K hb6 hk6 ho6
            try simp only [lay]
            refine' tk (i := 12) (v := _) rfl ?_ ?_
            rotate_left
            · (intro W hW; (try dsimp only at hW); go_simp; first | done | with_reducible rfl)
            try simp only [lay]
            refine' tk (i := 13) (v := _) rfl ?_ ?_
            rotate_left
            · (intro W hW; (try dsimp only at hW); go_simp; first | done | with_reducible rfl)
            try simp only [lay]
            refine' tk (i := 14) (v := _) rfl ?_ ?_
            rotate_left
            · (intro W hW; (try dsimp only at hW); go_simp; first | done | with_reducible rfl)
            try simp only [lay]
            have hst : storeCt (.pointer (some ⟨w5.heap.size, 0, none⟩)) (.agg (ctc cg.1 s6)) w6 = .ok .skip (setCt w6 w5.heap.size (ctc cg.1 s6)) := storeCt_eq HR6.out HZCS.out hy1 hy2
            refine call_on (i := 16) rfl (by kernel_rfl) (by rfl) (fun K hK => ?_)
            go_simp
            have HB8 := hid (setCt_below (C := ctc cg.1 s6) HB6.out (Nat.le_refl _))
            have HC8 := hid (ceAt_mk HK6.out (HO6.out.row (g := w5.drew.heap.size) (C := ctc cg.1 s6) (lt_of_block HRZ.out)) (setCt_same (C := ctc cg.1 s6) HR6.out) HB8.out)
            refine hK.out _ _ (HB8.out) (fun hHeld => ?_)
            clear hK K hst
            try simp only [lay]
            refine' tk (i := 17) (v := _) rfl ?_ ?_
            rotate_left
            · (intro W hW; (try dsimp only at hW); go_simp; first | done | with_reducible rfl)
            try simp only [lay]
            refine wpAnyH_done (by kernel_rfl) ?_ _
            clear hHeld
            go_wp2_with fail
            go_meet
            case rel => exact HC8.out
        case rest =>
          obtain ⟨p13, C13, rfl, rfl, hr13, hs13, hv13, hb13⟩ := hcut
          obtain ⟨wq, rfl⟩ : ∃ q : World, q = wc := ⟨wc, rfl⟩
          have HR13 := hid hr13
          have HS13 := hid hs13
          have HV13 := hid hv13
          have HB13 := hid hb13
          clear hr13 hs13 hv13 hb13
          go_upto_region 17 with (fail)
          go_cut [15, 16] (fun s15 s16 wx => CeAt wq cg s15 s16 wx)
          case first =>
            refine wp_region_held_drew (S := fun W => Below wq.heap.size wq W) (by kernel_rfl) ((Below.refl _ _).drew) (fun hHeld => ?_)
            refine' tk (i := 0) (v := _) rfl ?_ ?_
            rotate_left
            · (intro W hW; (try dsimp only at hW); have q1 := HLG.out W (HB13.out.trans (hW.mono HB13.out.size)); go_simp; first | done | with_reducible rfl)
            try simp only [lay]
            refine' tk (i := 1) (v := _) rfl ?_ ?_
            rotate_left
            · (intro W hW; (try dsimp only at hW); go_simp; first | done | with_reducible rfl)
            try simp only [lay]
            refine' tk (i := 2) (v := _) rfl ?_ ?_
            rotate_left
            · (intro W hW; (try dsimp only at hW); go_simp; first | done | with_reducible rfl)
            try simp only [lay]
            refine' tk (i := 3) (v := _) rfl ?_ ?_
            rotate_left
            · (intro W hW; (try dsimp only at hW); go_simp; first | done | with_reducible rfl)
            try simp only [lay]
            refine' tk (i := 4) (v := _) rfl ?_ ?_
            rotate_left
            · (intro W hW; (try dsimp only at hW); go_simp; first | done | with_reducible rfl)
            try simp only [lay]
            refine' tk (i := 5) (v := _) rfl ?_ ?_
            rotate_left
            · (intro W hW; (try dsimp only at hW); have hq := HE.out W (HBX.out W (HB13.out.trans (hW.mono HB13.out.size))); obtain ⟨e2, e3⟩ := hq; go_simp; first | done | with_reducible rfl)
            try simp only [lay]
            refine' tk (i := 6) (v := _) rfl ?_ ?_
            rotate_left
            · (intro W hW; (try dsimp only at hW); go_simp; first | done | with_reducible rfl)
            try simp only [lay]
            refine' tk (i := 7) (v := _) rfl ?_ ?_
            rotate_left
            · (intro W hW; (try dsimp only at hW); go_simp; first | done | with_reducible rfl)
            try simp only [lay]
            refine' tk (i := 8) (v := _) rfl ?_ ?_
            rotate_left
            · (intro W hW; (try dsimp only at hW); go_simp; first | done | with_reducible rfl)
            try simp only [lay]
            refine' tk (i := 9) (v := _) rfl ?_ ?_
            rotate_left
            · (intro W hW; (try dsimp only at hW); go_simp; first | done | with_reducible rfl)
            try simp only [lay]
            refine' tk (i := 10) (v := _) rfl ?_ ?_
            rotate_left
            · (intro W hW; (try dsimp only at hW); have hq := HE.out W (HBX.out W (HB13.out.trans (hW.mono HB13.out.size))); obtain ⟨e2, e3⟩ := hq; go_simp; first | done | with_reducible rfl)
            try simp only [lay]
            have hbd : Below wq.heap.size wq wq.drew := (Below.refl _ _).drew
            refine pair_on (i := 11) (j := 15) rfl rfl (by kernel_rfl) (by rfl) (by rfl) (fun K hK => ?_) (fun K hK => ?_)
            · go_simp
              refine (HC2.out _ (HB13.out.trans (Below.mono (hbd) HB13.out.size))).mono ?_
              rintro e w6 ⟨s6, rfl, hk6, ho6, hb6⟩
              have HB6 := hid (hbd.trans (hb6.mono hbd.size))
              have HO6 := hid ho6
              have HK6 := hid hk6
              obtain ⟨hy1, hy2⟩ := ctc_own hk6 ho6
              refine hK.out _ _ (HB6.out) (fun hHeld => ?_)
              clear hK K hb6 hk6 ho6
              try simp only [lay]
              refine' tk (i := 12) (v := _) rfl ?_ ?_
              rotate_left
              · (intro W hW; (try dsimp only at hW); go_simp; first | done | with_reducible rfl)
              try simp only [lay]
              refine' tk (i := 13) (v := _) rfl ?_ ?_
              rotate_left
              · (intro W hW; (try dsimp only at hW); go_simp; first | done | with_reducible rfl)
              try simp only [lay]
              refine' tk (i := 14) (v := _) rfl ?_ ?_
              rotate_left
              · (intro W hW; (try dsimp only at hW); go_simp; first | done | with_reducible rfl)
              try simp only [lay]
              have hac := HAC.out w6
              have hst := ct_var w6 HZCS.out hy1 hy2
              refine call_on (i := 15) rfl (by kernel_rfl) (by rfl) (fun K hK => ?_)
              go_simp
              refine hK.out _ _ (HB6.out.alloc HB6.out.size _) (fun hHeld => ?_)
              clear hK K
              try simp only [lay]
              refine call_on (i := 16) rfl (by kernel_rfl) (by rfl) (fun K hK => ?_)
              go_simp
              have HB8 := hid (HB6.out.alloc HB6.out.size (.cells (ctc cg.1 s6) 40))
              have HC8 := hid (ceAt_mk HK6.out (HO6.out.below ((Below.refl w6.heap.size w6).alloc (Nat.le_refl _) (.cells (ctc cg.1 s6) 40))) (heap_alloc_new w6 (.cells (ctc cg.1 s6) 40)) HB8.out)
              refine hK.out _ _ (HB8.out) (fun hHeld => ?_)
              clear hK K hac hst
              try simp only [lay]
              refine' tk (i := 17) (v := _) rfl ?_ ?_
              rotate_left
              · (intro W hW; (try dsimp only at hW); go_simp; first | done | with_reducible rfl)
              try simp only [lay]
              refine wpAnyH_done (by kernel_rfl) ?_ _
              clear hHeld
              go_wp2_with fail
              go_meet
              case rel => exact HC8.out
            · have hac := HAC.out wq.drew
              go_simp
              have hbe := hbd.alloc hbd.size (.cells ZC 40)
              have HRZ := hid (heap_alloc_new wq.drew (.cells ZC 40))
              refine hK.out _ _ hbe (fun hHeld => ?_)
              clear hK K hac
              try simp only [lay]
              refine call_on (i := 11) rfl (by kernel_rfl) (by rfl) (fun K hK => ?_)
              go_simp
              refine (HC2.out _ (HB13.out.trans (Below.mono (hbe) HB13.out.size))).mono ?_
              rintro e w6 ⟨s6, rfl, hk6, ho6, hb6⟩
              have HB6 := hid (hbe.trans (hb6.mono hbe.size))
              have HO6 := hid ho6
              have HK6 := hid hk6
              have HR6 := hid ((hb6.block _ (lt_of_block HRZ.out)).trans HRZ.out)
              obtain ⟨hy1, hy2⟩ := ctc_own hk6 ho6
              refine hK.out _ _ (HB6.out) (fun hHeld => ?_)
              clear hK K hb6 hk6 ho6
              try simp only [lay]
              refine' tk (i := 12) (v := _) rfl ?_ ?_
              rotate_left
              · (intro W hW; (try dsimp only at hW); go_simp; first | done | with_reducible rfl)
              try simp only [lay]
              refine' tk (i := 13) (v := _) rfl ?_ ?_
              rotate_left
              · (intro W hW; (try dsimp only at hW); go_simp; first | done | with_reducible rfl)
              try simp only [lay]
              refine' tk (i := 14) (v := _) rfl ?_ ?_
              rotate_left
              · (intro W hW; (try dsimp only at hW); go_simp; first | done | with_reducible rfl)
              try simp only [lay]
              have hst : storeCt (.pointer (some ⟨wq.heap.size, 0, none⟩)) (.agg (ctc cg.1 s6)) w6 = .ok .skip (setCt w6 wq.heap.size (ctc cg.1 s6)) := storeCt_eq HR6.out HZCS.out hy1 hy2
              refine call_on (i := 16) rfl (by kernel_rfl) (by rfl) (fun K hK => ?_)
              go_simp
              have HB8 := hid (setCt_below (C := ctc cg.1 s6) HB6.out (Nat.le_refl _))
              have HC8 := hid (ceAt_mk HK6.out (HO6.out.row (g := wq.drew.heap.size) (C := ctc cg.1 s6) (lt_of_block HRZ.out)) (setCt_same (C := ctc cg.1 s6) HR6.out) HB8.out)
              refine hK.out _ _ (HB8.out) (fun hHeld => ?_)
              clear hK K hst
              try simp only [lay]
              refine' tk (i := 17) (v := _) rfl ?_ ?_
              rotate_left
              · (intro W hW; (try dsimp only at hW); go_simp; first | done | with_reducible rfl)
              try simp only [lay]
              refine wpAnyH_done (by kernel_rfl) ?_ _
              clear hHeld
              go_wp2_with fail
              go_meet
              case rel => exact HC8.out
          case rest =>
            obtain ⟨p15, C15, rfl, rfl, hr15, hs15, hv15, hb15⟩ := hcut
            obtain ⟨w7, rfl⟩ : ∃ q : World, q = wc := ⟨wc, rfl⟩
            have HB15 := hid (HB13.out.trans (hb15.mono HB13.out.size))
            have HR13B := hid ((hb15.block _ (lt_of_block HR13.out)).trans HR13.out)
            have HV13B := hid (HV13.out.below hb15)
            have HR15 := hid hr15
            have HS15 := hid hs15
            have HV15 := hid hv15
            have HB7 : Hid (∀ W, Below w7.heap.size w7 W → Below w5.heap.size w5 W) := hid (fun W h => HB15.out.trans (h.mono HB15.out.size))
            have HSM : Hid (∀ W, Below w7.heap.size w7 W → Calls Tryz.prog 11 #[.agg C13, .agg C15] W fun e w' => e = .returned (.bool true) ∧ Below W.heap.size W w') := hid (fun W h => by
              have := refSame9_any _ _ _ _ _ (HV13B.out.below h) (HV15.out.below h)
              rwa [show decide (cg.1 = cg.1) = true from decide_eq_true rfl] at this)
            have HLQ : Hid (∀ W, Below w7.heap.size w7 W → loadCt (.pointer (some ⟨p13, 0, none⟩)) W = .ok (.value (.agg C13)) W ∧ loadCt (.pointer (some ⟨p15, 0, none⟩)) W = .ok (.value (.agg C15)) W ∧ loadGv (.pointer (some ⟨g, 0, none⟩)) W = .ok (.value (.agg #[.int .i64 n, .slice A3 R2.length c3])) W ∧ W.cell? ⟨b1x, o1x + i * 101 + 2, none⟩ = some (.int .i64 xv)) := hid (fun W h => ⟨loadCt_row ((h.block _ (lt_of_block HR13B.out)).trans HR13B.out) HS13.out, loadCt_row ((h.block _ (lt_of_block HR15.out)).trans HR15.out) HS15.out, HLG.out W (HB7.out W h), (HE.out W (HBX.out W (HB7.out W h))).2⟩)
            have hbb : (cg.2 != cg.2) = false := by simp
            clear hr15 hs15 hv15 hb15
            go_upto_region 18 with (fail)
            refine wp_region_held_drew (S := fun W => Below w7.heap.size w7 W) (by kernel_rfl) ((Below.refl _ _).drew) (fun hHeld => ?_)
            have hbd : Below w7.heap.size w7 w7.drew := (Below.refl _ _).drew
            refine' tk (i := 0) (v := _) rfl ?_ ?_
            rotate_left
            · (intro W hW; (try dsimp only at hW); go_simp; first | done | with_reducible rfl)
            try simp only [lay]
            refine' tk (i := 1) (v := _) rfl ?_ ?_
            rotate_left
            · (intro W hW; (try dsimp only at hW); go_simp; first | done | with_reducible rfl)
            try simp only [lay]
            refine' tk (i := 2) (v := _) rfl ?_ ?_
            rotate_left
            · (intro W hW; (try dsimp only at hW); go_simp; first | done | with_reducible rfl)
            try simp only [lay]
            refine' tk (i := 3) (v := _) rfl ?_ ?_
            rotate_left
            · (intro W hW; (try dsimp only at hW); go_simp; first | done | with_reducible rfl)
            try simp only [lay]
            refine' tk (i := 4) (v := _) rfl ?_ ?_
            rotate_left
            · (intro W hW; (try dsimp only at hW); have hq := HLQ.out W hW; obtain ⟨q1, q2, q3, q4⟩ := hq; go_simp; first | done | with_reducible rfl)
            try simp only [lay]
            refine' tk (i := 5) (v := _) rfl ?_ ?_
            rotate_left
            · (intro W hW; (try dsimp only at hW); have hq := HLQ.out W hW; obtain ⟨q1, q2, q3, q4⟩ := hq; go_simp; first | done | with_reducible rfl)
            try simp only [lay]
            refine call_on (i := 6) rfl (by kernel_rfl) (by rfl) (fun K hK => ?_)
            go_simp
            refine (HSM.out _ hbd).mono ?_
            rintro e w8 ⟨rfl, hb8⟩
            have HB8 := hid (hbd.trans (hb8.mono hbd.size))
            clear hb8
            refine hK.out _ _ (HB8.out) (fun hHeld => ?_)
            clear hK K
            try simp only [lay]
            refine' tk (i := 7) (v := _) rfl ?_ ?_
            rotate_left
            · (intro W hW; (try dsimp only at hW); go_simp; first | done | with_reducible rfl)
            try simp only [lay]
            refine' tk (i := 8) (v := _) rfl ?_ ?_
            rotate_left
            · (intro W hW; (try dsimp only at hW); go_simp; first | done | with_reducible rfl)
            try simp only [lay]
            refine' tk (i := 9) (v := _) rfl ?_ ?_
            rotate_left
            · (intro W hW; (try dsimp only at hW); go_simp; first | done | with_reducible rfl)
            try simp only [lay]
            refine' tk (i := 10) (v := _) rfl ?_ ?_
            rotate_left
            · (intro W hW; (try dsimp only at hW); go_simp; first | done | with_reducible rfl)
            try simp only [lay]
            refine' tk (i := 11) (v := _) rfl ?_ ?_
            rotate_left
            · (intro W hW; (try dsimp only at hW); go_simp; first | done | with_reducible rfl)
            try simp only [lay]
            refine' tk (i := 12) (v := _) rfl ?_ ?_
            rotate_left
            · (intro W hW; (try dsimp only at hW); go_simp; first | done | with_reducible rfl)
            try simp only [lay]
            refine' tk (i := 13) (v := _) rfl ?_ ?_
            rotate_left
            · (intro W hW; (try dsimp only at hW); go_simp; first | done | with_reducible rfl)
            try simp only [lay]
            refine' tk (i := 14) (v := _) rfl ?_ ?_
            rotate_left
            · (intro W hW; (try dsimp only at hW); go_simp; first | done | with_reducible rfl)
            try simp only [lay]
            refine' tk (i := 15) (v := _) rfl ?_ ?_
            rotate_left
            · (intro W hW; (try dsimp only at hW); have hq := HLQ.out W hW; obtain ⟨q1, q2, q3, q4⟩ := hq; go_simp; first | done | with_reducible rfl)
            try simp only [lay]
            refine' tk (i := 17) (v := _) rfl ?_ ?_
            rotate_left
            · (intro W hW; (try dsimp only at hW); have hq := HLQ.out W hW; obtain ⟨q1, q2, q3, q4⟩ := hq; go_simp; first | done | with_reducible rfl)
            try simp only [lay]
            refine' tk (i := 18) (v := _) rfl ?_ ?_
            rotate_left
            · (intro W hW; (try dsimp only at hW); go_simp; first | done | with_reducible rfl)
            try simp only [lay]
            refine' tk (i := 19) (v := _) rfl ?_ ?_
            rotate_left
            · (intro W hW; (try dsimp only at hW); go_simp; first | done | with_reducible rfl)
            try simp only [lay]
            refine' tk (i := 20) (v := _) rfl ?_ ?_
            rotate_left
            · (intro W hW; (try dsimp only at hW); go_simp; first | done | with_reducible rfl)
            try simp only [lay]
            refine' tk (i := 21) (v := _) rfl ?_ ?_
            rotate_left
            · (intro W hW; (try dsimp only at hW); go_simp; first | done | with_reducible rfl)
            try simp only [lay]
            refine' tk (i := 22) (v := _) rfl ?_ ?_
            rotate_left
            · (intro W hW; (try dsimp only at hW); have hq := HLQ.out W hW; obtain ⟨q1, q2, q3, q4⟩ := hq; go_simp; first | done | with_reducible rfl)
            try simp only [lay]
            refine call_on (i := 16) rfl (by kernel_rfl) (by rfl) (fun K hK => ?_)
            go_simp
            refine (HNE.out _ (HB7.out _ HB8.out)).mono ?_
            rintro e w9 ⟨x9, rfl, ho9, hb9⟩
            have HB8X := hid (HB8.out.trans (hb9.mono HB8.out.size))
            obtain ⟨A9, c9, rfl⟩ := ho9.shape
            have HE9 := hid (ho9.els eltAt HTO.out)
            clear ho9 hb9
            refine hK.out _ _ (HB8X.out) (fun hHeld => ?_)
            clear hK K
            try simp only [lay]
            refine call_on (i := 23) rfl (by kernel_rfl) (by rfl) (fun K hK => ?_)
            go_simp
            refine (HTH.out _ (HB7.out _ HB8X.out)).mono ?_
            rintro e w10 ⟨x10, rfl, ho10, hb10⟩
            have HB8Y := hid (HB8X.out.trans (hb10.mono HB8X.out.size))
            obtain ⟨A10, c10, rfl⟩ := ho10.shape
            have HSX := hid (refSame16_any _ _ TH TH w10 (HE9.out.below hb10) (ho10.els eltAt HTO.out) HTO.out HTO.out)
            rw [show decide (TH = TH) = true from decide_eq_true rfl] at HSX
            clear ho10 hb10
            refine hK.out _ _ (HB8Y.out) (fun hHeld => ?_)
            clear hK K
            try simp only [lay]
            refine call_on (i := 24) rfl (by kernel_rfl) (by rfl) (fun K hK => ?_)
            go_simp
            refine HSX.out.mono ?_
            rintro e w11 ⟨rfl, hb11⟩
            have HB9 := hid (HB8Y.out.trans (hb11.mono HB8Y.out.size))
            clear hb11
            refine hK.out _ _ (HB9.out) (fun hHeld => ?_)
            clear hK K
            try simp only [lay]
            refine' tk (i := 25) (v := _) rfl ?_ ?_
            rotate_left
            · (intro W hW; (try dsimp only at hW); go_simp; first | done | with_reducible rfl)
            try simp only [lay]
            refine' tk (i := 26) (v := _) rfl ?_ ?_
            rotate_left
            · (intro W hW; (try dsimp only at hW); go_simp; first | done | with_reducible rfl)
            try simp only [lay]
            refine wpAnyH_done (by kernel_rfl) ?_ _
            clear hHeld hbb
            have HL9 := hid (HL5.out.below (HB7.out _ HB9.out))
            have hwi := HWI.out
            go_wp2_with fail
            go_roundw
            case rel => exact ⟨i + 1, HHI.out, by first | go_num | (rw [HWI.out]; rfl), hid ⟨_, _, by rw [HRT.out]; exact HL9.out⟩⟩
            case measure => exact ga_meas HHI.out hwi
    · have hlt' : ¬ (i : Int) < (N : Int) := by omega
      obtain ⟨R, HR⟩ : ∃ q : List AtM, Hid (resG n [] (L.take i) = q) := ⟨_, hid rfl⟩
      rw [HR.out] at HL
      have HGL : Hid (∀ W, Below wo.heap.size wo W → Calls Tryz.prog 15 #[.pointer (some ⟨b, 0, none⟩)] W fun e w' => ∃ x, e = .returned x ∧ OwnE atl 101 36 W.heap.size w' x R ∧ Below W.heap.size W w') := hid (fun W h => by
        have ho := HL.out.below h
        exact gAll_any ho.gt ho.ok)
      have HLF : Hid (∀ W, Below wo.heap.size wo W → W.cell? ⟨g, 1, none⟩ = some (.slice A2 R.length c2)) := hid (fun W h => cell_blk (HL.out.below h).row 1)
      clear hlt hi
      go_upto_region 20 with (fail)
      clear hlt'
      refine wp_region_held_drew (S := fun W => Below wo.heap.size wo W) (by kernel_rfl) ((Below.refl _ _).drew) (fun hHeld => ?_)
      have hbd : Below wo.heap.size wo wo.drew := (Below.refl _ _).drew
      refine' tk (i := 0) (v := _) rfl ?_ ?_
      rotate_left
      · (intro W hW; (try dsimp only at hW); go_simp; first | done | with_reducible rfl)
      try simp only [lay]
      refine' tk (i := 2) (v := _) rfl ?_ ?_
      rotate_left
      · (intro W hW; (try dsimp only at hW); go_simp; first | done | with_reducible rfl)
      try simp only [lay]
      refine' tk (i := 3) (v := _) rfl ?_ ?_
      rotate_left
      · (intro W hW; (try dsimp only at hW); have q1 := HLF.out W hW; go_simp; first | done | with_reducible rfl)
      try simp only [lay]
      refine call_on (i := 1) rfl (by kernel_rfl) (by rfl) (fun K hK => ?_)
      go_simp
      refine (HGL.out _ hbd).mono ?_
      rintro e w8 ⟨x8, rfl, ho8, hb8⟩
      have HB8 := hid (hbd.trans (hb8.mono hbd.size))
      obtain ⟨A8, c8, rfl⟩ := ho8.shape
      have HSX := hid (refSame16_any _ _ R R w8 (ho8.els eltAt HL.out.ok.ok) (HL.out.below HB8.out).els HL.out.ok.ok HL.out.ok.ok)
      rw [show decide (R = R) = true from decide_eq_true rfl] at HSX
      clear ho8 hb8
      refine hK.out _ _ (HB8.out) (fun hHeld => ?_)
      clear hK K
      try simp only [lay]
      refine call_on (i := 4) rfl (by kernel_rfl) (by rfl) (fun K hK => ?_)
      go_simp
      refine HSX.out.mono ?_
      rintro e w9 ⟨rfl, hb9⟩
      have HB9 := hid (HB8.out.trans (hb9.mono HB8.out.size))
      clear hb9
      refine hK.out _ _ (HB9.out) (fun hHeld => ?_)
      clear hK K
      try simp only [lay]
      refine' tk (i := 5) (v := _) rfl ?_ ?_
      rotate_left
      · (intro W hW; (try dsimp only at hW); go_simp; first | done | with_reducible rfl)
      try simp only [lay]
      refine wpAnyH_done (by kernel_rfl) ?_ _
      clear hHeld
      have HL3 := hid (HL.out.below HB9.out)
      have HDR := hid (gDrop_any HL3.out.gt HL3.out.ok d)
      go_upto_region 22 with (fail)
      go_wp2_with fail
      refine HDR.out.mono ?_
      rintro e w4 ⟨rfl, hg4, hw4⟩
      have HL4 := hid (HL3.out.turn hg4 (HL3.out.ok.drop d) hw4)
      clear hg4 hw4
      have HGD : Hid (∀ W, Below w4.heap.size w4 W → Calls Tryz.prog 15 #[.pointer (some ⟨b, 0, none⟩)] W fun e w' => ∃ x, e = .returned x ∧ OwnE atl 101 36 W.heap.size w' x (dropG R d) ∧ Below W.heap.size W w') := hid (fun W h => by
        have ho := HL4.out.below h
        exact gAll_any ho.gt ho.ok)
      have HRD : Hid (∀ W, Below w4.heap.size w4 W → Calls Tryz.prog 17 #[.agg #[.int .i64 n, .slice A2 R.length c2], .int .i64 d] W fun e w' => ∃ x, e = .returned (.agg #[.int .i64 n, x]) ∧ Els atl 101 w' x (dropG R d) ∧ Below W.heap.size W w') := hid (fun W h => by
        have ho := HL4.out.below h
        exact refDrop16_any n _ R d W ho.els ho.oks.ok (Nat.le_trans ho.oks.len (by decide)))
      have HLW : Hid (∀ W, Below w4.heap.size w4 W → loadGv (.pointer (some ⟨g, 0, none⟩)) W = .ok (.value (.agg #[.int .i64 n, .slice A2 R.length c2])) W) := hid (fun W h => loadGv_row (HL4.out.below h).row rfl)
      have HDO : Hid (∀ a ∈ dropG R d, a.Ok) := hid HL4.out.ok.ok
      have HBW : Hid (∀ W, Below w4.heap.size w4 W → Below w.heap.size w W) := hid (fun W h => (HL4.out.below h).bel)
      obtain ⟨D, HDE⟩ : ∃ q : List AtM, Hid (dropG R d = q) := ⟨_, hid rfl⟩
      rw [HDE.out] at HGD HRD HDO
      go_upto_region 23 with (fail)
      refine wp_region_held_drew (S := fun W => Below w4.heap.size w4 W) (by kernel_rfl) ((Below.refl _ _).drew) (fun hHeld => ?_)
      have hbd : Below w4.heap.size w4 w4.drew := (Below.refl _ _).drew
      refine' tk (i := 0) (v := _) rfl ?_ ?_
      rotate_left
      · (intro W hW; (try dsimp only at hW); go_simp; first | done | with_reducible rfl)
      try simp only [lay]
      refine' tk (i := 2) (v := _) rfl ?_ ?_
      rotate_left
      · (intro W hW; (try dsimp only at hW); have q1 := HLW.out W hW; go_simp; first | done | with_reducible rfl)
      try simp only [lay]
      refine' tk (i := 3) (v := _) rfl ?_ ?_
      rotate_left
      · (intro W hW; (try dsimp only at hW); go_simp; first | done | with_reducible rfl)
      try simp only [lay]
      refine call_on (i := 1) rfl (by kernel_rfl) (by rfl) (fun K hK => ?_)
      go_simp
      refine (HGD.out _ hbd).mono ?_
      rintro e w8 ⟨x8, rfl, ho8, hb8⟩
      have HB8 := hid (hbd.trans (hb8.mono hbd.size))
      obtain ⟨A8, c8, rfl⟩ := ho8.shape
      have HE8 := hid (ho8.els eltAt HDO.out)
      clear ho8 hb8
      refine hK.out _ _ (HB8.out) (fun hHeld => ?_)
      clear hK K
      try simp only [lay]
      refine call_on (i := 4) rfl (by kernel_rfl) (by rfl) (fun K hK => ?_)
      go_simp
      refine (HRD.out _ HB8.out).mono ?_
      rintro e wd ⟨xd, rfl, hed, hbd2⟩
      have HBD := hid (HB8.out.trans (hbd2.mono HB8.out.size))
      obtain ⟨Ad, cd, rfl⟩ := hed.shape
      have HSX := hid (refSame16_any _ _ D D wd (HE8.out.below hbd2) hed HDO.out HDO.out)
      rw [show decide (D = D) = true from decide_eq_true rfl] at HSX
      clear hed hbd2
      refine hK.out _ _ (HBD.out) (fun hHeld => ?_)
      clear hK K
      try simp only [lay]
      have hfd : ∀ W, (Instr.field 30 (.agg #[.int .i64 n, .slice Ad D.length cd]) 1).run Tryz.prog W = .ok (.slice Ad D.length cd) W := fun _ => by kernel_rfl
      refine' tk (i := 5) (v := _) rfl ?_ ?_
      rotate_left
      · (intro W hW; (try dsimp only at hW); go_simp; first | done | with_reducible rfl)
      try simp only [lay]
      clear hfd
      refine call_on (i := 6) rfl (by kernel_rfl) (by rfl) (fun K hK => ?_)
      go_simp
      refine HSX.out.mono ?_
      rintro e w9 ⟨rfl, hb9⟩
      have HB9X := hid (HBD.out.trans (hb9.mono HBD.out.size))
      clear hb9
      refine hK.out _ _ (HB9X.out) (fun hHeld => ?_)
      clear hK K
      try simp only [lay]
      refine' tk (i := 7) (v := _) rfl ?_ ?_
      rotate_left
      · (intro W hW; (try dsimp only at hW); go_simp; first | done | with_reducible rfl)
      try simp only [lay]
      refine call_on (i := 8) rfl (by kernel_rfl) (by rfl) (fun K hK => ?_)
      go_simp
      have HAWX : Hid (Calls Tryz.prog 4 #[] w9 fun e w' => e = .returned (.bool true) ∧ Below w9.heap.size w9 w') := hid (gaAwake_any w9 (HKB.out _ (HBW.out _ HB9X.out)))
      refine HAWX.out.mono ?_
      rintro e wz ⟨rfl, hbz⟩
      have HBY := hid (HB9X.out.trans (hbz.mono HB9X.out.size))
      have HBZ := hid (HBW.out _ HBY.out)
      clear hbz
      refine hK.out _ _ (HBY.out) (fun hHeld => ?_)
      clear hK K
      try simp only [lay]
      refine' tk (i := 9) (v := _) rfl ?_ ?_
      rotate_left
      · (intro W hW; (try dsimp only at hW); go_simp; first | done | with_reducible rfl)
      try simp only [lay]
      refine' tk (i := 10) (v := _) rfl ?_ ?_
      rotate_left
      · (intro W hW; (try dsimp only at hW); go_simp; first | done | with_reducible rfl)
      try simp only [lay]
      refine wpAnyH_done (by kernel_rfl) ?_ _
      clear hHeld
      go_wp2_with fail
      go_ret
      exact ⟨rfl, HBZ.out⟩
end Go.Proofs.YtpnejoglkmfleaaGreatDoor
