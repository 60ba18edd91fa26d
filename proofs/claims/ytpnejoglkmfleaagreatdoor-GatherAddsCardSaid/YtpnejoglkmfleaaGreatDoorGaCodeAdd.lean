/-
  A gatherer's Add. Printed with gengc.py.
-/
import Derived.Test.YtpnejoglkmfleaaGreatDoorGaCodeA
import Derived.Test.YtpnejoglkmfleaaGreatDoorGaPl
namespace Go.Proofs.YtpnejoglkmfleaaGreatDoor
set_option maxRecDepth 20000
open Go.RowKit
attribute [local go_sem ↓] exec_load_att exec_alloc_att exec_store_att exec_alloc_pl exec_store_pl exec_load_pl
theorem any_getG {L : List AtM} {a : AtM} : L.any (fun x => keyA x a) = (getG L a.vi a.ki a.bo).isSome := by
  rw [Bool.eq_iff_iff, List.any_eq_true]
  constructor
  · rintro ⟨x, hx, hk⟩
    obtain ⟨h1, h2, h3⟩ := keyA_iff.1 hk
    cases hg : getG L a.vi a.ki a.bo with
    | none => exact absurd ⟨h3, h2, h1⟩ (getG_none.1 hg x hx)
    | some _ => rfl
  · intro h
    obtain ⟨x, hx⟩ := Option.isSome_iff_exists.1 h
    obtain ⟨h1, h2, h3, h4⟩ := getG_some hx
    exact ⟨x, h1, keyA_iff.2 ⟨h4, h3, h2⟩⟩
theorem insG_perm (a : AtM) (L : List AtM) : (L ++ [a]).Perm (insG a L) := by
  unfold insG
  have e : L = L.take (placeG a L 0 0) ++ L.drop (placeG a L 0 0) := (List.take_append_drop _ _).symm
  conv => lhs; rw [e]
  rw [List.append_assoc]
  exact List.Perm.append_left _ (List.perm_append_comm)
set_option maxHeartbeats 12800000 in
theorem gAdd_any {w : World} {b m : Nat} {n : Int} {L : List AtM} (h : Gth w b m n L) (g : OkG n L) (a : AtM) (ha : a.Ok) (hK : Kst 0 w) :
    Calls Tryz.prog 8 #[.pointer (some ⟨b, 0, none⟩), .agg (atc a)] w fun e w' => e = .returned (.int .i64 (addG n L a).2) ∧ Gth w' b m n (addG n L a).1 ∧ w.grownBy w' (some m) := by
  obtain ⟨P, c, h, hp⟩ := h
  obtain ⟨hn1, hn2, _⟩ := quoS_range g.quo
  have HP := hid hp
  have HGS := hid g.sort
  have HT : Hid (∀ W, Below w.heap.size w W → GthE W b m n P c) := hid (fun W hW => h.below hW)
  have HM : Hid (∀ W, Below w.heap.size w W → Calls Tryz.prog 22 #[.pointer (some ⟨b, 0, none⟩)] W fun e w' => e = .returned (.bool true) ∧ W = w') := hid (fun W hW => gMade_yes (h.below hW) (by omega))
  have HRT : Hid (∀ W, Below w.heap.size w W → Calls Tryz.prog 23 #[.agg (atc a)] W fun e w' => e = .returned (.bool (rightA a)) ∧ Below W.heap.size W w') := hid (fun W hW => atRight_ok a W ha (hK.below hW))
  have HLE : Hid (P.length = L.length) := hid (by rw [← hp.length_eq, List.length_map])
  have HE7 : Hid (okG n a = false → addG n L a = (L, 7)) := hid (fun e => by unfold addG; rw [e]; rfl)
  have HE15 : Hid (∀ x, okG n a = true → getG L a.vi a.ki a.bo = some x → addG n L a = (L, 15)) := hid (fun x e e2 => by unfold addG; rw [if_pos e, if_pos (by rw [any_getG, e2]; rfl)])
  have HE4 : Hid (okG n a = true → getG L a.vi a.ki a.bo = none → 200 ≤ L.length → addG n L a = (L, 4)) := hid (fun e e2 e3 => by unfold addG; rw [if_pos e, if_neg (by rw [any_getG, e2]; decide), if_pos e3])
  have HE0 : Hid (okG n a = true → getG L a.vi a.ki a.bo = none → ¬ 200 ≤ L.length → addG n L a = (insG a L, 0)) := hid (fun e e2 e3 => by unfold addG; rw [if_pos e, if_neg (by rw [any_getG, e2]; decide), if_neg e3])
  have HPUT : Hid (∀ W, Below w.heap.size w W → getG L a.vi a.ki a.bo = none → (Instr.mapUpdate 53 (.map (some m)) (.agg #[.int .i64 a.vi, .int .i64 a.ki, .int .i64 a.bo]) (.agg (atc a))).run Tryz.prog W = .ok () (setG W m (P ++ [(a, c)]) (c + 1))) := hid (fun W hW e => gaPut_any (h.below hW) hp g.sort a e)
  have HPE : Hid (∀ W, Below w.heap.size w W → Gth (setG W m (P ++ [(a, c)]) (c + 1)) b m n (insG a L) ∧ w.grownBy (setG W m (P ++ [(a, c)]) (c + 1)) (some m) ∧ ∀ (k : Nat) (C : Array Value) (T : TypeId), W.heap[k]? = some (.cells C T (0, 0)) → (setG W m (P ++ [(a, c)]) (c + 1)).heap[k]? = some (.cells C T (0, 0))) := hid (fun W hW => ⟨⟨_, _, (h.below hW).push a, by rw [List.map_append]; exact (hp.append_right _).trans (insG_perm a L)⟩, (grown_below hW (some m)).trans (setG_grown W m _ _), fun k C T hk => ((setG_grown W m _ _).block k (lt_of_block hk) (fun e => by
    obtain rfl : k = m := by injection e
    have := hk.symm.trans (h.below hW).q
    cases this)).trans hk⟩)
  have HOW : Hid (∀ W, Below w.heap.size w W → Gth W b m n L ∧ w.grownBy W (some m)) := hid (fun W hW => ⟨⟨P, c, h.below hW, hp⟩, grown_below hW (some m)⟩)
  have HLK : Hid (∀ W, Below w.heap.size w W → (Instr.lookup 53 (.map (some m)) (.agg #[.int .i64 a.vi, .int .i64 a.ki, .int .i64 a.bo]) true).run Tryz.prog W = .ok (lookV (getG L a.vi a.ki a.bo)) W) := hid (fun W hW => gaLook_any (h.below hW) hp g.sort a.vi a.ki a.bo)
  have HGO : Hid (∀ x, getG L a.vi a.ki a.bo = some x → x.Ok) := hid (fun x hx => g.ok x (getG_some hx).1)
  have HXS : Hid ((atc a).size = 101) := hid (atc_size ha)
  have hr := BoxA.new w a
  have HB0 : Hid (Below w.heap.size w (w.alloc (.cells (atc a) 36))) := hid ((Below.refl _ _).alloc (Nat.le_refl _) _)
  obtain ⟨gq, HGQ⟩ : ∃ q : Option AtM, Hid (getG L a.vi a.ki a.bo = q) := ⟨_, hid rfl⟩
  rw [HGQ.out] at HE15 HE4 HE0 HPUT HLK HGO
  have HBX : Hid (∀ W, Below (w.alloc (.cells (atc a) 36)).heap.size (w.alloc (.cells (atc a) 36)) W → Below w.heap.size w W ∧ W.cell? ⟨w.heap.size, 0, none⟩ = some (.int .i64 a.bo) ∧ W.cell? ⟨w.heap.size, 1, none⟩ = some (.int .i64 a.ki) ∧ W.cell? ⟨w.heap.size, 2, none⟩ = some (.int .i64 a.vi) ∧ loadAtt (.pointer (some ⟨w.heap.size, 0, none⟩)) W = .ok (.value (.agg (atc a))) W ∧ W.heap[w.heap.size]? = some (.cells (atc a) 36 (0, 0))) := hid (fun W hW => by
    have hb := (hW.block _ (lt_of_block hr)).trans hr
    obtain ⟨k0, k1, k2, _⟩ := BoxA.cells hb
    exact ⟨HB0.out.trans (hW.mono HB0.out.size), k0, k1, k2, loadAtt_row hb HXS.out, hb⟩)
  obtain ⟨X, HX⟩ : ∃ C : Array Value, Hid (atc a = C) := ⟨_, hid rfl⟩
  rw [HX.out] at HRT HPUT HXS HB0 HBX ⊢
  have HOG : Hid (∀ r, rightA a = r → okG n a = (r && decide (a.bo ≤ n))) := hid (fun r e => by unfold okG; rw [e])
  obtain ⟨r, HRA⟩ : ∃ q : Bool, Hid (rightA a = q) := ⟨_, hid rfl⟩
  rw [HRA.out] at HRT
  have HOK := hid (HOG.out r HRA.out)
  obtain ⟨ok, HO2⟩ : ∃ q : Bool, Hid (okG n a = q) := ⟨_, hid rfl⟩
  rw [HO2.out] at HE7 HE15 HE4 HE0 HOK
  obtain ⟨bo, HBO⟩ : ∃ q : Int, Hid (a.bo = q) := ⟨_, hid rfl⟩
  obtain ⟨ki, HKI⟩ : ∃ q : Int, Hid (a.ki = q) := ⟨_, hid rfl⟩
  obtain ⟨vi, HVI⟩ : ∃ q : Int, Hid (a.vi = q) := ⟨_, hid rfl⟩
  rw [HBO.out] at HBX HPUT HLK HOK
  rw [HKI.out] at HBX HPUT HLK
  rw [HVI.out] at HBX HPUT HLK
  obtain ⟨ZA, HZA⟩ : ∃ C : Array Value, Hid (atc atZ = C) := ⟨_, hid rfl⟩
  have HALA : Hid (∀ W, allocAtt W = .ok (.value (.pointer (some ⟨W.heap.size, 0, none⟩))) (W.alloc (.cells ZA 36))) := hid (fun W => by rw [← HZA.out]; exact allocAtt_eq W)
  have HSZA : Hid (ZA.size = 101 ∧ ZA.all (·.oneCell') = true) := hid (by rw [← HZA.out]; exact ⟨atc_size atZ_ok, atc_one _⟩)
  have HLV : Hid (∃ t G, lookV gq = .tuple #[.agg G, .bool t] ∧ t = gq.isSome ∧ G.size = 101 ∧ G.all (·.oneCell') = true) := hid (by
    cases gq with
    | none => exact ⟨false, _, rfl, rfl, atc_size atZ_ok, atc_one _⟩
    | some x => exact ⟨true, _, rfl, rfl, atc_size (HGO.out x rfl), atc_one _⟩)
  clear h hp g ha hK hr hn1 hn2 HOG HGO
  go_enter Tryz.func8, Tryz.ntmps8
  go_upto_region 1 with (fail)
  generalize (w.alloc (.cells X 36)) = w0 at *
  go_wp2_with fail
  refine (HM.out w0 HB0.out).mono ?_
  rintro e w1 ⟨rfl, rfl⟩
  go_upto_region 3 with (fail)
  have hbd : Below w0.heap.size w0 w0.drew := (Below.refl _ _).drew
  have HN0 : Hid (∀ W, Below w.heap.size w W → W.cell? ⟨b, 0, none⟩ = some (.int .i64 n) ∧ W.cell? ⟨b, 1, none⟩ = some (.map (some m))) := hid (fun W hW => (HT.out W hW).cells)
  have HS3 : Hid (∀ W, Below w0.heap.size w0 W → W.cell? ⟨w.heap.size, 0, none⟩ = some (.int .i64 bo) ∧ W.cell? ⟨b, 0, none⟩ = some (.int .i64 n) ∧ loadAtt (.pointer (some ⟨w.heap.size, 0, none⟩)) W = .ok (.value (.agg X)) W) := hid (fun W hW => by
    obtain ⟨e0, e1, _, _, e4, _⟩ := HBX.out W hW
    exact ⟨e1, (HN0.out W e0).1, e4⟩)
  by_cases h1 : n < bo
  · have HF : Hid (ok = false) := hid (by rw [HOK.out, decide_eq_false (by omega), Bool.and_false])
    have HA := hid (HE7.out HF.out)
    have HEND := hid (HOW.out _ (HBX.out _ hbd).1)
    refine wp_region_held_drew (S := fun W => W.cell? ⟨w.heap.size, 0, none⟩ = some (.int .i64 bo) ∧ W.cell? ⟨b, 0, none⟩ = some (.int .i64 n) ∧ loadAtt (.pointer (some ⟨w.heap.size, 0, none⟩)) W = .ok (.value (.agg X)) W) (by kernel_rfl) (HS3.out _ hbd) (fun hHeld => ?_)
    refine' tk (i := 0) (v := _) rfl ?_ ?_
    rotate_left
    · (intro W hW; (try dsimp only at hW); go_simp; first | done | with_reducible rfl)
    try simp only [lay]
    refine' tk (i := 1) (v := _) rfl ?_ ?_
    rotate_left
    · (intro W hW; (try dsimp only at hW); obtain ⟨x0, x1, x2⟩ := hW; go_simp; first | done | with_reducible rfl)
    try simp only [lay]
    refine' tk (i := 2) (v := _) rfl ?_ ?_
    rotate_left
    · (intro W hW; (try dsimp only at hW); go_simp; first | done | with_reducible rfl)
    try simp only [lay]
    refine' tk (i := 3) (v := _) rfl ?_ ?_
    rotate_left
    · (intro W hW; (try dsimp only at hW); go_simp; first | done | with_reducible rfl)
    try simp only [lay]
    refine' tk (i := 4) (v := _) rfl ?_ ?_
    rotate_left
    · (intro W hW; (try dsimp only at hW); go_simp; first | done | with_reducible rfl)
    try simp only [lay]
    refine' tk (i := 5) (v := _) rfl ?_ ?_
    rotate_left
    · (intro W hW; (try dsimp only at hW); obtain ⟨x0, x1, x2⟩ := hW; go_simp; first | done | with_reducible rfl)
    try simp only [lay]
    refine' tk (i := 6) (v := _) rfl ?_ ?_
    rotate_left
    · (intro W hW; (try dsimp only at hW); go_simp; first | done | with_reducible rfl)
    try simp only [lay]
    refine' tk (i := 7) (v := _) rfl ?_ ?_
    rotate_left
    · (intro W hW; (try dsimp only at hW); go_simp; first | done | with_reducible rfl)
    try simp only [lay]
    refine tf (i := 8) rfl ?_
    try simp only [lay]
    refine tf (i := 9) rfl ?_
    try simp only [lay]
    refine tf (i := 10) rfl ?_
    try simp only [lay]
    refine' tk (i := 11) (v := _) rfl ?_ ?_
    rotate_left
    · (intro W hW; (try dsimp only at hW); go_simp; first | done | with_reducible rfl)
    try simp only [lay]
    refine wpAnyH_done (by kernel_rfl) ?_ _
    clear hHeld
    go_wp2_with fail
    go_ret
    rw [HA.out]
    exact ⟨rfl, HEND.out.1, HEND.out.2⟩
  · have HLE1 : Hid (bo ≤ n) := hid (by omega)
    have hle : bo ≤ n := HLE1.out
    refine wp_region_held_drew (S := fun W => W.cell? ⟨w.heap.size, 0, none⟩ = some (.int .i64 bo) ∧ W.cell? ⟨b, 0, none⟩ = some (.int .i64 n) ∧ loadAtt (.pointer (some ⟨w.heap.size, 0, none⟩)) W = .ok (.value (.agg X)) W) (by kernel_rfl) (HS3.out _ hbd) (fun hHeld => ?_)
    refine' tk (i := 0) (v := _) rfl ?_ ?_
    rotate_left
    · (intro W hW; (try dsimp only at hW); go_simp; first | done | with_reducible rfl)
    try simp only [lay]
    refine' tk (i := 1) (v := _) rfl ?_ ?_
    rotate_left
    · (intro W hW; (try dsimp only at hW); obtain ⟨x0, x1, x2⟩ := hW; go_simp; first | done | with_reducible rfl)
    try simp only [lay]
    refine' tk (i := 2) (v := _) rfl ?_ ?_
    rotate_left
    · (intro W hW; (try dsimp only at hW); go_simp; first | done | with_reducible rfl)
    try simp only [lay]
    refine' tk (i := 3) (v := _) rfl ?_ ?_
    rotate_left
    · (intro W hW; (try dsimp only at hW); go_simp; first | done | with_reducible rfl)
    try simp only [lay]
    refine' tk (i := 4) (v := _) rfl ?_ ?_
    rotate_left
    · (intro W hW; (try dsimp only at hW); go_simp; first | done | with_reducible rfl)
    try simp only [lay]
    refine' tk (i := 5) (v := _) rfl ?_ ?_
    rotate_left
    · (intro W hW; (try dsimp only at hW); obtain ⟨x0, x1, x2⟩ := hW; go_simp; first | done | with_reducible rfl)
    try simp only [lay]
    refine' tk (i := 6) (v := _) rfl ?_ ?_
    rotate_left
    · (intro W hW; (try dsimp only at hW); go_simp; first | done | with_reducible rfl)
    try simp only [lay]
    refine' tk (i := 7) (v := _) rfl ?_ ?_
    rotate_left
    · (intro W hW; (try dsimp only at hW); go_simp; first | done | with_reducible rfl)
    try simp only [lay]
    refine' tk (i := 8) (v := _) rfl ?_ ?_
    rotate_left
    · (intro W hW; (try dsimp only at hW); obtain ⟨x0, x1, x2⟩ := hW; go_simp; first | done | with_reducible rfl)
    try simp only [lay]
    refine call_on (i := 9) rfl (by kernel_rfl) (by rfl) (fun K hK => ?_)
    go_simp
    refine (HRT.out _ (HBX.out _ hbd).1).mono ?_
    rintro e w2 ⟨rfl, hb2⟩
    have hb2' := hbd.trans hb2
    refine hK.out _ _ (HS3.out _ hb2') (fun hHeld => ?_)
    clear hK K
    try simp only [lay]
    refine' tk (i := 10) (v := _) rfl ?_ ?_
    rotate_left
    · (intro W hW; (try dsimp only at hW); go_simp; first | done | with_reducible rfl)
    try simp only [lay]
    refine' tk (i := 11) (v := _) rfl ?_ ?_
    rotate_left
    · (intro W hW; (try dsimp only at hW); go_simp; first | done | with_reducible rfl)
    try simp only [lay]
    refine wpAnyH_done (by kernel_rfl) ?_ _
    have HB2 := hid hb2'
    clear hHeld hb2 hb2' hbd h1 hle
    cases r with
    | false =>
      have HF : Hid (ok = false) := hid (by rw [HOK.out, Bool.false_and])
      have HA := hid (HE7.out HF.out)
      have HEND := hid (HOW.out _ (HBX.out _ HB2.out).1)
      go_wp2_with fail
      go_ret
      rw [HA.out]
      exact ⟨rfl, HEND.out.1, HEND.out.2⟩
    | true =>
      have HF : Hid (ok = true) := hid (by rw [HOK.out, decide_eq_true HLE1.out]; rfl)
      obtain ⟨_, c0, c1, c2, _, _⟩ := HBX.out w2 HB2.out
      have hal := allocPl_eq w2
      have hst := plVar_eq w2 vi ki bo
      go_upto_region 6 with (fail)
      have hr3 := heap_alloc_new w2 (.cells #[.int .i64 vi, .int .i64 ki, .int .i64 bo] 59)
      have HB3 : Hid (Below w0.heap.size w0 (w2.alloc (.cells #[.int .i64 vi, .int .i64 ki, .int .i64 bo] 59))) := hid (HB2.out.alloc HB2.out.size _)
      clear hal hst c0 c1 c2
      generalize (w2.alloc (.cells #[.int .i64 vi, .int .i64 ki, .int .i64 bo] 59)) = w3 at *
      generalize w2.heap.size = gp at *
      have hbd : Below w3.heap.size w3 w3.drew := (Below.refl _ _).drew
      obtain ⟨t, G, HLQ, HTQ, HGS1, HGS2⟩ := HLV.out
      have HS6 : Hid (∀ W, Below w3.heap.size w3 W → W.cell? ⟨b, 1, none⟩ = some (.map (some m)) ∧ loadPl (.pointer (some ⟨gp, 0, none⟩)) W = .ok (.value (.agg #[.int .i64 vi, .int .i64 ki, .int .i64 bo])) W ∧ loadAtt (.pointer (some ⟨w.heap.size, 0, none⟩)) W = .ok (.value (.agg X)) W ∧ (Instr.lookup 53 (.map (some m)) (.agg #[.int .i64 vi, .int .i64 ki, .int .i64 bo]) true).run Tryz.prog W = .ok (.tuple #[.agg G, .bool t]) W) := hid (fun W hW => by
        obtain ⟨e0, _, _, _, e4, _⟩ := HBX.out W (HB3.out.trans (hW.mono HB3.out.size))
        exact ⟨(HN0.out W e0).2, loadPl_row ((hW.block _ (lt_of_block hr3)).trans hr3) rfl, e4, by rw [← HLQ]; exact HLK.out W e0⟩)
      have HTS := hid HTQ
      have HG2 := hid (And.intro HGS1 HGS2)
      have hst6 : storeAtt (.pointer (some ⟨w3.heap.size, 0, none⟩)) (.agg G) ((w3.alloc (.cells ZA 36)).drew) = .ok .skip ((w3.alloc (.cells G 36)).drew) := by
        show storeAtt (.pointer (some ⟨w3.heap.size, 0, none⟩)) (.agg G) (w3.drew.alloc (.cells ZA 36)) = .ok .skip (w3.drew.alloc (.cells G 36))
        have e := storeAtt_eq (heap_alloc_new w3.drew (.cells ZA 36)) HSZA.out.1 HGS1 HGS2
        rw [show w3.drew.heap.size = w3.heap.size from rfl] at e
        rw [e]
        exact congrArg (fun W => Result.ok Next.skip W) (setCt_alloc w3.drew _ _ G)
      have hal6 := HALA.out w3.drew
      have HR3 := hid hr3
      clear hr3 HLQ HTQ HGS1 HGS2 HLK HLV
      refine wp_region_held_drew (S := fun W => W.cell? ⟨b, 1, none⟩ = some (.map (some m)) ∧ loadPl (.pointer (some ⟨gp, 0, none⟩)) W = .ok (.value (.agg #[.int .i64 vi, .int .i64 ki, .int .i64 bo])) W ∧ loadAtt (.pointer (some ⟨w.heap.size, 0, none⟩)) W = .ok (.value (.agg X)) W ∧ (Instr.lookup 53 (.map (some m)) (.agg #[.int .i64 vi, .int .i64 ki, .int .i64 bo]) true).run Tryz.prog W = .ok (.tuple #[.agg G, .bool t]) W) (by kernel_rfl) (HS6.out _ hbd) (fun hHeld => ?_)
      refine' tk (i := 0) (v := _) rfl ?_ ?_
      rotate_left
      · (intro W hW; (try dsimp only at hW); go_simp; first | done | with_reducible rfl)
      try simp only [lay]
      refine' tk (i := 1) (v := _) rfl ?_ ?_
      rotate_left
      · (intro W hW; (try dsimp only at hW); go_simp; first | done | with_reducible rfl)
      try simp only [lay]
      refine' tk (i := 2) (v := _) rfl ?_ ?_
      rotate_left
      · (intro W hW; (try dsimp only at hW); go_simp; first | done | with_reducible rfl)
      try simp only [lay]
      refine' tk (i := 3) (v := _) rfl ?_ ?_
      rotate_left
      · (intro W hW; (try dsimp only at hW); obtain ⟨x0, x1, x2, x3⟩ := hW; go_simp; first | done | with_reducible rfl)
      try simp only [lay]
      refine' tk (i := 4) (v := _) rfl ?_ ?_
      rotate_left
      · (intro W hW; (try dsimp only at hW); obtain ⟨x0, x1, x2, x3⟩ := hW; go_simp; first | done | with_reducible rfl)
      try simp only [lay]
      refine' tk (i := 5) (v := _) rfl ?_ ?_
      rotate_left
      · (intro W hW; (try dsimp only at hW); obtain ⟨x0, x1, x2, x3⟩ := hW; go_simp; first | done | with_reducible rfl)
      try simp only [lay]
      refine' tk (i := 6) (v := _) rfl ?_ ?_
      rotate_left
      · (intro W hW; (try dsimp only at hW); go_simp; first | done | with_reducible rfl)
      try simp only [lay]
      refine' tk (i := 7) (v := _) rfl ?_ ?_
      rotate_left
      · (intro W hW; (try dsimp only at hW); go_simp; first | done | with_reducible rfl)
      try simp only [lay]
      refine' tk (i := 8) (v := _) rfl ?_ ?_
      rotate_left
      · (intro W hW; (try dsimp only at hW); go_simp; first | done | with_reducible rfl)
      try simp only [lay]
      refine call_on (i := 9) rfl (by kernel_rfl) (by rfl) (fun K hK => ?_)
      go_simp
      have hb7 := hbd.alloc hbd.size (.cells ZA 36)
      refine hK.out _ _ (HS6.out _ hb7) (fun hHeld => ?_)
      clear hK K
      try simp only [lay]
      refine call_on (i := 10) rfl (by kernel_rfl) (by rfl) (fun K hK => ?_)
      go_simp
      have hb8 : Below w3.heap.size w3 ((w3.alloc (.cells G 36)).drew) := hbd.alloc hbd.size (.cells G 36)
      refine hK.out _ _ (HS6.out _ hb8) (fun hHeld => ?_)
      clear hK K
      try simp only [lay]
      refine' tk (i := 11) (v := _) rfl ?_ ?_
      rotate_left
      · (intro W hW; (try dsimp only at hW); go_simp; first | done | with_reducible rfl)
      try simp only [lay]
      refine wpAnyH_done (by kernel_rfl) ?_ _
      have HB8 := hid hb8
      clear hHeld hb7 hb8 hbd hst6 hal6
      generalize ((w3.alloc (.cells G 36)).drew) = w8 at *
      have HBW8 : Hid (Below w.heap.size w w8) := hid (HBX.out w8 (HB3.out.trans (HB8.out.mono HB3.out.size))).1
      cases gq with
      | some x =>
        obtain rfl : t = true := HTS.out
        have HA := hid (HE15.out x HF.out rfl)
        have HEND := hid (HOW.out _ HBW8.out)
        go_wp2_with fail
        go_ret
        rw [HA.out]
        exact ⟨rfl, HEND.out.1, HEND.out.2⟩
      | none =>
        obtain rfl : t = false := HTS.out
        obtain ⟨k0, _, _, _⟩ := HS6.out w8 HB8.out
        have hlen : ∀ ty, (Builtin.len_ #[53] ty #[.map (some m)]).run Tryz.prog w8 = .ok (.int .i64 P.length) w8 := fun ty => gaLen_any (HT.out w8 HBW8.out) ty
        by_cases hc : 200 ≤ L.length
        · have HA := hid (HE4.out HF.out rfl hc)
          have HEND := hid (HOW.out _ HBW8.out)
          have hc2 : (200 : Int) ≤ (P.length : Int) := by have := HLE.out; omega
          clear hc
          go_wp2_with fail
          go_ret
          rw [HA.out]
          exact ⟨rfl, HEND.out.1, HEND.out.2⟩
        · have HA := hid (HE0.out HF.out rfl hc)
          have hc2 : ¬ (200 : Int) ≤ (P.length : Int) := by have := HLE.out; omega
          clear hc
          go_upto_region 11 with (fail)
          clear hlen hc2 k0
          have hbd : Below w8.heap.size w8 w8.drew := (Below.refl _ _).drew
          have HSB : Hid (∀ W, Below w8.heap.size w8 W → W.cell? ⟨b, 1, none⟩ = some (.map (some m)) ∧ loadPl (.pointer (some ⟨gp, 0, none⟩)) W = .ok (.value (.agg #[.int .i64 vi, .int .i64 ki, .int .i64 bo])) W ∧ loadAtt (.pointer (some ⟨w.heap.size, 0, none⟩)) W = .ok (.value (.agg X)) W) := hid (fun W hW => by
            obtain ⟨e0, e1, e2, _⟩ := HS6.out W (HB8.out.trans (hW.mono HB8.out.size))
            exact ⟨e0, e1, e2⟩)
          have HBD8 : Hid (Below w.heap.size w w8.drew) := hid HBW8.out.drew
          have hput := HPUT.out w8.drew HBD8.out rfl
          have HEND := hid (HPE.out w8.drew HBD8.out)
          have HSE : Hid ((setG w8.drew m (P ++ [(a, c)]) (c + 1)).cell? ⟨b, 1, none⟩ = some (.map (some m)) ∧ loadPl (.pointer (some ⟨gp, 0, none⟩)) (setG w8.drew m (P ++ [(a, c)]) (c + 1)) = .ok (.value (.agg #[.int .i64 vi, .int .i64 ki, .int .i64 bo])) (setG w8.drew m (P ++ [(a, c)]) (c + 1)) ∧ loadAtt (.pointer (some ⟨w.heap.size, 0, none⟩)) (setG w8.drew m (P ++ [(a, c)]) (c + 1)) = .ok (.value (.agg X)) (setG w8.drew m (P ++ [(a, c)]) (c + 1))) := hid (by
            obtain ⟨P2, c2, h2, _⟩ := HEND.out.1
            have hb3 : Below w3.heap.size w3 w8.drew := HB8.out.trans (hbd.mono HB8.out.size)
            exact ⟨h2.cells.2, loadPl_row (HEND.out.2.2 _ _ _ ((hb3.block _ (lt_of_block HR3.out)).trans HR3.out)) rfl, loadAtt_row (HEND.out.2.2 _ _ _ (HBX.out w8.drew (HB3.out.trans (hb3.mono HB3.out.size))).2.2.2.2.2) HXS.out⟩)
          refine wp_region_held_drew (S := fun W => W.cell? ⟨b, 1, none⟩ = some (.map (some m)) ∧ loadPl (.pointer (some ⟨gp, 0, none⟩)) W = .ok (.value (.agg #[.int .i64 vi, .int .i64 ki, .int .i64 bo])) W ∧ loadAtt (.pointer (some ⟨w.heap.size, 0, none⟩)) W = .ok (.value (.agg X)) W) (by kernel_rfl) (HSB.out _ hbd) (fun hHeld => ?_)
          refine' tk (i := 0) (v := _) rfl ?_ ?_
          rotate_left
          · (intro W hW; (try dsimp only at hW); go_simp; first | done | with_reducible rfl)
          try simp only [lay]
          refine' tk (i := 1) (v := _) rfl ?_ ?_
          rotate_left
          · (intro W hW; (try dsimp only at hW); go_simp; first | done | with_reducible rfl)
          try simp only [lay]
          refine' tk (i := 2) (v := _) rfl ?_ ?_
          rotate_left
          · (intro W hW; (try dsimp only at hW); go_simp; first | done | with_reducible rfl)
          try simp only [lay]
          refine' tk (i := 3) (v := _) rfl ?_ ?_
          rotate_left
          · (intro W hW; (try dsimp only at hW); obtain ⟨x0, x1, x2⟩ := hW; go_simp; first | done | with_reducible rfl)
          try simp only [lay]
          refine' tk (i := 4) (v := _) rfl ?_ ?_
          rotate_left
          · (intro W hW; (try dsimp only at hW); obtain ⟨x0, x1, x2⟩ := hW; go_simp; first | done | with_reducible rfl)
          try simp only [lay]
          refine' tk (i := 5) (v := _) rfl ?_ ?_
          rotate_left
          · (intro W hW; (try dsimp only at hW); obtain ⟨x0, x1, x2⟩ := hW; go_simp; first | done | with_reducible rfl)
          try simp only [lay]
          refine call_on (i := 6) rfl (by kernel_rfl) (by rfl) (fun K hK => ?_)
          go_simp
          refine hK.out _ _ (HSE.out) (fun hHeld => ?_)
          clear hK K
          try simp only [lay]
          refine wpAnyH_done (by kernel_rfl) ?_ _
          clear hHeld hput hbd
          go_wp2_with fail
          go_ret
          rw [HA.out]
          exact ⟨rfl, HEND.out.1, HEND.out.2.1⟩
end Go.Proofs.YtpnejoglkmfleaaGreatDoor
