/-
  The law of tags, of a part that there is.
-/
import Derived.Test.YtakigopjbbhjkaaDoorTagsCut
import Derived.Deep.RegionHeld3
import Derived.Deep.DeepCutAuto
namespace Go.Proofs.YtakigopjbbhjkaaDoor
open Go.RowKit

attribute [local go_sem ↓] exec_cutH exec_cutL exec_load_hide exec_store_hide exec_alloc_H

set_option maxRecDepth 100000 in
set_option maxHeartbeats 3200000 in
theorem lawKeysTags_yes (i : Int) (d : UInt8) (f : Nat → UInt8) (v2 : Value) (text : List UInt8) (at' : Nat) (w : World) (hwi : (Lit.int .i64 i).wf = true) (hnode : nodeB i = true) (hv2 : Byt w v2 text) (hat : at' ≤ 65535) (hK : Kst 1 w) (hK0 : Kst 0 w) :
    Calls Tryd.prog 3 #[.agg (fcells 34 (askF i d f)), v2, .int .u16 (at' : Int)] w fun e w' => e = .returned (.bool true) ∧ Below w.heap.size w w' := by
  obtain ⟨A2, c2, rfl⟩ := hv2.shape
  have hc2 := hv2.at_.2.1
  have hm2 := hv2.at_.2.2.1
  unfold maxLen at hm2
  obtain ⟨L2, HL2⟩ : ∃ L : Nat, Hid (text.length = L) := ⟨_, hid rfl⟩
  rw [HL2.out] at hv2 hc2 ⊢
  have hb0 : Below w.heap.size w (w.alloc (.cells (fcells 34 (askF i d f)) 25)) := (Below.refl _ _).alloc (Nat.le_refl _) _
  have hT0 : Blk (w.alloc (.cells (fcells 34 (askF i d f)) 25)) w.heap.size 34 (askF i d f) 25 := Blk.new w _ _ _
  have HT0 := hid hT0
  clear hT0
  by_cases hlong2 : 500 < L2
  · go_enter Tryd.func3, Tryd.ntmps3
    go_wp2_with fail
    refine (keysAwake_any _ (hK.below hb0)).mono ?_
    rintro e w' ⟨rfl, hb⟩
    go_wp2_with fail
    go_ret
    exact ⟨rfl, hb0.trans (hb.mono hb0.size)⟩
  have hq2 : ¬ (500 : Int) < (L2 : Int) := by omega
  obtain ⟨k, hk⟩ : ∃ k : Nat, at' % (L2 + 1) = k := ⟨_, rfl⟩
  have hkL : k ≤ L2 := by have := Nat.mod_lt at' (show 0 < L2 + 1 by omega); omega
  have ek : (at' : Int) % ((L2 : Int) + 1) = (k : Int) := by rw [← hk]; exact (Int.natCast_emod at' (L2 + 1)).symm
  clear hk
  obtain ⟨A3, c3, r3, p3⟩ := cut_h A2 c2 L2 k hkL hc2
  obtain ⟨A4, c4, r4, p4⟩ := cut_l A2 c2 L2 k hkL hc2
  have P3 := hid p3
  have P4 := hid p4
  have HTD := hid (List.take_append_drop k text)
  clear p3 p4
  obtain ⟨x, HX⟩ : ∃ x : Int, Hid ((d.toNat : Int) = x) := ⟨_, hid rfl⟩
  obtain ⟨F, HF⟩ : ∃ F : Nat → Value, Hid (askF i d f = F) := ⟨_, hid rfl⟩
  have F0 : Hid (F 0 = .int .i64 i) := hid (by rw [← HF.out]; rfl)
  have F1 : Hid (F 1 = .int .u8 x) := hid (by rw [← HF.out, ← HX.out]; rfl)
  obtain ⟨τ, HT⟩ : ∃ t : Nat → UInt8, Hid (tagF i d text = t) := ⟨_, hid rfl⟩
  obtain ⟨D, HD⟩ : ∃ D : Array Value, Hid (fcells 32 (fun j => bcell (τ j)) = D) := ⟨_, hid rfl⟩
  have HOK : Hid (OkA w w.heap.size F (w.alloc (.cells (fcells 34 F) 25))) := hid (by
    rw [HF.out] at hb0 HT0
    exact ⟨HT0.out, hb0⟩)
  rw [HF.out]
  clear hb0 HT0
  have HS2 := hid (show text.length ≤ 1000000 by rw [HL2.out]; omega)
  have HCT : Hid (∀ (W : World) (gp : Nat), Below w.heap.size w W → gp < W.heap.size → W.cell? ⟨gp, 0, none⟩ = some (.slice A3 k c3) → W.cell? ⟨gp, 1, none⟩ = some (.slice A4 (L2 - k) c4) →
      Calls Tryd.prog 6 #[.int .i64 i, .int .u8 x, .slice (some ⟨gp, 0, none⟩) 2 2] W fun e w' => e = .returned (.agg D) ∧ Below W.heap.size W w') := hid (fun W gp hb hg h0 h1 => by
    have C := tag_two i d (.slice A3 k c3) (.slice A4 (L2 - k) c4) _ _ gp 2 W hg h0 h1 (P3.out _ text HL2.out (hv2.below hb)) (P4.out _ text HL2.out (hv2.below hb)) HTD.out HS2.out (hK.below hb)
    rw [HT.out, HD.out, HX.out] at C
    exact C)
  have HRT : Hid (∀ W : World, Below w.heap.size w W → Calls Tryd.prog 7 #[.int .i64 i, .int .u8 x, .slice A2 L2 c2] W fun e w' => e = .returned (.agg D) ∧ Below W.heap.size W w') := hid (fun W hb => by
    have C := refTag_any i d (.slice A2 L2 c2) text W (hv2.below hb) (by rw [HL2.out]; omega) (hK0.below hb)
    rw [HT.out, HD.out, HX.out] at C
    exact C)
  go_enter Tryd.func3, Tryd.ntmps3
  obtain ⟨T, HTT⟩ : ∃ T : TypeId, Hid (T = 23) := ⟨_, hid rfl⟩
  have hL := tyHide_load HTT.out
  have hLS := tyHide_store HTT.out
  simp only [hL, hLS]
  clear hL hLS
  go_wp2_with fail
  have hok0 := HOK.out
  have hokd := OkA.drew _ HOK.out
  generalize w.alloc (.cells (fcells 34 F) 25) = w0 at *
  clear ek
  obtain ⟨G, HG⟩ : ∃ G : Nat, Hid (w.heap.size = G) := ⟨_, hid rfl⟩
  rw [HG.out] at hok0 hokd HCT HRT ⊢
  have hGw := hok0.1.lt
  have hGw1 : G < w0.heap.size + 1 := by omega
  clear HOK
  go_cut [8] (fun s8 wx => TagAt w G F τ s8 wx)
  case first =>
    have hst := store_hasH HTT.out HD.out
    have q1 := HasH.alloc
    have q2 := HasH.new
    have q3 := HasH.new2
    have q4 := HasH.drew
    have q6 := HasH.newOld
    have o1 := fun W o => OkA.alloc (w := w) (G := G) (F := F) W o
    have o2 := fun W => OkA.drew (w := w) (G := G) (F := F) W
    have o3 := fun W g D => OkA.set (w := w) (G := G) (F := F) W g D
    go_region_held3 (fun w' => OkA w G F w' ∧ w'.cell? ⟨G, 0, none⟩ = some (.int .i64 i) ∧ w'.cell? ⟨G, 1, none⟩ = some (.int .u8 x))
      ((refine OkA.cells F0.out F1.out ?_; (first | assumption | (exact o2 _ hok0) | (exact o1 _ _ hok0) | (exact o2 _ (o1 _ _ hok0)) | (exact o1 _ _ (o1 _ _ hok0)) | (exact o2 _ (o1 _ _ (o1 _ _ hok0))) | (exact o1 _ _ hok5) | (exact o3 _ _ _ (by omega) hok5) | (exact o3 _ _ _ (by omega) (o1 _ _ hok5)) | (simp only [*]; done))))
      (first
        | (go_at_call 6; (with_reducible refine (HCT.out _ _ ?_ ?_ ?_ ?_).mono ?_); (first | exact (o2 _ (o1 _ _ hok0)).2 | exact (o2 _ (o1 _ _ (o1 _ _ hok0))).2); (first | exact lt_new w0 _ | exact lt_new2 w0 _ _ | exact lt_new3 w0 _ _); (first | exact new_cell_drew w0 _ _ 0 _ rfl | exact new_cell2_drew w0 _ _ _ 0 _ rfl | exact old_cell_drew w0 _ _ _ 0 _ rfl); (first | exact new_cell_drew w0 _ _ 1 _ rfl | exact new_cell2_drew w0 _ _ _ 1 _ rfl | exact old_cell_drew w0 _ _ _ 1 _ rfl); rintro e w5 ⟨rfl, hb5⟩; (first | (have hok5 := OkA.keep (w := w) (G := G) (F := F) hb5 (o2 _ (o1 _ _ hok0))) | (have hok5 := OkA.keep (w := w) (G := G) (F := F) hb5 (o2 _ (o1 _ _ (o1 _ _ hok0))))); have hk5 := HasH.keep hb5; (try (have hp := hk5 w0.heap.size (q4 _ _ (q6 _ _)))); (try (have hp' := hk5 (w0.heap.size + 1) (q4 _ _ (q3 _ _)))); have hG5 : G < w5.heap.size := hok5.1.lt)
        | fail)
    all_goals
      go_wp2_with fail
      go_meet
      case rel => exact TagAt.of HD.out (by first | assumption | exact q2 _) (by omega) (by first | assumption | exact o1 _ _ hok5)
  case rest =>
    obtain ⟨T8, rfl, hT8, hok⟩ := hcut
    clear hok0 hokd hGw hGw1
    go_upto_region 5 with (fail)
    go_cut [9] (fun s9 wx => Tags2At w G T8 F τ s9 wx)
    case first =>
      obtain ⟨_, c0, c1⟩ := OkA.cells F0.out F1.out hok
      go_wp2_with fail
      refine (HRT.out wc hok.2).mono ?_
      rintro e w7 ⟨rfl, hb7⟩
      have hok7 := OkA.keep hb7 hok
      have hT7 := hT8.keep hb7
      have hst := store_hasH HTT.out HD.out
      have q2 := HasH.new w7
      clear c0 c1
      go_wp2_with fail
      go_meet
      case rel => exact Tags2At.of HD.out hT7 hok7
    case rest =>
      obtain ⟨T9, rfl, h8, h9, hok9⟩ := hcut
      clear hT8 hok
      have HMAY : Hid (nodeB i = true) := hid hnode
      go_upto_region 6 with (fail)
      go_cut [10] (fun s10 wx => MayAt wc true s10 wx)
      case first =>
        obtain ⟨_, c0, c1⟩ := OkA.cells F0.out F1.out hok9
        have hin : 1 ≤ i ∧ i ≤ 21 := of_decide_eq_true hnode
        obtain ⟨h1, h2⟩ := hin
        go_wp2_with fail
        go_meet
        case rel => exact ⟨rfl, rfl⟩
      case rest =>
        obtain ⟨rfl, rfl⟩ := hcut
        have hkt : KT G T8 T9 F τ wc := ⟨h8, h9, hok9.1⟩
        have hbx : ∀ W : World, Below wc.heap.size wc W → Below w.heap.size w W := fun W h => by
          rw [HG.out]
          exact hok9.2.trans (h.mono (Nat.le_of_lt hok9.1.lt))
        have hB0 : Below wc.heap.size wc wc.drew := (Below.refl _ _).drew
        obtain ⟨DA, HDA⟩ : ∃ D : Array Value, Hid (fcells 32 (fun j => bcell (f j)) = D) := ⟨_, hid rfl⟩
        obtain ⟨DK, HDK⟩ : ∃ D : Array Value, Hid (fcells 32 (fun j => bcell (keyF i j)) = D) := ⟨_, hid rfl⟩
        obtain ⟨sb, HSB⟩ : ∃ b : Bool, Hid (sameB f τ = b) := ⟨_, hid rfl⟩
        obtain ⟨q, HQ⟩ : ∃ q : Nat, Hid (quoS i = q) := ⟨_, hid rfl⟩
        have HKEY : Hid (∀ W : World, Below wc.heap.size wc W → Calls Tryd.prog 8 #[.int .i64 i] W fun e w' => e = .returned (.agg DK) ∧ Below W.heap.size W w') := hid (fun W hb => by
          have C := key_any i W (hK.below (hbx W hb))
          rw [HDK.out] at C
          exact C)
        have HRKEY : Hid (∀ W : World, Below wc.heap.size wc W → Calls Tryd.prog 9 #[.int .i64 i] W fun e w' => e = .returned (.agg DK) ∧ Below W.heap.size W w') := hid (fun W hb => by
          have C := refPart_any i W (hK0.below (hbx W hb))
          rw [HDK.out] at C
          exact C)
        have HAW : Hid (∀ W : World, Below wc.heap.size wc W → Calls Tryd.prog 5 #[] W fun e w' => e = .returned (.bool true) ∧ Below W.heap.size W w') := hid (fun W hb => keysAwake_any W (hK.below (hbx W hb)))
        have HN : Hid (∀ W : World, Calls Tryd.prog 11 #[.int .i64 i] W fun e w' => e = .returned (.bool true) ∧ W = w') := hid (fun W => by
          have C := node_any i W
          rw [HMAY.out] at C
          exact C)
        have HQQ : Hid (∀ W : World, Calls Tryd.prog 12 #[.int .i64 i] W fun e w' => e = .returned (.int .i64 (q : Int)) ∧ W = w') := hid (fun W => by
          have C := quorum_any i W hwi
          rw [HQ.out] at C
          exact C)
        have HRQ : Hid (∀ W : World, Calls Tryd.prog 13 #[.int .i64 i] W fun e w' => e = .returned (.int .i64 (q : Int)) ∧ W = w') := hid (fun W => by
          have C := refQuorum_any i W
          rw [HQ.out] at C
          exact C)
        have HCK : Hid (∀ (W : World) (gp : Nat), Below wc.heap.size wc W → gp < W.heap.size → W.cell? ⟨gp, 0, none⟩ = some (.slice A2 L2 c2) →
            Calls Tryd.prog 10 #[.int .i64 i, .int .u8 x, .agg DA, .slice (some ⟨gp, 0, none⟩) 1 1] W fun e w' => e = .returned (.bool sb) ∧ Below W.heap.size W w') := hid (fun W gp hb hg h0 => by
          have C := check_one i d f (.slice A2 L2 c2) text gp 1 W hg h0 (hv2.below (hbx W hb)) HS2.out (hK.below (hbx W hb))
          unfold checkB at C
          rw [HT.out, HDA.out, HX.out, HMAY.out, HSB.out, Bool.true_and] at C
          exact C)
        have HCT2 : Hid (∀ (W : World) (gp : Nat), Below wc.heap.size wc W → gp < W.heap.size → W.cell? ⟨gp, 0, none⟩ = some (.slice A2 L2 c2) →
            Calls Tryd.prog 10 #[.int .i64 i, .int .u8 x, .agg D, .slice (some ⟨gp, 0, none⟩) 1 1] W fun e w' => e = .returned (.bool true) ∧ Below W.heap.size W w') := hid (fun W gp hb hg h0 => by
          have C := check_one i d τ (.slice A2 L2 c2) text gp 1 W hg h0 (hv2.below (hbx W hb)) HS2.out (hK.below (hbx W hb))
          unfold checkB at C
          rw [HT.out, HD.out, HX.out, HMAY.out, sameB_self, Bool.and_true] at C
          exact C)
        have HFA : Hid (∀ j, j < 32 → F (2 + j) = bcell (f j)) := hid (fun j _ => by
          rw [← HF.out]
          unfold askF
          rw [if_neg (by omega), if_neg (by omega), Nat.add_sub_cancel_left])
        have heqK := hash_same DK (keyF i) HDK.out
        have heqD := hash_same D τ HD.out
        have heqA : ∀ w' : World, (Op.equalIn 10000 23 (.agg DA) (.agg D)).run Tryd.prog w' = .ok sb w' := fun w' => by
          rw [← HDA.out, ← HD.out, ← HSB.out]
          exact hash_eq f τ w'
        have hl8 : ∀ w' : World, Blk w' T8 32 (fun j => bcell (τ j)) 23 → loadA (tyHide T 23) (.pointer (some ⟨T8, 0, none⟩)) w' = .ok (.value (.agg D)) w' := fun w' h => by
          rw [← HD.out]
          exact loadA_hide (o := 0) HTT.out arrH h (by omega) (fun j _ => by rw [Nat.zero_add])
        have hl9 : ∀ w' : World, Blk w' T9 32 (fun j => bcell (τ j)) 23 → loadA (tyHide T 23) (.pointer (some ⟨T9, 0, none⟩)) w' = .ok (.value (.agg D)) w' := fun w' h => by
          rw [← HD.out]
          exact loadA_hide (o := 0) HTT.out arrH h (by omega) (fun j _ => by rw [Nat.zero_add])
        have hlA : ∀ w' : World, Blk w' G 34 F 25 → loadA (tyHide T 23) (.pointer (some ⟨G, 2, none⟩)) w' = .ok (.value (.agg DA)) w' := fun w' h => by
          rw [← HDA.out]
          exact loadA_hide (o := 2) HTT.out arrH h (by omega) HFA.out
        clear HCT HRT r3 r4 P3 P4 HTD h8 h9 hok9 hwi
        go_upto_region 7 with (fail)
        go_region_held3 (fun w' => Blk w' T8 32 (fun j => bcell (τ j)) 23 ∧ Blk w' T9 32 (fun j => bcell (τ j)) 23 ∧ Blk w' G 34 F 25 ∧ w'.cell? ⟨G, 0, none⟩ = some (.int .i64 i) ∧ w'.cell? ⟨G, 1, none⟩ = some (.int .u8 x))
          ((refine KT.all F0.out F1.out ?_; (first | exact hkt | exact KT.keep hB8 hkt | exact KT.keep hB7 hkt | exact KT.keep (hB6.alloc hB6.size _) hkt | exact KT.keep hB6 hkt | exact KT.keep (hB5.alloc hB5.size _) hkt | exact KT.keep hB5 hkt | exact KT.keep hB4 hkt | exact KT.keep hB0 hkt)))
          (first
            | (go_at_call 5; refine (HAW.out _ hB7).mono ?_; rintro e w8 ⟨rfl, hb8⟩; have hB8 : Below wc.heap.size wc w8 := hB7.trans (hb8.mono hB7.size))
            | (go_at_call 13; refine (HRQ.out _).mono ?_; rintro e wz ⟨rfl, rfl⟩)
            | (go_at_call 12; refine (HQQ.out _).mono ?_; rintro e wz ⟨rfl, rfl⟩)
            | (go_at_call 11; refine (HN.out _).mono ?_; rintro e wz ⟨rfl, rfl⟩)
            | (go_at_call 10; have hB67 : Below wc.heap.size wc (w6.alloc (.cells #[.slice A2 L2 c2] 26)) := hB6.alloc hB6.size _; have C := HCT2.out _ w6.heap.size hB67 (by simp) (new_cell w6 _ _ 0 _ rfl); refine C.mono ?_; clear C; rintro e w7 ⟨rfl, hb7⟩; have hB7 : Below wc.heap.size wc w7 := hB67.trans (hb7.mono hB67.size))
            | (go_at_call 10; have hB56 : Below wc.heap.size wc (w5.alloc (.cells #[.slice A2 L2 c2] 26)) := hB5.alloc hB5.size _; have C := HCK.out _ w5.heap.size hB56 (by simp) (new_cell w5 _ _ 0 _ rfl); refine C.mono ?_; clear C; rintro e w6 ⟨rfl, hb6⟩; have hB6 : Below wc.heap.size wc w6 := hB56.trans (hb6.mono hB56.size))
            | (go_at_call 9; refine (HRKEY.out _ hB4).mono ?_; rintro e w5 ⟨rfl, hb5⟩; have hB5 : Below wc.heap.size wc w5 := hB4.trans (hb5.mono hB4.size))
            | (go_at_call 8; refine (HKEY.out _ hB0).mono ?_; rintro e w4 ⟨rfl, hb4⟩; have hB4 : Below wc.heap.size wc w4 := hB0.trans (hb4.mono hB0.size))
            | fail)
        all_goals
          go_wp2_with fail
          go_ret
          exact ⟨rfl, hbx _ hB8⟩
end Go.Proofs.YtakigopjbbhjkaaDoor
