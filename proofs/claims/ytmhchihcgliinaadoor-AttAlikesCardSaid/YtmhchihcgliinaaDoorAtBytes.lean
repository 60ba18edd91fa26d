/-
  The document's answer for an attestation's bytes: tithingref08.Bytes.
-/
import Derived.Test.YtmhchihcgliinaaDoorBs3
namespace Go.Proofs.YtmhchihcgliinaaDoor
set_option maxRecDepth 20000
open Go.RowKit
attribute [local go_sem ↓] exec_load_att

set_option maxHeartbeats 6400000 in
theorem refBytes8_any (a : AtM) (w : World) (ho : a.Ok) (hm : mayA a = true) :
    Calls Tryd.prog 10 #[.agg (atc a)] w fun e w' => ∃ x, e = .returned x ∧ Own w.heap.size w' x (bytesA a) ∧ Below w.heap.size w w' := by
  obtain ⟨h1, h2, _⟩ := mayA_iff hm
  have HTD := hid (fun W => refTagged_any a W ho hm)
  have hlen := taggedA_len ho hm
  have hb0 : Below w.heap.size w (w.alloc (.cells (atc a) 25)) := (Below.refl _ _).alloc (Nat.le_refl _) _
  have hA := BoxA.new w a
  obtain ⟨C, HC⟩ : ∃ C : Array Value, Hid (atc a = C) := ⟨_, hid rfl⟩
  obtain ⟨O, HO⟩ : ∃ O : List UInt8, Hid (bytesA a = O) := ⟨_, hid rfl⟩
  obtain ⟨M, HM⟩ : ∃ O : List UInt8, Hid (taggedA a = O) := ⟨_, hid rfl⟩
  obtain ⟨G, HG⟩ : ∃ O : List UInt8, Hid (a.tg = O) := ⟨_, hid rfl⟩
  have HGL : Hid (G.length = 32) := hid (by rw [← HG.out]; exact ho.tg)
  have HML : Hid (M.length ≤ 104) := hid (by rw [← HM.out]; exact hlen)
  obtain ⟨o, HBO⟩ := nat_of (i := a.bo) (by omega)
  have HX : Hid (∀ W : World, BoxA W w.heap.size a → W.cell? ⟨w.heap.size, 0, none⟩ = some (.int .i64 (o : Int)) ∧ loadAtt (.pointer (some ⟨w.heap.size, 0, none⟩)) W = .ok (.value (.agg C)) W ∧ W.rangeAt w.heap.size 69 (bcells G)) := hid (fun W h => by
    have e1 := h.cells.1
    have e2 := loadAtt_eq h ho
    have e3 := h.tag ho
    rw [HBO] at e1
    rw [HC.out] at e2
    rw [HG.out] at e3
    exact ⟨e1, e2, e3⟩)
  have HOB : Hid (O = dg o ++ (M ++ G)) := hid (by rw [← HO.out, ← HM.out, ← HG.out]; unfold bytesA; rw [HBO, Int.toNat_natCast])
  have HDO : Hid (dg o = [UInt8.ofNat o]) := hid (dg_small (by omega))
  have hk1 : IntKind.u8.wrap (o : Int) = (o : Int) := by rw [IntKind.wrap_u8']; omega
  have HYB := hid (fun w => one_own w o (by omega))
  have HBG := hid (fun w => refBytes7_arr G w HGL.out)
  rw [HC.out, HM.out] at HTD
  rw [HC.out] at hb0 hA ⊢
  rw [HO.out]
  clear h1 h2 hlen ho hm HBO
  go_enter Tryd.func10, Tryd.ntmps10
  go_upto_region 1 with (fail)
  generalize (w.alloc (.cells C 25)) = w0 at *
  have HXW := hid (fun W (h : Below w0.heap.size w0 W) => HX.out W (hA.keep h))
  have hbd : Below w0.heap.size w0 w0.drew := (Below.refl _ _).drew
  have hbA : Below w0.heap.size w0 (w0.alloc (.cells #[.int .u8 (o : Int)] 5)).drew := ((Below.refl _ _).alloc (Nat.le_refl _) _).drew
  have hoA : Own w0.heap.size (w0.alloc (.cells #[.int .u8 (o : Int)] 5)).drew (.slice (some ⟨w0.heap.size, 0, none⟩) 1 1) [UInt8.ofNat o] := HYB.out w0
  have HA1 := hid hbA
  have HA2 := hid hoA
  have hs0 := hb0.size
  have hu := under_hash
  have hsz : (Tryd.prog.info? 23).map (·.size) = some (bcells G).length := by rw [size_hash, bcells_length, HGL.out]
  clear hbA hoA hA
  go_region_held3 (fun W => W.cell? ⟨w.heap.size, 0, none⟩ = some (.int .i64 (o : Int)) ∧ loadAtt (.pointer (some ⟨w.heap.size, 0, none⟩)) W = .ok (.value (.agg C)) W ∧ W.rangeAt w.heap.size 69 (bcells G))
    (first
      | (refine HXW.out _ hbd)
      | (refine HXW.out _ hb7)
      | (refine HXW.out _ hb5)
      | (refine HXW.out _ hb6)
      | (refine HXW.out _ hb4)
      | (refine HXW.out _ HA1.out)
      | (refine HXW.out _ (hb6.alloc hb6.size _))
      | (refine HXW.out _ (hb4.alloc hb4.size _))
      | fail)
    (first
      | (refine step_append_byt (by rfl) (.tmp 9) (.tmp 12) (by rfl) (by rfl) (by rfl) (ho5.below hb6') ho6.byt (by rw [List.length_append]; have := HML.out; have := HGL.out; simp only [List.length_cons, List.length_nil]; omega) hb6.size ?_; intro v7 w7 ho7 hg7 _; have hb7 := hb6.grown hg7 hb6.size (fun q hq => (World.ownsRow.lt (ho5.below hb6') q hq).1); clear hg7)
      | (refine step_append_byt (by rfl) (.tmp 9) (.tmp 12) (by rfl) (by rfl) (by rfl) ho5 hy6 (by rw [List.length_append]; have := HML.out; have := HGL.out; simp only [List.length_cons, List.length_nil]; omega) hb5.size ?_; intro v7 w7 ho7 hg7 _; have hb7 := hb5.grown hg7 hb5.size (fun q hq => (World.ownsRow.lt ho5 q hq).1); clear hg7)
      | (refine step_append_byt (by rfl) (.tmp 6) (.tmp 8) (by rfl) (by rfl) (by rfl) hoB ho4.byt (by have := HML.out; simp only [List.length_cons, List.length_nil]; omega) hb4.size ?_; intro v5 w5 ho5 hg5 _; have hb5 := hb4.grown hg5 hb4.size (fun q hq => (World.ownsRow.lt hoB q hq).1); clear hg5)
      | (refine step_append_byt (by rfl) (.tmp 6) (.tmp 8) (by rfl) (by rfl) (by rfl) (hoB.below hb6') (ho4.byt.below hb6') (by have := HML.out; simp only [List.length_cons, List.length_nil]; omega) hb6.size ?_; intro v5 w5 ho5 hg5 _; have hb5 := hb6.grown hg5 hb6.size (fun q hq => (World.ownsRow.lt (hoB.below hb6') q hq).1); have hy6 := own_past hoB (Nat.le_refl _) ho6 hg5; clear hg5)
      | (refine step_append_byt (by rfl) (.tmp 6) (.tmp 8) (by rfl) (by rfl) (by rfl) ((HYB.out w4).more hb4.size) (ho4.byt.alloc _) (by have := HML.out; simp only [List.length_cons, List.length_nil]; omega) (Nat.le_trans hb4.size (al_le _ _)) ?_; intro v5 w5 ho5 hg5 _; have hb5 := (hb4.alloc hb4.size _).grown hg5 (Nat.le_trans hb4.size (al_le _ _)) (fun q hq => (World.ownsRow.lt ((HYB.out w4).more hb4.size) q hq).1); clear hg5)
      | (refine step_append_byt (by rfl) (.tmp 6) (.tmp 8) (by rfl) (by rfl) (by rfl) (((HYB.out w4).more hb4.size).below hb6') ((ho4.byt.alloc _).below hb6') (by have := HML.out; simp only [List.length_cons, List.length_nil]; omega) hb6.size ?_; intro v5 w5 ho5 hg5 _; have hb5 := hb6.grown hg5 hb6.size (fun q hq => (World.ownsRow.lt (((HYB.out w4).more hb4.size).below hb6') q hq).1); have hy6 := own_past (HYB.out w4) (Nat.le_refl _) ho6 hg5; clear hg5)
      | (refine step_append_byt (by rfl) (.tmp 6) (.tmp 8) (by rfl) (by rfl) (by rfl) ((HYB.out w6).more hb6.size) ((ho4.byt.below hb6').alloc _) (by have := HML.out; simp only [List.length_cons, List.length_nil]; omega) (Nat.le_trans hb6.size (al_le _ _)) ?_; intro v5 w5 ho5 hg5 _; have hb5 := (hb6.alloc hb6.size _).grown hg5 (Nat.le_trans hb6.size (al_le _ _)) (fun q hq => (World.ownsRow.lt ((HYB.out w6).more hb6.size) q hq).1); have hy6 : Byt w5 v6 G := ((ho6.alloc _).keep fun b hlt e => hg5.block b hlt (fun e' => by have h1 := (World.ownsRow.lt ho6 b e).2; have h2 := (World.ownsRow.lt (HYB.out w6) b e'.symm).1; omega)).byt; clear hg5)
      | (go_at_call 23; (with_reducible refine (HBG.out w5).mono ?_); rintro e w6 ⟨v6, rfl, ho6, hb6'⟩; have hb6 := hb5.trans (hb6'.mono hb5.size))
      | (go_at_call 23; (with_reducible refine (HBG.out w4).mono ?_); rintro e w6 ⟨v6, rfl, ho6, hb6'⟩; have hb6 := hb4.trans (hb6'.mono hb4.size))
      | (go_at_call 23; (with_reducible refine (HBG.out (w4.alloc (.cells #[.int .u8 (o : Int)] 5))).mono ?_); rintro e w6 ⟨v6, rfl, ho6, hb6'⟩; have hb6 := (hb4.alloc hb4.size _).trans (hb6'.mono (Nat.le_trans hb4.size (al_le _ _))))
      | (go_at_call 22; (with_reducible refine (HTD.out (w0.alloc (.cells #[.int .u8 (o : Int)] 5)).drew).mono ?_); rintro e w4 ⟨v4, rfl, ho4, hb4'⟩; have hb4 := HA1.out.trans (hb4'.mono HA1.out.size); have hoB := HA2.out.below hb4')
      | (go_at_call 22; (with_reducible refine (HTD.out w0.drew).mono ?_); rintro e w4 ⟨v4, rfl, ho4, hb4'⟩; have hb4 := hbd.trans hb4')
      | fail)
  all_goals
    go_wp2_with fail
    go_ret
    refine ⟨v7, rfl, ?_, hb0.trans (hb7.mono hs0)⟩
    have e : [UInt8.ofNat o] ++ M ++ G = O := by rw [HOB.out, HDO.out, List.append_assoc]
    have ho8 : Own w0.heap.size w7 v7 ([UInt8.ofNat o] ++ M ++ G) := ho7
    rw [e] at ho8
    exact ho8.more hs0
end Go.Proofs.YtmhchihcgliinaaDoor
