/-
  tithinglaw11.MsgGets returns true, from what msg's functions must tell. Printed with genmgetsw.py.
-/
import Derived.Test.YtjemfmbmlmogcaaGreatMgGet
namespace Go.Proofs.YtjemfmbmlmogcaaGreat
set_option maxRecDepth 20000
open Go.RowKit
attribute [local go_sem ↓] exec_load_mg exec_alloc_mg exec_store_mg
theorem toldM_var {w : World} {x : Value} {m : MgM} (h : MgV w x m) : ∃ X : Array Value, x = .agg X ∧ X.size = 349 ∧
    (∀ Z : Array Value, Z.size = 349 → storeMg (.pointer (some ⟨w.heap.size, 0, none⟩)) (.agg X) (w.alloc (.cells Z 38)) = .ok .skip (w.alloc (.cells X 38))) ∧
    (∀ W, Below (w.alloc (.cells X 38)).heap.size (w.alloc (.cells X 38)) W → loadMg (.pointer (some ⟨w.heap.size, 0, none⟩)) W = .ok (.value (.agg X)) W ∧ MgV W (.agg X) m) := by
  obtain ⟨s1, s2, s3, rfl, ho, e1, e2, e3⟩ := h
  refine ⟨_, rfl, mgc_size _ _ _ ho, fun Z hZ => mg_var w hZ (mgc_size _ _ _ ho) (mgc_one e1 e2 e3), fun W hW => ?_⟩
  have hrow := (hW.block _ (by simp)).trans (heap_alloc_new w (.cells (mgc m s1 s2 s3) 38))
  have hb : Below w.heap.size w W := ((Below.refl _ _).alloc (Nat.le_refl _) _).trans (hW.mono (by simp))
  exact ⟨loadMg_row hrow (mgc_size _ _ _ ho), s1, s2, s3, rfl, ho, e1.below hb, e2.below hb, e3.below hb⟩
set_option maxHeartbeats 6400000 in
theorem lawMsgGets_any (hP : MgPutOk) (hG : MgGetOk) (v : Value) (l : List UInt8) (w : World) (hv : Byt w v l) :
    Calls Tryz.prog 4 #[v] w fun e w' => e = .returned (.bool true) ∧ Below w.heap.size w w' := by
  have HA := hid (fun W => mgAwake_any hP hG W)
  have HP := hid hP
  have HG := hid hG
  have hlen := hv.len
  unfold maxLen at hlen
  obtain ⟨A, c, rfl⟩ := hv.shape
  obtain ⟨L, HL⟩ : ∃ n : Nat, Hid (l.length = n) := ⟨_, hid rfl⟩
  have HV : Hid (∀ W : World, Below w.heap.size w W → Byt W (.slice A L c) l) := hid (fun W h => by have := hv.below h; rw [HL.out] at this; exact this)
  rw [HL.out] at hlen ⊢
  obtain ⟨Z, HZ⟩ : ∃ C : Array Value, Hid (mgc mgZ (.slice none 0 0) (.slice none 0 0) (.slice none 0 0) = C) := ⟨_, hid rfl⟩
  have HAL : Hid (∀ W, allocMg W = .ok (.value (.pointer (some ⟨W.heap.size, 0, none⟩))) (W.alloc (.cells Z 38))) := hid (fun W => by rw [← HZ.out]; exact allocMg_eq W)
  have HSZ : Hid (Z.size = 349) := hid (by rw [← HZ.out]; exact mgc_size _ _ _ mgZ_ok)
  obtain ⟨q, HQ⟩ : ∃ q : Bool, Hid (mgIs l = q) := ⟨_, hid rfl⟩
  obtain ⟨er, HER⟩ : ∃ n : Int, Hid ((if mgIs l = true then (0 : Int) else 2) = n) := ⟨_, hid rfl⟩
  obtain ⟨m, HMG⟩ : ∃ m : MgM, Hid (mgOf l = m) := ⟨_, hid rfl⟩
  clear hP hG hv
  by_cases hL : L ≤ 2500
  · have hi : ¬ (2500 : Int) < (L : Int) := by omega
    go_enter Tryz.func4, Tryz.ntmps4
    have hl9 : ([] : List UInt8).length + l.length ≤ 140737488355328 := by rw [HL.out]; simp only [List.length_nil]; omega
    go_wp2_with (at_builtin; refine wpList_append_byt rfl (.tmp 14) (.tmp 15) rfl rfl rfl (fresh0_own w) (HV.out _ ((Below.refl _ _).alloc (Nat.le_refl _) _)) hl9 (al_le w _) ?_; intro v1 w1 ho1 hg1 hv1; simp only [List.nil_append] at ho1; have hb1 := fresh0_below hg1; clear hg1 hv1)
    have C := HG.out v1 l w1 ho1.byt (by rw [HL.out]; omega)
    rw [HER.out, HMG.out] at C
    refine C.mono ?_
    clear C
    rintro e w2 ⟨x2, rfl, hx2, hb2⟩
    have hB2 := hb1.trans (hb2.mono hb1.size)
    clear ho1 hb1 hb2 hl9 hi
    obtain ⟨X, rfl, hX349, hXs, hXl⟩ := toldM_var hx2
    have HXL := hid hXl
    have hal := HAL.out
    have hs2 := hXs Z HSZ.out
    have hbn : Below w2.heap.size w2 (w2.alloc (.cells X 38)) := (Below.refl _ _).alloc (Nat.le_refl _) _
    have hB3 := hB2.trans (hbn.mono hB2.size)
    clear hXs hXl hx2 hbn hX349
    go_upto_region 4 with (fail)
    generalize w2.alloc (.cells X 38) = w3 at *
    clear hs2
    have C := refGet11_any _ l w3 (HV.out _ hB3) (by rw [HL.out]; omega)
    unfold GmPost at C
    rw [HQ.out, HMG.out] at C
    have HC := hid C
    clear C
    go_wp2_with fail
    refine HC.out.mono ?_
    rintro e w4 ⟨y4, rfl, hy4, hb4⟩
    have hB4 := hB3.trans (hb4.mono hB3.size)
    obtain ⟨Y, rfl, hY349, hYs, hYl⟩ := toldM_var hy4
    have HYL := hid hYl
    have hs4 := hYs Z HSZ.out
    have hbn : Below w4.heap.size w4 (w4.alloc (.cells Y 38)) := (Below.refl _ _).alloc (Nat.le_refl _) _
    have hB5 := hB4.trans (hbn.mono hB4.size)
    have hb5 := hb4.trans (hbn.mono hb4.size)
    clear hYs hYl hy4 hbn hY349 hb4
    go_upto_region 5 with (fail)
    generalize w4.alloc (.cells Y 38) = w5 at *
    clear hs4 hal
    obtain ⟨lx5, bx5⟩ := HXL.out w5 hb5
    obtain ⟨ly5, by5⟩ := HYL.out w5 (Below.refl _ _)
    have C := refSame11_any (.agg X) (.agg Y) m m w5 bx5 by5
    rw [sameM_self] at C
    have HC5 := hid C
    clear C bx5 by5
    go_wp2_with fail
    refine HC5.out.mono ?_
    rintro e w6 ⟨rfl, hb6⟩
    have hB6 := hB5.trans (hb6.mono hB5.size)
    have hb6' := hb5.trans (hb6.mono hb5.size)
    clear lx5 ly5
    cases q with
    | false =>
      obtain rfl : er = 2 := by rw [← HER.out, HQ.out]; rfl
      go_wp2_with fail
      refine (HA.out w6).mono ?_
      rintro e w7 ⟨rfl, hb7⟩
      go_wp2_with fail
      go_ret
      exact ⟨rfl, hB6.trans (hb7.mono hB6.size)⟩
    | true =>
      obtain ⟨hm, hbl⟩ := mgIs_so HQ.out
      have hlim := rawM_lim l
      have hraw : rawM l = m := by rw [← HMG.out]; unfold mgOf; rw [if_pos HQ.out]
      rw [hraw] at hlim
      rw [HMG.out] at hm hbl
      obtain ⟨lx6, bx6⟩ := HXL.out w6 hb6'
      obtain rfl : er = 0 := by rw [← HER.out, HQ.out]; rfl
      have C := HP.out (.agg X) m w6 bx6 hlim
      rw [if_pos hm, if_pos hm, hbl] at C
      have HC6 := hid C
      clear C hm hbl hlim hraw bx6
      go_wp2_with fail
      refine HC6.out.mono ?_
      rintro e w7 ⟨x7, rfl, hx7, hb7⟩
      have hB7 := hB6.trans (hb7.mono hB6.size)
      obtain ⟨A7, c7, rfl⟩ := hx7.shape
      rw [HL.out] at hx7 ⊢
      clear lx6
      go_wp2_with fail
      refine (same_yes _ _ l w7 hx7 (HV.out _ hB7)).mono ?_
      rintro e w8 ⟨rfl, k8, rfl⟩
      have hB8 := below_drewN hB7 k8
      go_wp2_with fail
      refine (HA.out _).mono ?_
      rintro e w9 ⟨rfl, hb9⟩
      go_wp2_with fail
      go_ret
      exact ⟨rfl, hB8.trans (hb9.mono hB8.size)⟩
  · have hi : (2500 : Int) < (L : Int) := by omega
    go_enter Tryz.func4, Tryz.ntmps4
    go_wp2_with fail
    refine (HA.out w).mono ?_
    rintro e w1 ⟨rfl, hb1⟩
    go_wp2_with fail
    go_ret
    exact ⟨rfl, hb1⟩
end Go.Proofs.YtjemfmbmlmogcaaGreat
