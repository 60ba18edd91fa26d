/-
  The law of keys: noughts behind a key of up to 64 bytes, and its sum in place of a longer one, make no difference.
-/
import Derived.Test.YtgcagidkeacheaaDoorMacAwake
import Derived.Test.YtgcagidkeacheaaDoorMacSame
import Derived.Test.YtgcagidkeacheaaDoorRefMac
import Derived.Test.YtgcagidkeacheaaDoorZeros
namespace Go.Proofs.YtgcagidkeacheaaDoor
open Go.RowKit

theorem keyB_sum {key : List UInt8} (h : 64 < key.length) : ∀ j, j < 64 → keyB (hl 32 (sumS key)) j = keyB key j := fun j _ => by
  rw [keyB_long h, keyB_short (by rw [hl_length]; omega)]
  by_cases hj : j < 32
  · rw [if_pos hj, hl_getD _ _ hj]
  · rw [if_neg hj, List.getD_eq_getElem?_getD, List.getElem?_eq_none (by rw [hl_length]; omega)]
    rfl
theorem keyB_zeros {key : List UInt8} {k : Nat} (h : key.length + k ≤ 64) : ∀ j, j < 64 → keyB (key ++ List.replicate k 0) j = keyB key j := fun j _ => by
  rw [keyB_short (key := key ++ List.replicate k 0) (by rw [List.length_append, List.length_replicate]; omega), keyB_short (key := key) (by omega), List.getD_eq_getElem?_getD, List.getD_eq_getElem?_getD]
  by_cases hj : j < key.length
  · rw [List.getElem?_append_left hj]
  · rw [List.getElem?_append_right (by omega), List.getElem?_eq_none (l := key) (by omega)]
    by_cases hk : j - key.length < k
    · rw [List.getElem?_replicate, if_pos hk]
      rfl
    · rw [List.getElem?_replicate, if_neg hk]

set_option maxRecDepth 100000 in
set_option maxHeartbeats 3200000 in
theorem macKeys_any (v1 : Value) (key : List UInt8) (v2 : Value) (text : List UInt8) (nn : Nat) (w : World) (hv1 : Byt w v1 key) (hv2 : Byt w v2 text) (hn : nn ≤ 255) (hK : Kst 1 w) (hK0 : Kst 0 w) :
    Calls Tryd.prog 6 #[v1, v2, .int .u8 (nn : Int)] w fun e w' => e = .returned (.bool true) ∧ Below w.heap.size w w' := by
  obtain ⟨A1, c1, rfl⟩ := hv1.shape
  obtain ⟨A2, c2, rfl⟩ := hv2.shape
  have hc1 := hv1.at_.2.1
  have hm1 := hv1.at_.2.2.1
  have hc2 := hv2.at_.2.1
  have hm2 := hv2.at_.2.2.1
  unfold maxLen at hm1 hm2
  obtain ⟨L1, HL1⟩ : ∃ L : Nat, Hid (key.length = L) := ⟨_, hid rfl⟩
  obtain ⟨L2, HL2⟩ : ∃ L : Nat, Hid (text.length = L) := ⟨_, hid rfl⟩
  rw [HL1.out] at hv1 hc1 ⊢
  rw [HL2.out] at hv2 hc2 ⊢
  by_cases hlong : 300 < L1
  · go_enter Tryd.func6, Tryd.ntmps6
    go_wp2_with fail
    refine (macAwake_any _ hK).mono ?_
    rintro e w' ⟨rfl, hb⟩
    go_wp2_with fail
    go_ret
    exact ⟨rfl, hb⟩
  by_cases hlong2 : 500 < L2
  · have hq : ¬ (300 : Int) < (L1 : Int) := by omega
    go_enter Tryd.func6, Tryd.ntmps6
    go_wp2_with fail
    refine (macAwake_any _ hK).mono ?_
    rintro e w' ⟨rfl, hb⟩
    go_wp2_with fail
    go_ret
    exact ⟨rfl, hb⟩
  have hq : ¬ (300 : Int) < (L1 : Int) := by omega
  have hq2 : ¬ (500 : Int) < (L2 : Int) := by omega
  have HS1 := hid (show key.length ≤ 1000000 by rw [HL1.out]; omega)
  have HS2 := hid (show text.length ≤ 1000000 by rw [HL2.out]; omega)
  obtain ⟨D, HD⟩ : ∃ D : Array Value, Hid (fcells 32 (fun j => bcell (macS key text j)) = D) := ⟨_, hid rfl⟩
  have heq := hash_same D (macS key text) HD.out
  by_cases h64 : 64 < L1
  · have hq3 : (64 : Int) < (L1 : Int) := by omega
    have HM := hid (macS_congr (keyB_sum (key := key) (by rw [HL1.out]; exact h64)) text)
    go_enter Tryd.func6, Tryd.ntmps6
    go_wp2_with fail
    refine (refOf_any _ key w hv1 HS1.out hK0).mono ?_
    rintro e w1 ⟨rfl, hb1⟩
    go_wp2_with (first
      | (refine wpList_alloc_arr arrH rfl rfl ?_)
      | (refine wpList_store_arr arrH rfl _ _ rfl rfl rfl (Blk.new w1 32 (fun _ => bcell 0) 26) (fun _ _ => rfl) ?_; intro w2 hg2 hH2 hs2))
    have hb2 : Below w.heap.size w w2 := (hb1.alloc hb1.size (.cells (fcells 32 fun _ => bcell 0) 26)).grown hg2 (by have := hb1.size; simp; omega) (fun k hk => by injection hk; have := hb1.size; omega)
    have hlt2 := hH2.lt
    obtain ⟨H, HH⟩ : ∃ g : Nat, Hid (w1.heap.size = g) := ⟨_, hid rfl⟩
    rw [HH.out] at hH2 hlt2 ⊢
    clear hg2 hs2 hb1
    have hv1' := hv1.below hb2
    have hv2' := hv2.below hb2
    have hK2 := hK.below hb2
    have hH2' := byt_blk hH2 (by unfold maxLen; omega)
    obtain ⟨o, HO⟩ : ∃ o : Obj, Hid (Obj.cells #[.slice A2 L2 c2] 22 (0, 0) = o) := ⟨_, hid rfl⟩
    have hB1 : Below w2.heap.size w2 (w2.alloc (.cells #[.slice A2 L2 c2] 22)).drew := ((Below.refl _ _).alloc (Nat.le_refl _) _).drew
    have hB2 : Below w2.heap.size w2 ((w2.alloc (.cells #[.slice A2 L2 c2] 22)).alloc (.cells #[.slice A2 L2 c2] 22)).drew := (((Below.refl _ _).alloc (Nat.le_refl _) _).alloc (by simp) _).drew
    have n1 : (w2.alloc (.cells #[.slice A2 L2 c2] 22)).drew.cell? ⟨w2.heap.size, 0, none⟩ = some (.slice A2 L2 c2) := new_cell_drew w2 #[.slice A2 L2 c2] 22 0 _ rfl
    have n2 : ((w2.alloc (.cells #[.slice A2 L2 c2] 22)).alloc (.cells #[.slice A2 L2 c2] 22)).drew.cell? ⟨w2.heap.size, 0, none⟩ = some (.slice A2 L2 c2) := (cell_of_row _ _ _ _ _ _ (heap1 w2 _ _)).trans rfl
    have n3 : ((w2.alloc (.cells #[.slice A2 L2 c2] 22)).alloc (.cells #[.slice A2 L2 c2] 22)).drew.cell? ⟨w2.heap.size + 1, 0, none⟩ = some (.slice A2 L2 c2) := (cell_of_row _ _ _ _ _ _ (heap2 w2 _ _)).trans rfl
    have N1 := hid n1
    have N2 := hid n2
    have N3 := hid n3
    clear n1 n2 n3
    go_wp2_with fail
    go_region_held3 (fun _ => True)
      (trivial)
      (first
        | (go_at_call 18; refine (macAwake_any _ (hK2.below hB6)).mono ?_; rintro e w7 ⟨rfl, hb7⟩; have hB7 : Below w2.heap.size w2 w7 := hB6.trans (hb7.mono hB6.size))
        | (go_at_call 20; have C := macOf_one (.slice (some ⟨H, 0, none⟩) 32 32) (hl 32 (sumS key)) (.slice A2 L2 c2) text w5.heap.size 1 (w5.alloc (.cells #[.slice A2 L2 c2] 22)) (hH2'.below (hB5.alloc hB5.size _)) (by rw [hl_length]; omega) (by simp) (new_cell w5 _ _ 0 _ rfl) (hv2'.below (hB5.alloc hB5.size _)) HS2.out (hK2.below (hB5.alloc hB5.size _)); rw [HM.out, HD.out] at C; (with_reducible refine C.mono ?_); clear C; rintro e w6 ⟨rfl, hb6⟩; have hB6 : Below w2.heap.size w2 w6 := (hB5.alloc hB5.size _).trans (hb6.mono (hB5.alloc hB5.size _).size))
        | (go_at_call 20; have C := macOf_one (.slice (some ⟨H, 0, none⟩) 32 32) (hl 32 (sumS key)) (.slice A2 L2 c2) text w2.heap.size 1 w5 (hH2'.below hB5) (by rw [hl_length]; omega) hl5 x1 (hv2'.below hB5) HS2.out (hK2.below hB5); rw [HM.out, HD.out] at C; (with_reducible refine C.mono ?_); clear C; rintro e w6 ⟨rfl, hb6⟩; have hB6 : Below w2.heap.size w2 w6 := hB5.trans (hb6.mono hB5.size))
        | (go_at_call 20; have C := macOf_one (.slice (some ⟨H, 0, none⟩) 32 32) (hl 32 (sumS key)) (.slice A2 L2 c2) text (w2.heap.size + 1) 1 w5 (hH2'.below hB5) (by rw [hl_length]; omega) hl5' x2 (hv2'.below hB5) HS2.out (hK2.below hB5); rw [HM.out, HD.out] at C; (with_reducible refine C.mono ?_); clear C; rintro e w6 ⟨rfl, hb6⟩; have hB6 : Below w2.heap.size w2 w6 := hB5.trans (hb6.mono hB5.size))
        | (go_at_call 20; have C := macOf_one (.slice A1 L1 c1) key (.slice A2 L2 c2) text w2.heap.size 1 _ (hv1'.below hB1) HS1.out (by simp) N1.out (hv2'.below hB1) HS2.out (hK2.below hB1); rw [HD.out] at C; (with_reducible refine C.mono ?_); clear C; rintro e w5 ⟨rfl, hb5⟩; have hB5 : Below w2.heap.size w2 w5 := hB1.trans (hb5.mono hB1.size))
        | (go_at_call 20; have C := macOf_one (.slice A1 L1 c1) key (.slice A2 L2 c2) text w2.heap.size 1 _ (hv1'.below hB2) HS1.out (by simp; omega) N2.out (hv2'.below hB2) HS2.out (hK2.below hB2); rw [HD.out] at C; (with_reducible refine C.mono ?_); clear C; rintro e w5 ⟨rfl, hb5⟩; have hB5 : Below w2.heap.size w2 w5 := hB2.trans (hb5.mono hB2.size); have x2 := (hb5.cell (p := ⟨w2.heap.size + 1, 0, none⟩) (by simp)).trans N3.out; have hl5' : w2.heap.size + 1 < w5.heap.size := Nat.lt_of_lt_of_le (by simp) hb5.size)
        | (go_at_call 20; have C := macOf_one (.slice A1 L1 c1) key (.slice A2 L2 c2) text (w2.heap.size + 1) 1 _ (hv1'.below hB2) HS1.out (by simp) N3.out (hv2'.below hB2) HS2.out (hK2.below hB2); rw [HD.out] at C; (with_reducible refine C.mono ?_); clear C; rintro e w5 ⟨rfl, hb5⟩; have hB5 : Below w2.heap.size w2 w5 := hB2.trans (hb5.mono hB2.size); have x1 := (hb5.cell (p := ⟨w2.heap.size, 0, none⟩) (by simp; omega)).trans N2.out; have hl5 : w2.heap.size < w5.heap.size := Nat.lt_of_lt_of_le (by simp; omega) hb5.size)
        | fail)
    all_goals
      go_wp2_with fail
      go_ret
      exact ⟨rfl, hb2.trans (hB7.mono hb2.size)⟩
  · have hq3 : ¬ (64 : Int) < (L1 : Int) := by omega
    obtain ⟨m, HMm⟩ : ∃ m : Nat, Hid (65 - L1 = m) := ⟨_, hid rfl⟩
    obtain ⟨k, HKk⟩ : ∃ k : Nat, Hid (nn % m = k) := ⟨_, hid rfl⟩
    have hm0 : 0 < m := by have := HMm.out; omega
    have hkm : k < m := by rw [← HKk.out]; exact Nat.mod_lt _ hm0
    have hkl : L1 + k ≤ 64 := by have := HMm.out; omega
    have q1 : IntKind.i64.wrap (65 - (L1 : Int)) = (m : Int) := by rw [IntWalk.i64_in _ (by omega)]; have := HMm.out; omega
    have q2 : (nn : Int).tmod (m : Int) = (k : Int) := by
      rw [Int.tmod_eq_emod_of_nonneg (by omega), ← HKk.out]
      exact (Int.natCast_emod nn m).symm
    have q3 : (nn : Int) % (m : Int) = (k : Int) := by
      rw [← HKk.out]
      exact (Int.natCast_emod nn m).symm
    have q4 : (m : Int) ≠ 0 := by omega
    have q5 : 0 < (m : Int) := by omega
    have q7 : IntKind.i64.wrap (nn : Int) = (nn : Int) := IntWalk.i64_in _ (by omega)
    have q8 : IntKind.i64.wrap (k : Int) = (k : Int) := IntWalk.i64_in _ (by omega)
    have q9 : ((m : Int) == 0) = false := by simp; omega
    have q10 : m ≠ 0 := by omega
    have HM := hid (macS_congr (keyB_zeros (key := key) (k := k) (by rw [HL1.out]; exact hkl)) text)
    have hB0 : Below w.heap.size w (w.alloc (.cells #[] 5)).drew := ((Below.refl _ _).alloc (Nat.le_refl _) _).drew
    have ho0 : Own w.heap.size (w.alloc (.cells #[] 5)).drew (.slice (some ⟨w.heap.size, 0, none⟩) 0 0) [] := World.ownsRow_made w #[] 0 (Nat.le_refl _) (Nat.zero_le _) rfl
    have hr1 : ([] : List UInt8).length + key.length ≤ 140737488355328 := by rw [HL1.out]; simp; omega
    have hr2 : ([] ++ key : List UInt8).length + k ≤ 140737488355328 := by rw [List.nil_append, HL1.out]; omega
    have hv10 := hv1.below hB0
    have hs0 := hB0.size
    go_enter Tryd.func6, Tryd.ntmps6
    go_wp2_with fail
    go_region_held3 (fun _ => True)
      (trivial)
      (first
        | (refine step_append_byt (by rfl) (.tmp 35) (.tmp 36) (by rfl) (by rfl) (by rfl) ho0 hv10 hr1 hs0 ?_; intro v3 w3 hown3 hg3 hd3; have hB3 : Below w.heap.size w w3 := hB0.grown hg3 hs0 (fun k hk => (World.ownsRow.lt ho0 k hk).1))
        | (refine step_append_zeros (k := k) (by rfl) (.tmp 37) (.tmp 43) (by rfl) (by rfl) (by rfl) hown3 hr2 hB3.size ?_; intro v4 w4 hown4 hg4 hd4; have hB4 : Below w.heap.size w w4 := hB3.grown hg4 hB3.size (fun k hk => (World.ownsRow.lt hown3 k hk).1))
        | fail)
    rw [List.nil_append] at hown4
    have hk4 := hown4.byt
    have hv14 := hv1.below hB4
    have hv24 := hv2.below hB4
    have hK4 := hK.below hB4
    have hBo : Below w4.heap.size w4 (w4.alloc (.cells #[.slice A2 L2 c2] 22)) := (Below.refl _ _).alloc (Nat.le_refl _) _
    have HSk := hid (show (key ++ List.replicate k 0).length ≤ 1000000 by rw [List.length_append, HL1.out, List.length_replicate]; omega)
    clear hown3 hown4 hg3 hg4 hd3 hd4 hB0 ho0 hr1 hr2 hv10 hs0 hB3 q1 q2 q3 q4 q5 q7 q8 q9 q10 hv1 hv2
    go_wp2_with fail
    have C := macOf_one (.slice A1 L1 c1) key (.slice A2 L2 c2) text w4.heap.size 1 _ (hv14.below hBo) HS1.out (by simp) (new_cell w4 _ _ 0 _ rfl) (hv24.below hBo) HS2.out (hK4.below hBo)
    rw [HD.out] at C
    refine C.mono ?_
    clear C
    rintro e w5 ⟨rfl, hb5⟩
    have hB5 := hBo.trans (hb5.mono hBo.size)
    have hBo5 : Below w4.heap.size w4 (w5.alloc (.cells #[.slice A2 L2 c2] 22)) := hB5.alloc hB5.size _
    have C := macOf_one v4 (key ++ List.replicate k 0) (.slice A2 L2 c2) text w5.heap.size 1 _ (hk4.below hBo5) HSk.out (by simp) (new_cell w5 _ _ 0 _ rfl) (hv24.below hBo5) HS2.out (hK4.below hBo5)
    rw [HM.out, HD.out] at C
    have HC := hid C
    clear C hBo hb5
    go_wp2_with fail
    refine HC.out.mono ?_
    rintro e w6 ⟨rfl, hb6⟩
    have hB6 := hBo5.trans (hb6.mono hBo5.size)
    clear HC hb6 hBo5 hB5
    go_wp2_with fail
    refine (macAwake_any _ (hK4.below hB6)).mono ?_
    rintro e w7 ⟨rfl, hb7⟩
    have hB7 := hB6.trans (hb7.mono hB6.size)
    go_wp2_with fail
    go_ret
    exact ⟨rfl, hB4.trans (hB7.mono hB4.size)⟩
end Go.Proofs.YtgcagidkeacheaaDoor
