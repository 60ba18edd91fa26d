/-
  The law of sums with a key: any text with any key, in any parts; the key's block; whether any two hashes are alike.
-/
import Derived.Test.YtgcagidkeacheaaDoorMacAwake
import Derived.Test.YtgcagidkeacheaaDoorMacSame
import Derived.Test.YtgcagidkeacheaaDoorRefMac
namespace Go.Proofs.YtgcagidkeacheaaDoor
open Go.RowKit

/-- The cells of two hashes and a place. -/
def twoF (f g : Nat → UInt8) (a : Nat) (j : Nat) : Value := if j < 32 then bcell (f j) else if j < 64 then bcell (g (j - 32)) else .int .u16 (a : Int)

attribute [local go_sem ↓] exec_cutH exec_cutL exec_load_hide

set_option maxRecDepth 100000 in
set_option maxHeartbeats 3200000 in
theorem lawMacOf_any (v1 : Value) (key : List UInt8) (v2 : Value) (text : List UInt8) (f g : Nat → UInt8) (at' : Nat) (w : World) (hv1 : Byt w v1 key) (hv2 : Byt w v2 text) (hat : at' ≤ 65535) (hK : Kst 1 w) (hK0 : Kst 0 w) :
    Calls Tryd.prog 5 #[v1, v2, .agg (fcells 65 (twoF f g at'))] w fun e w' => e = .returned (.bool true) ∧ Below w.heap.size w w' := by
  obtain ⟨A1, c1, rfl⟩ := hv1.shape
  obtain ⟨A2, c2, rfl⟩ := hv2.shape
  have hc1 := hv1.at_.2.1
  have hm1 := hv1.at_.2.2.1
  have hc2 := hv2.at_.2.1
  have hm2 := hv2.at_.2.2.1
  unfold maxLen at hm1 hm2
  obtain ⟨L1, HL1⟩ : ∃ L : Nat, Hid (key.length = L) := ⟨_, hid rfl⟩
  obtain ⟨L2, HL2⟩ : ∃ L : Nat, Hid (text.length = L) := ⟨_, hid rfl⟩
  rw [HL1.out] at hv1 hc1 ⊢
  rw [HL2.out] at hv2 hc2 ⊢
  have hb0 : Below w.heap.size w (w.alloc (.cells (fcells 65 (twoF f g at')) 44)) := (Below.refl _ _).alloc (Nat.le_refl _) _
  have hT0 : Blk (w.alloc (.cells (fcells 65 (twoF f g at')) 44)) w.heap.size 65 (twoF f g at') 44 := Blk.new w _ _ _
  have HT0 := hid hT0
  clear hT0
  by_cases hlong : 300 < L1
  · go_enter Tryd.func5, Tryd.ntmps5
    go_wp2_with fail
    refine (macAwake_any _ (hK.below hb0)).mono ?_
    rintro e w' ⟨rfl, hb⟩
    go_wp2_with fail
    go_ret
    exact ⟨rfl, hb0.trans (hb.mono hb0.size)⟩
  by_cases hlong2 : 500 < L2
  · have hq : ¬ (300 : Int) < (L1 : Int) := by omega
    go_enter Tryd.func5, Tryd.ntmps5
    go_wp2_with fail
    refine (macAwake_any _ (hK.below hb0)).mono ?_
    rintro e w' ⟨rfl, hb⟩
    go_wp2_with fail
    go_ret
    exact ⟨rfl, hb0.trans (hb.mono hb0.size)⟩
  have hq : ¬ (300 : Int) < (L1 : Int) := by omega
  have hq2 : ¬ (500 : Int) < (L2 : Int) := by omega
  have HS1 := hid (show key.length ≤ 1000000 by rw [HL1.out]; omega)
  have HS2 := hid (show text.length ≤ 1000000 by rw [HL2.out]; omega)
  have HS3 := hid (show text.length ≤ 100000 by rw [HL2.out]; omega)
  obtain ⟨k, hk⟩ : ∃ k : Nat, at' % (L2 + 1) = k := ⟨_, rfl⟩
  have hkL : k ≤ L2 := by have := Nat.mod_lt at' (show 0 < L2 + 1 by omega); omega
  have ek : (at' : Int) % ((L2 : Int) + 1) = (k : Int) := by rw [← hk]; exact (Int.natCast_emod at' (L2 + 1)).symm
  clear hk
  obtain ⟨A3, c3, r3, p3⟩ := cut_h A2 c2 L2 k hkL hc2
  obtain ⟨A4, c4, r4, p4⟩ := cut_l A2 c2 L2 k hkL hc2
  have P3 := hid p3
  have P4 := hid p4
  have HTD := hid (List.take_append_drop k text)
  have hc64 := HT0.out.cell (i := 64) (by omega)
  rw [show twoF f g at' 64 = .int .u16 (at' : Int) from rfl] at hc64
  clear p3 p4
  go_enter Tryd.func5, Tryd.ntmps5
  go_wp2_with fail
  generalize w.alloc (.cells (fcells 65 (twoF f g at')) 44) = w0 at *
  refine (refMac_any _ _ key text w0 (hv1.below hb0) (hv2.below hb0) HS1.out HS3.out (hK0.below hb0)).mono ?_
  rintro e w1 ⟨rfl, hb1⟩
  have hT1 := HT0.out.keep hb1
  have hb1' := hb0.trans (hb1.mono hb0.size)
  clear hb1 hb0 HT0 hc64 ek
  go_wp2_with (first
    | (refine wpList_alloc_arr arrH rfl rfl ?_)
    | (refine wpList_store_arr arrH rfl _ _ rfl rfl rfl (Blk.new w1 32 (fun _ => bcell 0) 26) (fun _ _ => rfl) ?_; intro w2 hg2 hH2 hs2))
  have hT2 := (hT1.alloc (.cells (fcells 32 fun _ => bcell 0) 26)).grown hg2 (fun e => by have := Option.some.inj e; have := hT1.lt; omega)
  have hb2 := (hb1'.alloc hb1'.size (.cells (fcells 32 fun _ => bcell 0) 26)).grown hg2 (by have := hb1'.size; simp; omega) (fun k hk => by injection hk; have := hb1'.size; omega)
  obtain ⟨GH, HGH⟩ : ∃ G : Nat, Hid (w1.heap.size = G) := ⟨_, hid rfl⟩
  obtain ⟨GT, HGT⟩ : ∃ G : Nat, Hid (w.heap.size = G) := ⟨_, hid rfl⟩
  rw [HGH.out] at hH2 ⊢
  rw [HGT.out] at hT2 ⊢
  have hv1' := hv1.below hb2
  have hv2' := hv2.below hb2
  have hK2 := hK.below hb2
  have hK02 := hK0.below hb2
  clear hg2 hs2 hT1 hb1'
  obtain ⟨T, HT⟩ : ∃ T : TypeId, Hid (T = 26) := ⟨_, hid rfl⟩
  have hL := tyHide_load HT.out
  simp only [hL]
  clear hL
  obtain ⟨D, HD⟩ : ∃ D : Array Value, Hid (fcells 32 (fun j => bcell (macS key text j)) = D) := ⟨_, hid rfl⟩
  obtain ⟨DA, HDA⟩ : ∃ D : Array Value, Hid (fcells 32 (fun j => bcell (f j)) = D) := ⟨_, hid rfl⟩
  obtain ⟨DB, HDB⟩ : ∃ D : Array Value, Hid (fcells 32 (fun j => bcell (g j)) = D) := ⟨_, hid rfl⟩
  obtain ⟨DK, HDK⟩ : ∃ D : Array Value, Hid (fcells 64 (fun j => bcell (keyB key j)) = D) := ⟨_, hid rfl⟩
  obtain ⟨sb, HSB⟩ : ∃ b : Bool, Hid (sameB f g = b) := ⟨_, hid rfl⟩
  have heq := hash_same D (macS key text) HD.out
  have hek : ∀ w' : World, (Op.equalIn 10000 32 (.agg DK) (.agg DK)).run Tryd.prog w' = .ok true w' := fun w' => by
    rw [← HDK.out]
    exact arrB.eq_self (k := .u8) (by kernel_rfl) (a := fun i => ((keyB key i).toNat : Int)) (fun _ _ => rfl) w'
  have heab : ∀ w' : World, (Op.equalIn 10000 26 (.agg DA) (.agg DB)).run Tryd.prog w' = .ok sb w' := fun w' => by
    rw [← HDA.out, ← HDB.out, ← HSB.out]
    exact hash_eq f g w'
  have hl8 : ∀ w' : World, Blk w' GH 32 (fun j => bcell (macS key text j)) 26 → loadA (tyHide T 26) (.pointer (some ⟨GH, 0, none⟩)) w' = .ok (.value (.agg D)) w' := fun w' h => by
    rw [← HD.out]
    exact loadA_hide (o := 0) HT.out arrH h (by omega) (fun j _ => by rw [Nat.zero_add])
  have hlA : ∀ w' : World, Blk w' GT 65 (twoF f g at') 44 → loadA (tyHide T 26) (.pointer (some ⟨GT, 0, none⟩)) w' = .ok (.value (.agg DA)) w' := fun w' h => by
    rw [← HDA.out]
    exact loadA_hide (o := 0) HT.out arrH h (by omega) (fun j hj => by rw [Nat.zero_add]; exact if_pos hj)
  have hlB : ∀ w' : World, Blk w' GT 65 (twoF f g at') 44 → loadA (tyHide T 26) (.pointer (some ⟨GT, 32, none⟩)) w' = .ok (.value (.agg DB)) w' := fun w' h => by
    rw [← HDB.out]
    exact loadA_hide (o := 32) HT.out arrH h (by omega) (fun j hj => by unfold twoF; rw [if_neg (by omega), if_pos (by omega), Nat.add_sub_cancel_left])
  have CS := macSame_any f g
  have CA := macSame_any f f
  rw [sameB_self] at CA
  rw [HSB.out] at CS
  rw [HDA.out, HDB.out] at CS
  rw [HDA.out] at CA
  have HCS := hid CS
  have HCA := hid CA
  clear CS CA
  have hB1 : Below w2.heap.size w2 (w2.alloc (.cells #[.slice A2 L2 c2] 22)).drew := ((Below.refl _ _).alloc (Nat.le_refl _) _).drew
  have N1 := hid (new_cell_drew w2 #[.slice A2 L2 c2] 22 0 _ rfl)
  go_region_held3 (fun w' => Blk w' GH 32 (fun j => bcell (macS key text j)) 26 ∧ Blk w' GT 65 (twoF f g at') 44)
    (first
      | (refine ⟨hH2, hT2⟩)
      | (refine ⟨hH2.keep hB9, hT2.keep hB9⟩)
      | (refine ⟨hH2.keep hB8, hT2.keep hB8⟩)
      | (refine ⟨hH2.keep hB7, hT2.keep hB7⟩)
      | (refine ⟨hH2.keep hB6, hT2.keep hB6⟩)
      | (refine ⟨hH2.keep hB5, hT2.keep hB5⟩)
      | (refine ⟨hH2.keep hB4, hT2.keep hB4⟩)
      | (refine ⟨hH2.keep (hB2.alloc hB2.size _), hT2.keep (hB2.alloc hB2.size _)⟩)
      | (refine ⟨hH2.keep hB2, hT2.keep hB2⟩)
      | (refine ⟨hH2.keep hB1, hT2.keep hB1⟩)
      | fail)
    (first
      | (go_at_call 18; refine (macAwake_any _ (hK2.below hB8)).mono ?_; rintro e w11 ⟨rfl, hb11⟩; have hB9 : Below w2.heap.size w2 w11 := hB8.trans (hb11.mono hB8.size))
      | (go_at_call 23; (with_reducible refine (HCA.out w9).mono ?_); rintro e w10 ⟨rfl, hb10⟩; have hB8 : Below w2.heap.size w2 w10 := hB7.trans (hb10.mono hB7.size))
      | (go_at_call 23; (with_reducible refine (HCS.out w8).mono ?_); rintro e w9 ⟨rfl, hb9⟩; have hB7 : Below w2.heap.size w2 w9 := hB6.trans (hb9.mono hB6.size))
      | (go_at_call 22; have C := refKey_any (.slice A1 L1 c1) key w7 (hv1'.below hB5) HS1.out (hK02.below hB5); rw [HDK.out] at C; refine C.mono ?_; clear C; rintro e w8 ⟨rfl, hb8⟩; have hB6 : Below w2.heap.size w2 w8 := hB5.trans (hb8.mono hB5.size))
      | (go_at_call 21; have C := keyBlock_any (.slice A1 L1 c1) key w6 (hv1'.below hB4) HS1.out (hK2.below hB4); rw [HDK.out] at C; refine C.mono ?_; clear C; rintro e w7 ⟨rfl, hb7⟩; have hB5 : Below w2.heap.size w2 w7 := hB4.trans (hb7.mono hB4.size))
      | (go_at_call 20; have hB3 : Below w2.heap.size w2 (w5.alloc (.cells #[.slice A3 k c3, .slice A4 (L2 - k) c4] 22)) := hB2.alloc hB2.size _; have C := macOf_two (.slice A1 L1 c1) key (.slice A3 k c3) (.slice A4 (L2 - k) c4) _ _ w5.heap.size 2 _ (hv1'.below hB3) HS1.out (by simp) (new_cell w5 _ _ 0 _ rfl) (new_cell w5 _ _ 1 _ rfl) (P3.out _ text HL2.out (hv2'.below hB3)) (P4.out _ text HL2.out (hv2'.below hB3)) HTD.out HS2.out (hK2.below hB3); rw [HD.out] at C; refine C.mono ?_; clear C; rintro e w6 ⟨rfl, hb6⟩; have hB4 : Below w2.heap.size w2 w6 := hB3.trans (hb6.mono hB3.size))
      | (go_at_call 20; have C := macOf_one (.slice A1 L1 c1) key (.slice A2 L2 c2) text w2.heap.size 1 _ (hv1'.below hB1) HS1.out (by simp) N1.out (hv2'.below hB1) HS2.out (hK2.below hB1); rw [HD.out] at C; refine C.mono ?_; clear C; rintro e w5 ⟨rfl, hb5⟩; have hB2 : Below w2.heap.size w2 w5 := hB1.trans (hb5.mono hB1.size))
      | fail)
  go_wp2_with fail
  go_ret
  exact ⟨rfl, hb2.trans (hB9.mono hb2.size)⟩
end Go.Proofs.YtgcagidkeacheaaDoor
