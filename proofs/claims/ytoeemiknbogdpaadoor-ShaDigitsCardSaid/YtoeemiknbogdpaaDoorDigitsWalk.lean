/-
  The law of digits: any hash in digits, that they are read, and which hash any text is.
-/
import Derived.Test.YtoeemiknbogdpaaDoorRefUnhex
import Derived.Test.YtoeemiknbogdpaaDoorShaAwake
namespace Go.Proofs.YtoeemiknbogdpaaDoor
open Go.RowKit

theorem hexS_ok (h : Nat → UInt8) : okB (hexS h 32) = true := by
  unfold okB
  rw [Bool.and_eq_true]
  refine ⟨decide_eq_true (hexS_length h 32), List.all_eq_true.2 fun c hc => hex_digits h 32 c hc⟩
theorem hexS_at (h : Nat → UInt8) : ∀ n i, i < n → (hexS h n).getD (2 * i) 0 = dgt ((h i).toNat / 16) ∧ (hexS h n).getD (2 * i + 1) 0 = dgt ((h i).toNat % 16)
  | 0, _, hi => by omega
  | n + 1, i, hi => by
    have hl := hexS_length h n
    unfold hexS
    by_cases e : i = n
    · subst e
      have h0 := getD_right (l := hexS h i) (m := [dgt ((h i).toNat / 16), dgt ((h i).toNat % 16)]) (j := 0)
      have h1 := getD_right (l := hexS h i) (m := [dgt ((h i).toNat / 16), dgt ((h i).toNat % 16)]) (j := 1)
      rw [hl] at h0 h1
      exact ⟨h0, h1⟩
    · rw [getD_left (by omega), getD_left (by omega)]
      exact hexS_at h n i (by omega)
theorem dv_dgt (m : Nat) (h : m < 16) : (dv ((dgt m).toNat : Int)).toNat = m := by
  have h2 : ∀ m : Fin 16, (dv ((dgt m.val).toNat : Int)).toNat = m.val := by decide +kernel
  exact h2 ⟨m, h⟩
theorem unh_hex (h : Nat → UInt8) (i : Nat) (hi : i < 32) : unh (hexS h 32) i = h i := by
  obtain ⟨e0, e1⟩ := hexS_at h 32 i hi
  have hb := (byte_lt (h i)).2
  rw [unh_ok (hexS_ok h)]
  unfold val2 yv
  rw [e0, e1, dv_dgt _ (by omega), dv_dgt _ (by omega)]
  apply UInt8.toNat_inj.1
  rw [UInt8.toNat_ofNat']
  omega

theorem unhex_back (h : Nat → UInt8) (w : World) :
    Calls Tryd.prog 18 #[.string ⟨(hexS h 32).toArray⟩] w fun e w' => e = .returned (.tuple #[.agg (fcells 32 fun j => bcell (h j)), .bool true]) ∧ Below w.heap.size w w' := by
  have hd : (⟨(hexS h 32).toArray⟩ : ByteArray).data.toList = hexS h 32 := by simp
  have C := unhex_any ⟨(hexS h 32).toArray⟩ w (by show (hexS h 32).toArray.size ≤ 1000000; simp [hexS_length])
  rw [hd, hexS_ok h, fcells_congr (f := fun j => bcell (unh (hexS h 32) j)) (g := fun j => bcell (h j)) fun i hi => by rw [unh_hex h i hi]] at C
  exact C

attribute [local go_sem ↓] exec_load_H

set_option maxHeartbeats 3200000 in
theorem digits_any (h : Nat → UInt8) (s : ByteArray) (w : World) (hK : Kst 1 w) (hs : s.size ≤ maxLen) :
    Calls Tryd.prog 5 #[.agg (fcells 32 fun j => bcell (h j)), .string s] w fun e w' => e = .returned (.bool true) ∧ Below w.heap.size w w' := by
  unfold maxLen at hs
  have hA : Blk (w.alloc (.cells (fcells 32 fun j => bcell (h j)) 26)) w.heap.size 32 (fun j => bcell (h j)) 26 := Blk.new w _ _ _
  have hb0 : Below w.heap.size w (w.alloc (.cells (fcells 32 fun j => bcell (h j)) 26)) := (Below.refl _ _).alloc (Nat.le_refl _) _
  have hK0 := hK.below hb0
  have hz0 : (w.alloc (.cells (fcells 32 fun j => bcell (h j)) 26)).heap.size = w.heap.size + 1 := by simp
  have HZ0 := hid hz0
  clear hz0
  by_cases hlong : 200 < s.size
  · have hq : (200 : Int) < (s.size : Int) := by omega
    go_enter Tryd.func5, Tryd.ntmps5
    go_wp2_with fail
    refine (awake_any _ hK0).mono ?_
    rintro e w' ⟨rfl, hb⟩
    go_wp2_with fail
    go_ret
    exact ⟨rfl, hb0.trans (hb.mono hb0.size)⟩
  · have hq : ¬ (200 : Int) < (s.size : Int) := by omega
    go_enter Tryd.func5, Tryd.ntmps5
    go_wp2_with fail
    generalize w.alloc (.cells (fcells 32 fun j => bcell (h j)) 26) = w0 at *
    refine (unhex_any s w0 (by omega)).mono ?_
    obtain ⟨K, HK⟩ : ∃ k : Bool, Hid (okB s.data.toList = k) := ⟨_, hid rfl⟩
    obtain ⟨X, HX⟩ : ∃ f : Nat → UInt8, Hid ((fun j => unh s.data.toList j) = f) := ⟨_, hid rfl⟩
    have CR := fun w => refUnhex_any s w (by omega)
    have hfx : (fun j => bcell (unh s.data.toList j)) = fun j => bcell (X j) := by rw [← HX.out]
    simp only [HK.out, hfx] at CR ⊢
    have CRh := hid CR
    clear CR hfx
    rintro e w1 ⟨rfl, hb1⟩
    have hA1 := hA.keep hb1
    have hbw1 := hb0.trans (hb1.mono (by have := HZ0.out; omega))
    clear hA hb1
    go_wp2_with (first
      | (refine wpList_alloc_arr arrH rfl rfl ?_)
      | (refine wpList_store_arr arrH rfl _ _ rfl rfl rfl (Blk.new w1 32 (fun _ => bcell 0) 26) (fun _ _ => rfl) ?_; intro w2 hg2 hX2 hs2))
    obtain ⟨G1, HG1⟩ : ∃ g : Nat, Hid (w1.heap.size = g) := ⟨_, hid rfl⟩
    have hA2 := (hA1.alloc _).grown hg2 (fun e => by have := Option.some.inj e; have := hA1.lt; omega)
    have hbw2 := (hbw1.alloc hbw1.size _).grown hg2 (by have := hbw1.size; simp; omega) (fun k hk => by injection hk; have := hbw1.size; omega)
    have hlt1 := hA1.lt
    rw [HG1.out] at hX2 hlt1 ⊢
    clear hg2 hs2 hA1 hbw1
    refine (CRh.out w2).mono ?_
    rintro e w3 ⟨rfl, hb3⟩
    have hA3 := hA2.keep hb3
    have hX3 := hX2.keep hb3
    have hbw3 := hbw2.trans (hb3.mono hbw2.size)
    clear hA2 hX2 hbw2 hb3
    go_wp2_with (first
      | (refine wpList_alloc_arr arrH rfl rfl ?_)
      | (refine wpList_store_arr arrH rfl _ _ rfl rfl rfl (Blk.new w3 32 (fun _ => bcell 0) 26) (fun _ _ => rfl) ?_; intro w4 hg4 hY4 hs4; have hA4 := (hA3.alloc (.cells (fcells 32 fun _ => bcell 0) 26)).grown hg4 (fun e => by have := Option.some.inj e; have := hA3.lt; omega))
      | (refine wpList_load_arr arrH rfl _ rfl rfl hA4 ?_))
    obtain ⟨G2, HG2⟩ : ∃ g : Nat, Hid (w3.heap.size = g) := ⟨_, hid rfl⟩
    have hX4 := (hX3.alloc (.cells (fcells 32 fun _ => bcell 0) 26)).grown hg4 (fun e => by have := Option.some.inj e; have := hX3.lt; omega)
    have hbw4 := (hbw3.alloc hbw3.size (.cells (fcells 32 fun _ => bcell 0) 26)).grown hg4 (by have := hbw3.size; simp; omega) (fun k hk => by injection hk; have := hbw3.size; omega)
    rw [HG2.out] at hY4 ⊢
    clear hg4 hs4 hA3 hX3 hbw3
    obtain ⟨T, HT⟩ : ∃ T : List UInt8, Hid (hexS h 32 = T) := ⟨_, hid rfl⟩
    have CX := hex_any h w4
    have CU := unhex_back h
    have CF := refHex_any h
    rw [HT.out] at CX
    simp only [HT.out] at CU CF
    refine CX.mono ?_
    clear CX
    rintro e w5 ⟨rfl, hb5⟩
    have hA5 := hA4.keep hb5
    have hX5 := hX4.keep hb5
    have hY5 := hY4.keep hb5
    have hbw5 := hbw4.trans (hb5.mono hbw4.size)
    have CUh := hid CU
    have CFh := hid CF
    clear hA4 hX4 hY4 hbw4 hb5 CU CF
    go_wp2_with fail
    refine (CUh.out w5).mono ?_
    rintro e w6 ⟨rfl, hb6⟩
    have hA6 := hA5.keep hb6
    have hX6 := hX5.keep hb6
    have hY6 := hY5.keep hb6
    have hbw6 := hbw5.trans (hb6.mono hbw5.size)
    clear hA5 hX5 hY5 hbw5 hb6
    have hu8 : Tryd.prog.underlying 5 = some (.int .u8) := by kernel_rfl
    have eqX := arrH.eq_self hu8 (f := fun j => bcell (X j)) (a := fun i => ((X i).toNat : Int)) (fun _ _ => rfl)
    have eqH := arrH.eq_self hu8 (f := fun j => bcell (h j)) (a := fun i => ((h i).toNat : Int)) (fun _ _ => rfl)
    clear hu8
    go_wp2_with (first
      | (refine wpList_alloc_arr arrH rfl rfl ?_)
      | (refine wpList_store_arr arrH rfl _ _ rfl rfl rfl (Blk.new w6 32 (fun _ => bcell 0) 26) (fun _ _ => rfl) ?_; intro w7 hg7 hZ7 hs7; have hX7 := (hX6.alloc (.cells (fcells 32 fun _ => bcell 0) 26)).grown hg7 (fun e => by have := Option.some.inj e; have := hX6.lt; omega); have hY7 := (hY6.alloc (.cells (fcells 32 fun _ => bcell 0) 26)).grown hg7 (fun e => by have := Option.some.inj e; have := hY6.lt; omega); have hA7 := (hA6.alloc (.cells (fcells 32 fun _ => bcell 0) 26)).grown hg7 (fun e => by have := Option.some.inj e; have := hA6.lt; omega); have lX := loadA_eq (o := 0) (f' := fun j => bcell (X j)) arrH hX7 (by omega) (fun j _ => by rw [Nat.zero_add]); have lY := loadA_eq (o := 0) (f' := fun j => bcell (X j)) arrH hY7 (by omega) (fun j _ => by rw [Nat.zero_add]); have lA := loadA_eq (o := 0) (f' := fun j => bcell (h j)) arrH hA7 (by omega) (fun j _ => by rw [Nat.zero_add])))
    have hbw7 := (hbw6.alloc hbw6.size (.cells (fcells 32 fun _ => bcell 0) 26)).grown hg7 (by have := hbw6.size; simp; omega) (fun k hk => by injection hk; have := hbw6.size; omega)
    refine (CFh.out w7).mono ?_
    rintro e w8 ⟨rfl, hb8⟩
    have hA8 := hA7.keep hb8
    have hZ8 := hZ7.keep hb8
    have hbw8 := hbw7.trans (hb8.mono hbw7.size)
    clear lX lY lA
    have lA := loadA_eq (o := 0) (f' := fun j => bcell (h j)) arrH hA8 (by omega) (fun j _ => by rw [Nat.zero_add])
    have lZ := loadA_eq (o := 0) (f' := fun j => bcell (h j)) arrH hZ8 (by omega) (fun j _ => by rw [Nat.zero_add])
    clear hg7 hs7 hA7 hX7 hY7 hZ7 hA6 hX6 hY6 hbw6 hbw7 hb8
    go_wp2_with fail
    refine (awake_any _ (hK.below hbw8)).mono ?_
    rintro e w9 ⟨rfl, hb9⟩
    go_wp2_with fail
    go_ret
    exact ⟨rfl, hbw8.trans (hb9.mono hbw8.size)⟩
end Go.Proofs.YtoeemiknbogdpaaDoor
