/-
  The law of steps: the sum of any text is the words of the state behind each block of it, filled.
-/
import Derived.Test.YtoeemiknbogdpaaDoorFillS
import Derived.Test.YtoeemiknbogdpaaDoorShaAwake
namespace Go.Proofs.YtoeemiknbogdpaaDoor
open Go.RowKit

theorem of_one (v : Value) (l : List UInt8) (gp c : Nat) (w : World) (hg : gp < w.heap.size) (h0 : w.cell? ⟨gp, 0, none⟩ = some v) (b0 : Byt w v l) (hs : l.length ≤ 1000000) (hK : Kst 1 w) :
    Calls Tryd.prog 8 #[.slice (some ⟨gp, 0, none⟩) 1 c] w fun e w' => e = .returned (.agg (fcells 32 fun j => bcell (sumS l j))) ∧ Below w.heap.size w w' := by
  have h := of_any [l] (fun _ => v) gp 1 c w rfl hg (fun j hj => by
    obtain rfl : j = 0 := by omega
    exact h0) (fun j hj => by
    have hj2 : j < 1 := hj
    obtain rfl : j = 0 := by omega
    exact b0) (by simp; omega) (by omega) hK
  have e : ([l] : List (List UInt8)).flatten = l := by simp
  rw [e] at h
  exact h

/-- The k-th block of a text. -/
def blockOf (l : List UInt8) (k j : Nat) : UInt8 := l.getD (64 * k + j) 0
theorem absb_succ (l : List UInt8) (k : Nat) : absb l (k + 1) = turnS (absb l k) (blockOf l k) := rfl

theorem four_sum (x : UInt32) : ((byteOf x 0).toNat : Int) * 16777216 + ((byteOf x 1).toNat : Int) * 65536 + ((byteOf x 2).toNat : Int) * 256 + ((byteOf x 3).toNat : Int) = wv x := by
  have hx := x.toNat_lt
  unfold byteOf wv
  rw [u8_ofNat, u8_ofNat, u8_ofNat, u8_ofNat]
  omega

set_option maxHeartbeats 1600000 in
theorem steps_any (v : Value) (l : List UInt8) (w : World) (hv : Byt w v l) (hK : Kst 1 w) :
    Calls Tryd.prog 6 #[v] w fun e w' => e = .returned (.bool true) ∧ Below w.heap.size w w' := by
  obtain ⟨A, c, rfl⟩ := hv.shape
  have hcc := hv.at_.2.1
  have hcm := hv.at_.2.2.1
  unfold maxLen at hcm
  by_cases hlong : 1000 < l.length
  · go_enter Tryd.func6, Tryd.ntmps6
    go_wp2_with fail
    refine (awake_any _ hK).mono ?_
    rintro e w' ⟨rfl, hb⟩
    go_wp2_with fail
    go_ret
    exact ⟨rfl, hb⟩
  · obtain ⟨L, HL⟩ : ∃ L : Nat, Hid (l.length = L) := ⟨_, hid rfl⟩
    rw [HL.out] at hlong hcc ⊢
    have hq : ¬ (1000 : Int) < (L : Int) := by omega
    go_enter Tryd.func6, Tryd.ntmps6
    go_wp2_with fail
    have C := fill_any _ l w hv (by rw [HL.out]; omega)
    rw [HL.out] at C
    refine C.mono ?_
    clear C
    rintro e w1 ⟨v1, rfl, hown1, hb1⟩
    obtain ⟨A1, c1, rfl⟩ := hown1.byt.shape
    obtain ⟨F, HF⟩ : ∃ F : Nat, Hid ((fillS l).length = F) := ⟨_, hid rfl⟩
    have hF0 := fillS_length l
    have hF1 := fillS_mod l
    have hnl := noughts_le l.length
    rw [HF.out] at hown1 hF0 hF1 ⊢
    rw [HL.out] at hF0 hnl
    obtain ⟨P, HP⟩ : ∃ P : Nat, Hid (F = 64 * P) := ⟨F / 64, hid (by omega)⟩
    have hF2 : F ≤ 2000 := by omega
    have hF3 : ((F : Int) % 64 != 0) = false := by rw [bne_eq_false_iff_eq]; omega
    have hF4 : ¬ (F : Int) ≤ (L : Int) := by omega
    have hF5 : decide ((F : Int) ≤ (L : Int)) = false := by simpa using hF4
    have hF6 : decide (F ≤ L) = false := by simp; omega
    clear hF0 hF1 hnl
    have hv1 := hown1.byt
    have hs1 := hb1.size
    have hK1 := hK.below hb1
    go_wp2_with fail
    refine (start_any w1).mono ?_
    rintro e w2 ⟨rfl, hb2⟩
    have hbw2 := hb1.trans (hb2.mono hs1)
    have hs2 := hbw2.size
    have hv2 : Byt w2 (.slice A1 F c1) (fillS l) := hv1.below hb2
    have hown2 : Own w.heap.size w2 (.slice A1 F c1) (fillS l) := hown1.below hb2
    have hn1 : ∀ k, (Value.slice A1 F c1).ownBlock = some k → k < w2.heap.size := fun k hk => (World.ownsRow.lt hown2 k hk).2
    obtain ⟨S, HS⟩ : ∃ S : Nat, Hid (w2.heap.size = S) := ⟨_, hid rfl⟩
    have hSw : w.heap.size ≤ S := by have := HS.out; omega
    rw [HS.out] at hn1
    clear hown1 hv1 hb1 hb2
    go_wp2_with (first
      | (refine wpList_alloc_arr arrS rfl rfl ?_)
      | (refine wpList_store_arr arrS rfl _ _ rfl rfl rfl (Blk.new w2 8 (fun _ => wc 0) 31) (fun _ _ => rfl) ?_; intro w3 hg3 hS3 hs3; rw [HS.out] at hS3 hg3; have z0 := hS3.cell (i := 0) (by omega); have z7 := hS3.cell (i := 7) (by omega); rw [show wc (start 0) = .int .u32 1779033703 from rfl] at z0; rw [show wc (start 7) = .int .u32 1541459225 from rfl] at z7; have hltS := hS3.lt; rw [HS.out]))
    have hbS : Below S w2 w3 := ((Below.refl _ _).alloc (by have := HS.out; omega) _).grown hg3 (by have := HS.out; simp; omega) (fun k hk => by injection hk; omega)
    have hc1 := hv2.at_.2.1
    have hr := hv2.at_.2.2.2
    rw [HF.out] at hc1
    obtain ⟨b, off, rfl, hb2, hcell⟩ := hr (by rw [HF.out]; omega)
    have hbS1 : b < S := by have := HS.out; omega
    have HC := hid hcell
    clear hr hcell hg3 z0 z7 hs3 hown2 hn1 hK1 hs1
    go_loopw [5] (fun si wr => ∃ i k : Nat, k ≤ P ∧ Hid (i = 64 * k) ∧ si = .int .i64 i ∧ Below S w2 wr ∧ Blk wr S 8 (fun j => wc (absb (fillS l) k j)) 31) (fun si _ => F - (intOf si).toNat)
    case atStart => exact ⟨0, 0, Nat.zero_le _, hid rfl, rfl, hbS, hS3⟩
    case round =>
      clear hbS hS3 hltS
      obtain ⟨i, k, hk, HI, rfl, hbS, hS⟩ := hrel
      have hbw : Below w.heap.size w wr := hbw2.trans (hbS.mono hSw)
      have hltS := hS.lt
      by_cases hlt : k < P
      · have hiF : (i : Int) < (F : Int) := by have := HI.out; have := HP.out; omega
        obtain ⟨wo, rfl⟩ : ∃ wo : World, wo = wr := ⟨_, rfl⟩
        go_wp2_with (first
          | (refine wpList_zero_arr arrB rfl rfl ?_)
          | (refine wpList_alloc_arr arrB rfl rfl ?_)
          | (refine wpList_store_arr arrB rfl _ _ rfl rfl rfl (Blk.new wo 64 (fun _ => bcell 0) 32) (fun _ _ => rfl) ?_; intro w4 hg4 hB4 hs4))
        obtain ⟨B, HB⟩ : ∃ B : Nat, Hid (wo.heap.size = B) := ⟨_, hid rfl⟩
        have hS4 : Blk w4 S 8 (fun j => wc (absb (fillS l) k j)) 31 := (hS.alloc _).grown hg4 (by simp; omega)
        have hbS4 : Below S w2 w4 := (hbS.alloc (by omega) _).grown hg4 (by simp; omega) (fun k hk => by injection hk; omega)
        rw [HB.out] at hB4 hltS ⊢
        clear hg4 hs4 hbS hS hbw
        go_wp2_with fail
        go_loopw [7] (fun sm wr => ∃ m : Nat, m ≤ 64 ∧ sm = .int .i64 m ∧ Below S w2 wr ∧ Blk wr S 8 (fun j => wc (absb (fillS l) k j)) 31 ∧ Blk wr B 64 (partB (blockOf (fillS l) k) m) 32) (fun sm _ => 64 - (intOf sm).toNat)
        case atStart => exact ⟨0, by omega, rfl, hbS4, hS4, hB4.congr fun i _ => by simp [partB]⟩
        case round =>
          clear hbS4 hS4 hB4
          obtain ⟨m, hm, rfl, hbS, hS, hB⟩ := hrel
          have hltS2 := hS.lt
          have hltB := hB.lt
          by_cases hlt2 : m < 64
          · have hm64 : (m : Int) < 64 := by omega
            have hif : i + m < F := by have := HI.out; have := HP.out; omega
            have hif2 : (i : Int) + (m : Int) < (F : Int) := by omega
            have hlf : i + m < (fillS l).length := by rw [HF.out]; exact hif
            have ck := (hbS.cell (p := ⟨b, off + (i + m), none⟩) hbS1).trans (HC.out (i + m) hlf)
            have kb := hB.cell (i := m) (by omega)
            have fb := hB.free m
            have hval : bcell (fillS l)[i + m] = bcell (blockOf (fillS l) k m) := by
              unfold blockOf
              rw [← HI.out, List.getD_eq_getElem?_getD, List.getElem?_eq_getElem hlf]
              rfl
            have HV := hid hval
            unfold bcell at ck
            clear hval
            go_wp2_with fail
            go_roundw
            case rel =>
              refine ⟨m + 1, by omega, by go_num, below_set hbS (g := B) (by omega) _ _, hS.apart _ _ (by omega), (hB.set (i := m) (by omega) _).congr fun q _ => ?_⟩
              rw [← partB_set, ← HV.out]
              rfl
            case measure => simp [intOf]; omega
          · have hm64 : ¬ (m : Int) < 64 := by omega
            have hB2 : Blk wr B 64 (fun j => bcell (blockOf (fillS l) k j)) 32 := hB.congr fun q hq => if_pos (by omega)
            have hbw : Below w.heap.size w wr := hbw2.trans (hbS.mono hSw)
            have hKr := hK.below hbw
            go_wp2_with (first
              | (refine wpList_load_arr arrS rfl _ rfl rfl hS ?_)
              | (refine wpList_load_arr arrB rfl _ rfl rfl hB2 ?_))
            refine (turn_any _ _ wr hKr).mono ?_
            rintro e w6 ⟨rfl, hb6⟩
            have hS6 := hS.keep hb6
            have hbS6 : Below S w2 w6 := hbS.trans (hb6.mono (by omega))
            go_wp2_with (refine wpList_store_arr arrS rfl _ _ rfl rfl rfl hS6 (fun _ _ => rfl) ?_; intro w7 hg7 hS7 hs7)
            go_roundw
            case rel => exact ⟨i + 64, k + 1, by omega, hid (by have := HI.out; omega), by go_num, below_into hbS6 (Nat.le_refl _) hg7 (by have := hbS6.size; have := HS.out; omega), hS7⟩
            case measure => simp [intOf]; omega
      · have hiF : ¬ (i : Int) < (F : Int) := by have := HI.out; have := HP.out; omega
        have ekP : k = P := by omega
        have hvl := hv.below hbw
        rw [HL.out] at hvl
        have hK9 := hK.below (hbw.alloc hbw.size (.cells #[.slice A L c] 22))
        have hvl9 := hvl.alloc (.cells #[.slice A L c] 22)
        have c9 := cell_one_new wr (.slice A L c) 22 0 _ rfl
        have hS9 := hS.alloc (.cells #[.slice A L c] 22)
        have hbS9 := hbS.alloc (by have := hbS.size; have := HS.out; omega) (.cells #[.slice A L c] 22)
        rw [ekP] at hS9
        have CO := of_one _ l wr.heap.size 1 (wr.alloc (.cells #[.slice A L c] 22)) (by simp) c9 hvl9 (by rw [HL.out]; omega) hK9
        clear hvl hvl9 c9 hS hbS
        go_wp2_with fail
        refine CO.mono ?_
        clear CO
        rintro e w5 ⟨rfl, hb5⟩
        have hS5 := hS9.keep hb5
        have hbS5 : Below S w2 w5 := hbS9.trans (hb5.mono (by simp; omega))
        obtain ⟨H, HH⟩ : ∃ H : Nat, Hid (w5.heap.size = H) := ⟨_, hid rfl⟩
        have hltS5 := hS5.lt
        go_wp2_with (first
          | (refine wpList_alloc_arr arrH rfl rfl ?_)
          | (refine wpList_store_arr arrH rfl _ _ rfl rfl rfl (Blk.new w5 32 (fun _ => bcell 0) 26) (fun _ _ => rfl) ?_; intro w6 hg6 hH6 hs6))
        have hS6 : Blk w6 S 8 (fun j => wc (absb (fillS l) P j)) 31 := (hS5.alloc _).grown hg6 (by simp; omega)
        have hbS6 : Below S w2 w6 := (hbS5.alloc (by omega) _).grown hg6 (by simp; omega) (fun k hk => by injection hk; omega)
        rw [HH.out] at hH6 ⊢
        clear hg6 hs6 hS5 hbS5 hS9 hbS9 hltS5
        go_wp2_with fail
        go_loopw [9] (fun si wr => ∃ m : Nat, m ≤ 8 ∧ si = .int .i64 m ∧ Below S w2 wr ∧ Blk wr S 8 (fun j => wc (absb (fillS l) P j)) 31 ∧ Blk wr H 32 (fun j => bcell (sumS l j)) 26) (fun si _ => 8 - (intOf si).toNat)
        case atStart => exact ⟨0, by omega, rfl, hbS6, hS6, hH6⟩
        case round =>
          clear hbS6 hS6 hH6
          obtain ⟨m, hm, rfl, hbS, hS, hH⟩ := hrel
          by_cases hlt2 : m < 8
          · have hm8 : (m : Int) < 8 := by omega
            obtain ⟨J, HJ⟩ : ∃ J : Nat, Hid (4 * m = J) := ⟨_, hid rfl⟩
            have hJ : J + 3 < 32 := by have := HJ.out; omega
            have c0 := hH.cell (i := J) (by omega)
            have c1' := hH.cell (i := J + 1) (by omega)
            have c2 := hH.cell (i := J + 2) (by omega)
            have c3 := hH.cell (i := J + 3) (by omega)
            have cs := hS.cell (i := m) (by omega)
            have hltS := hS.lt
            have hltH := hH.lt
            have hsum : ∀ j, j < 4 → sumS l (J + j) = byteOf (absb (fillS l) P m) j := fun j hj => by
              unfold sumS
              rw [HF.out, show F / 64 = P from by have := HP.out; omega, show (J + j) / 4 = m from by have := HJ.out; omega, show (J + j) % 4 = j from by have := HJ.out; omega]
            have s0 := hsum 0 (by omega)
            have s1 := hsum 1 (by omega)
            have s2 := hsum 2 (by omega)
            have s3 := hsum 3 (by omega)
            rw [Nat.add_zero] at s0
            rw [s0] at c0
            rw [s1] at c1'
            rw [s2] at c2
            rw [s3] at c3
            unfold bcell at c0 c1' c2 c3
            unfold wc at cs
            have hfs := four_sum (absb (fillS l) P m)
            obtain ⟨x0, hx0, hy0, X0⟩ : ∃ x : Int, 0 ≤ x ∧ x ≤ 255 ∧ Hid (((byteOf (absb (fillS l) P m) 0).toNat : Int) = x) := ⟨_, (byte_lt _).1, (byte_lt _).2, hid rfl⟩
            obtain ⟨x1, hx1, hy1, X1⟩ : ∃ x : Int, 0 ≤ x ∧ x ≤ 255 ∧ Hid (((byteOf (absb (fillS l) P m) 1).toNat : Int) = x) := ⟨_, (byte_lt _).1, (byte_lt _).2, hid rfl⟩
            obtain ⟨x2, hx2, hy2, X2⟩ : ∃ x : Int, 0 ≤ x ∧ x ≤ 255 ∧ Hid (((byteOf (absb (fillS l) P m) 2).toNat : Int) = x) := ⟨_, (byte_lt _).1, (byte_lt _).2, hid rfl⟩
            obtain ⟨x3, hx3, hy3, X3⟩ : ∃ x : Int, 0 ≤ x ∧ x ≤ 255 ∧ Hid (((byteOf (absb (fillS l) P m) 3).toNat : Int) = x) := ⟨_, (byte_lt _).1, (byte_lt _).2, hid rfl⟩
            rw [X0.out] at c0 hfs
            rw [X1.out] at c1' hfs
            rw [X2.out] at c2 hfs
            rw [X3.out] at c3 hfs
            have q0 : IntKind.i64.wrap (4 * (m : Int)) = (J : Int) := by rw [IntWalk.i64_in _ (by omega)]; have := HJ.out; omega
            have q1 : IntKind.i64.wrap ((J : Int) + 1) = (J : Int) + 1 := IntWalk.i64_in _ (by omega)
            have q2 : IntKind.i64.wrap ((J : Int) + 2) = (J : Int) + 2 := IntWalk.i64_in _ (by omega)
            have q3 : IntKind.i64.wrap ((J : Int) + 3) = (J : Int) + 3 := IntWalk.i64_in _ (by omega)
            have r1 : ((J : Int) + 1).toNat = J + 1 := by omega
            have r2 : ((J : Int) + 2).toNat = J + 2 := by omega
            have r3 : ((J : Int) + 3).toNat = J + 3 := by omega
            have u0 : (J : Int) < 32 := by omega
            have u1 : (J : Int) + 1 < 32 := by omega
            have u2 : (J : Int) + 2 < 32 := by omega
            have u3 : (J : Int) + 3 < 32 := by omega
            have v1' : 0 ≤ (J : Int) + 1 := by omega
            have v2' : 0 ≤ (J : Int) + 2 := by omega
            have v3' : 0 ≤ (J : Int) + 3 := by omega
            have HFS := hid hfs
            clear hfs hsum s0 s1 s2 s3
            go_wp2_with fail
            go_quiet (fail)
            have hne : (x0 * 16777216 + x1 * 65536 + x2 * 256 + x3 != wv (absb (fillS l) P m)) = false := by rw [bne_eq_false_iff_eq]; exact HFS.out
            clear q0 q1 q2 q3 r1 r2 r3
            go_wp2_with fail
            go_roundw
            case rel => exact ⟨m + 1, by omega, by go_num, below_drewN hbS nq, hS.drewN nq, hH.drewN nq⟩
            case measure => simp [intOf]; omega
          · have hm8 : ¬ (m : Int) < 8 := by omega
            have hbw9 : Below w.heap.size w wr := hbw2.trans (hbS.mono hSw)
            go_wp2_with fail
            refine (awake_any _ (hK.below hbw9)).mono ?_
            rintro e w' ⟨rfl, hb⟩
            go_wp2_with fail
            go_ret
            exact ⟨rfl, hbw9.trans (hb.mono hbw9.size)⟩
end Go.Proofs.YtoeemiknbogdpaaDoor
