/-
  tithingref02.Of gives the sum of a text.
-/
import Derived.Test.YtakigopjbbhjkaaDoorRefFill
import Derived.Test.YtakigopjbbhjkaaDoorRefTurn
import Derived.Test.YtakigopjbbhjkaaDoorOfOne
namespace Go.Proofs.YtakigopjbbhjkaaDoor
open Go.RowKit

theorem grown_of_below2 {w w' : World} (h : Below w.heap.size w w') (row : Option Nat) : w.grownBy w' row := ⟨h.os, h.tape, h.output, h.size, fun k hk _ => h.block k hk⟩

set_option maxHeartbeats 3200000 in
theorem refOf_any (v : Value) (l : List UInt8) (w : World) (hv : Byt w v l) (hs : l.length ≤ 1000000) (hK : Kst 0 w) :
    Calls Tryd.prog 18 #[v] w fun e w' => e = .returned (.agg (fcells 32 fun j => bcell (sumS l j))) ∧ Below w.heap.size w w' := by
  obtain ⟨A, c, rfl⟩ := hv.shape
  obtain ⟨L, HL⟩ : ∃ L : Nat, Hid (l.length = L) := ⟨_, hid rfl⟩
  rw [HL.out] at hs hv ⊢
  go_enter Tryd.func18, Tryd.ntmps18
  go_wp2_with (first
    | (refine wpList_alloc_arr arrH rfl rfl ?_)
    | (refine wpList_build_eight rfl rfl _ _ _ _ _ _ _ _ rfl rfl rfl rfl rfl rfl rfl rfl ?_)
    | (refine wpList_alloc_arr arrS rfl rfl ?_)
    | (refine wpList_store_arr arrS (f' := fun j => wc (start j)) rfl _ _ rfl rfl rfl (Blk.new _ 8 (fun _ => wc 0) 49) (fun _ _ => rfl) ?_; intro w1 hg1 hS1 hs1))
  have hb1 : Below w.heap.size w w1 := (((Below.refl _ _).alloc (Nat.le_refl _) (.cells (fcells 32 fun _ => bcell 0) 23)).alloc (by simp) (.cells (fcells 8 fun _ => wc 0) 49)).grown hg1 (by simp; omega) (fun k hk => by injection hk; simp at *; omega)
  have hH1 : Blk w1 w.heap.size 32 (fun _ => bcell 0) 23 := ((Blk.new w 32 (fun _ => bcell 0) 23).alloc _).grown hg1 (by simp)
  have hv1 := hv.below hb1
  have hs1' := hb1.size
  clear hg1 hs1
  go_wp2_with fail
  refine (refFill_any _ l w1 hv1 (by rw [HL.out]; omega)).mono ?_
  rintro e w2 ⟨v2, rfl, hown2, hb2⟩
  obtain ⟨A2, c2, rfl⟩ := hown2.byt.shape
  obtain ⟨F, HF⟩ : ∃ F : Nat, Hid ((fillS l).length = F) := ⟨_, hid rfl⟩
  have hF0 := fillS_length l
  have hF1 := fillS_mod l
  have hnl := noughts_le l.length
  rw [HF.out] at hown2 hF0 hF1 ⊢
  rw [HL.out] at hF0 hnl
  obtain ⟨P, HP⟩ : ∃ P : Nat, Hid (F = 64 * P) := ⟨F / 64, hid (by omega)⟩
  have hF2 : F ≤ 1000100 := by omega
  clear hF0 hF1 hnl
  obtain ⟨S, HS⟩ : ∃ S : Nat, Hid (w.heap.size + 1 = S) := ⟨_, hid rfl⟩
  have hS0 : Blk w1 (w.heap.size + 1) 8 (fun j => wc (start j)) 49 := by simpa using hS1
  rw [HS.out] at hS0 ⊢
  have hSw1 := hS0.lt
  have hSw : w.heap.size < S := by have := HS.out; omega
  have hS2 : Blk w2 S 8 (fun j => wc (absb (fillS l) 0 j)) 49 := hS0.keep hb2
  have hH2 := hH1.keep hb2
  have hbw2 := hb1.trans (hb2.mono hs1')
  have hs2 := hb2.size
  have hv2 := hown2.byt
  have hne : (Value.slice A2 F c2).ownBlock ≠ some S := fun e => by have := (World.ownsRow.lt hown2 S e).1; omega
  have hS2w : S < w2.heap.size := by omega
  have HH := hid hH2
  have HK := hid hK
  clear hS1 hS0 hH1 hv1 hb1 hb2 hown2 hH2 hv hK
  try go_frame
  go_wp2_with fail
  go_loopw [5] (fun si wr => ∃ i k : Nat, k ≤ P ∧ Hid (i = 64 * k) ∧ si = .int .i64 i ∧ w2.grownBy wr (some S) ∧ Blk wr S 8 (fun j => wc (absb (fillS l) k j)) 49) (fun si _ => F - (intOf si).toNat)
  case atStart => exact ⟨0, 0, Nat.zero_le _, hid rfl, rfl, grown_of_below2 (Below.refl _ _) _, hS2⟩
  case round =>
    clear hS2
    obtain ⟨i, k, hk, HI, rfl, hgr, hS⟩ := hrel
    have hltS := hS.lt
    have hgs := hgr.size
    by_cases hlt : k < P
    · have hiF : (i : Int) < (F : Int) := by have := HI.out; have := HP.out; omega
      have hvr : Byt wr (.slice A2 F c2) (fillS l) := hv2.keep hgs fun b hb e => hgr.block b hb (fun e2 => hne (by rw [e, e2]))
      have hc1 := hvr.at_.2.1
      have hr := hvr.at_.2.2.2
      rw [HF.out] at hc1
      obtain ⟨b, off, rfl, hb2, hcell⟩ := hr (by rw [HF.out]; omega)
      have HC := hid hcell
      clear hr hcell
      obtain ⟨wo, rfl⟩ : ∃ wo : World, wo = wr := ⟨_, rfl⟩
      go_wp2_with (first
        | (refine wpList_zero_arr arrB rfl rfl ?_)
        | (refine wpList_alloc_arr arrB rfl rfl ?_)
        | (refine wpList_store_arr arrB rfl _ _ rfl rfl rfl (Blk.new wo 64 (fun _ => bcell 0) 45) (fun _ _ => rfl) ?_; intro w4 hg4 hB4 hs4))
      obtain ⟨B, HB⟩ : ∃ B : Nat, Hid (wo.heap.size = B) := ⟨_, hid rfl⟩
      have hS4 : Blk w4 S 8 (fun j => wc (absb (fillS l) k j)) 49 := (hS.alloc _).grown hg4 (by simp; omega)
      have hbB4 : Below wo.heap.size wo w4 := ((Below.refl _ _).alloc (Nat.le_refl _) _).grown hg4 (by simp) (fun k hk => by injection hk; omega)
      have hbB1 : b < B := by have := HB.out; omega
      rw [HB.out] at hB4 hltS hbB4 ⊢
      clear hg4 hs4
      go_wp2_with fail
      go_loopw [7] (fun sm wr => ∃ m : Nat, m ≤ 64 ∧ sm = .int .i64 m ∧ Below B wo wr ∧ Blk wr B 64 (partB (blockOf (fillS l) k) m) 45) (fun sm _ => 64 - (intOf sm).toNat)
      case atStart => exact ⟨0, by omega, rfl, hbB4, hB4.congr fun i _ => by simp [partB]⟩
      case round =>
        clear hbB4 hS4 hB4
        obtain ⟨m, hm, rfl, hbB, hB⟩ := hrel
        have hltB := hB.lt
        by_cases hlt2 : m < 64
        · have hm64 : (m : Int) < 64 := by omega
          have hif : i + m < F := by have := HI.out; have := HP.out; omega
          have hif2 : (i : Int) + (m : Int) < (F : Int) := by omega
          have hlf : i + m < (fillS l).length := by rw [HF.out]; exact hif
          have ck := (hbB.cell (p := ⟨b, off + (i + m), none⟩) hbB1).trans (HC.out (i + m) hlf)
          have kb := hB.cell (i := m) (by omega)
          have fb := hB.free m
          have hval : bcell (fillS l)[i + m] = bcell (blockOf (fillS l) k m) := by
            unfold blockOf
            rw [← HI.out, List.getD_eq_getElem?_getD, List.getElem?_eq_getElem hlf]
            rfl
          have HV := hid hval
          unfold bcell at ck
          clear hval
          go_wp2_with fail
          go_roundw
          case rel =>
            refine ⟨m + 1, by omega, by go_num, below_set hbB (g := B) (Nat.le_refl _) _ _, (hB.set (i := m) (by omega) _).congr fun q _ => ?_⟩
            rw [← partB_set, ← HV.out]
            rfl
          case measure => simp [intOf]; omega
        · have hm64 : ¬ (m : Int) < 64 := by omega
          have hB2 : Blk wr B 64 (fun j => bcell (blockOf (fillS l) k j)) 45 := hB.congr fun q hq => if_pos (by omega)
          have hSr := hS.below hbB hltS
          have hgr2 : w2.grownBy wr (some S) := hgr.trans (grown_of_below2 (by rw [HB.out]; exact hbB) _)
          have hbw : Below w.heap.size w wr := hbw2.grown hgr2 hbw2.size (fun k hk => by injection hk; omega)
          have hKr := HK.out.below hbw
          go_wp2_with (first
            | (refine wpList_load_arr arrS rfl _ rfl rfl hSr ?_)
            | (refine wpList_load_arr arrB rfl _ rfl rfl hB2 ?_))
          refine (refTurn_any _ _ wr hKr).mono ?_
          rintro e w6 ⟨rfl, hb6⟩
          have hS6 := hSr.keep hb6
          have hg6 : w2.grownBy w6 (some S) := hgr2.trans (grown_of_below2 hb6 _)
          go_wp2_with (refine wpList_store_arr arrS rfl _ _ rfl rfl rfl hS6 (fun _ _ => rfl) ?_; intro w7 hg7 hS7 hs7)
          go_roundw
          case rel => exact ⟨i + 64, k + 1, by omega, hid (by have := HI.out; omega), by go_num, hg6.trans hg7, hS7⟩
          case measure => simp [intOf]; omega
    · have hiF : ¬ (i : Int) < (F : Int) := by have := HI.out; have := HP.out; omega
      have ekP : k = P := by omega
      have hS' : Blk wr S 8 (fun j => wc (absb (fillS l) P j)) 49 := by rw [← ekP]; exact hS
      have hbw : Below w.heap.size w wr := hbw2.grown hgr hbw2.size (fun k hk => by injection hk; omega)
      have hH : Blk wr w.heap.size 32 (fun _ => bcell 0) 23 := HH.out.grown hgr (fun e => by have := Option.some.inj e; omega)
      clear hS
      obtain ⟨wo, rfl⟩ : ∃ wo : World, wo = wr := ⟨_, rfl⟩
      go_wp2_with (first
        | (refine wpList_zero_arr arrH rfl rfl ?_)
        | (refine wpList_alloc_arr arrH rfl rfl ?_)
        | (refine wpList_store_arr arrH rfl _ _ rfl rfl rfl (Blk.new wo 32 (fun _ => bcell 0) 23) (fun _ _ => rfl) ?_; intro w8 hg8 hQ8 hs8))
      obtain ⟨Q, HQ⟩ : ∃ Q : Nat, Hid (wo.heap.size = Q) := ⟨_, hid rfl⟩
      have hbQ8 : Below wo.heap.size wo w8 := ((Below.refl _ _).alloc (Nat.le_refl _) _).grown hg8 (by simp) (fun k hk => by injection hk; omega)
      have hltH := hH.lt
      rw [HQ.out] at hQ8 hltS hbQ8 hltH ⊢
      clear hg8 hs8
      go_wp2_with fail
      go_loopw [9] (fun si wr => ∃ i : Nat, i ≤ 32 ∧ si = .int .i64 i ∧ Below Q wo wr ∧ Blk wr Q 32 (partB (sumS l) i) 23) (fun si _ => 32 - (intOf si).toNat)
      case atStart => exact ⟨0, by omega, rfl, hbQ8, hQ8.congr fun i _ => by simp [partB]⟩
      case round =>
        clear hbQ8 hQ8
        obtain ⟨j, hj, rfl, hbQ, hQ⟩ := hrel
        have hltQ := hQ.lt
        by_cases hlt2 : j < 32
        · have hj32 : (j : Int) < 32 := by omega
          have cs := (hS'.below hbQ hltS).cell (i := j / 4) (by omega)
          have kc := hQ.cell (i := j) (by omega)
          have fc := hQ.free j
          unfold wc at cs
          have t1 : Int.tdiv (j : Int) 4 = ((j / 4 : Nat) : Int) := by rw [Int.tdiv_eq_ediv_of_nonneg (by omega)]; omega
          have t2 : Int.tmod (j : Int) 4 = ((j % 4 : Nat) : Int) := by rw [Int.tmod_eq_emod_of_nonneg (by omega)]; omega
          have hval : Value.int .u8 (wv (absb (fillS l) P (j / 4)) / 2 ^ (24 - 8 * (j % 4)) % 256) = bcell (sumS l j) := by
            unfold sumS
            rw [show (fillS l).length / 64 = P from by have := HF.out; have := HP.out; omega]
            unfold bcell byteOf
            rw [u8_ofNat]
            unfold wv
            simp
          have HV := hid hval
          clear hval
          go_wp2_with fail
          go_roundw
          case rel =>
            refine ⟨j + 1, by omega, by go_num, below_set hbQ (g := Q) (Nat.le_refl _) _ _, (hQ.set (i := j) (by omega) _).congr fun q _ => ?_⟩
            rw [HV.out, ← partB_set]
          case measure => simp [intOf]; omega
        · have hj32 : ¬ (j : Int) < 32 := by omega
          have hQ2 : Blk wr Q 32 (fun j => bcell (sumS l j)) 23 := hQ.congr fun q hq => if_pos (by omega)
          have hH2 := hH.below hbQ hltH
          have hbw3 : Below w.heap.size w wr := hbw.trans (hbQ.mono (by omega))
          go_wp2_with (first
            | (refine wpList_load_arr arrH rfl _ rfl rfl hQ2 ?_)
            | (refine wpList_store_arr arrH rfl _ _ rfl rfl rfl hH2 (fun _ _ => rfl) ?_; intro w9 hg9 hC9 hs9))
          refine bodyPost_ret (arrH.result rfl _ _ rfl hC9) rfl ⟨rfl, ?_⟩
          exact below_into hbw3 (Nat.le_refl _) hg9 hbw3.size
end Go.Proofs.YtakigopjbbhjkaaDoor
