/-
  The laws' small example: two seals are kept, the second one is loaded; with both slots older nothing is.
-/
import Derived.Test.YtghophbabbaleaaGreatDoorVaCodeKeep
import Derived.Test.YtghophbabbaleaaGreatDoorVaCodeLoad
namespace Go.Proofs.YtghophbabbaleaaGreatDoor
set_option maxRecDepth 20000
open Go.RowKit
attribute [local go_sem ↓] exec_load_se exec_alloc_se exec_store_se
def seVP (x y : Int) : SeM := ⟨x, y, 0, z32⟩
noncomputable def buildSe2 (u v : Value) (w : World) : Result Next := Sem.run Tryz.prog (execOp (fun x => match x with
  | .tmp 0 => u
  | _ => v) { dst := none, op := .build 40 #[(0, .tmp 0), (1, .tmp 1)], type := 0, pos := "", after := #[], guard := none }) w
theorem exec_build_se2 (r : Operand → Value) (x y : Operand) (dst : Option Tmp) (ty : TypeId) (pos : String) (after : Array Edge) (guard : Option (Nat × Bool)) (w : World) :
    Sem.run Tryz.prog (execOp r { dst := dst, op := .build 40 #[(0, x), (1, y)], type := ty, pos := pos, after := after, guard := guard }) w = buildSe2 (r x) (r y) w := by
  unfold buildSe2 execOp
  simp
theorem buildSe2_eq (x y : Int) (w : World) : buildSe2 (.int .i64 x) (.int .i64 y) w = .ok (.value (.agg (sec (seVP x y)))) w := by
  unfold buildSe2
  go_simp
  rfl
theorem seVP_ok (x y : Int) : (seVP x y).Ok := rfl
def exV1 : VaM := ⟨2, [], blobS 2 1 (seVP 1 1), 1, -1, false, []⟩
def exV2 : VaM := ⟨2, blobS 2 2 (seVP 2 1), blobS 2 1 (seVP 1 1), 2, -1, false, []⟩
def exV3 : VaM := ⟨2, blobS 2 1 (seVP 1 1), blobS 2 1 (seVP 1 1), 2, -1, false, []⟩
theorem exV0_good : (newV 2 0).Good := newV_good (by decide) (by decide) (by decide)
theorem ex_keep1 : keepE (newV 2 0) (seVP 1 1) = 0 ∧ keepV (newV 2 0) (seVP 1 1) = exV1 := by
  refine ⟨by decide, ?_⟩
  unfold keepV
  rw [if_neg (by decide), if_neg (by decide), if_neg (by decide)]
  rfl
theorem exV1_good : exV1.Good := by
  have := keepV_good (s := seVP 1 1) exV0_good rfl
  rw [ex_keep1.2] at this
  exact this
theorem ex_keep2 : keepE exV1 (seVP 2 1) = 0 ∧ keepV exV1 (seVP 2 1) = exV2 := by
  refine ⟨by decide, ?_⟩
  unfold keepV
  rw [if_neg (by decide), if_neg (by decide), if_neg (by decide)]
  rfl
theorem exV2_good : exV2.Good := by
  have := keepV_good (s := seVP 2 1) exV1_good rfl
  rw [ex_keep2.2] at this
  exact this
theorem ex_load2 : loadE exV2 = 0 ∧ loadS exV2 = seVP 2 1 := by
  have hh : hitB exV2.i exV2.n exV2.s0 = true := hit_back (seVP_ok 2 1) (by decide) (by decide) (by decide)
  have hg : getB exV2.i exV2.s0 = (2, seVP 2 1, 0) := getB_back (seVP_ok 2 1) (by decide) (by decide) (by decide)
  unfold loadE loadS
  have hd : ¬ exV2.dead = true := by decide
  have hn : ¬ exV2.n = 0 := by decide
  rw [if_neg hd, if_neg hd, if_neg hn, if_neg hn, if_pos hh, if_pos hh, hg]
  exact ⟨rfl, rfl⟩
theorem ex_swap : swapE 0 (slotV exV1 1) = 0 ∧ swapV exV2 0 (slotV exV1 1) = exV3 := by
  have hl : ¬ ((0 : Int) < 0 ∨ (1 : Int) < 0 ∨ 1000 < (slotV exV1 1).length) := by
    have := slotV_len exV1_good 1
    omega
  unfold swapE swapV
  rw [if_neg hl, if_neg hl]
  exact ⟨rfl, rfl⟩
theorem exV3_good : exV3.Good := by
  have := swapV_good exV2_good 0 (slotV exV1 1)
  rw [ex_swap.2] at this
  exact this
theorem ex_load3 : loadE exV3 = 8 := by
  have hg : getB 2 (blobS 2 1 (seVP 1 1)) = (1, seVP 1 1, 0) := getB_back (seVP_ok 1 1) (by decide) (by decide) (by decide)
  have h0 : ¬ hitB exV3.i exV3.n exV3.s0 = true := by
    show ¬ hitB 2 2 (blobS 2 1 (seVP 1 1)) = true
    unfold hitB
    rw [hg]
    decide
  have h1 : ¬ hitB exV3.i exV3.n exV3.s1 = true := h0
  unfold loadE
  rw [if_neg (by decide), if_neg (by decide), if_neg h0, if_neg h1]
attribute [local go_sem ↓] exec_build_se2
set_option maxHeartbeats 6400000 in
theorem vaAwake_any (w : World) (hK : Kst 1 w) : Calls Tryz.prog 7 #[] w fun e w' => e = .returned (.bool true) ∧ Below w.heap.size w w' := by
  have HNW := hid (vNew_yes 2 0 w (by decide) (by decide) (by decide))
  obtain ⟨S1, HS1⟩ : ∃ C : Array Value, Hid (sec (seVP 1 1) = C) := ⟨_, hid rfl⟩
  obtain ⟨S2, HS2⟩ : ∃ C : Array Value, Hid (sec (seVP 2 1) = C) := ⟨_, hid rfl⟩
  obtain ⟨S3, HS3⟩ : ∃ C : Array Value, Hid (sec (loadS exV3) = C) := ⟨_, hid rfl⟩
  obtain ⟨Z, HZ⟩ : ∃ C : Array Value, Hid (sec seZ = C) := ⟨_, hid rfl⟩
  have HZS : Hid (Z.size = 35) := hid (by rw [← HZ.out]; exact sec_size seZ_ok)
  have HSS2 : Hid (S2.size = 35 ∧ S2.all (·.oneCell') = true) := hid (by rw [← HS2.out]; exact ⟨sec_size (seVP_ok 2 1), sec_one _⟩)
  have HSS3 : Hid (S3.size = 35 ∧ S3.all (·.oneCell') = true) := hid (by rw [← HS3.out]; exact ⟨sec_size (loadS_ok _), sec_one _⟩)
  have HAL : Hid (∀ W, allocSe W = .ok (.value (.pointer (some ⟨W.heap.size, 0, none⟩))) (W.alloc (.cells Z 40))) := hid (fun W => by rw [← HZ.out]; exact allocSe_eq W)
  have HBU1 : Hid (∀ W, buildSe2 (.int .i64 1) (.int .i64 1) W = .ok (.value (.agg S1)) W) := hid (fun W => by rw [← HS1.out]; exact buildSe2_eq 1 1 W)
  have HBU2 : Hid (∀ W, buildSe2 (.int .i64 2) (.int .i64 1) W = .ok (.value (.agg S2)) W) := hid (fun W => by rw [← HS2.out]; exact buildSe2_eq 2 1 W)
  have HCE : Hid (∀ (W : World) (g : Nat), W.heap[g]? = some (.cells S2 40 (0, 0)) → W.cell? ⟨g, 0, none⟩ = some (.int .i64 2)) := hid (fun W g h => by
    rw [← HS2.out] at h
    exact (BoxSe.cells (a := seVP 2 1) h).1)
  have HK1 : Hid (∀ b c a W, Below w.heap.size w W → Vlt W b c a (newV 2 0) → Calls Tryz.prog 18 #[.pointer (some ⟨b, 0, none⟩), .agg S1] W fun e w' => e = .returned (.int .i64 0) ∧ Vlt w' b c a exV1 ∧ Turn b a W w') := hid (fun b c a W hb h => by
    have := vKeep_any h exV0_good (seVP 1 1) (seVP_ok 1 1) (hK.below hb)
    rw [ex_keep1.1, ex_keep1.2, HS1.out] at this
    exact this)
  have HK2 : Hid (∀ b c a W, Below w.heap.size w W → Vlt W b c a exV1 → Calls Tryz.prog 18 #[.pointer (some ⟨b, 0, none⟩), .agg S2] W fun e w' => e = .returned (.int .i64 0) ∧ Vlt w' b c a exV2 ∧ Turn b a W w') := hid (fun b c a W hb h => by
    have := vKeep_any h exV1_good (seVP 2 1) (seVP_ok 2 1) (hK.below hb)
    rw [ex_keep2.1, ex_keep2.2, HS2.out] at this
    exact this)
  obtain ⟨O, HO⟩ : ∃ l : List UInt8, Hid (slotV exV1 1 = l) := ⟨_, hid rfl⟩
  have HSL : Hid (∀ b c a W, Vlt W b c a exV1 → Calls Tryz.prog 19 #[.pointer (some ⟨b, 0, none⟩), .int .i64 1] W fun e w' => ∃ x, e = .returned x ∧ Byt w' x O ∧ Below W.heap.size W w') := hid (fun b c a W h => by
    rw [← HO.out]
    exact vSlot_any h exV1_good 1)
  have HL2 : Hid (∀ b c a W, Below w.heap.size w W → Vlt W b c a exV2 → Calls Tryz.prog 20 #[.pointer (some ⟨b, 0, none⟩)] W fun e w' => e = .returned (.tuple #[.agg S2, .int .i64 0]) ∧ Below W.heap.size W w') := hid (fun b c a W hb h => by
    have := vLoad_any h exV2_good (hK.below hb)
    rw [ex_load2.1, ex_load2.2, HS2.out] at this
    exact this)
  have HSW : Hid (∀ b c a x W, Vlt W b c a exV2 → Byt W x O → Calls Tryz.prog 21 #[.pointer (some ⟨b, 0, none⟩), .int .i64 0, x] W fun e w' => e = .returned (.int .i64 0) ∧ Vlt w' b c a exV3 ∧ Turn b a W w') := hid (fun b c a x W h hx => by
    rw [← HO.out] at hx
    have := vSwap_any h 0 hx
    rw [ex_swap.1, ex_swap.2] at this
    exact this)
  have HL3 : Hid (∀ b c a W, Below w.heap.size w W → Vlt W b c a exV3 → Calls Tryz.prog 20 #[.pointer (some ⟨b, 0, none⟩)] W fun e w' => e = .returned (.tuple #[.agg S3, .int .i64 8]) ∧ Below W.heap.size W w') := hid (fun b c a W hb h => by
    have := vLoad_any h exV3_good (hK.below hb)
    rw [ex_load3, HS3.out] at this
    exact this)
  have HAT : Hid (∀ b c a W, Vlt W b c a exV3 → Calls Tryz.prog 22 #[.pointer (some ⟨b, 0, none⟩)] W fun e w' => e = .returned (.int .i64 2) ∧ W = w') := hid (fun b c a W ⟨_, _, _, h⟩ => vAt_any h exV3_good)
  clear hK HS1 HS2 HS3 HZ HO
  go_enter Tryz.func7, Tryz.ntmps7
  go_wp2_with fail
  refine HNW.out.mono ?_
  rintro e w1 ⟨b, c, a, rfl, h1, hbb, hba, hB1⟩
  have HHB := hid hbb
  have HHA := hid hba
  clear hbb hba HNW
  have hbu := HBU1.out
  go_wp2_with fail
  refine (HK1.out b c a w1 hB1 h1).mono ?_
  rintro e w2 ⟨rfl, h2, t2⟩
  have hB2 := t2.below hB1 HHB.out HHA.out hB1.size
  clear hbu h1 hB1 t2 HK1
  go_wp2_with fail
  refine (HSL.out b c a w2 h2).mono ?_
  rintro e w3 ⟨x3, rfl, hx3, hb3⟩
  have h3 := h2.below hb3
  have hB3 := hB2.trans (hb3.mono hB2.size)
  have hbu := HBU2.out
  have HX3 := hid hx3
  obtain ⟨A3, c3, rfl⟩ := hx3.shape
  clear hx3 h2 hB2 hb3 HSL
  obtain ⟨L3, HL3'⟩ : ∃ k : Nat, Hid (O.length = k) := ⟨_, hid rfl⟩
  rw [HL3'.out] at HX3 ⊢
  go_wp2_with fail
  refine (HK2.out b c a w3 hB3 h3).mono ?_
  rintro e w4 ⟨rfl, h4, t4⟩
  have hB4 := t4.below hB3 HHB.out HHA.out hB3.size
  have HX4 := hid (h3.turned HX3.out t4)
  clear hbu h3 hB3 t4 HK2 HX3
  go_wp2_with fail
  refine (HL2.out b c a w4 hB4 h4).mono ?_
  rintro e w5 ⟨rfl, hb5⟩
  have hal := HAL.out
  have hs5 := se_var w5 HZS.out HSS2.out.1 HSS2.out.2
  have hB5 := hB4.trans (hb5.mono hB4.size)
  have HB6 := hid (hB5.alloc hB5.size (.cells S2 40))
  have HR6 := hid (heap_alloc_new w5 (.cells S2 40))
  have hb56 : Below w4.heap.size w4 (w5.alloc (.cells S2 40)) := hb5.alloc hb5.size _
  have HV6 := hid (h4.below hb56)
  have HX6 := hid (HX4.out.below hb56)
  clear hb5 hB4 h4 hB5 hb56 HX4 HL2
  go_upto_region 8 with (fail)
  clear hal hs5
  generalize (w5.alloc (.cells S2 40)) = w6 at *
  generalize w5.heap.size = g6 at *
  go_wp2_with fail
  refine (HSW.out b c a _ w6 HV6.out HX6.out).mono ?_
  rintro e w7 ⟨rfl, h7, t7⟩
  have hB7 := t7.below HB6.out HHB.out HHA.out HB6.out.size
  have HR7 := hid (HV6.out.box HR6.out t7)
  clear t7 HB6 HV6 HX6 HSW HR6
  go_wp2_with fail
  refine (HL3.out b c a w7 hB7 h7).mono ?_
  rintro e w8 ⟨rfl, hb8⟩
  have hal := HAL.out
  have hs8 := se_var w8 HZS.out HSS3.out.1 HSS3.out.2
  have hb89 : Below w7.heap.size w7 (w8.alloc (.cells S3 40)) := hb8.alloc hb8.size _
  have HB9 := hid (hB7.trans (hb89.mono hB7.size))
  have HV9 := hid (h7.below hb89)
  have HC9 := hid (HCE.out _ _ ((hb89.block _ (lt_of_block HR7.out)).trans HR7.out))
  clear hb8 hB7 h7 hb89 HL3 HR7
  go_upto_region 10 with (fail)
  clear hal hs8
  generalize (w8.alloc (.cells S3 40)) = w9 at *
  have hc9 := HC9.out
  go_wp2_with fail
  refine (HAT.out b c a w9 HV9.out).mono ?_
  rintro e w10 ⟨rfl, rfl⟩
  go_wp2_with fail
  go_ret
  exact ⟨rfl, HB9.out⟩
end Go.Proofs.YtghophbabbaleaaGreatDoor
