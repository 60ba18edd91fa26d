/-
  sha.Turn gives the state behind a block.
-/
import Derived.Test.YtakigopjbbhjkaaDoorSched
namespace Go.Proofs.YtakigopjbbhjkaaDoor
open Go.RowKit

/-- A variable of the package's holds the constants. -/
def Kst (g : Nat) (w : World) : Prop := g < w.heap.size ∧ ∀ j, j < 64 → w.cell? ⟨g, j, none⟩ = some (.int .u32 (wv (kc j)))
theorem Kst.below {g : Nat} {w w' : World} (h : Kst g w) (hb : Below w.heap.size w w') : Kst g w' :=
  ⟨Nat.lt_of_lt_of_le h.1 hb.size, fun j hj => (hb.cell (p := ⟨g, j, none⟩) h.1).trans (h.2 j hj)⟩
theorem Kst.grown {g : Nat} {w w' : World} (h : Kst g w) {row : Option Nat} (hg : w.grownBy w' row) (hr : row ≠ some g) : Kst g w' :=
  ⟨Nat.lt_of_lt_of_le h.1 hg.size, fun j hj => (World.cell?_of_block (hg.block g h.1 (fun e => hr e.symm))).trans (h.2 j hj)⟩

theorem bg1_still (x : UInt32) (w : World) : Calls Tryd.prog 32 #[.int .u32 (wv x)] w fun e w' => e = .returned (.int .u32 (wv (bg1 x))) ∧ w' = w := (bg1_any x w).mono fun _ _ ⟨h, h2⟩ => ⟨h, h2.symm⟩
theorem chc_still (x y z : UInt32) (w : World) : Calls Tryd.prog 33 #[.int .u32 (wv x), .int .u32 (wv y), .int .u32 (wv z)] w fun e w' => e = .returned (.int .u32 (wv (chc x y z))) ∧ w' = w := (chc_any x y z w).mono fun _ _ ⟨h, h2⟩ => ⟨h, h2.symm⟩
theorem bg0_same (x : UInt32) (w : World) : Calls Tryd.prog 34 #[.int .u32 (wv x)] w fun e w' => e = .returned (.int .u32 (wv (bg0 x))) ∧ w = w' := bg0_any x w
theorem maj_same (x y z : UInt32) (w : World) : Calls Tryd.prog 35 #[.int .u32 (wv x), .int .u32 (wv y), .int .u32 (wv z)] w fun e w' => e = .returned (.int .u32 (wv (maj x y z))) ∧ w = w' := maj_any x y z w

theorem wv_sum5 (a b c d e : UInt32) : (wv a + wv b + wv c + wv d + wv e) % 4294967296 = wv (a + b + c + d + e) := by
  rw [← wv_add (a + b + c + d) e, ← wv_sum4]
  omega

theorem quiet2 {P : Program} {f : FuncId} {args : Array Value} {w : World} {n m : Nat} {v : Value}
    (h : Calls P f args (w.drewN (n + m)) fun e w' => e = .returned v ∧ w' = w.drewN (n + m)) : Calls P f args (w.drewN (n + m)) fun e w'' => e = .returned v ∧ ∃ k, w'' = w.drewN (n + k) :=
  h.mono fun _ _ ⟨he, hm⟩ => ⟨he, m, hm⟩

/-- Eight words as they are built. -/
def eight (v : Nat → Value) : Array Value := #[v 0, v 1, v 2, v 3, v 4, v 5, v 6, v 7]
theorem eight_eq (v : Nat → Value) : eight v = fcells 8 v := rfl

set_option maxHeartbeats 3200000 in
set_option maxRecDepth 100000 in
theorem turn_any (s : Nat → UInt32) (b : Nat → UInt8) (w : World) (hK : Kst 1 w) :
    Calls Tryd.prog 28 #[.agg (fcells 8 fun j => wc (s j)), .agg (fcells 64 fun j => bcell (b j))] w fun e w' => e = .returned (.agg (fcells 8 fun j => wc (turnS s b j))) ∧ Below w.heap.size w w' := by
  have h1 := hK.1
  go_enter Tryd.func28, Tryd.ntmps28
  go_wp2_with (refine wpList_alloc_arr arrS rfl rfl ?_)
  have hA : Blk (((w.alloc (.cells (fcells 8 fun j => wc (s j)) 49)).alloc (.cells (fcells 64 fun j => bcell (b j)) 45)).alloc (.cells (fcells 8 fun _ => wc 0) 49)) w.heap.size 8 (fun j => wc (s j)) 49 := ((Blk.new w _ _ _).alloc _).alloc _
  have hB : Blk (((w.alloc (.cells (fcells 8 fun j => wc (s j)) 49)).alloc (.cells (fcells 64 fun j => bcell (b j)) 45)).alloc (.cells (fcells 8 fun _ => wc 0) 49)) (w.heap.size + 1) 64 (fun j => bcell (b j)) 45 := Blk.alloc (heap_alloc2_new w _ _) _
  have hC : Blk (((w.alloc (.cells (fcells 8 fun j => wc (s j)) 49)).alloc (.cells (fcells 64 fun j => bcell (b j)) 45)).alloc (.cells (fcells 8 fun _ => wc 0) 49)) (w.heap.size + 1 + 1) 8 (fun _ => wc 0) 49 := by
    have := Blk.new ((w.alloc (.cells (fcells 8 fun j => wc (s j)) 49)).alloc (.cells (fcells 64 fun j => bcell (b j)) 45)) 8 (fun _ => wc 0) 49
    simpa using this
  have hbw : Below w.heap.size w (((w.alloc (.cells (fcells 8 fun j => wc (s j)) 49)).alloc (.cells (fcells 64 fun j => bcell (b j)) 45)).alloc (.cells (fcells 8 fun _ => wc 0) 49)) := (((Below.refl _ _).alloc (Nat.le_refl _) _).alloc (by simp) _).alloc (by simp; omega) _
  have hsz : (((w.alloc (.cells (fcells 8 fun j => wc (s j)) 49)).alloc (.cells (fcells 64 fun j => bcell (b j)) 45)).alloc (.cells (fcells 8 fun _ => wc 0) 49)).heap.size = w.heap.size + 3 := by simp
  have hp : ((w.alloc (.cells (fcells 8 fun j => wc (s j)) 49)).alloc (.cells (fcells 64 fun j => bcell (b j)) 45)).heap.size = w.heap.size + 1 + 1 := by simp
  rw [hp]
  clear hp
  generalize (((w.alloc (.cells (fcells 8 fun j => wc (s j)) 49)).alloc (.cells (fcells 64 fun j => bcell (b j)) 45)).alloc (.cells (fcells 8 fun _ => wc 0) 49)) = w0 at *
  have Hsz := hid hsz
  clear hsz
  have hl0 := hA.cell (i := 0) (by omega)
  have hl1 := hA.cell (i := 1) (by omega)
  have hl2 := hA.cell (i := 2) (by omega)
  have hl3 := hA.cell (i := 3) (by omega)
  have hl4 := hA.cell (i := 4) (by omega)
  have hl5 := hA.cell (i := 5) (by omega)
  have hl6 := hA.cell (i := 6) (by omega)
  have hl7 := hA.cell (i := 7) (by omega)
  unfold wc at hl0 hl1 hl2 hl3 hl4 hl5 hl6 hl7
  go_wp2
  go_quiet (fail)
  go_wp2_with fail
  have hq0 : Below w.heap.size w (w0.drewN nq) := below_drewN hbw _
  refine (words_any b (w.heap.size + 1) _ (w0.drewN nq) (hB.drewN _)).mono ?_
  rintro e w1 ⟨rfl, hb1⟩
  obtain ⟨WA, HWA⟩ : ∃ WA : Value, Hid (Value.agg (fcells 64 fun j => wc (wd b j)) = WA) := ⟨_, hid rfl⟩
  rw [HWA.out]
  have hidx : ∀ (i : Nat), i < 64 → ∀ w, (Instr.index 60 WA (.int .i64 (i : Int))).run Tryd.prog w = .ok (.int .u32 (wv (wd b i))) w := fun i hi w => by
    rw [← HWA.out]
    exact arrW.run_index _ hi w
  have hbw1 : Below w.heap.size w w1 := hq0.trans (hb1.mono (by show w.heap.size ≤ w0.heap.size; have := Hsz.out; omega))
  have hA1 : Blk w1 w.heap.size 8 (fun j => wc (s j)) 49 := Blk.keep (w := w0.drewN nq) hA hb1
  have hC1 : Blk w1 (w.heap.size + 1 + 1) 8 (fun _ => wc 0) 49 := Blk.keep (w := w0.drewN nq) hC hb1
  have hK1 := hK.below hbw1
  clear hl0 hl1 hl2 hl3 hl4 hl5 hl6 hl7 hq0 hb1 hA hB hC hbw Hsz
  go_wp2_with fail
  go_loopw [5, 6, 7, 8, 9, 10, 11, 12, 34] (fun a0 a1 a2 a3 a4 a5 a6 a7 si wr => ∃ (i : Nat) (xa xb xc xd xe xf xg xh : UInt32), i ≤ 64 ∧ si = .int .i64 i ∧ Hid (rnds (wd b) i (St.of s) = ⟨xa, xb, xc, xd, xe, xf, xg, xh⟩) ∧ a0 = .int .u32 (wv xa) ∧ a1 = .int .u32 (wv xb) ∧ a2 = .int .u32 (wv xc) ∧ a3 = .int .u32 (wv xd) ∧ a4 = .int .u32 (wv xe) ∧ a5 = .int .u32 (wv xf) ∧ a6 = .int .u32 (wv xg) ∧ a7 = .int .u32 (wv xh) ∧ ∃ n, wr = w1.drewN n) (fun _ _ _ _ _ _ _ _ si _ => 64 - (intOf si).toNat)
  case atStart => exact ⟨0, s 0, s 1, s 2, s 3, s 4, s 5, s 6, s 7, by omega, rfl, hid rfl, rfl, rfl, rfl, rfl, rfl, rfl, rfl, rfl, 0, rfl⟩
  case round =>
    obtain ⟨i, xa, xb, xc, xd, xe, xf, xg, xh, hi, rfl, HV, rfl, rfl, rfl, rfl, rfl, rfl, rfl, rfl, n, rfl⟩ := hrel
    by_cases hlt : i < 64
    · have hx := hidx i hlt
      have hk := hK1.2 i hlt
      have hi64 : (i : Int) < 64 := by omega
      have h11 := hK1.1
      clear hidx
      go_wp2_with fail
      go_quiet ((first
        | (go_at_call 32; exact quiet2 (bg1_still _ _))
        | (go_at_call 33; exact quiet2 (chc_still _ _ _ _))))
      go_wp2_with (first
        | (go_at_call 34; refine (bg0_same _ _).mono ?_; rintro e w' ⟨rfl, rfl⟩)
        | (go_at_call 35; refine (maj_same _ _ _ _).mono ?_; rintro e w' ⟨rfl, rfl⟩))
      go_roundw
      case rel =>
        exact ⟨i + 1, (xh + bg1 xe + chc xe xf xg + kc i + wd b i) + (bg0 xa + maj xa xb xc), xa, xb, xc, xd + (xh + bg1 xe + chc xe xf xg + kc i + wd b i), xe, xf, xg, by omega, by go_num, hid (by unfold rnds; rw [HV.out]; rfl), by rw [wv_sum5, wv_add, wv_add], rfl, rfl, rfl, by rw [wv_sum5, wv_add], rfl, rfl, rfl, n + nq, rfl⟩
      case measure => simp [intOf]; omega
    · have HI := hid (show i = 64 by omega)
      have hge : ¬ (i : Int) < 64 := by omega
      have hl0 := hA1.cell (i := 0) (by omega)
      have hl1 := hA1.cell (i := 1) (by omega)
      have hl2 := hA1.cell (i := 2) (by omega)
      have hl3 := hA1.cell (i := 3) (by omega)
      have hl4 := hA1.cell (i := 4) (by omega)
      have hl5 := hA1.cell (i := 5) (by omega)
      have hl6 := hA1.cell (i := 6) (by omega)
      have hl7 := hA1.cell (i := 7) (by omega)
      unfold wc at hl0 hl1 hl2 hl3 hl4 hl5 hl6 hl7
      have hltA := hA1.lt
      clear hidx
      go_wp2_with (refine wpList_store_arr arrS (f' := fun j => .int .u32 ([(wv (s 0) + wv xa) % 4294967296, (wv (s 1) + wv xb) % 4294967296, (wv (s 2) + wv xc) % 4294967296, (wv (s 3) + wv xd) % 4294967296, (wv (s 4) + wv xe) % 4294967296, (wv (s 5) + wv xf) % 4294967296, (wv (s 6) + wv xg) % 4294967296, (wv (s 7) + wv xh) % 4294967296].getD j 0)) rfl _ _ rfl rfl rfl (hC1.drewN n) (fun _ _ => rfl) ?_; intro w9 hg9 hC9 hs9)
      have hres : ∀ j, j < 8 → Value.int .u32 ([(wv (s 0) + wv xa) % 4294967296, (wv (s 1) + wv xb) % 4294967296, (wv (s 2) + wv xc) % 4294967296, (wv (s 3) + wv xd) % 4294967296, (wv (s 4) + wv xe) % 4294967296, (wv (s 5) + wv xf) % 4294967296, (wv (s 6) + wv xg) % 4294967296, (wv (s 7) + wv xh) % 4294967296].getD j 0) = wc (turnS s b j) := by
        have hv := HV.out
        rw [HI.out] at hv
        intro j hj
        unfold turnS
        rw [hv]
        obtain rfl | rfl | rfl | rfl | rfl | rfl | rfl | rfl : j = 0 ∨ j = 1 ∨ j = 2 ∨ j = 3 ∨ j = 4 ∨ j = 5 ∨ j = 6 ∨ j = 7 := by omega
        all_goals exact congrArg (Value.int .u32) (wv_add _ _)
      refine bodyPost_ret (arrS.result rfl _ _ rfl (hC9.congr hres)) rfl ⟨rfl, ?_⟩
      exact below_into (below_drewN hbw1 n) (by omega) hg9 (by show w.heap.size ≤ w1.heap.size; omega)
end Go.Proofs.YtakigopjbbhjkaaDoor
