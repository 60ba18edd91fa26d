/-
  mac.masked gives a block, each byte exclusive-ored with one.
-/
import Derived.Test.YtakigopjbbhjkaaDoorMacSpec
namespace Go.Proofs.YtakigopjbbhjkaaDoor
open Go.RowKit

set_option maxHeartbeats 1600000 in
theorem masked_any (b : Nat → UInt8) (x : UInt8) (z : Int) (hz : z = (x.toNat : Int)) (w : World) :
    Calls Tryd.prog 21 #[.agg (fcells 64 fun j => bcell (b j)), .int .u8 z] w fun e w' => e = .returned (.agg (fcells 64 fun j => bcell (b j ^^^ x))) ∧ Below w.heap.size w w' := by
  have HZ := hid hz
  clear hz
  have hA0 : Blk ((w.alloc (.cells (fcells 64 fun j => bcell (b j)) 45)).alloc (.cells (fcells 64 fun _ => bcell 0) 45)) w.heap.size 64 (fun j => bcell (b j)) 45 := (Blk.new w _ _ _).alloc _
  have hR0 : Blk ((w.alloc (.cells (fcells 64 fun j => bcell (b j)) 45)).alloc (.cells (fcells 64 fun _ => bcell 0) 45)) (w.heap.size + 1) 64 (fun _ => bcell 0) 45 := by
    have := Blk.new (w.alloc (.cells (fcells 64 fun j => bcell (b j)) 45)) 64 (fun _ => bcell 0) 45
    simpa using this
  have hb0 : Below w.heap.size w ((w.alloc (.cells (fcells 64 fun j => bcell (b j)) 45)).alloc (.cells (fcells 64 fun _ => bcell 0) 45)) := ((Below.refl _ _).alloc (Nat.le_refl _) _).alloc (by simp) _
  have HA0 := hid hA0
  have HR0 := hid hR0
  clear hA0 hR0
  go_enter Tryd.func21, Tryd.ntmps21
  go_wp2_with (refine wpList_alloc_arr arrB rfl rfl ?_)
  generalize (w.alloc (.cells (fcells 64 fun j => bcell (b j)) 45)).alloc (.cells (fcells 64 fun _ => bcell 0) 45) = w0 at *
  obtain ⟨G, HG⟩ : ∃ g : Nat, Hid (w.heap.size = g) := ⟨_, hid rfl⟩
  have hA0 := HA0.out
  have hR0 := HR0.out
  rw [HG.out] at hA0 hR0 hb0 ⊢
  go_loopw [6] (fun si wr => ∃ i : Nat, i ≤ 64 ∧ si = .int .i64 (i : Int) ∧ Below G w wr ∧ Blk wr (G + 1) 64 (fun _ => bcell 0) 45 ∧ Blk wr G 64 (fun j => bcell (if j < i then b j ^^^ x else b j)) 45) (fun si _ => 64 - (intOf si).toNat)
  case atStart => exact ⟨0, Nat.zero_le _, rfl, hb0, hR0, hA0.congr fun j _ => by rw [if_neg (by omega)]⟩
  case round =>
    clear hA0 hR0 hb0
    obtain ⟨i, hi, rfl, hbw, hR, hA⟩ := hrel
    by_cases hlt : i < 64
    · have hi64 : (i : Int) < 64 := by omega
      have k1 := hA.cell (i := i) hlt
      have f1 := hA.free i
      rw [if_neg (show ¬ i < i by omega)] at k1
      unfold bcell at k1
      obtain ⟨y, HY⟩ : ∃ y : Int, Hid (((b i).toNat : Int) = y) := ⟨_, hid rfl⟩
      obtain ⟨r, HR⟩ : ∃ r : Int, Hid (((b i ^^^ x).toNat : Int) = r) := ⟨_, hid rfl⟩
      have hx := bv_xor (b i) x
      rw [HY.out, ← HZ.out, HR.out] at hx
      rw [HY.out] at k1
      go_wp2_with fail
      go_roundw
      case rel =>
        refine ⟨i + 1, by omega, by go_num, below_set hbw (g := G) (Nat.le_refl _) _ _, hR.apart _ _ (by omega), (hA.set (i := i) hlt _).congr fun j _ => ?_⟩
        by_cases e : j = i
        · subst e
          rw [if_pos rfl, if_pos (by omega), ← HR.out]
          rfl
        · rw [if_neg e]
          by_cases h : j < i
          · rw [if_pos h, if_pos (by omega)]
          · rw [if_neg h, if_neg (by omega)]
      case measure => simp [intOf]; omega
    · have hi64 : ¬ (i : Int) < 64 := by omega
      have hA2 : Blk wr G 64 (fun j => bcell (b j ^^^ x)) 45 := hA.congr fun j hj => by rw [if_pos (by omega)]
      clear hA
      go_wp2_with (first
        | (refine wpList_load_arr arrB rfl _ rfl rfl hA2 ?_)
        | (refine wpList_store_arr arrB rfl _ _ rfl rfl rfl hR (fun _ _ => rfl) ?_; intro w9 hg9 hA9 hs9))
      refine bodyPost_ret (arrB.result rfl _ _ rfl hA9) rfl ⟨rfl, ?_⟩
      rw [HG.out]
      exact below_into hbw (g := G + 1) (by omega) hg9 (by have := hbw.size; have := HG.out; omega)
end Go.Proofs.YtakigopjbbhjkaaDoor
