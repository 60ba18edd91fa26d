/-
  keys.Key gives a part's key.
-/
import Derived.Test.YtakigopjbbhjkaaDoorNode
import Derived.Test.YtakigopjbbhjkaaDoorMacSpec
import Derived.Test.YtakigopjbbhjkaaDoorConsts
namespace Go.Proofs.YtakigopjbbhjkaaDoor
open Go.RowKit

/-- What a part's key is the sum of. -/
def keyText (i : Int) : List UInt8 := [116, 105, 116, 104, 105, 110, 103, 32, 107, 101, 121, 32] ++ [UInt8.ofNat i.toNat]
/-- A part's key. -/
def keyF (i : Int) : Nat → UInt8 := if nodeB i = true then sumS (keyText i) else fun _ => 0
theorem keyF_no {i : Int} (h : nodeB i = false) : keyF i = fun _ => 0 := if_neg (by rw [h]; decide)
theorem keyF_yes {i : Int} (h : nodeB i = true) : keyF i = sumS (keyText i) := if_pos h

/-- The bytes ahead of a part's number. -/
def aheadL : List UInt8 := [116, 105, 116, 104, 105, 110, 103, 32, 107, 101, 121, 32]
theorem keyText_nat (n : Nat) : keyText (n : Int) = aheadL ++ [UInt8.ofNat n] := rfl
theorem node_nat {i : Int} (h : nodeB i = true) : ∃ n : Nat, i = (n : Int) ∧ 1 ≤ n ∧ n ≤ 21 := by
  unfold nodeB at h
  have := of_decide_eq_true h
  exact ⟨i.toNat, by omega, by omega, by omega⟩
theorem ofNat_small {n : Nat} (h : n ≤ 21) : (n : Int) = ((UInt8.ofNat n).toNat : Int) := by
  rw [UInt8.toNat_ofNat']
  omega
/-- The world of a key's sum. -/
def keyW (w : World) (n : Nat) : World := ((w.alloc (.cells #[.int .u8 116, .int .u8 105, .int .u8 116, .int .u8 104, .int .u8 105, .int .u8 110, .int .u8 103, .int .u8 32, .int .u8 107, .int .u8 101, .int .u8 121, .int .u8 32] 5 (12, 13))).alloc (.cells #[.int .u8 (n : Int)] 5)).alloc (.cells #[.slice (some ⟨w.heap.size, 0, none⟩) 12 12, .slice (some ⟨w.heap.size + 1, 0, none⟩) 1 1] 26)
theorem key_world (w : World) (n : Nat) (hn : n ≤ 21) : Below w.heap.size w (keyW w n) ∧ w.heap.size + 1 + 1 < (keyW w n).heap.size ∧ Byt (keyW w n) (.slice (some ⟨w.heap.size, 0, none⟩) 12 12) aheadL ∧ Byt (keyW w n) (.slice (some ⟨w.heap.size + 1, 0, none⟩) 1 1) [UInt8.ofNat n]
    ∧ (keyW w n).cell? ⟨w.heap.size + 1 + 1, 0, none⟩ = some (.slice (some ⟨w.heap.size, 0, none⟩) 12 12) ∧ (keyW w n).cell? ⟨w.heap.size + 1 + 1, 1, none⟩ = some (.slice (some ⟨w.heap.size + 1, 0, none⟩) 1 1) := by
  unfold keyW
  refine ⟨?_, by simp, ?_, ?_, ?_, ?_⟩
  · exact (((Below.refl _ _).alloc (Nat.le_refl _) _).alloc (by simp) _).alloc (by simp; omega) _
  · refine byt_row (l := aheadL) (m := (12, 13)) (T := 5) ?_ (by decide)
    rw [Below.heap_alloc _ _ _ (by simp; omega), heap1]
    rfl
  · refine byt_row (l := [UInt8.ofNat n]) (m := (0, 0)) (T := 5) ?_ (by show 1 ≤ maxLen; unfold maxLen; omega)
    rw [Below.heap_alloc _ _ _ (by simp), heap2]
    rw [ofNat_small hn]
    rfl
  all_goals
    rw [cell_of_row _ _ _ _ _ (0, 0) (show (_ : World).heap[w.heap.size + 1 + 1]? = some (.cells #[.slice (some ⟨w.heap.size, 0, none⟩) 12 12, .slice (some ⟨w.heap.size + 1, 0, none⟩) 1 1] 26) from by simpa using heap_alloc_new ((w.alloc (.cells #[.int .u8 116, .int .u8 105, .int .u8 116, .int .u8 104, .int .u8 105, .int .u8 110, .int .u8 103, .int .u8 32, .int .u8 107, .int .u8 101, .int .u8 121, .int .u8 32] 5 (12, 13))).alloc (.cells #[.int .u8 (n : Int)] 5)) (.cells #[.slice (some ⟨w.heap.size, 0, none⟩) 12 12, .slice (some ⟨w.heap.size + 1, 0, none⟩) 1 1] 26))]
    rfl

set_option maxHeartbeats 1600000 in
theorem key_any (i : Int) (w : World) (hK : Kst 1 w) : Calls Tryd.prog 8 #[.int .i64 i] w fun e w' => e = .returned (.agg (fcells 32 fun j => bcell (keyF i j))) ∧ Below w.heap.size w w' := by
  have hb0 : Below w.heap.size w (w.alloc (.cells (fcells 32 fun _ => bcell 0) 23)) := (Below.refl _ _).alloc (Nat.le_refl _) _
  have hR0 : Blk (w.alloc (.cells (fcells 32 fun _ => bcell 0) 23)) w.heap.size 32 (fun _ => bcell 0) 23 := Blk.new w _ _ _
  cases hn : nodeB i
  · rw [keyF_no hn]
    have C := fun w => node_any i w
    rw [hn] at C
    have HC := hid C
    clear C
    go_enter Tryd.func8, Tryd.ntmps8
    go_wp2_with (refine wpList_alloc_arr arrH rfl rfl ?_)
    refine (HC.out _).mono ?_
    rintro e w' ⟨rfl, rfl⟩
    go_wp2_with (first
      | (refine wpList_zero_arr arrH rfl rfl ?_)
      | (refine wpList_store_arr arrH rfl _ _ rfl rfl rfl hR0 (fun _ _ => rfl) ?_; intro w9 hg9 hA9 hs9))
    refine bodyPost_ret (arrH.result rfl _ _ rfl hA9) rfl ⟨rfl, ?_⟩
    exact below_into hb0 (g := w.heap.size) (by omega) hg9 hb0.size
  · rw [keyF_yes hn]
    have C := fun w => node_any i w
    rw [hn] at C
    have HC := hid C
    obtain ⟨n, rfl, h1, h2⟩ := node_nat hn
    clear C hn
    have kc := conv1
    go_enter Tryd.func8, Tryd.ntmps8
    go_wp2_with (refine wpList_alloc_arr arrH rfl rfl ?_)
    refine (HC.out _).mono ?_
    rintro e w' ⟨rfl, rfl⟩
    have HB0 := hid hb0
    clear hb0
    generalize w.alloc (.cells (fcells 32 fun _ => bcell 0) 23) = w0 at *
    go_wp2_with fail
    clear kc
    obtain ⟨hb1, hz1, ba, bn, c0, c1⟩ := key_world w0 n h2
    change Calls _ _ _ (keyW w0 n) _
    generalize keyW w0 n = w1 at *
    have hb1' := HB0.out.trans (hb1.mono HB0.out.size)
    refine (of_two _ _ aheadL [UInt8.ofNat n] (w0.heap.size + 1 + 1) 2 w1 hz1 c0 c1 ba bn rfl (by show 13 ≤ 1000000; omega) (hK.below hb1')).mono ?_
    rintro e w2 ⟨rfl, hb2⟩
    have hR2 := (hR0.keep hb1).keep hb2
    have hb2' := hb1'.trans (hb2.mono hb1'.size)
    clear hR0 hb1 hz1 ba bn c0 c1 hb1' hb2
    go_wp2_with (refine wpList_store_arr arrH rfl _ _ rfl rfl rfl hR2 (fun _ _ => rfl) ?_; intro w9 hg9 hA9 hs9)
    refine bodyPost_ret (arrH.result rfl _ _ rfl hA9) rfl ⟨rfl, ?_⟩
    exact below_into hb2' (g := w.heap.size) (by omega) hg9 hb2'.size
end Go.Proofs.YtakigopjbbhjkaaDoor
