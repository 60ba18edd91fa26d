/-
  The document's answers for numbers and texts as bytes: tithingref01.Num, Text.
-/
import Derived.Test.YtefngncieagobaaArr
import Derived.Test.YtefngncieagobaaPlain
import Derived.LoopTactic
import Derived.Outline
namespace Go.Proofs.Ytefngncieagobaa
open Go.RowKit

theorem refnum_to (k : Nat) : ∀ (n : Int) (w : World), 0 ≤ n → n < 18446744073709551616 → n.toNat ≤ k →
    Calls Try.prog 34 #[.int .u64 n] w fun e w' => ∃ v, e = .returned v ∧ Own w.heap.size w' v (dg n.toNat) ∧ Below w.heap.size w w' := by
  induction k with
  | zero =>
    intro n w h0 h1 hk
    obtain rfl : n = 0 := by omega
    go_enter Try.func34, Try.ntmps34
    go_wp2_with fail
    go_ret
    rw [show (0 : Int).toNat = 0 from rfl, dg_small (by omega)]
    exact ⟨_, rfl, own_of_blk (heap_alloc_new w _) (Nat.le_refl _) rfl (by unfold maxLen; omega), (Below.refl _ _).alloc (Nat.le_refl _) _⟩
  | succ k ih =>
    intro n w h0 h1 hk
    by_cases hlt : n < 128
    · have hq : n = ((UInt8.ofNat n.toNat).toNat : Int) := by rw [UInt8.toNat_ofNat']; omega
      have HQ := hid hq
      clear hq
      go_enter Try.func34, Try.ntmps34
      go_wp2_with fail
      go_ret
      rw [dg_small (by omega)]
      have hb : (w.alloc (.cells #[.int .u8 n] 5)).heap[w.heap.size]? = some (.cells (hcells [UInt8.ofNat n.toNat]) 5 (0, 0)) := by
        rw [heap_alloc_new]
        simp only [hcells, bcells, bcell, List.map_cons, List.map_nil]
        rw [← HQ.out]
      exact ⟨_, rfl, own_of_blk hb (Nat.le_refl _) rfl (by unfold maxLen; omega), (Below.refl _ _).alloc (Nat.le_refl _) _⟩
    · have hq : 128 + n % 128 = ((UInt8.ofNat (128 + n.toNat % 128)).toNat : Int) := by rw [UInt8.toNat_ofNat']; omega
      have hL := dg_len10 (n := n.toNat) (by omega)
      have hbig : dg n.toNat = UInt8.ofNat (128 + n.toNat % 128) :: dg (n / 128).toNat := by
        rw [dg_big (by omega)]
        congr 2
        omega
      have HQ := hid hq
      have HB := hid hbig
      have hL2 : (dg (n / 128).toNat).length ≤ 10 := dg_len10 (by omega)
      clear hq hbig hL
      have IH := hid ih
      clear ih
      go_enter Try.func34, Try.ntmps34
      go_wp2_with fail
      refine (IH.out (n / 128) _ (by omega) (by omega) (by omega)).mono ?_
      rintro e w1 ⟨v1, rfl, hown1, hb1⟩
      have hb : (w.alloc (.cells #[.int .u8 (128 + n % 128)] 5)).heap[w.heap.size]? = some (.cells (hcells [UInt8.ofNat (128 + n.toNat % 128)]) 5 (0, 0)) := by
        rw [heap_alloc_new]
        simp only [hcells, bcells, bcell, List.map_cons, List.map_nil]
        rw [← HQ.out]
      have hown0 : Own w.heap.size w1 (.slice (some ⟨w.heap.size, 0, none⟩) 1 1) [UInt8.ofNat (128 + n.toNat % 128)] := (own_of_blk (n := 1) hb (Nat.le_refl _) rfl (by unfold maxLen; omega)).below hb1
      have hb2 : Below w.heap.size w w1 := ((Below.refl _ _).alloc (Nat.le_refl _) _).trans (hb1.mono (by simp))
      have hbs := hb2.size
      clear hb
      go_wp2_with (at_builtin; refine wpList_append_byt rfl (.tmp 12) (.tmp 15) rfl rfl rfl hown0 hown1.byt (by rw [List.length_singleton]; omega) hbs ?_; intro v2 w2 hown2 hg2 _)
      go_ret
      rw [HB.out]
      exact ⟨_, rfl, hown2, hb2.grown hg2 hbs (fun q hq => (World.ownsRow.lt hown0 q hq).1)⟩

theorem refnum_any (n : Int) (w : World) (h0 : 0 ≤ n) (h1 : n < 18446744073709551616) :
    Calls Try.prog 34 #[.int .u64 n] w fun e w' => ∃ v, e = .returned v ∧ Own w.heap.size w' v (dg n.toNat) ∧ Below w.heap.size w w' := refnum_to n.toNat n w h0 h1 (Nat.le_refl _)

end Go.Proofs.Ytefngncieagobaa
