/-
  The law of sums: the sum of any text, in any parts.
-/
import Derived.Test.YtgcagidkeacheaaDoorCuts
import Derived.Test.YtgcagidkeacheaaDoorRefOf
import Derived.Test.YtgcagidkeacheaaDoorShaAwake
import Derived.Deep.RegionHeld3
import Derived.Outline
namespace Go.Proofs.YtgcagidkeacheaaDoor
open Go.RowKit

attribute [local go_sem ↓] exec_cutH exec_cutL exec_cutLH

set_option maxRecDepth 100000 in
set_option maxHeartbeats 3200000 in
theorem shaOf_any (v : Value) (l : List UInt8) (x y : Nat) (w : World) (hv : Byt w v l) (hx : x ≤ 65535) (hy : y ≤ 65535) (hK : Kst 1 w) (hK0 : Kst 0 w) :
    Calls Tryd.prog 3 #[v, .int .u16 (x : Int), .int .u16 (y : Int)] w fun e w' => e = .returned (.bool true) ∧ Below w.heap.size w w' := by
  obtain ⟨A, c, rfl⟩ := hv.shape
  have hcc := hv.at_.2.1
  have hcm := hv.at_.2.2.1
  unfold maxLen at hcm
  by_cases hlong : 1000 < l.length
  · go_enter Tryd.func3, Tryd.ntmps3
    go_wp2_with fail
    refine (awake_any _ hK).mono ?_
    rintro e w' ⟨rfl, hb⟩
    go_wp2_with fail
    go_ret
    exact ⟨rfl, hb⟩
  · obtain ⟨L, HL⟩ : ∃ L : Nat, Hid (l.length = L) := ⟨_, hid rfl⟩
    rw [HL.out] at hlong hcc hv ⊢
    have hq : ¬ (1000 : Int) < (L : Int) := by omega
    obtain ⟨i, hi⟩ : ∃ i : Nat, x % (L + 1) = i := ⟨_, rfl⟩
    have hiL : i ≤ L := by have := Nat.mod_lt x (show 0 < L + 1 by omega); omega
    have ei : (x : Int) % ((L : Int) + 1) = (i : Int) := by rw [← hi]; exact (Int.natCast_emod x (L + 1)).symm
    obtain ⟨q, hq1⟩ : ∃ q : Nat, y % (L + 1 - i) = q := ⟨_, rfl⟩
    have hqL : q ≤ L - i := by have := Nat.mod_lt y (show 0 < L + 1 - i by omega); omega
    have eq : (y : Int) % ((L : Int) + 1 - (i : Int)) = (q : Int) := by
      rw [show (L : Int) + 1 - (i : Int) = ((L + 1 - i : Nat) : Int) from by omega, ← hq1]
      exact (Int.natCast_emod y (L + 1 - i)).symm
    obtain ⟨k, hk1⟩ : ∃ k : Nat, i + q = k := ⟨_, rfl⟩
    have ek : (i : Int) + (q : Int) = (k : Int) := by omega
    have hik : i ≤ k := by omega
    have hkL : k ≤ L := by omega
    have hpos : 0 < (L : Int) + 1 - (i : Int) := by omega
    clear hi hq1 hk1 hqL
    obtain ⟨A0, c0, r0, p0⟩ := cut_h A c L i hiL hcc
    obtain ⟨A1, c1, r1, p1⟩ := cut_lh A c L i k hik hkL hcc
    obtain ⟨A2, c2, r2, p2⟩ := cut_l A c L k hkL hcc
    have P0 := hid p0
    have P1 := hid p1
    have P2 := hid p2
    have HT := hid (cut_three l hik)
    clear p0 p1 p2
    go_enter Tryd.func3, Tryd.ntmps3
    go_wp2_with fail
    have hlk : k - i = q := by omega
    obtain ⟨D, HD⟩ : ∃ D : Array Value, Hid (fcells 32 (fun j => bcell (sumS l j)) = D) := ⟨_, hid rfl⟩
    have heq := hash_same D (sumS l) HD.out
    have hB1 : Below w.heap.size w (w.alloc (.cells #[.slice A L c] 22)).drew := ((Below.refl _ _).alloc (Nat.le_refl _) _).drew
    have HS := hid (show l.length ≤ 1000000 by rw [HL.out]; omega)
    clear ei eq ek hpos hlk
    go_region_held3 (fun _ => True)
      (trivial)
      (first
        | (go_at_call 7; refine (awake_any _ (hK.below hB6)).mono ?_; rintro e w5 ⟨rfl, hb5⟩; have hB7 : Below w.heap.size w w5 := hB6.trans (hb5.mono hB6.size))
        | (go_at_call 9; have C := refOf_any (.slice A L c) l w3 (hv.below hB5) HS.out (hK0.below hB5); rw [HD.out] at C; refine C.mono ?_; clear C; rintro e w4 ⟨rfl, hb4⟩; have hB6 : Below w.heap.size w w4 := hB5.trans (hb4.mono hB5.size))
        | (go_at_call 8; have hB4 : Below w.heap.size w (w2.alloc (.cells #[.slice A0 i c0, .slice A1 (k - i) c1, .slice A2 (L - k) c2] 22)) := hB3.alloc hB3.size _; have C := of_three (.slice A0 i c0) (.slice A1 (k - i) c1) (.slice A2 (L - k) c2) _ _ _ w2.heap.size 3 _ (by simp) (new_cell w2 _ _ 0 _ rfl) (new_cell w2 _ _ 1 _ rfl) (new_cell w2 _ _ 2 _ rfl) (P0.out _ l HL.out (hv.below hB4)) (P1.out _ l HL.out (hv.below hB4)) (P2.out _ l HL.out (hv.below hB4)) HT.out HS.out (hK.below hB4); rw [HD.out] at C; refine C.mono ?_; clear C; rintro e w3 ⟨rfl, hb3⟩; have hB5 : Below w.heap.size w w3 := hB4.trans (hb3.mono hB4.size))
        | (go_at_call 9; have C := refOf_any (.slice A L c) l w1 (hv.below hB2) HS.out (hK0.below hB2); rw [HD.out] at C; refine C.mono ?_; clear C; rintro e w2 ⟨rfl, hb2⟩; have hB3 : Below w.heap.size w w2 := hB2.trans (hb2.mono hB2.size))
        | (go_at_call 8; have C := of_one (.slice A L c) l w.heap.size 1 _ (by simp) (new_cell_drew w #[.slice A L c] 22 0 _ rfl) (hv.below hB1) HS.out (hK.below hB1); rw [HD.out] at C; refine C.mono ?_; clear C; rintro e w1 ⟨rfl, hb1⟩; have hB2 : Below w.heap.size w w1 := hB1.trans (hb1.mono hB1.size))
        | fail)
    go_wp2_with fail
    go_ret
    exact ⟨rfl, hB7⟩
end Go.Proofs.YtgcagidkeacheaaDoor
