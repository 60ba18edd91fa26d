/-
  The law's small example returns true: the sum of abc, in digits.
-/
import Derived.Test.YtgcagidkeacheaaDoorOf
import Derived.Test.YtgcagidkeacheaaDoorHexs
import Derived.Test.YtgcagidkeacheaaDoorOneSum
import Derived.Lib.SlBytesConst
namespace Go.Proofs.YtgcagidkeacheaaDoor
open Go.RowKit

theorem hex_abc (w : World) : Calls Tryd.prog 24 #[.agg (fcells 32 fun j => bcell (sumS abc j))] w fun e w' => e = .returned (.string ⟨abcDigits.toArray⟩) ∧ Below w.heap.size w w' := by
  have h := hex_any (sumS abc) w
  rw [abc_hex] at h
  exact h
theorem of_abc (vs : Nat → Value) (gp c : Nat) (w : World) (hg : gp < w.heap.size) (h0 : w.cell? ⟨gp, 0, none⟩ = some (vs 0)) (h1 : w.cell? ⟨gp, 1, none⟩ = some (vs 1)) (b0 : Byt w (vs 0) [97]) (b1 : Byt w (vs 1) [98, 99]) (hK : Kst 1 w) :
    Calls Tryd.prog 8 #[.slice (some ⟨gp, 0, none⟩) 2 c] w fun e w' => e = .returned (.agg (fcells 32 fun j => bcell (sumS abc j))) ∧ Below w.heap.size w w' :=
  of_any [[97], [98, 99]] vs gp 2 c w rfl hg (fun j hj => by
    obtain rfl | rfl : j = 0 ∨ j = 1 := by omega
    · exact h0
    · exact h1) (fun j hj => by
    have hj2 : j < 2 := hj
    obtain rfl | rfl : j = 0 ∨ j = 1 := by omega
    · exact b0
    · exact b1) (by simp) (by omega) hK

set_option maxHeartbeats 1600000 in
theorem awake_any (w : World) (hK : Kst 1 w) : Calls Tryd.prog 7 #[] w fun e w' => e = .returned (.bool true) ∧ Below w.heap.size w w' := by
  have kc := fun (w : World) (C : Array Value) (n c : Nat) => Lib.run_convert_bytes_const (P := Tryd.prog) w 22 5 C n c under_bytes (by kernel_rfl)
  have kc2 := kc (w.alloc (.cells #[.int .u8 97] 5 (1, 2))) #[.int .u8 98, .int .u8 99] 2 2
  rw [show (w.alloc (.cells #[.int .u8 97] 5 (1, 2))).heap.size = w.heap.size + 1 from by simp, show (#[Value.int .u8 98, Value.int .u8 99] : Array Value).size = 2 from rfl] at kc2
  go_enter Tryd.func7, Tryd.ntmps7
  go_wp2_with fail
  have hb3 : Below w.heap.size w (((w.alloc (.cells #[.int .u8 97] 5 (1, 2))).alloc (.cells #[.int .u8 98, .int .u8 99] 5 (2, 3))).alloc (.cells #[.slice (some ⟨w.heap.size, 0, none⟩) 1 1, .slice (some ⟨w.heap.size + 1, 0, none⟩) 2 2] 22)) := (((Below.refl _ _).alloc (Nat.le_refl _) _).alloc (by simp) _).alloc (by simp; omega) _
  have e0 : (((w.alloc (.cells #[.int .u8 97] 5 (1, 2))).alloc (.cells #[.int .u8 98, .int .u8 99] 5 (2, 3))).alloc (.cells #[.slice (some ⟨w.heap.size, 0, none⟩) 1 1, .slice (some ⟨w.heap.size + 1, 0, none⟩) 2 2] 22)).heap[w.heap.size]? = some (.cells #[.int .u8 97] 5 (1, 2)) := by
    rw [Below.heap_alloc _ _ _ (by simp; omega), Below.heap_alloc _ _ _ (by simp)]
    exact heap_alloc_new w _
  have e1 : (((w.alloc (.cells #[.int .u8 97] 5 (1, 2))).alloc (.cells #[.int .u8 98, .int .u8 99] 5 (2, 3))).alloc (.cells #[.slice (some ⟨w.heap.size, 0, none⟩) 1 1, .slice (some ⟨w.heap.size + 1, 0, none⟩) 2 2] 22)).heap[w.heap.size + 1]? = some (.cells #[.int .u8 98, .int .u8 99] 5 (2, 3)) := by
    rw [Below.heap_alloc _ _ _ (by simp)]
    have := heap_alloc_new (w.alloc (.cells #[.int .u8 97] 5 (1, 2))) (.cells #[.int .u8 98, .int .u8 99] 5 (2, 3))
    simpa using this
  have e2 : (((w.alloc (.cells #[.int .u8 97] 5 (1, 2))).alloc (.cells #[.int .u8 98, .int .u8 99] 5 (2, 3))).alloc (.cells #[.slice (some ⟨w.heap.size, 0, none⟩) 1 1, .slice (some ⟨w.heap.size + 1, 0, none⟩) 2 2] 22)).heap[w.heap.size + 1 + 1]? = some (.cells #[.slice (some ⟨w.heap.size, 0, none⟩) 1 1, .slice (some ⟨w.heap.size + 1, 0, none⟩) 2 2] 22 (0, 0)) := by
    have := heap_alloc_new ((w.alloc (.cells #[.int .u8 97] 5 (1, 2))).alloc (.cells #[.int .u8 98, .int .u8 99] 5 (2, 3))) (.cells #[.slice (some ⟨w.heap.size, 0, none⟩) 1 1, .slice (some ⟨w.heap.size + 1, 0, none⟩) 2 2] 22)
    simpa using this
  have hz : w.heap.size + 1 + 1 < (((w.alloc (.cells #[.int .u8 97] 5 (1, 2))).alloc (.cells #[.int .u8 98, .int .u8 99] 5 (2, 3))).alloc (.cells #[.slice (some ⟨w.heap.size, 0, none⟩) 1 1, .slice (some ⟨w.heap.size + 1, 0, none⟩) 2 2] 22)).heap.size := by simp
  generalize (((w.alloc (.cells #[.int .u8 97] 5 (1, 2))).alloc (.cells #[.int .u8 98, .int .u8 99] 5 (2, 3))).alloc (.cells #[.slice (some ⟨w.heap.size, 0, none⟩) 1 1, .slice (some ⟨w.heap.size + 1, 0, none⟩) 2 2] 22)) = w3 at *
  have b0 : Byt w3 (.slice (some ⟨w.heap.size, 0, none⟩) 1 1) [97] := ⟨_, 1, rfl, Nat.le_refl _, by unfold maxLen; omega, fun _ => ⟨_, 0, rfl, by omega, fun j hj => by
    have hj1 : j < 1 := hj
    obtain rfl : j = 0 := by omega
    rw [cell_of_row _ _ _ _ _ _ e0]
    rfl⟩⟩
  have b1 : Byt w3 (.slice (some ⟨w.heap.size + 1, 0, none⟩) 2 2) [98, 99] := ⟨_, 2, rfl, Nat.le_refl _, by unfold maxLen; omega, fun _ => ⟨_, 0, rfl, by omega, fun j hj => by
    have hj1 : j < 2 := hj
    rw [cell_of_row _ _ _ _ _ _ e1]
    obtain rfl | rfl : j = 0 ∨ j = 1 := by omega
    all_goals rfl⟩⟩
  have hK3 := hK.below hb3
  refine (of_abc (fun j => if j = 0 then .slice (some ⟨w.heap.size, 0, none⟩) 1 1 else .slice (some ⟨w.heap.size + 1, 0, none⟩) 2 2) _ _ w3 hz (by rw [cell_of_row _ _ _ _ _ _ e2]; rfl) (by rw [cell_of_row _ _ _ _ _ _ e2]; rfl) b0 b1 hK3).mono ?_
  rintro e w4 ⟨rfl, hb4⟩
  clear kc kc2 e0 e1 e2 b0 b1
  go_wp2_with fail
  refine (hex_abc w4).mono ?_
  rintro e w5 ⟨rfl, hb5⟩
  have hbw := (hb3.trans (hb4.mono (by omega))).trans (hb5.mono (by have := hb4.size; omega))
  have hds : (⟨abcDigits.toArray⟩ : ByteArray) = ⟨#[98, 97, 55, 56, 49, 54, 98, 102, 56, 102, 48, 49, 99, 102, 101, 97, 52, 49, 52, 49, 52, 48, 100, 101, 53, 100, 97, 101, 50, 50, 50, 51, 98, 48, 48, 51, 54, 49, 97, 51, 57, 54, 49, 55, 55, 97, 57, 99, 98, 52, 49, 48, 102, 102, 54, 49, 102, 50, 48, 48, 49, 53, 97, 100]⟩ := rfl
  rw [hds]
  clear hds
  go_wp2_with fail
  go_ret
  exact ⟨rfl, hbw⟩
end Go.Proofs.YtgcagidkeacheaaDoor
