/-
  crc.Of of one part and of two; the law's known check.
-/
import Derived.Test.YtpecdlafeelkoaaCrcStep
import Derived.Test.YtpecdlafeelkoaaConsts
namespace Go.Proofs.Ytpecdlafeelkoaa
open Go.RowKit

theorem crcOf_one (v0 : Value) (l0 : List UInt8) (gp c : Nat) (w : World) (hg : gp < w.heap.size) (h0 : w.cell? ⟨gp, 0, none⟩ = some v0) (b0 : Byt w v0 l0) (hl : l0.length ≤ 1000000) :
    Calls Try.prog 8 #[.slice (some ⟨gp, 0, none⟩) 1 c] w fun e w' => e = .returned (.int .u32 ((crcS l0).toNat : Int)) ∧ Below w.heap.size w w' := by
  have e : ([l0] : List (List UInt8)).flatten = l0 := by simp
  have h := crcOf_any [l0] (fun _ => v0) gp 1 c w rfl hg (fun j hj => by
    obtain rfl : j = 0 := by omega
    exact h0) (fun j hj => by
    have hj2 : j < 1 := hj
    obtain rfl : j = 0 := by omega
    exact b0) (by rw [e]; omega) (by omega)
  rw [e] at h
  exact h
theorem crcOf_two (v0 v1 : Value) (l0 l1 : List UInt8) (gp c : Nat) (w : World) (hg : gp < w.heap.size) (h0 : w.cell? ⟨gp, 0, none⟩ = some v0) (h1 : w.cell? ⟨gp, 1, none⟩ = some v1) (b0 : Byt w v0 l0) (b1 : Byt w v1 l1)
    {l : List UInt8} (hl : l0 ++ l1 = l) (hll : l.length ≤ 1000000) :
    Calls Try.prog 8 #[.slice (some ⟨gp, 0, none⟩) 2 c] w fun e w' => e = .returned (.int .u32 ((crcS l).toNat : Int)) ∧ Below w.heap.size w w' := by
  have e : ([l0, l1] : List (List UInt8)).flatten = l := by simp [hl]
  have h := crcOf_any [l0, l1] (fun j => if j = 0 then v0 else v1) gp 2 c w rfl hg (fun j hj => by
    obtain rfl | rfl : j = 0 ∨ j = 1 := by omega
    · exact h0
    · exact h1) (fun j hj => by
    have hj2 : j < 2 := hj
    obtain rfl | rfl : j = 0 ∨ j = 1 := by omega
    · exact b0
    · exact b1) (by rw [e]; omega) (by omega)
  rw [e] at h
  exact h

/-- The world of the known check. -/
def knownW (w : World) : World := ((w.alloc (.cells #[.int .u8 49, .int .u8 50, .int .u8 51, .int .u8 52] 5 (4, 5))).alloc (.cells #[.int .u8 53, .int .u8 54, .int .u8 55, .int .u8 56, .int .u8 57] 5 (5, 6))).alloc (.cells #[.slice (some ⟨w.heap.size, 0, none⟩) 4 4, .slice (some ⟨w.heap.size + 1, 0, none⟩) 5 5] 22)
theorem known_world (w : World) : Below w.heap.size w (knownW w) ∧ w.heap.size + 1 + 1 < (knownW w).heap.size ∧ Byt (knownW w) (.slice (some ⟨w.heap.size, 0, none⟩) 4 4) [49, 50, 51, 52] ∧ Byt (knownW w) (.slice (some ⟨w.heap.size + 1, 0, none⟩) 5 5) [53, 54, 55, 56, 57]
    ∧ (knownW w).cell? ⟨w.heap.size + 1 + 1, 0, none⟩ = some (.slice (some ⟨w.heap.size, 0, none⟩) 4 4) ∧ (knownW w).cell? ⟨w.heap.size + 1 + 1, 1, none⟩ = some (.slice (some ⟨w.heap.size + 1, 0, none⟩) 5 5) := by
  unfold knownW
  refine ⟨?_, by simp, ?_, ?_, ?_, ?_⟩
  · exact (((Below.refl _ _).alloc (Nat.le_refl _) _).alloc (by simp) _).alloc (by simp; omega) _
  · refine byt_row (l := [49, 50, 51, 52]) (m := (4, 5)) (T := 5) ?_ (by show 4 ≤ maxLen; unfold maxLen; omega)
    rw [Below.heap_alloc _ _ _ (by simp; omega), heap1]
    rfl
  · refine byt_row (l := [53, 54, 55, 56, 57]) (m := (5, 6)) (T := 5) ?_ (by show 5 ≤ maxLen; unfold maxLen; omega)
    rw [Below.heap_alloc _ _ _ (by simp), heap2]
    rfl
  all_goals
    rw [cell_of_row _ _ _ _ _ (0, 0) (show (_ : World).heap[w.heap.size + 1 + 1]? = some (.cells #[.slice (some ⟨w.heap.size, 0, none⟩) 4 4, .slice (some ⟨w.heap.size + 1, 0, none⟩) 5 5] 22) from by simpa using heap_alloc_new ((w.alloc (.cells #[.int .u8 49, .int .u8 50, .int .u8 51, .int .u8 52] 5 (4, 5))).alloc (.cells #[.int .u8 53, .int .u8 54, .int .u8 55, .int .u8 56, .int .u8 57] 5 (5, 6))) (.cells #[.slice (some ⟨w.heap.size, 0, none⟩) 4 4, .slice (some ⟨w.heap.size + 1, 0, none⟩) 5 5] 22))]
    rfl

set_option maxHeartbeats 1600000 in
theorem crcAwake_any (w : World) : Calls Try.prog 6 #[] w fun e w' => e = .returned (.bool true) ∧ Below w.heap.size w w' := by
  have k1 := conv1
  have k2 := conv2
  go_enter Try.func6, Try.ntmps6
  go_wp2_with fail
  clear k1 k2
  obtain ⟨hb1, hz1, ba, bb, c0, c1⟩ := known_world w
  change Calls _ _ _ (knownW w) _
  generalize knownW w = w1 at *
  have C := crcOf_two _ _ [49, 50, 51, 52] [53, 54, 55, 56, 57] (w.heap.size + 1 + 1) 2 w1 hz1 c0 c1 ba bb (l := [49, 50, 51, 52, 53, 54, 55, 56, 57]) rfl (by decide)
  rw [crc_known] at C
  refine C.mono ?_
  clear C
  rintro e w2 ⟨rfl, hb2⟩
  have hb2' := hb1.trans (hb2.mono hb1.size)
  clear hb1 hz1 ba bb c0 c1 hb2
  go_wp2_with fail
  go_ret
  exact ⟨rfl, hb2'⟩
end Go.Proofs.Ytpecdlafeelkoaa
