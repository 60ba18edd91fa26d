/-
  mac.Of of one part and of two.
-/
import Derived.Test.YtgcagidkeacheaaDoorMacOf
namespace Go.Proofs.YtgcagidkeacheaaDoor
open Go.RowKit

theorem macOf_one (v : Value) (key : List UInt8) (v0 : Value) (l0 : List UInt8) (gp c : Nat) (w : World) (hv : Byt w v key) (hs : key.length ≤ 1000000) (hg : gp < w.heap.size) (h0 : w.cell? ⟨gp, 0, none⟩ = some v0) (b0 : Byt w v0 l0) (hl : l0.length ≤ 1000000) (hK : Kst 1 w) :
    Calls Tryd.prog 20 #[v, .slice (some ⟨gp, 0, none⟩) 1 c] w fun e w' => e = .returned (.agg (fcells 32 fun j => bcell (macS key l0 j))) ∧ Below w.heap.size w w' := by
  have e : ([l0] : List (List UInt8)).flatten = l0 := by simp
  have h := macOf_any v key [l0] (fun _ => v0) gp 1 c w hv hs rfl hg (fun j hj => by
    obtain rfl : j = 0 := by omega
    exact h0) (fun j hj => by
    have hj2 : j < 1 := hj
    obtain rfl : j = 0 := by omega
    exact b0) (by rw [e]; omega) (by omega) hK
  rw [e] at h
  exact h
theorem macOf_two (v : Value) (key : List UInt8) (v0 v1 : Value) (l0 l1 : List UInt8) (gp c : Nat) (w : World) (hv : Byt w v key) (hs : key.length ≤ 1000000) (hg : gp < w.heap.size) (h0 : w.cell? ⟨gp, 0, none⟩ = some v0) (h1 : w.cell? ⟨gp, 1, none⟩ = some v1) (b0 : Byt w v0 l0) (b1 : Byt w v1 l1)
    {l : List UInt8} (hl : l0 ++ l1 = l) (hll : l.length ≤ 1000000) (hK : Kst 1 w) :
    Calls Tryd.prog 20 #[v, .slice (some ⟨gp, 0, none⟩) 2 c] w fun e w' => e = .returned (.agg (fcells 32 fun j => bcell (macS key l j))) ∧ Below w.heap.size w w' := by
  have e : ([l0, l1] : List (List UInt8)).flatten = l := by simp [hl]
  have h := macOf_any v key [l0, l1] (fun j => if j = 0 then v0 else v1) gp 2 c w hv hs rfl hg (fun j hj => by
    obtain rfl | rfl : j = 0 ∨ j = 1 := by omega
    · exact h0
    · exact h1) (fun j hj => by
    have hj2 : j < 2 := hj
    obtain rfl | rfl : j = 0 ∨ j = 1 := by omega
    · exact b0
    · exact b1) (by rw [e]; omega) (by omega) hK
  rw [e] at h
  exact h
end Go.Proofs.YtgcagidkeacheaaDoor
