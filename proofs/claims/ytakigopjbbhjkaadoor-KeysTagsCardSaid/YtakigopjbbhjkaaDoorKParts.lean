/-
  keys.Tag of two parts, keys.Check of one.
-/
import Derived.Test.YtakigopjbbhjkaaDoorKCheck
namespace Go.Proofs.YtakigopjbbhjkaaDoor
open Go.RowKit

theorem tag_two (i : Int) (d : UInt8) (v0 v1 : Value) (l0 l1 : List UInt8) (gp c : Nat) (w : World) (hg : gp < w.heap.size) (h0 : w.cell? ⟨gp, 0, none⟩ = some v0) (h1 : w.cell? ⟨gp, 1, none⟩ = some v1) (b0 : Byt w v0 l0) (b1 : Byt w v1 l1)
    {l : List UInt8} (hl : l0 ++ l1 = l) (hll : l.length ≤ 1000000) (hK : Kst 1 w) :
    Calls Tryd.prog 6 #[.int .i64 i, .int .u8 (d.toNat : Int), .slice (some ⟨gp, 0, none⟩) 2 c] w fun e w' => e = .returned (.agg (fcells 32 fun j => bcell (tagF i d l j))) ∧ Below w.heap.size w w' := by
  have e : ([l0, l1] : List (List UInt8)).flatten = l := by simp [hl]
  have h := tag_any i d [l0, l1] (fun j => if j = 0 then v0 else v1) gp 2 c w rfl hg (fun j hj => by
    obtain rfl | rfl : j = 0 ∨ j = 1 := by omega
    · exact h0
    · exact h1) (fun j hj => by
    have hj2 : j < 2 := hj
    obtain rfl | rfl : j = 0 ∨ j = 1 := by omega
    · exact b0
    · exact b1) (by rw [e]; omega) (by omega) hK
  rw [e] at h
  exact h
theorem check_one (i : Int) (d : UInt8) (f : Nat → UInt8) (v0 : Value) (l0 : List UInt8) (gp c : Nat) (w : World) (hg : gp < w.heap.size) (h0 : w.cell? ⟨gp, 0, none⟩ = some v0) (b0 : Byt w v0 l0) (hl : l0.length ≤ 1000000) (hK : Kst 1 w) :
    Calls Tryd.prog 10 #[.int .i64 i, .int .u8 (d.toNat : Int), .agg (fcells 32 fun j => bcell (f j)), .slice (some ⟨gp, 0, none⟩) 1 c] w fun e w' => e = .returned (.bool (checkB i d f l0)) ∧ Below w.heap.size w w' := by
  have e : ([l0] : List (List UInt8)).flatten = l0 := by simp
  have h := check_any i d f [l0] (fun _ => v0) gp 1 c w rfl hg (fun j hj => by
    obtain rfl : j = 0 := by omega
    exact h0) (fun j hj => by
    have hj2 : j < 1 := hj
    obtain rfl : j = 0 := by omega
    exact b0) (by rw [e]; omega) (by omega) hK
  rw [e] at h
  exact h
end Go.Proofs.YtakigopjbbhjkaaDoor
