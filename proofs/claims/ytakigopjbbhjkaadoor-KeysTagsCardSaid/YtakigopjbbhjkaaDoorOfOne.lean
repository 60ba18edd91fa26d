/-
  The sum of one part, and a text's blocks.
-/
import Derived.Test.YtakigopjbbhjkaaDoorKeepN
import Derived.Test.YtakigopjbbhjkaaDoorOf
namespace Go.Proofs.YtakigopjbbhjkaaDoor
open Go.RowKit

theorem of_one (v : Value) (l : List UInt8) (gp c : Nat) (w : World) (hg : gp < w.heap.size) (h0 : w.cell? ⟨gp, 0, none⟩ = some v) (b0 : Byt w v l) (hs : l.length ≤ 1000000) (hK : Kst 1 w) :
    Calls Tryd.prog 17 #[.slice (some ⟨gp, 0, none⟩) 1 c] w fun e w' => e = .returned (.agg (fcells 32 fun j => bcell (sumS l j))) ∧ Below w.heap.size w w' := by
  have h := of_any [l] (fun _ => v) gp 1 c w rfl hg (fun j hj => by
    obtain rfl : j = 0 := by omega
    exact h0) (fun j hj => by
    have hj2 : j < 1 := hj
    obtain rfl : j = 0 := by omega
    exact b0) (by simp; omega) (by omega) hK
  have e : ([l] : List (List UInt8)).flatten = l := by simp
  rw [e] at h
  exact h

/-- The k-th block of a text. -/
def blockOf (l : List UInt8) (k j : Nat) : UInt8 := l.getD (64 * k + j) 0
theorem absb_succ (l : List UInt8) (k : Nat) : absb l (k + 1) = turnS (absb l k) (blockOf l k) := rfl

theorem four_sum (x : UInt32) : ((byteOf x 0).toNat : Int) * 16777216 + ((byteOf x 1).toNat : Int) * 65536 + ((byteOf x 2).toNat : Int) * 256 + ((byteOf x 3).toNat : Int) = wv x := by
  have hx := x.toNat_lt
  unfold byteOf wv
  rw [u8_ofNat, u8_ofNat, u8_ofNat, u8_ofNat]
  omega
end Go.Proofs.YtakigopjbbhjkaaDoor
