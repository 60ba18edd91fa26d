/-
  Sums with a key, as plain functions on bytes. No function of the program.
-/
import Derived.Test.YtakigopjbbhjkaaDoorCuts
namespace Go.Proofs.YtakigopjbbhjkaaDoor

/-- n bytes as a list. -/
def hl (n : Nat) (f : Nat → UInt8) : List UInt8 := (List.range n).map f
theorem hl_length (n : Nat) (f : Nat → UInt8) : (hl n f).length = n := by simp [hl]
theorem hl_get (n : Nat) (f : Nat → UInt8) (j : Nat) (h : j < (hl n f).length) : (hl n f)[j] = f j := by simp [hl]
theorem hl_getD (n : Nat) (f : Nat → UInt8) {j : Nat} (h : j < n) : (hl n f).getD j 0 = f j := by
  rw [List.getD_eq_getElem?_getD, List.getElem?_eq_getElem (by rw [hl_length]; exact h), Option.getD_some, hl_get]
theorem hl_succ (n : Nat) (f : Nat → UInt8) : hl (n + 1) f = hl n f ++ [f n] := by simp [hl, List.range_succ]
theorem hl_congr {n : Nat} {f g : Nat → UInt8} (h : ∀ j, j < n → f j = g j) : hl n f = hl n g := by
  unfold hl
  apply List.map_congr_left
  intro j hj
  exact h j (List.mem_range.1 hj)
/-- A block of bytes reads as a list. -/
theorem byt_blk {w : World} {g n : Nat} {f : Nat → UInt8} {t : TypeId} (h : Blk w g n (fun j => bcell (f j)) t) (hn : n ≤ maxLen) : Byt w (.slice (some ⟨g, 0, none⟩) n n) (hl n f) :=
  ⟨_, n, by rw [hl_length], by rw [hl_length]; exact Nat.le_refl _, hn, fun _ => ⟨g, 0, rfl, h.lt, fun j hj => by
    rw [hl_length] at hj
    rw [Nat.zero_add, h.cell hj, hl_get]⟩⟩

/-- A key's block. -/
def keyB (key : List UInt8) (j : Nat) : UInt8 := if 64 < key.length then (if j < 32 then sumS key j else 0) else key.getD j 0
/-- A block, each byte exclusive-ored with one. -/
def padL (b : Nat → UInt8) (x : UInt8) : List UInt8 := hl 64 fun j => b j ^^^ x
/-- The sum with a key. -/
def macS (key text : List UInt8) : Nat → UInt8 := sumS (padL (keyB key) 92 ++ hl 32 (sumS (padL (keyB key) 54 ++ text)))
theorem macS_congr {k k' : List UInt8} (h : ∀ j, j < 64 → keyB k j = keyB k' j) (t : List UInt8) : macS k t = macS k' t := by
  have e : ∀ x, padL (keyB k) x = padL (keyB k') x := fun x => hl_congr fun j hj => by rw [h j hj]
  unfold macS
  rw [e, e]
theorem bv_xor (x y : UInt8) : bits BinOp.xor IntKind.u8 (x.toNat : Int) (y.toNat : Int) = ((x ^^^ y).toNat : Int) := by
  have := x.toNat_lt
  have := y.toNat_lt
  rw [u8_xor_nat _ _ (by omega) (by omega), UInt8.toNat_xor]
theorem bv_or (x y : UInt8) : bits BinOp.or IntKind.u8 (x.toNat : Int) (y.toNat : Int) = ((x ||| y).toNat : Int) := by
  have := x.toNat_lt
  have := y.toNat_lt
  rw [u8_or_nat _ _ (by omega) (by omega), UInt8.toNat_or]
end Go.Proofs.YtakigopjbbhjkaaDoor
