/-
  The sum of a given text, by the kernel: words and states behind each round are laid as tables (sumgen.py), and checked.
-/
import Derived.Test.YtakigopjbbhjkaaDoorMacSpec
namespace Go.Proofs.YtakigopjbbhjkaaDoor

def ckNone : St := ⟨0, 0, 0, 0, 0, 0, 0, 0⟩
def ckSame (v u : St) : Bool := v.a == u.a && v.b == u.b && v.c == u.c && v.d == u.d && v.e == u.e && v.f == u.f && v.g == u.g && v.h == u.h
theorem ck_of_same {v u : St} (h : ckSame v u = true) : v = u := by
  simp only [ckSame, Bool.and_eq_true, beq_iff_eq] at h
  obtain ⟨⟨⟨⟨⟨⟨⟨h1, h2⟩, h3⟩, h4⟩, h5⟩, h6⟩, h7⟩, h8⟩ := h
  cases v; cases u
  simp_all
def ckWords (b : Nat → UInt8) (W : List UInt32) : Bool := (List.range 64).all fun i => W.getD i 0 == if i < 16 then wordB b i else sm1 (W.getD (i - 2) 0) + W.getD (i - 7) 0 + sm0 (W.getD (i - 15) 0) + W.getD (i - 16) 0
def ckRnds (W : List UInt32) (V : List St) : Bool := (List.range 64).all fun i => ckSame (V.getD (i + 1) ckNone) (rnd (kc i) (W.getD i 0) (V.getD i ckNone))
theorem ck_wd {b : Nat → UInt8} {W : List UInt32} (h : ckWords b W = true) (i : Nat) (hi : i < 64) : wd b i = W.getD i 0 := by
  have all : ∀ i, i < 64 → W.getD i 0 = if i < 16 then wordB b i else sm1 (W.getD (i - 2) 0) + W.getD (i - 7) 0 + sm0 (W.getD (i - 15) 0) + W.getD (i - 16) 0 := fun i hi => by
    have := List.all_eq_true.1 h i (List.mem_range.2 hi)
    exact eq_of_beq this
  induction i using Nat.strongRecOn with
  | _ i ih =>
    by_cases h16 : i < 16
    · rw [wd_low _ h16, all i hi, if_pos h16]
    · rw [wd_high _ (by omega) hi, all i hi, if_neg h16, ih _ (by omega) (by omega), ih _ (by omega) (by omega), ih _ (by omega) (by omega), ih _ (by omega) (by omega)]
theorem ck_states {b : Nat → UInt8} {s : Nat → UInt32} {W : List UInt32} {V : List St} (hw : ckWords b W = true) (hr : ckRnds W V = true) (h0 : ckSame (St.of s) (V.getD 0 ckNone) = true) : ∀ n, n ≤ 64 → rnds (wd b) n (St.of s) = V.getD n ckNone
  | 0, _ => ck_of_same h0
  | n + 1, h => by
    unfold rnds
    rw [ck_states hw hr h0 n (by omega), ck_wd hw n (by omega)]
    exact (ck_of_same (List.all_eq_true.1 hr n (List.mem_range.2 (by omega)))).symm
/-- A block's words as a function. -/
def ckAt (S : List UInt32) (i : Nat) : UInt32 := S.getD i 0
def ckByte (B : List UInt8) (j : Nat) : UInt8 := B.getD j 0
/-- What a table of a block must show: its words, its states, the words behind it. -/
def ckBlock (S : List UInt32) (B : List UInt8) (W : List UInt32) (V : List St) (S' : List UInt32) : Bool :=
  ckWords (ckByte B) W && ckRnds W V && ckSame (St.of (ckAt S)) (V.getD 0 ckNone) && (List.range 8).all fun i => ckAt S i + (V.getD 64 ckNone).at_ i == ckAt S' i
theorem ck_step {l : List UInt8} {k : Nat} {S : List UInt32} {B : List UInt8} {W : List UInt32} {V : List St} {S' : List UInt32} (h : ckBlock S B W V S' = true) (hB : (l.drop (64 * k)).take 64 = B) (hS : ∀ i, i < 8 → absb l k i = ckAt S i) :
    ∀ i, i < 8 → absb l (k + 1) i = ckAt S' i := fun i hi => by
  simp only [ckBlock, Bool.and_eq_true] at h
  obtain ⟨⟨⟨hw, hr⟩, h0⟩, hs⟩ := h
  have e1 : absb l (k + 1) i = turnS (absb l k) (fun j => l.getD (64 * k + j) 0) i := rfl
  have e2 : turnS (absb l k) (fun j => l.getD (64 * k + j) 0) i = turnS (ckAt S) (ckByte B) i := turnS_congr hS (fun j hj => by
    unfold ckByte
    rw [← hB, List.getD_eq_getElem?_getD, List.getD_eq_getElem?_getD, List.getElem?_take_of_lt hj, List.getElem?_drop]) i hi
  rw [e1, e2]
  have e3 : turnS (ckAt S) (ckByte B) i = ckAt S i + (rnds (wd (ckByte B)) 64 (St.of (ckAt S))).at_ i := rfl
  rw [e3, ck_states hw hr h0 64 (by omega)]
  exact eq_of_beq (List.all_eq_true.1 hs i (List.mem_range.2 hi))
theorem ck_start : ∀ (l : List UInt8) i, i < 8 → absb l 0 i = ckAt sl i := fun _ _ _ => rfl
/-- The sum's bytes out of the last words. -/
def ckOut (S : List UInt32) : List UInt8 := (List.range 32).map fun i => byteOf (ckAt S (i / 4)) (i % 4)
theorem ck_sum {x f : List UInt8} {n : Nat} {S : List UInt32} {H : List UInt8} (hf : fillS x = f) (hn : f.length / 64 = n) (hS : ∀ i, i < 8 → absb f n i = ckAt S i) (hH : ckOut S = H) : hl 32 (sumS x) = H := by
  rw [← hH]
  unfold hl ckOut
  apply List.map_congr_left
  intro i hi
  have hi2 := List.mem_range.1 hi
  unfold sumS
  rw [hf, hn, hS (i / 4) (by omega)]
end Go.Proofs.YtakigopjbbhjkaaDoor
