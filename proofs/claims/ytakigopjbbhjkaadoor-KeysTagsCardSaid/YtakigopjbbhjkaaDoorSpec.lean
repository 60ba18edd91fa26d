/-
  Sums of 256 bits, as plain functions on words and bytes. No function of the program.
-/
import Derived.Test.YtakigopjbbhjkaaDoorFc
namespace Go.Proofs.YtakigopjbbhjkaaDoor

/-- A word that is turned to the right, and one that is shifted. -/
def rr (x : UInt32) (n : Nat) : UInt32 := UInt32.ofNat (x.toNat / 2 ^ n + x.toNat % 2 ^ n * 2 ^ (32 - n))
def sr (x : UInt32) (n : Nat) : UInt32 := UInt32.ofNat (x.toNat / 2 ^ n)
def sm0 (x : UInt32) : UInt32 := rr x 7 ^^^ rr x 18 ^^^ sr x 3
def sm1 (x : UInt32) : UInt32 := rr x 17 ^^^ rr x 19 ^^^ sr x 10
def bg0 (x : UInt32) : UInt32 := rr x 2 ^^^ rr x 13 ^^^ rr x 22
def bg1 (x : UInt32) : UInt32 := rr x 6 ^^^ rr x 11 ^^^ rr x 25
def chc (x y z : UInt32) : UInt32 := (x &&& y) ||| (~~~x &&& z)
def maj (x y z : UInt32) : UInt32 := (x &&& y) ||| (x &&& z) ||| (y &&& z)

def kl : List UInt32 := [
  0x428a2f98, 0x71374491, 0xb5c0fbcf, 0xe9b5dba5, 0x3956c25b, 0x59f111f1, 0x923f82a4, 0xab1c5ed5,
  0xd807aa98, 0x12835b01, 0x243185be, 0x550c7dc3, 0x72be5d74, 0x80deb1fe, 0x9bdc06a7, 0xc19bf174,
  0xe49b69c1, 0xefbe4786, 0x0fc19dc6, 0x240ca1cc, 0x2de92c6f, 0x4a7484aa, 0x5cb0a9dc, 0x76f988da,
  0x983e5152, 0xa831c66d, 0xb00327c8, 0xbf597fc7, 0xc6e00bf3, 0xd5a79147, 0x06ca6351, 0x14292967,
  0x27b70a85, 0x2e1b2138, 0x4d2c6dfc, 0x53380d13, 0x650a7354, 0x766a0abb, 0x81c2c92e, 0x92722c85,
  0xa2bfe8a1, 0xa81a664b, 0xc24b8b70, 0xc76c51a3, 0xd192e819, 0xd6990624, 0xf40e3585, 0x106aa070,
  0x19a4c116, 0x1e376c08, 0x2748774c, 0x34b0bcb5, 0x391c0cb3, 0x4ed8aa4a, 0x5b9cca4f, 0x682e6ff3,
  0x748f82ee, 0x78a5636f, 0x84c87814, 0x8cc70208, 0x90befffa, 0xa4506ceb, 0xbef9a3f7, 0xc67178f2]
/-- The constants. -/
def kc (i : Nat) : UInt32 := kl.getD i 0

/-- A word of a block: four bytes, the highest first. -/
def four (a b c d : UInt8) : UInt32 := UInt32.ofNat (a.toNat * 16777216 + b.toNat * 65536 + c.toNat * 256 + d.toNat)
def wordB (b : Nat → UInt8) (i : Nat) : UInt32 := four (b (4 * i)) (b (4 * i + 1)) (b (4 * i + 2)) (b (4 * i + 3))
/-- The first n words that a block makes. -/
def sched (b : Nat → UInt8) : Nat → List UInt32
  | 0 => []
  | n + 1 => sched b n ++ [if n < 16 then wordB b n else sm1 ((sched b n).getD (n - 2) 0) + (sched b n).getD (n - 7) 0 + sm0 ((sched b n).getD (n - 15) 0) + (sched b n).getD (n - 16) 0]
def wd (b : Nat → UInt8) (i : Nat) : UInt32 := (sched b 64).getD i 0
theorem sched_length (b : Nat → UInt8) : ∀ n, (sched b n).length = n
  | 0 => rfl
  | n + 1 => by simp [sched, sched_length b n]
theorem sched_pre (b : Nat → UInt8) (i : Nat) : ∀ n, i < n → (sched b n).getD i 0 = (sched b (i + 1)).getD i 0
  | 0, h => absurd h (by omega)
  | n + 1, h => by
    by_cases e : i = n
    · subst e; rfl
    · have hi : i < n := by omega
      rw [← sched_pre b i n hi]
      have hl := sched_length b n
      simp only [sched, List.getD_eq_getElem?_getD]
      rw [List.getElem?_append_left (by omega)]
theorem sched_at (b : Nat → UInt8) {i n : Nat} (h : i < n) (h2 : n ≤ 64) : (sched b n).getD i 0 = wd b i := by
  unfold wd
  rw [sched_pre b i n h, sched_pre b i 64 (by omega)]
theorem wd_at (b : Nat → UInt8) {i : Nat} (h : i < 64) : wd b i = if i < 16 then wordB b i else sm1 ((sched b i).getD (i - 2) 0) + (sched b i).getD (i - 7) 0 + sm0 ((sched b i).getD (i - 15) 0) + (sched b i).getD (i - 16) 0 := by
  have e := sched_length b i
  unfold wd
  rw [sched_pre b i 64 h]
  simp only [sched, List.getD_eq_getElem?_getD]
  rw [List.getElem?_append_right (by omega), e, Nat.sub_self]
  rfl
theorem wd_low (b : Nat → UInt8) {i : Nat} (h : i < 16) : wd b i = wordB b i := by rw [wd_at b (by omega), if_pos h]
theorem wd_high (b : Nat → UInt8) {i : Nat} (h : 16 ≤ i) (h2 : i < 64) : wd b i = sm1 (wd b (i - 2)) + wd b (i - 7) + sm0 (wd b (i - 15)) + wd b (i - 16) := by
  rw [wd_at b h2, if_neg (by omega), sched_at b (by omega) (by omega), sched_at b (by omega) (by omega), sched_at b (by omega) (by omega), sched_at b (by omega) (by omega)]
theorem wd_congr {b b' : Nat → UInt8} (h : ∀ j, j < 64 → b j = b' j) : ∀ i, i < 64 → wd b i = wd b' i := by
  intro i
  induction i using Nat.strongRecOn with
  | _ i ih =>
    intro hi
    by_cases h16 : i < 16
    · rw [wd_low b h16, wd_low b' h16]
      unfold wordB
      rw [h _ (by omega), h _ (by omega), h _ (by omega), h _ (by omega)]
    · rw [wd_high b (by omega) hi, wd_high b' (by omega) hi, ih _ (by omega) (by omega), ih _ (by omega) (by omega), ih _ (by omega) (by omega), ih _ (by omega) (by omega)]

/-- A state. -/
structure St where
  a : UInt32
  b : UInt32
  c : UInt32
  d : UInt32
  e : UInt32
  f : UInt32
  g : UInt32
  h : UInt32
def St.at_ (v : St) (i : Nat) : UInt32 := [v.a, v.b, v.c, v.d, v.e, v.f, v.g, v.h].getD i 0
def St.of (s : Nat → UInt32) : St := ⟨s 0, s 1, s 2, s 3, s 4, s 5, s 6, s 7⟩
def rnd (k w : UInt32) (v : St) : St :=
  ⟨v.h + bg1 v.e + chc v.e v.f v.g + k + w + (bg0 v.a + maj v.a v.b v.c), v.a, v.b, v.c, v.d + (v.h + bg1 v.e + chc v.e v.f v.g + k + w), v.e, v.f, v.g⟩
def rnds (w : Nat → UInt32) : Nat → St → St
  | 0, v => v
  | n + 1, v => rnd (kc n) (w n) (rnds w n v)
/-- The state behind a block. -/
def turnS (s : Nat → UInt32) (b : Nat → UInt8) (i : Nat) : UInt32 := s i + (rnds (wd b) 64 (St.of s)).at_ i
theorem rnds_congr {w w' : Nat → UInt32} {v : St} : ∀ n, (∀ i, i < n → w i = w' i) → rnds w n v = rnds w' n v
  | 0, _ => rfl
  | n + 1, h => by
    unfold rnds
    rw [h n (by omega), rnds_congr n (fun i hi => h i (by omega))]
theorem turnS_congr {s s' : Nat → UInt32} {b b' : Nat → UInt8} (hs : ∀ i, i < 8 → s i = s' i) (hb : ∀ j, j < 64 → b j = b' j) (i : Nat) (hi : i < 8) : turnS s b i = turnS s' b' i := by
  have e : St.of s = St.of s' := by
    unfold St.of
    rw [hs 0 (by omega), hs 1 (by omega), hs 2 (by omega), hs 3 (by omega), hs 4 (by omega), hs 5 (by omega), hs 6 (by omega), hs 7 (by omega)]
  unfold turnS
  rw [e, hs i hi, rnds_congr 64 (wd_congr hb)]

def sl : List UInt32 := [0x6a09e667, 0xbb67ae85, 0x3c6ef372, 0xa54ff53a, 0x510e527f, 0x9b05688c, 0x1f83d9ab, 0x5be0cd19]
/-- The first state. -/
def start (i : Nat) : UInt32 := sl.getD i 0
/-- The state behind the first n blocks of a text. -/
def absb (l : List UInt8) : Nat → Nat → UInt32
  | 0 => start
  | n + 1 => turnS (absb l n) (fun j => l.getD (64 * n + j) 0)
theorem absb_congr {l m : List UInt8} : ∀ n, (∀ j, j < 64 * n → l.getD j 0 = m.getD j 0) → ∀ i, i < 8 → absb l n i = absb m n i
  | 0, _, _, _ => rfl
  | n + 1, h, i, hi => turnS_congr (absb_congr n fun j hj => h j (by omega)) (fun j hj => h _ (by omega)) i hi
theorem getD_left {l m : List UInt8} {j : Nat} (h : j < l.length) : (l ++ m).getD j 0 = l.getD j 0 := by
  simp only [List.getD_eq_getElem?_getD]
  rw [List.getElem?_append_left h]
theorem getD_right {l m : List UInt8} {j : Nat} : (l ++ m).getD (l.length + j) 0 = m.getD j 0 := by
  simp only [List.getD_eq_getElem?_getD]
  rw [List.getElem?_append_right (by omega), Nat.add_sub_cancel_left]
theorem absb_left {l m : List UInt8} {n : Nat} (h : 64 * n ≤ l.length) (i : Nat) (hi : i < 8) : absb (l ++ m) n i = absb l n i :=
  absb_congr n (fun _ hj => getD_left (by omega)) i hi

/-- The first k bytes of eight, the highest first. -/
def be8 (m : Nat) : Nat → List UInt8
  | 0 => []
  | k + 1 => be8 m k ++ [UInt8.ofNat (m / 2 ^ (56 - 8 * k))]
theorem be8_length (m : Nat) : ∀ k, (be8 m k).length = k
  | 0 => rfl
  | k + 1 => by simp [be8, be8_length m k]
/-- How many noughts fill a text of n bytes. -/
def noughts (n : Nat) : Nat := (64 - (n + 9) % 64) % 64
/-- What stands behind a text of n bytes when it is filled. -/
def tailS (n : Nat) : List UInt8 := 128 :: List.replicate (noughts n) 0 ++ be8 (n * 8) 8
def fillS (l : List UInt8) : List UInt8 := l ++ tailS l.length
theorem tailS_length (n : Nat) : (tailS n).length = noughts n + 9 := by
  simp [tailS, be8_length]
theorem noughts_le (n : Nat) : noughts n ≤ 63 := by unfold noughts; omega
theorem noughts_mod (n : Nat) : (n + (noughts n + 9)) % 64 = 0 := by unfold noughts; omega
theorem fillS_length (l : List UInt8) : (fillS l).length = l.length + (noughts l.length + 9) := by simp [fillS, tailS_length]
theorem fillS_mod (l : List UInt8) : (fillS l).length % 64 = 0 := by rw [fillS_length]; exact noughts_mod _
/-- The sum of a text. -/
def byteOf (x : UInt32) (j : Nat) : UInt8 := UInt8.ofNat (x.toNat / 2 ^ (24 - 8 * j))
def sumS (l : List UInt8) (i : Nat) : UInt8 := byteOf (absb (fillS l) ((fillS l).length / 64) (i / 4)) (i % 4)

/-- A digit, and a hash in digits. -/
def dgt (n : Nat) : UInt8 := if n < 10 then UInt8.ofNat (48 + n) else UInt8.ofNat (87 + n)
def hexS (h : Nat → UInt8) : Nat → List UInt8
  | 0 => []
  | n + 1 => hexS h n ++ [dgt ((h n).toNat / 16), dgt ((h n).toNat % 16)]
theorem hexS_length (h : Nat → UInt8) : ∀ n, (hexS h n).length = 2 * n
  | 0 => rfl
  | n + 1 => by
    simp [hexS, hexS_length h n]
    omega
theorem hexS_congr {h h' : Nat → UInt8} : ∀ n, (∀ i, i < n → h i = h' i) → hexS h n = hexS h' n
  | 0, _ => rfl
  | n + 1, e => by
    unfold hexS
    rw [e n (by omega), hexS_congr n (fun i hi => e i (by omega))]
end Go.Proofs.YtakigopjbbhjkaaDoor
