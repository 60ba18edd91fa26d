/-
  Numbers of digits of 16 bits, multiplied by hand; third roots bit by bit; the first 64 primes. Plain mathematics; no function of the program.
-/
import Derived.Test.YtgcagidkeacheaaDoorSpec
namespace Go.Proofs.YtgcagidkeacheaaDoor

def upd (f : Nat → Nat) (m v : Nat) : Nat → Nat := fun j => if j = m then v else f j
/-- What n digits are worth, the lowest first. -/
def val (f : Nat → Nat) : Nat → Nat
  | 0 => 0
  | n + 1 => val f n + f n * 65536 ^ n
theorem val_succ (f : Nat → Nat) (n : Nat) : val f (n + 1) = val f n + f n * 65536 ^ n := rfl
theorem val_congr {f g : Nat → Nat} : ∀ n, (∀ j, j < n → f j = g j) → val f n = val g n
  | 0, _ => rfl
  | n + 1, h => by
    unfold val
    rw [val_congr n fun j hj => h j (by omega), h n (by omega)]
theorem val_upd_out (f : Nat → Nat) {m n v : Nat} (h : n ≤ m) : val (upd f m v) n = val f n := val_congr n fun j hj => if_neg (by omega)
theorem val_add (f : Nat → Nat) (m d : Nat) : ∀ n, m < n → val (upd f m (f m + d)) n = val f n + d * 65536 ^ m
  | 0, h => absurd h (by omega)
  | n + 1, h => by
    unfold val
    by_cases e : m = n
    · subst e
      rw [val_upd_out f (Nat.le_refl _), show upd f m (f m + d) m = f m + d from if_pos rfl, Nat.add_mul, Nat.add_assoc]
    · rw [val_add f m d n (by omega), show upd f m (f m + d) n = f n from if_neg (by omega)]
      omega

/-- A line of the product: a's digit i times b's first k digits is added to f. -/
def pin (a b : Nat → Nat) (i : Nat) (f : Nat → Nat) : Nat → Nat → Nat
  | 0 => f
  | k + 1 => upd (pin a b i f k) (i + k) (pin a b i f k (i + k) + a i * b k)
theorem pin_at (a b : Nat → Nat) (i : Nat) (f : Nat → Nat) (j : Nat) : ∀ k, pin a b i f k j = f j + if i ≤ j ∧ j < i + k then a i * b (j - i) else 0
  | 0 => by rw [if_neg (by omega)]; rfl
  | k + 1 => by
    unfold pin upd
    by_cases e : j = i + k
    · subst e
      rw [if_pos rfl, pin_at a b i f (i + k) k, if_neg (by omega), if_pos (by omega), Nat.add_sub_cancel_left]
      rfl
    · rw [if_neg e, pin_at a b i f j k]
      by_cases h : i ≤ j ∧ j < i + k
      · rw [if_pos h, if_pos (by omega)]
      · rw [if_neg h, if_neg (by omega)]
theorem val_pin (a b : Nat → Nat) (i : Nat) (f : Nat → Nat) (N : Nat) : ∀ k, i + k ≤ N → val (pin a b i f k) N = val f N + a i * 65536 ^ i * val b k
  | 0, _ => by simp [pin, val]
  | k + 1, h => by
    unfold pin
    rw [val_succ, val_add _ _ _ N (by omega), val_pin a b i f N k (by omega), Nat.mul_add, Nat.pow_add, Nat.add_assoc]
    congr 2
    generalize 65536 ^ i = z
    generalize 65536 ^ k = y
    rw [Nat.mul_assoc (a i) (b k) (z * y), Nat.mul_assoc (a i) z (b k * y), Nat.mul_left_comm z (b k) y]
/-- The product's lines 0 to i - 1. -/
def pout (a b : Nat → Nat) (nb : Nat) : Nat → Nat → Nat
  | 0 => fun _ => 0
  | i + 1 => pin a b i (pout a b nb i) nb
theorem val_pout (a b : Nat → Nat) (nb N : Nat) : ∀ i, i + nb ≤ N + 1 → val (pout a b nb i) N = val a i * val b nb
  | 0, _ => by
    have h0 : ∀ n, val (fun _ => 0) n = 0 := fun n => by
      induction n with
      | zero => rfl
      | succ n ih => simp [val, ih]
    simp [pout, val, h0]
  | i + 1, h => by
    unfold pout
    rw [val_succ, val_pin a b i _ N nb (by omega), val_pout a b nb N i (by omega), Nat.add_mul]
theorem mul16 {x y : Nat} (hx : x ≤ 65535) (hy : y ≤ 65535) : x * y ≤ 4294836225 := Nat.le_trans (Nat.mul_le_mul hx hy) (by decide)
theorem pout_le {M : Nat} (a b : Nat → Nat) (nb : Nat) (hM : ∀ i j, a i * b j ≤ M) (j : Nat) : ∀ i, pout a b nb i j ≤ i * M
  | 0 => Nat.zero_le _
  | i + 1 => by
    have e : pout a b nb (i + 1) j = pin a b i (pout a b nb i) nb j := rfl
    rw [e, pin_at, Nat.add_mul, Nat.one_mul]
    have h1 := pout_le a b nb hM j i
    have h2 := hM i (j - i)
    split <;> omega
theorem pin_le {M : Nat} (a b : Nat → Nat) (nb : Nat) (hM : ∀ i j, a i * b j ≤ M) (i k j : Nat) : pin a b i (pout a b nb i) k j ≤ (i + 1) * M := by
  rw [pin_at, Nat.add_mul, Nat.one_mul]
  have h1 := pout_le a b nb hM j i
  have h2 := hM i (j - i)
  split <;> omega

/-- What is above 16 bits is carried, from the digits 0 to i - 1. -/
def carA (f : Nat → Nat) (i : Nat) : Nat → Nat := upd f (i + 1) (f (i + 1) + f i / 65536)
def car (f : Nat → Nat) : Nat → Nat → Nat
  | 0 => f
  | i + 1 => upd (carA (car f i) i) i (car f i i % 65536)
theorem val_car (f : Nat → Nat) (N : Nat) : ∀ i, i < N → val (car f i) N = val f N
  | 0, _ => rfl
  | i + 1, h => by
    rw [← val_car f N i (by omega)]
    show val (upd (carA (car f i) i) i (car f i i % 65536)) N = val (car f i) N
    generalize car f i = g
    have h1 : val (carA g i) N = val g N + g i / 65536 * 65536 ^ (i + 1) := val_add g (i + 1) _ N h
    have hgi : carA g i i = g i := if_neg (by omega)
    have h2 := val_add (upd (carA g i) i (g i % 65536)) i (65536 * (g i / 65536)) N (by omega)
    have e : upd (upd (carA g i) i (g i % 65536)) i (upd (carA g i) i (g i % 65536) i + 65536 * (g i / 65536)) = carA g i := by
      funext j
      unfold upd
      by_cases hj : j = i
      · subst hj
        rw [if_pos rfl, if_pos rfl, hgi]
        omega
      · rw [if_neg hj, if_neg hj]
    rw [e, h1, Nat.pow_succ] at h2
    have h3 : 65536 * (g i / 65536) * 65536 ^ i = g i / 65536 * (65536 ^ i * 65536) := by
      generalize 65536 ^ i = z
      rw [Nat.mul_comm 65536 (g i / 65536), Nat.mul_assoc, Nat.mul_comm 65536 z]
    show val (upd (carA g i) i (g i % 65536)) N = val g N
    omega
theorem car_high (f : Nat → Nat) (j : Nat) : ∀ i, i < j → car f i j = f j
  | 0, _ => rfl
  | i + 1, h => by
    unfold car upd carA upd
    rw [if_neg (by omega), if_neg (by omega), car_high f j i (by omega)]
theorem car_low (f : Nat → Nat) (j : Nat) : ∀ i, j < i → car f i j ≤ 65535
  | 0, h => absurd h (by omega)
  | i + 1, h => by
    unfold car upd carA upd
    by_cases e : j = i
    · rw [if_pos e]
      omega
    · rw [if_neg e, if_neg (by omega)]
      exact car_low f j i (by omega)
theorem car_at (f : Nat → Nat) (M : Nat) (hf : ∀ j, f j ≤ M) : ∀ i, car f i i ≤ 2 * M
  | 0 => by have := hf 0; unfold car; omega
  | i + 1 => by
    have h1 := car_at f M hf i
    have h2 := hf (i + 1)
    unfold car upd carA upd
    rw [if_neg (by omega), if_pos rfl, car_high f (i + 1) i (by omega)]
    omega

theorem val_top (f : Nat → Nat) (n : Nat) : f n * 65536 ^ n ≤ val f (n + 1) := by unfold val; omega
theorem val_lt {f : Nat → Nat} : ∀ n, (∀ j, j < n → f j ≤ 65535) → val f n < 65536 ^ n
  | 0, _ => by simp [val]
  | n + 1, h => by
    have h1 := val_lt n fun j hj => h j (by omega)
    have h2 : f n * 65536 ^ n ≤ 65535 * 65536 ^ n := Nat.mul_le_mul_right _ (h n (by omega))
    unfold val
    rw [Nat.pow_succ]
    omega
theorem val_cmp {f g : Nat → Nat} {i : Nat} (hf : ∀ j, j < i → f j ≤ 65535) (h : f i < g i) : ∀ n, i < n → (∀ j, i < j → j < n → f j = g j) → val f n < val g n
  | 0, hn, _ => absurd hn (by omega)
  | n + 1, hn, he => by
    by_cases e : i = n
    · subst e
      have h1 := val_lt i hf
      have h2 : (f i + 1) * 65536 ^ i ≤ g i * 65536 ^ i := Nat.mul_le_mul_right _ h
      unfold val
      rw [Nat.add_mul, Nat.one_mul] at h2
      omega
    · have h1 := val_cmp hf h n (by omega) fun j h1 h2 => he j h1 (by omega)
      unfold val
      rw [he n (by omega) (by omega)]
      omega

/-- A product of numbers of na and nb digits. -/
def mulS (a b : Nat → Nat) (na nb : Nat) : Nat → Nat := car (pout a b nb na) (na + nb)
theorem val_mulS (a b : Nat → Nat) (na nb : Nat) : val (mulS a b na nb) (na + nb + 1) = val a na * val b nb := by
  unfold mulS
  rw [val_car _ _ _ (by omega), val_pout a b nb _ na (by omega)]
theorem mulS_low (a b : Nat → Nat) (na nb : Nat) {j : Nat} (h : j < na + nb) : mulS a b na nb j ≤ 65535 := car_low _ _ _ h
theorem mulS_top (a b : Nat → Nat) (na nb : Nat) (h : val a na * val b nb < 65536 ^ (na + nb)) : mulS a b na nb (na + nb) = 0 := by
  have h1 := val_top (mulS a b na nb) (na + nb)
  rw [val_mulS] at h1
  generalize mulS a b na nb (na + nb) = z at h1 ⊢
  rcases z with _ | z
  · rfl
  · have : 65536 ^ (na + nb) ≤ (z + 1) * 65536 ^ (na + nb) := Nat.le_mul_of_pos_left _ (by omega)
    omega
def digS (x : Nat) (j : Nat) : Nat := if j = 0 then x % 65536 else if j = 1 then x / 65536 % 65536 else if j = 2 then x / 4294967296 else 0
theorem digS_le {x : Nat} (h : x < 68719476736) (j : Nat) : digS x j ≤ 65535 := by
  unfold digS
  split
  · omega
  · split
    · omega
    · split
      · omega
      · omega
theorem digS_val (x : Nat) : val (digS x) 3 = x := by
  have e : val (digS x) 3 = digS x 0 + digS x 1 * 65536 + digS x 2 * 4294967296 := by simp [val]
  rw [e]
  unfold digS
  simp only [if_pos, Nat.one_ne_zero, if_false]
  simp
  omega
def sqS (x : Nat) : Nat → Nat := mulS (digS x) (digS x) 3 3
theorem sqS_val (x : Nat) : val (sqS x) 7 = x * x := by
  have h := val_mulS (digS x) (digS x) 3 3
  rw [digS_val] at h
  exact h
theorem sqS_le {x : Nat} (hx : x < 68719476736) {j : Nat} (hj : j < 7) : sqS x j ≤ 65535 := by
  by_cases h : j < 6
  · exact mulS_low _ _ _ _ h
  · obtain rfl : j = 6 := by omega
    have h2 : x * x ≤ 68719476735 * 68719476735 := Nat.mul_le_mul (by omega) (by omega)
    have := mulS_top (digS x) (digS x) 3 3 (by rw [digS_val]; omega)
    show mulS (digS x) (digS x) 3 3 (3 + 3) ≤ 65535
    omega
def cutS (f : Nat → Nat) (n j : Nat) : Nat := if j < n then f j else 0
def cuS (x : Nat) : Nat → Nat := mulS (cutS (sqS x) 7) (digS x) 7 3
theorem cuS_val {x : Nat} (hx : x < 68719476736) : val (cuS x) 10 = x * x * x ∧ ∀ j, j < 10 → cuS x j ≤ 65535 := by
  have h := val_mulS (cutS (sqS x) 7) (digS x) 7 3
  have e : val (cutS (sqS x) 7) 7 = x * x := by
    rw [← sqS_val x]
    exact val_congr 7 fun j hj => if_pos hj
  rw [digS_val, e] at h
  have h2 : x * x ≤ 68719476735 * 68719476735 := Nat.mul_le_mul (by omega) (by omega)
  have h3 : x * x * x ≤ 68719476735 * 68719476735 * 68719476735 := Nat.mul_le_mul h2 (by omega)
  have ht := mulS_top (cutS (sqS x) 7) (digS x) 7 3 (by rw [digS_val, e]; omega)
  have hv : val (cuS x) 11 = val (cuS x) 10 + cuS x 10 * 65536 ^ 10 := rfl
  have ht2 : cuS x 10 = 0 := ht
  have h4 : val (cuS x) 11 = x * x * x := h
  rw [ht2] at hv
  exact ⟨by omega, fun j hj => mulS_low _ _ _ _ hj⟩
theorem cutS_le {x : Nat} (hx : x < 68719476736) (j : Nat) : cutS (sqS x) 7 j ≤ 65535 := by
  unfold cutS
  split
  · exact sqS_le hx ‹_›
  · omega
/-- A number times 2^96. -/
def bdS (p j : Nat) : Nat := if j = 6 then p else 0
theorem bdS_val (p : Nat) : val (bdS p) 10 = p * 79228162514264337593543950336 := by simp [val, bdS]
def lessB (x p : Nat) : Bool := decide (x * x * x ≤ p * 79228162514264337593543950336)
theorem less_yes {x p i : Nat} (hx : x < 68719476736) (hi : i < 10) (he : ∀ j, i < j → j < 10 → cuS x j = bdS p j) (h : cuS x i < bdS p i) : lessB x p = true := by
  obtain ⟨hv, hl⟩ := cuS_val hx
  have := val_cmp (fun j hj => hl j (by omega)) h 10 hi he
  rw [hv, bdS_val] at this
  exact decide_eq_true (by omega)
theorem less_no {x p i : Nat} (hx : x < 68719476736) (hp : p ≤ 65535) (hi : i < 10) (he : ∀ j, i < j → j < 10 → cuS x j = bdS p j) (h : bdS p i < cuS x i) : lessB x p = false := by
  obtain ⟨hv, hl⟩ := cuS_val hx
  have := val_cmp (fun j _ => by unfold bdS; split <;> omega) h 10 hi fun j h1 h2 => (he j h1 h2).symm
  rw [hv, bdS_val] at this
  exact decide_eq_false (by omega)
theorem less_same {x p : Nat} (hx : x < 68719476736) (he : ∀ j, j < 10 → cuS x j = bdS p j) : lessB x p = true := by
  obtain ⟨hv, _⟩ := cuS_val hx
  have := val_congr 10 he
  rw [hv, bdS_val] at this
  exact decide_eq_true (by omega)

/-- The root's first n bits of 36. -/
def rt (p : Nat) : Nat → Nat
  | 0 => 0
  | n + 1 => if lessB (rt p n + 2 ^ (35 - n)) p then rt p n + 2 ^ (35 - n) else rt p n
theorem rt_lt (p : Nat) : ∀ n, n ≤ 36 → rt p n + 2 ^ (36 - n) ≤ 68719476736
  | 0, _ => by simp [rt]
  | n + 1, h => by
    have h1 := rt_lt p n (by omega)
    have e : 2 ^ (36 - n) = 2 ^ (35 - n) + 2 ^ (35 - n) := by
      rw [show 36 - n = (35 - n) + 1 from by omega, Nat.pow_succ]
      omega
    have e2 : 36 - (n + 1) = 35 - n := by omega
    show (if lessB (rt p n + 2 ^ (35 - n)) p then rt p n + 2 ^ (35 - n) else rt p n) + 2 ^ (36 - (n + 1)) ≤ 68719476736
    rw [e2]
    rw [e] at h1
    generalize 2 ^ (35 - n) = z at h1 ⊢
    split <;> omega

def pl : List Nat := [2, 3, 5, 7, 11, 13, 17, 19, 23, 29, 31, 37, 41, 43, 47, 53, 59, 61, 67, 71, 73, 79, 83, 89, 97, 101, 103, 107, 109, 113, 127, 131, 137, 139, 149, 151, 157, 163, 167, 173, 179, 181, 191, 193, 197, 199, 211, 223, 227, 229, 233, 239, 241, 251, 257, 263, 269, 271, 277, 281, 283, 293, 307, 311]
theorem pl_length : pl.length = 64 := rfl
/-- How many primes are below n. -/
def cnt (n : Nat) : Nat := (pl.filter (· < n)).length
/-- Is n no multiple of the first i primes? -/
def prm (n i : Nat) : Bool := (pl.take i).all fun q => n % q != 0
theorem prm_succ (n i : Nat) (h : i < 64) : prm n (i + 1) = (prm n i && (n % pl.getD i 0 != 0)) := by
  have hl : i < pl.length := h
  unfold prm
  rw [List.take_succ_eq_append_getElem hl, List.all_append, List.getD_eq_getElem?_getD, List.getElem?_eq_getElem hl]
  simp
theorem cnt_step : ∀ n : Fin 312, 2 ≤ n.val → cnt n.val < 64 ∧ (prm n.val (cnt n.val) = true → cnt (n.val + 1) = cnt n.val + 1 ∧ pl.getD (cnt n.val) 0 = n.val) ∧ (prm n.val (cnt n.val) = false → cnt (n.val + 1) = cnt n.val) := by decide +kernel
theorem cnt_end : cnt 312 = 64 := by decide +kernel
theorem pl_le : ∀ k : Fin 64, 2 ≤ pl.getD k.val 0 ∧ pl.getD k.val 0 ≤ 311 := by decide +kernel
/-- The constants are the third roots' first bits. -/
theorem roots : ∀ k : Fin 64, rt (pl.getD k.val 0) 36 % 4294967296 = (kc k.val).toNat := by decide +kernel
end Go.Proofs.YtgcagidkeacheaaDoor
