/-
  Two lists of unlike numbers of 1 to n, each more than half as long, have a number in common. Plain mathematics; no function of the program.
-/
import Derived.Test.YtakigopjbbhjkaaDoorRows
namespace Go.Proofs.YtakigopjbbhjkaaDoor

/-- Unlike numbers of 1 to n are at most n. -/
theorem unlike_le : ∀ (n : Nat) (l : List Int), l.Nodup → (∀ x ∈ l, 1 ≤ x ∧ x ≤ (n : Int)) → l.length ≤ n
  | 0, l, _, h => by
    rcases l with _ | ⟨x, l⟩
    · exact Nat.le_refl _
    · have := h x (by simp)
      omega
  | n + 1, l, hd, h => by
    by_cases hm : ((n + 1 : Nat) : Int) ∈ l
    · have hl := List.length_erase_of_mem hm
      have ih := unlike_le n (l.erase ((n + 1 : Nat) : Int)) (hd.erase _) (fun x hx => by
        have h1 := h x (List.mem_of_mem_erase hx)
        have h2 : x ≠ ((n + 1 : Nat) : Int) := fun e => by
          rw [e] at hx
          exact (List.Nodup.not_mem_erase hd) hx
        omega)
      have hp : 0 < l.length := List.length_pos_of_mem hm
      omega
    · have ih := unlike_le n l hd (fun x hx => by
        have h1 := h x hx
        have h2 : x ≠ ((n + 1 : Nat) : Int) := fun e => hm (by rw [← e]; exact hx)
        omega)
      omega
/-- The lists meet. -/
theorem lists_meet {n : Nat} {a b : List Int} (ha : a.Nodup) (hb : b.Nodup) (ra : ∀ x ∈ a, 1 ≤ x ∧ x ≤ (n : Int)) (rb : ∀ x ∈ b, 1 ≤ x ∧ x ≤ (n : Int)) (h : n < a.length + b.length) : ∃ x, x ∈ a ∧ x ∈ b := by
  by_cases hx : ∃ x, x ∈ a ∧ x ∈ b
  · exact hx
  · have hd : (a ++ b).Nodup := List.nodup_append.2 ⟨ha, hb, fun x hxa y hyb e => hx ⟨x, hxa, by rw [e]; exact hyb⟩⟩
    have := unlike_le n (a ++ b) hd (fun x hx => by
      rcases List.mem_append.1 hx with h | h
      · exact ra x h
      · exact rb x h)
    rw [List.length_append] at this
    omega

/-- What the law's 'parts' tells: are the first i numbers of 1 to n, and unlike? -/
def partsI (l : List Int) (n : Int) (i : Nat) : Bool := decide ((∀ x ∈ l.take i, 1 ≤ x ∧ x ≤ n) ∧ (l.take i).Nodup)
def partsB (l : List Int) (n : Int) : Bool := decide (l.length ≤ 30) && partsI l n l.length
theorem partsB_ok {l : List Int} {n : Int} (h : partsB l n = true) : (∀ x ∈ l, 1 ≤ x ∧ x ≤ n) ∧ l.Nodup := by
  unfold partsB partsI at h
  rw [Bool.and_eq_true, decide_eq_true_eq, decide_eq_true_eq, List.take_length] at h
  exact h.2
theorem partsI_zero (l : List Int) (n : Int) : partsI l n 0 = true := by
  unfold partsI
  simp
/-- The quorum of n. -/
def quoS (n : Int) : Nat := if 1 ≤ n ∧ n ≤ 21 ∧ n % 2 = 1 then (n / 2).toNat + 1 else 0
theorem quo_meet {n : Int} {a b : List Int} (h0 : quoS n ≠ 0) (ha : partsB a n = true) (hb : partsB b n = true) (la : a.length = quoS n) (lb : b.length = quoS n) : ∃ x, x ∈ a ∧ x ∈ b := by
  unfold quoS at h0 la lb
  by_cases h : 1 ≤ n ∧ n ≤ 21 ∧ n % 2 = 1
  · rw [if_pos h] at la lb
    obtain ⟨m, rfl⟩ : ∃ m : Nat, n = (m : Int) := ⟨n.toNat, by omega⟩
    exact lists_meet (n := m) (partsB_ok ha).2 (partsB_ok hb).2 (partsB_ok ha).1 (partsB_ok hb).1 (by rw [la, lb]; omega)
  · rw [if_neg h] at h0
    exact absurd rfl h0
end Go.Proofs.YtakigopjbbhjkaaDoor
