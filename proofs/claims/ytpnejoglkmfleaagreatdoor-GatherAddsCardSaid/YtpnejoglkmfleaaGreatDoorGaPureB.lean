/-
  Those of a kind and a view, part by part; when as many agree as a quorum has; plain lists.
-/
import Derived.Test.YtpnejoglkmfleaaGreatDoorGaPure
namespace Go.Proofs.YtpnejoglkmfleaaGreatDoor
set_option maxRecDepth 20000
def RiseG (T : List AtM) : Prop := T.Pairwise (fun a b => a.bo < b.bo)
def lowG (T : List AtM) (i : Int) : List AtM := T.filter (fun a => decide (a.bo < i))
theorem lowG_some : ∀ {T : List AtM} {i : Int} {a : AtM}, RiseG T → a ∈ T → a.bo = i → lowG T (i + 1) = lowG T i ++ [a]
  | [], _, _, _, h, _ => absurd h (by simp)
  | x :: r, i, a, hs, h, e => by
    obtain ⟨hx, hr⟩ := List.pairwise_cons.1 hs
    unfold lowG
    rcases List.mem_cons.1 h with rfl | h
    · have h1 : r.filter (fun y => decide (y.bo < i + 1)) = [] := by
        rw [List.filter_eq_nil_iff]
        intro y hy
        have := hx y hy
        simp only [decide_eq_true_eq]
        omega
      have h2 : r.filter (fun y => decide (y.bo < i)) = [] := by
        rw [List.filter_eq_nil_iff]
        intro y hy
        have := hx y hy
        simp only [decide_eq_true_eq]
        omega
      rw [List.filter_cons_of_pos (by simp only [decide_eq_true_eq]; omega), List.filter_cons_of_neg (by simp only [decide_eq_true_eq]; omega), h1, h2]
      rfl
    · have hxa := hx a h
      rw [List.filter_cons_of_pos (by simp only [decide_eq_true_eq]; omega), List.filter_cons_of_pos (by simp only [decide_eq_true_eq]; omega)]
      have := lowG_some hr h e
      unfold lowG at this
      rw [this]
      rfl
theorem lowG_none {T : List AtM} {i : Int} (h : ∀ a ∈ T, a.bo ≠ i) : lowG T (i + 1) = lowG T i := by
  unfold lowG
  refine List.filter_congr (fun a ha => ?_)
  have := h a ha
  rw [decide_eq_decide]
  omega
theorem lowG_start {T : List AtM} (h : ∀ a ∈ T, 1 ≤ a.bo) : lowG T 1 = [] := by
  unfold lowG
  rw [List.filter_eq_nil_iff]
  intro a ha
  have := h a ha
  simp only [decide_eq_true_eq]
  omega
theorem lowG_all {T : List AtM} {i : Int} (h : ∀ a ∈ T, a.bo < i) : lowG T i = T := by
  unfold lowG
  rw [List.filter_eq_self]
  intro a ha
  have := h a ha
  simp only [decide_eq_true_eq]
  omega
theorem those_mem {L : List AtM} {k v : Int} {a : AtM} : a ∈ thoseG L k v ↔ a ∈ L ∧ a.ki = k ∧ a.vi = v := by
  unfold thoseG
  rw [List.mem_filter]
  simp only [Bool.and_eq_true, decide_eq_true_eq]
theorem those_rise {L : List AtM} (h : SortG L) (k v : Int) : RiseG (thoseG L k v) := by
  have hs : (thoseG L k v).Pairwise (fun a b => aheadA a b = true) := h.sublist List.filter_sublist
  refine hs.imp_of_mem (fun {a b} ha hb hab => ?_)
  have h1 := those_mem.1 ha
  have h2 := those_mem.1 hb
  rw [aheadA_iff] at hab
  omega
theorem rise_agree {T : List AtM} (h : RiseG T) (p : AtM → Bool) : RiseG (T.filter p) := h.sublist List.filter_sublist
theorem sigsC_count {l : List AtM} (hs : RiseG l) (h1 : ∀ a ∈ l, 1 ≤ a.bo) (q : Nat) : ∀ k : Nat, (sigsC l q k).length = min q (lowG l ((k : Int) + 1)).length
  | 0 => by
    rw [show ((0 : Nat) : Int) + 1 = 1 from rfl, lowG_start h1]
    simp [sigsC]
  | k + 1 => by
    have ih := sigsC_count hs h1 q k
    have ek : (((k + 1 : Nat) : Int)) = (k : Int) + 1 := by omega
    unfold sigsC
    cases hf : l.find? (fun a => decide (a.bo = ((k + 1 : Nat) : Int))) with
    | none =>
      have hn : ∀ a ∈ l, a.bo ≠ (k : Int) + 1 := fun a ha e => by
        have := List.find?_eq_none.1 hf a ha
        simp only [decide_eq_true_eq] at this
        omega
      rw [ek, lowG_none hn]
      split <;> exact ih
    | some a =>
      have ha := List.mem_of_find?_eq_some hf
      have he := List.find?_some hf
      simp only [decide_eq_true_eq] at he
      rw [ek, lowG_some hs ha (by omega)]
      simp only [List.length_append, List.length_cons, List.length_nil]
      split
      · simp only [List.length_append, List.length_cons, List.length_nil]
        omega
      · omega
theorem makeC_enough {n : Int} {l : List AtM} (hq : quoS n ≠ 0) (hr : ∀ a ∈ l, okG n a = true) (ha : ∀ a ∈ l, ∀ b ∈ l, alikeA a b = true) (hs : RiseG l) : (makeC n l).2 = 0 ↔ quoS n ≤ l.length := by
  have h1 : ∀ a ∈ l, 1 ≤ a.bo ∧ a.bo ≤ n ∧ rightA a = true := fun a h => by
    have := hr a h
    unfold okG at this
    rw [Bool.and_eq_true, decide_eq_true_eq] at this
    have hm := this.1
    unfold rightA at hm
    rw [Bool.and_eq_true] at hm
    exact ⟨(mayA_iff hm.1).1, this.2, this.1⟩
  have hn : (sigsC l (quoS n) n.toNat).length = min (quoS n) l.length := by
    rw [sigsC_count hs (fun a h => (h1 a h).1), lowG_all (fun a h => by have := h1 a h; omega)]
  cases l with
  | nil =>
    constructor
    · intro h
      cases h
    · intro h
      simp only [List.length_nil] at h
      omega
  | cons a0 r =>
    have e1 : ((a0 :: r).all fun a => rightA a && decide (a.bo ≤ n)) = true := List.all_eq_true.2 (fun a h => by
      have := h1 a h
      rw [this.2.2, decide_eq_true this.2.1]
      rfl)
    have e2 : ((a0 :: r).all fun a => alikeA a a0) = true := List.all_eq_true.2 (fun a h => ha a h a0 (by simp))
    unfold makeC
    simp only [if_neg hq, e1, e2, Bool.true_eq_false, if_false]
    rw [hn]
    constructor
    · intro h
      by_cases hl : quoS n ≤ (a0 :: r).length
      · exact hl
      · rw [if_pos (by omega)] at h
        cases h
    · intro h
      rw [if_neg (by omega)]
theorem alike_filter {T : List AtM} {a : AtM} : T.filter (fun x => alikeA x a) = T.filter (alikeA a) := List.filter_congr (fun x _ => alikeA_comm x a)
theorem agree_enough {n : Int} {L : List AtM} {k v : Int} (hq : quoS n ≠ 0) (hr : ∀ a ∈ L, okG n a = true) (hs : SortG L) (a : AtM) : (makeC n ((thoseG L k v).filter (alikeA a))).2 = 0 ↔ quoS n ≤ ((thoseG L k v).filter (alikeA a)).length := by
  refine makeC_enough hq (fun x hx => hr x (those_mem.1 (List.mem_filter.1 hx).1).1) (fun x hx y hy => ?_) (rise_agree (those_rise hs k v) _)
  have h1 := (List.mem_filter.1 hx).2
  have h2 := (List.mem_filter.1 hy).2
  exact alikeA_trans (by rw [alikeA_comm]; exact h1) h2
def agrQ (n : Int) (T : List AtM) (a : AtM) : Bool := decide ((makeC n (T.filter (alikeA a))).2 = 0)
theorem certQ_no {n : Int} {L : List AtM} {k v : Int} (h : ∀ a ∈ thoseG L k v, agrQ n (thoseG L k v) a = false) : certG n L k v = (ctZ, false) := by
  unfold certG
  have : (thoseG L k v).find? (fun a => decide ((makeC n ((thoseG L k v).filter (alikeA a))).2 = 0)) = none := by
    rw [List.find?_eq_none]
    intro a ha
    have := h a ha
    unfold agrQ at this
    rw [this]
    decide
  rw [this]
theorem certQ_yes {n : Int} {L : List AtM} {k v : Int} {i : Nat} (hi : i < (thoseG L k v).length) (h0 : ∀ j (h : j < (thoseG L k v).length), j < i → agrQ n (thoseG L k v) (thoseG L k v)[j] = false) (h1 : agrQ n (thoseG L k v) (thoseG L k v)[i] = true) : certG n L k v = ((makeC n ((thoseG L k v).filter (alikeA (thoseG L k v)[i]))).1, true) := by
  unfold certG
  have : (thoseG L k v).find? (fun a => decide ((makeC n ((thoseG L k v).filter (alikeA a))).2 = 0)) = some (thoseG L k v)[i] := by
    rw [List.find?_eq_some_iff_getElem]
    exact ⟨h1, i, hi, rfl, fun j hj => by
      have := h0 j (by omega) hj
      unfold agrQ at this
      rw [this]
      decide⟩
  rw [this]
theorem agrQ_enough {n : Int} {L : List AtM} {k v : Int} (hq : quoS n ≠ 0) (hr : ∀ a ∈ L, okG n a = true) (hs : SortG L) (a : AtM) : agrQ n (thoseG L k v) a = decide (quoS n ≤ ((thoseG L k v).filter (fun x => alikeA x a)).length) := by
  unfold agrQ
  rw [decide_eq_decide, alike_filter]
  exact agree_enough hq hr hs a
end Go.Proofs.YtpnejoglkmfleaaGreatDoor
