/-
  Attestations that come one by one, as plain lists: what is there, in which order; that the order in which they come does not matter.
-/
import Derived.Test.YtpnejoglkmfleaaGreatDoorBsX
namespace Go.Proofs.YtpnejoglkmfleaaGreatDoor
set_option maxRecDepth 20000
def aheadA (a b : AtM) : Bool := if a.vi = b.vi then (if a.ki = b.ki then decide (a.bo < b.bo) else decide (a.ki < b.ki)) else decide (a.vi < b.vi)
def keyA (a b : AtM) : Bool := decide (a.bo = b.bo) && (decide (a.ki = b.ki) && decide (a.vi = b.vi))
theorem keyA_iff {a b : AtM} : keyA a b = true ↔ a.bo = b.bo ∧ a.ki = b.ki ∧ a.vi = b.vi := by
  unfold keyA
  simp only [Bool.and_eq_true, decide_eq_true_eq]
theorem keyA_self (a : AtM) : keyA a a = true := keyA_iff.2 ⟨rfl, rfl, rfl⟩
theorem keyA_comm (a b : AtM) : keyA a b = keyA b a := by
  rw [Bool.eq_iff_iff, keyA_iff, keyA_iff]
  constructor <;> (rintro ⟨h1, h2, h3⟩; exact ⟨h1.symm, h2.symm, h3.symm⟩)
theorem aheadA_iff {a b : AtM} : aheadA a b = true ↔ a.vi < b.vi ∨ (a.vi = b.vi ∧ (a.ki < b.ki ∨ (a.ki = b.ki ∧ a.bo < b.bo))) := by
  unfold aheadA
  split
  · split
    · rw [decide_eq_true_eq]
      omega
    · rw [decide_eq_true_eq]
      omega
  · rw [decide_eq_true_eq]
    omega
theorem aheadA_trans {a b c : AtM} (h : aheadA a b = true) (k : aheadA b c = true) : aheadA a c = true := by
  rw [aheadA_iff] at *
  omega
theorem aheadA_irr (a : AtM) : aheadA a a = false := by
  rw [Bool.eq_false_iff]
  intro h
  rw [aheadA_iff] at h
  omega
theorem aheadA_asym {a b : AtM} (h : aheadA a b = true) : aheadA b a = false := by
  rw [Bool.eq_false_iff]
  intro k
  have := aheadA_trans h k
  rw [aheadA_irr] at this
  cases this
theorem aheadA_total {a b : AtM} (h : keyA a b = false) : aheadA a b = true ∨ aheadA b a = true := by
  rw [Bool.eq_false_iff] at h
  rw [aheadA_iff, aheadA_iff]
  rw [Ne, keyA_iff] at h
  omega
theorem key_ahead {a b : AtM} (h : aheadA a b = true) : keyA a b = false := by
  rw [Bool.eq_false_iff]
  intro k
  rw [aheadA_iff] at h
  rw [keyA_iff] at k
  omega
def placeG (a : AtM) : List AtM → Nat → Nat → Nat
  | [], _, k => k
  | x :: r, i, k => placeG a r (i + 1) (if aheadA x a = true then i + 1 else k)
def insG (a : AtM) (L : List AtM) : List AtM := L.take (placeG a L 0 0) ++ a :: L.drop (placeG a L 0 0)
def SortG (L : List AtM) : Prop := L.Pairwise (fun a b => aheadA a b = true)
def okG (n : Int) (a : AtM) : Bool := rightA a && decide (a.bo ≤ n)
def addG (n : Int) (L : List AtM) (a : AtM) : List AtM × Int :=
  if okG n a = true then (if L.any (fun x => keyA x a) = true then (L, 15) else if 200 ≤ L.length then (L, 4) else (insG a L, 0)) else (L, 7)
theorem placeG_le (a : AtM) : ∀ (L : List AtM) (i k : Nat), k ≤ i → placeG a L i k ≤ i + L.length
  | [], i, k, h => by simpa [placeG] using h
  | x :: r, i, k, h => by
    unfold placeG
    have := placeG_le a r (i + 1) (if aheadA x a = true then i + 1 else k) (by split <;> omega)
    simp only [List.length_cons]
    omega
theorem placeG_le0 (a : AtM) (L : List AtM) : placeG a L 0 0 ≤ L.length := by
  have := placeG_le a L 0 0 (Nat.le_refl _)
  omega
theorem insG_length (a : AtM) (L : List AtM) : (insG a L).length = L.length + 1 := by
  have := placeG_le0 a L
  unfold insG
  simp only [List.length_append, List.length_take, List.length_cons, List.length_drop]
  omega
theorem mem_insG {a x : AtM} {L : List AtM} : x ∈ insG a L ↔ x = a ∨ x ∈ L := by
  unfold insG
  rw [List.mem_append, List.mem_cons]
  have : x ∈ L ↔ x ∈ L.take (placeG a L 0 0) ∨ x ∈ L.drop (placeG a L 0 0) := by
    rw [← List.mem_append, List.take_append_drop]
  rw [this]
  constructor
  · rintro (h | h | h)
    · exact .inr (.inl h)
    · exact .inl h
    · exact .inr (.inr h)
  · rintro (h | h | h)
    · exact .inr (.inl h)
    · exact .inl h
    · exact .inr (.inr h)
theorem placeG_split (a : AtM) : ∀ (L : List AtM) (i k : Nat), SortG L → (∀ x ∈ L, keyA x a = false) →
    ∃ m, m ≤ L.length ∧ placeG a L i k = (if m = 0 then k else i + m) ∧ (∀ j (h : j < L.length), j < m → aheadA L[j] a = true) ∧ (∀ j (h : j < L.length), m ≤ j → aheadA a L[j] = true)
  | [], i, k, _, _ => ⟨0, Nat.le_refl _, by simp [placeG], fun j h => absurd h (by simp), fun j h => absurd h (by simp)⟩
  | x :: r, i, k, hs, hk => by
    obtain ⟨hx, hr⟩ := List.pairwise_cons.1 hs
    unfold placeG
    by_cases ha : aheadA x a = true
    · obtain ⟨m, h1, h2, h3, h4⟩ := placeG_split a r (i + 1) (i + 1) hr (fun y hy => hk y (List.mem_cons_of_mem _ hy))
      refine ⟨m + 1, by simpa using h1, ?_, ?_, ?_⟩
      · have h0 : ¬ m + 1 = 0 := by omega
        rw [if_pos ha, h2, if_neg h0]
        split <;> omega
      · intro j hj hm
        cases j with
        | zero => exact ha
        | succ j => exact h3 j (by simpa using hj) (by omega)
      · intro j hj hm
        cases j with
        | zero => omega
        | succ j => exact h4 j (by simpa using hj) (by omega)
    · have hax : aheadA a x = true := (aheadA_total (hk x (by simp))).resolve_left ha
      have hall : ∀ y ∈ r, aheadA a y = true := fun y hy => aheadA_trans hax (hx y hy)
      have hno : ∀ (r : List AtM) (i k : Nat), (∀ y ∈ r, aheadA a y = true) → placeG a r i k = k := by
        intro r
        induction r with
        | nil => intro i k _; rfl
        | cons y r ih =>
          intro i k h
          unfold placeG
          rw [if_neg (by rw [aheadA_asym (h y (by simp))]; decide)]
          exact ih _ _ (fun z hz => h z (List.mem_cons_of_mem _ hz))
      refine ⟨0, Nat.zero_le _, ?_, fun j _ h => absurd h (by omega), ?_⟩
      · rw [if_neg ha, hno r _ _ hall, if_pos rfl]
      · intro j hj _
        cases j with
        | zero => exact hax
        | succ j => exact hall _ (List.getElem_mem (by simpa using hj))
theorem insG_sort {a : AtM} {L : List AtM} (hs : SortG L) (hk : ∀ x ∈ L, keyA x a = false) : SortG (insG a L) := by
  obtain ⟨m, h1, h2, h3, h4⟩ := placeG_split a L 0 0 hs hk
  have hp : placeG a L 0 0 = m := by
    rw [h2]
    split <;> omega
  unfold insG SortG
  rw [hp, List.pairwise_append]
  refine ⟨hs.sublist (List.take_sublist _ _), ?_, ?_⟩
  · rw [List.pairwise_cons]
    refine ⟨fun y hy => ?_, hs.sublist (List.drop_sublist _ _)⟩
    obtain ⟨j, hj, rfl⟩ := List.getElem_of_mem hy
    rw [List.getElem_drop]
    exact h4 _ _ (by omega)
  · intro x hx y hy
    obtain ⟨i, hi, rfl⟩ := List.getElem_of_mem hx
    rw [List.length_take] at hi
    have hxa : aheadA (L.take m)[i] a = true := by
      rw [List.getElem_take]
      exact h3 i (by omega) (by omega)
    rcases List.mem_cons.1 hy with rfl | hy
    · exact hxa
    · obtain ⟨j, hj, rfl⟩ := List.getElem_of_mem hy
      rw [List.getElem_drop]
      exact aheadA_trans hxa (h4 _ _ (by omega))
theorem sortG_ext : ∀ {L M : List AtM}, SortG L → SortG M → (∀ x, x ∈ L ↔ x ∈ M) → L = M
  | [], [], _, _, _ => rfl
  | [], b :: M, _, _, h => absurd ((h b).2 (by simp)) (by simp)
  | a :: L, [], _, _, h => absurd ((h a).1 (by simp)) (by simp)
  | a :: L, b :: M, hL, hM, h => by
    obtain ⟨ha, hL'⟩ := List.pairwise_cons.1 hL
    obtain ⟨hb, hM'⟩ := List.pairwise_cons.1 hM
    have hab : a = b := by
      rcases List.mem_cons.1 ((h a).1 (by simp)) with e | h1
      · exact e
      · rcases List.mem_cons.1 ((h b).2 (by simp)) with e | h2
        · exact e.symm
        · have k1 := hb a h1
          have k2 := aheadA_asym (ha b h2)
          rw [k1] at k2
          cases k2
    subst hab
    have ht : ∀ x, x ∈ L ↔ x ∈ M := fun x => by
      constructor
      · intro hx
        rcases List.mem_cons.1 ((h x).1 (List.mem_cons_of_mem _ hx)) with e | hx'
        · subst e
          have := ha x hx
          rw [aheadA_irr] at this
          cases this
        · exact hx'
      · intro hx
        rcases List.mem_cons.1 ((h x).2 (List.mem_cons_of_mem _ hx)) with e | hx'
        · subst e
          have := hb x hx
          rw [aheadA_irr] at this
          cases this
        · exact hx'
    rw [sortG_ext hL' hM' ht]
def resG (n : Int) (L l : List AtM) : List AtM := l.foldl (fun L a => (addG n L a).1) L
theorem addG_sort {n : Int} {L : List AtM} {a : AtM} (h : SortG L) : SortG (addG n L a).1 := by
  unfold addG
  split
  · split
    · exact h
    · rename_i hk
      split
      · exact h
      · refine insG_sort h (fun x hx => ?_)
        rw [Bool.eq_false_iff]
        intro e
        exact hk (List.any_eq_true.2 ⟨x, hx, e⟩)
  · exact h
theorem addG_len {n : Int} {L : List AtM} {a : AtM} (h : L.length ≤ 200) : (addG n L a).1.length ≤ 200 := by
  unfold addG
  split
  · split
    · exact h
    · split
      · exact h
      · show (insG a L).length ≤ 200
        rw [insG_length]
        omega
  · exact h
theorem addG_grow {n : Int} {L : List AtM} {a : AtM} : (addG n L a).1.length ≤ L.length + 1 := by
  unfold addG
  split
  · split
    · exact Nat.le_succ _
    · split
      · exact Nat.le_succ _
      · show (insG a L).length ≤ _
        rw [insG_length]
        exact Nat.le_refl _
  · exact Nat.le_succ _
theorem addG_mem {n : Int} {L : List AtM} {a x : AtM} (h : x ∈ (addG n L a).1) : x ∈ L ∨ (x = a ∧ okG n a = true) := by
  unfold addG at h
  split at h
  · rename_i ho
    split at h
    · exact .inl h
    · split at h
      · exact .inl h
      · rcases mem_insG.1 h with e | h
        · exact .inr ⟨e, ho⟩
        · exact .inl h
  · exact .inl h
theorem addG_has {n : Int} {L : List AtM} {a : AtM} (hl : L.length < 200) (ho : okG n a = true) (hk : ∀ x ∈ L, keyA x a = true → x = a) : a ∈ (addG n L a).1 := by
  unfold addG
  rw [if_pos ho]
  by_cases h : L.any (fun x => keyA x a) = true
  · rw [if_pos h]
    obtain ⟨x, hx, e⟩ := List.any_eq_true.1 h
    rw [← hk x hx e]
    exact hx
  · rw [if_neg h, if_neg (by omega)]
    exact mem_insG.2 (.inl rfl)
theorem addG_keep {n : Int} {L : List AtM} {a x : AtM} (h : x ∈ L) : x ∈ (addG n L a).1 := by
  unfold addG
  split
  · split
    · exact h
    · split
      · exact h
      · exact mem_insG.2 (.inr h)
  · exact h
theorem resG_sort {n : Int} : ∀ (l : List AtM) {L : List AtM}, SortG L → SortG (resG n L l)
  | [], _, h => h
  | _ :: l, _, h => resG_sort l (addG_sort h)
def OneG (l : List AtM) : Prop := ∀ a ∈ l, ∀ b ∈ l, keyA a b = true → a = b
theorem resG_mem {n : Int} : ∀ (l : List AtM) {L : List AtM}, L.length + l.length ≤ 200 → (∀ a ∈ L ++ l, ∀ b ∈ L ++ l, keyA a b = true → a = b) → ∀ x, x ∈ resG n L l ↔ x ∈ L ∨ (x ∈ l ∧ okG n x = true)
  | [], L, _, _, x => by simp [resG]
  | a :: l, L, hl, hk, x => by
    have hgr := addG_grow (n := n) (L := L) (a := a)
    simp only [List.length_cons] at hl
    have hsub : ∀ y, y ∈ (addG n L a).1 ++ l → y ∈ L ++ a :: l := fun y hy => by
      rcases List.mem_append.1 hy with h | h
      · rcases addG_mem h with h | ⟨e, _⟩
        · exact List.mem_append.2 (.inl h)
        · exact List.mem_append.2 (.inr (by rw [e]; simp))
      · exact List.mem_append.2 (.inr (List.mem_cons_of_mem _ h))
    have ih := resG_mem (n := n) l (L := (addG n L a).1) (by omega) (fun y hy z hz => hk y (hsub y hy) z (hsub z hz)) x
    show x ∈ resG n (addG n L a).1 l ↔ _
    rw [ih]
    constructor
    · rintro (h | ⟨h1, h2⟩)
      · rcases addG_mem h with h | ⟨e, h⟩
        · exact .inl h
        · exact .inr ⟨by rw [e]; simp, by rw [e]; exact h⟩
      · exact .inr ⟨List.mem_cons_of_mem _ h1, h2⟩
    · rintro (h | ⟨h1, h2⟩)
      · exact .inl (addG_keep h)
      · rcases List.mem_cons.1 h1 with e | h1
        · subst e
          exact .inl (addG_has (by omega) h2 (fun y hy e => hk y (List.mem_append.2 (.inl hy)) x (List.mem_append.2 (.inr (by simp))) e))
        · exact .inr ⟨h1, h2⟩
theorem resG_order {n : Int} {l m : List AtM} (hl : l.length ≤ 200) (hm : m.length ≤ 200) (ho : OneG l) (h : ∀ x, x ∈ l ↔ x ∈ m) : resG n [] l = resG n [] m := by
  refine sortG_ext (resG_sort l List.Pairwise.nil) (resG_sort m List.Pairwise.nil) (fun x => ?_)
  rw [resG_mem l (by simpa using hl) (by unfold OneG at ho; simpa using ho) x, resG_mem m (by simpa using hm) (fun a ha b hb => ho a ((h a).2 (by simpa using ha)) b ((h b).2 (by simpa using hb))) x, h x]
def thoseG (L : List AtM) (k v : Int) : List AtM := L.filter (fun a => decide (a.ki = k) && decide (a.vi = v))
def certG (n : Int) (L : List AtM) (k v : Int) : CtM × Bool :=
  match (thoseG L k v).find? (fun a => decide ((makeC n ((thoseG L k v).filter (alikeA a))).2 = 0)) with
  | some a => ((makeC n ((thoseG L k v).filter (alikeA a))).1, true)
  | none => (ctZ, false)
def dropG (L : List AtM) (v : Int) : List AtM := L.filter (fun a => decide (v ≤ a.vi))
theorem dropG_sort {L : List AtM} (h : SortG L) (v : Int) : SortG (dropG L v) := h.sublist List.filter_sublist
theorem sortG_key {L : List AtM} (h : SortG L) {a b : AtM} (ha : a ∈ L) (hb : b ∈ L) (hk : keyA a b = true) : a = b := by
  obtain ⟨i, hi, rfl⟩ := List.getElem_of_mem ha
  obtain ⟨j, hj, rfl⟩ := List.getElem_of_mem hb
  rcases Nat.lt_trichotomy i j with e | e | e
  · have := key_ahead (List.pairwise_iff_getElem.1 h i j hi hj e)
    rw [hk] at this
    cases this
  · subst e
    rfl
  · have := key_ahead (List.pairwise_iff_getElem.1 h j i hj hi e)
    rw [keyA_comm, hk] at this
    cases this
theorem mem_left {l : List AtM} {k : Nat} (h : k < l.length) (x : AtM) : x ∈ l ↔ x = l[k] ∨ x ∈ l.take k ++ l.drop (k + 1) := by
  have e : l = l.take k ++ l[k] :: l.drop (k + 1) := by
    rw [← List.drop_eq_getElem_cons h, List.take_append_drop]
  constructor
  · intro hx
    rw [e] at hx
    rcases List.mem_append.1 hx with hx | hx
    · exact .inr (List.mem_append.2 (.inl hx))
    · rcases List.mem_cons.1 hx with hx | hx
      · exact .inl hx
      · exact .inr (List.mem_append.2 (.inr hx))
  · rintro (rfl | hx)
    · exact List.getElem_mem h
    · rcases List.mem_append.1 hx with hx | hx
      · exact List.mem_of_mem_take hx
      · exact List.mem_of_mem_drop hx
theorem left_length {l : List AtM} {k : Nat} (h : k < l.length) : (l.take k ++ l.drop (k + 1)).length + 1 = l.length := by
  simp only [List.length_append, List.length_take, List.length_drop]
  omega
structure OrG (l m left : List AtM) (i : Nat) : Prop where
  le : i ≤ l.length
  len : m.length = i
  lf : left.length + i = l.length
  mem : ∀ x, x ∈ l ↔ x ∈ m ∨ x ∈ left
theorem OrG.start (l : List AtM) : OrG l [] l 0 := ⟨Nat.zero_le _, rfl, rfl, fun x => by simp⟩
theorem OrG.step {l m left : List AtM} {i k : Nat} (h : OrG l m left i) (hk : k < left.length) : OrG l (m ++ [left[k]]) (left.take k ++ left.drop (k + 1)) (i + 1) := by
  have hl := left_length hk
  refine ⟨by have := h.lf; omega, by rw [List.length_append, h.len]; rfl, by have := h.lf; omega, fun x => ?_⟩
  have hm : x ∈ m ++ [left[k]] ↔ x ∈ m ∨ x = left[k] := by rw [List.mem_append, List.mem_singleton]
  rw [h.mem x, mem_left hk x, hm]
  constructor
  · rintro (h | h | h)
    · exact .inl (.inl h)
    · exact .inl (.inr h)
    · exact .inr h
  · rintro ((h | h) | h)
    · exact .inl h
    · exact .inr (.inl h)
    · exact .inr (.inr h)
theorem OrG.fin {n : Int} {l m left : List AtM} (h : OrG l m left l.length) (hl : l.length ≤ 200) (ho : OneG l) : resG n [] l = resG n [] m := by
  have h0 : left = [] := List.eq_nil_of_length_eq_zero (by have := h.lf; omega)
  refine resG_order hl (by rw [h.len]; exact hl) ho (fun x => ?_)
  rw [h.mem x, h0]
  simp
theorem resG_snoc (n : Int) (L l : List AtM) (a : AtM) : resG n L (l ++ [a]) = (addG n (resG n L l) a).1 := by
  unfold resG
  rw [List.foldl_append]
  rfl
theorem oneG_of {l : List AtM} (h : ∀ i (hi : i < l.length) k (hk : k < i), keyA l[i] l[k] = true → l[i] = l[k]) : OneG l := by
  intro a ha b hb e
  obtain ⟨i, hi, rfl⟩ := List.getElem_of_mem ha
  obtain ⟨j, hj, rfl⟩ := List.getElem_of_mem hb
  rcases Nat.lt_trichotomy i j with c | c | c
  · exact (h j hj i c (by rw [keyA_comm]; exact e)).symm
  · subst c
    rfl
  · exact h i hi j c e
end Go.Proofs.YtpnejoglkmfleaaGreatDoor
