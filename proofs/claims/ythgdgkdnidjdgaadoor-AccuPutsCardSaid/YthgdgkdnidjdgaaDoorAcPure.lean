/-
  Accumulations as plain data: which may be, what is tagged, which are right, what is made of attestations, which one bytes begin with. No function of the program.
-/
import Derived.Test.YthgdgkdnidjdgaaDoorBs10
namespace Go.Proofs.YthgdgkdnidjdgaaDoor
set_option maxRecDepth 20000

/-- An accumulation. -/
structure AcM where
  bo : Int
  vi : Int
  pv : Int
  pa : List UInt8
  fr : List Int
  tg : List UInt8
  deriving DecidableEq
structure AcM.Ok (a : AcM) : Prop where
  pa : a.pa.length = 32
  tg : a.tg.length = 32
def acZ : AcM := ⟨0, 0, 0, z32, [], z32⟩
theorem acZ_ok : acZ.Ok := ⟨rfl, rfl⟩

/-- Do numbers rise behind one, up to another? -/
def risesI (top : Int) : Int → List Int → Bool
  | _, [] => true
  | last, x :: r => (decide (last < x) && decide (x ≤ top)) && risesI top x r
theorem risesI_mem {top : Int} : ∀ {l : List Int} {last : Int}, risesI top last l = true → ∀ x ∈ l, last < x ∧ x ≤ top
  | [], _, _, s, hs => by cases hs
  | x :: r, last, h, s, hs => by
    unfold risesI at h
    simp only [Bool.and_eq_true, decide_eq_true_eq] at h
    obtain ⟨⟨h1, h2⟩, h3⟩ := h
    rcases List.mem_cons.1 hs with rfl | hs
    · exact ⟨h1, h2⟩
    · have := risesI_mem h3 s hs
      omega
theorem risesI_nodup {top : Int} : ∀ {l : List Int} {last : Int}, risesI top last l = true → l.Nodup
  | [], _, _ => List.nodup_nil
  | x :: r, last, h => by
    unfold risesI at h
    simp only [Bool.and_eq_true, decide_eq_true_eq] at h
    rw [List.nodup_cons]
    refine ⟨fun hm => ?_, risesI_nodup h.2⟩
    have := (risesI_mem h.2 x hm).1
    omega
theorem risesI_len {l : List Int} {top : Nat} (h : risesI (top : Int) 0 l = true) : l.length ≤ top :=
  unlike_le top l (risesI_nodup h) (fun x hx => by
    have := risesI_mem h x hx
    omega)
theorem risesI_more {top k x : Int} : ∀ {l : List Int} {last : Int}, risesI k last l = true → last ≤ k → k < x → x ≤ top → k ≤ top → risesI top last (l ++ [x]) = true
  | [], last, _, h0, h1, h2, _ => by
    show ((decide (last < x) && decide (x ≤ top)) && true) = true
    simp only [Bool.and_true, Bool.and_eq_true, decide_eq_true_eq]
    omega
  | y :: r, last, h, h0, h1, h2, h3 => by
    unfold risesI at h
    simp only [Bool.and_eq_true, decide_eq_true_eq] at h
    rw [List.cons_append]
    unfold risesI
    simp only [Bool.and_eq_true, decide_eq_true_eq]
    exact ⟨⟨h.1.1, by omega⟩, risesI_more h.2 h.1.2 h1 h2 h3⟩
theorem risesI_top {top k : Int} : ∀ {l : List Int} {last : Int}, risesI k last l = true → k ≤ top → risesI top last l = true
  | [], _, _, _ => rfl
  | x :: r, last, h, h1 => by
    unfold risesI at h ⊢
    simp only [Bool.and_eq_true, decide_eq_true_eq] at h ⊢
    exact ⟨⟨h.1.1, by omega⟩, risesI_top h.2 h1⟩
def lastI (l : List Int) : Int := (l[l.length - 1]?).getD 0
theorem lastI_at {l : List Int} (h : 0 < l.length) : lastI l = l[l.length - 1] := by
  unfold lastI
  rw [List.getElem?_eq_getElem (by omega)]
  rfl

/-- May it be? -/
def mayX (a : AcM) : Bool := risesI 21 0 a.fr && decide (1 ≤ a.bo ∧ a.bo ≤ 21 ∧ 1 ≤ a.vi ∧ a.vi ≤ 1099511627776 ∧ 0 ≤ a.pv ∧ a.pv < a.vi ∧ 1 ≤ a.fr.length)
theorem mayX_iff {a : AcM} : mayX a = true ↔ risesI 21 0 a.fr = true ∧ (1 ≤ a.bo ∧ a.bo ≤ 21 ∧ 1 ≤ a.vi ∧ a.vi ≤ 1099511627776 ∧ 0 ≤ a.pv ∧ a.pv < a.vi ∧ 1 ≤ a.fr.length) := by
  unfold mayX
  simp only [Bool.and_eq_true, decide_eq_true_eq]
/-- The bytes of its numbers. -/
def frB (l : List Int) : List UInt8 := (l.map fun x => dg x.toNat).flatten
/-- What is tagged. -/
def taggedX (a : AcM) : List UInt8 := dg a.vi.toNat ++ (dg a.pv.toNat ++ (a.pa ++ (dg a.fr.length ++ frB a.fr)))
/-- The right tag. -/
def tagX (a : AcM) : List UInt8 := hl 32 (tagF a.bo 2 (taggedX a))
theorem tagX_len (a : AcM) : (tagX a).length = 32 := hl_length _ _
/-- Its bytes. -/
def bytesX (a : AcM) : List UInt8 := dg a.bo.toNat ++ (taggedX a ++ a.tg)
/-- Is it right? -/
def rightX (n : Int) (a : AcM) : Bool := decide (quoS n ≠ 0) && (mayX a && (decide (a.bo ≤ n) && (decide (a.fr.length = quoS n) && (decide (lastI a.fr ≤ n) && decide (a.tg = tagX a)))))

theorem frB_len (l : List Int) (h : ∀ x ∈ l, 1 ≤ x ∧ x ≤ 21) : (frB l).length = l.length := by
  unfold frB
  induction l with
  | nil => rfl
  | cons x r ih =>
    have hx := h x (by simp)
    rw [List.map_cons, List.flatten_cons, List.length_append, ih (fun y hy => h y (List.mem_cons_of_mem _ hy)), dg_small (by omega), List.length_cons, List.length_cons, List.length_nil]
    omega
theorem mayX_fr {a : AcM} (h : mayX a = true) : (∀ x ∈ a.fr, 1 ≤ x ∧ x ≤ 21) ∧ a.fr.length ≤ 21 := by
  have := (mayX_iff.1 h).1
  exact ⟨fun x hx => by have := risesI_mem this x hx; omega, risesI_len (top := 21) this⟩
theorem taggedX_len {a : AcM} (ho : a.Ok) (hm : mayX a = true) : (taggedX a).length ≤ 100 := by
  obtain ⟨_, h1, h2, h3, h4, h5, h6, h7⟩ := mayX_iff.1 hm
  obtain ⟨k1, k2⟩ := mayX_fr hm
  have e1 := dg_len10 (n := a.vi.toNat) (by omega)
  have e2 := dg_len10 (n := a.pv.toNat) (by omega)
  have e3 := dg_len10 (n := a.fr.length) (by omega)
  have := ho.pa
  have := frB_len a.fr k1
  unfold taggedX
  simp only [List.length_append]
  omega
theorem bytesX_len {a : AcM} (ho : a.Ok) (hm : mayX a = true) : (bytesX a).length ≤ 150 := by
  obtain ⟨_, h1, h2, _⟩ := mayX_iff.1 hm
  have e1 := dg_len10 (n := a.bo.toNat) (by omega)
  have := taggedX_len ho hm
  have := ho.tg
  unfold bytesX
  simp only [List.length_append]
  omega

/-- Behind the parts up to k: who is told of, and the greatest one's view and hash. -/
def frX (l : List AtM) (q : Nat) : Nat → List Int × Int × List UInt8
  | 0 => ([], 0, z32)
  | k + 1 => if (frX l q k).1.length < q then match l.find? (fun a => decide (a.bo = ((k + 1 : Nat) : Int))) with
    | some a => if (frX l q k).1 = [] ∨ (frX l q k).2.1 < a.pv then ((frX l q k).1 ++ [((k + 1 : Nat) : Int)], a.pv, a.pa) else ((frX l q k).1 ++ [((k + 1 : Nat) : Int)], (frX l q k).2)
    | none => frX l q k
    else frX l q k
/-- May one be accumulated? -/
def goodX (n vi : Int) (a : AtM) : Bool := rightA a && (decide (a.ki = 1) && (decide (a.vi = vi) && decide (a.bo ≤ n)))
def bodyX (b vi : Int) (s : List Int × Int × List UInt8) : AcM := ⟨b, vi, s.2.1, s.2.2, s.1, z32⟩
/-- What is made: 1 is told where there is no quorum, or a number may not be, 7 where one is none to be accumulated, 3 where there are too few. -/
def makeX (b n vi : Int) (l : List AtM) : AcM × Int :=
  if quoS n = 0 ∨ b < 1 ∨ n < b ∨ vi < 1 ∨ 1099511627776 < vi then (acZ, 1)
  else if (l.all (goodX n vi)) = false then (acZ, 7)
  else if (frX l (quoS n) n.toNat).1.length < quoS n then (acZ, 3)
  else ({ bodyX b vi (frX l (quoS n) n.toNat) with tg := tagX (bodyX b vi (frX l (quoS n) n.toNat)) }, 0)
section
variable {b n vi : Int} {l : List AtM} {q : Nat}
theorem makeX_arg (h : quoS n = 0 ∨ b < 1 ∨ n < b ∨ vi < 1 ∨ 1099511627776 < vi) : makeX b n vi l = (acZ, 1) := by
  unfold makeX
  rw [if_pos h]
theorem makeX_tag (h : ¬ (quoS n = 0 ∨ b < 1 ∨ n < b ∨ vi < 1 ∨ 1099511627776 < vi)) (h2 : (l.all (goodX n vi)) = false) : makeX b n vi l = (acZ, 7) := by
  unfold makeX
  rw [if_neg h, if_pos h2]
theorem makeX_few (h : ¬ (quoS n = 0 ∨ b < 1 ∨ n < b ∨ vi < 1 ∨ 1099511627776 < vi)) (h2 : (l.all (goodX n vi)) = true) (h3 : (frX l (quoS n) n.toNat).1.length < quoS n) : makeX b n vi l = (acZ, 3) := by
  unfold makeX
  rw [if_neg h, if_neg (by rw [h2]; decide), if_pos h3]
theorem makeX_done (h : ¬ (quoS n = 0 ∨ b < 1 ∨ n < b ∨ vi < 1 ∨ 1099511627776 < vi)) (h2 : (l.all (goodX n vi)) = true) (h3 : ¬ (frX l (quoS n) n.toNat).1.length < quoS n) :
    makeX b n vi l = ({ bodyX b vi (frX l (quoS n) n.toNat) with tg := tagX (bodyX b vi (frX l (quoS n) n.toNat)) }, 0) := by
  unfold makeX
  rw [if_neg h, if_neg (by rw [h2]; decide), if_neg h3]
theorem frX_len (l : List AtM) (q : Nat) : ∀ k, (frX l q k).1.length ≤ q
  | 0 => Nat.zero_le _
  | k + 1 => by
    have := frX_len l q k
    unfold frX
    split
    · split
      · split <;> (simp only [List.length_append, List.length_cons, List.length_nil]; omega)
      · exact this
    · exact this
theorem frX_rises (l : List AtM) (q : Nat) : ∀ k : Nat, risesI (k : Int) 0 (frX l q k).1 = true
  | 0 => rfl
  | k + 1 => by
    have h := frX_rises l q k
    have e : risesI ((k + 1 : Nat) : Int) 0 (frX l q k).1 = true := risesI_top h (by omega)
    have e2 : risesI ((k + 1 : Nat) : Int) 0 ((frX l q k).1 ++ [((k + 1 : Nat) : Int)]) = true := risesI_more h (by omega) (by omega) (by omega) (by omega)
    unfold frX
    split
    · split
      · split <;> exact e2
      · exact e
    · exact e
/-- Each is told of by its first attestation, of a view not greater; the greatest is one of these. -/
theorem frX_told (l : List AtM) (q : Nat) : ∀ k : Nat, (∀ x ∈ (frX l q k).1, ∃ a ∈ l, l.find? (fun t => decide (t.bo = x)) = some a ∧ a.pv ≤ (frX l q k).2.1) ∧
    ((frX l q k).1 ≠ [] → ∃ x ∈ (frX l q k).1, ∃ a ∈ l, l.find? (fun t => decide (t.bo = x)) = some a ∧ a.pv = (frX l q k).2.1 ∧ a.pa = (frX l q k).2.2)
  | 0 => ⟨fun x hx => absurd hx (by simp [frX]), fun h => absurd rfl h⟩
  | k + 1 => by
    obtain ⟨h1, h2⟩ := frX_told l q k
    unfold frX
    split
    · split
      · rename_i a ha
        have hm := List.mem_of_find?_eq_some ha
        split
        · rename_i hc
          refine ⟨fun x hx => ?_, fun _ => ⟨_, List.mem_append_right _ (List.mem_singleton.2 rfl), a, hm, ha, rfl, rfl⟩⟩
          rcases List.mem_append.1 hx with hx | hx
          · obtain ⟨t, ht, e, hp⟩ := h1 x hx
            refine ⟨t, ht, e, ?_⟩
            simp only
            rcases hc with hc | hc
            · rw [hc] at hx
              cases hx
            · omega
          · obtain rfl := List.mem_singleton.1 hx
            exact ⟨a, hm, ha, Int.le_refl _⟩
        · rename_i hc
          have hne : (frX l q k).1 ≠ [] := fun e => hc (.inl e)
          refine ⟨fun x hx => ?_, fun _ => ?_⟩
          · rcases List.mem_append.1 hx with hx | hx
            · exact h1 x hx
            · obtain rfl := List.mem_singleton.1 hx
              exact ⟨a, hm, ha, by simp only; omega⟩
          · obtain ⟨x, hx, t, ht, e, hp⟩ := h2 hne
            exact ⟨x, List.mem_append_left _ hx, t, ht, e, hp⟩
      · exact ⟨h1, h2⟩
    · exact ⟨h1, h2⟩
theorem frX_full {k : Nat} (h : ¬ (frX l q k).1.length < q) : ∀ m, k ≤ m → frX l q m = frX l q k := by
  intro m hm
  induction m with
  | zero => rw [show k = 0 from by omega]
  | succ m ih =>
    by_cases e : k = m + 1
    · rw [e]
    · have := ih (by omega)
      rw [← this] at h ⊢
      conv => lhs; unfold frX
      rw [if_neg h]
theorem frX_found {k i : Nat} (h : (frX l q k).1.length < q) (hi : i < l.length) (hb : l[i].bo = ((k + 1 : Nat) : Int)) (hn : ∀ j (hj : j < l.length), j < i → l[j].bo ≠ ((k + 1 : Nat) : Int)) :
    frX l q (k + 1) = if (frX l q k).1 = [] ∨ (frX l q k).2.1 < l[i].pv then ((frX l q k).1 ++ [((k + 1 : Nat) : Int)], l[i].pv, l[i].pa) else ((frX l q k).1 ++ [((k + 1 : Nat) : Int)], (frX l q k).2) := by
  have hf : l.find? (fun a => decide (a.bo = ((k + 1 : Nat) : Int))) = some l[i] := by
    rw [List.find?_eq_some_iff_getElem]
    exact ⟨decide_eq_true hb, i, hi, rfl, fun j hj => by simpa using hn j (by omega) hj⟩
  conv => lhs; unfold frX
  rw [if_pos h, hf]
theorem frX_lack {k : Nat} (hn : ∀ j (hj : j < l.length), l[j].bo ≠ ((k + 1 : Nat) : Int)) : frX l q (k + 1) = frX l q k := by
  have hf : l.find? (fun a => decide (a.bo = ((k + 1 : Nat) : Int))) = none := by
    rw [List.find?_eq_none]
    intro a ha
    obtain ⟨j, hj, rfl⟩ := List.getElem_of_mem ha
    simpa using hn j hj
  conv => lhs; unfold frX
  rw [hf]
  simp
theorem goodX_iff {a : AtM} : goodX n vi a = true ↔ rightA a = true ∧ a.ki = 1 ∧ a.vi = vi ∧ a.bo ≤ n := by
  unfold goodX
  simp only [Bool.and_eq_true, decide_eq_true_eq]
theorem goodX_pv {a : AtM} (h : goodX n vi a = true) : 0 ≤ a.pv ∧ a.pv < vi := by
  obtain ⟨h1, h2, h3, _⟩ := goodX_iff.1 h
  have hm : mayA a = true := by
    unfold rightA at h1
    rw [Bool.and_eq_true] at h1
    exact h1.1
  have := mayA_iff hm
  unfold mayA at hm
  split at hm
  · cases hm
  · simp only [Bool.or_eq_true, Bool.and_eq_true, decide_eq_true_eq] at hm
    omega
theorem frX_pa (h : ∀ a ∈ l, a.Ok) : ∀ k, (frX l q k).2.2.length = 32
  | 0 => rfl
  | k + 1 => by
    have ih := frX_pa h k
    unfold frX
    split
    · split
      · rename_i a ha
        split
        · exact (h a (List.mem_of_find?_eq_some ha)).pa
        · exact ih
      · exact ih
    · exact ih
/-- What is yet made may be, whatever its tag is. -/
theorem frX_may (h : ¬ (quoS n = 0 ∨ b < 1 ∨ n < b ∨ vi < 1 ∨ 1099511627776 < vi)) (h2 : (l.all (goodX n vi)) = true) (h3 : ¬ (frX l (quoS n) n.toNat).1.length < quoS n) : mayX (bodyX b vi (frX l (quoS n) n.toNat)) = true := by
  simp only [not_or, Int.not_lt] at h
  obtain ⟨h0, k1, k2, k3, k4⟩ := h
  have hn := quoS_top h0
  have hr := frX_rises l (quoS n) n.toNat
  have hle := frX_len l (quoS n) n.toNat
  obtain ⟨_, ht⟩ := frX_told l (quoS n) n.toNat
  have hne : (frX l (quoS n) n.toNat).1 ≠ [] := fun e => by
    rw [e] at h3
    simp at h3
    omega
  obtain ⟨x, _, a, ha, _, hp, _⟩ := ht hne
  have hg := goodX_pv (List.all_eq_true.1 h2 a ha)
  have hl : 0 < (frX l (quoS n) n.toNat).1.length := List.length_pos_iff.2 hne
  refine mayX_iff.2 ⟨risesI_top hr (by omega), ?_⟩
  unfold bodyX
  simp only
  omega
theorem makeX_cases (b n vi : Int) (l : List AtM) : ((makeX b n vi l).1 = acZ ∧ (makeX b n vi l).2 ≠ 0) ∨
    ((makeX b n vi l).2 = 0 ∧ ¬ (quoS n = 0 ∨ b < 1 ∨ n < b ∨ vi < 1 ∨ 1099511627776 < vi) ∧ (l.all (goodX n vi)) = true ∧ ¬ (frX l (quoS n) n.toNat).1.length < quoS n ∧
      (makeX b n vi l).1 = { bodyX b vi (frX l (quoS n) n.toNat) with tg := tagX (bodyX b vi (frX l (quoS n) n.toNat)) }) := by
  by_cases h : quoS n = 0 ∨ b < 1 ∨ n < b ∨ vi < 1 ∨ 1099511627776 < vi
  · rw [makeX_arg h]
    exact .inl ⟨rfl, by decide⟩
  cases h2 : l.all (goodX n vi) with
  | false =>
    rw [makeX_tag h h2]
    exact .inl ⟨rfl, by decide⟩
  | true =>
    by_cases h3 : (frX l (quoS n) n.toNat).1.length < quoS n
    · rw [makeX_few h h2 h3]
      exact .inl ⟨rfl, by decide⟩
    · rw [makeX_done h h2 h3]
      exact .inr ⟨rfl, h, rfl, h3, rfl⟩
theorem madeX_right (h : (makeX b n vi l).2 = 0) : rightX n (makeX b n vi l).1 = true := by
  rcases makeX_cases b n vi l with ⟨_, h2⟩ | ⟨_, h1, h2, h3, h5⟩
  · exact absurd h h2
  · rw [h5]
    have hm := frX_may h1 h2 h3
    have hle := frX_len l (quoS n) n.toNat
    have hr := frX_rises l (quoS n) n.toNat
    simp only [not_or, Int.not_lt] at h1
    have hn := quoS_top h1.1
    rw [show ((n.toNat : Nat) : Int) = n from by omega] at hr
    have hpos : 0 < (frX l (quoS n) n.toNat).1.length := by omega
    have hla : lastI (frX l (quoS n) n.toNat).1 ≤ n := by
      rw [lastI_at hpos]
      exact (risesI_mem hr _ (List.getElem_mem _)).2
    unfold rightX
    simp only [Bool.and_eq_true, decide_eq_true_eq]
    exact ⟨h1.1, hm, h1.2.2.1, by show (frX l (quoS n) n.toNat).1.length = _; omega, hla, rfl⟩
theorem makeX_ok (hl : ∀ a ∈ l, a.Ok) : (makeX b n vi l).1.Ok := by
  rcases makeX_cases b n vi l with ⟨h, _⟩ | ⟨_, _, _, _, h5⟩
  · rw [h]
    exact acZ_ok
  · rw [h5]
    exact ⟨frX_pa hl _, tagX_len _⟩
theorem madeX_len : (makeX b n vi l).1.fr.length ≤ 21 := by
  rcases makeX_cases b n vi l with ⟨h, _⟩ | ⟨_, h1, _, _, h5⟩
  · rw [h]
    exact Nat.zero_le _
  · rw [h5]
    have hle := frX_len l (quoS n) n.toNat
    have : quoS n ≤ 21 := by
      unfold quoS
      split <;> omega
    show (frX l (quoS n) n.toNat).1.length ≤ 21
    omega
/-- None that it was made of has a greater view, and one has just that, and its hash. -/
theorem madeX_told (h : (makeX b n vi l).2 = 0) : (∀ x ∈ (makeX b n vi l).1.fr, ∃ a ∈ l, l.find? (fun t => decide (t.bo = x)) = some a ∧ a.pv ≤ (makeX b n vi l).1.pv) ∧
    (∃ x ∈ (makeX b n vi l).1.fr, ∃ a ∈ l, l.find? (fun t => decide (t.bo = x)) = some a ∧ a.pv = (makeX b n vi l).1.pv ∧ a.pa = (makeX b n vi l).1.pa) := by
  rcases makeX_cases b n vi l with ⟨_, h2⟩ | ⟨_, h1, _, h3, h5⟩
  · exact absurd h h2
  · rw [h5]
    obtain ⟨k1, k2⟩ := frX_told l (quoS n) n.toNat
    simp only [not_or, Int.not_lt] at h1
    have hn := quoS_top h1.1
    exact ⟨k1, k2 (fun e => by rw [e] at h3; simp at h3; omega)⟩
end

/-- So many numbers read from a place on. -/
def rdFrs (l : List UInt8) (p : Nat) (r : Bool) : Nat → List Int × Nat × Bool
  | 0 => ([], p, r)
  | k + 1 => ((rdFrs l p r k).1 ++ [((rdUpto 21 l (rdFrs l p r k).2.1 (rdFrs l p r k).2.2).1 : Int)], (rdUpto 21 l (rdFrs l p r k).2.1 (rdFrs l p r k).2.2).2)
/-- What is read from a place on, whether it may be or not. -/
def rawX (l : List UInt8) (p : Nat) (r : Bool) : AcM × Nat × Bool :=
  let a := rdUpto 21 l p r
  let b := rdUpto 1099511627776 l a.2.1 a.2.2
  let c := rdUpto 1099511627776 l b.2.1 b.2.2
  let d := rdHash l c.2.1 c.2.2
  let e := rdUpto 21 l d.2.1 d.2.2
  let s := rdFrs l e.2.1 e.2.2 e.1
  let t := rdHash l s.2.1 s.2.2
  (⟨a.1, b.1, c.1, d.1, s.1, t.1⟩, t.2)
def acIs (l : List UInt8) (p : Nat) (r : Bool) : Bool := (rawX l p r).2.2 && mayX (rawX l p r).1
def acOf (l : List UInt8) (p : Nat) (r : Bool) : AcM := if acIs l p r = true then (rawX l p r).1 else acZ
theorem rdFrs_len (l : List UInt8) (p : Nat) (r : Bool) : ∀ k, (rdFrs l p r k).1.length = k
  | 0 => rfl
  | k + 1 => by
    unfold rdFrs
    rw [List.length_append, rdFrs_len l p r k]
    rfl
theorem rawX_ok (l : List UInt8) (p : Nat) (r : Bool) : (rawX l p r).1.Ok := ⟨rdHash_32 _ _ _, rdHash_32 _ _ _⟩
theorem acOf_ok (l : List UInt8) (p : Nat) (r : Bool) : (acOf l p r).Ok := by
  unfold acOf
  split
  · exact rawX_ok l p r
  · exact acZ_ok
/-- What was put is read. -/
theorem rdFrs_back {L r : List UInt8} : ∀ (ts : List Int) (p : Nat), (∀ x ∈ ts, 1 ≤ x ∧ x ≤ 21) → L.drop p = frB ts ++ r →
    ∀ k, k ≤ ts.length → rdFrs L p true k = (ts.take k, p + (frB (ts.take k)).length, true) := by
  intro ts p hm h k
  induction k with
  | zero => intro _; simp [rdFrs, frB]
  | succ k ih =>
    intro hk
    have hlt : k < ts.length := by omega
    have e1 : ts = ts.take k ++ (ts[k] :: ts.drop (k + 1)) := by
      rw [← List.drop_eq_getElem_cons hlt, List.take_append_drop]
    have hd : L.drop (p + (frB (ts.take k)).length) = dg (ts[k]).toNat ++ (frB (ts.drop (k + 1)) ++ r) := by
      have h' := h
      rw [e1] at h'
      unfold frB at h' ⊢
      simp only [List.map_append, List.map_cons, List.flatten_append, List.flatten_cons, List.append_assoc] at h'
      exact drop_more h'
    obtain ⟨o2, o3⟩ := hm _ (List.getElem_mem hlt)
    rw [List.take_succ_eq_append_getElem hlt]
    obtain ⟨x, hs⟩ : ∃ s, ts[k] = s := ⟨_, rfl⟩
    rw [hs] at hd o2 o3 ⊢
    obtain ⟨b, rfl⟩ := nat_of (i := x) (by omega)
    rw [Int.toNat_natCast] at hd
    unfold rdFrs
    rw [ih (by omega)]
    simp only [rdUpto_at (m := 21) hd (by omega) (by omega)]
    unfold frB
    simp only [List.map_append, List.map_cons, List.map_nil, List.flatten_append, List.flatten_cons, List.flatten_nil, List.append_nil, List.length_append, Int.toNat_natCast, Nat.add_assoc]
theorem rawX_back {a : AcM} {L r : List UInt8} {p : Nat} (ho : a.Ok) (hm : mayX a = true) (h : L.drop p = bytesX a ++ r) : rawX L p true = (a, p + (bytesX a).length, true) := by
  obtain ⟨_, h1, h2, h3, h4, h5, h6, h7⟩ := mayX_iff.1 hm
  obtain ⟨hfr, hlen⟩ := mayX_fr hm
  obtain ⟨bo, vi, pv, pa, fr, tg⟩ := a
  obtain ⟨k1, k2⟩ := ho
  simp only at h1 h2 h3 h4 h5 h6 h7 k1 k2 hfr hlen
  obtain ⟨x1, rfl⟩ := nat_of (i := bo) (by omega)
  obtain ⟨x2, rfl⟩ := nat_of (i := vi) (by omega)
  obtain ⟨x3, rfl⟩ := nat_of (i := pv) (by omega)
  unfold bytesX taggedX at h ⊢
  simp only [Int.toNat_natCast, List.append_assoc] at h ⊢
  have d1 := drop_more h
  have d2 := drop_more d1
  have d3 := drop_more d2
  have d4 := drop_more d3
  rw [k1] at d4
  have d5 := drop_more d4
  have d6 := drop_more d5
  unfold rawX
  simp only [rdUpto_at (m := 21) h (by omega) (by omega), rdUpto_at (m := 1099511627776) d1 (by omega) (by omega), rdUpto_at (m := 1099511627776) d2 (by omega) (by omega), rdHash_at d3 k1,
    rdUpto_at (m := 21) d4 (by omega) (by omega), rdFrs_back fr _ hfr d5 fr.length (Nat.le_refl _), List.take_length, rdHash_at d6 k2]
  simp [k1, k2, Nat.add_assoc]
theorem acIs_back {a : AcM} {L r : List UInt8} {p : Nat} (ho : a.Ok) (hm : mayX a = true) (h : L.drop p = bytesX a ++ r) : acIs L p true = true ∧ acOf L p true = a ∧ (rawX L p true).2.1 = p + (bytesX a).length := by
  have e := rawX_back ho hm h
  have hi : acIs L p true = true := by unfold acIs; rw [e, hm]; rfl
  exact ⟨hi, by unfold acOf; rw [if_pos hi, e], by rw [e]⟩
end Go.Proofs.YthgdgkdnidjdgaaDoor
