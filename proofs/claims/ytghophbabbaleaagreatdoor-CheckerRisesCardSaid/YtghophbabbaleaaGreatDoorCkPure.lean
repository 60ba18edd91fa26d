/-
  What a trusted part does, step by step, as plain functions; what follows of it.
-/
import Derived.Test.YtghophbabbaleaaGreatDoorCsX
namespace Go.Proofs.YtghophbabbaleaaGreatDoor
set_option maxRecDepth 20000
structure TldM where
  s : SeM
  a : AtM
  e : Int
def noQ (e : Int) : TldM := ⟨seZ, atZ, e⟩
def stepQ (s nx : SeM) (a : AtM) : TldM := if lessS s nx = true then ⟨nx, { a with ki := nx.ph, vi := nx.vi, ph := nx.ph }, 0⟩ else noQ 11
def newQ (s : SeM) (v : Int) : TldM := if mayS s = true ∧ 1 ≤ v ∧ v ≤ 1099511627776 then stepQ s ⟨v, 1, s.pv, s.pa⟩ ⟨0, 0, 0, 0, z32, s.pv, s.pa, z32⟩ else noQ 1
noncomputable def hashL (b : BkM) : List UInt8 := hl 32 (hashK b)
theorem hashL_len (b : BkM) : (hashL b).length = 32 := hl_length _ _
noncomputable def prepQ (s : SeM) (n : Int) (b : BkM) (a : AcM) : TldM :=
  if mayS s = true ∧ mayK b = true ∧ b.vi ≠ 0 then
    (if rightX n a = true ∧ a.vi = b.vi ∧ a.pa = b.par then stepQ s ⟨b.vi, 2, s.pv, s.pa⟩ ⟨0, 0, 0, 0, hashL b, a.pv, a.pa, z32⟩ else noQ 7)
  else noQ 1
noncomputable def storeQ (s : SeM) (n : Int) (c : CtM) : TldM :=
  if mayS s = true then
    (if rightC n c = true ∧ c.att.ki = 2 then stepQ s ⟨c.att.vi, 3, c.att.vi, c.att.ha⟩ ⟨0, 0, 0, 0, c.att.ha, c.att.vi, c.att.ha, z32⟩ else noQ 7)
  else noQ 1
structure TldM.Ok (t : TldM) : Prop where
  s : t.s.Ok
  a : t.a.Ok
theorem noQ_ok (e : Int) : (noQ e).Ok := ⟨seZ_ok, atZ_ok⟩
theorem stepQ_ok {s nx : SeM} {a : AtM} (hn : nx.Ok) (ha : a.Ok) : (stepQ s nx a).Ok := by
  unfold stepQ
  split
  · exact ⟨hn, ⟨ha.ha, ha.pa, ha.tg⟩⟩
  · exact noQ_ok _
theorem newQ_ok {s : SeM} (hs : s.Ok) (v : Int) : (newQ s v).Ok := by
  unfold newQ
  split
  · exact stepQ_ok hs ⟨rfl, hs, rfl⟩
  · exact noQ_ok _
theorem prepQ_ok {s : SeM} {n : Int} {b : BkM} {a : AcM} (hs : s.Ok) (ha : a.Ok) : (prepQ s n b a).Ok := by
  unfold prepQ
  split
  · split
    · exact stepQ_ok hs ⟨hashL_len b, ha.pa, rfl⟩
    · exact noQ_ok _
  · exact noQ_ok _
theorem storeQ_ok {s : SeM} {n : Int} {c : CtM} (hc : c.Ok) : (storeQ s n c).Ok := by
  unfold storeQ
  split
  · split
    · exact stepQ_ok hc.att.ha ⟨hc.att.ha, hc.att.ha, rfl⟩
    · exact noQ_ok _
  · exact noQ_ok _
structure Told (s : SeM) (t : TldM) : Prop where
  ok : t.Ok
  no : t.e ≠ 0 → t.s = seZ ∧ t.a = atZ
  may : t.e = 0 → mayS t.s = true ∧ lessS s t.s = true ∧ mayA { t.a with bo := 1 } = true
  eq : t.e = 0 → t.a.vi = t.s.vi ∧ t.a.ph = t.s.ph
  up : t.e = 0 → s.pv < t.s.pv ∨ (t.s.pv = s.pv ∧ t.s.pa = s.pa)
theorem told_no {s : SeM} (e : Int) (he : e ≠ 0) : Told s (noQ e) := ⟨noQ_ok e, fun _ => ⟨rfl, rfl⟩, fun h => absurd h he, fun h => absurd h he, fun h => absurd h he⟩
theorem told_step {s nx : SeM} {a : AtM} (hn : nx.Ok) (ha : a.Ok) (h : lessS s nx = true → mayS nx = true ∧ mayA { a with bo := 1, ki := nx.ph, vi := nx.vi, ph := nx.ph } = true ∧ (s.pv < nx.pv ∨ (nx.pv = s.pv ∧ nx.pa = s.pa))) : Told s (stepQ s nx a) := by
  by_cases hl : lessS s nx = true
  · obtain ⟨h1, h2, h3⟩ := h hl
    have e : stepQ s nx a = ⟨nx, { a with ki := nx.ph, vi := nx.vi, ph := nx.ph }, 0⟩ := by unfold stepQ; rw [if_pos hl]
    have hok := stepQ_ok (s := s) hn ha
    rw [e] at hok ⊢
    exact ⟨hok, fun h => absurd rfl h, fun _ => ⟨h1, hl, h2⟩, fun _ => ⟨rfl, rfl⟩, fun _ => h3⟩
  · have e : stepQ s nx a = noQ 11 := by unfold stepQ; rw [if_neg hl]
    rw [e]
    exact told_no 11 (by decide)
theorem less_cases {s t : SeM} (h : lessS s t = true) : s.vi < t.vi ∨ (s.vi = t.vi ∧ s.ph < t.ph) := by
  unfold lessS at h
  simpa using h
theorem mayS_open {s : SeM} (h : mayS s = true) : (s.vi = 0 ∧ s.ph = 0 ∧ s.pv = 0) ∨ (1 ≤ s.vi ∧ s.vi ≤ 1099511627776 ∧ 1 ≤ s.ph ∧ s.ph ≤ 3 ∧ 0 ≤ s.pv ∧ (s.pv < s.vi ∨ (s.pv = s.vi ∧ s.ph = 3))) := by
  unfold mayS at h
  split at h
  · rw [decide_eq_true_eq] at h
    subst h
    exact .inl ⟨rfl, rfl, rfl⟩
  · rename_i h0
    split at h
    · cases h
    · rename_i h1
      simp only [Bool.or_eq_true, Bool.and_eq_true, decide_eq_true_eq] at h
      refine .inr ⟨by omega, by omega, by omega, by omega, by omega, h⟩
theorem mayS_of {s : SeM} (h : 1 ≤ s.vi ∧ s.vi ≤ 1099511627776 ∧ 1 ≤ s.ph ∧ s.ph ≤ 3 ∧ 0 ≤ s.pv ∧ (s.pv < s.vi ∨ (s.pv = s.vi ∧ s.ph = 3))) : mayS s = true := by
  obtain ⟨h1, h2, h3, h4, h5, h6⟩ := h
  unfold mayS
  rw [if_neg (by omega), if_neg (by omega)]
  simpa using h6
theorem mayA_of {a : AtM} (h : 1 ≤ a.bo ∧ a.bo ≤ 21 ∧ 1 ≤ a.ki ∧ a.ki ≤ 3 ∧ a.ph = a.ki ∧ 1 ≤ a.vi ∧ a.vi ≤ 1099511627776 ∧ 0 ≤ a.pv ∧ (a.pv < a.vi ∨ (a.ki = 3 ∧ a.pv = a.vi))) : mayA a = true := by
  obtain ⟨h1, h2, h3, h4, h5, h6, h7, h8, h9⟩ := h
  unfold mayA
  rw [if_neg (by omega)]
  simpa using h9
theorem newQ_told {s : SeM} (hs : s.Ok) (v : Int) : Told s (newQ s v) := by
  unfold newQ
  split
  · rename_i h
    obtain ⟨hm, h1, h2⟩ := h
    refine told_step hs ⟨rfl, hs, rfl⟩ (fun hl => ?_)
    have hl := less_cases hl
    have hm := mayS_open hm
    simp only at hl
    refine ⟨mayS_of ?_, mayA_of ?_, .inr ⟨rfl, rfl⟩⟩
    · dsimp only
      omega
    · dsimp only
      omega
  · exact told_no 1 (by decide)
theorem prepQ_told {s : SeM} (hs : s.Ok) {n : Int} {b : BkM} {a : AcM} (ha : a.Ok) : Told s (prepQ s n b a) := by
  unfold prepQ
  split
  · rename_i h
    obtain ⟨hm, hk, h0⟩ := h
    split
    · rename_i h
      obtain ⟨hr, hv, hp⟩ := h
      have hx : mayX a = true := by
        unfold rightX at hr
        simp only [Bool.and_eq_true] at hr
        exact hr.2.1
      obtain ⟨_, x1, x2, x3, x4, x5, x6, x7⟩ := mayX_iff.1 hx
      refine told_step hs ⟨hashL_len b, ha.pa, rfl⟩ (fun hl => ?_)
      have hl := less_cases hl
      have hm := mayS_open hm
      simp only at hl
      refine ⟨mayS_of ?_, mayA_of ?_, .inr ⟨rfl, rfl⟩⟩
      · dsimp only
        omega
      · dsimp only
        omega
    · exact told_no 7 (by decide)
  · exact told_no 1 (by decide)
theorem rightC_view {n : Int} {c : CtM} (h : rightC n c = true) : 1 ≤ c.att.vi ∧ c.att.vi ≤ 1099511627776 := by
  unfold rightC at h
  simp only [Bool.and_eq_true, decide_eq_true_eq] at h
  obtain ⟨h1, h2, _, _, h5⟩ := h
  cases hg : c.sg with
  | nil => rw [hg] at h2; simp at h2; omega
  | cons g r =>
    rw [hg, List.all_cons, Bool.and_eq_true] at h5
    have h6 := h5.1
    unfold rightA at h6
    simp only [Bool.and_eq_true] at h6
    have := mayA_iff h6.1
    exact ⟨this.2.2.2.2.2.1, this.2.2.2.2.2.2.1⟩
theorem storeQ_told {s : SeM} {n : Int} {c : CtM} (hc : c.Ok) : Told s (storeQ s n c) := by
  unfold storeQ
  split
  · rename_i hm
    split
    · rename_i h
      obtain ⟨hr, hk⟩ := h
      obtain ⟨h1, h2⟩ := rightC_view hr
      refine told_step hc.att.ha ⟨hc.att.ha, hc.att.ha, rfl⟩ (fun hl => ?_)
      have hl := less_cases hl
      have hm := mayS_open hm
      simp only at hl
      refine ⟨mayS_of ?_, mayA_of ?_, .inl ?_⟩
      · dsimp only
        omega
      · dsimp only
        omega
      · dsimp only
        omega
    · exact told_no 7 (by decide)
  · exact told_no 1 (by decide)
def oldS (s : SeM) (v p : Int) : Bool := decide (v < s.vi) || (decide (s.vi = v) && decide (p ≤ s.ph))
theorem oldS_less (s nx : SeM) : lessS s nx = !oldS s nx.vi nx.ph := by
  unfold lessS oldS
  by_cases h1 : s.vi < nx.vi
  · rw [decide_eq_true h1, decide_eq_false (by omega : ¬ nx.vi < s.vi), decide_eq_false (by omega : ¬ s.vi = nx.vi)]
    rfl
  · by_cases h2 : s.vi = nx.vi
    · rw [decide_eq_false h1, decide_eq_true h2, decide_eq_false (by omega : ¬ nx.vi < s.vi)]
      by_cases h3 : s.ph < nx.ph
      · rw [decide_eq_true h3, decide_eq_false (by omega : ¬ nx.ph ≤ s.ph)]
        rfl
      · rw [decide_eq_false h3, decide_eq_true (by omega : nx.ph ≤ s.ph)]
        rfl
    · rw [decide_eq_false h1, decide_eq_false h2, decide_eq_true (by omega : nx.vi < s.vi)]
      rfl
theorem stepQ_old {s nx : SeM} {a : AtM} (h : oldS s nx.vi nx.ph = true) : stepQ s nx a = noQ 11 := by
  unfold stepQ
  rw [oldS_less, h]
  rfl
theorem stepQ_go {s nx : SeM} {a : AtM} (h : oldS s nx.vi nx.ph = false) : stepQ s nx a = ⟨nx, { a with ki := nx.ph, vi := nx.vi, ph := nx.ph }, 0⟩ := by
  unfold stepQ
  rw [oldS_less, h]
  rfl
theorem first_view {b : BkM} (h : mayK b = true) : sameK b bkZ = decide (b.vi = 0) := by
  by_cases h0 : b = bkZ
  · subst h0
    rw [sameK_self]
    rfl
  · have hs := sameK_no h0
    rw [hs]
    unfold mayK at h
    rw [hs, Bool.false_or, Bool.and_eq_true] at h
    have hn := h.2
    unfold numsK at hn
    symm
    rw [decide_eq_false_iff_not]
    intro hv
    simp [hv] at hn
end Go.Proofs.YtghophbabbaleaaGreatDoor
