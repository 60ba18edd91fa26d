/-
  SePure: what each of them says stands at its head.
-/
import Derived.Test.YtifkkpfiejiojaaDoorBs6
namespace Go.Proofs.YtifkkpfiejiojaaDoor
set_option maxRecDepth 20000
structure SeM where
  vi : Int
  ph : Int
  pv : Int
  pa : List UInt8
  deriving DecidableEq
def seZ : SeM := ⟨0, 0, 0, z32⟩
def SeM.Ok (s : SeM) : Prop := s.pa.length = 32
theorem seZ_ok : seZ.Ok := rfl
def mayS (s : SeM) : Bool := if s.vi = 0 then decide (s = seZ) else if s.vi < 0 ∨ 1099511627776 < s.vi ∨ s.ph < 1 ∨ 3 < s.ph ∨ s.pv < 0 then false else decide (s.pv < s.vi) || (decide (s.pv = s.vi) && decide (s.ph = 3))
theorem mayS_iff {s : SeM} (h : mayS s = true) : 0 ≤ s.vi ∧ s.vi ≤ 1099511627776 ∧ 0 ≤ s.ph ∧ s.ph ≤ 3 ∧ 0 ≤ s.pv ∧ s.pv ≤ s.vi := by
  unfold mayS at h
  split at h
  · rw [decide_eq_true_eq] at h
    subst h
    decide
  · split at h
    · cases h
    · simp only [Bool.or_eq_true, Bool.and_eq_true, decide_eq_true_eq] at h
      omega
def lessS (a b : SeM) : Bool := decide (a.vi < b.vi) || (decide (a.vi = b.vi) && decide (a.ph < b.ph))
def taggedS (n : Int) (s : SeM) : List UInt8 := dg n.toNat ++ (dg s.vi.toNat ++ (dg s.ph.toNat ++ (dg s.pv.toNat ++ s.pa)))
def tagS (i n : Int) (s : SeM) : List UInt8 := hl 32 (tagF i 3 (taggedS n s))
theorem tagS_len (i n : Int) (s : SeM) : (tagS i n s).length = 32 := hl_length _ _
def blobS (i n : Int) (s : SeM) : List UInt8 := taggedS n s ++ tagS i n s
def versB (n : Int) : Bool := decide (1 ≤ n ∧ n ≤ 1099511627776)
theorem taggedS_len {n : Int} {s : SeM} (ho : s.Ok) (hn : versB n = true) (hm : mayS s = true) : (taggedS n s).length ≤ 72 := by
  obtain ⟨h1, h2, h3, h4, h5, h6⟩ := mayS_iff hm
  unfold versB at hn
  rw [decide_eq_true_eq] at hn
  have e1 := dg_len10 (n := n.toNat) (by omega)
  have e2 := dg_len10 (n := s.vi.toNat) (by omega)
  have e3 := dg_len10 (n := s.ph.toNat) (by omega)
  have e4 := dg_len10 (n := s.pv.toNat) (by omega)
  have e5 : s.pa.length = 32 := ho
  unfold taggedS
  simp only [List.length_append]
  omega
def rawB (l : List UInt8) : Int × SeM × List UInt8 × Nat × Bool :=
  let a := rdUpto 1099511627776 l 0 true
  let b := rdUpto 1099511627776 l a.2.1 a.2.2
  let c := rdUpto 3 l b.2.1 b.2.2
  let d := rdUpto 1099511627776 l c.2.1 c.2.2
  let e := rdHash l d.2.1 d.2.2
  let f := rdHash l e.2.1 e.2.2
  (a.1, ⟨b.1, c.1, d.1, e.1⟩, f.1, f.2)
def textB (l : List UInt8) : Bool := ((rawB l).2.2.2.2 && decide ((rawB l).2.2.2.1 = l.length)) && (decide (1 ≤ (rawB l).1) && mayS (rawB l).2.1)
def getB (i : Int) (l : List UInt8) : Int × SeM × Int :=
  if textB l = true then if nodeB i = true ∧ (rawB l).2.2.1 = tagS i (rawB l).1 (rawB l).2.1 then ((rawB l).1, (rawB l).2.1, 0) else (0, seZ, 7) else (0, seZ, 2)
theorem rawB_ok (l : List UInt8) : (rawB l).2.1.Ok := rdHash_32 _ _ _
theorem rawB_le (l : List UInt8) : 0 ≤ (rawB l).1 ∧ (rawB l).1 ≤ 1099511627776 := by
  unfold rawB
  simp only
  have h := rdNum_le (most := 1099511627776) (l := l) (p := 0) (r := true)
  unfold rdUpto
  rw [if_neg (by omega)]
  have e : (1099511627776 : Int).toNat = 1099511627776 := rfl
  rw [e]
  omega
theorem textB_so {l : List UInt8} (h : textB l = true) : l = taggedS (rawB l).1 (rawB l).2.1 ++ (rawB l).2.2.1 ∧ versB (rawB l).1 = true ∧ mayS (rawB l).2.1 = true ∧ (rawB l).2.2.1.length = 32 := by
  unfold textB at h
  simp only [Bool.and_eq_true, decide_eq_true_eq] at h
  obtain ⟨⟨h1, h2⟩, h3, h4⟩ := h
  have hle := rawB_le l
  refine ⟨?_, decide_eq_true ⟨h3, hle.2⟩, h4, rdHash_32 _ _ _⟩
  clear h3 h4 hle
  unfold rawB at h1 h2 ⊢
  obtain ⟨a, p1, r1, ha⟩ : ∃ x q s, rdUpto 1099511627776 l 0 true = (x, q, s) := ⟨_, _, _, rfl⟩
  obtain ⟨b, p2, r2, hb⟩ : ∃ x q s, rdUpto 1099511627776 l p1 r1 = (x, q, s) := ⟨_, _, _, rfl⟩
  obtain ⟨c, p3, r3, hc⟩ : ∃ x q s, rdUpto 3 l p2 r2 = (x, q, s) := ⟨_, _, _, rfl⟩
  obtain ⟨d, p4, r4, hd⟩ : ∃ x q s, rdUpto 1099511627776 l p3 r3 = (x, q, s) := ⟨_, _, _, rfl⟩
  obtain ⟨e, p5, r5, he⟩ : ∃ x q s, rdHash l p4 r4 = (x, q, s) := ⟨_, _, _, rfl⟩
  obtain ⟨f, p6, r6, hf⟩ : ∃ x q s, rdHash l p5 r5 = (x, q, s) := ⟨_, _, _, rfl⟩
  simp only [ha, hb, hc, hd, he, hf] at h1 h2 ⊢
  subst h1
  obtain ⟨rfl, _, q6, y6, hy6⟩ := rdHash_so hf
  obtain ⟨rfl, _, q5, y5, hy5⟩ := rdHash_so he
  obtain ⟨rfl, _, _, q4, y4, hy4⟩ := rdUpto_so hd
  obtain ⟨rfl, _, _, q3, y3, hy3⟩ := rdUpto_so hc
  obtain ⟨rfl, _, _, q2, y2, hy2⟩ := rdUpto_so hb
  obtain ⟨_, _, _, q1, y1, hy1⟩ := rdUpto_so ha
  have d1 := drop_more hy1
  rw [← q1, hy2] at d1
  have d2 := drop_more hy2
  rw [← q2, hy3] at d2
  have d3 := drop_more hy3
  rw [← q3, hy4] at d3
  have d4 := drop_more hy4
  rw [← q4, hy5] at d4
  have d5 := drop_more hy5
  rw [← q5, hy6] at d5
  have d6 := drop_more hy6
  rw [← q6, h2, List.drop_length] at d6
  subst d6
  rw [List.drop_zero] at hy1
  unfold taggedS
  simp only [Int.toNat_natCast, List.append_assoc]
  rw [hy1, ← d1, ← d2, ← d3, ← d4, ← d5, List.append_nil]
theorem textB_eq {l : List UInt8} (i : Int) (h : textB l = true) : (blobS i (rawB l).1 (rawB l).2.1 = l) ↔ (rawB l).2.2.1 = tagS i (rawB l).1 (rawB l).2.1 := by
  obtain ⟨h1, _, _, h4⟩ := textB_so h
  unfold blobS
  constructor
  · intro e
    have e2 := e.trans h1
    exact (List.append_cancel_left e2).symm
  · intro e
    rw [← e]
    exact h1.symm
theorem rawB_back {n : Int} {s : SeM} {t : List UInt8} (ho : s.Ok) (hn : versB n = true) (hm : mayS s = true) (ht : t.length = 32) : rawB (taggedS n s ++ t) = (n, s, t, (taggedS n s ++ t).length, true) := by
  obtain ⟨h1, h2, h3, h4, h5, h6⟩ := mayS_iff hm
  unfold versB at hn
  rw [decide_eq_true_eq] at hn
  obtain ⟨vi, ph, pv, pa⟩ := s
  have ho' : pa.length = 32 := ho
  simp only at h1 h2 h3 h4 h5 h6
  obtain ⟨x0, rfl⟩ := nat_of (i := n) (by omega)
  obtain ⟨x1, rfl⟩ := nat_of (i := vi) (by omega)
  obtain ⟨x2, rfl⟩ := nat_of (i := ph) (by omega)
  obtain ⟨x3, rfl⟩ := nat_of (i := pv) (by omega)
  have d0 : (taggedS (x0 : Int) ⟨x1, x2, x3, pa⟩ ++ t).drop 0 = dg x0 ++ (dg x1 ++ (dg x2 ++ (dg x3 ++ (pa ++ t)))) := by
    unfold taggedS
    simp only [Int.toNat_natCast, List.append_assoc, List.drop_zero]
  have hlen : (taggedS (x0 : Int) ⟨x1, x2, x3, pa⟩ ++ t).length = (dg x0).length + (dg x1).length + (dg x2).length + (dg x3).length + 32 + 32 := by
    have := congrArg List.length d0
    rw [List.drop_zero] at this
    rw [this]
    simp only [List.length_append, ho', ht]
    omega
  have d1 := drop_more d0
  have d2 := drop_more d1
  have d3 := drop_more d2
  have d4 := drop_more d3
  have d5 := drop_more d4
  rw [ho'] at d5
  rw [hlen]
  generalize taggedS (x0 : Int) ⟨x1, x2, x3, pa⟩ ++ t = L at *
  unfold rawB
  simp only [rdUpto_at (m := 1099511627776) d0 (by omega) (by omega), rdUpto_at (m := 1099511627776) d1 (by omega) (by omega), rdUpto_at (m := 3) d2 (by omega) (by omega), rdUpto_at (m := 1099511627776) d3 (by omega) (by omega), rdHash_at d4 ho',
    rdHash_at (r := []) (by rw [List.append_nil]; exact d5) ht]
  simp only [Nat.zero_add]
theorem getB_back {i n : Int} {s : SeM} (ho : s.Ok) (hn : versB n = true) (hm : mayS s = true) (hi : nodeB i = true) : getB i (blobS i n s) = (n, s, 0) := by
  have e : rawB (blobS i n s) = (n, s, tagS i n s, (blobS i n s).length, true) := rawB_back ho hn hm (tagS_len _ _ _)
  have ht : textB (blobS i n s) = true := by
    unfold textB
    rw [e]
    unfold versB at hn
    rw [decide_eq_true_eq] at hn
    simp only [Bool.true_and, Bool.and_eq_true, decide_eq_true_eq, hm, and_true, true_and]
    exact hn.1
  unfold getB
  rw [if_pos ht, e]
  simp only
  rw [if_pos ⟨hi, trivial⟩]
end Go.Proofs.YtifkkpfiejiojaaDoor
