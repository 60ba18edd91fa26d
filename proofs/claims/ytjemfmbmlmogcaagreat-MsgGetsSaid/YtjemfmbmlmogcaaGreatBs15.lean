/-
  CtPure AcPure MgPure: what each of them says stands at its head.
-/
import Derived.ArgAppend
import Derived.BigQuiet
import Derived.Deep.DeepCutAuto
import Derived.Deep.QuietTactic
import Derived.Deep.RegionHeld3
import Derived.Deep.RegionWith
import Derived.Laws.IdiomCopy
import Derived.LoopTactic
import Derived.Outline
import Derived.StillTailTactics
import Derived.Test.YtjemfmbmlmogcaaGreatBs2
import Derived.Test.YtjemfmbmlmogcaaGreatBs12
import Derived.Test.YtjemfmbmlmogcaaGreatBs8
import Derived.Test.YtjemfmbmlmogcaaGreatBs13
import Derived.Test.YtjemfmbmlmogcaaGreatBs6
import Derived.Test.YtjemfmbmlmogcaaGreatBs3
import Derived.Test.YtjemfmbmlmogcaaGreatBs10
import Derived.Test.YtjemfmbmlmogcaaGreatBs7
namespace Go.Proofs.YtjemfmbmlmogcaaGreat
set_option maxRecDepth 20000
structure SgM where
  bo : Int
  tg : List UInt8
  deriving DecidableEq
def SgM.Ok (s : SgM) : Prop := s.tg.length = 32
structure CtM where
  att : AtM
  sg : List SgM
  deriving DecidableEq
structure CtM.Ok (c : CtM) : Prop where
  att : c.att.Ok
  sg : ∀ s ∈ c.sg, s.Ok
def ctZ : CtM := ⟨atZ, []⟩
theorem ctZ_ok : ctZ.Ok := ⟨atZ_ok, fun s hs => absurd hs (by simp [ctZ])⟩
def withC (a : AtM) (s : SgM) : AtM := { a with bo := s.bo, tg := s.tg }
theorem withC_ok {a : AtM} {s : SgM} (ha : a.Ok) (hs : s.Ok) : (withC a s).Ok := ⟨ha.ha, ha.pa, hs⟩
def risesB (top : Int) : Int → List SgM → Bool
  | _, [] => true
  | last, s :: r => (decide (last < s.bo) && decide (s.bo ≤ top)) && risesB top s.bo r
theorem risesB_mem {top : Int} : ∀ {l : List SgM} {last : Int}, risesB top last l = true → ∀ s ∈ l, last < s.bo ∧ s.bo ≤ top
  | [], _, _, s, hs => by cases hs
  | x :: r, last, h, s, hs => by
    unfold risesB at h
    simp only [Bool.and_eq_true, decide_eq_true_eq] at h
    obtain ⟨⟨h1, h2⟩, h3⟩ := h
    rcases List.mem_cons.1 hs with rfl | hs
    · exact ⟨h1, h2⟩
    · have := risesB_mem h3 s hs
      omega
theorem risesB_nodup {top : Int} : ∀ {l : List SgM} {last : Int}, risesB top last l = true → (l.map (·.bo)).Nodup
  | [], _, _ => List.nodup_nil
  | x :: r, last, h => by
    unfold risesB at h
    simp only [Bool.and_eq_true, decide_eq_true_eq] at h
    rw [List.map_cons, List.nodup_cons]
    refine ⟨fun hm => ?_, risesB_nodup h.2⟩
    obtain ⟨s, hs, e⟩ := List.mem_map.1 hm
    have := (risesB_mem h.2 s hs).1
    omega
theorem risesB_len {l : List SgM} {top : Nat} (h : risesB (top : Int) 0 l = true) : l.length ≤ top := by
  have := unlike_le top (l.map (·.bo)) (risesB_nodup h) (fun x hx => by
    obtain ⟨y, hy, rfl⟩ := List.mem_map.1 hx
    have := risesB_mem h y hy
    omega)
  rwa [List.length_map] at this
def bareC (c : CtM) : Bool := decide (c.att.bo = 0) && decide (c.att.tg = z32)
theorem bareC_iff {c : CtM} : bareC c = true ↔ c.att.bo = 0 ∧ c.att.tg = z32 := by
  unfold bareC
  simp only [Bool.and_eq_true, decide_eq_true_eq]
def mayC (c : CtM) : Bool := bareC c && (mayA (withC c.att ⟨1, z32⟩) && (decide (0 < c.sg.length) && risesB 21 0 c.sg))
def bytesG (s : SgM) : List UInt8 := dg s.bo.toNat ++ s.tg
def bytesC (c : CtM) : List UInt8 := taggedA c.att ++ (dg c.sg.length ++ (c.sg.map bytesG).flatten)
def rdSigs (l : List UInt8) (p : Nat) (r : Bool) : Nat → List SgM × Nat × Bool
  | 0 => ([], p, r)
  | k + 1 => ((rdSigs l p r k).1 ++ [⟨((rdUpto 21 l (rdSigs l p r k).2.1 (rdSigs l p r k).2.2).1 : Int), (rdHash l (rdUpto 21 l (rdSigs l p r k).2.1 (rdSigs l p r k).2.2).2.1 (rdUpto 21 l (rdSigs l p r k).2.1 (rdSigs l p r k).2.2).2.2).1⟩],
      (rdHash l (rdUpto 21 l (rdSigs l p r k).2.1 (rdSigs l p r k).2.2).2.1 (rdUpto 21 l (rdSigs l p r k).2.1 (rdSigs l p r k).2.2).2.2).2)
def rawC (l : List UInt8) (p : Nat) (r : Bool) : CtM × Nat × Bool :=
  let b := rdUpto 3 l p r
  let c := rdUpto 1099511627776 l b.2.1 b.2.2
  let d := rdUpto 3 l c.2.1 c.2.2
  let e := rdHash l d.2.1 d.2.2
  let f := rdUpto 1099511627776 l e.2.1 e.2.2
  let g := rdHash l f.2.1 f.2.2
  let h := rdUpto 21 l g.2.1 g.2.2
  let s := rdSigs l h.2.1 h.2.2 h.1
  (⟨⟨0, b.1, c.1, d.1, e.1, f.1, g.1, z32⟩, s.1⟩, s.2)
def ctIs (l : List UInt8) (p : Nat) (r : Bool) : Bool := (rawC l p r).2.2 && mayC (rawC l p r).1
def ctOf (l : List UInt8) (p : Nat) (r : Bool) : CtM := if ctIs l p r = true then (rawC l p r).1 else ctZ
theorem rdSigs_ok (l : List UInt8) (p : Nat) (r : Bool) : ∀ k, ∀ s ∈ (rdSigs l p r k).1, s.Ok
  | 0, s, hs => by cases hs
  | k + 1, s, hs => by
    unfold rdSigs at hs
    rcases List.mem_append.1 hs with hs | hs
    · exact rdSigs_ok l p r k s hs
    · obtain rfl := List.mem_singleton.1 hs
      exact rdHash_32 _ _ _
theorem rdSigs_len (l : List UInt8) (p : Nat) (r : Bool) : ∀ k, (rdSigs l p r k).1.length = k
  | 0 => rfl
  | k + 1 => by
    unfold rdSigs
    rw [List.length_append, rdSigs_len l p r k]
    rfl
theorem rdSigs_back {L r : List UInt8} : ∀ (ts : List SgM) (p : Nat), (∀ s ∈ ts, s.Ok ∧ 1 ≤ s.bo ∧ s.bo ≤ 21) → L.drop p = (ts.map bytesG).flatten ++ r →
    ∀ k, k ≤ ts.length → rdSigs L p true k = (ts.take k, p + ((ts.take k).map bytesG).flatten.length, true) := by
  intro ts p hm h k
  induction k with
  | zero => intro _; simp [rdSigs]
  | succ k ih =>
    intro hk
    have hlt : k < ts.length := by omega
    have e1 : ts = ts.take k ++ (ts[k] :: ts.drop (k + 1)) := by
      rw [← List.drop_eq_getElem_cons hlt, List.take_append_drop]
    have hd : L.drop (p + ((ts.take k).map bytesG).flatten.length) = bytesG ts[k] ++ (((ts.drop (k + 1)).map bytesG).flatten ++ r) := by
      have h' := h
      rw [e1] at h'
      simp only [List.map_append, List.map_cons, List.flatten_append, List.flatten_cons, List.append_assoc] at h'
      exact drop_more h'
    obtain ⟨o1, o2, o3⟩ := hm _ (List.getElem_mem hlt)
    rw [List.take_succ_eq_append_getElem hlt]
    obtain ⟨⟨bo, tg⟩, hs⟩ : ∃ s, ts[k] = s := ⟨_, rfl⟩
    rw [hs] at hd o1 o2 o3 ⊢
    have o1' : tg.length = 32 := o1
    simp only at o2 o3
    obtain ⟨b, rfl⟩ := nat_of (i := bo) (by omega)
    have eb : bytesG ⟨(b : Int), tg⟩ = dg b ++ tg := by
      unfold bytesG
      rw [Int.toNat_natCast]
    rw [eb, List.append_assoc] at hd
    have d2 := drop_more hd
    unfold rdSigs
    rw [ih (by omega)]
    simp only [rdUpto_at (m := 21) hd (by omega) (by omega), rdHash_at d2 o1']
    simp only [List.map_append, List.map_cons, List.map_nil, List.flatten_append, List.flatten_cons, List.flatten_nil, List.append_nil, List.length_append, eb, o1', Nat.add_assoc]
theorem rawC_back {c : CtM} {L r : List UInt8} {p : Nat} (ho : c.Ok) (hm : mayC c = true) (h : L.drop p = bytesC c ++ r) : rawC L p true = (c, p + (bytesC c).length, true) := by
  unfold mayC at hm
  simp only [Bool.and_eq_true, decide_eq_true_eq] at hm
  obtain ⟨hb, ha, hl, hr⟩ := hm
  obtain ⟨hb1, hb2⟩ := bareC_iff.1 hb
  obtain ⟨_, _, h3, h4, h5, h6, h7, h8, h9⟩ := mayA_iff ha
  have hsg : ∀ s ∈ c.sg, s.Ok ∧ 1 ≤ s.bo ∧ s.bo ≤ 21 := fun s hs => ⟨ho.sg s hs, by have := risesB_mem hr s hs; omega, by have := risesB_mem hr s hs; omega⟩
  have hlen : c.sg.length ≤ 21 := risesB_len (top := 21) hr
  obtain ⟨⟨bo, ki, vi, ph, hh, pv, pa, tg⟩, sg⟩ := c
  obtain ⟨⟨k1, k2, k3⟩, _⟩ := ho
  unfold withC at h3 h4 h5 h6 h7 h8 h9
  simp only at hb1 hb2 h3 h4 h5 h6 h7 h8 h9 k1 k2 k3 hsg hlen
  subst hb1 hb2
  obtain ⟨x2, rfl⟩ := nat_of (i := ki) (by omega)
  obtain ⟨x3, rfl⟩ := nat_of (i := vi) (by omega)
  obtain ⟨x4, rfl⟩ := nat_of (i := ph) (by omega)
  obtain ⟨x5, rfl⟩ := nat_of (i := pv) (by omega)
  unfold bytesC taggedA at h ⊢
  simp only [Int.toNat_natCast, List.append_assoc] at h ⊢
  have d1 := drop_more h
  have d2 := drop_more d1
  have d3 := drop_more d2
  have d4 := drop_more d3
  rw [k1] at d4
  have d5 := drop_more d4
  have d6 := drop_more d5
  rw [k2] at d6
  have d7 := drop_more d6
  unfold rawC
  simp only [rdUpto_at (m := 3) h (by omega) (by omega), rdUpto_at (m := 1099511627776) d1 (by omega) (by omega), rdUpto_at (m := 3) d2 (by omega) (by omega), rdHash_at d3 k1,
    rdUpto_at (m := 1099511627776) d4 (by omega) (by omega), rdHash_at d5 k2, rdUpto_at (m := 21) d6 (by omega) (by omega), rdSigs_back sg _ hsg d7 sg.length (Nat.le_refl _), List.take_length]
  simp [k1, k2, Nat.add_assoc]
theorem ctIs_back {c : CtM} {L r : List UInt8} {p : Nat} (ho : c.Ok) (hm : mayC c = true) (h : L.drop p = bytesC c ++ r) : ctIs L p true = true ∧ ctOf L p true = c ∧ (rawC L p true).2.1 = p + (bytesC c).length := by
  have e := rawC_back ho hm h
  have hi : ctIs L p true = true := by unfold ctIs; rw [e, hm]; rfl
  exact ⟨hi, by unfold ctOf; rw [if_pos hi, e], by rw [e]⟩
end Go.Proofs.YtjemfmbmlmogcaaGreat
namespace Go.Proofs.YtjemfmbmlmogcaaGreat
set_option maxRecDepth 20000
structure AcM where
  bo : Int
  vi : Int
  pv : Int
  pa : List UInt8
  fr : List Int
  tg : List UInt8
  deriving DecidableEq
structure AcM.Ok (a : AcM) : Prop where
  pa : a.pa.length = 32
  tg : a.tg.length = 32
def acZ : AcM := ⟨0, 0, 0, z32, [], z32⟩
theorem acZ_ok : acZ.Ok := ⟨rfl, rfl⟩
def risesI (top : Int) : Int → List Int → Bool
  | _, [] => true
  | last, x :: r => (decide (last < x) && decide (x ≤ top)) && risesI top x r
theorem risesI_mem {top : Int} : ∀ {l : List Int} {last : Int}, risesI top last l = true → ∀ x ∈ l, last < x ∧ x ≤ top
  | [], _, _, s, hs => by cases hs
  | x :: r, last, h, s, hs => by
    unfold risesI at h
    simp only [Bool.and_eq_true, decide_eq_true_eq] at h
    obtain ⟨⟨h1, h2⟩, h3⟩ := h
    rcases List.mem_cons.1 hs with rfl | hs
    · exact ⟨h1, h2⟩
    · have := risesI_mem h3 s hs
      omega
theorem risesI_nodup {top : Int} : ∀ {l : List Int} {last : Int}, risesI top last l = true → l.Nodup
  | [], _, _ => List.nodup_nil
  | x :: r, last, h => by
    unfold risesI at h
    simp only [Bool.and_eq_true, decide_eq_true_eq] at h
    rw [List.nodup_cons]
    refine ⟨fun hm => ?_, risesI_nodup h.2⟩
    have := (risesI_mem h.2 x hm).1
    omega
theorem risesI_len {l : List Int} {top : Nat} (h : risesI (top : Int) 0 l = true) : l.length ≤ top :=
  unlike_le top l (risesI_nodup h) (fun x hx => by
    have := risesI_mem h x hx
    omega)
def mayX (a : AcM) : Bool := risesI 21 0 a.fr && decide (1 ≤ a.bo ∧ a.bo ≤ 21 ∧ 1 ≤ a.vi ∧ a.vi ≤ 1099511627776 ∧ 0 ≤ a.pv ∧ a.pv < a.vi ∧ 1 ≤ a.fr.length)
theorem mayX_iff {a : AcM} : mayX a = true ↔ risesI 21 0 a.fr = true ∧ (1 ≤ a.bo ∧ a.bo ≤ 21 ∧ 1 ≤ a.vi ∧ a.vi ≤ 1099511627776 ∧ 0 ≤ a.pv ∧ a.pv < a.vi ∧ 1 ≤ a.fr.length) := by
  unfold mayX
  simp only [Bool.and_eq_true, decide_eq_true_eq]
def frB (l : List Int) : List UInt8 := (l.map fun x => dg x.toNat).flatten
def taggedX (a : AcM) : List UInt8 := dg a.vi.toNat ++ (dg a.pv.toNat ++ (a.pa ++ (dg a.fr.length ++ frB a.fr)))
def bytesX (a : AcM) : List UInt8 := dg a.bo.toNat ++ (taggedX a ++ a.tg)
theorem frB_len (l : List Int) (h : ∀ x ∈ l, 1 ≤ x ∧ x ≤ 21) : (frB l).length = l.length := by
  unfold frB
  induction l with
  | nil => rfl
  | cons x r ih =>
    have hx := h x (by simp)
    rw [List.map_cons, List.flatten_cons, List.length_append, ih (fun y hy => h y (List.mem_cons_of_mem _ hy)), dg_small (by omega), List.length_cons, List.length_cons, List.length_nil]
    omega
theorem mayX_fr {a : AcM} (h : mayX a = true) : (∀ x ∈ a.fr, 1 ≤ x ∧ x ≤ 21) ∧ a.fr.length ≤ 21 := by
  have := (mayX_iff.1 h).1
  exact ⟨fun x hx => by have := risesI_mem this x hx; omega, risesI_len (top := 21) this⟩
theorem taggedX_len {a : AcM} (ho : a.Ok) (hm : mayX a = true) : (taggedX a).length ≤ 100 := by
  obtain ⟨_, h1, h2, h3, h4, h5, h6, h7⟩ := mayX_iff.1 hm
  obtain ⟨k1, k2⟩ := mayX_fr hm
  have e1 := dg_len10 (n := a.vi.toNat) (by omega)
  have e2 := dg_len10 (n := a.pv.toNat) (by omega)
  have e3 := dg_len10 (n := a.fr.length) (by omega)
  have := ho.pa
  have := frB_len a.fr k1
  unfold taggedX
  simp only [List.length_append]
  omega
theorem bytesX_len {a : AcM} (ho : a.Ok) (hm : mayX a = true) : (bytesX a).length ≤ 150 := by
  obtain ⟨_, h1, h2, _⟩ := mayX_iff.1 hm
  have e1 := dg_len10 (n := a.bo.toNat) (by omega)
  have := taggedX_len ho hm
  have := ho.tg
  unfold bytesX
  simp only [List.length_append]
  omega
def rdFrs (l : List UInt8) (p : Nat) (r : Bool) : Nat → List Int × Nat × Bool
  | 0 => ([], p, r)
  | k + 1 => ((rdFrs l p r k).1 ++ [((rdUpto 21 l (rdFrs l p r k).2.1 (rdFrs l p r k).2.2).1 : Int)], (rdUpto 21 l (rdFrs l p r k).2.1 (rdFrs l p r k).2.2).2)
def rawX (l : List UInt8) (p : Nat) (r : Bool) : AcM × Nat × Bool :=
  let a := rdUpto 21 l p r
  let b := rdUpto 1099511627776 l a.2.1 a.2.2
  let c := rdUpto 1099511627776 l b.2.1 b.2.2
  let d := rdHash l c.2.1 c.2.2
  let e := rdUpto 21 l d.2.1 d.2.2
  let s := rdFrs l e.2.1 e.2.2 e.1
  let t := rdHash l s.2.1 s.2.2
  (⟨a.1, b.1, c.1, d.1, s.1, t.1⟩, t.2)
def acIs (l : List UInt8) (p : Nat) (r : Bool) : Bool := (rawX l p r).2.2 && mayX (rawX l p r).1
def acOf (l : List UInt8) (p : Nat) (r : Bool) : AcM := if acIs l p r = true then (rawX l p r).1 else acZ
theorem rdFrs_len (l : List UInt8) (p : Nat) (r : Bool) : ∀ k, (rdFrs l p r k).1.length = k
  | 0 => rfl
  | k + 1 => by
    unfold rdFrs
    rw [List.length_append, rdFrs_len l p r k]
    rfl
theorem rdFrs_back {L r : List UInt8} : ∀ (ts : List Int) (p : Nat), (∀ x ∈ ts, 1 ≤ x ∧ x ≤ 21) → L.drop p = frB ts ++ r →
    ∀ k, k ≤ ts.length → rdFrs L p true k = (ts.take k, p + (frB (ts.take k)).length, true) := by
  intro ts p hm h k
  induction k with
  | zero => intro _; simp [rdFrs, frB]
  | succ k ih =>
    intro hk
    have hlt : k < ts.length := by omega
    have e1 : ts = ts.take k ++ (ts[k] :: ts.drop (k + 1)) := by
      rw [← List.drop_eq_getElem_cons hlt, List.take_append_drop]
    have hd : L.drop (p + (frB (ts.take k)).length) = dg (ts[k]).toNat ++ (frB (ts.drop (k + 1)) ++ r) := by
      have h' := h
      rw [e1] at h'
      unfold frB at h' ⊢
      simp only [List.map_append, List.map_cons, List.flatten_append, List.flatten_cons, List.append_assoc] at h'
      exact drop_more h'
    obtain ⟨o2, o3⟩ := hm _ (List.getElem_mem hlt)
    rw [List.take_succ_eq_append_getElem hlt]
    obtain ⟨x, hs⟩ : ∃ s, ts[k] = s := ⟨_, rfl⟩
    rw [hs] at hd o2 o3 ⊢
    obtain ⟨b, rfl⟩ := nat_of (i := x) (by omega)
    rw [Int.toNat_natCast] at hd
    unfold rdFrs
    rw [ih (by omega)]
    simp only [rdUpto_at (m := 21) hd (by omega) (by omega)]
    unfold frB
    simp only [List.map_append, List.map_cons, List.map_nil, List.flatten_append, List.flatten_cons, List.flatten_nil, List.append_nil, List.length_append, Int.toNat_natCast, Nat.add_assoc]
theorem rawX_back {a : AcM} {L r : List UInt8} {p : Nat} (ho : a.Ok) (hm : mayX a = true) (h : L.drop p = bytesX a ++ r) : rawX L p true = (a, p + (bytesX a).length, true) := by
  obtain ⟨_, h1, h2, h3, h4, h5, h6, h7⟩ := mayX_iff.1 hm
  obtain ⟨hfr, hlen⟩ := mayX_fr hm
  obtain ⟨bo, vi, pv, pa, fr, tg⟩ := a
  obtain ⟨k1, k2⟩ := ho
  simp only at h1 h2 h3 h4 h5 h6 h7 k1 k2 hfr hlen
  obtain ⟨x1, rfl⟩ := nat_of (i := bo) (by omega)
  obtain ⟨x2, rfl⟩ := nat_of (i := vi) (by omega)
  obtain ⟨x3, rfl⟩ := nat_of (i := pv) (by omega)
  unfold bytesX taggedX at h ⊢
  simp only [Int.toNat_natCast, List.append_assoc] at h ⊢
  have d1 := drop_more h
  have d2 := drop_more d1
  have d3 := drop_more d2
  have d4 := drop_more d3
  rw [k1] at d4
  have d5 := drop_more d4
  have d6 := drop_more d5
  unfold rawX
  simp only [rdUpto_at (m := 21) h (by omega) (by omega), rdUpto_at (m := 1099511627776) d1 (by omega) (by omega), rdUpto_at (m := 1099511627776) d2 (by omega) (by omega), rdHash_at d3 k1,
    rdUpto_at (m := 21) d4 (by omega) (by omega), rdFrs_back fr _ hfr d5 fr.length (Nat.le_refl _), List.take_length, rdHash_at d6 k2]
  simp [k1, k2, Nat.add_assoc]
theorem acIs_back {a : AcM} {L r : List UInt8} {p : Nat} (ho : a.Ok) (hm : mayX a = true) (h : L.drop p = bytesX a ++ r) : acIs L p true = true ∧ acOf L p true = a ∧ (rawX L p true).2.1 = p + (bytesX a).length := by
  have e := rawX_back ho hm h
  have hi : acIs L p true = true := by unfold acIs; rw [e, hm]; rfl
  exact ⟨hi, by unfold acOf; rw [if_pos hi, e], by rw [e]⟩
end Go.Proofs.YtjemfmbmlmogcaaGreat
namespace Go.Proofs.YtjemfmbmlmogcaaGreat
set_option maxRecDepth 20000
structure MgM where
  ki : Int
  fr : Int
  tu : Int
  aa : AtM
  cc : CtM
  xx : AcM
  kk : BkM
  hh : List UInt8
  tt : TxM
structure MgM.Ok (m : MgM) : Prop where
  aa : m.aa.Ok
  cc : m.cc.Ok
  xx : m.xx.Ok
  kk : m.kk.par.length = 32
  hh : m.hh.length = 32
def mgZ : MgM := ⟨0, 0, 0, atZ, ctZ, acZ, bkZ, z32, txZ⟩
theorem mgZ_ok : mgZ.Ok := ⟨⟨rfl, rfl, rfl⟩, ctZ_ok, acZ_ok, rfl, rfl⟩
def bareM (m : MgM) : MgM := { mgZ with ki := m.ki, fr := m.fr, tu := m.tu }
noncomputable def sameM (a b : MgM) : Bool := decide (a.ki = b.ki) && (decide (a.fr = b.fr) && (decide (a.tu = b.tu) && (decide (a.aa = b.aa) && (decide (a.cc = b.cc) && (decide (a.xx = b.xx) && (sameK a.kk b.kk && (decide (a.hh = b.hh) && decide (a.tt = b.tt))))))))
theorem sameM_iff {a b : MgM} : sameM a b = true ↔ a = b := by
  unfold sameM
  obtain ⟨a1, a2, a3, a4, a5, a6, a7, a8, a9⟩ := a
  obtain ⟨b1, b2, b3, b4, b5, b6, b7, b8, b9⟩ := b
  simp only [Bool.and_eq_true, decide_eq_true_eq, sameK_iff, MgM.mk.injEq]
theorem sameM_self (a : MgM) : sameM a a = true := sameM_iff.2 rfl
def isA (k : Int) : Prop := k = 1 ∨ k = 3 ∨ k = 5
def isC (k : Int) : Prop := k = 4 ∨ k = 6
instance (k : Int) : Decidable (isA k) := inferInstanceAs (Decidable (_ ∨ _ ∨ _))
instance (k : Int) : Decidable (isC k) := inferInstanceAs (Decidable (_ ∨ _))
def clearM (m : MgM) : MgM :=
  if isA m.ki then { m with aa := atZ } else if m.ki = 2 then { m with kk := bkZ, xx := acZ } else if isC m.ki then { m with cc := ctZ } else if m.ki = 7 then { m with hh := z32 }
  else if m.ki = 8 then { m with kk := bkZ } else if m.ki = 9 then { m with tt := txZ } else if m.ki = 10 then { m with xx := acZ } else m
noncomputable def kindM (m : MgM) : Bool :=
  if isA m.ki then mayA m.aa && decide (m.aa.ki = (m.ki + 1) / 2) else if m.ki = 2 then mayK m.kk && (decide (0 < m.kk.vi) && mayX m.xx) else if isC m.ki then mayC m.cc && decide (m.cc.att.ki = m.ki / 2) else if m.ki = 7 then true
  else if m.ki = 8 then mayK m.kk && decide (0 < m.kk.vi) else if m.ki = 9 then mayT m.tt else if m.ki = 10 then mayX m.xx else false
noncomputable def mayM (m : MgM) : Bool := (decide (1 ≤ m.fr ∧ m.fr ≤ 21 ∧ 1 ≤ m.tu ∧ m.tu ≤ 21 ∧ m.fr ≠ m.tu)) && (kindM m && sameM (clearM m) (bareM m))
def bodyM (m : MgM) : List UInt8 :=
  if isA m.ki then bytesA m.aa else if isC m.ki then bytesC m.cc else if m.ki = 7 then m.hh else if m.ki = 9 then bytesT m.tt else if m.ki = 10 then bytesX m.xx
  else tx (bytesK m.kk) ++ (if m.ki = 2 then bytesX m.xx else [])
def bytesM (m : MgM) : List UInt8 := dg m.ki.toNat ++ (dg m.fr.toNat ++ (dg m.tu.toNat ++ bodyM m))
noncomputable def restM (l : List UInt8) (m : MgM) (p : Nat) (r : Bool) : MgM :=
  if isA m.ki then { m with aa := atOf l p r } else if isC m.ki then { m with cc := ctOf l p r } else if m.ki = 7 then { m with hh := (rdHash l p r).1 } else if m.ki = 9 then { m with tt := rdTx l p r }
  else if m.ki = 10 then { m with xx := acOf l p r } else if m.ki = 2 then { m with kk := gotK (rdText l p r).1, xx := acOf l (rdText l p r).2.1 (rdText l p r).2.2 } else if m.ki = 8 then { m with kk := gotK (rdText l p r).1 } else m
def headM (l : List UInt8) : MgM × Nat × Bool :=
  let a := rdUpto 10 l 0 true
  let b := rdUpto 21 l a.2.1 a.2.2
  let c := rdUpto 21 l b.2.1 b.2.2
  ({ mgZ with ki := a.1, fr := b.1, tu := c.1 }, c.2)
noncomputable def rawM (l : List UInt8) : MgM := restM l (headM l).1 (headM l).2.1 (headM l).2.2
noncomputable def mgIs (l : List UInt8) : Bool := mayM (rawM l) && decide (bytesM (rawM l) = l)
noncomputable def mgOf (l : List UInt8) : MgM := if mgIs l = true then rawM l else mgZ
inductive HasM (m : MgM) : Prop
  | aa (h : isA m.ki) (h1 : mayA m.aa = true) (h2 : m.aa.ki = (m.ki + 1) / 2) (e : m = { bareM m with aa := m.aa })
  | ka (h : m.ki = 2) (h1 : mayK m.kk = true) (h2 : 0 < m.kk.vi) (h3 : mayX m.xx = true) (e : m = { bareM m with kk := m.kk, xx := m.xx })
  | cc (h : isC m.ki) (h1 : mayC m.cc = true) (h2 : m.cc.att.ki = m.ki / 2) (e : m = { bareM m with cc := m.cc })
  | hh (h : m.ki = 7) (e : m = { bareM m with hh := m.hh })
  | kk (h : m.ki = 8) (h1 : mayK m.kk = true) (h2 : 0 < m.kk.vi) (e : m = { bareM m with kk := m.kk })
  | tt (h : m.ki = 9) (h1 : mayT m.tt = true) (e : m = { bareM m with tt := m.tt })
  | xx (h : m.ki = 10) (h1 : mayX m.xx = true) (e : m = { bareM m with xx := m.xx })
theorem mayM_has {m : MgM} (h : mayM m = true) : (1 ≤ m.fr ∧ m.fr ≤ 21 ∧ 1 ≤ m.tu ∧ m.tu ≤ 21 ∧ m.fr ≠ m.tu) ∧ HasM m := by
  unfold mayM at h
  simp only [Bool.and_eq_true, decide_eq_true_eq, sameM_iff] at h
  obtain ⟨h1, h2, h3⟩ := h
  refine ⟨h1, ?_⟩
  unfold kindM at h2
  unfold clearM at h3
  obtain ⟨a1, a2, a3, a4, a5, a6, a7, a8, a9⟩ := m
  simp only at h2 h3
  split at h2
  · rename_i h
    rw [if_pos h] at h3
    simp only [bareM, mgZ, MgM.mk.injEq, Bool.and_eq_true, decide_eq_true_eq] at h2 h3
    exact .aa h h2.1 h2.2 (by simp only [bareM, mgZ, MgM.mk.injEq]; simp only [h3, and_self])
  · rename_i n1
    rw [if_neg n1] at h3
    split at h2
    · rename_i h
      rw [if_pos h] at h3
      simp only [bareM, mgZ, MgM.mk.injEq, Bool.and_eq_true, decide_eq_true_eq] at h2 h3
      exact .ka h h2.1 h2.2.1 h2.2.2 (by simp only [bareM, mgZ, MgM.mk.injEq]; simp only [h3, and_self])
    · rename_i n2
      rw [if_neg n2] at h3
      split at h2
      · rename_i h
        rw [if_pos h] at h3
        simp only [bareM, mgZ, MgM.mk.injEq, Bool.and_eq_true, decide_eq_true_eq] at h2 h3
        exact .cc h h2.1 h2.2 (by simp only [bareM, mgZ, MgM.mk.injEq]; simp only [h3, and_self])
      · rename_i n3
        rw [if_neg n3] at h3
        split at h2
        · rename_i h
          rw [if_pos h] at h3
          simp only [bareM, mgZ, MgM.mk.injEq] at h3
          exact .hh h (by simp only [bareM, mgZ, MgM.mk.injEq]; simp only [h3, and_self])
        · rename_i n4
          rw [if_neg n4] at h3
          split at h2
          · rename_i h
            rw [if_pos h] at h3
            simp only [bareM, mgZ, MgM.mk.injEq, Bool.and_eq_true, decide_eq_true_eq] at h2 h3
            exact .kk h h2.1 h2.2 (by simp only [bareM, mgZ, MgM.mk.injEq]; simp only [h3, and_self])
          · rename_i n5
            rw [if_neg n5] at h3
            split at h2
            · rename_i h
              rw [if_pos h] at h3
              simp only [bareM, mgZ, MgM.mk.injEq] at h3
              exact .tt h h2 (by simp only [bareM, mgZ, MgM.mk.injEq]; simp only [h3, and_self])
            · rename_i n6
              rw [if_neg n6] at h3
              split at h2
              · rename_i h
                rw [if_pos h] at h3
                simp only [bareM, mgZ, MgM.mk.injEq] at h3
                exact .xx h h2 (by simp only [bareM, mgZ, MgM.mk.injEq]; simp only [h3, and_self])
              · cases h2
theorem HasM.ki {m : MgM} (h : HasM m) : 1 ≤ m.ki ∧ m.ki ≤ 10 := by
  cases h with
  | aa h _ _ _ => unfold isA at h; omega
  | ka h _ _ _ _ => omega
  | cc h _ _ _ => unfold isC at h; omega
  | hh h _ => omega
  | kk h _ _ _ => omega
  | tt h _ _ => omega
  | xx h _ _ => omega
theorem rawM_back {m : MgM} (ho : m.Ok) (hm : mayM m = true) : rawM (bytesM m) = m := by
  obtain ⟨⟨f1, f2, f3, f4, _⟩, hh⟩ := mayM_has hm
  obtain ⟨k1, k2⟩ := hh.ki
  have d0 : (bytesM m).drop 0 = dg m.ki.toNat ++ (dg m.fr.toNat ++ (dg m.tu.toNat ++ bodyM m)) := rfl
  have d1 := drop_more d0
  have d2 := drop_more d1
  have d3 := drop_more d2
  have e1 := rdUpto_at (m := 10) d0 (by omega) (by omega)
  have e2 := rdUpto_at (m := 21) d1 (by omega) (by omega)
  have e3 := rdUpto_at (m := 21) d2 (by omega) (by omega)
  have eh : headM (bytesM m) = (bareM m, 0 + (dg m.ki.toNat).length + (dg m.fr.toNat).length + (dg m.tu.toNat).length, true) := by
    unfold headM
    simp only [e1, e2, e3]
    unfold bareM
    simp only [Int.toNat_of_nonneg (show 0 ≤ m.ki by omega), Int.toNat_of_nonneg (show 0 ≤ m.fr by omega), Int.toNat_of_nonneg (show 0 ≤ m.tu by omega)]
  unfold rawM
  rw [eh]
  simp only
  generalize 0 + (dg m.ki.toNat).length + (dg m.fr.toNat).length + (dg m.tu.toNat).length = P at d3 ⊢
  generalize bytesM m = L at d3 ⊢
  have hki : (bareM m).ki = m.ki := rfl
  unfold restM
  rw [hki]
  unfold bodyM at d3
  cases hh with
  | aa h h1 h2 e =>
    rw [if_pos h] at d3 ⊢
    have := (atIs_back ho.aa h1 (r := []) (by rw [List.append_nil]; exact d3)).2.1
    rw [this]
    exact e.symm
  | ka h h1 h2 h3 e =>
    have n1 : ¬ isA m.ki := by unfold isA; omega
    have n2 : ¬ isC m.ki := by unfold isC; omega
    rw [if_neg n1, if_neg n2, if_neg (by omega), if_neg (by omega), if_neg (by omega)] at d3 ⊢
    rw [if_pos h] at d3 ⊢
    have et := rdText_at d3 (Nat.le_trans (bytesK_len ho.kk h1) (by omega))
    have d4 := drop_more d3
    have := (acIs_back ho.xx h3 (r := []) (by rw [List.append_nil]; exact d4)).2.1
    rw [et]
    simp only
    rw [this, show gotK (bytesK m.kk) = m.kk from by unfold gotK; rw [getK_back ho.kk h1]; rfl]
    exact e.symm
  | cc h h1 h2 e =>
    have n1 : ¬ isA m.ki := by unfold isC at h; unfold isA; omega
    rw [if_neg n1, if_pos h] at d3 ⊢
    have := (ctIs_back ho.cc h1 (r := []) (by rw [List.append_nil]; exact d3)).2.1
    rw [this]
    exact e.symm
  | hh h e =>
    have n1 : ¬ isA m.ki := by unfold isA; omega
    have n2 : ¬ isC m.ki := by unfold isC; omega
    rw [if_neg n1, if_neg n2, if_pos h] at d3 ⊢
    rw [rdHash_at (r := []) (by rw [List.append_nil]; exact d3) ho.hh]
    exact e.symm
  | kk h h1 h2 e =>
    have n1 : ¬ isA m.ki := by unfold isA; omega
    have n2 : ¬ isC m.ki := by unfold isC; omega
    rw [if_neg n1, if_neg n2, if_neg (by omega), if_neg (by omega), if_neg (by omega)] at d3 ⊢
    rw [if_neg (by omega)] at d3 ⊢
    rw [if_pos h]
    have et := rdText_at d3 (Nat.le_trans (bytesK_len ho.kk h1) (by omega))
    rw [et]
    simp only
    rw [show gotK (bytesK m.kk) = m.kk from by unfold gotK; rw [getK_back ho.kk h1]; rfl]
    exact e.symm
  | tt h h1 e =>
    have n1 : ¬ isA m.ki := by unfold isA; omega
    have n2 : ¬ isC m.ki := by unfold isC; omega
    rw [if_neg n1, if_neg n2, if_neg (by omega), if_pos h] at d3 ⊢
    have := (rdTx_back h1 (r := []) (by rw [List.append_nil]; exact d3)).2.1
    rw [this]
    exact e.symm
  | xx h h1 e =>
    have n1 : ¬ isA m.ki := by unfold isA; omega
    have n2 : ¬ isC m.ki := by unfold isC; omega
    rw [if_neg n1, if_neg n2, if_neg (by omega), if_neg (by omega), if_pos h] at d3 ⊢
    have := (acIs_back ho.xx h1 (r := []) (by rw [List.append_nil]; exact d3)).2.1
    rw [this]
    exact e.symm
theorem mgIs_back {m : MgM} (ho : m.Ok) (hm : mayM m = true) : mgIs (bytesM m) = true ∧ mgOf (bytesM m) = m := by
  have e := rawM_back ho hm
  have hi : mgIs (bytesM m) = true := by unfold mgIs; rw [e, hm, decide_eq_true rfl]; rfl
  exact ⟨hi, by unfold mgOf; rw [if_pos hi, e]⟩
theorem mgIs_so {l : List UInt8} (h : mgIs l = true) : mayM (mgOf l) = true ∧ bytesM (mgOf l) = l := by
  unfold mgOf
  rw [if_pos h]
  unfold mgIs at h
  rw [Bool.and_eq_true, decide_eq_true_eq] at h
  exact h
end Go.Proofs.YtjemfmbmlmogcaaGreat
