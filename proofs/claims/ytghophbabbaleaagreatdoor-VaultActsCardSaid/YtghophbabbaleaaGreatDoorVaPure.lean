/-
  A vault as plain data: what each act tells, and leaves. No function of the program.
-/
import Derived.Test.YtghophbabbaleaaGreatDoorBs10
namespace Go.Proofs.YtghophbabbaleaaGreatDoor
set_option maxRecDepth 20000
structure VaM where
  i : Int
  s0 : List UInt8
  s1 : List UInt8
  n : Int
  left : Int
  dead : Bool
  torn : List UInt8
def newV (i n : Int) : VaM := ⟨i, [], [], n, -1, false, []⟩
structure VaM.Good (V : VaM) : Prop where
  i : nodeB V.i = true
  n0 : 0 ≤ V.n
  n1 : V.n ≤ 1099511627776
  left0 : -1 ≤ V.left
  left1 : V.left ≤ 9223372036854775807
  l0 : V.s0.length ≤ 1000
  l1 : V.s1.length ≤ 1000
  lt : V.torn.length ≤ 1000
  dt : V.dead = false → V.torn = []
theorem newV_good {i n : Int} (hi : nodeB i = true) (h0 : 0 ≤ n) (h1 : n ≤ 1099511627776) : (newV i n).Good := ⟨hi, h0, h1, by show (-1 : Int) ≤ -1; decide, by show (-1 : Int) ≤ _; decide, by show (0 : Nat) ≤ _; decide, by show (0 : Nat) ≤ _; decide, by show (0 : Nat) ≤ _; decide, fun _ => rfl⟩
def slotV (V : VaM) (k : Int) : List UInt8 := if k = 0 then V.s0 else if k = 1 then V.s1 else []
def putV (V : VaM) (k : Int) (l : List UInt8) : VaM := { V with s0 := if k = 0 then l else V.s0, s1 := if k = 0 then V.s1 else l }
theorem putV_zero (V : VaM) (l : List UInt8) : putV V 0 l = { V with s0 := l } := rfl
theorem putV_one (V : VaM) (l : List UInt8) : putV V 1 l = { V with s1 := l } := rfl
theorem slotV_len {V : VaM} (h : V.Good) (k : Int) : (slotV V k).length ≤ 1000 := by
  unfold slotV
  split
  · exact h.l0
  · split
    · exact h.l1
    · exact Nat.zero_le _
def placeV (V : VaM) : Int := (V.n + 1) % 2
theorem placeV_two (V : VaM) : placeV V = 0 ∨ placeV V = 1 := by unfold placeV; omega
def stepB (V : VaM) : Bool := !decide (V.left = 0)
def stepV (V : VaM) : VaM := if V.left = 0 then { V with dead := true } else if V.left < 0 then V else { V with left := V.left - 1 }
def writeE (V : VaM) : Int := if stepB V = true then (if stepB (stepV V) = true then 0 else 6) else 6
def writeV (V : VaM) (b : List UInt8) : VaM :=
  if stepB V = true then
    (if stepB (stepV V) = true then { stepV (putV (stepV V) (placeV V) b) with n := V.n + 1 } else stepV (putV (stepV V) (placeV V) b))
  else { stepV V with torn := b }
def keepE (V : VaM) (s : SeM) : Int := if V.dead = true then 6 else if mayS s = false then 1 else if V.n = 1099511627776 then 9 else writeE V
def keepV (V : VaM) (s : SeM) : VaM := if V.dead = true then V else if mayS s = false then V else if V.n = 1099511627776 then V else writeV V (blobS V.i (V.n + 1) s)
def hitB (i n : Int) (l : List UInt8) : Bool := decide ((getB i l).2.2 = 0) && decide ((getB i l).1 = n)
def loadS (V : VaM) : SeM := if V.dead = true then seZ else if V.n = 0 then seZ else if hitB V.i V.n V.s0 = true then (getB V.i V.s0).2.1 else if hitB V.i V.n V.s1 = true then (getB V.i V.s1).2.1 else seZ
def loadE (V : VaM) : Int := if V.dead = true then 6 else if V.n = 0 then 0 else if hitB V.i V.n V.s0 = true then 0 else if hitB V.i V.n V.s1 = true then 0 else 8
theorem getB_ok' (i : Int) (l : List UInt8) : (getB i l).2.1.Ok := by
  unfold getB
  split
  · split
    · exact rawB_ok l
    · exact seZ_ok
  · exact seZ_ok
theorem loadS_ok (V : VaM) : (loadS V).Ok := by
  unfold loadS
  split
  · exact seZ_ok
  · split
    · exact seZ_ok
    · split
      · exact getB_ok' _ _
      · split
        · exact getB_ok' _ _
        · exact seZ_ok
def swapE (k : Int) (l : List UInt8) : Int := if k < 0 ∨ 1 < k ∨ 1000 < l.length then 1 else 0
def swapV (V : VaM) (k : Int) (l : List UInt8) : VaM := if k < 0 ∨ 1 < k ∨ 1000 < l.length then V else putV V k l
def armV (V : VaM) (n : Int) : VaM := { V with left := if n < 0 then -1 else n }
def tearL (t own : List UInt8) (m : Int) : List UInt8 := t.take m.toNat ++ own.drop (t.take m.toNat).length
def tearV (V : VaM) (m : Int) : VaM := if V.torn = [] then V else { putV V (placeV V) (tearL V.torn (slotV V (placeV V)) m) with torn := [] }
def crashV (V : VaM) (m : Int) : VaM := { tearV V m with dead := false, left := -1 }
theorem putV_good {V : VaM} (h : V.Good) (k : Int) {l : List UInt8} (hl : l.length ≤ 1000) : (putV V k l).Good := by
  refine ⟨h.i, h.n0, h.n1, h.left0, h.left1, ?_, ?_, h.lt, h.dt⟩
  · show (if k = 0 then l else V.s0).length ≤ 1000
    split
    · exact hl
    · exact h.l0
  · show (if k = 0 then V.s1 else l).length ≤ 1000
    split
    · exact h.l1
    · exact hl
theorem stepV_good {V : VaM} (h : V.Good) : (stepV V).Good := by
  unfold stepV
  split
  · exact ⟨h.i, h.n0, h.n1, h.left0, h.left1, h.l0, h.l1, h.lt, fun e => by cases e⟩
  · split
    · exact h
    · have a := h.left0
      have b := h.left1
      exact ⟨h.i, h.n0, h.n1, by show -1 ≤ V.left - 1; omega, by show V.left - 1 ≤ _; omega, h.l0, h.l1, h.lt, h.dt⟩
theorem stepV_dead {V : VaM} (h : stepB V = false) : (stepV V).dead = true := by
  unfold stepB at h
  have h2 : V.left = 0 := by simpa using h
  unfold stepV
  rw [if_pos h2]
theorem writeV_good {V : VaM} (h : V.Good) (hn : V.n < 1099511627776) {b : List UInt8} (hb : b.length ≤ 1000) : (writeV V b).Good := by
  unfold writeV
  have h1 := stepV_good h
  have h2 := putV_good h1 (placeV V) hb
  have h3 := stepV_good h2
  split
  · split
    · refine ⟨h3.i, ?_, ?_, h3.left0, h3.left1, h3.l0, h3.l1, h3.lt, h3.dt⟩
      · show 0 ≤ V.n + 1
        have := h.n0
        omega
      · show V.n + 1 ≤ _
        omega
    · exact h3
  · rename_i h0
    have hd := stepV_dead (V := V) (by simpa using h0)
    exact ⟨h1.i, h1.n0, h1.n1, h1.left0, h1.left1, h1.l0, h1.l1, hb, fun e => by rw [show (stepV V).dead = false from e] at hd; cases hd⟩
theorem blobS_len' {i n : Int} {s : SeM} (ho : s.Ok) (hn : versB n = true) (hm : mayS s = true) : (blobS i n s).length ≤ 104 := by
  have := taggedS_len ho hn hm
  unfold blobS
  rw [List.length_append, tagS_len]
  omega
theorem keepV_good {V : VaM} {s : SeM} (h : V.Good) (ho : s.Ok) : (keepV V s).Good := by
  unfold keepV
  split
  · exact h
  split
  · exact h
  split
  · exact h
  have h0 := h.n0
  have h1 := h.n1
  rename_i hm hn
  have := blobS_len' (i := V.i) (n := V.n + 1) ho (by unfold versB; rw [decide_eq_true_eq]; omega) (by simpa using hm)
  exact writeV_good h (by omega) (by omega)
theorem swapV_good {V : VaM} (h : V.Good) (k : Int) (l : List UInt8) : (swapV V k l).Good := by
  unfold swapV
  split
  · exact h
  · exact putV_good h k (by omega)
theorem armV_good {V : VaM} (h : V.Good) {n : Int} (hn : n ≤ 9223372036854775807) : (armV V n).Good := by
  refine ⟨h.i, h.n0, h.n1, ?_, ?_, h.l0, h.l1, h.lt, h.dt⟩
  · show -1 ≤ (if n < 0 then -1 else n)
    split <;> omega
  · show (if n < 0 then -1 else n) ≤ _
    split <;> omega
theorem tearL_len (t own : List UInt8) (m : Int) (h1 : t.length ≤ 1000) (h2 : own.length ≤ 1000) : (tearL t own m).length ≤ 1000 := by
  unfold tearL
  rw [List.length_append, List.length_drop, List.length_take]
  omega
theorem tearV_good {V : VaM} (h : V.Good) (m : Int) : (tearV V m).Good := by
  unfold tearV
  split
  · exact h
  · have h2 := putV_good h (placeV V) (tearL_len V.torn (slotV V (placeV V)) m h.lt (slotV_len h _))
    exact ⟨h2.i, h2.n0, h2.n1, h2.left0, h2.left1, h2.l0, h2.l1, Nat.zero_le _, fun _ => rfl⟩
theorem tearV_torn (V : VaM) (m : Int) : (tearV V m).torn = [] := by
  unfold tearV
  split
  · assumption
  · rfl
theorem crashV_good {V : VaM} (h : V.Good) (m : Int) : (crashV V m).Good := by
  have h2 := tearV_good h m
  exact ⟨h2.i, h2.n0, h2.n1, by show (-1 : Int) ≤ -1; decide, by show (-1 : Int) ≤ _; decide, h2.l0, h2.l1, h2.lt, fun _ => tearV_torn V m⟩
theorem dg_par (n : Nat) : ∃ c r, dg n = c :: r ∧ c.toNat % 2 = n % 2 := by
  by_cases h : n < 128
  · refine ⟨_, _, dg_small h, ?_⟩
    rw [UInt8.toNat_ofNat']
    omega
  · refine ⟨_, _, dg_big h, ?_⟩
    rw [UInt8.toNat_ofNat']
    omega
def Par (k : Int) (l : List UInt8) : Prop := ∀ c r, l = c :: r → (c.toNat : Int) % 2 = k % 2
theorem Par.nil (k : Int) : Par k [] := fun _ _ h => by cases h
theorem tagged_par {n : Int} {s : SeM} (t : List UInt8) (hn : 0 ≤ n) : Par n (taggedS n s ++ t) := by
  intro c r h
  obtain ⟨x, y, e, hp⟩ := dg_par n.toNat
  unfold taggedS at h
  rw [e] at h
  simp only [List.cons_append, List.cons.injEq] at h
  rw [← h.1]
  omega
theorem blob_par {i n : Int} {s : SeM} (hn : 0 ≤ n) : Par n (blobS i n s) := tagged_par _ hn
theorem hit_par {i n k : Int} {l : List UInt8} (hk : Par k l) (hne : n % 2 ≠ k % 2) : hitB i n l = false := by
  cases hh : hitB i n l with
  | false => rfl
  | true =>
    exfalso
    unfold hitB at hh
    simp only [Bool.and_eq_true, decide_eq_true_eq] at hh
    obtain ⟨h1, h2⟩ := hh
    unfold getB at h1 h2
    by_cases ht : textB l = true
    · rw [if_pos ht] at h1 h2
      by_cases hg : nodeB i = true ∧ (rawB l).2.2.1 = tagS i (rawB l).1 (rawB l).2.1
      · rw [if_pos hg] at h1 h2
        simp only at h2
        obtain ⟨e, _, _, _⟩ := textB_so ht
        have h0 := (rawB_le l).1
        obtain ⟨x, y, ed, hp⟩ := dg_par (rawB l).1.toNat
        have e2 := e
        unfold taggedS at e2
        rw [ed] at e2
        simp only [List.cons_append] at e2
        have := hk _ _ e2
        omega
      · rw [if_neg hg] at h1
        simp at h1
    · rw [if_neg ht] at h1
      simp at h1
theorem tear_par {k : Int} {t own : List UInt8} (m : Int) (h1 : Par k t) (h2 : Par k own) : Par k (tearL t own m) := by
  unfold tearL
  intro c r h
  rcases e : t.take m.toNat with _ | ⟨x, y⟩
  · rw [e] at h
    exact h2 c r h
  · rw [e] at h
    simp only [List.cons_append, List.cons.injEq] at h
    have := List.take_append_drop m.toNat t
    rw [e] at this
    rw [← h.1]
    exact h1 x _ this.symm
structure KeptV (V : VaM) (kept : SeM) : Prop where
  ok : kept.Ok
  zero : V.n = 0 → kept = seZ ∧ V.s0 = []
  own : 0 < V.n → mayS kept = true ∧ slotV V (V.n % 2) = blobS V.i V.n kept
  oth : Par (V.n + 1) (slotV V ((V.n + 1) % 2))
  torn : Par (V.n + 1) V.torn
theorem kept_new (i : Int) : KeptV (newV i 0) seZ := ⟨seZ_ok, fun _ => ⟨rfl, rfl⟩, fun h => absurd h (by show ¬ (0 : Int) < 0; decide), Par.nil _, Par.nil _⟩
theorem KeptV.armed {V : VaM} {s : SeM} (h : KeptV V s) (n : Int) : KeptV (armV V n) s := ⟨h.ok, h.zero, h.own, h.oth, h.torn⟩
theorem KeptV.stepped {V : VaM} {s : SeM} (h : KeptV V s) : KeptV (stepV V) s := by
  unfold stepV
  split
  · exact ⟨h.ok, h.zero, h.own, h.oth, h.torn⟩
  · split
    · exact h
    · exact ⟨h.ok, h.zero, h.own, h.oth, h.torn⟩
theorem slot_put_same (V : VaM) {k : Int} (hk : k = 0 ∨ k = 1) (l : List UInt8) : slotV (putV V k l) k = l := by
  rcases hk with rfl | rfl <;> rfl
theorem slot_put_other (V : VaM) {k j : Int} (hk : k = 0 ∨ k = 1) (hj : j = 0 ∨ j = 1) (hne : j ≠ k) (l : List UInt8) : slotV (putV V k l) j = slotV V j := by
  rcases hk with rfl | rfl <;> rcases hj with rfl | rfl
  · exact absurd rfl hne
  · rfl
  · rfl
  · exact absurd rfl hne
theorem KeptV.put {V : VaM} {s : SeM} (h : KeptV V s) {l : List UInt8} (hl : Par (V.n + 1) l) : KeptV (putV V (placeV V) l) s := by
  refine ⟨h.ok, fun hz => ?_, fun h0 => ?_, ?_, h.torn⟩
  · have hz' : V.n = 0 := hz
    refine ⟨(h.zero hz').1, ?_⟩
    show (if placeV V = 0 then l else V.s0) = []
    rw [if_neg (by unfold placeV; omega)]
    exact (h.zero hz').2
  · obtain ⟨a, b⟩ := h.own h0
    refine ⟨a, Eq.trans ?_ b⟩
    exact slot_put_other V (placeV_two V) (by show V.n % 2 = 0 ∨ V.n % 2 = 1; omega) (by show V.n % 2 ≠ (V.n + 1) % 2; omega) l
  · have : slotV (putV V (placeV V) l) ((V.n + 1) % 2) = l := slot_put_same V (placeV_two V) l
    show Par (V.n + 1) (slotV (putV V (placeV V) l) ((V.n + 1) % 2))
    rw [this]
    exact hl
theorem stepV_slot (V : VaM) (k : Int) : slotV (stepV V) k = slotV V k := by
  unfold stepV
  split
  · rfl
  · split <;> rfl
theorem stepV_n (V : VaM) : (stepV V).n = V.n := by
  unfold stepV
  split
  · rfl
  · split <;> rfl
theorem stepV_i (V : VaM) : (stepV V).i = V.i := by
  unfold stepV
  split
  · rfl
  · split <;> rfl
theorem stepV_torn (V : VaM) : (stepV V).torn = V.torn := by
  unfold stepV
  split
  · rfl
  · split <;> rfl
theorem KeptV.write {V : VaM} {kept s : SeM} (h : KeptV V kept) (g : V.Good) (ho : s.Ok) (hm : mayS s = true) (hd : V.dead = false) (hn : V.n < 1099511627776) :
    KeptV (writeV V (blobS V.i (V.n + 1) s)) (if writeE V = 0 then s else kept) := by
  have g0 := g.n0
  have hb : Par (V.n + 1) (blobS V.i (V.n + 1) s) := blob_par (by omega)
  have h1 := h.stepped
  have hpl : placeV (stepV V) = placeV V := by unfold placeV; rw [stepV_n]
  have h2 : KeptV (putV (stepV V) (placeV V) (blobS V.i (V.n + 1) s)) kept := by
    rw [← hpl]
    exact h1.put (by rw [stepV_n]; exact hb)
  have h3 := h2.stepped
  unfold writeV writeE
  by_cases e1 : stepB V = true
  · rw [if_pos e1, if_pos e1]
    by_cases e2 : stepB (stepV V) = true
    · rw [if_pos e2, if_pos e2, if_pos rfl]
      refine ⟨ho, fun e => ?_, fun _ => ⟨hm, ?_⟩, ?_, ?_⟩
      · have : V.n + 1 = 0 := e
        omega
      · show slotV (stepV (putV (stepV V) (placeV V) (blobS V.i (V.n + 1) s))) ((V.n + 1) % 2) = blobS (stepV (putV (stepV V) (placeV V) (blobS V.i (V.n + 1) s))).i (V.n + 1) s
        rw [stepV_slot, stepV_i]
        show _ = blobS (stepV V).i (V.n + 1) s
        rw [stepV_i]
        exact slot_put_same _ (placeV_two V) _
      · show Par (V.n + 1 + 1) (slotV (stepV (putV (stepV V) (placeV V) (blobS V.i (V.n + 1) s))) ((V.n + 1 + 1) % 2))
        rw [stepV_slot, slot_put_other _ (placeV_two V) (by omega) (by unfold placeV; omega), stepV_slot, show (V.n + 1 + 1) % 2 = V.n % 2 from by omega]
        by_cases hz : 0 < V.n
        · rw [(h.own hz).2]
          have := blob_par (i := V.i) (s := kept) g.n0
          intro c r e
          have := this c r e
          omega
        · have hz0 : V.n = 0 := by omega
          rw [hz0]
          show Par _ V.s0
          rw [(h.zero hz0).2]
          exact Par.nil _
      · show Par (V.n + 1 + 1) (stepV (putV (stepV V) (placeV V) (blobS V.i (V.n + 1) s))).torn
        rw [stepV_torn]
        show Par _ (stepV V).torn
        rw [stepV_torn, g.dt hd]
        exact Par.nil _
    · rw [if_neg e2, if_neg e2, if_neg (by decide)]
      exact h3
  · rw [if_neg e1, if_neg e1, if_neg (by decide)]
    refine ⟨h1.ok, h1.zero, h1.own, h1.oth, ?_⟩
    show Par ((stepV V).n + 1) (blobS V.i (V.n + 1) s)
    rw [stepV_n]
    exact hb
theorem KeptV.keep {V : VaM} {kept s : SeM} (h : KeptV V kept) (g : V.Good) (ho : s.Ok) : KeptV (keepV V s) (if keepE V s = 0 then s else kept) := by
  unfold keepV keepE
  by_cases h1 : V.dead = true
  · rw [if_pos h1, if_pos h1, if_neg (by decide)]
    exact h
  rw [if_neg h1, if_neg h1]
  by_cases h2 : mayS s = false
  · rw [if_pos h2, if_pos h2, if_neg (by decide)]
    exact h
  rw [if_neg h2, if_neg h2]
  by_cases h3 : V.n = 1099511627776
  · rw [if_pos h3, if_pos h3, if_neg (by decide)]
    exact h
  rw [if_neg h3, if_neg h3]
  have := g.n1
  exact h.write g ho (by simpa using h2) (by simpa using h1) (by omega)
theorem KeptV.tore {V : VaM} {kept : SeM} (h : KeptV V kept) (m : Int) : KeptV (tearV V m) kept := by
  unfold tearV
  split
  · exact h
  · have h2 := h.put (tear_par m h.torn h.oth)
    exact ⟨h2.ok, h2.zero, h2.own, h2.oth, Par.nil _⟩
theorem KeptV.crash {V : VaM} {kept : SeM} (h : KeptV V kept) (m : Int) : KeptV (crashV V m) kept := by
  have h2 := h.tore m
  exact ⟨h2.ok, h2.zero, h2.own, h2.oth, h2.torn⟩
theorem hit_back {i n : Int} {s : SeM} (ho : s.Ok) (hn : versB n = true) (hm : mayS s = true) (hi : nodeB i = true) : hitB i n (blobS i n s) = true := by
  unfold hitB
  rw [getB_back ho hn hm hi]
  simp
theorem KeptV.loads {V : VaM} {kept : SeM} (h : KeptV V kept) (g : V.Good) (hd : V.dead = false) : loadE V = 0 ∧ loadS V = kept := by
  have g0 := g.n0
  have g1 := g.n1
  have hd' : ¬ V.dead = true := by rw [hd]; decide
  unfold loadE loadS
  rw [if_neg hd', if_neg hd']
  by_cases hz : V.n = 0
  · rw [if_pos hz, if_pos hz]
    exact ⟨rfl, (h.zero hz).1.symm⟩
  rw [if_neg hz, if_neg hz]
  obtain ⟨hm, hs⟩ := h.own (by omega)
  have hv : versB V.n = true := by unfold versB; rw [decide_eq_true_eq]; omega
  have hb := hit_back (i := V.i) h.ok hv hm g.i
  have hgb := getB_back (i := V.i) h.ok hv hm g.i
  by_cases hp : V.n % 2 = 0
  · rw [hp] at hs
    have e : V.s0 = blobS V.i V.n kept := hs
    rw [e, if_pos hb, if_pos hb, hgb]
    exact ⟨rfl, rfl⟩
  · have hp1 : V.n % 2 = 1 := by omega
    rw [hp1] at hs
    have e : V.s1 = blobS V.i V.n kept := hs
    have ho := h.oth
    rw [show (V.n + 1) % 2 = 0 from by omega] at ho
    have hno : hitB V.i V.n V.s0 = false := hit_par ho (by omega)
    rw [hno, e]
    simp only [hb, hgb, Bool.false_eq_true, if_false, if_true]
    exact ⟨trivial, trivial⟩
theorem load_dead {V : VaM} (hd : V.dead = true) : loadE V = 6 ∧ loadS V = seZ := by
  unfold loadE loadS
  rw [if_pos hd, if_pos hd]
  exact ⟨rfl, rfl⟩
end Go.Proofs.YtghophbabbaleaaGreatDoor
