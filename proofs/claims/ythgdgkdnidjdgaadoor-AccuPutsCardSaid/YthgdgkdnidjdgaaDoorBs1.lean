/-
  Words Str Plain Append First Join Digits Put Reader Number TxPure TxBack BkPure AtPure: what each of them says stands at its head.
-/
import Derived.Test.YthgdgkdnidjdgaaDoorRows
import Derived.WalkKit
import Derived.WalkSpells
import Derived.Below
import Derived.OwnWalk
import Derived.Laws.OwnMore
import Derived.Laws.AppendOwnNone
import Derived.Maps.AppendAt
import Derived.Deep.AppendLies
import Derived.Deep.Draws
import Derived.ChangeKeysEq
import Derived.RegionTactic
import Derived.Deep.RegionLaw
import Derived.LoopTactic
import Derived.Outline
import Derived.Laws.BitsAllLaws
import Derived.Laws.Bits64
import Derived.WalkLawsBesides
import Derived.Deep.QuietTactic
import Derived.BigQuiet
import Derived.LaidEqlPtr
/-
  What is said of bytes in memory: a slice that reads as bytes, a row of the call's own that holds bytes. Plain lemmas; no function of the program.
-/
namespace Go.Proofs.YthgdgkdnidjdgaaDoor
set_option maxRecDepth 20000
open Go.RowKit

theorem hid {p : Prop} (h : p) : Hid p := h

/-- A byte's cell. -/
def bcell (c : UInt8) : Value := .int .u8 (c.toNat : Int)
/-- Bytes as cells. -/
def bcells (l : List UInt8) : List Value := l.map bcell

theorem bcells_length (l : List UInt8) : (bcells l).length = l.length := by simp [bcells]
theorem bcells_append (l m : List UInt8) : bcells (l ++ m) = bcells l ++ bcells m := by simp [bcells]
theorem bcells_one (l : List UInt8) : ∀ u ∈ bcells l, u.oneCell' = true := by
  intro u hu
  obtain ⟨c, _, rfl⟩ := List.mem_map.1 hu
  rfl
theorem bcells_get (l : List UInt8) (j : Nat) (u : Value) (h : (bcells l)[j]? = some u) : ∃ hj : j < l.length, u = bcell l[j] := by
  have hj : j < l.length := by
    have := (List.getElem?_eq_some_iff.1 h).1
    simpa [bcells] using this
  refine ⟨hj, ?_⟩
  simp [bcells, hj] at h
  exact h.symm
theorem byte_lt (c : UInt8) : (0 : Int) ≤ (c.toNat : Int) ∧ (c.toNat : Int) ≤ 255 := by
  have := c.toNat_lt
  omega

/-- From address A on the bytes l lie. -/
def RdB (w : World) (A : Option Addr) (l : List UInt8) : Prop :=
  0 < l.length → ∃ b off, A = some ⟨b, off, none⟩ ∧ b < w.heap.size ∧ ∀ j (h : j < l.length), w.cell? ⟨b, off + j, none⟩ = some (bcell l[j])

/-- The value is a slice that reads as the bytes l. -/
def Byt (w : World) (v : Value) (l : List UInt8) : Prop := ∃ A c, v = .slice A l.length c ∧ l.length ≤ c ∧ c ≤ maxLen ∧ RdB w A l

/-- The value is a slice of the call's own, from block B on, that holds the bytes l. -/
def Own (B : Nat) (w : World) (v : Value) (l : List UInt8) : Prop := w.ownsRow B 5 1 v l.length (bcells l)

section
variable {w w' : World} {A : Option Addr} {v : Value} {l : List UInt8} {B : Nat}

theorem RdB.nil (w : World) (A : Option Addr) : RdB w A [] := fun h => absurd h (by simp)
theorem RdB.keep (h : RdB w A l) (hs : w.heap.size ≤ w'.heap.size) (hk : ∀ b off, A = some ⟨b, off, none⟩ → b < w.heap.size → w'.heap[b]? = w.heap[b]?) : RdB w' A l := fun hl => by
  obtain ⟨b, off, e, hb, hc⟩ := h hl
  exact ⟨b, off, e, by omega, fun j hj => (World.cell?_of_block (hk b off e hb)).trans (hc j hj)⟩
theorem RdB.below (h : RdB w A l) (hb : Below w.heap.size w w') : RdB w' A l := h.keep hb.size fun b _ _ hlt => hb.block b hlt
theorem Byt.keep (h : Byt w v l) (hs : w.heap.size ≤ w'.heap.size) (hk : ∀ b, b < w.heap.size → v.ownBlock = some b → w'.heap[b]? = w.heap[b]?) : Byt w' v l := by
  obtain ⟨A, c, rfl, h1, h2, h3⟩ := h
  exact ⟨A, c, rfl, h1, h2, h3.keep hs fun b off e hlt => hk b hlt (by subst e; rfl)⟩
theorem Byt.below (h : Byt w v l) (hb : Below w.heap.size w w') : Byt w' v l := h.keep hb.size fun b hlt _ => hb.block b hlt
theorem Byt.nil (w : World) : Byt w (.slice none 0 0) [] := ⟨none, 0, rfl, Nat.le_refl _, Nat.zero_le _, RdB.nil _ _⟩
theorem Byt.len (h : Byt w v l) : l.length ≤ maxLen := by
  obtain ⟨_, _, _, h1, h2, _⟩ := h
  omega
theorem Own.nil (B : Nat) (w : World) : Own B w (.slice none 0 0) [] := World.ownsRow_nil _ _ _ _
theorem Own.byt (h : Own B w v l) : Byt w v l := by
  rcases h.2 with ⟨rfl, h0⟩ | ⟨g, cap, cur, rfl, _, hh, hn, hm, hs, ht⟩
  · have : l = [] := List.eq_nil_of_length_eq_zero h0
    subst this
    exact Byt.nil w
  · refine ⟨_, cap, rfl, hn, hm, fun _ => ⟨g, 0, rfl, lt_of_block hh, fun j hj => ?_⟩⟩
    rw [Nat.zero_add, World.ownsRow.cellAt h j (by omega)]
    simp [bcells, hj]
theorem Own.more (h : Own B w v l) {B' : Nat} (hB : B' ≤ B) : Own B' w v l := by
  refine ⟨h.1, ?_⟩
  rcases h.2 with h0 | ⟨g, cap, cur, e, hg, r⟩
  · exact .inl h0
  · exact .inr ⟨g, cap, cur, e, by omega, r⟩
theorem Own.keep (h : Own B w v l) (hk : ∀ b, b < w.heap.size → v.ownBlock = some b → w'.heap[b]? = w.heap[b]?) : Own B w' v l := by
  refine ⟨h.1, ?_⟩
  rcases h.2 with h0 | ⟨g, cap, cur, rfl, hg, hh, r⟩
  · exact .inl h0
  · exact .inr ⟨g, cap, cur, rfl, hg, (hk g (lt_of_block hh) rfl).trans hh, r⟩
theorem Own.below (h : Own B w v l) (hb : Below w.heap.size w w') : Own B w' v l := h.keep fun b hlt _ => hb.block b hlt
end

theorem Byt.shape {w : World} {v : Value} {l : List UInt8} (h : Byt w v l) : ∃ A c, v = .slice A l.length c := by
  obtain ⟨A, c, e, _⟩ := h
  exact ⟨A, c, e⟩

theorem Byt.at_ {w : World} {A : Option Addr} {n c : Nat} {l : List UInt8} (h : Byt w (.slice A n c) l) : n = l.length ∧ l.length ≤ c ∧ c ≤ maxLen ∧ RdB w A l := by
  obtain ⟨A', c', e, h1, h2, h3⟩ := h
  injection e with e1 e2 e3
  subst e1 e2 e3
  exact ⟨rfl, h1, h2, h3⟩

theorem Byt.alloc {w : World} {v : Value} {l : List UInt8} (h : Byt w v l) (o : Obj) : Byt (w.alloc o) v l := h.below ((Below.refl _ _).alloc (Nat.le_refl _) o)

theorem Byt.drewN {w : World} {v : Value} {l : List UInt8} (h : Byt w v l) (n : Nat) : Byt (w.drewN n) v l := h

theorem below_drewN {B : Nat} {a w : World} (h : Below B a w) (n : Nat) : Below B a (w.drewN n) := ⟨h.os, h.tape, h.output, h.size, h.block⟩

end Go.Proofs.YthgdgkdnidjdgaaDoor

/-
  Texts as values: a string's bytes as a list. No function of the program.
-/
namespace Go.Proofs.YthgdgkdnidjdgaaDoor
set_option maxRecDepth 20000
open Go.RowKit

/-- The string of bytes, and a string's bytes. -/
def sb (l : List UInt8) : ByteArray := ⟨l.toArray⟩
def bs (s : ByteArray) : List UInt8 := s.data.toList
theorem sb_bs (s : ByteArray) : sb (bs s) = s := by unfold sb bs; rw [Array.toArray_toList]
theorem bs_sb (l : List UInt8) : bs (sb l) = l := rfl
theorem sb_size (l : List UInt8) : (sb l).size = l.length := by simp [sb, ByteArray.size]
theorem sb_inj {l m : List UInt8} (h : sb l = sb m) : l = m := by rw [← bs_sb l, h, bs_sb]
theorem sb_get (l : List UInt8) (j : Nat) (hj : j < l.length) : (sb l)[j]? = some (l.getD j 0) := by
  have hj2 : j < (sb l).size := by rw [sb_size]; exact hj
  simp [hj2, List.getD_eq_getElem?_getD, hj]
  rfl
theorem sb_toList (l : List UInt8) : (sb l).toList = l := by rw [ByteArray.toList_eq]; rfl
theorem sb_empty (l : List UInt8) : (sb l).toList.isEmpty = decide (l = []) := by
  rw [sb_toList]
  cases l <;> simp
theorem under_string : Tryd.prog.underlying 9 = some .string := by kernel_rfl
/-- A text's byte. -/
theorem str_index (l : List UInt8) (j : Nat) (hj : j < l.length) (i : Int) (hi : i = (j : Int)) {y : Int} (hy : ((l.getD j 0).toNat : Int) = y) (w : World) : (Instr.index 9 (.string (sb l)) (.int .i64 i)).run Tryd.prog w = .ok (.int .u8 y) w := by
  subst hi hy
  have e2 : 0 ≤ (j : Int) := by omega
  simp only [Instr.index, asIntOf, Sem.run_bind, run_underlying under_string, Sem.run_pure, Result.andThen_ok, e2, ↓reduceIte, Int.toNat_natCast, sb_get l j hj]
end Go.Proofs.YthgdgkdnidjdgaaDoor

/-
  The bytes of numbers and texts, as plain functions on lists. No function of the program.
-/
namespace Go.Proofs.YthgdgkdnidjdgaaDoor
set_option maxRecDepth 20000

/-- A number's bytes. -/
def dg (n : Nat) : List UInt8 := if n < 128 then [UInt8.ofNat n] else UInt8.ofNat (128 + n % 128) :: dg (n / 128)
termination_by n
decreasing_by omega

theorem dg_small {n : Nat} (h : n < 128) : dg n = [UInt8.ofNat n] := by rw [dg, if_pos h]
theorem dg_big {n : Nat} (h : ¬ n < 128) : dg n = UInt8.ofNat (128 + n % 128) :: dg (n / 128) := by rw [dg, if_neg h]
theorem dg_len (k : Nat) : ∀ n, n < 128 ^ (k + 1) → (dg n).length ≤ k + 1 := by
  induction k with
  | zero =>
    intro n h
    rw [dg_small (by simpa using h)]
    simp
  | succ k ih =>
    intro n h
    by_cases h1 : n < 128
    · rw [dg_small h1]; simp
    · rw [dg_big h1]
      have := ih (n / 128) (by rw [Nat.pow_succ] at h; exact Nat.div_lt_of_lt_mul (by rw [Nat.mul_comm]; exact h))
      simp
      omega
theorem dg_len10 {n : Nat} (h : n < 18446744073709551616) : (dg n).length ≤ 10 := dg_len 9 n (by omega)
theorem dg_pos (n : Nat) : 0 < (dg n).length := by
  by_cases h : n < 128
  · rw [dg_small h]; simp
  · rw [dg_big h]; simp

/-- The bytes of a number, one by one. -/
theorem dg_get (n : Nat) : ∀ j (h : j < (dg n).length),
    (j + 1 < (dg n).length → ((dg n)[j]).toNat = 128 + n / 128 ^ j % 128) ∧ (j + 1 = (dg n).length → ((dg n)[j]).toNat = n / 128 ^ j ∧ n / 128 ^ j < 128 ∧ (0 < j → 0 < n / 128 ^ j)) := by
  induction n using Nat.strongRecOn with
  | _ n ih =>
    intro j h
    by_cases hn : n < 128
    · have hl : (dg n).length = 1 := by rw [dg_small hn]; rfl
      obtain rfl : j = 0 := by omega
      refine ⟨fun h1 => by omega, fun _ => ?_⟩
      have e : (dg n)[0] = UInt8.ofNat n := by simp [dg_small hn]
      rw [e, UInt8.toNat_ofNat']
      simp
      omega
    · have hl : (dg n).length = (dg (n / 128)).length + 1 := by rw [dg_big hn]; rfl
      have hp := dg_pos (n / 128)
      rcases j with _ | j
      · refine ⟨fun _ => ?_, fun h1 => by omega⟩
        have e : (dg n)[0] = UInt8.ofNat (128 + n % 128) := by simp [dg_big hn]
        rw [e, UInt8.toNat_ofNat']
        simp
        omega
      · have e : (dg n)[j + 1] = (dg (n / 128))[j]'(by omega) := by simp [dg_big hn]
        have := ih (n / 128) (by omega) j (by omega)
        have hq : n / 128 ^ (j + 1) = n / 128 / 128 ^ j := by rw [Nat.pow_succ, Nat.mul_comm, Nat.div_div_eq_div_mul]
        rw [e, hq]
        refine ⟨fun h1 => this.1 (by omega), fun h1 => ?_⟩
        obtain ⟨a, b, c⟩ := this.2 (by omega)
        refine ⟨a, b, fun _ => ?_⟩
        rcases Nat.eq_zero_or_pos j with h0 | h0
        · subst h0
          simp
          omega
        · exact c h0

/-- What the lowest i digits make. -/
def low (n i : Nat) : Nat := n % 128 ^ i
theorem low_zero (n : Nat) : low n 0 = 0 := by simp [low, Nat.mod_one]
theorem low_lt (n i : Nat) : low n i < 128 ^ i := Nat.mod_lt _ (Nat.pow_pos (by omega))
theorem low_succ (n i : Nat) : low n (i + 1) = low n i + (n / 128 ^ i % 128) * 128 ^ i := by
  unfold low
  rw [Nat.pow_succ, Nat.mod_mul, Nat.mul_comm]
theorem low_all (n i : Nat) (h : n < 128 ^ i) : low n i = n := Nat.mod_eq_of_lt h

/-- What bytes make that are digits, the lowest first. -/
def val : List UInt8 → Nat
  | [] => 0
  | c :: l => c.toNat % 128 + 128 * val l
theorem val_lt (l : List UInt8) : val l < 128 ^ l.length := by
  induction l with
  | nil => simp [val]
  | cons c l ih =>
    simp only [val, List.length_cons, Nat.pow_succ]
    have := Nat.mod_lt c.toNat (show 128 > 0 by omega)
    omega
theorem val_snoc (l : List UInt8) (c : UInt8) : val (l ++ [c]) = val l + c.toNat % 128 * 128 ^ l.length := by
  induction l with
  | nil => simp [val]
  | cons x l ih =>
    simp only [List.cons_append, val, ih, List.length_cons, Nat.pow_succ]
    rw [Nat.mul_add, ← Nat.mul_assoc, Nat.mul_comm 128 (c.toNat % 128), Nat.mul_assoc, Nat.mul_comm 128 (128 ^ l.length)]
    omega
/-- Up to ten bytes, the tenth at most 1, make no more than 64 bits. -/
theorem val_64 (l : List UInt8) (c : UInt8) (hl : l.length ≤ 9) (hc : c.toNat < 128) (h9 : l.length = 9 → c.toNat ≤ 1) : val (l ++ [c]) < 18446744073709551616 := by
  rw [val_snoc]
  have h := val_lt l
  have e9 : (128 : Nat) ^ 9 = 9223372036854775808 := by decide
  by_cases h8 : l.length = 9
  · have := h9 h8
    rw [h8, e9] at h
    rw [h8, e9, Nat.mod_eq_of_lt hc]
    omega
  · have hp : (128 : Nat) ^ l.length ≤ 128 ^ 8 := Nat.pow_le_pow_right (by omega) (by omega)
    have e8 : (128 : Nat) ^ 8 = 72057594037927936 := by decide
    rw [e8] at hp
    have : c.toNat % 128 * 128 ^ l.length ≤ 127 * 72057594037927936 := Nat.mul_le_mul (by omega) hp
    omega
/-- Bytes that are all great but the last one, which is not nought if others are ahead, are their number's bytes. -/
theorem dg_val (l : List UInt8) (c : UInt8) (h : ∀ x ∈ l, 128 ≤ x.toNat) (hc : c.toNat < 128) (h0 : l ≠ [] → 0 < c.toNat) : dg (val (l ++ [c])) = l ++ [c] ∧ (l ≠ [] → 0 < val (l ++ [c])) := by
  induction l with
  | nil =>
    refine ⟨?_, fun h => absurd rfl h⟩
    simp only [List.nil_append, val]
    rw [dg_small (by omega)]
    congr 1
    apply UInt8.toNat_inj.1
    rw [UInt8.toNat_ofNat']
    omega
  | cons x l ih =>
    have hx := h x (by simp)
    have hxl := x.toNat_lt
    have hv : 0 < val (l ++ [c]) := by
      rcases l with _ | ⟨y, l⟩
      · have := h0 (by simp)
        simp only [List.nil_append, val]
        omega
      · exact (ih (fun z hz => h z (List.mem_cons_of_mem _ hz)) (fun _ => h0 (by simp))).2 (by simp)
    have := (ih (fun z hz => h z (List.mem_cons_of_mem _ hz)) (fun _ => h0 (by simp))).1
    simp only [List.cons_append, val]
    refine ⟨?_, fun _ => by omega⟩
    rw [dg_big (by omega), show (x.toNat % 128 + 128 * val (l ++ [c])) / 128 = val (l ++ [c]) from by omega, this]
    congr 1
    apply UInt8.toNat_inj.1
    rw [UInt8.toNat_ofNat']
    omega

/-- A text's bytes. -/
def tx (t : List UInt8) : List UInt8 := dg t.length ++ t

/-- Which number bytes begin with, as they are written, whether or not in the shortest way. -/
def raw : List UInt8 → Option Nat
  | [] => none
  | c :: l => if c.toNat < 128 then some c.toNat else (raw l).map fun n => c.toNat % 128 + 128 * n
theorem raw_dg (n : Nat) : ∀ t, raw (dg n ++ t) = some n := by
  induction n using Nat.strongRecOn with
  | _ n ih =>
    intro t
    by_cases hn : n < 128
    · have e : (UInt8.ofNat n).toNat = n := by rw [UInt8.toNat_ofNat']; omega
      simp [dg_small hn, raw, e, hn]
    · have e : (UInt8.ofNat (128 + n % 128)).toNat = 128 + n % 128 := by rw [UInt8.toNat_ofNat']; omega
      rw [dg_big hn, List.cons_append]
      simp only [raw, e]
      rw [if_neg (by omega), ih (n / 128) (by omega) t]
      simp
      omega
/-- Which number bytes begin with: none, if they begin with no number's bytes. -/
def frst (l : List UInt8) : Option Nat :=
  match raw l with
  | some n => if n < 18446744073709551616 ∧ (dg n).isPrefixOf l = true then some n else none
  | none => none
theorem frst_some {l : List UInt8} {n : Nat} (h : frst l = some n) : n < 18446744073709551616 ∧ dg n <+: l := by
  unfold frst at h
  split at h
  · split at h
    · injection h with h
      subst h
      rename_i hh
      exact ⟨hh.1, List.isPrefixOf_iff_prefix.1 hh.2⟩
    · cases h
  · cases h
theorem frst_eq {l : List UInt8} {n : Nat} (hn : n < 18446744073709551616) (h : dg n <+: l) : frst l = some n := by
  obtain ⟨t, rfl⟩ := h
  unfold frst
  rw [raw_dg]
  simp only
  rw [if_pos ⟨hn, List.isPrefixOf_iff_prefix.2 (List.prefix_append _ _)⟩]
theorem frst_none {l : List UInt8} (h : frst l = none) : ∀ n, n < 18446744073709551616 → ¬ dg n <+: l := fun n hn hp => by
  rw [frst_eq hn hp] at h
  cases h

/-- A reader of bytes l at place p, right or not: what it reads of a number that is most at most, and where it is then. -/
def rdNum (most : Nat) (l : List UInt8) (p : Nat) (r : Bool) : Nat × Nat × Bool :=
  if r = false then (0, p, false) else
    match frst (l.drop p) with
    | some n => if n ≤ most then (n, p + (dg n).length, true) else (0, p, false)
    | none => (0, p, false)
/-- .. of a text. -/
def rdText (l : List UInt8) (p : Nat) (r : Bool) : List UInt8 × Nat × Bool :=
  if r = false then ([], p, false) else
    match frst (l.drop p) with
    | some n => if n ≤ 65536 ∧ p + (dg n).length + n ≤ l.length then ((l.drop (p + (dg n).length)).take n, p + (dg n).length + n, true) else ([], p, false)
    | none => ([], p, false)
/-- .. of a hash. -/
def rdHash (l : List UInt8) (p : Nat) (r : Bool) : List UInt8 × Nat × Bool :=
  if r = false then (List.replicate 32 0, p, false) else
    if p + 32 ≤ l.length then ((l.drop p).take 32, p + 32, true) else (List.replicate 32 0, p, false)
theorem rdNum_bad (most : Nat) (l : List UInt8) (p : Nat) : rdNum most l p false = (0, p, false) := by simp [rdNum]
theorem rdNum_yes {most : Nat} {l : List UInt8} {p n : Nat} (h : frst (l.drop p) = some n) (hm : n ≤ most) : rdNum most l p true = (n, p + (dg n).length, true) := by simp [rdNum, h, hm]
theorem rdNum_big {most : Nat} {l : List UInt8} {p n : Nat} (h : frst (l.drop p) = some n) (hm : ¬ n ≤ most) : rdNum most l p true = (0, p, false) := by simp [rdNum, h, hm]
theorem rdNum_no {most : Nat} {l : List UInt8} {p : Nat} (h : frst (l.drop p) = none) : rdNum most l p true = (0, p, false) := by simp [rdNum, h]
theorem rdText_bad (l : List UInt8) (p : Nat) : rdText l p false = ([], p, false) := by simp [rdText]
theorem rdText_yes {l : List UInt8} {p n : Nat} (h : frst (l.drop p) = some n) (hm : n ≤ 65536) (hl : p + (dg n).length + n ≤ l.length) :
    rdText l p true = ((l.drop (p + (dg n).length)).take n, p + (dg n).length + n, true) := by simp only [rdText, h]; rw [if_neg (by simp), if_pos ⟨hm, hl⟩]
theorem rdText_big {l : List UInt8} {p n : Nat} (h : frst (l.drop p) = some n) (hm : ¬ (n ≤ 65536 ∧ p + (dg n).length + n ≤ l.length)) : rdText l p true = ([], p, false) := by simp only [rdText, h]; rw [if_neg (by simp), if_neg hm]
theorem rdText_no {l : List UInt8} {p : Nat} (h : frst (l.drop p) = none) : rdText l p true = ([], p, false) := by simp [rdText, h]

/-! What was put is read. -/
theorem drop_more {L a r : List UInt8} {p : Nat} (h : L.drop p = a ++ r) : L.drop (p + a.length) = r := by
  rw [← List.drop_drop, h, List.drop_left]
theorem drop_len {L a r : List UInt8} {p : Nat} (h : L.drop p = a ++ r) (ha : 0 < a.length) : p + a.length + r.length = L.length := by
  have := congrArg List.length h
  simp at this
  omega
theorem rdNum_at {L r : List UInt8} {p n : Nat} (h : L.drop p = dg n ++ r) (hn : n < 18446744073709551616) : rdNum 18446744073709551615 L p true = (n, p + (dg n).length, true) :=
  rdNum_yes (frst_eq hn (by rw [h]; exact List.prefix_append _ _)) (by omega)
theorem tx_len (t : List UInt8) : (tx t).length = (dg t.length).length + t.length := by simp [tx]
theorem rdText_at {L r t : List UInt8} {p : Nat} (h : L.drop p = tx t ++ r) (ht : t.length ≤ 65536) : rdText L p true = (t, p + (tx t).length, true) := by
  have h1 : L.drop p = dg t.length ++ (t ++ r) := by rw [h]; simp [tx]
  have h2 := drop_more h1
  have h3 := drop_len h1 (dg_pos _)
  simp at h3
  rw [rdText_yes (frst_eq (by omega) (by rw [h1]; exact List.prefix_append _ _)) ht (by omega), h2, List.take_left, tx_len, Nat.add_assoc]
theorem rdHash_at {L r hh : List UInt8} {p : Nat} (h : L.drop p = hh ++ r) (hl : hh.length = 32) : rdHash L p true = (hh, p + 32, true) := by
  have h3 := drop_len h (by omega)
  unfold rdHash
  rw [if_neg (by simp), if_pos (by omega), h, List.take_left' hl]
end Go.Proofs.YthgdgkdnidjdgaaDoor

/-
  An append of bytes onto a row of the call's own, whatever the source: as a law for the walk. And make of bytes.
-/
namespace Go.Proofs.YthgdgkdnidjdgaaDoor
set_option maxRecDepth 20000
open Go.RowKit

theorem info_u8 : (Tryd.prog.info? 5).map (fun i => (i.zero, i.size, i.bytes)) = some (some (.int .u8 0), 1, 1) := by kernel_rfl
theorem under_bytes : Tryd.prog.underlying 40 = some (.slice 5) := by kernel_rfl

theorem addr_add (b off j : Nat) : (⟨b, off, none⟩ : Addr).add j = ⟨b, off + j, none⟩ := by
  unfold Addr.add
  split <;> simp_all


theorem run_append_byt {w : World} {B : Nat} {v x : Value} {l m : List UInt8} (ty : TypeId) (hv : Own B w v l) (hx : Byt w x m) (hs : l.length + m.length ≤ 140737488355328) (hB : B ≤ w.heap.size) :
    ∃ v' w', (Builtin.append_ #[40, 40] ty #[v, x]).run Tryd.prog w = .ok v' w' ∧ Own B w' v' (l ++ m) ∧ w.grownBy w' v.ownBlock ∧ (v'.ownBlock = v.ownBlock ∨ v'.ownBlock = some w.heap.size) := by
  obtain ⟨i0, hi, hz0, hz1, hz2⟩ := info_parts info_u8
  obtain ⟨A, c, rfl, hmc, hcm, hr⟩ := hx
  have hlm : (l ++ m).length = l.length + m.length := by simp
  rcases A with _ | ad
  · have h0 : m = [] := by
      rcases m with _ | ⟨x, m⟩
      · rfl
      · obtain ⟨_, _, h, _⟩ := hr (by simp)
        cases h
    subst h0
    refine ⟨v, w, ?_, by rw [List.append_nil]; exact hv, World.grownBy.refl w _, .inl rfl⟩
    rcases hv.2 with ⟨rfl, h0⟩ | ⟨g, cap, cur, rfl, _, _, hnc, _⟩
    · simp [Builtin.append_, run_underlying under_bytes, sizeOf, typeInfo, hi, Builtin.lenOf, Builtin.firstCells]
    · simp [Builtin.append_, run_underlying under_bytes, sizeOf, typeInfo, hi, Builtin.lenOf, Builtin.firstCells, hnc, storeCells]
  · have hcells : ∀ j u, (bcells m)[j]? = some u → w.cell? (ad.add j) = some u := by
      intro j u hu
      obtain ⟨hj, rfl⟩ := bcells_get m j u hu
      obtain ⟨b, off, e, _, hc⟩ := hr (by omega)
      injection e with e
      subst e
      rw [addr_add]
      exact hc j hj
    obtain ⟨v', w', hrun, h2, h3, _, h5⟩ := run_append_own_at (P := Tryd.prog) w B 40 ty 5 i0 (.int .u8 0) 1 1 under_bytes hi hz0 hz1 hz2 rfl (by omega) v l.length (bcells l) hv ad m.length c (bcells m) (by simp [bcells]) hcells (bcells_one m) (by unfold maxLen; omega) (by omega) hB
    refine ⟨v', w', hrun, ?_, h3, h5⟩
    unfold Own
    rw [hlm, bcells_append]
    exact h2

theorem wp_append_byt {o : Oper} {a : Act} {K : Act → World → Prop} {Q : Exit → Act → World → Prop} {w : World} (s y : Operand)
    (ho : o.op = .call { callee := .builtin .append, args := #[s, y], argTypes := #[40, 40] })
    {B : Nat} {v x : Value} {l m : List UInt8} (hes : a.eval s = v) (hey : a.eval y = x) (hv : Own B w v l) (hx : Byt w x m) (hs : l.length + m.length ≤ 140737488355328) (hB : B ≤ w.heap.size)
    (h : ∀ v' w', Own B w' v' (l ++ m) → w.grownBy w' v.ownBlock → (v'.ownBlock = v.ownBlock ∨ v'.ownBlock = some w.heap.size) → K (a.put o.dst v') w') : o.wp Tryd.prog a w K Q := by
  obtain ⟨v', w', hrun, h2, h3, h4⟩ := run_append_byt o.type hv hx hs hB
  unfold Oper.wp execOp
  simp only [ho, resolve, invoke, builtin, Sem.run_bind, Sem.run_pure, Result.andThen_ok, List.map_toArray, List.map_cons, List.map_nil, hes, hey, hrun]
  exact h v' w' h2 h3 h4

theorem wpList_append_byt {ops : Array Oper} {rest : List Oper} {o : Oper} {a : Act} {Q : Exit → Act → World → Prop} {w : World} (hgd : o.guard = none) (s y : Operand)
    (ho : o.op = .call { callee := .builtin .append, args := #[s, y], argTypes := #[40, 40] })
    {B : Nat} {v x : Value} {l m : List UInt8} (hes : a.eval s = v) (hey : a.eval y = x) (hv : Own B w v l) (hx : Byt w x m) (hs : l.length + m.length ≤ 140737488355328) (hB : B ≤ w.heap.size)
    (h : ∀ v' w', Own B w' v' (l ++ m) → w.grownBy w' v.ownBlock → (v'.ownBlock = v.ownBlock ∨ v'.ownBlock = some w.heap.size) → wpList Tryd.prog ops Q rest (a.put o.dst v') w') :
    wpList Tryd.prog ops Q (o :: rest) a w :=
  wpList_plain hgd fun _ hK => wp_append_byt s y ho hes hey hv hx hs hB fun v' w' h2 h3 h4 => hK _ _ (h v' w' h2 h3 h4)

theorem step_append_byt {ops : Array Oper} {o : Oper} {a : Act} {K : Act → World → Prop} {Q : Exit → Act → World → Prop} {E : Prop} {w : World} (hgd : o.guard = none) (s y : Operand)
    (ho : o.op = .call { callee := .builtin .append, args := #[s, y], argTypes := #[40, 40] })
    {B : Nat} {v x : Value} {l m : List UInt8} (hes : a.eval s = v) (hey : a.eval y = x) (hv : Own B w v l) (hx : Byt w x m) (hs : l.length + m.length ≤ 140737488355328) (hB : B ≤ w.heap.size)
    (h : ∀ v' w', Own B w' v' (l ++ m) → w.grownBy w' v.ownBlock → (v'.ownBlock = v.ownBlock ∨ v'.ownBlock = some w.heap.size) → K (a.put o.dst v') w') :
    if Region.wanted o (yielded ops a.tmps) = true then Oper.wp Tryd.prog o a w K Q else E := by
  have hw : Region.wanted o (yielded ops a.tmps) = true := by simp [Region.wanted, hgd]
  rw [if_pos hw]
  exact wp_append_byt s y ho hes hey hv hx hs hB h

/-- One byte in a block of its own, as 'append(out, x)' lays it. -/
theorem byt_one (w : World) (x : Int) (c : UInt8) (hx : x = (c.toNat : Int)) : Byt (w.alloc (.cells #[.int .u8 x] 5)) (.slice (some ⟨w.heap.size, 0, none⟩) 1 1) [c] := by
  subst hx
  refine ⟨_, 1, rfl, Nat.le_refl _, by unfold maxLen; omega, fun _ => ⟨w.heap.size, 0, rfl, by simp, fun j hj => ?_⟩⟩
  obtain rfl : j = 0 := by simpa using hj
  have := cell_one_new w (.int .u8 (c.toNat : Int)) 5 0 _ rfl
  rw [addr_add] at this
  exact this

theorem Own.alloc {w : World} {B : Nat} {v : Value} {l : List UInt8} (h : Own B w v l) (o : Obj) : Own B (w.alloc o) v l := World.ownsRow.alloc h o
theorem Own.drewN {w : World} {B : Nat} {v : Value} {l : List UInt8} (h : Own B w v l) (n : Nat) : Own B (w.drewN n) v l := h
theorem Own.grows {w w' : World} {B : Nat} {v v' : Value} {l : List UInt8} {w0 : World} (h : Own B w v l) (hb : Below B w0 w) (hB : B ≤ w.heap.size) (hg : w.grownBy w' v'.ownBlock) (hv : v'.ownBlock = v.ownBlock) : Below B w0 w' :=
  hb.grown hg hB fun k hk => (World.ownsRow.lt h k (by rw [← hv]; exact hk)).1
end Go.Proofs.YthgdgkdnidjdgaaDoor

/-
  octet.first finds the number that bytes begin with, and how many bytes it has; or none.
-/
namespace Go.Proofs.YthgdgkdnidjdgaaDoor
set_option maxRecDepth 20000
open Go.RowKit

theorem and127 (x : Int) (h0 : 0 ≤ x) (h1 : x ≤ 255) : bits BinOp.and IntKind.u8 x 127 = x % 128 := by
  obtain ⟨n, rfl⟩ := Int.eq_ofNat_of_zero_le h0
  have h : ∀ n : Fin 256, bits BinOp.and IntKind.u8 ((n.val : Nat) : Int) 127 = ((n.val : Nat) : Int) % 128 := by decide +kernel
  exact h ⟨n, by omega⟩
theorem wrap_u64 (x : Int) (h0 : 0 ≤ x) (h1 : x < 18446744073709551616) : IntKind.u64.wrap x = x := by
  simp [IntKind.wrap, IntKind.signed, IntKind.bits]
  omega
theorem pow7 (i : Nat) : 128 ^ i = 2 ^ (7 * i) := by rw [Nat.pow_mul]
/-- One digit more. -/
theorem or_step (n i : Nat) (x : Int) (hn : n < 18446744073709551616) (h0 : 0 ≤ x) (h1 : x ≤ 255) (hx : x % 128 = ((n / 128 ^ i % 128 : Nat) : Int)) :
    bits BinOp.or IntKind.u64 (low n i : Int) (IntKind.u64.wrap (IntKind.u64.wrap (bits BinOp.and IntKind.u8 x 127) * 2 ^ (7 * i))) = (low n (i + 1) : Int) := by
  have hd : n / 128 ^ i % 128 < 128 := Nat.mod_lt _ (by omega)
  have hle : low n i + n / 128 ^ i % 128 * 128 ^ i ≤ n := by
    rw [← low_succ]
    exact Nat.mod_le _ _
  rw [and127 x h0 h1, hx, wrap_u64 ((n / 128 ^ i % 128 : Nat) : Int) (by omega) (by omega), low_succ]
  generalize n / 128 ^ i % 128 = d at *
  have e : (d : Int) * 2 ^ (7 * i) = ((d * 128 ^ i : Nat) : Int) := by rw [pow7]; simp
  rw [e, wrap_u64 _ (by omega) (by omega), u64_or_nat _ _ (by omega) (by omega)]
  congr 1
  have hl := low_lt n i
  rw [pow7] at hl ⊢
  rw [Nat.or_comm, Nat.mul_comm, ← Nat.two_pow_add_eq_or_of_lt hl, Nat.add_comm]

theorem ret2_eq {a b c d : Int} (h1 : a = b) (h2 : c = d) : Ending.returned (.tuple #[.int .u64 a, .int .i64 c]) = Ending.returned (.tuple #[.int .u64 b, .int .i64 d]) := by rw [h1, h2]

set_option maxHeartbeats 1600000 in
theorem first_yes (v : Value) (l : List UInt8) (n : Nat) (w : World) (hv : Byt w v l) (hn : n < 18446744073709551616) (hp : dg n <+: l) :
    Calls Tryd.prog 74 #[v] w fun e w' => e = .returned (.tuple #[.int .u64 (n : Int), .int .i64 ((dg n).length : Int)]) ∧ w = w' := by
  obtain ⟨A, c, rfl⟩ := hv.shape
  obtain ⟨_, hc1, hc2, hr⟩ := hv.at_
  have hk := dg_len10 hn
  have hkp := dg_pos n
  have hkl := hp.length_le
  obtain ⟨b, off, rfl, hb, hcell⟩ := hr (by omega)
  unfold maxLen at hc2
  obtain ⟨k, HK⟩ : ∃ k : Nat, Hid ((dg n).length = k) := ⟨_, rfl⟩
  rw [HK.out] at hk hkp hkl ⊢
  have hget : ∀ i (h : i < k), (i + 1 < k → (l[i]'(by omega)).toNat = 128 + n / 128 ^ i % 128) ∧ (i + 1 = k → (l[i]'(by omega)).toNat = n / 128 ^ i ∧ n / 128 ^ i < 128 ∧ (0 < i → 0 < n / 128 ^ i)) := by
    intro i h
    have hik : i < (dg n).length := by rw [HK.out]; exact h
    have e : l[i]'(by omega) = (dg n)[i] := (hp.getElem hik).symm
    have := dg_get n i hik
    rw [HK.out] at this
    rw [e]
    exact this
  have hend : n / 128 ^ (k - 1) < 128 := ((hget (k - 1) (by omega)).2 (by omega)).2.1
  have hlowk : low n k = n := by
    refine low_all n k ?_
    have e : k = k - 1 + 1 := by omega
    rw [e, Nat.pow_succ, Nat.mul_comm]
    have := Nat.pow_pos (n := k - 1) (show 0 < 128 by omega)
    exact (Nat.div_lt_iff_lt_mul this).1 hend
  have h9 : ∀ i, i = 9 → n / 128 ^ i ≤ 1 := by
    intro i hi
    subst hi
    have : (128 : Nat) ^ 9 = 9223372036854775808 := by decide
    rw [this]
    omega
  obtain ⟨L, HL⟩ : ∃ L : Nat, Hid (l.length = L) := ⟨_, rfl⟩
  have hkL : k ≤ L := by rw [← HL.out]; exact hkl
  rw [HL.out]
  have HW := hid hlowk
  clear hlowk hend hp
  go_enter Tryd.func74, Tryd.ntmps74
  go_wp2
  go_loop [4, 5] (fun sa si => ∃ i : Nat, i < k ∧ si = .int .i64 i ∧ sa = .int .u64 (low n i : Int)) (fun _ si => 10 - (intOf si).toNat)
  case atStart => exact ⟨0, by omega, rfl, by rw [low_zero]; rfl⟩
  case round =>
    obtain ⟨i, hi, rfl, rfl⟩ := hrel
    have hil : i < l.length := by omega
    have hiL : i < L := by omega
    have hc := hcell i hil
    have hx := hget i hi
    obtain ⟨x, hx0, hx1, HX⟩ : ∃ x : Int, 0 ≤ x ∧ x ≤ 255 ∧ Hid ((l[i].toNat : Int) = x) := ⟨_, (byte_lt l[i]).1, (byte_lt l[i]).2, rfl⟩
    unfold bcell at hc
    rw [HX.out] at hc
    have hi10 : (i : Int) < 10 := by omega
    by_cases hlast : i + 1 < k
    · have hx2 := hx.1 hlast
      have hx3 : 128 ≤ x := by rw [← HX.out]; omega
      have hx4 : x % 128 = ((n / 128 ^ i % 128 : Nat) : Int) := by rw [← HX.out]; omega
      have HS := hid (or_step n i x hn hx0 hx1 hx4)
      clear hx hx2 hx4 hget hcell h9
      go_wp2
      go_round
      case rel => exact ⟨i + 1, hlast, by go_num, by rw [HS.out]⟩
      case measure => simp [intOf]; omega
    · obtain ⟨hx2, hx5, hx6⟩ := hx.2 (by omega)
      have hx3 : x < 128 := by rw [← HX.out]; omega
      have hx4 : x % 128 = ((n / 128 ^ i % 128 : Nat) : Int) := by rw [← HX.out]; omega
      have HS := hid (or_step n i x hn hx0 hx1 hx4)
      have hik : i + 1 = k := by omega
      have hx7 : 0 < i → 0 < x := fun h => by have := hx6 h; rw [← HX.out]; omega
      have h1 : i = 9 → x ≤ 1 := by
        intro e
        have := h9 i e
        rw [← HX.out]
        omega
      clear hx hx2 hx4 hx5 hx6 hget hcell h9
      have HK1 := hid hik
      clear hik
      go_wp2
      all_goals first
        | (exfalso; have := hx7 (by assumption); omega)
        | (try (have e0 : x = 0 := by assumption
                subst e0)
           go_ret2
           exact ⟨ret2_eq (HS.out.trans (by rw [HK1.out, HW.out])) (by have := HK1.out; omega), rfl⟩)

set_option maxHeartbeats 1600000 in
theorem first_no (v : Value) (l : List UInt8) (w : World) (hv : Byt w v l) (hp : ∀ n, n < 18446744073709551616 → ¬ dg n <+: l) :
    Calls Tryd.prog 74 #[v] w fun e w' => e = .returned (.tuple #[.int .u64 0, .int .i64 0]) ∧ w = w' := by
  obtain ⟨A, c, rfl⟩ := hv.shape
  obtain ⟨_, hc1, hc2, hr⟩ := hv.at_
  unfold maxLen at hc2
  by_cases hl : l.length = 0
  · rw [hl]
    go_enter Tryd.func74, Tryd.ntmps74
    go_wp2
    refine wp_loop_rounds 1 ?_
    rw [rounds_succ]
    go_wp2
    go_ret2
    exact ⟨rfl, rfl⟩
  obtain ⟨b, off, rfl, hb, hcell⟩ := hr (by omega)
  have hgood : ∀ i (h : i < l.length), i < 10 → (∀ j (hj : j < i), 128 ≤ (l[j]'(by omega)).toNat) → (l[i].toNat < 128) → (0 < i → 0 < l[i].toNat) → (i = 9 → l[i].toNat ≤ 1) → False := by
    intro i h hi hj hlt h0 h9
    obtain ⟨e, _⟩ := dg_val (l.take i) l[i] (fun x hx => by
      obtain ⟨j, hjl, rfl⟩ := List.getElem_of_mem hx
      rw [List.getElem_take]
      exact hj j (by simp at hjl; omega)) hlt (fun hne => h0 (by
        rcases Nat.eq_zero_or_pos i with h | h
        · subst h; simp at hne
        · exact h))
    rw [← List.take_succ_eq_append_getElem h] at e
    have e1 := List.take_succ_eq_append_getElem h
    refine hp _ ?_ (by rw [e]; exact List.take_prefix _ _)
    rw [e1]
    exact val_64 _ _ (by simp; omega) hlt (fun h => h9 (by simp at h; omega))
  obtain ⟨L, HL⟩ : ∃ L : Nat, Hid (l.length = L) := ⟨_, rfl⟩
  have hL0 : 0 < L := by have := HL.out; omega
  rw [HL.out] at hc1 ⊢
  have HG := hid hgood
  clear hgood hp hl
  go_enter Tryd.func74, Tryd.ntmps74
  go_wp2
  go_loop [4, 5] (fun sa si => ∃ (i : Nat) (a : Int), i ≤ L ∧ i ≤ 10 ∧ si = .int .i64 i ∧ sa = .int .u64 a ∧ Hid (∀ j (hj : j < i) (hl : j < l.length), 128 ≤ (l[j]).toNat)) (fun _ si => 10 - (intOf si).toNat)
  case atStart => exact ⟨0, 0, by omega, by omega, rfl, rfl, hid (fun j hj => by omega)⟩
  case round =>
    obtain ⟨i, a, hi, hi10, rfl, rfl, HB⟩ := hrel
    by_cases hin : i < L ∧ i < 10
    · obtain ⟨hiL, hi9⟩ := hin
      have hil : i < l.length := by rw [HL.out]; exact hiL
      have hc := hcell i hil
      obtain ⟨x, hx0, hx1, HX⟩ : ∃ x : Int, 0 ≤ x ∧ x ≤ 255 ∧ Hid ((l[i].toNat : Int) = x) := ⟨_, (byte_lt l[i]).1, (byte_lt l[i]).2, rfl⟩
      unfold bcell at hc
      rw [HX.out] at hc
      have hi10' : (i : Int) < 10 := by omega
      clear hcell
      by_cases hbig : 128 ≤ x
      · go_wp2
        go_round
        case rel =>
          refine ⟨i + 1, _, by omega, by omega, by go_num, rfl, hid (fun j hj hjl => ?_)⟩
          by_cases hji : j < i
          · exact HB.out j hji hjl
          · obtain rfl : j = i := by omega
            have := HX.out
            omega
        case measure => simp [intOf]; omega
      · have hno : ¬ ((0 < i → 0 < x) ∧ (i = 9 → x ≤ 1)) := fun hh => HG.out i hil (by omega) (fun j hj => HB.out j hj _) (by have := HX.out; omega) (fun h0 => by have := HX.out; have := hh.1 h0; omega) (fun h9 => by have := HX.out; have := hh.2 h9; omega)
        have HN := hid hno
        clear hno
        go_wp2
        all_goals first
          | (go_ret2; exact ⟨rfl, rfl⟩)
          | (exfalso; refine HN.out ⟨fun _ => ?_, fun _ => ?_⟩ <;> omega)
    · by_cases hiL : i < L
      · obtain rfl : i = 10 := by omega
        go_wp2
        go_ret2
        exact ⟨rfl, rfl⟩
      · go_wp2
        go_ret2
        exact ⟨rfl, rfl⟩
end Go.Proofs.YthgdgkdnidjdgaaDoor

/-
  octet.join gives the parts' bytes, one behind the other, in a row of its own.
-/
namespace Go.Proofs.YthgdgkdnidjdgaaDoor
set_option maxRecDepth 20000
open Go.RowKit

/-- How many bytes the first k parts have. -/
def tot (ls : List (List UInt8)) (k : Nat) : Nat := (ls.take k).flatten.length
theorem tot_zero (ls : List (List UInt8)) : tot ls 0 = 0 := by simp [tot]
theorem tot_succ (ls : List (List UInt8)) (k : Nat) (h : k < ls.length) : tot ls (k + 1) = tot ls k + ls[k].length := by
  unfold tot
  rw [List.take_succ_eq_append_getElem h, List.flatten_append, List.length_append]
  simp
theorem take_flat (ls : List (List UInt8)) (k : Nat) (h : k < ls.length) : (ls.take k).flatten ++ ls[k] = (ls.take (k + 1)).flatten := by
  rw [List.take_succ_eq_append_getElem h, List.flatten_append, List.flatten_singleton]
theorem tot_le (ls : List (List UInt8)) (k : Nat) : tot ls k ≤ ls.flatten.length := by
  unfold tot
  have := congrArg (fun l => l.flatten.length) (List.take_append_drop k ls)
  simp only [List.flatten_append, List.length_append] at this
  omega
theorem tot_all (ls : List (List UInt8)) : tot ls ls.length = ls.flatten.length := by simp [tot]

set_option maxHeartbeats 1600000 in
theorem join_any (ls : List (List UInt8)) (vs : Nat → Value) (g n c : Nat) (w : World) (hn : ls.length = n) (hg : g < w.heap.size) (hc : ∀ j, j < n → w.cell? ⟨g, j, none⟩ = some (vs j))
    (hv : ∀ j (h : j < ls.length), Byt w (vs j) ls[j]) (hs : ls.flatten.length ≤ 1099511627776) (hn2 : n ≤ 1000) :
    Calls Tryd.prog 36 #[.slice (some ⟨g, 0, none⟩) n c] w fun e w' => ∃ v, e = .returned v ∧ Own w.heap.size w' v ls.flatten ∧ Below w.heap.size w w' := by
  obtain ⟨i0, hi, hz0, hz1, hz2⟩ := info_parts info_u8
  go_enter Tryd.func36, Tryd.ntmps36
  have Hn := hid hn
  clear hn
  go_wp2
  go_loop [3, 11] (fun sz ix => ∃ k : Nat, k ≤ n ∧ ix = .int .i64 k ∧ sz = .int .i64 (tot ls k)) (fun _ ix => n - (intOf ix).toNat)
  case atStart => exact ⟨0, Nat.zero_le _, rfl, by rw [tot_zero]; rfl⟩
  case round =>
    obtain ⟨k, hk, rfl, rfl⟩ := hrel
    have htk := tot_le ls k
    by_cases hlt : k < n
    · have hlt' : k < ls.length := by rw [Hn.out]; exact hlt
      have hck := hc k hlt
      obtain ⟨A, cp, hvk, _⟩ := hv k hlt'
      have hts := tot_succ ls k hlt'
      have htk1 := tot_le ls (k + 1)
      have hb : tot ls k + ls[k].length ≤ 1099511627776 := by omega
      rw [hvk] at hck
      have HT := hid hts
      clear hts hvk hc hv
      go_wp2
      go_round
      case rel => exact ⟨k + 1, by omega, by go_num, by rw [HT.out]; go_num⟩
      case measure => simp [intOf]; omega
    · obtain rfl : k = n := by omega
      have hb2 : i0.bytes * tot ls k ≤ 281474976710656 := by rw [hz2]; omega
      have hb3 : tot ls k ≤ maxLen := by unfold maxLen; omega
      go_wp2_with (at_make; refine wpList_make_own _ rfl _ _ 40 rfl w.heap.size 5 i0 (.int .u8 0) 1 under_bytes hi hz0 hz1 _ _ _ (tot ls k) rfl rfl rfl hb2 hb3 (Nat.le_refl _) ?_)
      intro w0 hown0 hgrow0
      have hb0 : Below w.heap.size w w0 := (Below.refl _ _).grown hgrow0 (Nat.le_refl _) (fun k h => by cases h)
      have hv0 : Own w.heap.size w0 (.slice (some ⟨w.heap.size, 0, none⟩) 0 (tot ls k)) [] := hown0
      clear hown0 hgrow0
      go_wp2
      go_loopw [6, 24] (fun out ix wr => ∃ j : Nat, j ≤ k ∧ ix = .int .i64 j ∧ Own w.heap.size wr out (ls.take j).flatten ∧ Below w.heap.size w wr) (fun _ ix _ => k - (intOf ix).toNat)
      case atStart => exact ⟨0, Nat.zero_le _, rfl, by simpa using hv0, hb0⟩
      case round =>
        obtain ⟨j, hj, rfl, hown, hbw⟩ := hrel
        by_cases hlt2 : j < k
        · have hlt' : j < ls.length := by rw [Hn.out]; exact hlt2
          have hcj : wr.cell? ⟨g, j, none⟩ = some (vs j) := (hbw.cell (p := ⟨g, j, none⟩) hg).trans (hc j hlt2)
          have hvj := (hv j hlt').below hbw
          have hsum : (ls.take j).flatten.length + ls[j].length ≤ 140737488355328 := by
            have := tot_succ ls j hlt'
            have := tot_le ls (j + 1)
            unfold tot at *
            omega
          have hbs := hbw.size
          go_wp2_with (at_builtin; refine wpList_append_byt rfl (.tmp 28) (.tmp 29) rfl rfl rfl hown hvj hsum hbs ?_; intro v1 w1 hown1 hg1 _)
          have hfl : (ls.take j).flatten ++ ls[j] = (ls.take (j + 1)).flatten := take_flat ls j hlt'
          have hb1 : Below w.heap.size w w1 := hbw.grown hg1 hbs (fun k hk => (World.ownsRow.lt hown k hk).1)
          rw [hfl] at hown1
          clear hfl hg1
          go_roundw
          case rel => exact ⟨j + 1, by omega, by go_num, hown1, hb1⟩
          case measure => simp [intOf]; omega
        · obtain rfl : j = k := by omega
          go_wp2
          go_ret
          refine ⟨_, rfl, ?_, hbw⟩
          have e : ls.take j = ls := by rw [← Hn.out]; exact List.take_length
          rw [e] at hown
          exact hown
end Go.Proofs.YthgdgkdnidjdgaaDoor

/-
  octet.digits gives a number's bytes, in a row of its own.
-/
namespace Go.Proofs.YthgdgkdnidjdgaaDoor
set_option maxRecDepth 20000
open Go.RowKit

theorem or128 (k : Int) (h0 : 0 ≤ k) (h1 : k < 256) : bits BinOp.or IntKind.u8 k 128 = 128 + k % 128 := by
  obtain ⟨n, rfl⟩ := Int.eq_ofNat_of_zero_le h0
  have h : ∀ n : Fin 256, bits BinOp.or IntKind.u8 ((n.val : Nat) : Int) 128 = 128 + ((n.val : Nat) : Int) % 128 := by decide +kernel
  exact h ⟨n, by omega⟩

set_option maxHeartbeats 800000 in
theorem digits_any (n : Int) (w : World) (h0 : 0 ≤ n) (h1 : n < 18446744073709551616) :
    Calls Tryd.prog 75 #[.int .u64 n] w fun e w' => ∃ v, e = .returned v ∧ Own w.heap.size w' v (dg n.toNat) ∧ Below w.heap.size w w' := by
  obtain ⟨i0, hi, hz0, hz1, hz2⟩ := info_parts info_u8
  have hL := dg_len10 (n := n.toNat) (by omega)
  go_enter Tryd.func75, Tryd.ntmps75
  go_wp2_with (at_make; refine wpList_make_own _ rfl _ _ 40 rfl w.heap.size 5 i0 (.int .u8 0) 1 under_bytes hi hz0 hz1 _ _ _ 10 rfl rfl (by omega) ?b2 ?b3 (Nat.le_refl _) ?_)
  case b2 => rw [hz2]; omega
  case b3 => unfold maxLen; omega
  intro w0 hown0 hgrow0
  have hb0 : Below w.heap.size w w0 := (Below.refl _ _).grown hgrow0 (Nat.le_refl _) (fun k h => by cases h)
  have hv0 : Own w.heap.size w0 (.slice (some ⟨w.heap.size, 0, none⟩) 0 10) [] := hown0
  clear hown0 hgrow0
  go_wp2
  go_loopw [0, 3] (fun sn out wr => ∃ (m : Int) (acc : List UInt8), 0 ≤ m ∧ m < 18446744073709551616 ∧ sn = .int .u64 m ∧ Own w.heap.size wr out acc ∧ Hid (acc ++ dg m.toNat = dg n.toNat) ∧ acc.length ≤ 10 ∧ Below w.heap.size w wr)
    (fun sn _ _ => (intOf sn).toNat)
  case atStart => exact ⟨n, [], h0, h1, rfl, hv0, by simp [Hid], by simp, hb0⟩
  case round =>
    obtain ⟨m, acc, hm0, hm1, rfl, hown, heq, hal, hb⟩ := hrel
    by_cases hlt : m < 128
    · have hq : m = ((UInt8.ofNat m.toNat).toNat : Int) := by rw [UInt8.toNat_ofNat']; omega
      have hql : acc.length + [UInt8.ofNat m.toNat].length ≤ 140737488355328 := by simp; omega
      have hbs := hb.size
      have HQ := hid hq
      clear hq
      go_wp2_with (at_builtin; refine wpList_append_byt rfl (.tmp 15) (.tmp 18) rfl rfl rfl (hown.alloc _) (byt_one _ _ (UInt8.ofNat m.toNat) HQ.out) hql (by simp; omega) ?_; intro v1 w1 hown1 hg1 _)
      go_ret
      rw [dg_small (by omega)] at heq
      rw [heq.out] at hown1
      exact ⟨v1, rfl, hown1, (hb.alloc hbs _).grown hg1 (by simp; omega) (fun k hk => (World.ownsRow.lt hown k hk).1)⟩
    · have hq : bits BinOp.or IntKind.u8 (m % 256) 128 = ((UInt8.ofNat (128 + m.toNat % 128)).toNat : Int) := by
        rw [or128 _ (by omega) (by omega), UInt8.toNat_ofNat']; omega
      have hql : acc.length + [UInt8.ofNat (128 + m.toNat % 128)].length ≤ 140737488355328 := by simp; omega
      have hbs := hb.size
      have HQ := hid hq
      clear hq
      have hge : 128 ≤ m := by omega
      go_wp2_with (at_builtin; refine wpList_append_byt rfl (.tmp 7) (.tmp 11) rfl rfl rfl (hown.alloc _) (byt_one _ _ (UInt8.ofNat (128 + m.toNat % 128)) HQ.out) hql (by simp; omega) ?_; intro v1 w1 hown1 hg1 _)
      have hlen : (acc ++ [UInt8.ofNat (128 + m.toNat % 128)]).length ≤ 10 ∧ acc ++ [UInt8.ofNat (128 + m.toNat % 128)] ++ dg (m / 128).toNat = dg n.toNat := by
        have h2 := heq.out
        rw [dg_big (n := m.toNat) (by omega)] at h2
        have e : m.toNat / 128 = (m / 128).toNat := by omega
        rw [e] at h2
        have h3 := congrArg List.length h2
        have h4 := dg_pos (m / 128).toNat
        simp at h3
        exact ⟨by simp; omega, by simpa using h2⟩
      go_roundw
      case rel => exact ⟨m / 128, _, by omega, by omega, rfl, hown1, hid hlen.2, hlen.1, (hb.alloc hbs _).grown hg1 (by simp; omega) (fun k hk => (World.ownsRow.lt hown k hk).1)⟩
      case measure => simp [intOf]; omega
end Go.Proofs.YthgdgkdnidjdgaaDoor

/-
  octet.Num, octet.Text give the bytes with a number's, a text's behind, in a row of their own.
-/
namespace Go.Proofs.YthgdgkdnidjdgaaDoor
set_option maxRecDepth 20000
open Go.RowKit

theorem join1 (u : Value) (l : List UInt8) (g c : Nat) (w : World) (hg : g < w.heap.size) (c0 : w.cell? ⟨g, 0, none⟩ = some u) (hu : Byt w u l) (hs : l.length ≤ 1099511627776) :
    Calls Tryd.prog 36 #[.slice (some ⟨g, 0, none⟩) 1 c] w fun e w' => ∃ v, e = .returned v ∧ Own w.heap.size w' v l ∧ Below w.heap.size w w' := by
  have h := join_any [l] (fun _ => u) g 1 c w rfl hg (fun j hj => by
    match j, hj with
    | 0, _ => exact c0) (fun j hj => by
    match j, hj with
    | 0, _ => exact hu) (by simpa using hs) (by omega)
  simpa using h
theorem join2 (u v : Value) (l m : List UInt8) (g c : Nat) (w : World) (hg : g < w.heap.size) (c0 : w.cell? ⟨g, 0, none⟩ = some u) (c1 : w.cell? ⟨g, 1, none⟩ = some v) (hu : Byt w u l) (hv : Byt w v m) (hs : l.length + m.length ≤ 1099511627776) :
    Calls Tryd.prog 36 #[.slice (some ⟨g, 0, none⟩) 2 c] w fun e w' => ∃ x, e = .returned x ∧ Own w.heap.size w' x (l ++ m) ∧ Below w.heap.size w w' := by
  have h := join_any [l, m] (fun j => if j = 0 then u else v) g 2 c w rfl hg (fun j hj => by
    match j, hj with
    | 0, _ => exact c0
    | 1, _ => exact c1) (fun j hj => by
    match j, hj with
    | 0, _ => exact hu
    | 1, _ => exact hv) (by simpa using hs) (by omega)
  simpa using h
theorem join3 (u v x : Value) (l m n : List UInt8) (g c : Nat) (w : World) (hg : g < w.heap.size) (c0 : w.cell? ⟨g, 0, none⟩ = some u) (c1 : w.cell? ⟨g, 1, none⟩ = some v) (c2 : w.cell? ⟨g, 2, none⟩ = some x)
    (hu : Byt w u l) (hv : Byt w v m) (hx : Byt w x n) (hs : l.length + (m.length + n.length) ≤ 1099511627776) :
    Calls Tryd.prog 36 #[.slice (some ⟨g, 0, none⟩) 3 c] w fun e w' => ∃ y, e = .returned y ∧ Own w.heap.size w' y (l ++ (m ++ n)) ∧ Below w.heap.size w w' := by
  have h := join_any [l, m, n] (fun j => if j = 0 then u else if j = 1 then v else x) g 3 c w rfl hg (fun j hj => by
    match j, hj with
    | 0, _ => exact c0
    | 1, _ => exact c1
    | 2, _ => exact c2) (fun j hj => by
    match j, hj with
    | 0, _ => exact hu
    | 1, _ => exact hv
    | 2, _ => exact hx) (by simpa using hs) (by omega)
  simpa using h


set_option maxHeartbeats 800000 in
theorem num_any (v : Value) (l : List UInt8) (n : Int) (w : World) (hv : Byt w v l) (h0 : 0 ≤ n) (h1 : n < 18446744073709551616) (hs : l.length ≤ 1099511627000) :
    Calls Tryd.prog 64 #[v, .int .u64 n] w fun e w' => ∃ x, e = .returned x ∧ Own w.heap.size w' x (l ++ dg n.toNat) ∧ Below w.heap.size w w' := by
  have hL := dg_len10 (n := n.toNat) (by omega)
  obtain ⟨A, c, rfl⟩ := hv.shape
  go_enter Tryd.func64, Tryd.ntmps64
  go_wp2_with fail
  refine (digits_any n w h0 h1).mono ?_
  rintro e w1 ⟨v1, rfl, hown1, hb1⟩
  have hbs := hb1.size
  obtain ⟨A1, c1, rfl⟩ := hown1.byt.shape
  go_wp2_with fail
  refine (join2 _ _ l (dg n.toNat) w1.heap.size 2 (w1.alloc (.cells #[.slice A l.length c, .slice A1 (dg n.toNat).length c1] 40)) (by simp) (by simp) (by simp) ((hv.below hb1).alloc _) (hown1.byt.alloc _) (by omega)).mono ?_
  rintro e w2 ⟨x, rfl, hown2, hb2⟩
  go_wp2_with fail
  go_ret
  exact ⟨x, rfl, hown2.more (by simp; omega), hb1.trans ((Below.alloc (Below.refl _ _) hbs _).trans (hb2.mono (by simp; omega)))⟩

/-- A text that is not too long: its bytes; one that is: those of its beginning. -/
def cutText (t : List UInt8) : List UInt8 := t.take 65536

end Go.Proofs.YthgdgkdnidjdgaaDoor

/-
  octet.Reader in memory: what Read makes, and what Wrong, Left, Done, fail tell of it and leave.
-/
namespace Go.Proofs.YthgdgkdnidjdgaaDoor
set_option maxRecDepth 20000
open Go.RowKit

theorem cell_blk {w : World} {g : Nat} {cs : Array Value} {t : TypeId} (h : w.heap[g]? = some (.cells cs t (0, 0))) (i : Nat) : w.cell? ⟨g, i, none⟩ = cs[i]? := cell_of_row w g i cs t (0, 0) h
theorem free_blk {w : World} {g : Nat} {cs : Array Value} {t : TypeId} (h : w.heap[g]? = some (.cells cs t (0, 0))) (i : Nat) : w.frozen? ⟨g, i, none⟩ = false := by simp [World.frozen?, h]
theorem set_blk {w : World} {g : Nat} {cs : Array Value} {t : TypeId} (h : w.heap[g]? = some (.cells cs t (0, 0))) (i : Nat) (u : Value) : (w.setCell ⟨g, i, none⟩ u).heap[g]? = some (.cells (cs.setIfInBounds i u) t (0, 0)) := by
  simp [World.setCell, Array.getElem?_modify, h]

/-- Block g is a reader of the bytes l, at place p, right or not. -/
structure Rdr (w : World) (g : Nat) (l : List UInt8) (p : Nat) (r : Bool) : Prop where
  ex : ∃ A c, Own 0 w (.slice A l.length c) l ∧ w.heap[g]? = some (.cells #[.slice A l.length c, .int .i64 (p : Int), .bool r] 69 (0, 0))
  le : p ≤ l.length

section
variable {w w' : World} {g : Nat} {l : List UInt8} {p : Nat} {r : Bool}
theorem own_ne {B : Nat} {v : Value} {m : List UInt8} {cs : Array Value} {t : TypeId} (h : Own B w v m) (hg : w.heap[g]? = some (.cells cs t (0, 0))) (ht : 5 ≠ t) : v.ownBlock ≠ some g := by
  rcases h.2 with ⟨rfl, _⟩ | ⟨g', cap, cur, rfl, _, hh, _⟩
  · simp [Value.ownBlock]
  · intro he
    obtain rfl : g' = g := by simpa [Value.ownBlock] using he
    rw [hh] at hg
    injection hg with hg
    injection hg with _ h2
    exact ht h2
theorem Rdr.keep (h : Rdr w g l p r) (hk : ∀ b, b < w.heap.size → (b = g ∨ ∃ v, Own 0 w v l ∧ v.ownBlock = some b) → w'.heap[b]? = w.heap[b]?) : Rdr w' g l p r := by
  obtain ⟨⟨A, c, h1, h2⟩, h3⟩ := h
  exact ⟨⟨A, c, h1.keep fun b hb e => hk b hb (.inr ⟨_, h1, e⟩), (hk g (lt_of_block h2) (.inl rfl)).trans h2⟩, h3⟩
theorem Rdr.below (h : Rdr w g l p r) (hb : Below w.heap.size w w') : Rdr w' g l p r := h.keep fun b hlt _ => hb.block b hlt
/-- What another reader's method leaves. -/
theorem Rdr.far {g' : Nat} {l' : List UInt8} {p' : Nat} {r' : Bool} (h : Rdr w g l p r) (h' : Rdr w g' l' p' r') (hne : g ≠ g') (hg : w.grownBy w' (some g')) : Rdr w' g l p r := h.keep fun b hlt hh => by
  refine hg.block b hlt fun e => ?_
  injection e with e
  rcases hh with e2 | ⟨v, hv, hvb⟩
  · exact hne (e2.symm.trans e)
  · obtain ⟨_, _, _, h2⟩ := h'.ex
    subst e
    exact own_ne hv h2 (by decide) hvb
/-- What a write into a block leaves that is neither the reader's nor a row of bytes. -/
theorem Rdr.apart {k : Nat} {cs : Array Value} {t : TypeId} (h : Rdr w g l p r) (hg : w.grownBy w' (some k)) (hk : w.heap[k]? = some (.cells cs t (0, 0))) (ht : 5 ≠ t) (hne : g ≠ k) : Rdr w' g l p r := h.keep fun b hlt hh => by
  refine hg.block b hlt fun e => ?_
  injection e with e
  rcases hh with e2 | ⟨v, hv, hvb⟩
  · exact hne (e2.symm.trans e)
  · subst e
    exact own_ne hv hk ht hvb
theorem Rdr.lt (h : Rdr w g l p r) : g < w.heap.size := by
  obtain ⟨_, _, _, h2⟩ := h.ex
  exact lt_of_block h2
theorem Rdr.drewN (h : Rdr w g l p r) (n : Nat) : Rdr (w.drewN n) g l p r := ⟨h.ex, h.le⟩
theorem own_turn {v : Value} {cs : Array Value} (h1 : Own 0 w v l) (h2 : w.heap[g]? = some (.cells cs 69 (0, 0))) (i : Nat) (u : Value) : Own 0 (w.setCell ⟨g, i, none⟩ u) v l :=
  ownsRow_setCell_other h1 (own_ne h1 h2 (by decide)) _
theorem Rdr.turn (h : Rdr w g l p r) (p' : Nat) (hp : p' ≤ l.length) : Rdr (w.setCell ⟨g, 1, none⟩ (.int .i64 (p' : Int))) g l p' r := by
  obtain ⟨A, c, h1, h2⟩ := h.ex
  exact ⟨⟨A, c, ownsRow_setCell_other h1 (own_ne h1 h2 (by decide)) _, by rw [set_blk h2]; rfl⟩, hp⟩
theorem Rdr.spoil (h : Rdr w g l p r) : Rdr (w.setCell ⟨g, 2, none⟩ (.bool false)) g l p false := by
  obtain ⟨A, c, h1, h2⟩ := h.ex
  exact ⟨⟨A, c, ownsRow_setCell_other h1 (own_ne h1 h2 (by decide)) _, by rw [set_blk h2]; rfl⟩, h.le⟩
theorem grown_set (w : World) (g i : Nat) (u : Value) : w.grownBy (w.setCell ⟨g, i, none⟩ u) (some g) :=
  ⟨rfl, rfl, rfl, by simp [World.setCell], fun k _ hk => Below.heap_setCell w _ u k (fun e => hk (by rw [e]))⟩
theorem grown_of_below {w w' : World} (h : Below w.heap.size w w') (row : Option Nat) : w.grownBy w' row := ⟨h.os, h.tape, h.output, h.size, fun k hk _ => h.block k hk⟩
theorem grown_drewN {a b : World} {row : Option Nat} (h : a.grownBy b row) (n : Nat) : a.grownBy (b.drewN n) row := ⟨h.os, h.tape, h.output, h.size, h.block⟩
end

set_option maxHeartbeats 800000 in
theorem read_any (v : Value) (l : List UInt8) (w : World) (hv : Byt w v l) (hs : l.length ≤ 1099511627776) :
    Calls Tryd.prog 13 #[v] w fun e w' => ∃ g, e = .returned (.pointer (some ⟨g, 0, none⟩)) ∧ w.heap.size ≤ g ∧ Rdr w' g l 0 true ∧ Below w.heap.size w w' := by
  obtain ⟨A, c, rfl⟩ := hv.shape
  go_enter Tryd.func13, Tryd.ntmps13
  go_wp2_with fail
  refine (join1 _ l w.heap.size 1 (w.alloc (.cells #[.slice A l.length c] 40)) (by simp) (by simp) (hv.alloc _) hs).mono ?_
  rintro e w1 ⟨v1, rfl, hown1, hb1⟩
  have hbs := hb1.size
  obtain ⟨A1, c1, rfl⟩ := hown1.byt.shape
  go_wp2_with fail
  go_ret
  simp at hbs
  refine ⟨_, rfl, by omega, ⟨⟨A1, c1, (hown1.more (Nat.zero_le _)).alloc _, heap_alloc_new w1 _⟩, Nat.zero_le _⟩, ?_⟩
  exact ((Below.alloc (Below.refl _ _) (Nat.le_refl _) _).trans (hb1.mono (by simp))).alloc (by omega) _

theorem wrong_any (g : Nat) (l : List UInt8) (p : Nat) (r : Bool) (w : World) (hr : Rdr w g l p r) :
    Calls Tryd.prog 39 #[.pointer (some ⟨g, 0, none⟩)] w fun e w' => e = .returned (.bool (!r)) ∧ w = w' := by
  obtain ⟨A, c, h1, h2⟩ := hr.ex
  have c2 := cell_blk h2 2
  simp at c2
  clear h1 h2 hr
  go_enter Tryd.func39, Tryd.ntmps39
  go_wp2
  go_ret
  exact ⟨rfl, rfl⟩
theorem wrong_nil (w : World) : Calls Tryd.prog 39 #[.pointer none] w fun e w' => e = .returned (.bool true) ∧ w = w' := by
  go_enter Tryd.func39, Tryd.ntmps39
  go_wp2
  go_ret
  exact ⟨rfl, rfl⟩
theorem left_any (g : Nat) (l : List UInt8) (p : Nat) (r : Bool) (w : World) (hr : Rdr w g l p r) (hl : l.length ≤ 1099511627776) :
    Calls Tryd.prog 16 #[.pointer (some ⟨g, 0, none⟩)] w fun e w' => e = .returned (.int .i64 ((l.length : Int) - (p : Int))) ∧ ∃ n, w' = w.drewN n := by
  obtain ⟨A, c, h1, h2⟩ := hr.ex
  have hp := hr.le
  have c0 := cell_blk h2 0
  have c1 := cell_blk h2 1
  simp at c0 c1
  clear h1 h2 hr
  go_enter Tryd.func16, Tryd.ntmps16
  go_wp2
  go_quiet (fail)
  go_wp2
  go_ret
  exact ⟨rfl, _, rfl⟩
theorem left_nil (w : World) : Calls Tryd.prog 16 #[.pointer none] w fun e w' => e = .returned (.int .i64 0) ∧ w = w' := by
  go_enter Tryd.func16, Tryd.ntmps16
  go_wp2
  go_ret
  exact ⟨rfl, rfl⟩
theorem fail_any (g : Nat) (l : List UInt8) (p : Nat) (r : Bool) (w : World) (hr : Rdr w g l p r) :
    Calls Tryd.prog 60 #[.pointer (some ⟨g, 0, none⟩)] w fun e w' => e = .returned (.tuple #[]) ∧ w.setCell ⟨g, 2, none⟩ (.bool false) = w' := by
  obtain ⟨A, c, h1, h2⟩ := hr.ex
  have c2 := cell_blk h2 2
  have f2 := free_blk h2 2
  simp at c2
  clear h1 h2 hr
  go_enter Tryd.func60, Tryd.ntmps60
  go_wp2
  go_end0
  exact ⟨rfl, rfl⟩
theorem fail_nil (w : World) : Calls Tryd.prog 60 #[.pointer none] w fun e w' => e = .returned (.tuple #[]) ∧ w = w' := by
  go_enter Tryd.func60, Tryd.ntmps60
  go_wp2
  go_end0
  exact ⟨rfl, rfl⟩
end Go.Proofs.YthgdgkdnidjdgaaDoor

/-
  What octet's readers read: a number, one up to a most, whether all is done.
-/
namespace Go.Proofs.YthgdgkdnidjdgaaDoor
set_option maxRecDepth 20000
open Go.RowKit

theorem Byt.cut {w : World} {A : Option Addr} {l : List UInt8} {c p : Nat} (h : Byt w (.slice A l.length c) l) (hp : p ≤ l.length) :
    Byt w (.slice (if c = p then A else A.map (·.add p)) (l.length - p) (c - p)) (l.drop p) := by
  obtain ⟨_, h1, h2, h3⟩ := h.at_
  refine ⟨_, c - p, by rw [List.length_drop], by rw [List.length_drop]; omega, by omega, fun hl => ?_⟩
  rw [List.length_drop] at hl
  obtain ⟨b, off, rfl, hb, hc⟩ := h3 (by omega)
  rw [if_neg (by omega)]
  refine ⟨b, off + p, by rw [Option.map_some, addr_add], hb, fun j hj => ?_⟩
  rw [List.length_drop] at hj
  rw [Nat.add_assoc, hc (p + j) (by omega), List.getElem_drop]

theorem ret_u64 {a b : Int} (h : a = b) : Ending.returned (.int .u64 a) = Ending.returned (.int .u64 b) := by rw [h]

set_option maxHeartbeats 1600000 in
theorem number_any (g : Nat) (l : List UInt8) (p : Nat) (r : Bool) (most : Nat) (w : World) (hr : Rdr w g l p r) (hl : l.length ≤ 1099511627776) (_hm : most < 18446744073709551616) :
    Calls Tryd.prog 61 #[.pointer (some ⟨g, 0, none⟩), .int .u64 (most : Int)] w fun e w' =>
      e = .returned (.int .u64 ((rdNum most l p r).1 : Int)) ∧ Rdr w' g l (rdNum most l p r).2.1 (rdNum most l p r).2.2 ∧ w.grownBy w' (some g) := by
  cases r with
  | false =>
    have e : rdNum most l p false = (0, p, false) := rdNum_bad _ _ _
    rw [e]
    go_enter Tryd.func61, Tryd.ntmps61
    go_wp2_with fail
    refine (wrong_any g l p false w hr).mono ?_
    rintro e w' ⟨rfl, rfl⟩
    go_wp2_with fail
    go_ret
    exact ⟨rfl, hr, World.grownBy.refl _ _⟩
  | true =>
    obtain ⟨A, c, h1, h2⟩ := hr.ex
    have hp := hr.le
    have hby := (Own.byt h1).cut hp
    have c0 := cell_blk h2 0
    have c1 := cell_blk h2 1
    have f1 := free_blk h2 1
    simp at c0 c1
    clear h1 h2
    cases hf : frst (l.drop p) with
    | none =>
      have e : rdNum most l p true = (0, p, false) := rdNum_no hf
      rw [e]
      have hno := frst_none hf
      clear hf e
      go_enter Tryd.func61, Tryd.ntmps61
      go_wp2_with fail
      refine (wrong_any g l p true w hr).mono ?_
      rintro e w' ⟨rfl, rfl⟩
      go_wp2_with fail
      go_quiet ((go_at_call 74; exact Calls.quiet_of_same ((first_no _ _ _ (hby.drewN _) hno).mono fun _ _ h => ⟨h.1, h.2.symm⟩)))
      go_wp2_with fail
      all_goals
        refine (fail_any g l p true _ (hr.drewN _)).mono ?_
        rintro e w' ⟨rfl, rfl⟩
        go_wp2_with fail
        go_ret
        exact ⟨rfl, (hr.drewN _).spoil, (grown_drewN (World.grownBy.refl _ _) _).trans (grown_set _ g 2 _)⟩
    | some n =>
      obtain ⟨hn, hpre⟩ := frst_some hf
      have hk := dg_len10 hn
      have hk1 := dg_pos n
      have hpl := hpre.length_le
      rw [List.length_drop] at hpl
      have hz : (((dg n).length : Int) == 0) = false := by rw [beq_eq_false_iff_ne]; omega
      by_cases hle : n ≤ most
      · have e : rdNum most l p true = (n, p + (dg n).length, true) := rdNum_yes hf hle
        rw [e]
        clear hf e
        go_enter Tryd.func61, Tryd.ntmps61
        go_wp2_with fail
        refine (wrong_any g l p true w hr).mono ?_
        rintro e w' ⟨rfl, rfl⟩
        go_wp2_with fail
        go_quiet ((go_at_call 74; exact Calls.quiet_of_same ((first_yes _ _ n _ (hby.drewN _) hn hpre).mono fun _ _ h => ⟨h.1, h.2.symm⟩)))
        go_wp2_with fail
        all_goals
          go_ret
          have ht := (hr.drewN nq).turn (p + (dg n).length) (by omega)
          rw [Int.natCast_add] at ht
          exact ⟨rfl, ht, (grown_drewN (World.grownBy.refl _ _) _).trans (grown_set _ g 1 _)⟩
      · have e : rdNum most l p true = (0, p, false) := rdNum_big hf hle
        rw [e]
        clear hf e
        go_enter Tryd.func61, Tryd.ntmps61
        go_wp2_with fail
        refine (wrong_any g l p true w hr).mono ?_
        rintro e w' ⟨rfl, rfl⟩
        go_wp2_with fail
        go_quiet ((go_at_call 74; exact Calls.quiet_of_same ((first_yes _ _ n _ (hby.drewN _) hn hpre).mono fun _ _ h => ⟨h.1, h.2.symm⟩)))
        go_wp2_with fail
        all_goals
          refine (fail_any g l p true _ (hr.drewN _)).mono ?_
          rintro e w' ⟨rfl, rfl⟩
          go_wp2_with fail
          go_ret
          exact ⟨rfl, (hr.drewN _).spoil, (grown_drewN (World.grownBy.refl _ _) _).trans (grown_set _ g 2 _)⟩

theorem number_nil (m : Int) (w : World) : Calls Tryd.prog 61 #[.pointer none, .int .u64 m] w fun e w' => e = .returned (.int .u64 0) ∧ w = w' := by
  go_enter Tryd.func61, Tryd.ntmps61
  go_wp2_with fail
  refine (wrong_nil w).mono ?_
  rintro e w' ⟨rfl, rfl⟩
  go_wp2_with fail
  go_ret
  exact ⟨rfl, rfl⟩

/-- What is read up to a most. -/
def rdUpto (most : Int) (l : List UInt8) (p : Nat) (r : Bool) : Nat × Nat × Bool := if most < 0 then (0, p, false) else rdNum most.toNat l p r
theorem rdNum_le {most : Nat} {l : List UInt8} {p : Nat} {r : Bool} : (rdNum most l p r).1 ≤ most := by
  unfold rdNum
  split
  · exact Nat.zero_le _
  · split
    · split
      · assumption
      · exact Nat.zero_le _
    · exact Nat.zero_le _

theorem upto_any (g : Nat) (l : List UInt8) (p : Nat) (r : Bool) (most : Int) (w : World) (hr : Rdr w g l p r) (hl : l.length ≤ 1099511627776) (hm0 : -9223372036854775808 ≤ most) (hm1 : most ≤ 9223372036854775807) :
    Calls Tryd.prog 37 #[.pointer (some ⟨g, 0, none⟩), .int .i64 most] w fun e w' =>
      e = .returned (.int .i64 ((rdUpto most l p r).1 : Int)) ∧ Rdr w' g l (rdUpto most l p r).2.1 (rdUpto most l p r).2.2 ∧ w.grownBy w' (some g) := by
  by_cases hneg : most < 0
  · have e : rdUpto most l p r = (0, p, false) := by simp [rdUpto, hneg]
    rw [e]
    go_enter Tryd.func37, Tryd.ntmps37
    go_wp2_with fail
    refine (fail_any g l p r w hr).mono ?_
    rintro e w' ⟨rfl, rfl⟩
    go_wp2_with fail
    go_ret
    exact ⟨rfl, hr.spoil, grown_set _ g 2 _⟩
  · have e : rdUpto most l p r = rdNum most.toNat l p r := by simp [rdUpto, hneg]
    rw [e]
    obtain ⟨m, rfl⟩ := Int.eq_ofNat_of_zero_le (show 0 ≤ most by omega)
    rw [Int.toNat_natCast]
    have hle := rdNum_le (most := m) (l := l) (p := p) (r := r)
    go_enter Tryd.func37, Tryd.ntmps37
    go_wp2_with fail
    refine (number_any g l p r m w hr hl (by omega)).mono ?_
    rintro e w' ⟨rfl, h1, h2⟩
    go_wp2_with fail
    go_ret
    exact ⟨rfl, h1, h2⟩
theorem upto_nil (most : Int) (w : World) (hm0 : 0 ≤ most) (hm1 : most ≤ 9223372036854775807) : Calls Tryd.prog 37 #[.pointer none, .int .i64 most] w fun e w' => e = .returned (.int .i64 0) ∧ w = w' := by
  go_enter Tryd.func37, Tryd.ntmps37
  go_wp2_with fail
  refine (number_nil _ w).mono ?_
  rintro e w' ⟨rfl, rfl⟩
  go_wp2_with fail
  go_ret
  exact ⟨rfl, rfl⟩

end Go.Proofs.YthgdgkdnidjdgaaDoor

/-
  Transactions as plain data: which may be, their bytes, which one bytes begin with. No function of the program.
-/
namespace Go.Proofs.YthgdgkdnidjdgaaDoor
set_option maxRecDepth 20000

/-- A key's byte: a to z, 0 to 9. -/
def keyCh (c : UInt8) : Bool := (decide (97 ≤ c.toNat) && decide (c.toNat ≤ 122)) || (decide (48 ≤ c.toNat) && decide (c.toNat ≤ 57))
def keyOk (l : List UInt8) : Bool := l.all keyCh && (decide (1 ≤ l.length) && decide (l.length ≤ 16))

/-- A transaction. -/
structure TxM where
  fr : Int
  no : Int
  ki : Int
  to : Int
  am : Int
  key : List UInt8
  val : List UInt8
  deriving DecidableEq
def txv (t : TxM) : Go.Value := .agg #[.int .i64 t.fr, .int .i64 t.no, .int .i64 t.ki, .int .i64 t.to, .int .i64 t.am, .string (sb t.key), .string (sb t.val)]
def txZ : TxM := ⟨0, 0, 0, 0, 0, [], []⟩

/-- May it be? -/
def mayT (t : TxM) : Bool :=
  if t.fr < 1 ∨ 40 < t.fr ∨ t.no < 1 ∨ 1099511627776 < t.no then false else
  if t.ki = 1 then decide (1 ≤ t.to) && decide (t.to ≤ 40) && decide (0 ≤ t.am) && decide (t.am ≤ 1099511627776) && decide (t.key = []) && decide (t.val = []) else
  if t.ki = 2 then decide (t.to = 0) && decide (t.am = 0) && keyOk t.key && decide (t.val.length ≤ 200) else
  if t.ki = 3 then decide (t.to = 0) && decide (t.am = 0) && keyOk t.key && decide (t.val = []) else false

/-- Its bytes. -/
def bytesT (t : TxM) : List UInt8 :=
  dg t.fr.toNat ++ (dg t.no.toNat ++ (dg t.ki.toNat ++ (if t.ki = 1 then dg t.to.toNat ++ dg t.am.toNat else if t.ki = 2 then tx t.key ++ tx t.val else tx t.key)))

/-- What is read behind the kind. -/
def rdTail (l : List UInt8) (f n k p : Nat) (r : Bool) : TxM × Nat × Bool :=
  if k = 1 then (⟨f, n, k, (rdUpto 40 l p r).1, (rdUpto 1099511627776 l (rdUpto 40 l p r).2.1 (rdUpto 40 l p r).2.2).1, [], []⟩, (rdUpto 1099511627776 l (rdUpto 40 l p r).2.1 (rdUpto 40 l p r).2.2).2) else
  if k = 2 then (⟨f, n, k, 0, 0, (rdText l p r).1, (rdText l (rdText l p r).2.1 (rdText l p r).2.2).1⟩, (rdText l (rdText l p r).2.1 (rdText l p r).2.2).2) else
  if k = 3 then (⟨f, n, k, 0, 0, (rdText l p r).1, []⟩, (rdText l p r).2) else (⟨f, n, k, 0, 0, [], []⟩, p, r)
/-- What is read from a place on, whether it may be or not. -/
def rdRaw (l : List UInt8) (p : Nat) (r : Bool) : TxM × Nat × Bool :=
  let a := rdUpto 40 l p r
  let b := rdUpto 1099511627776 l a.2.1 a.2.2
  let c := rdUpto 3 l b.2.1 b.2.2
  rdTail l a.1 b.1 c.1 c.2.1 c.2.2
/-- Is there one? -/
def rdIs (l : List UInt8) (p : Nat) (r : Bool) : Bool := (rdRaw l p r).2.2 && mayT (rdRaw l p r).1
/-- Which one. -/
def rdTx (l : List UInt8) (p : Nat) (r : Bool) : TxM := if rdIs l p r = true then (rdRaw l p r).1 else txZ

theorem rdUpto_bad (m : Int) (l : List UInt8) (p : Nat) : rdUpto m l p false = (0, p, false) := by
  unfold rdUpto
  split
  · rfl
  · exact rdNum_bad _ _ _
theorem rdUpto_at {L r : List UInt8} {p n : Nat} {m : Int} (h : L.drop p = dg n ++ r) (hm : (n : Int) ≤ m) (hn : n < 18446744073709551616) : rdUpto m L p true = (n, p + (dg n).length, true) := by
  unfold rdUpto
  rw [if_neg (by omega), rdNum_yes (frst_eq hn ⟨r, h.symm⟩) (by omega)]
/-- What was read was written just so. -/
theorem rdUpto_so {L : List UInt8} {p n q : Nat} {r : Bool} {m : Int} (h : rdUpto m L p r = (n, q, true)) : r = true ∧ n < 18446744073709551616 ∧ (n : Int) ≤ m ∧ q = p + (dg n).length ∧ ∃ x, L.drop p = dg n ++ x := by
  unfold rdUpto at h
  split at h
  · cases h
  · cases r with
    | false => rw [rdNum_bad] at h; cases h
    | true =>
      cases hf : frst (L.drop p) with
      | none => rw [rdNum_no hf] at h; cases h
      | some k =>
        by_cases hk : k ≤ m.toNat
        · rw [rdNum_yes hf hk] at h
          cases h
          obtain ⟨h1, x, hx⟩ := frst_some hf
          exact ⟨rfl, h1, by omega, rfl, x, hx.symm⟩
        · rw [rdNum_big hf hk] at h; cases h
theorem rdText_so {L t : List UInt8} {p q : Nat} {r : Bool} (h : rdText L p r = (t, q, true)) : r = true ∧ t.length ≤ 65536 ∧ q = p + (tx t).length ∧ ∃ x, L.drop p = tx t ++ x := by
  cases r with
  | false => rw [rdText_bad] at h; cases h
  | true =>
    cases hf : frst (L.drop p) with
    | none => rw [rdText_no hf] at h; cases h
    | some k =>
      by_cases hk : k ≤ 65536 ∧ p + (dg k).length + k ≤ L.length
      · rw [rdText_yes hf hk.1 hk.2] at h
        obtain ⟨h1, x, hx⟩ := frst_some hf
        have hd := drop_more hx.symm
        injection h with ha hb
        injection hb with hb _
        have hl : t.length = k := by rw [← ha, List.length_take, List.length_drop]; omega
        subst ha
        refine ⟨rfl, by omega, ?_, x.drop k, ?_⟩
        · rw [tx_len, hl]; omega
        · unfold tx
          rw [hl, ← hx, List.append_assoc, hd, List.take_append_drop]
      · rw [rdText_big hf hk] at h; cases h
end Go.Proofs.YthgdgkdnidjdgaaDoor

/-
  What is put is read; what is read was written just so: transactions, as plain data. No function of the program.
-/
namespace Go.Proofs.YthgdgkdnidjdgaaDoor
set_option maxRecDepth 20000

theorem mayT_iff {t : TxM} (h : mayT t = true) : (1 ≤ t.fr ∧ t.fr ≤ 40) ∧ (1 ≤ t.no ∧ t.no ≤ 1099511627776) ∧
    ((t.ki = 1 ∧ (1 ≤ t.to ∧ t.to ≤ 40) ∧ (0 ≤ t.am ∧ t.am ≤ 1099511627776) ∧ t.key = [] ∧ t.val = []) ∨ (t.ki = 2 ∧ t.to = 0 ∧ t.am = 0 ∧ keyOk t.key = true ∧ t.val.length ≤ 200) ∨ (t.ki = 3 ∧ t.to = 0 ∧ t.am = 0 ∧ keyOk t.key = true ∧ t.val = [])) := by
  unfold mayT at h
  split at h
  · cases h
  · refine ⟨by omega, by omega, ?_⟩
    split at h
    · rename_i hk
      simp only [Bool.and_eq_true, decide_eq_true_eq] at h
      exact .inl ⟨hk, ⟨h.1.1.1.1.1, h.1.1.1.1.2⟩, ⟨h.1.1.1.2, h.1.1.2⟩, h.1.2, h.2⟩
    · split at h
      · rename_i hk
        simp only [Bool.and_eq_true, decide_eq_true_eq] at h
        exact .inr (.inl ⟨hk, h.1.1.1, h.1.1.2, h.1.2, h.2⟩)
      · split at h
        · rename_i hk
          simp only [Bool.and_eq_true, decide_eq_true_eq] at h
          exact .inr (.inr ⟨hk, h.1.1.1, h.1.1.2, h.1.2, h.2⟩)
        · cases h
theorem keyOk_len {l : List UInt8} (h : keyOk l = true) : 1 ≤ l.length ∧ l.length ≤ 16 := by
  unfold keyOk at h
  simp only [Bool.and_eq_true, decide_eq_true_eq] at h
  exact h.2
theorem nat_of {i : Int} (h : 0 ≤ i) : ∃ n : Nat, i = (n : Int) := ⟨i.toNat, by omega⟩
theorem bytesT_len {t : TxM} (h : mayT t = true) : (bytesT t).length ≤ 300 := by
  obtain ⟨h1, h2, h3⟩ := mayT_iff h
  have l1 := dg_len 0 t.fr.toNat (by omega)
  have l2 := dg_len10 (n := t.no.toNat) (by omega)
  have l3 := dg_len 0 t.ki.toNat (by rcases h3 with h | h | h <;> rw [h.1] <;> decide)
  unfold bytesT
  rw [List.length_append, List.length_append, List.length_append]
  rcases h3 with ⟨hk, ha, hb, _⟩ | ⟨hk, _, _, hk1, hv⟩ | ⟨hk, _, _, hk1, _⟩
  · have l4 := dg_len 0 t.to.toNat (by omega)
    have l5 := dg_len10 (n := t.am.toNat) (by omega)
    rw [if_pos hk, List.length_append]
    omega
  · have := keyOk_len hk1
    have l4 := dg_len10 (n := t.key.length) (by omega)
    have l5 := dg_len10 (n := t.val.length) (by omega)
    rw [if_neg (by rw [hk]; decide), if_pos hk, List.length_append, tx_len, tx_len]
    omega
  · have := keyOk_len hk1
    have l4 := dg_len10 (n := t.key.length) (by omega)
    rw [if_neg (by rw [hk]; decide), if_neg (by rw [hk]; decide), tx_len]
    omega

theorem bytesT_one (a b d e : Nat) (x y : List UInt8) : bytesT ⟨(a : Int), (b : Int), ((1 : Nat) : Int), (d : Int), (e : Int), x, y⟩ = dg a ++ (dg b ++ (dg 1 ++ (dg d ++ dg e))) := by
  unfold bytesT
  rw [if_pos (show ((1 : Nat) : Int) = 1 from rfl)]
  simp only [Int.toNat_natCast]
theorem bytesT_two (a b : Nat) (d e : Int) (x y : List UInt8) : bytesT ⟨(a : Int), (b : Int), ((2 : Nat) : Int), d, e, x, y⟩ = dg a ++ (dg b ++ (dg 2 ++ (tx x ++ tx y))) := by
  unfold bytesT
  rw [if_neg (show ¬ ((2 : Nat) : Int) = 1 by omega), if_pos (show ((2 : Nat) : Int) = 2 from rfl)]
  simp only [Int.toNat_natCast]
theorem bytesT_three (a b : Nat) (d e : Int) (x y : List UInt8) : bytesT ⟨(a : Int), (b : Int), ((3 : Nat) : Int), d, e, x, y⟩ = dg a ++ (dg b ++ (dg 3 ++ tx x)) := by
  unfold bytesT
  rw [if_neg (show ¬ ((3 : Nat) : Int) = 1 by omega), if_neg (show ¬ ((3 : Nat) : Int) = 2 by omega)]
  simp only [Int.toNat_natCast]

/-- What is put is read. -/
theorem rdRaw_back {t : TxM} {L r : List UInt8} {p : Nat} (hm : mayT t = true) (h : L.drop p = bytesT t ++ r) : rdRaw L p true = (t, p + (bytesT t).length, true) := by
  obtain ⟨h1, h2, h3⟩ := mayT_iff hm
  obtain ⟨fr, no, ki, tu, am, key, val⟩ := t
  obtain ⟨a, rfl⟩ := nat_of (i := fr) (by have := h1.1; simp only at this; omega)
  obtain ⟨b, rfl⟩ := nat_of (i := no) (by have := h2.1; simp only at this; omega)
  obtain ⟨c, rfl⟩ := nat_of (i := ki) (by simp only at h3; omega)
  simp only at h1 h2 h3
  unfold bytesT at h ⊢
  simp only [Int.toNat_natCast, List.append_assoc] at h ⊢
  have d1 := drop_more h
  have d2 := drop_more d1
  have d3 := drop_more d2
  unfold rdRaw
  simp only [rdUpto_at (m := 40) h (by omega) (by omega), rdUpto_at (m := 1099511627776) d1 (by omega) (by omega), rdUpto_at (m := 3) d2 (by omega) (by omega)]
  unfold rdTail
  rcases h3 with ⟨hk, ha, hb, rfl, rfl⟩ | ⟨hk, rfl, rfl, hk1, hv⟩ | ⟨hk, rfl, rfl, hk1, rfl⟩
  · obtain ⟨d, rfl⟩ := nat_of (i := tu) (by omega)
    obtain ⟨e, rfl⟩ := nat_of (i := am) (by omega)
    obtain rfl : c = 1 := by omega
    simp only [Int.toNat_natCast, ↓reduceIte, List.append_assoc, Int.cast_ofNat_Int] at d3 ⊢
    have d4 := drop_more d3
    simp only [rdUpto_at (m := 40) d3 (by omega) (by omega), rdUpto_at (m := 1099511627776) d4 (by omega) (by omega)]
    simp [Nat.add_assoc]
  · have hkl := keyOk_len hk1
    obtain rfl : c = 2 := by omega
    rw [if_neg (by decide), if_pos (by decide), List.append_assoc] at d3
    have d4 := drop_more d3
    simp only [rdText_at d3 (by omega), rdText_at d4 (by omega)]
    simp [Nat.add_assoc]
  · have hkl := keyOk_len hk1
    obtain rfl : c = 3 := by omega
    rw [if_neg (by decide), if_neg (by decide)] at d3
    simp only [rdText_at d3 (by omega)]
    simp [Nat.add_assoc]

/-- What is read was written just so. -/
theorem rdRaw_so {L : List UInt8} {p : Nat} {r : Bool} (h : (rdRaw L p r).2.2 = true) (hm : mayT (rdRaw L p r).1 = true) :
    r = true ∧ (rdRaw L p r).2.1 = p + (bytesT (rdRaw L p r).1).length ∧ ∃ x, L.drop p = bytesT (rdRaw L p r).1 ++ x := by
  unfold rdRaw at h hm ⊢
  obtain ⟨a, p1, r1, ha⟩ : ∃ x q s, rdUpto 40 L p r = (x, q, s) := ⟨_, _, _, rfl⟩
  obtain ⟨b, p2, r2, hb⟩ : ∃ x q s, rdUpto 1099511627776 L p1 r1 = (x, q, s) := ⟨_, _, _, rfl⟩
  obtain ⟨c, p3, r3, hc⟩ : ∃ x q s, rdUpto 3 L p2 r2 = (x, q, s) := ⟨_, _, _, rfl⟩
  simp only [ha, hb, hc] at h hm ⊢
  have key : ∀ x3, r3 = true → L.drop p3 = x3 → r = true ∧ p3 = p + ((dg a).length + ((dg b).length + (dg c).length)) ∧ L.drop p = dg a ++ (dg b ++ (dg c ++ x3)) := by
    intro x3 hr3 hx3
    subst hr3
    obtain ⟨rfl, _, _, e3, y3, hy3⟩ := rdUpto_so hc
    obtain ⟨rfl, _, _, e2, y2, hy2⟩ := rdUpto_so hb
    obtain ⟨rfl, _, _, e1, y1, hy1⟩ := rdUpto_so ha
    have z1 := drop_more hy1
    have z2 := drop_more hy2
    have z3 := drop_more hy3
    rw [← e1] at z1
    rw [← e2] at z2
    rw [← e3] at z3
    refine ⟨rfl, by omega, ?_⟩
    rw [hy1, ← z1, hy2, ← z2, hy3, ← z3, hx3]
  unfold rdTail at h hm ⊢
  split at h
  · rename_i hk
    subst hk
    rw [if_pos rfl] at hm
    rw [if_pos rfl]
    obtain ⟨d, p4, r4, hd⟩ : ∃ x q s, rdUpto 40 L p3 r3 = (x, q, s) := ⟨_, _, _, rfl⟩
    obtain ⟨e, p5, r5, he⟩ : ∃ x q s, rdUpto 1099511627776 L p4 r4 = (x, q, s) := ⟨_, _, _, rfl⟩
    simp only [hd, he] at h hm ⊢
    subst h
    obtain ⟨rfl, _, _, e5, y5, hy5⟩ := rdUpto_so he
    obtain ⟨rfl, _, _, e4, y4, hy4⟩ := rdUpto_so hd
    have z4 := drop_more hy4
    rw [← e4, hy5] at z4
    obtain ⟨k1, k2, k3⟩ := key _ rfl hy4
    rw [← z4] at k3
    refine ⟨k1, ?_, y5, ?_⟩
    · rw [bytesT_one]
      simp only [List.length_append]
      omega
    · rw [bytesT_one]
      simp only [List.append_assoc]
      exact k3
  · rename_i hk
    rw [if_neg hk] at hm
    rw [if_neg hk]
    split at h
    · rename_i hk2
      subst hk2
      rw [if_pos rfl] at hm
      rw [if_pos rfl]
      obtain ⟨d, p4, r4, hd⟩ : ∃ x q s, rdText L p3 r3 = (x, q, s) := ⟨_, _, _, rfl⟩
      obtain ⟨e, p5, r5, he⟩ : ∃ x q s, rdText L p4 r4 = (x, q, s) := ⟨_, _, _, rfl⟩
      simp only [hd, he] at h hm ⊢
      subst h
      obtain ⟨rfl, _, e5, y5, hy5⟩ := rdText_so he
      obtain ⟨rfl, _, e4, y4, hy4⟩ := rdText_so hd
      have z4 := drop_more hy4
      rw [← e4, hy5] at z4
      obtain ⟨k1, k2, k3⟩ := key _ rfl hy4
      rw [← z4] at k3
      refine ⟨k1, ?_, y5, ?_⟩
      · rw [bytesT_two]
        simp only [List.length_append]
        omega
      · rw [bytesT_two]
        simp only [List.append_assoc]
        exact k3
    · rename_i hk2
      rw [if_neg hk2] at hm
      rw [if_neg hk2]
      split at h
      · rename_i hk3
        subst hk3
        rw [if_pos rfl] at hm
        rw [if_pos rfl]
        obtain ⟨d, p4, r4, hd⟩ : ∃ x q s, rdText L p3 r3 = (x, q, s) := ⟨_, _, _, rfl⟩
        simp only [hd] at h hm ⊢
        subst h
        obtain ⟨rfl, _, e4, y4, hy4⟩ := rdText_so hd
        obtain ⟨k1, k2, k3⟩ := key _ rfl hy4
        refine ⟨k1, ?_, y4, ?_⟩
        · rw [bytesT_three]
          simp only [List.length_append]
          omega
        · rw [bytesT_three]
          simp only [List.append_assoc]
          exact k3
      · rename_i hk3
        rw [if_neg hk3] at hm
        exfalso
        obtain ⟨_, _, h3⟩ := mayT_iff hm
        simp only at h3
        omega

theorem rdTx_back {t : TxM} {L r : List UInt8} {p : Nat} (hm : mayT t = true) (h : L.drop p = bytesT t ++ r) : rdIs L p true = true ∧ rdTx L p true = t ∧ (rdRaw L p true).2.1 = p + (bytesT t).length := by
  have e := rdRaw_back hm h
  have hi : rdIs L p true = true := by unfold rdIs; rw [e, hm]; rfl
  exact ⟨hi, by unfold rdTx; rw [if_pos hi, e], by rw [e]⟩
theorem rdIs_iff {L : List UInt8} {p : Nat} {r : Bool} (h : rdIs L p r = true) : (rdRaw L p r).2.2 = true ∧ mayT (rdRaw L p r).1 = true := by
  unfold rdIs at h
  rwa [Bool.and_eq_true] at h
theorem rdTx_so {L : List UInt8} {p : Nat} {r : Bool} (h : rdIs L p r = true) : r = true ∧ mayT (rdTx L p r) = true ∧ (rdRaw L p r).2.1 = p + (bytesT (rdTx L p r)).length ∧ ∃ x, L.drop p = bytesT (rdTx L p r) ++ x := by
  obtain ⟨h1, h2⟩ := rdIs_iff h
  obtain ⟨k1, k2, k3⟩ := rdRaw_so h1 h2
  unfold rdTx
  rw [if_pos h]
  exact ⟨k1, h2, k2, k3⟩
end Go.Proofs.YthgdgkdnidjdgaaDoor

/-
  Blocks as plain data: which may be, their bytes, which one bytes are. No function of the program.
-/
namespace Go.Proofs.YthgdgkdnidjdgaaDoor
set_option maxRecDepth 20000

/-- A block. -/
structure BkM where
  par : List UInt8
  vi : Int
  he : Int
  bo : Int
  txs : List TxM
/-- The first block. -/
def bkZ : BkM := ⟨List.replicate 32 0, 0, 0, 0, []⟩
/-- Are blocks alike? -/
noncomputable def sameK (a b : BkM) : Bool := @decide (a = b) (Classical.propDecidable _)
theorem sameK_self (a : BkM) : sameK a a = true := by unfold sameK; exact @decide_eq_true _ (Classical.propDecidable _) rfl
theorem sameK_iff {a b : BkM} : sameK a b = true ↔ a = b := by unfold sameK; exact @decide_eq_true_iff _ (Classical.propDecidable _)
theorem sameK_no {a b : BkM} (h : a ≠ b) : sameK a b = false := by unfold sameK; exact @decide_eq_false _ (Classical.propDecidable _) h

/-- Has it what a block behind the first one has? -/
def numsK (b : BkM) : Bool := decide (1 ≤ b.vi) && decide (b.vi ≤ 1099511627776) && decide (1 ≤ b.he) && decide (b.he ≤ 1099511627776) && decide (1 ≤ b.bo) && decide (b.bo ≤ 21) && decide (b.txs.length ≤ 8)
/-- May it be? -/
noncomputable def mayK (b : BkM) : Bool := sameK b bkZ || (b.txs.all mayT && numsK b)
/-- Its bytes. -/
def bytesK (b : BkM) : List UInt8 :=
  b.par ++ (dg b.vi.toNat ++ (dg b.he.toNat ++ (dg b.bo.toNat ++ (dg b.txs.length ++ (b.txs.map bytesT).flatten))))

theorem mayK_first : mayK bkZ = true := by unfold mayK; rw [sameK_self]; rfl
theorem mayK_of {b : BkM} (h : mayK b = true) : b = bkZ ∨ (b.txs.all mayT = true ∧ 1 ≤ b.vi ∧ b.vi ≤ 1099511627776 ∧ 1 ≤ b.he ∧ b.he ≤ 1099511627776 ∧ 1 ≤ b.bo ∧ b.bo ≤ 21 ∧ b.txs.length ≤ 8) := by
  unfold mayK numsK at h
  rw [Bool.or_eq_true] at h
  rcases h with h | h
  · exact .inl (sameK_iff.1 h)
  · right
    simp only [Bool.and_eq_true, decide_eq_true_eq] at h
    obtain ⟨h0, ⟨⟨⟨⟨⟨h1, h2⟩, h3⟩, h4⟩, h5⟩, h6⟩, h7⟩ := h
    exact ⟨h0, h1, h2, h3, h4, h5, h6, h7⟩
theorem mayK_all {b : BkM} (h : mayK b = true) : (∀ t ∈ b.txs, mayT t = true) ∧ 0 ≤ b.vi ∧ b.vi ≤ 1099511627776 ∧ 0 ≤ b.he ∧ b.he ≤ 1099511627776 ∧ 0 ≤ b.bo ∧ b.bo ≤ 21 ∧ b.txs.length ≤ 8 := by
  rcases mayK_of h with rfl | ⟨h0, h⟩
  · refine ⟨fun t ht => absurd ht (by simp [bkZ]), ?_⟩
    simp [bkZ]
  · exact ⟨fun t ht => List.all_eq_true.1 h0 t ht, by omega, by omega, by omega, by omega, by omega, by omega, h.2.2.2.2.2.2⟩

/-- So many transactions read from a place on; where the next one is read. -/
def rdTxs (l : List UInt8) (p : Nat) (r : Bool) : Nat → Option (List TxM × Nat × Bool)
  | 0 => some ([], p, r)
  | k + 1 => match rdTxs l p r k with
    | none => none
    | some x => if rdIs l x.2.1 x.2.2 = true then some (x.1 ++ [rdTx l x.2.1 x.2.2], (rdRaw l x.2.1 x.2.2).2.1, true) else none
theorem rdTxs_len {l : List UInt8} {p : Nat} {r : Bool} : ∀ {k : Nat} {x : List TxM × Nat × Bool}, rdTxs l p r k = some x → x.1.length = k
  | 0, x, h => by cases h; rfl
  | k + 1, x, h => by
    unfold rdTxs at h
    split at h
    · cases h
    · rename_i y hy
      have := rdTxs_len hy
      split at h
      · cases h
        simp [this]
      · cases h
theorem rdTxs_none {l : List UInt8} {p : Nat} {r : Bool} {k : Nat} (h : rdTxs l p r k = none) : ∀ m, k ≤ m → rdTxs l p r m = none
  | 0, hm => by obtain rfl : k = 0 := by omega
                exact h
  | m + 1, hm => by
    by_cases e : k = m + 1
    · rw [← e]; exact h
    · unfold rdTxs
      rw [rdTxs_none h m (by omega)]
/-- What was put is read. -/
theorem rdTxs_back {L r : List UInt8} : ∀ (ts : List TxM) (p : Nat), (∀ t ∈ ts, mayT t = true) → L.drop p = (ts.map bytesT).flatten ++ r →
    ∀ k, k ≤ ts.length → rdTxs L p true k = some (ts.take k, p + ((ts.take k).map bytesT).flatten.length, true) := by
  intro ts p hm h k
  induction k with
  | zero => intro _; simp [rdTxs]
  | succ k ih =>
    intro hk
    have hlt : k < ts.length := by omega
    unfold rdTxs
    rw [ih (by omega)]
    have e1 : ts = ts.take k ++ (ts[k] :: ts.drop (k + 1)) := by
      rw [← List.drop_eq_getElem_cons hlt, List.take_append_drop]
    have hd : L.drop (p + ((ts.take k).map bytesT).flatten.length) = bytesT ts[k] ++ (((ts.drop (k + 1)).map bytesT).flatten ++ r) := by
      have h' := h
      rw [e1] at h'
      simp only [List.map_append, List.map_cons, List.flatten_append, List.flatten_cons, List.append_assoc] at h'
      exact drop_more h'
    obtain ⟨i1, i2, i3⟩ := rdTx_back (hm _ (List.getElem_mem hlt)) hd
    simp only [i1, i2, i3, ↓reduceIte]
    rw [List.take_succ_eq_append_getElem hlt]
    simp only [List.map_append, List.map_cons, List.map_nil, List.flatten_append, List.flatten_cons, List.flatten_nil, List.append_nil, List.length_append, Nat.add_assoc]
/-- What is read was written just so. -/
theorem rdTxs_so {L : List UInt8} {p : Nat} {r : Bool} : ∀ {k : Nat} {x : List TxM × Nat × Bool}, rdTxs L p r k = some x →
    x.2.2 = true → r = true ∧ (∀ t ∈ x.1, mayT t = true) ∧ x.2.1 = p + (x.1.map bytesT).flatten.length ∧ ∃ y, L.drop p = (x.1.map bytesT).flatten ++ y := by
  intro k
  induction k with
  | zero => intro x h hr; cases h; exact ⟨hr, fun t ht => absurd ht (by simp), by simp, L.drop p, by simp⟩
  | succ k ih =>
    intro x h hr
    unfold rdTxs at h
    split at h
    · cases h
    · rename_i y hy
      split at h
      · rename_i hi
        cases h
        obtain ⟨j1, j2, j3, z, j4⟩ := rdTx_so hi
        obtain ⟨i1, i2, i3, u, i4⟩ := ih hy j1
        have hz := drop_more i4
        rw [← i3, j4] at hz
        refine ⟨i1, fun t ht => ?_, ?_, z, ?_⟩
        · rcases List.mem_append.1 ht with ht | ht
          · exact i2 t ht
          · rw [List.mem_singleton.1 ht]; exact j2
        · simp only [List.map_append, List.map_cons, List.map_nil, List.flatten_append, List.flatten_cons, List.flatten_nil, List.append_nil, List.length_append]
          omega
        · rw [i4, ← hz]
          simp
      · cases h

theorem rdHash_32 (l : List UInt8) (p : Nat) (r : Bool) : (rdHash l p r).1.length = 32 := by
  unfold rdHash
  split
  · simp
  · split
    · simp; omega
    · simp
theorem rdHash_so {L h : List UInt8} {p q : Nat} {r : Bool} (e : rdHash L p r = (h, q, true)) : r = true ∧ h.length = 32 ∧ q = p + h.length ∧ ∃ x, L.drop p = h ++ x := by
  have h32 := rdHash_32 L p r
  rw [e] at h32
  simp only at h32
  unfold rdHash at e
  split at e
  · cases e
  · rename_i hr
    split at e
    · cases e
      refine ⟨by simpa using hr, h32, by omega, L.drop (p + 32), ?_⟩
      rw [← List.drop_drop, List.take_append_drop]
    · cases e

/-- What a block begins with. -/
structure HdM where
  par : List UInt8
  vi : Int
  he : Int
  bo : Int
  n : Nat
  p : Nat
  r : Bool
def rdHd (l : List UInt8) : HdM :=
  let a := rdHash l 0 true
  let b := rdUpto 1099511627776 l a.2.1 a.2.2
  let c := rdUpto 1099511627776 l b.2.1 b.2.2
  let d := rdUpto 21 l c.2.1 c.2.2
  let e := rdUpto 8 l d.2.1 d.2.2
  ⟨a.1, b.1, c.1, d.1, e.1, e.2.1, e.2.2⟩
/-- The block whose bytes they are. -/
noncomputable def getK (l : List UInt8) : Option BkM :=
  match rdTxs l (rdHd l).p (rdHd l).r (rdHd l).n with
  | none => none
  | some x => if x.2.2 = true ∧ mayK ⟨(rdHd l).par, (rdHd l).vi, (rdHd l).he, (rdHd l).bo, x.1⟩ = true ∧ bytesK ⟨(rdHd l).par, (rdHd l).vi, (rdHd l).he, (rdHd l).bo, x.1⟩ = l
    then some ⟨(rdHd l).par, (rdHd l).vi, (rdHd l).he, (rdHd l).bo, x.1⟩ else none

theorem getK_so {l : List UInt8} {b : BkM} (h : getK l = some b) : mayK b = true ∧ bytesK b = l := by
  unfold getK at h
  split at h
  · cases h
  · split at h
    · rename_i hc
      cases h
      exact hc.2
    · cases h
theorem hd_back {b : BkM} (hp : b.par.length = 32) (hm : mayK b = true) :
    rdHd (bytesK b) = ⟨b.par, b.vi, b.he, b.bo, b.txs.length, 32 + (dg b.vi.toNat).length + (dg b.he.toNat).length + (dg b.bo.toNat).length + (dg b.txs.length).length, true⟩ ∧
      (bytesK b).drop (32 + (dg b.vi.toNat).length + (dg b.he.toNat).length + (dg b.bo.toNat).length + (dg b.txs.length).length) = (b.txs.map bytesT).flatten ++ [] := by
  obtain ⟨_, h1, h2, h3, h4, h5, h6, h7⟩ := mayK_all hm
  obtain ⟨par, vi, he, bo, txs⟩ := b
  simp only at hp h1 h2 h3 h4 h5 h6 h7 ⊢
  obtain ⟨v, rfl⟩ := nat_of (i := vi) h1
  obtain ⟨e, rfl⟩ := nat_of (i := he) h3
  obtain ⟨o, rfl⟩ := nat_of (i := bo) h5
  have d0 : (bytesK ⟨par, (v : Int), (e : Int), (o : Int), txs⟩).drop 0 = par ++ (dg v ++ (dg e ++ (dg o ++ (dg txs.length ++ (txs.map bytesT).flatten)))) := by
    unfold bytesK
    simp only [List.drop_zero, Int.toNat_natCast]
  have d1 := drop_more d0
  rw [hp, Nat.zero_add] at d1
  have d2 := drop_more d1
  have d3 := drop_more d2
  have d4 := drop_more d3
  have d5 := drop_more d4
  unfold rdHd
  simp only [Int.toNat_natCast, rdHash_at d0 hp, Nat.zero_add, rdUpto_at (m := 1099511627776) d1 (by omega) (by omega), rdUpto_at (m := 1099511627776) d2 (by omega) (by omega),
    rdUpto_at (m := 21) d3 (by omega) (by omega), rdUpto_at (m := 8) d4 (by omega) (by omega)]
  refine ⟨trivial, ?_⟩
  rw [List.append_nil]
  exact d5
theorem getK_back {b : BkM} (hp : b.par.length = 32) (hm : mayK b = true) : getK (bytesK b) = some b := by
  obtain ⟨e1, e2⟩ := hd_back hp hm
  unfold getK
  rw [e1]
  simp only
  rw [rdTxs_back b.txs _ (mayK_all hm).1 e2 _ (Nat.le_refl _), List.take_of_length_le (Nat.le_refl _)]
  simp only
  rw [if_pos ⟨trivial, hm, trivial⟩]
/-- A hash that is read has 32 bytes. -/
theorem getK_par {l : List UInt8} {b : BkM} (h : getK l = some b) : b.par.length = 32 := by
  unfold getK at h
  split at h
  · cases h
  · split at h
    · cases h
      unfold rdHd
      simp only
      exact rdHash_32 l 0 true
    · cases h
/-- What was read to the end was written just so: no look at the bytes is wanted. -/
theorem getK_end {l : List UInt8} {x : List TxM × Nat × Bool} (h : rdTxs l (rdHd l).p (rdHd l).r (rdHd l).n = some x) (hr : x.2.2 = true) (he : x.2.1 = l.length) :
    bytesK ⟨(rdHd l).par, (rdHd l).vi, (rdHd l).he, (rdHd l).bo, x.1⟩ = l := by
  have hlen := rdTxs_len h
  obtain ⟨i1, i2, i3, z, i4⟩ := rdTxs_so h hr
  rw [i3] at he
  unfold rdHd at i1 i4 he hlen ⊢
  obtain ⟨a, p1, r1, ha⟩ : ∃ x q s, rdHash l 0 true = (x, q, s) := ⟨_, _, _, rfl⟩
  obtain ⟨b, p2, r2, hb⟩ : ∃ x q s, rdUpto 1099511627776 l p1 r1 = (x, q, s) := ⟨_, _, _, rfl⟩
  obtain ⟨c, p3, r3, hc⟩ : ∃ x q s, rdUpto 1099511627776 l p2 r2 = (x, q, s) := ⟨_, _, _, rfl⟩
  obtain ⟨d, p4, r4, hd⟩ : ∃ x q s, rdUpto 21 l p3 r3 = (x, q, s) := ⟨_, _, _, rfl⟩
  obtain ⟨e, p5, r5, hf⟩ : ∃ x q s, rdUpto 8 l p4 r4 = (x, q, s) := ⟨_, _, _, rfl⟩
  simp only [ha, hb, hc, hd, hf] at i1 i4 he hlen ⊢
  subst i1
  obtain ⟨rfl, _, _, q5, y5, hy5⟩ := rdUpto_so hf
  obtain ⟨rfl, _, _, q4, y4, hy4⟩ := rdUpto_so hd
  obtain ⟨rfl, _, _, q3, y3, hy3⟩ := rdUpto_so hc
  obtain ⟨rfl, _, _, q2, y2, hy2⟩ := rdUpto_so hb
  obtain ⟨_, _, q1, y1, hy1⟩ := rdHash_so ha
  have z1 := drop_more hy1
  rw [← q1] at z1
  have z2 := drop_more hy2
  have z3 := drop_more hy3
  have z4 := drop_more hy4
  have z5 := drop_more hy5
  have z6 := drop_more i4
  rw [hy2] at z1
  rw [← q2, hy3] at z2
  rw [← q3, hy4] at z3
  rw [← q4, hy5] at z4
  rw [← q5, i4] at z5
  rw [he, List.drop_eq_nil_of_le (Nat.le_refl _)] at z6
  rw [List.drop_zero] at hy1
  unfold bytesK
  simp only [Int.toNat_natCast]
  rw [hy1, ← z1, ← z2, ← z3, ← z4, ← z5, ← z6, hlen]
  simp
end Go.Proofs.YthgdgkdnidjdgaaDoor

/-
  Attestations as plain data: which may be, what is tagged, their bytes, which one bytes begin with. No function of the program.
-/
namespace Go.Proofs.YthgdgkdnidjdgaaDoor
set_option maxRecDepth 20000

/-- An attestation. -/
structure AtM where
  bo : Int
  ki : Int
  vi : Int
  ph : Int
  ha : List UInt8
  pv : Int
  pa : List UInt8
  tg : List UInt8
  deriving DecidableEq
def z32 : List UInt8 := List.replicate 32 0
def atZ : AtM := ⟨0, 0, 0, 0, z32, 0, z32, z32⟩
/-- Its hashes have 32 bytes. -/
structure AtM.Ok (a : AtM) : Prop where
  ha : a.ha.length = 32
  pa : a.pa.length = 32
  tg : a.tg.length = 32
theorem atZ_ok : atZ.Ok := ⟨rfl, rfl, rfl⟩

/-- May it be? -/
def mayA (a : AtM) : Bool :=
  if a.bo < 1 ∨ 21 < a.bo ∨ a.ki < 1 ∨ 3 < a.ki ∨ a.ph ≠ a.ki ∨ a.vi < 1 ∨ 1099511627776 < a.vi ∨ a.pv < 0 then false else decide (a.pv < a.vi) || (decide (a.ki = 3) && decide (a.pv = a.vi))
theorem mayA_iff {a : AtM} (h : mayA a = true) : 1 ≤ a.bo ∧ a.bo ≤ 21 ∧ 1 ≤ a.ki ∧ a.ki ≤ 3 ∧ a.ph = a.ki ∧ 1 ≤ a.vi ∧ a.vi ≤ 1099511627776 ∧ 0 ≤ a.pv ∧ a.pv ≤ a.vi := by
  unfold mayA at h
  split at h
  · cases h
  · rename_i hn
    simp only [Bool.or_eq_true, Bool.and_eq_true, decide_eq_true_eq] at h
    omega
/-- What is tagged. -/
def taggedA (a : AtM) : List UInt8 := dg a.ki.toNat ++ (dg a.vi.toNat ++ (dg a.ph.toNat ++ (a.ha ++ (dg a.pv.toNat ++ a.pa))))
/-- Its bytes. -/
def bytesA (a : AtM) : List UInt8 := dg a.bo.toNat ++ (taggedA a ++ a.tg)
/-- Is all but who, and the tag, the same? -/
def alikeA (a b : AtM) : Bool := decide (a.ki = b.ki) && (decide (a.vi = b.vi) && (decide (a.ph = b.ph) && (decide (a.ha = b.ha) && (decide (a.pv = b.pv) && decide (a.pa = b.pa)))))
theorem alikeA_iff {a b : AtM} : alikeA a b = true ↔ a.ki = b.ki ∧ a.vi = b.vi ∧ a.ph = b.ph ∧ a.ha = b.ha ∧ a.pv = b.pv ∧ a.pa = b.pa := by
  unfold alikeA
  simp only [Bool.and_eq_true, decide_eq_true_eq]
theorem alikeA_self (a : AtM) : alikeA a a = true := alikeA_iff.2 ⟨rfl, rfl, rfl, rfl, rfl, rfl⟩
theorem alikeA_comm (a b : AtM) : alikeA a b = alikeA b a := by
  rw [Bool.eq_iff_iff, alikeA_iff, alikeA_iff]
  constructor <;> (rintro ⟨h1, h2, h3, h4, h5, h6⟩; exact ⟨h1.symm, h2.symm, h3.symm, h4.symm, h5.symm, h6.symm⟩)
theorem alikeA_trans {a b c : AtM} (h : alikeA a b = true) (k : alikeA b c = true) : alikeA a c = true := by
  rw [alikeA_iff] at h k ⊢
  obtain ⟨h1, h2, h3, h4, h5, h6⟩ := h
  obtain ⟨k1, k2, k3, k4, k5, k6⟩ := k
  exact ⟨h1.trans k1, h2.trans k2, h3.trans k3, h4.trans k4, h5.trans k5, h6.trans k6⟩

theorem taggedA_len {a : AtM} (ho : a.Ok) (hm : mayA a = true) : (taggedA a).length ≤ 104 := by
  obtain ⟨h1, h2, h3, h4, h5, h6, h7, h8, h9⟩ := mayA_iff hm
  have e1 := dg_len10 (n := a.ki.toNat) (by omega)
  have e2 := dg_len10 (n := a.vi.toNat) (by omega)
  have e3 := dg_len10 (n := a.ph.toNat) (by omega)
  have e4 := dg_len10 (n := a.pv.toNat) (by omega)
  have := ho.ha
  have := ho.pa
  unfold taggedA
  simp only [List.length_append]
  omega
theorem bytesA_len {a : AtM} (ho : a.Ok) (hm : mayA a = true) : (bytesA a).length ≤ 150 := by
  obtain ⟨h1, h2, _⟩ := mayA_iff hm
  have e1 := dg_len10 (n := a.bo.toNat) (by omega)
  have := taggedA_len ho hm
  have := ho.tg
  unfold bytesA
  simp only [List.length_append]
  omega

/-- What is read from a place on, whether it may be or not. -/
def rawA (l : List UInt8) (p : Nat) (r : Bool) : AtM × Nat × Bool :=
  let a := rdUpto 21 l p r
  let b := rdUpto 3 l a.2.1 a.2.2
  let c := rdUpto 1099511627776 l b.2.1 b.2.2
  let d := rdUpto 3 l c.2.1 c.2.2
  let e := rdHash l d.2.1 d.2.2
  let f := rdUpto 1099511627776 l e.2.1 e.2.2
  let g := rdHash l f.2.1 f.2.2
  let h := rdHash l g.2.1 g.2.2
  (⟨a.1, b.1, c.1, d.1, e.1, f.1, g.1, h.1⟩, h.2)
/-- Is there one? -/
def atIs (l : List UInt8) (p : Nat) (r : Bool) : Bool := (rawA l p r).2.2 && mayA (rawA l p r).1
/-- Which one. -/
def atOf (l : List UInt8) (p : Nat) (r : Bool) : AtM := if atIs l p r = true then (rawA l p r).1 else atZ
theorem rawA_ok (l : List UInt8) (p : Nat) (r : Bool) : (rawA l p r).1.Ok := ⟨rdHash_32 _ _ _, rdHash_32 _ _ _, rdHash_32 _ _ _⟩
theorem atOf_ok (l : List UInt8) (p : Nat) (r : Bool) : (atOf l p r).Ok := by
  unfold atOf
  split
  · exact rawA_ok l p r
  · exact atZ_ok
theorem rawA_back {a : AtM} {L r : List UInt8} {p : Nat} (ho : a.Ok) (hm : mayA a = true) (h : L.drop p = bytesA a ++ r) : rawA L p true = (a, p + (bytesA a).length, true) := by
  obtain ⟨h1, h2, h3, h4, h5, h6, h7, h8, h9⟩ := mayA_iff hm
  obtain ⟨k1, k2, k3⟩ := ho
  obtain ⟨bo, ki, vi, ph, ha, pv, pa, tg⟩ := a
  simp only at h1 h2 h3 h4 h5 h6 h7 h8 h9 k1 k2 k3
  obtain ⟨x1, rfl⟩ := nat_of (i := bo) (by omega)
  obtain ⟨x2, rfl⟩ := nat_of (i := ki) (by omega)
  obtain ⟨x3, rfl⟩ := nat_of (i := vi) (by omega)
  obtain ⟨x4, rfl⟩ := nat_of (i := ph) (by omega)
  obtain ⟨x5, rfl⟩ := nat_of (i := pv) (by omega)
  unfold bytesA taggedA at h ⊢
  simp only [Int.toNat_natCast, List.append_assoc] at h ⊢
  have d1 := drop_more h
  have d2 := drop_more d1
  have d3 := drop_more d2
  have d4 := drop_more d3
  have d5 := drop_more d4
  rw [k1] at d5
  have d6 := drop_more d5
  have d7 := drop_more d6
  rw [k2] at d7
  unfold rawA
  simp only [rdUpto_at (m := 21) h (by omega) (by omega), rdUpto_at (m := 3) d1 (by omega) (by omega), rdUpto_at (m := 1099511627776) d2 (by omega) (by omega), rdUpto_at (m := 3) d3 (by omega) (by omega), rdHash_at d4 k1,
    rdUpto_at (m := 1099511627776) d5 (by omega) (by omega), rdHash_at d6 k2, rdHash_at d7 k3]
  simp [k1, k2, k3, Nat.add_assoc]
theorem atIs_back {a : AtM} {L r : List UInt8} {p : Nat} (ho : a.Ok) (hm : mayA a = true) (h : L.drop p = bytesA a ++ r) : atIs L p true = true ∧ atOf L p true = a ∧ (rawA L p true).2.1 = p + (bytesA a).length := by
  have e := rawA_back ho hm h
  have hi : atIs L p true = true := by unfold atIs; rw [e, hm]; rfl
  exact ⟨hi, by unfold atOf; rw [if_pos hi, e], by rw [e]⟩
end Go.Proofs.YthgdgkdnidjdgaaDoor
