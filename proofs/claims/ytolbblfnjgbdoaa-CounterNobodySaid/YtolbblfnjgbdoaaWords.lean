/-
  What is said of bytes in memory: a slice that reads as bytes, a row of the call's own that holds bytes. Plain lemmas; no function of the program.
-/
import Derived.Test.YtolbblfnjgbdoaaRows
import Derived.WalkKit
import Derived.WalkSpells
import Derived.Below
import Derived.OwnWalk
import Derived.Laws.OwnMore
import Derived.Laws.AppendOwnNone
import Derived.Maps.AppendAt
import Derived.Deep.AppendLies
import Derived.Deep.Draws
namespace Go.Proofs.Ytolbblfnjgbdoaa
set_option maxRecDepth 20000
open Go.RowKit

theorem hid {p : Prop} (h : p) : Hid p := h

/-- A byte's cell. -/
def bcell (c : UInt8) : Value := .int .u8 (c.toNat : Int)
/-- Bytes as cells. -/
def bcells (l : List UInt8) : List Value := l.map bcell

theorem bcells_length (l : List UInt8) : (bcells l).length = l.length := by simp [bcells]
theorem bcells_append (l m : List UInt8) : bcells (l ++ m) = bcells l ++ bcells m := by simp [bcells]
theorem bcells_one (l : List UInt8) : ∀ u ∈ bcells l, u.oneCell' = true := by
  intro u hu
  obtain ⟨c, _, rfl⟩ := List.mem_map.1 hu
  rfl
theorem bcells_get (l : List UInt8) (j : Nat) (u : Value) (h : (bcells l)[j]? = some u) : ∃ hj : j < l.length, u = bcell l[j] := by
  have hj : j < l.length := by
    have := (List.getElem?_eq_some_iff.1 h).1
    simpa [bcells] using this
  refine ⟨hj, ?_⟩
  simp [bcells, hj] at h
  exact h.symm
theorem byte_lt (c : UInt8) : (0 : Int) ≤ (c.toNat : Int) ∧ (c.toNat : Int) ≤ 255 := by
  have := c.toNat_lt
  omega

/-- From address A on the bytes l lie. -/
def RdB (w : World) (A : Option Addr) (l : List UInt8) : Prop :=
  0 < l.length → ∃ b off, A = some ⟨b, off, none⟩ ∧ b < w.heap.size ∧ ∀ j (h : j < l.length), w.cell? ⟨b, off + j, none⟩ = some (bcell l[j])

/-- The value is a slice that reads as the bytes l. -/
def Byt (w : World) (v : Value) (l : List UInt8) : Prop := ∃ A c, v = .slice A l.length c ∧ l.length ≤ c ∧ c ≤ maxLen ∧ RdB w A l

/-- The value is a slice of the call's own, from block B on, that holds the bytes l. -/
def Own (B : Nat) (w : World) (v : Value) (l : List UInt8) : Prop := w.ownsRow B 5 1 v l.length (bcells l)

section
variable {w w' : World} {A : Option Addr} {v : Value} {l : List UInt8} {B : Nat}

theorem RdB.nil (w : World) (A : Option Addr) : RdB w A [] := fun h => absurd h (by simp)
theorem RdB.keep (h : RdB w A l) (hs : w.heap.size ≤ w'.heap.size) (hk : ∀ b off, A = some ⟨b, off, none⟩ → b < w.heap.size → w'.heap[b]? = w.heap[b]?) : RdB w' A l := fun hl => by
  obtain ⟨b, off, e, hb, hc⟩ := h hl
  exact ⟨b, off, e, by omega, fun j hj => (World.cell?_of_block (hk b off e hb)).trans (hc j hj)⟩
theorem RdB.below (h : RdB w A l) (hb : Below w.heap.size w w') : RdB w' A l := h.keep hb.size fun b _ _ hlt => hb.block b hlt
theorem Byt.keep (h : Byt w v l) (hs : w.heap.size ≤ w'.heap.size) (hk : ∀ b, b < w.heap.size → v.ownBlock = some b → w'.heap[b]? = w.heap[b]?) : Byt w' v l := by
  obtain ⟨A, c, rfl, h1, h2, h3⟩ := h
  exact ⟨A, c, rfl, h1, h2, h3.keep hs fun b off e hlt => hk b hlt (by subst e; rfl)⟩
theorem Byt.below (h : Byt w v l) (hb : Below w.heap.size w w') : Byt w' v l := h.keep hb.size fun b hlt _ => hb.block b hlt
theorem Byt.nil (w : World) : Byt w (.slice none 0 0) [] := ⟨none, 0, rfl, Nat.le_refl _, Nat.zero_le _, RdB.nil _ _⟩
theorem Byt.len (h : Byt w v l) : l.length ≤ maxLen := by
  obtain ⟨_, _, _, h1, h2, _⟩ := h
  omega
theorem Own.nil (B : Nat) (w : World) : Own B w (.slice none 0 0) [] := World.ownsRow_nil _ _ _ _
theorem Own.byt (h : Own B w v l) : Byt w v l := by
  rcases h.2 with ⟨rfl, h0⟩ | ⟨g, cap, cur, rfl, _, hh, hn, hm, hs, ht⟩
  · have : l = [] := List.eq_nil_of_length_eq_zero h0
    subst this
    exact Byt.nil w
  · refine ⟨_, cap, rfl, hn, hm, fun _ => ⟨g, 0, rfl, lt_of_block hh, fun j hj => ?_⟩⟩
    rw [Nat.zero_add, World.ownsRow.cellAt h j (by omega)]
    simp [bcells, hj]
theorem Own.more (h : Own B w v l) {B' : Nat} (hB : B' ≤ B) : Own B' w v l := by
  refine ⟨h.1, ?_⟩
  rcases h.2 with h0 | ⟨g, cap, cur, e, hg, r⟩
  · exact .inl h0
  · exact .inr ⟨g, cap, cur, e, by omega, r⟩
theorem Own.keep (h : Own B w v l) (hk : ∀ b, b < w.heap.size → v.ownBlock = some b → w'.heap[b]? = w.heap[b]?) : Own B w' v l := by
  refine ⟨h.1, ?_⟩
  rcases h.2 with h0 | ⟨g, cap, cur, rfl, hg, hh, r⟩
  · exact .inl h0
  · exact .inr ⟨g, cap, cur, rfl, hg, (hk g (lt_of_block hh) rfl).trans hh, r⟩
theorem Own.below (h : Own B w v l) (hb : Below w.heap.size w w') : Own B w' v l := h.keep fun b hlt _ => hb.block b hlt
end

theorem Byt.shape {w : World} {v : Value} {l : List UInt8} (h : Byt w v l) : ∃ A c, v = .slice A l.length c := by
  obtain ⟨A, c, e, _⟩ := h
  exact ⟨A, c, e⟩

theorem Byt.at_ {w : World} {A : Option Addr} {n c : Nat} {l : List UInt8} (h : Byt w (.slice A n c) l) : n = l.length ∧ l.length ≤ c ∧ c ≤ maxLen ∧ RdB w A l := by
  obtain ⟨A', c', e, h1, h2, h3⟩ := h
  injection e with e1 e2 e3
  subst e1 e2 e3
  exact ⟨rfl, h1, h2, h3⟩

theorem Byt.alloc {w : World} {v : Value} {l : List UInt8} (h : Byt w v l) (o : Obj) : Byt (w.alloc o) v l := h.below ((Below.refl _ _).alloc (Nat.le_refl _) o)

theorem Byt.drewN {w : World} {v : Value} {l : List UInt8} (h : Byt w v l) (n : Nat) : Byt (w.drewN n) v l := h

theorem below_drewN {B : Nat} {a w : World} (h : Below B a w) (n : Nat) : Below B a (w.drewN n) := ⟨h.os, h.tape, h.output, h.size, h.block⟩

end Go.Proofs.Ytolbblfnjgbdoaa
