/-
  octet.Reader in memory: what Read makes, and what Wrong, Left, Done, fail tell of it and leave.
-/
import Derived.Test.YtefngncieagobaaFirst
import Derived.Test.YtefngncieagobaaPut
import Derived.Deep.QuietTactic
import Derived.BigQuiet
import Derived.RegionTactic
import Derived.LaidEqlPtr
namespace Go.Proofs.Ytefngncieagobaa
open Go.RowKit

theorem cell_blk {w : World} {g : Nat} {cs : Array Value} {t : TypeId} (h : w.heap[g]? = some (.cells cs t (0, 0))) (i : Nat) : w.cell? ⟨g, i, none⟩ = cs[i]? := cell_of_row w g i cs t (0, 0) h
theorem free_blk {w : World} {g : Nat} {cs : Array Value} {t : TypeId} (h : w.heap[g]? = some (.cells cs t (0, 0))) (i : Nat) : w.frozen? ⟨g, i, none⟩ = false := by simp [World.frozen?, h]
theorem set_blk {w : World} {g : Nat} {cs : Array Value} {t : TypeId} (h : w.heap[g]? = some (.cells cs t (0, 0))) (i : Nat) (u : Value) : (w.setCell ⟨g, i, none⟩ u).heap[g]? = some (.cells (cs.setIfInBounds i u) t (0, 0)) := by
  simp [World.setCell, Array.getElem?_modify, h]

/-- Block g is a reader of the bytes l, at place p, right or not. -/
structure Rdr (w : World) (g : Nat) (l : List UInt8) (p : Nat) (r : Bool) : Prop where
  ex : ∃ A c, Own 0 w (.slice A l.length c) l ∧ w.heap[g]? = some (.cells #[.slice A l.length c, .int .i64 (p : Int), .bool r] 42 (0, 0))
  le : p ≤ l.length

section
variable {w w' : World} {g : Nat} {l : List UInt8} {p : Nat} {r : Bool}
theorem own_ne {B : Nat} {v : Value} {m : List UInt8} {cs : Array Value} {t : TypeId} (h : Own B w v m) (hg : w.heap[g]? = some (.cells cs t (0, 0))) (ht : 5 ≠ t) : v.ownBlock ≠ some g := by
  rcases h.2 with ⟨rfl, _⟩ | ⟨g', cap, cur, rfl, _, hh, _⟩
  · simp [Value.ownBlock]
  · intro he
    obtain rfl : g' = g := by simpa [Value.ownBlock] using he
    rw [hh] at hg
    injection hg with hg
    injection hg with _ h2
    exact ht h2
theorem Rdr.keep (h : Rdr w g l p r) (hk : ∀ b, b < w.heap.size → (b = g ∨ ∃ v, Own 0 w v l ∧ v.ownBlock = some b) → w'.heap[b]? = w.heap[b]?) : Rdr w' g l p r := by
  obtain ⟨⟨A, c, h1, h2⟩, h3⟩ := h
  exact ⟨⟨A, c, h1.keep fun b hb e => hk b hb (.inr ⟨_, h1, e⟩), (hk g (lt_of_block h2) (.inl rfl)).trans h2⟩, h3⟩
theorem Rdr.below (h : Rdr w g l p r) (hb : Below w.heap.size w w') : Rdr w' g l p r := h.keep fun b hlt _ => hb.block b hlt
/-- What another reader's method leaves. -/
theorem Rdr.far {g' : Nat} {l' : List UInt8} {p' : Nat} {r' : Bool} (h : Rdr w g l p r) (h' : Rdr w g' l' p' r') (hne : g ≠ g') (hg : w.grownBy w' (some g')) : Rdr w' g l p r := h.keep fun b hlt hh => by
  refine hg.block b hlt fun e => ?_
  injection e with e
  rcases hh with e2 | ⟨v, hv, hvb⟩
  · exact hne (e2.symm.trans e)
  · obtain ⟨_, _, _, h2⟩ := h'.ex
    subst e
    exact own_ne hv h2 (by decide) hvb
/-- What a write into a block leaves that is neither the reader's nor a row of bytes. -/
theorem Rdr.apart {k : Nat} {cs : Array Value} {t : TypeId} (h : Rdr w g l p r) (hg : w.grownBy w' (some k)) (hk : w.heap[k]? = some (.cells cs t (0, 0))) (ht : 5 ≠ t) (hne : g ≠ k) : Rdr w' g l p r := h.keep fun b hlt hh => by
  refine hg.block b hlt fun e => ?_
  injection e with e
  rcases hh with e2 | ⟨v, hv, hvb⟩
  · exact hne (e2.symm.trans e)
  · subst e
    exact own_ne hv hk ht hvb
theorem Rdr.lt (h : Rdr w g l p r) : g < w.heap.size := by
  obtain ⟨_, _, _, h2⟩ := h.ex
  exact lt_of_block h2
theorem Rdr.drewN (h : Rdr w g l p r) (n : Nat) : Rdr (w.drewN n) g l p r := ⟨h.ex, h.le⟩
theorem own_turn {v : Value} {cs : Array Value} (h1 : Own 0 w v l) (h2 : w.heap[g]? = some (.cells cs 42 (0, 0))) (i : Nat) (u : Value) : Own 0 (w.setCell ⟨g, i, none⟩ u) v l :=
  ownsRow_setCell_other h1 (own_ne h1 h2 (by decide)) _
theorem Rdr.turn (h : Rdr w g l p r) (p' : Nat) (hp : p' ≤ l.length) : Rdr (w.setCell ⟨g, 1, none⟩ (.int .i64 (p' : Int))) g l p' r := by
  obtain ⟨A, c, h1, h2⟩ := h.ex
  exact ⟨⟨A, c, ownsRow_setCell_other h1 (own_ne h1 h2 (by decide)) _, by rw [set_blk h2]; rfl⟩, hp⟩
theorem Rdr.spoil (h : Rdr w g l p r) : Rdr (w.setCell ⟨g, 2, none⟩ (.bool false)) g l p false := by
  obtain ⟨A, c, h1, h2⟩ := h.ex
  exact ⟨⟨A, c, ownsRow_setCell_other h1 (own_ne h1 h2 (by decide)) _, by rw [set_blk h2]; rfl⟩, h.le⟩
theorem grown_set (w : World) (g i : Nat) (u : Value) : w.grownBy (w.setCell ⟨g, i, none⟩ u) (some g) :=
  ⟨rfl, rfl, rfl, by simp [World.setCell], fun k _ hk => Below.heap_setCell w _ u k (fun e => hk (by rw [e]))⟩
theorem grown_of_below {w w' : World} (h : Below w.heap.size w w') (row : Option Nat) : w.grownBy w' row := ⟨h.os, h.tape, h.output, h.size, fun k hk _ => h.block k hk⟩
theorem grown_drewN {a b : World} {row : Option Nat} (h : a.grownBy b row) (n : Nat) : a.grownBy (b.drewN n) row := ⟨h.os, h.tape, h.output, h.size, h.block⟩
end

set_option maxHeartbeats 800000 in
theorem read_any (v : Value) (l : List UInt8) (w : World) (hv : Byt w v l) (hs : l.length ≤ 1099511627776) :
    Calls Try.prog 6 #[v] w fun e w' => ∃ g, e = .returned (.pointer (some ⟨g, 0, none⟩)) ∧ w.heap.size ≤ g ∧ Rdr w' g l 0 true ∧ Below w.heap.size w w' := by
  obtain ⟨A, c, rfl⟩ := hv.shape
  go_enter Try.func6, Try.ntmps6
  go_wp2_with fail
  refine (join1 _ l w.heap.size 1 (w.alloc (.cells #[.slice A l.length c] 22)) (by simp) (by simp) (hv.alloc _) hs).mono ?_
  rintro e w1 ⟨v1, rfl, hown1, hb1⟩
  have hbs := hb1.size
  obtain ⟨A1, c1, rfl⟩ := hown1.byt.shape
  go_wp2_with fail
  go_ret
  simp at hbs
  refine ⟨_, rfl, by omega, ⟨⟨A1, c1, (hown1.more (Nat.zero_le _)).alloc _, heap_alloc_new w1 _⟩, Nat.zero_le _⟩, ?_⟩
  exact ((Below.alloc (Below.refl _ _) (Nat.le_refl _) _).trans (hb1.mono (by simp))).alloc (by omega) _

theorem wrong_any (g : Nat) (l : List UInt8) (p : Nat) (r : Bool) (w : World) (hr : Rdr w g l p r) :
    Calls Try.prog 16 #[.pointer (some ⟨g, 0, none⟩)] w fun e w' => e = .returned (.bool (!r)) ∧ w = w' := by
  obtain ⟨A, c, h1, h2⟩ := hr.ex
  have c2 := cell_blk h2 2
  simp at c2
  clear h1 h2 hr
  go_enter Try.func16, Try.ntmps16
  go_wp2
  go_ret
  exact ⟨rfl, rfl⟩
theorem wrong_nil (w : World) : Calls Try.prog 16 #[.pointer none] w fun e w' => e = .returned (.bool true) ∧ w = w' := by
  go_enter Try.func16, Try.ntmps16
  go_wp2
  go_ret
  exact ⟨rfl, rfl⟩
theorem left_any (g : Nat) (l : List UInt8) (p : Nat) (r : Bool) (w : World) (hr : Rdr w g l p r) (hl : l.length ≤ 1099511627776) :
    Calls Try.prog 9 #[.pointer (some ⟨g, 0, none⟩)] w fun e w' => e = .returned (.int .i64 ((l.length : Int) - (p : Int))) ∧ ∃ n, w' = w.drewN n := by
  obtain ⟨A, c, h1, h2⟩ := hr.ex
  have hp := hr.le
  have c0 := cell_blk h2 0
  have c1 := cell_blk h2 1
  simp at c0 c1
  clear h1 h2 hr
  go_enter Try.func9, Try.ntmps9
  go_wp2
  go_quiet (fail)
  go_wp2
  go_ret
  exact ⟨rfl, _, rfl⟩
theorem left_nil (w : World) : Calls Try.prog 9 #[.pointer none] w fun e w' => e = .returned (.int .i64 0) ∧ w = w' := by
  go_enter Try.func9, Try.ntmps9
  go_wp2
  go_ret
  exact ⟨rfl, rfl⟩
theorem fail_any (g : Nat) (l : List UInt8) (p : Nat) (r : Bool) (w : World) (hr : Rdr w g l p r) :
    Calls Try.prog 23 #[.pointer (some ⟨g, 0, none⟩)] w fun e w' => e = .returned (.tuple #[]) ∧ w.setCell ⟨g, 2, none⟩ (.bool false) = w' := by
  obtain ⟨A, c, h1, h2⟩ := hr.ex
  have c2 := cell_blk h2 2
  have f2 := free_blk h2 2
  simp at c2
  clear h1 h2 hr
  go_enter Try.func23, Try.ntmps23
  go_wp2
  go_end0
  exact ⟨rfl, rfl⟩
theorem fail_nil (w : World) : Calls Try.prog 23 #[.pointer none] w fun e w' => e = .returned (.tuple #[]) ∧ w = w' := by
  go_enter Try.func23, Try.ntmps23
  go_wp2
  go_end0
  exact ⟨rfl, rfl⟩
end Go.Proofs.Ytefngncieagobaa
