/-
  A list of elements, as it came in by a slice.
-/
import Derived.Test.YtjemfmbmlmogcaaGreatBs16
namespace Go.Proofs.YtjemfmbmlmogcaaGreat
set_option maxRecDepth 20000
open Go.ChangeShapes Go.WideShapes Go.ChangeAt Go.RowKit Go.Deep
section
variable {H : Type} {enc : TypeId × Value → H} {w : World} {base : Nat} {spare : Nat → Bool} {held : Bool} {fuel : Nat} {cs : List Value} {x : DataW H × List MemPlace}
theorem Elt.trod {α : Type} {ec : α → List Value} {P : α → Prop} {n : Nat} {T SL : TypeId} (E : Elt ec P n T SL) (a0 : α) (h0 : P a0)
    (el : ∀ {fuel : Nat} {cs : List Value} {x : DataW H × List MemPlace}, DataW.trod enc Tryz.prog w base spare held fuel T cs = some x → ∃ a, P a ∧ cs = ec a)
    (h : DataW.trod enc Tryz.prog w base spare held fuel SL cs = some x) : ∃ v L, cs = [v] ∧ Els ec n w v L ∧ ∀ a ∈ L, P a := by
  rcases open_slice E.under h with ⟨rfl, _⟩ | ⟨a, len, cap, m, k, D, Pl, rfl, _, hl, hm, hmm, _, hi⟩
  · exact ⟨_, [], rfl, ⟨none, 0, rfl, Nat.le_refl _, Nat.zero_le _, ElsA.nil _ _⟩, fun t ht => by cases ht⟩
  · have hlm : len ≤ m := by rw [hmm]; split <;> omega
    rw [E.cells] at hi
    have hex : ∀ i, ∃ t : α, P t ∧ (i < len → ∀ j u, (ec t)[j]? = some u → w.cell? (a.add (i * n + j)) = some u) := by
      intro i
      by_cases hil : i < len
      · obtain ⟨cs', hcs, ht⟩ := hi i (by omega)
        obtain ⟨t, hb, rfl⟩ := el ht
        obtain ⟨_, hlen', hat⟩ := World.cells?_some hcs
        refine ⟨t, hb, fun _ j u hu => ?_⟩
        have hj : j < n := by
          have := (List.getElem?_eq_some_iff.1 hu).1
          rw [E.len t hb] at this
          exact this
        rw [← Go.Deep.add_add, hat j hj]
        exact hu
      · exact ⟨a0, h0, fun h => absurd h hil⟩
    refine ⟨_, (List.range len).map fun i => (hex i).choose, rfl, ⟨some a, cap, by simp, by simpa using hl, hm, fun h0' => ?_⟩, fun t ht => ?_⟩
    · have h1 : 0 < len := by simpa using h0'
      have hpos := E.pos
      obtain ⟨b, off, spot⟩ := a
      have hl0 : 0 < (ec (hex 0).choose).length := by rw [E.len _ (hex 0).choose_spec.1]; exact hpos
      have hsp := (hex 0).choose_spec.2 h1 0 _ (List.getElem?_eq_getElem hl0)
      have hspot : spot = none := by simpa [Addr.add] using World.cell?_spot hsp
      subst hspot
      refine ⟨b, off, rfl, ?_, fun i hil => ?_⟩
      · have := World.block_lt_of_cell? w _ hsp
        rw [addr_add] at this
        exact this
      · have hil' : i < len := by simpa using hil
        simp only [List.getElem_map, List.getElem_range]
        intro j u hu
        have := (hex i).choose_spec.2 hil' j u hu
        rw [addr_add] at this
        rw [← this, Nat.add_assoc]
    · obtain ⟨i, _, rfl⟩ := List.mem_map.1 ht
      exact (hex i).choose_spec.1
end
end Go.Proofs.YtjemfmbmlmogcaaGreat
