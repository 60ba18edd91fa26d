/-
  A block, as it came in by value.
-/
import Derived.Test.YtjemfmbmlmogcaaGreatBs7
import Derived.Test.YtjemfmbmlmogcaaGreatTxArg
namespace Go.Proofs.YtjemfmbmlmogcaaGreat
set_option maxRecDepth 20000
open Go.ChangeShapes Go.WideShapes Go.ChangeAt Go.RowKit Go.Deep
def sizedK (b : BkM) : Prop := ∀ t ∈ b.txs, t.key.length ≤ maxLen ∧ t.val.length ≤ maxLen
section
variable {H : Type} {enc : TypeId × Value → H} {w : World} {base : Nat} {spare : Nat → Bool} {held : Bool} {fuel : Nat} {cs : List Value} {x : DataW H × List MemPlace}
theorem trod_txs (h : DataW.trod enc Tryz.prog w base spare held fuel 32 cs = some x) : ∃ v L, cs = [v] ∧ Txs w v L ∧ ∀ t ∈ L, t.key.length ≤ maxLen ∧ t.val.length ≤ maxLen := by
  have hc : Tryz.prog.cellsOf 36 = 7 := by kernel_rfl
  rcases open_slice Tryz.underlying32 h with ⟨rfl, _⟩ | ⟨a, len, cap, m, n, D, Pl, rfl, _, hl, hm, hmm, _, hi⟩
  · exact ⟨_, [], rfl, ⟨none, 0, rfl, Nat.le_refl _, Nat.zero_le _, TxsA.nil _ _⟩, fun t ht => by cases ht⟩
  · have hlm : len ≤ m := by rw [hmm]; split <;> omega
    rw [hc] at hi
    have hex : ∀ i, ∃ t : TxM, (t.key.length ≤ maxLen ∧ t.val.length ≤ maxLen) ∧ (i < len → ∀ j u, (tcl t)[j]? = some u → w.cell? (a.add (i * 7 + j)) = some u) := by
      intro i
      by_cases hil : i < len
      · obtain ⟨cs', hcs, ht⟩ := hi i (by omega)
        obtain ⟨t, hb, rfl⟩ := trod_tx ht
        obtain ⟨_, hlen', hat⟩ := World.cells?_some hcs
        refine ⟨t, hb, fun _ j u hu => ?_⟩
        have hj : j < 7 := by
          have := (List.getElem?_eq_some_iff.1 hu).1
          rw [tcl_length] at this
          exact this
        rw [← Go.Deep.add_add, hat j hj]
        exact hu
      · exact ⟨txZ, ⟨Nat.zero_le _, Nat.zero_le _⟩, fun h => absurd h hil⟩
    refine ⟨_, (List.range len).map fun i => (hex i).choose, rfl, ⟨some a, cap, by simp, by simpa using hl, hm, fun h0 => ?_⟩, fun t ht => ?_⟩
    · have h0' : 0 < len := by simpa using h0
      obtain ⟨b, off, spot⟩ := a
      have hsp := (hex 0).choose_spec.2 h0' 0 _ rfl
      have hspot : spot = none := by simpa [Addr.add] using World.cell?_spot hsp
      subst hspot
      refine ⟨b, off, rfl, ?_, fun i hil => ?_⟩
      · have := World.block_lt_of_cell? w _ hsp
        rw [addr_add] at this
        exact this
      · have hil' : i < len := by simpa using hil
        simp only [List.getElem_map, List.getElem_range]
        intro j u hu
        have := (hex i).choose_spec.2 hil' j u hu
        rw [addr_add] at this
        rw [← this, Nat.add_assoc]
    · obtain ⟨i, _, rfl⟩ := List.mem_map.1 ht
      exact (hex i).choose_spec.1
theorem fields_bk : ∃ f0 f1 f2 f3 f4 : Field, Tryz.prog.underlying 34 = some (.struct #[f0, f1, f2, f3, f4]) ∧ (f0.type, f0.offset) = (23, 0) ∧ (f1.type, f1.offset) = (3, 32) ∧ (f2.type, f2.offset) = (3, 33)
    ∧ (f3.type, f3.offset) = (3, 34) ∧ (f4.type, f4.offset) = (32, 35) :=
  ⟨_, _, _, _, _, Tryz.underlying34, rfl, rfl, rfl, rfl, rfl⟩
theorem trod_bk (h : DataW.trod enc Tryz.prog w base spare held fuel 34 cs = some x) : ∃ b : BkM, BkV w (.agg cs.toArray) b ∧ sizedK b := by
  obtain ⟨f0, f1, f2, f3, f4, hu, e0, e1, e2, e3, e4⟩ := fields_bk
  injection e0 with t0 o0
  injection e1 with t1 o1
  injection e2 with t2 o2
  injection e3 with t3 o3
  injection e4 with t4 o4
  obtain ⟨xs, m, _, _, hlen, hxl, hf⟩ := DataW.trod_struct hu h
  have hc : Tryz.prog.cellsOf 34 = 36 := by kernel_rfl
  have hci : Tryz.prog.cellsOf 3 = 1 := by kernel_rfl
  have hch : Tryz.prog.cellsOf 23 = 32 := by kernel_rfl
  have hcs : Tryz.prog.cellsOf 32 = 1 := by kernel_rfl
  rw [hc] at hlen
  have hx : xs.length = 5 := hxl
  have g0 := hf 0 f0 rfl
  have g1 := hf 1 f1 rfl
  have g2 := hf 2 f2 rfl
  have g3 := hf 3 f3 rfl
  have g4 := hf 4 f4 rfl
  rw [t0, o0, hch, List.getElem?_eq_getElem (by omega)] at g0
  rw [t1, o1, hci, List.getElem?_eq_getElem (by omega)] at g1
  rw [t2, o2, hci, List.getElem?_eq_getElem (by omega)] at g2
  rw [t3, o3, hci, List.getElem?_eq_getElem (by omega)] at g3
  rw [t4, o4, hcs, List.getElem?_eq_getElem (by omega)] at g4
  obtain ⟨p, hp, c0⟩ := trod_hash g0
  obtain ⟨n1, c1, _, _⟩ := DataW.trod_int Tryz.underlying3 g1
  obtain ⟨n2, c2, _, _⟩ := DataW.trod_int Tryz.underlying3 g2
  obtain ⟨n3, c3, _, _⟩ := DataW.trod_int Tryz.underlying3 g3
  obtain ⟨v, L, c4, hL, hb⟩ := trod_txs g4
  refine ⟨⟨p, n1, n2, n3, L⟩, ⟨v, ?_, hp, hL⟩, hb⟩
  have d1 := cell_of_part c1
  have d2 := cell_of_part c2
  have d3 := cell_of_part c3
  have d4 := cell_of_part c4
  rw [List.drop_zero] at c0
  have e : cs = bcells p ++ [.int .i64 n1, .int .i64 n2, .int .i64 n3, v] := by
    apply List.ext_getElem?
    intro i
    by_cases h32 : i < 32
    · rw [List.getElem?_append_left (by rw [bcells_length, hp]; exact h32), ← c0, List.getElem?_take_of_lt h32]
    · rw [List.getElem?_append_right (by rw [bcells_length, hp]; omega), bcells_length, hp]
      match i, h32 with
      | 32, _ => exact d1
      | 33, _ => exact d2
      | 34, _ => exact d3
      | 35, _ => exact d4
      | i + 36, _ => rw [List.getElem?_eq_none (by omega), List.getElem?_eq_none (by simp <;> omega)]
  unfold bkc
  rw [e]
end
end Go.Proofs.YtjemfmbmlmogcaaGreat
