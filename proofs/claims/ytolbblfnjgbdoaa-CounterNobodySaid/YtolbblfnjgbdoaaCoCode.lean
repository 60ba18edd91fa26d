/-
  counter's functions: what New, At, Up, Clone tell of a counter in memory, and leave.
-/
import Derived.Test.YtolbblfnjgbdoaaWords
import Derived.Laws.LoneSync
import Derived.Deep.QuietTactic
import Derived.BigQuiet
import Derived.LaidEqlPtr
namespace Go.Proofs.Ytolbblfnjgbdoaa
set_option maxRecDepth 20000
open Go.RowKit

/-- Blocks b and a are a counter whose number stands at n. -/
structure Ctr (w : World) (b a : Nat) (n : Int) : Prop where
  p : w.heap[b]? = some (.cells #[.pointer (some ⟨a, 0, none⟩)] 35 (0, 0))
  q : w.heap[a]? = some (.cells #[.int .i64 n] 44 (0, 0))

theorem coBlk_cell {w : World} {g : Nat} {cs : Array Value} {t : TypeId} (h : w.heap[g]? = some (.cells cs t (0, 0))) (i : Nat) : w.cell? ⟨g, i, none⟩ = cs[i]? := cell_of_row w g i cs t (0, 0) h
theorem coBlk_free {w : World} {g : Nat} {cs : Array Value} {t : TypeId} (h : w.heap[g]? = some (.cells cs t (0, 0))) (i : Nat) : w.frozen? ⟨g, i, none⟩ = false := by simp [World.frozen?, h]

section
variable {w : World} {b a : Nat} {n : Int}
theorem Ctr.ne (h : Ctr w b a n) : b ≠ a := by
  rintro rfl
  have := h.p.symm.trans h.q
  simp at this
theorem Ctr.c1 (h : Ctr w b a n) : w.cell? ⟨b, 0, none⟩ = some (.pointer (some ⟨a, 0, none⟩)) := by rw [coBlk_cell h.p]; rfl
theorem Ctr.c2 (h : Ctr w b a n) : w.cell? ⟨a, 0, none⟩ = some (.int .i64 n) := by rw [coBlk_cell h.q]; rfl
theorem Ctr.f2 (h : Ctr w b a n) : w.frozen? ⟨a, 0, none⟩ = false := coBlk_free h.q 0
theorem Ctr.set (h : Ctr w b a n) (m : Int) : Ctr (w.setCell ⟨a, 0, none⟩ (.int .i64 m)) b a m := by
  refine ⟨?_, ?_⟩
  · have := h.p
    simp [World.setCell, Array.getElem?_modify, Ne.symm h.ne, this]
  · have := h.q
    simp [World.setCell, Array.getElem?_modify, this]
theorem Ctr.below {B : Nat} {w' : World} (h : Ctr w b a n) (hb : Below B w w') (h1 : b < B) (h2 : a < B) : Ctr w' b a n :=
  ⟨(hb.block b h1).trans h.p, (hb.block a h2).trans h.q⟩
end

theorem heapA_new (w : World) (o : Obj) : (w.alloc o).heap[w.heap.size]? = some o := by
  show (w.heap.push o)[w.heap.size]? = some o
  simp
theorem heapA_old (w : World) (o : Obj) {k : Nat} (h : k < w.heap.size) : (w.alloc o).heap[k]? = w.heap[k]? := by
  show (w.heap.push o)[k]? = _
  rw [Array.getElem?_push]
  simp [Nat.ne_of_lt h]
theorem heapA_set (w : World) {g : Nat} {cs : Array Value} {t : TypeId} (h : w.heap[g]? = some (.cells cs t (0, 0))) (i : Nat) (u : Value) : (w.setCell ⟨g, i, none⟩ u).heap[g]? = some (.cells (cs.setIfInBounds i u) t (0, 0)) := by
  simp [World.setCell, Array.getElem?_modify, h]

theorem made_yes {w : World} {b a : Nat} {n : Int} (h : Ctr w b a n) :
    Calls Try.prog 12 #[.pointer (some ⟨b, 0, none⟩)] w fun e w' => e = .returned (.bool true) ∧ w = w' := by
  have h1 := h.c1
  go_enter Try.func12, Try.ntmps12
  go_wp2
  go_ret
  exact ⟨rfl, rfl⟩
theorem made_none (w : World) :
    Calls Try.prog 12 #[.pointer none] w fun e w' => e = .returned (.bool false) ∧ w = w' := by
  go_enter Try.func12, Try.ntmps12
  go_wp2
  go_ret
  exact ⟨rfl, rfl⟩
theorem made_zero {w : World} {b : Nat} (h : w.heap[b]? = some (.cells #[.pointer none] 35 (0, 0))) :
    Calls Try.prog 12 #[.pointer (some ⟨b, 0, none⟩)] w fun e w' => e = .returned (.bool false) ∧ w = w' := by
  have h1 : w.cell? ⟨b, 0, none⟩ = some (.pointer none) := by rw [coBlk_cell h]; rfl
  go_enter Try.func12, Try.ntmps12
  go_wp2
  go_ret
  exact ⟨rfl, rfl⟩

theorem atomicAdd {w : World} {a : Nat} {n : Int} (h : w.cell? ⟨a, 0, none⟩ = some (.int .i64 n)) (hf : w.frozen? ⟨a, 0, none⟩ = false) (h0 : 0 ≤ n) (h1 : n ≤ 1099511630000) :
    Calls Try.prog 13 #[.pointer (some ⟨a, 0, none⟩), .int .i64 1] w fun e w' => e = .returned (.int .i64 (n + 1)) ∧ w.setCell ⟨a, 0, none⟩ (.int .i64 (n + 1)) = w' := by
  have hs : (Op.intArith .add .i64 n 1).run Try.prog w = .ok (.int .i64 (n + 1)) w := by
    have : IntKind.i64.wrap (n + 1) = n + 1 := by simp [IntKind.wrap, IntKind.signed, IntKind.bits]; omega
    simp [Op.intArith, this]
  have hadd := run_call_add (P := Try.prog) Try.func16 (by kernel_rfl) (by kernel_rfl) (by kernel_rfl) .i64 (by kernel_rfl) h hf hs
  go_enter Try.func13, Try.ntmps13
  go_wp2
  go_ret
  exact ⟨rfl, rfl⟩
theorem atomicLoad {w : World} {a : Nat} {n : Int} (h : w.cell? ⟨a, 0, none⟩ = some (.int .i64 n)) :
    Calls Try.prog 14 #[.pointer (some ⟨a, 0, none⟩)] w fun e w' => e = .returned (.int .i64 n) ∧ w = w' := by
  have hadd := run_call_load (P := Try.prog) Try.func17 (by kernel_rfl) (by kernel_rfl) (by kernel_rfl) .i64 (by kernel_rfl) h
  go_enter Try.func14, Try.ntmps14
  go_wp2
  go_ret
  exact ⟨rfl, rfl⟩
theorem atomicStore {w : World} {a : Nat} {u : Value} {n : Int} (h : w.cell? ⟨a, 0, none⟩ = some u) (hf : w.frozen? ⟨a, 0, none⟩ = false) :
    Calls Try.prog 15 #[.pointer (some ⟨a, 0, none⟩), .int .i64 n] w fun e w' => e = .returned (.tuple #[]) ∧ w.setCell ⟨a, 0, none⟩ (.int .i64 n) = w' := by
  have hadd := run_call_store (P := Try.prog) Try.func18 (by kernel_rfl) (by kernel_rfl) (by kernel_rfl) (by kernel_rfl) (k := .i64) (y := n) h hf
  go_enter Try.func15, Try.ntmps15
  go_wp2
  go_end0
  exact ⟨rfl, rfl⟩

/-- Who reads below the number most reads the number; beyond, most. -/
def cap (n : Int) : Int := if n < 1099511627776 then n else 1099511627776

theorem start_any (n : Int) (w : World) :
    Calls Try.prog 11 #[.int .i64 n] w fun e w' => e = .returned (.pointer (some ⟨w.heap.size + 1, 0, none⟩)) ∧ Ctr w' (w.heap.size + 1) w.heap.size n ∧ Below w.heap.size w w' ∧ w'.heap.size = w.heap.size + 2 := by
  go_enter Try.func11, Try.ntmps11
  go_wp2_with fail
  refine (atomicStore (u := .int .i64 0) ?_ ?_).mono ?_
  · simp
  · simp
  rintro e w1 ⟨rfl, rfl⟩
  go_wp2_with fail
  go_ret
  refine ⟨by simp, ⟨?_, ?_⟩, ?_, by simp⟩
  · have := heapA_new (w.alloc (.cells #[.int .i64 n] 44)) (.cells #[.pointer (some ⟨w.heap.size, 0, none⟩)] 35)
    rw [show (w.alloc (.cells #[.int .i64 n] 44)).heap.size = w.heap.size + 1 by simp] at this
    exact this
  · rw [heapA_old _ _ (by simp)]
    exact heapA_new _ _
  · exact ((Below.refl _ _).alloc (Nat.le_refl _) _).alloc (by simp) _
theorem new_yes (n : Int) (w : World) (h0 : 0 ≤ n) (h1 : n ≤ 1099511627776) :
    Calls Try.prog 5 #[.int .i64 n] w fun e w' => e = .returned (.tuple #[.pointer (some ⟨w.heap.size + 1, 0, none⟩), .int .i64 0]) ∧ Ctr w' (w.heap.size + 1) w.heap.size n ∧ Below w.heap.size w w' ∧ w'.heap.size = w.heap.size + 2 := by
  go_enter Try.func5, Try.ntmps5
  go_wp2_with fail
  refine (start_any n w).mono ?_
  rintro e w1 ⟨rfl, hc, hb, hz⟩
  go_wp2_with fail
  go_ret2
  exact ⟨rfl, hc, hb, hz⟩
theorem new_no (n : Int) (w : World) (h : n < 0 ∨ 1099511627776 < n) :
    Calls Try.prog 5 #[.int .i64 n] w fun e w' => e = .returned (.tuple #[.pointer none, .int .i64 1]) ∧ w = w' := by
  by_cases h0 : n < 0
  · clear h
    go_enter Try.func5, Try.ntmps5
    go_wp2
    go_ret2
    exact ⟨rfl, rfl⟩
  · have h1 : 1099511627776 < n := by omega
    clear h
    go_enter Try.func5, Try.ntmps5
    go_wp2
    go_ret2
    exact ⟨rfl, rfl⟩
theorem at_yes {w : World} {b a : Nat} {n : Int} (h : Ctr w b a n) (h0 : 0 ≤ n) :
    Calls Try.prog 9 #[.pointer (some ⟨b, 0, none⟩)] w fun e w' => e = .returned (.int .i64 (cap n)) ∧ w = w' := by
  have h1 := h.c1
  unfold cap
  rcases Int.lt_trichotomy n 1099511627776 with hn | rfl | hn
  · go_enter Try.func9, Try.ntmps9
    go_wp2_with fail
    refine (made_yes h).mono ?_
    rintro e w1 ⟨rfl, rfl⟩
    go_wp2_with fail
    refine (atomicLoad h.c2).mono ?_
    rintro e w1 ⟨rfl, rfl⟩
    go_wp2_with fail
    go_ret
    exact ⟨rfl, rfl⟩
  · go_enter Try.func9, Try.ntmps9
    go_wp2_with fail
    refine (made_yes h).mono ?_
    rintro e w1 ⟨rfl, rfl⟩
    go_wp2_with fail
    refine (atomicLoad h.c2).mono ?_
    rintro e w1 ⟨rfl, rfl⟩
    go_wp2_with fail
    go_ret
    exact ⟨rfl, rfl⟩
  · go_enter Try.func9, Try.ntmps9
    go_wp2_with fail
    refine (made_yes h).mono ?_
    rintro e w1 ⟨rfl, rfl⟩
    go_wp2_with fail
    refine (atomicLoad h.c2).mono ?_
    rintro e w1 ⟨rfl, rfl⟩
    go_wp2_with fail
    go_ret
    exact ⟨rfl, rfl⟩
theorem up_yes {w : World} {b a : Nat} {n : Int} (h : Ctr w b a n) (h0 : 0 ≤ n) (h1 : n < 1099511627776) :
    Calls Try.prog 7 #[.pointer (some ⟨b, 0, none⟩)] w fun e w' => e = .returned (.tuple #[.int .i64 (n + 1), .int .i64 0]) ∧ w.setCell ⟨a, 0, none⟩ (.int .i64 (n + 1)) = w' := by
  have hc := h.c1
  go_enter Try.func7, Try.ntmps7
  go_wp2_with fail
  refine (made_yes h).mono ?_
  rintro e w1 ⟨rfl, rfl⟩
  go_wp2_with fail
  refine (atomicAdd h.c2 h.f2 h0 (by omega)).mono ?_
  rintro e w1 ⟨rfl, rfl⟩
  go_wp2_with fail
  go_ret2
  exact ⟨rfl, rfl⟩
theorem up_no {w : World} {b a : Nat} {n : Int} (h : Ctr w b a n) (h0 : 1099511627776 ≤ n) (h1 : n ≤ 1099511630000) :
    Calls Try.prog 7 #[.pointer (some ⟨b, 0, none⟩)] w fun e w' => e = .returned (.tuple #[.int .i64 0, .int .i64 9]) ∧ w.setCell ⟨a, 0, none⟩ (.int .i64 (n + 1)) = w' := by
  have hc := h.c1
  have hn : 1099511627776 < n + 1 := by omega
  go_enter Try.func7, Try.ntmps7
  go_wp2_with fail
  refine (made_yes h).mono ?_
  rintro e w1 ⟨rfl, rfl⟩
  go_wp2_with fail
  refine (atomicAdd h.c2 h.f2 (by omega) h1).mono ?_
  rintro e w1 ⟨rfl, rfl⟩
  go_wp2_with fail
  go_ret2
  exact ⟨rfl, rfl⟩
theorem clone_yes {w : World} {b a : Nat} {n : Int} (h : Ctr w b a n) (h0 : 0 ≤ n) :
    Calls Try.prog 10 #[.pointer (some ⟨b, 0, none⟩)] w fun e w' => e = .returned (.pointer (some ⟨w.heap.size + 1, 0, none⟩)) ∧ Ctr w' (w.heap.size + 1) w.heap.size (cap n) ∧ Below w.heap.size w w' ∧ w'.heap.size = w.heap.size + 2 := by
  go_enter Try.func10, Try.ntmps10
  go_wp2_with fail
  refine (made_yes h).mono ?_
  rintro e w1 ⟨rfl, rfl⟩
  go_wp2_with fail
  refine (at_yes h h0).mono ?_
  rintro e w1 ⟨rfl, rfl⟩
  go_wp2_with fail
  refine (start_any _ w).mono ?_
  rintro e w1 ⟨rfl, hc, hb, hz⟩
  go_wp2_with fail
  go_ret
  exact ⟨rfl, hc, hb, hz⟩

/-- A counter that New did not give: nil, or one with no number. -/
def NoCtr (w : World) (v : Value) : Prop := v = .pointer none ∨ ∃ b, v = .pointer (some ⟨b, 0, none⟩) ∧ w.heap[b]? = some (.cells #[.pointer none] 35 (0, 0))
theorem NoCtr.below {w w' : World} {v : Value} {B : Nat} (h : NoCtr w v) (hb : Below B w w') (hB : w.heap.size ≤ B) : NoCtr w' v := by
  rcases h with h | ⟨b, h, hc⟩
  · exact .inl h
  · have := (Array.getElem?_eq_some_iff.1 hc).1
    exact .inr ⟨b, h, (hb.block b (by omega)).trans hc⟩
theorem made_no {w : World} {v : Value} (h : NoCtr w v) : Calls Try.prog 12 #[v] w fun e w' => e = .returned (.bool false) ∧ w = w' := by
  rcases h with rfl | ⟨b, rfl, hc⟩
  · exact made_none w
  · exact made_zero hc
theorem up_nobody {w : World} {v : Value} (h : NoCtr w v) : Calls Try.prog 7 #[v] w fun e w' => e = .returned (.tuple #[.int .i64 0, .int .i64 5]) ∧ w = w' := by
  go_enter Try.func7, Try.ntmps7
  go_wp2_with fail
  refine (made_no h).mono ?_
  rintro e w1 ⟨rfl, rfl⟩
  go_wp2_with fail
  go_ret2
  exact ⟨rfl, rfl⟩
theorem at_nobody {w : World} {v : Value} (h : NoCtr w v) : Calls Try.prog 9 #[v] w fun e w' => e = .returned (.int .i64 0) ∧ w = w' := by
  go_enter Try.func9, Try.ntmps9
  go_wp2_with fail
  refine (made_no h).mono ?_
  rintro e w1 ⟨rfl, rfl⟩
  go_wp2_with fail
  go_ret
  exact ⟨rfl, rfl⟩
theorem clone_nobody {w : World} {v : Value} (h : NoCtr w v) : Calls Try.prog 10 #[v] w fun e w' => ∃ v', e = .returned v' ∧ NoCtr w' v' ∧ Below w.heap.size w w' := by
  go_enter Try.func10, Try.ntmps10
  go_wp2_with fail
  refine (made_no h).mono ?_
  rintro e w1 ⟨rfl, rfl⟩
  go_wp2_with fail
  go_ret
  exact ⟨_, rfl, .inr ⟨w.heap.size, rfl, heapA_new _ _⟩, (Below.refl _ _).alloc (Nat.le_refl _) _⟩
end Go.Proofs.Ytolbblfnjgbdoaa
