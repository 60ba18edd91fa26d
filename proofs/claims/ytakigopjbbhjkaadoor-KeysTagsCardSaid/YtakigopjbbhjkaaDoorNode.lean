/-
  keys.Node and keys.Quorum tell whether there is a part, and how many are enough; the reference's Quorum tells the same.
-/
import Derived.Test.YtakigopjbbhjkaaDoorQuorum
import Derived.Test.YtakigopjbbhjkaaDoorOf
import Derived.LoopTactic
namespace Go.Proofs.YtakigopjbbhjkaaDoor
open Go.RowKit

/-- Is there a part? -/
def nodeB (i : Int) : Bool := decide (1 ≤ i ∧ i ≤ 21)
theorem ret_boolK {a b : Bool} (h : a = b) : Ending.returned (.bool a) = .returned (.bool b) := by rw [h]
theorem ret_i64 {a b : Int} (h : a = b) : Ending.returned (.int .i64 a) = .returned (.int .i64 b) := by rw [h]

theorem node_any (i : Int) (w : World) : Calls Tryd.prog 11 #[.int .i64 i] w fun e w' => e = .returned (.bool (nodeB i)) ∧ w = w' := by
  by_cases h1 : 1 ≤ i
  · go_enter Tryd.func11, Tryd.ntmps11
    go_wp2
    go_ret
    exact ⟨ret_boolK (by unfold nodeB; rw [Bool.eq_iff_iff]; simp; omega), rfl⟩
  · go_enter Tryd.func11, Tryd.ntmps11
    go_wp2
    go_ret
    exact ⟨ret_boolK (by unfold nodeB; rw [eq_comm, decide_eq_false_iff_not]; omega), rfl⟩

theorem quorum_any (i : Int) (w : World) (hw : (Lit.int .i64 i).wf = true) : Calls Tryd.prog 12 #[.int .i64 i] w fun e w' => e = .returned (.int .i64 (quoS i : Int)) ∧ w = w' := by
  by_cases h : 1 ≤ i ∧ i ≤ 21
  · have hn : nodeB i = true := by unfold nodeB; rw [decide_eq_true h]
    obtain ⟨n, rfl⟩ : ∃ n : Nat, i = (n : Int) := ⟨i.toNat, by omega⟩
    obtain ⟨h1, h2⟩ := h
    have C := node_any (n : Int) w
    rw [hn] at C
    have HC := hid C
    clear C hw hn
    by_cases he : n % 2 = 0
    · have hm : (n : Int) % 2 = 0 := by omega
      go_enter Tryd.func12, Tryd.ntmps12
      go_wp2_with fail
      refine HC.out.mono ?_
      rintro e w' ⟨rfl, rfl⟩
      go_wp2_with fail
      go_ret
      refine ⟨ret_i64 ?_, rfl⟩
      unfold quoS
      rw [if_neg (by omega)]
      rfl
    · have hm : ¬ (n : Int) % 2 = 0 := by omega
      go_enter Tryd.func12, Tryd.ntmps12
      go_wp2_with fail
      refine HC.out.mono ?_
      rintro e w' ⟨rfl, rfl⟩
      go_wp2_with fail
      go_ret
      refine ⟨ret_i64 ?_, rfl⟩
      unfold quoS
      rw [if_pos (by omega)]
      omega
  · have hn : nodeB i = false := by unfold nodeB; rw [decide_eq_false h]
    have C := node_any i w
    rw [hn] at C
    have HC := hid C
    clear C
    go_enter Tryd.func12, Tryd.ntmps12
    go_wp2_with fail
    refine HC.out.mono ?_
    rintro e w' ⟨rfl, rfl⟩
    go_wp2_with fail
    go_ret
    refine ⟨ret_i64 ?_, rfl⟩
    unfold quoS
    rw [if_neg (by omega)]
    rfl
end Go.Proofs.YtakigopjbbhjkaaDoor
