/-
  An append of bytes onto an empty row without room, whatever its address: a row of the call's own. A slice cut to nothing, without room.
-/
import Derived.Test.YtpecdlafeelkoaaAppend
import Derived.ArgAppend
namespace Go.Proofs.Ytpecdlafeelkoaa
open Go.RowKit

theorem wpList_append_bare {ops : Array Oper} {rest : List Oper} {o : Oper} {a : Act} {Q : Exit → Act → World → Prop} {w : World} (hgd : o.guard = none) (s y : Operand)
    (ho : o.op = .call { callee := .builtin .append, args := #[s, y], argTypes := #[22, 22] })
    {A : Option Addr} {x : Value} {m : List UInt8} (hes : a.eval s = .slice A 0 0) (hey : a.eval y = x) (hx : Byt w x m) (h0 : 0 < m.length) (hs : m.length ≤ 140737488355328)
    (h : ∀ v' w', Own w.heap.size w' v' m → w.grownBy w' none → wpList Try.prog ops Q rest (a.put o.dst v') w') :
    wpList Try.prog ops Q (o :: rest) a w := by
  obtain ⟨i0, hi, hz0, hz1, hz2⟩ := info_parts info_u8
  obtain ⟨A2, c, rfl, hmc, hcm, hr⟩ := hx
  obtain ⟨b, off, rfl, _, hc⟩ := hr h0
  refine wpList_append_grows w hgd s y 22 ho 5 i0 (.int .u8 0) 1 1 under_bytes hi hz0 hz1 hz2 rfl (by omega) A 0 0 [] hes (fun _ => ⟨rfl, rfl⟩) rfl (by intro _ _ _ _ h; simp at h) ⟨b, off, none⟩ m.length c (bcells m) hey (by simp [bcells]) ?_ (bcells_one m) (by omega) (by omega) (by omega) ?_
  · intro j u hu
    obtain ⟨hj, rfl⟩ := bcells_get m j u hu
    rw [addr_add]
    exact hc j hj
  · intro v' w' hown hg
    refine h v' w' ?_ hg
    rw [Nat.zero_add, List.nil_append] at hown
    exact hown

/-- A slice cut to nothing, without room. -/
noncomputable def cutHM (v h m : Value) (w : World) : Result Next := Sem.run Try.prog (execOp (fun o => match o with | .tmp 0 => v | .tmp 1 => h | _ => m) { dst := none, op := .slice 22 (.tmp 0) none (some (.tmp 1)) (some (.tmp 2)), type := 0, pos := "", after := #[], guard := none }) w
theorem exec_cutHM (r : Operand → Value) (x h m : Operand) (dst : Option Tmp) (ty : TypeId) (pos : String) (after : Array Edge) (guard : Option (Nat × Bool)) (w : World) :
    Sem.run Try.prog (execOp r { dst := dst, op := .slice 22 x none (some h) (some m), type := ty, pos := pos, after := after, guard := guard }) w = cutHM (r x) (r h) (r m) w := rfl
theorem cut_zero (A : Option Addr) (c L : Nat) : ∃ A', ∀ w, cutHM (.slice A L c) (.int .i64 0) (.int .i64 0) w = .ok (.value (.slice A' 0 0)) w := by
  refine ⟨if (0 : Nat) = 0 then A else A.map (·.add 0), fun w => ?_⟩
  obtain ⟨i0, hi, hz0, hz1, hz2⟩ := info_parts info_u8
  unfold cutHM execOp
  simp [Instr.sliceAt, Instr.slice, run_underlying under_bytes, Instr.sliceBounds, Instr.sliceBound, asIntOf, sizeOf, typeInfo, hi, Sem.run_bind]
end Go.Proofs.Ytpecdlafeelkoaa
