/-
  Operations behind a guard that says no, hidden under a name: the walk of a region branches over them, and tries none; a step over such a one ahead of a region's tail. No function of the program.
-/
import Derived.Test.YtefngncieagobaaWords
import Derived.StillTailTactics
namespace Go.Proofs.Ytefngncieagobaa
open Go.RowKit

def opOff (o : Op) (_ : Nat) : Op := o
section
variable (n : Nat) (b : Bool) (d : Option Tmp) (ty : TypeId) (pos : String) (af : Array Edge)
theorem off_move (x : Operand) : (⟨d, .move x, ty, pos, af, some (n, b)⟩ : Oper) = ⟨d, opOff (.move x) 0, ty, pos, af, some (n, b)⟩ := rfl
theorem off_addr (t : TypeId) (x : Operand) (k : Nat) : (⟨d, .fieldAddr t x k, ty, pos, af, some (n, b)⟩ : Oper) = ⟨d, opOff (.fieldAddr t x k) 0, ty, pos, af, some (n, b)⟩ := rfl
theorem off_load (t : TypeId) (x : Operand) : (⟨d, .load t x, ty, pos, af, some (n, b)⟩ : Oper) = ⟨d, opOff (.load t x) 0, ty, pos, af, some (n, b)⟩ := rfl
theorem off_bin (o : BinOp) (t : TypeId) (x y : Operand) (u : TypeId) : (⟨d, .binOp o t x y u, ty, pos, af, some (n, b)⟩ : Oper) = ⟨d, opOff (.binOp o t x y u) 0, ty, pos, af, some (n, b)⟩ := rfl
theorem off_un (o : UnOp) (t : TypeId) (x : Operand) : (⟨d, .unOp o t x, ty, pos, af, some (n, b)⟩ : Oper) = ⟨d, opOff (.unOp o t x) 0, ty, pos, af, some (n, b)⟩ := rfl
theorem off_pick (x y z : Operand) : (⟨d, .pick x y z, ty, pos, af, some (n, b)⟩ : Oper) = ⟨d, opOff (.pick x y z) 0, ty, pos, af, some (n, b)⟩ := rfl
theorem off_slice (t : TypeId) (x : Operand) (i j k : Option Operand) : (⟨d, .slice t x i j k, ty, pos, af, some (n, b)⟩ : Oper) = ⟨d, opOff (.slice t x i j k) 0, ty, pos, af, some (n, b)⟩ := rfl
theorem off_call (c : Call) : (⟨d, .call c, ty, pos, af, some (n, b)⟩ : Oper) = ⟨d, opOff (.call c) 0, ty, pos, af, some (n, b)⟩ := rfl
theorem off_conv (s t : TypeId) (x : Operand) : (⟨d, .convert s t x, ty, pos, af, some (n, b)⟩ : Oper) = ⟨d, opOff (.convert s t x) 0, ty, pos, af, some (n, b)⟩ := rfl
end
/-- An operation whose guard says no, among those that come ahead of a region's tail. -/
theorem wpStill_off {P : Program} {ops : Array Oper} {w : World} {Q : Act → Prop} {o : Oper} {rest : List Oper} {a : Act} (h : Region.wanted o (yielded ops a.tmps) = false) (k : wpStill P ops w Q rest (a.put o.dst undef)) : wpStill P ops w Q (o :: rest) a := by
  unfold wpStill
  rw [h, if_neg (by decide)]
  exact k
end Go.Proofs.Ytefngncieagobaa
