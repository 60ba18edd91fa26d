/-
  A certificate that has nothing, built whole.
-/
import Derived.Test.YtpdnnmabijmfbaaGreatDoorBs16
namespace Go.Proofs.YtpdnnmabijmfbaaGreatDoor
set_option maxRecDepth 20000
open Go.RowKit
noncomputable def buildCt7 (w : World) : Result Next := Sem.run Tryz.prog (execOp (fun _ => undef) { dst := none, op := .build 57 #[], type := 0, pos := "", after := #[], guard := none }) w
theorem exec_build_ct7 (r:Operand→Value) (dst:Option Tmp) (ty:TypeId) (pos:String) (after:Array Edge) (guard:Option (Nat × Bool)) (w:World):
  Sem.run Tryz.prog (execOp r { dst:=dst,op:=.build 57 #[],type:=ty,pos:=pos,after:=after,guard:=guard }) w=buildCt7 w:=by
 unfold buildCt7 execOp
 simp
theorem buildCt7_eq (w:World):buildCt7 w=.ok (.value (.agg (ctc ctZ (.slice none 0 0)))) w:=by
 unfold buildCt7
 go_simp
 rfl
end Go.Proofs.YtpdnnmabijmfbaaGreatDoor
