/-
  '!=' of attestations, kept whole; a certificate and a trusted part that have nothing.
-/
import Derived.Test.YtpdnnmabijmfbaaGreatDoorTeWords
namespace Go.Proofs.YtpdnnmabijmfbaaGreatDoor
set_option maxRecDepth 20000
open Go.RowKit
noncomputable def neAt7 (u v:Value) (w:World):Result Next:=Sem.run Tryz.prog (execOp (fun x=>match x with
 | .tmp 0=>u
 | _ => v) { dst := none, op := .binOp .neq 54 (.tmp 0) (.tmp 1) 54, type := 0, pos := "", after := #[], guard := none }) w
theorem exec_ne_at7 (r:Operand→Value) (i j:Tmp) (dst:Option Tmp) (ty:TypeId) (pos:String) (after:Array Edge) (guard:Option (Nat × Bool)) (w:World):
  Sem.run Tryz.prog (execOp r { dst:=dst,op:=.binOp .neq 54 (.tmp i) (.tmp j) 54,type:=ty,pos:=pos,after:=after,guard:=guard }) w=neAt7 (r (.tmp i)) (r (.tmp j)) w:=rfl
theorem neAt7_eq (a b:AtM) (ho:a.Ok) (hp:b.Ok) (w:World):neAt7 (.agg (atc a)) (.agg (atc b)) w=.ok (.value (.bool (!decide (a=b)))) w:=by
 have heq:=fun W=>eq_att a b ho hp W
 obtain ⟨q,HQ⟩:∃ q:Bool,Hid (decide (a=b)=q):=⟨_,hid rfl⟩
 obtain ⟨C,HC⟩:∃ C:Array Value,Hid (atc a=C):=⟨_,hid rfl⟩
 obtain ⟨D,HD⟩:∃ C:Array Value,Hid (atc b=C):=⟨_,hid rfl⟩
 rw [HQ.out,HC.out,HD.out] at heq
 rw [HQ.out,HC.out,HD.out]
 unfold neAt7
 go_simp
noncomputable def neSe7 (u v:Value) (w:World):Result Next:=Sem.run Tryz.prog (execOp (fun x=>match x with
 | .tmp 0=>u
 | _ => v) { dst := none, op := .binOp .neq 40 (.tmp 0) (.tmp 1) 40, type := 0, pos := "", after := #[], guard := none }) w
theorem exec_ne_se7 (r:Operand→Value) (i j:Tmp) (dst:Option Tmp) (ty:TypeId) (pos:String) (after:Array Edge) (guard:Option (Nat × Bool)) (w:World):
  Sem.run Tryz.prog (execOp r { dst:=dst,op:=.binOp .neq 40 (.tmp i) (.tmp j) 40,type:=ty,pos:=pos,after:=after,guard:=guard }) w=neSe7 (r (.tmp i)) (r (.tmp j)) w:=rfl
theorem neSe7_eq (a b:SeM) (ho:a.Ok) (hp:b.Ok) (w:World):neSe7 (.agg (sec a)) (.agg (sec b)) w=.ok (.value (.bool (!decide (a=b)))) w:=by
 have heq:=fun W=>eq_se a b ho hp W
 obtain ⟨q,HQ⟩:∃ q:Bool,Hid (decide (a=b)=q):=⟨_,hid rfl⟩
 obtain ⟨C,HC⟩:∃ C:Array Value,Hid (sec a=C):=⟨_,hid rfl⟩
 obtain ⟨D,HD⟩:∃ C:Array Value,Hid (sec b=C):=⟨_,hid rfl⟩
 rw [HQ.out,HC.out,HD.out] at heq
 rw [HQ.out,HC.out,HD.out]
 unfold neSe7
 go_simp
noncomputable def buildTe0 (w : World) : Result Next := Sem.run Tryz.prog (execOp (fun _ => undef) { dst := none, op := .build 95 #[], type := 0, pos := "", after := #[], guard := none }) w
theorem exec_build_te0 (r:Operand→Value) (dst:Option Tmp) (ty:TypeId) (pos:String) (after:Array Edge) (guard:Option (Nat × Bool)) (w:World):
  Sem.run Tryz.prog (execOp r { dst:=dst,op:=.build 95 #[],type:=ty,pos:=pos,after:=after,guard:=guard }) w=buildTe0 w:=by
 unfold buildTe0 execOp
 simp
theorem buildTe0_eq (w:World):buildTe0 w=.ok (.value (.agg (tec 0 0 none seZ 0 0))) w:=by
 unfold buildTe0
 go_simp
 rfl
theorem tec_one (i n:Int) (b:Option Addr) (s:SeM) (d e:Int):(tec i n b s d e).all (·.oneCell')=true:=by
 unfold tec
 refine all_oneCell_toArray (fun u hu=>?_)
 unfold teh tet at hu
 simp only [List.mem_append,List.mem_cons,List.not_mem_nil,or_false] at hu
 rcases hu with (rfl | rfl | rfl) | hu | rfl | rfl | rfl | rfl
 ·rfl
 ·rfl
 ·rfl
 ·exact sel_one _ u hu
 ·rfl
 ·rfl
 ·rfl
 ·rfl
noncomputable def buildTe4 (v p q x:Value) (w:World):Result Next:=Sem.run Tryz.prog (execOp (fun z=>match z with
 | .tmp 0=>v
 | .tmp 1=>p
 | .tmp 2=>q
 | _ => x) { dst := none, op := .build 95 #[(0, .tmp 0), (1, .tmp 1), (2, .tmp 2), (3, .tmp 3)], type := 0, pos := "", after := #[], guard := none }) w
theorem exec_build_te4 (r:Operand→Value) (x0 x1 x2 x3:Operand) (dst:Option Tmp) (ty:TypeId) (pos:String) (after:Array Edge) (guard:Option (Nat × Bool)) (w:World):
  Sem.run Tryz.prog (execOp r { dst:=dst,op:=.build 95 #[(0,x0),(1,x1),(2,x2),(3,x3)],type:=ty,pos:=pos,after:=after,guard:=guard }) w=buildTe4 (r x0) (r x1) (r x2) (r x3) w:=by
 unfold buildTe4 execOp
 simp
theorem buildTe4_eq (i n:Int) (b:Option Addr) (s:SeM) (hs:s.Ok) (w:World):buildTe4 (.int .i64 i) (.int .i64 n) (.pointer b) (.agg (sec s)) w=.ok (.value (.agg (tec i n b s 0 0))) w:=by
 have hsz:=sec_size hs
 have e0:(sec s).zipIdx=((sel s).zipIdx).toArray:=by simp [sec]
 unfold buildTe4
 go_simp
 exact (fold_putSgO (sel s) 0 3 _).trans (putAt_mid (sel s) (teh i n b) (sel seZ) (tet 0 0) (by rw [sel_length hs];rfl))
end Go.Proofs.YtpdnnmabijmfbaaGreatDoor
