/-
  A turn: which record, by which four bytes, from which byte on; arrays of four bytes, kept whole. Printed with gensw.py.
-/
import Derived.Test.YtfpgglclpkcdhaaWaSpoil
import Derived.Test.YtfpgglclpkcdhaaWaTexts
namespace Go.Proofs.Ytfpgglclpkcdhaa
set_option maxRecDepth 20000
open Go.ChangeShapes Go.WideShapes Go.ChangeAt Go.RowKit Go.Deep
def q4l (y0 y1 y2 y3:UInt8):List Value:=[bcell y0,bcell y1,bcell y2,bcell y3]
def q4c (y0 y1 y2 y3:UInt8):Array Value:=(q4l y0 y1 y2 y3).toArray
theorem q4c_one (y0 y1 y2 y3:UInt8):(q4c y0 y1 y2 y3).all (·.oneCell')=true:=by
 refine all_oneCell_toArray (fun u hu=>?_)
 unfold q4l at hu
 simp only [List.mem_cons,List.not_mem_nil,or_false] at hu
 rcases hu with rfl | rfl | rfl | rfl <;> rfl
theorem zero_qb:(Try.prog.info? 57).bind (·.zero)=some (.agg (q4c 0 0 0 0)):=by kernel_rfl
theorem run_zero_qb (w:World):(zeroValue 57).run Try.prog w=.ok (.agg (q4c 0 0 0 0)) w:=by
 have h:=zero_qb
 cases hq:Try.prog.info? 57 with
 | none=>rw [hq] at h;cases h
 | some i=>
  rw [hq] at h
  have hz:i.zero=some (.agg (q4c 0 0 0 0)):=h
  simp [zeroValue,typeInfo,hq,hz]
theorem sized_qb:(Try.prog.info? 57).map (·.size)=some 4:=by kernel_rfl
noncomputable def allocQb (w : World) : Result Next := Sem.run Try.prog (execOp (fun _ => undef) { dst := none, op := .alloc 57, type := 0, pos := "", after := #[], guard := none }) w
theorem exec_alloc_qb (r:Operand→Value) (dst:Option Tmp) (ty:TypeId) (pos:String) (after:Array Edge) (guard:Option (Nat × Bool)) (w:World):
  Sem.run Try.prog (execOp r { dst:=dst,op:=.alloc 57,type:=ty,pos:=pos,after:=after,guard:=guard }) w=allocQb w:=rfl
theorem allocQb_eq (w:World):allocQb w=.ok (.value (.pointer (some ⟨w.heap.size,0,none⟩))) (w.alloc (.cells (q4c 0 0 0 0) 57)):=by
 unfold allocQb execOp
 simp only [Sem.run_bind,Instr.alloc,run_zero_qb,newVar,newRow,run_newObj_alloc,Sem.run_pure,Result.andThen_ok,Value.cells]
noncomputable def storeQb (p v:Value) (w:World):Result Next:=Sem.run Try.prog (execOp (fun x=>match x with
 | .tmp 0=>p
 | _ => v) { dst := none, op := .store 57 (.tmp 0) (.tmp 1), type := 0, pos := "", after := #[], guard := none }) w
theorem exec_store_qb (r:Operand→Value) (x y:Operand) (dst:Option Tmp) (ty:TypeId) (pos:String) (after:Array Edge) (guard:Option (Nat × Bool)) (w:World):
  Sem.run Try.prog (execOp r { dst:=dst,op:=.store 57 x y,type:=ty,pos:=pos,after:=after,guard:=guard }) w=storeQb (r x) (r y) w:=rfl
theorem storeQb_eq {w:World} {g:Nat} {t:TypeId} {C0 C:Array Value} (hg:w.heap[g]?=some (.cells C0 t (0,0))) (h0:C0.size=4) (hC:C.size=4) (h1:C.all (·.oneCell')=true):
  storeQb (.pointer (some ⟨g,0,none⟩)) (.agg C) w=.ok .skip (setSe w g C):=by
 have:=run_storeVar_row (P:=Try.prog) w g t 57 C0 C hg (by rw [sized_qb,hC]) (by rw [h0,hC]) h1
 unfold storeQb execOp
 simp only [Instr.storeAt,Instr.sureAddr,Sem.run_bind,Sem.run_pure,Result.andThen_ok,this]
 rfl
theorem qb_var (w:World) {Z S:Array Value} (hZ:Z.size=4) (hS:S.size=4) (h1:S.all (·.oneCell')=true):
  storeQb (.pointer (some ⟨w.heap.size,0,none⟩)) (.agg S) (w.alloc (.cells Z 57))=.ok .skip (w.alloc (.cells S 57)):=by
 rw [storeQb_eq (heap_alloc_new w _) hZ hS h1,setSe_alloc]
theorem under_qb:Try.prog.underlying 57=some (.array 4 5):=by kernel_rfl
noncomputable def loadQb (v : Value) (w : World) : Result Next := Sem.run Try.prog (execOp (fun _ => v) { dst := none, op := .load 57 (.tmp 0), type := 0, pos := "", after := #[], guard := none }) w
theorem exec_load_qb (r:Operand→Value) (x:Operand) (dst:Option Tmp) (ty:TypeId) (pos:String) (after:Array Edge) (guard:Option (Nat × Bool)) (w:World):
  Sem.run Try.prog (execOp r { dst:=dst,op:=.load 57 x,type:=ty,pos:=pos,after:=after,guard:=guard }) w=loadQb (r x) w:=rfl
theorem loadQb_mid {w:World} {g o:Nat} {y0 y1 y2 y3:UInt8} (hr:w.rangeAt g o (q4l y0 y1 y2 y3)):loadQb (.pointer (some ⟨g,o,none⟩)) w=.ok (.value (.agg (q4c y0 y1 y2 y3))) w:=by
 have:=run_loadAt_mid (P:=Try.prog) w g o 57 (q4l y0 y1 y2 y3) _ hr under_qb rfl (by rw [sized_qb];rfl)
 unfold loadQb execOp
 simp only [Sem.run_bind,this,Result.andThen_ok,Sem.run_pure]
 rfl
noncomputable def buildQb (w : World) : Result Next := Sem.run Try.prog (execOp (fun _ => undef) { dst := none, op := .build 57 #[], type := 0, pos := "", after := #[], guard := none }) w
theorem exec_build_qb (r:Operand→Value) (dst:Option Tmp) (ty:TypeId) (pos:String) (after:Array Edge) (guard:Option (Nat × Bool)) (w:World):
  Sem.run Try.prog (execOp r { dst:=dst,op:=.build 57 #[],type:=ty,pos:=pos,after:=after,guard:=guard }) w=buildQb w:=by
 unfold buildQb execOp
 simp
theorem buildQb_eq (w:World):buildQb w=.ok (.value (.agg (q4c 0 0 0 0))) w:=by
 unfold buildQb execOp
 simp [Instr.build,Sem.run_bind,Instr.fill,Value.cells]
 rfl
noncomputable def eqQb (u v:Value) (w:World):Result Next:=Sem.run Try.prog (execOp (fun x=>match x with
 | .tmp 0=>u
 | _ => v) { dst := none, op := .binOp .eql 57 (.tmp 0) (.tmp 1) 57, type := 0, pos := "", after := #[], guard := none }) w
theorem exec_eq_qb (r:Operand→Value) (i j:Tmp) (dst:Option Tmp) (ty:TypeId) (pos:String) (after:Array Edge) (guard:Option (Nat × Bool)) (w:World):
  Sem.run Try.prog (execOp r { dst:=dst,op:=.binOp .eql 57 (.tmp i) (.tmp j) 57,type:=ty,pos:=pos,after:=after,guard:=guard }) w=eqQb (r (.tmp i)) (r (.tmp j)) w:=rfl
theorem eqItems_qb (d:Nat) (a b:List UInt8) (w:World):∀ is:List Nat,(∀ i ∈ is,i < a.length∧i < b.length)→
  (Op.eqItems (d + 1) 5 (Try.prog.cellsOf 5) (bcells a).toArray (bcells b).toArray is).run Try.prog w=.ok (is.all fun i=>decide (a[i]?=b[i]?)) w:=by
 have hc:Try.prog.cellsOf 5=1:=by kernel_rfl
 have hp:Try.prog.plainKey 5=true:=by kernel_rfl
 have hu:Try.prog.underlying 5=some (.int .u8):=by kernel_rfl
 have hg:∀ (h:List UInt8) (i:Nat) (hi:i < h.length),(bcells h).toArray[i]?=some (bcell h[i]):=fun h i hi=>by simp [bcells,hi]
 rw [hc]
 intro is
 induction is with
 | nil=>intro _;simp [Op.eqItems]
 | cons i is ih=>
  intro h
  obtain ⟨hi,hj⟩:=h i (by simp)
  have ih':=ih (fun j hj=>h j (List.mem_cons_of_mem _ hj))
  have pa:=run_part_plain (P:=Try.prog) w hp (hg a i hi)
  have pb:=run_part_plain (P:=Try.prog) w hp (hg b i hj)
  have pe:=run_equalIn_int (P:=Try.prog) w d 5 .u8 .u8 (a[i].toNat:Int) (b[i].toNat:Int) hu
  unfold bcell at pa pb
  simp only [Op.eqItems,Sem.run_bind,Nat.mul_one,pa,pb,pe,Result.andThen_ok]
  by_cases e:a[i]=b[i]
  ·simp [ih',hi,hj,e]
  ·have e1:((a[i].toNat:Int) == (b[i].toNat:Int))=false:=by
    rw [beq_eq_false_iff_ne]
    intro h
    exact e (UInt8.toNat_inj.1 (by omega))
   simp [e1,hi,hj,e]
theorem eqQb_eq (y0 y1 y2 y3:UInt8) (w:World):eqQb (.agg (q4c y0 y1 y2 y3)) (.agg (q4c 0 0 0 0)) w=.ok (.value (.bool (decide (y0=0) && (decide (y1=0) && (decide (y2=0) && decide (y3=0)))))) w:=by
 obtain ⟨i0,hi,_⟩:=info_parts info_u8
 have heq:(Op.equalIn 10000 57 (.agg (q4c y0 y1 y2 y3)) (.agg (q4c 0 0 0 0))).run Try.prog w=.ok (decide (y0=0) && (decide (y1=0) && (decide (y2=0) && decide (y3=0)))) w:=by
  have e:=eqItems_qb 9998 [y0,y1,y2,y3] [0,0,0,0] w [0,1,2,3] (fun i h=>by
   simp only [List.mem_cons,List.not_mem_nil,or_false] at h
   rcases h with rfl | rfl | rfl | rfl <;> simp)
  rw [run_equalIn_array w 9999 (q4c y0 y1 y2 y3) (q4c 0 0 0 0) under_qb hi]
  refine e.trans ?_
  congr 1
  simp
 unfold eqQb
 go_simp
structure TnM where
 a:Nat
 y0:UInt8
 y1:UInt8
 y2:UInt8
 y3:UInt8
 f:Nat
def tnl (x:TnM):List Value:=[.int .u8 (x.a:Int),bcell x.y0,bcell x.y1,bcell x.y2,bcell x.y3,.int .u16 (x.f:Int)]
def tnc (x:TnM):Array Value:=(tnl x).toArray
def tnZ:TnM:=⟨0,0,0,0,0,0⟩
def TnOk (x:TnM):Prop:=x.a≤255∧x.f≤65535
def TnM.y (x:TnM) (i:Nat):UInt8:=if i=0 then x.y0 else if i=1 then x.y1 else if i=2 then x.y2 else x.y3
theorem tn_cell (x:TnM) {i:Nat} (h:i < 4):(q4c x.y0 x.y1 x.y2 x.y3)[i]?=some (bcell (x.y i)):=by
 match i,h with
 | 0,_=>rfl
 | 1,_=>rfl
 | 2,_=>rfl
 | 3,_=>rfl
section
variable {H:Type} {enc:TypeId × Value→H} {w:World} {base:Nat} {spare:Nat→Bool} {held:Bool} {fuel:Nat} {cs:List Value} {x:DataW H × List MemPlace}
theorem trod_u8 (h:DataW.trod enc Try.prog w base spare held fuel 5 cs=some x):∃ c:UInt8,cs=[bcell c]:=by
 obtain ⟨n,rfl,_,hw⟩:=DataW.trod_int Try.underlying5 h
 have hr:0≤n∧n≤255:=by simpa [Lit.wf,IntKind.min,IntKind.max,IntKind.signed,IntKind.bits] using hw
 refine ⟨UInt8.ofNat n.toNat,?_⟩
 unfold bcell
 rw [UInt8.toNat_ofNat']
 congr 2
 omega
theorem trod_q4 (h:DataW.trod enc Try.prog w base spare held fuel 57 cs=some x):∃ y0 y1 y2 y3:UInt8,cs=q4l y0 y1 y2 y3:=by
 have hc:Try.prog.cellsOf 5=1:=by kernel_rfl
 have hc2:Try.prog.cellsOf 57=4:=by kernel_rfl
 obtain ⟨xs,m,_,_,hlen,hxl,hi⟩:=DataW.trod_array under_qb h
 rw [hc2] at hlen
 rw [hc] at hi
 have hb:∀ i,i < 4→∃ c:UInt8,cs[i]?=some (bcell c):=by
  intro i hi32
  have h1:=hi i hi32
  rw [List.getElem?_eq_getElem (by omega)] at h1
  obtain ⟨c,hcs⟩:=trod_u8 h1
  refine ⟨c,?_⟩
  have h2:=congrArg (fun l=>l[0]?) hcs
  simpa [List.getElem?_take,List.getElem?_drop] using h2
 obtain ⟨y0,h0⟩:=hb 0 (by omega)
 obtain ⟨y1,h1⟩:=hb 1 (by omega)
 obtain ⟨y2,h2⟩:=hb 2 (by omega)
 obtain ⟨y3,h3⟩:=hb 3 (by omega)
 refine ⟨y0,y1,y2,y3,List.ext_getElem? (fun i=>?_)⟩
 match i with
 | 0=>exact h0
 | 1=>exact h1
 | 2=>exact h2
 | 3=>exact h3
 | i + 4=>rw [List.getElem?_eq_none (by omega),List.getElem?_eq_none (by simp [q4l])]
theorem fields_tn:∃ f0 f1 f2:Field,Try.prog.underlying 60=some (.struct #[f0,f1,f2])∧(f0.type,f0.offset)=(5,0)∧(f1.type,f1.offset)=(57,1)∧(f2.type,f2.offset)=(58,5):=
 ⟨_,_,_,Try.underlying60,rfl,rfl,rfl⟩
theorem trod_tn (h:DataW.trod enc Try.prog w base spare held fuel 60 cs=some x):∃ x:TnM,TnOk x∧cs=(tnc x).toList:=by
 obtain ⟨f0,f1,f2,hu,e0,e1,e2⟩:=fields_tn
 injection e0 with t0 o0
 injection e1 with t1 o1
 injection e2 with t2 o2
 obtain ⟨xs,m,_,_,hlen,hxl,hf⟩:=DataW.trod_struct hu h
 have hc:Try.prog.cellsOf 60=6:=by kernel_rfl
 have hc0:Try.prog.cellsOf 5=1:=by kernel_rfl
 have hc1:Try.prog.cellsOf 57=4:=by kernel_rfl
 have hc2:Try.prog.cellsOf 58=1:=by kernel_rfl
 rw [hc] at hlen
 have hx:xs.length=3:=hxl
 have g0:=hf 0 f0 rfl
 have g1:=hf 1 f1 rfl
 have g2:=hf 2 f2 rfl
 rw [t0,o0,hc0,List.getElem?_eq_getElem (by omega)] at g0
 rw [t1,o1,hc1,List.getElem?_eq_getElem (by omega)] at g1
 rw [t2,o2,hc2,List.getElem?_eq_getElem (by omega)] at g2
 obtain ⟨n0,c0,_,w0⟩:=DataW.trod_int Try.underlying5 g0
 obtain ⟨y0,y1,y2,y3,c1⟩:=trod_q4 g1
 obtain ⟨n2,c2,_,w2⟩:=DataW.trod_int Try.underlying58 g2
 have r0:0≤n0∧n0≤255:=by simpa [Lit.wf,IntKind.min,IntKind.max,IntKind.signed,IntKind.bits] using w0
 have r2:0≤n2∧n2≤65535:=by simpa [Lit.wf,IntKind.min,IntKind.max,IntKind.signed,IntKind.bits] using w2
 obtain ⟨a,rfl⟩:∃ m:Nat,n0=(m:Int):=⟨n0.toNat,by omega⟩
 obtain ⟨f,rfl⟩:∃ m:Nat,n2=(m:Int):=⟨n2.toNat,by omega⟩
 refine ⟨⟨a,y0,y1,y2,y3,f⟩,⟨by have:=r0.2;show a≤255;omega,by have:=r2.2;show f≤65535;omega⟩,?_⟩
 have e:cs=cs.drop 0:=rfl
 rw [e,drop_part c0,drop_part c1,drop_part c2,List.drop_eq_nil_of_le (by omega)]
 rfl
end
end Go.Proofs.Ytfpgglclpkcdhaa
