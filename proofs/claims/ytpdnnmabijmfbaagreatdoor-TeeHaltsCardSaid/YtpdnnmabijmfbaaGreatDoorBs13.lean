/-
  SePure SeWords SeOk SeEq SeArg VaPure: what each of them says stands at its head.
-/
import Derived.Test.YtpdnnmabijmfbaaGreatDoorBs10
import Derived.Test.YtpdnnmabijmfbaaGreatDoorBs11
namespace Go.Proofs.YtpdnnmabijmfbaaGreatDoor
set_option maxRecDepth 20000
structure SeM where
 vi:Int
 ph:Int
 pv:Int
 pa:List UInt8
 deriving DecidableEq
def seZ:SeM:=⟨0,0,0,z32⟩
def SeM.Ok (s:SeM):Prop:=s.pa.length=32
theorem seZ_ok:seZ.Ok:=rfl
def mayS (s:SeM):Bool:=if s.vi=0 then decide (s=seZ) else if s.vi < 0∨1099511627776 < s.vi∨s.ph < 1∨3 < s.ph∨s.pv < 0 then false else decide (s.pv < s.vi) || (decide (s.pv=s.vi) && decide (s.ph=3))
theorem mayS_iff {s:SeM} (h:mayS s=true):0≤s.vi∧s.vi≤1099511627776∧0≤s.ph∧s.ph≤3∧0≤s.pv∧s.pv≤s.vi:=by
 unfold mayS at h
 split at h
 ·rw [decide_eq_true_eq] at h
  subst h
  decide
 ·split at h
  ·cases h
  ·simp only [Bool.or_eq_true,Bool.and_eq_true,decide_eq_true_eq] at h
   omega
def lessS (a b:SeM):Bool:=decide (a.vi < b.vi) || (decide (a.vi=b.vi) && decide (a.ph < b.ph))
def taggedS (n:Int) (s:SeM):List UInt8:=dg n.toNat ++ (dg s.vi.toNat ++ (dg s.ph.toNat ++ (dg s.pv.toNat ++ s.pa)))
def tagS (i n:Int) (s:SeM):List UInt8:=hl 32 (tagF i 3 (taggedS n s))
theorem tagS_len (i n:Int) (s:SeM):(tagS i n s).length=32:=hl_length _ _
def blobS (i n:Int) (s:SeM):List UInt8:=taggedS n s ++ tagS i n s
def versB (n:Int):Bool:=decide (1≤n∧n≤1099511627776)
theorem taggedS_len {n:Int} {s:SeM} (ho:s.Ok) (hn:versB n=true) (hm:mayS s=true):(taggedS n s).length≤72:=by
 obtain ⟨h1,h2,h3,h4,h5,h6⟩:=mayS_iff hm
 unfold versB at hn
 rw [decide_eq_true_eq] at hn
 have e1:=dg_len10 (n:=n.toNat) (by omega)
 have e2:=dg_len10 (n:=s.vi.toNat) (by omega)
 have e3:=dg_len10 (n:=s.ph.toNat) (by omega)
 have e4:=dg_len10 (n:=s.pv.toNat) (by omega)
 have e5:s.pa.length=32:=ho
 unfold taggedS
 simp only [List.length_append]
 omega
def rawB (l:List UInt8):Int × SeM × List UInt8 × Nat × Bool:=
 let a:=rdUpto 1099511627776 l 0 true
 let b:=rdUpto 1099511627776 l a.2.1 a.2.2
 let c:=rdUpto 3 l b.2.1 b.2.2
 let d:=rdUpto 1099511627776 l c.2.1 c.2.2
 let e:=rdHash l d.2.1 d.2.2
 let f:=rdHash l e.2.1 e.2.2
 (a.1,⟨b.1,c.1,d.1,e.1⟩,f.1,f.2)
def textB (l:List UInt8):Bool:=((rawB l).2.2.2.2 && decide ((rawB l).2.2.2.1=l.length)) && (decide (1≤(rawB l).1) && mayS (rawB l).2.1)
def getB (i:Int) (l:List UInt8):Int × SeM × Int:=
 if textB l=true then if nodeB i=true∧(rawB l).2.2.1=tagS i (rawB l).1 (rawB l).2.1 then ((rawB l).1,(rawB l).2.1,0) else (0,seZ,7) else (0,seZ,2)
theorem rawB_ok (l:List UInt8):(rawB l).2.1.Ok:=rdHash_32 _ _ _
theorem rawB_le (l:List UInt8):0≤(rawB l).1∧(rawB l).1≤1099511627776:=by
 unfold rawB
 simp only
 have h:=rdNum_le (most:=1099511627776) (l:=l) (p:=0) (r:=true)
 unfold rdUpto
 rw [if_neg (by omega)]
 have e:(1099511627776:Int).toNat=1099511627776:=rfl
 rw [e]
 omega
theorem textB_so {l:List UInt8} (h:textB l=true):l=taggedS (rawB l).1 (rawB l).2.1 ++ (rawB l).2.2.1∧versB (rawB l).1=true∧mayS (rawB l).2.1=true∧(rawB l).2.2.1.length=32:=by
 unfold textB at h
 simp only [Bool.and_eq_true,decide_eq_true_eq] at h
 obtain ⟨⟨h1,h2⟩,h3,h4⟩:=h
 have hle:=rawB_le l
 refine ⟨?_,decide_eq_true ⟨h3,hle.2⟩,h4,rdHash_32 _ _ _⟩
 clear h3 h4 hle
 unfold rawB at h1 h2 ⊢
 obtain ⟨a,p1,r1,ha⟩:∃ x q s,rdUpto 1099511627776 l 0 true=(x,q,s):=⟨_,_,_,rfl⟩
 obtain ⟨b,p2,r2,hb⟩:∃ x q s,rdUpto 1099511627776 l p1 r1=(x,q,s):=⟨_,_,_,rfl⟩
 obtain ⟨c,p3,r3,hc⟩:∃ x q s,rdUpto 3 l p2 r2=(x,q,s):=⟨_,_,_,rfl⟩
 obtain ⟨d,p4,r4,hd⟩:∃ x q s,rdUpto 1099511627776 l p3 r3=(x,q,s):=⟨_,_,_,rfl⟩
 obtain ⟨e,p5,r5,he⟩:∃ x q s,rdHash l p4 r4=(x,q,s):=⟨_,_,_,rfl⟩
 obtain ⟨f,p6,r6,hf⟩:∃ x q s,rdHash l p5 r5=(x,q,s):=⟨_,_,_,rfl⟩
 simp only [ha,hb,hc,hd,he,hf] at h1 h2 ⊢
 subst h1
 obtain ⟨rfl,_,q6,y6,hy6⟩:=rdHash_so hf
 obtain ⟨rfl,_,q5,y5,hy5⟩:=rdHash_so he
 obtain ⟨rfl,_,_,q4,y4,hy4⟩:=rdUpto_so hd
 obtain ⟨rfl,_,_,q3,y3,hy3⟩:=rdUpto_so hc
 obtain ⟨rfl,_,_,q2,y2,hy2⟩:=rdUpto_so hb
 obtain ⟨_,_,_,q1,y1,hy1⟩:=rdUpto_so ha
 have d1:=drop_more hy1
 rw [← q1,hy2] at d1
 have d2:=drop_more hy2
 rw [← q2,hy3] at d2
 have d3:=drop_more hy3
 rw [← q3,hy4] at d3
 have d4:=drop_more hy4
 rw [← q4,hy5] at d4
 have d5:=drop_more hy5
 rw [← q5,hy6] at d5
 have d6:=drop_more hy6
 rw [← q6,h2,List.drop_length] at d6
 subst d6
 rw [List.drop_zero] at hy1
 unfold taggedS
 simp only [Int.toNat_natCast,List.append_assoc]
 rw [hy1,← d1,← d2,← d3,← d4,← d5,List.append_nil]
theorem textB_eq {l:List UInt8} (i:Int) (h:textB l=true):(blobS i (rawB l).1 (rawB l).2.1=l) ↔ (rawB l).2.2.1=tagS i (rawB l).1 (rawB l).2.1:=by
 obtain ⟨h1,_,_,h4⟩:=textB_so h
 unfold blobS
 constructor
 ·intro e
  have e2:=e.trans h1
  exact (List.append_cancel_left e2).symm
 ·intro e
  rw [← e]
  exact h1.symm
theorem rawB_back {n:Int} {s:SeM} {t:List UInt8} (ho:s.Ok) (hn:versB n=true) (hm:mayS s=true) (ht:t.length=32):rawB (taggedS n s ++ t)=(n,s,t,(taggedS n s ++ t).length,true):=by
 obtain ⟨h1,h2,h3,h4,h5,h6⟩:=mayS_iff hm
 unfold versB at hn
 rw [decide_eq_true_eq] at hn
 obtain ⟨vi,ph,pv,pa⟩:=s
 have ho':pa.length=32:=ho
 simp only at h1 h2 h3 h4 h5 h6
 obtain ⟨x0,rfl⟩:=nat_of (i:=n) (by omega)
 obtain ⟨x1,rfl⟩:=nat_of (i:=vi) (by omega)
 obtain ⟨x2,rfl⟩:=nat_of (i:=ph) (by omega)
 obtain ⟨x3,rfl⟩:=nat_of (i:=pv) (by omega)
 have d0:(taggedS (x0:Int) ⟨x1,x2,x3,pa⟩ ++ t).drop 0=dg x0 ++ (dg x1 ++ (dg x2 ++ (dg x3 ++ (pa ++ t)))):=by
  unfold taggedS
  simp only [Int.toNat_natCast,List.append_assoc,List.drop_zero]
 have hlen:(taggedS (x0:Int) ⟨x1,x2,x3,pa⟩ ++ t).length=(dg x0).length + (dg x1).length + (dg x2).length + (dg x3).length + 32 + 32:=by
  have:=congrArg List.length d0
  rw [List.drop_zero] at this
  rw [this]
  simp only [List.length_append,ho',ht]
  omega
 have d1:=drop_more d0
 have d2:=drop_more d1
 have d3:=drop_more d2
 have d4:=drop_more d3
 have d5:=drop_more d4
 rw [ho'] at d5
 rw [hlen]
 generalize taggedS (x0:Int) ⟨x1,x2,x3,pa⟩ ++ t=L at *
 unfold rawB
 simp only [rdUpto_at (m:=1099511627776) d0 (by omega) (by omega),rdUpto_at (m:=1099511627776) d1 (by omega) (by omega),rdUpto_at (m:=3) d2 (by omega) (by omega),rdUpto_at (m:=1099511627776) d3 (by omega) (by omega),rdHash_at d4 ho',
  rdHash_at (r:=[]) (by rw [List.append_nil];exact d5) ht]
 simp only [Nat.zero_add]
theorem getB_back {i n:Int} {s:SeM} (ho:s.Ok) (hn:versB n=true) (hm:mayS s=true) (hi:nodeB i=true):getB i (blobS i n s)=(n,s,0):=by
 have e:rawB (blobS i n s)=(n,s,tagS i n s,(blobS i n s).length,true):=rawB_back ho hn hm (tagS_len _ _ _)
 have ht:textB (blobS i n s)=true:=by
  unfold textB
  rw [e]
  unfold versB at hn
  rw [decide_eq_true_eq] at hn
  simp only [Bool.true_and,Bool.and_eq_true,decide_eq_true_eq,hm,and_true,true_and]
  exact hn.1
 unfold getB
 rw [if_pos ht,e]
 simp only
 rw [if_pos ⟨hi,trivial⟩]
end Go.Proofs.YtpdnnmabijmfbaaGreatDoor
namespace Go.Proofs.YtpdnnmabijmfbaaGreatDoor
set_option maxRecDepth 20000
open Go.RowKit
def sel (a:SeM):List Value:=[.int .i64 a.vi,.int .i64 a.ph,.int .i64 a.pv] ++ bcells a.pa
def sec (a:SeM):Array Value:=(sel a).toArray
theorem sel_length {a:SeM} (h:a.Ok):(sel a).length=35:=by
 have:a.pa.length=32:=h
 unfold sel
 simp only [List.length_append,bcells_length,List.length_cons,List.length_nil]
 omega
theorem sec_size {a:SeM} (h:a.Ok):(sec a).size=35:=by
 unfold sec
 rw [List.size_toArray,sel_length h]
def BoxSe (w:World) (g:Nat) (a:SeM):Prop:=w.heap[g]?=some (.cells (sec a) 40 (0,0))
section
variable {w w':World} {g:Nat} {a:SeM}
theorem BoxSe.new (w:World) (a:SeM):BoxSe (w.alloc (.cells (sec a) 40)) w.heap.size a:=heap_alloc_new w _
theorem BoxSe.lt (h:BoxSe w g a):g < w.heap.size:=lt_of_block h
theorem BoxSe.below {B:Nat} (h:BoxSe w g a) (hb:Below B w w') (hg:g < B):BoxSe w' g a:=(hb.block g hg).trans h
theorem BoxSe.keep (h:BoxSe w g a) (hb:Below w.heap.size w w'):BoxSe w' g a:=h.below hb h.lt
theorem BoxSe.free (h:BoxSe w g a) (i:Nat):w.frozen? ⟨g,i,none⟩=false:=free_blk h i
theorem BoxSe.cell (h:BoxSe w g a) (i:Nat):w.cell? ⟨g,i,none⟩=(sel a)[i]?:=by
 rw [cell_blk h i]
 unfold sec
 rw [List.getElem?_toArray]
theorem BoxSe.cells (h:BoxSe w g a):w.cell? ⟨g,0,none⟩=some (.int .i64 a.vi)∧w.cell? ⟨g,1,none⟩=some (.int .i64 a.ph)∧w.cell? ⟨g,2,none⟩=some (.int .i64 a.pv):=⟨h.cell 0,h.cell 1,h.cell 2⟩
theorem BoxSe.range0 (h:BoxSe w g a) {pre l post:List Value} (e:sel a=pre ++ (l ++ post)):w.rangeAt g pre.length l:=fun j u hu=>by
 rw [h.cell,e,List.getElem?_append_right (by omega),Nat.add_sub_cancel_left,List.getElem?_append_left (List.getElem?_eq_some_iff.1 hu).1]
 exact hu
theorem BoxSe.hash (h:BoxSe w g a):w.rangeAt g 3 (bcells a.pa):=h.range0 (pre:=[.int .i64 a.vi,.int .i64 a.ph,.int .i64 a.pv]) (post:=[]) (by rw [List.append_nil];rfl)
end
noncomputable def loadSe (v : Value) (w : World) : Result Next := Sem.run Tryz.prog (execOp (fun _ => v) { dst := none, op := .load 40 (.tmp 0), type := 0, pos := "", after := #[], guard := none }) w
theorem exec_load_se (r:Operand→Value) (x:Operand) (dst:Option Tmp) (ty:TypeId) (pos:String) (after:Array Edge) (guard:Option (Nat × Bool)) (w:World):
  Sem.run Tryz.prog (execOp r { dst:=dst,op:=.load 40 x,type:=ty,pos:=pos,after:=after,guard:=guard }) w=loadSe (r x) w:=rfl
theorem under_se:Tryz.prog.underlying 40=some (.struct (Tryz.prog.fieldsOf 40)):=by kernel_rfl
theorem size_se:(Tryz.prog.info? 40).map (·.size)=some 35:=by kernel_rfl
theorem loadSe_row {w:World} {g:Nat} {C:Array Value} {T:TypeId} (h:w.heap[g]?=some (.cells C T (0,0))) (hs:C.size=35):loadSe (.pointer (some ⟨g,0,none⟩)) w=.ok (.value (.agg C)) w:=by
 have:=run_loadAt_mid (P:=Tryz.prog) w g 0 40 C.toList _ (fun j v hj=>by rw [Nat.zero_add,cell_blk h j];simpa using hj) under_se rfl (by rw [size_se];simp [hs])
 simp only [Array.toArray_toList] at this
 unfold loadSe execOp
 simp only [Sem.run_bind,this,Result.andThen_ok,Sem.run_pure]
theorem loadSe_eq {w:World} {g:Nat} {a:SeM} (h:BoxSe w g a) (ho:a.Ok):loadSe (.pointer (some ⟨g,0,none⟩)) w=.ok (.value (.agg (sec a))) w:=loadSe_row h (sec_size ho)
theorem sel_one (a:SeM):∀ u ∈ sel a,u.oneCell'=true:=by
 intro u hu
 unfold sel at hu
 simp only [List.mem_append,List.mem_cons,List.not_mem_nil,or_false] at hu
 rcases hu with (rfl | rfl | rfl) | hu
 ·rfl
 ·rfl
 ·rfl
 ·exact bcells_one _ u hu
theorem sec_one (a:SeM):(sec a).all (·.oneCell')=true:=all_oneCell_toArray (sel_one a)
theorem zero_se:(Tryz.prog.info? 40).bind (·.zero)=some (.agg (sec seZ)):=by kernel_rfl
theorem run_zero_se (w:World):(zeroValue 40).run Tryz.prog w=.ok (.agg (sec seZ)) w:=by
 have h:=zero_se
 cases hq:Tryz.prog.info? 40 with
 | none=>rw [hq] at h;cases h
 | some i=>
  rw [hq] at h
  have hz:i.zero=some (.agg (sec seZ)):=h
  simp [zeroValue,typeInfo,hq,hz]
noncomputable def buildSe (w : World) : Result Next := Sem.run Tryz.prog (execOp (fun _ => undef) { dst := none, op := .build 40 #[], type := 0, pos := "", after := #[], guard := none }) w
theorem exec_build_se (r:Operand→Value) (dst:Option Tmp) (ty:TypeId) (pos:String) (after:Array Edge) (guard:Option (Nat × Bool)) (w:World):
  Sem.run Tryz.prog (execOp r { dst:=dst,op:=.build 40 #[],type:=ty,pos:=pos,after:=after,guard:=guard }) w=buildSe w:=by
 unfold buildSe execOp
 simp
theorem buildSe_eq (w:World):buildSe w=.ok (.value (.agg (sec seZ))) w:=by
 unfold buildSe
 go_simp
 rfl
noncomputable def allocSe (w : World) : Result Next := Sem.run Tryz.prog (execOp (fun _ => undef) { dst := none, op := .alloc 40, type := 0, pos := "", after := #[], guard := none }) w
theorem exec_alloc_se (r:Operand→Value) (dst:Option Tmp) (ty:TypeId) (pos:String) (after:Array Edge) (guard:Option (Nat × Bool)) (w:World):
  Sem.run Tryz.prog (execOp r { dst:=dst,op:=.alloc 40,type:=ty,pos:=pos,after:=after,guard:=guard }) w=allocSe w:=rfl
theorem allocSe_eq (w:World):allocSe w=.ok (.value (.pointer (some ⟨w.heap.size,0,none⟩))) (w.alloc (.cells (sec seZ) 40)):=by
 unfold allocSe execOp
 simp only [Sem.run_bind,Instr.alloc,run_zero_se,newVar,newRow,run_newObj_alloc,Sem.run_pure,Result.andThen_ok,Value.cells]
noncomputable def storeSe (p v:Value) (w:World):Result Next:=Sem.run Tryz.prog (execOp (fun x=>match x with
 | .tmp 0=>p
 | _ => v) { dst := none, op := .store 40 (.tmp 0) (.tmp 1), type := 0, pos := "", after := #[], guard := none }) w
theorem exec_store_se (r:Operand→Value) (x y:Operand) (dst:Option Tmp) (ty:TypeId) (pos:String) (after:Array Edge) (guard:Option (Nat × Bool)) (w:World):
  Sem.run Tryz.prog (execOp r { dst:=dst,op:=.store 40 x y,type:=ty,pos:=pos,after:=after,guard:=guard }) w=storeSe (r x) (r y) w:=rfl
def setSe (w:World) (g:Nat) (C:Array Value):World:=w.setRow g C
theorem storeSe_eq {w:World} {g:Nat} {t:TypeId} {C0 C:Array Value} (hg:w.heap[g]?=some (.cells C0 t (0,0))) (h0:C0.size=35) (hC:C.size=35) (h1:C.all (·.oneCell')=true):
  storeSe (.pointer (some ⟨g,0,none⟩)) (.agg C) w=.ok .skip (setSe w g C):=by
 have:=run_storeVar_row (P:=Tryz.prog) w g t 40 C0 C hg (by rw [size_se,hC]) (by rw [h0,hC]) h1
 unfold storeSe execOp
 simp only [Instr.storeAt,Instr.sureAddr,Sem.run_bind,Sem.run_pure,Result.andThen_ok,this]
 rfl
theorem setSe_other (w:World) {g k:Nat} (C:Array Value) (hk:k≠g):(setSe w g C).heap[k]?=w.heap[k]?:=setRow_other w g k _ hk
theorem setSe_same {w:World} {g:Nat} {t:TypeId} {C0 C:Array Value} (hg:w.heap[g]?=some (.cells C0 t (0,0))):(setSe w g C).heap[g]?=some (.cells C t (0,0)):=setRow_heap w g _ _ t _ hg
theorem setSe_below {B g:Nat} {a w:World} {C:Array Value} (hb:Below B a w) (hg:B≤g):Below B a (setSe w g C):=below_setRow hb hg _
end Go.Proofs.YtpdnnmabijmfbaaGreatDoor
namespace Go.Proofs.YtpdnnmabijmfbaaGreatDoor
set_option maxRecDepth 20000
open Go.RowKit
def putOkS (i n:Int) (s:SeM):Bool:=nodeB i && (versB n && mayS s)
def SeCheckOk:Prop:=∀ (s:SeM) (w:World),s.Ok→Calls Tryz.prog 86 #[.agg (sec s)] w fun e w'=>e=.returned (.int .i64 (if mayS s=true then 0 else 1))∧Below w.heap.size w w'
def SeLessOk:Prop:=∀ (a b:SeM) (w:World),a.Ok→b.Ok→Calls Tryz.prog 144 #[.agg (sec a),.agg (sec b)] w fun e w'=>e=.returned (.bool (lessS a b))∧Below w.heap.size w w'
def SePutOk:Prop:=∀ (i n:Int) (s:SeM) (w:World),(Lit.int .i64 i).wf=true→(Lit.int .i64 n).wf=true→s.Ok→Kst 1 w→
 Calls Tryz.prog 87 #[.int .i64 i,.int .i64 n,.agg (sec s)] w fun e w'=>∃ x,e=.returned (.tuple #[x,.int .i64 (if putOkS i n s=true then 0 else 1)])∧Byt w' x (if putOkS i n s=true then blobS i n s else [])∧Below w.heap.size w w'
def SeGetOk:Prop:=∀ (i:Int) (v:Value) (l:List UInt8) (w:World),(Lit.int .i64 i).wf=true→Byt w v l→l.length≤1000000→Kst 1 w→
 Calls Tryz.prog 68 #[.int .i64 i,v] w fun e w'=>e=.returned (.tuple #[.int .i64 (getB i l).1,.agg (sec (getB i l).2.1),.int .i64 (getB i l).2.2])∧Below w.heap.size w w'
theorem getB_ok (i:Int) (l:List UInt8):(getB i l).2.1.Ok:=by
 unfold getB
 split
 ·split
  ·exact rawB_ok l
  ·exact seZ_ok
 ·exact seZ_ok
end Go.Proofs.YtpdnnmabijmfbaaGreatDoor
namespace Go.Proofs.YtpdnnmabijmfbaaGreatDoor
set_option maxRecDepth 20000
open Go.RowKit
theorem fields_se : (Tryz.prog.fieldsOf 40).toList.map (fun f => (f.type, f.offset, f.name == "_")) =
  [(3,0,false),(3,1,false),(3,2,false),(38,3,false)]:=by kernel_rfl
set_option maxHeartbeats 1600000 in
theorem eq_se (a b:SeM) (ho:a.Ok) (hp:b.Ok) (w:World):(Op.equalIn 10000 40 (.agg (sec a)) (.agg (sec b))).run Tryz.prog w=.ok (decide (a=b)) w:=by
 have K:∀ c:SeM,c.Ok→(sec c)[0]?=some (.int .i64 c.vi)∧(sec c)[1]?=some (.int .i64 c.ph)∧(sec c)[2]?=some (.int .i64 c.pv)∧((sec c).toList.drop 3).take 32=bcells c.pa:=by
  intro c hc
  refine ⟨rfl,rfl,rfl,?_⟩
  exact drop_at (pre:=[.int .i64 c.vi,.int .i64 c.ph,.int .i64 c.pv]) (m:=bcells c.pa) (post:=[]) (by show sel c=_;rw [List.append_nil];rfl) rfl (by rw [bcells_length];exact hc)
 obtain ⟨a0,a1,a2,a3⟩:=K a ho
 obtain ⟨b0,b1,b2,b3⟩:=K b hp
 have EI:∀ x y:Int,(Op.equalIn 9999 3 (.int .i64 x) (.int .i64 y)).run Tryz.prog w=.ok (x == y) w:=fun x y=>run_equalIn_int (P:=Tryz.prog) w 9998 3 .i64 .i64 x y under_att_int
 rw [run_equalIn_struct w 9999 _ _ _ under_se (by kernel_rfl),eqF_of,fields_se]
 rw [eqF_step (part_att_int a0) (part_att_int b0) (EI _ _),eqF_step (part_att_int a1) (part_att_int b1) (EI _ _),eqF_step (part_att_int a2) (part_att_int b2) (EI _ _),eqF_step (part_att_hash a3) (part_att_hash b3) (eq_hash_at 9997 _ _ ho hp w)]
 obtain ⟨p1,p2,p3,p4⟩:=a
 obtain ⟨q1,q2,q3,q4⟩:=b
 simp only [eqF,Sem.run_pure,SeM.mk.injEq,beq_iff_eq,decide_eq_true_eq]
 (repeat' split) <;> simp_all
noncomputable def eqSe (u v:Value) (w:World):Result Next:=Sem.run Tryz.prog (execOp (fun x=>match x with
 | .tmp 0=>u
 | _ => v) { dst := none, op := .binOp .eql 40 (.tmp 0) (.tmp 1) 40, type := 0, pos := "", after := #[], guard := none }) w
theorem exec_eq_se (r:Operand→Value) (i j:Tmp) (dst:Option Tmp) (ty:TypeId) (pos:String) (after:Array Edge) (guard:Option (Nat × Bool)) (w:World):
  Sem.run Tryz.prog (execOp r { dst:=dst,op:=.binOp .eql 40 (.tmp i) (.tmp j) 40,type:=ty,pos:=pos,after:=after,guard:=guard }) w=eqSe (r (.tmp i)) (r (.tmp j)) w:=rfl
theorem eqSe_eq (a b:SeM) (ho:a.Ok) (hp:b.Ok) (w:World):eqSe (.agg (sec a)) (.agg (sec b)) w=.ok (.value (.bool (decide (a=b)))) w:=by
 have heq:=fun W=>eq_se a b ho hp W
 obtain ⟨q,HQ⟩:∃ q:Bool,Hid (decide (a=b)=q):=⟨_,hid rfl⟩
 obtain ⟨C,HC⟩:∃ C:Array Value,Hid (sec a=C):=⟨_,hid rfl⟩
 obtain ⟨D,HD⟩:∃ C:Array Value,Hid (sec b=C):=⟨_,hid rfl⟩
 rw [HQ.out,HC.out,HD.out] at heq
 rw [HQ.out,HC.out,HD.out]
 unfold eqSe
 go_simp
end Go.Proofs.YtpdnnmabijmfbaaGreatDoor
namespace Go.Proofs.YtpdnnmabijmfbaaGreatDoor
set_option maxRecDepth 20000
open Go.ChangeShapes Go.WideShapes Go.ChangeAt Go.RowKit Go.Deep
def se2c (a b:SeM):Array Value:=(sel a ++ sel b).toArray
section
variable {H:Type} {enc:TypeId × Value→H} {w:World} {base:Nat} {spare:Nat→Bool} {held:Bool} {fuel:Nat} {cs:List Value} {x:DataW H × List MemPlace}
theorem fields_se4:∃ f0 f1 f2 f3:Field,Tryz.prog.underlying 40=some (.struct #[f0,f1,f2,f3])∧(f0.type,f0.offset)=(3,0)∧(f1.type,f1.offset)=(3,1)∧(f2.type,f2.offset)=(3,2)∧(f3.type,f3.offset)=(38,3):=
 ⟨_,_,_,_,Tryz.underlying40,rfl,rfl,rfl,rfl⟩
theorem trod_se (h:DataW.trod enc Tryz.prog w base spare held fuel 40 cs=some x):∃ a:SeM,a.Ok∧cs=sel a:=by
 obtain ⟨f0,f1,f2,f3,hu,e0,e1,e2,e3⟩:=fields_se4
 injection e0 with t0 o0
 injection e1 with t1 o1
 injection e2 with t2 o2
 injection e3 with t3 o3
 obtain ⟨xs,m,_,_,hlen,hxl,hf⟩:=DataW.trod_struct hu h
 have hc:Tryz.prog.cellsOf 40=35:=by kernel_rfl
 have hci:Tryz.prog.cellsOf 3=1:=by kernel_rfl
 have hch:Tryz.prog.cellsOf 38=32:=by kernel_rfl
 rw [hc] at hlen
 have hx:xs.length=4:=hxl
 have g0:=hf 0 f0 rfl
 have g1:=hf 1 f1 rfl
 have g2:=hf 2 f2 rfl
 have g3:=hf 3 f3 rfl
 rw [t0,o0,hci,List.getElem?_eq_getElem (by omega)] at g0
 rw [t1,o1,hci,List.getElem?_eq_getElem (by omega)] at g1
 rw [t2,o2,hci,List.getElem?_eq_getElem (by omega)] at g2
 rw [t3,o3,hch,List.getElem?_eq_getElem (by omega)] at g3
 obtain ⟨n0,c0,_,_⟩:=DataW.trod_int Tryz.underlying3 g0
 obtain ⟨n1,c1,_,_⟩:=DataW.trod_int Tryz.underlying3 g1
 obtain ⟨n2,c2,_,_⟩:=DataW.trod_int Tryz.underlying3 g2
 obtain ⟨pa,h3,c3⟩:=trod_hash g3
 refine ⟨⟨n0,n1,n2,pa⟩,h3,?_⟩
 have e:cs=cs.drop 0:=rfl
 rw [e,drop_part c0,drop_part c1,drop_part c2,drop_part c3,List.drop_eq_nil_of_le (by omega)]
 unfold sel
 simp only [List.append_nil,List.cons_append,List.nil_append]
end
end Go.Proofs.YtpdnnmabijmfbaaGreatDoor
namespace Go.Proofs.YtpdnnmabijmfbaaGreatDoor
set_option maxRecDepth 20000
structure VaM where
 i:Int
 s0:List UInt8
 s1:List UInt8
 n:Int
 left:Int
 dead:Bool
 torn:List UInt8
def newV (i n:Int):VaM:=⟨i,[],[],n,-1,false,[]⟩
structure VaM.Good (V:VaM):Prop where
 i:nodeB V.i=true
 n0:0≤V.n
 n1:V.n≤1099511627776
 left0:-1≤V.left
 left1:V.left≤9223372036854775807
 l0:V.s0.length≤1000
 l1:V.s1.length≤1000
 lt:V.torn.length≤1000
 dt:V.dead=false→V.torn=[]
theorem newV_good {i n:Int} (hi:nodeB i=true) (h0:0≤n) (h1:n≤1099511627776):(newV i n).Good:=⟨hi,h0,h1,by show (-1:Int)≤-1;decide,by show (-1:Int)≤_;decide,by show (0:Nat)≤_;decide,by show (0:Nat)≤_;decide,by show (0:Nat)≤_;decide,fun _=>rfl⟩
def slotV (V:VaM) (k:Int):List UInt8:=if k=0 then V.s0 else if k=1 then V.s1 else []
def putV (V:VaM) (k:Int) (l:List UInt8):VaM:={ V with s0:=if k=0 then l else V.s0,s1:=if k=0 then V.s1 else l }
theorem slotV_len {V:VaM} (h:V.Good) (k:Int):(slotV V k).length≤1000:=by
 unfold slotV
 split
 ·exact h.l0
 ·split
  ·exact h.l1
  ·exact Nat.zero_le _
def placeV (V:VaM):Int:=(V.n + 1) % 2
theorem placeV_two (V:VaM):placeV V=0∨placeV V=1:=by unfold placeV;omega
def stepB (V:VaM):Bool:=!decide (V.left=0)
def stepV (V:VaM):VaM:=if V.left=0 then { V with dead:=true } else if V.left < 0 then V else { V with left:=V.left - 1 }
def writeE (V:VaM):Int:=if stepB V=true then (if stepB (stepV V)=true then 0 else 6) else 6
def writeV (V:VaM) (b:List UInt8):VaM:=
 if stepB V=true then
  (if stepB (stepV V)=true then { stepV (putV (stepV V) (placeV V) b) with n:=V.n + 1 } else stepV (putV (stepV V) (placeV V) b))
 else { stepV V with torn:=b }
def keepE (V:VaM) (s:SeM):Int:=if V.dead=true then 6 else if mayS s=false then 1 else if V.n=1099511627776 then 9 else writeE V
def keepV (V:VaM) (s:SeM):VaM:=if V.dead=true then V else if mayS s=false then V else if V.n=1099511627776 then V else writeV V (blobS V.i (V.n + 1) s)
def hitB (i n:Int) (l:List UInt8):Bool:=decide ((getB i l).2.2=0) && decide ((getB i l).1=n)
def loadS (V:VaM):SeM:=if V.dead=true then seZ else if V.n=0 then seZ else if hitB V.i V.n V.s0=true then (getB V.i V.s0).2.1 else if hitB V.i V.n V.s1=true then (getB V.i V.s1).2.1 else seZ
def loadE (V:VaM):Int:=if V.dead=true then 6 else if V.n=0 then 0 else if hitB V.i V.n V.s0=true then 0 else if hitB V.i V.n V.s1=true then 0 else 8
theorem getB_ok' (i:Int) (l:List UInt8):(getB i l).2.1.Ok:=by
 unfold getB
 split
 ·split
  ·exact rawB_ok l
  ·exact seZ_ok
 ·exact seZ_ok
theorem loadS_ok (V:VaM):(loadS V).Ok:=by
 unfold loadS
 split
 ·exact seZ_ok
 ·split
  ·exact seZ_ok
  ·split
   ·exact getB_ok' _ _
   ·split
    ·exact getB_ok' _ _
    ·exact seZ_ok
def swapE (k:Int) (l:List UInt8):Int:=if k < 0∨1 < k∨1000 < l.length then 1 else 0
def swapV (V:VaM) (k:Int) (l:List UInt8):VaM:=if k < 0∨1 < k∨1000 < l.length then V else putV V k l
def armV (V:VaM) (n:Int):VaM:={ V with left:=if n < 0 then -1 else n }
def tearL (t own:List UInt8) (m:Int):List UInt8:=t.take m.toNat ++ own.drop (t.take m.toNat).length
def tearV (V:VaM) (m:Int):VaM:=if V.torn=[] then V else { putV V (placeV V) (tearL V.torn (slotV V (placeV V)) m) with torn:=[] }
def crashV (V:VaM) (m:Int):VaM:={ tearV V m with dead:=false,left:=-1 }
theorem putV_good {V:VaM} (h:V.Good) (k:Int) {l:List UInt8} (hl:l.length≤1000):(putV V k l).Good:=by
 refine ⟨h.i,h.n0,h.n1,h.left0,h.left1,?_,?_,h.lt,h.dt⟩
 ·show (if k=0 then l else V.s0).length≤1000
  split
  ·exact hl
  ·exact h.l0
 ·show (if k=0 then V.s1 else l).length≤1000
  split
  ·exact h.l1
  ·exact hl
theorem stepV_good {V:VaM} (h:V.Good):(stepV V).Good:=by
 unfold stepV
 split
 ·exact ⟨h.i,h.n0,h.n1,h.left0,h.left1,h.l0,h.l1,h.lt,fun e=>by cases e⟩
 ·split
  ·exact h
  ·have a:=h.left0
   have b:=h.left1
   exact ⟨h.i,h.n0,h.n1,by show -1≤V.left - 1;omega,by show V.left - 1≤_;omega,h.l0,h.l1,h.lt,h.dt⟩
theorem stepV_dead {V:VaM} (h:stepB V=false):(stepV V).dead=true:=by
 unfold stepB at h
 have h2:V.left=0:=by simpa using h
 unfold stepV
 rw [if_pos h2]
theorem writeV_good {V:VaM} (h:V.Good) (hn:V.n < 1099511627776) {b:List UInt8} (hb:b.length≤1000):(writeV V b).Good:=by
 unfold writeV
 have h1:=stepV_good h
 have h2:=putV_good h1 (placeV V) hb
 have h3:=stepV_good h2
 split
 ·split
  ·refine ⟨h3.i,?_,?_,h3.left0,h3.left1,h3.l0,h3.l1,h3.lt,h3.dt⟩
   ·show 0≤V.n + 1
    have:=h.n0
    omega
   ·show V.n + 1≤_
    omega
  ·exact h3
 ·rename_i h0
  have hd:=stepV_dead (V:=V) (by simpa using h0)
  exact ⟨h1.i,h1.n0,h1.n1,h1.left0,h1.left1,h1.l0,h1.l1,hb,fun e=>by rw [show (stepV V).dead=false from e] at hd;cases hd⟩
theorem blobS_len' {i n:Int} {s:SeM} (ho:s.Ok) (hn:versB n=true) (hm:mayS s=true):(blobS i n s).length≤104:=by
 have:=taggedS_len ho hn hm
 unfold blobS
 rw [List.length_append,tagS_len]
 omega
theorem keepV_good {V:VaM} {s:SeM} (h:V.Good) (ho:s.Ok):(keepV V s).Good:=by
 unfold keepV
 split
 ·exact h
 split
 ·exact h
 split
 ·exact h
 have h0:=h.n0
 have h1:=h.n1
 rename_i hm hn
 have:=blobS_len' (i:=V.i) (n:=V.n + 1) ho (by unfold versB;rw [decide_eq_true_eq];omega) (by simpa using hm)
 exact writeV_good h (by omega) (by omega)
theorem swapV_good {V:VaM} (h:V.Good) (k:Int) (l:List UInt8):(swapV V k l).Good:=by
 unfold swapV
 split
 ·exact h
 ·exact putV_good h k (by omega)
theorem armV_good {V:VaM} (h:V.Good) {n:Int} (hn:n≤9223372036854775807):(armV V n).Good:=by
 refine ⟨h.i,h.n0,h.n1,?_,?_,h.l0,h.l1,h.lt,h.dt⟩
 ·show -1≤(if n < 0 then -1 else n)
  split <;> omega
 ·show (if n < 0 then -1 else n)≤_
  split <;> omega
theorem tearL_len (t own:List UInt8) (m:Int) (h1:t.length≤1000) (h2:own.length≤1000):(tearL t own m).length≤1000:=by
 unfold tearL
 rw [List.length_append,List.length_drop,List.length_take]
 omega
theorem tearV_good {V:VaM} (h:V.Good) (m:Int):(tearV V m).Good:=by
 unfold tearV
 split
 ·exact h
 ·have h2:=putV_good h (placeV V) (tearL_len V.torn (slotV V (placeV V)) m h.lt (slotV_len h _))
  exact ⟨h2.i,h2.n0,h2.n1,h2.left0,h2.left1,h2.l0,h2.l1,Nat.zero_le _,fun _=>rfl⟩
theorem tearV_torn (V:VaM) (m:Int):(tearV V m).torn=[]:=by
 unfold tearV
 split
 ·assumption
 ·rfl
theorem crashV_good {V:VaM} (h:V.Good) (m:Int):(crashV V m).Good:=by
 have h2:=tearV_good h m
 exact ⟨h2.i,h2.n0,h2.n1,by show (-1:Int)≤-1;decide,by show (-1:Int)≤_;decide,h2.l0,h2.l1,h2.lt,fun _=>tearV_torn V m⟩
theorem stepV_slot (V:VaM) (k:Int):slotV (stepV V) k=slotV V k:=by
 unfold stepV
 split
 ·rfl
 ·split <;> rfl
theorem stepV_n (V:VaM):(stepV V).n=V.n:=by
 unfold stepV
 split
 ·rfl
 ·split <;> rfl
theorem stepV_torn (V:VaM):(stepV V).torn=V.torn:=by
 unfold stepV
 split
 ·rfl
 ·split <;> rfl
theorem load_dead {V:VaM} (hd:V.dead=true):loadE V=6∧loadS V=seZ:=by
 unfold loadE loadS
 rw [if_pos hd,if_pos hd]
 exact ⟨rfl,rfl⟩
end Go.Proofs.YtpdnnmabijmfbaaGreatDoor
