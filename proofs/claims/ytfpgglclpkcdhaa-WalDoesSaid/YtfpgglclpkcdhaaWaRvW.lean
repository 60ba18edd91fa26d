/-
  The document's wal as plain data in memory: its nine cells; a disk that is loaded from it, or stored into it. Printed with genrw.py.
-/
import Derived.Test.YtfpgglclpkcdhaaWaWords
namespace Go.Proofs.Ytfpgglclpkcdhaa
set_option maxRecDepth 20000
open Go.RowKit
def rwc (C:Array Value) (n:Nat) (br is:Bool):Array Value:=(C.toList ++ ([.int .i64 (n:Int),.bool br,.bool is]:List Value)).toArray
def rwZ:Array Value:=rwc rdZ 0 false false
theorem rwc_size {C:Array Value} (h:C.size=6) (n:Nat) (br is:Bool):(rwc C n br is).size=9:=by
 unfold rwc
 simp [h]
theorem rwc_one {C:Array Value} (h:C.all (·.oneCell')=true) (n:Nat) (br is:Bool):(rwc C n br is).all (·.oneCell')=true:=by
 refine all_oneCell_toArray (fun u hu=>?_)
 rcases List.mem_append.1 hu with hu | hu
 ·rw [Array.all_eq_true_iff_forall_mem] at h
  exact h u (by simpa using hu)
 ·simp only [List.mem_cons,List.not_mem_nil,or_false] at hu
  rcases hu with rfl | rfl | rfl <;> rfl
theorem six_lit {C:Array Value} (h:C.size=6):∃ a b c d e f,C=#[a,b,c,d,e,f]:=by
 obtain ⟨l⟩:=C
 match l,h with
 | [a,b,c,d,e,f],_=>exact ⟨a,b,c,d,e,f,rfl⟩
def putRw (C:Array Value) (o:Nat):List Value→Array Value
 | []=>C
 | v :: r=>putRw (C.setIfInBounds o v) (o + 1) r
theorem cellsRw_row {g:Nat} {t:TypeId}:∀ (vs:List Value) (o:Nat) (w:World) (C:Array Value),w.heap[g]?=some (.cells C t (0,0))→(w.setCells g o vs).heap[g]?=some (.cells (putRw C o vs) t (0,0))
 | [],_,_,_,h=>h
 | v :: r,o,w,C,h=>cellsRw_row r (o + 1) (w.setCell ⟨g,o,none⟩ v) (C.setIfInBounds o v) (heapA_set w h o v)
theorem putRw_mid:∀ (vs pre old post:List Value),old.length=vs.length→putRw (pre ++ (old ++ post)).toArray pre.length vs=(pre ++ (vs ++ post)).toArray
 | [],pre,old,post,h=>by
  obtain rfl:old=[]:=List.eq_nil_of_length_eq_zero h
  rfl
 | v :: r,pre,o :: old,post,h=>by
  have e:(pre ++ (o :: old ++ post)).toArray.setIfInBounds pre.length v=((pre ++ [v]) ++ (old ++ post)).toArray:=by
   simp
  have e2:pre.length + 1=(pre ++ [v]).length:=by simp
  unfold putRw
  rw [e,e2,putRw_mid r (pre ++ [v]) old post (by simpa using h)]
  simp
 | _ :: _,_,[],_,h=>by cases h
theorem cellsRw_size (g:Nat):∀ (vs:List Value) (o:Nat) (w:World),(w.setCells g o vs).heap.size=w.heap.size
 | [],_,_=>rfl
 | _ :: r,o,_=>(cellsRw_size g r (o + 1) _).trans (by simp [World.setCell])
theorem cellsRw_grown (g:Nat):∀ (vs:List Value) (o:Nat) (w:World),w.grownBy (w.setCells g o vs) (some g)
 | [],_,w=>World.grownBy.refl w _
 | v :: r,o,w=>(show w.grownBy (w.setCell ⟨g,o,none⟩ v) (some g) from ⟨rfl,rfl,rfl,by simp [World.setCell],fun k _ hk=>Below.heap_setCell _ _ _ _ (fun e=>hk (by rw [e]))⟩).trans (cellsRw_grown g r (o + 1) _)
theorem zero_rw:(Try.prog.info? 37).bind (·.zero)=some (.agg rwZ):=by kernel_rfl
theorem run_zero_rw (w:World):(zeroValue 37).run Try.prog w=.ok (.agg rwZ) w:=by
 have h:=zero_rw
 cases hq:Try.prog.info? 37 with
 | none=>rw [hq] at h;cases h
 | some i=>
  rw [hq] at h
  have hz:i.zero=some (.agg rwZ):=h
  simp [zeroValue,typeInfo,hq,hz]
theorem sized_rw:(Try.prog.info? 37).map (·.size)=some 9:=by kernel_rfl
noncomputable def allocRw (w : World) : Result Next := Sem.run Try.prog (execOp (fun _ => undef) { dst := none, op := .alloc 37, type := 0, pos := "", after := #[], guard := none }) w
theorem exec_alloc_rw (r:Operand→Value) (dst:Option Tmp) (ty:TypeId) (pos:String) (after:Array Edge) (guard:Option (Nat × Bool)) (w:World):
  Sem.run Try.prog (execOp r { dst:=dst,op:=.alloc 37,type:=ty,pos:=pos,after:=after,guard:=guard }) w=allocRw w:=rfl
theorem allocRw_eq (w:World):allocRw w=.ok (.value (.pointer (some ⟨w.heap.size,0,none⟩))) (w.alloc (.cells rwZ 37)):=by
 unfold allocRw execOp
 simp only [Sem.run_bind,Instr.alloc,run_zero_rw,newVar,newRow,run_newObj_alloc,Sem.run_pure,Result.andThen_ok,Value.cells]
noncomputable def storeRw (p v:Value) (w:World):Result Next:=Sem.run Try.prog (execOp (fun x=>match x with
 | .tmp 0=>p
 | _ => v) { dst := none, op := .store 37 (.tmp 0) (.tmp 1), type := 0, pos := "", after := #[], guard := none }) w
theorem exec_store_rw (r:Operand→Value) (x y:Operand) (dst:Option Tmp) (ty:TypeId) (pos:String) (after:Array Edge) (guard:Option (Nat × Bool)) (w:World):
  Sem.run Try.prog (execOp r { dst:=dst,op:=.store 37 x y,type:=ty,pos:=pos,after:=after,guard:=guard }) w=storeRw (r x) (r y) w:=rfl
theorem storeRw_eq {w:World} {g:Nat} {t:TypeId} {C0 C:Array Value} (hg:w.heap[g]?=some (.cells C0 t (0,0))) (h0:C0.size=9) (hC:C.size=9) (h1:C.all (·.oneCell')=true):
  storeRw (.pointer (some ⟨g,0,none⟩)) (.agg C) w=.ok .skip (setSe w g C):=by
 have:=run_storeVar_row (P:=Try.prog) w g t 37 C0 C hg (by rw [sized_rw,hC]) (by rw [h0,hC]) h1
 unfold storeRw execOp
 simp only [Instr.storeAt,Instr.sureAddr,Sem.run_bind,Sem.run_pure,Result.andThen_ok,this]
 rfl
theorem rw_var (w:World) {Z S:Array Value} (hZ:Z.size=9) (hS:S.size=9) (h1:S.all (·.oneCell')=true):
  storeRw (.pointer (some ⟨w.heap.size,0,none⟩)) (.agg S) (w.alloc (.cells Z 37))=.ok .skip (w.alloc (.cells S 37)):=by
 rw [storeRw_eq (heap_alloc_new w _) hZ hS h1,setSe_alloc]
noncomputable def loadRw (v : Value) (w : World) : Result Next := Sem.run Try.prog (execOp (fun _ => v) { dst := none, op := .load 37 (.tmp 0), type := 0, pos := "", after := #[], guard := none }) w
theorem exec_load_rw (r:Operand→Value) (x:Operand) (dst:Option Tmp) (ty:TypeId) (pos:String) (after:Array Edge) (guard:Option (Nat × Bool)) (w:World):
  Sem.run Try.prog (execOp r { dst:=dst,op:=.load 37 x,type:=ty,pos:=pos,after:=after,guard:=guard }) w=loadRw (r x) w:=rfl
theorem under_rw:Try.prog.underlying 37=some (.struct (Try.prog.fieldsOf 37)):=by kernel_rfl
theorem loadRw_row {w:World} {g:Nat} {C:Array Value} {T:TypeId} (h:w.heap[g]?=some (.cells C T (0,0))) (hs:C.size=9):loadRw (.pointer (some ⟨g,0,none⟩)) w=.ok (.value (.agg C)) w:=by
 have:=run_loadAt_mid (P:=Try.prog) w g 0 37 C.toList _ (fun j v hj=>by rw [Nat.zero_add,coBlk_cell h j];simpa using hj) under_rw rfl (by rw [sized_rw];simp [hs])
 simp only [Array.toArray_toList] at this
 unfold loadRw execOp
 simp only [Sem.run_bind,this,Result.andThen_ok,Sem.run_pure]
theorem loadRd_rw {w:World} {g:Nat} {C:Array Value} {n:Nat} {br is:Bool} {T:TypeId} (h:w.heap[g]?=some (.cells (rwc C n br is) T (0,0))) (hs:C.size=6):loadRd (.pointer (some ⟨g,0,none⟩)) w=.ok (.value (.agg C)) w:=by
 have:=run_loadAt_mid (P:=Try.prog) w g 0 35 C.toList _ (fun j v hj=>by
  rw [Nat.zero_add,coBlk_cell h j]
  unfold rwc
  rw [List.getElem?_toArray,List.getElem?_append_left (List.getElem?_eq_some_iff.1 hj).1]
  exact hj) under_rd rfl (by rw [size_rd];simp [hs])
 simp only [Array.toArray_toList] at this
 unfold loadRd execOp
 simp only [Sem.run_bind,this,Result.andThen_ok,Sem.run_pure]
theorem rw_cells {w:World} {g:Nat} {C:Array Value} {n:Nat} {br is:Bool} {T:TypeId} (h:w.heap[g]?=some (.cells (rwc C n br is) T (0,0))) (hs:C.size=6):w.cell? ⟨g,6,none⟩=some (.int .i64 (n:Int))∧w.cell? ⟨g,7,none⟩=some (.bool br)∧w.cell? ⟨g,8,none⟩=some (.bool is):=by
 obtain ⟨a,b,c,d,e,f,rfl⟩:=six_lit hs
 simp only [coBlk_cell h]
 exact ⟨rfl,rfl,rfl⟩
def setRw (w:World) (g:Nat) (S:Array Value):World:=w.setCells g 0 S.toList
theorem setRw_row {w:World} {g:Nat} {t:TypeId} {C S:Array Value} {n:Nat} {br is:Bool} (h:w.heap[g]?=some (.cells (rwc C n br is) t (0,0))) (hC:C.size=6) (hS:S.size=6):(setRw w g S).heap[g]?=some (.cells (rwc S n br is) t (0,0)):=by
 have:=cellsRw_row S.toList 0 w _ h
 have e:putRw (rwc C n br is) 0 S.toList=rwc S n br is:=by
  have:=putRw_mid S.toList [] C.toList [.int .i64 (n:Int),.bool br,.bool is] (by simp [hC,hS])
  simpa [rwc] using this
 rw [e] at this
 exact this
theorem setRw_grown (w:World) (g:Nat) (S:Array Value):w.grownBy (setRw w g S) (some g):=cellsRw_grown g _ _ _
theorem setRw_size (w:World) (g:Nat) (S:Array Value):(setRw w g S).heap.size=w.heap.size:=cellsRw_size g _ _ _
theorem setRw_other (w:World) {g k:Nat} (S:Array Value) (hk:k≠g):(setRw w g S).heap[k]?=w.heap[k]?:=by
 by_cases h:k < w.heap.size
 ·exact (setRw_grown w g S).block k h (fun e=>hk (by injection e))
 ·rw [Array.getElem?_eq_none (by rw [setRw_size];omega),Array.getElem?_eq_none (by omega)]
theorem setRw_below {B g:Nat} {a w:World} {S:Array Value} (hb:Below B a w) (hg:B≤g) (hB:B≤w.heap.size):Below B a (setRw w g S):=hb.grown (setRw_grown w g S) hB (fun k e=>by injection e with e;omega)
theorem there_rw {w:World} {g:Nat} {C:Array Value} {t:TypeId} (h:w.heap[g]?=some (.cells C t (0,0))) {n:Nat} (hn:n≤C.size):w.there g 0 n:=fun j hj=>by
 refine ⟨?_,coBlk_free h _⟩
 rw [coBlk_cell h,Array.getElem?_eq_getElem (by omega)]
 rfl
theorem storeRd_rw {w:World} {g:Nat} {t:TypeId} {C S:Array Value} {n:Nat} {br is:Bool} (hg:w.heap[g]?=some (.cells (rwc C n br is) t (0,0))) (hC:C.size=6) (hS:S.size=6) (h1:S.all (·.oneCell')=true):
  storeRd (.pointer (some ⟨g,0,none⟩)) (.agg S) w=.ok .skip (setRw w g S):=by
 have:=run_storeAt_mid (P:=Try.prog) w g 0 35 S (there_rw hg (by rw [rwc_size hC,hS];omega)) (by rw [size_rd,hS]) h1
 unfold storeRd execOp
 simp only [Sem.run_bind,Sem.run_pure,Result.andThen_ok,this]
 rfl
theorem rw_many {w:World} {g:Nat} {t:TypeId} {C:Array Value} {n:Nat} {br is:Bool} (h:w.heap[g]?=some (.cells (rwc C n br is) t (0,0))) (hs:C.size=6) (m:Nat):(w.setCell ⟨g,6,none⟩ (.int .i64 (m:Int))).heap[g]?=some (.cells (rwc C m br is) t (0,0)):=by
 obtain ⟨a,b,c,d,e,f,rfl⟩:=six_lit hs
 rw [heapA_set w h]
 rfl
theorem rw_brk {w:World} {g:Nat} {t:TypeId} {C:Array Value} {n:Nat} {br is:Bool} (h:w.heap[g]?=some (.cells (rwc C n br is) t (0,0))) (hs:C.size=6) (x:Bool):(w.setCell ⟨g,7,none⟩ (.bool x)).heap[g]?=some (.cells (rwc C n x is) t (0,0)):=by
 obtain ⟨a,b,c,d,e,f,rfl⟩:=six_lit hs
 rw [heapA_set w h]
 rfl
noncomputable def buildRwA (v : Value) (w : World) : Result Next := Sem.run Try.prog (execOp (fun _ => v) { dst := none, op := .build 37 #[(0, .tmp 0)], type := 0, pos := "", after := #[], guard := none }) w
theorem exec_build_rwA (r:Operand→Value) (x:Operand) (dst:Option Tmp) (ty:TypeId) (pos:String) (after:Array Edge) (guard:Option (Nat × Bool)) (w:World):
  Sem.run Try.prog (execOp r { dst:=dst,op:=.build 37 #[(0,x)],type:=ty,pos:=pos,after:=after,guard:=guard }) w=buildRwA (r x) w:=by
 unfold buildRwA execOp
 simp
theorem buildRwA_eq {C:Array Value} (hs:C.size=6) (w:World):buildRwA (.agg C) w=.ok (.value (.agg (rwc C 0 false false))) w:=by
 obtain ⟨a,b,c,d,e,f,rfl⟩:=six_lit hs
 unfold buildRwA
 go_simp
 rfl
noncomputable def buildRwB (v n b:Value) (w:World):Result Next:=Sem.run Try.prog (execOp (fun k=>match k with
 | .tmp 0=>v
 | .tmp 1=>n
 | _ => b) { dst := none, op := .build 37 #[(0, .tmp 0), (1, .tmp 1), (3, .tmp 2)], type := 0, pos := "", after := #[], guard := none }) w
theorem exec_build_rwB (r:Operand→Value) (x y z:Operand) (dst:Option Tmp) (ty:TypeId) (pos:String) (after:Array Edge) (guard:Option (Nat × Bool)) (w:World):
  Sem.run Try.prog (execOp r { dst:=dst,op:=.build 37 #[(0,x),(1,y),(3,z)],type:=ty,pos:=pos,after:=after,guard:=guard }) w=buildRwB (r x) (r y) (r z) w:=by
 unfold buildRwB execOp
 simp
theorem buildRwB_eq {C:Array Value} (hs:C.size=6) (n:Nat) (b:Bool) (w:World):buildRwB (.agg C) (.int .i64 (n:Int)) (.bool b) w=.ok (.value (.agg (rwc C n false b))) w:=by
 obtain ⟨a0,b0,c,d,e,f,rfl⟩:=six_lit hs
 unfold buildRwB
 go_simp
 rfl
theorem results_rw3 {fn:Func} {q s r:Tmp} (h:fn.results=#[.cell q 37,.tmp s,.tmp r]) (tmps:Array Value) (w:World) (g2:Nat) (t2:TypeId) (ys:Array Value) (v u:Value)
  (hq:tmps.getD q undef=.pointer (some ⟨g2,0,none⟩)) (hv:tmps.getD s undef=v) (hu:tmps.getD r undef=u) (h2:w.heap[g2]?=some (.cells ys t2 (0,0))) (hy:ys.size=9):
  (results fn tmps).run Try.prog w=.ok (.tuple #[.agg ys,v,u]) w:=by
 have hq':tmps[q]?.getD undef=.pointer (some ⟨g2,0,none⟩):=by simpa using hq
 have hv':tmps[s]?.getD undef=v:=by simpa using hv
 have hu':tmps[r]?.getD undef=u:=by simpa using hu
 have r2:=run_loadVar_row (P:=Try.prog) w g2 t2 37 ys (0,0) _ h2 under_rw rfl (by rw [sized_rw,hy])
 simp [results,h,hq',hv',hu',asAddr,r2]
theorem results_rw2 {fn:Func} {q s:Tmp} (h:fn.results=#[.cell q 37,.tmp s]) (tmps:Array Value) (w:World) (g2:Nat) (t2:TypeId) (ys:Array Value) (v:Value)
  (hq:tmps.getD q undef=.pointer (some ⟨g2,0,none⟩)) (hv:tmps.getD s undef=v) (h2:w.heap[g2]?=some (.cells ys t2 (0,0))) (hy:ys.size=9):
  (results fn tmps).run Try.prog w=.ok (.tuple #[.agg ys,v]) w:=by
 have hq':tmps[q]?.getD undef=.pointer (some ⟨g2,0,none⟩):=by simpa using hq
 have hv':tmps[s]?.getD undef=v:=by simpa using hv
 have r2:=run_loadVar_row (P:=Try.prog) w g2 t2 37 ys (0,0) _ h2 under_rw rfl (by rw [sized_rw,hy])
 simp [results,h,hq',hv',asAddr,r2]
def RwC (w:World) (X:Array Value) (V:WaM) (a:Option Nat):Prop:=∃ C,X=rwc C V.many V.broken V.is_∧RfC w C V.d a
section
variable {w w':World} {X:Array Value} {V:WaM} {a:Option Nat}
theorem RwC.size (h:RwC w X V a):X.size=9:=by
 obtain ⟨C,rfl,hC⟩:=h
 exact rwc_size hC.size _ _ _
theorem RwC.one (h:RwC w X V a):X.all (·.oneCell')=true:=by
 obtain ⟨C,rfl,hC⟩:=h
 exact rwc_one hC.one _ _ _
theorem RwC.below (h:RwC w X V a) (hb:Below w.heap.size w w'):RwC w' X V a:=by
 obtain ⟨C,rfl,hC⟩:=h
 exact ⟨C,rfl,hC.below hb⟩
theorem RwC.away (h:RwC w X V a) (hs:w.heap.size≤w'.heap.size) (hk:∀ (k:Nat) (C:Array Value),w.heap[k]?=some (Obj.cells C 5 (0,0))→w'.heap[k]?=w.heap[k]?):RwC w' X V a:=by
 obtain ⟨C,rfl,hC⟩:=h
 exact ⟨C,rfl,hC.away hs hk⟩
theorem RwC.turn {b c B:Nat} {E:DkM} {n:Int} {br:Bool} {va vt:Value} {a':Option Nat} (h:RwC w X V va.ownBlock) (hE:DkE w b B E va vt) (hw:WlE w c b n br) (ht:TnW b c va.ownBlock w w') (hn:Nw w va.ownBlock a'):RwC w' X V a':=by
 obtain ⟨C,rfl,v0,v1,v2,rfl,h0,h1,h2⟩:=h
 have key:∀ {v:Value} {l:List UInt8},Byo w va.ownBlock v l→Byo w' a' v l:=fun {v l} hv=>by
  refine ⟨?_,hv.f.nw hv.y hn⟩
  by_cases hl:l=[]
  ·subst hl
   exact Bys.none hv.y _
  ·have hk:∀ (k:Nat) (C:Array Value),w.heap[k]?=some (Obj.cells C 5 (0,0))→v.ownBlock=some k→w'.heap[k]?=w.heap[k]?:=fun k C hC e=>ht.block k (lt_of_block hC) (blk_ne hC hE.p (by decide)) (blk_ne hC hw (by decide)) (fun e2=>by
    rcases hv.f with h | h
    ·exact hl h
    ·exact h (e.trans e2))
   refine ⟨hv.y.byt.keep ht.size (fun k _ e=>?_),fun h3 k e=>?_⟩
   ·obtain ⟨C,hC⟩:=hv.y.ty hl k e
    exact hk k C hC e
   ·obtain ⟨C,hC⟩:=hv.y.ty hl k e
    exact ⟨C,(hk k C hC e).trans hC⟩
 exact ⟨_,rfl,v0,v1,v2,rfl,key h0,key h1,key h2⟩
end
end Go.Proofs.Ytfpgglclpkcdhaa
