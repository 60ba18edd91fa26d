/-
  The document's disk as plain data in memory: its six cells, loads and stores of a whole one.
-/
import Derived.Test.YtfpgglclpkcdhaaDkWords
namespace Go.Proofs.Ytfpgglclpkcdhaa
set_option maxRecDepth 20000
open Go.RowKit
structure Byo (w:World) (a:Option Nat) (v:Value) (l:List UInt8):Prop where
 y:Bys w v l
 f:Off a v l
theorem Byo.below {w w':World} {a:Option Nat} {v:Value} {l:List UInt8} (h:Byo w a v l) (hb:Below w.heap.size w w'):Byo w' a v l:=⟨h.y.below hb,h.f⟩
theorem Byo.nil (w:World) (a:Option Nat):Byo w a (.slice none 0 0) []:=⟨Bys.nil w,.inl rfl⟩
theorem Byo.turn {w w':World} {b B:Nat} {D:DkM} {va vt v:Value} {l:List UInt8} {a':Option Nat} (h:DkE w b B D va vt) (hv:Byo w va.ownBlock v l) (ht:TnD b va.ownBlock w w') (hn:Nw w va.ownBlock a'):Byo w' a' v l:=
 ⟨h.bys hv.y hv.f ht,hv.f.nw hv.y hn⟩
theorem Byo.away {w w':World} {a:Option Nat} {v:Value} {l:List UInt8} (h:Byo w a v l) (hs:w.heap.size≤w'.heap.size) (hk:∀ (k:Nat) (C:Array Value),w.heap[k]?=some (Obj.cells C 5 (0,0))→w'.heap[k]?=w.heap[k]?):Byo w' a v l:=⟨h.y.away hs hk,h.f⟩
theorem Own.byo {w:World} {B:Nat} {v:Value} {l:List UInt8} {a:Option Nat} (h:Own B w v l) (ha:∀ k,a=some k→k < B):Byo w a v l:=⟨h.bys,h.off ha⟩
def rdc (D:DkM) (v0 v1 v2:Value):Array Value:=#[v0,v1,v2,.int .i64 D.room,.int .i64 D.left,.bool D.dead]
def RfC (w:World) (C:Array Value) (D:DkM) (a:Option Nat):Prop:=∃ v0 v1 v2,C=rdc D v0 v1 v2∧Byo w a v0 D.s∧Byo w a v1 D.m∧Byo w a v2 D.h
theorem rdc_size (D:DkM) (v0 v1 v2:Value):(rdc D v0 v1 v2).size=6:=rfl
theorem rdc_one (D:DkM) (A0 A1 A2:Option Addr) (n0 n1 n2 c0 c1 c2:Nat):(rdc D (.slice A0 n0 c0) (.slice A1 n1 c1) (.slice A2 n2 c2)).all (·.oneCell')=true:=by
 unfold rdc
 refine all_oneCell_toArray (cs:=[_,_,_,_,_,_]) (fun u hu=>?_)
 simp only [List.mem_cons,List.not_mem_nil,or_false] at hu
 rcases hu with rfl | rfl | rfl | rfl | rfl | rfl <;> rfl
section
variable {w w':World} {C:Array Value} {D:DkM} {a:Option Nat}
theorem RfC.size (h:RfC w C D a):C.size=6:=by
 obtain ⟨_,_,_,rfl,_⟩:=h
 rfl
theorem RfC.one (h:RfC w C D a):C.all (·.oneCell')=true:=by
 obtain ⟨v0,v1,v2,rfl,h0,h1,h2⟩:=h
 obtain ⟨A0,c0,r0⟩:=h0.y.shape
 obtain ⟨A1,c1,r1⟩:=h1.y.shape
 obtain ⟨A2,c2,r2⟩:=h2.y.shape
 subst r0 r1 r2
 exact rdc_one ..
theorem RfC.below (h:RfC w C D a) (hb:Below w.heap.size w w'):RfC w' C D a:=by
 obtain ⟨v0,v1,v2,rfl,h0,h1,h2⟩:=h
 exact ⟨v0,v1,v2,rfl,h0.below hb,h1.below hb,h2.below hb⟩
theorem RfC.away (h:RfC w C D a) (hs:w.heap.size≤w'.heap.size) (hk:∀ (k:Nat) (C:Array Value),w.heap[k]?=some (Obj.cells C 5 (0,0))→w'.heap[k]?=w.heap[k]?):RfC w' C D a:=by
 obtain ⟨v0,v1,v2,rfl,h0,h1,h2⟩:=h
 exact ⟨v0,v1,v2,rfl,h0.away hs hk,h1.away hs hk,h2.away hs hk⟩
theorem RfC.turn {b B:Nat} {E:DkM} {va vt:Value} {a':Option Nat} (h:RfC w C D va.ownBlock) (hE:DkE w b B E va vt) (ht:TnD b va.ownBlock w w') (hn:Nw w va.ownBlock a'):RfC w' C D a':=by
 obtain ⟨v0,v1,v2,rfl,h0,h1,h2⟩:=h
 exact ⟨v0,v1,v2,rfl,.turn hE h0 ht hn,.turn hE h1 ht hn,.turn hE h2 ht hn⟩
end
theorem under_rd:Try.prog.underlying 35=some (.struct (Try.prog.fieldsOf 35)):=by kernel_rfl
theorem size_rd:(Try.prog.info? 35).map (·.size)=some 6:=by kernel_rfl
noncomputable def loadRd (v : Value) (w : World) : Result Next := Sem.run Try.prog (execOp (fun _ => v) { dst := none, op := .load 35 (.tmp 0), type := 0, pos := "", after := #[], guard := none }) w
theorem exec_load_rd (r:Operand→Value) (x:Operand) (dst:Option Tmp) (ty:TypeId) (pos:String) (after:Array Edge) (guard:Option (Nat × Bool)) (w:World):
  Sem.run Try.prog (execOp r { dst:=dst,op:=.load 35 x,type:=ty,pos:=pos,after:=after,guard:=guard }) w=loadRd (r x) w:=rfl
theorem loadRd_row {w:World} {g:Nat} {C:Array Value} {T:TypeId} (h:w.heap[g]?=some (.cells C T (0,0))) (hs:C.size=6):loadRd (.pointer (some ⟨g,0,none⟩)) w=.ok (.value (.agg C)) w:=by
 have:=run_loadAt_mid (P:=Try.prog) w g 0 35 C.toList _ (fun j v hj=>by rw [Nat.zero_add,coBlk_cell h j];simpa using hj) under_rd rfl (by rw [size_rd];simp [hs])
 simp only [Array.toArray_toList] at this
 unfold loadRd execOp
 simp only [Sem.run_bind,this,Result.andThen_ok,Sem.run_pure]
def rdZ:Array Value:=rdc ⟨[],[],[],0,0,false⟩ (.slice none 0 0) (.slice none 0 0) (.slice none 0 0)
theorem zero_rd:(Try.prog.info? 35).bind (·.zero)=some (.agg rdZ):=by kernel_rfl
theorem run_zero_rd (w:World):(zeroValue 35).run Try.prog w=.ok (.agg rdZ) w:=by
 have h:=zero_rd
 cases hq:Try.prog.info? 35 with
 | none=>rw [hq] at h;cases h
 | some i=>
  rw [hq] at h
  have hz:i.zero=some (.agg rdZ):=h
  simp [zeroValue,typeInfo,hq,hz]
noncomputable def allocRd (w : World) : Result Next := Sem.run Try.prog (execOp (fun _ => undef) { dst := none, op := .alloc 35, type := 0, pos := "", after := #[], guard := none }) w
theorem exec_alloc_rd (r:Operand→Value) (dst:Option Tmp) (ty:TypeId) (pos:String) (after:Array Edge) (guard:Option (Nat × Bool)) (w:World):
  Sem.run Try.prog (execOp r { dst:=dst,op:=.alloc 35,type:=ty,pos:=pos,after:=after,guard:=guard }) w=allocRd w:=rfl
theorem allocRd_eq (w:World):allocRd w=.ok (.value (.pointer (some ⟨w.heap.size,0,none⟩))) (w.alloc (.cells rdZ 35)):=by
 unfold allocRd execOp
 simp only [Sem.run_bind,Instr.alloc,run_zero_rd,newVar,newRow,run_newObj_alloc,Sem.run_pure,Result.andThen_ok,Value.cells]
noncomputable def storeRd (p v:Value) (w:World):Result Next:=Sem.run Try.prog (execOp (fun x=>match x with
 | .tmp 0=>p
 | _ => v) { dst := none, op := .store 35 (.tmp 0) (.tmp 1), type := 0, pos := "", after := #[], guard := none }) w
theorem exec_store_rd (r:Operand→Value) (x y:Operand) (dst:Option Tmp) (ty:TypeId) (pos:String) (after:Array Edge) (guard:Option (Nat × Bool)) (w:World):
  Sem.run Try.prog (execOp r { dst:=dst,op:=.store 35 x y,type:=ty,pos:=pos,after:=after,guard:=guard }) w=storeRd (r x) (r y) w:=rfl
theorem storeRd_eq {w:World} {g:Nat} {t:TypeId} {C0 C:Array Value} (hg:w.heap[g]?=some (.cells C0 t (0,0))) (h0:C0.size=6) (hC:C.size=6) (h1:C.all (·.oneCell')=true):
  storeRd (.pointer (some ⟨g,0,none⟩)) (.agg C) w=.ok .skip (setSe w g C):=by
 have:=run_storeVar_row (P:=Try.prog) w g t 35 C0 C hg (by rw [size_rd,hC]) (by rw [h0,hC]) h1
 unfold storeRd execOp
 simp only [Instr.storeAt,Instr.sureAddr,Sem.run_bind,Sem.run_pure,Result.andThen_ok,this]
 rfl
theorem rd_var (w:World) {Z S:Array Value} (hZ:Z.size=6) (hS:S.size=6) (h1:S.all (·.oneCell')=true):
  storeRd (.pointer (some ⟨w.heap.size,0,none⟩)) (.agg S) (w.alloc (.cells Z 35))=.ok .skip (w.alloc (.cells S 35)):=by
 rw [storeRd_eq (heap_alloc_new w _) hZ hS h1,setSe_alloc]
theorem results_rd1 {fn:Func} {q:Tmp} (h:fn.results=#[.cell q 35]) (tmps:Array Value) (w:World) (g2:Nat) (t2:TypeId) (ys:Array Value)
  (hq:tmps.getD q undef=.pointer (some ⟨g2,0,none⟩)) (h2:w.heap[g2]?=some (.cells ys t2 (0,0))) (hy:ys.size=6):
  (results fn tmps).run Try.prog w=.ok (.agg ys) w:=by
 have hq':tmps[q]?.getD undef=.pointer (some ⟨g2,0,none⟩):=by simpa using hq
 have r2:=run_loadVar_row (P:=Try.prog) w g2 t2 35 ys (0,0) _ h2 under_rd rfl (by rw [size_rd,hy])
 simp [results,h,hq',asAddr,r2]
theorem results_rd2 {fn:Func} {q s:Tmp} (h:fn.results=#[.cell q 35,.tmp s]) (tmps:Array Value) (w:World) (g2:Nat) (t2:TypeId) (ys:Array Value) (v:Value)
  (hq:tmps.getD q undef=.pointer (some ⟨g2,0,none⟩)) (hv:tmps.getD s undef=v) (h2:w.heap[g2]?=some (.cells ys t2 (0,0))) (hy:ys.size=6):
  (results fn tmps).run Try.prog w=.ok (.tuple #[.agg ys,v]) w:=by
 have hq':tmps[q]?.getD undef=.pointer (some ⟨g2,0,none⟩):=by simpa using hq
 have hv':tmps[s]?.getD undef=v:=by simpa using hv
 have r2:=run_loadVar_row (P:=Try.prog) w g2 t2 35 ys (0,0) _ h2 under_rd rfl (by rw [size_rd,hy])
 simp [results,h,hq',hv',asAddr,r2]
def BoxRd (w:World) (g:Nat) (D:DkM) (v0 v1 v2:Value):Prop:=w.heap[g]?=some (.cells (rdc D v0 v1 v2) 35 (0,0))
section
variable {w w':World} {g:Nat} {D:DkM} {v0 v1 v2:Value}
theorem BoxRd.set (h:BoxRd w g D v0 v1 v2) {i:Nat} {u:Value} {D':DkM} {u0 u1 u2:Value} (hc:(rdc D v0 v1 v2).setIfInBounds i u=rdc D' u0 u1 u2):BoxRd (w.setCell ⟨g,i,none⟩ u) g D' u0 u1 u2:=by
 unfold BoxRd
 rw [heapA_set w h,hc]
theorem BoxRd.cells (h:BoxRd w g D v0 v1 v2):w.cell? ⟨g,0,none⟩=some v0∧w.cell? ⟨g,1,none⟩=some v1∧w.cell? ⟨g,2,none⟩=some v2∧w.cell? ⟨g,3,none⟩=some (.int .i64 D.room)∧w.cell? ⟨g,4,none⟩=some (.int .i64 D.left)∧w.cell? ⟨g,5,none⟩=some (.bool D.dead):=by
 simp only [coBlk_cell h]
 exact ⟨rfl,rfl,rfl,rfl,rfl,rfl⟩
theorem BoxRd.free (h:BoxRd w g D v0 v1 v2) (i:Nat):w.frozen? ⟨g,i,none⟩=false:=coBlk_free h i
theorem BoxRd.ld (h:BoxRd w g D v0 v1 v2):loadRd (.pointer (some ⟨g,0,none⟩)) w=.ok (.value (.agg (rdc D v0 v1 v2))) w:=loadRd_row h rfl
theorem BoxRd.below (h:BoxRd w g D v0 v1 v2) (hb:Below w.heap.size w w'):BoxRd w' g D v0 v1 v2:=(hb.block g (lt_of_block h)).trans h
end
theorem rd_end {w0 w:World} {B g:Nat} {C0 C:Array Value} {T:TypeId} (hb:Below B w0 w) (hg:w.heap[g]?=some (.cells C0 T (0,0))) (hB:B≤g) (h0:C0.size=6) (hC:C.size=6) (h1:C.all (·.oneCell')=true):
  storeRd (.pointer (some ⟨g,0,none⟩)) (.agg C) w=.ok .skip (setSe w g C)∧(setSe w g C).heap[g]?=some (.cells C T (0,0))∧Below B w0 (setSe w g C):=⟨storeRd_eq hg h0 hC h1,setSe_same hg,setSe_below hb hB⟩
structure RdS (w W:World) (C:Array Value):Prop where
 r0:W.heap[w.heap.size]?=some (.cells C 35 (0,0))
 r1:W.heap[w.heap.size + 1]?=some (.cells rdZ 35 (0,0))
 b:Below w.heap.size w W
theorem rd_begin (w:World) (C:Array Value):RdS w ((w.alloc (.cells C 35)).alloc (.cells rdZ 35)) C:=by
 have hsz:(w.alloc (.cells C 35)).heap.size=w.heap.size + 1:=by simp
 have h1:=heap_alloc_new (w.alloc (.cells C 35)) (.cells rdZ 35)
 rw [hsz] at h1
 have hb:Below w.heap.size w (w.alloc (.cells C 35)):=(Below.refl _ _).alloc (Nat.le_refl _) _
 exact ⟨by rw [heapA_old _ _ (by rw [hsz];omega)];exact heap_alloc_new w _,h1,hb.alloc hb.size _⟩
theorem allocRd_two (w:World) (C:Array Value):allocRd (w.alloc (.cells C 35))=.ok (.value (.pointer (some ⟨w.heap.size + 1,0,none⟩))) ((w.alloc (.cells C 35)).alloc (.cells rdZ 35)):=by
 rw [allocRd_eq,show (w.alloc (.cells C 35)).heap.size=w.heap.size + 1 by simp]
section
variable {w W W':World} {C:Array Value}
theorem RdS.below (h:RdS w W C) (hb:Below W.heap.size W W'):RdS w W' C:=⟨(hb.block _ (lt_of_block h.r0)).trans h.r0,(hb.block _ (lt_of_block h.r1)).trans h.r1,h.b.trans (hb.mono h.b.size)⟩
theorem RdS.set (h:RdS w W C) {g i:Nat} {u:Value} (hg:w.heap.size + 2≤g):RdS w (W.setCell ⟨g,i,none⟩ u) C:=
 ⟨(Below.heap_setCell _ _ _ _ (by show w.heap.size≠g;omega)).trans h.r0,(Below.heap_setCell _ _ _ _ (by show w.heap.size + 1≠g;omega)).trans h.r1,h.b.setCell (by show w.heap.size≤g;omega) _⟩
theorem RdS.fin (h:RdS w W C) {C':Array Value} {D:DkM} {a:Option Nat} (hC:RfC W C' D a):storeRd (.pointer (some ⟨w.heap.size + 1,0,none⟩)) (.agg C') W=.ok .skip (setSe W (w.heap.size + 1) C')∧(setSe W (w.heap.size + 1) C').heap[w.heap.size + 1]?=some (.cells C' 35 (0,0))∧RfC (setSe W (w.heap.size + 1) C') C' D a∧Below w.heap.size w (setSe W (w.heap.size + 1) C'):=by
 obtain ⟨h1,h2,h3⟩:=rd_end (C:=C') h.b h.r1 (Nat.le_succ _) rfl hC.size hC.one
 exact ⟨h1,h2,hC.away (setSe_below (C:=C') (Below.refl 0 W) (Nat.zero_le (w.heap.size + 1))).size (fun k _ hk=>setSe_other W _ (blk_ne hk h.r1 (by decide))),h3⟩
theorem RdS.ld (h:RdS w W C) (hs:C.size=6):loadRd (.pointer (some ⟨w.heap.size,0,none⟩)) W=.ok (.value (.agg C)) W:=loadRd_row h.r0 hs
theorem RdS.lt (h:RdS w W C):w.heap.size + 2≤W.heap.size:=lt_of_block h.r1
end
def RdPost (a:Option Nat) (E:Int) (D':DkM) (w:World) (e:Ending) (w':World):Prop:=∃ C',e=.returned (.tuple #[.agg C',.int .i64 E])∧RfC w' C' D' a∧Below w.heap.size w w'
end Go.Proofs.Ytfpgglclpkcdhaa
