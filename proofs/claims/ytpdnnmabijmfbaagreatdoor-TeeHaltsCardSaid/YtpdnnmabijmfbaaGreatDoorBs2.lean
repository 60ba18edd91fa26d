/-
  RefHash Row Take Puts Hide Bare: what each of them says stands at its head.
-/
import Derived.Great.BuildSlice
import Derived.Test.YtpdnnmabijmfbaaGreatDoorBs1
import Derived.ChangeOld
import Derived.OpenShut
import Derived.ProofKit
import Derived.ShutString
import Derived.ChangeArms
import Derived.Deep.Slices
import Derived.ArgAppend
namespace Go.Proofs.YtpdnnmabijmfbaaGreatDoor
set_option maxRecDepth 20000
open Go.RowKit
noncomputable def loadH (v : Value) (w : World) : Result Next := Sem.run Tryz.prog (execOp (fun _ => v) { dst := none, op := .load 38 (.tmp 0), type := 0, pos := "", after := #[], guard := none }) w
theorem exec_load_hash (r:Operand→Value) (x:Operand) (dst:Option Tmp) (ty:TypeId) (pos:String) (after:Array Edge) (guard:Option (Nat × Bool)) (w:World):
  Sem.run Tryz.prog (execOp r { dst:=dst,op:=.load 38 x,type:=ty,pos:=pos,after:=after,guard:=guard }) w=loadH (r x) w:=rfl
noncomputable def storeH (p v:Value) (w:World):Result Next:=Sem.run Tryz.prog (execOp (fun x=>match x with
 | .tmp 0=>p
 | _ => v) { dst := none, op := .store 38 (.tmp 0) (.tmp 1), type := 0, pos := "", after := #[], guard := none }) w
theorem exec_store_hash (r:Operand→Value) (x y:Operand) (dst:Option Tmp) (ty:TypeId) (pos:String) (after:Array Edge) (guard:Option (Nat × Bool)) (w:World):
  Sem.run Tryz.prog (execOp r { dst:=dst,op:=.store 38 x y,type:=ty,pos:=pos,after:=after,guard:=guard }) w=storeH (r x) (r y) w:=rfl
def setH (w:World) (g:Nat) (h:List UInt8):World:=w.setRow g (hcells h)
theorem loadH_eq {w:World} {g:Nat} {t:TypeId} {h:List UInt8} (hg:w.heap[g]?=some (.cells (hcells h) t (0,0))) (hl:h.length=32):loadH (.pointer (some ⟨g,0,none⟩)) w=.ok (.value (.agg (hcells h))) w:=by
 have:=run_loadVar_row (P:=Tryz.prog) w g t 38 (hcells h) (0,0) _ hg under_hash rfl (by rw [size_hash,hcells_size,hl])
 unfold loadH execOp
 simp only [Instr.loadAt,Instr.sureAddr,Sem.run_bind,Sem.run_pure,Result.andThen_ok,this]
theorem storeH_eq {w:World} {g:Nat} {t:TypeId} {h h':List UInt8} (hg:w.heap[g]?=some (.cells (hcells h) t (0,0))) (hl:h.length=32) (hl':h'.length=32):
  storeH (.pointer (some ⟨g,0,none⟩)) (.agg (hcells h')) w=.ok .skip (setH w g h'):=by
 have:=run_storeVar_row (P:=Tryz.prog) w g t 38 (hcells h) (hcells h') hg (by rw [size_hash,hcells_size,hl']) (by rw [hcells_size,hcells_size,hl,hl']) (hcells_one _)
 unfold storeH execOp
 simp only [Instr.storeAt,Instr.sureAddr,Sem.run_bind,Sem.run_pure,Result.andThen_ok,this]
 rfl
theorem setH_other (w:World) {g k:Nat} (h:List UInt8) (hk:k≠g):(setH w g h).heap[k]?=w.heap[k]?:=setRow_other w g k _ hk
theorem setH_same {w:World} {g:Nat} {t:TypeId} {cs:Array Value} {h:List UInt8} (hg:w.heap[g]?=some (.cells cs t (0,0))):(setH w g h).heap[g]?=some (.cells (hcells h) t (0,0)):=setRow_heap w g _ _ t _ hg
theorem setH_below {B g:Nat} {a w:World} {h:List UInt8} (hb:Below B a w) (hg:B≤g):Below B a (setH w g h):=below_setRow hb hg _
theorem under_ref:Tryz.prog.underlying 129=some (.struct (Tryz.prog.fieldsOf 129)):=by kernel_rfl
theorem size_ref:(Tryz.prog.info? 129).map (·.size)=some 3:=by kernel_rfl
theorem results_two {fn:Func} {p q:Tmp} (h:fn.results=#[.cell p 129,.cell q 38]) (tmps:Array Value) (w:World) (g1 g2:Nat) (t1 t2:TypeId) (a b c:Value) (hh:List UInt8)
  (hp:tmps.getD p undef=.pointer (some ⟨g1,0,none⟩)) (hq:tmps.getD q undef=.pointer (some ⟨g2,0,none⟩)) (h1:w.heap[g1]?=some (.cells #[a,b,c] t1 (0,0))) (h2:w.heap[g2]?=some (.cells (hcells hh) t2 (0,0))) (hl:hh.length=32):
  (results fn tmps).run Tryz.prog w=.ok (.tuple #[.agg #[a,b,c],.agg (hcells hh)]) w:=by
 have hp':tmps[p]?.getD undef=.pointer (some ⟨g1,0,none⟩):=by simpa using hp
 have hq':tmps[q]?.getD undef=.pointer (some ⟨g2,0,none⟩):=by simpa using hq
 have r1:=run_loadVar_row (P:=Tryz.prog) w g1 t1 129 #[a,b,c] (0,0) _ h1 under_ref rfl (by rw [size_ref];rfl)
 have r2:=run_loadVar_row (P:=Tryz.prog) w g2 t2 38 (hcells hh) (0,0) _ h2 under_hash rfl (by rw [size_hash,hcells_size,hl])
 simp [results,h,hp',hq',asAddr,r1,r2]
def RefHash (w:World) (A:Option Addr) (c:Nat) (l:List UInt8) (res:List UInt8 × Nat × Bool) (e:Ending) (w':World):Prop:=
 e=.returned (.tuple #[rv A l.length c res.2.1 (!res.2.2),.agg (hcells res.1)])∧Below w.heap.size w w'
def Good (g2 g3:Nat) (hh:List UInt8) (w:World):Prop:=w.heap[g2]?=some (.cells (hcells nought) 38 (0,0))∧w.heap[g3]?=some (.cells (hcells hh) 38 (0,0))
theorem Good.drew {g2 g3:Nat} {hh:List UInt8} {w:World} (h:Good g2 g3 hh w):Good g2 g3 hh w.drew:=h
theorem Good.set {g2 g3 g:Nat} {hh:List UInt8} {w:World} (h:Good g2 g3 hh w) (h2:g2≠g) (h3:g3≠g) (i:Nat) (u:Value):Good g2 g3 hh (w.setCell ⟨g,i,none⟩ u):=
 ⟨(heap_setCell_other _ _ _ _ h2).trans h.1,(heap_setCell_other _ _ _ _ h3).trans h.2⟩
theorem ne_some {a b:Nat} (h:a≠b):some a≠some b:=fun e=>h (Option.some.inj e)
theorem four_size (w:World) (o1 o2 o3 o4:Obj):((((w.alloc o1).alloc o2).alloc o3).alloc o4).heap.size=w.heap.size + 4:=by simp
theorem four_0 (w:World) (o1 o2 o3 o4:Obj):((((w.alloc o1).alloc o2).alloc o3).alloc o4).heap[w.heap.size]?=some o1:=by
 rw [Below.heap_alloc _ _ _ (by simp;omega),Below.heap_alloc _ _ _ (by simp;omega),Below.heap_alloc _ _ _ (by simp)]
 exact heap_alloc_new w o1
theorem four_1 (w:World) (o1 o2 o3 o4:Obj):((((w.alloc o1).alloc o2).alloc o3).alloc o4).heap[w.heap.size + 1]?=some o2:=by
 rw [Below.heap_alloc _ _ _ (by simp),Below.heap_alloc _ _ _ (by simp)]
 have:=heap_alloc_new (w.alloc o1) o2
 simpa using this
theorem four_2 (w:World) (o1 o2 o3 o4:Obj):((((w.alloc o1).alloc o2).alloc o3).alloc o4).heap[w.heap.size + 1 + 1]?=some o3:=by
 rw [Below.heap_alloc _ _ _ (by simp)]
 have:=heap_alloc_new ((w.alloc o1).alloc o2) o3
 simpa using this
theorem four_below (w:World) (o1 o2 o3 o4:Obj):Below w.heap.size w ((((w.alloc o1).alloc o2).alloc o3).alloc o4):=
 ((((Below.refl _ _).alloc (Nat.le_refl _) _).alloc (by simp) _).alloc (by simp;omega) _).alloc (by simp;omega) _
structure Begun (w w5:World) (C0:Array Value):Prop where
 below:Below w.heap.size w w5
 b0:w5.heap[w.heap.size]?=some (.cells C0 129 (0,0))
 b1:w5.heap[w.heap.size + 1]?=some (.cells #[.slice none 0 0,.int .i64 0,.bool false] 129 (0,0))
 b2:w5.heap[w.heap.size + 1 + 1]?=some (.cells (hcells nought) 38 (0,0))
 b3:w5.heap[w.heap.size + 1 + 1 + 1]?=some (.cells (hcells nought) 38 (0,0))
theorem begun {w w5:World} {C0:Array Value}
  (hg5:((((w.alloc (.cells C0 129)).alloc (.cells #[.slice none 0 0,.int .i64 0,.bool false] 129)).alloc (.cells (hcells nought) 38)).alloc (.cells (hcells nought) 38)).grownBy w5 (some (((w.alloc (.cells C0 129)).alloc (.cells #[.slice none 0 0,.int .i64 0,.bool false] 129)).alloc (.cells (hcells nought) 38)).heap.size))
  (H5:Hid (w5.heap[(((w.alloc (.cells C0 129)).alloc (.cells #[.slice none 0 0,.int .i64 0,.bool false] 129)).alloc (.cells (hcells nought) 38)).heap.size]?=some (.cells (hcells nought) 38 (0,0)))):Begun w w5 C0:=by
 have hs3:(((w.alloc (.cells C0 129)).alloc (.cells #[.slice none 0 0,.int .i64 0,.bool false] 129)).alloc (.cells (hcells nought) 38)).heap.size=w.heap.size + 1 + 1 + 1:=by simp
 have h5:=H5.out
 rw [hs3] at hg5 h5
 have hs4:=four_size w (.cells C0 129) (.cells #[.slice none 0 0,.int .i64 0,.bool false] 129) (.cells (hcells nought) 38) (.cells (hcells nought) 38)
 refine ⟨(four_below _ _ _ _ _).grown hg5 (by rw [hs4];omega) (fun q hq=>by have:=Option.some.inj hq;omega),?_,?_,?_,h5⟩
 ·exact (hg5.block _ (by rw [hs4];omega) (ne_some (by omega))).trans (four_0 _ _ _ _ _)
 ·exact (hg5.block _ (by rw [hs4];omega) (ne_some (by omega))).trans (four_1 _ _ _ _ _)
 ·exact (hg5.block _ (by rw [hs4];omega) (ne_some (by omega))).trans (four_2 _ _ _ _ _)
theorem refHash_end {w w6:World} {A:Option Addr} {c p:Nat} {wr:Bool} {l hh:List UInt8} {C1:Array Value} {a:Act} (h1:w6.heap[w.heap.size + 1]?=some (.cells C1 129 (0,0))) (_hs:w.heap.size≤w6.heap.size)
  (hc:C1.size=3) (h2:w6.heap[w.heap.size + 1 + 1]?=some (.cells (hcells nought) 38 (0,0))) (hl:hh.length=32) (hb:Below w.heap.size w w6)
  (hp:a.tmps.getD 2 undef=.pointer (some ⟨w.heap.size + 1,0,none⟩)) (hq:a.tmps.getD 3 undef=.pointer (some ⟨w.heap.size + 1 + 1,0,none⟩)) (hd:a.defers=[]):
  bodyPost Tryz.prog Tryz.f53 (RefHash w A c l (hh,p,!wr)) .ret a
   (setH (((w6.setCell ⟨w.heap.size + 1,0,none⟩ (.slice A l.length c)).setCell ⟨w.heap.size + 1,1,none⟩ (.int .i64 (p:Int))).setCell ⟨w.heap.size + 1,2,none⟩ (.bool wr)).drew (w.heap.size + 1 + 1) hh):=by
 have e1:(setH (((w6.setCell ⟨w.heap.size + 1,0,none⟩ (.slice A l.length c)).setCell ⟨w.heap.size + 1,1,none⟩ (.int .i64 (p:Int))).setCell ⟨w.heap.size + 1,2,none⟩ (.bool wr)).drew (w.heap.size + 1 + 1) hh).heap[w.heap.size + 1]?=some (.cells #[.slice A l.length c,.int .i64 (p:Int),.bool wr] 129 (0,0)):=by
  rw [setH_other _ _ (by omega)]
  have:=set_blk (set_blk (set_blk h1 0 (.slice A l.length c)) 1 (.int .i64 (p:Int))) 2 (.bool wr)
  have e:((C1.setIfInBounds 0 (.slice A l.length c)).setIfInBounds 1 (.int .i64 (p:Int))).setIfInBounds 2 (.bool wr)=#[.slice A l.length c,.int .i64 (p:Int),.bool wr]:=by
   match C1,hc with
   | ⟨[a,b,c]⟩,_=>rfl
  rw [e] at this
  exact this
 have h2':(((w6.setCell ⟨w.heap.size + 1,0,none⟩ (.slice A l.length c)).setCell ⟨w.heap.size + 1,1,none⟩ (.int .i64 (p:Int))).setCell ⟨w.heap.size + 1,2,none⟩ (.bool wr)).drew.heap[w.heap.size + 1 + 1]?=some (.cells (hcells nought) 38 (0,0)):=
  (heap_setCell_other _ _ _ _ (by simp)).trans ((heap_setCell_other _ _ _ _ (by simp)).trans ((heap_setCell_other _ _ _ _ (by simp)).trans h2))
 refine bodyPost_ret (results_two rfl _ _ _ _ _ _ _ _ _ hh hp hq e1 (setH_same h2') hl) hd ⟨by unfold rv;simp,?_⟩
 exact setH_below (Below.drew (((hb.setCell (by simp) _).setCell (by simp) _).setCell (by simp) _)) (by omega)
attribute [local go_sem ↓] exec_load_hash exec_store_hash
set_option maxHeartbeats 3200000 in
theorem refHash_wrong (A:Option Addr) (c p:Nat) (l:List UInt8) (w:World):
  Calls Tryz.prog 53 #[.agg #[.slice A l.length c,.int .i64 (p:Int),.bool true]] w (RefHash w A c l (nought,p,false)):=by
 go_enter Tryz.func53,Tryz.ntmps53
 go_wp2_with (first
  | (refine wpList_alloc_hash rfl rfl ?_)
  | (refine wpList_store_hash (h:=nought) (h':=nought) rfl _ _ rfl rfl rfl (heap_alloc_new _ _) nought_length nought_length ?_;intro w5 hg5 H5 hs5;have BG:=begun hg5 H5;clear hg5 H5 hs5;have j0:=cell_blk BG.b0 0;have j1:=cell_blk BG.b0 1;have j2:=cell_blk BG.b0 2;have fj2:=free_blk BG.b0 2;have i0:=cell_blk BG.b1 0;have i1:=cell_blk BG.b1 1;have i2:=cell_blk BG.b1 2;have g0:=free_blk BG.b1 0;have g1:=free_blk BG.b1 1;have g2:=free_blk BG.b1 2;simp at j0 j1 j2 i0 i1 i2))
 have hb6:Below w.heap.size w (w5.setCell ⟨w.heap.size,2,none⟩ (.bool true)):=BG.below.setCell (Nat.le_refl _) _
 have G6:Good (w.heap.size + 1 + 1) (w.heap.size + 1 + 1 + 1) nought (w5.setCell ⟨w.heap.size,2,none⟩ (.bool true)):=Good.set ⟨BG.b2,BG.b3⟩ (by omega) (by omega) _ _
 have B6:(w5.setCell ⟨w.heap.size,2,none⟩ (.bool true)).heap[w.heap.size + 1]?=_:=(heap_setCell_other _ _ _ _ (by simp)).trans BG.b1
 have A6:=set_blk BG.b0 2 (.bool true)
 generalize w5.setCell ⟨w.heap.size,2,none⟩ (.bool true)=w6 at *
 clear j0 j1 j2 fj2 i0 i1 i2 g0 g1 g2
 have j0:=cell_blk A6 0
 have j1:=cell_blk A6 1
 have j2:=cell_blk A6 2
 have i0:=cell_blk B6 0
 have i1:=cell_blk B6 1
 have i2:=cell_blk B6 2
 have g0:=free_blk B6 0
 have g1:=free_blk B6 1
 have g2:=free_blk B6 2
 simp at j0 j1 j2 i0 i1 i2
 have HA6:=hid A6
 have HB6:=hid B6
 have HBG:=hid BG
 have r1:∀ w':World,Good (w.heap.size + 1 + 1) (w.heap.size + 1 + 1 + 1) nought w'→loadH (.pointer (some ⟨w.heap.size + 1 + 1 + 1,0,none⟩)) w'=.ok (.value (.agg (hcells nought))) w':=fun w' h=>loadH_eq h.2 nought_length
 have r2:∀ w':World,Good (w.heap.size + 1 + 1) (w.heap.size + 1 + 1 + 1) nought w'→storeH (.pointer (some ⟨w.heap.size + 1 + 1,0,none⟩)) (.agg (hcells nought)) w'=.ok .skip (setH w' (w.heap.size + 1 + 1) nought):=fun w' h=>storeH_eq h.1 nought_length nought_length
 have r3:∀ (w':World) (i:Nat) (u:Value),Good (w.heap.size + 1 + 1) (w.heap.size + 1 + 1 + 1) nought w'→Good (w.heap.size + 1 + 1) (w.heap.size + 1 + 1 + 1) nought (w'.setCell ⟨w.heap.size + 1,i,none⟩ u):=fun w' i u h=>h.set (by omega) (by omega) i u
 have r4:∀ w':World,Good (w.heap.size + 1 + 1) (w.heap.size + 1 + 1 + 1) nought w'→Good (w.heap.size + 1 + 1) (w.heap.size + 1 + 1 + 1) nought w'.drew:=fun w' h=>h
 have r5:∀ (w':World) (j:Nat),(setH w' (w.heap.size + 1 + 1) nought).cell? ⟨w.heap.size + 1,j,none⟩=w'.cell? ⟨w.heap.size + 1,j,none⟩:=fun w' j=>World.cell?_of_block (setH_other w' nought (by simp))
 have r6:∀ (w':World) (j:Nat),(setH w' (w.heap.size + 1 + 1) nought).frozen? ⟨w.heap.size + 1,j,none⟩=w'.frozen? ⟨w.heap.size + 1,j,none⟩:=fun w' j=>World.frozen?_of_block (setH_other w' nought (by simp))
 have W7:=r2 _ (r4 _ (r3 _ 2 (.bool true) (r3 _ 1 (.int .i64 (p:Int)) (r3 _ 0 (.slice A l.length c) G6))))
 have W6:=r2 _ (r4 _ G6)
 have L6:=r1 _ (r4 _ G6)
 have L7:=r1 _ (r4 _ (r3 _ 2 (.bool true) (r3 _ 1 (.int .i64 (p:Int)) (r3 _ 0 (.slice A l.length c) G6))))
 have r7:∀ (w':World) (j:Nat),(setH w' (w.heap.size + 1 + 1) nought).cell? ⟨w.heap.size,j,none⟩=w'.cell? ⟨w.heap.size,j,none⟩:=fun w' j=>World.cell?_of_block (setH_other w' nought (by simp;omega))
 clear A6 B6 BG r1 r2 r3 r4
 go_region
 all_goals clear r5 r6 r7 W6 W7 L6 L7
 go_wp2_with fail
 exact refHash_end (wr:=true) HB6.out hb6.size rfl G6.1 nought_length hb6 rfl rfl rfl
set_option maxHeartbeats 3200000 in
theorem refHash_short (A:Option Addr) (c p:Nat) (l:List UInt8) (w:World) (_hl:l.length≤1099511627776) (hp:p≤l.length) (ht:(l.length:Int) - (p:Int) < 32):
  Calls Tryz.prog 53 #[.agg #[.slice A l.length c,.int .i64 (p:Int),.bool false]] w (RefHash w A c l (nought,p,false)):=by
 go_enter Tryz.func53,Tryz.ntmps53
 go_wp2_with (first
  | (refine wpList_alloc_hash rfl rfl ?_)
  | (refine wpList_store_hash (h:=nought) (h':=nought) rfl _ _ rfl rfl rfl (heap_alloc_new _ _) nought_length nought_length ?_;intro w5 hg5 H5 hs5;have BG:=begun hg5 H5;clear hg5 H5 hs5;have j0:=cell_blk BG.b0 0;have j1:=cell_blk BG.b0 1;have j2:=cell_blk BG.b0 2;have fj2:=free_blk BG.b0 2;have i0:=cell_blk BG.b1 0;have i1:=cell_blk BG.b1 1;have i2:=cell_blk BG.b1 2;have g0:=free_blk BG.b1 0;have g1:=free_blk BG.b1 1;have g2:=free_blk BG.b1 2;simp at j0 j1 j2 i0 i1 i2))
 have hb6:Below w.heap.size w (w5.setCell ⟨w.heap.size,2,none⟩ (.bool true)):=BG.below.setCell (Nat.le_refl _) _
 have G6:Good (w.heap.size + 1 + 1) (w.heap.size + 1 + 1 + 1) nought (w5.setCell ⟨w.heap.size,2,none⟩ (.bool true)):=Good.set ⟨BG.b2,BG.b3⟩ (by omega) (by omega) _ _
 have B6:(w5.setCell ⟨w.heap.size,2,none⟩ (.bool true)).heap[w.heap.size + 1]?=_:=(heap_setCell_other _ _ _ _ (by simp)).trans BG.b1
 have A6:=set_blk BG.b0 2 (.bool true)
 generalize w5.setCell ⟨w.heap.size,2,none⟩ (.bool true)=w6 at *
 clear j0 j1 j2 fj2 i0 i1 i2 g0 g1 g2
 have j0:=cell_blk A6 0
 have j1:=cell_blk A6 1
 have j2:=cell_blk A6 2
 have i0:=cell_blk B6 0
 have i1:=cell_blk B6 1
 have i2:=cell_blk B6 2
 have g0:=free_blk B6 0
 have g1:=free_blk B6 1
 have g2:=free_blk B6 2
 simp at j0 j1 j2 i0 i1 i2
 have HA6:=hid A6
 have HB6:=hid B6
 have HBG:=hid BG
 have r1:∀ w':World,Good (w.heap.size + 1 + 1) (w.heap.size + 1 + 1 + 1) nought w'→loadH (.pointer (some ⟨w.heap.size + 1 + 1 + 1,0,none⟩)) w'=.ok (.value (.agg (hcells nought))) w':=fun w' h=>loadH_eq h.2 nought_length
 have r2:∀ w':World,Good (w.heap.size + 1 + 1) (w.heap.size + 1 + 1 + 1) nought w'→storeH (.pointer (some ⟨w.heap.size + 1 + 1,0,none⟩)) (.agg (hcells nought)) w'=.ok .skip (setH w' (w.heap.size + 1 + 1) nought):=fun w' h=>storeH_eq h.1 nought_length nought_length
 have r3:∀ (w':World) (i:Nat) (u:Value),Good (w.heap.size + 1 + 1) (w.heap.size + 1 + 1 + 1) nought w'→Good (w.heap.size + 1 + 1) (w.heap.size + 1 + 1 + 1) nought (w'.setCell ⟨w.heap.size + 1,i,none⟩ u):=fun w' i u h=>h.set (by omega) (by omega) i u
 have r4:∀ w':World,Good (w.heap.size + 1 + 1) (w.heap.size + 1 + 1 + 1) nought w'→Good (w.heap.size + 1 + 1) (w.heap.size + 1 + 1 + 1) nought w'.drew:=fun w' h=>h
 have r5:∀ (w':World) (j:Nat),(setH w' (w.heap.size + 1 + 1) nought).cell? ⟨w.heap.size + 1,j,none⟩=w'.cell? ⟨w.heap.size + 1,j,none⟩:=fun w' j=>World.cell?_of_block (setH_other w' nought (by simp))
 have r6:∀ (w':World) (j:Nat),(setH w' (w.heap.size + 1 + 1) nought).frozen? ⟨w.heap.size + 1,j,none⟩=w'.frozen? ⟨w.heap.size + 1,j,none⟩:=fun w' j=>World.frozen?_of_block (setH_other w' nought (by simp))
 have W7:=r2 _ (r4 _ (r3 _ 2 (.bool true) (r3 _ 1 (.int .i64 (p:Int)) (r3 _ 0 (.slice A l.length c) G6))))
 have W6:=r2 _ (r4 _ G6)
 have L6:=r1 _ (r4 _ G6)
 have L7:=r1 _ (r4 _ (r3 _ 2 (.bool true) (r3 _ 1 (.int .i64 (p:Int)) (r3 _ 0 (.slice A l.length c) G6))))
 have r7:∀ (w':World) (j:Nat),(setH w' (w.heap.size + 1 + 1) nought).cell? ⟨w.heap.size,j,none⟩=w'.cell? ⟨w.heap.size,j,none⟩:=fun w' j=>World.cell?_of_block (setH_other w' nought (by simp;omega))
 clear A6 B6 BG r1 r2 r3 r4
 go_region
 all_goals clear r5 r6 r7 W6 W7 L6 L7
 go_wp2_with fail
 exact refHash_end (wr:=true) HB6.out hb6.size rfl G6.1 nought_length hb6 rfl rfl rfl
def partH (l:List UInt8) (p i:Nat):List UInt8:=(l.drop p).take i ++ List.replicate (32 - i) 0
theorem partH_len {l:List UInt8} {p i:Nat} (hi:i≤32) (hp:p + 32≤l.length):(partH l p i).length=32:=by
 simp [partH]
 omega
theorem partH_set {l:List UInt8} {p i:Nat} (hi:i < 32) (hp:p + 32≤l.length):(hcells (partH l p i)).setIfInBounds i (bcell (l[p + i]'(by omega)))=hcells (partH l p (i + 1)):=by
 have hL:(bcells ((l.drop p).take i)).length=i:=by rw [bcells_length,List.length_take,List.length_drop];omega
 have e1:partH l p i=(l.drop p).take i ++ (0 :: List.replicate (32 - (i + 1)) 0):=by
  unfold partH
  rw [show 32 - i=32 - (i + 1) + 1 from by omega,List.replicate_succ]
 have e2:partH l p (i + 1)=(l.drop p).take i ++ ((l[p + i]'(by omega)) :: List.replicate (32 - (i + 1)) 0):=by
  unfold partH
  have hid:i < (l.drop p).length:=by rw [List.length_drop];omega
  rw [List.take_succ_eq_append_getElem hid,List.getElem_drop,List.append_assoc]
  rfl
 rw [e1,e2]
 unfold hcells
 rw [List.setIfInBounds_toArray]
 congr 1
 rw [bcells_append,bcells_append,List.set_append,if_neg (by omega),hL,Nat.sub_self]
 rfl
set_option maxHeartbeats 3200000 in
theorem refHash_good (A:Option Addr) (c p:Nat) (l:List UInt8) (w:World) (hv:Byt w (.slice A l.length c) l) (hl:l.length≤1099511627776) (hp:p + 32≤l.length):
  Calls Tryz.prog 53 #[.agg #[.slice A l.length c,.int .i64 (p:Int),.bool false]] w (RefHash w A c l ((l.drop p).take 32,p + 32,true)):=by
 obtain ⟨_,hlc,hcm,hr⟩:=hv.at_
 unfold maxLen at hcm
 obtain ⟨b,off,rfl,hblt,hcell⟩:=hr (by omega)
 have HC:=hid hcell
 have ht:¬ (l.length:Int) - (p:Int) < 32:=by omega
 clear hcell hr hv
 go_enter Tryz.func53,Tryz.ntmps53
 go_wp2_with (first
  | (refine wpList_alloc_hash rfl rfl ?_)
  | (refine wpList_store_hash (h:=nought) (h':=nought) rfl _ _ rfl rfl rfl (heap_alloc_new _ _) nought_length nought_length ?_;intro w5 hg5 H5 hs5;have BG:=begun hg5 H5;clear hg5 H5 hs5;have j0:=cell_blk BG.b0 0;have j1:=cell_blk BG.b0 1;have j2:=cell_blk BG.b0 2;simp at j0 j1 j2))
 have HBG:=hid BG
 clear j0 j1 j2 BG
 go_loopw [5] (fun si wr=>∃ i:Nat,i≤32∧si=.int .i64 i∧Below w.heap.size w wr∧Hid (wr.heap[w.heap.size]?=some (.cells #[.slice (some ⟨b,off,none⟩) l.length c,.int .i64 (p:Int),.bool false] 129 (0,0)))∧Hid (wr.heap[w.heap.size + 1]?=some (.cells #[.slice none 0 0,.int .i64 0,.bool false] 129 (0,0)))∧Hid (wr.heap[w.heap.size + 1 + 1]?=some (.cells (hcells nought) 38 (0,0)))∧Hid (wr.heap[w.heap.size + 1 + 1 + 1]?=some (.cells (hcells (partH l p i)) 38 (0,0)))) (fun si _=>32 - (intOf si).toNat)
 case atStart=>exact ⟨0,by omega,rfl,HBG.out.below,hid HBG.out.b0,hid HBG.out.b1,hid HBG.out.b2,hid HBG.out.b3⟩
 case round=>
  obtain ⟨i,hi,rfl,hbw,Z0,Z1,Z2,Z3⟩:=hrel
  have j0:=cell_blk Z0.out 0
  have j1:=cell_blk Z0.out 1
  have j2:=cell_blk Z0.out 2
  simp at j0 j1 j2
  by_cases hlt:i < 32
  ·have hil:p + i < l.length:=by omega
   have hcl:=(hbw.cell (p:=⟨b,off + (p + i),none⟩) hblt).trans (HC.out (p + i) hil)
   obtain ⟨x,hx0,hx1,HX⟩:∃ x:Int,0≤x∧x≤255∧Hid ((l[p + i].toNat:Int)=x):=⟨_,(byte_lt l[p + i]).1,(byte_lt l[p + i]).2,hid rfl⟩
   unfold bcell at hcl
   rw [HX.out] at hcl
   have hph:=partH_len (l:=l) (p:=p) (i:=i) hi hp
   have k3:=cell_blk Z3.out i
   rw [hcells_get _ i (by omega)] at k3
   have f3:=free_blk Z3.out i
   have hi32:(i:Int) < 32:=by omega
   have hpi:(p:Int) + (i:Int) < (l.length:Int):=by omega
   have Y3:=set_blk Z3.out i (.int .u8 x)
   have hset:=partH_set (l:=l) (p:=p) hlt hp
   unfold bcell at hset
   rw [HX.out] at hset
   rw [hset] at Y3
   have Y0:=(heap_setCell_other wr ⟨w.heap.size + 1 + 1 + 1,i,none⟩ w.heap.size (.int .u8 x) (by first | (simp;done) | (simp;omega))).trans Z0.out
   have Y1:=(heap_setCell_other wr ⟨w.heap.size + 1 + 1 + 1,i,none⟩ (w.heap.size + 1) (.int .u8 x) (by first | (simp;done) | (simp;omega))).trans Z1.out
   have Y2:=(heap_setCell_other wr ⟨w.heap.size + 1 + 1 + 1,i,none⟩ (w.heap.size + 1 + 1) (.int .u8 x) (by first | (simp;done) | (simp;omega))).trans Z2.out
   have hbY:Below w.heap.size w (wr.setCell ⟨w.heap.size + 1 + 1 + 1,i,none⟩ (.int .u8 x)):=hbw.setCell (by simp;omega) _
   have X0:=hid Y0
   have X1:=hid Y1
   have X2:=hid Y2
   have X3:=hid Y3
   clear hset Y0 Y1 Y2 Y3
   go_wp2_with fail
   go_roundw
   case rel=>exact ⟨i + 1,by omega,by go_num,hbY,X0,X1,X2,X3⟩
   case measure=>simp [intOf];omega
  ·obtain rfl:i=32:=by omega
   have f1:=free_blk Z0.out 1
   have hpart:partH l p 32=(l.drop p).take 32:=by simp [partH]
   have hlen32:((l.drop p).take 32).length=32:=by rw [List.length_take,List.length_drop];omega
   have hq:IntKind.i64.wrap ((p:Int) + 32)=(p:Int) + 32:=IntWalk.i64_in _ (by omega)
   have hb6:Below w.heap.size w (wr.setCell ⟨w.heap.size,1,none⟩ (.int .i64 ((p:Int) + 32))):=hbw.setCell (Nat.le_refl _) _
   have Z3':=Z3.out
   rw [hpart] at Z3'
   have G6:Good (w.heap.size + 1 + 1) (w.heap.size + 1 + 1 + 1) ((l.drop p).take 32) (wr.setCell ⟨w.heap.size,1,none⟩ (.int .i64 ((p:Int) + 32))):=Good.set ⟨Z2.out,Z3'⟩ (by omega) (by omega) _ _
   have B6:(wr.setCell ⟨w.heap.size,1,none⟩ (.int .i64 ((p:Int) + 32))).heap[w.heap.size + 1]?=_:=(heap_setCell_other _ _ _ _ (by simp)).trans Z1.out
   have A6:=set_blk Z0.out 1 (.int .i64 ((p:Int) + 32))
   obtain ⟨HH,HHE⟩:∃ HH:List UInt8,Hid ((l.drop p).take 32=HH):=⟨_,hid rfl⟩
   rw [HHE.out] at G6 hlen32
   have HB6:=hid B6
   have HA6:=hid A6
   clear Z3' B6 A6
   go_wp2_with fail
   generalize wr.setCell ⟨w.heap.size,1,none⟩ (.int .i64 ((p:Int) + 32))=w6 at *
   clear j0 j1 j2 f1
   have j0:=cell_blk HA6.out 0
   have j1:=cell_blk HA6.out 1
   have j2:=cell_blk HA6.out 2
   have i0:=cell_blk HB6.out 0
   have i1:=cell_blk HB6.out 1
   have i2:=cell_blk HB6.out 2
   have g0:=free_blk HB6.out 0
   have g1:=free_blk HB6.out 1
   have g2:=free_blk HB6.out 2
   simp at j0 j1 j2 i0 i1 i2
   have r1:∀ w':World,Good (w.heap.size + 1 + 1) (w.heap.size + 1 + 1 + 1) HH w'→loadH (.pointer (some ⟨w.heap.size + 1 + 1 + 1,0,none⟩)) w'=.ok (.value (.agg (hcells HH))) w':=fun w' h=>loadH_eq h.2 hlen32
   have r2:∀ w':World,Good (w.heap.size + 1 + 1) (w.heap.size + 1 + 1 + 1) HH w'→storeH (.pointer (some ⟨w.heap.size + 1 + 1,0,none⟩)) (.agg (hcells HH)) w'=.ok .skip (setH w' (w.heap.size + 1 + 1) HH):=fun w' h=>storeH_eq h.1 nought_length hlen32
   have r3:∀ (w':World) (i:Nat) (u:Value),Good (w.heap.size + 1 + 1) (w.heap.size + 1 + 1 + 1) HH w'→Good (w.heap.size + 1 + 1) (w.heap.size + 1 + 1 + 1) HH (w'.setCell ⟨w.heap.size + 1,i,none⟩ u):=fun w' i u h=>h.set (by omega) (by omega) i u
   have r4:∀ w':World,Good (w.heap.size + 1 + 1) (w.heap.size + 1 + 1 + 1) HH w'→Good (w.heap.size + 1 + 1) (w.heap.size + 1 + 1 + 1) HH w'.drew:=fun w' h=>h
   have r5:∀ (w':World) (j:Nat),(setH w' (w.heap.size + 1 + 1) HH).cell? ⟨w.heap.size + 1,j,none⟩=w'.cell? ⟨w.heap.size + 1,j,none⟩:=fun w' j=>World.cell?_of_block (setH_other w' HH (by simp))
   have r6:∀ (w':World) (j:Nat),(setH w' (w.heap.size + 1 + 1) HH).frozen? ⟨w.heap.size + 1,j,none⟩=w'.frozen? ⟨w.heap.size + 1,j,none⟩:=fun w' j=>World.frozen?_of_block (setH_other w' HH (by simp))
   have r7:∀ (w':World) (j:Nat),(setH w' (w.heap.size + 1 + 1) HH).cell? ⟨w.heap.size,j,none⟩=w'.cell? ⟨w.heap.size,j,none⟩:=fun w' j=>World.cell?_of_block (setH_other w' HH (by simp;omega))
   have W7:=r2 _ (r4 _ (r3 _ 2 (.bool false) (r3 _ 1 (.int .i64 ((p:Int) + 32)) (r3 _ 0 (.slice (some ⟨b,off,none⟩) l.length c) G6))))
   have W6:=r2 _ (r4 _ G6)
   have L6:=r1 _ (r4 _ G6)
   have L7:=r1 _ (r4 _ (r3 _ 2 (.bool false) (r3 _ 1 (.int .i64 ((p:Int) + 32)) (r3 _ 0 (.slice (some ⟨b,off,none⟩) l.length c) G6))))
   clear r1 r2 r3 r4
   go_region
   clear r5 r6 r7 W6 W7 L6 L7
   go_wp2_with fail
   rw [HHE.out]
   have e32:(p:Int) + 32=((p + 32:Nat):Int):=by omega
   rw [e32]
   exact refHash_end (wr:=false) HB6.out hb6.size rfl G6.1 hlen32 hb6 rfl rfl rfl
theorem refHash_any (A:Option Addr) (c p:Nat) (r:Bool) (l:List UInt8) (w:World) (hv:Byt w (.slice A l.length c) l) (hp:p≤l.length) (hl:l.length≤1099511627776):
  Calls Tryz.prog 53 #[.agg #[.slice A l.length c,.int .i64 (p:Int),.bool (!r)]] w (RefHash w A c l (rdHash l p r)):=by
 cases r with
 | false=>
  have e:rdHash l p false=(nought,p,false):=by simp [rdHash,nought]
  rw [e]
  exact refHash_wrong A c p l w
 | true=>
  by_cases hfit:p + 32≤l.length
  ·have e:rdHash l p true=((l.drop p).take 32,p + 32,true):=by simp [rdHash,hfit]
   rw [e]
   exact refHash_good A c p l w hv hl hfit
  ·have e:rdHash l p true=(nought,p,false):=by simp [rdHash,hfit,nought]
   rw [e]
   exact refHash_short A c p l w hl hp (by omega)
end Go.Proofs.YtpdnnmabijmfbaaGreatDoor
namespace Go.Proofs.YtpdnnmabijmfbaaGreatDoor
set_option maxRecDepth 20000
open Go.ChangeShapes Go.WideShapes Go.ChangeAt Go.RowKit
theorem ownKnob_none:ownKnob Tryz.prog.godebug=none:=by kernel_rfl
theorem laidOut:laidOutB Tryz.prog=true:=by kernel_rfl
def IsRow (k:IntKind) (w:World) (a:Option Addr) (len cap:Nat) (zs:List Int):Prop:=
 (a=none∧len=0∧cap=0∧zs=[])∨
 ∃ x,a=some x∧len≤cap∧cap≤maxLen∧zs.length=cap∧(∀ i,i < zs.length→w.cell? (x.add i)=some (.int k (zs.getD i 0)))∧∀ n ∈ zs,(Lit.int k n).wf=true
theorem row_byt {w:World} {a:Option Addr} {len cap:Nat} {zs:List Int} (h:IsRow .u8 w a len cap zs):∃ l:List UInt8,l.length=len∧Byt w (.slice a len cap) l:=by
 rcases h with ⟨rfl,rfl,rfl,rfl⟩ | ⟨x,rfl,hl,hm,hz,hcell,hwz⟩
 ·exact ⟨[],rfl,Byt.nil w⟩
 ·have hlen:((zs.take len).map fun n=>UInt8.ofNat n.toNat).length=len:=by simp;omega
  refine ⟨(zs.take len).map fun n=>UInt8.ofNat n.toNat,hlen,some x,cap,by rw [hlen],by omega,hm,fun h0=>?_⟩
  rw [hlen] at h0
  obtain ⟨b,off,spot⟩:=x
  have hc:=hcell 0 (by omega)
  have hspot:spot=none:=by simpa [Addr.add] using World.cell?_spot hc
  subst hspot
  refine ⟨b,off,rfl,?_,fun j hj=>?_⟩
  ·have:=World.block_lt_of_cell? w _ hc
   rw [addr_add] at this
   exact this
  ·rw [hlen] at hj
   have hjz:j < zs.length:=by omega
   have:=hcell j hjz
   rw [addr_add] at this
   rw [this]
   have hw:=hwz zs[j] (List.getElem_mem hjz)
   have hr:0≤zs[j]∧zs[j]≤255:=by simpa [Lit.wf,IntKind.min,IntKind.max,IntKind.signed,IntKind.bits] using hw
   have e:zs.getD j 0=zs[j]:=by simp [hjz]
   rw [e]
   unfold bcell
   congr 2
   simp only [List.getElem_map,List.getElem_take]
   rw [UInt8.toNat_ofNat']
   omega
end Go.Proofs.YtpdnnmabijmfbaaGreatDoor
namespace Go.Proofs.YtpdnnmabijmfbaaGreatDoor
set_option maxRecDepth 20000
open Go.RowKit
theorem take_off {P:Program} {md:Region.Mode} {l:List Oper} {Q:Exit→Act→World→Prop} {S:World→Prop} {i:Nat} {oi:Oper} {fuel:Nat} {listed:Array Bool} {a:Act} {w:World} (hi:l[i]?=some oi)
  (hs:Region.noSelect l.toArray=true) (hf:Region.free md l.toArray listed i=true) (hr:(Region.ready md l.toArray listed).contains i=true) (hQ:∀ c a w,Q (.panic c) (a.put oi.dst undef) w→Q (.panic c) a w)
  (hw:Region.wanted oi (yielded l.toArray a.tmps)=false) (hS:S w) (h:wpAnyH P md l.toArray Q S fuel (listed.setIfInBounds i true) (a.put oi.dst undef) w):wpAnyH P md l.toArray Q S (fuel + 1) listed a w:=
 wpAnyH_take (by simpa using hi) hs hf hr hQ (Or.inr ⟨hw,rfl⟩) hS h
theorem take_on {P:Program} {md:Region.Mode} {l:List Oper} {Q:Exit→Act→World→Prop} {S:World→Prop} {i:Nat} {oi:Oper} {v:Value} {fuel:Nat} {listed:Array Bool} {a:Act} {w:World} (hi:l[i]?=some oi)
  (hs:Region.noSelect l.toArray=true) (hf:Region.free md l.toArray listed i=true) (hr:(Region.ready md l.toArray listed).contains i=true) (hQ:∀ c a w,Q (.panic c) (a.put oi.dst v) w→Q (.panic c) a w)
  (hw:Region.wanted oi (yielded l.toArray a.tmps)=true) (hv:∀ w,S w→(execOp a.eval oi).run P w=.ok (.value v) w) (hS:S w) (h:wpAnyH P md l.toArray Q S fuel (listed.setIfInBounds i true) (a.put oi.dst v) w):wpAnyH P md l.toArray Q S (fuel + 1) listed a w:=
 wpAnyH_take (by simpa using hi) hs hf hr hQ (Or.inl ⟨hw,hv⟩) hS h
theorem call_on {P:Program} {md:Region.Mode} {l:List Oper} {Q:Exit→Act→World→Prop} {S:World→Prop} {i:Nat} {oi:Oper} {fuel:Nat} {listed:Array Bool} {a:Act} {w:World} (hi:l[i]?=some oi)
  (hr:Region.ready md l.toArray listed=[i]) (hw:Region.wanted oi (yielded l.toArray a.tmps)=true)
  (h:∀ K':Act→World→Prop,Shut (∀ a w,S w→(S w→wpAnyH P md l.toArray Q S fuel (listed.setIfInBounds i true) a w)→K' a w)→Oper.wp P oi a w K' Q):wpAnyH P md l.toArray Q S (fuel + 1) listed a w:=
 wpAnyH_ready hr (by simp) (AllReadyH.cons (by simpa using hi) (fun K hK=>by rw [if_pos hw];exact h K hK) AllReadyH.nil)
theorem tk {P:Program} {md:Region.Mode} {l:List Oper} {Q:Exit→Act→World→Prop} {S:World→Prop} {i:Nat} {oi:Oper} {v:Value} {fuel:Nat} {listed:Array Bool} {a:Act} {w:World} (hi:l[i]?=some oi)
  (hv:∀ w,S w→(execOp a.eval oi).run P w=.ok (.value v) w) (h:wpAnyH P md l.toArray Q S fuel (listed.setIfInBounds i true) (a.put oi.dst v) w) (hS:S w:=by assumption)
  (hs:Region.noSelect l.toArray=true:=by kernel_rfl) (hf:Region.free md l.toArray listed i=true:=by kernel_rfl) (hr:(Region.ready md l.toArray listed).contains i=true:=by kernel_rfl) (hQ:∀ c a w,Q (.panic c) (a.put oi.dst v) w→Q (.panic c) a w:=by exact fun _ _ _ h=>h)
  (hw:Region.wanted oi (yielded l.toArray a.tmps)=true:=by rfl):wpAnyH P md l.toArray Q S (fuel + 1) listed a w:=take_on hi hs hf hr hQ hw hv hS h
theorem tf {P:Program} {md:Region.Mode} {l:List Oper} {Q:Exit→Act→World→Prop} {S:World→Prop} {i:Nat} {oi:Oper} {fuel:Nat} {listed:Array Bool} {a:Act} {w:World} (hi:l[i]?=some oi)
  (h:wpAnyH P md l.toArray Q S fuel (listed.setIfInBounds i true) (a.put oi.dst undef) w) (hS:S w:=by assumption)
  (hs:Region.noSelect l.toArray=true:=by kernel_rfl) (hf:Region.free md l.toArray listed i=true:=by kernel_rfl) (hr:(Region.ready md l.toArray listed).contains i=true:=by kernel_rfl) (hQ:∀ c a w,Q (.panic c) (a.put oi.dst undef) w→Q (.panic c) a w:=by exact fun _ _ _ h=>h)
  (hw:Region.wanted oi (yielded l.toArray a.tmps)=false:=by rfl):wpAnyH P md l.toArray Q S (fuel + 1) listed a w:=take_off hi hs hf hr hQ hw hS h
theorem tkq {P:Program} {md:Region.Mode} {l:List Oper} {Q:Exit→Act→World→Prop} {S:World→Prop} (i:Nat) {oi:Oper} {v:Value} {fuel:Nat} {listed:Array Bool} {a:Act} {w:World} (hi:l[i]?=some oi)
  (h:wpAnyH P md l.toArray Q S fuel (listed.setIfInBounds i true) (a.put oi.dst v) w) (hv:∀ w,S w→(execOp a.eval oi).run P w=.ok (.value v) w:=by (intro W hW;(try dsimp only at hW);go_simp;first | done | with_reducible rfl)) (hS:S w:=by assumption)
  (hs:Region.noSelect l.toArray=true:=by kernel_rfl) (hf:Region.free md l.toArray listed i=true:=by kernel_rfl) (hr:(Region.ready md l.toArray listed).contains i=true:=by kernel_rfl) (hQ:∀ c a w,Q (.panic c) (a.put oi.dst v) w→Q (.panic c) a w:=by exact fun _ _ _ h=>h)
  (hw:Region.wanted oi (yielded l.toArray a.tmps)=true:=by rfl):wpAnyH P md l.toArray Q S (fuel + 1) listed a w:=take_on hi hs hf hr hQ hw hv hS h
theorem tkq2 {P:Program} {md:Region.Mode} {l:List Oper} {Q:Exit→Act→World→Prop} {S:World→Prop} (i:Nat) {oi:Oper} {v:Value} {fuel:Nat} {listed:Array Bool} {a:Act} {w:World} (hi:l[i]?=some oi)
  (h:wpAnyH P md l.toArray Q S fuel (listed.setIfInBounds i true) (a.put oi.dst v) w) (hv:∀ w,S w→(execOp a.eval oi).run P w=.ok (.value v) w:=by (intro W hW;(try dsimp only at hW);obtain ⟨hW1,hW2⟩:=hW;go_simp;first | done | with_reducible rfl)) (hS:S w:=by assumption)
  (hs:Region.noSelect l.toArray=true:=by kernel_rfl) (hf:Region.free md l.toArray listed i=true:=by kernel_rfl) (hr:(Region.ready md l.toArray listed).contains i=true:=by kernel_rfl) (hQ:∀ c a w,Q (.panic c) (a.put oi.dst v) w→Q (.panic c) a w:=by exact fun _ _ _ h=>h)
  (hw:Region.wanted oi (yielded l.toArray a.tmps)=true:=by rfl):wpAnyH P md l.toArray Q S (fuel + 1) listed a w:=take_on hi hs hf hr hQ hw hv hS h
theorem tkq3 {P:Program} {md:Region.Mode} {l:List Oper} {Q:Exit→Act→World→Prop} {S:World→Prop} (i:Nat) {oi:Oper} {v:Value} {fuel:Nat} {listed:Array Bool} {a:Act} {w:World} (hi:l[i]?=some oi)
  (h:wpAnyH P md l.toArray Q S fuel (listed.setIfInBounds i true) (a.put oi.dst v) w) (hv:∀ w,S w→(execOp a.eval oi).run P w=.ok (.value v) w:=by (intro W hW;(try dsimp only at hW);obtain ⟨hW1,hW2,hW3⟩:=hW;go_simp;first | done | with_reducible rfl)) (hS:S w:=by assumption)
  (hs:Region.noSelect l.toArray=true:=by kernel_rfl) (hf:Region.free md l.toArray listed i=true:=by kernel_rfl) (hr:(Region.ready md l.toArray listed).contains i=true:=by kernel_rfl) (hQ:∀ c a w,Q (.panic c) (a.put oi.dst v) w→Q (.panic c) a w:=by exact fun _ _ _ h=>h)
  (hw:Region.wanted oi (yielded l.toArray a.tmps)=true:=by rfl):wpAnyH P md l.toArray Q S (fuel + 1) listed a w:=take_on hi hs hf hr hQ hw hv hS h
theorem tkq4 {P:Program} {md:Region.Mode} {l:List Oper} {Q:Exit→Act→World→Prop} {S:World→Prop} (i:Nat) {oi:Oper} {v:Value} {fuel:Nat} {listed:Array Bool} {a:Act} {w:World} (hi:l[i]?=some oi)
  (h:wpAnyH P md l.toArray Q S fuel (listed.setIfInBounds i true) (a.put oi.dst v) w) (hv:∀ w,S w→(execOp a.eval oi).run P w=.ok (.value v) w:=by (intro W hW;(try dsimp only at hW);obtain ⟨hW1,hW2,hW3,hW4⟩:=hW;go_simp;first | done | with_reducible rfl)) (hS:S w:=by assumption)
  (hs:Region.noSelect l.toArray=true:=by kernel_rfl) (hf:Region.free md l.toArray listed i=true:=by kernel_rfl) (hr:(Region.ready md l.toArray listed).contains i=true:=by kernel_rfl) (hQ:∀ c a w,Q (.panic c) (a.put oi.dst v) w→Q (.panic c) a w:=by exact fun _ _ _ h=>h)
  (hw:Region.wanted oi (yielded l.toArray a.tmps)=true:=by rfl):wpAnyH P md l.toArray Q S (fuel + 1) listed a w:=take_on hi hs hf hr hQ hw hv hS h
theorem tkq5 {P:Program} {md:Region.Mode} {l:List Oper} {Q:Exit→Act→World→Prop} {S:World→Prop} (i:Nat) {oi:Oper} {v:Value} {fuel:Nat} {listed:Array Bool} {a:Act} {w:World} (hi:l[i]?=some oi)
  (h:wpAnyH P md l.toArray Q S fuel (listed.setIfInBounds i true) (a.put oi.dst v) w) (hv:∀ w,S w→(execOp a.eval oi).run P w=.ok (.value v) w:=by (intro W hW;(try dsimp only at hW);obtain ⟨hW1,hW2,hW3,hW4,hW5⟩:=hW;go_simp;first | done | with_reducible rfl)) (hS:S w:=by assumption)
  (hs:Region.noSelect l.toArray=true:=by kernel_rfl) (hf:Region.free md l.toArray listed i=true:=by kernel_rfl) (hr:(Region.ready md l.toArray listed).contains i=true:=by kernel_rfl) (hQ:∀ c a w,Q (.panic c) (a.put oi.dst v) w→Q (.panic c) a w:=by exact fun _ _ _ h=>h)
  (hw:Region.wanted oi (yielded l.toArray a.tmps)=true:=by rfl):wpAnyH P md l.toArray Q S (fuel + 1) listed a w:=take_on hi hs hf hr hQ hw hv hS h
theorem lay:(∀ (a:Act) (v:Value),a.put none v=a)∧(∀ (a:Act) (t:Tmp) (v:Value),a.put (some t) v={ a with tmps:=a.tmps.setIfInBounds t v })∧(∀ (l:List Value) (i:Nat) (v:Value),l.toArray.setIfInBounds i v=(l.set i v).toArray)∧(∀ (l:List Bool) (i:Nat) (v:Bool),l.toArray.setIfInBounds i v=(l.set i v).toArray)
  ∧ (∀ (a b:Value) (l:List Value),(a :: l).set 0 b=b :: l)∧(∀ (a b:Bool) (l:List Bool),(a :: l).set 0 b=b :: l)∧(∀ (a b:Value) (l:List Value) (i:Nat),(a :: l).set (i + 1) b=a :: l.set i b)∧(∀ (a b:Bool) (l:List Bool) (i:Nat),(a :: l).set (i + 1) b=a :: l.set i b):=
 ⟨fun _ _=>rfl,fun _ _ _=>rfl,fun _ _ _=>List.setIfInBounds_toArray ..,fun _ _ _=>List.setIfInBounds_toArray ..,fun _ _ _=>rfl,fun _ _ _=>rfl,fun _ _ _ _=>rfl,fun _ _ _ _=>rfl⟩
theorem pair_on {P:Program} {md:Region.Mode} {l:List Oper} {Q:Exit→Act→World→Prop} {S:World→Prop} {i j:Nat} {oi oj:Oper} {fuel:Nat} {listed:Array Bool} {a:Act} {w:World} (hi:l[i]?=some oi) (hj:l[j]?=some oj)
  (hr:Region.ready md l.toArray listed=[i,j]) (hw:Region.wanted oi (yielded l.toArray a.tmps)=true) (hv:Region.wanted oj (yielded l.toArray a.tmps)=true)
  (h:∀ K':Act→World→Prop,Shut (∀ a w,S w→(S w→wpAnyH P md l.toArray Q S fuel (listed.setIfInBounds i true) a w)→K' a w)→Oper.wp P oi a w K' Q)
  (k:∀ K':Act→World→Prop,Shut (∀ a w,S w→(S w→wpAnyH P md l.toArray Q S fuel (listed.setIfInBounds j true) a w)→K' a w)→Oper.wp P oj a w K' Q):wpAnyH P md l.toArray Q S (fuel + 1) listed a w:=
 wpAnyH_ready hr (by simp) (AllReadyH.cons (by simpa using hi) (fun K hK=>by rw [if_pos hw];exact h K hK) (AllReadyH.cons (by simpa using hj) (fun K hK=>by rw [if_pos hv];exact k K hK) AllReadyH.nil))
end Go.Proofs.YtpdnnmabijmfbaaGreatDoor
namespace Go.Proofs.YtpdnnmabijmfbaaGreatDoor
set_option maxRecDepth 20000
open Go.ChangeShapes Go.WideShapes Go.ChangeAt Go.RowKit Go.Deep
section
variable {H:Type} {enc:TypeId × Value→H} {w:World} {base:Nat} {spare:Nat→Bool} {held:Bool} {fuel:Nat} {cs:List Value} {x:DataW H × List MemPlace}
theorem trod_bytes (h:DataW.trod enc Tryz.prog w base spare held fuel 33 cs=some x):∃ v l,cs=[v]∧Byt w v l:=by
 rcases open_ints Tryz.underlying33 Tryz.underlying5 (by kernel_rfl) h with ⟨rfl,_⟩ | ⟨a,len,cap,zs,rfl,_,hl,hm,hz,_,hcell,hwz⟩
 ·exact ⟨_,[],rfl,Byt.nil w⟩
 ·have hlz:len≤zs.length:=by rw [hz];split <;> omega
  have hlen:((zs.take len).map fun n=>UInt8.ofNat n.toNat).length=len:=by simp;omega
  refine ⟨_,(zs.take len).map fun n=>UInt8.ofNat n.toNat,rfl,some a,cap,by rw [hlen],by omega,hm,fun h0=>?_⟩
  rw [hlen] at h0
  obtain ⟨b,off,spot⟩:=a
  have hc:=hcell 0 (by omega)
  have hspot:spot=none:=by simpa [Addr.add] using World.cell?_spot hc
  subst hspot
  refine ⟨b,off,rfl,?_,fun j hj=>?_⟩
  ·have:=World.block_lt_of_cell? w _ hc
   rw [addr_add] at this
   exact this
  ·rw [hlen] at hj
   have hjz:j < zs.length:=by omega
   have:=hcell j hjz
   rw [addr_add] at this
   rw [this]
   have hw:=hwz zs[j] (List.getElem_mem hjz)
   have hr:0≤zs[j]∧zs[j]≤255:=by simpa [Lit.wf,IntKind.min,IntKind.max,IntKind.signed,IntKind.bits] using hw
   have e:zs.getD j 0=zs[j]:=by simp [hjz]
   rw [e]
   unfold bcell
   congr 2
   simp only [List.getElem_map,List.getElem_take]
   rw [UInt8.toNat_ofNat']
   omega
theorem trod_byte (h:DataW.trod enc Tryz.prog w base spare held fuel 5 cs=some x):∃ c:UInt8,cs=[bcell c]:=by
 obtain ⟨n,rfl,_,hw⟩:=DataW.trod_int Tryz.underlying5 h
 have hr:0≤n∧n≤255:=by simpa [Lit.wf,IntKind.min,IntKind.max,IntKind.signed,IntKind.bits] using hw
 refine ⟨UInt8.ofNat n.toNat,?_⟩
 unfold bcell
 rw [UInt8.toNat_ofNat']
 congr 2
 omega
theorem trod_hash (h:DataW.trod enc Tryz.prog w base spare held fuel 38 cs=some x):∃ l:List UInt8,l.length=32∧cs=bcells l:=by
 have hc:Tryz.prog.cellsOf 5=1:=by kernel_rfl
 have hc2:Tryz.prog.cellsOf 38=32:=by kernel_rfl
 obtain ⟨xs,m,_,_,hlen,hxl,hi⟩:=DataW.trod_array under_hash h
 rw [hc2] at hlen
 rw [hc] at hi
 have hb:∀ i,i < 32→∃ c:UInt8,cs[i]?=some (bcell c):=by
  intro i hi32
  have h1:=hi i hi32
  rw [List.getElem?_eq_getElem (by omega)] at h1
  obtain ⟨c,hcs⟩:=trod_byte h1
  refine ⟨c,?_⟩
  have h2:=congrArg (fun l=>l[0]?) hcs
  simpa [List.getElem?_take,List.getElem?_drop] using h2
 refine ⟨cs.map fun v=>match v with | .int _ n=>UInt8.ofNat n.toNat | _=>0,by simpa using hlen,?_⟩
 apply List.ext_getElem?
 intro i
 by_cases h32:i < 32
 ·obtain ⟨c,hci⟩:=hb i h32
  have hlt:i < cs.length:=by omega
  rw [hci]
  rw [List.getElem?_eq_getElem hlt] at hci
  injection hci with hci
  simp only [bcells,List.map_map,List.getElem?_map,List.getElem?_eq_getElem hlt,Option.map_some,hci,Function.comp]
  simp [bcell]
 ·rw [List.getElem?_eq_none (by omega),List.getElem?_eq_none (by simp [bcells];omega)]
end
end Go.Proofs.YtpdnnmabijmfbaaGreatDoor
namespace Go.Proofs.YtpdnnmabijmfbaaGreatDoor
set_option maxRecDepth 20000
open Go.RowKit
def opOff (o:Op) (_:Nat):Op:=o
section
variable (n:Nat) (b:Bool) (d:Option Tmp) (ty:TypeId) (pos:String) (af:Array Edge)
theorem off_move (x:Operand):(⟨d,.move x,ty,pos,af,some (n,b)⟩:Oper)=⟨d,opOff (.move x) 0,ty,pos,af,some (n,b)⟩:=rfl
theorem off_addr (t:TypeId) (x:Operand) (k:Nat):(⟨d,.fieldAddr t x k,ty,pos,af,some (n,b)⟩:Oper)=⟨d,opOff (.fieldAddr t x k) 0,ty,pos,af,some (n,b)⟩:=rfl
theorem off_load (t:TypeId) (x:Operand):(⟨d,.load t x,ty,pos,af,some (n,b)⟩:Oper)=⟨d,opOff (.load t x) 0,ty,pos,af,some (n,b)⟩:=rfl
theorem off_bin (o:BinOp) (t:TypeId) (x y:Operand) (u:TypeId):(⟨d,.binOp o t x y u,ty,pos,af,some (n,b)⟩:Oper)=⟨d,opOff (.binOp o t x y u) 0,ty,pos,af,some (n,b)⟩:=rfl
theorem off_un (o:UnOp) (t:TypeId) (x:Operand):(⟨d,.unOp o t x,ty,pos,af,some (n,b)⟩:Oper)=⟨d,opOff (.unOp o t x) 0,ty,pos,af,some (n,b)⟩:=rfl
theorem off_pick (x y z:Operand):(⟨d,.pick x y z,ty,pos,af,some (n,b)⟩:Oper)=⟨d,opOff (.pick x y z) 0,ty,pos,af,some (n,b)⟩:=rfl
theorem off_slice (t:TypeId) (x:Operand) (i j k:Option Operand):(⟨d,.slice t x i j k,ty,pos,af,some (n,b)⟩:Oper)=⟨d,opOff (.slice t x i j k) 0,ty,pos,af,some (n,b)⟩:=rfl
theorem off_call (c:Call):(⟨d,.call c,ty,pos,af,some (n,b)⟩:Oper)=⟨d,opOff (.call c) 0,ty,pos,af,some (n,b)⟩:=rfl
end
theorem wpStill_off {P:Program} {ops:Array Oper} {w:World} {Q:Act→Prop} {o:Oper} {rest:List Oper} {a:Act} (h:Region.wanted o (yielded ops a.tmps)=false) (k:wpStill P ops w Q rest (a.put o.dst undef)):wpStill P ops w Q (o :: rest) a:=by
 unfold wpStill
 rw [h,if_neg (by decide)]
 exact k
end Go.Proofs.YtpdnnmabijmfbaaGreatDoor
namespace Go.Proofs.YtpdnnmabijmfbaaGreatDoor
set_option maxRecDepth 20000
open Go.RowKit
theorem wpList_append_bare {ops:Array Oper} {rest:List Oper} {o:Oper} {a:Act} {Q:Exit→Act→World→Prop} {w:World} (hgd:o.guard=none) (s y:Operand)
  (ho:o.op=.call { callee:=.builtin .append,args:=#[s,y],argTypes:=#[33,33] })
  {A:Option Addr} {x:Value} {m:List UInt8} (hes:a.eval s=.slice A 0 0) (hey:a.eval y=x) (hx:Byt w x m) (h0:0 < m.length) (hs:m.length≤140737488355328)
  (h:∀ v' w',Own w.heap.size w' v' m→w.grownBy w' none→wpList Tryz.prog ops Q rest (a.put o.dst v') w'):
  wpList Tryz.prog ops Q (o :: rest) a w:=by
 obtain ⟨i0,hi,hz0,hz1,hz2⟩:=info_parts info_u8
 obtain ⟨A2,c,rfl,hmc,hcm,hr⟩:=hx
 obtain ⟨b,off,rfl,_,hc⟩:=hr h0
 refine wpList_append_grows w hgd s y 33 ho 5 i0 (.int .u8 0) 1 1 under_bytes hi hz0 hz1 hz2 rfl (by omega) A 0 0 [] hes (fun _=>⟨rfl,rfl⟩) rfl (by intro _ _ _ _ h;simp at h) ⟨b,off,none⟩ m.length c (bcells m) hey (by simp [bcells]) ?_ (bcells_one m) (by omega) (by omega) (by omega) ?_
 ·intro j u hu
  obtain ⟨hj,rfl⟩:=bcells_get m j u hu
  rw [addr_add]
  exact hc j hj
 ·intro v' w' hown hg
  refine h v' w' ?_ hg
  rw [Nat.zero_add,List.nil_append] at hown
  exact hown
end Go.Proofs.YtpdnnmabijmfbaaGreatDoor
