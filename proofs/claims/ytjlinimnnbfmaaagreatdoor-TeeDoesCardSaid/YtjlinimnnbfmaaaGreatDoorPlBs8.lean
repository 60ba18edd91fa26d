/-
  TxCodeKey TxCodePut: what each of them says stands at its head.
-/
import Derived.Great.BuildSlice
import Derived.Test.YtjlinimnnbfmaaaGreatDoorPlBs3
import Derived.Test.YtjlinimnnbfmaaaGreatDoorPlBs5
set_option maxRecDepth 20000
set_option maxHeartbeats 6400000
namespace Go.Proofs.YtjlinimnnbfmaaaGreatDoor
open Go.RowKit Go.Proofs.Tryz
section
noncomputable def qE (v : Value) (w : World) : Result Next := Sem.run prog (execOp (fun _ => v) { dst := none, op := .load 38 (.tmp 0), type := 0, pos := "", after := #[], guard := none }) w
theorem zf (r:Operand->Value) (x:Operand) (dst:Option Tmp) (ty:TypeId) (pos:String) (after:Array Edge) (guard:Option (Nat×Bool)) (w:World):
  Sem.run prog (execOp r { dst:=dst,op:=.load 38 x,type:=ty,pos:=pos,after:=after,guard:=guard }) w=qE (r x) w:=rfl
noncomputable def YU (p v:Value) (w:World):Result Next:=Sem.run prog (execOp (fun x=>match x with
 | .tmp 0=>p
 | _ => v) { dst := none, op := .store 38 (.tmp 0) (.tmp 1), type := 0, pos := "", after := #[], guard := none }) w
theorem YB (r:Operand->Value) (x y:Operand) (dst:Option Tmp) (ty:TypeId) (pos:String) (after:Array Edge) (guard:Option (Nat×Bool)) (w:World):
  Sem.run prog (execOp r { dst:=dst,op:=.store 38 x y,type:=ty,pos:=pos,after:=after,guard:=guard }) w=YU (r x) (r y) w:=rfl
def YF (w:World) (g:Nat) (h:List UInt8):World:=w.setRow g (z2 h)
theorem z0f {w:World}{g:Nat}{t:TypeId}{h:List UInt8} (hg:w.heap[g]?=some (.cells (z2 h) t (0,0))) (hl:h.length=32):qE (.pointer (some ⟨g,0,none⟩)) w=.ok (.value (.agg (z2 h))) w:=by
 have:=run_loadVar_row (P:=prog) w g t 38 (z2 h) (0,0) _ hg yH rfl (by rw[yG,zH,hl]);unfold qE execOp;simp only[Instr.loadAt,Instr.sureAddr,Sem.run_bind,Sem.run_pure,Result.andThen_ok,this]
theorem Kv {w:World}{g:Nat}{t:TypeId}{h h':List UInt8} (hg:w.heap[g]?=some (.cells (z2 h) t (0,0))) (hl:h.length=32) (F:h'.length=32):
  YU (.pointer (some ⟨g,0,none⟩)) (.agg (z2 h')) w=.ok .skip (YF w g h'):=by
 have:=run_storeVar_row (P:=prog) w g t 38 (z2 h) (z2 h') hg (by rw[yG,zH,F]) (by rw[zH,zH,hl,F]) (ZF _);unfold YU execOp;simp only[Instr.storeAt,Instr.sureAddr,Sem.run_bind,Sem.run_pure,Result.andThen_ok,this];rfl
theorem jw (w:World) {g k:Nat} (h:List UInt8) (F:k≠g):(YF w g h).heap[k]?=w.heap[k]?:=setRow_other w g k _ F
theorem z7U {w:World}{g:Nat}{t:TypeId}{cs:Array Value}{h:List UInt8} (hg:w.heap[g]?=some (.cells cs t (0,0))):(YF w g h).heap[g]?=some (.cells (z2 h) t (0,0)):=setRow_heap w g _ _ t _ hg
theorem z5F {B g:Nat}{a w:World}{h:List UInt8} (F:Below B a w) (hg:B<=g):Below B a (YF w g h):=below_setRow F hg _
theorem z7V:prog.underlying 175=some (.struct (prog.fieldsOf 175)):=by kernel_rfl
theorem z9y:(prog.info? 175).map (·.size)=some 3:=by kernel_rfl
theorem z49 {K:Func}{p q:Tmp} (h:K.results=#[.cell p 175,.cell q 38]) (tmps:Array Value) (w:World) (F G:Nat) (J M:TypeId) (a b c:Value) (I:List UInt8)
  (hp:tmps.getD p undef=.pointer (some ⟨F,0,none⟩)) (hq:tmps.getD q undef=.pointer (some ⟨G,0,none⟩)) (N:w.heap[F]?=some (.cells #[a,b,c] J (0,0))) (O:w.heap[G]?=some (.cells (z2 I) M (0,0))) (hl:I.length=32):
  (results K tmps).run prog w=.ok (.tuple #[.agg #[a,b,c],.agg (z2 I)]) w:=by
 have a0:tmps[p]?.getD undef=.pointer (some ⟨F,0,none⟩):=by simpa using hp
 have a1:tmps[q]?.getD undef=.pointer (some ⟨G,0,none⟩):=by simpa using hq
 have r1:=run_loadVar_row (P:=prog) w F J 175 #[a,b,c] (0,0) _ N z7V rfl (by rw[z9y];rfl);have r2:=run_loadVar_row (P:=prog) w G M 38 (z2 I) (0,0) _ O yH rfl (by rw[yG,zH,hl]);simp[results,h,a0,a1,asAddr,r1,r2]
def VE (w:World) (A:Option Addr) (c:Nat) (l:List UInt8) (F:List UInt8×Nat×Bool) (e:Ending) (w':World):Prop:=
 e=.returned (.tuple #[rv A l.length c F.2.1 (!F.2.2),.agg (z2 F.1)])/\Below w.heap.size w w'
def Good (I G:Nat) (F:List UInt8) (w:World):Prop:=w.heap[I]?=some (.cells (z2 zi) 38 (0,0))/\w.heap[G]?=some (.cells (z2 F) 38 (0,0))
theorem Good.drew {F I:Nat}{G:List UInt8}{w:World} (h:Good F I G w):Good F I G w.drew:=h
theorem Good.set {F G g:Nat}{I:List UInt8}{w:World} (h:Good F G I w) (K:F≠g) (J:G≠g) (i:Nat) (u:Value):Good F G I (w.setCell ⟨g,i,none⟩ u):=
 ⟨(heap_setCell_other _ _ _ _ K).trans h.1,(heap_setCell_other _ _ _ _ J).trans h.2⟩
theorem z2O {a b:Nat} (h:a≠b):some a≠some b:=fun e=>h (Option.some.inj e)
theorem z7W (w:World) (F J G I:Obj):((((w.alloc F).alloc J).alloc G).alloc I).heap.size=w.heap.size+4:=by simp
theorem zcC (w:World) (F J G I:Obj):((((w.alloc F).alloc J).alloc G).alloc I).heap[w.heap.size]?=some F:=by
 rw[Below.heap_alloc _ _ _ (by simp;omega),Below.heap_alloc _ _ _ (by simp;omega),Below.heap_alloc _ _ _ (by simp)];exact Xh w F
theorem zcD (w:World) (G F I J:Obj):((((w.alloc G).alloc F).alloc I).alloc J).heap[w.heap.size+1]?=some F:=by
 rw[Below.heap_alloc _ _ _ (by simp),Below.heap_alloc _ _ _ (by simp)];have:=Xh (w.alloc G) F
 simpa using this
theorem zcE (w:World) (G I F J:Obj):((((w.alloc G).alloc I).alloc F).alloc J).heap[w.heap.size+1+1]?=some F:=by
 rw[Below.heap_alloc _ _ _ (by simp)];have:=Xh ((w.alloc G).alloc I) F
 simpa using this
theorem z5G (w:World) (F J G I:Obj):Below w.heap.size w ((((w.alloc F).alloc J).alloc G).alloc I):=
 ((Ba.alloc (by simp) _).alloc (by simp;omega) _).alloc (by simp;omega) _
structure zdn (w w5:World) (C0:Array Value):Prop where
 below:Below w.heap.size w w5
 b0:w5.heap[w.heap.size]?=some (.cells C0 175 (0,0))
 b1:w5.heap[w.heap.size+1]?=some (.cells #[.slice none 0 0,.int .i64 0,.bool false] 175 (0,0))
 b2:w5.heap[w.heap.size+1+1]?=some (.cells (z2 zi) 38 (0,0))
 b3:w5.heap[w.heap.size+1+1+1]?=some (.cells (z2 zi) 38 (0,0))
theorem z9z {w w5:World}{C0:Array Value}
  (F:((((w.alloc (.cells C0 175)).alloc (.cells #[.slice none 0 0,.int .i64 0,.bool false] 175)).alloc (.cells (z2 zi) 38)).alloc (.cells (z2 zi) 38)).grownBy w5 (some (((w.alloc (.cells C0 175)).alloc (.cells #[.slice none 0 0,.int .i64 0,.bool false] 175)).alloc (.cells (z2 zi) 38)).heap.size))
  (K:Hd (w5.heap[(((w.alloc (.cells C0 175)).alloc (.cells #[.slice none 0 0,.int .i64 0,.bool false] 175)).alloc (.cells (z2 zi) 38)).heap.size]?=some (.cells (z2 zi) 38 (0,0)))):zdn w w5 C0:=by
 have J:(((w.alloc (.cells C0 175)).alloc (.cells #[.slice none 0 0,.int .i64 0,.bool false] 175)).alloc (.cells (z2 zi) 38)).heap.size=w.heap.size+1+1+1:=by simp
 have I:=K.o;rw[J]at F I;have G:=z7W w (.cells C0 175) (.cells #[.slice none 0 0,.int .i64 0,.bool false] 175) (.cells (z2 zi) 38) (.cells (z2 zi) 38);refine⟨(z5G _ _ _ _ _).grown F (by rw[G];omega) (fun q hq=>by have:=Option.some.inj hq;omega),?_,?_,?_,I⟩
 ·exact(F.block _ (by rw[G];omega) (z2O (by omega))).trans (zcC _ _ _ _ _)
 ·exact(F.block _ (by rw[G];omega) (z2O (by omega))).trans (zcD _ _ _ _ _)
 ·exact(F.block _ (by rw[G];omega) (z2O (by omega))).trans (zcE _ _ _ _ _)
theorem YV {w F:World}{A:Option Addr}{c p:Nat}{wr:Bool}{l G:List UInt8}{I:Array Value}{a:Act} (M:F.heap[w.heap.size+1]?=some (.cells I 175 (0,0))) (_hs:w.heap.size<=F.heap.size)
  (N:I.size=3) (a1:F.heap[w.heap.size+1+1]?=some (.cells (z2 zi) 38 (0,0))) (hl:G.length=32) (K:Below w.heap.size w F)
  (hp:a.tmps.getD 2 undef=.pointer (some ⟨w.heap.size+1,0,none⟩)) (hq:a.tmps.getD 3 undef=.pointer (some ⟨w.heap.size+1+1,0,none⟩)) (a0:a.defers=[]):
  bodyPost prog Tryz.f109 (VE w A c l (G,p,!wr)) .ret a
   (YF (((F.setCell ⟨w.heap.size+1,0,none⟩ (.slice A l.length c)).setCell ⟨w.heap.size+1,1,none⟩ (.int .i64 (p:Int))).setCell ⟨w.heap.size+1,2,none⟩ (.bool wr)).drew (w.heap.size+1+1) G):=by
 have O:(YF (((F.setCell ⟨w.heap.size+1,0,none⟩ (.slice A l.length c)).setCell ⟨w.heap.size+1,1,none⟩ (.int .i64 (p:Int))).setCell ⟨w.heap.size+1,2,none⟩ (.bool wr)).drew (w.heap.size+1+1) G).heap[w.heap.size+1]?=some (.cells #[.slice A l.length c,.int .i64 (p:Int),.bool wr] 175 (0,0)):=by
  rw[jw _ _ (by omega)];have:=jm (jm (jm M 0 (.slice A l.length c)) 1 (.int .i64 (p:Int))) 2 (.bool wr);have e:((I.setIfInBounds 0 (.slice A l.length c)).setIfInBounds 1 (.int .i64 (p:Int))).setIfInBounds 2 (.bool wr)=#[.slice A l.length c,.int .i64 (p:Int),.bool wr]:=by
   match I,N with
   |⟨[a,b,c]⟩,_=>rfl
  rw[e]at this;exact this
 have J:(((F.setCell ⟨w.heap.size+1,0,none⟩ (.slice A l.length c)).setCell ⟨w.heap.size+1,1,none⟩ (.int .i64 (p:Int))).setCell ⟨w.heap.size+1,2,none⟩ (.bool wr)).drew.heap[w.heap.size+1+1]?=some (.cells (z2 zi) 38 (0,0)):=
  (heap_setCell_other _ _ _ _ (by simp)).trans ((heap_setCell_other _ _ _ _ (by simp)).trans ((heap_setCell_other _ _ _ _ (by simp)).trans a1))
 refine Bp (z49 rfl _ _ _ _ _ _ _ _ _ G hp hq O (z7U J) hl) a0 ⟨by unfold rv;simp,?_⟩;exact z5F (Below.drew (((K.setCell (by simp) _).setCell (by simp) _).setCell (by simp) _)) (by omega)
attribute [local go_sem ↓] zf YB
theorem z1i (A:Option Addr) (c p:Nat) (l:List UInt8) (w:World):
  Calls prog 109 #[.agg #[.slice A l.length c,.int .i64 (p:Int),.bool true]] w (VE w A c l (zi,p,false)):=by
 go_enter func109,ntmps109
 go_wp2_with (first
  |(refine yf rfl rfl ?_)
  |(refine yg (h:=zi) (h':=zi) rfl _ _ rfl rfl rfl (Xh _ _) zw zw ?_;intro w5 a0 a2 a7;have F:=z9z a0 a2;clear a0 a2 a7;have N:=z7 F.b0 0;have K:=z7 F.b0 1;have O:=z7 F.b0 2;have a6:=zz F.b0 2;have M:=z7 F.b1 0;have i1:=z7 F.b1 1;have i2:=z7 F.b1 2;have a5:=zz F.b1 0;have a1:=zz F.b1 1;have a3:=zz F.b1 2;simp at N K O M i1 i2))
 have a4:Below w.heap.size w (w5.setCell ⟨w.heap.size,2,none⟩ (.bool true)):=F.below.setCell (Nat.le_refl _) _;have I:Good (w.heap.size+1+1) (w.heap.size+1+1+1) zi (w5.setCell ⟨w.heap.size,2,none⟩ (.bool true)):=Good.set ⟨F.b2,F.b3⟩ (by omega) (by omega) _ _;have G:(w5.setCell ⟨w.heap.size,2,none⟩ (.bool true)).heap[w.heap.size+1]?=_:=(heap_setCell_other _ _ _ _ (by simp)).trans F.b1;have J:=jm F.b0 2 (.bool true);generalize w5.setCell ⟨w.heap.size,2,none⟩ (.bool true)=ag at *;clear N K O a6 M i1 i2 a5 a1 a3;have N:=z7 J 0;have K:=z7 J 1;have O:=z7 J 2;have M:=z7 G 0;have i1:=z7 G 1;have i2:=z7 G 2;have a5:=zz G 0;have a1:=zz G 1;have a3:=zz G 2;simp at N K O M i1 i2;have ah:=z0 J;have a9:=z0 G;have af:=z0 F;have r1:∀w':World,Good (w.heap.size+1+1) (w.heap.size+1+1+1) zi w'->qE (.pointer (some ⟨w.heap.size+1+1+1,0,none⟩)) w'=.ok (.value (.agg (z2 zi))) w':=fun w' h=>z0f h.2 zw;have r2:∀w':World,Good (w.heap.size+1+1) (w.heap.size+1+1+1) zi w'->YU (.pointer (some ⟨w.heap.size+1+1,0,none⟩)) (.agg (z2 zi)) w'=.ok .skip (YF w' (w.heap.size+1+1) zi):=fun w' h=>Kv h.1 zw zw;have r3:∀(w':World) (i:Nat) (u:Value),Good (w.heap.size+1+1) (w.heap.size+1+1+1) zi w'->Good (w.heap.size+1+1) (w.heap.size+1+1+1) zi (w'.setCell ⟨w.heap.size+1,i,none⟩ u):=fun w' i u h=>h.set (by omega) (by omega) i u;have r4:∀w':World,Good (w.heap.size+1+1) (w.heap.size+1+1+1) zi w'->Good (w.heap.size+1+1) (w.heap.size+1+1+1) zi w'.drew:=fun w' h=>h;have r5:∀(w':World) (j:Nat),(YF w' (w.heap.size+1+1) zi).cell? ⟨w.heap.size+1,j,none⟩=w'.cell? ⟨w.heap.size+1,j,none⟩:=fun w' j=>World.cell?_of_block (jw w' zi (by simp));have r6:∀(w':World) (j:Nat),(YF w' (w.heap.size+1+1) zi).frozen? ⟨w.heap.size+1,j,none⟩=w'.frozen? ⟨w.heap.size+1,j,none⟩:=fun w' j=>World.frozen?_of_block (jw w' zi (by simp));have a8:=r2 _ (r4 _ (r3 _ 2 (.bool true) (r3 _ 1 (.int .i64 (p:Int)) (r3 _ 0 (.slice A l.length c) I))));have aa:=r2 _ (r4 _ I);have ae:=r1 _ (r4 _ I);have ad:=r1 _ (r4 _ (r3 _ 2 (.bool true) (r3 _ 1 (.int .i64 (p:Int)) (r3 _ 0 (.slice A l.length c) I))));have ab:∀(w':World) (j:Nat),(YF w' (w.heap.size+1+1) zi).cell? ⟨w.heap.size,j,none⟩=w'.cell? ⟨w.heap.size,j,none⟩:=fun w' j=>World.cell?_of_block (jw w' zi (by simp;omega));clear J G F r1 r2 r3 r4;go_region;all_goals clear r5 r6 ab aa a8 ae ad
 go_wp2_with fail;exact YV (wr:=true) a9.o a4.size rfl I.1 zw a4 rfl rfl rfl
theorem z1j (A:Option Addr) (c p:Nat) (l:List UInt8) (w:World) (_hl:l.length<=1099511627776) (hp:p<=l.length) (ah:(l.length:Int) - (p:Int)<32):
  Calls prog 109 #[.agg #[.slice A l.length c,.int .i64 (p:Int),.bool false]] w (VE w A c l (zi,p,false)):=by
 go_enter func109,ntmps109
 go_wp2_with (first
  |(refine yf rfl rfl ?_)
  |(refine yg (h:=zi) (h':=zi) rfl _ _ rfl rfl rfl (Xh _ _) zw zw ?_;intro w5 a0 a2 a7;have F:=z9z a0 a2;clear a0 a2 a7;have N:=z7 F.b0 0;have K:=z7 F.b0 1;have O:=z7 F.b0 2;have a6:=zz F.b0 2;have M:=z7 F.b1 0;have i1:=z7 F.b1 1;have i2:=z7 F.b1 2;have a5:=zz F.b1 0;have a1:=zz F.b1 1;have a3:=zz F.b1 2;simp at N K O M i1 i2))
 have a4:Below w.heap.size w (w5.setCell ⟨w.heap.size,2,none⟩ (.bool true)):=F.below.setCell (Nat.le_refl _) _;have I:Good (w.heap.size+1+1) (w.heap.size+1+1+1) zi (w5.setCell ⟨w.heap.size,2,none⟩ (.bool true)):=Good.set ⟨F.b2,F.b3⟩ (by omega) (by omega) _ _;have G:(w5.setCell ⟨w.heap.size,2,none⟩ (.bool true)).heap[w.heap.size+1]?=_:=(heap_setCell_other _ _ _ _ (by simp)).trans F.b1;have J:=jm F.b0 2 (.bool true);generalize w5.setCell ⟨w.heap.size,2,none⟩ (.bool true)=ag at *;clear N K O a6 M i1 i2 a5 a1 a3;have N:=z7 J 0;have K:=z7 J 1;have O:=z7 J 2;have M:=z7 G 0;have i1:=z7 G 1;have i2:=z7 G 2;have a5:=zz G 0;have a1:=zz G 1;have a3:=zz G 2;simp at N K O M i1 i2;have ai:=z0 J;have a9:=z0 G;have af:=z0 F;have r1:∀w':World,Good (w.heap.size+1+1) (w.heap.size+1+1+1) zi w'->qE (.pointer (some ⟨w.heap.size+1+1+1,0,none⟩)) w'=.ok (.value (.agg (z2 zi))) w':=fun w' h=>z0f h.2 zw;have r2:∀w':World,Good (w.heap.size+1+1) (w.heap.size+1+1+1) zi w'->YU (.pointer (some ⟨w.heap.size+1+1,0,none⟩)) (.agg (z2 zi)) w'=.ok .skip (YF w' (w.heap.size+1+1) zi):=fun w' h=>Kv h.1 zw zw;have r3:∀(w':World) (i:Nat) (u:Value),Good (w.heap.size+1+1) (w.heap.size+1+1+1) zi w'->Good (w.heap.size+1+1) (w.heap.size+1+1+1) zi (w'.setCell ⟨w.heap.size+1,i,none⟩ u):=fun w' i u h=>h.set (by omega) (by omega) i u;have r4:∀w':World,Good (w.heap.size+1+1) (w.heap.size+1+1+1) zi w'->Good (w.heap.size+1+1) (w.heap.size+1+1+1) zi w'.drew:=fun w' h=>h;have r5:∀(w':World) (j:Nat),(YF w' (w.heap.size+1+1) zi).cell? ⟨w.heap.size+1,j,none⟩=w'.cell? ⟨w.heap.size+1,j,none⟩:=fun w' j=>World.cell?_of_block (jw w' zi (by simp));have r6:∀(w':World) (j:Nat),(YF w' (w.heap.size+1+1) zi).frozen? ⟨w.heap.size+1,j,none⟩=w'.frozen? ⟨w.heap.size+1,j,none⟩:=fun w' j=>World.frozen?_of_block (jw w' zi (by simp));have a8:=r2 _ (r4 _ (r3 _ 2 (.bool true) (r3 _ 1 (.int .i64 (p:Int)) (r3 _ 0 (.slice A l.length c) I))));have aa:=r2 _ (r4 _ I);have ae:=r1 _ (r4 _ I);have ad:=r1 _ (r4 _ (r3 _ 2 (.bool true) (r3 _ 1 (.int .i64 (p:Int)) (r3 _ 0 (.slice A l.length c) I))));have ab:∀(w':World) (j:Nat),(YF w' (w.heap.size+1+1) zi).cell? ⟨w.heap.size,j,none⟩=w'.cell? ⟨w.heap.size,j,none⟩:=fun w' j=>World.cell?_of_block (jw w' zi (by simp;omega));clear J G F r1 r2 r3 r4;go_region;all_goals clear r5 r6 ab aa a8 ae ad
 go_wp2_with fail;exact YV (wr:=true) a9.o a4.size rfl I.1 zw a4 rfl rfl rfl
def YW (l:List UInt8) (p i:Nat):List UInt8:=(l.drop p).take i ++ List.replicate (32 - i) 0
theorem z7X {l:List UInt8}{p i:Nat} (F:i<=32) (hp:p+32<=l.length):(YW l p i).length=32:=by
 simp[YW];omega
theorem z7Y {l:List UInt8}{p i:Nat} (J:i<32) (hp:p+32<=l.length):(z2 (YW l p i)).setIfInBounds i (z3 (l[p+i]'(by omega)))=z2 (YW l p (i+1)):=by
 have F:(z4 ((l.drop p).take i)).length=i:=by rw[z6,List.length_take,List.length_drop];omega
 have I:YW l p i=(l.drop p).take i ++ (0 :: List.replicate (32 - (i+1)) 0):=by
  unfold YW;rw[show 32 - i=32 - (i+1)+1 from by omega,List.replicate_succ]
 have G:YW l p (i+1)=(l.drop p).take i ++ ((l[p+i]'(by omega)) :: List.replicate (32 - (i+1)) 0):=by
  unfold YW;have z0:i<(l.drop p).length:=by rw[List.length_drop];omega
  rw[List.take_succ_eq_append_getElem z0,List.getElem_drop,List.append_assoc];rfl
 rw[I,G];unfold z2;rw[List.setIfInBounds_toArray]
 congr 1
 rw[jv,jv,List.set_append,if_neg (by omega),F,Nat.sub_self];rfl
theorem z2P (A:Option Addr) (c p:Nat) (l:List UInt8) (w:World) (an:zP w (.slice A l.length c) l) (hl:l.length<=1099511627776) (hp:p+32<=l.length):
  Calls prog 109 #[.agg #[.slice A l.length c,.int .i64 (p:Int),.bool false]] w (VE w A c l ((l.drop p).take 32,p+32,true)):=by
 obtain⟨_,aS,av,ai⟩:=an.at_;unfold maxLen at av;obtain⟨b,a1,rfl,aE,ah⟩:=ai (by omega);have ar:=z0 ah;have aV:¬(l.length:Int) - (p:Int)<32:=by omega
 clear ah ai an;go_enter func109,ntmps109
 go_wp2_with (first
  |(refine yf rfl rfl ?_)
  |(refine yg (h:=zi) (h':=zi) rfl _ _ rfl rfl rfl (Xh _ _) zw zw ?_;intro w5 ab af aN;have a0:=z9z ab af;clear ab af aN;have I:=z7 a0.b0 0;have K:=z7 a0.b0 1;have J:=z7 a0.b0 2;simp at I K J))
 have O:=z0 a0;clear I K J a0;go_loopw [5] (fun a7 wr=>∃i:Nat,i<=32/\a7=.int .i64 i/\Below w.heap.size w wr/\Hd (wr.heap[w.heap.size]?=some (.cells #[.slice (some ⟨b,a1,none⟩) l.length c,.int .i64 (p:Int),.bool false] 175 (0,0)))/\Hd (wr.heap[w.heap.size+1]?=some (.cells #[.slice none 0 0,.int .i64 0,.bool false] 175 (0,0)))/\Hd (wr.heap[w.heap.size+1+1]?=some (.cells (z2 zi) 38 (0,0)))/\Hd (wr.heap[w.heap.size+1+1+1]?=some (.cells (z2 (YW l p i)) 38 (0,0)))) (fun a7 _=>32 - (intOf a7).toNat)
 case atStart=>exact⟨0,by omega,rfl,O.o.below,z0 O.o.b0,z0 O.o.b1,z0 O.o.b2,z0 O.o.b3⟩
 case round=>
  obtain⟨i,aG,rfl,a6,M,ao,am,a4⟩:=hrel;have I:=z7 M.o 0;have K:=z7 M.o 1;have J:=z7 M.o 2;simp at I K J;by_cases aF:i<32
  ·have ay:p+i<l.length:=by omega
   have aa:=(a6.cell (p:=⟨b,a1+(p+i),none⟩) aE).trans (ar.o (p+i) ay);obtain⟨x,aQ,b4,ak⟩:∃x:Int,0<=x/\x<=255/\Hd ((l[p+i].toNat:Int)=x):=⟨_,(yW l[p+i]).1,(yW l[p+i]).2,z0 rfl⟩
   unfold z3 at aa;rw[ak.o]at aa;have aR:=z7X (l:=l) (p:=p) (i:=i) aG hp;have aB:=z7 a4.o i;rw[ZG _ i (by omega)]at aB;have aP:=zz a4.o i;have aT:(i:Int)<32:=by omega
   have aW:(p:Int)+(i:Int)<(l.length:Int):=by omega
   have a5:=jm a4.o i (.int .u8 x);have a2:=z7Y (l:=l) (p:=p) aF hp;unfold z3 at a2;rw[ak.o]at a2;rw[a2]at a5;have ap:=(heap_setCell_other wr ⟨w.heap.size+1+1+1,i,none⟩ w.heap.size (.int .u8 x) (by first|(simp;done)|(simp;omega))).trans M.o;have aq:=(heap_setCell_other wr ⟨w.heap.size+1+1+1,i,none⟩ (w.heap.size+1) (.int .u8 x) (by first|(simp;done)|(simp;omega))).trans ao.o;have ad:=(heap_setCell_other wr ⟨w.heap.size+1+1+1,i,none⟩ (w.heap.size+1+1) (.int .u8 x) (by first|(simp;done)|(simp;omega))).trans am.o;have au:Below w.heap.size w (wr.setCell ⟨w.heap.size+1+1+1,i,none⟩ (.int .u8 x)):=a6.setCell (by simp;omega) _;have aK:=z0 ap;have aO:=z0 aq;have aH:=z0 ad;have aA:=z0 a5;clear a2 ap aq ad a5;go_wp2;go_roundw
   case rel=>exact⟨i+1,by omega,by go_num,au,aK,aO,aH,aA⟩
   case measure=>simp[intOf];omega
  ·obtain rfl:i=32:=by omega
   have aM:=zz M.o 1;have aL:YW l p 32=(l.drop p).take 32:=by simp[YW]
   have a3:((l.drop p).take 32).length=32:=by rw[List.length_take,List.length_drop];omega
   have hq:IntKind.i64.wrap ((p:Int)+32)=(p:Int)+32:=IntWalk.i64_in _ (by omega);have al:Below w.heap.size w (wr.setCell ⟨w.heap.size,1,none⟩ (.int .i64 ((p:Int)+32))):=a6.setCell (Nat.le_refl _) _;have a9:=a4.o;rw[aL]at a9;have N:Good (w.heap.size+1+1) (w.heap.size+1+1+1) ((l.drop p).take 32) (wr.setCell ⟨w.heap.size,1,none⟩ (.int .i64 ((p:Int)+32))):=Good.set ⟨am.o,a9⟩ (by omega) (by omega) _ _;have ae:(wr.setCell ⟨w.heap.size,1,none⟩ (.int .i64 ((p:Int)+32))).heap[w.heap.size+1]?=_:=(heap_setCell_other _ _ _ _ (by simp)).trans ao.o;have aj:=jm M.o 1 (.int .i64 ((p:Int)+32));obtain⟨F,ag⟩:=nm ((l.drop p).take 32:List UInt8);rw[ag.o]at N a3;have G:=z0 ae;have a8:=z0 aj;clear a9 ae aj;go_wp2_with fail;generalize wr.setCell ⟨w.heap.size,1,none⟩ (.int .i64 ((p:Int)+32))=aU at *;clear I K J aM;have I:=z7 a8.o 0;have K:=z7 a8.o 1;have J:=z7 a8.o 2;have aD:=z7 G.o 0;have i1:=z7 G.o 1;have i2:=z7 G.o 2;have aZ:=zz G.o 0;have aX:=zz G.o 1;have aY:=zz G.o 2;simp at I K J aD i1 i2;have r1:∀w':World,Good (w.heap.size+1+1) (w.heap.size+1+1+1) F w'->qE (.pointer (some ⟨w.heap.size+1+1+1,0,none⟩)) w'=.ok (.value (.agg (z2 F))) w':=fun w' h=>z0f h.2 a3;have r2:∀w':World,Good (w.heap.size+1+1) (w.heap.size+1+1+1) F w'->YU (.pointer (some ⟨w.heap.size+1+1,0,none⟩)) (.agg (z2 F)) w'=.ok .skip (YF w' (w.heap.size+1+1) F):=fun w' h=>Kv h.1 zw a3;have r3:∀(w':World) (i:Nat) (u:Value),Good (w.heap.size+1+1) (w.heap.size+1+1+1) F w'->Good (w.heap.size+1+1) (w.heap.size+1+1+1) F (w'.setCell ⟨w.heap.size+1,i,none⟩ u):=fun w' i u h=>h.set (by omega) (by omega) i u;have r4:∀w':World,Good (w.heap.size+1+1) (w.heap.size+1+1+1) F w'->Good (w.heap.size+1+1) (w.heap.size+1+1+1) F w'.drew:=fun w' h=>h;have r5:∀(w':World) (j:Nat),(YF w' (w.heap.size+1+1) F).cell? ⟨w.heap.size+1,j,none⟩=w'.cell? ⟨w.heap.size+1,j,none⟩:=fun w' j=>World.cell?_of_block (jw w' F (by simp));have r6:∀(w':World) (j:Nat),(YF w' (w.heap.size+1+1) F).frozen? ⟨w.heap.size+1,j,none⟩=w'.frozen? ⟨w.heap.size+1,j,none⟩:=fun w' j=>World.frozen?_of_block (jw w' F (by simp));have aw:∀(w':World) (j:Nat),(YF w' (w.heap.size+1+1) F).cell? ⟨w.heap.size,j,none⟩=w'.cell? ⟨w.heap.size,j,none⟩:=fun w' j=>World.cell?_of_block (jw w' F (by simp;omega));have ax:=r2 _ (r4 _ (r3 _ 2 (.bool false) (r3 _ 1 (.int .i64 ((p:Int)+32)) (r3 _ 0 (.slice (some ⟨b,a1,none⟩) l.length c) N))));have az:=r2 _ (r4 _ N);have aJ:=r1 _ (r4 _ N);have aI:=r1 _ (r4 _ (r3 _ 2 (.bool false) (r3 _ 1 (.int .i64 ((p:Int)+32)) (r3 _ 0 (.slice (some ⟨b,a1,none⟩) l.length c) N))));clear r1 r2 r3 r4;go_region;clear r5 r6 aw az ax aJ aI;go_wp2_with fail;rw[ag.o];have aC:(p:Int)+32=((p+32:Nat):Int):=by omega
   rw[aC];exact YV (wr:=false) G.o al.size rfl N.1 a3 al rfl rfl rfl
theorem z4a (A:Option Addr) (c p:Nat) (r:Bool) (l:List UInt8) (w:World) (G:zP w (.slice A l.length c) l) (hp:p<=l.length) (hl:l.length<=1099511627776):
  Calls prog 109 #[.agg #[.slice A l.length c,.int .i64 (p:Int),.bool (!r)]] w (VE w A c l (yk l p r)):=by
 cases r with
 |false=>
  have e:yk l p false=(zi,p,false):=by simp[yk,zi]
  rw[e];exact z1i A c p l w
 |true=>
  by_cases F:p+32<=l.length
  ·have e:yk l p true=((l.drop p).take 32,p+32,true):=by simp[yk,F]
   rw[e];exact z2P A c p l w G hl F
  ·have e:yk l p true=(zi,p,false):=by simp[yk,F,zi]
   rw[e];exact z1j A c p l w hl hp (by omega)
end
theorem zD {w:World}{g o:Nat}{h:List UInt8} (F:w.rangeAt g o (z4 h)) (hl:h.length=32):qE (.pointer (some ⟨g,o,none⟩)) w=.ok (.value (.agg (z2 h))) w:=by
 have:=run_loadAt_mid (P:=prog) w g o 38 (z4 h) _ F yH rfl (by rw[yG,z6,hl]);unfold qE execOp;simp only[Sem.run_bind,this,Result.andThen_ok,Sem.run_pure];rfl
def JG (C:Array Value) (o:Nat):List Value->Array Value
 | []=>C
 |v :: r=>JG (C.setIfInBounds o v) (o+1) r
theorem vY {g:Nat}{t:TypeId}:∀(F:List Value) (o:Nat) (w:World) (C:Array Value),w.heap[g]?=some (.cells C t (0,0))->(w.setCells g o F).heap[g]?=some (.cells (JG C o F) t (0,0))
 | [],_,_,_,h=>h
 |v :: r,o,w,C,h=>vY r (o+1) (w.setCell ⟨g,o,none⟩ v) (C.setIfInBounds o v) (jm h o v)
theorem yI:∀(G pre F post:List Value),F.length=G.length->JG (pre ++ (F ++ post)).toArray pre.length G=(pre ++ (G ++ post)).toArray
 | [],pre,F,post,h=>by
  obtain rfl:F=[]:=List.eq_nil_of_length_eq_zero h;rfl
 |v :: r,pre,o :: F,post,h=>by
  have e:(pre ++ (o :: F ++ post)).toArray.setIfInBounds pre.length v=((pre ++ [v]) ++ (F ++ post)).toArray:=by
   simp
  have I:pre.length+1=(pre ++ [v]).length:=by simp
  unfold JG;rw[e,I,yI r (pre ++ [v]) F post (by simpa using h)];simp
 |_ :: _,_,[],_,h=>by cases h
theorem vr {ops:Array Oper}{rest:List Oper}{o:Oper}{a:Act}{w:World}{Q:Exit->Act->World->Prop} (I:o.guard=none) (x y:Operand) (G:o.op=.store 38 x y)
  {g k:Nat} {t:TypeId} {pre F post:List Value} {h:List UInt8} (hx:a.eval x=.pointer (some ⟨g,k,none⟩)) (K:a.eval y=.agg (z2 h)) (hg:w.heap[g]?=some (.cells (pre ++ (F ++ post)).toArray t (0,0))) (M:k=pre.length) (J:F.length=32) (hl:h.length=32)
  (N:∀w',w.grownBy w' (some g)->w'.heap[g]?=some (.cells (pre ++ (z4 h ++ post)).toArray t (0,0))->w'.heap.size=w.heap.size->wpList prog ops Q rest (a.put o.dst undef) w'):wpList prog ops Q (o :: rest) a w:=by
 subst M;refine wpList_store_mid I _ x y G (b:=g) (o:=pre.length) (cells:=z2 h) hx K (fun j O=>⟨?_,zz hg _⟩) (by rw[yG,zH,hl]) (ZF _) ?_
 ·rw[zH,hl]at O;rw[z7 hg,List.getElem?_toArray,List.getElem?_append_right (by omega),Nat.add_sub_cancel_left,List.getElem?_append_left (by omega),List.getElem?_eq_getElem (by omega)];rfl
 ·rw[jM];refine N _ (jg g _ _ _) ?_ (vf g _ _ _);have:=vY (z4 h) pre.length w _ hg;rw[yI (z4 h) pre F post (by rw[z6,hl,J])]at this;exact this
section
def xZ (a:y8):List Value:=[.int .i64 a.bo,.int .i64 a.ki,.int .i64 a.vi,.int .i64 a.ph] ++ (z4 a.ha ++ ([.int .i64 a.pv] ++ (z4 a.pa ++ z4 a.tg)))
def zy (a:y8):Array Value:=(xZ a).toArray
theorem yZ {a:y8} (h:a.Ok):(xZ a).length=101:=by
 have:=h.ha;have:=h.pa;have:=h.tg;unfold xZ;simp only[List.length_append,z6,List.length_cons,List.length_nil];omega
theorem zg {a:y8} (h:a.Ok):(zy a).size=101:=by
 unfold zy;rw[List.size_toArray,yZ h]
def qz (w:World) (g:Nat) (a:y8):Prop:=w.heap[g]?=some (.cells (zy a) 54 (0,0))
section
variable {w w':World}{g:Nat}{a:y8}
theorem qz.new (w:World) (a:y8):qz (w.alloc (.cells (zy a) 54)) w.heap.size a:=Xh w _
theorem qz.lt (h:qz w g a):g<w.heap.size:=Lb h
theorem qz.below {B:Nat} (h:qz w g a) (F:Below B w w') (hg:g<B):qz w' g a:=(F.block g hg).trans h
theorem qz.keep (h:qz w g a) (F:Below w.heap.size w w'):qz w' g a:=h.below F h.lt
theorem qz.free (h:qz w g a) (i:Nat):w.frozen? ⟨g,i,none⟩=false:=zz h i
theorem qz.cell (h:qz w g a) (i:Nat):w.cell? ⟨g,i,none⟩=(xZ a)[i]?:=by
 rw[z7 h i];unfold zy;rw[List.getElem?_toArray]
theorem qz.cells (h:qz w g a):w.cell? ⟨g,0,none⟩=some (.int .i64 a.bo)/\w.cell? ⟨g,1,none⟩=some (.int .i64 a.ki)/\w.cell? ⟨g,2,none⟩=some (.int .i64 a.vi)/\w.cell? ⟨g,3,none⟩=some (.int .i64 a.ph):=
 ⟨h.cell 0,h.cell 1,h.cell 2,h.cell 3⟩
theorem qz.range0 (h:qz w g a) {pre l post:List Value} (e:xZ a=pre ++ (l ++ post)):w.rangeAt g pre.length l:=fun j u F=>by
 rw[h.cell,e,List.getElem?_append_right (by omega),Nat.add_sub_cancel_left,List.getElem?_append_left (List.getElem?_eq_some_iff.1 F).1];exact F
theorem qz.pv (h:qz w g a) (F:a.Ok):w.cell? ⟨g,36,none⟩=some (.int .i64 a.pv):=by
 have:=h.range0 (pre:=[.int .i64 a.bo,.int .i64 a.ki,.int .i64 a.vi,.int .i64 a.ph] ++ z4 a.ha) (l:=[.int .i64 a.pv]) (post:=z4 a.pa ++ z4 a.tg) (by unfold xZ;simp only[List.append_assoc]) 0 _ rfl;rw[List.length_append,z6,F.ha]at this;exact this
theorem qz.hash (h:qz w g a):w.rangeAt g 4 (z4 a.ha):=h.range0 (pre:=[.int .i64 a.bo,.int .i64 a.ki,.int .i64 a.vi,.int .i64 a.ph]) rfl
theorem qz.phash (h:qz w g a) (F:a.Ok):w.rangeAt g 37 (z4 a.pa):=by
 have:=h.range0 (pre:=[.int .i64 a.bo,.int .i64 a.ki,.int .i64 a.vi,.int .i64 a.ph] ++ (z4 a.ha ++ [.int .i64 a.pv])) (l:=z4 a.pa) (post:=z4 a.tg) (by unfold xZ;simp only[List.append_assoc]);rw[List.length_append,List.length_append,z6,F.ha]at this;exact this
theorem qz.tag (h:qz w g a) (F:a.Ok):w.rangeAt g 69 (z4 a.tg):=by
 have:=h.range0 (pre:=[.int .i64 a.bo,.int .i64 a.ki,.int .i64 a.vi,.int .i64 a.ph] ++ (z4 a.ha ++ ([.int .i64 a.pv] ++ z4 a.pa))) (l:=z4 a.tg) (post:=[]) (by unfold xZ;simp only[List.append_assoc,List.append_nil]);rw[List.length_append,List.length_append,List.length_append,z6,z6,F.ha,F.pa]at this;exact this
end
noncomputable def zI (v : Value) (w : World) : Result Next := Sem.run prog (execOp (fun _ => v) { dst := none, op := .load 54 (.tmp 0), type := 0, pos := "", after := #[], guard := none }) w
theorem ze (r:Operand->Value) (x:Operand) (dst:Option Tmp) (ty:TypeId) (pos:String) (after:Array Edge) (guard:Option (Nat×Bool)) (w:World):
  Sem.run prog (execOp r { dst:=dst,op:=.load 54 x,type:=ty,pos:=pos,after:=after,guard:=guard }) w=zI (r x) w:=rfl
theorem jF:prog.underlying 54=some (.struct (prog.fieldsOf 54)):=by kernel_rfl
theorem vE:(prog.info? 54).map (·.size)=some 101:=by kernel_rfl
theorem zZ {w:World}{g:Nat}{C:Array Value}{T:TypeId} (h:w.heap[g]?=some (.cells C T (0,0))) (G:C.size=101):zI (.pointer (some ⟨g,0,none⟩)) w=.ok (.value (.agg C)) w:=by
 have:=run_loadAt_mid (P:=prog) w g 0 54 C.toList _ (fun j v F=>by rw[Nat.zero_add,z7 h j];simpa using F) jF rfl (by rw[vE];simp[G]);simp only[Array.toArray_toList]at this;unfold zI execOp;simp only[Sem.run_bind,this,Result.andThen_ok,Sem.run_pure]
theorem ji {w:World}{g:Nat}{a:y8} (h:qz w g a) (F:a.Ok):zI (.pointer (some ⟨g,0,none⟩)) w=.ok (.value (.agg (zy a))) w:=zZ h (zg F)
theorem z2Q (a:y8):∀u∈xZ a,u.oneCell'=true:=by
 intro u F;unfold xZ at F;simp only[List.mem_append,List.mem_cons,List.not_mem_nil,or_false]at F;rcases F with(rfl|rfl|rfl|rfl)|F|rfl|F|F
 ·rfl
 ·rfl
 ·rfl
 ·rfl
 ·exact yb _ u F
 ·rfl
 ·exact yb _ u F
 ·exact yb _ u F
theorem qD (a:y8):(zy a).all (·.oneCell')=true:=all_oneCell_toArray (z2Q a)
theorem z9A:(prog.info? 54).bind (·.zero)=some (.agg (zy ju)):=by kernel_rfl
theorem z2R (w:World):(zeroValue 54).run prog w=.ok (.agg (zy ju)) w:=by
 have h:=z9A;cases hq:prog.info? 54 with
 |none=>rw[hq]at h;cases h
 |some i=>
  rw[hq]at h;have F:i.zero=some (.agg (zy ju)):=h;simp[zeroValue,typeInfo,hq,F]
noncomputable def qS (w : World) : Result Next := Sem.run prog (execOp (fun _ => undef) { dst := none, op := .build 54 #[], type := 0, pos := "", after := #[], guard := none }) w
theorem zM (r:Operand->Value) (dst:Option Tmp) (ty:TypeId) (pos:String) (after:Array Edge) (guard:Option (Nat×Bool)) (w:World):
  Sem.run prog (execOp r { dst:=dst,op:=.build 54 #[],type:=ty,pos:=pos,after:=after,guard:=guard }) w=qS w:=by
 unfold qS execOp;simp
theorem qi (w:World):qS w=.ok (.value (.agg (zy ju))) w:=by
 unfold qS;go_simp;rfl
noncomputable def zt (w : World) : Result Next := Sem.run prog (execOp (fun _ => undef) { dst := none, op := .alloc 54, type := 0, pos := "", after := #[], guard := none }) w
theorem zn (r:Operand->Value) (dst:Option Tmp) (ty:TypeId) (pos:String) (after:Array Edge) (guard:Option (Nat×Bool)) (w:World):
  Sem.run prog (execOp r { dst:=dst,op:=.alloc 54,type:=ty,pos:=pos,after:=after,guard:=guard }) w=zt w:=rfl
theorem zC (w:World):zt w=.ok (.value (.pointer (some ⟨w.heap.size,0,none⟩))) (w.alloc (.cells (zy ju) 54)):=by
 unfold zt execOp;simp only[Sem.run_bind,Instr.alloc,z2R,newVar,newRow,run_newObj_alloc,Sem.run_pure,Result.andThen_ok,Value.cells]
noncomputable def Z8 (p v:Value) (w:World):Result Next:=Sem.run prog (execOp (fun x=>match x with
 | .tmp 0=>p
 | _ => v) { dst := none, op := .store 54 (.tmp 0) (.tmp 1), type := 0, pos := "", after := #[], guard := none }) w
theorem zo (r:Operand->Value) (x y:Operand) (dst:Option Tmp) (ty:TypeId) (pos:String) (after:Array Edge) (guard:Option (Nat×Bool)) (w:World):
  Sem.run prog (execOp r { dst:=dst,op:=.store 54 x y,type:=ty,pos:=pos,after:=after,guard:=guard }) w=Z8 (r x) (r y) w:=rfl
def qb (w:World) (g:Nat) (C:Array Value):World:=w.setRow g C
theorem qF {w:World}{g:Nat}{t:TypeId}{C0 C:Array Value} (hg:w.heap[g]?=some (.cells C0 t (0,0))) (I:C0.size=101) (F:C.size=101) (G:C.all (·.oneCell')=true):
  Z8 (.pointer (some ⟨g,0,none⟩)) (.agg C) w=.ok .skip (qb w g C):=by
 have:=run_storeVar_row (P:=prog) w g t 54 C0 C hg (by rw[vE,F]) (by rw[I,F]) G;unfold Z8 execOp;simp only[Instr.storeAt,Instr.sureAddr,Sem.run_bind,Sem.run_pure,Result.andThen_ok,this];rfl
theorem yO (w:World) {g k:Nat} (C:Array Value) (F:k≠g):(qb w g C).heap[k]?=w.heap[k]?:=setRow_other w g k _ F
theorem qU {w:World}{g:Nat}{t:TypeId}{C0 C:Array Value} (hg:w.heap[g]?=some (.cells C0 t (0,0))):(qb w g C).heap[g]?=some (.cells C t (0,0)):=setRow_heap w g _ _ t _ hg
theorem qA {B g:Nat}{a w:World}{C:Array Value} (F:Below B a w) (hg:B<=g):Below B a (qb w g C):=below_setRow F hg _
theorem XE (a:y8):xZ a=([.int .i64 a.bo,.int .i64 a.ki,.int .i64 a.vi,.int .i64 a.ph] ++ (z4 a.ha ++ ([.int .i64 a.pv] ++ z4 a.pa))) ++ (z4 a.tg ++ []):=by
 unfold xZ;simp only[List.append_assoc,List.append_nil]
theorem xN {ops:Array Oper}{rest:List Oper}{o:Oper}{ac:Act}{w:World}{Q:Exit->Act->World->Prop} (I:o.guard=none) (x y:Operand) (G:o.op=.store 38 x y)
  {g:Nat} {a:y8} {h:List UInt8} (hx:ac.eval x=.pointer (some ⟨g,69,none⟩)) (N:ac.eval y=.agg (z2 h)) (hg:qz w g a) (F:a.Ok) (hl:h.length=32)
  (O:∀w',w.grownBy w' (some g)->qz w' g { a with tg:=h }->w'.heap.size=w.heap.size->wpList prog ops Q rest (ac.put o.dst undef) w'):wpList prog ops Q (o :: rest) ac w:=by
 unfold qz zy at hg;rw[XE]at hg;refine vr I x y G hx N hg (by simp only[List.length_append,z6,F.ha,F.pa,List.length_cons,List.length_nil]) (by rw[z6,F.tg]) hl (fun w' K M J=>O w' K ?_ J);unfold qz zy;rw[XE];exact M
end
section
attribute [local go_sem ↓] zf
theorem z4b (a:y8) (w:World) (I:a.Ok):
  Calls prog 53 #[.agg (zy a)] w fun e w'=>e=.returned (.bool (vA a))/\Below w.heap.size w w':=by
 have J:Below w.heap.size w (w.alloc (.cells (zy a) 54)):=Ba;have F:=qz.new w a;obtain⟨C,K⟩:=nm (zy a);obtain⟨q,G⟩:=nm (vA a);rw[K.o]at J F⊢;rw[G.o];go_enter func53,ntmps53;go_upto_region 1 with(fail)
 generalize (w.alloc (.cells C 54))=w0 at *;obtain⟨a0,O,M,N⟩:=F.cells;have a1:=F.pv I;clear F K I;obtain⟨bo,ki,vi,ph,ha,pv,pa,tg⟩:=a;simp only at a0 O M N a1;go_wp2_with fail;all_goals
  go_ret;refine⟨?_,J⟩;refine congrArg (fun b=>Ending.returned (Value.bool b)) ?_;rw[<-G.o];unfold vA;simp only
 all_goals grind
end
theorem Yg (d:Nat) (a b:List UInt8) (ha:a.length=32) (J:b.length=32) (w:World):(Op.equalIn (d+2) 38 (.agg (z2 a)) (.agg (z2 b))).run prog w=.ok (decide (a=b)) w:=by
 obtain⟨I,G,_⟩:=info_parts vV;rw[run_equalIn_array w (d+1) (z2 a) (z2 b) yH G,JE d a b w _ (fun i h=>by have:=List.mem_range.1 h;omega)]
 congr 1
 rw[Bool.eq_iff_iff];simp only[List.all_eq_true,List.mem_range,decide_eq_true_eq];constructor
 ·intro h;apply List.ext_getElem?;intro i;by_cases F:i<32
  ·exact h i F
  ·rw[List.getElem?_eq_none (by omega),List.getElem?_eq_none (by omega)]
 ·rintro rfl i _;rfl
def eqF (d:Nat) (F G:Array Value):List (TypeId×Nat×Bool)->Sem Bool
 | []=>pure true
 |(t,o,s) :: I=>
  if s=true then eqF d F G I
  else do
   let a <-Go.part t F o;let b <-Go.part t G o;let r <-Op.equalIn d t a b
   if (!r)=true then pure false else eqF d F G I
theorem z5H (d : Nat) (G I : Array Value) : ∀ F : List Field, Op.eqFields d G I F = eqF d G I (F.map fun f => (f.type, f.offset, f.name == "_"))
 | []=>rfl
 |f :: F=>by
  unfold Op.eqFields;rw[z5H d G I F,List.map_cons]
  conv=>rhs;unfold eqF
  by_cases h : f.name = "_" <;> simp [h]
theorem jW {P:Program}{d:Nat}{F G:Array Value}{t:TypeId}{o:Nat}{I:List (TypeId×Nat×Bool)}{w:World}{u v:Value}{r:Bool} (K:(Go.part t F o).run P w=.ok u w) (M:(Go.part t G o).run P w=.ok v w)
  (J:(Op.equalIn d t u v).run P w=.ok r w):(eqF d F G ((t,o,false) :: I)).run P w=if r=true then (eqF d F G I).run P w else .ok false w:=by
 conv=>lhs;unfold eqF
 simp only[Bool.false_eq_true,if_false,Sem.run_bind,K,M,J,Result.andThen_ok];cases r <;> rfl
theorem z5I : (prog.fieldsOf 54).toList.map (fun f => (f.type, f.offset, f.name == "_")) =
  [(3,0,false),(3,1,false),(3,2,false),(3,3,false),(38,4,false),(3,36,false),(38,37,false),(38,69,false)]:=by kernel_rfl
theorem JH:prog.underlying 3=some (.int .i64):=by kernel_rfl
theorem jf {w:World}{C:Array Value}{o:Nat}{l:List UInt8} (h:(C.toList.drop o).take 32=z4 l):(Go.part 38 C o).run prog w=.ok (.agg (z2 l)) w:=by
 have F:=yG;obtain⟨i,G,J⟩:=Option.map_eq_some_iff.1 F;have I:prog.cellsOf 38=32:=by kernel_rfl
 have e:C.extract o (o+32)=z2 l:=by
  apply Array.ext';rw[jM,<-h,Array.toList_extract,List.extract_eq_take_drop];simp
 unfold Go.part;simp only[Sem.run_bind,isAgg,run_underlying yH,Result.andThen_ok,run_sizeOf w G,I,e,Sem.run_pure,if_true]
theorem qt {w:World}{C:Array Value}{o:Nat}{v:Value} (h:C[o]?=some v):(Go.part 3 C o).run prog w=.ok v w:=run_part_plain (P:=prog) w (by kernel_rfl) h
theorem XF {α:Type}{l pre m post:List α}{o:Nat} (e:l=pre ++ (m ++ post)) (F:pre.length=o) (G:m.length=32):(l.drop o).take 32=m:=by
 subst e F;rw[List.drop_left,<-G,List.take_left]
theorem zcF (a b:y8) (I:a.Ok) (hp:b.Ok) (w:World):(Op.equalIn 10000 54 (.agg (zy a)) (.agg (zy b))).run prog w=.ok (decide (a=b)) w:=by
 have J:∀c:y8,c.Ok->(zy c)[0]?=some (.int .i64 c.bo)/\(zy c)[1]?=some (.int .i64 c.ki)/\(zy c)[2]?=some (.int .i64 c.vi)/\(zy c)[3]?=some (.int .i64 c.ph)/\(zy c)[36]?=some (.int .i64 c.pv)
   /\ ((zy c).toList.drop 4).take 32=z4 c.ha/\((zy c).toList.drop 37).take 32=z4 c.pa/\((zy c).toList.drop 69).take 32=z4 c.tg:=by
  intro c F;refine⟨rfl,rfl,rfl,rfl,?_,?_,?_,?_⟩
  ·unfold zy xZ;rw[List.getElem?_toArray,List.getElem?_append_right (by simp),List.getElem?_append_right (by simp[z6,F.ha])];simp[z6,F.ha]
  ·exact XF (pre:=[.int .i64 c.bo,.int .i64 c.ki,.int .i64 c.vi,.int .i64 c.ph]) (m:=z4 c.ha) (post:=[.int .i64 c.pv] ++ (z4 c.pa ++ z4 c.tg)) rfl rfl (by rw[z6,F.ha])
  ·exact XF (pre:=[.int .i64 c.bo,.int .i64 c.ki,.int .i64 c.vi,.int .i64 c.ph] ++ (z4 c.ha ++ [.int .i64 c.pv])) (m:=z4 c.pa) (post:=z4 c.tg) (by show xZ c=_;unfold xZ;simp only[List.append_assoc]) (by simp[z6,F.ha]) (by rw[z6,F.pa])
  ·exact XF (pre:=[.int .i64 c.bo,.int .i64 c.ki,.int .i64 c.vi,.int .i64 c.ph] ++ (z4 c.ha ++ ([.int .i64 c.pv] ++ z4 c.pa))) (m:=z4 c.tg) (post:=[]) (by show xZ c=_;unfold xZ;simp only[List.append_assoc,List.append_nil]) (by simp[z6,F.ha,F.pa]) (by rw[z6,F.tg])
 obtain⟨K,a7,a6,a5,a4,O,M,a2⟩:=J a I;obtain⟨b0,b1,b2,b3,a3,a0,N,a1⟩:=J b hp;have G:∀x y:Int,(Op.equalIn 9999 3 (.int .i64 x) (.int .i64 y)).run prog w=.ok (x == y) w:=fun x y=>run_equalIn_int (P:=prog) w 9998 3 .i64 .i64 x y JH;rw[run_equalIn_struct w 9999 _ _ _ jF (by kernel_rfl),z5H,z5I]
 rw[jW (qt K) (qt b0) (G _ _),jW (qt a7) (qt b1) (G _ _),jW (qt a6) (qt b2) (G _ _),jW (qt a5) (qt b3) (G _ _),
  jW (jf O) (jf a0) (Yg 9997 _ _ I.ha hp.ha w),jW (qt a4) (qt a3) (G _ _),
  jW (jf M) (jf N) (Yg 9997 _ _ I.pa hp.pa w),jW (jf a2) (jf a1) (Yg 9997 _ _ I.tg hp.tg w)]
 obtain⟨p1,p2,p3,p4,af,aj,ad,ai⟩:=a;obtain⟨aa,a9,ae,ak,ab,ag,a8,ah⟩:=b;simp only[eqF,Sem.run_pure,y8.mk.injEq,beq_iff_eq,decide_eq_true_eq]
 (repeat' split) <;> simp_all
section
open Go.ChangeShapes Go.WideShapes Go.ChangeAt Go.RowKit Go.Deep
theorem zE {α:Type}{cs l:List α}{o k:Nat} (h:(cs.drop o).take k=l):cs.drop o=l ++ cs.drop (o+k):=by
 conv=>lhs;rw[<-List.take_append_drop k (cs.drop o),List.drop_drop,h]
section
variable {H:Type}{enc:TypeId×Value->H}{w:World}{base:Nat}{spare:Nat->Bool}{held:Bool}{fuel:Nat}{cs:List Value}{x:DataW H×List MemPlace}
theorem z7Z:∃O J M I F K N G:Field,prog.underlying 54=some (.struct #[O,J,M,I,F,K,N,G])/\(O.type,O.offset)=(3,0)/\(J.type,J.offset)=(3,1)/\(M.type,M.offset)=(3,2)
  /\ (I.type,I.offset)=(3,3)/\(F.type,F.offset)=(38,4)/\(K.type,K.offset)=(3,36)/\(N.type,N.offset)=(38,37)/\(G.type,G.offset)=(38,69):=
 ⟨_,_,_,_,_,_,_,_,underlying54,rfl,rfl,rfl,rfl,rfl,rfl,rfl,rfl⟩
theorem z73 (h:DataW.trod enc prog w base spare held fuel 54 cs=some x):∃a:y8,a.Ok/\cs=xZ a:=by
 obtain⟨aF,a9,aj,a8,ai,aA,ab,a7,am,al,aq,aw,aQ,aO,ae,a6,aP⟩:=z7Z;injection al with a3 aB;injection aq with ar au;injection aw with aD af;injection aQ with aR az;injection aO with ao ak;injection ae with aa aN;injection a6 with aM av;injection aP with ah aK;obtain⟨ay,m,_,_,aJ,aH,F⟩:=DataW.trod_struct am h;have an:prog.cellsOf 54=101:=by kernel_rfl
 have G:prog.cellsOf 3=1:=by kernel_rfl
 have I:prog.cellsOf 38=32:=by kernel_rfl
 rw[an]at aJ;have hx:ay.length=8:=aH;have a2:=F 0 aF rfl;have K:=F 1 a9 rfl;have a1:=F 2 aj rfl;have M:=F 3 a8 rfl;have a0:=F 4 ai rfl;have J:=F 5 aA rfl;have N:=F 6 ab rfl;have O:=F 7 a7 rfl;rw[a3,aB,G,List.getElem?_eq_getElem (by omega)]at a2;rw[ar,au,G,List.getElem?_eq_getElem (by omega)]at K;rw[aD,af,G,List.getElem?_eq_getElem (by omega)]at a1;rw[aR,az,G,List.getElem?_eq_getElem (by omega)]at M;rw[ao,ak,I,List.getElem?_eq_getElem (by omega)]at a0;rw[aa,aN,G,List.getElem?_eq_getElem (by omega)]at J;rw[aM,av,I,List.getElem?_eq_getElem (by omega)]at N;rw[ah,aK,I,List.getElem?_eq_getElem (by omega)]at O;obtain⟨n0,c0,_,_⟩:=DataW.trod_int underlying3 a2;obtain⟨n1,c1,_,_⟩:=DataW.trod_int underlying3 K;obtain⟨n2,a4,_,_⟩:=DataW.trod_int underlying3 a1;obtain⟨aC,aL,_,_⟩:=DataW.trod_int underlying3 M;obtain⟨ha,ax,ad⟩:=kH a0;obtain⟨ap,aE,_,_⟩:=DataW.trod_int underlying3 J;obtain⟨pa,aI,a5⟩:=kH N;obtain⟨tg,ag,aG⟩:=kH O;refine⟨⟨n0,n1,n2,aC,ha,ap,pa,tg⟩,⟨ax,aI,ag⟩,?_⟩;have e:cs=cs.drop 0:=rfl;rw[e,zE c0,zE c1,zE a4,zE aL,zE ad,zE aE,zE a5,zE aG,List.drop_eq_nil_of_le (by omega)];unfold xZ;simp only[List.append_nil,List.cons_append,List.nil_append]
end
end
section
def tcl (t:YJ):List Value:=[.int .i64 t.fr,.int .i64 t.no,.int .i64 t.ki,.int .i64 t.to,.int .i64 t.am,.string (sb t.key),.string (sb t.val)]
theorem kA (t:YJ):Yb t=.agg (tcl t).toArray:=rfl
theorem z0g (t:YJ):(tcl t).length=7:=rfl
def z2S (w:World) (A:Option Addr) (L:List YJ):Prop:=
 0<L.length->∃b F,A=some ⟨b,F,none⟩/\b<w.heap.size/\∀j (h:j<L.length),w.rangeAt b (F+j*7) (tcl L[j])
def Xq (w:World) (v:Value) (L:List YJ):Prop:=∃A c,v=.slice A L.length c/\L.length<=c/\c<=maxLen/\z2S w A L
section
variable {w w':World}{A:Option Addr}{v:Value}{L:List YJ}
theorem z5J {b o:Nat}{l:List Value} (h:w.rangeAt b o l) (F:w'.heap[b]?=w.heap[b]?):w'.rangeAt b o l:=fun j u G=>(World.cell?_of_block F).trans (h j u G)
theorem z2S.nil (w:World) (A:Option Addr):z2S w A []:=fun h=>absurd h (by simp)
theorem z2S.below (h:z2S w A L) (F:Below w.heap.size w w'):z2S w' A L:=fun hl=>by
 obtain⟨b,I,e,G,K⟩:=h hl;exact⟨b,I,e,Nat.lt_of_lt_of_le G F.size,fun j J=>z5J (K j J) (F.block b G)⟩
theorem Xq.nil (w:World):Xq w (.slice none 0 0) []:=⟨none,0,rfl,Nat.le_refl _,Nat.zero_le _,z2S.nil _ _⟩
theorem Xq.below (h:Xq w v L) (G:Below w.heap.size w w'):Xq w' v L:=by
 obtain⟨A,c,rfl,I,J,F⟩:=h;exact⟨A,c,rfl,I,J,F.below G⟩
theorem Xq.len (h:Xq w v L):L.length<=maxLen:=by
 obtain⟨_,_,_,G,F,_⟩:=h;omega
theorem Xq.shape (h:Xq w v L):∃A c,v=.slice A L.length c:=by
 obtain⟨A,c,e,_⟩:=h;exact⟨A,c,e⟩
theorem Xq.at_ {n c:Nat} (h:Xq w (.slice A n c) L):n=L.length/\L.length<=c/\c<=maxLen/\z2S w A L:=by
 obtain⟨A',N,e,J,K,F⟩:=h;injection e with M G I;subst M G I;exact⟨rfl,J,K,F⟩
end
def vS (b:kR) (s:Value):Array Value:=(z4 b.par ++ [.int .i64 b.vi,.int .i64 b.he,.int .i64 b.bo,s]).toArray
theorem kX {b:kR} (s:Value) (h:b.par.length=32):(vS b s).size=36:=by simp[vS,z4,h]
def Kw (w:World) (v:Value) (b:kR):Prop:=∃s,v=.agg (vS b s)/\b.par.length=32/\Xq w s b.txs
theorem Kw.below {w w':World}{v:Value}{b:kR} (h:Kw w v b) (F:Below w.heap.size w w'):Kw w' v b:=by
 obtain⟨s,rfl,G,I⟩:=h;exact⟨s,rfl,G,I.below F⟩
def jX (w:World) (g:Nat) (b:kR) (s:Value):Prop:=w.heap[g]?=some (.cells (vS b s) 49 (0,0))
section
variable {w w':World}{g:Nat}{b:kR}{s:Value}
theorem jX.new (w:World) (b:kR) (s:Value):jX (w.alloc (.cells (vS b s) 49)) w.heap.size b s:=Xh w _
theorem jX.two (w:World) (o:Obj) (b:kR) (s:Value):jX ((w.alloc o).alloc (.cells (vS b s) 49)) (w.heap.size+1) b s:=by
 have:=jX.new (w.alloc o) b s
 rwa[show(w.alloc o).heap.size=w.heap.size+1 from by simp]at this
theorem jX.lt (h:jX w g b s):g<w.heap.size:=Lb h
theorem jX.keep (h:jX w g b s) (F:w'.heap[g]?=w.heap[g]?):jX w' g b s:=F.trans h
theorem jX.below {B:Nat} (h:jX w g b s) (F:Below B w w') (hg:g<B):jX w' g b s:=(F.block g hg).trans h
theorem z9B (h:b.par.length=32):(vS b s)[32]?=some (.int .i64 b.vi)/\(vS b s)[33]?=some (.int .i64 b.he)/\(vS b s)[34]?=some (.int .i64 b.bo)/\(vS b s)[35]?=some s:=by
 have F:(z4 b.par).length=32:=by rw[z6,h]
 unfold vS;simp only[List.getElem?_toArray];refine⟨?_,?_,?_,?_⟩ <;> rw[List.getElem?_append_right (by omega),F] <;> rfl
theorem jX.cells (h:jX w g b s) (J:b.par.length=32):w.cell? ⟨g,32,none⟩=some (.int .i64 b.vi)/\w.cell? ⟨g,33,none⟩=some (.int .i64 b.he)/\w.cell? ⟨g,34,none⟩=some (.int .i64 b.bo)/\w.cell? ⟨g,35,none⟩=some s:=by
 obtain⟨K,G,I,F⟩:=z9B (s:=s) J;exact⟨(cell_of_row w g 32 _ _ (0,0) h).trans K,(cell_of_row w g 33 _ _ (0,0) h).trans G,(cell_of_row w g 34 _ _ (0,0) h).trans I,(cell_of_row w g 35 _ _ (0,0) h).trans F⟩
theorem jX.free (h:jX w g b s) (i:Nat):w.frozen? ⟨g,i,none⟩=false:=by
 unfold jX at h;simp[World.frozen?,h]
theorem jX.range (h:jX w g b s):w.rangeAt g 0 (z4 b.par):=fun j u F=>by
 rw[Nat.zero_add,cell_of_row w g j _ _ (0,0) h];unfold vS;rw[List.getElem?_toArray,List.getElem?_append_left (List.getElem?_eq_some_iff.1 F).1];exact F
end
theorem jx {w:World}{g o:Nat}{t:YJ} (F:w.rangeAt g o (tcl t)):kC (.pointer (some ⟨g,o,none⟩)) w=.ok (.value (Yb t)) w:=by
 have:=run_loadAt_mid (P:=prog) w g o 152 (tcl t) _ F z1P rfl (by rw[show(prog.info? 152).map (·.size)=some 7 from by kernel_rfl,z0g]);unfold kC execOp;simp only[Sem.run_bind,this,Result.andThen_ok,Sem.run_pure];rfl
noncomputable def kq (v : Value) (w : World) : Result Next := Sem.run prog (execOp (fun _ => v) { dst := none, op := .load 49 (.tmp 0), type := 0, pos := "", after := #[], guard := none }) w
theorem zV (r:Operand->Value) (x:Operand) (dst:Option Tmp) (ty:TypeId) (pos:String) (after:Array Edge) (guard:Option (Nat×Bool)) (w:World):
  Sem.run prog (execOp r { dst:=dst,op:=.load 49 x,type:=ty,pos:=pos,after:=after,guard:=guard }) w=kq (r x) w:=rfl
theorem z0h:prog.underlying 49=some (.struct (prog.fieldsOf 49)):=by kernel_rfl
theorem XG:(prog.info? 49).map (·.size)=some 36:=by kernel_rfl
theorem kK {w:World}{g:Nat}{C:Array Value}{T:TypeId} (h:w.heap[g]?=some (.cells C T (0,0))) (G:C.size=36):kq (.pointer (some ⟨g,0,none⟩)) w=.ok (.value (.agg C)) w:=by
 have:=run_loadAt_mid (P:=prog) w g 0 49 C.toList _ (fun j v F=>by rw[Nat.zero_add,z7 h j];simpa using F) z0h rfl (by rw[XG];simp[G]);simp only[Array.toArray_toList]at this;unfold kq execOp;simp only[Sem.run_bind,this,Result.andThen_ok,Sem.run_pure]
theorem z4d {w:World}{g:Nat}{b:kR}{s:Value} (h:jX w g b s) (F:b.par.length=32):kq (.pointer (some ⟨g,0,none⟩)) w=.ok (.value (.agg (vS b s))) w:=kK h (kX s F)
noncomputable def Kx (w : World) : Result Next := Sem.run prog (execOp (fun _ => undef) { dst := none, op := .build 49 #[], type := 0, pos := "", after := #[], guard := none }) w
theorem JI (r:Operand->Value) (dst:Option Tmp) (ty:TypeId) (pos:String) (after:Array Edge) (guard:Option (Nat×Bool)) (w:World):
  Sem.run prog (execOp r { dst:=dst,op:=.build 49 #[],type:=ty,pos:=pos,after:=after,guard:=guard }) w=Kx w:=by
 unfold Kx execOp;simp
theorem zbb:(prog.info? 49).bind (·.zero)=some (.agg (vS YK (.slice none 0 0))):=by kernel_rfl
theorem z4e (w:World):(zeroValue 49).run prog w=.ok (.agg (vS YK (.slice none 0 0))) w:=by
 have h:=zbb;cases hq:prog.info? 49 with
 |none=>rw[hq]at h;cases h
 |some i=>
  rw[hq]at h;have F:i.zero=some (.agg (vS YK (.slice none 0 0))):=h;simp[zeroValue,typeInfo,hq,F]
theorem z1W (w:World):Kx w=.ok (.value (.agg (vS YK (.slice none 0 0)))) w:=by
 unfold Kx;go_simp;rfl
theorem z2T:YK.par.length=32:=by simp[YK]
theorem z9C (a b:YJ) (w:World):(Op.equalIn 10000 152 (Yb a) (Yb b)).run prog w=.ok (decide (a=b)) w:=by
 obtain⟨a2,N,K,a0,F,J,M⟩:=a;obtain⟨b1,b2,b3,O,G,a1,I⟩:=b;unfold Yb;go_simp;simp only[z1E]
 (repeat' split) <;> simp_all
end
section
attribute [local go_sem ↓] jb zf
theorem z2U (F J:Value) (a b:kR) (w:World) (ba:Kw w F a) (b0:Kw w J b):
  Calls prog 165 #[F,J] w fun e w'=>e=.returned (.bool (kj a b))/\Below w.heap.size w w':=by
 obtain⟨sa,rfl,ah,au⟩:=ba;obtain⟨sb,rfl,aj,ao⟩:=b0;have I:Below w.heap.size w ((w.alloc (.cells (vS a sa) 49)).alloc (.cells (vS b sb) 49)):=Ba.alloc (by simp) _;have af:jX ((w.alloc (.cells (vS a sa) 49)).alloc (.cells (vS b sb) 49)) w.heap.size a sa:=(Below.heap_alloc _ _ _ (by simp)).trans (Xh w _);have ae:jX ((w.alloc (.cells (vS a sa) 49)).alloc (.cells (vS b sb) 49)) (w.heap.size+1) b sb:=jX.two w _ b sb;have a6:=au.below I;have a7:=ao.below I;obtain⟨bh,aT,rfl⟩:=au.shape;obtain⟨aU,aP,rfl⟩:=ao.shape;obtain⟨b4,av⟩:=nm (vS a (.slice bh a.txs.length aT));obtain⟨b6,aM⟩:=nm (vS b (.slice aU b.txs.length aP));rw[av.o,aM.o]at af ae I a6 a7⊢;obtain⟨a5,a2⟩:=nm (kj a b);rw[a2.o];go_enter func165,ntmps165;go_upto_region 1 with(fail)
 generalize ((w.alloc (.cells b4 49)).alloc (.cells b6 49))=w0 at *;clear av aM au ao;obtain⟨aN,aI,ay,aG⟩:=af.cells ah;obtain⟨b1,b2,b3,aw⟩:=ae.cells aj;have ax:=zD af.range ah;have aH:=zD ae.range aj;have ak:=xX a.par b.par ah aj w0;clear af ae;obtain⟨q,ag⟩:=nm (decide (a.par=b.par));rw[ag.o]at ak;obtain⟨bj,aD⟩:=nm (z2 a.par);obtain⟨ap,aB⟩:=nm (z2 b.par);rw[aD.o]at ax ak;rw[aB.o]at aH ak;clear aD aB;obtain⟨G,K⟩:=nm (a.txs.length:Nat);obtain⟨al,a3⟩:=nm (b.txs.length:Nat);rw[K.o]at aG a6;rw[a3.o]at aw a7;have aL:=a6.len;have az:=a7.len;rw[K.o]at aL;rw[a3.o]at az;unfold maxLen at aL az;obtain⟨pa,F,ha,M,a0⟩:=a;obtain⟨aR,J,a8,a9,N⟩:=b;simp only at aN aI ay aG b1 b2 b3 aw a6 a7 ag K a3 ah aj;have aQ:(q=false)\/(q=true/\F≠J)\/(q=true/\F=J/\ha≠a8)\/(q=true/\F=J/\ha=a8/\M≠a9)\/(q=true/\F=J/\ha=a8/\M=a9/\G≠al)\/(q=true/\F=J/\ha=a8/\M=a9/\G=al):=by
  cases q
  ·exact .inl rfl
  ·right;by_cases O:F=J
   ·right;by_cases a1:ha=a8
    ·right;by_cases a4:M=a9
     ·right;by_cases ab:G=al
      ·exact .inr ⟨rfl,O,a1,a4,ab⟩
      ·exact .inl ⟨rfl,O,a1,a4,ab⟩
     ·exact .inl ⟨rfl,O,a1,a4⟩
    ·exact .inl ⟨rfl,O,a1⟩
   ·exact .inl ⟨rfl,O⟩
 obtain rfl|⟨rfl,O⟩|⟨rfl,rfl,a1⟩|⟨rfl,rfl,rfl,a4⟩|⟨rfl,rfl,rfl,rfl,ab⟩|⟨rfl,rfl,rfl,rfl,rfl⟩:=aQ
 ·obtain rfl:a5=false:=by
   rw[<-a2.o];exact jU (fun e=>by injection e with e _;exact of_decide_eq_false ag.o e)
  go_wp2;go_ret;exact⟨rfl,I⟩
 ·obtain rfl:a5=false:=by
   rw[<-a2.o];exact jU (fun e=>by injection e with _ e _;exact O e)
  have aa:(F != J)=true:=by simpa using O
  clear O;go_wp2;go_ret;exact⟨rfl,I⟩
 ·obtain rfl:a5=false:=by
   rw[<-a2.o];exact jU (fun e=>by injection e with _ _ e _;exact a1 e)
  have aa:(F != F)=false:=by simp
  have am:(ha != a8)=true:=by simpa using a1
  clear a1;go_wp2;go_ret;exact⟨rfl,I⟩
 ·obtain rfl:a5=false:=by
   rw[<-a2.o];exact jU (fun e=>by injection e with _ _ _ e _;exact a4 e)
  have aa:(F != F)=false:=by simp
  have am:(ha != ha)=false:=by simp
  have ar:(M != a9)=true:=by simpa using a4
  clear a4;go_wp2;go_ret;exact⟨rfl,I⟩
 ·obtain rfl:a5=false:=by
   rw[<-a2.o];exact jU (fun e=>by injection e with _ _ _ _ e;rw[e]at K;exact ab (K.o.symm.trans a3.o))
  have aa:(F != F)=false:=by simp
  have am:(ha != ha)=false:=by simp
  have ar:(M != M)=false:=by simp
  have aE:((G:Int) != (al:Int))=true:=by simp;omega
  clear ab;go_wp2;go_ret;exact⟨rfl,I⟩
 ·have aa:(F != F)=false:=by simp
  have am:(ha != ha)=false:=by simp
  have ar:(M != M)=false:=by simp
  have aE:((G:Int) != (G:Int))=false:=by simp
  go_wp2_with fail;clear aa am ar aE ak ax aH aN aI ay b1 b2 b3;obtain⟨_,bf,b9,aJ⟩:=a6.at_;obtain⟨_,aW,b5,aA⟩:=a7.at_;rw[K.o]at bf;rw[a3.o]at aW;unfold maxLen at b9 b5;have bb:=z0 aJ;have bc:=z0 aA;clear aJ aA a6 a7;go_loopw [5] (fun aq wr=>∃i:Nat,i<=G/\aq=.int .i64 i/\Hd (∀j (h:j<a0.length) (an:j<N.length),j<i->a0[j]=N[j])/\∃n,wr=w0.drewN n) (fun aq _=>G - (intOf aq).toNat)
  case atStart=>exact⟨0,Nat.zero_le _,rfl,z0 (fun j _ _ h=>absurd h (by omega)),0,rfl⟩
  case round=>
   obtain⟨i,bk,rfl,ap,n,rfl⟩:=hrel;by_cases aF:i<G
   ·have aV:i<a0.length:=by rw[K.o];exact aF
    have aY:i<N.length:=by rw[a3.o];exact aF
    obtain⟨aO,be,rfl,bn,aC⟩:=bb.o (by omega);obtain⟨aZ,bg,rfl,bm,aK⟩:=bc.o (by omega);have l1:∀k,kC (.pointer (some ⟨aO,be+i*7,none⟩)) (w0.drewN k)=.ok (.value (Yb a0[i])) (w0.drewN k):=fun k=>jx (aC i aV);have bd:∀k,kC (.pointer (some ⟨aZ,bg+i*7,none⟩)) (w0.drewN k)=.ok (.value (Yb N[i])) (w0.drewN k):=fun k=>jx (aK i aY);have bl:(i:Int)<(G:Int):=by omega
    have ad:∀W,(Op.equalIn 10000 152 (Yb a0[i]) (Yb N[i])).run prog W=.ok (decide (a0[i]=N[i])) W:=fun W=>z9C _ _ W;clear aC aK;obtain⟨X,b7⟩:=nm ((tcl a0[i]).toArray);obtain⟨Y,aX⟩:=nm ((tcl N[i]).toArray);rw[kA,b7.o]at l1 ad;rw[kA,aX.o]at bd ad;by_cases ai:a0[i]=N[i]
    ·rw[decide_eq_true ai]at ad;go_wp2_with fail;go_quiet (fail);go_wp2;go_roundw
     case rel=>
      refine⟨i+1,by omega,by go_num,z0 (fun j h an bi=>?_),_,rfl⟩;by_cases aS:j<i
      ·exact ap.o j h an aS
      ·obtain rfl:j=i:=by omega
       exact ai
     case measure=>simp[intOf];omega
    ·rw[decide_eq_false ai]at ad;go_wp2_with fail;go_quiet (fail);go_wp2;go_ret;have e:a5=false:=by
      rw[<-a2.o];exact jU (fun e=>by injection e with _ _ _ _ e;subst e;exact ai rfl)
     subst e;exact⟨rfl,zA (zA I _) _⟩
   ·obtain rfl:i=G:=by omega
    go_wp2;go_ret;have e:a5=true:=by
     rw[<-a2.o];refine z1Q.2 ?_;have hp:pa=aR:=of_decide_eq_true ag.o;have b8:a0=N:=List.ext_getElem (by rw[K.o,a3.o]) fun j h an=>ap.o j h an (by have:=K.o;omega);rw[hp,b8]
    subst e;exact⟨rfl,zA I n⟩
end
section
open Go.ChangeShapes Go.WideShapes Go.ChangeAt Go.RowKit Go.Deep
def z9D (b:kR):Prop:=∀t∈b.txs,t.key.length<=maxLen/\t.val.length<=maxLen
section
variable {H:Type}{enc:TypeId×Value->H}{w:World}{base:Nat}{spare:Nat->Bool}{held:Bool}{fuel:Nat}{cs:List Value}{x:DataW H×List MemPlace}
theorem z9E (h:DataW.trod enc prog w base spare held fuel 47 cs=some x):∃v L,cs=[v]/\Xq w v L/\∀t∈L,t.key.length<=maxLen/\t.val.length<=maxLen:=by
 have a4:prog.cellsOf 152=7:=by kernel_rfl
 rcases open_slice underlying47 h with ⟨rfl,_⟩|⟨a,len,xz,m,n,D,ad,rfl,_,hl,a1,a2,_,M⟩
 ·exact⟨_,[],rfl,⟨none,0,rfl,Nat.le_refl _,Nat.zero_le _,z2S.nil _ _⟩,fun t F=>by cases F⟩
 ·have af:len<=m:=by rw[a2];split <;> omega
  rw[a4]at M;have G:∀i,∃t:YJ,(t.key.length<=maxLen/\t.val.length<=maxLen)/\(i<len->∀j u,(tcl t)[j]?=some u->w.cell? (a.add (i*7+j))=some u):=by
   intro i;by_cases J:i<len
   ·obtain⟨ae,a0,F⟩:=M i (by omega);obtain⟨t,N,rfl⟩:=zaU F;obtain⟨_,ab,O⟩:=World.cells?_some a0;refine⟨t,N,fun _ j u I=>?_⟩;have aa:j<7:=by
     have:=(List.getElem?_eq_some_iff.1 I).1;rw[z0g]at this;exact this
    rw[<-Go.Deep.add_add,O j aa];exact I
   ·exact⟨txZ,⟨Nat.zero_le _,Nat.zero_le _⟩,fun h=>absurd h J⟩
  refine⟨_,(List.range len).map fun i=>(G i).choose,rfl,⟨some a,xz,by simp,by simpa using hl,a1,fun a7=>?_⟩,fun t F=>?_⟩
  ·have a6:0<len:=by simpa using a7
   obtain⟨b,a9,a3⟩:=a;have K:=(G 0).choose_spec.2 a6 0 _ rfl;have a8:a3=none:=by simpa [Addr.add] using World.cell?_spot K
   subst a8;refine⟨b,a9,rfl,?_,fun i J=>?_⟩
   ·have:=World.block_lt_of_cell? w _ K;rw[y9]at this;exact this
   ·have a5:i<len:=by simpa using J
    simp only[List.getElem_map,List.getElem_range];intro j u I;have:=(G i).choose_spec.2 a5 j u I;rw[y9]at this;rw[<-this,Nat.add_assoc]
  ·obtain⟨i,_,rfl⟩:=List.mem_map.1 F;exact(G i).choose_spec.1
theorem z80:∃K I J G F:Field,prog.underlying 49=some (.struct #[K,I,J,G,F])/\(K.type,K.offset)=(38,0)/\(I.type,I.offset)=(3,32)/\(J.type,J.offset)=(3,33)
  /\ (G.type,G.offset)=(3,34)/\(F.type,F.offset)=(47,35):=
 ⟨_,_,_,_,_,underlying49,rfl,rfl,rfl,rfl,rfl⟩
theorem zbc (h:DataW.trod enc prog w base spare held fuel 49 cs=some x):∃b:kR,Kw w (.agg cs.toArray) b/\z9D b:=by
 obtain⟨av,a6,ae,a4,ab,ah,ag,al,ao,aC,aB⟩:=z80;injection ag with a1 ar;injection al with am an;injection ao with au aa;injection aC with aD aq;injection aB with aj af;obtain⟨ap,m,_,_,ay,aw,F⟩:=DataW.trod_struct ah h;have ai:prog.cellsOf 49=36:=by kernel_rfl
 have I:prog.cellsOf 3=1:=by kernel_rfl
 have ak:prog.cellsOf 38=32:=by kernel_rfl
 have ad:prog.cellsOf 47=1:=by kernel_rfl
 rw[ai]at ay;have hx:ap.length=5:=aw;have a0:=F 0 av rfl;have J:=F 1 a6 rfl;have O:=F 2 ae rfl;have K:=F 3 a4 rfl;have N:=F 4 ab rfl;rw[a1,ar,ak,List.getElem?_eq_getElem (by omega)]at a0;rw[am,an,I,List.getElem?_eq_getElem (by omega)]at J;rw[au,aa,I,List.getElem?_eq_getElem (by omega)]at O;rw[aD,aq,I,List.getElem?_eq_getElem (by omega)]at K;rw[aj,af,ad,List.getElem?_eq_getElem (by omega)]at N;obtain⟨p,hp,c0⟩:=kH a0;obtain⟨n1,c1,_,_⟩:=DataW.trod_int underlying3 J;obtain⟨n2,a2,_,_⟩:=DataW.trod_int underlying3 O;obtain⟨M,az,_,_⟩:=DataW.trod_int underlying3 K;obtain⟨v,L,a9,a7,a5⟩:=z9E N;refine⟨⟨p,n1,n2,M,L⟩,⟨v,?_,hp,a7⟩,a5⟩;have ax:=yz c1;have aA:=yz a2;have a8:=yz az;have a3:=yz a9;rw[List.drop_zero]at c0;have e:cs=z4 p ++ [.int .i64 n1,.int .i64 n2,.int .i64 M,v]:=by
  apply List.ext_getElem?;intro i;by_cases G:i<32
  ·rw[List.getElem?_append_left (by rw[z6,hp];exact G),<-c0,List.getElem?_take_of_lt G]
  ·rw[List.getElem?_append_right (by rw[z6,hp];omega),z6,hp]
   match i,G with
   |32,_=>exact ax
   |33,_=>exact aA
   |34,_=>exact a8
   |35,_=>exact a3
   |i+36,_=>rw[List.getElem?_eq_none (by omega),List.getElem?_eq_none (by simp <;> omega)]
 unfold vS;rw[e]
end
end
theorem zbd:(prog.info? 54).map (fun i=>(i.zero,i.size,decide (i.bytes<=100000)))=some (some (.agg (zy ju)),101,true):=by kernel_rfl
theorem z9F:Elt xZ y8.Ok 101 54 60:=by
 refine⟨by omega,fun _ h=>yZ h,z2Q,by kernel_rfl,by kernel_rfl,?_⟩;obtain⟨i,G,h⟩:=Option.map_eq_some_iff.1 zbd;injection h with I h;injection h with J F;exact⟨i,_,G,I,J,of_decide_eq_true F,by show(zy ju).size=101;exact zg qf⟩
theorem jQ {w:World}{g o:Nat}{a:y8} (G:w.rangeAt g o (xZ a)) (F:a.Ok):zI (.pointer (some ⟨g,o,none⟩)) w=.ok (.value (.agg (zy a))) w:=by
 have:=run_loadAt_mid (P:=prog) w g o 54 (xZ a) _ G jF rfl (by rw[vE,yZ F]);unfold zI execOp;simp only[Sem.run_bind,this,Result.andThen_ok,Sem.run_pure];rfl
theorem JX:∀(F:List Value) (k:Nat) (C:Array Value),(F.zipIdx k).foldl (fun cs x=>cs.setIfInBounds x.2 x.1) C=JG C k F
 | [],_,_=>rfl
 |v :: r,k,C=>by
  simp only[List.zipIdx_cons,List.foldl_cons];exact JX r (k+1) _
theorem yp:∀(F:List Value) (k o:Nat) (C:Array Value),(F.zipIdx k).foldl (fun cs x=>cs.setIfInBounds (o+x.2) x.1) C=JG C (o+k) F
 | [],_,_,_=>rfl
 |v :: r,k,o,C=>by
  simp only[List.zipIdx_cons,List.foldl_cons];rw[yp r (k+1) o];rfl
theorem X5 (n:Int) (w:World):Calls prog 223 #[.int .i64 n] w fun e w'=>e=.returned (.bool (decide (1<=n) && decide (n<=40)))/\w=w':=by
 go_enter func223,ntmps223;go_wp2_with fail;all_goals
  go_ret;refine⟨congrArg (fun b=>Ending.returned (Value.bool b)) ?_,rfl⟩
 all_goals grind
theorem z4f (l:List UInt8) (w:World) (ah:l.length<=1000000):
  Calls prog 232 #[.string (sb l)] w fun e w'=>e=.returned (.bool (kg l))/\w=w':=by
 have a9:=Qg l;obtain⟨L,K⟩:=nm (l.length:Nat);rw[K.o]at a9 ah;obtain⟨s,aa⟩:=nm (sb l);rw[aa.o]at a9⊢;by_cases a8:1<=L
 ·by_cases M:L<=16
  ·have a6:¬(L:Int)<1:=by omega
   have af:¬(16:Int)<(L:Int):=by omega
   go_enter func232,ntmps232;go_wp2_with fail;go_loop [15,3,4] (fun a1 _ _=>∃i:Nat,i<=L/\a1=.int .i64 (i:Int)/\Hd (∀j,j<i->kU (l.getD j 0)=true)) (fun a1 _ _=>L - (intOf a1).toNat)
   case atStart=>exact⟨0,Nat.zero_le _,rfl,z0 (fun j ad=>absurd ad (Nat.not_lt_zero _))⟩
   case round=>
    obtain⟨i,ao,rfl,G⟩:=hrel;by_cases ai:i<L
    ·have ag:(i:Int)<(L:Int):=by omega
     have a7:i<l.length:=by rw[K.o];exact ai
     obtain⟨y,a3⟩:=nm (((l.getD i 0).toNat:Int):Int);have al:∀w:World,(Instr.index 9 (.string s) (.int .i64 (i:Int))).run prog w=.ok (.int .u8 y) w:=fun w=>by
      rw[<-aa.o];exact z1F l i a7 _ rfl a3.o w
     have an:0<=y/\y<=255:=by have:=yW (l.getD i 0);rw[a3.o]at this;exact this
     have I:∀(_:kU (l.getD i 0)=false),Hd (kg l=false):=fun h=>z0 (z3T a7 h)
     have J:∀(_:kU (l.getD i 0)=true),Hd (∀j,j<i+1->kU (l.getD j 0)=true):=fun h=>z0 (fun j ad=>by
      rcases Nat.lt_or_ge j i with M|M
      ·exact G.o j M
      ·obtain rfl:j=i:=by omega
       exact h)
     obtain⟨F,a0,ab⟩|⟨F,a0,ab,am⟩|⟨F,a0⟩|⟨F,a0,ab⟩|⟨F,a0⟩:=z05 (l.getD i 0) y a3.o
     ·have a2:=J F;have O:¬y<97:=by omega
      have ae:¬122<y:=by omega
      clear I J F G;go_wp2;go_round
      case rel=>exact⟨i+1,by omega,by go_num,a2⟩
      case measure=>simp[intOf];omega
     ·have a2:=J F;have O:y<97:=by omega
      have a5:¬y<48:=by omega
      have aj:¬57<y:=by omega
      clear I J F G;go_wp2;go_round
      case rel=>exact⟨i+1,by omega,by go_num,a2⟩
      case measure=>simp[intOf];omega
     ·have N:=I F;clear I J F G;have O:¬y<97:=by omega
      have ae:122<y:=by omega
      have a5:¬y<48:=by omega
      have aj:57<y:=by omega
      go_wp2;go_ret;exact⟨by rw[N.o];rfl,rfl⟩
     ·have N:=I F;clear I J F G;have O:y<97:=by omega
      have a5:¬y<48:=by omega
      go_wp2;go_ret;exact⟨by rw[N.o];rfl,rfl⟩
     ·have N:=I F;clear I J F G;have O:y<97:=by omega
      go_wp2;go_ret;exact⟨by rw[N.o];rfl,rfl⟩
    ·have ag:¬(i:Int)<(L:Int):=by omega
     obtain rfl:i=L:=by omega
     have ak:=z0 (z1O (l:=l) (by rw[K.o];exact G.o));clear G;go_wp2;go_ret;exact⟨by rw[ak.o,K.o,decide_eq_true a8,decide_eq_true M];rfl,rfl⟩
  ·have a6:¬(L:Int)<1:=by omega
   have af:(16:Int)<(L:Int):=by omega
   have a4:Hd (kg l=false):=z0 (by unfold kg;rw[K.o,decide_eq_false M,Bool.and_false,Bool.and_false]);go_enter func232,ntmps232;go_wp2;go_ret;exact⟨by rw[a4.o];rfl,rfl⟩
 ·have a6:(L:Int)<1:=by omega
  have a4:Hd (kg l=false):=z0 (by unfold kg;rw[K.o,decide_eq_false a8,Bool.false_and,Bool.and_false]);go_enter func232,ntmps232;go_wp2;go_ret;exact⟨by rw[a4.o];rfl,rfl⟩
def z1X (t:YJ):Bool:=
 if t.ki=1 then decide (1<=t.to) && decide (t.to<=40) && decide (0<=t.am) && decide (t.am<=1099511627776) && decide (t.key=[]) && decide (t.val=[]) else
 if t.ki=2 then decide (t.to=0) && decide (t.am=0) && kg t.key && decide (t.val.length<=200) else
 if t.ki=3 then decide (t.to=0) && decide (t.am=0) && kg t.key && decide (t.val=[]) else false
theorem z5K (t:YJ) (w:World) (J:t.key.length<=1000000) (a0:t.val.length<=1000000):
    Calls prog 224 #[Yb t] w fun e w'=>e=.returned (.bool (z1X t))/\Below w.heap.size w w':=by
  obtain⟨fr,no,ki,F,am,key,val⟩:=t;simp only at J a0;have a6:=z0 J;have M:=Qg val;have N:=Vq key;have O:=Vq val;clear J a0;unfold Yb;simp only;obtain⟨s,I⟩:=nm (sb key);obtain⟨u,a5⟩:=nm (sb val);obtain⟨n,a4⟩:=nm (val.length:Nat);rw[I.o]at N⊢;rw[a5.o]at O M⊢;rw[a4.o]at M;obtain⟨m,G⟩:=nm (z1X ⟨fr,no,ki,F,am,key,val⟩);rw[G.o];obtain⟨aa,a3⟩:=nm (decide (key=[]));obtain⟨ab,K⟩:=nm (decide (val=[]));rw[a3.o]at N;rw[K.o]at O;go_enter func224,ntmps224;go_wp2_with fail;all_goals first
    |(have C:=fun w=>z4f key w a6.o
      rw[I.o]at C;refine(C _).mono ?_;clear C;rintro e a7 ⟨rfl,rfl⟩;obtain⟨a8,a1⟩:=nm (kg key);rw[a1.o];have ad:=a1.o
      go_wp2_with fail)
    |(refine(X5 F _).mono ?_
      rintro e a7 ⟨rfl,rfl⟩;obtain⟨ao,a2⟩:=nm ((decide (1<=F) && decide (F<=40)));rw[a2.o];have a9:=a2.o
      go_wp2_with fail)
    |skip
  all_goals
    go_ret;refine⟨?_,Ba⟩;refine congrArg (fun b=>Ending.returned (Value.bool b)) ?_;rw[<-G.o];clear G I a5 a6;unfold z1X;simp only[a3.o,K.o,a4.o]
  all_goals grind
section
attribute [local go_sem ↓] jb
theorem z5L (t:YJ):jC t=((decide (1<=t.fr) && decide (t.fr<=40)) && decide (1<=t.no) && decide (t.no<=1099511627776) && z1X t):=by
 unfold jC z1X
 grind
theorem X6 (t:YJ) (w:World) (a2:t.key.length<=1000000) (O:t.val.length<=1000000):
    Calls prog 210 #[Yb t] w fun e w'=>e=.returned (.int .i64 (if jC t=true then 0 else 1))/\Below w.heap.size w w':=by
  have K:=z0 (fun w=>z5K t w a2 O);clear a2 O;obtain⟨m,N⟩:=nm (jC t);have a1:=z0 (z5L t);rw[N.o]at *;obtain⟨a9,J⟩:=nm (z1X t);have G:=Xh w (.cells #[.int .i64 t.fr,.int .i64 t.no,.int .i64 t.ki,.int .i64 t.to,.int .i64 t.am,.string (sb t.key),.string (sb t.val)] 152);have a0:Below w.heap.size w (w.alloc (.cells #[.int .i64 t.fr,.int .i64 t.no,.int .i64 t.ki,.int .i64 t.to,.int .i64 t.am,.string (sb t.key),.string (sb t.val)] 152)):=Ba;have M:=fun W h=>Ko (w:=W) (b:=w.heap.size) (C:=#[.int .i64 t.fr,.int .i64 t.no,.int .i64 t.ki,.int .i64 t.to,.int .i64 t.am,.string (sb t.key),.string (sb t.val)]) (T:=152) h rfl;have l0:=M _ G;clear M;have F:=z0 a0;have a4:Hd (_/\_):=z0 ⟨z7 G 0,z7 G 1⟩;clear a0 G;unfold Yb;go_enter func210,ntmps210;go_upto_region 1 with(fail)
  generalize (w.alloc (.cells #[.int .i64 t.fr,.int .i64 t.no,.int .i64 t.ki,.int .i64 t.to,.int .i64 t.am,.string (sb t.key),.string (sb t.val)] 152))=w0 at *;obtain⟨c0,c1⟩:=a4.o;go_wp2_with fail;refine(X5 t.fr w0).mono ?_;rintro e a3 ⟨rfl,rfl⟩;obtain⟨ao,I⟩:=nm ((decide (1<=t.fr) && decide (t.fr<=40)));rw[I.o];have a5:=I.o;clear a5;go_wp2_with fail;all_goals first
    |(refine(K.o w0).mono ?_
      rintro e a3 ⟨rfl,a6⟩;rw[J.o]
      go_wp2_with fail)
    |skip
  all_goals
    go_ret;refine⟨?_,?_⟩
    · refine congrArg (fun b=>Ending.returned (Value.int IntKind.i64 b)) ?_
      have a8:=a1.o;have a7:=I.o;have aa:=J.o;clear a1 I J N K F l0
      grind
    · first
        |exact F.o
        |exact F.o.trans (a6.mono F.o.size)
theorem QJ (v:Value) (l:List UInt8) (n:Int) (w:World) (I:zP w v l) (K:0<=n) (O:n<9223372036854775808) (F:l.length<=1099511627000):
  Calls prog 230 #[v,.int .i64 n] w fun e w'=>∃x,e=.returned x/\ql w.heap.size w' x (l ++ dg n.toNat)/\Below w.heap.size w w':=by
 have M:IntKind.u64.wrap n=n:=qP _ (by omega) (by omega);go_enter func230,ntmps230;go_wp2_with fail;refine(Vo v l n w I K (by omega) F).mono ?_;rintro e N ⟨v1,rfl,J,G⟩;go_wp2;go_ret;exact⟨_,rfl,J,G⟩
theorem z81 (t:YJ) (w:World) (b1:jC t=true):
  Calls prog 212 #[Yb t] w fun e w'=>∃x,e=.returned x/\ql w.heap.size w' x (qY t)/\Below w.heap.size w w':=by
 obtain⟨aT,aU,aj⟩:=Vz b1;obtain⟨fr,no,ki,a0,am,key,val⟩:=t;simp only at aT aU aj;obtain⟨a,rfl⟩:=yy (i:=fr) (by omega);obtain⟨b,rfl⟩:=yy (i:=no) (by omega);obtain⟨c,rfl⟩:=yy (i:=ki) (by omega);have aI:c<128:=by omega
 have aJ:a<9223372036854775808/\b<9223372036854775808:=by omega
 unfold Yb;simp only;have aV:=fun (C:Array Value)=>Xh w (.cells C 152);have aL:=fun (C:Array Value)=>(Below.refl w.heap.size w).alloc (Nat.le_refl _) (.cells C 152);have ai:=z0 (zk (n:=a) (by omega));have aA:=z0 (zk (n:=b) (by omega));have b7:=z0 (zk (n:=c) (by omega));obtain⟨s,aw⟩:=nm (sb key);obtain⟨u,aN⟩:=nm (sb val);rw[aw.o,aN.o];have au:=aV #[.int .i64 (a:Int),.int .i64 (b:Int),.int .i64 (c:Int),.int .i64 a0,.int .i64 am,.string s,.string u];have a2:=aL #[.int .i64 (a:Int),.int .i64 (b:Int),.int .i64 (c:Int),.int .i64 a0,.int .i64 am,.string s,.string u];clear aV aL;have bb:=z0 aj;have aF:=z0 aJ;have b9:=z0 aI;clear aT aU aj aJ aI;go_enter func212,ntmps212;go_wp2_with fail;have aC:(w.alloc (.cells #[.int .i64 (a:Int),.int .i64 (b:Int),.int .i64 (c:Int),.int .i64 a0,.int .i64 am,.string s,.string u] 152)).heap.size=w.heap.size+1:=by simp
 generalize (w.alloc (.cells #[.int .i64 (a:Int),.int .i64 (b:Int),.int .i64 (c:Int),.int .i64 a0,.int .i64 am,.string s,.string u] 152))=w0 at *;have aS:=Lb au;have J:Hd (∀W:World,Below w0.heap.size w0 W->∀i,W.cell? ⟨w.heap.size,i,none⟩=#[Value.int .i64 (a:Int),.int .i64 (b:Int),.int .i64 (c:Int),.int .i64 a0,.int .i64 am,.string s,.string u][i]?):=z0 (fun W h i=>z7 ((h.block _ aS).trans au) i);clear au aS;have al:Hd (w0.heap.size=w.heap.size+1):=z0 aC;clear aC;refine(QJ _ [] (a:Int) w0 (zP.nil _) (by omega) (by have:=aF.o;omega) (by decide)).mono ?_;rintro e aK ⟨v1,rfl,an,ah⟩;rw[Int.toNat_natCast,List.nil_append]at an;have aD:=J.o aK ah 1;simp at aD;go_wp2_with fail;refine(QJ _ _ (b:Int) aK an.byt (by omega) (by have:=aF.o;omega) (by have:=ai.o;omega)).mono ?_;rintro e aM ⟨bg,rfl,ao,aG⟩;have ae:=ah.trans (aG.mono ah.size);rw[Int.toNat_natCast]at ao;have O:=J.o aM ae 2;simp at O;clear aD;go_wp2_with fail;refine(QJ _ _ (c:Int) aM ao.byt (by omega) (by have:=b9.o;omega) (by rw[List.length_append];have:=ai.o;have:=aA.o;omega)).mono ?_;rintro e a1 ⟨aW,rfl,ag,aE⟩;have I:=ae.trans (aE.mono ae.size);rw[Int.toNat_natCast,List.append_assoc]at ag;have O:=J.o a1 I 2;have ab:=J.o a1 I 3;have ad:=J.o a1 I 5;simp at O ab ad;obtain⟨P,a8⟩:=nm (dg a ++ (dg b ++ dg c):List UInt8);have a6:Hd (P.length<=30):=z0 (by rw[<-a8.o,List.length_append,List.length_append];have:=ai.o;have:=aA.o;have:=b7.o;omega);rw[a8.o]at ag;have ak:=ag.byt;clear an ao ag aG aE ah ae;obtain⟨a7,aY,aZ,rfl,rfl⟩|⟨a7,rfl,rfl,K,az⟩|⟨a7,rfl,rfl,K,rfl⟩:=bb.o
 ·obtain⟨d,rfl⟩:=yy (i:=a0) (by omega);obtain⟨f,rfl⟩:=yy (i:=am) (by omega);obtain rfl:c=1:=by omega
  have aB:d<9223372036854775808/\f<9223372036854775808:=by omega
  have aR:=z0 aB;have aX:=z0 (zk (n:=d) (by omega));clear a7 aY aZ aB;go_wp2_with fail;refine(QJ _ _ (d:Int) a1 ak (by omega) (by have:=aR.o;omega) (by have:=a6.o;omega)).mono ?_;rintro e a3 ⟨aa,rfl,aQ,M⟩;have F:=I.trans (M.mono I.size);rw[Int.toNat_natCast]at aQ;have aP:=J.o a3 F 4;simp at aP;clear O ab ad;go_wp2_with fail;refine(QJ _ _ (f:Int) a3 aQ.byt (by omega) (by have:=aR.o;omega) (by rw[List.length_append];have:=a6.o;have:=aX.o;omega)).mono ?_;rintro e w5 ⟨a5,rfl,G,a4⟩;have N:=F.trans (a4.mono F.size);rw[Int.toNat_natCast]at G;clear aP;go_wp2;go_ret;refine⟨a5,rfl,?_,a2.trans (N.mono a2.size)⟩;rw[z03];rw[<-a8.o]at G;simp only[List.append_assoc]at G;exact G.more (by have:=al.o;have:=F.size;omega)
 ·have ap:=z0 (show key.length<=maxLen by have:=jq K;unfold maxLen;omega);have ba:=z0 (show val.length<=maxLen by unfold maxLen;omega);have af:=z0 (show key.length<=16 by have:=jq K;omega);have b4:=z0 az;obtain rfl:c=2:=by omega
  clear a7 K az;obtain⟨aa,a3,a9,ax,M⟩:=Kl key a1 ap.o;rw[aw.o]at a9;have F:=I.trans (M.mono I.size);have av:=ak.below M;go_wp2_with fail;refine(XQ aW aa P key a3 av ax (by have:=a6.o;omega) (by have:=af.o;omega)).mono ?_;rintro e w5 ⟨a5,rfl,G,a4⟩;have N:=F.trans (a4.mono F.size);have ay:=J.o w5 N 6;simp at ay;obtain⟨be,b8,aO,bc,aH⟩:=Kl val w5 ba.o;rw[aN.o]at aO;have aq:=N.trans (aH.mono N.size);have b6:=G.byt.below aH;clear a9 O ab ad;go_wp2_with fail;refine(XQ a5 be (P ++ tx key) val b8 b6 bc (by rw[List.length_append,YM];have:=a6.o;have:=af.o;have:=zk (n:=key.length) (by omega);omega) (by have:=b4.o;omega)).mono ?_;rintro e bf ⟨bd,rfl,ar,b5⟩;have b0:=aq.trans (b5.mono aq.size);clear aO ay;go_wp2;go_ret;refine⟨bd,rfl,?_,a2.trans (b0.mono a2.size)⟩;rw[z04];rw[<-a8.o]at ar;simp only[List.append_assoc]at ar;exact ar.more (by have:=al.o;have:=aq.size;omega)
 ·have ap:=z0 (show key.length<=maxLen by have:=jq K;unfold maxLen;omega);have af:=z0 (show key.length<=16 by have:=jq K;omega);obtain rfl:c=3:=by omega
  clear a7 K;obtain⟨aa,a3,a9,ax,M⟩:=Kl key a1 ap.o;rw[aw.o]at a9;have F:=I.trans (M.mono I.size);have av:=ak.below M;go_wp2_with fail;refine(XQ aW aa P key a3 av ax (by have:=a6.o;omega) (by have:=af.o;omega)).mono ?_;rintro e w5 ⟨a5,rfl,G,a4⟩;have N:=F.trans (a4.mono F.size);clear a9 O ab ad;go_wp2;go_ret;refine⟨a5,rfl,?_,a2.trans (N.mono a2.size)⟩;rw[VA];rw[<-a8.o]at G;simp only[List.append_assoc]at G;exact G.more (by have:=al.o;have:=F.size;omega)
theorem z9G:zaT:=by
 intro v l t w a6 hl aj;obtain⟨ai,ad⟩:=aj;have ah:=z0 (fun w=>X6 t w (by omega) (by omega));obtain⟨m,I⟩:=nm (jC t);have ak:=z0 (fun w (h:jC t=true)=>z81 t w h);have a7:=z0 hl;clear ai ad hl;have M:=Xh w (.cells #[.int .i64 t.fr,.int .i64 t.no,.int .i64 t.ki,.int .i64 t.to,.int .i64 t.am,.string (sb t.key),.string (sb t.val)] 152);have N:Below w.heap.size w (w.alloc (.cells #[.int .i64 t.fr,.int .i64 t.no,.int .i64 t.ki,.int .i64 t.to,.int .i64 t.am,.string (sb t.key),.string (sb t.val)] 152)):=Ba;have aa:Hd (z7E l t=if m=true then l ++ qY t else l):=z0 (by unfold z7E;rw[I.o]);unfold Yb;go_enter func194,ntmps194;go_upto_region 1 with(fail)
 generalize (w.alloc (.cells #[.int .i64 t.fr,.int .i64 t.no,.int .i64 t.ki,.int .i64 t.to,.int .i64 t.am,.string (sb t.key),.string (sb t.val)] 152))=w0 at *;have a5:=Lb M;have a4:Hd (∀W:World,Below w0.heap.size w0 W->kC (.pointer (some ⟨w.heap.size,0,none⟩)) W=.ok (.value (.agg #[.int .i64 t.fr,.int .i64 t.no,.int .i64 t.ki,.int .i64 t.to,.int .i64 t.am,.string (sb t.key),.string (sb t.val)])) W):=z0 (fun W h=>Ko ((h.block _ a5).trans M) rfl);have l0:=a4.o w0 (Below.refl _ _);clear M a5;have af:=a6.below N;have a3:=z0 N;clear N a6;go_wp2_with fail;refine(ah.o w0).mono ?_;rintro e G ⟨rfl,a1⟩;rw[I.o];have F:=a3.o.trans (a1.mono a3.o.size);have a2:=af.below a1;cases m with
 |false=>
  obtain⟨A,c,rfl⟩:=a2.shape;clear l0;go_wp2_with fail;refine(zaQ _ l G.heap.size _ (G.alloc (.cells #[.slice A l.length c] 33)) (by simp) (by simp) (a2.alloc _) (by have:=a7.o;omega)).mono ?_;rintro e a0 ⟨x,rfl,K,J⟩;go_wp2;go_ret;refine⟨x,rfl,by rw[aa.o];exact K.byt,?_⟩;exact(F.alloc F.size _).trans (J.mono (by have:=F.size;simp;omega))
 |true=>
  have l1:=a4.o G a1;clear l0;go_wp2_with fail;refine(ak.o G I.o).mono ?_;rintro e a0 ⟨x,rfl,K,J⟩;have O:=F.trans (J.mono F.size);have a9:=a2.below J;have a8:=K.byt;obtain⟨A,c,rfl⟩:=a9.shape;obtain⟨al,ab,rfl⟩:=a8.shape;clear l1;go_wp2_with fail;have ao:(qY t).length<=1000000:=Nat.le_trans (Yc I.o) (by decide);refine(Xz _ _ l (qY t) a0.heap.size _ (a0.alloc (.cells #[.slice A l.length c,.slice al (qY t).length ab] 33)) (by simp) (by simp) (by simp) (a9.alloc _) (a8.alloc _) (by have:=a7.o;omega)).mono ?_;rintro e an ⟨y,rfl,ag,ae⟩;go_wp2;go_ret;refine⟨y,rfl,by rw[aa.o];exact ag.byt,?_⟩;exact(O.alloc O.size _).trans (ae.mono (by have:=O.size;simp;omega))
end
end Go.Proofs.YtjlinimnnbfmaaaGreatDoor
