/-
  The document's answer behind a step: tithingref17.keep. Printed with genteref.py.
-/
import Derived.Test.YtjlinimnnbfmaaaGreatDoorPlTeEq
import Derived.Test.YtjlinimnnbfmaaaGreatDoorPlBs21
set_option maxRecDepth 20000
set_option maxHeartbeats 6400000
namespace Go.Proofs.YtjlinimnnbfmaaaGreatDoor
open Go.RowKit Go.Proofs.Tryz
section
def rtl (i n:Int) (C S:Array Value) (h:Bool) (e:Int):List Value:=[.int .i64 i,.int .i64 n] ++ (C.toList ++ (S.toList ++ [.bool h,.int .i64 e]))
def Qa (i n:Int) (C S:Array Value) (h:Bool) (e:Int):Array Value:=(rtl i n C S h e).toArray
structure Ki (w:World) (D C:Array Value) (t:Zl):Prop where
 c:vd w C t.V
 d:D=Qa t.i t.n C (zp t.s) (t.e != 0) t.e
theorem ja {i n:Int}{C S:Array Value}{h:Bool}{e:Int} (G:C.size=8) (F:S.size=35):(Qa i n C S h e).size=47:=by
 unfold Qa rtl;simp[G,F]
theorem Kd {i n:Int}{C S:Array Value}{h:Bool}{e:Int} (I:C.all (·.oneCell')=true) (G:S.all (·.oneCell')=true):(Qa i n C S h e).all (·.oneCell')=true:=by
 unfold Qa;refine all_oneCell_toArray (fun u F=>?_);unfold rtl at F;simp only[List.mem_append,List.mem_cons,List.not_mem_nil,or_false]at F;rcases F with(rfl|rfl)|F|F|rfl|rfl
 ·rfl
 ·rfl
 ·exact(Array.all_eq_true_iff_forall_mem.1 I) u (by simpa using F)
 ·exact(Array.all_eq_true_iff_forall_mem.1 G) u (by simpa using F)
 ·rfl
 ·rfl
section
variable {w w':World}{D C:Array Value}{t:Zl}
theorem Ki.size (h:Ki w D C t) (F:t.s.Ok):D.size=47:=by
 rw[h.d];exact ja h.c.size (zd F)
theorem Ki.one (h:Ki w D C t):D.all (·.oneCell')=true:=by
 rw[h.d];exact Kd h.c.one (y7 _)
theorem Ki.away (h:Ki w D C t) (G:w.heap.size<=w'.heap.size) (F:∀(k:Nat) (C:Array Value),w.heap[k]?=some (Obj.cells C 5 (0,0))->w'.heap[k]?=w.heap[k]?):Ki w' D C t:=⟨h.c.away G F,h.d⟩
theorem Ki.below (h:Ki w D C t) (F:Below w.heap.size w w'):Ki w' D C t:=⟨h.c.below F,h.d⟩
theorem Ki.aside (h:Ki w D C t) {p:Nat}{Z:Array Value}{U:TypeId} (hp:w.heap[p]?=some (.cells Z U (0,0))) (G:5≠U) (I:w.heap.size<=w'.heap.size) (F:∀k,k≠p->w'.heap[k]?=w.heap[k]?):Ki w' D C t:=
 h.away I (fun k _ h1=>F k (q9 h1 hp G))
end
structure zdB (W:World) (g:Nat) (i n:Int) (C S:Array Value) (h:Bool) (e:Int):Prop where
 i:W.cell? ⟨g,0,none⟩=some (.int .i64 i)
 n:W.cell? ⟨g,1,none⟩=some (.int .i64 n)
 v:xR (.pointer (some ⟨g,2,none⟩)) W=.ok (.value (.agg C)) W
 s:zW (.pointer (some ⟨g,10,none⟩)) W=.ok (.value (.agg S)) W
 h:W.cell? ⟨g,45,none⟩=some (.bool h)
 e:W.cell? ⟨g,46,none⟩=some (.int .i64 e)
 r:W.rangeAt g 2 C.toList
theorem z6N {w:World}{g o:Nat}{C:Array Value} (F:w.rangeAt g o C.toList) (G:C.size=8):xR (.pointer (some ⟨g,o,none⟩)) w=.ok (.value (.agg C)) w:=by
 have:=run_loadAt_mid (P:=prog) w g o 36 C.toList _ F VW rfl (by rw[Ju];simp[G]);simp only[Array.toArray_toList]at this;unfold xR execOp;simp only[Sem.run_bind,this,Result.andThen_ok,Sem.run_pure]
theorem z6O {w:World}{g o:Nat}{S:Array Value} (F:w.rangeAt g o S.toList) (G:S.size=35):zW (.pointer (some ⟨g,o,none⟩)) w=.ok (.value (.agg S)) w:=by
 have:=run_loadAt_mid (P:=prog) w g o 40 S.toList _ F xi rfl (by rw[xj];simp[G]);simp only[Array.toArray_toList]at this;unfold zW execOp;simp only[Sem.run_bind,this,Result.andThen_ok,Sem.run_pure]
section
variable {W:World}{g:Nat}{i n e:Int}{C S:Array Value}{h:Bool}{T:TypeId}
theorem Ji (i n:Int) (C S:Array Value) (h:Bool) (e:Int):Qa i n C S h e=(([Value.int .i64 i,Value.int .i64 n] ++ C.toList) ++ (S.toList ++ [Value.bool h,Value.int .i64 e])).toArray:=by
 unfold Qa rtl;rw[List.append_assoc]
theorem Zs (hg:W.heap[g]?=some (.cells (Qa i n C S h e) T (0,0))) (I:C.size=8) (F:S.size=35):zdB W g i n C S h e:=by
 have h2:=hg;rw[Ji]at h2;have hl:([.int .i64 i,.int .i64 n] ++ C.toList:List Value).length=10:=by simp[I]
 have G:W.rangeAt g 2 C.toList:=KM (pre:=[.int .i64 i,.int .i64 n]) hg rfl;refine⟨ZE (pre:=[.int .i64 i,.int .i64 n]) hg (by simp),ZE (pre:=[.int .i64 i,.int .i64 n]) hg (by simp),z6N G I,z6O (KM h2 hl.symm) F,?_,?_,G⟩
 ·exact ZD (j:=0) h2 (by rw[hl,Array.length_toList,F])
 ·exact ZD (j:=1) h2 (by rw[hl,Array.length_toList,F])
theorem z7s (hg:W.heap[g]?=some (.cells (Qa i n C S h e) T (0,0))) {C':Array Value} (G:C.size=8) (F:C'.size=8) (h1:C'.all (·.oneCell')=true):
  xr (.pointer (some ⟨g,2,none⟩)) (.agg C') W=.ok .skip (jA W g 2 C')/\(jA W g 2 C').heap[g]?=some (.cells (Qa i n C' S h e) T (0,0)):=by
 refine⟨?_,Vj (pre:=[.int .i64 i,.int .i64 n]) hg (by rw[Array.length_toList,G,F]) rfl⟩;have:=run_storeAt_mid (P:=prog) W g 2 36 C' (z2l hg (by rw[F];unfold Qa rtl;simp[G])) (by rw[Ju,F]) h1;unfold xr execOp;simp only[Sem.run_bind,Sem.run_pure,Result.andThen_ok,this];rfl
theorem zbU (hg:W.heap[g]?=some (.cells (Qa i n C S h e) T (0,0))) {F:Array Value} (I:C.size=8) (G:S.size=35) (J:F.size=35) (h1:F.all (·.oneCell')=true):
  yF (.pointer (some ⟨g,10,none⟩)) (.agg F) W=.ok .skip (jA W g 10 F)/\(jA W g 10 F).heap[g]?=some (.cells (Qa i n C F h e) T (0,0)):=by
 refine⟨Xl hg J h1 (by rw[ja I G];omega),?_⟩;have h2:=hg;rw[Ji]at h2;rw[Ji];exact Vj h2 (by rw[Array.length_toList,G,J]) (by simp[I])
theorem zbV (hg:W.heap[g]?=some (.cells (Qa i n C S h e) T (0,0))) (G:C.size=8) (F:S.size=35) (q:Bool):(W.setCell ⟨g,45,none⟩ (.bool q)).heap[g]?=some (.cells (Qa i n C S q e) T (0,0)):=by
 rw[yA W hg,Ji,Zc rfl (j:=0) (by simp[G,F])];rw[Ji];rfl
theorem zbW (hg:W.heap[g]?=some (.cells (Qa i n C S h e) T (0,0))) (G:C.size=8) (F:S.size=35) (q:Int):(W.setCell ⟨g,46,none⟩ (.int .i64 q)).heap[g]?=some (.cells (Qa i n C S h q) T (0,0)):=by
 rw[yA W hg,Ji,Zc rfl (j:=1) (by simp[G,F])];rw[Ji];rfl
end
theorem z15:prog.underlying 42=some (.struct (prog.fieldsOf 42)):=by kernel_rfl
theorem XL:(prog.info? 42).map (·.size)=some 47:=by kernel_rfl
noncomputable def jp (v : Value) (w : World) : Result Next := Sem.run prog (execOp (fun _ => v) { dst := none, op := .load 42 (.tmp 0), type := 0, pos := "", after := #[], guard := none }) w
theorem kf (r:Operand->Value) (x:Operand) (dst:Option Tmp) (ty:TypeId) (pos:String) (after:Array Edge) (guard:Option (Nat×Bool)) (w:World):
  Sem.run prog (execOp r { dst:=dst,op:=.load 42 x,type:=ty,pos:=pos,after:=after,guard:=guard }) w=jp (r x) w:=rfl
theorem qs {w:World}{g:Nat}{C:Array Value}{T:TypeId} (h:w.heap[g]?=some (.cells C T (0,0))) (G:C.size=47):jp (.pointer (some ⟨g,0,none⟩)) w=.ok (.value (.agg C)) w:=by
 have:=run_loadAt_mid (P:=prog) w g 0 42 C.toList _ (fun j v F=>by rw[Nat.zero_add,z7 h j];simpa using F) z15 rfl (by rw[XL];simp[G]);simp only[Array.toArray_toList]at this;unfold jp execOp;simp only[Sem.run_bind,this,Result.andThen_ok,Sem.run_pure]
def rtZ:Array Value:=Qa 0 0 xq (zp yj) false 0
theorem zbX:(prog.info? 42).bind (·.zero)=some (.agg rtZ):=by kernel_rfl
theorem z5i (w:World):(zeroValue 42).run prog w=.ok (.agg rtZ) w:=by
 have h:=zbX;cases hq:prog.info? 42 with
 |none=>rw[hq]at h;cases h
 |some i=>
  rw[hq]at h;have F:i.zero=some (.agg rtZ):=h;simp[zeroValue,typeInfo,hq,F]
noncomputable def jD (w : World) : Result Next := Sem.run prog (execOp (fun _ => undef) { dst := none, op := .alloc 42, type := 0, pos := "", after := #[], guard := none }) w
theorem kt (r:Operand->Value) (dst:Option Tmp) (ty:TypeId) (pos:String) (after:Array Edge) (guard:Option (Nat×Bool)) (w:World):
  Sem.run prog (execOp r { dst:=dst,op:=.alloc 42,type:=ty,pos:=pos,after:=after,guard:=guard }) w=jD w:=rfl
theorem kG (w:World):jD w=.ok (.value (.pointer (some ⟨w.heap.size,0,none⟩))) (w.alloc (.cells rtZ 42)):=by
 unfold jD execOp;simp only[Sem.run_bind,Instr.alloc,z5i,newVar,newRow,run_newObj_alloc,Sem.run_pure,Result.andThen_ok,Value.cells]
noncomputable def Jw (p v:Value) (w:World):Result Next:=Sem.run prog (execOp (fun x=>match x with
 | .tmp 0=>p
 | _ => v) { dst := none, op := .store 42 (.tmp 0) (.tmp 1), type := 0, pos := "", after := #[], guard := none }) w
theorem ku (r:Operand->Value) (x y:Operand) (dst:Option Tmp) (ty:TypeId) (pos:String) (after:Array Edge) (guard:Option (Nat×Bool)) (w:World):
  Sem.run prog (execOp r { dst:=dst,op:=.store 42 x y,type:=ty,pos:=pos,after:=after,guard:=guard }) w=Jw (r x) (r y) w:=rfl
theorem Qb {w:World}{g:Nat}{t:TypeId}{C0 C:Array Value} (hg:w.heap[g]?=some (.cells C0 t (0,0))) (h0:C0.size=47) (F:C.size=47) (h1:C.all (·.oneCell')=true):
  Jw (.pointer (some ⟨g,0,none⟩)) (.agg C) w=.ok .skip (setSe w g C):=by
 have:=run_storeVar_row (P:=prog) w g t 42 C0 C hg (by rw[XL,F]) (by rw[h0,F]) h1;unfold Jw execOp;simp only[Instr.storeAt,Instr.sureAddr,Sem.run_bind,Sem.run_pure,Result.andThen_ok,this];rfl
noncomputable def Ke (v p q x y z:Value) (w:World):Result Next:=Sem.run prog (execOp (fun k=>match k with
 | .tmp 0=>v
 | .tmp 1=>p
 | .tmp 2=>q
 | .tmp 3=>x
 | .tmp 4=>y
 | _ => z) { dst := none, op := .build 42 #[(0, .tmp 0), (1, .tmp 1), (2, .tmp 2), (3, .tmp 3), (4, .tmp 4), (5, .tmp 5)], type := 0, pos := "", after := #[], guard := none }) w
theorem xx (r:Operand->Value) (x0 x1 x2 I F G:Operand) (dst:Option Tmp) (ty:TypeId) (pos:String) (after:Array Edge) (guard:Option (Nat×Bool)) (w:World):
  Sem.run prog (execOp r { dst:=dst,op:=.build 42 #[(0,x0),(1,x1),(2,x2),(3,I),(4,F),(5,G)],type:=ty,pos:=pos,after:=after,guard:=guard }) w=Ke (r x0) (r x1) (r x2) (r I) (r F) (r G) w:=by
 unfold Ke execOp;simp
theorem zbY (i n:Int) (C S:Array Value) (F:C.size=8) (I:S.size=35):List.foldl (fun (cs:Array Value) (x:Value×Nat)=>cs.setIfInBounds (10+x.2) x.1) (List.foldl (fun (cs:Array Value) (x:Value×Nat)=>cs.setIfInBounds (2+x.2) x.1) (Qa i n xq (zp yj) false 0) C.toList.zipIdx) S.toList.zipIdx=Qa i n C S false 0:=by
 have G:List.foldl (fun (cs:Array Value) (x:Value×Nat)=>cs.setIfInBounds (2+x.2) x.1) (Qa i n xq (zp yj) false 0) C.toList.zipIdx=Qa i n C (zp yj) false 0:=(yp C.toList 0 2 _).trans (yI C.toList [Value.int .i64 i,Value.int .i64 n] xq.toList ((zp yj).toList ++ [Value.bool false,Value.int .i64 0]) (by rw[Array.length_toList,Array.length_toList,F];rfl));rw[G,Ji,Ji,yp S.toList 0 10];have:=yI S.toList ([Value.int .i64 i,Value.int .i64 n] ++ C.toList) (zp yj).toList [Value.bool false,Value.int .i64 0] (by rw[Array.length_toList,Array.length_toList,I,zd qp]);rw[show([Value.int .i64 i,Value.int .i64 n] ++ C.toList:List Value).length=10+0 by simp[F]]at this;exact this
theorem Xm (i n:Int) (C S:Array Value) (F:C.size=8) (I:S.size=35) (h:Bool) (e:Int) (w:World):Ke (.int .i64 i) (.int .i64 n) (.agg C) (.agg S) (.bool h) (.int .i64 e) w=.ok (.value (.agg (Qa i n C S h e))) w:=by
 have a1:C.zipIdx=(C.toList.zipIdx).toArray:=by cases C;simp
 have a0:S.zipIdx=(S.toList.zipIdx).toArray:=by cases S;simp
 have K:=zbY i n C S F I;obtain⟨G,J⟩:∃x,C.toList.zipIdx=x:=⟨_,rfl⟩
 obtain⟨M,N⟩:∃x,S.toList.zipIdx=x:=⟨_,rfl⟩
 rw[J,N]at K;rw[J]at a1;rw[N]at a0;have s1:(List.foldl (fun (cs:Array Value) (x:Value×Nat)=>cs.setIfInBounds (2+x.2) x.1) (Qa i n xq (zp yj) false 0) G).size=47:=by
  rw[<-J,yp C.toList 0 2];have:=yI C.toList [Value.int .i64 i,Value.int .i64 n] xq.toList ((zp yj).toList ++ [Value.bool false,Value.int .i64 0]) (by rw[Array.length_toList,Array.length_toList,F];rfl);have e:JG (Qa i n xq (zp yj) false 0) (2+0) C.toList=Qa i n C (zp yj) false 0:=this;rw[e];exact ja F (zd qp)
 have key:∀Z:Array Value,Z=Qa i n xq (zp yj) false 0->(List.foldl (fun (cs:Array Value) (x:Value×Nat)=>cs.setIfInBounds (2+x.2) x.1) Z G).size=47/\(List.foldl (fun (cs:Array Value) (x:Value×Nat)=>cs.setIfInBounds (10+x.2) x.1) (List.foldl (fun (cs:Array Value) (x:Value×Nat)=>cs.setIfInBounds (2+x.2) x.1) Z G) M).size=47/\((List.foldl (fun (cs:Array Value) (x:Value×Nat)=>cs.setIfInBounds (10+x.2) x.1) (List.foldl (fun (cs:Array Value) (x:Value×Nat)=>cs.setIfInBounds (2+x.2) x.1) Z G) M).setIfInBounds 45 (.bool h)).setIfInBounds 46 (.int .i64 e)=Qa i n C S h e:=by
  intro Z O;subst O;refine⟨s1,by rw[K];exact ja F I,?_⟩;rw[K,Ji,Zc rfl (j:=0) (by simp[F,I]),Zc rfl (j:=1) (by simp[F,I]),Ji];rfl
 unfold Ke;go_simp;rw[if_neg (by rw[(key _ (by rfl)).1];omega),if_neg (by rw[(key _ (by rfl)).2.1];omega),if_neg (by rw[(key _ (by rfl)).2.1];omega),(key _ (by rfl)).2.2];rfl
theorem vd.aside {w w':World}{C:Array Value}{V:yV} (h:vd w C V) {p:Nat}{Z:Array Value}{U:TypeId} (hp:w.heap[p]?=some (.cells Z U (0,0))) (G:5≠U) (I:w.heap.size<=w'.heap.size) (F:∀k,k≠p->w'.heap[k]?=w.heap[k]?):vd w' C V:=
 h.away I (fun k _ h1=>F k (q9 h1 hp G))
theorem Xn {I:Func}{q s:Tmp} (h:I.results=#[.cell q 42,.tmp s]) (tmps:Array Value) (w:World) (F:Nat) (J:TypeId) (G:Array Value) (v:Value)
  (hq:tmps.getD q undef=.pointer (some ⟨F,0,none⟩)) (K:tmps.getD s undef=v) (h2:w.heap[F]?=some (.cells G J (0,0))) (O:G.size=47):
  (results I tmps).run prog w=.ok (.tuple #[.agg G,v]) w:=by
 have N:tmps[q]?.getD undef=.pointer (some ⟨F,0,none⟩):=by simpa using hq
 have M:tmps[s]?.getD undef=v:=by simpa using K
 have r2:=run_loadVar_row (P:=prog) w F J 42 G (0,0) _ h2 z15 rfl (by rw[XL,O]);simp[results,h,N,M,asAddr,r2]
theorem yE {M:Func}{p q s:Tmp} (h:M.results=#[.cell p 42,.cell q 54,.tmp s]) (tmps:Array Value) (w:World) (J F:Nat) (N K:TypeId) (G I:Array Value) (v:Value)
  (hp:tmps.getD p undef=.pointer (some ⟨J,0,none⟩)) (hq:tmps.getD q undef=.pointer (some ⟨F,0,none⟩)) (O:tmps.getD s undef=v) (h1:w.heap[J]?=some (.cells G N (0,0))) (h2:w.heap[F]?=some (.cells I K (0,0))) (hx:G.size=47) (a3:I.size=101):
  (results M tmps).run prog w=.ok (.tuple #[.agg G,.agg I,v]) w:=by
 have a1:tmps[p]?.getD undef=.pointer (some ⟨J,0,none⟩):=by simpa using hp
 have a2:tmps[q]?.getD undef=.pointer (some ⟨F,0,none⟩):=by simpa using hq
 have a0:tmps[s]?.getD undef=v:=by simpa using O
 have r1:=run_loadVar_row (P:=prog) w J N 42 G (0,0) _ h1 z15 rfl (by rw[XL,hx]);have r2:=run_loadVar_row (P:=prog) w F K 54 I (0,0) _ h2 jF rfl (by rw[vE,a3]);simp[results,h,a1,a2,a0,asAddr,r1,r2]
end
section
attribute [local go_sem ↓] zm zq zr ze zn zo zM qL qv qw kf kt ku xx
def zaB (t:Zl) (w:World) (e:Ending) (w':World):Prop:=∃D C,e=.returned (.tuple #[.agg D,.int .i64 t.e])/\Ki w' D C t/\Below w.heap.size w w'
theorem z16 {w:World}{V:yV}{C:Array Value} (hC:vd w C V) (G:V.Good) {i n:Int} (hK:yB 0 w):Calls prog 9 #[.int .i64 i,.int .i64 n,.agg C] w (zaB (jz i n V) w):=by
 have HLD:=z0 (fun W (hb:Below w.heap.size w W)=>JN V C W (hC.below hb) G (hK.below hb));have HKP:=z0 (fun W (hb:Below w.heap.size w W)=>Qz V C (jH V) W (hC.below hb) G (kZ V) (hK.below hb));have HCC:=z0 (fun W (hb:Below w.heap.size w W)=>hC.below hb);have HCS:=z0 (And.intro hC.size hC.one);have HSO:=z0 (kZ V);obtain⟨s,HSS⟩:=nm (jH V);obtain⟨E,HEE⟩:=nm (vH V);rw[HSS.o]at HLD HKP HSO;rw[HEE.o]at HLD;have HSZ:=z0 (And.intro (zd HSO.o) (y7 s));obtain⟨S,HS⟩:=nm (zp s);rw[HS.o]at HLD HKP HSZ;obtain⟨ZS,HZS⟩:=nm (zp yj);have HZSS:Hd (ZS.size=35):=z0 (by rw[<-HZS.o];exact zd qp);have HLS:Hd (∀W,qj W=.ok (.value (.pointer (some ⟨W.heap.size,0,none⟩))) (W.alloc (.cells ZS 40))):=z0 (fun W=>by rw[<-HZS.o];exact zX W);obtain⟨ZT,HZT⟩:=nm (rtZ);obtain⟨ZA,HZA⟩:=nm (zy ju);have HZZ:Hd (ZT.size=47/\ZA.size=101):=z0 (by rw[<-HZT.o,<-HZA.o];exact⟨ja rfl (zd qp),zg qf⟩);have HLT:Hd (∀W,jD W=.ok (.value (.pointer (some ⟨W.heap.size,0,none⟩))) (W.alloc (.cells ZT 42))):=z0 (fun W=>by rw[<-HZT.o];exact kG W);have HLA:Hd (∀W,zt W=.ok (.value (.pointer (some ⟨W.heap.size,0,none⟩))) (W.alloc (.cells ZA 54))):=z0 (fun W=>by rw[<-HZA.o];exact zC W);have HBA:Hd (∀W,qS W=.ok (.value (.agg ZA)) W):=z0 (fun W=>by rw[<-HZA.o];exact qi W);have hal0:jD (w.alloc (.cells C 36))=.ok (.value (.pointer (some ⟨w.heap.size+1,0,none⟩))) ((w.alloc (.cells C 36)).alloc (.cells ZT 42)):=by
  have:=HLT.o (w.alloc (.cells C 36))
  rwa[show((w.alloc (.cells C 36))).heap.size=w.heap.size+1 from by simp]at this
 obtain⟨hr0,hr1⟩:=qM w (.cells C 36) (.cells ZT 42);have HBZ:Hd (Below w.heap.size w ((w.alloc (.cells C 36)).alloc (.cells ZT 42))):=z0 (((Below.refl w.heap.size w).alloc (Nat.le_refl _) _).alloc (by simp;try omega) _);have HR0:=z0 (show((w.alloc (.cells C 36)).alloc (.cells ZT 42)).heap[w.heap.size]?=some (.cells C 36 (0,0)) from hr0);have HR1:=z0 (show((w.alloc (.cells C 36)).alloc (.cells ZT 42)).heap[w.heap.size+1]?=some (.cells ZT 42 (0,0)) from hr1);clear hr0 hr1;clear hC G hK;go_enter func9,ntmps9;go_upto_region 1 with(fail)
 clear hal0;generalize ((w.alloc (.cells C 36)).alloc (.cells ZT 42))=wz at *;have lv:=j3 HR0.o HCS.o.1;go_wp2_with fail;refine(HLD.o wz HBZ.o).mono ?_;rintro e w1 ⟨rfl,hb1⟩;have hal:=HLS.o w1;have hst:=kF w1 HZSS.o HSZ.o.1 HSZ.o.2;have hb2:Below wz.heap.size wz (w1.alloc (.cells S 40)):=hb1.alloc hb1.size _;have HB2:=z0 (HBZ.o.trans (hb2.mono HBZ.o.size));have HV2:=z0 ((hb2.block _ (Lb HR0.o)).trans HR0.o);have HT2:=z0 ((hb2.block _ (Lb HR1.o)).trans HR1.o);have HSR:=z0 (Xh w1 (.cells S 40));clear lv hb1 hb2;go_upto_region 2 with(fail)
 clear hal hst;generalize (w1.alloc (.cells S 40))=w2 at *;generalize w1.heap.size=p2 at *;by_cases hE:E=0
 ·subst hE;have lv:=j3 HV2.o HCS.o.1;have ls:=zj HSR.o HSZ.o.1;obtain⟨E2,HE2⟩:=nm (yM V s);obtain⟨V2,HV2V⟩:=nm (yq V s);rw[HE2.o,HV2V.o]at HKP;have HQ:Hd (jz i n V=⟨i,n,V2,s,E2⟩):=z0 (by unfold jz;rw[if_pos HEE.o,HSS.o,HE2.o,HV2V.o]);go_upto_region 3 with(fail)
  go_wp2_with fail;refine(HKP.o w2 HB2.o).mono ?_;rintro e w3 ⟨C2,rfl,hC2,hb3⟩;have HCS2:=z0 (And.intro hC2.size hC2.one);have hv3:=(hb3.block _ (Lb HV2.o)).trans HV2.o;have hst:=Yk hv3 HCS.o.1 HCS2.o.1 HCS2.o.2;have HV4:=z0 (qG (C:=C2) hv3);have HB3:=z0 (HB2.o.trans (hb3.mono HB2.o.size));have HBW:=z0 (zR (C:=C2) HB3.o (Nat.le_refl w.heap.size));have HT4:=z0 ((zl w3 C2 (show w.heap.size+1≠w.heap.size by omega)).trans ((hb3.block _ (Lb HT2.o)).trans HT2.o));have HSR4:=z0 ((zl w3 C2 (Vf ((hb3.block _ (Lb HSR.o)).trans HSR.o) hv3 (by decide))).trans ((hb3.block _ (Lb HSR.o)).trans HSR.o));have HC4:=z0 (vd.aside hC2 hv3 (by decide) (Below.size (zR (C:=C2) (Below.refl 0 _) (Nat.zero_le _))) (fun k hk=>zl w3 C2 hk));clear hv3 hb3 hC2 lv ls HSR;go_upto_region 4 with(fail)
  clear hst;generalize (setSe w3 w.heap.size C2)=w4 at *;have HSR:=z0 HSR4.o;have lv:=j3 HV4.o HCS2.o.1;have ls:=zj HSR.o HSZ.o.1;obtain⟨hb,HHB⟩:=nm ((E2 != 0));have hne:(E2 != 0)=hb:=HHB.o;have hbu:=Xm i n C2 S HCS2.o.1 HSZ.o.1 hb E2 w4;have hD:(Qa i n C2 S hb E2).size=47:=ja HCS2.o.1 HSZ.o.1;have hst:=Qb HT4.o HZZ.o.1 hD (Kd HCS2.o.2 HSZ.o.2);have HRP:=z0 (qG (C:=Qa i n C2 S hb E2) HT4.o);have HBP:=z0 (zR (C:=Qa i n C2 S hb E2) HBW.o (show w.heap.size<=w.heap.size+1 by omega));have HCP:=z0 (vd.aside HC4.o HT4.o (by decide) (Below.size (zR (C:=Qa i n C2 S hb E2) (Below.refl 0 _) (Nat.zero_le _))) (fun k hk=>zl w4 _ hk));have HDS:=z0 hD;obtain⟨D,HDD⟩:=nm (Qa i n C2 S hb E2);rw[HDD.o]at hbu hst HRP HBP HCP HDS;clear hD;go_wp2;try simp only[Exit.inBlock,Exit.then]
  refine Bp (Xn rfl _ _ _ _ _ _ rfl rfl HRP.o HDS.o) rfl ⟨D,C2,?_,⟨?_,?_⟩,HBP.o⟩
  ·rw[HQ.o];try rfl
  ·rw[HQ.o];exact HCP.o
  ·rw[HQ.o,<-HDD.o,<-HS.o,<-HHB.o]
 ·have HQ:Hd (jz i n V=⟨i,n,V,s,E⟩):=z0 (by unfold jz;rw[HEE.o,if_neg hE,HSS.o]);have HBW:=z0 HB2.o;have HC2w:=z0 (HCC.o w2 HB2.o);go_upto_region 4 with(fail)
  clear hE;have lv:=j3 HV2.o HCS.o.1;have ls:=zj HSR.o HSZ.o.1;obtain⟨hb,HHB⟩:=nm ((E != 0));have hne:(E != 0)=hb:=HHB.o;have hbu:=Xm i n C S HCS.o.1 HSZ.o.1 hb E w2;have hD:(Qa i n C S hb E).size=47:=ja HCS.o.1 HSZ.o.1;have hst:=Qb HT2.o HZZ.o.1 hD (Kd HCS.o.2 HSZ.o.2);have HRP:=z0 (qG (C:=Qa i n C S hb E) HT2.o);have HBP:=z0 (zR (C:=Qa i n C S hb E) HBW.o (show w.heap.size<=w.heap.size+1 by omega));have HCP:=z0 (vd.aside HC2w.o HT2.o (by decide) (Below.size (zR (C:=Qa i n C S hb E) (Below.refl 0 _) (Nat.zero_le _))) (fun k hk=>zl w2 _ hk));have HDS:=z0 hD;obtain⟨D,HDD⟩:=nm (Qa i n C S hb E);rw[HDD.o]at hbu hst HRP HBP HCP HDS;clear hD;go_wp2;try simp only[Exit.inBlock,Exit.then]
  refine Bp (Xn rfl _ _ _ _ _ _ rfl rfl HRP.o HDS.o) rfl ⟨D,C,?_,⟨?_,?_⟩,HBP.o⟩
  ·rw[HQ.o];try rfl
  ·rw[HQ.o];exact HCP.o
  ·rw[HQ.o,<-HDD.o,<-HS.o,<-HHB.o]
end
section
attribute [local go_sem ↓] zm zq zr ze zn zo zM qL qv qw kf kt ku xx
def z17 (r:TaM) (w:World) (e:Ending) (w':World):Prop:=∃D C,e=.returned (.tuple #[.agg D,.agg (zy r.a),.int .i64 r.e])/\Ki w' D C r.t/\Below w.heap.size w w'
structure z7t (w W:World) (p q:Nat) (D A:Array Value):Prop where
 st:Jw (.pointer (some ⟨p,0,none⟩)) (.agg D) W=.ok .skip (setSe W p D)
 sa:Z8 (.pointer (some ⟨q,0,none⟩)) (.agg A) (setSe W p D)=.ok .skip (qb (setSe W p D) q A)
 rd:(qb (setSe W p D) q A).heap[p]?=some (.cells D 42 (0,0))
 ra:(qb (setSe W p D) q A).heap[q]?=some (.cells A 54 (0,0))
 bel:Below w.heap.size w (qb (setSe W p D) q A)
 oth:∀k,k≠p->k≠q->(qb (setSe W p D) q A).heap[k]?=W.heap[k]?
 size:W.heap.size<=(qb (setSe W p D) q A).heap.size
theorem xW {w W:World}{p q:Nat}{Z Y D A:Array Value} (hp:W.heap[p]?=some (.cells Z 42 (0,0))) (hq:W.heap[q]?=some (.cells Y 54 (0,0))) (J:Z.size=47) (a1:Y.size=101) (I:D.size=47) (O:D.all (·.oneCell')=true) (a3:A.size=101) (K:A.all (·.oneCell')=true) (a0:Below w.heap.size w W) (h1:w.heap.size<=p) (h2:w.heap.size<=q):z7t w W p q D A:=by
 have G:p≠q:=Vf hp hq (by decide);have F:(setSe W p D).heap[q]?=some (.cells Y 54 (0,0)):=(zl W _ G.symm).trans hq;have M:=zR (C:=D) (Below.refl 0 W) (Nat.zero_le p);have a2:=qA (C:=A) (Below.refl 0 (setSe W p D)) (Nat.zero_le q);exact⟨Qb hp J I O,qF F a1 a3 K,(yO _ _ G).trans (qG hp),qU F,qA (zR a0 h1) h2,fun k a4 N=>(yO _ _ N).trans (zl _ _ a4),Nat.le_trans M.size a2.size⟩
theorem Yz (W:World) {Z Y D A:Array Value} (J:Z.size=47) (M:Y.size=101) (F:D.size=47) (G:D.all (·.oneCell')=true) (I:A.size=101) (K:A.all (·.oneCell')=true):z7t W ((W.alloc (.cells Z 42)).alloc (.cells Y 54)) W.heap.size (W.heap.size+1) D A:=by
 obtain⟨h1,h2⟩:=qM W (.cells Z 42) (.cells Y 54);exact xW h1 h2 J M F G I K (Ba.alloc (by simp) _) (Nat.le_refl _) (Nat.le_succ _)
theorem z7t.rt {w W:World}{p q:Nat}{D A:Array Value} (h:z7t w W p q D A) {Z Y:Array Value} (hp:W.heap[p]?=some (.cells Z 42 (0,0))) (hq:W.heap[q]?=some (.cells Y 54 (0,0))) {D' C':Array Value}{t:Zl} (F:Ki W D' C' t):Ki (qb (setSe W p D) q A) D' C' t:=
 F.away h.size (fun k _ h1=>h.oth k (q9 h1 hp (by decide)) (q9 h1 hq (by decide)))
theorem Kf {B g:Nat}{a w:World}{o:Nat}{S:Array Value} (I:Below B a w) (hg:B<=g) (G:B<=w.heap.size):Below B a (jA w g o S):=I.grown (Zq w g o S) G (fun k F=>by injection F with F;omega)
structure R5 (w W:World) (p1 p2 p3 p4:Nat) (D S A Z Y:Array Value):Prop where
 r0:W.heap[w.heap.size]?=some (.cells D 42 (0,0))
 r1:W.heap[p1]?=some (.cells S 40 (0,0))
 r2:W.heap[p2]?=some (.cells A 54 (0,0))
 r3:W.heap[p3]?=some (.cells Z 42 (0,0))
 r4:W.heap[p4]?=some (.cells Y 54 (0,0))
 bel:Below w.heap.size w W
 lt:p1=w.heap.size+1/\p2=w.heap.size+2/\p3=w.heap.size+3/\p4=w.heap.size+4
section
variable {w W W':World}{p1 p2 p3 p4:Nat}{D D' S A A' Z Y:Array Value}
theorem R5.below (h:R5 w W p1 p2 p3 p4 D S A Z Y) (F:Below W.heap.size W W'):R5 w W' p1 p2 p3 p4 D S A Z Y:=
 ⟨(F.block _ (Lb h.r0)).trans h.r0,(F.block _ (Lb h.r1)).trans h.r1,(F.block _ (Lb h.r2)).trans h.r2,(F.block _ (Lb h.r3)).trans h.r3,(F.block _ (Lb h.r4)).trans h.r4,h.bel.trans (F.mono h.bel.size),h.lt⟩
theorem R5.put0 (h:R5 w W p1 p2 p3 p4 D S A Z Y) (F:∀k,k≠w.heap.size->W'.heap[k]?=W.heap[k]?) (h0:W'.heap[w.heap.size]?=some (.cells D' 42 (0,0))) (G:Below w.heap.size w W'):R5 w W' p1 p2 p3 p4 D' S A Z Y:=by
 obtain⟨J,I,M,K⟩:=h.lt;exact⟨h0,(F _ (by omega)).trans h.r1,(F _ (by omega)).trans h.r2,(F _ (by omega)).trans h.r3,(F _ (by omega)).trans h.r4,G,h.lt⟩
theorem R5.put2 (h:R5 w W p1 p2 p3 p4 D S A Z Y) (F:∀k,k≠p2->W'.heap[k]?=W.heap[k]?) (h0:W'.heap[p2]?=some (.cells A' 54 (0,0))) (G:Below w.heap.size w W'):R5 w W' p1 p2 p3 p4 D S A' Z Y:=by
 obtain⟨J,I,M,K⟩:=h.lt;exact⟨(F _ (by omega)).trans h.r0,(F _ (by omega)).trans h.r1,h0,(F _ (by omega)).trans h.r3,(F _ (by omega)).trans h.r4,G,h.lt⟩
end
theorem QD {w:World}{t:Zl}{D C:Array Value} (hD:Ki w D C t) (G:t.Good) (h0:t.e=0) (q:yw) (hq:KE t.s q) (hK:yB 0 w):
  Calls prog 68 #[.agg D,.agg (zp q.s),.agg (zy q.a),.int .i64 q.e] w (z17 (qX t q) w):=by
 have HKP:=z0 (fun W (hb:Below w.heap.size w W)=>Qz t.V C q.s W (hD.c.below hb) G.V hq.ok.s (hK.below hb));have HKS:=z0 (fun W (hb:Below w.heap.size w W)=>hK.below hb);have HDC:=z0 (fun W (hb:Below w.heap.size w W)=>hD.below hb);have HD47:=z0 (And.intro (hD.size G.s) hD.one);have HCS:=z0 (And.intro hD.c.size hD.c.one);have HG:=z0 G;have HQ:=z0 hq;have HSZ:=z0 (And.intro (And.intro (zd hq.ok.s) (y7 q.s)) (zg hq.ok.a));have HTS:=z0 (zd G.s);have hDe:D=Qa t.i t.n C (zp t.s) false 0:=by
  have:=hD.d;rw[h0]at this;exact this
 have H0:=z0 h0;obtain⟨S0,HS0⟩:=nm (zp t.s);obtain⟨S,HS⟩:=nm (zp q.s);obtain⟨A,HA⟩:=nm (zy q.a);obtain⟨E,HEE⟩:=nm (q.e);rw[HS0.o]at hDe HTS;rw[HS.o]at HKP HSZ;rw[HA.o]at HSZ;rw[HS.o,HA.o,HEE.o];have HDE:=z0 hDe;obtain⟨ZT,HZT⟩:=nm (rtZ);obtain⟨ZA,HZA⟩:=nm (zy ju);have HZZ:Hd (ZT.size=47/\ZA.size=101):=z0 (by rw[<-HZT.o,<-HZA.o];exact⟨ja rfl (zd qp),zg qf⟩);have HLT:Hd (∀W,jD W=.ok (.value (.pointer (some ⟨W.heap.size,0,none⟩))) (W.alloc (.cells ZT 42))):=z0 (fun W=>by rw[<-HZT.o];exact kG W);have HLA:Hd (∀W,zt W=.ok (.value (.pointer (some ⟨W.heap.size,0,none⟩))) (W.alloc (.cells ZA 54))):=z0 (fun W=>by rw[<-HZA.o];exact zC W);have HBA:Hd (∀W,qS W=.ok (.value (.agg ZA)) W):=z0 (fun W=>by rw[<-HZA.o];exact qi W);have hal0:jD (((w.alloc (.cells D 42)).alloc (.cells S 40)).alloc (.cells A 54))=.ok (.value (.pointer (some ⟨w.heap.size+3,0,none⟩))) ((((w.alloc (.cells D 42)).alloc (.cells S 40)).alloc (.cells A 54)).alloc (.cells ZT 42)):=by
  have:=HLT.o (((w.alloc (.cells D 42)).alloc (.cells S 40)).alloc (.cells A 54))
  rwa[show((((w.alloc (.cells D 42)).alloc (.cells S 40)).alloc (.cells A 54))).heap.size=w.heap.size+3 from by simp]at this
 have hal1:zt ((((w.alloc (.cells D 42)).alloc (.cells S 40)).alloc (.cells A 54)).alloc (.cells ZT 42))=.ok (.value (.pointer (some ⟨w.heap.size+4,0,none⟩))) (((((w.alloc (.cells D 42)).alloc (.cells S 40)).alloc (.cells A 54)).alloc (.cells ZT 42)).alloc (.cells ZA 54)):=by
  have:=HLA.o ((((w.alloc (.cells D 42)).alloc (.cells S 40)).alloc (.cells A 54)).alloc (.cells ZT 42))
  rwa[show(((((w.alloc (.cells D 42)).alloc (.cells S 40)).alloc (.cells A 54)).alloc (.cells ZT 42))).heap.size=w.heap.size+4 from by simp]at this
 obtain⟨hr0,hr1,hr2,hr3,hr4⟩:=QX w (.cells D 42) (.cells S 40) (.cells A 54) (.cells ZT 42) (.cells ZA 54);have HBZ:Hd (Below w.heap.size w (((((w.alloc (.cells D 42)).alloc (.cells S 40)).alloc (.cells A 54)).alloc (.cells ZT 42)).alloc (.cells ZA 54))):=z0 ((((((Below.refl w.heap.size w).alloc (Nat.le_refl _) _).alloc (by simp;try omega) _).alloc (by simp;try omega) _).alloc (by simp;try omega) _).alloc (by simp;try omega) _);have HR0:=z0 (show(((((w.alloc (.cells D 42)).alloc (.cells S 40)).alloc (.cells A 54)).alloc (.cells ZT 42)).alloc (.cells ZA 54)).heap[w.heap.size]?=some (.cells D 42 (0,0)) from hr0);have HR1:=z0 (show(((((w.alloc (.cells D 42)).alloc (.cells S 40)).alloc (.cells A 54)).alloc (.cells ZT 42)).alloc (.cells ZA 54)).heap[w.heap.size+1]?=some (.cells S 40 (0,0)) from hr1);have HR2:=z0 (show(((((w.alloc (.cells D 42)).alloc (.cells S 40)).alloc (.cells A 54)).alloc (.cells ZT 42)).alloc (.cells ZA 54)).heap[w.heap.size+1+1]?=some (.cells A 54 (0,0)) from hr2);have HR3:=z0 (show(((((w.alloc (.cells D 42)).alloc (.cells S 40)).alloc (.cells A 54)).alloc (.cells ZT 42)).alloc (.cells ZA 54)).heap[w.heap.size+3]?=some (.cells ZT 42 (0,0)) from hr3);have HR4:=z0 (show(((((w.alloc (.cells D 42)).alloc (.cells S 40)).alloc (.cells A 54)).alloc (.cells ZT 42)).alloc (.cells ZA 54)).heap[w.heap.size+4]?=some (.cells ZA 54 (0,0)) from hr4);clear hr0 hr1 hr2 hr3 hr4;clear hD G h0 hq hK hDe;go_enter func68,ntmps68;go_upto_region 1 with(fail)
 clear hal0 hal1;generalize (((((w.alloc (.cells D 42)).alloc (.cells S 40)).alloc (.cells A 54)).alloc (.cells ZT 42)).alloc (.cells ZA 54))=wz at *;have HR5:Hd (R5 w wz (w.heap.size+1) (w.heap.size+1+1) (w.heap.size+3) (w.heap.size+4) D S A ZT ZA):=z0 ⟨HR0.o,HR1.o,HR2.o,HR3.o,HR4.o,HBZ.o,rfl,rfl,rfl,rfl⟩;clear HR0 HR1 HR2 HR3 HR4;generalize w.heap.size+4=p4 at *;generalize w.heap.size+3=p3 at *;generalize w.heap.size+1+1=p2 at *;generalize w.heap.size+1=p1 at *;have HLE:=z0 (show w.heap.size<=p3/\w.heap.size<=p4 from by have:=HR5.o.lt;omega);have HZA1:Hd (ZA.all (·.oneCell')=true):=z0 (by rw[<-HZA.o];exact qD _);by_cases hE:E=0
 ·subst hE;have hrd:=Zs (by rw[<-HDE.o];exact HR5.o.r0) HCS.o.1 HTS.o;have lv:=hrd.v;have ls:=zj HR5.o.r1 HSZ.o.1.1;obtain⟨k,HKK⟩:=nm (yM t.V q.s);obtain⟨V2,HV2⟩:=nm (yq t.V q.s);rw[HKK.o,HV2.o]at HKP;clear hrd;go_upto_region 3 with(fail)
  go_wp2_with fail;refine(HKP.o wz HR5.o.bel).mono ?_;rintro e w1 ⟨C2,rfl,hC2,hb1⟩;have HCS2:=z0 (And.intro hC2.size hC2.one);have hal:=yo w1;have hst:=Va w1 (Z:=xq) rfl HCS2.o.1 HCS2.o.2;have hb2:Below wz.heap.size wz (w1.alloc (.cells C2 36)):=hb1.alloc hb1.size _;have HR52:=z0 (HR5.o.below hb2);have HCV2:=z0 (Xh w1 (.cells C2 36));have HC2:=z0 (hC2.below ((Below.refl _ _).alloc (Nat.le_refl _) (.cells C2 36)));clear lv ls hb1 hb2 hC2;go_upto_region 4 with(fail)
  clear hal hst;generalize (w1.alloc (.cells C2 36))=w2 at *;generalize w1.heap.size=p5 at *;have lv:=j3 HCV2.o HCS2.o.1;obtain⟨hst,hr3⟩:=z7s (by rw[<-HDE.o];exact HR52.o.r0) HCS.o.1 HCS2.o.1 HCS2.o.2;have hbm:=Kf (o:=2) (S:=C2) HR52.o.bel (Nat.le_refl w.heap.size) HR52.o.bel.size;have HR53:=z0 (HR52.o.put0 (fun k hk=>je w2 2 C2 hk) hr3 hbm);have HC3:=z0 (vd.aside HC2.o HR52.o.r0 (by decide) (Nat.le_of_eq (Qs w2 w.heap.size 2 C2).symm) (fun k hk=>je w2 2 C2 hk));clear hr3 hbm;go_upto_region 5 with(fail)
  clear hst lv;generalize (jA w2 w.heap.size 2 C2)=w3 at *;by_cases hk:k=0
  ·subst hk;have HRQ:Hd (qX t q=⟨⟨t.i,t.n,V2,q.s,0⟩,jZ ⟨t.i,q.a.ki,q.a.vi,q.a.ph,q.a.ha,q.a.pv,q.a.pa,q.a.tg⟩,0⟩):=z0 (by unfold qX;rw[if_pos HEE.o,if_pos HKK.o,HV2.o]);have hmy:=z7k HG.o.i1 HG.o.i2 (HQ.o.may HEE.o).2.2;have hao:y8.Ok ⟨t.i,q.a.ki,q.a.vi,q.a.ph,q.a.ha,q.a.pv,q.a.pa,q.a.tg⟩:=⟨HQ.o.ok.a.ha,HQ.o.ok.a.pa,HQ.o.ok.a.tg⟩
   have HSG:=z0 (fun W hk=>z34 ⟨t.i,q.a.ki,q.a.vi,q.a.ph,q.a.ha,q.a.pv,q.a.pa,q.a.tg⟩ W hao hmy hk);have HYO:=z0 (And.intro (zg (ZO hao)) (qD (jZ ⟨t.i,q.a.ki,q.a.vi,q.a.ph,q.a.ha,q.a.pv,q.a.pa,q.a.tg⟩)));have HA1S:=z0 (zg hao);clear hmy hao;obtain⟨hst,hr4⟩:=zbU HR53.o.r0 HCS2.o.1 HTS.o HSZ.o.1.1 HSZ.o.1.2;have ls:=zj HR53.o.r1 HSZ.o.1.1;have hbm:=Kf (o:=10) (S:=S) HR53.o.bel (Nat.le_refl w.heap.size) HR53.o.bel.size;have HR54:=z0 (HR53.o.put0 (fun k hk=>je w3 10 S hk) hr4 hbm);have HC4:=z0 (vd.aside HC3.o HR53.o.r0 (by decide) (Nat.le_of_eq (Qs w3 w.heap.size 10 S).symm) (fun k hk=>je w3 10 S hk));clear hr4 hbm;go_upto_region 10 with(fail)
   clear hst ls;generalize (jA w3 w.heap.size 10 S)=w4 at *;have k0:=(Zs HR54.o.r0 HCS2.o.1 HSZ.o.1.1).i;have hra:w4.heap[p2]?=some (.cells (zy q.a) 54 (0,0)):=by rw[HA.o];exact HR54.o.r2
   have k1:=(qz.cells (a:=q.a) hra).1;have f1:=qz.free (a:=q.a) hra 0;have hr5:(w4.setCell ⟨p2,0,none⟩ (.int .i64 t.i)).heap[p2]?=some (.cells (zy ⟨t.i,q.a.ki,q.a.vi,q.a.ph,q.a.ha,q.a.pv,q.a.pa,q.a.tg⟩) 54 (0,0)):=by rw[yA w4 hra];rfl
   have HR55:=z0 (HR54.o.put2 (fun k hk=>Hs w4 ⟨p2,0,none⟩ (.int .i64 t.i) k hk) hr5 (HR54.o.bel.setCell (by show w.heap.size<=p2;have:=HR54.o.lt;omega) _));have HC5:=z0 (vd.aside HC4.o hra (by decide) (by simp[World.setCell]) (fun k hk=>Hs w4 ⟨p2,0,none⟩ (.int .i64 t.i) k hk));clear hra hr5;go_upto_region 11 with(fail)
   clear k0 k1 f1;generalize (w4.setCell ⟨p2,0,none⟩ (.int .i64 t.i))=w5 at *;obtain⟨Y1,HY1⟩:=nm (zy ⟨t.i,q.a.ki,q.a.vi,q.a.ph,q.a.ha,q.a.pv,q.a.pa,q.a.tg⟩);obtain⟨Y2,HY2⟩:=nm (zy (jZ ⟨t.i,q.a.ki,q.a.vi,q.a.ph,q.a.ha,q.a.pv,q.a.pa,q.a.tg⟩));rw[HY1.o]at HSG HR55 HA1S;rw[HY2.o]at HSG HYO;have HDN:Hd ((Qa t.i t.n C2 S false 0).size=47/\(Qa t.i t.n C2 S false 0).all (·.oneCell')=true):=z0 ⟨ja HCS2.o.1 HSZ.o.1.1,Kd HCS2.o.2 HSZ.o.1.2⟩;have HRTN:Hd (∀W,vd W C2 V2->Ki W (Qa t.i t.n C2 S false 0) C2 ⟨t.i,t.n,V2,q.s,0⟩):=z0 (fun W h=>⟨h,by rw[<-HS.o];rfl⟩);obtain⟨DN,HDNN⟩:=nm (Qa t.i t.n C2 S false 0);rw[HDNN.o]at HR55 HDN HRTN;have hbd:Below w5.heap.size w5 w5.drew:=(Below.refl _ _).drew;have HF:Hd (∀W,R5 w W p1 p2 p3 p4 DN S Y1 ZT ZA->jp (.pointer (some ⟨w.heap.size,0,none⟩)) W=.ok (.value (.agg DN)) W/\zI (.pointer (some ⟨p2,0,none⟩)) W=.ok (.value (.agg Y1)) W):=z0 (fun W h=>⟨qs h.r0 HDN.o.1,zZ h.r2 HA1S.o⟩);have HR56:=z0 (HR55.o.below hbd);refine Rh (S:=fun W=>jp (.pointer (some ⟨w.heap.size,0,none⟩)) W=.ok (.value (.agg DN)) W/\zI (.pointer (some ⟨p2,0,none⟩)) W=.ok (.value (.agg Y1)) W) (by kernel_rfl) (HF.o _ HR56.o) (fun hHeld=>?_);refine' tk (i:=0) (v:=_) rfl (fun W hW=>hW.1) ?_;try simp only[zx]
   refine' tk (i:=1) (v:=_) rfl (fun W hW=>hW.2) ?_;try simp only[zx]
   refine qc 2 (h:=fun K hK=>?_);go_simp;refine(HSG.o _ (HKS.o _ HR56.o.bel)).mono ?_;rintro e w6 ⟨rfl,hb6⟩;have HR57:=z0 (HR56.o.below hb6);have HC7:=z0 ((HC5.o.below hbd).below hb6);have HEN:=z0 (xW HR57.o.r3 HR57.o.r4 HZZ.o.1 HZZ.o.2 HDN.o.1 HDN.o.2 HYO.o.1 HYO.o.2 HR57.o.bel HLE.o.1 HLE.o.2);have hst:=HEN.o.st;have hsa:=HEN.o.sa;have HRT:=z0 (HEN.o.rt HR57.o.r3 HR57.o.r4 (HRTN.o _ HC7.o));have HR58:Hd (jp (.pointer (some ⟨w.heap.size,0,none⟩)) (setSe w6 p3 DN)=.ok (.value (.agg DN)) (setSe w6 p3 DN)/\zI (.pointer (some ⟨p2,0,none⟩)) (setSe w6 p3 DN)=.ok (.value (.agg Y1)) (setSe w6 p3 DN)):=z0 ⟨qs ((zl w6 DN (by have:=HR57.o.lt;omega)).trans HR57.o.r0) HDN.o.1,zZ ((zl w6 DN (by have:=HR57.o.lt;omega)).trans HR57.o.r2) HA1S.o⟩;have HR59:Hd (jp (.pointer (some ⟨w.heap.size,0,none⟩)) (qb (setSe w6 p3 DN) p4 Y2)=.ok (.value (.agg DN)) (qb (setSe w6 p3 DN) p4 Y2)/\zI (.pointer (some ⟨p2,0,none⟩)) (qb (setSe w6 p3 DN) p4 Y2)=.ok (.value (.agg Y1)) (qb (setSe w6 p3 DN) p4 Y2)):=z0 ⟨qs ((HEN.o.oth _ (by have:=HR57.o.lt;omega) (by have:=HR57.o.lt;omega)).trans HR57.o.r0) HDN.o.1,zZ ((HEN.o.oth _ (by have:=HR57.o.lt;omega) (by have:=HR57.o.lt;omega)).trans HR57.o.r2) HA1S.o⟩;refine hK.out _ _ (HF.o _ HR57.o) (fun hHeld=>?_);clear hK K;try simp only[zx]
   refine qc 3 (h:=fun K hK=>?_);go_simp;refine hK.out _ _ (HR58.o) (fun hHeld=>?_);clear hK K;try simp only[zx]
   refine qc 4 (h:=fun K hK=>?_);go_simp;refine hK.out _ _ (HR59.o) (fun hHeld=>?_);clear hK K;try simp only[zx]
   refine' z5 5 (h:=?_);refine wpAnyH_done (by kernel_rfl) ?_ _;clear hHeld hst hsa hbd;go_wp2;try simp only[Exit.inBlock,Exit.then]
   refine Bp (yE rfl _ _ _ _ _ _ _ _ _ rfl rfl rfl HEN.o.rd HEN.o.ra HDN.o.1 HYO.o.1) rfl ⟨_,_,?_,by rw[HRQ.o];exact HRT.o,HEN.o.bel⟩;rw[HRQ.o,HY2.o];try rfl
  ·have HRQ:Hd (qX t q=⟨⟨t.i,t.n,V2,t.s,k⟩,ju,8⟩):=z0 (by unfold qX;rw[if_pos HEE.o,HKK.o,if_neg hk,HV2.o]);have hkb:(k != 0)=true:=by simpa using hk
   have HKB:=z0 hkb;have hr4:=zbV HR53.o.r0 HCS2.o.1 HTS.o true;have hrd:=Zs HR53.o.r0 HCS2.o.1 HTS.o;have c45:=hrd.h;have z45:=zz HR53.o.r0 45;have HR54:=z0 (HR53.o.put0 (fun k hk=>Hs w3 ⟨w.heap.size,45,none⟩ (.bool true) k hk) hr4 (HR53.o.bel.setCell (Nat.le_refl _) _));have HC4:=z0 (vd.aside HC3.o HR53.o.r0 (by decide) (by simp[World.setCell]) (fun k hk=>Hs w3 ⟨w.heap.size,45,none⟩ (.bool true) k hk));clear hr4 hrd;go_upto_region 7 with(fail)
   clear c45 z45;generalize (w3.setCell ⟨w.heap.size,45,none⟩ (.bool true))=w4 at *;have hr5:=zbW HR54.o.r0 HCS2.o.1 HTS.o k;have hrd:=Zs HR54.o.r0 HCS2.o.1 HTS.o;have c46:=hrd.e;have z46:=zz HR54.o.r0 46;have HR55:=z0 (HR54.o.put0 (fun k' hk'=>Hs w4 ⟨w.heap.size,46,none⟩ (.int .i64 k) k' hk') hr5 (HR54.o.bel.setCell (Nat.le_refl _) _));have HC5:=z0 (vd.aside HC4.o HR54.o.r0 (by decide) (by simp[World.setCell]) (fun k' hk'=>Hs w4 ⟨w.heap.size,46,none⟩ (.int .i64 k) k' hk'));clear hr5 hrd;go_upto_region 8 with(fail)
   clear c46 z46;generalize (w4.setCell ⟨w.heap.size,46,none⟩ (.int .i64 k))=w5 at *;have HDN:Hd ((Qa t.i t.n C2 S0 true k).size=47/\(Qa t.i t.n C2 S0 true k).all (·.oneCell')=true):=z0 ⟨ja HCS2.o.1 HTS.o,Kd HCS2.o.2 (by rw[<-HS0.o];exact y7 _)⟩;have HRTN:Hd (Ki w5 (Qa t.i t.n C2 S0 true k) C2 ⟨t.i,t.n,V2,t.s,k⟩):=z0 ⟨HC5.o,by rw[<-HS0.o,<-HKB.o]⟩;obtain⟨DN,HDNN⟩:=nm (Qa t.i t.n C2 S0 true k);rw[HDNN.o]at HR55 HDN HRTN;clear hk hkb;have ld:=qs HR55.o.r0 HDN.o.1;have hba:=HBA.o;have hen:=xW HR55.o.r3 HR55.o.r4 HZZ.o.1 HZZ.o.2 HDN.o.1 HDN.o.2 HZZ.o.2 HZA1.o HR55.o.bel HLE.o.1 HLE.o.2;have HEN:=z0 hen;obtain⟨hst,hsa,_,_,_,_,_⟩:=hen;have HRT:=z0 (HEN.o.rt HR55.o.r3 HR55.o.r4 HRTN.o);go_wp2;try simp only[Exit.inBlock,Exit.then]
   refine Bp (yE rfl _ _ _ _ _ _ _ _ _ rfl rfl rfl HEN.o.rd HEN.o.ra HDN.o.1 HZZ.o.2) rfl ⟨_,_,?_,by rw[HRQ.o];exact HRT.o,HEN.o.bel⟩;rw[HRQ.o,HZA.o];try rfl
 ·have HRQ:Hd (qX t q=⟨t,ju,E⟩):=z0 (by unfold qX;rw[HEE.o,if_neg hE]);have ld:=qs HR5.o.r0 HD47.o.1;have hba:=HBA.o;have hen:=xW HR5.o.r3 HR5.o.r4 HZZ.o.1 HZZ.o.2 HD47.o.1 HD47.o.2 HZZ.o.2 HZA1.o HR5.o.bel HLE.o.1 HLE.o.2;have HEN:=z0 hen;obtain⟨hst,hsa,_,_,_,_,_⟩:=hen;have HRT:=z0 (HEN.o.rt HR5.o.r3 HR5.o.r4 (HDC.o wz HR5.o.bel));go_wp2;try simp only[Exit.inBlock,Exit.then]
  refine Bp (yE rfl _ _ _ _ _ _ _ _ _ rfl rfl rfl HEN.o.rd HEN.o.ra HD47.o.1 HZZ.o.2) rfl ⟨_,_,?_,by rw[HRQ.o];exact HRT.o,HEN.o.bel⟩;rw[HRQ.o,HZA.o];try rfl
end
end Go.Proofs.YtjlinimnnbfmaaaGreatDoor
