/-
  A certificate that has nothing, built whole.
-/
import Derived.Test.YtjlinimnnbfmaaaGreatDoorPlTeEq
set_option maxRecDepth 20000
set_option maxHeartbeats 6400000
namespace Go.Proofs.YtjlinimnnbfmaaaGreatDoor
open Go.RowKit Go.Proofs.Tryz
section
open Go.ChangeShapes Go.WideShapes Go.ChangeAt Go.RowKit Go.Deep
structure JC where
 ask:Bool
 q:JB
 start:Bool
 acu:Bool
 vi:Int
 L:List y8
 lA:Option Addr
 lc:Nat
 v:kr
def JC.l (x:JC):Value:=.slice x.lA x.L.length x.lc
def sph (x:JC):List Value:=[.bool x.start,.bool x.acu,.int .i64 x.vi,x.l]
def spl (x:JC):List Value:=[.bool x.ask] ++ (stl x.q ++ (sph x ++ Xe x.v))
def spc (x:JC):Array Value:=(spl x).toArray
def spZ:JC:=⟨false,stZ,false,false,0,[],none,0,zcN⟩
structure YI (w:World) (x:JC):Prop where
 q:QY w x.q
 l:jE xZ 101 w x.l x.L
 o:∀a∈x.L,a.Ok
 v:QV w x.v
theorem QV.below {w w':World}{a:kr} (h:QV w a) (F:Below w.heap.size w w'):QV w' a:=⟨h.1,h.2.1,h.2.2.below F⟩
theorem YI.below {w w':World}{x:JC} (h:YI w x) (F:Below w.heap.size w w'):YI w' x:=⟨h.q.below F,h.l.below F,h.o,h.v.below F⟩
theorem z6L (w:World):YI w spZ:=⟨zcX w,jE.nil w,fun a h=>by simp[spZ]at h,zbu w⟩
theorem Vk {w:World}{x:JC} (h:YI w x):(spl x).length=253:=by
 unfold spl sph;simp only[List.length_append,Vh h.q,Q8 h.v.1,List.length_cons,List.length_nil]
theorem z12 {w:World}{x:JC} (h:YI w x):(spc x).size=253:=by
 unfold spc;rw[List.size_toArray,Vk h]
theorem z7q (x:JC):∀u∈spl x,u.oneCell'=true:=by
 intro u F;unfold spl sph JC.l at F;simp only[List.mem_append,List.mem_cons,List.not_mem_nil,or_false]at F;rcases F with rfl|F|(rfl|rfl|rfl|rfl)|F
 ·rfl
 ·exact zbC _ u F
 ·rfl
 ·rfl
 ·rfl
 ·rfl
 ·exact zbv _ u F
theorem zbP (x:JC):(spc x).all (·.oneCell')=true:=all_oneCell_toArray (z7q x)
structure zd5 (W:World) (g o:Nat) (x:JC):Prop where
 ask:W.cell? ⟨g,o,none⟩=some (.bool x.ask)
 q:z3u (.pointer (some ⟨g,o+1,none⟩)) W=.ok (.value (.agg (stc x.q))) W
 start:W.cell? ⟨g,o+209,none⟩=some (.bool x.start)
 acu:W.cell? ⟨g,o+210,none⟩=some (.bool x.acu)
 vi:W.cell? ⟨g,o+211,none⟩=some (.int .i64 x.vi)
 l:W.cell? ⟨g,o+212,none⟩=some x.l
 v:z3m (.pointer (some ⟨g,o+213,none⟩)) W=.ok (.value (.agg (J7 x.v))) W
theorem KP {W:World}{g o:Nat}{pre G post:List Value}{L:List Value} (h:W.rangeAt g o L) (J:L=pre ++ (G ++ post)) {k:Nat} (I:k=pre.length):W.rangeAt g (o+k) G:=fun j u F=>by
 subst J I;have:=h (pre.length+j) u (by rw[List.getElem?_append_right (by omega),Nat.add_sub_cancel_left,List.getElem?_append_left (List.getElem?_eq_some_iff.1 F).1];exact F)
 rwa[<-Nat.add_assoc]at this
theorem z7r {w W:World}{x:JC}{g o:Nat} (h:W.rangeAt g o (spl x)) (ho:YI w x):zd5 W g o x:=by
 have hl:=Vh ho.q;have h1:W.rangeAt g (o+1) (stl x.q):=KP h (pre:=[.bool x.ask]) (post:=sph x ++ Xe x.v) rfl rfl;have h2:W.rangeAt g (o+209) (sph x):=KP h (pre:=[.bool x.ask] ++ stl x.q) (post:=Xe x.v) (by unfold spl;simp only[List.append_assoc]) (by rw[List.length_append,hl];rfl);have h3:W.rangeAt g (o+213) (Xe x.v):=KP h (pre:=[.bool x.ask] ++ (stl x.q ++ sph x)) (post:=[]) (by unfold spl;simp only[List.append_assoc,List.append_nil]) (by rw[List.length_append,List.length_append,hl];rfl);exact⟨h 0 _ rfl,z6z h1 ho.q,h2 0 _ rfl,h2 1 _ rfl,h2 2 _ rfl,h2 3 _ rfl,z6b h3 ho.v.1⟩
theorem zbQ:(prog.info? 64).map (fun i=>(i.zero,i.size,decide (i.bytes<=100000)))=some (some (.agg (spc spZ)),253,true):=by kernel_rfl
theorem zdy (w:World):Elt spl (YI w) 253 64 22:=by
 refine⟨by omega,fun _ h=>Vk h,z7q,by kernel_rfl,by kernel_rfl,?_⟩;obtain⟨i,hi,h⟩:=Option.map_eq_some_iff.1 zbQ;injection h with h1 h;injection h with h2 h3;exact⟨i,_,hi,h1,h2,of_decide_eq_true h3,by show(spc spZ).size=253;exact z12 (z6L w)⟩
section
variable {H:Type}{enc:TypeId×Value->H}{w:World}{base:Nat}{spare:Nat->Bool}{held:Bool}{fuel:Nat}{cs:List Value}{x:DataW H×List MemPlace}
theorem z8Y:∃N I F K G J M:Field,prog.underlying 64=some (.struct #[N,I,F,K,G,J,M])/\(N.type,N.offset)=(4,0)/\(I.type,I.offset)=(59,1)/\(F.type,F.offset)=(4,209)
  /\ (K.type,K.offset)=(4,210)/\(G.type,G.offset)=(3,211)/\(J.type,J.offset)=(60,212)/\(M.type,M.offset)=(62,213):=
 ⟨_,_,_,_,_,_,_,underlying64,rfl,rfl,rfl,rfl,rfl,rfl,rfl⟩
theorem zbR (h:DataW.trod enc prog w base spare held fuel 64 cs=some x):∃a,YI w a/\cs=spl a:=by
 obtain⟨ad,ak,a2,ay,aj,ax,a5,aH,aS,aK,aw,aB,aA,ai,az⟩:=z8Y;injection aS with al a7;injection aK with aF aN;injection aw with au aP;injection aB with aM a3;injection aA with aE am;injection ai with an aG;injection az with ae aI;obtain⟨a4,m,_,_,ab,aa,F⟩:=DataW.trod_struct aH h;have aL:prog.cellsOf 64=253:=by kernel_rfl
 have G:prog.cellsOf 4=1:=by kernel_rfl
 have aO:prog.cellsOf 3=1:=by kernel_rfl
 have ag:prog.cellsOf 59=208:=by kernel_rfl
 have aq:prog.cellsOf 60=1:=by kernel_rfl
 have aQ:prog.cellsOf 62=40:=by kernel_rfl
 rw[aL]at ab;have hx:a4.length=7:=aa;have O:=F 0 ad rfl;have N:=F 1 ak rfl;have I:=F 2 a2 rfl;have a1:=F 3 ay rfl;have K:=F 4 aj rfl;have a0:=F 5 ax rfl;have M:=F 6 a5 rfl;rw[al,a7,G,List.getElem?_eq_getElem (by omega)]at O;rw[aF,aN,ag,List.getElem?_eq_getElem (by omega)]at N;rw[au,aP,G,List.getElem?_eq_getElem (by omega)]at I;rw[aM,a3,G,List.getElem?_eq_getElem (by omega)]at a1;rw[aE,am,aO,List.getElem?_eq_getElem (by omega)]at K;rw[an,aG,aq,List.getElem?_eq_getElem (by omega)]at a0;rw[ae,aI,aQ,List.getElem?_eq_getElem (by omega)]at M;obtain⟨b0,c0,_⟩:=DataW.trod_bool underlying4 O;obtain⟨s1,aJ,c1⟩:=zbF N;obtain⟨b2,a8,_⟩:=DataW.trod_bool underlying4 I;obtain⟨b3,ah,_⟩:=DataW.trod_bool underlying4 a1;obtain⟨av,aR,_,_⟩:=DataW.trod_int underlying3 K;obtain⟨aT,aC,a6,J,ar⟩:=za3 a0;obtain⟨a9,af,ap⟩:=za9 M;obtain⟨aD,ao,rfl⟩:=J.shape;refine⟨⟨b0,s1,b2,b3,av,aC,aD,ao,a9⟩,⟨aJ,J,ar,af⟩,?_⟩;have e:cs=cs.drop 0:=rfl;rw[e,zE c0,zE c1,zE a8,zE ah,zE aR,zE a6,zE ap,List.drop_eq_nil_of_le (by omega)];unfold spl sph JC.l;simp only[List.append_nil,List.cons_append,List.nil_append]
theorem zav (h:DataW.trod enc prog w base spare held fuel 22 cs=some x):∃v L,cs=[v]/\jE spl 253 w v L/\∀a∈L,YI w a:=
 (zdy w).trod spZ (z6L w) (fun h=>zbR h) h
end
noncomputable def Kb (u : Value) (w : World) : Result Next := Sem.run prog (execOp (fun _ => u) { dst := none, op := .buildSlice 81 1 #[(0, .tmp 0)], type := 0, pos := "", after := #[], guard := none }) w
theorem z13 (r:Operand->Value) (x:Operand) (dst:Option Tmp) (ty:TypeId) (pos:String) (after:Array Edge) (guard:Option (Nat×Bool)) (w:World):
  Sem.run prog (execOp r { dst:=dst,op:=.buildSlice 81 1 #[(0,x)],type:=ty,pos:=pos,after:=after,guard:=guard }) w=Kb (r x) w:=by
 unfold Kb execOp;simp
theorem z5d {a:kr} (ha:a.s.Ok) (w:World):Kb (.agg (J7 a)) w=.ok (.value (.slice (some ⟨w.heap.size,0,none⟩) 1 1)) (w.alloc (.cells (J7 a) 62)):=by
 have F:(J7 a).size=40:=za6 ha;have G:(J7 a).zipIdx=((Xe a).zipIdx).toArray:=by unfold J7;simp
 unfold Kb;go_simp;have e:=yI (Xe a) [] (Xe zcN) [] (by rw[Q8 ha,Q8 qp]);simp only[List.nil_append,List.append_nil,List.length_nil]at e;rw[<-JX]at e;exact congrArg (fun C=>w.alloc (.cells C 62)) e
def zdz (L:List JC):Prop:=L.length<=30/\∀j (h:j<L.length),z0Q L[j].q=true/\L[j].L.length<=25/\L[j].v.bl.length<=1200
end
section
attribute [local go_sem ↓] xv VZ z13
def zd6 (L:List JC) (w:World) (e:Ending) (w':World):Prop:=∃q,e=.returned (.bool q)/\(q=true->zdz L)/\Below w.heap.size w w'
theorem zd7 {w:World}{A:Option Addr}{k c:Nat}{L:List JC} (h:jE spl 253 w (.slice A k c) L) (ho:∀a∈L,YI w a) (j:Nat) (G:j<L.length):∃b F,A=some ⟨b,F,none⟩/\∀W,Below w.heap.size w W->zd5 W b (F+j*253) L[j]:=by
 obtain⟨b,F,e,J,I⟩:=h.at_.2.2.2 (by omega);exact⟨b,F,e,fun W K=>z7r (vC (I j G) (K.block b J)) (ho _ (List.getElem_mem G))⟩
theorem zbS {N k:Nat} (h:k<N) (h2:k<=30):N - (intOf (Value.int IntKind.i64 (wrap64 ((k:Int)+1)))).toNat<N - (intOf (Value.int IntKind.i64 (k:Int))).toNat:=by
 have:wrap64 ((k:Int)+1)=(k:Int)+1:=by unfold wrap64;omega
 rw[this];simp only[intOf];omega
theorem z5e (v:Value) (L:List JC) (w:World) (hv:jE spl 253 w v L) (ho:∀a∈L,YI w a):Calls prog 4 #[v] w (zd6 L w):=by
 obtain⟨A,c,rfl⟩:=hv.shape;obtain⟨N,HN⟩:=nm (L.length:Nat);have HCEL:=z0 (zd7 hv ho);have HOK:Hd (∀k (h:k<L.length),YI w L[k]):=z0 (fun k hk=>ho _ (List.getElem_mem hk));rw[HN.o];clear hv ho;go_enter func4,ntmps4;go_wp2_with fail;go_loopw [3] (fun si wr=>∃k:Nat,k<=N/\k<=31/\si=.int .i64 k/\Hd (∀j (h:j<L.length),j<k->z0Q L[j].q=true/\L[j].L.length<=25/\L[j].v.bl.length<=1200)/\Hd (Below w.heap.size w wr)) (fun si _=>N - (intOf si).toNat)
 case atStart=>exact⟨0,Nat.zero_le _,Nat.zero_le _,rfl,z0 (fun _ _ h=>absurd h (Nat.not_lt_zero _)),z0 (Below.refl _ _)⟩
 case round=>
  obtain⟨k,hk,hk1,rfl,HL,HB⟩:=hrel;by_cases hlt:k<N
  ·have hlt':(k:Int)<(N:Int):=by omega
   by_cases h30:k<=30
   ·have h30':(k:Int)<=30:=by omega
    have hkL:k<L.length:=by rw[HN.o];exact hlt
    obtain⟨b,off,rfl,hrd⟩:=HCEL.o k hkL;have HRD:=z0 hrd;have HKO:=z0 (HOK.o k hkL);obtain⟨x,HX⟩:=nm (L[k]:JC);rw[HX.o]at HRD HKO;have HK2:=z0 (And.intro hlt h30);clear hrd;have HL15:Hd (∀W,Below w.heap.size w W->Calls prog 21 #[.agg (stc x.q)] W fun e w'=>e=.returned (.bool (z0Q x.q))/\Below W.heap.size W w'):=z0 (fun W hb=>z4Z x.q W (HKO.o.q.below hb))
    have HL14:Hd (∀W,Below w.heap.size w W->Calls prog 22 #[.slice (some ⟨W.heap.size,0,none⟩) 1 1] (W.alloc (.cells (J7 x.v) 62)) (zaa [x.v] (W.alloc (.cells (J7 x.v) 62)))):=z0 (fun W hb=>z4H _ [x.v] _ (Ye W x.v _ _ rfl) (fun a ha=>by
     obtain rfl:a=x.v:=by simpa using ha
     exact HKO.o.v.below (hb.alloc hb.size _)))
    have HSL:=z0 (fun W=>z5d HKO.o.v.1 W);have hq:=(HRD.o wr HB.o).q;obtain⟨AQ,HAQ⟩:=nm (stc x.q);obtain⟨AV,HAV⟩:=nm (J7 x.v);obtain⟨lt,HLT⟩:∃q:Bool,Hd (z0Q x.q=q):=⟨_,z0 rfl⟩
    obtain⟨M,HM⟩:=nm (x.L.length:Nat);rw[HAQ.o]at HL15 hq;rw[HLT.o]at HL15;rw[HAV.o]at HL14 HSL;clear hk hk1;go_wp2_with fail;refine(HL15.o wr HB.o).mono ?_;rintro e w1 ⟨rfl,hb1⟩;have HB1:=z0 (HB.o.trans (hb1.mono HB.o.size));clear hb1 hq;cases lt with
    |false=>
     go_wp2;go_ret;exact⟨_,rfl,(fun h=>by cases h),HB1.o⟩
    |true=>
    have hl:=(HRD.o w1 HB1.o).l;unfold JC.l at hl;rw[HM.o]at hl;by_cases hM:(25:Int)<(M:Int)
    ·go_wp2;go_ret;exact⟨_,rfl,(fun h=>by cases h),HB1.o⟩
    have hv:=(HRD.o w1 HB1.o).v;rw[HAV.o]at hv;have hsl:=HSL.o w1;have HMM:=z0 hM;go_wp2_with fail;refine(HL14.o w1 HB1.o).mono ?_;rintro e w2 ⟨q,rfl,hq,rfl⟩;have HQ:=z0 hq;have HB2:=z0 (HB1.o.alloc HB1.o.size (.cells AV 62));clear hl hv hsl hq hM;generalize (w1.alloc (.cells AV 62))=w3 at *;cases q with
    |false=>
     go_wp2;go_ret;exact⟨_,rfl,(fun h=>by cases h),HB2.o⟩
    |true=>
    have HNEW:Hd (∀j (h:j<L.length),j<k+1->z0Q L[j].q=true/\L[j].L.length<=25/\L[j].v.bl.length<=1200):=z0 (fun j hj hjk=>by
     by_cases e:j=k
     ·subst e;rw[HX.o];refine⟨HLT.o,?_,(HQ.o rfl).2 0 (by simp)⟩;have:=HMM.o;have:=HM.o;omega
     ·exact HL.o j hj (by omega))
    have HWI:Hd (wrap64 ((k:Int)+1)=(k:Int)+1):=z0 (by unfold wrap64;omega);clear hlt hlt' h30 h30' HX hkL;go_wp2;go_roundw
    case rel=>
     have:=HK2.o;exact⟨k+1,by omega,by omega,by rw[HWI.o];rfl,HNEW,HB2⟩
    case measure=>exact zbS HK2.o.1 HK2.o.2
   ·have h30':¬(k:Int)<=30:=by omega
    have hN:¬(N:Int)<=30:=by omega
    clear hk hk1;go_wp2;go_ret;exact⟨_,rfl,(fun h=>by cases h),HB.o⟩
  ·have hlt':¬(k:Int)<(N:Int):=by omega
   obtain rfl:k=N:=by omega
   by_cases h30:(k:Int)<=30
   ·have HH:=z0 h30;go_wp2;go_ret;exact⟨_,rfl,(fun _=>⟨by have:=HN.o;have:=HH.o;omega,fun j hj=>HL.o j hj (by have:=HN.o;omega)⟩),HB.o⟩
   ·go_wp2;go_ret;exact⟨_,rfl,(fun h=>by cases h),HB.o⟩
end
section
attribute [local go_sem ↓] xv zV zO qd ze zn zo
def zd8 (P:World->World->Prop) (A:Array Value) (E:Int) (w:World) (e:Ending) (w':World):Prop:=
 e=.returned (.tuple #[.agg A,.int .i64 E])/\∃W F Z,Below w.heap.size w W/\P W F/\F.heap[w.heap.size+1]?=some (.cells Z 54 (0,0))/\w'=qb F (w.heap.size+1) A
theorem zbT (P:World->World->Prop) (v:Value) (x:JB) (w:World) (hx:QY w x) (A:Array Value) (E:Int) (ap:A.size=101/\A.all (·.oneCell')=true)
  (aj:x.act=0->∀W,Below w.heap.size w W->Calls prog 23 #[v,.int .i64 x.vi] W fun e w'=>e=.returned (.tuple #[.agg A,.int .i64 E])/\P W w')
  (ai:x.act=1->∀W,Below w.heap.size w W->Calls prog 33 #[v,.agg (vS x.b x.sb),.agg (ye x.a x.sa)] W fun e w'=>e=.returned (.tuple #[.agg A,.int .i64 E])/\P W w')
  (al:x.act≠0->x.act≠1->∀W,Below w.heap.size w W->Calls prog 34 #[v,.agg (JA x.c x.sc)] W fun e w'=>e=.returned (.tuple #[.agg A,.int .i64 E])/\P W w')
  (ak:∀W w' Z,Below w.heap.size w W->P W w'->W.heap[w.heap.size+1]?=some (.cells Z 54 (0,0))->w'.heap[w.heap.size+1]?=some (.cells Z 54 (0,0))):
  Calls prog 11 #[v,.agg (stc x)] w (zd8 P A E w):=by
 have an:Hd (∀W,W.heap[w.heap.size]?=some (.cells (stc x) 59 (0,0))->zbD W w.heap.size x):=z0 (fun W h=>z3t h hx);have a3:=z0 aj;have ab:=z0 ai;have ag:=z0 al;have aa:=z0 ak;have J:=z0 ap;obtain⟨C,af⟩:=nm (stc x);obtain⟨Z,ae⟩:=nm (zy ju);have a0:Hd (Z.size=101):=z0 (by rw[<-ae.o];exact zg qf);obtain⟨B,a7⟩:=nm (vS x.b x.sb);obtain⟨X,a1⟩:=nm (ye x.a x.sa);obtain⟨D,a5⟩:=nm (JA x.c x.sc)
 have a8:Hd (∀W,W.heap[w.heap.size]?=some (.cells C 59 (0,0))->(W.cell? ⟨w.heap.size,0,none⟩=some (.int .i64 x.act)/\W.cell? ⟨w.heap.size,1,none⟩=some (.int .i64 x.vi))/\kq (.pointer (some ⟨w.heap.size,2,none⟩)) W=.ok (.value (.agg B)) W/\yP (.pointer (some ⟨w.heap.size,38,none⟩)) W=.ok (.value (.agg X)) W/\xt (.pointer (some ⟨w.heap.size,106,none⟩)) W=.ok (.value (.agg D)) W):=z0 (fun W h=>by
  rw[<-af.o]at h;have r:=an.o W h;rw[<-a7.o,<-a1.o,<-a5.o]
  exact⟨⟨r.act,r.vi⟩,r.bk,r.ax,r.ct⟩)
 have aA:zt (w.alloc (.cells C 59))=.ok (.value (.pointer (some ⟨w.heap.size+1,0,none⟩))) ((w.alloc (.cells C 59)).alloc (.cells Z 54)):=by
  have:=zC (w.alloc (.cells C 59));rw[ae.o]at this
  rwa[show(w.alloc (.cells C 59)).heap.size=w.heap.size+1 from by simp]at this
 obtain⟨am,F⟩:=qM w (.cells C 59) (.cells Z 54);have I:Hd (Below w.heap.size w ((w.alloc (.cells C 59)).alloc (.cells Z 54))):=z0 (Ba.alloc (by simp) _);have ay:=z0 am;have a6:=z0 F;rw[a7.o,a1.o]at ab;rw[a5.o]at ag;rw[af.o];obtain⟨ac,av⟩:=nm (x.act);obtain⟨vi,az⟩:=nm (x.vi);rw[av.o]at a3 ab ag a8;rw[az.o]at a3 a8;clear hx ap aj ai al ak am F an af ae a7 a1 a5;go_enter func11,ntmps11;go_upto_region 1 with(fail)
 clear aA;generalize ((w.alloc (.cells C 59)).alloc (.cells Z 54))=M at *;obtain⟨⟨a2,ah⟩,ad,a4,a9⟩:=a8.o M ay.o;by_cases ar:ac=0
 ·subst ar;go_wp2_with fail;refine(a3.o (by trivial) M I.o).mono ?_;rintro e K ⟨rfl,hp⟩;have F:=aa.o _ _ _ I.o hp a6.o;have aq:=qF F a0.o J.o.1 J.o.2;have O:=z0 (qU (C:=A) F);have N:=z0 (show ∃W G Z,Below w.heap.size w W/\P W G/\G.heap[w.heap.size+1]?=some (.cells Z 54 (0,0))/\qb K (w.heap.size+1) A=qb G (w.heap.size+1) A from ⟨M,K,Z,I.o,hp,F,rfl⟩);clear hp F a2 ah ad a4 a9;go_wp2;try simp only[Exit.inBlock,Exit.then]
  refine Bp (yD rfl _ _ _ _ _ _ rfl rfl O.o J.o.1) rfl ⟨rfl,N.o⟩
 ·have au:(ac == 0)=false:=by simpa using ar
  by_cases ao:ac=1
  ·subst ao;go_wp2_with fail;refine(ab.o (by trivial) M I.o).mono ?_;rintro e K ⟨rfl,hp⟩;have F:=aa.o _ _ _ I.o hp a6.o;have aq:=qF F a0.o J.o.1 J.o.2;have O:=z0 (qU (C:=A) F);have N:=z0 (show ∃W G Z,Below w.heap.size w W/\P W G/\G.heap[w.heap.size+1]?=some (.cells Z 54 (0,0))/\qb K (w.heap.size+1) A=qb G (w.heap.size+1) A from ⟨M,K,Z,I.o,hp,F,rfl⟩);clear hp F a2 ah ad a4 a9;go_wp2;try simp only[Exit.inBlock,Exit.then]
   refine Bp (yD rfl _ _ _ _ _ _ rfl rfl O.o J.o.1) rfl ⟨rfl,N.o⟩
  ·have aw:(ac == 1)=false:=by simpa using ao
   go_wp2_with fail;refine(ag.o (by have:=au;simpa using this) (by have:=aw;simpa using this) M I.o).mono ?_;rintro e K ⟨rfl,hp⟩;have F:=aa.o _ _ _ I.o hp a6.o;have aq:=qF F a0.o J.o.1 J.o.2;have O:=z0 (qU (C:=A) F);have N:=z0 (show ∃W G Z,Below w.heap.size w W/\P W G/\G.heap[w.heap.size+1]?=some (.cells Z 54 (0,0))/\qb K (w.heap.size+1) A=qb G (w.heap.size+1) A from ⟨M,K,Z,I.o,hp,F,rfl⟩);clear hp F a2 ah ad a4 a9;go_wp2;try simp only[Exit.inBlock,Exit.then]
   refine Bp (yD rfl _ _ _ _ _ _ rfl rfl O.o J.o.1) rfl ⟨rfl,N.o⟩
end
noncomputable def Kc (w : World) : Result Next := Sem.run prog (execOp (fun _ => undef) { dst := none, op := .build 57 #[], type := 0, pos := "", after := #[], guard := none }) w
theorem zaw (r:Operand->Value) (dst:Option Tmp) (ty:TypeId) (pos:String) (after:Array Edge) (guard:Option (Nat×Bool)) (w:World):
  Sem.run prog (execOp r { dst:=dst,op:=.build 57 #[],type:=ty,pos:=pos,after:=after,guard:=guard }) w=Kc w:=by
 unfold Kc execOp;simp
theorem zcl (w:World):Kc w=.ok (.value (.agg (JA ctZ (.slice none 0 0)))) w:=by
 unfold Kc;go_simp;rfl
end Go.Proofs.YtjlinimnnbfmaaaGreatDoor
