/-
  AcSame CtRd CtCodeWith CtCodeRise CtCodeFits CtCodeRight CtRight: what each of them says stands at its head.
-/
import Derived.Test.YtjlinimnnbfmaaaGreatDoorPlBs11
set_option maxRecDepth 20000
set_option maxHeartbeats 6400000
namespace Go.Proofs.YtjlinimnnbfmaaaGreatDoor
open Go.RowKit Go.Proofs.Tryz
section
attribute [local go_sem ↓] zm zq zr zL zf
theorem z4M:zbj:=by
 intro i v l w _ hv hl hK;have HKB:=z0 (fun W (h:Below w.heap.size w W)=>(show yB 1 W from hK.below h));obtain⟨Z,HZ⟩:=nm (zp yj);have HBZ:Hd (∀W,jn W=.ok (.value (.agg Z)) W):=z0 (fun W=>by rw[<-HZ.o];exact yd W);have hal:∀W,qj W=.ok (.value (.pointer (some ⟨W.heap.size,0,none⟩))) (W.alloc (.cells Z 40)):=fun W=>by rw[<-HZ.o];exact zX W
 have HSZ:Hd (Z.size=35):=z0 (by rw[<-HZ.o];exact zd qp);have HZ1:Hd (Z.all (·.oneCell')=true):=z0 (by rw[<-HZ.o];exact y7 _);have hz0:=Xh w (.cells Z 40);have hb0:Below w.heap.size w (w.alloc (.cells Z 40)):=Ba;have hv0:=hv.below hb0;have HAL:=z0 hal;have HLE:=z0 hl;clear hv hK hl;go_enter func58,ntmps58;go_upto_region 1 with(fail)
 generalize (w.alloc (.cells Z 40))=w0 at *;have HB0:=z0 hb0;have HZW:Hd (∀W,Below w0.heap.size w0 W->W.heap[w.heap.size]?=some (.cells Z 40 (0,0))):=z0 (fun W h=>(h.block _ (Lb hz0)).trans hz0)
 have HZS:Hd (∀W,Below w0.heap.size w0 W->yF (.pointer (some ⟨w.heap.size,0,none⟩)) (.agg Z) W=.ok .skip W):=z0 (fun W h=>by
  have hg:=HZW.o W h
  rw[yn hg HSZ.o HSZ.o HZ1.o,V9 hg])
 have HLZ:=z0 (Lb hz0);clear hal hz0 hb0;go_wp2_with fail;refine(z96 v l w0 hv0 (by have:=HLE.o;omega)).mono ?_;rintro e w1 ⟨g,rfl,hgl,hrd1,hb1⟩;obtain⟨a1,p1,r1,HA1⟩:∃x q s,Hd (zQ 1099511627776 l 0 true=(x,q,s)):=⟨_,_,_,z0 rfl⟩
 have hm1:a1<=1099511627776:=by have:=Jp (m:=1099511627776) (l:=l) (p:=0) (r:=true);rw[show((1099511627776:Nat):Int)=1099511627776 from rfl,HA1.o]at this;exact this
 have HM1:=z0 hm1;clear hv0 hm1;go_wp2_with fail;have C:=z3P g l 0 true 1099511627776 w1 hrd1 (by have:=HLE.o;omega) (by omega) (by omega);rw[HA1.o]at C;refine C.mono ?_;clear C;rintro e w2 ⟨rfl,hrd2,hg2⟩;have hb2:Below w0.heap.size w0 w2:=hb1.grown hg2 hb1.size (fun k hk=>by injection hk with hk;omega);obtain⟨a,p2,r2,HA2⟩:∃x q s,Hd (J4 l p1 r1=(x,q,s)):=⟨_,_,_,z0 rfl⟩
 have HOK:Hd a.Ok:=z0 (by have:=z9U l p1 r1;rw[HA2.o]at this;exact this);clear hrd1 hb1 hg2;simp only;go_wp2_with fail;have C:=z62 g l p1 r1 w2 hrd2 HLE.o;rw[HA2.o]at C;refine C.mono ?_;clear C;rintro e w3 ⟨rfl,hrd3,hg3⟩;simp only at hrd3;have hb3:Below w0.heap.size w0 w3:=hb2.grown hg3 hb2.size (fun k hk=>by injection hk with hk;omega);obtain⟨CA,HCA⟩:=nm (zp a);have HCS:Hd (CA.size=35/\CA.all (·.oneCell')=true):=z0 (by rw[<-HCA.o];exact⟨zd HOK.o,y7 _⟩);simp only;rw[HCA.o];have hal:=HAL.o;have hs3:=kF w3 HSZ.o HCS.o.1 HCS.o.2;have hr3:=Xh w3 (.cells CA 40);have hb34:Below w3.heap.size w3 (w3.alloc (.cells CA 40)):=Ba;have hb4:=hb3.trans (hb34.mono hb3.size);have hrd4:=hrd3.below hb34;have hgs:w3.heap.size≠g:=fun e=>by have:=hrd3.lt;omega
 have hB3:=hb3;clear hrd2 hg3 hb2 hb3 hb34 hrd3;go_upto_region 4 with(fail)
 generalize w3.alloc (.cells CA 40)=w4 at *;clear hal hs3;obtain⟨t,p3,r3,HA3⟩:∃x q s,Hd (yk l p2 r2=(x,q,s)):=⟨_,_,_,z0 rfl⟩
 have HTL:Hd (t.length=32):=z0 (by have:=kI l p2 r2;rw[HA3.o]at this;exact this);go_wp2_with fail;have C:=z1N g l p2 r2 w4 hrd4 (by have:=HLE.o;omega);rw[HA3.o]at C;refine C.mono ?_;clear C;rintro e w5 ⟨rfl,hrd5,hg5⟩;simp only at hrd5;have hr5:=(hg5.block _ (Lb hr3) (fun e=>by injection e with e;exact hgs e)).trans hr3;have hb5:Below w0.heap.size w0 w5:=hb4.grown hg5 hb4.size (fun k hk=>by injection hk with hk;omega);have hrt:=Xh w5 (.cells (z2 zi) 38);obtain⟨TC,HTC⟩:=nm (z2 t);simp only;rw[HTC.o];clear hrd4 hg5 hb4 hr3
 go_upto_region 5 with(first
  |(refine yf rfl rfl ?_)
  |(refine yg (h':=t) rfl _ _ rfl rfl (by rw[HTC.o];rfl) hrt zw HTL.o ?_;intro w7 hg7 hr7 hs7;have hb57:Below w5.heap.size w5 w7:=zh Ba (Nat.le_refl _) hg7 (yL _ _);clear hg7 hs7))
 have hb7:=hb5.trans (hb57.mono hb5.size);have hrd7:=hrd5.below hb57;have hr8:=(hb57.block _ (Lb hr5)).trans hr5
 have HLD:Hd (∀W,Below w7.heap.size w7 W->zW (.pointer (some ⟨w3.heap.size,0,none⟩)) W=.ok (.value (.agg CA)) W/\qE (.pointer (some ⟨w5.heap.size,0,none⟩)) W=.ok (.value (.agg TC)) W):=z0 (fun W h=>by
  refine⟨zj ((h.block _ (Lb hr8)).trans hr8) HCS.o.1,?_⟩;rw[<-HTC.o];have hr9:=(h.block _ (Lb hr7.o)).trans hr7.o
  exact zD (fun j u hu=>by rw[Nat.zero_add,z7 hr9 j];simpa [z2] using hu) HTL.o)
 have HSB:Hd (∀W,Below w7.heap.size w7 W->W.heap[w3.heap.size]?=some (.cells CA 40 (0,0))):=z0 (fun W h=>(h.block _ (Lb hr8)).trans hr8);have HNE:Hd (w3.heap.size≠w.heap.size):=z0 (fun e=>by have:=hB3.size;have:=HLZ.o;omega);have HBW:Hd (∀W,Below w7.heap.size w7 W->Below w0.heap.size w0 W):=z0 (fun W h=>hb7.trans (h.mono hb7.size));have HRAW:Hd (jG l=((a1:Int),a,t,p3,r3)):=z0 (by rw[z8q];simp only[HA1.o,HA2.o,HA3.o]);obtain⟨gs,HGS⟩:=nm (w3.heap.size:Nat);obtain⟨gt,HGT⟩:=nm (w5.heap.size:Nat);rw[HGS.o,HGT.o]at HLD;rw[HGS.o]at HSB HNE;rw[HGS.o,HGT.o];clear hB3 hrd5 hb5 hb57 hb7 hr5 hr8 hrt hr7 hgs hgl HA1 HA2 HA3 HGS HGT;obtain⟨q,HQ⟩:=nm ((r3 && decide (p3=l.length)));obtain⟨vs,HVS⟩:=nm (jY (a1:Int));obtain⟨m,HM⟩:=nm (qZ a)
 have HTX:Hd (YY l=(q && (vs && m))):=z0 (by
  rw[ZB HRAW.o,HQ.o,HM.o,<-HVS.o];unfold jY;have:=HM1.o
  congr 2
  simp
  omega)
 have HCK:Hd (∀W,Calls prog 80 #[.agg CA] W fun e w'=>e=.returned (.int .i64 (if m=true then 0 else 1))/\Below W.heap.size W w'):=z0 (fun W=>by
  have:=xP a W HOK.o;rw[HM.o,HCA.o]at this
  exact this)
 go_wp2_with fail;have C:=z9e g l p3 r3 w7 hrd7 (by have:=HLE.o;omega);rw[HQ.o]at C;refine C.mono ?_;clear C;rintro e w8 ⟨rfl,n8,hw8⟩;have hb8:Below w7.heap.size w7 w8:=by rw[hw8];exact zA (Below.refl _ _) n8
 clear hw8 hrd7;cases q with
 |false=>
  have hbz:=HBZ.o;have hsf:=HZS.o w8 (HBW.o _ hb8);have HF:=z0 (HZW.o w8 (HBW.o _ hb8));go_wp2_with fail;refine Bp (yJ rfl _ _ _ _ _ _ _ rfl rfl rfl HF.o HSZ.o) rfl ⟨?_,HB0.o.trans ((HBW.o _ hb8).mono HB0.o.size)⟩;rw[xQ (by rw[HTX.o];rfl),<-HZ.o];all_goals rfl
 |true=>
  go_wp2_with fail;refine(z0q (a1:Int) w8).mono ?_;rintro e w9 ⟨rfl,rfl⟩;rw[HVS.o];cases vs with
  |false=>
   have hbz:=HBZ.o;have hsf:=HZS.o w8 (HBW.o _ hb8);have HF:=z0 (HZW.o w8 (HBW.o _ hb8));go_wp2_with fail;refine Bp (yJ rfl _ _ _ _ _ _ _ rfl rfl rfl HF.o HSZ.o) rfl ⟨?_,HB0.o.trans ((HBW.o _ hb8).mono HB0.o.size)⟩;rw[xQ (by rw[HTX.o];rfl),<-HZ.o];all_goals rfl
  |true=>
   have l8:=(HLD.o w8 hb8).1;go_wp2_with fail;refine(HCK.o w8).mono ?_;rintro e w9 ⟨rfl,hb9'⟩;have hb9:=hb8.trans (hb9'.mono hb8.size);clear l8 hb9' hb8;cases m with
   |false=>
    simp only[Bool.false_eq_true,if_false];have hbz:=HBZ.o;have hsf:=HZS.o w9 (HBW.o _ hb9);have HF:=z0 (HZW.o w9 (HBW.o _ hb9));go_wp2_with fail;refine Bp (yJ rfl _ _ _ _ _ _ _ rfl rfl rfl HF.o HSZ.o) rfl ⟨?_,HB0.o.trans ((HBW.o _ hb9).mono HB0.o.size)⟩;rw[xQ (by rw[HTX.o];rfl),<-HZ.o];all_goals rfl
   |true=>
    simp only[if_true];go_upto_region 7 with(fail)
    have hbd:Below w7.heap.size w7 w9.drew:=hb9.drew;obtain⟨L,HL⟩:=nm (jd (a1:Int) a:List UInt8);have HLL:Hd (L.length<=72):=z0 (by rw[<-HL.o];exact Qj HOK.o HVS.o HM.o)
    have HTD:Hd (∀W,Calls prog 105 #[.int .i64 (a1:Int),.agg CA] W fun e w'=>∃x,e=.returned x/\ql W.heap.size w' x L/\Below W.heap.size W w'):=z0 (fun W=>by
     have:=VQ (a1:Int) a W HOK.o HVS.o HM.o;rw[HL.o,HCA.o]at this
     exact this)
    obtain⟨d,HD⟩:=nm ((zS i && decide (t=hl 32 (Qd i 3 L))))
    have HKC:Hd (∀v gp c W,Below w.heap.size w W->gp<W.heap.size->W.cell? ⟨gp,0,none⟩=some v->zP W v L->Calls prog 104 #[.int .i64 i,.int .u8 3,.agg TC,.slice (some ⟨gp,0,none⟩) 1 c] W fun e w'=>e=.returned (.bool d)/\Below W.heap.size W w'):=z0 (fun v gp c W hb h1 h2 h3=>by
     have:=V3 i 3 t HTL.o v L gp c W h1 h2 h3 (by have:=HLL.o;omega) (HKB.o W hb);rw[HD.o,HTC.o]at this
     exact this)
    refine Rh (S:=fun W=>zW (.pointer (some ⟨gs,0,none⟩)) W=.ok (.value (.agg CA)) W/\qE (.pointer (some ⟨gt,0,none⟩)) W=.ok (.value (.agg TC)) W) (by kernel_rfl) (HLD.o _ hbd) (fun hHeld=>?_);refine' z5 0 (h:=?_);refine' tk (i:=1) (v:=_) rfl (fun W hW=>hW.2) ?_;try simp only[zx]
    refine' z5 2 (h:=?_);refine' tk (i:=3) (v:=_) rfl (fun W hW=>hW.1) ?_;try simp only[zx]
    refine qc 4 (h:=fun K hK=>?_);go_simp;refine(HTD.o _).mono ?_;rintro e w10 ⟨v10,rfl,ho10,hb10'⟩;have hb10:=hbd.trans (hb10'.mono hbd.size);have hv10:=ho10.byt;obtain⟨A3,c3,rfl⟩:=hv10.shape;refine hK.out _ _ (HLD.o _ hb10) (fun hHeld=>?_);clear hK K;try simp only[zx]
    have hb11:Below w7.heap.size w7 (w10.alloc (.cells #[.slice A3 L.length c3] 33)):=hb10.alloc hb10.size _;refine qc 5 (h:=fun K hK=>?_);go_simp;refine hK.out _ _ (HLD.o _ hb11) (fun hHeld=>?_);clear hK K;try simp only[zx]
    refine qc 6 (h:=fun K hK=>?_);go_simp;refine(HKC.o (.slice A3 L.length c3) w10.heap.size 1 (w10.alloc (.cells #[.slice A3 L.length c3] 33)) (HB0.o.trans ((HBW.o _ hb11).mono HB0.o.size)) (by simp) (J2 _ _ _) (hv10.alloc _)).mono ?_;rintro e w12 ⟨rfl,hb12'⟩;have hb12:=hb11.trans (hb12'.mono hb11.size);refine hK.out _ _ (HLD.o _ hb12) (fun hHeld=>?_);clear hK K;try simp only[zx]
    refine' z5 7 (h:=?_);refine wpAnyH_done (by kernel_rfl) ?_ _;clear hHeld hbd hb9 ho10 hb10 hb10' hv10 hb11 hb12'
    have HDT:Hd ((zS i=true/\(jG l).2.2.1=Kz i (jG l).1 (jG l).2.1) ↔ d=true):=z0 (by
     rw[HRAW.o,<-HD.o];unfold Kz
     simp only[HL.o,Bool.and_eq_true,decide_eq_true_eq])
    cases d with
    |false=>
     have hbz:=HBZ.o;have hsf:=HZS.o w12 (HBW.o _ hb12);have HF:=z0 (HZW.o w12 (HBW.o _ hb12));go_wp2_with fail;refine Bp (yJ rfl _ _ _ _ _ _ _ rfl rfl rfl HF.o HSZ.o) rfl ⟨?_,HB0.o.trans ((HBW.o _ hb12).mono HB0.o.size)⟩;rw[VS (by rw[HTX.o];rfl) (by rw[HDT.o];decide),<-HZ.o];all_goals rfl
    |true=>
     have HDY:=z0 (HDT.o.2 rfl);go_upto_region 9 with(fail)
     have HZ9:=z0 (HZW.o w12 (HBW.o _ hb12));have HB12:=z0 (HBW.o _ hb12);have hbe:Below w7.heap.size w7 w12.drew:=hb12.drew;have HLT:=z0 (Lb HZ9.o);have HGS:Hd (gs≠w.heap.size):=HNE;refine Rh (S:=fun W=>zW (.pointer (some ⟨gs,0,none⟩)) W=.ok (.value (.agg CA)) W) (by kernel_rfl) (HLD.o _ hbe).1 (fun hHeld=>?_);refine' z5 0 (h:=?_);refine' tk (i:=1) (v:=_) rfl (fun W hW=>hW) ?_;try simp only[zx]
     refine' z5 2 (h:=?_);refine qc 3 (h:=fun K hK=>?_);refine Xd (w:=w12.drew) (C:=CA) _ _ rfl rfl rfl HZ9.o HCS.o.1 HSZ.o HCS.o.2 ?_;intro wa hga hra hsa;have hBB:Below w.heap.size w wa:=zh (HB0.o.trans (HB12.o.drew.mono HB0.o.size)) (Nat.le_refl _) hga (by show _<=w12.heap.size;have:=HLT.o;omega);have hrs:wa.heap[gs]?=some (.cells CA 40 (0,0)):=(hga.block _ (Lb (HSB.o w12 hb12)) (fun e=>by injection e with e;exact HGS.o e)).trans (HSB.o w12 hb12);refine hK.out _ _ (zj hrs HCS.o.1) (fun hHeld=>?_);clear hK K;try simp only[zx]
     refine' z5 4 (h:=?_);refine wpAnyH_done (by kernel_rfl) ?_ _;clear hHeld;go_wp2_with fail;refine Bp (yJ rfl _ _ _ _ _ _ _ rfl rfl rfl hra HCS.o.1) rfl ⟨?_,hBB⟩;rw[z4x (by rw[HTX.o];rfl) HDY.o,HRAW.o,HCA.o];all_goals rfl
end
section
open Go.ChangeShapes Go.WideShapes Go.ChangeAt Go.RowKit Go.Deep
section
variable {H:Type}{enc:TypeId×Value->H}{w:World}{base:Nat}{spare:Nat->Bool}{held:Bool}{fuel:Nat}{cs:List Value}{x:DataW H×List MemPlace}
theorem zab (h:DataW.trod enc prog w base spare held fuel 50 cs=some x):∃v L,cs=[v]/\jE VB 1 w v L:=by
 obtain⟨v,L,h1,h2,_⟩:=Zk.trod 0 trivial (fun h=>by
  obtain⟨n,e,_,_⟩:=DataW.trod_int underlying3 h
  exact⟨n,trivial,e⟩) h
 exact⟨v,L,h1,h2⟩
theorem z8J:∃M I F K G J:Field,prog.underlying 52=some (.struct #[M,I,F,K,G,J])/\(M.type,M.offset)=(3,0)/\(I.type,I.offset)=(3,1)/\(F.type,F.offset)=(3,2)/\(K.type,K.offset)=(38,3)/\(G.type,G.offset)=(50,35)/\(J.type,J.offset)=(38,36):=
 ⟨_,_,_,_,_,_,underlying52,rfl,rfl,rfl,rfl,rfl,rfl⟩
theorem zbx (h:DataW.trod enc prog w base spare held fuel 52 cs=some x):∃a:vU,Kh w (.agg cs.toArray) a:=by
 obtain⟨a8,ag,a1,an,af,am,aw,aD,ax,al,aq,ap,ae⟩:=z8J;injection aD with ah a4;injection ax with au aA;injection al with ak aC;injection aq with az a2;injection ap with ar ai;injection ae with aj av;obtain⟨a3,m,_,_,a7,a6,F⟩:=DataW.trod_struct aw h;have ay:prog.cellsOf 52=68:=by kernel_rfl
 have G:prog.cellsOf 3=1:=by kernel_rfl
 have J:prog.cellsOf 38=32:=by kernel_rfl
 have aa:prog.cellsOf 50=1:=by kernel_rfl
 rw[ay]at a7;have hx:a3.length=6:=a6;have N:=F 0 a8 rfl;have M:=F 1 ag rfl;have I:=F 2 a1 rfl;have a0:=F 3 an rfl;have K:=F 4 af rfl;have O:=F 5 am rfl;rw[ah,a4,G,List.getElem?_eq_getElem (by omega)]at N;rw[au,aA,G,List.getElem?_eq_getElem (by omega)]at M;rw[ak,aC,G,List.getElem?_eq_getElem (by omega)]at I;rw[az,a2,J,List.getElem?_eq_getElem (by omega)]at a0;rw[ar,ai,aa,List.getElem?_eq_getElem (by omega)]at K;rw[aj,av,J,List.getElem?_eq_getElem (by omega)]at O;obtain⟨n0,c0,_,_⟩:=DataW.trod_int underlying3 N;obtain⟨n1,c1,_,_⟩:=DataW.trod_int underlying3 M;obtain⟨n2,a5,_,_⟩:=DataW.trod_int underlying3 I;obtain⟨pa,h3,ab⟩:=kH a0;obtain⟨v,L,aB,ad⟩:=zab K;obtain⟨tg,a9,ao⟩:=kH O;refine⟨⟨n0,n1,n2,pa,L,tg⟩,v,?_,⟨h3,a9⟩,ad⟩;have e:cs=cs.drop 0:=rfl;rw[e,zE c0,zE c1,zE a5,zE ab,zE aB,zE ao,List.drop_eq_nil_of_le (by omega)];unfold ye axl;simp only[List.append_nil,List.cons_append,List.nil_append]
end
end
section
attribute [local go_sem ↓] ze
theorem z3p (n vi:Int) (a:y8) (w:World) (ho:a.Ok) (a4:yB 1 w):
  Calls prog 73 #[.int .i64 n,.int .i64 vi,.agg (zy a)] w fun e w'=>e=.returned (.bool (kM n vi a))/\Below w.heap.size w w':=by
 have F:Below w.heap.size w (w.alloc (.cells (zy a) 54)):=Ba;have K:=qz.new w a;obtain⟨G,a0⟩:=nm (kM n vi a);obtain⟨m,a5⟩:=nm (yv a);have J:Hd (G=(m && (decide (a.ki=1) && (decide (a.vi=vi) && decide (a.bo<=n))))):=z0 (by rw[<-a0.o,<-a5.o];rfl)
 have a1:Hd (Calls prog 124 #[.agg (zy a)] (w.alloc (.cells (zy a) 54)) fun e w'=>e=.returned (.bool m)/\Below (w.alloc (.cells (zy a) 54)).heap.size (w.alloc (.cells (zy a) 54)) w'):=z0 (by
  have:=z0k a (w.alloc (.cells (zy a) 54)) ho (a4.below F);rw[a5.o]at this
  exact this)
 rw[a0.o];have ae:=z0 ho;clear ho a4;obtain⟨C,ab⟩:=nm (zy a);have I:=ji K ae.o;rw[ab.o]at F K a1 I⊢;go_enter func73,ntmps73;go_upto_region 1 with(fail)
 generalize (w.alloc (.cells C 54))=w0 at *;obtain⟨O,a7,a8,_⟩:=K.cells;clear K;obtain⟨bo,a6⟩:=nm (a.bo);obtain⟨ki,a2⟩:=nm (a.ki);obtain⟨M,N⟩:=nm (a.vi);rw[a6.o,a2.o,N.o]at J;rw[a6.o]at O;rw[a2.o]at a7;rw[N.o]at a8;have a9:=z0 I;clear I;by_cases h1:bo<=n
 case neg=>
  obtain rfl:G=false:=by rw[J.o,decide_eq_false h1];simp
  go_wp2;go_ret;exact⟨rfl,F⟩
 by_cases h2:ki=1
 case neg=>
  have a3:(ki == 1)=false:=by simpa using h2
  obtain rfl:G=false:=by rw[J.o,decide_eq_false h2];simp
  clear h2;go_wp2;go_ret;exact⟨rfl,F⟩
 by_cases h3:M=vi
 case neg=>
  have a3:(ki == 1)=true:=by simpa using h2
  have ad:(M == vi)=false:=by simpa using h3
  obtain rfl:G=false:=by rw[J.o,decide_eq_false h3];simp
  clear h2 h3;go_wp2;go_ret;exact⟨rfl,F⟩
 have a3:(ki == 1)=true:=by simpa using h2
 have ad:(M == vi)=true:=by simpa using h3
 obtain rfl:G=m:=by rw[J.o,decide_eq_true h1,decide_eq_true h2,decide_eq_true h3];simp
 clear h2 h3;have I:=a9.o;go_wp2_with fail;refine a1.o.mono ?_;rintro e af ⟨rfl,aa⟩;clear I O a7 a8;go_wp2;go_ret;exact⟨rfl,F.trans (aa.mono F.size)⟩
end
section
attribute [local go_sem ↓] zm
section
variable {w:World}{b c a:Nat}{V:yV}{v0 v1 vt:Value}
theorem Xg {V:yV}{l:List UInt8} (h:yh V=false):kD V=6/\vG V l={ zc V with torn:=l }:=by
 unfold kD vG;rw[h,if_neg (by decide),if_neg (by decide)];exact⟨rfl,rfl⟩
theorem Qq {V:yV}{l:List UInt8} (h:yh V=true) (h2:yh (zc V)=false):kD V=6/\vG V l=zc (zu (zc V) (qr V) l):=by
 unfold kD vG;rw[h,h2,if_pos rfl,if_pos rfl,if_neg (by decide),if_neg (by decide)];exact⟨rfl,rfl⟩
theorem Qr {V:yV}{l:List UInt8} (h:yh V=true) (h2:yh (zc V)=true):kD V=0/\vG V l={ zc (zu (zc V) (qr V) l) with n:=V.n+1 }:=by
 unfold kD vG;rw[h,h2,if_pos rfl,if_pos rfl,if_pos rfl,if_pos rfl];exact⟨rfl,rfl⟩
theorem Za (V:yV):qr (zc V)=qr V:=by unfold qr;rw[Zn]
theorem z6j (h:zU w b c a V v0 v1 vt) (g:V.Good) {x:Value}{l:List UInt8} (hx:qW w x l) (hl:l≠[]) (G:yh V=false):
  Calls prog 83 #[.pointer (some ⟨b,0,none⟩),x] w fun e w'=>e=.returned (.int .i64 (kD V))/\jL w' b c a (vG V l)/\zJ b a w w':=by
 have J:=z0 (k9 h g);rw[G]at J;obtain⟨K,I⟩:=Xg (l:=l) G;rw[K,I];have M:Hd (∀W,zJ b a w W->qW W x l):=z0 (fun W t=>h.turnedS hx t);obtain⟨A,d,rfl⟩:=hx.shape;have N:=z0 hl;clear K I G hx g hl h;go_enter func83,ntmps83;go_wp2_with fail;refine J.o.mono ?_;rintro e a1 ⟨rfl,h1,F⟩;have a0:=z0 (h1.setTorn (M.o a1 F) (fun e=>absurd e N.o));have O:=z0 (F.setB 6 (.slice A l.length d));obtain⟨_,_,_,_,_,_,a3⟩:=h1.cells;have a2:=h1.free 6;clear h1 F;go_wp2;go_ret;exact⟨rfl,⟨_,_,_,a0.o⟩,O.o⟩
theorem Xw (h:zU w b c a V v0 v1 vt) (g:V.Good) {x:Value}{l:List UInt8} (hx:qW w x l) (hl:l.length<=1000) (a0:yh V=true) (M:yh (zc V)=false) (hp:qr V=0):
  Calls prog 83 #[.pointer (some ⟨b,0,none⟩),x] w fun e w'=>e=.returned (.int .i64 (kD V))/\jL w' b c a (vG V l)/\zJ b a w w':=by
 have a3:=z0 (k9 h g);rw[a0]at a3;obtain⟨a4,a1⟩:=Qq (l:=l) a0 M;rw[a4,a1,hp];have N:=vI g
 have a5:Hd (∀W,zU W b c a (zc V) v0 v1 vt->Calls prog 135 #[.pointer (some ⟨b,0,none⟩)] W fun e w'=>e=.returned (.int .i64 0)/\W=w'):=z0 (fun W h1=>by
  have:=vL h1 N;rw[Za,hp]at this
  exact this)
 have a2:=vZ N 0 hl
 have a7:Hd (∀W u0 u1 G,zU W b c a (zu (zc V) 0 l) u0 u1 G->Calls prog 134 #[.pointer (some ⟨b,0,none⟩)] W fun e w'=>e=.returned (.bool false)/\zU w' b c a (zc (zu (zc V) 0 l)) u0 u1 G/\zJ b a W w'):=z0 (fun W u0 u1 G h2=>by
  have:=k9 h2 a2;rw[show yh (zu (zc V) 0 l)=false from M]at this
  exact this)
 have a8:Hd (∀W,zJ b a w W->qW W x l):=z0 (fun W t=>h.turnedS hx t);obtain⟨A,d,rfl⟩:=hx.shape;clear a4 a1 a0 M hx g hl h hp N a2;go_enter func83,ntmps83;go_wp2_with fail;refine a3.o.mono ?_;rintro e I ⟨rfl,h1,O⟩;have hd:Below I.heap.size I I.drew:=(Below.refl _ _).drew;have ab:=z0 (show jL (I.drew.setCell ⟨b,1,none⟩ (.slice A l.length d)) b c a (zu (zc V) 0 l) from(h1.below hd).setSlot (k:=0) (.inl rfl) (a8.o _ (O.then hd)));have aa:=z0 ((O.then hd).setB 1 (.slice A l.length d));have ae:=z0 (a5.o _ (h1.below hd));have a9:=(h1.below hd).cells.2.1;have af:=(h1.below hd).free 1;clear h1 O hd;go_upto_region 4 with(fail)
 refine Rh (S:=fun _=>True) (by kernel_rfl) True.intro (fun J=>?_);refine' z5 0 (h:=z5 1 (h:=z5 3 (h:=z5 4 (h:=z5 5 (h:=?_)))));refine qc 2 (h:=fun K F=>?_);go_simp;refine ae.o.mono ?_;rintro e ah ⟨rfl,rfl⟩;refine F.out _ _ (True.intro) (fun J=>?_);clear F K;try simp only[zx]
 refine' z5 6 (h:=?_);refine qc 7 (h:=fun K F=>?_);go_simp;refine F.out _ _ (True.intro) (fun J=>?_);clear F K;try simp only[zx]
 refine wpAnyH_done (by kernel_rfl) ?_ _;clear J a9 af;obtain⟨u0,u1,G,h2⟩:=ab.o;have a6:=z0 (a7.o _ _ _ _ h2);clear h2;go_wp2_with fail;refine a6.o.mono ?_;rintro e ag ⟨rfl,h3,ad⟩;go_wp2;go_ret;exact⟨rfl,⟨_,_,_,h3⟩,aa.o.trans ad⟩
theorem Xx (h:zU w b c a V v0 v1 vt) (g:V.Good) (hn:V.n<1099511627776) {x:Value}{l:List UInt8} (hx:qW w x l) (hl:l.length<=1000) (a0:yh V=true) (M:yh (zc V)=true) (hp:qr V=0):
  Calls prog 83 #[.pointer (some ⟨b,0,none⟩),x] w fun e w'=>e=.returned (.int .i64 (kD V))/\jL w' b c a (vG V l)/\zJ b a w w':=by
 have a3:=z0 (k9 h g);rw[a0]at a3;obtain⟨a5,a1⟩:=Qr (l:=l) a0 M;rw[a5,a1,hp];have N:=vI g
 have a6:Hd (∀W,zU W b c a (zc V) v0 v1 vt->Calls prog 135 #[.pointer (some ⟨b,0,none⟩)] W fun e w'=>e=.returned (.int .i64 0)/\W=w'):=z0 (fun W h1=>by
  have:=vL h1 N;rw[Za,hp]at this
  exact this)
 have a2:=vZ N 0 hl
 have ab:Hd (∀W u0 u1 F,zU W b c a (zu (zc V) 0 l) u0 u1 F->Calls prog 134 #[.pointer (some ⟨b,0,none⟩)] W fun e w'=>e=.returned (.bool true)/\zU w' b c a (zc (zu (zc V) 0 l)) u0 u1 F/\zJ b a W w'):=z0 (fun W u0 u1 F h2=>by
  have:=k9 h2 a2;rw[show yh (zu (zc V) 0 l)=true from M]at this
  exact this)
 have a9:Hd ((zc (zu (zc V) 0 l)).n=V.n):=z0 (by rw[Zn];exact Zn V)
 have a7:Hd (∀W u0 u1 F,zU W b c a (zc (zu (zc V) 0 l)) u0 u1 F->Calls prog 136 #[.pointer (some ⟨c,0,none⟩)] W fun e w'=>e=.returned (.tuple #[.int .i64 (V.n+1),.int .i64 0])/\W.setCell ⟨a,0,none⟩ (.int .i64 (V.n+1))=w'):=z0 (fun W u0 u1 F h3=>by
  have:=h3.k;rw[a9.o]at this
  exact z9b this g.n0 hn)
 have ae:Hd (∀W,zJ b a w W->qW W x l):=z0 (fun W t=>h.turnedS hx t);obtain⟨A,d,rfl⟩:=hx.shape;clear a5 a1 a0 M hx g hl h hp N a2 hn;go_enter func83,ntmps83;go_wp2_with fail;refine a3.o.mono ?_;rintro e I ⟨rfl,h1,O⟩;have hd:Below I.heap.size I I.drew:=(Below.refl _ _).drew;have ah:=z0 (show jL (I.drew.setCell ⟨b,1,none⟩ (.slice A l.length d)) b c a (zu (zc V) 0 l) from(h1.below hd).setSlot (k:=0) (.inl rfl) (ae.o _ (O.then hd)));have ag:=z0 ((O.then hd).setB 1 (.slice A l.length d));have ai:=z0 (a6.o _ (h1.below hd));have af:=(h1.below hd).cells.2.1;have ak:=(h1.below hd).free 1;clear h1 O hd;go_upto_region 4 with(fail)
 refine Rh (S:=fun _=>True) (by kernel_rfl) True.intro (fun J=>?_);refine' z5 0 (h:=z5 1 (h:=z5 3 (h:=z5 4 (h:=z5 5 (h:=?_)))));refine qc 2 (h:=fun K G=>?_);go_simp;refine ai.o.mono ?_;rintro e ao ⟨rfl,rfl⟩;refine G.out _ _ (True.intro) (fun J=>?_);clear G K;try simp only[zx]
 refine' z5 6 (h:=?_);refine qc 7 (h:=fun K G=>?_);go_simp;refine G.out _ _ (True.intro) (fun J=>?_);clear G K;try simp only[zx]
 refine wpAnyH_done (by kernel_rfl) ?_ _;clear J af ak;obtain⟨u0,u1,F,h2⟩:=ah.o;have aa:=z0 (ab.o _ _ _ _ h2);clear h2;go_wp2_with fail;refine aa.o.mono ?_;rintro e am ⟨rfl,h3,a4⟩;have aj:=z0 (h3.up (V.n+1));have ad:=z0 ((ag.o.trans a4).setA 0 (.int .i64 (V.n+1)));have a8:=z0 (a7.o _ _ _ _ h3);obtain⟨_,_,_,al,_,_,_⟩:=h3.cells;clear h3 a4;go_wp2_with fail;refine a8.o.mono ?_;rintro e an ⟨rfl,rfl⟩;go_wp2;go_ret;exact⟨rfl,⟨_,_,_,aj.o⟩,ad.o⟩
theorem z0C (h:zU w b c a V v0 v1 vt) (g:V.Good) {x:Value}{l:List UInt8} (hx:qW w x l) (hl:l.length<=1000) (a0:yh V=true) (M:yh (zc V)=false) (hp:qr V=1):
  Calls prog 83 #[.pointer (some ⟨b,0,none⟩),x] w fun e w'=>e=.returned (.int .i64 (kD V))/\jL w' b c a (vG V l)/\zJ b a w w':=by
 have a3:=z0 (k9 h g);rw[a0]at a3;obtain⟨a4,a1⟩:=Qq (l:=l) a0 M;rw[a4,a1,hp];have N:=vI g
 have a5:Hd (∀W,zU W b c a (zc V) v0 v1 vt->Calls prog 135 #[.pointer (some ⟨b,0,none⟩)] W fun e w'=>e=.returned (.int .i64 1)/\W=w'):=z0 (fun W h1=>by
  have:=vL h1 N;rw[Za,hp]at this
  exact this)
 have a2:=vZ N 1 hl
 have a7:Hd (∀W u0 u1 G,zU W b c a (zu (zc V) 1 l) u0 u1 G->Calls prog 134 #[.pointer (some ⟨b,0,none⟩)] W fun e w'=>e=.returned (.bool false)/\zU w' b c a (zc (zu (zc V) 1 l)) u0 u1 G/\zJ b a W w'):=z0 (fun W u0 u1 G h2=>by
  have:=k9 h2 a2;rw[show yh (zu (zc V) 1 l)=false from M]at this
  exact this)
 have a8:Hd (∀W,zJ b a w W->qW W x l):=z0 (fun W t=>h.turnedS hx t);obtain⟨A,d,rfl⟩:=hx.shape;clear a4 a1 a0 M hx g hl h hp N a2;go_enter func83,ntmps83;go_wp2_with fail;refine a3.o.mono ?_;rintro e I ⟨rfl,h1,O⟩;have hd:Below I.heap.size I I.drew:=(Below.refl _ _).drew;have ab:=z0 (show jL (I.drew.setCell ⟨b,2,none⟩ (.slice A l.length d)) b c a (zu (zc V) 1 l) from(h1.below hd).setSlot (k:=1) (.inr rfl) (a8.o _ (O.then hd)));have aa:=z0 ((O.then hd).setB 2 (.slice A l.length d));have ae:=z0 (a5.o _ (h1.below hd));have a9:=(h1.below hd).cells.2.2.1;have af:=(h1.below hd).free 2;clear h1 O hd;go_upto_region 4 with(fail)
 refine Rh (S:=fun _=>True) (by kernel_rfl) True.intro (fun J=>?_);refine' z5 0 (h:=z5 1 (h:=z5 3 (h:=z5 4 (h:=z5 5 (h:=?_)))));refine qc 2 (h:=fun K F=>?_);go_simp;refine ae.o.mono ?_;rintro e ah ⟨rfl,rfl⟩;refine F.out _ _ (True.intro) (fun J=>?_);clear F K;try simp only[zx]
 refine' z5 6 (h:=?_);refine qc 7 (h:=fun K F=>?_);go_simp;refine F.out _ _ (True.intro) (fun J=>?_);clear F K;try simp only[zx]
 refine wpAnyH_done (by kernel_rfl) ?_ _;clear J a9 af;obtain⟨u0,u1,G,h2⟩:=ab.o;have a6:=z0 (a7.o _ _ _ _ h2);clear h2;go_wp2_with fail;refine a6.o.mono ?_;rintro e ag ⟨rfl,h3,ad⟩;go_wp2;go_ret;exact⟨rfl,⟨_,_,_,h3⟩,aa.o.trans ad⟩
theorem z0D (h:zU w b c a V v0 v1 vt) (g:V.Good) (hn:V.n<1099511627776) {x:Value}{l:List UInt8} (hx:qW w x l) (hl:l.length<=1000) (a0:yh V=true) (M:yh (zc V)=true) (hp:qr V=1):
  Calls prog 83 #[.pointer (some ⟨b,0,none⟩),x] w fun e w'=>e=.returned (.int .i64 (kD V))/\jL w' b c a (vG V l)/\zJ b a w w':=by
 have a3:=z0 (k9 h g);rw[a0]at a3;obtain⟨a5,a1⟩:=Qr (l:=l) a0 M;rw[a5,a1,hp];have N:=vI g
 have a6:Hd (∀W,zU W b c a (zc V) v0 v1 vt->Calls prog 135 #[.pointer (some ⟨b,0,none⟩)] W fun e w'=>e=.returned (.int .i64 1)/\W=w'):=z0 (fun W h1=>by
  have:=vL h1 N;rw[Za,hp]at this
  exact this)
 have a2:=vZ N 1 hl
 have ab:Hd (∀W u0 u1 F,zU W b c a (zu (zc V) 1 l) u0 u1 F->Calls prog 134 #[.pointer (some ⟨b,0,none⟩)] W fun e w'=>e=.returned (.bool true)/\zU w' b c a (zc (zu (zc V) 1 l)) u0 u1 F/\zJ b a W w'):=z0 (fun W u0 u1 F h2=>by
  have:=k9 h2 a2;rw[show yh (zu (zc V) 1 l)=true from M]at this
  exact this)
 have a9:Hd ((zc (zu (zc V) 1 l)).n=V.n):=z0 (by rw[Zn];exact Zn V)
 have a7:Hd (∀W u0 u1 F,zU W b c a (zc (zu (zc V) 1 l)) u0 u1 F->Calls prog 136 #[.pointer (some ⟨c,0,none⟩)] W fun e w'=>e=.returned (.tuple #[.int .i64 (V.n+1),.int .i64 0])/\W.setCell ⟨a,0,none⟩ (.int .i64 (V.n+1))=w'):=z0 (fun W u0 u1 F h3=>by
  have:=h3.k;rw[a9.o]at this
  exact z9b this g.n0 hn)
 have ae:Hd (∀W,zJ b a w W->qW W x l):=z0 (fun W t=>h.turnedS hx t);obtain⟨A,d,rfl⟩:=hx.shape;clear a5 a1 a0 M hx g hl h hp N a2 hn;go_enter func83,ntmps83;go_wp2_with fail;refine a3.o.mono ?_;rintro e I ⟨rfl,h1,O⟩;have hd:Below I.heap.size I I.drew:=(Below.refl _ _).drew;have ah:=z0 (show jL (I.drew.setCell ⟨b,2,none⟩ (.slice A l.length d)) b c a (zu (zc V) 1 l) from(h1.below hd).setSlot (k:=1) (.inr rfl) (ae.o _ (O.then hd)));have ag:=z0 ((O.then hd).setB 2 (.slice A l.length d));have ai:=z0 (a6.o _ (h1.below hd));have af:=(h1.below hd).cells.2.2.1;have ak:=(h1.below hd).free 2;clear h1 O hd;go_upto_region 4 with(fail)
 refine Rh (S:=fun _=>True) (by kernel_rfl) True.intro (fun J=>?_);refine' z5 0 (h:=z5 1 (h:=z5 3 (h:=z5 4 (h:=z5 5 (h:=?_)))));refine qc 2 (h:=fun K G=>?_);go_simp;refine ai.o.mono ?_;rintro e ao ⟨rfl,rfl⟩;refine G.out _ _ (True.intro) (fun J=>?_);clear G K;try simp only[zx]
 refine' z5 6 (h:=?_);refine qc 7 (h:=fun K G=>?_);go_simp;refine G.out _ _ (True.intro) (fun J=>?_);clear G K;try simp only[zx]
 refine wpAnyH_done (by kernel_rfl) ?_ _;clear J af ak;obtain⟨u0,u1,F,h2⟩:=ah.o;have aa:=z0 (ab.o _ _ _ _ h2);clear h2;go_wp2_with fail;refine aa.o.mono ?_;rintro e am ⟨rfl,h3,a4⟩;have aj:=z0 (h3.up (V.n+1));have ad:=z0 ((ag.o.trans a4).setA 0 (.int .i64 (V.n+1)));have a8:=z0 (a7.o _ _ _ _ h3);obtain⟨_,_,_,al,_,_,_⟩:=h3.cells;clear h3 a4;go_wp2_with fail;refine a8.o.mono ?_;rintro e an ⟨rfl,rfl⟩;go_wp2;go_ret;exact⟨rfl,⟨_,_,_,aj.o⟩,ad.o⟩
theorem z8K (h:jL w b c a V) (g:V.Good) (hn:V.n<1099511627776) {x:Value}{l:List UInt8} (hx:qW w x l) (h0:l≠[]) (hl:l.length<=1000):
  Calls prog 83 #[.pointer (some ⟨b,0,none⟩),x] w fun e w'=>e=.returned (.int .i64 (kD V))/\jL w' b c a (vG V l)/\zJ b a w w':=by
 obtain⟨v0,v1,vt,h⟩:=h;cases F:yh V with
 |false=>exact z6j h g hx h0 F
 |true=>
  cases G:yh (zc V) with
  |false=>
   rcases ZM V with hp|hp
   ·exact Xw h g hx hl F G hp
   ·exact z0C h g hx hl F G hp
  |true=>
   rcases ZM V with hp|hp
   ·exact Xx h g hn hx hl F G hp
   ·exact z0D h g hn hx hl F G hp
theorem z2e (h:jL w b c a V) (g:V.Good) (s:ym) (ho:s.Ok) (hK:yB 1 w):
  Calls prog 40 #[.pointer (some ⟨b,0,none⟩),.agg (zp s)] w fun e w'=>e=.returned (.int .i64 (yM V s))/\jL w' b c a (yq V s)/\zJ b a w w':=by
 obtain⟨v0,v1,vt,h⟩:=h;have hb0:Below w.heap.size w (w.alloc (.cells (zp s) 40)):=Ba;have hA:=zN.new w s;have HV:Hd (∀W,Below w.heap.size w W->zU W b c a V v0 v1 vt):=z0 (fun W hb=>h.below hb);have HLD:Hd (∀W,Below (w.alloc (.cells (zp s) 40)).heap.size (w.alloc (.cells (zp s) 40)) W->zW (.pointer (some ⟨w.heap.size,0,none⟩)) W=.ok (.value (.agg (zp s))) W):=z0 (fun W hb=>kL (hA.keep hb) ho);have HCK:Hd (∀W,Calls prog 80 #[.agg (zp s)] W fun e w'=>e=.returned (.int .i64 (if qZ s=true then 0 else 1))/\Below W.heap.size W w'):=z0 (fun W=>xP s W ho)
 have HPU:Hd (qZ s=true->V.n<1099511627776->∀W,Below w.heap.size w W->Calls prog 81 #[.int .i64 V.i,.int .i64 (V.n+1),.agg (zp s)] W fun e w'=>∃x,e=.returned (.tuple #[x,.int .i64 0])/\qW w' x (vF V.i (V.n+1) s)/\Below W.heap.size W w'):=z0 (fun hm hn W hb=>by
  have n0:=g.n0;have hi:=g.i;unfold zS at hi;rw[decide_eq_true_eq]at hi;have:=z8z V.i (V.n+1) s W (by simp[Lit.wf,IntKind.min,IntKind.max,IntKind.signed,IntKind.bits];omega) (by simp[Lit.wf,IntKind.min,IntKind.max,IntKind.signed,IntKind.bits];omega) ho (hK.below hb);have hp:V8 V.i (V.n+1) s=true:=by
   unfold V8 jY;rw[g.i,hm,decide_eq_true (by omega)];rfl
  rw[hp,if_pos rfl,if_pos rfl]at this
  exact this.mono fun _ _ ⟨x,he,hx,hb⟩=>⟨x,he,hx.bys,hb⟩)
 have HBN:Hd (qZ s=true->V.n<1099511627776->vF V.i (V.n+1) s≠[]/\(vF V.i (V.n+1) s).length<=1000):=z0 (fun hm hn=>by
  have n0:=g.n0;have:=JZ (i:=V.i) (n:=V.n+1) ho (by unfold jY;rw[decide_eq_true_eq];omega) hm;refine⟨fun e=>?_,by omega⟩;have e2:=congrArg List.length e;unfold vF at e2;rw[List.length_append,YX]at e2
  simp at e2)
 have HE:Hd (V.dead=false->qZ s=true->¬V.n=1099511627776->yM V s=kD V/\yq V s=vG V (vF V.i (V.n+1) s)):=z0 (fun h1 h2 h3=>by
  unfold yM yq;rw[h1,h2,if_neg (by decide),if_neg (by decide),if_neg h3,if_neg (by decide),if_neg (by decide),if_neg h3]
  exact⟨rfl,rfl⟩)
 have HE1:Hd (V.dead=true->yM V s=6/\yq V s=V):=z0 (fun h1=>by
  unfold yM yq;rw[if_pos h1,if_pos h1]
  exact⟨rfl,rfl⟩)
 have HE2:Hd (V.dead=false->qZ s=false->yM V s=1/\yq V s=V):=z0 (fun h1 h2=>by
  unfold yM yq;simp only[h1,h2,Bool.false_eq_true,if_false,if_true]
  exact⟨trivial,trivial⟩)
 have HE3:Hd (V.dead=false->qZ s=true->V.n=1099511627776->yM V s=9/\yq V s=V):=z0 (fun h1 h2 h3=>by
  unfold yM yq;rw[h1,h2,if_neg (by decide),if_neg (by decide),if_pos h3,if_neg (by decide),if_neg (by decide),if_pos h3]
  exact⟨rfl,rfl⟩)
 have HG:=z0 g;obtain⟨m,HM⟩:=nm (qZ s);obtain⟨C,HC⟩:=nm (zp s);obtain⟨O,HO⟩:=nm (vF V.i (V.n+1) s:List UInt8);obtain⟨ke,HKE⟩:=nm (yM V s);obtain⟨kv,HKV⟩:=nm (yq V s);rw[HKE.o,HKV.o]at HE HE1 HE2 HE3;rw[HM.o]at HCK HPU HBN HE HE2 HE3;rw[HO.o]at HPU HBN HE;rw[HC.o]at hb0 HLD HCK HPU⊢;rw[HKE.o,HKV.o];have HF:Hd (∀W,Below w.heap.size w W->Calls prog 56 #[.pointer (some ⟨b,0,none⟩)] W fun e w'=>e=.returned (.int .i64 (if V.dead=true then 6 else 0))/\W=w'):=z0 (fun W hb=>z0s (HV.o W hb));have HB0:=z0 hb0;obtain⟨dd,hdd⟩:∃q:Bool,V.dead=q:=⟨_,rfl⟩
 rw[hdd]at HE HE1 HE2 HE3 HF;clear h hA g ho hK HM HC HKE HKV hdd hb0 HO;go_enter func40,ntmps40;go_upto_region 1 with(fail)
 generalize (w.alloc (.cells C 40))=w0 at *;go_wp2_with fail;refine(HF.o w0 HB0.o).mono ?_;rintro e w1 ⟨rfl,rfl⟩;cases dd with
 |true=>
  obtain⟨rfl,rfl⟩:=HE1.o rfl;rw[if_pos rfl];go_wp2;go_ret;exact⟨rfl,⟨_,_,_,HV.o _ HB0.o⟩,zJ.of HB0.o⟩
 |false=>
  have HEa:=z0 (HE.o rfl);have HE2a:=z0 (HE2.o rfl);have HE3a:=z0 (HE3.o rfl);clear HE HE1 HE2 HE3;rw[if_neg (by decide)];have l0:=HLD.o w0 (Below.refl _ _);go_wp2_with fail;refine(HCK.o w0).mono ?_;rintro e w1 ⟨rfl,hb1⟩;have HB1:=z0 (HB0.o.trans (hb1.mono HB0.o.size));have HL1:=z0 (fun W (h:Below w1.heap.size w1 W)=>HLD.o W (hb1.trans (h.mono hb1.size)));clear l0 hb1;cases m with
  |false=>
   obtain⟨rfl,rfl⟩:=HE2a.o rfl;rw[if_neg (by decide)];go_wp2;go_ret;exact⟨rfl,⟨_,_,_,HV.o _ HB1.o⟩,zJ.of HB1.o⟩
  |true=>
   have HEb:=z0 (HEa.o rfl);have HE3b:=z0 (HE3a.o rfl);have HPUa:=z0 (HPU.o rfl);have HBNa:=z0 (HBN.o rfl);clear HEa HE2a HE3a HPU HBN;rw[if_pos rfl];have h1:=HV.o w1 HB1.o;obtain⟨_,_,_,c3,_,_,_⟩:=h1.cells;have HCT:=z0 (Yj h1 HG.o);clear h1;go_wp2_with fail;refine HCT.o.mono ?_;rintro e w2 ⟨rfl,rfl⟩;clear c3;by_cases hn:V.n=1099511627776
   ·obtain⟨rfl,rfl⟩:=HE3b.o hn;go_wp2;go_ret;exact⟨rfl,⟨_,_,_,HV.o _ HB1.o⟩,zJ.of HB1.o⟩
   ·obtain⟨rfl,rfl⟩:=HEb.o hn;have hlt:V.n<1099511627776:=by have:=HG.o.n1;omega
    have HPUb:=z0 (HPUa.o hlt);obtain⟨hO0,hO1⟩:=HBNa.o hlt;have HO0:=z0 hO0;have HO1:=z0 hO1;have HLT:=z0 hlt;have hd:Below w1.heap.size w1 w1.drew:=(Below.refl _ _).drew;have HBD:=z0 (HB1.o.trans (hd.mono HB1.o.size));have HNX:=z0 (z2a (HV.o _ HBD.o) HG.o);have hc0:=(HV.o _ HBD.o).cells.1;have hl1:zW (.pointer (some ⟨w.heap.size,0,none⟩)) w1.drew=.ok (.value (.agg C)) w1.drew:=by
     exact HL1.o _ hd
    clear hlt hO0 hO1 hd;go_upto_region 9 with(fail)
    clear hn;refine Rh (S:=fun W=>W.cell? ⟨b,0,none⟩=some (.int .i64 V.i)/\zW (.pointer (some ⟨w.heap.size,0,none⟩)) W=.ok (.value (.agg C)) W) (by kernel_rfl) ⟨hc0,hl1⟩ (fun hHeld=>?_);refine' z5 0 (h:=z5 1 (h:=z5 2 (h:=vX 3 (h:=z5 4 (h:=?_)))));refine' tk (i:=6) (v:=_) rfl (fun W hW=>hW.2) ?_;try simp only[zx]
    refine qc 5 (h:=fun K hK=>?_);go_simp;refine HNX.o.mono ?_;rintro e w2 ⟨rfl,rfl⟩;refine hK.out _ _ (⟨hc0,hl1⟩) (fun hHeld=>?_);clear hK K;try simp only[zx]
    refine qc 7 (h:=fun K hK=>?_);go_simp;refine(HPUb.o _ HBD.o).mono ?_;rintro e w3 ⟨x3,rfl,hx3,hb3⟩;obtain⟨A3,c3,r3⟩:=hx3.shape;subst r3;have HB3:=z0 (HBD.o.trans (hb3.mono HBD.o.size));refine hK.out _ _ (⟨(HV.o _ HB3.o).cells.1,HL1.o _ (((Below.refl _ _).drew).trans hb3)⟩) (fun hHeld=>?_);clear hK K;try simp only[zx]
    refine' z5 8 (h:=z5 9 (h:=z5 10 (h:=z5 11 (h:=z5 12 (h:=?_)))));refine wpAnyH_done (by kernel_rfl) ?_ _;clear hHeld hc0 hl1 hb3;have HKP:=z0 (z8K ⟨_,_,_,HV.o _ HB3.o⟩ HG.o HLT.o hx3 HO0.o HO1.o);clear hx3;go_wp2_with fail;refine HKP.o.mono ?_;rintro e w4 ⟨rfl,h4,t4⟩;go_wp2;go_ret;exact⟨rfl,h4,(zJ.of HB3.o).trans t4⟩
end
end
section
attribute [local go_sem ↓] zm zq zr zL
theorem qk {I:Func}{q s:Tmp} (h:I.results=#[.cell q 40,.tmp s]) (tmps:Array Value) (w:World) (F:Nat) (J:TypeId) (G:Array Value) (v:Value)
  (hq:tmps.getD q undef=.pointer (some ⟨F,0,none⟩)) (K:tmps.getD s undef=v) (h2:w.heap[F]?=some (.cells G J (0,0))) (O:G.size=35):
  (results I tmps).run prog w=.ok (.tuple #[.agg G,v]) w:=by
 have N:tmps[q]?.getD undef=.pointer (some ⟨F,0,none⟩):=by simpa using hq
 have M:tmps[s]?.getD undef=v:=by simpa using K
 have r2:=run_loadVar_row (P:=prog) w F J 40 G (0,0) _ h2 xi rfl (by rw[xj,O]);simp[results,h,N,M,asAddr,r2]
section
variable {w:World}{b c a:Nat}{V:yV}{v0 v1 vt:Value}
theorem zac {v:Value} (h:z29 w v):Calls prog 28 #[v] w fun e w'=>e=.returned (.tuple #[.agg (zp yj),.int .i64 5])/\Below w.heap.size w w':=by
 have I:Below w.heap.size w (w.alloc (.cells (zp yj) 40)):=Ba;have K:=z0 (z8r (h.below I));have G:=Xh w (.cells (zp yj) 40);obtain⟨Z,F⟩:=nm (zp yj);have J:Hd (Z.size=35):=z0 (by rw[<-F.o];exact zd qp);have a0:Hd (Z.all (·.oneCell')=true):=z0 (by rw[<-F.o];exact y7 _);have O:qj w=.ok (.value (.pointer (some ⟨w.heap.size,0,none⟩))) (w.alloc (.cells Z 40)):=by rw[<-F.o];exact zX w
 have a1:∀W,jn W=.ok (.value (.agg Z)) W:=fun W=>by rw[<-F.o];exact yd W
 rw[F.o]at I K G⊢;have a3:=yn G J.o J.o a0.o;have N:=z0 (qG (C:=Z) G);have M:=z0 (zR (C:=Z) I (Nat.le_refl _));clear h F G I;go_enter func28,ntmps28;go_upto_region 1 with(fail)
 clear O;generalize (w.alloc (.cells Z 40))=w0 at *;go_wp2_with fail;refine K.o.mono ?_;rintro e a2 ⟨rfl,rfl⟩;go_wp2;try simp only[Exit.inBlock,Exit.then]
 refine Bp (qk rfl _ _ _ _ _ _ rfl rfl N.o J.o) rfl ⟨rfl,M.o⟩
theorem z2f (h:jL w b c a V) (g:V.Good) (aL:yB 1 w):
  Calls prog 28 #[.pointer (some ⟨b,0,none⟩)] w fun e w'=>e=.returned (.tuple #[.agg (zp (jH V)),.int .i64 (vH V)])/\Below w.heap.size w w':=by
 obtain⟨v0,v1,vt,h⟩:=h;have ay:Below w.heap.size w (w.alloc (.cells (zp yj) 40)):=Ba;have aG:=Xh w (.cells (zp yj) 40);have ah:Hd (∀W,Below w.heap.size w W->zU W b c a V v0 v1 vt):=z0 (fun W I=>h.below I);have hi:=g.i;unfold zS at hi;rw[decide_eq_true_eq]at hi;have aD:Hd ((Lit.int .i64 V.i).wf=true):=z0 (by simp[Lit.wf,IntKind.min,IntKind.max,IntKind.signed,IntKind.bits];omega);obtain⟨n0,ao⟩:∃x,Hd ((kQ V.i V.s0).1=x):=⟨_,z0 rfl⟩
 obtain⟨aa,aA⟩:∃x,Hd (zp (kQ V.i V.s0).2.1=x):=⟨_,z0 rfl⟩
 obtain⟨ae,ap⟩:∃x,Hd ((kQ V.i V.s0).2.2=x):=⟨_,z0 rfl⟩
 have am:Hd (aa.size=35/\aa.all (·.oneCell')=true):=z0 (by rw[<-aA.o];exact⟨zd (QM _ _),y7 _⟩)
 have aZ:Hd (∀W,Below w.heap.size w W->Calls prog 58 #[.int .i64 V.i,v0] W fun e w'=>e=.returned (.tuple #[.int .i64 n0,.agg aa,.int .i64 ae])/\Below W.heap.size W w'):=z0 (fun W I=>by
  have:=z4M V.i v0 V.s0 W aD.o (h.y0.byt.below I) (by have:=g.l0;omega) (aL.below I);rw[ao.o,aA.o,ap.o]at this
  exact this)
 obtain⟨n1,ax⟩:∃x,Hd ((kQ V.i V.s1).1=x):=⟨_,z0 rfl⟩
 obtain⟨a2,av⟩:∃x,Hd (zp (kQ V.i V.s1).2.1=x):=⟨_,z0 rfl⟩
 obtain⟨a6,az⟩:∃x,Hd ((kQ V.i V.s1).2.2=x):=⟨_,z0 rfl⟩
 have N:Hd (a2.size=35/\a2.all (·.oneCell')=true):=z0 (by rw[<-av.o];exact⟨zd (QM _ _),y7 _⟩)
 have aM:Hd (∀W,Below w.heap.size w W->Calls prog 58 #[.int .i64 V.i,v1] W fun e w'=>e=.returned (.tuple #[.int .i64 n1,.agg a2,.int .i64 a6])/\Below W.heap.size W w'):=z0 (fun W I=>by
  have:=z4M V.i v1 V.s1 W aD.o (h.y1.byt.below I) (by have:=g.l1;omega) (aL.below I);rw[ax.o,av.o,az.o]at this
  exact this)
 obtain⟨Z,a3⟩:=nm (zp yj);have M:Hd (Z.size=35):=z0 (by rw[<-a3.o];exact zd qp);have al:Hd (Z.all (·.oneCell')=true):=z0 (by rw[<-a3.o];exact y7 _);have aw:Hd (∀W,qj W=.ok (.value (.pointer (some ⟨W.heap.size,0,none⟩))) (W.alloc (.cells Z 40))):=z0 (fun W=>by rw[<-a3.o];exact zX W);have ak:Hd (∀W,jn W=.ok (.value (.agg Z)) W):=z0 (fun W=>by rw[<-a3.o];exact yd W);obtain⟨S,ab⟩:=nm (zp (jH V));obtain⟨E,ag⟩:=nm (vH V)
 have aK:Hd (V.dead=true->S=Z/\E=6):=z0 (fun hd=>by
  rw[<-ab.o,<-ag.o,<-a3.o];obtain⟨aY,b9⟩:=z1Z hd;rw[aY,b9]
  exact⟨rfl,rfl⟩)
 have aJ:Hd (V.dead=false->V.n=0->S=Z/\E=0):=z0 (fun hd hn=>by
  rw[<-ab.o,<-ag.o,<-a3.o];unfold jH vH;have O:¬V.dead=true:=by rw[hd];decide
  rw[if_neg O,if_neg O,if_pos hn,if_pos hn]
  exact⟨rfl,rfl⟩)
 have aF:Hd (V.dead=false->¬V.n=0->ae=0->n0=V.n->S=aa/\E=0):=z0 (fun hd hn h1 h2=>by
  have a7:Zm V.i V.n V.s0=true:=by unfold Zm;rw[ap.o,ao.o,decide_eq_true h1,decide_eq_true h2];rfl
  rw[<-ab.o,<-ag.o,<-aA.o];unfold jH vH;have O:¬V.dead=true:=by rw[hd];decide
  rw[if_neg O,if_neg O,if_neg hn,if_neg hn,if_pos a7,if_pos a7]
  exact⟨rfl,rfl⟩)
 have aI:Hd (V.dead=false->¬V.n=0->¬(ae=0/\n0=V.n)->a6=0->n1=V.n->S=a2/\E=0):=z0 (fun hd hn h0 h1 h2=>by
  have a7:Zm V.i V.n V.s1=true:=by unfold Zm;rw[az.o,ax.o,decide_eq_true h1,decide_eq_true h2];rfl
  have hg:¬Zm V.i V.n V.s0=true:=by unfold Zm;rw[ap.o,ao.o];simpa using h0
  rw[<-ab.o,<-ag.o,<-av.o];unfold jH vH;have O:¬V.dead=true:=by rw[hd];decide
  rw[if_neg O,if_neg O,if_neg hn,if_neg hn,if_neg hg,if_neg hg,if_pos a7,if_pos a7]
  exact⟨rfl,rfl⟩)
 have aH:Hd (V.dead=false->¬V.n=0->¬(ae=0/\n0=V.n)->¬(a6=0/\n1=V.n)->S=Z/\E=8):=z0 (fun hd hn h0 h1=>by
  have a7:¬Zm V.i V.n V.s1=true:=by unfold Zm;rw[az.o,ax.o];simpa using h1
  have hg:¬Zm V.i V.n V.s0=true:=by unfold Zm;rw[ap.o,ao.o];simpa using h0
  rw[<-ab.o,<-ag.o,<-a3.o];unfold jH vH;have O:¬V.dead=true:=by rw[hd];decide
  rw[if_neg O,if_neg O,if_neg hn,if_neg hn,if_neg hg,if_neg hg,if_neg a7,if_neg a7]
  exact⟨rfl,rfl⟩)
 rw[a3.o]at ay aG;rw[ab.o,ag.o];have aN:Hd (∀W,Below w.heap.size w W->Calls prog 56 #[.pointer (some ⟨b,0,none⟩)] W fun e w'=>e=.returned (.int .i64 (if V.dead=true then 6 else 0))/\W=w'):=z0 (fun W I=>z0s (ah.o W I));have b8:Hd (∀W,Below w.heap.size w W->Calls prog 57 #[.pointer (some ⟨c,0,none⟩)] W fun e w'=>e=.returned (.int .i64 V.n)/\W=w'):=z0 (fun W I=>Yj (ah.o W I) g);have an:Hd (∀W,Below (w.heap.size+1) (w.alloc (.cells Z 40)) W->W.heap[w.heap.size]?=some (.cells Z 40 (0,0))):=z0 (fun W I=>(I.block _ (Nat.lt_succ_self _)).trans aG)
 have a4:Hd (∀W C,Below (w.heap.size+1) (w.alloc (.cells Z 40)) W->C.size=35->C.all (·.oneCell')=true->yF (.pointer (some ⟨w.heap.size,0,none⟩)) (.agg C) W=.ok .skip (setSe W w.heap.size C)/\(setSe W w.heap.size C).heap[w.heap.size]?=some (.cells C 40 (0,0))/\Below w.heap.size w (setSe W w.heap.size C)):=z0 (fun W C I h1 h2=>
  ⟨yn (an.o W I) M.o h1 h2,qG (an.o W I),zR (ay.trans (I.mono (Nat.le_succ _))) (Nat.le_refl _)⟩)
 have a0:Hd (∀W,Below (w.heap.size+1) (w.alloc (.cells Z 40)) W->Below w.heap.size w W):=z0 (fun W I=>ay.trans (I.mono (Nat.le_succ _)));have a1:Hd (Below (w.heap.size+1) (w.alloc (.cells Z 40)) (w.alloc (.cells Z 40))):=z0 (Below.refl _ _);have aj:Hd (w.heap.size+1<=(w.alloc (.cells Z 40)).heap.size):=z0 (by simp);have b0:Hd ((∃A d,v0=.slice A V.s0.length d)/\(∃A d,v1=.slice A V.s1.length d)):=z0 ⟨h.y0.shape,h.y1.shape⟩;obtain⟨aX,aO⟩:∃q:Bool,V.dead=q:=⟨_,rfl⟩
 rw[aO]at aK aJ aF aI aH aN;have a9:=aw.o w;clear h g aL hi ay aG aO ao ax aA av ap az ab ag a3 aD an;go_enter func28,ntmps28;go_upto_region 1 with(fail)
 clear a9;generalize (w.alloc (.cells Z 40))=w0 at *;go_wp2_with fail;refine(aN.o w0 (a0.o _ a1.o)).mono ?_;rintro e be ⟨rfl,rfl⟩;cases aX with
 |true=>
  obtain⟨rfl,rfl⟩:=aK.o rfl;rw[if_pos rfl];have aq:=ak.o;obtain⟨a8,G,F⟩:=a4.o w0 _ a1.o M.o al.o;have K:=z0 G;have J:=z0 F;clear G F;go_wp2;try simp only[Exit.inBlock,Exit.then]
  refine Bp (qk rfl _ _ _ _ _ _ rfl rfl K.o M.o) rfl ⟨rfl,J.o⟩
 |false=>
  have aR:=z0 (aJ.o rfl);have aV:=z0 (aF.o rfl);have aU:=z0 (aI.o rfl);have aT:=z0 (aH.o rfl);clear aK aJ aF aI aH;rw[if_neg (by decide)];obtain⟨_,_,_,b5,_,_,_⟩:=(ah.o w0 (a0.o _ a1.o)).cells;go_wp2_with fail;refine(b8.o w0 (a0.o _ a1.o)).mono ?_;rintro e be ⟨rfl,rfl⟩;clear b5;by_cases hn:V.n=0
  ·obtain⟨rfl,rfl⟩:=aR.o hn;have aq:=ak.o;obtain⟨a8,G,F⟩:=a4.o w0 _ a1.o M.o al.o;have K:=z0 G;have J:=z0 F;clear G F;go_wp2;try simp only[Exit.inBlock,Exit.then]
   refine Bp (qk rfl _ _ _ _ _ _ rfl rfl K.o M.o) rfl ⟨rfl,J.o⟩
  have bb:=z0 (aV.o hn);have aP:=z0 (aU.o hn);have aB:=z0 (aT.o hn);clear aR aV aU aT;obtain⟨_,c1,b4,_,_,_,_⟩:=(ah.o w0 (a0.o _ a1.o)).cells;obtain⟨⟨A0,bd,rfl⟩,A1,bc,rfl⟩:=b0.o;generalize V.s0.length=b1 at *;generalize V.s1.length=b6 at *;go_wp2_with fail;clear hn c1 b4;generalize ba:V.n=n at *;clear ba;have bf:=fun W=>zbn (.slice A0 b1 bd) (.slice A1 b6 bc) W;refine wp_loop_rounds 3 ?_;rw[rounds_succ];obtain⟨c0,_,_,_,_,_,_⟩:=(ah.o w0 (a0.o _ a1.o)).cells;go_wp2_with fail;clear c0;refine(aZ.o w0 (a0.o _ a1.o)).mono ?_;rintro e x0 ⟨rfl,aS⟩;have a9:=aw.o;have b7:=kF x0 M.o am.o.1 am.o.2;have aQ:=z0 (a1.o.trans (aS.mono (Nat.le_trans aj.o a1.o.size)));have a5:=z0 (aQ.o.alloc (Nat.le_trans aj.o aQ.o.size) (.cells aa 40));have an:=z0 (Xh x0 (.cells aa 40));clear aS;go_upto_region 11 with(fail)
  clear a9 b7;generalize (x0.alloc (.cells aa 40))=y0 at *;by_cases h1:ae=0
  ·by_cases h2:n0=n
   ·obtain⟨rfl,rfl⟩:=bb.o  h1 h2;have aW:=zj an.o am.o.1;obtain⟨a8,G,F⟩:=a4.o y0 _ a5.o am.o.1 am.o.2;have K:=z0 G;have J:=z0 F;clear G F;go_wp2;try simp only[Exit.inBlock,Exit.then]
    refine Bp (qk rfl _ _ _ _ _ _ rfl rfl K.o am.o.1) rfl ⟨rfl,J.o⟩
   ·have af:Hd (¬(ae=0/\n0=n)):=z0 (fun h=>h2 h.2);go_wp2_with fail;rw[rounds_succ];obtain⟨c0,_,_,_,_,_,_⟩:=(ah.o y0 (a0.o _ a5.o)).cells;go_wp2_with fail;clear c0;refine(aM.o y0 (a0.o _ a5.o)).mono ?_;rintro e x1 ⟨rfl,au⟩;have a9:=aw.o;have aE:=kF x1 M.o N.o.1 N.o.2;have ar:=z0 (a5.o.trans (au.mono (Nat.le_trans aj.o a5.o.size)));have ai:=z0 (ar.o.alloc (Nat.le_trans aj.o ar.o.size) (.cells a2 40));have aC:=z0 (Xh x1 (.cells a2 40));clear au;go_upto_region 11 with(fail)
    clear a9 aE;generalize (x1.alloc (.cells a2 40))=y1 at *;by_cases h1:a6=0
    ·by_cases h2:n1=n
     ·obtain⟨rfl,rfl⟩:=aP.o af.o h1 h2;have aW:=zj aC.o N.o.1;obtain⟨a8,G,F⟩:=a4.o y1 _ ai.o N.o.1 N.o.2;have K:=z0 G;have J:=z0 F;clear G F;go_wp2;try simp only[Exit.inBlock,Exit.then]
      refine Bp (qk rfl _ _ _ _ _ _ rfl rfl K.o N.o.1) rfl ⟨rfl,J.o⟩
     ·have ad:Hd (¬(a6=0/\n1=n)):=z0 (fun h=>h2 h.2);obtain⟨rfl,rfl⟩:=aB.o af.o ad.o;have aq:=ak.o;obtain⟨a8,G,F⟩:=a4.o y1 _ ai.o M.o al.o;have K:=z0 G;have J:=z0 F;clear G F;go_wp2_with fail;rw[rounds_succ];go_wp2;try simp only[Exit.inBlock,Exit.then]
      refine Bp (qk rfl _ _ _ _ _ _ rfl rfl K.o M.o) rfl ⟨rfl,J.o⟩
    ·have ad:Hd (¬(a6=0/\n1=n)):=z0 (fun h=>h1 h.1);obtain⟨rfl,rfl⟩:=aB.o af.o ad.o;have aq:=ak.o;obtain⟨a8,G,F⟩:=a4.o y1 _ ai.o M.o al.o;have K:=z0 G;have J:=z0 F;clear G F;go_wp2_with fail;rw[rounds_succ];go_wp2;try simp only[Exit.inBlock,Exit.then]
     refine Bp (qk rfl _ _ _ _ _ _ rfl rfl K.o M.o) rfl ⟨rfl,J.o⟩
  ·have af:Hd (¬(ae=0/\n0=n)):=z0 (fun h=>h1 h.1);go_wp2_with fail;rw[rounds_succ];obtain⟨c0,_,_,_,_,_,_⟩:=(ah.o y0 (a0.o _ a5.o)).cells;go_wp2_with fail;clear c0;refine(aM.o y0 (a0.o _ a5.o)).mono ?_;rintro e x1 ⟨rfl,au⟩;have a9:=aw.o;have aE:=kF x1 M.o N.o.1 N.o.2;have ar:=z0 (a5.o.trans (au.mono (Nat.le_trans aj.o a5.o.size)));have ai:=z0 (ar.o.alloc (Nat.le_trans aj.o ar.o.size) (.cells a2 40));have aC:=z0 (Xh x1 (.cells a2 40));clear au;go_upto_region 11 with(fail)
   clear a9 aE;generalize (x1.alloc (.cells a2 40))=y1 at *;by_cases h1:a6=0
   ·by_cases h2:n1=n
    ·obtain⟨rfl,rfl⟩:=aP.o af.o h1 h2;have aW:=zj aC.o N.o.1;obtain⟨a8,G,F⟩:=a4.o y1 _ ai.o N.o.1 N.o.2;have K:=z0 G;have J:=z0 F;clear G F;go_wp2;try simp only[Exit.inBlock,Exit.then]
     refine Bp (qk rfl _ _ _ _ _ _ rfl rfl K.o N.o.1) rfl ⟨rfl,J.o⟩
    ·have ad:Hd (¬(a6=0/\n1=n)):=z0 (fun h=>h2 h.2);obtain⟨rfl,rfl⟩:=aB.o af.o ad.o;have aq:=ak.o;obtain⟨a8,G,F⟩:=a4.o y1 _ ai.o M.o al.o;have K:=z0 G;have J:=z0 F;clear G F;go_wp2_with fail;rw[rounds_succ];go_wp2;try simp only[Exit.inBlock,Exit.then]
     refine Bp (qk rfl _ _ _ _ _ _ rfl rfl K.o M.o) rfl ⟨rfl,J.o⟩
   ·have ad:Hd (¬(a6=0/\n1=n)):=z0 (fun h=>h1 h.1);obtain⟨rfl,rfl⟩:=aB.o af.o ad.o;have aq:=ak.o;obtain⟨a8,G,F⟩:=a4.o y1 _ ai.o M.o al.o;have K:=z0 G;have J:=z0 F;clear G F;go_wp2_with fail;rw[rounds_succ];go_wp2;try simp only[Exit.inBlock,Exit.then]
    refine Bp (qk rfl _ _ _ _ _ _ rfl rfl K.o M.o) rfl ⟨rfl,J.o⟩
end
end
section
attribute [local go_sem ↓] zf
theorem z1r (aG aT:Value) (a b:vU) (w:World) (bm:Kh w aG a) (bC:Kh w aT b):
  Calls prog 15 #[aG,aT] w fun e w'=>e=.returned (.bool (decide (a=b)))/\Below w.heap.size w w':=by
 obtain⟨sa,rfl,J,av⟩:=bm;obtain⟨sb,rfl,K,au⟩:=bC;have F:Below w.heap.size w ((w.alloc (.cells (ye a sa) 52)).alloc (.cells (ye b sb) 52)):=Ba.alloc (by simp) _;have O:yr ((w.alloc (.cells (ye a sa) 52)).alloc (.cells (ye b sb) 52)) w.heap.size a sa:=Zj w _ _;have a0:yr ((w.alloc (.cells (ye a sa) 52)).alloc (.cells (ye b sb) 52)) (w.heap.size+1) b sb:=kT w _ _;have a7:=av.below F;have a8:=au.below F;obtain⟨aP,aN,rfl⟩:=av.shape;obtain⟨aY,aR,rfl⟩:=au.shape;obtain⟨bn,aJ⟩:=nm (ye a (.slice aP a.fr.length aN));obtain⟨bB,aE⟩:=nm (ye b (.slice aY b.fr.length aR));rw[aJ.o,aE.o]at O a0 F a7 a8⊢;obtain⟨M,G⟩:=nm (decide (a=b));rw[G.o];go_enter func15,ntmps15;go_upto_region 1 with(fail)
 generalize ((w.alloc (.cells bn 52)).alloc (.cells bB 52))=w0 at *;clear aJ aE av au;obtain⟨aL,aW,aI⟩:=O.ints;obtain⟨aH,aQ,aD⟩:=a0.ints;have ao:=O.fr J;have ak:=a0.fr K;have ay:=zD O.pa J.pa;have aA:=zD a0.pa K.pa;have aq:=zD (O.tg J) J.tg;have an:=zD (a0.tg K) K.tg;have ad:=xX a.pa b.pa J.pa K.pa w0;have ab:=xX a.tg b.tg J.tg K.tg w0;have aj:∀n,(w0.drewN n).cell? ⟨w.heap.size,35,none⟩=some (.slice aP a.fr.length aN):=fun n=>O.fr J;have ag:∀n,(w0.drewN n).cell? ⟨w.heap.size+1,35,none⟩=some (.slice aY b.fr.length aR):=fun n=>a0.fr K;clear O a0 J K;obtain⟨bo,vi,pv,pa,fr,tg⟩:=a;obtain⟨af,ai,ah,ap,N,az⟩:=b;simp only at aL aW aI aH aQ aD ao ak ay aA aq an ad ab aj ag a7 a8 G;obtain⟨be,aB⟩:=nm (decide (pa=ap));obtain⟨bt,aw⟩:=nm (decide (tg=az));rw[aB.o]at ad;rw[aw.o]at ab;obtain⟨bH,bl⟩:=nm (z2 pa);obtain⟨bJ,bk⟩:=nm (z2 ap);obtain⟨bK,bu⟩:=nm (z2 tg);obtain⟨bM,b9⟩:=nm (z2 az);rw[bl.o]at ay ad;rw[bk.o]at aA ad;rw[bu.o]at aq ab;rw[b9.o]at an ab;obtain⟨I,a4⟩:=nm (fr.length:Nat);obtain⟨ax,aa⟩:=nm (N.length:Nat);have aC:=a7.len;have b4:=a8.len;rw[a4.o]at ao aj a7 aC;rw[aa.o]at ak ag a8 b4;unfold maxLen at aC b4;have bf:=z0 a7;have b6:=z0 a8;have bp:=z0 aj;have bq:=z0 ag;clear a7 a8 aj ag;by_cases n0:¬bo=af
 ·have aX:(bo != af)=true:=by simpa using n0
  obtain rfl:M=false:=by
   rw[<-G.o];exact decide_eq_false (fun e=>by injection e with a9 a5 a1 a6 a2 a3;exact n0 a9)
  go_wp2;go_ret;exact⟨rfl,F⟩
 have aX:(bo != af)=false:=by simpa using n0
 by_cases n1:¬vi=ai
 ·have b1:(vi != ai)=true:=by simpa using n1
  obtain rfl:M=false:=by
   rw[<-G.o];exact decide_eq_false (fun e=>by injection e with a9 a5 a1 a6 a2 a3;exact n1 a5)
  go_wp2;go_ret;exact⟨rfl,F⟩
 have b1:(vi != ai)=false:=by simpa using n1
 by_cases n2:¬pv=ah
 ·have aZ:(pv != ah)=true:=by simpa using n2
  obtain rfl:M=false:=by
   rw[<-G.o];exact decide_eq_false (fun e=>by injection e with a9 a5 a1 a6 a2 a3;exact n2 a1)
  go_wp2;go_ret;exact⟨rfl,F⟩
 have aZ:(pv != ah)=false:=by simpa using n2
 cases be with
 |false=>
  obtain rfl:M=false:=by
   rw[<-G.o];exact decide_eq_false (fun e=>by injection e with a9 a5 a1 a6 a2 a3;exact of_decide_eq_false aB.o a6)
  go_wp2;go_ret;exact⟨rfl,F⟩
 |true=>
 cases bt with
 |false=>
  obtain rfl:M=false:=by
   rw[<-G.o];exact decide_eq_false (fun e=>by injection e with a9 a5 a1 a6 a2 a3;exact of_decide_eq_false aw.o a3)
  go_wp2;go_ret;exact⟨rfl,F⟩
 |true=>
 by_cases b0:¬I=ax
 ·have aU:((I:Int) != (ax:Int))=true:=by simp;omega
  obtain rfl:M=false:=by
   rw[<-G.o];exact decide_eq_false (fun e=>by injection e with a9 a5 a1 a6 a2 a3;exact by subst a2;exact b0 (a4.o.symm.trans aa.o))
  go_wp2;go_ret;exact⟨rfl,F⟩
 obtain rfl:I=ax:=by omega
 have aU:((I:Int) != (I:Int))=false:=by simp
 obtain⟨_,bi,bw,aS⟩:=bf.o.at_;obtain⟨_,bg,br,aO⟩:=b6.o.at_;rw[a4.o]at bi;rw[aa.o]at bg;unfold maxLen at bw br;have bv:=z0 aS;have bj:=z0 aO;have b7:Hd (bo=af/\vi=ai/\pv=ah/\pa=ap/\tg=az):=z0 ⟨by omega,by omega,by omega,of_decide_eq_true aB.o,of_decide_eq_true aw.o⟩;clear aS aO;go_wp2_with fail;clear aX b1 aZ aU n0 n1 n2 b0 ad ab ay aA aq an aL aW aI aH aQ aD ao ak;go_loopw [5] (fun ar wr=>∃i:Nat,i<=I/\ar=.int .i64 i/\Hd (∀j (h:j<fr.length) (h2:j<N.length),j<i->fr[j]=N[j])/\∃n,wr=w0.drewN n) (fun ar _=>I - (intOf ar).toNat)
 case atStart=>exact⟨0,Nat.zero_le _,rfl,z0 (fun j _ _ h=>absurd h (by omega)),0,rfl⟩
 case round=>
  obtain⟨i,hi,rfl,aM,n,rfl⟩:=hrel;have bL:=bp.o;have bI:=bq.o;by_cases aF:i<I
  ·have bd:i<fr.length:=by rw[a4.o];exact aF
   have bc:i<N.length:=by rw[aa.o];exact aF
   obtain⟨bD,bh,rfl,bG,aV⟩:=bv.o (by omega);obtain⟨bx,b5,rfl,bE,aK⟩:=bj.o (by omega);have l1:∀k,(w0.drewN k).cell? ⟨bD,bh+i,none⟩=some (.int .i64 fr[i]):=fun k=>by
    have:=aV i bd 0 _ rfl
    rwa[Nat.mul_one,Nat.add_zero]at this
   have bA:∀k,(w0.drewN k).cell? ⟨bx,b5+i,none⟩=some (.int .i64 N[i]):=fun k=>by
    have:=aK i bc 0 _ rfl
    rwa[Nat.mul_one,Nat.add_zero]at this
   have b8:(i:Int)<(I:Int):=by omega
   clear aV aK;obtain⟨x,am⟩:=nm (fr[i]:Int);obtain⟨y,al⟩:=nm (N[i]:Int);rw[am.o]at l1;rw[al.o]at bA;by_cases ae:x=y
   ·have hd:(x != y)=false:=by simpa using ae
    have ba:Hd (fr[i]=N[i]):=z0 (by rw[am.o,al.o];exact ae);go_wp2_with fail;go_quiet (fail);go_wp2;go_roundw
    case rel=>
     refine⟨i+1,by omega,by go_num,z0 (fun j h h2 bF=>?_),_,rfl⟩;by_cases bz:j<i
     ·exact aM.o j h h2 bz
     ·obtain rfl:j=i:=by omega
      exact ba.o
    case measure=>simp[intOf];omega
   ·have hd:(x != y)=true:=by simpa using ae
    have e:M=false:=by
     rw[<-G.o];exact decide_eq_false (fun e=>by injection e with _ _ _ _ e _;subst e;exact ae (am.o.symm.trans al.o))
    subst e;go_wp2_with fail;go_quiet (fail);go_wp2;go_ret;exact⟨rfl,zA (zA F _) _⟩
  ·obtain rfl:i=I:=by omega
   have b8:¬(i:Int)<(i:Int):=by omega
   have e:M=true:=by
    rw[<-G.o];refine decide_eq_true ?_;obtain⟨rfl,rfl,rfl,rfl,rfl⟩:=b7.o;have bb:fr=N:=List.ext_getElem (by rw[a4.o,aa.o]) fun j h h2=>aM.o j h h2 (by have:=a4.o;omega);rw[bb]
   subst e;go_wp2;go_ret;exact⟨rfl,zA F n⟩
end
noncomputable def K3 (w : World) : Result Next := Sem.run prog (execOp (fun _ => undef) { dst := none, op := .alloc 223, type := 0, pos := "", after := #[], guard := none }) w
theorem JL (r:Operand->Value) (dst:Option Tmp) (ty:TypeId) (pos:String) (after:Array Edge) (guard:Option (Nat×Bool)) (w:World):
  Sem.run prog (execOp r { dst:=dst,op:=.alloc 223,type:=ty,pos:=pos,after:=after,guard:=guard }) w=K3 w:=rfl
theorem zby:(prog.info? 223).bind (·.zero)=some (.agg (YE sgZ)):=by kernel_rfl
theorem z4N (w:World):(zeroValue 223).run prog w=.ok (.agg (YE sgZ)) w:=by
 have h:=zby
 cases hq:prog.info? 223 with
 |none=>rw[hq]at h;cases h
 |some i=>
  rw[hq]at h;have F:i.zero=some (.agg (YE sgZ)):=h;simp[zeroValue,typeInfo,hq,F]
theorem z0E (w:World):K3 w=.ok (.value (.pointer (some ⟨w.heap.size,0,none⟩))) (w.alloc (.cells (YE sgZ) 223)):=by
 unfold K3 execOp;simp only[Sem.run_bind,Instr.alloc,z4N,newVar,newRow,run_newObj_alloc,Sem.run_pure,Result.andThen_ok,Value.cells]
noncomputable def z3q (p v:Value) (w:World):Result Next:=Sem.run prog (execOp (fun x=>match x with
 | .tmp 0=>p
 | _ => v) { dst := none, op := .store 223 (.tmp 0) (.tmp 1), type := 0, pos := "", after := #[], guard := none }) w
theorem JM (r:Operand->Value) (x y:Operand) (dst:Option Tmp) (ty:TypeId) (pos:String) (after:Array Edge) (guard:Option (Nat×Bool)) (w:World):
  Sem.run prog (execOp r { dst:=dst,op:=.store 223 x y,type:=ty,pos:=pos,after:=after,guard:=guard }) w=z3q (r x) (r y) w:=rfl
theorem zad (w:World) {Z S:Array Value} (G:Z.size=33) (F:S.size=33) (h1:S.all (·.oneCell')=true):
  z3q (.pointer (some ⟨w.heap.size,0,none⟩)) (.agg S) (w.alloc (.cells Z 223))=.ok .skip (w.alloc (.cells S 223)):=by
 have:=run_storeVar_row (P:=prog) (w.alloc (.cells Z 223)) w.heap.size 223 223 Z S (Xh w _) (by rw[z7e,F]) (by rw[G,F]) h1;unfold z3q execOp;simp only[Instr.storeAt,Instr.sureAddr,Sem.run_bind,Sem.run_pure,Result.andThen_ok,this];rw[show(w.alloc (.cells Z 223)).setRow w.heap.size S=w.alloc (.cells S 223) from z4F w _ Z S]
section
attribute [local go_sem ↓] ze zn zo zf
theorem z0F (a:y8) (s:YH) (w:World) (ha:a.Ok) (hs:s.Ok):
  Calls prog 164 #[.agg (zy a),.agg (YE s)] w fun e w'=>e=.returned (.agg (zy (j5 a s)))/\Below w.heap.size w w':=by
 obtain⟨C,HC⟩:=nm (zy a);obtain⟨G,HG⟩:=nm (YE s);obtain⟨D,HD⟩:=nm (zy (j5 a s));obtain⟨Z,HZ⟩:=nm (zy ju);have hal:∀W,zt W=.ok (.value (.pointer (some ⟨W.heap.size,0,none⟩))) (W.alloc (.cells Z 54)):=fun W=>by rw[<-HZ.o];exact zC W
 have HZS:Hd (Z.size=101):=z0 (by rw[<-HZ.o];exact zg qf);have HDS:Hd (D.size=101/\D.all (·.oneCell')=true):=z0 (by rw[<-HD.o];exact⟨zg (ZR ha hs),qD _⟩);have hb0:Below w.heap.size w (((w.alloc (.cells C 54)).alloc (.cells G 223)).alloc (.cells Z 54)):=(Ba.alloc (by simp) _).alloc (by simp;omega) _;have hr0:(((w.alloc (.cells C 54)).alloc (.cells G 223)).alloc (.cells Z 54)).heap[w.heap.size]?=some (.cells C 54 (0,0)):=(Below.heap_alloc _ _ _ (by simp;omega)).trans (Zj w _ _);have hr1:(((w.alloc (.cells C 54)).alloc (.cells G 223)).alloc (.cells Z 54)).heap[w.heap.size+1]?=some (.cells G 223 (0,0)):=(Below.heap_alloc _ _ _ (by simp)).trans (kT w _ _);have hr2:(((w.alloc (.cells C 54)).alloc (.cells G 223)).alloc (.cells Z 54)).heap[w.heap.size+1+1]?=some (.cells Z 54 (0,0)):=by
  have:=kT (w.alloc (.cells C 54)) (.cells G 223) (.cells Z 54)
  rwa[show(w.alloc (.cells C 54)).heap.size=w.heap.size+1 from by simp]at this
 obtain⟨T,HT⟩:=nm (z2 s.tg)
 have HSG:Hd (∀W:World,W.heap[w.heap.size+1]?=some (.cells G 223 (0,0))->W.cell? ⟨w.heap.size+1,0,none⟩=some (.int .i64 s.bo)/\qE (.pointer (some ⟨w.heap.size+1,1,none⟩)) W=.ok (.value (.agg T)) W):=z0 (fun W h=>by
  rw[<-HG.o]at h;have hr:W.rangeAt (w.heap.size+1) 0 (scl s):=fun j u hu=>by
   rw[Nat.zero_add,z7 h j];unfold YE;rw[List.getElem?_toArray];exact hu
  obtain⟨h1,h2⟩:=VY hr;rw[<-HT.o]
  exact⟨h1,zD h2 hs⟩)
 have HLD:Hd (∀W:World,qz W w.heap.size { { a with bo:=s.bo } with tg:=s.tg }->zI (.pointer (some ⟨w.heap.size,0,none⟩)) W=.ok (.value (.agg D)) W):=z0 (fun W h=>by
  rw[<-HD.o]
  exact ji h (ZR ha hs))
 have HOA:Hd ({ a with bo:=s.bo }:y8).Ok:=z0 ⟨ha.ha,ha.pa,ha.tg⟩;have HS:=z0 hs;rw[HD.o,HC.o,HG.o];go_enter func164,ntmps164;go_upto_region 1 with(fail)
 generalize (((w.alloc (.cells C 54)).alloc (.cells G 223)).alloc (.cells Z 54))=w0 at *;have HA:Hd (qz w0 w.heap.size a):=z0 (by unfold qz;rw[HC.o];exact hr0);have hbd:Below w0.heap.size w0 w0.drew:=(Below.refl _ _).drew;have HB0:=z0 hb0;have HR1:=z0 hr1;have HR2:=z0 hr2;clear hr0 hr1 hr2 hb0 hal ha hs;refine Rh (S:=fun W=>W.cell? ⟨w.heap.size+1,0,none⟩=some (.int .i64 s.bo)/\qE (.pointer (some ⟨w.heap.size+1,1,none⟩)) W=.ok (.value (.agg T)) W) (by kernel_rfl) (HSG.o _ ((hbd.block _ (Lb HR1.o)).trans HR1.o)) (fun hHeld=>?_);refine' z5 0 (h:=vX 1 (h:=z5 2 (h:=?_)));refine' tk (i:=3) (v:=_) rfl (fun W hW=>hW.2) ?_;try simp only[zx]
 refine' z5 4 (h:=?_);have k1:=HA.o.free 0;have k2:=HA.o.cells.1;have hA2:qz ((w0.setCell ⟨w.heap.size,0,none⟩ (.int .i64 s.bo)).drew) w.heap.size { a with bo:=s.bo }:=by
  have:=jm HA.o 0 (.int .i64 s.bo);rw[za1]at this;exact this
 have hR12:((w0.setCell ⟨w.heap.size,0,none⟩ (.int .i64 s.bo)).drew).heap[w.heap.size+1]?=some (.cells G 223 (0,0)):=yX HR1.o _ (by omega);have hR22:((w0.setCell ⟨w.heap.size,0,none⟩ (.int .i64 s.bo)).drew).heap[w.heap.size+1+1]?=some (.cells Z 54 (0,0)):=yX HR2.o _ (by omega);have hb2:Below w.heap.size w ((w0.setCell ⟨w.heap.size,0,none⟩ (.int .i64 s.bo)).drew):=(HB0.o.setCell (Nat.le_refl _) _).drew;refine qc 5 (h:=fun K hK=>?_);go_simp;refine hK.out _ _ (HSG.o _ hR12) (fun hHeld=>?_);clear hK K;try simp only[zx]
 clear k1 k2;generalize ((w0.setCell ⟨w.heap.size,0,none⟩ (.int .i64 s.bo)).drew)=w2 at *;refine' z5 6 (h:=?_);refine qc 7 (h:=fun K hK=>?_);refine VL (h:=s.tg) (a:={ a with bo:=s.bo }) _ _ rfl rfl (by rw[HT.o];rfl) hA2 HOA.o HS.o ?_;intro w3 hg3 hA3 hs3;have hR13:=(hg3.block _ (Lb hR12) (fun e=>by injection e with e;omega)).trans hR12;have hR23:=(hg3.block _ (Lb hR22) (fun e=>by injection e with e;omega)).trans hR22;have hb3:Below w.heap.size w w3:=zh hb2 (Nat.le_refl _) hg3 hb2.size;refine hK.out _ _ (HSG.o _ hR13) (fun hHeld=>?_);clear hK K;try simp only[Act.put]
 refine wpAnyH_done (by kernel_rfl) ?_ _;have l3:=HLD.o w3 hA3;have hst:=qF hR23 HZS.o HDS.o.1 HDS.o.2;have HR23:=z0 hR23;have HB3:=z0 hb3;clear hHeld hR23 hR22 hR13 hR12 hb3 hb2;go_wp2_with fail;refine Bp (results_cell_row rfl _ _ _ _ _ (0,0) _ rfl (qU HR23.o) jF rfl (by rw[vE,HDS.o.1])) rfl ⟨rfl,?_⟩;exact qA HB3.o (by omega)
end
section
attribute [local go_sem ↓] Zo JL JM
def xD:Int->List YH->Int
 |last,[]=>last
 |_,s :: r=>xD s.bo r
theorem z0G (s:YH):∀(l:List YH) (last:Int),xD last (l ++ [s])=s.bo
 | [],_=>rfl
 |x :: r,_=>z0G s r x.bo
theorem J9 (top:Int) (s:YH):∀(l:List YH) (last:Int),qN top last (l ++ [s])=(qN top last l && (decide (xD last l<s.bo) && decide (s.bo<=top)))
 | [],last=>by
  show((decide (last<s.bo) && decide (s.bo<=top)) && true)=(true && (decide (last<s.bo) && decide (s.bo<=top)));rw[Bool.and_true,Bool.true_and]
 |x :: r,last=>by
  have:=J9 top s r x.bo;simp only[List.cons_append,qN,xD,this,Bool.and_assoc];rfl
theorem z0H (top:Int) (m:List YH):∀(l:List YH) (last:Int),qN top last (l ++ m)=true->qN top last l=true
 | [],_,_=>rfl
 |x :: r,last,h=>by
  simp only[List.cons_append,qN,Bool.and_eq_true]at h⊢;exact⟨h.1,z0H top m r x.bo h.2⟩
theorem z0I (top:Int):∀(l:List YH) (last:Int),qN top last l=true->last<=xD last l
 | [],_,_=>Int.le_refl _
 |x :: r,last,h=>by
  simp only[qN,Bool.and_eq_true,decide_eq_true_eq]at h;have:=z0I top r x.bo h.2;show last<=xD x.bo r;omega
theorem z8L {top:Int}{l:List YH} (h:qN top 0 l=true):decide (0<xD 0 l)=decide (0<l.length):=by
 cases l with
 |nil=>rfl
 |cons x r=>
  simp only[qN,Bool.and_eq_true,decide_eq_true_eq]at h;have:=z0I top r x.bo h.2;have h1:0<xD 0 (x :: r):=by
   show 0<xD x.bo r;omega
  rw[decide_eq_true h1];exact(decide_eq_true (by simp)).symm
theorem z0J (l:List YH) (i:Nat) (h:i<l.length):l.take (i+1)=l.take i ++ [l[i]]:=List.take_succ_eq_append_getElem h
theorem z6k {l:List YH}{i:Nat} (h:i<l.length) (F:qN 21 0 (l.take i)=true) (h1:¬l[i].bo<=xD 0 (l.take i)) (h2:zS l[i].bo=true):qN 21 0 (l.take (i+1))=true:=by
 unfold zS at h2;rw[decide_eq_true_eq]at h2;rw[z0J l i h,J9,F,decide_eq_true (by omega),decide_eq_true (by omega)];rfl
theorem z8M {l:List YH}{i:Nat} (h:i<l.length) (F:qN 21 0 (l.take i)=true) (h1:l[i].bo<=xD 0 (l.take i)\/zS l[i].bo=false):qN 21 0 l=false:=by
 cases hq:qN 21 0 l with
 |false=>rfl
 |true=>
  exfalso
  rw[<-List.take_append_drop (i+1) l]at hq;have:=z0H _ _ _ _ hq;rw[z0J l i h,J9]at this;simp only[Bool.and_eq_true,decide_eq_true_eq]at this;have h0:=z0I _ _ _ F;rcases h1 with h1|h1
  ·omega
  ·unfold zS at h1;rw[decide_eq_false_iff_not]at h1;omega
theorem z6l (v:Value) (l:List YH) (w0:World) (O:jE scl 33 w0 v l) (ho:∀s∈l,s.Ok) (hl:l.length<=1000):
  Calls prog 195 #[v] w0 fun e w'=>e=.returned (.bool (decide (0<l.length) && qN 21 0 l))/\Below w0.heap.size w0 w':=by
 obtain⟨A,c,rfl⟩:=O.shape;obtain⟨n,N⟩:=nm (l.length:Nat);rw[N.o]at O hl⊢;have al:=z0 O;have ap:=z0 ho;obtain⟨F,a2⟩:=nm ((decide (0<n) && qN 21 0 l));rw[a2.o];obtain⟨Z,ab⟩:=nm (YE sgZ);have ag:Hd (Z.size=33):=z0 (by rw[<-ab.o];exact J5 z3i);have am:∀W,K3 W=.ok (.value (.pointer (some ⟨W.heap.size,0,none⟩))) (W.alloc (.cells Z 223)):=fun W=>by rw[<-ab.o];exact z0E W
 clear O ho;go_enter func195,ntmps195;go_wp2_with fail;go_loopw [3,8] (fun J a0 wr=>∃i:Nat,i<=n/\a0=.int .i64 i/\J=.int .i64 (xD 0 (l.take i))/\Hd (qN 21 0 (l.take i)=true)/\Below w0.heap.size w0 wr) (fun _ a0 _=>n - (intOf a0).toNat)
 case atStart=>exact⟨0,Nat.zero_le _,rfl,rfl,z0 rfl,Below.refl _ _⟩
 case round=>
  obtain⟨i,hi,rfl,rfl,a3,K⟩:=hrel;by_cases ak:i<n
  ·have M:i<l.length:=by rw[N.o];exact ak
   obtain⟨b,o,rfl,hg,aa⟩:=(al.o.below K).at_.2.2.2 (by omega);have aw:(i:Int)<(n:Int):=by omega
   have a1:=ap.o _ (List.getElem_mem M);have l1:Yp (.pointer (some ⟨b,o+i*33,none⟩)) wr=.ok (.value (.agg (YE l[i]))) wr:=Yq (aa i M) a1;have a6:Hd ((YE l[i]).size=33/\(YE l[i]).all (·.oneCell')=true):=z0 ⟨J5 a1,z7d _⟩;have I:Hd (¬l[i].bo<=xD 0 (l.take i)->zS l[i].bo=true->qN 21 0 (l.take (i+1))=true):=z0 (z6k M a3.o);have G:Hd ((l[i].bo<=xD 0 (l.take i)\/zS l[i].bo=false)->F=false):=z0 (fun h=>by rw[<-a2.o,z8M M a3.o h,Bool.and_false]);have a9:Hd (xD 0 (l.take (i+1))=l[i].bo):=z0 (by rw[z0J l i M,z0G]);have a5:Hd (∀(W:World) (g:Nat),W.heap[g]?=some (.cells (YE l[i]) 223 (0,0))->W.cell? ⟨g,0,none⟩=some (.int .i64 l[i].bo)):=z0 (fun W g h=>z7 h 0);obtain⟨X,ai⟩:=nm (YE l[i]);obtain⟨bo,aq⟩:=nm (l[i].bo:Int);obtain⟨J,a7⟩:=nm (xD 0 (l.take i):Int);rw[ai.o]at l1 a6 a5;rw[aq.o]at I G a9 a5;rw[a7.o]at I G⊢;have ar:=zad wr ag.o a6.o.1 a6.o.2;have av:=am wr;clear aa a1 hg;go_upto_region 5 with(fail)
   have ad:=Xh wr (.cells X 223);have a4:Below w0.heap.size w0 (wr.alloc (.cells X 223)):=K.alloc K.size _;have c0:=a5.o _ _ ad;clear l1 ar ad;generalize (wr.alloc (.cells X 223))=ao at *;by_cases h1:bo<=J
   ·obtain rfl:F=false:=G.o (.inl h1);go_wp2;go_ret;exact⟨rfl,a4⟩
   ·obtain⟨ah,au⟩:=nm (zS bo);have ae:=z0 (fun W=>jr bo W);rw[au.o]at ae I G;have an:=z0 h1;go_wp2_with fail;refine(ae.o ao).mono ?_;rintro e ax ⟨rfl,rfl⟩;cases ah with
    |false=>
     obtain rfl:F=false:=G.o (.inr rfl);go_wp2;go_ret;exact⟨rfl,a4⟩
    |true=>
     have aj:=z0 (I.o an.o rfl);clear I G;go_wp2;go_roundw
     case rel=>exact⟨i+1,by omega,by go_num,by rw[a9.o],z0 aj.o,a4⟩
     case measure=>simp[intOf];omega
  ·obtain rfl:i=n:=by omega
   have af:l.take i=l:=List.take_of_length_le (by rw[N.o];exact Nat.le_refl _)
   have a8:Hd (F=decide (0<xD 0 (l.take i))):=z0 (by
    have h:=a3.o;rw[af]at h⊢
    rw[<-a2.o,h,Bool.and_true,z8L h,N.o])
   obtain⟨J,a7⟩:=nm (xD 0 (l.take i):Int);rw[a7.o]at a8⊢;clear af;by_cases h1:0<J
   ·obtain rfl:F=true:=by rw[a8.o,decide_eq_true h1]
    go_wp2;go_ret;exact⟨rfl,K⟩
   ·obtain rfl:F=false:=by rw[a8.o,decide_eq_false h1]
    go_wp2;go_ret;exact⟨rfl,K⟩
end
section
attribute [local go_sem ↓] ze qd J6 zf ky
theorem z6m (v:Value) (c:YL) (w:World) (hv:CtV w v c) (hl:c.sg.length<=1000):
  Calls prog 163 #[v] w fun e w'=>e=.returned (.bool (z4q c))/\Below w.heap.size w w':=by
 obtain⟨s,rfl,ho,ht⟩:=hv;have hb0:Below w.heap.size w (w.alloc (.cells (JA c s) 57)):=Ba;have hr0:=Xh w (.cells (JA c s) 57);obtain⟨A,k,rfl⟩:=ht.shape;have HT:=z0 (fun W (h:Below w.heap.size w W)=>ht.below h);have HLL:=z0 hl;have HSO:=z0 ho.sg;obtain⟨L,HL⟩:=nm (c.sg.length:Nat);rw[HL.o]at hr0 hb0 HT⊢;obtain⟨C,HC⟩:=nm (JA c (.slice A L k));rw[HC.o]at hr0 hb0⊢;obtain⟨ans,HAN⟩:=nm (z4q c);obtain⟨n,HN⟩:=nm (c.att.bo);obtain⟨q1,HQ1⟩:=nm (decide (c.att.tg=qx));obtain⟨m,HM⟩:=nm (vA (j5 c.att ⟨1,qx⟩));obtain⟨r,HR⟩:=nm ((decide (0<c.sg.length) && qN 21 0 c.sg));have HMC:Hd (ans=((decide (n=0) && q1) && (m && r))):=z0 (by rw[<-HAN.o];unfold z4q z24;rw[HN.o,HQ1.o,HM.o,HR.o]);rw[HAN.o];have hw1:(j5 c.att ⟨1,qx⟩).Ok:=ZR ho.att rfl;have HWI:Hd (∀W,Calls prog 164 #[.agg (zy c.att),.agg (YE ⟨1,qx⟩)] W fun e w'=>e=.returned (.agg (zy (j5 c.att ⟨1,qx⟩)))/\Below W.heap.size W w'):=z0 (fun W=>z0F c.att ⟨1,qx⟩ W ho.att rfl)
 have HMA:Hd (∀W,Calls prog 137 #[.agg (zy (j5 c.att ⟨1,qx⟩))] W fun e w'=>e=.returned (.int .i64 (if m=true then 0 else 1))/\Below W.heap.size W w'):=z0 (fun W=>by
  have:=V1 _ W hw1;rw[HM.o]at this
  exact this)
 have HRI:Hd (∀W,Below w.heap.size w W->Calls prog 195 #[.slice A L k] W fun e w'=>e=.returned (.bool r)/\Below W.heap.size W w'):=z0 (fun W h=>by
  have:=z6l (.slice A L k) c.sg W (HT.o W h) HSO.o HLL.o;rw[HR.o]at this
  exact this)
 obtain⟨G,HG⟩:=nm (zy c.att);obtain⟨S,HS⟩:=nm (YE ⟨1,qx⟩);obtain⟨X,HX⟩:=nm (zy (j5 c.att ⟨1,qx⟩));rw[HG.o,HS.o,HX.o]at HWI;rw[HX.o]at HMA;obtain⟨T,HTT⟩:=nm (z2 c.att.tg);obtain⟨O,HO⟩:=nm (z2 qx)
 have HLD:Hd (∀W:World,W.heap[w.heap.size]?=some (.cells C 57 (0,0))->(W.cell? ⟨w.heap.size,0,none⟩=some (.int .i64 n)/\qE (.pointer (some ⟨w.heap.size,69,none⟩)) W=.ok (.value (.agg T)) W)/\zI (.pointer (some ⟨w.heap.size,0,none⟩)) W=.ok (.value (.agg G)) W/\W.cell? ⟨w.heap.size,101,none⟩=some (.slice A L k)):=z0 (fun W h=>by
  rw[<-HC.o]at h;have hBC:Zi W w.heap.size c (.slice A L k):=h;have k0:=hBC.bo;have k1:=zD (hBC.tag ho.att) ho.att.tg;rw[HN.o]at k0;rw[HTT.o]at k1;refine⟨⟨k0,k1⟩,?_,hBC.sigs ho.att⟩;rw[<-HG.o]
  exact jQ hBC.att ho.att)
 have heq:=fun W=>xX c.att.tg qx ho.att.tg rfl W;rw[HQ1.o,HTT.o,HO.o]at heq;have hbz:∀W,JP W=.ok (.value (.agg O)) W:=fun W=>by rw[<-HO.o,Km,Qu];rfl
 clear ho ht hw1 hl;go_enter func163,ntmps163;go_upto_region 1 with(fail)
 generalize (w.alloc (.cells C 57))=w0 at *;have hl0:=Lb hr0;have HF:=z0 (fun W (h:Below w0.heap.size w0 W)=>HLD.o W ((h.block _ hl0).trans hr0));obtain⟨⟨k0,k1⟩,la,c0⟩:=HF.o w0 (Below.refl _ _);clear hr0 hl0;by_cases h0:n=0
 ·subst h0;cases q1 with
  |false=>
   obtain rfl:ans=false:=by rw[HMC.o];rfl
   clear la c0;go_wp2;go_ret;exact⟨rfl,hb0⟩
  |true=>
   have HMC2:Hd (ans=(m && r)):=z0 (by rw[HMC.o];rfl);go_upto_region 3 with(fail)
   clear k0 k1 c0 heq hbz;go_wp2_with fail;rw[HS.o];refine(HWI.o w0).mono ?_;rintro e w2 ⟨rfl,hb2⟩;have hB2:=hb0.trans (hb2.mono hb0.size);clear la;go_wp2_with fail;refine(HMA.o w2).mono ?_;rintro e w3 ⟨rfl,hb3'⟩;have hb3:=hb2.trans (hb3'.mono hb2.size);have hB3:=hB2.trans (hb3'.mono hB2.size);clear hb2 hb3' hB2;cases m with
   |false=>
    obtain rfl:ans=false:=HMC2.o;simp only[Bool.false_eq_true,if_false];go_wp2;go_ret;exact⟨rfl,hB3⟩
   |true=>
    have c3:=(HF.o w3 hb3).2.2;simp only[if_true];go_wp2_with fail;refine(HRI.o w3 hB3).mono ?_;rintro e w4 ⟨rfl,hb4⟩;have hB4:=hB3.trans (hb4.mono hB3.size);obtain rfl:ans=r:=HMC2.o;clear c3;go_wp2;go_ret;exact⟨rfl,hB4⟩
 ·have h1:(n != 0)=true:=by simpa using h0
  obtain rfl:ans=false:=by rw[HMC.o,decide_eq_false h0];rfl
  clear h0 k1 la c0 heq hbz;go_wp2;go_ret;exact⟨rfl,hb0⟩
end
section
attribute [local go_sem ↓] ze qd Zo JL JM
theorem z2g {n:Int}:∀{l:List YH}{last:Int},qN 21 last l=true->(∀s∈l,s.bo<=n)->qN n last l=true
 | [],_,_,_=>rfl
 |x :: r,last,h,hn=>by
  unfold qN at h⊢;simp only[Bool.and_eq_true,decide_eq_true_eq]at h⊢;exact⟨⟨h.1.1,hn x (by simp)⟩,z2g h.2 (fun s F=>hn s (List.mem_cons_of_mem _ F))⟩
theorem z6n {n:Int}{c:YL} (h:jy n c=true):z4q c=true:=by
 unfold jy at h;simp only[Bool.and_eq_true,decide_eq_true_eq,List.all_eq_true]at h;obtain⟨h0,h1,h2,h3,I⟩:=h;have hq:=ZU h0;unfold z4q;simp only[Bool.and_eq_true,decide_eq_true_eq];refine⟨h3,?_,by omega,z0m h2 hq.2.1⟩;obtain⟨s,J⟩:∃s,s∈c.sg:=by
  cases K:c.sg with
  |nil=>rw[K]at h1;simp only[List.length_nil]at h1;omega
  |cons x r=>exact⟨x,by simp⟩
 have G:=I s J;have F:vA (j5 c.att s)=true:=by
  unfold yv at G;simp only[Bool.and_eq_true]at G;exact G.1
 unfold vA j5 at F⊢;simp only at F⊢;split at F
 ·cases F
 ·rename_i hn;rw[if_neg (by omega)];exact F
theorem z8N {n:Int}{c:YL} (F:z4q c=true) (hl:c.sg.length=qC n) (h:∀s∈c.sg,s.bo<=n/\yv (j5 c.att s)=true):jy n c=true:=by
 unfold z4q at F;simp only[Bool.and_eq_true,decide_eq_true_eq]at F;obtain⟨h1,_,h3,I⟩:=F;unfold jy;simp only[Bool.and_eq_true,decide_eq_true_eq,List.all_eq_true];exact⟨by omega,hl,z2g I (fun s G=>(h s G).1),h1,fun s G=>(h s G).2⟩
theorem z8O {n:Int}{c:YL}{s:YH} (G:s∈c.sg) (h:n<s.bo\/yv (j5 c.att s)=false):jy n c=false:=by
 cases F:jy n c with
 |false=>rfl
 |true=>
  exfalso
  unfold jy at F;simp only[Bool.and_eq_true,decide_eq_true_eq,List.all_eq_true]at F;obtain⟨_,_,h2,_,I⟩:=F;rcases h with h|h
  ·have:=z0l h2 s G;omega
  ·rw[I s G]at h;cases h
theorem z6o:z8B:=by
 intro n v c w hwn hv hlen hK;have HV:=z0 (fun W (h:Below w.heap.size w W)=>hv.below h);obtain⟨s,rfl,ho,ht⟩:=hv;have hb0:Below w.heap.size w (w.alloc (.cells (JA c s) 57)):=Ba;have hr0:=Xh w (.cells (JA c s) 57);obtain⟨A,k,rfl⟩:=ht.shape;have HT:=z0 (fun W (h:Below w.heap.size w W)=>ht.below h);have HLEN:=z0 hlen;obtain⟨L,HL⟩:=nm (c.sg.length:Nat);rw[HL.o]at hr0 hb0 HV HT hlen⊢;obtain⟨C,HC⟩:=nm (JA c (.slice A L k));obtain⟨q,HQ⟩:=nm (qC n);obtain⟨mc,HMC⟩:=nm (z4q c);obtain⟨ans,HAN⟩:=nm (jy n c);rw[HC.o]at hr0 hb0 HV⊢;rw[HAN.o];have HKB:=z0 (fun W (h:Below w.heap.size w W)=>(show yB 1 W from hK.below h))
 have HQU:Hd (∀W,Calls prog 71 #[.int .i64 n] W fun e w'=>e=.returned (.int .i64 (q:Int))/\W=w'):=z0 (fun W=>by
  have:=JV n W hwn;rw[HQ.o]at this
  exact this)
 have HFI:Hd (∀W,Below w.heap.size w W->Calls prog 163 #[.agg C] W fun e w'=>e=.returned (.bool mc)/\Below W.heap.size W w'):=z0 (fun W h=>by
  have:=z6m _ c W (HV.o W h) HLEN.o;rw[HMC.o]at this
  exact this)
 have HSO:=z0 ho.sg;have HAO:=z0 ho.att;have HWI:Hd (∀s W,s.Ok->Calls prog 164 #[.agg (zy c.att),.agg (YE s)] W fun e w'=>e=.returned (.agg (zy (j5 c.att s)))/\Below W.heap.size W w'):=z0 (fun s W hs=>z0F c.att s W HAO.o hs);have HRT:Hd (∀s W,s.Ok->Below w.heap.size w W->Calls prog 124 #[.agg (zy (j5 c.att s))] W fun e w'=>e=.returned (.bool (yv (j5 c.att s)))/\Below W.heap.size W w'):=z0 (fun s W hs h=>z0k _ W (ZR HAO.o hs) (HKB.o W h));obtain⟨G,HG⟩:=nm (zy c.att);rw[HG.o]at HWI
 have HLD:Hd (∀W:World,W.heap[w.heap.size]?=some (.cells C 57 (0,0))->xt (.pointer (some ⟨w.heap.size,0,none⟩)) W=.ok (.value (.agg C)) W/\zI (.pointer (some ⟨w.heap.size,0,none⟩)) W=.ok (.value (.agg G)) W/\W.cell? ⟨w.heap.size,101,none⟩=some (.slice A L k)):=z0 (fun W h=>by
  have h2:=h;rw[<-HC.o]at h2;have hBC:Zi W w.heap.size c (.slice A L k):=h2;refine⟨xS h (by rw[<-HC.o];exact QU _ HAO.o),?_,hBC.sigs HAO.o⟩;rw[<-HG.o]
  exact jQ hBC.att HAO.o)
 obtain⟨Z,HZ⟩:=nm (YE sgZ);have HZS:Hd (Z.size=33):=z0 (by rw[<-HZ.o];exact J5 z3i);have hal:∀W,K3 W=.ok (.value (.pointer (some ⟨W.heap.size,0,none⟩))) (W.alloc (.cells Z 223)):=fun W=>by rw[<-HZ.o];exact z0E W
 clear ho ht hK hwn;go_enter func117,ntmps117;go_upto_region 1 with(fail)
 generalize (w.alloc (.cells C 57))=w0 at *;have hl0:=Lb hr0;have HF:=z0 (fun W (h:Below w0.heap.size w0 W)=>HLD.o W ((h.block _ hl0).trans hr0));have HXW:Hd (∀W,Below w0.heap.size w0 W->xt (.pointer (some ⟨w.heap.size,0,none⟩)) W=.ok (.value (.agg C)) W/\W.cell? ⟨w.heap.size,101,none⟩=some (.slice A L k)):=z0 (fun W h=>⟨(HF.o W h).1,(HF.o W h).2.2⟩);have hbd:Below w0.heap.size w0 w0.drew:=(Below.refl _ _).drew;have HB0:=z0 hb0;clear hr0 hl0 hb0;refine Rh (S:=fun W=>xt (.pointer (some ⟨w.heap.size,0,none⟩)) W=.ok (.value (.agg C)) W/\W.cell? ⟨w.heap.size,101,none⟩=some (.slice A L k)) (by kernel_rfl) (HXW.o _ hbd) (fun hHeld=>?_);refine' tk (i:=0) (v:=_) rfl (fun W hW=>hW.1) ?_;try simp only[zx]
 refine qc 1 (h:=fun K hK=>?_);go_simp;refine(HFI.o w0.drew (HB0.o.trans (hbd.mono HB0.o.size))).mono ?_;rintro e w2 ⟨rfl,hb2'⟩;have hb2:=hbd.trans hb2';refine hK.out _ _ (HXW.o _ hb2) (fun hHeld=>?_);clear hK K;try simp only[zx]
 cases mc with
 |false=>
  obtain rfl:ans=false:=by
   rw[<-HAN.o];cases hr:jy n c with
   |false=>rfl
   |true=>have:=z6n hr;rw[HMC.o]at this;cases this
  refine' z5 2 (h:=z5 3 (h:=tn 4 (h:=tn 5 (h:=tn 6 (h:=tn 7 (h:=tn 8 (h:=tn 9 (h:=z5 10 (h:=?_)))))))));refine wpAnyH_done (by kernel_rfl) ?_ _;go_wp2;go_ret;exact⟨rfl,HB0.o.trans (hb2.mono HB0.o.size)⟩
 |true=>
  refine' z5 2 (h:=z5 3 (h:=z5 4 (h:=vX 5 (h:=z5 6 (h:=z5 7 (h:=?_))))));refine qc 8 (h:=fun K hK=>?_);go_simp;refine(HQU.o w2).mono ?_;rintro e w3 ⟨rfl,rfl⟩;refine hK.out _ _ (HXW.o _ hb2) (fun hHeld=>?_);clear hK K;try simp only[zx]
  by_cases hl:L=q
  ·have hl1:((L:Int) != (q:Int))=false:=by simp[hl]
   refine' z5 9 (h:=z5 10 (h:=?_));refine wpAnyH_done (by kernel_rfl) ?_ _;have HB2:=z0 (HB0.o.trans (hb2.mono HB0.o.size));have c2:=(HXW.o w2 hb2).2;have HHB2:=z0 hb2;clear hHeld hbd hb2' hb2;have HLQ:=z0 hl;clear hl;go_wp2_with fail;clear c2;go_loopw [21] (fun si wr=>∃i:Nat,i<=L/\si=.int .i64 i/\Hd (∀j (h:j<c.sg.length),j<i->c.sg[j].bo<=n/\yv (j5 c.att c.sg[j])=true)/\Below w0.heap.size w0 wr) (fun si _=>L - (intOf si).toNat)
   case atStart=>exact⟨0,Nat.zero_le _,rfl,z0 (fun j _ h=>absurd h (by omega)),HHB2.o⟩
   case round=>
    obtain⟨i,hi,rfl,HD,hbr⟩:=hrel;have HBR:=z0 (HB0.o.trans (hbr.mono HB0.o.size));by_cases hlt:i<L
    ·have hil:i<c.sg.length:=by rw[HL.o];exact hlt
     obtain⟨g,o,rfl,_,hcl⟩:=(HT.o wr HBR.o).at_.2.2.2 (by omega);have hI:(i:Int)<(L:Int):=by omega
     have hoi:=HSO.o _ (List.getElem_mem hil);have l1:Yp (.pointer (some ⟨g,o+i*33,none⟩)) wr=.ok (.value (.agg (YE c.sg[i]))) wr:=Yq (hcl i hil) hoi;have HXS:Hd ((YE c.sg[i]).size=33/\(YE c.sg[i]).all (·.oneCell')=true):=z0 ⟨J5 hoi,z7d _⟩
     have HC0:Hd (∀(W:World) (g:Nat),W.heap[g]?=some (.cells (YE c.sg[i]) 223 (0,0))->W.cell? ⟨g,0,none⟩=some (.int .i64 c.sg[i].bo)/\Yp (.pointer (some ⟨g,0,none⟩)) W=.ok (.value (.agg (YE c.sg[i]))) W):=z0 (fun W g h=>by
      refine⟨z7 h 0,Yq (fun j u hu=>?_) hoi⟩;rw[Nat.zero_add,z7 h j];unfold YE;rw[List.getElem?_toArray]
      exact hu)
     have HW2:=z0 (fun W=>HWI.o c.sg[i] W hoi);have HR2:=z0 (fun W (h:Below w.heap.size w W)=>HRT.o c.sg[i] W hoi h);have HNO:Hd ((n<c.sg[i].bo\/yv (j5 c.att c.sg[i])=false)->ans=false):=z0 (fun h=>by rw[<-HAN.o];exact z8O (List.getElem_mem hil) h)
     have HYES:Hd (c.sg[i].bo<=n->yv (j5 c.att c.sg[i])=true->∀j (h:j<c.sg.length),j<i+1->c.sg[j].bo<=n/\yv (j5 c.att c.sg[j])=true):=z0 (fun h1 h2 j h hj=>by
      by_cases hji:j<i
      ·exact HD.o j h hji
      ·obtain rfl:j=i:=by omega
       exact⟨h1,h2⟩)
     obtain⟨X,HX⟩:=nm (YE c.sg[i]);obtain⟨bo,HBO⟩:=nm (c.sg[i].bo:Int);obtain⟨m,HM⟩:=nm (yv (j5 c.att c.sg[i]));obtain⟨Y,HY⟩:=nm (zy (j5 c.att c.sg[i]));rw[HX.o]at l1 HXS HC0;rw[HX.o,HY.o]at HW2;rw[HY.o,HM.o]at HR2;rw[HBO.o,HM.o]at HNO HYES;rw[HBO.o]at HC0;have hst:=zad wr HZS.o HXS.o.1 HXS.o.2;have hal1:=hal wr;clear hcl hoi;go_upto_region 6 with(fail)
     have hr1:=Xh wr (.cells X 223);have hb1:Below w0.heap.size w0 (wr.alloc (.cells X 223)):=hbr.alloc hbr.size _;obtain⟨c0,l2⟩:=HC0.o _ _ hr1;clear l1 hst hr1 hal1;generalize (wr.alloc (.cells X 223))=w1 at *;obtain⟨_,l3,_⟩:=HF.o w1 hb1;have HB1:=z0 (HB0.o.trans (hb1.mono HB0.o.size));by_cases h1:n<bo
     ·obtain rfl:ans=false:=HNO.o (.inl h1);clear l2 l3;go_wp2;go_ret;exact⟨rfl,HB1.o⟩
     ·have HH1:=z0 (show bo<=n by omega);go_wp2_with fail;refine(HW2.o w1).mono ?_;rintro e w4 ⟨rfl,hb4⟩;have HB4:=z0 (HB1.o.trans (hb4.mono HB1.o.size));have HB40:=z0 (hb1.trans (hb4.mono hb1.size));clear l2 l3 c0 hb4;go_wp2_with fail;refine(HR2.o w4 HB4.o).mono ?_;rintro e w5 ⟨rfl,hb5⟩;have HB5:=z0 (HB4.o.trans (hb5.mono HB4.o.size));have HB50:=z0 (HB40.o.trans (hb5.mono HB40.o.size));clear hb5;cases m with
      |false=>
       obtain rfl:ans=false:=HNO.o (.inr rfl);go_wp2;go_ret;exact⟨rfl,HB5.o⟩
      |true=>
       have HM2:=z0 (HYES.o HH1.o rfl);clear HYES HNO;go_wp2;go_roundw
       case rel=>exact⟨i+1,by omega,by go_num,z0 HM2.o,HB50.o⟩
       case measure=>simp[intOf];omega
    ·obtain rfl:i=L:=by omega
     obtain rfl:ans=true:=by
      rw[<-HAN.o];refine z8N HMC.o (by rw[HL.o,HQ.o];exact HLQ.o) (fun s hs=>?_);obtain⟨j,hj,rfl⟩:=List.getElem_of_mem hs;exact HD.o j hj (by have:=HL.o;omega)
     go_wp2;go_ret;exact⟨rfl,HBR.o⟩
  ·have hl1:((L:Int) != (q:Int))=true:=by simp;omega
   refine' z5 9 (h:=z5 10 (h:=?_));refine wpAnyH_done (by kernel_rfl) ?_ _;have HB2:=z0 (HB0.o.trans (hb2.mono HB0.o.size));have c2:=(HXW.o w2 hb2).2;have HHB2:=z0 hb2;clear hHeld hbd hb2' hb2;obtain rfl:ans=false:=by
    rw[<-HAN.o];unfold jy;rw[HL.o,HQ.o,decide_eq_false hl,Bool.false_and,Bool.and_false]
   clear hl;go_wp2;go_ret;exact⟨rfl,HB2.o⟩
end
section
attribute [local go_sem ↓] ze qd Zo
theorem z1s (n:Int) (v:Value) (c:YL) (w:World) (hv:CtV w v c) (hK:yB 0 w):
  Calls prog 123 #[.int .i64 n,v] w fun e w'=>e=.returned (.bool (jy n c))/\Below w.heap.size w w':=by
 have HV:=z0 (fun W (h:Below w.heap.size w W)=>hv.below h);obtain⟨s,rfl,ho,ht⟩:=hv;have hb0:Below w.heap.size w (w.alloc (.cells (JA c s) 57)):=Ba;have hr0:=Xh w (.cells (JA c s) 57);obtain⟨A,k,rfl⟩:=ht.shape;have HT:=z0 (fun W (h:Below w.heap.size w W)=>ht.below h);have hlen:=ht.len;unfold maxLen at hlen;obtain⟨L,HL⟩:=nm (c.sg.length:Nat);rw[HL.o]at hr0 hb0 HV HT hlen⊢;obtain⟨C,HC⟩:=nm (JA c (.slice A L k));obtain⟨q,HQ⟩:=nm (qC n);obtain⟨r,HR⟩:=nm (qN n 0 c.sg);obtain⟨b,HB⟩:=nm (z24 c);obtain⟨ans,HAN⟩:=nm (jy n c);have HRC:Hd (ans=(decide (q≠0) && (decide (L=q) && (r && (b && c.sg.all fun s=>yv (j5 c.att s)))))):=z0 (by rw[<-HAN.o];unfold jy;rw[HQ.o,HL.o,HR.o,HB.o]);rw[HC.o]at hr0 hb0 HV⊢;rw[HAN.o];have HKB:=z0 (fun W (h:Below w.heap.size w W)=>(show yB 0 W from hK.below h))
 have HQU:Hd (∀W,Calls prog 5 #[.int .i64 n] W fun e w'=>e=.returned (.int .i64 (q:Int))/\W=w'):=z0 (fun W=>by
  have:=xY n W;rw[HQ.o]at this
  exact this)
 have HBA:Hd (∀W,Below w.heap.size w W->Calls prog 171 #[.agg C] W fun e w'=>e=.returned (.bool b)/\Below W.heap.size W w'):=z0 (fun W h=>by
  have:=z3k _ c W (HV.o W h);rw[HB.o]at this
  exact this)
 have HRI:Hd (∀W,Below w.heap.size w W->Calls prog 170 #[.slice A L k,.int .i64 n] W fun e w'=>e=.returned (.bool r)/\Below W.heap.size W w'):=z0 (fun W h=>by
  have:=z1p (.slice A L k) c.sg n W (HT.o W h);rw[HR.o]at this
  exact this)
 have HSO:=z0 ho.sg;have HAO:=z0 ho.att;have HWI:Hd (∀s W,s.Ok->Calls prog 172 #[.agg (zy c.att),.agg (YE s)] W fun e w'=>e=.returned (.agg (zy (j5 c.att s)))/\Below W.heap.size W w'):=z0 (fun s W hs=>z3j c.att s W HAO.o hs);have HRT:Hd (∀s W,s.Ok->Below w.heap.size w W->Calls prog 24 #[.agg (zy (j5 c.att s))] W fun e w'=>e=.returned (.bool (yv (j5 c.att s)))/\Below W.heap.size W w'):=z0 (fun s W hs h=>Qx _ W (ZR HAO.o hs) (HKB.o W h));obtain⟨G,HG⟩:=nm (zy c.att);rw[HG.o]at HWI
 have HLD:Hd (∀W:World,W.heap[w.heap.size]?=some (.cells C 57 (0,0))->xt (.pointer (some ⟨w.heap.size,0,none⟩)) W=.ok (.value (.agg C)) W/\zI (.pointer (some ⟨w.heap.size,0,none⟩)) W=.ok (.value (.agg G)) W/\W.cell? ⟨w.heap.size,101,none⟩=some (.slice A L k)):=z0 (fun W h=>by
  have h2:=h;rw[<-HC.o]at h2;have hBC:Zi W w.heap.size c (.slice A L k):=h2;refine⟨xS h (by rw[<-HC.o];exact QU _ HAO.o),?_,hBC.sigs HAO.o⟩;rw[<-HG.o]
  exact jQ hBC.att HAO.o)
 have hq21:q<=21:=by
  rw[<-HQ.o];by_cases h:qC n=0
  ·omega
  ·have:=ZU h;unfold qC;split <;> omega
 clear ho ht hK;go_enter func123,ntmps123;go_upto_region 1 with(fail)
 generalize (w.alloc (.cells C 57))=w0 at *;have hl0:=Lb hr0;have HF:=z0 (fun W (h:Below w0.heap.size w0 W)=>HLD.o W ((h.block _ hl0).trans hr0));obtain⟨l0,_,c0⟩:=HF.o w0 (Below.refl _ _);clear hr0 hl0;go_wp2_with fail;refine(HQU.o w0).mono ?_;rintro e w1 ⟨rfl,rfl⟩;by_cases hq:q=0
 ·subst hq;obtain rfl:ans=false:=HRC.o;go_wp2;go_ret;exact⟨rfl,hb0⟩
 ·have hq1:((q:Int) == 0)=false:=by simpa using hq
  by_cases hl:L=q
  ·have hl1:((L:Int) != (q:Int))=false:=by simp[hl]
   have HLQ:=z0 hl;have HQ0:=z0 hq;clear hl hq;go_wp2_with fail;refine(HRI.o w0 hb0).mono ?_;rintro e w2 ⟨rfl,hb2⟩;have hB2:=hb0.trans (hb2.mono hb0.size);clear l0 c0;cases r with
   |false=>
    obtain rfl:ans=false:=by rw[HRC.o];simp
    go_wp2;go_ret;exact⟨rfl,hB2⟩
   |true=>
    obtain⟨l2,_,c2⟩:=HF.o w2 hb2;go_wp2_with fail;refine(HBA.o w2 hB2).mono ?_;rintro e w3 ⟨rfl,hb3'⟩;have hb3:=hb2.trans (hb3'.mono hb2.size);have hB3:=hB2.trans (hb3'.mono hB2.size);clear l2 c2 hb3' hb2 hB2;cases b with
    |false=>
     obtain rfl:ans=false:=by rw[HRC.o];simp
     go_wp2;go_ret;exact⟨rfl,hB3⟩
    |true=>
     have HRC2:Hd (ans=c.sg.all fun s=>yv (j5 c.att s)):=z0 (by rw[HRC.o,decide_eq_true HQ0.o,decide_eq_true HLQ.o];rfl);have HTX:=z0 (fun W (h:Below w3.heap.size w3 W)=>HT.o W (hB3.trans (h.mono hB3.size)));have HF3:=z0 (fun W (h:Below w3.heap.size w3 W)=>HF.o W (hb3.trans (h.mono hb3.size)));have HBW:=z0 (fun W (h:Below w3.heap.size w3 W)=>hB3.trans (h.mono hB3.size));clear hl1 hq1 hb3 hB3;go_wp2_with fail;go_loopw [6] (fun si wr=>∃i:Nat,i<=L/\si=.int .i64 i/\Hd (∀j (h:j<c.sg.length),j<i->yv (j5 c.att c.sg[j])=true)/\Below w3.heap.size w3 wr) (fun si _=>L - (intOf si).toNat)
     case atStart=>exact⟨0,Nat.zero_le _,rfl,z0 (fun j _ h=>absurd h (by omega)),Below.refl _ _⟩
     case round=>
      obtain⟨i,hi,rfl,HD,hbr⟩:=hrel;by_cases hlt:i<L
      ·have hil:i<c.sg.length:=by rw[HL.o];exact hlt
       obtain⟨g,o,rfl,hg,_⟩:=(HTX.o wr hbr).at_.2.2.2 (by omega)
       have HSX:Hd (∀W,Below w3.heap.size w3 W->Yp (.pointer (some ⟨g,o+i*33,none⟩)) W=.ok (.value (.agg (YE c.sg[i]))) W):=z0 (fun W h=>by
        obtain⟨g',o',e,_,hcl⟩:=(HTX.o W h).at_.2.2.2 (by omega);injection e with e;injection e with e1 e2 _;subst e1 e2
        exact Yq (hcl i hil) (HSO.o _ (List.getElem_mem hil)))
       have hI:(i:Int)<(L:Int):=by omega
       have c1:=(HF3.o wr hbr).2.2;obtain⟨X,HX⟩:=nm (YE c.sg[i]);have HW2:=z0 (fun W=>HWI.o c.sg[i] W (HSO.o _ (List.getElem_mem hil)));have HR2:=z0 (fun W (h:Below w.heap.size w W)=>HRT.o c.sg[i] W (HSO.o _ (List.getElem_mem hil)) h);obtain⟨m,HM⟩:=nm (yv (j5 c.att c.sg[i]));obtain⟨Y,HY⟩:=nm (zy (j5 c.att c.sg[i]));rw[HX.o]at HSX;rw[HX.o,HY.o]at HW2;rw[HY.o,HM.o]at HR2;have HSS:Hd (∀W,Below w3.heap.size w3 W->(zI (.pointer (some ⟨w.heap.size,0,none⟩)) W=.ok (.value (.agg G)) W/\W.cell? ⟨w.heap.size,101,none⟩=some (.slice (some ⟨g,o,none⟩) L k)/\Yp (.pointer (some ⟨g,o+i*33,none⟩)) W=.ok (.value (.agg X)) W)):=z0 (fun W h=>⟨(HF3.o W h).2.1,(HF3.o W h).2.2,HSX.o W h⟩);have hbd:Below w3.heap.size w3 wr.drew:=hbr.drew;go_upto_region 7 with(fail)
       go_region_held3 (fun W=>zI (.pointer (some ⟨w.heap.size,0,none⟩)) W=.ok (.value (.agg G)) W/\W.cell? ⟨w.heap.size,101,none⟩=some (.slice (some ⟨g,o,none⟩) L k)/\Yp (.pointer (some ⟨g,o+i*33,none⟩)) W=.ok (.value (.agg X)) W)
        (first
         |(refine HSS.o _ hbd)
         |(refine HSS.o _ hb5)
         |(refine HSS.o _ hb4)
         |fail)
        (first
         |(go_at_call 24;(with_reducible refine(HR2.o _ (HBW.o _ hb4)).mono ?_);rintro e w5 ⟨rfl,hb5'⟩;have hb5:=hb4.trans (hb5'.mono hb4.size))
         |(go_at_call 172;(with_reducible refine(HW2.o _).mono ?_);rintro e w4 ⟨rfl,hb4'⟩;have hb4:=hbd.trans (hb4'.mono hbd.size))
         |fail)
       clear c1 hbd hb4 hb4' hb5';cases m with
       |false=>
        obtain rfl:ans=false:=by
         rw[HRC2.o,List.all_eq_false];exact⟨_,List.getElem_mem hil,by simp[HM.o]⟩
        go_wp2;go_ret;exact⟨rfl,HBW.o _ hb5⟩
       |true=>
        go_wp2;go_roundw
        case rel=>
         refine⟨i+1,by omega,by go_num,z0 (fun j h hj=>?_),hb5⟩;by_cases hji:j<i
         ·exact HD.o j h hji
         ·obtain rfl:j=i:=by omega
          exact HM.o
        case measure=>simp[intOf];omega
      ·obtain rfl:i=L:=by omega
       obtain rfl:ans=true:=by
        rw[HRC2.o,List.all_eq_true];intro s hs;obtain⟨j,hj,rfl⟩:=List.getElem_of_mem hs;exact HD.o j hj (by have:=HL.o;omega)
       have c1:=(HF3.o wr hbr).2.2;go_wp2;go_ret;exact⟨rfl,HBW.o _ hbr⟩
  ·have hl1:((L:Int) != (q:Int))=true:=by simp;omega
   obtain rfl:ans=false:=by rw[HRC.o,decide_eq_false hl,Bool.false_and,Bool.and_false]
   clear hl;go_wp2;go_ret;exact⟨rfl,hb0⟩
end
end Go.Proofs.YtjlinimnnbfmaaaGreatDoor
