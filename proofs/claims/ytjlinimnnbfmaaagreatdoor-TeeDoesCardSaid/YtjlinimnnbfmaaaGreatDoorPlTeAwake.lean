/-
  The laws' small example: a new view, and the same one again. Printed with gente.py.
-/
import Derived.Test.YtjlinimnnbfmaaaGreatDoorPlBs19
import Derived.Test.YtjlinimnnbfmaaaGreatDoorPlTeCodeP
set_option maxRecDepth 20000
set_option maxHeartbeats 6400000
namespace Go.Proofs.YtjlinimnnbfmaaaGreatDoor
open Go.RowKit Go.Proofs.Tryz
section
attribute [local go_sem ↓] zm zq zr zL ze zn zo zM vl vm z10
theorem z3y (q:Nat):∀k,(j8 [] q k).1=[]
 |0=>rfl
 |k+1=>by
  unfold j8;split
  ·exact z3y q k
  ·exact z3y q k
theorem z3z {i n:Int} (h:qC n=0\/i<1\/n<i):(vu i n 1 []).2=1:=by
 rw[vk (by rcases h with h|h|h;exact .inl h;exact .inr (.inl h);exact .inr (.inr (.inl h)))]
theorem z1w {i n:Int} (h:¬(qC n=0\/i<1\/n<i)):(vu i n 1 []).2=3:=by
 rw[KB (by rintro (h1|h1|h1|h1|h1);exact h (.inl h1);exact h (.inr (.inl h1));exact h (.inr (.inr h1));omega;omega) rfl (by rw[z3y];show 0<qC n;have:qC n≠0:=fun e=>h (.inl e);omega)]
section
variable {w:World}{g b c a:Nat}{t:Zl}
theorem z2r {i n:Int} (h:¬(qC n=0\/i<1\/n<i)) (hn:(Lit.int .i64 n).wf=true) (I:yB 1 w):Calls prog 27 #[.int .i64 i,.int .i64 n] w fun e w'=>e=.returned (.bool true)/\Below w.heap.size w w':=by
 have O:Hd (Calls prog 38 #[.int .i64 i,.int .i64 n,.int .i64 1,.slice none 0 0] w fun e w'=>∃C,e=.returned (.tuple #[.agg C,.int .i64 3])/\C.size=68/\C.all (·.oneCell')=true/\Below w.heap.size w w'):=z0 ((Vi i n 1 (.slice none 0 0) [] w hn (jE.nil w) (fun a ha=>by simp at ha) (by simp) I).mono fun e w' ⟨x,he,⟨s,hx,ho,a2⟩,a1⟩=>by
  rw[z1w h,hx]at he
  exact⟨_,he,zT s ho,jt a2,a1⟩)
 clear h hn I;go_enter func27,ntmps27;go_wp2_with fail;refine O.o.mono ?_;rintro e M ⟨C,rfl,G,J,F⟩;have a0:=jT M;have a3:=Vc M (zT (.slice none 0 0) Zh) G J;obtain⟨Z,K⟩:=nm (ye Zy (.slice none 0 0));rw[K.o]at a0 a3;have N:=z0 (F.alloc F.size (.cells C 52));clear G J F K;go_wp2;go_ret;exact⟨rfl,N.o⟩
theorem zas {i n:Int} (h:qC n=0\/i<1\/n<i) (hn:(Lit.int .i64 n).wf=true) (I:yB 1 w):Calls prog 27 #[.int .i64 i,.int .i64 n] w fun e w'=>e=.returned (.bool false)/\Below w.heap.size w w':=by
 have O:Hd (Calls prog 38 #[.int .i64 i,.int .i64 n,.int .i64 1,.slice none 0 0] w fun e w'=>∃C,e=.returned (.tuple #[.agg C,.int .i64 1])/\C.size=68/\C.all (·.oneCell')=true/\Below w.heap.size w w'):=z0 ((Vi i n 1 (.slice none 0 0) [] w hn (jE.nil w) (fun a ha=>by simp at ha) (by simp) I).mono fun e w' ⟨x,he,⟨s,hx,ho,a2⟩,a1⟩=>by
  rw[z3z h,hx]at he
  exact⟨_,he,zT s ho,jt a2,a1⟩)
 clear h hn I;go_enter func27,ntmps27;go_wp2_with fail;refine O.o.mono ?_;rintro e M ⟨C,rfl,G,J,F⟩;have a0:=jT M;have a3:=Vc M (zT (.slice none 0 0) Zh) G J;obtain⟨Z,K⟩:=nm (ye Zy (.slice none 0 0));rw[K.o]at a0 a3;have N:=z0 (F.alloc F.size (.cells C 52));clear G J F K;go_wp2;go_ret;exact⟨rfl,N.o⟩
theorem vw.turn {w0 F:World}{g b a:Nat} (h:vw g b a w0 F) (hg:w0.heap.size<=g):zJ b a w0 F:=⟨h.os,h.tape,h.output,h.size,fun k h1 h2 h3=>h.block k h1 (by omega) h2 h3⟩
theorem zd2 {i n:Int} (h:qC n=0\/i<1\/n<i) (hn:(Lit.int .i64 n).wf=true) (p:Option Addr) (G:yB 1 w):Calls prog 8 #[.int .i64 i,.int .i64 n,.pointer p] w fun e w'=>e=.returned (.tuple #[.pointer none,.int .i64 1])/\Below w.heap.size w w':=by
 have J:=z0 (zas h hn G);clear h hn G;go_enter func8,ntmps8;go_wp2_with fail;refine J.o.mono ?_;rintro e K ⟨rfl,F⟩;have I:=z0 F;clear F;go_wp2;go_ret2;exact⟨rfl,I.o⟩
theorem zd3 {i n:Int} (h:¬(qC n=0\/i<1\/n<i)) (hn:(Lit.int .i64 n).wf=true) (N:yB 1 w):Calls prog 8 #[.int .i64 i,.int .i64 n,.pointer none] w fun e w'=>e=.returned (.tuple #[.pointer none,.int .i64 1])/\Below w.heap.size w w':=by
 have a2:=z0 (z2r h hn N);have M:Hd (∀W,Calls prog 28 #[.pointer none] W fun e w'=>e=.returned (.tuple #[.agg (zp yj),.int .i64 5])/\Below W.heap.size W w'):=z0 (fun W=>zac (.inl rfl));obtain⟨Z,F⟩:=nm (zp yj);have G:Hd (Z.size=35/\Z.all (·.oneCell')=true):=z0 (by rw[<-F.o];exact⟨zd qp,y7 _⟩);have a0:Hd (∀W,qj W=.ok (.value (.pointer (some ⟨W.heap.size,0,none⟩))) (W.alloc (.cells Z 40))):=z0 (fun W=>by rw[<-F.o];exact zX W);rw[F.o]at M;clear h hn N F;go_enter func8,ntmps8;go_wp2_with fail;refine a2.o.mono ?_;rintro e a3 ⟨rfl,K⟩;have I:=z0 K;clear K;go_wp2_with fail;refine(M.o a3).mono ?_;rintro e O ⟨rfl,J⟩;have a4:=a0.o O;have a5:=kF O G.o.1 G.o.1 G.o.2;have a1:=z0 ((I.o.trans (J.mono I.o.size)).alloc (Nat.le_trans I.o.size J.size) (.cells Z 40));clear J;go_wp2;go_ret2;exact⟨rfl,a1.o⟩
def zat (b c a:Nat) (t:Zl) (w:World) (e:Ending) (w':World):Prop:=∃g,e=.returned (.tuple #[.pointer (some ⟨g,0,none⟩),.int .i64 t.e])/\ya w' g b c a t/\w.heap.size<=g/\zJ b a w w'
theorem zau (V:yV):vH V=0\/vH V=6\/vH V=8:=by
 unfold vH;split
 ·exact .inr (.inl rfl)
 ·split
  ·exact .inl rfl
  ·split
   ·exact .inl rfl
   ·split
    ·exact .inl rfl
    ·exact .inr (.inr rfl)
theorem z11 {V:yV} (h:jL w b c a V) (G:V.Good) {i n:Int} (hi:¬(qC n=0\/i<1\/n<i)) (hgd:(jz i n V).Good) (hn:(Lit.int .i64 n).wf=true) (hK:yB 1 w):Calls prog 8 #[.int .i64 i,.int .i64 n,.pointer (some ⟨b,0,none⟩)] w (zat b c a (jz i n V) w):=by
 have HM:=z0 (z2r hi hn hK);have HL:=z0 (fun W (hb:Below w.heap.size w W)=>z2f (h.below hb) G (hK.below hb));have HKS:=z0 (fun W (hb:Below w.heap.size w W)=>hK.below hb);have HV:=z0 (fun W (hb:Below w.heap.size w W)=>h.below hb);have HSO:=z0 (kZ V);have HEO:=z0 (zau V);have HGV:=z0 G;have HGD:=z0 hgd;obtain⟨s,HSS⟩:=nm (jH V);obtain⟨E,HEE⟩:=nm (vH V);rw[HSS.o]at HL HSO;rw[HEE.o]at HL HEO;obtain⟨Z,HZ⟩:=nm (zp yj);have HZS:Hd (Z.size=35):=z0 (by rw[<-HZ.o];exact zd qp);have HLS:Hd (∀W,qj W=.ok (.value (.pointer (some ⟨W.heap.size,0,none⟩))) (W.alloc (.cells Z 40))):=z0 (fun W=>by rw[<-HZ.o];exact zX W);have HBU:=z0 (fun W=>z5c i n (some ⟨b,0,none⟩) s HSO.o W);have HSZ:=z0 (And.intro (zd HSO.o) (y7 s));obtain⟨S,HS⟩:=nm (zp s);obtain⟨D,HD⟩:=nm (tec i n (some ⟨b,0,none⟩) s 0 0);rw[HS.o]at HL HBU HSZ;rw[HD.o]at HBU;clear h hi hn hK HZ G hgd;go_enter func8,ntmps8;go_wp2_with fail;refine HM.o.mono ?_;rintro e w1 ⟨rfl,hb1⟩;have HB1:=z0 hb1;clear hb1 HM;go_upto_region 3 with(fail)
 go_wp2_with fail;refine(HL.o w1 HB1.o).mono ?_;rintro e w2 ⟨rfl,hb2⟩;have hal:=HLS.o w2;have hst:=kF w2 HZS.o HSZ.o.1 HSZ.o.2;have HB2:=z0 (HB1.o.trans (hb2.mono HB1.o.size));have HB3:=z0 (HB2.o.alloc HB2.o.size (.cells S 40));have HR3:=z0 (Xh w2 (.cells S 40));clear hb2;go_upto_region 4 with(fail)
 clear hal hst;generalize (w2.alloc (.cells S 40))=w3 at *;generalize w2.heap.size=p at *;have q5:(E == 5)=false:=by have:=HEO.o;rw[beq_eq_false_iff_ne];omega
 have ls:=zj HR3.o HSZ.o.1;have hbu:=HBU.o w3;have hgr:(w3.alloc (.cells D 106)).heap[w3.heap.size]?=some (.cells (tec i n (some ⟨b,0,none⟩) s 0 0) 106 (0,0)):=by rw[HD.o];exact Xh w3 _
 have HB4:=z0 (HB3.o.alloc HB3.o.size (.cells D 106));have HR4:=z0 ((Below.heap_alloc w3 (.cells D 106) p (Lb HR3.o)).trans HR3.o);have HGP:=z0 (show w.heap.size<=w3.heap.size from HB3.o.size);have HE4:Hd (Zr (w3.alloc (.cells D 106)) w3.heap.size b c a ⟨i,n,V,s,0⟩ 0):=z0 ⟨hgr,HV.o _ HB4.o,fun _=>rfl⟩;clear hgr;go_upto_region 7 with(fail)
 clear q5 ls hbu;generalize (w3.alloc (.cells D 106))=w4 at *;generalize w3.heap.size=g at *;have HKW:=z0 (HKS.o w4 HB4.o)
 have HG0:Hd (Zl.Good ⟨i,n,V,s,0⟩):=z0 (by
  have:=HGD.o;unfold jz at this;split at this
  ·exact⟨HGV.o,HSO.o,this.i1,this.i2,this.n1,this.n2⟩
  ·exact⟨HGV.o,HSO.o,this.i1,this.i2,this.n1,this.n2⟩)
 by_cases hE:E=0
 ·subst hE;have HQ:Hd (jz i n V=Y4 ⟨i,n,V,s,0⟩ s):=z0 (by unfold jz Y4;rw[if_pos HEE.o,HSS.o]);have HKP:=z0 (z2q ⟨0,HE4.o⟩ HG0.o rfl s HSO.o HKW.o);rw[HS.o]at HKP;rw[HQ.o]at HGD;obtain⟨t,HT⟩:=nm (Y4 ⟨i,n,V,s,0⟩ s:Zl);rw[HT.o]at HKP HGD;have ls:=zj HR4.o HSZ.o.1;go_upto_region 9 with(fail)
  go_wp2_with fail;refine HKP.o.mono ?_;rintro e w5 ⟨rfl,h5,t5⟩;have HE5:=z0 h5;have HT5:=z0 (((vw.of HB4.o).trans t5).turn HGP.o);clear h5 t5 ls;go_upto_region 10 with(fail)
  obtain⟨E5,HE5E⟩:=nm (t.e);have hc5:w5.drew.cell? ⟨g,41,none⟩=some (.int .i64 E5):=by
   rw[<-HE5E.o];obtain⟨_,h5⟩:=HE5.o;exact(h5.tail HGD.o.s).2.2.2
  refine Rh (S:=fun W=>W.cell? ⟨g,41,none⟩=some (.int .i64 E5)) (by kernel_rfl) hc5 (fun hHeld=>?_);refine' z5 0 (h:=z5 1 (h:=z5 2 (h:=z5 3 (h:=z5 4 (h:=z5 5 (h:=z5 6 (h:=?_)))))));refine wpAnyH_done (by kernel_rfl) ?_ _;clear hHeld hc5;go_wp2;go_ret2;exact⟨g,by rw[HQ.o,HT.o,HE5E.o];rfl,by rw[HQ.o,HT.o];exact HE5.o.below ((Below.refl _ _).drew),HGP.o,HT5.o.then ((Below.refl _ _).drew)⟩
 ·have HQ:Hd (jz i n V=⟨i,n,V,s,E⟩):=z0 (by unfold jz;rw[HEE.o,if_neg hE,HSS.o]);have HHA:=z0 (z2n HE4.o HSO.o rfl E hE);rw[HQ.o]at HGD;obtain⟨t,HT⟩:=nm ((⟨i,n,V,s,E⟩:Zl));rw[HT.o]at HHA HGD;go_upto_region 8 with(fail)
  go_wp2_with fail;refine HHA.o.mono ?_;rintro e w5 ⟨rfl,h5,t5⟩;have HE5:=z0 h5;have HT5:=z0 (((vw.of HB4.o).trans t5).turn HGP.o);clear h5 t5;go_upto_region 10 with(fail)
  obtain⟨E5,HE5E⟩:=nm (t.e);have hc5:w5.drew.cell? ⟨g,41,none⟩=some (.int .i64 E5):=by
   rw[<-HE5E.o];obtain⟨_,h5⟩:=HE5.o;exact(h5.tail HGD.o.s).2.2.2
  refine Rh (S:=fun W=>W.cell? ⟨g,41,none⟩=some (.int .i64 E5)) (by kernel_rfl) hc5 (fun hHeld=>?_);refine' z5 0 (h:=z5 1 (h:=z5 2 (h:=z5 3 (h:=z5 4 (h:=z5 5 (h:=z5 6 (h:=?_)))))));refine wpAnyH_done (by kernel_rfl) ?_ _;clear hHeld hc5;go_wp2;go_ret2;exact⟨g,by rw[HQ.o,HT.o,HE5E.o];rfl,by rw[HQ.o,HT.o];exact HE5.o.below ((Below.refl _ _).drew),HGP.o,HT5.o.then ((Below.refl _ _).drew)⟩
end
end
section
attribute [local go_sem ↓] zm zq zr zL ze zn zo zM
theorem z5f {a:y8} (h:vA a=true):yv (jZ a)=true:=by
 unfold yv;rw[show vA (jZ a)=vA a from rfl,h,show QN (jZ a)=QN a from rfl];exact decide_eq_true rfl
def kP:ym:=⟨1,1,0,qx⟩
theorem zax:vy yj 1=⟨kP,⟨0,1,1,1,qx,0,qx,qx⟩,0⟩:=by
 unfold vy;rw[if_pos ⟨by decide,by decide,by decide⟩];exact VO (by decide)
theorem zay:vy kP 1=qV 11:=by
 unfold vy;rw[if_pos ⟨by decide,by decide,by decide⟩];exact Js (by decide)
def z3A:yV:=⟨2,[],vF 2 1 yj,1,-1,false,[]⟩
theorem z2s:yM (YG 2 0) yj=0/\yq (YG 2 0) yj=z3A:=by
 refine⟨by decide,?_⟩;unfold yq;rw[if_neg (by decide),if_neg (by decide),if_neg (by decide)];rfl
theorem Vl:jz 2 3 (YG 2 0)=⟨2,3,z3A,yj,0⟩:=by
 unfold jz;rw[if_pos (by decide),show jH (YG 2 0)=yj from rfl,z2s.1,z2s.2]
theorem z6M:yM z3A kP=0:=by decide
def z14:y8:=⟨2,1,1,1,qx,0,qx,qx⟩
theorem z5g:QB ⟨2,3,z3A,yj,0⟩ 1=⟨⟨2,3,yq z3A kP,kP,0⟩,jZ z14,0⟩:=by
 unfold QB qX;rw[if_pos rfl,zax,if_pos rfl,if_pos z6M];rfl
theorem zaz (V:yV):QB ⟨2,3,V,kP,0⟩ 1=⟨⟨2,3,V,kP,0⟩,ju,11⟩:=by
 unfold QB qX;rw[if_pos rfl,zay,if_neg (by decide)];rfl
theorem z5h (w:World) (ae:yB 1 w) (ay:yB 0 w):Calls prog 6 #[] w fun e w'=>e=.returned (.bool true)/\Below w.heap.size w w':=by
 have a8:Hd (Zl.Good ⟨2,3,z3A,yj,0⟩):=z0 (by
  have:=Jg (KA (i:=2) (n:=0) (by decide) (by decide) (by decide)) (i:=2) (n:=3) (by decide) (by decide) (by decide) (by decide)
  rwa[Vl]at this)
 obtain⟨G,aG⟩:=nm (yq z3A kP:yV)
 have M:Hd (Zl.Good ⟨2,3,G,kP,0⟩/\(jZ z14).Ok):=z0 (by
  have:=z2k a8.o 1
  rwa[z5g,aG.o]at this)
 have aZ:Hd (Calls prog 7 #[.int .i64 2,.int .i64 0] w fun e w'=>∃b c a,e=.returned (.tuple #[.pointer (some ⟨b,0,none⟩),.int .i64 0])/\jL w' b c a (YG 2 0)/\w.heap.size<=b/\w.heap.size<=a/\Below w.heap.size w w'):=z0 (z4z 2 0 w (by decide) (by decide) (by decide))
 have aQ:Hd (∀W b c a,jL W b c a (YG 2 0)->Below w.heap.size w W->Calls prog 8 #[.int .i64 2,.int .i64 3,.pointer (some ⟨b,0,none⟩)] W fun e w'=>∃g,e=.returned (.tuple #[.pointer (some ⟨g,0,none⟩),.int .i64 0])/\ya w' g b c a ⟨2,3,z3A,yj,0⟩/\W.heap.size<=g/\zJ b a W w'):=z0 (fun W b c a h I=>by
  have:=z11 h (KA (i:=2) (n:=0) (by decide) (by decide) (by decide)) (i:=2) (n:=3) (by decide) (by rw[Vl];exact a8.o) (by decide) (ae.below I);rw[Vl]at this
  exact this)
 have ap:Hd (∀W g b c a,ya W g b c a ⟨2,3,z3A,yj,0⟩->(∀F,vw g b a W F->yB 1 F)->Calls prog 23 #[.pointer (some ⟨g,0,none⟩),.int .i64 1] W fun e w'=>e=.returned (.tuple #[.agg (zy (jZ z14)),.int .i64 0])/\ya w' g b c a ⟨2,3,G,kP,0⟩/\vw g b a W w'):=z0 (fun W g b c a h a7=>by
  have:=KO h a8.o rfl 1 a7;rw[z5g,aG.o]at this
  exact this)
 have ai:Hd (∀W g b c a,ya W g b c a ⟨2,3,G,kP,0⟩->(∀F,vw g b a W F->yB 1 F)->Calls prog 23 #[.pointer (some ⟨g,0,none⟩),.int .i64 1] W fun e w'=>e=.returned (.tuple #[.agg (zy ju),.int .i64 11])/\ya w' g b c a ⟨2,3,G,kP,0⟩/\vw g b a W w'):=z0 (fun W g b c a h a7=>by
  have:=KO h M.o.1 rfl 1 a7;rw[zaz]at this
  exact this)
 have aC:Hd (∀W,Below w.heap.size w W->Calls prog 24 #[.agg (zy (jZ z14))] W fun e w'=>e=.returned (.bool true)/\Below W.heap.size W w'):=z0 (fun W I=>by
  have:=Qx (jZ z14) W M.o.2 (ay.below I)
  rwa[z5f (by decide)]at this)
 have aA:Hd (∀W g b c a,ya W g b c a ⟨2,3,G,kP,0⟩->Calls prog 18 #[.pointer (some ⟨g,0,none⟩)] W fun e w'=>e=.returned (.agg (zp kP))/\Below W.heap.size W w'):=z0 (fun W g b c a h=>z2p h M.o.1);have aU:Hd (∀W g b c a,ya W g b c a ⟨2,3,G,kP,0⟩->Calls prog 19 #[.pointer (some ⟨g,0,none⟩)] W fun e w'=>e=.returned (.bool false)/\W=w'):=z0 (fun W g b c a h=>vP h M.o.1);have aY:Hd (∀W g b c a,ya W g b c a ⟨2,3,G,kP,0⟩->Calls prog 20 #[.pointer (some ⟨g,0,none⟩)] W fun e w'=>e=.returned (.int .i64 0)/\W=w'):=z0 (fun W g b c a h=>z0Z h M.o.1);have aO:Hd (∀W,Below w.heap.size w W->yB 1 W):=z0 (fun W I=>ae.below I);obtain⟨Y,a0⟩:=nm (zy (jZ z14));obtain⟨Z,a1⟩:=nm (zy ju);have K:Hd (Z.size=101/\(Y.size=101/\Y.all (·.oneCell')=true)/\Z.all (·.oneCell')=true):=z0 (by rw[<-a0.o,<-a1.o];exact⟨zg qf,⟨zg M.o.2,qD _⟩,qD _⟩);have ao:Hd (∀W,zt W=.ok (.value (.pointer (some ⟨W.heap.size,0,none⟩))) (W.alloc (.cells Z 54))):=z0 (fun W=>by rw[<-a1.o];exact zC W)
 have aT:Hd (∀(W:World) (p:Nat),W.heap[p]?=some (.cells Y 54 (0,0))->W.cell? ⟨p,0,none⟩=some (.int .i64 2)):=z0 (fun W p h=>by
  rw[<-a0.o]at h
  exact(qz.cells (a:=jZ z14) h).1)
 have aV:∀W,(Instr.field 40 (.agg (zp kP)) 0).run prog W=.ok (.int .i64 1) W:=fun _=>by kernel_rfl
 obtain⟨S,ar⟩:=nm (zp kP);rw[a0.o]at ap aC;rw[a1.o]at ai;rw[ar.o]at aA aV;clear ae ay a0 a1 ar;go_enter func6,ntmps6;go_wp2_with fail;refine aZ.o.mono ?_;rintro e aX ⟨b,c,a,rfl,aB,ak,au,ax⟩;have aW:=z0 aB;have J:=z0 (And.intro ak au);have a2:=z0 ax;clear aB ak au ax;go_wp2_with fail;refine(aQ.o aX b c a aW.o a2.o).mono ?_;rintro e aI ⟨g,rfl,h2,hg,aF⟩;have aJ:=z0 h2;have a5:=z0 (show w.heap.size<=g from Nat.le_trans a2.o.size hg);have aa:=z0 (aF.below a2.o J.o.1 J.o.2 a2.o.size);have aw:Hd (∀W,Below w.heap.size w W->∀F,vw g b a W F->yB 1 F):=z0 (fun W I F t=>aO.o F (t.below I a5.o J.o.1 J.o.2 I.size));clear h2 hg aF;go_upto_region 7 with(fail)
 go_wp2_with fail;refine(ap.o aI g b c a aJ.o (aw.o aI aa.o)).mono ?_;rintro e N ⟨rfl,h3,az⟩;have a3:=ao.o N;have af:=Qk N K.o.1 K.o.2.1.1 K.o.2.1.2;have aH:=z0 (az.below aa.o a5.o J.o.1 J.o.2 aa.o.size);have a9:=z0 (aH.o.alloc aH.o.size (.cells Y 54));have aR:=z0 (Xh N (.cells Y 54));have aj:Hd (ya (N.alloc (.cells Y 54)) g b c a ⟨2,3,G,kP,0⟩):=z0 (h3.below Ba);clear h3 az;go_upto_region 8 with(fail)
 clear a3 af;generalize (N.alloc (.cells Y 54))=an at *;generalize N.heap.size=p4 at *;go_wp2_with fail;refine(ai.o an g b c a aj.o (aw.o an a9.o)).mono ?_;rintro e w5 ⟨rfl,ah,ab⟩;have a3:=ao.o w5;have af:=Qk w5 K.o.1 K.o.1 K.o.2.2;have aD:=z0 (ab.below a9.o a5.o J.o.1 J.o.2 a9.o.size);have a6:=z0 (aD.o.alloc aD.o.size (.cells Z 54));have aq:=z0 (aj.o.other aR.o (by decide) (by decide) (by decide) ab);have ad:=z0 ((Below.heap_alloc w5 (.cells Z 54) p4 (Lb aq.o)).trans aq.o);have aM:Hd (ya (w5.alloc (.cells Z 54)) g b c a ⟨2,3,G,kP,0⟩):=z0 (ah.below Ba);clear ah ab;go_upto_region 9 with(fail)
 clear a3 af;generalize (w5.alloc (.cells Z 54))=aK at *;have aP:=zZ ad.o K.o.2.1.1;go_wp2_with fail;refine(aC.o aK a6.o).mono ?_;rintro e ag ⟨rfl,O⟩;have am:=z0 (a6.o.trans (O.mono a6.o.size));have av:=z0 (aM.o.below O);have aN:=aT.o ag p4 ((O.block _ (Lb ad.o)).trans ad.o);clear aP O;go_wp2_with fail;refine(aA.o ag g b c a av.o).mono ?_;rintro e al ⟨rfl,a4⟩;have aS:=z0 (am.o.trans (a4.mono am.o.size));have aE:=z0 (av.o.below a4);clear aN a4;go_wp2_with fail;refine(aU.o al g b c a aE.o).mono ?_;rintro e aL ⟨rfl,rfl⟩;go_wp2_with fail;refine(aY.o al g b c a aE.o).mono ?_;rintro e aL ⟨rfl,rfl⟩;go_wp2;go_ret;exact⟨rfl,aS.o⟩
end
end Go.Proofs.YtjlinimnnbfmaaaGreatDoor
