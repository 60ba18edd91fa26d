/-
  TeeDoes: a step's variable; what stands between two steps.
-/
import Derived.Test.YtjlinimnnbfmaaaGreatDoorPlTeZero
import Derived.Test.YtjlinimnnbfmaaaGreatDoorPlTeRvC
import Derived.Test.YtjlinimnnbfmaaaGreatDoorPlTeRvD
import Derived.Test.YtjlinimnnbfmaaaGreatDoorPlTeAwake
set_option maxRecDepth 20000
set_option maxHeartbeats 6400000
namespace Go.Proofs.YtjlinimnnbfmaaaGreatDoor
open Go.RowKit Go.Proofs.Tryz
section
attribute [local go_sem ↓] zm zq zr ze zn zo zM qL qv qw kf kt ku xx zV zO qd xv
noncomputable def Qe (t:Zl) (x:JB):TaM:=if x.act=0 then QB t x.vi else if x.act=1 then Zb t x.b x.a else vO t x.c
theorem KQ {t:Zl} (g:t.Good) {w:World}{x:JB} (hx:QY w x):(Qe t x).t.Good/\(Qe t x).a.Ok:=by
 unfold Qe;split
 ·exact z2k g _
 ·split
  ·exact z6D g _ hx.ao
  ·exact z55 g hx.co
theorem z8Z {w:World}{t:Zl}{D C:Array Value} (hD:Ki w D C t) (G:t.Good) (x:JB) (hx:QY w x) (hlt:z0Q x=true) (hK:yB 0 w):Calls prog 12 #[.agg D,.agg (stc x)] w (z17 (Qe t x) w):=by
 have hlit:Xs x.b=true:=by
  unfold z0Q at hlt;simp only[Bool.and_eq_true,decide_eq_true_eq]at hlt;exact hlt.1
 have hlk:=z22 hlit;have HC0:=z0 (fun W (hb:Below w.heap.size w W)=>z3B (hD.below hb) G x.vi (hK.below hb));have HC1:=z0 (fun W (hb:Below w.heap.size w W)=>z1x (hD.below hb) G _ _ x.b x.a (hx.bk.below hb) hlk (Kh.below ⟨_,rfl,hx.ao,hx.ae⟩ hb) (hK.below hb));have HC2:=z0 (fun W (hb:Below w.heap.size w W)=>z18 (hD.below hb) G _ x.c (CtV.below ⟨_,rfl,hx.co,hx.ce⟩ hb) (hK.below hb));have HGA:=z0 (KQ G hx);have HD47:=z0 (And.intro (hD.size G.s) hD.one);have HRD:Hd (∀(W:World) (g:Nat),W.heap[g]?=some (.cells (stc x) 59 (0,0))->zbD W g x):=z0 (fun W g h=>z3t h hx);obtain⟨K,HKX⟩:=nm (stc x);obtain⟨B,HBB⟩:=nm (vS x.b x.sb);obtain⟨X,HXX⟩:=nm (ye x.a x.sa);obtain⟨M,HMM⟩:=nm (JA x.c x.sc)
 have HRE:Hd (∀(W:World) (g:Nat),W.heap[g]?=some (.cells K 59 (0,0))->(W.cell? ⟨g,0,none⟩=some (.int .i64 x.act)/\W.cell? ⟨g,1,none⟩=some (.int .i64 x.vi))/\kq (.pointer (some ⟨g,2,none⟩)) W=.ok (.value (.agg B)) W/\yP (.pointer (some ⟨g,38,none⟩)) W=.ok (.value (.agg X)) W/\xt (.pointer (some ⟨g,106,none⟩)) W=.ok (.value (.agg M)) W):=z0 (fun W g h=>by
  rw[<-HKX.o]at h;have r:=HRD.o W g h;rw[<-HBB.o,<-HXX.o,<-HMM.o]
  exact⟨⟨r.act,r.vi⟩,r.bk,r.ax,r.ct⟩)
 rw[HBB.o,HXX.o]at HC1;rw[HMM.o]at HC2;rw[HKX.o];obtain⟨ZT,HZT⟩:=nm (rtZ);obtain⟨ZA,HZA⟩:=nm (zy ju);have HZZ:Hd (ZT.size=47/\ZA.size=101):=z0 (by rw[<-HZT.o,<-HZA.o];exact⟨ja rfl (zd qp),zg qf⟩);have HLT:Hd (∀W,jD W=.ok (.value (.pointer (some ⟨W.heap.size,0,none⟩))) (W.alloc (.cells ZT 42))):=z0 (fun W=>by rw[<-HZT.o];exact kG W);have HLA:Hd (∀W,zt W=.ok (.value (.pointer (some ⟨W.heap.size,0,none⟩))) (W.alloc (.cells ZA 54))):=z0 (fun W=>by rw[<-HZA.o];exact zC W);have HBA:Hd (∀W,qS W=.ok (.value (.agg ZA)) W):=z0 (fun W=>by rw[<-HZA.o];exact qi W);have hal0:jD ((w.alloc (.cells D 42)).alloc (.cells K 59))=.ok (.value (.pointer (some ⟨w.heap.size+2,0,none⟩))) (((w.alloc (.cells D 42)).alloc (.cells K 59)).alloc (.cells ZT 42)):=by
  have:=HLT.o ((w.alloc (.cells D 42)).alloc (.cells K 59))
  rwa[show(((w.alloc (.cells D 42)).alloc (.cells K 59))).heap.size=w.heap.size+2 from by simp]at this
 have hal1:zt (((w.alloc (.cells D 42)).alloc (.cells K 59)).alloc (.cells ZT 42))=.ok (.value (.pointer (some ⟨w.heap.size+3,0,none⟩))) ((((w.alloc (.cells D 42)).alloc (.cells K 59)).alloc (.cells ZT 42)).alloc (.cells ZA 54)):=by
  have:=HLA.o (((w.alloc (.cells D 42)).alloc (.cells K 59)).alloc (.cells ZT 42))
  rwa[show((((w.alloc (.cells D 42)).alloc (.cells K 59)).alloc (.cells ZT 42))).heap.size=w.heap.size+3 from by simp]at this
 obtain⟨hr0,hr1,hr2,hr3⟩:=QW w (.cells D 42) (.cells K 59) (.cells ZT 42) (.cells ZA 54);have HBZ:Hd (Below w.heap.size w ((((w.alloc (.cells D 42)).alloc (.cells K 59)).alloc (.cells ZT 42)).alloc (.cells ZA 54))):=z0 (((((Below.refl w.heap.size w).alloc (Nat.le_refl _) _).alloc (by simp;try omega) _).alloc (by simp;try omega) _).alloc (by simp;try omega) _);have HR0:=z0 (show((((w.alloc (.cells D 42)).alloc (.cells K 59)).alloc (.cells ZT 42)).alloc (.cells ZA 54)).heap[w.heap.size]?=some (.cells D 42 (0,0)) from hr0);have HR1:=z0 (show((((w.alloc (.cells D 42)).alloc (.cells K 59)).alloc (.cells ZT 42)).alloc (.cells ZA 54)).heap[w.heap.size+1]?=some (.cells K 59 (0,0)) from hr1);have HR2:=z0 (show((((w.alloc (.cells D 42)).alloc (.cells K 59)).alloc (.cells ZT 42)).alloc (.cells ZA 54)).heap[w.heap.size+2]?=some (.cells ZT 42 (0,0)) from hr2);have HR3:=z0 (show((((w.alloc (.cells D 42)).alloc (.cells K 59)).alloc (.cells ZT 42)).alloc (.cells ZA 54)).heap[w.heap.size+3]?=some (.cells ZA 54 (0,0)) from hr3);clear hr0 hr1 hr2 hr3;clear hD G hx hlt hK hlit hlk HRD HKX HBB HXX HMM;go_enter func12,ntmps12;go_upto_region 1 with(fail)
 clear hal0 hal1;generalize ((((w.alloc (.cells D 42)).alloc (.cells K 59)).alloc (.cells ZT 42)).alloc (.cells ZA 54))=wz at *;have HRP:=z0 HR2.o;have HRQ:=z0 HR3.o;have HLE:=z0 (show w.heap.size<=w.heap.size+2/\w.heap.size<=w.heap.size+3 from by omega);have ld:=qs HR0.o HD47.o.1;obtain⟨⟨k0,k1⟩,l2,l3,l4⟩:=HRE.o wz _ HR1.o;obtain⟨ac,HAC⟩:=nm (x.act);rw[HAC.o]at k0;have HBR:=z0 (Below.refl wz.heap.size wz);by_cases e0:ac=0
 ·subst e0;have HCT:=z0 (HC0.o wz HBZ.o);obtain⟨r,HRR⟩:=nm (Qe t x);have HEQ:Hd (QB t x.vi=r):=z0 (by rw[<-HRR.o];unfold Qe;rw[if_pos HAC.o]);rw[HEQ.o]at HCT;rw[HRR.o]at HGA;have HGR:=z0 HGA.o.1.s;have HYO:=z0 (And.intro (zg HGA.o.2) (qD r.a));obtain⟨Y3,HY3⟩:=nm (zy r.a);obtain⟨E3,HE3⟩:=nm (r.e);rw[HY3.o]at HYO;go_wp2_with fail;refine(HCT.o).mono ?_;rintro e w3 ⟨D3,C3,rfl,hr3,hb3⟩;rw[HY3.o,HE3.o];have HD3:=z0 (And.intro (hr3.size HGR.o) hr3.one);have hal1:=HLT.o w3;have hal2:zt (w3.alloc (.cells ZT 42))=.ok (.value (.pointer (some ⟨w3.heap.size+1,0,none⟩))) ((w3.alloc (.cells ZT 42)).alloc (.cells ZA 54)):=by
   have:=HLA.o (w3.alloc (.cells ZT 42))
   rwa[show(w3.alloc (.cells ZT 42)).heap.size=w3.heap.size+1 from by simp]at this
  have HEV:=z0 (Yz w3 HZZ.o.1 HZZ.o.2 HD3.o.1 HD3.o.2 HYO.o.1 HYO.o.2);have hst:=HEV.o.st;have hsa:=HEV.o.sa;have HRD5:=z0 HEV.o.rd;have HRA6:=z0 HEV.o.ra;have HRT3:=z0 (HEV.o.rt (qM w3 _ _).1 (qM w3 _ _).2 (hr3.below (Ba.alloc (by simp) _)));have HB3:=z0 (HBR.o.trans (hb3.mono HBR.o.size));have HB4:=z0 (HB3.o.trans (HEV.o.bel.mono HB3.o.size));have HP5:=z0 HB3.o.size;clear hr3 hb3 HEV ld k0 k1 l2 l3 l4;go_upto_region 4 with(fail)
  clear hal1 hal2 hst hsa;generalize (qb (setSe ((w3.alloc (.cells ZT 42)).alloc (.cells ZA 54)) w3.heap.size D3) (w3.heap.size+1) Y3)=w4 at *;generalize w3.heap.size=p5 at *;have hbd:Below w4.heap.size w4 w4.drew:=(Below.refl _ _).drew;have HBD:=z0 (HB4.o.trans (hbd.mono HB4.o.size));have hp:=(HBD.o.block _ (Lb HRP.o)).trans HRP.o;have hq:=(HBD.o.block _ (Lb HRQ.o)).trans HRQ.o;have HEN:=z0 (xW hp hq HZZ.o.1 HZZ.o.2 HD3.o.1 HD3.o.2 HYO.o.1 HYO.o.2 (HBZ.o.trans (HBD.o.mono HBZ.o.size)) HLE.o.1 HLE.o.2);have HRT:=z0 (HEN.o.rt hp hq (HRT3.o.below hbd));have hst:=HEN.o.st;have hsa:=HEN.o.sa;have HNE:=z0 (show p5≠w.heap.size+2/\p5+1≠w.heap.size+2/\p5≠w.heap.size+3/\p5+1≠w.heap.size+3 from by have:=Lb HRP.o;have:=Lb HRQ.o;have:=HP5.o;omega);clear hp hq;have HF:Hd (∀W,W.heap[p5]?=w4.heap[p5]?->W.heap[p5+1]?=w4.heap[p5+1]?->jp (.pointer (some ⟨p5,0,none⟩)) W=.ok (.value (.agg D3)) W/\zI (.pointer (some ⟨p5+1,0,none⟩)) W=.ok (.value (.agg Y3)) W):=z0 (fun W h1 h2=>⟨qs (h1.trans HRD5.o) HD3.o.1,zZ (h2.trans HRA6.o) HYO.o.1⟩);refine Rh (S:=fun W=>jp (.pointer (some ⟨p5,0,none⟩)) W=.ok (.value (.agg D3)) W/\zI (.pointer (some ⟨p5+1,0,none⟩)) W=.ok (.value (.agg Y3)) W) (by kernel_rfl) (HF.o _ rfl rfl) (fun hHeld=>?_);refine' tk (i:=0) (v:=_) rfl (fun W hW=>hW.1) ?_;try simp only[zx]
  refine' tk (i:=1) (v:=_) rfl (fun W hW=>hW.2) ?_;try simp only[zx]
  refine' z5 2 (h:=?_);refine qc 3 (h:=fun K hK=>?_);go_simp;refine hK.out _ _ (HF.o _ (zl _ _ HNE.o.1) (zl _ _ HNE.o.2.1)) (fun hHeld=>?_);clear hK K;try simp only[zx]
  refine qc 4 (h:=fun K hK=>?_);go_simp;refine hK.out _ _ (HF.o _ (HEN.o.oth _ HNE.o.1 HNE.o.2.2.1) (HEN.o.oth _ HNE.o.2.1 HNE.o.2.2.2)) (fun hHeld=>?_);clear hK K;try simp only[zx]
  refine' z5 5 (h:=?_);refine wpAnyH_done (by kernel_rfl) ?_ _;clear hHeld hst hsa hbd;go_wp2;try simp only[Exit.inBlock,Exit.then]
  refine Bp (yE rfl _ _ _ _ _ _ _ _ _ rfl rfl rfl HEN.o.rd HEN.o.ra HD3.o.1 HYO.o.1) rfl ⟨_,_,?_,by rw[HRR.o];exact HRT.o,HEN.o.bel⟩;rw[HRR.o,HY3.o,HE3.o];try rfl
 ·have f0:(ac == 0)=false:=by simpa using e0
  have HN0:Hd (¬x.act=0):=z0 (by rw[HAC.o];exact e0);by_cases e1:ac=1
  ·subst e1;have HCT:=z0 (HC1.o wz HBZ.o);obtain⟨r,HRR⟩:=nm (Qe t x);have HEQ:Hd (Zb t x.b x.a=r):=z0 (by rw[<-HRR.o];unfold Qe;rw[if_neg HN0.o,if_pos HAC.o]);rw[HEQ.o]at HCT;rw[HRR.o]at HGA;have HGR:=z0 HGA.o.1.s;have HYO:=z0 (And.intro (zg HGA.o.2) (qD r.a));obtain⟨Y3,HY3⟩:=nm (zy r.a);obtain⟨E3,HE3⟩:=nm (r.e);rw[HY3.o]at HYO;go_wp2_with fail;refine(HCT.o).mono ?_;rintro e w3 ⟨D3,C3,rfl,hr3,hb3⟩;rw[HY3.o,HE3.o];have HD3:=z0 (And.intro (hr3.size HGR.o) hr3.one);have hal1:=HLT.o w3;have hal2:zt (w3.alloc (.cells ZT 42))=.ok (.value (.pointer (some ⟨w3.heap.size+1,0,none⟩))) ((w3.alloc (.cells ZT 42)).alloc (.cells ZA 54)):=by
    have:=HLA.o (w3.alloc (.cells ZT 42))
    rwa[show(w3.alloc (.cells ZT 42)).heap.size=w3.heap.size+1 from by simp]at this
   have HEV:=z0 (Yz w3 HZZ.o.1 HZZ.o.2 HD3.o.1 HD3.o.2 HYO.o.1 HYO.o.2);have hst:=HEV.o.st;have hsa:=HEV.o.sa;have HRD5:=z0 HEV.o.rd;have HRA6:=z0 HEV.o.ra;have HRT3:=z0 (HEV.o.rt (qM w3 _ _).1 (qM w3 _ _).2 (hr3.below (Ba.alloc (by simp) _)));have HB3:=z0 (HBR.o.trans (hb3.mono HBR.o.size));have HB4:=z0 (HB3.o.trans (HEV.o.bel.mono HB3.o.size));have HP5:=z0 HB3.o.size;clear hr3 hb3 HEV ld k0 k1 l2 l3 l4;go_upto_region 7 with(fail)
   clear hal1 hal2 hst hsa;generalize (qb (setSe ((w3.alloc (.cells ZT 42)).alloc (.cells ZA 54)) w3.heap.size D3) (w3.heap.size+1) Y3)=w4 at *;generalize w3.heap.size=p5 at *;have hbd:Below w4.heap.size w4 w4.drew:=(Below.refl _ _).drew;have HBD:=z0 (HB4.o.trans (hbd.mono HB4.o.size));have hp:=(HBD.o.block _ (Lb HRP.o)).trans HRP.o;have hq:=(HBD.o.block _ (Lb HRQ.o)).trans HRQ.o;have HEN:=z0 (xW hp hq HZZ.o.1 HZZ.o.2 HD3.o.1 HD3.o.2 HYO.o.1 HYO.o.2 (HBZ.o.trans (HBD.o.mono HBZ.o.size)) HLE.o.1 HLE.o.2);have HRT:=z0 (HEN.o.rt hp hq (HRT3.o.below hbd));have hst:=HEN.o.st;have hsa:=HEN.o.sa;have HNE:=z0 (show p5≠w.heap.size+2/\p5+1≠w.heap.size+2/\p5≠w.heap.size+3/\p5+1≠w.heap.size+3 from by have:=Lb HRP.o;have:=Lb HRQ.o;have:=HP5.o;omega);clear hp hq;have HF:Hd (∀W,W.heap[p5]?=w4.heap[p5]?->W.heap[p5+1]?=w4.heap[p5+1]?->jp (.pointer (some ⟨p5,0,none⟩)) W=.ok (.value (.agg D3)) W/\zI (.pointer (some ⟨p5+1,0,none⟩)) W=.ok (.value (.agg Y3)) W):=z0 (fun W h1 h2=>⟨qs (h1.trans HRD5.o) HD3.o.1,zZ (h2.trans HRA6.o) HYO.o.1⟩);refine Rh (S:=fun W=>jp (.pointer (some ⟨p5,0,none⟩)) W=.ok (.value (.agg D3)) W/\zI (.pointer (some ⟨p5+1,0,none⟩)) W=.ok (.value (.agg Y3)) W) (by kernel_rfl) (HF.o _ rfl rfl) (fun hHeld=>?_);refine' tk (i:=0) (v:=_) rfl (fun W hW=>hW.1) ?_;try simp only[zx]
   refine' tk (i:=1) (v:=_) rfl (fun W hW=>hW.2) ?_;try simp only[zx]
   refine' z5 2 (h:=?_);refine qc 3 (h:=fun K hK=>?_);go_simp;refine hK.out _ _ (HF.o _ (zl _ _ HNE.o.1) (zl _ _ HNE.o.2.1)) (fun hHeld=>?_);clear hK K;try simp only[zx]
   refine qc 4 (h:=fun K hK=>?_);go_simp;refine hK.out _ _ (HF.o _ (HEN.o.oth _ HNE.o.1 HNE.o.2.2.1) (HEN.o.oth _ HNE.o.2.1 HNE.o.2.2.2)) (fun hHeld=>?_);clear hK K;try simp only[zx]
   refine' z5 5 (h:=?_);refine wpAnyH_done (by kernel_rfl) ?_ _;clear hHeld hst hsa hbd;go_wp2;try simp only[Exit.inBlock,Exit.then]
   refine Bp (yE rfl _ _ _ _ _ _ _ _ _ rfl rfl rfl HEN.o.rd HEN.o.ra HD3.o.1 HYO.o.1) rfl ⟨_,_,?_,by rw[HRR.o];exact HRT.o,HEN.o.bel⟩;rw[HRR.o,HY3.o,HE3.o];try rfl
  ·have f1:(ac == 1)=false:=by simpa using e1
   have HN1:Hd (¬x.act=1):=z0 (by rw[HAC.o];exact e1);have HCT:=z0 (HC2.o wz HBZ.o);obtain⟨r,HRR⟩:=nm (Qe t x);have HEQ:Hd (vO t x.c=r):=z0 (by rw[<-HRR.o];unfold Qe;rw[if_neg HN0.o,if_neg HN1.o]);rw[HEQ.o]at HCT;rw[HRR.o]at HGA;have HGR:=z0 HGA.o.1.s;have HYO:=z0 (And.intro (zg HGA.o.2) (qD r.a));obtain⟨Y3,HY3⟩:=nm (zy r.a);obtain⟨E3,HE3⟩:=nm (r.e);rw[HY3.o]at HYO;go_wp2_with fail;refine(HCT.o).mono ?_;rintro e w3 ⟨D3,C3,rfl,hr3,hb3⟩;rw[HY3.o,HE3.o];have HD3:=z0 (And.intro (hr3.size HGR.o) hr3.one);have hal1:=HLT.o w3;have hal2:zt (w3.alloc (.cells ZT 42))=.ok (.value (.pointer (some ⟨w3.heap.size+1,0,none⟩))) ((w3.alloc (.cells ZT 42)).alloc (.cells ZA 54)):=by
    have:=HLA.o (w3.alloc (.cells ZT 42))
    rwa[show(w3.alloc (.cells ZT 42)).heap.size=w3.heap.size+1 from by simp]at this
   have HEV:=z0 (Yz w3 HZZ.o.1 HZZ.o.2 HD3.o.1 HD3.o.2 HYO.o.1 HYO.o.2);have hst:=HEV.o.st;have hsa:=HEV.o.sa;have HRD5:=z0 HEV.o.rd;have HRA6:=z0 HEV.o.ra;have HRT3:=z0 (HEV.o.rt (qM w3 _ _).1 (qM w3 _ _).2 (hr3.below (Ba.alloc (by simp) _)));have HB3:=z0 (HBR.o.trans (hb3.mono HBR.o.size));have HB4:=z0 (HB3.o.trans (HEV.o.bel.mono HB3.o.size));have HP5:=z0 HB3.o.size;clear hr3 hb3 HEV ld k0 k1 l2 l3 l4;go_upto_region 9 with(fail)
   clear hal1 hal2 hst hsa;generalize (qb (setSe ((w3.alloc (.cells ZT 42)).alloc (.cells ZA 54)) w3.heap.size D3) (w3.heap.size+1) Y3)=w4 at *;generalize w3.heap.size=p5 at *;have hbd:Below w4.heap.size w4 w4.drew:=(Below.refl _ _).drew;have HBD:=z0 (HB4.o.trans (hbd.mono HB4.o.size));have hp:=(HBD.o.block _ (Lb HRP.o)).trans HRP.o;have hq:=(HBD.o.block _ (Lb HRQ.o)).trans HRQ.o;have HEN:=z0 (xW hp hq HZZ.o.1 HZZ.o.2 HD3.o.1 HD3.o.2 HYO.o.1 HYO.o.2 (HBZ.o.trans (HBD.o.mono HBZ.o.size)) HLE.o.1 HLE.o.2);have HRT:=z0 (HEN.o.rt hp hq (HRT3.o.below hbd));have hst:=HEN.o.st;have hsa:=HEN.o.sa;have HNE:=z0 (show p5≠w.heap.size+2/\p5+1≠w.heap.size+2/\p5≠w.heap.size+3/\p5+1≠w.heap.size+3 from by have:=Lb HRP.o;have:=Lb HRQ.o;have:=HP5.o;omega);clear hp hq;have HF:Hd (∀W,W.heap[p5]?=w4.heap[p5]?->W.heap[p5+1]?=w4.heap[p5+1]?->jp (.pointer (some ⟨p5,0,none⟩)) W=.ok (.value (.agg D3)) W/\zI (.pointer (some ⟨p5+1,0,none⟩)) W=.ok (.value (.agg Y3)) W):=z0 (fun W h1 h2=>⟨qs (h1.trans HRD5.o) HD3.o.1,zZ (h2.trans HRA6.o) HYO.o.1⟩);refine Rh (S:=fun W=>jp (.pointer (some ⟨p5,0,none⟩)) W=.ok (.value (.agg D3)) W/\zI (.pointer (some ⟨p5+1,0,none⟩)) W=.ok (.value (.agg Y3)) W) (by kernel_rfl) (HF.o _ rfl rfl) (fun hHeld=>?_);refine' tk (i:=0) (v:=_) rfl (fun W hW=>hW.1) ?_;try simp only[zx]
   refine' tk (i:=1) (v:=_) rfl (fun W hW=>hW.2) ?_;try simp only[zx]
   refine' z5 2 (h:=?_);refine qc 3 (h:=fun K hK=>?_);go_simp;refine hK.out _ _ (HF.o _ (zl _ _ HNE.o.1) (zl _ _ HNE.o.2.1)) (fun hHeld=>?_);clear hK K;try simp only[zx]
   refine qc 4 (h:=fun K hK=>?_);go_simp;refine hK.out _ _ (HF.o _ (HEN.o.oth _ HNE.o.1 HNE.o.2.2.1) (HEN.o.oth _ HNE.o.2.1 HNE.o.2.2.2)) (fun hHeld=>?_);clear hK K;try simp only[zx]
   refine' z5 5 (h:=?_);refine wpAnyH_done (by kernel_rfl) ?_ _;clear hHeld hst hsa hbd;go_wp2;try simp only[Exit.inBlock,Exit.then]
   refine Bp (yE rfl _ _ _ _ _ _ _ _ _ rfl rfl rfl HEN.o.rd HEN.o.ra HD3.o.1 HYO.o.1) rfl ⟨_,_,?_,by rw[HRR.o];exact HRT.o,HEN.o.bel⟩;rw[HRR.o,HY3.o,HE3.o];try rfl
end
section
section
variable {w:World}{g b c a:Nat}{t:Zl}
theorem Kg (h:ya w g b c a t) (F:t.Good) (h0:¬t.e=0):∀W,Below w.heap.size w W->Calls prog 19 #[.pointer (some ⟨g,0,none⟩)] W fun e w'=>e=.returned (.bool true)/\W=w':=fun W G=>by
 have:=vP (h.below G) F
 rwa[show(t.e != 0)=true from by simpa using h0]at this
theorem z3C (h:ya w g b c a t) {e:Ending}{w':World} (he:e=.returned (.tuple #[.agg (zy ju),.int .i64 8])) (F:Below w.heap.size w w'):vp g b c a (JO t) w e w':=⟨he,h.below F,vw.of F⟩
theorem zaD (h:ya w g b c a t) (F:t.Good) (n:Int) (G:∀W,vw g b a w W->yB 1 W):Calls prog 23 #[.pointer (some ⟨g,0,none⟩),.int .i64 n] w (vp g b c a (QB t n) w):=by
 by_cases h0:t.e=0
 ·exact KO h F h0 n G
 ·have e:QB t n=JO t:=by unfold QB;rw[if_neg h0]
  rw[e];exact(z8X _ n (Kg h F h0)).mono fun _ _ ⟨he,I⟩=>z3C h he I
theorem z90 (h:ya w g b c a t) (I:t.Good) (F:kR) (G:vU) (sb J:Value) (K:Kw w (.agg (vS F sb)) F) (N:ZQ F) (hx:Kh w (.agg (ye G J)) G) (a0:G.fr.length<=1000) (M:∀W,vw g b a w W->yB 1 W):
  Calls prog 33 #[.pointer (some ⟨g,0,none⟩),.agg (vS F sb),.agg (ye G J)] w (vp g b c a (Zb t F G) w):=by
 by_cases h0:t.e=0
 ·exact z6J h I h0 _ _ F G K N hx a0 M
 ·have e:Zb t F G=JO t:=by unfold Zb;rw[if_neg h0]
  rw[e];exact(z6H _ _ _ (Kg h I h0)).mono fun _ _ ⟨he,O⟩=>z3C h he O
theorem z6R (h:ya w g b c a t) (F:t.Good) (kc:YL) (G:Value) (I:CtV w (.agg (JA kc G)) kc) (M:kc.sg.length<=1000) (J:∀W,vw g b a w W->yB 1 W):
  Calls prog 34 #[.pointer (some ⟨g,0,none⟩),.agg (JA kc G)] w (vp g b c a (vO t kc) w):=by
 by_cases h0:t.e=0
 ·exact z59 h F h0 _ kc I M J
 ·have e:vO t kc=JO t:=by unfold vO;rw[if_neg h0]
  rw[e];exact(z58 _ _ (Kg h F h0)).mono fun _ _ ⟨he,K⟩=>z3C h he K
theorem z91 (h:ya w g b c a t) (F:t.Good) (vi:Int) (v:Value) (L:List y8) (G:jE xZ 101 w v L) (K:∀a∈L,a.Ok) (hl:L.length<=1000) (I:yB 1 w):Calls prog 13 #[.pointer (some ⟨g,0,none⟩),.int .i64 vi,v] w (z6P (QZ t vi L) w):=by
 by_cases h0:t.e=0
 ·exact z6Q h F h0 vi v L G K hl I
 ·have e:QZ t vi L=(Zy,8):=by unfold QZ;rw[if_neg h0]
  rw[e];obtain⟨A,k,rfl⟩:=G.shape;exact(z6I _ vi A _ k (Kg h F h0)).mono fun _ w' ⟨he,J⟩=>⟨_,he,(⟨_,rfl,Zh,jE.nil _⟩:Kh w' _ Zy),J⟩
theorem zaE (h:ya w g b c a t) (G:t.Good) (x:JB) (hx:QY w x) (N:z0Q x=true) (a5:∀W,vw g b a w W->yB 1 W):
  Calls prog 11 #[.pointer (some ⟨g,0,none⟩),.agg (stc x)] w (vp g b c a (Qe t x) w):=by
 have K:Xs x.b=true/\x.a.fr.length<=1000/\x.c.sg.length<=1000:=by
  unfold z0Q at N;simp only[Bool.and_eq_true,decide_eq_true_eq]at N;exact⟨N.1,by omega,by omega⟩
 have a6:=z22 K.1;have hg:=KQ G hx;have O:∀W,Below w.heap.size w W->∀I,vw g b a W I->yB 1 I:=fun W F I a3=>a5 I ((vw.of F).trans a3);refine(zbT (fun W w'=>ya w' g b c a (Qe t x).t/\vw g b a W w') _ x w hx (zy (Qe t x).a) (Qe t x).e ⟨zg hg.2,qD _⟩ (fun a0 W F=>?_) (fun J W F=>?_) (fun a0 J W F=>?_) (fun W w' Z F hp M=>(h.below F).other M (by decide) (by decide) (by decide) hp.2)).mono ?_
 ·have:=zaD (h.below F) G x.vi (O W F);rw[show QB t x.vi=Qe t x from by unfold Qe;rw[if_pos a0]]at this;exact this
 ·have:=z90 (h.below F) G x.b x.a x.sb x.sa (hx.bk.below F) a6 (Kh.below ⟨_,rfl,hx.ao,hx.ae⟩ F) K.2.1 (O W F);rw[show Zb t x.b x.a=Qe t x from by unfold Qe;rw[if_neg (by rw[J];decide),if_pos J]]at this;exact this
 ·have:=z6R (h.below F) G x.c x.sc (CtV.below ⟨_,rfl,hx.co,hx.ce⟩ F) K.2.2 (O W F);rw[show vO t x.c=Qe t x from by unfold Qe;rw[if_neg a0,if_neg J]]at this;exact this
 ·rintro e w' ⟨he,W,a2,Z,F,⟨h1,a7⟩,M,rfl⟩;have a1:=qA (C:=zy (Qe t x).a) (Below.refl w.heap.size a2) (show w.heap.size<=w.heap.size+1 by omega);exact⟨he,h1.aside M z6G a1.size (fun k a4=>yO a2 _ a4),((vw.of F).trans a7).low a1⟩
end
end
section
noncomputable def z6S (v : Value) (w : World) : Result Next := Sem.run prog (execOp (fun _ => v) { dst := none, op := .load 64 (.tmp 0), type := 0, pos := "", after := #[], guard := none }) w
theorem z3D (r:Operand->Value) (x:Operand) (dst:Option Tmp) (ty:TypeId) (pos:String) (after:Array Edge) (guard:Option (Nat×Bool)) (w:World):
  Sem.run prog (execOp r { dst:=dst,op:=.load 64 x,type:=ty,pos:=pos,after:=after,guard:=guard }) w=z6S (r x) w:=rfl
theorem zaF:prog.underlying 64=some (.struct (prog.fieldsOf 64)):=by kernel_rfl
theorem z7u:(prog.info? 64).map (·.size)=some 253:=by kernel_rfl
theorem z6T {w W:World}{g o:Nat}{x:JC} (F:W.rangeAt g o (spl x)) (ho:YI w x):z6S (.pointer (some ⟨g,o,none⟩)) W=.ok (.value (.agg (spc x))) W:=by
 have:=run_loadAt_mid (P:=prog) W g o 64 (spl x) _ F zaF rfl (by rw[z7u,Vk ho]);unfold z6S execOp;simp only[Sem.run_bind,this,Result.andThen_ok,Sem.run_pure];rfl
theorem zc2:(prog.info? 64).bind (·.zero)=some (.agg (spc spZ)):=by kernel_rfl
theorem z5j (w:World):(zeroValue 64).run prog w=.ok (.agg (spc spZ)) w:=by
 have h:=zc2;cases hq:prog.info? 64 with
 |none=>rw[hq]at h;cases h
 |some i=>
  rw[hq]at h;have F:i.zero=some (.agg (spc spZ)):=h;simp[zeroValue,typeInfo,hq,F]
noncomputable def XM (w : World) : Result Next := Sem.run prog (execOp (fun _ => undef) { dst := none, op := .alloc 64, type := 0, pos := "", after := #[], guard := none }) w
theorem z1z (r:Operand->Value) (dst:Option Tmp) (ty:TypeId) (pos:String) (after:Array Edge) (guard:Option (Nat×Bool)) (w:World):
  Sem.run prog (execOp r { dst:=dst,op:=.alloc 64,type:=ty,pos:=pos,after:=after,guard:=guard }) w=XM w:=rfl
theorem z6U (w:World):XM w=.ok (.value (.pointer (some ⟨w.heap.size,0,none⟩))) (w.alloc (.cells (spc spZ) 64)):=by
 unfold XM execOp;simp only[Sem.run_bind,Instr.alloc,z5j,newVar,newRow,run_newObj_alloc,Sem.run_pure,Result.andThen_ok,Value.cells]
noncomputable def z3E (p v:Value) (w:World):Result Next:=Sem.run prog (execOp (fun x=>match x with
 | .tmp 0=>p
 | _ => v) { dst := none, op := .store 64 (.tmp 0) (.tmp 1), type := 0, pos := "", after := #[], guard := none }) w
theorem z1A (r:Operand->Value) (x y:Operand) (dst:Option Tmp) (ty:TypeId) (pos:String) (after:Array Edge) (guard:Option (Nat×Bool)) (w:World):
  Sem.run prog (execOp r { dst:=dst,op:=.store 64 x y,type:=ty,pos:=pos,after:=after,guard:=guard }) w=z3E (r x) (r y) w:=rfl
theorem zd9 (w:World) {Z S:Array Value} (G:Z.size=253) (F:S.size=253) (h1:S.all (·.oneCell')=true):
  z3E (.pointer (some ⟨w.heap.size,0,none⟩)) (.agg S) (w.alloc (.cells Z 64))=.ok .skip (w.alloc (.cells S 64)):=by
 have:=run_storeVar_row (P:=prog) (w.alloc (.cells Z 64)) w.heap.size _ 64 Z S (Xh w _) (by rw[z7u,F]) (by rw[G,F]) h1;have e:(w.alloc (.cells Z 64)).setRow w.heap.size S=w.alloc (.cells S 64):=Qm w _ Z S;rw[e]at this;unfold z3E execOp;simp only[Instr.storeAt,Instr.sureAddr,Sem.run_bind,Sem.run_pure,Result.andThen_ok,this]
theorem zaG (w:World) {Z S:Array Value} (F:Z.size=47) (G:S.size=47) (h1:S.all (·.oneCell')=true):
  Jw (.pointer (some ⟨w.heap.size,0,none⟩)) (.agg S) (w.alloc (.cells Z 42))=.ok .skip (w.alloc (.cells S 42)):=by
 rw[Qb (Xh w _) F G h1,Qm]
structure z19 (w:World) (b a p:Nat):Prop where
 b:w.heap.size<=b
 a:w.heap.size<=a
 p:w.heap.size<=p
structure vQ (w W:World) (b c a g p:Nat) (t r:Zl) (D0 D C:Array Value) (x:Value) (Ls:List KK):Prop where
 te:ya W g b c a t
 gt:t.Good
 gr:r.Good
 hg:w.heap.size<=g
 r0:W.heap[p]?=some (.cells D0 42 (0,0))
 ds:D0.size=47
 rc:Ki W D C r
 ow:yN ocl 2 34 w.heap.size W x Ls
 ok:∀o∈Ls,xE W o
 bel:Below w.heap.size w W
section
variable {w W W':World}{b c a g g' p:Nat}{t t' r r':Zl}{D0 D D' C C':Array Value}{x x':Value}{Ls:List KK}{od:KK}
theorem vQ.below (h:vQ w W b c a g p t r D0 D C x Ls) (F:Below W.heap.size W W'):vQ w W' b c a g p t r D0 D C x Ls:=
 ⟨h.te.below F,h.gt,h.gr,h.hg,(F.block _ (Lb h.r0)).trans h.r0,h.ds,h.rc.below F,h.ow.below F,fun o ho=>(h.ok o ho).away F.size (fun k _ G=>F.block k (Lb G)),h.bel.trans (F.mono h.bel.size)⟩
theorem vQ.tur (h:vQ w W b c a g p t r D0 D C x Ls) (K:z19 w b a p) (F:vw g b a W W') (h2:ya W' g b c a t') (M:t'.Good):vQ w W' b c a g p t' r D0 D C x Ls:=by
 have I:∀(k:Nat) (C:Array Value),W.heap[k]?=some (Obj.cells C 5 (0,0))->W'.heap[k]?=W.heap[k]?:=fun k C G=>(h.te.other G (by decide) (by decide) (by decide) F).trans G.symm;refine⟨h2,M,h.gr,h.hg,h.te.other h.r0 (by decide) (by decide) (by decide) F,h.ds,h.rc.away F.size I,h.ow.keep (fun k G e=>?_),fun o ho=>(h.ok o ho).away F.size I,F.below h.bel h.hg K.b K.a h.bel.size⟩;obtain⟨R,J⟩:=z3x h.ow e;exact(h.te.other J (by decide) (by decide) (by decide) F).trans J.symm
theorem vQ.turn (h:vQ w W b c a g p t r D0 D C x Ls) (J:z19 w b a p) (F:zJ b a W W') {V':yV} (G:jL W' b c a V') (I:V'.Good):vQ w W' b c a g p ⟨t.i,t.n,V',t.s,t.e⟩ r D0 D C x Ls:=by
 obtain⟨d,h1⟩:=h.te;exact h.tur J (vw.ofv F) ⟨d,h1.turned G F⟩ ⟨I,h.gt.s,h.gt.i1,h.gt.i2,h.gt.n1,h.gt.n2⟩
theorem vQ.anew (h:vQ w W b c a g p t r D0 D C x Ls) (J:z19 w b a p) (K:zJ b a W W') (h2:ya W' g' b c a t') (G:t'.Good) (hg:w.heap.size<=g'):vQ w W' b c a g' p t' r D0 D C x Ls:=by
 obtain⟨I,h3⟩:=h2;have F:=h.turn J K h3.v G.V;exact⟨⟨I,h3⟩,G,h.gr,hg,F.r0,h.ds,F.rc,F.ow,F.ok,F.bel⟩
theorem vQ.told (h:vQ w W b c a g p t r D0 D C x Ls) (F:Ki W D' C' r') (gr:r'.Good):vQ w W b c a g p t r' D0 D' C' x Ls:=⟨h.te,h.gt,gr,h.hg,h.r0,h.ds,F,h.ow,h.ok,h.bel⟩
theorem vQ.var (h:vQ w W b c a g p t r D0 D C x Ls) (N:z19 w b a p) (G:W.heap.size<=W'.heap.size) (F:∀k,k≠p->W'.heap[k]?=W.heap[k]?) (h0:W'.heap[p]?=some (.cells D' 42 (0,0))) (hd:D'.size=47) (ho:W'.os=W.os) (I:W'.tape=W.tape) (hp:W'.output=W.output) (J:Ki W' D' C' r') (gr:r'.Good):vQ w W' b c a g p t r' D' D' C' x Ls:=by
 have K:∀(k:Nat) (C:Array Value),W.heap[k]?=some (Obj.cells C 5 (0,0))->W'.heap[k]?=W.heap[k]?:=fun k C h1=>F k (q9 h1 h.r0 (by decide));refine⟨h.te.kept G (fun k C T h1 h2=>F k (q9 h1 h.r0 (by rcases h2 with rfl|rfl|rfl|rfl|rfl <;> decide))),h.gt,gr,h.hg,h0,hd,J,h.ow.keep (fun k _ e=>?_),fun o ho=>(h.ok o ho).away G K,h.bel.trans ⟨ho,I,hp,G,fun k h1=>F k (by have:=N.p;omega)⟩⟩;obtain⟨R,M⟩:=z3x h.ow e;exact F k (q9 M h.r0 (by decide))
theorem vQ.store (h:vQ w W b c a g p t r D0 D C x Ls) (I:z19 w b a p):Jw (.pointer (some ⟨p,0,none⟩)) (.agg D) W=.ok .skip (setSe W p D)/\vQ w (setSe W p D) b c a g p t r D D C x Ls:=by
 have F:=zR (C:=D) (Below.refl 0 W) (Nat.zero_le p);exact⟨Qb h.r0 h.ds (h.rc.size h.gr.s) h.rc.one,h.var I F.size (fun k G=>zl W D G) (qG h.r0) (h.rc.size h.gr.s) F.os F.tape F.output (h.rc.aside h.r0 (by decide) F.size (fun k G=>zl W D G)) h.gr⟩
theorem vQ.storeV (h:vQ w W b c a g p t r D D C x Ls) (I:z19 w b a p) {V':yV} (F:vd W C' V') (J:V'.Good):xr (.pointer (some ⟨p,2,none⟩)) (.agg C') W=.ok .skip (jA W p 2 C')/\∃D',vQ w (jA W p 2 C') b c a g p t ⟨r.i,r.n,V',r.s,r.e⟩ D' D' C' x Ls:=by
 have h0:=h.r0;rw[h.rc.d]at h0;obtain⟨h1,h2⟩:=z7s h0 h.rc.c.size F.size F.one;have hg:=Zq W p 2 C';refine⟨h1,_,h.var I hg.size (fun k G=>je W 2 C' G) h2 (ja F.size (zd h.gr.s)) hg.os hg.tape hg.output ⟨vd.aside F h.r0 (by decide) hg.size (fun k G=>je W 2 C' G),rfl⟩ ⟨J,h.gr.s,h.gr.i1,h.gr.i2,h.gr.n1,h.gr.n2⟩⟩
theorem vQ.grow (h:vQ w W b c a g p t r D0 D C x Ls) (F:W.grownBy W' x.ownBlock) (ho:yN ocl 2 34 w.heap.size W' x' (Ls ++ [od])) (N:xE W od):vQ w W' b c a g p t r D0 D C x' (Ls ++ [od]):=by
 have K:Below w.heap.size w W':=h.bel.grown F h.bel.size (fun k I=>(World.ownsRow.lt h.ow k I).1)
 have I:∀(k:Nat) (C:Array Value) (T:TypeId),W.heap[k]?=some (Obj.cells C T (0,0))->T≠34->W'.heap[k]?=W.heap[k]?:=fun k C T h1 O=>F.block k (Lb h1) (fun e=>by
  obtain⟨R,M⟩:=z3x h.ow e.symm
  exact q9 h1 M O rfl)
 have J:∀(k:Nat) (C:Array Value),W.heap[k]?=some (Obj.cells C 5 (0,0))->W'.heap[k]?=W.heap[k]?:=fun k C h1=>I k C _ h1 (by decide);refine⟨h.te.kept F.size (fun k C T h1 h2=>I k C T h1 (by rcases h2 with rfl|rfl|rfl|rfl|rfl <;> decide)),h.gt,h.gr,h.hg,(I _ _ _ h.r0 (by decide)).trans h.r0,h.ds,h.rc.away F.size J,ho,fun o G=>?_,K⟩;rcases List.mem_append.1 G with G|G
 ·exact(h.ok o G).away F.size J
 ·obtain rfl:o=od:=by simpa using G
  exact N.away F.size J
theorem vQ.ld (h:vQ w W b c a g p t r D D C x Ls):jp (.pointer (some ⟨p,0,none⟩)) W=.ok (.value (.agg D)) W:=qs h.r0 h.ds
theorem vQ.rd (h:vQ w W b c a g p t r D D C x Ls):zdB W p r.i r.n C (zp r.s) (r.e != 0) r.e:=by
 have h0:=h.r0;rw[h.rc.d]at h0;exact Zs h0 h.rc.c.size (zd h.gr.s)
theorem vQ.two (h:vQ w W b c a g p t r D D C x Ls):∃od:KK,xE W od/\z0W (.pointer (some ⟨p,3,none⟩)) W=.ok (.value (.agg (ocl od).toArray)) W:=by
 have F:=h.rd.r;obtain⟨v0,v1,vh,wh,I,h0,h1,_,_⟩:=h.rc.c;rw[I]at F;obtain⟨A0,c0,rfl⟩:=h0.shape;obtain⟨A1,c1,rfl⟩:=h1.shape;refine⟨⟨A0,c0,r.V.s0,A1,c1,r.V.s1⟩,⟨h0,h1,h.gr.V.l0,h.gr.V.l1⟩,z6B (fun j u G=>?_)⟩
 match j with
 |0=>exact F 1 u G
 |1=>exact F 2 u G
 |j+2=>simp at G
end
def zaH (w W:World) (b c a p:Nat) (F x:Value) (k:Nat):Prop:=∃g t D C Ls,F=.pointer (some ⟨g,0,none⟩)/\vQ w W b c a g p t t D D C x Ls/\Ls.length=k
end
end Go.Proofs.YtjlinimnnbfmaaaGreatDoor
