/-
  VaRvCrash VaDoWords VaActsWords VaDoK VaDoS VaDoY VaDoN VaDoT VaDo: what each of them says stands at its head.
-/
import Derived.Test.YtjlinimnnbfmaaaGreatDoorPlBs15
import Derived.Deep.CutBlock
import Derived.Test.YtjlinimnnbfmaaaGreatDoorPlBs16
set_option maxRecDepth 20000
set_option maxHeartbeats 25600000
namespace Go.Proofs.YtjlinimnnbfmaaaGreatDoor
open Go.RowKit Go.Proofs.Tryz
section
attribute [local go_sem ↓] qL qv qw zm
def zak (k:Int) (V:yV) (w:World) (e:Ending) (w':World):Prop:=∃C,e=.returned (.tuple #[.agg C,.int .i64 k])/\vd w' C V/\Below w.heap.size w w'
theorem vd.setSe {w:World}{C D C0:Array Value}{V:yV}{g:Nat} (h:vd w C V) (hg:w.heap[g]?=some (.cells C0 36 (0,0))):vd (setSe w g D) C V:=
 h.away (by unfold Go.Proofs.YtjlinimnnbfmaaaGreatDoor.setSe;simp) (fun k _ F=>zl w D (q9 F hg (by decide)))
theorem zcY {w G W:World}{F:Nat}{C C0:Array Value}{V:yV} (K:Below G.heap.size G W) (hg:G.heap[F]?=some (.cells C0 36 (0,0))) (h0:C0.size=8) (N:w.heap.size<=F) (M:Below w.heap.size w G) (I:vd W C V):
  xr (.pointer (some ⟨F,0,none⟩)) (.agg C) W=.ok .skip (setSe W F C)/\(setSe W F C).heap[F]?=some (.cells C 36 (0,0))/\vd (setSe W F C) C V/\Below w.heap.size w (setSe W F C):=by
 have J:=(K.block _ (Lb hg)).trans hg;obtain⟨h1,h2,h3⟩:=Yl (C:=C) (M.trans (K.mono M.size)) J N h0 I.size I.one;exact⟨h1,h2,I.setSe J,h3⟩
theorem Qz (V:yV) (C:Array Value) (s:ym) (w:World) (bj:vd w C V) (g:V.Good) (ho:s.Ok) (c3:yB 0 w):
  Calls prog 32 #[.agg C,.agg (zp s)] w (zak (yM V s) (yq V s) w):=by
 obtain⟨v0,v1,vh,wh,rfl,bn,b9,bu,c8⟩:=bj;have bO:Hd (∀W,Below w.heap.size w W->qW W v0 V.s0/\qW W v1 V.s1/\qW W vh V.torn):=z0 (fun W a0=>⟨bn.below a0,b9.below a0,bu.below a0⟩);have cc:=z0 c8;obtain⟨A0,c0,r0⟩:=bn.shape;obtain⟨A1,c1,r1⟩:=b9.shape;obtain⟨cC,cw,r2⟩:=bu.shape;have bS:Hd (∀V',(yK V' v0 v1 vh wh).all (·.oneCell')=true):=z0 (fun V'=>by subst r0 r1 r2;exact VV ..)
 have aL:Hd (qZ s=true->V.n<1099511627776->∀W,Below w.heap.size w W->Calls prog 63 #[.int .i64 V.i,.int .i64 (V.n+1),.agg (zp s)] W fun e w'=>∃x,e=.returned x/\qW w' x (vF V.i (V.n+1) s)/\Below W.heap.size W w'):=z0 (fun ba hn W a0=>by
  have n0:=g.n0;have:=VR V.i (V.n+1) s W ho (by unfold jY;rw[decide_eq_true_eq];omega) ba (c3.below a0)
  exact this.mono fun _ _ ⟨x,he,hx,a0⟩=>⟨x,he,hx.bys,a0⟩)
 have bi:Hd (∀W,Calls prog 62 #[.agg (zp s)] W fun e w'=>e=.returned (.bool (qZ s))/\Below W.heap.size W w'):=z0 (fun W=>xo s W ho)
 have az:Hd (V.dead=false->qZ s=true->¬V.n=1099511627776->yM V s=kD V/\yq V s=vG V (vF V.i (V.n+1) s)):=z0 (fun h1 h2 h3=>by
  unfold yM yq;rw[h1,h2,if_neg (by decide),if_neg (by decide),if_neg h3,if_neg (by decide),if_neg (by decide),if_neg h3]
  exact⟨rfl,rfl⟩)
 have a6:Hd (V.dead=true->yM V s=6/\yq V s=V):=z0 (fun h1=>by
  unfold yM yq;rw[if_pos h1,if_pos h1]
  exact⟨rfl,rfl⟩)
 have am:Hd (V.dead=false->qZ s=false->yM V s=1/\yq V s=V):=z0 (fun h1 h2=>by
  unfold yM yq;simp only[h1,h2,Bool.false_eq_true,if_false,if_true]
  exact⟨trivial,trivial⟩)
 have aI:Hd (V.dead=false->qZ s=true->V.n=1099511627776->yM V s=9/\yq V s=V):=z0 (fun h1 h2 h3=>by
  unfold yM yq;rw[h1,h2,if_neg (by decide),if_neg (by decide),if_pos h3,if_neg (by decide),if_neg (by decide),if_pos h3]
  exact⟨rfl,rfl⟩)
 have af:=z0 g;have ce:=z0 ho;obtain⟨b,c6⟩:∃x,Hd (vF V.i (V.n+1) s=x):=⟨_,z0 rfl⟩
 obtain⟨m,bv⟩:=nm (qZ s);obtain⟨ae,bD⟩:=nm (zp s);obtain⟨D,aY⟩:=nm (yK V v0 v1 vh wh);obtain⟨cv,bw⟩:=nm (yM V s);obtain⟨cA,bF⟩:=nm (yq V s);rw[bw.o,bF.o]at az a6 am aI;rw[bv.o]at aL bi az am aI
 have ct:Hd (m=true->V.n<1099511627776->b.length<=1000):=z0 (fun ba hn=>by
  have n0:=g.n0;have:=JZ (i:=V.i) (n:=V.n+1) (s:=s) ho (by unfold jY;rw[decide_eq_true_eq];omega) (bv.o.trans ba);rw[c6.o]at this
  omega)
 rw[c6.o]at aL az;rw[bD.o]at aL bi;have bt:j9 (w.alloc (.cells (yK V v0 v1 vh wh) 36)) w.heap.size V v0 v1 vh wh:=Xh w _;have aO:Below w.heap.size w (w.alloc (.cells (yK V v0 v1 vh wh) 36)):=Ba;rw[bw.o,bF.o,bD.o];rw[aY.o]at bt aO⊢;have bP:(w.alloc (.cells D 36)).heap.size=w.heap.size+1:=by simp
 have bG:=Xh (w.alloc (.cells D 36)) (.cells ae 40);have b8:Below (w.alloc (.cells D 36)).heap.size (w.alloc (.cells D 36)) ((w.alloc (.cells D 36)).alloc (.cells ae 40)):=Ba;have c9:((w.alloc (.cells D 36)).alloc (.cells ae 40)).heap.size=w.heap.size+2:=by simp
 have aj:=yo ((w.alloc (.cells D 36)).alloc (.cells ae 40));have bb:=Xh ((w.alloc (.cells D 36)).alloc (.cells ae 40)) (.cells xq 36);have b1:Below ((w.alloc (.cells D 36)).alloc (.cells ae 40)).heap.size ((w.alloc (.cells D 36)).alloc (.cells ae 40)) (((w.alloc (.cells D 36)).alloc (.cells ae 40)).alloc (.cells xq 36)):=Ba;have bL:=z0 ((bt.below b8).below b1);have bk:=z0 ((b1.block _ (Lb bG)).trans bG);have aq:=z0 ((aO.trans (b8.mono aO.size)).trans (b1.mono (Nat.le_trans aO.size b8.size)));rw[bP]at bk;rw[c9]at aj bb;have cl:=z0 bb;clear bn b9 bu c8 g ho c3 bt aO bG b8 bP c9 bb b1 bw bF bv;go_enter func32,ntmps32;go_upto_region 1 with(fail)
 clear aj;generalize (((w.alloc (.cells D 36)).alloc (.cells ae 40)).alloc (.cells xq 36))=J at *
 have ay:Hd (∀W,Below J.heap.size J W->xR (.pointer (some ⟨w.heap.size,0,none⟩)) W=.ok (.value (.agg D)) W/\zW (.pointer (some ⟨w.heap.size+1,0,none⟩)) W=.ok (.value (.agg ae)) W):=z0 (fun W a0=>⟨by
  have:=(bL.o.below a0).ld;rw[aY.o]at this;exact this,by
  have h2:=(a0.block _ (Lb bk.o)).trans bk.o;refine zj h2 ?_;rw[<-bD.o]
  exact zd ce.o⟩)
 have b7:Hd (∀W,Below J.heap.size J W->W.cell? ⟨w.heap.size,0,none⟩=some (.int .i64 V.i)/\W.cell? ⟨w.heap.size,3,none⟩=some (.int .i64 V.n)/\W.cell? ⟨w.heap.size,5,none⟩=some (.bool V.dead)):=z0 (fun W a0=>by
  obtain⟨h0,_,_,h3,_,cb,_,_⟩:=(bL.o.below a0).cells
  exact⟨h0,h3,cb⟩)
 have bc:Hd (∀W,Below J.heap.size J W->vd W D V):=z0 (fun W a0=>by
  obtain⟨h0,h1,h2⟩:=bO.o W (aq.o.trans (a0.mono aq.o.size))
  exact⟨v0,v1,vh,wh,aY.o.symm,h0,h1,h2,cc.o⟩)
 have ak:Hd (∀W C' V',Below J.heap.size J W->vd W C' V'->xr (.pointer (some ⟨w.heap.size+2,0,none⟩)) (.agg C') W=.ok .skip (setSe W (w.heap.size+2) C')/\(setSe W (w.heap.size+2) C').heap[w.heap.size+2]?=some (.cells C' 36 (0,0))/\vd (setSe W (w.heap.size+2) C') C' V'/\Below w.heap.size w (setSe W (w.heap.size+2) C')):=z0 (fun W C' V' a0 bj=>zcY a0 cl.o rfl (by omega) aq.o bj);have aS:=z0 (Below.refl J.heap.size J);obtain⟨cd,be⟩:∃q:Bool,V.dead=q:=⟨_,rfl⟩
 rw[be]at az a6 am aI b7;have bT:=z0 be;clear be;obtain⟨_,_,ch⟩:=b7.o J aS.o;cases cd with
 |true=>
  obtain⟨rfl,aE⟩:=a6.o rfl;obtain rfl:=aE.symm;have a1:=(ay.o J aS.o).1;obtain⟨aw,O,M,N⟩:=ak.o J _ _ aS.o (bc.o J aS.o);have a3:=z0 O;have K:=z0 M;have a2:=z0 N;clear O M N;go_wp2;try simp only[Exit.inBlock,Exit.then]
  refine Bp (zv rfl _ _ _ _ _ _ rfl rfl a3.o K.o.size) rfl ⟨_,rfl,K.o,a2.o⟩
 |false=>
  have bW:=z0 (az.o rfl);have bY:=z0 (am.o rfl);have c7:=z0 (aI.o rfl);clear az a6 am aI;have bH:=(ay.o J aS.o).2;go_wp2_with fail;refine(bi.o J).mono ?_;rintro e ai ⟨rfl,bZ⟩;have aa:=z0 bZ;clear bH bZ ch;cases m with
  |false=>
   obtain⟨rfl,aE⟩:=bY.o rfl;obtain rfl:=aE.symm;have a1:=(ay.o ai aa.o).1;obtain⟨aw,O,M,N⟩:=ak.o ai _ _ aa.o (bc.o ai aa.o);have a3:=z0 O;have K:=z0 M;have a2:=z0 N;clear O M N;go_wp2;try simp only[Exit.inBlock,Exit.then]
   refine Bp (zv rfl _ _ _ _ _ _ rfl rfl a3.o K.o.size) rfl ⟨_,rfl,K.o,a2.o⟩
  |true=>
   have c2:=z0 (bW.o rfl);have c5:=z0 (c7.o rfl);have bN:=z0 (aL.o rfl);have cq:=z0 (ct.o rfl);clear bW bY c7 aL;obtain⟨ci,av,_⟩:=b7.o ai aa.o;by_cases hn:V.n=1099511627776
   ·obtain⟨rfl,aE⟩:=c5.o hn;obtain rfl:=aE.symm;have a1:=(ay.o ai aa.o).1;have bX:(1099511627776:Int)<=V.n:=by omega
    clear hn;obtain⟨aw,O,M,N⟩:=ak.o ai _ _ aa.o (bc.o ai aa.o);have a3:=z0 O;have K:=z0 M;have a2:=z0 N;clear O M N;go_wp2;try simp only[Exit.inBlock,Exit.then]
    refine Bp (zv rfl _ _ _ _ _ _ rfl rfl a3.o K.o.size) rfl ⟨_,rfl,K.o,a2.o⟩
   ·obtain⟨rfl,rfl⟩:=c2.o hn;have aX:V.n<1099511627776:=by have:=af.o.n1;omega
    have ck:0<=V.n:=af.o.n0;have bQ:=z0 aX;have bK:=z0 (cq.o aX);have cj:=z0 (bN.o aX);have bX:¬(1099511627776:Int)<=V.n:=by omega
    have bH:=(ay.o ai aa.o).2;have bJ:IntKind.i64.wrap (V.n+1)=V.n+1:=by rw[IntKind.wrap_i64];omega
    clear hn c5 bN c2;go_wp2_with fail;refine(cj.o ai (aq.o.trans (aa.o.mono aq.o.size))).mono ?_;rintro e ax ⟨x,rfl,hx,c4⟩;have aR:=z0 (aa.o.trans (c4.mono aa.o.size));have bU:=z0 (fun W (h:Below ax.heap.size ax W)=>hx.below h);obtain⟨G,I,rfl⟩:=hx.shape;obtain⟨F,co⟩:=nm (b.length:Nat);rw[co.o]at bU⊢;clear bH c4 hx ci av;obtain⟨_,av,_⟩:=b7.o ax aR.o;have ca:(V.n+1).tmod 2=qr V:=by unfold qr;rw[Int.tmod_eq_emod_of_nonneg (by omega)]
    have bR:IntKind.i64.wrap (qr V)=qr V:=by unfold qr;rw[IntKind.wrap_i64];omega
    have a1:=(ay.o ax aR.o).1;have bM:=z0 (ZM V);obtain⟨p,aJ⟩:=nm (qr V);rw[aJ.o]at ca bR bM
    have bm:Hd (∀W,Calls prog 64 #[.agg D] W fun e w'=>e=.returned (.tuple #[.agg (yK (zc V) v0 v1 vh wh),.bool (yh V)])/\Below W.heap.size W w'):=z0 (fun W=>by
     have:=Qy V v0 v1 vh wh W af.o.left0 af.o.left1 bS.o;rw[aY.o]at this
     exact this)
    obtain⟨aK,b5⟩:=nm (yK (zc V) v0 v1 vh wh);have bV:Hd (aK.size=8/\aK.all (·.oneCell')=true):=z0 (by rw[<-b5.o];exact⟨rfl,bS.o _⟩);rw[b5.o]at bm;obtain⟨sb,aA⟩:=nm (yh V);rw[aA.o]at bm;clear bX aX;go_wp2_with fail;clear bJ ca bR av ck;refine(bm.o ax).mono ?_;rintro e ah ⟨rfl,aW⟩;have aj:=yo ah;have aN:=Va ah (Z:=xq) rfl bV.o.1 bV.o.2;have bE:Below ax.heap.size ax (ah.alloc (.cells aK 36)):=aW.alloc aW.size _;have bx:=z0 (aR.o.trans (bE.mono aR.o.size));have bB:=z0 (bU.o _ bE);have bf:=Xh ah (.cells aK 36);have cm:=z0 (show J.heap.size<=ah.heap.size from Nat.le_trans aR.o.size aW.size);rw[<-b5.o]at bf;have a5:Hd (j9 (ah.alloc (.cells (yK (zc V) v0 v1 vh wh) 36)) ah.heap.size (zc V) v0 v1 vh wh):=z0 bf;rw[b5.o]at a5;clear aW bE bf a1;go_upto_region 10 with(fail)
    clear aj aN;generalize (ah.alloc (.cells aK 36))=cg at *;generalize ah.heap.size=aT at *;have bC:Hd (∀W,Below J.heap.size J W->qW W v0 V.s0/\qW W v1 V.s1/\qW W vh V.torn):=z0 (fun W h=>bO.o W (aq.o.trans (h.mono aq.o.size)));have aZ:Hd (∀W i u,Below J.heap.size J W->Below J.heap.size J (W.setCell ⟨aT,i,none⟩ u)):=z0 (fun W i u h=>h.setCell cm.o u);have b6:Hd (∀W i u x l,W.heap[aT]?=some (.cells x 36 (0,0))->∀v,qW W v l->qW (W.setCell ⟨aT,i,none⟩ u) v l):=z0 (fun W i u x l h v cr=>cr.away (by simp[World.setCell]) (fun k _ aP=>Hs _ _ _ _ (q9 aP h (by decide))));cases sb with
    |false=>
     obtain⟨u1,a4⟩:=Xg (l:=b) aA.o;rw[u1,a4];have a6:=z0 (a5.o.set (i:=6) (u:=.slice G F I) (V':={ zc V with torn:=b }) (u0:=v0) (u1:=v1) (uh:=.slice G F I) (k:=wh) rfl);have am:=z0 (a6.o.set (i:=7) (u:=.int .i64 p) (V':={ zc V with torn:=b }) (u0:=v0) (u1:=v1) (uh:=.slice G F I) (k:=p) rfl);have ad:=z0 (aZ.o _ 7 (.int .i64 p) (aZ.o _ 6 (.slice G F I) bx.o))
     have a8:Hd (vd ((cg.setCell ⟨aT,6,none⟩ (.slice G F I)).setCell ⟨aT,7,none⟩ (.int .i64 p)) (yK { zc V with torn:=b } v0 v1 (.slice G F I) p) { zc V with torn:=b }):=z0 (by
      obtain⟨y0,y1,b4⟩:=bC.o _ ad.o;refine⟨_,_,_,_,rfl,?_,?_,b6.o _ _ _ _ _ a6.o _ (b6.o _ _ _ _ _ a5.o _ bB.o),fun _=>?_⟩
      ·show qW _ v0 (kY (zc V) 0);rw[vJ];exact y0
      ·show qW _ v1 (kY (zc V) 1);rw[vJ];exact y1
      ·rw[<-aJ.o]
       exact(Za V).symm)
     have cz:=a5.o.free 6;have cB:=a6.o.free 7;obtain⟨_,_,_,_,_,_,cx,_⟩:=a5.o.cells;obtain⟨_,_,_,_,_,_,_,cu⟩:=a6.o.cells;have a1:=am.o.ld;obtain⟨b0,ao⟩:=nm (yK { zc V with torn:=b } v0 v1 (.slice G F I) p);rw[ao.o]at a1 a8;obtain⟨aw,O,M,N⟩:=ak.o _ _ _ ad.o a8.o;have a3:=z0 O;have K:=z0 M;have a2:=z0 N;clear O M N;go_wp2;try simp only[Exit.inBlock,Exit.then]
     refine Bp (zv rfl _ _ _ _ _ _ rfl rfl a3.o K.o.size) rfl ⟨_,rfl,K.o,a2.o⟩
    |true=>
     have cy:Hd (qr V=p):=aJ;have cn:=bM.o;rcases cn with rfl|rfl
     ·have a6:=z0 (a5.o.set (i:=1) (u:=.slice G F I) (V':=zu (zc V) 0 b) (u0:=.slice G F I) (u1:=v1) (uh:=vh) (k:=wh) rfl);have ad:=z0 (aZ.o _ 1 (.slice G F I) bx.o);have br:=z0 (b6.o _ 1 (.slice G F I) _ _ a5.o _ bB.o);have aF:Hd (∀V',(yK V' (.slice G F I) (v1) vh wh).all (·.oneCell')=true):=z0 (fun V'=>by subst r0 r1 r2;exact VV ..);have aU:Hd (qr V=0):=aJ;have bq:=a5.o.free 1;obtain⟨_,bz,bh,_⟩:=a5.o.cells;obtain⟨b0,ao⟩:=nm (yK (zu (zc V) 0 b) (.slice G F I) (v1) vh wh);have a1:=a6.o.ld;have aC:=z0 (vZ (V:=zc V) (vI af.o) 0 (l:=b) bK.o)
      have ar:Hd (∀W,Calls prog 64 #[.agg b0] W fun e w'=>e=.returned (.tuple #[.agg (yK (zc (zu (zc V) 0 b)) (.slice G F I) (v1) vh wh),.bool (yh (zc V))])/\Below W.heap.size W w'):=z0 (fun W=>by
       have:=Qy (zu (zc V) 0 b) (.slice G F I) (v1) vh wh W aC.o.left0 aC.o.left1 aF.o;rw[ao.o]at this
       exact this)
      obtain⟨a9,ab⟩:=nm (yK (zc (zu (zc V) 0 b)) (.slice G F I) (v1) vh wh);have aG:Hd (a9.size=8/\a9.all (·.oneCell')=true):=z0 (by rw[<-ab.o];exact⟨rfl,aF.o _⟩);rw[ab.o]at ar;rw[ao.o]at a1;obtain⟨bl,au⟩:=nm (yh (zc V));rw[au.o]at ar;go_wp2_with fail;clear bq bz bh a1;refine(ar.o _).mono ?_;rintro e w5 ⟨rfl,ag⟩;have aj:=yo w5;have aN:=Va w5 (Z:=xq) rfl aG.o.1 aG.o.2;have al:=ag.alloc ag.size (.cells a9 36);have ap:=z0 (ad.o.trans (al.mono ad.o.size));have aQ:=z0 (br.o.below al);have an:=Xh w5 (.cells a9 36);have bI:=z0 (show J.heap.size<=w5.heap.size from Nat.le_trans ad.o.size ag.size);rw[<-ab.o]at an;have a7:Hd (j9 (w5.alloc (.cells (yK (zc (zu (zc V) 0 b)) (.slice G F I) (v1) vh wh) 36)) w5.heap.size (zc (zu (zc V) 0 b)) (.slice G F I) (v1) vh wh):=z0 an;rw[ab.o]at a7;clear ag al an;go_upto_region 16 with(fail)
      clear aj aN;generalize (w5.alloc (.cells a9 36))=aB at *;generalize w5.heap.size=aD at *;have bo:Hd (V.torn=[]):=z0 (af.o.dt bT.o)
      have aM:Hd (∀W n,Below J.heap.size J W->qW W (.slice G F I) b->vd W (yK { zc (zu (zc V) 0 b) with n:=n } (.slice G F I) (v1) vh wh) { zc (zu (zc V) 0 b) with n:=n }):=z0 (fun W n a0 hx=>by
       obtain⟨y0,y1,b4⟩:=bC.o _ a0;refine⟨_,_,_,_,rfl,?_,?_,?_,?_⟩
       ·show qW W _ (kY (zc (zu (zc V) 0 b)) 0);rw[vJ];exact hx
       ·show qW W _ (kY (zc (zu (zc V) 0 b)) 1);rw[vJ];show qW W v1 (kY (zc V) 1);rw[vJ];exact y1
       ·show qW W vh (zc (zu (zc V) 0 b)).torn;rw[vK];show qW W vh (zc V).torn;rw[vK];exact b4
       ·intro h;refine absurd ?_ h;show(zc (zu (zc V) 0 b)).torn=[];rw[vK];show(zc V).torn=[];rw[vK]
        exact bo.o)
      cases bl with
      |false=>
       obtain⟨u1,a4⟩:=Qq (l:=b) aA.o au.o;rw[aU.o]at a4;rw[u1,a4];have a1:=a7.o.ld;have a8:=z0 (aM.o _ (zc (zu (zc V) 0 b)).n ap.o aQ.o);have aV:Hd (vd aB (yK (zc (zu (zc V) 0 b)) (.slice G F I) (v1) vh wh) (zc (zu (zc V) 0 b))):=a8;rw[ab.o]at a1 aV;obtain⟨aw,O,M,N⟩:=ak.o _ _ _ ap.o aV.o;have a3:=z0 O;have K:=z0 M;have a2:=z0 N;clear O M N;go_wp2;try simp only[Exit.inBlock,Exit.then]
       refine Bp (zv rfl _ _ _ _ _ _ rfl rfl a3.o K.o.size) rfl ⟨_,rfl,K.o,a2.o⟩
      |true=>
       obtain⟨u1,a4⟩:=Qr (l:=b) aA.o au.o;rw[aU.o]at a4;rw[u1,a4];have bp:Hd ((zc (zu (zc V) 0 b)).n=V.n):=z0 (by rw[Zn];exact Zn V);have bd:=z0 (a7.o.set (i:=3) (u:=.int .i64 (V.n+1)) (V':={ zc (zu (zc V) 0 b) with n:=V.n+1 }) (u0:=.slice G F I) (u1:=v1) (uh:=vh) (k:=wh) rfl);have aH:=z0 (ap.o.setCell (p:=⟨aD,3,none⟩) bI.o (.int .i64 (V.n+1)));have bg:=z0 (aQ.o.away (w':=aB.setCell ⟨aD,3,none⟩ (.int .i64 (V.n+1))) (by simp[World.setCell]) (fun k _ aP=>Hs _ _ _ _ (q9 aP a7.o (by decide))));have cp:=a7.o.free 3;obtain⟨_,_,_,av,_⟩:=a7.o.cells;rw[bp.o]at av;have bJ:IntKind.i64.wrap (V.n+1)=V.n+1:=by rw[IntKind.wrap_i64];have:=bQ.o;have:=af.o.n0;omega
       have a1:=bd.o.ld;have a8:=z0 (aM.o _ (V.n+1) aH.o bg.o);obtain⟨cf,bA⟩:=nm (yK { zc (zu (zc V) 0 b) with n:=V.n+1 } (.slice G F I) (v1) vh wh);rw[bA.o]at a1 a8;obtain⟨aw,O,M,N⟩:=ak.o _ _ _ aH.o a8.o;have a3:=z0 O;have K:=z0 M;have a2:=z0 N;clear O M N;go_wp2;try simp only[Exit.inBlock,Exit.then]
       refine Bp (zv rfl _ _ _ _ _ _ rfl rfl a3.o K.o.size) rfl ⟨_,rfl,K.o,a2.o⟩
     ·have a6:=z0 (a5.o.set (i:=2) (u:=.slice G F I) (V':=zu (zc V) 1 b) (u0:=v0) (u1:=.slice G F I) (uh:=vh) (k:=wh) rfl);have ad:=z0 (aZ.o _ 2 (.slice G F I) bx.o);have br:=z0 (b6.o _ 2 (.slice G F I) _ _ a5.o _ bB.o);have aF:Hd (∀V',(yK V' (v0) (.slice G F I) vh wh).all (·.oneCell')=true):=z0 (fun V'=>by subst r0 r1 r2;exact VV ..);have aU:Hd (qr V=1):=aJ;have bq:=a5.o.free 2;obtain⟨_,bz,bh,_⟩:=a5.o.cells;obtain⟨b0,ao⟩:=nm (yK (zu (zc V) 1 b) (v0) (.slice G F I) vh wh);have a1:=a6.o.ld;have aC:=z0 (vZ (V:=zc V) (vI af.o) 1 (l:=b) bK.o)
      have ar:Hd (∀W,Calls prog 64 #[.agg b0] W fun e w'=>e=.returned (.tuple #[.agg (yK (zc (zu (zc V) 1 b)) (v0) (.slice G F I) vh wh),.bool (yh (zc V))])/\Below W.heap.size W w'):=z0 (fun W=>by
       have:=Qy (zu (zc V) 1 b) (v0) (.slice G F I) vh wh W aC.o.left0 aC.o.left1 aF.o;rw[ao.o]at this
       exact this)
      obtain⟨a9,ab⟩:=nm (yK (zc (zu (zc V) 1 b)) (v0) (.slice G F I) vh wh);have aG:Hd (a9.size=8/\a9.all (·.oneCell')=true):=z0 (by rw[<-ab.o];exact⟨rfl,aF.o _⟩);rw[ab.o]at ar;rw[ao.o]at a1;obtain⟨bl,au⟩:=nm (yh (zc V));rw[au.o]at ar;go_wp2_with fail;clear bq bz bh a1;refine(ar.o _).mono ?_;rintro e w5 ⟨rfl,ag⟩;have aj:=yo w5;have aN:=Va w5 (Z:=xq) rfl aG.o.1 aG.o.2;have al:=ag.alloc ag.size (.cells a9 36);have ap:=z0 (ad.o.trans (al.mono ad.o.size));have aQ:=z0 (br.o.below al);have an:=Xh w5 (.cells a9 36);have bI:=z0 (show J.heap.size<=w5.heap.size from Nat.le_trans ad.o.size ag.size);rw[<-ab.o]at an;have a7:Hd (j9 (w5.alloc (.cells (yK (zc (zu (zc V) 1 b)) (v0) (.slice G F I) vh wh) 36)) w5.heap.size (zc (zu (zc V) 1 b)) (v0) (.slice G F I) vh wh):=z0 an;rw[ab.o]at a7;clear ag al an;go_upto_region 16 with(fail)
      clear aj aN;generalize (w5.alloc (.cells a9 36))=aB at *;generalize w5.heap.size=aD at *;have bo:Hd (V.torn=[]):=z0 (af.o.dt bT.o)
      have aM:Hd (∀W n,Below J.heap.size J W->qW W (.slice G F I) b->vd W (yK { zc (zu (zc V) 1 b) with n:=n } (v0) (.slice G F I) vh wh) { zc (zu (zc V) 1 b) with n:=n }):=z0 (fun W n a0 hx=>by
       obtain⟨y0,y1,b4⟩:=bC.o _ a0;refine⟨_,_,_,_,rfl,?_,?_,?_,?_⟩
       ·show qW W _ (kY (zc (zu (zc V) 1 b)) 0);rw[vJ];show qW W v0 (kY (zc V) 0);rw[vJ];exact y0
       ·show qW W _ (kY (zc (zu (zc V) 1 b)) 1);rw[vJ];exact hx
       ·show qW W vh (zc (zu (zc V) 1 b)).torn;rw[vK];show qW W vh (zc V).torn;rw[vK];exact b4
       ·intro h;refine absurd ?_ h;show(zc (zu (zc V) 1 b)).torn=[];rw[vK];show(zc V).torn=[];rw[vK]
        exact bo.o)
      cases bl with
      |false=>
       obtain⟨u1,a4⟩:=Qq (l:=b) aA.o au.o;rw[aU.o]at a4;rw[u1,a4];have a1:=a7.o.ld;have a8:=z0 (aM.o _ (zc (zu (zc V) 1 b)).n ap.o aQ.o);have aV:Hd (vd aB (yK (zc (zu (zc V) 1 b)) (v0) (.slice G F I) vh wh) (zc (zu (zc V) 1 b))):=a8;rw[ab.o]at a1 aV;obtain⟨aw,O,M,N⟩:=ak.o _ _ _ ap.o aV.o;have a3:=z0 O;have K:=z0 M;have a2:=z0 N;clear O M N;go_wp2;try simp only[Exit.inBlock,Exit.then]
       refine Bp (zv rfl _ _ _ _ _ _ rfl rfl a3.o K.o.size) rfl ⟨_,rfl,K.o,a2.o⟩
      |true=>
       obtain⟨u1,a4⟩:=Qr (l:=b) aA.o au.o;rw[aU.o]at a4;rw[u1,a4];have bp:Hd ((zc (zu (zc V) 1 b)).n=V.n):=z0 (by rw[Zn];exact Zn V);have bd:=z0 (a7.o.set (i:=3) (u:=.int .i64 (V.n+1)) (V':={ zc (zu (zc V) 1 b) with n:=V.n+1 }) (u0:=v0) (u1:=.slice G F I) (uh:=vh) (k:=wh) rfl);have aH:=z0 (ap.o.setCell (p:=⟨aD,3,none⟩) bI.o (.int .i64 (V.n+1)));have bg:=z0 (aQ.o.away (w':=aB.setCell ⟨aD,3,none⟩ (.int .i64 (V.n+1))) (by simp[World.setCell]) (fun k _ aP=>Hs _ _ _ _ (q9 aP a7.o (by decide))));have cp:=a7.o.free 3;obtain⟨_,_,_,av,_⟩:=a7.o.cells;rw[bp.o]at av;have bJ:IntKind.i64.wrap (V.n+1)=V.n+1:=by rw[IntKind.wrap_i64];have:=bQ.o;have:=af.o.n0;omega
       have a1:=bd.o.ld;have a8:=z0 (aM.o _ (V.n+1) aH.o bg.o);obtain⟨cf,bA⟩:=nm (yK { zc (zu (zc V) 1 b) with n:=V.n+1 } (v0) (.slice G F I) vh wh);rw[bA.o]at a1 a8;obtain⟨aw,O,M,N⟩:=ak.o _ _ _ aH.o a8.o;have a3:=z0 O;have K:=z0 M;have a2:=z0 N;clear O M N;go_wp2;try simp only[Exit.inBlock,Exit.then]
       refine Bp (zv rfl _ _ _ _ _ _ rfl rfl a3.o K.o.size) rfl ⟨_,rfl,K.o,a2.o⟩
end
section
attribute [local go_sem ↓] zm zq zr zL
theorem JN (V:yV) (C:Array Value) (w:World) (bC:vd w C V) (g:V.Good) (b8:yB 0 w):
  Calls prog 31 #[.agg C] w fun e w'=>e=.returned (.tuple #[.agg (zp (jH V)),.int .i64 (vH V)])/\Below w.heap.size w w':=by
 obtain⟨v0,v1,vh,wh,rfl,b4,aZ,bG,_⟩:=bC;obtain⟨n0,aI⟩:∃x,Hd ((kQ V.i V.s0).1=x):=⟨_,z0 rfl⟩
 obtain⟨ai,aW⟩:∃x,Hd (zp (kQ V.i V.s0).2.1=x):=⟨_,z0 rfl⟩
 obtain⟨aj,aJ⟩:∃x,Hd ((kQ V.i V.s0).2.2=x):=⟨_,z0 rfl⟩
 have aw:Hd (ai.size=35/\ai.all (·.oneCell')=true):=z0 (by rw[<-aW.o];exact⟨zd (QM _ _),y7 _⟩)
 have bh:Hd (∀W,Below w.heap.size w W->Calls prog 61 #[.int .i64 V.i,v0] W fun e w'=>e=.returned (.tuple #[.int .i64 n0,.agg ai,.int .i64 aj])/\Below W.heap.size W w'):=z0 (fun W aa=>by
  have:=VU V.i v0 V.s0 W (b4.byt.below aa) (by have:=g.l0;omega) (b8.below aa);rw[aI.o,aW.o,aJ.o]at this
  exact this)
 obtain⟨n1,aU⟩:∃x,Hd ((kQ V.i V.s1).1=x):=⟨_,z0 rfl⟩
 obtain⟨a6,aQ⟩:∃x,Hd (zp (kQ V.i V.s1).2.1=x):=⟨_,z0 rfl⟩
 obtain⟨a7,aV⟩:∃x,Hd ((kQ V.i V.s1).2.2=x):=⟨_,z0 rfl⟩
 have a5:Hd (a6.size=35/\a6.all (·.oneCell')=true):=z0 (by rw[<-aQ.o];exact⟨zd (QM _ _),y7 _⟩)
 have aR:Hd (∀W,Below w.heap.size w W->Calls prog 61 #[.int .i64 V.i,v1] W fun e w'=>e=.returned (.tuple #[.int .i64 n1,.agg a6,.int .i64 a7])/\Below W.heap.size W w'):=z0 (fun W aa=>by
  have:=VU V.i v1 V.s1 W (aZ.byt.below aa) (by have:=g.l1;omega) (b8.below aa);rw[aU.o,aQ.o,aV.o]at this
  exact this)
 obtain⟨Z,au⟩:=nm (zp yj);have a2:Hd (Z.size=35):=z0 (by rw[<-au.o];exact zd qp);have aF:Hd (Z.all (·.oneCell')=true):=z0 (by rw[<-au.o];exact y7 _);have aT:Hd (∀W,qj W=.ok (.value (.pointer (some ⟨W.heap.size,0,none⟩))) (W.alloc (.cells Z 40))):=z0 (fun W=>by rw[<-au.o];exact zX W);have aD:Hd (∀W,jn W=.ok (.value (.agg Z)) W):=z0 (fun W=>by rw[<-au.o];exact yd W);obtain⟨S,ax⟩:=nm (zp (jH V));obtain⟨E,aB⟩:=nm (vH V)
 have bd:Hd (V.dead=true->S=Z/\E=6):=z0 (fun hd=>by
  rw[<-ax.o,<-aB.o,<-au.o];obtain⟨bw,bH⟩:=z1Z hd;rw[bw,bH]
  exact⟨rfl,rfl⟩)
 have bc:Hd (V.dead=false->V.n=0->S=Z/\E=0):=z0 (fun hd hn=>by
  rw[<-ax.o,<-aB.o,<-au.o];unfold jH vH;have ad:¬V.dead=true:=by rw[hd];decide
  rw[if_neg ad,if_neg ad,if_pos hn,if_pos hn]
  exact⟨rfl,rfl⟩)
 have b6:Hd (V.dead=false->¬V.n=0->aj=0->n0=V.n->S=ai/\E=0):=z0 (fun hd hn h1 h2=>by
  have aq:Zm V.i V.n V.s0=true:=by unfold Zm;rw[aJ.o,aI.o,decide_eq_true h1,decide_eq_true h2];rfl
  rw[<-ax.o,<-aB.o,<-aW.o];unfold jH vH;have ad:¬V.dead=true:=by rw[hd];decide
  rw[if_neg ad,if_neg ad,if_neg hn,if_neg hn,if_pos aq,if_pos aq]
  exact⟨rfl,rfl⟩)
 have ba:Hd (V.dead=false->¬V.n=0->¬(aj=0/\n0=V.n)->a7=0->n1=V.n->S=a6/\E=0):=z0 (fun hd hn h0 h1 h2=>by
  have aq:Zm V.i V.n V.s1=true:=by unfold Zm;rw[aV.o,aU.o,decide_eq_true h1,decide_eq_true h2];rfl
  have hg:¬Zm V.i V.n V.s0=true:=by unfold Zm;rw[aJ.o,aI.o];simpa using h0
  rw[<-ax.o,<-aB.o,<-aQ.o];unfold jH vH;have ad:¬V.dead=true:=by rw[hd];decide
  rw[if_neg ad,if_neg ad,if_neg hn,if_neg hn,if_neg hg,if_neg hg,if_pos aq,if_pos aq]
  exact⟨rfl,rfl⟩)
 have b9:Hd (V.dead=false->¬V.n=0->¬(aj=0/\n0=V.n)->¬(a7=0/\n1=V.n)->S=Z/\E=8):=z0 (fun hd hn h0 h1=>by
  have aq:¬Zm V.i V.n V.s1=true:=by unfold Zm;rw[aV.o,aU.o];simpa using h1
  have hg:¬Zm V.i V.n V.s0=true:=by unfold Zm;rw[aJ.o,aI.o];simpa using h0
  rw[<-ax.o,<-aB.o,<-au.o];unfold jH vH;have ad:¬V.dead=true:=by rw[hd];decide
  rw[if_neg ad,if_neg ad,if_neg hn,if_neg hn,if_neg hg,if_neg hg,if_neg aq,if_neg aq]
  exact⟨rfl,rfl⟩)
 rw[ax.o,aB.o];have aS:Below w.heap.size w (w.alloc (.cells (yK V v0 v1 vh wh) 36)):=Ba;have b5:j9 (w.alloc (.cells (yK V v0 v1 vh wh) 36)) w.heap.size V v0 v1 vh wh:=Xh w _;obtain⟨D,bz⟩:=nm (yK V v0 v1 vh wh);rw[bz.o]at aS b5⊢;have ae:=aT.o (w.alloc (.cells D 36));have bb:Below (w.alloc (.cells D 36)).heap.size (w.alloc (.cells D 36)) ((w.alloc (.cells D 36)).alloc (.cells Z 40)):=Ba;have b0:=Xh (w.alloc (.cells D 36)) (.cells Z 40);have bo:(w.alloc (.cells D 36)).heap.size=w.heap.size+1:=by simp
 have bL:=z0 (b5.below bb);have aY:=z0 (aS.trans (bb.mono aS.size));rw[bo]at b0 ae;have bj:=z0 b0;have bE:Hd ((∃A d,v0=.slice A V.s0.length d)/\(∃A d,v1=.slice A V.s1.length d)):=z0 ⟨b4.shape,aZ.shape⟩;clear b4 aZ bG g b8 aS b5 bb b0 bo aI aU aW aQ aJ aV ax aB au;go_enter func31,ntmps31;go_upto_region 1 with(fail)
 clear ae;generalize ((w.alloc (.cells D 36)).alloc (.cells Z 40))=w0 at *
 have am:Hd (∀W C,Below w0.heap.size w0 W->C.size=35->C.all (·.oneCell')=true->yF (.pointer (some ⟨w.heap.size+1,0,none⟩)) (.agg C) W=.ok .skip (setSe W (w.heap.size+1) C)/\(setSe W (w.heap.size+1) C).heap[w.heap.size+1]?=some (.cells C 40 (0,0))/\Below w.heap.size w (setSe W (w.heap.size+1) C)):=z0 (fun W C aa h1 h2=>
  have bl:=(aa.block _ (Lb bj.o)).trans bj.o
  ⟨yn bl a2.o h1 h2,qG bl,zR (aY.o.trans (aa.mono aY.o.size)) (Nat.le_succ _)⟩)
 have aC:Hd (∀W,Below w0.heap.size w0 W->Below w.heap.size w W):=z0 (fun W aa=>aY.o.trans (aa.mono aY.o.size));have aM:=z0 (Below.refl w0.heap.size w0)
 have G:Hd (∀W,Below w0.heap.size w0 W->W.cell? ⟨w.heap.size,0,none⟩=some (.int .i64 V.i)/\W.cell? ⟨w.heap.size,1,none⟩=some v0/\W.cell? ⟨w.heap.size,2,none⟩=some v1/\W.cell? ⟨w.heap.size,3,none⟩=some (.int .i64 V.n)/\W.cell? ⟨w.heap.size,5,none⟩=some (.bool V.dead)):=z0 (fun W aa=>by
  obtain⟨h0,h1,h2,h3,_,bt,_,_⟩:=(bL.o.below aa).cells
  exact⟨h0,h1,h2,h3,bt⟩)
 obtain⟨bv,be⟩:∃q:Bool,V.dead=q:=⟨_,rfl⟩
 rw[be]at bd bc b6 ba b9 G;clear be;obtain⟨⟨A0,bK,rfl⟩,A1,bq,rfl⟩:=bE.o;generalize V.s0.length=bF at *;generalize V.s1.length=bk at *;obtain⟨_,_,_,aE,bA⟩:=G.o w0 aM.o;cases bv with
 |true=>
  obtain⟨rfl,rfl⟩:=bd.o rfl;have aN:=aD.o;obtain⟨av,O,N⟩:=am.o w0 _ aM.o a2.o aF.o;have a4:=z0 O;have M:=z0 N;clear O N;go_wp2;try simp only[Exit.inBlock,Exit.then]
  refine Bp (qk rfl _ _ _ _ _ _ rfl rfl a4.o a2.o) rfl ⟨rfl,M.o⟩
 |false=>
  have bi:=z0 (bc.o rfl);have bp:=z0 (b6.o rfl);have bn:=z0 (ba.o rfl);have bm:=z0 (b9.o rfl);clear bd bc b6 ba b9;by_cases hn:V.n=0
  ·obtain⟨rfl,rfl⟩:=bi.o hn;have aN:=aD.o;obtain⟨av,O,N⟩:=am.o w0 _ aM.o a2.o aF.o;have a4:=z0 O;have M:=z0 N;clear O N;go_wp2;try simp only[Exit.inBlock,Exit.then]
   refine Bp (qk rfl _ _ _ _ _ _ rfl rfl a4.o a2.o) rfl ⟨rfl,M.o⟩
  have bJ:=z0 (bp.o hn);have bg:=z0 (bn.o hn);have aX:=z0 (bm.o hn);clear bi bp bn bm;go_wp2_with fail;clear hn aE bA;generalize bI:V.n=n at *;clear bI;refine wp_loop_rounds 3 ?_;rw[rounds_succ];go_upto_region 8 with(fail)
  go_cut [5,6,7] from 8 (fun aH aP aL an=>∃ap,aH=.int .i64 n0/\aP=.pointer (some ⟨ap,0,none⟩)/\aL=.int .i64 aj/\an.heap[ap]?=some (.cells ai 40 (0,0))/\Below w0.heap.size w0 an)
  case first=>
   have K:=aM.o.drew;have ae:=aT.o;refine Rh (S:=fun W=>W.cell? ⟨w.heap.size,0,none⟩=some (.int .i64 V.i)/\W.cell? ⟨w.heap.size,1,none⟩=some (.slice A0 bF bK)) (by kernel_rfl) ⟨(G.o _ K).1,(G.o _ K).2.1⟩ (fun a0=>?_);refine' z5 0 (h:=vX 1 (h:=z5 2 (h:=z5 3 (h:=z5 4 (h:=vX 5 (h:=?_))))));refine Jk (i:=6) (j:=11) rfl rfl (by kernel_rfl) (by rfl) (by rfl) (fun I F=>?_) (fun I F=>?_)
   ·go_simp;refine(bh.o _ (aC.o _ K)).mono ?_;rintro e x0 ⟨rfl,ak⟩;have ab:=K.trans (ak.mono K.size);refine F.out _ _ ⟨(G.o _ ab).1,(G.o _ ab).2.1⟩ (fun a0=>?_);clear F I;try simp only[zx]
    refine' z5 7 (h:=z5 8 (h:=z5 9 (h:=z5 10 (h:=?_))));have J:=ab.alloc ab.size (.cells Z 40);have a9:=ab.alloc ab.size (.cells ai 40);have b7:=kF x0 a2.o aw.o.1 aw.o.2;refine qc 11 (h:=fun I F=>?_);go_simp;refine F.out _ _ (⟨(G.o _ J).1,(G.o _ J).2.1⟩) (fun a0=>?_);clear F I;try simp only[zx]
    refine' z5 12 (h:=?_);refine qc 13 (h:=fun I F=>?_);go_simp;refine F.out _ _ (⟨(G.o _ a9).1,(G.o _ a9).2.1⟩) (fun a0=>?_);clear F I;try simp only[zx]
    refine' z5 14 (h:=?_);refine wpAnyH_done (by kernel_rfl) ?_ _;clear a0;have af:=z0 (Xh x0 (.cells ai 40));have M:=z0 a9;clear J a9 b7 ae K ab ak;go_wp2;go_meet
    case rel=>exact⟨_,rfl,rfl,rfl,af.o,M.o⟩
   ·go_simp;have J:=K.alloc K.size (.cells Z 40);have ag:=Xh w0.drew (.cells Z 40);refine F.out _ _ ⟨(G.o _ J).1,(G.o _ J).2.1⟩ (fun a0=>?_);clear F I;try simp only[zx]
    refine qc 6 (h:=fun I F=>?_);go_simp;refine(bh.o _ (aC.o _ J)).mono ?_;rintro e x0 ⟨rfl,ak⟩;have ab:=J.trans (ak.mono J.size);refine F.out _ _ (⟨(G.o _ ab).1,(G.o _ ab).2.1⟩) (fun a0=>?_);clear F I;try simp only[zx]
    refine' z5 7 (h:=z5 8 (h:=z5 9 (h:=z5 10 (h:=?_))));have ah:x0.heap[w0.heap.size]?=some (.cells Z 40 (0,0)):=(ak.block _ (Lb ag)).trans ag;have b7:=yn (C:=ai) ah a2.o aw.o.1 aw.o.2;have a8:=zR (C:=ai) ab (Nat.le_trans aM.o.size (Nat.le_refl w0.heap.size));have ao:=qG (C:=ai) ah;refine' z5 12 (h:=?_);refine qc 13 (h:=fun I F=>?_);go_simp;refine F.out _ _ (⟨(G.o _ a8).1,(G.o _ a8).2.1⟩) (fun a0=>?_);clear F I;try simp only[zx]
    refine' z5 14 (h:=?_);refine wpAnyH_done (by kernel_rfl) ?_ _;clear a0;have af:=z0 ao;have M:=z0 a8;clear J ag ah a8 ao b7 ae K ab ak;go_wp2;go_meet
    case rel=>exact⟨_,rfl,rfl,rfl,af.o,M.o⟩
  case rest=>
   obtain⟨bM,rfl,rfl,rfl,bf,ak⟩:=hcut;have bu:=z0 bf;have ar:=z0 ak;clear bf ak;generalize wc=y0 at *;obtain⟨_,_,_,aE,_⟩:=G.o y0 ar.o;by_cases h1:aj=0
   ·have aK:(aj == 0)=true:=by simp[h1]
    by_cases h2:n0=n
    ·have aO:(n0 == n)=true:=by simp[h2]
     obtain⟨rfl,rfl⟩:=bJ.o  h1 h2;have br:=zj bu.o aw.o.1;clear h1 h2;obtain⟨av,O,N⟩:=am.o y0 _ ar.o aw.o.1 aw.o.2;have a4:=z0 O;have M:=z0 N;clear O N;go_wp2;try simp only[Exit.inBlock,Exit.then]
     refine Bp (qk rfl _ _ _ _ _ _ rfl rfl a4.o aw.o.1) rfl ⟨rfl,M.o⟩
    ·have aA:Hd (¬(aj=0/\n0=n)):=z0 (fun h=>h2 h.2);have aO:(n0 == n)=false:=by simp[h2]
     clear h1;go_wp2_with fail;rw[rounds_succ];clear aE;obtain⟨bB,_,bx,_,_⟩:=G.o y0 ar.o;go_upto_region 8 with(fail)
     go_cut [5,6,7] from 8 (fun aH aP aL an=>∃ap,aH=.int .i64 n1/\aP=.pointer (some ⟨ap,0,none⟩)/\aL=.int .i64 a7/\an.heap[ap]?=some (.cells a6 40 (0,0))/\Below w0.heap.size w0 an)
     case first=>
      have K:=ar.o.drew;have ae:=aT.o;refine Rh (S:=fun W=>W.cell? ⟨w.heap.size,0,none⟩=some (.int .i64 V.i)/\W.cell? ⟨w.heap.size,2,none⟩=some (.slice A1 bk bq)) (by kernel_rfl) ⟨(G.o _ K).1,(G.o _ K).2.2.1⟩ (fun a0=>?_);refine' z5 0 (h:=vX 1 (h:=z5 2 (h:=z5 3 (h:=z5 4 (h:=vX 5 (h:=?_))))));refine Jk (i:=6) (j:=11) rfl rfl (by kernel_rfl) (by rfl) (by rfl) (fun I F=>?_) (fun I F=>?_)
      ·go_simp;refine(aR.o _ (aC.o _ K)).mono ?_;rintro e x1 ⟨rfl,a3⟩;have a1:=K.trans (a3.mono K.size);refine F.out _ _ ⟨(G.o _ a1).1,(G.o _ a1).2.2.1⟩ (fun a0=>?_);clear F I;try simp only[zx]
       refine' z5 7 (h:=z5 8 (h:=z5 9 (h:=z5 10 (h:=?_))));have J:=a1.alloc a1.size (.cells Z 40);have a9:=a1.alloc a1.size (.cells a6 40);have ay:=kF x1 a2.o a5.o.1 a5.o.2;refine qc 11 (h:=fun I F=>?_);go_simp;refine F.out _ _ (⟨(G.o _ J).1,(G.o _ J).2.2.1⟩) (fun a0=>?_);clear F I;try simp only[zx]
       refine' z5 12 (h:=?_);refine qc 13 (h:=fun I F=>?_);go_simp;refine F.out _ _ (⟨(G.o _ a9).1,(G.o _ a9).2.2.1⟩) (fun a0=>?_);clear F I;try simp only[zx]
       refine' z5 14 (h:=?_);refine wpAnyH_done (by kernel_rfl) ?_ _;clear a0;have af:=z0 (Xh x1 (.cells a6 40));have M:=z0 a9;clear J a9 ay ae K a1 a3;go_wp2;go_meet
       case rel=>exact⟨_,rfl,rfl,rfl,af.o,M.o⟩
      ·go_simp;have J:=K.alloc K.size (.cells Z 40);have ag:=Xh y0.drew (.cells Z 40);refine F.out _ _ ⟨(G.o _ J).1,(G.o _ J).2.2.1⟩ (fun a0=>?_);clear F I;try simp only[zx]
       refine qc 6 (h:=fun I F=>?_);go_simp;refine(aR.o _ (aC.o _ J)).mono ?_;rintro e x1 ⟨rfl,a3⟩;have a1:=J.trans (a3.mono J.size);refine F.out _ _ (⟨(G.o _ a1).1,(G.o _ a1).2.2.1⟩) (fun a0=>?_);clear F I;try simp only[zx]
       refine' z5 7 (h:=z5 8 (h:=z5 9 (h:=z5 10 (h:=?_))));have ah:x1.heap[y0.heap.size]?=some (.cells Z 40 (0,0)):=(a3.block _ (Lb ag)).trans ag;have ay:=yn (C:=a6) ah a2.o a5.o.1 a5.o.2;have a8:=zR (C:=a6) a1 (Nat.le_trans ar.o.size (Nat.le_refl y0.heap.size));have ao:=qG (C:=a6) ah;refine' z5 12 (h:=?_);refine qc 13 (h:=fun I F=>?_);go_simp;refine F.out _ _ (⟨(G.o _ a8).1,(G.o _ a8).2.2.1⟩) (fun a0=>?_);clear F I;try simp only[zx]
       refine' z5 14 (h:=?_);refine wpAnyH_done (by kernel_rfl) ?_ _;clear a0;have af:=z0 ao;have M:=z0 a8;clear J ag ah a8 ao ay ae K a1 a3;go_wp2;go_meet
       case rel=>exact⟨_,rfl,rfl,rfl,af.o,M.o⟩
     case rest=>
      obtain⟨bD,rfl,rfl,rfl,aG,a3⟩:=hcut;have b1:=z0 aG;have al:=z0 a3;clear aG a3;generalize wc=y1 at *;obtain⟨_,_,_,aE,_⟩:=G.o y1 al.o;by_cases h1:a7=0
      ·have aK:(a7 == 0)=true:=by simp[h1]
       by_cases h2:n1=n
       ·have aO:(n1 == n)=true:=by simp[h2]
        obtain⟨rfl,rfl⟩:=bg.o aA.o h1 h2;have br:=zj b1.o a5.o.1;clear h1 h2;obtain⟨av,O,N⟩:=am.o y1 _ al.o a5.o.1 a5.o.2;have a4:=z0 O;have M:=z0 N;clear O N;go_wp2;try simp only[Exit.inBlock,Exit.then]
        refine Bp (qk rfl _ _ _ _ _ _ rfl rfl a4.o a5.o.1) rfl ⟨rfl,M.o⟩
       ·have az:Hd (¬(a7=0/\n1=n)):=z0 (fun h=>h2 h.2);have aO:(n1 == n)=false:=by simp[h2]
        obtain⟨rfl,rfl⟩:=aX.o aA.o az.o;have aN:=aD.o;clear h1;obtain⟨av,O,N⟩:=am.o y1 _ al.o a2.o aF.o;have a4:=z0 O;have M:=z0 N;clear O N;go_wp2_with fail;rw[rounds_succ];go_wp2;try simp only[Exit.inBlock,Exit.then]
        refine Bp (qk rfl _ _ _ _ _ _ rfl rfl a4.o a2.o) rfl ⟨rfl,M.o⟩
      ·have az:Hd (¬(a7=0/\n1=n)):=z0 (fun h=>h1 h.1);have aK:(a7 == 0)=false:=by simp[h1]
       obtain⟨rfl,rfl⟩:=aX.o aA.o az.o;have aN:=aD.o;clear h1;obtain⟨av,O,N⟩:=am.o y1 _ al.o a2.o aF.o;have a4:=z0 O;have M:=z0 N;clear O N;go_wp2_with fail;rw[rounds_succ];go_wp2;try simp only[Exit.inBlock,Exit.then]
       refine Bp (qk rfl _ _ _ _ _ _ rfl rfl a4.o a2.o) rfl ⟨rfl,M.o⟩
   ·have aA:Hd (¬(aj=0/\n0=n)):=z0 (fun h=>h1 h.1);have aK:(aj == 0)=false:=by simp[h1]
    clear h1;go_wp2_with fail;rw[rounds_succ];clear aE;obtain⟨bB,_,bx,_,_⟩:=G.o y0 ar.o;go_upto_region 8 with(fail)
    go_cut [5,6,7] from 8 (fun aH aP aL an=>∃ap,aH=.int .i64 n1/\aP=.pointer (some ⟨ap,0,none⟩)/\aL=.int .i64 a7/\an.heap[ap]?=some (.cells a6 40 (0,0))/\Below w0.heap.size w0 an)
    case first=>
     have K:=ar.o.drew;have ae:=aT.o;refine Rh (S:=fun W=>W.cell? ⟨w.heap.size,0,none⟩=some (.int .i64 V.i)/\W.cell? ⟨w.heap.size,2,none⟩=some (.slice A1 bk bq)) (by kernel_rfl) ⟨(G.o _ K).1,(G.o _ K).2.2.1⟩ (fun a0=>?_);refine' z5 0 (h:=vX 1 (h:=z5 2 (h:=z5 3 (h:=z5 4 (h:=vX 5 (h:=?_))))));refine Jk (i:=6) (j:=11) rfl rfl (by kernel_rfl) (by rfl) (by rfl) (fun I F=>?_) (fun I F=>?_)
     ·go_simp;refine(aR.o _ (aC.o _ K)).mono ?_;rintro e x1 ⟨rfl,a3⟩;have a1:=K.trans (a3.mono K.size);refine F.out _ _ ⟨(G.o _ a1).1,(G.o _ a1).2.2.1⟩ (fun a0=>?_);clear F I;try simp only[zx]
      refine' z5 7 (h:=z5 8 (h:=z5 9 (h:=z5 10 (h:=?_))));have J:=a1.alloc a1.size (.cells Z 40);have a9:=a1.alloc a1.size (.cells a6 40);have ay:=kF x1 a2.o a5.o.1 a5.o.2;refine qc 11 (h:=fun I F=>?_);go_simp;refine F.out _ _ (⟨(G.o _ J).1,(G.o _ J).2.2.1⟩) (fun a0=>?_);clear F I;try simp only[zx]
      refine' z5 12 (h:=?_);refine qc 13 (h:=fun I F=>?_);go_simp;refine F.out _ _ (⟨(G.o _ a9).1,(G.o _ a9).2.2.1⟩) (fun a0=>?_);clear F I;try simp only[zx]
      refine' z5 14 (h:=?_);refine wpAnyH_done (by kernel_rfl) ?_ _;clear a0;have af:=z0 (Xh x1 (.cells a6 40));have M:=z0 a9;clear J a9 ay ae K a1 a3;go_wp2;go_meet
      case rel=>exact⟨_,rfl,rfl,rfl,af.o,M.o⟩
     ·go_simp;have J:=K.alloc K.size (.cells Z 40);have ag:=Xh y0.drew (.cells Z 40);refine F.out _ _ ⟨(G.o _ J).1,(G.o _ J).2.2.1⟩ (fun a0=>?_);clear F I;try simp only[zx]
      refine qc 6 (h:=fun I F=>?_);go_simp;refine(aR.o _ (aC.o _ J)).mono ?_;rintro e x1 ⟨rfl,a3⟩;have a1:=J.trans (a3.mono J.size);refine F.out _ _ (⟨(G.o _ a1).1,(G.o _ a1).2.2.1⟩) (fun a0=>?_);clear F I;try simp only[zx]
      refine' z5 7 (h:=z5 8 (h:=z5 9 (h:=z5 10 (h:=?_))));have ah:x1.heap[y0.heap.size]?=some (.cells Z 40 (0,0)):=(a3.block _ (Lb ag)).trans ag;have ay:=yn (C:=a6) ah a2.o a5.o.1 a5.o.2;have a8:=zR (C:=a6) a1 (Nat.le_trans ar.o.size (Nat.le_refl y0.heap.size));have ao:=qG (C:=a6) ah;refine' z5 12 (h:=?_);refine qc 13 (h:=fun I F=>?_);go_simp;refine F.out _ _ (⟨(G.o _ a8).1,(G.o _ a8).2.2.1⟩) (fun a0=>?_);clear F I;try simp only[zx]
      refine' z5 14 (h:=?_);refine wpAnyH_done (by kernel_rfl) ?_ _;clear a0;have af:=z0 ao;have M:=z0 a8;clear J ag ah a8 ao ay ae K a1 a3;go_wp2;go_meet
      case rel=>exact⟨_,rfl,rfl,rfl,af.o,M.o⟩
    case rest=>
     obtain⟨bD,rfl,rfl,rfl,aG,a3⟩:=hcut;have b1:=z0 aG;have al:=z0 a3;clear aG a3;generalize wc=y1 at *;obtain⟨_,_,_,aE,_⟩:=G.o y1 al.o;by_cases h1:a7=0
     ·have aK:(a7 == 0)=true:=by simp[h1]
      by_cases h2:n1=n
      ·have aO:(n1 == n)=true:=by simp[h2]
       obtain⟨rfl,rfl⟩:=bg.o aA.o h1 h2;have br:=zj b1.o a5.o.1;clear h1 h2;obtain⟨av,O,N⟩:=am.o y1 _ al.o a5.o.1 a5.o.2;have a4:=z0 O;have M:=z0 N;clear O N;go_wp2;try simp only[Exit.inBlock,Exit.then]
       refine Bp (qk rfl _ _ _ _ _ _ rfl rfl a4.o a5.o.1) rfl ⟨rfl,M.o⟩
      ·have az:Hd (¬(a7=0/\n1=n)):=z0 (fun h=>h2 h.2);have aO:(n1 == n)=false:=by simp[h2]
       obtain⟨rfl,rfl⟩:=aX.o aA.o az.o;have aN:=aD.o;clear h1;obtain⟨av,O,N⟩:=am.o y1 _ al.o a2.o aF.o;have a4:=z0 O;have M:=z0 N;clear O N;go_wp2_with fail;rw[rounds_succ];go_wp2;try simp only[Exit.inBlock,Exit.then]
       refine Bp (qk rfl _ _ _ _ _ _ rfl rfl a4.o a2.o) rfl ⟨rfl,M.o⟩
     ·have az:Hd (¬(a7=0/\n1=n)):=z0 (fun h=>h1 h.1);have aK:(a7 == 0)=false:=by simp[h1]
      obtain⟨rfl,rfl⟩:=aX.o aA.o az.o;have aN:=aD.o;clear h1;obtain⟨av,O,N⟩:=am.o y1 _ al.o a2.o aF.o;have a4:=z0 O;have M:=z0 N;clear O N;go_wp2_with fail;rw[rounds_succ];go_wp2;try simp only[Exit.inBlock,Exit.then]
      refine Bp (qk rfl _ _ _ _ _ _ rfl rfl a4.o a2.o) rfl ⟨rfl,M.o⟩
end
section
attribute [local go_sem ↓] qL qv qw
def jl (t own:List UInt8) (i:Nat):List UInt8:=t.take i ++ own.drop i
theorem Xk (t own:List UInt8):jl t own 0=own:=rfl
theorem z0S {t own:List UInt8}{i:Nat} (h:i<=t.length):(jl t own i).length=max i own.length:=by
 unfold jl;rw[List.length_append,List.length_take,List.length_drop];omega
theorem z0T {t own:List UInt8}{i:Nat} (h:i<t.length) (h2:i<own.length):(jl t own i).set i t[i]=jl t own (i+1):=by
 unfold jl;apply List.ext_getElem?;intro j;rw[List.getElem?_set];have F:(t.take i).length=i:=by rw[List.length_take];omega
 have J:(t.take (i+1)).length=i+1:=by rw[List.length_take];omega
 have G:(t.take i ++ own.drop i).length=max i own.length:=by rw[List.length_append,F,List.length_drop];omega
 by_cases e:i=j
 ·subst e;rw[if_pos rfl,G,if_pos (by omega),List.getElem?_append_left (by omega),List.getElem?_take_of_lt (by omega),List.getElem?_eq_getElem h]
 ·rw[if_neg e];by_cases I:j<i
  ·rw[List.getElem?_append_left (by omega),List.getElem?_append_left (by omega),List.getElem?_take_of_lt I,List.getElem?_take_of_lt (by omega)]
  ·rw[List.getElem?_append_right (by omega),List.getElem?_append_right (by omega),F,J,List.getElem?_drop,List.getElem?_drop]
   congr 1
   omega
theorem z0U {t own:List UInt8}{i:Nat} (h:i<t.length) (h2:own.length<=i):jl t own i ++ [t[i]]=jl t own (i+1):=by
 unfold jl;rw[List.drop_of_length_le h2,List.drop_of_length_le (by omega),List.append_nil,List.append_nil,List.take_append_getElem h]
theorem Yx {t own:List UInt8}{i:Nat}{m:Int} (h:i<=t.length) (h2:i=min m.toNat t.length):jl t own i=qm t own m:=by
 unfold jl qm;have G:t.take i=t.take m.toNat:=by
  by_cases F:m.toNat<=t.length
  ·rw[h2,Nat.min_eq_left F]
  ·rw[h2,Nat.min_eq_right (by omega),List.take_length,List.take_of_length_le (by omega)]
 rw[<-G]
 congr 1
 have:(t.take i).length=i:=by rw[List.length_take];omega
 rw[this]
theorem z7i {B:Nat}{w:World}{g n c:Nat}{l:List UInt8} (h:ql B w (.slice (some ⟨g,0,none⟩) n c) l) (hn:n=l.length) {i:Nat} (x:UInt8):
  ql B (w.setCell ⟨g,i,none⟩ (z3 x)) (.slice (some ⟨g,0,none⟩) n c) (l.set i x):=by
 subst hn;have:=(World.ownsRow.stored h i (z3 x)).1;have e:(z4 l).set i (z3 x)=z4 (l.set i x):=by unfold z4;rw[List.map_set]
 rw[e]at this;unfold ql;rw[List.length_set];exact this
def z52 (V:yV) (w:World) (e:Ending) (w':World):Prop:=∃C,e=.returned (.agg C)/\vd w' C V/\Below w.heap.size w w'
theorem z6A {V:yV} (h:V.torn=[]) (m:Int):YZ V m={ V with torn:=[],dead:=false,left:=-1 }:=by
 unfold YZ ZN;rw[if_pos h,<-h]
theorem Yy {V:yV} (h:¬V.torn=[]) (m:Int):YZ V m={ zu V (qr V) (qm V.torn (kY V (qr V)) m) with torn:=[],dead:=false,left:=-1 }:=by
 unfold YZ ZN;rw[if_neg h]
theorem XK {i L:Nat} (h:i<L) (_:i<=L):L - (intOf (Value.int IntKind.i64 ((i:Int)+1))).toNat<L - (intOf (Value.int IntKind.i64 (i:Int))).toNat:=by
 simp only[intOf];omega
theorem z0V (V:yV) (C:Array Value) (m:Int) (w:World) (c4:vd w C V) (g:V.Good):Calls prog 44 #[.agg C,.int .i64 m] w (z52 (YZ V m) w):=by
 obtain⟨v0,v1,vh,wh,rfl,bA,bp,bJ,bX⟩:=c4;have aI:Hd (∀W,Below w.heap.size w W->qW W v0 V.s0/\qW W v1 V.s1/\qW W vh V.torn):=z0 (fun W b9=>⟨bA.below b9,bp.below b9,bJ.below b9⟩);have bZ:=z0 bX;have b8:=z0 g;have bI:j9 (w.alloc (.cells (yK V v0 v1 vh wh) 36)) w.heap.size V v0 v1 vh wh:=Xh w _;have bm:Below w.heap.size w (w.alloc (.cells (yK V v0 v1 vh wh) 36)):=Ba;obtain⟨D,bU⟩:=nm (yK V v0 v1 vh wh);rw[bU.o]at bI bm⊢;have bS:=yo (w.alloc (.cells D 36));have bF:Below (w.alloc (.cells D 36)).heap.size (w.alloc (.cells D 36)) ((w.alloc (.cells D 36)).alloc (.cells xq 36)):=Ba;have M:=z0 (bI.below bF);have a8:=z0 (bm.trans (bF.mono bm.size));have bO:=Xh (w.alloc (.cells D 36)) (.cells xq 36);have bW:(w.alloc (.cells D 36)).heap.size=w.heap.size+1:=by simp
 rw[bW]at bO bS;have aw:=z0 bO;have aJ:=z0 (aI.o _ a8.o);obtain⟨cg,bn,r2⟩:=bJ.shape;subst r2;obtain⟨L,al⟩:=nm (V.torn.length:Nat);have cb:Hd ((∃A d,v0=.slice A V.s0.length d)/\(∃A d,v1=.slice A V.s1.length d)):=z0 ⟨bA.shape,bp.shape⟩;rw[al.o]at aI M aJ bU;clear bA bp bJ bX g bI bm bF bO bW;go_enter func44,ntmps44;go_upto_region 1 with(fail)
 clear bS;generalize ((w.alloc (.cells D 36)).alloc (.cells xq 36))=J at *;by_cases aM:V.torn=[]
 ·have bq:L=0:=by rw[<-al.o,aM];rfl
  subst bq;obtain⟨_,_,_,_,_,_,ae,_⟩:=M.o.cells;go_upto_region 10 with(fail)
  clear ae;have ar:=aw;have a0:=z0 (M.o.set (i:=6) (u:=.slice none 0 0) (V':={ V with torn:=[] }) (u0:=v0) (u1:=v1) (uh:=.slice none 0 0) (k:=wh) rfl);have O:=z0 (a0.o.set (i:=5) (u:=.bool false) (V':={ V with torn:=[],dead:=false }) (u0:=v0) (u1:=v1) (uh:=.slice none 0 0) (k:=wh) rfl);have au:=z0 (O.o.set (i:=4) (u:=.int .i64 (-1)) (V':={ V with torn:=[],dead:=false,left:=-1 }) (u0:=v0) (u1:=v1) (uh:=.slice none 0 0) (k:=wh) rfl);have aC:Hd (Below w.heap.size w (((J.setCell ⟨w.heap.size,6,none⟩ (.slice none 0 0)).setCell ⟨w.heap.size,5,none⟩ (.bool false)).setCell ⟨w.heap.size,4,none⟩ (.int .i64 (-1)))):=z0 (((a8.o.setCell (p:=⟨w.heap.size,6,none⟩) (Nat.le_refl _) _).setCell (p:=⟨w.heap.size,5,none⟩) (Nat.le_refl _) _).setCell (p:=⟨w.heap.size,4,none⟩) (Nat.le_refl _) _)
  have ag:Hd ((((J.setCell ⟨w.heap.size,6,none⟩ (.slice none 0 0)).setCell ⟨w.heap.size,5,none⟩ (.bool false)).setCell ⟨w.heap.size,4,none⟩ (.int .i64 (-1))).heap[w.heap.size+1]?=some (.cells xq 36 (0,0))):=z0 (by
   rw[Hs _ _ _ _ (by show w.heap.size+1≠w.heap.size;omega),Hs _ _ _ _ (by show w.heap.size+1≠w.heap.size;omega),Hs _ _ _ _ (by show w.heap.size+1≠w.heap.size;omega)]
   exact ar.o)
  have a6:Hd (∀W i u x v l,W.heap[w.heap.size]?=some (.cells x 36 (0,0))->qW W v l->qW (W.setCell ⟨w.heap.size,i,none⟩ u) v l):=z0 (fun W i u x v l h aa=>aa.away (by simp[World.setCell]) (fun k _ a4=>Hs _ _ _ _ (q9 a4 h (by decide))));have ah:Hd (∀v l,qW J v l->qW (((J.setCell ⟨w.heap.size,6,none⟩ (.slice none 0 0)).setCell ⟨w.heap.size,5,none⟩ (.bool false)).setCell ⟨w.heap.size,4,none⟩ (.int .i64 (-1))) v l):=z0 (fun v l h=>a6.o _ _ _ _ _ _ O.o (a6.o _ _ _ _ _ _ a0.o (a6.o _ _ _ _ _ _ M.o h)));have ak:Hd (vd (((J.setCell ⟨w.heap.size,6,none⟩ (.slice none 0 0)).setCell ⟨w.heap.size,5,none⟩ (.bool false)).setCell ⟨w.heap.size,4,none⟩ (.int .i64 (-1))) (yK { V with torn:=[],dead:=false,left:=-1 } v0 v1 (.slice none 0 0) wh) { V with torn:=[],dead:=false,left:=-1 }):=z0 ⟨_,_,_,_,rfl,ah.o _ _ aJ.o.1,ah.o _ _ aJ.o.2.1,qW.nil _,fun h=>absurd rfl h⟩;obtain⟨h1,h2,h3⟩:=Yl (C:=yK { V with torn:=[],dead:=false,left:=-1 } v0 v1 (.slice none 0 0) wh) aC.o ag.o (Nat.le_succ _) rfl rfl ak.o.one;have aj:=z0 h2;have ai:=z0 h3;have am:=z0 (ak.o.setSe (D:=yK { V with torn:=[],dead:=false,left:=-1 } v0 v1 (.slice none 0 0) wh) ag.o);clear h2 h3;have aE:=au.o.ld;have bo:=M.o.free 6;have bg:=a0.o.free 5;have bf:=O.o.free 4;obtain⟨_,_,_,_,_,_,ae,_⟩:=M.o.cells;obtain⟨_,_,_,_,_,bj,_,_⟩:=a0.o.cells;obtain⟨_,_,_,_,bk,_,_,_⟩:=O.o.cells;obtain⟨aA,af⟩:=nm (yK { V with torn:=[],dead:=false,left:=-1 } v0 v1 (.slice none 0 0) wh);have aF:Hd (aA.size=8):=z0 (by rw[<-af.o];rfl);rw[af.o]at aE h1 aj ai am;go_wp2;try simp only[Exit.inBlock,Exit.then]
  refine Bp (kO rfl _ _ _ _ _ rfl aj.o aF.o) rfl ⟨_,rfl,?_,ai.o⟩;rw[z6A aM m];exact am.o
 ·have bq:0<L:=by rw[<-al.o];exact List.length_pos_iff.2 aM
  have cf:(0:Int)<(L:Int):=by omega
  have ca:=z0 (bZ.o aM);have c3:=z0 (ZM V);have bl:=z0 aM;obtain⟨aX,aY,rfl,bR,bT⟩:=aJ.o.2.2.byt.at_.2.2.2 (List.length_pos_iff.2 aM);have bV:Hd (∀W,Below J.heap.size J W->∀j (h:j<V.torn.length),W.cell? ⟨aX,aY+j,none⟩=some (z3 V.torn[j])):=z0 (fun W b9 j h=>(b9.cell (p:=⟨aX,aY+j,none⟩) bR).trans (bT j h));obtain⟨⟨A0,ad,rfl⟩,A1,ab,rfl⟩:=cb.o;have bh:Hd (L<=1000):=z0 (by rw[<-al.o];exact b8.o.lt);obtain⟨_,aD,av,_,_,_,ae,aH⟩:=M.o.cells;clear aM bR bT bq;obtain⟨p,bi⟩:=nm (qr V);have ce:wh=p:=ca.o.trans bi.o;subst ce;have c7:wh=0\/wh=1:=by have:=c3.o;rw[bi.o]at this;exact this
  rcases c7 with rfl|rfl
  ·have be:Hd (qr V=0):=bi;have bd:([]:List UInt8).length+V.s0.length<=140737488355328:=by have:=b8.o.l0;simp only[List.length_nil];omega
   have bc:=z0 (aJ.o.1.byt.alloc (.cells #[] 5));have bQ:Hd (V.s0.length<=1000):=z0 b8.o.l0;obtain⟨N,aB⟩:=nm (V.s0.length:Nat);rw[aB.o]at bc aD M aJ aI;obtain⟨_,bC,br,_,_,_,bz,bD⟩:=(M.o.below ((Below.refl J.heap.size J).alloc (Nat.le_refl _) (.cells #[] 5))).cells;go_wp2_with (at_builtin;refine z9 rfl (.tmp 11) (.tmp 16) rfl rfl rfl (qQ J) bc.o bd (yL J _) ?_;intro c9 c0 aV b6 bx;simp only[List.nil_append]at aV;have aZ:=qy b6;clear b6 bx);have bG:=z0 aV;have bN:=z0 aZ;clear aV aZ bd aD av ae aH bC br bz bD;go_loopw [5,6] (fun ao aU wr=>∃i:Nat,i<=L/\i<=m.toNat/\aU=.int .i64 i/\Hd (ql J.heap.size wr ao (jl V.torn V.s0 i))/\Hd (Below J.heap.size J wr)) (fun _ aU _=>L - (intOf aU).toNat)
   case atStart=>exact⟨0,Nat.zero_le _,Nat.zero_le _,rfl,z0 (by rw[Xk];exact bG.o),bN⟩
   case round=>
    obtain⟨i,hi,az,rfl,K,I⟩:=hrel;obtain⟨_,aD,av,_,_,_,ae,aH⟩:=(M.o.below I.o).cells;have c8:=z0 az;have aq:=z0 hi;by_cases h1:(i:Int)<m
    ·by_cases h2:(i:Int)<(L:Int)
     ·have an:i<V.torn.length:=by rw[al.o];omega
      have ba:=bV.o _ I.o i an;have a1:=z0S (own:=V.s0) (Nat.le_of_lt an);rw[aB.o]at a1;have aG:=z0 (show i<m.toNat/\i<L from ⟨by omega,by omega⟩);have cc:(i:Int)+1<=1000:=by have:=bh.o;omega
      obtain⟨x,ax⟩:=nm ((V.torn[i].toNat:Int):Int);have hx:=yW V.torn[i];unfold z3 at ba;rw[ax.o]at ba hx;have b5:Hd (∀W ao,ql J.heap.size W ao (jl V.torn V.s0 (i+1))->Below J.heap.size J W->∃j:Nat,j<=L/\j<=m.toNat/\(Value.int .i64 ((i:Int)+1))=.int .i64 j/\Hd (ql J.heap.size W ao (jl V.torn V.s0 j))/\Hd (Below J.heap.size J W)):=z0 (fun W ao h1 h2=>⟨i+1,by have:=aG.o;omega,by have:=aG.o;omega,rfl,h1,h2⟩);clear hi az;by_cases h3:i<N
      ·obtain⟨G,co,a3⟩:=K.o.byt.shape;obtain⟨F,a5⟩:=nm ((jl V.torn V.s0 i).length:Nat);rw[a5.o]at a3;subst a3;have aP:F=N:=by rw[<-a5.o,a1];omega
       subst aP;have bH:(i:Int)<(F:Int):=by omega
       obtain⟨a9,rfl,b4⟩:∃a9,G=some ⟨a9,0,none⟩/\J.heap.size<=a9:=by
        rcases K.o.2 with ⟨e,h0⟩|⟨a9,xz,cur,e,hg,_⟩
        ·rw[a1]at h0;omega
        ·cases e;exact⟨a9,rfl,hg⟩
       obtain⟨y,c2⟩:∃y:Int,wr.cell? ⟨a9,i,none⟩=some (.int .u8 y):=by
        obtain⟨c5,c6,e,_,bK⟩:=K.o.byt.at_.2.2.2 (by rw[a1];omega);injection e with e;injection e with bP bu _;subst bP bu;have:=bK i (by rw[a1];omega);rw[Nat.zero_add]at this;exact⟨_,this⟩
       have cd:wr.frozen? ⟨a9,i,none⟩=false:=World.ownsRow.frozenAt (by have:=K.o;unfold ql at this;rw[a1,show max i F=F by omega]at this;exact this) i;have ay:=z0 (z7i K.o (by rw[a1];omega) (i:=i) V.torn[i]);rw[z0T an (by rw[aB.o];exact h3)]at ay;have aQ:=z0 (I.o.setCell (p:=⟨a9,i,none⟩) b4 (z3 V.torn[i]));unfold z3 at ay aQ;rw[ax.o]at ay aQ;have aK:=z0 (b5.o _ _ ay.o aQ.o);clear a1 h3 b4 ax;go_wp2;go_roundw
       case rel=>exact aK.o
       case measure=>exact XK aG.o.2 aq.o
      ·obtain⟨G,co,a3⟩:=K.o.byt.shape;obtain⟨F,a5⟩:=nm ((jl V.torn V.s0 i).length:Nat);rw[a5.o]at a3;subst a3;have aP:F=i:=by rw[<-a5.o,a1];omega
       subst aP;have bH:¬(F:Int)<(F:Int):=by omega
       have bL:(jl V.torn V.s0 F).length + [V.torn[F]].length<=140737488355328:=by rw[a1];have:=bh.o;have:=bQ.o;simp only[List.length_cons,List.length_nil];omega
       have bt:=z0 (jP wr x V.torn[F] ax.o.symm);have bb:=z0 (K.o.alloc (.cells #[.int .u8 x] 5));have bE:=z0 (z0U an (own:=V.s0) (by rw[aB.o];omega));have b1:=z0 (show J.heap.size<=(wr.alloc (.cells #[.int .u8 x] 5)).heap.size from Nat.le_trans I.o.size (yL _ _));have bM:=z0 (I.o.alloc I.o.size (.cells #[.int .u8 x] 5));have bv:=z0 (show F<L from aG.o.2);clear a1 h3;go_wp2_with (at_builtin;refine z9 rfl (.tmp 42) (.tmp 48) rfl rfl rfl bb.o bt.o bL b1.o ?_;intro bY c1 aN b0 bw;rw[bE.o]at aN;have b7:=bM.o.grown b0 b1.o (fun k a4=>(World.ownsRow.lt bb.o k a4).1);clear b0 bw);have aK:=z0 (b5.o _ _ aN b7);clear aN b7;go_roundw
       case rel=>exact aK.o
       case measure=>exact XK bv.o aq.o
     ·have an:L=i:=by omega
      subst an;have aT:=z0 (Yx (own:=V.s0) (m:=m) (Nat.le_of_eq al.o.symm) (by rw[al.o];omega));rw[aT.o]at K;clear hi az;obtain⟨G,co,a3⟩:=K.o.byt.shape;obtain⟨F,a5⟩:=nm ((qm V.torn V.s0 m).length:Nat);rw[a5.o]at a3;subst a3;have a7:=z0 ((M.o.below I.o).set (i:=1) (u:=.slice G F co) (V':=zu V 0 (qm V.torn V.s0 m)) (u0:=(.slice G F co)) (u1:=(.slice A1 V.s1.length ab)) (uh:=(.slice (some ⟨aX,aY,none⟩) L bn)) (k:=0) rfl);have aS:=(M.o.below I.o).free 1;have aW:=z0 ((a8.o.trans (I.o.mono a8.o.size)).setCell (p:=⟨w.heap.size,1,none⟩) (Nat.le_refl _) (.slice G F co))
      have ar:Hd ((wr.setCell ⟨w.heap.size,1,none⟩ (.slice G F co)).heap[w.heap.size+1]?=some (.cells xq 36 (0,0))):=z0 (by
       rw[Hs _ _ _ _ (by show w.heap.size+1≠w.heap.size;omega)]
       exact(I.o.block _ (Lb aw.o)).trans aw.o)
      have ap:Hd (∀v l,qW wr v l->qW (wr.setCell ⟨w.heap.size,1,none⟩ (.slice G F co)) v l):=z0 (fun v l aa=>aa.away (by simp[World.setCell]) (fun k _ a4=>Hs _ _ _ _ (q9 a4 (M.o.below I.o) (by decide))));have aO:=z0 (aI.o _ (a8.o.trans (I.o.mono a8.o.size)));have aR:=z0 (ap.o _ _ K.o.bys);have aL:=z0 (ap.o _ _ aO.o.2.1);go_upto_region 10 with(fail)
      clear aD av ae aH aS;generalize (wr.setCell ⟨w.heap.size,1,none⟩ (.slice G F co))=a2 at *;have a0:=z0 (a7.o.set (i:=6) (u:=.slice none 0 0) (V':={ zu V 0 (qm V.torn V.s0 m) with torn:=[] }) (u0:=(.slice G F co)) (u1:=(.slice A1 V.s1.length ab)) (uh:=.slice none 0 0) (k:=0) rfl);have O:=z0 (a0.o.set (i:=5) (u:=.bool false) (V':={ zu V 0 (qm V.torn V.s0 m) with torn:=[],dead:=false }) (u0:=(.slice G F co)) (u1:=(.slice A1 V.s1.length ab)) (uh:=.slice none 0 0) (k:=0) rfl);have au:=z0 (O.o.set (i:=4) (u:=.int .i64 (-1)) (V':={ zu V 0 (qm V.torn V.s0 m) with torn:=[],dead:=false,left:=-1 }) (u0:=(.slice G F co)) (u1:=(.slice A1 V.s1.length ab)) (uh:=.slice none 0 0) (k:=0) rfl);have aC:Hd (Below w.heap.size w (((a2.setCell ⟨w.heap.size,6,none⟩ (.slice none 0 0)).setCell ⟨w.heap.size,5,none⟩ (.bool false)).setCell ⟨w.heap.size,4,none⟩ (.int .i64 (-1)))):=z0 (((aW.o.setCell (p:=⟨w.heap.size,6,none⟩) (Nat.le_refl _) _).setCell (p:=⟨w.heap.size,5,none⟩) (Nat.le_refl _) _).setCell (p:=⟨w.heap.size,4,none⟩) (Nat.le_refl _) _)
      have ag:Hd ((((a2.setCell ⟨w.heap.size,6,none⟩ (.slice none 0 0)).setCell ⟨w.heap.size,5,none⟩ (.bool false)).setCell ⟨w.heap.size,4,none⟩ (.int .i64 (-1))).heap[w.heap.size+1]?=some (.cells xq 36 (0,0))):=z0 (by
       rw[Hs _ _ _ _ (by show w.heap.size+1≠w.heap.size;omega),Hs _ _ _ _ (by show w.heap.size+1≠w.heap.size;omega),Hs _ _ _ _ (by show w.heap.size+1≠w.heap.size;omega)]
       exact ar.o)
      have a6:Hd (∀W i u x v l,W.heap[w.heap.size]?=some (.cells x 36 (0,0))->qW W v l->qW (W.setCell ⟨w.heap.size,i,none⟩ u) v l):=z0 (fun W i u x v l h aa=>aa.away (by simp[World.setCell]) (fun k _ a4=>Hs _ _ _ _ (q9 a4 h (by decide))));have ah:Hd (∀v l,qW a2 v l->qW (((a2.setCell ⟨w.heap.size,6,none⟩ (.slice none 0 0)).setCell ⟨w.heap.size,5,none⟩ (.bool false)).setCell ⟨w.heap.size,4,none⟩ (.int .i64 (-1))) v l):=z0 (fun v l h=>a6.o _ _ _ _ _ _ O.o (a6.o _ _ _ _ _ _ a0.o (a6.o _ _ _ _ _ _ a7.o h)));have ak:Hd (vd (((a2.setCell ⟨w.heap.size,6,none⟩ (.slice none 0 0)).setCell ⟨w.heap.size,5,none⟩ (.bool false)).setCell ⟨w.heap.size,4,none⟩ (.int .i64 (-1))) (yK { zu V 0 (qm V.torn V.s0 m) with torn:=[],dead:=false,left:=-1 } (.slice G F co) (.slice A1 V.s1.length ab) (.slice none 0 0) 0) { zu V 0 (qm V.torn V.s0 m) with torn:=[],dead:=false,left:=-1 }):=z0 ⟨_,_,_,_,rfl,ah.o _ _ aR.o,ah.o _ _ aL.o,qW.nil _,fun h=>absurd rfl h⟩;obtain⟨h1,h2,h3⟩:=Yl (C:=yK { zu V 0 (qm V.torn V.s0 m) with torn:=[],dead:=false,left:=-1 } (.slice G F co) (.slice A1 V.s1.length ab) (.slice none 0 0) 0) aC.o ag.o (Nat.le_succ _) rfl rfl ak.o.one;have aj:=z0 h2;have ai:=z0 h3;have am:=z0 (ak.o.setSe (D:=yK { zu V 0 (qm V.torn V.s0 m) with torn:=[],dead:=false,left:=-1 } (.slice G F co) (.slice A1 V.s1.length ab) (.slice none 0 0) 0) ag.o);clear h2 h3;have aE:=au.o.ld;have bo:=a7.o.free 6;have bg:=a0.o.free 5;have bf:=O.o.free 4;obtain⟨_,_,_,_,_,_,ae,_⟩:=a7.o.cells;obtain⟨_,_,_,_,_,bj,_,_⟩:=a0.o.cells;obtain⟨_,_,_,_,bk,_,_,_⟩:=O.o.cells;obtain⟨aA,af⟩:=nm (yK { zu V 0 (qm V.torn V.s0 m) with torn:=[],dead:=false,left:=-1 } (.slice G F co) (.slice A1 V.s1.length ab) (.slice none 0 0) 0);have aF:Hd (aA.size=8):=z0 (by rw[<-af.o];rfl);rw[af.o]at aE h1 aj ai am;go_wp2;try simp only[Exit.inBlock,Exit.then]
      refine Bp (kO rfl _ _ _ _ _ rfl aj.o aF.o) rfl ⟨_,rfl,?_,ai.o⟩;rw[Yy bl.o m,be.o];exact am.o
    ·have bB:i=m.toNat:=by omega
     have aT:=z0 (Yx (own:=V.s0) (m:=m) (by rw[al.o];exact aq.o) (by rw[al.o];have:=aq.o;omega));rw[aT.o]at K;clear hi az bB;obtain⟨G,co,a3⟩:=K.o.byt.shape;obtain⟨F,a5⟩:=nm ((qm V.torn V.s0 m).length:Nat);rw[a5.o]at a3;subst a3;have a7:=z0 ((M.o.below I.o).set (i:=1) (u:=.slice G F co) (V':=zu V 0 (qm V.torn V.s0 m)) (u0:=(.slice G F co)) (u1:=(.slice A1 V.s1.length ab)) (uh:=(.slice (some ⟨aX,aY,none⟩) L bn)) (k:=0) rfl);have aS:=(M.o.below I.o).free 1;have aW:=z0 ((a8.o.trans (I.o.mono a8.o.size)).setCell (p:=⟨w.heap.size,1,none⟩) (Nat.le_refl _) (.slice G F co))
     have ar:Hd ((wr.setCell ⟨w.heap.size,1,none⟩ (.slice G F co)).heap[w.heap.size+1]?=some (.cells xq 36 (0,0))):=z0 (by
      rw[Hs _ _ _ _ (by show w.heap.size+1≠w.heap.size;omega)]
      exact(I.o.block _ (Lb aw.o)).trans aw.o)
     have ap:Hd (∀v l,qW wr v l->qW (wr.setCell ⟨w.heap.size,1,none⟩ (.slice G F co)) v l):=z0 (fun v l aa=>aa.away (by simp[World.setCell]) (fun k _ a4=>Hs _ _ _ _ (q9 a4 (M.o.below I.o) (by decide))));have aO:=z0 (aI.o _ (a8.o.trans (I.o.mono a8.o.size)));have aR:=z0 (ap.o _ _ K.o.bys);have aL:=z0 (ap.o _ _ aO.o.2.1);go_upto_region 10 with(fail)
     clear aD av ae aH aS;generalize (wr.setCell ⟨w.heap.size,1,none⟩ (.slice G F co))=a2 at *;have a0:=z0 (a7.o.set (i:=6) (u:=.slice none 0 0) (V':={ zu V 0 (qm V.torn V.s0 m) with torn:=[] }) (u0:=(.slice G F co)) (u1:=(.slice A1 V.s1.length ab)) (uh:=.slice none 0 0) (k:=0) rfl);have O:=z0 (a0.o.set (i:=5) (u:=.bool false) (V':={ zu V 0 (qm V.torn V.s0 m) with torn:=[],dead:=false }) (u0:=(.slice G F co)) (u1:=(.slice A1 V.s1.length ab)) (uh:=.slice none 0 0) (k:=0) rfl);have au:=z0 (O.o.set (i:=4) (u:=.int .i64 (-1)) (V':={ zu V 0 (qm V.torn V.s0 m) with torn:=[],dead:=false,left:=-1 }) (u0:=(.slice G F co)) (u1:=(.slice A1 V.s1.length ab)) (uh:=.slice none 0 0) (k:=0) rfl);have aC:Hd (Below w.heap.size w (((a2.setCell ⟨w.heap.size,6,none⟩ (.slice none 0 0)).setCell ⟨w.heap.size,5,none⟩ (.bool false)).setCell ⟨w.heap.size,4,none⟩ (.int .i64 (-1)))):=z0 (((aW.o.setCell (p:=⟨w.heap.size,6,none⟩) (Nat.le_refl _) _).setCell (p:=⟨w.heap.size,5,none⟩) (Nat.le_refl _) _).setCell (p:=⟨w.heap.size,4,none⟩) (Nat.le_refl _) _)
     have ag:Hd ((((a2.setCell ⟨w.heap.size,6,none⟩ (.slice none 0 0)).setCell ⟨w.heap.size,5,none⟩ (.bool false)).setCell ⟨w.heap.size,4,none⟩ (.int .i64 (-1))).heap[w.heap.size+1]?=some (.cells xq 36 (0,0))):=z0 (by
      rw[Hs _ _ _ _ (by show w.heap.size+1≠w.heap.size;omega),Hs _ _ _ _ (by show w.heap.size+1≠w.heap.size;omega),Hs _ _ _ _ (by show w.heap.size+1≠w.heap.size;omega)]
      exact ar.o)
     have a6:Hd (∀W i u x v l,W.heap[w.heap.size]?=some (.cells x 36 (0,0))->qW W v l->qW (W.setCell ⟨w.heap.size,i,none⟩ u) v l):=z0 (fun W i u x v l h aa=>aa.away (by simp[World.setCell]) (fun k _ a4=>Hs _ _ _ _ (q9 a4 h (by decide))));have ah:Hd (∀v l,qW a2 v l->qW (((a2.setCell ⟨w.heap.size,6,none⟩ (.slice none 0 0)).setCell ⟨w.heap.size,5,none⟩ (.bool false)).setCell ⟨w.heap.size,4,none⟩ (.int .i64 (-1))) v l):=z0 (fun v l h=>a6.o _ _ _ _ _ _ O.o (a6.o _ _ _ _ _ _ a0.o (a6.o _ _ _ _ _ _ a7.o h)));have ak:Hd (vd (((a2.setCell ⟨w.heap.size,6,none⟩ (.slice none 0 0)).setCell ⟨w.heap.size,5,none⟩ (.bool false)).setCell ⟨w.heap.size,4,none⟩ (.int .i64 (-1))) (yK { zu V 0 (qm V.torn V.s0 m) with torn:=[],dead:=false,left:=-1 } (.slice G F co) (.slice A1 V.s1.length ab) (.slice none 0 0) 0) { zu V 0 (qm V.torn V.s0 m) with torn:=[],dead:=false,left:=-1 }):=z0 ⟨_,_,_,_,rfl,ah.o _ _ aR.o,ah.o _ _ aL.o,qW.nil _,fun h=>absurd rfl h⟩;obtain⟨h1,h2,h3⟩:=Yl (C:=yK { zu V 0 (qm V.torn V.s0 m) with torn:=[],dead:=false,left:=-1 } (.slice G F co) (.slice A1 V.s1.length ab) (.slice none 0 0) 0) aC.o ag.o (Nat.le_succ _) rfl rfl ak.o.one;have aj:=z0 h2;have ai:=z0 h3;have am:=z0 (ak.o.setSe (D:=yK { zu V 0 (qm V.torn V.s0 m) with torn:=[],dead:=false,left:=-1 } (.slice G F co) (.slice A1 V.s1.length ab) (.slice none 0 0) 0) ag.o);clear h2 h3;have aE:=au.o.ld;have bo:=a7.o.free 6;have bg:=a0.o.free 5;have bf:=O.o.free 4;obtain⟨_,_,_,_,_,_,ae,_⟩:=a7.o.cells;obtain⟨_,_,_,_,_,bj,_,_⟩:=a0.o.cells;obtain⟨_,_,_,_,bk,_,_,_⟩:=O.o.cells;obtain⟨aA,af⟩:=nm (yK { zu V 0 (qm V.torn V.s0 m) with torn:=[],dead:=false,left:=-1 } (.slice G F co) (.slice A1 V.s1.length ab) (.slice none 0 0) 0);have aF:Hd (aA.size=8):=z0 (by rw[<-af.o];rfl);rw[af.o]at aE h1 aj ai am;go_wp2;try simp only[Exit.inBlock,Exit.then]
     refine Bp (kO rfl _ _ _ _ _ rfl aj.o aF.o) rfl ⟨_,rfl,?_,ai.o⟩;rw[Yy bl.o m,be.o];exact am.o
  ·have be:Hd (qr V=1):=bi;have bd:([]:List UInt8).length+V.s1.length<=140737488355328:=by have:=b8.o.l1;simp only[List.length_nil];omega
   have bc:=z0 (aJ.o.2.1.byt.alloc (.cells #[] 5));have bQ:Hd (V.s1.length<=1000):=z0 b8.o.l1;obtain⟨N,aB⟩:=nm (V.s1.length:Nat);rw[aB.o]at bc av M aJ aI;obtain⟨_,bC,br,_,_,_,bz,bD⟩:=(M.o.below ((Below.refl J.heap.size J).alloc (Nat.le_refl _) (.cells #[] 5))).cells;go_wp2_with (at_builtin;refine z9 rfl (.tmp 11) (.tmp 16) rfl rfl rfl (qQ J) bc.o bd (yL J _) ?_;intro c9 c0 aV b6 bx;simp only[List.nil_append]at aV;have aZ:=qy b6;clear b6 bx);have bG:=z0 aV;have bN:=z0 aZ;clear aV aZ bd aD av ae aH bC br bz bD;go_loopw [5,6] (fun ao aU wr=>∃i:Nat,i<=L/\i<=m.toNat/\aU=.int .i64 i/\Hd (ql J.heap.size wr ao (jl V.torn V.s1 i))/\Hd (Below J.heap.size J wr)) (fun _ aU _=>L - (intOf aU).toNat)
   case atStart=>exact⟨0,Nat.zero_le _,Nat.zero_le _,rfl,z0 (by rw[Xk];exact bG.o),bN⟩
   case round=>
    obtain⟨i,hi,az,rfl,K,I⟩:=hrel;obtain⟨_,aD,av,_,_,_,ae,aH⟩:=(M.o.below I.o).cells;have c8:=z0 az;have aq:=z0 hi;by_cases h1:(i:Int)<m
    ·by_cases h2:(i:Int)<(L:Int)
     ·have an:i<V.torn.length:=by rw[al.o];omega
      have ba:=bV.o _ I.o i an;have a1:=z0S (own:=V.s1) (Nat.le_of_lt an);rw[aB.o]at a1;have aG:=z0 (show i<m.toNat/\i<L from ⟨by omega,by omega⟩);have cc:(i:Int)+1<=1000:=by have:=bh.o;omega
      obtain⟨x,ax⟩:=nm ((V.torn[i].toNat:Int):Int);have hx:=yW V.torn[i];unfold z3 at ba;rw[ax.o]at ba hx;have b5:Hd (∀W ao,ql J.heap.size W ao (jl V.torn V.s1 (i+1))->Below J.heap.size J W->∃j:Nat,j<=L/\j<=m.toNat/\(Value.int .i64 ((i:Int)+1))=.int .i64 j/\Hd (ql J.heap.size W ao (jl V.torn V.s1 j))/\Hd (Below J.heap.size J W)):=z0 (fun W ao h1 h2=>⟨i+1,by have:=aG.o;omega,by have:=aG.o;omega,rfl,h1,h2⟩);clear hi az;by_cases h3:i<N
      ·obtain⟨G,co,a3⟩:=K.o.byt.shape;obtain⟨F,a5⟩:=nm ((jl V.torn V.s1 i).length:Nat);rw[a5.o]at a3;subst a3;have aP:F=N:=by rw[<-a5.o,a1];omega
       subst aP;have bH:(i:Int)<(F:Int):=by omega
       obtain⟨a9,rfl,b4⟩:∃a9,G=some ⟨a9,0,none⟩/\J.heap.size<=a9:=by
        rcases K.o.2 with ⟨e,h0⟩|⟨a9,xz,cur,e,hg,_⟩
        ·rw[a1]at h0;omega
        ·cases e;exact⟨a9,rfl,hg⟩
       obtain⟨y,c2⟩:∃y:Int,wr.cell? ⟨a9,i,none⟩=some (.int .u8 y):=by
        obtain⟨c5,c6,e,_,bK⟩:=K.o.byt.at_.2.2.2 (by rw[a1];omega);injection e with e;injection e with bP bu _;subst bP bu;have:=bK i (by rw[a1];omega);rw[Nat.zero_add]at this;exact⟨_,this⟩
       have cd:wr.frozen? ⟨a9,i,none⟩=false:=World.ownsRow.frozenAt (by have:=K.o;unfold ql at this;rw[a1,show max i F=F by omega]at this;exact this) i;have ay:=z0 (z7i K.o (by rw[a1];omega) (i:=i) V.torn[i]);rw[z0T an (by rw[aB.o];exact h3)]at ay;have aQ:=z0 (I.o.setCell (p:=⟨a9,i,none⟩) b4 (z3 V.torn[i]));unfold z3 at ay aQ;rw[ax.o]at ay aQ;have aK:=z0 (b5.o _ _ ay.o aQ.o);clear a1 h3 b4 ax;go_wp2;go_roundw
       case rel=>exact aK.o
       case measure=>exact XK aG.o.2 aq.o
      ·obtain⟨G,co,a3⟩:=K.o.byt.shape;obtain⟨F,a5⟩:=nm ((jl V.torn V.s1 i).length:Nat);rw[a5.o]at a3;subst a3;have aP:F=i:=by rw[<-a5.o,a1];omega
       subst aP;have bH:¬(F:Int)<(F:Int):=by omega
       have bL:(jl V.torn V.s1 F).length + [V.torn[F]].length<=140737488355328:=by rw[a1];have:=bh.o;have:=bQ.o;simp only[List.length_cons,List.length_nil];omega
       have bt:=z0 (jP wr x V.torn[F] ax.o.symm);have bb:=z0 (K.o.alloc (.cells #[.int .u8 x] 5));have bE:=z0 (z0U an (own:=V.s1) (by rw[aB.o];omega));have b1:=z0 (show J.heap.size<=(wr.alloc (.cells #[.int .u8 x] 5)).heap.size from Nat.le_trans I.o.size (yL _ _));have bM:=z0 (I.o.alloc I.o.size (.cells #[.int .u8 x] 5));have bv:=z0 (show F<L from aG.o.2);clear a1 h3;go_wp2_with (at_builtin;refine z9 rfl (.tmp 42) (.tmp 48) rfl rfl rfl bb.o bt.o bL b1.o ?_;intro bY c1 aN b0 bw;rw[bE.o]at aN;have b7:=bM.o.grown b0 b1.o (fun k a4=>(World.ownsRow.lt bb.o k a4).1);clear b0 bw);have aK:=z0 (b5.o _ _ aN b7);clear aN b7;go_roundw
       case rel=>exact aK.o
       case measure=>exact XK bv.o aq.o
     ·have an:L=i:=by omega
      subst an;have aT:=z0 (Yx (own:=V.s1) (m:=m) (Nat.le_of_eq al.o.symm) (by rw[al.o];omega));rw[aT.o]at K;clear hi az;obtain⟨G,co,a3⟩:=K.o.byt.shape;obtain⟨F,a5⟩:=nm ((qm V.torn V.s1 m).length:Nat);rw[a5.o]at a3;subst a3;have a7:=z0 ((M.o.below I.o).set (i:=2) (u:=.slice G F co) (V':=zu V 1 (qm V.torn V.s1 m)) (u0:=(.slice A0 V.s0.length ad)) (u1:=(.slice G F co)) (uh:=(.slice (some ⟨aX,aY,none⟩) L bn)) (k:=1) rfl);have aS:=(M.o.below I.o).free 2;have aW:=z0 ((a8.o.trans (I.o.mono a8.o.size)).setCell (p:=⟨w.heap.size,2,none⟩) (Nat.le_refl _) (.slice G F co))
      have ar:Hd ((wr.setCell ⟨w.heap.size,2,none⟩ (.slice G F co)).heap[w.heap.size+1]?=some (.cells xq 36 (0,0))):=z0 (by
       rw[Hs _ _ _ _ (by show w.heap.size+1≠w.heap.size;omega)]
       exact(I.o.block _ (Lb aw.o)).trans aw.o)
      have ap:Hd (∀v l,qW wr v l->qW (wr.setCell ⟨w.heap.size,2,none⟩ (.slice G F co)) v l):=z0 (fun v l aa=>aa.away (by simp[World.setCell]) (fun k _ a4=>Hs _ _ _ _ (q9 a4 (M.o.below I.o) (by decide))));have aO:=z0 (aI.o _ (a8.o.trans (I.o.mono a8.o.size)));have aR:=z0 (ap.o _ _ K.o.bys);have aL:=z0 (ap.o _ _ aO.o.1);go_upto_region 10 with(fail)
      clear aD av ae aH aS;generalize (wr.setCell ⟨w.heap.size,2,none⟩ (.slice G F co))=a2 at *;have a0:=z0 (a7.o.set (i:=6) (u:=.slice none 0 0) (V':={ zu V 1 (qm V.torn V.s1 m) with torn:=[] }) (u0:=(.slice A0 V.s0.length ad)) (u1:=(.slice G F co)) (uh:=.slice none 0 0) (k:=1) rfl);have O:=z0 (a0.o.set (i:=5) (u:=.bool false) (V':={ zu V 1 (qm V.torn V.s1 m) with torn:=[],dead:=false }) (u0:=(.slice A0 V.s0.length ad)) (u1:=(.slice G F co)) (uh:=.slice none 0 0) (k:=1) rfl);have au:=z0 (O.o.set (i:=4) (u:=.int .i64 (-1)) (V':={ zu V 1 (qm V.torn V.s1 m) with torn:=[],dead:=false,left:=-1 }) (u0:=(.slice A0 V.s0.length ad)) (u1:=(.slice G F co)) (uh:=.slice none 0 0) (k:=1) rfl);have aC:Hd (Below w.heap.size w (((a2.setCell ⟨w.heap.size,6,none⟩ (.slice none 0 0)).setCell ⟨w.heap.size,5,none⟩ (.bool false)).setCell ⟨w.heap.size,4,none⟩ (.int .i64 (-1)))):=z0 (((aW.o.setCell (p:=⟨w.heap.size,6,none⟩) (Nat.le_refl _) _).setCell (p:=⟨w.heap.size,5,none⟩) (Nat.le_refl _) _).setCell (p:=⟨w.heap.size,4,none⟩) (Nat.le_refl _) _)
      have ag:Hd ((((a2.setCell ⟨w.heap.size,6,none⟩ (.slice none 0 0)).setCell ⟨w.heap.size,5,none⟩ (.bool false)).setCell ⟨w.heap.size,4,none⟩ (.int .i64 (-1))).heap[w.heap.size+1]?=some (.cells xq 36 (0,0))):=z0 (by
       rw[Hs _ _ _ _ (by show w.heap.size+1≠w.heap.size;omega),Hs _ _ _ _ (by show w.heap.size+1≠w.heap.size;omega),Hs _ _ _ _ (by show w.heap.size+1≠w.heap.size;omega)]
       exact ar.o)
      have a6:Hd (∀W i u x v l,W.heap[w.heap.size]?=some (.cells x 36 (0,0))->qW W v l->qW (W.setCell ⟨w.heap.size,i,none⟩ u) v l):=z0 (fun W i u x v l h aa=>aa.away (by simp[World.setCell]) (fun k _ a4=>Hs _ _ _ _ (q9 a4 h (by decide))));have ah:Hd (∀v l,qW a2 v l->qW (((a2.setCell ⟨w.heap.size,6,none⟩ (.slice none 0 0)).setCell ⟨w.heap.size,5,none⟩ (.bool false)).setCell ⟨w.heap.size,4,none⟩ (.int .i64 (-1))) v l):=z0 (fun v l h=>a6.o _ _ _ _ _ _ O.o (a6.o _ _ _ _ _ _ a0.o (a6.o _ _ _ _ _ _ a7.o h)));have ak:Hd (vd (((a2.setCell ⟨w.heap.size,6,none⟩ (.slice none 0 0)).setCell ⟨w.heap.size,5,none⟩ (.bool false)).setCell ⟨w.heap.size,4,none⟩ (.int .i64 (-1))) (yK { zu V 1 (qm V.torn V.s1 m) with torn:=[],dead:=false,left:=-1 } (.slice A0 V.s0.length ad) (.slice G F co) (.slice none 0 0) 1) { zu V 1 (qm V.torn V.s1 m) with torn:=[],dead:=false,left:=-1 }):=z0 ⟨_,_,_,_,rfl,ah.o _ _ aL.o,ah.o _ _ aR.o,qW.nil _,fun h=>absurd rfl h⟩;obtain⟨h1,h2,h3⟩:=Yl (C:=yK { zu V 1 (qm V.torn V.s1 m) with torn:=[],dead:=false,left:=-1 } (.slice A0 V.s0.length ad) (.slice G F co) (.slice none 0 0) 1) aC.o ag.o (Nat.le_succ _) rfl rfl ak.o.one;have aj:=z0 h2;have ai:=z0 h3;have am:=z0 (ak.o.setSe (D:=yK { zu V 1 (qm V.torn V.s1 m) with torn:=[],dead:=false,left:=-1 } (.slice A0 V.s0.length ad) (.slice G F co) (.slice none 0 0) 1) ag.o);clear h2 h3;have aE:=au.o.ld;have bo:=a7.o.free 6;have bg:=a0.o.free 5;have bf:=O.o.free 4;obtain⟨_,_,_,_,_,_,ae,_⟩:=a7.o.cells;obtain⟨_,_,_,_,_,bj,_,_⟩:=a0.o.cells;obtain⟨_,_,_,_,bk,_,_,_⟩:=O.o.cells;obtain⟨aA,af⟩:=nm (yK { zu V 1 (qm V.torn V.s1 m) with torn:=[],dead:=false,left:=-1 } (.slice A0 V.s0.length ad) (.slice G F co) (.slice none 0 0) 1);have aF:Hd (aA.size=8):=z0 (by rw[<-af.o];rfl);rw[af.o]at aE h1 aj ai am;go_wp2;try simp only[Exit.inBlock,Exit.then]
      refine Bp (kO rfl _ _ _ _ _ rfl aj.o aF.o) rfl ⟨_,rfl,?_,ai.o⟩;rw[Yy bl.o m,be.o];exact am.o
    ·have bB:i=m.toNat:=by omega
     have aT:=z0 (Yx (own:=V.s1) (m:=m) (by rw[al.o];exact aq.o) (by rw[al.o];have:=aq.o;omega));rw[aT.o]at K;clear hi az bB;obtain⟨G,co,a3⟩:=K.o.byt.shape;obtain⟨F,a5⟩:=nm ((qm V.torn V.s1 m).length:Nat);rw[a5.o]at a3;subst a3;have a7:=z0 ((M.o.below I.o).set (i:=2) (u:=.slice G F co) (V':=zu V 1 (qm V.torn V.s1 m)) (u0:=(.slice A0 V.s0.length ad)) (u1:=(.slice G F co)) (uh:=(.slice (some ⟨aX,aY,none⟩) L bn)) (k:=1) rfl);have aS:=(M.o.below I.o).free 2;have aW:=z0 ((a8.o.trans (I.o.mono a8.o.size)).setCell (p:=⟨w.heap.size,2,none⟩) (Nat.le_refl _) (.slice G F co))
     have ar:Hd ((wr.setCell ⟨w.heap.size,2,none⟩ (.slice G F co)).heap[w.heap.size+1]?=some (.cells xq 36 (0,0))):=z0 (by
      rw[Hs _ _ _ _ (by show w.heap.size+1≠w.heap.size;omega)]
      exact(I.o.block _ (Lb aw.o)).trans aw.o)
     have ap:Hd (∀v l,qW wr v l->qW (wr.setCell ⟨w.heap.size,2,none⟩ (.slice G F co)) v l):=z0 (fun v l aa=>aa.away (by simp[World.setCell]) (fun k _ a4=>Hs _ _ _ _ (q9 a4 (M.o.below I.o) (by decide))));have aO:=z0 (aI.o _ (a8.o.trans (I.o.mono a8.o.size)));have aR:=z0 (ap.o _ _ K.o.bys);have aL:=z0 (ap.o _ _ aO.o.1);go_upto_region 10 with(fail)
     clear aD av ae aH aS;generalize (wr.setCell ⟨w.heap.size,2,none⟩ (.slice G F co))=a2 at *;have a0:=z0 (a7.o.set (i:=6) (u:=.slice none 0 0) (V':={ zu V 1 (qm V.torn V.s1 m) with torn:=[] }) (u0:=(.slice A0 V.s0.length ad)) (u1:=(.slice G F co)) (uh:=.slice none 0 0) (k:=1) rfl);have O:=z0 (a0.o.set (i:=5) (u:=.bool false) (V':={ zu V 1 (qm V.torn V.s1 m) with torn:=[],dead:=false }) (u0:=(.slice A0 V.s0.length ad)) (u1:=(.slice G F co)) (uh:=.slice none 0 0) (k:=1) rfl);have au:=z0 (O.o.set (i:=4) (u:=.int .i64 (-1)) (V':={ zu V 1 (qm V.torn V.s1 m) with torn:=[],dead:=false,left:=-1 }) (u0:=(.slice A0 V.s0.length ad)) (u1:=(.slice G F co)) (uh:=.slice none 0 0) (k:=1) rfl);have aC:Hd (Below w.heap.size w (((a2.setCell ⟨w.heap.size,6,none⟩ (.slice none 0 0)).setCell ⟨w.heap.size,5,none⟩ (.bool false)).setCell ⟨w.heap.size,4,none⟩ (.int .i64 (-1)))):=z0 (((aW.o.setCell (p:=⟨w.heap.size,6,none⟩) (Nat.le_refl _) _).setCell (p:=⟨w.heap.size,5,none⟩) (Nat.le_refl _) _).setCell (p:=⟨w.heap.size,4,none⟩) (Nat.le_refl _) _)
     have ag:Hd ((((a2.setCell ⟨w.heap.size,6,none⟩ (.slice none 0 0)).setCell ⟨w.heap.size,5,none⟩ (.bool false)).setCell ⟨w.heap.size,4,none⟩ (.int .i64 (-1))).heap[w.heap.size+1]?=some (.cells xq 36 (0,0))):=z0 (by
      rw[Hs _ _ _ _ (by show w.heap.size+1≠w.heap.size;omega),Hs _ _ _ _ (by show w.heap.size+1≠w.heap.size;omega),Hs _ _ _ _ (by show w.heap.size+1≠w.heap.size;omega)]
      exact ar.o)
     have a6:Hd (∀W i u x v l,W.heap[w.heap.size]?=some (.cells x 36 (0,0))->qW W v l->qW (W.setCell ⟨w.heap.size,i,none⟩ u) v l):=z0 (fun W i u x v l h aa=>aa.away (by simp[World.setCell]) (fun k _ a4=>Hs _ _ _ _ (q9 a4 h (by decide))));have ah:Hd (∀v l,qW a2 v l->qW (((a2.setCell ⟨w.heap.size,6,none⟩ (.slice none 0 0)).setCell ⟨w.heap.size,5,none⟩ (.bool false)).setCell ⟨w.heap.size,4,none⟩ (.int .i64 (-1))) v l):=z0 (fun v l h=>a6.o _ _ _ _ _ _ O.o (a6.o _ _ _ _ _ _ a0.o (a6.o _ _ _ _ _ _ a7.o h)));have ak:Hd (vd (((a2.setCell ⟨w.heap.size,6,none⟩ (.slice none 0 0)).setCell ⟨w.heap.size,5,none⟩ (.bool false)).setCell ⟨w.heap.size,4,none⟩ (.int .i64 (-1))) (yK { zu V 1 (qm V.torn V.s1 m) with torn:=[],dead:=false,left:=-1 } (.slice A0 V.s0.length ad) (.slice G F co) (.slice none 0 0) 1) { zu V 1 (qm V.torn V.s1 m) with torn:=[],dead:=false,left:=-1 }):=z0 ⟨_,_,_,_,rfl,ah.o _ _ aL.o,ah.o _ _ aR.o,qW.nil _,fun h=>absurd rfl h⟩;obtain⟨h1,h2,h3⟩:=Yl (C:=yK { zu V 1 (qm V.torn V.s1 m) with torn:=[],dead:=false,left:=-1 } (.slice A0 V.s0.length ad) (.slice G F co) (.slice none 0 0) 1) aC.o ag.o (Nat.le_succ _) rfl rfl ak.o.one;have aj:=z0 h2;have ai:=z0 h3;have am:=z0 (ak.o.setSe (D:=yK { zu V 1 (qm V.torn V.s1 m) with torn:=[],dead:=false,left:=-1 } (.slice A0 V.s0.length ad) (.slice G F co) (.slice none 0 0) 1) ag.o);clear h2 h3;have aE:=au.o.ld;have bo:=a7.o.free 6;have bg:=a0.o.free 5;have bf:=O.o.free 4;obtain⟨_,_,_,_,_,_,ae,_⟩:=a7.o.cells;obtain⟨_,_,_,_,_,bj,_,_⟩:=a0.o.cells;obtain⟨_,_,_,_,bk,_,_,_⟩:=O.o.cells;obtain⟨aA,af⟩:=nm (yK { zu V 1 (qm V.torn V.s1 m) with torn:=[],dead:=false,left:=-1 } (.slice A0 V.s0.length ad) (.slice G F co) (.slice none 0 0) 1);have aF:Hd (aA.size=8):=z0 (by rw[<-af.o];rfl);rw[af.o]at aE h1 aj ai am;go_wp2;try simp only[Exit.inBlock,Exit.then]
     refine Bp (kO rfl _ _ _ _ _ rfl aj.o aF.o) rfl ⟨_,rfl,?_,ai.o⟩;rw[Yy bl.o m,be.o];exact am.o
end
section
attribute [local go_sem ↓] qL qv qw zm zq zr jS
theorem zds (m:Int):m.tmod 2=-1\/m.tmod 2=0\/m.tmod 2=1:=by
 rcases Int.le_total 0 m with h|h
 ·rw[Int.tmod_eq_emod_of_nonneg h];omega
 ·have e:m.tmod 2=-((-m).tmod 2):=by rw[Int.neg_tmod];omega
  rw[e,Int.tmod_eq_emod_of_nonneg (by omega)];omega
def zdO (b a:Nat) (w:World) (v:Value):Prop:=∃F:List UInt8,(∀W,zJ b a w W->zP W v F)/\F.length<=1200
structure KK where
 A0:Option Addr
 c0:Nat
 l0:List UInt8
 A1:Option Addr
 c1:Nat
 l1:List UInt8
def ocl (o:KK):List Value:=[.slice o.A0 o.l0.length o.c0,.slice o.A1 o.l1.length o.c1]
def xE (w:World) (o:KK):Prop:=qW w (.slice o.A0 o.l0.length o.c0) o.l0/\qW w (.slice o.A1 o.l1.length o.c1) o.l1/\o.l0.length<=1000/\o.l1.length<=1000
def KL (b c a:Nat) (w:World) (e:Ending) (w':World):Prop:=∃V' C',e=.returned (.tuple #[.agg C',.bool true])/\jL w' b c a V'/\V'.Good/\vd w' C' V'/\zJ b a w w'
structure xB (w W:World) (b c a g:Nat) (V Vr:yV) (C AX:Array Value):Prop where
 v:jL W b c a V
 r5:W.heap[g]?=some (.cells C 36 (0,0))
 r6:W.heap[g+1]?=some (.cells AX 62 (0,0))
 r8:W.heap[g+2]?=some (.cells xq 36 (0,0))
 rc:vd W C Vr
 t:zJ b a w W
theorem z53:∀T:TypeId,(T=5\/T=89\/T=165\/T=162)->T≠36:=by
 intro T h;rcases h with rfl|rfl|rfl|rfl <;> decide
section
variable {w W W':World}{b c a g:Nat}{V V' Vr:yV}{C C' AX:Array Value}
theorem xB.below (h:xB w W b c a g V Vr C AX) (F:Below W.heap.size W W'):xB w W' b c a g V Vr C AX:=
 ⟨h.v.below F,(F.block _ (Lb h.r5)).trans h.r5,(F.block _ (Lb h.r6)).trans h.r6,(F.block _ (Lb h.r8)).trans h.r8,h.rc.below F,h.t.then F⟩
theorem xB.turn (h:xB w W b c a g V Vr C AX) (F:zJ b a W W') (G:jL W' b c a V'):xB w W' b c a g V' Vr C AX:=
 ⟨G,h.v.other h.r5 (by decide) (by decide) F,h.v.other h.r6 (by decide) (by decide) F,h.v.other h.r8 (by decide) (by decide) F,h.v.turnedR h.rc F,h.t.trans F⟩
theorem zJ.set (h:zJ b a w W) (hg:w.heap.size<=g) (i:Nat) (u:Value):zJ b a w (W.setCell ⟨g,i,none⟩ u):=
 ⟨h.os,h.tape,h.output,by simpa [World.setCell] using h.size,fun k h1 h2 h3=>(Hs _ _ _ _ (by show k≠g;omega)).trans (h.block k h1 h2 h3)⟩
theorem xB.set (h:xB w W b c a g V Vr C AX) (hg:w.heap.size<=g) {i:Nat}{u:Value}{I:yV} (J:W.heap[g]?=some (.cells C 36 (0,0))->(W.setCell ⟨g,i,none⟩ u).heap[g]?=some (.cells C' 36 (0,0))) (K:vd W C' I):xB w (W.setCell ⟨g,i,none⟩ u) b c a g V I C' AX:=by
 have G:W.heap.size<=(W.setCell ⟨g,i,none⟩ u).heap.size:=by simp[World.setCell]
 refine⟨h.v.kept G (fun k D T F M=>Hs _ _ _ _ (q9 F h.r5 (z53 T M))),J h.r5,(Hs _ _ _ _ (by show g+1≠g;omega)).trans h.r6,(Hs _ _ _ _ (by show g+2≠g;omega)).trans h.r8,K.away G (fun k D F=>Hs _ _ _ _ (q9 F h.r5 (by decide))),h.t.set hg i u⟩
theorem xB.fin (h:xB w W b c a g V Vr C AX) (hg:w.heap.size<=g) (G:vd W C' V):
  xr (.pointer (some ⟨g+2,0,none⟩)) (.agg C') W=.ok .skip (setSe W (g+2) C')/\(setSe W (g+2) C').heap[g+2]?=some (.cells C' 36 (0,0))/\jL (setSe W (g+2) C') b c a V/\vd (setSe W (g+2) C') C' V/\zJ b a w (setSe W (g+2) C'):=by
 have F:=zR (C:=C') (Below.refl 0 W) (Nat.zero_le (g+2));refine⟨Yk h.r8 rfl G.size G.one,qG h.r8,h.v.kept F.size (fun k D T I J=>zl W _ (q9 I h.r8 (z53 T J))),G.setSe h.r8,?_⟩;exact⟨F.os.trans h.t.os,F.tape.trans h.t.tape,F.output.trans h.t.output,Nat.le_trans h.t.size F.size,fun k h1 h2 h3=>(zl W _ (by omega)).trans (h.t.block k h1 h2 h3)⟩
theorem xB.ld5 (h:xB w W b c a g V Vr C AX):xR (.pointer (some ⟨g,0,none⟩)) W=.ok (.value (.agg C)) W:=j3 h.r5 h.rc.size
end
end
noncomputable def z0W (v : Value) (w : World) : Result Next := Sem.run prog (execOp (fun _ => v) { dst := none, op := .load 34 (.tmp 0), type := 0, pos := "", after := #[], guard := none }) w
theorem z3w (r:Operand->Value) (x:Operand) (dst:Option Tmp) (ty:TypeId) (pos:String) (after:Array Edge) (guard:Option (Nat×Bool)) (w:World):
  Sem.run prog (execOp r { dst:=dst,op:=.load 34 x,type:=ty,pos:=pos,after:=after,guard:=guard }) w=z0W (r x) w:=rfl
theorem zbH:(prog.info? 34).map (·.size)=some 2:=by kernel_rfl
theorem z6B {w:World}{g o:Nat}{x y:Value} (F:w.rangeAt g o [x,y]):z0W (.pointer (some ⟨g,o,none⟩)) w=.ok (.value (.agg #[x,y])) w:=by
 have:=run_loadAt_mid (P:=prog) w g o 34 [x,y] _ F KI rfl (by rw[zbH];rfl);unfold z0W execOp;simp only[Sem.run_bind,this,Result.andThen_ok,Sem.run_pure]
theorem zbI:(prog.info? 34).map (fun i=>(i.zero,i.size,decide (i.bytes<=100000)))=some (some (.agg #[.slice none 0 0,.slice none 0 0]),2,true):=by kernel_rfl
theorem zdt:Elt ocl (fun _=>True) 2 34 46:=by
 refine⟨by omega,fun _ _=>rfl,fun a u F=>?_,by kernel_rfl,by kernel_rfl,?_⟩
 ·unfold ocl at F;simp only[List.mem_cons,List.not_mem_nil,or_false]at F;rcases F with rfl|rfl <;> rfl
 obtain⟨i,hi,h⟩:=Option.map_eq_some_iff.1 zbI;injection h with h1 h;injection h with h2 h3;exact⟨i,_,hi,h1,h2,of_decide_eq_true h3,rfl⟩
theorem xE.away {w w':World}{o:KK} (h:xE w o) (G:w.heap.size<=w'.heap.size) (F:∀(k:Nat) (C:Array Value),w.heap[k]?=some (Obj.cells C 5 (0,0))->w'.heap[k]?=w.heap[k]?):xE w' o:=⟨h.1.away G F,h.2.1.away G F,h.2.2⟩
theorem z3x {α:Type}{ec:α->List Value}{n B k:Nat}{T:TypeId}{w:World}{v:Value}{L:List α} (h:yN ec n T B w v L) (e:v.ownBlock=some k):∃C,w.heap[k]?=some (.cells C T (0,0)):=by
 rcases h.2 with ⟨rfl,_⟩|⟨g,xz,cur,rfl,_,F,_⟩
 ·cases e
 ·obtain rfl:g=k:=by injection e
  exact⟨_,F⟩
section
attribute [local go_sem ↓] qL qv qw zm zq zr jS
theorem z7j {b c a:Nat} (V:yV) (C:Array Value) (x:kr) (s3:Value) (Ls:List KK) (w:World) (hv:jL w b c a V) (g:V.Good) (hC:vd w C V) (hx:QV w x) (hxl:x.bl.length<=1200) (ho:jE ocl 2 w s3 Ls) (hoo:∀o∈Ls,xE w o)
  (hact:x.act=0\/x.act=1) (hKT:∀W,zJ b a w W->yB 1 W/\yB 0 W):
  Calls prog 16 #[.pointer (some ⟨b,0,none⟩),.agg C,.agg (J7 x),s3] w (KL b c a w):=by
 have HG:=z0 g;have HKT:=z0 hKT;have HXO:=z0 hx.1
 have HXN:=z0 (show x.n<=9223372036854775807/\-9223372036854775808<=x.m/\x.m<=9223372036854775807 from by
  have h1:-9223372036854775808<=x.n/\x.n<=9223372036854775807:=by simpa [Lit.wf,IntKind.min,IntKind.max,IntKind.signed,IntKind.bits] using hx.2.1.1
  have h2:-9223372036854775808<=x.m/\x.m<=9223372036854775807:=by simpa [Lit.wf,IntKind.min,IntKind.max,IntKind.signed,IntKind.bits] using hx.2.1.2.1
  exact⟨h1.2,h2.1,h2.2⟩)
 have HXB:Hd (∀W,zJ b a w W->zP W x.b x.bl):=z0 (fun W t=>hv.turned hx.2.2 t);have HXL:=z0 hxl;obtain⟨A3,d3,rfl⟩:=ho.shape
 have HOLD:Hd (∀k (h:k<Ls.length),∃bo oo,A3=some ⟨bo,oo,none⟩/\bo<w.heap.size/\w.cell? ⟨bo,oo+k*2,none⟩=some (.slice Ls[k].A0 Ls[k].l0.length Ls[k].c0)/\w.cell? ⟨bo,oo+k*2+1,none⟩=some (.slice Ls[k].A1 Ls[k].l1.length Ls[k].c1)/\xE w Ls[k]):=z0 (fun k hk=>by
  obtain⟨bo,oo,e,hb,hc⟩:=ho.at_.2.2.2 (by omega)
  exact⟨bo,oo,e,hb,hc k hk 0 _ rfl,hc k hk 1 _ rfl,hoo _ (List.getElem_mem hk)⟩)
 have HTO:Hd (∀W v l,zP w v l->zJ b a w W->zP W v l):=z0 (fun W v l h t=>hv.turned h t);obtain⟨N3,HN3⟩:=nm (Ls.length:Nat);rw[HN3.o];obtain⟨AX,HAX⟩:=nm (J7 x)
 have HACT:Hd (∀(W:World) (gx:Nat),W.heap[gx]?=some (.cells AX 62 (0,0))->(W.cell? ⟨gx,0,none⟩=some (.int .i64 x.act)/\W.cell? ⟨gx,36,none⟩=some (.int .i64 x.n)/\W.cell? ⟨gx,37,none⟩=some (.int .i64 x.m)/\W.cell? ⟨gx,38,none⟩=some (.int .i64 x.k)/\W.cell? ⟨gx,39,none⟩=some x.b)/\zW (.pointer (some ⟨gx,1,none⟩)) W=.ok (.value (.agg (zp x.s))) W):=z0 (fun W gx h=>by
  rw[<-HAX.o]at h;have h2:Qp W gx x:=h
  exact⟨h2.cells HXO.o,h2.sealed HXO.o⟩)
 obtain⟨SC,HSC⟩:=nm (zp x.s);rw[HSC.o]at HACT;rw[HAX.o];have hr5:=Xh w (.cells C 36);have hb5:Below w.heap.size w (w.alloc (.cells C 36)):=Ba;have hsz5:(w.alloc (.cells C 36)).heap.size=w.heap.size+1:=by simp
 have hr6:=Xh (w.alloc (.cells C 36)) (.cells AX 62);have hb6:Below (w.alloc (.cells C 36)).heap.size (w.alloc (.cells C 36)) ((w.alloc (.cells C 36)).alloc (.cells AX 62)):=Ba;have hsz6:((w.alloc (.cells C 36)).alloc (.cells AX 62)).heap.size=w.heap.size+2:=by simp
 have hal:=yo ((w.alloc (.cells C 36)).alloc (.cells AX 62));have hr8:=Xh ((w.alloc (.cells C 36)).alloc (.cells AX 62)) (.cells xq 36);have hb8:Below ((w.alloc (.cells C 36)).alloc (.cells AX 62)).heap.size ((w.alloc (.cells C 36)).alloc (.cells AX 62)) (((w.alloc (.cells C 36)).alloc (.cells AX 62)).alloc (.cells xq 36)):=Ba;have hbz:=(hb5.trans (hb6.mono hb5.size)).trans (hb8.mono (Nat.le_trans hb5.size hb6.size));have hr5z:=(hb8.block _ (by have:=Lb hr5;omega)).trans ((hb6.block _ (Lb hr5)).trans hr5);have hr6z:=(hb8.block _ (Lb hr6)).trans hr6;rw[hsz5]at hr6z;rw[hsz6]at hr8 hal;have HS0:Hd (xB w (((w.alloc (.cells C 36)).alloc (.cells AX 62)).alloc (.cells xq 36)) b c a w.heap.size V V C AX):=z0 ⟨hv.below hbz,hr5z,hr6z,hr8,hC.below hbz,zJ.of hbz⟩;have HLE:=z0 (Nat.le_refl w.heap.size);have HOB:=z0 hbz.block;clear hv g hC hx hxl ho hoo hKT hr5 hb5 hsz5 hr6 hb6 hsz6 hr8 hb8 hbz hr5z hr6z HAX;go_enter func16,ntmps16;go_upto_region 1 with(fail)
 clear hal;generalize (((w.alloc (.cells C 36)).alloc (.cells AX 62)).alloc (.cells xq 36))=wz at *;have x0:=(HACT.o wz _ HS0.o.r6).1.1;have HACD:=z0 x0;clear x0;obtain⟨act,HAC⟩:=nm (x.act);rw[HAC.o]at HACD HACT;have x0:=HACD.o;have hact2:act=0\/act=1:=by rw[<-HAC.o];exact hact
 clear hact;by_cases d0:act=0
 ·as_aux_lemma=>
  subst d0;have hld5:=HS0.o.ld5;have xs:=(HACT.o wz _ HS0.o.r6).2
  have HRK:Hd (Calls prog 32 #[.agg C,.agg SC] wz (zak (yM V x.s) (yq V x.s) wz)):=z0 (by
   have:=Qz V C x.s wz HS0.o.rc HG.o HXO.o (HKT.o wz HS0.o.t).2;rw[HSC.o]at this
   exact this)
  have HVK:Hd (∀W,zJ b a w W->jL W b c a V->Calls prog 40 #[.pointer (some ⟨b,0,none⟩),.agg SC] W fun e w'=>e=.returned (.int .i64 (yM V x.s))/\jL w' b c a (yq V x.s)/\zJ b a W w'):=z0 (fun W t hv=>by
   have:=z2e hv HG.o x.s HXO.o (HKT.o W t).1;rw[HSC.o]at this
   exact this)
  have HGK:=z0 (V0 (s:=x.s) HG.o HXO.o);obtain⟨kE,HKE⟩:=nm (yM V x.s);obtain⟨kV,HKV⟩:=nm (yq V x.s);rw[HKE.o,HKV.o]at HRK HVK;rw[HKV.o]at HGK;go_wp2_with fail;refine HRK.o.mono ?_;rintro e w1 ⟨C1,rfl,hC1,hb1⟩;have hal:=yo w1;have hsv:=Va w1 (Z:=xq) rfl hC1.size hC1.one;have hb2:=hb1.alloc hb1.size (.cells C1 36);have HS2:=z0 (HS0.o.below hb2);have HC2:=z0 (hC1.below (show Below w1.heap.size w1 (w1.alloc (.cells C1 36)) from Ba));have HR2:=z0 (Xh w1 (.cells C1 36));clear hC1 hb1 hb2 hld5 xs x0;go_upto_region 4 with(fail)
  clear hal hsv;generalize (w1.alloc (.cells C1 36))=w2 at *;generalize w1.heap.size=g10 at *;have hke:(kE == kE)=true:=by simp
  have hdr:Below w2.heap.size w2 w2.drew:=(Below.refl _ _).drew;have HS2d:=z0 (HS2.o.below hdr);have HR2d:Hd (w2.drew.heap[g10]?=some (.cells C1 36 (0,0))):=HR2;have HC2d:=z0 (HC2.o.below hdr);refine Rh (S:=fun W=>xR (.pointer (some ⟨g10,0,none⟩)) W=.ok (.value (.agg C1)) W/\zW (.pointer (some ⟨w.heap.size+1,1,none⟩)) W=.ok (.value (.agg SC)) W) (by kernel_rfl) ⟨j3 HR2d.o HC2d.o.size,(HACT.o _ _ HS2d.o.r6).2⟩ (fun hHeld=>?_);refine' tk (i:=0) (v:=_) rfl (fun W hW=>hW.1) ?_;try simp only[zx]
  refine' z5 1 (h:=z5 2 (h:=?_));refine' tk (i:=3) (v:=_) rfl (fun W hW=>hW.2) ?_;try simp only[zx]
  refine' z5 5 (h:=?_);refine qc 4 (h:=fun K hK=>?_);go_simp;refine(HVK.o _ HS2d.o.t HS2d.o.v).mono ?_;rintro e w3 ⟨rfl,h3,t3⟩;have HS3:=z0 (HS2d.o.turn t3 h3);have HR3:=z0 (HS2d.o.v.other HR2d.o (by decide) (by decide) t3);have HC3:=z0 (HS2d.o.v.turnedR HC2d.o t3);refine hK.out _ _ (⟨j3 HR3.o HC3.o.size,(HACT.o _ _ HS3.o.r6).2⟩) (fun hHeld=>?_);clear hK K;try simp only[zx]
  refine' z5 6 (h:=?_);obtain⟨hst,hrw,hvf,hrc,htf⟩:=HS3.o.fin HLE.o HC3.o;have HRW:=z0 hrw;have HVF:=z0 hvf;have HRC:=z0 hrc;have HTF:=z0 htf
  have HR9:=z0 (show(setSe w3 (w.heap.size+2) C1).heap[g10]?=some (.cells C1 36 (0,0)) from by
   by_cases e:g10=w.heap.size+2
   ·rw[e];exact hrw
   ·exact(zl _ _ e).trans HR3.o)
  have HR69:=z0 (show(setSe w3 (w.heap.size+2) C1).heap[w.heap.size+1]?=some (.cells AX 62 (0,0)) from(zl _ _ (by omega)).trans HS3.o.r6);clear hrw hvf hrc htf;refine qc 7 (h:=fun K hK=>?_);go_simp;refine hK.out _ _ (⟨j3 HR9.o HC3.o.size,(HACT.o _ _ HR69.o).2⟩) (fun hHeld=>?_);clear hK K;try simp only[zx]
  refine' z5 8 (h:=?_);refine wpAnyH_done (by kernel_rfl) ?_ _;clear hHeld hst hke hdr h3 t3;go_wp2;try simp only[Exit.inBlock,Exit.then]
  refine Bp (zv rfl _ _ _ _ _ _ rfl rfl HRW.o HRC.o.size) rfl ⟨_,_,rfl,HVF.o,HGK.o,HRC.o,HTF.o⟩
 by_cases d1:act=1
 ·as_aux_lemma=>
  subst d1;clear d0;have hld5:=HS0.o.ld5;obtain⟨S,HS⟩:=nm (zp (jH V));obtain⟨E,HE⟩:=nm (vH V);have HSS:Hd (S.size=35/\S.all (·.oneCell')=true):=z0 (by rw[<-HS.o];exact⟨zd (kZ _),y7 _⟩)
  have HEQ:Hd (∀W,z8n (.agg S) (.agg S) W=.ok (.value (.bool true)) W):=z0 (fun W=>by
   have:=z3c (jH V) (jH V) (kZ _) (kZ _) W;rw[HS.o,decide_eq_true rfl]at this
   exact this)
  obtain⟨Z,HZ⟩:=nm (zp yj);have HZS:Hd (Z.size=35):=z0 (by rw[<-HZ.o];exact zd qp);have HAL:Hd (∀W,qj W=.ok (.value (.pointer (some ⟨W.heap.size,0,none⟩))) (W.alloc (.cells Z 40))):=z0 (fun W=>by rw[<-HZ.o];exact zX W)
  have HRL:Hd (Calls prog 31 #[.agg C] wz fun e w'=>e=.returned (.tuple #[.agg S,.int .i64 E])/\Below wz.heap.size wz w'):=z0 (by
   have:=JN V C wz HS0.o.rc HG.o (HKT.o wz HS0.o.t).2;rw[HS.o,HE.o]at this
   exact this)
  have HVL:Hd (∀W,zJ b a w W->jL W b c a V->Calls prog 28 #[.pointer (some ⟨b,0,none⟩)] W fun e w'=>e=.returned (.tuple #[.agg S,.int .i64 E])/\Below W.heap.size W w'):=z0 (fun W t hv=>by
   have:=z2f hv HG.o (HKT.o W t).1;rw[HS.o,HE.o]at this
   exact this)
  clear HS HE HZ;go_wp2_with fail;refine HRL.o.mono ?_;rintro e w1 ⟨rfl,hb1⟩;have hal:=HAL.o;have hs1:=kF w1 HZS.o HSS.o.1 HSS.o.2;have hb2:=hb1.alloc hb1.size (.cells S 40);have HS2:=z0 (HS0.o.below hb2);have HR2:=z0 (Xh w1 (.cells S 40));clear hb1 hb2 hld5 x0;go_upto_region 7 with(fail)
  clear hal hs1;generalize (w1.alloc (.cells S 40))=w2 at *;generalize w1.heap.size=g12 at *;go_wp2_with fail;refine(HVL.o w2 HS2.o.t HS2.o.v).mono ?_;rintro e w3 ⟨rfl,hb3⟩;have hal:=HAL.o;have hs3:=kF w3 HZS.o HSS.o.1 HSS.o.2;have hb4:=hb3.alloc hb3.size (.cells S 40);have HS4:=z0 (HS2.o.below hb4);have HR4:=z0 ((hb4.block _ (Lb HR2.o)).trans HR2.o);have HR5:=z0 (Xh w3 (.cells S 40));clear hb3 hb4;go_upto_region 8 with(fail)
  clear hal hs3;generalize (w3.alloc (.cells S 40))=w4 at *;generalize w3.heap.size=g14 at *;have hee:(E == E)=true:=by simp
  have heq:=HEQ.o;have hdr:Below w4.heap.size w4 w4.drew:=(Below.refl _ _).drew;have HSd:=z0 (HS4.o.below hdr);have HRa:Hd (w4.drew.heap[g12]?=some (.cells S 40 (0,0))):=HR4;have HRb:Hd (w4.drew.heap[g14]?=some (.cells S 40 (0,0))):=HR5;refine Rh (S:=fun W=>xR (.pointer (some ⟨w.heap.size,0,none⟩)) W=.ok (.value (.agg C)) W/\zW (.pointer (some ⟨g12,0,none⟩)) W=.ok (.value (.agg S)) W/\zW (.pointer (some ⟨g14,0,none⟩)) W=.ok (.value (.agg S)) W) (by kernel_rfl) ⟨HSd.o.ld5,zj HRa.o HSS.o.1,zj HRb.o HSS.o.1⟩ (fun hHeld=>?_);refine' tk (i:=0) (v:=_) rfl (fun W hW=>hW.1) ?_;try simp only[zx]
  refine' tk (i:=1) (v:=_) rfl (fun W hW=>hW.2.1) ?_;try simp only[zx]
  refine' tk (i:=2) (v:=_) rfl (fun W hW=>hW.2.2) ?_;try simp only[zx]
  refine' z5 3 (h:=z5 4 (h:=z5 5 (h:=z5 6 (h:=z5 7 (h:=z5 8 (h:=?_))))));obtain⟨hst,hrw,hvf,hrc,htf⟩:=HSd.o.fin HLE.o HSd.o.rc;have HRW:=z0 hrw;have HVF:=z0 hvf;have HRC:=z0 hrc;have HTF:=z0 htf;have HN12:=z0 (show g12≠w.heap.size+2 from q9 HRa.o HSd.o.r8 (by decide));have HN14:=z0 (show g14≠w.heap.size+2 from q9 HRb.o HSd.o.r8 (by decide));have HR0:=z0 (show(setSe w4.drew (w.heap.size+2) C).heap[w.heap.size]?=some (.cells C 36 (0,0)) from(zl _ _ (by omega)).trans HSd.o.r5);clear hrw hvf hrc htf;refine qc 9 (h:=fun K hK=>?_);go_simp;refine hK.out _ _ (⟨j3 HR0.o HSd.o.rc.size,zj ((zl _ _ HN12.o).trans HRa.o) HSS.o.1,zj ((zl _ _ HN14.o).trans HRb.o) HSS.o.1⟩) (fun hHeld=>?_);clear hK K;try simp only[zx]
  refine' z5 10 (h:=?_);refine wpAnyH_done (by kernel_rfl) ?_ _;clear hHeld hst hee heq hdr;go_wp2;try simp only[Exit.inBlock,Exit.then]
  refine Bp (zv rfl _ _ _ _ _ _ rfl rfl HRW.o HRC.o.size) rfl ⟨_,_,rfl,HVF.o,HG.o,HRC.o,HTF.o⟩
 ·exact(hact2.elim d0 d1).elim
end
section
attribute [local go_sem ↓] qL qv qw zm zq zr jS
theorem zbJ {b c a:Nat} (V:yV) (C:Array Value) (x:kr) (bu:Value) (Ls:List KK) (w:World) (au:jL w b c a V) (g:V.Good) (bm:vd w C V) (hx:QV w x) (br:x.bl.length<=1200) (ho:jE ocl 2 w bu Ls) (bv:∀o∈Ls,xE w o)
  (bh:x.act=2) (bj:∀W,zJ b a w W->yB 1 W/\yB 0 W):
  Calls prog 16 #[.pointer (some ⟨b,0,none⟩),.agg C,.agg (J7 x),bu] w (KL b c a w):=by
 have aK:=z0 g;have c7:=z0 bj;have bC:=z0 hx.1
 have c9:=z0 (show x.n<=9223372036854775807/\-9223372036854775808<=x.m/\x.m<=9223372036854775807 from by
  have h1:-9223372036854775808<=x.n/\x.n<=9223372036854775807:=by simpa [Lit.wf,IntKind.min,IntKind.max,IntKind.signed,IntKind.bits] using hx.2.1.1
  have h2:-9223372036854775808<=x.m/\x.m<=9223372036854775807:=by simpa [Lit.wf,IntKind.min,IntKind.max,IntKind.signed,IntKind.bits] using hx.2.1.2.1
  exact⟨h1.2,h2.1,h2.2⟩)
 have bR:Hd (∀W,zJ b a w W->zP W x.b x.bl):=z0 (fun W t=>au.turned hx.2.2 t);have bJ:=z0 br;obtain⟨bP,c6,rfl⟩:=ho.shape
 have c4:Hd (∀k (h:k<Ls.length),∃bo ay,bP=some ⟨bo,ay,none⟩/\bo<w.heap.size/\w.cell? ⟨bo,ay+k*2,none⟩=some (.slice Ls[k].A0 Ls[k].l0.length Ls[k].c0)/\w.cell? ⟨bo,ay+k*2+1,none⟩=some (.slice Ls[k].A1 Ls[k].l1.length Ls[k].c1)/\xE w Ls[k]):=z0 (fun k b5=>by
  obtain⟨bo,ay,e,bQ,bz⟩:=ho.at_.2.2.2 (by omega)
  exact⟨bo,ay,e,bQ,bz k b5 0 _ rfl,bz k b5 1 _ rfl,bv _ (List.getElem_mem b5)⟩)
 have cd:Hd (∀W v l,zP w v l->zJ b a w W->zP W v l):=z0 (fun W v l h t=>au.turned h t);obtain⟨c2,bO⟩:=nm (Ls.length:Nat);rw[bO.o];obtain⟨AX,aV⟩:=nm (J7 x)
 have aB:Hd (∀(W:World) (N:Nat),W.heap[N]?=some (.cells AX 62 (0,0))->(W.cell? ⟨N,0,none⟩=some (.int .i64 x.act)/\W.cell? ⟨N,36,none⟩=some (.int .i64 x.n)/\W.cell? ⟨N,37,none⟩=some (.int .i64 x.m)/\W.cell? ⟨N,38,none⟩=some (.int .i64 x.k)/\W.cell? ⟨N,39,none⟩=some x.b)/\zW (.pointer (some ⟨N,1,none⟩)) W=.ok (.value (.agg (zp x.s))) W):=z0 (fun W N h=>by
  rw[<-aV.o]at h;have h2:Qp W N x:=h
  exact⟨h2.cells bC.o,h2.sealed bC.o⟩)
 obtain⟨bZ,bW⟩:=nm (zp x.s);rw[bW.o]at aB;rw[aV.o];have aO:=Xh w (.cells C 36);have ah:Below w.heap.size w (w.alloc (.cells C 36)):=Ba;have bE:(w.alloc (.cells C 36)).heap.size=w.heap.size+1:=by simp
 have aU:=Xh (w.alloc (.cells C 36)) (.cells AX 62);have a5:Below (w.alloc (.cells C 36)).heap.size (w.alloc (.cells C 36)) ((w.alloc (.cells C 36)).alloc (.cells AX 62)):=Ba;have bB:((w.alloc (.cells C 36)).alloc (.cells AX 62)).heap.size=w.heap.size+2:=by simp
 have bf:=yo ((w.alloc (.cells C 36)).alloc (.cells AX 62));have b7:=Xh ((w.alloc (.cells C 36)).alloc (.cells AX 62)) (.cells xq 36);have aF:Below ((w.alloc (.cells C 36)).alloc (.cells AX 62)).heap.size ((w.alloc (.cells C 36)).alloc (.cells AX 62)) (((w.alloc (.cells C 36)).alloc (.cells AX 62)).alloc (.cells xq 36)):=Ba;have aC:=(ah.trans (a5.mono ah.size)).trans (aF.mono (Nat.le_trans ah.size a5.size));have bD:=(aF.block _ (by have:=Lb aO;omega)).trans ((a5.block _ (Lb aO)).trans aO);have aZ:=(aF.block _ (Lb aU)).trans aU;rw[bE]at aZ;rw[bB]at b7 bf;have az:Hd (xB w (((w.alloc (.cells C 36)).alloc (.cells AX 62)).alloc (.cells xq 36)) b c a w.heap.size V V C AX):=z0 ⟨au.below aC,bD,aZ,b7,bm.below aC,zJ.of aC⟩;have ao:=z0 (Nat.le_refl w.heap.size);have cb:=z0 aC.block;clear au g bm hx br ho bv bj aO ah bE aU a5 bB b7 aF aC bD aZ aV;go_enter func16,ntmps16;go_upto_region 1 with(fail)
 clear bf;generalize (((w.alloc (.cells C 36)).alloc (.cells AX 62)).alloc (.cells xq 36))=ab at *;have x0:=(aB.o ab _ az.o.r6).1.1;have bx:=z0 x0;clear x0;obtain⟨act,aE⟩:=nm (x.act);rw[aE.o]at bx aB;have x0:=bx.o;have bT:act=2:=by rw[<-aE.o];exact bh
 have bX:¬act=0:=by rw[<-aE.o];omega
 have bU:¬act=1:=by rw[<-aE.o];omega
 clear bh;subst bT;clear bX bU;have aG:=(aB.o ab _ az.o.r6).1.2.2.2.2;have ar:=bR;have aW:=bJ;unfold kr.b at aG ar;obtain⟨F,bM⟩:=nm (x.bl);rw[bM.o]at aG ar aW;obtain⟨ca,bI⟩:=nm (Value.slice x.bA F.length x.bc:Value);rw[bI.o]at aG ar;go_upto_region 14 with(fail)
 clear aG;obtain⟨bY,c5,bd⟩:=(ar.o ab az.o.t).shape;obtain⟨a9,aq⟩:=nm (F.length:Nat);rw[aq.o]at bd;subst bd;have aR:Hd (∀W v,zJ b a w W->jL W b c a V->zP W v F->Calls prog 41 #[.pointer (some ⟨b,0,none⟩),.int .i64 x.n,v] W fun e w'=>e=.returned (.int .i64 (jN x.n F))/\jL w' b c a (jB V x.n F)/\zJ b a W w'):=z0 (fun W v t au bH=>Jt au x.n bH);have b8:=z0 (Yi aK.o x.n F);obtain⟨bG,aM⟩:=nm (jN x.n F);obtain⟨bi,aD⟩:=nm (jB V x.n F);rw[aM.o,aD.o]at aR;rw[aD.o]at b8;obtain⟨n,bF⟩:=nm (x.n)
 have a4:Hd (∀(W:World) (N:Nat),W.heap[N]?=some (.cells AX 62 (0,0))->W.cell? ⟨N,36,none⟩=some (.int .i64 n)):=z0 (fun W N h=>by
  have:=(aB.o W N h).1.2.1;rw[bF.o]at this
  exact this)
 rw[bF.o]at aR aM aD;go_upto_region 14 with(fail)
 have bt:=((Below.refl ab.heap.size ab).drew).alloc (Nat.le_refl _) (.cells #[] 5);have bq:=z0 (az.o.below bt);have bk:=z0 (az.o.below ((Below.refl ab.heap.size ab).drew));have an:([]:List UInt8).length+F.length<=140737488355328:=by have:=aW.o;simp only[List.length_nil];omega
 have ap:=ar.o _ bq.o.t;refine Rh (S:=fun W=>W.cell? ⟨w.heap.size+1,36,none⟩=some (.int .i64 n)) (by kernel_rfl) (a4.o _ _ bk.o.r6) (fun a1=>?_);refine' z5 0 (h:=z5 1 (h:=z5 2 (h:=z5 4 (h:=?_))));refine qc 3 (h:=fun K G=>?_);go_simp;refine G.out _ _ (a4.o _ _ bq.o.r6) (fun a1=>?_);clear G K;try simp only[zx]
 refine qc 5 (h:=fun K G=>?_);refine zF (.tmp 91) (.tmp 92) rfl rfl rfl (qQ ab.drew) ap an (yL ab.drew _) ?_;intro c8 bg b0 bp _;simp only[List.nil_append]at b0;have be:Below ab.drew.heap.size ab.drew bg:=qy bp;have aI:=z0 (bk.o.below be);have b6:=b0.byt;obtain⟨cc,c3,r3⟩:=b6.shape;rw[aq.o]at r3;subst r3;refine G.out _ _ (a4.o _ _ aI.o.r6) (fun a1=>?_);clear G K;try simp only[zx]
 refine qc 6 (h:=fun K G=>?_);go_simp;refine(aR.o bg _ aI.o.t aI.o.v b6).mono ?_;rintro e J ⟨rfl,bn,bw⟩;have a6:=z0 (aI.o.turn bw bn);refine G.out _ _ (a4.o _ _ a6.o.r6) (fun a1=>?_);clear G K;try simp only[zx]
 refine' z5 7 (h:=?_);refine wpAnyH_done (by kernel_rfl) ?_ _;clear a1 bt an ap b0 bp be b6 bn bw;have bV:=a4.o _ _ a6.o.r6
 have bN:Hd ((jN n F=1/\jB V n F=V)\/(¬n<0/\¬1<n/\¬1000<F.length)):=z0 (by
  unfold jN jB;by_cases h:n<0\/1<n\/1000<F.length
  ·rw[if_pos h,if_pos h];exact .inl ⟨rfl,rfl⟩
  ·exact .inr ⟨fun e=>h (.inl e),fun e=>h (.inr (.inl e)),fun e=>h (.inr (.inr e))⟩)
 have al:Hd (n<0\/1<n\/1000<F.length->bG=1/\bi=V):=z0 (fun h=>by
  rw[<-aM.o,<-aD.o];unfold jN jB;rw[if_pos h,if_pos h]
  exact⟨rfl,rfl⟩)
 have ax:Hd (¬(n<0\/1<n\/1000<F.length)->bG=0/\bi=zu V n F):=z0 (fun h=>by
  rw[<-aM.o,<-aD.o];unfold jN jB;rw[if_neg h,if_neg h]
  exact⟨rfl,rfl⟩)
 have aT:=a6.o.ld5;by_cases aS:n<0
 ·obtain⟨aj,am⟩:=al.o (.inl aS);obtain rfl:=aj;obtain rfl:=am.symm;clear al ax;obtain⟨aQ,a2,a3,O,M⟩:=a6.o.fin ao.o a6.o.rc;have af:=z0 a2;have ad:=z0 a3;have a0:=z0 O;have ae:=z0 M;clear a2 a3 O M;go_wp2;try simp only[Exit.inBlock,Exit.then]
  refine Bp (zv rfl _ _ _ _ _ _ rfl rfl af.o a0.o.size) rfl ⟨_,_,rfl,ad.o,aK.o,a0.o,ae.o⟩
 by_cases p1:1<n
 ·obtain⟨aj,am⟩:=al.o (.inr (.inl p1));obtain rfl:=aj;obtain rfl:=am.symm;clear al ax;obtain⟨aQ,a2,a3,O,M⟩:=a6.o.fin ao.o a6.o.rc;have af:=z0 a2;have ad:=z0 a3;have a0:=z0 O;have ae:=z0 M;clear a2 a3 O M;go_wp2;try simp only[Exit.inBlock,Exit.then]
  refine Bp (zv rfl _ _ _ _ _ _ rfl rfl af.o a0.o.size) rfl ⟨_,_,rfl,ad.o,aK.o,a0.o,ae.o⟩
 by_cases p2:(1000:Int)<(a9:Int)
 ·obtain⟨aj,am⟩:=al.o (.inr (.inr (by rw[aq.o];omega)));obtain rfl:=aj;obtain rfl:=am.symm;clear al ax;obtain⟨aQ,a2,a3,O,M⟩:=a6.o.fin ao.o a6.o.rc;have af:=z0 a2;have ad:=z0 a3;have a0:=z0 O;have ae:=z0 M;clear a2 a3 O M;go_wp2;try simp only[Exit.inBlock,Exit.then]
  refine Bp (zv rfl _ _ _ _ _ _ rfl rfl af.o a0.o.size) rfl ⟨_,_,rfl,ad.o,aK.o,a0.o,ae.o⟩
 obtain⟨aj,am⟩:=ax.o (by rintro (h|h|h);exact aS h;exact p1 h;rw[aq.o]at h;omega);obtain rfl:=aj;obtain rfl:=am;clear al ax bN;go_upto_region 17 with(fail)
 clear p2 bV aT;have bL:n=0\/n=1:=by omega
 clear aS p1;have ah:=((Below.refl J.heap.size J).drew).alloc (Nat.le_refl _) (.cells #[] 5);have bb:=z0 (a6.o.below ah);have aP:=z0 (a6.o.below ((Below.refl J.heap.size J).drew));have an:([]:List UInt8).length+F.length<=140737488355328:=by have:=aW.o;simp only[List.length_nil];omega
 have ap:=ar.o _ bb.o.t;obtain⟨u0,u1,uh,ai,av,aH,aL,aJ,aN⟩:=a6.o.rc;rcases bL with rfl|rfl
 ·refine Rh (S:=fun W=>W.cell? ⟨w.heap.size+1,36,none⟩=some (.int .i64 0)) (by kernel_rfl) (a4.o _ _ aP.o.r6) (fun a1=>?_);refine' z5 0 (h:=z5 1 (h:=z5 3 (h:=z5 5 (h:=?_))));refine qc 2 (h:=fun K G=>?_);go_simp;refine G.out _ _ (a4.o _ _ bb.o.r6) (fun a1=>?_);clear G K;try simp only[zx]
  refine qc 4 (h:=fun K G=>?_);refine zF (.tmp 113) (.tmp 114) rfl rfl rfl (qQ J.drew) ap an (yL J.drew _) ?_;intro bK I ag aA _;simp only[List.nil_append]at ag;have a5:Below J.drew.heap.size J.drew I:=qy aA;have ak:=z0 (aP.o.below a5);have ba:=z0 ag.bys;obtain⟨a7,aa,r6⟩:=ag.byt.shape;rw[aq.o]at r6;subst r6;refine G.out _ _ (a4.o _ _ ak.o.r6) (fun a1=>?_);clear G K;try simp only[zx]
  refine' z5 6 (h:=?_)
  have aw:=z0 (show qW I u0 V.s0/\qW I u1 V.s1/\qW I uh V.torn from by
   have hq:Below J.heap.size J I:=((Below.refl J.heap.size J).drew).trans a5
   exact⟨aH.below hq,aL.below hq,aJ.below hq⟩)
  have aY:Hd (vd I (yK (zu V 0 F) (.slice a7 a9 aa) u1 uh ai) (zu V 0 F)):=z0 ⟨_,_,_,_,rfl,ba.o,aw.o.2.1,aw.o.2.2,aN⟩
  have a8:Hd (xB w (I.setCell ⟨w.heap.size,1,none⟩ (.slice a7 a9 aa)) b c a w.heap.size (zu V 0 F) (zu V 0 F) (yK (zu V 0 F) (.slice a7 a9 aa) u1 uh ai) AX):=z0 (ak.o.set ao.o (fun h=>by
   rw[av]at h
   exact j9.set (V':=zu V 0 F) (u0:=(.slice a7 a9 aa)) (u1:=u1) (uh:=uh) (k:=ai) h rfl) aY.o)
  obtain⟨b9,aX,b4⟩:I.cell? ⟨w.heap.size,1,none⟩=some u0/\I.cell? ⟨w.heap.size,2,none⟩=some u1/\I.frozen? ⟨w.heap.size,1,none⟩=false:=by
   have h:=ak.o.r5;rw[av]at h;exact⟨(js h).2.1,(js h).2.2.1,jh h _⟩
  refine qc 7 (h:=fun K G=>?_);go_simp;refine G.out _ _ (a4.o _ _ a8.o.r6) (fun a1=>?_);clear G K;try simp only[zx]
  refine wpAnyH_done (by kernel_rfl) ?_ _;clear a1 ah an ap ag aA a5 b9 aX b4 av aH aL aJ aN;obtain⟨bS,b1⟩:=nm (yK (zu V 0 F) (.slice a7 a9 aa) u1 uh ai);rw[b1.o]at a8;have aT:=a8.o.ld5;obtain⟨aQ,a2,a3,O,M⟩:=a8.o.fin ao.o a8.o.rc;have af:=z0 a2;have ad:=z0 a3;have a0:=z0 O;have ae:=z0 M;clear a2 a3 O M;go_wp2;try simp only[Exit.inBlock,Exit.then]
  refine Bp (zv rfl _ _ _ _ _ _ rfl rfl af.o a0.o.size) rfl ⟨_,_,rfl,ad.o,b8.o,a0.o,ae.o⟩
 ·refine Rh (S:=fun W=>W.cell? ⟨w.heap.size+1,36,none⟩=some (.int .i64 1)) (by kernel_rfl) (a4.o _ _ aP.o.r6) (fun a1=>?_);refine' z5 0 (h:=z5 1 (h:=z5 3 (h:=z5 5 (h:=?_))));refine qc 2 (h:=fun K G=>?_);go_simp;refine G.out _ _ (a4.o _ _ bb.o.r6) (fun a1=>?_);clear G K;try simp only[zx]
  refine qc 4 (h:=fun K G=>?_);refine zF (.tmp 113) (.tmp 114) rfl rfl rfl (qQ J.drew) ap an (yL J.drew _) ?_;intro bK I ag aA _;simp only[List.nil_append]at ag;have a5:Below J.drew.heap.size J.drew I:=qy aA;have ak:=z0 (aP.o.below a5);have ba:=z0 ag.bys;obtain⟨a7,aa,r6⟩:=ag.byt.shape;rw[aq.o]at r6;subst r6;refine G.out _ _ (a4.o _ _ ak.o.r6) (fun a1=>?_);clear G K;try simp only[zx]
  refine' z5 6 (h:=?_)
  have aw:=z0 (show qW I u0 V.s0/\qW I u1 V.s1/\qW I uh V.torn from by
   have hq:Below J.heap.size J I:=((Below.refl J.heap.size J).drew).trans a5
   exact⟨aH.below hq,aL.below hq,aJ.below hq⟩)
  have aY:Hd (vd I (yK (zu V 1 F) u0 (.slice a7 a9 aa) uh ai) (zu V 1 F)):=z0 ⟨_,_,_,_,rfl,aw.o.1,ba.o,aw.o.2.2,aN⟩
  have a8:Hd (xB w (I.setCell ⟨w.heap.size,2,none⟩ (.slice a7 a9 aa)) b c a w.heap.size (zu V 1 F) (zu V 1 F) (yK (zu V 1 F) u0 (.slice a7 a9 aa) uh ai) AX):=z0 (ak.o.set ao.o (fun h=>by
   rw[av]at h
   exact j9.set (V':=zu V 1 F) (u0:=u0) (u1:=(.slice a7 a9 aa)) (uh:=uh) (k:=ai) h rfl) aY.o)
  obtain⟨b9,aX,b4⟩:I.cell? ⟨w.heap.size,1,none⟩=some u0/\I.cell? ⟨w.heap.size,2,none⟩=some u1/\I.frozen? ⟨w.heap.size,2,none⟩=false:=by
   have h:=ak.o.r5;rw[av]at h;exact⟨(js h).2.1,(js h).2.2.1,jh h _⟩
  refine qc 7 (h:=fun K G=>?_);go_simp;refine G.out _ _ (a4.o _ _ a8.o.r6) (fun a1=>?_);clear G K;try simp only[zx]
  refine wpAnyH_done (by kernel_rfl) ?_ _;clear a1 ah an ap ag aA a5 b9 aX b4 av aH aL aJ aN;obtain⟨bS,b1⟩:=nm (yK (zu V 1 F) u0 (.slice a7 a9 aa) uh ai);rw[b1.o]at a8;have aT:=a8.o.ld5;obtain⟨aQ,a2,a3,O,M⟩:=a8.o.fin ao.o a8.o.rc;have af:=z0 a2;have ad:=z0 a3;have a0:=z0 O;have ae:=z0 M;clear a2 a3 O M;go_wp2;try simp only[Exit.inBlock,Exit.then]
  refine Bp (zv rfl _ _ _ _ _ _ rfl rfl af.o a0.o.size) rfl ⟨_,_,rfl,ad.o,b8.o,a0.o,ae.o⟩
end
section
attribute [local go_sem ↓] qL qv qw zm zq zr jS
theorem zbK {b c a:Nat} (V:yV) (C:Array Value) (x:kr) (bT:Value) (Ls:List KK) (w:World) (ax:jL w b c a V) (g:V.Good) (bH:vd w C V) (hx:QV w x) (bQ:x.bl.length<=1200) (ho:jE ocl 2 w bT Ls) (bU:∀o∈Ls,xE w o)
  (bw:x.act=3) (bS:0<=x.k/\x.k<(Ls.length:Int)) (bA:∀W,zJ b a w W->yB 1 W/\yB 0 W):
  Calls prog 16 #[.pointer (some ⟨b,0,none⟩),.agg C,.agg (J7 x),bT] w (KL b c a w):=by
 have aM:=z0 g;have cz:=z0 bA;have c3:=z0 hx.1
 have cB:=z0 (show x.n<=9223372036854775807/\-9223372036854775808<=x.m/\x.m<=9223372036854775807 from by
  have h1:-9223372036854775808<=x.n/\x.n<=9223372036854775807:=by simpa [Lit.wf,IntKind.min,IntKind.max,IntKind.signed,IntKind.bits] using hx.2.1.1
  have h2:-9223372036854775808<=x.m/\x.m<=9223372036854775807:=by simpa [Lit.wf,IntKind.min,IntKind.max,IntKind.signed,IntKind.bits] using hx.2.1.2.1
  exact⟨h1.2,h2.1,h2.2⟩)
 have cC:Hd (∀W,zJ b a w W->zP W x.b x.bl):=z0 (fun W t=>ax.turned hx.2.2 t);have cv:=z0 bQ;obtain⟨ck,bP,rfl⟩:=ho.shape
 have ch:Hd (∀k (h:k<Ls.length),∃bo a0,ck=some ⟨bo,a0,none⟩/\bo<w.heap.size/\w.cell? ⟨bo,a0+k*2,none⟩=some (.slice Ls[k].A0 Ls[k].l0.length Ls[k].c0)/\w.cell? ⟨bo,a0+k*2+1,none⟩=some (.slice Ls[k].A1 Ls[k].l1.length Ls[k].c1)/\xE w Ls[k]):=z0 (fun k bd=>by
  obtain⟨bo,a0,e,cl,bY⟩:=ho.at_.2.2.2 (by omega)
  exact⟨bo,a0,e,cl,bY k bd 0 _ rfl,bY k bd 1 _ rfl,bU _ (List.getElem_mem bd)⟩)
 have bk:Hd (∀W v l,zP w v l->zJ b a w W->zP W v l):=z0 (fun W v l h t=>ax.turned h t);obtain⟨cf,bb⟩:=nm (Ls.length:Nat);rw[bb.o];obtain⟨AX,aZ⟩:=nm (J7 x)
 have am:Hd (∀(W:World) (O:Nat),W.heap[O]?=some (.cells AX 62 (0,0))->(W.cell? ⟨O,0,none⟩=some (.int .i64 x.act)/\W.cell? ⟨O,36,none⟩=some (.int .i64 x.n)/\W.cell? ⟨O,37,none⟩=some (.int .i64 x.m)/\W.cell? ⟨O,38,none⟩=some (.int .i64 x.k)/\W.cell? ⟨O,39,none⟩=some x.b)/\zW (.pointer (some ⟨O,1,none⟩)) W=.ok (.value (.agg (zp x.s))) W):=z0 (fun W O h=>by
  rw[<-aZ.o]at h;have h2:Qp W O x:=h
  exact⟨h2.cells c3.o,h2.sealed c3.o⟩)
 obtain⟨cw,cr⟩:=nm (zp x.s);rw[cr.o]at am;rw[aZ.o];have aS:=Xh w (.cells C 36);have ai:Below w.heap.size w (w.alloc (.cells C 36)):=Ba;have c6:(w.alloc (.cells C 36)).heap.size=w.heap.size+1:=by simp
 have aY:=Xh (w.alloc (.cells C 36)) (.cells AX 62);have a6:Below (w.alloc (.cells C 36)).heap.size (w.alloc (.cells C 36)) ((w.alloc (.cells C 36)).alloc (.cells AX 62)):=Ba;have bZ:((w.alloc (.cells C 36)).alloc (.cells AX 62)).heap.size=w.heap.size+2:=by simp
 have br:=yo ((w.alloc (.cells C 36)).alloc (.cells AX 62));have bf:=Xh ((w.alloc (.cells C 36)).alloc (.cells AX 62)) (.cells xq 36);have aI:Below ((w.alloc (.cells C 36)).alloc (.cells AX 62)).heap.size ((w.alloc (.cells C 36)).alloc (.cells AX 62)) (((w.alloc (.cells C 36)).alloc (.cells AX 62)).alloc (.cells xq 36)):=Ba;have aF:=(ai.trans (a6.mono ai.size)).trans (aI.mono (Nat.le_trans ai.size a6.size));have c4:=(aI.block _ (by have:=Lb aS;omega)).trans ((a6.block _ (Lb aS)).trans aS);have b5:=(aI.block _ (Lb aY)).trans aY;rw[c6]at b5;rw[bZ]at bf br;have av:Hd (xB w (((w.alloc (.cells C 36)).alloc (.cells AX 62)).alloc (.cells xq 36)) b c a w.heap.size V V C AX):=z0 ⟨ax.below aF,c4,b5,bf,bH.below aF,zJ.of aF⟩;have ar:=z0 (Nat.le_refl w.heap.size);have co:=z0 aF.block;clear ax g bH hx bQ ho bU bA aS ai c6 aY a6 bZ bf aI aF c4 b5 aZ;go_enter func16,ntmps16;go_upto_region 1 with(fail)
 clear br;generalize (((w.alloc (.cells C 36)).alloc (.cells AX 62)).alloc (.cells xq 36))=ak at *;have x0:=(am.o ak _ av.o.r6).1.1;have bh:=z0 x0;clear x0;obtain⟨act,aC⟩:=nm (x.act);rw[aC.o]at bh am;have x0:=bh.o;have bP:act=3:=by rw[<-aC.o];exact bw
 have ct:¬act=0:=by rw[<-aC.o];omega
 have cp:¬act=1:=by rw[<-aC.o];omega
 have cn:¬act=2:=by rw[<-aC.o];omega
 clear bw;subst bP;clear ct cp cn;have aE:=(am.o ak _ av.o.r6).1.2.2.1;have aD:=(am.o ak _ av.o.r6).1.2.2.2.1;have bJ:=(am.o ak _ av.o.r6).1.2.2.2.2;obtain⟨aO,bF⟩:=nm (x.k);rw[bF.o]at aD;have r:0<=aO/\aO<(cf:Int):=by rw[<-bF.o,<-bb.o];exact bS
 clear bS;obtain⟨r0,r1⟩:=r;obtain⟨j,rfl⟩:∃j:Nat,aO=(j:Int):=⟨aO.toNat,by omega⟩
 have bu:j<Ls.length:=by rw[bb.o];omega
 obtain⟨bo,a0,rfl,bV,bK,bt,bN⟩:=ch.o j bu;generalize Ls[j]=od at *;have b8:Hd (ak.heap[bo]?=w.heap[bo]?):=z0 (co.o bo bV);have c5:=z0 ((World.cell?_of_block (a:=⟨bo,a0+j*2,none⟩) b8.o).trans bK);have bL:=z0 ((World.cell?_of_block (a:=⟨bo,a0+j*2+1,none⟩) b8.o).trans bt);have ah:=z0 bN;obtain⟨aN,cj⟩:=nm (x.m);rw[cj.o]at aE;have ce:=z0 (zds aN);unfold kr.b at bJ;clear bK bt bN bV bu r0;go_upto_region 13 with(fail)
 all_goals try (exfalso;omega)
 clear bJ x0;go_cut [16] from 77 (fun cd c9=>zdO b a w cd/\c9=ak.drew)
 case first=>
  have b0:=c5.o;have b7:=bL.o;rcases ce.o with bn|bn|bn
  ·have bx:IntKind.i64.wrap 1=1:=by decide
   have c2:(1:Int).tmod 2=1:=by decide
   have bC:IntKind.i64.wrap 1=1:=by decide
   refine Rh (S:=fun W=>W.cell? ⟨w.heap.size+1,38,none⟩=some (.int .i64 (j:Int))/\W.cell? ⟨w.heap.size+1,37,none⟩=some (.int .i64 aN)/\W.cell? ⟨bo,a0+j*2,none⟩=some (.slice od.A0 od.l0.length od.c0)/\W.cell? ⟨bo,a0+j*2+1,none⟩=some (.slice od.A1 od.l1.length od.c1)) (by kernel_rfl) ⟨aD,aE,b0,b7⟩ (fun K=>?_);refine' z5 0 (h:=z5 1 (h:=tq4 2 (h:=z5 3 (h:=tq4 4 (h:=z5 5 (h:=z5 6 (h:=z5 7 (h:=z5 8 (h:=z5 9 (h:=tq4 10 (h:=z5 11 (h:=?_))))))))))));refine wpAnyH_done (by kernel_rfl) ?_ _;clear K;go_wp2;go_meet
   case rel=>exact⟨⟨od.l1,fun W t=>bk.o W _ _ ah.o.2.1.byt t,by have h1:=ah.o.2.2.1;have h2:=ah.o.2.2.2;omega⟩,rfl⟩
  ·have bx:IntKind.i64.wrap 2=2:=by decide
   have c2:(2:Int).tmod 2=0:=by decide
   have bC:IntKind.i64.wrap 0=0:=by decide
   refine Rh (S:=fun W=>W.cell? ⟨w.heap.size+1,38,none⟩=some (.int .i64 (j:Int))/\W.cell? ⟨w.heap.size+1,37,none⟩=some (.int .i64 aN)/\W.cell? ⟨bo,a0+j*2,none⟩=some (.slice od.A0 od.l0.length od.c0)/\W.cell? ⟨bo,a0+j*2+1,none⟩=some (.slice od.A1 od.l1.length od.c1)) (by kernel_rfl) ⟨aD,aE,b0,b7⟩ (fun K=>?_);refine' z5 0 (h:=z5 1 (h:=tq4 2 (h:=z5 3 (h:=tq4 4 (h:=z5 5 (h:=z5 6 (h:=z5 7 (h:=z5 8 (h:=z5 9 (h:=tq4 10 (h:=z5 11 (h:=?_))))))))))));refine wpAnyH_done (by kernel_rfl) ?_ _;clear K;go_wp2;go_meet
   case rel=>exact⟨⟨od.l0,fun W t=>bk.o W _ _ ah.o.1.byt t,by have h1:=ah.o.2.2.1;have h2:=ah.o.2.2.2;omega⟩,rfl⟩
  ·have bx:IntKind.i64.wrap 3=3:=by decide
   have c2:(3:Int).tmod 2=1:=by decide
   have bC:IntKind.i64.wrap 1=1:=by decide
   refine Rh (S:=fun W=>W.cell? ⟨w.heap.size+1,38,none⟩=some (.int .i64 (j:Int))/\W.cell? ⟨w.heap.size+1,37,none⟩=some (.int .i64 aN)/\W.cell? ⟨bo,a0+j*2,none⟩=some (.slice od.A0 od.l0.length od.c0)/\W.cell? ⟨bo,a0+j*2+1,none⟩=some (.slice od.A1 od.l1.length od.c1)) (by kernel_rfl) ⟨aD,aE,b0,b7⟩ (fun K=>?_);refine' z5 0 (h:=z5 1 (h:=tq4 2 (h:=z5 3 (h:=tq4 4 (h:=z5 5 (h:=z5 6 (h:=z5 7 (h:=z5 8 (h:=z5 9 (h:=tq4 10 (h:=z5 11 (h:=?_))))))))))));refine wpAnyH_done (by kernel_rfl) ?_ _;clear K;go_wp2;go_meet
   case rel=>exact⟨⟨od.l1,fun W t=>bk.o W _ _ ah.o.2.1.byt t,by have h1:=ah.o.2.2.1;have h2:=ah.o.2.2.2;omega⟩,rfl⟩
 case rest=>
  obtain⟨ca,bB⟩:=hcut;have aH:=z0 (av.o.below ((Below.refl ak.heap.size ak).drew));rw[<-bB]at aH;clear av bB b8 c5 bL bh;obtain⟨F,bG,bW⟩:=ca;have b6:=z0 bG;have bD:=z0 bW;clear bG bW aE aD r1;obtain⟨cu,cy,bp⟩:=(b6.o wc aH.o.t).shape;obtain⟨aa,aw⟩:=nm (F.length:Nat);rw[aw.o]at bp;subst bp;have aV:Hd (∀W v,zJ b a w W->jL W b c a V->zP W v F->Calls prog 41 #[.pointer (some ⟨b,0,none⟩),.int .i64 x.n,v] W fun e w'=>e=.returned (.int .i64 (jN x.n F))/\jL w' b c a (jB V x.n F)/\zJ b a W w'):=z0 (fun W v t ax cb=>Jt ax x.n cb);have bg:=z0 (Yi aM.o x.n F);obtain⟨c8,aQ⟩:=nm (jN x.n F);obtain⟨bz,aG⟩:=nm (jB V x.n F);rw[aQ.o,aG.o]at aV;rw[aG.o]at bg;obtain⟨n,c7⟩:=nm (x.n)
  have a5:Hd (∀(W:World) (O:Nat),W.heap[O]?=some (.cells AX 62 (0,0))->W.cell? ⟨O,36,none⟩=some (.int .i64 n)):=z0 (fun W O h=>by
   have:=(am.o W O h).1.2.1;rw[c7.o]at this
   exact this)
  rw[c7.o]at aV aQ aG;go_upto_region 14 with(fail)
  have bR:=((Below.refl wc.heap.size wc).drew).alloc (Nat.le_refl _) (.cells #[] 5);have bO:=z0 (aH.o.below bR);have bE:=z0 (aH.o.below ((Below.refl wc.heap.size wc).drew));have aq:([]:List UInt8).length+F.length<=140737488355328:=by have:=bD.o;simp only[List.length_nil];omega
  have au:=b6.o _ bO.o.t;refine Rh (S:=fun W=>W.cell? ⟨w.heap.size+1,36,none⟩=some (.int .i64 n)) (by kernel_rfl) (a5.o _ _ bE.o.r6) (fun K=>?_);refine' z5 0 (h:=z5 1 (h:=z5 2 (h:=z5 4 (h:=?_))));refine qc 3 (h:=fun M G=>?_);go_simp;refine G.out _ _ (a5.o _ _ bO.o.r6) (fun K=>?_);clear G M;try simp only[zx]
  refine qc 5 (h:=fun M G=>?_);refine zF (.tmp 91) (.tmp 92) rfl rfl rfl (qQ wc.drew) au aq (yL wc.drew _) ?_;intro cA bv b9 bM _;simp only[List.nil_append]at b9;have bq:Below wc.drew.heap.size wc.drew bv:=qy bM;have aK:=z0 (bE.o.below bq);have be:=b9.byt;obtain⟨cD,cx,r3⟩:=be.shape;rw[aw.o]at r3;subst r3;refine G.out _ _ (a5.o _ _ aK.o.r6) (fun K=>?_);clear G M;try simp only[zx]
  refine qc 6 (h:=fun M G=>?_);go_simp;refine(aV.o bv _ aK.o.t aK.o.v be).mono ?_;rintro e J ⟨rfl,bI,bX⟩;have a7:=z0 (aK.o.turn bX bI);refine G.out _ _ (a5.o _ _ a7.o.r6) (fun K=>?_);clear G M;try simp only[zx]
  refine' z5 7 (h:=?_);refine wpAnyH_done (by kernel_rfl) ?_ _;clear K bR aq au b9 bM bq be bI bX;have cq:=a5.o _ _ a7.o.r6
  have ci:Hd ((jN n F=1/\jB V n F=V)\/(¬n<0/\¬1<n/\¬1000<F.length)):=z0 (by
   unfold jN jB;by_cases h:n<0\/1<n\/1000<F.length
   ·rw[if_pos h,if_pos h];exact .inl ⟨rfl,rfl⟩
   ·exact .inr ⟨fun e=>h (.inl e),fun e=>h (.inr (.inl e)),fun e=>h (.inr (.inr e))⟩)
  have ao:Hd (n<0\/1<n\/1000<F.length->c8=1/\bz=V):=z0 (fun h=>by
   rw[<-aQ.o,<-aG.o];unfold jN jB;rw[if_pos h,if_pos h]
   exact⟨rfl,rfl⟩)
  have aA:Hd (¬(n<0\/1<n\/1000<F.length)->c8=0/\bz=zu V n F):=z0 (fun h=>by
   rw[<-aQ.o,<-aG.o];unfold jN jB;rw[if_neg h,if_neg h]
   exact⟨rfl,rfl⟩)
  have aX:=a7.o.ld5;by_cases aW:n<0
  ·obtain⟨al,ap⟩:=ao.o (.inl aW);obtain rfl:=al;obtain rfl:=ap.symm;clear ao aA;obtain⟨aU,a3,a4,a1,N⟩:=a7.o.fin ar.o a7.o.rc;have af:=z0 a3;have ad:=z0 a4;have a2:=z0 a1;have ae:=z0 N;clear a3 a4 a1 N;go_wp2;try simp only[Exit.inBlock,Exit.then]
   refine Bp (zv rfl _ _ _ _ _ _ rfl rfl af.o a2.o.size) rfl ⟨_,_,rfl,ad.o,aM.o,a2.o,ae.o⟩
  by_cases p1:1<n
  ·obtain⟨al,ap⟩:=ao.o (.inr (.inl p1));obtain rfl:=al;obtain rfl:=ap.symm;clear ao aA;obtain⟨aU,a3,a4,a1,N⟩:=a7.o.fin ar.o a7.o.rc;have af:=z0 a3;have ad:=z0 a4;have a2:=z0 a1;have ae:=z0 N;clear a3 a4 a1 N;go_wp2;try simp only[Exit.inBlock,Exit.then]
   refine Bp (zv rfl _ _ _ _ _ _ rfl rfl af.o a2.o.size) rfl ⟨_,_,rfl,ad.o,aM.o,a2.o,ae.o⟩
  by_cases p2:(1000:Int)<(aa:Int)
  ·obtain⟨al,ap⟩:=ao.o (.inr (.inr (by rw[aw.o];omega)));obtain rfl:=al;obtain rfl:=ap.symm;clear ao aA;obtain⟨aU,a3,a4,a1,N⟩:=a7.o.fin ar.o a7.o.rc;have af:=z0 a3;have ad:=z0 a4;have a2:=z0 a1;have ae:=z0 N;clear a3 a4 a1 N;go_wp2;try simp only[Exit.inBlock,Exit.then]
   refine Bp (zv rfl _ _ _ _ _ _ rfl rfl af.o a2.o.size) rfl ⟨_,_,rfl,ad.o,aM.o,a2.o,ae.o⟩
  obtain⟨al,ap⟩:=aA.o (by rintro (h|h|h);exact aW h;exact p1 h;rw[aw.o]at h;omega);obtain rfl:=al;obtain rfl:=ap;clear ao aA ci;go_upto_region 17 with(fail)
  clear p2 cq aX;have cg:n=0\/n=1:=by omega
  clear aW p1;have ai:=((Below.refl J.heap.size J).drew).alloc (Nat.le_refl _) (.cells #[] 5);have bm:=z0 (a7.o.below ai);have aT:=z0 (a7.o.below ((Below.refl J.heap.size J).drew));have aq:([]:List UInt8).length+F.length<=140737488355328:=by have:=bD.o;simp only[List.length_nil];omega
  have au:=b6.o _ bm.o.t;obtain⟨u0,u1,uh,aj,ay,aJ,aP,aL,aR⟩:=a7.o.rc;rcases cg with rfl|rfl
  ·refine Rh (S:=fun W=>W.cell? ⟨w.heap.size+1,36,none⟩=some (.int .i64 0)) (by kernel_rfl) (a5.o _ _ aT.o.r6) (fun K=>?_);refine' z5 0 (h:=z5 1 (h:=z5 3 (h:=z5 5 (h:=?_))));refine qc 2 (h:=fun M G=>?_);go_simp;refine G.out _ _ (a5.o _ _ bm.o.r6) (fun K=>?_);clear G M;try simp only[zx]
   refine qc 4 (h:=fun M G=>?_);refine zF (.tmp 113) (.tmp 114) rfl rfl rfl (qQ J.drew) au aq (yL J.drew _) ?_;intro cc I ag aB _;simp only[List.nil_append]at ag;have a6:Below J.drew.heap.size J.drew I:=qy aB;have an:=z0 (aT.o.below a6);have bj:=z0 ag.bys;obtain⟨a8,ab,r6⟩:=ag.byt.shape;rw[aw.o]at r6;subst r6;refine G.out _ _ (a5.o _ _ an.o.r6) (fun K=>?_);clear G M;try simp only[zx]
   refine' z5 6 (h:=?_)
   have az:=z0 (show qW I u0 V.s0/\qW I u1 V.s1/\qW I uh V.torn from by
    have hq:Below J.heap.size J I:=((Below.refl J.heap.size J).drew).trans a6
    exact⟨aJ.below hq,aP.below hq,aL.below hq⟩)
   have b4:Hd (vd I (yK (zu V 0 F) (.slice a8 aa ab) u1 uh aj) (zu V 0 F)):=z0 ⟨_,_,_,_,rfl,bj.o,az.o.2.1,az.o.2.2,aR⟩
   have a9:Hd (xB w (I.setCell ⟨w.heap.size,1,none⟩ (.slice a8 aa ab)) b c a w.heap.size (zu V 0 F) (zu V 0 F) (yK (zu V 0 F) (.slice a8 aa ab) u1 uh aj) AX):=z0 (an.o.set ar.o (fun h=>by
    rw[ay]at h
    exact j9.set (V':=zu V 0 F) (u0:=(.slice a8 aa ab)) (u1:=u1) (uh:=uh) (k:=aj) h rfl) b4.o)
   obtain⟨bi,b1,bc⟩:I.cell? ⟨w.heap.size,1,none⟩=some u0/\I.cell? ⟨w.heap.size,2,none⟩=some u1/\I.frozen? ⟨w.heap.size,1,none⟩=false:=by
    have h:=an.o.r5;rw[ay]at h;exact⟨(js h).2.1,(js h).2.2.1,jh h _⟩
   refine qc 7 (h:=fun M G=>?_);go_simp;refine G.out _ _ (a5.o _ _ a9.o.r6) (fun K=>?_);clear G M;try simp only[zx]
   refine wpAnyH_done (by kernel_rfl) ?_ _;clear K ai aq au ag aB a6 bi b1 bc ay aJ aP aL aR;obtain⟨cm,ba⟩:=nm (yK (zu V 0 F) (.slice a8 aa ab) u1 uh aj);rw[ba.o]at a9;have aX:=a9.o.ld5;obtain⟨aU,a3,a4,a1,N⟩:=a9.o.fin ar.o a9.o.rc;have af:=z0 a3;have ad:=z0 a4;have a2:=z0 a1;have ae:=z0 N;clear a3 a4 a1 N;go_wp2;try simp only[Exit.inBlock,Exit.then]
   refine Bp (zv rfl _ _ _ _ _ _ rfl rfl af.o a2.o.size) rfl ⟨_,_,rfl,ad.o,bg.o,a2.o,ae.o⟩
  ·refine Rh (S:=fun W=>W.cell? ⟨w.heap.size+1,36,none⟩=some (.int .i64 1)) (by kernel_rfl) (a5.o _ _ aT.o.r6) (fun K=>?_);refine' z5 0 (h:=z5 1 (h:=z5 3 (h:=z5 5 (h:=?_))));refine qc 2 (h:=fun M G=>?_);go_simp;refine G.out _ _ (a5.o _ _ bm.o.r6) (fun K=>?_);clear G M;try simp only[zx]
   refine qc 4 (h:=fun M G=>?_);refine zF (.tmp 113) (.tmp 114) rfl rfl rfl (qQ J.drew) au aq (yL J.drew _) ?_;intro cc I ag aB _;simp only[List.nil_append]at ag;have a6:Below J.drew.heap.size J.drew I:=qy aB;have an:=z0 (aT.o.below a6);have bj:=z0 ag.bys;obtain⟨a8,ab,r6⟩:=ag.byt.shape;rw[aw.o]at r6;subst r6;refine G.out _ _ (a5.o _ _ an.o.r6) (fun K=>?_);clear G M;try simp only[zx]
   refine' z5 6 (h:=?_)
   have az:=z0 (show qW I u0 V.s0/\qW I u1 V.s1/\qW I uh V.torn from by
    have hq:Below J.heap.size J I:=((Below.refl J.heap.size J).drew).trans a6
    exact⟨aJ.below hq,aP.below hq,aL.below hq⟩)
   have b4:Hd (vd I (yK (zu V 1 F) u0 (.slice a8 aa ab) uh aj) (zu V 1 F)):=z0 ⟨_,_,_,_,rfl,az.o.1,bj.o,az.o.2.2,aR⟩
   have a9:Hd (xB w (I.setCell ⟨w.heap.size,2,none⟩ (.slice a8 aa ab)) b c a w.heap.size (zu V 1 F) (zu V 1 F) (yK (zu V 1 F) u0 (.slice a8 aa ab) uh aj) AX):=z0 (an.o.set ar.o (fun h=>by
    rw[ay]at h
    exact j9.set (V':=zu V 1 F) (u0:=u0) (u1:=(.slice a8 aa ab)) (uh:=uh) (k:=aj) h rfl) b4.o)
   obtain⟨bi,b1,bc⟩:I.cell? ⟨w.heap.size,1,none⟩=some u0/\I.cell? ⟨w.heap.size,2,none⟩=some u1/\I.frozen? ⟨w.heap.size,2,none⟩=false:=by
    have h:=an.o.r5;rw[ay]at h;exact⟨(js h).2.1,(js h).2.2.1,jh h _⟩
   refine qc 7 (h:=fun M G=>?_);go_simp;refine G.out _ _ (a5.o _ _ a9.o.r6) (fun K=>?_);clear G M;try simp only[zx]
   refine wpAnyH_done (by kernel_rfl) ?_ _;clear K ai aq au ag aB a6 bi b1 bc ay aJ aP aL aR;obtain⟨cm,ba⟩:=nm (yK (zu V 1 F) u0 (.slice a8 aa ab) uh aj);rw[ba.o]at a9;have aX:=a9.o.ld5;obtain⟨aU,a3,a4,a1,N⟩:=a9.o.fin ar.o a9.o.rc;have af:=z0 a3;have ad:=z0 a4;have a2:=z0 a1;have ae:=z0 N;clear a3 a4 a1 N;go_wp2;try simp only[Exit.inBlock,Exit.then]
   refine Bp (zv rfl _ _ _ _ _ _ rfl rfl af.o a2.o.size) rfl ⟨_,_,rfl,ad.o,bg.o,a2.o,ae.o⟩
end
section
attribute [local go_sem ↓] qL qv qw zm zq zr jS
theorem zbL {b c a:Nat} (V:yV) (C:Array Value) (x:kr) (bN:Value) (Ls:List KK) (w:World) (aK:jL w b c a V) (g:V.Good) (bG:vd w C V) (hx:QV w x) (bK:x.bl.length<=1200) (ho:jE ocl 2 w bN Ls) (bO:∀o∈Ls,xE w o)
  (bD:x.act=3) (bM:¬(0<=x.k/\x.k<(Ls.length:Int))) (bE:∀W,zJ b a w W->yB 1 W/\yB 0 W):
  Calls prog 16 #[.pointer (some ⟨b,0,none⟩),.agg C,.agg (J7 x),bN] w (KL b c a w):=by
 have aJ:=z0 g;have ce:=z0 bE;have bS:=z0 hx.1
 have cf:=z0 (show x.n<=9223372036854775807/\-9223372036854775808<=x.m/\x.m<=9223372036854775807 from by
  have h1:-9223372036854775808<=x.n/\x.n<=9223372036854775807:=by simpa [Lit.wf,IntKind.min,IntKind.max,IntKind.signed,IntKind.bits] using hx.2.1.1
  have h2:-9223372036854775808<=x.m/\x.m<=9223372036854775807:=by simpa [Lit.wf,IntKind.min,IntKind.max,IntKind.signed,IntKind.bits] using hx.2.1.2.1
  exact⟨h1.2,h2.1,h2.2⟩)
 have c6:Hd (∀W,zJ b a w W->zP W x.b x.bl):=z0 (fun W t=>aK.turned hx.2.2 t);have bX:=z0 bK;obtain⟨c4,bJ,rfl⟩:=ho.shape
 have cd:Hd (∀k (h:k<Ls.length),∃bo b0,c4=some ⟨bo,b0,none⟩/\bo<w.heap.size/\w.cell? ⟨bo,b0+k*2,none⟩=some (.slice Ls[k].A0 Ls[k].l0.length Ls[k].c0)/\w.cell? ⟨bo,b0+k*2+1,none⟩=some (.slice Ls[k].A1 Ls[k].l1.length Ls[k].c1)/\xE w Ls[k]):=z0 (fun k bw=>by
  obtain⟨bo,b0,e,c5,bQ⟩:=ho.at_.2.2.2 (by omega)
  exact⟨bo,b0,e,c5,bQ k bw 0 _ rfl,bQ k bw 1 _ rfl,bO _ (List.getElem_mem bw)⟩)
 have ci:Hd (∀W v l,zP w v l->zJ b a w W->zP W v l):=z0 (fun W v l h t=>aK.turned h t);obtain⟨bH,bL⟩:=nm (Ls.length:Nat);rw[bL.o];obtain⟨AX,bn⟩:=nm (J7 x)
 have aI:Hd (∀(W:World) (ad:Nat),W.heap[ad]?=some (.cells AX 62 (0,0))->(W.cell? ⟨ad,0,none⟩=some (.int .i64 x.act)/\W.cell? ⟨ad,36,none⟩=some (.int .i64 x.n)/\W.cell? ⟨ad,37,none⟩=some (.int .i64 x.m)/\W.cell? ⟨ad,38,none⟩=some (.int .i64 x.k)/\W.cell? ⟨ad,39,none⟩=some x.b)/\zW (.pointer (some ⟨ad,1,none⟩)) W=.ok (.value (.agg (zp x.s))) W):=z0 (fun W ad h=>by
  rw[<-bn.o]at h;have h2:Qp W ad x:=h
  exact⟨h2.cells bS.o,h2.sealed bS.o⟩)
 obtain⟨cc,ca⟩:=nm (zp x.s);rw[ca.o]at aI;rw[bn.o];have bk:=Xh w (.cells C 36);have ar:Below w.heap.size w (w.alloc (.cells C 36)):=Ba;have bU:(w.alloc (.cells C 36)).heap.size=w.heap.size+1:=by simp
 have bm:=Xh (w.alloc (.cells C 36)) (.cells AX 62);have aa:Below (w.alloc (.cells C 36)).heap.size (w.alloc (.cells C 36)) ((w.alloc (.cells C 36)).alloc (.cells AX 62)):=Ba;have bR:((w.alloc (.cells C 36)).alloc (.cells AX 62)).heap.size=w.heap.size+2:=by simp
 have bC:=yo ((w.alloc (.cells C 36)).alloc (.cells AX 62));have bx:=Xh ((w.alloc (.cells C 36)).alloc (.cells AX 62)) (.cells xq 36);have bi:Below ((w.alloc (.cells C 36)).alloc (.cells AX 62)).heap.size ((w.alloc (.cells C 36)).alloc (.cells AX 62)) (((w.alloc (.cells C 36)).alloc (.cells AX 62)).alloc (.cells xq 36)):=Ba;have bb:=(ar.trans (aa.mono ar.size)).trans (bi.mono (Nat.le_trans ar.size aa.size));have bT:=(bi.block _ (by have:=Lb bk;omega)).trans ((aa.block _ (Lb bk)).trans bk);have bt:=(bi.block _ (Lb bm)).trans bm;rw[bU]at bt;rw[bR]at bx bC;have ay:Hd (xB w (((w.alloc (.cells C 36)).alloc (.cells AX 62)).alloc (.cells xq 36)) b c a w.heap.size V V C AX):=z0 ⟨aK.below bb,bT,bt,bx,bG.below bb,zJ.of bb⟩;have ao:=z0 (Nat.le_refl w.heap.size);have ch:=z0 bb.block;clear aK g bG hx bK ho bO bE bk ar bU bm aa bR bx bi bb bT bt bn;go_enter func16,ntmps16;go_upto_region 1 with(fail)
 clear bC;generalize (((w.alloc (.cells C 36)).alloc (.cells AX 62)).alloc (.cells xq 36))=a9 at *;have x0:=(aI.o a9 _ ay.o.r6).1.1;have bP:=z0 x0;clear x0;obtain⟨act,b7⟩:=nm (x.act);rw[b7.o]at bP aI;have x0:=bP.o;have bJ:act=3:=by rw[<-b7.o];exact bD
 have cb:¬act=0:=by rw[<-b7.o];omega
 have c9:¬act=1:=by rw[<-b7.o];omega
 have c7:¬act=2:=by rw[<-b7.o];omega
 clear bD;subst bJ;clear cb c9 c7;have bI:=(aI.o a9 _ ay.o.r6).1.2.2.1;have br:=(aI.o a9 _ ay.o.r6).1.2.2.2.1;have b9:=(aI.o a9 _ ay.o.r6).1.2.2.2.2;obtain⟨bj,bF⟩:=nm (x.k);rw[bF.o]at br;have r:¬(0<=bj/\bj<(bH:Int)):=by rw[<-bF.o,<-bL.o];exact bM
 clear bM;have az:=c6;have b5:=bX;unfold kr.b at b9 az;obtain⟨F,bY⟩:=nm (x.bl);rw[bY.o]at b9 az b5;obtain⟨cg,bW⟩:=nm (Value.slice x.bA F.length x.bc:Value);rw[bW.o]at b9 az;by_cases r0:0<=bj
 ·have r1:¬bj<(bH:Int):=fun h=>r ⟨r0,h⟩;clear r bI;go_upto_region 14 with(fail)
  clear b9 br r0 r1;obtain⟨bV,c2,aY⟩:=(az.o a9 ay.o.t).shape;obtain⟨a7,ap⟩:=nm (F.length:Nat);rw[ap.o]at aY;subst aY;have aL:Hd (∀W v,zJ b a w W->jL W b c a V->zP W v F->Calls prog 41 #[.pointer (some ⟨b,0,none⟩),.int .i64 x.n,v] W fun e w'=>e=.returned (.int .i64 (jN x.n F))/\jL w' b c a (jB V x.n F)/\zJ b a W w'):=z0 (fun W v t aK bp=>Jt aK x.n bp);have aU:=z0 (Yi aJ.o x.n F);obtain⟨bh,aE⟩:=nm (jN x.n F);obtain⟨b4,ax⟩:=nm (jB V x.n F);rw[aE.o,ax.o]at aL;rw[ax.o]at aU;obtain⟨n,bg⟩:=nm (x.n)
  have a3:Hd (∀(W:World) (ad:Nat),W.heap[ad]?=some (.cells AX 62 (0,0))->W.cell? ⟨ad,36,none⟩=some (.int .i64 n)):=z0 (fun W ad h=>by
   have:=(aI.o W ad h).1.2.1;rw[bg.o]at this
   exact this)
  rw[bg.o]at aL aE ax;go_upto_region 14 with(fail)
  have be:=((Below.refl a9.heap.size a9).drew).alloc (Nat.le_refl _) (.cells #[] 5);have bd:=z0 (ay.o.below be);have b6:=z0 (ay.o.below ((Below.refl a9.heap.size a9).drew));have am:([]:List UInt8).length+F.length<=140737488355328:=by have:=b5.o;simp only[List.length_nil];omega
  have an:=az.o _ bd.o.t;refine Rh (S:=fun W=>W.cell? ⟨w.heap.size+1,36,none⟩=some (.int .i64 n)) (by kernel_rfl) (a3.o _ _ b6.o.r6) (fun a0=>?_);refine' z5 0 (h:=z5 1 (h:=z5 2 (h:=z5 4 (h:=?_))));refine qc 3 (h:=fun K G=>?_);go_simp;refine G.out _ _ (a3.o _ _ bd.o.r6) (fun a0=>?_);clear G K;try simp only[zx]
  refine qc 5 (h:=fun K G=>?_);refine zF (.tmp 91) (.tmp 92) rfl rfl rfl (qQ a9.drew) an am (yL a9.drew _) ?_;intro c3 b1 aQ ba _;simp only[List.nil_append]at aQ;have aZ:Below a9.drew.heap.size a9.drew b1:=qy ba;have aB:=z0 (b6.o.below aZ);have aT:=aQ.byt;obtain⟨c8,bZ,r3⟩:=aT.shape;rw[ap.o]at r3;subst r3;refine G.out _ _ (a3.o _ _ aB.o.r6) (fun a0=>?_);clear G K;try simp only[zx]
  refine qc 6 (h:=fun K G=>?_);go_simp;refine(aL.o b1 _ aB.o.t aB.o.v aT).mono ?_;rintro e J ⟨rfl,b8,bf⟩;have a4:=z0 (aB.o.turn bf b8);refine G.out _ _ (a3.o _ _ a4.o.r6) (fun a0=>?_);clear G K;try simp only[zx]
  refine' z5 7 (h:=?_);refine wpAnyH_done (by kernel_rfl) ?_ _;clear a0 be am an aQ ba aZ aT b8 bf;have bB:=a3.o _ _ a4.o.r6
  have bv:Hd ((jN n F=1/\jB V n F=V)\/(¬n<0/\¬1<n/\¬1000<F.length)):=z0 (by
   unfold jN jB;by_cases h:n<0\/1<n\/1000<F.length
   ·rw[if_pos h,if_pos h];exact .inl ⟨rfl,rfl⟩
   ·exact .inr ⟨fun e=>h (.inl e),fun e=>h (.inr (.inl e)),fun e=>h (.inr (.inr e))⟩)
  have ak:Hd (n<0\/1<n\/1000<F.length->bh=1/\b4=V):=z0 (fun h=>by
   rw[<-aE.o,<-ax.o];unfold jN jB;rw[if_pos h,if_pos h]
   exact⟨rfl,rfl⟩)
  have av:Hd (¬(n<0\/1<n\/1000<F.length)->bh=0/\b4=zu V n F):=z0 (fun h=>by
   rw[<-aE.o,<-ax.o];unfold jN jB;rw[if_neg h,if_neg h]
   exact⟨rfl,rfl⟩)
  have aN:=a4.o.ld5;by_cases aM:n<0
  ·obtain⟨ai,al⟩:=ak.o (.inl aM);obtain rfl:=ai;obtain rfl:=al.symm;clear ak av;obtain⟨aH,a1,a2,N,M⟩:=a4.o.fin ao.o a4.o.rc;have af:=z0 a1;have ab:=z0 a2;have O:=z0 N;have ae:=z0 M;clear a1 a2 N M;go_wp2;try simp only[Exit.inBlock,Exit.then]
   refine Bp (zv rfl _ _ _ _ _ _ rfl rfl af.o O.o.size) rfl ⟨_,_,rfl,ab.o,aJ.o,O.o,ae.o⟩
  by_cases p1:1<n
  ·obtain⟨ai,al⟩:=ak.o (.inr (.inl p1));obtain rfl:=ai;obtain rfl:=al.symm;clear ak av;obtain⟨aH,a1,a2,N,M⟩:=a4.o.fin ao.o a4.o.rc;have af:=z0 a1;have ab:=z0 a2;have O:=z0 N;have ae:=z0 M;clear a1 a2 N M;go_wp2;try simp only[Exit.inBlock,Exit.then]
   refine Bp (zv rfl _ _ _ _ _ _ rfl rfl af.o O.o.size) rfl ⟨_,_,rfl,ab.o,aJ.o,O.o,ae.o⟩
  by_cases p2:(1000:Int)<(a7:Int)
  ·obtain⟨ai,al⟩:=ak.o (.inr (.inr (by rw[ap.o];omega)));obtain rfl:=ai;obtain rfl:=al.symm;clear ak av;obtain⟨aH,a1,a2,N,M⟩:=a4.o.fin ao.o a4.o.rc;have af:=z0 a1;have ab:=z0 a2;have O:=z0 N;have ae:=z0 M;clear a1 a2 N M;go_wp2;try simp only[Exit.inBlock,Exit.then]
   refine Bp (zv rfl _ _ _ _ _ _ rfl rfl af.o O.o.size) rfl ⟨_,_,rfl,ab.o,aJ.o,O.o,ae.o⟩
  obtain⟨ai,al⟩:=av.o (by rintro (h|h|h);exact aM h;exact p1 h;rw[ap.o]at h;omega);obtain rfl:=ai;obtain rfl:=al;clear ak av bv;go_upto_region 17 with(fail)
  clear p2 bB aN;have bu:n=0\/n=1:=by omega
  clear aM p1;have ar:=((Below.refl J.heap.size J).drew).alloc (Nat.le_refl _) (.cells #[] 5);have aX:=z0 (a4.o.below ar);have aG:=z0 (a4.o.below ((Below.refl J.heap.size J).drew));have am:([]:List UInt8).length+F.length<=140737488355328:=by have:=b5.o;simp only[List.length_nil];omega
  have an:=az.o _ aX.o.t;obtain⟨u0,u1,uh,ah,aq,aA,aD,aC,aF⟩:=a4.o.rc;rcases bu with rfl|rfl
  ·refine Rh (S:=fun W=>W.cell? ⟨w.heap.size+1,36,none⟩=some (.int .i64 0)) (by kernel_rfl) (a3.o _ _ aG.o.r6) (fun a0=>?_);refine' z5 0 (h:=z5 1 (h:=z5 3 (h:=z5 5 (h:=?_))));refine qc 2 (h:=fun K G=>?_);go_simp;refine G.out _ _ (a3.o _ _ aX.o.r6) (fun a0=>?_);clear G K;try simp only[zx]
   refine qc 4 (h:=fun K G=>?_);refine zF (.tmp 113) (.tmp 114) rfl rfl rfl (qQ J.drew) an am (yL J.drew _) ?_;intro bq I ag aw _;simp only[List.nil_append]at ag;have aa:Below J.drew.heap.size J.drew I:=qy aw;have aj:=z0 (aG.o.below aa);have aW:=z0 ag.bys;obtain⟨a5,a8,r6⟩:=ag.byt.shape;rw[ap.o]at r6;subst r6;refine G.out _ _ (a3.o _ _ aj.o.r6) (fun a0=>?_);clear G K;try simp only[zx]
   refine' z5 6 (h:=?_)
   have au:=z0 (show qW I u0 V.s0/\qW I u1 V.s1/\qW I uh V.torn from by
    have hq:Below J.heap.size J I:=((Below.refl J.heap.size J).drew).trans aa
    exact⟨aA.below hq,aD.below hq,aC.below hq⟩)
   have aP:Hd (vd I (yK (zu V 0 F) (.slice a5 a7 a8) u1 uh ah) (zu V 0 F)):=z0 ⟨_,_,_,_,rfl,aW.o,au.o.2.1,au.o.2.2,aF⟩
   have a6:Hd (xB w (I.setCell ⟨w.heap.size,1,none⟩ (.slice a5 a7 a8)) b c a w.heap.size (zu V 0 F) (zu V 0 F) (yK (zu V 0 F) (.slice a5 a7 a8) u1 uh ah) AX):=z0 (aj.o.set ao.o (fun h=>by
    rw[aq]at h
    exact j9.set (V':=zu V 0 F) (u0:=(.slice a5 a7 a8)) (u1:=u1) (uh:=uh) (k:=ah) h rfl) aP.o)
   obtain⟨aV,aO,aS⟩:I.cell? ⟨w.heap.size,1,none⟩=some u0/\I.cell? ⟨w.heap.size,2,none⟩=some u1/\I.frozen? ⟨w.heap.size,1,none⟩=false:=by
    have h:=aj.o.r5;rw[aq]at h;exact⟨(js h).2.1,(js h).2.2.1,jh h _⟩
   refine qc 7 (h:=fun K G=>?_);go_simp;refine G.out _ _ (a3.o _ _ a6.o.r6) (fun a0=>?_);clear G K;try simp only[zx]
   refine wpAnyH_done (by kernel_rfl) ?_ _;clear a0 ar am an ag aw aa aV aO aS aq aA aD aC aF;obtain⟨bz,aR⟩:=nm (yK (zu V 0 F) (.slice a5 a7 a8) u1 uh ah);rw[aR.o]at a6;have aN:=a6.o.ld5;obtain⟨aH,a1,a2,N,M⟩:=a6.o.fin ao.o a6.o.rc;have af:=z0 a1;have ab:=z0 a2;have O:=z0 N;have ae:=z0 M;clear a1 a2 N M;go_wp2;try simp only[Exit.inBlock,Exit.then]
   refine Bp (zv rfl _ _ _ _ _ _ rfl rfl af.o O.o.size) rfl ⟨_,_,rfl,ab.o,aU.o,O.o,ae.o⟩
  ·refine Rh (S:=fun W=>W.cell? ⟨w.heap.size+1,36,none⟩=some (.int .i64 1)) (by kernel_rfl) (a3.o _ _ aG.o.r6) (fun a0=>?_);refine' z5 0 (h:=z5 1 (h:=z5 3 (h:=z5 5 (h:=?_))));refine qc 2 (h:=fun K G=>?_);go_simp;refine G.out _ _ (a3.o _ _ aX.o.r6) (fun a0=>?_);clear G K;try simp only[zx]
   refine qc 4 (h:=fun K G=>?_);refine zF (.tmp 113) (.tmp 114) rfl rfl rfl (qQ J.drew) an am (yL J.drew _) ?_;intro bq I ag aw _;simp only[List.nil_append]at ag;have aa:Below J.drew.heap.size J.drew I:=qy aw;have aj:=z0 (aG.o.below aa);have aW:=z0 ag.bys;obtain⟨a5,a8,r6⟩:=ag.byt.shape;rw[ap.o]at r6;subst r6;refine G.out _ _ (a3.o _ _ aj.o.r6) (fun a0=>?_);clear G K;try simp only[zx]
   refine' z5 6 (h:=?_)
   have au:=z0 (show qW I u0 V.s0/\qW I u1 V.s1/\qW I uh V.torn from by
    have hq:Below J.heap.size J I:=((Below.refl J.heap.size J).drew).trans aa
    exact⟨aA.below hq,aD.below hq,aC.below hq⟩)
   have aP:Hd (vd I (yK (zu V 1 F) u0 (.slice a5 a7 a8) uh ah) (zu V 1 F)):=z0 ⟨_,_,_,_,rfl,au.o.1,aW.o,au.o.2.2,aF⟩
   have a6:Hd (xB w (I.setCell ⟨w.heap.size,2,none⟩ (.slice a5 a7 a8)) b c a w.heap.size (zu V 1 F) (zu V 1 F) (yK (zu V 1 F) u0 (.slice a5 a7 a8) uh ah) AX):=z0 (aj.o.set ao.o (fun h=>by
    rw[aq]at h
    exact j9.set (V':=zu V 1 F) (u0:=u0) (u1:=(.slice a5 a7 a8)) (uh:=uh) (k:=ah) h rfl) aP.o)
   obtain⟨aV,aO,aS⟩:I.cell? ⟨w.heap.size,1,none⟩=some u0/\I.cell? ⟨w.heap.size,2,none⟩=some u1/\I.frozen? ⟨w.heap.size,2,none⟩=false:=by
    have h:=aj.o.r5;rw[aq]at h;exact⟨(js h).2.1,(js h).2.2.1,jh h _⟩
   refine qc 7 (h:=fun K G=>?_);go_simp;refine G.out _ _ (a3.o _ _ a6.o.r6) (fun a0=>?_);clear G K;try simp only[zx]
   refine wpAnyH_done (by kernel_rfl) ?_ _;clear a0 ar am an ag aw aa aV aO aS aq aA aD aC aF;obtain⟨bz,aR⟩:=nm (yK (zu V 1 F) u0 (.slice a5 a7 a8) uh ah);rw[aR.o]at a6;have aN:=a6.o.ld5;obtain⟨aH,a1,a2,N,M⟩:=a6.o.fin ao.o a6.o.rc;have af:=z0 a1;have ab:=z0 a2;have O:=z0 N;have ae:=z0 M;clear a1 a2 N M;go_wp2;try simp only[Exit.inBlock,Exit.then]
   refine Bp (zv rfl _ _ _ _ _ _ rfl rfl af.o O.o.size) rfl ⟨_,_,rfl,ab.o,aU.o,O.o,ae.o⟩
 ·clear r bI;go_upto_region 14 with(fail)
  clear b9 br r0;obtain⟨bV,c2,aY⟩:=(az.o a9 ay.o.t).shape;obtain⟨a7,ap⟩:=nm (F.length:Nat);rw[ap.o]at aY;subst aY;have aL:Hd (∀W v,zJ b a w W->jL W b c a V->zP W v F->Calls prog 41 #[.pointer (some ⟨b,0,none⟩),.int .i64 x.n,v] W fun e w'=>e=.returned (.int .i64 (jN x.n F))/\jL w' b c a (jB V x.n F)/\zJ b a W w'):=z0 (fun W v t aK bp=>Jt aK x.n bp);have aU:=z0 (Yi aJ.o x.n F);obtain⟨bh,aE⟩:=nm (jN x.n F);obtain⟨b4,ax⟩:=nm (jB V x.n F);rw[aE.o,ax.o]at aL;rw[ax.o]at aU;obtain⟨n,bg⟩:=nm (x.n)
  have a3:Hd (∀(W:World) (ad:Nat),W.heap[ad]?=some (.cells AX 62 (0,0))->W.cell? ⟨ad,36,none⟩=some (.int .i64 n)):=z0 (fun W ad h=>by
   have:=(aI.o W ad h).1.2.1;rw[bg.o]at this
   exact this)
  rw[bg.o]at aL aE ax;go_upto_region 14 with(fail)
  have be:=((Below.refl a9.heap.size a9).drew).alloc (Nat.le_refl _) (.cells #[] 5);have bd:=z0 (ay.o.below be);have b6:=z0 (ay.o.below ((Below.refl a9.heap.size a9).drew));have am:([]:List UInt8).length+F.length<=140737488355328:=by have:=b5.o;simp only[List.length_nil];omega
  have an:=az.o _ bd.o.t;refine Rh (S:=fun W=>W.cell? ⟨w.heap.size+1,36,none⟩=some (.int .i64 n)) (by kernel_rfl) (a3.o _ _ b6.o.r6) (fun a0=>?_);refine' z5 0 (h:=z5 1 (h:=z5 2 (h:=z5 4 (h:=?_))));refine qc 3 (h:=fun K G=>?_);go_simp;refine G.out _ _ (a3.o _ _ bd.o.r6) (fun a0=>?_);clear G K;try simp only[zx]
  refine qc 5 (h:=fun K G=>?_);refine zF (.tmp 91) (.tmp 92) rfl rfl rfl (qQ a9.drew) an am (yL a9.drew _) ?_;intro c3 b1 aQ ba _;simp only[List.nil_append]at aQ;have aZ:Below a9.drew.heap.size a9.drew b1:=qy ba;have aB:=z0 (b6.o.below aZ);have aT:=aQ.byt;obtain⟨c8,bZ,r3⟩:=aT.shape;rw[ap.o]at r3;subst r3;refine G.out _ _ (a3.o _ _ aB.o.r6) (fun a0=>?_);clear G K;try simp only[zx]
  refine qc 6 (h:=fun K G=>?_);go_simp;refine(aL.o b1 _ aB.o.t aB.o.v aT).mono ?_;rintro e J ⟨rfl,b8,bf⟩;have a4:=z0 (aB.o.turn bf b8);refine G.out _ _ (a3.o _ _ a4.o.r6) (fun a0=>?_);clear G K;try simp only[zx]
  refine' z5 7 (h:=?_);refine wpAnyH_done (by kernel_rfl) ?_ _;clear a0 be am an aQ ba aZ aT b8 bf;have bB:=a3.o _ _ a4.o.r6
  have bv:Hd ((jN n F=1/\jB V n F=V)\/(¬n<0/\¬1<n/\¬1000<F.length)):=z0 (by
   unfold jN jB;by_cases h:n<0\/1<n\/1000<F.length
   ·rw[if_pos h,if_pos h];exact .inl ⟨rfl,rfl⟩
   ·exact .inr ⟨fun e=>h (.inl e),fun e=>h (.inr (.inl e)),fun e=>h (.inr (.inr e))⟩)
  have ak:Hd (n<0\/1<n\/1000<F.length->bh=1/\b4=V):=z0 (fun h=>by
   rw[<-aE.o,<-ax.o];unfold jN jB;rw[if_pos h,if_pos h]
   exact⟨rfl,rfl⟩)
  have av:Hd (¬(n<0\/1<n\/1000<F.length)->bh=0/\b4=zu V n F):=z0 (fun h=>by
   rw[<-aE.o,<-ax.o];unfold jN jB;rw[if_neg h,if_neg h]
   exact⟨rfl,rfl⟩)
  have aN:=a4.o.ld5;by_cases aM:n<0
  ·obtain⟨ai,al⟩:=ak.o (.inl aM);obtain rfl:=ai;obtain rfl:=al.symm;clear ak av;obtain⟨aH,a1,a2,N,M⟩:=a4.o.fin ao.o a4.o.rc;have af:=z0 a1;have ab:=z0 a2;have O:=z0 N;have ae:=z0 M;clear a1 a2 N M;go_wp2;try simp only[Exit.inBlock,Exit.then]
   refine Bp (zv rfl _ _ _ _ _ _ rfl rfl af.o O.o.size) rfl ⟨_,_,rfl,ab.o,aJ.o,O.o,ae.o⟩
  by_cases p1:1<n
  ·obtain⟨ai,al⟩:=ak.o (.inr (.inl p1));obtain rfl:=ai;obtain rfl:=al.symm;clear ak av;obtain⟨aH,a1,a2,N,M⟩:=a4.o.fin ao.o a4.o.rc;have af:=z0 a1;have ab:=z0 a2;have O:=z0 N;have ae:=z0 M;clear a1 a2 N M;go_wp2;try simp only[Exit.inBlock,Exit.then]
   refine Bp (zv rfl _ _ _ _ _ _ rfl rfl af.o O.o.size) rfl ⟨_,_,rfl,ab.o,aJ.o,O.o,ae.o⟩
  by_cases p2:(1000:Int)<(a7:Int)
  ·obtain⟨ai,al⟩:=ak.o (.inr (.inr (by rw[ap.o];omega)));obtain rfl:=ai;obtain rfl:=al.symm;clear ak av;obtain⟨aH,a1,a2,N,M⟩:=a4.o.fin ao.o a4.o.rc;have af:=z0 a1;have ab:=z0 a2;have O:=z0 N;have ae:=z0 M;clear a1 a2 N M;go_wp2;try simp only[Exit.inBlock,Exit.then]
   refine Bp (zv rfl _ _ _ _ _ _ rfl rfl af.o O.o.size) rfl ⟨_,_,rfl,ab.o,aJ.o,O.o,ae.o⟩
  obtain⟨ai,al⟩:=av.o (by rintro (h|h|h);exact aM h;exact p1 h;rw[ap.o]at h;omega);obtain rfl:=ai;obtain rfl:=al;clear ak av bv;go_upto_region 17 with(fail)
  clear p2 bB aN;have bu:n=0\/n=1:=by omega
  clear aM p1;have ar:=((Below.refl J.heap.size J).drew).alloc (Nat.le_refl _) (.cells #[] 5);have aX:=z0 (a4.o.below ar);have aG:=z0 (a4.o.below ((Below.refl J.heap.size J).drew));have am:([]:List UInt8).length+F.length<=140737488355328:=by have:=b5.o;simp only[List.length_nil];omega
  have an:=az.o _ aX.o.t;obtain⟨u0,u1,uh,ah,aq,aA,aD,aC,aF⟩:=a4.o.rc;rcases bu with rfl|rfl
  ·refine Rh (S:=fun W=>W.cell? ⟨w.heap.size+1,36,none⟩=some (.int .i64 0)) (by kernel_rfl) (a3.o _ _ aG.o.r6) (fun a0=>?_);refine' z5 0 (h:=z5 1 (h:=z5 3 (h:=z5 5 (h:=?_))));refine qc 2 (h:=fun K G=>?_);go_simp;refine G.out _ _ (a3.o _ _ aX.o.r6) (fun a0=>?_);clear G K;try simp only[zx]
   refine qc 4 (h:=fun K G=>?_);refine zF (.tmp 113) (.tmp 114) rfl rfl rfl (qQ J.drew) an am (yL J.drew _) ?_;intro bq I ag aw _;simp only[List.nil_append]at ag;have aa:Below J.drew.heap.size J.drew I:=qy aw;have aj:=z0 (aG.o.below aa);have aW:=z0 ag.bys;obtain⟨a5,a8,r6⟩:=ag.byt.shape;rw[ap.o]at r6;subst r6;refine G.out _ _ (a3.o _ _ aj.o.r6) (fun a0=>?_);clear G K;try simp only[zx]
   refine' z5 6 (h:=?_)
   have au:=z0 (show qW I u0 V.s0/\qW I u1 V.s1/\qW I uh V.torn from by
    have hq:Below J.heap.size J I:=((Below.refl J.heap.size J).drew).trans aa
    exact⟨aA.below hq,aD.below hq,aC.below hq⟩)
   have aP:Hd (vd I (yK (zu V 0 F) (.slice a5 a7 a8) u1 uh ah) (zu V 0 F)):=z0 ⟨_,_,_,_,rfl,aW.o,au.o.2.1,au.o.2.2,aF⟩
   have a6:Hd (xB w (I.setCell ⟨w.heap.size,1,none⟩ (.slice a5 a7 a8)) b c a w.heap.size (zu V 0 F) (zu V 0 F) (yK (zu V 0 F) (.slice a5 a7 a8) u1 uh ah) AX):=z0 (aj.o.set ao.o (fun h=>by
    rw[aq]at h
    exact j9.set (V':=zu V 0 F) (u0:=(.slice a5 a7 a8)) (u1:=u1) (uh:=uh) (k:=ah) h rfl) aP.o)
   obtain⟨aV,aO,aS⟩:I.cell? ⟨w.heap.size,1,none⟩=some u0/\I.cell? ⟨w.heap.size,2,none⟩=some u1/\I.frozen? ⟨w.heap.size,1,none⟩=false:=by
    have h:=aj.o.r5;rw[aq]at h;exact⟨(js h).2.1,(js h).2.2.1,jh h _⟩
   refine qc 7 (h:=fun K G=>?_);go_simp;refine G.out _ _ (a3.o _ _ a6.o.r6) (fun a0=>?_);clear G K;try simp only[zx]
   refine wpAnyH_done (by kernel_rfl) ?_ _;clear a0 ar am an ag aw aa aV aO aS aq aA aD aC aF;obtain⟨bz,aR⟩:=nm (yK (zu V 0 F) (.slice a5 a7 a8) u1 uh ah);rw[aR.o]at a6;have aN:=a6.o.ld5;obtain⟨aH,a1,a2,N,M⟩:=a6.o.fin ao.o a6.o.rc;have af:=z0 a1;have ab:=z0 a2;have O:=z0 N;have ae:=z0 M;clear a1 a2 N M;go_wp2;try simp only[Exit.inBlock,Exit.then]
   refine Bp (zv rfl _ _ _ _ _ _ rfl rfl af.o O.o.size) rfl ⟨_,_,rfl,ab.o,aU.o,O.o,ae.o⟩
  ·refine Rh (S:=fun W=>W.cell? ⟨w.heap.size+1,36,none⟩=some (.int .i64 1)) (by kernel_rfl) (a3.o _ _ aG.o.r6) (fun a0=>?_);refine' z5 0 (h:=z5 1 (h:=z5 3 (h:=z5 5 (h:=?_))));refine qc 2 (h:=fun K G=>?_);go_simp;refine G.out _ _ (a3.o _ _ aX.o.r6) (fun a0=>?_);clear G K;try simp only[zx]
   refine qc 4 (h:=fun K G=>?_);refine zF (.tmp 113) (.tmp 114) rfl rfl rfl (qQ J.drew) an am (yL J.drew _) ?_;intro bq I ag aw _;simp only[List.nil_append]at ag;have aa:Below J.drew.heap.size J.drew I:=qy aw;have aj:=z0 (aG.o.below aa);have aW:=z0 ag.bys;obtain⟨a5,a8,r6⟩:=ag.byt.shape;rw[ap.o]at r6;subst r6;refine G.out _ _ (a3.o _ _ aj.o.r6) (fun a0=>?_);clear G K;try simp only[zx]
   refine' z5 6 (h:=?_)
   have au:=z0 (show qW I u0 V.s0/\qW I u1 V.s1/\qW I uh V.torn from by
    have hq:Below J.heap.size J I:=((Below.refl J.heap.size J).drew).trans aa
    exact⟨aA.below hq,aD.below hq,aC.below hq⟩)
   have aP:Hd (vd I (yK (zu V 1 F) u0 (.slice a5 a7 a8) uh ah) (zu V 1 F)):=z0 ⟨_,_,_,_,rfl,au.o.1,aW.o,au.o.2.2,aF⟩
   have a6:Hd (xB w (I.setCell ⟨w.heap.size,2,none⟩ (.slice a5 a7 a8)) b c a w.heap.size (zu V 1 F) (zu V 1 F) (yK (zu V 1 F) u0 (.slice a5 a7 a8) uh ah) AX):=z0 (aj.o.set ao.o (fun h=>by
    rw[aq]at h
    exact j9.set (V':=zu V 1 F) (u0:=u0) (u1:=(.slice a5 a7 a8)) (uh:=uh) (k:=ah) h rfl) aP.o)
   obtain⟨aV,aO,aS⟩:I.cell? ⟨w.heap.size,1,none⟩=some u0/\I.cell? ⟨w.heap.size,2,none⟩=some u1/\I.frozen? ⟨w.heap.size,2,none⟩=false:=by
    have h:=aj.o.r5;rw[aq]at h;exact⟨(js h).2.1,(js h).2.2.1,jh h _⟩
   refine qc 7 (h:=fun K G=>?_);go_simp;refine G.out _ _ (a3.o _ _ a6.o.r6) (fun a0=>?_);clear G K;try simp only[zx]
   refine wpAnyH_done (by kernel_rfl) ?_ _;clear a0 ar am an ag aw aa aV aO aS aq aA aD aC aF;obtain⟨bz,aR⟩:=nm (yK (zu V 1 F) u0 (.slice a5 a7 a8) uh ah);rw[aR.o]at a6;have aN:=a6.o.ld5;obtain⟨aH,a1,a2,N,M⟩:=a6.o.fin ao.o a6.o.rc;have af:=z0 a1;have ab:=z0 a2;have O:=z0 N;have ae:=z0 M;clear a1 a2 N M;go_wp2;try simp only[Exit.inBlock,Exit.then]
   refine Bp (zv rfl _ _ _ _ _ _ rfl rfl af.o O.o.size) rfl ⟨_,_,rfl,ab.o,aU.o,O.o,ae.o⟩
end
section
attribute [local go_sem ↓] qL qv qw zm zq zr jS
theorem zbM {b c a:Nat} (V:yV) (C:Array Value) (x:kr) (aQ:Value) (Ls:List KK) (w:World) (a9:jL w b c a V) (g:V.Good) (aL:vd w C V) (hx:QV w x) (aP:x.bl.length<=1200) (ho:jE ocl 2 w aQ Ls) (aR:∀o∈Ls,xE w o)
  (bc:x.act≠0/\x.act≠1/\x.act≠2/\x.act≠3) (aK:∀W,zJ b a w W->yB 1 W/\yB 0 W):
  Calls prog 16 #[.pointer (some ⟨b,0,none⟩),.agg C,.agg (J7 x),aQ] w (KL b c a w):=by
 have ah:=z0 g;have bz:=z0 aK;have aZ:=z0 hx.1
 have bf:=z0 (show x.n<=9223372036854775807/\-9223372036854775808<=x.m/\x.m<=9223372036854775807 from by
  have h1:-9223372036854775808<=x.n/\x.n<=9223372036854775807:=by simpa [Lit.wf,IntKind.min,IntKind.max,IntKind.signed,IntKind.bits] using hx.2.1.1
  have h2:-9223372036854775808<=x.m/\x.m<=9223372036854775807:=by simpa [Lit.wf,IntKind.min,IntKind.max,IntKind.signed,IntKind.bits] using hx.2.1.2.1
  exact⟨h1.2,h2.1,h2.2⟩)
 have bB:Hd (∀W,zJ b a w W->zP W x.b x.bl):=z0 (fun W t=>a9.turned hx.2.2 t);have br:=z0 aP;obtain⟨bh,az,rfl⟩:=ho.shape
 have bx:Hd (∀k (h:k<Ls.length),∃bo ad,bh=some ⟨bo,ad,none⟩/\bo<w.heap.size/\w.cell? ⟨bo,ad+k*2,none⟩=some (.slice Ls[k].A0 Ls[k].l0.length Ls[k].c0)/\w.cell? ⟨bo,ad+k*2+1,none⟩=some (.slice Ls[k].A1 Ls[k].l1.length Ls[k].c1)/\xE w Ls[k]):=z0 (fun k ai=>by
  obtain⟨bo,ad,e,bi,ap⟩:=ho.at_.2.2.2 (by omega)
  exact⟨bo,ad,e,bi,ap k ai 0 _ rfl,ap k ai 1 _ rfl,aR _ (List.getElem_mem ai)⟩)
 have bE:Hd (∀W v l,zP w v l->zJ b a w W->zP W v l):=z0 (fun W v l h t=>a9.turned h t);obtain⟨bv,be⟩:=nm (Ls.length:Nat);rw[be.o];obtain⟨AX,av⟩:=nm (J7 x)
 have a5:Hd (∀(W:World) (F:Nat),W.heap[F]?=some (.cells AX 62 (0,0))->(W.cell? ⟨F,0,none⟩=some (.int .i64 x.act)/\W.cell? ⟨F,36,none⟩=some (.int .i64 x.n)/\W.cell? ⟨F,37,none⟩=some (.int .i64 x.m)/\W.cell? ⟨F,38,none⟩=some (.int .i64 x.k)/\W.cell? ⟨F,39,none⟩=some x.b)/\zW (.pointer (some ⟨F,1,none⟩)) W=.ok (.value (.agg (zp x.s))) W):=z0 (fun W F h=>by
  rw[<-av.o]at h;have h2:Qp W F x:=h
  exact⟨h2.cells aZ.o,h2.sealed aZ.o⟩)
 obtain⟨bt,bn⟩:=nm (zp x.s);rw[bn.o]at a5;rw[av.o];have aq:=Xh w (.cells C 36);have an:Below w.heap.size w (w.alloc (.cells C 36)):=Ba;have b9:(w.alloc (.cells C 36)).heap.size=w.heap.size+1:=by simp
 have au:=Xh (w.alloc (.cells C 36)) (.cells AX 62);have am:Below (w.alloc (.cells C 36)).heap.size (w.alloc (.cells C 36)) ((w.alloc (.cells C 36)).alloc (.cells AX 62)):=Ba;have aX:((w.alloc (.cells C 36)).alloc (.cells AX 62)).heap.size=w.heap.size+2:=by simp
 have aJ:=yo ((w.alloc (.cells C 36)).alloc (.cells AX 62));have aA:=Xh ((w.alloc (.cells C 36)).alloc (.cells AX 62)) (.cells xq 36);have ao:Below ((w.alloc (.cells C 36)).alloc (.cells AX 62)).heap.size ((w.alloc (.cells C 36)).alloc (.cells AX 62)) (((w.alloc (.cells C 36)).alloc (.cells AX 62)).alloc (.cells xq 36)):=Ba;have ag:=(an.trans (am.mono an.size)).trans (ao.mono (Nat.le_trans an.size am.size));have b0:=(ao.block _ (by have:=Lb aq;omega)).trans ((am.block _ (Lb aq)).trans aq);have aw:=(ao.block _ (Lb au)).trans au;rw[b9]at aw;rw[aX]at aA aJ;have N:Hd (xB w (((w.alloc (.cells C 36)).alloc (.cells AX 62)).alloc (.cells xq 36)) b c a w.heap.size V V C AX):=z0 ⟨a9.below ag,b0,aw,aA,aL.below ag,zJ.of ag⟩;have aa:=z0 (Nat.le_refl w.heap.size);have bD:=z0 ag.block;clear a9 g aL hx aP ho aR aK aq an b9 au am aX aA ao ag b0 aw av;go_enter func16,ntmps16;go_upto_region 1 with(fail)
 clear aJ;generalize (((w.alloc (.cells C 36)).alloc (.cells AX 62)).alloc (.cells xq 36))=aj at *;have x0:=(a5.o aj _ N.o.r6).1.1;have aW:=z0 x0;clear x0;obtain⟨act,ae⟩:=nm (x.act);rw[ae.o]at aW a5;have x0:=aW.o;have b8:¬act=0:=by rw[<-ae.o];omega
 have b7:¬act=1:=by rw[<-ae.o];omega
 have aV:¬act=2:=by rw[<-ae.o];omega
 have az:¬act=3:=by rw[<-ae.o];omega
 clear bc;by_cases aU:act=4
 ·as_aux_lemma=>
  subst aU;clear b8 b7 aV az;have a2:=(a5.o aj _ N.o.r6).1.2.1;obtain⟨n,ab⟩:=nm (x.n)
  have aF:Hd (Calls prog 42 #[.pointer (some ⟨b,0,none⟩),.int .i64 n] aj fun e w'=>e=.returned (.tuple #[])/\jL w' b c a (z89 V n)/\zJ b a aj w'):=z0 (by
   obtain⟨_,_,_,a9⟩:=N.o.v
   exact(z9X a9 n).mono fun _ _ ⟨h1,h2,h3⟩=>⟨h1,⟨_,_,_,h2⟩,h3⟩)
  have ax:=z0 (z8a ah.o (n:=n) (by rw[<-ab.o];exact bf.o.1))
  have af:Hd (∀(W:World) (F:Nat),W.heap[F]?=some (.cells AX 62 (0,0))->W.cell? ⟨F,36,none⟩=some (.int .i64 n)):=z0 (fun W F h=>by
   have:=(a5.o W F h).1.2.1;rw[ab.o]at this
   exact this)
  rw[ab.o]at a2;obtain⟨ak,b6⟩:=nm (z89 V n);have aI:Hd (ak={ V with left:=if n<0 then -1 else n }):=z0 b6.o.symm;rw[b6.o]at aF ax;go_wp2_with fail;refine aF.o.mono ?_;rintro e a3 ⟨rfl,h1,al⟩;have a1:=z0 (N.o.turn al h1);clear h1 al a2 x0;obtain⟨u0,u1,uh,O,aD,aN,aE,aT,b5⟩:=a1.o.rc;have a2:=af.o _ _ a1.o.r6
  have ar:Hd (j9 a3 w.heap.size V u0 u1 uh O):=z0 (by
   have h:=a1.o.r5;rw[aD]at h
   exact h)
  obtain⟨_,_,_,_,bu,_,_,_⟩:=ar.o.cells;have bq:=ar.o.free 4;have aH:Hd (∀z,vd a3 (yK { V with left:=z } u0 u1 uh O) { V with left:=z }):=z0 (fun z=>⟨_,_,_,_,rfl,aN,aE,aT,b5⟩)
  have aB:Hd (∀z,xB w (a3.setCell ⟨w.heap.size,4,none⟩ (.int .i64 z)) b c a w.heap.size ak { V with left:=z } (yK { V with left:=z } u0 u1 uh O) AX):=z0 (fun z=>a1.o.set aa.o (fun h=>by
   rw[aD]at h
   exact j9.set (V':={ V with left:=z }) (u0:=u0) (u1:=u1) (uh:=uh) (k:=O) h rfl) (aH.o z))
  clear aD aN aE aT b5;by_cases aG:n<0
  ·have aS:Hd (j9 (a3.setCell ⟨w.heap.size,4,none⟩ (.int .i64 n)) w.heap.size { V with left:=n } u0 u1 uh O):=z0 (ar.o.set (V':={ V with left:=n }) rfl);have bk:Hd (vd (a3.setCell ⟨w.heap.size,4,none⟩ (.int .i64 n)) (yK { V with left:=-1 } u0 u1 uh O) { V with left:=-1 }):=z0 ((aH.o (-1)).away (by simp[World.setCell]) (fun k D ai=>Hs _ _ _ _ (q9 ai ar.o (by decide))));have a0:Hd (xB w ((a3.setCell ⟨w.heap.size,4,none⟩ (.int .i64 n)).setCell ⟨w.heap.size,4,none⟩ (.int .i64 (-1))) b c a w.heap.size ak { V with left:=-1 } (yK { V with left:=-1 } u0 u1 uh O) AX):=z0 ((aB.o n).set aa.o (fun h=>j9.set (V':={ V with left:=-1 }) (u0:=u0) (u1:=u1) (uh:=uh) (k:=O) h rfl) bk.o);have bp:=af.o _ _ (aB.o n).r6;have bA:=aS.o.free 4;obtain⟨_,_,_,_,bw,_,_,_⟩:=aS.o.cells;obtain rfl:ak={ V with left:=-1 }:=by rw[aI.o,if_pos aG]
   have a8:=a0.o.ld5;obtain⟨bj,ay⟩:=nm (yK { V with left:=-1 } u0 u1 uh O);rw[ay.o]at a8 a0;obtain⟨aC,K,M,I,G⟩:=a0.o.fin aa.o a0.o.rc;have a7:=z0 K;have a4:=z0 M;have J:=z0 I;have a6:=z0 G;clear K M I G;go_wp2;try simp only[Exit.inBlock,Exit.then]
   refine Bp (zv rfl _ _ _ _ _ _ rfl rfl a7.o J.o.size) rfl ⟨_,_,rfl,a4.o,ax.o,J.o,a6.o⟩
  ·obtain rfl:ak={ V with left:=n }:=by rw[aI.o,if_neg aG]
   have a0:=z0 (aB.o n);have bp:=af.o _ _ a0.o.r6;have a8:=a0.o.ld5;obtain⟨bj,ay⟩:=nm (yK { V with left:=n } u0 u1 uh O);rw[ay.o]at a8 a0;obtain⟨aC,K,M,I,G⟩:=a0.o.fin aa.o a0.o.rc;have a7:=z0 K;have a4:=z0 M;have J:=z0 I;have a6:=z0 G;clear K M I G;go_wp2;try simp only[Exit.inBlock,Exit.then]
   refine Bp (zv rfl _ _ _ _ _ _ rfl rfl a7.o J.o.size) rfl ⟨_,_,rfl,a4.o,ax.o,J.o,a6.o⟩
 by_cases bg:act=5
 ·as_aux_lemma=>
  subst bg;clear b8 b7 aV az aU;have a2:=(a5.o aj _ N.o.r6).1.2.1;obtain⟨n,ab⟩:=nm (x.n);have b4:=z0 (z6s N.o.v ah.o n);have aO:=z0 (z4m ah.o n)
  have af:Hd (∀(W:World) (F:Nat),W.heap[F]?=some (.cells AX 62 (0,0))->W.cell? ⟨F,36,none⟩=some (.int .i64 n)):=z0 (fun W F h=>by
   have:=(a5.o W F h).1.2.1;rw[ab.o]at this
   exact this)
  rw[ab.o]at a2;obtain⟨bm,aM⟩:=nm (YZ V n)
  have ba:Hd (∀W,vd W C V->Calls prog 44 #[.agg C,.int .i64 n] W (z52 bm W)):=z0 (fun W ap=>by
   have:=z0V V C n W ap ah.o;rw[aM.o]at this
   exact this)
  rw[aM.o]at b4 aO;go_wp2_with fail;refine b4.o.mono ?_;rintro e a3 ⟨rfl,h1,al⟩;have a1:=z0 (N.o.turn al h1);clear h1 al a2 x0;have a2:=af.o _ _ a1.o.r6;have a8:=a1.o.ld5;go_wp2_with fail;refine(ba.o a3 a1.o.rc).mono ?_;rintro e bF ⟨bC,rfl,b1,aY⟩;have bd:=z0 (a1.o.below aY);have bb:=z0 b1;clear b1 aY a2 a8;obtain⟨aC,K,M,I,G⟩:=bd.o.fin aa.o bb.o;have a7:=z0 K;have a4:=z0 M;have J:=z0 I;have a6:=z0 G;clear K M I G;go_wp2;try simp only[Exit.inBlock,Exit.then]
  refine Bp (zv rfl _ _ _ _ _ _ rfl rfl a7.o J.o.size) rfl ⟨_,_,rfl,a4.o,aO.o,J.o,a6.o⟩
 ·as_aux_lemma=>
  have a8:=N.o.ld5;obtain⟨aC,K,M,I,G⟩:=N.o.fin aa.o N.o.rc;have a7:=z0 K;have a4:=z0 M;have J:=z0 I;have a6:=z0 G;clear K M I G;go_wp2;try simp only[Exit.inBlock,Exit.then]
  refine Bp (zv rfl _ _ _ _ _ _ rfl rfl a7.o J.o.size) rfl ⟨_,_,rfl,a4.o,ah.o,J.o,a6.o⟩
end
theorem zal {b c a:Nat} (V:yV) (C:Array Value) (x:kr) (F:Value) (Ls:List KK) (w:World) (J:jL w b c a V) (g:V.Good) (G:vd w C V) (hx:QV w x) (I:x.bl.length<=1200) (ho:jE ocl 2 w F Ls) (K:∀o∈Ls,xE w o)
  (M:∀W,zJ b a w W->yB 1 W/\yB 0 W):
  Calls prog 16 #[.pointer (some ⟨b,0,none⟩),.agg C,.agg (J7 x),F] w (KL b c a w):=by
 by_cases a0:x.act=0
 ·exact z7j V C x F Ls w J g G hx I ho K (.inl a0) M
 by_cases O:x.act=1
 ·exact z7j V C x F Ls w J g G hx I ho K (.inr O) M
 by_cases a1:x.act=2
 ·exact zbJ V C x F Ls w J g G hx I ho K a1 M
 by_cases N:x.act=3
 ·by_cases r:0<=x.k/\x.k<(Ls.length:Int)
  ·exact zbK V C x F Ls w J g G hx I ho K N r M
  ·exact zbL V C x F Ls w J g G hx I ho K N r M
 exact zbM V C x F Ls w J g G hx I ho K ⟨a0,O,a1,N⟩ M
end Go.Proofs.YtjlinimnnbfmaaaGreatDoor
