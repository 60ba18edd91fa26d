/-
  tee: Prep and Store of one that isn't halted. Printed with gente.py.
-/
import Derived.Test.YtjlinimnnbfmaaaGreatDoorPlBs22
import Derived.Test.YtjlinimnnbfmaaaGreatDoorPlTeEq
import Derived.Test.YtjlinimnnbfmaaaGreatDoorPlBs16
set_option maxRecDepth 20000
set_option maxHeartbeats 6400000
namespace Go.Proofs.YtjlinimnnbfmaaaGreatDoor
open Go.RowKit Go.Proofs.Tryz
section
attribute [local go_sem ↓] zm zq zr zL ze zn zo zM zV zO qd vl vm Z4
section
variable {w:World}{g b c a:Nat}{t:Zl}
theorem z8X (v:Value) (n:Int) (K:∀W,Below w.heap.size w W->Calls prog 19 #[v] W fun e w'=>e=.returned (.bool true)/\W=w'):
  Calls prog 23 #[v,.int .i64 n] w fun e w'=>e=.returned (.tuple #[.agg (zy ju),.int .i64 8])/\Below w.heap.size w w':=by
 obtain⟨Z,F⟩:=nm (zy ju);have G:Hd (Z.size=101/\Z.all (·.oneCell')=true):=z0 (by rw[<-F.o];exact⟨zg qf,qD _⟩);have O:zt w=.ok (.value (.pointer (some ⟨w.heap.size,0,none⟩))) (w.alloc (.cells Z 54)):=by
  have:=zC w;rw[F.o]at this;exact this
 have a1:∀W,qS W=.ok (.value (.agg Z)) W:=fun W=>by rw[<-F.o];exact qi W
 have I:(w.alloc (.cells Z 54)).heap[w.heap.size]?=some (.cells Z 54 (0,0)):=by
  have:=Xh w (.cells Z 54);exact this
 have J:Below w.heap.size w (w.alloc (.cells Z 54)):=((Below.refl w.heap.size w).alloc (Nat.le_refl _) _)
 have a0:=z0 (K _ J);rw[F.o];have a4:=qF I G.o.1 G.o.1 G.o.2;have N:=z0 (qU (C:=Z) I);have M:=z0 (qA (C:=Z) J (show w.heap.size<=w.heap.size by omega));clear K I J F;go_enter func23,ntmps23;go_upto_region 1 with(fail)
 clear O;generalize (w.alloc (.cells Z 54))=a2 at *;go_wp2_with fail;refine a0.o.mono ?_;rintro e a3 ⟨rfl,rfl⟩;go_wp2;try simp only[Exit.inBlock,Exit.then]
 refine Bp (yD rfl _ _ _ _ _ _ rfl rfl N.o G.o.1) rfl ⟨rfl,M.o⟩
theorem z6H (v:Value) (B X:Array Value) (K:∀W,Below w.heap.size w W->Calls prog 19 #[v] W fun e w'=>e=.returned (.bool true)/\W=w'):
  Calls prog 33 #[v,.agg B,.agg X] w fun e w'=>e=.returned (.tuple #[.agg (zy ju),.int .i64 8])/\Below w.heap.size w w':=by
 obtain⟨Z,F⟩:=nm (zy ju);have G:Hd (Z.size=101/\Z.all (·.oneCell')=true):=z0 (by rw[<-F.o];exact⟨zg qf,qD _⟩);have O:zt ((w.alloc (.cells B 49)).alloc (.cells X 52))=.ok (.value (.pointer (some ⟨w.heap.size+2,0,none⟩))) (((w.alloc (.cells B 49)).alloc (.cells X 52)).alloc (.cells Z 54)):=by
  have:=zC ((w.alloc (.cells B 49)).alloc (.cells X 52));rw[F.o]at this
  rwa[show((w.alloc (.cells B 49)).alloc (.cells X 52)).heap.size=w.heap.size+2 from by simp]at this
 have a1:∀W,qS W=.ok (.value (.agg Z)) W:=fun W=>by rw[<-F.o];exact qi W
 have I:(((w.alloc (.cells B 49)).alloc (.cells X 52)).alloc (.cells Z 54)).heap[w.heap.size+2]?=some (.cells Z 54 (0,0)):=by
  have:=Xh ((w.alloc (.cells B 49)).alloc (.cells X 52)) (.cells Z 54)
  rwa[show((w.alloc (.cells B 49)).alloc (.cells X 52)).heap.size=w.heap.size+2 from by simp]at this
 have J:Below w.heap.size w (((w.alloc (.cells B 49)).alloc (.cells X 52)).alloc (.cells Z 54)):=((((Below.refl w.heap.size w).alloc (Nat.le_refl _) _).alloc (by simp;try omega) _).alloc (by simp;try omega) _)
 have a0:=z0 (K _ J);rw[F.o];have a4:=qF I G.o.1 G.o.1 G.o.2;have N:=z0 (qU (C:=Z) I);have M:=z0 (qA (C:=Z) J (show w.heap.size<=w.heap.size+2 by omega));clear K I J F;go_enter func33,ntmps33;go_upto_region 1 with(fail)
 clear O;generalize (((w.alloc (.cells B 49)).alloc (.cells X 52)).alloc (.cells Z 54))=a2 at *;go_wp2_with fail;refine a0.o.mono ?_;rintro e a3 ⟨rfl,rfl⟩;go_wp2;try simp only[Exit.inBlock,Exit.then]
 refine Bp (yD rfl _ _ _ _ _ _ rfl rfl N.o G.o.1) rfl ⟨rfl,M.o⟩
theorem z58 (v:Value) (C:Array Value) (K:∀W,Below w.heap.size w W->Calls prog 19 #[v] W fun e w'=>e=.returned (.bool true)/\W=w'):
  Calls prog 34 #[v,.agg C] w fun e w'=>e=.returned (.tuple #[.agg (zy ju),.int .i64 8])/\Below w.heap.size w w':=by
 obtain⟨Z,F⟩:=nm (zy ju);have G:Hd (Z.size=101/\Z.all (·.oneCell')=true):=z0 (by rw[<-F.o];exact⟨zg qf,qD _⟩);have O:zt (w.alloc (.cells C 57))=.ok (.value (.pointer (some ⟨w.heap.size+1,0,none⟩))) ((w.alloc (.cells C 57)).alloc (.cells Z 54)):=by
  have:=zC (w.alloc (.cells C 57));rw[F.o]at this
  rwa[show(w.alloc (.cells C 57)).heap.size=w.heap.size+1 from by simp]at this
 have a1:∀W,qS W=.ok (.value (.agg Z)) W:=fun W=>by rw[<-F.o];exact qi W
 have I:((w.alloc (.cells C 57)).alloc (.cells Z 54)).heap[w.heap.size+1]?=some (.cells Z 54 (0,0)):=by
  have:=Xh (w.alloc (.cells C 57)) (.cells Z 54)
  rwa[show(w.alloc (.cells C 57)).heap.size=w.heap.size+1 from by simp]at this
 have J:Below w.heap.size w ((w.alloc (.cells C 57)).alloc (.cells Z 54)):=(((Below.refl w.heap.size w).alloc (Nat.le_refl _) _).alloc (by simp;try omega) _)
 have a0:=z0 (K _ J);rw[F.o];have a4:=qF I G.o.1 G.o.1 G.o.2;have N:=z0 (qU (C:=Z) I);have M:=z0 (qA (C:=Z) J (show w.heap.size<=w.heap.size+1 by omega));clear K I J F;go_enter func34,ntmps34;go_upto_region 1 with(fail)
 clear O;generalize ((w.alloc (.cells C 57)).alloc (.cells Z 54))=a2 at *;go_wp2_with fail;refine a0.o.mono ?_;rintro e a3 ⟨rfl,rfl⟩;go_wp2;try simp only[Exit.inBlock,Exit.then]
 refine Bp (yD rfl _ _ _ _ _ _ rfl rfl N.o G.o.1) rfl ⟨rfl,M.o⟩
theorem z6I (v:Value) (n:Int) (A:Option Addr) (k d:Nat) (K:∀W,Below w.heap.size w W->Calls prog 19 #[v] W fun e w'=>e=.returned (.bool true)/\W=w'):
  Calls prog 13 #[v,.int .i64 n,.slice A k d] w fun e w'=>e=.returned (.tuple #[.agg (ye Zy (.slice none 0 0)),.int .i64 8])/\Below w.heap.size w w':=by
 obtain⟨Z,F⟩:=nm (ye Zy (.slice none 0 0));have G:Hd (Z.size=68/\Z.all (·.oneCell')=true):=z0 (by rw[<-F.o];exact⟨zT _ Zh,jt (w:=w) (a:=Zy) (jE.nil w)⟩);have O:Qn w=.ok (.value (.pointer (some ⟨w.heap.size,0,none⟩))) (w.alloc (.cells Z 52)):=by
  have:=jT w;rw[F.o]at this;exact this
 have a1:∀W,Yn W=.ok (.value (.agg Z)) W:=fun W=>by rw[<-F.o];exact Yo W
 have I:(w.alloc (.cells Z 52)).heap[w.heap.size]?=some (.cells Z 52 (0,0)):=by
  have:=Xh w (.cells Z 52);exact this
 have J:Below w.heap.size w (w.alloc (.cells Z 52)):=((Below.refl w.heap.size w).alloc (Nat.le_refl _) _)
 have a0:=z0 (K _ J);rw[F.o];have a4:=jk I G.o.1 G.o.1 G.o.2;have N:=z0 (vN (C:=Z) I);have M:=z0 (jO (C:=Z) J (show w.heap.size<=w.heap.size by omega));clear K I J F;go_enter func13,ntmps13;go_upto_region 1 with(fail)
 clear O;generalize (w.alloc (.cells Z 52))=a2 at *;go_wp2_with fail;refine a0.o.mono ?_;rintro e a3 ⟨rfl,rfl⟩;go_wp2;try simp only[Exit.inBlock,Exit.then]
 refine Bp (zY rfl _ _ _ _ _ _ rfl rfl N.o G.o.1) rfl ⟨rfl,M.o⟩
theorem KO (h:ya w g b c a t) (F:t.Good) (h0:t.e=0) (n:Int) (ae:∀W,vw g b a w W->yB 1 W):
  Calls prog 23 #[.pointer (some ⟨g,0,none⟩),.int .i64 n] w (vp g b c a (QB t n) w):=by
 have av:Hd (QB t n=qX t (vy t.s n)):=z0 (by unfold QB;rw[if_pos h0]);have K:Hd (KE t.s (vy t.s n)):=z0 (z27 F.s n);obtain⟨q,ab⟩:=nm (vy t.s n);have J:Hd (∀W,Calls prog 52 #[.agg (zp t.s),.int .i64 n] W (vo (vy t.s n) W)):=z0 (fun W=>z8V t.s F.s n W);rw[ab.o]at K J;have ag:Hd (∀W,ya W g b c a t->vw g b a w W->Calls prog 51 #[.pointer (some ⟨g,0,none⟩),.agg (zp q.s),.agg (zy q.a),.int .i64 q.e] W (vp g b c a (qX t q) W)):=z0 (fun W h2 G=>Jh h2 F h0 q K.o (fun aw aE=>ae aw (G.trans aE)));have M:Hd ((qX t q).a.Ok):=z0 (xw K.o.ok);have aL:=z0 F;obtain⟨Z,ai⟩:=nm (zy ju);have aq:Hd (Z.size=101):=z0 (by rw[<-ai.o];exact zg qf);have aD:zt w=.ok (.value (.pointer (some ⟨w.heap.size,0,none⟩))) (w.alloc (.cells Z 54)):=by
  have:=zC w;rw[ai.o]at this;exact this
 have ah:=Xh w (.cells Z 54);have O:Below w.heap.size w (w.alloc (.cells Z 54)):=((Below.refl w.heap.size w).alloc (Nat.le_refl _) _)
 have N:=z0 (h.below O);have ax:=z0 O;have aa:=z0 ah;have ay:Hd (w.heap.size<=w.heap.size):=z0 (by omega)
 have ar:Hd (∀W,ya W g b c a t->Calls prog 19 #[.pointer (some ⟨g,0,none⟩)] W fun e w'=>e=.returned (.bool false)/\W=w'):=z0 (fun W h2=>by
  have:=vP h2 F;rw[h0]at this
  exact this)
 have az:=z0 (zd F.s);have a4:Hd (∀W,ya W g b c a t->zW (.pointer (some ⟨g,3,none⟩)) W=.ok (.value (.agg (zp t.s))) W/\W.cell? ⟨g,1,none⟩=some (.int .i64 t.n)):=z0 (fun W ⟨_,h2⟩=>⟨h2.seal_ F.s,h2.cells.2.1⟩);obtain⟨S,ad⟩:=nm (zp t.s);rw[ad.o]at az a4 J;clear h F h0 ae O ad ah;go_enter func23,ntmps23;go_upto_region 1 with(fail)
 clear aD;generalize (w.alloc (.cells Z 54))=a0 at *;go_wp2_with fail;refine(ar.o a0 N.o).mono ?_;rintro e am ⟨rfl,rfl⟩;obtain⟨aK,a6⟩:=nm (zp q.s);obtain⟨aI,af⟩:=nm (zy q.a);obtain⟨aJ,a3⟩:=nm (q.e);obtain⟨r,a2⟩:=nm (qX t q);rw[a2.o]at M;rw[a6.o,af.o,a3.o,a2.o]at ag;have aC:=(a4.o a0 N.o).1;go_wp2_with fail;refine(J.o a0).mono ?_;rintro e am ⟨rfl,I⟩;unfold Q9;rw[a6.o,af.o,a3.o];have ak:=z0 (N.o.below I);have a8:=z0 ((vw.of (g:=g) (b:=b) (a:=a) ax.o).then I);have aF:=z0 ((I.block _ (Lb aa.o)).trans aa.o);clear aC I;go_wp2_with fail;refine(ag.o am ak.o a8.o).mono ?_;rintro e aH ⟨rfl,h2,G⟩;have aA:=z0 h2;have aB:=z0 (a8.o.trans G);have au:Hd (aH.heap[w.heap.size]?=some (.cells Z 54 (0,0))):=z0 (ak.o.other aF.o (by decide) (by decide) (by decide) G);clear h2 G;obtain⟨aG,al,an,a9⟩:=KN (r:=r) aA.o aB.o au.o aq.o ay.o M.o;have ao:=z0 al;have ap:=z0 an;have a7:=z0 a9;have aj:=z0 (zg M.o);clear al an a9;obtain⟨Y,a1⟩:=nm (zy r.a);obtain⟨E,a5⟩:=nm (r.e);rw[a1.o]at aG ao ap a7 aj;rw[a1.o,a5.o];go_wp2;try simp only[Exit.inBlock,Exit.then]
 refine Bp (yD rfl _ _ _ _ _ _ rfl rfl ao.o aj.o) rfl ?_;unfold vp;rw[av.o,ab.o,a2.o];exact⟨by rw[a1.o,a5.o];try rfl,ap.o,a7.o⟩
end
end
section
attribute [local go_sem ↓] zm zq zr zL ze zn zo zM zV zO qd
section
variable {w:World}{g b c a:Nat}{t:Zl}
theorem z6J (h:ya w g b c a t) (J:t.Good) (h0:t.e=0) (aa a7:Value) (K:kR) (I:vU) (aR:Kw w aa K) (aL:ZQ K) (hx:Kh w a7 I) (aO:I.fr.length<=1000) (F:∀W,vw g b a w W->yB 1 W):
  Calls prog 33 #[.pointer (some ⟨g,0,none⟩),aa,a7] w (vp g b c a (Zb t K I) w):=by
 have b9:Hd (Zb t K I=qX t (yi t.s t.n K I)):=z0 (by unfold Zb;rw[if_pos h0]);have ak:Hd (KE t.s (yi t.s t.n K I)):=z0 (z0o J.s (by obtain⟨_,_,ho,_⟩:=hx;exact ho));obtain⟨q,aS⟩:=nm (yi t.s t.n K I);have ab:Hd (∀W,Below w.heap.size w W->Calls prog 65 #[.agg (zp t.s),.int .i64 t.n,aa,a7] W (vo (yi t.s t.n K I) W)):=z0 (fun W M=>z6C t.s J.s t.n (by have:=J.n1;have:=J.n2;simp[Lit.wf,IntKind.min,IntKind.max,IntKind.signed,IntKind.bits];omega) aa a7 K I W (aR.below M) aL (hx.below M) aO (F W (vw.of M)));obtain⟨sb,rfl,aq,b5⟩:=aR;obtain⟨aP,rfl,ay,b6⟩:=hx;have aj:=z0 (And.intro (kX sb aq) (zT aP ay));clear b5 b6 aq ay aL aO;obtain⟨B,aA⟩:=nm (vS K sb);obtain⟨X,aD⟩:=nm (ye I aP);rw[aA.o,aD.o]at ab aj;rw[aA.o,aD.o];rw[aS.o]at ak ab;have aJ:Hd (∀W,ya W g b c a t->vw g b a w W->Calls prog 51 #[.pointer (some ⟨g,0,none⟩),.agg (zp q.s),.agg (zy q.a),.int .i64 q.e] W (vp g b c a (qX t q) W)):=z0 (fun W h2 G=>Jh h2 J h0 q ak.o (fun aY bb=>F aY (G.trans bb)));have al:Hd ((qX t q).a.Ok):=z0 (xw ak.o.ok);have bg:=z0 J;obtain⟨Z,aE⟩:=nm (zy ju);have aX:Hd (Z.size=101):=z0 (by rw[<-aE.o];exact zg qf);have b1:zt ((w.alloc (.cells B 49)).alloc (.cells X 52))=.ok (.value (.pointer (some ⟨w.heap.size+2,0,none⟩))) (((w.alloc (.cells B 49)).alloc (.cells X 52)).alloc (.cells Z 54)):=by
  have:=zC ((w.alloc (.cells B 49)).alloc (.cells X 52));rw[aE.o]at this
  rwa[show((w.alloc (.cells B 49)).alloc (.cells X 52)).heap.size=w.heap.size+2 from by simp]at this
 obtain⟨aK,aV,ao⟩:=xU w (.cells B 49) (.cells X 52) (.cells Z 54);have M:Below w.heap.size w (((w.alloc (.cells B 49)).alloc (.cells X 52)).alloc (.cells Z 54)):=((((Below.refl w.heap.size w).alloc (Nat.le_refl _) _).alloc (by simp;try omega) _).alloc (by simp;try omega) _)
 have aT:=z0 (h.below M);have am:=z0 M;have ae:=z0 aK;have ag:=z0 aV;have aG:=z0 ao;have ba:Hd (w.heap.size<=w.heap.size+2):=z0 (by omega)
 have bc:Hd (∀W,ya W g b c a t->Calls prog 19 #[.pointer (some ⟨g,0,none⟩)] W fun e w'=>e=.returned (.bool false)/\W=w'):=z0 (fun W h2=>by
  have:=vP h2 J;rw[h0]at this
  exact this)
 have b0:=z0 (zd J.s);have an:Hd (∀W,ya W g b c a t->zW (.pointer (some ⟨g,3,none⟩)) W=.ok (.value (.agg (zp t.s))) W/\W.cell? ⟨g,1,none⟩=some (.int .i64 t.n)):=z0 (fun W ⟨_,h2⟩=>⟨h2.seal_ J.s,h2.cells.2.1⟩);obtain⟨S,aB⟩:=nm (zp t.s);rw[aB.o]at b0 an ab;clear h J h0 F M aB aK aV ao;go_enter func33,ntmps33;go_upto_region 1 with(fail)
 clear b1;generalize (((w.alloc (.cells B 49)).alloc (.cells X 52)).alloc (.cells Z 54))=N at *;go_wp2_with fail;refine(bc.o N aT.o).mono ?_;rintro e a5 ⟨rfl,rfl⟩;obtain⟨be,az⟩:=nm (zp q.s);obtain⟨bh,aw⟩:=nm (zy q.a);obtain⟨bf,ax⟩:=nm (q.e);obtain⟨r,a8⟩:=nm (qX t q);rw[a8.o]at al;rw[az.o,aw.o,ax.o,a8.o]at aJ;go_upto_region 3 with(fail)
 have a1:Hd (∀W G,ya W g b c a G->G.n=t.n->(W.heap[w.heap.size]?=some (.cells B 49 (0,0))/\W.heap[w.heap.size+1]?=some (.cells X 52 (0,0)))->kq (.pointer (some ⟨w.heap.size,0,none⟩)) W=.ok (.value (.agg B)) W/\yP (.pointer (some ⟨w.heap.size+1,0,none⟩)) W=.ok (.value (.agg X)) W/\W.cell? ⟨g,1,none⟩=some (.int .i64 t.n)):=z0 (fun W G ⟨_,h2⟩ hn aI=>⟨kK aI.1 aj.o.1,qH aI.2 aj.o.2,by have:=h2.cells.2.1;rwa[hn]at this⟩);have a6:Below N.heap.size N N.drew:=(Below.refl _ _).drew;have a9:=z0 (aT.o.below a6);have aU:Hd (N.drew.heap[w.heap.size]?=some (.cells B 49 (0,0))/\N.drew.heap[w.heap.size+1]?=some (.cells X 52 (0,0))):=z0 ⟨ae.o,ag.o⟩;have b8:=(an.o N.drew a9.o).1;refine Rh (S:=fun W=>kq (.pointer (some ⟨w.heap.size,0,none⟩)) W=.ok (.value (.agg B)) W/\yP (.pointer (some ⟨w.heap.size+1,0,none⟩)) W=.ok (.value (.agg X)) W/\W.cell? ⟨g,1,none⟩=some (.int .i64 t.n)) (by kernel_rfl) (a1.o _ t a9.o rfl aU.o) (fun a4=>?_);refine' z5 0 (h:=z5 1 (h:=z5 2 (h:=z5 3 (h:=z5 5 (h:=z5 6 (h:=z5 7 (h:=vR 8 (h:=vR 9 (h:=vR 10 (h:=?_))))))))));refine qc 4 (h:=fun O F=>?_);go_simp;refine F.out _ _ (a1.o _ t a9.o rfl aU.o) (fun a4=>?_);clear F O;try simp only[zx]
 refine qc 11 (h:=fun O F=>?_);go_simp;refine(ab.o _ (am.o.trans (a6.mono am.o.size))).mono ?_;rintro e a5 ⟨rfl,a2⟩;unfold Q9;rw[az.o,aw.o,ax.o];have a3:=z0 (a9.o.below a2);have ah:Hd (a5.heap[w.heap.size]?=some (.cells B 49 (0,0))/\a5.heap[w.heap.size+1]?=some (.cells X 52 (0,0))):=z0 ⟨((a2.block _ (Lb ae.o)).trans ae.o),((a2.block _ (Lb ag.o)).trans ag.o)⟩;have bd:Hd (a5.heap[w.heap.size+2]?=some (.cells Z 54 (0,0))):=z0 ((a2.block _ (Lb aG.o)).trans aG.o);have aQ:=z0 (((vw.of (g:=g) (b:=b) (a:=a) am.o).then a6).then a2);refine F.out _ _ (a1.o _ t a3.o rfl ah.o) (fun a4=>?_);clear F O;try simp only[zx]
 refine' z5 12 (h:=z5 13 (h:=z5 14 (h:=?_)));refine qc 15 (h:=fun O F=>?_);go_simp;refine(aJ.o a5 a3.o aQ.o).mono ?_;rintro e a0 ⟨rfl,h2,G⟩;have ad:Hd (a0.heap[w.heap.size]?=some (.cells B 49 (0,0))/\a0.heap[w.heap.size+1]?=some (.cells X 52 (0,0))):=z0 ⟨(a3.o.other ah.o.1 (by decide) (by decide) (by decide) G),(a3.o.other ah.o.2 (by decide) (by decide) (by decide) G)⟩;have aC:=z0 h2;have b7:=z0 (aQ.o.trans G);have b4:Hd (a0.heap[w.heap.size+2]?=some (.cells Z 54 (0,0))):=z0 (a3.o.other bd.o (by decide) (by decide) (by decide) G);clear h2 G;obtain⟨aW,aM,aH,ap⟩:=KN (r:=r) aC.o b7.o b4.o aX.o ba.o al.o;have aN:=z0 aM;have ai:=z0 aH;have ar:=z0 ap;have aF:=z0 (zg al.o);clear aM aH ap;obtain⟨Y,af⟩:=nm (zy r.a);obtain⟨E,au⟩:=nm (r.e);rw[af.o]at aW aN ai ar aF;rw[af.o,au.o];have aZ:Hd ((qb a0 (w.heap.size+2) Y).heap[w.heap.size]?=some (.cells B 49 (0,0))/\(qb a0 (w.heap.size+2) Y).heap[w.heap.size+1]?=some (.cells X 52 (0,0))):=z0 ⟨((yO a0 Y (by omega)).trans ad.o.1),((yO a0 Y (by omega)).trans ad.o.2)⟩;have av:Hd (r.t.n=t.n):=z0 (by rw[<-a8.o];exact z7l t q);refine F.out _ _ (a1.o _ r.t aC.o av.o ad.o) (fun a4=>?_);clear F O;try simp only[zx]
 refine' z5 16 (h:=z5 17 (h:=?_));refine qc 18 (h:=fun O F=>?_);go_simp;refine F.out _ _ (a1.o _ r.t ai.o av.o aZ.o) (fun a4=>?_);clear F O;try simp only[zx]
 refine' z5 19 (h:=?_);refine wpAnyH_done (by kernel_rfl) ?_ _;clear a4 aW b8 a6;go_wp2;try simp only[Exit.inBlock,Exit.then]
 refine Bp (yD rfl _ _ _ _ _ _ rfl rfl aN.o aF.o) rfl ?_;unfold vp;rw[b9.o,aS.o,a8.o];exact⟨by rw[af.o,au.o];try rfl,ai.o,ar.o⟩
theorem z59 (h:ya w g b c a t) (I:t.Good) (h0:t.e=0) (a7:Value) (kc:YL) (ag:CtV w a7 kc) (aw:kc.sg.length<=1000) (F:∀W,vw g b a w W->yB 1 W):
  Calls prog 34 #[.pointer (some ⟨g,0,none⟩),a7] w (vp g b c a (vO t kc) w):=by
 have aX:Hd (vO t kc=qX t (yl t.s t.n kc)):=z0 (by unfold vO;rw[if_pos h0]);have ad:Hd (KE t.s (yl t.s t.n kc)):=z0 (Xc (by obtain⟨_,_,ho,_⟩:=ag;exact ho));obtain⟨q,aI⟩:=nm (yl t.s t.n kc);have a6:Hd (∀W,Below w.heap.size w W->Calls prog 66 #[.agg (zp t.s),.int .i64 t.n,a7] W (vo (yl t.s t.n kc) W)):=z0 (fun W K=>z54 t.s I.s t.n (by have:=I.n1;have:=I.n2;simp[Lit.wf,IntKind.min,IntKind.max,IntKind.signed,IntKind.bits];omega) a7 kc W (ag.below K) aw (F W (vw.of K)));obtain⟨ao,rfl,aq,aT⟩:=ag;have aD:=z0 (QU ao aq.att);clear aT aq aw;obtain⟨C,av⟩:=nm (JA kc ao);rw[av.o]at a6 aD;rw[av.o];rw[aI.o]at ad a6;have aE:Hd (∀W,ya W g b c a t->vw g b a w W->Calls prog 51 #[.pointer (some ⟨g,0,none⟩),.agg (zp q.s),.agg (zy q.a),.int .i64 q.e] W (vp g b c a (qX t q) W)):=z0 (fun W h2 G=>Jh h2 I h0 q ad.o (fun aP b0=>F aP (G.trans b0)));have ae:Hd ((qX t q).a.Ok):=z0 (xw ad.o.ok);have b7:=z0 I;obtain⟨Z,az⟩:=nm (zy ju);have aO:Hd (Z.size=101):=z0 (by rw[<-az.o];exact zg qf);have aS:zt (w.alloc (.cells C 57))=.ok (.value (.pointer (some ⟨w.heap.size+1,0,none⟩))) ((w.alloc (.cells C 57)).alloc (.cells Z 54)):=by
  have:=zC (w.alloc (.cells C 57));rw[az.o]at this
  rwa[show(w.alloc (.cells C 57)).heap.size=w.heap.size+1 from by simp]at this
 obtain⟨aF,aL⟩:=qM w (.cells C 57) (.cells Z 54);have K:Below w.heap.size w ((w.alloc (.cells C 57)).alloc (.cells Z 54)):=(((Below.refl w.heap.size w).alloc (Nat.le_refl _) _).alloc (by simp;try omega) _)
 have aJ:=z0 (h.below K);have af:=z0 K;have a9:=z0 aF;have au:=z0 aL;have aZ:Hd (w.heap.size<=w.heap.size+1):=z0 (by omega)
 have b1:Hd (∀W,ya W g b c a t->Calls prog 19 #[.pointer (some ⟨g,0,none⟩)] W fun e w'=>e=.returned (.bool false)/\W=w'):=z0 (fun W h2=>by
  have:=vP h2 I;rw[h0]at this
  exact this)
 have aR:=z0 (zd I.s);have ai:Hd (∀W,ya W g b c a t->zW (.pointer (some ⟨g,3,none⟩)) W=.ok (.value (.agg (zp t.s))) W/\W.cell? ⟨g,1,none⟩=some (.int .i64 t.n)):=z0 (fun W ⟨_,h2⟩=>⟨h2.seal_ I.s,h2.cells.2.1⟩);obtain⟨S,ax⟩:=nm (zp t.s);rw[ax.o]at aR ai a6;clear h I h0 F K ax aF aL;go_enter func34,ntmps34;go_upto_region 1 with(fail)
 clear aS;generalize ((w.alloc (.cells C 57)).alloc (.cells Z 54))=M at *;go_wp2_with fail;refine(b1.o M aJ.o).mono ?_;rintro e a8 ⟨rfl,rfl⟩;obtain⟨b5,ar⟩:=nm (zp q.s);obtain⟨b8,an⟩:=nm (zy q.a);obtain⟨b6,ap⟩:=nm (q.e);obtain⟨r,a1⟩:=nm (qX t q);rw[a1.o]at ae;rw[ar.o,an.o,ap.o,a1.o]at aE;go_upto_region 3 with(fail)
 have N:Hd (∀W G,ya W g b c a G->G.n=t.n->(W.heap[w.heap.size]?=some (.cells C 57 (0,0)))->xt (.pointer (some ⟨w.heap.size,0,none⟩)) W=.ok (.value (.agg C)) W/\W.cell? ⟨g,1,none⟩=some (.int .i64 t.n)):=z0 (fun W G ⟨_,h2⟩ hn aY=>⟨xS aY aD.o,by have:=h2.cells.2.1;rwa[hn]at this⟩);have a0:Below M.heap.size M M.drew:=(Below.refl _ _).drew;have a2:=z0 (aJ.o.below a0);have aK:Hd (M.drew.heap[w.heap.size]?=some (.cells C 57 (0,0))):=z0 a9.o;have aW:=(ai.o M.drew a2.o).1;refine Rh (S:=fun W=>xt (.pointer (some ⟨w.heap.size,0,none⟩)) W=.ok (.value (.agg C)) W/\W.cell? ⟨g,1,none⟩=some (.int .i64 t.n)) (by kernel_rfl) (N.o _ t a2.o rfl aK.o) (fun O=>?_);refine' z5 0 (h:=z5 1 (h:=z5 2 (h:=z5 3 (h:=z5 5 (h:=z5 6 (h:=z5 7 (h:=vX 8 (h:=vX 9 (h:=?_)))))))));refine qc 4 (h:=fun J F=>?_);go_simp;refine F.out _ _ (N.o _ t a2.o rfl aK.o) (fun O=>?_);clear F J;try simp only[zx]
 refine qc 10 (h:=fun J F=>?_);go_simp;refine(a6.o _ (af.o.trans (a0.mono af.o.size))).mono ?_;rintro e a8 ⟨rfl,a3⟩;unfold Q9;rw[ar.o,an.o,ap.o];have a4:=z0 (a2.o.below a3);have aB:Hd (a8.heap[w.heap.size]?=some (.cells C 57 (0,0))):=z0 ((a3.block _ (Lb a9.o)).trans a9.o);have b4:Hd (a8.heap[w.heap.size+1]?=some (.cells Z 54 (0,0))):=z0 ((a3.block _ (Lb au.o)).trans au.o);have aH:=z0 (((vw.of (g:=g) (b:=b) (a:=a) af.o).then a0).then a3);refine F.out _ _ (N.o _ t a4.o rfl aB.o) (fun O=>?_);clear F J;try simp only[zx]
 refine' z5 11 (h:=z5 12 (h:=z5 13 (h:=?_)));refine qc 14 (h:=fun J F=>?_);go_simp;refine(aE.o a8 a4.o aH.o).mono ?_;rintro e a5 ⟨rfl,h2,G⟩;have ah:Hd (a5.heap[w.heap.size]?=some (.cells C 57 (0,0))):=z0 (a4.o.other aB.o (by decide) (by decide) (by decide) G);have ay:=z0 h2;have aV:=z0 (aH.o.trans G);have aU:Hd (a5.heap[w.heap.size+1]?=some (.cells Z 54 (0,0))):=z0 (a4.o.other b4.o (by decide) (by decide) (by decide) G);clear h2 G;obtain⟨aM,aN,aC,aj⟩:=KN (r:=r) ay.o aV.o aU.o aO.o aZ.o ae.o;have aG:=z0 aN;have ab:=z0 aC;have ak:=z0 aj;have aA:=z0 (zg ae.o);clear aN aC aj;obtain⟨Y,aa⟩:=nm (zy r.a);obtain⟨E,al⟩:=nm (r.e);rw[aa.o]at aM aG ab ak aA;rw[aa.o,al.o];have aQ:Hd ((qb a5 (w.heap.size+1) Y).heap[w.heap.size]?=some (.cells C 57 (0,0))):=z0 ((yO a5 Y (by omega)).trans ah.o);have am:Hd (r.t.n=t.n):=z0 (by rw[<-a1.o];exact z7l t q);refine F.out _ _ (N.o _ r.t ay.o am.o ah.o) (fun O=>?_);clear F J;try simp only[zx]
 refine' z5 15 (h:=z5 16 (h:=?_));refine qc 17 (h:=fun J F=>?_);go_simp;refine F.out _ _ (N.o _ r.t ab.o am.o aQ.o) (fun O=>?_);clear F J;try simp only[zx]
 refine' z5 18 (h:=?_);refine wpAnyH_done (by kernel_rfl) ?_ _;clear O aM aW a0;go_wp2;try simp only[Exit.inBlock,Exit.then]
 refine Bp (yD rfl _ _ _ _ _ _ rfl rfl aG.o aA.o) rfl ?_;unfold vp;rw[aX.o,aI.o,a1.o];exact⟨by rw[aa.o,al.o];try rfl,ab.o,ak.o⟩
end
end
end Go.Proofs.YtjlinimnnbfmaaaGreatDoor
