/-
  Accumulations of a trusted part: tithingref17.Accu, and tee's. Printed with genteref.py.
-/
import Derived.Test.YtjlinimnnbfmaaaGreatDoorPlBs19
import Derived.Test.YtjlinimnnbfmaaaGreatDoorPlBs19
import Derived.Test.YtjlinimnnbfmaaaGreatDoorPlTeCodeP
import Derived.Test.YtjlinimnnbfmaaaGreatDoorPlTeRvB
set_option maxRecDepth 20000
set_option maxHeartbeats 6400000
namespace Go.Proofs.YtjlinimnnbfmaaaGreatDoor
open Go.RowKit Go.Proofs.Tryz
theorem z2t (b n vi:Int) (l:List y8):∀x∈(vu b n vi l).1.fr,x≠0:=by
 intro x hx;unfold vu at hx;split at hx
 ·simp[Zy]at hx
 ·split at hx
  ·simp[Zy]at hx
  ·split at hx
   ·simp[Zy]at hx
   ·have F:x∈(j8 l (qC n) n.toNat).1:=hx;have:=(ZV (KC l (qC n) n.toNat) x F).1;omega
def zdC (u:Value):Bool:=match u with
 | .int .i64 y=>decide (y=0)
 |_=>true
theorem zbZ:(ye Zy (.slice none 0 0)).toList.all zdC=true:=by kernel_rfl
theorem zc0 {i:Nat}{x:Int} (h:(ye Zy (.slice none 0 0))[i]?=some (.int .i64 x)):x=0:=by
 have F:Value.int .i64 x∈(ye Zy (.slice none 0 0)).toList:=by
  rw[<-Array.getElem?_toList]at h;exact List.mem_of_getElem? h
 have:=List.all_eq_true.1 zbZ _ F;unfold zdC at this
 simpa using this
theorem zc1 {w w':World}{v:Value}{L:List Int} (h:jE VB 1 w v L) (I:∀x∈L,x≠0) {p:Nat}{T:TypeId} (hp:w.heap[p]?=some (.cells (ye Zy (.slice none 0 0)) T (0,0))) (a0:w.heap.size<=w'.heap.size) (J:∀k,k≠p->w'.heap[k]?=w.heap[k]?):jE VB 1 w' v L:=by
 obtain⟨A,c,rfl,h1,h2,h3⟩:=h;refine⟨A,c,rfl,h1,h2,fun hl=>?_⟩;obtain⟨b,M,e,O,G⟩:=h3 hl;have N:b≠p:=by
  rintro rfl;have F:=G 0 hl 0 (.int .i64 L[0]) rfl;rw[z7 hp]at F;exact I _ (List.getElem_mem hl) (zc0 F)
 exact⟨b,M,e,by omega,fun j K=>vC (G j K) (J b N)⟩
theorem zdD:∀T:TypeId,T=5\/T=89\/T=165\/T=162\/T=106->T≠52:=by
 intro T h;rcases h with rfl|rfl|rfl|rfl|rfl <;> decide
def z6P (p:vU×Int) (w:World) (e:Ending) (w':World):Prop:=∃x,e=.returned (.tuple #[x,.int .i64 p.2])/\Kh w' x p.1/\Below w.heap.size w w'
theorem zaC {w W:World}{p:Nat}{a:vU}{s:Value} (hp:W.heap[p]?=some (.cells (ye Zy (.slice none 0 0)) 52 (0,0))) (ha:a.Ok) (F:jE VB 1 W s a.fr) (I:∀x∈a.fr,x≠0) (J:Below w.heap.size w W) (K:w.heap.size<=p):
  Qo (.pointer (some ⟨p,0,none⟩)) (.agg (ye a s)) W=.ok .skip (vM W p (ye a s))/\(vM W p (ye a s)).heap[p]?=some (.cells (ye a s) 52 (0,0))/\Kh (vM W p (ye a s)) (.agg (ye a s)) a/\Below w.heap.size w (vM W p (ye a s)):=
 ⟨jk hp (zT _ Zh) (zT s ha) (jt F),vN hp,⟨s,rfl,ha,zc1 F I hp (Nat.le_of_eq (Vb W p _).symm) (fun _ G=>Z9 W _ G)⟩,jO J K⟩
section
attribute [local go_sem ↓] kf vl vm Z4 zO
theorem z1y {w:World}{t:Zl}{D C0:Array Value} (hD:Ki w D C0 t) (G:t.Good) (vi:Int) (v:Value) (L:List y8) (hv:jE xZ 101 w v L) (hok:∀a∈L,a.Ok) (hl:L.length<=1000) (hK:yB 0 w):Calls prog 14 #[.agg D,.int .i64 vi,v] w (z6P (QZ t vi L) w):=by
 have HMK:=z0 (fun W (hb:Below w.heap.size w W)=>z1u t.i t.n vi v L W (hv.below hb) hok hl (hK.below hb));have HPZ0:=z0 (z2t t.i t.n vi L);have HCS0:=z0 (And.intro hD.c.size hD.c.one);have HTS:=z0 (zd G.s);have HDE:=z0 hD.d;obtain⟨S0,HS0⟩:=nm (zp t.s);rw[HS0.o]at HDE HTS;obtain⟨hb0,HHB⟩:=nm ((t.e != 0));rw[HHB.o]at HDE;obtain⟨Av,kv,rfl⟩:=hv.shape;obtain⟨Ln,HLn⟩:=nm (L.length:Nat);rw[HLn.o]at HMK⊢;have hal0:Qn (w.alloc (.cells D 42))=.ok (.value (.pointer (some ⟨w.heap.size+1,0,none⟩))) ((w.alloc (.cells D 42)).alloc (.cells (ye Zy (.slice none 0 0)) 52)):=by
  have:=jT (w.alloc (.cells D 42))
  rwa[show(w.alloc (.cells D 42)).heap.size=w.heap.size+1 from by simp]at this
 obtain⟨hr0,hr1⟩:=qM w (.cells D 42) (.cells (ye Zy (.slice none 0 0)) 52);have HBZ:Hd (Below w.heap.size w ((w.alloc (.cells D 42)).alloc (.cells (ye Zy (.slice none 0 0)) 52))):=z0 (Ba.alloc (by simp) _);have HR0:=z0 hr0;have HR1:=z0 hr1;have HLE:=z0 (show w.heap.size<=w.heap.size+1 from by omega);have HLX:=z0 jT;have HBX:=z0 Yo;obtain⟨ZX,HZX⟩:=nm (ye Zy (.slice none 0 0));have HZXS:Hd (ZX.size=68):=z0 (by rw[<-HZX.o];exact zT _ Zh);rw[HZX.o]at hal0 HBZ HR0 HR1 HLX HBX;clear hD G hv hok hl hK hr0 hr1;go_enter func14,ntmps14;go_upto_region 1 with(fail)
 clear hal0;generalize ((w.alloc (.cells D 42)).alloc (.cells ZX 52))=wz at *;have hrd:=Zs (by rw[<-HDE.o];exact HR0.o) HCS0.o.1 HTS.o;have c45:=hrd.h;by_cases h0:t.e=0
 ·have hbf:hb0=false:=by rw[<-HHB.o,h0];rfl
  subst hbf;have HAQ:Hd (QZ t vi L=vu t.i t.n vi L):=z0 (by unfold QZ;rw[if_pos h0]);have ci:=hrd.i;have cn:=hrd.n;clear h0 hrd;go_upto_region 3 with(fail)
  clear c45;go_wp2_with fail;refine(HMK.o wz HBZ.o).mono ?_;rintro e w1 ⟨x,rfl,⟨s,rfl,ha,hs⟩,hb1⟩;obtain⟨a,HA⟩:=nm ((vu t.i t.n vi L).1:vU);obtain⟨E,HE⟩:=nm ((vu t.i t.n vi L).2:Int);have HPZ:=z0 HPZ0.o;rw[HA.o]at ha hs HPZ;rw[HA.o,HE.o];have HAO:=z0 ha;have hal:=HLX.o w1;have hst:=Vc w1 HZXS.o (zT s ha) (jt hs);have hb2:Below wz.heap.size wz (w1.alloc (.cells (ye a s) 52)):=hb1.alloc hb1.size _;have HB2:=z0 (HBZ.o.trans (hb2.mono HBZ.o.size));have HR2:=z0 ((hb2.block _ (Lb HR1.o)).trans HR1.o);have HN2:=z0 (Xh w1 (.cells (ye a s) 52));have HS2:=z0 (hs.below ((Below.refl w1.heap.size w1).alloc (Nat.le_refl _) (.cells (ye a s) 52)));clear ci cn ha hs hb1 hb2;go_upto_region 4 with(fail)
  clear hal hst;generalize (w1.alloc (.cells (ye a s) 52))=w2 at *;generalize w1.heap.size=p2 at *;obtain⟨hst,hrp,hac,hbe⟩:=zaC (w:=w) (by rw[HZX.o];exact HR2.o) HAO.o HS2.o HPZ.o HB2.o HLE.o;have HRP2:=z0 hrp;have HAC2:=z0 hac;have HBE2:=z0 hbe;have HCS:=z0 (zT s HAO.o);obtain⟨C,HCC⟩:=nm (ye a s);rw[HCC.o]at hst HRP2 HAC2 HBE2 HCS;rw[HCC.o]at HN2;have lx:=qH HN2.o HCS.o;go_wp2;try simp only[Exit.inBlock,Exit.then]
  refine Bp (zY rfl _ _ _ _ _ _ rfl rfl HRP2.o HCS.o) rfl ⟨.agg C,?_,by rw[HAQ.o,HA.o];exact HAC2.o,HBE2.o⟩;rw[HAQ.o,HE.o];try rfl
 ·have hbt:hb0=true:=by rw[<-HHB.o];simpa using h0
  subst hbt;have HAQ:Hd (QZ t vi L=(Zy,8)):=z0 (by unfold QZ;rw[if_neg h0]);clear hrd h0;have hbu:=HBX.o;have hst:=jk HR1.o HZXS.o HZXS.o (by rw[<-HZX.o];exact jt (w:=w) (a:=Zy) (jE.nil w));have HRP2:=z0 (vN (C:=ZX) HR1.o);have HBE2:=z0 (jO (C:=ZX) HBZ.o HLE.o);go_wp2;try simp only[Exit.inBlock,Exit.then]
  refine Bp (zY rfl _ _ _ _ _ _ rfl rfl HRP2.o HZXS.o) rfl ⟨.agg ZX,?_,by rw[HAQ.o,<-HZX.o];exact(⟨_,rfl,Zh,jE.nil _⟩:Kh _ _ Zy),HBE2.o⟩;rw[HAQ.o];try rfl
theorem z6Q {w:World}{g b c a0:Nat}{t:Zl} (h:ya w g b c a0 t) (G:t.Good) (h0:t.e=0) (vi:Int) (v:Value) (L:List y8) (hv:jE xZ 101 w v L) (hok:∀a∈L,a.Ok) (hl:L.length<=1000) (hK:yB 1 w):Calls prog 13 #[.pointer (some ⟨g,0,none⟩),.int .i64 vi,v] w (z6P (QZ t vi L) w):=by
 have HMK:=z0 (fun W (hb:Below w.heap.size w W)=>Vi t.i t.n vi v L W (by have:=G.n1;have:=G.n2;simp[Lit.wf,IntKind.min,IntKind.max,IntKind.signed,IntKind.bits];omega) (hv.below hb) hok hl (hK.below hb));have HPZ0:=z0 (z2t t.i t.n vi L);have HAQ:Hd (QZ t vi L=vu t.i t.n vi L):=z0 (by unfold QZ;rw[if_pos h0])
 have HHT:Hd (∀W,ya W g b c a0 t->Calls prog 19 #[.pointer (some ⟨g,0,none⟩)] W fun e w'=>e=.returned (.bool false)/\W=w'):=z0 (fun W h2=>by
  have:=vP h2 G;rw[h0]at this
  exact this)
 obtain⟨Av,kv,rfl⟩:=hv.shape;obtain⟨Ln,HLn⟩:=nm (L.length:Nat);rw[HLn.o]at HMK⊢;have hal0:=jT w;have hr0:=Xh w (.cells (ye Zy (.slice none 0 0)) 52);have HBZ:Hd (Below w.heap.size w (w.alloc (.cells (ye Zy (.slice none 0 0)) 52))):=z0 Ba;have HTW:=z0 (h.below HBZ.o);have HR1:=z0 hr0;have HLE:=z0 (Nat.le_refl w.heap.size);obtain⟨ZX,HZX⟩:=nm (ye Zy (.slice none 0 0));rw[HZX.o]at hal0 HBZ HR1 HTW;clear h G h0 hv hok hl hK hr0;go_enter func13,ntmps13;go_upto_region 1 with(fail)
 clear hal0;generalize (w.alloc (.cells ZX 52))=wz at *;go_wp2_with fail;refine(HHT.o wz HTW.o).mono ?_;rintro e w1 ⟨rfl,rfl⟩;go_upto_region 3 with(fail)
 have HF:Hd (∀W,Below wz.heap.size wz W->W.cell? ⟨g,0,none⟩=some (.int .i64 t.i)/\W.cell? ⟨g,1,none⟩=some (.int .i64 t.n)):=z0 (fun W hb=>by
  obtain⟨_,h2⟩:=HTW.o.below hb
  exact⟨h2.cells.1,h2.cells.2.1⟩)
 have hbd:Below wz.heap.size wz wz.drew:=(Below.refl _ _).drew;refine Rh (S:=fun W=>W.cell? ⟨g,0,none⟩=some (.int .i64 t.i)/\W.cell? ⟨g,1,none⟩=some (.int .i64 t.n)) (by kernel_rfl) (HF.o _ hbd) (fun hHeld=>?_);refine' z5 0 (h:=z5 1 (h:=z5 2 (h:=vX 3 (h:=z5 4 (h:=z5 5 (h:=z5 6 (h:=vX 7 (h:=z5 8 (h:=z5 9 (h:=?_))))))))));refine qc 10 (h:=fun K hK=>?_);go_simp;refine(HMK.o _ (HBZ.o.trans (hbd.mono HBZ.o.size))).mono ?_;rintro e w2 ⟨x,rfl,⟨s,rfl,ha,hs⟩,hb2⟩;obtain⟨a,HA⟩:=nm ((vu t.i t.n vi L).1:vU);obtain⟨E,HE⟩:=nm ((vu t.i t.n vi L).2:Int);have HPZ:=z0 HPZ0.o;rw[HA.o]at ha hs HPZ;rw[HA.o,HE.o];have HAO:=z0 ha;have HS2:=z0 hs;have HBF:=z0 (hbd.trans (hb2.mono hbd.size));have HB2:=z0 (HBZ.o.trans (HBF.o.mono HBZ.o.size));have HR2:=z0 ((HBF.o.block _ (Lb HR1.o)).trans HR1.o);obtain⟨hst,hrp,hac,hbe⟩:=zaC (w:=w) (by rw[HZX.o];exact HR2.o) HAO.o HS2.o HPZ.o HB2.o HLE.o;have HRP2:=z0 hrp;have HAC2:=z0 hac;have HBE2:=z0 hbe;have HCS:=z0 (zT s HAO.o);obtain⟨C,HCC⟩:=nm (ye a s);rw[HCC.o]at hst HRP2 HAC2 HBE2 HCS;rw[HCC.o];have HTW3:=z0 (ya.aside (HTW.o.below HBF.o) HR2.o zdD (Nat.le_of_eq (Vb w2 w.heap.size C).symm) (fun k hk=>Z9 w2 C hk))
 have HFW:Hd ((vM w2 w.heap.size C).cell? ⟨g,0,none⟩=some (.int .i64 t.i)/\(vM w2 w.heap.size C).cell? ⟨g,1,none⟩=some (.int .i64 t.n)):=z0 (by
  obtain⟨_,h2⟩:=HTW3.o
  exact⟨h2.cells.1,h2.cells.2.1⟩)
 refine hK.out _ _ (HF.o _ HBF.o) (fun hHeld=>?_);clear hK K;try simp only[zx]
 refine' z5 11 (h:=z5 12 (h:=?_));refine qc 13 (h:=fun K hK=>?_);go_simp;refine hK.out _ _ (HFW.o) (fun hHeld=>?_);clear hK K;try simp only[zx]
 refine' z5 14 (h:=?_);refine wpAnyH_done (by kernel_rfl) ?_ _;clear hHeld hst hbd;go_wp2;try simp only[Exit.inBlock,Exit.then]
 refine Bp (zY rfl _ _ _ _ _ _ rfl rfl HRP2.o HCS.o) rfl ⟨.agg C,?_,by rw[HAQ.o,HA.o];exact HAC2.o,HBE2.o⟩;rw[HAQ.o,HE.o];try rfl
end
end Go.Proofs.YtjlinimnnbfmaaaGreatDoor
