/-
  'tithinglaw17.TeeDoes' returns true whatever comes in, and leaves it as it was, where the package's constants are as the program's text lays them. No other condition.
-/
import Derived.Test.YtjlinimnnbfmaaaGreatDoorPlTeDoWords
import Derived.Test.YtjlinimnnbfmaaaGreatDoorCards
import Derived.Test.YtjlinimnnbfmaaaGreatDoorTie
set_option maxRecDepth 20000
set_option maxHeartbeats 25600000
namespace Go.Proofs.YtjlinimnnbfmaaaGreatDoor
open Go.RowKit Go.Proofs.Tryz
section
attribute [local go_sem ↓] zm zq zr ze zn zo z5a z5b qL qv qw kf kt ku z3D z1z z1A xv VZ z3w zO vl vm
theorem zc3 {N k:Nat} (h:k<N) (F:wrap64 ((k:Int)+1)=(k:Int)+1):N - (intOf (Value.int IntKind.i64 (wrap64 ((k:Int)+1)))).toNat<N - (intOf (Value.int IntKind.i64 (k:Int))).toNat:=by
 rw[F];simp only[intOf];omega
theorem zc4 {w:World}{A:Option Addr}{k c:Nat}{L:List JC} (h:jE spl 253 w (.slice A k c) L) (j:Nat) (J:j<L.length):∃b F,A=some ⟨b,F,none⟩/\∀W,Below w.heap.size w W->W.rangeAt b (F+j*253) (spl L[j]):=by
 obtain⟨b,F,e,I,G⟩:=h.at_.2.2.2 (by omega);exact⟨b,F,e,fun W K=>vC (G j J) (K.block b I)⟩
theorem zda {W:World}{g:Nat}{x:JC}{t:TypeId} (h:W.heap[g]?=some (.cells (spc x) t (0,0))):W.rangeAt g 0 (spl x):=fun j u F=>by
 rw[Nat.zero_add,z7 h];unfold spc;rw[List.getElem?_toArray];exact F
theorem z1a (i n:Int) (v:Value) (L:List JC) (w:World) (hwn:(Lit.int .i64 n).wf=true) (hv:jE spl 253 w v L) (ho:∀x∈L,YI w x) (hK:yB 1 w) (hK2:yB 0 w):
  Calls prog 3 #[.int .i64 i,.int .i64 n,v] w fun e w'=>e=.returned (.bool true)/\Below w.heap.size w w':=by
 have HAW:Hd (∀W,Below w.heap.size w W->Calls prog 6 #[] W fun e w'=>e=.returned (.bool true)/\Below W.heap.size W w'):=z0 (fun W hb=>z5h W (hK.below hb) (hK2.below hb));have HLG:=z0 (z5e v L w hv ho);have HKS:Hd (∀W,Below w.heap.size w W->yB 1 W/\yB 0 W):=z0 (fun W hb=>⟨hK.below hb,hK2.below hb⟩);obtain⟨A,cl,rfl⟩:=hv.shape;obtain⟨N,HN⟩:=nm (L.length:Nat);have HEL:=z0 (zc4 hv);have HOK:Hd (∀k (h:k<L.length),YI w L[k]):=z0 (fun k hk=>ho _ (List.getElem_mem hk));have HWN:=z0 hwn;obtain⟨E0,HE0⟩:=nm ((qC n:Int))
 have HQU:Hd (∀W,Calls prog 5 #[.int .i64 n] W fun e w'=>e=.returned (.int .i64 E0)/\W=w'):=z0 (fun W=>by
  have:=xY n W
  rwa[HE0.o]at this)
 rw[HN.o]at HLG⊢;clear hv ho hK hK2 hwn;go_enter func3,ntmps3;go_wp2_with fail;refine HLG.o.mono ?_;rintro e w1 ⟨q,rfl,hq,hb1⟩;have HQ:=z0 hq;have HB1:=z0 hb1;clear hq hb1;cases q with
 |false=>
  go_wp2_with fail;refine(HAW.o w1 HB1.o).mono ?_;rintro e wa ⟨rfl,hba⟩;go_wp2;go_ret;exact⟨rfl,HB1.o.trans (hba.mono HB1.o.size)⟩
 |true=>
 have HLIT:=z0 (HQ.o rfl);go_wp2_with fail;refine(HQU.o w1).mono ?_;rintro e w2 ⟨rfl,rfl⟩;by_cases p0:E0=0
 ·subst p0;go_wp2_with fail;refine(HAW.o w1 HB1.o).mono ?_;rintro e wa ⟨rfl,hba⟩;go_wp2;go_ret;exact⟨rfl,HB1.o.trans (hba.mono HB1.o.size)⟩
 have f0:(E0 == 0)=false:=by simpa using p0
 by_cases p1:i<1
 ·go_wp2_with fail;refine(HAW.o w1 HB1.o).mono ?_;rintro e wa ⟨rfl,hba⟩;go_wp2;go_ret;exact⟨rfl,HB1.o.trans (hba.mono HB1.o.size)⟩
 by_cases p2:n<i
 ·go_wp2_with fail;refine(HAW.o w1 HB1.o).mono ?_;rintro e wa ⟨rfl,hba⟩;go_wp2;go_ret;exact⟨rfl,HB1.o.trans (hba.mono HB1.o.size)⟩
 have HNQ:Hd (¬(qC n=0\/i<1\/n<i)):=z0 (by
  have:=HE0.o
  omega)
 have HIN:Hd (1<=i/\i<=21/\0<=n/\n<=1000):=z0 (by
  have h1:=HNQ.o;have h2:qC n≠0:=fun e=>h1 (.inl e);unfold qC at h2;split at h2
  ·omega
  ·exact absurd rfl h2)
 go_upto_region 3 with(fail)
 clear p0 p1 p2 f0;go_wp2_with fail;refine(z4z i 0 w1 (by have:=HIN.o;unfold zS;rw[decide_eq_true_eq];omega) (by decide) (by decide)).mono ?_;rintro e w2 ⟨b,c,a,rfl,hv2,hbb,hba,hb2⟩;have HV2:=z0 hv2;have HBA:=z0 (And.intro (Nat.le_trans HB1.o.size hbb) (Nat.le_trans HB1.o.size hba));have HB2:=z0 (HB1.o.trans (hb2.mono HB1.o.size));have HGV:Hd (YG i 0).Good:=z0 (KA (by have:=HIN.o;unfold zS;rw[decide_eq_true_eq];omega) (by decide) (by decide));clear hv2 hbb hba hb2;have HSTA:Hd (∀W V,jL W b c a V->V.Good->Below w.heap.size w W->Calls prog 8 #[.int .i64 i,.int .i64 n,.pointer (some ⟨b,0,none⟩)] W (zat b c a (jz i n V) W)):=z0 (fun W V h g hb=>z11 h g HNQ.o (Jg g HIN.o.1 HIN.o.2.1 HIN.o.2.2.1 HIN.o.2.2.2) HWN.o (HKS.o W hb).1);have HSGD:Hd (∀V:yV,V.Good->(jz i n V).Good):=z0 (fun V g=>Jg g HIN.o.1 HIN.o.2.1 HIN.o.2.2.1 HIN.o.2.2.2);have HRST:Hd (∀W V C,vd W C V->V.Good->Below w.heap.size w W->Calls prog 9 #[.int .i64 i,.int .i64 n,.agg C] W (zaB (jz i n V) W)):=z0 (fun W V C h g hb=>z16 h g (HKS.o W hb).2);obtain⟨ZT,HZT⟩:=nm (rtZ);obtain⟨ZA,HZA⟩:=nm (zy ju);have HZZ:Hd (ZT.size=47/\ZA.size=101):=z0 (by rw[<-HZT.o,<-HZA.o];exact⟨ja rfl (zd qp),zg qf⟩);have HLT:Hd (∀W,jD W=.ok (.value (.pointer (some ⟨W.heap.size,0,none⟩))) (W.alloc (.cells ZT 42))):=z0 (fun W=>by rw[<-HZT.o];exact kG W);have HLA:Hd (∀W,zt W=.ok (.value (.pointer (some ⟨W.heap.size,0,none⟩))) (W.alloc (.cells ZA 54))):=z0 (fun W=>by rw[<-HZA.o];exact zC W);obtain⟨ZX,HZX⟩:=nm (ye Zy (.slice none 0 0));have HZXS:Hd (ZX.size=68):=z0 (by rw[<-HZX.o];exact zT _ Zh);have HLX:Hd (∀W,Qn W=.ok (.value (.pointer (some ⟨W.heap.size,0,none⟩))) (W.alloc (.cells ZX 52))):=z0 (fun W=>by rw[<-HZX.o];exact jT W);obtain⟨ZP,HZP⟩:=nm (spc spZ);have HZPS:Hd (ZP.size=253):=z0 (by rw[<-HZP.o];exact z12 (z6L w));have HLP:Hd (∀W,XM W=.ok (.value (.pointer (some ⟨W.heap.size,0,none⟩))) (W.alloc (.cells ZP 64))):=z0 (fun W=>by rw[<-HZP.o];exact z6U W);go_upto_region 6 with(fail)
 go_wp2_with fail;refine(HSTA.o w2 _ HV2.o HGV.o HB2.o).mono ?_;rintro e w3 ⟨g,rfl,h3,hg3,t3⟩;obtain⟨t0,HT0⟩:=nm (jz i n (YG i 0):Zl);have HG0:=z0 (HSGD.o _ HGV.o);rw[HT0.o]at h3 HG0;have HTE3:=z0 h3;have HGG:=z0 (Nat.le_trans HB2.o.size hg3);have HB3:=z0 (t3.below HB2.o HBA.o.1 HBA.o.2 HB2.o.size);clear h3 hg3 t3;obtain⟨E1,HE1⟩:=nm (t0.e:Int);rw[HT0.o,HE1.o];go_upto_region 7 with(fail)
 go_wp2_with fail;refine(z3f i 0 w3).mono ?_;rintro e w4 ⟨rfl,hb4⟩;have HTE4:=z0 (HTE3.o.below hb4);have HB4:=z0 (HB3.o.trans (hb4.mono HB3.o.size));obtain⟨C0,HC0⟩:=nm (yK (YG i 0) (.slice none 0 0) (.slice none 0 0) (.slice none 0 0) 0);have HRC:Hd (∀W,vd W C0 (YG i 0)):=z0 (fun W=>⟨_,_,_,_,HC0.o.symm,qW.nil W,qW.nil W,qW.nil W,fun h=>absurd rfl h⟩);rw[HC0.o];clear hb4;have HRS:=z0 (HRST.o w4 _ _ (HRC.o w4) HGV.o HB4.o);rw[HT0.o]at HRS;go_wp2_with fail;refine HRS.o.mono ?_;rintro e w5 ⟨D,C,rfl,hr5,hb5⟩;rw[HE1.o];have HD5:=z0 (And.intro (hr5.size HG0.o.s) hr5.one);have hal:=HLT.o w5;have hst:=zaG w5 HZZ.o.1 HD5.o.1 HD5.o.2;have hb6:Below w4.heap.size w4 (w5.alloc (.cells D 42)):=hb5.alloc hb5.size _;have HB6:=z0 (HB4.o.trans (hb6.mono HB4.o.size));have HTE6:=z0 (HTE4.o.below hb6);have HR6:=z0 (Xh w5 (.cells D 42));have HRC6:=z0 (hr5.below ((Below.refl w5.heap.size w5).alloc (Nat.le_refl _) (.cells D 42)));have HPS:=z0 (show w.heap.size<=w5.heap.size from Nat.le_trans HB4.o.size hb5.size);clear hb5 hb6 hr5 HRS;go_upto_region 8 with(fail)
 clear hal hst;generalize (w5.alloc (.cells D 42))=w6 at *;generalize w5.heap.size=p at *;have f1:(E1 != E1)=false:=by simp
 have HFX:Hd (z19 w b a p):=z0 ⟨HBA.o.1,HBA.o.2,HPS.o⟩
 have HST:Hd (zaH w (w6.alloc (.cells #[] 34)) b c a p (.pointer (some ⟨g,0,none⟩)) (.slice (some ⟨w6.heap.size,0,none⟩) 0 0) 0):=z0 (by
  have hb4:Below w6.heap.size w6 (w6.alloc (.cells #[] 34)):=Ba;have ho:yN ocl 2 34 w6.heap.size (w6.alloc (.cells #[] 34)) (.slice (some ⟨w6.heap.size,0,none⟩) 0 0) []:=World.ownsRow_made w6 #[] 0 (Nat.le_refl _) (Nat.zero_le _) rfl
  exact⟨g,t0,D,C,[],rfl,⟨HTE6.o.below hb4,HG0.o,HG0.o,HGG.o,(hb4.block _ (Lb HR6.o)).trans HR6.o,HD5.o.1,HRC6.o.below hb4,ho.more HB6.o.size,fun o h=>by simp at h,HB6.o.trans (hb4.mono HB6.o.size)⟩,rfl⟩)
 clear HV2 HB2 HB3 HTE3 HB4 HTE4 HRC HB6 HTE6 HR6 HRC6 HG0 HGG HD5;go_upto_region 11 with(fail)
 clear f1;generalize (w6.alloc (.cells #[] 34))=w7 at *;generalize w6.heap.size=p13 at *;go_wp2_with fail;go_loopw [9,13,14] (fun s9 s13 s14 wr=>∃(k:Nat) (A13:Option Addr) (n13 c13:Nat),k<=N/\s14=.int .i64 k/\s13=.slice A13 n13 c13/\Hd (zaH w wr b c a p s9 (.slice A13 n13 c13) k)) (fun _ _ s14 _=>N - (intOf s14).toNat)
 case atStart=>exact⟨0,_,_,_,Nat.zero_le _,rfl,rfl,HST⟩
 case round=>
  obtain⟨k,A13,n13,c13,hk,rfl,rfl,HREL⟩:=hrel;by_cases hlt:k<N
  ·have hlt':(k:Int)<(N:Int):=by omega
   have hkL:k<L.length:=by rw[HN.o];exact hlt
   obtain⟨eb,off,rfl,hrg⟩:=HEL.o k hkL;have HRG:=z0 hrg;have HXO:=z0 (HOK.o k hkL);have HXL:=z0 (HLIT.o.2 k hkL);obtain⟨x,HX⟩:=nm (L[k]:JC);rw[HX.o]at HRG HXO HXL;have HKN:=z0 (And.intro hlt (show N<=30 from by have:=HLIT.o.1;have:=HN.o;omega));have HWI:Hd (wrap64 ((k:Int)+1)=(k:Int)+1):=z0 (by have:=HKN.o;unfold wrap64;omega);obtain⟨g,t,D,C,Ls,rfl,hS,hLs⟩:=HREL.o;obtain⟨od,hod,hl2a⟩:=hS.two;have HOD:=z0 hod;have hl2:z0W (.pointer (some ⟨p,3,none⟩)) wr=.ok (.value (.agg #[.slice od.A0 od.l0.length od.c0,.slice od.A1 od.l1.length od.c1])) wr:=hl2a;have HSA:=z0 (hS.below ((Below.refl wr.heap.size wr).alloc (Nat.le_refl _) (.cells #[.slice od.A0 od.l0.length od.c0,.slice od.A1 od.l1.length od.c1] 34)));have HELA:Hd (jE ocl 2 (wr.alloc (.cells #[.slice od.A0 od.l0.length od.c0,.slice od.A1 od.l1.length od.c1] 34)) (.slice (some ⟨wr.heap.size,0,none⟩) 1 1) [od]):=z0 (Ye wr od #[.slice od.A0 od.l0.length od.c0,.slice od.A1 od.l1.length od.c1] 34 rfl);have HODA:Hd (xE (wr.alloc (.cells #[.slice od.A0 od.l0.length od.c0,.slice od.A1 od.l1.length od.c1] 34)) od):=z0 (HOD.o.away (by simp) (fun k _ hk=>Below.heap_alloc _ _ _ (Lb hk)));have HLN:Hd (Ls.length+1<=1000000):=z0 (by rw[hLs];have:=HKN.o;omega);have HSZ:Hd (w.heap.size<=(wr.alloc (.cells #[.slice od.A0 od.l0.length od.c0,.slice od.A1 od.l1.length od.c1] 34)).heap.size):=z0 HSA.o.bel.size;have HLS:=z0 hLs;clear hS hod hl2a hLs hrg HX hkL HREL hlt hk;go_upto_region 15 with(at_builtin;go_loud (refine zdt.wpList_append (x:=.slice (some ⟨wr.heap.size,0,none⟩) 1 1) (m:=[od]) rfl (.tmp 89) (.tmp 93) rfl rfl rfl (fun _ _=>trivial) HSA.o.ow HELA.o HLN.o HSZ.o ?_;intro v5 w5 ho5 hg5 hv5;have HS5:=z0 (HSA.o.grow hg5 ho5 HODA.o);obtain⟨A5,n5,c5,rfl⟩:∃A n c,v5=.slice A n c:=(by obtain⟨A,c,e⟩:=ho5.shape;exact⟨_,_,_,e⟩);clear ho5 hg5 hv5))
   have HL5:Hd ((Ls ++ [od]).length=k+1):=z0 (by rw[List.length_append,HLS.o];rfl);clear hl2 HSA HELA HODA HSZ HOD HLS HLN;generalize Ls ++ [od]=L5 at *;have lsp:=z6T (HRG.o w5 HS5.o.bel) HXO.o;have HXS:=z0 (And.intro (z12 HXO.o) (zbP x));have HRX:Hd (∀(W:World) (q:Nat),W.heap[q]?=some (.cells (spc x) 64 (0,0))->zd5 W q 0 x):=z0 (fun W q h=>z7r (zda h) HXO.o);obtain⟨X,HXX⟩:=nm (spc x);rw[HXX.o]at lsp HXS HRX;have hal:=HLP.o w5;have hst:=zd9 w5 HZPS.o HXS.o.1 HXS.o.2;have HR6:=z0 (Xh w5 (.cells X 64));have HS6:=z0 (HS5.o.below ((Below.refl w5.heap.size w5).alloc (Nat.le_refl _) (.cells X 64)));go_upto_block 2 with(fail)
   clear lsp hal hst HS5 HXX;generalize (w5.alloc (.cells X 64))=w6 at *;generalize w5.heap.size=px at *;go_cut [9] (fun s9 wy=>∃W,wy=W/\Hd (zaH w W b c a p s9 (.slice A5 n5 c5) (k+1)))
   case first=>
    obtain⟨q0,q1,q2,q3,q4,q5,q6⟩:=HRX.o w6 px HR6.o;simp only[Nat.zero_add]at q1 q2 q3 q4 q5 q6;unfold JC.l at q5;have HKT:Hd (∀W,vQ w W b c a g p t t D D C (.slice A5 n5 c5) L5->∀W2,vw g b a W W2->yB 1 W2):=z0 (fun W h W2 t2=>(HKS.o W2 (t2.below h.bel h.hg HFX.o.b HFX.o.a h.bel.size)).1);obtain⟨ask,HASK⟩:=nm (x.ask);obtain⟨sta,HSTT⟩:=nm (x.start);obtain⟨acu,HACU⟩:=nm (x.acu);obtain⟨AQ,HAQ⟩:∃q:Array Value,Hd (stc x.q=q):=⟨_,z0 rfl⟩
    obtain⟨AV,HAV⟩:=nm (J7 x.v);obtain⟨M,HM⟩:=nm (x.L.length:Nat);obtain⟨vi,HVI⟩:=nm (x.vi);rw[HASK.o]at q0;rw[HAQ.o]at q1;rw[HSTT.o]at q2;rw[HACU.o]at q3;rw[HVI.o]at q4;rw[HM.o]at q5;rw[HAV.o]at q6;cases ask with
    |true=>
     have HTE7:=z0 (zaE HS6.o.te HS6.o.gt x.q (HXO.o.q.below HS6.o.bel) HXL.o.1 (HKT.o w6 HS6.o));have HGA:=z0 (KQ HS6.o.gt HXO.o.q);have HRX2:=z0 (HRX.o);obtain⟨r,HRR⟩:∃q:TaM,Hd (Qe t x.q=q):=⟨_,z0 rfl⟩
     rw[HRR.o]at HTE7 HGA;rw[HAQ.o]at HTE7;have HYO:=z0 (And.intro (zg HGA.o.2) (qD r.a))
     have HNEA:Hd (∀W,z7o (.agg (zy r.a)) (.agg (zy r.a)) W=.ok (.value (.bool false)) W):=z0 (fun W=>by
      have:=zap r.a r.a HGA.o.2 HGA.o.2 W
      rwa[decide_eq_true rfl]at this)
     obtain⟨Y,HY⟩:=nm (zy r.a);obtain⟨E,HE⟩:=nm (r.e);rw[HY.o]at HYO HNEA;go_wp2_with fail;refine HTE7.o.mono ?_;rintro e w7 ⟨rfl,h7,t7⟩;rw[HY.o,HE.o];have hal:=HLA.o w7;have hst:=Qk w7 HZZ.o.2 HYO.o.1 HYO.o.2;have hbx:Below w7.heap.size w7 (w7.alloc (.cells Y 54)):=Ba;have HS8:=z0 ((HS6.o.tur HFX.o t7 h7 HGA.o.1).below hbx);have HR8:=z0 (Xh w7 (.cells Y 54));have hr7:=HS6.o.te.other HR6.o (by decide) (by decide) (by decide) t7;have HX8:=z0 ((hbx.block _ (Lb hr7)).trans hr7);clear h7 t7 hbx hr7 q0 q1 q2 q3 q4 q5 q6;go_upto_region 22 with(fail)
     clear hal hst;generalize (w7.alloc (.cells Y 54))=w8 at *;generalize w7.heap.size=p16 at *;have ld:=HS8.o.ld;obtain⟨_,q1,_,_,_,_,_⟩:=HRX.o w8 px HX8.o;simp only[Nat.zero_add]at q1;rw[HAQ.o]at q1;have HCT:=z0 (z8Z HS8.o.rc HS8.o.gr x.q (HXO.o.q.below HS8.o.bel) HXL.o.1 (HKS.o w8 HS8.o.bel).2);rw[HRR.o,HAQ.o]at HCT;go_wp2_with fail;refine HCT.o.mono ?_;rintro e w9 ⟨D2,C2,rfl,hr9,hb9⟩;rw[HY.o,HE.o];have HD2:=z0 (And.intro (hr9.size HGA.o.1.s) hr9.one);have hal1:=HLT.o w9;have hal2:zt (w9.alloc (.cells ZT 42))=.ok (.value (.pointer (some ⟨w9.heap.size+1,0,none⟩))) ((w9.alloc (.cells ZT 42)).alloc (.cells ZA 54)):=by
      have:=HLA.o (w9.alloc (.cells ZT 42))
      rwa[show(w9.alloc (.cells ZT 42)).heap.size=w9.heap.size+1 from by simp]at this
     have HEV:=z0 (Yz w9 HZZ.o.1 HZZ.o.2 HD2.o.1 HD2.o.2 HYO.o.1 HYO.o.2);have hst:=HEV.o.st;have hsa:=HEV.o.sa;have HRD5:=z0 HEV.o.rd;have HRA6:=z0 HEV.o.ra;have hrt:=HEV.o.rt (qM w9 _ _).1 (qM w9 _ _).2 (hr9.below (Ba.alloc (by simp) _));have hbc:=hb9.trans (HEV.o.bel.mono hb9.size);have HS10:=z0 ((HS8.o.below hbc).told hrt HGA.o.1);have HR10:=z0 ((hbc.block _ (Lb HR8.o)).trans HR8.o);clear hr9 hb9 HEV hrt hbc ld q1;go_upto_region 23 with(fail)
     clear hal1 hal2 hst hsa;generalize (qb (setSe ((w9.alloc (.cells ZT 42)).alloc (.cells ZA 54)) w9.heap.size D2) (w9.heap.size+1) Y)=w10 at *;generalize w9.heap.size=p18 at *;have ld:=qs HRD5.o HD2.o.1;obtain⟨hst,hs11⟩:=HS10.o.store HFX.o;have HS11:=z0 hs11;have HRA11:=z0 ((zl w10 D2 (Vf HRA6.o HS10.o.r0 (by decide))).trans HRA6.o);have HR11:=z0 ((zl w10 D2 (Vf HR10.o HS10.o.r0 (by decide))).trans HR10.o);clear hs11;go_upto_region 24 with(fail)
     clear ld hst;generalize (setSe w10 p D2)=w11 at *;have la:=zZ HR11.o HYO.o.1;have lb:=zZ HRA11.o HYO.o.1;have hne:=HNEA.o;have fe:(E != E)=false:=by simp
     go_wp2;go_meet
     case rel=>exact⟨_,rfl,z0 ⟨g,r.t,D2,C2,L5,rfl,HS11.o,HL5.o⟩⟩
    |false=>
    cases sta with
    |true=>
     obtain⟨V,HVV⟩:=nm (t.V)
     have HVL:Hd (jL w6 b c a V/\V.Good/\vd w6 C V):=z0 (by
      rw[<-HVV.o];obtain⟨_,h⟩:=HS6.o.te
      exact⟨h.v,HS6.o.gt.V,HS6.o.rc.c⟩)
     have HTE7:=z0 (HSTA.o w6 V HVL.o.1 HVL.o.2.1 HS6.o.bel);have HG2:=z0 (HSGD.o V HVL.o.2.1);obtain⟨t2,HT2⟩:=nm (jz i n V);rw[HT2.o]at HTE7 HG2;obtain⟨E,HE⟩:=nm (t2.e:Int);go_upto_region 27 with(fail)
     go_wp2_with fail;refine HTE7.o.mono ?_;rintro e w7 ⟨g2,rfl,h7,hg7,t7⟩;rw[HE.o];have HS7:=z0 (HS6.o.anew HFX.o t7 h7 HG2.o (Nat.le_trans HS6.o.bel.size hg7));have HTRN:=z0 t7;clear h7 hg7 t7 q0 q1 q2 q3 q4 q5 q6;go_upto_region 28 with(fail)
     have lv:=HS7.o.rd.v;have HCT:=z0 (HRST.o w7 V C (by have:=HS7.o.rc.c;rwa[HVV.o]at this) HVL.o.2.1 HS7.o.bel);rw[HT2.o]at HCT;go_wp2_with fail;refine HCT.o.mono ?_;rintro e w8 ⟨D2,C2,rfl,hr8,hb8⟩;rw[HE.o];have HD2:=z0 (And.intro (hr8.size HG2.o.s) hr8.one);have hal:=HLT.o w8;have hst:=zaG w8 HZZ.o.1 HD2.o.1 HD2.o.2;have hbx:Below w7.heap.size w7 (w8.alloc (.cells D2 42)):=hb8.alloc hb8.size _;have HS9:=z0 ((HS7.o.below hbx).told (hr8.below ((Below.refl w8.heap.size w8).alloc (Nat.le_refl _) (.cells D2 42))) HG2.o);have HR9:=z0 (Xh w8 (.cells D2 42));have HNE:=z0 (show w8.heap.size≠p from by have:=Lb HS7.o.r0;have:=hb8.size;omega);clear lv hr8 hb8 hbx;go_upto_region 29 with(fail)
     clear hal hst;generalize (w8.alloc (.cells D2 42))=w9 at *;generalize w8.heap.size=p23 at *;have fe:(E != E)=false:=by simp
     go_upto_region 31 with(fail)
     clear fe;have hbd:Below w9.heap.size w9 w9.drew:=(Below.refl _ _).drew;obtain⟨hst,hs10⟩:=(HS9.o.below hbd).store HFX.o;have HS10:=z0 hs10;have HF:Hd (∀W:World,W.heap[p23]?=w9.heap[p23]?->jp (.pointer (some ⟨p23,0,none⟩)) W=.ok (.value (.agg D2)) W):=z0 (fun W h=>qs (h.trans HR9.o) HD2.o.1);clear hs10;refine Rh (S:=fun W=>jp (.pointer (some ⟨p23,0,none⟩)) W=.ok (.value (.agg D2)) W) (by kernel_rfl) (HF.o _ rfl) (fun hHeld=>?_);refine' z5 0 (h:=?_);refine' tk (i:=1) (v:=_) rfl (fun W hW=>hW) ?_;try simp only[zx]
     refine' z5 2 (h:=?_);refine qc 3 (h:=fun K hK=>?_);go_simp;refine hK.out _ _ (HF.o _ (zl _ _ HNE.o)) (fun hHeld=>?_);clear hK K;try simp only[zx]
     refine wpAnyH_done (by kernel_rfl) ?_ _;clear hHeld hst hbd;go_wp2;go_meet
     case rel=>exact⟨_,rfl,z0 ⟨g2,t2,D2,C2,L5,rfl,HS10.o,HL5.o⟩⟩
    |false=>
    cases acu with
    |true=>
     have HXLL:=z0 (show x.L.length<=1000 from by have:=HXL.o.2.1;omega);have HAC1:=z0 (z91 HS6.o.te HS6.o.gt x.vi x.l x.L (HXO.o.l.below HS6.o.bel) HXO.o.o HXLL.o (HKS.o w6 HS6.o.bel).1);unfold JC.l at HAC1;rw[HVI.o,HM.o]at HAC1;go_upto_region 33 with(fail)
     go_wp2_with fail;refine HAC1.o.mono ?_;rintro e w7 ⟨y,rfl,⟨s1,rfl,ha,hs1⟩,hb7⟩;obtain⟨ac,HA⟩:=nm ((QZ t vi x.L).1:vU);obtain⟨E,HE⟩:=nm ((QZ t vi x.L).2:Int);rw[HA.o]at ha hs1;rw[HA.o,HE.o];have HAO:=z0 ha;have hal:=HLX.o w7;have hst:=Vc w7 HZXS.o (zT s1 ha) (jt hs1);have hbx:Below w6.heap.size w6 (w7.alloc (.cells (ye ac s1) 52)):=hb7.alloc hb7.size _;have HS8:=z0 (HS6.o.below hbx);have HR8:=z0 (Xh w7 (.cells (ye ac s1) 52));have HX8:=z0 ((hbx.block _ (Lb HR6.o)).trans HR6.o);have HV8:Hd (Kh (w7.alloc (.cells (ye ac s1) 52)) (.agg (ye ac s1)) ac):=z0 ⟨s1,rfl,ha,hs1.below ((Below.refl w7.heap.size w7).alloc (Nat.le_refl _) _)⟩;have HC1S:=z0 (zT s1 ha);obtain⟨C1,HC1⟩:=nm (ye ac s1);rw[HC1.o]at hst HS8 HR8 HX8 HV8 HC1S;rw[HC1.o];clear ha hs1 hb7 hbx q0 q1 q2 q3 q4 q5 q6;go_upto_region 34 with(fail)
     clear hal hst;generalize (w7.alloc (.cells C1 52))=w8 at *;generalize w7.heap.size=p25 at *;have ld:=HS8.o.ld;obtain⟨_,_,_,_,q4,q5,_⟩:=HRX.o w8 px HX8.o;simp only[Nat.zero_add]at q4 q5;unfold JC.l at q5;rw[HVI.o]at q4;rw[HM.o]at q5;have HAC2:=z0 (z1y HS8.o.rc HS8.o.gr x.vi x.l x.L (HXO.o.l.below HS8.o.bel) HXO.o.o HXLL.o (HKS.o w8 HS8.o.bel).2);unfold JC.l at HAC2;rw[HVI.o,HM.o]at HAC2;go_wp2_with fail;refine HAC2.o.mono ?_;rintro e w9 ⟨y,rfl,⟨s2,rfl,ha,hs2⟩,hb9⟩;rw[HA.o]at ha hs2;rw[HA.o,HE.o];have hal:=HLX.o w9;have hst:=Vc w9 HZXS.o (zT s2 ha) (jt hs2);have hbx:Below w8.heap.size w8 (w9.alloc (.cells (ye ac s2) 52)):=hb9.alloc hb9.size _;have HS10:=z0 (HS8.o.below hbx);have HR10:=z0 (Xh w9 (.cells (ye ac s2) 52));have HR10a:=z0 ((hbx.block _ (Lb HR8.o)).trans HR8.o);have HV10:Hd (Kh (w9.alloc (.cells (ye ac s2) 52)) (.agg (ye ac s2)) ac):=z0 ⟨s2,rfl,ha,hs2.below ((Below.refl w9.heap.size w9).alloc (Nat.le_refl _) _)⟩;have HV10a:=z0 (HV8.o.below hbx);have HC2S:=z0 (zT s2 ha);obtain⟨C2,HC2⟩:=nm (ye ac s2);rw[HC2.o]at hst HS10 HR10 HR10a HV10 HV10a HC2S;rw[HC2.o];clear ha hs2 hb9 hbx ld q4 q5;go_upto_region 35 with(fail)
     clear hal hst;generalize (w9.alloc (.cells C2 52))=w10 at *;generalize w9.heap.size=p27 at *;have la:=qH HR10a.o HC1S.o;have lb:=qH HR10.o HC2S.o;have fe:(E != E)=false:=by simp
     have HSM:Hd (Calls prog 15 #[.agg C1,.agg C2] w10 fun e w'=>e=.returned (.bool true)/\Below w10.heap.size w10 w'):=z0 (by
      have:=z1r (.agg C1) (.agg C2) ac ac w10 HV10a.o HV10.o
      rwa[decide_eq_true rfl]at this)
     go_wp2_with fail;refine HSM.o.mono ?_;rintro e w11 ⟨rfl,hb11⟩;have HS11:=z0 (HS10.o.below hb11);clear la lb fe hb11;go_wp2;go_meet
     case rel=>exact⟨_,rfl,z0 ⟨g,t,D,C,L5,rfl,HS11.o,HL5.o⟩⟩
    |false=>
     have HDO:=z0 (by
      obtain⟨_,h⟩:=HS6.o.te
      exact zal t.V C x.v _ L5 w6 h.v HS6.o.gt.V HS6.o.rc.c (HXO.o.v.below HS6.o.bel) HXL.o.2.2 (HS6.o.ow.els zdt (fun _ _=>trivial)) HS6.o.ok (fun W' t2=>HKS.o W' (t2.below HS6.o.bel HFX.o.b HFX.o.a HS6.o.bel.size)))
     rw[HAV.o]at HDO;go_upto_region 16 with(fail)
     have lv:=HS6.o.rd.v;go_wp2_with fail;refine HDO.o.mono ?_;rintro e w7 ⟨V7,C7,rfl,h7,g7,hC7,t7⟩;have HC7S:=z0 (And.intro hC7.size hC7.one);have hal:=yo w7;have hst:=Va w7 (Z:=xq) rfl HC7S.o.1 HC7S.o.2;have hbx:Below w7.heap.size w7 (w7.alloc (.cells C7 36)):=Ba;have HS8:=z0 ((HS6.o.turn HFX.o t7 h7 g7).below hbx);have HR8:=z0 (Xh w7 (.cells C7 36));have HC8:=z0 (And.intro (hC7.below hbx) g7);clear lv h7 g7 hC7 t7 hbx q0 q1 q2 q3 q4 q5 q6;go_upto_region 17 with(fail)
     clear hal hst;generalize (w7.alloc (.cells C7 36))=w8 at *;generalize w7.heap.size=p29 at *;have lv:=j3 HR8.o HC7S.o.1;obtain⟨hst,D9,hs9⟩:=HS8.o.storeV HFX.o HC8.o.1 HC8.o.2;have HS9:=z0 hs9;clear hs9;go_upto_region 18 with(fail)
     clear lv hst;generalize (jA w8 p 2 C7)=w9 at *;go_wp2;go_meet
     case rel=>exact⟨_,rfl,z0 ⟨g,⟨t.i,t.n,V7,t.s,t.e⟩,D9,C7,L5,rfl,HS9.o,HL5.o⟩⟩
   case rest=>
    obtain⟨wy,hw,hcu⟩:=hcut;have hw:=hw.symm;subst hw;obtain⟨g,t,D,C,L6,rfl,hS6,hL6⟩:=hcu.o;have HS:=z0 hS6;have HL6:=z0 hL6;clear hS6 hL6 hcu;go_upto_region 37 with(fail)
    have hbd:Below wy.heap.size wy wy.drew:=(Below.refl _ _).drew;obtain⟨S,HSS⟩:=nm (zp t.s);obtain⟨hb,HHB⟩:=nm ((t.e != 0));obtain⟨E,HE⟩:=nm (t.e)
    have HF:Hd (∀W,Below wy.heap.size wy W->xR (.pointer (some ⟨p,2,none⟩)) W=.ok (.value (.agg C)) W/\zW (.pointer (some ⟨p,10,none⟩)) W=.ok (.value (.agg S)) W/\W.cell? ⟨p,45,none⟩=some (.bool hb)/\W.cell? ⟨p,46,none⟩=some (.int .i64 E)):=z0 (fun W h=>by
     have r:=(HS.o.below h).rd;rw[<-HSS.o,<-HHB.o,<-HE.o]
     exact⟨r.v,r.s,r.h,r.e⟩)
    have HLK:Hd (∀W,Below wy.heap.size wy W->Calls prog 17 #[.pointer (some ⟨b,0,none⟩),.agg C] W fun e w'=>e=.returned (.bool true)/\Below W.heap.size W w'):=z0 (fun W h=>by
     have h2:=HS.o.below h;obtain⟨_,h3⟩:=h2.te
     exact z6p t.V C W h3.v h2.gt.V h2.rc.c)
    have HSL:Hd (∀W,Below wy.heap.size wy W->Calls prog 18 #[.pointer (some ⟨g,0,none⟩)] W fun e w'=>e=.returned (.agg S)/\Below W.heap.size W w'):=z0 (fun W h=>by
     have:=z2p (HS.o.below h).te HS.o.gt
     rwa[HSS.o]at this)
    have HHT:Hd (∀W,Below wy.heap.size wy W->Calls prog 19 #[.pointer (some ⟨g,0,none⟩)] W fun e w'=>e=.returned (.bool hb)/\W=w'):=z0 (fun W h=>by
     have:=vP (HS.o.below h).te HS.o.gt
     rwa[HHB.o]at this)
    have HWY:Hd (∀W,Below wy.heap.size wy W->Calls prog 20 #[.pointer (some ⟨g,0,none⟩)] W fun e w'=>e=.returned (.int .i64 E)/\W=w'):=z0 (fun W h=>by
     have:=z0Z (HS.o.below h).te HS.o.gt
     rwa[HE.o]at this)
    have HNE:Hd (∀W,z7p (.agg S) (.agg S) W=.ok (.value (.bool false)) W):=z0 (fun W=>by
     have:=zaq t.s t.s HS.o.gt.s HS.o.gt.s W
     rwa[HSS.o,decide_eq_true rfl]at this)
    have fh:(hb != hb)=false:=by simp
    have fe:(E != E)=false:=by simp
    refine Rh (S:=fun W=>xR (.pointer (some ⟨p,2,none⟩)) W=.ok (.value (.agg C)) W/\zW (.pointer (some ⟨p,10,none⟩)) W=.ok (.value (.agg S)) W/\W.cell? ⟨p,45,none⟩=some (.bool hb)/\W.cell? ⟨p,46,none⟩=some (.int .i64 E)) (by kernel_rfl) (HF.o _ hbd) (fun hHeld=>?_);refine' z5 0 (h:=z5 1 (h:=?_));refine' tk (i:=2) (v:=_) rfl (fun W hW=>hW.1) ?_;try simp only[zx]
    refine qc 3 (h:=fun K hK=>?_);go_simp;refine(HLK.o _ hbd).mono ?_;rintro e x1 ⟨rfl,hx1⟩;have hb1:=hbd.trans (hx1.mono hbd.size);refine hK.out _ _ (HF.o _ hb1) (fun hHeld=>?_);clear hK K;try simp only[zx]
    refine' z5 4 (h:=z5 5 (h:=z5 6 (h:=z5 8 (h:=?_))));refine' tk (i:=9) (v:=_) rfl (fun W hW=>hW.2.1) ?_;try simp only[zx]
    refine qc 7 (h:=fun K hK=>?_);go_simp;refine(HSL.o _ hb1).mono ?_;rintro e x2 ⟨rfl,hx2⟩;have hb2:=hb1.trans (hx2.mono hb1.size);refine hK.out _ _ (HF.o _ hb2) (fun hHeld=>?_);clear hK K;try simp only[zx]
    refine' tk (i:=10) (v:=_) rfl (fun W _=>HNE.o W) ?_;try simp only[zx]
    refine' z5 11 (h:=z5 12 (h:=z5 13 (h:=z5 15 (h:=tq4 16 (h:=?_)))));refine qc 14 (h:=fun K hK=>?_);go_simp;refine(HHT.o _ hb2).mono ?_;rintro e x3 ⟨rfl,rfl⟩;refine hK.out _ _ (HF.o _ hb2) (fun hHeld=>?_);clear hK K;try simp only[zx]
    refine' z5 17 (h:=z5 18 (h:=z5 19 (h:=z5 20 (h:=z5 22 (h:=tq4 23 (h:=?_))))));refine qc 21 (h:=fun K hK=>?_);go_simp;refine(HWY.o _ hb2).mono ?_;rintro e x3 ⟨rfl,rfl⟩;refine hK.out _ _ (HF.o _ hb2) (fun hHeld=>?_);clear hK K;try simp only[zx]
    refine' z5 24 (h:=z5 25 (h:=?_));refine wpAnyH_done (by kernel_rfl) ?_ _;have HSF:=z0 (HS.o.below hb2);clear hHeld hb2 hx2 hb1 hx1 hbd fh fe;go_wp2;go_roundw
    case rel=>exact⟨k+1,_,_,_,HKN.o.1,by rw[HWI.o];rfl,rfl,z0 ⟨g,t,D,C,L6,rfl,HSF.o,HL6.o⟩⟩
    case measure=>exact zc3 HKN.o.1 HWI.o
  ·have hI:¬(k:Int)<(N:Int):=by omega
   have HBL:Hd (Below w.heap.size w wr):=z0 (by
    obtain⟨g,t,D,C,Ls,_,hS,_⟩:=HREL.o
    exact hS.bel)
   clear HREL hlt hk;go_wp2_with fail;refine(HAW.o wr HBL.o).mono ?_;rintro e wa ⟨rfl,hba⟩;go_wp2;go_ret;exact⟨rfl,HBL.o.trans (hba.mono HBL.o.size)⟩
end
theorem z1b (i n:Int) (v:Value) (L:List JC) (w:World) (_:(Lit.int .i64 i).wf=true) (hn:(Lit.int .i64 n).wf=true) (F:jE spl 253 w v L) (ho:∀x∈L,YI w x) (G:yB 1 w) (I:yB 0 w):
  Calls prog 3 #[.int .i64 i,.int .i64 n,v] w fun e w'=>e=.returned (.bool true)/\Below w.heap.size w w':=z1a i n v L w hn F ho G I
section
open Go.ChangeShapes Go.WideShapes Go.ChangeAt Go.RowKit
set_option maxRecDepth 100000 in
theorem z1c (os:Os) (ag:os.Started) (H:Type) (enc:TypeId×Value->H):
  ReturnsInHanded {} checked os 3 .any (fun w args => (Rows.teeDoesSpec.pre enc prog Tryz.f3 [] false w args ∧ laidMetH prog [("tithing/sha.constants", Rows.laid_tithing_sha_constants), ("tithing/tithingref02.constants", Rows.laid_tithing_tithingref02_constants)] w) ∧ sizedMet enc prog Tryz.f3 (OpenSpec.ofChange Rows.teeDoesSpec) false w args)
   (Rows.teeDoesSpec.post enc prog Tryz.f3 false true false false):=by
 refine returnsInHanded_of_change_and (C := checked) (X := fun w _ => laidMetH prog [("tithing/sha.constants", Rows.laid_tithing_sha_constants), ("tithing/tithingref02.constants", Rows.laid_tithing_tithingref02_constants)] w) (fun _ _ _ aa h => h.of_heap aa) z2y ag (by kernel_rfl) func3
  (ChangeSpec.witness_shaped (enc := enc) (C := checked) (os := os) (X := fun w _ => laidMetH prog [("tithing/sha.constants", Rows.laid_tithing_sha_constants), ("tithing/tithingref02.constants", Rows.laid_tithing_tithingref02_constants)] w) false (World.doorLaid prog 400 os) #[.int .i64 0, .int .i64 0, .slice none 0 0] 8 rfl (World.shaped_of_RefB (by kernel_rfl) (by kernel_rfl)) (by kernel_rfl) (by kernel_rfl) (by kernel_rfl) (z9r os _)) ?_
 intro W base args ds am av K J _ _ G _;have I:∀(j:Nat) t v,Tryz.f3.params[j]?=some t->args[j]?=some v->Value.okWide prog W .any base t v:=K;have a8:=J;obtain⟨p,q,a1,ah,rfl,an,au⟩:=J;have O:DataW.TrodAll enc prog W 0 (fun _=>true) true Tryz.f3.params.toList args.toList ds p:=a1;rw[params3]at O I;obtain⟨v0,ax,aC,ar,a3,aE,ay,rfl,rfl,h0,r0⟩:=trodAll_cons O;obtain⟨v1,aD,aB,ao,p1,ap,rfl,rfl,rfl,h1,r1⟩:=trodAll_cons r0;obtain⟨a2,aq,az,aw,p2,aA,rfl,rfl,rfl,h2,r2⟩:=trodAll_cons r1;obtain⟨rfl,rfl,rfl⟩:=trodAll_nil r2;obtain rfl:args=#[v0,v1,a2]:=by cases args;simp_all
 obtain⟨rfl,rfl⟩:=trodVars_none ah;have N:=h0;have a6:∀x∈a3,x.block<W.heap.size:=by obtain⟨m,F⟩:=N;exact DataW.trod_lt m _ _ _ F
 obtain⟨n0,rfl,rfl,rfl,a5⟩:=open_int underlying3 (I 0 3 v0 rfl rfl) h0;have a0:=h1;have ae:∀x∈p1,x.block<W.heap.size:=by obtain⟨m,F⟩:=a0;exact DataW.trod_lt m _ _ _ F
 obtain⟨n1,rfl,rfl,rfl,af⟩:=open_int underlying3 (I 1 3 v1 rfl rfl) h1;obtain⟨ab,ad,a7,rfl⟩:=okWide_slice underlying22 (I 2 22 a2 rfl rfl);have M:=h2;have a4:∀x∈p2,x.block<W.heap.size:=by obtain⟨m,F⟩:=M;exact DataW.trod_lt m _ _ _ F
 obtain⟨ak,al,aj⟩:∃l:List JC,jE spl 253 W (.slice ab ad a7) l/\∀x∈l,YI W x:=by
  obtain⟨fuel,a9⟩:=h2;obtain⟨v,L,e,ai,G⟩:=zav a9;simp[Value.cells]at e;subst e;exact⟨L,ai,G⟩
 clear a1 K;refine(z1b n0 n1 _ ak W a5 af al aj (z6Z G).1 (z6Z G).2).mono fun e W' ⟨he,bel⟩=>?_;subst he;exact⟨_,rfl,_,_,_,[],_,[],a8,trodAll_mk1 (shut_bool underlying4 _),(trodAll_cons_mk (Below.trod z2z (by kernel_rfl) (of_decide_eq_true (by kernel_rfl)) N bel a6) (trodAll_cons_mk (Below.trod z2z (by kernel_rfl) (of_decide_eq_true (by kernel_rfl)) a0 bel ae) (trodAll_cons_mk (Below.trod z2z (by kernel_rfl) (of_decide_eq_true (by kernel_rfl)) M bel a4) trodAll_mk0))),rfl,bel.frame _,fun h=>by cases h⟩
theorem z3F:Rows.TeeDoesSaid:=
 OpenClaim.holds_of_wide 3 Tryz.f3 rfl rfl rfl rfl rfl rfl rfl ⟨rfl,rfl,rfl,rfl,rfl⟩ rfl rfl rfl rfl rfl (by kernel_rfl) func3 (by kernel_rfl)
  (of_decide_eq_true (by kernel_rfl)) (by unfold Func.isWrapper;first|(rw[if_pos (by decide +kernel)];kernel_rfl)|(rw[if_neg (by decide +kernel)];exact⟨rfl,rfl⟩))
  (fun os F H enc _=>z1c os F H enc)
theorem teeDoes_holds:Rows.TeeDoesCardSaid:=
 Claim7.holds_tied_plain_at .later [] [.data,.data] true Rows.teeDoesCard.stood.harness false
  z3F (fun _ h=>by cases h) (by kernel_rfl) (fun _ h=>by cases h) teeDoes_row_tie rfl ⟨rfl,rfl⟩ (by kernel_rfl) rfl
  (fun f G M K=>by
   obtain rfl : f = 3 := Option.some.inj ((show prog.funcNamed "tithing/tithinglaw17.TeeDoes" = some 3 by kernel_rfl).symm.trans M) |>.symm
   obtain rfl:G=Tryz.f3:=(Option.some.inj (func3.symm.trans K)).symm
   exact⟨by kernel_rfl,fun j t F=>by
    rw[params3]at F;have J:t ∈ [3,3,22]:=by simpa using Array.mem_of_getElem? F
    have I:([3,3,22].all fun u=>!prog.wantsStandIn u)=true:=by kernel_rfl
    exact(show prog.wantsStandIn t=false by simpa using List.all_eq_true.1 I t J)⟩)
  (by kernel_rfl)
#print axioms teeDoes_holds
end
end Go.Proofs.YtjlinimnnbfmaaaGreatDoor
