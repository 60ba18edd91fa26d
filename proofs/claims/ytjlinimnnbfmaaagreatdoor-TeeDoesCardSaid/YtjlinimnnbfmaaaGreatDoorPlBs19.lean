/-
  AcMake: what each of them says stands at its head.
-/
import Derived.Test.YtjlinimnnbfmaaaGreatDoorPlBs15
import Derived.Test.YtjlinimnnbfmaaaGreatDoorPlBs16
import Derived.Test.YtjlinimnnbfmaaaGreatDoorPlBs13
set_option maxRecDepth 20000
set_option maxHeartbeats 12800000
namespace Go.Proofs.YtjlinimnnbfmaaaGreatDoor
open Go.RowKit Go.Proofs.Tryz
section
noncomputable def Jf (u v x h s:Value) (w:World):Result Next:=Sem.run prog (execOp (fun y=>match y with
 | .tmp 0=>u
 | .tmp 1=>v
 | .tmp 2=>x
 | .tmp 3=>h
 | _ => s) { dst := none, op := .build 52 #[(0, .tmp 0), (1, .tmp 1), (2, .tmp 2), (3, .tmp 3), (4, .tmp 4)], type := 0, pos := "", after := #[], guard := none }) w
theorem z0R (r:Operand->Value) (x0 x1 x2 G F:Operand) (dst:Option Tmp) (ty:TypeId) (pos:String) (after:Array Edge) (guard:Option (Nat×Bool)) (w:World):
  Sem.run prog (execOp r { dst:=dst,op:=.build 52 #[(0,x0),(1,x1),(2,x2),(3,G),(4,F)],type:=ty,pos:=pos,after:=after,guard:=guard }) w=Jf (r x0) (r x1) (r x2) (r G) (r F) w:=by
 unfold Jf execOp;simp
theorem z50 (b vi pv:Int) (t:List UInt8) (F:t.length=32) (A:Option Addr) (n c:Nat) (w:World):Jf (.int .i64 b) (.int .i64 vi) (.int .i64 pv) (.agg (z2 t)) (.slice A n c) w=.ok (.value (.agg (ye ⟨b,vi,pv,t,[],qx⟩ (.slice A n c)))) w:=by
 have I:(z2 t).size=32:=by rw[zH,F]
 have J:(z2 t).zipIdx=((z4 t).zipIdx).toArray:=by simp[z2]
 unfold Jf;go_simp;have e:=yI (z4 t) [.int .i64 b,.int .i64 vi,.int .i64 pv] (z4 qx) (.slice none 0 0 :: z4 qx) (by rw[z6,z6,F];rfl);have G:List.foldl (fun (cs:Array Value) (x:Value×Nat)=>cs.setIfInBounds (3+x.2) x.1) (((Tryz.zeroCells52.setIfInBounds 0 (Value.int .i64 b)).setIfInBounds 1 (Value.int .i64 vi)).setIfInBounds 2 (Value.int .i64 pv)) (z4 t).zipIdx=([Value.int .i64 b,.int .i64 vi,.int .i64 pv] ++ (z4 t ++ (Value.slice none 0 0 :: z4 qx))).toArray:=(yp (z4 t) 0 3 _).trans e;rw[G,if_neg (by simp[z6,F,show qx.length=32 from rfl])];simp only[Sem.run_pure,Result.andThen_ok];unfold ye;rw[List.setIfInBounds_toArray,List.set_append_right _ _ (by simp),List.set_append_right _ _ (by simp[z6,F]),z6,F];rfl
theorem zbG {l:List y8}{q N:Nat} (h:∀a∈l,a.bo<=(N:Int)):∀m,N<=m->j8 l q m=j8 l q N:=by
 intro m G
 induction m with
 |zero=>rw[show N=0 from by omega]
 |succ m ih=>
  by_cases e:N=m+1
  ·rw[e]
  ·rw[z4t (fun j F=>by have:=h _ (List.getElem_mem F);omega)];exact ih (by omega)
theorem z51 (i:Int) (d:UInt8) (v0:Value) (l0:List UInt8) (F c:Nat) (w:World) (hg:F<w.heap.size) (h0:w.cell? ⟨F,0,none⟩=some v0) (b0:zP w v0 l0) (J:l0.length<=1000000) (I:yB 1 w):
  Calls prog 77 #[.int .i64 i,.int .u8 (d.toNat:Int),.slice (some ⟨F,0,none⟩) 1 c] w fun e w'=>e=.returned (.agg (z2 (hl 32 (Qd i d l0))))/\Below w.heap.size w w':=by
 have e:([l0]:List (List UInt8)).flatten=l0:=by simp
 have h:=z2X i d [l0] (fun _=>v0) F 1 c w rfl hg (fun j G=>by
  obtain rfl:j=0:=by omega
  exact h0) (fun j G=>by
  have K:j<1:=G;obtain rfl:j=0:=by omega
  exact b0) (by rw[e];omega) (by omega) I
 rw[e,kJ]at h;exact h
attribute [local go_sem ↓] ze zn zo zO vl vm Z4 z0R zf
theorem Vi (b n vi:Int) (v:Value) (l:List y8) (w:World) (hwn:(Lit.int .i64 n).wf=true) (hv:jE xZ 101 w v l) (hok:∀a∈l,a.Ok) (hlen:l.length<=1000) (hK:yB 1 w):
  Calls prog 38 #[.int .i64 b,.int .i64 n,.int .i64 vi,v] w (KJ b n vi l w):=by
 have HFS:=z0 (fun q W (h:Below w.heap.size w W) hq=>z4V v l q W (hv.below h) hok hlen hq);obtain⟨A,kk,rfl⟩:=hv.shape;obtain⟨L,HL⟩:=nm (l.length:Nat);obtain⟨q,HQ⟩:=nm (qC n);rw[HL.o]at hv hlen HFS⊢;have HV:=z0 hv;have HOK:=z0 hok;have HLEN:=z0 hlen;have HKB:=z0 (fun W (h:Below w.heap.size w W)=>(show yB 1 W from hK.below h))
 have HQU:Hd (∀W,Calls prog 71 #[.int .i64 n] W fun e w'=>e=.returned (.int .i64 (q:Int))/\W=w'):=z0 (fun W=>by
  have:=JV n W hwn;rw[HQ.o]at this
  exact this)
 obtain⟨vb,HVB⟩:=nm (Xf vi);have HCV:Hd (∀W,Calls prog 72 #[.int .i64 vi] W fun e w'=>e=.returned (.bool vb)/\W=w'):=z0 (fun W=>by have:=K2 vi W;rw[HVB.o]at this;exact this);have HRT:Hd (∀a∈l,∀W,Below w.heap.size w W->Calls prog 73 #[.int .i64 n,.int .i64 vi,.agg (zy a)] W fun e w'=>e=.returned (.bool (kM n vi a))/\Below W.heap.size W w'):=z0 (fun a ha W h=>z3p n vi a W (HOK.o a ha) (HKB.o W h));obtain⟨Z,HZ⟩:=nm (ye Zy (.slice none 0 0));obtain⟨ZA,HZA⟩:=nm (zy ju);have hbz:∀W,Yn W=.ok (.value (.agg Z)) W:=fun W=>by rw[<-HZ.o];exact Yo W
 have hal:∀W,Qn W=.ok (.value (.pointer (some ⟨W.heap.size,0,none⟩))) (W.alloc (.cells Z 52)):=fun W=>by rw[<-HZ.o];exact jT W
 have HALX:=z0 hal;have HALA:Hd (∀W,zt W=.ok (.value (.pointer (some ⟨W.heap.size,0,none⟩))) (W.alloc (.cells ZA 54))):=z0 (fun W=>by rw[<-HZA.o];exact zC W);have HSZA:Hd (ZA.size=101):=z0 (by rw[<-HZA.o];exact zg qf);have HSZ:Hd (Z.size=68):=z0 (by rw[<-HZ.o];exact zT _ Zh);have HZ1:Hd (Z.all (·.oneCell')=true):=z0 (by rw[<-HZ.o];exact jt (w:=w) (a:=Zy) (jE.nil w));have hb0:Below w.heap.size w (w.alloc (.cells Z 52)):=Ba;have hr0:(w.alloc (.cells Z 52)).heap[w.heap.size]?=some (.cells Z 52 (0,0)):=Xh w _;have HZF:Hd (∀W:World,W.heap[w.heap.size]?=some (.cells Z 52 (0,0))->Qo (.pointer (some ⟨w.heap.size,0,none⟩)) (.agg Z) W=.ok .skip W):=z0 (fun W h=>by rw[jk h HSZ.o HSZ.o HZ1.o,z0u h]);clear hv hok hK hwn;go_enter func38,ntmps38;go_upto_region 1 with(fail)
 generalize (w.alloc (.cells Z 52))=w0 at *;have HR0:=z0 hr0;have HB0:=z0 hb0;have hz0:=HZF.o w0 hr0;clear hr0 hb0 hal;go_wp2_with fail;refine(HQU.o w0).mono ?_;rintro e w1 ⟨rfl,rfl⟩;by_cases hq:q=0
 case pos=>
  subst hq;have HM:=z0 (vk (l:=l) (b:=b) (n:=n) (vi:=vi) (.inl HQ.o));go_wp2_with fail;refine Bp (zY rfl _ _ _ _ _ _ rfl rfl HR0.o HSZ.o) rfl ?_;rw[<-HZ.o];exact yC HM.o HB0.o
 have hq1:((q:Int) == 0)=false:=by simpa using hq
 by_cases h0:b<1
 case pos=>
  have HM:=z0 (vk (l:=l) (b:=b) (n:=n) (vi:=vi) (.inr (.inl h0)));go_wp2_with fail;refine Bp (zY rfl _ _ _ _ _ _ rfl rfl HR0.o HSZ.o) rfl ?_;rw[<-HZ.o];exact yC HM.o HB0.o
 by_cases h1:n<b
 case pos=>
  have h1':b > n:=h1;have HM:=z0 (vk (l:=l) (b:=b) (n:=n) (vi:=vi) (.inr (.inr (.inl h1))));go_wp2_with fail;refine Bp (zY rfl _ _ _ _ _ _ rfl rfl HR0.o HSZ.o) rfl ?_;rw[<-HZ.o];exact yC HM.o HB0.o
 have h1':¬b > n:=by omega
 go_wp2_with fail;refine(HCV.o w0).mono ?_;rintro e w1 ⟨rfl,rfl⟩;cases vb with
 |false=>
  have HM:=z0 (vk (l:=l) (b:=b) (n:=n) (vi:=vi) (by
   have h:=HVB.o;unfold Xf at h;rw[decide_eq_false_iff_not]at h
   omega))
  go_wp2_with fail;refine Bp (zY rfl _ _ _ _ _ _ rfl rfl HR0.o HSZ.o) rfl ?_;rw[<-HZ.o];exact yC HM.o HB0.o
 |true=>
  have HVI:Hd (1<=vi/\vi<=1099511627776):=z0 (by
   have h:=HVB.o;unfold Xf at h
   exact of_decide_eq_true h)
  have HNA:Hd (¬(qC n=0\/b<1\/n<b\/vi<1\/1099511627776<vi)):=z0 (by have:=HVI.o;rw[HQ.o];omega);clear hz0
  have HE:Hd (∀j (h:j<l.length) W,Below w.heap.size w W->∃g og,A=some ⟨g,og,none⟩/\zI (.pointer (some ⟨g,og+j*101,none⟩)) W=.ok (.value (.agg (zy l[j]))) W):=z0 (fun j h W hb=>by
   obtain⟨g,og,e,hg,hcl⟩:=HV.o.at_.2.2.2 (by omega)
   exact⟨g,og,e,jQ (vC (hcl j h) (hb.block g hg)) (HOK.o _ (List.getElem_mem h))⟩)
  go_wp2_with fail;clear hq1 h0 h1 h1';go_loopw [37] (fun si wr=>∃i:Nat,i<=L/\si=.int .i64 i/\Hd (∀j (h:j<l.length),j<i->kM n vi l[j]=true)/\Below w0.heap.size w0 wr) (fun si _=>L - (intOf si).toNat)
  case atStart=>exact⟨0,Nat.zero_le _,rfl,z0 (fun j _ h=>absurd h (by omega)),Below.refl _ _⟩
  case round=>
   obtain⟨i,hi,rfl,HD,hbr⟩:=hrel;have HBR:=z0 (HB0.o.trans (hbr.mono HB0.o.size));have HRR:=z0 ((hbr.block _ (Lb HR0.o)).trans HR0.o);by_cases hlt:i<L
   ·have hil:i<l.length:=by rw[HL.o];exact hlt
    have hI:(i:Int)<(L:Int):=by omega
    have hM:=List.getElem_mem hil;obtain⟨g,og,rfl,l1⟩:=HE.o i hil wr HBR.o;obtain⟨X,HX⟩:=nm (zy l[i]);obtain⟨m,HMM⟩:=nm (kM n vi l[i])
    have HR2:Hd (∀W,Below w.heap.size w W->Calls prog 73 #[.int .i64 n,.int .i64 vi,.agg X] W fun e w'=>e=.returned (.bool m)/\Below W.heap.size W w'):=z0 (fun W h=>by
     have:=HRT.o _ hM W h;rw[HX.o,HMM.o]at this
     exact this)
    have HXS:Hd (X.size=101/\X.all (·.oneCell')=true):=z0 (by rw[<-HX.o];exact⟨zg (HOK.o _ hM),qD _⟩)
    have HYES:Hd (m=true->∀j (h:j<l.length),j<i+1->kM n vi l[j]=true):=z0 (fun h2 j h hj=>by
     by_cases hji:j<i
     ·exact HD.o j h hji
     ·obtain rfl:j=i:=by omega
      rw[HMM.o,h2])
    have HNO:Hd (m=false->vu b n vi l=(Zy,7)):=z0 (fun h=>QQ HNA.o (by
     rw[List.all_eq_false]
     exact⟨_,hM,by rw[HMM.o,h];decide⟩))
    rw[HX.o]at l1;have hst:=Qk wr HSZA.o HXS.o.1 HXS.o.2;have hal1:=HALA.o wr;have HLT:=z0 hlt;clear hM;go_upto_region 7 with(fail)
    have hr1:=Xh wr (.cells X 54);have hba:Below wr.heap.size wr (wr.alloc (.cells X 54)):=Ba;have hb1:=hbr.trans (hba.mono hbr.size);have l2:=zZ hr1 HXS.o.1;have HR1:=z0 ((hba.block _ (Lb HRR.o)).trans HRR.o);clear l1 hst hr1 hal1 hba;generalize (wr.alloc (.cells X 54))=w1 at *;have HB1:=z0 (HB0.o.trans (hb1.mono HB0.o.size));go_wp2_with fail;refine(HR2.o w1 HB1.o).mono ?_;rintro e w2 ⟨rfl,hb2⟩;have HB2:=z0 (HB1.o.trans (hb2.mono HB1.o.size));have HB20:=z0 (hb1.trans (hb2.mono hb1.size));have HR22:=z0 ((hb2.block _ (Lb HR1.o)).trans HR1.o);clear l2 hb2 hb1;cases m with
    |false=>
     have HM:=z0 (HNO.o rfl);have hz2:=HZF.o w2 HR22.o;go_wp2_with fail;refine Bp (zY rfl _ _ _ _ _ _ rfl rfl HR22.o HSZ.o) rfl ?_;rw[<-HZ.o];exact yC HM.o HB2.o
    |true=>
     have HM2:=z0 (HYES.o rfl);have HWI:Hd (wrap64 ((i:Int)+1)=((i+1:Nat):Int)):=z0 (by have h1:=HLT.o;have h2:=HLEN.o;unfold wrap64;omega);clear HYES HNO;go_wp2;go_roundw
     case rel=>exact⟨i+1,by have:=HLT.o;omega,by first|go_num|rw[HWI.o],z0 HM2.o,HB20.o⟩
     case measure=>
      have h1:=HLT.o;have hw:=HWI.o
      (try simp only[hw]);simp[intOf];omega
   ·have HIL:=z0 (show i=L by omega);have hI:¬(i:Int)<(L:Int):=by omega
    have HALL:Hd ((l.all (kM n vi))=true):=z0 (by
     rw[List.all_eq_true];intro a ha;obtain⟨j,hj,rfl⟩:=List.getElem_of_mem ha
     exact HD.o j hj (by have:=HL.o;have:=HIL.o;omega))
    have HQN:Hd (qC n≠0):=z0 (fun e=>HNA.o (.inl e))
    have HQ21:Hd (q<=21):=z0 (by
     have h:=ZU HQN.o;rw[<-HQ.o];unfold qC
     split <;> omega)
    have HBN:Hd (∀a∈l,a.bo<=((n.toNat:Nat):Int)):=z0 (fun a ha=>by
     have h:=ZU HQN.o;have:=(z25.1 (List.all_eq_true.1 HALL.o a ha)).2.2.2
     omega)
    have HNT:Hd (n.toNat<=21):=z0 (by
     have h:=ZU HQN.o
     omega)
    have HCAP:Hd (j8 l (qC n) n.toNat=j8 l q 21):=z0 (by rw[HQ.o];exact(zbG HBN.o 21 HNT.o).symm);clear HD hlt;go_wp2_with fail;refine(HFS.o q wr HBR.o HQ21.o).mono ?_;rintro e w7 ⟨x7,rfl,how,hb7⟩;clear hI;have HB7:=z0 (HBR.o.trans (hb7.mono HBR.o.size));have HR7:=z0 ((hb7.block _ (Lb HRR.o)).trans HRR.o);have HLT:=z0 (Lb HRR.o);have HFX:=z0 (Yv l q 21);obtain⟨F,HF⟩:∃x,Hd (j8 l q 21=x):=⟨_,z0 rfl⟩
    rw[HF.o]at HFX HCAP;obtain⟨SL,HSL⟩:=nm (qJ l q 21:List y8);rw[HSL.o]at how HFX;have HSO:Hd (∀a∈SL,a.Ok):=z0 (fun a ha=>HOK.o a (HFX.o.2.2 a ha));have HSL21:Hd (SL.length<=21):=z0 (by have:=z0M l q 21;rw[HSL.o]at this;have:=HQ21.o;omega);have HFL:Hd (F.1.length=SL.length):=z0 (by rw[HFX.o.1,List.length_map]);have HEL7:=z0 (how.els z9F HSO.o);obtain⟨SA,SC,rfl⟩:=how.shape;obtain⟨sn,HSN⟩:=nm (SL.length:Nat);rw[HSN.o]at HEL7 HFL HSL21⊢;clear how hb7;by_cases hfew:sn<q
    ·have HM:=z0 (KB HNA.o HALL.o (by rw[HCAP.o,HQ.o,HFL.o];exact hfew));have hz7:=HZF.o w7 HR7.o;have hf2:(sn:Int)<(q:Int):=by omega
     clear hfew;go_wp2_with fail;refine Bp (zY rfl _ _ _ _ _ _ rfl rfl HR7.o HSZ.o) rfl ?_;rw[<-HZ.o];exact yC HM.o HB7.o
    ·have HM:=z0 (V5 HNA.o HALL.o (by rw[HCAP.o,HQ.o,HFL.o];exact hfew));have HMAY:=z0 (z39 HNA.o HALL.o (by rw[HCAP.o,HQ.o,HFL.o];exact hfew));rw[HCAP.o]at HM HMAY;have hf2:¬(sn:Int)<(q:Int):=by omega
     have HSP:Hd (0<SL.length):=z0 (by have:=HQN.o;have:=HQ.o;have:=HSN.o;omega);have HNE:Hd (SL≠[]):=z0 (fun e=>by have:=HSP.o;rw[e]at this;simp at this);clear hfew;obtain⟨t,HTT⟩:=nm (z0L SL);have HTO:Hd t.Ok:=z0 (by rw[<-HTT.o];exact HSO.o _ (zae HNE.o))
     have HHI:Hd (∀W,Below w7.heap.size w7 W->Calls prog 75 #[.slice SA sn SC] W fun e w'=>e=.returned (.agg (zy t))/\Below W.heap.size W w'):=z0 (fun W h=>by
      have:=z1t (.slice SA sn SC) SL W (HEL7.o.below h) HSO.o HSP.o (by have:=HSL21.o;have:=HSN.o;omega);rw[HTT.o]at this
      exact this)
     have HFM:Hd (∀W,Below w7.heap.size w7 W->Calls prog 76 #[.slice SA sn SC] W fun e w'=>∃x,e=.returned x/\yN VB 1 3 W.heap.size w' x F.1/\Below W.heap.size W w'):=z0 (fun W h=>by
      have:=z4R (.slice SA sn SC) SL W (HEL7.o.below h) HSO.o (by have:=HSL21.o;have:=HSN.o;omega);rw[<-HFX.o.1]at this
      exact this)
     obtain⟨y,HY⟩:=nm (jI b vi F);rw[HY.o]at HM HMAY;have HF2:Hd (F.2=(t.pv,t.pa)):=z0 (by rw[<-HTT.o];exact HFX.o.2.1 HNE.o);have HYE:Hd (y=⟨b,vi,t.pv,t.pa,F.1,qx⟩):=z0 (by rw[<-HY.o];unfold jI;rw[HF2.o]);have HYO:Hd y.Ok:=z0 (by rw[HYE.o];exact⟨HTO.o.pa,rfl⟩);obtain⟨X,HX⟩:=nm (zy t);have HXS:Hd (X.size=101/\X.all (·.oneCell')=true):=z0 (by rw[<-HX.o];exact⟨zg HTO.o,qD _⟩);rw[HX.o]at HHI;obtain⟨tp,HTP⟩:=nm (t.pv);obtain⟨PC,HPC⟩:=nm (z2 t.pa)
     have HXC:Hd (∀(W:World) (k:Nat),W.heap[k]?=some (.cells X 54 (0,0))->W.cell? ⟨k,36,none⟩=some (.int .i64 tp)/\qE (.pointer (some ⟨k,37,none⟩)) W=.ok (.value (.agg PC)) W):=z0 (fun W k h=>by
      rw[<-HX.o]at h;have hBA:qz W k t:=h;rw[<-HTP.o,<-HPC.o];refine⟨hBA.pv HTO.o,zD (fun i u hu=>?_) HTO.o.pa⟩;rw[hBA.cell,z35,List.getElem?_append_right (by simp only[List.length_append,z6,HTO.o.ha,List.length_cons,List.length_nil];omega)];simp only[List.length_append,z6,HTO.o.ha,List.length_cons,List.length_nil];rw[show 37+i - (0+1+1+1+1+(32+(0+1)))=i from by omega,List.getElem?_append_left (List.getElem?_eq_some_iff.1 hu).1]
      exact hu)
     have hb5:∀s' n' c' W,Jf (.int .i64 b) (.int .i64 vi) (.int .i64 tp) (.agg PC) (.slice s' n' c') W=.ok (.value (.agg (ye y (.slice s' n' c')))) W:=fun s' n' c' W=>by
      rw[<-HTP.o,<-HPC.o,z50 b vi t.pv t.pa HTO.o.pa s' n' c' W,HYE.o];rfl
     have HFR:Hd (y.fr=F.1):=z0 (by rw[HYE.o]);have HAXS:Hd (∀s,(ye y s).size=68):=z0 (fun s=>zT s HYO.o);go_upto_region 13 with(fail)
     go_wp2_with fail;refine(HHI.o w7 (Below.refl _ _)).mono ?_;rintro e w8 ⟨rfl,hb8⟩;have hst:=Qk w8 HSZA.o HXS.o.1 HXS.o.2;have hal1:=HALA.o w8;have HR8:=z0 ((hb8.block _ (Lb HR7.o)).trans HR7.o);have HB8:=z0 (HB7.o.trans (hb8.mono HB7.o.size));have HB80:=z0 hb8;clear hf2 hb8;go_upto_region 14 with(fail)
     have hr9:(w8.alloc (.cells X 54)).heap[w8.heap.size]?=some (.cells X 54 (0,0)):=Xh w8 _;have hb9a:Below w8.heap.size w8 (w8.alloc (.cells X 54)):=Ba;have HB9:=z0 (HB8.o.trans (hb9a.mono HB8.o.size));have HB90:=z0 (HB80.o.trans (hb9a.mono HB80.o.size));have HR9:=z0 ((hb9a.block _ (Lb HR8.o)).trans HR8.o);obtain⟨tb,HTB⟩:=nm (w8.heap.size:Nat);rw[HTB.o]at hr9⊢;clear hst hal1 hb9a;generalize (w8.alloc (.cells X 54))=w9 at *;have hlt9:=Lb hr9;have HXW:Hd (∀W,Below w9.heap.size w9 W->W.cell? ⟨tb,36,none⟩=some (.int .i64 tp)/\qE (.pointer (some ⟨tb,37,none⟩)) W=.ok (.value (.agg PC)) W):=z0 (fun W h=>HXC.o W tb ((h.block _ hlt9).trans hr9));have hbd:Below w9.heap.size w9 w9.drew:=(Below.refl _ _).drew;clear hr9 hlt9;refine Rh (S:=fun W=>W.cell? ⟨tb,36,none⟩=some (.int .i64 tp)/\qE (.pointer (some ⟨tb,37,none⟩)) W=.ok (.value (.agg PC)) W) (by kernel_rfl) (HXW.o _ hbd) (fun hHeld=>?_);refine' z5 0 (h:=z5 1 (h:=z5 2 (h:=vX 3 (h:=z5 4 (h:=?_)))));refine' tk (i:=5) (v:=_) rfl (fun W hW=>hW.2) ?_;try simp only[zx]
     refine' z5 6 (h:=?_);refine Jk (i:=7) (j:=9) rfl rfl (by kernel_rfl) (by rfl) (by rfl) (fun K hK=>?_) (fun K hK=>?_)
     ·go_simp;refine(HFM.o w9.drew (HB90.o.trans (hbd.mono HB90.o.size))).mono ?_;rintro e wF ⟨xF,rfl,howF,hbF'⟩;have hbF:=hbd.trans hbF';obtain⟨FA,FC,rfl⟩:=howF.shape;obtain⟨fn,HFN⟩:=nm (F.1.length:Nat);rw[HFN.o];refine hK.out _ _ (HXW.o _ hbF) (fun hHeld=>?_);clear hK K;try simp only[zx]
      rw[HFN.o]at howF;refine' z5 8 (h:=?_);have hxF:Below w9.heap.size w9 (wF.alloc (.cells Z 52)):=hbF.alloc hbF.size _;have hxG:Below w9.heap.size w9 (wF.alloc (.cells (ye y (.slice FA fn FC)) 52)):=hbF.alloc hbF.size _;have halF:=HALX.o wF;have hstF:=Vc wF HSZ.o (HAXS.o (.slice FA fn FC)) (jt (w:=wF) (a:=y) (by rw[HFR.o];exact howF.els Zk (fun _ _=>trivial)));refine qc 9 (h:=fun K hK=>?_);go_simp;refine hK.out _ _ (HXW.o _ hxF) (fun hHeld=>?_);clear hK K;try simp only[zx]
      refine qc 10 (h:=fun K hK=>?_);go_simp;refine hK.out _ _ (HXW.o _ hxG) (fun hHeld=>?_);clear hK K;try simp only[zx]
      refine wpAnyH_done (by kernel_rfl) ?_ _;have HELF:Hd (jE VB 1 wF (.slice FA fn FC) F.1):=z0 (by exact howF.els Zk (fun _ _=>trivial));have hxA:Below wF.heap.size wF (wF.alloc (.cells (ye y (.slice FA fn FC)) 52)):=Ba;have HRX:=z0 (Xh wF (.cells (ye y (.slice FA fn FC)) 52));have HBX:=z0 (HB9.o.trans (hxG.mono HB9.o.size));have HRZ:=z0 ((hxG.block _ (Lb HR9.o)).trans HR9.o);have HEX:=z0 (HELF.o.below hxA);have HGL:Hd (w.heap.size<wF.heap.size):=z0 (by have:=Lb HR9.o;have:=hbF.size;omega);have HOW:=z0 (howF.below hxA)
      have HKEEP:Hd (∀W:World,(∀k,k<(wF.alloc (.cells (ye y (.slice FA fn FC)) 52)).heap.size->k≠wF.heap.size->k≠w.heap.size->W.heap[k]?=(wF.alloc (.cells (ye y (.slice FA fn FC)) 52)).heap[k]?)->jE VB 1 W (.slice FA fn FC) F.1):=z0 (fun W h=>by
       have hk:=HOW.o.keep (w':=W) (fun k hk e=>h k hk (fun e2=>by
        have:=(World.ownsRow.lt howF k e).2;omega) (fun e2=>by
        have:=(World.ownsRow.lt howF k e).1;have h1:=Lb HR9.o;have h2:=hbd.size
        omega))
       exact hk.els Zk (fun _ _=>trivial))
      generalize HGA:wF.heap.size=gA at *;generalize HWX:(wF.alloc (.cells (ye y (.slice FA fn FC)) 52))=wX at *;clear hHeld howF hbF hbF' hxF hxG halF hstF hxA HELF HOW;go_upto_region 15 with(fail)
      obtain⟨YC,HYC⟩:=nm (ye y (.slice FA fn FC));have HBXX:Hd (yr wX gA y (.slice FA fn FC)):=HRX
      have HTDX:Hd (∀W,Below wX.heap.size wX W->Calls prog 78 #[.agg YC] W fun e w'=>∃x,e=.returned x/\ql W.heap.size w' x (jo y)/\Below W.heap.size W w'):=z0 (fun W h=>by
       rw[<-HYC.o]
       exact Ys _ y W ⟨_,rfl,HYO.o,by rw[HFR.o];exact HEX.o.below h⟩ HMAY.o)
      obtain⟨TG,HTG⟩:=nm (jo y);have HTGL:Hd (TG.length<=1000000):=z0 (by rw[<-HTG.o];have:=Ql HYO.o HMAY.o;omega);have HTAGX:Hd (ZW y=hl 32 (Qd b 2 TG)):=z0 (by unfold ZW;rw[HTG.o];rw[show y.bo=b from by rw[HYE.o]]);rw[HTG.o]at HTDX
      have HLX:Hd (∀W,Below wX.heap.size wX W->W.cell? ⟨gA,0,none⟩=some (.int .i64 b)):=z0 (fun W h=>by
       have:=(yr.below HBXX.o h HBXX.o.lt).ints.1
       rw[this,HYE.o])
      have hlX:yP (.pointer (some ⟨gA,0,none⟩)) wX=.ok (.value (.agg YC)) wX:=qH (by rw[<-HYC.o];exact HRX.o) (by rw[<-HYC.o];exact HAXS.o _);obtain⟨tv,HTV⟩:=nm (hl 32 (Qd b 2 TG):List UInt8);have HTVL:Hd (tv.length=32):=z0 (by rw[<-HTV.o];exact qe _ _)
      have HKT:Hd (∀v gp c W,Below wX.heap.size wX W->gp<W.heap.size->W.cell? ⟨gp,0,none⟩=some v->zP W v TG->Calls prog 77 #[.int .i64 b,.int .u8 2,.slice (some ⟨gp,0,none⟩) 1 c] W fun e w'=>e=.returned (.agg (z2 tv))/\Below W.heap.size W w'):=z0 (fun v gp c W hb h1 h2 h3=>by
       have:=z51 b 2 v TG gp c W h1 h2 h3 HTGL.o (HKB.o W (HBX.o.trans (hb.mono HBX.o.size)));rw[HTV.o]at this
       exact this)
      go_wp2_with fail;refine(HTDX.o wX (Below.refl _ _)).mono ?_;rintro e wT ⟨vT,rfl,hoT,hbT⟩;have hvT:=hoT.byt;obtain⟨TA,TC,rfl⟩:=hvT.shape;have hbU:Below wX.heap.size wX (wT.alloc (.cells #[.slice TA TG.length TC] 33)):=hbT.alloc hbT.size _;clear hlX;go_wp2_with fail;refine(HKT.o (.slice TA TG.length TC) wT.heap.size 1 (wT.alloc (.cells #[.slice TA TG.length TC] 33)) hbU (by simp) (by simp) (hvT.alloc _)).mono ?_;rintro e wV ⟨rfl,hbV'⟩;have hbV:=hbU.trans (hbV'.mono hbU.size);have HBXV:Hd (yr wV gA y (.slice FA fn FC)):=z0 (yr.below HBXX.o hbV HBXX.o.lt);go_upto_region 16 with(refine kd (h:=tv) (a:=y) (s:=.slice FA fn FC) rfl _ _ rfl rfl rfl HBXV.o HYO.o HTVL.o ?_;intro wY hgY hAY hsY)
      have HBV:=z0 (HBX.o.trans (hbV.mono HBX.o.size));have HBY:Hd (Below w.heap.size w wY):=z0 (zh HBV.o (Nat.le_of_lt HGL.o) hgY HBV.o.size);have HRY:Hd (wY.heap[w.heap.size]?=some (.cells Z 52 (0,0))):=z0 ((hgY.block _ (Nat.lt_of_lt_of_le (Lb HRZ.o) hbV.size) (fun e=>by injection e with e;have:=HGL.o;omega)).trans ((hbV.block _ (Lb HRZ.o)).trans HRZ.o));have HKY:Hd (∀k,k<wX.heap.size->k≠gA->wY.heap[k]?=wX.heap[k]?):=z0 (fun k hk hne=>(hgY.block _ (Nat.lt_of_lt_of_le hk hbV.size) (fun e=>hne (by injection e with e))).trans (hbV.block _ hk));have HEY:Hd (jE VB 1 wY (.slice FA fn FC) F.1):=z0 (HKEEP.o wY (fun k hk hne _=>HKY.o k hk hne));obtain⟨z,HZZ⟩:=nm ({ y with tg:=tv }:vU);rw[HZZ.o]at hAY;have HZO:Hd z.Ok:=z0 (by rw[<-HZZ.o];exact⟨HYO.o.pa,HTVL.o⟩);obtain⟨ZC,HZC⟩:=nm (ye z (.slice FA fn FC));have HZCS:Hd (ZC.size=68/\ZC.all (·.oneCell')=true):=z0 (by rw[<-HZC.o];exact⟨zT _ HZO.o,jt (a:=z) (by rw[<-HZZ.o];show jE VB 1 wY _ y.fr;rw[HFR.o];exact HEY.o)⟩);have lY:yP (.pointer (some ⟨gA,0,none⟩)) wY=.ok (.value (.agg ZC)) wY:=qH (by rw[<-HZC.o];exact hAY) HZCS.o.1;have sY:=jk HRY.o HSZ.o HZCS.o.1 HZCS.o.2;have HSS:=z0 (vN (C:=ZC) HRY.o);have HBF:=z0 (jO (C:=ZC) HBY.o (Nat.le_refl w.heap.size));have HEF:Hd (jE VB 1 (vM wY w.heap.size ZC) (.slice FA fn FC) F.1):=z0 (HKEEP.o _ (fun k hk hne hn2=>(Z9 wY ZC hn2).trans (HKY.o k hk hne)));clear hAY hgY hsY;go_wp2_with fail;refine Bp (zY rfl _ _ _ _ _ _ rfl rfl HSS.o HZCS.o.1) rfl ?_;rw[<-HZC.o]at HBF HEF⊢;rw[HTAGX.o,HTV.o,HZZ.o]at HM;have HZFR:z.fr=F.1:=by rw[<-HZZ.o];exact HFR.o
      exact Yu HM.o HZO.o (by rw[HZFR];exact HEF.o) HBF.o
     ·have halD:=HALX.o w9.drew;obtain⟨gA,HGA⟩:=nm (w9.drew.heap.size:Nat);have hbA:Below w9.heap.size w9 (w9.drew.alloc (.cells Z 52)):=hbd.alloc hbd.size _;have hrA:=Xh w9.drew (.cells Z 52);have hsA:(w9.drew.alloc (.cells Z 52)).heap.size=gA+1:=by rw[<-HGA.o];simp
      rw[HGA.o]at halD hrA;go_simp;refine hK.out _ _ (HXW.o _ hbA) (fun hHeld=>?_);clear hK K;try simp only[zx]
      refine qc 7 (h:=fun K hK=>?_);go_simp;refine(HFM.o (w9.drew.alloc (.cells Z 52)) (HB90.o.trans (hbA.mono HB90.o.size))).mono ?_;rintro e wF ⟨xF,rfl,howF,hbF'⟩;have hbF:=hbA.trans (hbF'.mono hbA.size);obtain⟨FA,FC,rfl⟩:=howF.shape;obtain⟨fn,HFN⟩:=nm (F.1.length:Nat);rw[HFN.o];refine hK.out _ _ (HXW.o _ hbF) (fun hHeld=>?_);clear hK K;try simp only[zx]
      rw[HFN.o]at howF;refine' z5 8 (h:=?_);have HELF:Hd (jE VB 1 wF (.slice FA fn FC) F.1):=z0 (by exact howF.els Zk (fun _ _=>trivial));have hrF:=(hbF'.block _ (Lb hrA)).trans hrA;have hstF:=jk hrF HSZ.o (HAXS.o (.slice FA fn FC)) (jt (w:=wF) (a:=y) (by rw[HFR.o];exact HELF.o));have hg9:w9.heap.size<=gA:=by have:=hbd.size;have:=HGA.o;omega
      have hxG:Below w9.heap.size w9 (vM wF gA (ye y (.slice FA fn FC))):=jO hbF hg9;refine qc 10 (h:=fun K hK=>?_);go_simp;refine hK.out _ _ (HXW.o _ hxG) (fun hHeld=>?_);clear hK K;try simp only[zx]
      refine wpAnyH_done (by kernel_rfl) ?_ _;have HRX:=z0 (vN (C:=ye y (.slice FA fn FC)) hrF);have HBX:=z0 (HB9.o.trans (hxG.mono HB9.o.size));have HRZ:=z0 ((hxG.block _ (Lb HR9.o)).trans HR9.o);have HGL:Hd (w.heap.size<gA):=z0 (by have:=Lb HR9.o;omega);have hsz:(vM wF gA (ye y (.slice FA fn FC))).heap.size=wF.heap.size:=Vb _ _ _
      have HKEEP:Hd (∀W:World,(∀k,k<(vM wF gA (ye y (.slice FA fn FC))).heap.size->k≠gA->k≠w.heap.size->W.heap[k]?=(vM wF gA (ye y (.slice FA fn FC))).heap[k]?)->jE VB 1 W (.slice FA fn FC) F.1):=z0 (fun W h=>by
       have hk:=howF.keep (w':=W) (fun k hk e=>by
        have h1:=(World.ownsRow.lt howF k e).1;have h3:=HGL.o;have hne:k≠gA:=by omega
        exact(h k (by rw[hsz];exact hk) hne (by omega)).trans (Z9 wF _ hne))
       exact hk.els Zk (fun _ _=>trivial))
      have HEX:=z0 (HKEEP.o _ (fun _ _ _ _=>rfl));generalize HWX:(vM wF gA (ye y (.slice FA fn FC)))=wX at *;clear hHeld howF hbF hbF' hxG halD hstF hrF hrA hsA hbA HELF hsz hg9 HGA;go_upto_region 15 with(fail)
      obtain⟨YC,HYC⟩:=nm (ye y (.slice FA fn FC));have HBXX:Hd (yr wX gA y (.slice FA fn FC)):=HRX
      have HTDX:Hd (∀W,Below wX.heap.size wX W->Calls prog 78 #[.agg YC] W fun e w'=>∃x,e=.returned x/\ql W.heap.size w' x (jo y)/\Below W.heap.size W w'):=z0 (fun W h=>by
       rw[<-HYC.o]
       exact Ys _ y W ⟨_,rfl,HYO.o,by rw[HFR.o];exact HEX.o.below h⟩ HMAY.o)
      obtain⟨TG,HTG⟩:=nm (jo y);have HTGL:Hd (TG.length<=1000000):=z0 (by rw[<-HTG.o];have:=Ql HYO.o HMAY.o;omega);have HTAGX:Hd (ZW y=hl 32 (Qd b 2 TG)):=z0 (by unfold ZW;rw[HTG.o];rw[show y.bo=b from by rw[HYE.o]]);rw[HTG.o]at HTDX
      have HLX:Hd (∀W,Below wX.heap.size wX W->W.cell? ⟨gA,0,none⟩=some (.int .i64 b)):=z0 (fun W h=>by
       have:=(yr.below HBXX.o h HBXX.o.lt).ints.1
       rw[this,HYE.o])
      have hlX:yP (.pointer (some ⟨gA,0,none⟩)) wX=.ok (.value (.agg YC)) wX:=qH (by rw[<-HYC.o];exact HRX.o) (by rw[<-HYC.o];exact HAXS.o _);obtain⟨tv,HTV⟩:=nm (hl 32 (Qd b 2 TG):List UInt8);have HTVL:Hd (tv.length=32):=z0 (by rw[<-HTV.o];exact qe _ _)
      have HKT:Hd (∀v gp c W,Below wX.heap.size wX W->gp<W.heap.size->W.cell? ⟨gp,0,none⟩=some v->zP W v TG->Calls prog 77 #[.int .i64 b,.int .u8 2,.slice (some ⟨gp,0,none⟩) 1 c] W fun e w'=>e=.returned (.agg (z2 tv))/\Below W.heap.size W w'):=z0 (fun v gp c W hb h1 h2 h3=>by
       have:=z51 b 2 v TG gp c W h1 h2 h3 HTGL.o (HKB.o W (HBX.o.trans (hb.mono HBX.o.size)));rw[HTV.o]at this
       exact this)
      go_wp2_with fail;refine(HTDX.o wX (Below.refl _ _)).mono ?_;rintro e wT ⟨vT,rfl,hoT,hbT⟩;have hvT:=hoT.byt;obtain⟨TA,TC,rfl⟩:=hvT.shape;have hbU:Below wX.heap.size wX (wT.alloc (.cells #[.slice TA TG.length TC] 33)):=hbT.alloc hbT.size _;clear hlX;go_wp2_with fail;refine(HKT.o (.slice TA TG.length TC) wT.heap.size 1 (wT.alloc (.cells #[.slice TA TG.length TC] 33)) hbU (by simp) (by simp) (hvT.alloc _)).mono ?_;rintro e wV ⟨rfl,hbV'⟩;have hbV:=hbU.trans (hbV'.mono hbU.size);have HBXV:Hd (yr wV gA y (.slice FA fn FC)):=z0 (yr.below HBXX.o hbV HBXX.o.lt);go_upto_region 16 with(refine kd (h:=tv) (a:=y) (s:=.slice FA fn FC) rfl _ _ rfl rfl rfl HBXV.o HYO.o HTVL.o ?_;intro wY hgY hAY hsY)
      have HBV:=z0 (HBX.o.trans (hbV.mono HBX.o.size));have HBY:Hd (Below w.heap.size w wY):=z0 (zh HBV.o (Nat.le_of_lt HGL.o) hgY HBV.o.size);have HRY:Hd (wY.heap[w.heap.size]?=some (.cells Z 52 (0,0))):=z0 ((hgY.block _ (Nat.lt_of_lt_of_le (Lb HRZ.o) hbV.size) (fun e=>by injection e with e;have:=HGL.o;omega)).trans ((hbV.block _ (Lb HRZ.o)).trans HRZ.o));have HKY:Hd (∀k,k<wX.heap.size->k≠gA->wY.heap[k]?=wX.heap[k]?):=z0 (fun k hk hne=>(hgY.block _ (Nat.lt_of_lt_of_le hk hbV.size) (fun e=>hne (by injection e with e))).trans (hbV.block _ hk));have HEY:Hd (jE VB 1 wY (.slice FA fn FC) F.1):=z0 (HKEEP.o wY (fun k hk hne _=>HKY.o k hk hne));obtain⟨z,HZZ⟩:=nm ({ y with tg:=tv }:vU);rw[HZZ.o]at hAY;have HZO:Hd z.Ok:=z0 (by rw[<-HZZ.o];exact⟨HYO.o.pa,HTVL.o⟩);obtain⟨ZC,HZC⟩:=nm (ye z (.slice FA fn FC));have HZCS:Hd (ZC.size=68/\ZC.all (·.oneCell')=true):=z0 (by rw[<-HZC.o];exact⟨zT _ HZO.o,jt (a:=z) (by rw[<-HZZ.o];show jE VB 1 wY _ y.fr;rw[HFR.o];exact HEY.o)⟩);have lY:yP (.pointer (some ⟨gA,0,none⟩)) wY=.ok (.value (.agg ZC)) wY:=qH (by rw[<-HZC.o];exact hAY) HZCS.o.1;have sY:=jk HRY.o HSZ.o HZCS.o.1 HZCS.o.2;have HSS:=z0 (vN (C:=ZC) HRY.o);have HBF:=z0 (jO (C:=ZC) HBY.o (Nat.le_refl w.heap.size));have HEF:Hd (jE VB 1 (vM wY w.heap.size ZC) (.slice FA fn FC) F.1):=z0 (HKEEP.o _ (fun k hk hne hn2=>(Z9 wY ZC hn2).trans (HKY.o k hk hne)));clear hAY hgY hsY;go_wp2_with fail;refine Bp (zY rfl _ _ _ _ _ _ rfl rfl HSS.o HZCS.o.1) rfl ?_;rw[<-HZC.o]at HBF HEF⊢;rw[HTAGX.o,HTV.o,HZZ.o]at HM;have HZFR:z.fr=F.1:=by rw[<-HZZ.o];exact HFR.o
      exact Yu HM.o HZO.o (by rw[HZFR];exact HEF.o) HBF.o
end
section
attribute [local go_sem ↓] ze zO vl vm Z4 z0K zf
theorem z1u (b n vi:Int) (v:Value) (l:List y8) (w:World) (bT:jE xZ 101 w v l) (bH:∀a∈l,a.Ok) (ct:l.length<=1000) (ck:yB 0 w):
  Calls prog 39 #[.int .i64 b,.int .i64 n,.int .i64 vi,v] w (KJ b n vi l w):=by
 obtain⟨A,cY,rfl⟩:=bT.shape;obtain⟨L,ba⟩:=nm (l.length:Nat);obtain⟨q,aw⟩:=nm (qC n);have cl:=z0 (fun hp=>zbz bT bH hp);rw[ba.o]at ct⊢;have bW:=z0 bH;have bO:=z0 (fun W (h:Below w.heap.size w W)=>(show yB 0 W from ck.below h))
 have cP:Hd (∀W,Calls prog 5 #[.int .i64 n] W fun e w'=>e=.returned (.int .i64 (q:Int))/\W=w'):=z0 (fun W=>by
  have:=xY n W;rw[aw.o]at this
  exact this)
 have cH:Hd (∀a∈l,∀W,Below w.heap.size w W->Calls prog 24 #[.agg (zy a)] W fun e w'=>e=.returned (.bool (yv a))/\Below W.heap.size W w'):=z0 (fun a ha W h=>Qx a W (bW.o a ha) (bO.o W h));obtain⟨Z,M⟩:=nm (ye Zy (.slice none 0 0));have cU:∀W,Yn W=.ok (.value (.agg Z)) W:=fun W=>by rw[<-M.o];exact Yo W
 have cq:∀W,Qn W=.ok (.value (.pointer (some ⟨W.heap.size,0,none⟩))) (W.alloc (.cells Z 52)):=fun W=>by rw[<-M.o];exact jT W
 have a4:Hd (Z.size=68):=z0 (by rw[<-M.o];exact zT _ Zh);have cL:Hd (Z.all (·.oneCell')=true):=z0 (by rw[<-M.o];exact jt (w:=w) (a:=Zy) (jE.nil w));have cc:Below w.heap.size w (w.alloc (.cells Z 52)):=Ba;have bN:=Xh w (.cells Z 52);have bG:Hd (∀W:World,W.heap[w.heap.size]?=some (.cells Z 52 (0,0))->Qo (.pointer (some ⟨w.heap.size,0,none⟩)) (.agg Z) W=.ok .skip W):=z0 (fun W h=>by rw[jk h a4.o a4.o cL.o,z0u h]);clear bT bH ck;go_enter func39,ntmps39;go_upto_region 1 with(fail)
 generalize (w.alloc (.cells Z 52))=w0 at *;have aJ:=z0 bN;have av:=z0 cc;have cV:=bG.o w0 bN;clear bN cc;go_wp2_with fail;refine(cP.o w0).mono ?_;rintro e d1 ⟨rfl,rfl⟩;by_cases hq:q=0
 ·subst hq;have G:=z0 (vk (l:=l) (b:=b) (n:=n) (vi:=vi) (.inl aw.o));go_wp2_with fail;refine Bp (zY rfl _ _ _ _ _ _ rfl rfl aJ.o a4.o) rfl ?_;rw[<-M.o];exact yC G.o av.o
 have cu:((q:Int) == 0)=false:=by simpa using hq
 by_cases h0:b<1
 ·have G:=z0 (vk (l:=l) (b:=b) (n:=n) (vi:=vi) (.inr (.inl h0)));go_wp2_with fail;refine Bp (zY rfl _ _ _ _ _ _ rfl rfl aJ.o a4.o) rfl ?_;rw[<-M.o];exact yC G.o av.o
 by_cases h1:n<b
 ·have G:=z0 (vk (l:=l) (b:=b) (n:=n) (vi:=vi) (.inr (.inr (.inl h1))));go_wp2_with fail;refine Bp (zY rfl _ _ _ _ _ _ rfl rfl aJ.o a4.o) rfl ?_;rw[<-M.o];exact yC G.o av.o
 by_cases h2:vi<1
 ·have G:=z0 (vk (l:=l) (b:=b) (n:=n) (vi:=vi) (.inr (.inr (.inr (.inl h2)))));go_wp2_with fail;refine Bp (zY rfl _ _ _ _ _ _ rfl rfl aJ.o a4.o) rfl ?_;rw[<-M.o];exact yC G.o av.o
 by_cases h3:1099511627776<vi
 ·have G:=z0 (vk (l:=l) (b:=b) (n:=n) (vi:=vi) (.inr (.inr (.inr (.inr h3)))));go_wp2_with fail;refine Bp (zY rfl _ _ _ _ _ _ rfl rfl aJ.o a4.o) rfl ?_;rw[<-M.o];exact yC G.o av.o
 have am:Hd (¬(qC n=0\/b<1\/n<b\/vi<1\/1099511627776<vi)):=z0 (by rw[aw.o];omega);go_wp2_with fail;clear cu h0 h1 h2 h3;go_loopw [11] (fun ag wr=>∃i:Nat,i<=L/\ag=.int .i64 i/\Hd (∀j (h:j<l.length),j<i->kM n vi l[j]=true)/\Below w0.heap.size w0 wr) (fun ag _=>L - (intOf ag).toNat)
 case atStart=>exact⟨0,Nat.zero_le _,rfl,z0 (fun j _ h=>absurd h (by omega)),Below.refl _ _⟩
 case round=>
  obtain⟨i,hi,rfl,bE,bu⟩:=hrel;have bv:=z0 (av.o.trans (bu.mono av.o.size));have bc:=z0 ((bu.block _ (Lb aJ.o)).trans aJ.o);by_cases c5:i<L
  ·have ab:i<l.length:=by rw[ba.o];exact c5
   have co:(i:Int)<(L:Int):=by omega
   have cj:=List.getElem_mem ab;obtain⟨g,cQ,rfl,bm⟩:=cl.o (by omega);obtain⟨X,cb⟩:=nm (zy l[i]);obtain⟨m,ce⟩:=nm (yv l[i]);obtain⟨bo,aC⟩:=nm (l[i].bo:Int);obtain⟨ki,c3⟩:=nm (l[i].ki:Int);obtain⟨b8,ca⟩:=nm (l[i].vi:Int)
   have cx:Hd (∀W,Below w.heap.size w W->Calls prog 24 #[.agg X] W fun e w'=>e=.returned (.bool m)/\Below W.heap.size W w'):=z0 (fun W h=>by
    have:=cH.o _ cj W h;rw[cb.o,ce.o]at this
    exact this)
   have bw:=z0 (bm i ab);have l1:=(bw.o wr bv.o).1;rw[cb.o]at l1;clear cj bm;go_wp2_with fail;refine(cx.o wr bv.o).mono ?_;rintro e bA ⟨rfl,cg⟩;have ch:=bu.trans (cg.mono bu.size);have aR:=z0 (av.o.trans (ch.mono av.o.size));have bi:=z0 ((cg.block _ (Lb bc.o)).trans bc.o);have cD:=bG.o bA bi.o;have c0:=(bw.o bA aR.o).2.1;have c1:=(bw.o bA aR.o).2.2.1;have ah:=(bw.o bA aR.o).2.2.2.1;rw[aC.o]at c0;rw[c3.o]at c1;rw[ca.o]at ah;clear l1;have aY:Hd (kM n vi l[i]=(m && (decide (ki=1) && (decide (b8=vi) && decide (bo<=n))))):=z0 (by unfold kM;rw[ce.o,aC.o,c3.o,ca.o]);cases m with
   |false=>
    have G:=z0 (QQ am.o (by
     rw[List.all_eq_false]
     exact⟨_,List.getElem_mem ab,by rw[aY.o];simp⟩))
    go_wp2_with fail;refine Bp (zY rfl _ _ _ _ _ _ rfl rfl bi.o a4.o) rfl ?_;rw[<-M.o];exact yC G.o aR.o
   |true=>
    by_cases bR:¬ki=1
    ·have cO:(ki != 1)=true:=by simpa using bR
     have G:=z0 (QQ am.o (by
      rw[List.all_eq_false]
      exact⟨_,List.getElem_mem ab,by rw[aY.o,decide_eq_false bR];simp⟩))
     go_wp2_with fail;refine Bp (zY rfl _ _ _ _ _ _ rfl rfl bi.o a4.o) rfl ?_;rw[<-M.o];exact yC G.o aR.o
    have cO:(ki != 1)=false:=by simpa using bR
    by_cases bD:¬b8=vi
    ·have cI:(b8 != vi)=true:=by simpa using bD
     have G:=z0 (QQ am.o (by
      rw[List.all_eq_false]
      exact⟨_,List.getElem_mem ab,by rw[aY.o,decide_eq_false bD];simp⟩))
     go_wp2_with fail;refine Bp (zY rfl _ _ _ _ _ _ rfl rfl bi.o a4.o) rfl ?_;rw[<-M.o];exact yC G.o aR.o
    have cI:(b8 != vi)=false:=by simpa using bD
    by_cases cZ:n<bo
    ·have G:=z0 (QQ am.o (by
      rw[List.all_eq_false]
      exact⟨_,List.getElem_mem ab,by rw[aY.o,decide_eq_false (show ¬bo<=n by omega)];simp⟩))
     go_wp2_with fail;refine Bp (zY rfl _ _ _ _ _ _ rfl rfl bi.o a4.o) rfl ?_;rw[<-M.o];exact yC G.o aR.o
    have cw:Hd (kM n vi l[i]=true):=z0 (by rw[aY.o,decide_eq_true (show ki=1 by omega),decide_eq_true (show b8=vi by omega),decide_eq_true (show bo<=n by omega)];rfl);clear cD;go_wp2;go_roundw
    case rel=>
     refine⟨i+1,by omega,by go_num,z0 (fun j h bC=>?_),ch⟩;by_cases cJ:j<i
     ·exact bE.o j h cJ
     ·obtain rfl:j=i:=by omega
      exact cw.o
    case measure=>simp[intOf];omega
  ·have bY:=z0 (show i=L by omega);have co:¬(i:Int)<(L:Int):=by omega
   have bt:Hd ((l.all (kM n vi))=true):=z0 (by
    rw[List.all_eq_true];intro a ha;obtain⟨j,bC,rfl⟩:=List.getElem_of_mem ha
    exact bE.o j bC (by have:=ba.o;have:=bY.o;omega))
   obtain⟨aW,bz⟩:=nm (ye ⟨b,vi,0,qx,[],qx⟩ (.slice none 0 0));have cp:∀W,Ja (.int .i64 b) (.int .i64 vi) W=.ok (.value (.agg aW)) W:=fun W=>by rw[<-bz.o];exact z4O b vi W
   have br:Qo (.pointer (some ⟨wr.heap.size,0,none⟩)) (.agg aW) (wr.alloc (.cells Z 52))=.ok .skip (wr.alloc (.cells aW 52)):=by
    refine Vc wr a4.o ?_ ?_
    ·rw[<-bz.o];exact zT _ ⟨rfl,rfl⟩
    ·rw[<-bz.o];exact jt (w:=w) (a:=⟨b,vi,0,qx,[],qx⟩) (jE.nil w)
   have bL:Below wr.heap.size wr (wr.alloc (.cells aW 52)):=Ba
   have bZ:Hd (xT w (wr.alloc (.cells aW 52)) wr.heap.size (jI b vi (j8 l q 0)) (.slice none 0 0)):=z0 (by
    refine⟨bv.o.trans (bL.mono bv.o.size),?_,Lb bc.o,?_⟩
    ·unfold yr;rw[M.o];exact(bL.block _ (Lb bc.o)).trans bc.o
    ·unfold yr;show _=some (Obj.cells (ye ⟨b,vi,0,qx,[],qx⟩ (.slice none 0 0)) _ _);rw[bz.o]
     exact Xh wr _)
   have cT:=bY.o;clear bE c5 bL;go_upto_region 10 with(fail)
   generalize (wr.alloc (.cells aW 52))=cS at *;obtain⟨F,cz⟩:=nm (wr.heap.size);rw[cz.o]at bZ⊢;clear cp br cq;obtain⟨O,cX,cW,cy⟩:∃k:Nat,1<=k/\k<=21/\Hd (n=(k:Int)):=by
    have h0:qC n≠0:=fun e=>am.o (.inl e);have:=ZU h0;exact⟨n.toNat,by omega,by omega,z0 (by omega)⟩
   have bS:=cy.o
   have bP:Hd (q<=21):=z0 (by
    rw[<-aw.o];unfold qC
    split <;> omega)
   have aX:=z0 (fun k=>z9P (l:=l) (q:=q) bW.o k);go_wp2_with fail;go_loopw [13] (fun ag wr=>∃(k:Nat) (s:Value),k<=O/\ag=.int .i64 ((k+1:Nat):Int)/\xT w wr F (jI b vi (j8 l q k)) s/\yN VB 1 3 (F+1) wr s (j8 l q k).1) (fun ag _=>O+1 - (intOf ag).toNat)
   case atStart=>exact⟨0,_,Nat.zero_le _,rfl,bZ.o,yN.nil _ _⟩
   case round=>
    obtain⟨k,s,cC,rfl,br,bd⟩:=hrel;obtain⟨SL,N⟩:=nm ((j8 l q k).1:List Int);obtain⟨pv,aN⟩:=nm ((j8 l q k).2.1:Int);have bV:Hd (SL.length<=q):=z0 (by rw[<-N.o];exact XH l q k);have a3:Hd ((jI b vi (j8 l q k)).Ok):=z0 ⟨aX.o k,rfl⟩;rw[N.o]at bd;obtain⟨ad,aa,rfl⟩:=bd.shape;obtain⟨I,a7⟩:=nm (SL.length:Nat);rw[a7.o]at br bd;have K:=z0 br;have aB:=z0 bd;obtain⟨c1,ah,ai⟩:=K.o.fr a3.o;rw[show(jI b vi (j8 l q k)).pv=pv from aN.o]at ah;clear br bd;by_cases cR:k+1<=O
    ·have cM:((k+1:Nat):Int)<=(O:Int):=by omega
     by_cases b7:I<q
     ·have cE:(I:Int)<(q:Int):=by omega
      subst bS;go_wp2_with fail;clear c1 ah ai;go_loop [14] (fun ag=>∃j:Nat,j<=L/\ag=.int .i64 j/\Hd (∀i (h:i<l.length),i<j->l[i].bo≠((k+1:Nat):Int))) (fun ag=>L - (intOf ag).toNat)
      case atStart=>exact⟨0,Nat.zero_le _,rfl,z0 (fun j _ h=>absurd h (by omega))⟩
      case round=>
       obtain⟨j,bC,rfl,bj⟩:=hrel;by_cases cF:j<L
       ·have ab:j<l.length:=by rw[ba.o];exact cF
        have cB:(j:Int)<(L:Int):=by omega
        obtain⟨g,cQ,rfl,bm⟩:=cl.o (by omega);have aV:=z0 (bm j ab);have cA:=z0 (List.getElem_mem ab);obtain⟨bo,aC⟩:=nm (l[j].bo:Int);have cm:=(aV.o wr K.o.bel).2.1;rw[aC.o]at cm;clear bm;by_cases ay:bo=((k+1:Nat):Int)
        ·have cd:(bo == ((k+1:Nat):Int))=true:=by simpa using ay
         have c4:(bo == (k:Int)+1)=true:=by simpa using ay
         obtain⟨a2,ax⟩:=nm (l[j].pv:Int);obtain⟨pa,bp⟩:=nm (l[j].pa:List UInt8);have c6:Hd (pa.length=32):=z0 (by rw[<-bp.o];exact(bW.o _ cA.o).pa);go_upto_region 17 with(fail)
         clear cm cd c4;obtain⟨c1,ah,ai⟩:=K.o.fr a3.o;rw[show(jI b vi (j8 l q k)).pv=pv from aN.o]at ah;have ao:=(aV.o wr K.o.bel).2.2.2.2.1;rw[ax.o]at ao;by_cases bM:I=0
         ·have bx:((I:Int) == 0)=true:=by simp;omega
          have bf:Hd (SL=[]\/pv<a2):=z0 (.inl (List.eq_nil_of_length_eq_zero (by rw[a7.o];exact bM)));clear bM
          have af:Hd (j8 l q (k+1)=(SL ++ [((k+1:Nat):Int)],a2,pa)):=z0 (by
           rw[KD (by rw[N.o,a7.o];exact b7) ab (by rw[aC.o];exact ay) (fun i h hi=>bj.o i h hi),if_pos (by rw[N.o,aN.o,ax.o];exact bf.o),N.o,ax.o,bp.o])
          go_quiet (fail);clear c1 ah ai ao bx;have a5:=z0 (K.o.below (zA (Below.refl wr.heap.size wr) nq));have aO:=z0 (aB.o.below (zA (Below.refl wr.heap.size wr) nq));generalize c9:wr.drewN nq=ap at *;have aA:=(a5.o.fr a3.o).2.1;have ai:=(a5.o.fr a3.o).2.2;rw[show(jI b vi (j8 l q k)).pv=pv from aN.o]at aA;have ao:=(aV.o ap a5.o.bel).2.2.2.2.1;rw[ax.o]at ao;have J:Hd (xT w (ap.setCell ⟨F,2,none⟩ (.int .i64 a2)) F { jI b vi (j8 l q k) with pv:=a2 } (.slice ad I aa)):=z0 (a5.o.cell 2 (z9Z _ _ _));have aj:=z0 (aO.o.set (g:=F) (Nat.lt_succ_self F) 2 (.int .i64 a2));go_upto_region 19 with(fail)
          clear aA ai ao;generalize (ap.setCell ⟨F,2,none⟩ (.int .i64 a2))=a8 at *;have aK:=(aV.o a8 J.o.bel).2.2.2.2.2;rw[bp.o]at aK;have bF:Hd (({ jI b vi (j8 l q k) with pv:=a2 }:vU).Ok):=z0 ⟨aX.o k,rfl⟩;have a1:Hd ((jI b vi (j8 l q (k+1))).Ok):=z0 ⟨aX.o (k+1),rfl⟩;obtain⟨cK,bb⟩:=nm (z2 pa);rw[bb.o]at aK;go_upto_region 20 with(refine QT rfl _ _ rfl rfl (by rw[bb.o];rfl) J.o.b1 bF.o c6.o ?_;intro an aP be bU)
          have a6:Hd (xT w an F (jI b vi (j8 l q (k+1))) (.slice ad I aa)):=z0 (J.o.att aP (by rw[af.o];exact be));have aG:=z0 (aj.o.far aP (Nat.lt_succ_self F));clear aP be bU aK J aj;have cn:=(a6.o.fr a1.o).1;have c2:=(a6.o.fr a1.o).2.2;go_wp2_with (at_builtin;go_loud (refine Zk.wpList_append (x:=.slice (some ⟨an.heap.size,0,none⟩) 1 1) (m:=[((k+1:Nat):Int)]) rfl (.tmp 131) (.tmp 133) rfl rfl rfl (fun _ _=>trivial) (aG.o.alloc _) (Ye an ((k+1:Nat):Int) _ 3 rfl) (by have:=a7.o;have:=bV.o;have:=bP.o;simp only[List.length_cons,List.length_nil];omega) (Nat.le_trans a6.o.b1.lt (yL _ _)) ?_;intro b6 c8 aE aD bn;have ae:=z0 ((a6.o.below Ba).app (aG.o.alloc _) aD);have aA:=(ae.o.fr a1.o).1;have c7:=(ae.o.fr a1.o).2.2;obtain⟨aH,aF,az,rfl⟩:∃A n c,b6=.slice A n c:=(by obtain⟨A,c,e⟩:=aE.shape;exact⟨_,_,_,e⟩);clear aD bn));go_roundw
          case rel=>
           refine⟨k+1,.slice aH aF az,by omega,by go_num,?_,?_⟩
           ·exact ae.o.cell (t:=.slice aH aF az) 35 (z69 _ _ _ a1.o)
           ·rw[af.o];show yN VB 1 _ _ _ _ (SL ++ [((k+1:Nat):Int)]);exact aE.set (g:=F) (Nat.lt_succ_self F) 35 _
          case measure=>simp[intOf];omega
         have bx:((I:Int) == 0)=false:=by simp;omega
         by_cases bX:pv<a2
         ·have bf:Hd (SL=[]\/pv<a2):=z0 (.inr bX)
          have af:Hd (j8 l q (k+1)=(SL ++ [((k+1:Nat):Int)],a2,pa)):=z0 (by
           rw[KD (by rw[N.o,a7.o];exact b7) ab (by rw[aC.o];exact ay) (fun i h hi=>bj.o i h hi),if_pos (by rw[N.o,aN.o,ax.o];exact bf.o),N.o,ax.o,bp.o])
          go_quiet (fail);clear c1 ah ai ao bx;have a5:=z0 (K.o.below (zA (Below.refl wr.heap.size wr) nq));have aO:=z0 (aB.o.below (zA (Below.refl wr.heap.size wr) nq));generalize c9:wr.drewN nq=ap at *;have aA:=(a5.o.fr a3.o).2.1;have ai:=(a5.o.fr a3.o).2.2;rw[show(jI b vi (j8 l q k)).pv=pv from aN.o]at aA;have ao:=(aV.o ap a5.o.bel).2.2.2.2.1;rw[ax.o]at ao;have J:Hd (xT w (ap.setCell ⟨F,2,none⟩ (.int .i64 a2)) F { jI b vi (j8 l q k) with pv:=a2 } (.slice ad I aa)):=z0 (a5.o.cell 2 (z9Z _ _ _));have aj:=z0 (aO.o.set (g:=F) (Nat.lt_succ_self F) 2 (.int .i64 a2));go_upto_region 19 with(fail)
          clear aA ai ao;generalize (ap.setCell ⟨F,2,none⟩ (.int .i64 a2))=a8 at *;have aK:=(aV.o a8 J.o.bel).2.2.2.2.2;rw[bp.o]at aK;have bF:Hd (({ jI b vi (j8 l q k) with pv:=a2 }:vU).Ok):=z0 ⟨aX.o k,rfl⟩;have a1:Hd ((jI b vi (j8 l q (k+1))).Ok):=z0 ⟨aX.o (k+1),rfl⟩;obtain⟨cK,bb⟩:=nm (z2 pa);rw[bb.o]at aK;go_upto_region 20 with(refine QT rfl _ _ rfl rfl (by rw[bb.o];rfl) J.o.b1 bF.o c6.o ?_;intro an aP be bU)
          have a6:Hd (xT w an F (jI b vi (j8 l q (k+1))) (.slice ad I aa)):=z0 (J.o.att aP (by rw[af.o];exact be));have aG:=z0 (aj.o.far aP (Nat.lt_succ_self F));clear aP be bU aK J aj;have cn:=(a6.o.fr a1.o).1;have c2:=(a6.o.fr a1.o).2.2;go_wp2_with (at_builtin;go_loud (refine Zk.wpList_append (x:=.slice (some ⟨an.heap.size,0,none⟩) 1 1) (m:=[((k+1:Nat):Int)]) rfl (.tmp 131) (.tmp 133) rfl rfl rfl (fun _ _=>trivial) (aG.o.alloc _) (Ye an ((k+1:Nat):Int) _ 3 rfl) (by have:=a7.o;have:=bV.o;have:=bP.o;simp only[List.length_cons,List.length_nil];omega) (Nat.le_trans a6.o.b1.lt (yL _ _)) ?_;intro b6 c8 aE aD bn;have ae:=z0 ((a6.o.below Ba).app (aG.o.alloc _) aD);have aA:=(ae.o.fr a1.o).1;have c7:=(ae.o.fr a1.o).2.2;obtain⟨aH,aF,az,rfl⟩:∃A n c,b6=.slice A n c:=(by obtain⟨A,c,e⟩:=aE.shape;exact⟨_,_,_,e⟩);clear aD bn));go_roundw
          case rel=>
           refine⟨k+1,.slice aH aF az,by omega,by go_num,?_,?_⟩
           ·exact ae.o.cell (t:=.slice aH aF az) 35 (z69 _ _ _ a1.o)
           ·rw[af.o];show yN VB 1 _ _ _ _ (SL ++ [((k+1:Nat):Int)]);exact aE.set (g:=F) (Nat.lt_succ_self F) 35 _
          case measure=>simp[intOf];omega
         have bf:Hd (¬(SL=[]\/pv<a2)):=z0 (fun h=>by
          rcases h with h|h
          ·rw[h]at a7;exact bM a7.o.symm
          ·exact bX h)
         have af:Hd (j8 l q (k+1)=(SL ++ [((k+1:Nat):Int)],(j8 l q k).2)):=z0 (by
          rw[KD (by rw[N.o,a7.o];exact b7) ab (by rw[aC.o];exact ay) (fun i h hi=>bj.o i h hi),if_neg (by rw[N.o,aN.o,ax.o];exact bf.o),N.o])
         have a1:Hd ((jI b vi (j8 l q (k+1))).Ok):=z0 ⟨aX.o (k+1),rfl⟩;go_quiet (fail);clear c1 ah ai ao bx;have a6:Hd (xT w (wr.drewN nq) F (jI b vi (j8 l q (k+1))) (.slice ad I aa)):=z0 (by rw[af.o];exact xT.refr (K.o.below (zA (Below.refl wr.heap.size wr) nq)) (SL ++ [((k+1:Nat):Int)]));have aG:=z0 (aB.o.below (zA (Below.refl wr.heap.size wr) nq));go_upto_region 20 with(fail)
         generalize c9:wr.drewN nq=an at *;have cn:=(a6.o.fr a1.o).1;have c2:=(a6.o.fr a1.o).2.2;go_wp2_with (at_builtin;go_loud (refine Zk.wpList_append (x:=.slice (some ⟨an.heap.size,0,none⟩) 1 1) (m:=[((k+1:Nat):Int)]) rfl (.tmp 131) (.tmp 133) rfl rfl rfl (fun _ _=>trivial) (aG.o.alloc _) (Ye an ((k+1:Nat):Int) _ 3 rfl) (by have:=a7.o;have:=bV.o;have:=bP.o;simp only[List.length_cons,List.length_nil];omega) (Nat.le_trans a6.o.b1.lt (yL _ _)) ?_;intro b6 c8 aE aD bn;have ae:=z0 ((a6.o.below Ba).app (aG.o.alloc _) aD);have aA:=(ae.o.fr a1.o).1;have c7:=(ae.o.fr a1.o).2.2;obtain⟨aH,aF,az,rfl⟩:∃A n c,b6=.slice A n c:=(by obtain⟨A,c,e⟩:=aE.shape;exact⟨_,_,_,e⟩);clear aD bn));go_roundw
         case rel=>
          refine⟨k+1,.slice aH aF az,by omega,by go_num,?_,?_⟩
          ·exact ae.o.cell (t:=.slice aH aF az) 35 (z69 _ _ _ a1.o)
          ·rw[af.o];show yN VB 1 _ _ _ _ (SL ++ [((k+1:Nat):Int)]);exact aE.set (g:=F) (Nat.lt_succ_self F) 35 _
         case measure=>simp[intOf];omega
        ·have cd:(bo == ((k+1:Nat):Int))=false:=by simpa using ay
         have c4:(bo == (k:Int)+1)=false:=by simpa using ay
         have cr:Hd (l[j].bo≠((k+1:Nat):Int)):=z0 (by rw[aC.o];exact ay);go_wp2;go_round
         case rel=>
          refine⟨j+1,by omega,by go_num,z0 (fun i h hi=>?_)⟩;by_cases cG:i<j
          ·exact bj.o i h cG
          ·obtain rfl:i=j:=by omega
           exact cr.o
         case measure=>simp[intOf];omega
       ·have cB:¬(j:Int)<(L:Int):=by omega
        have af:Hd (j8 l q (k+1)=j8 l q k):=z0 (z4t (fun i h=>bj.o i h (by have:=ba.o;omega)));go_wp2;go_roundw
        case rel=>
         refine⟨k+1,.slice ad I aa,by omega,by go_num,?_,?_⟩
         ·rw[af.o];exact K.o
         ·rw[af.o,N.o];exact aB.o
        case measure=>simp[intOf];omega
     ·have cE:¬(I:Int)<(q:Int):=by omega
      subst bS
      have aU:Hd (j8 l (qC (O:Int)) (O:Int).toNat=j8 l q k):=z0 (by
       rw[aw.o,Int.toNat_natCast]
       rw[z9N (by rw[N.o,a7.o];exact b7) O cC])
      by_cases bg:I<q
      ·exact absurd bg b7
      ·have aQ:¬(j8 l (qC (O:Int)) (O:Int).toNat).1.length<qC (O:Int):=by rw[aU.o,aw.o,N.o,a7.o];exact bg
       have G:=z0 (V5 am.o bt.o aQ);have aL:=z0 (z39 am.o bt.o aQ);rw[aU.o]at G aL;obtain⟨a0,bk⟩:=nm (jI b vi (j8 l q k));have b9:Hd (a0.fr=SL):=z0 (by rw[<-bk.o];exact N.o);rw[bk.o]at G aL K a3;obtain⟨au,aS⟩:=nm (ye a0 (.slice ad I aa));have bJ:Hd (au.size=68):=z0 (by rw[<-aS.o];exact zT _ a3.o);have bl:yP (.pointer (some ⟨F,0,none⟩)) wr=.ok (.value (.agg au)) wr:=by
        have h:=K.o.b1;unfold yr at h;rw[aS.o]at h;exact qH h bJ.o
       have bB:Hd (Calls prog 79 #[.agg au] wr fun e w'=>e=.returned (.agg (z2 (ZW a0)))/\Below wr.heap.size wr w'):=z0 (Yt (.agg au) a0 wr ⟨_,by rw[aS.o],a3.o,by rw[b9.o];exact aB.o.els Zk (fun _ _=>trivial)⟩ aL.o (bO.o wr K.o.bel));have cf:¬(I:Int)<(q:Int):=by omega
       clear aQ ah;go_wp2_with fail;refine bB.o.mono ?_;rintro e ap ⟨rfl,aI⟩;have a5:=z0 (K.o.below aI);have aO:=z0 (aB.o.below aI);clear bl aI c1 ai;obtain⟨cN,bI⟩:=nm (z2 (ZW a0));obtain⟨ak,aq⟩:=nm ({ a0 with tg:=ZW a0 }:vU);have aZ:Hd (ak.fr=SL):=z0 (by rw[<-aq.o];exact b9.o);have bq:Hd ak.Ok:=z0 (by rw[<-aq.o];exact⟨a3.o.pa,J3 _⟩);go_upto_region 24 with(refine kd rfl _ _ rfl rfl (by rw[bI.o];rfl) a5.o.b1 a3.o (J3 a0) ?_;intro a8 aT b4 bK)
       have J:Hd (xT w a8 F ak (.slice ad I aa)):=z0 (a5.o.att aT (by rw[<-aq.o];exact b4));have aj:=z0 (aO.o.far aT (Nat.lt_succ_self F));clear aT b4 bK;obtain⟨a9,aM⟩:=nm (ye ak (.slice ad I aa))
       have ar:Hd (a9.size=68/\a9.all (·.oneCell')=true):=z0 (by
        rw[<-aM.o]
        exact⟨zT _ bq.o,jt (w:=a8) (a:=ak) (by rw[aZ.o];exact aj.o.els Zk (fun _ _=>trivial))⟩)
       have bl:yP (.pointer (some ⟨F,0,none⟩)) a8=.ok (.value (.agg a9)) a8:=by
        have h:=J.o.b1;unfold yr at h;rw[aM.o]at h;exact qH h ar.o.1
       have al:=J.o.b0;unfold yr at al;rw[M.o]at al;have cv:=jk al a4.o ar.o.1 ar.o.2;have bQ:=z0 (vN (C:=a9) al);have bh:=z0 (aj.o.row (g:=w.heap.size) (C:=a9) (by have:=J.o.lt;omega));have b5:=z0 (jO (C:=a9) J.o.bel (Nat.le_refl w.heap.size));clear al;go_wp2_with fail;refine Bp (zY rfl _ _ _ _ _ _ rfl rfl bQ.o ar.o.1) rfl ?_;rw[<-aM.o]at bh b5⊢;rw[aq.o]at G;exact Yu G.o bq.o (by rw[aZ.o];exact bh.o.els Zk (fun _ _=>trivial)) b5.o
    ·have cM:¬((k+1:Nat):Int)<=(O:Int):=by omega
     subst bS
     have aU:Hd (j8 l (qC (O:Int)) (O:Int).toNat=j8 l q k):=z0 (by
      rw[aw.o,Int.toNat_natCast]
      rw[show O=k from by omega])
     by_cases bg:I<q
     ·have G:=z0 (KB am.o bt.o (by rw[aU.o,aw.o,N.o,a7.o];exact bg));have ci:Hd (wr.heap[w.heap.size]?=some (.cells Z 52 (0,0))):=z0 (by have:=K.o.b0;unfold yr at this;rw[M.o]at this;exact this);have d0:=bG.o wr ci.o;have cf:(I:Int)<(q:Int):=by omega
      go_wp2_with fail;refine Bp (zY rfl _ _ _ _ _ _ rfl rfl ci.o a4.o) rfl ?_;rw[<-M.o];exact yC G.o K.o.bel
     ·have aQ:¬(j8 l (qC (O:Int)) (O:Int).toNat).1.length<qC (O:Int):=by rw[aU.o,aw.o,N.o,a7.o];exact bg
      have G:=z0 (V5 am.o bt.o aQ);have aL:=z0 (z39 am.o bt.o aQ);rw[aU.o]at G aL;obtain⟨a0,bk⟩:=nm (jI b vi (j8 l q k));have b9:Hd (a0.fr=SL):=z0 (by rw[<-bk.o];exact N.o);rw[bk.o]at G aL K a3;obtain⟨au,aS⟩:=nm (ye a0 (.slice ad I aa));have bJ:Hd (au.size=68):=z0 (by rw[<-aS.o];exact zT _ a3.o);have bl:yP (.pointer (some ⟨F,0,none⟩)) wr=.ok (.value (.agg au)) wr:=by
       have h:=K.o.b1;unfold yr at h;rw[aS.o]at h;exact qH h bJ.o
      have bB:Hd (Calls prog 79 #[.agg au] wr fun e w'=>e=.returned (.agg (z2 (ZW a0)))/\Below wr.heap.size wr w'):=z0 (Yt (.agg au) a0 wr ⟨_,by rw[aS.o],a3.o,by rw[b9.o];exact aB.o.els Zk (fun _ _=>trivial)⟩ aL.o (bO.o wr K.o.bel));have cf:¬(I:Int)<(q:Int):=by omega
      clear aQ ah;go_wp2_with fail;refine bB.o.mono ?_;rintro e ap ⟨rfl,aI⟩;have a5:=z0 (K.o.below aI);have aO:=z0 (aB.o.below aI);clear bl aI c1 ai;obtain⟨cN,bI⟩:=nm (z2 (ZW a0));obtain⟨ak,aq⟩:=nm ({ a0 with tg:=ZW a0 }:vU);have aZ:Hd (ak.fr=SL):=z0 (by rw[<-aq.o];exact b9.o);have bq:Hd ak.Ok:=z0 (by rw[<-aq.o];exact⟨a3.o.pa,J3 _⟩);go_upto_region 24 with(refine kd rfl _ _ rfl rfl (by rw[bI.o];rfl) a5.o.b1 a3.o (J3 a0) ?_;intro a8 aT b4 bK)
      have J:Hd (xT w a8 F ak (.slice ad I aa)):=z0 (a5.o.att aT (by rw[<-aq.o];exact b4));have aj:=z0 (aO.o.far aT (Nat.lt_succ_self F));clear aT b4 bK;obtain⟨a9,aM⟩:=nm (ye ak (.slice ad I aa))
      have ar:Hd (a9.size=68/\a9.all (·.oneCell')=true):=z0 (by
       rw[<-aM.o]
       exact⟨zT _ bq.o,jt (w:=a8) (a:=ak) (by rw[aZ.o];exact aj.o.els Zk (fun _ _=>trivial))⟩)
      have bl:yP (.pointer (some ⟨F,0,none⟩)) a8=.ok (.value (.agg a9)) a8:=by
       have h:=J.o.b1;unfold yr at h;rw[aM.o]at h;exact qH h ar.o.1
      have al:=J.o.b0;unfold yr at al;rw[M.o]at al;have cv:=jk al a4.o ar.o.1 ar.o.2;have bQ:=z0 (vN (C:=a9) al);have bh:=z0 (aj.o.row (g:=w.heap.size) (C:=a9) (by have:=J.o.lt;omega));have b5:=z0 (jO (C:=a9) J.o.bel (Nat.le_refl w.heap.size));clear al;go_wp2_with fail;refine Bp (zY rfl _ _ _ _ _ _ rfl rfl bQ.o ar.o.1) rfl ?_;rw[<-aM.o]at bh b5⊢;rw[aq.o]at G;exact Yu G.o bq.o (by rw[aZ.o];exact bh.o.els Zk (fun _ _=>trivial)) b5.o
end
end Go.Proofs.YtjlinimnnbfmaaaGreatDoor
