/-
  BkCodeSame BkCodeMay BkCodePut: what each of them says stands at its head.
-/
import Derived.Test.YtjlinimnnbfmaaaGreatDoorPlBs8
import Derived.Test.YtjlinimnnbfmaaaGreatDoorPlBs6
set_option maxRecDepth 20000
set_option maxHeartbeats 6400000
namespace Go.Proofs.YtjlinimnnbfmaaaGreatDoor
open Go.RowKit Go.Proofs.Tryz
section
attribute [local go_sem ↓] jb zV JI
def ZQ (b:kR):Prop:=∀t∈b.txs,t.key.length<=1000000/\t.val.length<=1000000
theorem zbh {b:kR} (F:kj b YK=false) {i:Nat} (G:i<b.txs.length) (h:jC b.txs[i]=false):jV b=false:=by
 have ha:b.txs.all jC=false:=by
  rw[List.all_eq_false];exact⟨_,List.getElem_mem G,by simp[h]⟩
 unfold jV;rw[F,ha];rfl
theorem z8c {b:kR} (I:kj b YK=false) (h:∀j (F:j<b.txs.length),jC b.txs[j]=true):jV b=Qi b:=by
 have ha:b.txs.all jC=true:=by
  rw[List.all_eq_true];intro t G;obtain⟨j,F,rfl⟩:=List.getElem_of_mem G;exact h j F
 unfold jV;rw[I,ha];rfl
theorem X8 (v:Value) (b:kR) (w:World) (aw:Kw w v b) (aC:ZQ b):
  Calls prog 120 #[v] w fun e w'=>e=.returned (.bool (jV b))/\Below w.heap.size w w':=by
 have aq:=z0 aw;obtain⟨s,rfl,hp,aa⟩:=aw;have G:Below w.heap.size w (w.alloc (.cells (vS b s) 49)):=Ba;have J:=jX.new w b s;have a9:=aa.below G;obtain⟨A,c,rfl⟩:=aa.shape;obtain⟨C,K⟩:=nm (vS b (.slice A b.txs.length c))
 have O:Hd (∀W,Below w.heap.size w W->Calls prog 165 #[.agg C,.agg (vS YK (.slice none 0 0))] W fun e w'=>e=.returned (.bool (kj b YK))/\Below W.heap.size W w'):=z0 (fun W h=>by
  have:=aq.o.below h;rw[K.o]at this
  exact z2U _ _ b YK W this ⟨_,rfl,z2T,Xq.nil W⟩)
 obtain⟨Z,a4⟩:=nm (vS YK (.slice none 0 0));obtain⟨a1,M⟩:=nm (jV b);obtain⟨aL,N⟩:=nm (kj b YK);rw[a4.o,N.o]at O
 have az:Hd (∀W:World,jX W w.heap.size b (.slice A b.txs.length c)->kq (.pointer (some ⟨w.heap.size,0,none⟩)) W=.ok (.value (.agg C)) W):=z0 (fun W h=>by
  have:=z4d h hp;rw[K.o]at this
  exact this)
 have aE:∀W,Kx W=.ok (.value (.agg Z)) W:=fun W=>by rw[<-a4.o];exact z1W W
 rw[M.o,K.o];rw[K.o]at J G a9;clear aa aq;go_enter func120,ntmps120;go_upto_region 1 with(fail)
 generalize (w.alloc (.cells C 49))=w0 at *;have av:=J.lt;have l0:=az.o w0 J;go_wp2_with fail;refine(O.o w0 G).mono ?_;rintro e am ⟨rfl,ae⟩;clear l0 aE a4 O;have a7:=G.trans (ae.mono G.size);have a3:=J.below ae av;have ad:=a9.below ae;clear J a9;cases aL with
 |true=>
  go_wp2;go_ret;have e:a1=true:=by
   rw[<-M.o];unfold jV;rw[N.o];rfl
  subst e;exact⟨rfl,a7⟩
 |false=>
  go_wp2_with fail;obtain⟨L,F⟩:=nm (b.txs.length:Nat);have ak:=z0 a3;have ag:=z0 ad;have ar:=ad.len;rw[F.o]at ar;unfold maxLen at ar;have aB:=a3.lt;clear a3 ad av;rw[F.o]at ak ag;go_loopw [3] (fun a8 wr=>∃i:Nat,i<=L/\a8=.int .i64 i/\Hd (∀j (h:j<b.txs.length),j<i->jC b.txs[j]=true)/\Below am.heap.size am wr) (fun a8 _=>L - (intOf a8).toNat)
  case atStart=>exact⟨0,Nat.zero_le _,rfl,z0 (fun j _ h=>absurd h (by omega)),Below.refl _ _⟩
  case round=>
   obtain⟨i,aN,rfl,a5,I⟩:=hrel;have a0:=a7.trans (I.mono a7.size);have ah:=ak.o.below I aB;obtain⟨aj,af,an,aK⟩:=ah.cells hp;clear ah;by_cases aH:i<L
   ·have a2:i<b.txs.length:=by rw[F.o];exact aH
    obtain⟨_,aI,aD,aJ⟩:=(ag.o.below I).at_;obtain⟨ay,ax,rfl,aQ,ao⟩:=aJ (by omega);have aO:(i:Int)<(L:Int):=by omega
    have l1:kC (.pointer (some ⟨ay,ax+i*7,none⟩)) wr=.ok (.value (Yb b.txs[i])) wr:=jx (ao i a2);have a6:=aC _ (List.getElem_mem a2);have au:Hd (∀W,Calls prog 166 #[Yb b.txs[i]] W fun e w'=>e=.returned (.bool (jC b.txs[i]))/\Below W.heap.size W w'):=z0 (fun W=>z5t _ W a6.1 a6.2);obtain⟨X,ap⟩:=nm ((tcl b.txs[i]).toArray);obtain⟨m,ab⟩:=nm (jC b.txs[i]);rw[kA,ap.o]at l1;rw[kA,ap.o,ab.o]at au;clear ao a6 aI aD aj af an;go_wp2_with fail;refine(au.o wr).mono ?_;rintro e aP ⟨rfl,ai⟩;have aF:=I.trans (ai.mono I.size);have aM:=a0.trans (ai.mono a0.size);clear l1 aK;cases m with
    |false=>
     go_wp2;go_ret;have e:a1=false:=by
      rw[<-M.o];exact zbh N.o a2 ab.o
     subst e;exact⟨rfl,aM⟩
    |true=>
     go_wp2;go_roundw
     case rel=>
      refine⟨i+1,by omega,by go_num,z0 (fun j h al=>?_),aF⟩;by_cases aA:j<i
      ·exact a5.o j h aA
      ·obtain rfl:j=i:=by omega
       exact ab.o
     case measure=>simp[intOf];omega
   ·obtain rfl:i=L:=by omega
    have aG:Hd (a1=Qi b):=z0 (by
     rw[<-M.o]
     exact z8c N.o (fun j al=>a5.o j al (by have:=F.o;omega)))
    clear a5;obtain⟨par,vi,he,bo,txs⟩:=b;simp only at aj af an F;go_wp2_with fail;all_goals
     go_ret;refine⟨?_,a0⟩;refine congrArg (fun b=>Ending.returned (Value.bool b)) ?_;rw[aG.o];unfold Qi;simp only[F.o]
    all_goals grind
end
section
attribute [local go_sem ↓] jb
theorem z20 (L:List YJ) (i:Nat) (h:i<L.length):((L.take (i+1)).map qY).flatten=((L.take i).map qY).flatten ++ qY L[i]:=by
 rw[List.take_succ_eq_append_getElem h];simp only[List.map_append,List.map_cons,List.map_nil,List.flatten_append,List.flatten_cons,List.flatten_nil,List.append_nil]
theorem VJ (L:List YJ) (F:∀t∈L,jC t=true):(L.map qY).flatten.length<=L.length*300:=by
 induction L with
 |nil=>simp
 |cons t L ih=>
  have I:=Yc (F t (by simp));have J:=ih (fun u G=>F u (List.mem_cons_of_mem _ G));simp only[List.map_cons,List.flatten_cons,List.length_append,List.length_cons];omega
theorem z4o (v:Value) (b:kR) (w:World) (hv:Kw w v b) (hm:jV b=true):
  Calls prog 169 #[v] w fun e w'=>∃x,e=.returned x/\ql w.heap.size w' x (jc b)/\Below w.heap.size w w':=by
 obtain⟨s,rfl,hp,ht⟩:=hv;obtain⟨hall,h1,h2,h3,h4,h5,h6,h7⟩:=z07 hm;have HALL:=z0 hall;clear hall hm;have hb0:Below w.heap.size w (w.alloc (.cells (vS b s) 49)):=Ba;have hA:=jX.new w b s;have ht0:=ht.below hb0;obtain⟨A,c,rfl⟩:=ht.shape;obtain⟨L,HL⟩:=nm (b.txs.length:Nat);rw[HL.o]at h7;obtain⟨C,HC⟩:=nm (vS b (.slice A b.txs.length c));obtain⟨O,HO⟩:=nm (jc b);rw[HO.o];rw[HC.o]at hA hb0 ht0⊢;rw[HL.o]at hA ht0 HC;obtain⟨par,vi,he,bo,txs⟩:=b;simp only at h1 h2 h3 h4 h5 h6 hp HL HALL ht0;obtain⟨p,rfl⟩:=yy (i:=vi) h1;obtain⟨q,rfl⟩:=yy (i:=he) h3;obtain⟨o,rfl⟩:=yy (i:=bo) h5;have hp1:IntKind.u64.wrap (p:Int)=(p:Int):=qP _ (by omega) (by omega);have hq1:IntKind.u64.wrap (q:Int)=(q:Int):=qP _ (by omega) (by omega);have ho1:IntKind.u8.wrap (o:Int)=(o:Int):=by rw[IntKind.wrap_u8'];omega
 have hL1:IntKind.u8.wrap (L:Int)=(L:Int):=by rw[IntKind.wrap_u8'];omega
 have HNP:=z0 (fun w=>yc (p:Int) w (by omega) (by omega));have HNQ:=z0 (fun w=>yc (q:Int) w (by omega) (by omega));have HLP:=z0 (zk (n:=p) (by omega));have HLQ:=z0 (zk (n:=q) (by omega));have HDO:Hd (dg o=[UInt8.ofNat o]):=z0 (yx (by omega));have HDL:Hd (dg L=[UInt8.ofNat L]):=z0 (yx (by omega));have HYO:Hd ((o:Int)=((UInt8.ofNat o).toNat:Int)):=z0 (by rw[UInt8.toNat_ofNat'];omega);have HYL:Hd ((L:Int)=((UInt8.ofNat L).toNat:Int)):=z0 (by rw[UInt8.toNat_ofNat'];omega);have HBH:=z0 (fun w=>km par w hp);have HPL:=z0 hp;clear ht;go_enter func169,ntmps169;go_upto_region 1 with(fail)
 generalize (w.alloc (.cells C 49))=w0 at *;have hl0:=hA.lt
 have HX:Hd (∀W:World,Below w0.heap.size w0 W->W.rangeAt w.heap.size 0 (z4 par)/\W.cell? ⟨w.heap.size,32,none⟩=some (.int .i64 (p:Int))/\W.cell? ⟨w.heap.size,33,none⟩=some (.int .i64 (q:Int))/\W.cell? ⟨w.heap.size,34,none⟩=some (.int .i64 (o:Int))/\W.cell? ⟨w.heap.size,35,none⟩=some (.slice A L c)/\Xq W (.slice A L c) txs):=z0 (fun W h=>by
  have hW:=hA.below h hl0
  exact⟨hW.range,(hW.cells HPL.o).1,(hW.cells HPL.o).2.1,(hW.cells HPL.o).2.2.1,(hW.cells HPL.o).2.2.2,ht0.below h⟩)
 have hbd:Below w0.heap.size w0 w0.drew:=(Below.refl _ _).drew;have hu:=yH;have hsz:(prog.info? 38).map (·.size)=some (z4 par).length:=by rw[yG,z6,hp]
 have hs0:=hb0.size;clear hA ht0 hp;go_region_held3 (fun W=>W.rangeAt w.heap.size 0 (z4 par)/\W.cell? ⟨w.heap.size,32,none⟩=some (.int .i64 (p:Int)))
  (first
   |(refine⟨(HX.o _ hbd).1,(HX.o _ hbd).2.1⟩)
   |(refine⟨(HX.o _ hb5).1,(HX.o _ hb5).2.1⟩)
   |(refine⟨(HX.o _ hb4).1,(HX.o _ hb4).2.1⟩)
   |(refine⟨(HX.o _ hb3).1,(HX.o _ hb3).2.1⟩)
   |fail)
  (first
   |(refine qB (by rfl) (.tmp 7) (.tmp 11) (by rfl) (by rfl) (by rfl) (ho3.below hb4') ho4.byt (by have:=HLP.o;have:=HPL.o;rw[Int.toNat_natCast];omega) hb4.size ?_;intro v5 w5 ho5 hg5 _;have hb5:=hb4.grown hg5 hb4.size (fun q hq=>(World.ownsRow.lt ho3 q hq).1);clear hg5)
   |(go_at_call 142;(with_reducible refine(HNP.o w3).mono ?_);rintro e w4 ⟨v4,rfl,ho4,hb4'⟩;have hb4:=hb3.trans (hb4'.mono hb3.size))
   |(go_at_call 111;refine(HBH.o w0.drew).mono ?_;rintro e w3 ⟨v3,rfl,ho3,hb3'⟩;have hb3:=hbd.trans hb3')
   |fail)
 rw[Int.toNat_natCast]at ho4 ho5;have ho5':ql w0.heap.size w5 v5 (par ++ dg p):=ho5;have HL5:=z0 (show(par ++ dg p).length<=42 by rw[List.length_append];have:=HLP.o;have:=HPL.o;omega);clear ho3 ho4 ho5 hb3 hb4 hb3' hb4' HNP HBH hu hsz hbd hp1;have k5:=(HX.o w5 hb5).2.2.1;go_wp2_with fail;refine(HNQ.o w5).mono ?_;rintro e w6 ⟨v6,rfl,ho6,hb6'⟩;rw[Int.toNat_natCast]at ho6;have hb6:=hb5.trans (hb6'.mono hb5.size);have ho56:=ho5'.below hb6';clear k5 ho5' hb6' hq1;have hl7:(par ++ dg p).length+(dg q).length<=140737488355328:=by have:=HL5.o;have:=HLQ.o;omega
 have HL7:=z0 (show(par ++ dg p ++ dg q).length<=52 by rw[List.length_append];have:=HL5.o;have:=HLQ.o;omega);have HBY:=z0 (fun w=>z98 w (o:Int) (L:Int) (UInt8.ofNat o) (UInt8.ofNat L) HYO.o HYL.o);have hl8:(par ++ dg p ++ dg q).length + [UInt8.ofNat o,UInt8.ofNat L].length<=140737488355328:=by have:=HL7.o;simp only[List.length_cons,List.length_nil];omega
 go_wp2_with (first
  |(at_builtin;refine z9 rfl (.tmp 13) (.tmp 17) rfl rfl rfl ho56 ho6.byt hl7 hb6.size ?_;intro v7 w7 ho7 hg7 hv7;have hb7:=hb6.grown hg7 hb6.size (fun q hq=>(World.ownsRow.lt ho56 q hq).1);have m3:=(HX.o w7 hb7).2.2.2.1;have m4:=(HX.o w7 hb7).2.2.2.2.1;clear hg7 hv7)
  |(at_builtin;refine z9 rfl (.tmp 19) (.tmp 27) rfl rfl rfl (ho7.alloc _) (HBY.o w7) hl8 (Nat.le_trans hb7.size (yL w7 _)) ?_;intro v8 w8 ho8 hg8 hv8;have hb8:=(hb7.alloc hb7.size _).grown hg8 (Nat.le_trans hb7.size (yL w7 _)) (fun q hq=>(World.ownsRow.lt ho7 q hq).1);clear hg8 hv8))
 clear ho6 ho56 hl7 hb5 hb6;obtain⟨P,HP⟩:=nm (par ++ dg p ++ dg q ++ [UInt8.ofNat o,UInt8.ofNat L]:List UInt8);rw[HP.o]at ho8;have HPL2:Hd (P.length<=54):=z0 (by rw[<-HP.o,List.length_append];have:=HL7.o;simp only[List.length_cons,List.length_nil];omega);clear ho7 hb7 m3 m4 HBY hl8 ho1 hL1;have HTL:Hd ((txs.map qY).flatten.length<=L*300):=z0 (by have:=VJ txs HALL.o;rw[HL.o]at this;exact this)
 have HTK:Hd (∀i,i<=L->((txs.take i).map qY).flatten.length<=i*300):=z0 (fun i hi=>by
  have:=VJ (txs.take i) (fun t ht=>HALL.o t (List.mem_of_mem_take ht));rw[List.length_take,HL.o,Nat.min_eq_left hi]at this
  exact this)
 go_loopw [3,4] (fun out si wr=>∃i:Nat,i<=L/\si=.int .i64 i/\ql w0.heap.size wr out (P ++ ((txs.take i).map qY).flatten)/\Below w0.heap.size w0 wr) (fun _ si _=>L - (intOf si).toNat)
 case atStart=>exact⟨0,by omega,rfl,by rw[List.take_zero,List.map_nil,List.flatten_nil,List.append_nil];exact ho8,hb8⟩
 case round=>
  obtain⟨i,hi,rfl,hown,hB⟩:=hrel;clear ho8 hb8;obtain⟨_,_,_,_,m4,m5⟩:=HX.o wr hB;by_cases hlt:i<L
  ·have hih:i<txs.length:=by rw[HL.o];exact hlt
   obtain⟨ba,oa,rfl,hba,hcla⟩:=m5.at_.2.2.2 (by omega);have hI:(i:Int)<(L:Int):=by omega
   have l1:kC (.pointer (some ⟨ba,oa+i*7,none⟩)) wr=.ok (.value (Yb txs[i])) wr:=jx (hcla i hih);have HBT:Hd (∀W,Calls prog 199 #[Yb txs[i]] W fun e w'=>∃x,e=.returned x/\ql W.heap.size w' x (qY txs[i])/\Below W.heap.size W w'):=z0 (fun W=>z2G _ W (HALL.o _ (List.getElem_mem hih)));have hbl:=Yc (HALL.o _ (List.getElem_mem hih));obtain⟨X,HX1⟩:=nm ((tcl txs[i]).toArray);rw[kA,HX1.o]at l1 HBT;have hfl:=HTK.o i hi;have hlen:(P ++ ((txs.take i).map qY).flatten).length+(qY txs[i]).length<=140737488355328:=by rw[List.length_append];have:=HPL2.o;omega
   have HNEW:=z0 (z20 txs i hih);clear hcla m5 hbl hfl;go_wp2_with fail;refine(HBT.o wr).mono ?_;rintro e w9 ⟨v9,rfl,ho9,hb9'⟩;have hb9:=hB.trans (hb9'.mono hB.size);have hown9:=hown.below hb9';clear l1 m4;go_wp2_with (at_builtin;refine z9 rfl (.tmp 36) (.tmp 42) rfl rfl rfl hown9 ho9.byt hlen hb9.size ?_;intro v10 w10 ho10 hg10 hv10;have hb10:=hb9.grown hg10 hb9.size (fun q hq=>(World.ownsRow.lt hown9 q hq).1);clear hg10 hv10);rw[List.append_assoc,<-HNEW.o]at ho10;go_roundw
   case rel=>exact⟨i+1,by omega,by go_num,ho10,hb10⟩
   case measure=>simp[intOf];omega
  ·obtain rfl:i=L:=by omega
   clear m5;go_wp2;go_ret;rw[List.take_of_length_le (by rw[HL.o];exact Nat.le_refl _)]at hown;refine⟨_,rfl,?_,hb0.trans (hB.mono hs0)⟩;have e:P ++ (txs.map qY).flatten=O:=by
    rw[<-HO.o,<-HP.o];unfold jc;simp only[Int.toNat_natCast,HDO.o,HL.o,HDL.o,List.append_assoc,List.cons_append,List.nil_append]
   rw[e]at hown;exact hown.more hs0
end
section
attribute [local go_sem ↓] zV
def QO:List UInt8:=[98,108,111,99,107]
theorem z4p (w:World):zP (w.alloc (.cells #[.int .u8 98,.int .u8 108,.int .u8 111,.int .u8 99,.int .u8 107] 5 (5,6))) (.slice (some ⟨w.heap.size,0,none⟩) 5 5) QO:=
 Jm (l:=QO) (Xh w _) (by decide)
theorem z21 {w:World}{a:Addr}{n c:Nat}{l:List UInt8} (h:zP w (.slice (some a) n c) l):∀j u,(z4 l)[j]?=some u->w.cell? (a.add j)=some u:=fun j u G=>by
 obtain⟨F,rfl⟩:=xG l j u G;obtain⟨b,J,e,_,I⟩:=h.at_.2.2.2 (by omega);injection e with e;subst e;rw[y9];exact I j F
noncomputable def VK (b:kR) (j:Nat):UInt8:=if jV b=true/\b.vi≠0 then xy (QO ++ jc b) j else 0
theorem z0j {b:kR} (hp:b.par.length=32) (G:jV b=true):(jc b).length<=3000:=by
 obtain⟨F,a0,a3,J,O,a2,a4,I⟩:=z07 G;have K:=VJ b.txs F;have a5:=zk (n:=b.vi.toNat) (by omega);have M:=zk (n:=b.he.toNat) (by omega);have N:=zk (n:=b.bo.toNat) (by omega);have a1:=zk (n:=b.txs.length) (by omega);unfold jc;simp only[List.length_append];omega
theorem z5S {b:kR} (hp:b.par.length=32):0<(jc b).length:=by
 unfold jc;simp only[List.length_append];omega
theorem z30 (v:Value) (b:kR) (w:World) (hv:Kw w v b) (hlk:ZQ b) (hK:yB 0 w):
  Calls prog 122 #[v] w fun e w'=>e=.returned (.agg (z1 32 fun j=>z3 (VK b j)))/\Below w.heap.size w w':=by
 have HV:=z0 hv;obtain⟨s,rfl,hp,ht⟩:=hv;obtain⟨A,c,rfl⟩:=ht.shape;obtain⟨C,HC⟩:=nm (vS b (.slice A b.txs.length c));obtain⟨D,HD⟩:=nm ((fun j=>z3 (VK b j)));have hD1:∀i,i<32->(D i).oneCell'=true:=by rw[<-HD.o];intro i _;rfl
 have hr0:=Zj w (.cells C 49) (.cells (z1 32 fun _=>z3 0) 38);have hH0:zK ((w.alloc (.cells C 49)).alloc (.cells (z1 32 fun _=>z3 0) 38)) (w.heap.size+1) 32 (fun _=>z3 0) 38:=kT w (.cells C 49) _;have hb0:Below w.heap.size w ((w.alloc (.cells C 49)).alloc (.cells (z1 32 fun _=>z3 0) 38)):=Ba.alloc (by simp) _;have HKB:=z0 (fun W (h:Below w.heap.size w W)=>(show yB 0 W from hK.below h))
 have HMA:Hd (∀W,Below w.heap.size w W->Calls prog 120 #[.agg C] W fun e w'=>e=.returned (.bool (jV b))/\Below W.heap.size W w'):=z0 (fun W h=>by
  have:=HV.o.below h;rw[HC.o]at this
  exact X8 _ b W this hlk)
 have HPT:Hd (jV b=true->∀W,Below w.heap.size w W->Calls prog 169 #[.agg C] W fun e w'=>∃x,e=.returned x/\ql W.heap.size w' x (jc b)/\Below W.heap.size W w'):=z0 (fun hm W h=>by
  have:=HV.o.below h;rw[HC.o]at this
  exact z4o _ b W this hm)
 have HBX:Hd (∀W:World,W.heap[w.heap.size]?=some (.cells C 49 (0,0))->W.cell? ⟨w.heap.size,32,none⟩=some (.int .i64 b.vi)/\kq (.pointer (some ⟨w.heap.size,0,none⟩)) W=.ok (.value (.agg C)) W):=z0 (fun W h=>by
  rw[<-HC.o]at h⊢
  exact⟨(jX.cells (g:=w.heap.size) (b:=b) (s:=.slice A b.txs.length c) h hp).1,z4d h hp⟩)
 have HBL:Hd (jV b=true->(jc b).length<=3000):=z0 (fun hm=>z0j hp hm);obtain⟨m,HM⟩:=nm (jV b);rw[HM.o]at HMA;have HWO:=z0 z4p;have HPP:=z0 (z5S hp);rw[HC.o,HD.o];obtain⟨n,HN⟩:=nm (b.vi);rw[HN.o]at HBX;clear HV ht hK hlk;go_enter func122,ntmps122;go_upto_region 1 with(refine zb qo rfl rfl ?_)
 generalize ((w.alloc (.cells C 49)).alloc (.cells (z1 32 fun _=>z3 0) 38))=w0 at *;have hl0:=Lb hr0;have HR0:=z0 hr0;have l0:=(HBX.o w0 hr0).2;clear hr0;go_wp2_with fail;refine(HMA.o w0 hb0).mono ?_;rintro e w1 ⟨rfl,hb1⟩;have hH1:=hH0.keep hb1;have hB1:=hb0.trans (hb1.mono hb0.size);obtain⟨k1,l1⟩:=HBX.o w1 ((hb1.block _ hl0).trans HR0.o);clear l0 hH0;by_cases hgo:m=true/\n≠0
 ·obtain⟨rfl,hn⟩:=hgo;have hn0:(n == 0)=false:=by simpa using hn
  have HDM:Hd (D=fun j=>z3 (xy (QO ++ jc b) j)):=z0 (by
   rw[<-HD.o]
   funext j
   unfold VK
   rw[if_pos ⟨HM.o,by rw[HN.o];exact hn⟩])
  clear hn;have how:=HWO.o w1;have hb1w:Below w1.heap.size w1 (w1.alloc (.cells #[.int .u8 98,.int .u8 108,.int .u8 111,.int .u8 99,.int .u8 107] 5 (5,6))):=Ba;have l2:=(HBX.o _ ((hb1w.block _ (Nat.lt_of_lt_of_le hl0 hb1.size)).trans ((hb1.block _ hl0).trans HR0.o))).2;have hcv:=Go.Lib.run_convert_bytes_const (P:=prog) w1 33 5 #[.int .u8 98,.int .u8 108,.int .u8 111,.int .u8 99,.int .u8 107] 5 5 zG underlying5;go_wp2_with fail;have hBw:=hB1.trans (hb1w.mono hB1.size);refine(HPT.o HM.o _ hBw).mono ?_;rintro e w2 ⟨x,rfl,ho2,hb2⟩;have hb2':=hb1w.trans (hb2.mono hb1w.size);have hB2:=hB1.trans (hb2'.mono hB1.size);have hH2:=hH1.keep hb2';have hlen:QO.length+(jc b).length<=140737488355328:=by have:=HBL.o HM.o;simp only[QO,List.length_cons,List.length_nil];omega
  have hby2:=ho2.byt;obtain⟨A2,c2,rfl⟩:=hby2.shape;obtain⟨b2,o2,rfl,_,_⟩:=hby2.at_.2.2.2 HPP.o;have HCO:=z0 (z21 (how.below hb2));have HCN:=z0 (z21 hby2);obtain⟨O,HO⟩:=nm (jc b);have HOL:Hd (O.length<=3000):=z0 (by rw[<-HO.o];exact HBL.o HM.o);have HOP:Hd (0<O.length):=z0 (by rw[<-HO.o];exact HPP.o);rw[HO.o]at HCN HDM⊢;obtain⟨xl,HXL⟩:=nm (O.length:Nat);have HB2:=z0 hB2;have HH2:=z0 hH2;have HLE:=z0 hb2'.size;have HL1:=z0 hb1.size;have HL0:=z0 hb0.size;obtain⟨i0,hi,hz0,hz1,hz2⟩:=info_parts vV;rw[HXL.o];clear l1 l2 k1 hb2 how hb1w hBw hH1 hn0 hcv hlen hby2 ho2 hH2 hB2 hb2' hB1 hb1 hb0;go_wp2_with (at_builtin;refine wpList_append_grows w2 rfl (.tmp 13) (.tmp 15) 33 rfl 5 i0 (.int .u8 0) 1 1 zG hi hz0 hz1 hz2 rfl (by decide) (some ⟨w1.heap.size,0,none⟩) 5 5 (z4 QO) rfl (by simp) rfl (fun b hb=>by injection hb with hb;subst hb;exact HCO.o) ⟨b2,o2,none⟩ xl c2 (z4 O) rfl (by rw[z6,HXL.o,Nat.mul_one]) HCN.o (yb _) (by have:=HOP.o;have:=HXL.o;omega) (by have:=HOL.o;have:=HXL.o;unfold maxLen;omega) (by have:=HOL.o;have:=HXL.o;omega) ?_;intro v3 w3 hown3 hg3);have hown:ql w2.heap.size w3 v3 (QO ++ O):=by
   unfold ql;rw[jv,List.length_append,HXL.o];exact hown3
  have hb3:Below w.heap.size w w3:=HB2.o.grown hg3 HB2.o.size (fun k hk=>by cases hk);have hR3:=HH2.o.grown hg3 (fun e=>by cases e);have hK3:=HKB.o _ hb3;clear hown3 hg3 hi hz0 hz1 hz2;refine(QH v3 _ w3 hown.byt (by rw[List.length_append];have:=HOL.o;simp only[QO,List.length_cons,List.length_nil];omega) hK3).mono ?_;rintro e w4 ⟨rfl,hb4⟩;have hR4:=hR3.keep hb4;have hb4':=hb3.trans (hb4.mono hb3.size);clear hown hb3 hR3 hK3 hb4;go_wp2_with (refine z8 qo rfl _ _ rfl rfl rfl hR4 (fun _ _=>rfl) ?_;intro w9 hg9 hA9 hs9);refine Bp (qo.result rfl _ _ rfl hA9) rfl ⟨by rw[HDM.o],?_⟩;exact zh hb4' (Nat.le_succ _) hg9 hb4'.size
 ·have HDM:Hd (D=fun _=>z3 0):=z0 (by
   rw[<-HD.o]
   funext j
   unfold VK
   rw[if_neg (by rw[HM.o,HN.o];exact hgo)])
  have hway:m=false\/(m=true/\n=0):=by
   cases m
   ·exact .inl rfl
   ·right;refine⟨rfl,?_⟩;by_cases h:n=0
    ·exact h
    ·exact absurd ⟨rfl,h⟩ hgo
  clear hgo l1;obtain rfl|⟨rfl,rfl⟩:=hway
  ·go_wp2_with (first
    |(refine qa qo rfl rfl ?_)
    |(refine z8 qo rfl _ _ rfl rfl rfl hH1 (fun _ _=>rfl) ?_;intro wA hgA hAA hsA))
   refine Bp (qo.result rfl _ _ rfl hAA) rfl ⟨by rw[HDM.o],?_⟩;exact zh hB1 (Nat.le_succ _) hgA hB1.size
  ·go_wp2_with (first
    |(refine qa qo rfl rfl ?_)
    |(refine z8 qo rfl _ _ rfl rfl rfl hH1 (fun _ _=>rfl) ?_;intro wA hgA hAA hsA))
   refine Bp (qo.result rfl _ _ rfl hAA) rfl ⟨by rw[HDM.o],?_⟩;exact zh hB1 (Nat.le_succ _) hgA hB1.size
end
noncomputable def z31 (w : World) : Result Next := Sem.run prog (execOp (fun _ => undef) { dst := none, op := .alloc 49, type := 0, pos := "", after := #[], guard := none }) w
theorem z1m (r:Operand->Value) (dst:Option Tmp) (ty:TypeId) (pos:String) (after:Array Edge) (guard:Option (Nat×Bool)) (w:World):
  Sem.run prog (execOp r { dst:=dst,op:=.alloc 49,type:=ty,pos:=pos,after:=after,guard:=guard }) w=z31 w:=rfl
theorem z8d (w:World):z31 w=.ok (.value (.pointer (some ⟨w.heap.size,0,none⟩))) (w.alloc (.cells (vS YK (.slice none 0 0)) 49)):=by
 unfold z31 execOp;simp only[Sem.run_bind,Instr.alloc,z4e,newVar,newRow,run_newObj_alloc,Sem.run_pure,Result.andThen_ok,Value.cells]
noncomputable def z33 (p v:Value) (w:World):Result Next:=Sem.run prog (execOp (fun x=>match x with
 | .tmp 0=>p
 | _ => v) { dst := none, op := .store 49 (.tmp 0) (.tmp 1), type := 0, pos := "", after := #[], guard := none }) w
theorem z1n (r:Operand->Value) (x y:Operand) (dst:Option Tmp) (ty:TypeId) (pos:String) (after:Array Edge) (guard:Option (Nat×Bool)) (w:World):
  Sem.run prog (execOp r { dst:=dst,op:=.store 49 x y,type:=ty,pos:=pos,after:=after,guard:=guard }) w=z33 (r x) (r y) w:=rfl
def zcG (w:World) (g:Nat) (C:Array Value):World:=w.setRow g C
theorem zbi {w:World}{b:kR}{s:Value} (h:Xq w s b.txs):(vS b s).all (·.oneCell')=true:=by
 obtain⟨A,c,rfl,_⟩:=h;unfold vS;refine all_oneCell_toArray ?_;intro u F;rcases List.mem_append.1 F with F|F
 ·exact yb _ u F
 ·simp only[List.mem_cons,List.not_mem_nil,or_false]at F;obtain rfl|rfl|rfl|rfl:=F <;> rfl
theorem z8e {w:World}{g:Nat}{t:TypeId}{C0 C:Array Value} (hg:w.heap[g]?=some (.cells C0 t (0,0))) (I:C0.size=36) (F:C.size=36) (G:C.all (·.oneCell')=true):
  z33 (.pointer (some ⟨g,0,none⟩)) (.agg C) w=.ok .skip (zcG w g C):=by
 have:=run_storeVar_row (P:=prog) w g t 49 C0 C hg (by rw[XG,F]) (by rw[I,F]) G;unfold z33 execOp;simp only[Instr.storeAt,Instr.sureAddr,Sem.run_bind,Sem.run_pure,Result.andThen_ok,this];rfl
theorem z8f {w:World}{g:Nat}{t:TypeId}{C:Array Value}{fr:Nat×Nat} (hg:w.heap[g]?=some (.cells C t fr)):zcG w g C=w:=by
 have e:∀f:Obj->Obj,f (.cells C t fr)=.cells C t fr->w.heap.modify g f=w.heap:=by
  intro f F;apply Array.ext_getElem?;intro k;rw[Array.getElem?_modify];by_cases h:g=k
  ·subst h;rw[if_pos rfl,hg];simp[F]
  ·rw[if_neg h]
 unfold zcG World.setRow;rw[e _ rfl]
section
attribute [local go_sem ↓] jb
def Xs (b:kR):Bool:=decide (b.txs.length<=20) && b.txs.all z1h
theorem z5T {b:kR} (h:Xs b=true):∀t∈b.txs,t.key.length<=100/\t.val.length<=400:=by
 unfold Xs at h;rw[Bool.and_eq_true]at h;intro t F;have:=List.all_eq_true.1 h.2 t F;unfold z1h at this
 simpa using this
theorem z22 {b:kR} (h:Xs b=true):ZQ b:=fun t F=>by
 have:=z5T h t F;omega
def z8g:Prop:=∀(v:Value) (b:kR) (w:World),Kw w v b->ZQ b->Calls prog 112 #[v] w fun e w'=>e=.returned (.int .i64 (if jV b=true then 0 else 1))/\Below w.heap.size w w'
def z9J:Prop:=∀(v:Value) (b:kR) (w:World),Kw w v b->ZQ b->yB 1 w->Calls prog 116 #[v] w fun e w'=>e=.returned (.agg (z1 32 fun j=>z3 (VK b j)))/\Below w.heap.size w w'
def z8h:Prop:=∀(w:World),Calls prog 114 #[] w fun e w'=>∃x,e=.returned x/\Kw w' x YK/\Below w.heap.size w w'
def z9K:Prop:=∀(G F:Value) (a b:kR) (w:World),Kw w G a->Kw w F b->Calls prog 113 #[G,F] w fun e w'=>e=.returned (.bool (kj a b))/\Below w.heap.size w w'
theorem z5U (v:Value) (b:kR) (w:World) (am:Kw w v b) (a9:∀t∈b.txs,t.key.length<=maxLen/\t.val.length<=maxLen):
  Calls prog 50 #[v] w fun e w'=>e=.returned (.bool (Xs b))/\Below w.heap.size w w':=by
 obtain⟨s,rfl,hp,G⟩:=am;have a1:Below w.heap.size w (w.alloc (.cells (vS b s) 49)):=Ba;have O:=jX.new w b s;have a2:=G.below a1;obtain⟨A,c,rfl⟩:=G.shape;obtain⟨C,ae⟩:=nm (vS b (.slice A b.txs.length c));obtain⟨L,M⟩:=nm (b.txs.length:Nat);obtain⟨J,a4⟩:=nm (Xs b);have af:=G.len;rw[M.o]at af;unfold maxLen at af;rw[a4.o,ae.o];rw[ae.o]at O a1 a2;rw[M.o]at O a2;have ab:=z0 a9;clear G a9;go_enter func50,ntmps50;go_upto_region 1 with(fail)
 generalize (w.alloc (.cells C 49))=w0 at *;have ai:=z0 O;have ao:=z0 a2;have al:=O.lt;clear O a2;go_wp2_with fail;go_loopw [3] (fun a3 wr=>∃i:Nat,i<=L/\i<=21/\a3=.int .i64 i/\Hd (∀j (h:j<b.txs.length),j<i->z1h b.txs[j]=true)/\Below w0.heap.size w0 wr) (fun a3 _=>L - (intOf a3).toNat)
 case atStart=>exact⟨0,Nat.zero_le _,Nat.zero_le _,rfl,z0 (fun j _ h=>absurd h (by omega)),Below.refl _ _⟩
 case round=>
  obtain⟨i,ax,aA,rfl,a7,K⟩:=hrel;have I:=a1.trans (K.mono a1.size);have an:=((ai.o.below K al).cells hp).2.2.2;by_cases N:i<L/\i<=20
  ·obtain⟨N,F⟩:=N;have a0:i<b.txs.length:=by rw[M.o];exact N
   obtain⟨ak,aj,rfl,az,aa⟩:=(ao.o.below K).at_.2.2.2 (by omega);have ar:(i:Int)<(L:Int):=by omega
   have ap:(i:Int)<=20:=by omega
   have l1:kC (.pointer (some ⟨ak,aj+i*7,none⟩)) wr=.ok (.value (Yb b.txs[i])) wr:=jx (aa i a0);have a8:Hd (∀W,Calls prog 88 #[Yb b.txs[i]] W fun e w'=>e=.returned (.bool (z1h b.txs[i]))/\Below W.heap.size W w'):=z0 (fun W=>z5E _ W (ab.o _ (List.getElem_mem a0)).1 (ab.o _ (List.getElem_mem a0)).2);obtain⟨X,ad⟩:=nm ((tcl b.txs[i]).toArray);obtain⟨m,a6⟩:=nm (z1h b.txs[i]);rw[kA,ad.o]at l1;rw[kA,ad.o,a6.o]at a8;clear aa;go_wp2_with fail;refine(a8.o wr).mono ?_;rintro e ay ⟨rfl,ah⟩;have au:=K.trans (ah.mono K.size);have aq:=I.trans (ah.mono I.size);clear l1 an;cases m with
   |false=>
    go_wp2;go_ret;have e:J=false:=by
     rw[<-a4.o];unfold Xs;have:b.txs.all z1h=false:=by
      rw[List.all_eq_false];exact⟨_,List.getElem_mem a0,by simp[a6.o]⟩
     rw[this,Bool.and_false]
    subst e;exact⟨rfl,aq⟩
   |true=>
    go_wp2;go_roundw
    case rel=>
     refine⟨i+1,by omega,by omega,by go_num,z0 (fun j h ag=>?_),au⟩;by_cases av:j<i
     ·exact a7.o j h av
     ·obtain rfl:j=i:=by omega
      exact a6.o
    case measure=>simp[intOf];omega
  ·have a5:Hd (J=decide ((L:Int)<=20)):=z0 (by
    rw[<-a4.o];unfold Xs;rw[M.o];by_cases F:L<=20
    ·have aw:i=L:=by omega
     have:b.txs.all z1h=true:=by
      rw[List.all_eq_true];intro t G;obtain⟨j,ag,rfl⟩:=List.getElem_of_mem G;exact a7.o j ag (by have:=M.o;omega)
     rw[this,decide_eq_true F,decide_eq_true (by omega)];rfl
    ·rw[decide_eq_false F,decide_eq_false (by omega)]
     rfl)
   clear a7;by_cases ar:(i:Int)<(L:Int)
   ·have ap:¬(i:Int)<=20:=by omega
    have F:¬(L:Int)<=20:=by omega
    obtain rfl:J=false:=by rw[a5.o];exact decide_eq_false F
    clear N;go_wp2;go_ret;exact⟨rfl,I⟩
   ·clear N;by_cases F:(L:Int)<=20
    ·obtain rfl:J=true:=by rw[a5.o];exact decide_eq_true F
     go_wp2;go_ret;exact⟨rfl,I⟩
    ·obtain rfl:J=false:=by rw[a5.o];exact decide_eq_false F
     go_wp2;go_ret;exact⟨rfl,I⟩
end
section
attribute [local go_sem ↓] jb zf
theorem z6d (ae aa:Value) (F G:List YJ) (w0:World) (M:Xq w0 ae F) (K:Xq w0 aa G):
  Calls prog 159 #[ae,aa] w0 fun e w'=>e=.returned (.bool (decide (F=G)))/\Below w0.heap.size w0 w':=by
 obtain⟨a3,O⟩:=nm (decide (F=G));rw[O.o];obtain⟨aG,aB,rfl⟩:=M.shape;obtain⟨aD,aE,rfl⟩:=K.shape;obtain⟨I,J⟩:=nm (F.length:Nat);obtain⟨ab,N⟩:=nm (G.length:Nat);have af:=M.len;have ah:=K.len;rw[J.o]at M af⊢;rw[N.o]at K ah⊢;unfold maxLen at af ah;by_cases a5:I=ab
 ·subst a5;have a8:((I:Int) != (I:Int))=false:=by simp
  obtain⟨_,av,az,a6⟩:=M.at_;obtain⟨_,aq,am,ai⟩:=K.at_;rw[J.o]at av;rw[N.o]at aq;unfold maxLen at az am;have aj:=z0 a6;have ak:=z0 ai;clear a6 ai M K;go_enter func159,ntmps159;go_wp2_with fail;clear a8;go_loopw [13] (fun a4 wr=>∃i:Nat,i<=I/\a4=.int .i64 i/\Hd (∀j (h:j<F.length) (a2:j<G.length),j<i->F[j]=G[j])/\∃n,wr=w0.drewN n) (fun a4 _=>I - (intOf a4).toNat)
  case atStart=>exact⟨0,Nat.zero_le _,rfl,z0 (fun j _ _ h=>absurd h (by omega)),0,rfl⟩
  case round=>
   obtain⟨i,aF,rfl,ag,n,rfl⟩:=hrel;by_cases a9:i<I
   ·have ao:i<F.length:=by rw[J.o];exact a9
    have ax:i<G.length:=by rw[N.o];exact a9
    obtain⟨al,ap,rfl,aI,a7⟩:=aj.o (by omega);obtain⟨aA,aw,rfl,aC,ad⟩:=ak.o (by omega);have l1:∀k,kC (.pointer (some ⟨al,ap+i*7,none⟩)) (w0.drewN k)=.ok (.value (Yb F[i])) (w0.drewN k):=fun k=>jx (a7 i ao);have an:∀k,kC (.pointer (some ⟨aA,aw+i*7,none⟩)) (w0.drewN k)=.ok (.value (Yb G[i])) (w0.drewN k):=fun k=>jx (ad i ax);have aH:(i:Int)<(I:Int):=by omega
    have a0:∀W,(Op.equalIn 10000 152 (Yb F[i]) (Yb G[i])).run prog W=.ok (decide (F[i]=G[i])) W:=fun W=>z9C _ _ W;clear a7 ad;obtain⟨X,ar⟩:=nm ((tcl F[i]).toArray);obtain⟨Y,au⟩:=nm ((tcl G[i]).toArray);rw[kA,ar.o]at l1 a0;rw[kA,au.o]at an a0;by_cases a1:F[i]=G[i]
    ·rw[decide_eq_true a1]at a0;go_wp2_with fail;go_quiet (fail);go_wp2;go_roundw
     case rel=>
      refine⟨i+1,by omega,by go_num,z0 (fun j h a2 aJ=>?_),_,rfl⟩;by_cases ay:j<i
      ·exact ag.o j h a2 ay
      ·obtain rfl:j=i:=by omega
       exact a1
     case measure=>simp[intOf];omega
    ·rw[decide_eq_false a1]at a0;go_wp2_with fail;go_quiet (fail);go_wp2;go_ret;have e:a3=false:=by
      rw[<-O.o];exact decide_eq_false (fun e=>by subst e;exact a1 rfl)
     subst e;exact⟨rfl,zA (zA (Below.refl _ _) _) _⟩
   ·obtain rfl:i=I:=by omega
    go_wp2;go_ret;have e:a3=true:=by
     rw[<-O.o];exact decide_eq_true (List.ext_getElem (by rw[J.o,N.o]) fun j h a2=>ag.o j h a2 (by have:=J.o;omega))
    subst e;exact⟨rfl,zA (Below.refl _ _) n⟩
 ·have a8:((I:Int) != (ab:Int))=true:=by simp;omega
  obtain rfl:a3=false:=by
   rw[<-O.o];exact decide_eq_false (fun e=>by rw[e]at J;exact a5 (J.o.symm.trans N.o))
  clear a5 M K;go_enter func159,ntmps159;go_wp2;go_ret;exact⟨rfl,Below.refl _ _⟩
theorem z2c:z9K:=by
 intro F J a b w aC aw;obtain⟨sa,rfl,a4,ap⟩:=aC;obtain⟨sb,rfl,a5,ag⟩:=aw;have G:Below w.heap.size w ((w.alloc (.cells (vS a sa) 49)).alloc (.cells (vS b sb) 49)):=Ba.alloc (by simp) _;have a6:jX ((w.alloc (.cells (vS a sa) 49)).alloc (.cells (vS b sb) 49)) w.heap.size a sa:=(Below.heap_alloc _ _ _ (by simp)).trans (Xh w _);have aa:jX ((w.alloc (.cells (vS a sa) 49)).alloc (.cells (vS b sb) 49)) (w.heap.size+1) b sb:=jX.two w _ b sb;have ab:=ap.below G;have a8:=ag.below G;obtain⟨ax,ai⟩:=nm (vS a sa);obtain⟨ay,ar⟩:=nm (vS b sb);rw[ai.o,ar.o]at a6 aa G ab a8⊢;obtain⟨a0,M⟩:=nm (kj a b);rw[M.o];go_enter func113,ntmps113;go_upto_region 1 with(fail)
 generalize ((w.alloc (.cells ax 49)).alloc (.cells ay 49))=w0 at *;clear ai ar ap ag;obtain⟨av,aq,an,ak⟩:=a6.cells a4;obtain⟨b1,b2,b3,al⟩:=aa.cells a5;have am:=zD a6.range a4;have ao:=zD aa.range a5;have a9:=xX a.par b.par a4 a5 w0;clear a6 aa;obtain⟨q,a2⟩:=nm (decide (a.par=b.par));rw[a2.o]at a9;obtain⟨aE,aj⟩:=nm (z2 a.par);obtain⟨aG,ah⟩:=nm (z2 b.par);rw[aj.o]at am a9;rw[ah.o]at ao a9;clear aj ah;obtain⟨pa,F,ha,N,ae⟩:=a;obtain⟨aA,J,a1,a3,af⟩:=b;simp only at av aq an ak b1 b2 b3 al ab a8 a2 a4 a5;have az:(q=false)\/(q=true/\F≠J)\/(q=true/\F=J/\ha≠a1)\/(q=true/\F=J/\ha=a1/\N≠a3)\/(q=true/\F=J/\ha=a1/\N=a3):=by
  cases q
  ·exact .inl rfl
  ·right;by_cases I:F=J
   ·right;by_cases K:ha=a1
    ·right;by_cases O:N=a3
     ·exact .inr ⟨rfl,I,K,O⟩
     ·exact .inl ⟨rfl,I,K,O⟩
    ·exact .inl ⟨rfl,I,K⟩
   ·exact .inl ⟨rfl,I⟩
 obtain rfl|⟨rfl,I⟩|⟨rfl,rfl,K⟩|⟨rfl,rfl,rfl,O⟩|⟨rfl,rfl,rfl,rfl⟩:=az
 ·obtain rfl:a0=false:=by
   rw[<-M.o];exact jU (fun e=>by injection e with e _;exact of_decide_eq_false a2.o e)
  go_wp2;go_ret;exact⟨rfl,G⟩
 ·obtain rfl:a0=false:=by
   rw[<-M.o];exact jU (fun e=>by injection e with _ e _;exact I e)
  have a7:(F == J)=false:=by simpa using I
  clear I;go_wp2;go_ret;exact⟨rfl,G⟩
 ·obtain rfl:a0=false:=by
   rw[<-M.o];exact jU (fun e=>by injection e with _ _ e _;exact K e)
  have a7:(F == F)=true:=by simp
  have ad:(ha == a1)=false:=by simpa using K
  clear K;go_wp2;go_ret;exact⟨rfl,G⟩
 ·obtain rfl:a0=false:=by
   rw[<-M.o];exact jU (fun e=>by injection e with _ _ _ e _;exact O e)
  have a7:(F == F)=true:=by simp
  have ad:(ha == ha)=true:=by simp
  have au:(N == a3)=false:=by simpa using O
  clear O;go_wp2;go_ret;exact⟨rfl,G⟩
 ·have a7:(F == F)=true:=by simp
  have ad:(ha == ha)=true:=by simp
  have au:(N == N)=true:=by simp
  obtain⟨A,c,rfl⟩:=ab.shape;obtain⟨A',aF,rfl⟩:=a8.shape;go_wp2_with fail;refine(z6d _ _ ae af w0 ab a8).mono ?_;rintro e aD ⟨rfl,aB⟩;clear a7 ad au a9 am ao av aq an ak b1 b2 b3 al;have e:decide (ae=af)=a0:=by
   rw[<-M.o];have hp:pa=aA:=of_decide_eq_true a2.o;subst hp;by_cases h:ae=af
   ·subst h;rw[z06];exact decide_eq_true rfl
   ·rw[jU (fun e=>by injection e with _ _ _ _ e;exact h e)];exact decide_eq_false h
  rw[e];go_wp2;go_ret;exact⟨rfl,G.trans (aB.mono G.size)⟩
theorem z6e {G:Func}{p:Tmp} (h:G.results=#[.cell p 49]) (tmps:Array Value) (w:World) (g:Nat) (t:TypeId) (F:Array Value)
  (hp:tmps.getD p undef=.pointer (some ⟨g,0,none⟩)) (I:w.heap[g]?=some (.cells F t (0,0))) (hx:F.size=36):(results G tmps).run prog w=.ok (.agg F) w:=
 results_cell_row h tmps w g t F (0,0) _ hp I z0h rfl (by rw[XG,hx])
attribute [local go_sem ↓] zV JI z1m z1n
theorem z0w:z8h:=by
 intro w;obtain⟨Z,F⟩:=nm (vS YK (.slice none 0 0));have M:∀W,Kx W=.ok (.value (.agg Z)) W:=fun W=>by rw[<-F.o];exact z1W W
 have N:∀W,z31 W=.ok (.value (.pointer (some ⟨W.heap.size,0,none⟩))) (W.alloc (.cells Z 49)):=fun W=>by rw[<-F.o];exact z8d W
 have G:Z.size=36:=by rw[<-F.o];exact kX _ z2T
 have I:Z.all (·.oneCell')=true:=by rw[<-F.o];exact zbi (w:=w) (b:=YK) (Xq.nil w)
 have hg:=Xh w (.cells Z 49);have O:z33 (.pointer (some ⟨w.heap.size,0,none⟩)) (.agg Z) (w.alloc (.cells Z 49))=.ok .skip (w.alloc (.cells Z 49)):=by
  rw[z8e hg G G I,z8f hg]
 have K:=z0 hg;have J:=z0 G;clear hg G I;go_enter func114,ntmps114;go_wp2_with fail;refine Bp (z6e rfl _ _ _ _ _ rfl K.o J.o) rfl ⟨_,rfl,?_,Ba⟩;exact⟨.slice none 0 0,by rw[F.o],z2T,Xq.nil _⟩
theorem z3n (v:Value) (b:kR) (w:World) (N:Kw w v b):
  Calls prog 157 #[v] w fun e w'=>e=.returned (.bool (kj b YK))/\Below w.heap.size w w':=by
 have O:=z0 (fun W (h:Below w.heap.size w W)=>N.below h);obtain⟨s,rfl,hp,aa⟩:=N;obtain⟨C,a1⟩:=nm (vS b s);rw[a1.o]at O⊢;have a4:Hd (C.size=36):=z0 (by rw[<-a1.o];exact kX _ hp);have G:=Xh w (.cells C 49);have a0:Below w.heap.size w (w.alloc (.cells C 49)):=Ba;have ae:∀W:World,W.heap[w.heap.size]?=some (.cells C 49 (0,0))->kq (.pointer (some ⟨w.heap.size,0,none⟩)) W=.ok (.value (.agg C)) W:=fun W h=>kK h a4.o;obtain⟨a6,K⟩:=nm (kj b YK)
 have a9:Hd (∀x W,Below w.heap.size w W->Kw W x YK->Calls prog 113 #[.agg C,x] W fun e w'=>e=.returned (.bool a6)/\Below W.heap.size W w'):=z0 (fun x W h hx=>by
  have:=z2c _ x b YK W (O.o W h) hx;rw[K.o]at this
  exact this)
 rw[K.o];have a5:Hd (∀W:World,Calls prog 114 #[] W fun e w'=>∃x,e=.returned x/\Kw w' x YK/\Below W.heap.size W w'):=z0 (fun W=>z0w W);clear aa;go_enter func157,ntmps157;go_upto_region 1 with(fail)
 generalize (w.alloc (.cells C 49))=w0 at *;have M:=Lb G;have I:Below w0.heap.size w0 w0.drew:=(Below.refl _ _).drew;have J:Hd (∀W:World,Below w0.heap.size w0 W->W.heap[w.heap.size]?=some (.cells C 49 (0,0))):=z0 (fun W h=>(h.block _ M).trans G);have a2:Hd (∀W:World,Below w0.heap.size w0 W->Below w.heap.size w W):=z0 (fun W h=>a0.trans (h.mono a0.size));clear G M;go_region_held3 (fun W=>W.heap[w.heap.size]?=some (.cells C 49 (0,0)))
  (first
   |(refine J.o _ I)
   |(refine J.o _ a3)
   |(refine J.o _ F)
   |fail)
  (first
   |(go_at_call 113;(with_reducible refine(a9.o x1 _ (a2.o _ F) ab).mono ?_);rintro e af ⟨rfl,a7⟩;have a3:=F.trans (a7.mono F.size))
   |(go_at_call 114;(with_reducible refine(a5.o _).mono ?_);rintro e ad ⟨x1,rfl,ab,a8⟩;have F:=I.trans (a8.mono I.size))
   |fail)
 go_wp2;go_ret;exact⟨rfl,a2.o _ a3⟩
end
section
attribute [local go_sem ↓] jb zV
theorem Yr (n m:Int) (w:World):Calls prog 187 #[.int .i64 n,.int .i64 m] w fun e w'=>e=.returned (.bool (decide (1<=n) && decide (n<=m)))/\w=w':=by
 go_enter func187,ntmps187;go_wp2_with fail;all_goals
  go_ret;refine⟨congrArg (fun b=>Ending.returned (Value.bool b)) ?_,rfl⟩
 all_goals grind
theorem z4I (t:YJ) (w:World) (K:t.key.length<=1000000) (I:t.val.length<=1000000):
  Calls prog 189 #[Yb t] w fun e w'=>e=.returned (.bool (!jC t))/\Below w.heap.size w w':=by
 have G:=z0 (fun w=>X6 t w K I);obtain⟨m,M⟩:=nm (jC t);rw[M.o]at G⊢;have F:Below w.heap.size w (w.alloc (.cells (tcl t).toArray 152)):=Ba
 have l0:=jx (w:=w.alloc (.cells (tcl t).toArray 152)) (g:=w.heap.size) (o:=0) (t:=t) (fun j u N=>by
  rw[Nat.zero_add,z7 (Xh w _) j]
  simpa using N)
 obtain⟨X,J⟩:=nm ((tcl t).toArray);rw[kA,J.o]at l0 G⊢;rw[J.o]at F;clear K I;go_enter func189,ntmps189;go_wp2_with fail;refine(G.o _).mono ?_;rintro e a0 ⟨rfl,O⟩;cases m;all_goals
  go_wp2;go_ret;exact⟨rfl,F.trans (O.mono F.size)⟩
theorem z0x (v:Value) (L:List YJ) (w0:World) (F:Xq w0 v L) (O:∀t∈L,t.key.length<=1000000/\t.val.length<=1000000):
  Calls prog 209 #[v,.func (.func 189) #[] #[]] w0 fun e w'=>∃k:Int,e=.returned (.int .i64 k)/\decide (0<=k)=!L.all jC/\Below w0.heap.size w0 w':=by
 obtain⟨A,c,rfl⟩:=F.shape;obtain⟨n,M⟩:=nm (L.length:Nat);have a4:=F.len;unfold maxLen at a4;rw[M.o]at F a4⊢;have aa:=z0 F;have a1:=z0 O;clear F O;go_enter func209,ntmps209;go_wp2_with fail;go_loopw [8] (fun J wr=>∃i:Nat,i<=n/\J=.int .i64 i/\Hd (∀j (h:j<L.length),j<i->jC L[j]=true)/\Below w0.heap.size w0 wr) (fun J _=>n - (intOf J).toNat)
 case atStart=>exact⟨0,Nat.zero_le _,rfl,z0 (fun j _ h=>absurd h (by omega)),Below.refl _ _⟩
 case round=>
  obtain⟨i,af,rfl,a5,G⟩:=hrel;by_cases a9:i<n
  ·have I:i<L.length:=by rw[M.o];exact a9
   obtain⟨a8,a7,rfl,ai,a0⟩:=(aa.o.below G).at_.2.2.2 (by omega);have ag:(i:Int)<(n:Int):=by omega
   have l1:kC (.pointer (some ⟨a8,a7+i*7,none⟩)) wr=.ok (.value (Yb L[i])) wr:=jx (a0 i I);have N:Hd (∀W,Calls prog 189 #[Yb L[i]] W fun e w'=>e=.returned (.bool (!jC L[i]))/\Below W.heap.size W w'):=z0 (fun W=>z4I _ W (a1.o _ (List.getElem_mem I)).1 (a1.o _ (List.getElem_mem I)).2);obtain⟨X,a2⟩:=nm ((tcl L[i]).toArray);obtain⟨m,K⟩:=nm (jC L[i]);rw[kA,a2.o]at l1;rw[kA,a2.o,K.o]at N;clear a0;go_wp2_with fail;refine(N.o wr).mono ?_;rintro e ah ⟨rfl,ae⟩;have a3:=G.trans (ae.mono G.size);clear l1;cases m with
   |false=>
    go_wp2;go_ret;refine⟨_,rfl,?_,a3⟩;have:L.all jC=false:=by
     rw[List.all_eq_false];exact⟨_,List.getElem_mem I,by simp[K.o]⟩
    rw[this];exact decide_eq_true (by omega)
   |true=>
    go_wp2;go_roundw
    case rel=>
     refine⟨i+1,by omega,by go_num,z0 (fun j h a6=>?_),a3⟩;by_cases ad:j<i
     ·exact a5.o j h ad
     ·obtain rfl:j=i:=by omega
      exact K.o
    case measure=>simp[intOf];omega
  ·obtain rfl:i=n:=by omega
   go_wp2;go_ret;refine⟨_,rfl,?_,G⟩;have:L.all jC=true:=by
    rw[List.all_eq_true];intro t ab;obtain⟨j,a6,rfl⟩:=List.getElem_of_mem ab;exact a5.o j a6 (by have:=M.o;omega)
   rw[this];rfl
theorem K0 (v:Value) (L:List YJ) (w0:World) (F:Xq w0 v L) (J:∀t∈L,t.key.length<=1000000/\t.val.length<=1000000):
  Calls prog 188 #[v,.func (.func 189) #[] #[]] w0 fun e w'=>e=.returned (.bool (!L.all jC))/\Below w0.heap.size w0 w':=by
 have G:=z0 (z0x v L w0 F J);obtain⟨A,c,rfl⟩:=F.shape;obtain⟨m,I⟩:=nm ((!L.all jC));rw[I.o]at G⊢;clear F J;go_enter func188,ntmps188;go_wp2_with fail;refine G.o.mono ?_;rintro e N ⟨k,rfl,K,M⟩;clear I G;subst K;go_wp2_with fail;all_goals
  go_ret;exact⟨rfl,M⟩
theorem K1 (v:Value) (b:kR) (w:World) (al:Kw w v b) (a5:ZQ b):
  Calls prog 158 #[v] w fun e w'=>e=.returned (.bool (b.txs.all jC && Qi b))/\Below w.heap.size w w':=by
 obtain⟨s,rfl,hp,O⟩:=al;have F:Below w.heap.size w (w.alloc (.cells (vS b s) 49)):=Ba;have J:=jX.new w b s;have K:=O.below F;obtain⟨A,c,rfl⟩:=O.shape;obtain⟨L,ab⟩:=nm (b.txs.length:Nat);obtain⟨C,ad⟩:=nm (vS b (.slice A b.txs.length c));rw[ad.o];rw[ad.o]at J F K;rw[ab.o]at J K;obtain⟨G,a4⟩:=nm ((b.txs.all jC && Qi b));rw[a4.o];clear O;go_enter func158,ntmps158;go_upto_region 1 with(fail)
 generalize (w.alloc (.cells C 49))=w0 at *;obtain⟨ak,ai,aj,ao⟩:=J.cells hp;clear J;obtain⟨a1,a8⟩:=nm ((decide (1<=b.vi) && decide (b.vi<=1099511627776)));obtain⟨a0,a9⟩:=nm ((decide (1<=b.he) && decide (b.he<=1099511627776)));obtain⟨a6,aa⟩:=nm ((decide (1<=b.bo) && decide (b.bo<=21)));obtain⟨ag,N⟩:=nm (decide (L<=8));obtain⟨a2,ae⟩:=nm (b.txs.all jC)
 have I:Hd (G=(a1 && a0 && a6 && (ag && a2))):=z0 (by
  rw[<-a4.o,<-a8.o,<-a9.o,<-aa.o,<-N.o,<-ae.o,<-ab.o];unfold Qi
  ac_rfl)
 have a3:=z0 (Yr b.vi 1099511627776 w0);have a7:=z0 (Yr b.he 1099511627776 w0);have ah:=z0 (Yr b.bo 21 w0);have af:=z0 (K0 _ _ w0 K a5);rw[a8.o]at a3;rw[a9.o]at a7;rw[aa.o]at ah;rw[ae.o]at af;clear K a5;go_wp2_with fail;refine a3.o.mono ?_;rintro e M ⟨rfl,rfl⟩;clear ak;cases a1 with
 |false=>
  obtain rfl:G=false:=I.o;go_wp2;go_ret;exact⟨rfl,F⟩
 |true=>
  go_wp2_with fail;refine a7.o.mono ?_;rintro e M ⟨rfl,rfl⟩;clear ai;cases a0 with
  |false=>
   obtain rfl:G=false:=I.o;go_wp2;go_ret;exact⟨rfl,F⟩
  |true=>
   go_wp2_with fail;refine ah.o.mono ?_;rintro e M ⟨rfl,rfl⟩;clear aj;cases a6 with
   |false=>
    obtain rfl:G=false:=I.o;go_wp2;go_ret;exact⟨rfl,F⟩
   |true=>
    cases ag with
    |false=>
     obtain rfl:G=false:=I.o;have am:¬(L:Int)<=8:=by have:=of_decide_eq_false N.o;omega
     go_wp2;go_ret;exact⟨rfl,F⟩
    |true=>
     have am:(L:Int)<=8:=by have:=of_decide_eq_true N.o;omega
     go_wp2_with fail;refine af.o.mono ?_;rintro e M ⟨rfl,an⟩;have e:G=a2:=by rw[I.o];simp
     subst e;cases G;all_goals
      go_wp2;go_ret;exact⟨rfl,F.trans (an.mono F.size)⟩
theorem z6f:z8g:=by
 intro v b w O a6;have I:=z0 (fun W (h:Below w.heap.size w W)=>O.below h);obtain⟨s,rfl,hp,a9⟩:=O;obtain⟨C,a0⟩:=nm (vS b s);rw[a0.o]at I⊢;have a4:Hd (C.size=36):=z0 (by rw[<-a0.o];exact kX _ hp);have G:=Xh w (.cells C 49);have J:Below w.heap.size w (w.alloc (.cells C 49)):=Ba;obtain⟨f,a1⟩:=nm (kj b YK);obtain⟨g,a3⟩:=nm ((b.txs.all jC && Qi b));have a5:Hd (jV b=(f || g)):=z0 (by unfold jV;rw[a1.o,a3.o])
 have a8:Hd (∀W,Below w.heap.size w W->Calls prog 157 #[.agg C] W fun e w'=>e=.returned (.bool f)/\Below W.heap.size W w'):=z0 (fun W h=>by
  have:=z3n _ b W (I.o W h);rw[a1.o]at this
  exact this)
 have a7:Hd (∀W,Below w.heap.size w W->Calls prog 158 #[.agg C] W fun e w'=>e=.returned (.bool g)/\Below W.heap.size W w'):=z0 (fun W h=>by
  have:=K1 _ b W (I.o W h) a6;rw[a3.o]at this
  exact this)
 rw[a5.o];clear a9;go_enter func112,ntmps112;go_upto_region 1 with(fail)
 generalize (w.alloc (.cells C 49))=w0 at *;have N:=Lb G;have M:Hd (∀W:World,Below w0.heap.size w0 W->kq (.pointer (some ⟨w.heap.size,0,none⟩)) W=.ok (.value (.agg C)) W):=z0 (fun W h=>kK ((h.block _ N).trans G) a4.o);have l0:=M.o w0 (Below.refl _ _);clear G N;go_wp2_with fail;refine(a8.o w0 J).mono ?_;rintro e K ⟨rfl,a2⟩;have F:=J.trans (a2.mono J.size);have l1:=M.o K a2;clear l0;cases f with
 |true=>
  clear l1;go_wp2;go_ret;exact⟨rfl,F⟩
 |false=>
  go_wp2_with fail;refine(a7.o K F).mono ?_;rintro e ab ⟨rfl,aa⟩;clear l1;cases g;all_goals
   go_wp2;go_ret;exact⟨rfl,F.trans (aa.mono F.size)⟩
end
section
attribute [local go_sem ↓] jb zf
theorem z7h:xL 209 3 4 (.int .i64 0):=⟨by kernel_rfl,by kernel_rfl,by kernel_rfl,by kernel_rfl,by kernel_rfl,by kernel_rfl,rfl⟩
theorem Ve {ops:Array Oper}{rest:List Oper}{o:Oper}{a:Act}{w:World}{Q:Exit->Act->World->Prop} (K:o.guard=none) {x0 x1 x2 I:Operand} (J:o.op=.build 209 #[(0,x0),(1,x1),(2,x2),(3,I)])
  (v0 v1 F G:Int) (a0:a.eval x0=.int .i64 v0) (O:a.eval x1=.int .i64 v1) (a1:a.eval x2=.int .i64 F) (M:a.eval I=.int .i64 G)
  (h:wpList prog ops Q rest (a.put o.dst (.agg #[.int .i64 v0,.int .i64 v1,.int .i64 F,.int .i64 G])) w):wpList prog ops Q (o :: rest) a w:=
 wpList_plain K fun _ N=>by
  have e:(Instr.build 209 #[(0,.int .i64 v0),(1,.int .i64 v1),(2,.int .i64 F),(3,.int .i64 G)]).run prog w=.ok (.agg #[.int .i64 v0,.int .i64 v1,.int .i64 F,.int .i64 G]) w:=by
   have a2:z1 4 (fun _=>(.int .i64 0:Value))=#[.int .i64 0,.int .i64 0,.int .i64 0,.int .i64 0]:=by kernel_rfl
   simp[Instr.build,Sem.run_bind,z7h.run_zero,run_underlying z7h.under,z7h.run_esize,Instr.fill,Value.cells,a2]
  unfold Oper.wp execOp;simp only[J,Sem.run_bind,List.map_toArray,List.map_cons,List.map_nil,a0,O,a1,M,e,Sem.run_pure,Result.andThen_ok];exact N _ _ h
theorem z1q (F:List Nat) (p q o l:Nat) (I:[p,q,o,l]=F) (i:Nat) (G:i<F.length) (w:World):
  (Instr.index 209 (.agg #[.int .i64 (p:Int),.int .i64 (q:Int),.int .i64 (o:Int),.int .i64 (l:Int)]) (.int .i64 (i:Int))).run prog w=.ok (.int .i64 (F[i]:Int)) w:=by
 subst I;have J:i<4:=G;have K:(#[.int .i64 (p:Int),.int .i64 (q:Int),.int .i64 (o:Int),.int .i64 (l:Int)]:Array Value)=z1 4 (fun j=>.int .i64 (([p,q,o,l].getD j 0:Nat):Int)):=rfl;rw[K,z7h.run_index _ J];simp[List.getD_eq_getElem?_getD,List.getElem?_eq_getElem G]
theorem zbw (F:List Nat) (i:Nat) (h:i<F.length):((F.take (i+1)).map dg).flatten=((F.take i).map dg).flatten ++ dg F[i]:=by
 rw[List.take_succ_eq_append_getElem h];simp only[List.map_append,List.map_cons,List.map_nil,List.flatten_append,List.flatten_cons,List.flatten_nil,List.append_nil]
theorem z4J (F:List Nat) (h:∀m∈F,m<=1099511627776) (i:Nat):((F.take i).map dg).flatten.length<=F.length*10:=by
 have:∀F:List Nat,(∀m∈F,m<=1099511627776)->(F.map dg).flatten.length<=F.length*10:=by
  intro F
  induction F with
  |nil=>intro _;simp
  |cons m F ih=>
   intro h;have I:=zk (n:=m) (by have:=h m (by simp);omega);have J:=ih (fun x hx=>h x (List.mem_cons_of_mem _ hx));simp only[List.map_cons,List.flatten_cons,List.length_append,List.length_cons];omega
 have I:=this (F.take i) (fun m G=>h m (List.mem_of_mem_take G));have J:(F.take i).length<=F.length:=by simp only[List.length_take];omega
 omega
theorem z8G (v:Value) (b:kR) (w:World) (hv:Kw w v b) (hm:jV b=true):
  Calls prog 162 #[v] w fun e w'=>∃x,e=.returned x/\zP w' x (jc b)/\Below w.heap.size w w':=by
 obtain⟨s,rfl,hp,ht⟩:=hv;obtain⟨hall,h1,h2,h3,h4,h5,h6,h7⟩:=z07 hm;have HALL:=z0 hall;clear hall hm;have hb0:Below w.heap.size w (w.alloc (.cells (vS b s) 49)):=Ba;have hA:=jX.new w b s;have ht0:=ht.below hb0;obtain⟨A,c,rfl⟩:=ht.shape;obtain⟨L,HL⟩:=nm (b.txs.length:Nat);rw[HL.o]at h7;obtain⟨C,HC⟩:=nm (vS b (.slice A b.txs.length c));obtain⟨O,HO⟩:=nm (jc b);rw[HO.o];rw[HC.o]at hA hb0 ht0⊢;rw[HL.o]at hA ht0 HC;obtain⟨par,vi,he,bo,txs⟩:=b;simp only at h1 h2 h3 h4 h5 h6 hp HL HALL ht0;obtain⟨p,rfl⟩:=yy (i:=vi) h1;obtain⟨q,rfl⟩:=yy (i:=he) h3;obtain⟨o,rfl⟩:=yy (i:=bo) h5;obtain⟨M,HM⟩:=nm ([p,q,o,L]:List Nat);have HML:Hd (M.length=4):=z0 (by rw[<-HM.o];rfl)
 have HMB:Hd (∀m∈M,m<=1099511627776):=z0 (by
  rw[<-HM.o];intro m hm;simp only[List.mem_cons,List.not_mem_nil,or_false]at hm
  omega)
 have HIX:Hd (∀i (h:i<M.length) w,(Instr.index 209 (.agg #[.int .i64 (p:Int),.int .i64 (q:Int),.int .i64 (o:Int),.int .i64 (L:Int)]) (.int .i64 (i:Int))).run prog w=.ok (.int .i64 (M[i]:Int)) w):=z0 (fun i h w=>z1q M p q o L HM.o i h w);obtain⟨D,HD⟩:=nm (#[.int .i64 (p:Int),.int .i64 (q:Int),.int .i64 (o:Int),.int .i64 (L:Int)]:Array Value);rw[HD.o]at HIX;have HFL:=z0 (fun i=>z4J M HMB.o i);have HHA:=z0 (fun w=>YQ (.slice none 0 0) [] par w (zP.nil w) (by simp) hp);have HPL:=z0 hp;clear ht;go_enter func162,ntmps162;go_upto_region 1 with(fail)
 generalize (w.alloc (.cells C 49))=w0 at *;have hl0:=hA.lt
 have HX:Hd (∀W:World,Below w0.heap.size w0 W->W.rangeAt w.heap.size 0 (z4 par)/\W.cell? ⟨w.heap.size,32,none⟩=some (.int .i64 (p:Int))/\W.cell? ⟨w.heap.size,33,none⟩=some (.int .i64 (q:Int))/\W.cell? ⟨w.heap.size,34,none⟩=some (.int .i64 (o:Int))/\W.cell? ⟨w.heap.size,35,none⟩=some (.slice A L c)/\Xq W (.slice A L c) txs):=z0 (fun W h=>by
  have hW:=hA.below h hl0
  exact⟨hW.range,(hW.cells HPL.o).1,(hW.cells HPL.o).2.1,(hW.cells HPL.o).2.2.1,(hW.cells HPL.o).2.2.2,ht0.below h⟩)
 have la:=zD hA.range hp;obtain⟨HA,HHH⟩:=nm (z2 par);rw[HHH.o]at la HHA;have hs0:=hb0.size;clear hA ht0 hp hl0;go_wp2_with fail;refine(HHA.o w0).mono ?_;rintro e w1 ⟨x1,rfl,ho1,hb1⟩;have hx1:=ho1.byt;rw[List.nil_append]at hx1;obtain⟨_,k2,k3,k4,k5,_⟩:=HX.o w1 hb1;clear la HHA ho1;go_wp2_with (refine Ve rfl rfl _ _ _ _ rfl rfl rfl rfl ?_);rw[HD.o];clear k2 k3 k4 k5;go_loopw [3,21] (fun out si wr=>∃i:Nat,i<=4/\si=.int .i64 i/\zP wr out (par ++ ((M.take i).map dg).flatten)/\Below w0.heap.size w0 wr) (fun _ si _=>4 - (intOf si).toNat)
 case atStart=>exact⟨0,by omega,rfl,by rw[List.take_zero,List.map_nil,List.flatten_nil,List.append_nil];exact hx1,hb1⟩
 case round=>
  obtain⟨i,hi,rfl,hown,hB⟩:=hrel;by_cases hlt:i<4
  ·have hih:i<M.length:=by rw[HML.o];exact hlt
   have i0:=HIX.o i hih;have hmi:=HMB.o _ (List.getElem_mem hih);have HNEW:=z0 (zbw M i hih);obtain⟨m,HMI⟩:=nm (M[i]:Nat);rw[HMI.o]at i0 hmi HNEW;have hw1:IntKind.u64.wrap (m:Int)=(m:Int):=qP _ (by omega) (by omega);have hI:(i:Int)<4:=by omega
   have hlen:(par ++ ((M.take i).map dg).flatten).length<=1099511627000:=by rw[List.length_append];have:=HFL.o i;have:=HML.o;have:=HPL.o;omega
   have HNU:=z0 (fun v w (h:zP w v (par ++ ((M.take i).map dg).flatten))=>Vo v _ (m:Int) w h (by omega) (by omega) hlen);clear hlen hmi;go_wp2_with fail;refine(HNU.o _ wr hown).mono ?_;rintro e w9 ⟨v9,rfl,ho9,hb9'⟩;have hb9:=hB.trans (hb9'.mono hB.size);have hx9:=ho9.byt;rw[Int.toNat_natCast,List.append_assoc,<-HNEW.o]at hx9;clear i0 hw1 ho9;go_wp2;go_roundw
   case rel=>exact⟨i+1,by omega,by go_num,hx9,hb9⟩
   case measure=>simp[intOf];omega
  ·have E4:=z0 (show i=4 by omega);have hI:¬(i:Int)<4:=by omega
   rw[E4.o]at hown;clear hx1 hb1;obtain⟨P,HP⟩:=nm (par ++ ((M.take 4).map dg).flatten:List UInt8);have HPL2:Hd (P.length<=72):=z0 (by rw[<-HP.o,List.length_append];have:=HFL.o 4;have:=HML.o;have:=HPL.o;omega);rw[HP.o]at hown
   have HTK:Hd (∀i,i<=L->((txs.take i).map qY).flatten.length<=i*300):=z0 (fun i hi=>by
    have:=VJ (txs.take i) (fun t ht=>HALL.o t (List.mem_of_mem_take ht));rw[List.length_take,HL.o,Nat.min_eq_left hi]at this
    exact this)
   have HPT:Hd (∀v l t W,zP W v l->l.length<=1000000->z2F t->Calls prog 194 #[v,Yb t] W fun e w'=>∃x,e=.returned x/\zP w' x (z7E l t)/\Below W.heap.size W w'):=z0 (fun v l t W=>z9G v l t W);have k5:=(HX.o wr hB).2.2.2.2.1;go_wp2_with fail;clear k5;go_loopw [3,32] (fun out si w2=>∃i:Nat,i<=L/\si=.int .i64 i/\zP w2 out (P ++ ((txs.take i).map qY).flatten)/\Below w0.heap.size w0 w2) (fun _ si _=>L - (intOf si).toNat)
   case atStart=>exact⟨0,by omega,rfl,by rw[List.take_zero,List.map_nil,List.flatten_nil,List.append_nil];exact hown,hB⟩
   case round=>
    clear hown hB;obtain⟨i,hi,rfl,hown,hB⟩:=hrel;by_cases hlt:i<L
    ·have hih:i<txs.length:=by rw[HL.o];exact hlt
     obtain⟨ba,oa,rfl,hba,hcla⟩:=(HX.o _ hB).2.2.2.2.2.at_.2.2.2 (by omega);have hI:(i:Int)<(L:Int):=by omega
     have l1:kC (.pointer (some ⟨ba,oa+i*7,none⟩)) wr=.ok (.value (Yb txs[i])) wr:=jx (hcla i hih);have hmt:=HALL.o _ (List.getElem_mem hih);have hbl:=Yc hmt;have hlt6:z2F txs[i]:=by
      obtain⟨_,_,h3⟩:=Vz hmt;unfold z2F;rcases h3 with ⟨_,_,_,hk,hv⟩|⟨_,_,_,hk,hv⟩|⟨_,_,_,hk,hv⟩
      ·simp[hk,hv]
      ·exact⟨by have:=jq hk;omega,by omega⟩
      ·exact⟨by have:=jq hk;omega,by simp[hv]⟩
     have HNEW:Hd (z7E (P ++ ((txs.take i).map qY).flatten) txs[i]=P ++ ((txs.take (i+1)).map qY).flatten):=z0 (by
      unfold z7E
      rw[if_pos hmt,z20 txs i hih,List.append_assoc])
     have hfl:=HTK.o i hi;have hlen:(P ++ ((txs.take i).map qY).flatten).length<=1000000:=by rw[List.length_append];have:=HPL2.o;omega
     obtain⟨t,HTT⟩:=nm (txs[i]:YJ);rw[HTT.o]at l1 HNEW hlt6;have HPU:=z0 (fun v W (h:zP W v (P ++ ((txs.take i).map qY).flatten))=>HPT.o v _ t W h hlen hlt6);unfold Yb at l1 HPU;have hbn:Below wr.heap.size wr (wr.alloc (.cells #[.int .i64 t.fr,.int .i64 t.no,.int .i64 t.ki,.int .i64 t.to,.int .i64 t.am,.string (sb t.key),.string (sb t.val)] 152)):=Ba;have hrn:=Xh wr (.cells #[.int .i64 t.fr,.int .i64 t.no,.int .i64 t.ki,.int .i64 t.to,.int .i64 t.am,.string (sb t.key),.string (sb t.val)] 152);clear hcla hbl hfl hmt hlen hlt6;go_upto_region 10 with(fail)
     generalize (wr.alloc (.cells #[.int .i64 t.fr,.int .i64 t.no,.int .i64 t.ki,.int .i64 t.to,.int .i64 t.am,.string (sb t.key),.string (sb t.val)] 152))=w8 at *;have l8:=Ko hrn rfl;have hB8:=hB.trans (hbn.mono hB.size);have hown8:=hown.below hbn;clear l1 hrn;go_wp2_with fail;refine(HPU.o _ w8 hown8).mono ?_;rintro e w9 ⟨v9,rfl,ho9,hb9'⟩;have hb9:=hB8.trans (hb9'.mono hB8.size);rw[HNEW.o]at ho9;clear l8;go_wp2;go_roundw
     case rel=>exact⟨i+1,by omega,by go_num,ho9,hb9⟩
     case measure=>simp[intOf];omega
    ·obtain rfl:i=L:=by omega
     go_wp2;go_ret;rw[List.take_of_length_le (by rw[HL.o];exact Nat.le_refl _)]at hown;refine⟨_,rfl,?_,hb0.trans (hB.mono hs0)⟩;have e:P ++ (txs.map qY).flatten=O:=by
      rw[<-HO.o,<-HP.o,<-HM.o];unfold jc;simp only[Int.toNat_natCast,HL.o,List.append_assoc,List.take_succ_cons,List.take_zero,List.map_cons,List.map_nil,List.flatten_cons,List.flatten_nil,List.append_nil]
     rw[e]at hown;exact hown
attribute [local go_sem ↓] zV
theorem z2d {b:kR}:(b.txs.all jC && Qi b)=true ↔ jV b=true/\b.vi≠0:=by
 constructor
 ·intro h;have F:jV b=true:=by unfold jV;rw[h,Bool.or_true]
  refine⟨F,?_⟩;unfold Qi at h;simp only[Bool.and_eq_true,decide_eq_true_eq]at h;omega
 ·rintro⟨F,a0⟩;rcases z6X F with rfl|⟨M,K,O,I,J,N,a1,G⟩
  ·exact absurd rfl a0
  ·unfold Qi;simp only[Bool.and_eq_true,decide_eq_true_eq];exact⟨M,⟨⟨⟨⟨⟨K,O⟩,I⟩,J⟩,N⟩,a1⟩,G⟩
theorem z8H:z9J:=by
 intro v b w ar ak ap;have a7:=z0 (fun W (h:Below w.heap.size w W)=>ar.below h);have aC:=z0 (fun W (h:Below w.heap.size w W)=>(show yB 1 W from ap.below h));obtain⟨s,rfl,hp,aI⟩:=ar;obtain⟨C,ah⟩:=nm (vS b s);rw[ah.o]at a7⊢;obtain⟨D,M⟩:=nm ((fun j=>z3 (VK b j)));have aO:∀i,i<32->(D i).oneCell'=true:=by rw[<-M.o];intro i _;rfl
 rw[M.o];have aG:Hd (C.size=36):=z0 (by rw[<-ah.o];exact kX _ hp);have a9:=Zj w (.cells C 49) (.cells (z1 32 fun _=>z3 0) 38);have ao:zK ((w.alloc (.cells C 49)).alloc (.cells (z1 32 fun _=>z3 0) 38)) (w.heap.size+1) 32 (fun _=>z3 0) 38:=kT w (.cells C 49) _;have a0:Below w.heap.size w ((w.alloc (.cells C 49)).alloc (.cells (z1 32 fun _=>z3 0) 38)):=Ba.alloc (by simp) _;obtain⟨g,a3⟩:=nm ((b.txs.all jC && Qi b))
 have az:Hd (∀W,Below w.heap.size w W->Calls prog 158 #[.agg C] W fun e w'=>e=.returned (.bool g)/\Below W.heap.size W w'):=z0 (fun W h=>by
  have:=K1 _ b W (a7.o W h) ak;rw[a3.o]at this
  exact this)
 have aF:Hd (jV b=true->∀W,Below w.heap.size w W->Calls prog 162 #[.agg C] W fun e w'=>∃x,e=.returned x/\zP w' x (jc b)/\Below W.heap.size W w'):=z0 (fun aD W h=>z8G _ b W (a7.o W h) aD);have aM:=z0 z4p;have ay:=z0 hp;clear aI ap ak;go_enter func116,ntmps116;go_upto_region 1 with(refine zb qo rfl rfl ?_)
 generalize ((w.alloc (.cells C 49)).alloc (.cells (z1 32 fun _=>z3 0) 38))=w0 at *;have aq:=Lb a9;have af:Hd (∀W:World,Below w0.heap.size w0 W->kq (.pointer (some ⟨w.heap.size,0,none⟩)) W=.ok (.value (.agg C)) W):=z0 (fun W h=>kK ((h.block _ aq).trans a9) aG.o);have l0:=af.o w0 (Below.refl _ _);clear a9 aq;go_wp2_with fail;refine(az.o w0 a0).mono ?_;rintro e F ⟨rfl,N⟩;have a1:=ao.keep N;have G:=a0.trans (N.mono a0.size);clear l0 ao;cases g with
 |false=>
  have a5:Hd (D=fun _=>z3 0):=z0 (by
   rw[<-M.o]
   funext j
   unfold VK
   rw[if_neg (fun h=>by have:=z2d.2 h;rw[a3.o]at this;cases this)])
  go_wp2_with (first
   |(refine qa qo rfl rfl ?_)
   |(refine z8 qo rfl _ _ rfl rfl rfl a1 (fun _ _=>rfl) ?_;intro aB a2 aa aE))
  refine Bp (qo.result rfl _ _ rfl aa) rfl ⟨by rw[a5.o],?_⟩;exact zh G (Nat.le_succ _) a2 G.size
 |true=>
  obtain⟨K,au⟩:=z2d.1 a3.o;have aA:=z0 K
  have a5:Hd (D=fun j=>z3 (xy (QO ++ jc b) j)):=z0 (by
   rw[<-M.o]
   funext j
   unfold VK
   rw[if_pos ⟨K,au⟩])
  have aJ:Hd ((jc b).length<=3000):=z0 (z0j ay.o K);clear K au;have ax:=aM.o F;have I:Below F.heap.size F (F.alloc (.cells #[.int .u8 98,.int .u8 108,.int .u8 111,.int .u8 99,.int .u8 107] 5 (5,6))):=Ba;have al:=G.trans (I.mono G.size);have aK:=af.o _ (N.trans (I.mono N.size));have aH:=Go.Lib.run_convert_bytes_const (P:=prog) F 33 5 #[.int .u8 98,.int .u8 108,.int .u8 111,.int .u8 99,.int .u8 107] 5 5 zG underlying5;go_wp2_with fail;refine(aF.o aA.o _ al).mono ?_;rintro e J ⟨x,rfl,a6,ai⟩;have aj:=I.trans (ai.mono I.size);have av:=G.trans (aj.mono G.size);have aw:=a1.keep aj;have ag:=ax.below ai;obtain⟨a8,O,rfl⟩:=a6.shape;have an:Below J.heap.size J (J.alloc (.cells #[.slice (some ⟨F.heap.size,0,none⟩) 5 5,.slice a8 (jc b).length O] 33)):=Ba;have a4:=av.trans (an.mono av.size);have ae:=aw.keep an
  have ad:=z0 (z5z (.slice (some ⟨F.heap.size,0,none⟩) 5 5) (.slice a8 (jc b).length O) QO (jc b) J.heap.size 2 (J.alloc (.cells #[.slice (some ⟨F.heap.size,0,none⟩) 5 5,.slice a8 (jc b).length O] 33)) (by simp) (by simp) (by simp) (ag.alloc _) (a6.alloc _) (l:=QO ++ jc b) rfl
   (by rw[List.length_append];have:=aJ.o;simp only[QO,List.length_cons,List.length_nil];omega) (aC.o _ a4))
  clear aK aH ax ag I al a1;go_wp2_with fail;refine ad.o.mono ?_;rintro e aN ⟨rfl,am⟩;have aL:=ae.keep am;have ab:=a4.trans (am.mono a4.size);clear aw ae a6 ad;go_wp2_with (refine z8 qo rfl _ _ rfl rfl rfl aL (fun _ _=>rfl) ?_;intro aB a2 aa aE);refine Bp (qo.result rfl _ _ rfl aa) rfl ⟨by rw[a5.o],?_⟩;exact zh ab (Nat.le_succ _) a2 ab.size
end
end Go.Proofs.YtjlinimnnbfmaaaGreatDoor
