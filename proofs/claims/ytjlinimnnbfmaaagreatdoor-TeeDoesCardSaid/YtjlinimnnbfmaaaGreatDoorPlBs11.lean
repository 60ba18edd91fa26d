/-
  AtSign AtRight AtRd AtOk AtCodeMay AtCodeTagged AtCodeSign AtCodeRight AtAwake AtCodeAlike CtPure AcPure CkPure SeOk SeEq SeMay SeCodeMay SeCodeTagged SeTagged SePut SeRd SeCodeRead SeAwake SeArg SeGet VaWords VaCodeBits VaCodeSlots VaRvWords VaRvStep AtCodePut SeCodePut AcWords AcOk CtWords CtWith CtBare CtRises CtMay CtOk CtArg PartsIn VaAct: what each of them says stands at its head.
-/
import Derived.Test.YtjlinimnnbfmaaaGreatDoorPlBs9
import Derived.Test.YtjlinimnnbfmaaaGreatDoorPlBs12
set_option maxRecDepth 20000
set_option maxHeartbeats 6400000
namespace Go.Proofs.YtjlinimnnbfmaaaGreatDoor
open Go.RowKit Go.Proofs.Tryz
section
attribute [local go_sem ↓] ze zn zo
theorem z34 (a:y8) (w:World) (ho:a.Ok) (a3:vA a=true) (a7:yB 0 w):
  Calls prog 119 #[.agg (zy a)] w fun e w'=>e=.returned (.agg (zy (jZ a)))/\Below w.heap.size w w':=by
 have a4:Hd (∀W,Below w.heap.size w W->Calls prog 54 #[.agg (zy a)] W fun e w'=>e=.returned (.agg (z2 (QN a)))/\Below W.heap.size W w'):=z0 (fun W h=>X7 a W ho a3 (a7.below h));obtain⟨C,G⟩:=nm (zy a);obtain⟨D,I⟩:=nm (zy (jZ a));obtain⟨Z,a9⟩:=nm (zy ju);have aj:∀W,zt W=.ok (.value (.pointer (some ⟨W.heap.size,0,none⟩))) (W.alloc (.cells Z 54)):=fun W=>by rw[<-a9.o];exact zC W
 have a8:=Zj w (.cells C 54) (.cells Z 54);have F:=kT w (.cells C 54) (.cells Z 54);have a0:Below w.heap.size w ((w.alloc (.cells C 54)).alloc (.cells Z 54)):=Ba.alloc (by simp) _;obtain⟨T,M⟩:=nm (QN a);have al:Hd (T.length=32):=z0 (by rw[<-M.o];exact VI a);have a1:Hd (D.size=101/\D.all (·.oneCell')=true):=z0 (by rw[<-I.o];exact⟨zg (ZO ho),qD _⟩);have ad:Hd (Z.size=101):=z0 (by rw[<-a9.o];exact zg qf);have a2:=z0 ho
 have am:Hd (∀W:World,qz W w.heap.size a->zI (.pointer (some ⟨w.heap.size,0,none⟩)) W=.ok (.value (.agg C)) W):=z0 (fun W h=>by
  have:=ji h a2.o;rw[G.o]at this
  exact this)
 have ak:Hd (∀W:World,qz W w.heap.size { a with tg:=T }->zI (.pointer (some ⟨w.heap.size,0,none⟩)) W=.ok (.value (.agg D)) W):=z0 (fun W h=>by
  have e:({ a with tg:=T }:y8)=jZ a:=by rw[<-M.o];rfl
  rw[e]at h;have:=ji h (ZO a2.o);rw[I.o]at this
  exact this)
 rw[M.o,G.o]at a4;rw[I.o,G.o];have O:qz ((w.alloc (.cells C 54)).alloc (.cells Z 54)) w.heap.size a:=by
  unfold qz;rw[G.o];exact a8
 clear a7 ho a3 a8;go_enter func119,ntmps119;go_upto_region 1 with(fail)
 generalize ((w.alloc (.cells C 54)).alloc (.cells Z 54))=w0 at *;have l0:=am.o w0 O;have a6:=z0 F;clear aj F;go_wp2_with fail;refine(a4.o w0 a0).mono ?_;rintro e aq ⟨rfl,K⟩;have a5:=O.keep K;have ab:=a0.trans (K.mono a0.size);have F:=(K.block _ (Lb a6.o)).trans a6.o;have aa:=z0 F;have ai:=z0 a5;clear l0 O a5 F;go_wp2_with (refine xN rfl _ _ rfl rfl rfl ai.o a2.o al.o ?_;intro ae N af ah;have ao:=ak.o ae af;have J:=(N.block _ (Lb aa.o) (fun e=>by injection e with e;omega)).trans aa.o;have ap:=qF J ad.o a1.o.1 a1.o.2;have an:=z0 J;have ag:=z0 N;clear N ah J);refine Bp (results_cell_row rfl _ _ _ _ _ (0,0) _ rfl (qU an.o) jF rfl (by rw[vE,a1.o.1])) rfl ⟨rfl,?_⟩;exact qA (zh ab (Nat.le_refl _) ag.o ab.size) (Nat.le_succ _)
end
section
attribute [local go_sem ↓] ze zf
def yv (a:y8):Bool:=vA a && decide (a.tg=QN a)
theorem Qx (a:y8) (w:World) (ho:a.Ok) (hK:yB 0 w):
  Calls prog 24 #[.agg (zy a)] w fun e w'=>e=.returned (.bool (yv a))/\Below w.heap.size w w':=by
 obtain⟨m,HM⟩:=nm (vA a);obtain⟨q,HQ⟩:=nm (decide (a.tg=QN a));have HR:Hd (yv a=(m && q)):=z0 (by unfold yv;rw[HM.o,HQ.o])
 have HMA:Hd (∀W,Calls prog 53 #[.agg (zy a)] W fun e w'=>e=.returned (.bool m)/\Below W.heap.size W w'):=z0 (fun W=>by
  have:=z4b a W ho;rw[HM.o]at this
  exact this)
 have HTG:Hd (m=true->∀W,Below w.heap.size w W->Calls prog 54 #[.agg (zy a)] W fun e w'=>e=.returned (.agg (z2 (QN a)))/\Below W.heap.size W w'):=z0 (fun h W hb=>X7 a W ho (HM.o.trans h) (hK.below hb))
 have HEQ:Hd (∀W,(Op.equalIn 10000 38 (.agg (z2 a.tg)) (.agg (z2 (QN a)))).run prog W=.ok q W):=z0 (fun W=>by
  have:=xX a.tg (QN a) ho.tg (VI a) W;rw[HQ.o]at this
  exact this)
 have hb0:Below w.heap.size w (w.alloc (.cells (zy a) 54)):=Ba;have hA:=qz.new w a;obtain⟨C,HC⟩:=nm (zy a);obtain⟨T,HT⟩:=nm (z2 (QN a));obtain⟨G,HG⟩:=nm (z2 a.tg);rw[HC.o,HT.o]at HTG;rw[HC.o]at HMA hb0 hA;rw[HG.o,HT.o]at HEQ;rw[HR.o,HC.o]
 have HX:Hd (∀W:World,qz W w.heap.size a->zI (.pointer (some ⟨w.heap.size,0,none⟩)) W=.ok (.value (.agg C)) W/\qE (.pointer (some ⟨w.heap.size,69,none⟩)) W=.ok (.value (.agg G)) W):=z0 (fun W h=>by
  have h1:=ji h ho;have h2:=zD (h.tag ho) ho.tg;rw[HC.o]at h1;rw[HG.o]at h2
  exact⟨h1,h2⟩)
 clear hK ho;go_enter func24,ntmps24;go_upto_region 1 with(fail)
 generalize (w.alloc (.cells C 54))=w0 at *;have HXW:=z0 (fun W (h:Below w0.heap.size w0 W)=>HX.o W (hA.keep h));have hbd:Below w0.heap.size w0 w0.drew:=(Below.refl _ _).drew;clear hA;refine Rh (S:=fun W=>zI (.pointer (some ⟨w.heap.size,0,none⟩)) W=.ok (.value (.agg C)) W/\qE (.pointer (some ⟨w.heap.size,69,none⟩)) W=.ok (.value (.agg G)) W) (by kernel_rfl) (HXW.o _ hbd) (fun hHeld=>?_);refine' tk (i:=0) (v:=_) rfl (fun W hW=>hW.1) ?_;try simp only[zx]
 refine qc 1 (h:=fun K hK=>?_);go_simp;refine(HMA.o w0.drew).mono ?_;rintro e w2 ⟨rfl,hb2'⟩;have hb2:=hbd.trans hb2';refine hK.out _ _ (HXW.o _ hb2) (fun hHeld=>?_);clear hK K;try simp only[zx]
 refine' z5 2 (h:=?_);cases m with
 |false=>
  refine' tn 3 (h:=tn 4 (h:=tn 5 (h:=tn 6 (h:=tn 7 (h:=z5 8 (h:=z5 9 (h:=?_)))))));refine wpAnyH_done (by kernel_rfl) ?_ _;go_wp2;go_ret;exact⟨rfl,hb0.trans (hb2.mono hb0.size)⟩
 |true=>
  refine' z5 3 (h:=?_);refine' tk (i:=4) (v:=_) rfl (fun W hW=>hW.2) ?_;try simp only[zx]
  refine' tk (i:=5) (v:=_) rfl (fun W hW=>hW.1) ?_;try simp only[zx]
  refine qc 6 (h:=fun K hK=>?_);go_simp;refine(HTG.o rfl w2 (hb0.trans (hb2.mono hb0.size))).mono ?_;rintro e w3 ⟨rfl,hb3'⟩;have hb3:=hb2.trans (hb3'.mono hb2.size);refine hK.out _ _ (HXW.o _ hb3) (fun hHeld=>?_);clear hK K;try simp only[zx]
  have heq:=HEQ.o;refine' z5 7 (h:=?_);clear heq;refine' z5 8 (h:=z5 9 (h:=?_));refine wpAnyH_done (by kernel_rfl) ?_ _;go_wp2;go_ret;exact⟨rfl,hb0.trans (hb3.mono hb0.size)⟩
end
theorem z9L (a:y8):xZ a=[.int .i64 a.bo,.int .i64 a.ki,.int .i64 a.vi,.int .i64 a.ph] ++ (z4 a.ha ++ ([.int .i64 a.pv] ++ (z4 a.pa ++ z4 a.tg))):=rfl
theorem z35 (a:y8):xZ a=([.int .i64 a.bo,.int .i64 a.ki,.int .i64 a.vi,.int .i64 a.ph] ++ (z4 a.ha ++ [.int .i64 a.pv])) ++ (z4 a.pa ++ z4 a.tg):=by
 unfold xZ;simp only[List.append_assoc]
theorem z5V (a:y8):xZ a=([.int .i64 a.bo,.int .i64 a.ki,.int .i64 a.vi,.int .i64 a.ph] ++ z4 a.ha) ++ (.int .i64 a.pv :: (z4 a.pa ++ z4 a.tg)):=by
 unfold xZ;simp only[List.cons_append,List.nil_append]
theorem zcH {a:y8} (h:a.Ok) (n:Int):(zy a).setIfInBounds 36 (.int .i64 n)=zy { a with pv:=n }:=by
 have hl:([.int .i64 a.bo,.int .i64 a.ki,.int .i64 a.vi,.int .i64 a.ph] ++ z4 a.ha:List Value).length=36:=by simp only[List.length_append,z6,h.ha,List.length_cons,List.length_nil]
 unfold zy;rw[List.setIfInBounds_toArray,z5V,z5V,List.set_append_right _ _ (by omega),hl];rfl
def z8i:Prop:=∀(a:y8) (w:World),a.Ok->Calls prog 137 #[.agg (zy a)] w fun e w'=>e=.returned (.int .i64 (if vA a=true then 0 else 1))/\Below w.heap.size w w'
def z9M:Prop:=∀(a:y8) (w:World),a.Ok->vA a=true->yB 1 w->Calls prog 89 #[.agg (zy a)] w fun e w'=>e=.returned (.agg (zy (jZ a)))/\Below w.heap.size w w'
def z8j:Prop:=∀(a:y8) (w:World),a.Ok->yB 1 w->Calls prog 124 #[.agg (zy a)] w fun e w'=>e=.returned (.bool (yv a))/\Below w.heap.size w w'
theorem VL {op:Oper}{ac:Act}{w:World}{G:Act->World->Prop}{Q:Exit->Act->World->Prop} (x y:Operand) (ho:op.op=.store 38 x y)
  {g:Nat} {a:y8} {h:List UInt8} (hx:ac.eval x=.pointer (some ⟨g,69,none⟩)) (M:ac.eval y=.agg (z2 h)) (hg:qz w g a) (F:a.Ok) (hl:h.length=32)
  (J:∀w',w.grownBy w' (some g)->qz w' g { a with tg:=h }->w'.heap.size=w.heap.size->G (ac.put op.dst undef) w'):op.wp prog ac w G Q:=by
 have I:([.int .i64 a.bo,.int .i64 a.ki,.int .i64 a.vi,.int .i64 a.ph] ++ (z4 a.ha ++ ([.int .i64 a.pv] ++ z4 a.pa)):List Value).length=69:=by simp only[List.length_append,z6,F.ha,F.pa,List.length_cons,List.length_nil]
 refine wp_store_mid _ x y ho g 69 (z2 h) hx M (fun j K=>⟨?_,hg.free _⟩) (by rw[yG,zH,hl]) (ZF _) ?_
 ·rw[zH,hl]at K;rw[hg.cell,List.getElem?_eq_getElem (by rw[yZ F];omega)];rfl
 ·rw[jM];refine J _ (jg g _ _ _) ?_ (vf g _ _ _);unfold qz zy at hg⊢;rw[XE]at hg⊢;have:=vY (z4 h) 69 w _ hg;rw[<-I,yI (z4 h) _ (z4 a.tg) [] (by rw[z6,z6,hl,F.tg])]at this;rw[<-I];exact this
section
attribute [local go_sem ↓] ze
def z23 (a:y8):Int:=if a.ki=3 then a.vi else a.vi - 1
theorem z5W (a:y8) (w:World) (h1:1<=a.vi) (h2:a.vi<=1099511627776):
  Calls prog 178 #[.agg (zy a)] w fun e w'=>e=.returned (.int .i64 (z23 a))/\Below w.heap.size w w':=by
 have J:Below w.heap.size w (w.alloc (.cells (zy a) 54)):=Ba;have F:=qz.new w a;obtain⟨C,I⟩:=nm (zy a);obtain⟨q,G⟩:=nm (z23 a);rw[I.o]at J F⊢;rw[G.o];go_enter func178,ntmps178;go_upto_region 1 with(fail)
 generalize (w.alloc (.cells C 54))=w0 at *;obtain⟨K,N,O,M⟩:=F.cells;clear F I;obtain⟨bo,ki,vi,ph,ha,pv,pa,tg⟩:=a;simp only at K N O M h1 h2;have a1:IntKind.i64.wrap (vi - 1)=vi - 1:=by rw[IntKind.wrap_i64];omega
 have a0:=z0 (show 1<=vi/\vi<=1099511627776 from ⟨h1,h2⟩);clear h1 h2;by_cases h3:ki=3;all_goals
  go_wp2;go_ret;refine⟨?_,J⟩;refine congrArg (fun b=>Ending.returned (Value.int IntKind.i64 b)) ?_;rw[<-G.o];unfold z23;simp[h3]
theorem V1:z8i:=by
 intro a w ho;have F:Below w.heap.size w (w.alloc (.cells (zy a) 54)):=Ba;have K:=qz.new w a;have J:Hd (1<=a.vi->a.vi<=1099511627776->∀W,Calls prog 178 #[.agg (zy a)] W fun e w'=>e=.returned (.int .i64 (z23 a))/\Below W.heap.size W w'):=z0 (fun h1 h2 W=>z5W a W h1 h2);obtain⟨C,a2⟩:=nm (zy a);obtain⟨q,a1⟩:=nm ((if vA a=true then (0:Int) else 1):Int);obtain⟨hi,N⟩:=nm (z23 a);rw[a2.o]at F K J⊢;rw[N.o]at J;rw[a1.o];go_enter func137,ntmps137;go_upto_region 1 with(fail)
 generalize (w.alloc (.cells C 54))=w0 at *
 have O:Hd (∀W:World,Below w0.heap.size w0 W->W.cell? ⟨w.heap.size,2,none⟩=some (.int .i64 a.vi)/\W.cell? ⟨w.heap.size,36,none⟩=some (.int .i64 a.pv)/\zI (.pointer (some ⟨w.heap.size,0,none⟩)) W=.ok (.value (.agg C)) W):=z0 (fun W h=>by
  have M:=K.keep h;have h1:=ji M ho;rw[a2.o]at h1
  exact⟨M.cells.2.2.1,M.pv ho,h1⟩)
 obtain⟨a4,ad,ae,a5⟩:=K.cells;have a3:=K.pv ho;clear K a2 ho;obtain⟨bo,ki,vi,ph,ha,pv,pa,tg⟩:=a;simp only at a4 ad ae a5 a3 O J
 have G:Hd (q=if zS bo=true/\¬ki<1/\¬3<ki/\ph=ki/\¬vi<1/\¬1099511627776<vi/\¬pv<0/\¬hi<pv then 0 else 1):=z0 (by
  rw[<-a1.o,<-N.o];unfold vA z23 zS
  grind)
 clear a1 N;go_wp2_with fail;refine(jr bo w0).mono ?_;rintro e an ⟨rfl,rfl⟩;obtain⟨ag,a7⟩:=nm (zS bo);rw[a7.o]at G⊢;clear a7;cases ag with
 |false=>
  go_wp2;go_ret;exact⟨by rw[G.o];rfl,F⟩
 |true=>
  by_cases h1:ki<1
  ·go_wp2;go_ret;exact⟨by rw[G.o,if_neg (by rintro⟨_,h,_⟩;omega)];rfl,F⟩
  by_cases h2:3<ki
  ·go_wp2;go_ret;exact⟨by rw[G.o,if_neg (by rintro⟨_,_,h,_⟩;omega)];rfl,F⟩
  by_cases a0:¬ph=ki
  ·have hd:(ph != ki)=true:=by simp[a0]
   go_wp2_with fail;all_goals first
    |(go_ret;exact⟨by rw[G.o,if_neg (by rintro⟨_,_,_,h,_⟩;omega)];rfl,F⟩)
    |skip
  have h3:ph=ki:=Decidable.not_not.1 a0;clear a0;have I:Hd (q=if ¬vi<1/\¬1099511627776<vi/\¬pv<0/\¬hi<pv then 0 else 1):=z0 (by rw[G.o];simp only[true_and,eq_self];split <;> split <;> first|rfl|(exfalso;omega));clear G;go_upto_region 3 with(fail)
  clear a4 ad a5 h1 h2 h3;by_cases a8:vi<1
  ·have hd:decide (vi<1)=true:=decide_eq_true a8;go_quiet (fail);go_wp2;go_ret;exact⟨by rw[I.o,if_neg (by rintro⟨h,_⟩;omega)];rfl,zA F _⟩
  have al:decide (vi<1)=false:=decide_eq_false a8;by_cases a6:1099511627776<vi
  ·have hd:decide (1099511627776<vi)=true:=decide_eq_true a6;go_quiet (fail);go_wp2;go_ret;exact⟨by rw[I.o,if_neg (by rintro⟨_,h,_⟩;omega)];rfl,zA F _⟩
  have ao:decide (1099511627776<vi)=false:=decide_eq_false a6;by_cases a9:pv<0
  ·have hd:decide (pv<0)=true:=decide_eq_true a9;go_quiet (fail);go_wp2;go_ret;exact⟨by rw[I.o,if_neg (by rintro⟨_,_,h,_⟩;omega)];rfl,zA F _⟩
  have am:decide (pv<0)=false:=decide_eq_false a9;have af:=z0 (J.o (by omega) (by omega));have ai:Hd (q=if ¬hi<pv then 0 else 1):=z0 (by rw[I.o];split <;> split <;> first|rfl|(exfalso;omega));have aa:Below w0.heap.size w0 w0.drew:=(Below.refl _ _).drew;clear I J ae a3;go_region_held3 (fun W=>W.cell? ⟨w.heap.size,2,none⟩=some (.int .i64 vi)/\W.cell? ⟨w.heap.size,36,none⟩=some (.int .i64 pv)/\zI (.pointer (some ⟨w.heap.size,0,none⟩)) W=.ok (.value (.agg C)) W)
   (first|(refine O.o _ aa)|(refine O.o _ ab)|fail)
   (first
    |(go_at_call 178;(with_reducible refine(af.o _).mono ?_);rintro e ak ⟨rfl,aj⟩;have ab:Below w0.heap.size w0 ak:=aa.trans aj)
    |fail)
  all_goals
   by_cases ah:hi<pv;all_goals
    go_wp2;go_ret;exact⟨by rw[ai.o];simp[ah],F.trans (ab.mono F.size)⟩
end
section
attribute [local go_sem ↓] zf
theorem Jq (v:Value) (l:List UInt8) (n:Int) (w:World) (G:zP w v l) (h0:0<=n) (h1:n<9223372036854775808) (J:l.length<=1099511627000):
  Calls prog 179 #[v,.int .i64 n] w fun e w'=>∃x,e=.returned x/\ql w.heap.size w' x (l ++ dg n.toNat)/\Below w.heap.size w w':=by
 have M:IntKind.u64.wrap n=n:=qP _ (by omega) (by omega);go_enter func179,ntmps179;go_wp2_with fail;refine(Vo v l n w G h0 (by omega) J).mono ?_;rintro e K ⟨v1,rfl,I,F⟩;go_wp2;go_ret;exact⟨_,rfl,I,F⟩
theorem VM (a:y8) (w:World) (ho:a.Ok) (hm:vA a=true):
  Calls prog 138 #[.agg (zy a)] w fun e w'=>∃x,e=.returned x/\ql w.heap.size w' x (yY a)/\Below w.heap.size w w':=by
 obtain⟨h1,h2,h3,h4,h5,h6,h7,h8,h9⟩:=ZJ hm;have hb0:Below w.heap.size w (w.alloc (.cells (zy a) 54)):=Ba;have hA:=qz.new w a;obtain⟨C,HC⟩:=nm (zy a);obtain⟨O,HO⟩:=nm (yY a);rw[HC.o]at hb0 hA⊢;rw[HO.o];have HOK:=z0 ho;have HA:=z0 hA;clear hA HC hm ho;obtain⟨bo,ki,vi,ph,ha,pv,pa,tg⟩:=a;simp only at h1 h2 h3 h4 h5 h6 h7 h8 h9;obtain⟨k,rfl⟩:=yy (i:=ki) (by omega);obtain⟨v,rfl⟩:=yy (i:=vi) (by omega);obtain⟨p,rfl⟩:=yy (i:=ph) (by omega);obtain⟨q,rfl⟩:=yy (i:=pv) (by omega);have HLK:=z0 (zk (n:=k) (by omega));have HLV:=z0 (zk (n:=v) (by omega));have HLP:=z0 (zk (n:=p) (by omega));have HLQ:=z0 (zk (n:=q) (by omega));have HB:Hd (k<9223372036854775808/\v<9223372036854775808/\p<9223372036854775808/\q<9223372036854775808):=z0 (by omega);have hha:ha.length=32:=HOK.o.ha;have hpa:pa.length=32:=HOK.o.pa;have HHL:=z0 (show ha.length=32/\pa.length=32 from ⟨hha,hpa⟩);have HO2:Hd (O=dg k ++ (dg v ++ (dg p ++ (ha ++ (dg q ++ pa))))):=z0 (by rw[<-HO.o];unfold yY;simp);clear h1 h2 h3 h4 h5 h6 h7 h8 h9 hha hpa HO;go_enter func138,ntmps138;go_upto_region 1 with(fail)
 generalize (w.alloc (.cells C 54))=w0 at *
 have HX:Hd (∀W:World,Below w0.heap.size w0 W->W.cell? ⟨w.heap.size,1,none⟩=some (.int .i64 (k:Int))/\W.cell? ⟨w.heap.size,2,none⟩=some (.int .i64 (v:Int))/\W.cell? ⟨w.heap.size,3,none⟩=some (.int .i64 (p:Int))/\W.cell? ⟨w.heap.size,36,none⟩=some (.int .i64 (q:Int))/\qE (.pointer (some ⟨w.heap.size,4,none⟩)) W=.ok (.value (.agg (z2 ha))) W/\qE (.pointer (some ⟨w.heap.size,37,none⟩)) W=.ok (.value (.agg (z2 pa))) W):=z0 (fun W h=>by
  have hW:=HA.o.keep h
  exact⟨hW.cells.2.1,hW.cells.2.2.1,hW.cells.2.2.2,hW.pv HOK.o,zD hW.hash HOK.o.ha,zD (hW.phash HOK.o) HOK.o.pa⟩)
 have HB0:=z0 hb0;have d1:=(HX.o w0 (Below.refl _ _)).1;clear HA hb0;go_wp2_with fail;refine(Jq _ [] (k:Int) w0 (zP.nil _) (by omega) (by have:=HB.o;omega) (by decide)).mono ?_;rintro e w1 ⟨v1,rfl,ho1,hb1⟩;rw[Int.toNat_natCast,List.nil_append]at ho1;have d2:=(HX.o w1 hb1).2.1;clear d1;go_wp2_with fail;refine(Jq _ _ (v:Int) w1 ho1.byt (by omega) (by have:=HB.o;omega) (by have:=HLK.o;omega)).mono ?_;rintro e w2 ⟨v2,rfl,ho2,hb2'⟩;have hb2:=hb1.trans (hb2'.mono hb1.size);rw[Int.toNat_natCast]at ho2;have d3:=(HX.o w2 hb2).2.2.1;clear d2 hb2';go_wp2_with fail;refine(Jq _ _ (p:Int) w2 ho2.byt (by omega) (by have:=HB.o;omega) (by rw[List.length_append];have:=HLK.o;have:=HLV.o;omega)).mono ?_;rintro e w3 ⟨v3,rfl,ho3,hb3'⟩;have hb3:=hb2.trans (hb3'.mono hb2.size);rw[Int.toNat_natCast]at ho3;have d4:=(HX.o w3 hb3).2.2.2.2.1;clear d3 hb3';go_wp2_with fail;refine(YQ _ _ ha w3 ho3.byt (by simp only[List.length_append];have:=HLK.o;have:=HLV.o;have:=HLP.o;omega) HHL.o.1).mono ?_;rintro e w4 ⟨v4,rfl,ho4,hb4'⟩;have hb4:=hb3.trans (hb4'.mono hb3.size);have d5:=(HX.o w4 hb4).2.2.2.1;clear d4 hb4';go_wp2_with fail;refine(Jq _ _ (q:Int) w4 ho4.byt (by omega) (by have:=HB.o;omega) (by simp only[List.length_append];have:=HLK.o;have:=HLV.o;have:=HLP.o;have:=HHL.o.1;omega)).mono ?_;rintro e w5 ⟨v5,rfl,ho5,hb5'⟩;have hb5:=hb4.trans (hb5'.mono hb4.size);rw[Int.toNat_natCast]at ho5;have d6:=(HX.o w5 hb5).2.2.2.2.2;clear d5 hb5';go_wp2_with fail;refine(YQ _ _ pa w5 ho5.byt (by simp only[List.length_append];have:=HLK.o;have:=HLV.o;have:=HLP.o;have:=HLQ.o;have:=HHL.o.1;omega) HHL.o.2).mono ?_;rintro e w6 ⟨v6,rfl,ho6,hb6'⟩;have hb6:=hb5.trans (hb6'.mono hb5.size);clear d6;go_wp2;go_ret;refine⟨v6,rfl,?_,HB0.o.trans (hb6.mono HB0.o.size)⟩;rw[HO2.o];simp only[List.append_assoc]at ho6;exact ho6.more (by have:=HB0.o.size;have:=hb5.size;omega)
end
section
attribute [local go_sem ↓] ze zn zo ky
theorem z7a (i:Int) (d:UInt8) (v0:Value) (l0:List UInt8) (F c:Nat) (w:World) (hg:F<w.heap.size) (h0:w.cell? ⟨F,0,none⟩=some v0) (b0:zP w v0 l0) (hl:l0.length<=1000000) (I:yB 1 w):
  Calls prog 77 #[.int .i64 i,.int .u8 (d.toNat:Int),.slice (some ⟨F,0,none⟩) 1 c] w fun e w'=>e=.returned (.agg (z2 (Go.Proofs.YtjlinimnnbfmaaaGreatDoor.hl 32 (Qd i d l0))))/\Below w.heap.size w w':=by
 have h:=z2X i d [l0] (fun _=>v0) F 1 c w rfl hg (fun j G=>by
  match j,G with
  |0,_=>exact h0) (fun j G=>by
  match j,G with
  |0,_=>exact b0) (by simpa using hl) (by omega) I
 have e:([l0]:List (List UInt8)).flatten=l0:=by simp
 rw[e,kJ]at h;exact h
theorem J2 (w:World) (x:Value) (T:TypeId):(w.alloc (.cells #[x] T)).cell? ⟨w.heap.size,0,none⟩=some x:=by simp
theorem z8k:z9M:=by
 intro a w ho a9 F;obtain⟨G,K⟩:=nm ({ a with tg:=qx }:y8);have a6:G.Ok:=by rw[<-K.o];exact⟨ho.ha,ho.pa,rfl⟩
 have aj:vA G=true:=by rw[<-K.o];exact a9
 have aW:Hd (G.bo=a.bo):=z0 (by rw[<-K.o]);have aX:Hd (yY G=yY a):=z0 (by rw[<-K.o];rfl);have b0:Hd ({ G with tg:=QN a }=jZ a):=z0 (by rw[<-K.o];rfl);have aR:=YR ho a9
 have aL:Hd (∀W,Calls prog 137 #[.agg (zy G)] W fun e w'=>e=.returned (.int .i64 0)/\Below W.heap.size W w'):=z0 (fun W=>by
  have:=V1 G W a6;rw[if_pos aj]at this
  exact this)
 have an:Hd (∀W,Calls prog 138 #[.agg (zy G)] W fun e w'=>∃x,e=.returned x/\ql W.heap.size w' x (yY a)/\Below W.heap.size W w'):=z0 (fun W=>by
  have:=VM G W a6 aj;rw[aX.o]at this
  exact this)
 obtain⟨C,aB⟩:=nm (zy a);obtain⟨C0,ay⟩:=nm (zy G);obtain⟨D,af⟩:=nm (zy (jZ a));obtain⟨Z,aA⟩:=nm (zy ju);obtain⟨N,aF⟩:=nm (z2 qx);obtain⟨T,az⟩:=nm (z2 (QN a));obtain⟨L,ai⟩:=nm (yY a)
 have aO:Hd (∀v a0 c W,Below w.heap.size w W->a0<W.heap.size->W.cell? ⟨a0,0,none⟩=some v->zP W v L->Calls prog 77 #[.int .i64 G.bo,.int .u8 1,.slice (some ⟨a0,0,none⟩) 1 c] W fun e w'=>e=.returned (.agg T)/\Below W.heap.size W w'):=z0 (fun v a0 c W h h1 h2 h3=>by
  have:=z7a a.bo 1 v L a0 c W h1 h2 h3 (by rw[<-ai.o];omega) (F.below h);rw[aW.o,<-az.o];unfold QN;rw[ai.o]
  exact this)
 rw[ay.o]at aL an;rw[ai.o]at an;rw[aB.o,af.o];have aZ:∀W,JP W=.ok (.value (.agg N)) W:=fun W=>by rw[Km,Qu,<-aF.o];rfl
 have aP:∀W,zt W=.ok (.value (.pointer (some ⟨W.heap.size,0,none⟩))) (W.alloc (.cells Z 54)):=fun W=>by rw[<-aA.o];exact zC W
 have a2:=kT w (.cells C 54) (.cells Z 54);have aD:Below w.heap.size w ((w.alloc (.cells C 54)).alloc (.cells Z 54)):=Ba.alloc (by simp) _;have aI:qz ((w.alloc (.cells C 54)).alloc (.cells Z 54)) w.heap.size a:=by
  unfold qz;rw[aB.o];exact Zj w (.cells C 54) (.cells Z 54)
 have ae:Hd (D.size=101/\D.all (·.oneCell')=true):=z0 (by rw[<-af.o];exact⟨zg (ZO ho),qD _⟩);have aN:Hd (Z.size=101):=z0 (by rw[<-aA.o];exact zg qf);have aQ:Hd ((QN a).length=32):=z0 (VI a);have aM:=z0 ho;have aJ:=z0 a6;have ag:=z0 a2;have aH:=z0 aI;have ao:=z0 aD
 have ah:Hd (∀W:World,qz W w.heap.size G->W.cell? ⟨w.heap.size,0,none⟩=some (.int .i64 G.bo)/\zI (.pointer (some ⟨w.heap.size,0,none⟩)) W=.ok (.value (.agg C0)) W):=z0 (fun W h=>by
  refine⟨h.cells.1,?_⟩;have:=ji h aJ.o;rw[ay.o]at this
  exact this)
 have aT:Hd (∀W:World,qz W w.heap.size { G with tg:=QN a }->zI (.pointer (some ⟨w.heap.size,0,none⟩)) W=.ok (.value (.agg D)) W):=z0 (fun W h=>by
  rw[b0.o]at h;have:=ji h (ZO aM.o);rw[af.o]at this
  exact this)
 clear F ho a9 a6 aj a2 aI aD aR;go_enter func89,ntmps89;go_upto_region 1 with(fail)
 generalize ((w.alloc (.cells C 54)).alloc (.cells Z 54))=w0 at *;clear aP;go_upto_region 2 with(refine xN rfl _ _ rfl rfl (by rw[aF.o];rfl) aH.o aM.o (show qx.length=32 from rfl) ?_;intro aq ak a4 aV)
 rw[K.o]at a4;have a2:=(ak.block _ (Lb ag.o) (fun e=>by injection e with e;omega)).trans ag.o;have aG:Below w.heap.size w aq:=zh ao.o (Nat.le_refl _) ak ao.o.size;have aC:=z0 a2;have aE:=z0 aG;have b4:=z0 a4;have l1:=(ah.o aq a4).2;clear aZ ak aV a4 a2 aG ao aH ag;go_wp2_with fail;refine(aL.o aq).mono ?_;rintro e J ⟨rfl,a8⟩;have a7:=z0 (aE.o.trans (a8.mono aE.o.size));have ap:=z0 (b4.o.keep a8);have ar:=z0 ((a8.block _ (Lb aC.o)).trans aC.o);clear l1 a8;go_upto_region 3 with(fail)
 have a3:Below J.heap.size J J.drew:=(Below.refl _ _).drew;have a1:Hd (∀W,Below J.heap.size J W->W.cell? ⟨w.heap.size,0,none⟩=some (.int .i64 G.bo)):=z0 (fun W h=>(ah.o W (ap.o.keep h)).1);have b5:=(ah.o J.drew (ap.o.keep a3)).2;refine Rh (S:=fun W=>W.cell? ⟨w.heap.size,0,none⟩=some (.int .i64 G.bo)) (by kernel_rfl) (a1.o _ a3) (fun O=>?_);refine' z5 0 (h:=z5 1 (h:=?_));refine qc 2 (h:=fun I F=>?_);go_simp;refine F.out _ _ (a1.o _ a3) (fun O=>?_);clear F I;try simp only[zx]
 clear b5;refine qc 3 (h:=fun I F=>?_);go_simp;refine(an.o J.drew).mono ?_;rintro e ad ⟨b9,rfl,aY,aS⟩;have aa:=a3.trans aS;have ax:=aY.byt;obtain⟨am,al,rfl⟩:=ax.shape;refine F.out _ _ (a1.o _ aa) (fun O=>?_);clear F I;try simp only[zx]
 have a5:Below J.heap.size J (ad.alloc (.cells #[.slice am L.length al] 33)):=aa.alloc aa.size _;refine qc 4 (h:=fun I F=>?_);go_simp;refine F.out _ _ (a1.o _ a5) (fun O=>?_);clear F I;try simp only[zx]
 refine qc 5 (h:=fun I F=>?_);go_simp;refine(aO.o (.slice am L.length al) ad.heap.size 1 (ad.alloc (.cells #[.slice am L.length al] 33)) (a7.o.trans (a5.mono a7.o.size)) (by simp) (J2 _ _ _) (ax.alloc _)).mono ?_;rintro e w5 ⟨rfl,aU⟩;have M:=a5.trans (aU.mono a5.size);refine F.out _ _ (a1.o _ M) (fun O=>?_);clear F I;try simp only[zx]
 refine' z5 6 (h:=?_);refine qc 7 (h:=fun I F=>?_);refine VL _ _ rfl rfl (by rw[az.o];rfl) (ap.o.keep M) aJ.o aQ.o ?_;intro au aw aK b8;have av:=a7.o.trans (M.mono a7.o.size);have ab:=(aw.block _ (Nat.lt_of_lt_of_le (Lb ar.o) M.size) (fun e=>by injection e with e;omega)).trans ((M.block _ (Lb ar.o)).trans ar.o);have b1:Below w.heap.size w au:=zh av (Nat.le_refl _) aw av.size;refine F.out _ _ aK.cells.1 (fun O=>?_);clear F I;try simp only[Act.put]
 refine wpAnyH_done (by kernel_rfl) ?_ _;have b7:=aT.o au aK;have b6:=qF ab aN.o ae.o.1 ae.o.2;have ba:=Lb ab;go_wp2_with fail;refine Bp (results_cell_row rfl _ _ _ _ _ (0,0) _ rfl (qU ab) jF rfl (by rw[vE,ae.o.1])) rfl ⟨rfl,?_⟩;exact qA b1 (Nat.le_succ _)
end
section
attribute [local go_sem ↓] ze zf
theorem V3 (i:Int) (d:UInt8) (t:List UInt8) (J:t.length=32) (v0:Value) (l0:List UInt8) (F c:Nat) (w:World) (hg:F<w.heap.size) (h0:w.cell? ⟨F,0,none⟩=some v0) (b0:zP w v0 l0) (M:l0.length<=1000000) (K:yB 1 w):
  Calls prog 104 #[.int .i64 i,.int .u8 (d.toNat:Int),.agg (z2 t),.slice (some ⟨F,0,none⟩) 1 c] w fun e w'=>e=.returned (.bool (zS i && decide (t=hl 32 (Qd i d l0))))/\Below w.heap.size w w':=by
 have e:([l0]:List (List UInt8)).flatten=l0:=by simp
 have h:=z87 i d (fun j=>t.getD j 0) [l0] (fun _=>v0) F 1 c w rfl hg (fun j I=>by
  obtain rfl:j=0:=by omega
  exact h0) (fun j I=>by
  have N:j<1:=I;obtain rfl:j=0:=by omega
  exact b0) (by rw[e];omega) (by omega) K
 have G:hl 32 (fun j=>t.getD j 0)=t:=by
  apply List.ext_getElem
  ·rw[qe,J]
  ·intro j h1 h2;rw[z5A];simp[List.getD,h2]
 rw[e,kJ,G]at h;unfold Ky z0e at h;rw[G]at h;exact h
theorem z0k:z8j:=by
 intro a w ho hK;obtain⟨m,HM⟩:=nm (vA a);obtain⟨q,HQ⟩:=nm (decide (a.tg=QN a));have HR:Hd (yv a=(m && q)):=z0 (by unfold yv;rw[HM.o,HQ.o])
 have HMA:Hd (∀W,Calls prog 137 #[.agg (zy a)] W fun e w'=>e=.returned (.int .i64 (if m=true then 0 else 1))/\Below W.heap.size W w'):=z0 (fun W=>by
  have:=V1 a W ho;rw[HM.o]at this
  exact this)
 have HTD:Hd (m=true->∀W,Calls prog 138 #[.agg (zy a)] W fun e w'=>∃x,e=.returned x/\ql W.heap.size w' x (yY a)/\Below W.heap.size W w'):=z0 (fun h W=>VM a W ho (HM.o.trans h));obtain⟨L,HL⟩:=nm (yY a)
 have HKC:Hd (m=true->∀v gp c W,Below w.heap.size w W->gp<W.heap.size->W.cell? ⟨gp,0,none⟩=some v->zP W v L->Calls prog 104 #[.int .i64 a.bo,.int .u8 1,.agg (z2 a.tg),.slice (some ⟨gp,0,none⟩) 1 c] W fun e w'=>e=.returned (.bool q)/\Below W.heap.size W w'):=z0 (fun h v gp c W hb h1 h2 h3=>by
  have hm:vA a=true:=HM.o.trans h;have hlen:=YR ho hm;have hn:zS a.bo=true:=by
   obtain⟨j1,j2,_⟩:=ZJ hm;unfold zS;exact decide_eq_true ⟨j1,j2⟩
  have:=V3 a.bo 1 a.tg ho.tg v L gp c W h1 h2 h3 (by rw[<-HL.o];omega) (hK.below hb);rw[hn,Bool.true_and,<-HL.o]at this;rw[<-HQ.o]
  exact this)
 have hb0:Below w.heap.size w (w.alloc (.cells (zy a) 54)):=Ba;have hA:=qz.new w a;obtain⟨C,HC⟩:=nm (zy a);obtain⟨G,HG⟩:=nm (z2 a.tg);rw[HL.o,HC.o]at HTD;rw[HC.o]at HMA hb0 hA;rw[HG.o]at HKC;rw[HR.o,HC.o]
 have HX:Hd (∀W:World,qz W w.heap.size a->W.cell? ⟨w.heap.size,0,none⟩=some (.int .i64 a.bo)/\zI (.pointer (some ⟨w.heap.size,0,none⟩)) W=.ok (.value (.agg C)) W/\qE (.pointer (some ⟨w.heap.size,69,none⟩)) W=.ok (.value (.agg G)) W):=z0 (fun W h=>by
  have h1:=ji h ho;have h2:=zD (h.tag ho) ho.tg;rw[HC.o]at h1;rw[HG.o]at h2
  exact⟨h.cells.1,h1,h2⟩)
 clear hK ho HL HQ HR;go_enter func124,ntmps124;go_upto_region 1 with(fail)
 generalize (w.alloc (.cells C 54))=w0 at *;have HXW:=z0 (fun W (h:Below w0.heap.size w0 W)=>HX.o W (hA.keep h));have hbd:Below w0.heap.size w0 w0.drew:=(Below.refl _ _).drew;clear hA;refine Rh (S:=fun W=>W.cell? ⟨w.heap.size,0,none⟩=some (.int .i64 a.bo)/\zI (.pointer (some ⟨w.heap.size,0,none⟩)) W=.ok (.value (.agg C)) W/\qE (.pointer (some ⟨w.heap.size,69,none⟩)) W=.ok (.value (.agg G)) W) (by kernel_rfl) (HXW.o _ hbd) (fun hHeld=>?_);refine' tk (i:=0) (v:=_) rfl (fun W hW=>hW.2.1) ?_;try simp only[zx]
 refine qc 1 (h:=fun K hK=>?_);go_simp;refine(HMA.o w0.drew).mono ?_;rintro e w2 ⟨rfl,hb2'⟩;have hb2:=hbd.trans hb2';refine hK.out _ _ (HXW.o _ hb2) (fun hHeld=>?_);clear hK K;try simp only[zx]
 cases m with
 |false=>
  simp only[Bool.false_eq_true,if_false];refine' z5 2 (h:=z5 3 (h:=tn 4 (h:=tn 5 (h:=tn 6 (h:=tn 7 (h:=tn 8 (h:=tn 9 (h:=tn 10 (h:=tn 11 (h:=z5 12 (h:=z5 13 (h:=?_))))))))))));refine wpAnyH_done (by kernel_rfl) ?_ _;go_wp2;go_ret;exact⟨rfl,hb0.trans (hb2.mono hb0.size)⟩
 |true=>
  simp only[if_true];refine' z5 2 (h:=z5 3 (h:=z5 4 (h:=vX 5 (h:=z5 6 (h:=?_)))));refine' tk (i:=7) (v:=_) rfl (fun W hW=>hW.2.2) ?_;try simp only[zx]
  refine' tk (i:=8) (v:=_) rfl (fun W hW=>hW.2.1) ?_;try simp only[zx]
  refine qc 9 (h:=fun K hK=>?_);go_simp;refine(HTD.o rfl w2).mono ?_;rintro e w3 ⟨v3,rfl,ho3,hb3'⟩;have hb3:=hb2.trans (hb3'.mono hb2.size);have hv3:=ho3.byt;obtain⟨A3,c3,rfl⟩:=hv3.shape;refine hK.out _ _ (HXW.o _ hb3) (fun hHeld=>?_);clear hK K;try simp only[zx]
  have hb4:Below w0.heap.size w0 (w3.alloc (.cells #[.slice A3 L.length c3] 33)):=hb3.alloc hb3.size _;refine qc 10 (h:=fun K hK=>?_);go_simp;refine hK.out _ _ (HXW.o _ hb4) (fun hHeld=>?_);clear hK K;try simp only[zx]
  refine qc 11 (h:=fun K hK=>?_);go_simp;refine(HKC.o rfl (.slice A3 L.length c3) w3.heap.size 1 (w3.alloc (.cells #[.slice A3 L.length c3] 33)) (hb0.trans (hb4.mono hb0.size)) (by simp) (by simp) (hv3.alloc _)).mono ?_;rintro e w5 ⟨rfl,hb5'⟩;have hb5:=hb4.trans (hb5'.mono hb4.size);refine hK.out _ _ (HXW.o _ hb5) (fun hHeld=>?_);clear hK K;try simp only[zx]
  refine' z5 12 (h:=z5 13 (h:=?_));refine wpAnyH_done (by kernel_rfl) ?_ _;go_wp2;go_ret;exact⟨rfl,hb0.trans (hb5.mono hb0.size)⟩
end
section
theorem z36 (w:World) (T:TypeId) (C0 C:Array Value):qb (w.alloc (.cells C0 T)) w.heap.size C=w.alloc (.cells C T):=by
 have F:∀(a:Array Obj) (x:Obj) (f:Obj->Obj),(a.push x).modify a.size f=a.push (f x):=by
  intro a x f;apply Array.ext_getElem?;intro k;rw[Array.getElem?_modify];by_cases h:a.size=k
  ·subst h;simp
  ·rw[if_neg h,Array.getElem?_push,Array.getElem?_push];rw[if_neg (fun e=>h e.symm),if_neg (fun e=>h e.symm)]
 unfold qb World.setRow World.alloc;simp only[F]
theorem Qk (w:World) {Z S:Array Value} (F:Z.size=101) (G:S.size=101) (h1:S.all (·.oneCell')=true):
  Z8 (.pointer (some ⟨w.heap.size,0,none⟩)) (.agg S) (w.alloc (.cells Z 54))=.ok .skip (w.alloc (.cells S 54)):=by
 rw[qF (Xh w _) F G h1,z36]
attribute [local go_sem ↓] ze zn zo
end
section
noncomputable def zdo (u v:Value) (w:World):Result Next:=Sem.run prog (execOp (fun x=>match x with
 | .tmp 0=>u
 | _ => v) { dst := none, op := .binOp .eql 54 (.tmp 0) (.tmp 1) 54, type := 0, pos := "", after := #[], guard := none }) w
theorem Xa (r:Operand->Value) (i j:Tmp) (dst:Option Tmp) (ty:TypeId) (pos:String) (after:Array Edge) (guard:Option (Nat×Bool)) (w:World):
  Sem.run prog (execOp r { dst:=dst,op:=.binOp .eql 54 (.tmp i) (.tmp j) 54,type:=ty,pos:=pos,after:=after,guard:=guard }) w=zdo (r (.tmp i)) (r (.tmp j)) w:=rfl
attribute [local go_sem ↓] ze zf Xa
end
structure YH where
 bo:Int
 tg:List UInt8
 deriving DecidableEq
def YH.Ok (s:YH):Prop:=s.tg.length=32
structure YL where
 att:y8
 sg:List YH
 deriving DecidableEq
structure YL.Ok (c:YL):Prop where
 att:c.att.Ok
 sg:∀s∈c.sg,s.Ok
def ctZ:YL:=⟨ju,[]⟩
theorem zcI:ctZ.Ok:=⟨qf,fun s F=>absurd F (by simp[ctZ])⟩
def j5 (a:y8) (s:YH):y8:={ a with bo:=s.bo,tg:=s.tg }
theorem ZR {a:y8}{s:YH} (ha:a.Ok) (F:s.Ok):(j5 a s).Ok:=⟨ha.ha,ha.pa,F⟩
def qN (top:Int):Int->List YH->Bool
 |_,[]=>true
 |last,s :: r=>(decide (last<s.bo) && decide (s.bo<=top)) && qN top s.bo r
theorem z0l {top:Int}:∀{l:List YH}{last:Int},qN top last l=true->∀s∈l,last<s.bo/\s.bo<=top
 | [],_,_,s,F=>by cases F
 |x :: r,last,h,s,F=>by
  unfold qN at h;simp only[Bool.and_eq_true,decide_eq_true_eq]at h;obtain⟨⟨h1,h2⟩,h3⟩:=h;rcases List.mem_cons.1 F with rfl|F
  ·exact⟨h1,h2⟩
  ·have:=z0l h3 s F;omega
theorem z0m {top k:Int}:∀{l:List YH}{last:Int},qN k last l=true->k<=top->qN top last l=true
 | [],_,_,_=>rfl
 |x :: r,last,h,h1=>by
  unfold qN at h⊢;simp only[Bool.and_eq_true,decide_eq_true_eq]at h⊢;exact⟨⟨h.1.1,by omega⟩,z0m h.2 h1⟩
def z24 (c:YL):Bool:=decide (c.att.bo=0) && decide (c.att.tg=qx)
def jy (n:Int) (c:YL):Bool:=decide (qC n≠0) && (decide (c.sg.length=qC n) && (qN n 0 c.sg && (z24 c && c.sg.all fun s=>yv (j5 c.att s))))
def z4q (c:YL):Bool:=z24 c && (vA (j5 c.att ⟨1,qx⟩) && (decide (0<c.sg.length) && qN 21 0 c.sg))
theorem ZU {n:Int} (h:qC n≠0):1<=n/\n<=21/\0<qC n/\n<2*(qC n:Int):=by
 unfold qC at h⊢;split at h
 ·rename_i F;rw[if_pos F];omega
 ·exact absurd rfl h
section
structure vU where
 bo:Int
 vi:Int
 pv:Int
 pa:List UInt8
 fr:List Int
 tg:List UInt8
 deriving DecidableEq
structure vU.Ok (a:vU):Prop where
 pa:a.pa.length=32
 tg:a.tg.length=32
def Zy:vU:=⟨0,0,0,qx,[],qx⟩
theorem Zh:Zy.Ok:=⟨rfl,rfl⟩
def qu (top:Int):Int->List Int->Bool
 |_,[]=>true
 |last,x :: r=>(decide (last<x) && decide (x<=top)) && qu top x r
theorem ZV {top:Int}:∀{l:List Int}{last:Int},qu top last l=true->∀x∈l,last<x/\x<=top
 | [],_,_,s,F=>by cases F
 |x :: r,last,h,s,F=>by
  unfold qu at h;simp only[Bool.and_eq_true,decide_eq_true_eq]at h;obtain⟨⟨h1,h2⟩,h3⟩:=h;rcases List.mem_cons.1 F with rfl|F
  ·exact⟨h1,h2⟩
  ·have:=ZV h3 s F;omega
theorem VN {top:Int}:∀{l:List Int}{last:Int},qu top last l=true->l.Nodup
 | [],_,_=>List.nodup_nil
 |x :: r,last,h=>by
  unfold qu at h;simp only[Bool.and_eq_true,decide_eq_true_eq]at h;rw[List.nodup_cons];refine⟨fun F=>?_,VN h.2⟩;have:=(ZV h.2 x F).1;omega
theorem z5X {l:List Int}{top:Nat} (h:qu (top:Int) 0 l=true):l.length<=top:=
 Kn top l (VN h) (fun x hx=>by
  have:=ZV h x hx
  omega)
theorem Xb {top k x:Int}:∀{l:List Int}{last:Int},qu k last l=true->last<=k->k<x->x<=top->k<=top->qu top last (l ++ [x])=true
 | [],last,_,h0,h1,h2,_=>by
  show((decide (last<x) && decide (x<=top)) && true)=true;simp only[Bool.and_true,Bool.and_eq_true,decide_eq_true_eq];omega
 |y :: r,last,h,h0,h1,h2,h3=>by
  unfold qu at h;simp only[Bool.and_eq_true,decide_eq_true_eq]at h;rw[List.cons_append];unfold qu;simp only[Bool.and_eq_true,decide_eq_true_eq];exact⟨⟨h.1.1,by omega⟩,Xb h.2 h.1.2 h1 h2 h3⟩
theorem V4 {top k:Int}:∀{l:List Int}{last:Int},qu k last l=true->k<=top->qu top last l=true
 | [],_,_,_=>rfl
 |x :: r,last,h,h1=>by
  unfold qu at h⊢;simp only[Bool.and_eq_true,decide_eq_true_eq]at h⊢;exact⟨⟨h.1.1,by omega⟩,V4 h.2 h1⟩
def z0n (l:List Int):Int:=(l[l.length - 1]?).getD 0
theorem z4r {l:List Int} (h:0<l.length):z0n l=l[l.length - 1]:=by
 unfold z0n;rw[List.getElem?_eq_getElem (by omega)];rfl
def QP (a:vU):Bool:=qu 21 0 a.fr && decide (1<=a.bo/\a.bo<=21/\1<=a.vi/\a.vi<=1099511627776/\0<=a.pv/\a.pv<a.vi/\1<=a.fr.length)
theorem xk {a:vU}:QP a=true ↔ qu 21 0 a.fr=true/\(1<=a.bo/\a.bo<=21/\1<=a.vi/\a.vi<=1099511627776/\0<=a.pv/\a.pv<a.vi/\1<=a.fr.length):=by
 unfold QP;simp only[Bool.and_eq_true,decide_eq_true_eq]
def frB (l:List Int):List UInt8:=(l.map fun x=>dg x.toNat).flatten
def jo (a:vU):List UInt8:=dg a.vi.toNat ++ (dg a.pv.toNat ++ (a.pa ++ (dg a.fr.length ++ frB a.fr)))
def ZW (a:vU):List UInt8:=hl 32 (Qd a.bo 2 (jo a))
theorem J3 (a:vU):(ZW a).length=32:=qe _ _
def xm (n:Int) (a:vU):Bool:=decide (qC n≠0) && (QP a && (decide (a.bo<=n) && (decide (a.fr.length=qC n) && (decide (z0n a.fr<=n) && decide (a.tg=ZW a)))))
theorem z37 (l:List Int) (h:∀x∈l,1<=x/\x<=21):(frB l).length=l.length:=by
 unfold frB
 induction l with
 |nil=>rfl
 |cons x r ih=>
  have hx:=h x (by simp);rw[List.map_cons,List.flatten_cons,List.length_append,ih (fun y F=>h y (List.mem_cons_of_mem _ F)),yx (by omega),List.length_cons,List.length_cons,List.length_nil];omega
theorem z38 {a:vU} (h:QP a=true):(∀x∈a.fr,1<=x/\x<=21)/\a.fr.length<=21:=by
 have:=(xk.1 h).1;exact⟨fun x hx=>by have:=ZV this x hx;omega,z5X (top:=21) this⟩
theorem Ql {a:vU} (ho:a.Ok) (F:QP a=true):(jo a).length<=100:=by
 obtain⟨_,h1,h2,h3,I,a0,a1,M⟩:=xk.1 F;obtain⟨G,O⟩:=z38 F;have K:=zk (n:=a.vi.toNat) (by omega);have J:=zk (n:=a.pv.toNat) (by omega);have N:=zk (n:=a.fr.length) (by omega);have:=ho.pa;have:=z37 a.fr G;unfold jo;simp only[List.length_append];omega
def j8 (l:List y8) (q:Nat):Nat->List Int×Int×List UInt8
 |0=>([],0,qx)
 |k+1=>if (j8 l q k).1.length<q then match l.find? (fun a=>decide (a.bo=((k+1:Nat):Int))) with
  |some a=>if (j8 l q k).1=[]\/(j8 l q k).2.1<a.pv then ((j8 l q k).1 ++ [((k+1:Nat):Int)],a.pv,a.pa) else ((j8 l q k).1 ++ [((k+1:Nat):Int)],(j8 l q k).2)
  |none=>j8 l q k
  else j8 l q k
def kM (n vi:Int) (a:y8):Bool:=yv a && (decide (a.ki=1) && (decide (a.vi=vi) && decide (a.bo<=n)))
def jI (b vi:Int) (s:List Int×Int×List UInt8):vU:=⟨b,vi,s.2.1,s.2.2,s.1,qx⟩
def vu (b n vi:Int) (l:List y8):vU×Int:=
 if qC n=0\/b<1\/n<b\/vi<1\/1099511627776<vi then (Zy,1)
 else if (l.all (kM n vi))=false then (Zy,7)
 else if (j8 l (qC n) n.toNat).1.length<qC n then (Zy,3)
 else ({ jI b vi (j8 l (qC n) n.toNat) with tg:=ZW (jI b vi (j8 l (qC n) n.toNat)) },0)
section
variable {b n vi:Int}{l:List y8}{q:Nat}
theorem vk (h:qC n=0\/b<1\/n<b\/vi<1\/1099511627776<vi):vu b n vi l=(Zy,1):=by
 unfold vu;rw[if_pos h]
theorem QQ (h:¬(qC n=0\/b<1\/n<b\/vi<1\/1099511627776<vi)) (h2:(l.all (kM n vi))=false):vu b n vi l=(Zy,7):=by
 unfold vu;rw[if_neg h,if_pos h2]
theorem KB (h:¬(qC n=0\/b<1\/n<b\/vi<1\/1099511627776<vi)) (h2:(l.all (kM n vi))=true) (h3:(j8 l (qC n) n.toNat).1.length<qC n):vu b n vi l=(Zy,3):=by
 unfold vu;rw[if_neg h,if_neg (by rw[h2];decide),if_pos h3]
theorem V5 (h:¬(qC n=0\/b<1\/n<b\/vi<1\/1099511627776<vi)) (h2:(l.all (kM n vi))=true) (h3:¬(j8 l (qC n) n.toNat).1.length<qC n):
  vu b n vi l=({ jI b vi (j8 l (qC n) n.toNat) with tg:=ZW (jI b vi (j8 l (qC n) n.toNat)) },0):=by
 unfold vu;rw[if_neg h,if_neg (by rw[h2];decide),if_neg h3]
theorem XH (l:List y8) (q:Nat):∀k,(j8 l q k).1.length<=q
 |0=>Nat.zero_le _
 |k+1=>by
  have:=XH l q k;unfold j8;split
  ·split
   ·split <;> (simp only[List.length_append,List.length_cons,List.length_nil];omega)
   ·exact this
  ·exact this
theorem KC (l:List y8) (q:Nat):∀k:Nat,qu (k:Int) 0 (j8 l q k).1=true
 |0=>rfl
 |k+1=>by
  have h:=KC l q k;have e:qu ((k+1:Nat):Int) 0 (j8 l q k).1=true:=V4 h (by omega);have F:qu ((k+1:Nat):Int) 0 ((j8 l q k).1 ++ [((k+1:Nat):Int)])=true:=Xb h (by omega) (by omega) (by omega) (by omega);unfold j8;split
  ·split
   ·split <;> exact F
   ·exact e
  ·exact e
theorem z4s (l:List y8) (q:Nat):∀k:Nat,(∀x∈(j8 l q k).1,∃a∈l,l.find? (fun t=>decide (t.bo=x))=some a/\a.pv<=(j8 l q k).2.1)/\
  ((j8 l q k).1≠[]->∃x∈(j8 l q k).1,∃a∈l,l.find? (fun t=>decide (t.bo=x))=some a/\a.pv=(j8 l q k).2.1/\a.pa=(j8 l q k).2.2)
 |0=>⟨fun x hx=>absurd hx (by simp[j8]),fun h=>absurd rfl h⟩
 |k+1=>by
  obtain⟨h1,h2⟩:=z4s l q k;unfold j8;split
  ·split
   ·rename_i a ha;have G:=List.mem_of_find?_eq_some ha;split
    ·rename_i F;refine⟨fun x hx=>?_,fun _=>⟨_,List.mem_append_right _ (List.mem_singleton.2 rfl),a,G,ha,rfl,rfl⟩⟩;rcases List.mem_append.1 hx with hx|hx
     ·obtain⟨t,I,e,hp⟩:=h1 x hx;refine⟨t,I,e,?_⟩;simp only;rcases F with F|F
      ·rw[F]at hx;cases hx
      ·omega
     ·obtain rfl:=List.mem_singleton.1 hx;exact⟨a,G,ha,Int.le_refl _⟩
    ·rename_i F;have J:(j8 l q k).1≠[]:=fun e=>F (.inl e);refine⟨fun x hx=>?_,fun _=>?_⟩
     ·rcases List.mem_append.1 hx with hx|hx
      ·exact h1 x hx
      ·obtain rfl:=List.mem_singleton.1 hx;exact⟨a,G,ha,by simp only;omega⟩
     ·obtain⟨x,hx,t,I,e,hp⟩:=h2 J;exact⟨x,List.mem_append_left _ hx,t,I,e,hp⟩
   ·exact⟨h1,h2⟩
  ·exact⟨h1,h2⟩
theorem z9N {k:Nat} (h:¬(j8 l q k).1.length<q):∀m,k<=m->j8 l q m=j8 l q k:=by
 intro m F
 induction m with
 |zero=>rw[show k=0 from by omega]
 |succ m ih=>
  by_cases e:k=m+1
  ·rw[e]
  ·have:=ih (by omega);rw[<-this]at h⊢
   conv=>lhs;unfold j8
   rw[if_neg h]
theorem KD {k i:Nat} (h:(j8 l q k).1.length<q) (hi:i<l.length) (I:l[i].bo=((k+1:Nat):Int)) (hn:∀j (F:j<l.length),j<i->l[j].bo≠((k+1:Nat):Int)):
  j8 l q (k+1)=if (j8 l q k).1=[]\/(j8 l q k).2.1<l[i].pv then ((j8 l q k).1 ++ [((k+1:Nat):Int)],l[i].pv,l[i].pa) else ((j8 l q k).1 ++ [((k+1:Nat):Int)],(j8 l q k).2):=by
 have G:l.find? (fun a=>decide (a.bo=((k+1:Nat):Int)))=some l[i]:=by
  rw[List.find?_eq_some_iff_getElem];exact⟨decide_eq_true I,i,hi,rfl,fun j F=>by simpa using hn j (by omega) F⟩
 conv=>lhs;unfold j8
 rw[if_pos h,G]
theorem z4t {k:Nat} (hn:∀j (F:j<l.length),l[j].bo≠((k+1:Nat):Int)):j8 l q (k+1)=j8 l q k:=by
 have G:l.find? (fun a=>decide (a.bo=((k+1:Nat):Int)))=none:=by
  rw[List.find?_eq_none];intro a ha;obtain⟨j,F,rfl⟩:=List.getElem_of_mem ha
  simpa using hn j F
 conv=>lhs;unfold j8
 rw[G];simp
theorem z25 {a:y8}:kM n vi a=true ↔ yv a=true/\a.ki=1/\a.vi=vi/\a.bo<=n:=by
 unfold kM;simp only[Bool.and_eq_true,decide_eq_true_eq]
theorem z9O {a:y8} (h:kM n vi a=true):0<=a.pv/\a.pv<vi:=by
 obtain⟨h1,h2,h3,_⟩:=z25.1 h;have F:vA a=true:=by
  unfold yv at h1;rw[Bool.and_eq_true]at h1;exact h1.1
 have:=ZJ F;unfold vA at F;split at F
 ·cases F
 ·simp only[Bool.or_eq_true,Bool.and_eq_true,decide_eq_true_eq]at F;omega
theorem z9P (h:∀a∈l,a.Ok):∀k,(j8 l q k).2.2.length=32
 |0=>rfl
 |k+1=>by
  have ih:=z9P h k;unfold j8;split
  ·split
   ·rename_i a ha;split
    ·exact(h a (List.mem_of_find?_eq_some ha)).pa
    ·exact ih
   ·exact ih
  ·exact ih
theorem z39 (h:¬(qC n=0\/b<1\/n<b\/vi<1\/1099511627776<vi)) (h2:(l.all (kM n vi))=true) (h3:¬(j8 l (qC n) n.toNat).1.length<qC n):QP (jI b vi (j8 l (qC n) n.toNat))=true:=by
 simp only[not_or,Int.not_lt]at h;obtain⟨h0,N,O,J,K⟩:=h;have hn:=ZU h0;have I:=KC l (qC n) n.toNat;have M:=XH l (qC n) n.toNat;obtain⟨_,G⟩:=z4s l (qC n) n.toNat;have F:(j8 l (qC n) n.toNat).1≠[]:=fun e=>by
  rw[e]at h3;simp at h3;omega
 obtain⟨x,_,a,ha,_,hp,_⟩:=G F;have hg:=z9O (List.all_eq_true.1 h2 a ha);have hl:0<(j8 l (qC n) n.toNat).1.length:=List.length_pos_iff.2 F;refine xk.2 ⟨V4 I (by omega),?_⟩;unfold jI;simp only;omega
end
end
structure yw where
 s:ym
 a:y8
 e:Int
def qV (e:Int):yw:=⟨yj,ju,e⟩
def jj (s F:ym) (a:y8):yw:=if QL s F=true then ⟨F,{ a with ki:=F.ph,vi:=F.vi,ph:=F.ph },0⟩ else qV 11
def vy (s:ym) (v:Int):yw:=if qZ s=true/\1<=v/\v<=1099511627776 then jj s ⟨v,1,s.pv,s.pa⟩ ⟨0,0,0,0,qx,s.pv,s.pa,qx⟩ else qV 1
noncomputable def xn (b:kR):List UInt8:=hl 32 (VK b)
theorem Zz (b:kR):(xn b).length=32:=qe _ _
noncomputable def yi (s:ym) (n:Int) (b:kR) (a:vU):yw:=
 if qZ s=true/\jV b=true/\b.vi≠0 then
  (if xm n a=true/\a.vi=b.vi/\a.pa=b.par then jj s ⟨b.vi,2,s.pv,s.pa⟩ ⟨0,0,0,0,xn b,a.pv,a.pa,qx⟩ else qV 7)
 else qV 1
noncomputable def yl (s:ym) (n:Int) (c:YL):yw:=
 if qZ s=true then
  (if jy n c=true/\c.att.ki=2 then jj s ⟨c.att.vi,3,c.att.vi,c.att.ha⟩ ⟨0,0,0,0,c.att.ha,c.att.vi,c.att.ha,qx⟩ else qV 7)
 else qV 1
structure yw.Ok (t:yw):Prop where
 s:t.s.Ok
 a:t.a.Ok
theorem qO (e:Int):(qV e).Ok:=⟨qp,qf⟩
theorem ZY {s F:ym}{a:y8} (hn:F.Ok) (ha:a.Ok):(jj s F a).Ok:=by
 unfold jj;split
 ·exact⟨hn,⟨ha.ha,ha.pa,ha.tg⟩⟩
 ·exact qO _
theorem z7b {s:ym} (F:s.Ok) (v:Int):(vy s v).Ok:=by
 unfold vy;split
 ·exact ZY F ⟨rfl,F,rfl⟩
 ·exact qO _
theorem z4u {s:ym}{n:Int}{b:kR}{a:vU} (F:s.Ok) (ha:a.Ok):(yi s n b a).Ok:=by
 unfold yi;split
 ·split
  ·exact ZY F ⟨Zz b,ha.pa,rfl⟩
  ·exact qO _
 ·exact qO _
theorem z26 {s:ym}{n:Int}{c:YL} (F:c.Ok):(yl s n c).Ok:=by
 unfold yl;split
 ·split
  ·exact ZY F.att.ha ⟨F.att.ha,F.att.ha,rfl⟩
  ·exact qO _
 ·exact qO _
structure KE (s:ym) (t:yw):Prop where
 ok:t.Ok
 no:t.e≠0->t.s=yj/\t.a=ju
 may:t.e=0->qZ t.s=true/\QL s t.s=true/\vA { t.a with bo:=1 }=true
 eq:t.e=0->t.a.vi=t.s.vi/\t.a.ph=t.s.ph
 up:t.e=0->s.pv<t.s.pv\/(t.s.pv=s.pv/\t.s.pa=s.pa)
theorem Jr {s:ym} (e:Int) (he:e≠0):KE s (qV e):=⟨qO e,fun _=>⟨rfl,rfl⟩,fun h=>absurd h he,fun h=>absurd h he,fun h=>absurd h he⟩
theorem KF {s F:ym}{a:y8} (hn:F.Ok) (ha:a.Ok) (h:QL s F=true->qZ F=true/\vA { a with bo:=1,ki:=F.ph,vi:=F.vi,ph:=F.ph }=true/\(s.pv<F.pv\/(F.pv=s.pv/\F.pa=s.pa))):KE s (jj s F a):=by
 by_cases hl:QL s F=true
 ·obtain⟨h1,h2,h3⟩:=h hl;have e:jj s F a=⟨F,{ a with ki:=F.ph,vi:=F.vi,ph:=F.ph },0⟩:=by unfold jj;rw[if_pos hl]
  have G:=ZY (s:=s) hn ha;rw[e]at G⊢;exact⟨G,fun h=>absurd rfl h,fun _=>⟨h1,hl,h2⟩,fun _=>⟨rfl,rfl⟩,fun _=>h3⟩
 ·have e:jj s F a=qV 11:=by unfold jj;rw[if_neg hl]
  rw[e];exact Jr 11 (by decide)
theorem V6 {s t:ym} (h:QL s t=true):s.vi<t.vi\/(s.vi=t.vi/\s.ph<t.ph):=by
 unfold QL at h
 simpa using h
theorem KG {s:ym} (h:qZ s=true):(s.vi=0/\s.ph=0/\s.pv=0)\/(1<=s.vi/\s.vi<=1099511627776/\1<=s.ph/\s.ph<=3/\0<=s.pv/\(s.pv<s.vi\/(s.pv=s.vi/\s.ph=3))):=by
 unfold qZ at h;split at h
 ·rw[decide_eq_true_eq]at h;subst h;exact .inl ⟨rfl,rfl,rfl⟩
 ·rename_i h0;split at h
  ·cases h
  ·rename_i h1;simp only[Bool.or_eq_true,Bool.and_eq_true,decide_eq_true_eq]at h;refine .inr ⟨by omega,by omega,by omega,by omega,by omega,h⟩
theorem z3a {s:ym} (h:1<=s.vi/\s.vi<=1099511627776/\1<=s.ph/\s.ph<=3/\0<=s.pv/\(s.pv<s.vi\/(s.pv=s.vi/\s.ph=3))):qZ s=true:=by
 obtain⟨h1,h2,h3,G,I,F⟩:=h;unfold qZ;rw[if_neg (by omega),if_neg (by omega)]
 simpa using F
theorem z3b {a:y8} (h:1<=a.bo/\a.bo<=21/\1<=a.ki/\a.ki<=3/\a.ph=a.ki/\1<=a.vi/\a.vi<=1099511627776/\0<=a.pv/\(a.pv<a.vi\/(a.ki=3/\a.pv=a.vi))):vA a=true:=by
 obtain⟨h1,h2,h3,I,K,M,J,G,F⟩:=h;unfold vA;rw[if_neg (by omega)]
 simpa using F
theorem z27 {s:ym} (G:s.Ok) (v:Int):KE s (vy s v):=by
 unfold vy;split
 ·rename_i h;obtain⟨F,h1,h2⟩:=h;refine KF G ⟨rfl,G,rfl⟩ (fun hl=>?_);have hl:=V6 hl;have F:=KG F;simp only at hl;refine⟨z3a ?_,z3b ?_,.inr ⟨rfl,rfl⟩⟩
  ·dsimp only;omega
  ·dsimp only;omega
 ·exact Jr 1 (by decide)
theorem z0o {s:ym} (I:s.Ok) {n:Int}{b:kR}{a:vU} (ha:a.Ok):KE s (yi s n b a):=by
 unfold yi;split
 ·rename_i h;obtain⟨G,O,h0⟩:=h;split
  ·rename_i h;obtain⟨F,J,hp⟩:=h;have hx:QP a=true:=by
    unfold xm at F;simp only[Bool.and_eq_true]at F;exact F.2.1
   obtain⟨_,x1,x2,N,a0,K,M,a1⟩:=xk.1 hx;refine KF I ⟨Zz b,ha.pa,rfl⟩ (fun hl=>?_);have hl:=V6 hl;have G:=KG G;simp only at hl;refine⟨z3a ?_,z3b ?_,.inr ⟨rfl,rfl⟩⟩
   ·dsimp only;omega
   ·dsimp only;omega
  ·exact Jr 7 (by decide)
 ·exact Jr 1 (by decide)
theorem z4v {n:Int}{c:YL} (h:jy n c=true):1<=c.att.vi/\c.att.vi<=1099511627776:=by
 unfold jy at h;simp only[Bool.and_eq_true,decide_eq_true_eq]at h;obtain⟨h1,h2,_,_,G⟩:=h;cases hg:c.sg with
 |nil=>rw[hg]at h2;simp at h2;omega
 |cons g r=>
  rw[hg,List.all_cons,Bool.and_eq_true]at G;have F:=G.1;unfold yv at F;simp only[Bool.and_eq_true]at F;have:=ZJ F.1;exact⟨this.2.2.2.2.2.1,this.2.2.2.2.2.2.1⟩
theorem Xc {s:ym}{n:Int}{c:YL} (F:c.Ok):KE s (yl s n c):=by
 unfold yl;split
 ·rename_i G;split
  ·rename_i h;obtain⟨I,J⟩:=h;obtain⟨h1,h2⟩:=z4v I;refine KF F.att.ha ⟨F.att.ha,F.att.ha,rfl⟩ (fun hl=>?_);have hl:=V6 hl;have G:=KG G;simp only at hl;refine⟨z3a ?_,z3b ?_,.inl ?_⟩
   ·dsimp only;omega
   ·dsimp only;omega
   ·dsimp only;omega
  ·exact Jr 7 (by decide)
 ·exact Jr 1 (by decide)
def Xt (s:ym) (v p:Int):Bool:=decide (v<s.vi) || (decide (s.vi=v) && decide (p<=s.ph))
theorem z28 (s F:ym):QL s F=!Xt s F.vi F.ph:=by
 unfold QL Xt;by_cases h1:s.vi<F.vi
 ·rw[decide_eq_true h1,decide_eq_false (by omega:¬F.vi<s.vi),decide_eq_false (by omega:¬s.vi=F.vi)];rfl
 ·by_cases h2:s.vi=F.vi
  ·rw[decide_eq_false h1,decide_eq_true h2,decide_eq_false (by omega:¬F.vi<s.vi)];by_cases h3:s.ph<F.ph
   ·rw[decide_eq_true h3,decide_eq_false (by omega:¬F.ph<=s.ph)];rfl
   ·rw[decide_eq_false h3,decide_eq_true (by omega:F.ph<=s.ph)];rfl
  ·rw[decide_eq_false h1,decide_eq_false h2,decide_eq_true (by omega:F.vi<s.vi)];rfl
theorem Js {s F:ym}{a:y8} (h:Xt s F.vi F.ph=true):jj s F a=qV 11:=by
 unfold jj;rw[z28,h];rfl
theorem VO {s F:ym}{a:y8} (h:Xt s F.vi F.ph=false):jj s F a=⟨F,{ a with ki:=F.ph,vi:=F.vi,ph:=F.ph },0⟩:=by
 unfold jj;rw[z28,h];rfl
theorem z5Y {b:kR} (h:jV b=true):kj b YK=decide (b.vi=0):=by
 by_cases h0:b=YK
 ·subst h0;rw[z06];rfl
 ·have F:=jU h0;rw[F];unfold jV at h;rw[F,Bool.false_or,Bool.and_eq_true]at h;have hn:=h.2;unfold Qi at hn;symm;rw[decide_eq_false_iff_not];intro G;simp[G]at hn
def V8 (i n:Int) (s:ym):Bool:=zS i && (jY n && qZ s)
def z8l:Prop:=∀(s:ym) (w:World),s.Ok->Calls prog 80 #[.agg (zp s)] w fun e w'=>e=.returned (.int .i64 (if qZ s=true then 0 else 1))/\Below w.heap.size w w'
def z9Q:Prop:=∀(a b:ym) (w:World),a.Ok->b.Ok->Calls prog 139 #[.agg (zp a),.agg (zp b)] w fun e w'=>e=.returned (.bool (QL a b))/\Below w.heap.size w w'
def zbj:Prop:=∀(i:Int) (v:Value) (l:List UInt8) (w:World),(Lit.int .i64 i).wf=true->zP w v l->l.length<=1000000->yB 1 w->
 Calls prog 58 #[.int .i64 i,v] w fun e w'=>e=.returned (.tuple #[.int .i64 (kQ i l).1,.agg (zp (kQ i l).2.1),.int .i64 (kQ i l).2.2])/\Below w.heap.size w w'
theorem z8m : (prog.fieldsOf 40).toList.map (fun f => (f.type, f.offset, f.name == "_")) =
  [(3,0,false),(3,1,false),(3,2,false),(38,3,false)]:=by kernel_rfl
theorem zcg (a b:ym) (ho:a.Ok) (hp:b.Ok) (w:World):(Op.equalIn 10000 40 (.agg (zp a)) (.agg (zp b))).run prog w=.ok (decide (a=b)) w:=by
 have G:∀c:ym,c.Ok->(zp c)[0]?=some (.int .i64 c.vi)/\(zp c)[1]?=some (.int .i64 c.ph)/\(zp c)[2]?=some (.int .i64 c.pv)/\((zp c).toList.drop 3).take 32=z4 c.pa:=by
  intro c J;refine⟨rfl,rfl,rfl,?_⟩;exact XF (pre:=[.int .i64 c.vi,.int .i64 c.ph,.int .i64 c.pv]) (m:=z4 c.pa) (post:=[]) (by show sel c=_;rw[List.append_nil];rfl) rfl (by rw[z6];exact J)
 obtain⟨K,N,I,M⟩:=G a ho;obtain⟨b0,b1,b2,b3⟩:=G b hp;have F:∀x y:Int,(Op.equalIn 9999 3 (.int .i64 x) (.int .i64 y)).run prog w=.ok (x == y) w:=fun x y=>run_equalIn_int (P:=prog) w 9998 3 .i64 .i64 x y JH;rw[run_equalIn_struct w 9999 _ _ _ xi (by kernel_rfl),z5H,z8m];rw[jW (qt K) (qt b0) (F _ _),jW (qt N) (qt b1) (F _ _),jW (qt I) (qt b2) (F _ _),jW (jf M) (jf b3) (Yg 9997 _ _ ho hp w)];obtain⟨p1,p2,p3,p4⟩:=a;obtain⟨a2,O,a0,a1⟩:=b;simp only[eqF,Sem.run_pure,ym.mk.injEq,beq_iff_eq,decide_eq_true_eq]
 (repeat' split) <;> simp_all
noncomputable def z8n (u v:Value) (w:World):Result Next:=Sem.run prog (execOp (fun x=>match x with
 | .tmp 0=>u
 | _ => v) { dst := none, op := .binOp .eql 40 (.tmp 0) (.tmp 1) 40, type := 0, pos := "", after := #[], guard := none }) w
theorem jS (r:Operand->Value) (i j:Tmp) (dst:Option Tmp) (ty:TypeId) (pos:String) (after:Array Edge) (guard:Option (Nat×Bool)) (w:World):
  Sem.run prog (execOp r { dst:=dst,op:=.binOp .eql 40 (.tmp i) (.tmp j) 40,type:=ty,pos:=pos,after:=after,guard:=guard }) w=z8n (r (.tmp i)) (r (.tmp j)) w:=rfl
theorem z3c (a b:ym) (ho:a.Ok) (hp:b.Ok) (w:World):z8n (.agg (zp a)) (.agg (zp b)) w=.ok (.value (.bool (decide (a=b)))) w:=by
 have J:=fun W=>zcg a b ho hp W;obtain⟨q,I⟩:=nm (decide (a=b));obtain⟨C,G⟩:=nm (zp a);obtain⟨D,F⟩:=nm (zp b);rw[I.o,G.o,F.o]at J;rw[I.o,G.o,F.o];unfold z8n;go_simp
section
attribute [local go_sem ↓] zm zL jS
theorem xo (s:ym) (w:World) (ho:s.Ok):
  Calls prog 62 #[.agg (zp s)] w fun e w'=>e=.returned (.bool (qZ s))/\Below w.heap.size w w':=by
 have O:Below w.heap.size w (w.alloc (.cells (zp s) 40)):=Ba;have F:=zN.new w s;have I:∀W,z8n (.agg (zp s)) (.agg (zp yj)) W=.ok (.value (.bool (decide (s=yj)))) W:=fun W=>z3c s yj ho qp W;have a0:=yd;have a2:=kL F ho;obtain⟨C,M⟩:=nm (zp s);obtain⟨Z,K⟩:=nm (zp yj);obtain⟨q,J⟩:=nm (qZ s);obtain⟨d,G⟩:=nm (decide (s=yj));rw[M.o]at O F a2 I⊢;rw[K.o]at a0 I;rw[G.o]at I;rw[J.o];go_enter func62,ntmps62;go_upto_region 1 with(fail)
 generalize (w.alloc (.cells C 40))=w0 at *;obtain⟨a1,a3,a4⟩:=F.cells;have N:Hd (q=if s.vi=0 then d else if s.vi<0\/1099511627776<s.vi\/s.ph<1\/3<s.ph\/s.pv<0 then false else decide (s.pv<s.vi) || (decide (s.pv=s.vi) && decide (s.ph=3))):=z0 (by rw[<-J.o,<-G.o];rfl);clear F M K J G ho;obtain⟨vi,ph,pv,pa⟩:=s;simp only at a1 a3 a4 N;go_wp2_with fail;all_goals
  go_ret;refine⟨?_,O⟩;refine congrArg (fun b=>Ending.returned (Value.bool b)) ?_;rw[N.o]
 all_goals grind
end
section
attribute [local go_sem ↓] zm zL jS
def z0p (s:ym):Int:=if s.ph=3 then s.vi else s.vi - 1
def KH (s:ym):Bool:=if s.vi<1\/1099511627776<s.vi\/s.ph<1\/3<s.ph then false else decide (0<=s.pv) && decide (s.pv<=z0p s)
theorem z5Z (s:ym):qZ s=(decide (s=yj) || KH s):=by
 by_cases h0:s=yj
 ·subst h0;decide
 ·unfold qZ KH z0p;simp only[h0,decide_false,Bool.false_or];obtain⟨vi,ph,pv,pa⟩:=s;simp only;by_cases h:vi=0
  ·subst h;rw[if_pos rfl,if_pos (by omega)]
  ·rw[if_neg h];by_cases h1:vi<1\/1099511627776<vi\/ph<1\/3<ph
   ·rw[if_pos h1,if_pos (by omega)]
   ·rw[if_neg h1];by_cases h2:pv<0
    ·rw[if_pos (by omega),decide_eq_false (show ¬0<=pv by omega)];rfl
    ·rw[if_neg (by omega),decide_eq_true (show 0<=pv by omega),Bool.true_and,Bool.eq_iff_iff];by_cases h3:ph=3
     ·rw[if_pos h3];simp only[Bool.or_eq_true,Bool.and_eq_true,decide_eq_true_eq];omega
     ·rw[if_neg h3];simp only[Bool.or_eq_true,Bool.and_eq_true,decide_eq_true_eq];omega
theorem z60 (s:ym) (w:World) (h1:1<=s.vi) (h2:s.vi<=1099511627776):
  Calls prog 175 #[.agg (zp s)] w fun e w'=>e=.returned (.int .i64 (z0p s))/\Below w.heap.size w w':=by
 have J:Below w.heap.size w (w.alloc (.cells (zp s) 40)):=Ba;have F:=zN.new w s;obtain⟨C,I⟩:=nm (zp s);obtain⟨q,G⟩:=nm (z0p s);rw[I.o]at J F⊢;rw[G.o];go_enter func175,ntmps175;go_upto_region 1 with(fail)
 generalize (w.alloc (.cells C 40))=w0 at *;obtain⟨K,M,N⟩:=F.cells;clear F I;obtain⟨vi,ph,pv,pa⟩:=s;simp only at K M N h1 h2;have a0:IntKind.i64.wrap (vi - 1)=vi - 1:=by rw[IntKind.wrap_i64];omega
 have O:=z0 (show 1<=vi/\vi<=1099511627776 from ⟨h1,h2⟩);clear h1 h2;by_cases h3:ph=3;all_goals
  go_wp2;go_ret;refine⟨?_,J⟩;refine congrArg (fun b=>Ending.returned (Value.int IntKind.i64 b)) ?_;rw[<-G.o];unfold z0p;simp[h3]
theorem z4w (s:ym) (w:World) (ho:s.Ok):
  Calls prog 132 #[.agg (zp s)] w fun e w'=>e=.returned (.bool (KH s))/\Below w.heap.size w w':=by
 have hb0:Below w.heap.size w (w.alloc (.cells (zp s) 40)):=Ba;have hA:=zN.new w s;have HHI:Hd (1<=s.vi->s.vi<=1099511627776->∀W,Calls prog 175 #[.agg (zp s)] W fun e w'=>e=.returned (.int .i64 (z0p s))/\Below W.heap.size W w'):=z0 (fun h1 h2 W=>z60 s W h1 h2);obtain⟨C,HC⟩:=nm (zp s);obtain⟨q,HQ⟩:=nm (KH s);obtain⟨hi,HHA⟩:=nm (z0p s)
 have HLD0:Hd (∀W,zN W w.heap.size s->zW (.pointer (some ⟨w.heap.size,0,none⟩)) W=.ok (.value (.agg C)) W):=z0 (fun W h=>by
  have:=kL h ho;rw[HC.o]at this
  exact this)
 rw[HC.o]at hb0 hA HHI⊢;rw[HHA.o]at HHI;rw[HQ.o];have HM:Hd (q=if s.vi<1\/1099511627776<s.vi\/s.ph<1\/3<s.ph then false else decide (0<=s.pv) && decide (s.pv<=hi)):=z0 (by rw[<-HQ.o,<-HHA.o];rfl);go_enter func132,ntmps132;go_upto_region 1 with(fail)
 generalize (w.alloc (.cells C 40))=w0 at *;have HX:Hd (∀W:World,Below w0.heap.size w0 W->W.cell? ⟨w.heap.size,2,none⟩=some (.int .i64 s.pv)/\zW (.pointer (some ⟨w.heap.size,0,none⟩)) W=.ok (.value (.agg C)) W):=z0 (fun W h=>⟨(hA.keep h).cells.2.2,HLD0.o W (hA.keep h)⟩);obtain⟨k0,k1,k2⟩:=hA.cells;clear hA HC ho HQ HHA HLD0;obtain⟨vi,ph,pv,pa⟩:=s;simp only at k0 k1 k2 HX HHI HM;have hd1:∀a:Int,(1099511627776<a)=(1099511627776<a):=fun _=>rfl;clear hd1;by_cases h1:vi<1
 ·go_wp2;go_ret;exact⟨by rw[HM.o,if_pos (.inl h1)];rfl,hb0⟩
 by_cases h2:1099511627776<vi
 ·go_wp2;go_ret;exact⟨by rw[HM.o,if_pos (.inr (.inl h2))];rfl,hb0⟩
 by_cases h3:ph<1
 ·go_wp2;go_ret;exact⟨by rw[HM.o,if_pos (.inr (.inr (.inl h3)))];rfl,hb0⟩
 by_cases h4:3<ph
 ·go_wp2;go_ret;exact⟨by rw[HM.o,if_pos (.inr (.inr (.inr h4)))];rfl,hb0⟩
 have HI:=z0 (HHI.o (by omega) (by omega));have HM3:Hd (q=(decide (0<=pv) && decide (pv<=hi))):=z0 (by rw[HM.o,if_neg (by omega)]);clear HHI HM;go_upto_region 3 with(fail)
 clear k0 k1 k2 h1 h2 h3 h4;have hbd:Below w0.heap.size w0 w0.drew:=(Below.refl _ _).drew;refine Rh (S:=fun W=>W.cell? ⟨w.heap.size,2,none⟩=some (.int .i64 pv)/\zW (.pointer (some ⟨w.heap.size,0,none⟩)) W=.ok (.value (.agg C)) W) (by kernel_rfl) (HX.o _ hbd) (fun hHeld=>?_);obtain⟨d0,HD0⟩:=nm (decide (0<=pv));obtain⟨d1,HD1⟩:=nm (decide (pv<=hi));refine' z5 0 (h:=?_);refine' tk (i:=1) (v:=_) rfl ?_ ?_;rotate_left
 ·(intro W hW;(try dsimp only at hW);have hW1:=hW.1;clear hW;go_simp;first|done|with_reducible rfl)
 try simp only[zx]
 refine' z5 2 (h:=?_);rw[HD0.o];refine' z5 3 (h:=?_);cases d0 with
 |false=>
  refine' tn 4 (h:=tn 5 (h:=tn 6 (h:=tn 7 (h:=tn 8 (h:=z5 9 (h:=z5 10 (h:=?_)))))));refine wpAnyH_done (by kernel_rfl) ?_ _;go_wp2;go_ret;exact⟨by rw[HM3.o,HD0.o];rfl,hb0.trans (hbd.mono hb0.size)⟩
 |true=>
  refine' z5 4 (h:=?_);refine' tk (i:=5) (v:=_) rfl ?_ ?_;rotate_left
  ·(intro W hW;(try dsimp only at hW);have hW1:=hW.1;clear hW;go_simp;first|done|with_reducible rfl)
  try simp only[zx]
  refine' tk (i:=6) (v:=_) rfl (fun W hW=>hW.2) ?_;try simp only[zx]
  refine qc 7 (h:=fun K hK=>?_);go_simp;refine(HI.o _).mono ?_;rintro e w2 ⟨rfl,hb2'⟩;have hb2:=hbd.trans (hb2'.mono hbd.size);refine hK.out _ _ (HX.o _ hb2) (fun hHeld=>?_);clear hK K;try simp only[zx]
  refine' z5 8 (h:=?_);rw[HD1.o];refine' z5 9 (h:=z5 10 (h:=?_));refine wpAnyH_done (by kernel_rfl) ?_ _;go_wp2;go_ret;exact⟨by rw[HM3.o,HD0.o,HD1.o];cases d1 <;> rfl,hb0.trans (hb2.mono hb0.size)⟩
theorem xP:z8l:=by
 intro s w ho;have F:Below w.heap.size w (w.alloc (.cells (zp s) 40)):=Ba;have O:=zN.new w s;have l0:=kL O ho;have a0:Hd (∀W,Calls prog 132 #[.agg (zp s)] W fun e w'=>e=.returned (.bool (KH s))/\Below W.heap.size W w'):=z0 (fun W=>z4w s W ho);have G:∀W,z8n (.agg (zp s)) (.agg (zp yj)) W=.ok (.value (.bool (decide (s=yj)))) W:=fun W=>z3c s yj ho qp W;have a1:=yd;have N:=z5Z s;obtain⟨C,a4⟩:=nm (zp s);obtain⟨Z,a3⟩:=nm (zp yj);obtain⟨d,J⟩:=nm (decide (s=yj));obtain⟨a5,M⟩:=nm (KH s);obtain⟨q,I⟩:=nm ((if qZ s=true then (0:Int) else 1):Int);rw[J.o,M.o]at N;have K:=z0 N;rw[a4.o]at F O l0 G a0⊢;rw[a3.o]at a1 G;rw[J.o]at G;rw[M.o]at a0;rw[I.o];go_enter func80,ntmps80;go_upto_region 1 with(fail)
 generalize (w.alloc (.cells C 40))=w0 at *;clear O a4 a3 J M ho N;cases d with
 |true=>
  go_wp2;go_ret;exact⟨by rw[<-I.o,K.o];rfl,F⟩
 |false=>
  go_wp2_with fail;refine(a0.o w0).mono ?_;rintro e a6 ⟨rfl,a2⟩;clear l0 G a1;cases a5 with
  |true=>
   go_wp2;go_ret;exact⟨by rw[<-I.o,K.o];rfl,F.trans (a2.mono F.size)⟩
  |false=>
   go_wp2;go_ret;exact⟨by rw[<-I.o,K.o];rfl,F.trans (a2.mono F.size)⟩
theorem z8o:z9Q:=by
 intro a b w _ _;have M:Below w.heap.size w ((w.alloc (.cells (zp a) 40)).alloc (.cells (zp b) 40)):=Ba.alloc (by simp) _;have F:zN ((w.alloc (.cells (zp a) 40)).alloc (.cells (zp b) 40)) w.heap.size a:=Zj w _ _;have G:zN ((w.alloc (.cells (zp a) 40)).alloc (.cells (zp b) 40)) (w.heap.size+1) b:=kT w _ _;obtain⟨C,K⟩:=nm (zp a);obtain⟨D,I⟩:=nm (zp b);obtain⟨q,J⟩:=nm (QL a b);rw[K.o,I.o]at M F G⊢;rw[J.o];go_enter func139,ntmps139;go_upto_region 1 with(fail)
 generalize ((w.alloc (.cells C 40)).alloc (.cells D 40))=w0 at *;obtain⟨N,a1,a2⟩:=F.cells;obtain⟨a0,a3,O⟩:=G.cells;clear F G K I;obtain⟨vi,ph,pv,pa⟩:=a;obtain⟨a7,a5,a6,a4⟩:=b;simp only at N a1 a2 a0 a3 O;go_wp2_with fail;all_goals
  go_ret;refine⟨?_,M⟩;refine congrArg (fun b=>Ending.returned (Value.bool b)) ?_;rw[<-J.o];unfold QL;simp only
 all_goals grind
end
section
attribute [local go_sem ↓] zf
theorem z0q (n:Int) (w:World):Calls prog 103 #[.int .i64 n] w fun e w'=>e=.returned (.bool (jY n))/\w=w':=by
 obtain⟨q,F⟩:=nm (jY n);rw[F.o];go_enter func103,ntmps103;go_wp2_with fail;all_goals
  go_ret;refine⟨?_,rfl⟩;refine congrArg (fun b=>Ending.returned (Value.bool b)) ?_;rw[<-F.o];unfold jY
 all_goals grind
def z3d (n:Int) (s:ym) (i:Nat):Int:=[n,s.vi,s.ph,s.pv].getD i 0
def z1o (n:Int) (s:ym) (i:Nat):List UInt8:=(([n,s.vi,s.ph,s.pv].take i).map fun n=>dg n.toNat).flatten
theorem z8p (n:Int) (s:ym) (i:Nat) (h:i<4):z1o n s (i+1)=z1o n s i ++ dg (z3d n s i).toNat:=by
 unfold z1o z3d;have:i=0\/i=1\/i=2\/i=3:=by omega
 rcases this with rfl|rfl|rfl|rfl <;> simp
theorem zbk {n:Int}{s:ym} (hn:jY n=true) (F:qZ s=true) (i:Nat):0<=z3d n s i/\z3d n s i<=1099511627776:=by
 obtain⟨h1,h2,h3,G,I,J⟩:=VF F;unfold jY at hn;rw[decide_eq_true_eq]at hn;unfold z3d
 match i with
 |0=>simp;omega
 |1=>simp;omega
 |2=>simp;omega
 |3=>simp;omega
 |k+4=>simp
theorem z9R {n:Int}{s:ym} (hn:jY n=true) (F:qZ s=true) (i:Nat):(z1o n s i).length<=40:=by
 obtain⟨h1,h2,h3,G,N,O⟩:=VF F;unfold jY at hn;rw[decide_eq_true_eq]at hn;have K:=zk (n:=n.toNat) (by omega);have J:=zk (n:=s.vi.toNat) (by omega);have I:=zk (n:=s.ph.toNat) (by omega);have M:=zk (n:=s.pv.toNat) (by omega);unfold z1o
 match i with
 |0=>simp
 |1=>simp;omega
 |2=>simp;omega
 |3=>simp;omega
 |k+4=>simp;omega
theorem z9S (n:Int) (s:ym):z1o n s 4 ++ s.pa=jd n s:=by
 unfold z1o jd;simp
theorem zbl:xL 209 3 4 (.int .i64 0):=⟨by kernel_rfl,by kernel_rfl,by kernel_rfl,by kernel_rfl,by kernel_rfl,by kernel_rfl,rfl⟩
theorem VP {ops:Array Oper}{rest:List Oper}{o:Oper}{a:Act}{w:World}{Q:Exit->Act->World->Prop} (M:o.guard=none) {x0 x1 x2 I:Operand} (ho:o.op=.build 209 #[(0,x0),(1,x1),(2,x2),(3,I)])
  (v0 v1 G F:Int) (h0:a.eval x0=.int .i64 v0) (h1:a.eval x1=.int .i64 v1) (h2:a.eval x2=.int .i64 G) (h3:a.eval I=.int .i64 F)
  (h:wpList prog ops Q rest (a.put o.dst (.agg #[.int .i64 v0,.int .i64 v1,.int .i64 G,.int .i64 F])) w):wpList prog ops Q (o :: rest) a w:=
 wpList_plain M fun _ J=>by
  have e:(Instr.build 209 #[(0,.int .i64 v0),(1,.int .i64 v1),(2,.int .i64 G),(3,.int .i64 F)]).run prog w=.ok (.agg #[.int .i64 v0,.int .i64 v1,.int .i64 G,.int .i64 F]) w:=by
   have K:z1 4 (fun _=>(.int .i64 0:Value))=#[.int .i64 0,.int .i64 0,.int .i64 0,.int .i64 0]:=by kernel_rfl
   simp[Instr.build,Sem.run_bind,zbl.run_zero,run_underlying zbl.under,zbl.run_esize,Instr.fill,Value.cells,K]
  unfold Oper.wp execOp;simp only[ho,Sem.run_bind,List.map_toArray,List.map_cons,List.map_nil,h0,h1,h2,h3,e,Sem.run_pure,Result.andThen_ok];exact J _ _ h
theorem z61 (a b c d:Int) (i:Nat) (hi:i<4) (w:World):(Instr.index 209 (.agg #[.int .i64 a,.int .i64 b,.int .i64 c,.int .i64 d]) (.int .i64 (i:Int))).run prog w=.ok (.int .i64 ([a,b,c,d].getD i 0)) w:=by
 have F:(#[.int .i64 a,.int .i64 b,.int .i64 c,.int .i64 d]:Array Value)=z1 4 (fun j=>.int .i64 ([a,b,c,d].getD j 0)):=rfl;rw[F,zbl.run_index _ hi]
theorem VQ (n:Int) (s:ym) (w:World) (ho:s.Ok) (hn:jY n=true) (hm:qZ s=true):
  Calls prog 105 #[.int .i64 n,.agg (zp s)] w fun e w'=>∃x,e=.returned x/\ql w.heap.size w' x (jd n s)/\Below w.heap.size w w':=by
 have hb0:Below w.heap.size w (w.alloc (.cells (zp s) 40)):=Ba;have hA:=zN.new w s;have HN:Hd (∀i,0<=z3d n s i/\z3d n s i<=1099511627776):=z0 (fun i=>zbk hn hm i);have HPS:Hd (∀i,(z1o n s i).length<=40):=z0 (fun i=>z9R hn hm i);have HALL:=z0 (z9S n s);have HMORE:=z0 (fun i h=>z8p n s i h);obtain⟨C,HC⟩:=nm (zp s);obtain⟨O,HO⟩:=nm (jd n s);rw[HO.o]at HALL;have HP0:Hd (z1o n s 0=[]):=z0 rfl;have HIX0:=z0 (fun i hi w=>z61 n s.vi s.ph s.pv i hi w);have HIX:Hd (∀i:Nat,i<4->∀w,(Instr.index 209 (.agg #[.int .i64 n,.int .i64 s.vi,.int .i64 s.ph,.int .i64 s.pv]) (.int .i64 (i:Int))).run prog w=.ok (.int .i64 (z3d n s i)) w):=z0 (fun i hi w=>HIX0.o i hi w);obtain⟨N,HNF⟩:=nm (z3d n s);obtain⟨P,HPF⟩:=nm (z1o n s);rw[HNF.o]at HN HIX;rw[HNF.o,HPF.o]at HMORE;rw[HPF.o]at HPS HALL HP0;rw[HC.o]at hb0 hA⊢;rw[HO.o];have hpl:s.pa.length=32:=ho;have HPL:=z0 hpl;have HA:=z0 hA;have hlA:=hA.lt;clear hA hpl ho HC hn hm HIX0 HNF HPF HO;obtain⟨vi,ph,pv,pa⟩:=s;simp only at HALL HPL HIX;go_enter func105,ntmps105;go_upto_region 1 with(fail)
 generalize (w.alloc (.cells C 40))=w0 at *;obtain⟨k0,k1,k2⟩:=HA.o.cells;simp only at k0 k1 k2;have HLH:Hd (∀W,Below w0.heap.size w0 W->qE (.pointer (some ⟨w.heap.size,3,none⟩)) W=.ok (.value (.agg (z2 pa))) W):=z0 (fun W h=>zD (HA.o.below h hlA).hash HPL.o);have HB0:=z0 hb0;obtain⟨D,HD⟩:=nm (#[.int .i64 n,.int .i64 vi,.int .i64 ph,.int .i64 pv]:Array Value);rw[HD.o]at HIX;clear HA hlA hb0;go_wp2_with (refine VP rfl rfl _ _ _ _ rfl rfl rfl rfl ?_);rw[HD.o];clear k0 k1 k2;go_loopw [5,16] (fun out si wr=>∃i:Nat,i<=4/\si=.int .i64 i/\zP wr out (P i)/\Below w0.heap.size w0 wr) (fun _ si _=>4 - (intOf si).toNat)
 case atStart=>exact⟨0,by omega,rfl,by rw[HP0.o];exact zP.nil _,Below.refl _ _⟩
 case round=>
  obtain⟨i,hi,rfl,hbt,hbr⟩:=hrel;have HBT:=z0 hbt;have HBR:=z0 hbr;have HPI:=z0 (HPS.o i);clear hbt hbr;by_cases hlt:i<4
  ·have i0:=HIX.o i hlt;have HX0:=z0 (HN.o i);have HNX:=z0 (HMORE.o i hlt);obtain⟨x,HXV⟩:=nm (N i);rw[HXV.o]at i0 HX0 HNX;have C:=Vo _ (P i) x wr HBT.o (by have:=HX0.o;omega) (by have:=HX0.o;omega) (by have:=HPI.o;omega);rw[<-HNX.o]at C;have HC:=z0 C;have hwx:IntKind.u64.wrap x=x:=by have:=HX0.o;exact qP x (by omega) (by omega)
   have hlt':(i:Int)<4:=by omega
   have HLT:=z0 hlt;clear C hi;go_wp2_with fail;refine HC.o.mono ?_;rintro e w2 ⟨x2,rfl,hx2,hb2⟩;have HX2:=z0 hx2.byt;have HB2:=z0 (HBR.o.trans (hb2.mono HBR.o.size));clear hx2 hb2 hwx i0;go_wp2;go_roundw
   case rel=>exact⟨i+1,by have:=HLT.o;omega,by go_num,HX2.o,HB2.o⟩
   case measure=>have:=HLT.o;simp[intOf];omega
  ·obtain rfl:i=4:=by omega
   have hn4:¬((4:Int)<4):=by omega
   have l4:=HLH.o wr HBR.o;clear hlt hi;go_wp2_with fail;refine(YQ _ (P 4) pa wr HBT.o (by have:=HPI.o;omega) HPL.o).mono ?_;rintro e w3 ⟨v3,rfl,ho3,hb3⟩;rw[HALL.o]at ho3;clear l4;go_wp2;go_ret;have hs:=HBR.o.size;have hs0:=HB0.o.size;exact⟨v3,rfl,ho3.more (by omega),HB0.o.trans ((HBR.o.trans (hb3.mono HBR.o.size)).mono HB0.o.size)⟩
end
section
attribute [local go_sem ↓] zf
theorem Xu (n:Int) (s:ym) (w:World) (ho:s.Ok) (hn:jY n=true) (hm:qZ s=true):
  Calls prog 110 #[.int .i64 n,.agg (zp s)] w fun e w'=>∃x,e=.returned x/\ql w.heap.size w' x (jd n s)/\Below w.heap.size w w':=by
 obtain⟨h1,h2,h3,h4,h5,h6⟩:=VF hm;unfold jY at hn;rw[decide_eq_true_eq]at hn;have hb0:Below w.heap.size w (w.alloc (.cells (zp s) 40)):=Ba;have hA:=zN.new w s;obtain⟨C,HC⟩:=nm (zp s);obtain⟨O,HO⟩:=nm (jd n s);rw[HC.o]at hb0 hA⊢;rw[HO.o];have HA:=z0 hA;have hlA:=hA.lt;have hpl:s.pa.length=32:=ho;have HPL:=z0 hpl;clear hA hpl ho HC hm;obtain⟨vi,ph,pv,pa⟩:=s;simp only at h1 h2 h3 h4 h5 h6 HPL;obtain⟨z,rfl⟩:=yy (i:=n) (by omega);obtain⟨v,rfl⟩:=yy (i:=vi) (by omega);obtain⟨p,rfl⟩:=yy (i:=ph) (by omega);obtain⟨q,rfl⟩:=yy (i:=pv) (by omega);have hp1:IntKind.u8.wrap (p:Int)=(p:Int):=by rw[IntKind.wrap_u8'];omega
 have hz1:IntKind.u64.wrap (z:Int)=(z:Int):=qP _ (by omega) (by omega);have hv1:IntKind.u64.wrap (v:Int)=(v:Int):=qP _ (by omega) (by omega);have hq1:IntKind.u64.wrap (q:Int)=(q:Int):=qP _ (by omega) (by omega);have HNZ:=z0 (fun w=>yc (z:Int) w (by omega) (by omega));have HNV:=z0 (fun w=>yc (v:Int) w (by omega) (by omega));have HNQ:=z0 (fun w=>yc (q:Int) w (by omega) (by omega));rw[Int.toNat_natCast]at HNZ HNV HNQ;have HLZ:=z0 (zk (n:=z) (by omega));have HLV:=z0 (zk (n:=v) (by omega));have HLQ:=z0 (zk (n:=q) (by omega));have HDP:Hd (dg p=[UInt8.ofNat p]):=z0 (yx (by omega));have HYP:=z0 (fun w=>VG w p (by omega));have HBP:=z0 (fun w=>km pa w HPL.o);have HO2:Hd (O=dg z ++ (dg v ++ (dg p ++ (dg q ++ pa)))):=z0 (by rw[<-HO.o];unfold jd;simp only[Int.toNat_natCast]);clear h1 h2 h3 h4 h5 h6 hn HO;go_enter func110,ntmps110;go_upto_region 1 with(fail)
 generalize (w.alloc (.cells C 40))=w0 at *
 have HX:Hd (∀W:World,Below w0.heap.size w0 W->W.cell? ⟨w.heap.size,0,none⟩=some (.int .i64 (v:Int))/\W.cell? ⟨w.heap.size,1,none⟩=some (.int .i64 (p:Int))/\W.cell? ⟨w.heap.size,2,none⟩=some (.int .i64 (q:Int))/\W.rangeAt w.heap.size 3 (z4 pa)):=z0 (fun W h=>by
  have hW:=HA.o.below h hlA
  exact⟨hW.cells.1,hW.cells.2.1,hW.cells.2.2,hW.hash⟩)
 have hbd:Below w0.heap.size w0 w0.drew:=(Below.refl _ _).drew;have hs0:=hb0.size;have HB0:=z0 hb0;clear HA hlA hb0;refine Rh (S:=fun W=>W.cell? ⟨w.heap.size,0,none⟩=some (.int .i64 (v:Int))/\W.cell? ⟨w.heap.size,1,none⟩=some (.int .i64 (p:Int))/\W.cell? ⟨w.heap.size,2,none⟩=some (.int .i64 (q:Int))/\W.rangeAt w.heap.size 3 (z4 pa)) (by kernel_rfl) (HX.o _ hbd) (fun hHeld=>?_);refine' z5 0 (h:=z5 1 (h:=z5 3 (h:=?_)));refine' tk (i:=4) (v:=_) rfl ?_ ?_;rotate_left
 ·(intro W hW;(try dsimp only at hW);have hW1:=hW.1;have hW2:=hW.2.1;have hW3:=hW.2.2.1;clear hW;go_simp;first|done|with_reducible rfl)
 try simp only[zx]
 refine' z5 5 (h:=?_);refine qc 2 (h:=fun K hK=>?_);go_simp;refine(HNZ.o w0.drew).mono ?_;rintro e w1 ⟨v1,rfl,ho1,hb1'⟩;have hb1:=hbd.trans hb1';refine hK.out _ _ (HX.o _ hb1) (fun hHeld=>?_);clear hK K;try simp only[zx]
 refine qc 6 (h:=fun K hK=>?_);go_simp;refine(HNV.o w1).mono ?_;rintro e w2 ⟨v2,rfl,ho2,hb2'⟩;have hb2:=hb1.trans (hb2'.mono hb1.size);refine hK.out _ _ (HX.o _ hb2) (fun hHeld=>?_);clear hK K;try simp only[zx]
 refine qc 7 (h:=fun K hK=>?_);refine zF (.tmp 8) (.tmp 12) rfl rfl rfl (ho1.below hb2') ho2.byt (by have:=HLZ.o;have:=HLV.o;omega) hb2.size ?_;intro v3 w3 ho3 hg3 _;have hb3:=hb2.grown hg3 hb2.size (fun q hq=>(World.ownsRow.lt (ho1.below hb2') q hq).1);refine hK.out _ _ (HX.o _ hb3) (fun hHeld=>?_);clear hK K;try simp only[zx]
 refine' z5 8 (h:=?_);refine wpAnyH_done (by kernel_rfl) ?_ _;obtain⟨T1,HT1⟩:=nm (dg z ++ dg v:List UInt8);have HT1L:Hd (T1.length<=20):=z0 (by rw[<-HT1.o,List.length_append];have:=HLZ.o;have:=HLV.o;omega);have ho4:ql w0.heap.size w3 v3 T1:=by rw[<-HT1.o];exact ho3
 clear hHeld ho1 ho2 ho3 hb1 hb1' hb2 hb2' hg3 hz1 hv1 hbd;go_upto_region 2 with(fail)
 have hbd:Below w0.heap.size w0 w3.drew:=hb3.drew;have hbA:Below w0.heap.size w0 (w3.drew.alloc (.cells #[.int .u8 (p:Int)] 5)):=hbd.alloc hbd.size _;have hy5:zP (w3.drew.alloc (.cells #[.int .u8 (p:Int)] 5)) (.slice (some ⟨w3.heap.size,0,none⟩) 1 1) [UInt8.ofNat p]:=(HYP.o w3.drew).byt;have ho5:ql w0.heap.size (w3.drew.alloc (.cells #[.int .u8 (p:Int)] 5)) v3 T1:=(ho4.drewN 1).alloc _;refine Rh (S:=fun W=>W.cell? ⟨w.heap.size,0,none⟩=some (.int .i64 (v:Int))/\W.cell? ⟨w.heap.size,1,none⟩=some (.int .i64 (p:Int))/\W.cell? ⟨w.heap.size,2,none⟩=some (.int .i64 (q:Int))/\W.rangeAt w.heap.size 3 (z4 pa)) (by kernel_rfl) (HX.o _ hbd) (fun hHeld=>?_);refine' z5 0 (h:=z5 1 (h:=?_));refine' tk (i:=2) (v:=_) rfl ?_ ?_;rotate_left
 ·(intro W hW;(try dsimp only at hW);have hW1:=hW.1;have hW2:=hW.2.1;have hW3:=hW.2.2.1;clear hW;go_simp;first|done|with_reducible rfl)
 try simp only[zx]
 refine' z5 3 (h:=z5 6 (h:=?_));refine' tk (i:=7) (v:=_) rfl ?_ ?_;rotate_left
 ·(intro W hW;(try dsimp only at hW);have hW1:=hW.1;have hW2:=hW.2.1;have hW3:=hW.2.2.1;clear hW;go_simp;first|done|with_reducible rfl)
 try simp only[zx]
 refine' z5 8 (h:=?_);refine qc 4 (h:=fun K hK=>?_);go_simp;refine hK.out _ _ (HX.o _ hbA) (fun hHeld=>?_);clear hK K;try simp only[zx]
 refine qc 5 (h:=fun K hK=>?_);refine zF (.tmp 14) (.tmp 18) rfl rfl rfl ho5 hy5 (by have:=HT1L.o;simp only[List.length_cons,List.length_nil];omega) hbA.size ?_;intro v6 w6 ho6 hg6 _;have hb6:=hbA.grown hg6 hbA.size (fun q hq=>(World.ownsRow.lt ho5 q hq).1);refine hK.out _ _ (HX.o _ hb6) (fun hHeld=>?_);clear hK K;try simp only[zx]
 refine qc 9 (h:=fun K hK=>?_);go_simp;refine(HNQ.o w6).mono ?_;rintro e w7 ⟨v7,rfl,ho7,hb7'⟩;have hb7:=hb6.trans (hb7'.mono hb6.size);refine hK.out _ _ (HX.o _ hb7) (fun hHeld=>?_);clear hK K;try simp only[zx]
 refine qc 10 (h:=fun K hK=>?_);refine zF (.tmp 19) (.tmp 23) rfl rfl rfl (ho6.below hb7') ho7.byt (by rw[List.length_append];have:=HT1L.o;have:=HLQ.o;simp only[List.length_cons,List.length_nil];omega) hb7.size ?_;intro v8 w8 ho8 hg8 _;have hb8:=hb7.grown hg8 hb7.size (fun q hq=>(World.ownsRow.lt (ho6.below hb7') q hq).1);refine hK.out _ _ (HX.o _ hb8) (fun hHeld=>?_);clear hK K;try simp only[zx]
 refine' z5 11 (h:=?_);refine wpAnyH_done (by kernel_rfl) ?_ _;obtain⟨T2,HT2⟩:=nm (T1 ++ [UInt8.ofNat p] ++ dg q:List UInt8);have HT2L:Hd (T2.length<=40):=z0 (by rw[<-HT2.o];simp only[List.length_append,List.length_cons,List.length_nil];have:=HT1L.o;have:=HLQ.o;omega);have ho9:ql w0.heap.size w8 v8 T2:=by rw[<-HT2.o];exact ho8
 have l9:=zD (HX.o _ hb8).2.2.2 HPL.o;clear hHeld ho4 ho5 hy5 ho6 ho7 ho8 hb3 hbd hbA hb6 hb7 hb7' hg6 hg8;go_wp2_with fail;refine(HBP.o w8).mono ?_;rintro e w10 ⟨v10,rfl,ho10,hb10'⟩;have hb10:=hb8.trans (hb10'.mono hb8.size);have ho11:=ho9.below hb10';have hl11:T2.length+pa.length<=140737488355328:=by have:=HT2L.o;have:=HPL.o;omega
 clear l9;go_wp2_with (at_builtin;refine z9 rfl (.tmp 25) (.tmp 28) rfl rfl rfl ho11 ho10.byt hl11 hb10.size ?_;intro v12 w12 ho12 hg12 hv12;have hb12:=hb10.grown hg12 hb10.size (fun q hq=>(World.ownsRow.lt ho11 q hq).1);clear hg12 hv12);go_ret;refine⟨v12,rfl,?_,HB0.o.trans (hb12.mono hs0)⟩;have e:T2 ++ pa=O:=by
  rw[HO2.o,<-HT2.o,<-HT1.o,HDP.o];simp only[List.append_assoc]
 rw[e]at ho12;exact ho12.more hs0
end
section
attribute [local go_sem ↓] zm
theorem VR (i n:Int) (s:ym) (w:World) (ho:s.Ok) (hn:jY n=true) (hm:qZ s=true) (hK:yB 0 w):
  Calls prog 63 #[.int .i64 i,.int .i64 n,.agg (zp s)] w fun e w'=>∃x,e=.returned x/\ql w.heap.size w' x (vF i n s)/\Below w.heap.size w w':=by
 have hlen:=Qj ho hn hm;have HTD:Hd (∀W,Calls prog 110 #[.int .i64 n,.agg (zp s)] W fun e w'=>∃x,e=.returned x/\ql W.heap.size w' x (jd n s)/\Below W.heap.size W w'):=z0 (fun W=>Xu n s W ho hn hm);have HKB:=z0 (fun W (h:Below w.heap.size w W)=>(show yB 0 W from hK.below h))
 have HTG:Hd (∀v W,Below w.heap.size w W->zP W v (jd n s)->Calls prog 93 #[.int .i64 i,.int .u8 3,v] W fun e w'=>e=.returned (.agg (z2 (Kz i n s)))/\Below W.heap.size W w'):=z0 (fun v W h hv=>by
  have:=JY i 3 v (jd n s) W hv (by omega) (HKB.o W h);rw[kJ]at this
  exact this)
 have HBB:=z0 (fun w=>km (Kz i n s) w (YX i n s));have hb0:Below w.heap.size w (w.alloc (.cells (zp s) 40)):=Ba;have hA:=zN.new w s;have l0:=kL hA ho;obtain⟨C,HC⟩:=nm (zp s);obtain⟨M,HM⟩:=nm (jd n s);obtain⟨T,HT⟩:=nm (Kz i n s);obtain⟨TC,HTC⟩:=nm (z2 T);have HTL:Hd (T.length=32):=z0 (by rw[<-HT.o];exact YX i n s);have HML:Hd (M.length<=72):=z0 (by rw[<-HM.o];exact hlen);unfold vF;rw[HC.o,HM.o]at HTD;rw[HM.o,HT.o,HTC.o]at HTG;rw[HT.o,HTC.o]at HBB;rw[HC.o]at hb0 hA l0⊢;rw[HM.o,HT.o];clear hlen ho hn hm hK hA;go_enter func63,ntmps63;go_upto_region 1 with(fail)
 generalize (w.alloc (.cells C 40))=w0 at *;have HB0:=z0 hb0;clear hb0;go_wp2_with fail;refine(HTD.o w0).mono ?_;rintro e w1 ⟨v1,rfl,ho1,hb1⟩;have HB1:=z0 (HB0.o.trans (hb1.mono HB0.o.size));have hy1:=ho1.byt;clear l0;go_wp2_with fail;refine(HTG.o v1 w1 HB1.o hy1).mono ?_;rintro e w2 ⟨rfl,hb2'⟩;have hb2:=hb1.trans (hb2'.mono hb1.size);go_wp2_with fail;refine(HBB.o w2).mono ?_;rintro e w3 ⟨v3,rfl,ho3,hb3'⟩;have hb3:=hb2.trans (hb3'.mono hb2.size);have ho4:=(ho1.below hb2').below hb3';have hl4:M.length+T.length<=140737488355328:=by have:=HML.o;have:=HTL.o;omega
 clear hy1 ho1 hb2';go_wp2_with (at_builtin;refine z9 rfl (.tmp 11) (.tmp 15) rfl rfl rfl ho4 ho3.byt hl4 hb3.size ?_;intro v5 w5 ho5 hg5 hv5;have hb5:=hb3.grown hg5 hb3.size (fun q hq=>(World.ownsRow.lt ho4 q hq).1);clear hg5 hv5);go_ret;exact⟨v5,rfl,ho5.more HB0.o.size,HB0.o.trans (hb5.mono HB0.o.size)⟩
end
section
theorem z9T (a:ym):sel a=[.int .i64 a.vi,.int .i64 a.ph,.int .i64 a.pv] ++ (z4 a.pa ++ []):=by rw[List.append_nil];rfl
section
variable {ops:Array Oper}{rest:List Oper}{o:Oper}{ac:Act}{w:World}{Q:Exit->Act->World->Prop}
theorem QR (I:o.guard=none) (x y:Operand) (ho:o.op=.store 38 x y)
  {g:Nat} {a:ym} {h:List UInt8} (hx:ac.eval x=.pointer (some ⟨g,3,none⟩)) (J:ac.eval y=.agg (z2 h)) (hg:zN w g a) (K:a.Ok) (hl:h.length=32)
  (F:∀w',w.grownBy w' (some g)->zN w' g { a with pa:=h }->w'.heap.size=w.heap.size->wpList prog ops Q rest (ac.put o.dst undef) w'):wpList prog ops Q (o :: rest) ac w:=by
 unfold zN zp at hg;rw[z9T]at hg;have G:a.pa.length=32:=K;refine vr I x y ho hx J hg rfl (by rw[z6,G]) hl (fun w' h1 h2 h3=>F w' h1 ?_ h3);unfold zN zp;rw[z9T];exact h2
end
theorem V9 {w:World}{g:Nat}{t:TypeId}{C:Array Value}{fr:Nat×Nat} (hg:w.heap[g]?=some (.cells C t fr)):setSe w g C=w:=by
 have e:∀f:Obj->Obj,f (.cells C t fr)=.cells C t fr->w.heap.modify g f=w.heap:=by
  intro f F;apply Array.ext_getElem?;intro k;rw[Array.getElem?_modify];by_cases h:g=k
  ·subst h;rw[if_pos rfl,hg];simp[F]
  ·rw[if_neg h]
 unfold setSe World.setRow;rw[e _ rfl]
theorem Xd {op:Oper}{ac:Act}{w:World}{F:Act->World->Prop}{Q:Exit->Act->World->Prop} (x y:Operand) (ho:op.op=.store 40 x y) {g:Nat}{t:TypeId}{C0 C:Array Value}
  (hx:ac.eval x=.pointer (some ⟨g,0,none⟩)) (J:ac.eval y=.agg C) (hg:w.heap[g]?=some (.cells C0 t (0,0))) (hi:C.size=35) (I:C0.size=35) (h1:C.all (·.oneCell')=true)
  (G:∀w',w.grownBy w' (some g)->w'.heap[g]?=some (.cells C t (0,0))->w'.heap.size=w.heap.size->F (ac.put op.dst undef) w'):op.wp prog ac w F Q:=by
 refine wp_store_mid _ x y ho g 0 C hx J (fun j K=>⟨?_,zz hg _⟩) (by rw[xj,hi]) h1 ?_
 ·rw[z7 hg,Nat.zero_add,Array.getElem?_eq_getElem (by omega)];rfl
 ·refine G _ (jg g _ _ _) ?_ (vf g _ _ _);have:=vY C.toList 0 w C0 hg;have e:=yI C.toList [] C0.toList [] (by rw[Array.length_toList,Array.length_toList,hi,I]);simp only[List.nil_append,List.append_nil,List.length_nil,Array.toArray_toList]at e;rw[e]at this;exact this
theorem yJ {J:Func}{p q s:Tmp} (h:J.results=#[.tmp p,.cell q 40,.tmp s]) (tmps:Array Value) (w:World) (F:Nat) (I:TypeId) (G:Array Value) (u v:Value)
  (a1:tmps.getD p undef=u) (hq:tmps.getD q undef=.pointer (some ⟨F,0,none⟩)) (K:tmps.getD s undef=v) (h2:w.heap[F]?=some (.cells G I (0,0))) (a0:G.size=35):
  (results J tmps).run prog w=.ok (.tuple #[u,.agg G,v]) w:=by
 have N:tmps[p]?.getD undef=u:=by simpa using a1
 have O:tmps[q]?.getD undef=.pointer (some ⟨F,0,none⟩):=by simpa using hq
 have M:tmps[s]?.getD undef=v:=by simpa using K
 have r2:=run_loadVar_row (P:=prog) w F I 40 G (0,0) _ h2 xi rfl (by rw[xj,a0]);simp[results,h,N,O,M,asAddr,r2]
theorem xQ {i:Int}{l:List UInt8} (h:YY l=false):kQ i l=(0,yj,2):=by
 unfold kQ;rw[h,if_neg (by decide)]
theorem VS {i:Int}{l:List UInt8} (h:YY l=true) (h2:¬(zS i=true/\(jG l).2.2.1=Kz i (jG l).1 (jG l).2.1)):kQ i l=(0,yj,7):=by
 unfold kQ;rw[if_pos h,if_neg h2]
theorem z4x {i:Int}{l:List UInt8} (h:YY l=true) (h2:zS i=true/\(jG l).2.2.1=Kz i (jG l).1 (jG l).2.1):kQ i l=((jG l).1,(jG l).2.1,0):=by
 unfold kQ;rw[if_pos h,if_pos h2]
theorem ZB {l:List UInt8}{n:Int}{s:ym}{t:List UInt8}{p:Nat}{r:Bool} (h:jG l=(n,s,t,p,r)):YY l=((r && decide (p=l.length)) && (decide (1<=n) && qZ s)):=by
 unfold YY;rw[h]
structure xA (w0 w:World) (x0 x1 x2:Value) (a:ym):Prop where
 bel:Below w0.heap.size w0 w
 b0:zN w w0.heap.size yj
 b1:zN w (w0.heap.size+1) a
 b2:w.heap[w0.heap.size+1+1]?=some (.cells #[x0,x1,x2] 175 (0,0))
section
variable {w0 w w':World}{x0 x1 x2:Value}{a:ym}
theorem xA.lt (h:xA w0 w x0 x1 x2 a):w0.heap.size+1+1<w.heap.size:=Lb h.b2
theorem xA.below (h:xA w0 w x0 x1 x2 a) (F:Below w.heap.size w w'):xA w0 w' x0 x1 x2 a:=by
 have G:=h.lt;exact⟨h.bel.trans (F.mono h.bel.size),(F.block _ (by omega)).trans h.b0,(F.block _ (by omega)).trans h.b1,(F.block _ (by omega)).trans h.b2⟩
theorem xA.new (w:World) (x0 x1 x2:Value):
  xA w (((w.alloc (.cells (zp yj) 40)).alloc (.cells (zp yj) 40)).alloc (.cells #[x0,x1,x2] 175)) x0 x1 x2 yj:=by
 refine⟨(Ba.alloc (by simp) _).alloc (by simp <;> omega) _,?_,?_,?_⟩
 ·exact(Below.heap_alloc _ _ _ (by simp <;> omega)).trans (Zj w _ _)
 ·exact(Below.heap_alloc _ _ _ (by simp)).trans (kT w _ _)
 ·have:=kT (w.alloc (.cells (zp yj) 40)) (.cells (zp yj) 40) (.cells #[x0,x1,x2] 175)
  rwa[show(w.alloc (.cells (zp yj) 40)).heap.size=w.heap.size+1 from by simp]at this
theorem xA.put (h:xA w0 w x0 x1 x2 a) (y0 y1 F:Value):
  xA w0 (((w.setCell ⟨w0.heap.size+1+1,0,none⟩ y0).setCell ⟨w0.heap.size+1+1,1,none⟩ y1).setCell ⟨w0.heap.size+1+1,2,none⟩ F) y0 y1 F a:=by
 refine⟨((h.bel.setCell (by simp only;omega) _).setCell (by simp only;omega) _).setCell (by simp only;omega) _,?_,?_,?_⟩
 ·exact yX (yX (yX h.b0 y0 (by omega)) y1 (by omega)) F (by omega)
 ·exact yX (yX (yX h.b1 y0 (by omega)) y1 (by omega)) F (by omega)
 ·exact jm (jm (jm h.b2 0 y0) 1 y1) 2 F
theorem xA.cell (h:xA w0 w x0 x1 x2 a) {b:ym}{v:Value} (i:Nat) (e:(zp a).setIfInBounds i v=zp b):xA w0 (w.setCell ⟨w0.heap.size+1,i,none⟩ v) x0 x1 x2 b:=by
 refine⟨h.bel.setCell (by simp only;omega) _,yX h.b0 _ (by omega),?_,yX h.b2 _ (by omega)⟩;have:=jm h.b1 i v;rw[e]at this;exact this
theorem xA.se (h:xA w0 w x0 x1 x2 a) {b:ym} (hg:w.grownBy w' (some (w0.heap.size+1))) (G:zN w' (w0.heap.size+1) b):xA w0 w' x0 x1 x2 b:=by
 have I:=h.lt;refine⟨h.bel.grown hg h.bel.size (fun k F=>by injection F with F;omega),?_,G,?_⟩
 ·exact(hg.block _ (by omega) (fun e=>by injection e with e;omega)).trans h.b0
 ·exact(hg.block _ (by omega) (fun e=>by injection e with e;omega)).trans h.b2
theorem xA.cells (h:xA w0 w x0 x1 x2 a):
  (w.cell? ⟨w0.heap.size+1+1,0,none⟩=some x0/\w.cell? ⟨w0.heap.size+1+1,1,none⟩=some x1/\w.cell? ⟨w0.heap.size+1+1,2,none⟩=some x2)/\
  (w.cell? ⟨w0.heap.size+1,0,none⟩=some (.int .i64 a.vi)/\w.cell? ⟨w0.heap.size+1,1,none⟩=some (.int .i64 a.ph)/\w.cell? ⟨w0.heap.size+1,2,none⟩=some (.int .i64 a.pv))/\
  (∀i,w.frozen? ⟨w0.heap.size+1,i,none⟩=false)/\(∀i,w.frozen? ⟨w0.heap.size+1+1,i,none⟩=false):=
 ⟨⟨z7 h.b2 0,z7 h.b2 1,z7 h.b2 2⟩,h.b1.cells,h.b1.free,zz h.b2⟩
end
theorem z0r {l:List UInt8}{p:Nat}{r:Bool} (hp:p<=l.length):(yk l p r).2.1<=l.length:=by
 unfold yk;split
 ·exact hp
 ·split
  ·assumption
  ·exact hp
end
section
attribute [local go_sem ↓] zm zq zr zf
def J4 (l:List UInt8) (p:Nat) (r:Bool):ym×Nat×Bool:=
 let b:=zQ 1099511627776 l p r;let c:=zQ 3 l b.2.1 b.2.2;let d:=zQ 1099511627776 l c.2.1 c.2.2;let e:=yk l d.2.1 d.2.2
 (⟨b.1,c.1,d.1,e.1⟩,e.2)
theorem z8q (l:List UInt8):jG l=((((zQ 1099511627776 l 0 true).1:Nat):Int),(J4 l (zQ 1099511627776 l 0 true).2.1 (zQ 1099511627776 l 0 true).2.2).1,(yk l (J4 l (zQ 1099511627776 l 0 true).2.1 (zQ 1099511627776 l 0 true).2.2).2.1 (J4 l (zQ 1099511627776 l 0 true).2.1 (zQ 1099511627776 l 0 true).2.2).2.2)):=rfl
theorem z9U (l:List UInt8) (p:Nat) (r:Bool):(J4 l p r).1.Ok:=kI _ _ _
structure QS (w0 w:World) (g:Nat) (l:List UInt8) (p:Nat) (r:Bool) (a:ym):Prop where
 lt:g<w0.heap.size
 gr:w0.grownBy w (some g)
 rd:Qc w g l p r
 b0:zN w w0.heap.size yj
 b1:zN w (w0.heap.size+1) a
section
variable {w0 w w':World}{g:Nat}{l:List UInt8}{p:Nat}{r:Bool}{a:ym}
theorem z4y {w0 w:World}{F:Option Nat} (h:w0.grownBy w F) (a:Addr) (u:Value) (ha:w0.heap.size<=a.block):w0.grownBy (w.setCell a u) F:=
 ⟨h.os,h.tape,h.output,by simpa using h.size,fun k G I=>(Hs w a u k (fun e=>by omega)).trans (h.block k G I)⟩
theorem VT {w0 w w':World}{G:Option Nat}{k:Nat} (h:w0.grownBy w G) (hg:w.grownBy w' (some k)) (J:w0.heap.size<=k):w0.grownBy w' G:=
 ⟨hg.os.trans h.os,hg.tape.trans h.tape,hg.output.trans h.output,Nat.le_trans h.size hg.size,fun j F I=>(hg.block j (Nat.lt_of_lt_of_le F h.size) (fun e=>by injection e with e;omega)).trans (h.block j F I)⟩
theorem QS.new (h:Qc w0 g l p r):QS w0 ((w0.alloc (.cells (zp yj) 40)).alloc (.cells (zp yj) 40)) g l p r yj:=by
 have F:Below w0.heap.size w0 ((w0.alloc (.cells (zp yj) 40)).alloc (.cells (zp yj) 40)):=Ba.alloc (by simp) _;exact⟨h.lt,kS F _,h.below F,Zj w0 _ _,kT w0 _ _⟩
theorem QS.grow (h:QS w0 w g l p r a) {F:Nat}{r':Bool} (G:Qc w' g l F r') (hg:w.grownBy w' (some g)):QS w0 w' g l F r' a:=by
 have h0:=h.b0.lt;have h1:=h.b1.lt;have I:=h.lt;exact⟨I,h.gr.trans hg,G,(hg.block _ h0 (fun e=>by injection e with e;omega)).trans h.b0,(hg.block _ h1 (fun e=>by injection e with e;omega)).trans h.b1⟩
theorem QS.cell (h:QS w0 w g l p r a) {b:ym}{v:Value} (i:Nat) (e:(zp a).setIfInBounds i v=zp b):QS w0 (w.setCell ⟨w0.heap.size+1,i,none⟩ v) g l p r b:=by
 have F:=h.lt;refine⟨F,z4y h.gr _ _ (Nat.le_succ _),h.rd.apart (xH _ _ _ _) h.b1 (by decide) (by omega),yX h.b0 _ (by omega),?_⟩;have:=jm h.b1 i v;rw[e]at this;exact this
theorem QS.se (h:QS w0 w g l p r a) {b:ym} (hg:w.grownBy w' (some (w0.heap.size+1))) (F:zN w' (w0.heap.size+1) b):QS w0 w' g l p r b:=by
 have G:=h.lt;exact⟨G,VT h.gr hg (Nat.le_succ _),h.rd.apart hg h.b1 (by decide) (by omega),(hg.block _ h.b0.lt (fun e=>by injection e with e;omega)).trans h.b0,F⟩
theorem QS.cells (h:QS w0 w g l p r a):
  (w.cell? ⟨w0.heap.size+1,0,none⟩=some (.int .i64 a.vi)/\w.cell? ⟨w0.heap.size+1,1,none⟩=some (.int .i64 a.ph)/\w.cell? ⟨w0.heap.size+1,2,none⟩=some (.int .i64 a.pv))/\
  (∀i,w.frozen? ⟨w0.heap.size+1,i,none⟩=false):=⟨h.b1.cells,h.b1.free⟩
theorem QS.fin (h:QS w0 w g l p r a) (C:Array Value):(setSe w w0.heap.size C).heap[w0.heap.size]?=some (.cells C 40 (0,0))/\Qc (setSe w w0.heap.size C) g l p r/\w0.grownBy (setSe w w0.heap.size C) (some g):=by
 have I:=h.lt;have hg:w.grownBy (setSe w w0.heap.size C) (some w0.heap.size):=by
  refine⟨rfl,rfl,rfl,?_,fun k G F=>zl w C (fun e=>F (by rw[e]))⟩;unfold setSe;simp
 exact⟨qG h.b0,h.rd.apart hg h.b0 (by decide) (by omega),VT h.gr hg (Nat.le_refl _)⟩
end
theorem z62 (g:Nat) (l:List UInt8) (p:Nat) (r:Bool) (w:World) (an:Qc w g l p r) (hl:l.length<=1000000):
  Calls prog 100 #[.pointer (some ⟨g,0,none⟩)] w fun e w'=>e=.returned (.agg (zp (J4 l p r).1))/\Qc w' g l (J4 l p r).2.1 (J4 l p r).2.2/\w.grownBy w' (some g):=by
 have a4:=z0 (fun p r W (h:Qc W g l p r) m (h1:-9223372036854775808<=m) (h2:m<=9223372036854775807)=>z3P g l p r m W h (by omega) h1 h2);have ak:=z0 (fun p r W (h:Qc W g l p r)=>z1N g l p r W h (by omega));obtain⟨Z,a5⟩:=nm (zp yj);have au:∀W,qj W=.ok (.value (.pointer (some ⟨W.heap.size,0,none⟩))) (W.alloc (.cells Z 40)):=fun W=>by rw[<-a5.o];exact zX W
 have ay:Hd (Z.size=35):=z0 (by rw[<-a5.o];exact zd qp);obtain⟨ax,ap⟩:=nm (J4 l p r);rw[ap.o];have F:=QS.new an;rw[a5.o]at F;have ao:(w.alloc (.cells Z 40)).heap.size=w.heap.size+1:=by simp
 clear an hl;go_enter func100,ntmps100;go_upto_region 2 with(fail)
 generalize ((w.alloc (.cells Z 40)).alloc (.cells Z 40))=w0 at *;clear au;try rw[ao]
 clear ao;obtain⟨⟨a1,a2,a0⟩,O⟩:=F.cells;have G:=z0 F;clear F;go_wp2_with fail;obtain⟨I,p1,r1,a9⟩:∃x q s,Hd (zQ 1099511627776 l p r=(x,q,s)):=⟨_,_,_,z0 rfl⟩
 have az:I<=1099511627776:=by have:=Jp (m:=1099511627776) (l:=l) (p:=p) (r:=r);rw[show((1099511627776:Nat):Int)=1099511627776 from rfl,a9.o]at this;exact this
 have C:=a4.o p r _ (G.o).rd 1099511627776 (by omega) (by omega);rw[a9.o]at C;refine C.mono ?_;clear C;rintro e aF ⟨rfl,M,J⟩;have F:QS w aF g l p1 r1 ⟨0,0,0,qx⟩:=(G.o).grow M J;clear M J G a1 a2 a0 O;obtain⟨⟨a1,a2,a0⟩,O⟩:=F.cells;have G:=z0 F;clear F;go_wp2_with fail;obtain⟨K,p2,r2,a8⟩:∃x q s,Hd (zQ 3 l p1 r1=(x,q,s)):=⟨_,_,_,z0 rfl⟩
 have aE:K<=3:=by have:=Jp (m:=3) (l:=l) (p:=p1) (r:=r1);rw[show((3:Nat):Int)=3 from rfl,a8.o]at this;exact this
 have C:=a4.o p1 r1 _ ((G.o.cell (b:=⟨(I:Int),0,0,qx⟩) (v:=.int .i64 (I:Int)) 0 rfl)).rd 3 (by omega) (by omega);rw[a8.o]at C;refine C.mono ?_;clear C;rintro e aG ⟨rfl,M,J⟩;have F:QS w aG g l p2 r2 ⟨(I:Int),0,0,qx⟩:=((G.o.cell (b:=⟨(I:Int),0,0,qx⟩) (v:=.int .i64 (I:Int)) 0 rfl)).grow M J;clear M J G a1 a2 a0 O;obtain⟨⟨a1,a2,a0⟩,O⟩:=F.cells;have G:=z0 F;clear F;go_wp2_with fail;obtain⟨N,p3,r3,a6⟩:∃x q s,Hd (zQ 1099511627776 l p2 r2=(x,q,s)):=⟨_,_,_,z0 rfl⟩
 have aA:N<=1099511627776:=by have:=Jp (m:=1099511627776) (l:=l) (p:=p2) (r:=r2);rw[show((1099511627776:Nat):Int)=1099511627776 from rfl,a6.o]at this;exact this
 have C:=a4.o p2 r2 _ ((G.o.cell (b:=⟨(I:Int),(K:Int),0,qx⟩) (v:=.int .i64 (K:Int)) 1 rfl)).rd 1099511627776 (by omega) (by omega);rw[a6.o]at C;refine C.mono ?_;clear C;rintro e av ⟨rfl,M,J⟩;have F:QS w av g l p3 r3 ⟨(I:Int),(K:Int),0,qx⟩:=((G.o.cell (b:=⟨(I:Int),(K:Int),0,qx⟩) (v:=.int .i64 (K:Int)) 1 rfl)).grow M J;clear M J G a1 a2 a0 O;obtain⟨⟨a1,a2,a0⟩,O⟩:=F.cells;have G:=z0 F;clear F;go_wp2_with fail;obtain⟨af,p4,r4,a7⟩:∃x q s,Hd (yk l p3 r3=(x,q,s)):=⟨_,_,_,z0 rfl⟩
 have ag:Hd (af.length=32):=z0 (by have:=kI l p3 r3;rw[a7.o]at this;exact this);have C:=ak.o p3 r3 _ ((G.o.cell (b:=⟨(I:Int),(K:Int),(N:Int),qx⟩) (v:=.int .i64 (N:Int)) 2 rfl)).rd;rw[a7.o]at C;refine C.mono ?_;clear C;rintro e aw ⟨rfl,M,J⟩;have F:QS w aw g l p4 r4 ⟨(I:Int),(K:Int),(N:Int),qx⟩:=((G.o.cell (b:=⟨(I:Int),(K:Int),(N:Int),qx⟩) (v:=.int .i64 (N:Int)) 2 rfl)).grow M J;clear M J G a1 a2 a0 O;have ae:=z0 F;clear F;simp only;obtain⟨a,aa⟩:=nm ((⟨(I:Int),(K:Int),(N:Int),af⟩:ym):ym);have aq:Hd a.Ok:=z0 (by rw[<-aa.o];exact ag.o);have aC:Hd (J4 l p r=(a,p4,r4)):=z0 (by unfold J4;simp only[a9.o,a8.o,a6.o,a7.o];rw[<-aa.o]);have aD:Hd (ax=(a,p4,r4)):=z0 (ap.o.symm.trans aC.o);go_upto_region 6 with(refine QR rfl _ _ rfl rfl rfl ae.o.b1 rfl ag.o ?_;intro aj am al aB;have F:=ae.o.se (b:=⟨(I:Int),(K:Int),(N:Int),af⟩) am al;clear am al aB ae)
 rw[aa.o]at F;have ai:=z0 F;clear F a9 a8 a6 a7 ak a4 aa ag az aE aA;obtain⟨a3,ad⟩:=nm (zp a);have ah:Hd (a3.size=35/\a3.all (·.oneCell')=true):=z0 (by rw[<-ad.o];exact⟨zd aq.o,y7 _⟩);have ar:=kL ai.o.b1 aq.o;have aH:yF (.pointer (some ⟨w.heap.size,0,none⟩)) (.agg a3) aj=.ok .skip (setSe aj w.heap.size a3):=by
  have h2:=ai.o.b0;unfold zN at h2;rw[a5.o]at h2;exact yn h2 ay.o ah.o.1 ah.o.2
 have ab:=z0 (ai.o.fin a3);rw[ad.o]at ar;go_wp2_with fail;refine Bp (results_cell_row rfl _ _ _ _ _ (0,0) _ rfl ab.o.1 xi rfl (by rw[xj,ah.o.1])) rfl ?_;rw[aD.o];exact⟨by rw[<-ad.o],ab.o.2.1,ab.o.2.2⟩
end
section
theorem Qm (w:World) (T:TypeId) (C0 C:Array Value):setSe (w.alloc (.cells C0 T)) w.heap.size C=w.alloc (.cells C T):=by
 have F:∀(a:Array Obj) (x:Obj) (f:Obj->Obj),(a.push x).modify a.size f=a.push (f x):=by
  intro a x f;apply Array.ext_getElem?;intro k;rw[Array.getElem?_modify];by_cases h:a.size=k
  ·subst h;simp
  ·rw[if_neg h,Array.getElem?_push,Array.getElem?_push];rw[if_neg (fun e=>h e.symm),if_neg (fun e=>h e.symm)]
 unfold setSe World.setRow World.alloc;simp only[F]
theorem kF (w:World) {Z S:Array Value} (F:Z.size=35) (G:S.size=35) (h1:S.all (·.oneCell')=true):
  yF (.pointer (some ⟨w.heap.size,0,none⟩)) (.agg S) (w.alloc (.cells Z 40))=.ok .skip (w.alloc (.cells S 40)):=by
 rw[yn (Xh w _) F G h1,Qm]
attribute [local go_sem ↓] zq zr zL
end
section
open Go.ChangeShapes Go.WideShapes Go.ChangeAt Go.RowKit Go.Deep
section
variable {H:Type}{enc:TypeId×Value->H}{w:World}{base:Nat}{spare:Nat->Bool}{held:Bool}{fuel:Nat}{cs:List Value}{x:DataW H×List MemPlace}
theorem z63:∃J G F I:Field,prog.underlying 40=some (.struct #[J,G,F,I])/\(J.type,J.offset)=(3,0)/\(G.type,G.offset)=(3,1)/\(F.type,F.offset)=(3,2)/\(I.type,I.offset)=(38,3):=
 ⟨_,_,_,_,underlying40,rfl,rfl,rfl,rfl⟩
theorem zbm (h:DataW.trod enc prog w base spare held fuel 40 cs=some x):∃a:ym,a.Ok/\cs=sel a:=by
 obtain⟨a5,a7,N,ad,ag,am,ah,ab,ae⟩:=z63;injection am with a8 a1;injection ah with af ak;injection ab with aa al;injection ae with aj O;obtain⟨a0,m,_,_,a4,a3,F⟩:=DataW.trod_struct ag h;have ai:prog.cellsOf 40=35:=by kernel_rfl
 have G:prog.cellsOf 3=1:=by kernel_rfl
 have a9:prog.cellsOf 38=32:=by kernel_rfl
 rw[ai]at a4;have hx:a0.length=4:=a3;have K:=F 0 a5 rfl;have J:=F 1 a7 rfl;have I:=F 2 N rfl;have M:=F 3 ad rfl;rw[a8,a1,G,List.getElem?_eq_getElem (by omega)]at K;rw[af,ak,G,List.getElem?_eq_getElem (by omega)]at J;rw[aa,al,G,List.getElem?_eq_getElem (by omega)]at I;rw[aj,O,a9,List.getElem?_eq_getElem (by omega)]at M;obtain⟨n0,c0,_,_⟩:=DataW.trod_int underlying3 K;obtain⟨n1,c1,_,_⟩:=DataW.trod_int underlying3 J;obtain⟨n2,a2,_,_⟩:=DataW.trod_int underlying3 I;obtain⟨pa,h3,a6⟩:=kH M;refine⟨⟨n0,n1,n2,pa⟩,h3,?_⟩;have e:cs=cs.drop 0:=rfl;rw[e,zE c0,zE c1,zE a2,zE a6,List.drop_eq_nil_of_le (by omega)];unfold sel;simp only[List.append_nil,List.cons_append,List.nil_append]
end
end
section
attribute [local go_sem ↓] zm zq zr zL
theorem VU (i:Int) (v:Value) (l:List UInt8) (w:World) (hv:zP w v l) (hl:l.length<=1000000) (hK:yB 0 w):
  Calls prog 61 #[.int .i64 i,v] w fun e w'=>e=.returned (.tuple #[.int .i64 (kQ i l).1,.agg (zp (kQ i l).2.1),.int .i64 (kQ i l).2.2])/\Below w.heap.size w w':=by
 obtain⟨A,c,rfl⟩:=hv.shape;have HH:=z0 (fun p r (hp:p<=l.length) (w':World) (hb:Below w.heap.size w w')=>z4a A c p r l w' (hv.below hb) hp (by omega));have HU:=z0 (fun p r (hp:p<=l.length) m (h1:-9223372036854775808<=m) (h2:m<=9223372036854775807) (w':World) (hb:Below w.heap.size w w')=>z3S A c p r l m w' (hv.below hb) hp (by omega) h1 h2);have HSM:=z0 (fun u L (w':World) (hb:Below w.heap.size w w') (hu:zP w' u L)=>XU u (.slice A l.length c) L l w' hu (hv.below hb));have HKB:=z0 (fun W (h:Below w.heap.size w W)=>(show yB 0 W from hK.below h));obtain⟨Z,HZ⟩:=nm (zp yj);have hbz:∀W,jn W=.ok (.value (.agg Z)) W:=fun W=>by rw[<-HZ.o];exact yd W
 have hal:∀W,qj W=.ok (.value (.pointer (some ⟨W.heap.size,0,none⟩))) (W.alloc (.cells Z 40)):=fun W=>by rw[<-HZ.o];exact zX W
 have hsz:Z.size=35:=by rw[<-HZ.o];exact zd qp
 have hz1:Z.all (·.oneCell')=true:=by rw[<-HZ.o];exact y7 _
 have hs0:yF (.pointer (some ⟨w.heap.size+1,0,none⟩)) (.agg Z) ((w.alloc (.cells Z 40)).alloc (.cells Z 40))=.ok .skip ((w.alloc (.cells Z 40)).alloc (.cells Z 40)):=by
  have hg:=kT w (.cells Z 40) (.cells Z 40);rw[yn hg hsz hsz hz1,V9 hg]
 have HSZ:=z0 hsz;have HZ1:=z0 hz1;have HBZ:=z0 hbz;have hst0:=xA.new w (.slice A l.length c) (.int .i64 0) (.bool false);rw[HZ.o]at hst0;clear hv hsz hz1 hK;go_enter func61,ntmps61;go_wp2_with fail;obtain⟨a1,p1,r1,HA1⟩:∃x q s,Hd (zQ 1099511627776 l 0 true=(x,q,s)):=⟨_,_,_,z0 rfl⟩
 have hp1:p1<=l.length:=by have:=Jo (m:=1099511627776) (r:=true) (p:=0) (l:=l) (Nat.zero_le _);rw[HA1.o]at this;exact this
 have C:=HU.o 0 true (Nat.zero_le _) 1099511627776 (by omega) (by omega) _ (hst0).bel;rw[HA1.o]at C;refine C.mono ?_;clear C;rintro e w1 ⟨rfl,hb⟩;have hst:xA w w1 (.slice A l.length c) (.int .i64 0) (.bool false) ⟨0,0,0,qx⟩:=(hst0).below hb;clear hb hst0 hs0 hbz hal;obtain⟨⟨c0,c1,c2⟩,⟨k0,k1,k2⟩,g0,g3⟩:=hst.cells;have HST:=z0 hst;clear hst;unfold rv;go_wp2_with fail;obtain⟨a2,p2,r2,HA2⟩:∃x q s,Hd (zQ 1099511627776 l p1 r1=(x,q,s)):=⟨_,_,_,z0 rfl⟩
 have hp2:p2<=l.length:=by have:=Jo (m:=1099511627776) (r:=r1) (p:=p1) (l:=l) hp1;rw[HA2.o]at this;exact this
 have C:=HU.o p1 r1 hp1 1099511627776 (by omega) (by omega) _ ((HST.o.put (.slice A l.length c) (.int .i64 (p1:Int)) (.bool (!r1)))).bel;rw[HA2.o]at C;refine C.mono ?_;clear C;rintro e w2 ⟨rfl,hb⟩;have hst:xA w w2 (.slice A l.length c) (.int .i64 (p1:Int)) (.bool (!r1)) ⟨0,0,0,qx⟩:=((HST.o.put (.slice A l.length c) (.int .i64 (p1:Int)) (.bool (!r1)))).below hb;clear hb HST c0 c1 c2 k0 k1 k2 g0 g3;obtain⟨⟨c0,c1,c2⟩,⟨k0,k1,k2⟩,g0,g3⟩:=hst.cells;have HST:=z0 hst;clear hst;unfold rv;go_wp2_with fail;obtain⟨a3,p3,r3,HA3⟩:∃x q s,Hd (zQ 3 l p2 r2=(x,q,s)):=⟨_,_,_,z0 rfl⟩
 have hp3:p3<=l.length:=by have:=Jo (m:=3) (r:=r2) (p:=p2) (l:=l) hp2;rw[HA3.o]at this;exact this
 have C:=HU.o p2 r2 hp2 3 (by omega) (by omega) _ (((HST.o.put (.slice A l.length c) (.int .i64 (p2:Int)) (.bool (!r2))).cell (b:=⟨(a2:Int),0,0,qx⟩) (v:=.int .i64 (a2:Int)) 0 rfl)).bel;rw[HA3.o]at C;refine C.mono ?_;clear C;rintro e w3 ⟨rfl,hb⟩;have hst:xA w w3 (.slice A l.length c) (.int .i64 (p2:Int)) (.bool (!r2)) ⟨(a2:Int),0,0,qx⟩:=(((HST.o.put (.slice A l.length c) (.int .i64 (p2:Int)) (.bool (!r2))).cell (b:=⟨(a2:Int),0,0,qx⟩) (v:=.int .i64 (a2:Int)) 0 rfl)).below hb;clear hb HST c0 c1 c2 k0 k1 k2 g0 g3;obtain⟨⟨c0,c1,c2⟩,⟨k0,k1,k2⟩,g0,g3⟩:=hst.cells;have HST:=z0 hst;clear hst;unfold rv;go_wp2_with fail;obtain⟨a4,p4,r4,HA4⟩:∃x q s,Hd (zQ 1099511627776 l p3 r3=(x,q,s)):=⟨_,_,_,z0 rfl⟩
 have hp4:p4<=l.length:=by have:=Jo (m:=1099511627776) (r:=r3) (p:=p3) (l:=l) hp3;rw[HA4.o]at this;exact this
 have C:=HU.o p3 r3 hp3 1099511627776 (by omega) (by omega) _ (((HST.o.put (.slice A l.length c) (.int .i64 (p3:Int)) (.bool (!r3))).cell (b:=⟨(a2:Int),(a3:Int),0,qx⟩) (v:=.int .i64 (a3:Int)) 1 rfl)).bel;rw[HA4.o]at C;refine C.mono ?_;clear C;rintro e w4 ⟨rfl,hb⟩;have hst:xA w w4 (.slice A l.length c) (.int .i64 (p3:Int)) (.bool (!r3)) ⟨(a2:Int),(a3:Int),0,qx⟩:=(((HST.o.put (.slice A l.length c) (.int .i64 (p3:Int)) (.bool (!r3))).cell (b:=⟨(a2:Int),(a3:Int),0,qx⟩) (v:=.int .i64 (a3:Int)) 1 rfl)).below hb;clear hb HST c0 c1 c2 k0 k1 k2 g0 g3;obtain⟨⟨c0,c1,c2⟩,⟨k0,k1,k2⟩,g0,g3⟩:=hst.cells;have HST:=z0 hst;clear hst;unfold rv;go_wp2_with fail;obtain⟨h5,p5,r5,HA5⟩:∃x q s,Hd (yk l p4 r4=(x,q,s)):=⟨_,_,_,z0 rfl⟩
 have hp5:p5<=l.length:=by have:=z0r (l:=l) (p:=p4) (r:=r4) hp4;rw[HA5.o]at this;exact this
 have HL5:Hd (h5.length=32):=z0 (by have:=kI l p4 r4;rw[HA5.o]at this;exact this);have C:=HH.o p4 r4 hp4 _ (((HST.o.put (.slice A l.length c) (.int .i64 (p4:Int)) (.bool (!r4))).cell (b:=⟨(a2:Int),(a3:Int),(a4:Int),qx⟩) (v:=.int .i64 (a4:Int)) 2 rfl)).bel;rw[HA5.o]at C;refine C.mono ?_;clear C;rintro e w5 ⟨rfl,hb⟩;have hst:xA w w5 (.slice A l.length c) (.int .i64 (p4:Int)) (.bool (!r4)) ⟨(a2:Int),(a3:Int),(a4:Int),qx⟩:=(((HST.o.put (.slice A l.length c) (.int .i64 (p4:Int)) (.bool (!r4))).cell (b:=⟨(a2:Int),(a3:Int),(a4:Int),qx⟩) (v:=.int .i64 (a4:Int)) 2 rfl)).below hb;clear hb HST c0 c1 c2 k0 k1 k2 g0 g3;obtain⟨⟨c0,c1,c2⟩,⟨k0,k1,k2⟩,g0,g3⟩:=hst.cells;have HST:=z0 hst;clear hst;unfold rv;go_wp2_with (refine QR rfl _ _ rfl rfl rfl (HST.o.put (.slice A l.length c) (.int .i64 (p5:Int)) (.bool (!r5))).b1 rfl HL5.o ?_;intro wP hgP hbP hsP;have HSP:Hd (xA w wP (.slice A l.length c) (.int .i64 (p5:Int)) (.bool (!r5)) ⟨(a2:Int),(a3:Int),(a4:Int),h5⟩):=z0 ((HST.o.put (.slice A l.length c) (.int .i64 (p5:Int)) (.bool (!r5))).se hgP hbP);obtain⟨⟨d0,d1,d2⟩,⟨e0,e1,e2⟩,f0,f3⟩:=HSP.o.cells;clear hgP hbP hsP);clear HST c0 c1 c2 k0 k1 k2 g0 g3;obtain⟨h6,p6,r6,HA6⟩:∃x q s,Hd (yk l p5 r5=(x,q,s)):=⟨_,_,_,z0 rfl⟩
 have hp6:p6<=l.length:=by have:=z0r (l:=l) (p:=p5) (r:=r5) hp5;rw[HA6.o]at this;exact this
 have HL6:Hd (h6.length=32):=z0 (by have:=kI l p5 r5;rw[HA6.o]at this;exact this);have C:=HH.o p5 r5 hp5 _ (HSP.o).bel;rw[HA6.o]at C;refine C.mono ?_;clear C;rintro e w6 ⟨rfl,hb⟩;have hst:xA w w6 (.slice A l.length c) (.int .i64 (p5:Int)) (.bool (!r5)) ⟨(a2:Int),(a3:Int),(a4:Int),h5⟩:=(HSP.o).below hb;clear hb HSP d0 d1 d2 e0 e1 e2 f0 f3;obtain⟨⟨c0,c1,c2⟩,⟨k0,k1,k2⟩,g0,g3⟩:=hst.cells;have HST:=z0 hst;clear hst;unfold rv;obtain⟨a,HAT⟩:=nm ((⟨(a2:Int),(a3:Int),(a4:Int),h5⟩:ym):ym);have HOK:Hd a.Ok:=z0 (by rw[<-HAT.o];exact HL5.o);have HRAW:Hd (jG l=((a1:Int),a,h6,p6,r6)):=z0 (by rw[<-HAT.o];unfold jG;simp only[HA1.o,HA2.o,HA3.o,HA4.o,HA5.o,HA6.o]);have hst:=(HST.o.put (.slice A l.length c) (.int .i64 (p6:Int)) (.bool (!r6)))
 rw[HAT.o]at hst;go_upto_region 10 with(fail)
 obtain⟨wP,HWP⟩:∃W,Hd (((w6.setCell ⟨w.heap.size+1+1,0,none⟩ (.slice A l.length c)).setCell ⟨w.heap.size+1+1,1,none⟩ (.int .i64 (p6:Int))).setCell ⟨w.heap.size+1+1,2,none⟩ (.bool (!r6))=W):=⟨_,z0 rfl⟩
 rw[HWP.o]at hst⊢;have HSP:=z0 hst;clear HST c0 c1 c2 k0 k1 k2 g0 g3 HA1 HA2 HA3 HA4 HA5 HA6 HAT HWP hst;have HZB:Hd (∀W {y0 y1 y2:Value} {b:ym},xA w W y0 y1 y2 b->W.heap[w.heap.size]?=some (.cells Z 40 (0,0))):=z0 (fun W _ _ _ _ h=>by have:=h.b0;unfold zN at this;rwa[HZ.o]at this)
 have HZS:Hd (∀W {y0 y1 y2:Value} {b:ym},xA w W y0 y1 y2 b->yF (.pointer (some ⟨w.heap.size,0,none⟩)) (.agg Z) W=.ok .skip W):=z0 (fun W _ _ _ _ h=>by
  have hg:=HZB.o W h
  rw[yn hg HSZ.o HSZ.o HZ1.o,V9 hg])
 obtain⟨⟨c0,c1,c2⟩,_,_,_⟩:=HSP.o.cells;cases r6 with
 |false=>
  have HF:=HZB.o _ (HSP.o);have hbz:=HBZ.o;have hsf:yF (.pointer (some ⟨w.heap.size,0,none⟩)) (.agg Z) _=_:=HZS.o _ (HSP.o);go_wp2_with fail;refine Bp (yJ rfl _ _ _ _ _ _ _ rfl rfl rfl HF HSZ.o) rfl ⟨?_,(HSP.o).bel⟩;rw[xQ (i:=i) (by rw[ZB HRAW.o];rfl),<-HZ.o];all_goals rfl
 |true=>
  by_cases hpl:p6=l.length
  ·have hd:((p6:Int) != (l.length:Int))=false:=by simp[hpl]
   have HPL:=z0 hpl;clear hpl;by_cases hv1:(a1:Int)<1
   ·have HV1:=z0 hv1;have HF:=HZB.o _ (HSP.o);have hbz:=HBZ.o;have hsf:yF (.pointer (some ⟨w.heap.size,0,none⟩)) (.agg Z) _=_:=HZS.o _ (HSP.o);go_wp2_with fail;refine Bp (yJ rfl _ _ _ _ _ _ _ rfl rfl rfl HF HSZ.o) rfl ⟨?_,(HSP.o).bel⟩;rw[xQ (i:=i) (by rw[ZB HRAW.o];have:=HV1.o;simp;omega),<-HZ.o];all_goals rfl
   ·obtain⟨CA,HCA⟩:=nm (zp a);obtain⟨m,HM⟩:=nm (qZ a)
    have HMA:Hd (∀W,Calls prog 62 #[.agg CA] W fun e w'=>e=.returned (.bool m)/\Below W.heap.size W w'):=z0 (fun W=>by
     have:=xo a W HOK.o;rw[HCA.o,HM.o]at this
     exact this)
    have HLD:Hd (∀W,zN W (w.heap.size+1) a->zW (.pointer (some ⟨w.heap.size+1,0,none⟩)) W=.ok (.value (.agg CA)) W):=z0 (fun W h=>by
     have:=kL h HOK.o;rw[HCA.o]at this
     exact this)
    have l0:=HLD.o wP HSP.o.b1;go_wp2_with fail;refine(HMA.o wP).mono ?_;rintro e w7 ⟨rfl,hb7⟩;have HS7:=z0 (HSP.o.below hb7);have HV1:=z0 hv1;clear l0 hb7 c0 c1 c2 hd hv1;cases m with
    |false=>
     have HF:=HZB.o _ (HS7.o);have hbz:=HBZ.o;have hsf:yF (.pointer (some ⟨w.heap.size,0,none⟩)) (.agg Z) _=_:=HZS.o _ (HS7.o);go_wp2_with fail;refine Bp (yJ rfl _ _ _ _ _ _ _ rfl rfl rfl HF HSZ.o) rfl ⟨?_,(HS7.o).bel⟩;rw[xQ (i:=i) (by rw[ZB HRAW.o];rw[HM.o];simp),<-HZ.o];all_goals rfl
    |true=>
     have HTX:Hd (YY l=true):=z0 (by rw[ZB HRAW.o,HM.o];have:=HPL.o;have:=HV1.o;simp;omega);have hnode:zS i=decide (1<=i/\i<=21):=rfl;by_cases hi1:i<1
     ·have HNO:Hd (zS i=false):=z0 (by rw[hnode];simp;omega);clear hnode;have HF:=HZB.o _ (HS7.o);have hbz:=HBZ.o;have hsf:yF (.pointer (some ⟨w.heap.size,0,none⟩)) (.agg Z) _=_:=HZS.o _ (HS7.o);go_wp2_with fail;refine Bp (yJ rfl _ _ _ _ _ _ _ rfl rfl rfl HF HSZ.o) rfl ⟨?_,(HS7.o).bel⟩;rw[VS HTX.o (by rw[HNO.o];rintro⟨h,_⟩;cases h),<-HZ.o];all_goals rfl
     by_cases hi2:21<i
     ·have HNO:Hd (zS i=false):=z0 (by rw[hnode];simp;omega);clear hnode;have HF:=HZB.o _ (HS7.o);have hbz:=HBZ.o;have hsf:yF (.pointer (some ⟨w.heap.size,0,none⟩)) (.agg Z) _=_:=HZS.o _ (HS7.o);go_wp2_with fail;refine Bp (yJ rfl _ _ _ _ _ _ _ rfl rfl rfl HF HSZ.o) rfl ⟨?_,(HS7.o).bel⟩;rw[VS HTX.o (by rw[HNO.o];rintro⟨h,_⟩;cases h),<-HZ.o];all_goals rfl
     have HYE:Hd (zS i=true):=z0 (by rw[hnode];simp;omega);have HVB:Hd (jY (a1:Int)=true):=z0 (by have:=(z4k HTX.o).2.1;rw[HRAW.o]at this;exact this)
     have HPT:Hd (∀W,Below w.heap.size w W->Calls prog 63 #[.int .i64 i,.int .i64 (a1:Int),.agg CA] W fun e w'=>∃x,e=.returned x/\ql W.heap.size w' x (vF i (a1:Int) a)/\Below W.heap.size W w'):=z0 (fun W h=>by
      have:=VR i (a1:Int) a W HOK.o HVB.o HM.o (HKB.o W h);rw[HCA.o]at this
      exact this)
     have HEQ:=z0 (z9I i HTX.o);rw[HRAW.o]at HEQ;obtain⟨BL,HBL⟩:=nm (vF i (a1:Int) a:List UInt8);rw[HBL.o]at HPT;simp only[HBL.o]at HEQ;have l0:=HLD.o w7 HS7.o.b1;clear hnode;go_wp2_with fail;refine(HPT.o w7 HS7.o.bel).mono ?_;rintro e w8 ⟨x8,rfl,ho8,hb8⟩;have HS8:=z0 (HS7.o.below hb8);clear l0 hb8;go_wp2_with fail;refine(HSM.o _ BL w8 HS8.o.bel ho8.byt).mono ?_;rintro e w9 ⟨rfl,n9,rfl⟩;have HS9:=z0 (HS8.o.below (zA (Below.refl _ _) n9));obtain⟨d,HD⟩:=nm (decide (BL=l));rw[HD.o];generalize w8.drewN n9=wQ at *;clear ho8;cases d with
     |false=>
      have HF:=HZB.o _ (HS9.o);have hbz:=HBZ.o;have hsf:yF (.pointer (some ⟨w.heap.size,0,none⟩)) (.agg Z) _=_:=HZS.o _ (HS9.o);go_wp2_with fail;refine Bp (yJ rfl _ _ _ _ _ _ _ rfl rfl rfl HF HSZ.o) rfl ⟨?_,(HS9.o).bel⟩;rw[VS HTX.o (by rw[HRAW.o];rintro⟨_,h⟩;exact(of_decide_eq_false HD.o) (HEQ.o.2 h)),<-HZ.o];all_goals rfl
     |true=>
      go_upto_region 14 with(fail)
      have HXR:Hd (∀W:World,zN W (w.heap.size+1) a->zW (.pointer (some ⟨w.heap.size+1,0,none⟩)) W=.ok (.value (.agg CA)) W):=HLD;have HCS:Hd (CA.size=35/\CA.all (·.oneCell')=true):=z0 (by rw[<-HCA.o];exact⟨zd HOK.o,y7 _⟩);have HB0:=z0 (HZB.o _ HS9.o);have HB1:=z0 HS9.o.b1;have HBE:=z0 HS9.o.bel;have HLT:=z0 HS9.o.lt;refine Rh (S:=fun W=>zW (.pointer (some ⟨w.heap.size+1,0,none⟩)) W=.ok (.value (.agg CA)) W) (by kernel_rfl) (HXR.o wQ.drew HB1.o) (fun hHeld=>?_);refine' z5 0 (h:=?_);refine' tk (i:=1) (v:=_) rfl (fun W hW=>hW) ?_;try simp only[zx]
      refine' z5 2 (h:=?_);refine qc 3 (h:=fun K hK=>?_);refine Xd (w:=wQ.drew) (C:=CA) _ _ rfl rfl rfl HB0.o HCS.o.1 HSZ.o HCS.o.2 ?_;intro wa hga hra hsa;have h1:zN wa (w.heap.size+1) a:=(hga.block _ (by show _<wQ.heap.size;have:=HLT.o;omega) (fun e=>by injection e with e;omega)).trans HB1.o;have hBB:Below w.heap.size w wa:=zh (HBE.o.drew) (Nat.le_refl _) hga (by show _<=wQ.heap.size;have:=HLT.o;omega);refine hK.out _ _ (HXR.o wa h1) (fun hHeld=>?_);clear hK K;try simp only[zx]
      refine' z5 4 (h:=?_);refine wpAnyH_done (by kernel_rfl) ?_ _;clear hHeld;go_wp2_with fail;refine Bp (yJ rfl _ _ _ _ _ _ _ rfl rfl rfl hra HCS.o.1) rfl ⟨?_,hBB⟩;rw[z4x HTX.o ⟨HYE.o,by rw[HRAW.o];exact HEQ.o.1 (of_decide_eq_true HD.o)⟩,HRAW.o,HCA.o];all_goals rfl
  ·have hd:((p6:Int) != (l.length:Int))=true:=bne_iff_ne.2 (by omega);have HPL:=z0 hpl;clear hpl;have HF:=HZB.o _ (HSP.o);have hbz:=HBZ.o;have hsf:yF (.pointer (some ⟨w.heap.size,0,none⟩)) (.agg Z) _=_:=HZS.o _ (HSP.o);go_wp2_with fail;refine Bp (yJ rfl _ _ _ _ _ _ _ rfl rfl rfl HF HSZ.o) rfl ⟨?_,(HSP.o).bel⟩;rw[xQ (i:=i) (by rw[ZB HRAW.o];have:=HPL.o;simp[this]),<-HZ.o];all_goals rfl
end
section
theorem ZZ:∀(w:World) (a:Option Addr) (n c:Nat),(binOp .eql 33 (.slice a n c) (.slice none 0 0)).run prog w=.ok (.bool a.isNone) w:=fun w a n c=>Lib.run_eql_slice_nil w _ _ a n c 0 0 zG
theorem KI:prog.underlying 34=some (.array 2 33):=by kernel_rfl
theorem zbn (x y:Value) (w:World):(Instr.index 34 (.agg #[x,y]) (.int .i64 0)).run prog w=.ok x w/\(Instr.index 34 (.agg #[x,y]) (.int .i64 1)).run prog w=.ok y w:=by
 constructor
 ·simp[Instr.index,asIntOf,Sem.run_bind,run_underlying KI,Go.part,isAgg,run_underlying zG]
 ·simp[Instr.index,asIntOf,Sem.run_bind,run_underlying KI,Go.part,isAgg,run_underlying zG]
structure qW (w:World) (v:Value) (l:List UInt8):Prop where
 byt:zP w v l
 ty:l≠[]->∀k,v.ownBlock=some k->∃C,w.heap[k]?=some (.cells C 5 (0,0))
theorem qW.shape {w:World}{v:Value}{l:List UInt8} (h:qW w v l):∃A c,v=.slice A l.length c:=h.byt.shape
theorem qW.nil (w:World):qW w (.slice none 0 0) []:=⟨zP.nil w,fun h=>absurd rfl h⟩
theorem ql.bys {w:World}{B:Nat}{v:Value}{l:List UInt8} (h:ql B w v l):qW w v l:=by
 refine⟨h.byt,fun _ k e=>?_⟩;rcases h.2 with ⟨rfl,_⟩|⟨g,xz,cur,rfl,_,F,_⟩
 ·cases e
 ·obtain rfl:g=k:=by injection e
  exact⟨_,F⟩
theorem qW.away {w w':World}{v:Value}{l:List UInt8} (h:qW w v l) (O:w.heap.size<=w'.heap.size)
  (G:∀(k:Nat) (C:Array Value),w.heap[k]?=some (Obj.cells C 5 (0,0))->w'.heap[k]?=w.heap[k]?):qW w' v l:=by
 obtain⟨⟨A,c,rfl,h1,h2,h3⟩,hn⟩:=h;by_cases hl:l=[]
 ·subst hl;exact⟨⟨A,c,rfl,h1,h2,RdB.nil _ _⟩,fun h=>absurd rfl h⟩
 ·obtain⟨b,M,rfl,N,K⟩:=h3 (List.length_pos_iff.2 hl);obtain⟨C,F⟩:=hn hl b rfl;have e:=G b C F;refine⟨⟨_,c,rfl,h1,h2,fun _=>⟨b,M,rfl,by omega,fun j I=>(World.cell?_of_block e).trans (K j I)⟩⟩,fun h k J=>?_⟩;obtain rfl:b=k:=by injection J
  exact⟨C,e.trans F⟩
theorem qW.below {w w':World}{v:Value}{l:List UInt8} (h:qW w v l) (F:Below w.heap.size w w'):qW w' v l:=h.away F.size (fun k _ G=>F.block k (Lb G))
theorem qW.drewN {w:World}{v:Value}{l:List UInt8} (h:qW w v l) (n:Nat):qW (w.drewN n) v l:=⟨h.byt.drewN n,h.ty⟩
theorem q9 {w:World}{b a:Nat}{C D:Array Value}{T U:TypeId} (h:w.heap[b]?=some (.cells C T (0,0))) (k:w.heap[a]?=some (.cells D U (0,0))) (F:T≠U):b≠a:=by
 rintro rfl;have:=h.symm.trans k;injection this with e;injection e with _ e _;exact F e
def vac (i:Int) (v0 v1:Value) (c:Nat) (left:Int) (dead:Bool) (vt:Value):Array Value:=
 #[.int .i64 i,v0,v1,.pointer (some ⟨c,0,none⟩),.int .i64 left,.bool dead,vt]
structure zU (w:World) (b c a:Nat) (V:yV) (v0 v1 vt:Value):Prop where
 p:w.heap[b]?=some (.cells (vac V.i v0 v1 c V.left V.dead vt) 89 (0,0))
 k:Ctr w c a V.n
 y0:qW w v0 V.s0
 y1:qW w v1 V.s1
 yt:qW w vt V.torn
 nt:V.torn=[]->vt=.slice none 0 0
def jL (w:World) (b c a:Nat) (V:yV):Prop:=∃v0 v1 vt,zU w b c a V v0 v1 vt
structure zJ (b a:Nat) (w w':World):Prop where
 os:w'.os=w.os
 tape:w'.tape=w.tape
 output:w'.output=w.output
 size:w.heap.size<=w'.heap.size
 block:∀k,k<w.heap.size->k≠b->k≠a->w'.heap[k]?=w.heap[k]?
theorem zJ.refl (b a:Nat) (w:World):zJ b a w w:=⟨rfl,rfl,rfl,Nat.le_refl _,fun _ _ _ _=>rfl⟩
theorem zJ.trans {b a:Nat}{x y z:World} (h:zJ b a x y) (k:zJ b a y z):zJ b a x z:=
 ⟨k.os.trans h.os,k.tape.trans h.tape,k.output.trans h.output,Nat.le_trans h.size k.size,fun i h1 h2 h3=>(k.block i (Nat.lt_of_lt_of_le h1 h.size) h2 h3).trans (h.block i h1 h2 h3)⟩
theorem zJ.of {b a:Nat}{w w':World} (h:Below w.heap.size w w'):zJ b a w w':=⟨h.os,h.tape,h.output,h.size,fun k F _ _=>h.block k F⟩
theorem zJ.below {b a B:Nat}{w0 w w':World} (h:zJ b a w w') (h0:Below B w0 w) (I:B<=b) (ha:B<=a) (G:B<=w.heap.size):Below B w0 w':=
 h0.trans ⟨h.os,h.tape,h.output,h.size,fun k F=>h.block k (Nat.lt_of_lt_of_le F G) (by omega) (by omega)⟩
theorem zJ.setB {b a:Nat}{w w':World} (h:zJ b a w w') (i:Nat) (u:Value):zJ b a w (w'.setCell ⟨b,i,none⟩ u):=
 h.trans ⟨rfl,rfl,rfl,by simp[World.setCell],fun k _ h2 _=>Hs _ _ _ _ h2⟩
theorem zJ.setA {b a:Nat}{w w':World} (h:zJ b a w w') (i:Nat) (u:Value):zJ b a w (w'.setCell ⟨a,i,none⟩ u):=
 h.trans ⟨rfl,rfl,rfl,by simp[World.setCell],fun k _ _ h3=>Hs _ _ _ _ h3⟩
theorem zJ.then {b a:Nat}{w w' F:World} (h:zJ b a w w') (k:Below w'.heap.size w' F):zJ b a w F:=h.trans (zJ.of k)
theorem z9V {w w':World}{v:Value}{l:List UInt8} (h:zP w v l) (F:w.heap.size<=w'.heap.size) (S:Nat->Prop)
  (N:∀k,S k->∀i c,w.cell? ⟨k,i,none⟩≠some (z3 c)) (I:∀k,k<w.heap.size->¬S k->w'.heap[k]?=w.heap[k]?):zP w' v l:=by
 obtain⟨A,c,rfl,h1,h2,h3⟩:=h;refine⟨A,c,rfl,h1,h2,fun hl=>?_⟩;obtain⟨b,M,e,J,G⟩:=h3 hl;refine⟨b,M,e,by omega,fun j K=>?_⟩;have hn:¬S b:=fun F=>N b F _ _ (G 0 hl);exact(World.cell?_of_block (I b J hn)).trans (G j K)
section
variable {w w':World}{b c a:Nat}{V:yV}{v0 v1 vt:Value}
theorem zU.nob (h:zU w b c a V v0 v1 vt) (i:Nat) (x:UInt8):w.cell? ⟨b,i,none⟩≠some (z3 x):=by
 rw[kB h.p];obtain⟨A0,c0,r0⟩:=h.y0.shape;obtain⟨A1,c1,r1⟩:=h.y1.shape;obtain⟨G,F,r2⟩:=h.yt.shape;subst r0 r1 r2;unfold vac z3
 match i with
 |0=>simp
 |1=>simp
 |2=>simp
 |3=>simp
 |4=>simp
 |5=>simp
 |6=>simp
 |i+7=>simp
theorem zU.noa (h:zU w b c a V v0 v1 vt) (i:Nat) (x:UInt8):w.cell? ⟨a,i,none⟩≠some (z3 x):=by
 rw[kB h.k.q];unfold z3
 match i with
 |0=>simp
 |i+1=>simp
theorem zU.turned (h:zU w b c a V v0 v1 vt) {v:Value}{l:List UInt8} (I:zP w v l) (G:zJ b a w w'):zP w' v l:=
 z9V I G.size (fun k=>k=b\/k=a) (fun k F=>by rcases F with rfl|rfl;exact h.nob;exact h.noa) (fun k F hn=>G.block k F (fun e=>hn (.inl e)) (fun e=>hn (.inr e)))
theorem zU.turnedS (h:zU w b c a V v0 v1 vt) {v:Value}{l:List UInt8} (I:qW w v l) (G:zJ b a w w'):qW w' v l:=
 I.away G.size (fun k _ F=>G.block k (Lb F) (q9 F h.p (by decide)) (q9 F h.k.q (by decide)))
theorem jL.turned (h:jL w b c a V) {v:Value}{l:List UInt8} (F:zP w v l) (G:zJ b a w w'):zP w' v l:=by
 obtain⟨v0,v1,vt,h⟩:=h;exact h.turned F G
theorem zU.lt (h:zU w b c a V v0 v1 vt):b<w.heap.size:=Lb h.p
theorem zU.ltc (h:zU w b c a V v0 v1 vt):c<w.heap.size:=Lb h.k.p
theorem zU.lta (h:zU w b c a V v0 v1 vt):a<w.heap.size:=Lb h.k.q
theorem zcJ:89≠165:=by decide
theorem zcK:89≠162:=by decide
theorem z64:89≠40:=by decide
theorem z65:162≠40:=by decide
theorem zU.bc (h:zU w b c a V v0 v1 vt):b≠c:=q9 h.p h.k.p zcJ
theorem zU.ba (h:zU w b c a V v0 v1 vt):b≠a:=q9 h.p h.k.q zcK
theorem zU.box (h:zU w b c a V v0 v1 vt) {g:Nat}{s:ym} (hx:zN w g s) (F:zJ b a w w'):zN w' g s:=by
 have h1:g≠b:=(q9 h.p hx z64).symm;have h2:g≠a:=(q9 h.k.q hx z65).symm;exact(F.block g (Lb hx) h1 h2).trans hx
theorem jL.box (h:jL w b c a V) {g:Nat}{C:Array Value} (hx:w.heap[g]?=some (.cells C 40 (0,0))) (F:zJ b a w w'):w'.heap[g]?=some (.cells C 40 (0,0)):=by
 obtain⟨v0,v1,vt,h⟩:=h;have h1:g≠b:=(q9 h.p hx z64).symm;have h2:g≠a:=(q9 h.k.q hx z65).symm;exact(F.block g (Lb hx) h1 h2).trans hx
theorem zU.below (h:zU w b c a V v0 v1 vt) (F:Below w.heap.size w w'):zU w' b c a V v0 v1 vt:=
 ⟨(F.block b h.lt).trans h.p,h.k.below F h.ltc h.lta,h.y0.below F,h.y1.below F,h.yt.below F,h.nt⟩
theorem jL.below (h:jL w b c a V) (F:Below w.heap.size w w'):jL w' b c a V:=by
 obtain⟨v0,v1,vt,h⟩:=h;exact⟨v0,v1,vt,h.below F⟩
theorem zU.alloc (h:zU w b c a V v0 v1 vt) (o:Obj):zU (w.alloc o) b c a V v0 v1 vt:=h.below ((Below.refl _ _).alloc (Nat.le_refl _) o)
theorem zU.cells (h:zU w b c a V v0 v1 vt):w.cell? ⟨b,0,none⟩=some (.int .i64 V.i)/\w.cell? ⟨b,1,none⟩=some v0/\w.cell? ⟨b,2,none⟩=some v1/\w.cell? ⟨b,3,none⟩=some (.pointer (some ⟨c,0,none⟩))
  /\ w.cell? ⟨b,4,none⟩=some (.int .i64 V.left)/\w.cell? ⟨b,5,none⟩=some (.bool V.dead)/\w.cell? ⟨b,6,none⟩=some vt:=by
 simp only[kB h.p];exact⟨rfl,rfl,rfl,rfl,rfl,rfl,rfl⟩
theorem zU.free (h:zU w b c a V v0 v1 vt) (i:Nat):w.frozen? ⟨b,i,none⟩=false:=jh h.p i
theorem zU.set (h:zU w b c a V v0 v1 vt) {i:Nat}{u:Value}{V':yV}{u0 u1 F:Value} (I:(vac V.i v0 v1 c V.left V.dead vt).setIfInBounds i u=vac V'.i u0 u1 c V'.left V'.dead F) (hn:V'.n=V.n)
  (h0:qW w u0 V'.s0) (h1:qW w u1 V'.s1) (h2:qW w F V'.torn) (h3:V'.torn=[]->F=.slice none 0 0):zU (w.setCell ⟨b,i,none⟩ u) b c a V' u0 u1 F:=by
 have G:zJ b a w (w.setCell ⟨b,i,none⟩ u):=(zJ.refl b a w).setB i u;refine⟨?_,?_,h.turnedS h0 G,h.turnedS h1 G,h.turnedS h2 G,h3⟩
 ·rw[z1L w h.p,I]
 ·rw[hn];exact⟨(Hs _ _ _ _ h.bc.symm).trans h.k.p,(Hs _ _ _ _ h.ba.symm).trans h.k.q⟩
theorem zU.setLeft (h:zU w b c a V v0 v1 vt) (x:Int):zU (w.setCell ⟨b,4,none⟩ (.int .i64 x)) b c a { V with left:=x } v0 v1 vt:=h.set rfl rfl h.y0 h.y1 h.yt h.nt
theorem zU.setDead (h:zU w b c a V v0 v1 vt) (x:Bool):zU (w.setCell ⟨b,5,none⟩ (.bool x)) b c a { V with dead:=x } v0 v1 vt:=h.set rfl rfl h.y0 h.y1 h.yt h.nt
theorem zU.setTorn (h:zU w b c a V v0 v1 vt) {x:Value}{l:List UInt8} (hx:qW w x l) (hn:l=[]->x=.slice none 0 0):zU (w.setCell ⟨b,6,none⟩ x) b c a { V with torn:=l } v0 v1 x:=h.set rfl rfl h.y0 h.y1 hx hn
theorem zU.setSlot (h:zU w b c a V v0 v1 vt) {k:Int} (F:k=0\/k=1) {x:Value}{l:List UInt8} (hx:qW w x l):jL (w.setCell ⟨b,1+k.toNat,none⟩ x) b c a (zu V k l):=by
 rcases F with rfl|rfl
 ·exact⟨x,v1,vt,h.set rfl rfl hx h.y1 h.yt h.nt⟩
 ·exact⟨v0,x,vt,h.set rfl rfl h.y0 hx h.yt h.nt⟩
theorem zU.setZero (h:zU w b c a V v0 v1 vt) {x:Value}{l:List UInt8} (hx:qW w x l):zU (w.setCell ⟨b,1,none⟩ x) b c a (zu V 0 l) x v1 vt:=h.set rfl rfl hx h.y1 h.yt h.nt
theorem zU.setOne (h:zU w b c a V v0 v1 vt) {x:Value}{l:List UInt8} (hx:qW w x l):zU (w.setCell ⟨b,2,none⟩ x) b c a (zu V 1 l) v0 x vt:=h.set rfl rfl h.y0 hx h.yt h.nt
theorem zU.up (h:zU w b c a V v0 v1 vt) (m:Int):zU (w.setCell ⟨a,0,none⟩ (.int .i64 m)) b c a { V with n:=m } v0 v1 vt:=by
 have F:zJ b a w (w.setCell ⟨a,0,none⟩ (.int .i64 m)):=(zJ.refl b a w).setA 0 _;exact⟨(Hs _ _ _ _ h.ba).trans h.p,h.k.set m,h.turnedS h.y0 F,h.turnedS h.y1 F,h.turnedS h.yt F,h.nt⟩
end
theorem jL.setSe {w:World}{b c a g:Nat}{V:yV}{C0:Array Value} (h:jL w b c a V) (hg:w.heap[g]?=some (.cells C0 40 (0,0))) (C:Array Value):jL (setSe w g C) b c a V:=by
 obtain⟨v0,v1,vt,h⟩:=h;have G:w.heap.size<=(Go.Proofs.YtjlinimnnbfmaaaGreatDoor.setSe w g C).heap.size:=by unfold Go.Proofs.YtjlinimnnbfmaaaGreatDoor.setSe;simp
 have F:∀(k:Nat) (D:Array Value),w.heap[k]?=some (Obj.cells D 5 (0,0))->(Go.Proofs.YtjlinimnnbfmaaaGreatDoor.setSe w g C).heap[k]?=w.heap[k]?:=fun k _ h=>zl w C (q9 h hg (by decide));have h1:b≠g:=q9 h.p hg z64;have h2:a≠g:=q9 h.k.q hg z65;have h3:c≠g:=q9 h.k.p hg (by decide)
 exact⟨v0,v1,vt,(zl w C h1).trans h.p,⟨(zl w C h3).trans h.k.p,(zl w C h2).trans h.k.q⟩,
  h.y0.away G F,h.y1.away G F,h.yt.away G F,h.nt⟩
theorem jL.kept {w w':World}{b c a:Nat}{V:yV} (h:jL w b c a V) (I:w.heap.size<=w'.heap.size)
  (F:∀(k:Nat) (C:Array Value) (T:TypeId),w.heap[k]?=some (Obj.cells C T (0,0))->T=5\/T=89\/T=165\/T=162->w'.heap[k]?=w.heap[k]?):jL w' b c a V:=by
 obtain⟨v0,v1,vt,h⟩:=h;have G:∀(k:Nat) (C:Array Value),w.heap[k]?=some (Obj.cells C 5 (0,0))->w'.heap[k]?=w.heap[k]?:=fun k C h=>F k C _ h (.inl rfl)
 exact⟨v0,v1,vt,(F _ _ _ h.p (.inr (.inl rfl))).trans h.p,⟨(F _ _ _ h.k.p (.inr (.inr (.inl rfl)))).trans h.k.p,(F _ _ _ h.k.q (.inr (.inr (.inr rfl)))).trans h.k.q⟩,
  h.y0.away I G,h.y1.away I G,h.yt.away I G,h.nt⟩
theorem jL.other {w w':World}{b c a g:Nat}{V:yV}{C:Array Value}{T:TypeId} (h:jL w b c a V) (hx:w.heap[g]?=some (.cells C T (0,0))) (h1:89≠T) (h2:162≠T) (F:zJ b a w w'):w'.heap[g]?=some (.cells C T (0,0)):=by
 obtain⟨v0,v1,vt,h⟩:=h;exact(F.block g (Lb hx) (q9 h.p hx h1).symm (q9 h.k.q hx h2).symm).trans hx
def z29 (w:World) (v:Value):Prop:=v=.pointer none\/∃b,v=.pointer (some ⟨b,0,none⟩)/\w.heap[b]?=some (.cells #[.int .i64 0,.slice none 0 0,.slice none 0 0,.pointer none,.int .i64 0,.bool false,.slice none 0 0] 89 (0,0))
theorem z29.below {w w':World}{v:Value} (h:z29 w v) (G:Below w.heap.size w w'):z29 w' v:=by
 rcases h with h|⟨b,h,F⟩
 ·exact .inl h
 ·exact .inr ⟨b,h,(G.block b (Lb F)).trans F⟩
end
section
section
variable {w:World}{b c a:Nat}{V:yV}{v0 v1 vt:Value}
theorem jJ (h:zU w b c a V v0 v1 vt):Calls prog 84 #[.pointer (some ⟨b,0,none⟩)] w fun e w'=>e=.returned (.bool true)/\w=w':=by
 obtain⟨_,_,_,h3,_,_,_⟩:=h.cells;clear h;go_enter func84,ntmps84;go_wp2;go_ret;exact⟨rfl,rfl⟩
theorem z66 (w:World):Calls prog 84 #[.pointer none] w fun e w'=>e=.returned (.bool false)/\w=w':=by
 go_enter func84,ntmps84;go_wp2;go_ret;exact⟨rfl,rfl⟩
theorem z9W {v:Value} (h:z29 w v):Calls prog 84 #[v] w fun e w'=>e=.returned (.bool false)/\w=w':=by
 rcases h with rfl|⟨b,rfl,F⟩
 ·exact z66 w
 ·have h3:w.cell? ⟨b,3,none⟩=some (.pointer none):=by rw[kB F];rfl
  clear F;go_enter func84,ntmps84;go_wp2;go_ret;exact⟨rfl,rfl⟩
theorem z0s (h:zU w b c a V v0 v1 vt):Calls prog 56 #[.pointer (some ⟨b,0,none⟩)] w fun e w'=>e=.returned (.int .i64 (if V.dead=true then 6 else 0))/\w=w':=by
 obtain⟨_,_,_,_,_,I,_⟩:=h.cells;have F:=z0 (jJ h);obtain⟨d,hd⟩:∃d,V.dead=d:=⟨_,rfl⟩
 rw[hd]at I⊢;clear h hd;cases d with
 |true=>
  rw[if_pos rfl];go_enter func56,ntmps56;go_wp2_with fail;refine F.o.mono ?_;rintro e G ⟨rfl,rfl⟩;go_wp2;go_ret;exact⟨rfl,rfl⟩
 |false=>
  rw[if_neg (by decide)];go_enter func56,ntmps56;go_wp2_with fail;refine F.o.mono ?_;rintro e G ⟨rfl,rfl⟩;go_wp2;go_ret;exact⟨rfl,rfl⟩
theorem z8r {v:Value} (h:z29 w v):Calls prog 56 #[v] w fun e w'=>e=.returned (.int .i64 5)/\w=w':=by
 have F:=z0 (z9W h);clear h;go_enter func56,ntmps56;go_wp2_with fail;refine F.o.mono ?_;rintro e G ⟨rfl,rfl⟩;go_wp2;go_ret;exact⟨rfl,rfl⟩
theorem zcL {n:Int} (h:n<=1099511627776):xz n=n:=by
 unfold xz;split <;> omega
theorem Yj (h:zU w b c a V v0 v1 vt) (g:V.Good):Calls prog 57 #[.pointer (some ⟨c,0,none⟩)] w fun e w'=>e=.returned (.int .i64 V.n)/\w=w':=by
 have:=zcx h.k g.n0;rw[zcL g.n1]at this;exact this
theorem z2a (h:zU w b c a V v0 v1 vt) (g:V.Good):Calls prog 82 #[.pointer (some ⟨b,0,none⟩)] w fun e w'=>e=.returned (.int .i64 (V.n+1))/\w=w':=by
 obtain⟨_,_,_,h3,_,_,_⟩:=h.cells;have F:=z0 (Yj h g);have h0:=g.n0;have h1:=g.n1;have I:IntKind.i64.wrap (V.n+1)=V.n+1:=by rw[IntKind.wrap_i64];omega
 clear h g;generalize V.n=n at *;go_enter func82,ntmps82;go_wp2_with fail;refine F.o.mono ?_;rintro e G ⟨rfl,rfl⟩;go_wp2;go_ret;exact⟨rfl,rfl⟩
theorem vL (h:zU w b c a V v0 v1 vt) (g:V.Good):Calls prog 135 #[.pointer (some ⟨b,0,none⟩)] w fun e w'=>e=.returned (.int .i64 (qr V))/\w=w':=by
 have F:=z0 (z2a h g);have h0:=g.n0;have h1:=g.n1;have I:(V.n+1).tmod 2=qr V:=by unfold qr;rw[Int.tmod_eq_emod_of_nonneg (by omega)]
 have J:IntKind.i64.wrap (qr V)=qr V:=by unfold qr;rw[IntKind.wrap_i64];omega
 clear h g;generalize qr V=k at *;generalize V.n=n at *;go_enter func135,ntmps135;go_wp2_with fail;refine F.o.mono ?_;rintro e G ⟨rfl,rfl⟩;go_wp2;go_ret;exact⟨rfl,rfl⟩
theorem kN (k:Int) (w:World):Calls prog 85 #[.int .i64 k] w fun e w'=>e=.returned (.bool (decide (0<=k) && decide (k<2)))/\w=w':=by
 by_cases h0:0<=k
 ·rw[decide_eq_true h0,Bool.true_and];by_cases h1:k<2
  ·rw[decide_eq_true h1];go_enter func85,ntmps85;go_wp2;go_ret;exact⟨rfl,rfl⟩
  ·rw[decide_eq_false h1];go_enter func85,ntmps85;go_wp2;go_ret;exact⟨rfl,rfl⟩
 ·rw[decide_eq_false h0,Bool.false_and];go_enter func85,ntmps85;go_wp2;go_ret;exact⟨rfl,rfl⟩
theorem k9 (h:zU w b c a V v0 v1 vt) (g:V.Good):Calls prog 134 #[.pointer (some ⟨b,0,none⟩)] w fun e w'=>e=.returned (.bool (yh V))/\zU w' b c a (zc V) v0 v1 vt/\zJ b a w w':=by
 obtain⟨_,_,_,_,N,_,_⟩:=h.cells;have a0:=h.free 4;have a1:=h.free 5;have G:∀w',Calls prog 134 #[.pointer (some ⟨b,0,none⟩)] w (fun e M=>e=.returned (.bool (yh V))/\w'=M)->zU w' b c a (zc V) v0 v1 vt->zJ b a w w'->
   Calls prog 134 #[.pointer (some ⟨b,0,none⟩)] w fun e w'=>e=.returned (.bool (yh V))/\zU w' b c a (zc V) v0 v1 vt/\zJ b a w w':=by
  intro w' h1 h2 h3;refine h1.mono ?_;rintro e M ⟨he,rfl⟩;exact⟨he,h2,h3⟩
 have K:=g.left0;have gr:=g.left1;by_cases J:V.left=-1
 ·refine G w ?_ (by unfold zc;rw[if_neg (by omega),if_pos (by omega)];exact h) (zJ.refl _ _ _);have F:yh V=true:=by unfold yh;rw[J];rfl
  rw[F];rw[J]at N;clear G h g K gr J F;go_enter func134,ntmps134;go_wp2;go_ret;exact⟨rfl,rfl⟩
 by_cases I:V.left=0
 ·refine G (w.setCell ⟨b,5,none⟩ (.bool true)) ?_ (by unfold zc;rw[if_pos I];exact h.setDead true) ((zJ.refl _ _ _).setB _ _);have F:yh V=false:=by unfold yh;rw[I];rfl
  rw[F];rw[I]at N;obtain⟨_,_,_,_,_,O,_⟩:=h.cells;clear G h g K gr J F I;go_enter func134,ntmps134;go_wp2;go_ret;exact⟨rfl,rfl⟩
 ·refine G (w.setCell ⟨b,4,none⟩ (.int .i64 (V.left - 1))) ?_ (by unfold zc;rw[if_neg I,if_neg (by omega)];exact h.setLeft _) ((zJ.refl _ _ _).setB _ _);have F:yh V=true:=by unfold yh;rw[decide_eq_false I];rfl
  rw[F];have a2:IntKind.i64.wrap (V.left - 1)=V.left - 1:=by rw[IntKind.wrap_i64];omega
  clear G h g F;generalize V.left=x at *;clear K gr;go_enter func134,ntmps134;go_wp2;go_ret;exact⟨rfl,rfl⟩
theorem zbo (h:zU w b c a V v0 v1 vt) (g:V.Good):Calls prog 46 #[.pointer (some ⟨b,0,none⟩)] w fun e w'=>e=.returned (.int .i64 V.n)/\w=w':=by
 obtain⟨_,_,_,h3,_,_,_⟩:=h.cells;have G:=z0 (Yj h g);have I:=z0 (jJ h);clear h g;go_enter func46,ntmps46;go_wp2_with fail;refine I.o.mono ?_;rintro e F ⟨rfl,rfl⟩;go_wp2_with fail;refine G.o.mono ?_;rintro e F ⟨rfl,rfl⟩;go_wp2;go_ret;exact⟨rfl,rfl⟩
theorem z8s (h:zU w b c a V v0 v1 vt):Calls prog 45 #[.pointer (some ⟨b,0,none⟩)] w fun e w'=>e=.returned (.bool V.dead)/\w=w':=by
 obtain⟨_,_,_,_,_,I,_⟩:=h.cells;have F:=z0 (jJ h);clear h;go_enter func45,ntmps45;go_wp2_with fail;refine F.o.mono ?_;rintro e G ⟨rfl,rfl⟩;go_wp2;go_ret;exact⟨rfl,rfl⟩
theorem z9X (h:zU w b c a V v0 v1 vt) (n:Int):Calls prog 42 #[.pointer (some ⟨b,0,none⟩),.int .i64 n] w fun e w'=>e=.returned (.tuple #[])/\zU w' b c a (z89 V n) v0 v1 vt/\zJ b a w w':=by
 obtain⟨_,_,_,_,J,_,_⟩:=h.cells;have K:=h.free 4;have G:=z0 (jJ h)
 have F:Hd (∀x,(if n<0 then -1 else n)=x->zU (w.setCell ⟨b,4,none⟩ (.int .i64 x)) b c a (z89 V n) v0 v1 vt/\zJ b a w (w.setCell ⟨b,4,none⟩ (.int .i64 x))):=z0 (fun x e=>by
  refine⟨?_,(zJ.refl _ _ _).setB _ _⟩;unfold z89;rw[e]
  exact h.setLeft x)
 clear h;generalize V.left=left at *;rcases Int.lt_trichotomy n (-1) with hn|rfl|hn
 ·go_enter func42,ntmps42;go_wp2_with fail;refine G.o.mono ?_;rintro e I ⟨rfl,rfl⟩;go_wp2_with fail;go_end0;exact⟨rfl,F.o _ (by rw[if_pos (by omega)])⟩
 ·go_enter func42,ntmps42;go_wp2_with fail;refine G.o.mono ?_;rintro e I ⟨rfl,rfl⟩;go_wp2_with fail;go_end0;exact⟨rfl,F.o _ (by decide)⟩
 ·go_enter func42,ntmps42;go_wp2_with fail;refine G.o.mono ?_;rintro e I ⟨rfl,rfl⟩;go_wp2_with fail;go_end0;exact⟨rfl,F.o _ (by rw[if_neg (by omega)])⟩
end
theorem z4z (i n:Int) (w:World) (h:zS i=true) (h0:0<=n) (h1:n<=1099511627776):Calls prog 7 #[.int .i64 i,.int .i64 n] w fun e w'=>∃b c a,e=.returned (.tuple #[.pointer (some ⟨b,0,none⟩),.int .i64 0])/\jL w' b c a (YG i n)/\w.heap.size<=b/\w.heap.size<=a/\Below w.heap.size w w':=by
 have G:=z0 (jr i w);rw[h]at G;have O:=z0 (zaP n w h0 h1);clear h h0 h1;go_enter func7,ntmps7;go_wp2_with fail;refine G.o.mono ?_;rintro e F ⟨rfl,rfl⟩;go_wp2_with fail;refine O.o.mono ?_;rintro e F ⟨rfl,K,J,M⟩
 have I:=z0 (show jL (F.alloc (.cells (vac i (.slice none 0 0) (.slice none 0 0) (w.heap.size+1) (-1) false (.slice none 0 0)) 89)) F.heap.size (w.heap.size+1) w.heap.size (YG i n) from by
  refine⟨_,_,_,Xh _ _,K.below ((Below.refl F.heap.size F).alloc (Nat.le_refl _) _) (by omega) (by omega),qW.nil _,qW.nil _,qW.nil _,fun _=>rfl⟩)
 have N:=z0 (J.alloc (by omega) (.cells (vac i (.slice none 0 0) (.slice none 0 0) (w.heap.size+1) (-1) false (.slice none 0 0)) 89));rw[M]at I;clear K J;go_wp2;go_ret2;exact⟨w.heap.size+2,w.heap.size+1,w.heap.size,rfl,I.o,by omega,Nat.le_refl _,N.o⟩
end
section
theorem z2b (v:Value) (l:List UInt8) (w:World) (F:zP w v l) (M:l.length<=1000000):Calls prog 86 #[v] w fun e w'=>∃x,e=.returned x/\ql w.heap.size w' x l/\Below w.heap.size w w':=by
 obtain⟨A,c,rfl⟩:=F.shape;obtain⟨_,h1,h2,h3⟩:=F.at_;rcases A with _|a2
 ·have hl:l=[]:=by
   rcases l with _|⟨x,l⟩
   ·rfl
   ·obtain⟨_,_,e,_⟩:=h3 (by simp);cases e
  subst hl;clear h1 h2 h3 F M;have a1:=ZZ;go_enter func86,ntmps86;go_wp2;go_ret;exact⟨_,rfl,ql.nil _ _,Below.refl _ _⟩
 ·have J:=z0 (F.alloc (.cells #[] 5));have a0:([]:List UInt8).length+l.length<=140737488355328:=by simp only[List.length_nil];omega
  obtain⟨L,I⟩:=nm (l.length:Nat);rw[I.o]at J⊢;clear h1 h2 h3 F M I;have a1:=ZZ;go_enter func86,ntmps86;go_wp2_with (at_builtin;refine z9 rfl (.tmp 5) (.tmp 6) rfl rfl rfl (qQ w) J.o a0 (yL w _) ?_;intro v1 a3 K G N;simp only[List.nil_append]at K;have O:=qy G;clear G N);go_ret;exact⟨_,rfl,K,O⟩
section
variable {w:World}{b c a:Nat}{V:yV}{v0 v1 vt:Value}
theorem z8t (h:zU w b c a V v0 v1 vt) (k:Int) (G:¬(0<=k/\k<2)):Calls prog 48 #[.pointer (some ⟨b,0,none⟩),.int .i64 k] w fun e w'=>e=.returned (.slice none 0 0)/\w=w':=by
 have J:=z0 (jJ h);have F:=z0 (kN k w);have e:(decide (0<=k) && decide (k<2))=false:=by simpa [Bool.and_eq_false_iff] using fun h0=>by omega
 rw[e]at F;clear h G e;go_enter func48,ntmps48;go_wp2_with fail;refine J.o.mono ?_;rintro e I ⟨rfl,rfl⟩;go_wp2_with fail;refine F.o.mono ?_;rintro e I ⟨rfl,rfl⟩;go_wp2;go_ret;exact⟨rfl,rfl⟩
theorem z67 (h:zU w b c a V v0 v1 vt) (g:V.Good):Calls prog 48 #[.pointer (some ⟨b,0,none⟩),.int .i64 0] w fun e w'=>∃x,e=.returned x/\zP w' x V.s0/\Below w.heap.size w w':=by
 obtain⟨_,h1,h2,_,_,_,_⟩:=h.cells;have a2:=z0 (jJ h);have I:=z0 (kN 0 w);rw[show(decide ((0:Int)<=0) && decide ((0:Int)<2))=true from by decide]at I;have F:=z0 h.y0.byt;have a0:([]:List UInt8).length+V.s0.length<=140737488355328:=by have:=g.l0;simp only[List.length_nil];omega
 clear h2 h g;generalize V.s0=l at *;obtain⟨A,c1,e⟩:=F.o.shape;subst e;obtain⟨L,J⟩:=nm (l.length:Nat);rw[J.o]at F h1;clear J;go_enter func48,ntmps48;go_wp2_with fail;refine a2.o.mono ?_;rintro e M ⟨rfl,rfl⟩;go_wp2_with fail;refine I.o.mono ?_;rintro e M ⟨rfl,rfl⟩;go_wp2_with (at_builtin;refine z9 rfl (.const (.slice none 0 0)) (.tmp 18) rfl rfl rfl (ql.nil w.heap.size w) F.o a0 (Nat.le_refl _) ?_;intro v1 M K G N;simp only[List.nil_append]at K;have O:=(Below.refl w.heap.size w).grown G (Nat.le_refl _) (fun k a1=>by cases a1);clear G N);go_ret;exact⟨_,rfl,K.byt,O⟩
theorem z8u (h:zU w b c a V v0 v1 vt) (g:V.Good):Calls prog 48 #[.pointer (some ⟨b,0,none⟩),.int .i64 1] w fun e w'=>∃x,e=.returned x/\zP w' x V.s1/\Below w.heap.size w w':=by
 obtain⟨_,h1,h2,_,_,_,_⟩:=h.cells;have a2:=z0 (jJ h);have I:=z0 (kN 1 w);rw[show(decide ((0:Int)<=1) && decide ((1:Int)<2))=true from by decide]at I;have F:=z0 h.y1.byt;have a0:([]:List UInt8).length+V.s1.length<=140737488355328:=by have:=g.l1;simp only[List.length_nil];omega
 clear h1 h g;generalize V.s1=l at *;obtain⟨A,c1,e⟩:=F.o.shape;subst e;obtain⟨L,J⟩:=nm (l.length:Nat);rw[J.o]at F h2;clear J;go_enter func48,ntmps48;go_wp2_with fail;refine a2.o.mono ?_;rintro e M ⟨rfl,rfl⟩;go_wp2_with fail;refine I.o.mono ?_;rintro e M ⟨rfl,rfl⟩;go_wp2_with (at_builtin;refine z9 rfl (.const (.slice none 0 0)) (.tmp 18) rfl rfl rfl (ql.nil w.heap.size w) F.o a0 (Nat.le_refl _) ?_;intro v1 M K G N;simp only[List.nil_append]at K;have O:=(Below.refl w.heap.size w).grown G (Nat.le_refl _) (fun k a1=>by cases a1);clear G N);go_ret;exact⟨_,rfl,K.byt,O⟩
theorem z8v (h:jL w b c a V) (g:V.Good) (k:Int):Calls prog 48 #[.pointer (some ⟨b,0,none⟩),.int .i64 k] w fun e w'=>∃x,e=.returned x/\zP w' x (kY V k)/\Below w.heap.size w w':=by
 obtain⟨v0,v1,vt,h⟩:=h;by_cases F:0<=k/\k<2
 ·obtain rfl|rfl:k=0\/k=1:=by omega
  ·exact z67 h g
  ·exact z8u h g
 ·refine(z8t h k F).mono ?_;rintro e G ⟨rfl,rfl⟩;refine⟨_,rfl,?_,Below.refl _ _⟩;unfold kY;rw[if_neg (by omega),if_neg (by omega)];exact zP.nil _
theorem z8w (h:zU w b c a V v0 v1 vt) (k:Int) {A:Option Addr}{n d:Nat} (I:k<0\/1<k\/1000<n):Calls prog 41 #[.pointer (some ⟨b,0,none⟩),.int .i64 k,.slice A n d] w fun e w'=>e=.returned (.int .i64 1)/\w=w':=by
 have J:=z0 (jJ h);have F:=z0 (kN k w);clear h;by_cases h0:0<=k/\k<2
 ·rw[decide_eq_true h0.1,decide_eq_true h0.2]at F;have hn:(1000:Int)<(n:Int):=by omega
  clear I h0;go_enter func41,ntmps41;go_wp2_with fail;refine J.o.mono ?_;rintro e G ⟨rfl,rfl⟩;go_wp2_with fail;refine F.o.mono ?_;rintro e G ⟨rfl,rfl⟩;go_wp2;go_ret;exact⟨rfl,rfl⟩
 ·have e:(decide (0<=k) && decide (k<2))=false:=by simpa [Bool.and_eq_false_iff] using fun h0=>by omega
  rw[e]at F;clear I h0 e;go_enter func41,ntmps41;go_wp2_with fail;refine J.o.mono ?_;rintro e G ⟨rfl,rfl⟩;go_wp2_with fail;refine F.o.mono ?_;rintro e G ⟨rfl,rfl⟩;go_wp2;go_ret;exact⟨rfl,rfl⟩
theorem z68 (h:zU w b c a V v0 v1 vt) {x:Value}{l:List UInt8} (hx:zP w x l) (hl:l.length<=1000):Calls prog 41 #[.pointer (some ⟨b,0,none⟩),.int .i64 0,x] w fun e w'=>e=.returned (.int .i64 0)/\jL w' b c a (zu V 0 l)/\zJ b a w w':=by
 have a6:=z0 (jJ h);have N:=z0 (kN 0 w);rw[show(decide ((0:Int)<=0) && decide ((0:Int)<2))=true from by decide]at N;have a0:=z0 (z2b x l w.drew (hx.drewN 1) (by omega))
 have a5:Hd (∀W u,Below w.drew.heap.size w.drew W->qW W u l->jL (W.setCell ⟨b,1,none⟩ u) b c a (zu V 0 l)/\zJ b a w (W.setCell ⟨b,1,none⟩ u)):=z0 (fun W u J a7=>by
  have F:Below w.heap.size w W:=((Below.refl _ _).drew).trans J;refine⟨?_,(zJ.of F).setB _ _⟩;have:=(h.below F).setSlot (k:=0) (.inl rfl) a7
  exact this)
 have a4:Hd (∀W,Below w.drew.heap.size w.drew W->W.cell? ⟨b,1,none⟩=some v0/\W.frozen? ⟨b,1,none⟩=false):=z0 (fun W J=>by
  have F:Below w.heap.size w W:=((Below.refl _ _).drew).trans J
  exact⟨(h.below F).cells.2.1,(h.below F).free _⟩)
 obtain⟨A0,c0,r0⟩:=h.y0.shape;obtain⟨A,d,rfl⟩:=hx.shape;have hn:¬(1000:Int)<(l.length:Int):=by omega
 obtain⟨L,O⟩:=nm (l.length:Nat);rw[O.o]at a0 hn⊢;subst r0;generalize V.s0.length=ad at *;clear hx hl h O;go_enter func41,ntmps41;go_wp2_with fail;refine a6.o.mono ?_;rintro e a8 ⟨rfl,rfl⟩;go_wp2_with fail;refine N.o.mono ?_;rintro e a8 ⟨rfl,rfl⟩;go_upto_region 5 with(fail)
 clear hn;refine Rh (S:=fun _=>True) (by kernel_rfl) True.intro (fun K=>?_);refine' z5 0 (h:=z5 1 (h:=z5 2 (h:=z5 4 (h:=z5 5 (h:=?_)))));refine qc 3 (h:=fun I G=>?_);go_simp;refine a0.o.mono ?_;rintro e a2 ⟨x2,rfl,a3,a1⟩;have M:=a3.bys;obtain⟨ae,a9,r2⟩:=M.shape;subst r2;refine G.out _ _ (True.intro) (fun K=>?_);clear G I;try simp only[zx]
 refine' z5 6 (h:=?_);obtain⟨ab,aa⟩:=a4.o a2 a1;refine qc 7 (h:=fun I G=>?_);go_simp;refine G.out _ _ (True.intro) (fun K=>?_);clear G I;try simp only[zx]
 refine wpAnyH_done (by kernel_rfl) ?_ _;go_wp2;go_ret;exact⟨rfl,a5.o _ _ a1 M⟩
theorem z8x (h:zU w b c a V v0 v1 vt) {x:Value}{l:List UInt8} (hx:zP w x l) (hl:l.length<=1000):Calls prog 41 #[.pointer (some ⟨b,0,none⟩),.int .i64 1,x] w fun e w'=>e=.returned (.int .i64 0)/\jL w' b c a (zu V 1 l)/\zJ b a w w':=by
 have a6:=z0 (jJ h);have N:=z0 (kN 1 w);rw[show(decide ((0:Int)<=1) && decide ((1:Int)<2))=true from by decide]at N;have a0:=z0 (z2b x l w.drew (hx.drewN 1) (by omega))
 have a5:Hd (∀W u,Below w.drew.heap.size w.drew W->qW W u l->jL (W.setCell ⟨b,2,none⟩ u) b c a (zu V 1 l)/\zJ b a w (W.setCell ⟨b,2,none⟩ u)):=z0 (fun W u J a7=>by
  have F:Below w.heap.size w W:=((Below.refl _ _).drew).trans J;refine⟨?_,(zJ.of F).setB _ _⟩;have:=(h.below F).setSlot (k:=1) (.inr rfl) a7
  exact this)
 have a4:Hd (∀W,Below w.drew.heap.size w.drew W->W.cell? ⟨b,2,none⟩=some v1/\W.frozen? ⟨b,2,none⟩=false):=z0 (fun W J=>by
  have F:Below w.heap.size w W:=((Below.refl _ _).drew).trans J
  exact⟨(h.below F).cells.2.2.1,(h.below F).free _⟩)
 obtain⟨A0,c0,r0⟩:=h.y1.shape;obtain⟨A,d,rfl⟩:=hx.shape;have hn:¬(1000:Int)<(l.length:Int):=by omega
 obtain⟨L,O⟩:=nm (l.length:Nat);rw[O.o]at a0 hn⊢;subst r0;generalize V.s1.length=ad at *;clear hx hl h O;go_enter func41,ntmps41;go_wp2_with fail;refine a6.o.mono ?_;rintro e a8 ⟨rfl,rfl⟩;go_wp2_with fail;refine N.o.mono ?_;rintro e a8 ⟨rfl,rfl⟩;go_upto_region 5 with(fail)
 clear hn;refine Rh (S:=fun _=>True) (by kernel_rfl) True.intro (fun K=>?_);refine' z5 0 (h:=z5 1 (h:=z5 2 (h:=z5 4 (h:=z5 5 (h:=?_)))));refine qc 3 (h:=fun I G=>?_);go_simp;refine a0.o.mono ?_;rintro e a2 ⟨x2,rfl,a3,a1⟩;have M:=a3.bys;obtain⟨ae,a9,r2⟩:=M.shape;subst r2;refine G.out _ _ (True.intro) (fun K=>?_);clear G I;try simp only[zx]
 refine' z5 6 (h:=?_);obtain⟨ab,aa⟩:=a4.o a2 a1;refine qc 7 (h:=fun I G=>?_);go_simp;refine G.out _ _ (True.intro) (fun K=>?_);clear G I;try simp only[zx]
 refine wpAnyH_done (by kernel_rfl) ?_ _;go_wp2;go_ret;exact⟨rfl,a5.o _ _ a1 M⟩
theorem Jt (h:jL w b c a V) (k:Int) {x:Value}{l:List UInt8} (hx:zP w x l):Calls prog 41 #[.pointer (some ⟨b,0,none⟩),.int .i64 k,x] w fun e w'=>e=.returned (.int .i64 (jN k l))/\jL w' b c a (jB V k l)/\zJ b a w w':=by
 obtain⟨v0,v1,vt,h⟩:=h;unfold jN jB;by_cases F:k<0\/1<k\/1000<l.length
 ·rw[if_pos F,if_pos F];obtain⟨A,d,rfl⟩:=hx.shape;refine(z8w h k F).mono ?_;rintro e G ⟨rfl,rfl⟩;exact⟨rfl,⟨v0,v1,vt,h⟩,zJ.refl _ _ _⟩
 ·rw[if_neg F,if_neg F];obtain rfl|rfl:k=0\/k=1:=by omega
  ·exact z68 h hx (by omega)
  ·exact z8x h hx (by omega)
end
end
section
def yK (V:yV) (v0 v1 vh:Value) (wh:Int):Array Value:=#[.int .i64 V.i,v0,v1,.int .i64 V.n,.int .i64 V.left,.bool V.dead,vh,.int .i64 wh]
def vd (w:World) (C:Array Value) (V:yV):Prop:=∃v0 v1 vh wh,C=yK V v0 v1 vh wh/\qW w v0 V.s0/\qW w v1 V.s1/\qW w vh V.torn/\(V.torn≠[]->wh=qr V)
theorem VV (V:yV) (A0 A1 I:Option Addr) (n0 n1 n2 c0 c1 G:Nat) (wh:Int):(yK V (.slice A0 n0 c0) (.slice A1 n1 c1) (.slice I n2 G) wh).all (·.oneCell')=true:=by
 unfold yK;refine all_oneCell_toArray (cs:=[_,_,_,_,_,_,_,_]) (fun u F=>?_);simp only[List.mem_cons,List.not_mem_nil,or_false]at F;rcases F with rfl|rfl|rfl|rfl|rfl|rfl|rfl|rfl <;> rfl
theorem vd.size {w:World}{C:Array Value}{V:yV} (h:vd w C V):C.size=8:=by
 obtain⟨_,_,_,_,rfl,_⟩:=h;rfl
theorem vd.one {w:World}{C:Array Value}{V:yV} (h:vd w C V):C.all (·.oneCell')=true:=by
 obtain⟨v0,v1,vh,wh,rfl,h0,h1,h2,_⟩:=h;obtain⟨A0,c0,r0⟩:=h0.shape;obtain⟨A1,c1,r1⟩:=h1.shape;obtain⟨G,F,r2⟩:=h2.shape;subst r0 r1 r2;exact VV ..
theorem vd.away {w w':World}{C:Array Value}{V:yV} (h:vd w C V) (G:w.heap.size<=w'.heap.size) (F:∀(k:Nat) (C:Array Value),w.heap[k]?=some (Obj.cells C 5 (0,0))->w'.heap[k]?=w.heap[k]?):vd w' C V:=by
 obtain⟨v0,v1,vh,wh,rfl,h0,h1,h2,h3⟩:=h;exact⟨v0,v1,vh,wh,rfl,h0.away G F,h1.away G F,h2.away G F,h3⟩
theorem vd.below {w w':World}{C:Array Value}{V:yV} (h:vd w C V) (F:Below w.heap.size w w'):vd w' C V:=h.away F.size (fun k _ G=>F.block k (Lb G))
theorem jL.turnedR {w w':World}{b c a:Nat}{V V':yV}{C:Array Value} (h:jL w b c a V) (I:vd w C V') (G:zJ b a w w'):vd w' C V':=by
 obtain⟨v0,v1,vt,h⟩:=h;exact I.away G.size (fun k _ F=>G.block k (Lb F) (q9 F h.p (by decide)) (q9 F h.k.q (by decide)))
theorem VW:prog.underlying 36=some (.struct (prog.fieldsOf 36)):=by kernel_rfl
theorem Ju:(prog.info? 36).map (·.size)=some 8:=by kernel_rfl
noncomputable def xR (v : Value) (w : World) : Result Next := Sem.run prog (execOp (fun _ => v) { dst := none, op := .load 36 (.tmp 0), type := 0, pos := "", after := #[], guard := none }) w
theorem qL (r:Operand->Value) (x:Operand) (dst:Option Tmp) (ty:TypeId) (pos:String) (after:Array Edge) (guard:Option (Nat×Bool)) (w:World):
  Sem.run prog (execOp r { dst:=dst,op:=.load 36 x,type:=ty,pos:=pos,after:=after,guard:=guard }) w=xR (r x) w:=rfl
theorem j3 {w:World}{g:Nat}{C:Array Value}{T:TypeId} (h:w.heap[g]?=some (.cells C T (0,0))) (G:C.size=8):xR (.pointer (some ⟨g,0,none⟩)) w=.ok (.value (.agg C)) w:=by
 have:=run_loadAt_mid (P:=prog) w g 0 36 C.toList _ (fun j v F=>by rw[Nat.zero_add,z7 h j];simpa using F) VW rfl (by rw[Ju];simp[G]);simp only[Array.toArray_toList]at this;unfold xR execOp;simp only[Sem.run_bind,this,Result.andThen_ok,Sem.run_pure]
def xq:Array Value:=yK ⟨0,[],[],0,0,false,[]⟩ (.slice none 0 0) (.slice none 0 0) (.slice none 0 0) 0
theorem zbp:(prog.info? 36).bind (·.zero)=some (.agg xq):=by kernel_rfl
theorem z4A (w:World):(zeroValue 36).run prog w=.ok (.agg xq) w:=by
 have h:=zbp;cases hq:prog.info? 36 with
 |none=>rw[hq]at h;cases h
 |some i=>
  rw[hq]at h;have F:i.zero=some (.agg xq):=h;simp[zeroValue,typeInfo,hq,F]
noncomputable def z3e (w : World) : Result Next := Sem.run prog (execOp (fun _ => undef) { dst := none, op := .alloc 36, type := 0, pos := "", after := #[], guard := none }) w
theorem qv (r:Operand->Value) (dst:Option Tmp) (ty:TypeId) (pos:String) (after:Array Edge) (guard:Option (Nat×Bool)) (w:World):
  Sem.run prog (execOp r { dst:=dst,op:=.alloc 36,type:=ty,pos:=pos,after:=after,guard:=guard }) w=z3e w:=rfl
theorem yo (w:World):z3e w=.ok (.value (.pointer (some ⟨w.heap.size,0,none⟩))) (w.alloc (.cells xq 36)):=by
 unfold z3e execOp;simp only[Sem.run_bind,Instr.alloc,z4A,newVar,newRow,run_newObj_alloc,Sem.run_pure,Result.andThen_ok,Value.cells]
noncomputable def xr (p v:Value) (w:World):Result Next:=Sem.run prog (execOp (fun x=>match x with
 | .tmp 0=>p
 | _ => v) { dst := none, op := .store 36 (.tmp 0) (.tmp 1), type := 0, pos := "", after := #[], guard := none }) w
theorem qw (r:Operand->Value) (x y:Operand) (dst:Option Tmp) (ty:TypeId) (pos:String) (after:Array Edge) (guard:Option (Nat×Bool)) (w:World):
  Sem.run prog (execOp r { dst:=dst,op:=.store 36 x y,type:=ty,pos:=pos,after:=after,guard:=guard }) w=xr (r x) (r y) w:=rfl
theorem Yk {w:World}{g:Nat}{t:TypeId}{C0 C:Array Value} (hg:w.heap[g]?=some (.cells C0 t (0,0))) (h0:C0.size=8) (F:C.size=8) (h1:C.all (·.oneCell')=true):
  xr (.pointer (some ⟨g,0,none⟩)) (.agg C) w=.ok .skip (setSe w g C):=by
 have:=run_storeVar_row (P:=prog) w g t 36 C0 C hg (by rw[Ju,F]) (by rw[h0,F]) h1;unfold xr execOp;simp only[Instr.storeAt,Instr.sureAddr,Sem.run_bind,Sem.run_pure,Result.andThen_ok,this];rfl
theorem Va (w:World) {Z S:Array Value} (F:Z.size=8) (G:S.size=8) (h1:S.all (·.oneCell')=true):
  xr (.pointer (some ⟨w.heap.size,0,none⟩)) (.agg S) (w.alloc (.cells Z 36))=.ok .skip (w.alloc (.cells S 36)):=by
 rw[Yk (Xh w _) F G h1,Qm]
theorem kO {I:Func}{q:Tmp} (h:I.results=#[.cell q 36]) (tmps:Array Value) (w:World) (F:Nat) (J:TypeId) (G:Array Value)
  (hq:tmps.getD q undef=.pointer (some ⟨F,0,none⟩)) (h2:w.heap[F]?=some (.cells G J (0,0))) (M:G.size=8):
  (results I tmps).run prog w=.ok (.agg G) w:=by
 have K:tmps[q]?.getD undef=.pointer (some ⟨F,0,none⟩):=by simpa using hq
 have r2:=run_loadVar_row (P:=prog) w F J 36 G (0,0) _ h2 VW rfl (by rw[Ju,M]);simp[results,h,K,asAddr,r2]
theorem zv {I:Func}{q s:Tmp} (h:I.results=#[.cell q 36,.tmp s]) (tmps:Array Value) (w:World) (F:Nat) (J:TypeId) (G:Array Value) (v:Value)
  (hq:tmps.getD q undef=.pointer (some ⟨F,0,none⟩)) (K:tmps.getD s undef=v) (h2:w.heap[F]?=some (.cells G J (0,0))) (O:G.size=8):
  (results I tmps).run prog w=.ok (.tuple #[.agg G,v]) w:=by
 have N:tmps[q]?.getD undef=.pointer (some ⟨F,0,none⟩):=by simpa using hq
 have M:tmps[s]?.getD undef=v:=by simpa using K
 have r2:=run_loadVar_row (P:=prog) w F J 36 G (0,0) _ h2 VW rfl (by rw[Ju,O]);simp[results,h,N,M,asAddr,r2]
theorem js {w:World}{g:Nat}{V:yV}{v0 v1 vh:Value}{wh:Int}{T:TypeId} (h:w.heap[g]?=some (.cells (yK V v0 v1 vh wh) T (0,0))):
  w.cell? ⟨g,0,none⟩=some (.int .i64 V.i)/\w.cell? ⟨g,1,none⟩=some v0/\w.cell? ⟨g,2,none⟩=some v1/\w.cell? ⟨g,3,none⟩=some (.int .i64 V.n)/\w.cell? ⟨g,4,none⟩=some (.int .i64 V.left)/\w.cell? ⟨g,5,none⟩=some (.bool V.dead)/\w.cell? ⟨g,6,none⟩=some vh/\w.cell? ⟨g,7,none⟩=some (.int .i64 wh):=by
 simp only[kB h];exact⟨rfl,rfl,rfl,rfl,rfl,rfl,rfl,rfl⟩
def j9 (w:World) (g:Nat) (V:yV) (v0 v1 vh:Value) (wh:Int):Prop:=w.heap[g]?=some (.cells (yK V v0 v1 vh wh) 36 (0,0))
section
variable {w:World}{g:Nat}{V:yV}{v0 v1 vh:Value}{wh:Int}
theorem j9.set (h:j9 w g V v0 v1 vh wh) {i:Nat}{u:Value}{V':yV}{u0 u1 uh:Value}{k:Int} (F:(yK V v0 v1 vh wh).setIfInBounds i u=yK V' u0 u1 uh k):j9 (w.setCell ⟨g,i,none⟩ u) g V' u0 u1 uh k:=by
 unfold j9;rw[z1L w h,F]
theorem j9.cells (h:j9 w g V v0 v1 vh wh):w.cell? ⟨g,0,none⟩=some (.int .i64 V.i)/\w.cell? ⟨g,1,none⟩=some v0/\w.cell? ⟨g,2,none⟩=some v1/\w.cell? ⟨g,3,none⟩=some (.int .i64 V.n)/\w.cell? ⟨g,4,none⟩=some (.int .i64 V.left)/\w.cell? ⟨g,5,none⟩=some (.bool V.dead)/\w.cell? ⟨g,6,none⟩=some vh/\w.cell? ⟨g,7,none⟩=some (.int .i64 wh):=js h
theorem j9.free (h:j9 w g V v0 v1 vh wh) (i:Nat):w.frozen? ⟨g,i,none⟩=false:=jh h i
theorem j9.ld (h:j9 w g V v0 v1 vh wh):xR (.pointer (some ⟨g,0,none⟩)) w=.ok (.value (.agg (yK V v0 v1 vh wh))) w:=j3 h rfl
theorem j9.below {w':World} (h:j9 w g V v0 v1 vh wh) (F:Below w.heap.size w w'):j9 w' g V v0 v1 vh wh:=(F.block g (Lb h)).trans h
end
theorem Yl {w0 w:World}{B g:Nat}{C0 C:Array Value}{T:TypeId} (G:Below B w0 w) (hg:w.heap[g]?=some (.cells C0 T (0,0))) (F:B<=g) (h0:C0.size=8) (I:C.size=8) (h1:C.all (·.oneCell')=true):
  xr (.pointer (some ⟨g,0,none⟩)) (.agg C) w=.ok .skip (setSe w g C)/\(setSe w g C).heap[g]?=some (.cells C T (0,0))/\Below B w0 (setSe w g C):=⟨Yk hg h0 I h1,qG hg,zR G F⟩
end
section
attribute [local go_sem ↓] qL qv qw
theorem z3f (i n:Int) (w:World):Calls prog 10 #[.int .i64 i,.int .i64 n] w fun e w'=>e=.returned (.agg (yK (YG i n) (.slice none 0 0) (.slice none 0 0) (.slice none 0 0) 0))/\Below w.heap.size w w':=by
 have J:=yo w;have F:=Va w (Z:=xq) (S:=yK (YG i n) (.slice none 0 0) (.slice none 0 0) (.slice none 0 0) 0) rfl rfl (VV ..);have I:=z0 (Xh w (.cells (yK (YG i n) (.slice none 0 0) (.slice none 0 0) (.slice none 0 0) 0) 36));have G:=z0 ((Below.refl w.heap.size w).alloc (Nat.le_refl _) (.cells (yK (YG i n) (.slice none 0 0) (.slice none 0 0) (.slice none 0 0) 0) 36));unfold yK YG at F;simp only at F;go_enter func10,ntmps10;go_wp2;try simp only[Exit.inBlock,Exit.then]
 refine Bp (kO rfl _ _ _ _ _ rfl I.o rfl) rfl ⟨rfl,G.o⟩
theorem Qy (V:yV) (v0 v1 vh:Value) (wh:Int) (w:World) (hl:-1<=V.left) (ab:V.left<=9223372036854775807) (ho:∀V',(yK V' v0 v1 vh wh).all (·.oneCell')=true):
  Calls prog 64 #[.agg (yK V v0 v1 vh wh)] w fun e w'=>e=.returned (.tuple #[.agg (yK (zc V) v0 v1 vh wh),.bool (yh V)])/\Below w.heap.size w w':=by
 have a6:j9 (w.alloc (.cells (yK V v0 v1 vh wh) 36)) w.heap.size V v0 v1 vh wh:=Xh w _;have a3:Below w.heap.size w (w.alloc (.cells (yK V v0 v1 vh wh) 36)):=Ba;obtain⟨D,a0⟩:=nm (yK V v0 v1 vh wh);obtain⟨a7,a2⟩:=nm (yK (zc V) v0 v1 vh wh);have af:=yo (w.alloc (.cells D 36));rw[a0.o]at a6 a3⊢;rw[a2.o];have ae:Below w.heap.size w ((w.alloc (.cells D 36)).alloc (.cells xq 36)):=a3.alloc a3.size _;have K:=z0 (a6.below ((Below.refl _ _).alloc (Nat.le_refl _) (.cells xq 36)));have a1:=z0 (Xh (w.alloc (.cells D 36)) (.cells xq 36));have a5:=z0 ae;have ad:(w.alloc (.cells D 36)).heap.size=w.heap.size+1:=by simp
 rw[ad]at a1 af;have a4:Hd (zc V=if V.left=0 then { V with dead:=true } else if V.left<0 then V else { V with left:=V.left - 1 }):=z0 rfl;have a9:Hd (yh V=!decide (V.left=0)):=z0 rfl;obtain⟨sb,ah⟩:=nm (yh V);rw[ah.o]at a9⊢;clear a6 a3 ae ad;go_enter func64,ntmps64;go_upto_region 1 with(fail)
 clear af;generalize ((w.alloc (.cells D 36)).alloc (.cells xq 36))=ao at *;have ak:=z0 (K.o.free 5);have ai:=z0 (K.o.free 4);obtain⟨_,_,_,_,ag,al,_,_⟩:=K.o.cells;by_cases J:V.left=0
 ·obtain rfl:sb=false:=by rw[a9.o,decide_eq_true J];rfl
  have a8:=z0 (K.o.set (i:=5) (u:=.bool true) (V':={ V with dead:=true }) (u0:=v0) (u1:=v1) (uh:=vh) (k:=wh) rfl);have M:=a8.o.ld;obtain⟨h1,h2,h3⟩:=Yl (C:=yK { V with dead:=true } v0 v1 vh wh) (a5.o.setCell (p:=⟨w.heap.size,5,none⟩) (Nat.le_refl _) (.bool true)) ((Hs _ ⟨w.heap.size,5,none⟩ _ (w.heap.size+1) (by show w.heap.size+1≠w.heap.size;omega)).trans a1.o) (Nat.le_succ _) rfl rfl (ho _);have G:=z0 h2;have F:=z0 h3;have an:=ak.o;clear h2 h3;obtain⟨O,I⟩:=nm (yK { V with dead:=true } v0 v1 vh wh);have N:Hd (O.size=8):=z0 (by rw[<-I.o];rfl);obtain rfl:a7=O:=by rw[<-a2.o,<-I.o,a4.o,if_pos J]
  rw[I.o]at M h1 G F;rw[J]at ag;clear J;go_wp2;try simp only[Exit.inBlock,Exit.then]
  refine Bp (zv rfl _ _ _ _ _ _ rfl rfl G.o N.o) rfl ⟨rfl,F.o⟩
 ·obtain rfl:sb=true:=by rw[a9.o,decide_eq_false J];rfl
  by_cases aa:V.left<0
  ·have M:=K.o.ld;obtain rfl:D=a7:=by rw[<-a2.o,<-a0.o,a4.o,if_neg J,if_pos aa]
   obtain⟨h1,h2,h3⟩:=Yl (C:=yK V v0 v1 vh wh) a5.o a1.o (Nat.le_succ _) rfl rfl (ho _);have G:=z0 h2;have F:=z0 h3;clear h2 h3;rw[a0.o]at M h1 G F;have N:Hd (D.size=8):=z0 (by rw[<-a0.o];rfl);have aj:¬(0:Int)<V.left:=by omega
   clear hl ab;go_wp2;try simp only[Exit.inBlock,Exit.then]
   refine Bp (zv rfl _ _ _ _ _ _ rfl rfl G.o N.o) rfl ⟨rfl,F.o⟩
  ·have a8:=z0 (K.o.set (i:=4) (u:=.int .i64 (V.left - 1)) (V':={ V with left:=V.left - 1 }) (u0:=v0) (u1:=v1) (uh:=vh) (k:=wh) rfl);have M:=a8.o.ld;obtain⟨h1,h2,h3⟩:=Yl (C:=yK { V with left:=V.left - 1 } v0 v1 vh wh) (a5.o.setCell (p:=⟨w.heap.size,4,none⟩) (Nat.le_refl _) (.int .i64 (V.left - 1))) ((Hs _ ⟨w.heap.size,4,none⟩ _ (w.heap.size+1) (by show w.heap.size+1≠w.heap.size;omega)).trans a1.o) (Nat.le_succ _) rfl rfl (ho _);have G:=z0 h2;have F:=z0 h3;have am:=ai.o;clear h2 h3;obtain⟨O,I⟩:=nm (yK { V with left:=V.left - 1 } v0 v1 vh wh);have N:Hd (O.size=8):=z0 (by rw[<-I.o];rfl);have ap:IntKind.i64.wrap (V.left - 1)=V.left - 1:=by rw[IntKind.wrap_i64];omega
   obtain rfl:a7=O:=by rw[<-a2.o,<-I.o,a4.o,if_neg J,if_neg aa]
   rw[I.o]at M h1 G F;have aj:(0:Int)<V.left:=by omega
   clear hl ab aa;generalize V.left=left at *;go_wp2;try simp only[Exit.inBlock,Exit.then]
   refine Bp (zv rfl _ _ _ _ _ _ rfl rfl G.o N.o) rfl ⟨rfl,F.o⟩
end
section
attribute [local go_sem ↓] ze
theorem z8y {w:World}{g o n:Nat}{l:List UInt8} (h:w.rangeAt g o (z4 l)) (hg:g<w.heap.size) (hn:l.length=n) (F:n<=maxLen):zP w (.slice (some ⟨g,o,none⟩) n n) l:=by
 subst hn;refine⟨_,_,rfl,Nat.le_refl _,F,fun _=>⟨g,o,rfl,hg,fun j G=>?_⟩⟩;exact h j _ (by simp[z4,G])
end
section
attribute [local go_sem ↓] zm
def z9Y:Prop:=∀(i n:Int) (s:ym) (w:World),(Lit.int .i64 i).wf=true->(Lit.int .i64 n).wf=true->s.Ok->yB 1 w->
 Calls prog 81 #[.int .i64 i,.int .i64 n,.agg (zp s)] w fun e w'=>∃x,e=.returned (.tuple #[x,.int .i64 (if V8 i n s=true then 0 else 1)])/\ql w.heap.size w' x (if V8 i n s=true then vF i n s else [])/\Below w.heap.size w w'
theorem z8z:z9Y:=by
 intro i n s w hi hn ho aE;have ao:Below w.heap.size w (w.alloc (.cells (zp s) 40)):=Ba;have ap:=zN.new w s;obtain⟨C,am⟩:=nm (zp s);obtain⟨m,ad⟩:=nm (qZ s);obtain⟨O,aw⟩:=nm (zS i);obtain⟨M,a5⟩:=nm (jY n);obtain⟨L,a8⟩:=nm (jd n s);obtain⟨T,al⟩:=nm (Kz i n s);obtain⟨a9,a3⟩:=nm ((if V8 i n s=true then (0:Int) else 1):Int);obtain⟨a1,a0⟩:=nm ((if V8 i n s=true then vF i n s else []):List UInt8);have G:Hd (V8 i n s=(O && (M && m))):=z0 (by rw[<-aw.o,<-a5.o,<-ad.o];rfl);have aj:Hd (T.length=32):=z0 (by rw[<-al.o];exact YX i n s)
 have b1:Hd (∀W,Calls prog 80 #[.agg C] W fun e w'=>e=.returned (.int .i64 (if m=true then 0 else 1))/\Below W.heap.size W w'):=z0 (fun W=>by
  have:=xP s W ho;rw[ad.o,am.o]at this
  exact this)
 have aV:Hd (M=true->m=true->L.length<=72):=z0 (fun h1 h2=>by rw[<-a8.o];exact Qj ho (a5.o.trans h1) (ad.o.trans h2))
 have b0:Hd (M=true->m=true->∀W,Calls prog 105 #[.int .i64 n,.agg C] W fun e w'=>∃x,e=.returned x/\ql W.heap.size w' x L/\Below W.heap.size W w'):=z0 (fun h1 h2 W=>by
  have:=VQ n s W ho (a5.o.trans h1) (ad.o.trans h2);rw[a8.o,am.o]at this
  exact this)
 have aH:Hd (∀v a2 c W,Below w.heap.size w W->a2<W.heap.size->W.cell? ⟨a2,0,none⟩=some v->zP W v L->L.length<=1000000->Calls prog 77 #[.int .i64 i,.int .u8 3,.slice (some ⟨a2,0,none⟩) 1 c] W fun e w'=>e=.returned (.agg (z2 T))/\Below W.heap.size W w'):=z0 (fun v a2 c W h h1 h2 h3 aP=>by
  have:=z7a i 3 v L a2 c W h1 h2 h3 aP (aE.below h);rw[<-al.o];unfold Kz;rw[a8.o]
  exact this)
 have aJ:Hd (O=true->M=true->m=true->a1=L ++ T):=z0 (fun h1 h2 h3=>by
  rw[<-a0.o,G.o,h1,h2,h3];show vF i n s=_;unfold vF
  rw[a8.o,al.o])
 have aq:=z0 (fun (W:World) (h:zN W w.heap.size s)=>kL h ho);rw[am.o]at aq ao ap⊢;rw[a3.o,a0.o];clear hi hn aE ho;go_enter func81,ntmps81;go_upto_region 1 with(fail)
 generalize (w.alloc (.cells C 40))=w0 at *;have az:Hd (∀W,Below w0.heap.size w0 W->zW (.pointer (some ⟨w.heap.size,0,none⟩)) W=.ok (.value (.agg C)) W):=z0 (fun W h=>aq.o W (ap.keep h));have F:=z0 ao;have l0:=az.o w0 (Below.refl _ _);clear ap ao aq;go_wp2_with fail;refine(b1.o w0).mono ?_;rintro e ae ⟨rfl,aB⟩;have N:=z0 aB;clear l0 aB;cases m with
 |false=>
  obtain rfl:a9=1:=by rw[<-a3.o,G.o];cases O <;> cases M <;> rfl
  obtain rfl:a1=[]:=by rw[<-a0.o,G.o];cases O <;> cases M <;> rfl
  simp only[Bool.false_eq_true,if_false];go_wp2;go_ret2;exact⟨_,rfl,ql.nil _ _,F.o.trans (N.o.mono F.o.size)⟩
 |true=>
  have aO:=z0 (fun h=>b0.o h rfl);have aU:=z0 (fun h=>aV.o h rfl);have aM:=z0 (fun h1 h2=>aJ.o h1 h2 rfl);simp only[if_true];go_wp2_with fail;refine(jr i ae).mono ?_;rintro e b4 ⟨rfl,rfl⟩;rw[aw.o];cases O with
  |false=>
   obtain rfl:a9=1:=by rw[<-a3.o,G.o];rfl
   obtain rfl:a1=[]:=by rw[<-a0.o,G.o];rfl
   go_wp2;go_ret2;exact⟨_,rfl,ql.nil _ _,F.o.trans (N.o.mono F.o.size)⟩
  |true=>
   have aW:=z0 (fun h2=>aM.o rfl h2);go_wp2_with fail;refine(z0q n ae).mono ?_;rintro e b4 ⟨rfl,rfl⟩;rw[a5.o];cases M with
   |false=>
    obtain rfl:a9=1:=by rw[<-a3.o,G.o];rfl
    obtain rfl:a1=[]:=by rw[<-a0.o,G.o];rfl
    go_wp2;go_ret2;exact⟨_,rfl,ql.nil _ _,F.o.trans (N.o.mono F.o.size)⟩
   |true=>
    obtain rfl:a9=0:=by rw[<-a3.o,G.o];rfl
    obtain rfl:a1=L ++ T:=aW.o rfl;have l1:=az.o ae N.o;have ar:=z0 (aU.o rfl);have aN:=z0 (aO.o rfl);go_wp2_with fail;refine(aN.o ae).mono ?_;rintro e ah ⟨b8,rfl,aA,ay⟩;have af:=N.o.trans (ay.mono N.o.size);have a7:=aA.byt;obtain⟨K,J,rfl⟩:=a7.shape;obtain⟨I,aY⟩:=nm (L.length:Nat);rw[aY.o]at a7⊢;have aa:Below w0.heap.size w0 (ah.alloc (.cells #[.slice K I J] 33)):=af.alloc af.size _;have ai:=a7.alloc (.cells #[.slice K I J] 33);clear l1 aA ay;go_wp2_with fail;refine(aH.o (.slice K I J) ah.heap.size 1 (ah.alloc (.cells #[.slice K I J] 33)) (F.o.trans (aa.mono F.o.size)) (by simp) (J2 _ _ _) ai (by have:=ar.o;omega)).mono ?_;rintro e w5 ⟨rfl,an⟩;have ag:=aa.trans (an.mono aa.size);have aC:=ai.below an;have aD:=Xh w5 (.cells (z2 zi) 38);obtain⟨b7,av⟩:=nm (z2 T);rw[av.o];clear af a7 aa ai an
    go_upto_region 5 with(first
     |(refine yf rfl rfl ?_)
     |(refine yg (h':=T) rfl _ _ rfl rfl (by rw[av.o];rfl) aD zw aj.o ?_;intro a4 aG ab aZ;have ak:Below w5.heap.size w5 a4:=zh Ba (Nat.le_refl _) aG (yL _ _);have au:=ag.trans (ak.mono ag.size);have ax:=aC.below ak))
    clear ak aC aD ag;obtain⟨gt,aR⟩:=nm (w5.heap.size:Nat);rw[aR.o]at ab⊢;have aT:=Lb ab.o;have aF:zP a4 (.slice (some ⟨gt,0,none⟩) 32 32) T:=z8y (fun j u aX=>by rw[Nat.zero_add,z7 ab.o j];simpa [z2] using aX) aT aj.o (by unfold maxLen;omega);have aK:=z0 aF;have aI:=z0 ax;have a6:=z0 au;clear aG aZ ab aF ax au;go_wp2_with fail;refine(Xz (.slice K I J) (.slice (some ⟨gt,0,none⟩) 32 32) L T a4.heap.size 2 (a4.alloc (.cells #[.slice K I J,.slice (some ⟨gt,0,none⟩) 32 32] 33)) (by simp) (by simp) (by simp) (aI.o.alloc _) (aK.o.alloc _) (by have:=ar.o;have:=aj.o;omega)).mono ?_;rintro e b5 ⟨b6,rfl,aL,aS⟩;have aQ:=(a6.o.alloc a6.o.size (.cells #[.slice K I J,.slice (some ⟨gt,0,none⟩) 32 32] 33)).trans (aS.mono (by have:=a6.o.size;simp;omega));go_wp2;go_ret2;exact⟨_,rfl,aL.more (by have:=a6.o.size;have:=F.o.size;simp;omega),F.o.trans (aQ.mono F.o.size)⟩
end
section
def axl (a:vU) (s:Value):List Value:=[.int .i64 a.bo,.int .i64 a.vi,.int .i64 a.pv] ++ (z4 a.pa ++ (s :: z4 a.tg))
def ye (a:vU) (s:Value):Array Value:=(axl a s).toArray
theorem Ym {a:vU} (s:Value) (h:a.Ok):(axl a s).length=68:=by simp[axl,z6,h.pa,h.tg]
theorem zT {a:vU} (s:Value) (h:a.Ok):(ye a s).size=68:=by simp[ye,Ym s h]
theorem VX (a:vU) (s:Value):axl a s=[.int .i64 a.bo,.int .i64 a.vi,.int .i64 a.pv] ++ (z4 a.pa ++ ([s] ++ z4 a.tg)):=rfl
theorem z3h (a:vU) (s:Value):axl a s=([.int .i64 a.bo,.int .i64 a.vi,.int .i64 a.pv] ++ (z4 a.pa ++ [s])) ++ (z4 a.tg ++ []):=by
 unfold axl;simp only[List.append_assoc,List.append_nil,List.cons_append,List.nil_append]
def Kh (w:World) (v:Value) (a:vU):Prop:=∃s,v=.agg (ye a s)/\a.Ok/\jE VB 1 w s a.fr
theorem Kh.below {w w':World}{v:Value}{a:vU} (h:Kh w v a) (F:Below w.heap.size w w'):Kh w' v a:=by
 obtain⟨s,rfl,h1,h2⟩:=h;exact⟨s,rfl,h1,h2.below F⟩
def yr (w:World) (g:Nat) (a:vU) (s:Value):Prop:=w.heap[g]?=some (.cells (ye a s) 52 (0,0))
section
variable {w w':World}{g:Nat}{a:vU}{s:Value}
theorem yr.new (w:World) (a:vU) (s:Value):yr (w.alloc (.cells (ye a s) 52)) w.heap.size a s:=Xh w _
theorem yr.lt (h:yr w g a s):g<w.heap.size:=Lb h
theorem yr.below {B:Nat} (h:yr w g a s) (F:Below B w w') (hg:g<B):yr w' g a s:=(F.block g hg).trans h
theorem yr.free (h:yr w g a s) (i:Nat):w.frozen? ⟨g,i,none⟩=false:=zz h i
theorem yr.cell (h:yr w g a s) (i:Nat):w.cell? ⟨g,i,none⟩=(axl a s)[i]?:=by
 rw[z7 h i];unfold ye;rw[List.getElem?_toArray]
theorem yr.ints (h:yr w g a s):w.cell? ⟨g,0,none⟩=some (.int .i64 a.bo)/\w.cell? ⟨g,1,none⟩=some (.int .i64 a.vi)/\w.cell? ⟨g,2,none⟩=some (.int .i64 a.pv):=
 ⟨h.cell 0,h.cell 1,h.cell 2⟩
theorem yr.fr (h:yr w g a s) (ho:a.Ok):w.cell? ⟨g,35,none⟩=some s:=by
 rw[h.cell,VX,List.getElem?_append_right (by simp),List.getElem?_append_right (by rw[z6,ho.pa];simp)];rw[z6,ho.pa];rfl
theorem yr.pa (h:yr w g a s):w.rangeAt g 3 (z4 a.pa):=fun j u F=>by
 rw[h.cell,VX,List.getElem?_append_right (by simp)];simp only[List.length_cons,List.length_nil];rw[show 3+j - (0+1+1+1)=j from by omega,List.getElem?_append_left (List.getElem?_eq_some_iff.1 F).1];exact F
theorem yr.tg (h:yr w g a s) (ho:a.Ok):w.rangeAt g 36 (z4 a.tg):=fun j u F=>by
 rw[h.cell,z3h,List.append_nil,List.getElem?_append_right (by simp only[List.length_append,z6,ho.pa,List.length_cons,List.length_nil];omega)];simp only[List.length_append,z6,ho.pa,List.length_cons,List.length_nil];rw[show 36+j - (0+1+1+1+(32+(0+1)))=j from by omega];exact F
end
theorem z9Z (a:vU) (s:Value) (n:Int):(ye a s).setIfInBounds 2 (.int .i64 n)=ye { a with pv:=n } s:=by
 unfold ye axl;rw[List.setIfInBounds_toArray];rfl
theorem z69 (a:vU) (s v:Value) (ho:a.Ok):(ye a s).setIfInBounds 35 v=ye a v:=by
 unfold ye;rw[List.setIfInBounds_toArray]
 congr 1
 unfold axl;rw[List.set_append_right _ _ (by simp),List.set_append_right _ _ (by rw[z6,ho.pa];simp)];rw[z6,ho.pa];rfl
section
variable {ops:Array Oper}{rest:List Oper}{o:Oper}{ac:Act}{w:World}{Q:Exit->Act->World->Prop}
theorem QT (G:o.guard=none) (x y:Operand) (ho:o.op=.store 38 x y)
  {g:Nat} {a:vU} {s:Value} {h:List UInt8} (hx:ac.eval x=.pointer (some ⟨g,3,none⟩)) (I:ac.eval y=.agg (z2 h)) (hg:yr w g a s) (J:a.Ok) (hl:h.length=32)
  (F:∀w',w.grownBy w' (some g)->yr w' g { a with pa:=h } s->w'.heap.size=w.heap.size->wpList prog ops Q rest (ac.put o.dst undef) w'):wpList prog ops Q (o :: rest) ac w:=by
 unfold yr ye at hg;rw[VX]at hg;refine vr G x y ho hx I hg rfl (by rw[z6,J.pa]) hl (fun w' h1 h2 h3=>F w' h1 ?_ h3);unfold yr ye;rw[VX];exact h2
theorem kd (I:o.guard=none) (x y:Operand) (ho:o.op=.store 38 x y)
  {g:Nat} {a:vU} {s:Value} {h:List UInt8} (hx:ac.eval x=.pointer (some ⟨g,36,none⟩)) (J:ac.eval y=.agg (z2 h)) (hg:yr w g a s) (F:a.Ok) (hl:h.length=32)
  (G:∀w',w.grownBy w' (some g)->yr w' g { a with tg:=h } s->w'.heap.size=w.heap.size->wpList prog ops Q rest (ac.put o.dst undef) w'):wpList prog ops Q (o :: rest) ac w:=by
 unfold yr ye at hg;rw[z3h]at hg;refine vr I x y ho hx J hg (by simp only[List.length_append,z6,F.pa,List.length_cons,List.length_nil]) (by rw[z6,F.tg]) hl (fun w' h1 h2 h3=>G w' h1 ?_ h3);unfold yr ye;rw[z3h];exact h2
end
noncomputable def yP (v : Value) (w : World) : Result Next := Sem.run prog (execOp (fun _ => v) { dst := none, op := .load 52 (.tmp 0), type := 0, pos := "", after := #[], guard := none }) w
theorem zO (r:Operand->Value) (x:Operand) (dst:Option Tmp) (ty:TypeId) (pos:String) (after:Array Edge) (guard:Option (Nat×Bool)) (w:World):
  Sem.run prog (execOp r { dst:=dst,op:=.load 52 x,type:=ty,pos:=pos,after:=after,guard:=guard }) w=yP (r x) w:=rfl
theorem z0t:prog.underlying 52=some (.struct (prog.fieldsOf 52)):=by kernel_rfl
theorem XI:(prog.info? 52).map (·.size)=some 68:=by kernel_rfl
theorem qH {w:World}{g:Nat}{C:Array Value}{T:TypeId} (h:w.heap[g]?=some (.cells C T (0,0))) (G:C.size=68):yP (.pointer (some ⟨g,0,none⟩)) w=.ok (.value (.agg C)) w:=by
 have:=run_loadAt_mid (P:=prog) w g 0 52 C.toList _ (fun j v F=>by rw[Nat.zero_add,z7 h j];simpa using F) z0t rfl (by rw[XI];simp[G]);simp only[Array.toArray_toList]at this;unfold yP execOp;simp only[Sem.run_bind,this,Result.andThen_ok,Sem.run_pure]
theorem jt {w:World}{a:vU}{s:Value} (h:jE VB 1 w s a.fr):(ye a s).all (·.oneCell')=true:=by
 obtain⟨A,k,rfl,_⟩:=h;unfold ye;refine all_oneCell_toArray ?_;intro u F;unfold axl at F;rcases List.mem_append.1 F with F|F
 ·simp only[List.mem_cons,List.not_mem_nil,or_false]at F;obtain rfl|rfl|rfl:=F <;> rfl
 ·rcases List.mem_append.1 F with F|F
  ·exact yb _ u F
  ·rcases List.mem_cons.1 F with rfl|F
   ·rfl
   ·exact yb _ u F
theorem zbq:(prog.info? 52).bind (·.zero)=some (.agg (ye Zy (.slice none 0 0))):=by kernel_rfl
theorem z4B (w:World):(zeroValue 52).run prog w=.ok (.agg (ye Zy (.slice none 0 0))) w:=by
 have h:=zbq;cases hq:prog.info? 52 with
 |none=>rw[hq]at h;cases h
 |some i=>
  rw[hq]at h;have F:i.zero=some (.agg (ye Zy (.slice none 0 0))):=h;simp[zeroValue,typeInfo,hq,F]
noncomputable def Yn (w : World) : Result Next := Sem.run prog (execOp (fun _ => undef) { dst := none, op := .build 52 #[], type := 0, pos := "", after := #[], guard := none }) w
theorem Z4 (r:Operand->Value) (dst:Option Tmp) (ty:TypeId) (pos:String) (after:Array Edge) (guard:Option (Nat×Bool)) (w:World):
  Sem.run prog (execOp r { dst:=dst,op:=.build 52 #[],type:=ty,pos:=pos,after:=after,guard:=guard }) w=Yn w:=by
 unfold Yn execOp;simp
theorem Yo (w:World):Yn w=.ok (.value (.agg (ye Zy (.slice none 0 0)))) w:=by
 unfold Yn;go_simp;rfl
noncomputable def Qn (w : World) : Result Next := Sem.run prog (execOp (fun _ => undef) { dst := none, op := .alloc 52, type := 0, pos := "", after := #[], guard := none }) w
theorem vl (r:Operand->Value) (dst:Option Tmp) (ty:TypeId) (pos:String) (after:Array Edge) (guard:Option (Nat×Bool)) (w:World):
  Sem.run prog (execOp r { dst:=dst,op:=.alloc 52,type:=ty,pos:=pos,after:=after,guard:=guard }) w=Qn w:=rfl
theorem jT (w:World):Qn w=.ok (.value (.pointer (some ⟨w.heap.size,0,none⟩))) (w.alloc (.cells (ye Zy (.slice none 0 0)) 52)):=by
 unfold Qn execOp;simp only[Sem.run_bind,Instr.alloc,z4B,newVar,newRow,run_newObj_alloc,Sem.run_pure,Result.andThen_ok,Value.cells]
noncomputable def Qo (p v:Value) (w:World):Result Next:=Sem.run prog (execOp (fun x=>match x with
 | .tmp 0=>p
 | _ => v) { dst := none, op := .store 52 (.tmp 0) (.tmp 1), type := 0, pos := "", after := #[], guard := none }) w
theorem vm (r:Operand->Value) (x y:Operand) (dst:Option Tmp) (ty:TypeId) (pos:String) (after:Array Edge) (guard:Option (Nat×Bool)) (w:World):
  Sem.run prog (execOp r { dst:=dst,op:=.store 52 x y,type:=ty,pos:=pos,after:=after,guard:=guard }) w=Qo (r x) (r y) w:=rfl
def vM (w:World) (g:Nat) (C:Array Value):World:=w.setRow g C
theorem jk {w:World}{g:Nat}{t:TypeId}{C0 C:Array Value} (hg:w.heap[g]?=some (.cells C0 t (0,0))) (h0:C0.size=68) (F:C.size=68) (h1:C.all (·.oneCell')=true):
  Qo (.pointer (some ⟨g,0,none⟩)) (.agg C) w=.ok .skip (vM w g C):=by
 have:=run_storeVar_row (P:=prog) w g t 52 C0 C hg (by rw[XI,F]) (by rw[h0,F]) h1;unfold Qo execOp;simp only[Instr.storeAt,Instr.sureAddr,Sem.run_bind,Sem.run_pure,Result.andThen_ok,this];rfl
theorem Z9 (w:World) {g k:Nat} (C:Array Value) (F:k≠g):(vM w g C).heap[k]?=w.heap[k]?:=setRow_other w g k _ F
theorem vN {w:World}{g:Nat}{t:TypeId}{C0 C:Array Value} (hg:w.heap[g]?=some (.cells C0 t (0,0))):(vM w g C).heap[g]?=some (.cells C t (0,0)):=setRow_heap w g _ _ t _ hg
theorem Vb (w:World) (g:Nat) (C:Array Value):(vM w g C).heap.size=w.heap.size:=by simp[vM]
theorem jO {B g:Nat}{a w:World}{C:Array Value} (F:Below B a w) (hg:B<=g):Below B a (vM w g C):=below_setRow F hg _
theorem z0u {w:World}{g:Nat}{t:TypeId}{C:Array Value}{fr:Nat×Nat} (hg:w.heap[g]?=some (.cells C t fr)):vM w g C=w:=by
 have e:∀f:Obj->Obj,f (.cells C t fr)=.cells C t fr->w.heap.modify g f=w.heap:=by
  intro f F;apply Array.ext_getElem?;intro k;rw[Array.getElem?_modify];by_cases h:g=k
  ·subst h;rw[if_pos rfl,hg];simp[F]
  ·rw[if_neg h]
 unfold vM World.setRow;rw[e _ rfl]
theorem z4C (w:World) (T:TypeId) (C0 C:Array Value):vM (w.alloc (.cells C0 T)) w.heap.size C=w.alloc (.cells C T):=by
 have F:∀(a:Array Obj) (x:Obj) (f:Obj->Obj),(a.push x).modify a.size f=a.push (f x):=by
  intro a x f;apply Array.ext_getElem?;intro k;rw[Array.getElem?_modify];by_cases h:a.size=k
  ·subst h;simp
  ·rw[if_neg h,Array.getElem?_push,Array.getElem?_push];rw[if_neg (fun e=>h e.symm),if_neg (fun e=>h e.symm)]
 unfold vM World.setRow World.alloc;simp only[F]
theorem Vc (w:World) {Z S:Array Value} (F:Z.size=68) (G:S.size=68) (h1:S.all (·.oneCell')=true):
  Qo (.pointer (some ⟨w.heap.size,0,none⟩)) (.agg S) (w.alloc (.cells Z 52))=.ok .skip (w.alloc (.cells S 52)):=by
 rw[jk (Xh w _) F G h1,z4C]
end
def z8A:Prop:=∀(n:Int) (v:Value) (a:vU) (w:World),(Lit.int .i64 n).wf=true->Kh w v a->a.fr.length<=1000->yB 1 w->
 Calls prog 115 #[.int .i64 n,v] w fun e w'=>e=.returned (.bool (xm n a))/\Below w.heap.size w w'
theorem zcM {a:vU} (s:Value) (ho:a.Ok):(ye a s)[35]?=some s:=by
 unfold ye;rw[List.getElem?_toArray,VX,List.getElem?_append_right (by simp),List.getElem?_append_right (by rw[z6,ho.pa];simp)];rw[z6,ho.pa];rfl
section
def scl (s:YH):List Value:=.int .i64 s.bo :: z4 s.tg
def YE (s:YH):Array Value:=(scl s).toArray
theorem Vd {s:YH} (h:s.Ok):(scl s).length=33:=by
 unfold scl;rw[List.length_cons,z6,h]
theorem J5 {s:YH} (h:s.Ok):(YE s).size=33:=by
 unfold YE;rw[List.size_toArray,Vd h]
theorem z7c (s:YH):∀u∈scl s,u.oneCell'=true:=by
 intro u F;rcases List.mem_cons.1 F with rfl|F
 ·rfl
 ·exact yb _ u F
theorem z7d (s:YH):(YE s).all (·.oneCell')=true:=all_oneCell_toArray (z7c s)
def sgZ:YH:=⟨0,qx⟩
theorem z3i:sgZ.Ok:=rfl
theorem za0:prog.underlying 223=some (.struct (prog.fieldsOf 223)):=by kernel_rfl
theorem z7e:(prog.info? 223).map (·.size)=some 33:=by kernel_rfl
theorem zbr:(prog.info? 223).map (fun i=>(i.zero,i.size,decide (i.bytes<=100000)))=some (some (.agg (YE sgZ)),33,true):=by kernel_rfl
theorem zdp:Elt scl YH.Ok 33 223 55:=by
 refine⟨by omega,fun _ h=>Vd h,z7c,by kernel_rfl,by kernel_rfl,?_⟩;obtain⟨i,hi,h⟩:=Option.map_eq_some_iff.1 zbr;injection h with h1 h;injection h with h2 h3;exact⟨i,_,hi,h1,h2,of_decide_eq_true h3,by show(YE sgZ).size=33;exact J5 z3i⟩
noncomputable def Yp (v : Value) (w : World) : Result Next := Sem.run prog (execOp (fun _ => v) { dst := none, op := .load 223 (.tmp 0), type := 0, pos := "", after := #[], guard := none }) w
theorem Zo (r:Operand->Value) (x:Operand) (dst:Option Tmp) (ty:TypeId) (pos:String) (after:Array Edge) (guard:Option (Nat×Bool)) (w:World):
  Sem.run prog (execOp r { dst:=dst,op:=.load 223 x,type:=ty,pos:=pos,after:=after,guard:=guard }) w=Yp (r x) w:=rfl
theorem Yq {w:World}{g o:Nat}{s:YH} (F:w.rangeAt g o (scl s)) (ho:s.Ok):Yp (.pointer (some ⟨g,o,none⟩)) w=.ok (.value (.agg (YE s))) w:=by
 have:=run_loadAt_mid (P:=prog) w g o 223 (scl s) _ F za0 rfl (by rw[z7e,Vd ho]);unfold Yp execOp;simp only[Sem.run_bind,this,Result.andThen_ok,Sem.run_pure];rfl
theorem VY {w:World}{g o:Nat}{s:YH} (F:w.rangeAt g o (scl s)):w.cell? ⟨g,o,none⟩=some (.int .i64 s.bo)/\w.rangeAt g (o+1) (z4 s.tg):=by
 refine⟨F 0 _ rfl,fun j u G=>?_⟩;rw[show o+1+j=o+(j+1) from by omega];exact F (j+1) u G
def JA (c:YL) (s:Value):Array Value:=(xZ c.att ++ [s]).toArray
theorem QU {c:YL} (s:Value) (h:c.att.Ok):(JA c s).size=102:=by simp[JA,yZ h]
def CtV (w:World) (v:Value) (c:YL):Prop:=∃s,v=.agg (JA c s)/\c.Ok/\jE scl 33 w s c.sg
theorem CtV.below {w w':World}{v:Value}{c:YL} (h:CtV w v c) (F:Below w.heap.size w w'):CtV w' v c:=by
 obtain⟨s,rfl,h1,h2⟩:=h;exact⟨s,rfl,h1,h2.below F⟩
def Zi (w:World) (g:Nat) (c:YL) (s:Value):Prop:=w.heap[g]?=some (.cells (JA c s) 57 (0,0))
section
variable {w w':World}{g:Nat}{c:YL}{s:Value}
theorem Zi.new (w:World) (c:YL) (s:Value):Zi (w.alloc (.cells (JA c s) 57)) w.heap.size c s:=Xh w _
theorem Zi.lt (h:Zi w g c s):g<w.heap.size:=Lb h
theorem Zi.below {B:Nat} (h:Zi w g c s) (F:Below B w w') (hg:g<B):Zi w' g c s:=(F.block g hg).trans h
theorem Zi.free (h:Zi w g c s) (i:Nat):w.frozen? ⟨g,i,none⟩=false:=zz h i
theorem Zi.cell (h:Zi w g c s) (i:Nat):w.cell? ⟨g,i,none⟩=(xZ c.att ++ [s])[i]?:=by
 rw[z7 h i];unfold JA;rw[List.getElem?_toArray]
theorem Zi.att (h:Zi w g c s):w.rangeAt g 0 (xZ c.att):=fun j u F=>by
 rw[Nat.zero_add,h.cell,List.getElem?_append_left (List.getElem?_eq_some_iff.1 F).1];exact F
theorem Zi.sigs (h:Zi w g c s) (ho:c.att.Ok):w.cell? ⟨g,101,none⟩=some s:=by
 rw[h.cell,List.getElem?_append_right (by rw[yZ ho];omega),yZ ho];rfl
theorem Zi.bo (h:Zi w g c s):w.cell? ⟨g,0,none⟩=some (.int .i64 c.att.bo):=h.att 0 _ rfl
theorem Zi.tag (h:Zi w g c s) (ho:c.att.Ok):w.rangeAt g 69 (z4 c.att.tg):=fun j u F=>by
 have e:=h.att (69+j) u (by
  rw[XE,List.append_nil,List.getElem?_append_right (by simp only[List.length_append,z6,ho.ha,ho.pa,List.length_cons,List.length_nil];omega)];simp only[List.length_append,z6,ho.ha,ho.pa,List.length_cons,List.length_nil];rw[show 69+j - (0+1+1+1+1+(32+(0+1+32)))=j from by omega]
  exact F)
 rwa[Nat.zero_add]at e
end
noncomputable def xt (v : Value) (w : World) : Result Next := Sem.run prog (execOp (fun _ => v) { dst := none, op := .load 57 (.tmp 0), type := 0, pos := "", after := #[], guard := none }) w
theorem qd (r:Operand->Value) (x:Operand) (dst:Option Tmp) (ty:TypeId) (pos:String) (after:Array Edge) (guard:Option (Nat×Bool)) (w:World):
  Sem.run prog (execOp r { dst:=dst,op:=.load 57 x,type:=ty,pos:=pos,after:=after,guard:=guard }) w=xt (r x) w:=rfl
theorem z4E:prog.underlying 57=some (.struct (prog.fieldsOf 57)):=by kernel_rfl
theorem z7f:(prog.info? 57).map (·.size)=some 102:=by kernel_rfl
theorem xS {w:World}{g:Nat}{C:Array Value}{T:TypeId} (h:w.heap[g]?=some (.cells C T (0,0))) (G:C.size=102):xt (.pointer (some ⟨g,0,none⟩)) w=.ok (.value (.agg C)) w:=by
 have:=run_loadAt_mid (P:=prog) w g 0 57 C.toList _ (fun j v F=>by rw[Nat.zero_add,z7 h j];simpa using F) z4E rfl (by rw[z7f];simp[G]);simp only[Array.toArray_toList]at this;unfold xt execOp;simp only[Sem.run_bind,this,Result.andThen_ok,Sem.run_pure]
def zch (w:World) (g:Nat) (C:Array Value):World:=w.setRow g C
theorem z4F (w:World) (T:TypeId) (C0 C:Array Value):zch (w.alloc (.cells C0 T)) w.heap.size C=w.alloc (.cells C T):=by
 have F:∀(a:Array Obj) (x:Obj) (f:Obj->Obj),(a.push x).modify a.size f=a.push (f x):=by
  intro a x f;apply Array.ext_getElem?;intro k;rw[Array.getElem?_modify];by_cases h:a.size=k
  ·subst h;simp
  ·rw[if_neg h,Array.getElem?_push,Array.getElem?_push];rw[if_neg (fun e=>h e.symm),if_neg (fun e=>h e.symm)]
 unfold zch World.setRow World.alloc;simp only[F]
theorem za1 (a:y8) (n:Int):(zy a).setIfInBounds 0 (.int .i64 n)=zy { a with bo:=n }:=by
 unfold zy xZ;rw[List.setIfInBounds_toArray];rfl
end
section
attribute [local go_sem ↓] ze zn zo zf ky
theorem z3j (a:y8) (s:YH) (w:World) (ha:a.Ok) (I:s.Ok):
  Calls prog 172 #[.agg (zy a),.agg (YE s)] w fun e w'=>e=.returned (.agg (zy (j5 a s)))/\Below w.heap.size w w':=by
 obtain⟨C,aa⟩:=nm (zy a);obtain⟨F,a5⟩:=nm (YE s);obtain⟨D,K⟩:=nm (zy (j5 a s));obtain⟨Z,a9⟩:=nm (zy ju);have an:∀W,zt W=.ok (.value (.pointer (some ⟨W.heap.size,0,none⟩))) (W.alloc (.cells Z 54)):=fun W=>by rw[<-a9.o];exact zC W
 have ae:Hd (Z.size=101):=z0 (by rw[<-a9.o];exact zg qf);have O:Hd (D.size=101/\D.all (·.oneCell')=true):=z0 (by rw[<-K.o];exact⟨zg (ZR ha I),qD _⟩);have ad:Below w.heap.size w (((w.alloc (.cells C 54)).alloc (.cells F 223)).alloc (.cells Z 54)):=(Ba.alloc (by simp) _).alloc (by simp;omega) _;have a7:(((w.alloc (.cells C 54)).alloc (.cells F 223)).alloc (.cells Z 54)).heap[w.heap.size]?=some (.cells C 54 (0,0)):=(Below.heap_alloc _ _ _ (by simp;omega)).trans (Zj w _ _);have M:(((w.alloc (.cells C 54)).alloc (.cells F 223)).alloc (.cells Z 54)).heap[w.heap.size+1]?=some (.cells F 223 (0,0)):=(Below.heap_alloc _ _ _ (by simp)).trans (kT w _ _);have G:(((w.alloc (.cells C 54)).alloc (.cells F 223)).alloc (.cells Z 54)).heap[w.heap.size+1+1]?=some (.cells Z 54 (0,0)):=by
  have:=kT (w.alloc (.cells C 54)) (.cells F 223) (.cells Z 54)
  rwa[show(w.alloc (.cells C 54)).heap.size=w.heap.size+1 from by simp]at this
 obtain⟨T,a6⟩:=nm (z2 s.tg)
 have a8:Hd (∀W:World,W.heap[w.heap.size+1]?=some (.cells F 223 (0,0))->W.cell? ⟨w.heap.size+1,0,none⟩=some (.int .i64 s.bo)/\qE (.pointer (some ⟨w.heap.size+1,1,none⟩)) W=.ok (.value (.agg T)) W):=z0 (fun W h=>by
  rw[<-a5.o]at h;have aj:W.rangeAt (w.heap.size+1) 0 (scl s):=fun j u ap=>by
   rw[Nat.zero_add,z7 h j];unfold YE;rw[List.getElem?_toArray];exact ap
  obtain⟨h1,h2⟩:=VY aj;rw[<-a6.o]
  exact⟨h1,zD h2 I⟩)
 have ao:Hd (∀W:World,qz W w.heap.size { { a with bo:=s.bo } with tg:=s.tg }->zI (.pointer (some ⟨w.heap.size,0,none⟩)) W=.ok (.value (.agg D)) W):=z0 (fun W h=>by
  rw[<-K.o]
  exact ji h (ZR ha I))
 have af:Hd ({ a with bo:=s.bo }:y8).Ok:=z0 ⟨ha.ha,ha.pa,ha.tg⟩;have ak:=z0 I;rw[K.o,aa.o,a5.o];go_enter func172,ntmps172;go_upto_region 1 with(fail)
 generalize (((w.alloc (.cells C 54)).alloc (.cells F 223)).alloc (.cells Z 54))=w0 at *;have J:qz w0 w.heap.size a:=by unfold qz;rw[aa.o];exact a7
 have c0:=J.cells.1;have ar:=J.free 0;have c1:=(a8.o w0 M).1;have a1:qz (w0.setCell ⟨w.heap.size,0,none⟩ (.int .i64 s.bo)) w.heap.size { a with bo:=s.bo }:=by
  have:=jm J 0 (.int .i64 s.bo);rw[za1]at this;exact this
 have a2:=yX M (.int .i64 s.bo) (i:=0) (b:=w.heap.size) (by omega);have ab:=yX G (.int .i64 s.bo) (i:=0) (b:=w.heap.size) (by omega);have a3:Below w.heap.size w (w0.setCell ⟨w.heap.size,0,none⟩ (.int .i64 s.bo)):=ad.setCell (by simp) _;have l1:=(a8.o _ a2).2;have am:=z0 a1;have a4:=z0 ab;have a0:=z0 a3;clear J a1 a7 M G a2 ab ad a3 an ha I;go_wp2_with (refine xN (h:=s.tg) (a:={ a with bo:=s.bo }) rfl _ _ rfl rfl (by rw[a6.o];rfl) am.o af.o ak.o ?_;intro ag N ah al;have au:=ao.o ag ah;have G:=(N.block _ (Lb a4.o) (fun e=>by injection e with e;omega)).trans a4.o;have av:=qF G ae.o O.o.1 O.o.2;have aq:=z0 G;have ai:=z0 N;clear N al G);refine Bp (results_cell_row rfl _ _ _ _ _ (0,0) _ rfl (qU aq.o) jF rfl (by rw[vE,O.o.1])) rfl ⟨rfl,?_⟩;exact qA (zh a0.o (Nat.le_refl _) ai.o a0.o.size) (by omega)
end
section
attribute [local go_sem ↓] ze zn zo zf ky
theorem z3k (v:Value) (c:YL) (w:World) (hv:CtV w v c):
  Calls prog 171 #[v] w fun e w'=>e=.returned (.bool (z24 c))/\Below w.heap.size w w':=by
 obtain⟨s,rfl,ho,_⟩:=hv;have hb0:Below w.heap.size w (w.alloc (.cells (JA c s) 57)):=Ba;have hA:=Zi.new w c s;obtain⟨C,HC⟩:=nm (JA c s);obtain⟨q,HQ⟩:=nm (z24 c);rw[HC.o]at hb0 hA⊢;rw[HQ.o];have heq:=fun W=>xX c.att.tg qx ho.att.tg rfl W;obtain⟨q1,HQ1⟩:=nm (decide (c.att.tg=qx));obtain⟨T,HT⟩:=nm (z2 c.att.tg);obtain⟨O,HO⟩:=nm (z2 qx);rw[HQ1.o,HT.o,HO.o]at heq;have hbz:∀W,JP W=.ok (.value (.agg O)) W:=fun W=>by rw[<-HO.o,Km,Qu];rfl
 go_enter func171,ntmps171;go_upto_region 1 with(fail)
 generalize (w.alloc (.cells C 57))=w0 at *;have k0:=hA.bo;have l1:=zD (hA.tag ho.att) ho.att.tg;rw[HT.o]at l1;obtain⟨n,HN⟩:=nm (c.att.bo);have HB:Hd (q=(decide (n=0) && q1)):=z0 (by rw[<-HQ.o,<-HQ1.o,<-HN.o];rfl);rw[HN.o]at k0;clear hA ho HC;by_cases h0:n=0
 ·subst h0;obtain rfl:q=q1:=by rw[HB.o];simp
  go_wp2;go_ret;exact⟨rfl,hb0⟩
 ·have h1:(n == 0)=false:=by simpa using h0
  obtain rfl:q=false:=by rw[HB.o,decide_eq_false h0];rfl
  clear h0;go_wp2;go_ret;exact⟨rfl,hb0⟩
end
theorem z1p (v:Value) (l:List YH) (top:Int) (w:World) (F:jE scl 33 w v l):
  Calls prog 170 #[v,.int .i64 top] w fun e w'=>e=.returned (.bool (qN top 0 l))/\Below w.heap.size w w':=by
 obtain⟨A,c,rfl⟩:=F.shape;obtain⟨L,a2⟩:=nm (l.length:Nat);obtain⟨J,a4⟩:=nm (qN top 0 l);have a5:=F.len;unfold maxLen at a5;have a8:=F.at_.2.1;have ae:=F.at_.2.2.1;rw[a2.o]at F a5 a8⊢;rw[a4.o];unfold maxLen at ae;have ad:=z0 (fun W (h:Below w.heap.size w W)=>F.below h);clear F;go_enter func170,ntmps170;go_wp2_with fail;go_loopw [5] (fun a1 wr=>∃(i:Nat) (last:Int),i<=L/\a1=.int .i64 i/\0<=last/\Hd (J=qN top last (l.drop i))/\((i=0/\last=0)\/(∃k,i=k+1/\∃h:k<l.length,l[k].bo=last))/\Below w.heap.size w wr) (fun a1 _=>L - (intOf a1).toNat)
 case atStart=>exact⟨0,0,Nat.zero_le _,rfl,Int.le_refl _,z0 (by rw[List.drop_zero];exact a4.o.symm),.inl ⟨rfl,rfl⟩,Below.refl _ _⟩
 case round=>
  obtain⟨i,last,hi,rfl,ag,a6,af,a3⟩:=hrel;by_cases aa:i<L
  ·have a0:i<l.length:=by rw[a2.o];exact aa
   obtain⟨g,o,rfl,hg,G⟩:=(ad.o wr a3).at_.2.2.2 (by omega)
   have I:Hd (J=((decide (last<l[i].bo) && decide (l[i].bo<=top)) && qN top l[i].bo (l.drop (i+1)))):=z0 (by
    rw[a6.o,List.drop_eq_getElem_cons a0]
    rfl)
   obtain⟨b,O⟩:=nm (l[i].bo:Int);have K:wr.drew.cell? ⟨g,o+i*33,none⟩=some (.int .i64 b):=by rw[<-O.o];exact(VY (G i a0)).1
   rw[O.o]at I;have al:(i:Int)<(L:Int):=by omega
   have M:=a3.drew;by_cases h1:b<1
   ·obtain rfl:J=false:=by rw[I.o,decide_eq_false (by omega)];rfl
    clear G;go_upto_region 4 with(fail)
    refine Rh (S:=fun W=>W.cell? ⟨g,o+i*33,none⟩=some (.int .i64 b)) (by kernel_rfl) K (fun N=>?_);refine' z5 0 (h:=z5 1 (h:=z5 2 (h:=z5 3 (h:=z5 4 (h:=z5 5 (h:=z5 6 (h:=tn 7 (h:=tn 8 (h:=tn 9 (h:=tn 10 (h:=tn 11 (h:=?_))))))))))));refine' tn 12 (h:=tn 13 (h:=z5 14 (h:=z5 15 (h:=tn 16 (h:=tn 17 (h:=tn 18 (h:=tn 19 (h:=tn 20 (h:=tn 21 (h:=tn 22 (h:=tn 23 (h:=?_))))))))))));refine' tn 24 (h:=tn 25 (h:=tn 26 (h:=tn 27 (h:=tn 28 (h:=tn 29 (h:=tn 30 (h:=tn 31 (h:=z5 32 (h:=?_)))))))));refine wpAnyH_done (by kernel_rfl) ?_ _;go_wp2;go_ret;exact⟨rfl,M⟩
   ·by_cases h2:top<b
    ·obtain rfl:J=false:=by rw[I.o,decide_eq_false (show ¬b<=top by omega),Bool.and_false];rfl
     clear G;go_upto_region 4 with(fail)
     refine Rh (S:=fun W=>W.cell? ⟨g,o+i*33,none⟩=some (.int .i64 b)) (by kernel_rfl) K (fun N=>?_);refine' z5 0 (h:=z5 1 (h:=z5 2 (h:=z5 3 (h:=z5 4 (h:=z5 5 (h:=z5 6 (h:=z5 7 (h:=z5 8 (h:=z5 9 (h:=z5 10 (h:=z5 11 (h:=?_))))))))))));refine' z5 12 (h:=z5 13 (h:=z5 14 (h:=z5 15 (h:=tn 16 (h:=tn 17 (h:=tn 18 (h:=tn 19 (h:=tn 20 (h:=tn 21 (h:=tn 22 (h:=tn 23 (h:=?_))))))))))));refine' tn 24 (h:=tn 25 (h:=tn 26 (h:=tn 27 (h:=tn 28 (h:=tn 29 (h:=tn 30 (h:=tn 31 (h:=z5 32 (h:=?_)))))))));refine wpAnyH_done (by kernel_rfl) ?_ _;go_wp2;go_ret;exact⟨rfl,M⟩
    ·rcases af with ⟨rfl,rfl⟩|⟨k,rfl,ab,rfl⟩
     ·clear G;rw[Nat.zero_mul,Nat.add_zero]at K;go_upto_region 4 with(fail)
      refine Rh (S:=fun W=>W.cell? ⟨g,o,none⟩=some (.int .i64 b)) (by kernel_rfl) K (fun N=>?_);refine' z5 0 (h:=z5 1 (h:=z5 2 (h:=z5 3 (h:=z5 4 (h:=z5 5 (h:=z5 6 (h:=z5 7 (h:=z5 8 (h:=z5 9 (h:=z5 10 (h:=z5 11 (h:=?_))))))))))));refine' z5 12 (h:=z5 13 (h:=z5 14 (h:=z5 15 (h:=z5 16 (h:=z5 17 (h:=z5 18 (h:=tn 19 (h:=tn 20 (h:=tn 21 (h:=tn 22 (h:=tn 23 (h:=?_))))))))))));refine' tn 24 (h:=tn 25 (h:=tn 26 (h:=tn 27 (h:=tn 28 (h:=tn 29 (h:=tn 30 (h:=z5 31 (h:=z5 32 (h:=?_)))))))));refine wpAnyH_done (by kernel_rfl) ?_ _;go_wp2;go_roundw
      case rel=>exact⟨0+1,b,by omega,by go_num,by omega,z0 (by rw[I.o,decide_eq_true (by omega),decide_eq_true (by omega)];simp),.inr ⟨0,rfl,a0,O.o⟩,M⟩
      case measure=>simp[intOf];omega
     ·obtain⟨p,a7⟩:=nm (l[k].bo:Int);have hd:wr.drew.cell? ⟨g,o+k*33,none⟩=some (.int .i64 p):=by rw[<-a7.o];exact(VY (G k ab)).1
      rw[a7.o]at I ag;have ap:(k:Int)<(L:Int):=by omega
      have am:(0:Int)<((k+1:Nat):Int):=by omega
      have aj:IntKind.i64.wrap (((k+1:Nat):Int) - 1)=(k:Int):=by rw[IntKind.wrap_i64];omega
      have ao:(0:Int)<(k:Int)+1:=by omega
      have ai:(0:Int)<=(k:Int)+1:=by omega
      have ak:(k:Int)+1<(L:Int):=by omega
      have an:IntKind.i64.wrap ((k:Int)+1 - 1)=(k:Int):=by rw[IntKind.wrap_i64];omega
      have ah:IntKind.i64.wrap (k:Int)=(k:Int):=by rw[IntKind.wrap_i64];omega
      by_cases h3:p<b
      ·have a9:¬b<=p:=by omega
       clear G;go_upto_region 4 with(fail)
       refine Rh (S:=fun W=>W.cell? ⟨g,o+(k+1)*33,none⟩=some (.int .i64 b)/\W.cell? ⟨g,o+k*33,none⟩=some (.int .i64 p)) (by kernel_rfl) ⟨K,hd⟩ (fun N=>?_);refine' z5 0 (h:=z5 1 (h:=z5 2 (h:=z5 3 (h:=z5 4 (h:=z5 5 (h:=z5 6 (h:=z5 7 (h:=z5 8 (h:=z5 9 (h:=z5 10 (h:=z5 11 (h:=?_))))))))))));refine' z5 12 (h:=z5 13 (h:=z5 14 (h:=z5 15 (h:=z5 16 (h:=z5 17 (h:=z5 18 (h:=z5 19 (h:=z5 20 (h:=z5 21 (h:=z5 22 (h:=z5 23 (h:=?_))))))))))));refine' z5 24 (h:=z5 25 (h:=z5 26 (h:=z5 27 (h:=z5 28 (h:=z5 29 (h:=z5 30 (h:=z5 31 (h:=z5 32 (h:=?_)))))))));refine wpAnyH_done (by kernel_rfl) ?_ _;go_wp2;go_roundw
       case rel=>exact⟨k+1+1,b,by omega,by go_num,by omega,z0 (by rw[I.o,decide_eq_true h3,decide_eq_true (by omega)];simp),.inr ⟨k+1,rfl,a0,O.o⟩,M⟩
       case measure=>simp[intOf];omega
      ·have a9:b<=p:=by omega
       obtain rfl:J=false:=by rw[I.o,decide_eq_false h3];rfl
       clear G;go_upto_region 4 with(fail)
       refine Rh (S:=fun W=>W.cell? ⟨g,o+(k+1)*33,none⟩=some (.int .i64 b)/\W.cell? ⟨g,o+k*33,none⟩=some (.int .i64 p)) (by kernel_rfl) ⟨K,hd⟩ (fun N=>?_);refine' z5 0 (h:=z5 1 (h:=z5 2 (h:=z5 3 (h:=z5 4 (h:=z5 5 (h:=z5 6 (h:=z5 7 (h:=z5 8 (h:=z5 9 (h:=z5 10 (h:=z5 11 (h:=?_))))))))))));refine' z5 12 (h:=z5 13 (h:=z5 14 (h:=z5 15 (h:=z5 16 (h:=z5 17 (h:=z5 18 (h:=z5 19 (h:=z5 20 (h:=z5 21 (h:=z5 22 (h:=z5 23 (h:=?_))))))))))));refine' z5 24 (h:=z5 25 (h:=z5 26 (h:=z5 27 (h:=z5 28 (h:=z5 29 (h:=z5 30 (h:=z5 31 (h:=z5 32 (h:=?_)))))))));refine wpAnyH_done (by kernel_rfl) ?_ _;go_wp2;go_ret;exact⟨rfl,M⟩
  ·obtain rfl:i=L:=by omega
   obtain rfl:J=true:=by rw[a6.o,List.drop_eq_nil_of_le (by rw[a2.o];exact Nat.le_refl _)];rfl
   go_wp2;go_ret;exact⟨rfl,a3⟩
section
theorem z3l (w:World):(Instr.build 223 #[(0,.int .i64 1)]).run prog w=.ok (.agg (YE ⟨1,qx⟩)) w:=by
 go_simp;rfl
theorem J6 (a:Act) (dst:Option Tmp) (ty:TypeId) (pos:String) (after:Array Edge) (guard:Option (Nat×Bool)) (w:World):
  Sem.run prog (execOp a.eval { dst:=dst,op:=.build 223 #[(0,.const (.int .i64 1))],type:=ty,pos:=pos,after:=after,guard:=guard }) w=.ok (.value (.agg (YE ⟨1,qx⟩))) w:=by
 unfold execOp;simp[Act.eval,z3l]
attribute [local go_sem ↓] ze qd J6 Zo
end
def z8B:Prop:=∀(n:Int) (v:Value) (c:YL) (w:World),(Lit.int .i64 n).wf=true->CtV w v c->c.sg.length<=1000->yB 1 w->
 Calls prog 117 #[.int .i64 n,v] w fun e w'=>e=.returned (.bool (jy n c))/\Below w.heap.size w w'
section
open Go.ChangeShapes Go.WideShapes Go.ChangeAt Go.RowKit Go.Deep
section
variable {H:Type}{enc:TypeId×Value->H}{w:World}{base:Nat}{spare:Nat->Bool}{held:Bool}{fuel:Nat}{cs:List Value}{x:DataW H×List MemPlace}
theorem z6a:∃G F:Field,prog.underlying 223=some (.struct #[G,F])/\(G.type,G.offset)=(3,0)/\(F.type,F.offset)=(38,1):=
 ⟨_,_,underlying223,rfl,rfl⟩
theorem zbs (h:DataW.trod enc prog w base spare held fuel 223 cs=some x):∃s:YH,s.Ok/\cs=scl s:=by
 obtain⟨O,a0,a4,a9,a5⟩:=z6a;injection a9 with a1 K;injection a5 with a3 a7;obtain⟨J,m,_,_,N,M,F⟩:=DataW.trod_struct a4 h;have a6:prog.cellsOf 223=33:=by kernel_rfl
 have a8:prog.cellsOf 3=1:=by kernel_rfl
 have a2:prog.cellsOf 38=32:=by kernel_rfl
 rw[a6]at N;have hx:J.length=2:=M;have I:=F 0 O rfl;have G:=F 1 a0 rfl;rw[a1,K,a8,List.getElem?_eq_getElem (by omega)]at I;rw[a3,a7,a2,List.getElem?_eq_getElem (by omega)]at G;obtain⟨n0,c0,_,_⟩:=DataW.trod_int underlying3 I;obtain⟨tg,h1,c1⟩:=kH G;refine⟨⟨n0,tg⟩,h1,?_⟩;have e:cs=cs.drop 0:=rfl;rw[e,zE c0,zE c1,List.drop_eq_nil_of_le (by omega)];unfold scl;simp only[List.append_nil,List.cons_append,List.nil_append]
theorem za2 (h:DataW.trod enc prog w base spare held fuel 55 cs=some x):∃v L,cs=[v]/\jE scl 33 w v L/\∀s∈L,s.Ok:=
 zdp.trod sgZ z3i (fun h=>zbs h) h
theorem za3 (h:DataW.trod enc prog w base spare held fuel 60 cs=some x):∃v L,cs=[v]/\jE xZ 101 w v L/\∀a∈L,a.Ok:=
 z9F.trod ju qf (fun h=>z73 h) h
theorem z8C:∃G F:Field,prog.underlying 57=some (.struct #[G,F])/\(G.type,G.offset)=(54,0)/\(F.type,F.offset)=(55,101):=
 ⟨_,_,underlying57,rfl,rfl⟩
theorem zbt (h:DataW.trod enc prog w base spare held fuel 57 cs=some x):∃c:YL,CtV w (.agg cs.toArray) c:=by
 obtain⟨a0,a3,a6,ab,a7⟩:=z8C;injection ab with a4 M;injection a7 with a5 a9;obtain⟨K,m,_,_,O,N,F⟩:=DataW.trod_struct a6 h;have a8:prog.cellsOf 57=102:=by kernel_rfl
 have aa:prog.cellsOf 54=101:=by kernel_rfl
 have a1:prog.cellsOf 55=1:=by kernel_rfl
 rw[a8]at O;have hx:K.length=2:=N;have I:=F 0 a0 rfl;have G:=F 1 a3 rfl;rw[a4,M,aa,List.getElem?_eq_getElem (by omega)]at I;rw[a5,a9,a1,List.getElem?_eq_getElem (by omega)]at G;obtain⟨a,ha,c0⟩:=z73 I;obtain⟨v,L,c1,a2,J⟩:=za2 G;refine⟨⟨a,L⟩,v,?_,⟨ha,J⟩,a2⟩;have e:cs=cs.drop 0:=rfl;rw[e,zE c0,zE c1,List.drop_eq_nil_of_le (by omega)];unfold JA;simp only[List.append_nil]
end
end
def ctl (c:YL) (s:Value):List Value:=xZ c.att ++ [s]
def bkl (b:kR) (s:Value):List Value:=z4 b.par ++ [.int .i64 b.vi,.int .i64 b.he,.int .i64 b.bo,s]
theorem z7g {c:YL} (s:Value) (h:c.att.Ok):(ctl c s).length=102:=by simp[ctl,yZ h]
theorem XJ {b:kR} (s:Value) (h:b.par.length=32):(bkl b s).length=36:=by simp[bkl,z4,h]
theorem z8D {w:World}{g o:Nat}{c:YL}{s:Value} (F:w.rangeAt g o (ctl c s)) (ho:c.att.Ok):xt (.pointer (some ⟨g,o,none⟩)) w=.ok (.value (.agg (JA c s))) w:=by
 have:=run_loadAt_mid (P:=prog) w g o 57 (ctl c s) _ F z4E rfl (by rw[z7f,z7g s ho]);unfold xt execOp;simp only[Sem.run_bind,this,Result.andThen_ok,Sem.run_pure];rfl
theorem z8E {w:World}{g o:Nat}{a:vU}{s:Value} (F:w.rangeAt g o (axl a s)) (ho:a.Ok):yP (.pointer (some ⟨g,o,none⟩)) w=.ok (.value (.agg (ye a s))) w:=by
 have:=run_loadAt_mid (P:=prog) w g o 52 (axl a s) _ F z0t rfl (by rw[XI,Ym s ho]);unfold yP execOp;simp only[Sem.run_bind,this,Result.andThen_ok,Sem.run_pure];rfl
theorem za5 {w:World}{g o:Nat}{b:kR}{s:Value} (F:w.rangeAt g o (bkl b s)) (ho:b.par.length=32):kq (.pointer (some ⟨g,o,none⟩)) w=.ok (.value (.agg (vS b s))) w:=by
 have:=run_loadAt_mid (P:=prog) w g o 49 (bkl b s) _ F z0h rfl (by rw[XG,XJ s ho]);unfold kq execOp;simp only[Sem.run_bind,this,Result.andThen_ok,Sem.run_pure];rfl
section
open Go.ChangeShapes Go.WideShapes Go.ChangeAt Go.RowKit Go.Deep
structure kr where
 act:Int
 s:ym
 n:Int
 m:Int
 k:Int
 bA:Option Addr
 bc:Nat
 bl:List UInt8
def kr.b (a:kr):Value:=.slice a.bA a.bl.length a.bc
def Xe (a:kr):List Value:=[.int .i64 a.act] ++ (sel a.s ++ [.int .i64 a.n,.int .i64 a.m,.int .i64 a.k,a.b])
def J7 (a:kr):Array Value:=(Xe a).toArray
def zcN:kr:=⟨0,yj,0,0,0,none,0,[]⟩
def QV (w:World) (a:kr):Prop:=a.s.Ok/\((Lit.int .i64 a.n).wf=true/\(Lit.int .i64 a.m).wf=true/\(Lit.int .i64 a.k).wf=true)/\zP w a.b a.bl
theorem zbu (w:World):QV w zcN:=⟨qp,⟨by decide,by decide,by decide⟩,zP.nil w⟩
theorem Q8 {a:kr} (h:a.s.Ok):(Xe a).length=40:=by
 unfold Xe;simp only[List.length_append,jR h,List.length_cons,List.length_nil]
theorem za6 {a:kr} (h:a.s.Ok):(J7 a).size=40:=by
 unfold J7;rw[List.size_toArray,Q8 h]
theorem zbv (a:kr):∀u∈Xe a,u.oneCell'=true:=by
 intro u F;unfold Xe at F;simp only[List.mem_append,List.mem_cons,List.not_mem_nil,or_false]at F;rcases F with rfl|F|rfl|rfl|rfl|rfl
 ·rfl
 ·exact z2Z _ u F
 ·rfl
 ·rfl
 ·rfl
 ·rfl
theorem zcO (a:kr):(Xe a)[0]?=some (.int .i64 a.act):=rfl
theorem z4G {a:kr} (h:a.s.Ok):(Xe a)[36]?=some (.int .i64 a.n)/\(Xe a)[37]?=some (.int .i64 a.m)/\(Xe a)[38]?=some (.int .i64 a.k)/\(Xe a)[39]?=some a.b:=by
 have hl:=jR h;unfold Xe;refine⟨?_,?_,?_,?_⟩ <;>
 ·rw[List.getElem?_append_right (by simp),List.getElem?_append_right (by simp only[List.length_cons,List.length_nil,hl];omega)];simp only[List.length_cons,List.length_nil,hl];rfl
theorem za7 (a:kr) (j:Nat) (u:Value) (h:(sel a.s)[j]?=some u):(Xe a)[1+j]?=some u:=by
 unfold Xe;rw[List.getElem?_append_right (by simp),List.getElem?_append_left (by simpa using (List.getElem?_eq_some_iff.1 h).1)]
 simpa using h
def Qp (w:World) (g:Nat) (a:kr):Prop:=w.heap[g]?=some (.cells (J7 a) 62 (0,0))
section
variable {w w':World}{g:Nat}{a:kr}
theorem Qp.below {B:Nat} (h:Qp w g a) (F:Below B w w') (hg:g<B):Qp w' g a:=(F.block g hg).trans h
theorem Qp.cell (h:Qp w g a) (i:Nat):w.cell? ⟨g,i,none⟩=(Xe a)[i]?:=by
 rw[z7 h i];unfold J7;rw[List.getElem?_toArray]
theorem Qp.cells (h:Qp w g a) (ho:a.s.Ok):w.cell? ⟨g,0,none⟩=some (.int .i64 a.act)/\w.cell? ⟨g,36,none⟩=some (.int .i64 a.n)/\w.cell? ⟨g,37,none⟩=some (.int .i64 a.m)/\w.cell? ⟨g,38,none⟩=some (.int .i64 a.k)/\w.cell? ⟨g,39,none⟩=some a.b:=by
 obtain⟨h1,h2,h3,F⟩:=z4G ho;exact⟨(h.cell 0).trans (zcO a),(h.cell 36).trans h1,(h.cell 37).trans h2,(h.cell 38).trans h3,(h.cell 39).trans F⟩
theorem z0v {g o:Nat}{s:ym} (F:w.rangeAt g o (sel s)) (G:s.Ok):zW (.pointer (some ⟨g,o,none⟩)) w=.ok (.value (.agg (zp s))) w:=by
 have:=run_loadAt_mid (P:=prog) w g o 40 (sel s) _ F xi rfl (by rw[xj,jR G]);unfold zW execOp;simp only[Sem.run_bind,this,Result.andThen_ok,Sem.run_pure];rfl
theorem Qp.sealed (h:Qp w g a) (ho:a.s.Ok):zW (.pointer (some ⟨g,1,none⟩)) w=.ok (.value (.agg (zp a.s))) w:=
 z0v (fun j u F=>by rw[h.cell];exact za7 a j u F) ho
end
noncomputable def z3m (v : Value) (w : World) : Result Next := Sem.run prog (execOp (fun _ => v) { dst := none, op := .load 62 (.tmp 0), type := 0, pos := "", after := #[], guard := none }) w
theorem VZ (r:Operand->Value) (x:Operand) (dst:Option Tmp) (ty:TypeId) (pos:String) (after:Array Edge) (guard:Option (Nat×Bool)) (w:World):
  Sem.run prog (execOp r { dst:=dst,op:=.load 62 x,type:=ty,pos:=pos,after:=after,guard:=guard }) w=z3m (r x) w:=rfl
theorem z8F:prog.underlying 62=some (.struct (prog.fieldsOf 62)):=by kernel_rfl
theorem za8:(prog.info? 62).map (·.size)=some 40:=by kernel_rfl
theorem z6b {w:World}{g o:Nat}{a:kr} (F:w.rangeAt g o (Xe a)) (ho:a.s.Ok):z3m (.pointer (some ⟨g,o,none⟩)) w=.ok (.value (.agg (J7 a))) w:=by
 have:=run_loadAt_mid (P:=prog) w g o 62 (Xe a) _ F z8F rfl (by rw[za8,Q8 ho]);unfold z3m execOp;simp only[Sem.run_bind,this,Result.andThen_ok,Sem.run_pure];rfl
section
variable {H:Type}{enc:TypeId×Value->H}{w:World}{base:Nat}{spare:Nat->Bool}{held:Bool}{fuel:Nat}{cs:List Value}{x:DataW H×List MemPlace}
theorem z6c:∃M I F K G J:Field,prog.underlying 62=some (.struct #[M,I,F,K,G,J])/\(M.type,M.offset)=(3,0)/\(I.type,I.offset)=(40,1)/\(F.type,F.offset)=(3,36)
  /\ (K.type,K.offset)=(3,37)/\(G.type,G.offset)=(3,38)/\(J.type,J.offset)=(33,39):=
 ⟨_,_,_,_,_,_,underlying62,rfl,rfl,rfl,rfl,rfl,rfl⟩
theorem za9 (h:DataW.trod enc prog w base spare held fuel 62 cs=some x):∃a,QV w a/\cs=Xe a:=by
 obtain⟨a9,ae,a1,ao,ad,an,az,aK,aC,am,au,ar,ab⟩:=z6c;injection aK with af a5;injection aC with ax aF;injection am with ak aH;injection au with aE a3;injection ar with aw ag;injection ab with ah ay;obtain⟨a4,m,_,_,a8,a7,F⟩:=DataW.trod_struct az h;have aD:prog.cellsOf 62=40:=by kernel_rfl
 have G:prog.cellsOf 3=1:=by kernel_rfl
 have aj:prog.cellsOf 40=35:=by kernel_rfl
 have aG:prog.cellsOf 33=1:=by kernel_rfl
 rw[aD]at a8;have hx:a4.length=6:=a7;have N:=F 0 a9 rfl;have M:=F 1 ae rfl;have J:=F 2 a1 rfl;have a0:=F 3 ao rfl;have K:=F 4 ad rfl;have O:=F 5 an rfl;rw[af,a5,G,List.getElem?_eq_getElem (by omega)]at N;rw[ax,aF,aj,List.getElem?_eq_getElem (by omega)]at M;rw[ak,aH,G,List.getElem?_eq_getElem (by omega)]at J;rw[aE,a3,G,List.getElem?_eq_getElem (by omega)]at a0;rw[aw,ag,G,List.getElem?_eq_getElem (by omega)]at K;rw[ah,ay,aG,List.getElem?_eq_getElem (by omega)]at O;obtain⟨n0,c0,_,_⟩:=DataW.trod_int underlying3 N;obtain⟨s1,aB,c1⟩:=zbm M;obtain⟨n2,a6,_,aL⟩:=DataW.trod_int underlying3 J;obtain⟨a2,aa,_,av⟩:=DataW.trod_int underlying3 a0;obtain⟨al,aI,_,aA⟩:=DataW.trod_int underlying3 K;obtain⟨aM,aJ,ap,I⟩:=z5p O;obtain⟨aq,ai,rfl⟩:=I.shape;refine⟨⟨n0,s1,n2,a2,al,aq,ai,aJ⟩,⟨aB,⟨aL,av,aA⟩,I⟩,?_⟩;have e:cs=cs.drop 0:=rfl;rw[e,zE c0,zE c1,zE a6,zE aa,zE aI,zE ap,List.drop_eq_nil_of_le (by omega)];unfold Xe kr.b;simp only[List.append_nil,List.cons_append,List.nil_append]
end
def zdq (L:List kr):Prop:=L.length<=40/\∀j (h:j<L.length),L[j].bl.length<=1200
def zaa (L:List kr) (w:World) (e:Ending) (w':World):Prop:=∃q,e=.returned (.bool q)/\(q=true->zdq L)/\w=w'
theorem z4H (v:Value) (L:List kr) (w:World) (hv:jE Xe 40 w v L) (ho:∀a∈L,QV w a):
  Calls prog 22 #[v] w (zaa L w):=by
 obtain⟨A,c,rfl⟩:=hv.shape;have hr:=hv.at_.2.2.2;have HR:=z0 hr;obtain⟨N,HN⟩:=nm (L.length:Nat)
 have HCEL:Hd (∀k (h:k<L.length),∃b off,A=some ⟨b,off,none⟩/\b<w.heap.size/\w.cell? ⟨b,off+k*40+39,none⟩=some L[k].b):=z0 (fun k hk=>by
  obtain⟨b,off,e,hb,hc⟩:=hr (by omega);refine⟨b,off,e,hb,?_⟩
  exact hc k hk 39 _ (z4G (ho _ (List.getElem_mem hk)).1).2.2.2)
 rw[HN.o];clear hv ho hr HR;go_enter func22,ntmps22;go_wp2;go_loopw [3] (fun si wr=>∃k:Nat,k<=N/\k<=41/\si=.int .i64 k/\Hd (∀j (h:j<L.length),j<k->L[j].bl.length<=1200)/\wr=w) (fun si _=>N - (intOf si).toNat)
 case atStart=>exact⟨0,Nat.zero_le _,Nat.zero_le _,rfl,z0 (fun _ _ h=>absurd h (Nat.not_lt_zero _)),rfl⟩
 case round=>
  obtain⟨k,hk,hk1,rfl,HB,rfl⟩:=hrel;by_cases hlt:k<N
  ·have hlt':(k:Int)<(N:Int):=by omega
   by_cases h40:k<=40
   ·have h40':(k:Int)<=40:=by omega
    have hkL:k<L.length:=by rw[HN.o];exact hlt
    obtain⟨b,off,rfl,hb,hc⟩:=HCEL.o k hkL;obtain⟨M,HM⟩:=nm (L[k].bl.length:Nat);unfold kr.b at hc;rw[HM.o]at hc;have HLT:=z0 hlt;have HK1:=z0 hk1;by_cases hM:(1200:Int)<(M:Int)
    ·go_wp2;go_ret;exact⟨_,rfl,(fun h=>by cases h),rfl⟩
    ·have HMM:=z0 hM;go_wp2;go_round
     case rel=>exact⟨k+1,by omega,by omega,by go_num,z0 (fun j hj hjk=>by
      by_cases e:j=k
      ·subst e;have:=HMM.o;have:=HM.o;omega
      ·exact HB.o j hj (by omega)),by trivial⟩
     case measure=>simp[intOf];omega
   ·have h40':¬(k:Int)<=40:=by omega
    have hN:¬(N:Int)<=40:=by omega
    clear hk hk1;go_wp2;go_ret;exact⟨_,rfl,(fun h=>by cases h),rfl⟩
  ·have hlt':¬(k:Int)<(N:Int):=by omega
   obtain rfl:k=N:=by omega
   by_cases h40:(k:Int)<=40
   ·go_wp2;go_ret;exact⟨_,rfl,(fun _=>⟨by have:=HN.o;omega,fun j hj=>HB.o j hj (by have:=HN.o;omega)⟩),rfl⟩
   ·go_wp2;go_ret;exact⟨_,rfl,(fun h=>by cases h),rfl⟩
end
end Go.Proofs.YtjlinimnnbfmaaaGreatDoor
