/-
  AcCodeRight CkWords CkCodeA CkArg CkRefA: what each of them says stands at its head.
-/
import Derived.Test.YtjlinimnnbfmaaaGreatDoorPlBs13
import Derived.Test.YtjlinimnnbfmaaaGreatDoorPlBs15
import Derived.Test.YtjlinimnnbfmaaaGreatDoorPlBs15
import Derived.Deep.CutBlock
set_option maxRecDepth 20000
set_option maxHeartbeats 6400000
namespace Go.Proofs.YtjlinimnnbfmaaaGreatDoor
open Go.RowKit Go.Proofs.Tryz
section
attribute [local go_sem ↓] zO zf
theorem z6t {n:Int}{a:vU} (h:QP a=false):xm n a=false:=by
 unfold xm;rw[h,Bool.false_and,Bool.and_false]
theorem z6u {n:Int}{a:vU} (h:QP a=true):xm n a=(decide (a.bo<=n) && (decide (a.fr.length=qC n) && (decide (z0n a.fr<=n) && decide (a.tg=ZW a)))):=by
 have hp:=(xk.1 h).2.2.2.2.2.2.2;unfold xm;rw[h,Bool.true_and,Bool.eq_iff_iff];simp only[Bool.and_eq_true,decide_eq_true_eq];constructor
 ·rintro⟨_,h1,h2,h3⟩;exact⟨h1,h2,h3⟩
 ·rintro⟨h1,h2,h3⟩;exact⟨by omega,h1,h2,h3⟩
theorem z6v:z8A:=by
 intro n v a w hwn hv hlen hK;have HV:=z0 (fun W (h:Below w.heap.size w W)=>hv.below h);obtain⟨s,rfl,ho,ht⟩:=hv;have hb0:Below w.heap.size w (w.alloc (.cells (ye a s) 52)):=Ba;have hX:=yr.new w a s;obtain⟨A,k,rfl⟩:=ht.shape;have HT:=z0 (fun W (h:Below w.heap.size w W)=>ht.below h);have HLEN:=z0 hlen;obtain⟨l,HFR⟩:=nm (a.fr);rw[HFR.o]at hX hb0 HV HT HLEN⊢;obtain⟨L,HL⟩:=nm (l.length:Nat);rw[HL.o]at hX hb0 HV HT HLEN⊢;obtain⟨q,HQ⟩:=nm (qC n);obtain⟨m,HM⟩:=nm (QP a);obtain⟨tq,HTQ⟩:=nm (decide (a.tg=ZW a));obtain⟨la,HLA⟩:=nm (z0n l);obtain⟨ans,HAN⟩:=nm (xm n a);have HNO:Hd (m=false->ans=false):=z0 (fun h=>by rw[<-HAN.o];exact z6t (HM.o.trans h));have HYES:Hd (m=true->ans=(decide (a.bo<=n) && (decide (L=q) && (decide (la<=n) && tq)))):=z0 (fun h=>by rw[<-HAN.o,z6u (HM.o.trans h),HFR.o,HL.o,HQ.o,HLA.o,HTQ.o])
 have HLP:Hd (m=true->0<L):=z0 (fun h=>by
  have:=(xk.1 (HM.o.trans h)).2.2.2.2.2.2.2;rw[HFR.o,HL.o]at this
  omega)
 rw[HAN.o]
 have HQU:Hd (∀W,Calls prog 71 #[.int .i64 n] W fun e w'=>e=.returned (.int .i64 (q:Int))/\W=w'):=z0 (fun W=>by
  have:=JV n W hwn;rw[HQ.o]at this
  exact this)
 obtain⟨C,HC⟩:=nm (ye a (.slice A L k));rw[HC.o]at hb0 HV⊢
 have HFI:Hd (∀W,Below w.heap.size w W->Calls prog 160 #[.agg C] W fun e w'=>e=.returned (.bool m)/\Below W.heap.size W w'):=z0 (fun W h=>by
  have:=z6i _ a W (HV.o W h) (by rw[HFR.o,HL.o];exact HLEN.o);rw[HM.o]at this
  exact this)
 obtain⟨B,HBB⟩:=nm (jo a)
 have HTD:Hd (m=true->∀W,Below w.heap.size w W->Calls prog 78 #[.agg C] W fun e w'=>∃x,e=.returned x/\ql W.heap.size w' x B/\Below W.heap.size W w'):=z0 (fun h W hb=>by
  have:=Ys _ a W (HV.o W hb) (HM.o.trans h);rw[HBB.o]at this
  exact this)
 have HKC:Hd (m=true->∀v gp c W,Below w.heap.size w W->gp<W.heap.size->W.cell? ⟨gp,0,none⟩=some v->zP W v B->Calls prog 104 #[.int .i64 a.bo,.int .u8 2,.agg (z2 a.tg),.slice (some ⟨gp,0,none⟩) 1 c] W fun e w'=>e=.returned (.bool tq)/\Below W.heap.size W w'):=z0 (fun h v gp c W hb h1 h2 h3=>by
  have hm:QP a=true:=HM.o.trans h;have hlen:=Ql ho hm;have hn:zS a.bo=true:=by
   obtain⟨_,j1,j2,_⟩:=xk.1 hm;unfold zS;exact decide_eq_true ⟨j1,j2⟩
  have:=V3 a.bo 2 a.tg ho.tg v B gp c W h1 h2 h3 (by rw[<-HBB.o];omega) (hK.below hb);rw[hn,Bool.true_and,<-HBB.o]at this;rw[<-HTQ.o]
  exact this)
 obtain⟨G,HG⟩:=nm (z2 a.tg);rw[HG.o]at HKC;obtain⟨bo,HBO⟩:=nm (a.bo);rw[HBO.o]at HKC HYES
 have HX:Hd (∀W:World,W.heap[w.heap.size]?=some (.cells C 52 (0,0))->yP (.pointer (some ⟨w.heap.size,0,none⟩)) W=.ok (.value (.agg C)) W/\W.cell? ⟨w.heap.size,0,none⟩=some (.int .i64 bo)/\W.cell? ⟨w.heap.size,35,none⟩=some (.slice A L k)/\qE (.pointer (some ⟨w.heap.size,36,none⟩)) W=.ok (.value (.agg G)) W):=z0 (fun W h=>by
  have h2:=h;rw[<-HC.o]at h2;have hBX:yr W w.heap.size a (.slice A L k):=h2;have h3:=hBX.ints.1;rw[HBO.o]at h3;refine⟨qH h (by rw[<-HC.o];exact zT _ ho),h3,hBX.fr ho,?_⟩;rw[<-HG.o]
  exact zD (hBX.tg ho) ho.tg)
 have hr0:(w.alloc (.cells C 52)).heap[w.heap.size]?=some (.cells C 52 (0,0)):=Xh w _;clear ho ht hK hwn hX hlen;go_enter func115,ntmps115;go_upto_region 1 with(fail)
 generalize (w.alloc (.cells C 52))=w0 at *;have hl0:=Lb hr0;have HXW:=z0 (fun W (h:Below w0.heap.size w0 W)=>HX.o W ((h.block _ hl0).trans hr0));have hbd:Below w0.heap.size w0 w0.drew:=(Below.refl _ _).drew;have HB0:=z0 hb0;clear hr0 hl0 hb0;refine Rh (S:=fun W=>yP (.pointer (some ⟨w.heap.size,0,none⟩)) W=.ok (.value (.agg C)) W/\W.cell? ⟨w.heap.size,0,none⟩=some (.int .i64 bo)/\W.cell? ⟨w.heap.size,35,none⟩=some (.slice A L k)) (by kernel_rfl) (⟨(HXW.o _ hbd).1,(HXW.o _ hbd).2.1,(HXW.o _ hbd).2.2.1⟩) (fun hHeld=>?_);refine' tk (i:=0) (v:=_) rfl (fun W hW=>hW.1) ?_;try simp only[zx]
 refine qc 1 (h:=fun K hK=>?_);go_simp;refine(HFI.o w0.drew (HB0.o.trans (hbd.mono HB0.o.size))).mono ?_;rintro e w2 ⟨rfl,hb2'⟩;have hb2:=hbd.trans hb2';refine hK.out _ _ (⟨(HXW.o _ hb2).1,(HXW.o _ hb2).2.1,(HXW.o _ hb2).2.2.1⟩) (fun hHeld=>?_);clear hK K;try simp only[zx]
 cases m with
 |false=>
  obtain rfl:ans=false:=HNO.o rfl;refine' z5 2 (h:=z5 3 (h:=tn 4 (h:=tn 5 (h:=tn 6 (h:=tn 7 (h:=z5 8 (h:=z5 9 (h:=tn 10 (h:=tn 11 (h:=tn 12 (h:=tn 13 (h:=?_))))))))))));refine' tn 14 (h:=tn 15 (h:=z5 16 (h:=?_)));refine wpAnyH_done (by kernel_rfl) ?_ _;go_wp2;go_ret;exact⟨rfl,HB0.o.trans (hb2.mono HB0.o.size)⟩
 |true=>
  have HANS:=z0 (HYES.o rfl);have HLQ:=z0 (HLP.o rfl);have HTD2:=z0 (HTD.o rfl);have HKC2:=z0 (HKC.o rfl);clear HYES HNO HTD HKC HLP;by_cases hbn:n<bo
  ·obtain rfl:ans=false:=by rw[HANS.o,decide_eq_false (by omega)];rfl
   refine' z5 2 (h:=z5 3 (h:=z5 4 (h:=vR 5 (h:=z5 6 (h:=z5 7 (h:=z5 8 (h:=z5 9 (h:=tn 10 (h:=tn 11 (h:=tn 12 (h:=tn 13 (h:=?_))))))))))));refine' tn 14 (h:=tn 15 (h:=z5 16 (h:=?_)));refine wpAnyH_done (by kernel_rfl) ?_ _;go_wp2;go_ret;exact⟨rfl,HB0.o.trans (hb2.mono HB0.o.size)⟩
  ·have hbn1:¬bo > n:=by omega
   refine' z5 2 (h:=z5 3 (h:=z5 4 (h:=vR 5 (h:=z5 6 (h:=z5 7 (h:=z5 8 (h:=z5 9 (h:=z5 10 (h:=vR 11 (h:=z5 12 (h:=z5 13 (h:=?_))))))))))));refine qc 14 (h:=fun K hK=>?_);go_simp;refine(HQU.o w2).mono ?_;rintro e w3 ⟨rfl,rfl⟩;refine hK.out _ _ (⟨(HXW.o _ hb2).1,(HXW.o _ hb2).2.1,(HXW.o _ hb2).2.2.1⟩) (fun hHeld=>?_);clear hK K;try simp only[zx]
   by_cases hl:L=q
   case neg=>
    have hl1:((L:Int) != (q:Int))=true:=by simp;omega
    obtain rfl:ans=false:=by rw[HANS.o,decide_eq_false hl,Bool.false_and,Bool.and_false]
    refine' z5 15 (h:=z5 16 (h:=?_));refine wpAnyH_done (by kernel_rfl) ?_ _;clear hl;go_wp2;go_ret;exact⟨rfl,HB0.o.trans (hb2.mono HB0.o.size)⟩
   have hl1:((L:Int) != (q:Int))=false:=by simp[hl]
   refine' z5 15 (h:=z5 16 (h:=?_));refine wpAnyH_done (by kernel_rfl) ?_ _;have HANS2:Hd (ans=(decide (la<=n) && tq)):=z0 (by rw[HANS.o,decide_eq_true hl,decide_eq_true (by omega)];rfl);have HB2:=z0 (HB0.o.trans (hb2.mono HB0.o.size))
   have hlast:Hd (∀W,Below w.heap.size w W->∃g o,A=some ⟨g,o,none⟩/\W.cell? ⟨g,o+(L - 1),none⟩=some (.int .i64 la)):=z0 (fun W h=>by
    have hp:=HLQ.o;have hlp:0<l.length:=by rw[HL.o];exact hp
    obtain⟨g,og,e,_,hcl⟩:=(HT.o W h).at_.2.2.2 hlp;refine⟨g,og,e,?_⟩;have:=hcl (L - 1) (by rw[HL.o];omega) 0 _ rfl;rw[Nat.mul_one,Nat.add_zero]at this;rw[this,<-HLA.o,z4r hlp]
    simp only[HL.o])
   clear hHeld hl hbn hbn1 hl1 HANS;go_upto_region 3 with(fail)
   obtain⟨g,og,rfl,cl2⟩:=hlast.o w2.drew HB2.o.drew
   have HLT:Hd (∀W,Below w.heap.size w W->W.cell? ⟨g,og+(L - 1),none⟩=some (.int .i64 la)):=z0 (fun W h=>by
    obtain⟨g',og',e,hc⟩:=hlast.o W h;injection e with e;injection e with e1 e2 _;subst e1 e2
    exact hc)
   have hbd2:=hb2.drew;have q1:IntKind.i64.wrap ((L:Int) - 1)=((L - 1:Nat):Int):=by have:=HLQ.o;have:=HLEN.o;rw[IntKind.wrap_i64];omega
   have q2:((L - 1:Nat):Int)<(L:Int):=by have:=HLQ.o;omega
   have q3:(0:Int)<=((L - 1:Nat):Int):=by omega
   have q4:((L - 1:Nat):Int).toNat=L - 1:=Int.toNat_natCast _;have q5:wrap64 ((L:Int) - 1)=((L - 1:Nat):Int):=by have:=HLQ.o;have:=HLEN.o;unfold wrap64;omega
   have q6:L - 1<L:=by have:=HLQ.o;omega
   clear cl2;obtain⟨L1,HL1⟩:=nm (L - 1:Nat);rw[HL1.o]at q1 q2 q3 q4 q5 q6 HLT;have HS3:Hd (∀W,Below w0.heap.size w0 W->(yP (.pointer (some ⟨w.heap.size,0,none⟩)) W=.ok (.value (.agg C)) W/\W.cell? ⟨w.heap.size,0,none⟩=some (.int .i64 bo)/\W.cell? ⟨w.heap.size,35,none⟩=some (.slice (some ⟨g,og,none⟩) L k)/\qE (.pointer (some ⟨w.heap.size,36,none⟩)) W=.ok (.value (.agg G)) W)/\W.cell? ⟨g,og+L1,none⟩=some (.int .i64 la)):=z0 (fun W h=>⟨HXW.o W h,HLT.o W (HB0.o.trans (h.mono HB0.o.size))⟩);refine Rh (S:=fun W=>(yP (.pointer (some ⟨w.heap.size,0,none⟩)) W=.ok (.value (.agg C)) W/\W.cell? ⟨w.heap.size,0,none⟩=some (.int .i64 bo)/\W.cell? ⟨w.heap.size,35,none⟩=some (.slice (some ⟨g,og,none⟩) L k)/\qE (.pointer (some ⟨w.heap.size,36,none⟩)) W=.ok (.value (.agg G)) W)/\W.cell? ⟨g,og+L1,none⟩=some (.int .i64 la)) (by kernel_rfl) (HS3.o _ hbd2) (fun hHeld=>?_);refine' z5 0 (h:=?_);refine' tk (i:=1) (v:=_) rfl ?_ ?_;rotate_left
   ·(intro W hW;(try dsimp only at hW);obtain⟨⟨_,hW1,hW2,_⟩,hW3⟩:=hW;go_simp;first|done|with_reducible rfl)
   try simp only[zx]
   refine' z5 2 (h:=?_);refine' tk (i:=3) (v:=_) rfl ?_ ?_;rotate_left
   ·(intro W hW;(try dsimp only at hW);obtain⟨⟨_,hW1,hW2,_⟩,hW3⟩:=hW;go_simp;first|done|with_reducible rfl)
   try simp only[zx]
   refine' z5 4 (h:=z5 5 (h:=z5 6 (h:=?_)));refine' tk (i:=7) (v:=_) rfl ?_ ?_;rotate_left
   ·(intro W hW;(try dsimp only at hW);obtain⟨⟨_,hW1,hW2,_⟩,hW3⟩:=hW;go_simp;first|done|with_reducible rfl)
   try simp only[zx]
   refine' z5 8 (h:=?_);by_cases hlan:la<=n
   case neg=>
    obtain rfl:ans=false:=by rw[HANS2.o,decide_eq_false hlan];rfl
    refine' z5 9 (h:=z5 10 (h:=tn 11 (h:=tn 12 (h:=tn 13 (h:=tn 14 (h:=tn 15 (h:=tn 16 (h:=tn 17 (h:=tn 18 (h:=z5 19 (h:=z5 20 (h:=?_))))))))))));refine wpAnyH_done (by kernel_rfl) ?_ _;go_wp2;go_ret;exact⟨rfl,HB2.o.drew⟩
   obtain rfl:ans=tq:=by rw[HANS2.o,decide_eq_true hlan];rfl
   refine' z5 9 (h:=z5 10 (h:=z5 11 (h:=?_)));refine' tk (i:=12) (v:=_) rfl ?_ ?_;rotate_left
   ·(intro W hW;(try dsimp only at hW);obtain⟨⟨_,hW1,hW2,_⟩,hW3⟩:=hW;go_simp;first|done|with_reducible rfl)
   try simp only[zx]
   refine' z5 13 (h:=?_);refine' tk (i:=14) (v:=_) rfl (fun W hW=>hW.1.2.2.2) ?_;try simp only[zx]
   refine' tk (i:=15) (v:=_) rfl (fun W hW=>hW.1.1) ?_;try simp only[zx]
   refine qc 16 (h:=fun K hK=>?_);go_simp;refine(HTD2.o w2.drew HB2.o.drew).mono ?_;rintro e w3 ⟨v3,rfl,ho3,hb3'⟩;have hb3:=hbd2.trans (hb3'.mono hbd2.size);have hv3:=ho3.byt;obtain⟨A3,c3,rfl⟩:=hv3.shape;refine hK.out _ _ (HS3.o _ hb3) (fun hHeld=>?_);clear hK K;try simp only[zx]
   have hb4:Below w0.heap.size w0 (w3.alloc (.cells #[.slice A3 B.length c3] 33)):=hb3.alloc hb3.size _;refine qc 17 (h:=fun K hK=>?_);go_simp;refine hK.out _ _ (HS3.o _ hb4) (fun hHeld=>?_);clear hK K;try simp only[zx]
   refine qc 18 (h:=fun K hK=>?_);go_simp;refine(HKC2.o (.slice A3 B.length c3) w3.heap.size 1 (w3.alloc (.cells #[.slice A3 B.length c3] 33)) (HB0.o.trans (hb4.mono HB0.o.size)) (by simp) (by simp) (hv3.alloc _)).mono ?_;rintro e w5 ⟨rfl,hb5'⟩;have hb5:=hb4.trans (hb5'.mono hb4.size);refine hK.out _ _ (HS3.o _ hb5) (fun hHeld=>?_);clear hK K;try simp only[zx]
   refine' z5 19 (h:=z5 20 (h:=?_));refine wpAnyH_done (by kernel_rfl) ?_ _;go_wp2;go_ret;exact⟨rfl,HB0.o.trans (hb5.mono HB0.o.size)⟩
end
def Q9 (t:yw):Value:=.tuple #[.agg (zp t.s),.agg (zy t.a),.int .i64 t.e]
def vo (t:yw) (w:World) (e:Ending) (w':World):Prop:=e=.returned (Q9 t)/\Below w.heap.size w w'
theorem zB {M:Func}{p q s:Tmp} (h:M.results=#[.cell p 40,.cell q 54,.tmp s]) (tmps:Array Value) (w:World) (J F:Nat) (N K:TypeId) (G I:Array Value) (v:Value)
  (hp:tmps.getD p undef=.pointer (some ⟨J,0,none⟩)) (hq:tmps.getD q undef=.pointer (some ⟨F,0,none⟩)) (O:tmps.getD s undef=v) (h1:w.heap[J]?=some (.cells G N (0,0))) (h2:w.heap[F]?=some (.cells I K (0,0))) (hx:G.size=35) (a3:I.size=101):
  (results M tmps).run prog w=.ok (.tuple #[.agg G,.agg I,v]) w:=by
 have a1:tmps[p]?.getD undef=.pointer (some ⟨J,0,none⟩):=by simpa using hp
 have a2:tmps[q]?.getD undef=.pointer (some ⟨F,0,none⟩):=by simpa using hq
 have a0:tmps[s]?.getD undef=v:=by simpa using O
 have r1:=run_loadVar_row (P:=prog) w J N 40 G (0,0) _ h1 xi rfl (by rw[xj,hx]);have r2:=run_loadVar_row (P:=prog) w F K 54 I (0,0) _ h2 jF rfl (by rw[vE,a3]);simp[results,h,a1,a2,a0,asAddr,r1,r2]
theorem z6w (a:y8) (ho:a.Ok) (h:List UInt8) (hl:h.length=32):JG (zy a) 4 (z4 h)=zy { a with ha:=h }:=
 yI (z4 h) [.int .i64 a.bo,.int .i64 a.ki,.int .i64 a.vi,.int .i64 a.ph] (z4 a.ha) (Value.int .i64 a.pv :: (z4 a.pa ++ z4 a.tg)) (by rw[z6,z6,ho.ha,hl])
theorem z6x (a:y8) (ho:a.Ok) (h:List UInt8) (hl:h.length=32):JG (zy a) 37 (z4 h)=zy { a with pa:=h }:=by
 have e:=yI (z4 h) ([.int .i64 a.bo,.int .i64 a.ki,.int .i64 a.vi,.int .i64 a.ph] ++ (z4 a.ha ++ [.int .i64 a.pv])) (z4 a.pa) (z4 a.tg) (by rw[z6,z6,ho.pa,hl]);have hp:([.int .i64 a.bo,.int .i64 a.ki,.int .i64 a.vi,.int .i64 a.ph] ++ (z4 a.ha ++ [.int .i64 a.pv]):List Value).length=37:=by simp only[List.length_append,z6,ho.ha,List.length_cons,List.length_nil]
 rw[hp]at e;unfold zy;rw[z35,z35];exact e
theorem zah (s:ym) (ho:s.Ok) (h:List UInt8) (hl:h.length=32):JG (zp s) 3 (z4 h)=zp { s with pa:=h }:=by
 have e:=yI (z4 h) [.int .i64 s.vi,.int .i64 s.ph,.int .i64 s.pv] (z4 s.pa) [] (by rw[z6,z6,hl];exact ho.symm ▸ rfl);simp only[List.append_nil]at e;exact e
theorem zcR (s:ym) (n:Int):(zp s).setIfInBounds 0 (.int .i64 n)=zp { s with vi:=n }:=rfl
theorem zcS (s:ym) (n:Int):(zp s).setIfInBounds 1 (.int .i64 n)=zp { s with ph:=n }:=rfl
theorem zcT (s:ym) (n:Int):(zp s).setIfInBounds 2 (.int .i64 n)=zp { s with pv:=n }:=rfl
theorem zcU (a:y8) (n:Int):(zy a).setIfInBounds 1 (.int .i64 n)=zy { a with ki:=n }:=rfl
theorem zcV (a:y8) (n:Int):(zy a).setIfInBounds 2 (.int .i64 n)=zy { a with vi:=n }:=rfl
theorem zcW (a:y8) (n:Int):(zy a).setIfInBounds 3 (.int .i64 n)=zy { a with ph:=n }:=rfl
noncomputable def K4 (u v x y:Value) (w:World):Result Next:=Sem.run prog (execOp (fun z=>match z with
 | .tmp 0=>u
 | .tmp 1=>v
 | .tmp 2=>x
 | _ => y) { dst := none, op := .build 40 #[(0, .tmp 0), (1, .tmp 1), (2, .tmp 2), (3, .tmp 3)], type := 0, pos := "", after := #[], guard := none }) w
theorem yQ (r:Operand->Value) (x0 x1 x2 F:Operand) (dst:Option Tmp) (ty:TypeId) (pos:String) (after:Array Edge) (guard:Option (Nat×Bool)) (w:World):
  Sem.run prog (execOp r { dst:=dst,op:=.build 40 #[(0,x0),(1,x1),(2,x2),(3,F)],type:=ty,pos:=pos,after:=after,guard:=guard }) w=K4 (r x0) (r x1) (r x2) (r F) w:=by
 unfold K4 execOp;simp
theorem Jc (v p q:Int) (h:List UInt8) (hl:h.length=32) (w:World):K4 (.int .i64 v) (.int .i64 p) (.int .i64 q) (.agg (z2 h)) w=.ok (.value (.agg (zp ⟨v,p,q,h⟩))) w:=by
 have F:(z2 h).size=32:=by rw[zH,hl]
 have G:(z2 h).zipIdx=((z4 h).zipIdx).toArray:=by simp[z2]
 unfold K4;go_simp;exact(yp (z4 h) 0 3 _).trans (zah ⟨v,p,q,qx⟩ rfl h hl)
noncomputable def K5 (u v:Value) (w:World):Result Next:=Sem.run prog (execOp (fun z=>match z with
 | .tmp 0=>u
 | _ => v) { dst := none, op := .build 54 #[(5, .tmp 0), (6, .tmp 1)], type := 0, pos := "", after := #[], guard := none }) w
theorem yR (r:Operand->Value) (x0 x1:Operand) (dst:Option Tmp) (ty:TypeId) (pos:String) (after:Array Edge) (guard:Option (Nat×Bool)) (w:World):
  Sem.run prog (execOp r { dst:=dst,op:=.build 54 #[(5,x0),(6,x1)],type:=ty,pos:=pos,after:=after,guard:=guard }) w=K5 (r x0) (r x1) w:=by
 unfold K5 execOp;simp
theorem z4W (q:Int) (h:List UInt8) (hl:h.length=32) (w:World):K5 (.int .i64 q) (.agg (z2 h)) w=.ok (.value (.agg (zy ⟨0,0,0,0,qx,q,h,qx⟩))) w:=by
 have F:(z2 h).size=32:=by rw[zH,hl]
 have G:(z2 h).zipIdx=((z4 h).zipIdx).toArray:=by simp[z2]
 unfold K5;go_simp;have e:List.foldl (fun (cs:Array Value) (x:Value×Nat)=>cs.setIfInBounds (37+x.2) x.1) (Tryz.zeroCells54.setIfInBounds 36 (Value.int .i64 q)) (z4 h).zipIdx=zy ⟨0,0,0,0,qx,q,h,qx⟩:=(yp (z4 h) 0 37 _).trans (z6x ⟨0,0,0,0,qx,q,qx,qx⟩ ⟨rfl,rfl,rfl⟩ h hl);rw[e]
noncomputable def K6 (x u v:Value) (w:World):Result Next:=Sem.run prog (execOp (fun z=>match z with
 | .tmp 0=>x
 | .tmp 1=>u
 | _ => v) { dst := none, op := .build 54 #[(4, .tmp 0), (5, .tmp 1), (6, .tmp 2)], type := 0, pos := "", after := #[], guard := none }) w
theorem yS (r:Operand->Value) (x0 x1 x2:Operand) (dst:Option Tmp) (ty:TypeId) (pos:String) (after:Array Edge) (guard:Option (Nat×Bool)) (w:World):
  Sem.run prog (execOp r { dst:=dst,op:=.build 54 #[(4,x0),(5,x1),(6,x2)],type:=ty,pos:=pos,after:=after,guard:=guard }) w=K6 (r x0) (r x1) (r x2) w:=by
 unfold K6 execOp;simp
theorem z4X (b k v p q:Int) (g h:List UInt8) (hg:g.length=32) (hl:h.length=32):List.foldl (fun (cs:Array Value) (x:Value×Nat)=>cs.setIfInBounds (37+x.2) x.1) ((List.foldl (fun (cs:Array Value) (x:Value×Nat)=>cs.setIfInBounds (4+x.2) x.1) (zy ⟨b,k,v,p,qx,0,qx,qx⟩) (z4 g).zipIdx).setIfInBounds 36 (Value.int .i64 q)) (z4 h).zipIdx=zy ⟨b,k,v,p,g,q,h,qx⟩:=by
 have G:=(yp (z4 g) 0 4 _).trans (z6w ⟨b,k,v,p,qx,0,qx,qx⟩ ⟨rfl,rfl,rfl⟩ g hg);have F:=(yp (z4 h) 0 37 _).trans (z6x ⟨b,k,v,p,g,q,qx,qx⟩ ⟨hg,rfl,rfl⟩ h hl);have I:=zcH (a:=⟨b,k,v,p,g,0,qx,qx⟩) ⟨hg,rfl,rfl⟩ q;rw[G,I];exact F
theorem Xi (q:Int) (g h:List UInt8) (hg:g.length=32) (hl:h.length=32) (w:World):K6 (.agg (z2 g)) (.int .i64 q) (.agg (z2 h)) w=.ok (.value (.agg (zy ⟨0,0,0,0,g,q,h,qx⟩))) w:=by
 have I:(z2 h).size=32:=by rw[zH,hl]
 have J:(z2 h).zipIdx=((z4 h).zipIdx).toArray:=by simp[z2]
 have G:(z2 g).size=32:=by rw[zH,hg]
 have K:(z2 g).zipIdx=((z4 g).zipIdx).toArray:=by simp[z2]
 unfold K6;go_simp;have e:List.foldl (fun (cs:Array Value) (x:Value×Nat)=>cs.setIfInBounds (37+x.2) x.1) ((List.foldl (fun (cs:Array Value) (x:Value×Nat)=>cs.setIfInBounds (4+x.2) x.1) Tryz.zeroCells54 (z4 g).zipIdx).setIfInBounds 36 (Value.int .i64 q)) (z4 h).zipIdx=zy ⟨0,0,0,0,g,q,h,qx⟩:=z4X 0 0 0 0 q g h hg hl;rw[e];have s1:(List.foldl (fun (cs:Array Value) (x:Value×Nat)=>cs.setIfInBounds (4+x.2) x.1) Tryz.zeroCells54 (z4 g).zipIdx).size=101:=by
  have F:List.foldl (fun (cs:Array Value) (x:Value×Nat)=>cs.setIfInBounds (4+x.2) x.1) Tryz.zeroCells54 (z4 g).zipIdx=zy ⟨0,0,0,0,g,0,qx,qx⟩:=(yp (z4 g) 0 4 _).trans (z6w ⟨0,0,0,0,qx,0,qx,qx⟩ ⟨rfl,rfl,rfl⟩ g hg);rw[F];exact zg ⟨hg,rfl,rfl⟩
 rw[if_neg (by rw[s1];omega),if_neg (by rw[s1];omega)];rfl
noncomputable def K7 (k v p u x:Value) (w:World):Result Next:=Sem.run prog (execOp (fun z=>match z with
 | .tmp 0=>k
 | .tmp 1=>v
 | .tmp 2=>p
 | .tmp 3=>u
 | _ => x) { dst := none, op := .build 54 #[(1, .tmp 0), (2, .tmp 1), (3, .tmp 2), (5, .tmp 3), (6, .tmp 4)], type := 0, pos := "", after := #[], guard := none }) w
theorem yT (r:Operand->Value) (x0 x1 x2 G F:Operand) (dst:Option Tmp) (ty:TypeId) (pos:String) (after:Array Edge) (guard:Option (Nat×Bool)) (w:World):
  Sem.run prog (execOp r { dst:=dst,op:=.build 54 #[(1,x0),(2,x1),(3,x2),(5,G),(6,F)],type:=ty,pos:=pos,after:=after,guard:=guard }) w=K7 (r x0) (r x1) (r x2) (r G) (r F) w:=by
 unfold K7 execOp;simp
theorem z4Y (k v p q:Int) (h:List UInt8) (hl:h.length=32) (w:World):K7 (.int .i64 k) (.int .i64 v) (.int .i64 p) (.int .i64 q) (.agg (z2 h)) w=.ok (.value (.agg (zy ⟨0,k,v,p,qx,q,h,qx⟩))) w:=by
 have F:(z2 h).size=32:=by rw[zH,hl]
 have G:(z2 h).zipIdx=((z4 h).zipIdx).toArray:=by simp[z2]
 unfold K7;go_simp;have e:List.foldl (fun (cs:Array Value) (x:Value×Nat)=>cs.setIfInBounds (37+x.2) x.1) ((((Tryz.zeroCells54.setIfInBounds 1 (Value.int .i64 k)).setIfInBounds 2 (Value.int .i64 v)).setIfInBounds 3 (Value.int .i64 p)).setIfInBounds 36 (Value.int .i64 q)) (z4 h).zipIdx=zy ⟨0,k,v,p,qx,q,h,qx⟩:=(yp (z4 h) 0 37 _).trans (z6x ⟨0,k,v,p,qx,q,qx,qx⟩ ⟨rfl,rfl,rfl⟩ h hl);rw[e]
noncomputable def K8 (k v p g u x:Value) (w:World):Result Next:=Sem.run prog (execOp (fun z=>match z with
 | .tmp 0=>k
 | .tmp 1=>v
 | .tmp 2=>p
 | .tmp 3=>g
 | .tmp 4=>u
 | _ => x) { dst := none, op := .build 54 #[(1, .tmp 0), (2, .tmp 1), (3, .tmp 2), (4, .tmp 3), (5, .tmp 4), (6, .tmp 5)], type := 0, pos := "", after := #[], guard := none }) w
theorem yU (r:Operand->Value) (x0 x1 x2 I F G:Operand) (dst:Option Tmp) (ty:TypeId) (pos:String) (after:Array Edge) (guard:Option (Nat×Bool)) (w:World):
  Sem.run prog (execOp r { dst:=dst,op:=.build 54 #[(1,x0),(2,x1),(3,x2),(4,I),(5,F),(6,G)],type:=ty,pos:=pos,after:=after,guard:=guard }) w=K8 (r x0) (r x1) (r x2) (r I) (r F) (r G) w:=by
 unfold K8 execOp;simp
theorem Xj (k v p q:Int) (g h:List UInt8) (hg:g.length=32) (hl:h.length=32) (w:World):K8 (.int .i64 k) (.int .i64 v) (.int .i64 p) (.agg (z2 g)) (.int .i64 q) (.agg (z2 h)) w=.ok (.value (.agg (zy ⟨0,k,v,p,g,q,h,qx⟩))) w:=by
 have I:(z2 h).size=32:=by rw[zH,hl]
 have J:(z2 h).zipIdx=((z4 h).zipIdx).toArray:=by simp[z2]
 have G:(z2 g).size=32:=by rw[zH,hg]
 have K:(z2 g).zipIdx=((z4 g).zipIdx).toArray:=by simp[z2]
 unfold K8;go_simp;have e:List.foldl (fun (cs:Array Value) (x:Value×Nat)=>cs.setIfInBounds (37+x.2) x.1) ((List.foldl (fun (cs:Array Value) (x:Value×Nat)=>cs.setIfInBounds (4+x.2) x.1) (((Tryz.zeroCells54.setIfInBounds 1 (Value.int .i64 k)).setIfInBounds 2 (Value.int .i64 v)).setIfInBounds 3 (Value.int .i64 p)) (z4 g).zipIdx).setIfInBounds 36 (Value.int .i64 q)) (z4 h).zipIdx=zy ⟨0,k,v,p,g,q,h,qx⟩:=z4X 0 k v p q g h hg hl;rw[e];have s1:(List.foldl (fun (cs:Array Value) (x:Value×Nat)=>cs.setIfInBounds (4+x.2) x.1) (((Tryz.zeroCells54.setIfInBounds 1 (Value.int .i64 k)).setIfInBounds 2 (Value.int .i64 v)).setIfInBounds 3 (Value.int .i64 p)) (z4 g).zipIdx).size=101:=by
  have F:List.foldl (fun (cs:Array Value) (x:Value×Nat)=>cs.setIfInBounds (4+x.2) x.1) (((Tryz.zeroCells54.setIfInBounds 1 (Value.int .i64 k)).setIfInBounds 2 (Value.int .i64 v)).setIfInBounds 3 (Value.int .i64 p)) (z4 g).zipIdx=zy ⟨0,k,v,p,g,0,qx,qx⟩:=(yp (z4 g) 0 4 _).trans (z6w ⟨0,k,v,p,qx,0,qx,qx⟩ ⟨rfl,rfl,rfl⟩ g hg);rw[F];exact zg ⟨hg,rfl,rfl⟩
 rw[if_neg (by rw[s1];omega),if_neg (by rw[s1];omega)];rfl
theorem qM (w:World) (a b:Obj):((w.alloc a).alloc b).heap[w.heap.size]?=some a/\((w.alloc a).alloc b).heap[w.heap.size+1]?=some b:=by
 have e:(w.alloc a).heap.size=w.heap.size+1:=by simp
 have h:=Xh (w.alloc a) b;rw[e]at h;exact⟨(Below.heap_alloc _ _ _ (by rw[e];omega)).trans (Xh w a),h⟩
theorem xU (w:World) (a b c:Obj):(((w.alloc a).alloc b).alloc c).heap[w.heap.size]?=some a/\(((w.alloc a).alloc b).alloc c).heap[w.heap.size+1]?=some b/\(((w.alloc a).alloc b).alloc c).heap[w.heap.size+2]?=some c:=by
 have e:((w.alloc a).alloc b).heap.size=w.heap.size+2:=by simp
 have h:=Xh ((w.alloc a).alloc b) c;rw[e]at h;obtain⟨h1,h2⟩:=qM w a b;exact⟨(Below.heap_alloc _ _ _ (by rw[e];omega)).trans h1,(Below.heap_alloc _ _ _ (by rw[e];omega)).trans h2,h⟩
theorem QW (w:World) (a b c d:Obj):((((w.alloc a).alloc b).alloc c).alloc d).heap[w.heap.size]?=some a/\((((w.alloc a).alloc b).alloc c).alloc d).heap[w.heap.size+1]?=some b/\((((w.alloc a).alloc b).alloc c).alloc d).heap[w.heap.size+2]?=some c/\((((w.alloc a).alloc b).alloc c).alloc d).heap[w.heap.size+3]?=some d:=by
 have e:(((w.alloc a).alloc b).alloc c).heap.size=w.heap.size+3:=by simp
 have h:=Xh (((w.alloc a).alloc b).alloc c) d;rw[e]at h;obtain⟨h1,h2,h3⟩:=xU w a b c;exact⟨(Below.heap_alloc _ _ _ (by rw[e];omega)).trans h1,(Below.heap_alloc _ _ _ (by rw[e];omega)).trans h2,(Below.heap_alloc _ _ _ (by rw[e];omega)).trans h3,h⟩
theorem QX (w:World) (a b c d f:Obj):(((((w.alloc a).alloc b).alloc c).alloc d).alloc f).heap[w.heap.size]?=some a/\(((((w.alloc a).alloc b).alloc c).alloc d).alloc f).heap[w.heap.size+1]?=some b/\(((((w.alloc a).alloc b).alloc c).alloc d).alloc f).heap[w.heap.size+2]?=some c/\(((((w.alloc a).alloc b).alloc c).alloc d).alloc f).heap[w.heap.size+3]?=some d/\(((((w.alloc a).alloc b).alloc c).alloc d).alloc f).heap[w.heap.size+4]?=some f:=by
 have e:((((w.alloc a).alloc b).alloc c).alloc d).heap.size=w.heap.size+4:=by simp
 have h:=Xh ((((w.alloc a).alloc b).alloc c).alloc d) f;rw[e]at h;obtain⟨h1,h2,h3,F⟩:=QW w a b c d;exact⟨(Below.heap_alloc _ _ _ (by rw[e];omega)).trans h1,(Below.heap_alloc _ _ _ (by rw[e];omega)).trans h2,(Below.heap_alloc _ _ _ (by rw[e];omega)).trans h3,(Below.heap_alloc _ _ _ (by rw[e];omega)).trans F,h⟩
theorem Vf {w:World}{b a:Nat}{C D:Array Value}{T U:TypeId} (h:w.heap[b]?=some (.cells C T (0,0))) (k:w.heap[a]?=some (.cells D U (0,0))) (F:T≠U):b≠a:=by
 rintro rfl;have:=h.symm.trans k;injection this with e;injection e with _ e _;exact F e
theorem yA (w:World) {g:Nat}{C:Array Value}{T:TypeId} (h:w.heap[g]?=some (.cells C T (0,0))) (i:Nat) (u:Value):(w.setCell ⟨g,i,none⟩ u).heap[g]?=some (.cells (C.setIfInBounds i u) T (0,0)):=by
 simp[World.setCell,Array.getElem?_modify,h]
structure xu (b a:Nat) (w w':World):Prop where
 os:w'.os=w.os
 tape:w'.tape=w.tape
 output:w'.output=w.output
 size:w.heap.size<=w'.heap.size
 block:∀k,k<w.heap.size->k≠b->k≠a->w'.heap[k]?=w.heap[k]?
theorem xu.refl (b a:Nat) (w:World):xu b a w w:=⟨rfl,rfl,rfl,Nat.le_refl _,fun _ _ _ _=>rfl⟩
theorem xu.trans {b a:Nat}{x y z:World} (h:xu b a x y) (k:xu b a y z):xu b a x z:=
 ⟨k.os.trans h.os,k.tape.trans h.tape,k.output.trans h.output,Nat.le_trans h.size k.size,fun i h1 h2 h3=>(k.block i (Nat.lt_of_lt_of_le h1 h.size) h2 h3).trans (h.block i h1 h2 h3)⟩
theorem xu.of {b a:Nat}{w w':World} (h:Below w.heap.size w w'):xu b a w w':=⟨h.os,h.tape,h.output,h.size,fun k F _ _=>h.block k F⟩
theorem xu.then {b a:Nat}{w w' F:World} (h:xu b a w w') (k:Below w'.heap.size w' F):xu b a w F:=h.trans (xu.of k)
structure vv (w W:World) (p q:Nat) (Z Y:Array Value):Prop where
 s:W.heap[p]?=some (.cells Z 40 (0,0))
 a:W.heap[q]?=some (.cells Y 54 (0,0))
 hp:w.heap.size<=p
 hq:w.heap.size<=q
 bel:Below w.heap.size w W
 zs:Z.size=35
 za:Y.size=101
theorem vv.below {w W W':World}{p q:Nat}{Z Y:Array Value} (h:vv w W p q Z Y) (F:Below W.heap.size W W'):vv w W' p q Z Y:=⟨(F.block _ (Lb h.s)).trans h.s,(F.block _ (Lb h.a)).trans h.a,h.hp,h.hq,h.bel.trans (F.mono h.bel.size),h.zs,h.za⟩
theorem vv.cell {w W:World}{p q:Nat}{Z Y:Array Value} (h:vv w W p q Z Y) {g:Nat} (h1:p≠g) (h2:q≠g) (h3:w.heap.size<=g) (i:Nat) (u:Value):vv w (W.setCell ⟨g,i,none⟩ u) p q Z Y:=
 ⟨(Hs _ _ _ _ h1).trans h.s,(Hs _ _ _ _ h2).trans h.a,h.hp,h.hq,h.bel.setCell h3 _,h.zs,h.za⟩
theorem xu.setS {w W:World}{p q:Nat} (h:xu p q w W) (C:Array Value):xu p q w (setSe W p C):=by
 have F:=zR (C:=C) (Below.refl 0 W) (Nat.zero_le p);exact⟨F.os.trans h.os,F.tape.trans h.tape,F.output.trans h.output,Nat.le_trans h.size F.size,fun k h1 h2 h3=>(zl W _ h2).trans (h.block k h1 h2 h3)⟩
theorem xu.setY {w W:World}{p q:Nat} (h:xu p q w W) (C:Array Value):xu p q w (qb W q C):=by
 have F:=qA (C:=C) (Below.refl 0 W) (Nat.zero_le q);exact⟨F.os.trans h.os,F.tape.trans h.tape,F.output.trans h.output,Nat.le_trans h.size F.size,fun k h1 h2 h3=>(yO W _ h3).trans (h.block k h1 h2 h3)⟩
structure zai (w W:World) (p q:Nat) (S A:Array Value):Prop where
 st:yF (.pointer (some ⟨p,0,none⟩)) (.agg S) W=.ok .skip (setSe W p S)
 sa:Z8 (.pointer (some ⟨q,0,none⟩)) (.agg A) (setSe W p S)=.ok .skip (qb (setSe W p S) q A)
 rs:(qb (setSe W p S) q A).heap[p]?=some (.cells S 40 (0,0))
 ra:(qb (setSe W p S) q A).heap[q]?=some (.cells A 54 (0,0))
 bel:Below w.heap.size w (qb (setSe W p S) q A)
 zs:S.size=35
 za:A.size=101
theorem vv.fin {w W:World}{p q:Nat}{Z Y:Array Value} (h:vv w W p q Z Y) {t:yw} (ho:t.Ok):zai w W p q (zp t.s) (zy t.a):=by
 have G:p≠q:=Vf h.s h.a (by decide);have F:(setSe W p (zp t.s)).heap[q]?=some (.cells Y 54 (0,0)):=(zl W _ G.symm).trans h.a;refine⟨yn h.s h.zs (zd ho.s) (y7 _),qF F h.za (zg ho.a) (qD _),?_,qU F,qA (zR h.bel h.hp) h.hq,zd ho.s,zg ho.a⟩;exact(yO _ _ G).trans (qG h.s)
section
attribute [local go_sem ↓] zm zq zr zL ze zn zo zM zf yQ yR yS yT yU zV zO qd
theorem yu (n:Int) (w:World):Calls prog 90 #[.int .i64 n] w (vo (qV n) w):=by
 obtain⟨F,I⟩:=nm (zp yj);obtain⟨G,J⟩:=nm (zy ju);have N:Hd (F.size=35/\G.size=101):=z0 (by rw[<-I.o,<-J.o];exact⟨zd qp,zg qf⟩);have ab:Hd (∀W,jn W=.ok (.value (.agg F)) W):=z0 (fun W=>by rw[<-I.o];exact yd W);have ad:Hd (∀W,qS W=.ok (.value (.agg G)) W):=z0 (fun W=>by rw[<-J.o];exact qi W);have a6:Hd (∀W,qj W=.ok (.value (.pointer (some ⟨W.heap.size,0,none⟩))) (W.alloc (.cells F 40))):=z0 (fun W=>by rw[<-I.o];exact zX W);have af:Hd (∀W,zt W=.ok (.value (.pointer (some ⟨W.heap.size,0,none⟩))) (W.alloc (.cells G 54))):=z0 (fun W=>by rw[<-J.o];exact zC W);have ai:qj w=.ok (.value (.pointer (some ⟨w.heap.size,0,none⟩))) (w.alloc (.cells F 40)):=by
  have:=a6.o w;exact this
 have ak:zt (w.alloc (.cells F 40))=.ok (.value (.pointer (some ⟨w.heap.size+1,0,none⟩))) ((w.alloc (.cells F 40)).alloc (.cells G 54)):=by
  have:=af.o (w.alloc (.cells F 40))
  rwa[show((w.alloc (.cells F 40))).heap.size=w.heap.size+1 from by simp]at this
 obtain⟨a1,a4⟩:=qM w (.cells F 40) (.cells G 54);have aa:Hd (Below w.heap.size w ((w.alloc (.cells F 40)).alloc (.cells G 54))):=z0 (((Below.refl w.heap.size w).alloc (Nat.le_refl _) _).alloc (by simp;try omega) _);have a8:Hd (vv w ((w.alloc (.cells F 40)).alloc (.cells G 54)) (w.heap.size) (w.heap.size+1) F G):=z0 ⟨a1,a4,by omega,by omega,aa.o,N.o.1,N.o.2⟩;clear a1 a4;obtain⟨ag,a5,O,M,K,a3,a2⟩:=a8.o.fin (t:=qV n) (qO n);have e:yw.s (qV n)=yj:=rfl;have a0:yw.a (qV n)=ju:=rfl;rw[e,I.o]at ag a5 O M K a3;rw[a0,J.o]at a5 O M K a2;have ae:=z0 O;have a7:=z0 M;have a9:=z0 K;have ah:=ab.o;have aj:=ad.o;clear O M K a3 a2 e a0;go_enter func90,ntmps90;go_wp2;try simp only[Exit.inBlock,Exit.then]
 refine Bp (zB rfl _ _ _ _ _ _ _ _ _ rfl rfl rfl ae.o a7.o N.o.1 N.o.2) rfl ⟨?_,a9.o⟩;rw[<-I.o,<-J.o];rfl
theorem Jd {I:Func}{q:Tmp} (h:I.results=#[.cell q 40]) (tmps:Array Value) (w:World) (F:Nat) (J:TypeId) (G:Array Value)
  (hq:tmps.getD q undef=.pointer (some ⟨F,0,none⟩)) (h2:w.heap[F]?=some (.cells G J (0,0))) (M:G.size=35):
  (results I tmps).run prog w=.ok (.agg G) w:=by
 have K:tmps[q]?.getD undef=.pointer (some ⟨F,0,none⟩):=by simpa using hq
 have r2:=run_loadVar_row (P:=prog) w F J 40 G (0,0) _ h2 xi rfl (by rw[xj,M]);simp[results,h,K,asAddr,r2]
theorem Je (s:ym) (af:s.Ok) (v p:Int) (w:World):Calls prog 91 #[.agg (zp s),.int .i64 v,.int .i64 p] w fun e w'=>e=.returned (.agg (zp ⟨v,p,s.pv,s.pa⟩))/\Below w.heap.size w w':=by
 have a6:qj (w.alloc (.cells (zp s) 40))=.ok (.value (.pointer (some ⟨w.heap.size+1,0,none⟩))) ((w.alloc (.cells (zp s) 40)).alloc (.cells (zp yj) 40)):=by
  have:=zX (w.alloc (.cells (zp s) 40))
  rwa[show(w.alloc (.cells (zp s) 40)).heap.size=w.heap.size+1 from by simp]at this
 obtain⟨a5,a7⟩:=qM w (.cells (zp s) 40) (.cells (zp yj) 40);have a1:Hd (Below w.heap.size w ((w.alloc (.cells (zp s) 40)).alloc (.cells (zp yj) 40))):=z0 (Ba.alloc (by simp) _);have ag:=z0 af;obtain⟨S,I⟩:=nm (zp s);obtain⟨M,J⟩:=nm (zp yj);have K:Hd (((w.alloc (.cells S 40)).alloc (.cells M 40)).heap[w.heap.size]?=some (.cells (zp s) 40 (0,0))):=z0 (by rw[<-I.o,<-J.o];exact a5);have a9:Hd (((w.alloc (.cells S 40)).alloc (.cells M 40)).heap[w.heap.size+1]?=some (.cells (zp yj) 40 (0,0))):=z0 (by rw[<-I.o,<-J.o];exact a7);rw[I.o,J.o]at a6 a1;rw[I.o];clear a5 a7;go_enter func91,ntmps91;go_upto_region 1 with(fail)
 clear a6;generalize ((w.alloc (.cells S 40)).alloc (.cells M 40))=F at *;have aa:=(zN.cells (a:=s) K.o).1;have ab:=zN.free (a:=s) K.o 0;have O:Hd ((F.setCell ⟨w.heap.size,0,none⟩ (.int .i64 v)).heap[w.heap.size]?=some (.cells (zp { s with vi:=v }) 40 (0,0))):=z0 (by rw[yA F K.o,zcR]);have aj:=(zN.cells (a:={ s with vi:=v }) O.o).2.1;have ad:=zN.free (a:={ s with vi:=v }) O.o 1;have ae:Hd (((F.setCell ⟨w.heap.size,0,none⟩ (.int .i64 v)).setCell ⟨w.heap.size,1,none⟩ (.int .i64 p)).heap[w.heap.size]?=some (.cells (zp ⟨v,p,s.pv,s.pa⟩) 40 (0,0))):=z0 (by rw[yA _ O.o,zcS]);have a3:Hd (((F.setCell ⟨w.heap.size,0,none⟩ (.int .i64 v)).setCell ⟨w.heap.size,1,none⟩ (.int .i64 p)).heap[w.heap.size+1]?=some (.cells (zp yj) 40 (0,0))):=z0 ((Hs _ _ _ _ (by show w.heap.size+1≠w.heap.size;omega)).trans ((Hs _ _ _ _ (by show w.heap.size+1≠w.heap.size;omega)).trans a9.o));have ah:Hd (Below w.heap.size w ((F.setCell ⟨w.heap.size,0,none⟩ (.int .i64 v)).setCell ⟨w.heap.size,1,none⟩ (.int .i64 p))):=z0 ((a1.o.setCell (Nat.le_refl _) _).setCell (Nat.le_refl _) _);go_upto_region 2 with(fail)
 clear aa aj ab ad;generalize ((F.setCell ⟨w.heap.size,0,none⟩ (.int .i64 v)).setCell ⟨w.heap.size,1,none⟩ (.int .i64 p))=ak at *;have a8:ym.Ok ⟨v,p,s.pv,s.pa⟩:=ag.o;have G:=z0 (zd a8);have hl:=zj ae.o G.o;have ai:=yn a3.o (zd qp) G.o (y7 ⟨v,p,s.pv,s.pa⟩);have a0:=z0 (qG (C:=zp ⟨v,p,s.pv,s.pa⟩) a3.o);have a4:=z0 (zR (C:=zp ⟨v,p,s.pv,s.pa⟩) ah.o (show w.heap.size<=w.heap.size+1 by omega));clear a8;obtain⟨N,a2⟩:=nm (zp ⟨v,p,s.pv,s.pa⟩);rw[a2.o]at hl ai a0 a4 G;go_wp2;try simp only[Exit.inBlock,Exit.then]
 refine Bp (Jd rfl _ _ _ _ _ rfl a0.o G.o) rfl ⟨?_,a4.o⟩;rw[<-a2.o]
theorem Vg (s F:ym) (a:y8) (aq:s.Ok) (hn:F.Ok) (ha:a.Ok) (w:World):Calls prog 92 #[.agg (zp s),.agg (zp F),.agg (zy a)] w (vo (jj s F a) w):=by
 have bc:=z0 hn;have ar:=z0 ha;have au:Hd (∀W,Calls prog 139 #[.agg (zp s),.agg (zp F)] W fun e w'=>e=.returned (.bool (QL s F))/\Below W.heap.size W w'):=z0 (fun W=>z8o s F W aq hn);have ak:=z0 (And.intro (zd aq) (zd hn));obtain⟨S,aI⟩:=nm (zp s);obtain⟨N,a9⟩:=nm (zp F);obtain⟨A,aK⟩:=nm (zy a);rw[aI.o,a9.o]at au ak;rw[aI.o,a9.o,aK.o];clear aq hn ha;obtain⟨I,ao⟩:=nm (zp yj);obtain⟨K,aB⟩:=nm (zy ju);have aH:Hd (I.size=35/\K.size=101):=z0 (by rw[<-ao.o,<-aB.o];exact⟨zd qp,zg qf⟩);have bi:Hd (∀W,jn W=.ok (.value (.agg I)) W):=z0 (fun W=>by rw[<-ao.o];exact yd W);have bj:Hd (∀W,qS W=.ok (.value (.agg K)) W):=z0 (fun W=>by rw[<-aB.o];exact qi W);have aU:Hd (∀W,qj W=.ok (.value (.pointer (some ⟨W.heap.size,0,none⟩))) (W.alloc (.cells I 40))):=z0 (fun W=>by rw[<-ao.o];exact zX W);have b4:Hd (∀W,zt W=.ok (.value (.pointer (some ⟨W.heap.size,0,none⟩))) (W.alloc (.cells K 54))):=z0 (fun W=>by rw[<-aB.o];exact zC W);have b5:qj (((w.alloc (.cells S 40)).alloc (.cells N 40)).alloc (.cells A 54))=.ok (.value (.pointer (some ⟨w.heap.size+3,0,none⟩))) ((((w.alloc (.cells S 40)).alloc (.cells N 40)).alloc (.cells A 54)).alloc (.cells I 40)):=by
  have:=aU.o (((w.alloc (.cells S 40)).alloc (.cells N 40)).alloc (.cells A 54))
  rwa[show((((w.alloc (.cells S 40)).alloc (.cells N 40)).alloc (.cells A 54))).heap.size=w.heap.size+3 from by simp]at this
 have bh:zt ((((w.alloc (.cells S 40)).alloc (.cells N 40)).alloc (.cells A 54)).alloc (.cells I 40))=.ok (.value (.pointer (some ⟨w.heap.size+4,0,none⟩))) (((((w.alloc (.cells S 40)).alloc (.cells N 40)).alloc (.cells A 54)).alloc (.cells I 40)).alloc (.cells K 54)):=by
  have:=b4.o ((((w.alloc (.cells S 40)).alloc (.cells N 40)).alloc (.cells A 54)).alloc (.cells I 40))
  rwa[show(((((w.alloc (.cells S 40)).alloc (.cells N 40)).alloc (.cells A 54)).alloc (.cells I 40))).heap.size=w.heap.size+4 from by simp]at this
 obtain⟨aL,aS,aE,aF,aG⟩:=QX w (.cells S 40) (.cells N 40) (.cells A 54) (.cells I 40) (.cells K 54);have b8:Hd (Below w.heap.size w (((((w.alloc (.cells S 40)).alloc (.cells N 40)).alloc (.cells A 54)).alloc (.cells I 40)).alloc (.cells K 54))):=z0 ((((((Below.refl w.heap.size w).alloc (Nat.le_refl _) _).alloc (by simp;try omega) _).alloc (by simp;try omega) _).alloc (by simp;try omega) _).alloc (by simp;try omega) _);have aV:Hd (vv w (((((w.alloc (.cells S 40)).alloc (.cells N 40)).alloc (.cells A 54)).alloc (.cells I 40)).alloc (.cells K 54)) (w.heap.size+3) (w.heap.size+4) I K):=z0 ⟨aF,aG,by omega,by omega,b8.o,aH.o.1,aH.o.2⟩;have aW:=z0 (show(((((w.alloc (.cells S 40)).alloc (.cells N 40)).alloc (.cells A 54)).alloc (.cells I 40)).alloc (.cells K 54)).heap[w.heap.size]?=some (.cells S 40 (0,0)) from aL);have aw:=z0 (show(((((w.alloc (.cells S 40)).alloc (.cells N 40)).alloc (.cells A 54)).alloc (.cells I 40)).alloc (.cells K 54)).heap[w.heap.size+1]?=some (.cells N 40 (0,0)) from aS);have aJ:=z0 (show(((((w.alloc (.cells S 40)).alloc (.cells N 40)).alloc (.cells A 54)).alloc (.cells I 40)).alloc (.cells K 54)).heap[w.heap.size+1+1]?=some (.cells A 54 (0,0)) from aE);clear aL aS aE aF aG;go_enter func92,ntmps92;go_upto_region 1 with(fail)
 clear b5 bh;generalize (((((w.alloc (.cells S 40)).alloc (.cells N 40)).alloc (.cells A 54)).alloc (.cells I 40)).alloc (.cells K 54))=bb at *;have bf:=zj aW.o ak.o.1;have b9:=zj aw.o ak.o.2;obtain⟨q,aC⟩:=nm (QL s F);rw[aC.o]at au;go_wp2_with fail;refine(au.o bb).mono ?_;rintro e G ⟨rfl,ai⟩;have aO:=z0 (aV.o.below ai);have aZ:=z0 ((ai.block _ (Lb aw.o)).trans aw.o);have bg:=z0 ((ai.block _ (Lb aJ.o)).trans aJ.o);clear ai bf b9;cases q with
 |false=>
  have ay:Hd (jj s F a=qV 11):=z0 (by unfold jj;rw[aC.o];rfl);go_wp2_with fail;refine(yu 11 G).mono ?_;rintro e bk ⟨rfl,aP⟩;unfold Q9;obtain⟨ae,a5,a0,a1,O,a4,a6⟩:=(aO.o.below aP).fin (t:=qV 11) (qO 11);have ad:=z0 a0;have ab:=z0 a1;have aa:=z0 O;have a3:=z0 (And.intro a4 a6);clear a0 a1 O a4 a6 aP;obtain⟨X,ax⟩:=nm (zp (qV 11).s);obtain⟨Y,a7⟩:=nm (zy (qV 11).a);have he:(qV 11).e=11:=rfl;rw[ax.o]at ae a5 ad ab aa a3;rw[a7.o]at a5 ad ab aa a3;rw[ax.o,a7.o,he];clear he;go_wp2;try simp only[Exit.inBlock,Exit.then]
  refine Bp (zB rfl _ _ _ _ _ _ _ _ _ rfl rfl rfl ad.o ab.o a3.o.1 a3.o.2) rfl ⟨?_,aa.o⟩;rw[ay.o,<-ax.o,<-a7.o];rfl
 |true=>
  have ay:Hd (jj s F a=⟨F,{ a with ki:=F.ph,vi:=F.vi,ph:=F.ph },0⟩):=z0 (by unfold jj;rw[aC.o];rfl);go_upto_region 3 with(fail)
  have af:Hd (∀W:World,W.heap[w.heap.size+1]?=some (.cells N 40 (0,0))->W.cell? ⟨w.heap.size+1,0,none⟩=some (.int .i64 F.vi)/\W.cell? ⟨w.heap.size+1,1,none⟩=some (.int .i64 F.ph)):=z0 (fun W h=>by
   rw[<-a9.o]at h;have:=zN.cells (a:=F) h
   exact⟨this.1,this.2.1⟩)
  have an:Hd (G.drew.heap[w.heap.size+1+1]?=some (.cells (zy a) 54 (0,0))):=z0 (by rw[aK.o];exact bg.o);have al:Hd ((G.drew.setCell ⟨w.heap.size+1+1,1,none⟩ (.int .i64 F.ph)).heap[w.heap.size+1+1]?=some (.cells (zy { a with ki:=F.ph }) 54 (0,0))):=z0 (by rw[yA _ an.o,zcU]);have ah:Hd (((G.drew.setCell ⟨w.heap.size+1+1,1,none⟩ (.int .i64 F.ph)).setCell ⟨w.heap.size+1+1,2,none⟩ (.int .i64 F.vi)).heap[w.heap.size+1+1]?=some (.cells (zy { a with ki:=F.ph,vi:=F.vi }) 54 (0,0))):=z0 (by rw[yA _ al.o,zcV]);have aM:Hd ((((G.drew.setCell ⟨w.heap.size+1+1,1,none⟩ (.int .i64 F.ph)).setCell ⟨w.heap.size+1+1,2,none⟩ (.int .i64 F.vi)).setCell ⟨w.heap.size+1+1,3,none⟩ (.int .i64 F.ph)).heap[w.heap.size+1+1]?=some (.cells (zy { a with ki:=F.ph,vi:=F.vi,ph:=F.ph }) 54 (0,0))):=z0 (by rw[yA _ ah.o,zcW]);have aR:=z0 (aO.o.below ((Below.refl G.heap.size G).drew));have av:Hd (G.drew.heap[w.heap.size+1]?=some (.cells N 40 (0,0))):=aZ;have ag:=z0 (And.intro (aR.o.cell (g:=w.heap.size+1+1) (by omega) (by omega) (by omega) 1 (.int .i64 F.ph)) ((Hs G.drew ⟨w.heap.size+1+1,1,none⟩ (.int .i64 F.ph) _ (by show w.heap.size+1≠w.heap.size+1+1;omega)).trans av.o));have aj:=z0 (And.intro (ag.o.1.cell (g:=w.heap.size+1+1) (by omega) (by omega) (by omega) 2 (.int .i64 F.vi)) ((Hs _ ⟨w.heap.size+1+1,2,none⟩ (.int .i64 F.vi) _ (by show w.heap.size+1≠w.heap.size+1+1;omega)).trans ag.o.2));have am:=z0 (And.intro (aj.o.1.cell (g:=w.heap.size+1+1) (by omega) (by omega) (by omega) 3 (.int .i64 F.ph)) ((Hs _ ⟨w.heap.size+1+1,3,none⟩ (.int .i64 F.ph) _ (by show w.heap.size+1≠w.heap.size+1+1;omega)).trans aj.o.2));have bd:G.cell? ⟨w.heap.size+1+1,1,none⟩=some (.int .i64 a.ki):=(qz.cells (a:=a) an.o).2.1;have b7:G.frozen? ⟨w.heap.size+1+1,1,none⟩=false:=qz.free (a:=a) an.o 1;have aX:(G.setCell ⟨w.heap.size+1+1,1,none⟩ (.int .i64 F.ph)).cell? ⟨w.heap.size+1+1,2,none⟩=some (.int .i64 a.vi):=(qz.cells (a:={ a with ki:=F.ph }) al.o).2.2.1;have aT:(G.setCell ⟨w.heap.size+1+1,1,none⟩ (.int .i64 F.ph)).frozen? ⟨w.heap.size+1+1,2,none⟩=false:=qz.free (a:={ a with ki:=F.ph }) al.o 2;have be:((G.setCell ⟨w.heap.size+1+1,1,none⟩ (.int .i64 F.ph)).setCell ⟨w.heap.size+1+1,2,none⟩ (.int .i64 F.vi)).cell? ⟨w.heap.size+1+1,3,none⟩=some (.int .i64 a.ph):=(qz.cells (a:={ a with ki:=F.ph,vi:=F.vi }) ah.o).2.2.2;have ba:((G.setCell ⟨w.heap.size+1+1,1,none⟩ (.int .i64 F.ph)).setCell ⟨w.heap.size+1+1,2,none⟩ (.int .i64 F.vi)).frozen? ⟨w.heap.size+1+1,3,none⟩=false:=qz.free (a:={ a with ki:=F.ph,vi:=F.vi }) ah.o 3;refine Rh (S:=fun W=>W.cell? ⟨w.heap.size+1,0,none⟩=some (.int .i64 F.vi)/\W.cell? ⟨w.heap.size+1,1,none⟩=some (.int .i64 F.ph)) (by kernel_rfl) (af.o _ av.o) (fun a2=>?_);refine' z5 0 (h:=vX 1 (h:=z5 2 (h:=vX 3 (h:=z5 4 (h:=vX 5 (h:=z5 6 (h:=?_)))))));refine qc 7 (h:=fun M J=>?_);go_simp;refine J.out _ _ (af.o _ ag.o.2) (fun a2=>?_);clear J M;try simp only[zx]
  refine' z5 8 (h:=?_);refine qc 9 (h:=fun M J=>?_);go_simp;refine J.out _ _ (af.o _ aj.o.2) (fun a2=>?_);clear J M;try simp only[zx]
  refine' z5 10 (h:=?_);refine qc 11 (h:=fun M J=>?_);go_simp;refine J.out _ _ (af.o _ am.o.2) (fun a2=>?_);clear J M;try simp only[zx]
  refine wpAnyH_done (by kernel_rfl) ?_ _;clear a2 bd aX be b7 aT ba;go_upto_region 4 with(fail)
  have b0:=z0 (show vv w (((G.setCell ⟨w.heap.size+1+1,1,none⟩ (.int .i64 F.ph)).setCell ⟨w.heap.size+1+1,2,none⟩ (.int .i64 F.vi)).setCell ⟨w.heap.size+1+1,3,none⟩ (.int .i64 F.ph)).drew (w.heap.size+3) (w.heap.size+4) I K from am.o.1);have b1:=z0 (show(((G.setCell ⟨w.heap.size+1+1,1,none⟩ (.int .i64 F.ph)).setCell ⟨w.heap.size+1+1,2,none⟩ (.int .i64 F.vi)).setCell ⟨w.heap.size+1+1,3,none⟩ (.int .i64 F.ph)).drew.heap[w.heap.size+1+1]?=some (.cells (zy { a with ki:=F.ph,vi:=F.vi,ph:=F.ph }) 54 (0,0)) from aM.o);have aY:=z0 (show(((G.setCell ⟨w.heap.size+1+1,1,none⟩ (.int .i64 F.ph)).setCell ⟨w.heap.size+1+1,2,none⟩ (.int .i64 F.vi)).setCell ⟨w.heap.size+1+1,3,none⟩ (.int .i64 F.ph)).drew.heap[w.heap.size+1]?=some (.cells N 40 (0,0)) from am.o.2);clear am aj ag aM ah al an aR av;generalize (((G.setCell ⟨w.heap.size+1+1,1,none⟩ (.int .i64 F.ph)).setCell ⟨w.heap.size+1+1,2,none⟩ (.int .i64 F.vi)).setCell ⟨w.heap.size+1+1,3,none⟩ (.int .i64 F.ph)).drew=a8 at *;have b6:=z0 (b0.o.below ((Below.refl a8.heap.size a8).drew));have aA:Hd (a8.drew.heap[w.heap.size+1+1]?=some (.cells (zy { a with ki:=F.ph,vi:=F.vi,ph:=F.ph }) 54 (0,0))):=b1;have aN:Hd (a8.drew.heap[w.heap.size+1]?=some (.cells N 40 (0,0))):=aY;have aD:yw.Ok ⟨F,{ a with ki:=F.ph,vi:=F.vi,ph:=F.ph },0⟩:=⟨bc.o,⟨ar.o.ha,ar.o.pa,ar.o.tg⟩⟩
  have aQ:=z0 (zg (a:={ a with ki:=F.ph,vi:=F.vi,ph:=F.ph }) aD.a);obtain⟨ae,a5,a0,a1,O,a4,a6⟩:=b6.o.fin (t:=⟨F,{ a with ki:=F.ph,vi:=F.vi,ph:=F.ph },0⟩) aD;obtain⟨Y,a7⟩:=nm (zy { a with ki:=F.ph,vi:=F.vi,ph:=F.ph });simp only at ae a5 a0 a1 O a4 a6;rw[a7.o]at a5 a0 a1 O a6 aA aQ;rw[a9.o]at ae a5 a0 a1 O a4;have az:Hd (∀W,xu (w.heap.size+3) (w.heap.size+4) a8.drew W->zW (.pointer (some ⟨w.heap.size+1,0,none⟩)) W=.ok (.value (.agg N)) W/\zI (.pointer (some ⟨w.heap.size+1+1,0,none⟩)) W=.ok (.value (.agg Y)) W):=z0 (fun W t=>⟨zj ((t.block _ (Lb aN.o) (by omega) (by omega)).trans aN.o) ak.o.2,zZ ((t.block _ (Lb aA.o) (by omega) (by omega)).trans aA.o) aQ.o⟩);have ad:=z0 a0;have ab:=z0 a1;have aa:=z0 O;have a3:=z0 (And.intro a4 a6);clear a0 a1 O a4 a6 aD;refine Rh (S:=fun W=>zW (.pointer (some ⟨w.heap.size+1,0,none⟩)) W=.ok (.value (.agg N)) W/\zI (.pointer (some ⟨w.heap.size+1+1,0,none⟩)) W=.ok (.value (.agg Y)) W) (by kernel_rfl) (az.o _ (xu.refl _ _ _)) (fun a2=>?_);refine' tk (i:=0) (v:=_) rfl (fun W ap=>ap.1) ?_;try simp only[zx]
  refine' tk (i:=1) (v:=_) rfl (fun W ap=>ap.2) ?_;try simp only[zx]
  refine qc 2 (h:=fun M J=>?_);go_simp;refine J.out _ _ (az.o _ ((xu.refl _ _ _).setS N)) (fun a2=>?_);clear J M;try simp only[zx]
  refine qc 3 (h:=fun M J=>?_);go_simp;refine J.out _ _ (az.o _ (((xu.refl _ _ _).setS N).setY Y)) (fun a2=>?_);clear J M;try simp only[zx]
  refine' z5 4 (h:=?_);refine wpAnyH_done (by kernel_rfl) ?_ _;clear a2 ae a5;go_wp2;try simp only[Exit.inBlock,Exit.then]
  refine Bp (zB rfl _ _ _ _ _ _ _ _ _ rfl rfl rfl ad.o ab.o a3.o.1 a3.o.2) rfl ⟨?_,aa.o⟩;rw[ay.o,<-a9.o,<-a7.o];rfl
end
section
open Go.ChangeShapes Go.WideShapes Go.ChangeAt Go.RowKit Go.Deep
attribute [local go_sem ↓] zV zO qd
structure JB where
 act:Int
 vi:Int
 b:kR
 bA:Option Addr
 bc:Nat
 a:vU
 aA:Option Addr
 ac:Nat
 c:YL
 cA:Option Addr
 cc:Nat
def JB.sb (x:JB):Value:=.slice x.bA x.b.txs.length x.bc
def JB.sa (x:JB):Value:=.slice x.aA x.a.fr.length x.ac
def JB.sc (x:JB):Value:=.slice x.cA x.c.sg.length x.cc
def stl (x:JB):List Value:=[.int .i64 x.act,.int .i64 x.vi] ++ (bkl x.b x.sb ++ (axl x.a x.sa ++ ctl x.c x.sc))
def stc (x:JB):Array Value:=(stl x).toArray
def stZ:JB:=⟨0,0,YK,none,0,Zy,none,0,ctZ,none,0⟩
structure QY (w:World) (x:JB):Prop where
 bp:x.b.par.length=32
 bt:Xq w x.sb x.b.txs
 bs:z9D x.b
 ao:x.a.Ok
 ae:jE VB 1 w x.sa x.a.fr
 co:x.c.Ok
 ce:jE scl 33 w x.sc x.c.sg
theorem QY.below {w w':World}{x:JB} (h:QY w x) (F:Below w.heap.size w w'):QY w' x:=⟨h.bp,h.bt.below F,h.bs,h.ao,h.ae.below F,h.co,h.ce.below F⟩
theorem zcX (w:World):QY w stZ:=⟨rfl,Xq.nil w,fun t h=>by simp[stZ,YK]at h,Zh,jE.nil w,zcI,jE.nil w⟩
theorem QY.bk {w:World}{x:JB} (h:QY w x):Kw w (.agg (vS x.b x.sb)) x.b:=⟨_,rfl,h.bp,h.bt⟩
theorem QY.ax {w:World}{x:JB} (h:QY w x):Kh w (.agg (ye x.a x.sa)) x.a:=⟨_,rfl,h.ao,h.ae⟩
theorem QY.ct {w:World}{x:JB} (h:QY w x):CtV w (.agg (JA x.c x.sc)) x.c:=⟨_,rfl,h.co,h.ce⟩
theorem Vh {w:World}{x:JB} (h:QY w x):(stl x).length=208:=by
 unfold stl;simp only[List.length_append,XJ _ h.bp,Ym _ h.ao,z7g _ h.co.att,List.length_cons,List.length_nil]
theorem zbC (x:JB):∀u∈stl x,u.oneCell'=true:=by
 intro u F;unfold stl bkl ctl axl JB.sb JB.sa JB.sc at F;simp only[List.mem_append,List.mem_cons,List.not_mem_nil,or_false]at F;rcases F with(rfl|rfl)|(F|rfl|rfl|rfl|rfl)|((rfl|rfl|rfl)|F|rfl|F)|F|rfl
 all_goals first|rfl|exact yb _ u F|exact z2Q _ u F
theorem z0P {w:World}{g o:Nat}{t:TypeId}{C:Array Value}{pre G post:List Value} (h:w.heap[g]?=some (.cells C t (0,0))) (I:C=(pre ++ (G ++ post)).toArray) (ho:o=pre.length):w.rangeAt g o G:=fun j u F=>by
 subst I ho;rw[z7 h,List.getElem?_toArray,List.getElem?_append_right (by omega),Nat.add_sub_cancel_left,List.getElem?_append_left (List.getElem?_eq_some_iff.1 F).1];exact F
structure zbD (W:World) (g:Nat) (x:JB):Prop where
 act:W.cell? ⟨g,0,none⟩=some (.int .i64 x.act)
 vi:W.cell? ⟨g,1,none⟩=some (.int .i64 x.vi)
 bk:kq (.pointer (some ⟨g,2,none⟩)) W=.ok (.value (.agg (vS x.b x.sb))) W
 ax:yP (.pointer (some ⟨g,38,none⟩)) W=.ok (.value (.agg (ye x.a x.sa))) W
 ct:xt (.pointer (some ⟨g,106,none⟩)) W=.ok (.value (.agg (JA x.c x.sc))) W
 fr:W.cell? ⟨g,73,none⟩=some x.sa
 sg:W.cell? ⟨g,207,none⟩=some x.sc
theorem z3t {w W:World}{x:JB}{g:Nat}{t:TypeId} (h:W.heap[g]?=some (.cells (stc x) t (0,0))) (ho:QY w x):zbD W g x:=by
 have G:W.rangeAt g 2 (bkl x.b x.sb):=z0P h (pre:=[.int .i64 x.act,.int .i64 x.vi]) (post:=axl x.a x.sa ++ ctl x.c x.sc) rfl rfl;have ha:W.rangeAt g 38 (axl x.a x.sa):=z0P h (pre:=[.int .i64 x.act,.int .i64 x.vi] ++ bkl x.b x.sb) (post:=ctl x.c x.sc) (by unfold stc stl;simp only[List.append_assoc]) (by simp only[List.length_append,XJ _ ho.bp,List.length_cons,List.length_nil]);have F:W.rangeAt g 106 (ctl x.c x.sc):=z0P h (pre:=[.int .i64 x.act,.int .i64 x.vi] ++ (bkl x.b x.sb ++ axl x.a x.sa)) (post:=[]) (by unfold stc stl;simp only[List.append_assoc,List.append_nil]) (by simp only[List.length_append,XJ _ ho.bp,Ym _ ho.ao,List.length_cons,List.length_nil]);refine⟨z7 h 0,z7 h 1,za5 G ho.bp,z8E ha ho.ao,z8D F ho.co.att,?_,?_⟩
 ·have:=ha 35 x.sa (by have:=zcM (a:=x.a) x.sa ho.ao;unfold ye at this;rwa[List.getElem?_toArray]at this);exact this
 ·have:=F 101 x.sc (by unfold ctl;rw[List.getElem?_append_right (by rw[yZ ho.co.att];omega),yZ ho.co.att];rfl);exact this
noncomputable def z3u (v : Value) (w : World) : Result Next := Sem.run prog (execOp (fun _ => v) { dst := none, op := .load 59 (.tmp 0), type := 0, pos := "", after := #[], guard := none }) w
theorem xv (r:Operand->Value) (x:Operand) (dst:Option Tmp) (ty:TypeId) (pos:String) (after:Array Edge) (guard:Option (Nat×Bool)) (w:World):
  Sem.run prog (execOp r { dst:=dst,op:=.load 59 x,type:=ty,pos:=pos,after:=after,guard:=guard }) w=z3u (r x) w:=rfl
theorem zaj:prog.underlying 59=some (.struct (prog.fieldsOf 59)):=by kernel_rfl
theorem zbE:(prog.info? 59).map (·.size)=some 208:=by kernel_rfl
theorem z6z {w W:World}{g o:Nat}{x:JB} (F:W.rangeAt g o (stl x)) (ho:QY w x):z3u (.pointer (some ⟨g,o,none⟩)) W=.ok (.value (.agg (stc x))) W:=by
 have:=run_loadAt_mid (P:=prog) W g o 59 (stl x) _ F zaj rfl (by rw[zbE,Vh ho]);unfold z3u execOp;simp only[Sem.run_bind,this,Result.andThen_ok,Sem.run_pure];rfl
section
variable {H:Type}{enc:TypeId×Value->H}{w:World}{base:Nat}{spare:Nat->Bool}{held:Bool}{fuel:Nat}{cs:List Value}{x:DataW H×List MemPlace}
theorem z8T:∃K I F J G:Field,prog.underlying 59=some (.struct #[K,I,F,J,G])/\(K.type,K.offset)=(3,0)/\(I.type,I.offset)=(3,1)/\(F.type,F.offset)=(49,2)
  /\ (J.type,J.offset)=(52,38)/\(G.type,G.offset)=(57,106):=
 ⟨_,_,_,_,_,underlying59,rfl,rfl,rfl,rfl,rfl⟩
theorem zbF (h:DataW.trod enc prog w base spare held fuel 59 cs=some x):∃a,QY w a/\cs=stl a:=by
 obtain⟨af,ai,a5,ap,ah,ax,aG,ay,an,ar,aq⟩:=z8T;injection aG with aj a9;injection ay with aw aB;injection an with al aD;injection ar with aA a7;injection aq with av ak;obtain⟨a8,m,_,_,ad,ab,F⟩:=DataW.trod_struct ax h;have az:prog.cellsOf 59=208:=by kernel_rfl
 have a3:prog.cellsOf 3=1:=by kernel_rfl
 have aC:prog.cellsOf 49=36:=by kernel_rfl
 have aE:prog.cellsOf 52=68:=by kernel_rfl
 have am:prog.cellsOf 57=102:=by kernel_rfl
 rw[az]at ad;have hx:a8.length=5:=ab;have O:=F 0 af rfl;have N:=F 1 ai rfl;have G:=F 2 a5 rfl;have a4:=F 3 ap rfl;have M:=F 4 ah rfl;rw[aj,a9,a3,List.getElem?_eq_getElem (by omega)]at O;rw[aw,aB,a3,List.getElem?_eq_getElem (by omega)]at N;rw[al,aD,aC,List.getElem?_eq_getElem (by omega)]at G;rw[aA,a7,aE,List.getElem?_eq_getElem (by omega)]at a4;rw[av,ak,am,List.getElem?_eq_getElem (by omega)]at M;obtain⟨n0,c0,_,_⟩:=DataW.trod_int underlying3 O;obtain⟨n1,c1,_,_⟩:=DataW.trod_int underlying3 N;obtain⟨b,⟨sb,a6,bp,bt⟩,bs⟩:=zbc G;obtain⟨a,sa,au,ao,ae⟩:=zbx a4;obtain⟨c,aH,cc,co,ce⟩:=zbt M;obtain⟨J,a1,rfl⟩:=bt.shape;obtain⟨K,I,rfl⟩:=ae.shape;obtain⟨a2,a0,rfl⟩:=ce.shape;have aa:(cs.drop 2).take 36=bkl b (.slice J b.txs.length a1):=by
  have h:=congrArg (fun v=>match v with | .agg C=>C.toList|_=>[]) a6;exact h
 have ag:(cs.drop 38).take 68=axl a (.slice K a.fr.length I):=by
  have h:=congrArg (fun v=>match v with | .agg C=>C.toList|_=>[]) au;exact h
 have aF:(cs.drop 106).take 102=ctl c (.slice a2 c.sg.length a0):=by
  have h:=congrArg (fun v=>match v with | .agg C=>C.toList|_=>[]) cc;exact h
 refine⟨⟨n0,n1,b,J,a1,a,K,I,c,a2,a0⟩,⟨bp,bt,bs,ao,ae,co,ce⟩,?_⟩;have e:cs=cs.drop 0:=rfl;rw[e,zE c0,zE c1,zE aa,zE ag,zE aF,List.drop_eq_nil_of_le (by omega)];unfold stl JB.sb JB.sa JB.sc;simp only[List.append_nil,List.cons_append,List.nil_append]
end
def z0Q (x:JB):Bool:=Xs x.b && (decide ((x.a.fr.length:Int)<=30) && decide ((x.c.sg.length:Int)<=30))
theorem z4Z (x:JB) (w:World) (ho:QY w x):Calls prog 21 #[.agg (stc x)] w fun e w'=>e=.returned (.bool (z0Q x))/\Below w.heap.size w w':=by
 have a2:Below w.heap.size w (w.alloc (.cells (stc x) 59)):=Ba;have F:=Xh w (.cells (stc x) 59);have a6:Hd (∀W,W.heap[w.heap.size]?=some (.cells (stc x) 59 (0,0))->zbD W w.heap.size x):=z0 (fun W h=>z3t h ho);have a3:Hd (∀W,Below w.heap.size w W->Calls prog 50 #[.agg (vS x.b x.sb)] W fun e w'=>e=.returned (.bool (Xs x.b))/\Below W.heap.size W w'):=z0 (fun W h=>z5U _ x.b W (ho.bk.below h) ho.bs);obtain⟨C,a1⟩:=nm (stc x);obtain⟨q,O⟩:=nm (z0Q x);obtain⟨k,a0⟩:=nm (Xs x.b);have G:Hd (q=(k && (decide ((x.a.fr.length:Int)<=30) && decide ((x.c.sg.length:Int)<=30)))):=z0 (by rw[<-O.o,<-a0.o];rfl);obtain⟨B,K⟩:=nm (vS x.b x.sb)
 have N:Hd (∀W,W.heap[w.heap.size]?=some (.cells C 59 (0,0))->kq (.pointer (some ⟨w.heap.size,2,none⟩)) W=.ok (.value (.agg B)) W/\W.cell? ⟨w.heap.size,73,none⟩=some (.slice x.aA x.a.fr.length x.ac)/\W.cell? ⟨w.heap.size,207,none⟩=some (.slice x.cA x.c.sg.length x.cc)):=z0 (fun W h=>by
  rw[<-a1.o]at h;have r:=a6.o W h;have r2:=r.bk;rw[K.o]at r2
  exact⟨r2,r.fr,r.sg⟩)
 rw[a1.o]at a2 F⊢;rw[a0.o,K.o]at a3;rw[O.o];clear ho a1 O a0 K a6;obtain⟨n1,a7⟩:=nm (x.a.fr.length:Nat);obtain⟨n2,a8⟩:=nm (x.c.sg.length:Nat);rw[a7.o,a8.o]at G N;go_enter func21,ntmps21;go_upto_region 1 with(fail)
 generalize (w.alloc (.cells C 59))=a5 at *;have J:=z0 a2;have a4:=z0 F;obtain⟨l0,_,_⟩:=N.o a5 F;clear a2 F;go_wp2_with fail;refine(a3.o a5 J.o).mono ?_;rintro e a9 ⟨rfl,M⟩;have I:=z0 (J.o.trans (M.mono J.o.size));obtain⟨_,aa,ab⟩:=N.o a9 ((M.block _ (Lb a4.o)).trans a4.o);clear l0 M;cases k with
 |false=>
  obtain rfl:q=false:=by rw[G.o];rfl
  go_wp2;go_ret;exact⟨rfl,I.o⟩
 |true=>
 by_cases p1:(n1:Int)<=30
 ·obtain rfl:q=decide ((n2:Int)<=30):=by rw[G.o,decide_eq_true p1];rfl
  go_wp2;go_ret;exact⟨rfl,I.o⟩
 ·obtain rfl:q=false:=by rw[G.o,decide_eq_false p1];rfl
  go_wp2;go_ret;exact⟨rfl,I.o⟩
end
section
attribute [local go_sem ↓] zm zq zr zL ze zn zo zM zf yQ yR yS yT yU zV zO qd
theorem Yw (s:ym) (v p:Int) (w:World):
  Calls prog 118 #[.agg (zp s),.int .i64 v,.int .i64 p] w fun e w'=>e=.returned (.bool (Xt s v p))/\Below w.heap.size w w':=by
 have K:Below w.heap.size w (w.alloc (.cells (zp s) 40)):=Ba;have G:=zN.new w s;obtain⟨C,I⟩:=nm (zp s);obtain⟨q,F⟩:=nm (Xt s v p);rw[I.o]at K G⊢;rw[F.o];go_enter func118,ntmps118;go_upto_region 1 with(fail)
 generalize (w.alloc (.cells C 40))=w0 at *;obtain⟨M,N,O⟩:=G.cells;have J:Hd (q=(decide (v<s.vi) || (decide (s.vi=v) && decide (p<=s.ph)))):=z0 (by rw[<-F.o];rfl);clear G I F O;obtain⟨vi,ph,pv,pa⟩:=s;simp only at M N J;go_wp2_with fail;all_goals
  go_ret;refine⟨?_,K⟩;refine congrArg (fun b=>Ending.returned (Value.bool b)) ?_;rw[J.o]
 all_goals grind
theorem z3v (s:ym) (hs:s.Ok) (v:Int) (w:World):Calls prog 67 #[.agg (zp s),.int .i64 v] w (vo (vy s v) w):=by
 have HSO:=z0 hs;have HSZ0:=z0 (zd hs);have HSC:Hd (∀(W:World) (g:Nat),W.heap[g]?=some (.cells (zp s) 40 (0,0))->(W.cell? ⟨g,0,none⟩=some (.int .i64 s.vi)/\W.cell? ⟨g,1,none⟩=some (.int .i64 s.ph)/\W.cell? ⟨g,2,none⟩=some (.int .i64 s.pv))/\qE (.pointer (some ⟨g,3,none⟩)) W=.ok (.value (.agg (z2 s.pa))) W):=z0 (fun W g h=>⟨zN.cells (a:=s) h,zD (zN.hash (a:=s) h) hs⟩);have HMY:Hd (∀W,Calls prog 62 #[.agg (zp s)] W fun e w'=>e=.returned (.bool (qZ s))/\Below W.heap.size W w'):=z0 (fun W=>xo s W hs);have HOL:Hd (∀W,Calls prog 118 #[.agg (zp s),.int .i64 v,.int .i64 1] W fun e w'=>e=.returned (.bool (Xt s v 1))/\Below W.heap.size W w'):=z0 (fun W=>Yw s v 1 W);have HB4:=z0 (Jc v 1 s.pv s.pa hs);have HB5:=z0 (z4Y 1 v 1 s.pv s.pa hs);have ht0:yw.Ok ⟨⟨v,1,s.pv,s.pa⟩,⟨0,1,v,1,qx,s.pv,s.pa,qx⟩,0⟩:=⟨hs,⟨rfl,hs,rfl⟩⟩
 have HTK:=z0 ht0;clear ht0;obtain⟨S,HS⟩:=nm (zp s);obtain⟨N,HN⟩:=nm (zp ⟨v,1,s.pv,s.pa⟩);obtain⟨A0,HA0⟩:=nm (zy ⟨0,1,v,1,qx,s.pv,s.pa,qx⟩);obtain⟨P,HP⟩:=nm (z2 s.pa);rw[HS.o]at HSZ0 HSC HMY HOL;rw[HN.o]at HB4;rw[HA0.o]at HB5;rw[HP.o]at HSC HB4 HB5;rw[HS.o];clear hs;obtain⟨ZS,HZS⟩:=nm (zp yj);obtain⟨ZA,HZA⟩:=nm (zy ju);have HZZ:Hd (ZS.size=35/\ZA.size=101):=z0 (by rw[<-HZS.o,<-HZA.o];exact⟨zd qp,zg qf⟩);have HBS:Hd (∀W,jn W=.ok (.value (.agg ZS)) W):=z0 (fun W=>by rw[<-HZS.o];exact yd W);have HBA:Hd (∀W,qS W=.ok (.value (.agg ZA)) W):=z0 (fun W=>by rw[<-HZA.o];exact qi W);have HLS:Hd (∀W,qj W=.ok (.value (.pointer (some ⟨W.heap.size,0,none⟩))) (W.alloc (.cells ZS 40))):=z0 (fun W=>by rw[<-HZS.o];exact zX W);have HLA:Hd (∀W,zt W=.ok (.value (.pointer (some ⟨W.heap.size,0,none⟩))) (W.alloc (.cells ZA 54))):=z0 (fun W=>by rw[<-HZA.o];exact zC W);have hal1:qj (w.alloc (.cells S 40))=.ok (.value (.pointer (some ⟨w.heap.size+1,0,none⟩))) ((w.alloc (.cells S 40)).alloc (.cells ZS 40)):=by
  have:=HLS.o (w.alloc (.cells S 40))
  rwa[show((w.alloc (.cells S 40))).heap.size=w.heap.size+1 from by simp]at this
 have hal2:zt ((w.alloc (.cells S 40)).alloc (.cells ZS 40))=.ok (.value (.pointer (some ⟨w.heap.size+2,0,none⟩))) (((w.alloc (.cells S 40)).alloc (.cells ZS 40)).alloc (.cells ZA 54)):=by
  have:=HLA.o ((w.alloc (.cells S 40)).alloc (.cells ZS 40))
  rwa[show(((w.alloc (.cells S 40)).alloc (.cells ZS 40))).heap.size=w.heap.size+2 from by simp]at this
 obtain⟨hr0,hr1,hr2⟩:=xU w (.cells S 40) (.cells ZS 40) (.cells ZA 54);have HBZ:Hd (Below w.heap.size w (((w.alloc (.cells S 40)).alloc (.cells ZS 40)).alloc (.cells ZA 54))):=z0 ((((Below.refl w.heap.size w).alloc (Nat.le_refl _) _).alloc (by simp;try omega) _).alloc (by simp;try omega) _);have HR:Hd (vv w (((w.alloc (.cells S 40)).alloc (.cells ZS 40)).alloc (.cells ZA 54)) (w.heap.size+1) (w.heap.size+2) ZS ZA):=z0 ⟨hr1,hr2,by omega,by omega,HBZ.o,HZZ.o.1,HZZ.o.2⟩;have HR0:=z0 (show(((w.alloc (.cells S 40)).alloc (.cells ZS 40)).alloc (.cells ZA 54)).heap[w.heap.size]?=some (.cells S 40 (0,0)) from hr0);clear hr0 hr1 hr2;go_enter func67,ntmps67;go_upto_region 1 with(fail)
 clear hal1 hal2;generalize (((w.alloc (.cells S 40)).alloc (.cells ZS 40)).alloc (.cells ZA 54))=wz at *;have l0:=zj HR0.o HSZ0.o;obtain⟨m,HM⟩:=nm (qZ s);rw[HM.o]at HMY;go_wp2_with fail;refine(HMY.o wz).mono ?_;rintro e w1 ⟨rfl,hb1⟩;have HR1:=z0 (HR.o.below hb1);have HB1:=z0 ((hb1.block _ (Lb HR0.o)).trans HR0.o);clear l0 hb1;cases m with
 |true=>
  by_cases p1:v<1
  ·have HQ:Hd (vy s v=qV 1):=z0 (by unfold vy;rw[if_neg (fun h=>by omega)]);obtain⟨hst,hsa,hrs,hra,hbe,hzs,hza⟩:=(HR1.o).fin (t:=qV 1) (qO 1);have hbs:=HBS.o;have hba:=HBA.o;rw[show yw.s (qV 1)=yj from rfl,HZS.o]at hst hsa hrs hra hbe hzs;rw[show yw.a (qV 1)=ju from rfl,HZA.o]at hsa hrs hra hbe hza;have HRS:=z0 hrs;have HRA:=z0 hra;have HBE:=z0 hbe;clear hrs hra hbe hzs hza;go_wp2;try simp only[Exit.inBlock,Exit.then]
   refine Bp (zB rfl _ _ _ _ _ _ _ _ _ rfl rfl rfl HRS.o HRA.o HZZ.o.1 HZZ.o.2) rfl ⟨?_,HBE.o⟩;rw[HQ.o,<-HZS.o,<-HZA.o];rfl
  by_cases p2:1099511627776<v
  ·have HQ:Hd (vy s v=qV 1):=z0 (by unfold vy;rw[if_neg (fun h=>by omega)]);obtain⟨hst,hsa,hrs,hra,hbe,hzs,hza⟩:=(HR1.o).fin (t:=qV 1) (qO 1);have hbs:=HBS.o;have hba:=HBA.o;rw[show yw.s (qV 1)=yj from rfl,HZS.o]at hst hsa hrs hra hbe hzs;rw[show yw.a (qV 1)=ju from rfl,HZA.o]at hsa hrs hra hbe hza;have HRS:=z0 hrs;have HRA:=z0 hra;have HBE:=z0 hbe;clear hrs hra hbe hzs hza;go_wp2;try simp only[Exit.inBlock,Exit.then]
   refine Bp (zB rfl _ _ _ _ _ _ _ _ _ rfl rfl rfl HRS.o HRA.o HZZ.o.1 HZZ.o.2) rfl ⟨?_,HBE.o⟩;rw[HQ.o,<-HZS.o,<-HZA.o];rfl
  have HQ0:Hd (vy s v=jj s ⟨v,1,s.pv,s.pa⟩ ⟨0,0,0,0,qx,s.pv,s.pa,qx⟩):=z0 (by unfold vy;rw[if_pos ⟨HM.o,by omega,by omega⟩]);have l1:=zj HB1.o HSZ0.o;go_upto_region 3 with(fail)
  clear p1 p2;obtain⟨o,HO⟩:=nm (Xt s v 1);rw[HO.o]at HOL;go_wp2_with fail;refine(HOL.o w1).mono ?_;rintro e w2 ⟨rfl,hb2⟩;have HR2:=z0 (HR1.o.below hb2);have HB2:=z0 ((hb2.block _ (Lb HB1.o)).trans HB1.o);clear l1 hb2;cases o with
  |true=>
   have HQ:Hd (vy s v=qV 11):=z0 (by rw[HQ0.o];exact Js HO.o);obtain⟨hst,hsa,hrs,hra,hbe,hzs,hza⟩:=(HR2.o).fin (t:=qV 11) (qO 11);have hbs:=HBS.o;have hba:=HBA.o;rw[show yw.s (qV 11)=yj from rfl,HZS.o]at hst hsa hrs hra hbe hzs;rw[show yw.a (qV 11)=ju from rfl,HZA.o]at hsa hrs hra hbe hza;have HRS:=z0 hrs;have HRA:=z0 hra;have HBE:=z0 hbe;clear hrs hra hbe hzs hza;go_wp2;try simp only[Exit.inBlock,Exit.then]
   refine Bp (zB rfl _ _ _ _ _ _ _ _ _ rfl rfl rfl HRS.o HRA.o HZZ.o.1 HZZ.o.2) rfl ⟨?_,HBE.o⟩;rw[HQ.o,<-HZS.o,<-HZA.o];rfl
  |false=>
   have HQ:Hd (vy s v=⟨⟨v,1,s.pv,s.pa⟩,⟨0,1,v,1,qx,s.pv,s.pa,qx⟩,0⟩):=z0 (by rw[HQ0.o];exact VO HO.o);go_upto_region 5 with(fail)
   have HRD:=z0 (HR2.o.below ((Below.refl w2.heap.size w2).drew));obtain⟨hst,hsa,hrs,hra,hbe,hzs,hza⟩:=HRD.o.fin (t:=⟨⟨v,1,s.pv,s.pa⟩,⟨0,1,v,1,qx,s.pv,s.pa,qx⟩,0⟩) HTK.o;simp only at hst hsa hrs hra hbe hzs hza;rw[HN.o]at hst hsa hrs hra hbe hzs;rw[HA0.o]at hsa hrs hra hbe hza;have HRS:=z0 hrs;have HRA:=z0 hra;have HBE:=z0 hbe;have HSZ:=z0 (And.intro hzs hza);clear hrs hra hbe hzs hza;have hb4:=HB4.o;have hb5:=HB5.o
   have HKP:Hd (∀W,xu (w.heap.size+1) (w.heap.size+2) w2.drew W->W.cell? ⟨w.heap.size,2,none⟩=some (.int .i64 s.pv)/\qE (.pointer (some ⟨w.heap.size,3,none⟩)) W=.ok (.value (.agg P)) W):=z0 (fun W t=>by
    have h:=HSC.o W _ ((t.block _ (Lb HB2.o) (by omega) (by omega)).trans HB2.o)
    exact⟨h.1.2.2,h.2⟩)
   refine Rh (S:=fun W=>xu (w.heap.size+1) (w.heap.size+2) w2.drew W) (by kernel_rfl) (xu.refl _ _ _) (fun hHeld=>?_);refine' z5 0 (h:=z5 1 (h:=?_));refine' tk (i:=2) (v:=_) rfl ?_ ?_;rotate_left
   ·(intro W hW;(try dsimp only at hW);obtain⟨hW1,hW2⟩:=HKP.o W hW;go_simp;first|done|with_reducible rfl)
   try simp only[zx]
   refine' z5 3 (h:=?_);refine' tk (i:=4) (v:=_) rfl ?_ ?_;rotate_left
   ·(intro W hW;(try dsimp only at hW);obtain⟨hW1,hW2⟩:=HKP.o W hW;go_simp;first|done|with_reducible rfl)
   try simp only[zx]
   refine' z5 5 (h:=z5 6 (h:=z5 7 (h:=?_)));refine' tk (i:=8) (v:=_) rfl ?_ ?_;rotate_left
   ·(intro W hW;(try dsimp only at hW);obtain⟨hW1,hW2⟩:=HKP.o W hW;go_simp;first|done|with_reducible rfl)
   try simp only[zx]
   refine' z5 9 (h:=?_);refine' tk (i:=10) (v:=_) rfl ?_ ?_;rotate_left
   ·(intro W hW;(try dsimp only at hW);obtain⟨hW1,hW2⟩:=HKP.o W hW;go_simp;first|done|with_reducible rfl)
   try simp only[zx]
   refine' z5 11 (h:=?_);refine qc 12 (h:=fun K hK=>?_);go_simp;refine hK.out _ _ ((xu.refl _ _ _).setS N) (fun hHeld=>?_);clear hK K;try simp only[zx]
   refine qc 13 (h:=fun K hK=>?_);go_simp;refine hK.out _ _ (((xu.refl _ _ _).setS N).setY A0) (fun hHeld=>?_);clear hK K;try simp only[zx]
   refine' z5 14 (h:=?_);refine wpAnyH_done (by kernel_rfl) ?_ _;clear hHeld hst hsa;go_wp2;try simp only[Exit.inBlock,Exit.then]
   refine Bp (zB rfl _ _ _ _ _ _ _ _ _ rfl rfl rfl HRS.o HRA.o HSZ.o.1 HSZ.o.2) rfl ⟨?_,HBE.o⟩;rw[HQ.o,<-HN.o,<-HA0.o];rfl
 |false=>
  have HQ:Hd (vy s v=qV 1):=z0 (by unfold vy;rw[if_neg (fun h=>by rw[HM.o]at h;cases h.1)]);obtain⟨hst,hsa,hrs,hra,hbe,hzs,hza⟩:=(HR1.o).fin (t:=qV 1) (qO 1);have hbs:=HBS.o;have hba:=HBA.o;rw[show yw.s (qV 1)=yj from rfl,HZS.o]at hst hsa hrs hra hbe hzs;rw[show yw.a (qV 1)=ju from rfl,HZA.o]at hsa hrs hra hbe hza;have HRS:=z0 hrs;have HRA:=z0 hra;have HBE:=z0 hbe;clear hrs hra hbe hzs hza;go_wp2;try simp only[Exit.inBlock,Exit.then]
  refine Bp (zB rfl _ _ _ _ _ _ _ _ _ rfl rfl rfl HRS.o HRA.o HZZ.o.1 HZZ.o.2) rfl ⟨?_,HBE.o⟩;rw[HQ.o,<-HZS.o,<-HZA.o];rfl
end
end Go.Proofs.YtjlinimnnbfmaaaGreatDoor
