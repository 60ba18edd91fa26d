/-
  Pair MacOf RefKey RefMac Tag RefTag KCheck SePure VaPure AtTagged AtTag SeWords: what each of them says stands at its head.
-/
import Derived.Test.YtjlinimnnbfmaaaGreatDoorPlBs6
import Derived.Test.YtjlinimnnbfmaaaGreatDoorPlBs8
set_option maxRecDepth 20000
set_option maxHeartbeats 6400000
namespace Go.Proofs.YtjlinimnnbfmaaaGreatDoor
open Go.RowKit Go.Proofs.Tryz
section
theorem z2V (r:Operand->Value) (dst:Option Tmp) (ty:TypeId) (pos:String) (after:Array Edge) (guard:Option (Nat×Bool)) (w:World):
  Sem.run prog (execOp r { dst:=dst,op:=.alloc 227,type:=ty,pos:=pos,after:=after,guard:=guard }) w=.ok (.value (.pointer (some ⟨w.heap.size,0,none⟩))) (w.alloc (.cells (z1 64 fun _=>z3 0) 227)):=by
 unfold execOp;simp only[Sem.run_bind,Instr.alloc,jK.run_zero,newVar,newRow,run_newObj_alloc,Sem.run_pure,Result.andThen_ok,Value.cells]
theorem Xr (T:TypeId) (k:Nat) (r:Operand->Value) (x y:Operand) (dst:Option Tmp) (ty:TypeId) (pos:String) (after:Array Edge) (guard:Option (Nat×Bool)) (w:World):
  Sem.run prog (execOp r { dst:=dst,op:=.store (kW T k) x y,type:=ty,pos:=pos,after:=after,guard:=guard }) w=Kp (kW T k) (r x) (r y) w:=rfl
theorem z2W {T:TypeId}{k:Nat} (h:T=k) (x y:Operand):Op.store k x y=Op.store (kW T k) x y:=by
 unfold kW;rw[h]
theorem z82 (W:World):W.drew.heap.size=W.heap.size:=rfl
theorem Yh (W:World) (o:Obj):(W.alloc o).heap.size=W.heap.size+1:=by simp
def xO (W:World) (g:Nat):Prop:=∃f,zK W g 64 f 227
theorem xO.alloc (W:World) (o:Obj) (g:Nat) (h:xO W g):xO (W.alloc o) g:=by
 obtain⟨f,h⟩:=h;exact⟨f,h.alloc o⟩
theorem xO.drew (W:World) (g:Nat) (h:xO W g):xO W.drew g:=h
theorem xO.new (W:World):xO (W.alloc (.cells (z1 64 fun _=>z3 0) 227)) W.heap.size:=⟨_,zK.new W _ _ _⟩
theorem xO.new2 (W:World) (o:Obj):xO ((W.alloc o).alloc (.cells (z1 64 fun _=>z3 0) 227)) (W.heap.size+1):=by
 have:=xO.new (W.alloc o);rw[show(W.alloc o).heap.size=W.heap.size+1 from by simp]at this;exact this
theorem xO.keep {W W':World} (F:Below W.heap.size W W') (g:Nat) (h:xO W g):xO W' g:=by
 obtain⟨f,h⟩:=h;exact⟨f,h.keep F⟩
theorem xO.set (W:World) (k g:Nat) (f:Nat->Value) (h:xO W g):xO (W.setRow k (z1 64 f)) g:=by
 obtain⟨F,h⟩:=h;by_cases e:g=k
 ·subst e;exact⟨f,setRow_heap W g _ _ _ _ h⟩
 ·exact⟨F,(setRow_other W k g _ e).trans h⟩
theorem xO.newOld (W:World) (o:Obj):xO ((W.alloc (.cells (z1 64 fun _=>z3 0) 227)).alloc o) W.heap.size:=xO.alloc _ o _ (xO.new W)
theorem xO.setAlloc (W:World) (o:Obj) (k g:Nat) (f:Nat->Value) (h:xO W g):xO ((W.alloc o).setRow k (z1 64 f)) g:=xO.set _ k g f (xO.alloc W o g h)
theorem xO.setNewOld (W:World) (o:Obj) (k:Nat) (f:Nat->Value):xO (((W.alloc (.cells (z1 64 fun _=>z3 0) 227)).alloc o).setRow k (z1 64 f)) W.heap.size:=xO.set _ k _ f (xO.newOld W o)
theorem xO.setNew2 (W:World) (o:Obj) (k:Nat) (f:Nat->Value):xO (((W.alloc o).alloc (.cells (z1 64 fun _=>z3 0) 227)).setRow k (z1 64 f)) (W.heap.size+1):=xO.set _ k _ f (xO.new2 W o)
theorem xO.setNew (W:World) (k:Nat) (f:Nat->Value):xO ((W.alloc (.cells (z1 64 fun _=>z3 0) 227)).setRow k (z1 64 f)) W.heap.size:=xO.set _ k _ f (xO.new W)
theorem z83 {T:TypeId} (I:T=227) (f:Nat->Value) (h1:∀i,i<64->(f i).oneCell'=true) (W:World) (g:Nat) (h:xO W g):
  Kp (kW T 227) (.pointer (some ⟨g,0,none⟩)) (.agg (z1 64 f)) W=.ok .skip (W.setRow g (z1 64 f)):=by
 obtain⟨F,hg⟩:=h;have G:=run_storeVar_row (P:=prog) W g 227 227 (z1 64 F) (z1 64 f) hg (by rw[jK.size,qh]) (by rw[qh,qh]) (Y7 h1);unfold kW;rw[I];unfold Kp execOp;simp only[Instr.storeAt,Instr.sureAddr,Sem.run_bind,Sem.run_pure,Result.andThen_ok,G]
theorem z74 {W:World}{F G:Nat}{J I:Nat->Value} (M:xO W F) (N:xO W G) (K:F≠G):
  zK ((W.setRow F (z1 64 J)).setRow G (z1 64 I)) F 64 J 227/\zK ((W.setRow F (z1 64 J)).setRow G (z1 64 I)) G 64 I 227:=by
 obtain⟨a0,h1⟩:=M;obtain⟨O,h2⟩:=N;exact⟨(setRow_other _ _ _ _ K).trans (setRow_heap W F _ _ _ _ h1),setRow_heap _ G _ _ _ _ ((setRow_other W F G _ (fun e=>K e.symm)).trans h2)⟩
def Ok (w:World) (R B:Nat) (b:Nat->UInt8) (W:World):Prop:=R<B/\B<W.heap.size/\zK W R 32 (fun _=>z3 0) 38/\zK W B 64 (fun j=>z3 (b j)) 227/\Below R w W
section
variable {w:World}{R B:Nat}{b:Nat->UInt8}
theorem Ok.alloc (W:World) (o:Obj) (h:Ok w R B b W):Ok w R B b (W.alloc o):=⟨h.1,by have:=h.2.1;simp;omega,h.2.2.1.alloc o,h.2.2.2.1.alloc o,h.2.2.2.2.alloc (by have:=h.1;have:=h.2.1;omega) o⟩
theorem Ok.drew (W:World) (h:Ok w R B b W):Ok w R B b W.drew:=⟨h.1,h.2.1,h.2.2.1,h.2.2.2.1,h.2.2.2.2.drew⟩
theorem Ok.keep {W W':World} (F:Below W.heap.size W W') (h:Ok w R B b W):Ok w R B b W':=⟨h.1,Nat.lt_of_lt_of_le h.2.1 F.size,h.2.2.1.keep F,h.2.2.2.1.keep F,h.2.2.2.2.trans (F.mono (by have:=h.1;have:=h.2.1;omega))⟩
theorem Ok.set (W:World) (g:Nat) (f:Nat->Value) (hg:B<g) (h:Ok w R B b W):Ok w R B b (W.setRow g (z1 64 f)):=
 ⟨h.1,by have:=h.2.1;simp;omega,(setRow_other W g R _ (by have:=h.1;omega)).trans h.2.2.1,(setRow_other W g B _ (by omega)).trans h.2.2.2.1,zh h.2.2.2.2 (g:=g) (by have:=h.1;omega) ⟨rfl,rfl,rfl,by simp,fun k _ F=>setRow_other W g k _ (fun e=>F (by simp[e]))⟩ (by have:=h.1;have:=h.2.1;omega)⟩
end
def z75 (w:World) (R B:Nat) (b:Nat->UInt8) (K I:Nat->Value) (M J:Value) (W:World):Prop:=
 ∃F G,M=.pointer (some ⟨F,0,none⟩)/\J=.pointer (some ⟨G,0,none⟩)/\R<F/\R<G/\zK W F 64 K 227/\zK W G 64 I 227/\Ok w R B b W
theorem z75.of {w:World}{R B F G:Nat}{b:Nat->UInt8}{J I:Nat->Value}{W:World} (K:xO W F) (M:xO W G) (N:F≠G) (O:R<F) (a0:R<G) (a1:Ok w R B b ((W.setRow F (z1 64 J)).setRow G (z1 64 I))):
  z75 w R B b J I (.pointer (some ⟨F,0,none⟩)) (.pointer (some ⟨G,0,none⟩)) ((W.setRow F (z1 64 J)).setRow G (z1 64 I)):=
 ⟨F,G,rfl,rfl,O,a0,(z74 K M N).1,(z74 K M N).2,a1⟩
end
section
theorem z76:(prog.info? 33).map (fun i=>(i.zero,i.size,i.bytes))=some (some (.slice none 0 0),1,24):=by kernel_rfl
theorem QK:prog.underlying 189=some (.slice 33):=by kernel_rfl
theorem z77 (w:World) (x:Value) (T:TypeId):∀j u,([x]:List Value)[j]?=some u->(w.alloc (.cells #[x] T)).cell? ((⟨w.heap.size,0,none⟩:Addr).add j)=some u:=fun j u h=>by
 have F:j<1:=(List.getElem?_eq_some_iff.1 h).1;obtain rfl:j=0:=by omega
 have e:=cell_one_new w x T 0 u (by simpa using h);exact e
theorem z78 {w w':World}{F n B:Nat}{G:Nat->Value} (J:∀j,j<n->w.cell? ⟨F,j,none⟩=some (G j)) (K:Below B w w') (hg:F<B):∀j u,((List.range n).map G)[j]?=some u->w'.cell? ((⟨F,0,none⟩:Addr).add j)=some u:=fun j u h=>by
 have I:j<n:=by
  have:=(List.getElem?_eq_some_iff.1 h).1
  simpa using this
 have e:u=G j:=by
  rw[List.getElem?_map,List.getElem?_range I]at h
  simpa using h.symm
 rw[y9,Nat.zero_add,e];exact(K.cell (p:=⟨F,j,none⟩) hg).trans (J j I)
theorem z4g {w:World}{v:Value}{l:List UInt8} (h:zP w v l):v.oneCell'=true:=by
 obtain⟨A,c,rfl,_⟩:=h;rfl
attribute [local go_sem ↓] YT Xr z2V
set_option maxRecDepth 100000 in
theorem z84 (v:Value) (key:List UInt8) (ls:List (List UInt8)) (vs:Nat->Value) (gp n c:Nat) (w:World) (hv:zP w v key) (hs:key.length<=1000000) (hn:ls.length=n) (hg:gp<w.heap.size)
  (hc:∀j,j<n->w.cell? ⟨gp,j,none⟩=some (vs j)) (hvs:∀j (h:j<ls.length),zP w (vs j) ls[j]) (hls:ls.flatten.length<=100000000) (hn2:n<=900) (hK:yB 1 w):
  Calls prog 128 #[v,.slice (some ⟨gp,0,none⟩) n c] w fun e w'=>e=.returned (.agg (z1 32 fun j=>z3 (zb8 key ls.flatten j)))/\Below w.heap.size w w':=by
 have HN:=z0 hn;have HC:=z0 hc;have HVS:=z0 hvs;clear hn hc hvs;go_enter func128,ntmps128;go_wp2_with (refine zb qo rfl rfl ?_);have hb0:Below w.heap.size w (w.alloc (.cells (z1 32 fun _=>z3 0) 38)):=Ba;have hH0:zK (w.alloc (.cells (z1 32 fun _=>z3 0) 38)) w.heap.size 32 (fun _=>z3 0) 38:=zK.new w _ _ _;generalize w.alloc (.cells (z1 32 fun _=>z3 0) 38)=w0 at *;refine(z2M _ key w0 (hv.below hb0) hs (hK.below hb0)).mono ?_;rintro e w1 ⟨rfl,hb1⟩;have hb1':=hb0.trans (hb1.mono hb0.size);have hH1:=hH0.keep hb1;clear hb0 hH0 hb1
 go_wp2_with (first
  |(refine zb jK rfl rfl ?_)
  |(refine z8 jK rfl _ _ rfl rfl rfl (zK.new w1 64 (fun _=>z3 0) 227) (fun _ _=>rfl) ?_;intro w2 hg2 hB2 hs2))
 have hok2:Ok w w.heap.size w1.heap.size (qR key) w2:=by
  refine⟨hH1.lt,hB2.lt,(hH1.alloc (.cells (z1 64 fun _=>z3 0) 227)).grown hg2 (fun e=>by have:=Option.some.inj e;have:=hH1.lt;omega),hB2,?_⟩;exact(hb1'.alloc hb1'.size (.cells (z1 64 fun _=>z3 0) 227)).grown hg2 (by have:=hb1'.size;simp;omega) (fun k hk=>by injection hk;have:=hb1'.size;omega)
 clear hg2 hB2 hs2 hH1 hb1';obtain⟨B,HB⟩:=nm (w1.heap.size:Nat);obtain⟨R,HR⟩:=nm (w.heap.size);rw[HB.o,HR.o]at hok2⊢;try go_frame
 go_cut [6,7] (fun s6 s7 wx=>z75 w R B (qR key) (fun j=>z3 (qR key j ^^^ 54)) (fun j=>z3 (qR key j ^^^ 92)) s6 s7 wx)
 case first=>
  have hlt:=hok2.2.1;have hlt2:B<w2.heap.size+1:=by omega
  obtain⟨T,HT⟩:∃T:TypeId,Hd (T=227):=⟨_,z0 rfl⟩
  have hL:=KY HT.o;have hLS:=z2W HT.o;simp only[hL,hLS];clear hL hLS;obtain⟨D,HD⟩:=nm (z1 64 (fun j=>z3 (qR key j)));have MI:=z0d (qR key) 54 54 rfl;have MO:=z0d (qR key) 92 92 rfl;rw[HD.o]at MI MO;have HMI:=z0 MI;have HMO:=z0 MO;clear MI MO;have hld:∀w':World,Ok w R B (qR key) w'->KW (kW T 227) (.pointer (some ⟨B,0,none⟩)) w'=.ok (.value (.agg D)) w':=fun w' h=>by
   rw[<-HD.o];exact z0b (o:=0) HT.o jK h.2.2.2.1 (by omega) (fun j _=>by rw[Nat.zero_add])
  have hst:=fun x=>z83 HT.o (fun j=>z3 (qR key j ^^^ x)) (fun _ _=>rfl);have r1:=xO.alloc;have r2:=xO.new;have r3:=xO.new2;have r4:=xO.drew;have r5:=xO.set;have r6:=xO.newOld;have r7:=xO.setAlloc;have r8:=xO.setNewOld;have r9:=xO.setNew2;have r10:=xO.setNew;have o1:=fun W o=>Ok.alloc (w:=w) (R:=R) (B:=B) (b:=qR key) W o;have o2:=fun W=>Ok.drew (w:=w) (R:=R) (B:=B) (b:=qR key) W;have o3:=fun W g f=>Ok.set (w:=w) (R:=R) (B:=B) (b:=qR key) W g f;go_region_held3 (fun w'=>Ok w R B (qR key) w')
   (first|assumption|(exact o2 _ (o1 _ _ hok2))|(exact o2 _ (o1 _ _ (o1 _ _ hok2)))|(simp only[*];done))
   (first
    |(go_at_call 174;(with_reducible refine(HMI.o _).mono ?_);rintro e w3 ⟨rfl,hb3⟩;have ho3:=Ok.keep (w:=w) (R:=R) (B:=B) (b:=qR key) hb3;have hr3:=xO.keep hb3;(try have hp3:=hr3 w2.heap.size (by first|exact r4 _ _ (r2 _)|exact r4 _ _ (r6 _ _)|exact r4 _ _ (r3 _ _)));(try have hp3':=hr3 (w2.heap.size+1) (by first|exact r4 _ _ (r2 _)|exact r4 _ _ (r6 _ _)|exact r4 _ _ (r3 _ _)));have hok3:=ho3 (by assumption);have hl3:B<w3.heap.size:=hok3.2.1;have hm3:B<w3.heap.size+1:=by omega)
    |(go_at_call 174;(with_reducible refine(HMO.o _).mono ?_);rintro e w4 ⟨rfl,hb4⟩;have ho4:=Ok.keep (w:=w) (R:=R) (B:=B) (b:=qR key) hb4;have hr4:=xO.keep hb4;(try have hp4:=hr4 w2.heap.size (by first|assumption|exact r2 _|exact r6 _ _|exact r3 _ _|exact r1 _ _ _ (by assumption)|exact r1 _ _ _ (r1 _ _ _ (by assumption))));(try have hp4':=hr4 (w2.heap.size+1) (by first|assumption|exact r2 _|exact r6 _ _|exact r3 _ _|exact r1 _ _ _ (by assumption)|exact r1 _ _ _ (r1 _ _ _ (by assumption))));(try have hp5:=hr4 w3.heap.size (by first|assumption|exact r2 _|exact r6 _ _|exact r3 _ _|exact r1 _ _ _ (by assumption)|exact r1 _ _ _ (r1 _ _ _ (by assumption))));(try have hp5':=hr4 (w3.heap.size+1) (by first|assumption|exact r2 _|exact r6 _ _|exact r3 _ _|exact r1 _ _ _ (by assumption)|exact r1 _ _ _ (r1 _ _ _ (by assumption))));have hok4:=ho4 (by assumption);have hl4:B<w4.heap.size:=hok4.2.1;have hm4:B<w4.heap.size+1:=by omega)
    |fail)
  all_goals
   have hz3:=hb3.size;have hz4:=hb4.size;have hRB:=hok2.1;try simp only[z82,Yh]at hz3
   try simp only[Yh]at hz4
   clear hld hst r4 r5 r7 r8 r9 r10 o1 o2 o3 ho3 ho4 hr3 hr4;go_wp2;go_meet
   case rel=>exact z75.of (by first|assumption|exact r2 _|exact r6 _ _|exact r3 _ _|exact r1 _ _ _ (by assumption)|exact r1 _ _ _ (r1 _ _ _ (by assumption))) (by first|assumption|exact r2 _|exact r6 _ _|exact r3 _ _|exact r1 _ _ _ (by assumption)|exact r1 _ _ _ (r1 _ _ _ (by assumption))) (by omega) (by omega) (by omega) (by assumption)
 case rest=>
  obtain⟨I,O,rfl,rfl,hRI,hRO,hI,hO,hok⟩:=hcut;clear hok2;obtain⟨i0,hi,hz0,hz1,hz2⟩:=info_parts z76;have hRB:=hok.1;have hBw:=hok.2.1;have hb2:i0.bytes*(n+1)<=281474976710656:=by rw[hz2];omega
  have hb3:n+1<=maxLen:=by unfold maxLen;omega
  have hbw:=hok.2.2.2.2;have hnb:(1+n)*24<=140737488355328:=by omega
  have hnm:1+n<=maxLen:=by unfold maxLen;omega
  have hvo:∀u∈(List.range n).map vs,u.oneCell'=true:=fun u hu=>by
   obtain⟨j,hj,rfl⟩:=List.mem_map.1 hu;have hj2:=List.mem_range.1 hj;exact z4g (HVS.o j (by rw[HN.o];exact hj2))
  have HVO:=z0 hvo;have hgR:gp<R:=by rw[<-HR.o];exact hg
  clear hvo
  go_wp2_with (first
   |(at_make;refine wpList_make_own _ rfl _ _ 189 rfl wc.heap.size 33 i0 (.slice none 0 0) 1 QK hi hz0 hz1 _ _ _ (n+1) rfl rfl (by simp) hb2 hb3 (Nat.le_refl _) ?_;intro w3 hown3 hg3;have hs3:=hg3.size;have hbc3:Below wc.heap.size wc w3:=(Below.refl _ _).grown hg3 (Nat.le_refl _) (fun k h=>by cases h))
   |(at_builtin;refine wpList_append_own _ rfl (.tmp 20) (.tmp 22) 189 rfl wc.heap.size 33 i0 (.slice none 0 0) 1 24 QK hi hz0 hz1 hz2 rfl (by decide) _ _ _ rfl (hown3.alloc (.cells #[.slice (some ⟨I,0,none⟩) 64 64] 33)) ⟨w3.heap.size,0,none⟩ 1 1 [.slice (some ⟨I,0,none⟩) 64 64] rfl rfl (z77 w3 _ _) (by simp[Value.oneCell']) (by unfold maxLen;omega) (by omega) (by simp;omega) ?_;intro v4 w4 hown4 hg4 _;simp only[Nat.zero_add,List.nil_append]at hown4;have hs4:=hg4.size;simp only[Yh]at hs4;have hbc4:Below wc.heap.size wc w4:=(hbc3.alloc hs3 _).grown hg4 (by simp;omega) (fun k hk=>(World.ownsRow.lt hown3 k hk).1))
   |(at_builtin;refine wpList_append_own _ rfl (.tmp 24) (.tmp 25) 189 rfl wc.heap.size 33 i0 (.slice none 0 0) 1 24 QK hi hz0 hz1 hz2 rfl (by decide) _ _ _ rfl hown4 ⟨gp,0,none⟩ n c ((List.range n).map vs) rfl (by simp) (z78 HC.o (hbw.trans (hbc4.mono (by omega))) hgR) HVO.o hnm hnb (by omega) ?_;intro v5 w5 hown5 hg5 _;have hs5:=hg5.size;have hbc5:Below wc.heap.size wc w5:=hbc4.grown hg5 (by omega) (fun k hk=>(World.ownsRow.lt hown4 k hk).1)))
  have hI5:=hI.keep hbc5;have hO5:=hO.keep hbc5;have hR5:=hok.2.2.1.keep hbc5;have hbw5:Below R w w5:=hbw.trans (hbc5.mono (by omega));have hbw5':Below w.heap.size w w5:=by rw[HR.o];exact hbw5
  have hK5:=hK.below hbw5';obtain⟨g5,c5,hg5',hv5,hc5⟩:∃g c,g<w5.heap.size/\v5=.slice (some ⟨g,0,none⟩) (1+n) c/\∀j,j<1+n->w5.cell? ⟨g,j,none⟩=([.slice (some ⟨I,0,none⟩) 64 64] ++ (List.range n).map vs)[j]?:=by
   rcases hown5.2 with ⟨_,h0⟩|⟨g,xz,cur,rfl,_,hh,_⟩
   ·omega
   ·exact⟨g,xz,Lb hh,rfl,fun j hj=>World.ownsRow.cellAt hown5 j (by omega)⟩
  subst hv5;have hs5':wc.heap.size<=w5.heap.size:=hbc5.size;clear hown5 hown4 hown3 hg3 hg4 hg5 hs3 hs4 hs5 hbc3 hbc4 hbc5 hI hO hok hbw hi hz0 hz1 hz2 hb2 hb3 hnb hnm;have hfl:(z0c (qR key) 54 :: ls).flatten=z0c (qR key) 54 ++ ls.flatten:=rfl;have hpl:(z0c (qR key) 54).length=64:=qe _ _
  have C:=z5y (z0c (qR key) 54 :: ls) (fun j=>if j=0 then .slice (some ⟨I,0,none⟩) 64 64 else vs (j - 1)) g5 (1+n) c5 w5 (by rw[List.length_cons,HN.o,Nat.add_comm]) hg5' (fun j hj=>by
   rw[hc5 j hj];rcases j with _|j
   ·rfl
   ·show((List.range n).map vs)[j]?=some (vs (j+1 - 1));rw[List.getElem?_map,List.getElem?_range (by omega)];rfl) (fun j hj=>by
   rcases j with _|j
   ·exact VC hI5 (by unfold maxLen;omega)
   ·have hj2:j<ls.length:=by simpa using hj
    exact(HVS.o j hj2).below hbw5') (by rw[hfl,List.length_append,hpl];omega) (by omega) hK5
  rw[hfl]at C;refine C.mono ?_;clear C hc5 hfl hpl;rintro e w6 ⟨rfl,hb6⟩;have hO6:=hO5.keep hb6;have hR6:=hR5.keep hb6;have hbw6:=hbw5.trans (hb6.mono (by omega));have hs6:wc.heap.size<=w6.heap.size:=by have:=hb6.size;omega
  clear hI5 hO5 hR5 hbw5 hbw5' hK5 hb6
  go_wp2_with (first
   |(refine zb qo rfl rfl ?_)
   |(refine z8 qo rfl _ _ rfl rfl rfl (zK.new w6 32 (fun _=>z3 0) 38) (fun _ _=>rfl) ?_;intro w7 hg7 hH7 hs7))
  have hO7:=(hO6.alloc (.cells (z1 32 fun _=>z3 0) 38)).grown hg7 (fun e=>by have:=Option.some.inj e;have:=hO6.lt;omega);have hR7:=(hR6.alloc (.cells (z1 32 fun _=>z3 0) 38)).grown hg7 (fun e=>by have:=Option.some.inj e;have:=hR6.lt;omega);have hbw7:Below R w w7:=(hbw6.alloc (by omega) (.cells (z1 32 fun _=>z3 0) 38)).grown hg7 (by simp;omega) (fun k hk=>by injection hk;omega);have hs7':wc.heap.size<=w7.heap.size:=by rw[hs7];simp;omega
  obtain⟨H,HH⟩:=nm (w6.heap.size:Nat);rw[HH.o]at hH7⊢;clear hO6 hR6 hbw6 hg7 hs7;go_still_tail 2,(by kernel_rfl)
  change wpList _ _ _ _ _ w7.drew;go_wp2_with fail;have hbz:Below w7.heap.size w7 (w7.alloc (.cells #[.slice (some ⟨O,0,none⟩) 64 64,.slice (some ⟨H,0,none⟩) 32 32] 33)).drew:=Ba.drew;have hbz7:=hbw7.trans (hbz.mono (by omega));have hlen:(z0c (qR key) 92 ++ hl 32 (xy (z0c (qR key) 54 ++ ls.flatten))).length<=1000000:=by
   rw[List.length_append,qe,show(z0c (qR key) 92).length=64 from qe _ _];omega
  refine(z5z (.slice (some ⟨O,0,none⟩) 64 64) (.slice (some ⟨H,0,none⟩) 32 32) (z0c (qR key) 92) (hl 32 (xy (z0c (qR key) 54 ++ ls.flatten))) w7.heap.size 2 _ (by simp) (JD w7 _ _ 0 _ rfl) (JD w7 _ _ 1 _ rfl) ((VC hO7 (by unfold maxLen;omega)).below hbz) ((VC hH7 (by unfold maxLen;omega)).below hbz) rfl hlen (hK.below (by rw[HR.o];exact hbz7))).mono ?_;rintro e w8 ⟨rfl,hb8⟩;have hR8:=(hR7.keep hbz).keep hb8;have hbw8:=hbz7.trans (hb8.mono (by simp;omega));clear hO7 hR7 hH7 hbw7 hbz hbz7 hlen hb8;go_wp2_with (refine z8 qo rfl _ _ rfl rfl rfl hR8 (fun _ _=>rfl) ?_;intro w9 hg9 hA9 hs9);refine Bp (qo.result rfl _ _ rfl hA9) rfl ⟨rfl,?_⟩;rw[HR.o];exact zh hbw8 (g:=R) (Nat.le_refl _) hg9 (by have:=hbw8.size;have:=HR.o;omega)
end
theorem z4h (f:Nat->UInt8) (i j:Nat) (v:Value) (F:v=z3 (f i)):(if j=i then v else z3 (if j<i then f j else 0))=z3 (if j<i+1 then f j else 0):=by
 by_cases e:j=i
 ·subst e;rw[if_pos rfl,if_pos (by omega),F]
 ·rw[if_neg e];by_cases h:j<i
  ·rw[if_pos h,if_pos (by omega)]
  ·rw[if_neg h,if_neg (by omega)]
theorem z0i {w F:World}
  (G:((w.alloc (.cells (z1 64 fun _=>z3 0) 227)).alloc (.cells (z1 64 fun _=>z3 0) 227)).grownBy F (some (w.alloc (.cells (z1 64 fun _=>z3 0) 227)).heap.size))
  (I:zK F (w.alloc (.cells (z1 64 fun _=>z3 0) 227)).heap.size 64 (fun _=>z3 0) 227)
  (J:F.heap.size=((w.alloc (.cells (z1 64 fun _=>z3 0) 227)).alloc (.cells (z1 64 fun _=>z3 0) 227)).heap.size):
  zK F w.heap.size 64 (fun _=>z3 0) 227/\zK F (w.heap.size+1) 64 (fun _=>z3 0) 227/\Below w.heap.size w F/\F.heap.size=w.heap.size+1+1:=by
 have e:(w.alloc (.cells (z1 64 fun _=>z3 0) 227)).heap.size=w.heap.size+1:=by simp
 rw[e]at G I;refine⟨((zK.new w _ _ _).alloc _).grown G (fun e=>by have:=Option.some.inj e;omega),I,?_,by rw[J];simp⟩;exact zh (Ba.alloc (by simp) _) (g:=w.heap.size+1) (by omega) G (by simp;omega)
theorem z5M (v:Value) (key:List UInt8) (w:World) (a0:zP w v key) (aA:key.length<=1000000) (aL:yB 0 w):
  Calls prog 180 #[v] w fun e w'=>e=.returned (.agg (z1 64 fun j=>z3 (qR key j)))/\Below w.heap.size w w':=by
 obtain⟨A,c,rfl⟩:=a0.shape;have aG:=a0.at_.2.1;have aD:=a0.at_.2.2.1;unfold maxLen at aD;have aJ:=z0 aA;go_enter func180,ntmps180;by_cases a8:64<key.length
 ·have hq:(64:Int)<(key.length:Int):=by omega
  go_wp2_with (first
   |(refine zb jK rfl rfl ?_)
   |(refine qa jK rfl rfl ?_)
   |(refine z8 jK rfl _ _ rfl rfl rfl (zK.new _ 64 (fun _=>z3 0) 227) (fun _ _=>rfl) ?_;intro an a4 a2 a3))
  obtain⟨I,F,J,a5⟩:=z0i a4 a2 a3;clear a4 a2 a3;have aE:=z0 a5;clear a5;refine(QH _ key an (a0.below J) aJ.o (aL.below J)).mono ?_;rintro e au ⟨rfl,ad⟩;have ai:=I.keep ad;have K:=F.keep ad;have a7:=J.trans (ad.mono J.size);clear I F J ad
  go_wp2_with (first
   |(refine zb qo rfl rfl ?_)
   |(refine z8 qo rfl _ _ rfl rfl rfl (zK.new au 32 (fun _=>z3 0) 38) (fun _ _=>rfl) ?_;intro az ab af aN))
  have ak:=(ai.alloc (.cells (z1 32 fun _=>z3 0) 38)).grown ab (fun e=>by have:=Option.some.inj e;have:=ai.lt;omega);have ah:=(K.alloc (.cells (z1 32 fun _=>z3 0) 38)).grown ab (fun e=>by have:=Option.some.inj e;have:=K.lt;omega);have a9:=(a7.alloc a7.size (.cells (z1 32 fun _=>z3 0) 38)).grown ab (by have:=a7.size;simp;omega) (fun k aH=>by injection aH;have:=a7.size;omega);have aq:=K.lt;obtain⟨H,aw⟩:=nm (au.heap.size:Nat);obtain⟨G,M⟩:=nm (w.heap.size);rw[aw.o]at af aq⊢;rw[M.o]at ak ah a9 aq⊢;have aR:=a9.size;have a6:zK az (G+1) 64 (fun j=>z3 (if j<0 then qR key j else 0)) 227:=ah.congr fun j _=>by rw[if_neg (by omega)]
  clear ai K a7 ab aN ah;go_wp2_with fail;go_loopw [5] (fun O wr=>∃i:Nat,i<=32/\O=.int .i64 (i:Int)/\Below G w wr/\zK wr H 32 (fun j=>z3 (xy key j)) 38/\zK wr G 64 (fun _=>z3 0) 227/\zK wr (G+1) 64 (fun j=>z3 (if j<i then qR key j else 0)) 227) (fun O _=>32 - (intOf O).toNat)
  case atStart=>exact⟨0,Nat.zero_le _,rfl,a9,af,ak,a6⟩
  case round=>
   clear a9 af ak a6;obtain⟨i,hi,rfl,N,ap,I,F⟩:=hrel;by_cases ae:i<32
   ·have aI:(i:Int)<32:=by omega
    have aF:(i:Int)<64:=by omega
    have am:=ap.cell (i:=i) ae;have aC:=F.cell (i:=i) (by omega);have av:=F.free i;have a1:z3 (xy key i)=z3 (qR key i):=by rw[Kt a8,if_pos ae]
    unfold z3 at am;have aj:=z0 a1;clear a1;go_wp2;go_roundw
    case rel=>
     refine⟨i+1,by omega,by go_num,Zx N (g:=G+1) (by omega) _ _,ap.apart _ _ (by omega),I.apart _ _ (by omega),(F.set (i:=i) (by omega) _).congr fun j _=>?_⟩;exact z4h (qR key) i j _ aj.o
    case measure=>simp[intOf];omega
   ·have aI:¬(i:Int)<32:=by omega
    have K:zK wr (G+1) 64 (fun j=>z3 (qR key j)) 227:=F.congr fun j ay=>by
     by_cases h:j<i
     ·rw[if_pos h]
     ·rw[if_neg h,Kt a8,if_neg (by omega)]
    clear F
    go_wp2_with (first
     |(refine qg jK rfl _ rfl rfl K ?_)
     |(refine z8 jK rfl _ _ rfl rfl rfl I (fun _ _=>rfl) ?_;intro ax ag al aK))
    refine Bp (jK.result rfl _ _ rfl al) rfl ⟨rfl,?_⟩;rw[M.o];exact zh N (g:=G) (by omega) ag (by have:=N.size;have:=M.o;omega)
 ·have hq:¬(64:Int)<(key.length:Int):=by omega
  obtain⟨L,aa⟩:=nm (key.length:Nat);rw[aa.o]at hq aG a0⊢;have aQ:L<=64:=by omega
  go_wp2_with (first
   |(refine zb jK rfl rfl ?_)
   |(refine qa jK rfl rfl ?_)
   |(refine z8 jK rfl _ _ rfl rfl rfl (zK.new _ 64 (fun _=>z3 0) 227) (fun _ _=>rfl) ?_;intro an a4 a2 a3))
  obtain⟨I,F,J,a5⟩:=z0i a4 a2 a3;clear a4 a2 a3;have aE:=z0 a5;clear a5;obtain⟨G,M⟩:=nm (w.heap.size);have aM:=z0 a0;rw[M.o]at I F J⊢;have a6:zK an (G+1) 64 (fun j=>z3 (if j<0 then qR key j else 0)) 227:=F.congr fun j _=>by rw[if_neg (by omega)]
  clear F a0;go_wp2_with fail;go_loopw [6] (fun O wr=>∃i:Nat,i<=L/\O=.int .i64 (i:Int)/\Below G w wr/\zK wr G 64 (fun _=>z3 0) 227/\zK wr (G+1) 64 (fun j=>z3 (if j<i then qR key j else 0)) 227) (fun O _=>L - (intOf O).toNat)
  case atStart=>exact⟨0,Nat.zero_le _,rfl,J,I,a6⟩
  case round=>
   clear J I a6;obtain⟨i,hi,rfl,N,I,F⟩:=hrel;by_cases ae:i<L
   ·have aF:(i:Int)<64:=by omega
    have aB:(i:Int)<(L:Int):=by omega
    have aO:zP wr (.slice A L c) key:=aM.o.below (by rw[M.o];exact N);obtain⟨b,aS,rfl,aP,ao⟩:=aO.at_.2.2.2 (by have:=aa.o;omega);have ar:i<key.length:=by have:=aa.o;omega
    have am:=ao i ar;have aC:=F.cell (i:=i) (by omega);have av:=F.free i;have a1:z3 key[i]=z3 (qR key i):=by rw[Yf a8,List.getD_eq_getElem?_getD,List.getElem?_eq_getElem ar];rfl
    unfold z3 at am;have aj:=z0 a1;clear a1 ao;go_wp2;go_roundw
    case rel=>
     refine⟨i+1,by omega,by go_num,Zx N (g:=G+1) (by omega) _ _,I.apart _ _ (by omega),(F.set (i:=i) (by omega) _).congr fun j _=>?_⟩;exact z4h (qR key) i j _ aj.o
    case measure=>simp[intOf];omega
   ·have aB:¬(i:Int)<(L:Int):=by omega
    have K:zK wr (G+1) 64 (fun j=>z3 (qR key j)) 227:=F.congr fun j ay=>by
     by_cases h:j<i
     ·rw[if_pos h]
     ·rw[if_neg h,Yf a8,List.getD_eq_getElem?_getD,List.getElem?_eq_none (by have:=aa.o;omega)];rfl
    clear F
    go_wp2_with (first
     |(refine qg jK rfl _ rfl rfl K ?_)
     |(refine z8 jK rfl _ _ rfl rfl rfl I (fun _ _=>rfl) ?_;intro ax ag al aK))
    refine Bp (jK.result rfl _ _ rfl al) rfl ⟨rfl,?_⟩;rw[M.o];exact zh N (g:=G) (by omega) ag (by have:=N.size;have:=M.o;omega)
theorem z4i (c x:UInt8) {y z r:Int} (I:(c.toNat:Int)=y) (G:(x.toNat:Int)=z) (F:((c ^^^ x).toNat:Int)=r):bits BinOp.xor IntKind.u8 y z=r:=by
 rw[<-I,<-G,<-F];exact z5B c x
def YD (v u:Value):Prop:=∀k,v.ownBlock=some k->u.ownBlock≠some k
theorem YD.grow {B:Nat}{w:World}{v I u:Value}{l:List UInt8}{N:Nat} (h:YD v u) (J:ql B w u l) (K:w.heap.size<=N) (F:I.ownBlock=v.ownBlock\/I.ownBlock=some N):YD I u:=fun k G e=>by
 rcases F with F|F
 ·rw[F]at G;exact h k G e
 ·rw[F]at G;have h1:=(World.ownsRow.lt J k e).2;injection G with G;omega
theorem YD.swap {v u:Value} (h:YD v u):YD u v:=fun k F e=>h k e F
theorem YD.keep {B:Nat}{w w':World}{v u:Value}{l:List UInt8} (h:YD v u) (F:ql B w u l) (hg:w.grownBy w' v.ownBlock):ql B w' u l:=
 F.keep fun b I e=>hg.block b I (fun G=>h b G.symm e)
theorem z5N (v1 aN:Value) (key a5:List UInt8) (w:World) (bz:zP w v1 key) (bK:zP w aN a5) (bA:key.length<=1000000) (aK:a5.length<=100000) (aM:yB 0 w):
  Calls prog 141 #[v1,aN] w fun e w'=>e=.returned (.agg (z1 32 fun j=>z3 (zb8 key a5 j)))/\Below w.heap.size w w':=by
 go_enter func141,ntmps141;go_wp2_with (refine zb qo rfl rfl ?_);have af:Below w.heap.size w (w.alloc (.cells (z1 32 fun _=>z3 0) 38)):=Ba;have aR:zK (w.alloc (.cells (z1 32 fun _=>z3 0) 38)) w.heap.size 32 (fun _=>z3 0) 38:=zK.new w _ _ _;generalize w.alloc (.cells (z1 32 fun _=>z3 0) 38)=w0 at *;refine(z5M _ key w0 (bz.below af) bA (aM.below af)).mono ?_;rintro e aP ⟨rfl,aF⟩;have ae:=af.trans (aF.mono af.size);have av:=aR.keep aF;clear af aR aF
 go_wp2_with (first
  |(refine zb jK rfl rfl ?_)
  |(refine z8 jK rfl _ _ rfl rfl rfl (zK.new aP 64 (fun _=>z3 0) 227) (fun _ _=>rfl) ?_;intro I aD ar aK))
 have aJ:=(av.alloc (.cells (z1 64 fun _=>z3 0) 227)).grown aD (fun e=>by have:=Option.some.inj e;have:=av.lt;omega);have aI:=(ae.alloc ae.size (.cells (z1 64 fun _=>z3 0) 227)).grown aD (by have:=ae.size;simp;omega) (fun k F=>by injection F;have:=ae.size;omega);have aT:w.heap.size<aP.heap.size:=av.lt;obtain⟨B,be⟩:=nm (aP.heap.size:Nat);obtain⟨R,a1⟩:=nm (w.heap.size);rw[be.o]at ar aT⊢;rw[a1.o]at aJ aI aT⊢;have bO:=ar.lt;have K:ql (B+1) ((I.alloc (.cells #[] 5)).alloc (.cells #[] 5)) (.slice (some ⟨I.heap.size,0,none⟩) 0 0) []:=(World.ownsRow_made I #[] 0 (by omega) (Nat.zero_le _) rfl:ql (B+1) (I.alloc (.cells #[] 5)) _ []).alloc _;have G:ql (B+1) ((I.alloc (.cells #[] 5)).alloc (.cells #[] 5)) (.slice (some ⟨I.heap.size+1,0,none⟩) 0 0) []:=by
  have:ql (B+1) ((I.alloc (.cells #[] 5)).alloc (.cells #[] 5)) (.slice (some ⟨(I.alloc (.cells #[] 5)).heap.size,0,none⟩) 0 0) []:=World.ownsRow_made (I.alloc (.cells #[] 5)) #[] 0 (by simp;omega) (Nat.zero_le _) rfl
  simpa using this
 have bj:zK ((I.alloc (.cells #[] 5)).alloc (.cells #[] 5)) B 64 (fun j=>z3 (qR key j)) 227:=(ar.alloc _).alloc _;have bh:zK ((I.alloc (.cells #[] 5)).alloc (.cells #[] 5)) R 32 (fun _=>z3 0) 38:=(aJ.alloc _).alloc _;have b5:Below R w ((I.alloc (.cells #[] 5)).alloc (.cells #[] 5)):=(aI.alloc (by omega) _).alloc (by simp;omega) _;have aO:YD (.slice (some ⟨I.heap.size,0,none⟩) 0 0) (.slice (some ⟨I.heap.size+1,0,none⟩) 0 0):=fun k F e=>by
  simp[Value.ownBlock]at F e;omega
 have bd:I.heap.size=B+1:=by rw[aK,<-be.o];simp
 rw[bd]at K G aO;clear aD aK ar aJ aI av ae bd;go_wp2_with fail;go_loopw [6,7,8] (fun aW ak a4 wr=>∃i:Nat,i<=64/\a4=.int .i64 (i:Int)/\Below R w wr/\zK wr R 32 (fun _=>z3 0) 38/\zK wr B 64 (fun j=>z3 (qR key j)) 227/\ql (B+1) wr aW (hl i fun j=>qR key j ^^^ 54)/\ql (B+1) wr ak (hl i fun j=>qR key j ^^^ 92)/\Hd (YD aW ak)) (fun _ _ a4 _=>64 - (intOf a4).toNat)
 case atStart=>exact⟨0,Nat.zero_le _,rfl,b5,bh,bj,K,G,z0 aO⟩
 case round=>
  clear b5 bh bj K G aO;obtain⟨i,hi,rfl,O,a9,az,K,G,ao⟩:=hrel;have bp:=az.lt;by_cases an:i<64
  ·have bC:(i:Int)<64:=by omega
   have bn:=az.cell (i:=i) an;obtain⟨y,a3⟩:=nm (((qR key i).toNat:Int):Int);obtain⟨r1,aX⟩:=nm (((qR key i ^^^ 54).toNat:Int):Int);obtain⟨r2,b1⟩:=nm (((qR key i ^^^ 92).toNat:Int):Int);have bt:=z4i (qR key i) 54 (z:=54) a3.o rfl aX.o;have bH:=z4i (qR key i) 92 (z:=92) a3.o rfl b1.o;unfold z3 at bn;rw[a3.o]at bn;have N:(hl i fun j=>qR key j ^^^ 54).length+([qR key i ^^^ 54]:List UInt8).length<=140737488355328:=by rw[qe,List.length_singleton];omega
   have b0:(hl i fun j=>qR key j ^^^ 92).length+([qR key i ^^^ 92]:List UInt8).length<=140737488355328:=by rw[qe,List.length_singleton];omega
   have a0:B+1<=(wr.alloc (.cells #[.int .u8 r1] 5)).heap.size:=by simp;omega
   go_wp2_with (first
    |(at_builtin;refine z9 rfl (.tmp 19) (.tmp 24) rfl rfl rfl (K.alloc _) (jP _ _ (qR key i ^^^ 54) aX.o.symm) N a0 ?_;intro ag ab aa J am;have ad:=ao.o.keep (G.alloc (.cells #[.int .u8 r1] 5)) J;have aL:=(az.alloc (.cells #[.int .u8 r1] 5)).grown J (fun e=>by have:=(World.ownsRow.lt K B e).1;omega);have bc:=aL.cell (i:=i) an;rw[show z3 (qR key i)=.int .u8 y from by unfold z3;rw[a3.o]]at bc;have a8:=J.size;have ba:B+1<=(ab.alloc (.cells #[.int .u8 r2] 5)).heap.size:=Nat.le_trans a0 (Nat.le_trans a8 (by simp)))
    |(at_builtin;refine z9 rfl (.tmp 26) (.tmp 31) rfl rfl rfl (ad.alloc _) (jP _ _ (qR key i ^^^ 92) b1.o.symm) b0 ba ?_;intro bB a7 b7 al aZ))
   have aG:YD ag u7:=ao.o.grow (G.alloc (.cells #[.int .u8 r1] 5)) (Nat.le_refl _) am;have bg:ql (B+1) a7 ag ((hl i fun j=>qR key j ^^^ 54) ++ [qR key i ^^^ 54]):=aG.swap.keep (aa.alloc (.cells #[.int .u8 r2] 5)) al;have bq:YD ag bB:=(aG.swap.grow (aa.alloc (.cells #[.int .u8 r2] 5)) (Nat.le_refl _) aZ).swap;have a6:Below R w ab:=(O.alloc (by omega) _).grown J (by simp;omega) (fun k F=>by have:=(World.ownsRow.lt K k F).1;omega);have a2:Below R w a7:=(a6.alloc (by simp at a8;omega) _).grown al (by simp at a8⊢;omega) (fun k F=>by have:=(World.ownsRow.lt G k F).1;omega);have ai:=(a9.alloc (.cells #[.int .u8 r1] 5)).grown J (fun e=>by have:=(World.ownsRow.lt K R e).1;omega);have aj:=(ai.alloc (.cells #[.int .u8 r2] 5)).grown al (fun e=>by have:=(World.ownsRow.lt G R e).1;omega);have bE:=(aL.alloc (.cells #[.int .u8 r2] 5)).grown al (fun e=>by have:=(World.ownsRow.lt G B e).1;omega);rw[<-XD i fun j=>qR key j ^^^ 54]at bg;rw[<-XD i fun j=>qR key j ^^^ 92]at b7;clear J al am aZ aa ad aL bc a8 ba aG a6 ai N b0 a0 bt bH;go_roundw
   case rel=>exact⟨i+1,by omega,by go_num,a2,aj,bE,bg,b7,z0 bq⟩
   case measure=>simp[intOf];omega
  ·have bC:¬(i:Int)<64:=by omega
   obtain rfl:i=64:=by omega
   have N:(hl 64 fun j=>qR key j ^^^ 54).length+a5.length<=140737488355328:=by rw[qe];omega
   have a0:B+1<=wr.heap.size:=bp;have b8:zP wr aN a5:=bK.below (by rw[a1.o];exact O);have aq:((hl 64 fun j=>qR key j ^^^ 54) ++ a5).length<=1000000:=by rw[List.length_append,qe];omega
   have bw:Below w.heap.size w wr:=by rw[a1.o];exact O
   go_wp2_with (at_builtin;refine z9 rfl (.tmp 33) (.tmp 34) rfl rfl rfl K b8 N a0 ?_;intro ag ab aa J am);have ad:=ao.o.keep G J;have a6:Below R w ab:=O.grown J (by omega) (fun k F=>by have:=(World.ownsRow.lt K k F).1;omega);have ai:=a9.grown J (fun e=>by have:=(World.ownsRow.lt K R e).1;omega);refine(QH ag _ ab aa.byt aq (aM.below (by rw[a1.o];exact a6))).mono ?_;rintro e a7 ⟨rfl,a2⟩;have au:=ad.below a2;have aj:=ai.keep a2;have a8:=J.size;have b6:=a6.trans (a2.mono (by omega));have bD:=a2.size;clear J am aa ad a6 ai a2 K az G a9 ao b8 N bw aq
   go_wp2_with (first
    |(refine zb qo rfl rfl ?_)
    |(refine z8 qo rfl _ _ rfl rfl rfl (zK.new a7 32 (fun _=>z3 0) 38) (fun _ _=>rfl) ?_;intro aB ay aH bJ))
   have aU:ql (B+1) aB u7 (hl 64 fun j=>qR key j ^^^ 92):=(au.alloc _).keep fun b bF e=>ay.block b bF (fun br=>by have h1:=(World.ownsRow.lt au b e).2;have:=Option.some.inj br;omega);have aC:∀k,u7.ownBlock=some k->k≠a7.heap.size:=fun k F=>by have:=(World.ownsRow.lt au k F).2;omega
   have bo:=(aj.alloc (.cells (z1 32 fun _=>z3 0) 38)).grown ay (fun e=>by have:=Option.some.inj e;have:=aj.lt;omega);have aY:Below R w aB:=(b6.alloc (by omega) (.cells (z1 32 fun _=>z3 0) 38)).grown ay (by simp;omega) (fun k F=>by injection F;omega);obtain⟨ah,aQ⟩:=nm (a7.heap.size:Nat);obtain⟨M,b9⟩:=nm (xy ((hl 64 fun j=>qR key j ^^^ 54) ++ a5):Nat->UInt8);rw[aQ.o,b9.o]at aH;rw[aQ.o]at aC⊢;have bQ:B+1<=ah:=by have:=aQ.o;omega
   have bi:ql (B+1) aB u7 ((hl 64 fun j=>qR key j ^^^ 92) ++ hl 0 M):=by
    have e:hl 0 M=[]:=rfl;rw[e,List.append_nil];exact aU
   have bb:=z0 aC;clear au aj ay bJ b6 a8 bD aU aC;go_wp2_with fail;go_loopw [7,10] (fun ak a4 wr=>∃i:Nat,i<=32/\a4=.int .i64 (i:Int)/\Below R w wr/\zK wr R 32 (fun _=>z3 0) 38/\zK wr ah 32 (fun j=>z3 (M j)) 38/\ql (B+1) wr ak ((hl 64 fun j=>qR key j ^^^ 92) ++ hl i M)/\Hd (∀k,ak.ownBlock=some k->k≠ah)) (fun _ a4 _=>32 - (intOf a4).toNat)
   case atStart=>exact⟨0,Nat.zero_le _,rfl,aY,bo,aH,bi,bb⟩
   case round=>
    clear aY bo aH bi bb;obtain⟨i,hi,rfl,O,a9,aw,G,aE⟩:=hrel;have bR:=aw.lt;by_cases an:i<32
    ·have bG:(i:Int)<32:=by omega
     have bk:=aw.cell (i:=i) an;unfold z3 at bk;obtain⟨y,a3⟩:=nm (((M i).toNat:Int):Int);rw[a3.o]at bk;have N:((hl 64 fun j=>qR key j ^^^ 92) ++ hl i M).length+([M i]:List UInt8).length<=140737488355328:=by rw[List.length_append,qe,qe,List.length_singleton];omega
     have a0:B+1<=(wr.alloc (.cells #[.int .u8 y] 5)).heap.size:=by simp;omega
     go_wp2_with (at_builtin;refine z9 rfl (.tmp 41) (.tmp 45) rfl rfl rfl (G.alloc _) (jP _ _ (M i) a3.o.symm) N a0 ?_;intro bu aS bl ap b4);have ax:Below R w aS:=(O.alloc (by omega) _).grown ap (by simp;omega) (fun k F=>by have:=(World.ownsRow.lt G k F).1;omega);have aA:=(a9.alloc (.cells #[.int .u8 y] 5)).grown ap (fun e=>by have:=(World.ownsRow.lt G R e).1;omega);have bI:=(aw.alloc (.cells #[.int .u8 y] 5)).grown ap (fun e=>aE.o ah e rfl);have bf:∀k,bu.ownBlock=some k->k≠ah:=fun k F=>by
      rcases b4 with e|e
      ·rw[e]at F;exact aE.o k F
      ·rw[e]at F;injection F with F;simp at F;omega
     have bx:=z0 bf;rw[List.append_assoc,<-XD i M]at bl;clear ap b4 N a0 bf;go_roundw
     case rel=>exact⟨i+1,by omega,by go_num,ax,aA,bI,bl,bx⟩
     case measure=>simp[intOf];omega
    ·have bG:¬(i:Int)<32:=by omega
     obtain rfl:i=32:=by omega
     have bM:=G.byt;have aq:((hl 64 fun j=>qR key j ^^^ 92) ++ hl 32 M).length<=1000000:=by rw[List.length_append,qe,qe];omega
     have bv:yB 0 wr:=aM.below (by rw[a1.o];exact O);clear aw G aE;go_wp2_with fail;refine(QH _ _ wr bM aq bv).mono ?_;rintro e aS ⟨rfl,ax⟩;have aA:=a9.keep ax;have aV:=O.trans (ax.mono (by omega));go_wp2_with (refine z8 qo rfl _ _ rfl rfl rfl aA (fun _ _=>rfl) ?_;intro bN bL bm bP);rw[<-b9.o]at bm;refine Bp (qo.result rfl _ _ rfl bm) rfl ⟨rfl,?_⟩;rw[a1.o];exact zh aV (g:=R) (Nat.le_refl _) bL (by have:=aV.size;have:=a1.o;omega)
def Qd (i:Int) (d:UInt8) (F:List UInt8):Nat->UInt8:=if zS i=true then zb8 (hl 32 (z43 i)) (d :: F) else fun _=>0
theorem z79 {i:Int} (h:zS i=false) (d:UInt8) (F:List UInt8):Qd i d F=fun _=>0:=if_neg (by rw[h];decide)
theorem z4j {i:Int} (h:zS i=true) (d:UInt8) (F:List UInt8):Qd i d F=zb8 (hl 32 (z43 i)) (d :: F):=if_pos h
theorem z9H (w:World) (o:Obj) (x:Value) (T:TypeId):∀j u,([x]:List Value)[j]?=some u->((w.alloc o).alloc (.cells #[x] T)).cell? ((⟨w.heap.size+1,0,none⟩:Addr).add j)=some u:=fun j u h=>by
 have:=z77 (w.alloc o) x T j u h;rw[show(w.alloc o).heap.size=w.heap.size+1 from by simp]at this;exact this
theorem z85 {w F:World} (h:Below w.heap.size w F) (o G:Obj):Below w.heap.size w ((F.alloc o).alloc G):=(h.alloc h.size _).alloc (by have:=h.size;simp;omega) _
theorem z86 {w:World}{B n size g:Nat}{T U:TypeId}{v:Value}{F:List Value}{C:Array Value} (I:T≠U) (h:w.ownsRow B T size v n F) (hg:w.heap[g]?=some (.cells C U)):v.ownBlock≠some g:=fun e=>by
 rcases h.2 with ⟨rfl,_⟩|⟨k,xz,cur,rfl,_,G,_⟩
 ·cases e
 ·injection e with e;subst e;rw[G]at hg;injection hg with hg;injection hg with _ h2;exact I h2
theorem z5O {F I w5:World}{B:Nat}{x:Int}{d:UInt8}{J:Obj}{r4 K:Value}{M:Nat}{N:List Value} (hx:(d.toNat:Int)=x)
  (a0:((F.alloc (.cells #[.int .u8 x] 5)).alloc J).grownBy I r4.ownBlock) (a1:∀k,r4.ownBlock=some k->k<F.heap.size) (a3:I.ownsRow B 33 1 K M N) (a4:I.grownBy w5 K.ownBlock):
  zP w5 (.slice (some ⟨F.heap.size,0,none⟩) 1 1) [d]:=by
 have h0:((F.alloc (.cells #[.int .u8 x] 5)).alloc J).heap[F.heap.size]?=some (.cells #[.int .u8 x] 5):=Zj F _ J;have G:=(a0.block F.heap.size (by simp;omega) (fun e=>by have:=a1 _ e.symm;omega)).trans h0;have O:=(a4.block F.heap.size (Lb G) (fun e=>z86 (U:=5) (by decide) a3 G e.symm)).trans G;have a2:=Jm (l:=[d]) (T:=5) (m:=(0,0)) (w:=w5) (g:=F.heap.size) (by rw[O,<-hx];rfl) (by show 1<=maxLen;unfold maxLen;omega);exact a2
theorem z1Y {w F G:World}{f:Nat->Value} (K:zK F w.heap.size 32 (fun _=>z3 0) 38) (I:Below w.heap.size w F)
    (J:(F.alloc (.cells (z1 32 fun _=>z3 0) 38)).grownBy G (some F.heap.size)) (N:zK G F.heap.size 32 f 38):
    zK G w.heap.size 32 (fun _=>z3 0) 38/\Below w.heap.size w G/\F.heap.size<G.heap.size:=
  ⟨(K.alloc (.cells (z1 32 fun _=>z3 0) 38)).grown J (fun e=>by have:=Option.some.inj e;have:=K.lt;omega),
   (I.alloc I.size (.cells (z1 32 fun _=>z3 0) 38)).grown J (by have:=I.size;simp;omega) (fun k M=>by injection M;have:=I.size;omega),N.lt⟩
theorem z2X (i:Int) (d:UInt8) (F:List (List UInt8)) (I:Nat->Value) (a9 n c:Nat) (w:World) (hn:F.length=n) (hg:a9<w.heap.size)
  (ap:∀j,j<n->w.cell? ⟨a9,j,none⟩=some (I j)) (ah:∀j (h:j<F.length),zP w (I j) F[j]) (aM:F.flatten.length<=1000000) (bc:n<=800) (aK:yB 1 w):
  Calls prog 77 #[.int .i64 i,.int .u8 (d.toNat:Int),.slice (some ⟨a9,0,none⟩) n c] w fun e w'=>e=.returned (.agg (z1 32 fun j=>z3 (Qd i d F.flatten j)))/\Below w.heap.size w w':=by
 have M:Below w.heap.size w (w.alloc (.cells (z1 32 fun _=>z3 0) 38)):=Ba;have ak:zK (w.alloc (.cells (z1 32 fun _=>z3 0) 38)) w.heap.size 32 (fun _=>z3 0) 38:=zK.new w _ _ _;cases aa:zS i
 ·rw[z79 aa];have C:=fun w=>jr i w;rw[aa]at C;have a6:=z0 C;clear C hn ap ah;go_enter func77,ntmps77;go_wp2_with (refine zb qo rfl rfl ?_);refine(a6.o _).mono ?_;rintro e w' ⟨rfl,rfl⟩
  go_wp2_with (first
   |(refine qa qo rfl rfl ?_)
   |(refine z8 qo rfl _ _ rfl rfl rfl ak (fun _ _=>rfl) ?_;intro aP ai ao b4))
  refine Bp (qo.result rfl _ _ rfl ao) rfl ⟨rfl,?_⟩;exact zh M (g:=w.heap.size) (by omega) ai M.size
 ·rw[z4j aa];have C:=fun w=>jr i w;rw[aa]at C;have a6:=z0 C;have aD:=z0 hn;have b1:=z0 ap;have ar:=z0 ah;have aO:=z0 aM;clear C hn ap ah aM;obtain⟨x,ay⟩:=nm ((d.toNat:Int):Int);rw[ay.o];go_enter func77,ntmps77;go_wp2_with (refine zb qo rfl rfl ?_);refine(a6.o _).mono ?_;rintro e w' ⟨rfl,rfl⟩;clear a6;generalize w.alloc (.cells (z1 32 fun _=>z3 0) 38)=w0 at *;go_wp2_with fail;refine(zb9 i w0 (aK.below M)).mono ?_;rintro e aL ⟨rfl,an⟩;have aY:=ak.keep an;have aQ:=M.trans (an.mono M.size);clear M ak an;obtain⟨ab,hi,a7,a4,a8⟩:=info_parts z76;have aE:ab.bytes*(n+1)<=281474976710656:=by rw[a8];omega
  have az:n+1<=maxLen:=by unfold maxLen;omega
  have aB:(1+n)*24<=140737488355328:=by omega
  have aN:1+n<=maxLen:=by unfold maxLen;omega
  have aJ:∀u∈(List.range n).map I,u.oneCell'=true:=fun u aW=>by
   obtain⟨j,K,rfl⟩:=List.mem_map.1 aW;have am:=List.mem_range.1 K;exact z4g (ar.o j (by rw[aD.o];exact am))
  have aU:=z0 aJ;clear aJ
  go_wp2_with (first
   |(refine zb qo rfl rfl ?_)
   |(refine z8 qo rfl (.tmp 7) (.tmp 14) rfl rfl rfl (zK.new aL 32 (fun _=>z3 0) 38) (fun _ _=>rfl) ?_;intro G ax aq b5;obtain⟨aA,a1,bb⟩:=z1Y aY aQ ax aq;clear ax b5)
   |(at_make;refine wpList_make_own _ rfl _ _ 189 rfl G.heap.size 33 ab (.slice none 0 0) 1 QK hi a7 a4 _ _ _ (n+1) rfl rfl (by simp) aE az (Nat.le_refl _) ?_;intro J a3 al;have b7:=al.size;have aw:Below G.heap.size G J:=(Below.refl _ _).grown al (Nat.le_refl _) (fun k h=>by cases h))
   |(at_builtin;refine wpList_append_own _ rfl (.tmp 19) (.tmp 22) 189 rfl G.heap.size 33 ab (.slice none 0 0) 1 24 QK hi a7 a4 a8 rfl (by decide) _ _ _ rfl ((a3.alloc (.cells #[.int .u8 x] 5)).alloc (.cells #[.slice (some ⟨J.heap.size,0,none⟩) 1 1] 33)) ⟨J.heap.size+1,0,none⟩ 1 1 [.slice (some ⟨J.heap.size,0,none⟩) 1 1] rfl rfl (z9H J _ _ _) (by simp[Value.oneCell']) (by unfold maxLen;omega) (by omega) (by simp;omega) ?_;intro b9 aR N a5 _;simp only[Nat.zero_add,List.nil_append]at N;have aH:=a5.size;simp only[Yh]at aH;have aj:Below G.heap.size G aR:=(z85 aw _ _).grown a5 (by simp;omega) (fun k a0=>(World.ownsRow.lt a3 k a0).1))
   |(at_builtin;refine wpList_append_own _ rfl (.tmp 24) (.tmp 25) 189 rfl G.heap.size 33 ab (.slice none 0 0) 1 24 QK hi a7 a4 a8 rfl (by decide) _ _ _ rfl N ⟨a9,0,none⟩ n c ((List.range n).map I) rfl (by simp) (z78 b1.o (a1.trans (aj.mono a1.size)) hg) aU.o aN aB (by omega) ?_;intro aT w5 ag ad _;have b0:=ad.size;have a2:Below G.heap.size G w5:=aj.grown ad (by omega) (fun k a0=>(World.ownsRow.lt N k a0).1)))
  have aI:=aA.keep a2;have au:=aq.keep a2;have O:=a1.trans (a2.mono a1.size);have aG:=z5O ay.o a5 (fun k a0=>(World.ownsRow.lt a3 k a0).2) N ad;have aC:=aK.below O;obtain⟨b8,b6,aS,aZ,av⟩:∃g c,g<w5.heap.size/\aT=.slice (some ⟨g,0,none⟩) (1+n) c/\∀j,j<1+n->w5.cell? ⟨g,j,none⟩=([.slice (some ⟨J.heap.size,0,none⟩) 1 1] ++ (List.range n).map I)[j]?:=by
   rcases ag.2 with ⟨_,h0⟩|⟨g,xz,cur,rfl,_,aV,_⟩
   ·omega
   ·exact⟨g,xz,Lb aV,rfl,fun j K=>World.ownsRow.cellAt ag j (by omega)⟩
  subst aZ;clear ag N a3 al a5 ad b7 aH b0 aw aj aA aq a1 hi a7 a4 a8 aE az aB aN;have af:([d] :: F).flatten=d :: F.flatten:=rfl
  have C:=z84 (.slice (some ⟨aL.heap.size,0,none⟩) 32 32) (hl 32 (z43 i)) ([d] :: F) (fun j=>if j=0 then .slice (some ⟨J.heap.size,0,none⟩) 1 1 else I (j - 1)) b8 (1+n) b6 w5 (VC au (by unfold maxLen;omega)) (by rw[qe];omega) (by rw[List.length_cons,aD.o,Nat.add_comm]) aS (fun j K=>by
   rw[av j K];rcases j with _|j
   ·rfl
   ·show((List.range n).map I)[j]?=some (I (j+1 - 1));rw[List.getElem?_map,List.getElem?_range (by omega)];rfl) (fun j K=>by
   rcases j with _|j
   ·exact aG
   ·have am:j<F.length:=by simpa using K
    exact(ar.o j am).below O) (by rw[af,List.length_cons];have:=aO.o;omega) (by omega) aC
  rw[af]at C;refine C.mono ?_;clear C av af aG;rintro e ba ⟨rfl,ae⟩;have aX:=aI.keep ae;have aF:=O.trans (ae.mono O.size);clear aI au O aC ae a2;go_wp2_with (refine z8 qo rfl _ _ rfl rfl rfl aX (fun _ _=>rfl) ?_;intro aP ai ao b4);refine Bp (qo.result rfl _ _ rfl ao) rfl ⟨rfl,?_⟩;exact zh aF (g:=w.heap.size) (Nat.le_refl _) ai aF.size
theorem JY (i:Int) (d:UInt8) (v:Value) (O:List UInt8) (w:World) (ar:zP w v O) (b0:O.length<=90000) (aJ:yB 0 w):
  Calls prog 93 #[.int .i64 i,.int .u8 (d.toNat:Int),v] w fun e w'=>e=.returned (.agg (z1 32 fun j=>z3 (Qd i d O j)))/\Below w.heap.size w w':=by
 have I:Below w.heap.size w (w.alloc (.cells (z1 32 fun _=>z3 0) 38)):=Ba;have aa:zK (w.alloc (.cells (z1 32 fun _=>z3 0) 38)) w.heap.size 32 (fun _=>z3 0) 38:=zK.new w _ _ _;cases hn:zS i
 ·rw[z79 hn];have aG:¬(1<=i/\i<=21):=by
   unfold zS at hn;exact of_decide_eq_false hn
  clear hn ar;by_cases h1:i<1
  ·clear aG;go_enter func93,ntmps93
   go_wp2_with (first
    |(refine zb qo rfl rfl ?_)
    |(refine qa qo rfl rfl ?_)
    |(refine z8 qo rfl _ _ rfl rfl rfl aa (fun _ _=>rfl) ?_;intro av a2 a4 aI))
   refine Bp (qo.result rfl _ _ rfl a4) rfl ⟨rfl,?_⟩;exact zh I (g:=w.heap.size) (by omega) a2 I.size
  ·have h2:21<i:=by omega
   clear aG;go_enter func93,ntmps93
   go_wp2_with (first
    |(refine zb qo rfl rfl ?_)
    |(refine qa qo rfl rfl ?_)
    |(refine z8 qo rfl _ _ rfl rfl rfl aa (fun _ _=>rfl) ?_;intro av a2 a4 aI))
   refine Bp (qo.result rfl _ _ rfl a4) rfl ⟨rfl,?_⟩;exact zh I (g:=w.heap.size) (by omega) a2 I.size
 ·rw[z4j hn];have b5:¬i<1:=by
   unfold zS at hn;have:=of_decide_eq_true hn;omega
  have b4:¬21<i:=by
   unfold zS at hn;have:=of_decide_eq_true hn;omega
  have aW:=z0 ar;clear hn ar;obtain⟨x,aA⟩:=nm ((d.toNat:Int):Int);rw[aA.o];go_enter func93,ntmps93;go_wp2_with (refine zb qo rfl rfl ?_);generalize w.alloc (.cells (z1 32 fun _=>z3 0) 38)=w0 at *;refine(z48 i w0 (aJ.below I)).mono ?_;rintro e a7 ⟨rfl,al⟩;have am:=aa.keep al;have aw:=I.trans (al.mono I.size);clear I aa al;obtain⟨G,aB⟩:=nm (z43 i);rw[aB.o]
  go_wp2_with (first
   |(refine zb qo rfl rfl ?_)
   |(refine z8 qo rfl (.tmp 7) (.tmp 18) rfl rfl rfl (zK.new a7 32 (fun _=>z3 0) 38) (fun _ _=>rfl) ?_;intro a0 ay au aV;obtain⟨aD,ap,aU⟩:=z1Y am aw ay au;clear ay aV))
  have aC:w.heap.size<a7.heap.size:=am.lt;have an:zK (a0.alloc (.cells #[] 5)) w.heap.size 32 (fun _=>z3 0) 38:=aD.alloc _;have ai:zK (a0.alloc (.cells #[] 5)) a7.heap.size 32 (fun j=>z3 (G j)) 38:=au.alloc _;have af:Below w.heap.size w (a0.alloc (.cells #[] 5)):=ap.alloc ap.size _;have ak:ql (a7.heap.size+1) (a0.alloc (.cells #[] 5)) (.slice (some ⟨a0.heap.size,0,none⟩) 0 0) []:=World.ownsRow_made a0 #[] 0 (by omega) (Nat.zero_le _) rfl;obtain⟨J,aQ⟩:=nm (a7.heap.size:Nat);obtain⟨R,a1⟩:=nm (w.heap.size);rw[aQ.o]at ai aC ak⊢;rw[a1.o]at an af aC⊢;clear am aw aD au ap aU;go_loopw [8,9] (fun aO aj wr=>∃j:Nat,j<=32/\aj=.int .i64 (j:Int)/\Below R w wr/\zK wr R 32 (fun _=>z3 0) 38/\zK wr J 32 (fun j=>z3 (G j)) 38/\ql (J+1) wr aO (hl j G)) (fun _ aj _=>32 - (intOf aj).toNat)
  case atStart=>exact⟨0,Nat.zero_le _,rfl,af,an,ai,ak⟩
  case round=>
   clear af an ai ak;obtain⟨j,aY,rfl,ad,aq,a8,K⟩:=hrel;have aZ:=a8.lt;by_cases aM:j<32
   ·have aR:(j:Int)<32:=by omega
    have aK:=a8.cell (i:=j) aM;obtain⟨y,ax⟩:=nm (((G j).toNat:Int):Int);unfold z3 at aK;rw[ax.o]at aK;have a3:(hl j G).length+([G j]:List UInt8).length<=140737488355328:=by rw[qe,List.length_singleton];omega
    have a6:J+1<=(wr.alloc (.cells #[.int .u8 y] 5)).heap.size:=by simp;omega
    go_wp2_with (at_builtin;refine z9 rfl (.tmp 24) (.tmp 28) rfl rfl rfl (K.alloc _) (jP _ _ (G j) ax.o.symm) a3 a6 ?_;intro az N a5 F ae);have ah:=F.size;have M:Below R w N:=(ad.alloc (by omega) _).grown F (by simp;omega) (fun k ao=>by have:=(World.ownsRow.lt K k ao).1;omega);have ab:=(aq.alloc (.cells #[.int .u8 y] 5)).grown F (fun e=>by have:=(World.ownsRow.lt K R e).1;omega);have aS:=(a8.alloc (.cells #[.int .u8 y] 5)).grown F (fun e=>by have:=(World.ownsRow.lt K J e).1;omega);rw[<-XD j G]at a5;clear F ae ah a3 a6;go_roundw
    case rel=>exact⟨j+1,by omega,by go_num,M,ab,aS,a5⟩
    case measure=>simp[intOf];omega
   ·have aR:¬(j:Int)<32:=by omega
    obtain rfl:j=32:=by omega
    have a3:([d]:List UInt8).length+O.length<=140737488355328:=by rw[List.length_singleton];omega
    have a6:J+1<=(wr.alloc (.cells #[.int .u8 x] 5)).heap.size:=by simp;omega
    have aF:zP wr v O:=aW.o.below (by rw[a1.o];exact ad);have a9:ql (J+1) (wr.alloc (.cells #[.int .u8 x] 5)) (.slice (some ⟨wr.heap.size,0,none⟩) 1 1) [d]:=xJ (by rw[Xh,<-aA.o];rfl) (by omega) rfl (by unfold maxLen;omega);go_wp2_with (at_builtin;refine z9 rfl (.tmp 32) (.tmp 33) rfl rfl rfl a9 (aF.alloc _) a3 a6 ?_;intro az N a5 F ae);have ah:=F.size;have M:Below R w N:=(ad.alloc (by omega) _).grown F (by simp;omega) (fun k ao=>by have:=(World.ownsRow.lt a9 k ao).1;omega);have ab:=(aq.alloc (.cells #[.int .u8 x] 5)).grown F (fun e=>by have:=(World.ownsRow.lt a9 R e).1;omega)
    have aL:ql (J+1) N u8 (hl 32 G):=(K.alloc (.cells #[.int .u8 x] 5)).keep fun b aT e=>F.block b aT (fun aN=>by
     have h1:=(World.ownsRow.lt K b e).2;have b1:=Option.some.inj (show some b=some wr.heap.size from aN)
     omega)
    have aH:Below w.heap.size w N:=by rw[a1.o];exact M
    refine(z5N u8 az (hl 32 G) (d :: O) N aL.byt a5.byt (by rw[qe];omega) (by rw[List.length_cons];omega) (aJ.below aH)).mono ?_;rintro e aX ⟨rfl,ag⟩;have aP:=ab.keep ag;have aE:=M.trans (ag.mono (by have:=M.size;omega));clear F ae ah a3 a6 a5 aL a9 aF M aH ab ag ad aq a8 K;go_wp2_with (refine z8 qo rfl _ _ rfl rfl rfl aP (fun _ _=>rfl) ?_;intro av a2 a4 aI);refine Bp (qo.result rfl _ _ rfl a4) rfl ⟨by rw[aB.o],?_⟩;rw[a1.o];exact zh aE (g:=R) (by omega) a2 (by have:=aE.size;have:=a1.o;omega)
section
def Ky (i:Int) (d:UInt8) (f:Nat->UInt8) (F:List UInt8):Bool:=zS i && z0e f (Qd i d F)
attribute [local go_sem ↓] YT
theorem z87 (i:Int) (d:UInt8) (f:Nat->UInt8) (ls:List (List UInt8)) (vs:Nat->Value) (gp n c:Nat) (w:World) (hn:ls.length=n) (hg:gp<w.heap.size)
  (hc:∀j,j<n->w.cell? ⟨gp,j,none⟩=some (vs j)) (hvs:∀j (h:j<ls.length),zP w (vs j) ls[j]) (hls:ls.flatten.length<=1000000) (hn2:n<=800) (hK:yB 1 w):
  Calls prog 104 #[.int .i64 i,.int .u8 (d.toNat:Int),.agg (z1 32 fun j=>z3 (f j)),.slice (some ⟨gp,0,none⟩) n c] w fun e w'=>e=.returned (.bool (Ky i d f ls.flatten))/\Below w.heap.size w w':=by
 have hb0:Below w.heap.size w (w.alloc (.cells (z1 32 fun j=>z3 (f j)) 38)):=Ba;have hA0:zK (w.alloc (.cells (z1 32 fun j=>z3 (f j)) 38)) w.heap.size 32 (fun j=>z3 (f j)) 38:=zK.new w _ _ _;have hb1:=hb0.drew;have CT:=z2X i d ls vs gp n c (w.alloc (.cells (z1 32 fun j=>z3 (f j)) 38)).drew hn (Nat.lt_of_lt_of_le hg hb1.size) (fun j hj=>(hb1.cell (p:=⟨gp,j,none⟩) hg).trans (hc j hj)) (fun j hj=>(hvs j hj).below hb1) hls hn2 (hK.below hb1);have HA0:=z0 hA0;have HG:=z0 hg;clear hA0 hn hc hvs hls hg;cases hnode:zS i
 ·have C:=fun w=>jr i w;rw[hnode]at C;have HC:Hd (∀w,Calls prog 25 #[.int .i64 i] w fun e w'=>e=.returned (.bool false)/\w'=w):=z0 fun w=>(C w).mono fun _ _ ⟨h1,h2⟩=>⟨h1,h2.symm⟩
  have HR:Hd (Ky i d f ls.flatten=false):=z0 (by unfold Ky;rw[hnode];rfl);clear C CT;rw[HR.o];go_enter func104,ntmps104;go_wp2_with fail;generalize w.alloc (.cells (z1 32 fun j=>z3 (f j)) 38)=w0 at *;go_quiet ((go_at_call 25;exact Calls.quiet_of_same (HC.o _)));go_wp2;go_ret;exact⟨rfl,zA hb0 _⟩
 ·have C:=fun w=>jr i w;rw[hnode]at C;have HC:=z0 C;have HR:Hd (Ky i d f ls.flatten=z0e f (Qd i d ls.flatten)):=z0 (by unfold Ky;rw[hnode];rfl);clear C;obtain⟨τ,HT⟩:=nm (Qd i d ls.flatten);rw[HT.o]at CT HR;have CS:=z42 f τ;obtain⟨DA,HDA⟩:=nm (z1 32 (fun j=>z3 (f j)));obtain⟨DT,HDT⟩:=nm (z1 32 (fun j=>z3 (τ j)));obtain⟨sb,HSB⟩:=nm (z0e f τ);rw[HSB.o]at HR CS;rw[HDA.o,HDT.o]at CS;rw[HDT.o]at CT;rw[HR.o];have HCT:=z0 CT;have HCS:=z0 CS;clear CT CS;obtain⟨x,HX⟩:=nm ((d.toNat:Int):Int);rw[HX.o]at HCT⊢;go_enter func104,ntmps104;go_wp2_with fail;generalize w.alloc (.cells (z1 32 fun j=>z3 (f j)) 38)=w0 at *;obtain⟨T,HTT⟩:∃T:TypeId,Hd (T=38):=⟨_,z0 rfl⟩
  have hL:=KY HTT.o;simp only[hL];clear hL;obtain⟨G,HGG⟩:=nm (w.heap.size);have hA0:=HA0.o;rw[HGG.o]at hA0⊢;have hlA:∀w':World,zK w' G 32 (fun j=>z3 (f j)) 38->KW (kW T 38) (.pointer (some ⟨G,0,none⟩)) w'=.ok (.value (.agg DA)) w':=fun w' h=>by
   rw[<-HDA.o];exact z0b (o:=0) HTT.o qo h (by omega) (fun j _=>by rw[Nat.zero_add])
  go_region_held3 (fun w'=>zK w' G 32 (fun j=>z3 (f j)) 38)
   (first|(refine hA0)|(refine(zK.keep (w:=w0.drew) hA0 hb2).keep hb3)|(refine zK.keep (w:=w0.drew) hA0 hb2)|fail)
   (first
    |(go_at_call 150;(with_reducible refine(HCS.o _).mono ?_);rintro e w3 ⟨rfl,hb3⟩;have hB3:Below w.heap.size w w3:=hB2.trans (hb3.mono hB2.size))
    |(go_at_call 77;(with_reducible refine HCT.o.mono ?_);rintro e w2 ⟨rfl,hb2⟩;have hB2:Below w.heap.size w w2:=hb1.trans (hb2.mono hb1.size))
    |(go_at_call 25;refine(HC.o _).mono ?_;rintro e w1 ⟨rfl,rfl⟩)
    |fail)
  all_goals
   go_wp2;go_ret;exact⟨rfl,hB3⟩
end
structure ym where
 vi:Int
 ph:Int
 pv:Int
 pa:List UInt8
 deriving DecidableEq
def yj:ym:=⟨0,0,0,qx⟩
def ym.Ok (s:ym):Prop:=s.pa.length=32
theorem qp:yj.Ok:=rfl
def qZ (s:ym):Bool:=if s.vi=0 then decide (s=yj) else if s.vi<0\/1099511627776<s.vi\/s.ph<1\/3<s.ph\/s.pv<0 then false else decide (s.pv<s.vi) || (decide (s.pv=s.vi) && decide (s.ph=3))
theorem VF {s:ym} (h:qZ s=true):0<=s.vi/\s.vi<=1099511627776/\0<=s.ph/\s.ph<=3/\0<=s.pv/\s.pv<=s.vi:=by
 unfold qZ at h;split at h
 ·rw[decide_eq_true_eq]at h;subst h;decide
 ·split at h
  ·cases h
  ·simp only[Bool.or_eq_true,Bool.and_eq_true,decide_eq_true_eq]at h;omega
def QL (a b:ym):Bool:=decide (a.vi<b.vi) || (decide (a.vi=b.vi) && decide (a.ph<b.ph))
def jd (n:Int) (s:ym):List UInt8:=dg n.toNat ++ (dg s.vi.toNat ++ (dg s.ph.toNat ++ (dg s.pv.toNat ++ s.pa)))
def Kz (i n:Int) (s:ym):List UInt8:=hl 32 (Qd i 3 (jd n s))
theorem YX (i n:Int) (s:ym):(Kz i n s).length=32:=qe _ _
def vF (i n:Int) (s:ym):List UInt8:=jd n s ++ Kz i n s
def jY (n:Int):Bool:=decide (1<=n/\n<=1099511627776)
theorem Qj {n:Int}{s:ym} (ho:s.Ok) (hn:jY n=true) (F:qZ s=true):(jd n s).length<=72:=by
 obtain⟨h1,h2,h3,I,O,a0⟩:=VF F;unfold jY at hn;rw[decide_eq_true_eq]at hn;have K:=zk (n:=n.toNat) (by omega);have J:=zk (n:=s.vi.toNat) (by omega);have N:=zk (n:=s.ph.toNat) (by omega);have M:=zk (n:=s.pv.toNat) (by omega);have G:s.pa.length=32:=ho;unfold jd;simp only[List.length_append];omega
def jG (l:List UInt8):Int×ym×List UInt8×Nat×Bool:=
 let a:=zQ 1099511627776 l 0 true;let b:=zQ 1099511627776 l a.2.1 a.2.2;let c:=zQ 3 l b.2.1 b.2.2;let d:=zQ 1099511627776 l c.2.1 c.2.2;let e:=yk l d.2.1 d.2.2;let f:=yk l e.2.1 e.2.2
 (a.1,⟨b.1,c.1,d.1,e.1⟩,f.1,f.2)
def YY (l:List UInt8):Bool:=((jG l).2.2.2.2 && decide ((jG l).2.2.2.1=l.length)) && (decide (1<=(jG l).1) && qZ (jG l).2.1)
def kQ (i:Int) (l:List UInt8):Int×ym×Int:=
 if YY l=true then if zS i=true/\(jG l).2.2.1=Kz i (jG l).1 (jG l).2.1 then ((jG l).1,(jG l).2.1,0) else (0,yj,7) else (0,yj,2)
theorem zbe (l:List UInt8):(jG l).2.1.Ok:=kI _ _ _
theorem zbf (l:List UInt8):0<=(jG l).1/\(jG l).1<=1099511627776:=by
 unfold jG;simp only;have h:=z00 (most:=1099511627776) (l:=l) (p:=0) (r:=true);unfold zQ;rw[if_neg (by omega)];have e:(1099511627776:Int).toNat=1099511627776:=rfl;rw[e];omega
theorem z4k {l:List UInt8} (h:YY l=true):l=jd (jG l).1 (jG l).2.1 ++ (jG l).2.2.1/\jY (jG l).1=true/\qZ (jG l).2.1=true/\(jG l).2.2.1.length=32:=by
 unfold YY at h;simp only[Bool.and_eq_true,decide_eq_true_eq]at h;obtain⟨⟨h1,h2⟩,h3,M⟩:=h;have a2:=zbf l;refine⟨?_,decide_eq_true ⟨h3,a2.2⟩,M,kI _ _ _⟩;clear h3 M a2;unfold jG at h1 h2⊢;obtain⟨a,p1,r1,ha⟩:∃x q s,zQ 1099511627776 l 0 true=(x,q,s):=⟨_,_,_,rfl⟩
 obtain⟨b,p2,r2,a3⟩:∃x q s,zQ 1099511627776 l p1 r1=(x,q,s):=⟨_,_,_,rfl⟩
 obtain⟨c,p3,r3,a8⟩:∃x q s,zQ 3 l p2 r2=(x,q,s):=⟨_,_,_,rfl⟩
 obtain⟨d,p4,r4,hd⟩:∃x q s,zQ 1099511627776 l p3 r3=(x,q,s):=⟨_,_,_,rfl⟩
 obtain⟨e,af,r5,he⟩:∃x q s,yk l p4 r4=(x,q,s):=⟨_,_,_,rfl⟩
 obtain⟨f,ah,r6,K⟩:∃x q s,yk l af r5=(x,q,s):=⟨_,_,_,rfl⟩
 simp only[ha,a3,a8,hd,he,K]at h1 h2⊢;subst h1;obtain⟨rfl,_,ae,al,J⟩:=z1R K;obtain⟨rfl,_,a9,ai,a6⟩:=z1R he;obtain⟨rfl,_,_,ad,aj,G⟩:=Jn hd;obtain⟨rfl,_,_,ab,ak,a4⟩:=Jn a8;obtain⟨rfl,_,_,aa,am,a1⟩:=Jn a3;obtain⟨_,_,_,ag,y1,F⟩:=Jn ha;have a0:=Zw F;rw[<-ag,a1]at a0;have a7:=Zw a1;rw[<-aa,a4]at a7;have I:=Zw a4;rw[<-ab,G]at I;have a5:=Zw G;rw[<-ad,a6]at a5;have N:=Zw a6;rw[<-a9,J]at N;have O:=Zw J;rw[<-ae,h2,List.drop_length]at O;subst O;rw[List.drop_zero]at F;unfold jd;simp only[Int.toNat_natCast,List.append_assoc];rw[F,<-a0,<-a7,<-I,<-a5,<-N,List.append_nil]
theorem z9I {l:List UInt8} (i:Int) (h:YY l=true):(vF i (jG l).1 (jG l).2.1=l) ↔ (jG l).2.2.1=Kz i (jG l).1 (jG l).2.1:=by
 obtain⟨h1,_,_,G⟩:=z4k h;unfold vF;constructor
 ·intro e;have F:=e.trans h1;exact(List.append_cancel_left F).symm
 ·intro e;rw[<-e];exact h1.symm
structure yV where
 i:Int
 s0:List UInt8
 s1:List UInt8
 n:Int
 left:Int
 dead:Bool
 torn:List UInt8
def YG (i n:Int):yV:=⟨i,[],[],n,-1,false,[]⟩
structure yV.Good (V:yV):Prop where
 i:zS V.i=true
 n0:0<=V.n
 n1:V.n<=1099511627776
 left0:-1<=V.left
 left1:V.left<=9223372036854775807
 l0:V.s0.length<=1000
 l1:V.s1.length<=1000
 lt:V.torn.length<=1000
 dt:V.dead=false->V.torn=[]
theorem KA {i n:Int} (hi:zS i=true) (h0:0<=n) (h1:n<=1099511627776):(YG i n).Good:=⟨hi,h0,h1,by show(-1:Int)<=-1;decide,by show(-1:Int)<=_;decide,by show(0:Nat)<=_;decide,by show(0:Nat)<=_;decide,by show(0:Nat)<=_;decide,fun _=>rfl⟩
def kY (V:yV) (k:Int):List UInt8:=if k=0 then V.s0 else if k=1 then V.s1 else []
def zu (V:yV) (k:Int) (l:List UInt8):yV:={ V with s0:=if k=0 then l else V.s0,s1:=if k=0 then V.s1 else l }
theorem z88 {V:yV} (h:V.Good) (k:Int):(kY V k).length<=1000:=by
 unfold kY;split
 ·exact h.l0
 ·split
  ·exact h.l1
  ·exact Nat.zero_le _
def qr (V:yV):Int:=(V.n+1) % 2
theorem ZM (V:yV):qr V=0\/qr V=1:=by unfold qr;omega
def yh (V:yV):Bool:=!decide (V.left=0)
def zc (V:yV):yV:=if V.left=0 then { V with dead:=true } else if V.left<0 then V else { V with left:=V.left - 1 }
def kD (V:yV):Int:=if yh V=true then (if yh (zc V)=true then 0 else 6) else 6
def vG (V:yV) (b:List UInt8):yV:=
 if yh V=true then
  (if yh (zc V)=true then { zc (zu (zc V) (qr V) b) with n:=V.n+1 } else zc (zu (zc V) (qr V) b))
 else { zc V with torn:=b }
def yM (V:yV) (s:ym):Int:=if V.dead=true then 6 else if qZ s=false then 1 else if V.n=1099511627776 then 9 else kD V
def yq (V:yV) (s:ym):yV:=if V.dead=true then V else if qZ s=false then V else if V.n=1099511627776 then V else vG V (vF V.i (V.n+1) s)
def Zm (i n:Int) (l:List UInt8):Bool:=decide ((kQ i l).2.2=0) && decide ((kQ i l).1=n)
def jH (V:yV):ym:=if V.dead=true then yj else if V.n=0 then yj else if Zm V.i V.n V.s0=true then (kQ V.i V.s0).2.1 else if Zm V.i V.n V.s1=true then (kQ V.i V.s1).2.1 else yj
def vH (V:yV):Int:=if V.dead=true then 6 else if V.n=0 then 0 else if Zm V.i V.n V.s0=true then 0 else if Zm V.i V.n V.s1=true then 0 else 8
theorem QM (i:Int) (l:List UInt8):(kQ i l).2.1.Ok:=by
 unfold kQ;split
 ·split
  ·exact zbe l
  ·exact qp
 ·exact qp
theorem kZ (V:yV):(jH V).Ok:=by
 unfold jH;split
 ·exact qp
 ·split
  ·exact qp
  ·split
   ·exact QM _ _
   ·split
    ·exact QM _ _
    ·exact qp
def jN (k:Int) (l:List UInt8):Int:=if k<0\/1<k\/1000<l.length then 1 else 0
def jB (V:yV) (k:Int) (l:List UInt8):yV:=if k<0\/1<k\/1000<l.length then V else zu V k l
def z89 (V:yV) (n:Int):yV:={ V with left:=if n<0 then -1 else n }
def qm (t own:List UInt8) (m:Int):List UInt8:=t.take m.toNat ++ own.drop (t.take m.toNat).length
def ZN (V:yV) (m:Int):yV:=if V.torn=[] then V else { zu V (qr V) (qm V.torn (kY V (qr V)) m) with torn:=[] }
def YZ (V:yV) (m:Int):yV:={ ZN V m with dead:=false,left:=-1 }
theorem vZ {V:yV} (h:V.Good) (k:Int) {l:List UInt8} (hl:l.length<=1000):(zu V k l).Good:=by
 refine⟨h.i,h.n0,h.n1,h.left0,h.left1,?_,?_,h.lt,h.dt⟩
 ·show(if k=0 then l else V.s0).length<=1000;split
  ·exact hl
  ·exact h.l0
 ·show(if k=0 then V.s1 else l).length<=1000;split
  ·exact h.l1
  ·exact hl
theorem vI {V:yV} (h:V.Good):(zc V).Good:=by
 unfold zc;split
 ·exact⟨h.i,h.n0,h.n1,h.left0,h.left1,h.l0,h.l1,h.lt,fun e=>by cases e⟩
 ·split
  ·exact h
  ·have a:=h.left0;have b:=h.left1;exact⟨h.i,h.n0,h.n1,by show -1<=V.left - 1;omega,by show V.left - 1<=_;omega,h.l0,h.l1,h.lt,h.dt⟩
theorem z5P {V:yV} (h:yh V=false):(zc V).dead=true:=by
 unfold yh at h;have h2:V.left=0:=by simpa using h
 unfold zc;rw[if_pos h2]
theorem z4l {V:yV} (h:V.Good) (hn:V.n<1099511627776) {b:List UInt8} (F:b.length<=1000):(vG V b).Good:=by
 unfold vG;have h1:=vI h;have h2:=vZ h1 (qr V) F;have h3:=vI h2;split
 ·split
  ·refine⟨h3.i,?_,?_,h3.left0,h3.left1,h3.l0,h3.l1,h3.lt,h3.dt⟩
   ·show 0<=V.n+1;have:=h.n0;omega
   ·show V.n+1<=_;omega
  ·exact h3
 ·rename_i h0;have hd:=z5P (V:=V) (by simpa using h0);exact⟨h1.i,h1.n0,h1.n1,h1.left0,h1.left1,h1.l0,h1.l1,F,fun e=>by rw[show(zc V).dead=false from e]at hd;cases hd⟩
theorem JZ {i n:Int}{s:ym} (ho:s.Ok) (hn:jY n=true) (F:qZ s=true):(vF i n s).length<=104:=by
 have:=Qj ho hn F;unfold vF;rw[List.length_append,YX];omega
theorem V0 {V:yV}{s:ym} (h:V.Good) (ho:s.Ok):(yq V s).Good:=by
 unfold yq;split
 ·exact h
 split
 ·exact h
 split
 ·exact h
 have h0:=h.n0;have h1:=h.n1;rename_i F hn;have:=JZ (i:=V.i) (n:=V.n+1) ho (by unfold jY;rw[decide_eq_true_eq];omega) (by simpa using F);exact z4l h (by omega) (by omega)
theorem Yi {V:yV} (h:V.Good) (k:Int) (l:List UInt8):(jB V k l).Good:=by
 unfold jB;split
 ·exact h
 ·exact vZ h k (by omega)
theorem z8a {V:yV} (h:V.Good) {n:Int} (hn:n<=9223372036854775807):(z89 V n).Good:=by
 refine⟨h.i,h.n0,h.n1,?_,?_,h.l0,h.l1,h.lt,h.dt⟩
 ·show -1<=(if n<0 then -1 else n);split <;> omega
 ·show(if n<0 then -1 else n)<=_;split <;> omega
theorem z8b (t own:List UInt8) (m:Int) (h1:t.length<=1000) (h2:own.length<=1000):(qm t own m).length<=1000:=by
 unfold qm;rw[List.length_append,List.length_drop,List.length_take];omega
theorem z5Q {V:yV} (h:V.Good) (m:Int):(ZN V m).Good:=by
 unfold ZN;split
 ·exact h
 ·have h2:=vZ h (qr V) (z8b V.torn (kY V (qr V)) m h.lt (z88 h _));exact⟨h2.i,h2.n0,h2.n1,h2.left0,h2.left1,h2.l0,h2.l1,Nat.zero_le _,fun _=>rfl⟩
theorem z5R (V:yV) (m:Int):(ZN V m).torn=[]:=by
 unfold ZN;split
 ·assumption
 ·rfl
theorem z4m {V:yV} (h:V.Good) (m:Int):(YZ V m).Good:=by
 have h2:=z5Q h m;exact⟨h2.i,h2.n0,h2.n1,by show(-1:Int)<=-1;decide,by show(-1:Int)<=_;decide,h2.l0,h2.l1,h2.lt,fun _=>z5R V m⟩
theorem vJ (V:yV) (k:Int):kY (zc V) k=kY V k:=by
 unfold zc;split
 ·rfl
 ·split <;> rfl
theorem Zn (V:yV):(zc V).n=V.n:=by
 unfold zc;split
 ·rfl
 ·split <;> rfl
theorem vK (V:yV):(zc V).torn=V.torn:=by
 unfold zc;split
 ·rfl
 ·split <;> rfl
theorem z1Z {V:yV} (hd:V.dead=true):vH V=6/\jH V=yj:=by
 unfold vH jH;rw[if_pos hd,if_pos hd];exact⟨rfl,rfl⟩
section
attribute [local go_sem ↓] zf
theorem VG (w:World) (n:Nat) (h:n<256):ql w.heap.size (w.alloc (.cells #[.int .u8 (n:Int)] 5)) (.slice (some ⟨w.heap.size,0,none⟩) 1 1) [UInt8.ofNat n]:=
 xJ (l:=[UInt8.ofNat n]) (by
  have e:(n:Int)=((UInt8.ofNat n).toNat:Int):=by rw[UInt8.toNat_ofNat'];omega
  rw[e]
  exact Xh w _) (Nat.le_refl _) rfl (by unfold maxLen;omega)
theorem JJ (h:List UInt8) (w:World) (F:h.length=32):
  Calls prog 111 #[.agg (z4 h).toArray] w fun e w'=>∃x,e=.returned x/\ql w.heap.size w' x h/\Below w.heap.size w w':=km h w F
theorem VH {B:Nat}{w5 G F K:World}{I J:Value}{P l:List UInt8} (O:ql B w5 I P) (ha:w5.heap.size<=G.heap.size) (M:ql G.heap.size F J l) (hg:F.grownBy K I.ownBlock):zP K J l:=
 (M.keep fun b a0 e=>hg.block b a0 (fun N=>by
  have h1:=(World.ownsRow.lt M b e).1;have h2:=(World.ownsRow.lt O b N.symm).2
  omega)).byt
theorem z2Y (a:y8) (w:World) (ho:a.Ok) (hm:1<=a.ki/\a.ki<=3/\a.ph=a.ki/\1<=a.vi/\a.vi<=1099511627776/\0<=a.pv/\a.pv<=a.vi):
  Calls prog 94 #[.agg (zy a)] w fun e w'=>∃x,e=.returned x/\ql w.heap.size w' x (yY a)/\Below w.heap.size w w':=by
 obtain⟨h3,h4,h5,h6,h7,h8,h9⟩:=hm;have hb0:Below w.heap.size w (w.alloc (.cells (zy a) 54)):=Ba;have hA:=qz.new w a;obtain⟨C,HC⟩:=nm (zy a);obtain⟨O,HO⟩:=nm (yY a);rw[HC.o]at hb0 hA⊢;rw[HO.o];have HOK:=z0 ho;have HA:=z0 hA;have hlA:=hA.lt;clear hA ho HC;obtain⟨bo,ki,vi,ph,ha,pv,pa,tg⟩:=a;simp only at h3 h4 h5 h6 h7 h8 h9;obtain⟨k,rfl⟩:=yy (i:=ki) (by omega);obtain⟨v,rfl⟩:=yy (i:=vi) (by omega);obtain⟨p,rfl⟩:=yy (i:=ph) (by omega);obtain⟨q,rfl⟩:=yy (i:=pv) (by omega);have hk1:IntKind.u8.wrap (k:Int)=(k:Int):=by rw[IntKind.wrap_u8'];omega
 have hp1:IntKind.u8.wrap (p:Int)=(p:Int):=by rw[IntKind.wrap_u8'];omega
 have hv1:IntKind.u64.wrap (v:Int)=(v:Int):=qP _ (by omega) (by omega);have hq1:IntKind.u64.wrap (q:Int)=(q:Int):=qP _ (by omega) (by omega);have HNV:=z0 (fun w=>yc (v:Int) w (by omega) (by omega));have HNQ:=z0 (fun w=>yc (q:Int) w (by omega) (by omega));have HLV:=z0 (zk (n:=v) (by omega));have HLQ:=z0 (zk (n:=q) (by omega));have HDK:Hd (dg k=[UInt8.ofNat k]):=z0 (yx (by omega));have HDP:Hd (dg p=[UInt8.ofNat p]):=z0 (yx (by omega));have HYK:=z0 (fun w=>VG w k (by omega));have HYP:=z0 (fun w=>VG w p (by omega));have HBH:=z0 (fun w=>JJ ha w HOK.o.ha);have HBP:=z0 (fun w=>km pa w HOK.o.pa);clear h3 h4 h5 h6 h7 h8 h9;go_enter func94,ntmps94;go_upto_region 1 with(fail)
 generalize (w.alloc (.cells C 54))=w0 at *
 have HX:Hd (∀W:World,Below w0.heap.size w0 W->W.cell? ⟨w.heap.size,1,none⟩=some (.int .i64 (k:Int))/\W.cell? ⟨w.heap.size,2,none⟩=some (.int .i64 (v:Int))/\W.cell? ⟨w.heap.size,3,none⟩=some (.int .i64 (p:Int))/\W.cell? ⟨w.heap.size,36,none⟩=some (.int .i64 (q:Int))/\W.rangeAt w.heap.size 4 (z4 ha)/\W.rangeAt w.heap.size 37 (z4 pa)):=z0 (fun W h=>by
  have hW:=HA.o.below h hlA
  exact⟨hW.cells.2.1,hW.cells.2.2.1,hW.cells.2.2.2,hW.pv HOK.o,hW.hash,hW.phash HOK.o⟩)
 have hbd:Below w0.heap.size w0 w0.drew:=(Below.refl _ _).drew;have hs0:=hb0.size;have hbA:Below w0.heap.size w0 (w0.alloc (.cells #[.int .u8 (k:Int)] 5)).drew:=Ba.drew;have hoA:ql w0.heap.size (w0.alloc (.cells #[.int .u8 (k:Int)] 5)).drew (.slice (some ⟨w0.heap.size,0,none⟩) 1 1) [UInt8.ofNat k]:=HYK.o w0;have HA1:=z0 hbA;have HA2:=z0 hoA;clear hbA hoA;clear HA hlA;go_region_held3 (fun W=>W.cell? ⟨w.heap.size,1,none⟩=some (.int .i64 (k:Int))/\W.cell? ⟨w.heap.size,2,none⟩=some (.int .i64 (v:Int)))
  (first
   |(refine⟨(HX.o _ hbd).1,(HX.o _ hbd).2.1⟩)
   |(refine⟨(HX.o _ hb5).1,(HX.o _ hb5).2.1⟩)
   |(refine⟨(HX.o _ hb4).1,(HX.o _ hb4).2.1⟩)
   |(refine⟨(HX.o _ HA1.o).1,(HX.o _ HA1.o).2.1⟩)
   |(refine⟨(HX.o _ (hb4.alloc hb4.size _)).1,(HX.o _ (hb4.alloc hb4.size _)).2.1⟩)
   |fail)
  (first
   |(refine qB (by rfl) (.tmp 7) (.tmp 11) (by rfl) (by rfl) (by rfl) (HA2.o.below hb4') ho4.byt (by have:=HLV.o;simp only[List.length_cons,List.length_nil,Int.toNat_natCast];omega) hb4.size ?_;intro v5 w5 ho5 hg5 _;have hb5:=hb4.grown hg5 hb4.size (fun q hq=>(World.ownsRow.lt (HA2.o.below hb4') q hq).1);clear hg5)
   |(refine qB (by rfl) (.tmp 7) (.tmp 11) (by rfl) (by rfl) (by rfl) ((HYK.o w4).more hb4.size) (ho4.byt.alloc _) (by have:=HLV.o;simp only[List.length_cons,List.length_nil,Int.toNat_natCast];omega) (Nat.le_trans hb4.size (yL _ _)) ?_;intro v5 w5 ho5 hg5 _;have hb5:=(hb4.alloc hb4.size _).grown hg5 (Nat.le_trans hb4.size (yL _ _)) (fun q hq=>(World.ownsRow.lt ((HYK.o w4).more hb4.size) q hq).1);clear hg5)
   |(go_at_call 142;(with_reducible refine(HNV.o (w0.alloc (.cells #[.int .u8 (k:Int)] 5)).drew).mono ?_);rintro e w4 ⟨v4,rfl,ho4,hb4'⟩;have hb4:=HA1.o.trans (hb4'.mono HA1.o.size))
   |(go_at_call 142;(with_reducible refine(HNV.o w0.drew).mono ?_);rintro e w4 ⟨v4,rfl,ho4,hb4'⟩;have hb4:=hbd.trans hb4')
   |fail)
 all_goals
  rw[Int.toNat_natCast]at ho4 ho5;have ho5':ql w0.heap.size w5 v5 ([UInt8.ofNat k] ++ dg v):=ho5;clear ho4 ho5 hb4 hb4';obtain⟨P,HP⟩:=nm ([UInt8.ofNat k] ++ dg v:List UInt8);have HPL:Hd (P.length<=11):=z0 (by rw[<-HP.o,List.length_append];have:=HLV.o;simp only[List.length_cons,List.length_nil];omega);rw[HP.o]at ho5';have hbd5:Below w0.heap.size w0 w5.drew:=hb5.drew;have hz5:=hb5.size;have hbB:Below w5.heap.size w5 (w5.alloc (.cells #[.int .u8 (p:Int)] 5)).drew:=Ba.drew;have hyB:zP (w5.alloc (.cells #[.int .u8 (p:Int)] 5)).drew (.slice (some ⟨w5.heap.size,0,none⟩) 1 1) [UInt8.ofNat p]:=(HYP.o w5).byt;have HB1:=z0 hbB;have HB2:=z0 hyB;have HB3:=z0 (hb5.trans (hbB.mono hb5.size));have hd5:Below w5.heap.size w5 w5.drew:=(Below.refl _ _).drew;have hu:=yH;have hsz:(prog.info? 38).map (·.size)=some (z4 ha).length:=by rw[yG,z6,HOK.o.ha]
  clear hbB hyB;go_upto_region 2 with(fail)
  go_region_held3 (fun W=>W.cell? ⟨w.heap.size,3,none⟩=some (.int .i64 (p:Int))/\W.rangeAt w.heap.size 4 (z4 ha))
   (first
    |(refine⟨(HX.o _ hbd5).2.2.1,(HX.o _ hbd5).2.2.2.2.1⟩)
    |(refine⟨(HX.o _ hb8).2.2.1,(HX.o _ hb8).2.2.2.2.1⟩)
    |(refine⟨(HX.o _ hb7).2.2.1,(HX.o _ hb7).2.2.2.2.1⟩)
    |(refine⟨(HX.o _ hb6).2.2.1,(HX.o _ hb6).2.2.2.2.1⟩)
    |(refine⟨(HX.o _ HB3.o).2.2.1,(HX.o _ HB3.o).2.2.2.2.1⟩)
    |(refine⟨(HX.o _ (hb7.alloc hb7.size _)).2.2.1,(HX.o _ (hb7.alloc hb7.size _)).2.2.2.2.1⟩)
    |fail)
   (first
    |(refine qB (by rfl) (.tmp 18) (.tmp 21) (by rfl) (by rfl) (by rfl) (ho6.below hb7') ho7.byt (by rw[List.length_append];have:=HPL.o;have:=HOK.o.ha;simp only[List.length_cons,List.length_nil]at *;omega) hb7.size ?_;intro v8 w8 ho8 hg8 _;have hb8:=hb7.grown hg8 hb7.size (fun q hq=>(World.ownsRow.lt (ho6.below hb7') q hq).1);clear hg8)
    |(refine qB (by rfl) (.tmp 18) (.tmp 21) (by rfl) (by rfl) (by rfl) ho6 hy7 (by rw[List.length_append];have:=HPL.o;have:=HOK.o.ha;simp only[List.length_cons,List.length_nil]at *;omega) hb6.size ?_;intro v8 w8 ho8 hg8 _;have hb8:=hb6.grown hg8 hb6.size (fun q hq=>(World.ownsRow.lt ho6 q hq).1);clear hg8)
    |(refine qB (by rfl) (.tmp 13) (.tmp 17) (by rfl) (by rfl) (by rfl) (ho5'.below HB1.o) HB2.o (by have:=HPL.o;simp only[List.length_cons,List.length_nil];omega) HB3.o.size ?_;intro v6 w6 ho6 hg6 _;have hb6:=HB3.o.grown hg6 HB3.o.size (fun q hq=>(World.ownsRow.lt (ho5'.below HB1.o) q hq).1);clear hg6)
    |(refine qB (by rfl) (.tmp 13) (.tmp 17) (by rfl) (by rfl) (by rfl) ((ho5'.below HB1.o).below hb7') (HB2.o.below hb7') (by have:=HPL.o;simp only[List.length_cons,List.length_nil];omega) hb7.size ?_;intro v6 w6 ho6 hg6 _;have hb6:=hb7.grown hg6 hb7.size (fun q hq=>(World.ownsRow.lt ((ho5'.below HB1.o).below hb7') q hq).1);have hy7:=VH ho5' HB1.o.size ho7 hg6;clear hg6)
    |(refine qB (by rfl) (.tmp 13) (.tmp 17) (by rfl) (by rfl) (by rfl) (((ho5'.below hd5).below hb7').alloc _) (HYP.o w7).byt (by have:=HPL.o;simp only[List.length_cons,List.length_nil];omega) (Nat.le_trans hb7.size (yL _ _)) ?_;intro v6 w6 ho6 hg6 _;have hb6:=(hb7.alloc hb7.size _).grown hg6 (Nat.le_trans hb7.size (yL _ _)) (fun q hq=>(World.ownsRow.lt (((ho5'.below hd5).below hb7').alloc _) q hq).1);have hy7:=VH ho5' hd5.size (ho7.alloc _) hg6;clear hg6)
    |(go_at_call 111;(with_reducible refine(HBH.o w6).mono ?_);rintro e w7 ⟨v7,rfl,ho7,hb7'⟩;have hb7:=hb6.trans (hb7'.mono hb6.size))
    |(go_at_call 111;(with_reducible refine(HBH.o (w5.alloc (.cells #[.int .u8 (p:Int)] 5)).drew).mono ?_);rintro e w7 ⟨v7,rfl,ho7,hb7'⟩;have hb7:=HB3.o.trans (hb7'.mono HB3.o.size))
    |(go_at_call 111;(with_reducible refine(HBH.o w5.drew).mono ?_);rintro e w7 ⟨v7,rfl,ho7,hb7'⟩;have hb7:=hbd5.trans (hb7'.mono hbd5.size))
    |fail)
 all_goals
  have ho8':ql w0.heap.size w8 v8 (P ++ [UInt8.ofNat p] ++ ha):=ho8;obtain⟨M,HM⟩:=nm (P ++ [UInt8.ofNat p] ++ ha:List UInt8);have HML:Hd (M.length<=44):=z0 (by rw[<-HM.o,List.length_append,List.length_append];have:=HPL.o;have:=HOK.o.ha;simp only[List.length_cons,List.length_nil]at *;omega);rw[HM.o]at ho8';have k8:=(HX.o _ hb8).2.2.2.1;clear ho5' ho6 ho7 ho8 hb6 hb7 hb7' hbd5 hz5 hd5 hu hsz HB1 HB2 HB3 hbd
  (try clear hy7)
  go_wp2_with fail;refine(HNQ.o w8).mono ?_;rintro e w9 ⟨v9,rfl,ho9,hb9'⟩;rw[Int.toNat_natCast]at ho9;have hb9:=hb8.trans (hb9'.mono hb8.size);have ho89:=ho8'.below hb9';have hl9:M.length+(dg q).length<=140737488355328:=by have:=HML.o;have:=HLQ.o;omega
  clear k8;go_wp2_with (at_builtin;refine z9 rfl (.tmp 23) (.tmp 27) rfl rfl rfl ho89 ho9.byt hl9 hb9.size ?_;intro v10 w10 ho10 hg10 hv10;have hb10:=hb9.grown hg10 hb9.size (fun q hq=>(World.ownsRow.lt ho89 q hq).1);have l10:=zD (HX.o _ hb10).2.2.2.2.2 HOK.o.pa;clear hg10 hv10);refine(HBP.o w10).mono ?_;rintro e w11 ⟨v11,rfl,ho11,hb11'⟩;have hb11:=hb10.trans (hb11'.mono hb10.size);have ho1011:=ho10.below hb11';have hl11:(M ++ dg q).length+pa.length<=140737488355328:=by rw[List.length_append];have:=HML.o;have:=HLQ.o;have:=HOK.o.pa;simp only at this;omega
  clear l10;go_wp2_with (at_builtin;refine z9 rfl (.tmp 29) (.tmp 32) rfl rfl rfl ho1011 ho11.byt hl11 hb11.size ?_;intro v12 w12 ho12 hg12 hv12;have hb12:=hb11.grown hg12 hb11.size (fun q hq=>(World.ownsRow.lt ho1011 q hq).1);clear hg12 hv12);go_ret;refine⟨v12,rfl,?_,hb0.trans (hb12.mono hs0)⟩;have e:M ++ dg q ++ pa=O:=by
   rw[<-HO.o,<-HM.o,<-HP.o];unfold yY;simp only[Int.toNat_natCast,HDK.o,HDP.o,List.append_assoc]
  rw[e]at ho12;exact ho12.more hs0
theorem z1k (a:y8) (w:World) (ho:a.Ok) (I:vA a=true):
  Calls prog 94 #[.agg (zy a)] w fun e w'=>∃x,e=.returned x/\ql w.heap.size w' x (yY a)/\Below w.heap.size w w':=by
 obtain⟨_,_,h3,G,M,N,J,F,K⟩:=ZJ I;exact z2Y a w ho ⟨h3,G,M,N,J,F,K⟩
end
section
attribute [local go_sem ↓] zf ze zn zo
def QN (a:y8):List UInt8:=hl 32 (Qd a.bo 1 (yY a))
theorem VI (a:y8):(QN a).length=32:=qe _ _
def jZ (a:y8):y8:={ a with tg:=QN a }
theorem ZO {a:y8} (h:a.Ok):(jZ a).Ok:=⟨h.ha,h.pa,VI a⟩
theorem JK {op:Oper}{a:Act}{w:World}{F:Act->World->Prop}{Q:Exit->Act->World->Prop} (x y:Operand) (ho:op.op=.store 38 x y) {g:Nat}{t:TypeId}{f f':Nat->Value}
  (hx:a.eval x=.pointer (some ⟨g,0,none⟩)) (K:a.eval y=.agg (z1 32 f')) (hg:zK w g 32 f t) (h1:∀i,i<32->(f' i).oneCell'=true)
  (G:∀w',w.grownBy w' (some g)->zK w' g 32 f' t->w'.heap.size=w.heap.size->F (a.put op.dst undef) w'):op.wp prog a w F Q:=by
 obtain⟨w',N,M,I,J⟩:=qo.store_mid (o:=0) (f':=f') hg (by omega) h1;unfold Oper.wp execOp;simp only[ho,hx,K,Sem.run_bind,N,Result.andThen_ok,Sem.run_pure];exact G w' M (I.congr fun i hi=>by rw[if_pos ⟨Nat.zero_le _,by omega⟩,Nat.sub_zero]) J
theorem X7 (a:y8) (w:World) (ho:a.Ok) (a1:vA a=true) (F:yB 0 w):
  Calls prog 54 #[.agg (zy a)] w fun e w'=>e=.returned (.agg (z2 (QN a)))/\Below w.heap.size w w':=by
 have a4:=Zj w (.cells (zy a) 54) (.cells (z1 32 fun _=>z3 0) 38);have a2:zK ((w.alloc (.cells (zy a) 54)).alloc (.cells (z1 32 fun _=>z3 0) 38)) (w.heap.size+1) 32 (fun _=>z3 0) 38:=kT w (.cells (zy a) 54) _;have J:Below w.heap.size w ((w.alloc (.cells (zy a) 54)).alloc (.cells (z1 32 fun _=>z3 0) 38)):=Ba.alloc (by simp) _;have a9:=z0 (fun W=>z1k a W ho a1);have am:=z0 (fun W (h:Below w.heap.size w W)=>(show yB 0 W from F.below h));have ag:=YR ho a1
 have a6:Hd (∀v W,Below w.heap.size w W->zP W v (yY a)->Calls prog 93 #[.int .i64 a.bo,.int .u8 1,v] W fun e w'=>e=.returned (.agg (z1 32 fun j=>z3 (Qd a.bo 1 (yY a) j)))/\Below W.heap.size W w'):=z0 (fun v W h ah=>by
  have:=JY a.bo 1 v (yY a) W ah (by omega) (am.o W h)
  exact this)
 obtain⟨C,N⟩:=nm (zy a);obtain⟨τ,ab⟩:=nm (Qd a.bo 1 (yY a):Nat->UInt8);obtain⟨D,K⟩:=nm ((z1 32 fun j=>z3 (τ j)));have ao:Hd (z2 (QN a)=D):=z0 (by rw[<-K.o,<-ab.o,kJ];rfl);rw[N.o]at a4 a2 J a9⊢;rw[ab.o,K.o]at a6;rw[ao.o];have a5:qz ((w.alloc (.cells C 54)).alloc (.cells (z1 32 fun _=>z3 0) 38)) w.heap.size a:=by
  unfold qz;rw[N.o];exact a4
 have av:=z0 ho;have aw:Hd (C.size=101):=z0 (by rw[<-N.o];exact zg ho);clear F ho a1 ag a4;go_enter func54,ntmps54;go_upto_region 1 with(refine zb qo rfl rfl ?_)
 generalize ((w.alloc (.cells C 54)).alloc (.cells (z1 32 fun _=>z3 0) 38))=w0 at *
 have a8:Hd (∀W:World,qz W w.heap.size a->W.cell? ⟨w.heap.size,0,none⟩=some (.int .i64 a.bo)/\zI (.pointer (some ⟨w.heap.size,0,none⟩)) W=.ok (.value (.agg C)) W):=z0 (fun W M=>by
  refine⟨M.cells.1,?_⟩;have:=ji M av.o;rw[N.o]at this
  exact this)
 have aa:=z0 a5;have a3:=z0 (fun W (h:Below w0.heap.size w0 W)=>a8.o W (a5.keep h));have ad:Below w0.heap.size w0 w0.drew:=(Below.refl _ _).drew;have al:=z0 a2;clear a5 a2;refine Rh (S:=fun W=>W.cell? ⟨w.heap.size,0,none⟩=some (.int .i64 a.bo)/\zI (.pointer (some ⟨w.heap.size,0,none⟩)) W=.ok (.value (.agg C)) W) (by kernel_rfl) (a3.o _ ad) (fun a0=>?_);refine' z5 0 (h:=vX 1 (h:=?_));refine' tk (i:=2) (v:=_) rfl (fun W M=>M.2) ?_;try simp only[zx]
 refine qc 3 (h:=fun I F=>?_);go_simp;refine(a9.o w0.drew).mono ?_;rintro e au ⟨an,rfl,aj,ar⟩;have O:=ad.trans ar;refine F.out _ _ (a3.o _ O) (fun a0=>?_);clear F I;try simp only[zx]
 refine qc 4 (h:=fun I F=>?_);go_simp;refine(a6.o an au (J.trans (O.mono J.size)) aj.byt).mono ?_;rintro e ay ⟨rfl,ap⟩;have G:=O.trans (ap.mono O.size);have ae:=J.trans (G.mono J.size);have af:=al.o.keep G;refine F.out _ _ (a3.o _ G) (fun a0=>?_);clear F I;try simp only[zx]
 refine qc 5 (h:=fun I F=>?_);refine JK (f':=fun j=>z3 (τ j)) _ _ rfl rfl (by rw[K.o];rfl) af (fun _ _=>rfl) ?_;intro aq a7 ai ax;have ak:qz aq w.heap.size a:=(a7.block _ (Nat.lt_of_lt_of_le aa.o.lt G.size) (fun e=>by injection e with e;omega)).trans (aa.o.keep G);refine F.out _ _ (a8.o _ ak) (fun a0=>?_);clear F I;try simp only[Act.put]
 refine wpAnyH_done (by kernel_rfl) ?_ _;go_wp2_with fail;refine Bp (qo.result rfl _ _ rfl ai) rfl ⟨by rw[K.o],?_⟩;exact zh ae (Nat.le_succ _) a7 ae.size
end
section
def sel (a:ym):List Value:=[.int .i64 a.vi,.int .i64 a.ph,.int .i64 a.pv] ++ z4 a.pa
def zp (a:ym):Array Value:=(sel a).toArray
theorem jR {a:ym} (h:a.Ok):(sel a).length=35:=by
 have:a.pa.length=32:=h;unfold sel;simp only[List.length_append,z6,List.length_cons,List.length_nil];omega
theorem zd {a:ym} (h:a.Ok):(zp a).size=35:=by
 unfold zp;rw[List.size_toArray,jR h]
def zN (w:World) (g:Nat) (a:ym):Prop:=w.heap[g]?=some (.cells (zp a) 40 (0,0))
section
variable {w w':World}{g:Nat}{a:ym}
theorem zN.new (w:World) (a:ym):zN (w.alloc (.cells (zp a) 40)) w.heap.size a:=Xh w _
theorem zN.lt (h:zN w g a):g<w.heap.size:=Lb h
theorem zN.below {B:Nat} (h:zN w g a) (F:Below B w w') (hg:g<B):zN w' g a:=(F.block g hg).trans h
theorem zN.keep (h:zN w g a) (F:Below w.heap.size w w'):zN w' g a:=h.below F h.lt
theorem zN.free (h:zN w g a) (i:Nat):w.frozen? ⟨g,i,none⟩=false:=zz h i
theorem zN.cell (h:zN w g a) (i:Nat):w.cell? ⟨g,i,none⟩=(sel a)[i]?:=by
 rw[z7 h i];unfold zp;rw[List.getElem?_toArray]
theorem zN.cells (h:zN w g a):w.cell? ⟨g,0,none⟩=some (.int .i64 a.vi)/\w.cell? ⟨g,1,none⟩=some (.int .i64 a.ph)/\w.cell? ⟨g,2,none⟩=some (.int .i64 a.pv):=⟨h.cell 0,h.cell 1,h.cell 2⟩
theorem zN.range0 (h:zN w g a) {pre l post:List Value} (e:sel a=pre ++ (l ++ post)):w.rangeAt g pre.length l:=fun j u F=>by
 rw[h.cell,e,List.getElem?_append_right (by omega),Nat.add_sub_cancel_left,List.getElem?_append_left (List.getElem?_eq_some_iff.1 F).1];exact F
theorem zN.hash (h:zN w g a):w.rangeAt g 3 (z4 a.pa):=h.range0 (pre:=[.int .i64 a.vi,.int .i64 a.ph,.int .i64 a.pv]) (post:=[]) (by rw[List.append_nil];rfl)
end
noncomputable def zW (v : Value) (w : World) : Result Next := Sem.run prog (execOp (fun _ => v) { dst := none, op := .load 40 (.tmp 0), type := 0, pos := "", after := #[], guard := none }) w
theorem zm (r:Operand->Value) (x:Operand) (dst:Option Tmp) (ty:TypeId) (pos:String) (after:Array Edge) (guard:Option (Nat×Bool)) (w:World):
  Sem.run prog (execOp r { dst:=dst,op:=.load 40 x,type:=ty,pos:=pos,after:=after,guard:=guard }) w=zW (r x) w:=rfl
theorem xi:prog.underlying 40=some (.struct (prog.fieldsOf 40)):=by kernel_rfl
theorem xj:(prog.info? 40).map (·.size)=some 35:=by kernel_rfl
theorem zj {w:World}{g:Nat}{C:Array Value}{T:TypeId} (h:w.heap[g]?=some (.cells C T (0,0))) (G:C.size=35):zW (.pointer (some ⟨g,0,none⟩)) w=.ok (.value (.agg C)) w:=by
 have:=run_loadAt_mid (P:=prog) w g 0 40 C.toList _ (fun j v F=>by rw[Nat.zero_add,z7 h j];simpa using F) xi rfl (by rw[xj];simp[G]);simp only[Array.toArray_toList]at this;unfold zW execOp;simp only[Sem.run_bind,this,Result.andThen_ok,Sem.run_pure]
theorem kL {w:World}{g:Nat}{a:ym} (h:zN w g a) (ho:a.Ok):zW (.pointer (some ⟨g,0,none⟩)) w=.ok (.value (.agg (zp a))) w:=zj h (zd ho)
theorem z2Z (a:ym):∀u∈sel a,u.oneCell'=true:=by
 intro u F;unfold sel at F;simp only[List.mem_append,List.mem_cons,List.not_mem_nil,or_false]at F;rcases F with(rfl|rfl|rfl)|F
 ·rfl
 ·rfl
 ·rfl
 ·exact yb _ u F
theorem y7 (a:ym):(zp a).all (·.oneCell')=true:=all_oneCell_toArray (z2Z a)
theorem zbg:(prog.info? 40).bind (·.zero)=some (.agg (zp yj)):=by kernel_rfl
theorem z4n (w:World):(zeroValue 40).run prog w=.ok (.agg (zp yj)) w:=by
 have h:=zbg;cases hq:prog.info? 40 with
 |none=>rw[hq]at h;cases h
 |some i=>
  rw[hq]at h;have F:i.zero=some (.agg (zp yj)):=h;simp[zeroValue,typeInfo,hq,F]
noncomputable def jn (w : World) : Result Next := Sem.run prog (execOp (fun _ => undef) { dst := none, op := .build 40 #[], type := 0, pos := "", after := #[], guard := none }) w
theorem zL (r:Operand->Value) (dst:Option Tmp) (ty:TypeId) (pos:String) (after:Array Edge) (guard:Option (Nat×Bool)) (w:World):
  Sem.run prog (execOp r { dst:=dst,op:=.build 40 #[],type:=ty,pos:=pos,after:=after,guard:=guard }) w=jn w:=by
 unfold jn execOp;simp
theorem yd (w:World):jn w=.ok (.value (.agg (zp yj))) w:=by
 unfold jn;go_simp;rfl
noncomputable def qj (w : World) : Result Next := Sem.run prog (execOp (fun _ => undef) { dst := none, op := .alloc 40, type := 0, pos := "", after := #[], guard := none }) w
theorem zq (r:Operand->Value) (dst:Option Tmp) (ty:TypeId) (pos:String) (after:Array Edge) (guard:Option (Nat×Bool)) (w:World):
  Sem.run prog (execOp r { dst:=dst,op:=.alloc 40,type:=ty,pos:=pos,after:=after,guard:=guard }) w=qj w:=rfl
theorem zX (w:World):qj w=.ok (.value (.pointer (some ⟨w.heap.size,0,none⟩))) (w.alloc (.cells (zp yj) 40)):=by
 unfold qj execOp;simp only[Sem.run_bind,Instr.alloc,z4n,newVar,newRow,run_newObj_alloc,Sem.run_pure,Result.andThen_ok,Value.cells]
noncomputable def yF (p v:Value) (w:World):Result Next:=Sem.run prog (execOp (fun x=>match x with
 | .tmp 0=>p
 | _ => v) { dst := none, op := .store 40 (.tmp 0) (.tmp 1), type := 0, pos := "", after := #[], guard := none }) w
theorem zr (r:Operand->Value) (x y:Operand) (dst:Option Tmp) (ty:TypeId) (pos:String) (after:Array Edge) (guard:Option (Nat×Bool)) (w:World):
  Sem.run prog (execOp r { dst:=dst,op:=.store 40 x y,type:=ty,pos:=pos,after:=after,guard:=guard }) w=yF (r x) (r y) w:=rfl
def setSe (w:World) (g:Nat) (C:Array Value):World:=w.setRow g C
theorem yn {w:World}{g:Nat}{t:TypeId}{C0 C:Array Value} (hg:w.heap[g]?=some (.cells C0 t (0,0))) (h0:C0.size=35) (F:C.size=35) (h1:C.all (·.oneCell')=true):
  yF (.pointer (some ⟨g,0,none⟩)) (.agg C) w=.ok .skip (setSe w g C):=by
 have:=run_storeVar_row (P:=prog) w g t 40 C0 C hg (by rw[xj,F]) (by rw[h0,F]) h1;unfold yF execOp;simp only[Instr.storeAt,Instr.sureAddr,Sem.run_bind,Sem.run_pure,Result.andThen_ok,this];rfl
theorem zl (w:World) {g k:Nat} (C:Array Value) (F:k≠g):(setSe w g C).heap[k]?=w.heap[k]?:=setRow_other w g k _ F
theorem qG {w:World}{g:Nat}{t:TypeId}{C0 C:Array Value} (hg:w.heap[g]?=some (.cells C0 t (0,0))):(setSe w g C).heap[g]?=some (.cells C t (0,0)):=setRow_heap w g _ _ t _ hg
theorem zR {B g:Nat}{a w:World}{C:Array Value} (F:Below B a w) (hg:B<=g):Below B a (setSe w g C):=below_setRow F hg _
end
end Go.Proofs.YtjlinimnnbfmaaaGreatDoor
