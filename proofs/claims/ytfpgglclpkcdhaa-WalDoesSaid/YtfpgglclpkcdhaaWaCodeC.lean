/-
  wal's functions: Open, Broken, Many, Put.
-/
import Derived.Test.YtfpgglclpkcdhaaWaCodeB
namespace Go.Proofs.Ytfpgglclpkcdhaa
set_option maxRecDepth 20000
open Go.RowKit
attribute [local go_sem ↓] exec_cutL
theorem open_settle {D:DkM} {n:Nat} (hd:D.dead=false) (hs:spoiltB (tailL (D.s ++ D.m))=false) (hn:n + (tailL (D.s ++ D.m)).length=(D.s ++ D.m).length):
  openE D=settleE D (n:Int) (tailL (D.s ++ D.m)).length∧openD D=settleD D (n:Int) (tailL (D.s ++ D.m)).length:=by
 have h1:¬ D.dead=true:=by rw [hd];simp
 have h2:¬ (tailL (D.s ++ D.m)≠[]∧spoiltB (tailL (D.s ++ D.m))=true):=by rw [hs];simp
 rw [List.length_append] at hn
 have e:(D.s.length:Int) + D.m.length - (tailL (D.s ++ D.m)).length=(n:Int):=by omega
 unfold openE openD settleE settleD tcutE tcutD
 rw [if_neg h1,if_neg h1,if_neg h2,if_neg h2,e]
 by_cases ht:tailL (D.s ++ D.m)=[]
 ·rw [if_pos ht,if_pos ht,ht]
  exact ⟨rfl,rfl⟩
 ·have h0:¬ (tailL (D.s ++ D.m)).length=0:=fun h=>ht (List.eq_nil_of_length_eq_zero h)
  rw [if_neg ht,if_neg ht,if_neg h0,if_neg h0]
  exact ⟨rfl,rfl⟩
structure OpnTo (w:World) (b B:Nat) (D:DkM) (va vt:Value) (E:Int) (D':DkM) (R:List (List UInt8)) (p x:Value) (w':World):Prop where
 d:∃ va' vt',DkE w' b B D' va' vt'∧TnD b va.ownBlock w w'∧Nw w va.ownBlock va'.ownBlock∧Nf w vt D.h vt' D'.h∧(E=0→∃ c L,p=.pointer (some ⟨c,0,none⟩)∧w.heap.size≤c∧WlE w' c b (L.length:Int) false∧OwnB w.heap.size w' x L∧(∀ t ∈ L,Own w.heap.size w' t.v t.l∧Off va'.ownBlock t.v t.l)∧bls L=R∧L.length≤D.s.length + D.m.length)
 no:E≠0→p=.pointer none∧x=.slice none 0 0
def OpPost (b B:Nat) (D:DkM) (va vt:Value) (w:World) (e:Ending) (w':World):Prop:=∃ p x,e=.returned (.tuple #[p,x,.int .i64 (openE D)])∧OpnTo w b B D va vt (openE D) (openD D) (openR D) p x w'
theorem off_fresh {w w3:World} {b B:Nat} {D:DkM} {va vt v:Value} {l:List UInt8} {a':Option Nat} (ho:Own w.heap.size w3 v l) (hE:DkE w b B D va vt) (hn:Nw w3 va.ownBlock a'):Off a' v l:=by
 rcases ho.2 with ⟨rfl,h0⟩ | ⟨g,cap,cur,rfl,hg,hh,_⟩
 ·exact .inl (List.eq_nil_of_length_eq_zero h0)
 ·refine .inr fun e=>?_
  have hlt:=lt_of_block hh
  rcases hn with rfl | hn
  ·have:=(hE.o.base (k:=g) e.symm).2
   omega
  ·have:=hn g e.symm
   omega
section
variable {w:World} {b B:Nat} {D:DkM} {va vt:Value}
set_option maxHeartbeats 1600000 in
theorem walOpen_any (h:DkE w b B D va vt) (g:D.Good) (hl:D.s.length + D.m.length≤900000):Calls Try.prog 9 #[.pointer (some ⟨b,0,none⟩)] w (OpPost b B D va vt w):=by
 have HAL:=hid (dkAll_any h g)
 have HH:=hid h
 have HG:=hid g
 unfold OpPost
 obtain ⟨l,HL⟩:∃ q:List UInt8,Hid (D.s ++ D.m=q):=⟨_,hid rfl⟩
 have HLL:Hid (l.length=D.s.length + D.m.length∧l.length≤900000):=hid (by rw [← HL.out,List.length_append];exact ⟨rfl,hl⟩)
 obtain ⟨P,HP⟩:∃ P:Int→Value→Value→World→Prop,Hid ((fun E p x w'=>E=openE D∧OpnTo w b B D va vt (openE D) (openD D) (openR D) p x w')=P):=⟨_,hid rfl⟩
 have hgoal:Calls Try.prog 9 #[.pointer (some ⟨b,0,none⟩)] w (fun e w'=>∃ p x E,e=.returned (.tuple #[p,x,.int .i64 E])∧P E p x w')→Calls Try.prog 9 #[.pointer (some ⟨b,0,none⟩)] w (fun e w'=>∃ p x,e=.returned (.tuple #[p,x,.int .i64 (openE D)])∧OpnTo w b B D va vt (openE D) (openD D) (openR D) p x w'):=fun C=>C.mono fun e w' ⟨p,x,E,h1,h2⟩=>by
  rw [← HP.out] at h2
  obtain ⟨rfl,h2⟩:=h2
  exact ⟨p,x,h1,h2⟩
 refine hgoal ?_
 clear hgoal h g hl
 cases hd:D.dead with
 | true=>
  rw [hd] at HAL
  simp only [if_true] at HAL
  have HE:Hid (openE D=6∧openD D=D):=hid (by unfold openE openD;rw [if_pos hd,if_pos hd];exact ⟨rfl,rfl⟩)
  clear hd
  go_enter Try.func9,Try.ntmps9
  go_wp2_with fail
  refine HAL.out.mono ?_
  rintro e w1 ⟨v,rfl,_,hb⟩
  go_wp2_with fail
  go_ret3
  refine ⟨_,_,_,rfl,?_⟩
  rw [← HP.out,HE.out.1,HE.out.2]
  exact ⟨rfl,⟨⟨va,vt,HH.out.below hb,TnD.of hb,Nw.refl _ _,Nf.refl _ _ _,fun h=>by cases h⟩,fun _=>⟨rfl,rfl⟩⟩⟩
 | false=>
  rw [hd] at HAL
  simp only [Bool.false_eq_true,if_false] at HAL
  rw [HL.out] at HAL
  have HDF:=hid hd
  clear hd
  go_enter Try.func9,Try.ntmps9
  go_wp2_with fail
  refine HAL.out.mono ?_
  rintro e w1 ⟨v,rfl,ho1,hb1⟩
  have HB1:=hid hb1
  have HO1:=hid ho1.byt
  obtain ⟨A,c,rfl⟩:=ho1.byt.shape
  obtain ⟨N,HN⟩:∃ q:Nat,Hid (l.length=q):=⟨_,hid rfl⟩
  rw [HN.out] at HO1 ⊢
  have HC:=hid (by have:=(HO1.out.at_).2.1;rw [HN.out] at this;exact this:N≤c)
  clear ho1 hb1 HAL
  go_wp2_with fail
  refine (walRecords_any _ l w1 HO1.out HLL.out.2).mono ?_
  rintro e w2 ⟨x,L,n,rfl,ho,ht,hbl,hdr,hn,hLn,hb2⟩
  obtain ⟨XA,XC,rfl⟩:=ho.shape
  obtain ⟨M,HM⟩:∃ q:Nat,Hid (L.length=q):=⟨_,hid rfl⟩
  have hnN:n≤N:=by rw [← HN.out];exact hn
  obtain ⟨A2,c2,r2,p2⟩:=cut_l A c N n hnN HC.out
  have HT:=hid (p2 w2 l HN.out (HO1.out.below hb2))
  obtain ⟨T,HTN⟩:∃ q:Nat,Hid (N - n=q):=⟨_,hid rfl⟩
  have r2':=r2 w2
  rw [HTN.out] at r2' HT
  rw [hdr] at HT
  rw [HM.out] at ho ⊢
  have HR:Hid (OwnB w1.heap.size w2 (.slice XA M XC) L∧(∀ t ∈ L,Own w1.heap.size w2 t.v t.l)∧bls L=recsL l∧L.length≤l.length∧(tailL l).length=T∧n + T=l.length):=hid (by
   have h1:=congrArg List.length hdr
   rw [List.length_drop,HN.out,HTN.out] at h1
   exact ⟨ho,ht,hbl,Nat.le_trans hLn hn,h1.symm,by rw [HN.out,← HTN.out];omega⟩)
  have HB2:=hid hb2
  have HTL:Hid ((tailL l).length≤900000):=hid (by rw [HR.out.2.2.2.2.1];have:=HLL.out.2;have:=HR.out.2.2.2.2.2;omega)
  clear ho ht hbl hdr hn hLn hb2 p2 r2 hnN
  obtain ⟨S,HSP⟩:∃ q:Bool,Hid (spoiltB (tailL l)=q):=⟨_,hid rfl⟩
  have HTC:=hid (walTorn_any _ _ w2 HT.out HTL.out)
  rw [HSP.out] at HTC
  go_wp2_with fail
  refine HTC.out.mono ?_
  rintro e w3 ⟨rfl,hb3⟩
  have HB3:Hid (Below w1.heap.size w1 w3∧Below w2.heap.size w2 w3):=hid ⟨HB2.out.trans (hb3.mono HB2.out.size),hb3⟩
  have HBW:Hid (Below w.heap.size w w3):=hid (HB1.out.trans (HB3.out.1.mono HB1.out.size))
  clear hb3 HTC r2'
  cases S with
  | true=>
   have HE:Hid (openE D=10∧openD D=D):=hid (by
    have hsp:=HSP.out
    have hne:tailL l≠[]:=fun e=>by
     rw [e,spoilt_no (by rfl)] at hsp
     cases hsp
    have hnd:¬ D.dead=true:=by rw [HDF.out];simp
    unfold openE openD
    rw [HL.out,if_neg hnd,if_neg hnd,if_pos ⟨hne,hsp⟩,if_pos ⟨hne,hsp⟩]
    exact ⟨rfl,rfl⟩)
   go_wp2_with fail
   go_ret3
   refine ⟨_,_,_,rfl,?_⟩
   rw [← HP.out,HE.out.1,HE.out.2]
   exact ⟨rfl,⟨⟨va,vt,HH.out.below HBW.out,TnD.of HBW.out,Nw.refl _ _,Nf.refl _ _ _,fun h=>by cases h⟩,fun _=>⟨rfl,rfl⟩⟩⟩
  | false=>
   have HE:Hid (openE D=settleE D (n:Int) T∧openD D=settleD D (n:Int) T):=hid (by
    have:=open_settle (D:=D) (n:=n) HDF.out (by rw [HL.out];exact HSP.out) (by rw [HL.out,HR.out.2.2.2.2.1];exact HR.out.2.2.2.2.2)
    rw [HL.out,HR.out.2.2.2.2.1] at this
    exact this)
   have HE3:=hid (HH.out.below HBW.out)
   have HST:=hid (walSettle_any HE3.out HG.out (n:Int) T)
   obtain ⟨E,HEE⟩:∃ q:Int,Hid (settleE D (n:Int) T=q):=⟨_,hid rfl⟩
   rw [HEE.out] at HST HE
   go_wp2_with fail
   refine HST.out.mono ?_
   rintro e w4 ⟨rfl,va4,vt4,e4,t4,n4,f4⟩
   have HK:Hid (DkE w4 b B (openD D) va4 vt4∧TnD b va.ownBlock w w4∧Nw w va.ownBlock va4.ownBlock∧Nf w vt D.h vt4 (openD D).h):=hid (by
    rw [HE.out.2]
    exact ⟨e4,(TnD.of HBW.out).trans (Nw.refl _ _) t4,(Nw.refl _ _).trans n4 HBW.out.size,(Nf.refl _ _ _).trans f4 HBW.out.size⟩)
   have HRR:Hid (OwnB w.heap.size w4 (.slice XA M XC) L∧∀ t ∈ L,Own w.heap.size w4 t.v t.l∧Off va4.ownBlock t.v t.l):=hid (by
    refine ⟨OwnB.kept (OwnE.more (OwnE.below HR.out.1 HB3.out.2) HB1.out.size) (fun k C hC=>(HE3.out.other hC (by decide) (by decide) t4).trans hC.symm),fun t ht=>?_⟩
    have h3:Own w.heap.size w3 t.v t.l:=((HR.out.2.1 t ht).below HB3.out.2).more HB1.out.size
    refine ⟨h3.keep (fun k hk ek=>t4.block k hk ?_ ?_),off_fresh h3 HH.out n4⟩
    ·obtain ⟨C,hC⟩:=h3.blk ek
     exact blk_ne hC HE3.out.p (by decide)
    ·intro e
     have h5:=(HH.out.o.base e.symm).2
     have h6:=(h3.base ek).1
     omega)
   clear e4 t4 n4 f4 HST
   by_cases he:E≠0
   ·have hb:=ne_bool he
    have HNE:=hid he
    clear he
    go_wp2_with fail
    go_ret3
    refine ⟨_,_,_,rfl,?_⟩
    rw [← HP.out,HE.out.1]
    exact ⟨rfl,⟨⟨va4,vt4,HK.out.1,HK.out.2.1,HK.out.2.2.1,HK.out.2.2.2,fun h=>absurd h HNE.out⟩,fun _=>⟨rfl,rfl⟩⟩⟩
   ·obtain rfl:E=0:=by omega
    clear he
    go_wp2_with fail
    go_ret3
    refine ⟨_,_,_,rfl,?_⟩
    have hba:Below w4.heap.size w4 (w4.alloc (.cells #[.pointer (some ⟨b,0,none⟩),.int .i64 (M:Int),.bool false] 62)):=(Below.refl _ _).alloc (Nat.le_refl _) _
    have hor:openR D=recsL l:=by unfold openR;rw [if_pos HE.out.1,HL.out]
    rw [← HP.out,HE.out.1,hor]
    refine ⟨rfl,⟨⟨va4,vt4,HK.out.1.below hba,HK.out.2.1.then hba,HK.out.2.2.1,HK.out.2.2.2,fun _=>⟨_,L,rfl,HK.out.2.1.size,?_,OwnE.below HRR.out.1 hba,fun t ht=>⟨((HRR.out.2 t ht).1).below hba,(HRR.out.2 t ht).2⟩,HR.out.2.2.1,by have:=HR.out.2.2.2.1;have:=HLL.out.1;omega⟩⟩,fun h=>absurd rfl h⟩⟩
    rw [HM.out]
    exact heap_alloc_new w4 _
end
def NoWl (w:World) (v:Value):Prop:=v=.pointer none∨∃ c,v=.pointer (some ⟨c,0,none⟩)∧w.heap[c]?=some (.cells #[.pointer none,.int .i64 0,.bool false] 62 (0,0))
section
variable {w:World} {c b:Nat} {n:Int} {br:Bool} {v:Value}
theorem walMany_any (h:WlE w c b n br):Calls Try.prog 19 #[.pointer (some ⟨c,0,none⟩)] w fun e w'=>e=.returned (.int .i64 n)∧w=w':=by
 obtain ⟨_,h1,_⟩:=h.cells
 clear h
 go_enter Try.func19,Try.ntmps19
 go_wp2
 go_ret
 exact ⟨rfl,rfl⟩
theorem walBroken_any (h:WlE w c b n br):Calls Try.prog 20 #[.pointer (some ⟨c,0,none⟩)] w fun e w'=>e=.returned (.bool br)∧w=w':=by
 obtain ⟨h0,_,h2⟩:=h.cells
 clear h
 go_enter Try.func20,Try.ntmps20
 go_wp2
 go_ret
 exact ⟨rfl,rfl⟩
theorem noMany (h:NoWl w v):Calls Try.prog 19 #[v] w fun e w'=>e=.returned (.int .i64 0)∧w=w':=by
 rcases h with rfl | ⟨c,rfl,hc⟩
 ·go_enter Try.func19,Try.ntmps19
  go_wp2
  go_ret
  exact ⟨rfl,rfl⟩
 ·have h0:w.cell? ⟨c,1,none⟩=some (.int .i64 0):=by rw [coBlk_cell hc];rfl
  clear hc
  go_enter Try.func19,Try.ntmps19
  go_wp2
  go_ret
  exact ⟨rfl,rfl⟩
theorem noBroken (h:NoWl w v):Calls Try.prog 20 #[v] w fun e w'=>e=.returned (.bool true)∧w=w':=by
 rcases h with rfl | ⟨c,rfl,hc⟩
 ·go_enter Try.func20,Try.ntmps20
  go_wp2
  go_ret
  exact ⟨rfl,rfl⟩
 ·have h0:w.cell? ⟨c,0,none⟩=some (.pointer none):=by rw [coBlk_cell hc];rfl
  clear hc
  go_enter Try.func20,Try.ntmps20
  go_wp2
  go_ret
  exact ⟨rfl,rfl⟩
theorem noPut (h:NoWl w v) (x:Value):Calls Try.prog 13 #[v,x] w fun e w'=>e=.returned (.int .i64 5)∧w=w':=by
 go_enter Try.func13,Try.ntmps13
 go_wp2_with fail
 refine (noBroken h).mono ?_
 rintro e w1 ⟨rfl,rfl⟩
 go_wp2_with fail
 go_ret
 exact ⟨rfl,rfl⟩
end
def PtTo (b c B:Nat) (V:WaM) (l:List (List UInt8)) (va vt:Value) (w w':World):Prop:=∃ va' vt',DkE w' b B (putD V l) va' vt'∧WlE w' c b ((putW V l).many:Int) (putW V l).broken∧TnW b c va.ownBlock w w'∧Nw w va.ownBlock va'.ownBlock∧Nf w vt V.d.h vt' (putD V l).h
section
variable {w:World} {b c B:Nat} {V:WaM} {va vt:Value}
theorem flatR_nil (L:List BtM) (h:¬ L=[]):¬ bls L=[]:=fun e=>h (by simpa [bls] using e)
set_option maxHeartbeats 1600000 in
theorem walPut_any (h:DkE w b B V.d va vt) (hw:WlE w c b (V.many:Int) V.broken) (hi:V.is_=true) (g:V.d.Good) (hB:B≤w.heap.size) (hm:V.many≤1000000000) {v:Value} {L:List BtM} (hv:Els btl 1 w v L) (hb:Bts w L) (hl:LitB L):
  Calls Try.prog 13 #[.pointer (some ⟨c,0,none⟩),v] w fun e w'=>e=.returned (.int .i64 (putE V (bls L)))∧PtTo b c B V (bls L) va vt w w':=by
 have HBR:=hid (walBroken_any hw)
 have HH:=hid h
 have HW:=hid hw
 have HG:=hid g
 have HBW:=hid hB
 have HMM:=hid hm
 have HJ:=hid (walJoined_any v L w hv hb hl)
 have HL2:=hid hl
 have HFL:=hid (flatR_le L hl.2)
 obtain ⟨P,HP⟩:∃ P:Int→World→Prop,Hid ((fun E w'=>E=putE V (bls L)∧PtTo b c B V (bls L) va vt w w')=P):=⟨_,hid rfl⟩
 have hgoal:Calls Try.prog 13 #[.pointer (some ⟨c,0,none⟩),v] w (fun e w'=>∃ E,e=.returned (.int .i64 E)∧P E w')→Calls Try.prog 13 #[.pointer (some ⟨c,0,none⟩),v] w (fun e w'=>e=.returned (.int .i64 (putE V (bls L)))∧PtTo b c B V (bls L) va vt w w'):=fun C=>C.mono fun e w' ⟨E,h1,h2⟩=>by
  rw [← HP.out] at h2
  obtain ⟨rfl,h2⟩:=h2
  exact ⟨h1,h2⟩
 refine hgoal ?_
 clear hgoal h hw g hm hB hl hb
 obtain ⟨A,d,rfl⟩:=hv.shape
 obtain ⟨N,HN⟩:∃ q:Nat,Hid (L.length=q):=⟨_,hid rfl⟩
 rw [HN.out] at HJ ⊢
 clear hv
 cases hbr:V.broken with
 | true=>
  rw [hbr] at HBR
  have HE:Hid (putE V (bls L)=5∧putD V (bls L)=V.d∧putW V (bls L)=V):=hid (by unfold putE putD putW;rw [if_pos (.inr hbr),if_pos (.inr hbr),if_pos (.inr hbr)];exact ⟨rfl,rfl,rfl⟩)
  clear hbr
  go_enter Try.func13,Try.ntmps13
  go_wp2_with fail
  refine HBR.out.mono ?_
  rintro e w1 ⟨rfl,rfl⟩
  go_wp2_with fail
  go_ret
  refine ⟨_,rfl,?_⟩
  rw [← HP.out,HE.out.1]
  unfold PtTo
  rw [HE.out.2.1,HE.out.2.2]
  exact ⟨rfl,va,vt,HH.out,HW.out,(TnD.refl _ _ _).w c,Nw.refl _ _,Nf.refl _ _ _⟩
 | false=>
  rw [hbr] at HBR
  have HNO:Hid (¬ (V.is_=false∨V.broken=true)):=hid (by rw [hi,hbr];simp)
  have HBF:=hid hbr
  clear hbr hi
  by_cases hmr:MayR (bls L)
  ·rw [if_pos hmr,if_pos hmr] at HJ
   have HMR:=hid hmr
   have HNM:Hid (¬ ¬ MayR (bls L)):=hid (fun h=>h hmr)
   clear hmr
   by_cases h0:N=0
   ·have HL0:Hid (bls L=[]):=hid (by rw [List.eq_nil_of_length_eq_zero (HN.out.trans h0)];rfl)
    subst h0
    have HE:Hid (putE V (bls L)=0∧putD V (bls L)=V.d∧putW V (bls L)=V):=hid (by
     unfold putE putD putW
     rw [if_neg HNO.out,if_neg HNO.out,if_neg HNO.out,if_neg HNM.out,if_neg HNM.out,if_neg HNM.out,if_pos HL0.out,if_pos HL0.out,if_pos HL0.out]
     exact ⟨rfl,rfl,rfl⟩)
    go_enter Try.func13,Try.ntmps13
    go_wp2_with fail
    refine HBR.out.mono ?_
    rintro e w1 ⟨rfl,rfl⟩
    go_wp2_with fail
    refine HJ.out.mono ?_
    rintro e w2 ⟨x,rfl,_,hb2⟩
    go_wp2_with fail
    go_ret
    refine ⟨_,rfl,?_⟩
    rw [← HP.out,HE.out.1]
    unfold PtTo
    rw [HE.out.2.1,HE.out.2.2]
    exact ⟨rfl,va,vt,HH.out.below hb2,HW.out.below hb2,(TnD.of hb2).w c,Nw.refl _ _,Nf.refl _ _ _⟩
   ·have h0b:((N:Int) == 0)=false:=by simp;omega
    have HLN:Hid (¬ bls L=[]):=hid (flatR_nil L (fun e=>h0 (by rw [← HN.out,e];rfl)))
    have HE:Hid (putE V (bls L)=kpE V.d (flatR (bls L))∧putD V (bls L)=kpD V.d (flatR (bls L))∧putW V (bls L)=⟨kpD V.d (flatR (bls L)),if kpE V.d (flatR (bls L))=0 then V.many + N else V.many,decide (kpE V.d (flatR (bls L))=6),true⟩):=hid (by
     have e1:putE V (bls L)=kpE V.d (flatR (bls L)):=by
      unfold putE kpE
      rw [if_neg HNO.out,if_neg HNM.out,if_neg HLN.out]
     have e2:putD V (bls L)=kpD V.d (flatR (bls L)):=by
      unfold putD kpD
      rw [if_neg HNO.out,if_neg HNM.out,if_neg HLN.out]
     refine ⟨e1,e2,?_⟩
     unfold putW
     rw [if_neg HNO.out,if_neg HNM.out,if_neg HLN.out,e1,e2,bls_length,HN.out])
    clear h0
    obtain ⟨E,HEE⟩:∃ q:Int,Hid (kpE V.d (flatR (bls L))=q):=⟨_,hid rfl⟩
    obtain ⟨D1,HD1⟩:∃ q:DkM,Hid (kpD V.d (flatR (bls L))=q):=⟨_,hid rfl⟩
    rw [HEE.out,HD1.out] at HE
    have HN1:Hid (N≤1000):=hid (by rw [← HN.out];exact HL2.out.1)
    have HFB:Hid ((flatR (bls L)).length≤1000000):=hid (by have h1:=HN1.out;have h2:=HFL.out;rw [HN.out] at h2;omega)
    have HMI:Hid (wrap64 ((V.many:Int) + (N:Int))=((V.many + N:Nat):Int)):=hid (by have:=HMM.out;have:=HN1.out;unfold wrap64;omega)
    obtain ⟨many,HMY⟩:∃ q:Nat,Hid (V.many=q):=⟨_,hid rfl⟩
    rw [HMY.out] at HMI HW HE
    go_enter Try.func13,Try.ntmps13
    go_wp2_with fail
    refine HBR.out.mono ?_
    rintro e w1 ⟨rfl,rfl⟩
    go_wp2_with fail
    refine HJ.out.mono ?_
    rintro e w2 ⟨x,rfl,ho2,hb2⟩
    obtain ⟨XA,XC,rfl⟩:=ho2.byt.shape
    obtain ⟨XN,HXN⟩:∃ q:Nat,Hid ((flatR (bls L)).length=q):=⟨_,hid rfl⟩
    have HO2:=hid ho2.byt
    rw [HXN.out] at HO2 ⊢
    have HH2:=hid (HH.out.below hb2)
    have HW2:=hid (HW.out.below hb2)
    have HB2:=hid hb2
    obtain ⟨c0,_,_⟩:=HW2.out.cells
    have HKP:=hid (walKeep_any HH2.out HG.out (Nat.le_trans HBW.out HB2.out.size) HO2.out HFB.out)
    rw [HEE.out,HD1.out] at HKP
    clear ho2 hb2
    go_wp2_with fail
    refine HKP.out.mono ?_
    rintro e w3 ⟨rfl,va3,vt3,e3,t3,n3,f3⟩
    have HW3:=hid (HW2.out.other HH2.out t3)
    have HK:Hid (DkE w3 b B D1 va3 vt3∧TnW b c va.ownBlock w w3∧Nw w va.ownBlock va3.ownBlock∧Nf w vt V.d.h vt3 D1.h):=hid ⟨e3,((TnD.of HB2.out).trans (Nw.refl _ _) t3).w c,(Nw.refl _ _).trans n3 HB2.out.size,(Nf.refl _ _ _).trans f3 HB2.out.size⟩
    obtain ⟨d0,d1,d2⟩:=HW3.out.cells
    have f1:=HW3.out.free 1
    have f2:=HW3.out.free 2
    clear e3 t3 n3 f3 c0
    by_cases he:E≠0
    ·have hb:=ne_bool he
     have HNE:=hid he
     have hb6:(E == 6)=decide (E=6):=by
      by_cases e:E=6
      ·subst e;rfl
      ·rw [decide_eq_false e];simpa using e
     obtain ⟨q6,HQ6⟩:∃ q:Bool,Hid (decide (E=6)=q):=⟨_,hid rfl⟩
     rw [HQ6.out] at hb6
     clear he
     go_wp2_with fail
     go_ret
     refine ⟨_,rfl,?_⟩
     rw [← HP.out,HE.out.1]
     unfold PtTo
     rw [HE.out.2.1,HE.out.2.2]
     simp only [if_neg HNE.out,HQ6.out]
     exact ⟨trivial,va3,vt3,HK.out.1.setW HW3.out,HW3.out.brk q6,HK.out.2.1.set _ _,HK.out.2.2.1,HK.out.2.2.2⟩
    ·obtain rfl:E=0:=by omega
     clear he
     go_wp2_with fail
     go_ret
     refine ⟨_,rfl,?_⟩
     rw [← HP.out,HE.out.1]
     unfold PtTo
     rw [HE.out.2.1,HE.out.2.2]
     simp only [if_true]
     exact ⟨trivial,va3,vt3,HK.out.1.setW HW3.out,by rw [← HMI.out];have:=HW3.out.many (wrap64 ((many:Int) + (N:Int)));rw [HBF.out] at this;exact this,HK.out.2.1.set _ _,HK.out.2.2.1,HK.out.2.2.2⟩
  ·rw [if_neg hmr,if_neg hmr] at HJ
   have HE:Hid (putE V (bls L)=1∧putD V (bls L)=V.d∧putW V (bls L)=V):=hid (by
    unfold putE putD putW
    rw [if_neg HNO.out,if_neg HNO.out,if_neg HNO.out,if_pos hmr,if_pos hmr,if_pos hmr]
    exact ⟨rfl,rfl,rfl⟩)
   clear hmr
   go_enter Try.func13,Try.ntmps13
   go_wp2_with fail
   refine HBR.out.mono ?_
   rintro e w1 ⟨rfl,rfl⟩
   go_wp2_with fail
   refine HJ.out.mono ?_
   rintro e w2 ⟨x,rfl,_,hb2⟩
   go_wp2_with fail
   go_ret
   refine ⟨_,rfl,?_⟩
   rw [← HP.out,HE.out.1]
   unfold PtTo
   rw [HE.out.2.1,HE.out.2.2]
   exact ⟨rfl,va,vt,HH.out.below hb2,HW.out.below hb2,(TnD.of hb2).w c,Nw.refl _ _,Nf.refl _ _ _⟩
end
end Go.Proofs.Ytfpgglclpkcdhaa
