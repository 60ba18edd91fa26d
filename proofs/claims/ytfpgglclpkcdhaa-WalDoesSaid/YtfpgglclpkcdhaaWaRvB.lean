/-
  The document's Open of a wal. Printed with genro.py.
-/
import Derived.Test.YtfpgglclpkcdhaaDkRvB
import Derived.Test.YtfpgglclpkcdhaaWaCodeC
import Derived.Test.YtfpgglclpkcdhaaWaRvA
import Derived.Test.YtfpgglclpkcdhaaWaRvW
namespace Go.Proofs.Ytfpgglclpkcdhaa
set_option maxRecDepth 20000
open Go.RowKit
attribute [local go_sem ↓] exec_load_rd exec_alloc_rd exec_store_rd exec_load_rw exec_alloc_rw exec_store_rw exec_build_rwA exec_build_rwB
structure OpS (w W:World) (C:Array Value):Prop where
 r0:W.heap[w.heap.size]?=some (.cells C 35 (0,0))
 r1:W.heap[w.heap.size + 1]?=some (.cells rwZ 37 (0,0))
 b:Below w.heap.size w W
theorem op_begin (w:World) (C:Array Value):OpS w ((w.alloc (.cells C 35)).alloc (.cells rwZ 37)) C:=by
 have hsz:(w.alloc (.cells C 35)).heap.size=w.heap.size + 1:=by simp
 have h1:=heap_alloc_new (w.alloc (.cells C 35)) (.cells rwZ 37)
 rw [hsz] at h1
 have hb:Below w.heap.size w (w.alloc (.cells C 35)):=(Below.refl _ _).alloc (Nat.le_refl _) _
 exact ⟨by rw [heapA_old _ _ (by rw [hsz];omega)];exact heap_alloc_new w _,h1,hb.alloc hb.size _⟩
theorem allocRw_two (w:World) (C:Array Value) (T:TypeId):allocRw (w.alloc (.cells C T))=.ok (.value (.pointer (some ⟨w.heap.size + 1,0,none⟩))) ((w.alloc (.cells C T)).alloc (.cells rwZ 37)):=by
 rw [allocRw_eq,show (w.alloc (.cells C T)).heap.size=w.heap.size + 1 by simp]
section
variable {w W W':World} {C:Array Value}
theorem OpS.below (h:OpS w W C) (hb:Below W.heap.size W W'):OpS w W' C:=⟨(hb.block _ (lt_of_block h.r0)).trans h.r0,(hb.block _ (lt_of_block h.r1)).trans h.r1,h.b.trans (hb.mono h.b.size)⟩
theorem OpS.ld (h:OpS w W C) (hs:C.size=6):loadRd (.pointer (some ⟨w.heap.size,0,none⟩)) W=.ok (.value (.agg C)) W:=loadRd_row h.r0 hs
theorem OpS.box (h:OpS w W C) (hs:C.size=6) {C':Array Value} (hC:C'.size=6) (h1:C'.all (·.oneCell')=true):storeRd (.pointer (some ⟨w.heap.size,0,none⟩)) (.agg C') W=.ok .skip (setSe W w.heap.size C')∧OpS w (setSe W w.heap.size C') C':=
 ⟨storeRd_eq h.r0 hs hC h1,setSe_same h.r0,(setSe_other W _ (by omega)).trans h.r1,setSe_below h.b (Nat.le_refl _)⟩
theorem OpS.bytes (h:OpS w W C) {C':Array Value} {g:Nat} {R:Array Value} {T:TypeId} (hg:W.heap[g]?=some (.cells R T (0,0))) (hT:T≠35):(setSe W w.heap.size C').heap[g]?=some (.cells R T (0,0)):=(setSe_other W _ (blk_ne hg h.r0 hT)).trans hg
theorem OpS.rf (h:OpS w W C) {C' C2:Array Value} {D:DkM} {a:Option Nat} (hC:RfC W C2 D a):RfC (setSe W w.heap.size C') C2 D a:=hC.away (setSe_below (C:=C') (Below.refl 0 W) (Nat.zero_le _)).size (fun k R hk=>setSe_other W _ (blk_ne hk h.r0 (by decide)))
theorem OpS.own (h:OpS w W C) {C':Array Value} {B:Nat} {v:Value} {l:List UInt8} (ho:Own B W v l):Own B (setSe W w.heap.size C') v l:=ho.keep (fun k _ e=>by
 obtain ⟨R,hR⟩:=ho.blk e
 exact setSe_other W _ (blk_ne hR h.r0 (by decide)))
theorem OpS.ownB (h:OpS w W C) {C':Array Value} {B:Nat} {v:Value} {L:List BtM} (ho:OwnB B W v L):OwnB B (setSe W w.heap.size C') v L:=ho.kept (fun k R hk=>setSe_other W _ (blk_ne hk h.r0 (by decide)))
theorem OpS.fin (h:OpS w W C) {CX:Array Value} {V:WaM} {a:Option Nat} (hC:RfC W CX V.d a):
  storeRw (.pointer (some ⟨w.heap.size + 1,0,none⟩)) (.agg (rwc CX V.many V.broken V.is_)) W=.ok .skip (setSe W (w.heap.size + 1) (rwc CX V.many V.broken V.is_))∧(setSe W (w.heap.size + 1) (rwc CX V.many V.broken V.is_)).heap[w.heap.size + 1]?=some (.cells (rwc CX V.many V.broken V.is_) 37 (0,0))∧RwC (setSe W (w.heap.size + 1) (rwc CX V.many V.broken V.is_)) (rwc CX V.many V.broken V.is_) V a∧Below w.heap.size w (setSe W (w.heap.size + 1) (rwc CX V.many V.broken V.is_))∧(rwc CX V.many V.broken V.is_).size=9:=
 ⟨storeRw_eq h.r1 rfl (rwc_size hC.size _ _ _) (rwc_one hC.one _ _ _),setSe_same h.r1,⟨CX,rfl,hC.away (setSe_below (C:=rwc CX V.many V.broken V.is_) (Below.refl 0 W) (Nat.zero_le _)).size (fun k R hk=>setSe_other W _ (blk_ne hk h.r1 (by decide)))⟩,setSe_below h.b (Nat.le_succ _),rwc_size hC.size _ _ _⟩
theorem OpS.lists (h:OpS w W C) {X:Array Value} {B:Nat} {v:Value} {L:List BtM} (ho:OwnB B W v L) (ht:∀ t ∈ L,Own B W t.v t.l):OwnB B (setSe W (w.heap.size + 1) X) v L∧∀ t ∈ L,Own B (setSe W (w.heap.size + 1) X) t.v t.l:=
 ⟨ho.kept (fun k R hk=>setSe_other W _ (blk_ne hk h.r1 (by decide))),fun t h2=>(ht t h2).keep (fun k _ e=>by
  obtain ⟨R,hR⟩:=(ht t h2).blk e
  exact setSe_other W _ (blk_ne hR h.r1 (by decide)))⟩
end
def OqPost (D:DkM) (a:Option Nat) (w:World) (e:Ending) (w':World):Prop:=∃ X x,e=.returned (.tuple #[.agg X,x,.int .i64 (openE D)])∧RwC w' X (openW D) a∧Below w.heap.size w w'∧∃ L,OwnB w.heap.size w' x L∧(∀ t ∈ L,Own w.heap.size w' t.v t.l)∧bls L=openR D
theorem openW_no {D:DkM} (h:openE D≠0):openW D=⟨openD D,0,false,false⟩∧openR D=[]:=by
 unfold openW openR
 rw [if_neg h,if_neg h]
 exact ⟨rfl,rfl⟩
theorem openW_yes {D:DkM} (h:openE D=0):openW D=⟨openD D,(recsL (D.s ++ D.m)).length,false,true⟩∧openR D=recsL (D.s ++ D.m):=by
 have hr:openR D=recsL (D.s ++ D.m):=by unfold openR;rw [if_pos h]
 refine ⟨?_,hr⟩
 unfold openW
 rw [if_pos h,hr]
set_option maxHeartbeats 800000 in
theorem refOpen19_any (D:DkM) (C:Array Value) (a:Option Nat) (w:World) (hC:RfC w C D a) (g:D.Good) (ha:∀ k,a=some k→k < w.heap.size) (hl:D.s.length + D.m.length≤900000):
  Calls Try.prog 10 #[.agg C] w (OqPost D a w):=by
 unfold OqPost
 obtain ⟨P,HP⟩:∃ P:Int→Array Value→Value→World→Prop,Hid ((fun E X x w'=>E=openE D∧RwC w' X (openW D) a∧Below w.heap.size w w'∧∃ L,OwnB w.heap.size w' x L∧(∀ t ∈ L,Own w.heap.size w' t.v t.l)∧bls L=openR D)=P):=⟨_,hid rfl⟩
 have hgoal:Calls Try.prog 10 #[.agg C] w (fun e w'=>∃ X x E,e=.returned (.tuple #[.agg X,x,.int .i64 E])∧P E X x w')→Calls Try.prog 10 #[.agg C] w (fun e w'=>∃ X x,e=.returned (.tuple #[.agg X,x,.int .i64 (openE D)])∧RwC w' X (openW D) a∧Below w.heap.size w w'∧∃ L,OwnB w.heap.size w' x L∧(∀ t ∈ L,Own w.heap.size w' t.v t.l)∧bls L=openR D):=fun C=>C.mono fun e w' ⟨X,x,E,h1,h2⟩=>by
  rw [← HP.out] at h2
  obtain ⟨rfl,h2⟩:=h2
  exact ⟨X,x,h1,h2⟩
 refine hgoal ?_
 clear hgoal
 have HNO:Hid (∀ W x (E:Int) (D':DkM) X,E≠0→openE D=E→openD D=D'→RwC W X ⟨D',0,false,false⟩ a→Below w.heap.size w W→x=.slice none 0 0→P E X x W):=hid (fun W x E D' X h0 h1 h2 h3 h4 h5=>by
  subst h5 h2
  rw [← HP.out]
  have hw:=openW_no (D:=D) (by rw [h1];exact h0)
  exact ⟨h1.symm,by rw [hw.1];exact h3,h4,[],OwnE.nil _ _,(fun t ht=>by cases ht),hw.2.symm⟩)
 have HYES:Hid (∀ W x (D':DkM) X L,openE D=0→openD D=D'→RwC W X ⟨D',L.length,false,true⟩ a→Below w.heap.size w W→OwnB w.heap.size W x L→(∀ t ∈ L,Own w.heap.size W t.v t.l)→bls L=recsL (D.s ++ D.m)→P 0 X x W):=hid (fun W x D' X L h1 h2 h3 h4 h5 h6 h7=>by
  subst h2
  rw [← HP.out]
  have hw:=openW_yes h1
  exact ⟨h1.symm,by rw [hw.1,← h7,bls_length];exact h3,h4,L,h5,h6,by rw [hw.2];exact h7⟩)
 have HC0:=hid hC
 have HG:=hid g
 have HAA:=hid ha
 have HSZ:=hid hC.size
 have HBX:Hid (∀ (W:World) (g:Nat),W.heap[g]?=some (.cells C 35 (0,0))→W.cell? ⟨g,5,none⟩=some (.bool D.dead)):=hid (fun W g h=>by
  obtain ⟨v0,v1,v2,rfl,_⟩:=hC
  rw [coBlk_cell h]
  rfl)
 have HLL:=hid hl
 have hal:=allocRw_two w C 35
 have HS0:=hid (op_begin w C)
 clear hC g ha hl HP
 go_enter Try.func10,Try.ntmps10
 go_upto_region 1 with (fail)
 clear hal
 generalize ((w.alloc (.cells C 35)).alloc (.cells rwZ 37))=wz at *
 have k5:=HBX.out wz _ HS0.out.r0
 have HCZ:=hid (HC0.out.below HS0.out.b)
 have hld:=HS0.out.ld HSZ.out
 cases hd:D.dead with
 | true=>
  rw [hd] at k5
  have HE:Hid (openE D=6∧openD D=D):=hid (by unfold openE openD;rw [if_pos hd,if_pos hd];exact ⟨rfl,rfl⟩)
  clear hd
  obtain ⟨hst,hrw,hrf,hbl,hsz⟩:=HS0.out.fin (V:=⟨D,0,false,false⟩) (CX:=C) HCZ.out
  have hbu:=buildRwA_eq (C:=C) HCZ.out.size
  obtain ⟨X,HX⟩:∃ q:Array Value,Hid (rwc C 0 false false=q):=⟨_,hid rfl⟩
  simp only at hst hrw hrf hbl hsz
  rw [HX.out] at hst hrw hrf hbl hsz
  simp only [HX.out] at hbu
  have HRW:=hid hrw
  have HSX:=hid hsz
  have HPP:=hid (HNO.out _ _ 6 D X (by omega) HE.out.1 HE.out.2 hrf hbl rfl)
  clear hrw hrf hbl hsz
  go_wp2_with fail
  try simp only [Exit.inBlock,Exit.then]
  refine bodyPost_ret (results_rw3 rfl _ _ _ _ _ _ _ rfl rfl rfl HRW.out HSX.out) rfl ⟨X,_,_,rfl,HPP.out⟩
 | false=>
  rw [hd] at k5
  have HDF:=hid hd
  clear hd
  have HALL:=hid (refAll18_any D C a wz HCZ.out (by have:=HLL.out;omega))
  obtain ⟨l,HL⟩:∃ q:List UInt8,Hid (D.s ++ D.m=q):=⟨_,hid rfl⟩
  rw [HL.out] at HALL
  have HLB:Hid (l.length=D.s.length + D.m.length∧l.length≤900000):=hid (by rw [← HL.out,List.length_append];exact ⟨rfl,HLL.out⟩)
  go_wp2_with fail
  refine HALL.out.mono ?_
  rintro e w1 ⟨v1,rfl,ho1,hb1⟩
  have HS1:=hid (HS0.out.below hb1)
  obtain ⟨VA,VC,rfl⟩:=ho1.byt.shape
  obtain ⟨N,HN⟩:∃ q:Nat,Hid (l.length=q):=⟨_,hid rfl⟩
  have HRC:=hid (refRecords19_any _ l w1 ho1.byt HLB.out.2)
  rw [HN.out] at HRC ⊢
  clear ho1 hb1 hld k5
  go_wp2_with fail
  refine HRC.out.mono ?_
  rintro e w2 ⟨x,L,v2,rfl,ho2,ht2,hbl2,hy2,hLn2,hb2⟩
  have HS2:=hid (HS1.out.below hb2)
  obtain ⟨TA,TC,rfl⟩:=hy2.shape
  have HSZ1:=hid HS1.out.b.size
  have HLS:Hid (OwnB w.heap.size w2 x L∧(∀ t ∈ L,Own w.heap.size w2 t.v t.l)∧bls L=recsL (D.s ++ D.m)):=hid ⟨OwnE.more ho2 HSZ1.out,fun t ht=>(ht2 t ht).more HSZ1.out,by rw [HL.out];exact hbl2⟩
  obtain ⟨XA,XC,rfl⟩:=ho2.shape
  obtain ⟨M,HM⟩:∃ q:Nat,Hid (L.length=q):=⟨_,hid rfl⟩
  have HSPT:=hid (refSpoilt19_any _ (tailL l) w2 hy2 (by
   have h1:=congrArg List.length (recs_all _ l (Nat.le_refl _)).1
   rw [List.length_append] at h1
   have:=HLB.out.2
   omega))
  obtain ⟨T,HT⟩:∃ q:Nat,Hid ((tailL l).length=q):=⟨_,hid rfl⟩
  obtain ⟨n,HNT⟩:∃ n:Nat,Hid (n + T=N):=⟨N - T,hid (by
   have h1:=congrArg List.length (recs_all _ l (Nat.le_refl _)).1
   rw [List.length_append,HT.out,HN.out] at h1
   omega)⟩
  have HSET:Hid (spoiltB (tailL l)=false→openE D=settleE D (n:Int) T∧openD D=settleD D (n:Int) T):=hid (fun hs=>by
   have:=open_settle (D:=D) (n:=n) HDF.out (by rw [HL.out];exact hs) (by rw [HL.out,HT.out,HN.out];exact HNT.out)
   rw [HL.out,HT.out] at this
   exact this)
  rw [HT.out] at HSPT ⊢
  rw [HM.out] at HLS ⊢
  have HC2:=hid (HC0.out.below HS2.out.b)
  clear ho2 ht2 hbl2 hy2 hLn2 hb2 HRC HALL
  by_cases h0:T=0
  ·subst h0
   have HE:Hid (openE D=syncE D∧openD D=syncD D):=hid (HSET.out (by
    have e:tailL l=[]:=List.eq_nil_of_length_eq_zero HT.out
    rw [e]
    exact spoilt_no (by rfl)))
   have hld:=HS2.out.ld HSZ.out
   have HSY:=hid (refSync18_any D C a w2 HC2.out HG.out (fun k e=>Nat.lt_of_lt_of_le (HAA.out k e) HS2.out.b.size))
   obtain ⟨E2,HEE2⟩:∃ q:Int,Hid (syncE D=q):=⟨_,hid rfl⟩
   obtain ⟨D2,HDD2⟩:∃ q:DkM,Hid (syncD D=q):=⟨_,hid rfl⟩
   rw [HEE2.out,HDD2.out] at HSY HE
   unfold RdPost at HSY
   go_wp2_with fail
   refine HSY.out.mono ?_
   rintro e w7 ⟨C2,rfl,hc7,hb7⟩
   have HS7:=hid (HS2.out.below hb7)
   have HLS7:Hid (OwnB w.heap.size w7 (.slice XA M XC) L∧∀ t ∈ L,Own w.heap.size w7 t.v t.l):=hid ⟨OwnE.below HLS.out.1 hb7,fun t ht=>(HLS.out.2.1 t ht).below hb7⟩
   have HC7:=hid hc7
   have hal:=allocRd_eq w7
   have hsv:=rd_var w7 (Z:=rdZ) rfl hc7.size hc7.one
   clear hb7 hc7 HSY hld
   go_upto_region 13 with (fail)
   clear hal hsv
   have hba:Below w7.heap.size w7 (w7.alloc (.cells C2 35)):=(Below.refl _ _).alloc (Nat.le_refl _) _
   have HS8:=hid (HS7.out.below hba)
   have HC8:=hid (HC7.out.below hba)
   have hl10:=loadRd_row (heap_alloc_new w7 (.cells C2 35)) HC7.out.size
   have HLS8:Hid (OwnB w.heap.size (w7.alloc (.cells C2 35)) (.slice XA M XC) L∧∀ t ∈ L,Own w.heap.size (w7.alloc (.cells C2 35)) t.v t.l):=hid ⟨OwnE.below HLS7.out.1 hba,fun t ht=>(HLS7.out.2 t ht).below hba⟩
   generalize (w7.alloc (.cells C2 35))=w8 at *
   by_cases he2:E2≠0
   ·have hb2:=ne_bool he2
    have HNE2:=hid he2
    clear he2
    obtain ⟨hst,hrw,hrf,hbl,hsz⟩:=HS8.out.fin (V:=⟨D2,0,false,false⟩) (CX:=C2) HC8.out
    have hbu:=buildRwA_eq (C:=C2) HC8.out.size
    obtain ⟨X,HX⟩:∃ q:Array Value,Hid (rwc C2 0 false false=q):=⟨_,hid rfl⟩
    simp only at hst hrw hrf hbl hsz
    rw [HX.out] at hst hrw hrf hbl hsz
    simp only [HX.out] at hbu
    have HRW:=hid hrw
    have HSX:=hid hsz
    have HPP:=hid (HNO.out _ _ E2 D2 X HNE2.out HE.out.1 HE.out.2 hrf hbl rfl)
    clear hrw hrf hbl hsz
    go_wp2_with fail
    try simp only [Exit.inBlock,Exit.then]
    refine bodyPost_ret (results_rw3 rfl _ _ _ _ _ _ _ rfl rfl rfl HRW.out HSX.out) rfl ⟨X,_,_,rfl,HPP.out⟩
   ·obtain rfl:E2=0:=by omega
    clear he2
    obtain ⟨hst,hrw,hrf,hbl,hsz⟩:=HS8.out.fin (V:=⟨D2,M,false,true⟩) (CX:=C2) HC8.out
    have hbu:=buildRwB_eq (C:=C2) HC8.out.size M true
    obtain ⟨X,HX⟩:∃ q:Array Value,Hid (rwc C2 M false true=q):=⟨_,hid rfl⟩
    obtain ⟨hl1,hl2⟩:=HS8.out.lists (X:=X) HLS8.out.1 HLS8.out.2
    simp only at hst hrw hrf hbl hsz
    rw [HX.out] at hst hrw hrf hbl hsz
    simp only [HX.out] at hbu
    have HRW:=hid hrw
    have HSX:=hid hsz
    have HPP:=hid (HYES.out _ _ D2 X L HE.out.1 HE.out.2 (by rw [HM.out];exact hrf) hbl hl1 hl2 HLS.out.2.2)
    clear hrw hrf hbl hsz hl1 hl2
    go_wp2_with fail
    try simp only [Exit.inBlock,Exit.then]
    refine bodyPost_ret (results_rw3 rfl _ _ _ _ _ _ _ rfl rfl rfl HRW.out HSX.out) rfl ⟨X,_,_,rfl,HPP.out⟩
  ·have h0i:(0:Int) < (T:Int):=by omega
   obtain ⟨S,HSP⟩:∃ q:Bool,Hid (spoiltB (tailL l)=q):=⟨_,hid rfl⟩
   rw [HSP.out] at HSPT
   go_wp2_with fail
   refine HSPT.out.mono ?_
   rintro e w3 ⟨rfl,hb3⟩
   have HS3:=hid (HS2.out.below hb3)
   have HC3:=hid (HC0.out.below HS3.out.b)
   have HLS3:Hid (OwnB w.heap.size w3 (.slice XA M XC) L∧(∀ t ∈ L,Own w.heap.size w3 t.v t.l)∧bls L=recsL (D.s ++ D.m)):=hid ⟨OwnE.below HLS.out.1 hb3,fun t ht=>(HLS.out.2.1 t ht).below hb3,HLS.out.2.2⟩
   have hld:=HS3.out.ld HSZ.out
   clear hb3 HSPT
   cases S with
   | true=>
    have HE:Hid (openE D=10∧openD D=D):=hid (by
     have hsp:=HSP.out
     have hne:tailL l≠[]:=fun e=>by
      rw [e,spoilt_no (by rfl)] at hsp
      cases hsp
     have hnd:¬ D.dead=true:=by rw [HDF.out];simp
     unfold openE openD
     rw [HL.out,if_neg hnd,if_neg hnd,if_pos ⟨hne,hsp⟩,if_pos ⟨hne,hsp⟩]
     exact ⟨rfl,rfl⟩)
    obtain ⟨hst,hrw,hrf,hbl,hsz⟩:=HS3.out.fin (V:=⟨D,0,false,false⟩) (CX:=C) HC3.out
    have hbu:=buildRwA_eq (C:=C) HC3.out.size
    obtain ⟨X,HX⟩:∃ q:Array Value,Hid (rwc C 0 false false=q):=⟨_,hid rfl⟩
    simp only at hst hrw hrf hbl hsz
    rw [HX.out] at hst hrw hrf hbl hsz
    simp only [HX.out] at hbu
    have HRW:=hid hrw
    have HSX:=hid hsz
    have HPP:=hid (HNO.out _ _ 10 D X (by omega) HE.out.1 HE.out.2 hrf hbl rfl)
    clear hrw hrf hbl hsz
    go_wp2_with fail
    try simp only [Exit.inBlock,Exit.then]
    refine bodyPost_ret (results_rw3 rfl _ _ _ _ _ _ _ rfl rfl rfl HRW.out HSX.out) rfl ⟨X,_,_,rfl,HPP.out⟩
   | false=>
    have HEE:=hid (HSET.out HSP.out)
    have hnt:wrap64 ((N:Int) - (T:Int))=(n:Int):=by have:=HNT.out;have:=HLB.out.2;have:=HN.out;unfold wrap64;omega
    have hnt2:(N:Int) - (T:Int)=(n:Int):=by have:=HNT.out;omega
    have hnt3:wrap64 (n:Int)=(n:Int):=by have:=HNT.out;have:=HLB.out.2;have:=HN.out;unfold wrap64;omega
    have HCU:=hid (refCut18_any D C a (n:Int) w3 HC3.out HG.out (fun k e=>Nat.lt_of_lt_of_le (HAA.out k e) HS3.out.b.size))
    obtain ⟨E1,HE1⟩:∃ q:Int,Hid (cutE D (n:Int)=q):=⟨_,hid rfl⟩
    obtain ⟨D1,HD1⟩:∃ q:DkM,Hid (cutD D (n:Int)=q):=⟨_,hid rfl⟩
    have HG1:Hid D1.Good:=hid (by rw [← HD1.out];exact cutD_good HG.out _)
    rw [HE1.out,HD1.out] at HCU
    have HE2:Hid (openE D=(if E1≠0 then E1 else syncE D1)∧openD D=(if E1≠0 then D1 else syncD D1)):=hid (by
     have:=HEE.out
     unfold settleE settleD at this
     rw [if_neg h0,if_neg h0,HE1.out,HD1.out] at this
     exact this)
    unfold RdPost at HCU
    go_wp2_with fail
    refine HCU.out.mono ?_
    rintro e w4 ⟨C1,rfl,hc4,hb4⟩
    have HS4:=hid (HS3.out.below hb4)
    have HLS4:Hid (OwnB w.heap.size w4 (.slice XA M XC) L∧∀ t ∈ L,Own w.heap.size w4 t.v t.l):=hid ⟨OwnE.below HLS3.out.1 hb4,fun t ht=>(HLS3.out.2.1 t ht).below hb4⟩
    have HC4:=hid hc4
    have hal:=allocRd_eq w4
    have hsv:=rd_var w4 (Z:=rdZ) rfl hc4.size hc4.one
    clear hb4 hc4 HCU hld hnt hnt2 hnt3
    go_upto_region 9 with (fail)
    clear hal hsv
    have hba:Below w4.heap.size w4 (w4.alloc (.cells C1 35)):=(Below.refl _ _).alloc (Nat.le_refl _) _
    have HS5:=hid (HS4.out.below hba)
    have HC5:=hid (HC4.out.below hba)
    have hl8:=loadRd_row (heap_alloc_new w4 (.cells C1 35)) HC4.out.size
    have HLS5:Hid (OwnB w.heap.size (w4.alloc (.cells C1 35)) (.slice XA M XC) L∧∀ t ∈ L,Own w.heap.size (w4.alloc (.cells C1 35)) t.v t.l):=hid ⟨OwnE.below HLS4.out.1 hba,fun t ht=>(HLS4.out.2 t ht).below hba⟩
    generalize (w4.alloc (.cells C1 35))=w5 at *
    obtain ⟨hst5,hs6⟩:=HS5.out.box HSZ.out (C':=C1) HC4.out.size HC4.out.one
    have HS6:=hid hs6
    have HC6:=hid (HS5.out.rf (C':=C1) HC5.out)
    have HSZ6:=hid HC4.out.size
    have HLS6:Hid (OwnB w.heap.size (setSe w5 w.heap.size C1) (.slice XA M XC) L∧(∀ t ∈ L,Own w.heap.size (setSe w5 w.heap.size C1) t.v t.l)∧bls L=recsL (D.s ++ D.m)):=hid ⟨HS5.out.ownB HLS5.out.1,fun t ht=>HS5.out.own (HLS5.out.2 t ht),HLS3.out.2.2⟩
    clear hs6
    go_upto_region 10 with (fail)
    clear hst5 hl8
    generalize (setSe w5 w.heap.size C1)=w6 at *
    by_cases he:E1≠0
    ·have hb:=ne_bool he
     have HE:Hid (openE D=E1∧openD D=D1):=hid (by have:=HE2.out;rw [if_pos he,if_pos he] at this;exact this)
     have HNE:=hid he
     clear he
     have hld:=HS6.out.ld HSZ6.out
     obtain ⟨hst,hrw,hrf,hbl,hsz⟩:=HS6.out.fin (V:=⟨D1,0,false,false⟩) (CX:=C1) HC6.out
     have hbu:=buildRwA_eq (C:=C1) HC6.out.size
     obtain ⟨X,HX⟩:∃ q:Array Value,Hid (rwc C1 0 false false=q):=⟨_,hid rfl⟩
     simp only at hst hrw hrf hbl hsz
     rw [HX.out] at hst hrw hrf hbl hsz
     simp only [HX.out] at hbu
     have HRW:=hid hrw
     have HSX:=hid hsz
     have HPP:=hid (HNO.out _ _ E1 D1 X HNE.out HE.out.1 HE.out.2 hrf hbl rfl)
     clear hrw hrf hbl hsz
     go_wp2_with fail
     try simp only [Exit.inBlock,Exit.then]
     refine bodyPost_ret (results_rw3 rfl _ _ _ _ _ _ _ rfl rfl rfl HRW.out HSX.out) rfl ⟨X,_,_,rfl,HPP.out⟩
    ·have HE:Hid (openE D=syncE D1∧openD D=syncD D1):=hid (by have:=HE2.out;rw [if_neg he,if_neg he] at this;exact this)
     obtain rfl:E1=0:=by omega
     clear he
     have hld:=HS6.out.ld HSZ6.out
     have HSY:=hid (refSync18_any D1 C1 a w6 HC6.out HG1.out (fun k e=>Nat.lt_of_lt_of_le (HAA.out k e) HS6.out.b.size))
     obtain ⟨E2,HEE2⟩:∃ q:Int,Hid (syncE D1=q):=⟨_,hid rfl⟩
     obtain ⟨D2,HDD2⟩:∃ q:DkM,Hid (syncD D1=q):=⟨_,hid rfl⟩
     rw [HEE2.out,HDD2.out] at HSY HE
     unfold RdPost at HSY
     go_wp2_with fail
     refine HSY.out.mono ?_
     rintro e w7 ⟨C2,rfl,hc7,hb7⟩
     have HS7:=hid (HS6.out.below hb7)
     have HLS7:Hid (OwnB w.heap.size w7 (.slice XA M XC) L∧∀ t ∈ L,Own w.heap.size w7 t.v t.l):=hid ⟨OwnE.below HLS6.out.1 hb7,fun t ht=>(HLS6.out.2.1 t ht).below hb7⟩
     have HC7:=hid hc7
     have hal:=allocRd_eq w7
     have hsv:=rd_var w7 (Z:=rdZ) rfl hc7.size hc7.one
     clear hb7 hc7 HSY hld
     go_upto_region 13 with (fail)
     clear hal hsv
     have hba:Below w7.heap.size w7 (w7.alloc (.cells C2 35)):=(Below.refl _ _).alloc (Nat.le_refl _) _
     have HS8:=hid (HS7.out.below hba)
     have HC8:=hid (HC7.out.below hba)
     have hl10:=loadRd_row (heap_alloc_new w7 (.cells C2 35)) HC7.out.size
     have HLS8:Hid (OwnB w.heap.size (w7.alloc (.cells C2 35)) (.slice XA M XC) L∧∀ t ∈ L,Own w.heap.size (w7.alloc (.cells C2 35)) t.v t.l):=hid ⟨OwnE.below HLS7.out.1 hba,fun t ht=>(HLS7.out.2 t ht).below hba⟩
     generalize (w7.alloc (.cells C2 35))=w8 at *
     by_cases he2:E2≠0
     ·have hb2:=ne_bool he2
      have HNE2:=hid he2
      clear he2
      obtain ⟨hst,hrw,hrf,hbl,hsz⟩:=HS8.out.fin (V:=⟨D2,0,false,false⟩) (CX:=C2) HC8.out
      have hbu:=buildRwA_eq (C:=C2) HC8.out.size
      obtain ⟨X,HX⟩:∃ q:Array Value,Hid (rwc C2 0 false false=q):=⟨_,hid rfl⟩
      simp only at hst hrw hrf hbl hsz
      rw [HX.out] at hst hrw hrf hbl hsz
      simp only [HX.out] at hbu
      have HRW:=hid hrw
      have HSX:=hid hsz
      have HPP:=hid (HNO.out _ _ E2 D2 X HNE2.out HE.out.1 HE.out.2 hrf hbl rfl)
      clear hrw hrf hbl hsz
      go_wp2_with fail
      try simp only [Exit.inBlock,Exit.then]
      refine bodyPost_ret (results_rw3 rfl _ _ _ _ _ _ _ rfl rfl rfl HRW.out HSX.out) rfl ⟨X,_,_,rfl,HPP.out⟩
     ·obtain rfl:E2=0:=by omega
      clear he2
      obtain ⟨hst,hrw,hrf,hbl,hsz⟩:=HS8.out.fin (V:=⟨D2,M,false,true⟩) (CX:=C2) HC8.out
      have hbu:=buildRwB_eq (C:=C2) HC8.out.size M true
      obtain ⟨X,HX⟩:∃ q:Array Value,Hid (rwc C2 M false true=q):=⟨_,hid rfl⟩
      obtain ⟨hl1,hl2⟩:=HS8.out.lists (X:=X) HLS8.out.1 HLS8.out.2
      simp only at hst hrw hrf hbl hsz
      rw [HX.out] at hst hrw hrf hbl hsz
      simp only [HX.out] at hbu
      have HRW:=hid hrw
      have HSX:=hid hsz
      have HPP:=hid (HYES.out _ _ D2 X L HE.out.1 HE.out.2 (by rw [HM.out];exact hrf) hbl hl1 hl2 HLS6.out.2.2)
      clear hrw hrf hbl hsz hl1 hl2
      go_wp2_with fail
      try simp only [Exit.inBlock,Exit.then]
      refine bodyPost_ret (results_rw3 rfl _ _ _ _ _ _ _ rfl rfl rfl HRW.out HSX.out) rfl ⟨X,_,_,rfl,HPP.out⟩
end Go.Proofs.Ytfpgglclpkcdhaa
