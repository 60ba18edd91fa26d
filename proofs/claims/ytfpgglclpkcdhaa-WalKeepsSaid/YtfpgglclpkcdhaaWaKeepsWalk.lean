/-
  WalKeeps: the law's walk. Printed with genkp.py.
-/
import Derived.Test.YtfpgglclpkcdhaaWaKpWords
namespace Go.Proofs.Ytfpgglclpkcdhaa
set_option maxRecDepth 20000
open Go.RowKit
attribute [local go_sem ↓] exec_load_aw exec_alloc_aw exec_store_aw exec_cut_bth
theorem els_none {g:Nat} (W:World):Els btl 1 W (.slice (some ⟨g,0,none⟩) 0 0) []:=⟨_,0,rfl,Nat.le_refl _,Nat.zero_le _,ElsA.nil _ _⟩
theorem ownB_new (w:World):OwnB w.heap.size (w.alloc (.cells #[] 33)) (.slice (some ⟨w.heap.size,0,none⟩) 0 0) []:=World.ownsRow_made w #[] 0 (Nat.le_refl _) (Nat.zero_le _) rfl
theorem DkE.more {w:World} {b B B':Nat} {D:DkM} {va vt:Value} (h:DkE w b B D va vt) (hB:B'≤B):DkE w b B' D va vt:=⟨h.p,h.o.more hB,h.t,h.f⟩
theorem kp_again {w W:World} {b i c n:Nat} {D:DkM} {br:Bool} {K Tr:List BtM} {va vt kv tv:Value} (h:KpM w W b i D c n br K Tr va vt kv tv) (hd:D.dead=true) (k:Int):∃ j,j≤Tr.length∧openE (crashD D k)=0∧openR (crashD D k)=bls K ++ bls (Tr.take j)∧WellW (openD (crashD D k)) (bls K ++ bls (Tr.take j))∧(openD (crashD D k)).room=1048576:=by
 have hs:(crashD D k).s=flatR (bls K) ++ (flatR (bls Tr)).take k.toNat:=by
  show D.s ++ (D.m ++ D.h).take k.toNat=_
  rw [h.s,h.died hd]
 obtain ⟨j,hj,h1,h2,h3⟩:=open_crash (D:=crashD D k) h.mp h.mt hs rfl rfl rfl rfl
 have e:(bls Tr).take j=bls (Tr.take j):=by unfold bls;rw [List.map_take]
 rw [e] at h2 h3
 refine ⟨j,by rw [bls_length] at hj;exact hj,h1,h2,⟨openD_good (crashD_good h.g k),by rw [h3],by rw [h3],by rw [h3],?_⟩,by rw [h3];exact h.rm⟩
 intro r hr
 rcases List.mem_append.1 hr with hr | hr
 ·exact h.mp r hr
 ·unfold bls at hr
  rw [List.map_take] at hr
  exact h.mt r (List.mem_of_mem_take hr)
theorem len_of_bls {L M:List BtM} (h:bls L=bls M) {k:Nat} (hm:∀ t ∈ M,t.l.length≤k):∀ t ∈ L,t.l.length≤k:=fun t ht=>by
 have h1:t.l ∈ bls M:=by
  rw [← h]
  exact List.mem_map.2 ⟨t,ht,rfl⟩
 obtain ⟨u,hu,e⟩:=List.mem_map.1 h1
 rw [← e]
 exact hm u hu
set_option maxHeartbeats 25600000 in
theorem lawWalKeeps_any (v:Value) (L:List ActW) (w:World) (hv:Els awl 6 w v L) (ho:∀ x ∈ L,AwOk w x):
  Calls Try.prog 4 #[v] w fun e w'=>e=.returned (.bool true)∧Below w.heap.size w w':=by
 have HFIN:Hid (∀ W,Below w.heap.size w W→Calls Try.prog 7 #[] W fun e w'=>e=.returned (.bool true)∧Below w.heap.size w w'):=hid (fun W hb=>(walAwake_any W).mono fun _ _ ⟨h1,h2⟩=>⟨h1,hb.trans (h2.mono hb.size)⟩)
 have HLT:=hid (light19_any v L w hv ho)
 obtain ⟨A,d,rfl⟩:=hv.shape
 have hr:=hv.at_.2.2.2
 obtain ⟨N,HN⟩:∃ q:Nat,Hid (L.length=q):=⟨_,hid rfl⟩
 have HCEL:Hid (∀ k (h:k < L.length),∃ b off,A=some ⟨b,off,none⟩∧∀ W,Below w.heap.size w W→loadAw (.pointer (some ⟨b,off + k * 6,none⟩)) W=.ok (.value (.agg (awc L[k]))) W):=hid (fun k hk=>by
  obtain ⟨b,off,e,hb,hc⟩:=hr (by omega)
  exact ⟨b,off,e,fun W hW=>loadAw_mid (range_kept (hc k hk) (hW.block b hb))⟩)
 have HOK:Hid (∀ k (h:k < L.length),AwOk w L[k]):=hid (fun k hk=>ho _ (List.getElem_mem hk))
 rw [HN.out] at HLT ⊢
 clear hv ho hr
 go_enter Try.func4,Try.ntmps4
 go_wp2_with fail
 refine HLT.out.mono ?_
 rintro e w1 ⟨q,rfl,hq,hb1⟩
 have HB1:=hid hb1
 clear hb1
 cases q with
 | false=>
  clear hq
  go_wp2_with fail
  refine (HFIN.out w1 HB1.out).mono ?_
  rintro e w2 ⟨rfl,hb2⟩
  go_wp2_with fail
  go_ret
  exact ⟨rfl,hb2⟩
 | true=>
 have HLA:=hid (hq rfl)
 clear hq
 have HNW:=hid (dkNew_yes 1048576 w1 (by omega) (by omega))
 go_wp2_with fail
 refine HNW.out.mono ?_
 rintro e w2 ⟨rfl,h2,hb2⟩
 have HB2:=hid (HB1.out.trans (hb2.mono HB1.out.size))
 have HO2:=hid (walOpen_any h2 (newDk_good (by omega) (by omega)) (by decide))
 have HE2:=hid h2
 obtain ⟨o1,o2,o3⟩:=open_new 1048576
 clear h2 hb2 HNW
 go_wp2_with fail
 refine HO2.out.mono ?_
 rintro e w3 ⟨p,x,rfl,⟨va3,vt3,e3,t3,n3,_,hy⟩,_⟩
 rw [o1] at hy
 obtain ⟨c,LL,rfl,hc,hw3,ho3,_,hbl,_⟩:=hy rfl
 rw [o2] at hbl
 rw [o3] at e3
 obtain rfl:LL=[]:=by
  have:=congrArg List.length hbl
  rw [bls_length] at this
  exact List.eq_nil_of_length_eq_zero this
 have HB3:=hid (t3.below HB2.out HB1.out.size (fun k e=>(by have:=(HE2.out.o.base e).1;exact Nat.le_trans HB1.out.size this)) HB2.out.size)
 obtain ⟨XA,XC,rfl⟩:=ho3.shape
 have HE3:=hid e3
 have HW3:=hid hw3
 have HC:=hid (Nat.le_trans HB2.out.size hc)
 rw [o1]
 clear e3 t3 n3 hy hw3 ho3 hbl hc o1 o2 o3 HO2
 go_upto_region 10 with (fail)
 obtain ⟨b,HBB⟩:∃ q:Nat,Hid (w1.heap.size=q):=⟨_,hid rfl⟩
 rw [HBB.out] at HE3 HW3 ⊢
 have HST:Hid (∃ D n K va vt,KpE w (w3.alloc (.cells #[] 33)) b 0 D c n K va vt (.slice (some ⟨w3.heap.size,0,none⟩) 0 0)):=hid (by
  have ho:=ownB_new w3
  have hal:Below w3.heap.size w3 (w3.alloc (.cells #[] 33)):=(Below.refl _ _).alloc (Nat.le_refl _) _
  have hbb:w.heap.size≤b:=by rw [← HBB.out];exact HB1.out.size
  exact ⟨_,_,_,_,_,⟨(HE3.out.below hal).more hbb,⟨newDk_good (by omega) (by omega),rfl,rfl,rfl,(fun r hr=>by cases hr)⟩,rfl,HW3.out.below hal,Nat.zero_le _,HC.out,⟨OwnE.more ho HB3.out.size,(fun t ht=>by cases ht)⟩,Nat.zero_le _,(fun t ht=>by cases ht),HB3.out.trans (hal.mono HB3.out.size),hbb⟩⟩)
 generalize (w3.alloc (.cells #[] 33))=w4 at *
 generalize Value.slice (some ⟨w3.heap.size,0,none⟩) 0 0=kv0 at *
 clear HE3 HW3 HB3 HE2 HB2
 go_wp2_with fail
 go_loopw [5,8,9] (fun s5 s8 s9 wr=>∃ k:Nat,k≤N∧s9=.int .i64 (k:Int)∧∃ c',s5=.pointer (some ⟨c',0,none⟩)∧Hid (∃ D n K va vt,KpE w wr b k D c' n K va vt s8)) (fun _ _ s9 _=>N - (intOf s9).toNat)
 case atStart=>exact ⟨0,Nat.zero_le _,rfl,c,rfl,HST⟩
 case round=>
  obtain ⟨k,hk,rfl,c,rfl,HREL⟩:=hrel
  by_cases hlt:k < N
  ·have hlt':(k:Int) < (N:Int):=by omega
   have hkL:k < L.length:=by rw [HN.out];exact hlt
   obtain ⟨b0,off,rfl,hld⟩:=HCEL.out k hkL
   have HKO:=hid (HOK.out k hkL)
   have HXL:=hid (HLA.out.2 k hkL)
   obtain ⟨D,n,K,va,vt,hS⟩:=HREL.out
   have HLD:=hid hld
   generalize L[k]=x at *
   have HSS:=hid hS
   have HK30:Hid (k≤30):=hid (by have:=HLA.out.1;rw [HN.out] at this;omega)
   have HLT:=hid hlt
   have HWI:Hid (wrap64 ((k:Int) + 1)=((k + 1:Nat):Int)):=hid (by have:=HK30.out;unfold wrap64;omega)
   obtain ⟨KA,KC,rfl⟩:=hS.kv.o.shape
   have HXN:=hid (show x.a.n≤9223372036854775807 from by
    have h1:-9223372036854775808≤x.a.n∧x.a.n≤9223372036854775807:=by simpa [Lit.wf,IntKind.min,IntKind.max,IntKind.signed,IntKind.bits] using HKO.out.1.1
    exact h1.2)
   have hld1:=hld wr hS.bel
   have hal:=allocAw_eq wr
   have hst:=aw_var wr (Z:=awc awZ) (S:=awc x) rfl rfl (all_oneCell_toArray (awl_one x))
   clear hS hld hkL HREL hlt hk
   go_upto_region 14 with (fail)
   have HX1:=hid (heap_alloc_new wr (.cells (awc x) 44))
   have hba:Below wr.heap.size wr (wr.alloc (.cells (awc x) 44)):=(Below.refl _ _).alloc (Nat.le_refl _) _
   have HS1:=hid (HSS.out.below hba)
   clear hld1 hal hst hba
   generalize (wr.alloc (.cells (awc x) 44))=w5 at *
   obtain ⟨g,HGG⟩:∃ q:Nat,Hid (wr.heap.size=q):=⟨_,hid rfl⟩
   rw [HGG.out] at HX1 ⊢
   go_upto_region 15 with (fail)
   have hba:Below w5.heap.size w5 (w5.alloc (.cells #[] 33)):=(Below.refl _ _).alloc (Nat.le_refl _) _
   have HX2:=hid ((hba.block _ (lt_of_block HX1.out)).trans HX1.out)
   have HS2:=hid (HS1.out.below hba)
   clear hba
   generalize (w5.alloc (.cells #[] 33))=w6 at *
   generalize w5.heap.size=g5 at *
   obtain ⟨XN,HXNN⟩:∃ q:Nat,Hid (x.L.length=q):=⟨_,hid rfl⟩
   have HCELLS:Hid (∀ W:World,W.heap[g]?=some (.cells (awc x) 44 (0,0))→W.cell? ⟨g,0,none⟩=some (.int .i64 x.act)∧W.cell? ⟨g,1,none⟩=some (.slice x.lA XN x.lc)∧W.cell? ⟨g,2,none⟩=some (.int .i64 x.a.act)∧W.cell? ⟨g,4,none⟩=some (.int .i64 x.a.n)):=hid (fun W h=>by
    simp only [coBlk_cell h]
    rw [← HXNN.out]
    exact ⟨rfl,rfl,rfl,rfl⟩)
   have HEL:Hid (∀ W,Below w.heap.size w W→Els btl 1 W (.slice x.lA XN x.lc) x.L):=hid (fun W hb=>by
    have:=HKO.out.2.1.below hb
    unfold ActW.lv at this
    rw [HXNN.out] at this
    exact this)
   obtain ⟨d0,d1,d2,d4⟩:=HCELLS.out _ HX2.out
   go_upto_if 56 with (fail)
   go_cut [8,11] (fun s8 s11 wx=>Hid (KpMid w wx b k g (awc x) c s8 s11))
   case first=>
    by_cases p0:x.act=0
    ·have HLL:Hid (x.L.length≤5∧∀ t ∈ x.L,t.l.length≤100):=hid HXL.out.lit
     have HPT:=hid (walPut_any (V:=⟨D,n,false,true⟩) HS2.out.e HS2.out.we rfl HS2.out.wl.g HS2.out.bel.size (by have:=HS2.out.n0;have:=HK30.out;simp only;omega) (HEL.out _ HS2.out.bel) (fun t ht=>(HKO.out.2.2 t ht).below HS2.out.bel) ⟨by have:=HLL.out.1;omega,fun t ht=>by have:=HLL.out.2 t ht;omega⟩)
     obtain ⟨E,HE⟩:∃ q:Int,Hid (putE ⟨D,n,false,true⟩ (bls x.L)=q):=⟨_,hid rfl⟩
     rw [HE.out] at HPT
     go_wp2_with fail
     refine HPT.out.mono ?_
     rintro e w7 ⟨rfl,va7,vt7,e7,w7e,t7,n7,_⟩
     obtain ⟨D',hE',hG',hR',hs',hl',hdd',hde',hmk',hmt',⟨n',hn',hw'⟩,hkv',hbel',hcase⟩:=HS2.out.put HLL.out.1 HLL.out.2 HK30.out e7 w7e t7 n7
     have HX3:=hid (t7.other HS2.out.e HX2.out (by decide) (by decide) (blk_ne HX2.out HS2.out.we (by decide)))
     rw [HE.out] at hs' hdd' hde' hmk' hmt' hw' hcase
     obtain ⟨f0,f1,f2,f4⟩:=HCELLS.out _ HX3.out
     clear e7 w7e t7 n7 d0 d1 d2 d4 HPT
     by_cases e0:E=0
     ·subst e0
      rw [if_pos rfl] at hs' hmk'
      have hnd:¬ D'.dead=true:=fun hd=>by have:=(hdd' hd).1;cases this
      have HKV:=hid hkv'
      have HM:Hid (∀ W kv2,Below w.heap.size w W→DkE W b w.heap.size D' va7 vt7→WlE W c b (n':Int) false→KvE w W va7.ownBlock (K ++ x.L) kv2→KpM w W b k D' c n' false (K ++ x.L) [] va7 vt7 kv2 (.slice (some ⟨g5,0,none⟩) 0 0)):=hid (fun W kv2 hb he hw hk2=>
       ⟨he,hG',hR',hs',fun hd=>⟨hl' hd,rfl⟩,fun hd=>absurd hd hnd,hmk',(fun r hr=>by cases hr),hw,hn',HS2.out.c0,hk2,by have:=HS2.out.k0;have:=HLL.out.1;rw [List.length_append];simp only [List.length_nil];omega,fun t ht=>by
        rcases List.mem_append.1 ht with ht | ht
        ·exact HS2.out.k1 t ht
        ·exact HLL.out.2 t ht,fun W _=>els_none W,(fun t ht=>by cases ht),(fun t ht=>by cases ht),hb,HS2.out.hb⟩)
      have HW':Hid (DkE w7 b w.heap.size D' va7 vt7∧WlE w7 c b (n':Int) false∧Below w.heap.size w w7):=hid ⟨hE',hw',hbel'⟩
      have HEX:=hid (HEL.out _ hbel')
      have HZ:Hid (K.length + x.L.length≤1000000):=hid (by have:=HS2.out.k0;have:=HLL.out.1;have:=HK30.out;omega)
      obtain ⟨KN,HKN⟩:∃ q:Nat,Hid (K.length=q):=⟨_,hid rfl⟩
      rw [HKN.out] at HKV ⊢
      clear hE' hG' hR' hs' hl' hdd' hde' hmk' hmt' hn' hw' hkv' hbel' hcase hnd
      go_wp2_with (at_builtin;go_loud (refine (eltBt (fun _=>True)).wpList_append (l:=K) (m:=x.L) (B:=w.heap.size) rfl (.tmp 63) (.tmp 65) rfl rfl rfl (fun _ _=>trivial) HKV.out.o HEX.out HZ.out HW'.out.2.2.size ?_;intro v8 w8 ho8 hg8 _;have HO8:=hid ho8;have HG8:=hid hg8;clear ho8 hg8))
      have HBL8:=hid (HW'.out.2.2.grown HG8.out HW'.out.2.2.size (fun j e=>(OwnB.blk HKV.out.o e).1))
      have HKV8:Hid (KvE w w8 va7.ownBlock (K ++ x.L) v8):=hid ⟨HO8.out,fun t ht=>by
       rcases List.mem_append.1 ht with ht | ht
       ·exact (HKV.out.t t ht).grownB HKV.out.o HG8.out rfl
       ·exact TxAt.of (HKO.out.2.2 t ht) HBL8.out⟩
      have HMF:=hid (HM.out w8 v8 HBL8.out (HW'.out.1.grownB HKV.out.o HG8.out) (blk_grownB HW'.out.2.1 (by decide) HKV.out.o HG8.out) HKV8.out)
      have HXF:=hid (blk_grownB HX3.out (by decide) HKV.out.o HG8.out)
      go_meet
      case rel=>exact hid ⟨_,_,_,_,_,_,_,HMF.out,HXF.out⟩
     ·have e0b:(E == 0)=false:=by simpa using e0
      rw [if_neg e0] at hs' hmk'
      by_cases e6:E=6
      ·subst e6
       have HMF:Hid (KpM w w7 b k D' c n' true K x.L va7 vt7 (.slice KA K.length KC) (.slice x.lA XN x.lc)):=hid
        ⟨hE',hG',hR',hs',fun hd=>(by have:=hde' rfl;rw [hd] at this;cases this),fun hd=>(hdd' hd).2,hmk',hmt' rfl,hw',hn',HS2.out.c0,hkv',by have:=HS2.out.k0;have:=HLL.out.1;omega,HS2.out.k1,fun W hb=>HEL.out W hb,HKO.out.2.2,HLL.out.2,hbel',HS2.out.hb⟩
       clear hE' hG' hR' hs' hl' hdd' hde' hmk' hmt' hn' hw' hkv' hbel' hcase
       go_wp2_with fail
       go_meet
       case rel=>exact hid ⟨_,_,_,_,_,_,_,HMF.out,HX3.out⟩
      ·have e6b:(E == 6)=false:=by simpa using e6
       rw [decide_eq_false e6] at hw'
       have HMF:Hid (KpM w w7 b k D' c n' false K [] va7 vt7 (.slice KA K.length KC) (.slice (some ⟨g5,0,none⟩) 0 0)):=hid
        ⟨hE',hG',hR',hs',fun hd=>⟨hl' hd,rfl⟩,fun hd=>absurd (hdd' hd).1 e6,hmk',(fun r hr=>by cases hr),hw',hn',HS2.out.c0,hkv',by have:=HS2.out.k0;simp only [List.length_nil];omega,HS2.out.k1,fun W _=>els_none W,(fun t ht=>by cases ht),(fun t ht=>by cases ht),hbel',HS2.out.hb⟩
       clear hE' hG' hR' hs' hl' hdd' hde' hmk' hmt' hn' hw' hkv' hbel' hcase e0 e6
       go_wp2_with fail
       go_meet
       case rel=>exact hid ⟨_,_,_,_,_,_,_,HMF.out,HX3.out⟩
    ·have p0b:(x.act == 0)=false:=by simpa using p0
     have HMF:=hid (HS2.out.mid (tv:=.slice (some ⟨g5,0,none⟩) 0 0) (fun W _=>els_none W))
     clear p0
     go_wp2_with fail
     go_meet
     case rel=>exact hid ⟨_,_,_,_,_,_,_,HMF.out,HX2.out⟩
   case rest=>
    clear d0 d1 d2 d4 HX2 HX1
    obtain ⟨D2,n2,br2,K2,Tr,va2,vt2,hM,hX⟩:=hcut.out
    have HX4:=hid hX
    obtain ⟨KA,KC,rfl⟩:=hM.kv.o.shape
    obtain ⟨TA,TC,rfl⟩:=(hM.t0 wc hM.bel).shape
    obtain ⟨KN,HKN⟩:∃ q:Nat,Hid (K2.length=q):=⟨_,hid rfl⟩
    obtain ⟨TN,HTN⟩:∃ q:Nat,Hid (Tr.length=q):=⟨_,hid rfl⟩
    have HM4:=hid hM
    rw [HKN.out,HTN.out] at HM4 ⊢
    clear HKN HTN
    obtain ⟨d0,d1,d2,d4⟩:=HCELLS.out _ HX4.out
    have HDD:=hid (dkDead_any hM.e)
    clear hX hM hcut
    obtain ⟨wq,rfl⟩:∃ q:World,q=wc:=⟨wc,rfl⟩
    obtain ⟨q,HQ⟩:∃ q:Bool,Hid ((decide (x.a.act=3) && !D2.dead)=q):=⟨_,hid rfl⟩
    go_upto_region 21 with (fail)
    go_cut [79] (fun s79 wy=>s79=.bool q∧wy=wq)
    case first=>
     by_cases p3:x.a.act=3
     ·have HQ2:Hid ((!D2.dead)=q):=hid (by have:=HQ.out;rw [decide_eq_true p3,Bool.true_and] at this;exact this)
      go_wp2_with fail
      refine HDD.out.mono ?_
      rintro e w9 ⟨rfl,rfl⟩
      cases hd:D2.dead with
      | true=>
       have HQ3:Hid (q=false):=hid (by rw [← HQ2.out,hd];rfl)
       go_wp2_with fail
       go_meet
       case rel=>exact ⟨by rw [HQ3.out],rfl⟩
      | false=>
       have HQ3:Hid (q=true):=hid (by rw [← HQ2.out,hd];rfl)
       go_wp2_with fail
       go_meet
       case rel=>exact ⟨by rw [HQ3.out],rfl⟩
     ·have p3b:(x.a.act == 3)=false:=by simpa using p3
      have HQ3:Hid (q=false):=hid (by have:=HQ.out;rw [decide_eq_false p3,Bool.false_and] at this;exact this.symm)
      go_wp2_with fail
      go_meet
      case rel=>exact ⟨by rw [HQ3.out],rfl⟩
    case rest=>
     obtain ⟨rfl,rfl⟩:=hcut
     obtain ⟨wq,rfl⟩:∃ q:World,q=wc:=⟨wc,rfl⟩
     clear HQ HDD
     go_upto_if 79 with (fail)
     go_cut [] (fun wy=>Hid (KpMid w wy b k g (awc x) c (.slice KA KN KC) (.slice TA TN TC)))
     case first=>
      cases q with
      | true=>
       have HAR:=hid (dkArm_any HM4.out.e x.a.n)
       go_wp2_with fail
       refine HAR.out.mono ?_
       rintro e w9 ⟨rfl,e9,t9⟩
       have HMF:=hid (HM4.out.arm HXN.out e9 t9)
       have HXF:=hid (HM4.out.e.other HX4.out (by decide) (by decide) t9)
       clear e9 t9 d0 d1 d2 d4
       go_wp2_with fail
       go_meet
       case rel=>exact hid ⟨_,_,_,_,_,_,_,HMF.out,HXF.out⟩
      | false=>
       go_wp2_with fail
       go_meet
       case rel=>exact hid ⟨_,_,_,_,_,_,_,HM4.out,HX4.out⟩
     case rest=>
      clear d0 d1 d2 d4 HM4 HX4
      obtain ⟨D3,n3,br3,K3,Tr,va3,vt3,hM,hX⟩:=hcut.out
      have HM:=hid hM
      have HX:=hid hX
      obtain ⟨d0,d1,d2,d4⟩:=HCELLS.out _ hX
      have HKN:=hid ((hM.kv.o.els.at_).1.symm)
      have HTN:=hid (((hM.t0 wc hM.bel).at_).1.symm)
      have HDD:=hid (dkDead_any hM.e)
      clear hcut hX hM
      obtain ⟨wo,rfl⟩:∃ q:World,q=wc:=⟨wc,rfl⟩
      cases hd:D3.dead with
      | false=>
       rw [hd] at HDD
       have HGO:=hid (HM.out.go hd)
       clear hd
       go_wp2_with fail
       refine HDD.out.mono ?_
       rintro e w9 ⟨rfl,rfl⟩
       go_wp2_with fail
       go_roundw
       case rel=>first | exact ⟨k + 1,HLT.out,by rw [HWI.out],c,rfl,hid ⟨_,_,_,_,_,HGO.out⟩⟩ | ((repeat apply Exists.intro);exact ⟨⟨HLT.out,by rw [HWI.out],c,rfl,hid ⟨_,_,_,_,_,HGO.out⟩⟩,rfl⟩)
       case measure=>exact aw_meas HLT.out HWI.out
      | true=>
       rw [hd] at HDD
       have HCR:=hid (dkCrash_any HM.out.e HM.out.g HM.out.bel.size x.a.n)
       obtain ⟨j,hj,q1,q2,q3,q4⟩:=kp_again HM.out hd x.a.n
       have HJ:=hid hj
       have HQ1:=hid q1
       have HQ2:=hid q2
       have HQ3:=hid q3
       have HQ4:=hid q4
       have HSL:Hid ((crashD D3 x.a.n).s.length + (crashD D3 x.a.n).m.length≤900000):=hid (by
        have h1:=flatR_le K3 (fun t ht=>by have:=HM.out.k1 t ht;omega)
        have h2:=flatR_le Tr (fun t ht=>by have:=HM.out.t2 t ht;omega)
        have h3:=HM.out.k0
        have h4:=HK30.out
        have h5:(crashD D3 x.a.n).s.length≤(flatR (bls K3)).length + (flatR (bls Tr)).length:=by
         show (D3.s ++ (D3.m ++ D3.h).take x.a.n.toNat).length≤_
         rw [HM.out.s,HM.out.died hd,List.length_append,List.length_take]
         omega
        have h6:(crashD D3 x.a.n).m.length=0:=rfl
        omega)
       have HGC:=hid (crashD_good HM.out.g x.a.n)
       clear hd hj q1 q2 q3 q4
       go_wp2_with fail
       refine HDD.out.mono ?_
       rintro e w9 ⟨rfl,rfl⟩
       go_wp2_with fail
       refine HCR.out.mono ?_
       rintro e w9 ⟨rfl,va4,vt4,e4,t4,n4,_⟩
       have HK4:=hid (HM.out.kv.turn HM.out.e HM.out.hb HM.out.c0 HM.out.we (t4.w c) n4)
       have HB4:=hid (t4.below HM.out.bel HM.out.hb (fun k e=>(HM.out.e.o.base e).1) HM.out.bel.size)
       have HW4:=hid (HM.out.we.other HM.out.e t4)
       have HOP:=hid (walOpen_any e4 HGC.out HSL.out)
       have HE4:=hid e4
       clear e4 t4 n4 HCR d0 d1 d2 d4
       go_wp2_with fail
       refine HOP.out.mono ?_
       rintro e w10 ⟨p,x5,rfl,⟨va5,vt5,e5,t5,n5,_,hy⟩,_⟩
       rw [HQ1.out] at hy ⊢
       obtain ⟨c5,L5,rfl,hc5,hw5,ho5,ht5,hbl5,_⟩:=hy rfl
       rw [HQ2.out] at hbl5
       have HK5:=hid (HK4.out.turn HE4.out HM.out.hb HM.out.c0 HW4.out (t5.w c) n5)
       have HB5:=hid (t5.below HB4.out HM.out.hb (fun k e=>(HE4.out.o.base e).1) HB4.out.size)
       have hl5:L5.length=K3.length + j:=by
        have:=congrArg List.length hbl5
        rw [bls_length,List.length_append,bls_length,bls_length,List.length_take] at this
        have:=HJ.out
        omega
       have HLB:Hid (∀ t ∈ L5,t.l.length≤100):=hid (by
        refine len_of_bls (M:=K3 ++ Tr.take j) (by rw [bls_append];exact hbl5) (fun t ht=>?_)
        rcases List.mem_append.1 ht with ht | ht
        ·exact HM.out.k1 t ht
        ·exact HM.out.t2 t (List.mem_of_mem_take ht))
       have HBL:=hid hbl5
       have HEN:Hid (KpE w w10 b (k + 1) (openD (crashD D3 x.a.n)) c5 L5.length L5 va5 vt5 x5):=hid
        ⟨e5,by rw [hbl5];exact HQ3.out,HQ4.out,hw5,by have:=HM.out.k0;have:=HJ.out;omega,Nat.le_trans HB4.out.size hc5,⟨OwnE.more ho5 HB4.out.size,fun t ht=>TxAt.own (ht5 t ht).1 (ht5 t ht).2⟩,by have:=HM.out.k0;have:=HJ.out;omega,HLB.out,HB5.out,HM.out.hb⟩
       obtain ⟨XA,XC,rfl⟩:=ho5.shape
       obtain ⟨M5,HM5⟩:∃ q:Nat,Hid (L5.length=q):=⟨_,hid rfl⟩
       rw [HM5.out] at HEN hw5 ⊢
       have HMA:=hid (walMany_any hw5)
       have HMJ:Hid (M5=KN + j):=hid (by rw [← HM5.out,← HKN.out];exact hl5)
       have HJT:Hid (j≤TN):=hid (by rw [← HTN.out];exact HJ.out)
       have HKB:Hid (KN + TN≤155):=hid (by have:=HM.out.k0;have:=HK30.out;rw [HKN.out,HTN.out] at *;omega)
       clear e5 t5 n5 hy hw5 ho5 ht5 hbl5 hc5 hl5 HOP
       have g1:¬ (M5:Int) < (KN:Int):=by have:=HMJ.out;omega
       have g2:¬ (KN:Int) + (TN:Int) < (M5:Int):=by have:=HMJ.out;have:=HJT.out;omega
       have g3:wrap64 ((KN:Int) + (TN:Int))=(KN:Int) + (TN:Int):=by have:=HKB.out;unfold wrap64;omega
       go_wp2_with fail
       refine HMA.out.mono ?_
       rintro e w11 ⟨rfl,rfl⟩
       go_upto_region 28 with (fail)
       clear g1 g2 g3
       have hsub:IntKind.i64.wrap ((M5:Int) - (KN:Int))=(j:Int):=by have:=HMJ.out;have:=HKB.out;have:=HJT.out;rw [IntKind.wrap_i64];omega
       have hsub2:wrap64 ((M5:Int) - (KN:Int))=(j:Int):=by have:=HMJ.out;have:=HKB.out;have:=HJT.out;unfold wrap64;omega
       have HTE:Hid (∀ W,Below w10.heap.size w10 W→Els btl 1 W (.slice TA TN TC) Tr):=hid (fun W hb=>HM.out.t0 W (HB5.out.trans (hb.mono HB5.out.size)))
       obtain ⟨T2A,T2C,hcut,hcute⟩:=cut_bth TA TC TN j HJT.out (by have:=((HTE.out w10 (Below.refl _ _)).at_).2.1;rw [HTN.out] at this;exact this)
       have HCE:Hid (∀ W,Below w10.heap.size w10 W→Els btl 1 W (.slice T2A j T2C) (Tr.take j)):=hid (fun W hb=>hcute W Tr HTN.out (HTE.out W hb))
       have HBD:Hid (Below w10.heap.size w10 w10.drew):=hid (Below.refl _ _).drew
       have HKE:Hid (∀ W,Below w10.heap.size w10 W→KvE w W va5.ownBlock K3 (.slice KA KN KC)):=hid (fun W hb=>HK5.out.below hb)
       clear hcute
       refine wp_region_held_drew (S:=fun _=>True) (by kernel_rfl) trivial (fun hHeld=>?_)
       refine' tkq 0 rfl ?_;try simp only [lay]
       refine' tkq 2 rfl ?_;try simp only [lay]
       refine' tkq 4 rfl ?_;try simp only [lay]
       refine' tkq 5 rfl ?_;try simp only [lay]
       refine' tkq 6 rfl ?_;try simp only [lay]
       refine' tkq 7 rfl ?_;try simp only [lay]
       refine' tkq 8 rfl ?_;try simp only [lay]
       refine' tkq 9 rfl ?_;try simp only [lay]
       refine' tkq 10 rfl ?_;try simp only [lay]
       refine call_on (i:=1) rfl (by kernel_rfl) (by rfl) (fun K hK=>?_)
       go_simp
       have HB11:Hid (Below w10.heap.size w10 (w10.drew.alloc (.cells #[] 33))):=hid (HBD.out.alloc HBD.out.size _)
       refine hK.out _ _ (trivial) (fun hHeld=>?_)
       clear hK K
       try simp only [lay]
       refine call_on (i:=3) rfl (by kernel_rfl) (by rfl) (fun K hK=>?_)
       refine (eltBt (fun _=>True)).wp_append (l:=[]) (m:=K3) (B:=w10.heap.size) (.tmp 130) (.tmp 131) rfl rfl rfl (fun _ _=>trivial) (ownB_new w10.drew) (HKE.out _ HB11.out).o.els (by have:=HKB.out;have:=HKN.out;simp only [List.length_nil];omega) HB11.out.size ?_
       intro y3 w12 ho3 hg3 _
       simp only [List.nil_append] at ho3
       have HB12:=hid (HB11.out.grown hg3 HB11.out.size (fun j e=>(OwnB.blk (ownB_new w10.drew) e).1))
       have HO3:=hid ho3
       clear ho3 hg3
       refine hK.out _ _ (trivial) (fun hHeld=>?_)
       clear hK K
       try simp only [lay]
       refine call_on (i:=11) rfl (by kernel_rfl) (by rfl) (fun K hK=>?_)
       refine (eltBt (fun _=>True)).wp_append (l:=K3) (m:=Tr.take j) (B:=w10.heap.size) (.tmp 132) (.tmp 139) rfl rfl rfl (fun _ _=>trivial) HO3.out (HCE.out _ HB12.out) (by have:=HKB.out;have:=HKN.out;have:=HTN.out;rw [List.length_take];omega) HB12.out.size ?_
       intro y4 w13 ho4 hg4 _
       have HB13:=hid (HB12.out.grown hg4 HB12.out.size (fun j e=>(OwnB.blk HO3.out e).1))
       have HO4:=hid ho4
       clear ho4 hg4
       refine hK.out _ _ (trivial) (fun hHeld=>?_)
       clear hK K
       try simp only [lay]
       refine call_on (i:=12) rfl (by kernel_rfl) (by rfl) (fun K hK=>?_)
       go_simp
       have HTB:Bts w13 (K3 ++ Tr.take j):=fun t ht=>(by
        rcases List.mem_append.1 ht with ht | ht
        ·exact ((HKE.out _ HB13.out).t t ht).1
        ·exact (HM.out.t1 t (List.mem_of_mem_take ht)).below (HB5.out.trans (HB13.out.mono HB5.out.size)))
       have HTX:=texts19_any (.slice XA M5 XC) y4 L5 (K3 ++ Tr.take j) w13 (HEN.out.below HB13.out).kv.o.els (OwnB.els HO4.out) (fun t ht=>((HEN.out.below HB13.out).kv.t t ht).1) HTB (by have:=HM5.out;have:=HMJ.out;have:=HKB.out;have:=HJT.out;omega)
       clear HTB
       rw [decide_eq_true (show bls L5=bls (K3 ++ Tr.take j) from by rw [bls_append];exact HBL.out)] at HTX
       refine HTX.mono ?_
       clear HTX
       rintro e w14 ⟨rfl,hb14⟩
       have HBF:=hid (HB13.out.trans (hb14.mono HB13.out.size))
       clear hb14
       refine hK.out _ _ (trivial) (fun hHeld=>?_)
       clear hK K
       try simp only [lay]
       refine' tkq 13 rfl ?_;try simp only [lay]
       refine wpAnyH_done (by kernel_rfl) ?_ _
       clear hHeld
       go_wp2_with fail
       go_roundw
       case rel=>first | exact ⟨k + 1,HLT.out,by rw [HWI.out],c5,rfl,hid ⟨_,_,_,_,_,(HEN.out.below HBF.out)⟩⟩ | ((repeat apply Exists.intro);exact ⟨⟨HLT.out,by rw [HWI.out],c5,rfl,hid ⟨_,_,_,_,_,(HEN.out.below HBF.out)⟩⟩,rfl⟩)
       case measure=>exact aw_meas HLT.out HWI.out
  ·have hI:¬ (k:Int) < (N:Int):=by omega
   obtain ⟨D,n,K,va,vt,hS⟩:=HREL.out
   have HBL:=hid hS.bel
   clear HREL hS hlt hk
   go_wp2_with fail
   refine (HFIN.out wr HBL.out).mono ?_
   rintro e w2 ⟨rfl,hb2⟩
   go_wp2_with fail
   go_ret
   exact ⟨rfl,hb2⟩
end Go.Proofs.Ytfpgglclpkcdhaa
