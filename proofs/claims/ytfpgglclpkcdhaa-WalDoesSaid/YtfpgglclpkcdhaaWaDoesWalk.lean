/-
  WalDoes: the law's walk. Printed with gends.py.
-/
import Derived.Test.YtfpgglclpkcdhaaWaDsWords
namespace Go.Proofs.Ytfpgglclpkcdhaa
set_option maxRecDepth 20000
open Go.RowKit
attribute [local go_sem ↓] exec_load_rd exec_alloc_rd exec_store_rd exec_load_ak exec_load_aw exec_alloc_aw exec_store_aw exec_load_rw exec_alloc_rw exec_store_rw
theorem putW_many_le (V:WaM) (L:List BtM):(putW V (bls L)).many≤V.many + L.length:=by
 have:=putW_many V (bls L)
 rw [bls_length] at this
 exact this
theorem DsE.put {w W:World} {b g i:Nat} {p:Value} {V:WaM} {X Y:Array Value} {va vt v:Value} {L:List BtM} {V0:World} (h:DsE w V0 b g i p V X va vt) (hE:DkE W b w.heap.size V.d va vt) (hw:WlM w W b p V) (hB:Below w.heap.size w W) (hr:W.heap[g]?=some (.cells Y 37 (0,0))) (hY:RwC W Y (putW V (bls L)) va.ownBlock) (hm:V.many≤1000000000) (hv:Els btl 1 W v L) (hb:Bts W L) (hl:L.length≤5) (hl1:∀ t ∈ L,t.l.length≤100):
  Calls Try.prog 13 #[p,v] W fun e w'=>e=.returned (.int .i64 (putE V (bls L)))∧∃ va' vt',DsE w w' b g (i + 1) p (putW V (bls L)) Y va' vt':=by
 have ht:=tot_put V (bls L)
 have hf:=flatR_le L (fun t ht=>by have:=hl1 t ht;omega)
 have hz:=h.z
 have hm0:=h.m0
 have hmm:=putW_many_le V L
 rcases hw with ⟨h1,c,rfl,hc,hwe⟩ | ⟨h1,rfl,h2⟩
 ·refine (walPut_any hE hwe h1 h.gd hB.size hm hv hb ⟨by omega,fun t ht=>by have:=hl1 t ht;omega⟩).mono ?_
  rintro e w' ⟨rfl,va',vt',e',we',t',n',_⟩
  exact ⟨rfl,va',vt',⟨by rw [putW_d];exact e',by rw [putW_d];exact putD_good h.gd _,.inl ⟨putW_is h1 _,c,rfl,hc,we'⟩,t'.other hE hr (by decide) (by decide) (blk_ne hr hwe (by decide)),hY.turn hE hwe t' n',by rw [putW_d];omega,by omega,t'.below hB h.hb hc (fun k e=>(hE.o.base e).1) hB.size,h.hb,h.hg⟩⟩
 ·obtain ⟨p1,p2⟩:=putW_no h1 (bls L)
  refine (noPut (w:=W) (v:=.pointer none) (.inl rfl) v).mono ?_
  rintro e w' ⟨rfl,rfl⟩
  rw [p1] at hY ⊢
  rw [p2]
  exact ⟨rfl,va,vt,⟨hE,h.gd,.inr ⟨h1,rfl,h2⟩,hr,hY,by omega,by omega,hB,h.hb,h.hg⟩⟩
theorem DsE.open {w W W0:World} {b g i:Nat} {p:Value} {V:WaM} {X Y:Array Value} {va vt:Value} {m:Value} {L:List BtM} (h:DsE w W0 b g i p V X va vt) (hb0:Below W0.heap.size W0 W) (hY:RwC W Y (openW V.d) va.ownBlock) (ho:OwnB W0.heap.size W m L) (ht:∀ t ∈ L,Own W0.heap.size W t.v t.l) (hi:i≤30):
  Calls Try.prog 9 #[.pointer (some ⟨b,0,none⟩)] W fun e w'=>∃ z k,e=.returned (.tuple #[z,k,.int .i64 (openE V.d)])∧(∃ va' vt',(∀ wx:World,w'.heap.size≤wx.heap.size→(∀ (j:Nat) (C:Array Value) (T:TypeId),w'.heap[j]?=some (.cells C T (0,0))→T≠37→wx.heap[j]?=w'.heap[j]?)→Below w.heap.size w wx→wx.heap[g]?=some (.cells Y 37 (0,0))→DsE w wx b g (i + 1) z (openW V.d) Y va' vt'))∧w'.heap[g]?=some (.cells X 37 (0,0))∧Below w.heap.size w w'∧(∀ (j:Nat) (C:Array Value) (T:TypeId),W.heap[j]?=some (.cells C T (0,0))→67≠T→5≠T→w'.heap[j]?=some (.cells C T (0,0)))∧Els btl 1 w' m L∧Bts w' L∧(∃ K,Els btl 1 w' k K∧Bts w' K∧bls K=openR V.d)∧(openE V.d=0→∃ c,z=.pointer (some ⟨c,0,none⟩))∧(openE V.d≠0→z=.pointer none):=by
 have hE0:=h.e
 have hE:=h.e.below hb0
 have hz:=h.z
 have hB:=h.bel.trans (hb0.mono h.bel.size)
 have hr:=(hb0.block _ (lt_of_block h.r)).trans h.r
 have hto:=tot_open V.d
 have hzz:V.d.s.length + V.d.m.length≤78000:=by
  unfold totD at hz
  omega
 refine (walOpen_any hE h.gd (by omega)).mono ?_
 rintro e w' ⟨z,k,rfl,⟨va',vt',e',t',n',_,hy⟩,hno⟩
 have hfr:∀ (j:Nat) (C:Array Value) (T:TypeId),W.heap[j]?=some (.cells C T (0,0))→67≠T→5≠T→w'.heap[j]?=some (.cells C T (0,0)):=fun j C T hx n1 n2=>hE.other hx n1 n2 t'
 have hm1:Els btl 1 w' m L:=(ownB_stay ho hE t').els
 have hm2:Bts w' L:=fun t h2=>(own_stay (ht t h2) h.e hE t').byt
 have hd:(openW V.d).d=openD V.d:=by
  unfold openW
  split <;> rfl
 have hb':=t'.below hB h.hb (fun k e=>(hE.o.base e).1) hB.size
 have hYr:RwC w' Y (openW V.d) va'.ownBlock:=hY.turnD hE t' n'
 have hrx:=hfr _ _ _ hr (by decide) (by decide)
 by_cases h0:openE V.d=0
 ·obtain ⟨c,K,rfl,hc,hwe,hko,hkt,hkb,hkl⟩:=hy h0
  refine ⟨_,_,rfl,⟨va',vt',fun wx hs hk hbx hgx=>?_⟩,hrx,hb',hfr,hm1,hm2,⟨K,hko.els,fun t h2=>(hkt t h2).1.byt,hkb⟩,fun _=>⟨c,rfl⟩,fun h=>absurd h0 h⟩
  have hmy:(openW V.d).many=K.length:=recs_count hkb h0
  have hms:(openW V.d).is_=true∧(openW V.d).broken=false:=by
   unfold openW
   rw [if_pos h0]
   exact ⟨rfl,rfl⟩
  refine ⟨?_,by rw [hd];exact openD_good h.gd,.inl ⟨hms.1,c,rfl,Nat.le_trans hB.size hc,?_⟩,hgx,?_,by rw [hd];omega,by rw [hmy];unfold totD at hz;omega,hbx,h.hb,h.hg⟩
  ·rw [hd]
   exact e'.kept hs (fun j C T hj hT=>hk j C T hj (by rcases hT with rfl | rfl <;> decide))
  ·rw [hmy,hms.2]
   exact (hk _ _ _ hwe (by decide)).trans hwe
  ·exact hYr.away hs (fun j C hj=>hk j C _ hj (by decide))
 ·obtain ⟨rfl,rfl⟩:=hno h0
  have hr0:openR V.d=[]:=by unfold openR;rw [if_neg h0]
  refine ⟨_,_,rfl,⟨va',vt',fun wx hs hk hbx hgx=>?_⟩,hrx,hb',hfr,hm1,hm2,⟨[],Els.nil _,(fun t h=>by cases h),hr0.symm⟩,fun h=>absurd h h0,fun _=>rfl⟩
  have hms:(openW V.d).is_=false∧(openW V.d).many=0:=by
   unfold openW
   rw [if_neg h0]
   exact ⟨rfl,rfl⟩
  refine ⟨?_,by rw [hd];exact openD_good h.gd,.inr ⟨hms.1,rfl,hms.2⟩,hgx,?_,by rw [hd];omega,by rw [hms.2];omega,hbx,h.hb,h.hg⟩
  ·rw [hd]
   exact e'.kept hs (fun j C T hj hT=>hk j C T hj (by rcases hT with rfl | rfl <;> decide))
  ·exact hYr.away hs (fun j C hj=>hk j C _ hj (by decide))
set_option maxHeartbeats 6400000 in
theorem lawWalDoes_any (room:Int) (v:Value) (L:List ActW) (w:World) (hv:Els awl 6 w v L) (ho:∀ x ∈ L,AwOk w x):
  Calls Try.prog 3 #[.int .i64 room,v] w fun e w'=>e=.returned (.bool true)∧Below w.heap.size w w':=by
 have HFIN:Hid (∀ W,Below w.heap.size w W→Calls Try.prog 7 #[] W fun e w'=>e=.returned (.bool true)∧Below w.heap.size w w'):=hid (fun W hb=>(walAwake_any W).mono fun _ _ ⟨h1,h2⟩=>⟨h1,hb.trans (h2.mono hb.size)⟩)
 have HLT:=hid (light19_any v L w hv ho)
 obtain ⟨A,d,rfl⟩:=hv.shape
 have hr:=hv.at_.2.2.2
 obtain ⟨N,HN⟩:∃ q:Nat,Hid (L.length=q):=⟨_,hid rfl⟩
 have HCEL:Hid (∀ k (h:k < L.length),∃ b off,A=some ⟨b,off,none⟩∧∀ W,Below w.heap.size w W→loadAw (.pointer (some ⟨b,off + k * 6,none⟩)) W=.ok (.value (.agg (awc L[k]))) W):=hid (fun k hk=>by
  obtain ⟨b,off,e,hb,hc⟩:=hr (by omega)
  exact ⟨b,off,e,fun W hW=>loadAw_mid (range_kept (hc k hk) (hW.block b hb))⟩)
 have HOK:Hid (∀ k (h:k < L.length),AwOk w L[k]):=hid (fun k hk=>ho _ (List.getElem_mem hk))
 rw [HN.out] at HLT ⊢
 clear hv ho hr
 go_enter Try.func3,Try.ntmps3
 go_wp2_with fail
 refine HLT.out.mono ?_
 rintro e w1 ⟨q,rfl,hq,hb1⟩
 have HB1:=hid hb1
 clear hb1
 cases q with
 | false=>
  clear hq
  go_wp2_with fail
  refine (HFIN.out w1 HB1.out).mono ?_
  rintro e w2 ⟨rfl,hb2⟩
  go_wp2_with fail
  go_ret
  exact ⟨rfl,hb2⟩
 | true=>
 have HLA:=hid (hq rfl)
 clear hq
 by_cases p0:room < 0
 ·go_wp2_with fail
  refine (HFIN.out w1 HB1.out).mono ?_
  rintro e w2 ⟨rfl,hb2⟩
  go_wp2_with fail
  go_ret
  exact ⟨rfl,hb2⟩
 by_cases p1:1048576 < room
 ·go_wp2_with fail
  refine (HFIN.out w1 HB1.out).mono ?_
  rintro e w2 ⟨rfl,hb2⟩
  go_wp2_with fail
  go_ret
  exact ⟨rfl,hb2⟩
 have HGN:=hid (newDk_good (room:=room) (by omega) (by omega))
 have HNW:=hid (dkNew_yes room w1 (by omega) (by omega))
 go_wp2_with fail
 refine HNW.out.mono ?_
 rintro e w2 ⟨rfl,h2,hb2⟩
 have HB2:=hid (HB1.out.trans (hb2.mono HB1.out.size))
 have HO2:=hid (walOpen_any h2 HGN.out (by show 0 + 0≤900000;omega))
 have HE2:=hid h2
 obtain ⟨o1,o2,o3⟩:=open_new room
 clear h2 hb2 HNW p0 p1
 go_wp2_with fail
 refine HO2.out.mono ?_
 rintro e w3 ⟨p,x,rfl,⟨va3,vt3,e3,t3,n3,_,hy⟩,_⟩
 rw [o1] at hy
 obtain ⟨c,LL,rfl,hc,hw3,ho3,_,hbl,_⟩:=hy rfl
 rw [o2] at hbl
 rw [o3] at e3
 obtain rfl:LL=[]:=by
  have:=congrArg List.length hbl
  rw [bls_length] at this
  exact List.eq_nil_of_length_eq_zero this
 have HB3:=hid (t3.below HB2.out HB1.out.size (fun k e=>(by have:=(HE2.out.o.base e).1;exact Nat.le_trans HB1.out.size this)) HB2.out.size)
 obtain ⟨XA,XC,rfl⟩:=ho3.shape
 obtain ⟨b,HBB⟩:∃ q:Nat,Hid (w1.heap.size=q):=⟨_,hid rfl⟩
 have HBW:Hid (w.heap.size≤b):=hid (by rw [← HBB.out];exact HB1.out.size)
 have HE3:Hid (DkE w3 b w.heap.size (newDk room) va3 vt3):=hid (by have:DkE w3 w1.heap.size w1.heap.size (newDk room) va3 vt3:=e3;rw [HBB.out] at this;exact ⟨this.p,this.o.more HBW.out,this.t,this.f⟩)
 have HW3:Hid (WlE w3 c b ((0:Nat):Int) false):=hid (by have:WlE w3 c w1.heap.size ((0:Nat):Int) false:=hw3;rw [HBB.out] at this;exact this)
 have HC3:=hid (Nat.le_trans HB2.out.size hc)
 rw [o1,HBB.out]
 clear e3 t3 n3 hy hw3 ho3 hbl hc HO2 HE2 HB2
 have HRN:=hid (refNew18_any room w3)
 obtain ⟨C0,HC0⟩:∃ q:Array Value,Hid (rdc (newDk room) (.slice none 0 0) (.slice none 0 0) (.slice none 0 0)=q):=⟨_,hid rfl⟩
 have HRC0:Hid (∀ W a,RfC W C0 (newDk room) a):=hid (fun W a=>⟨_,_,_,HC0.out.symm,Byo.nil W a,Byo.nil W a,Byo.nil W a⟩)
 rw [HC0.out] at HRN
 go_wp2_with fail
 refine HRN.out.mono ?_
 rintro e w4 ⟨rfl,hb4⟩
 have HE4:=hid (HE3.out.below hb4)
 have HW4:=hid (HW3.out.below hb4)
 have HB4:=hid (HB3.out.trans (hb4.mono HB3.out.size))
 have HRO:=hid (refOpen19_any (newDk room) C0 va3.ownBlock w4 (HRC0.out _ _) HGN.out (fun k e=>(HE4.out.o.base e).2) (by show 0 + 0≤900000;omega))
 unfold OqPost at HRO
 rw [o1] at HRO
 clear hb4 HRN
 go_wp2_with fail
 refine HRO.out.mono ?_
 rintro e w5 ⟨X5,x5,rfl,hx5,hb5,L5,hl5,_,_⟩
 obtain ⟨YA,YC,rfl⟩:=hl5.shape
 have HV0:Hid (openW (newDk room)=⟨newDk room,0,false,true⟩):=hid (by
  have:=(openW_yes o1).1
  rw [o3] at this
  exact this)
 have HX5:Hid (RwC w5 X5 ⟨newDk room,0,false,true⟩ va3.ownBlock):=hid (by rw [← HV0.out];exact hx5)
 have HB5:=hid (HB4.out.trans (hb5.mono HB4.out.size))
 have HE5:=hid (HE4.out.below hb5)
 have HW5:=hid (HW4.out.below hb5)
 have hal:=allocRw_eq w5
 have hsv:=rw_var w5 (Z:=rwZ) rfl hx5.size hx5.one
 clear hx5 hb5 hl5 HRO o1 o2 o3
 go_upto_region 10 with (fail)
 clear hal hsv
 have HST:Hid (DsMid w (w5.alloc (.cells X5 37)) b w5.heap.size 0 (.pointer (some ⟨c,0,none⟩))):=hid (by
  have hba:Below w5.heap.size w5 (w5.alloc (.cells X5 37)):=(Below.refl _ _).alloc (Nat.le_refl _) _
  exact ⟨⟨newDk room,0,false,true⟩,X5,va3,vt3,⟨HE5.out.below hba,HGN.out,.inl ⟨rfl,c,rfl,HC3.out,HW5.out.below hba⟩,heap_alloc_new w5 _,HX5.out.below hba,Nat.le_refl _,Nat.le_refl _,HB5.out.trans (hba.mono HB5.out.size),HBW.out,HB5.out.size⟩⟩)
 generalize (w5.alloc (.cells X5 37))=w6 at *
 generalize w5.heap.size=g at *
 generalize Value.pointer (some ⟨c,0,none⟩)=p0 at *
 clear HE5 HW5 HX5 HB5 HE4 HW4 HB4 HE3 HW3 HB3 HC3 HGN HRC0 HV0 HC0
 go_wp2_with fail
 go_loopw [7,13] (fun s7 s13 wr=>∃ k:Nat,k≤N∧s13=.int .i64 (k:Int)∧∃ q:Value,q=s7∧Hid (DsMid w wr b g k q)) (fun _ s13 _=>N - (intOf s13).toNat)
 case atStart=>exact ⟨0,Nat.zero_le _,rfl,_,rfl,HST⟩
 case round=>
  obtain ⟨k,hk,rfl,p,hp,HREL⟩:=hrel
  subst hp
  by_cases hlt:k < N
  ·have hlt':(k:Int) < (N:Int):=by omega
   have hkL:k < L.length:=by rw [HN.out];exact hlt
   obtain ⟨b0,off,rfl,hld⟩:=HCEL.out k hkL
   have HKO:=hid (HOK.out k hkL)
   have HXL:=hid (HLA.out.2 k hkL)
   obtain ⟨V,X,va,vt,hS⟩:=HREL.out
   generalize L[k]=x at *
   have HSS:=hid hS
   have HK30:Hid (k≤30):=hid (by have:=HLA.out.1;rw [HN.out] at this;omega)
   have HLT:=hid hlt
   have HWI:Hid (wrap64 ((k:Int) + 1)=((k + 1:Nat):Int)):=hid (by have:=HK30.out;unfold wrap64;omega)
   have HXN:=hid (show x.a.n≤9223372036854775807 from by
    have h1:-9223372036854775808≤x.a.n∧x.a.n≤9223372036854775807:=by simpa [Lit.wf,IntKind.min,IntKind.max,IntKind.signed,IntKind.bits] using HKO.out.1.1
    exact h1.2)
   have hld1:=hld wr hS.bel
   have hal:=allocAw_eq wr
   have hst:=aw_var wr (Z:=awc awZ) (S:=awc x) rfl rfl (all_oneCell_toArray (awl_one x))
   clear hS hld hkL HREL hlt hk
   go_upto_region 14 with (fail)
   have HX1:=hid (heap_alloc_new wr (.cells (awc x) 44))
   have hba:Below wr.heap.size wr (wr.alloc (.cells (awc x) 44)):=(Below.refl _ _).alloc (Nat.le_refl _) _
   have HS2:=hid (HSS.out.below hba)
   clear hld1 hal hst hba
   generalize (wr.alloc (.cells (awc x) 44))=w7 at *
   obtain ⟨ga,HGG⟩:∃ q:Nat,Hid (wr.heap.size=q):=⟨_,hid rfl⟩
   rw [HGG.out] at HX1 ⊢
   obtain ⟨XN,HXNN⟩:∃ q:Nat,Hid (x.L.length=q):=⟨_,hid rfl⟩
   obtain ⟨AK,HAK⟩:∃ q:Array Value,Hid (akc x.a=q):=⟨_,hid rfl⟩
   have HCELLS:Hid (∀ W:World,W.heap[ga]?=some (.cells (awc x) 44 (0,0))→W.cell? ⟨ga,0,none⟩=some (.int .i64 x.act)∧W.cell? ⟨ga,1,none⟩=some (.slice x.lA XN x.lc)∧W.cell? ⟨ga,4,none⟩=some (.int .i64 x.a.n)∧W.cell? ⟨ga,5,none⟩=some (.int .u8 (x.y.toNat:Int))∧loadAk (.pointer (some ⟨ga,2,none⟩)) W=.ok (.value (.agg AK)) W):=hid (fun W h=>by
    have hc:=coBlk_cell h
    rw [← HXNN.out,← HAK.out]
    refine ⟨(hc 0).trans rfl,(hc 1).trans rfl,(hc 4).trans rfl,(hc 5).trans rfl,loadAk_mid (fun j u hu=>?_)⟩
    rw [hc (2 + j)]
    have hj:j < 3:=(List.getElem?_eq_some_iff.1 hu).1
    match j,hj,hu with
    | 0,_,hu=>exact hu
    | 1,_,hu=>exact hu
    | 2,_,hu=>exact hu)
   have HEL:Hid (∀ W,Below w.heap.size w W→Els btl 1 W (.slice x.lA XN x.lc) x.L):=hid (fun W hb=>by
    have:=HKO.out.2.1.below hb
    unfold ActW.lv at this
    rw [HXNN.out] at this
    exact this)
   have HLL:Hid (x.L.length≤5∧∀ t ∈ x.L,t.l.length≤100):=hid HXL.out.lit
   obtain ⟨d0,d1,d4,d5,d2⟩:=HCELLS.out _ HX1.out
   go_upto_block 2 with (fail)
   go_cut [7] (fun s7 wx=>∃ q:Value,q=s7∧Hid (DsMid w wx b g (k + 1) q))
   case first=>
    by_cases a0:x.act=0
    ·have a0b:(x.act == 0)=true:=by simpa using a0
     have HPD:=hid (refPut19_any V X va.ownBlock _ x.L w7 HS2.out.rw_ HS2.out.gd (fun k e=>(HS2.out.e.o.base e).2) (by have:=HS2.out.m0;have:=HK30.out;omega) (HEL.out _ HS2.out.bel) (fun t ht=>(HKO.out.2.2 t ht).below HS2.out.bel) ⟨by have:=HLL.out.1;omega,fun t ht=>by have:=HLL.out.2 t ht;omega⟩)
     obtain ⟨E,HE⟩:∃ q:Int,Hid (putE V (bls x.L)=q):=⟨_,hid rfl⟩
     rw [HE.out] at HPD
     have hl10:=loadRw_row HS2.out.r HS2.out.rw_.size
     clear a0
     go_wp2_with fail
     refine HPD.out.mono ?_
     rintro e w8 ⟨X8,rfl,hx8,hb8⟩
     have HS8:=hid (HS2.out.below hb8)
     have HX8:=hid hx8
     have HA8:=hid ((hb8.block _ (lt_of_block HX1.out)).trans HX1.out)
     have hal:=allocRw_eq w8
     have hsv:=rw_var w8 (Z:=rwZ) rfl hx8.size hx8.one
     clear hx8 hb8 HPD hl10 d0 d1 d2 d4 d5
     go_upto_region 21 with (fail)
     clear hal hsv
     have hba:Below w8.heap.size w8 (w8.alloc (.cells X8 37)):=(Below.refl _ _).alloc (Nat.le_refl _) _
     have HS9:=hid (HS8.out.below hba)
     have HX9:=hid (HX8.out.below hba)
     have HA9:=hid ((hba.block _ (lt_of_block HA8.out)).trans HA8.out)
     have hl15:=loadRw_row (heap_alloc_new w8 (.cells X8 37)) HX8.out.size
     clear hba
     generalize (w8.alloc (.cells X8 37))=w9 at *
     have hst10:=storeRw_eq HS9.out.r HS9.out.rw_.size HX9.out.size HX9.out.one
     obtain ⟨e10,wl10,b10,r10,_⟩:=HS9.out.var X8
     have HX10:=hid (HS9.out.varR X8 HX9.out)
     have HA10:=hid (HS9.out.varO X8 HA9.out (by decide))
     have HE10:=hid (And.intro e10 (And.intro wl10 (And.intro b10 r10)))
     clear e10 wl10 b10 r10
     go_upto_region 22 with (fail)
     clear hl15 hst10
     generalize (setSe w9 g X8)=w10 at *
     obtain ⟨d0,d1,d4,d5,d2⟩:=HCELLS.out _ HA10.out
     have HPC:=hid (HS9.out.put HE10.out.1 HE10.out.2.1 HE10.out.2.2.1 HE10.out.2.2.2 HX10.out (by have:=HS9.out.m0;have:=HK30.out;omega) (HEL.out _ HE10.out.2.2.1) (fun t ht=>(HKO.out.2.2 t ht).below HE10.out.2.2.1) HLL.out.1 HLL.out.2)
     rw [HE.out] at HPC
     have hee:(E != E)=false:=by simp
     go_wp2_with fail
     refine HPC.out.mono ?_
     rintro e w11 ⟨rfl,va',vt',hD⟩
     have HD:=hid hD
     clear hD d0 d1 d2 d4 d5 HPC
     go_wp2_with fail
     go_meet
     case rel=>exact ⟨_,rfl,hid ⟨_,_,_,_,HD.out⟩⟩
    have a0b:(x.act == 0)=false:=by simpa using a0
    by_cases a1:x.act=1
    ·have a1b:(x.act == 1)=true:=by simpa using a1
     clear a0
     obtain ⟨C,hXC,hC⟩:=HS2.out.rw_
     have hrc:=HS2.out.r
     rw [hXC] at hrc
     have hl10:=loadRd_rw hrc hC.size
     have HRO:=hid (refOpen19_any V.d C va.ownBlock w7 hC HS2.out.gd (fun k e=>(HS2.out.e.o.base e).2) (by have hz:=HS2.out.z;have:=HK30.out;unfold totD at hz;omega))
     unfold OqPost at HRO
     obtain ⟨E,HE⟩:∃ q:Int,Hid (openE V.d=q):=⟨_,hid rfl⟩
     rw [HE.out] at HRO
     clear hXC hC hrc a1
     go_wp2_with fail
     refine HRO.out.mono ?_
     rintro e w8 ⟨X8,m8,rfl,hx8,hb8,L8,ho8,ht8,hbl8⟩
     obtain ⟨MA,MC,rfl⟩:=ho8.shape
     have HX8:=hid hx8
     have HB8:=hid hb8
     have HL8:=hid (And.intro ho8 (And.intro ht8 hbl8))
     have hal:=allocRw_eq w8
     have hsv:=rw_var w8 (Z:=rwZ) rfl hx8.size hx8.one
     clear hx8 hb8 ho8 ht8 hbl8 HRO hl10 d0 d1 d2 d4 d5
     go_upto_region 26 with (fail)
     clear hal hsv
     have hba:Below w8.heap.size w8 (w8.alloc (.cells X8 37)):=(Below.refl _ _).alloc (Nat.le_refl _) _
     have HX9:=hid (HX8.out.below hba)
     have H17:=hid (heap_alloc_new w8 (.cells X8 37))
     have HG17:Hid (w8.heap.size≠g):=hid (by have:=lt_of_block HS2.out.r;have:=HB8.out.size;omega)
     have HB9:=hid (HB8.out.trans (hba.mono HB8.out.size))
     have HL9:Hid (OwnB w7.heap.size (w8.alloc (.cells X8 37)) (.slice MA L8.length MC) L8∧∀ t ∈ L8,Own w7.heap.size (w8.alloc (.cells X8 37)) t.v t.l):=hid ⟨OwnE.below HL8.out.1 hba,fun t ht=>(HL8.out.2.1 t ht).below hba⟩
     clear hba
     generalize (w8.alloc (.cells X8 37))=w9 at *
     obtain ⟨g17,HGG17⟩:∃ q:Nat,Hid (w8.heap.size=q):=⟨_,hid rfl⟩
     rw [HGG17.out] at H17 HG17 ⊢
     have HPC:=hid (HS2.out.open HB9.out HX9.out HL9.out.1 HL9.out.2 HK30.out)
     rw [HE.out] at HPC
     obtain ⟨MN,HMN⟩:∃ q:Nat,Hid (L8.length=q):=⟨_,hid rfl⟩
     rw [HMN.out] at HPC ⊢
     have HRL:Hid (L8.length≤1000000):=hid (by
      have h1:=congrArg List.length HL8.out.2.2
      have hz:=HS2.out.z
      have:=HK30.out
      rw [bls_length] at h1
      rw [h1]
      have hc:∀ n (l:List UInt8),l.length≤n→(recsL l).length≤l.length:=fun n=>by
       induction n with
       | zero=>
        intro l hl
        have:l=[]:=List.eq_nil_of_length_eq_zero (by omega)
        subst this
        exact Nat.le_refl _
       | succ n ih=>
        intro l hl
        by_cases h:nextN l=1
        ·have h8:=nextN_len h
         rw [(recs_step h).1,List.length_cons]
         have:=ih (l.drop (8 + (nextB l).length)) (by rw [List.length_drop];omega)
         rw [List.length_drop] at this
         omega
        ·rw [(recs_stop h).1]
         exact Nat.zero_le _
      unfold openR
      split
      ·have:=hc _ (V.d.s ++ V.d.m) (Nat.le_refl _)
       rw [List.length_append] at this
       unfold totD at hz
       omega
      ·exact Nat.zero_le _)
     go_wp2_with fail
     refine HPC.out.mono ?_
     rintro e w10 ⟨z,kk,rfl,⟨va',vt',hds⟩,hr10,hb10,hfr10,hm1,hm2,⟨K,hk1,hk2,hk3⟩,hz0,hz1⟩
     obtain ⟨KA,KC,rfl⟩:=hk1.shape
     have HTX:=hid (texts19_any _ _ L8 K w10 hm1 hk1 hm2 hk2 HRL.out)
     rw [decide_eq_true (show bls L8=bls K from by rw [hk3];exact HL8.out.2.2)] at HTX
     have HDS:=hid hds
     have HR10:=hid hr10
     have HB10:=hid hb10
     have H1710:=hid (hfr10 _ _ _ H17.out (by decide) (by decide))
     obtain ⟨KN,HKN⟩:∃ q:Nat,Hid (K.length=q):=⟨_,hid rfl⟩
     rw [HKN.out] at HTX ⊢
     have hee:(E != E)=false:=by simp
     clear hds hr10 hb10 hfr10 hm1 hm2 hk1 hk2 hk3 HPC
     by_cases h0:E=0
     ·subst h0
      obtain ⟨c,rfl⟩:=hz0 rfl
      clear hz0 hz1
      go_wp2_with fail
      refine HTX.out.mono ?_
      rintro e w11 ⟨rfl,hb11⟩
      have HR11:=hid ((hb11.block _ (lt_of_block HR10.out)).trans HR10.out)
      have HB11:=hid (HB10.out.trans (hb11.mono HB10.out.size))
      have H1711:=hid ((hb11.block _ (lt_of_block H1710.out)).trans H1710.out)
      have hl17:=loadRw_row H1711.out HX8.out.size
      have hst10:=storeRw_eq HR11.out HS2.out.rw_.size HX8.out.size HX8.out.one
      have HFN:=hid (HDS.out (setSe w11 g X8) (Nat.le_trans hb11.size (setSe_below (C:=X8) (Below.refl 0 w11) (Nat.zero_le g)).size) (fun j R T hj hT=>(setSe_other w11 _ (blk_ne ((hb11.block j (lt_of_block hj)).trans hj) HR11.out hT)).trans (hb11.block j (lt_of_block hj))) (setSe_below HB11.out HS2.out.hg) (setSe_same HR11.out))
      clear hb11 HTX
      go_wp2_with fail
      go_meet
      case rel=>exact ⟨_,rfl,hid ⟨_,_,_,_,HFN.out⟩⟩
     ·obtain rfl:=hz1 h0
      have h0b:(E == 0)=false:=by simpa using h0
      clear hz0 hz1 h0
      go_wp2_with fail
      refine HTX.out.mono ?_
      rintro e w11 ⟨rfl,hb11⟩
      have HR11:=hid ((hb11.block _ (lt_of_block HR10.out)).trans HR10.out)
      have HB11:=hid (HB10.out.trans (hb11.mono HB10.out.size))
      have H1711:=hid ((hb11.block _ (lt_of_block H1710.out)).trans H1710.out)
      have hl17:=loadRw_row H1711.out HX8.out.size
      have hst10:=storeRw_eq HR11.out HS2.out.rw_.size HX8.out.size HX8.out.one
      have HFN:=hid (HDS.out (setSe w11 g X8) (Nat.le_trans hb11.size (setSe_below (C:=X8) (Below.refl 0 w11) (Nat.zero_le g)).size) (fun j R T hj hT=>(setSe_other w11 _ (blk_ne ((hb11.block j (lt_of_block hj)).trans hj) HR11.out hT)).trans (hb11.block j (lt_of_block hj))) (setSe_below HB11.out HS2.out.hg) (setSe_same HR11.out))
      clear hb11 HTX
      go_wp2_with fail
      go_meet
      case rel=>exact ⟨_,rfl,hid ⟨_,_,_,_,HFN.out⟩⟩
    have a1b:(x.act == 1)=false:=by simpa using a1
    by_cases a9:x.act=9
    ·have a9b:(x.act == 9)=true:=by simpa using a9
     clear a0 a1
     have HSP:=hid (dkSpoilG_any HS2.out.e HS2.out.gd x.a.n x.y)
     clear a9
     go_wp2_with fail
     refine HSP.out.mono ?_
     rintro e w8 ⟨E,rfl,e8,t8⟩
     have HS8:Hid (DkE w8 b w.heap.size (spoilD V.d x.a.n x.y) va vt):=hid e8
     have HR8:=hid (HS2.out.e.other HS2.out.r (by decide) (by decide) t8)
     have HX8:=hid (HS2.out.rw_.turnD HS2.out.e t8 (Nw.refl _ _))
     have HA8:=hid (HS2.out.e.other HX1.out (by decide) (by decide) t8)
     have HW8:=hid (HS2.out.wl.other HS2.out.e t8 (V':={ V with d:=spoilD V.d x.a.n x.y }) rfl rfl rfl)
     have HB8:=hid (t8.below HS2.out.bel HS2.out.hb (fun k e=>(HS2.out.e.o.base e).1) HS2.out.bel.size)
     clear e8 t8 HSP d0 d1 d2 d4 d5
     obtain ⟨d0,d1,d4,d5,d2⟩:=HCELLS.out _ HA8.out
     obtain ⟨C,hXC,hC⟩:=HX8.out
     have HXC:=hid hXC
     have HC8:=hid hC
     have hrc:=HR8.out
     rw [hXC] at hrc
     have hl10:=loadRd_rw hrc hC.size
     have HRS:=hid (refSpoil19_any V.d C va.ownBlock x.a.n x.y w8 hC HS2.out.gd (fun k e=>(HS8.out.o.base e).2))
     unfold RcPost18 at HRS
     clear hXC hC hrc
     go_wp2_with fail
     refine HRS.out.mono ?_
     rintro e w9 ⟨C9,rfl,hc9,hb9⟩
     have HR9:=hid ((hb9.block _ (lt_of_block HR8.out)).trans HR8.out)
     have HC9:=hid hc9
     have hrx:=HR9.out
     rw [HXC.out] at hrx
     have hst:=storeRd_rw hrx HC8.out.size hc9.size hc9.one
     have HTT:=hid (tot_spoil V.d x.a.n x.y)
     have hs:w9.heap.size≤(setRw w9 g C9).heap.size:=Nat.le_of_eq (setRw_size w9 g C9).symm
     have HFN:Hid (DsMid w (setRw w9 g C9) b g (k + 1) p):=hid ⟨{ V with d:=spoilD V.d x.a.n x.y },rwc C9 V.many V.broken V.is_,va,vt,⟨(HS8.out.below hb9).kept hs (fun k R T hk hT=>setRw_other w9 _ (blk_ne hk hrx (by rcases hT with rfl | rfl <;> decide))),spoilD_good HS2.out.gd _ _,by
      rcases HW8.out.below hb9 with ⟨h1,c,h2,h3,h4⟩ | hw
      ·exact .inl ⟨h1,c,h2,h3,(setRw_other w9 _ (blk_ne h4 hrx (by decide))).trans h4⟩
      ·exact .inr hw,setRw_row hrx HC8.out.size hc9.size,⟨C9,rfl,hc9.away hs (fun k R hk=>setRw_other w9 _ (blk_ne hk hrx (by decide)))⟩,by have:=HTT.out;have:=HS2.out.z;show totD (spoilD V.d x.a.n x.y)≤_;omega,by have:=HS2.out.m0;show V.many≤_;omega,setRw_below (HB8.out.trans (hb9.mono HB8.out.size)) HS2.out.hg (HB8.out.trans (hb9.mono HB8.out.size)).size,HS2.out.hb,HS2.out.hg⟩⟩
     clear hb9 hc9 hrx hs HRS hl10
     go_wp2_with fail
     go_meet
     case rel=>exact ⟨_,rfl,hid HFN.out⟩
    have a9b:(x.act == 9)=false:=by simpa using a9
    clear a0 a1 a9
    obtain ⟨C,hXC,hC⟩:=HS2.out.rw_
    have HXC:=hid hXC
    have hrc:=HS2.out.r
    rw [hXC] at hrc
    have HC7:=hid hC
    have hl10:=loadRd_rw hrc hC.size
    have HDO:=hid (do18_any V.d V.d C x.a w7 HS2.out.e HS2.out.gd HS2.out.gd hC HS2.out.bel.size ⟨HKO.out.1.1,HKO.out.1.2.below HS2.out.bel⟩ HXL.out.2.1)
    rw [HAK.out] at HDO
    unfold DoPost18 at HDO
    clear hXC hC hrc
    go_wp2_with fail
    refine HDO.out.mono ?_
    rintro e w8 ⟨C8,va',vt',q,rfl,hq,e8,c8,t8,n8,_⟩
    have HQ:Hid (q=true):=hid (hq trivial)
    have hqt:=HQ.out
    subst hqt
    have HE8:=hid e8
    have HC8:=hid c8
    have HR8:=hid (HS2.out.e.other HS2.out.r (by decide) (by decide) t8)
    have HW8:=hid (HS2.out.wl.other HS2.out.e t8 (V':={ V with d:=actD V.d x.a.act x.a.bl x.a.n }) rfl rfl rfl)
    have HB8:=hid (t8.below HS2.out.bel HS2.out.hb (fun k e=>(HS2.out.e.o.base e).1) HS2.out.bel.size)
    have hal:=allocRd_eq w8
    have hsv:=rd_var w8 (Z:=rdZ) rfl c8.size c8.one
    clear hq e8 c8 t8 n8 HDO hl10 d0 d1 d2 d4 d5
    go_upto_region 16 with (fail)
    clear hal hsv
    have hba:Below w8.heap.size w8 (w8.alloc (.cells C8 35)):=(Below.refl _ _).alloc (Nat.le_refl _) _
    have hl23:=loadRd_row (heap_alloc_new w8 (.cells C8 35)) HC8.out.size
    have HE9:=hid (HE8.out.below hba)
    have HC9:=hid (HC8.out.below hba)
    have HR9:=hid ((hba.block _ (lt_of_block HR8.out)).trans HR8.out)
    have HW9:=hid (HW8.out.below hba)
    have HB9:=hid (HB8.out.trans (hba.mono HB8.out.size))
    clear hba
    generalize (w8.alloc (.cells C8 35))=w9 at *
    have hrx:=HR9.out
    rw [HXC.out] at hrx
    have hst:=storeRd_rw hrx HC7.out.size HC9.out.size HC9.out.one
    have HTT:=hid (tot_act V.d x.a.act x.a.bl x.a.n)
    have hs:w9.heap.size≤(setRw w9 g C8).heap.size:=Nat.le_of_eq (setRw_size w9 g C8).symm
    have HFN:Hid (DsMid w (setRw w9 g C8) b g (k + 1) p):=hid ⟨{ V with d:=actD V.d x.a.act x.a.bl x.a.n },rwc C8 V.many V.broken V.is_,va',vt',⟨HE9.out.kept hs (fun k R T hk hT=>setRw_other w9 _ (blk_ne hk hrx (by rcases hT with rfl | rfl <;> decide))),actD_good HS2.out.gd _ _ HXN.out,by
     rcases HW9.out with ⟨h1,c,h2,h3,h4⟩ | hw
     ·exact .inl ⟨h1,c,h2,h3,(setRw_other w9 _ (blk_ne h4 hrx (by decide))).trans h4⟩
     ·exact .inr hw,setRw_row hrx HC7.out.size HC9.out.size,⟨C8,rfl,HC9.out.away hs (fun k R hk=>setRw_other w9 _ (blk_ne hk hrx (by decide)))⟩,by have:=HTT.out;have:=HS2.out.z;have:=HXL.out.2.1;show totD (actD V.d x.a.act x.a.bl x.a.n)≤_;omega,by have:=HS2.out.m0;show V.many≤_;omega,setRw_below HB9.out HS2.out.hg HB9.out.size,HS2.out.hb,HS2.out.hg⟩⟩
    clear hrx hs
    go_wp2_with fail
    go_meet
    case rel=>exact ⟨_,rfl,hid HFN.out⟩
   case rest=>
    clear d0 d1 d2 d4 d5 HX1 HS2 HSS
    obtain ⟨p2,hp2,hcut⟩:=hcut
    subst hp2
    obtain ⟨V2,X2,va2,vt2,hS⟩:=hcut.out
    have HS:=hid hS
    clear hcut
    obtain ⟨wq,rfl⟩:∃ q:World,q=wc:=⟨wc,rfl⟩
    obtain ⟨C,hXC,hC⟩:=hS.rw_
    have HXC:=hid hXC
    have HCZ:=hid hC.size
    have HLK:=hid (like18_any V2.d C wq.drew (HS.out.e.drewN 1) HS.out.gd (hC.below ((Below.refl _ _).drew)))
    have HCL:Hid (∀ W,Below wq.heap.size wq W→loadRd (.pointer (some ⟨g,0,none⟩)) W=.ok (.value (.agg C)) W∧W.cell? ⟨g,6,none⟩=some (.int .i64 (V2.many:Int))∧W.cell? ⟨g,7,none⟩=some (.bool V2.broken)∧W.cell? ⟨g,8,none⟩=some (.bool V2.is_)):=hid (fun W hb=>by
     have hr:=(HS.out.below hb).r
     rw [HXC.out] at hr
     exact ⟨loadRd_rw hr HCZ.out,rw_cells hr HCZ.out⟩)
    have HBD:Hid (Below wq.heap.size wq wq.drew):=hid (Below.refl _ _).drew
    clear hXC hC hS
    obtain ⟨bm,HBM⟩:∃ q:Bool,Hid (V2.broken=q):=⟨_,hid rfl⟩
    obtain ⟨my,HMY⟩:∃ q:Nat,Hid (V2.many=q):=⟨_,hid rfl⟩
    rw [HBM.out,HMY.out] at HCL
    have HMB:Hid (∃ p7,Hid (p2=p7)∧(∀ W,Below wq.heap.size wq W→Calls Try.prog 19 #[p7] W fun e w'=>e=.returned (.int .i64 (my:Int))∧W=w')∧(∀ W,Below wq.heap.size wq W→Calls Try.prog 20 #[p7] W fun e w'=>e=.returned (.bool (if V2.is_=true then bm else true))∧W=w')):=hid (by
     rcases HS.out.wl with ⟨h1,c,h2,h3,h4⟩ | ⟨h1,h2,h3⟩
     ·refine ⟨_,hid rfl,fun W hb=>?_,fun W hb=>?_⟩
      ·rw [h2,← HMY.out]
       exact walMany_any (h4.below hb)
      ·rw [h2,if_pos h1,← HBM.out]
       exact walBroken_any (h4.below hb)
     ·refine ⟨_,hid rfl,fun W hb=>?_,fun W hb=>?_⟩
      ·rw [h2,← HMY.out,h3]
       exact noMany (.inl rfl)
      ·rw [h2,h1]
       exact noBroken (.inl rfl))
    obtain ⟨p7,HP7,hmn,hbk⟩:=HMB.out
    rw [HP7.out]
    have HMN:=hid hmn
    have HBK:=hid hbk
    clear hmn hbk HMB
    cases his:V2.is_ with
    | true=>
     rw [his] at HBK HCL
     simp only [if_true] at HBK
     clear his
     go_upto_region 33 with (fail)
     have hmm:((my:Int) != (my:Int))=false:=by simp
     refine wp_region_held_drew (S:=fun W=>loadRd (.pointer (some ⟨g,0,none⟩)) W=.ok (.value (.agg C)) W∧W.cell? ⟨g,6,none⟩=some (.int .i64 (my:Int))∧W.cell? ⟨g,7,none⟩=some (.bool bm)∧W.cell? ⟨g,8,none⟩=some (.bool true)) (by kernel_rfl) (HCL.out _ HBD.out) (fun hHeld=>?_)
     refine' tk (i:=0) (v:=_) rfl ?_ ?_
     rotate_left
     ·(intro W hW;(try dsimp only at hW);have hW1:=hW.1;have hW2:=hW.2.1;have hW3:=hW.2.2.1;have hW4:=hW.2.2.2;go_simp;first | done | with_reducible rfl)
     try simp only [lay]
     refine' tk (i:=1) (v:=_) rfl ?_ ?_
     rotate_left
     ·(intro W hW;(try dsimp only at hW);have hW1:=hW.1;have hW2:=hW.2.1;have hW3:=hW.2.2.1;have hW4:=hW.2.2.2;go_simp;first | done | with_reducible rfl)
     try simp only [lay]
     refine' tk (i:=2) (v:=_) rfl ?_ ?_
     rotate_left
     ·(intro W hW;(try dsimp only at hW);have hW1:=hW.1;have hW2:=hW.2.1;have hW3:=hW.2.2.1;have hW4:=hW.2.2.2;go_simp;first | done | with_reducible rfl)
     try simp only [lay]
     refine call_on (i:=3) rfl (by kernel_rfl) (by rfl) (fun K hK=>?_)
     go_simp
     refine HLK.out.mono ?_
     rintro e w8 ⟨rfl,hb8⟩
     have HB8:Hid (Below wq.heap.size wq w8):=hid (HBD.out.trans hb8)
     clear hb8
     refine hK.out _ _ (HCL.out _ HB8.out) (fun hHeld=>?_)
     clear hK K
     try simp only [lay]
     refine' tk (i:=4) (v:=_) rfl ?_ ?_
     rotate_left
     ·(intro W hW;(try dsimp only at hW);have hW1:=hW.1;have hW2:=hW.2.1;have hW3:=hW.2.2.1;have hW4:=hW.2.2.2;go_simp;first | done | with_reducible rfl)
     try simp only [lay]
     refine' tk (i:=5) (v:=_) rfl ?_ ?_
     rotate_left
     ·(intro W hW;(try dsimp only at hW);have hW1:=hW.1;have hW2:=hW.2.1;have hW3:=hW.2.2.1;have hW4:=hW.2.2.2;go_simp;first | done | with_reducible rfl)
     try simp only [lay]
     refine' tk (i:=6) (v:=_) rfl ?_ ?_
     rotate_left
     ·(intro W hW;(try dsimp only at hW);have hW1:=hW.1;have hW2:=hW.2.1;have hW3:=hW.2.2.1;have hW4:=hW.2.2.2;go_simp;first | done | with_reducible rfl)
     try simp only [lay]
     refine' tk (i:=8) (v:=_) rfl ?_ ?_
     rotate_left
     ·(intro W hW;(try dsimp only at hW);have hW1:=hW.1;have hW2:=hW.2.1;have hW3:=hW.2.2.1;have hW4:=hW.2.2.2;go_simp;first | done | with_reducible rfl)
     try simp only [lay]
     refine' tk (i:=9) (v:=_) rfl ?_ ?_
     rotate_left
     ·(intro W hW;(try dsimp only at hW);have hW1:=hW.1;have hW2:=hW.2.1;have hW3:=hW.2.2.1;have hW4:=hW.2.2.2;go_simp;first | done | with_reducible rfl)
     try simp only [lay]
     refine call_on (i:=7) rfl (by kernel_rfl) (by rfl) (fun K hK=>?_)
     go_simp
     refine (HMN.out _ HB8.out).mono ?_
     rintro e w9 ⟨rfl,rfl⟩
     refine hK.out _ _ (HCL.out _ HB8.out) (fun hHeld=>?_)
     clear hK K
     try simp only [lay]
     refine' tk (i:=10) (v:=_) rfl ?_ ?_
     rotate_left
     ·(intro W hW;(try dsimp only at hW);have hW1:=hW.1;have hW2:=hW.2.1;have hW3:=hW.2.2.1;have hW4:=hW.2.2.2;go_simp;first | done | with_reducible rfl)
     try simp only [lay]
     refine' tk (i:=11) (v:=_) rfl ?_ ?_
     rotate_left
     ·(intro W hW;(try dsimp only at hW);have hW1:=hW.1;have hW2:=hW.2.1;have hW3:=hW.2.2.1;have hW4:=hW.2.2.2;go_simp;first | done | with_reducible rfl)
     try simp only [lay]
     refine' tk (i:=12) (v:=_) rfl ?_ ?_
     rotate_left
     ·(intro W hW;(try dsimp only at hW);have hW1:=hW.1;have hW2:=hW.2.1;have hW3:=hW.2.2.1;have hW4:=hW.2.2.2;go_simp;first | done | with_reducible rfl)
     try simp only [lay]
     refine' tk (i:=13) (v:=_) rfl ?_ ?_
     rotate_left
     ·(intro W hW;(try dsimp only at hW);have hW1:=hW.1;have hW2:=hW.2.1;have hW3:=hW.2.2.1;have hW4:=hW.2.2.2;go_simp;first | done | with_reducible rfl)
     try simp only [lay]
     refine' tk (i:=15) (v:=_) rfl ?_ ?_
     rotate_left
     ·(intro W hW;(try dsimp only at hW);have hW1:=hW.1;have hW2:=hW.2.1;have hW3:=hW.2.2.1;have hW4:=hW.2.2.2;go_simp;first | done | with_reducible rfl)
     try simp only [lay]
     refine' tk (i:=16) (v:=_) rfl ?_ ?_
     rotate_left
     ·(intro W hW;(try dsimp only at hW);have hW1:=hW.1;have hW2:=hW.2.1;have hW3:=hW.2.2.1;have hW4:=hW.2.2.2;go_simp;first | done | with_reducible rfl)
     try simp only [lay]
     refine' tk (i:=17) (v:=_) rfl ?_ ?_
     rotate_left
     ·(intro W hW;(try dsimp only at hW);have hW1:=hW.1;have hW2:=hW.2.1;have hW3:=hW.2.2.1;have hW4:=hW.2.2.2;go_simp;first | done | with_reducible rfl)
     try simp only [lay]
     refine call_on (i:=14) rfl (by kernel_rfl) (by rfl) (fun K hK=>?_)
     go_simp
     refine (HBK.out _ HB8.out).mono ?_
     rintro e w9 ⟨rfl,rfl⟩
     refine hK.out _ _ (HCL.out _ HB8.out) (fun hHeld=>?_)
     clear hK K
     try simp only [lay]
     refine' tk (i:=18) (v:=_) rfl ?_ ?_
     rotate_left
     ·(intro W hW;(try dsimp only at hW);have hW1:=hW.1;have hW2:=hW.2.1;have hW3:=hW.2.2.1;have hW4:=hW.2.2.2;go_simp;first | done | with_reducible rfl)
     try simp only [lay]
     refine' tk (i:=19) (v:=_) rfl ?_ ?_
     rotate_left
     ·(intro W hW;(try dsimp only at hW);have hW1:=hW.1;have hW2:=hW.2.1;have hW3:=hW.2.2.1;have hW4:=hW.2.2.2;go_simp;first | done | with_reducible rfl)
     try simp only [lay]
     refine' tk (i:=20) (v:=_) rfl ?_ ?_
     rotate_left
     ·(intro W hW;(try dsimp only at hW);have hW1:=hW.1;have hW2:=hW.2.1;have hW3:=hW.2.2.1;have hW4:=hW.2.2.2;go_simp;first | done | with_reducible rfl)
     try simp only [lay]
     refine' tk (i:=21) (v:=_) rfl ?_ ?_
     rotate_left
     ·(intro W hW;(try dsimp only at hW);have hW1:=hW.1;have hW2:=hW.2.1;have hW3:=hW.2.2.1;have hW4:=hW.2.2.2;go_simp;first | done | with_reducible rfl)
     try simp only [lay]
     have hbb:(bm != bm)=false:=by simp
     refine' tk (i:=22) (v:=_) rfl ?_ ?_
     rotate_left
     ·(intro W hW;(try dsimp only at hW);have hW1:=hW.1;have hW2:=hW.2.1;have hW3:=hW.2.2.1;have hW4:=hW.2.2.2;go_simp;first | done | with_reducible rfl)
     try simp only [lay]
     refine' tk (i:=23) (v:=_) rfl ?_ ?_
     rotate_left
     ·(intro W hW;(try dsimp only at hW);have hW1:=hW.1;have hW2:=hW.2.1;have hW3:=hW.2.2.1;have hW4:=hW.2.2.2;go_simp;first | done | with_reducible rfl)
     try simp only [lay]
     refine wpAnyH_done (by kernel_rfl) ?_ _
     clear hHeld
     have HSF:Hid (DsMid w w8 b g (k + 1) p7):=hid (by rw [← HP7.out];exact ⟨_,_,_,_,HS.out.below HB8.out⟩)
     go_wp2_with fail
     go_roundw
     case rel=>exact ⟨k + 1,HLT.out,by rw [HWI.out],_,rfl,HSF⟩
     case measure=>exact aw_meas HLT.out HWI.out
    | false=>
     rw [his] at HBK HCL
     simp only [Bool.false_eq_true,if_false] at HBK
     clear his
     go_upto_region 33 with (fail)
     have hmm:((my:Int) != (my:Int))=false:=by simp
     refine wp_region_held_drew (S:=fun W=>loadRd (.pointer (some ⟨g,0,none⟩)) W=.ok (.value (.agg C)) W∧W.cell? ⟨g,6,none⟩=some (.int .i64 (my:Int))∧W.cell? ⟨g,7,none⟩=some (.bool bm)∧W.cell? ⟨g,8,none⟩=some (.bool false)) (by kernel_rfl) (HCL.out _ HBD.out) (fun hHeld=>?_)
     refine' tk (i:=0) (v:=_) rfl ?_ ?_
     rotate_left
     ·(intro W hW;(try dsimp only at hW);have hW1:=hW.1;have hW2:=hW.2.1;have hW3:=hW.2.2.1;have hW4:=hW.2.2.2;go_simp;first | done | with_reducible rfl)
     try simp only [lay]
     refine' tk (i:=1) (v:=_) rfl ?_ ?_
     rotate_left
     ·(intro W hW;(try dsimp only at hW);have hW1:=hW.1;have hW2:=hW.2.1;have hW3:=hW.2.2.1;have hW4:=hW.2.2.2;go_simp;first | done | with_reducible rfl)
     try simp only [lay]
     refine' tk (i:=2) (v:=_) rfl ?_ ?_
     rotate_left
     ·(intro W hW;(try dsimp only at hW);have hW1:=hW.1;have hW2:=hW.2.1;have hW3:=hW.2.2.1;have hW4:=hW.2.2.2;go_simp;first | done | with_reducible rfl)
     try simp only [lay]
     refine call_on (i:=3) rfl (by kernel_rfl) (by rfl) (fun K hK=>?_)
     go_simp
     refine HLK.out.mono ?_
     rintro e w8 ⟨rfl,hb8⟩
     have HB8:Hid (Below wq.heap.size wq w8):=hid (HBD.out.trans hb8)
     clear hb8
     refine hK.out _ _ (HCL.out _ HB8.out) (fun hHeld=>?_)
     clear hK K
     try simp only [lay]
     refine' tk (i:=4) (v:=_) rfl ?_ ?_
     rotate_left
     ·(intro W hW;(try dsimp only at hW);have hW1:=hW.1;have hW2:=hW.2.1;have hW3:=hW.2.2.1;have hW4:=hW.2.2.2;go_simp;first | done | with_reducible rfl)
     try simp only [lay]
     refine' tk (i:=5) (v:=_) rfl ?_ ?_
     rotate_left
     ·(intro W hW;(try dsimp only at hW);have hW1:=hW.1;have hW2:=hW.2.1;have hW3:=hW.2.2.1;have hW4:=hW.2.2.2;go_simp;first | done | with_reducible rfl)
     try simp only [lay]
     refine' tk (i:=6) (v:=_) rfl ?_ ?_
     rotate_left
     ·(intro W hW;(try dsimp only at hW);have hW1:=hW.1;have hW2:=hW.2.1;have hW3:=hW.2.2.1;have hW4:=hW.2.2.2;go_simp;first | done | with_reducible rfl)
     try simp only [lay]
     refine' tk (i:=8) (v:=_) rfl ?_ ?_
     rotate_left
     ·(intro W hW;(try dsimp only at hW);have hW1:=hW.1;have hW2:=hW.2.1;have hW3:=hW.2.2.1;have hW4:=hW.2.2.2;go_simp;first | done | with_reducible rfl)
     try simp only [lay]
     refine' tk (i:=9) (v:=_) rfl ?_ ?_
     rotate_left
     ·(intro W hW;(try dsimp only at hW);have hW1:=hW.1;have hW2:=hW.2.1;have hW3:=hW.2.2.1;have hW4:=hW.2.2.2;go_simp;first | done | with_reducible rfl)
     try simp only [lay]
     refine call_on (i:=7) rfl (by kernel_rfl) (by rfl) (fun K hK=>?_)
     go_simp
     refine (HMN.out _ HB8.out).mono ?_
     rintro e w9 ⟨rfl,rfl⟩
     refine hK.out _ _ (HCL.out _ HB8.out) (fun hHeld=>?_)
     clear hK K
     try simp only [lay]
     refine' tk (i:=10) (v:=_) rfl ?_ ?_
     rotate_left
     ·(intro W hW;(try dsimp only at hW);have hW1:=hW.1;have hW2:=hW.2.1;have hW3:=hW.2.2.1;have hW4:=hW.2.2.2;go_simp;first | done | with_reducible rfl)
     try simp only [lay]
     refine' tk (i:=11) (v:=_) rfl ?_ ?_
     rotate_left
     ·(intro W hW;(try dsimp only at hW);have hW1:=hW.1;have hW2:=hW.2.1;have hW3:=hW.2.2.1;have hW4:=hW.2.2.2;go_simp;first | done | with_reducible rfl)
     try simp only [lay]
     refine' tk (i:=12) (v:=_) rfl ?_ ?_
     rotate_left
     ·(intro W hW;(try dsimp only at hW);have hW1:=hW.1;have hW2:=hW.2.1;have hW3:=hW.2.2.1;have hW4:=hW.2.2.2;go_simp;first | done | with_reducible rfl)
     try simp only [lay]
     refine' tk (i:=13) (v:=_) rfl ?_ ?_
     rotate_left
     ·(intro W hW;(try dsimp only at hW);have hW1:=hW.1;have hW2:=hW.2.1;have hW3:=hW.2.2.1;have hW4:=hW.2.2.2;go_simp;first | done | with_reducible rfl)
     try simp only [lay]
     refine' tk (i:=15) (v:=_) rfl ?_ ?_
     rotate_left
     ·(intro W hW;(try dsimp only at hW);have hW1:=hW.1;have hW2:=hW.2.1;have hW3:=hW.2.2.1;have hW4:=hW.2.2.2;go_simp;first | done | with_reducible rfl)
     try simp only [lay]
     refine' tk (i:=16) (v:=_) rfl ?_ ?_
     rotate_left
     ·(intro W hW;(try dsimp only at hW);have hW1:=hW.1;have hW2:=hW.2.1;have hW3:=hW.2.2.1;have hW4:=hW.2.2.2;go_simp;first | done | with_reducible rfl)
     try simp only [lay]
     refine' tk (i:=17) (v:=_) rfl ?_ ?_
     rotate_left
     ·(intro W hW;(try dsimp only at hW);have hW1:=hW.1;have hW2:=hW.2.1;have hW3:=hW.2.2.1;have hW4:=hW.2.2.2;go_simp;first | done | with_reducible rfl)
     try simp only [lay]
     refine call_on (i:=14) rfl (by kernel_rfl) (by rfl) (fun K hK=>?_)
     go_simp
     refine (HBK.out _ HB8.out).mono ?_
     rintro e w9 ⟨rfl,rfl⟩
     refine hK.out _ _ (HCL.out _ HB8.out) (fun hHeld=>?_)
     clear hK K
     try simp only [lay]
     refine' tk (i:=18) (v:=_) rfl ?_ ?_
     rotate_left
     ·(intro W hW;(try dsimp only at hW);have hW1:=hW.1;have hW2:=hW.2.1;have hW3:=hW.2.2.1;have hW4:=hW.2.2.2;go_simp;first | done | with_reducible rfl)
     try simp only [lay]
     refine tf (i:=19) rfl ?_
     try simp only [lay]
     refine tf (i:=20) rfl ?_
     try simp only [lay]
     refine' tk (i:=21) (v:=_) rfl ?_ ?_
     rotate_left
     ·(intro W hW;(try dsimp only at hW);have hW1:=hW.1;have hW2:=hW.2.1;have hW3:=hW.2.2.1;have hW4:=hW.2.2.2;go_simp;first | done | with_reducible rfl)
     try simp only [lay]
     refine' tk (i:=22) (v:=_) rfl ?_ ?_
     rotate_left
     ·(intro W hW;(try dsimp only at hW);have hW1:=hW.1;have hW2:=hW.2.1;have hW3:=hW.2.2.1;have hW4:=hW.2.2.2;go_simp;first | done | with_reducible rfl)
     try simp only [lay]
     refine' tk (i:=23) (v:=_) rfl ?_ ?_
     rotate_left
     ·(intro W hW;(try dsimp only at hW);have hW1:=hW.1;have hW2:=hW.2.1;have hW3:=hW.2.2.1;have hW4:=hW.2.2.2;go_simp;first | done | with_reducible rfl)
     try simp only [lay]
     refine wpAnyH_done (by kernel_rfl) ?_ _
     clear hHeld
     have HSF:Hid (DsMid w w8 b g (k + 1) p7):=hid (by rw [← HP7.out];exact ⟨_,_,_,_,HS.out.below HB8.out⟩)
     go_wp2_with fail
     go_roundw
     case rel=>exact ⟨k + 1,HLT.out,by rw [HWI.out],_,rfl,HSF⟩
     case measure=>exact aw_meas HLT.out HWI.out
  ·have hI:¬ (k:Int) < (N:Int):=by omega
   obtain ⟨V,X,va,vt,hS⟩:=HREL.out
   have HBL:=hid hS.bel
   clear HREL hS hlt hk
   go_wp2_with fail
   refine (HFIN.out wr HBL.out).mono ?_
   rintro e w2 ⟨rfl,hb2⟩
   go_wp2_with fail
   go_ret
   exact ⟨rfl,hb2⟩
end Go.Proofs.Ytfpgglclpkcdhaa
