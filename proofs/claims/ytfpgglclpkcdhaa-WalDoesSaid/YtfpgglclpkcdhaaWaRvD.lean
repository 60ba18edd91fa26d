/-
  The law's spoil: a byte of a disk that must be is spoilt. Printed with genrs.py.
-/
import Derived.Test.YtfpgglclpkcdhaaDkRvC
import Derived.Test.YtfpgglclpkcdhaaWaSpoil
namespace Go.Proofs.Ytfpgglclpkcdhaa
set_option maxRecDepth 20000
open Go.RowKit
attribute [local go_sem ↓] exec_load_rd exec_alloc_rd exec_store_rd exec_cutH exec_cutL
theorem own_cutl {w:World} {B:Nat} {v:Value} {l:List UInt8} (h:Own B w v l) (i:Nat) (hi:i≤l.length):∃ A' c',(∀ W,cutL v (.int .i64 (i:Int)) W=.ok (.value (.slice A' (l.length - i) c')) W)∧∀ W,Own B W v l→Bys W (.slice A' (l.length - i) c') (l.drop i)∧∀ k,(Value.slice A' (l.length - i) c').ownBlock=some k→v.ownBlock=some k:=by
 obtain ⟨A,c,rfl⟩:=h.byt.shape
 have hob:∀ k,(Value.slice (if c=i then A else A.map (·.add i)) (l.length - i) (c - i)).ownBlock=some k→(Value.slice A l.length c).ownBlock=some k:=fun k e=>by
  rcases A with _ | ad
  ·by_cases hc:c=i
   ·rw [if_pos hc] at e;exact e
   ·rw [if_neg hc] at e;cases e
  ·by_cases hc:c=i
   ·rw [if_pos hc] at e;exact e
   ·rw [if_neg hc] at e
    rcases h.2 with ⟨e2,_⟩ | ⟨g,cap,cur,e2,_⟩
    ·cases e2
    ·injection e2 with e2
     injection e2 with e2
     subst e2
     rw [Option.map_some,addr_add] at e
     exact e
 obtain ⟨A2,c2,h1,h2⟩:∃ A' c',(∀ W,cutL (.slice A l.length c) (.int .i64 (i:Int)) W=.ok (.value (.slice A' (l.length - i) c')) W)∧A'=(if c=i then A else A.map (·.add i))∧c'=c - i:=by
  refine ⟨_,_,fun W=>?_,rfl,rfl⟩
  obtain ⟨i0,hi0,hz0,hz1,hz2⟩:=info_parts info_u8
  unfold cutL execOp
  simp [Instr.sliceAt,Instr.slice,run_underlying under_bytes,Instr.sliceBounds,Instr.sliceBound,asIntOf,sizeOf,typeInfo,hi0,hz1,hi,Sem.run_bind]
 obtain ⟨rfl,rfl⟩:=h2
 refine ⟨_,_,h1,fun W hW=>⟨⟨?_,fun hl k e=>hW.blk (hob k e)⟩,hob⟩⟩
 obtain ⟨_,q1,q2,q3⟩:=hW.byt.at_
 have hs:=sub_length (l:=l) (i:=i) (k:=l.length) (by omega)
 have h4:=q3.sub i l.length c (by omega) (by omega) (by omega)
 have e:(l.drop i).take (l.length - i)=l.drop i:=List.take_of_length_le (by rw [List.length_drop];omega)
 rw [e] at h4 hs
 exact ⟨_,_,by rw [hs],by omega,by omega,h4⟩
set_option maxHeartbeats 3200000 in
theorem refSpoil19_any (D:DkM) (C:Array Value) (a:Option Nat) (k:Int) (x:UInt8) (w:World) (hC:RfC w C D a) (g:D.Good) (ha:∀ k,a=some k→k < w.heap.size):
  Calls Try.prog 16 #[.agg C,.int .i64 k,.int .u8 (x.toNat:Int)] w (RcPost18 a (spoilD D k x) w):=by
 have HC0:=hid hC
 have HG:=hid g
 have HAA:=hid ha
 have HSZ:=hid hC.size
 have HZL:Hid (D.s.length + D.m.length≤1048576):=hid (by have:=g.z;have:=g.r1;omega)
 obtain ⟨v0,v1,v2,hCe,hy0,hy1,hy2⟩:=hC
 obtain ⟨V0,N0,C0,rfl,hN0⟩:∃ A N c,v0=.slice A N c∧N=D.s.length:=by
  obtain ⟨A,c,e⟩:=hy0.y.shape
  exact ⟨_,_,_,e,rfl⟩
 have HN0:=hid hN0
 have HCE:=hid hCe
 have HBX:Hid (∀ (W:World) (g:Nat),W.heap[g]?=some (.cells C 35 (0,0))→W.cell? ⟨g,0,none⟩=some (.slice V0 N0 C0)∧W.cell? ⟨g,5,none⟩=some (.bool D.dead)):=hid (fun W g h=>by
  simp only [coBlk_cell h,hCe]
  exact ⟨rfl,rfl⟩)
 have HY2:Hid (∀ W,Below w.heap.size w W→Byo W a v2 D.h):=hid (fun W hb=>hy2.below hb)
 obtain ⟨DD,HDD⟩:∃ q:DkM,Hid (spoilD D k x=q):=⟨_,hid rfl⟩
 rw [HDD.out]
 unfold RcPost18
 have hal:=allocRd_two w C
 have HS0:=hid (rd_begin w C)
 clear hCe hy0 hy1 hy2 g ha hN0
 go_enter Try.func16,Try.ntmps16
 go_upto_region 1 with (fail)
 clear hal
 generalize ((w.alloc (.cells C 35)).alloc (.cells rdZ 35))=wz at *
 obtain ⟨k0,k5⟩:=HBX.out wz _ HS0.out.r0
 have hld:=HS0.out.ld HSZ.out
 have HALL:=hid (refAll18_any D C a wz (HC0.out.below HS0.out.b) (by have:=HZL.out;omega))
 obtain ⟨l,HL⟩:∃ q:List UInt8,Hid (D.s ++ D.m=q):=⟨_,hid rfl⟩
 rw [HL.out] at HALL
 go_wp2_with fail
 refine HALL.out.mono ?_
 rintro e w1 ⟨v,rfl,ho1,hb1⟩
 have HS1:=hid (HS0.out.below hb1)
 have HO1:=hid ho1
 obtain ⟨VA,VC,rfl⟩:=ho1.byt.shape
 obtain ⟨L,HLN⟩:∃ q:Nat,Hid (l.length=q):=⟨_,hid rfl⟩
 have HLL:Hid (L=D.s.length + D.m.length):=hid (by rw [← HLN.out,← HL.out,List.length_append])
 rw [HLN.out] at HO1 ⊢
 clear hld k0 k5 ho1 hb1 HALL
 obtain ⟨k0,k5⟩:=HBX.out w1 _ HS1.out.r0
 by_cases hout:D.dead=true∨¬ (0≤k∧k < (L:Int))
 ·have HDE:Hid (DD=D):=hid (by rw [← HDD.out];exact spoilD_out (k:=k) (x:=x) (hout.imp id (fun h=>by rw [HL.out,HLN.out];exact h)))
  have HC1:Hid (RfC w1 C DD a):=hid (by rw [HDE.out];exact HC0.out.below HS1.out.b)
  cases hd:D.dead with
  | true=>
   rw [hd] at k5
   clear hout hd
   obtain ⟨hst,hrw,hrf,hbl⟩:=HS1.out.fin HC1.out
   have HRW:=hid hrw
   have HRF:=hid hrf
   have HBL:=hid hbl
   have hld:=HS1.out.ld HSZ.out
   clear hrw hrf hbl
   go_wp2_with fail
   try simp only [Exit.inBlock,Exit.then]
   refine bodyPost_ret (results_rd1 rfl _ _ _ _ _ rfl HRW.out HRF.out.size) rfl ⟨_,rfl,HRF.out,HBL.out⟩
  | false=>
   rw [hd] at k5
   have hk:¬ (0≤k∧k < (L:Int)):=hout.resolve_left (by rw [hd];simp)
   by_cases kn:k < 0
   ·clear hout hd hk
    obtain ⟨hst,hrw,hrf,hbl⟩:=HS1.out.fin HC1.out
    have HRW:=hid hrw
    have HRF:=hid hrf
    have HBL:=hid hbl
    have hld:=HS1.out.ld HSZ.out
    clear hrw hrf hbl
    go_wp2_with fail
    try simp only [Exit.inBlock,Exit.then]
    refine bodyPost_ret (results_rd1 rfl _ _ _ _ _ rfl HRW.out HRF.out.size) rfl ⟨_,rfl,HRF.out,HBL.out⟩
   ·have kl:(L:Int)≤k:=by omega
    clear hout hd hk
    obtain ⟨hst,hrw,hrf,hbl⟩:=HS1.out.fin HC1.out
    have HRW:=hid hrw
    have HRF:=hid hrf
    have HBL:=hid hbl
    have hld:=HS1.out.ld HSZ.out
    clear hrw hrf hbl
    go_wp2_with fail
    try simp only [Exit.inBlock,Exit.then]
    refine bodyPost_ret (results_rd1 rfl _ _ _ _ _ rfl HRW.out HRF.out.size) rfl ⟨_,rfl,HRF.out,HBL.out⟩
 ·have hd:D.dead=false:=by
   cases e:D.dead with
   | true=>exact absurd (.inl e) hout
   | false=>rfl
  have hk:0≤k∧k < (L:Int):=by
   by_cases h:0≤k∧k < (L:Int)
   ·exact h
   ·exact absurd (.inr h) hout
  rw [hd] at k5
  have HDF:=hid hd
  obtain ⟨n,rfl⟩:∃ n:Nat,k=(n:Int):=⟨k.toNat,by omega⟩
  have hn:n < l.length:=by rw [HLN.out];omega
  have hsp:spoilL l (n:Int) x=l.set n (l[n] ^^^ x):=by
   unfold spoilL
   rw [if_pos ⟨by omega,by rw [HLN.out];exact hk.2⟩,Int.toNat_natCast,List.getElem?_eq_getElem hn,Option.getD_some]
  have ho:=HO1.out
  rcases ho.2 with ⟨e,h0⟩ | ⟨q,cap,cur,e,hg,hq,hnc,hmc,hsz,htk⟩
  ·omega
  injection e with e1 e2 e3
  subst e1 e3
  clear e2
  have hcell:w1.cell? ⟨q,0 + n,none⟩=some (bcell l[n]):=by
   have ho':Own wz.heap.size w1 (.slice (some ⟨q,0,none⟩) l.length VC) l:=by rw [HLN.out];exact ho
   rw [Nat.zero_add,World.ownsRow.cellAt ho' n (by omega)]
   simp [bcells,hn]
  have hfr:w1.frozen? ⟨q,0 + n,none⟩=false:=coBlk_free hq _
  obtain ⟨y,HY0,HY⟩:∃ y:Int,(0≤y∧y≤255)∧Hid ((l[n].toNat:Int)=y):=⟨_,byte_lt _,hid rfl⟩
  obtain ⟨z,HZ0,HZ⟩:∃ y:Int,(0≤y∧y≤255)∧Hid ((x.toNat:Int)=y):=⟨_,byte_lt _,hid rfl⟩
  obtain ⟨r,HR⟩:∃ y:Int,Hid (((l[n] ^^^ x).toNat:Int)=y):=⟨_,hid rfl⟩
  have hxr:=xor_byte l[n] x HY.out HZ.out HR.out
  unfold bcell at hcell
  rw [HY.out] at hcell
  rw [HZ.out]
  have HQB:Hid (w.heap.size + 2≤q):=hid (Nat.le_trans HS0.out.lt hg)
  have HO2:Hid (Own wz.heap.size (w1.setCell ⟨q,0 + n,none⟩ (.int .u8 r)) (.slice (some ⟨q,0,none⟩) L VC) (spoilL l (n:Int) x)):=hid (by
   rw [hsp,Nat.zero_add,← HR.out]
   exact own_set ho HLN.out.symm (l[n] ^^^ x))
  have HS2:=hid (HS1.out.set (i:=0 + n) (u:=.int .u8 r) HQB.out)
  have HDS:Hid (DD.s=(spoilL l (n:Int) x).take N0∧DD.m=(spoilL l (n:Int) x).drop N0∧DD.h=D.h∧DD.room=D.room∧DD.left=D.left∧DD.dead=D.dead):=hid (by
   rw [← HDD.out,HN0.out]
   unfold spoilD
   rw [if_neg (by rw [hd];simp),HL.out]
   exact ⟨rfl,rfl,rfl,rfl,rfl,rfl⟩)
  have HSPL:Hid ((spoilL l (n:Int) x).length=L):=hid (by rw [spoilL_length];exact HLN.out)
  have hNL:N0≤L:=by have:=HLL.out;have:=HN0.out;omega
  obtain ⟨o,HO⟩:∃ o:Nat,Hid (0=o):=⟨_,hid rfl⟩
  have hnL:(n:Int) < (L:Int):=hk.2
  have hnL2:n < L:=by omega
  rw [show (0:Nat) + n=o + n from by rw [HO.out]] at hcell hfr HO2 HS2
  obtain ⟨SV,HSV⟩:∃ o2:Option Addr,Hid (some ⟨q,0,none⟩=o2):=⟨_,hid rfl⟩
  have hsv2:SV=some ⟨q,o,none⟩:=by rw [← HSV.out,HO.out]
  rw [HSV.out] at HO2 ⊢
  rw [hsv2] at HO2 ⊢
  have hcap:L≤VC:=by rw [← HLN.out];exact hnc
  clear hsv2 HSV ho hq hg hmc hsz htk hsp hout hd hk hn hnc HY HZ HR HO1
  go_upto_region 6 with (fail)
  clear hcell hfr hxr k0 k5
  generalize (w1.setCell ⟨q,o + n,none⟩ (.int .u8 r))=w2 at *
  obtain ⟨sl,HSL⟩:∃ q:List UInt8,Hid (spoilL l (n:Int) x=q):=⟨_,hid rfl⟩
  rw [HSL.out] at HO2 HDS HSPL
  obtain ⟨u0,hc0,hob0,hown0⟩:=own_cut HO2.out N0 (by rw [HSPL.out];exact hNL)
  obtain ⟨A1,c1,hc1,hown1⟩:=own_cutl HO2.out N0 (by rw [HSPL.out];exact hNL)
  rw [HSPL.out] at hc1 hown1
  obtain ⟨U0,UN,UC,rfl⟩:∃ A N c,u0=.slice A N c:=by
   obtain ⟨A,c,e⟩:=(hown0 w2 HO2.out).byt.shape
   exact ⟨_,_,_,e⟩
  obtain ⟨L1,HL1⟩:∃ q:Nat,Hid (L - N0=q):=⟨_,hid rfl⟩
  rw [HL1.out] at hc1 hown1
  have HU:Hid (∀ W,Below w2.heap.size w2 W→Byo W a (.slice U0 UN UC) DD.s∧Byo W a (.slice A1 L1 c1) DD.m):=hid (fun W hb=>by
   have h0:=(hown0 w2 HO2.out).bys
   obtain ⟨h1,h2⟩:=hown1 w2 HO2.out
   have hq:∀ (v:Value) (l:List UInt8),(∀ k,v.ownBlock=some k→(Value.slice (some ⟨q,o,none⟩) L VC).ownBlock=some k)→(∀ e:v.ownBlock=a,l=[]∨False)→Off a v l:=fun v l _ h=>by
    by_cases e:v.ownBlock=a
    ·exact .inl ((h e).resolve_right id)
    ·exact .inr e
   have hoff:∀ (v:Value) (l:List UInt8),Bys w2 v l→(∀ k,v.ownBlock=some k→(Value.slice (some ⟨q,o,none⟩) L VC).ownBlock=some k)→Off a v l:=fun v l hb hv=>by
    by_cases hl:l=[]
    ·exact .inl hl
    ·refine .inr fun e=>?_
     obtain ⟨_,_,rfl,_,_,h3⟩:=hb.byt
     obtain ⟨b,off,rfl,_,_⟩:=h3 (List.length_pos_iff.2 hl)
     have hb2:=hv b rfl
     have hlt:=HAA.out b (e.symm.trans rfl)
     have:=HQB.out
     injection hb2 with hb2
     simp only at hb2
     omega
   rw [HDS.out.1,HDS.out.2.1]
   exact ⟨⟨h0.below hb,hoff _ _ h0 (fun k e=>by rw [← hob0];exact e)⟩,⟨h1.below hb,hoff _ _ h1 h2⟩⟩)
  have hbox:BoxRd w2 w.heap.size D (.slice V0 N0 C0) v1 v2:=by
   have:=HS2.out.r0
   rw [HCE.out] at this
   exact this
  have f0:=hbox.free 0
  have f1:=hbox.free 1
  have hbox1:BoxRd (w2.setCell ⟨w.heap.size,0,none⟩ (.slice U0 UN UC)) w.heap.size D (.slice U0 UN UC) v1 v2:=hbox.set rfl
  have g1:=hbox1.free 1
  obtain ⟨d0,d1,_⟩:=hbox.cells
  obtain ⟨_,e1,_⟩:=hbox1.cells
  have hCN:(rdc D (.slice U0 UN UC) v1 v2).setIfInBounds 1 (.slice A1 L1 c1)=rdc DD (.slice U0 UN UC) (.slice A1 L1 c1) v2:=by
   unfold rdc
   rw [HDS.out.2.2.2.1,HDS.out.2.2.2.2.1,HDS.out.2.2.2.2.2]
   rfl
  have hbox2:BoxRd ((w2.setCell ⟨w.heap.size,0,none⟩ (.slice U0 UN UC)).setCell ⟨w.heap.size,1,none⟩ (.slice A1 L1 c1)) w.heap.size DD (.slice U0 UN UC) (.slice A1 L1 c1) v2:=hbox1.set hCN
  have HS3:Hid (RdS w (((w2.setCell ⟨w.heap.size,0,none⟩ (.slice U0 UN UC)).setCell ⟨w.heap.size,1,none⟩ (.slice A1 L1 c1)).drew) (rdc DD (.slice U0 UN UC) (.slice A1 L1 c1) v2)):=hid ⟨hbox2,(Below.heap_setCell _ _ _ _ (by show w.heap.size + 1≠w.heap.size;omega)).trans ((Below.heap_setCell _ _ _ _ (by show w.heap.size + 1≠w.heap.size;omega)).trans HS2.out.r1),((HS2.out.b.setCell (Nat.le_refl _) _).setCell (Nat.le_refl _) _).drew⟩
  have HRF3:Hid (RfC (((w2.setCell ⟨w.heap.size,0,none⟩ (.slice U0 UN UC)).setCell ⟨w.heap.size,1,none⟩ (.slice A1 L1 c1)).drew) (rdc DD (.slice U0 UN UC) (.slice A1 L1 c1) v2) DD a):=hid (by
   have hr:RfC w2 (rdc DD (.slice U0 UN UC) (.slice A1 L1 c1) v2) DD a:=⟨_,_,_,rfl,(HU.out w2 (Below.refl _ _)).1,(HU.out w2 (Below.refl _ _)).2,by rw [HDS.out.2.2.1];exact HY2.out w2 HS2.out.b⟩
   have hne:∀ (k:Nat) (R:Array Value),w2.heap[k]?=some (.cells R 5 (0,0))→k≠w.heap.size:=fun k R h=>blk_ne h HS2.out.r0 (by decide)
   exact hr.away (by simp [World.setCell]) (fun k R hk=>(Below.heap_setCell _ ⟨w.heap.size,1,none⟩ _ k (hne k R hk)).trans (Below.heap_setCell _ ⟨w.heap.size,0,none⟩ _ k (hne k R hk))))
  clear hown0 hown1 hbox hbox1 hbox2
  refine wp_region_held_drew (S:=fun _=>True) (by kernel_rfl) trivial (fun hHeld=>?_)
  refine' tkq 0 rfl ?_;try simp only [lay]
  refine' tkq 1 rfl ?_;try simp only [lay]
  refine' tkq 2 rfl ?_;try simp only [lay]
  refine' tkq 3 rfl ?_;try simp only [lay]
  refine' tkq 4 rfl ?_;try simp only [lay]
  refine' tkq 5 rfl ?_;try simp only [lay]
  refine' tkq 6 rfl ?_;try simp only [lay]
  refine call_on (i:=7) rfl (by kernel_rfl) (by rfl) (fun K hK=>?_)
  go_simp
  refine hK.out _ _ (trivial) (fun hHeld=>?_)
  clear hK K
  try simp only [lay]
  refine' tkq 8 rfl ?_;try simp only [lay]
  refine call_on (i:=9) rfl (by kernel_rfl) (by rfl) (fun K hK=>?_)
  go_simp
  refine hK.out _ _ (trivial) (fun hHeld=>?_)
  clear hK K
  try simp only [lay]
  refine wpAnyH_done (by kernel_rfl) ?_ _
  clear hHeld
  clear hc0 hc1 f0 f1 g1 d0 d1 e1
  generalize (((w2.setCell ⟨w.heap.size,0,none⟩ (.slice U0 UN UC)).setCell ⟨w.heap.size,1,none⟩ (.slice A1 L1 c1)).drew)=w3 at *
  obtain ⟨CN,HCN⟩:∃ q:Array Value,Hid (rdc DD (.slice U0 UN UC) (.slice A1 L1 c1) v2=q):=⟨_,hid rfl⟩
  rw [HCN.out] at HS3 HRF3
  have HSZ3:=hid HRF3.out.size
  obtain ⟨hst,hrw,hrf,hbl⟩:=HS3.out.fin HRF3.out
  have HRW:=hid hrw
  have HRF:=hid hrf
  have HBL:=hid hbl
  have hld:=HS3.out.ld HSZ3.out
  clear hrw hrf hbl
  go_wp2_with fail
  try simp only [Exit.inBlock,Exit.then]
  refine bodyPost_ret (results_rd1 rfl _ _ _ _ _ rfl HRW.out HRF.out.size) rfl ⟨_,rfl,HRF.out,HBL.out⟩
end Go.Proofs.Ytfpgglclpkcdhaa
