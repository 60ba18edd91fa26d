/-
  The document's Put. Printed with genrp.py.
-/
import Derived.Test.YtfpgglclpkcdhaaDkRvB
import Derived.Test.YtfpgglclpkcdhaaWaCodeC
import Derived.Test.YtfpgglclpkcdhaaWaRvW
import Derived.Test.YtfpgglclpkcdhaaWaTexts
namespace Go.Proofs.Ytfpgglclpkcdhaa
set_option maxRecDepth 20000
open Go.RowKit
attribute [local go_sem ↓] exec_load_rd exec_alloc_rd exec_store_rd exec_load_rw exec_alloc_rw exec_store_rw
structure PuS (w W:World) (X:Array Value):Prop where
 r0:W.heap[w.heap.size]?=some (.cells X 37 (0,0))
 r1:W.heap[w.heap.size + 1]?=some (.cells rwZ 37 (0,0))
 b:Below w.heap.size w W
theorem pu_begin (w:World) (X:Array Value):PuS w ((w.alloc (.cells X 37)).alloc (.cells rwZ 37)) X:=by
 have hsz:(w.alloc (.cells X 37)).heap.size=w.heap.size + 1:=by simp
 have h1:=heap_alloc_new (w.alloc (.cells X 37)) (.cells rwZ 37)
 rw [hsz] at h1
 have hb:Below w.heap.size w (w.alloc (.cells X 37)):=(Below.refl _ _).alloc (Nat.le_refl _) _
 exact ⟨by rw [heapA_old _ _ (by rw [hsz];omega)];exact heap_alloc_new w _,h1,hb.alloc hb.size _⟩
theorem allocRw_box (w:World) (X:Array Value):allocRw (w.alloc (.cells X 37))=.ok (.value (.pointer (some ⟨w.heap.size + 1,0,none⟩))) ((w.alloc (.cells X 37)).alloc (.cells rwZ 37)):=by
 rw [allocRw_eq,show (w.alloc (.cells X 37)).heap.size=w.heap.size + 1 by simp]
section
variable {w W W':World} {X:Array Value}
theorem PuS.below (h:PuS w W X) (hb:Below W.heap.size W W'):PuS w W' X:=⟨(hb.block _ (lt_of_block h.r0)).trans h.r0,(hb.block _ (lt_of_block h.r1)).trans h.r1,h.b.trans (hb.mono h.b.size)⟩
theorem PuS.aside (h:PuS w W X) {g:Nat} {Z:Array Value} {T:TypeId} (hg:W.heap[g]?=some (.cells Z T (0,0))) (hT:T≠37) (hB:w.heap.size≤g) (Y:Array Value):PuS w (setSe W g Y) X:=
 ⟨(setSe_other W _ (blk_ne hg h.r0 hT).symm).trans h.r0,(setSe_other W _ (blk_ne hg h.r1 hT).symm).trans h.r1,setSe_below h.b hB⟩
theorem PuS.disk (h:PuS w W X) {C S:Array Value} {n:Nat} {br is:Bool} (hX:X=rwc C n br is) (hC:C.size=6) (hS:S.size=6):PuS w (setRw W w.heap.size S) (rwc S n br is):=by
 subst hX
 exact ⟨setRw_row h.r0 hC hS,(setRw_other W _ (by omega)).trans h.r1,setRw_below h.b (Nat.le_refl _) h.b.size⟩
theorem PuS.many (h:PuS w W X) {C:Array Value} {n:Nat} {br is:Bool} (hX:X=rwc C n br is) (hC:C.size=6) (m:Nat):PuS w (W.setCell ⟨w.heap.size,6,none⟩ (.int .i64 (m:Int))) (rwc C m br is):=by
 subst hX
 exact ⟨rw_many h.r0 hC m,(Below.heap_setCell _ _ _ _ (by show w.heap.size + 1≠w.heap.size;omega)).trans h.r1,h.b.setCell (Nat.le_refl _) _⟩
theorem PuS.brk (h:PuS w W X) {C:Array Value} {n:Nat} {br is:Bool} (hX:X=rwc C n br is) (hC:C.size=6) (x:Bool):PuS w (W.setCell ⟨w.heap.size,7,none⟩ (.bool x)) (rwc C n x is):=by
 subst hX
 exact ⟨rw_brk h.r0 hC x,(Below.heap_setCell _ _ _ _ (by show w.heap.size + 1≠w.heap.size;omega)).trans h.r1,h.b.setCell (Nat.le_refl _) _⟩
theorem PuS.rfw (h:PuS w W X) {C2 S:Array Value} {D:DkM} {a:Option Nat} (hC:RfC W C2 D a):RfC (setRw W w.heap.size S) C2 D a:=hC.away (Nat.le_of_eq (setRw_size W _ S).symm) (fun k R hk=>setRw_other W _ (blk_ne hk h.r0 (by decide)))
theorem PuS.rfc (h:PuS w W X) {C2:Array Value} {D:DkM} {a:Option Nat} (hC:RfC W C2 D a) (i:Nat) (u:Value):RfC (W.setCell ⟨w.heap.size,i,none⟩ u) C2 D a:=hC.away (by simp [World.setCell]) (fun k R hk=>Below.heap_setCell _ _ _ _ (blk_ne hk h.r0 (by decide)))
theorem PuS.fin (h:PuS w W X) {V:WaM} {a:Option Nat} (hX:RwC W X V a):loadRw (.pointer (some ⟨w.heap.size,0,none⟩)) W=.ok (.value (.agg X)) W∧storeRw (.pointer (some ⟨w.heap.size + 1,0,none⟩)) (.agg X) W=.ok .skip (setSe W (w.heap.size + 1) X)∧(setSe W (w.heap.size + 1) X).heap[w.heap.size + 1]?=some (.cells X 37 (0,0))∧RwC (setSe W (w.heap.size + 1) X) X V a∧Below w.heap.size w (setSe W (w.heap.size + 1) X)∧X.size=9:=
 ⟨loadRw_row h.r0 hX.size,storeRw_eq h.r1 rfl hX.size hX.one,setSe_same h.r1,hX.away (setSe_below (C:=X) (Below.refl 0 W) (Nat.zero_le _)).size (fun k R hk=>setSe_other W _ (blk_ne hk h.r1 (by decide))),setSe_below h.b (Nat.le_succ _),hX.size⟩
end
set_option maxHeartbeats 1600000 in
theorem refPut19_any (V:WaM) (X:Array Value) (a:Option Nat) (v:Value) (L:List BtM) (w:World) (hX:RwC w X V a) (g:V.d.Good) (ha:∀ k,a=some k→k < w.heap.size) (hm:V.many≤1000000000) (hv:Els btl 1 w v L) (hb:Bts w L) (hl:LitB L):
  Calls Try.prog 12 #[.agg X,v] w fun e w'=>∃ X',e=.returned (.tuple #[.agg X',.int .i64 (putE V (bls L))])∧RwC w' X' (putW V (bls L)) a∧Below w.heap.size w w':=by
 obtain ⟨P,HP⟩:∃ P:Int→Array Value→World→Prop,Hid ((fun E X' w'=>E=putE V (bls L)∧RwC w' X' (putW V (bls L)) a∧Below w.heap.size w w')=P):=⟨_,hid rfl⟩
 have hgoal:Calls Try.prog 12 #[.agg X,v] w (fun e w'=>∃ X' E,e=.returned (.tuple #[.agg X',.int .i64 E])∧P E X' w')→Calls Try.prog 12 #[.agg X,v] w (fun e w'=>∃ X',e=.returned (.tuple #[.agg X',.int .i64 (putE V (bls L))])∧RwC w' X' (putW V (bls L)) a∧Below w.heap.size w w'):=fun C=>C.mono fun e w' ⟨X',E,h1,h2⟩=>by
  rw [← HP.out] at h2
  obtain ⟨rfl,h2⟩:=h2
  exact ⟨X',h1,h2⟩
 refine hgoal ?_
 clear hgoal
 have HPP:Hid (∀ W X' E V',putE V (bls L)=E→putW V (bls L)=V'→RwC W X' V' a→Below w.heap.size w W→P E X' W):=hid (fun W X' E V' h1 h2 h3 h4=>by
  rw [← HP.out]
  exact ⟨h1.symm,by rw [h2];exact h3,h4⟩)
 obtain ⟨C,hXC,hC⟩:=hX
 have HX0:Hid (∀ W,Below w.heap.size w W→RwC W X V a):=hid (fun W hb=>⟨C,hXC,hC.below hb⟩)
 have HC0:=hid hC
 have HXC:=hid hXC
 have HG:=hid g
 have HAA:=hid ha
 have HMM:=hid hm
 have HSZ:=hid hC.size
 obtain ⟨A,d,rfl⟩:=hv.shape
 obtain ⟨N,HN⟩:∃ q:Nat,Hid (L.length=q):=⟨_,hid rfl⟩
 have HCEL:=hid (fun k (hk:k < L.length)=>els_cell hv hk)
 have HBT:Hid (∀ k (h:k < L.length),∀ W,Below w.heap.size w W→Byt W L[k].v L[k].l):=hid (fun k hk W hW=>(hb _ (List.getElem_mem hk)).below hW)
 have HLN:Hid (∀ k (h:k < L.length),L[k].l.length≤500):=hid (fun k hk=>hl.2 _ (List.getElem_mem hk))
 have HFL:Hid (∀ k,(flatR (bls (L.take k))).length≤508 * (L.take k).length):=hid (fun k=>flatR_le _ (fun t ht=>hl.2 t (List.mem_of_mem_take ht)))
 have HN1:Hid (N≤1000):=hid (by rw [← HN.out];exact hl.1)
 have HM:Hid (∀ k (h:k < L.length),MayR (bls L)→1≤L[k].l.length):=hid (fun k hk hm=>(hm _ (List.mem_map.2 ⟨_,List.getElem_mem hk,rfl⟩)).1)
 rw [HN.out]
 have hal:=allocRw_box w X
 have HS0:=hid (pu_begin w X)
 clear hXC hC g ha hm hv hb hl HP
 go_enter Try.func12,Try.ntmps12
 go_upto_region 1 with (fail)
 clear hal
 generalize ((w.alloc (.cells X 37)).alloc (.cells rwZ 37))=wz at *
 have hce:=HS0.out.r0
 rw [HXC.out] at hce
 obtain ⟨_,c7,c8⟩:=rw_cells hce HSZ.out
 clear hce
 cases his:V.is_ with
 | false=>
  rw [his] at c8
  have HE:Hid (putE V (bls L)=5∧putW V (bls L)=V):=hid (by unfold putE putW;rw [if_pos (.inl his),if_pos (.inl his)];exact ⟨rfl,rfl⟩)
  clear his
  obtain ⟨hld,hst,hrw,hrf,hbl,hsz⟩:=HS0.out.fin (HX0.out wz HS0.out.b)
  have HRWX:=hid hrw
  have HSX:=hid hsz
  have HPX:=hid (HPP.out _ _ 5 _ HE.out.1 HE.out.2 hrf hbl)
  clear hrw hrf hbl hsz
  go_wp2_with fail
  try simp only [Exit.inBlock,Exit.then]
  refine bodyPost_ret (results_rw2 rfl _ _ _ _ _ _ rfl rfl HRWX.out HSX.out) rfl ⟨X,_,rfl,HPX.out⟩
 | true=>
 rw [his] at c8
 cases hbr:V.broken with
 | true=>
  rw [hbr] at c7
  have HE:Hid (putE V (bls L)=5∧putW V (bls L)=V):=hid (by unfold putE putW;rw [if_pos (.inr hbr),if_pos (.inr hbr)];exact ⟨rfl,rfl⟩)
  clear hbr his
  obtain ⟨hld,hst,hrw,hrf,hbl,hsz⟩:=HS0.out.fin (HX0.out wz HS0.out.b)
  have HRWX:=hid hrw
  have HSX:=hid hsz
  have HPX:=hid (HPP.out _ _ 5 _ HE.out.1 HE.out.2 hrf hbl)
  clear hrw hrf hbl hsz
  go_wp2_with fail
  try simp only [Exit.inBlock,Exit.then]
  refine bodyPost_ret (results_rw2 rfl _ _ _ _ _ _ rfl rfl HRWX.out HSX.out) rfl ⟨X,_,rfl,HPX.out⟩
 | false=>
 rw [hbr] at c7
 have HNO:Hid (¬ (V.is_=false∨V.broken=true)):=hid (by rw [his,hbr];simp)
 have HXC2:Hid (X=rwc C V.many false true):=hid (by rw [← his,← hbr];exact HXC.out)
 clear his hbr
 go_upto_region 4 with (fail)
 clear c7 c8
 have hba:Below wz.heap.size wz (wz.alloc (.cells #[] 5)):=(Below.refl _ _).alloc (Nat.le_refl _) _
 have HO1:Hid (Own w.heap.size (wz.alloc (.cells #[] 5)) (.slice (some ⟨wz.heap.size,0,none⟩) 0 0) []):=hid ((fresh_own wz).more HS0.out.b.size)
 have HS1:=hid (HS0.out.below hba)
 clear hba
 generalize (wz.alloc (.cells #[] 5))=w1 at *
 generalize Value.slice (some ⟨wz.heap.size,0,none⟩) 0 0=sv at *
 go_wp2_with fail
 go_loopw [6,7] (fun s6 s7 wr=>∃ k:Nat,k≤N∧s7=.int .i64 (k:Int)∧Hid (MayR (bls (L.take k)))∧Own w.heap.size wr s6 (flatR (bls (L.take k)))∧Hid (PuS w wr X)) (fun _ s7 _=>N - (intOf s7).toNat)
 case atStart=>exact ⟨0,Nat.zero_le _,rfl,hid (fun r h=>by simp [bls] at h),HO1.out,HS1⟩
 case round=>
  obtain ⟨k,hk,rfl,HMR,ho,HS⟩:=hrel
  have HB:=hid HS.out.b
  obtain ⟨SA,SC,rfl⟩:=ho.byt.shape
  obtain ⟨F,HF⟩:∃ q:List UInt8,Hid (flatR (bls (L.take k))=q):=⟨_,hid rfl⟩
  have hfl:=HFL.out k
  rw [HF.out] at ho hfl ⊢
  obtain ⟨FN,HFN⟩:∃ q:Nat,Hid (F.length=q):=⟨_,hid rfl⟩
  rw [HFN.out] at ho hfl ⊢
  have HO:=hid ho
  have HFB:Hid (FN≤508000):=hid (by rw [List.length_take] at hfl;have:=HN1.out;omega)
  clear ho hfl
  by_cases hlt:k < N
  ·have hI:(k:Int) < (N:Int):=by omega
   have hkL:k < L.length:=by rw [HN.out];exact hlt
   obtain ⟨b,off,rfl,hc⟩:=HCEL.out k hkL
   have c1:=hc wr HB.out
   have HTN:=hid (bls_take hkL)
   have HBY:=hid (HBT.out k hkL)
   have HL1:=hid (HLN.out k hkL)
   have HMK:=hid (HM.out k hkL)
   have HLT:=hid hlt
   have HSZ2:=hid HB.out.size
   have HWI:Hid (wrap64 ((k:Int) + 1)=((k + 1:Nat):Int)):=hid (by have:=HN1.out;unfold wrap64;omega)
   generalize L[k]=t at *
   obtain ⟨T,HT⟩:∃ q:List UInt8,Hid (t.l=q):=⟨_,hid rfl⟩
   obtain ⟨TA,TC,HTV⟩:∃ A c,Hid (t.v=.slice A t.l.length c):=⟨_,_,hid rfl⟩
   obtain ⟨TN,HTL⟩:∃ q:Nat,Hid (T.length=q):=⟨_,hid rfl⟩
   rw [HTV.out,HT.out] at c1 HBY
   rw [HT.out] at HTN HL1 HMK
   rw [HTL.out] at c1 HBY HL1 HMK
   clear hc hkL hlt hk
   by_cases h0:TN < 1
   ·have h0i:(TN:Int) < 1:=by omega
    have HNM:Hid (¬ MayR (bls L)):=hid (fun hm=>by have:=HMK.out hm;omega)
    have HE:Hid (putE V (bls L)=1∧putW V (bls L)=V):=hid (by unfold putE putW;rw [if_neg HNO.out,if_neg HNO.out,if_pos HNM.out,if_pos HNM.out];exact ⟨rfl,rfl⟩)
    clear h0
    obtain ⟨hld,hst,hrw,hrf,hbl,hsz⟩:=HS.out.fin (HX0.out wr HS.out.b)
    have HRWX:=hid hrw
    have HSX:=hid hsz
    have HPX:=hid (HPP.out _ _ 1 _ HE.out.1 HE.out.2 hrf hbl)
    clear hrw hrf hbl hsz
    go_wp2_with fail
    try simp only [Exit.inBlock,Exit.then]
    refine bodyPost_ret (results_rw2 rfl _ _ _ _ _ _ rfl rfl HRWX.out HSX.out) rfl ⟨X,_,rfl,HPX.out⟩
   ·have h0i:¬ (TN:Int) < 1:=by omega
    have h6i:¬ (65536:Int) < (TN:Int):=by have:=HL1.out;omega
    have HCR:=hid (refRecord_any (.slice TA TN TC) T wr (HBY.out wr HB.out) (by rw [HTL.out];have:=HL1.out;omega))
    have HMN:Hid (MayR (bls (L.take (k + 1)))):=hid (by rw [HTN.out];exact mayR_snoc HMR.out (by rw [HTL.out];omega) (by rw [HTL.out];have:=HL1.out;omega))
    have HRL:Hid ((recS T).length≤508):=hid (by rw [recS_length,HTL.out];have:=HL1.out;omega)
    have HFR:Hid (flatR (bls (L.take (k + 1)))=F ++ recS T):=hid (by rw [HTN.out,flatR_snoc,HF.out])
    clear h0
    go_wp2_with fail
    refine HCR.out.mono ?_
    rintro e w2 ⟨x,rfl,ho,hb⟩
    obtain ⟨XA,XC,rfl⟩:=ho.byt.shape
    obtain ⟨XN,HXN⟩:∃ q:Nat,Hid ((recS T).length=q):=⟨_,hid rfl⟩
    rw [HXN.out] at ho ⊢
    have HOX:=hid ho.byt
    have HO2:=hid (HO.out.below hb)
    have HS2:=hid (HS.out.below hb)
    have HLS:Hid (F.length + (recS T).length≤140737488355328):=hid (by rw [HFN.out];have:=HRL.out;have:=HFB.out;omega)
    clear ho hb c1
    go_wp2_with (at_builtin;go_loud (refine wpList_append_byt rfl (.tmp 40) (.tmp 45) rfl rfl rfl HO2.out HOX.out HLS.out HS2.out.b.size ?_;intro v3 w3 ho3 hg3 _;have HO3:=hid ho3;have HS3:Hid (PuS w w3 X):=hid (by
     have hu:∀ (k:Nat) (R:Array Value),w2.heap[k]?=some (.cells R 37 (0,0))→w3.heap[k]?=some (.cells R 37 (0,0)):=fun k R hR=>(hg3.block k (lt_of_block hR) (fun e=>by obtain ⟨Y,hY⟩:=HO2.out.blk e.symm;exact blk_ne hR hY (by decide) rfl)).trans hR
     exact ⟨hu _ _ HS2.out.r0,hu _ _ HS2.out.r1,HS2.out.b.grown hg3 HS2.out.b.size (fun j hj=>(World.ownsRow.lt HO2.out j hj).1)⟩);clear ho3 hg3))
    go_roundw
    case rel=>exact ⟨k + 1,HLT.out,by rw [HWI.out],HMN,by rw [HFR.out];exact HO3.out,HS3⟩
    case measure=>exact aw_meas HLT.out HWI.out
  ·have hI:¬ (k:Int) < (N:Int):=by omega
   obtain rfl:k=N:=by omega
   have e:L.take k=L:=List.take_of_length_le (by rw [HN.out];exact Nat.le_refl _)
   rw [e] at HMR HF
   have HNM:Hid (¬ ¬ MayR (bls L)):=hid (fun h=>h HMR.out)
   clear hlt hk e
   by_cases h0:k=0
   ·have HL0:Hid (bls L=[]):=hid (by rw [List.eq_nil_of_length_eq_zero (HN.out.trans h0)];rfl)
    subst h0
    have HE:Hid (putE V (bls L)=0∧putW V (bls L)=V):=hid (by
     unfold putE putW
     rw [if_neg HNO.out,if_neg HNO.out,if_neg HNM.out,if_neg HNM.out,if_pos HL0.out,if_pos HL0.out]
     exact ⟨rfl,rfl⟩)
    obtain ⟨hld,hst,hrw,hrf,hbl,hsz⟩:=HS.out.fin (HX0.out wr HS.out.b)
    have HRWX:=hid hrw
    have HSX:=hid hsz
    have HPX:=hid (HPP.out _ _ 0 _ HE.out.1 HE.out.2 hrf hbl)
    clear hrw hrf hbl hsz
    go_wp2_with fail
    try simp only [Exit.inBlock,Exit.then]
    refine bodyPost_ret (results_rw2 rfl _ _ _ _ _ _ rfl rfl HRWX.out HSX.out) rfl ⟨X,_,rfl,HPX.out⟩
   ·have h0b:((k:Int) == 0)=false:=by simp;omega
    have HLN2:Hid (¬ bls L=[]):=hid (flatR_nil L (fun e=>h0 (by rw [← HN.out,e];rfl)))
    clear h0
    obtain ⟨E1,HE1⟩:∃ q:Int,Hid (appE V.d F=q):=⟨_,hid rfl⟩
    obtain ⟨D1,HD1⟩:∃ q:DkM,Hid (appD V.d F=q):=⟨_,hid rfl⟩
    have HG1:Hid D1.Good:=hid (by rw [← HD1.out];exact appD_good HG.out _)
    have HPE:Hid (putE V (bls L)=(if E1≠0 then E1 else syncE D1)∧putD V (bls L)=(if E1≠0 then D1 else syncD D1)):=hid (by
     unfold putE putD
     rw [if_neg HNO.out,if_neg HNO.out,if_neg HNM.out,if_neg HNM.out,if_neg HLN2.out,if_neg HLN2.out,HF.out,HE1.out,HD1.out]
     exact ⟨rfl,rfl⟩)
    have HPW:Hid (∀ E D',putE V (bls L)=E→putD V (bls L)=D'→putW V (bls L)=⟨D',if E=0 then V.many + k else V.many,decide (E=6),true⟩):=hid (fun E D' h1 h2=>by
     unfold putW
     rw [if_neg HNO.out,if_neg HNM.out,if_neg HLN2.out,h1,h2,bls_length,HN.out])
    have HC2:=hid (HC0.out.below HS.out.b)
    have hx0:=HS.out.r0
    rw [HXC2.out] at hx0
    have hl1:=loadRd_rw hx0 HSZ.out
    have HAP:=hid (refAppend18_any V.d C a _ F wr HC2.out HG.out (fun j e=>Nat.lt_of_lt_of_le (HAA.out j e) HS.out.b.size) HO.out.byt (by rw [HFN.out];have:=HFB.out;omega))
    rw [HE1.out,HD1.out] at HAP
    unfold RdPost at HAP
    clear hx0
    go_wp2_with fail
    refine HAP.out.mono ?_
    rintro e w4 ⟨C1,rfl,hc4,hb4⟩
    have HS4:=hid (HS.out.below hb4)
    have HC4:=hid hc4
    have hal:=allocRd_eq w4
    have hsv:=rd_var w4 (Z:=rdZ) rfl hc4.size hc4.one
    clear hb4 hc4 HAP hl1
    go_upto_region 13 with (fail)
    clear hal hsv
    have hba:Below w4.heap.size w4 (w4.alloc (.cells C1 35)):=(Below.refl _ _).alloc (Nat.le_refl _) _
    have HS5:=hid (HS4.out.below hba)
    have HC5:=hid (HC4.out.below hba)
    have HSZ5:=hid HC4.out.size
    have H85:=hid (heap_alloc_new w4 (.cells C1 35))
    have HG8:Hid (w.heap.size≤w4.heap.size):=hid HS4.out.b.size
    generalize (w4.alloc (.cells C1 35))=w5 at *
    obtain ⟨g8,HGG⟩:∃ q:Nat,Hid (w4.heap.size=q):=⟨_,hid rfl⟩
    rw [HGG.out] at H85 HG8 ⊢
    have hl8:=loadRd_row H85.out HSZ5.out
    by_cases he:E1≠0
    ·have hb:=ne_bool he
     have hbe:(E1 == 0)=false:=by simpa using he
     have HEQ:Hid (putE V (bls L)=E1∧putD V (bls L)=D1):=hid (by have:=HPE.out;rw [if_pos he,if_pos he] at this;exact this)
     have HNE:=hid he
     clear he hb
     have hst:=storeRd_rw (by have:=HS5.out.r0;rw [HXC2.out] at this;exact this) HSZ.out HC5.out.size HC5.out.one
     have HS8:=hid (HS5.out.disk HXC2.out HSZ.out HC5.out.size)
     have HC8:=hid (HS5.out.rfw (S:=C1) HC5.out)
     go_upto_region 16 with (fail)
     clear hst hl8
     generalize (setRw w5 w.heap.size C1)=w8 at *
     obtain ⟨_,c7,_⟩:=rw_cells HS8.out.r0 HC5.out.size
     have f7:=coBlk_free HS8.out.r0 7
     obtain ⟨q6,HQ6⟩:∃ q:Bool,Hid (decide (E1=6)=q):=⟨_,hid rfl⟩
     have hb6:(E1 == 6)=q6:=by
      rw [← HQ6.out]
      by_cases e:E1=6
      ·subst e;rfl
      ·rw [decide_eq_false e];simpa using e
     have HS10:=hid (HS8.out.brk rfl HC5.out.size q6)
     have HC10:=hid (HS8.out.rfc HC8.out 7 (.bool q6))
     go_upto_region 19 with (fail)
     clear f7 c7 hb6
     generalize (w8.setCell ⟨w.heap.size,7,none⟩ (.bool q6))=w10 at *
     have HRW:Hid (RwC w10 (rwc C1 V.many q6 true) ⟨D1,V.many,q6,true⟩ a):=hid ⟨C1,rfl,HC10.out⟩
     have HVE:Hid (putW V (bls L)=⟨D1,V.many,q6,true⟩):=hid (by
      have:=HPW.out E1 D1 HEQ.out.1 HEQ.out.2
      rw [if_neg HNE.out,HQ6.out] at this
      exact this)
     obtain ⟨hld,hst,hrw,hrf,hbl,hsz⟩:=HS10.out.fin HRW.out
     have HRWX:=hid hrw
     have HSX:=hid hsz
     have HPX:=hid (HPP.out _ _ E1 _ (HEQ.out.1) (HVE.out) hrf hbl)
     obtain ⟨XX,HXX⟩:∃ q:Array Value,Hid (rwc C1 V.many q6 true=q):=⟨_,hid rfl⟩
     rw [HXX.out] at hld hst HRWX HSX HPX
     clear hrw hrf hbl hsz
     go_wp2_with fail
     try simp only [Exit.inBlock,Exit.then]
     refine bodyPost_ret (results_rw2 rfl _ _ _ _ _ _ rfl rfl HRWX.out HSX.out) rfl ⟨XX,_,rfl,HPX.out⟩
    ·have HEQ:Hid (putE V (bls L)=syncE D1∧putD V (bls L)=syncD D1):=hid (by have:=HPE.out;rw [if_neg he,if_neg he] at this;exact this)
     obtain rfl:E1=0:=by omega
     clear he
     have HSY:=hid (refSync18_any D1 C1 a w5 HC5.out HG1.out (fun j e=>Nat.lt_of_lt_of_le (HAA.out j e) HS5.out.b.size))
     obtain ⟨E2,HE2⟩:∃ q:Int,Hid (syncE D1=q):=⟨_,hid rfl⟩
     obtain ⟨D2,HD2⟩:∃ q:DkM,Hid (syncD D1=q):=⟨_,hid rfl⟩
     rw [HE2.out,HD2.out] at HSY HEQ
     unfold RdPost at HSY
     go_wp2_with fail
     refine HSY.out.mono ?_
     rintro e w6 ⟨C2,rfl,hc6,hb6⟩
     have HS6:=hid (HS5.out.below hb6)
     have H86:=hid ((hb6.block _ (lt_of_block H85.out)).trans H85.out)
     have hsv:=storeRd_eq H86.out HSZ5.out hc6.size hc6.one
     have HS7:=hid (HS6.out.aside H86.out (by decide) HG8.out C2)
     have H87:=hid (setSe_same (C:=C2) H86.out)
     have HC7:Hid (RfC (setSe w6 g8 C2) C2 D2 a):=hid (hc6.away (setSe_below (C:=C2) (Below.refl 0 w6) (Nat.zero_le _)).size (fun j R hj=>setSe_other w6 _ (blk_ne hj H86.out (by decide))))
     have HSZ7:=hid hc6.size
     clear hb6 hc6 HSY hl8
     go_upto_region 15 with (fail)
     clear hsv
     generalize (setSe w6 g8 C2)=w7 at *
     have hl8:=loadRd_row H87.out HSZ7.out
     by_cases he2:E2≠0
     ·have hbe:(E2 == 0)=false:=by simpa using he2
      have HNE:=hid he2
      clear he2
      have hst:=storeRd_rw (by have:=HS7.out.r0;rw [HXC2.out] at this;exact this) HSZ.out HC7.out.size HC7.out.one
      have HS8:=hid (HS7.out.disk HXC2.out HSZ.out HC7.out.size)
      have HC8:=hid (HS7.out.rfw (S:=C2) HC7.out)
      go_upto_region 16 with (fail)
      clear hst hl8
      generalize (setRw w7 w.heap.size C2)=w8 at *
      obtain ⟨_,c7,_⟩:=rw_cells HS8.out.r0 HC7.out.size
      have f7:=coBlk_free HS8.out.r0 7
      obtain ⟨q6,HQ6⟩:∃ q:Bool,Hid (decide (E2=6)=q):=⟨_,hid rfl⟩
      have hb6:(E2 == 6)=q6:=by
       rw [← HQ6.out]
       by_cases e:E2=6
       ·subst e;rfl
       ·rw [decide_eq_false e];simpa using e
      have HS10:=hid (HS8.out.brk rfl HC7.out.size q6)
      have HC10:=hid (HS8.out.rfc HC8.out 7 (.bool q6))
      go_upto_region 19 with (fail)
      clear f7 c7 hb6
      generalize (w8.setCell ⟨w.heap.size,7,none⟩ (.bool q6))=w10 at *
      have HRW:Hid (RwC w10 (rwc C2 V.many q6 true) ⟨D2,V.many,q6,true⟩ a):=hid ⟨C2,rfl,HC10.out⟩
      have HVE:Hid (putW V (bls L)=⟨D2,V.many,q6,true⟩):=hid (by
       have:=HPW.out E2 D2 HEQ.out.1 HEQ.out.2
       rw [if_neg HNE.out,HQ6.out] at this
       exact this)
      obtain ⟨hld,hst,hrw,hrf,hbl,hsz⟩:=HS10.out.fin HRW.out
      have HRWX:=hid hrw
      have HSX:=hid hsz
      have HPX:=hid (HPP.out _ _ E2 _ (HEQ.out.1) (HVE.out) hrf hbl)
      obtain ⟨XX,HXX⟩:∃ q:Array Value,Hid (rwc C2 V.many q6 true=q):=⟨_,hid rfl⟩
      rw [HXX.out] at hld hst HRWX HSX HPX
      clear hrw hrf hbl hsz
      go_wp2_with fail
      try simp only [Exit.inBlock,Exit.then]
      refine bodyPost_ret (results_rw2 rfl _ _ _ _ _ _ rfl rfl HRWX.out HSX.out) rfl ⟨XX,_,rfl,HPX.out⟩
     ·obtain rfl:E2=0:=by omega
      clear he2
      have hst:=storeRd_rw (by have:=HS7.out.r0;rw [HXC2.out] at this;exact this) HSZ.out HC7.out.size HC7.out.one
      have HS8:=hid (HS7.out.disk HXC2.out HSZ.out HC7.out.size)
      have HC8:=hid (HS7.out.rfw (S:=C2) HC7.out)
      go_upto_region 16 with (fail)
      clear hst hl8
      generalize (setRw w7 w.heap.size C2)=w8 at *
      obtain ⟨c6,_,_⟩:=rw_cells HS8.out.r0 HC7.out.size
      have f6:=coBlk_free HS8.out.r0 6
      obtain ⟨many,HMY⟩:∃ q:Nat,Hid (V.many=q):=⟨_,hid rfl⟩
      rw [HMY.out] at c6 HS8 HPW HMM
      have hmi:wrap64 ((many:Int) + (k:Int))=((many + k:Nat):Int):=by have:=HMM.out;have:=HN1.out;unfold wrap64;omega
      obtain ⟨mk,HMK2⟩:∃ q:Nat,Hid (many + k=q):=⟨_,hid rfl⟩
      have hmi2:(many:Int) + (k:Int)=(mk:Int):=by have:=HMK2.out;omega
      have hmi3:wrap64 (mk:Int)=(mk:Int):=by have:=HMM.out;have:=HN1.out;have:=HMK2.out;unfold wrap64;omega
      have HS9:=hid (HS8.out.many rfl HC7.out.size mk)
      have HC9:=hid (HS8.out.rfc HC8.out 6 (.int .i64 (mk:Int)))
      clear hmi
      go_upto_region 18 with (fail)
      clear c6 f6 hmi2 hmi3
      generalize (w8.setCell ⟨w.heap.size,6,none⟩ (.int .i64 (mk:Int)))=w9 at *
      have f7:=coBlk_free HS9.out.r0 7
      obtain ⟨c6,c7,_⟩:=rw_cells HS9.out.r0 HC7.out.size
      have HS10:=hid (HS9.out.brk rfl HC7.out.size false)
      have HC10:=hid (HS9.out.rfc HC9.out 7 (.bool false))
      go_upto_region 19 with (fail)
      clear f7 c6 c7
      generalize (w9.setCell ⟨w.heap.size,7,none⟩ (.bool false))=w10 at *
      have HRW:Hid (RwC w10 (rwc C2 mk false true) ⟨D2,mk,false,true⟩ a):=hid ⟨C2,rfl,HC10.out⟩
      have HVE:Hid (putW V (bls L)=⟨D2,mk,false,true⟩):=hid (by
       have:=HPW.out 0 D2 HEQ.out.1 HEQ.out.2
       rw [if_pos rfl,HMK2.out] at this
       exact this)
      obtain ⟨hld,hst,hrw,hrf,hbl,hsz⟩:=HS10.out.fin HRW.out
      have HRWX:=hid hrw
      have HSX:=hid hsz
      have HPX:=hid (HPP.out _ _ 0 _ (HEQ.out.1) (HVE.out) hrf hbl)
      obtain ⟨XX,HXX⟩:∃ q:Array Value,Hid (rwc C2 mk false true=q):=⟨_,hid rfl⟩
      rw [HXX.out] at hld hst HRWX HSX HPX
      clear hrw hrf hbl hsz
      go_wp2_with fail
      try simp only [Exit.inBlock,Exit.then]
      refine bodyPost_ret (results_rw2 rfl _ _ _ _ _ _ rfl rfl HRWX.out HSX.out) rfl ⟨XX,_,rfl,HPX.out⟩
end Go.Proofs.Ytfpgglclpkcdhaa
