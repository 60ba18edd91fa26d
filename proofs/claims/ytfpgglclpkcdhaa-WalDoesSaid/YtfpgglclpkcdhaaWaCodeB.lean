/-
  wal's functions: torn, settle, keep, joined.
-/
import Derived.Test.YtfpgglclpkcdhaaWaCodeA
namespace Go.Proofs.Ytfpgglclpkcdhaa
set_option maxRecDepth 20000
open Go.RowKit
attribute [local go_sem ↓] exec_cutL
theorem spoilt_no {l:List UInt8} (h:nextN l=2):spoiltB l=false:=by
 unfold spoiltB
 rw [decide_eq_false (by rw [h];simp),Bool.false_and]
theorem spoilt_yes {l:List UInt8} {k:Nat} (h:¬ nextN l=2) (hk:k < l.length) (h1:nextN (l.drop k)=1):spoiltB l=true:=(spoiltB_iff l).2 ⟨h,k,hk,h1⟩
theorem spoilt_all {l:List UInt8} (h:∀ k,k < l.length→¬ nextN (l.drop k)=1):spoiltB l=false:=by
 cases e:spoiltB l with
 | false=>rfl
 | true=>
  obtain ⟨_,k,hk,h1⟩:=(spoiltB_iff l).1 e
  exact absurd h1 (h k hk)
theorem nextE_three (l:List UInt8):((nextE l:Int) == 3)=decide (nextN l=2):=by
 unfold nextE
 have:nextN l=0∨nextN l=1∨nextN l=2:=by
  unfold nextN
  repeat' split
  all_goals simp
 rcases this with h | h | h <;> rw [h] <;> rfl
theorem nextE_zero (l:List UInt8):((nextE l:Int) == 0)=decide (nextN l=1):=by
 unfold nextE
 have:nextN l=0∨nextN l=1∨nextN l=2:=by
  unfold nextN
  repeat' split
  all_goals simp
 rcases this with h | h | h <;> rw [h] <;> rfl
set_option maxHeartbeats 1600000 in
theorem walTorn_any (v:Value) (l:List UInt8) (w:World) (hv:Byt w v l) (hs:l.length≤900000):
  Calls Try.prog 27 #[v] w fun e w'=>e=.returned (.bool (!spoiltB l))∧Below w.heap.size w w':=by
 obtain ⟨A,c,rfl⟩:=hv.shape
 obtain ⟨_,hc,hm,hr⟩:=hv.at_
 obtain ⟨N,HN⟩:∃ L:Nat,Hid (l.length=L):=⟨_,hid rfl⟩
 have HV:Hid (∀ W,Below w.heap.size w W→Byt W (.slice A N c) l):=hid (fun W hb=>by have:=hv.below hb;rw [HN.out] at this;exact this)
 have C0:=hid (next_own _ _ w hv hs)
 have h3:=nextE_three l
 obtain ⟨E,HE⟩:∃ q:Nat,Hid (nextE l=q):=⟨_,hid rfl⟩
 obtain ⟨K,HK⟩:∃ q:Nat,Hid (nextK l=q):=⟨_,hid rfl⟩
 rw [HE.out] at h3
 rw [HE.out,HK.out] at C0
 rw [HN.out] at hc hs C0 ⊢
 have HS:=hid hs
 have HC:=hid hc
 clear hv hm hr hc hs HE HK
 by_cases h2:nextN l=2
 ·rw [spoilt_no h2]
  rw [decide_eq_true h2] at h3
  clear h2
  go_enter Try.func27,Try.ntmps27
  go_wp2_with fail
  refine C0.out.mono ?_
  rintro e w1 ⟨x,rfl,_,hb⟩
  go_wp2_with fail
  go_ret
  exact ⟨rfl,hb⟩
 rw [decide_eq_false h2] at h3
 have H2:=hid h2
 obtain ⟨S,HSP⟩:∃ q:Bool,Hid (spoiltB l=q):=⟨_,hid rfl⟩
 rw [HSP.out]
 clear h2
 go_enter Try.func27,Try.ntmps27
 go_wp2_with fail
 refine C0.out.mono ?_
 rintro e w1 ⟨x,rfl,_,hb⟩
 have HB1:=hid hb
 clear hb C0
 obtain ⟨xA,xn,xc,rfl⟩:∃ A n c,x=.slice A n c:=by
  rename_i ho
  obtain ⟨A,c,e⟩:=ho.byt.shape
  exact ⟨_,_,_,e⟩
 go_wp2_with fail
 clear h3
 go_loopw [20] (fun s wr=>∃ k:Nat,k≤N∧s=.int .i64 (k:Int)∧Hid (∀ j,j < k→¬ nextN (l.drop j)=1)∧Hid (Below w.heap.size w wr)) (fun s _=>N - (intOf s).toNat)
 case atStart=>exact ⟨0,Nat.zero_le _,rfl,hid (fun j hj=>absurd hj (Nat.not_lt_zero _)),HB1⟩
 case round=>
  obtain ⟨k,hk,rfl,HNO,HB⟩:=hrel
  by_cases hlt:k < N
  ·have hI:(k:Int) < (N:Int):=by omega
   obtain ⟨A2,c2,r2,p2⟩:=cut_l A c N k hk HC.out
   have r2':=r2 wr
   have HB2:=hid (p2 wr l HN.out (HV.out wr HB.out))
   have C:=next_own _ _ wr HB2.out (by rw [List.length_drop,HN.out];have:=HS.out;omega)
   have h0:=nextE_zero (l.drop k)
   obtain ⟨E2,HE2⟩:∃ q:Nat,Hid (nextE (l.drop k)=q):=⟨_,hid rfl⟩
   obtain ⟨K2,HK2⟩:∃ q:Nat,Hid (nextK (l.drop k)=q):=⟨_,hid rfl⟩
   rw [HE2.out] at h0
   rw [HE2.out,HK2.out] at C
   have HC2:=hid C
   have HSZ:=hid HB.out.size
   have HLT:=hid hlt
   have HWI:Hid (wrap64 ((k:Int) + 1)=((k + 1:Nat):Int)):=hid (by have:=HS.out;unfold wrap64;omega)
   clear C r2 p2 HE2 HK2 HB2 hk
   by_cases h1:nextN (l.drop k)=1
   ·have HSY:Hid (S=true):=hid (by rw [← HSP.out];exact spoilt_yes H2.out (by rw [HN.out];exact hlt) h1)
    rw [decide_eq_true h1] at h0
    clear h1
    go_wp2_with fail
    refine HC2.out.mono ?_
    rintro e w2 ⟨x,rfl,_,hb⟩
    clear r2'
    go_wp2_with fail
    go_ret
    exact ⟨by rw [HSY.out];rfl,HB.out.trans (hb.mono HSZ.out)⟩
   ·have H1:=hid h1
    rw [decide_eq_false h1] at h0
    clear h1
    go_wp2_with fail
    refine HC2.out.mono ?_
    rintro e w2 ⟨x,rfl,_,hb⟩
    have HBN:=hid (HB.out.trans (hb.mono HSZ.out))
    clear r2' hb
    go_wp2_with fail
    go_roundw
    case rel=>exact ⟨k + 1,HLT.out,by rw [HWI.out],hid (fun j hj=>by
     by_cases e:j=k
     ·subst e
      exact H1.out
     ·exact HNO.out j (by omega)),HBN⟩
    case measure=>
     have:=HLT.out
     have:=HWI.out
     simp only [HWI.out]
     simp only [intOf]
     omega
  ·have hI:¬ (k:Int) < (N:Int):=by omega
   obtain rfl:k=N:=by omega
   have HSF:Hid (S=false):=hid (by rw [← HSP.out];exact spoilt_all (fun j hj=>HNO.out j (by rw [HN.out] at hj;exact hj)))
   clear hlt hk
   go_wp2_with fail
   go_ret
   exact ⟨by rw [HSF.out];rfl,HB.out⟩
def settleE (D:DkM) (n:Int) (t:Nat):Int:=if t=0 then syncE D else if cutE D n≠0 then cutE D n else syncE (cutD D n)
def settleD (D:DkM) (n:Int) (t:Nat):DkM:=if t=0 then syncD D else if cutE D n≠0 then cutD D n else syncD (cutD D n)
def kpE (D:DkM) (l:List UInt8):Int:=if appE D l≠0 then appE D l else syncE (appD D l)
def kpD (D:DkM) (l:List UInt8):DkM:=if appE D l≠0 then appD D l else syncD (appD D l)
theorem ne_bool {x:Int} (h:x≠0):(x != 0)=true:=by simpa using h
section
variable {w:World} {b B:Nat} {D:DkM} {va vt:Value}
set_option maxHeartbeats 1600000 in
theorem walSettle_any (h:DkE w b B D va vt) (g:D.Good) (n:Int) (t:Nat):Calls Try.prog 28 #[.pointer (some ⟨b,0,none⟩),.int .i64 n,.int .i64 (t:Int)] w fun e w'=>e=.returned (.int .i64 (settleE D n t))∧DkTo b B w va.ownBlock vt D.h (settleD D n t) w':=by
 have HCU:=hid (dkCut_any h g n)
 have HSY:=hid (dkSync_any h g)
 have HG:=hid (cutD_good g n)
 unfold settleE settleD
 obtain ⟨a,HA⟩:∃ a:Option Nat,Hid (va.ownBlock=a):=⟨_,hid rfl⟩
 by_cases h0:t=0
 ·subst h0
  rw [if_pos rfl,if_pos rfl]
  go_enter Try.func28,Try.ntmps28
  go_wp2_with fail
  refine HSY.out.mono ?_
  rintro e w1 ⟨rfl,h1⟩
  go_wp2_with fail
  go_ret
  exact ⟨rfl,h1⟩
 rw [if_neg h0,if_neg h0]
 have hI:(0:Int) < (t:Int):=by omega
 obtain ⟨E,HE⟩:∃ q:Int,Hid (cutE D n=q):=⟨_,hid rfl⟩
 obtain ⟨D1,HD1⟩:∃ q:DkM,Hid (cutD D n=q):=⟨_,hid rfl⟩
 rw [HE.out,HD1.out] at HCU ⊢
 rw [HD1.out] at HG
 clear h0
 by_cases he:E≠0
 ·rw [if_pos he,if_pos he]
  have hb:=ne_bool he
  clear he
  go_enter Try.func28,Try.ntmps28
  go_wp2_with fail
  refine HCU.out.mono ?_
  rintro e w1 ⟨rfl,h1⟩
  go_wp2_with fail
  go_ret
  exact ⟨rfl,h1⟩
 ·rw [if_neg he,if_neg he]
  obtain rfl:E=0:=by omega
  clear he
  go_enter Try.func28,Try.ntmps28
  go_wp2_with fail
  refine HCU.out.mono ?_
  rintro e w1 ⟨rfl,va1,vt1,h1,t1,n1,f1⟩
  have HS1:=hid (dkSync_any h1 HG.out)
  go_wp2_with fail
  refine HS1.out.mono ?_
  rintro e w2 ⟨rfl,h2⟩
  go_wp2_with fail
  go_ret
  exact ⟨rfl,DkTo.trans t1 n1 f1 h2⟩
set_option maxHeartbeats 1600000 in
theorem walKeep_any (h:DkE w b B D va vt) (g:D.Good) (hB:B≤w.heap.size) {v:Value} {l:List UInt8} (hv:Byt w v l) (hl:l.length≤1000000):Calls Try.prog 37 #[.pointer (some ⟨b,0,none⟩),v] w fun e w'=>e=.returned (.int .i64 (kpE D l))∧DkTo b B w va.ownBlock vt D.h (kpD D l) w':=by
 have HCU:=hid (dkAppend_any h g hB hv hl)
 have HG:=hid (appD_good g l)
 unfold kpE kpD
 obtain ⟨E,HE⟩:∃ q:Int,Hid (appE D l=q):=⟨_,hid rfl⟩
 obtain ⟨D1,HD1⟩:∃ q:DkM,Hid (appD D l=q):=⟨_,hid rfl⟩
 obtain ⟨A,c,rfl⟩:=hv.shape
 rw [HE.out,HD1.out] at HCU ⊢
 rw [HD1.out] at HG
 clear hv hl
 by_cases he:E≠0
 ·rw [if_pos he,if_pos he]
  have hb:=ne_bool he
  clear he
  go_enter Try.func37,Try.ntmps37
  go_wp2_with fail
  refine HCU.out.mono ?_
  rintro e w1 ⟨rfl,h1⟩
  go_wp2_with fail
  go_ret
  exact ⟨rfl,h1⟩
 ·rw [if_neg he,if_neg he]
  obtain rfl:E=0:=by omega
  clear he
  go_enter Try.func37,Try.ntmps37
  go_wp2_with fail
  refine HCU.out.mono ?_
  rintro e w1 ⟨rfl,va1,vt1,h1,t1,n1,f1⟩
  have HS1:=hid (dkSync_any h1 HG.out)
  go_wp2_with fail
  refine HS1.out.mono ?_
  rintro e w2 ⟨rfl,h2⟩
  go_wp2_with fail
  go_ret
  exact ⟨rfl,DkTo.trans t1 n1 f1 h2⟩
end
def LitB (L:List BtM):Prop:=L.length≤1000∧∀ t ∈ L,t.l.length≤500
theorem mayR_snoc {rs:List (List UInt8)} {r:List UInt8} (h:MayR rs) (h0:1≤r.length) (h1:r.length≤65536):MayR (rs ++ [r]):=fun x hx=>by
 rcases List.mem_append.1 hx with hx | hx
 ·exact h x hx
 ·obtain rfl:=List.mem_singleton.1 hx
  exact ⟨h0,h1⟩
theorem flatR_le:∀ (L:List BtM),(∀ t ∈ L,t.l.length≤500)→(flatR (bls L)).length≤508 * L.length
 | [],_=>by simp [flatR,bls]
 | t :: L,h=>by
  have ih:=flatR_le L (fun u hu=>h u (List.mem_cons_of_mem _ hu))
  have h1:=h t (by simp)
  have e:flatR (bls (t :: L))=recS t.l ++ flatR (bls L):=by simp [flatR,bls]
  rw [e,List.length_append,recS_length,List.length_cons]
  omega
theorem bls_take {L:List BtM} {k:Nat} (h:k < L.length):bls (L.take (k + 1))=bls (L.take k) ++ [L[k].l]:=by
 unfold bls
 rw [List.take_succ_eq_append_getElem h,List.map_append]
 rfl
theorem flatR_snoc (rs:List (List UInt8)) (r:List UInt8):flatR (rs ++ [r])=flatR rs ++ recS r:=by simp [flatR]
set_option maxHeartbeats 1600000 in
theorem walJoined_any (v:Value) (L:List BtM) (w:World) (hv:Els btl 1 w v L) (hb:Bts w L) (hl:LitB L):
  Calls Try.prog 36 #[v] w fun e w'=>∃ x,e=.returned (.tuple #[x,.int .i64 (if MayR (bls L) then 0 else 1)])∧Own w.heap.size w' x (if MayR (bls L) then flatR (bls L) else [])∧Below w.heap.size w w':=by
 obtain ⟨A,c,rfl⟩:=hv.shape
 have hr:=hv.at_.2.2.2
 obtain ⟨N,HN⟩:∃ q:Nat,Hid (L.length=q):=⟨_,hid rfl⟩
 have HCEL:Hid (∀ k (h:k < L.length),∃ b off,A=some ⟨b,off,none⟩∧∀ W,Below w.heap.size w W→W.cell? ⟨b,off + k,none⟩=some L[k].v):=hid (fun k hk=>by
  obtain ⟨b,off,e,hb,hc⟩:=hr (by omega)
  refine ⟨b,off,e,fun W hW=>(World.cell?_of_block (hW.block b hb)).trans ?_⟩
  have:=hc k hk 0 _ rfl
  rw [Nat.mul_one,Nat.add_zero] at this
  exact this)
 have HBT:Hid (∀ k (h:k < L.length),∀ W,Below w.heap.size w W→Byt W L[k].v L[k].l):=hid (fun k hk W hW=>(hb _ (List.getElem_mem hk)).below hW)
 have HLN:Hid (∀ k (h:k < L.length),L[k].l.length≤500):=hid (fun k hk=>hl.2 _ (List.getElem_mem hk))
 have HFL:Hid (∀ k,(flatR (bls (L.take k))).length≤508 * (L.take k).length):=hid (fun k=>flatR_le _ (fun t ht=>hl.2 t (List.mem_of_mem_take ht)))
 have HN1:Hid (N≤1000):=hid (by rw [← HN.out];exact hl.1)
 have HM:Hid (∀ k (h:k < L.length),MayR (bls L)→1≤L[k].l.length):=hid (fun k hk hm=>(hm _ (List.mem_map.2 ⟨_,List.getElem_mem hk,rfl⟩)).1)
 obtain ⟨JE,HJE⟩:∃ q:Int,Hid ((if MayR (bls L) then (0:Int) else 1)=q):=⟨_,hid rfl⟩
 obtain ⟨JL,HJL⟩:∃ q:List UInt8,Hid ((if MayR (bls L) then flatR (bls L) else [])=q):=⟨_,hid rfl⟩
 rw [HJE.out,HJL.out,HN.out]
 clear hv hr hb hl
 go_enter Try.func36,Try.ntmps36
 go_wp2_with fail
 go_loopw [4,11] (fun s4 s11 wr=>∃ k:Nat,k≤N∧s11=.int .i64 (k:Int)∧Hid (MayR (bls (L.take k)))∧Own w.heap.size wr s4 (flatR (bls (L.take k)))∧Hid (Below w.heap.size w wr)) (fun _ s11 _=>N - (intOf s11).toNat)
 case atStart=>exact ⟨0,Nat.zero_le _,rfl,hid (fun r h=>by simp [bls] at h),Own.nil _ _,hid (Below.refl _ _)⟩
 case round=>
  obtain ⟨k,hk,rfl,HMR,ho,HB⟩:=hrel
  obtain ⟨SA,SC,rfl⟩:=ho.byt.shape
  obtain ⟨F,HF⟩:∃ q:List UInt8,Hid (flatR (bls (L.take k))=q):=⟨_,hid rfl⟩
  have hfl:=HFL.out k
  rw [HF.out] at ho hfl ⊢
  obtain ⟨FN,HFN⟩:∃ q:Nat,Hid (F.length=q):=⟨_,hid rfl⟩
  rw [HFN.out] at ho hfl ⊢
  have HO:=hid ho
  have HFB:Hid (FN≤508000):=hid (by rw [List.length_take] at hfl;have:=HN1.out;omega)
  clear ho hfl
  by_cases hlt:k < N
  ·have hI:(k:Int) < (N:Int):=by omega
   have hkL:k < L.length:=by rw [HN.out];exact hlt
   obtain ⟨b,off,rfl,hc⟩:=HCEL.out k hkL
   have c1:=hc wr HB.out
   have HTN:=hid (bls_take hkL)
   have HBY:=hid (HBT.out k hkL)
   have HL1:=hid (HLN.out k hkL)
   have HMK:=hid (HM.out k hkL)
   have HLT:=hid hlt
   have HSZ:=hid HB.out.size
   have HWI:Hid (wrap64 ((k:Int) + 1)=((k + 1:Nat):Int)):=hid (by have:=HN1.out;unfold wrap64;omega)
   generalize L[k]=t at *
   obtain ⟨T,HT⟩:∃ q:List UInt8,Hid (t.l=q):=⟨_,hid rfl⟩
   obtain ⟨TA,TN,TC,HTV⟩:∃ A n c,Hid (t.v=.slice A n c):=⟨_,_,_,hid rfl⟩
   rw [HTV.out] at c1 HBY
   rw [HT.out] at HBY HTN HL1 HMK
   clear hc hkL hlt hk
   by_cases h0:T.length=0
   ·have hT:T=[]:=List.eq_nil_of_length_eq_zero h0
    subst hT
    have HNM:Hid (¬ MayR (bls L)):=hid (fun hm=>by have:=HMK.out hm;simp at this)
    have HE1:Hid (JE=1∧JL=[]):=hid ⟨by rw [← HJE.out,if_neg HNM.out],by rw [← HJL.out,if_neg HNM.out]⟩
    have HCR:=hid (record_none (.slice TA TN TC) wr (HBY.out wr HB.out))
    clear h0
    go_wp2_with fail
    refine HCR.out.mono ?_
    rintro e w1 ⟨x,rfl,_,hb⟩
    go_wp2_with fail
    go_ret2
    exact ⟨_,by rw [HE1.out.1];rfl,by rw [HE1.out.2];exact Own.nil _ _,HB.out.trans (hb.mono HSZ.out)⟩
   ·have HCR:=hid (record_ok (.slice TA TN TC) T wr (HBY.out wr HB.out) (by omega) (by have:=HL1.out;omega))
    have HMN:Hid (MayR (bls (L.take (k + 1)))):=hid (by rw [HTN.out];exact mayR_snoc HMR.out (by omega) (by have:=HL1.out;omega))
    have HRL:Hid ((recS T).length≤508):=hid (by rw [recS_length];have:=HL1.out;omega)
    have HFR:Hid (flatR (bls (L.take (k + 1)))=F ++ recS T):=hid (by rw [HTN.out,flatR_snoc,HF.out])
    clear h0 HCEL
    go_wp2_with fail
    refine HCR.out.mono ?_
    rintro e w1 ⟨x,rfl,ho,hb⟩
    obtain ⟨XA,XC,rfl⟩:=ho.byt.shape
    obtain ⟨XN,HXN⟩:∃ q:Nat,Hid ((recS T).length=q):=⟨_,hid rfl⟩
    rw [HXN.out] at ho ⊢
    have HOX:=hid ho.byt
    have HO1:=hid (HO.out.below hb)
    have HB1:=hid (HB.out.trans (hb.mono HSZ.out))
    have HLS:Hid (F.length + (recS T).length≤140737488355328):=hid (by rw [HFN.out];have:=HRL.out;have:=HFB.out;omega)
    clear ho hb c1
    go_wp2_with (at_builtin;go_loud (refine wpList_append_byt rfl (.tmp 23) (.tmp 24) rfl rfl rfl HO1.out HOX.out HLS.out HB1.out.size ?_;intro v2 w2 ho2 hg2 _;have HO2:=hid ho2;have HB2:=hid (HB1.out.grown hg2 HB1.out.size (fun j hj=>(World.ownsRow.lt HO1.out j hj).1));clear ho2 hg2))
    go_roundw
    case rel=>exact ⟨k + 1,HLT.out,by rw [HWI.out],HMN,by rw [HFR.out];exact HO2.out,HB2⟩
    case measure=>
     have:=HLT.out
     simp only [HWI.out]
     simp only [intOf]
     omega
  ·have hI:¬ (k:Int) < (N:Int):=by omega
   obtain rfl:k=N:=by omega
   have e:L.take k=L:=List.take_of_length_le (by rw [HN.out];exact Nat.le_refl _)
   have HF2:=hid HF.out
   rw [e] at HF2 HMR
   have HE1:Hid (JE=0∧JL=F):=hid ⟨by rw [← HJE.out,if_pos HMR.out],by rw [← HJL.out,if_pos HMR.out,HF2.out]⟩
   clear hlt hk
   go_wp2_with fail
   go_ret2
   exact ⟨_,by rw [HE1.out.1];rfl,by rw [HE1.out.2];exact HO.out,HB.out⟩
end Go.Proofs.Ytfpgglclpkcdhaa
