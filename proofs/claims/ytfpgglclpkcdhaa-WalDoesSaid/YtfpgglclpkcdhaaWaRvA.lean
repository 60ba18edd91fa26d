/-
  The document's Records and Spoilt.
-/
import Derived.Test.YtfpgglclpkcdhaaWaCodeB
namespace Go.Proofs.Ytfpgglclpkcdhaa
set_option maxRecDepth 20000
open Go.RowKit
attribute [local go_sem ↓] exec_cutL
theorem rcS_nextB {l:List UInt8} {n:Nat} (h:nextN (l.drop n)=1):n + (8 + (nextB (l.drop n)).length)≤l.length∧recsL (l.drop n)=nextB (l.drop n) :: recsL (l.drop (n + (8 + (nextB (l.drop n)).length)))∧tailL (l.drop (n + (8 + (nextB (l.drop n)).length)))=tailL (l.drop n):=by
 have e:=next_in h
 rw [e]
 exact ⟨(rcS_next h).2.1,(rcS_next h).2.2.1,(rcS_next h).2.2.2⟩
theorem ne_one (n:Nat):((n:Int) != 1)=!decide (n=1):=by
 by_cases e:n=1
 ·subst e;rfl
 ·rw [decide_eq_false e]
  simp
  omega
set_option maxHeartbeats 1600000 in
theorem refRecords19_any (v:Value) (l:List UInt8) (w:World) (hv:Byt w v l) (hs:l.length≤900000):
  Calls Try.prog 30 #[v] w fun e w'=>∃ x L v',e=.returned (.tuple #[x,v'])∧OwnB w.heap.size w' x L∧(∀ t ∈ L,Own w.heap.size w' t.v t.l)∧bls L=recsL l∧Byt w' v' (tailL l)∧L.length≤l.length∧Below w.heap.size w w':=by
 obtain ⟨A,c,rfl⟩:=hv.shape
 have HS:=hid hs
 have HV:Hid (∀ W,Below w.heap.size w W→Byt W (.slice A l.length c) (l.drop 0)):=hid (fun W hb=>hv.below hb)
 have HN0:=hid (OwnE.nil (ec:=btl) (n:=1) (T:=33) w.heap.size w)
 have HNW:Hid (OwnB w.heap.size (w.alloc (.cells #[] 33)) (.slice (some ⟨w.heap.size,0,none⟩) 0 0) []):=hid (World.ownsRow_made w #[] 0 (Nat.le_refl _) (Nat.zero_le _) rfl)
 have HBW:Hid (Below w.heap.size w (w.alloc (.cells #[] 33))):=hid ((Below.refl _ _).alloc (Nat.le_refl _) _)
 obtain ⟨N,HN⟩:∃ L:Nat,Hid (l.length=L):=⟨_,hid rfl⟩
 rw [HN.out] at HV hs ⊢
 clear hv hs HN0
 go_enter Try.func30,Try.ntmps30
 go_wp2_with fail
 go_loopw [0,4] (fun s0 s4 wr=>∃ (L:List BtM) (n:Nat) (A':Option Addr) (c':Nat),n≤N∧s0=.slice A' (N - n) c'∧Hid (∀ W,Below w.heap.size w W→Byt W (.slice A' (N - n) c') (l.drop n))∧Hid (RcS w wr l s4 L n)) (fun s0 _ _=>match s0 with | .slice _ n _=>n | _=>0)
 case atStart=>exact ⟨[],0,_,_,Nat.zero_le _,rfl,HV,hid ⟨HNW.out,fun t ht=>absurd ht (by simp),rfl,rfl,Nat.zero_le _,Nat.le_refl _,HBW.out⟩⟩
 case round=>
  obtain ⟨L,n,A',c',hn,rfl,HVN,HR⟩:=hrel
  obtain ⟨XA,XC,rfl⟩:=HR.out.o.shape
  obtain ⟨M,HM⟩:∃ q:Nat,Hid (L.length=q):=⟨_,hid rfl⟩
  rw [HM.out] at HR ⊢
  obtain ⟨T,HT⟩:∃ q:Nat,Hid (N - n=q):=⟨_,hid rfl⟩
  rw [HT.out] at HVN ⊢
  have HTL:Hid ((l.drop n).length=T):=hid (by rw [List.length_drop,HN.out,HT.out])
  have C:=refNext_own _ _ wr (HVN.out wr HR.out.b) (by rw [HTL.out];have:=HS.out;have:=HN.out;have:=HT.out;omega)
  have HSZ:=hid HR.out.b.size
  have h1e:=ne_one (nextN (l.drop n))
  obtain ⟨E,HE⟩:∃ q:Nat,Hid (nextN (l.drop n)=q):=⟨_,hid rfl⟩
  rw [HE.out] at h1e
  rw [HE.out] at C
  have HC2:=hid C
  have HNN:=hid hn
  clear C hn HV HNW HBW
  by_cases h1:nextN (l.drop n)=1
  ·have hE1:E=1:=by rw [← HE.out];exact h1
   rw [decide_eq_true hE1] at h1e
   have HX:=hid (rcS_nextB h1)
   have HXL:Hid ((nextB (l.drop n)).length≤65536):=hid (next_is h1).2.1
   clear h1 hE1
   go_wp2_with fail
   refine HC2.out.mono ?_
   rintro e w1 ⟨x,rfl,ho,hb⟩
   obtain ⟨t,hte,htl⟩:=byt_bt ho.byt
   have HO:Hid (Own w.heap.size w1 t.v t.l):=hid (by rw [← hte,← htl];exact ho.more HSZ.out)
   have HTT:=hid htl
   have HR1:Hid (OwnB w.heap.size w1 (.slice XA M XC) L∧(∀ t ∈ L,Own w.heap.size w1 t.v t.l)∧Below w.heap.size w w1):=hid ⟨OwnE.below HR.out.o hb,fun u hu=>(HR.out.t u hu).below hb,HR.out.b.trans (hb.mono HSZ.out)⟩
   subst hte
   clear htl ho hb HC2
   obtain ⟨TA,TN,TC,HTV⟩:∃ A n c,Hid (t.v=.slice A n c):=⟨_,_,_,hid rfl⟩
   have HTN:Hid (TN=(nextB (l.drop n)).length):=hid (by
    have:=HTV.out
    unfold BtM.v at this
    injection this with _ h _
    rw [← h,HTT.out])
   rw [HTV.out]
   have HKB:Hid (8 + TN≤T∧TN≤65536):=hid (by
    have:=HX.out.1
    rw [← HTN.out] at this
    have h2:=HT.out
    have h3:=HXL.out
    rw [← HTN.out] at h3
    have h4:=HN.out
    omega)
   obtain ⟨K,HKK⟩:∃ q:Nat,Hid (8 + TN=q):=⟨_,hid rfl⟩
   obtain ⟨A2,c2,r2,p2⟩:=cut_l A' c' T K (by have:=HKB.out.1;have:=HKK.out;omega) (by have:=((HVN.out w1 HR1.out.2.2).at_).2.1;rw [HTL.out] at this;exact this)
   have hk8:(8:Int) + (TN:Int)=(K:Int):=by have:=HKK.out;omega
   have hwk:wrap64 (K:Int)=(K:Int):=by have:=HKB.out;have:=HKK.out;unfold wrap64;omega
   have HP2:=hid p2
   have HLL:Hid (M + 1≤1000000):=hid (by have:=HR.out.m;have:=HR.out.n0;have:=HS.out;have:=HM.out;omega)
   clear p2
   go_wp2_with (at_builtin;go_loud (refine (eltBt (fun _=>True)).wpList_append (x:=.slice (some ⟨w1.heap.size,0,none⟩) 1 1) (m:=[t]) (l:=L) (B:=w.heap.size) rfl (.tmp 17) (.tmp 19) rfl rfl rfl (fun _ _=>trivial) (OwnE.alloc HR1.out.1 (.cells #[.slice TA TN TC] 33)) (els_one w1 t #[.slice TA TN TC] 33 (by rw [← HTV.out];rfl)) (by have:=HLL.out;have:=HM.out;simp only [List.length_cons,List.length_nil];omega) (Nat.le_trans HR1.out.2.2.size (al_le _ _)) ?_;intro v4 w4 ho4 hg4 _;have HG4:=hid hg4;have HO4:=hid ho4;clear hg4 ho4))
   go_roundw
   case rel=>
    have hx:=HX.out
    rw [← HTN.out] at hx
    have hal:Below w1.heap.size w1 (w1.alloc (.cells #[.slice TA TN TC] 33)):=(Below.refl _ _).alloc (Nat.le_refl _) _
    have hb4:Below w.heap.size w w4:=(HR1.out.2.2.alloc HR1.out.2.2.size _).grown HG4.out (Nat.le_trans HR1.out.2.2.size (al_le _ _)) (fun k e=>(OwnB.blk HR1.out.1 e).1)
    rw [HKK.out] at hx
    have eT:N - (n + K)=T - K:=by have:=HT.out;omega
    refine ⟨L ++ [t],n + K,A2,c2,by have:=hx.1;have:=HN.out;omega,by rw [eT],hid (fun W hb=>?_),hid ⟨HO4.out,fun u hu=>?_,?_,?_,hx.1,?_,hb4⟩⟩
    ·rw [eT,← List.drop_drop]
     have:=HP2.out W (l.drop n) HTL.out (HVN.out W hb)
     exact this
    ·rcases List.mem_append.1 hu with hu | hu
     ·exact ((HR1.out.2.1 u hu).below hal).grownB (OwnE.alloc HR1.out.1 _) HG4.out
     ·obtain rfl:=List.mem_singleton.1 hu
      exact (HO.out.below hal).grownB (OwnE.alloc HR1.out.1 _) HG4.out
    ·rw [← HR.out.r,hx.2.1,bls_append,List.append_assoc,HTT.out]
     rfl
    ·rw [hx.2.2,HR.out.u]
    ·have:=HR.out.m
     rw [List.length_append,List.length_singleton]
     omega
   case measure=>
    have:=HKB.out.1
    have:=HKK.out
    simp only
    omega
  ·have hE1:¬ E=1:=by rw [← HE.out];exact h1
   rw [decide_eq_false hE1] at h1e
   have HST:=hid (recs_stop h1)
   clear h1 hE1
   go_wp2_with fail
   refine HC2.out.mono ?_
   rintro e w1 ⟨x,rfl,ho,hb⟩
   have HR1:Hid (OwnB w.heap.size w1 (.slice XA M XC) L∧(∀ t ∈ L,Own w.heap.size w1 t.v t.l)∧Below w.heap.size w w1):=hid ⟨OwnE.below HR.out.o hb,fun u hu=>(HR.out.t u hu).below hb,HR.out.b.trans (hb.mono HSZ.out)⟩
   clear ho hb HC2
   go_wp2_with fail
   go_ret2
   have h1:=HST.out
   have h2:=HR.out.r
   have h3:=HR.out.u
   rw [h1.1,List.append_nil] at h2
   rw [h1.2] at h3
   have hy:=HVN.out w1 HR1.out.2.2
   rw [h3] at hy
   exact ⟨_,L,_,rfl,HR1.out.1,HR1.out.2.1,h2,hy,by rw [← HN.out];exact Nat.le_trans HR.out.m HR.out.n0,HR1.out.2.2⟩
theorem two_bool (n:Nat):((n:Int) == 2)=decide (n=2):=by
 by_cases e:n=2
 ·subst e;rfl
 ·rw [decide_eq_false e]
  simp
  omega
theorem one_bool (n:Nat):((n:Int) == 1)=decide (n=1):=by
 by_cases e:n=1
 ·subst e;rfl
 ·rw [decide_eq_false e]
  simp
  omega
set_option maxHeartbeats 1600000 in
theorem refSpoilt19_any (v:Value) (l:List UInt8) (w:World) (hv:Byt w v l) (hs:l.length≤900000):
  Calls Try.prog 31 #[v] w fun e w'=>e=.returned (.bool (spoiltB l))∧Below w.heap.size w w':=by
 obtain ⟨A,c,rfl⟩:=hv.shape
 obtain ⟨_,hc,hm,hr⟩:=hv.at_
 obtain ⟨N,HN⟩:∃ L:Nat,Hid (l.length=L):=⟨_,hid rfl⟩
 have HV:Hid (∀ W,Below w.heap.size w W→Byt W (.slice A N c) l):=hid (fun W hb=>by have:=hv.below hb;rw [HN.out] at this;exact this)
 have C0:=hid (refNext_own _ _ w hv hs)
 have h3:=two_bool (nextN l)
 obtain ⟨E,HE⟩:∃ q:Nat,Hid (nextN l=q):=⟨_,hid rfl⟩
 rw [HE.out] at h3
 rw [HE.out] at C0
 rw [HN.out] at hc hs C0 ⊢
 have HS:=hid hs
 have HC:=hid hc
 clear hv hm hr hc hs
 by_cases h2:E=2
 ·rw [spoilt_no (by rw [HE.out];exact h2)]
  rw [decide_eq_true h2] at h3
  clear h2
  go_enter Try.func31,Try.ntmps31
  go_wp2_with fail
  refine C0.out.mono ?_
  rintro e w1 ⟨x,rfl,_,hb⟩
  go_wp2_with fail
  go_ret
  exact ⟨rfl,hb⟩
 rw [decide_eq_false h2] at h3
 have H2:Hid (¬ nextN l=2):=hid (by rw [HE.out];exact h2)
 obtain ⟨S,HSP⟩:∃ q:Bool,Hid (spoiltB l=q):=⟨_,hid rfl⟩
 rw [HSP.out]
 clear h2 HE
 go_enter Try.func31,Try.ntmps31
 go_wp2_with fail
 refine C0.out.mono ?_
 rintro e w1 ⟨x,rfl,ho,hb⟩
 have HB1:=hid hb
 obtain ⟨xA,xn,xc,rfl⟩:∃ A n c,x=.slice A n c:=by
  obtain ⟨A,c,e⟩:=ho.byt.shape
  exact ⟨_,_,_,e⟩
 clear hb C0 ho
 go_wp2_with fail
 clear h3
 go_loopw [5] (fun s wr=>∃ k:Nat,k≤N∧s=.int .i64 (k:Int)∧Hid (∀ j,j < k→¬ nextN (l.drop j)=1)∧Hid (Below w.heap.size w wr)) (fun s _=>N - (intOf s).toNat)
 case atStart=>exact ⟨0,Nat.zero_le _,rfl,hid (fun j hj=>absurd hj (Nat.not_lt_zero _)),HB1⟩
 case round=>
  obtain ⟨k,hk,rfl,HNO,HB⟩:=hrel
  by_cases hlt:k < N
  ·have hI:(k:Int) < (N:Int):=by omega
   obtain ⟨A2,c2,r2,p2⟩:=cut_l A c N k hk HC.out
   have r2':=r2 wr
   have HB2:=hid (p2 wr l HN.out (HV.out wr HB.out))
   have C:=refNext_own _ _ wr HB2.out (by rw [List.length_drop,HN.out];have:=HS.out;omega)
   have h0:=one_bool (nextN (l.drop k))
   obtain ⟨E2,HE2⟩:∃ q:Nat,Hid (nextN (l.drop k)=q):=⟨_,hid rfl⟩
   rw [HE2.out] at h0
   rw [HE2.out] at C
   have HC2:=hid C
   have HSZ:=hid HB.out.size
   have HLT:=hid hlt
   have HWI:Hid (wrap64 ((k:Int) + 1)=((k + 1:Nat):Int)):=hid (by have:=HS.out;unfold wrap64;omega)
   clear C r2 p2 HB2 hk
   by_cases h1:E2=1
   ·have HSY:Hid (S=true):=hid (by rw [← HSP.out];exact spoilt_yes H2.out (by rw [HN.out];exact hlt) (by rw [HE2.out];exact h1))
    rw [decide_eq_true h1] at h0
    clear h1 HE2
    go_wp2_with fail
    refine HC2.out.mono ?_
    rintro e w2 ⟨x,rfl,_,hb⟩
    clear r2'
    go_wp2_with fail
    go_ret
    exact ⟨by rw [HSY.out];rfl,HB.out.trans (hb.mono HSZ.out)⟩
   ·have H1:Hid (¬ nextN (l.drop k)=1):=hid (by rw [HE2.out];exact h1)
    rw [decide_eq_false h1] at h0
    clear h1 HE2
    go_wp2_with fail
    refine HC2.out.mono ?_
    rintro e w2 ⟨x,rfl,_,hb⟩
    have HBN:=hid (HB.out.trans (hb.mono HSZ.out))
    clear r2' hb
    go_wp2_with fail
    go_roundw
    case rel=>exact ⟨k + 1,HLT.out,by rw [HWI.out],hid (fun j hj=>by
     by_cases e:j=k
     ·subst e
      exact H1.out
     ·exact HNO.out j (by omega)),HBN⟩
    case measure=>
     have:=HLT.out
     simp only [HWI.out]
     simp only [intOf]
     omega
  ·have hI:¬ (k:Int) < (N:Int):=by omega
   obtain rfl:k=N:=by omega
   have HSF:Hid (S=false):=hid (by rw [← HSP.out];exact spoilt_all (fun j hj=>HNO.out j (by rw [HN.out] at hj;exact hj)))
   clear hlt hk
   go_wp2_with fail
   go_ret
   exact ⟨by rw [HSF.out];rfl,HB.out⟩
end Go.Proofs.Ytfpgglclpkcdhaa
