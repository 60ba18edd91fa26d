/-
  wal's functions: records, torn, settle, keep.
-/
import Derived.Test.YtfpgglclpkcdhaaDkCodeB
import Derived.Test.YtfpgglclpkcdhaaWaWords
namespace Go.Proofs.Ytfpgglclpkcdhaa
set_option maxRecDepth 20000
open Go.RowKit
attribute [local go_sem ↓] exec_cutL
structure RcS (w W:World) (l:List UInt8) (x:Value) (L:List BtM) (n:Nat):Prop where
 o:OwnB w.heap.size W x L
 t:∀ t ∈ L,Own w.heap.size W t.v t.l
 r:bls L ++ recsL (l.drop n)=recsL l
 u:tailL (l.drop n)=tailL l
 n0:n≤l.length
 m:L.length≤n
 b:Below w.heap.size w W
theorem rcS_next {l:List UInt8} {n:Nat} (h:nextN (l.drop n)=1):9≤8 + numL (l.drop n)∧n + (8 + numL (l.drop n))≤l.length∧recsL (l.drop n)=nextB (l.drop n) :: recsL (l.drop (n + (8 + numL (l.drop n))))∧tailL (l.drop (n + (8 + numL (l.drop n))))=tailL (l.drop n):=by
 obtain ⟨h0,h1,h2⟩:=next_is h
 obtain ⟨p,q⟩:=recs_step h
 have e:=next_in h
 have h3:=congrArg List.length h2
 rw [List.length_append,recS_length,List.length_drop,List.length_drop,List.length_drop] at h3
 have h8:=nextN_len h
 rw [List.length_drop] at h8
 rw [List.drop_drop,e] at p q
 rw [e] at h0 h3
 exact ⟨by omega,by omega,p,q.symm⟩
set_option maxHeartbeats 1600000 in
theorem walRecords_any (v:Value) (l:List UInt8) (w:World) (hv:Byt w v l) (hs:l.length≤900000):
  Calls Try.prog 26 #[v] w fun e w'=>∃ x L n,e=.returned (.tuple #[x,.int .i64 ((n:Nat):Int)])∧OwnB w.heap.size w' x L∧(∀ t ∈ L,Own w.heap.size w' t.v t.l)∧bls L=recsL l∧l.drop n=tailL l∧n≤l.length∧L.length≤n∧Below w.heap.size w w':=by
 obtain ⟨A,c,rfl⟩:=hv.shape
 obtain ⟨_,hc,hm,hr⟩:=hv.at_
 obtain ⟨N,HN⟩:∃ L:Nat,Hid (l.length=L):=⟨_,hid rfl⟩
 have HV:Hid (∀ W,Below w.heap.size w W→Byt W (.slice A N c) l):=hid (fun W hb=>by have:=hv.below hb;rw [HN.out] at this;exact this)
 rw [HN.out] at hc hs ⊢
 have HS:=hid hs
 have HC:=hid hc
 clear hv hm hr hc hs
 go_enter Try.func26,Try.ntmps26
 go_wp2_with fail
 go_loopw [4,5] (fun s4 s5 wr=>∃ (L:List BtM) (n:Nat),n≤N∧s5=.int .i64 (n:Int)∧Hid (RcS w wr l s4 L n)) (fun _ s5 _=>N - (intOf s5).toNat)
 case atStart=>exact ⟨[],0,Nat.zero_le _,rfl,hid ⟨OwnE.nil _ _,fun t ht=>absurd ht (by simp),rfl,rfl,Nat.zero_le _,Nat.le_refl _,Below.refl _ _⟩⟩
 case round=>
  obtain ⟨L,n,hn,rfl,HR⟩:=hrel
  obtain ⟨XA,XC,rfl⟩:=HR.out.o.shape
  obtain ⟨M,HM⟩:∃ q:Nat,Hid (L.length=q):=⟨_,hid rfl⟩
  rw [HM.out] at HR ⊢
  obtain ⟨A2,c2,r2,p2⟩:=cut_l A c N n hn HC.out
  have r2':=r2 wr
  have HB2:=hid (p2 wr l HN.out (HV.out wr HR.out.b))
  have C:=next_own _ _ wr HB2.out (by rw [List.length_drop,HN.out];have:=HS.out;omega)
  have HSZ:=hid HR.out.b.size
  obtain ⟨K,HK⟩:∃ q:Nat,Hid (nextK (l.drop n)=q):=⟨_,hid rfl⟩
  have HNN:=hid hn
  by_cases h1:nextN (l.drop n)=1
  ·have hE:nextE (l.drop n)=0:=by unfold nextE;rw [if_pos h1]
   have HX:=hid (rcS_next h1)
   have HKE:Hid (K=8 + numL (l.drop n)):=hid (by rw [← HK.out];unfold nextK;rw [if_pos h1])
   rw [hE,HK.out] at C
   have HC2:=hid C
   clear C hn r2 p2 h1 hE HB2
   go_wp2_with fail
   refine HC2.out.mono ?_
   rintro e w1 ⟨x,rfl,ho,hb⟩
   obtain ⟨t,hte,htl⟩:=byt_bt ho.byt
   have HO:Hid (Own w.heap.size w1 t.v t.l):=hid (by rw [← hte,← htl];exact ho.more HSZ.out)
   have HTL:=hid htl
   have HR1:Hid (OwnB w.heap.size w1 (.slice XA M XC) L∧(∀ t ∈ L,Own w.heap.size w1 t.v t.l)∧Below w.heap.size w w1):=hid ⟨OwnE.below HR.out.o hb,fun u hu=>(HR.out.t u hu).below hb,HR.out.b.trans (hb.mono HSZ.out)⟩
   subst hte
   clear htl ho hb HC2 r2'
   obtain ⟨TA,TN,TC,HTV⟩:∃ A n c,Hid (t.v=.slice A n c):=⟨_,_,_,hid rfl⟩
   rw [HTV.out]
   have HLL:Hid (M + 1≤1000000):=hid (by have:=HR.out.m;have:=HR.out.n0;have:=HS.out;have:=HM.out;rw [HN.out] at *;omega)
   go_wp2_with (at_builtin;go_loud (refine (eltBt (fun _=>True)).wpList_append (x:=.slice (some ⟨w1.heap.size,0,none⟩) 1 1) (m:=[t]) (l:=L) (B:=w.heap.size) rfl (.tmp 21) (.tmp 23) rfl rfl rfl (fun _ _=>trivial) (OwnE.alloc HR1.out.1 (.cells #[.slice TA TN TC] 33)) (els_one w1 t #[.slice TA TN TC] 33 (by rw [← HTV.out];rfl)) (by have:=HLL.out;have:=HM.out;simp only [List.length_cons,List.length_nil];omega) (Nat.le_trans HR1.out.2.2.size (al_le _ _)) ?_;intro v4 w4 ho4 hg4 _;have HG4:=hid hg4;have HO4:=hid ho4;clear hg4 ho4))
   have hwi:wrap64 ((n:Int) + (K:Int))=((n + K:Nat):Int):=by
    have:=HX.out.2.1
    have:=HKE.out
    have:=HS.out
    rw [HN.out] at *
    unfold wrap64
    omega
   go_roundw
   case rel=>
    have hx:=HX.out
    rw [← HKE.out] at hx
    have hal:Below w1.heap.size w1 (w1.alloc (.cells #[.slice TA TN TC] 33)):=(Below.refl _ _).alloc (Nat.le_refl _) _
    refine ⟨L ++ [t],n + K,by have:=hx.2.1;have:=HN.out;omega,by rw [hwi],hid ⟨HO4.out,fun u hu=>?_,?_,?_,by exact hx.2.1,?_,?_⟩⟩
    ·rcases List.mem_append.1 hu with hu | hu
     ·exact ((HR1.out.2.1 u hu).below hal).grownB (OwnE.alloc HR1.out.1 _) HG4.out
     ·obtain rfl:=List.mem_singleton.1 hu
      exact (HO.out.below hal).grownB (OwnE.alloc HR1.out.1 _) HG4.out
    ·rw [← HR.out.r,hx.2.2.1,bls_append,List.append_assoc,HTL.out]
     rfl
    ·rw [hx.2.2.2,HR.out.u]
    ·have:=HR.out.m
     have:=hx.1
     rw [List.length_append,List.length_singleton]
     omega
    ·exact (HR1.out.2.2.alloc HR1.out.2.2.size _).grown HG4.out (Nat.le_trans HR1.out.2.2.size (al_le _ _)) (fun k e=>(OwnB.blk HR1.out.1 e).1)
   case measure=>
    have:=HX.out
    have:=HKE.out
    have:=HN.out
    simp only [hwi]
    simp only [intOf]
    omega
  ·have hE:((nextE (l.drop n):Int) != 0)=true:=by unfold nextE;rw [if_neg h1];split <;> rfl
   obtain ⟨E,HE⟩:∃ q:Nat,Hid (nextE (l.drop n)=q):=⟨_,hid rfl⟩
   have HST:=hid (recs_stop h1)
   rw [HE.out] at hE C
   rw [HK.out] at C
   have HC2:=hid C
   clear C hn r2 p2 h1 HB2
   go_wp2_with fail
   refine HC2.out.mono ?_
   rintro e w1 ⟨x,rfl,ho,hb⟩
   have HR1:Hid (OwnB w.heap.size w1 (.slice XA M XC) L∧(∀ t ∈ L,Own w.heap.size w1 t.v t.l)∧Below w.heap.size w w1):=hid ⟨OwnE.below HR.out.o hb,fun u hu=>(HR.out.t u hu).below hb,HR.out.b.trans (hb.mono HSZ.out)⟩
   clear ho hb HC2 r2'
   go_wp2_with fail
   go_ret2
   have h1:=HST.out
   have h2:=HR.out.r
   have h3:=HR.out.u
   rw [h1.1,List.append_nil] at h2
   rw [h1.2] at h3
   exact ⟨_,L,n,rfl,HR1.out.1,HR1.out.2.1,h2,h3,by have:=HR.out.n0;rw [HN.out] at this;exact this,HR.out.m,HR1.out.2.2⟩
end Go.Proofs.Ytfpgglclpkcdhaa
