/-
  WalSpoilt: the law's walk. Printed with gensp.py.
-/
import Derived.Test.YtfpgglclpkcdhaaWaKpWords
import Derived.Test.YtfpgglclpkcdhaaWaSpWords
namespace Go.Proofs.Ytfpgglclpkcdhaa
set_option maxRecDepth 20000
open Go.RowKit
attribute [local go_sem ↓] exec_alloc_qb exec_store_qb exec_load_qb exec_build_qb exec_eq_qb
theorem dkE_more {w:World} {b B B':Nat} {D:DkM} {va vt:Value} (h:DkE w b B D va vt) (hB:B'≤B):DkE w b B' D va vt:=⟨h.p,h.o.more hB,h.t,h.f⟩
theorem NoWl.below {w w':World} {v:Value} (h:NoWl w v) (hb:Below w.heap.size w w'):NoWl w' v:=by
 rcases h with h | ⟨b,h,hc⟩
 ·exact .inl h
 ·exact .inr ⟨b,h,(hb.block b (lt_of_block hc)).trans hc⟩
theorem left_step {D:DkM} (h:D.left=-1):stepDk D=D:=by
 unfold stepDk
 rw [if_neg (by omega),if_pos (by omega)]
theorem left_app {D:DkM} (h:D.left=-1) (b:List UInt8):(appD D b).left=-1:=by
 unfold appD
 split
 ·exact h
 split
 ·exact h
 split
 ·exact h
 split
 ·exact h
 ·rw [left_step h]
  exact h
theorem left_sync {D:DkM} (h:D.left=-1):(syncD D).left=-1:=by
 unfold syncD
 split
 ·exact h
 split
 ·exact h
 ·rw [left_step h]
  exact h
theorem left_put {V:WaM} (h:V.d.left=-1) (l:List (List UInt8)):(putD V l).left=-1:=by
 unfold putD
 split
 ·exact h
 split
 ·exact h
 split
 ·exact h
 split
 ·exact left_app h _
 ·exact left_sync (left_app h _)
def SpSt (w W:World) (b:Nat) (S:List UInt8):Prop:=∃ D va vt,DkE W b w.heap.size D va vt∧D.Good∧D.m=[]∧D.left=-1∧D.dead=false∧D.s=S∧Below w.heap.size w W∧w.heap.size≤b
theorem SpSt.spoil {w W:World} {b:Nat} {a z l c:List UInt8} (h:SpSt w W b (a ++ (badR l c ++ z))) {j:Nat} (hj:j < c.length) (x:UInt8):
  Calls Try.prog 15 #[.pointer (some ⟨b,0,none⟩),.int .i64 ((a.length + 8 + j:Nat):Int),.int .u8 (x.toNat:Int)] W fun e w'=>∃ E,e=.returned (.int .i64 E)∧SpSt w w' b (a ++ (badR l (c.set j (c.getD j 0 ^^^ x)) ++ z))∧(∀ (g:Nat) (C:Array Value) (T:TypeId),W.heap[g]?=some (.cells C T (0,0))→67≠T→5≠T→w'.heap[g]?=some (.cells C T (0,0))):=by
 obtain ⟨D,va,vt,h1,g,hm,hl,hd,hs,hb,hbb⟩:=h
 refine (dkSpoilG_any h1 g _ x).mono ?_
 rintro e w' ⟨E,rfl,h2,t2⟩
 obtain ⟨r1,r2,r3,r4⟩:=spoilD_rest D ((a.length + 8 + j:Nat):Int) x
 obtain ⟨l1,l2⟩:=spoilD_lens D ((a.length + 8 + j:Nat):Int) x
 have hm2:(spoilD D ((a.length + 8 + j:Nat):Int) x).m=[]:=List.eq_nil_of_length_eq_zero (by rw [l2,hm];rfl)
 have hall:=spoilD_all D ((a.length + 8 + j:Nat):Int) x hd
 rw [hm2,hm,List.append_nil,List.append_nil,hs,spoil_in a z l c hj x] at hall
 exact ⟨E,rfl,⟨_,va,vt,h2,spoilD_good g _ _,hm2,r3.trans hl,r4.trans hd,hall,t2.below hb hbb (fun k e=>(h1.o.base e).1) hb.size,hbb⟩,fun g C T hx n1 n2=>h1.other hx n1 n2 t2⟩
theorem SpSt.open {w W:World} {b:Nat} {pre post:List (List UInt8)} {l:List UInt8} {f i:Nat} {y:Nat→UInt8} (h:SpSt w W b (flatR pre ++ (badR l (turnC l f y i) ++ flatR post))) (hp:MayR pre) (hq:MayR post) (hn:post≠[]) (h0:1≤l.length) (h1:l.length≤65536) (hi:i≤4) (hf:f + i≤l.length) (hz:(flatR pre ++ (badR l (turnC l f y i) ++ flatR post)).length≤900000):
  Calls Try.prog 9 #[.pointer (some ⟨b,0,none⟩)] W fun e w'=>∃ p A n c,e=.returned (.tuple #[p,.slice A n c,.int .i64 (if someY y i=true then 10 else 0)])∧SpSt w w' b (flatR pre ++ (badR l (turnC l f y i) ++ flatR post))∧(∀ (g:Nat) (C:Array Value) (T:TypeId),W.heap[g]?=some (.cells C T (0,0))→67≠T→5≠T→w'.heap[g]?=some (.cells C T (0,0))):=by
 obtain ⟨D,va,vt,hE,g,hm,hl,hd,hs,hb,hbb⟩:=h
 obtain ⟨o1,o2⟩:=open_bad hm hl hd hp hq hn h0 h1 hi hf hs
 refine (walOpen_any hE g (by rw [hs,hm];simp only [List.length_nil];omega)).mono ?_
 rintro e w' ⟨p,x,rfl,⟨va',vt',hE',t',_,_,hy⟩,hno⟩
 rw [o2] at hE'
 rw [o1] at hy hno ⊢
 obtain ⟨A,n,c,rfl⟩:∃ A n c,x=.slice A n c:=by
  by_cases e:(if someY y i=true then (10:Int) else 0)=0
  ·obtain ⟨_,L,_,_,_,ho,_⟩:=hy e
   obtain ⟨A,c,e⟩:=ho.shape
   exact ⟨A,_,c,e⟩
  ·exact ⟨_,_,_,(hno e).2⟩
 exact ⟨p,A,n,c,rfl,⟨D,va',vt',hE',g,hm,hl,hd,hs,t'.below hb hbb (fun k e=>(hE.o.base e).1) hb.size,hbb⟩,fun g C T hx n1 n2=>hE.other hx n1 n2 t'⟩
theorem SpSt.below {w W W':World} {b:Nat} {S:List UInt8} (h:SpSt w W b S) (hb:Below W.heap.size W W'):SpSt w W' b S:=by
 obtain ⟨D,va,vt,hE,g,hm,hl,hd,hs,hbb,h0⟩:=h
 exact ⟨D,va,vt,hE.below hb,g,hm,hl,hd,hs,hbb.trans (hb.mono hbb.size),h0⟩
theorem SpSt.bel {w W:World} {b:Nat} {S:List UInt8} (h:SpSt w W b S):Below w.heap.size w W:=by
 obtain ⟨_,_,_,_,_,_,_,_,_,hb,_⟩:=h
 exact hb
theorem sp_rem (a q:Nat):(wrap64 (a:Int)).tmod (q:Int)=if a≤9223372036854775807 then ((a % q:Nat):Int) else (wrap64 (a:Int)).tmod (q:Int):=by
 split
 ·have:wrap64 (a:Int)=(a:Int):=by unfold wrap64;omega
  rw [this]
  rfl
 ·rfl
theorem sp_place {L:List BtM} {k i:Nat} (hi:i < L.length) (h:i < k):(flatR ((bls L).take (min (i + 1) k))).length=(flatR ((bls L).take (min i k))).length + 8 + L[i].l.length:=by
 rw [Nat.min_eq_left (by omega),Nat.min_eq_left (by omega)]
 have e:=bls_take hi
 unfold bls at e ⊢
 rw [← List.map_take,← List.map_take,e,flatR_snoc,List.length_append,recS_length]
 omega
theorem sp_split {L:List BtM} {k:Nat} (hk:k < L.length):flatR (bls L)=flatR ((bls L).take k) ++ (badR L[k].l L[k].l ++ flatR ((bls L).drop (k + 1))):=by
 have hl:k < (bls L).length:=by rw [bls_length];exact hk
 have e:(bls L)[k]=L[k].l:=by simp [bls]
 conv=>lhs;rw [← List.take_append_drop k (bls L),List.drop_eq_getElem_cons hl,e]
 rw [badR_same]
 simp [flatR]
set_option maxHeartbeats 25600000 in
theorem lawWalSpoilt_any (v:Value) (L:List BtM) (x:TnM) (w:World) (hv:Els btl 1 w v L) (hbt:Bts w L) (hx:TnOk x):
  Calls Try.prog 5 #[v,.agg (tnc x)] w fun e w'=>e=.returned (.bool true)∧Below w.heap.size w w':=by
 have HFIN:Hid (∀ W,Below w.heap.size w W→Calls Try.prog 7 #[] W fun e w'=>e=.returned (.bool true)∧Below w.heap.size w w'):=hid (fun W hb=>(walAwake_any W).mono fun _ _ ⟨h1,h2⟩=>⟨h1,hb.trans (h2.mono hb.size)⟩)
 obtain ⟨A,d,rfl⟩:=hv.shape
 have HEL:Hid (∀ W,Below w.heap.size w W→Els btl 1 W (.slice A L.length d) L):=hid (fun W hb=>hv.below hb)
 have HCEL:=hid (fun k (hk:k < L.length)=>els_cell hv hk)
 have HBT:=hid hbt
 have HX:=hid hx
 obtain ⟨N,HN⟩:∃ q:Nat,Hid (L.length=q):=⟨_,hid rfl⟩
 obtain ⟨C,HC⟩:∃ q:Array Value,Hid (tnc x=q):=⟨_,hid rfl⟩
 have HTC:Hid (∀ (W:World) (g:Nat),W.heap[g]?=some (.cells C 60 (0,0))→W.cell? ⟨g,0,none⟩=some (.int .u8 (x.a:Int))∧loadQb (.pointer (some ⟨g,1,none⟩)) W=.ok (.value (.agg (q4c x.y0 x.y1 x.y2 x.y3))) W∧W.cell? ⟨g,5,none⟩=some (.int .u16 (x.f:Int))):=hid (fun W g h=>by
  have hc:=coBlk_cell h
  rw [← HC.out] at hc
  refine ⟨(hc 0).trans rfl,loadQb_mid (fun j u hu=>?_),(hc 5).trans rfl⟩
  rw [hc (1 + j)]
  match j,hu with
  | 0,hu=>exact hu
  | 1,hu=>exact hu
  | 2,hu=>exact hu
  | 3,hu=>exact hu
  | j + 4,hu=>simp [q4l] at hu)
 rw [HN.out,HC.out]
 clear hv hbt hx
 go_enter Try.func5,Try.ntmps5
 go_upto_region 1 with (fail)
 have HT0:=hid (heap_alloc_new w (.cells C 60))
 have HB0:Hid (Below w.heap.size w (w.alloc (.cells C 60))):=hid ((Below.refl _ _).alloc (Nat.le_refl _) _)
 generalize (w.alloc (.cells C 60))=w1 at *
 obtain ⟨g3,HG3⟩:∃ q:Nat,Hid (w.heap.size=q):=⟨_,hid rfl⟩
 rw [HG3.out] at HT0 ⊢
 obtain ⟨QC,HQC⟩:∃ q:Array Value,Hid (q4c x.y0 x.y1 x.y2 x.y3=q):=⟨_,hid rfl⟩
 rw [HQC.out] at HTC
 have HQO:Hid (QC.size=4∧QC.all (·.oneCell')=true):=hid (by rw [← HQC.out];exact ⟨rfl,q4c_one ..⟩)
 have HT1:Hid (w1.drew.heap[g3]?=some (.cells C 60 (0,0))):=hid HT0.out
 have HBD:Hid (Below w.heap.size w w1.drew):=hid HB0.out.drew
 have HTA:Hid (∀ o,(w1.drew.alloc o).heap[g3]?=some (.cells C 60 (0,0))):=hid (fun o=>((Below.refl w1.drew.heap.size w1.drew).alloc (Nat.le_refl _) o).block _ (lt_of_block HT1.out) |>.trans HT1.out)
 have hal:=allocQb_eq w1.drew
 have hst:storeQb (.pointer (some ⟨w1.heap.size,0,none⟩)) (.agg QC) (w1.alloc (.cells (q4c 0 0 0 0) 57)).drew=.ok .skip ((w1.alloc (.cells QC 57)).drew):=qb_var w1.drew (Z:=q4c 0 0 0 0) rfl HQO.out.1 HQO.out.2
 refine wp_region_held_drew (S:=fun W=>W.cell? ⟨g3,0,none⟩=some (.int .u8 (x.a:Int))∧loadQb (.pointer (some ⟨g3,1,none⟩)) W=.ok (.value (.agg QC)) W∧W.cell? ⟨g3,5,none⟩=some (.int .u16 (x.f:Int))) (by kernel_rfl) (HTC.out _ _ HT1.out) (fun hHeld=>?_)
 refine' tkq3 0 rfl ?_;try simp only [lay]
 refine' tkq3 1 rfl ?_;try simp only [lay]
 refine' tkq3 2 rfl ?_;try simp only [lay]
 refine' tkq3 3 rfl ?_;try simp only [lay]
 refine' tkq3 4 rfl ?_;try simp only [lay]
 refine' tkq3 5 rfl ?_;try simp only [lay]
 refine call_on (i:=6) rfl (by kernel_rfl) (by rfl) (fun K hK=>?_)
 go_simp
 refine hK.out _ _ (HTC.out _ _ (HTA.out _)) (fun hHeld=>?_)
 clear hK K
 try simp only [lay]
 refine' tkq 7 rfl ?_;try simp only [lay]
 refine call_on (i:=8) rfl (by kernel_rfl) (by rfl) (fun K hK=>?_)
 go_simp
 refine hK.out _ _ (HTC.out _ _ (HTA.out _)) (fun hHeld=>?_)
 clear hK K
 try simp only [lay]
 refine' tkq 9 rfl ?_;try simp only [lay]
 refine wpAnyH_done (by kernel_rfl) ?_ _
 clear hHeld hal hst
 have HQ6:Hid (((w1.alloc (.cells QC 57)).drew).heap[w1.heap.size]?=some (.cells QC 57 (0,0))):=hid (heap_alloc_new w1 _)
 have HB2:Hid (Below w.heap.size w ((w1.alloc (.cells QC 57)).drew)):=hid ((HB0.out.alloc HB0.out.size _).drew)
 obtain ⟨g6,HG6⟩:∃ q:Nat,Hid (w1.heap.size=q):=⟨_,hid rfl⟩
 rw [HG6.out] at HQ6 ⊢
 generalize ((w1.alloc (.cells QC 57)).drew)=w2 at *
 clear HTA HT1 HT0 HTC HB0 HBD
 have HLQ:Hid (∀ W:World,W.heap[g6]?=some (.cells QC 57 (0,0))→loadQb (.pointer (some ⟨g6,0,none⟩)) W=.ok (.value (.agg QC)) W∧∀ i,i < 4→W.cell? ⟨g6,i,none⟩=some (.int .u8 ((x.y i).toNat:Int))):=hid (fun W h=>by
  have hc:=coBlk_cell h
  rw [← HQC.out] at hc ⊢
  refine ⟨loadQb_mid (fun j u hu=>?_),fun i hi=>(hc i).trans (tn_cell x hi)⟩
  rw [Nat.zero_add,hc j]
  simpa [q4c] using hu)
 obtain ⟨z,HZ⟩:∃ q:Bool,Hid ((decide (x.y0=0) && (decide (x.y1=0) && (decide (x.y2=0) && decide (x.y3=0))))=q):=⟨_,hid rfl⟩
 have hq1:=(HLQ.out w2 HQ6.out).1
 have hq2:=buildQb_eq
 have hq3:=eqQb_eq x.y0 x.y1 x.y2 x.y3
 rw [HQC.out,HZ.out] at hq3
 obtain ⟨ZC,HZC⟩:∃ q:Array Value,Hid (q4c 0 0 0 0=q):=⟨_,hid rfl⟩
 rw [HZC.out] at hq3
 simp only [HZC.out] at hq2
 by_cases n2:N < 2
 ·have n2i:(N:Int) < 2:=by omega
  clear hq1 hq2 hq3
  go_wp2_with fail
  refine (HFIN.out w2 HB2.out).mono ?_
  rintro e w3 ⟨rfl,hb3⟩
  go_wp2_with fail
  go_ret
  exact ⟨rfl,hb3⟩
 have n2i:¬ (N:Int) < 2:=by omega
 by_cases n6:6 < N
 ·have n6i:(6:Int) < (N:Int):=by omega
  clear hq1 hq2 hq3
  go_wp2_with fail
  refine (HFIN.out w2 HB2.out).mono ?_
  rintro e w3 ⟨rfl,hb3⟩
  go_wp2_with fail
  go_ret
  exact ⟨rfl,hb3⟩
 have n6i:¬ (6:Int) < (N:Int):=by omega
 cases z with
 | true=>
  go_wp2_with fail
  refine (HFIN.out w2 HB2.out).mono ?_
  rintro e w3 ⟨rfl,hb3⟩
  go_wp2_with fail
  go_ret
  exact ⟨rfl,hb3⟩
 | false=>
 have HNN:Hid (2≤N∧N≤6):=hid (by omega)
 go_upto_region 4 with (fail)
 clear hq1 hq2 hq3 n2i n6i n2 n6
 obtain ⟨M,HM⟩:∃ q:Nat,Hid (N - 1=q):=⟨_,hid rfl⟩
 have HMB:Hid (1≤M∧M≤5∧M < N):=hid (by have:=HM.out;have:=HNN.out;omega)
 obtain ⟨a,HA⟩:∃ q:Nat,Hid (x.a=q):=⟨_,hid rfl⟩
 have HA1:Hid (a≤255):=hid (by rw [← HA.out];exact HX.out.1)
 rw [HA.out]
 have hs1:(N:Int) - 1=(M:Int):=by have:=HM.out;have:=HNN.out;omega
 have hM0:((M:Int) == 0)=false:=by have:=HMB.out;simp;omega
 have hM1:¬ (M:Int)=0:=by have:=HMB.out;omega
 have hwm:wrap64 (M:Int)=(M:Int):=by have:=HMB.out;unfold wrap64;omega
 have hwa:wrap64 (a:Int)=(a:Int):=by have:=HA1.out;unfold wrap64;omega
 obtain ⟨k,HK⟩:∃ q:Nat,Hid (a % M=q):=⟨_,hid rfl⟩
 have hrm:((a:Int)).tmod (M:Int)=(k:Int):=by rw [← HK.out];rfl
 have HKM:Hid (k < M∧k + 1 < N):=hid (by
  have h1:k < M:=by rw [← HK.out];exact Nat.mod_lt _ (by have:=HMB.out;omega)
  have:=HMB.out
  omega)
 go_upto_region 5 with (fail)
 clear hwm hwa hrm hs1 hM0 hM1 HK HA HA1
 have HQL:Hid (w2.heap[g6]?=some (.cells QC 57 (0,0))):=HQ6
 obtain ⟨P,HP⟩:∃ q:Nat→Nat,Hid (∀ i,(flatR ((bls L).take (min i k))).length=q i):=⟨fun i=>(flatR ((bls L).take (min i k))).length,hid (fun _=>rfl)⟩
 have HP0:Hid (P 0=0):=hid (by rw [← HP.out,Nat.zero_min];rfl)
 have HPB:Hid (∀ i,i≤N→(∀ j (h:j < L.length),j < i→L[j].l.length≤60)→P i≤68 * i):=hid (fun i=>by
  induction i with
  | zero=>intro _ _;rw [HP0.out];omega
  | succ i ih=>
   intro hi hj
   have h1:=ih (by omega) (fun j h hj2=>hj j h (by omega))
   have hiL:i < L.length:=by rw [HN.out];omega
   by_cases hk:i < k
   ·have e:=sp_place hiL hk
    rw [HP.out,HP.out] at e
    have:=hj i hiL (by omega)
    omega
   ·have e:P (i + 1)=P i:=by rw [← HP.out,← HP.out,Nat.min_eq_right (by omega),Nat.min_eq_right (by omega)]
    omega)
 go_wp2_with fail
 go_loopw [9,10] (fun s9 s10 wr=>∃ i:Nat,i≤N∧s10=.int .i64 (i:Int)∧s9=.int .i64 (P i:Int)∧Hid (∀ j (h:j < L.length),j < i→1≤L[j].l.length∧L[j].l.length≤60)∧wr=w2) (fun _ s10 _=>N - (intOf s10).toNat)
 case atStart=>exact ⟨0,Nat.zero_le _,rfl,by rw [HP0.out];rfl,hid (fun _ _ h=>absurd h (Nat.not_lt_zero _)),rfl⟩
 case round=>
  obtain ⟨i,hi,rfl,rfl,HJ,rfl⟩:=hrel
  by_cases hlt:i < N
  ·have hI:(i:Int) < (N:Int):=by omega
   have hiL:i < L.length:=by rw [HN.out];exact hlt
   obtain ⟨b,off,rfl,hc⟩:=HCEL.out i hiL
   have c1:=hc wr HB2.out
   have HPI:=hid (HPB.out i hi (fun j h hj=>(HJ.out j h hj).2))
   have HPS:Hid (i < k→P (i + 1)=P i + 8 + L[i].l.length):=hid (fun h=>by
    have e:=sp_place hiL h
    rw [HP.out,HP.out] at e
    exact e)
   have HPE:Hid (¬ i < k→P (i + 1)=P i):=hid (fun h=>by rw [← HP.out,← HP.out,Nat.min_eq_right (by omega),Nat.min_eq_right (by omega)])
   have HJN:Hid (1≤L[i].l.length∧L[i].l.length≤60→∀ j (h:j < L.length),j < i + 1→1≤L[j].l.length∧L[j].l.length≤60):=hid (fun h j hj hji=>by
    by_cases e:j=i
    ·subst e;exact h
    ·exact HJ.out j hj (by omega))
   generalize L[i]=t at *
   obtain ⟨T,HT⟩:∃ q:Nat,Hid (t.l.length=q):=⟨_,hid rfl⟩
   unfold BtM.v at c1
   rw [HT.out] at c1 HPS HJN
   obtain ⟨p,HPP⟩:∃ q:Nat,Hid (P i=q):=⟨_,hid rfl⟩
   rw [HPP.out] at HPI HPS HPE ⊢
   have HLT:=hid hlt
   have HN6:Hid (i≤6):=hid (by have:=HNN.out;omega)
   clear hc hiL HJ hlt hi HP HPB HCEL
   by_cases t1:T < 1
   ·have t1i:(T:Int) < 1:=by omega
    go_wp2_with fail
    refine (HFIN.out wr HB2.out).mono ?_
    rintro e w3 ⟨rfl,hb3⟩
    go_wp2_with fail
    go_ret
    exact ⟨rfl,hb3⟩
   have t1i:¬ (T:Int) < 1:=by omega
   by_cases t6:60 < T
   ·have t6i:(60:Int) < (T:Int):=by omega
    go_wp2_with fail
    refine (HFIN.out wr HB2.out).mono ?_
    rintro e w3 ⟨rfl,hb3⟩
    go_wp2_with fail
    go_ret
    exact ⟨rfl,hb3⟩
   have t6i:¬ (60:Int) < (T:Int):=by omega
   have HTB:=hid (show 1≤T∧T≤60 by omega)
   have HWI:Hid (wrap64 ((i:Int) + 1)=((i + 1:Nat):Int)):=hid (by have:=HN6.out;unfold wrap64;omega)
   have HWI2:Hid ((i:Int) + 1=((i + 1:Nat):Int)):=hid (by omega)
   have hpb:p≤1000:=by have:=HPI.out;have:=HN6.out;omega
   by_cases hk:i < k
   ·have hkI:(i:Int) < (k:Int):=by omega
    have HPN:=hid (HPS.out hk)
    clear t1 t6 hk
    go_wp2_with fail
    go_roundw
    case rel=>exact ⟨i + 1,HLT.out,(by first | rw [HWI.out] | go_num),by rw [HPN.out];(first | rfl | (congr 1;omega)),hid (HJN.out HTB.out),(by first | rfl | trivial)⟩
    case measure=>
     have h1:=HLT.out
     first | exact aw_meas h1 HWI.out | (simp [intOf];omega)
   ·have hkI:¬ (i:Int) < (k:Int):=by omega
    have HPN:=hid (HPE.out hk)
    clear t1 t6 hk
    go_wp2_with fail
    go_roundw
    case rel=>exact ⟨i + 1,HLT.out,(by first | rw [HWI.out] | go_num),by rw [HPN.out],hid (HJN.out HTB.out),(by first | rfl | trivial)⟩
    case measure=>
     have h1:=HLT.out
     first | exact aw_meas h1 HWI.out | (simp [intOf];omega)
  ·have hI:¬ (i:Int) < (N:Int):=by omega
   obtain rfl:i=N:=by omega
   have HKL:Hid (k < L.length):=hid (by rw [HN.out];have:=HKM.out;omega)
   have HLL:Hid (∀ j (h:j < L.length),1≤L[j].l.length∧L[j].l.length≤60):=hid (fun j h=>HJ.out j h (by rw [HN.out] at h;exact h))
   have HPK:Hid (P i=(flatR ((bls L).take k)).length):=hid (by rw [← HP.out,Nat.min_eq_right (by have:=HKM.out;omega)])
   have HPB2:=hid (HPB.out i (Nat.le_refl _) (fun j h _=>(HLL.out j h).2))
   obtain ⟨p,HPP⟩:∃ q:Nat,Hid (P i=q):=⟨_,hid rfl⟩
   rw [HPP.out] at HPK HPB2 ⊢
   clear HJ hlt hi HP HPB HP0
   have HNW:=hid (dkNew_yes 10000 wr (by omega) (by omega))
   go_wp2_with fail
   refine HNW.out.mono ?_
   rintro e w3 ⟨rfl,h3,hb3⟩
   have HB3:=hid (HB2.out.trans (hb3.mono HB2.out.size))
   have HO3:=hid (walOpen_any h3 (newDk_good (by omega) (by omega)) (by decide))
   have HE3:=hid h3
   have HQ3:=hid ((hb3.block _ (lt_of_block HQL.out)).trans HQL.out)
   obtain ⟨o1,o2,o3⟩:=open_new 10000
   clear h3 hb3 HNW
   go_wp2_with fail
   refine HO3.out.mono ?_
   rintro e w4 ⟨p4,x4,rfl,⟨va4,vt4,e4,t4,n4,_,hy⟩,_⟩
   rw [o1] at hy
   obtain ⟨c,LL,rfl,hc,hw4,ho4,_,hbl,_⟩:=hy rfl
   rw [o3] at e4
   obtain ⟨XA,XC,rfl⟩:=ho4.shape
   have HB4:=hid (t4.below HB3.out HB2.out.size (fun k e=>(by have:=(HE3.out.o.base e).1;exact Nat.le_trans HB2.out.size this)) HB3.out.size)
   have HQ4:=hid (HE3.out.other HQ3.out (by decide) (by decide) t4)
   have HLL0:Hid (LL.length≤0):=hid (by
    rw [o2] at hbl
    have:=congrArg List.length hbl
    rw [bls_length] at this
    simp only [List.length_nil] at this
    omega)
   have HE4:=hid (dkE_more e4 HB2.out.size)
   have HW4:=hid hw4
   have HC4:=hid (Nat.le_trans HB3.out.size hc)
   rw [o1]
   clear e4 t4 n4 hy hw4 ho4 hbl hc o1 o2 o3 HO3
   obtain ⟨b,HBB⟩:∃ q:Nat,Hid (wr.heap.size=q):=⟨_,hid rfl⟩
   have HBW:Hid (w.heap.size≤b):=hid (by rw [← HBB.out];exact HB2.out.size)
   rw [HBB.out] at HE4 HW4 ⊢
   have HMR:Hid (MayR (bls L)):=hid (fun r hr=>by
    obtain ⟨t,ht,rfl⟩:=List.mem_map.1 hr
    obtain ⟨j,hj,rfl⟩:=List.getElem_of_mem ht
    have:=HLL.out j hj
    omega)
   have HL5:Hid (∀ t ∈ L,t.l.length≤500):=hid (fun t ht=>by
    obtain ⟨j,hj,rfl⟩:=List.getElem_of_mem ht
    have:=HLL.out j hj
    omega)
   have HFZ:Hid ((flatR (bls L)).length≤3048):=hid (by have:=flatR_le L HL5.out;have:=HNN.out;have:=HN.out;omega)
   have HWL:Hid (WellW (newDk 10000) []):=hid ⟨newDk_good (by omega) (by omega),rfl,rfl,rfl,fun r h=>by cases h⟩
   have HPL:=hid (put_live (V:=⟨newDk 10000,LL.length,false,true⟩) HWL.out rfl rfl rfl HMR.out (by
    have:=HFZ.out
    show ((flatR []).length:Int) + (flatR (bls L)).length≤10000
    have:(flatR []).length=0:=rfl
    omega))
   have HLP:=hid (left_put (V:=⟨newDk 10000,LL.length,false,true⟩) rfl (bls L))
   have HPT:=hid (walPut_any (V:=⟨newDk 10000,LL.length,false,true⟩) HE4.out HW4.out rfl HWL.out.g HB4.out.size (by have:=HLL0.out;simp only;omega) (HEL.out w4 HB4.out) (fun t ht=>(HBT.out t ht).below HB4.out) ⟨by have:=HNN.out;have:=HN.out;omega,HL5.out⟩)
   rw [HPL.out.1,HN.out] at HPT
   go_wp2_with fail
   refine HPT.out.mono ?_
   rintro e w5 ⟨rfl,va5,vt5,e5,_,t5,n5,_⟩
   have HQ5:=hid (t5.other HE4.out HQ4.out (by decide) (by decide) (blk_ne HQ4.out HW4.out (by decide)))
   have HB5:=hid (t5.below HB4.out HBW.out HC4.out (fun k e=>(HE4.out.o.base e).1) HB4.out.size)
   have HS5:Hid (SpSt w w5 b (flatR ((bls L).take k) ++ (badR (L[k]'HKL.out).l (turnC (L[k]'HKL.out).l 0 x.y 0) ++ flatR ((bls L).drop (k + 1))))):=hid ⟨_,va5,vt5,e5,HPL.out.2.g,HPL.out.2.m,HLP.out,HPL.out.2.dead,by rw [HPL.out.2.s,List.nil_append];exact sp_split HKL.out,HB5.out,HBW.out⟩
   clear e5 t5 n5 HPT HPL HLP HE4 HW4 HQ4 HQ3 HE3
   obtain ⟨bt,ot,rfl,hct⟩:=HCEL.out k HKL.out
   have HCT:=hid hct
   have HLK:=hid (HLL.out k HKL.out)
   clear hct
   obtain ⟨t,HTT⟩:∃ q:BtM,Hid (L[k]'HKL.out=q):=⟨_,hid rfl⟩
   rw [HTT.out] at HS5 HCT HLK
   obtain ⟨l,HTL⟩:∃ q:List UInt8,Hid (t.l=q):=⟨_,hid rfl⟩
   obtain ⟨T,HTN⟩:∃ q:Nat,Hid (l.length=q):=⟨_,hid rfl⟩
   unfold BtM.v at HCT
   rw [HTL.out] at HS5 HCT HLK
   rw [HTN.out] at HCT HLK
   obtain ⟨pre,HPRE⟩:∃ q:List (List UInt8),Hid ((bls L).take k=q):=⟨_,hid rfl⟩
   obtain ⟨post,HPOST⟩:∃ q:List (List UInt8),Hid ((bls L).drop (k + 1)=q):=⟨_,hid rfl⟩
   have HMP:Hid (MayR pre):=hid (fun r hr=>HMR.out r (List.mem_of_mem_take (by rw [HPRE.out];exact hr)))
   have HMQ:Hid (MayR post):=hid (fun r hr=>HMR.out r (List.mem_of_mem_drop (by rw [HPOST.out];exact hr)))
   have HPN:Hid (post≠[]):=hid (fun e=>by
    have:=congrArg List.length HPOST.out
    rw [List.length_drop,bls_length,e,HN.out] at this
    have:=HKM.out
    simp only [List.length_nil] at *
    omega)
   have HSPL:=hid (sp_split HKL.out)
   rw [HTT.out,HTL.out] at HSPL
   rw [HPRE.out,HPOST.out] at HS5 HSPL
   rw [HPRE.out] at HPK
   have HZ9:Hid (∀ c:List UInt8,c.length=l.length→(flatR pre ++ (badR l c ++ flatR post)).length≤900000):=hid (fun c hc=>by
    have h1:=congrArg List.length HSPL.out
    have h2:=HFZ.out
    rw [List.length_append,List.length_append,badR_length rfl] at h1
    rw [List.length_append,List.length_append,badR_length hc]
    omega)
   have hf6:=HX.out.2
   obtain ⟨f0,HF0⟩:∃ q:Nat,Hid (x.f=q):=⟨_,hid rfl⟩
   rw [HF0.out] at hf6 ⊢
   obtain ⟨f,HF⟩:∃ q:Nat,Hid (f0 % T=q):=⟨_,hid rfl⟩
   have hT1:=HLK.out
   have HFT:Hid (f < T∧T≤60):=hid (by
    have h1:f < T:=by rw [← HF.out];exact Nat.mod_lt _ (by omega)
    omega)
   have hwf:wrap64 (f0:Int)=(f0:Int):=by unfold wrap64;omega
   have hwt:wrap64 (T:Int)=(T:Int):=by unfold wrap64;omega
   have hrm:((f0:Int)).tmod (T:Int)=(f:Int):=by rw [← HF.out];rfl
   have hT0:((T:Int) == 0)=false:=by simp;omega
   have hT2:¬ (T:Int)=0:=by omega
   have c5:=HCT.out w5 HB5.out
   have hkI:(k:Int) < (i:Int):=by have:=HKM.out;omega
   have hkN:k < i:=by have:=HKM.out;omega
   go_upto_region 20 with (fail)
   clear hwf hwt hrm hT0 hT2 c5 hf6 HF0 HF hT1
   go_wp2_with fail
   go_loopw [17,18] (fun s17 s18 wr=>∃ j:Nat,j≤4∧s18=.int .i64 (j:Int)∧f + j≤T∧s17=.bool (someY x.y j)∧Hid (SpSt w wr b (flatR pre ++ (badR l (turnC l f x.y j) ++ flatR post)))∧Hid (wr.heap[g6]?=some (.cells QC 57 (0,0)))) (fun _ s18 _=>4 - (intOf s18).toNat)
   case atStart=>exact ⟨0,Nat.zero_le _,rfl,by have:=HFT.out;omega,rfl,HS5,HQ5⟩
   case round=>
    obtain ⟨wo,rfl⟩:∃ q:World,q=wr:=⟨wr,rfl⟩
    obtain ⟨j,hj,rfl,hjT,rfl,HS,HQ⟩:=hrel
    obtain ⟨sb,HSB⟩:∃ q:Bool,Hid (someY x.y j=q):=⟨_,hid rfl⟩
    rw [HSB.out]
    have HBS:=hid HS.out.bel
    have HJ4:=hid (And.intro hj hjT)
    have c5:=HCT.out wo HBS.out
    obtain ⟨q,HQQ⟩:∃ q:Bool,Hid ((decide (j < 4) && decide (f + j < T))=q):=⟨_,hid rfl⟩
    go_upto_region 22 with (fail)
    go_cut [136] (fun s136 wy=>s136=.bool q∧wy=wo)
    case first=>
     have hfT:=HFT.out
     by_cases j4:j < 4
     ·have j4i:(j:Int) < 4:=by omega
      have HQ2:Hid (decide (f + j < T)=q):=hid (by have:=HQQ.out;rw [decide_eq_true j4,Bool.true_and] at this;exact this)
      by_cases jT:f + j < T
      ·have jTi:(f:Int) + (j:Int) < (T:Int):=by omega
       have HQ3:Hid (q=true):=hid (by rw [← HQ2.out];exact decide_eq_true jT)
       go_wp2_with fail
       go_meet
       case rel=>exact ⟨by rw [HQ3.out],rfl⟩
      ·have jTi:¬ (f:Int) + (j:Int) < (T:Int):=by omega
       have HQ3:Hid (q=false):=hid (by rw [← HQ2.out];exact decide_eq_false jT)
       go_wp2_with fail
       go_meet
       case rel=>exact ⟨by rw [HQ3.out],rfl⟩
     ·have j4i:¬ (j:Int) < 4:=by omega
      have HQ3:Hid (q=false):=hid (by have:=HQQ.out;rw [decide_eq_false j4,Bool.false_and] at this;exact this.symm)
      go_wp2_with fail
      go_meet
      case rel=>exact ⟨by rw [HQ3.out],rfl⟩
    case rest=>
     obtain ⟨rfl,rfl⟩:=hcut
     obtain ⟨wo,rfl⟩:∃ q:World,q=wc:=⟨wc,rfl⟩
     clear hj hjT c5
     cases q with
     | true=>
      have hjt:=HQQ.out
      rw [Bool.and_eq_true,decide_eq_true_eq,decide_eq_true_eq] at hjt
      have HJT:=hid hjt
      have j4i:(j:Int) < 4:=by omega
      have j4n:j < 4:=hjt.1
      have c6:=(HLQ.out wo HQ.out).2 j hjt.1
      have HSPO:=hid (HS.out.spoil (j:=f + j) (by rw [turnC_length,HTN.out];exact hjt.2) (x.y j))
      rw [show (((flatR pre).length + 8 + (f + j):Nat):Int)=(p:Int) + 8 + (f:Int) + (j:Int) from by rw [← HPK.out];omega] at HSPO
      have HCX:Hid ((((x.y j).toNat:Int) != 0)=(x.y j != 0)):=hid (by
       by_cases e:x.y j=0
       ·rw [e];rfl
       ·have h1:(x.y j != 0)=true:=by simpa using e
        have h2:¬ (x.y j).toNat=0:=fun h=>e (UInt8.toNat_inj.1 h)
        rw [h1]
        simp
        exact fun h=>h2 (by omega))
      have HSN:Hid (someY x.y (j + 1)=(sb || (x.y j != 0))):=hid (by rw [← HSB.out];rfl)
      obtain ⟨qb,HQB⟩:∃ q:Bool,Hid ((x.y j != 0)=q):=⟨_,hid rfl⟩
      obtain ⟨yv,HYV⟩:∃ q:Int,Hid (((x.y j).toNat:Int)=q):=⟨_,hid rfl⟩
      rw [HQB.out] at HCX HSN
      rw [HYV.out] at HCX c6 HSPO
      have hpb:p≤1000:=by have:=HPB2.out;have:=HNN.out;omega
      have hfb:f≤60:=by have:=HFT.out;omega
      clear hjt
      go_wp2_with fail
      refine HSPO.out.mono ?_
      rintro e w7 ⟨E,rfl,hs7,ho7⟩
      have HS7:=hid hs7
      have HQ7:=hid (ho7 _ _ _ HQ.out (by decide) (by decide))
      have c7:=(HLQ.out w7 HQ7.out).2 j j4n
      rw [HYV.out] at c7
      have hcx:=HCX.out
      have HWI:Hid (wrap64 ((j:Int) + 1)=((j + 1:Nat):Int)):=hid (by unfold wrap64;omega)
      have HJ4N:=hid j4n
      clear hs7 ho7 c6 hpb hfb
      cases sb with
      | true=>
       go_wp2_with fail
       go_roundw
       case rel=>exact ⟨j + 1,HJ4N.out,(by first | rw [HWI.out] | go_num),by have:=HJT.out;omega,by rw [HSN.out];rfl,HS7,HQ7⟩
       case measure=>
        have h1:=HJ4N.out
        first | exact aw_meas h1 HWI.out | (simp [intOf];omega)
      | false=>
       go_wp2_with fail
       go_roundw
       case rel=>exact ⟨j + 1,HJ4N.out,(by first | rw [HWI.out] | go_num),by have:=HJT.out;omega,by rw [HSN.out];rfl,HS7,HQ7⟩
       case measure=>
        have h1:=HJ4N.out
        first | exact aw_meas h1 HWI.out | (simp [intOf];omega)
     | false=>
      obtain ⟨E,HE⟩:∃ q:Int,Hid ((if someY x.y j=true then (10:Int) else 0)=q):=⟨_,hid rfl⟩
      have hE10:(E == 10)=sb:=by rw [← HE.out,HSB.out];cases sb <;> rfl
      have hE0:(E == 0)=!sb:=by rw [← HE.out,HSB.out];cases sb <;> rfl
      have HO:Hid (∀ W,SpSt w W b (flatR pre ++ (badR l (turnC l f x.y j) ++ flatR post))→Calls Try.prog 9 #[.pointer (some ⟨b,0,none⟩)] W fun e w'=>∃ p A n c,e=.returned (.tuple #[p,.slice A n c,.int .i64 E])∧SpSt w w' b (flatR pre ++ (badR l (turnC l f x.y j) ++ flatR post))):=hid (fun W h=>by
       have:=h.open HMP.out HMQ.out HPN.out (by rw [HTN.out];exact HLK.out.1) (by rw [HTN.out];have:=HLK.out;omega) HJ4.out.1 (by rw [HTN.out];exact HJ4.out.2) (HZ9.out _ (turnC_length _ _ _ _))
       rw [HE.out] at this
       exact this.mono fun _ _ ⟨p,A,n,c,h1,h2,_⟩=>⟨p,A,n,c,h1,h2⟩)
      go_wp2_with fail
      refine (HO.out wo HS.out).mono ?_
      rintro e w7 ⟨p7,A7,n7,c7,rfl,hs7⟩
      have HS7:=hid hs7
      go_wp2_with fail
      refine (HO.out w7 HS7.out).mono ?_
      rintro e w8 ⟨p8,A8,n8,c8,rfl,hs8⟩
      have HB8:=hid hs8.bel
      clear hs7 hs8
      go_wp2_with fail
      go_loopw [25] (fun s25 wr=>∃ i:Nat,i≤2∧s25=.int .i64 (i:Int)∧Hid (Below w.heap.size w wr)) (fun s25 _=>2 - (intOf s25).toNat)
      case atStart=>exact ⟨0,Nat.zero_le _,rfl,HB8⟩
      case round=>
       obtain ⟨wz,rfl⟩:∃ q:World,q=wr:=⟨wr,rfl⟩
       obtain ⟨m,hm,rfl,HB⟩:=hrel
       by_cases h2:m < 2
       ·have h2i:(m:Int) < 2:=by omega
        by_cases h1:m=1
        ·subst h1
         go_upto_region 34 with (fail)
         have HNO:Hid (NoWl (wz.alloc (.cells #[.pointer none,.int .i64 0,.bool false] 62)) (.pointer (some ⟨wz.heap.size,0,none⟩))):=hid (.inr ⟨_,rfl,heap_alloc_new wz _⟩)
         have HBZ:=hid (HB.out.alloc HB.out.size (.cells #[.pointer none,.int .i64 0,.bool false] 62))
         generalize (wz.alloc (.cells #[.pointer none,.int .i64 0,.bool false] 62))=wy at *
         obtain ⟨zv,HZV⟩:∃ q:Value,Hid (Value.pointer (some ⟨wz.heap.size,0,none⟩)=q):=⟨_,hid rfl⟩
         rw [HZV.out] at HNO ⊢
         go_wp2_with fail
         refine (noPut (HNO.out.below ((Below.refl _ _).alloc (Nat.le_refl _) _ |>.alloc (by simp) _)) _).mono ?_
         rintro e w9 ⟨rfl,hw9⟩
         have HN9:Hid (NoWl w9 zv):=hid (by rw [← hw9];exact HNO.out.below ((Below.refl _ _).alloc (Nat.le_refl _) _ |>.alloc (by simp) _))
         have HB9:Hid (Below w.heap.size w w9):=hid (by rw [← hw9];exact (HBZ.out.alloc HBZ.out.size _).alloc (Nat.le_trans HBZ.out.size (al_le _ _)) _)
         clear hw9
         go_wp2_with fail
         refine (noMany HN9.out).mono ?_
         rintro e w10 ⟨rfl,rfl⟩
         go_wp2_with fail
         refine (noBroken HN9.out).mono ?_
         rintro e w10 ⟨rfl,rfl⟩
         go_wp2_with fail
         go_roundw
         case rel=>exact ⟨2,by omega,rfl,HB9⟩
         case measure=>simp [intOf]
        ·obtain rfl:m=0:=by omega
         go_upto_region 34 with (fail)
         have HNO:Hid (NoWl wz (.pointer none)):=hid (.inl rfl)
         have HBZ:=hid HB.out
         obtain ⟨wy,HWY⟩:∃ q:World,Hid (wz=q):=⟨_,hid rfl⟩
         rw [HWY.out] at HNO HBZ ⊢
         go_wp2_with fail
         refine (noPut (HNO.out.below ((Below.refl _ _).alloc (Nat.le_refl _) _ |>.alloc (by simp) _)) _).mono ?_
         rintro e w9 ⟨rfl,hw9⟩
         have HN9:Hid (NoWl w9 (.pointer none)):=hid (by rw [← hw9];exact HNO.out.below ((Below.refl _ _).alloc (Nat.le_refl _) _ |>.alloc (by simp) _))
         have HB9:Hid (Below w.heap.size w w9):=hid (by rw [← hw9];exact (HBZ.out.alloc HBZ.out.size _).alloc (Nat.le_trans HBZ.out.size (al_le _ _)) _)
         clear hw9
         go_wp2_with fail
         refine (noMany HN9.out).mono ?_
         rintro e w10 ⟨rfl,rfl⟩
         go_wp2_with fail
         refine (noBroken HN9.out).mono ?_
         rintro e w10 ⟨rfl,rfl⟩
         go_wp2_with fail
         go_roundw
         case rel=>exact ⟨1,by omega,rfl,HB9⟩
         case measure=>simp [intOf]
       ·have h2i:¬ (m:Int) < 2:=by omega
        obtain rfl:m=2:=by omega
        clear h2 hm
        go_wp2_with fail
        refine (noOpen (w:=wz) (v:=.pointer none) (.inl rfl)).mono ?_
        rintro e w9 ⟨rfl,rfl⟩
        go_wp2_with fail
        refine (HFIN.out wz HB.out).mono ?_
        rintro e w9 ⟨rfl,hb9⟩
        go_wp2_with fail
        go_ret
        exact ⟨rfl,hb9⟩
end Go.Proofs.Ytfpgglclpkcdhaa
