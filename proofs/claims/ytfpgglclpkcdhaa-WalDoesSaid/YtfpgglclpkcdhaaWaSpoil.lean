/-
  A disk's byte is spoilt, wherever it stands; opening no disk; records of which one is turned.
-/
import Derived.Test.YtfpgglclpkcdhaaDkCodeD
import Derived.Test.YtfpgglclpkcdhaaWaCodeC
namespace Go.Proofs.Ytfpgglclpkcdhaa
set_option maxRecDepth 20000
open Go.RowKit
def spoilD (D:DkM) (k:Int) (x:UInt8):DkM:=if D.dead=true then D else { D with s:=(spoilL (D.s ++ D.m) k x).take D.s.length,m:=(spoilL (D.s ++ D.m) k x).drop D.s.length }
theorem spoilL_length (l:List UInt8) (k:Int) (x:UInt8):(spoilL l k x).length=l.length:=by
 unfold spoilL
 split
 ·rw [List.length_set]
 ·rfl
theorem spoilD_all (D:DkM) (k:Int) (x:UInt8) (hd:D.dead=false):(spoilD D k x).s ++ (spoilD D k x).m=spoilL (D.s ++ D.m) k x:=by
 unfold spoilD
 rw [if_neg (by rw [hd];simp)]
 exact List.take_append_drop _ _
theorem spoilD_lens (D:DkM) (k:Int) (x:UInt8):(spoilD D k x).s.length=D.s.length∧(spoilD D k x).m.length=D.m.length:=by
 unfold spoilD
 split
 ·exact ⟨rfl,rfl⟩
 ·simp only [List.length_take,List.length_drop,spoilL_length,List.length_append]
  omega
theorem spoilD_rest (D:DkM) (k:Int) (x:UInt8):(spoilD D k x).h=D.h∧(spoilD D k x).room=D.room∧(spoilD D k x).left=D.left∧(spoilD D k x).dead=D.dead:=by
 unfold spoilD
 split <;> exact ⟨rfl,rfl,rfl,rfl⟩
theorem spoilD_good {D:DkM} (g:D.Good) (k:Int) (x:UInt8):(spoilD D k x).Good:=by
 obtain ⟨l1,l2⟩:=spoilD_lens D k x
 obtain ⟨r1,r2,r3,r4⟩:=spoilD_rest D k x
 exact ⟨by rw [r3];exact g.l0,by rw [r3];exact g.l1,by rw [r2];exact g.r0,by rw [r2];exact g.r1,by rw [l1,l2,r1,r2];exact g.z,fun h=>by rw [r1];exact g.d (by rw [← r4];exact h)⟩
theorem spoilD_out {D:DkM} {k:Int} {x:UInt8} (h:D.dead=true∨¬ (0≤k∧k < (D.s ++ D.m).length)):spoilD D k x=D:=by
 unfold spoilD
 by_cases hd:D.dead=true
 ·rw [if_pos hd]
 ·rw [if_neg hd]
  have hk:¬ (0≤k∧k < (D.s ++ D.m).length):=h.resolve_left hd
  unfold spoilL
  rw [if_neg hk,List.take_left,List.drop_left]
section
variable {w:World} {b B:Nat} {D:DkM} {va vt:Value}
set_option maxHeartbeats 1600000 in
theorem dkSpoilG_any (h:DkE w b B D va vt) (g:D.Good) (k:Int) (x:UInt8):
  Calls Try.prog 15 #[.pointer (some ⟨b,0,none⟩),.int .i64 k,.int .u8 (x.toNat:Int)] w fun e w'=>∃ E,e=.returned (.int .i64 E)∧DkE w' b B (spoilD D k x) va vt∧TnD b va.ownBlock w w':=by
 have HF:=hid (dkFault_any h)
 have HH:=hid h
 have HTN:Hid (TnD b va.ownBlock w w):=hid (TnD.refl _ _ _)
 cases hd:D.dead with
 | true=>
  rw [hd] at HF
  simp only [if_true] at HF
  rw [spoilD_out (.inl hd)]
  clear h hd
  go_enter Try.func15,Try.ntmps15
  go_wp2_with fail
  refine HF.out.mono ?_
  rintro e w1 ⟨rfl,rfl⟩
  go_wp2_with fail
  go_ret
  exact ⟨_,rfl,HH.out,HTN.out⟩
 | false=>
 rw [hd] at HF
 simp only [Bool.false_eq_true,if_false] at HF
 have ho:=h.o
 have hh:=g.d hd
 obtain ⟨_,_,c2,_,_,_,_⟩:=h.cells
 obtain ⟨l,HLS⟩:∃ q:List UInt8,Hid (D.s ++ D.m=q):=⟨_,hid rfl⟩
 rw [HLS.out] at ho
 obtain ⟨L,HL⟩:∃ q:Nat,Hid (l.length=q):=⟨_,hid rfl⟩
 by_cases hp:0≤k∧k < l.length
 ·obtain ⟨n,rfl⟩:∃ n:Nat,k=(n:Int):=⟨k.toNat,by omega⟩
  have hn:n < l.length:=by omega
  have hsp:spoilL l (n:Int) x=l.set n (l[n] ^^^ x):=by
   unfold spoilL
   rw [if_pos hp,Int.toNat_natCast,List.getElem?_eq_getElem hn,Option.getD_some]
  rcases ho.2 with ⟨rfl,h0⟩ | ⟨q,cap,cur,rfl,hg,hq,hnc,hmc,hsz,htk⟩
  ·omega
  have hcell:w.cell? ⟨q,0 + n,none⟩=some (bcell l[n]):=by
   rw [Nat.zero_add,World.ownsRow.cellAt ho n (by omega)]
   simp [bcells,hn]
  have hfr:w.frozen? ⟨q,0 + n,none⟩=false:=coBlk_free hq _
  obtain ⟨y,HY0,HY⟩:∃ y:Int,(0≤y∧y≤255)∧Hid ((l[n].toNat:Int)=y):=⟨_,byte_lt _,hid rfl⟩
  obtain ⟨z,HZ0,HZ⟩:∃ y:Int,(0≤y∧y≤255)∧Hid ((x.toNat:Int)=y):=⟨_,byte_lt _,hid rfl⟩
  obtain ⟨r,HR⟩:∃ y:Int,Hid (((l[n] ^^^ x).toNat:Int)=y):=⟨_,hid rfl⟩
  have hxr:=xor_byte l[n] x HY.out HZ.out HR.out
  unfold bcell at hcell
  rw [HY.out] at hcell
  rw [HZ.out]
  obtain ⟨DD,HDD⟩:∃ q:DkM,Hid (spoilD D (n:Int) x=q):=⟨_,hid rfl⟩
  have hE:DkE (w.setCell ⟨q,0 + n,none⟩ (.int .u8 r)) b B DD (.slice (some ⟨q,0,none⟩) l.length cap) vt:=by
   have hbq:b≠q:=blk_ne h.p hq (by decide)
   obtain ⟨r1,r2,r3,r4⟩:=spoilD_rest D (n:Int) x
   obtain ⟨l1,l2⟩:=spoilD_lens D (n:Int) x
   rw [← HDD.out]
   refine ⟨?_,?_,?_,.inl (by rw [r1];exact hh)⟩
   ·unfold dkc
    rw [r2,r3,r4,l1]
    exact (Below.heap_setCell _ _ _ _ hbq).trans h.p
   ·rw [spoilD_all D _ _ hd,HLS.out,hsp,Nat.zero_add,← HR.out]
    exact own_set ho rfl (l[n] ^^^ x)
   ·have ht:=h.t
    rw [r1]
    rw [hh] at ht ⊢
    exact ht.none _
  have hT:TnD b (Value.slice (some ⟨q,0,none⟩) l.length cap).ownBlock w (w.setCell ⟨q,0 + n,none⟩ (.int .u8 r)):=⟨rfl,rfl,rfl,by simp [World.setCell],fun i _ _ h3=>Below.heap_setCell _ _ _ _ (fun e=>h3 (by rw [e];rfl))⟩
  have HE:=hid (And.intro hE hT)
  have hnl:(n:Int) < (l.length:Int):=by omega
  obtain ⟨o,HO⟩:∃ o:Nat,Hid (0=o):=⟨_,hid rfl⟩
  rw [HDD.out]
  obtain ⟨V,HVA⟩:∃ v:Value,Hid (Value.slice (some ⟨q,0,none⟩) l.length cap=v):=⟨_,hid rfl⟩
  have hVo:V=.slice (some ⟨q,o,none⟩) L cap:=by rw [← HVA.out,HO.out,HL.out]
  rw [HVA.out] at HE c2 ⊢
  rw [hVo] at c2
  rw [HL.out] at hnl
  rw [show (0:Nat) + n=o + n from by rw [HO.out]] at hcell hfr HE
  have hnc2:L≤cap:=by rw [← HL.out];exact hnc
  clear hp ho hE hT hq hsz htk hg h hVo hnc hsp
  go_enter Try.func15,Try.ntmps15
  go_wp2_with fail
  refine HF.out.mono ?_
  rintro e w1 ⟨rfl,rfl⟩
  go_wp2_with fail
  go_ret
  exact ⟨_,rfl,HE.out⟩
 ·rw [spoilD_out (.inr (by rw [HLS.out];exact hp))]
  obtain ⟨A,N,c,rfl,hN⟩:=dk_shape h
  have hNm:N=L:=by rw [hN,← HL.out,← HLS.out,List.length_append]
  by_cases k0:k < 0
  ·clear hp ho hN h hNm
   go_enter Try.func15,Try.ntmps15
   go_wp2_with fail
   refine HF.out.mono ?_
   rintro e w1 ⟨rfl,rfl⟩
   go_wp2_with fail
   go_ret
   exact ⟨_,rfl,HH.out,HTN.out⟩
  ·have k1:(N:Int)≤k:=by rw [hNm,← HL.out];omega
   clear hp ho hN h hNm
   go_enter Try.func15,Try.ntmps15
   go_wp2_with fail
   refine HF.out.mono ?_
   rintro e w1 ⟨rfl,rfl⟩
   go_wp2_with fail
   go_ret
   exact ⟨_,rfl,HH.out,HTN.out⟩
end
theorem noOpen {w:World} {v:Value} (h:NoDk w v):Calls Try.prog 9 #[v] w fun e w'=>e=.returned (.tuple #[.pointer none,.slice none 0 0,.int .i64 1])∧w=w':=by
 go_enter Try.func9,Try.ntmps9
 go_wp2_with fail
 refine (noAll h).mono ?_
 rintro e w1 ⟨rfl,rfl⟩
 go_wp2_with fail
 go_ret3
 exact ⟨rfl,rfl⟩
theorem spoil_in (a z:List UInt8) (l c:List UInt8) {j:Nat} (hj:j < c.length) (x:UInt8):spoilL (a ++ (badR l c ++ z)) ((a.length + 8 + j:Nat):Int) x=a ++ (badR l (c.set j (c.getD j 0 ^^^ x)) ++ z):=by
 have e:∀ c:List UInt8,a ++ (badR l c ++ z)=(a ++ (fourL l.length ++ fourL (crcS (fourL l.length ++ l)).toNat)) ++ (c ++ z):=fun c=>by
  unfold badR
  simp only [List.append_assoc]
 have hp:(a ++ (fourL l.length ++ fourL (crcS (fourL l.length ++ l)).toNat)).length=a.length + 8:=by
  simp only [List.length_append,fourL_length]
 generalize a ++ (fourL l.length ++ fourL (crcS (fourL l.length ++ l)).toNat)=p at e hp
 rw [e c,e (c.set j (c.getD j 0 ^^^ x))]
 unfold spoilL
 have hlt:a.length + 8 + j < (p ++ (c ++ z)).length:=by rw [List.length_append,List.length_append,hp];omega
 rw [if_pos ⟨by omega,by omega⟩,Int.toNat_natCast,List.set_append_right _ _ (by omega),show a.length + 8 + j - p.length=j from by omega,List.set_append_left _ _ hj]
 have hg:(p ++ (c ++ z))[a.length + 8 + j]?.getD 0=c.getD j 0:=by
  rw [List.getElem?_append_right (by omega),show a.length + 8 + j - p.length=j from by omega,List.getElem?_append_left hj,List.getD_eq_getElem?_getD]
 rw [hg]
def turnC (l:List UInt8) (f:Nat) (y:Nat→UInt8):Nat→List UInt8
 | 0=>l
 | i + 1=>(turnC l f y i).set (f + i) ((turnC l f y i).getD (f + i) 0 ^^^ y i)
def someY (y:Nat→UInt8):Nat→Bool
 | 0=>false
 | i + 1=>someY y i || (y i != 0)
theorem turnC_length (l:List UInt8) (f:Nat) (y:Nat→UInt8):∀ i,(turnC l f y i).length=l.length
 | 0=>rfl
 | i + 1=>by
  unfold turnC
  rw [List.length_set,turnC_length]
theorem turnC_at (l:List UInt8) (f:Nat) (y:Nat→UInt8):∀ i j,f + i≤l.length→(turnC l f y i).getD j 0=if f≤j∧j < f + i then l.getD j 0 ^^^ y (j - f) else l.getD j 0
 | 0,j,_=>by
  rw [if_neg (by omega)]
  rfl
 | i + 1,j,h=>by
  have ih:=fun j=>turnC_at l f y i j (by omega)
  unfold turnC
  rw [List.getD_eq_getElem?_getD,List.getElem?_set]
  by_cases e:f + i=j
  ·subst e
   rw [if_pos rfl,if_pos (by rw [turnC_length];omega),Option.getD_some,ih,if_neg (by omega),if_pos (by omega),Nat.add_sub_cancel_left]
  ·rw [if_neg e,← List.getD_eq_getElem?_getD,ih]
   by_cases h2:f≤j∧j < f + i
   ·rw [if_pos h2,if_pos (by omega)]
   ·rw [if_neg h2,if_neg (by omega)]
theorem someY_no {y:Nat→UInt8}:∀ {i:Nat},someY y i=false→∀ j,j < i→y j=0
 | 0,_,j,h=>absurd h (Nat.not_lt_zero _)
 | i + 1,h,j,hj=>by
  unfold someY at h
  rw [Bool.or_eq_false_iff] at h
  by_cases e:j=i
  ·subst e
   simpa using h.2
  ·exact someY_no h.1 j (by omega)
theorem turnC_no {l:List UInt8} {f:Nat} {y:Nat→UInt8}:∀ {i:Nat},f + i≤l.length→someY y i=false→turnC l f y i=l
 | 0,_,_=>rfl
 | i + 1,h,hs=>by
  have hz:=someY_no hs i (by omega)
  unfold someY at hs
  rw [Bool.or_eq_false_iff] at hs
  have ih:=turnC_no (l:=l) (f:=f) (i:=i) (by omega) hs.1
  unfold turnC
  rw [ih,hz]
  refine List.ext_getElem? (fun k=>?_)
  rw [List.getElem?_set]
  by_cases e:f + i=k
  ·subst e
   rw [if_pos rfl,if_pos (by omega),List.getElem?_eq_getElem (by omega),List.getD_eq_getElem?_getD,List.getElem?_eq_getElem (by omega)]
   simp
  ·rw [if_neg e]
theorem turnC_yes {l:List UInt8} {f:Nat} {y:Nat→UInt8}:∀ {i:Nat},f + i≤l.length→someY y i=true→¬ turnC l f y i=l:=fun {i} h hs e=>by
 have hall:∀ j,j < i→y j=0:=fun j hj=>by
  have h1:=turnC_at l f y i (f + j) h
  rw [e,if_pos (by omega),Nat.add_sub_cancel_left] at h1
  have h2:=congrArg (l.getD (f + j) 0 ^^^ ·) h1
  simp only [UInt8.xor_self,← UInt8.xor_assoc,UInt8.zero_xor] at h2
  exact h2.symm
 have:∀ i,(∀ j,j < i→y j=0)→someY y i=false:=fun i=>by
  induction i with
  | zero=>intro _;rfl
  | succ i ih=>
   intro h
   unfold someY
   rw [ih (fun j hj=>h j (by omega)),h i (by omega)]
   rfl
 rw [this i hall] at hs
 cases hs
theorem open_safe {D:DkM} (hm:D.m=[]) (hl:D.left=-1) (hd:D.dead=false):(spoiltB (tailL D.s)=true→tailL D.s≠[]→openE D=10∧openD D=D)∧(tailL D.s=[]→openE D=0∧openD D=D):=by
 have hnd:¬ D.dead=true:=by rw [hd];simp
 have e:D.s ++ D.m=D.s:=by rw [hm,List.append_nil]
 constructor
 ·intro hs ht
  unfold openE openD
  rw [e,if_neg hnd,if_neg hnd,if_pos ⟨ht,hs⟩,if_pos ⟨ht,hs⟩]
  exact ⟨rfl,rfl⟩
 ·intro ht
  have hc:tcutE D=0∧tcutD D=D:=by
   unfold tcutE tcutD
   rw [e,if_pos ht,if_pos ht]
   exact ⟨rfl,rfl⟩
  have h0:¬ D.left=0:=by omega
  have hsp:¬ (tailL D.s≠[]∧spoiltB (tailL D.s)=true):=fun h=>h.1 ht
  unfold openE openD
  rw [e,if_neg hnd,if_neg hnd,if_neg hsp,if_neg hsp,hc.1,hc.2,if_neg (by simp),if_neg (by simp)]
  unfold syncE syncD stepDk
  rw [if_neg hnd,if_neg hnd,if_neg h0,if_neg h0,if_neg h0,if_pos (by omega),e]
  refine ⟨rfl,?_⟩
  rw [← hm]
theorem open_bad {D:DkM} (hm:D.m=[]) (hl:D.left=-1) (hd:D.dead=false) {pre post:List (List UInt8)} {l:List UInt8} (hp:MayR pre) (hq:MayR post) (hn:post≠[]) (h0:1≤l.length) (h1:l.length≤65536) {f i:Nat} {y:Nat→UInt8} (hi:i≤4) (hf:f + i≤l.length) (hs:D.s=flatR pre ++ (badR l (turnC l f y i) ++ flatR post)):
  openE D=(if someY y i=true then 10 else 0)∧openD D=D:=by
 obtain ⟨o1,o2⟩:=open_safe hm hl hd
 cases hy:someY y i with
 | true=>
  have hb:=recs_bad (c:=turnC l f y i) hp hq hn h0 h1 (turnC_length l f y i) (f:=f) (fun j hj=>by rw [turnC_at l f y i j hf,if_neg (by omega)]) (turnC_yes hf hy)
  rw [← hs] at hb
  rw [if_pos rfl]
  rw [hb.1] at o1
  refine o1 ((spoiltB_iff _).2 hb.2) (fun e=>?_)
  have:=congrArg List.length e
  rw [List.length_append,badR_length (turnC_length l f y i)] at this
  simp only [List.length_nil] at this
  omega
 | false=>
  rw [turnC_no hf hy,badR_same] at hs
  rw [if_neg (by simp)]
  refine o2 ?_
  have e:flatR pre ++ (recS l ++ flatR post)=flatR (pre ++ l :: post) ++ []:=by
   rw [List.append_nil]
   simp [flatR]
  rw [hs,e,(recs_put (pre ++ l :: post) [] (fun r hr=>by
   rcases List.mem_append.1 hr with hr | hr
   ·exact hp r hr
   ·rcases List.mem_cons.1 hr with rfl | hr
    ·exact ⟨h0,h1⟩
    ·exact hq r hr)).2]
  rfl
end Go.Proofs.Ytfpgglclpkcdhaa
