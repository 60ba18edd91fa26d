/-
  CrcNext CrcTurn CrcStep CrcGot: what each of them says stands at its head.
-/
import Derived.Test.YtfpgglclpkcdhaaBw2
namespace Go.Proofs.Ytfpgglclpkcdhaa
set_option maxRecDepth 20000
open Go.RowKit
def numL (l:List UInt8):Nat:=(l.getD 0 0).toNat * 16777216 + (l.getD 1 0).toNat * 65536 + (l.getD 2 0).toNat * 256 + (l.getD 3 0).toNat
theorem numL_lt (l:List UInt8):numL l≤4294967295:=by
 have h0:=(l.getD 0 0).toNat_lt
 have h1:=(l.getD 1 0).toNat_lt
 have h2:=(l.getD 2 0).toNat_lt
 have h3:=(l.getD 3 0).toNat_lt
 unfold numL
 omega
def inL (l:List UInt8):List UInt8:=(l.drop 8).take (numL l)
def nextN (l:List UInt8):Nat:=
 if l.length < 8 then 2 else if numL l < 1∨65536 < numL l then 0 else if l.length < 8 + numL l then 2 else if recS (inL l)=l.take (8 + numL l) then 1 else 0
def nextB (l:List UInt8):List UInt8:=if nextN l=1 then inL l else []
theorem nextB_no {l:List UInt8} (h:nextN l≠1):nextB l=[]:=if_neg h
attribute [local go_sem ↓] exec_cutH exec_cutLH
set_option maxHeartbeats 1600000 in
theorem refNext_own (v:Value) (l:List UInt8) (w:World) (hv:Byt w v l) (hs:l.length≤900000):
  Calls Try.prog 49 #[v] w fun e w'=>∃ x,e=.returned (.tuple #[x,.int .i64 (nextN l:Int)])∧Own w.heap.size w' x (nextB l)∧Below w.heap.size w w':=by
 obtain ⟨A,c,rfl⟩:=hv.shape
 obtain ⟨_,hc,hm,hr⟩:=hv.at_
 unfold maxLen at hm
 obtain ⟨L,HL⟩:∃ L:Nat,Hid (l.length=L):=⟨_,hid rfl⟩
 have HV:=hid hv
 have HS:=hid hs
 rw [HL.out] at hc ⊢
 clear hv hs
 by_cases h8:L < 8
 ·have h8i:(L:Int) < 8:=by omega
  have HN:Hid (nextN l=2):=hid (by unfold nextN;rw [if_pos (by rw [HL.out];exact h8)])
  go_enter Try.func49,Try.ntmps49
  go_wp2_with fail
  go_ret2
  refine ⟨.slice none 0 0,by rw [HN.out];rfl,?_,Below.refl _ _⟩
  rw [nextB_no (by rw [HN.out];decide)]
  exact Own.nil _ _
 have h8i:¬ (L:Int) < 8:=by omega
 obtain ⟨b,off,rfl,_,hcl⟩:=hr (by rw [HL.out];omega)
 have hcl2:∀ j,j < L→w.cell? ⟨b,off + j,none⟩=some (.int .u8 ((l.getD j 0).toNat:Int)):=fun j hj=>by
  have hjl:j < l.length:=by rw [HL.out];exact hj
  rw [hcl j hjl,List.getD_eq_getElem?_getD,List.getElem?_eq_getElem hjl]
  rfl
 have k0:=hcl2 0 (by omega)
 have k1:=hcl2 1 (by omega)
 have k2:=hcl2 2 (by omega)
 have k3:=hcl2 3 (by omega)
 clear hcl hcl2 hr
 obtain ⟨b0,H0⟩:∃ x:Nat,Hid ((l.getD 0 0).toNat=x):=⟨_,hid rfl⟩
 obtain ⟨b1,H1⟩:∃ x:Nat,Hid ((l.getD 1 0).toNat=x):=⟨_,hid rfl⟩
 obtain ⟨b2,H2⟩:∃ x:Nat,Hid ((l.getD 2 0).toNat=x):=⟨_,hid rfl⟩
 obtain ⟨b3,H3⟩:∃ x:Nat,Hid ((l.getD 3 0).toNat=x):=⟨_,hid rfl⟩
 have g0:b0≤255:=by have:=(l.getD 0 0).toNat_lt;have:=H0.out;omega
 have g1:b1≤255:=by have:=(l.getD 1 0).toNat_lt;have:=H1.out;omega
 have g2:b2≤255:=by have:=(l.getD 2 0).toNat_lt;have:=H2.out;omega
 have g3:b3≤255:=by have:=(l.getD 3 0).toNat_lt;have:=H3.out;omega
 rw [H0.out] at k0
 rw [H1.out] at k1
 rw [H2.out] at k2
 rw [H3.out] at k3
 rw [Nat.add_zero] at k0
 obtain ⟨n,HN⟩:∃ n:Nat,Hid (numL l=n):=⟨_,hid rfl⟩
 have hnum:(b0:Int) * 16777216 + (b1:Int) * 65536 + (b2:Int) * 256 + (b3:Int)=(n:Int):=by
  rw [← HN.out]
  unfold numL
  rw [H0.out,H1.out,H2.out,H3.out]
  omega
 go_enter Try.func49,Try.ntmps49
 go_wp2_with fail
 go_quiet (fail)
 have H8:=hid (show ¬ l.length < 8 by rw [HL.out];omega)
 clear k0 k1 k2 k3 hnum g0 g1 g2 g3 H0 H1 H2 H3
 by_cases hbad:n < 1∨65536 < n
 ·have HX:Hid (nextN l=0):=hid (by unfold nextN;rw [if_neg H8.out,if_pos (by rw [HN.out];exact hbad)])
  have HB:=hid hbad
  clear hbad
  by_cases h1:n < 1
  ·have h1i:(n:Int) < 1:=by omega
   go_wp2_with fail
   go_ret2
   refine ⟨.slice none 0 0,by rw [HX.out];rfl,?_,below_drewN (Below.refl _ _) _⟩
   rw [nextB_no (by rw [HX.out];decide)]
   exact Own.nil _ _
  ·have h1i:¬ (n:Int) < 1:=by omega
   have h2i:(65536:Int) < (n:Int):=by have:=HB.out;omega
   go_wp2_with fail
   go_ret2
   refine ⟨.slice none 0 0,by rw [HX.out];rfl,?_,below_drewN (Below.refl _ _) _⟩
   rw [nextB_no (by rw [HX.out];decide)]
   exact Own.nil _ _
 have h1i:¬ (n:Int) < 1:=by omega
 have h2i:¬ (65536:Int) < (n:Int):=by omega
 have HB:=hid hbad
 clear hbad
 obtain ⟨m,HM⟩:∃ m:Nat,Hid (8 + n=m):=⟨_,hid rfl⟩
 have hm8:(8:Int) + (n:Int)=(m:Int):=by have:=HM.out;omega
 by_cases hend:L < m
 ·have hei:(L:Int) < (m:Int):=by omega
  have HX:Hid (nextN l=2):=hid (by unfold nextN;rw [if_neg H8.out,if_neg (by rw [HN.out];exact HB.out),if_pos (by rw [HN.out,HL.out,HM.out];exact hend)])
  go_wp2_with fail
  go_ret2
  refine ⟨.slice none 0 0,by rw [HX.out];rfl,?_,below_drewN (Below.refl _ _) _⟩
  rw [nextB_no (by rw [HX.out];decide)]
  exact Own.nil _ _
 have hei:¬ (L:Int) < (m:Int):=by omega
 obtain ⟨A3,c3,r3,p3⟩:=cut_lh (some ⟨b,off,none⟩) c L 8 m (by have:=HM.out;omega) (by omega) hc
 obtain ⟨A4,c4,r4,p4⟩:=cut_h (some ⟨b,off,none⟩) c L m (by omega) hc
 have r3':∀ w,cutLH (.slice (some ⟨b,off,none⟩) L c) (.int .i64 8) (.int .i64 (m:Int)) w=.ok (.value (.slice A3 (m - 8) c3)) w:=r3
 have P3:=hid p3
 have P4:=hid p4
 clear r3 p3 p4
 obtain ⟨I,HI⟩:∃ I:List UInt8,Hid (inL l=I):=⟨_,hid rfl⟩
 have hin:(l.drop 8).take (m - 8)=I:=by
  rw [← HI.out]
  unfold inL
  rw [HN.out,show m - 8=n from by have:=HM.out;omega]
 have HIL:Hid (I.length=n):=hid (by
  rw [← hin,List.length_take,List.length_drop,HL.out]
  have:=HM.out
  omega)
 have HIN:=hid hin
 clear hin
 have hl1:([]:List UInt8).length + I.length≤140737488355328:=by rw [HIL.out,List.length_nil];have:=HB.out;omega
 have HI9:=hid (show I.length≤900000 by rw [HIL.out];have:=HB.out;omega)
 have HV3:Hid (∀ W:World,Below w.heap.size w W→Byt W (.slice A3 (m - 8) c3) I):=hid (fun W h=>by
  have:=P3.out W l HL.out (HV.out.below h |> fun h=>by rw [HL.out] at h;exact h)
  rw [HIN.out] at this
  exact this)
 have HV4:Hid (∀ W:World,Below w.heap.size w W→Byt W (.slice A4 m c4) (l.take m)):=hid (fun W h=>P4.out W l HL.out (HV.out.below h |> fun h=>by rw [HL.out] at h;exact h))
 have hb0:Below w.heap.size w (w.drewN nq):=below_drewN (Below.refl _ _) _
 obtain ⟨w0,hw0⟩:∃ w0:World,w.drewN nq=w0:=⟨_,rfl⟩
 rw [hw0] at hb0 ⊢
 clear hw0
 go_wp2_with (at_builtin;refine wpList_append_byt rfl (.tmp 42) (.tmp 46) rfl rfl rfl (fresh_own w0) ((HV3.out _ hb0).alloc _) hl1 (alloc_le w0 _) ?_;intro v5 w5 hown5 hg5 hv5;simp only [List.nil_append] at hown5;have hb5:=fresh_below hg5;clear hg5)
 have hB5:=hb0.trans (hb5.mono hb0.size)
 have HO5:=hid hown5
 clear hown5 hv5 hb5
 have hB5d:=hB5.drew
 have hwm:IntKind.i64.wrap (m:Int)=(m:Int):=IntWalk.i64_in _ (by omega)
 obtain ⟨ans,HA⟩:∃ a:Bool,Hid (decide (recS I=l.take m)=a):=⟨_,hid rfl⟩
 go_region_held3 (fun _=>True) (trivial)
  (first
   | (go_at_call 38;have C:=same_any v6 (.slice A4 m c4) (recS I) (l.take m) w6 hown6.byt (HV4.out _ hB6);rw [HA.out] at C;refine C.mono ?_;clear C;rintro e w7 ⟨rfl,k7,rfl⟩;have hB7:=below_drewN hB6 k7)
   | (go_at_call 34;refine (refRecord_any v5 I w5.drew HO5.out.byt HI9.out).mono ?_;rintro e w6 ⟨v6,rfl,hown6,hb6⟩;have hB6:=hB5d.trans (hb6.mono hB5d.size);have hb6':=hb6)
   | fail)
 have hb6s:=hb6'.size
 cases ans
 ·have HX:Hid (nextN l=0):=hid (by
   unfold nextN
   rw [if_neg H8.out,if_neg (by rw [HN.out];exact HB.out),if_neg (by rw [HN.out,HL.out,HM.out];exact hend),HI.out,HN.out,HM.out,if_neg (of_decide_eq_false HA.out)])
  go_wp2_with fail
  go_ret2
  refine ⟨.slice none 0 0,by rw [HX.out];rfl,?_,hB7⟩
  rw [nextB_no (by rw [HX.out];decide)]
  exact Own.nil _ _
 ·have HX:Hid (nextN l=1):=hid (by
   unfold nextN
   rw [if_neg H8.out,if_neg (by rw [HN.out];exact HB.out),if_neg (by rw [HN.out,HL.out,HM.out];exact hend),HI.out,HN.out,HM.out,if_pos (of_decide_eq_true HA.out)])
  go_wp2_with fail
  go_ret2
  refine ⟨v5,by rw [HX.out];rfl,?_,hB7⟩
  unfold nextB
  rw [if_pos HX.out,HI.out]
  exact (((HO5.out.below (w':=w5.drew) ((Below.refl _ _).drew)).below hb6').drewN _).more hb0.size
theorem refNext_any (v:Value) (l:List UInt8) (w:World) (hv:Byt w v l) (hs:l.length≤900000):
  Calls Try.prog 49 #[v] w fun e w'=>∃ x,e=.returned (.tuple #[x,.int .i64 (nextN l:Int)])∧Byt w' x (nextB l)∧Below w.heap.size w w':=
 (refNext_own v l w hv hs).mono fun _ _ ⟨x,h1,h2,h3⟩=>⟨x,h1,h2.byt,h3⟩
end Go.Proofs.Ytfpgglclpkcdhaa
namespace Go.Proofs.Ytfpgglclpkcdhaa
set_option maxRecDepth 20000
def TurnedAt (l c:List UInt8) (f i bits:Nat):Prop:=∀ k,mb c k=(mb l k ^^ (decide (f≤k∧k < f + i) && bits.testBit (k - f)))
theorem getD_app (a b:List UInt8) (j:Nat) (h:j < a.length):(a ++ b).getD j 0=a.getD j 0:=by
 rw [List.getD_eq_getElem?_getD,List.getD_eq_getElem?_getD,List.getElem?_append_left h]
theorem numL_four (n:Nat) (hn:n≤4294967295) (m:List UInt8):numL (fourL n ++ m)=n:=by
 unfold numL
 rw [getD_app _ _ _ (by rw [fourL_length];omega),getD_app _ _ _ (by rw [fourL_length];omega),getD_app _ _ _ (by rw [fourL_length];omega),getD_app _ _ _ (by rw [fourL_length];omega)]
 show (UInt8.ofNat (n / 16777216)).toNat * 16777216 + (UInt8.ofNat (n / 65536 % 256)).toNat * 65536 + (UInt8.ofNat (n / 256 % 256)).toNat * 256 + (UInt8.ofNat (n % 256)).toNat=n
 rw [UInt8.toNat_ofNat',UInt8.toNat_ofNat',UInt8.toNat_ofNat',UInt8.toNat_ofNat']
 omega
theorem fourL_inj {n m:Nat} (hn:n≤4294967295) (hm:m≤4294967295) (h:fourL n=fourL m):n=m:=by
 have h1:=numL_four n hn []
 rw [h,numL_four m hm []] at h1
 exact h1.symm
theorem next_other {l c:List UInt8} (h0:1≤l.length) (h1:l.length≤65536) (hc:c.length=l.length):
  nextN (fourL l.length ++ (fourL (crcS (fourL l.length ++ l)).toNat ++ c))=if crcS (fourL l.length ++ c)=crcS (fourL l.length ++ l) then 1 else 0:=by
 have hlen:(fourL l.length ++ (fourL (crcS (fourL l.length ++ l)).toNat ++ c)).length=8 + l.length:=by
  rw [List.length_append,List.length_append,fourL_length,fourL_length,hc]
  omega
 have hnum:=numL_four l.length (by omega) (fourL (crcS (fourL l.length ++ l)).toNat ++ c)
 have hin:inL (fourL l.length ++ (fourL (crcS (fourL l.length ++ l)).toNat ++ c))=c:=by
  unfold inL
  rw [hnum,← List.append_assoc,List.drop_append_of_le_length (by rw [List.length_append,fourL_length,fourL_length];omega),List.drop_of_length_le (by rw [List.length_append,fourL_length,fourL_length];omega),List.nil_append,← hc,List.take_length]
 unfold nextN
 rw [hnum,hin,hlen,if_neg (by omega),if_neg (by omega),if_neg (by omega),List.take_of_length_le (by rw [hlen];omega)]
 unfold recS
 rw [hc]
 by_cases h:crcS (fourL l.length ++ c)=crcS (fourL l.length ++ l)
 ·rw [h,if_pos rfl,if_pos rfl]
 ·rw [if_neg h,if_neg]
  intro e
  have e2:=List.append_cancel_left e
  have e3:=(List.append_inj e2 (by rw [fourL_length,fourL_length])).1
  exact h (BitVec.eq_of_toNat_eq (fourL_inj (Nat.le_of_lt_succ (BitVec.isLt _)) (Nat.le_of_lt_succ (BitVec.isLt _)) e3))
theorem next_turned {l c:List UInt8} {f i bits:Nat} (h0:1≤l.length) (h1:l.length≤65536) (hc:c.length=l.length) (hi:i≤32) (h:TurnedAt l c f i bits) {t:Bool} (ht:t=true ↔ ∃ j,j < i∧bits.testBit j=true):
  nextN (fourL l.length ++ (fourL (crcS (fourL l.length ++ l)).toNat ++ c))=if t=true then 0 else 1:=by
 rw [next_other h0 h1 hc]
 have hd:∀ k,mb l k≠mb c k→f≤k∧k < f + 32:=fun k hk=>by
  rw [h k] at hk
  by_cases hb:f≤k∧k < f + i
  ·omega
  ·rw [decide_eq_false hb,Bool.false_and,Bool.xor_false] at hk
   exact absurd rfl hk
 by_cases hcl:c=l
 ·rw [hcl,if_pos rfl,if_neg]
  intro htt
  obtain ⟨j,hj,hb⟩:=ht.1 htt
  have:=h (f + j)
  rw [hcl,decide_eq_true (by omega),Nat.add_sub_cancel_left,hb] at this
  cases hmb:mb l (f + j) <;> rw [hmb] at this <;> cases this
 ·have hne:¬ crcS (fourL l.length ++ c)=crcS (fourL l.length ++ l):=fun e=>hcl (turned_told (p:=fourL l.length) (f:=f) hc.symm hd e.symm).symm
  rw [if_neg hne,if_pos]
  refine ht.2 ?_
  refine Classical.byContradiction fun hno=>hcl ?_
  refine (mb_ext hc.symm fun k=>?_).symm
  rw [h k]
  by_cases hb:f≤k∧k < f + i
  ·have:bits.testBit (k - f)=false:=by
    cases hbb:bits.testBit (k - f)
    ·rfl
    ·exact absurd ⟨k - f,by omega,hbb⟩ hno
   rw [this,Bool.and_false,Bool.xor_false]
  ·rw [decide_eq_false hb,Bool.false_and,Bool.xor_false]
theorem next_rec {b:List UInt8} (h0:1≤b.length) (h1:b.length≤65536) (more:List UInt8):nextN (recS b ++ more)=1∧nextB (recS b ++ more)=b:=by
 have hr:(recS b).length=8 + b.length:=recS_length b
 have hnum:numL (recS b ++ more)=b.length:=by
  unfold recS
  rw [List.append_assoc]
  exact numL_four _ (by omega) _
 have hin:inL (recS b ++ more)=b:=by
  unfold inL
  rw [hnum]
  have e:recS b ++ more=(fourL b.length ++ fourL (crcS (fourL b.length ++ b)).toNat) ++ (b ++ more):=by
   unfold recS
   simp only [List.append_assoc]
  rw [e,List.drop_append_of_le_length (by rw [List.length_append,fourL_length,fourL_length];omega),List.drop_of_length_le (by rw [List.length_append,fourL_length,fourL_length];omega),List.nil_append,List.take_left' rfl]
 have hn:nextN (recS b ++ more)=1:=by
  unfold nextN
  rw [hnum,hin,List.length_append,hr,if_neg (by omega),if_neg (by omega),if_neg (by omega),List.take_left' hr,if_pos rfl]
 exact ⟨hn,by unfold nextB;rw [if_pos hn,hin]⟩
end Go.Proofs.Ytfpgglclpkcdhaa
namespace Go.Proofs.Ytfpgglclpkcdhaa
set_option maxRecDepth 20000
open Go.RowKit
theorem crTn_succ (r:BitVec 32) (n:Nat):crTn (n + 1) r=crT (crTn n r):=rfl
set_option maxHeartbeats 1600000 in
theorem crcTurn_any (s:BitVec 32) (w:World):
  Calls Try.prog 59 #[.int .u32 (s.toNat:Int)] w fun e w'=>e=.returned (.int .u32 ((crTn 8 s).toNat:Int))∧w=w':=by
 obtain ⟨q,HQ⟩:∃ q:Nat,Hid (s.toNat=q):=⟨_,hid rfl⟩
 have hq:q≤4294967295:=by rw [← HQ.out];exact Nat.le_of_lt_succ s.isLt
 rw [HQ.out]
 go_enter Try.func59,Try.ntmps59
 go_wp2_with fail
 have hq0:Hid (q=(crTn 0 s).toNat):=hid HQ.out.symm
 clear hq
 go_loopw [0,4] (fun sr si wr=>∃ i m:Nat,i≤8∧si=.int .i64 (i:Int)∧sr=.int .u32 (m:Int)∧Hid (m=(crTn i s).toNat)∧Hid (w=wr)) (fun _ si _=>8 - (intOf si).toNat)
 case atStart=>exact ⟨0,q,Nat.zero_le _,rfl,rfl,hq0,hid rfl⟩
 case round=>
  obtain ⟨i,m,hi,rfl,rfl,HM,HW⟩:=hrel
  have hm:m≤4294967295:=by rw [HM.out];exact Nat.le_of_lt_succ (BitVec.isLt _)
  by_cases hlt:i < 8
  ·have hi8:(i:Int) < 8:=by omega
   have hcr:=crT_nat (crTn i s)
   rw [← HM.out,← crTn_succ] at hcr
   have HCR:=hid hcr
   clear hcr
   by_cases hbig:2147483648≤m
   ·have hsh:(m:Int) / 2147483648=1:=by omega
    obtain ⟨d,HD⟩:∃ d:Nat,Hid (2 * m - 4294967296=d):=⟨_,hid rfl⟩
    have hd:d≤4294967295:=by have:=HD.out;omega
    have hwr:IntKind.u32.wrap ((m:Int) * 2)=(d:Int):=by
     rw [IntKind.wrap_u32']
     have:=HD.out
     omega
    obtain ⟨u,HU⟩:∃ u:Nat,Hid (d ^^^ 2168537515=u):=⟨_,hid rfl⟩
    have hx:bits BinOp.xor IntKind.u32 (d:Int) 2168537515=(u:Int):=by
     rw [← HU.out]
     exact u32_xor_nat _ 2168537515 (by omega) (by decide)
    have HB:=hid hbig
    clear hbig
    go_wp2_with fail
    go_roundw
    case rel=>exact ⟨i + 1,u,by omega,by go_num,rfl,hid (by rw [HCR.out,if_pos HB.out,HD.out,HU.out]),HW⟩
    case measure=>simp [intOf];omega
   ·have hsh:(m:Int) / 2147483648=0:=by omega
    obtain ⟨d,HD⟩:∃ d:Nat,Hid (2 * m=d):=⟨_,hid rfl⟩
    have hwr:IntKind.u32.wrap ((m:Int) * 2)=(d:Int):=by
     rw [IntKind.wrap_u32']
     have:=HD.out
     omega
    have hwr2:(m:Int) * 2=(d:Int):=by have:=HD.out;omega
    have HB:=hid hbig
    clear hbig
    go_wp2_with fail
    go_roundw
    case rel=>exact ⟨i + 1,d,by omega,by go_num,rfl,hid (by rw [HCR.out,if_neg HB.out,HD.out]),HW⟩
    case measure=>simp [intOf];omega
  ·have hi8:¬ (i:Int) < 8:=by omega
   obtain rfl:i=8:=by omega
   go_wp2_with fail
   go_ret
   exact ⟨by rw [← HM.out];rfl,HW.out⟩
theorem foldl_take (l:List UInt8) (r:BitVec 32) {j:Nat} (hj:j < l.length):(l.take (j + 1)).foldl crN r=crN ((l.take j).foldl crN r) l[j]:=by
 rw [List.take_succ_eq_append_getElem hj,List.foldl_append]
 rfl
set_option maxHeartbeats 1600000 in
theorem crcOf_any (ls:List (List UInt8)) (vs:Nat→Value) (gp n c:Nat) (w:World) (hn:ls.length=n) (_hg:gp < w.heap.size)
  (hc:∀ j,j < n→w.cell? ⟨gp,j,none⟩=some (vs j)) (hv:∀ j (h:j < ls.length),Byt w (vs j) ls[j]) (hs:ls.flatten.length≤1000000000) (hn2:n≤1000):
  Calls Try.prog 57 #[.slice (some ⟨gp,0,none⟩) n c] w fun e w'=>e=.returned (.int .u32 ((crcS ls.flatten).toNat:Int))∧Below w.heap.size w w':=by
 have HC:=hid hc
 have HV:=hid hv
 have HN:=hid hn
 clear hc hv hn
 go_enter Try.func57,Try.ntmps57
 go_wp2_with fail
 go_loopw [3,10] (fun sr si wr=>∃ i m:Nat,i≤n∧si=.int .i64 (i:Int)∧sr=.int .u32 (m:Int)∧Hid (m=(crcS (ls.take i).flatten).toNat)∧Hid (w=wr)) (fun _ si _=>n - (intOf si).toNat)
 case atStart=>exact ⟨0,0,Nat.zero_le _,rfl,rfl,hid (by rw [List.take_zero];rfl),hid rfl⟩
 case round=>
  obtain ⟨i,m,hi,rfl,rfl,HM,HW⟩:=hrel
  obtain rfl:=HW.out
  clear HW
  by_cases hlt:i < n
  ·have hin:(i:Int) < (n:Int):=by omega
   have hil:i < ls.length:=by rw [HN.out];exact hlt
   have k1:=HC.out i hlt
   have hb:=HV.out i hil
   have hlen:ls[i].length≤1000000000:=by
    have h1:=congrArg (fun l=>l.flatten.length) (List.take_append_drop i ls)
    rw [List.drop_eq_getElem_cons hil] at h1
    simp only [List.flatten_append,List.flatten_cons,List.length_append] at h1
    omega
   have hfl:(ls.take (i + 1)).flatten=(ls.take i).flatten ++ ls[i]:=by rw [List.take_succ_eq_append_getElem hil,List.flatten_append,List.flatten_singleton]
   have HFL:=hid hfl
   clear hfl
   obtain ⟨l,HL⟩:∃ l:List UInt8,Hid (ls[i]=l):=⟨_,hid rfl⟩
   rw [HL.out] at hb hlen
   obtain ⟨B,cb',hvb⟩:=hb.shape
   rw [hvb] at k1 hb
   obtain ⟨L,HLL⟩:∃ L:Nat,Hid (l.length=L):=⟨_,hid rfl⟩
   rw [HLL.out] at k1 hb hlen
   have HB:=hid hb
   clear hb hvb
   go_wp2_with fail
   go_loopw [3,16] (fun sr sj wr=>∃ (j m:Nat),j≤L∧sj=.int .i64 (j:Int)∧sr=.int .u32 (m:Int)∧Hid (m=((l.take j).foldl crN (crcS (ls.take i).flatten)).toNat)∧Hid (w=wr)) (fun _ sj _=>L - (intOf sj).toNat)
   case atStart=>exact ⟨0,m,Nat.zero_le _,rfl,rfl,hid (by rw [List.take_zero];exact HM.out),hid rfl⟩
   case round=>
    obtain ⟨j,m2,hj,rfl,rfl,HM2,HW⟩:=hrel
    obtain rfl:=HW.out
    clear HW
    by_cases hlt2:j < L
    ·have hjL:(j:Int) < (L:Int):=by omega
     have hjl:j < l.length:=by rw [HLL.out];exact hlt2
     obtain ⟨b,off,rfl,_,hcl⟩:=HB.out.at_.2.2.2 (by omega)
     have k2:=hcl j hjl
     clear hcl
     unfold bcell at k2
     obtain ⟨y,HY⟩:∃ y:Nat,Hid (l[j].toNat=y):=⟨_,hid rfl⟩
     have hy:y≤255:=by have:=l[j].toNat_lt;have:=HY.out;omega
     obtain ⟨m3,HM3⟩:∃ y:Nat,Hid (((l.take (j + 1)).foldl crN (crcS (ls.take i).flatten)).toNat=y):=⟨_,hid rfl⟩
     obtain ⟨q,HQ⟩:∃ q:Nat,Hid (((l.take j).foldl crN (crcS (ls.take i).flatten) ^^^ BitVec.ofNat 32 (l[j].toNat * 16777216)).toNat=q):=⟨_,hid rfl⟩
     have hm2:m2≤4294967295:=by rw [HM2.out];exact Nat.le_of_lt_succ (BitVec.isLt _)
     have hx:bits BinOp.xor IntKind.u32 (m2:Int) ((y:Int) * 16777216)=(q:Int):=by
      have e:(y:Int) * 16777216=((y * 16777216:Nat):Int):=by omega
      rw [e,← HQ.out,BitVec.toNat_xor,BitVec.toNat_ofNat,← HM2.out,HY.out,Nat.mod_eq_of_lt (by omega)]
      exact u32_xor_nat _ _ (by omega) (by omega)
     have CS:=crcTurn_any ((l.take j).foldl crN (crcS (ls.take i).flatten) ^^^ BitVec.ofNat 32 (l[j].toNat * 16777216)) w
     rw [HQ.out] at CS
     have hcn:crTn 8 ((l.take j).foldl crN (crcS (ls.take i).flatten) ^^^ BitVec.ofNat 32 (l[j].toNat * 16777216))=crN ((l.take j).foldl crN (crcS (ls.take i).flatten)) l[j]:=rfl
     rw [hcn,← foldl_take l _ hjl,HM3.out] at CS
     rw [HY.out] at k2
     have HCS:=hid CS
     clear CS hcn hm2
     go_wp2_with fail
     refine HCS.out.mono ?_
     rintro e w1 ⟨rfl,rfl⟩
     go_wp2_with fail
     go_roundw
     case rel=>exact ⟨j + 1,m3,by omega,by go_num,rfl,hid HM3.out.symm,(by first | exact hid rfl | exact hid trivial)⟩
     case measure=>simp [intOf];omega
    ·have hjL:¬ (j:Int) < (L:Int):=by omega
     have hj2:l.take j=l:=List.take_of_length_le (by rw [HLL.out];omega)
     rw [hj2] at HM2
     clear hj2
     go_wp2_with fail
     go_roundw
     case rel=>exact ⟨i + 1,m2,by omega,by go_num,rfl,hid (by rw [HM2.out,HFL.out,HL.out];unfold crcS;rw [List.foldl_append]),(by first | exact hid rfl | exact hid trivial)⟩
     case measure=>simp [intOf];omega
  ·have hin:¬ (i:Int) < (n:Int):=by omega
   have hi2:ls.take i=ls:=List.take_of_length_le (by rw [HN.out];omega)
   rw [hi2] at HM
   clear hi2
   go_wp2_with fail
   go_ret
   exact ⟨by rw [← HM.out];rfl,Below.refl _ _⟩
end Go.Proofs.Ytfpgglclpkcdhaa
namespace Go.Proofs.Ytfpgglclpkcdhaa
set_option maxRecDepth 20000
open Go.RowKit
theorem take4 {l:List UInt8} (h:4≤l.length):l.take 4=[l.getD 0 0,l.getD 1 0,l.getD 2 0,l.getD 3 0]:=by
 match l,h with
 | a :: b :: c :: d :: r,_=>rfl
theorem byte_of {n:Nat} {x:UInt8} (h:n=x.toNat):UInt8.ofNat n=x:=by
 rw [h,UInt8.ofNat_toNat]
theorem fourL_num {l:List UInt8} (h:4≤l.length):fourL (numL l)=l.take 4:=by
 rw [take4 h]
 have h0:=(l.getD 0 0).toNat_lt
 have h1:=(l.getD 1 0).toNat_lt
 have h2:=(l.getD 2 0).toNat_lt
 have h3:=(l.getD 3 0).toNat_lt
 unfold fourL
 rw [byte_of (x:=l.getD 0 0) (by unfold numL;omega),byte_of (x:=l.getD 1 0) (by unfold numL;omega),byte_of (x:=l.getD 2 0) (by unfold numL;omega),byte_of (x:=l.getD 3 0) (by unfold numL;omega)]
theorem got_iff {l:List UInt8} (hl:8 + numL l≤l.length):recS (inL l)=l.take (8 + numL l) ↔ (crcS (l.take 4 ++ inL l)).toNat=numL ((l.drop 4).take 4):=by
 have hil:(inL l).length=numL l:=by unfold inL;rw [List.length_take,List.length_drop];omega
 have hd4:((l.drop 4).take 4).length=4:=by rw [List.length_take,List.length_drop];omega
 have e:l.take (8 + numL l)=l.take 4 ++ ((l.drop 4).take 4 ++ inL l):=by
  unfold inL
  rw [show 8 + numL l=4 + (4 + numL l) from by omega,List.take_add,List.take_add,List.drop_drop]
 have hf:fourL (inL l).length=l.take 4:=by rw [hil,fourL_num (by omega)]
 have hn4:fourL (numL ((l.drop 4).take 4))=(l.drop 4).take 4:=by
  rw [fourL_num (by rw [hd4];omega),List.take_of_length_le (by rw [hd4];omega)]
 unfold recS
 rw [e,hf]
 constructor
 ·intro h
  have h2:=(List.append_inj (List.append_cancel_left h) (by rw [fourL_length,hd4])).1
  rw [← hn4] at h2
  exact fourL_inj (Nat.le_of_lt_succ (BitVec.isLt _)) (numL_lt _) h2
 ·intro h
  rw [h,hn4]
noncomputable def cutLHM (v l h m : Value) (w : World) : Result Next := Sem.run Try.prog (execOp (fun o => match o with | .tmp 0 => v | .tmp 1 => l | .tmp 2 => h | _ => m) { dst := none, op := .slice 33 (.tmp 0) (some (.tmp 1)) (some (.tmp 2)) (some (.tmp 3)), type := 0, pos := "", after := #[], guard := none }) w
theorem exec_cutLHM (r:Operand→Value) (x l h m:Operand) (dst:Option Tmp) (ty:TypeId) (pos:String) (after:Array Edge) (guard:Option (Nat × Bool)) (w:World):
  Sem.run Try.prog (execOp r { dst:=dst,op:=.slice 33 x (some l) (some h) (some m),type:=ty,pos:=pos,after:=after,guard:=guard }) w=cutLHM (r x) (r l) (r h) (r m) w:=rfl
theorem cut_lhm (A:Option Addr) (c L i k:Nat) (hik:i < k) (hk:k≤L) (hc:L≤c):∃ A',(∀ w,cutLHM (.slice A L c) (.int .i64 (i:Int)) (.int .i64 (k:Int)) (.int .i64 (k:Int)) w=.ok (.value (.slice A' (k - i) (k - i))) w)∧∀ w l,l.length=L→Byt w (.slice A L c) l→Byt w (.slice A' (k - i) (k - i)) ((l.drop i).take (k - i)):=by
 refine ⟨if k=i then A else A.map (·.add i),fun w=>?_,fun w l hl hv=>?_⟩
 ·obtain ⟨i0,hi,hz0,hz1,hz2⟩:=info_parts info_u8
  have hk4:k≤c:=by omega
  have hik2:i≤k:=by omega
  have hne:¬ k=i:=by omega
  unfold cutLHM execOp
  simp [Instr.sliceAt,Instr.slice,run_underlying under_bytes,Instr.sliceBounds,Instr.sliceBound,asIntOf,sizeOf,typeInfo,hi,hz1,hik2,hk4,hne,Sem.run_bind]
 ·obtain ⟨_,h1,h2,h3⟩:=hv.at_
  have hs:=sub_length (l:=l) (i:=i) (k:=k) (by omega)
  have h4:=h3.sub i k (k + 1 + l.length) (by omega) (by omega) (by omega)
  rw [if_neg (by omega)] at h4
  rw [if_neg (by omega)]
  exact ⟨_,k - i,by rw [hs],by rw [hs];exact Nat.le_refl _,by omega,h4⟩
end Go.Proofs.Ytfpgglclpkcdhaa
