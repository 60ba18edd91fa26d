/-
  disk's functions: Append, Sync, Cut.
-/
import Derived.Test.YtfpgglclpkcdhaaDkCodeA
namespace Go.Proofs.Ytfpgglclpkcdhaa
set_option maxRecDepth 20000
open Go.RowKit
attribute [local go_sem ↓] exec_cutH
section
variable {w:World} {b B:Nat} {D:DkM} {va vt:Value}
theorem dk_shape (h:DkE w b B D va vt):∃ A N c,va=.slice A N c∧N=D.s.length + D.m.length:=by
 obtain ⟨A,c,e⟩:=h.o.byt.shape
 exact ⟨A,_,c,e,by rw [List.length_append]⟩
theorem dkStep_no (h:DkE w b B D va vt) (g:D.Good) (e0:D.left=0) (n:Nat):Calls Try.prog 54 #[.pointer (some ⟨b,0,none⟩)] (w.drewN n) fun e w'=>e=.returned (.bool false)∧DkE w' b B { D with dead:=true } va vt∧TnD b none w w':=by
 have:=dkStep_any (h.drewN n) g
 rw [show okDk D=false from by unfold okDk;rw [decide_eq_true e0];rfl,show stepDk D={ D with dead:=true } from by unfold stepDk;rw [if_pos e0]] at this
 exact this.mono fun _ _ ⟨h1,h2,h3⟩=>⟨h1,h2,⟨h3.os,h3.tape,h3.output,h3.size,h3.block⟩⟩
theorem dkStep_yes (h:DkE w b B D va vt) (g:D.Good) (e0:¬ D.left=0) (n:Nat):Calls Try.prog 54 #[.pointer (some ⟨b,0,none⟩)] (w.drewN n) fun e w'=>e=.returned (.bool true)∧DkE w' b B { D with left:=(stepDk D).left } va vt∧TnD b none w w':=by
 have:=dkStep_any (h.drewN n) g
 rw [show okDk D=true from by unfold okDk;rw [decide_eq_false e0];rfl,(stepDk_left g e0).1] at this
 exact this.mono fun _ _ ⟨h1,h2,h3⟩=>⟨h1,h2,⟨h3.os,h3.tape,h3.output,h3.size,h3.block⟩⟩
set_option maxHeartbeats 1600000 in
theorem dkAppend_any (h:DkE w b B D va vt) (g:D.Good) (hB:B≤w.heap.size) {vb:Value} {lb:List UInt8} (hv:Byt w vb lb) (hlb:lb.length≤1000000):
  Calls Try.prog 40 #[.pointer (some ⟨b,0,none⟩),vb] w fun e w'=>e=.returned (.int .i64 (appE D lb))∧DkTo b B w va.ownBlock vt D.h (appD D lb) w':=by
 have HF:=hid (dkFault_any h)
 have HH:=hid h
 have HG:=hid g
 have HBW:=hid hB
 have HTN:Hid (∀ n,DkTo b B w va.ownBlock vt D.h D (w.drewN n)):=hid (fun n=>⟨va,vt,h.drewN n,(TnD.refl _ _ _).drewN n,Nw.refl _ _,Nf.refl _ _ _⟩)
 obtain ⟨Ab,cb,rfl⟩:=hv.shape
 have HV:=hid hv
 have HLB:=hid hlb
 obtain ⟨L,HL⟩:∃ q:Nat,Hid (lb.length=q):=⟨_,hid rfl⟩
 obtain ⟨Aa,M,ca,rfl,hM⟩:=dk_shape h
 have HM:=hid hM
 obtain ⟨a,HA⟩:∃ a:Option Nat,Hid ((Value.slice Aa M ca).ownBlock=a):=⟨_,hid rfl⟩
 rw [HA.out] at HTN ⊢
 rw [HL.out] at HV ⊢
 obtain ⟨_,c1,c2,_,_,_,_⟩:=h.cells
 have hw:IntKind.i64.wrap (D.room - (M:Int))=D.room - (M:Int):=by
  have:=g.z
  have:=g.r1
  rw [IntKind.wrap_i64]
  omega
 unfold appE appD
 by_cases hd:D.dead=true
 ·rw [if_pos hd,if_pos hd]
  rw [if_pos hd] at HF
  clear hM hw c1 c2 h g hB hv hlb
  go_enter Try.func40,Try.ntmps40
  go_wp2_with fail
  refine HF.out.mono ?_
  rintro e w1 ⟨rfl,rfl⟩
  go_wp2_with fail
  go_ret
  exact ⟨rfl,HTN.out 0⟩
 rw [if_neg hd,if_neg hd]
 rw [if_neg hd] at HF
 rw [HL.out]
 have HD0:=hid (g.d (dk_live hd))
 by_cases hr:D.room < D.s.length + D.m.length + L
 ·rw [if_pos hr,if_pos hr]
  have hr2:D.room - (M:Int) < (L:Int):=by omega
  clear hM h g hB hv hlb hr
  generalize D.room=R at *
  go_enter Try.func40,Try.ntmps40
  go_wp2_with fail
  refine HF.out.mono ?_
  rintro e w1 ⟨rfl,rfl⟩
  go_wp2_with fail
  go_quiet (fail)
  go_wp2_with fail
  go_ret
  exact ⟨rfl,HTN.out _⟩
 rw [if_neg hr,if_neg hr]
 have hr2:¬ D.room - (M:Int) < (L:Int):=by omega
 by_cases h0:L=0
 ·rw [if_pos h0,if_pos h0]
  subst h0
  clear hM h g hB hv hlb hr
  generalize D.room=R at *
  go_enter Try.func40,Try.ntmps40
  go_wp2_with fail
  refine HF.out.mono ?_
  rintro e w1 ⟨rfl,rfl⟩
  go_wp2_with fail
  go_quiet (fail)
  go_wp2_with fail
  go_ret
  exact ⟨rfl,HTN.out _⟩
 rw [if_neg h0,if_neg h0]
 have h0b:((L:Int) == 0)=false:=by simp;omega
 by_cases e0:D.left=0
 ·rw [if_pos e0,if_pos e0]
  have HS:=hid (dkStep_no h g e0)
  obtain ⟨DD,HDD⟩:∃ q:DkM,Hid ({ D with dead:=true,h:=lb }=q):=⟨_,hid rfl⟩
  rw [HDD.out]
  have HX:Hid (∀ k,a=some k→k < w.heap.size):=hid (fun k e=>(h.o.base (HA.out.trans e)).2)
  clear hM h g hB hv hlb hr h0
  generalize hgR:D.room=R at hw c1 hr2
  clear hgR
  go_enter Try.func40,Try.ntmps40
  go_wp2_with fail
  refine HF.out.mono ?_
  rintro e w1 ⟨rfl,rfl⟩
  go_wp2_with fail
  go_quiet (fail)
  go_wp2_with fail
  refine (HS.out _).mono ?_
  rintro e w1 ⟨rfl,h1,t1⟩
  have HV1:=hid (HH.out.byt HV.out t1)
  have H1:=hid h1
  have HT1:=hid t1
  clear h1 t1 c1 c2
  go_wp2_with fail
  refine (dkCopied_any _ lb w1 (by rw [← HL.out] at HV1 ⊢;exact HV1.out) (by have:=HLB.out;omega)).mono ?_
  rintro e w2 ⟨v2,rfl,ho2,hb2⟩
  obtain ⟨A2,N2,d2,rfl⟩:∃ A N c,v2=.slice A N c:=by
   obtain ⟨A,c,e⟩:=ho2.byt.shape
   exact ⟨_,_,_,e⟩
  have h2:=H1.out.below hb2
  obtain ⟨_,_,_,_,_,_,c6⟩:=h2.cells
  have f6:=h2.free 6
  have HE:=hid (dk_set (i:=6) (u:=.slice A2 N2 d2) (D:={ D with dead:=true,h:=lb }) h2.p rfl h2.o ho2.bys (ho2.off (by rw [HA.out];intro k e;exact Nat.lt_of_lt_of_le (HX.out k e) HT1.out.size)))
  have HT2:=hid (HT1.out.more (a:=a) |>.then hb2)
  have HNV:Hid (Nf w vt D.h (Value.slice A2 N2 d2) DD.h):=hid (by rw [← HDD.out];exact fun a' ha' _=>ho2.off (fun k e=>Nat.lt_of_lt_of_le (ha' k e) HT1.out.size))
  clear ho2 hb2 h2
  rw [HDD.out] at HE
  go_wp2_with fail
  go_ret
  exact ⟨rfl,_,_,HE.out,HT2.out.set _ _,by rw [HA.out];exact Nw.refl _ _,HNV.out⟩
 rw [if_neg e0,if_neg e0]
 rw [(stepDk_left g e0).1]
 have HS:=hid (dkStep_yes h g e0)
 obtain ⟨left,HLF⟩:∃ q:Int,Hid ((stepDk D).left=q):=⟨_,hid rfl⟩
 rw [HLF.out] at HS ⊢
 obtain ⟨DD,HDD⟩:∃ q:DkM,Hid ({ D with left:=left,m:=D.m ++ lb }=q):=⟨_,hid rfl⟩
 rw [HDD.out]
 have hs2:(D.s ++ D.m).length + lb.length≤140737488355328:=by
  have:=g.z
  have:=g.r1
  rw [List.length_append]
  omega
 clear hM h g hB hv hlb hr h0
 generalize hgR:D.room=R at hw c1 hr2
 clear hgR
 go_enter Try.func40,Try.ntmps40
 go_wp2_with fail
 refine HF.out.mono ?_
 rintro e w1 ⟨rfl,rfl⟩
 go_wp2_with fail
 go_quiet (fail)
 go_wp2_with fail
 refine (HS.out _).mono ?_
 rintro e w1 ⟨rfl,h1,t1⟩
 have HV1:=hid (HH.out.byt HV.out t1)
 have H1:=hid h1
 have HT1:=hid t1
 have HB1:=hid (Nat.le_trans HBW.out t1.size)
 have hv1:Byt w1 (.slice Ab L cb) lb:=by rw [← HL.out] at HV1 ⊢;exact HV1.out
 have HVV:=hid hv1
 obtain ⟨_,_,k2,_,_,_,_⟩:=h1.cells
 clear h1 t1 c1 c2 hv1
 go_wp2_with (at_builtin;refine wpList_append_byt rfl (.tmp 39) (.tmp 40) rfl rfl rfl H1.out.o HVV.out hs2 HB1.out ?_;intro v3 w3 ho3 hg3 hv3;obtain ⟨p3,k3,f3,_⟩:=H1.out.grown hg3;obtain ⟨A3,N3,c3,rfl⟩:∃ A N c,v3=.slice A N c:=(by obtain ⟨A,c,e⟩:=ho3.byt.shape;exact ⟨_,_,_,e⟩);have HG3:Hid (w1.grownBy w3 (Value.slice Aa M ca).ownBlock):=hid hg3;have HO3:=hid ho3;have HP3:=hid p3;have HV3:Hid ((Value.slice A3 N3 c3).ownBlock=(Value.slice Aa M ca).ownBlock∨(Value.slice A3 N3 c3).ownBlock=some w1.heap.size):=hid hv3;clear ho3 hg3 p3 hv3)
 go_ret
 have ho:Own B w3 (.slice A3 N3 c3) (D.s ++ (D.m ++ lb)):=by rw [← List.append_assoc];exact HO3.out
 have ht0:=H1.out.t
 have ht:Bys w3 vt D.h:=by
  have e:D.h=[]:=HD0.out
  simp only [e] at ht0 ⊢
  exact ht0.none _
 have HE:=hid (dk_set (i:=2) (u:=.slice A3 N3 c3) (D:={ D with left:=left,m:=D.m ++ lb }) HP3.out rfl ho ht (.inl HD0.out))
 rw [HDD.out] at HE
 have hn:Nw w a (Value.slice A3 N3 c3).ownBlock:=by
  have:=(Nw.refl w a).trans (by have:=Nw.of HV3.out;rw [HA.out] at this;exact this) HT1.out.size
  exact this
 have hgt:TnD b a w w3:=(HT1.out.more (a:=a)).trans (Nw.refl _ _) (TnD.grown (by have:=HG3.out;rw [HA.out] at this;exact this))
 exact ⟨rfl,_,_,HE.out,hgt.set _ _,hn,by rw [← HDD.out];exact Nf.refl _ _ _⟩
set_option maxHeartbeats 1600000 in
theorem dkSync_any (h:DkE w b B D va vt) (g:D.Good):
  Calls Try.prog 41 #[.pointer (some ⟨b,0,none⟩)] w fun e w'=>e=.returned (.int .i64 (syncE D))∧DkTo b B w va.ownBlock vt D.h (syncD D) w':=by
 have HF:=hid (dkFault_any h)
 have HTN:Hid (DkTo b B w va.ownBlock vt D.h D w):=hid ⟨va,vt,h,TnD.refl _ _ _,Nw.refl _ _,Nf.refl _ _ _⟩
 obtain ⟨Aa,M,ca,rfl,hM⟩:=dk_shape h
 have HM:=hid hM
 obtain ⟨a,HA⟩:∃ a:Option Nat,Hid ((Value.slice Aa M ca).ownBlock=a):=⟨_,hid rfl⟩
 rw [HA.out] at HTN ⊢
 unfold syncE syncD
 by_cases hd:D.dead=true
 ·rw [if_pos hd,if_pos hd]
  rw [if_pos hd] at HF
  clear hM h g
  go_enter Try.func41,Try.ntmps41
  go_wp2_with fail
  refine HF.out.mono ?_
  rintro e w1 ⟨rfl,rfl⟩
  go_wp2_with fail
  go_ret
  exact ⟨rfl,HTN.out⟩
 rw [if_neg hd,if_neg hd]
 rw [if_neg hd] at HF
 by_cases e0:D.left=0
 ·rw [if_pos e0,if_pos e0]
  have HS:=hid (dkStep_no h g e0 0)
  clear hM h g
  go_enter Try.func41,Try.ntmps41
  go_wp2_with fail
  refine HF.out.mono ?_
  rintro e w1 ⟨rfl,rfl⟩
  go_wp2_with fail
  refine HS.out.mono ?_
  rintro e w1 ⟨rfl,h1,t1⟩
  have H1:=hid h1
  have HT1:=hid t1
  clear h1 t1
  go_wp2_with fail
  go_ret
  exact ⟨rfl,_,_,H1.out,HT1.out.more,by rw [HA.out];exact Nw.refl _ _,Nf.refl _ _ _⟩
 rw [if_neg e0,if_neg e0]
 rw [(stepDk_left g e0).1]
 have HS:=hid (dkStep_yes h g e0 0)
 obtain ⟨left,HLF⟩:∃ q:Int,Hid ((stepDk D).left=q):=⟨_,hid rfl⟩
 rw [HLF.out] at HS ⊢
 clear hM h g
 go_enter Try.func41,Try.ntmps41
 go_wp2_with fail
 refine HF.out.mono ?_
 rintro e w1 ⟨rfl,rfl⟩
 go_wp2_with fail
 refine HS.out.mono ?_
 rintro e w1 ⟨rfl,h1,t1⟩
 obtain ⟨_,_,k2,k3,_,_,_⟩:=h1.cells
 have f3:=h1.free 3
 have HE:=hid (dk_set (i:=3) (u:=.int .i64 (M:Int)) (D:={ D with left:=left,s:=D.s ++ D.m,m:=[] }) h1.p (by unfold dkc;rw [HM.out];simp) (by show Own B w1 _ ((D.s ++ D.m) ++ []);rw [List.append_nil];exact h1.o) h1.t h1.f)
 have HT1:=hid t1
 clear h1 t1
 go_wp2_with fail
 go_ret
 exact ⟨rfl,_,_,HE.out,(HT1.out.more).set _ _,by rw [HA.out];exact Nw.refl _ _,Nf.refl _ _ _⟩
set_option maxHeartbeats 1600000 in
theorem dkCut_any (h:DkE w b B D va vt) (g:D.Good) (n:Int):
  Calls Try.prog 42 #[.pointer (some ⟨b,0,none⟩),.int .i64 n] w fun e w'=>e=.returned (.int .i64 (cutE D n))∧DkTo b B w va.ownBlock vt D.h (cutD D n) w':=by
 have HF:=hid (dkFault_any h)
 have HTN:Hid (DkTo b B w va.ownBlock vt D.h D w):=hid ⟨va,vt,h,TnD.refl _ _ _,Nw.refl _ _,Nf.refl _ _ _⟩
 obtain ⟨Aa,M,ca,rfl,hM⟩:=dk_shape h
 have HM:=hid hM
 obtain ⟨a,HA⟩:∃ a:Option Nat,Hid ((Value.slice Aa M ca).ownBlock=a):=⟨_,hid rfl⟩
 rw [HA.out] at HTN ⊢
 obtain ⟨_,_,c2,_,_,_,_⟩:=h.cells
 unfold cutE cutD
 by_cases hd:D.dead=true
 ·rw [if_pos hd,if_pos hd]
  rw [if_pos hd] at HF
  clear hM h g
  go_enter Try.func42,Try.ntmps42
  go_wp2_with fail
  refine HF.out.mono ?_
  rintro e w1 ⟨rfl,rfl⟩
  go_wp2_with fail
  go_ret
  exact ⟨rfl,HTN.out⟩
 rw [if_neg hd,if_neg hd]
 rw [if_neg hd] at HF
 by_cases n0:n < 0
 ·rw [if_pos n0,if_pos n0]
  clear hM h g
  go_enter Try.func42,Try.ntmps42
  go_wp2_with fail
  refine HF.out.mono ?_
  rintro e w1 ⟨rfl,rfl⟩
  go_wp2_with fail
  go_ret
  exact ⟨rfl,HTN.out⟩
 rw [if_neg n0,if_neg n0]
 by_cases n1:(D.s.length:Int) + D.m.length < n
 ·rw [if_pos n1,if_pos n1]
  have n2:(M:Int) < n:=by omega
  clear hM h g n1
  go_enter Try.func42,Try.ntmps42
  go_wp2_with fail
  refine HF.out.mono ?_
  rintro e w1 ⟨rfl,rfl⟩
  go_wp2_with fail
  go_ret
  exact ⟨rfl,HTN.out⟩
 rw [if_neg n1,if_neg n1]
 have n2:¬ (M:Int) < n:=by omega
 by_cases e0:D.left=0
 ·rw [if_pos e0,if_pos e0]
  have HS:=hid (dkStep_no h g e0 0)
  clear hM h g n1
  go_enter Try.func42,Try.ntmps42
  go_wp2_with fail
  refine HF.out.mono ?_
  rintro e w1 ⟨rfl,rfl⟩
  go_wp2_with fail
  refine HS.out.mono ?_
  rintro e w1 ⟨rfl,h1,t1⟩
  have H1:=hid h1
  have HT1:=hid t1
  clear h1 t1
  go_wp2_with fail
  go_ret
  exact ⟨rfl,_,_,H1.out,HT1.out.more,by rw [HA.out];exact Nw.refl _ _,Nf.refl _ _ _⟩
 rw [if_neg e0,if_neg e0]
 rw [(stepDk_left g e0).1]
 have HS:=hid (dkStep_yes h g e0 0)
 obtain ⟨left,HLF⟩:∃ q:Int,Hid ((stepDk D).left=q):=⟨_,hid rfl⟩
 rw [HLF.out] at HS ⊢
 obtain ⟨k,rfl⟩:∃ k:Nat,n=(k:Int):=⟨n.toNat,by omega⟩
 have HK:Hid (k≤(D.s ++ D.m).length):=hid (by rw [List.length_append];omega)
 clear hM h g n1
 go_enter Try.func42,Try.ntmps42
 go_wp2_with fail
 refine HF.out.mono ?_
 rintro e w1 ⟨rfl,rfl⟩
 go_wp2_with fail
 refine HS.out.mono ?_
 rintro e w1 ⟨rfl,h1,t1⟩
 have HT1:=hid t1
 have HLV:=hid (dkLeave_any (D:={ D with left:=left }) h1.p h1.o h1.t h1.f rfl k HK.out)
 clear h1 t1
 go_wp2_with fail
 refine HLV.out.mono ?_
 rintro e w2 ⟨rfl,v2,hv2,h2,t2⟩
 have H2:=hid h2
 have HT2:=hid t2
 have HV2:=hid hv2
 clear h2 t2 hv2
 go_wp2_with fail
 go_ret
 exact ⟨rfl,_,_,H2.out,(HT1.out.more).trans (Nw.refl _ _) (by have:=HT2.out;rw [HA.out] at this;exact this),.inl (HV2.out.trans HA.out),Nf.refl _ _ _⟩
end
end Go.Proofs.Ytfpgglclpkcdhaa
