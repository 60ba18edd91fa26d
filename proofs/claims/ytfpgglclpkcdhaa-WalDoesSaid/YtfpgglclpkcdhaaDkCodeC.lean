/-
  disk's functions: Crash, Spoil; nobody's disk. Printed with gendc.py.
-/
import Derived.Test.YtfpgglclpkcdhaaDkCodeB
namespace Go.Proofs.Ytfpgglclpkcdhaa
set_option maxRecDepth 20000
open Go.RowKit
section
variable {w:World} {b B:Nat} {D:DkM} {va vt:Value}
theorem take_crash (s m h:List UInt8) (n:Int):((s ++ m) ++ h).take ((s.length:Int) + min (max n 0) ((m.length:Int) + h.length)).toNat=s ++ (m ++ h).take n.toNat:=by
 rw [List.append_assoc,List.take_append]
 have e1:s.take ((s.length:Int) + min (max n 0) ((m.length:Int) + h.length)).toNat=s:=List.take_of_length_le (by omega)
 rw [e1]
 congr 1
 by_cases hc:n≤(m.length:Int) + h.length
 ·have e:((s.length:Int) + min (max n 0) ((m.length:Int) + h.length)).toNat - s.length=n.toNat:=by omega
  rw [e]
 ·rw [List.take_of_length_le (by rw [List.length_append];omega),List.take_of_length_le (by rw [List.length_append];omega)]
set_option maxHeartbeats 3200000 in
theorem dkCrash_any (h:DkE w b B D va vt) (g:D.Good) (hB:B≤w.heap.size) (n:Int):
  Calls Try.prog 23 #[.pointer (some ⟨b,0,none⟩),.int .i64 n] w fun e w'=>e=.returned (.tuple #[])∧DkTo b B w va.ownBlock vt D.h (crashD D n) w':=by
 have HGV:=hid (dkGiven_any h)
 have HH:=hid h
 have HG:=hid g
 have HBW:=hid hB
 obtain ⟨At,ct,rfl⟩:=h.t.shape
 obtain ⟨Aa,M,ca,rfl,hM⟩:=dk_shape h
 have HM:=hid hM
 obtain ⟨a,HA⟩:∃ a:Option Nat,Hid ((Value.slice Aa M ca).ownBlock=a):=⟨_,hid rfl⟩
 obtain ⟨VT,HTV⟩:∃ t:Value,Hid (Value.slice At D.h.length ct=t):=⟨_,hid rfl⟩
 rw [HTV.out]
 obtain ⟨KH,HK⟩:∃ q:Nat,Hid (D.h.length=q):=⟨_,hid rfl⟩
 rw [HK.out] at HH
 rw [HA.out]
 obtain ⟨_,_,c2,_,_,_,c6⟩:=h.cells
 rw [HK.out] at c6
 have HC2:Hid (w.cell? ⟨b,2,none⟩=some (.slice Aa M ca)∧w.cell? ⟨b,6,none⟩=some (.slice At KH ct)):=hid ⟨c2,c6⟩
 have hs2:(D.s ++ D.m).length + D.h.length≤140737488355328:=by
  have:=g.z
  have:=g.r1
  rw [List.length_append]
  omega
 obtain ⟨DD,HDD⟩:∃ q:DkM,Hid (crashD D n=q):=⟨_,hid rfl⟩
 rw [HDD.out]
 have HBD:Hid (B≤w.drew.heap.size):=hid hB
 clear h g hB hM c2 c6
 go_enter Try.func23,Try.ntmps23
 go_wp2_with fail
 refine HGV.out.mono ?_
 rintro e w1 ⟨rfl,rfl⟩
 have HH1:Hid (DkE w.drew b B D (.slice Aa M ca) (.slice At KH ct)):=hid (HH.out.drewN 1)
 have HMID:Hid (∀ v1 w1,Own B w1 v1 ((D.s ++ D.m) ++ D.h)→w.drew.grownBy w1 (Value.slice Aa M ca).ownBlock→(v1.ownBlock=(Value.slice Aa M ca).ownBlock∨v1.ownBlock=some w.drew.heap.size)→DkTo b B w a VT D.h { D with m:=D.m ++ D.h } (w1.setCell ⟨b,2,none⟩ v1)):=hid (fun v1 w1 ho hg hv=>by
  obtain ⟨p1,_,_,_⟩:=HH1.out.grown hg
  have ht:=HH1.out.bys HH1.out.t HH1.out.f (TnD.grown hg)
  have hn:=Nw.of hv
  have hf:=HH1.out.f.nw HH1.out.t hn
  rw [List.append_assoc] at ho
  have hE:=dk_set (i:=2) (u:=v1) (D:={ D with m:=D.m ++ D.h }) p1 rfl ho ht hf
  have hg2:TnD b a w w1:=by
   have:=TnD.grown (b:=b) hg
   rw [HA.out] at this
   exact ⟨this.os,this.tape,this.output,this.size,this.block⟩
  rw [HA.out] at hn
  exact ⟨_,_,hE,hg2.set _ _,hn,by rw [← HTV.out,← HK.out];exact Nf.refl _ _ _⟩)
 go_upto_region 1 with (fail)
 go_cut [17] (fun s17 wy=>Hid (DkTo b B w a VT D.h { D with m:=D.m ++ D.h } wy))
 case first=>
  refine wp_region_held_drew (S:=fun _=>True) (by kernel_rfl) trivial (fun hHeld=>?_)
  refine' tkq 0 rfl ?_;try simp only [lay]
  refine' tkq 1 rfl ?_;try simp only [lay]
  refine' tkq 2 rfl ?_;try simp only [lay]
  refine' tkq 3 rfl ?_;try simp only [lay]
  refine' tkq 5 rfl ?_;try simp only [lay]
  refine' tkq 6 rfl ?_;try simp only [lay]
  refine' tkq 7 rfl ?_;try simp only [lay]
  refine pair_on (i:=4) (j:=8) rfl rfl (by kernel_rfl) (by rfl) (by rfl) (fun K hK=>?_) (fun K hK=>?_)
  ·have k2:=HC2.out.1
   go_simp
   refine hK.out _ _ trivial (fun hHeld=>?_)
   clear hK K k2
   try simp only [lay]
   refine call_on (i:=8) rfl (by kernel_rfl) (by rfl) (fun K hK=>?_)
   have k6:=HC2.out.2
   go_simp
   refine hK.out _ _ (trivial) (fun hHeld=>?_)
   clear hK K k6
   try simp only [lay]
   refine call_on (i:=9) rfl (by kernel_rfl) (by rfl) (fun K hK=>?_)
   refine wp_append_byt (.tmp 12) (.tmp 16) rfl rfl rfl HH1.out.o HH1.out.t.byt hs2 HBD.out ?_
   intro v1 w1 ho1 hg1 hv1
   have HO1:=hid ho1
   have HG1:Hid (w.drew.grownBy w1 (Value.slice Aa M ca).ownBlock):=hid hg1
   have HV1:Hid (v1.ownBlock=(Value.slice Aa M ca).ownBlock∨v1.ownBlock=some w.drew.heap.size):=hid hv1
   clear ho1 hg1 hv1
   refine hK.out _ _ (trivial) (fun hHeld=>?_)
   clear hK K
   try simp only [lay]
   refine' tkq 10 rfl ?_;try simp only [lay]
   refine' tkq 11 rfl ?_;try simp only [lay]
   obtain ⟨A1,N1,d1,rfl⟩:∃ A N c,v1=.slice A N c:=by
    obtain ⟨A,c,e⟩:=HO1.out.byt.shape
    exact ⟨_,_,_,e⟩
   obtain ⟨p1,k2,f2,k6⟩:=HH1.out.grown HG1.out
   have HE:=hid (HMID.out _ _ HO1.out HG1.out HV1.out)
   clear p1 k6
   refine call_on (i:=12) rfl (by kernel_rfl) (by rfl) (fun K hK=>?_)
   go_simp
   refine hK.out _ _ (trivial) (fun hHeld=>?_)
   clear hK K
   try simp only [lay]
   refine wpAnyH_done (by kernel_rfl) ?_ _
   clear hHeld k2 f2
   go_wp2_with fail
   go_meet
   case rel=>exact HE
  ·have k6:=HC2.out.2
   go_simp
   refine hK.out _ _ trivial (fun hHeld=>?_)
   clear hK K k6
   try simp only [lay]
   refine call_on (i:=4) rfl (by kernel_rfl) (by rfl) (fun K hK=>?_)
   have k2:=HC2.out.1
   go_simp
   refine hK.out _ _ (trivial) (fun hHeld=>?_)
   clear hK K k2
   try simp only [lay]
   refine call_on (i:=9) rfl (by kernel_rfl) (by rfl) (fun K hK=>?_)
   refine wp_append_byt (.tmp 12) (.tmp 16) rfl rfl rfl HH1.out.o HH1.out.t.byt hs2 HBD.out ?_
   intro v1 w1 ho1 hg1 hv1
   have HO1:=hid ho1
   have HG1:Hid (w.drew.grownBy w1 (Value.slice Aa M ca).ownBlock):=hid hg1
   have HV1:Hid (v1.ownBlock=(Value.slice Aa M ca).ownBlock∨v1.ownBlock=some w.drew.heap.size):=hid hv1
   clear ho1 hg1 hv1
   refine hK.out _ _ (trivial) (fun hHeld=>?_)
   clear hK K
   try simp only [lay]
   refine' tkq 10 rfl ?_;try simp only [lay]
   refine' tkq 11 rfl ?_;try simp only [lay]
   obtain ⟨A1,N1,d1,rfl⟩:∃ A N c,v1=.slice A N c:=by
    obtain ⟨A,c,e⟩:=HO1.out.byt.shape
    exact ⟨_,_,_,e⟩
   obtain ⟨p1,k2,f2,k6⟩:=HH1.out.grown HG1.out
   have HE:=hid (HMID.out _ _ HO1.out HG1.out HV1.out)
   clear p1 k6
   refine call_on (i:=12) rfl (by kernel_rfl) (by rfl) (fun K hK=>?_)
   go_simp
   refine hK.out _ _ (trivial) (fun hHeld=>?_)
   clear hK K
   try simp only [lay]
   refine wpAnyH_done (by kernel_rfl) ?_ _
   clear hHeld k2 f2
   go_wp2_with fail
   go_meet
   case rel=>exact HE
 case rest=>
  obtain ⟨va,vt,h1,t1,n1,m1⟩:=hcut.out
  obtain ⟨A1,N1,d1,rfl,hN⟩:=dk_shape h1
  obtain ⟨_,_,k2,k3,_,_,_⟩:=h1.cells
  have H1:=hid h1
  have HT1:=hid t1
  have HN1:=hid n1
  have HL1:Hid (N1=D.s.length + (D.m.length + D.h.length)):=hid (by rw [hN,List.length_append])
  have HZ:Hid ((D.s.length:Int) + D.m.length + D.h.length≤1048576):=hid (by have:=HG.out.z;have:=HG.out.r1;omega)
  have hw:IntKind.i64.wrap ((N1:Int) - (D.s.length:Int))=(N1:Int) - (D.s.length:Int):=by
   have:=HL1.out
   have:=HZ.out
   rw [IntKind.wrap_i64]
   omega
  have HLV:Hid (∀ (x y:Int) (n':Nat),y=x→x=(D.s.length:Int) + min (max n 0) ((D.m.length:Int) + D.h.length)→Calls Try.prog 46 #[.pointer (some ⟨b,0,none⟩),.int .i64 y] (wc.drewN n') fun e w'=>e=.returned (.tuple #[])∧∃ v',v'.ownBlock=(Value.slice A1 N1 d1).ownBlock∧DkE w' b B ⟨D.s ++ (D.m ++ D.h).take n.toNat,[],D.h,D.room,D.left,D.dead⟩ v' vt∧TnD b (Value.slice A1 N1 d1).ownBlock wc w'):=hid (fun x y n' hy hx=>by
   subst hy
   have hd:=h1.drewN n'
   have:=dkLeave_any (D:={ D with m:=D.m ++ D.h }) hd.p hd.o hd.t hd.f rfl y.toNat (by
    show y.toNat≤(D.s ++ (D.m ++ D.h)).length
    rw [List.length_append,List.length_append]
    omega)
   rw [Int.toNat_of_nonneg (by omega)] at this
   have e:(D.s ++ (D.m ++ D.h)).take y.toNat=D.s ++ (D.m ++ D.h).take n.toNat:=by rw [← take_crash,hx,List.append_assoc]
   simp only [e] at this
   exact this.mono fun _ _ ⟨q1,v',q2,q3,q4⟩=>⟨q1,v',q2,q3,⟨q4.os,q4.tape,q4.output,q4.size,q4.block⟩⟩)
  have HO:Hid ((N1:Int) - (D.s.length:Int)=(D.m.length:Int) + D.h.length):=hid (by have:=HL1.out;omega)
  have hs:∃ SL:Int,Hid ((D.s.length:Int)=SL):=⟨_,hid rfl⟩
  obtain ⟨SL,HSL⟩:=hs
  rw [HSL.out] at k3 hw HO HLV HZ
  have HNM:Hid (0≤(N1:Int) - SL):=hid (by rw [HO.out];omega)
  have HZ0:Hid (0≤SL):=hid (by rw [← HSL.out];omega)
  clear h1 t1 n1 m1 hcut hN
  go_wp2_with fail
  go_quiet (fail)
  go_wp2_with fail
  ·refine (HLV.out _ _ _ (by have:=HZ.out;have:=HO.out;have:=HNM.out;have:=HZ0.out;unfold wrap64;omega) rfl).mono ?_
   rintro e w2 ⟨rfl,v2,hv2,h2,t2⟩
   obtain ⟨_,_,_,_,k4,k5,k6⟩:=h2.cells
   have f4:=h2.free 4
   have f5:=h2.free 5
   have f6:=h2.free 6
   have hE1:=dk_set (i:=6) (u:=.slice none 0 0) (D:=⟨D.s ++ (D.m ++ D.h).take n.toNat,[],[],D.room,D.left,D.dead⟩) h2.p rfl h2.o (Bys.nil _) (.inl rfl)
   have hE2:=dk_set (i:=5) (u:=.bool false) (D:=⟨D.s ++ (D.m ++ D.h).take n.toNat,[],[],D.room,D.left,false⟩) hE1.p rfl hE1.o hE1.t hE1.f
   have HE3:=hid (dk_set (i:=4) (u:=.int .i64 (-1)) (D:=crashD D n) hE2.p rfl hE2.o hE2.t hE2.f)
   have HT2:=hid t2
   have HV2:=hid hv2
   rw [HDD.out] at HE3
   obtain ⟨At2,nt2,ct2,rfl⟩:∃ A N c,vt=.slice A N c:=by
    obtain ⟨A,c,e⟩:=h2.t.shape
    exact ⟨_,_,_,e⟩
   clear h2 t2 hv2 hE1 hE2
   go_wp2_with fail
   go_end0
   exact ⟨rfl,_,_,HE3.out,((HT1.out.trans HN1.out HT2.out).set _ _).set _ _ |>.set _ _,by rw [HV2.out];exact HN1.out,by rw [← HDD.out];exact fun _ _ _=>.inl rfl⟩
  ·refine (HLV.out _ _ _ (by have:=HZ.out;have:=HO.out;have:=HNM.out;have:=HZ0.out;unfold wrap64;omega) rfl).mono ?_
   rintro e w2 ⟨rfl,v2,hv2,h2,t2⟩
   obtain ⟨_,_,_,_,k4,k5,k6⟩:=h2.cells
   have f4:=h2.free 4
   have f5:=h2.free 5
   have f6:=h2.free 6
   have hE1:=dk_set (i:=6) (u:=.slice none 0 0) (D:=⟨D.s ++ (D.m ++ D.h).take n.toNat,[],[],D.room,D.left,D.dead⟩) h2.p rfl h2.o (Bys.nil _) (.inl rfl)
   have hE2:=dk_set (i:=5) (u:=.bool false) (D:=⟨D.s ++ (D.m ++ D.h).take n.toNat,[],[],D.room,D.left,false⟩) hE1.p rfl hE1.o hE1.t hE1.f
   have HE3:=hid (dk_set (i:=4) (u:=.int .i64 (-1)) (D:=crashD D n) hE2.p rfl hE2.o hE2.t hE2.f)
   have HT2:=hid t2
   have HV2:=hid hv2
   rw [HDD.out] at HE3
   obtain ⟨At2,nt2,ct2,rfl⟩:∃ A N c,vt=.slice A N c:=by
    obtain ⟨A,c,e⟩:=h2.t.shape
    exact ⟨_,_,_,e⟩
   clear h2 t2 hv2 hE1 hE2
   go_wp2_with fail
   go_end0
   exact ⟨rfl,_,_,HE3.out,((HT1.out.trans HN1.out HT2.out).set _ _).set _ _ |>.set _ _,by rw [HV2.out];exact HN1.out,by rw [← HDD.out];exact fun _ _ _=>.inl rfl⟩
  ·refine (HLV.out _ _ _ (by have:=HZ.out;have:=HO.out;have:=HNM.out;have:=HZ0.out;unfold wrap64;omega) rfl).mono ?_
   rintro e w2 ⟨rfl,v2,hv2,h2,t2⟩
   obtain ⟨_,_,_,_,k4,k5,k6⟩:=h2.cells
   have f4:=h2.free 4
   have f5:=h2.free 5
   have f6:=h2.free 6
   have hE1:=dk_set (i:=6) (u:=.slice none 0 0) (D:=⟨D.s ++ (D.m ++ D.h).take n.toNat,[],[],D.room,D.left,D.dead⟩) h2.p rfl h2.o (Bys.nil _) (.inl rfl)
   have hE2:=dk_set (i:=5) (u:=.bool false) (D:=⟨D.s ++ (D.m ++ D.h).take n.toNat,[],[],D.room,D.left,false⟩) hE1.p rfl hE1.o hE1.t hE1.f
   have HE3:=hid (dk_set (i:=4) (u:=.int .i64 (-1)) (D:=crashD D n) hE2.p rfl hE2.o hE2.t hE2.f)
   have HT2:=hid t2
   have HV2:=hid hv2
   rw [HDD.out] at HE3
   obtain ⟨At2,nt2,ct2,rfl⟩:∃ A N c,vt=.slice A N c:=by
    obtain ⟨A,c,e⟩:=h2.t.shape
    exact ⟨_,_,_,e⟩
   clear h2 t2 hv2 hE1 hE2
   go_wp2_with fail
   go_end0
   exact ⟨rfl,_,_,HE3.out,((HT1.out.trans HN1.out HT2.out).set _ _).set _ _ |>.set _ _,by rw [HV2.out];exact HN1.out,by rw [← HDD.out];exact fun _ _ _=>.inl rfl⟩
  ·refine (HLV.out _ _ _ (by have:=HZ.out;have:=HO.out;have:=HNM.out;have:=HZ0.out;unfold wrap64;omega) rfl).mono ?_
   rintro e w2 ⟨rfl,v2,hv2,h2,t2⟩
   obtain ⟨_,_,_,_,k4,k5,k6⟩:=h2.cells
   have f4:=h2.free 4
   have f5:=h2.free 5
   have f6:=h2.free 6
   have hE1:=dk_set (i:=6) (u:=.slice none 0 0) (D:=⟨D.s ++ (D.m ++ D.h).take n.toNat,[],[],D.room,D.left,D.dead⟩) h2.p rfl h2.o (Bys.nil _) (.inl rfl)
   have hE2:=dk_set (i:=5) (u:=.bool false) (D:=⟨D.s ++ (D.m ++ D.h).take n.toNat,[],[],D.room,D.left,false⟩) hE1.p rfl hE1.o hE1.t hE1.f
   have HE3:=hid (dk_set (i:=4) (u:=.int .i64 (-1)) (D:=crashD D n) hE2.p rfl hE2.o hE2.t hE2.f)
   have HT2:=hid t2
   have HV2:=hid hv2
   rw [HDD.out] at HE3
   obtain ⟨At2,nt2,ct2,rfl⟩:∃ A N c,vt=.slice A N c:=by
    obtain ⟨A,c,e⟩:=h2.t.shape
    exact ⟨_,_,_,e⟩
   clear h2 t2 hv2 hE1 hE2
   go_wp2_with fail
   go_end0
   exact ⟨rfl,_,_,HE3.out,((HT1.out.trans HN1.out HT2.out).set _ _).set _ _ |>.set _ _,by rw [HV2.out];exact HN1.out,by rw [← HDD.out];exact fun _ _ _=>.inl rfl⟩
end
end Go.Proofs.Ytfpgglclpkcdhaa
