/-
  SeCodeRead SeGet AcPure AcWords CkPure: what each of them says stands at its head.
-/
import Derived.Test.YtpdnnmabijmfbaaGreatDoorBs17
import Derived.Test.YtpdnnmabijmfbaaGreatDoorBs16
import Derived.Test.YtpdnnmabijmfbaaGreatDoorBs18
namespace Go.Proofs.YtpdnnmabijmfbaaGreatDoor
set_option maxRecDepth 20000
open Go.RowKit
attribute [local go_sem ↓] exec_load_se exec_alloc_se exec_store_se exec_load_hash
def readS (l:List UInt8) (p:Nat) (r:Bool):SeM × Nat × Bool:=
 let b:=rdUpto 1099511627776 l p r
 let c:=rdUpto 3 l b.2.1 b.2.2
 let d:=rdUpto 1099511627776 l c.2.1 c.2.2
 let e:=rdHash l d.2.1 d.2.2
 (⟨b.1,c.1,d.1,e.1⟩,e.2)
theorem rawB_read (l:List UInt8):rawB l=((((rdUpto 1099511627776 l 0 true).1:Nat):Int),(readS l (rdUpto 1099511627776 l 0 true).2.1 (rdUpto 1099511627776 l 0 true).2.2).1,(rdHash l (readS l (rdUpto 1099511627776 l 0 true).2.1 (rdUpto 1099511627776 l 0 true).2.2).2.1 (readS l (rdUpto 1099511627776 l 0 true).2.1 (rdUpto 1099511627776 l 0 true).2.2).2.2)):=rfl
theorem readS_ok (l:List UInt8) (p:Nat) (r:Bool):(readS l p r).1.Ok:=rdHash_32 _ _ _
structure RsSt (w0 w:World) (g:Nat) (l:List UInt8) (p:Nat) (r:Bool) (a:SeM):Prop where
 lt:g < w0.heap.size
 gr:w0.grownBy w (some g)
 rd:Rdr w g l p r
 b0:BoxSe w w0.heap.size seZ
 b1:BoxSe w (w0.heap.size + 1) a
section
variable {w0 w w':World} {g:Nat} {l:List UInt8} {p:Nat} {r:Bool} {a:SeM}
theorem seGrown_set {w0 w:World} {row:Option Nat} (h:w0.grownBy w row) (a:Addr) (u:Value) (ha:w0.heap.size≤a.block):w0.grownBy (w.setCell a u) row:=
 ⟨h.os,h.tape,h.output,by simpa using h.size,fun k hk hr=>(Below.heap_setCell w a u k (fun e=>by omega)).trans (h.block k hk hr)⟩
theorem seGrown_past {w0 w w':World} {row:Option Nat} {k:Nat} (h:w0.grownBy w row) (hg:w.grownBy w' (some k)) (hk:w0.heap.size≤k):w0.grownBy w' row:=
 ⟨hg.os.trans h.os,hg.tape.trans h.tape,hg.output.trans h.output,Nat.le_trans h.size hg.size,fun j hj hne=>(hg.block j (Nat.lt_of_lt_of_le hj h.size) (fun e=>by injection e with e;omega)).trans (h.block j hj hne)⟩
theorem RsSt.new (h:Rdr w0 g l p r):RsSt w0 ((w0.alloc (.cells (sec seZ) 40)).alloc (.cells (sec seZ) 40)) g l p r seZ:=by
 have hb:Below w0.heap.size w0 ((w0.alloc (.cells (sec seZ) 40)).alloc (.cells (sec seZ) 40)):=((Below.refl _ _).alloc (Nat.le_refl _) _).alloc (by simp) _
 exact ⟨h.lt,grown_of_below hb _,h.below hb,heap1 w0 _ _,heap2 w0 _ _⟩
theorem RsSt.grow (h:RsSt w0 w g l p r a) {p':Nat} {r':Bool} (hr:Rdr w' g l p' r') (hg:w.grownBy w' (some g)):RsSt w0 w' g l p' r' a:=by
 have h0:=h.b0.lt
 have h1:=h.b1.lt
 have hlt:=h.lt
 exact ⟨hlt,h.gr.trans hg,hr,(hg.block _ h0 (fun e=>by injection e with e;omega)).trans h.b0,(hg.block _ h1 (fun e=>by injection e with e;omega)).trans h.b1⟩
theorem RsSt.cell (h:RsSt w0 w g l p r a) {b:SeM} {v:Value} (i:Nat) (e:(sec a).setIfInBounds i v=sec b):RsSt w0 (w.setCell ⟨w0.heap.size + 1,i,none⟩ v) g l p r b:=by
 have hlt:=h.lt
 refine ⟨hlt,seGrown_set h.gr _ _ (Nat.le_succ _),h.rd.apart (grown_set _ _ _ _) h.b1 (by decide) (by omega),blk_other h.b0 _ (by omega),?_⟩
 have:=set_blk h.b1 i v
 rw [e] at this
 exact this
theorem RsSt.se (h:RsSt w0 w g l p r a) {b:SeM} (hg:w.grownBy w' (some (w0.heap.size + 1))) (hb:BoxSe w' (w0.heap.size + 1) b):RsSt w0 w' g l p r b:=by
 have hlt:=h.lt
 exact ⟨hlt,seGrown_past h.gr hg (Nat.le_succ _),h.rd.apart hg h.b1 (by decide) (by omega),(hg.block _ h.b0.lt (fun e=>by injection e with e;omega)).trans h.b0,hb⟩
theorem RsSt.cells (h:RsSt w0 w g l p r a):
  (w.cell? ⟨w0.heap.size + 1,0,none⟩=some (.int .i64 a.vi)∧w.cell? ⟨w0.heap.size + 1,1,none⟩=some (.int .i64 a.ph)∧w.cell? ⟨w0.heap.size + 1,2,none⟩=some (.int .i64 a.pv))∧
  (∀ i,w.frozen? ⟨w0.heap.size + 1,i,none⟩=false):=⟨h.b1.cells,h.b1.free⟩
theorem RsSt.fin (h:RsSt w0 w g l p r a) (C:Array Value):(setSe w w0.heap.size C).heap[w0.heap.size]?=some (.cells C 40 (0,0))∧Rdr (setSe w w0.heap.size C) g l p r∧w0.grownBy (setSe w w0.heap.size C) (some g):=by
 have hlt:=h.lt
 have hg:w.grownBy (setSe w w0.heap.size C) (some w0.heap.size):=by
  refine ⟨rfl,rfl,rfl,?_,fun k hk hne=>setSe_other w C (fun e=>hne (by rw [e]))⟩
  unfold setSe
  simp
 exact ⟨setSe_same h.b0,h.rd.apart hg h.b0 (by decide) (by omega),seGrown_past h.gr hg (Nat.le_refl _)⟩
end
set_option maxHeartbeats 6400000 in
theorem seread_any (g:Nat) (l:List UInt8) (p:Nat) (r:Bool) (w:World) (hr:Rdr w g l p r) (hl:l.length≤1000000):
  Calls Tryz.prog 107 #[.pointer (some ⟨g,0,none⟩)] w fun e w'=>e=.returned (.agg (sec (readS l p r).1))∧Rdr w' g l (readS l p r).2.1 (readS l p r).2.2∧w.grownBy w' (some g):=by
 have HU:=hid (fun p r W (h:Rdr W g l p r) m (h1:-9223372036854775808≤m) (h2:m≤9223372036854775807)=>upto_any g l p r m W h (by omega) h1 h2)
 have HH:=hid (fun p r W (h:Rdr W g l p r)=>rhash_any g l p r W h (by omega))
 obtain ⟨Z,HZ⟩:∃ C:Array Value,Hid (sec seZ=C):=⟨_,hid rfl⟩
 have hal:∀ W,allocSe W=.ok (.value (.pointer (some ⟨W.heap.size,0,none⟩))) (W.alloc (.cells Z 40)):=fun W=>by rw [← HZ.out];exact allocSe_eq W
 have HSZ:Hid (Z.size=35):=hid (by rw [← HZ.out];exact sec_size seZ_ok)
 obtain ⟨RS,HRS⟩:∃ x:SeM × Nat × Bool,Hid (readS l p r=x):=⟨_,hid rfl⟩
 rw [HRS.out]
 have hst:=RsSt.new hr
 rw [HZ.out] at hst
 have hsz:(w.alloc (.cells Z 40)).heap.size=w.heap.size + 1:=by simp
 clear hr hl
 go_enter Tryz.func107,Tryz.ntmps107
 go_upto_region 2 with (fail)
 generalize ((w.alloc (.cells Z 40)).alloc (.cells Z 40))=w0 at *
 clear hal
 try rw [hsz]
 clear hsz
 obtain ⟨⟨k0,k1,k2⟩,g1⟩:=hst.cells
 have HST:=hid hst
 clear hst
 go_wp2_with fail
 obtain ⟨a1,p1,r1,HA1⟩:∃ x q s,Hid (rdUpto 1099511627776 l p r=(x,q,s)):=⟨_,_,_,hid rfl⟩
 have hm1:a1≤1099511627776:=by have:=rdUpto_le (m:=1099511627776) (l:=l) (p:=p) (r:=r);rw [show ((1099511627776:Nat):Int)=1099511627776 from rfl,HA1.out] at this;exact this
 have C:=HU.out p r _ (HST.out).rd 1099511627776 (by omega) (by omega)
 rw [HA1.out] at C
 refine C.mono ?_
 clear C
 rintro e w1 ⟨rfl,hrd,hgr⟩
 have hst:RsSt w w1 g l p1 r1 ⟨0,0,0,z32⟩:=(HST.out).grow hrd hgr
 clear hrd hgr HST k0 k1 k2 g1
 obtain ⟨⟨k0,k1,k2⟩,g1⟩:=hst.cells
 have HST:=hid hst
 clear hst
 go_wp2_with fail
 obtain ⟨a2,p2,r2,HA2⟩:∃ x q s,Hid (rdUpto 3 l p1 r1=(x,q,s)):=⟨_,_,_,hid rfl⟩
 have hm2:a2≤3:=by have:=rdUpto_le (m:=3) (l:=l) (p:=p1) (r:=r1);rw [show ((3:Nat):Int)=3 from rfl,HA2.out] at this;exact this
 have C:=HU.out p1 r1 _ ((HST.out.cell (b:=⟨(a1:Int),0,0,z32⟩) (v:=.int .i64 (a1:Int)) 0 rfl)).rd 3 (by omega) (by omega)
 rw [HA2.out] at C
 refine C.mono ?_
 clear C
 rintro e w2 ⟨rfl,hrd,hgr⟩
 have hst:RsSt w w2 g l p2 r2 ⟨(a1:Int),0,0,z32⟩:=((HST.out.cell (b:=⟨(a1:Int),0,0,z32⟩) (v:=.int .i64 (a1:Int)) 0 rfl)).grow hrd hgr
 clear hrd hgr HST k0 k1 k2 g1
 obtain ⟨⟨k0,k1,k2⟩,g1⟩:=hst.cells
 have HST:=hid hst
 clear hst
 go_wp2_with fail
 obtain ⟨a3,p3,r3,HA3⟩:∃ x q s,Hid (rdUpto 1099511627776 l p2 r2=(x,q,s)):=⟨_,_,_,hid rfl⟩
 have hm3:a3≤1099511627776:=by have:=rdUpto_le (m:=1099511627776) (l:=l) (p:=p2) (r:=r2);rw [show ((1099511627776:Nat):Int)=1099511627776 from rfl,HA3.out] at this;exact this
 have C:=HU.out p2 r2 _ ((HST.out.cell (b:=⟨(a1:Int),(a2:Int),0,z32⟩) (v:=.int .i64 (a2:Int)) 1 rfl)).rd 1099511627776 (by omega) (by omega)
 rw [HA3.out] at C
 refine C.mono ?_
 clear C
 rintro e w3 ⟨rfl,hrd,hgr⟩
 have hst:RsSt w w3 g l p3 r3 ⟨(a1:Int),(a2:Int),0,z32⟩:=((HST.out.cell (b:=⟨(a1:Int),(a2:Int),0,z32⟩) (v:=.int .i64 (a2:Int)) 1 rfl)).grow hrd hgr
 clear hrd hgr HST k0 k1 k2 g1
 obtain ⟨⟨k0,k1,k2⟩,g1⟩:=hst.cells
 have HST:=hid hst
 clear hst
 go_wp2_with fail
 obtain ⟨h4,p4,r4,HA4⟩:∃ x q s,Hid (rdHash l p3 r3=(x,q,s)):=⟨_,_,_,hid rfl⟩
 have HL4:Hid (h4.length=32):=hid (by have:=rdHash_32 l p3 r3;rw [HA4.out] at this;exact this)
 have C:=HH.out p3 r3 _ ((HST.out.cell (b:=⟨(a1:Int),(a2:Int),(a3:Int),z32⟩) (v:=.int .i64 (a3:Int)) 2 rfl)).rd
 rw [HA4.out] at C
 refine C.mono ?_
 clear C
 rintro e w4 ⟨rfl,hrd,hgr⟩
 have hst:RsSt w w4 g l p4 r4 ⟨(a1:Int),(a2:Int),(a3:Int),z32⟩:=((HST.out.cell (b:=⟨(a1:Int),(a2:Int),(a3:Int),z32⟩) (v:=.int .i64 (a3:Int)) 2 rfl)).grow hrd hgr
 clear hrd hgr HST k0 k1 k2 g1
 have HST0:=hid hst
 clear hst
 simp only
 obtain ⟨a,HAA⟩:∃ a:SeM,Hid ((⟨(a1:Int),(a2:Int),(a3:Int),h4⟩:SeM)=a):=⟨_,hid rfl⟩
 have HOK:Hid a.Ok:=hid (by rw [← HAA.out];exact HL4.out)
 have HRAW:Hid (readS l p r=(a,p4,r4)):=hid (by unfold readS;simp only [HA1.out,HA2.out,HA3.out,HA4.out];rw [← HAA.out])
 have HE:Hid (RS=(a,p4,r4)):=hid (HRS.out.symm.trans HRAW.out)
 go_upto_region 6 with (refine wpList_store_seh rfl _ _ rfl rfl rfl HST0.out.b1 rfl HL4.out ?_;intro v4 hg4 hA4 hs4;have hst:=HST0.out.se (b:=⟨(a1:Int),(a2:Int),(a3:Int),h4⟩) hg4 hA4;clear hg4 hA4 hs4 HST0)
 rw [HAA.out] at hst
 have HST9:=hid hst
 clear hst HA1 HA2 HA3 HA4 HH HU HAA HL4 hm1 hm2 hm3
 obtain ⟨CA,HCA⟩:∃ C:Array Value,Hid (sec a=C):=⟨_,hid rfl⟩
 have HCS:Hid (CA.size=35∧CA.all (·.oneCell')=true):=hid (by rw [← HCA.out];exact ⟨sec_size HOK.out,sec_one _⟩)
 have l9:=loadSe_eq HST9.out.b1 HOK.out
 have s9:storeSe (.pointer (some ⟨w.heap.size,0,none⟩)) (.agg CA) v4=.ok .skip (setSe v4 w.heap.size CA):=by
  have h2:=HST9.out.b0
  unfold BoxSe at h2
  rw [HZ.out] at h2
  exact storeSe_eq h2 HSZ.out HCS.out.1 HCS.out.2
 have HF:=hid (HST9.out.fin CA)
 rw [HCA.out] at l9
 go_wp2_with fail
 refine bodyPost_ret (results_cell_row rfl _ _ _ _ _ (0,0) _ rfl HF.out.1 under_se rfl (by rw [size_se,HCS.out.1])) rfl ?_
 rw [HE.out]
 exact ⟨by rw [← HCA.out],HF.out.2.1,HF.out.2.2⟩
end Go.Proofs.YtpdnnmabijmfbaaGreatDoor
namespace Go.Proofs.YtpdnnmabijmfbaaGreatDoor
set_option maxRecDepth 20000
open Go.RowKit
attribute [local go_sem ↓] exec_load_se exec_alloc_se exec_store_se exec_build_se
set_option maxHeartbeats 6400000 in
theorem refGet13_any (i:Int) (v:Value) (l:List UInt8) (w:World) (hv:Byt w v l) (hl:l.length≤1000000) (hK:Kst 0 w):
  Calls Tryz.prog 22 #[.int .i64 i,v] w fun e w'=>e=.returned (.tuple #[.int .i64 (getB i l).1,.agg (sec (getB i l).2.1),.int .i64 (getB i l).2.2])∧Below w.heap.size w w':=by
 obtain ⟨A,c,rfl⟩:=hv.shape
 have HH:=hid (fun p r (hp:p≤l.length) (w':World) (hb:Below w.heap.size w w')=>refHash_any A c p r l w' (hv.below hb) hp (by omega))
 have HU:=hid (fun p r (hp:p≤l.length) m (h1:-9223372036854775808≤m) (h2:m≤9223372036854775807) (w':World) (hb:Below w.heap.size w w')=>refUpto_any A c p r l m w' (hv.below hb) hp (by omega) h1 h2)
 have HSM:=hid (fun u L (w':World) (hb:Below w.heap.size w w') (hu:Byt w' u L)=>same_any u (.slice A l.length c) L l w' hu (hv.below hb))
 have HKB:=hid (fun W (h:Below w.heap.size w W)=>(show Kst 0 W from hK.below h))
 obtain ⟨Z,HZ⟩:∃ C:Array Value,Hid (sec seZ=C):=⟨_,hid rfl⟩
 have hbz:∀ W,buildSe W=.ok (.value (.agg Z)) W:=fun W=>by rw [← HZ.out];exact buildSe_eq W
 have hal:∀ W,allocSe W=.ok (.value (.pointer (some ⟨W.heap.size,0,none⟩))) (W.alloc (.cells Z 40)):=fun W=>by rw [← HZ.out];exact allocSe_eq W
 have hsz:Z.size=35:=by rw [← HZ.out];exact sec_size seZ_ok
 have hz1:Z.all (·.oneCell')=true:=by rw [← HZ.out];exact sec_one _
 have hs0:storeSe (.pointer (some ⟨w.heap.size + 1,0,none⟩)) (.agg Z) ((w.alloc (.cells Z 40)).alloc (.cells Z 40))=.ok .skip ((w.alloc (.cells Z 40)).alloc (.cells Z 40)):=by
  have hg:=heap2 w (.cells Z 40) (.cells Z 40)
  rw [storeSe_eq hg hsz hsz hz1,setSe_self hg]
 have HSZ:=hid hsz
 have HZ1:=hid hz1
 have HBZ:=hid hbz
 have hst0:=GsSt.new w (.slice A l.length c) (.int .i64 0) (.bool false)
 rw [HZ.out] at hst0
 clear hv hsz hz1 hK
 go_enter Tryz.func22,Tryz.ntmps22
 go_wp2_with fail
 obtain ⟨a1,p1,r1,HA1⟩:∃ x q s,Hid (rdUpto 1099511627776 l 0 true=(x,q,s)):=⟨_,_,_,hid rfl⟩
 have hp1:p1≤l.length:=by have:=rdUpto_pl (m:=1099511627776) (r:=true) (p:=0) (l:=l) (Nat.zero_le _);rw [HA1.out] at this;exact this
 have C:=HU.out 0 true (Nat.zero_le _) 1099511627776 (by omega) (by omega) _ (hst0).bel
 rw [HA1.out] at C
 refine C.mono ?_
 clear C
 rintro e w1 ⟨rfl,hb⟩
 have hst:GsSt w w1 (.slice A l.length c) (.int .i64 0) (.bool false) ⟨0,0,0,z32⟩:=(hst0).below hb
 clear hb hst0 hs0 hbz hal
 obtain ⟨⟨c0,c1,c2⟩,⟨k0,k1,k2⟩,g0,g3⟩:=hst.cells
 have HST:=hid hst
 clear hst
 unfold rv
 go_wp2_with fail
 obtain ⟨a2,p2,r2,HA2⟩:∃ x q s,Hid (rdUpto 1099511627776 l p1 r1=(x,q,s)):=⟨_,_,_,hid rfl⟩
 have hp2:p2≤l.length:=by have:=rdUpto_pl (m:=1099511627776) (r:=r1) (p:=p1) (l:=l) hp1;rw [HA2.out] at this;exact this
 have C:=HU.out p1 r1 hp1 1099511627776 (by omega) (by omega) _ ((HST.out.put (.slice A l.length c) (.int .i64 (p1:Int)) (.bool (!r1)))).bel
 rw [HA2.out] at C
 refine C.mono ?_
 clear C
 rintro e w2 ⟨rfl,hb⟩
 have hst:GsSt w w2 (.slice A l.length c) (.int .i64 (p1:Int)) (.bool (!r1)) ⟨0,0,0,z32⟩:=((HST.out.put (.slice A l.length c) (.int .i64 (p1:Int)) (.bool (!r1)))).below hb
 clear hb HST c0 c1 c2 k0 k1 k2 g0 g3
 obtain ⟨⟨c0,c1,c2⟩,⟨k0,k1,k2⟩,g0,g3⟩:=hst.cells
 have HST:=hid hst
 clear hst
 unfold rv
 go_wp2_with fail
 obtain ⟨a3,p3,r3,HA3⟩:∃ x q s,Hid (rdUpto 3 l p2 r2=(x,q,s)):=⟨_,_,_,hid rfl⟩
 have hp3:p3≤l.length:=by have:=rdUpto_pl (m:=3) (r:=r2) (p:=p2) (l:=l) hp2;rw [HA3.out] at this;exact this
 have C:=HU.out p2 r2 hp2 3 (by omega) (by omega) _ (((HST.out.put (.slice A l.length c) (.int .i64 (p2:Int)) (.bool (!r2))).cell (b:=⟨(a2:Int),0,0,z32⟩) (v:=.int .i64 (a2:Int)) 0 rfl)).bel
 rw [HA3.out] at C
 refine C.mono ?_
 clear C
 rintro e w3 ⟨rfl,hb⟩
 have hst:GsSt w w3 (.slice A l.length c) (.int .i64 (p2:Int)) (.bool (!r2)) ⟨(a2:Int),0,0,z32⟩:=(((HST.out.put (.slice A l.length c) (.int .i64 (p2:Int)) (.bool (!r2))).cell (b:=⟨(a2:Int),0,0,z32⟩) (v:=.int .i64 (a2:Int)) 0 rfl)).below hb
 clear hb HST c0 c1 c2 k0 k1 k2 g0 g3
 obtain ⟨⟨c0,c1,c2⟩,⟨k0,k1,k2⟩,g0,g3⟩:=hst.cells
 have HST:=hid hst
 clear hst
 unfold rv
 go_wp2_with fail
 obtain ⟨a4,p4,r4,HA4⟩:∃ x q s,Hid (rdUpto 1099511627776 l p3 r3=(x,q,s)):=⟨_,_,_,hid rfl⟩
 have hp4:p4≤l.length:=by have:=rdUpto_pl (m:=1099511627776) (r:=r3) (p:=p3) (l:=l) hp3;rw [HA4.out] at this;exact this
 have C:=HU.out p3 r3 hp3 1099511627776 (by omega) (by omega) _ (((HST.out.put (.slice A l.length c) (.int .i64 (p3:Int)) (.bool (!r3))).cell (b:=⟨(a2:Int),(a3:Int),0,z32⟩) (v:=.int .i64 (a3:Int)) 1 rfl)).bel
 rw [HA4.out] at C
 refine C.mono ?_
 clear C
 rintro e w4 ⟨rfl,hb⟩
 have hst:GsSt w w4 (.slice A l.length c) (.int .i64 (p3:Int)) (.bool (!r3)) ⟨(a2:Int),(a3:Int),0,z32⟩:=(((HST.out.put (.slice A l.length c) (.int .i64 (p3:Int)) (.bool (!r3))).cell (b:=⟨(a2:Int),(a3:Int),0,z32⟩) (v:=.int .i64 (a3:Int)) 1 rfl)).below hb
 clear hb HST c0 c1 c2 k0 k1 k2 g0 g3
 obtain ⟨⟨c0,c1,c2⟩,⟨k0,k1,k2⟩,g0,g3⟩:=hst.cells
 have HST:=hid hst
 clear hst
 unfold rv
 go_wp2_with fail
 obtain ⟨h5,p5,r5,HA5⟩:∃ x q s,Hid (rdHash l p4 r4=(x,q,s)):=⟨_,_,_,hid rfl⟩
 have hp5:p5≤l.length:=by have:=rdHash_plS (l:=l) (p:=p4) (r:=r4) hp4;rw [HA5.out] at this;exact this
 have HL5:Hid (h5.length=32):=hid (by have:=rdHash_32 l p4 r4;rw [HA5.out] at this;exact this)
 have C:=HH.out p4 r4 hp4 _ (((HST.out.put (.slice A l.length c) (.int .i64 (p4:Int)) (.bool (!r4))).cell (b:=⟨(a2:Int),(a3:Int),(a4:Int),z32⟩) (v:=.int .i64 (a4:Int)) 2 rfl)).bel
 rw [HA5.out] at C
 refine C.mono ?_
 clear C
 rintro e w5 ⟨rfl,hb⟩
 have hst:GsSt w w5 (.slice A l.length c) (.int .i64 (p4:Int)) (.bool (!r4)) ⟨(a2:Int),(a3:Int),(a4:Int),z32⟩:=(((HST.out.put (.slice A l.length c) (.int .i64 (p4:Int)) (.bool (!r4))).cell (b:=⟨(a2:Int),(a3:Int),(a4:Int),z32⟩) (v:=.int .i64 (a4:Int)) 2 rfl)).below hb
 clear hb HST c0 c1 c2 k0 k1 k2 g0 g3
 obtain ⟨⟨c0,c1,c2⟩,⟨k0,k1,k2⟩,g0,g3⟩:=hst.cells
 have HST:=hid hst
 clear hst
 unfold rv
 go_wp2_with (refine wpList_store_seh rfl _ _ rfl rfl rfl (HST.out.put (.slice A l.length c) (.int .i64 (p5:Int)) (.bool (!r5))).b1 rfl HL5.out ?_;intro wP hgP hbP hsP;have HSP:Hid (GsSt w wP (.slice A l.length c) (.int .i64 (p5:Int)) (.bool (!r5)) ⟨(a2:Int),(a3:Int),(a4:Int),h5⟩):=hid ((HST.out.put (.slice A l.length c) (.int .i64 (p5:Int)) (.bool (!r5))).se hgP hbP);obtain ⟨⟨d0,d1,d2⟩,⟨e0,e1,e2⟩,f0,f3⟩:=HSP.out.cells;clear hgP hbP hsP)
 clear HST c0 c1 c2 k0 k1 k2 g0 g3
 obtain ⟨h6,p6,r6,HA6⟩:∃ x q s,Hid (rdHash l p5 r5=(x,q,s)):=⟨_,_,_,hid rfl⟩
 have hp6:p6≤l.length:=by have:=rdHash_plS (l:=l) (p:=p5) (r:=r5) hp5;rw [HA6.out] at this;exact this
 have HL6:Hid (h6.length=32):=hid (by have:=rdHash_32 l p5 r5;rw [HA6.out] at this;exact this)
 have C:=HH.out p5 r5 hp5 _ (HSP.out).bel
 rw [HA6.out] at C
 refine C.mono ?_
 clear C
 rintro e w6 ⟨rfl,hb⟩
 have hst:GsSt w w6 (.slice A l.length c) (.int .i64 (p5:Int)) (.bool (!r5)) ⟨(a2:Int),(a3:Int),(a4:Int),h5⟩:=(HSP.out).below hb
 clear hb HSP d0 d1 d2 e0 e1 e2 f0 f3
 obtain ⟨⟨c0,c1,c2⟩,⟨k0,k1,k2⟩,g0,g3⟩:=hst.cells
 have HST:=hid hst
 clear hst
 unfold rv
 obtain ⟨a,HAT⟩:∃ a:SeM,Hid ((⟨(a2:Int),(a3:Int),(a4:Int),h5⟩:SeM)=a):=⟨_,hid rfl⟩
 have HOK:Hid a.Ok:=hid (by rw [← HAT.out];exact HL5.out)
 have HRAW:Hid (rawB l=((a1:Int),a,h6,p6,r6)):=hid (by rw [← HAT.out];unfold rawB;simp only [HA1.out,HA2.out,HA3.out,HA4.out,HA5.out,HA6.out])
 have hst:=(HST.out.put (.slice A l.length c) (.int .i64 (p6:Int)) (.bool (!r6)))
 rw [HAT.out] at hst
 go_upto_region 10 with (fail)
 obtain ⟨wP,HWP⟩:∃ W,Hid (((w6.setCell ⟨w.heap.size + 1 + 1,0,none⟩ (.slice A l.length c)).setCell ⟨w.heap.size + 1 + 1,1,none⟩ (.int .i64 (p6:Int))).setCell ⟨w.heap.size + 1 + 1,2,none⟩ (.bool (!r6))=W):=⟨_,hid rfl⟩
 rw [HWP.out] at hst ⊢
 have HSP:=hid hst
 clear HST c0 c1 c2 k0 k1 k2 g0 g3 HA1 HA2 HA3 HA4 HA5 HA6 HAT HWP hst
 have HZB:Hid (∀ W {y0 y1 y2:Value} {b:SeM},GsSt w W y0 y1 y2 b→W.heap[w.heap.size]?=some (.cells Z 40 (0,0))):=hid (fun W _ _ _ _ h=>by have:=h.b0;unfold BoxSe at this;rwa [HZ.out] at this)
 have HZS:Hid (∀ W {y0 y1 y2:Value} {b:SeM},GsSt w W y0 y1 y2 b→storeSe (.pointer (some ⟨w.heap.size,0,none⟩)) (.agg Z) W=.ok .skip W):=hid (fun W _ _ _ _ h=>by
  have hg:=HZB.out W h
  rw [storeSe_eq hg HSZ.out HSZ.out HZ1.out,setSe_self hg])
 obtain ⟨⟨c0,c1,c2⟩,_,_,_⟩:=HSP.out.cells
 cases r6 with
 | false=>
  have HF:=HZB.out _ (HSP.out)
  have hbz:=HBZ.out
  have hsf:storeSe (.pointer (some ⟨w.heap.size,0,none⟩)) (.agg Z) _=_:=HZS.out _ (HSP.out)
  go_wp2_with fail
  refine bodyPost_ret (results_se rfl _ _ _ _ _ _ _ rfl rfl rfl HF HSZ.out) rfl ⟨?_,(HSP.out).bel⟩
  rw [getB_text (i:=i) (by rw [textB_raw HRAW.out];rfl),← HZ.out]
  all_goals rfl
 | true=>
  by_cases hpl:p6=l.length
  ·have hd:((p6:Int) != (l.length:Int))=false:=by simp [hpl]
   have HPL:=hid hpl
   clear hpl
   by_cases hv1:(a1:Int) < 1
   ·have HV1:=hid hv1
    have HF:=HZB.out _ (HSP.out)
    have hbz:=HBZ.out
    have hsf:storeSe (.pointer (some ⟨w.heap.size,0,none⟩)) (.agg Z) _=_:=HZS.out _ (HSP.out)
    go_wp2_with fail
    refine bodyPost_ret (results_se rfl _ _ _ _ _ _ _ rfl rfl rfl HF HSZ.out) rfl ⟨?_,(HSP.out).bel⟩
    rw [getB_text (i:=i) (by rw [textB_raw HRAW.out];have:=HV1.out;simp;omega),← HZ.out]
    all_goals rfl
   ·obtain ⟨CA,HCA⟩:∃ C:Array Value,Hid (sec a=C):=⟨_,hid rfl⟩
    obtain ⟨m,HM⟩:∃ q:Bool,Hid (mayS a=q):=⟨_,hid rfl⟩
    have HMA:Hid (∀ W,Calls Tryz.prog 54 #[.agg CA] W fun e w'=>e=.returned (.bool m)∧Below W.heap.size W w'):=hid (fun W=>by
     have:=refMay13_any a W HOK.out
     rw [HCA.out,HM.out] at this
     exact this)
    have HLD:Hid (∀ W,BoxSe W (w.heap.size + 1) a→loadSe (.pointer (some ⟨w.heap.size + 1,0,none⟩)) W=.ok (.value (.agg CA)) W):=hid (fun W h=>by
     have:=loadSe_eq h HOK.out
     rw [HCA.out] at this
     exact this)
    have l0:=HLD.out wP HSP.out.b1
    go_wp2_with fail
    refine (HMA.out wP).mono ?_
    rintro e w7 ⟨rfl,hb7⟩
    have HS7:=hid (HSP.out.below hb7)
    have HV1:=hid hv1
    clear l0 hb7 c0 c1 c2 hd hv1
    cases m with
    | false=>
     have HF:=HZB.out _ (HS7.out)
     have hbz:=HBZ.out
     have hsf:storeSe (.pointer (some ⟨w.heap.size,0,none⟩)) (.agg Z) _=_:=HZS.out _ (HS7.out)
     go_wp2_with fail
     refine bodyPost_ret (results_se rfl _ _ _ _ _ _ _ rfl rfl rfl HF HSZ.out) rfl ⟨?_,(HS7.out).bel⟩
     rw [getB_text (i:=i) (by rw [textB_raw HRAW.out];rw [HM.out];simp),← HZ.out]
     all_goals rfl
    | true=>
     have HTX:Hid (textB l=true):=hid (by rw [textB_raw HRAW.out,HM.out];have:=HPL.out;have:=HV1.out;simp;omega)
     have hnode:nodeB i=decide (1≤i∧i≤21):=rfl
     by_cases hi1:i < 1
     ·have HNO:Hid (nodeB i=false):=hid (by rw [hnode];simp;omega)
      clear hnode
      have HF:=HZB.out _ (HS7.out)
      have hbz:=HBZ.out
      have hsf:storeSe (.pointer (some ⟨w.heap.size,0,none⟩)) (.agg Z) _=_:=HZS.out _ (HS7.out)
      go_wp2_with fail
      refine bodyPost_ret (results_se rfl _ _ _ _ _ _ _ rfl rfl rfl HF HSZ.out) rfl ⟨?_,(HS7.out).bel⟩
      rw [getB_tag HTX.out (by rw [HNO.out];rintro ⟨h,_⟩;cases h),← HZ.out]
      all_goals rfl
     by_cases hi2:21 < i
     ·have HNO:Hid (nodeB i=false):=hid (by rw [hnode];simp;omega)
      clear hnode
      have HF:=HZB.out _ (HS7.out)
      have hbz:=HBZ.out
      have hsf:storeSe (.pointer (some ⟨w.heap.size,0,none⟩)) (.agg Z) _=_:=HZS.out _ (HS7.out)
      go_wp2_with fail
      refine bodyPost_ret (results_se rfl _ _ _ _ _ _ _ rfl rfl rfl HF HSZ.out) rfl ⟨?_,(HS7.out).bel⟩
      rw [getB_tag HTX.out (by rw [HNO.out];rintro ⟨h,_⟩;cases h),← HZ.out]
      all_goals rfl
     have HYE:Hid (nodeB i=true):=hid (by rw [hnode];simp;omega)
     have HVB:Hid (versB (a1:Int)=true):=hid (by have:=(textB_so HTX.out).2.1;rw [HRAW.out] at this;exact this)
     have HPT:Hid (∀ W,Below w.heap.size w W→Calls Tryz.prog 55 #[.int .i64 i,.int .i64 (a1:Int),.agg CA] W fun e w'=>∃ x,e=.returned x∧Own W.heap.size w' x (blobS i (a1:Int) a)∧Below W.heap.size W w'):=hid (fun W h=>by
      have:=refPut13_any i (a1:Int) a W HOK.out HVB.out HM.out (HKB.out W h)
      rw [HCA.out] at this
      exact this)
     have HEQ:=hid (textB_eq i HTX.out)
     rw [HRAW.out] at HEQ
     obtain ⟨BL,HBL⟩:∃ L:List UInt8,Hid (blobS i (a1:Int) a=L):=⟨_,hid rfl⟩
     rw [HBL.out] at HPT
     simp only [HBL.out] at HEQ
     have l0:=HLD.out w7 HS7.out.b1
     clear hnode
     go_wp2_with fail
     refine (HPT.out w7 HS7.out.bel).mono ?_
     rintro e w8 ⟨x8,rfl,ho8,hb8⟩
     have HS8:=hid (HS7.out.below hb8)
     clear l0 hb8
     go_wp2_with fail
     refine (HSM.out _ BL w8 HS8.out.bel ho8.byt).mono ?_
     rintro e w9 ⟨rfl,n9,rfl⟩
     have HS9:=hid (HS8.out.below (below_drewN (Below.refl _ _) n9))
     obtain ⟨d,HD⟩:∃ d:Bool,Hid (decide (BL=l)=d):=⟨_,hid rfl⟩
     rw [HD.out]
     generalize w8.drewN n9=wQ at *
     clear ho8
     cases d with
     | false=>
      have HF:=HZB.out _ (HS9.out)
      have hbz:=HBZ.out
      have hsf:storeSe (.pointer (some ⟨w.heap.size,0,none⟩)) (.agg Z) _=_:=HZS.out _ (HS9.out)
      go_wp2_with fail
      refine bodyPost_ret (results_se rfl _ _ _ _ _ _ _ rfl rfl rfl HF HSZ.out) rfl ⟨?_,(HS9.out).bel⟩
      rw [getB_tag HTX.out (by rw [HRAW.out];rintro ⟨_,h⟩;exact (of_decide_eq_false HD.out) (HEQ.out.2 h)),← HZ.out]
      all_goals rfl
     | true=>
      go_upto_region 14 with (fail)
      have HXR:Hid (∀ W:World,BoxSe W (w.heap.size + 1) a→loadSe (.pointer (some ⟨w.heap.size + 1,0,none⟩)) W=.ok (.value (.agg CA)) W):=HLD
      have HCS:Hid (CA.size=35∧CA.all (·.oneCell')=true):=hid (by rw [← HCA.out];exact ⟨sec_size HOK.out,sec_one _⟩)
      have HB0:=hid (HZB.out _ HS9.out)
      have HB1:=hid HS9.out.b1
      have HBE:=hid HS9.out.bel
      have HLT:=hid HS9.out.lt
      refine wp_region_held_drew (S:=fun W=>loadSe (.pointer (some ⟨w.heap.size + 1,0,none⟩)) W=.ok (.value (.agg CA)) W) (by kernel_rfl) (HXR.out wQ.drew HB1.out) (fun hHeld=>?_)
      refine' tkq 0 rfl ?_;try simp only [lay]
      refine' tk (i:=1) (v:=_) rfl (fun W hW=>hW) ?_
      try simp only [lay]
      refine' tkq 2 rfl ?_;try simp only [lay]
      refine call_on (i:=3) rfl (by kernel_rfl) (by rfl) (fun K hK=>?_)
      refine wp_store_se (w:=wQ.drew) (C:=CA) _ _ rfl rfl rfl HB0.out HCS.out.1 HSZ.out HCS.out.2 ?_
      intro wa hga hra hsa
      have h1:BoxSe wa (w.heap.size + 1) a:=(hga.block _ (by show _ < wQ.heap.size;have:=HLT.out;omega) (fun e=>by injection e with e;omega)).trans HB1.out
      have hBB:Below w.heap.size w wa:=below_into (HBE.out.drew) (Nat.le_refl _) hga (by show _≤wQ.heap.size;have:=HLT.out;omega)
      refine hK.out _ _ (HXR.out wa h1) (fun hHeld=>?_)
      clear hK K
      try simp only [lay]
      refine' tkq 4 rfl ?_;try simp only [lay]
      refine wpAnyH_done (by kernel_rfl) ?_ _
      clear hHeld
      go_wp2_with fail
      refine bodyPost_ret (results_se rfl _ _ _ _ _ _ _ rfl rfl rfl hra HCS.out.1) rfl ⟨?_,hBB⟩
      rw [getB_yes HTX.out ⟨HYE.out,by rw [HRAW.out];exact HEQ.out.1 (of_decide_eq_true HD.out)⟩,HRAW.out,HCA.out]
      all_goals rfl
  ·have hd:((p6:Int) != (l.length:Int))=true:=bne_iff_ne.2 (by omega)
   have HPL:=hid hpl
   clear hpl
   have HF:=HZB.out _ (HSP.out)
   have hbz:=HBZ.out
   have hsf:storeSe (.pointer (some ⟨w.heap.size,0,none⟩)) (.agg Z) _=_:=HZS.out _ (HSP.out)
   go_wp2_with fail
   refine bodyPost_ret (results_se rfl _ _ _ _ _ _ _ rfl rfl rfl HF HSZ.out) rfl ⟨?_,(HSP.out).bel⟩
   rw [getB_text (i:=i) (by rw [textB_raw HRAW.out];have:=HPL.out;simp [this]),← HZ.out]
   all_goals rfl
end Go.Proofs.YtpdnnmabijmfbaaGreatDoor
namespace Go.Proofs.YtpdnnmabijmfbaaGreatDoor
set_option maxRecDepth 20000
structure AcM where
 bo:Int
 vi:Int
 pv:Int
 pa:List UInt8
 fr:List Int
 tg:List UInt8
 deriving DecidableEq
structure AcM.Ok (a:AcM):Prop where
 pa:a.pa.length=32
 tg:a.tg.length=32
def acZ:AcM:=⟨0,0,0,z32,[],z32⟩
theorem acZ_ok:acZ.Ok:=⟨rfl,rfl⟩
def risesI (top:Int):Int→List Int→Bool
 | _,[]=>true
 | last,x :: r=>(decide (last < x) && decide (x≤top)) && risesI top x r
theorem risesI_mem {top:Int}:∀ {l:List Int} {last:Int},risesI top last l=true→∀ x ∈ l,last < x∧x≤top
 | [],_,_,s,hs=>by cases hs
 | x :: r,last,h,s,hs=>by
  unfold risesI at h
  simp only [Bool.and_eq_true,decide_eq_true_eq] at h
  obtain ⟨⟨h1,h2⟩,h3⟩:=h
  rcases List.mem_cons.1 hs with rfl | hs
  ·exact ⟨h1,h2⟩
  ·have:=risesI_mem h3 s hs
   omega
theorem risesI_nodup {top:Int}:∀ {l:List Int} {last:Int},risesI top last l=true→l.Nodup
 | [],_,_=>List.nodup_nil
 | x :: r,last,h=>by
  unfold risesI at h
  simp only [Bool.and_eq_true,decide_eq_true_eq] at h
  rw [List.nodup_cons]
  refine ⟨fun hm=>?_,risesI_nodup h.2⟩
  have:=(risesI_mem h.2 x hm).1
  omega
theorem risesI_len {l:List Int} {top:Nat} (h:risesI (top:Int) 0 l=true):l.length≤top:=
 unlike_le top l (risesI_nodup h) (fun x hx=>by
  have:=risesI_mem h x hx
  omega)
theorem risesI_more {top k x:Int}:∀ {l:List Int} {last:Int},risesI k last l=true→last≤k→k < x→x≤top→k≤top→risesI top last (l ++ [x])=true
 | [],last,_,h0,h1,h2,_=>by
  show ((decide (last < x) && decide (x≤top)) && true)=true
  simp only [Bool.and_true,Bool.and_eq_true,decide_eq_true_eq]
  omega
 | y :: r,last,h,h0,h1,h2,h3=>by
  unfold risesI at h
  simp only [Bool.and_eq_true,decide_eq_true_eq] at h
  rw [List.cons_append]
  unfold risesI
  simp only [Bool.and_eq_true,decide_eq_true_eq]
  exact ⟨⟨h.1.1,by omega⟩,risesI_more h.2 h.1.2 h1 h2 h3⟩
theorem risesI_top {top k:Int}:∀ {l:List Int} {last:Int},risesI k last l=true→k≤top→risesI top last l=true
 | [],_,_,_=>rfl
 | x :: r,last,h,h1=>by
  unfold risesI at h ⊢
  simp only [Bool.and_eq_true,decide_eq_true_eq] at h ⊢
  exact ⟨⟨h.1.1,by omega⟩,risesI_top h.2 h1⟩
def lastI (l:List Int):Int:=(l[l.length - 1]?).getD 0
theorem lastI_at {l:List Int} (h:0 < l.length):lastI l=l[l.length - 1]:=by
 unfold lastI
 rw [List.getElem?_eq_getElem (by omega)]
 rfl
def mayX (a:AcM):Bool:=risesI 21 0 a.fr && decide (1≤a.bo∧a.bo≤21∧1≤a.vi∧a.vi≤1099511627776∧0≤a.pv∧a.pv < a.vi∧1≤a.fr.length)
theorem mayX_iff {a:AcM}:mayX a=true ↔ risesI 21 0 a.fr=true∧(1≤a.bo∧a.bo≤21∧1≤a.vi∧a.vi≤1099511627776∧0≤a.pv∧a.pv < a.vi∧1≤a.fr.length):=by
 unfold mayX
 simp only [Bool.and_eq_true,decide_eq_true_eq]
def frB (l:List Int):List UInt8:=(l.map fun x=>dg x.toNat).flatten
def taggedX (a:AcM):List UInt8:=dg a.vi.toNat ++ (dg a.pv.toNat ++ (a.pa ++ (dg a.fr.length ++ frB a.fr)))
def tagX (a:AcM):List UInt8:=hl 32 (tagF a.bo 2 (taggedX a))
theorem tagX_len (a:AcM):(tagX a).length=32:=hl_length _ _
def rightX (n:Int) (a:AcM):Bool:=decide (quoS n≠0) && (mayX a && (decide (a.bo≤n) && (decide (a.fr.length=quoS n) && (decide (lastI a.fr≤n) && decide (a.tg=tagX a)))))
theorem frB_len (l:List Int) (h:∀ x ∈ l,1≤x∧x≤21):(frB l).length=l.length:=by
 unfold frB
 induction l with
 | nil=>rfl
 | cons x r ih=>
  have hx:=h x (by simp)
  rw [List.map_cons,List.flatten_cons,List.length_append,ih (fun y hy=>h y (List.mem_cons_of_mem _ hy)),dg_small (by omega),List.length_cons,List.length_cons,List.length_nil]
  omega
theorem mayX_fr {a:AcM} (h:mayX a=true):(∀ x ∈ a.fr,1≤x∧x≤21)∧a.fr.length≤21:=by
 have:=(mayX_iff.1 h).1
 exact ⟨fun x hx=>by have:=risesI_mem this x hx;omega,risesI_len (top:=21) this⟩
theorem taggedX_len {a:AcM} (ho:a.Ok) (hm:mayX a=true):(taggedX a).length≤100:=by
 obtain ⟨_,h1,h2,h3,h4,h5,h6,h7⟩:=mayX_iff.1 hm
 obtain ⟨k1,k2⟩:=mayX_fr hm
 have e1:=dg_len10 (n:=a.vi.toNat) (by omega)
 have e2:=dg_len10 (n:=a.pv.toNat) (by omega)
 have e3:=dg_len10 (n:=a.fr.length) (by omega)
 have:=ho.pa
 have:=frB_len a.fr k1
 unfold taggedX
 simp only [List.length_append]
 omega
def frX (l:List AtM) (q:Nat):Nat→List Int × Int × List UInt8
 | 0=>([],0,z32)
 | k + 1=>if (frX l q k).1.length < q then match l.find? (fun a=>decide (a.bo=((k + 1:Nat):Int))) with
  | some a=>if (frX l q k).1=[]∨(frX l q k).2.1 < a.pv then ((frX l q k).1 ++ [((k + 1:Nat):Int)],a.pv,a.pa) else ((frX l q k).1 ++ [((k + 1:Nat):Int)],(frX l q k).2)
  | none=>frX l q k
  else frX l q k
def goodX (n vi:Int) (a:AtM):Bool:=rightA a && (decide (a.ki=1) && (decide (a.vi=vi) && decide (a.bo≤n)))
def bodyX (b vi:Int) (s:List Int × Int × List UInt8):AcM:=⟨b,vi,s.2.1,s.2.2,s.1,z32⟩
def makeX (b n vi:Int) (l:List AtM):AcM × Int:=
 if quoS n=0∨b < 1∨n < b∨vi < 1∨1099511627776 < vi then (acZ,1)
 else if (l.all (goodX n vi))=false then (acZ,7)
 else if (frX l (quoS n) n.toNat).1.length < quoS n then (acZ,3)
 else ({ bodyX b vi (frX l (quoS n) n.toNat) with tg:=tagX (bodyX b vi (frX l (quoS n) n.toNat)) },0)
section
variable {b n vi:Int} {l:List AtM} {q:Nat}
theorem makeX_arg (h:quoS n=0∨b < 1∨n < b∨vi < 1∨1099511627776 < vi):makeX b n vi l=(acZ,1):=by
 unfold makeX
 rw [if_pos h]
theorem makeX_tag (h:¬ (quoS n=0∨b < 1∨n < b∨vi < 1∨1099511627776 < vi)) (h2:(l.all (goodX n vi))=false):makeX b n vi l=(acZ,7):=by
 unfold makeX
 rw [if_neg h,if_pos h2]
theorem makeX_few (h:¬ (quoS n=0∨b < 1∨n < b∨vi < 1∨1099511627776 < vi)) (h2:(l.all (goodX n vi))=true) (h3:(frX l (quoS n) n.toNat).1.length < quoS n):makeX b n vi l=(acZ,3):=by
 unfold makeX
 rw [if_neg h,if_neg (by rw [h2];decide),if_pos h3]
theorem makeX_done (h:¬ (quoS n=0∨b < 1∨n < b∨vi < 1∨1099511627776 < vi)) (h2:(l.all (goodX n vi))=true) (h3:¬ (frX l (quoS n) n.toNat).1.length < quoS n):
  makeX b n vi l=({ bodyX b vi (frX l (quoS n) n.toNat) with tg:=tagX (bodyX b vi (frX l (quoS n) n.toNat)) },0):=by
 unfold makeX
 rw [if_neg h,if_neg (by rw [h2];decide),if_neg h3]
theorem frX_len (l:List AtM) (q:Nat):∀ k,(frX l q k).1.length≤q
 | 0=>Nat.zero_le _
 | k + 1=>by
  have:=frX_len l q k
  unfold frX
  split
  ·split
   ·split <;> (simp only [List.length_append,List.length_cons,List.length_nil];omega)
   ·exact this
  ·exact this
theorem frX_rises (l:List AtM) (q:Nat):∀ k:Nat,risesI (k:Int) 0 (frX l q k).1=true
 | 0=>rfl
 | k + 1=>by
  have h:=frX_rises l q k
  have e:risesI ((k + 1:Nat):Int) 0 (frX l q k).1=true:=risesI_top h (by omega)
  have e2:risesI ((k + 1:Nat):Int) 0 ((frX l q k).1 ++ [((k + 1:Nat):Int)])=true:=risesI_more h (by omega) (by omega) (by omega) (by omega)
  unfold frX
  split
  ·split
   ·split <;> exact e2
   ·exact e
  ·exact e
theorem frX_told (l:List AtM) (q:Nat):∀ k:Nat,(∀ x ∈ (frX l q k).1,∃ a ∈ l,l.find? (fun t=>decide (t.bo=x))=some a∧a.pv≤(frX l q k).2.1)∧
  ((frX l q k).1≠[]→∃ x ∈ (frX l q k).1,∃ a ∈ l,l.find? (fun t=>decide (t.bo=x))=some a∧a.pv=(frX l q k).2.1∧a.pa=(frX l q k).2.2)
 | 0=>⟨fun x hx=>absurd hx (by simp [frX]),fun h=>absurd rfl h⟩
 | k + 1=>by
  obtain ⟨h1,h2⟩:=frX_told l q k
  unfold frX
  split
  ·split
   ·rename_i a ha
    have hm:=List.mem_of_find?_eq_some ha
    split
    ·rename_i hc
     refine ⟨fun x hx=>?_,fun _=>⟨_,List.mem_append_right _ (List.mem_singleton.2 rfl),a,hm,ha,rfl,rfl⟩⟩
     rcases List.mem_append.1 hx with hx | hx
     ·obtain ⟨t,ht,e,hp⟩:=h1 x hx
      refine ⟨t,ht,e,?_⟩
      simp only
      rcases hc with hc | hc
      ·rw [hc] at hx
       cases hx
      ·omega
     ·obtain rfl:=List.mem_singleton.1 hx
      exact ⟨a,hm,ha,Int.le_refl _⟩
    ·rename_i hc
     have hne:(frX l q k).1≠[]:=fun e=>hc (.inl e)
     refine ⟨fun x hx=>?_,fun _=>?_⟩
     ·rcases List.mem_append.1 hx with hx | hx
      ·exact h1 x hx
      ·obtain rfl:=List.mem_singleton.1 hx
       exact ⟨a,hm,ha,by simp only;omega⟩
     ·obtain ⟨x,hx,t,ht,e,hp⟩:=h2 hne
      exact ⟨x,List.mem_append_left _ hx,t,ht,e,hp⟩
   ·exact ⟨h1,h2⟩
  ·exact ⟨h1,h2⟩
theorem frX_full {k:Nat} (h:¬ (frX l q k).1.length < q):∀ m,k≤m→frX l q m=frX l q k:=by
 intro m hm
 induction m with
 | zero=>rw [show k=0 from by omega]
 | succ m ih=>
  by_cases e:k=m + 1
  ·rw [e]
  ·have:=ih (by omega)
   rw [← this] at h ⊢
   conv=>lhs;unfold frX
   rw [if_neg h]
theorem frX_found {k i:Nat} (h:(frX l q k).1.length < q) (hi:i < l.length) (hb:l[i].bo=((k + 1:Nat):Int)) (hn:∀ j (hj:j < l.length),j < i→l[j].bo≠((k + 1:Nat):Int)):
  frX l q (k + 1)=if (frX l q k).1=[]∨(frX l q k).2.1 < l[i].pv then ((frX l q k).1 ++ [((k + 1:Nat):Int)],l[i].pv,l[i].pa) else ((frX l q k).1 ++ [((k + 1:Nat):Int)],(frX l q k).2):=by
 have hf:l.find? (fun a=>decide (a.bo=((k + 1:Nat):Int)))=some l[i]:=by
  rw [List.find?_eq_some_iff_getElem]
  exact ⟨decide_eq_true hb,i,hi,rfl,fun j hj=>by simpa using hn j (by omega) hj⟩
 conv=>lhs;unfold frX
 rw [if_pos h,hf]
theorem frX_lack {k:Nat} (hn:∀ j (hj:j < l.length),l[j].bo≠((k + 1:Nat):Int)):frX l q (k + 1)=frX l q k:=by
 have hf:l.find? (fun a=>decide (a.bo=((k + 1:Nat):Int)))=none:=by
  rw [List.find?_eq_none]
  intro a ha
  obtain ⟨j,hj,rfl⟩:=List.getElem_of_mem ha
  simpa using hn j hj
 conv=>lhs;unfold frX
 rw [hf]
 simp
theorem goodX_iff {a:AtM}:goodX n vi a=true ↔ rightA a=true∧a.ki=1∧a.vi=vi∧a.bo≤n:=by
 unfold goodX
 simp only [Bool.and_eq_true,decide_eq_true_eq]
theorem goodX_pv {a:AtM} (h:goodX n vi a=true):0≤a.pv∧a.pv < vi:=by
 obtain ⟨h1,h2,h3,_⟩:=goodX_iff.1 h
 have hm:mayA a=true:=by
  unfold rightA at h1
  rw [Bool.and_eq_true] at h1
  exact h1.1
 have:=mayA_iff hm
 unfold mayA at hm
 split at hm
 ·cases hm
 ·simp only [Bool.or_eq_true,Bool.and_eq_true,decide_eq_true_eq] at hm
  omega
theorem frX_pa (h:∀ a ∈ l,a.Ok):∀ k,(frX l q k).2.2.length=32
 | 0=>rfl
 | k + 1=>by
  have ih:=frX_pa h k
  unfold frX
  split
  ·split
   ·rename_i a ha
    split
    ·exact (h a (List.mem_of_find?_eq_some ha)).pa
    ·exact ih
   ·exact ih
  ·exact ih
theorem frX_may (h:¬ (quoS n=0∨b < 1∨n < b∨vi < 1∨1099511627776 < vi)) (h2:(l.all (goodX n vi))=true) (h3:¬ (frX l (quoS n) n.toNat).1.length < quoS n):mayX (bodyX b vi (frX l (quoS n) n.toNat))=true:=by
 simp only [not_or,Int.not_lt] at h
 obtain ⟨h0,k1,k2,k3,k4⟩:=h
 have hn:=quoS_top h0
 have hr:=frX_rises l (quoS n) n.toNat
 have hle:=frX_len l (quoS n) n.toNat
 obtain ⟨_,ht⟩:=frX_told l (quoS n) n.toNat
 have hne:(frX l (quoS n) n.toNat).1≠[]:=fun e=>by
  rw [e] at h3
  simp at h3
  omega
 obtain ⟨x,_,a,ha,_,hp,_⟩:=ht hne
 have hg:=goodX_pv (List.all_eq_true.1 h2 a ha)
 have hl:0 < (frX l (quoS n) n.toNat).1.length:=List.length_pos_iff.2 hne
 refine mayX_iff.2 ⟨risesI_top hr (by omega),?_⟩
 unfold bodyX
 simp only
 omega
end
end Go.Proofs.YtpdnnmabijmfbaaGreatDoor
namespace Go.Proofs.YtpdnnmabijmfbaaGreatDoor
set_option maxRecDepth 20000
open Go.RowKit
def axl (a:AcM) (s:Value):List Value:=[.int .i64 a.bo,.int .i64 a.vi,.int .i64 a.pv] ++ (bcells a.pa ++ (s :: bcells a.tg))
def axc (a:AcM) (s:Value):Array Value:=(axl a s).toArray
theorem axl_length {a:AcM} (s:Value) (h:a.Ok):(axl a s).length=68:=by simp [axl,bcells_length,h.pa,h.tg]
theorem axc_size {a:AcM} (s:Value) (h:a.Ok):(axc a s).size=68:=by simp [axc,axl_length s h]
theorem axl_pre (a:AcM) (s:Value):axl a s=[.int .i64 a.bo,.int .i64 a.vi,.int .i64 a.pv] ++ (bcells a.pa ++ ([s] ++ bcells a.tg)):=rfl
theorem axl_tag (a:AcM) (s:Value):axl a s=([.int .i64 a.bo,.int .i64 a.vi,.int .i64 a.pv] ++ (bcells a.pa ++ [s])) ++ (bcells a.tg ++ []):=by
 unfold axl
 simp only [List.append_assoc,List.append_nil,List.cons_append,List.nil_append]
def AcV (w:World) (v:Value) (a:AcM):Prop:=∃ s,v=.agg (axc a s)∧a.Ok∧Els icl 1 w s a.fr
theorem AcV.below {w w':World} {v:Value} {a:AcM} (h:AcV w v a) (hb:Below w.heap.size w w'):AcV w' v a:=by
 obtain ⟨s,rfl,h1,h2⟩:=h
 exact ⟨s,rfl,h1,h2.below hb⟩
def BoxX (w:World) (g:Nat) (a:AcM) (s:Value):Prop:=w.heap[g]?=some (.cells (axc a s) 52 (0,0))
section
variable {w w':World} {g:Nat} {a:AcM} {s:Value}
theorem BoxX.new (w:World) (a:AcM) (s:Value):BoxX (w.alloc (.cells (axc a s) 52)) w.heap.size a s:=heap_alloc_new w _
theorem BoxX.lt (h:BoxX w g a s):g < w.heap.size:=lt_of_block h
theorem BoxX.below {B:Nat} (h:BoxX w g a s) (hb:Below B w w') (hg:g < B):BoxX w' g a s:=(hb.block g hg).trans h
theorem BoxX.free (h:BoxX w g a s) (i:Nat):w.frozen? ⟨g,i,none⟩=false:=free_blk h i
theorem BoxX.cell (h:BoxX w g a s) (i:Nat):w.cell? ⟨g,i,none⟩=(axl a s)[i]?:=by
 rw [cell_blk h i]
 unfold axc
 rw [List.getElem?_toArray]
theorem BoxX.ints (h:BoxX w g a s):w.cell? ⟨g,0,none⟩=some (.int .i64 a.bo)∧w.cell? ⟨g,1,none⟩=some (.int .i64 a.vi)∧w.cell? ⟨g,2,none⟩=some (.int .i64 a.pv):=
 ⟨h.cell 0,h.cell 1,h.cell 2⟩
theorem BoxX.fr (h:BoxX w g a s) (ho:a.Ok):w.cell? ⟨g,35,none⟩=some s:=by
 rw [h.cell,axl_pre,List.getElem?_append_right (by simp),List.getElem?_append_right (by rw [bcells_length,ho.pa];simp)]
 rw [bcells_length,ho.pa]
 rfl
theorem BoxX.pa (h:BoxX w g a s):w.rangeAt g 3 (bcells a.pa):=fun j u hu=>by
 rw [h.cell,axl_pre,List.getElem?_append_right (by simp)]
 simp only [List.length_cons,List.length_nil]
 rw [show 3 + j - (0 + 1 + 1 + 1)=j from by omega,List.getElem?_append_left (List.getElem?_eq_some_iff.1 hu).1]
 exact hu
theorem BoxX.tg (h:BoxX w g a s) (ho:a.Ok):w.rangeAt g 36 (bcells a.tg):=fun j u hu=>by
 rw [h.cell,axl_tag,List.append_nil,List.getElem?_append_right (by simp only [List.length_append,bcells_length,ho.pa,List.length_cons,List.length_nil];omega)]
 simp only [List.length_append,bcells_length,ho.pa,List.length_cons,List.length_nil]
 rw [show 36 + j - (0 + 1 + 1 + 1 + (32 + (0 + 1)))=j from by omega]
 exact hu
end
theorem axc_pv (a:AcM) (s:Value) (n:Int):(axc a s).setIfInBounds 2 (.int .i64 n)=axc { a with pv:=n } s:=by
 unfold axc axl
 rw [List.setIfInBounds_toArray]
 rfl
theorem axc_fr (a:AcM) (s v:Value) (ho:a.Ok):(axc a s).setIfInBounds 35 v=axc a v:=by
 unfold axc
 rw [List.setIfInBounds_toArray]
 congr 1
 unfold axl
 rw [List.set_append_right _ _ (by simp),List.set_append_right _ _ (by rw [bcells_length,ho.pa];simp)]
 rw [bcells_length,ho.pa]
 rfl
section
variable {ops:Array Oper} {rest:List Oper} {o:Oper} {ac:Act} {w:World} {Q:Exit→Act→World→Prop}
theorem wpList_store_xpa (hgd:o.guard=none) (x y:Operand) (ho:o.op=.store 38 x y)
  {g:Nat} {a:AcM} {s:Value} {h:List UInt8} (hx:ac.eval x=.pointer (some ⟨g,3,none⟩)) (hy:ac.eval y=.agg (hcells h)) (hg:BoxX w g a s) (hok:a.Ok) (hl:h.length=32)
  (hh:∀ w',w.grownBy w' (some g)→BoxX w' g { a with pa:=h } s→w'.heap.size=w.heap.size→wpList Tryz.prog ops Q rest (ac.put o.dst undef) w'):wpList Tryz.prog ops Q (o :: rest) ac w:=by
 unfold BoxX axc at hg
 rw [axl_pre] at hg
 refine wpList_store_midh hgd x y ho hx hy hg rfl (by rw [bcells_length,hok.pa]) hl (fun w' h1 h2 h3=>hh w' h1 ?_ h3)
 unfold BoxX axc
 rw [axl_pre]
 exact h2
theorem wpList_store_xtg (hgd:o.guard=none) (x y:Operand) (ho:o.op=.store 38 x y)
  {g:Nat} {a:AcM} {s:Value} {h:List UInt8} (hx:ac.eval x=.pointer (some ⟨g,36,none⟩)) (hy:ac.eval y=.agg (hcells h)) (hg:BoxX w g a s) (hok:a.Ok) (hl:h.length=32)
  (hh:∀ w',w.grownBy w' (some g)→BoxX w' g { a with tg:=h } s→w'.heap.size=w.heap.size→wpList Tryz.prog ops Q rest (ac.put o.dst undef) w'):wpList Tryz.prog ops Q (o :: rest) ac w:=by
 unfold BoxX axc at hg
 rw [axl_tag] at hg
 refine wpList_store_midh hgd x y ho hx hy hg (by simp only [List.length_append,bcells_length,hok.pa,List.length_cons,List.length_nil]) (by rw [bcells_length,hok.tg]) hl (fun w' h1 h2 h3=>hh w' h1 ?_ h3)
 unfold BoxX axc
 rw [axl_tag]
 exact h2
end
noncomputable def loadAx (v : Value) (w : World) : Result Next := Sem.run Tryz.prog (execOp (fun _ => v) { dst := none, op := .load 52 (.tmp 0), type := 0, pos := "", after := #[], guard := none }) w
theorem exec_load_ax (r:Operand→Value) (x:Operand) (dst:Option Tmp) (ty:TypeId) (pos:String) (after:Array Edge) (guard:Option (Nat × Bool)) (w:World):
  Sem.run Tryz.prog (execOp r { dst:=dst,op:=.load 52 x,type:=ty,pos:=pos,after:=after,guard:=guard }) w=loadAx (r x) w:=rfl
theorem under_ax:Tryz.prog.underlying 52=some (.struct (Tryz.prog.fieldsOf 52)):=by kernel_rfl
theorem size_ax:(Tryz.prog.info? 52).map (·.size)=some 68:=by kernel_rfl
theorem loadAx_row {w:World} {g:Nat} {C:Array Value} {T:TypeId} (h:w.heap[g]?=some (.cells C T (0,0))) (hs:C.size=68):loadAx (.pointer (some ⟨g,0,none⟩)) w=.ok (.value (.agg C)) w:=by
 have:=run_loadAt_mid (P:=Tryz.prog) w g 0 52 C.toList _ (fun j v hj=>by rw [Nat.zero_add,cell_blk h j];simpa using hj) under_ax rfl (by rw [size_ax];simp [hs])
 simp only [Array.toArray_toList] at this
 unfold loadAx execOp
 simp only [Sem.run_bind,this,Result.andThen_ok,Sem.run_pure]
theorem axc_one {w:World} {a:AcM} {s:Value} (h:Els icl 1 w s a.fr):(axc a s).all (·.oneCell')=true:=by
 obtain ⟨A,k,rfl,_⟩:=h
 unfold axc
 refine all_oneCell_toArray ?_
 intro u hu
 unfold axl at hu
 rcases List.mem_append.1 hu with hu | hu
 ·simp only [List.mem_cons,List.not_mem_nil,or_false] at hu
  obtain rfl | rfl | rfl:=hu <;> rfl
 ·rcases List.mem_append.1 hu with hu | hu
  ·exact bcells_one _ u hu
  ·rcases List.mem_cons.1 hu with rfl | hu
   ·rfl
   ·exact bcells_one _ u hu
theorem zero_ax:(Tryz.prog.info? 52).bind (·.zero)=some (.agg (axc acZ (.slice none 0 0))):=by kernel_rfl
theorem run_zero_ax (w:World):(zeroValue 52).run Tryz.prog w=.ok (.agg (axc acZ (.slice none 0 0))) w:=by
 have h:=zero_ax
 cases hq:Tryz.prog.info? 52 with
 | none=>rw [hq] at h;cases h
 | some i=>
  rw [hq] at h
  have hz:i.zero=some (.agg (axc acZ (.slice none 0 0))):=h
  simp [zeroValue,typeInfo,hq,hz]
noncomputable def buildAx (w : World) : Result Next := Sem.run Tryz.prog (execOp (fun _ => undef) { dst := none, op := .build 52 #[], type := 0, pos := "", after := #[], guard := none }) w
theorem exec_build_ax (r:Operand→Value) (dst:Option Tmp) (ty:TypeId) (pos:String) (after:Array Edge) (guard:Option (Nat × Bool)) (w:World):
  Sem.run Tryz.prog (execOp r { dst:=dst,op:=.build 52 #[],type:=ty,pos:=pos,after:=after,guard:=guard }) w=buildAx w:=by
 unfold buildAx execOp
 simp
theorem buildAx_eq (w:World):buildAx w=.ok (.value (.agg (axc acZ (.slice none 0 0)))) w:=by
 unfold buildAx
 go_simp
 rfl
noncomputable def allocAx (w : World) : Result Next := Sem.run Tryz.prog (execOp (fun _ => undef) { dst := none, op := .alloc 52, type := 0, pos := "", after := #[], guard := none }) w
theorem exec_alloc_ax (r:Operand→Value) (dst:Option Tmp) (ty:TypeId) (pos:String) (after:Array Edge) (guard:Option (Nat × Bool)) (w:World):
  Sem.run Tryz.prog (execOp r { dst:=dst,op:=.alloc 52,type:=ty,pos:=pos,after:=after,guard:=guard }) w=allocAx w:=rfl
theorem allocAx_eq (w:World):allocAx w=.ok (.value (.pointer (some ⟨w.heap.size,0,none⟩))) (w.alloc (.cells (axc acZ (.slice none 0 0)) 52)):=by
 unfold allocAx execOp
 simp only [Sem.run_bind,Instr.alloc,run_zero_ax,newVar,newRow,run_newObj_alloc,Sem.run_pure,Result.andThen_ok,Value.cells]
noncomputable def storeAx (p v:Value) (w:World):Result Next:=Sem.run Tryz.prog (execOp (fun x=>match x with
 | .tmp 0=>p
 | _ => v) { dst := none, op := .store 52 (.tmp 0) (.tmp 1), type := 0, pos := "", after := #[], guard := none }) w
theorem exec_store_ax (r:Operand→Value) (x y:Operand) (dst:Option Tmp) (ty:TypeId) (pos:String) (after:Array Edge) (guard:Option (Nat × Bool)) (w:World):
  Sem.run Tryz.prog (execOp r { dst:=dst,op:=.store 52 x y,type:=ty,pos:=pos,after:=after,guard:=guard }) w=storeAx (r x) (r y) w:=rfl
def setAx (w:World) (g:Nat) (C:Array Value):World:=w.setRow g C
theorem storeAx_eq {w:World} {g:Nat} {t:TypeId} {C0 C:Array Value} (hg:w.heap[g]?=some (.cells C0 t (0,0))) (h0:C0.size=68) (hC:C.size=68) (h1:C.all (·.oneCell')=true):
  storeAx (.pointer (some ⟨g,0,none⟩)) (.agg C) w=.ok .skip (setAx w g C):=by
 have:=run_storeVar_row (P:=Tryz.prog) w g t 52 C0 C hg (by rw [size_ax,hC]) (by rw [h0,hC]) h1
 unfold storeAx execOp
 simp only [Instr.storeAt,Instr.sureAddr,Sem.run_bind,Sem.run_pure,Result.andThen_ok,this]
 rfl
theorem setAx_other (w:World) {g k:Nat} (C:Array Value) (hk:k≠g):(setAx w g C).heap[k]?=w.heap[k]?:=setRow_other w g k _ hk
theorem setAx_same {w:World} {g:Nat} {t:TypeId} {C0 C:Array Value} (hg:w.heap[g]?=some (.cells C0 t (0,0))):(setAx w g C).heap[g]?=some (.cells C t (0,0)):=setRow_heap w g _ _ t _ hg
theorem setAx_size (w:World) (g:Nat) (C:Array Value):(setAx w g C).heap.size=w.heap.size:=by simp [setAx]
theorem setAx_below {B g:Nat} {a w:World} {C:Array Value} (hb:Below B a w) (hg:B≤g):Below B a (setAx w g C):=below_setRow hb hg _
theorem setAx_self {w:World} {g:Nat} {t:TypeId} {C:Array Value} {fr:Nat × Nat} (hg:w.heap[g]?=some (.cells C t fr)):setAx w g C=w:=by
 have e:∀ f:Obj→Obj,f (.cells C t fr)=.cells C t fr→w.heap.modify g f=w.heap:=by
  intro f hf
  apply Array.ext_getElem?
  intro k
  rw [Array.getElem?_modify]
  by_cases h:g=k
  ·subst h
   rw [if_pos rfl,hg]
   simp [hf]
  ·rw [if_neg h]
 unfold setAx World.setRow
 rw [e _ rfl]
theorem setAx_alloc (w:World) (T:TypeId) (C0 C:Array Value):setAx (w.alloc (.cells C0 T)) w.heap.size C=w.alloc (.cells C T):=by
 have hm:∀ (a:Array Obj) (x:Obj) (f:Obj→Obj),(a.push x).modify a.size f=a.push (f x):=by
  intro a x f
  apply Array.ext_getElem?
  intro k
  rw [Array.getElem?_modify]
  by_cases h:a.size=k
  ·subst h
   simp
  ·rw [if_neg h,Array.getElem?_push,Array.getElem?_push]
   rw [if_neg (fun e=>h e.symm),if_neg (fun e=>h e.symm)]
 unfold setAx World.setRow World.alloc
 simp only [hm]
theorem ax_var (w:World) {Z S:Array Value} (hZ:Z.size=68) (hS:S.size=68) (h1:S.all (·.oneCell')=true):
  storeAx (.pointer (some ⟨w.heap.size,0,none⟩)) (.agg S) (w.alloc (.cells Z 52))=.ok .skip (w.alloc (.cells S 52)):=by
 rw [storeAx_eq (heap_alloc_new w _) hZ hS h1,setAx_alloc]
end Go.Proofs.YtpdnnmabijmfbaaGreatDoor
namespace Go.Proofs.YtpdnnmabijmfbaaGreatDoor
set_option maxRecDepth 20000
structure TldM where
 s:SeM
 a:AtM
 e:Int
def noQ (e:Int):TldM:=⟨seZ,atZ,e⟩
def stepQ (s nx:SeM) (a:AtM):TldM:=if lessS s nx=true then ⟨nx,{ a with ki:=nx.ph,vi:=nx.vi,ph:=nx.ph },0⟩ else noQ 11
def newQ (s:SeM) (v:Int):TldM:=if mayS s=true∧1≤v∧v≤1099511627776 then stepQ s ⟨v,1,s.pv,s.pa⟩ ⟨0,0,0,0,z32,s.pv,s.pa,z32⟩ else noQ 1
noncomputable def hashL (b:BkM):List UInt8:=hl 32 (hashK b)
theorem hashL_len (b:BkM):(hashL b).length=32:=hl_length _ _
noncomputable def prepQ (s:SeM) (n:Int) (b:BkM) (a:AcM):TldM:=
 if mayS s=true∧mayK b=true∧b.vi≠0 then
  (if rightX n a=true∧a.vi=b.vi∧a.pa=b.par then stepQ s ⟨b.vi,2,s.pv,s.pa⟩ ⟨0,0,0,0,hashL b,a.pv,a.pa,z32⟩ else noQ 7)
 else noQ 1
noncomputable def storeQ (s:SeM) (n:Int) (c:CtM):TldM:=
 if mayS s=true then
  (if rightC n c=true∧c.att.ki=2 then stepQ s ⟨c.att.vi,3,c.att.vi,c.att.ha⟩ ⟨0,0,0,0,c.att.ha,c.att.vi,c.att.ha,z32⟩ else noQ 7)
 else noQ 1
structure TldM.Ok (t:TldM):Prop where
 s:t.s.Ok
 a:t.a.Ok
theorem noQ_ok (e:Int):(noQ e).Ok:=⟨seZ_ok,atZ_ok⟩
theorem stepQ_ok {s nx:SeM} {a:AtM} (hn:nx.Ok) (ha:a.Ok):(stepQ s nx a).Ok:=by
 unfold stepQ
 split
 ·exact ⟨hn,⟨ha.ha,ha.pa,ha.tg⟩⟩
 ·exact noQ_ok _
theorem newQ_ok {s:SeM} (hs:s.Ok) (v:Int):(newQ s v).Ok:=by
 unfold newQ
 split
 ·exact stepQ_ok hs ⟨rfl,hs,rfl⟩
 ·exact noQ_ok _
theorem prepQ_ok {s:SeM} {n:Int} {b:BkM} {a:AcM} (hs:s.Ok) (ha:a.Ok):(prepQ s n b a).Ok:=by
 unfold prepQ
 split
 ·split
  ·exact stepQ_ok hs ⟨hashL_len b,ha.pa,rfl⟩
  ·exact noQ_ok _
 ·exact noQ_ok _
theorem storeQ_ok {s:SeM} {n:Int} {c:CtM} (hc:c.Ok):(storeQ s n c).Ok:=by
 unfold storeQ
 split
 ·split
  ·exact stepQ_ok hc.att.ha ⟨hc.att.ha,hc.att.ha,rfl⟩
  ·exact noQ_ok _
 ·exact noQ_ok _
structure Told (s:SeM) (t:TldM):Prop where
 ok:t.Ok
 no:t.e≠0→t.s=seZ∧t.a=atZ
 may:t.e=0→mayS t.s=true∧lessS s t.s=true∧mayA { t.a with bo:=1 }=true
 eq:t.e=0→t.a.vi=t.s.vi∧t.a.ph=t.s.ph
 up:t.e=0→s.pv < t.s.pv∨(t.s.pv=s.pv∧t.s.pa=s.pa)
theorem told_no {s:SeM} (e:Int) (he:e≠0):Told s (noQ e):=⟨noQ_ok e,fun _=>⟨rfl,rfl⟩,fun h=>absurd h he,fun h=>absurd h he,fun h=>absurd h he⟩
theorem told_step {s nx:SeM} {a:AtM} (hn:nx.Ok) (ha:a.Ok) (h:lessS s nx=true→mayS nx=true∧mayA { a with bo:=1,ki:=nx.ph,vi:=nx.vi,ph:=nx.ph }=true∧(s.pv < nx.pv∨(nx.pv=s.pv∧nx.pa=s.pa))):Told s (stepQ s nx a):=by
 by_cases hl:lessS s nx=true
 ·obtain ⟨h1,h2,h3⟩:=h hl
  have e:stepQ s nx a=⟨nx,{ a with ki:=nx.ph,vi:=nx.vi,ph:=nx.ph },0⟩:=by unfold stepQ;rw [if_pos hl]
  have hok:=stepQ_ok (s:=s) hn ha
  rw [e] at hok ⊢
  exact ⟨hok,fun h=>absurd rfl h,fun _=>⟨h1,hl,h2⟩,fun _=>⟨rfl,rfl⟩,fun _=>h3⟩
 ·have e:stepQ s nx a=noQ 11:=by unfold stepQ;rw [if_neg hl]
  rw [e]
  exact told_no 11 (by decide)
theorem less_cases {s t:SeM} (h:lessS s t=true):s.vi < t.vi∨(s.vi=t.vi∧s.ph < t.ph):=by
 unfold lessS at h
 simpa using h
theorem mayS_open {s:SeM} (h:mayS s=true):(s.vi=0∧s.ph=0∧s.pv=0)∨(1≤s.vi∧s.vi≤1099511627776∧1≤s.ph∧s.ph≤3∧0≤s.pv∧(s.pv < s.vi∨(s.pv=s.vi∧s.ph=3))):=by
 unfold mayS at h
 split at h
 ·rw [decide_eq_true_eq] at h
  subst h
  exact .inl ⟨rfl,rfl,rfl⟩
 ·rename_i h0
  split at h
  ·cases h
  ·rename_i h1
   simp only [Bool.or_eq_true,Bool.and_eq_true,decide_eq_true_eq] at h
   refine .inr ⟨by omega,by omega,by omega,by omega,by omega,h⟩
theorem mayS_of {s:SeM} (h:1≤s.vi∧s.vi≤1099511627776∧1≤s.ph∧s.ph≤3∧0≤s.pv∧(s.pv < s.vi∨(s.pv=s.vi∧s.ph=3))):mayS s=true:=by
 obtain ⟨h1,h2,h3,h4,h5,h6⟩:=h
 unfold mayS
 rw [if_neg (by omega),if_neg (by omega)]
 simpa using h6
theorem mayA_of {a:AtM} (h:1≤a.bo∧a.bo≤21∧1≤a.ki∧a.ki≤3∧a.ph=a.ki∧1≤a.vi∧a.vi≤1099511627776∧0≤a.pv∧(a.pv < a.vi∨(a.ki=3∧a.pv=a.vi))):mayA a=true:=by
 obtain ⟨h1,h2,h3,h4,h5,h6,h7,h8,h9⟩:=h
 unfold mayA
 rw [if_neg (by omega)]
 simpa using h9
theorem newQ_told {s:SeM} (hs:s.Ok) (v:Int):Told s (newQ s v):=by
 unfold newQ
 split
 ·rename_i h
  obtain ⟨hm,h1,h2⟩:=h
  refine told_step hs ⟨rfl,hs,rfl⟩ (fun hl=>?_)
  have hl:=less_cases hl
  have hm:=mayS_open hm
  simp only at hl
  refine ⟨mayS_of ?_,mayA_of ?_,.inr ⟨rfl,rfl⟩⟩
  ·dsimp only
   omega
  ·dsimp only
   omega
 ·exact told_no 1 (by decide)
theorem prepQ_told {s:SeM} (hs:s.Ok) {n:Int} {b:BkM} {a:AcM} (ha:a.Ok):Told s (prepQ s n b a):=by
 unfold prepQ
 split
 ·rename_i h
  obtain ⟨hm,hk,h0⟩:=h
  split
  ·rename_i h
   obtain ⟨hr,hv,hp⟩:=h
   have hx:mayX a=true:=by
    unfold rightX at hr
    simp only [Bool.and_eq_true] at hr
    exact hr.2.1
   obtain ⟨_,x1,x2,x3,x4,x5,x6,x7⟩:=mayX_iff.1 hx
   refine told_step hs ⟨hashL_len b,ha.pa,rfl⟩ (fun hl=>?_)
   have hl:=less_cases hl
   have hm:=mayS_open hm
   simp only at hl
   refine ⟨mayS_of ?_,mayA_of ?_,.inr ⟨rfl,rfl⟩⟩
   ·dsimp only
    omega
   ·dsimp only
    omega
  ·exact told_no 7 (by decide)
 ·exact told_no 1 (by decide)
theorem rightC_view {n:Int} {c:CtM} (h:rightC n c=true):1≤c.att.vi∧c.att.vi≤1099511627776:=by
 unfold rightC at h
 simp only [Bool.and_eq_true,decide_eq_true_eq] at h
 obtain ⟨h1,h2,_,_,h5⟩:=h
 cases hg:c.sg with
 | nil=>rw [hg] at h2;simp at h2;omega
 | cons g r=>
  rw [hg,List.all_cons,Bool.and_eq_true] at h5
  have h6:=h5.1
  unfold rightA at h6
  simp only [Bool.and_eq_true] at h6
  have:=mayA_iff h6.1
  exact ⟨this.2.2.2.2.2.1,this.2.2.2.2.2.2.1⟩
theorem storeQ_told {s:SeM} {n:Int} {c:CtM} (hc:c.Ok):Told s (storeQ s n c):=by
 unfold storeQ
 split
 ·rename_i hm
  split
  ·rename_i h
   obtain ⟨hr,hk⟩:=h
   obtain ⟨h1,h2⟩:=rightC_view hr
   refine told_step hc.att.ha ⟨hc.att.ha,hc.att.ha,rfl⟩ (fun hl=>?_)
   have hl:=less_cases hl
   have hm:=mayS_open hm
   simp only at hl
   refine ⟨mayS_of ?_,mayA_of ?_,.inl ?_⟩
   ·dsimp only
    omega
   ·dsimp only
    omega
   ·dsimp only
    omega
  ·exact told_no 7 (by decide)
 ·exact told_no 1 (by decide)
def oldS (s:SeM) (v p:Int):Bool:=decide (v < s.vi) || (decide (s.vi=v) && decide (p≤s.ph))
theorem oldS_less (s nx:SeM):lessS s nx=!oldS s nx.vi nx.ph:=by
 unfold lessS oldS
 by_cases h1:s.vi < nx.vi
 ·rw [decide_eq_true h1,decide_eq_false (by omega:¬ nx.vi < s.vi),decide_eq_false (by omega:¬ s.vi=nx.vi)]
  rfl
 ·by_cases h2:s.vi=nx.vi
  ·rw [decide_eq_false h1,decide_eq_true h2,decide_eq_false (by omega:¬ nx.vi < s.vi)]
   by_cases h3:s.ph < nx.ph
   ·rw [decide_eq_true h3,decide_eq_false (by omega:¬ nx.ph≤s.ph)]
    rfl
   ·rw [decide_eq_false h3,decide_eq_true (by omega:nx.ph≤s.ph)]
    rfl
  ·rw [decide_eq_false h1,decide_eq_false h2,decide_eq_true (by omega:nx.vi < s.vi)]
   rfl
theorem stepQ_old {s nx:SeM} {a:AtM} (h:oldS s nx.vi nx.ph=true):stepQ s nx a=noQ 11:=by
 unfold stepQ
 rw [oldS_less,h]
 rfl
theorem stepQ_go {s nx:SeM} {a:AtM} (h:oldS s nx.vi nx.ph=false):stepQ s nx a=⟨nx,{ a with ki:=nx.ph,vi:=nx.vi,ph:=nx.ph },0⟩:=by
 unfold stepQ
 rw [oldS_less,h]
 rfl
theorem first_view {b:BkM} (h:mayK b=true):sameK b bkZ=decide (b.vi=0):=by
 by_cases h0:b=bkZ
 ·subst h0
  rw [sameK_self]
  rfl
 ·have hs:=sameK_no h0
  rw [hs]
  unfold mayK at h
  rw [hs,Bool.false_or,Bool.and_eq_true] at h
  have hn:=h.2
  unfold numsK at hn
  symm
  rw [decide_eq_false_iff_not]
  intro hv
  simp [hv] at hn
end Go.Proofs.YtpdnnmabijmfbaaGreatDoor
