/-
  The document's disk: Crash. Printed with genrd.py.
-/
import Derived.Test.YtfpgglclpkcdhaaDkRvB
namespace Go.Proofs.Ytfpgglclpkcdhaa
set_option maxRecDepth 20000
open Go.RowKit
attribute [local go_sem ↓] exec_load_rd exec_alloc_rd exec_store_rd exec_cutH
def RcPost18 (a:Option Nat) (D':DkM) (w:World) (e:Ending) (w':World):Prop:=∃ C',e=.returned (.agg C')∧RfC w' C' D' a∧Below w.heap.size w w'
set_option maxHeartbeats 6400000 in
theorem refCrash18_any (D:DkM) (C:Array Value) (a:Option Nat) (n:Int) (w:World) (hC:RfC w C D a) (g:D.Good) (ha:∀ k,a=some k→k < w.heap.size):
  Calls Try.prog 43 #[.agg C,.int .i64 n] w (RcPost18 a (crashD D n) w):=by
 obtain ⟨v0,v1,v2,rfl,hy0,hy1,hy2⟩:=hC
 have HG:=hid g
 have HAA:=hid ha
 have HY:Hid (∀ W,Below w.heap.size w W→Byo W a v0 D.s∧Byo W a v1 D.m∧Byo W a v2 D.h):=hid (fun W hb=>⟨hy0.below hb,hy1.below hb,hy2.below hb⟩)
 obtain ⟨A0,N0,c0,rfl,hN0⟩:∃ A N c,v0=.slice A N c∧N=D.s.length:=by
  obtain ⟨A,c,e⟩:=hy0.y.shape
  exact ⟨_,_,_,e,rfl⟩
 obtain ⟨A1,N1,c1,rfl,hN1⟩:∃ A N c,v1=.slice A N c∧N=D.m.length:=by
  obtain ⟨A,c,e⟩:=hy1.y.shape
  exact ⟨_,_,_,e,rfl⟩
 obtain ⟨A2,N2,c2,rfl⟩:∃ A N c,v2=.slice A N c:=by
  obtain ⟨A,c,e⟩:=hy2.y.shape
  exact ⟨_,_,_,e⟩
 have HN:=hid (And.intro hN0 hN1)
 have HOO:Hid (∀ D',(rdc D' (.slice A0 N0 c0) (.slice A1 N1 c1) (.slice A2 N2 c2)).all (·.oneCell')=true):=hid (fun D'=>rdc_one ..)
 have HBX0:Hid (∀ (W:World) (g:Nat),W.heap[g]?=some (.cells (rdc D (.slice A0 N0 c0) (.slice A1 N1 c1) (.slice A2 N2 c2)) 35 (0,0))→W.cell? ⟨g,0,none⟩=some (.slice A0 N0 c0)∧W.cell? ⟨g,1,none⟩=some (.slice A1 N1 c1)∧W.cell? ⟨g,2,none⟩=some (.slice A2 N2 c2)∧W.cell? ⟨g,3,none⟩=some (.int .i64 D.room)∧W.cell? ⟨g,4,none⟩=some (.int .i64 D.left)∧W.cell? ⟨g,5,none⟩=some (.bool D.dead)):=hid (fun W g h=>BoxRd.cells h)
 have HRF0:Hid (∀ W,Below w.heap.size w W→RfC W (rdc D (.slice A0 N0 c0) (.slice A1 N1 c1) (.slice A2 N2 c2)) D a):=hid (fun W hb=>⟨_,_,_,rfl,HY.out W hb⟩)
 obtain ⟨C,HC⟩:∃ q:Array Value,Hid (rdc D (.slice A0 N0 c0) (.slice A1 N1 c1) (.slice A2 N2 c2)=q):=⟨_,hid rfl⟩
 rw [HC.out] at HBX0 HRF0 ⊢
 have HSZ:Hid (C.size=6):=hid (by rw [← HC.out];rfl)
 have hal:=allocRd_two w C
 have HS0:=hid (rd_begin w C)
 have HSM:Hid (D.s.length + D.m.length + D.h.length≤100000000):=hid (by have:=g.z;have:=g.r1;omega)
 obtain ⟨DD,HDD⟩:∃ q:DkM,Hid (crashD D n=q):=⟨_,hid rfl⟩
 rw [HDD.out]
 have hs1:([]:List UInt8).length + D.m.length≤140737488355328:=by have:=HSM.out;simp only [List.length_nil];omega
 have hs2:D.m.length + D.h.length≤140737488355328:=by have:=HSM.out;omega
 have hs3:([]:List UInt8).length + D.s.length≤140737488355328:=by have:=HSM.out;simp only [List.length_nil];omega
 clear hy0 hy1 hy2 g ha hN0 hN1
 go_enter Try.func43,Try.ntmps43
 go_upto_region 1 with (fail)
 clear hal
 generalize ((w.alloc (.cells C 35)).alloc (.cells rdZ 35))=wz at *
 obtain ⟨k0,k1,k2,k3,k4,k5⟩:=HBX0.out wz _ HS0.out.r0
 have HBW:Hid (∀ W,Below wz.heap.size wz W→Below w.heap.size w W):=hid (fun W hb=>HS0.out.b.trans (hb.mono HS0.out.b.size))
 have HDR:Hid (Below wz.heap.size wz wz.drew):=hid (Below.refl _ _).drew
 have HC12:Hid (∀ W,Below wz.heap.size wz W→W.cell? ⟨w.heap.size,1,none⟩=some (.slice A1 N1 c1)∧W.cell? ⟨w.heap.size,2,none⟩=some (.slice A2 N2 c2)):=hid (fun W hb=>by
  obtain ⟨_,h1,h2,_⟩:=HBX0.out W _ (HS0.out.below hb).r0
  exact ⟨h1,h2⟩)
 clear k0 k1 k2 k3 k4 k5
 refine wp_region_held_drew (S:=fun W=>W.cell? ⟨w.heap.size,1,none⟩=some (.slice A1 N1 c1)∧W.cell? ⟨w.heap.size,2,none⟩=some (.slice A2 N2 c2)) (by kernel_rfl) (HC12.out _ HDR.out) (fun hHeld=>?_)
 refine' tkq 1 rfl ?_;try simp only [lay]
 refine' tkq 4 rfl ?_;try simp only [lay]
 refine' tkq2 2 rfl ?_;try simp only [lay]
 refine' tkq2 5 rfl ?_;try simp only [lay]
 refine call_on (i:=0) rfl (by kernel_rfl) (by rfl) (fun K hK=>?_)
 go_simp
 have HAL:Hid (Below wz.heap.size wz (wz.drew.alloc (.cells #[] 5))):=hid (HDR.out.alloc HDR.out.size _)
 refine hK.out _ _ (HC12.out _ HAL.out) (fun hHeld=>?_)
 clear hK K
 try simp only [lay]
 refine call_on (i:=3) rfl (by kernel_rfl) (by rfl) (fun K hK=>?_)
 refine wp_append_byt (.tmp 6) (.tmp 8) rfl rfl rfl (fresh0_own wz.drew) (HY.out _ (HBW.out _ HAL.out)).2.1.y.byt hs1 (al_le wz.drew _) ?_
 intro x3 w3 ho3 hg3 _
 simp only [List.nil_append] at ho3
 have hb3:Below wz.drew.heap.size wz.drew w3:=fresh0_below hg3
 have HB3:=hid (HDR.out.trans (hb3.mono HDR.out.size))
 have HO3:=hid ho3
 clear ho3 hg3 hb3
 refine hK.out _ _ (HC12.out _ HB3.out) (fun hHeld=>?_)
 clear hK K
 try simp only [lay]
 refine call_on (i:=6) rfl (by kernel_rfl) (by rfl) (fun K hK=>?_)
 refine wp_append_byt (.tmp 9) (.tmp 11) rfl rfl rfl HO3.out (HY.out _ (HBW.out _ HB3.out)).2.2.y.byt hs2 HB3.out.size ?_
 intro x5 w5 ho5 hg5 _
 have HB5:=hid (HB3.out.grown hg5 HB3.out.size (fun k hk=>(World.ownsRow.lt HO3.out k hk).1))
 have HO5:=hid ho5
 clear ho5 hg5
 refine hK.out _ _ (HC12.out _ HB5.out) (fun hHeld=>?_)
 clear hK K
 try simp only [lay]
 obtain ⟨A5,N5,c5,rfl,hN5⟩:∃ A N c,x5=.slice A N c∧N=D.m.length + D.h.length:=by
  obtain ⟨A,c,e⟩:=HO5.out.byt.shape
  exact ⟨_,_,_,e,List.length_append⟩
 have HN5:=hid hN5
 clear hN5
 refine' tkq 7 rfl ?_;try simp only [lay]
 refine wpAnyH_done (by kernel_rfl) ?_ _
 clear hHeld
 have HS5:=hid (HS0.out.below HB5.out)
 have HB5W:Hid (∀ W,Below w5.heap.size w5 W→Below w.heap.size w W):=hid (fun W hb=>HBW.out _ (HB5.out.trans (hb.mono HB5.out.size)))
 have HDR5:Hid (Below w5.heap.size w5 w5.drew):=hid (Below.refl _ _).drew
 have HC03:Hid (∀ W,Below w5.heap.size w5 W→W.cell? ⟨w.heap.size,0,none⟩=some (.slice A0 N0 c0)∧W.cell? ⟨w.heap.size,3,none⟩=some (.int .i64 D.room)):=hid (fun W hb=>by
  obtain ⟨h0,_,_,h3,_⟩:=HBX0.out W _ (HS5.out.below hb).r0
  exact ⟨h0,h3⟩)
 have HO5B:=hid (HO5.out.more (show wz.heap.size≤wz.heap.size from Nat.le_refl _))
 clear hs1 hs2
 by_cases n0:n < 0
 ·go_upto_region 6 with (fail)
  obtain ⟨xc,hcut,_,hown⟩:=own_cut HO5.out 0 (by rw [List.length_append];omega)
  obtain ⟨Ac,Nc,cc,rfl⟩:∃ A N c,xc=.slice A N c:=by
   obtain ⟨A,c,e⟩:=(hown w5 HO5.out).byt.shape
   exact ⟨_,_,_,e⟩
  have HOC:=hid (hown w5 HO5.out)
  have HCU:Hid (∀ W,cutH (.slice A5 N5 c5) (.int .i64 0) W=.ok (.value (.slice Ac Nc cc)) W):=hid hcut
  have HTK:Hid (D.s ++ (D.m ++ D.h).take 0=D.s ++ (D.m ++ D.h).take n.toNat):=hid (by rw [show n.toNat=0 by omega])
  have hs4:D.s.length + ((D.m ++ D.h).take 0).length≤140737488355328:=by have:=HSM.out;rw [List.length_take,List.length_append];omega
  clear hcut hown
  refine wp_region_held_drew (S:=fun W=>W.cell? ⟨w.heap.size,0,none⟩=some (.slice A0 N0 c0)∧W.cell? ⟨w.heap.size,3,none⟩=some (.int .i64 D.room)) (by kernel_rfl) (HC03.out _ HDR5.out) (fun hHeld=>?_)
  refine' tkq 1 rfl ?_;try simp only [lay]
  refine' tkq2 2 rfl ?_;try simp only [lay]
  refine' tkq 4 rfl ?_;try simp only [lay]
  refine' tkq 5 rfl ?_;try simp only [lay]
  have hcu:=HCU.out
  refine' tkq 6 rfl ?_;try simp only [lay]
  clear hcu
  refine' tkq 8 rfl ?_;try simp only [lay]
  refine' tkq2 9 rfl ?_;try simp only [lay]
  refine call_on (i:=0) rfl (by kernel_rfl) (by rfl) (fun K hK=>?_)
  go_simp
  have HAL:Hid (Below w5.heap.size w5 (w5.drew.alloc (.cells #[] 5))):=hid (HDR5.out.alloc HDR5.out.size _)
  refine hK.out _ _ (HC03.out _ HAL.out) (fun hHeld=>?_)
  clear hK K
  try simp only [lay]
  refine call_on (i:=3) rfl (by kernel_rfl) (by rfl) (fun K hK=>?_)
  refine wp_append_byt (.tmp 21) (.tmp 23) rfl rfl rfl (fresh0_own w5.drew) (HY.out _ (HB5W.out _ HAL.out)).1.y.byt hs3 (al_le w5.drew _) ?_
  intro x3 w6 ho6 hg6 _
  simp only [List.nil_append] at ho6
  have hb6:Below w5.drew.heap.size w5.drew w6:=fresh0_below hg6
  have HB6:=hid (HDR5.out.trans (hb6.mono HDR5.out.size))
  have HO6:=hid ho6
  clear ho6 hg6 hb6
  refine hK.out _ _ (HC03.out _ HB6.out) (fun hHeld=>?_)
  clear hK K
  try simp only [lay]
  refine call_on (i:=7) rfl (by kernel_rfl) (by rfl) (fun K hK=>?_)
  refine wp_append_byt (.tmp 24) (.tmp 27) rfl rfl rfl HO6.out (HOC.out.byt.below HB6.out) hs4 HB6.out.size ?_
  intro x4 w7 ho7 hg7 _
  have HB7:=hid (HB6.out.grown hg7 HB6.out.size (fun k hk=>(World.ownsRow.lt HO6.out k hk).1))
  have HO7:=hid ho7
  clear ho7 hg7
  refine hK.out _ _ (HC03.out _ HB7.out) (fun hHeld=>?_)
  clear hK K
  try simp only [lay]
  obtain ⟨A7,N7,c7,rfl⟩:∃ A N c,x4=.slice A N c:=by
   obtain ⟨A,c,e⟩:=HO7.out.byt.shape
   exact ⟨_,_,_,e⟩
  refine' tkq 10 rfl ?_;try simp only [lay]
  have HS7:=hid (HS5.out.below HB7.out)
  have HRF:Hid (RfC w7 (rdc DD (.slice A7 N7 c7) (.slice none 0 0) (.slice none 0 0)) DD a):=hid (by
   refine ⟨_,_,_,rfl,?_,?_,?_⟩
   ·rw [← HDD.out]
    have h7:=HO7.out
    rw [HTK.out] at h7
    exact h7.byo (fun k e=>Nat.lt_of_lt_of_le (HAA.out k e) HS5.out.b.size)
   ·rw [← HDD.out];exact Byo.nil _ _
   ·rw [← HDD.out];exact Byo.nil _ _)
  obtain ⟨hst,hrw,hrf,hbl⟩:=HS7.out.fin HRF.out
  have HRW:=hid hrw
  have HRFE:=hid hrf
  have HBL:=hid hbl
  have HCE:=hid (HC03.out _ HB7.out)
  have HCF:Hid ((setSe w7 (w.heap.size + 1) (rdc DD (.slice A7 N7 c7) (.slice none 0 0) (.slice none 0 0))).cell? ⟨w.heap.size,0,none⟩=some (.slice A0 N0 c0)∧(setSe w7 (w.heap.size + 1) (rdc DD (.slice A7 N7 c7) (.slice none 0 0) (.slice none 0 0))).cell? ⟨w.heap.size,3,none⟩=some (.int .i64 D.room)):=hid (by
   have e:=setSe_other w7 (g:=w.heap.size + 1) (k:=w.heap.size) (rdc DD (.slice A7 N7 c7) (.slice none 0 0) (.slice none 0 0)) (by omega)
   exact ⟨(World.cell?_of_block e).trans HCE.out.1,(World.cell?_of_block e).trans HCE.out.2⟩)
  clear hrw hrf hbl
  rw [← HDD.out] at hst
  unfold rdc crashD at hst
  simp only at hst
  rw [← HDD.out] at HCF HRW HRFE HBL
  unfold rdc at HCF
  simp only [crashD] at HCF
  refine call_on (i:=11) rfl (by kernel_rfl) (by rfl) (fun K hK=>?_)
  go_simp
  refine hK.out _ _ (HCF.out) (fun hHeld=>?_)
  clear hK K
  try simp only [lay]
  refine wpAnyH_done (by kernel_rfl) ?_ _
  clear hHeld hst
  go_wp2_with fail
  try simp only [Exit.inBlock,Exit.then]
  refine bodyPost_ret (results_rd1 rfl _ _ _ _ _ rfl HRW.out HRFE.out.size) rfl ⟨_,rfl,by rw [← HDD.out];exact HRFE.out,HBL.out⟩
 obtain ⟨k,rfl⟩:∃ k:Nat,n=(k:Int):=⟨n.toNat,by omega⟩
 by_cases n1:(N5:Int) < (k:Int)
 ·have n2:¬ (k:Int) < 0:=n0
  go_upto_region 6 with (fail)
  obtain ⟨xc,hcut,_,hown⟩:=own_cut HO5.out N5 (by rw [List.length_append];have:=HN5.out;omega)
  obtain ⟨Ac,Nc,cc,rfl⟩:∃ A N c,xc=.slice A N c:=by
   obtain ⟨A,c,e⟩:=(hown w5 HO5.out).byt.shape
   exact ⟨_,_,_,e⟩
  have HOC:=hid (hown w5 HO5.out)
  have HCU:Hid (∀ W,cutH (.slice A5 N5 c5) (.int .i64 (N5:Int)) W=.ok (.value (.slice Ac Nc cc)) W):=hid hcut
  have HTK:Hid (D.s ++ (D.m ++ D.h).take N5=D.s ++ (D.m ++ D.h).take (k:Int).toNat):=hid (by rw [Int.toNat_natCast,List.take_of_length_le (by rw [List.length_append];have:=HN5.out;omega),List.take_of_length_le (by rw [List.length_append];have:=HN5.out;omega)])
  have hs4:D.s.length + ((D.m ++ D.h).take N5).length≤140737488355328:=by have:=HSM.out;rw [List.length_take,List.length_append];omega
  clear hcut hown
  refine wp_region_held_drew (S:=fun W=>W.cell? ⟨w.heap.size,0,none⟩=some (.slice A0 N0 c0)∧W.cell? ⟨w.heap.size,3,none⟩=some (.int .i64 D.room)) (by kernel_rfl) (HC03.out _ HDR5.out) (fun hHeld=>?_)
  refine' tkq 1 rfl ?_;try simp only [lay]
  refine' tkq2 2 rfl ?_;try simp only [lay]
  refine' tkq 4 rfl ?_;try simp only [lay]
  refine' tkq 5 rfl ?_;try simp only [lay]
  have hcu:=HCU.out
  refine' tkq 6 rfl ?_;try simp only [lay]
  clear hcu
  refine' tkq 8 rfl ?_;try simp only [lay]
  refine' tkq2 9 rfl ?_;try simp only [lay]
  refine call_on (i:=0) rfl (by kernel_rfl) (by rfl) (fun K hK=>?_)
  go_simp
  have HAL:Hid (Below w5.heap.size w5 (w5.drew.alloc (.cells #[] 5))):=hid (HDR5.out.alloc HDR5.out.size _)
  refine hK.out _ _ (HC03.out _ HAL.out) (fun hHeld=>?_)
  clear hK K
  try simp only [lay]
  refine call_on (i:=3) rfl (by kernel_rfl) (by rfl) (fun K hK=>?_)
  refine wp_append_byt (.tmp 21) (.tmp 23) rfl rfl rfl (fresh0_own w5.drew) (HY.out _ (HB5W.out _ HAL.out)).1.y.byt hs3 (al_le w5.drew _) ?_
  intro x3 w6 ho6 hg6 _
  simp only [List.nil_append] at ho6
  have hb6:Below w5.drew.heap.size w5.drew w6:=fresh0_below hg6
  have HB6:=hid (HDR5.out.trans (hb6.mono HDR5.out.size))
  have HO6:=hid ho6
  clear ho6 hg6 hb6
  refine hK.out _ _ (HC03.out _ HB6.out) (fun hHeld=>?_)
  clear hK K
  try simp only [lay]
  refine call_on (i:=7) rfl (by kernel_rfl) (by rfl) (fun K hK=>?_)
  refine wp_append_byt (.tmp 24) (.tmp 27) rfl rfl rfl HO6.out (HOC.out.byt.below HB6.out) hs4 HB6.out.size ?_
  intro x4 w7 ho7 hg7 _
  have HB7:=hid (HB6.out.grown hg7 HB6.out.size (fun k hk=>(World.ownsRow.lt HO6.out k hk).1))
  have HO7:=hid ho7
  clear ho7 hg7
  refine hK.out _ _ (HC03.out _ HB7.out) (fun hHeld=>?_)
  clear hK K
  try simp only [lay]
  obtain ⟨A7,N7,c7,rfl⟩:∃ A N c,x4=.slice A N c:=by
   obtain ⟨A,c,e⟩:=HO7.out.byt.shape
   exact ⟨_,_,_,e⟩
  refine' tkq 10 rfl ?_;try simp only [lay]
  have HS7:=hid (HS5.out.below HB7.out)
  have HRF:Hid (RfC w7 (rdc DD (.slice A7 N7 c7) (.slice none 0 0) (.slice none 0 0)) DD a):=hid (by
   refine ⟨_,_,_,rfl,?_,?_,?_⟩
   ·rw [← HDD.out]
    have h7:=HO7.out
    rw [HTK.out] at h7
    exact h7.byo (fun k e=>Nat.lt_of_lt_of_le (HAA.out k e) HS5.out.b.size)
   ·rw [← HDD.out];exact Byo.nil _ _
   ·rw [← HDD.out];exact Byo.nil _ _)
  obtain ⟨hst,hrw,hrf,hbl⟩:=HS7.out.fin HRF.out
  have HRW:=hid hrw
  have HRFE:=hid hrf
  have HBL:=hid hbl
  have HCE:=hid (HC03.out _ HB7.out)
  have HCF:Hid ((setSe w7 (w.heap.size + 1) (rdc DD (.slice A7 N7 c7) (.slice none 0 0) (.slice none 0 0))).cell? ⟨w.heap.size,0,none⟩=some (.slice A0 N0 c0)∧(setSe w7 (w.heap.size + 1) (rdc DD (.slice A7 N7 c7) (.slice none 0 0) (.slice none 0 0))).cell? ⟨w.heap.size,3,none⟩=some (.int .i64 D.room)):=hid (by
   have e:=setSe_other w7 (g:=w.heap.size + 1) (k:=w.heap.size) (rdc DD (.slice A7 N7 c7) (.slice none 0 0) (.slice none 0 0)) (by omega)
   exact ⟨(World.cell?_of_block e).trans HCE.out.1,(World.cell?_of_block e).trans HCE.out.2⟩)
  clear hrw hrf hbl
  rw [← HDD.out] at hst
  unfold rdc crashD at hst
  simp only at hst
  rw [← HDD.out] at HCF HRW HRFE HBL
  unfold rdc at HCF
  simp only [crashD] at HCF
  refine call_on (i:=11) rfl (by kernel_rfl) (by rfl) (fun K hK=>?_)
  go_simp
  refine hK.out _ _ (HCF.out) (fun hHeld=>?_)
  clear hK K
  try simp only [lay]
  refine wpAnyH_done (by kernel_rfl) ?_ _
  clear hHeld hst
  go_wp2_with fail
  try simp only [Exit.inBlock,Exit.then]
  refine bodyPost_ret (results_rd1 rfl _ _ _ _ _ rfl HRW.out HRFE.out.size) rfl ⟨_,rfl,by rw [← HDD.out];exact HRFE.out,HBL.out⟩
 ·go_upto_region 6 with (fail)
  obtain ⟨xc,hcut,_,hown⟩:=own_cut HO5.out k (by rw [List.length_append];have:=HN5.out;omega)
  obtain ⟨Ac,Nc,cc,rfl⟩:∃ A N c,xc=.slice A N c:=by
   obtain ⟨A,c,e⟩:=(hown w5 HO5.out).byt.shape
   exact ⟨_,_,_,e⟩
  have HOC:=hid (hown w5 HO5.out)
  have HCU:Hid (∀ W,cutH (.slice A5 N5 c5) (.int .i64 (k:Int)) W=.ok (.value (.slice Ac Nc cc)) W):=hid hcut
  have HTK:Hid (D.s ++ (D.m ++ D.h).take k=D.s ++ (D.m ++ D.h).take (k:Int).toNat):=hid (by rw [Int.toNat_natCast])
  have hs4:D.s.length + ((D.m ++ D.h).take k).length≤140737488355328:=by have:=HSM.out;rw [List.length_take,List.length_append];omega
  clear hcut hown
  refine wp_region_held_drew (S:=fun W=>W.cell? ⟨w.heap.size,0,none⟩=some (.slice A0 N0 c0)∧W.cell? ⟨w.heap.size,3,none⟩=some (.int .i64 D.room)) (by kernel_rfl) (HC03.out _ HDR5.out) (fun hHeld=>?_)
  refine' tkq 1 rfl ?_;try simp only [lay]
  refine' tkq2 2 rfl ?_;try simp only [lay]
  refine' tkq 4 rfl ?_;try simp only [lay]
  refine' tkq 5 rfl ?_;try simp only [lay]
  have hcu:=HCU.out
  refine' tkq 6 rfl ?_;try simp only [lay]
  clear hcu
  refine' tkq 8 rfl ?_;try simp only [lay]
  refine' tkq2 9 rfl ?_;try simp only [lay]
  refine call_on (i:=0) rfl (by kernel_rfl) (by rfl) (fun K hK=>?_)
  go_simp
  have HAL:Hid (Below w5.heap.size w5 (w5.drew.alloc (.cells #[] 5))):=hid (HDR5.out.alloc HDR5.out.size _)
  refine hK.out _ _ (HC03.out _ HAL.out) (fun hHeld=>?_)
  clear hK K
  try simp only [lay]
  refine call_on (i:=3) rfl (by kernel_rfl) (by rfl) (fun K hK=>?_)
  refine wp_append_byt (.tmp 21) (.tmp 23) rfl rfl rfl (fresh0_own w5.drew) (HY.out _ (HB5W.out _ HAL.out)).1.y.byt hs3 (al_le w5.drew _) ?_
  intro x3 w6 ho6 hg6 _
  simp only [List.nil_append] at ho6
  have hb6:Below w5.drew.heap.size w5.drew w6:=fresh0_below hg6
  have HB6:=hid (HDR5.out.trans (hb6.mono HDR5.out.size))
  have HO6:=hid ho6
  clear ho6 hg6 hb6
  refine hK.out _ _ (HC03.out _ HB6.out) (fun hHeld=>?_)
  clear hK K
  try simp only [lay]
  refine call_on (i:=7) rfl (by kernel_rfl) (by rfl) (fun K hK=>?_)
  refine wp_append_byt (.tmp 24) (.tmp 27) rfl rfl rfl HO6.out (HOC.out.byt.below HB6.out) hs4 HB6.out.size ?_
  intro x4 w7 ho7 hg7 _
  have HB7:=hid (HB6.out.grown hg7 HB6.out.size (fun k hk=>(World.ownsRow.lt HO6.out k hk).1))
  have HO7:=hid ho7
  clear ho7 hg7
  refine hK.out _ _ (HC03.out _ HB7.out) (fun hHeld=>?_)
  clear hK K
  try simp only [lay]
  obtain ⟨A7,N7,c7,rfl⟩:∃ A N c,x4=.slice A N c:=by
   obtain ⟨A,c,e⟩:=HO7.out.byt.shape
   exact ⟨_,_,_,e⟩
  refine' tkq 10 rfl ?_;try simp only [lay]
  have HS7:=hid (HS5.out.below HB7.out)
  have HRF:Hid (RfC w7 (rdc DD (.slice A7 N7 c7) (.slice none 0 0) (.slice none 0 0)) DD a):=hid (by
   refine ⟨_,_,_,rfl,?_,?_,?_⟩
   ·rw [← HDD.out]
    have h7:=HO7.out
    rw [HTK.out] at h7
    exact h7.byo (fun k e=>Nat.lt_of_lt_of_le (HAA.out k e) HS5.out.b.size)
   ·rw [← HDD.out];exact Byo.nil _ _
   ·rw [← HDD.out];exact Byo.nil _ _)
  obtain ⟨hst,hrw,hrf,hbl⟩:=HS7.out.fin HRF.out
  have HRW:=hid hrw
  have HRFE:=hid hrf
  have HBL:=hid hbl
  have HCE:=hid (HC03.out _ HB7.out)
  have HCF:Hid ((setSe w7 (w.heap.size + 1) (rdc DD (.slice A7 N7 c7) (.slice none 0 0) (.slice none 0 0))).cell? ⟨w.heap.size,0,none⟩=some (.slice A0 N0 c0)∧(setSe w7 (w.heap.size + 1) (rdc DD (.slice A7 N7 c7) (.slice none 0 0) (.slice none 0 0))).cell? ⟨w.heap.size,3,none⟩=some (.int .i64 D.room)):=hid (by
   have e:=setSe_other w7 (g:=w.heap.size + 1) (k:=w.heap.size) (rdc DD (.slice A7 N7 c7) (.slice none 0 0) (.slice none 0 0)) (by omega)
   exact ⟨(World.cell?_of_block e).trans HCE.out.1,(World.cell?_of_block e).trans HCE.out.2⟩)
  clear hrw hrf hbl
  rw [← HDD.out] at hst
  unfold rdc crashD at hst
  simp only at hst
  rw [← HDD.out] at HCF HRW HRFE HBL
  unfold rdc at HCF
  simp only [crashD] at HCF
  refine call_on (i:=11) rfl (by kernel_rfl) (by rfl) (fun K hK=>?_)
  go_simp
  refine hK.out _ _ (HCF.out) (fun hHeld=>?_)
  clear hK K
  try simp only [lay]
  refine wpAnyH_done (by kernel_rfl) ?_ _
  clear hHeld hst
  go_wp2_with fail
  try simp only [Exit.inBlock,Exit.then]
  refine bodyPost_ret (results_rd1 rfl _ _ _ _ _ rfl HRW.out HRFE.out.size) rfl ⟨_,rfl,by rw [← HDD.out];exact HRFE.out,HBL.out⟩
end Go.Proofs.Ytfpgglclpkcdhaa
