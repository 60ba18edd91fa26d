/-
  The document's disk: Append, Sync, Cut. Printed with genrd.py.
-/
import Derived.Test.YtfpgglclpkcdhaaDkCodeB
import Derived.Test.YtfpgglclpkcdhaaDkRvA
namespace Go.Proofs.Ytfpgglclpkcdhaa
set_option maxRecDepth 20000
open Go.RowKit
attribute [local go_sem ↓] exec_load_rd exec_alloc_rd exec_store_rd exec_cutH
theorem rds_grown {w W2 W3 W4:World} {C:Array Value} (h3:RdS w W3 C) (h2:RdS w W2 C) (hb:Below W2.heap.size W3 W4):RdS w W4 C:=
 ⟨(hb.block _ (lt_of_block h2.r0)).trans h3.r0,(hb.block _ (lt_of_block h2.r1)).trans h3.r1,h3.b.trans (hb.mono h2.b.size)⟩
set_option maxHeartbeats 3200000 in
theorem refAppend18_any (D:DkM) (C:Array Value) (a:Option Nat) (vb:Value) (lb:List UInt8) (w:World) (hC:RfC w C D a) (g:D.Good) (ha:∀ k,a=some k→k < w.heap.size) (hv:Byt w vb lb) (hlb:lb.length≤1000000):
  Calls Try.prog 35 #[.agg C,vb] w (RdPost a (appE D lb) (appD D lb) w):=by
 obtain ⟨v0,v1,v2,rfl,hy0,hy1,hy2⟩:=hC
 have HG:=hid g
 have HAA:=hid ha
 have HY:Hid (∀ W,Below w.heap.size w W→Byo W a v0 D.s∧Byo W a v1 D.m∧Byo W a v2 D.h):=hid (fun W hb=>⟨hy0.below hb,hy1.below hb,hy2.below hb⟩)
 obtain ⟨A0,N0,c0,rfl,hN0⟩:∃ A N c,v0=.slice A N c∧N=D.s.length:=by
  obtain ⟨A,c,e⟩:=hy0.y.shape
  exact ⟨_,_,_,e,rfl⟩
 obtain ⟨A1,N1,c1,rfl,hN1⟩:∃ A N c,v1=.slice A N c∧N=D.m.length:=by
  obtain ⟨A,c,e⟩:=hy1.y.shape
  exact ⟨_,_,_,e,rfl⟩
 obtain ⟨A2,N2,c2,rfl⟩:∃ A N c,v2=.slice A N c:=by
  obtain ⟨A,c,e⟩:=hy2.y.shape
  exact ⟨_,_,_,e⟩
 have HN:=hid (And.intro hN0 hN1)
 have HOO:Hid (∀ D',(rdc D' (.slice A0 N0 c0) (.slice A1 N1 c1) (.slice A2 N2 c2)).all (·.oneCell')=true):=hid (fun D'=>rdc_one ..)
 have HBX0:Hid (∀ (W:World) (g:Nat),W.heap[g]?=some (.cells (rdc D (.slice A0 N0 c0) (.slice A1 N1 c1) (.slice A2 N2 c2)) 35 (0,0))→W.cell? ⟨g,0,none⟩=some (.slice A0 N0 c0)∧W.cell? ⟨g,1,none⟩=some (.slice A1 N1 c1)∧W.cell? ⟨g,2,none⟩=some (.slice A2 N2 c2)∧W.cell? ⟨g,3,none⟩=some (.int .i64 D.room)∧W.cell? ⟨g,4,none⟩=some (.int .i64 D.left)∧W.cell? ⟨g,5,none⟩=some (.bool D.dead)):=hid (fun W g h=>BoxRd.cells h)
 have HST0:=hid (fun (W:World)=>refStep18_any D (.slice A0 N0 c0) (.slice A1 N1 c1) (.slice A2 N2 c2) W g.l0 g.l1 HOO.out)
 have HRF0:Hid (∀ W,Below w.heap.size w W→RfC W (rdc D (.slice A0 N0 c0) (.slice A1 N1 c1) (.slice A2 N2 c2)) D a):=hid (fun W hb=>⟨_,_,_,rfl,HY.out W hb⟩)
 obtain ⟨C,HC⟩:∃ q:Array Value,Hid (rdc D (.slice A0 N0 c0) (.slice A1 N1 c1) (.slice A2 N2 c2)=q):=⟨_,hid rfl⟩
 rw [HC.out] at HBX0 HST0 HRF0 ⊢
 have HSZ:Hid (C.size=6):=hid (by rw [← HC.out];rfl)
 have hal:=allocRd_two w C
 have HS0:=hid (rd_begin w C)
 obtain ⟨Ab,cb,rfl⟩:=hv.shape
 have HV:Hid (∀ W,Below w.heap.size w W→Byt W (.slice Ab lb.length cb) lb):=hid (fun W hb=>hv.below hb)
 have HLB:=hid hlb
 obtain ⟨L,HL⟩:∃ q:Nat,Hid (lb.length=q):=⟨_,hid rfl⟩
 rw [HL.out] at HV ⊢
 have hw1:IntKind.i64.wrap (D.room - (N0:Int))=D.room - (N0:Int):=by
  have:=g.z
  have:=g.r1
  rw [IntKind.wrap_i64]
  omega
 have hw2:IntKind.i64.wrap (D.room - (N0:Int) - (N1:Int))=D.room - (N0:Int) - (N1:Int):=by
  have:=g.z
  have:=g.r1
  rw [IntKind.wrap_i64]
  omega
 unfold appE appD
 rw [HL.out]
 by_cases hd:D.dead=true
 ·rw [if_pos hd,if_pos hd]
  rw [hd] at HBX0
  clear hy0 hy1 hy2 g ha hN0 hN1 hv hlb hw1 hw2
  go_enter Try.func35,Try.ntmps35
  go_upto_region 1 with (fail)
  clear hal
  generalize ((w.alloc (.cells C 35)).alloc (.cells rdZ 35))=wz at *
  obtain ⟨k0,k1,k2,k3,k4,k5⟩:=HBX0.out wz _ HS0.out.r0
  have hld:=HS0.out.ld HSZ.out
  obtain ⟨hst,hrw,hrf,hbl⟩:=HS0.out.fin (HRF0.out _ HS0.out.b)
  have HRW:=hid hrw
  have HRF:=hid hrf
  have HBL:=hid hbl
  clear hrw hrf hbl
  go_wp2_with fail
  try simp only [Exit.inBlock,Exit.then]
  refine bodyPost_ret (results_rd2 rfl _ _ _ _ _ _ rfl rfl HRW.out HRF.out.size) rfl ⟨_,rfl,HRF.out,HBL.out⟩
 rw [if_neg hd,if_neg hd]
 rw [dk_live hd] at HBX0
 have HD0:=hid (g.d (dk_live hd))
 by_cases hr:D.room < D.s.length + D.m.length + L
 ·rw [if_pos hr,if_pos hr]
  have hr2:D.room - (N0:Int) - (N1:Int) < (L:Int):=by omega
  clear hr hd
  clear hy0 hy1 hy2 g ha hN0 hN1 hv hlb
  go_enter Try.func35,Try.ntmps35
  go_upto_region 1 with (fail)
  clear hal
  generalize ((w.alloc (.cells C 35)).alloc (.cells rdZ 35))=wz at *
  obtain ⟨k0,k1,k2,k3,k4,k5⟩:=HBX0.out wz _ HS0.out.r0
  have hld:=HS0.out.ld HSZ.out
  obtain ⟨hst,hrw,hrf,hbl⟩:=HS0.out.fin (HRF0.out _ HS0.out.b)
  have HRW:=hid hrw
  have HRF:=hid hrf
  have HBL:=hid hbl
  clear hrw hrf hbl
  go_wp2_with fail
  try simp only [Exit.inBlock,Exit.then]
  refine bodyPost_ret (results_rd2 rfl _ _ _ _ _ _ rfl rfl HRW.out HRF.out.size) rfl ⟨_,rfl,HRF.out,HBL.out⟩
 rw [if_neg hr,if_neg hr]
 have hr2:¬ D.room - (N0:Int) - (N1:Int) < (L:Int):=by omega
 by_cases h0:L=0
 ·rw [if_pos h0,if_pos h0]
  subst h0
  clear hr hd
  clear hy0 hy1 hy2 g ha hN0 hN1 hv hlb
  go_enter Try.func35,Try.ntmps35
  go_upto_region 1 with (fail)
  clear hal
  generalize ((w.alloc (.cells C 35)).alloc (.cells rdZ 35))=wz at *
  obtain ⟨k0,k1,k2,k3,k4,k5⟩:=HBX0.out wz _ HS0.out.r0
  have hld:=HS0.out.ld HSZ.out
  obtain ⟨hst,hrw,hrf,hbl⟩:=HS0.out.fin (HRF0.out _ HS0.out.b)
  have HRW:=hid hrw
  have HRF:=hid hrf
  have HBL:=hid hbl
  clear hrw hrf hbl
  go_wp2_with fail
  try simp only [Exit.inBlock,Exit.then]
  refine bodyPost_ret (results_rd2 rfl _ _ _ _ _ _ rfl rfl HRW.out HRF.out.size) rfl ⟨_,rfl,HRF.out,HBL.out⟩
 rw [if_neg h0,if_neg h0]
 have h0b:((L:Int) == 0)=false:=by simp;omega
 by_cases e0:D.left=0
 ·rw [if_pos e0,if_pos e0]
  obtain ⟨DD,HDD⟩:∃ q:DkM,Hid ({ D with dead:=true,h:=lb }=q):=⟨_,hid rfl⟩
  rw [HDD.out]
  have hs2:([]:List UInt8).length + lb.length≤140737488355328:=by simp only [List.length_nil];omega
  have HST:Hid (∀ W,Calls Try.prog 50 #[.agg C] W fun e w'=>e=.returned (.tuple #[.agg (rdc { D with dead:=true } (.slice A0 N0 c0) (.slice A1 N1 c1) (.slice A2 N2 c2)),.bool false])∧Below W.heap.size W w'):=hid (fun W=>by
    have:=HST0.out W
    rw [show okDk D=false from by unfold okDk;rw [decide_eq_true e0];rfl,show stepDk D={ D with dead:=true } from by unfold stepDk;rw [if_pos e0]] at this
    exact this)
  obtain ⟨D1,HD1⟩:∃ q:DkM,Hid ({ D with dead:=true }=q):=⟨_,hid rfl⟩
  rw [HD1.out] at HST
  have HBX1:Hid (∀ (W:World) (g:Nat),W.heap[g]?=some (.cells (rdc D1 (.slice A0 N0 c0) (.slice A1 N1 c1) (.slice A2 N2 c2)) 35 (0,0))→BoxRd W g D1 (.slice A0 N0 c0) (.slice A1 N1 c1) (.slice A2 N2 c2)):=hid (fun W g h=>h)
  have HZ1:Hid ((rdc D1 (.slice A0 N0 c0) (.slice A1 N1 c1) (.slice A2 N2 c2)).size=6∧(rdc D1 (.slice A0 N0 c0) (.slice A1 N1 c1) (.slice A2 N2 c2)).all (·.oneCell')=true):=hid ⟨rfl,HOO.out _⟩
  have HRF1:Hid (∀ W,Below w.heap.size w W→RfC W (rdc D1 (.slice A0 N0 c0) (.slice A1 N1 c1) (.slice A2 N2 c2)) D1 a):=hid (fun W hb=>⟨_,_,_,rfl,by rw [← HD1.out];exact HY.out W hb⟩)
  obtain ⟨C1,HC1⟩:∃ q:Array Value,Hid (rdc D1 (.slice A0 N0 c0) (.slice A1 N1 c1) (.slice A2 N2 c2)=q):=⟨_,hid rfl⟩
  rw [HC1.out] at HST HBX1 HZ1 HRF1
  clear hr hd h0 e0
  clear hy0 hy1 hy2 g ha hN0 hN1 hv hlb
  go_enter Try.func35,Try.ntmps35
  go_upto_region 1 with (fail)
  clear hal
  generalize ((w.alloc (.cells C 35)).alloc (.cells rdZ 35))=wz at *
  obtain ⟨k0,k1,k2,k3,k4,k5⟩:=HBX0.out wz _ HS0.out.r0
  have hld:=HS0.out.ld HSZ.out
  go_wp2_with fail
  refine (HST.out wz).mono ?_
  rintro e w1 ⟨rfl,hb1⟩
  have hal:=allocRd_eq w1
  have hsv:=rd_var w1 (Z:=rdZ) rfl HZ1.out.1 HZ1.out.2
  have hb2:=hb1.alloc hb1.size (.cells C1 35)
  have HS2:=hid (HS0.out.below hb2)
  have HR2:=hid (heap_alloc_new w1 (.cells C1 35))
  have HG6:=hid (show w.heap.size + 2≤w1.heap.size from Nat.le_trans HS0.out.lt hb1.size)
  clear hb1 hb2 k0 k1 k2 k3 k4 k5 hld
  go_upto_region 8 with (fail)
  clear hal hsv
  generalize (w1.alloc (.cells C1 35))=w2 at *
  generalize w1.heap.size=g6 at *
  go_upto_region 10 with (at_builtin;refine wpList_append_byt rfl (.tmp 36) (.tmp 37) rfl rfl rfl (fresh0_own w2) ((HV.out _ HS2.out.b).alloc _) hs2 (al_le w2 _) ?_;intro v3 w3 ho3 hg3 hv3;simp only [List.nil_append] at ho3;have hb3:=fresh0_below hg3;obtain ⟨A3,N3,c3,rfl⟩:∃ A N c,v3=.slice A N c:=(by obtain ⟨A,c,e⟩:=ho3.byt.shape;exact ⟨_,_,_,e⟩);have HS3:=hid (HS2.out.below hb3);have HR3:=hid ((hb3.block _ (lt_of_block HR2.out)).trans HR2.out);have hx3:=HBX1.out _ _ HR3.out;obtain ⟨_,_,kk,_,_,_⟩:=hx3.cells;have f3:=hx3.free 2;have HX3:=hid hx3;have HO3:=hid ho3;clear hx3 ho3 hg3 hv3 hb3)
  have hE:=HX3.out.set (i:=2) (u:=.slice A3 N3 c3) (D':=DD) (u0:=.slice A0 N0 c0) (u1:=.slice A1 N1 c1) (u2:=.slice A3 N3 c3) (by rw [← HD1.out,← HDD.out];rfl)
  have hld:=hE.ld
  have HS4:=hid (HS3.out.set (i:=2) (u:=.slice A3 N3 c3) HG6.out)
  have HRF:Hid (RfC (w3.setCell ⟨g6,2,none⟩ (.slice A3 N3 c3)) (rdc DD (.slice A0 N0 c0) (.slice A1 N1 c1) (.slice A3 N3 c3)) DD a):=hid (by
   have hy:=HY.out _ HS4.out.b
   have h3:=HO3.out.byo (a:=a) (fun k e=>Nat.lt_of_lt_of_le (HAA.out k e) HS2.out.b.size)
   refine ⟨_,_,_,rfl,?_,?_,?_⟩
   ·rw [← HDD.out];exact hy.1
   ·rw [← HDD.out];exact hy.2.1
   ·rw [← HDD.out]
    exact h3.away (by simp [World.setCell]) (fun k _ hk=>Below.heap_setCell _ _ _ _ (blk_ne hk HR3.out (by decide))))
  obtain ⟨C4,HC4⟩:∃ q:Array Value,Hid (rdc DD (.slice A0 N0 c0) (.slice A1 N1 c1) (.slice A3 N3 c3)=q):=⟨_,hid rfl⟩
  rw [HC4.out] at hld HRF
  clear hE f3 kk
  obtain ⟨hst,hrw,hrf,hbl⟩:=HS4.out.fin HRF.out
  have HRW:=hid hrw
  have HRF:=hid hrf
  have HBL:=hid hbl
  clear hrw hrf hbl
  go_wp2_with fail
  try simp only [Exit.inBlock,Exit.then]
  refine bodyPost_ret (results_rd2 rfl _ _ _ _ _ _ rfl rfl HRW.out HRF.out.size) rfl ⟨_,rfl,HRF.out,HBL.out⟩
 rw [if_neg e0,if_neg e0]
 rw [(stepDk_left g e0).1]
 obtain ⟨DD,HDD⟩:∃ q:DkM,Hid ({ D with left:=(stepDk D).left,m:=D.m ++ lb }=q):=⟨_,hid rfl⟩
 rw [show ({ ({ D with left:=(stepDk D).left }:DkM) with m:=D.m ++ lb }:DkM)=DD from HDD.out]
 have hs1:([]:List UInt8).length + D.m.length≤140737488355328:=by have:=g.z;have:=g.r1;simp only [List.length_nil];omega
 have hs2:D.m.length + lb.length≤140737488355328:=by have:=g.z;have:=g.r1;omega
 have HST:Hid (∀ W,Calls Try.prog 50 #[.agg C] W fun e w'=>e=.returned (.tuple #[.agg (rdc { D with left:=(stepDk D).left } (.slice A0 N0 c0) (.slice A1 N1 c1) (.slice A2 N2 c2)),.bool true])∧Below W.heap.size W w'):=hid (fun W=>by
   have:=HST0.out W
   rw [show okDk D=true from by unfold okDk;rw [decide_eq_false e0];rfl,(stepDk_left HG.out e0).1] at this
   exact this)
 obtain ⟨D1,HD1⟩:∃ q:DkM,Hid ({ D with left:=(stepDk D).left }=q):=⟨_,hid rfl⟩
 rw [HD1.out] at HST
 have HBX1:Hid (∀ (W:World) (g:Nat),W.heap[g]?=some (.cells (rdc D1 (.slice A0 N0 c0) (.slice A1 N1 c1) (.slice A2 N2 c2)) 35 (0,0))→BoxRd W g D1 (.slice A0 N0 c0) (.slice A1 N1 c1) (.slice A2 N2 c2)):=hid (fun W g h=>h)
 have HZ1:Hid ((rdc D1 (.slice A0 N0 c0) (.slice A1 N1 c1) (.slice A2 N2 c2)).size=6∧(rdc D1 (.slice A0 N0 c0) (.slice A1 N1 c1) (.slice A2 N2 c2)).all (·.oneCell')=true):=hid ⟨rfl,HOO.out _⟩
 have HRF1:Hid (∀ W,Below w.heap.size w W→RfC W (rdc D1 (.slice A0 N0 c0) (.slice A1 N1 c1) (.slice A2 N2 c2)) D1 a):=hid (fun W hb=>⟨_,_,_,rfl,by rw [← HD1.out];exact HY.out W hb⟩)
 obtain ⟨C1,HC1⟩:∃ q:Array Value,Hid (rdc D1 (.slice A0 N0 c0) (.slice A1 N1 c1) (.slice A2 N2 c2)=q):=⟨_,hid rfl⟩
 rw [HC1.out] at HST HBX1 HZ1 HRF1
 clear hr hd h0 e0
 clear hy0 hy1 hy2 g ha hN0 hN1 hv hlb
 go_enter Try.func35,Try.ntmps35
 go_upto_region 1 with (fail)
 clear hal
 generalize ((w.alloc (.cells C 35)).alloc (.cells rdZ 35))=wz at *
 obtain ⟨k0,k1,k2,k3,k4,k5⟩:=HBX0.out wz _ HS0.out.r0
 have hld:=HS0.out.ld HSZ.out
 go_wp2_with fail
 refine (HST.out wz).mono ?_
 rintro e w1 ⟨rfl,hb1⟩
 have hal:=allocRd_eq w1
 have hsv:=rd_var w1 (Z:=rdZ) rfl HZ1.out.1 HZ1.out.2
 have hb2:=hb1.alloc hb1.size (.cells C1 35)
 have HS2:=hid (HS0.out.below hb2)
 have HR2:=hid (heap_alloc_new w1 (.cells C1 35))
 have HG6:=hid (show w.heap.size + 2≤w1.heap.size from Nat.le_trans HS0.out.lt hb1.size)
 clear hb1 hb2 k0 k1 k2 k3 k4 k5 hld
 go_upto_region 8 with (fail)
 clear hal hsv
 generalize (w1.alloc (.cells C1 35))=w2 at *
 generalize w1.heap.size=g6 at *
 have hx2:=HBX1.out _ _ HR2.out
 have hx2a:=hx2.below (show Below w2.heap.size w2 (w2.alloc (.cells #[] 5)) from (Below.refl _ _).alloc (Nat.le_refl _) _)
 obtain ⟨_,kk1,_,_,_,_⟩:=hx2.cells
 obtain ⟨_,kk2,_,_,_,_⟩:=hx2a.cells
 clear hx2 hx2a
 go_upto_region 12 with (first
  | (at_builtin;refine wpList_append_byt rfl (.tmp 41) (.tmp 43) rfl rfl rfl (fresh0_own w2) ((HY.out _ HS2.out.b).2.1.y.byt.alloc _) hs1 (al_le w2 _) ?_;intro v3 w3 ho3 hg3 hv3;simp only [List.nil_append] at ho3;have hb3:=fresh0_below hg3;have HS3:=hid (HS2.out.below hb3);have HR3:=hid ((hb3.block _ (lt_of_block HR2.out)).trans HR2.out);have HO3:=hid ho3;have HL3:=hid hb3.size;clear hg3 ho3 hv3 hb3)
  | (at_builtin;refine wpList_append_byt rfl (.tmp 44) (.tmp 45) rfl rfl rfl HO3.out (HV.out _ HS3.out.b) hs2 HL3.out ?_;intro v4 w4 ho4 hg4 hv4;have hb4:=(Below.refl w2.heap.size w3).grown hg4 HL3.out (fun k hk=>(World.ownsRow.lt HO3.out k hk).1);have HS4:=hid (rds_grown HS3.out HS2.out hb4);have HR4:=hid ((hb4.block _ (lt_of_block HR2.out)).trans HR3.out);have hx4:=HBX1.out _ _ HR4.out;obtain ⟨_,kk,_,_,_,_⟩:=hx4.cells;have f4:=hx4.free 1;have HX4:=hid hx4;have HO4:=hid ho4;obtain ⟨A4,N4,c4,rfl⟩:∃ A N c,v4=.slice A N c:=(by obtain ⟨A,c,e⟩:=HO4.out.byt.shape;exact ⟨_,_,_,e⟩);clear hx4 ho4 hg4 hv4 hb4))
 have hE:=HX4.out.set (i:=1) (u:=.slice A4 N4 c4) (D':=DD) (u0:=.slice A0 N0 c0) (u1:=.slice A4 N4 c4) (u2:=.slice A2 N2 c2) (by rw [← HD1.out,← HDD.out];rfl)
 have hld:=hE.ld
 have HS5:=hid (HS4.out.set (i:=1) (u:=.slice A4 N4 c4) HG6.out)
 have HRF:Hid (RfC (w4.setCell ⟨g6,1,none⟩ (.slice A4 N4 c4)) (rdc DD (.slice A0 N0 c0) (.slice A4 N4 c4) (.slice A2 N2 c2)) DD a):=hid (by
  have hy:=HY.out _ HS5.out.b
  have h3:=HO4.out.byo (a:=a) (fun k e=>Nat.lt_of_lt_of_le (HAA.out k e) HS2.out.b.size)
  refine ⟨_,_,_,rfl,?_,?_,?_⟩
  ·rw [← HDD.out];exact hy.1
  ·rw [← HDD.out]
   exact h3.away (by simp [World.setCell]) (fun k _ hk=>Below.heap_setCell _ _ _ _ (blk_ne hk HR4.out (by decide)))
  ·rw [← HDD.out];exact hy.2.2)
 obtain ⟨C4,HC4⟩:∃ q:Array Value,Hid (rdc DD (.slice A0 N0 c0) (.slice A4 N4 c4) (.slice A2 N2 c2)=q):=⟨_,hid rfl⟩
 rw [HC4.out] at hld HRF
 clear hE f4 kk kk1 kk2
 obtain ⟨hst,hrw,hrf,hbl⟩:=HS5.out.fin HRF.out
 have HRW:=hid hrw
 have HRF:=hid hrf
 have HBL:=hid hbl
 clear hrw hrf hbl
 go_wp2_with fail
 try simp only [Exit.inBlock,Exit.then]
 refine bodyPost_ret (results_rd2 rfl _ _ _ _ _ _ rfl rfl HRW.out HRF.out.size) rfl ⟨_,rfl,HRF.out,HBL.out⟩
set_option maxHeartbeats 3200000 in
theorem refSync18_any (D:DkM) (C:Array Value) (a:Option Nat) (w:World) (hC:RfC w C D a) (g:D.Good) (ha:∀ k,a=some k→k < w.heap.size):
  Calls Try.prog 33 #[.agg C] w (RdPost a (syncE D) (syncD D) w):=by
 obtain ⟨v0,v1,v2,rfl,hy0,hy1,hy2⟩:=hC
 have HG:=hid g
 have HAA:=hid ha
 have HY:Hid (∀ W,Below w.heap.size w W→Byo W a v0 D.s∧Byo W a v1 D.m∧Byo W a v2 D.h):=hid (fun W hb=>⟨hy0.below hb,hy1.below hb,hy2.below hb⟩)
 obtain ⟨A0,N0,c0,rfl,hN0⟩:∃ A N c,v0=.slice A N c∧N=D.s.length:=by
  obtain ⟨A,c,e⟩:=hy0.y.shape
  exact ⟨_,_,_,e,rfl⟩
 obtain ⟨A1,N1,c1,rfl,hN1⟩:∃ A N c,v1=.slice A N c∧N=D.m.length:=by
  obtain ⟨A,c,e⟩:=hy1.y.shape
  exact ⟨_,_,_,e,rfl⟩
 obtain ⟨A2,N2,c2,rfl⟩:∃ A N c,v2=.slice A N c:=by
  obtain ⟨A,c,e⟩:=hy2.y.shape
  exact ⟨_,_,_,e⟩
 have HN:=hid (And.intro hN0 hN1)
 have HOO:Hid (∀ D',(rdc D' (.slice A0 N0 c0) (.slice A1 N1 c1) (.slice A2 N2 c2)).all (·.oneCell')=true):=hid (fun D'=>rdc_one ..)
 have HBX0:Hid (∀ (W:World) (g:Nat),W.heap[g]?=some (.cells (rdc D (.slice A0 N0 c0) (.slice A1 N1 c1) (.slice A2 N2 c2)) 35 (0,0))→W.cell? ⟨g,0,none⟩=some (.slice A0 N0 c0)∧W.cell? ⟨g,1,none⟩=some (.slice A1 N1 c1)∧W.cell? ⟨g,2,none⟩=some (.slice A2 N2 c2)∧W.cell? ⟨g,3,none⟩=some (.int .i64 D.room)∧W.cell? ⟨g,4,none⟩=some (.int .i64 D.left)∧W.cell? ⟨g,5,none⟩=some (.bool D.dead)):=hid (fun W g h=>BoxRd.cells h)
 have HST0:=hid (fun (W:World)=>refStep18_any D (.slice A0 N0 c0) (.slice A1 N1 c1) (.slice A2 N2 c2) W g.l0 g.l1 HOO.out)
 have HRF0:Hid (∀ W,Below w.heap.size w W→RfC W (rdc D (.slice A0 N0 c0) (.slice A1 N1 c1) (.slice A2 N2 c2)) D a):=hid (fun W hb=>⟨_,_,_,rfl,HY.out W hb⟩)
 obtain ⟨C,HC⟩:∃ q:Array Value,Hid (rdc D (.slice A0 N0 c0) (.slice A1 N1 c1) (.slice A2 N2 c2)=q):=⟨_,hid rfl⟩
 rw [HC.out] at HBX0 HST0 HRF0 ⊢
 have HSZ:Hid (C.size=6):=hid (by rw [← HC.out];rfl)
 have hal:=allocRd_two w C
 have HS0:=hid (rd_begin w C)
 have HSM:Hid (D.s.length + D.m.length≤100000000):=hid (by have:=g.z;have:=g.r1;omega)
 unfold syncE syncD
 by_cases hd:D.dead=true
 ·rw [if_pos hd,if_pos hd]
  rw [hd] at HBX0
  clear hy0 hy1 hy2 g ha hN0 hN1
  go_enter Try.func33,Try.ntmps33
  go_upto_region 1 with (fail)
  clear hal
  generalize ((w.alloc (.cells C 35)).alloc (.cells rdZ 35))=wz at *
  obtain ⟨k0,k1,k2,k3,k4,k5⟩:=HBX0.out wz _ HS0.out.r0
  have hld:=HS0.out.ld HSZ.out
  obtain ⟨hst,hrw,hrf,hbl⟩:=HS0.out.fin (HRF0.out _ HS0.out.b)
  have HRW:=hid hrw
  have HRF:=hid hrf
  have HBL:=hid hbl
  clear hrw hrf hbl
  go_wp2_with fail
  try simp only [Exit.inBlock,Exit.then]
  refine bodyPost_ret (results_rd2 rfl _ _ _ _ _ _ rfl rfl HRW.out HRF.out.size) rfl ⟨_,rfl,HRF.out,HBL.out⟩
 rw [if_neg hd,if_neg hd]
 rw [dk_live hd] at HBX0
 by_cases e0:D.left=0
 ·rw [if_pos e0,if_pos e0]
  have HST:Hid (∀ W,Calls Try.prog 50 #[.agg C] W fun e w'=>e=.returned (.tuple #[.agg (rdc { D with dead:=true } (.slice A0 N0 c0) (.slice A1 N1 c1) (.slice A2 N2 c2)),.bool false])∧Below W.heap.size W w'):=hid (fun W=>by
    have:=HST0.out W
    rw [show okDk D=false from by unfold okDk;rw [decide_eq_true e0];rfl,show stepDk D={ D with dead:=true } from by unfold stepDk;rw [if_pos e0]] at this
    exact this)
  obtain ⟨D1,HD1⟩:∃ q:DkM,Hid ({ D with dead:=true }=q):=⟨_,hid rfl⟩
  rw [HD1.out] at HST
  have HBX1:Hid (∀ (W:World) (g:Nat),W.heap[g]?=some (.cells (rdc D1 (.slice A0 N0 c0) (.slice A1 N1 c1) (.slice A2 N2 c2)) 35 (0,0))→BoxRd W g D1 (.slice A0 N0 c0) (.slice A1 N1 c1) (.slice A2 N2 c2)):=hid (fun W g h=>h)
  have HZ1:Hid ((rdc D1 (.slice A0 N0 c0) (.slice A1 N1 c1) (.slice A2 N2 c2)).size=6∧(rdc D1 (.slice A0 N0 c0) (.slice A1 N1 c1) (.slice A2 N2 c2)).all (·.oneCell')=true):=hid ⟨rfl,HOO.out _⟩
  have HRF1:Hid (∀ W,Below w.heap.size w W→RfC W (rdc D1 (.slice A0 N0 c0) (.slice A1 N1 c1) (.slice A2 N2 c2)) D1 a):=hid (fun W hb=>⟨_,_,_,rfl,by rw [← HD1.out];exact HY.out W hb⟩)
  obtain ⟨C1,HC1⟩:∃ q:Array Value,Hid (rdc D1 (.slice A0 N0 c0) (.slice A1 N1 c1) (.slice A2 N2 c2)=q):=⟨_,hid rfl⟩
  rw [HC1.out] at HST HBX1 HZ1 HRF1
  rw [show ({ D with dead:=true }:DkM)=D1 from HD1.out]
  clear hd e0
  clear hy0 hy1 hy2 g ha hN0 hN1
  go_enter Try.func33,Try.ntmps33
  go_upto_region 1 with (fail)
  clear hal
  generalize ((w.alloc (.cells C 35)).alloc (.cells rdZ 35))=wz at *
  obtain ⟨k0,k1,k2,k3,k4,k5⟩:=HBX0.out wz _ HS0.out.r0
  have hld:=HS0.out.ld HSZ.out
  go_wp2_with fail
  refine (HST.out wz).mono ?_
  rintro e w1 ⟨rfl,hb1⟩
  have hal:=allocRd_eq w1
  have hsv:=rd_var w1 (Z:=rdZ) rfl HZ1.out.1 HZ1.out.2
  have hb2:=hb1.alloc hb1.size (.cells C1 35)
  have HS2:=hid (HS0.out.below hb2)
  have HR2:=hid (heap_alloc_new w1 (.cells C1 35))
  have HG6:=hid (show w.heap.size + 2≤w1.heap.size from Nat.le_trans HS0.out.lt hb1.size)
  clear hb1 hb2 k0 k1 k2 k3 k4 k5 hld
  go_upto_region 4 with (fail)
  clear hal hsv
  generalize (w1.alloc (.cells C1 35))=w2 at *
  generalize w1.heap.size=g6 at *
  have hl6:=loadRd_row HR2.out HZ1.out.1
  obtain ⟨hst,hrw,hrf,hbl⟩:=HS2.out.fin (HRF1.out _ HS2.out.b)
  have HRW:=hid hrw
  have HRF:=hid hrf
  have HBL:=hid hbl
  clear hrw hrf hbl
  go_wp2_with fail
  try simp only [Exit.inBlock,Exit.then]
  refine bodyPost_ret (results_rd2 rfl _ _ _ _ _ _ rfl rfl HRW.out HRF.out.size) rfl ⟨_,rfl,HRF.out,HBL.out⟩
 rw [if_neg e0,if_neg e0]
 rw [(stepDk_left g e0).1]
 obtain ⟨DD,HDD⟩:∃ q:DkM,Hid ({ D with left:=(stepDk D).left,s:=D.s ++ D.m,m:=[] }=q):=⟨_,hid rfl⟩
 obtain ⟨DD0,HDD0⟩:∃ q:DkM,Hid ({ D with left:=(stepDk D).left,s:=D.s ++ D.m }=q):=⟨_,hid rfl⟩
 rw [show ({ ({ D with left:=(stepDk D).left }:DkM) with s:=D.s ++ D.m,m:=[] }:DkM)=DD from HDD.out]
 have HST:Hid (∀ W,Calls Try.prog 50 #[.agg C] W fun e w'=>e=.returned (.tuple #[.agg (rdc { D with left:=(stepDk D).left } (.slice A0 N0 c0) (.slice A1 N1 c1) (.slice A2 N2 c2)),.bool true])∧Below W.heap.size W w'):=hid (fun W=>by
   have:=HST0.out W
   rw [show okDk D=true from by unfold okDk;rw [decide_eq_false e0];rfl,(stepDk_left HG.out e0).1] at this
   exact this)
 obtain ⟨D1,HD1⟩:∃ q:DkM,Hid ({ D with left:=(stepDk D).left }=q):=⟨_,hid rfl⟩
 rw [HD1.out] at HST
 have HBX1:Hid (∀ (W:World) (g:Nat),W.heap[g]?=some (.cells (rdc D1 (.slice A0 N0 c0) (.slice A1 N1 c1) (.slice A2 N2 c2)) 35 (0,0))→BoxRd W g D1 (.slice A0 N0 c0) (.slice A1 N1 c1) (.slice A2 N2 c2)):=hid (fun W g h=>h)
 have HZ1:Hid ((rdc D1 (.slice A0 N0 c0) (.slice A1 N1 c1) (.slice A2 N2 c2)).size=6∧(rdc D1 (.slice A0 N0 c0) (.slice A1 N1 c1) (.slice A2 N2 c2)).all (·.oneCell')=true):=hid ⟨rfl,HOO.out _⟩
 have HRF1:Hid (∀ W,Below w.heap.size w W→RfC W (rdc D1 (.slice A0 N0 c0) (.slice A1 N1 c1) (.slice A2 N2 c2)) D1 a):=hid (fun W hb=>⟨_,_,_,rfl,by rw [← HD1.out];exact HY.out W hb⟩)
 obtain ⟨C1,HC1⟩:∃ q:Array Value,Hid (rdc D1 (.slice A0 N0 c0) (.slice A1 N1 c1) (.slice A2 N2 c2)=q):=⟨_,hid rfl⟩
 rw [HC1.out] at HST HBX1 HZ1 HRF1
 clear hd e0
 clear hy0 hy1 hy2 g ha hN0 hN1
 go_enter Try.func33,Try.ntmps33
 go_upto_region 1 with (fail)
 clear hal
 generalize ((w.alloc (.cells C 35)).alloc (.cells rdZ 35))=wz at *
 obtain ⟨k0,k1,k2,k3,k4,k5⟩:=HBX0.out wz _ HS0.out.r0
 have hld:=HS0.out.ld HSZ.out
 go_wp2_with fail
 refine (HST.out wz).mono ?_
 rintro e w1 ⟨rfl,hb1⟩
 have hal:=allocRd_eq w1
 have hsv:=rd_var w1 (Z:=rdZ) rfl HZ1.out.1 HZ1.out.2
 have hb2:=hb1.alloc hb1.size (.cells C1 35)
 have HS2:=hid (HS0.out.below hb2)
 have HR2:=hid (heap_alloc_new w1 (.cells C1 35))
 have HG6:=hid (show w.heap.size + 2≤w1.heap.size from Nat.le_trans HS0.out.lt hb1.size)
 clear hb1 hb2 k0 k1 k2 k3 k4 k5 hld
 go_upto_region 4 with (fail)
 clear hal hsv
 generalize (w1.alloc (.cells C1 35))=w2 at *
 generalize w1.heap.size=g6 at *
 have HAL:=hid (fun W (hb:Below w.heap.size w W)=>refAll18_any D C a W (HRF0.out W hb) HSM.out)
 have hl0:=HS2.out.ld HSZ.out
 go_wp2_with fail
 refine (HAL.out _ HS2.out.b).mono ?_
 rintro e w3 ⟨v3,rfl,ho3,hb3⟩
 obtain ⟨A3,N3,c3,rfl⟩:∃ A N c,v3=.slice A N c:=by
  obtain ⟨A,c,e⟩:=ho3.byt.shape
  exact ⟨_,_,_,e⟩
 have hown3:=ho3
 have HS3:=hid (HS2.out.below hb3)
 have HR3:=hid ((hb3.block _ (lt_of_block HR2.out)).trans HR2.out)
 have hx3:=HBX1.out _ _ HR3.out
 obtain ⟨kk0,kk1,_,_,_,_⟩:=hx3.cells
 have f0:=hx3.free 0
 have f1:=hx3.free 1
 have hE:=hx3.set (i:=0) (u:=.slice A3 N3 c3) (D':=DD0) (u0:=.slice A3 N3 c3) (u1:=.slice A1 N1 c1) (u2:=.slice A2 N2 c2) (by rw [← HDD0.out,← HD1.out];rfl)
 have hE2:=hE.set (i:=1) (u:=.slice none 0 0) (D':=DD) (u0:=.slice A3 N3 c3) (u1:=.slice none 0 0) (u2:=.slice A2 N2 c2) (by rw [← HDD.out,← HDD0.out];rfl)
 have hld:=hE2.ld
 have HS4:=hid ((HS3.out.set (i:=0) (u:=.slice A3 N3 c3) HG6.out).set (i:=1) (u:=.slice none 0 0) HG6.out)
 have HRF:Hid (RfC ((w3.setCell ⟨g6,0,none⟩ (.slice A3 N3 c3)).setCell ⟨g6,1,none⟩ (.slice none 0 0)) (rdc DD (.slice A3 N3 c3) (.slice none 0 0) (.slice A2 N2 c2)) DD a):=hid (by
  have hy:=HY.out _ HS4.out.b
  have h3:=hown3.byo (a:=a) (fun k e=>Nat.lt_of_lt_of_le (HAA.out k e) HS2.out.b.size)
  refine ⟨_,_,_,rfl,?_,?_,?_⟩
  ·rw [← HDD.out]
   exact h3.away (by simp [World.setCell]) (fun k _ hk=>by
    have e:=blk_ne hk HR3.out (by decide)
    rw [Below.heap_setCell _ _ _ _ e,Below.heap_setCell _ _ _ _ e])
  ·rw [← HDD.out];exact Byo.nil _ _
  ·rw [← HDD.out];exact hy.2.2)
 obtain ⟨C4,HC4⟩:∃ q:Array Value,Hid (rdc DD (.slice A3 N3 c3) (.slice none 0 0) (.slice A2 N2 c2)=q):=⟨_,hid rfl⟩
 rw [HC4.out] at hld HRF
 clear hE hE2 hx3 ho3 hb3 hown3
 obtain ⟨hst,hrw,hrf,hbl⟩:=HS4.out.fin HRF.out
 have HRW:=hid hrw
 have HRF:=hid hrf
 have HBL:=hid hbl
 clear hrw hrf hbl
 go_wp2_with fail
 try simp only [Exit.inBlock,Exit.then]
 refine bodyPost_ret (results_rd2 rfl _ _ _ _ _ _ rfl rfl HRW.out HRF.out.size) rfl ⟨_,rfl,HRF.out,HBL.out⟩
set_option maxHeartbeats 3200000 in
theorem refCut18_any (D:DkM) (C:Array Value) (a:Option Nat) (n:Int) (w:World) (hC:RfC w C D a) (g:D.Good) (ha:∀ k,a=some k→k < w.heap.size):
  Calls Try.prog 32 #[.agg C,.int .i64 n] w (RdPost a (cutE D n) (cutD D n) w):=by
 obtain ⟨v0,v1,v2,rfl,hy0,hy1,hy2⟩:=hC
 have HG:=hid g
 have HAA:=hid ha
 have HY:Hid (∀ W,Below w.heap.size w W→Byo W a v0 D.s∧Byo W a v1 D.m∧Byo W a v2 D.h):=hid (fun W hb=>⟨hy0.below hb,hy1.below hb,hy2.below hb⟩)
 obtain ⟨A0,N0,c0,rfl,hN0⟩:∃ A N c,v0=.slice A N c∧N=D.s.length:=by
  obtain ⟨A,c,e⟩:=hy0.y.shape
  exact ⟨_,_,_,e,rfl⟩
 obtain ⟨A1,N1,c1,rfl,hN1⟩:∃ A N c,v1=.slice A N c∧N=D.m.length:=by
  obtain ⟨A,c,e⟩:=hy1.y.shape
  exact ⟨_,_,_,e,rfl⟩
 obtain ⟨A2,N2,c2,rfl⟩:∃ A N c,v2=.slice A N c:=by
  obtain ⟨A,c,e⟩:=hy2.y.shape
  exact ⟨_,_,_,e⟩
 have HN:=hid (And.intro hN0 hN1)
 have HOO:Hid (∀ D',(rdc D' (.slice A0 N0 c0) (.slice A1 N1 c1) (.slice A2 N2 c2)).all (·.oneCell')=true):=hid (fun D'=>rdc_one ..)
 have HBX0:Hid (∀ (W:World) (g:Nat),W.heap[g]?=some (.cells (rdc D (.slice A0 N0 c0) (.slice A1 N1 c1) (.slice A2 N2 c2)) 35 (0,0))→W.cell? ⟨g,0,none⟩=some (.slice A0 N0 c0)∧W.cell? ⟨g,1,none⟩=some (.slice A1 N1 c1)∧W.cell? ⟨g,2,none⟩=some (.slice A2 N2 c2)∧W.cell? ⟨g,3,none⟩=some (.int .i64 D.room)∧W.cell? ⟨g,4,none⟩=some (.int .i64 D.left)∧W.cell? ⟨g,5,none⟩=some (.bool D.dead)):=hid (fun W g h=>BoxRd.cells h)
 have HST0:=hid (fun (W:World)=>refStep18_any D (.slice A0 N0 c0) (.slice A1 N1 c1) (.slice A2 N2 c2) W g.l0 g.l1 HOO.out)
 have HRF0:Hid (∀ W,Below w.heap.size w W→RfC W (rdc D (.slice A0 N0 c0) (.slice A1 N1 c1) (.slice A2 N2 c2)) D a):=hid (fun W hb=>⟨_,_,_,rfl,HY.out W hb⟩)
 obtain ⟨C,HC⟩:∃ q:Array Value,Hid (rdc D (.slice A0 N0 c0) (.slice A1 N1 c1) (.slice A2 N2 c2)=q):=⟨_,hid rfl⟩
 rw [HC.out] at HBX0 HST0 HRF0 ⊢
 have HSZ:Hid (C.size=6):=hid (by rw [← HC.out];rfl)
 have hal:=allocRd_two w C
 have HS0:=hid (rd_begin w C)
 have HSM:Hid (D.s.length + D.m.length≤100000000):=hid (by have:=g.z;have:=g.r1;omega)
 have hw:IntKind.i64.wrap ((N0:Int) + (N1:Int))=(N0:Int) + (N1:Int):=by
  have:=HSM.out
  rw [IntKind.wrap_i64]
  omega
 unfold cutE cutD
 by_cases hd:D.dead=true
 ·rw [if_pos hd,if_pos hd]
  rw [hd] at HBX0
  clear hy0 hy1 hy2 g ha hN0 hN1 hw
  go_enter Try.func32,Try.ntmps32
  go_upto_region 1 with (fail)
  clear hal
  generalize ((w.alloc (.cells C 35)).alloc (.cells rdZ 35))=wz at *
  obtain ⟨k0,k1,k2,k3,k4,k5⟩:=HBX0.out wz _ HS0.out.r0
  have hld:=HS0.out.ld HSZ.out
  obtain ⟨hst,hrw,hrf,hbl⟩:=HS0.out.fin (HRF0.out _ HS0.out.b)
  have HRW:=hid hrw
  have HRF:=hid hrf
  have HBL:=hid hbl
  clear hrw hrf hbl
  go_wp2_with fail
  try simp only [Exit.inBlock,Exit.then]
  refine bodyPost_ret (results_rd2 rfl _ _ _ _ _ _ rfl rfl HRW.out HRF.out.size) rfl ⟨_,rfl,HRF.out,HBL.out⟩
 rw [if_neg hd,if_neg hd]
 rw [dk_live hd] at HBX0
 by_cases n0:n < 0
 ·rw [if_pos n0,if_pos n0]
  clear hd
  clear hy0 hy1 hy2 g ha hN0 hN1 hw
  go_enter Try.func32,Try.ntmps32
  go_upto_region 1 with (fail)
  clear hal
  generalize ((w.alloc (.cells C 35)).alloc (.cells rdZ 35))=wz at *
  obtain ⟨k0,k1,k2,k3,k4,k5⟩:=HBX0.out wz _ HS0.out.r0
  have hld:=HS0.out.ld HSZ.out
  obtain ⟨hst,hrw,hrf,hbl⟩:=HS0.out.fin (HRF0.out _ HS0.out.b)
  have HRW:=hid hrw
  have HRF:=hid hrf
  have HBL:=hid hbl
  clear hrw hrf hbl
  go_wp2_with fail
  try simp only [Exit.inBlock,Exit.then]
  refine bodyPost_ret (results_rd2 rfl _ _ _ _ _ _ rfl rfl HRW.out HRF.out.size) rfl ⟨_,rfl,HRF.out,HBL.out⟩
 rw [if_neg n0,if_neg n0]
 by_cases n1:(D.s.length:Int) + D.m.length < n
 ·rw [if_pos n1,if_pos n1]
  have n2:(N0:Int) + (N1:Int) < n:=by omega
  clear hd n1
  clear hy0 hy1 hy2 g ha hN0 hN1
  go_enter Try.func32,Try.ntmps32
  go_upto_region 1 with (fail)
  clear hal
  generalize ((w.alloc (.cells C 35)).alloc (.cells rdZ 35))=wz at *
  obtain ⟨k0,k1,k2,k3,k4,k5⟩:=HBX0.out wz _ HS0.out.r0
  have hld:=HS0.out.ld HSZ.out
  obtain ⟨hst,hrw,hrf,hbl⟩:=HS0.out.fin (HRF0.out _ HS0.out.b)
  have HRW:=hid hrw
  have HRF:=hid hrf
  have HBL:=hid hbl
  clear hrw hrf hbl
  go_wp2_with fail
  try simp only [Exit.inBlock,Exit.then]
  refine bodyPost_ret (results_rd2 rfl _ _ _ _ _ _ rfl rfl HRW.out HRF.out.size) rfl ⟨_,rfl,HRF.out,HBL.out⟩
 rw [if_neg n1,if_neg n1]
 have n2:¬ (N0:Int) + (N1:Int) < n:=by omega
 by_cases e0:D.left=0
 ·rw [if_pos e0,if_pos e0]
  have HST:Hid (∀ W,Calls Try.prog 50 #[.agg C] W fun e w'=>e=.returned (.tuple #[.agg (rdc { D with dead:=true } (.slice A0 N0 c0) (.slice A1 N1 c1) (.slice A2 N2 c2)),.bool false])∧Below W.heap.size W w'):=hid (fun W=>by
    have:=HST0.out W
    rw [show okDk D=false from by unfold okDk;rw [decide_eq_true e0];rfl,show stepDk D={ D with dead:=true } from by unfold stepDk;rw [if_pos e0]] at this
    exact this)
  obtain ⟨D1,HD1⟩:∃ q:DkM,Hid ({ D with dead:=true }=q):=⟨_,hid rfl⟩
  rw [HD1.out] at HST
  have HBX1:Hid (∀ (W:World) (g:Nat),W.heap[g]?=some (.cells (rdc D1 (.slice A0 N0 c0) (.slice A1 N1 c1) (.slice A2 N2 c2)) 35 (0,0))→BoxRd W g D1 (.slice A0 N0 c0) (.slice A1 N1 c1) (.slice A2 N2 c2)):=hid (fun W g h=>h)
  have HZ1:Hid ((rdc D1 (.slice A0 N0 c0) (.slice A1 N1 c1) (.slice A2 N2 c2)).size=6∧(rdc D1 (.slice A0 N0 c0) (.slice A1 N1 c1) (.slice A2 N2 c2)).all (·.oneCell')=true):=hid ⟨rfl,HOO.out _⟩
  have HRF1:Hid (∀ W,Below w.heap.size w W→RfC W (rdc D1 (.slice A0 N0 c0) (.slice A1 N1 c1) (.slice A2 N2 c2)) D1 a):=hid (fun W hb=>⟨_,_,_,rfl,by rw [← HD1.out];exact HY.out W hb⟩)
  obtain ⟨C1,HC1⟩:∃ q:Array Value,Hid (rdc D1 (.slice A0 N0 c0) (.slice A1 N1 c1) (.slice A2 N2 c2)=q):=⟨_,hid rfl⟩
  rw [HC1.out] at HST HBX1 HZ1 HRF1
  rw [show ({ D with dead:=true }:DkM)=D1 from HD1.out]
  clear hd e0 n1
  clear hy0 hy1 hy2 g ha hN0 hN1
  go_enter Try.func32,Try.ntmps32
  go_upto_region 1 with (fail)
  clear hal
  generalize ((w.alloc (.cells C 35)).alloc (.cells rdZ 35))=wz at *
  obtain ⟨k0,k1,k2,k3,k4,k5⟩:=HBX0.out wz _ HS0.out.r0
  have hld:=HS0.out.ld HSZ.out
  go_wp2_with fail
  refine (HST.out wz).mono ?_
  rintro e w1 ⟨rfl,hb1⟩
  have hal:=allocRd_eq w1
  have hsv:=rd_var w1 (Z:=rdZ) rfl HZ1.out.1 HZ1.out.2
  have hb2:=hb1.alloc hb1.size (.cells C1 35)
  have HS2:=hid (HS0.out.below hb2)
  have HR2:=hid (heap_alloc_new w1 (.cells C1 35))
  have HG6:=hid (show w.heap.size + 2≤w1.heap.size from Nat.le_trans HS0.out.lt hb1.size)
  clear hb1 hb2 k0 k1 k2 k3 k4 k5 hld
  go_upto_region 6 with (fail)
  clear hal hsv
  generalize (w1.alloc (.cells C1 35))=w2 at *
  generalize w1.heap.size=g6 at *
  have hl6:=loadRd_row HR2.out HZ1.out.1
  obtain ⟨hst,hrw,hrf,hbl⟩:=HS2.out.fin (HRF1.out _ HS2.out.b)
  have HRW:=hid hrw
  have HRF:=hid hrf
  have HBL:=hid hbl
  clear hrw hrf hbl
  go_wp2_with fail
  try simp only [Exit.inBlock,Exit.then]
  refine bodyPost_ret (results_rd2 rfl _ _ _ _ _ _ rfl rfl HRW.out HRF.out.size) rfl ⟨_,rfl,HRF.out,HBL.out⟩
 rw [if_neg e0,if_neg e0]
 rw [(stepDk_left g e0).1]
 obtain ⟨k,rfl⟩:∃ k:Nat,n=(k:Int):=⟨n.toNat,by omega⟩
 have HK:Hid (k≤(D.s ++ D.m).length):=hid (by rw [List.length_append];omega)
 rw [Int.toNat_natCast]
 obtain ⟨DD,HDD⟩:∃ q:DkM,Hid ({ D with left:=(stepDk D).left,s:=(D.s ++ D.m).take k,m:=[] }=q):=⟨_,hid rfl⟩
 obtain ⟨DD0,HDD0⟩:∃ q:DkM,Hid ({ D with left:=(stepDk D).left,s:=(D.s ++ D.m).take k }=q):=⟨_,hid rfl⟩
 rw [show ({ ({ D with left:=(stepDk D).left }:DkM) with s:=(D.s ++ D.m).take k,m:=[] }:DkM)=DD from HDD.out]
 have HST:Hid (∀ W,Calls Try.prog 50 #[.agg C] W fun e w'=>e=.returned (.tuple #[.agg (rdc { D with left:=(stepDk D).left } (.slice A0 N0 c0) (.slice A1 N1 c1) (.slice A2 N2 c2)),.bool true])∧Below W.heap.size W w'):=hid (fun W=>by
   have:=HST0.out W
   rw [show okDk D=true from by unfold okDk;rw [decide_eq_false e0];rfl,(stepDk_left HG.out e0).1] at this
   exact this)
 obtain ⟨D1,HD1⟩:∃ q:DkM,Hid ({ D with left:=(stepDk D).left }=q):=⟨_,hid rfl⟩
 rw [HD1.out] at HST
 have HBX1:Hid (∀ (W:World) (g:Nat),W.heap[g]?=some (.cells (rdc D1 (.slice A0 N0 c0) (.slice A1 N1 c1) (.slice A2 N2 c2)) 35 (0,0))→BoxRd W g D1 (.slice A0 N0 c0) (.slice A1 N1 c1) (.slice A2 N2 c2)):=hid (fun W g h=>h)
 have HZ1:Hid ((rdc D1 (.slice A0 N0 c0) (.slice A1 N1 c1) (.slice A2 N2 c2)).size=6∧(rdc D1 (.slice A0 N0 c0) (.slice A1 N1 c1) (.slice A2 N2 c2)).all (·.oneCell')=true):=hid ⟨rfl,HOO.out _⟩
 have HRF1:Hid (∀ W,Below w.heap.size w W→RfC W (rdc D1 (.slice A0 N0 c0) (.slice A1 N1 c1) (.slice A2 N2 c2)) D1 a):=hid (fun W hb=>⟨_,_,_,rfl,by rw [← HD1.out];exact HY.out W hb⟩)
 obtain ⟨C1,HC1⟩:∃ q:Array Value,Hid (rdc D1 (.slice A0 N0 c0) (.slice A1 N1 c1) (.slice A2 N2 c2)=q):=⟨_,hid rfl⟩
 rw [HC1.out] at HST HBX1 HZ1 HRF1
 clear hd e0 n1
 clear hy0 hy1 hy2 g ha hN0 hN1
 go_enter Try.func32,Try.ntmps32
 go_upto_region 1 with (fail)
 clear hal
 generalize ((w.alloc (.cells C 35)).alloc (.cells rdZ 35))=wz at *
 obtain ⟨k0,k1,k2,k3,k4,k5⟩:=HBX0.out wz _ HS0.out.r0
 have hld:=HS0.out.ld HSZ.out
 go_wp2_with fail
 refine (HST.out wz).mono ?_
 rintro e w1 ⟨rfl,hb1⟩
 have hal:=allocRd_eq w1
 have hsv:=rd_var w1 (Z:=rdZ) rfl HZ1.out.1 HZ1.out.2
 have hb2:=hb1.alloc hb1.size (.cells C1 35)
 have HS2:=hid (HS0.out.below hb2)
 have HR2:=hid (heap_alloc_new w1 (.cells C1 35))
 have HG6:=hid (show w.heap.size + 2≤w1.heap.size from Nat.le_trans HS0.out.lt hb1.size)
 clear hb1 hb2 k0 k1 k2 k3 k4 k5 hld
 go_upto_region 6 with (fail)
 clear hal hsv
 generalize (w1.alloc (.cells C1 35))=w2 at *
 generalize w1.heap.size=g6 at *
 have HAL:=hid (fun W (hb:Below w.heap.size w W)=>refAll18_any D C a W (HRF0.out W hb) HSM.out)
 have hl0:=HS2.out.ld HSZ.out
 go_wp2_with fail
 refine (HAL.out _ HS2.out.b).mono ?_
 rintro e w3 ⟨v3,rfl,ho3,hb3⟩
 obtain ⟨vq,hcut,_,hown⟩:=own_cut ho3 k HK.out
 have hc3:=hcut w3
 have hown3:=hown w3 ho3
 obtain ⟨A3,N3,c3,rfl⟩:∃ A N c,vq=.slice A N c:=by
  obtain ⟨A,c,e⟩:=hown3.byt.shape
  exact ⟨_,_,_,e⟩
 have HS3:=hid (HS2.out.below hb3)
 have HR3:=hid ((hb3.block _ (lt_of_block HR2.out)).trans HR2.out)
 have hx3:=HBX1.out _ _ HR3.out
 obtain ⟨kk0,kk1,_,_,_,_⟩:=hx3.cells
 have f0:=hx3.free 0
 have f1:=hx3.free 1
 have hE:=hx3.set (i:=0) (u:=.slice A3 N3 c3) (D':=DD0) (u0:=.slice A3 N3 c3) (u1:=.slice A1 N1 c1) (u2:=.slice A2 N2 c2) (by rw [← HDD0.out,← HD1.out];rfl)
 have hE2:=hE.set (i:=1) (u:=.slice none 0 0) (D':=DD) (u0:=.slice A3 N3 c3) (u1:=.slice none 0 0) (u2:=.slice A2 N2 c2) (by rw [← HDD.out,← HDD0.out];rfl)
 have hld:=hE2.ld
 have HS4:=hid ((HS3.out.set (i:=0) (u:=.slice A3 N3 c3) HG6.out).set (i:=1) (u:=.slice none 0 0) HG6.out)
 have HRF:Hid (RfC ((w3.setCell ⟨g6,0,none⟩ (.slice A3 N3 c3)).setCell ⟨g6,1,none⟩ (.slice none 0 0)) (rdc DD (.slice A3 N3 c3) (.slice none 0 0) (.slice A2 N2 c2)) DD a):=hid (by
  have hy:=HY.out _ HS4.out.b
  have h3:=hown3.byo (a:=a) (fun k e=>Nat.lt_of_lt_of_le (HAA.out k e) HS2.out.b.size)
  refine ⟨_,_,_,rfl,?_,?_,?_⟩
  ·rw [← HDD.out]
   exact h3.away (by simp [World.setCell]) (fun k _ hk=>by
    have e:=blk_ne hk HR3.out (by decide)
    rw [Below.heap_setCell _ _ _ _ e,Below.heap_setCell _ _ _ _ e])
  ·rw [← HDD.out];exact Byo.nil _ _
  ·rw [← HDD.out];exact hy.2.2)
 obtain ⟨C4,HC4⟩:∃ q:Array Value,Hid (rdc DD (.slice A3 N3 c3) (.slice none 0 0) (.slice A2 N2 c2)=q):=⟨_,hid rfl⟩
 rw [HC4.out] at hld HRF
 clear hE hE2 hx3 ho3 hb3 hown3
 obtain ⟨hst,hrw,hrf,hbl⟩:=HS4.out.fin HRF.out
 have HRW:=hid hrw
 have HRF:=hid hrf
 have HBL:=hid hbl
 clear hrw hrf hbl
 go_wp2_with fail
 try simp only [Exit.inBlock,Exit.then]
 refine bodyPost_ret (results_rd2 rfl _ _ _ _ _ _ rfl rfl HRW.out HRF.out.size) rfl ⟨_,rfl,HRF.out,HBL.out⟩
end Go.Proofs.Ytfpgglclpkcdhaa
