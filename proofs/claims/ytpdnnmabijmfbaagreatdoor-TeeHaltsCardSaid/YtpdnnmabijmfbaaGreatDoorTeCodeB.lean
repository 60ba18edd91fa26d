/-
  tee: a seal is kept; what a step attests. Printed with gente.py.
-/
import Derived.Test.YtpdnnmabijmfbaaGreatDoorTeCodeA
import Derived.Test.YtpdnnmabijmfbaaGreatDoorTeOnce
import Derived.Test.YtpdnnmabijmfbaaGreatDoorBs25
namespace Go.Proofs.YtpdnnmabijmfbaaGreatDoor
set_option maxRecDepth 20000
open Go.RowKit
attribute [local go_sem ↓] exec_load_se exec_alloc_se exec_store_se exec_build_se exec_load_att exec_alloc_att exec_store_att exec_build_att
section
variable {w:World} {g b c a:Nat} {t:TeM}
theorem Tur.low {w W W':World} (h:Tur g b a w W) (k:Below w.heap.size W W'):Tur g b a w W':=
 ⟨k.os.trans h.os,k.tape.trans h.tape,k.output.trans h.output,Nat.le_trans h.size k.size,fun i h1 h2 h3 h4=>(k.block i h1).trans (h.block i h1 h2 h3 h4)⟩
theorem TeeW.kept {W:World} (h:TeeW w g b c a t) (hs:w.heap.size≤W.heap.size) (hk:∀ (k:Nat) (C:Array Value) (T:TypeId),w.heap[k]?=some (Obj.cells C T (0,0))→T=5∨T=108∨T=178∨T=175∨T=95→W.heap[k]?=w.heap[k]?):TeeW W g b c a t:=by
 obtain ⟨d,h⟩:=h
 exact ⟨d,(hk _ _ _ h.p (.inr (.inr (.inr (.inr rfl))))).trans h.p,h.v.kept hs (fun k C T h1 h2=>hk k C T h1 (by rcases h2 with h2 | h2 | h2 | h2 <;> simp [h2])),h.d⟩
theorem TeeW.aside {W:World} {p:Nat} {Z:Array Value} {U:TypeId} (h:TeeW w g b c a t) (hp:w.heap[p]?=some (.cells Z U (0,0))) (hU:∀ T:TypeId,T=5∨T=108∨T=178∨T=175∨T=95→T≠U) (hs:w.heap.size≤W.heap.size) (hk:∀ k,k≠p→W.heap[k]?=w.heap[k]?):TeeW W g b c a t:=
 h.kept hs (fun k _ T h1 h2=>hk k (blk_ne h1 hp (hU T h2)))
theorem no_att:∀ T:TypeId,T=5∨T=108∨T=178∨T=175∨T=95→T≠54:=by
 intro T h
 rcases h with rfl | rfl | rfl | rfl | rfl <;> decide
def keptM (t:TeM) (s:SeM):TeM:=⟨t.i,t.n,keepV t.V s,t.s,keepE t.V s⟩
set_option maxHeartbeats 1600000 in
theorem tKeep_any (h:TeeW w g b c a t) (G:t.Good) (h0:t.e=0) (s:SeM) (hs:s.Ok) (hK:Kst 1 w):
  Calls Tryz.prog 34 #[.pointer (some ⟨g,0,none⟩),.agg (sec s)] w fun e w'=>e=.returned (.bool (keepE t.V s == 0))∧TeeW w' g b c a (keptM t s)∧Tur g b a w w':=by
 obtain ⟨d,h⟩:=h
 have hb0:Below w.heap.size w (w.alloc (.cells (sec s) 40)):=(Below.refl _ _).alloc (Nat.le_refl _) _
 have hr0:=heap_alloc_new w (.cells (sec s) 40)
 have HE:=hid (h.below hb0)
 have HG:=hid G
 have H0:=hid h0
 have HB:=hid hb0
 have HSZ:=hid (sec_size hs)
 have HKP:=hid (fun W (hv:Vlt W b c a t.V) hk=>vKeep_any hv G.V s hs hk)
 have HKS:=hid (fun W (hb:Below w.heap.size w W)=>hK.below hb)
 obtain ⟨S,HS⟩:∃ q:Array Value,Hid (sec s=q):=⟨_,hid rfl⟩
 rw [HS.out] at hr0 HE HB HSZ HKP
 rw [HS.out]
 have HR:=hid hr0
 clear h hb0 hr0 hs HS G h0 hK
 go_enter Tryz.func34,Tryz.ntmps34
 go_upto_region 1 with (fail)
 generalize (w.alloc (.cells S 40))=wz at *
 have HF:Hid (∀ W,Below wz.heap.size wz W→W.cell? ⟨g,2,none⟩=some (.pointer (some ⟨b,0,none⟩))∧loadSe (.pointer (some ⟨w.heap.size,0,none⟩)) W=.ok (.value (.agg S)) W):=hid (fun W hb=>⟨(HE.out.below hb).cells.2.2,loadSe_row ((hb.block _ (lt_of_block HR.out)).trans HR.out) HSZ.out⟩)
 have hbd:Below wz.heap.size wz wz.drew:=(Below.refl _ _).drew
 obtain ⟨E,HEE⟩:∃ q:Int,Hid (keepE t.V s=q):=⟨_,hid rfl⟩
 rw [HEE.out] at HKP
 refine wp_region_held_drew (S:=fun W=>W.cell? ⟨g,2,none⟩=some (.pointer (some ⟨b,0,none⟩))∧loadSe (.pointer (some ⟨w.heap.size,0,none⟩)) W=.ok (.value (.agg S)) W) (by kernel_rfl) (HF.out _ hbd) (fun hHeld=>?_)
 refine' tkq 0 rfl ?_;try simp only [lay]
 refine' tkq 1 rfl ?_;try simp only [lay]
 refine' tkq 2 rfl ?_;try simp only [lay]
 refine' tkq2 3 rfl ?_;try simp only [lay]
 refine' tkq2 4 rfl ?_;try simp only [lay]
 refine call_on (i:=5) rfl (by kernel_rfl) (by rfl) (fun K hK=>?_)
 go_simp
 refine (HKP.out _ (HE.out.below hbd).v (HKS.out _ (HB.out.trans (hbd.mono HB.out.size)))).mono ?_
 rintro e w1 ⟨rfl,hv1,ht1⟩
 have HE1:=hid ((HE.out.below hbd).turned hv1 ht1)
 have HT1:=hid (((Tur.of HB.out).trans (Tur.of (g:=g) (b:=b) (a:=a) hbd)).trans (Tur.ofv (g:=g) ht1))
 have HF1:w1.cell? ⟨g,2,none⟩=some (.pointer (some ⟨b,0,none⟩))∧loadSe (.pointer (some ⟨w.heap.size,0,none⟩)) w1=.ok (.value (.agg S)) w1:=by
  obtain ⟨_,_,c2⟩:=HE1.out.cells
  exact ⟨c2,loadSe_row ((HE.out.below hbd).v.box ((hbd.block _ (lt_of_block HR.out)).trans HR.out) ht1) HSZ.out⟩
 refine hK.out _ _ HF1 (fun hHeld=>?_)
 clear hK K
 try simp only [lay]
 refine' tkq 6 rfl ?_;try simp only [lay]
 refine wpAnyH_done (by kernel_rfl) ?_ _
 clear hHeld hbd hv1 ht1 HF1
 by_cases hE:E=0
 ·subst hE
  go_wp2_with fail
  go_ret
  refine ⟨by rw [HEE.out];rfl,⟨d,?_⟩,HT1.out⟩
  have:=HE1.out
  rw [H0.out] at this
  unfold keptM
  rw [HEE.out]
  exact this
 ·have HHA:=hid (tHalt_any HE1.out HG.out.s H0.out E hE)
  have hE2:(E == 0)=false:=by simpa using hE
  go_wp2_with fail
  refine HHA.out.mono ?_
  rintro e w2 ⟨rfl,h2,t2⟩
  have HR2:=hid (And.intro h2 t2)
  clear h2 t2 HHA
  go_wp2_with fail
  go_ret
  refine ⟨by rw [HEE.out,hE2];rfl,?_,HT1.out.trans HR2.out.2⟩
  have:=HR2.out.1
  unfold keptM
  rw [HEE.out]
  exact this
def TaPost (g b c a:Nat) (r:TaM) (w:World) (e:Ending) (w':World):Prop:=e=.returned (.tuple #[.agg (atc r.a),.int .i64 r.e])∧TeeW w' g b c a r.t∧Tur g b a w w'
theorem ta_end {W:World} {p:Nat} {Z:Array Value} {r:TaM} (h:TeeW W g b c a r.t) (ht:Tur g b a w W) (hp:W.heap[p]?=some (.cells Z 54 (0,0))) (hz:Z.size=101) (hB:w.heap.size≤p) (ho:r.a.Ok):
  storeAtt (.pointer (some ⟨p,0,none⟩)) (.agg (atc r.a)) W=.ok .skip (setAtt W p (atc r.a))∧(setAtt W p (atc r.a)).heap[p]?=some (.cells (atc r.a) 54 (0,0))∧TeeW (setAtt W p (atc r.a)) g b c a r.t∧Tur g b a w (setAtt W p (atc r.a)):=by
 have hb:=setAtt_below (C:=atc r.a) (Below.refl w.heap.size W) hB
 exact ⟨storeAtt_eq hp hz (atc_size ho) (atc_one _),setAtt_same hp,h.aside hp no_att hb.size (fun k hk=>setAtt_other W _ hk),ht.low hb⟩
set_option maxHeartbeats 3200000 in
theorem tAttest_any (h:TeeW w g b c a t) (G:t.Good) (h0:t.e=0) (q:TldM) (hq:Told t.s q) (hK:∀ W,Tur g b a w W→Kst 1 W):
  Calls Tryz.prog 59 #[.pointer (some ⟨g,0,none⟩),.agg (sec q.s),.agg (atc q.a),.int .i64 q.e] w (TaPost g b c a (keptT t q) w):=by
 have hal:allocAtt ((w.alloc (.cells (sec q.s) 40)).alloc (.cells (atc q.a) 54))=.ok (.value (.pointer (some ⟨w.heap.size + 2,0,none⟩))) (((w.alloc (.cells (sec q.s) 40)).alloc (.cells (atc q.a) 54)).alloc (.cells (atc atZ) 54)):=by
  have:=allocAtt_eq ((w.alloc (.cells (sec q.s) 40)).alloc (.cells (atc q.a) 54))
  rwa [show ((w.alloc (.cells (sec q.s) 40)).alloc (.cells (atc q.a) 54)).heap.size=w.heap.size + 2 from by simp] at this
 obtain ⟨hr0,hr1,hr2⟩:=rows_three w (.cells (sec q.s) 40) (.cells (atc q.a) 54) (.cells (atc atZ) 54)
 have hb0:Below w.heap.size w (((w.alloc (.cells (sec q.s) 40)).alloc (.cells (atc q.a) 54)).alloc (.cells (atc atZ) 54)):=(((Below.refl _ _).alloc (Nat.le_refl _) _).alloc (by simp) _).alloc (by simp;omega) _
 have HE:=hid (h.below hb0)
 have HB:=hid hb0
 have HG:=hid G
 have H0:=hid h0
 have HQ:=hid hq
 have HKT:=hid hK
 have HSZ:=hid (And.intro (sec_size hq.ok.s) (atc_size hq.ok.a))
 have HZZ:Hid ((atc atZ).size=101∧True):=hid ⟨atc_size atZ_ok,trivial⟩
 have HPP:Hid (w.heap.size≤w.heap.size + 2):=hid (by omega)
 obtain ⟨S,HS⟩:∃ x:Array Value,Hid (sec q.s=x):=⟨_,hid rfl⟩
 obtain ⟨A,HA⟩:∃ x:Array Value,Hid (atc q.a=x):=⟨_,hid rfl⟩
 obtain ⟨Z,HZ⟩:∃ x:Array Value,Hid (atc atZ=x):=⟨_,hid rfl⟩
 obtain ⟨E,HEE⟩:∃ x:Int,Hid (q.e=x):=⟨_,hid rfl⟩
 rw [HS.out,HA.out] at hal hr0 hr1 hr2 HE HB HSZ
 rw [HZ.out] at hal hr0 hr1 hr2 HE HB HZZ
 rw [HS.out,HA.out,HEE.out]
 have HR0:=hid hr0
 have HR1:=hid hr1
 have HR2:=hid hr2
 clear h hb0 hr0 hr1 hr2 hq G h0 hK
 go_enter Tryz.func59,Tryz.ntmps59
 go_upto_region 1 with (fail)
 clear hal
 generalize (((w.alloc (.cells S 40)).alloc (.cells A 54)).alloc (.cells Z 54))=wz at *
 by_cases hE:E=0
 ·subst hE
  have ls:=loadSe_row HR0.out HSZ.out.1
  have HKP:=hid (tKeep_any HE.out HG.out H0.out q.s HQ.out.ok.s (HKT.out wz (Tur.of HB.out)))
  rw [HS.out] at HKP
  obtain ⟨kb,HKB⟩:∃ x:Bool,Hid ((keepE t.V q.s == 0)=x):=⟨_,hid rfl⟩
  rw [HKB.out] at HKP
  go_upto_region 3 with (fail)
  go_wp2_with fail
  refine HKP.out.mono ?_
  rintro e w1 ⟨rfl,h1,t1⟩
  have HQ0:Hid (w1.heap[w.heap.size]?=some (.cells S 40 (0,0))):=hid (HE.out.other HR0.out (by decide) (by decide) (by decide) t1)
  have HQ1:Hid (w1.heap[w.heap.size + 1]?=some (.cells A 54 (0,0))):=hid (HE.out.other HR1.out (by decide) (by decide) (by decide) t1)
  have HQ2:Hid (w1.heap[w.heap.size + 2]?=some (.cells Z 54 (0,0))):=hid (HE.out.other HR2.out (by decide) (by decide) (by decide) t1)
  have HH1:=hid h1
  have HT1:=hid ((Tur.of HB.out).trans t1)
  clear h1 t1 ls HKP
  cases kb with
  | false=>
   have hk:¬ keepE t.V q.s=0:=by have:=HKB.out;simpa using this
   have HRQ:Hid (keptT t q=⟨keptM t q.s,atZ,8⟩):=hid (by unfold keptT keptM;rw [if_pos HEE.out,if_neg hk])
   clear hk
   have HST:Hid (TeeW w1 g b c a (keptM t q.s)∧Tur g b a w w1∧w1.heap[w.heap.size + 2]?=some (.cells Z 54 (0,0))):=hid ⟨HH1.out,HT1.out,HQ2.out⟩
   obtain ⟨hst,hrp,hte,htu⟩:=ta_end (r:=⟨keptM t q.s,atZ,8⟩) HST.out.1 HST.out.2.1 HST.out.2.2 HZZ.out.1 HPP.out atZ_ok
   have HRP:=hid hrp
   have HTE:=hid hte
   have HTU:=hid htu
   have HYS:=hid (atc_size atZ_ok)
   clear hrp hte htu
   obtain ⟨Y,HY⟩:∃ x:Array Value,Hid (atc ((⟨keptM t q.s,atZ,8⟩):TaM).a=x):=⟨_,hid rfl⟩
   rw [HY.out] at hst HRP HTE HTU HYS
   have hba:∀ W,buildAtt W=.ok (.value (.agg Y)) W:=fun W=>by rw [← HY.out];exact buildAtt_eq W
   go_wp2_with fail
   try simp only [Exit.inBlock,Exit.then]
   refine bodyPost_ret (results_at2 rfl _ _ _ _ _ _ rfl rfl HRP.out HYS.out) rfl ?_
   unfold TaPost
   rw [HRQ.out]
   exact ⟨by rw [HY.out];try rfl,HTE.out,HTU.out⟩
  | true=>
   have hk:keepE t.V q.s=0:=by have:=HKB.out;simpa using this
   have HRQ:Hid (keptT t q=⟨⟨t.i,t.n,keepV t.V q.s,q.s,0⟩,signA ⟨t.i,q.a.ki,q.a.vi,q.a.ph,q.a.ha,q.a.pv,q.a.pa,q.a.tg⟩,0⟩):=hid (by unfold keptT;rw [if_pos HEE.out,if_pos hk])
   have HK0:Hid (keptM t q.s=⟨t.i,t.n,keepV t.V q.s,t.s,0⟩):=hid (by unfold keptM;rw [hk])
   have hmy:=mayA_by HG.out.i1 HG.out.i2 (HQ.out.may HEE.out).2.2
   have hao:AtM.Ok ⟨t.i,q.a.ki,q.a.vi,q.a.ph,q.a.ha,q.a.pv,q.a.pa,q.a.tg⟩:=⟨HQ.out.ok.a.ha,HQ.out.ok.a.pa,HQ.out.ok.a.tg⟩
   have HSG:=hid (fun W hk=>atSign_ok ⟨t.i,q.a.ki,q.a.vi,q.a.ph,q.a.ha,q.a.pv,q.a.pa,q.a.tg⟩ W hao hmy hk)
   have HSO:=hid (signA_ok hao)
   have HY1S:=hid (atc_size hao)
   rw [HK0.out] at HH1
   clear hk hmy hao HK0 HKB
   obtain ⟨d1,hh1⟩:=HH1.out
   obtain ⟨st2,he2,ht2⟩:=hh1.store HG.out.s HQ.out.ok.s
   rw [HS.out] at st2 he2 ht2
   have HE2:=hid he2
   have HP1:=hid hh1.cells.1
   have HX1:Hid ((setMid w1 g 3 S).heap[w.heap.size + 1]?=some (.cells (atc q.a) 54 (0,0))):=hid (by rw [HA.out];exact (setMid_other w1 3 S (tyb_ne HQ1.out hh1.p (by decide))).trans HQ1.out)
   have HX2:Hid ((setMid w1 g 3 S).heap[w.heap.size + 2]?=some (.cells Z 54 (0,0))):=hid ((setMid_other w1 3 S (tyb_ne HQ2.out hh1.p (by decide))).trans HQ2.out)
   have HT2:=hid (HT1.out.trans ht2)
   have ls:=loadSe_row HQ0.out HSZ.out.1
   clear hh1 he2 ht2
   go_upto_region 6 with (fail)
   clear st2 ls
   generalize (setMid w1 g 3 S)=w2 at *
   have k0:=HE2.out.cells.1
   simp only at k0
   have k1:=(BoxA.cells (a:=q.a) HX1.out).1
   have f1:=BoxA.free (a:=q.a) HX1.out 0
   have HX3:Hid ((w2.setCell ⟨w.heap.size + 1,0,none⟩ (.int .i64 t.i)).heap[w.heap.size + 1]?=some (.cells (atc ⟨t.i,q.a.ki,q.a.vi,q.a.ph,q.a.ha,q.a.pv,q.a.pa,q.a.tg⟩) 54 (0,0))):=hid (by rw [heap_setIn w2 HX1.out];rfl)
   have HX4:Hid ((w2.setCell ⟨w.heap.size + 1,0,none⟩ (.int .i64 t.i)).heap[w.heap.size + 2]?=some (.cells Z 54 (0,0))):=hid ((Below.heap_setCell _ _ _ _ (by show w.heap.size + 2≠w.heap.size + 1;omega)).trans HX2.out)
   have HB3:Below w.heap.size w2 (w2.setCell ⟨w.heap.size + 1,0,none⟩ (.int .i64 t.i)):=(Below.refl _ _).setCell (by show w.heap.size≤w.heap.size + 1;omega) _
   have HT3:=hid (HT2.out.low HB3)
   have HE3:Hid (TeeW (w2.setCell ⟨w.heap.size + 1,0,none⟩ (.int .i64 t.i)) g b c a ⟨t.i,t.n,keepV t.V q.s,q.s,0⟩):=hid (TeeW.aside ⟨d1,HE2.out⟩ HX1.out no_att HB3.size (fun k hk=>Below.heap_setCell _ _ _ _ hk))
   clear HB3
   go_upto_region 7 with (fail)
   clear k0 k1 f1
   generalize (w2.setCell ⟨w.heap.size + 1,0,none⟩ (.int .i64 t.i))=w3 at *
   have HKW:Hid (Kst 1 w3):=hid (HKT.out w3 HT3.out)
   obtain ⟨Y1,HY1⟩:∃ x:Array Value,Hid (atc ⟨t.i,q.a.ki,q.a.vi,q.a.ph,q.a.ha,q.a.pv,q.a.pa,q.a.tg⟩=x):=⟨_,hid rfl⟩
   rw [HY1.out] at HX3 HSG HY1S
   have la:=loadAtt_row HX3.out HY1S.out
   go_wp2_with fail
   refine (HSG.out w3 HKW.out).mono ?_
   rintro e w4 ⟨rfl,hb4⟩
   clear la
   have HST:Hid (TeeW w4 g b c a ⟨t.i,t.n,keepV t.V q.s,q.s,0⟩∧Tur g b a w w4∧w4.heap[w.heap.size + 2]?=some (.cells Z 54 (0,0))):=hid ⟨HE3.out.below hb4,HT3.out.then hb4,(hb4.block _ (lt_of_block HX4.out)).trans HX4.out⟩
   clear hb4
   obtain ⟨hst,hrp,hte,htu⟩:=ta_end (r:=⟨⟨t.i,t.n,keepV t.V q.s,q.s,0⟩,signA ⟨t.i,q.a.ki,q.a.vi,q.a.ph,q.a.ha,q.a.pv,q.a.pa,q.a.tg⟩,0⟩) HST.out.1 HST.out.2.1 HST.out.2.2 HZZ.out.1 HPP.out HSO.out
   have HRP:=hid hrp
   have HTE:=hid hte
   have HTU:=hid htu
   have HYS:=hid (atc_size HSO.out)
   clear hrp hte htu
   obtain ⟨Y,HY⟩:∃ x:Array Value,Hid (atc ((⟨⟨t.i,t.n,keepV t.V q.s,q.s,0⟩,signA ⟨t.i,q.a.ki,q.a.vi,q.a.ph,q.a.ha,q.a.pv,q.a.pa,q.a.tg⟩,0⟩):TaM).a=x):=⟨_,hid rfl⟩
   rw [HY.out] at hst HRP HTE HTU HYS
   rw [show atc (signA ⟨t.i,q.a.ki,q.a.vi,q.a.ph,q.a.ha,q.a.pv,q.a.pa,q.a.tg⟩)=Y from HY.out]
   go_wp2_with fail
   try simp only [Exit.inBlock,Exit.then]
   refine bodyPost_ret (results_at2 rfl _ _ _ _ _ _ rfl rfl HRP.out HYS.out) rfl ?_
   unfold TaPost
   rw [HRQ.out]
   exact ⟨by rw [HY.out];try rfl,HTE.out,HTU.out⟩
 ·have HRQ:Hid (keptT t q=⟨t,atZ,E⟩):=hid (by unfold keptT;rw [HEE.out,if_neg hE])
  have HST:Hid (TeeW wz g b c a t∧Tur g b a w wz∧wz.heap[w.heap.size + 2]?=some (.cells Z 54 (0,0))):=hid ⟨HE.out,Tur.of HB.out,HR2.out⟩
  obtain ⟨hst,hrp,hte,htu⟩:=ta_end (r:=⟨t,atZ,E⟩) HST.out.1 HST.out.2.1 HST.out.2.2 HZZ.out.1 HPP.out atZ_ok
  have HRP:=hid hrp
  have HTE:=hid hte
  have HTU:=hid htu
  have HYS:=hid (atc_size atZ_ok)
  clear hrp hte htu
  obtain ⟨Y,HY⟩:∃ x:Array Value,Hid (atc ((⟨t,atZ,E⟩):TaM).a=x):=⟨_,hid rfl⟩
  rw [HY.out] at hst HRP HTE HTU HYS
  have hba:∀ W,buildAtt W=.ok (.value (.agg Y)) W:=fun W=>by rw [← HY.out];exact buildAtt_eq W
  go_wp2_with fail
  try simp only [Exit.inBlock,Exit.then]
  refine bodyPost_ret (results_at2 rfl _ _ _ _ _ _ rfl rfl HRP.out HYS.out) rfl ?_
  unfold TaPost
  rw [HRQ.out]
  exact ⟨by rw [HY.out];try rfl,HTE.out,HTU.out⟩
end
end Go.Proofs.YtpdnnmabijmfbaaGreatDoor
