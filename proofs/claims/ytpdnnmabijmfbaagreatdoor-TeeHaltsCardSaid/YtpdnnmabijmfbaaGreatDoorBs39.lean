/-
  CkCodeB CkCodeC: what each of them says stands at its head.
-/
import Derived.Test.YtpdnnmabijmfbaaGreatDoorBs36
namespace Go.Proofs.YtpdnnmabijmfbaaGreatDoor
set_option maxRecDepth 20000
open Go.RowKit
attribute [local go_sem ↓] exec_load_se exec_alloc_se exec_store_se exec_build_se exec_load_att exec_alloc_att exec_store_att exec_build_att exec_load_hash exec_build_se4 exec_build_at2 exec_build_at3 exec_build_at5 exec_build_at6 exec_load_bk exec_load_ax exec_load_ct
set_option maxHeartbeats 6400000 in
theorem ckNew_any (s:SeM) (hs:s.Ok) (v:Int) (w:World):Calls Tryz.prog 60 #[.agg (sec s),.int .i64 v] w (TlPost (newQ s v) w):=by
 have HSO:=hid hs
 have HSZ0:=hid (sec_size hs)
 have HSC:Hid (∀ (W:World) (g:Nat),W.heap[g]?=some (.cells (sec s) 40 (0,0))→(W.cell? ⟨g,0,none⟩=some (.int .i64 s.vi)∧W.cell? ⟨g,1,none⟩=some (.int .i64 s.ph)∧W.cell? ⟨g,2,none⟩=some (.int .i64 s.pv))∧loadH (.pointer (some ⟨g,3,none⟩)) W=.ok (.value (.agg (hcells s.pa))) W):=hid (fun W g h=>⟨BoxSe.cells (a:=s) h,loadH_mid (BoxSe.hash (a:=s) h) hs⟩)
 have HCK:Hid (∀ W,Calls Tryz.prog 86 #[.agg (sec s)] W fun e w'=>e=.returned (.int .i64 (if mayS s=true then 0 else 1))∧Below W.heap.size W w'):=hid (fun W=>seCheck_ok s W hs)
 have HMV:Hid (∀ W,Calls Tryz.prog 97 #[.agg (sec s),.int .i64 v,.int .i64 1] W fun e w'=>e=.returned (.agg (sec ⟨v,1,s.pv,s.pa⟩))∧Below W.heap.size W w'):=hid (fun W=>ckMoved_any s hs v 1 W)
 have HBT:=hid (buildAt2_eq s.pv s.pa hs)
 have hn0:SeM.Ok ⟨v,1,s.pv,s.pa⟩:=hs
 have ha0:AtM.Ok ⟨0,0,0,0,z32,s.pv,s.pa,z32⟩:=⟨rfl,hs,rfl⟩
 have HST:Hid (∀ W,Calls Tryz.prog 98 #[.agg (sec s),.agg (sec ⟨v,1,s.pv,s.pa⟩),.agg (atc ⟨0,0,0,0,z32,s.pv,s.pa,z32⟩)] W (TlPost (stepQ s ⟨v,1,s.pv,s.pa⟩ ⟨0,0,0,0,z32,s.pv,s.pa,z32⟩) W)):=hid (fun W=>ckStep_any s _ _ hs hn0 ha0 W)
 have HTK:Hid (TldM.Ok (stepQ s ⟨v,1,s.pv,s.pa⟩ ⟨0,0,0,0,z32,s.pv,s.pa,z32⟩)):=hid (stepQ_ok hn0 ha0)
 clear hn0 ha0
 have HNZ:Hid ((sec ⟨v,1,s.pv,s.pa⟩).size=35∧(sec ⟨v,1,s.pv,s.pa⟩).all (·.oneCell')=true):=hid ⟨sec_size hs,sec_one _⟩
 obtain ⟨S,HS⟩:∃ q:Array Value,Hid (sec s=q):=⟨_,hid rfl⟩
 obtain ⟨N,HN⟩:∃ q:Array Value,Hid (sec ⟨v,1,s.pv,s.pa⟩=q):=⟨_,hid rfl⟩
 obtain ⟨A0,HA0⟩:∃ q:Array Value,Hid (atc ⟨0,0,0,0,z32,s.pv,s.pa,z32⟩=q):=⟨_,hid rfl⟩
 obtain ⟨P,HP⟩:∃ q:Array Value,Hid (hcells s.pa=q):=⟨_,hid rfl⟩
 obtain ⟨Tq,HTq⟩:∃ q:TldM,Hid (stepQ s ⟨v,1,s.pv,s.pa⟩ ⟨0,0,0,0,z32,s.pv,s.pa,z32⟩=q):=⟨_,hid rfl⟩
 rw [HS.out] at HSZ0 HSC HCK HMV HST
 rw [HN.out] at HMV HST HNZ
 rw [HA0.out] at HST HBT
 rw [HTq.out] at HST HTK
 rw [HP.out] at HSC HBT
 rw [HS.out]
 clear hs
 obtain ⟨ZS,HZS⟩:∃ q:Array Value,Hid (sec seZ=q):=⟨_,hid rfl⟩
 obtain ⟨ZA,HZA⟩:∃ q:Array Value,Hid (atc atZ=q):=⟨_,hid rfl⟩
 have HZZ:Hid (ZS.size=35∧ZA.size=101):=hid (by rw [← HZS.out,← HZA.out];exact ⟨sec_size seZ_ok,atc_size atZ_ok⟩)
 have HBS:Hid (∀ W,buildSe W=.ok (.value (.agg ZS)) W):=hid (fun W=>by rw [← HZS.out];exact buildSe_eq W)
 have HBA:Hid (∀ W,buildAtt W=.ok (.value (.agg ZA)) W):=hid (fun W=>by rw [← HZA.out];exact buildAtt_eq W)
 have HLS:Hid (∀ W,allocSe W=.ok (.value (.pointer (some ⟨W.heap.size,0,none⟩))) (W.alloc (.cells ZS 40))):=hid (fun W=>by rw [← HZS.out];exact allocSe_eq W)
 have HLA:Hid (∀ W,allocAtt W=.ok (.value (.pointer (some ⟨W.heap.size,0,none⟩))) (W.alloc (.cells ZA 54))):=hid (fun W=>by rw [← HZA.out];exact allocAtt_eq W)
 have hal1:allocSe (w.alloc (.cells S 40))=.ok (.value (.pointer (some ⟨w.heap.size + 1,0,none⟩))) ((w.alloc (.cells S 40)).alloc (.cells ZS 40)):=by
  have:=HLS.out (w.alloc (.cells S 40))
  rwa [show ((w.alloc (.cells S 40))).heap.size=w.heap.size + 1 from by simp] at this
 have hal2:allocAtt ((w.alloc (.cells S 40)).alloc (.cells ZS 40))=.ok (.value (.pointer (some ⟨w.heap.size + 2,0,none⟩))) (((w.alloc (.cells S 40)).alloc (.cells ZS 40)).alloc (.cells ZA 54)):=by
  have:=HLA.out ((w.alloc (.cells S 40)).alloc (.cells ZS 40))
  rwa [show (((w.alloc (.cells S 40)).alloc (.cells ZS 40))).heap.size=w.heap.size + 2 from by simp] at this
 obtain ⟨hr0,hr1,hr2⟩:=rows_three w (.cells S 40) (.cells ZS 40) (.cells ZA 54)
 have HBZ:Hid (Below w.heap.size w (((w.alloc (.cells S 40)).alloc (.cells ZS 40)).alloc (.cells ZA 54))):=hid ((((Below.refl w.heap.size w).alloc (Nat.le_refl _) _).alloc (by simp;try omega) _).alloc (by simp;try omega) _)
 have HR:Hid (ResSt w (((w.alloc (.cells S 40)).alloc (.cells ZS 40)).alloc (.cells ZA 54)) (w.heap.size + 1) (w.heap.size + 2) ZS ZA):=hid ⟨hr1,hr2,by omega,by omega,HBZ.out,HZZ.out.1,HZZ.out.2⟩
 have HR0:=hid (show (((w.alloc (.cells S 40)).alloc (.cells ZS 40)).alloc (.cells ZA 54)).heap[w.heap.size]?=some (.cells S 40 (0,0)) from hr0)
 clear hr0 hr1 hr2
 go_enter Tryz.func60,Tryz.ntmps60
 go_upto_region 1 with (fail)
 clear hal1 hal2
 generalize (((w.alloc (.cells S 40)).alloc (.cells ZS 40)).alloc (.cells ZA 54))=wz at *
 have l0:=loadSe_row HR0.out HSZ0.out
 obtain ⟨E,HE⟩:∃ q:Int,Hid ((if mayS s=true then 0 else 1)=q):=⟨_,hid rfl⟩
 rw [HE.out] at HCK
 have HEM:Hid ((E=0∧mayS s=true)∨(E=1∧mayS s=false)):=hid (by
  rw [← HE.out]
  cases mayS s
  ·exact .inr ⟨rfl,rfl⟩
  ·exact .inl ⟨rfl,rfl⟩)
 go_wp2_with fail
 refine (HCK.out wz).mono ?_
 rintro e w1 ⟨rfl,hb1⟩
 have HR1:=hid (HR.out.below hb1)
 have HB1:=hid ((hb1.block _ (lt_of_block HR0.out)).trans HR0.out)
 clear l0 hb1
 rcases HEM.out with ⟨hE,hm⟩ | ⟨hE,hm⟩
 ·subst hE
  have HM:=hid hm
  clear hm
  by_cases p1:v < 1
  ·have HQ:Hid (newQ s v=noQ 1):=hid (by unfold newQ;rw [if_neg (fun h=>by omega)])
   go_wp2_with fail
   refine (ckFails_any 1 w1).mono ?_
   rintro e wf ⟨rfl,hbf⟩
   unfold tldV
   obtain ⟨hst,hsa,hrs,hra,hbe,hzs,hza⟩:=(HR1.out.below hbf).fin (t:=noQ 1) (noQ_ok 1)
   have HRS:=hid hrs
   have HRA:=hid hra
   have HBE:=hid hbe
   have HSZ:=hid (And.intro hzs hza)
   clear hrs hra hbe hzs hza
   obtain ⟨X9,HX9⟩:∃ q:Array Value,Hid (sec (noQ 1).s=q):=⟨_,hid rfl⟩
   obtain ⟨Y9,HY9⟩:∃ q:Array Value,Hid (atc (noQ 1).a=q):=⟨_,hid rfl⟩
   obtain ⟨E9,HE9⟩:∃ q:Int,Hid ((noQ 1).e=q):=⟨_,hid rfl⟩
   rw [HX9.out] at hst hsa HRS HRA HBE HSZ
   rw [HY9.out] at hsa HRS HRA HBE HSZ
   rw [HX9.out,HY9.out,HE9.out]
   go_wp2_with fail
   try simp only [Exit.inBlock,Exit.then]
   refine bodyPost_ret (results_ck rfl _ _ _ _ _ _ _ _ _ rfl rfl rfl HRS.out HRA.out HSZ.out.1 HSZ.out.2) rfl ⟨?_,HBE.out⟩
   rw [HQ.out,← HX9.out,← HY9.out,← HE9.out]
   rfl
  by_cases p2:1099511627776 < v
  ·have HQ:Hid (newQ s v=noQ 1):=hid (by unfold newQ;rw [if_neg (fun h=>by omega)])
   go_wp2_with fail
   refine (ckFails_any 1 w1).mono ?_
   rintro e wf ⟨rfl,hbf⟩
   unfold tldV
   obtain ⟨hst,hsa,hrs,hra,hbe,hzs,hza⟩:=(HR1.out.below hbf).fin (t:=noQ 1) (noQ_ok 1)
   have HRS:=hid hrs
   have HRA:=hid hra
   have HBE:=hid hbe
   have HSZ:=hid (And.intro hzs hza)
   clear hrs hra hbe hzs hza
   obtain ⟨X9,HX9⟩:∃ q:Array Value,Hid (sec (noQ 1).s=q):=⟨_,hid rfl⟩
   obtain ⟨Y9,HY9⟩:∃ q:Array Value,Hid (atc (noQ 1).a=q):=⟨_,hid rfl⟩
   obtain ⟨E9,HE9⟩:∃ q:Int,Hid ((noQ 1).e=q):=⟨_,hid rfl⟩
   rw [HX9.out] at hst hsa HRS HRA HBE HSZ
   rw [HY9.out] at hsa HRS HRA HBE HSZ
   rw [HX9.out,HY9.out,HE9.out]
   go_wp2_with fail
   try simp only [Exit.inBlock,Exit.then]
   refine bodyPost_ret (results_ck rfl _ _ _ _ _ _ _ _ _ rfl rfl rfl HRS.out HRA.out HSZ.out.1 HSZ.out.2) rfl ⟨?_,HBE.out⟩
   rw [HQ.out,← HX9.out,← HY9.out,← HE9.out]
   rfl
  have HQ:Hid (newQ s v=Tq):=hid (by unfold newQ;rw [if_pos ⟨HM.out,by omega,by omega⟩];exact HTq.out)
  have l1:=loadSe_row HB1.out HSZ0.out
  go_upto_region 3 with (fail)
  clear p1 p2
  go_wp2_with fail
  refine (HMV.out w1).mono ?_
  rintro e w2 ⟨rfl,hb2⟩
  have hal:=HLS.out
  have hsv:=se_var w2 HZZ.out.1 HNZ.out.1 HNZ.out.2
  have hb3:=hb2.alloc hb2.size (.cells N 40)
  have HR3:=hid (HR1.out.below hb3)
  have HB3:=hid ((hb3.block _ (lt_of_block HB1.out)).trans HB1.out)
  have HN3:=hid (heap_alloc_new w2 (.cells N 40))
  clear hb2 hb3 l1
  go_upto_region 4 with (fail)
  clear hal hsv
  generalize (w2.alloc (.cells N 40))=w3 at *
  generalize w2.heap.size=gN at *
  have l2:=loadSe_row HB3.out HSZ0.out
  have lN:=loadSe_row HN3.out HNZ.out.1
  obtain ⟨⟨_,_,k2⟩,h3⟩:=HSC.out w3 _ HB3.out
  have hbt:=HBT.out
  go_wp2_with fail
  refine (HST.out w3).mono ?_
  rintro e w4 ⟨rfl,hb4⟩
  clear l2 lN k2 h3 hbt
  unfold tldV
  obtain ⟨hst,hsa,hrs,hra,hbe,hzs,hza⟩:=(HR3.out.below hb4).fin (t:=Tq) HTK.out
  have HRS:=hid hrs
  have HRA:=hid hra
  have HBE:=hid hbe
  have HSZ:=hid (And.intro hzs hza)
  clear hrs hra hbe hzs hza
  obtain ⟨X9,HX9⟩:∃ q:Array Value,Hid (sec (Tq).s=q):=⟨_,hid rfl⟩
  obtain ⟨Y9,HY9⟩:∃ q:Array Value,Hid (atc (Tq).a=q):=⟨_,hid rfl⟩
  obtain ⟨E9,HE9⟩:∃ q:Int,Hid ((Tq).e=q):=⟨_,hid rfl⟩
  rw [HX9.out] at hst hsa HRS HRA HBE HSZ
  rw [HY9.out] at hsa HRS HRA HBE HSZ
  rw [HX9.out,HY9.out,HE9.out]
  go_wp2_with fail
  try simp only [Exit.inBlock,Exit.then]
  refine bodyPost_ret (results_ck rfl _ _ _ _ _ _ _ _ _ rfl rfl rfl HRS.out HRA.out HSZ.out.1 HSZ.out.2) rfl ⟨?_,HBE.out⟩
  rw [HQ.out,← HX9.out,← HY9.out,← HE9.out]
  rfl
 ·subst hE
  have HQ:Hid (newQ s v=noQ 1):=hid (by unfold newQ;rw [if_neg (fun h=>by rw [hm] at h;cases h.1)])
  clear hm
  go_wp2_with fail
  refine (ckFails_any 1 w1).mono ?_
  rintro e wf ⟨rfl,hbf⟩
  unfold tldV
  obtain ⟨hst,hsa,hrs,hra,hbe,hzs,hza⟩:=(HR1.out.below hbf).fin (t:=noQ 1) (noQ_ok 1)
  have HRS:=hid hrs
  have HRA:=hid hra
  have HBE:=hid hbe
  have HSZ:=hid (And.intro hzs hza)
  clear hrs hra hbe hzs hza
  obtain ⟨X9,HX9⟩:∃ q:Array Value,Hid (sec (noQ 1).s=q):=⟨_,hid rfl⟩
  obtain ⟨Y9,HY9⟩:∃ q:Array Value,Hid (atc (noQ 1).a=q):=⟨_,hid rfl⟩
  obtain ⟨E9,HE9⟩:∃ q:Int,Hid ((noQ 1).e=q):=⟨_,hid rfl⟩
  rw [HX9.out] at hst hsa HRS HRA HBE HSZ
  rw [HY9.out] at hsa HRS HRA HBE HSZ
  rw [HX9.out,HY9.out,HE9.out]
  go_wp2_with fail
  try simp only [Exit.inBlock,Exit.then]
  refine bodyPost_ret (results_ck rfl _ _ _ _ _ _ _ _ _ rfl rfl rfl HRS.out HRA.out HSZ.out.1 HSZ.out.2) rfl ⟨?_,HBE.out⟩
  rw [HQ.out,← HX9.out,← HY9.out,← HE9.out]
  rfl
end Go.Proofs.YtpdnnmabijmfbaaGreatDoor
namespace Go.Proofs.YtpdnnmabijmfbaaGreatDoor
set_option maxRecDepth 20000
open Go.RowKit
attribute [local go_sem ↓] exec_load_se exec_alloc_se exec_store_se exec_build_se exec_load_att exec_alloc_att exec_store_att exec_build_att exec_load_hash exec_build_se4 exec_build_at2 exec_build_at3 exec_build_at5 exec_build_at6 exec_load_bk exec_load_ax exec_load_ct
set_option maxHeartbeats 12800000 in
theorem ckPrep_any (s:SeM) (hs:s.Ok) (n:Int) (hn:(Lit.int .i64 n).wf=true) (vb vx:Value) (b:BkM) (a:AcM) (w:World) (hv:BkV w vb b) (hlk:lightK b) (hx:AcV w vx a) (hfr:a.fr.length≤1000) (hK:Kst 1 w):
  Calls Tryz.prog 72 #[.agg (sec s),.int .i64 n,vb,vx] w (TlPost (prepQ s n b a) w):=by
 have HSO:=hid hs
 have HSZ0:=hid (sec_size hs)
 have HSC:Hid (∀ (W:World) (g:Nat),W.heap[g]?=some (.cells (sec s) 40 (0,0))→(W.cell? ⟨g,0,none⟩=some (.int .i64 s.vi)∧W.cell? ⟨g,1,none⟩=some (.int .i64 s.ph)∧W.cell? ⟨g,2,none⟩=some (.int .i64 s.pv))∧loadH (.pointer (some ⟨g,3,none⟩)) W=.ok (.value (.agg (hcells s.pa))) W):=hid (fun W g h=>⟨BoxSe.cells (a:=s) h,loadH_mid (BoxSe.hash (a:=s) h) hs⟩)
 have HCK:Hid (∀ W,Calls Tryz.prog 86 #[.agg (sec s)] W fun e w'=>e=.returned (.int .i64 (if mayS s=true then 0 else 1))∧Below W.heap.size W w'):=hid (fun W=>seCheck_ok s W hs)
 have HCB:Hid (∀ W,Below w.heap.size w W→Calls Tryz.prog 115 #[vb] W fun e w'=>e=.returned (.int .i64 (if mayK b=true then 0 else 1))∧Below W.heap.size W w'):=hid (fun W h=>bkCheck_ok vb b W (hv.below h) hlk)
 have HFI:=hid (fun W=>bkFirst_ok W)
 have HSM:Hid (∀ W x,Below w.heap.size w W→BkV W x bkZ→Calls Tryz.prog 116 #[vb,x] W fun e w'=>e=.returned (.bool (sameK b bkZ))∧Below W.heap.size W w'):=hid (fun W x h hx=>bkSame_ok vb x b bkZ W (hv.below h) hx)
 have HRT:Hid (∀ W,Below w.heap.size w W→Calls Tryz.prog 118 #[.int .i64 n,vx] W fun e w'=>e=.returned (.bool (rightX n a))∧Below W.heap.size W w'):=hid (fun W h=>acRight_ok n vx a W hn (hx.below h) hfr (hK.below h))
 have HHS:Hid (∀ W,Below w.heap.size w W→Calls Tryz.prog 119 #[vb] W fun e w'=>e=.returned (.agg (hcells (hashL b)))∧Below W.heap.size W w'):=hid (fun W h=>by
  have:=bkHash_ok vb b W (hv.below h) hlk (hK.below h)
  rw [fcells_hl] at this
  exact this)
 have hn0:SeM.Ok ⟨b.vi,2,s.pv,s.pa⟩:=hs
 have HBV:=hid (fun W (h:Below w.heap.size w W)=>hv.below h)
 obtain ⟨sb,rfl,hp,ht⟩:=hv
 have HPO:=hid hp
 have HBZ0:=hid (bkc_size sb hp)
 have HBC:Hid (∀ (W:World) (g:Nat),W.heap[g]?=some (.cells (bkc b sb) 49 (0,0))→W.cell? ⟨g,32,none⟩=some (.int .i64 b.vi)∧loadH (.pointer (some ⟨g,0,none⟩)) W=.ok (.value (.agg (hcells b.par))) W):=hid (fun W g h=>⟨(BoxK.cells (b:=b) (s:=sb) h hp).1,loadH_mid (BoxK.range (b:=b) (s:=sb) h) hp⟩)
 have HXV:=hid (fun W (h:Below w.heap.size w W)=>hx.below h)
 obtain ⟨sx,rfl,hxo,hxe⟩:=hx
 have HXO:=hid hxo
 have HXZ0:=hid (axc_size sx hxo)
 have HXC:Hid (∀ (W:World) (g:Nat),W.heap[g]?=some (.cells (axc a sx) 52 (0,0))→(W.cell? ⟨g,1,none⟩=some (.int .i64 a.vi)∧W.cell? ⟨g,2,none⟩=some (.int .i64 a.pv))∧loadH (.pointer (some ⟨g,3,none⟩)) W=.ok (.value (.agg (hcells a.pa))) W):=hid (fun W g h=>⟨⟨cell_blk h 1,cell_blk h 2⟩,loadH_mid (BoxX.pa (a:=a) (s:=sx) h) hxo.pa⟩)
 have HEQ:Hid (∀ W,(Op.equalIn 10000 38 (.agg (hcells a.pa)) (.agg (hcells b.par))).run Tryz.prog W=.ok (decide (a.pa=b.par)) W):=hid (fun W=>eq_hash a.pa b.par hxo.pa hp W)
 have ha0:AtM.Ok ⟨0,0,0,0,hashL b,a.pv,a.pa,z32⟩:=⟨hashL_len b,hxo.pa,rfl⟩
 have HMV:Hid (∀ W,Calls Tryz.prog 97 #[.agg (sec s),.int .i64 b.vi,.int .i64 2] W fun e w'=>e=.returned (.agg (sec ⟨b.vi,2,s.pv,s.pa⟩))∧Below W.heap.size W w'):=hid (fun W=>ckMoved_any s hs b.vi 2 W)
 have HBT:=hid (buildAt3_eq a.pv (hashL b) a.pa (hashL_len b) hxo.pa)
 have HST:Hid (∀ W,Calls Tryz.prog 98 #[.agg (sec s),.agg (sec ⟨b.vi,2,s.pv,s.pa⟩),.agg (atc ⟨0,0,0,0,hashL b,a.pv,a.pa,z32⟩)] W (TlPost (stepQ s ⟨b.vi,2,s.pv,s.pa⟩ ⟨0,0,0,0,hashL b,a.pv,a.pa,z32⟩) W)):=hid (fun W=>ckStep_any s _ _ hs hn0 ha0 W)
 have HTK:Hid (TldM.Ok (stepQ s ⟨b.vi,2,s.pv,s.pa⟩ ⟨0,0,0,0,hashL b,a.pv,a.pa,z32⟩)):=hid (stepQ_ok hn0 ha0)
 have HNZ:Hid ((sec ⟨b.vi,2,s.pv,s.pa⟩).size=35∧(sec ⟨b.vi,2,s.pv,s.pa⟩).all (·.oneCell')=true):=hid ⟨sec_size hn0,sec_one _⟩
 have HFV:Hid (mayK b=true→sameK b bkZ=decide (b.vi=0)):=hid first_view
 clear hn0 ha0
 obtain ⟨S,HS⟩:∃ q:Array Value,Hid (sec s=q):=⟨_,hid rfl⟩
 obtain ⟨N,HN⟩:∃ q:Array Value,Hid (sec ⟨b.vi,2,s.pv,s.pa⟩=q):=⟨_,hid rfl⟩
 obtain ⟨A0,HA0⟩:∃ q:Array Value,Hid (atc ⟨0,0,0,0,hashL b,a.pv,a.pa,z32⟩=q):=⟨_,hid rfl⟩
 obtain ⟨G,HG⟩:∃ q:Array Value,Hid (hcells (hashL b)=q):=⟨_,hid rfl⟩
 obtain ⟨P,HP⟩:∃ q:Array Value,Hid (hcells a.pa=q):=⟨_,hid rfl⟩
 obtain ⟨R,HR⟩:∃ q:Array Value,Hid (hcells b.par=q):=⟨_,hid rfl⟩
 obtain ⟨B,HB⟩:∃ q:Array Value,Hid (bkc b sb=q):=⟨_,hid rfl⟩
 obtain ⟨X,HX⟩:∃ q:Array Value,Hid (axc a sx=q):=⟨_,hid rfl⟩
 obtain ⟨Tq,HTq⟩:∃ q:TldM,Hid (stepQ s ⟨b.vi,2,s.pv,s.pa⟩ ⟨0,0,0,0,hashL b,a.pv,a.pa,z32⟩=q):=⟨_,hid rfl⟩
 obtain ⟨eq,HEQQ⟩:∃ q:Bool,Hid (decide (a.pa=b.par)=q):=⟨_,hid rfl⟩
 rw [HS.out] at HSZ0 HSC HCK HMV HST
 rw [HN.out] at HMV HST HNZ
 rw [HA0.out] at HST HBT
 rw [HTq.out] at HST HTK
 rw [HG.out] at HHS HBT
 rw [HP.out] at HXC HBT HEQ
 rw [HR.out] at HBC HEQ
 rw [HEQQ.out] at HEQ
 rw [HB.out] at HBV HBZ0 HBC HCB HSM HHS
 rw [HX.out] at HXV HXZ0 HXC HRT
 rw [HS.out,HB.out,HX.out]
 clear hs hn hlk hfr hK hp ht hxo hxe HR
 obtain ⟨ZS,HZS⟩:∃ q:Array Value,Hid (sec seZ=q):=⟨_,hid rfl⟩
 obtain ⟨ZA,HZA⟩:∃ q:Array Value,Hid (atc atZ=q):=⟨_,hid rfl⟩
 have HZZ:Hid (ZS.size=35∧ZA.size=101):=hid (by rw [← HZS.out,← HZA.out];exact ⟨sec_size seZ_ok,atc_size atZ_ok⟩)
 have HBS:Hid (∀ W,buildSe W=.ok (.value (.agg ZS)) W):=hid (fun W=>by rw [← HZS.out];exact buildSe_eq W)
 have HBA:Hid (∀ W,buildAtt W=.ok (.value (.agg ZA)) W):=hid (fun W=>by rw [← HZA.out];exact buildAtt_eq W)
 have HLS:Hid (∀ W,allocSe W=.ok (.value (.pointer (some ⟨W.heap.size,0,none⟩))) (W.alloc (.cells ZS 40))):=hid (fun W=>by rw [← HZS.out];exact allocSe_eq W)
 have HLA:Hid (∀ W,allocAtt W=.ok (.value (.pointer (some ⟨W.heap.size,0,none⟩))) (W.alloc (.cells ZA 54))):=hid (fun W=>by rw [← HZA.out];exact allocAtt_eq W)
 have hal1:allocSe (((w.alloc (.cells S 40)).alloc (.cells B 49)).alloc (.cells X 52))=.ok (.value (.pointer (some ⟨w.heap.size + 3,0,none⟩))) ((((w.alloc (.cells S 40)).alloc (.cells B 49)).alloc (.cells X 52)).alloc (.cells ZS 40)):=by
  have:=HLS.out (((w.alloc (.cells S 40)).alloc (.cells B 49)).alloc (.cells X 52))
  rwa [show ((((w.alloc (.cells S 40)).alloc (.cells B 49)).alloc (.cells X 52))).heap.size=w.heap.size + 3 from by simp] at this
 have hal2:allocAtt ((((w.alloc (.cells S 40)).alloc (.cells B 49)).alloc (.cells X 52)).alloc (.cells ZS 40))=.ok (.value (.pointer (some ⟨w.heap.size + 4,0,none⟩))) (((((w.alloc (.cells S 40)).alloc (.cells B 49)).alloc (.cells X 52)).alloc (.cells ZS 40)).alloc (.cells ZA 54)):=by
  have:=HLA.out ((((w.alloc (.cells S 40)).alloc (.cells B 49)).alloc (.cells X 52)).alloc (.cells ZS 40))
  rwa [show (((((w.alloc (.cells S 40)).alloc (.cells B 49)).alloc (.cells X 52)).alloc (.cells ZS 40))).heap.size=w.heap.size + 4 from by simp] at this
 obtain ⟨hr0,hr1,hr2,hr3,hr4⟩:=rows_five w (.cells S 40) (.cells B 49) (.cells X 52) (.cells ZS 40) (.cells ZA 54)
 have HBZ:Hid (Below w.heap.size w (((((w.alloc (.cells S 40)).alloc (.cells B 49)).alloc (.cells X 52)).alloc (.cells ZS 40)).alloc (.cells ZA 54))):=hid ((((((Below.refl w.heap.size w).alloc (Nat.le_refl _) _).alloc (by simp;try omega) _).alloc (by simp;try omega) _).alloc (by simp;try omega) _).alloc (by simp;try omega) _)
 have HR:Hid (ResSt w (((((w.alloc (.cells S 40)).alloc (.cells B 49)).alloc (.cells X 52)).alloc (.cells ZS 40)).alloc (.cells ZA 54)) (w.heap.size + 3) (w.heap.size + 4) ZS ZA):=hid ⟨hr3,hr4,by omega,by omega,HBZ.out,HZZ.out.1,HZZ.out.2⟩
 have HR0:=hid (show (((((w.alloc (.cells S 40)).alloc (.cells B 49)).alloc (.cells X 52)).alloc (.cells ZS 40)).alloc (.cells ZA 54)).heap[w.heap.size]?=some (.cells S 40 (0,0)) from hr0)
 have HR1:=hid (show (((((w.alloc (.cells S 40)).alloc (.cells B 49)).alloc (.cells X 52)).alloc (.cells ZS 40)).alloc (.cells ZA 54)).heap[w.heap.size + 1]?=some (.cells B 49 (0,0)) from hr1)
 have HR2:=hid (show (((((w.alloc (.cells S 40)).alloc (.cells B 49)).alloc (.cells X 52)).alloc (.cells ZS 40)).alloc (.cells ZA 54)).heap[w.heap.size + 1 + 1]?=some (.cells X 52 (0,0)) from hr2)
 clear hr0 hr1 hr2 hr3 hr4
 go_enter Tryz.func72,Tryz.ntmps72
 go_upto_region 1 with (fail)
 clear hal1 hal2
 generalize (((((w.alloc (.cells S 40)).alloc (.cells B 49)).alloc (.cells X 52)).alloc (.cells ZS 40)).alloc (.cells ZA 54))=wz at *
 obtain ⟨E,HE⟩:∃ q:Int,Hid ((if mayS s=true then 0 else 1)=q):=⟨_,hid rfl⟩
 rw [HE.out] at HCK
 have HEM:Hid ((E=0∧mayS s=true)∨(E=1∧mayS s=false)):=hid (by
  rw [← HE.out]
  cases mayS s
  ·exact .inr ⟨rfl,rfl⟩
  ·exact .inl ⟨rfl,rfl⟩)
 obtain ⟨F,HF⟩:∃ q:Int,Hid ((if mayK b=true then 0 else 1)=q):=⟨_,hid rfl⟩
 rw [HF.out] at HCB
 have HFM:Hid ((F=0∧mayK b=true)∨(F=1∧mayK b=false)):=hid (by
  rw [← HF.out]
  cases mayK b
  ·exact .inr ⟨rfl,rfl⟩
  ·exact .inl ⟨rfl,rfl⟩)
 have HFR:Hid (∀ W,Tws (w.heap.size + 3) (w.heap.size + 4) wz W→W.heap[w.heap.size]?=some (.cells S 40 (0,0))∧W.heap[w.heap.size + 1]?=some (.cells B 49 (0,0))∧W.heap[w.heap.size + 1 + 1]?=some (.cells X 52 (0,0))):=hid (fun W t=>⟨(t.block _ (lt_of_block HR0.out) (by omega) (by omega)).trans HR0.out,(t.block _ (lt_of_block HR1.out) (by omega) (by omega)).trans HR1.out,(t.block _ (lt_of_block HR2.out) (by omega) (by omega)).trans HR2.out⟩)
 have HL:Hid (∀ W,Tws (w.heap.size + 3) (w.heap.size + 4) wz W→loadSe (.pointer (some ⟨w.heap.size,0,none⟩)) W=.ok (.value (.agg S)) W∧loadK (.pointer (some ⟨w.heap.size + 1,0,none⟩)) W=.ok (.value (.agg B)) W∧loadAx (.pointer (some ⟨w.heap.size + 1 + 1,0,none⟩)) W=.ok (.value (.agg X)) W):=hid (fun W t=>⟨loadSe_row (HFR.out W t).1 HSZ0.out,loadK_row (HFR.out W t).2.1 HBZ0.out,loadAx_row (HFR.out W t).2.2 HXZ0.out⟩)
 have HBW:Hid (∀ W,Below wz.heap.size wz W→Below w.heap.size w W):=hid (fun W h=>HBZ.out.trans (h.mono HBZ.out.size))
 have hbd:Below wz.heap.size wz wz.drew:=(Below.refl _ _).drew
 refine wp_region_held_drew (S:=fun W=>Below wz.heap.size wz W) (by kernel_rfl) hbd (fun hHeld=>?_)
 refine' tk (i:=0) (v:=_) rfl (fun W hW=>(HL.out W (Tws.of hW)).1) ?_
 try simp only [lay]
 refine call_on (i:=1) rfl (by kernel_rfl) (by rfl) (fun K hK=>?_)
 go_simp
 refine (HCK.out wz.drew).mono ?_
 rintro e x1 ⟨rfl,hx1'⟩
 have hx1:=hbd.trans (hx1'.mono hbd.size)
 refine hK.out _ _ (hx1) (fun hHeld=>?_)
 clear hK K
 try simp only [lay]
 have HX1:=hid hx1
 clear hx1 hx1'
 rcases HEM.out with ⟨hE,hm⟩ | ⟨hE,hm⟩
 ·have HM:=hid hm
  subst hE
  clear hm
  refine' tkq 2 rfl ?_;try simp only [lay]
  refine' tkq 3 rfl ?_;try simp only [lay]
  refine' tk (i:=4) (v:=_) rfl (fun W hW=>(HL.out W (Tws.of hW)).2.1) ?_
  try simp only [lay]
  refine call_on (i:=5) rfl (by kernel_rfl) (by rfl) (fun K hK=>?_)
  go_simp
  refine (HCB.out x1 (HBW.out _ HX1.out)).mono ?_
  rintro e x2 ⟨rfl,hx2'⟩
  have HX2:=hid (HX1.out.trans (hx2'.mono HX1.out.size))
  clear hx2'
  refine hK.out _ _ (HX2.out) (fun hHeld=>?_)
  clear hK K
  try simp only [lay]
  rcases HFM.out with ⟨hF,hk⟩ | ⟨hF,hk⟩
  ·have HKM:=hid hk
   subst hF
   clear hk
   refine' tkq 6 rfl ?_;try simp only [lay]
   refine' tkq 7 rfl ?_;try simp only [lay]
   refine' tkq 8 rfl ?_;try simp only [lay]
   refine' tk (i:=9) (v:=_) rfl (fun W hW=>(HL.out W (Tws.of hW)).2.1) ?_
   try simp only [lay]
   refine call_on (i:=10) rfl (by kernel_rfl) (by rfl) (fun K hK=>?_)
   go_simp
   refine (HFI.out x2).mono ?_
   rintro e x3 ⟨vz,rfl,hvz,hx3'⟩
   have HX3:=hid (HX2.out.trans (hx3'.mono HX2.out.size))
   have HVZ:=hid hvz
   clear hx3' hvz
   refine hK.out _ _ (HX3.out) (fun hHeld=>?_)
   clear hK K
   try simp only [lay]
   obtain ⟨q,HQ0⟩:∃ q:Bool,Hid (sameK b bkZ=q):=⟨_,hid rfl⟩
   rw [HQ0.out] at HSM
   refine call_on (i:=11) rfl (by kernel_rfl) (by rfl) (fun K hK=>?_)
   go_simp
   refine (HSM.out x3 vz (HBW.out _ HX3.out) HVZ.out).mono ?_
   rintro e x4 ⟨rfl,hx4'⟩
   have HX4:=hid (HX3.out.trans (hx4'.mono HX3.out.size))
   clear hx4'
   refine hK.out _ _ (HX4.out) (fun hHeld=>?_)
   clear hK K
   try simp only [lay]
   refine' tkq 12 rfl ?_;try simp only [lay]
   refine wpAnyH_done (by kernel_rfl) ?_ _
   clear hHeld hbd
   have HFQ:Hid (q=decide (b.vi=0)):=hid (by rw [← HQ0.out];exact HFV.out HKM.out)
   have HRS4:=hid (HR.out.below HX4.out)
   cases q with
   | true=>
    have HQ:Hid (prepQ s n b a=noQ 1):=hid (by unfold prepQ;rw [if_neg (fun h=>h.2.2 (of_decide_eq_true HFQ.out.symm))])
    go_wp2_with fail
    refine (ckFails_any 1 x4).mono ?_
    rintro e wf ⟨rfl,hbf⟩
    unfold tldV
    obtain ⟨hst,hsa,hrs,hra,hbe,hzs,hza⟩:=(HRS4.out.below hbf).fin (t:=noQ 1) (noQ_ok 1)
    have HRS:=hid hrs
    have HRA:=hid hra
    have HBE:=hid hbe
    have HSZ:=hid (And.intro hzs hza)
    clear hrs hra hbe hzs hza
    obtain ⟨X9,HX9⟩:∃ q:Array Value,Hid (sec (noQ 1).s=q):=⟨_,hid rfl⟩
    obtain ⟨Y9,HY9⟩:∃ q:Array Value,Hid (atc (noQ 1).a=q):=⟨_,hid rfl⟩
    obtain ⟨E9,HE9⟩:∃ q:Int,Hid ((noQ 1).e=q):=⟨_,hid rfl⟩
    rw [HX9.out] at hst hsa HRS HRA HBE HSZ
    rw [HY9.out] at hsa HRS HRA HBE HSZ
    rw [HX9.out,HY9.out,HE9.out]
    go_wp2_with fail
    try simp only [Exit.inBlock,Exit.then]
    refine bodyPost_ret (results_ck rfl _ _ _ _ _ _ _ _ _ rfl rfl rfl HRS.out HRA.out HSZ.out.1 HSZ.out.2) rfl ⟨?_,HBE.out⟩
    rw [HQ.out,← HX9.out,← HY9.out,← HE9.out]
    rfl
   | false=>
    have HV0:Hid (mayS s=true∧mayK b=true∧b.vi≠0):=hid ⟨HM.out,HKM.out,of_decide_eq_false HFQ.out.symm⟩
    obtain ⟨l0,lb,lx⟩:=HL.out x4 (Tws.of HX4.out)
    obtain ⟨r,HRX⟩:∃ q:Bool,Hid (rightX n a=q):=⟨_,hid rfl⟩
    rw [HRX.out] at HRT
    go_upto_region 3 with (fail)
    go_wp2_with fail
    refine (HRT.out x4 (HBW.out _ HX4.out)).mono ?_
    rintro e x5 ⟨rfl,hx5'⟩
    have HX5:=hid (HX4.out.trans (hx5'.mono HX4.out.size))
    have HRS5:=hid (HR.out.below HX5.out)
    clear hx5' l0 lb lx
    have f5:=HFR.out x5 (Tws.of HX5.out)
    obtain ⟨kb,hb⟩:=HBC.out x5 _ f5.2.1
    obtain ⟨⟨kx,kp⟩,hpx⟩:=HXC.out x5 _ f5.2.2
    have heq:=HEQ.out
    cases r with
    | false=>
     have HQ:Hid (prepQ s n b a=noQ 7):=hid (by unfold prepQ;rw [if_pos HV0.out,if_neg (fun h=>by rw [HRX.out] at h;cases h.1)])
     clear kb hb kx kp hpx heq f5
     go_wp2_with fail
     refine (ckFails_any 7 x5).mono ?_
     rintro e wf ⟨rfl,hbf⟩
     unfold tldV
     obtain ⟨hst,hsa,hrs,hra,hbe,hzs,hza⟩:=(HRS5.out.below hbf).fin (t:=noQ 7) (noQ_ok 7)
     have HRS:=hid hrs
     have HRA:=hid hra
     have HBE:=hid hbe
     have HSZ:=hid (And.intro hzs hza)
     clear hrs hra hbe hzs hza
     obtain ⟨X9,HX9⟩:∃ q:Array Value,Hid (sec (noQ 7).s=q):=⟨_,hid rfl⟩
     obtain ⟨Y9,HY9⟩:∃ q:Array Value,Hid (atc (noQ 7).a=q):=⟨_,hid rfl⟩
     obtain ⟨E9,HE9⟩:∃ q:Int,Hid ((noQ 7).e=q):=⟨_,hid rfl⟩
     rw [HX9.out] at hst hsa HRS HRA HBE HSZ
     rw [HY9.out] at hsa HRS HRA HBE HSZ
     rw [HX9.out,HY9.out,HE9.out]
     go_wp2_with fail
     try simp only [Exit.inBlock,Exit.then]
     refine bodyPost_ret (results_ck rfl _ _ _ _ _ _ _ _ _ rfl rfl rfl HRS.out HRA.out HSZ.out.1 HSZ.out.2) rfl ⟨?_,HBE.out⟩
     rw [HQ.out,← HX9.out,← HY9.out,← HE9.out]
     rfl
    | true=>
     obtain ⟨av,HAV⟩:∃ q:Int,Hid (a.vi=q):=⟨_,hid rfl⟩
     obtain ⟨bv,HBVV⟩:∃ q:Int,Hid (b.vi=q):=⟨_,hid rfl⟩
     rw [HAV.out] at kx
     rw [HBVV.out] at kb
     by_cases p1:av=bv
     ·subst p1
      cases eq with
      | false=>
       have HQ:Hid (prepQ s n b a=noQ 7):=hid (by unfold prepQ;rw [if_pos HV0.out,if_neg (fun h=>of_decide_eq_false HEQQ.out h.2.2)])
       clear f5
       go_wp2_with fail
       refine (ckFails_any 7 x5).mono ?_
       rintro e wf ⟨rfl,hbf⟩
       unfold tldV
       obtain ⟨hst,hsa,hrs,hra,hbe,hzs,hza⟩:=(HRS5.out.below hbf).fin (t:=noQ 7) (noQ_ok 7)
       have HRS:=hid hrs
       have HRA:=hid hra
       have HBE:=hid hbe
       have HSZ:=hid (And.intro hzs hza)
       clear hrs hra hbe hzs hza
       obtain ⟨X9,HX9⟩:∃ q:Array Value,Hid (sec (noQ 7).s=q):=⟨_,hid rfl⟩
       obtain ⟨Y9,HY9⟩:∃ q:Array Value,Hid (atc (noQ 7).a=q):=⟨_,hid rfl⟩
       obtain ⟨E9,HE9⟩:∃ q:Int,Hid ((noQ 7).e=q):=⟨_,hid rfl⟩
       rw [HX9.out] at hst hsa HRS HRA HBE HSZ
       rw [HY9.out] at hsa HRS HRA HBE HSZ
       rw [HX9.out,HY9.out,HE9.out]
       go_wp2_with fail
       try simp only [Exit.inBlock,Exit.then]
       refine bodyPost_ret (results_ck rfl _ _ _ _ _ _ _ _ _ rfl rfl rfl HRS.out HRA.out HSZ.out.1 HSZ.out.2) rfl ⟨?_,HBE.out⟩
       rw [HQ.out,← HX9.out,← HY9.out,← HE9.out]
       rfl
      | true=>
       have HQ:Hid (prepQ s n b a=Tq):=hid (by unfold prepQ;rw [if_pos HV0.out,if_pos ⟨HRX.out,HAV.out.trans HBVV.out.symm,of_decide_eq_true HEQQ.out⟩];exact HTq.out)
       go_upto_region 5 with (fail)
       obtain ⟨l5,_,_⟩:=HL.out x5 (Tws.of HX5.out)
       rw [HBVV.out] at HMV
       clear f5 hb kx kp hpx heq
       go_wp2_with fail
       refine (HMV.out x5).mono ?_
       rintro e x6 ⟨rfl,hx6'⟩
       have HX6:=hid (HX5.out.trans (hx6'.mono HX5.out.size))
       have hal:=HLS.out
       have hsv:=se_var x6 HZZ.out.1 HNZ.out.1 HNZ.out.2
       have HX7:=hid (HX6.out.alloc HX6.out.size (.cells N 40))
       have HN7:=hid (heap_alloc_new x6 (.cells N 40))
       clear hx6' l5 kb
       go_upto_region 6 with (fail)
       clear hal hsv
       have HGN:=hid (Nat.lt_of_lt_of_le (lt_of_block HR.out.a) HX6.out.size)
       generalize (x6.alloc (.cells N 40))=x7 at *
       generalize x6.heap.size=gN at *
       have HRS7:=hid (HR.out.below (HX7.out.trans (Below.refl wz.heap.size x7).drew))
       have HLN:Hid (∀ W,Tws (w.heap.size + 3) (w.heap.size + 4) x7.drew W→(loadSe (.pointer (some ⟨w.heap.size,0,none⟩)) W=.ok (.value (.agg S)) W∧loadSe (.pointer (some ⟨gN,0,none⟩)) W=.ok (.value (.agg N)) W∧loadK (.pointer (some ⟨w.heap.size + 1,0,none⟩)) W=.ok (.value (.agg B)) W)∧W.cell? ⟨w.heap.size + 1 + 1,2,none⟩=some (.int .i64 a.pv)∧loadH (.pointer (some ⟨w.heap.size + 1 + 1,3,none⟩)) W=.ok (.value (.agg P)) W):=hid (fun W t=>by
        have t0:Tws (w.heap.size + 3) (w.heap.size + 4) wz W:=(Tws.of (HX7.out.trans (Below.refl wz.heap.size x7).drew)).trans t
        have hN:W.heap[gN]?=some (.cells N 40 (0,0)):=(t.block _ (lt_of_block HN7.out) (by have:=HGN.out;omega) (by have:=HGN.out;omega)).trans HN7.out
        exact ⟨⟨(HL.out W t0).1,loadSe_row hN HNZ.out.1,(HL.out W t0).2.1⟩,(HXC.out W _ (HFR.out W t0).2.2).1.2,(HXC.out W _ (HFR.out W t0).2.2).2⟩)
       have hbt:=HBT.out
       have HXD:=hid (HX7.out.trans (Below.refl wz.heap.size x7).drew)
       refine wp_region_held_drew (S:=fun W=>Tws (w.heap.size + 3) (w.heap.size + 4) x7.drew W) (by kernel_rfl) (Tws.refl _ _ _) (fun hHeld=>?_)
       refine' tk (i:=0) (v:=_) rfl (fun W hW=>(HLN.out W hW).1.1) ?_
       try simp only [lay]
       refine' tk (i:=1) (v:=_) rfl (fun W hW=>(HLN.out W hW).1.2.1) ?_
       try simp only [lay]
       refine' tk (i:=2) (v:=_) rfl (fun W hW=>(HLN.out W hW).1.2.2) ?_
       try simp only [lay]
       refine' tkq 4 rfl ?_;try simp only [lay]
       refine' tk (i:=5) (v:=_) rfl ?_ ?_
       rotate_left
       ·(intro W hW;(try dsimp only at hW);have hW1:=(HLN.out W hW).2.1;go_simp;first | done | with_reducible rfl)
       try simp only [lay]
       refine' tkq 6 rfl ?_;try simp only [lay]
       refine' tk (i:=7) (v:=_) rfl ?_ ?_
       rotate_left
       ·(intro W hW;(try dsimp only at hW);have hW1:=(HLN.out W hW).2.2;go_simp;first | done | with_reducible rfl)
       try simp only [lay]
       refine call_on (i:=3) rfl (by kernel_rfl) (by rfl) (fun K hK=>?_)
       go_simp
       refine (HHS.out x7.drew (HBW.out _ HXD.out)).mono ?_
       rintro e x8 ⟨rfl,hx8'⟩
       have HT8:=hid (Tws.of (b:=w.heap.size + 3) (a:=w.heap.size + 4) hx8')
       have HRS8:=hid (HRS7.out.below hx8')
       clear hx8'
       refine hK.out _ _ (HT8.out) (fun hHeld=>?_)
       clear hK K
       try simp only [lay]
       refine' tkq 8 rfl ?_;try simp only [lay]
       refine call_on (i:=9) rfl (by kernel_rfl) (by rfl) (fun K hK=>?_)
       go_simp
       refine (HST.out x8).mono ?_
       unfold TlPost tldV
       rintro e x9 ⟨rfl,hx9'⟩
       have HT9:=hid (HT8.out.then hx9')
       have HRS9:=hid (HRS8.out.below hx9')
       clear hx9'
       refine hK.out _ _ (HT9.out) (fun hHeld=>?_)
       clear hK K
       try simp only [lay]
       obtain ⟨hst,hsa,hrs,hra,hbe,hzs,hza⟩:=HRS9.out.fin (t:=Tq) HTK.out
       have HRS:=hid hrs
       have HRA:=hid hra
       have HBE:=hid hbe
       have HSZ:=hid (And.intro hzs hza)
       clear hrs hra hbe hzs hza
       obtain ⟨X9,HX9⟩:∃ q:Array Value,Hid (sec Tq.s=q):=⟨_,hid rfl⟩
       obtain ⟨Y9,HY9⟩:∃ q:Array Value,Hid (atc Tq.a=q):=⟨_,hid rfl⟩
       obtain ⟨E9,HE9⟩:∃ q:Int,Hid (Tq.e=q):=⟨_,hid rfl⟩
       rw [HX9.out] at hst hsa HRS HRA HBE HSZ
       rw [HY9.out] at hsa HRS HRA HBE HSZ
       rw [HX9.out,HY9.out,HE9.out]
       refine' tkq 10 rfl ?_;try simp only [lay]
       refine' tkq 11 rfl ?_;try simp only [lay]
       refine' tkq 12 rfl ?_;try simp only [lay]
       refine call_on (i:=13) rfl (by kernel_rfl) (by rfl) (fun K hK=>?_)
       go_simp
       refine hK.out _ _ (HT9.out.setS X9) (fun hHeld=>?_)
       clear hK K
       try simp only [lay]
       refine call_on (i:=14) rfl (by kernel_rfl) (by rfl) (fun K hK=>?_)
       go_simp
       refine hK.out _ _ ((HT9.out.setS X9).setY Y9) (fun hHeld=>?_)
       clear hK K
       try simp only [lay]
       refine' tkq 15 rfl ?_;try simp only [lay]
       refine wpAnyH_done (by kernel_rfl) ?_ _
       clear hHeld hst hsa hbt
       go_wp2_with fail
       try simp only [Exit.inBlock,Exit.then]
       refine bodyPost_ret (results_ck rfl _ _ _ _ _ _ _ _ _ rfl rfl rfl HRS.out HRA.out HSZ.out.1 HSZ.out.2) rfl ⟨?_,HBE.out⟩
       rw [HQ.out,← HX9.out,← HY9.out,← HE9.out]
       rfl
     ·have HQ:Hid (prepQ s n b a=noQ 7):=hid (by unfold prepQ;rw [if_pos HV0.out,if_neg (fun h=>p1 (HAV.out.symm.trans (h.2.1.trans HBVV.out)))])
      clear f5
      go_wp2_with fail
      refine (ckFails_any 7 x5).mono ?_
      rintro e wf ⟨rfl,hbf⟩
      unfold tldV
      obtain ⟨hst,hsa,hrs,hra,hbe,hzs,hza⟩:=(HRS5.out.below hbf).fin (t:=noQ 7) (noQ_ok 7)
      have HRS:=hid hrs
      have HRA:=hid hra
      have HBE:=hid hbe
      have HSZ:=hid (And.intro hzs hza)
      clear hrs hra hbe hzs hza
      obtain ⟨X9,HX9⟩:∃ q:Array Value,Hid (sec (noQ 7).s=q):=⟨_,hid rfl⟩
      obtain ⟨Y9,HY9⟩:∃ q:Array Value,Hid (atc (noQ 7).a=q):=⟨_,hid rfl⟩
      obtain ⟨E9,HE9⟩:∃ q:Int,Hid ((noQ 7).e=q):=⟨_,hid rfl⟩
      rw [HX9.out] at hst hsa HRS HRA HBE HSZ
      rw [HY9.out] at hsa HRS HRA HBE HSZ
      rw [HX9.out,HY9.out,HE9.out]
      go_wp2_with fail
      try simp only [Exit.inBlock,Exit.then]
      refine bodyPost_ret (results_ck rfl _ _ _ _ _ _ _ _ _ rfl rfl rfl HRS.out HRA.out HSZ.out.1 HSZ.out.2) rfl ⟨?_,HBE.out⟩
      rw [HQ.out,← HX9.out,← HY9.out,← HE9.out]
      rfl
  ·have HQ:Hid (prepQ s n b a=noQ 1):=hid (by unfold prepQ;rw [if_neg (fun h=>by rw [hk] at h;cases h.2.1)])
   subst hF
   clear hk
   refine' tkq 6 rfl ?_;try simp only [lay]
   refine' tkq 7 rfl ?_;try simp only [lay]
   refine' tkq 8 rfl ?_;try simp only [lay]
   refine tf (i:=9) rfl ?_
   try simp only [lay]
   refine tf (i:=10) rfl ?_
   try simp only [lay]
   refine tf (i:=11) rfl ?_
   try simp only [lay]
   refine' tkq 12 rfl ?_;try simp only [lay]
   refine wpAnyH_done (by kernel_rfl) ?_ _
   clear hHeld hbd
   have HRS2:=hid (HR.out.below HX2.out)
   go_wp2_with fail
   refine (ckFails_any 1 x2).mono ?_
   rintro e wf ⟨rfl,hbf⟩
   unfold tldV
   obtain ⟨hst,hsa,hrs,hra,hbe,hzs,hza⟩:=(HRS2.out.below hbf).fin (t:=noQ 1) (noQ_ok 1)
   have HRS:=hid hrs
   have HRA:=hid hra
   have HBE:=hid hbe
   have HSZ:=hid (And.intro hzs hza)
   clear hrs hra hbe hzs hza
   obtain ⟨X9,HX9⟩:∃ q:Array Value,Hid (sec (noQ 1).s=q):=⟨_,hid rfl⟩
   obtain ⟨Y9,HY9⟩:∃ q:Array Value,Hid (atc (noQ 1).a=q):=⟨_,hid rfl⟩
   obtain ⟨E9,HE9⟩:∃ q:Int,Hid ((noQ 1).e=q):=⟨_,hid rfl⟩
   rw [HX9.out] at hst hsa HRS HRA HBE HSZ
   rw [HY9.out] at hsa HRS HRA HBE HSZ
   rw [HX9.out,HY9.out,HE9.out]
   go_wp2_with fail
   try simp only [Exit.inBlock,Exit.then]
   refine bodyPost_ret (results_ck rfl _ _ _ _ _ _ _ _ _ rfl rfl rfl HRS.out HRA.out HSZ.out.1 HSZ.out.2) rfl ⟨?_,HBE.out⟩
   rw [HQ.out,← HX9.out,← HY9.out,← HE9.out]
   rfl
 ·have HQ:Hid (prepQ s n b a=noQ 1):=hid (by unfold prepQ;rw [if_neg (fun h=>by rw [hm] at h;cases h.1)])
  subst hE
  clear hm
  refine' tkq 2 rfl ?_;try simp only [lay]
  refine' tkq 3 rfl ?_;try simp only [lay]
  refine tf (i:=4) rfl ?_
  try simp only [lay]
  refine tf (i:=5) rfl ?_
  try simp only [lay]
  refine tf (i:=6) rfl ?_
  try simp only [lay]
  refine' tkq 7 rfl ?_;try simp only [lay]
  refine' tkq 8 rfl ?_;try simp only [lay]
  refine tf (i:=9) rfl ?_
  try simp only [lay]
  refine tf (i:=10) rfl ?_
  try simp only [lay]
  refine tf (i:=11) rfl ?_
  try simp only [lay]
  refine' tkq 12 rfl ?_;try simp only [lay]
  refine wpAnyH_done (by kernel_rfl) ?_ _
  clear hHeld hbd
  have HRS1:=hid (HR.out.below HX1.out)
  go_wp2_with fail
  refine (ckFails_any 1 x1).mono ?_
  rintro e wf ⟨rfl,hbf⟩
  unfold tldV
  obtain ⟨hst,hsa,hrs,hra,hbe,hzs,hza⟩:=(HRS1.out.below hbf).fin (t:=noQ 1) (noQ_ok 1)
  have HRS:=hid hrs
  have HRA:=hid hra
  have HBE:=hid hbe
  have HSZ:=hid (And.intro hzs hza)
  clear hrs hra hbe hzs hza
  obtain ⟨X9,HX9⟩:∃ q:Array Value,Hid (sec (noQ 1).s=q):=⟨_,hid rfl⟩
  obtain ⟨Y9,HY9⟩:∃ q:Array Value,Hid (atc (noQ 1).a=q):=⟨_,hid rfl⟩
  obtain ⟨E9,HE9⟩:∃ q:Int,Hid ((noQ 1).e=q):=⟨_,hid rfl⟩
  rw [HX9.out] at hst hsa HRS HRA HBE HSZ
  rw [HY9.out] at hsa HRS HRA HBE HSZ
  rw [HX9.out,HY9.out,HE9.out]
  go_wp2_with fail
  try simp only [Exit.inBlock,Exit.then]
  refine bodyPost_ret (results_ck rfl _ _ _ _ _ _ _ _ _ rfl rfl rfl HRS.out HRA.out HSZ.out.1 HSZ.out.2) rfl ⟨?_,HBE.out⟩
  rw [HQ.out,← HX9.out,← HY9.out,← HE9.out]
  rfl
end Go.Proofs.YtpdnnmabijmfbaaGreatDoor
