/-
  CkCodeA: what each of them says stands at its head.
-/
import Derived.Test.YtpdnnmabijmfbaaGreatDoorBs33
namespace Go.Proofs.YtpdnnmabijmfbaaGreatDoor
set_option maxRecDepth 20000
open Go.RowKit
attribute [local go_sem ↓] exec_load_se exec_alloc_se exec_store_se exec_build_se exec_load_att exec_alloc_att exec_store_att exec_build_att exec_load_hash exec_build_se4 exec_build_at2 exec_build_at3 exec_build_at5 exec_build_at6 exec_load_bk exec_load_ax exec_load_ct
set_option maxHeartbeats 3200000 in
theorem ckFails_any (n:Int) (w:World):Calls Tryz.prog 96 #[.int .i64 n] w (TlPost (noQ n) w):=by
 obtain ⟨ZS,HZS⟩:∃ q:Array Value,Hid (sec seZ=q):=⟨_,hid rfl⟩
 obtain ⟨ZA,HZA⟩:∃ q:Array Value,Hid (atc atZ=q):=⟨_,hid rfl⟩
 have HZZ:Hid (ZS.size=35∧ZA.size=101):=hid (by rw [← HZS.out,← HZA.out];exact ⟨sec_size seZ_ok,atc_size atZ_ok⟩)
 have HBS:Hid (∀ W,buildSe W=.ok (.value (.agg ZS)) W):=hid (fun W=>by rw [← HZS.out];exact buildSe_eq W)
 have HBA:Hid (∀ W,buildAtt W=.ok (.value (.agg ZA)) W):=hid (fun W=>by rw [← HZA.out];exact buildAtt_eq W)
 have HLS:Hid (∀ W,allocSe W=.ok (.value (.pointer (some ⟨W.heap.size,0,none⟩))) (W.alloc (.cells ZS 40))):=hid (fun W=>by rw [← HZS.out];exact allocSe_eq W)
 have HLA:Hid (∀ W,allocAtt W=.ok (.value (.pointer (some ⟨W.heap.size,0,none⟩))) (W.alloc (.cells ZA 54))):=hid (fun W=>by rw [← HZA.out];exact allocAtt_eq W)
 have hal1:allocSe w=.ok (.value (.pointer (some ⟨w.heap.size,0,none⟩))) (w.alloc (.cells ZS 40)):=by
  have:=HLS.out w
  exact this
 have hal2:allocAtt (w.alloc (.cells ZS 40))=.ok (.value (.pointer (some ⟨w.heap.size + 1,0,none⟩))) ((w.alloc (.cells ZS 40)).alloc (.cells ZA 54)):=by
  have:=HLA.out (w.alloc (.cells ZS 40))
  rwa [show ((w.alloc (.cells ZS 40))).heap.size=w.heap.size + 1 from by simp] at this
 obtain ⟨hr0,hr1⟩:=rows_two w (.cells ZS 40) (.cells ZA 54)
 have HBZ:Hid (Below w.heap.size w ((w.alloc (.cells ZS 40)).alloc (.cells ZA 54))):=hid (((Below.refl w.heap.size w).alloc (Nat.le_refl _) _).alloc (by simp;try omega) _)
 have HR:Hid (ResSt w ((w.alloc (.cells ZS 40)).alloc (.cells ZA 54)) (w.heap.size) (w.heap.size + 1) ZS ZA):=hid ⟨hr0,hr1,by omega,by omega,HBZ.out,HZZ.out.1,HZZ.out.2⟩
 clear hr0 hr1
 obtain ⟨hst,hsa,hrs,hra,hbe,hzs,hza⟩:=HR.out.fin (t:=noQ n) (noQ_ok n)
 have e:TldM.s (noQ n)=seZ:=rfl
 have e':TldM.a (noQ n)=atZ:=rfl
 rw [e,HZS.out] at hst hsa hrs hra hbe hzs
 rw [e',HZA.out] at hsa hrs hra hbe hza
 have HRS:=hid hrs
 have HRA:=hid hra
 have HBE:=hid hbe
 have hbs:=HBS.out
 have hba:=HBA.out
 clear hrs hra hbe hzs hza e e'
 go_enter Tryz.func96,Tryz.ntmps96
 go_wp2_with fail
 try simp only [Exit.inBlock,Exit.then]
 refine bodyPost_ret (results_ck rfl _ _ _ _ _ _ _ _ _ rfl rfl rfl HRS.out HRA.out HZZ.out.1 HZZ.out.2) rfl ⟨?_,HBE.out⟩
 rw [← HZS.out,← HZA.out]
 rfl
theorem results_ck1 {fn:Func} {q:Tmp} (h:fn.results=#[.cell q 40]) (tmps:Array Value) (w:World) (g2:Nat) (t2:TypeId) (ys:Array Value)
  (hq:tmps.getD q undef=.pointer (some ⟨g2,0,none⟩)) (h2:w.heap[g2]?=some (.cells ys t2 (0,0))) (hy:ys.size=35):
  (results fn tmps).run Tryz.prog w=.ok (.agg ys) w:=by
 have hq':tmps[q]?.getD undef=.pointer (some ⟨g2,0,none⟩):=by simpa using hq
 have r2:=run_loadVar_row (P:=Tryz.prog) w g2 t2 40 ys (0,0) _ h2 under_se rfl (by rw [size_se,hy])
 simp [results,h,hq',asAddr,r2]
set_option maxHeartbeats 3200000 in
theorem ckMoved_any (s:SeM) (hs:s.Ok) (v p:Int) (w:World):Calls Tryz.prog 97 #[.agg (sec s),.int .i64 v,.int .i64 p] w fun e w'=>e=.returned (.agg (sec ⟨v,p,s.pv,s.pa⟩))∧Below w.heap.size w w':=by
 have hal:allocSe (w.alloc (.cells (sec s) 40))=.ok (.value (.pointer (some ⟨w.heap.size + 1,0,none⟩))) ((w.alloc (.cells (sec s) 40)).alloc (.cells (sec seZ) 40)):=by
  have:=allocSe_eq (w.alloc (.cells (sec s) 40))
  rwa [show (w.alloc (.cells (sec s) 40)).heap.size=w.heap.size + 1 from by simp] at this
 obtain ⟨hr0,hr1⟩:=rows_two w (.cells (sec s) 40) (.cells (sec seZ) 40)
 have HB:Hid (Below w.heap.size w ((w.alloc (.cells (sec s) 40)).alloc (.cells (sec seZ) 40))):=hid (((Below.refl _ _).alloc (Nat.le_refl _) _).alloc (by simp) _)
 have HK:=hid hs
 obtain ⟨S,HS⟩:∃ q:Array Value,Hid (sec s=q):=⟨_,hid rfl⟩
 obtain ⟨ZS,HZS⟩:∃ q:Array Value,Hid (sec seZ=q):=⟨_,hid rfl⟩
 have HB0:Hid (((w.alloc (.cells S 40)).alloc (.cells ZS 40)).heap[w.heap.size]?=some (.cells (sec s) 40 (0,0))):=hid (by rw [← HS.out,← HZS.out];exact hr0)
 have HB1:Hid (((w.alloc (.cells S 40)).alloc (.cells ZS 40)).heap[w.heap.size + 1]?=some (.cells (sec seZ) 40 (0,0))):=hid (by rw [← HS.out,← HZS.out];exact hr1)
 rw [HS.out,HZS.out] at hal HB
 rw [HS.out]
 clear hr0 hr1
 go_enter Tryz.func97,Tryz.ntmps97
 go_upto_region 1 with (fail)
 clear hal
 generalize ((w.alloc (.cells S 40)).alloc (.cells ZS 40))=wz at *
 have k0:=(BoxSe.cells (a:=s) HB0.out).1
 have f0:=BoxSe.free (a:=s) HB0.out 0
 have HC0:Hid ((wz.setCell ⟨w.heap.size,0,none⟩ (.int .i64 v)).heap[w.heap.size]?=some (.cells (sec { s with vi:=v }) 40 (0,0))):=hid (by rw [heap_setIn wz HB0.out,sec_vi])
 have k1:=(BoxSe.cells (a:={ s with vi:=v }) HC0.out).2.1
 have f1:=BoxSe.free (a:={ s with vi:=v }) HC0.out 1
 have HC1:Hid (((wz.setCell ⟨w.heap.size,0,none⟩ (.int .i64 v)).setCell ⟨w.heap.size,1,none⟩ (.int .i64 p)).heap[w.heap.size]?=some (.cells (sec ⟨v,p,s.pv,s.pa⟩) 40 (0,0))):=hid (by rw [heap_setIn _ HC0.out,sec_ph])
 have HD1:Hid (((wz.setCell ⟨w.heap.size,0,none⟩ (.int .i64 v)).setCell ⟨w.heap.size,1,none⟩ (.int .i64 p)).heap[w.heap.size + 1]?=some (.cells (sec seZ) 40 (0,0))):=hid ((Below.heap_setCell _ _ _ _ (by show w.heap.size + 1≠w.heap.size;omega)).trans ((Below.heap_setCell _ _ _ _ (by show w.heap.size + 1≠w.heap.size;omega)).trans HB1.out))
 have HE1:Hid (Below w.heap.size w ((wz.setCell ⟨w.heap.size,0,none⟩ (.int .i64 v)).setCell ⟨w.heap.size,1,none⟩ (.int .i64 p))):=hid ((HB.out.setCell (Nat.le_refl _) _).setCell (Nat.le_refl _) _)
 go_upto_region 2 with (fail)
 clear k0 k1 f0 f1
 generalize ((wz.setCell ⟨w.heap.size,0,none⟩ (.int .i64 v)).setCell ⟨w.heap.size,1,none⟩ (.int .i64 p))=w2 at *
 have hN:SeM.Ok ⟨v,p,s.pv,s.pa⟩:=HK.out
 have HNS:=hid (sec_size hN)
 have hl:=loadSe_row HC1.out HNS.out
 have hst:=storeSe_eq HD1.out (sec_size seZ_ok) HNS.out (sec_one ⟨v,p,s.pv,s.pa⟩)
 have HRW:=hid (setSe_same (C:=sec ⟨v,p,s.pv,s.pa⟩) HD1.out)
 have HBW:=hid (setSe_below (C:=sec ⟨v,p,s.pv,s.pa⟩) HE1.out (show w.heap.size≤w.heap.size + 1 by omega))
 clear hN
 obtain ⟨N,HN⟩:∃ q:Array Value,Hid (sec ⟨v,p,s.pv,s.pa⟩=q):=⟨_,hid rfl⟩
 rw [HN.out] at hl hst HRW HBW HNS
 go_wp2_with fail
 try simp only [Exit.inBlock,Exit.then]
 refine bodyPost_ret (results_ck1 rfl _ _ _ _ _ rfl HRW.out HNS.out) rfl ⟨?_,HBW.out⟩
 rw [← HN.out]
set_option maxHeartbeats 6400000 in
theorem ckStep_any (s nx:SeM) (a:AtM) (hs:s.Ok) (hn:nx.Ok) (ha:a.Ok) (w:World):Calls Tryz.prog 98 #[.agg (sec s),.agg (sec nx),.agg (atc a)] w (TlPost (stepQ s nx a) w):=by
 have HNO:=hid hn
 have HAO:=hid ha
 have HLT:Hid (∀ W,Calls Tryz.prog 144 #[.agg (sec s),.agg (sec nx)] W fun e w'=>e=.returned (.bool (lessS s nx))∧Below W.heap.size W w'):=hid (fun W=>seLess_ok s nx W hs hn)
 have HSSZ:=hid (And.intro (sec_size hs) (sec_size hn))
 obtain ⟨S,HS⟩:∃ q:Array Value,Hid (sec s=q):=⟨_,hid rfl⟩
 obtain ⟨N,HN⟩:∃ q:Array Value,Hid (sec nx=q):=⟨_,hid rfl⟩
 obtain ⟨A,HA⟩:∃ q:Array Value,Hid (atc a=q):=⟨_,hid rfl⟩
 rw [HS.out,HN.out] at HLT HSSZ
 rw [HS.out,HN.out,HA.out]
 clear hs hn ha
 obtain ⟨ZS,HZS⟩:∃ q:Array Value,Hid (sec seZ=q):=⟨_,hid rfl⟩
 obtain ⟨ZA,HZA⟩:∃ q:Array Value,Hid (atc atZ=q):=⟨_,hid rfl⟩
 have HZZ:Hid (ZS.size=35∧ZA.size=101):=hid (by rw [← HZS.out,← HZA.out];exact ⟨sec_size seZ_ok,atc_size atZ_ok⟩)
 have HBS:Hid (∀ W,buildSe W=.ok (.value (.agg ZS)) W):=hid (fun W=>by rw [← HZS.out];exact buildSe_eq W)
 have HBA:Hid (∀ W,buildAtt W=.ok (.value (.agg ZA)) W):=hid (fun W=>by rw [← HZA.out];exact buildAtt_eq W)
 have HLS:Hid (∀ W,allocSe W=.ok (.value (.pointer (some ⟨W.heap.size,0,none⟩))) (W.alloc (.cells ZS 40))):=hid (fun W=>by rw [← HZS.out];exact allocSe_eq W)
 have HLA:Hid (∀ W,allocAtt W=.ok (.value (.pointer (some ⟨W.heap.size,0,none⟩))) (W.alloc (.cells ZA 54))):=hid (fun W=>by rw [← HZA.out];exact allocAtt_eq W)
 have hal1:allocSe (((w.alloc (.cells S 40)).alloc (.cells N 40)).alloc (.cells A 54))=.ok (.value (.pointer (some ⟨w.heap.size + 3,0,none⟩))) ((((w.alloc (.cells S 40)).alloc (.cells N 40)).alloc (.cells A 54)).alloc (.cells ZS 40)):=by
  have:=HLS.out (((w.alloc (.cells S 40)).alloc (.cells N 40)).alloc (.cells A 54))
  rwa [show ((((w.alloc (.cells S 40)).alloc (.cells N 40)).alloc (.cells A 54))).heap.size=w.heap.size + 3 from by simp] at this
 have hal2:allocAtt ((((w.alloc (.cells S 40)).alloc (.cells N 40)).alloc (.cells A 54)).alloc (.cells ZS 40))=.ok (.value (.pointer (some ⟨w.heap.size + 4,0,none⟩))) (((((w.alloc (.cells S 40)).alloc (.cells N 40)).alloc (.cells A 54)).alloc (.cells ZS 40)).alloc (.cells ZA 54)):=by
  have:=HLA.out ((((w.alloc (.cells S 40)).alloc (.cells N 40)).alloc (.cells A 54)).alloc (.cells ZS 40))
  rwa [show (((((w.alloc (.cells S 40)).alloc (.cells N 40)).alloc (.cells A 54)).alloc (.cells ZS 40))).heap.size=w.heap.size + 4 from by simp] at this
 obtain ⟨hr0,hr1,hr2,hr3,hr4⟩:=rows_five w (.cells S 40) (.cells N 40) (.cells A 54) (.cells ZS 40) (.cells ZA 54)
 have HBZ:Hid (Below w.heap.size w (((((w.alloc (.cells S 40)).alloc (.cells N 40)).alloc (.cells A 54)).alloc (.cells ZS 40)).alloc (.cells ZA 54))):=hid ((((((Below.refl w.heap.size w).alloc (Nat.le_refl _) _).alloc (by simp;try omega) _).alloc (by simp;try omega) _).alloc (by simp;try omega) _).alloc (by simp;try omega) _)
 have HR:Hid (ResSt w (((((w.alloc (.cells S 40)).alloc (.cells N 40)).alloc (.cells A 54)).alloc (.cells ZS 40)).alloc (.cells ZA 54)) (w.heap.size + 3) (w.heap.size + 4) ZS ZA):=hid ⟨hr3,hr4,by omega,by omega,HBZ.out,HZZ.out.1,HZZ.out.2⟩
 have HR0:=hid (show (((((w.alloc (.cells S 40)).alloc (.cells N 40)).alloc (.cells A 54)).alloc (.cells ZS 40)).alloc (.cells ZA 54)).heap[w.heap.size]?=some (.cells S 40 (0,0)) from hr0)
 have HR1:=hid (show (((((w.alloc (.cells S 40)).alloc (.cells N 40)).alloc (.cells A 54)).alloc (.cells ZS 40)).alloc (.cells ZA 54)).heap[w.heap.size + 1]?=some (.cells N 40 (0,0)) from hr1)
 have HR2:=hid (show (((((w.alloc (.cells S 40)).alloc (.cells N 40)).alloc (.cells A 54)).alloc (.cells ZS 40)).alloc (.cells ZA 54)).heap[w.heap.size + 1 + 1]?=some (.cells A 54 (0,0)) from hr2)
 clear hr0 hr1 hr2 hr3 hr4
 go_enter Tryz.func98,Tryz.ntmps98
 go_upto_region 1 with (fail)
 clear hal1 hal2
 generalize (((((w.alloc (.cells S 40)).alloc (.cells N 40)).alloc (.cells A 54)).alloc (.cells ZS 40)).alloc (.cells ZA 54))=wz at *
 have l3:=loadSe_row HR0.out HSSZ.out.1
 have l4:=loadSe_row HR1.out HSSZ.out.2
 obtain ⟨q,HQ⟩:∃ q:Bool,Hid (lessS s nx=q):=⟨_,hid rfl⟩
 rw [HQ.out] at HLT
 go_wp2_with fail
 refine (HLT.out wz).mono ?_
 rintro e w1 ⟨rfl,hb1⟩
 have HR':=hid (HR.out.below hb1)
 have HN1:=hid ((hb1.block _ (lt_of_block HR1.out)).trans HR1.out)
 have HA1:=hid ((hb1.block _ (lt_of_block HR2.out)).trans HR2.out)
 clear hb1 l3 l4
 cases q with
 | false=>
  have HT:Hid (stepQ s nx a=noQ 11):=hid (by unfold stepQ;rw [HQ.out];rfl)
  go_wp2_with fail
  refine (ckFails_any 11 w1).mono ?_
  rintro e w2 ⟨rfl,hb2⟩
  unfold tldV
  obtain ⟨hst,hsa,hrs,hra,hbe,hzs,hza⟩:=(HR'.out.below hb2).fin (t:=noQ 11) (noQ_ok 11)
  have HRS:=hid hrs
  have HRA:=hid hra
  have HBE:=hid hbe
  have HSZ:=hid (And.intro hzs hza)
  clear hrs hra hbe hzs hza hb2
  obtain ⟨X,HX⟩:∃ q:Array Value,Hid (sec (noQ 11).s=q):=⟨_,hid rfl⟩
  obtain ⟨Y,HY⟩:∃ q:Array Value,Hid (atc (noQ 11).a=q):=⟨_,hid rfl⟩
  have he:(noQ 11).e=11:=rfl
  rw [HX.out] at hst hsa HRS HRA HBE HSZ
  rw [HY.out] at hsa HRS HRA HBE HSZ
  rw [HX.out,HY.out,he]
  clear he
  go_wp2_with fail
  try simp only [Exit.inBlock,Exit.then]
  refine bodyPost_ret (results_ck rfl _ _ _ _ _ _ _ _ _ rfl rfl rfl HRS.out HRA.out HSZ.out.1 HSZ.out.2) rfl ⟨?_,HBE.out⟩
  rw [HT.out,← HX.out,← HY.out]
  rfl
 | true=>
  have HT:Hid (stepQ s nx a=⟨nx,{ a with ki:=nx.ph,vi:=nx.vi,ph:=nx.ph },0⟩):=hid (by unfold stepQ;rw [HQ.out];rfl)
  go_upto_region 3 with (fail)
  have HNC:Hid (∀ W:World,W.heap[w.heap.size + 1]?=some (.cells N 40 (0,0))→W.cell? ⟨w.heap.size + 1,0,none⟩=some (.int .i64 nx.vi)∧W.cell? ⟨w.heap.size + 1,1,none⟩=some (.int .i64 nx.ph)):=hid (fun W h=>by
   rw [← HN.out] at h
   have:=BoxSe.cells (a:=nx) h
   exact ⟨this.1,this.2.1⟩)
  have HA1':Hid (w1.drew.heap[w.heap.size + 1 + 1]?=some (.cells (atc a) 54 (0,0))):=hid (by rw [HA.out];exact HA1.out)
  have HA2:Hid ((w1.drew.setCell ⟨w.heap.size + 1 + 1,1,none⟩ (.int .i64 nx.ph)).heap[w.heap.size + 1 + 1]?=some (.cells (atc { a with ki:=nx.ph }) 54 (0,0))):=hid (by rw [heap_setIn _ HA1'.out,atc_ki])
  have HA3:Hid (((w1.drew.setCell ⟨w.heap.size + 1 + 1,1,none⟩ (.int .i64 nx.ph)).setCell ⟨w.heap.size + 1 + 1,2,none⟩ (.int .i64 nx.vi)).heap[w.heap.size + 1 + 1]?=some (.cells (atc { a with ki:=nx.ph,vi:=nx.vi }) 54 (0,0))):=hid (by rw [heap_setIn _ HA2.out,atc_vi])
  have HA4:Hid ((((w1.drew.setCell ⟨w.heap.size + 1 + 1,1,none⟩ (.int .i64 nx.ph)).setCell ⟨w.heap.size + 1 + 1,2,none⟩ (.int .i64 nx.vi)).setCell ⟨w.heap.size + 1 + 1,3,none⟩ (.int .i64 nx.ph)).heap[w.heap.size + 1 + 1]?=some (.cells (atc { a with ki:=nx.ph,vi:=nx.vi,ph:=nx.ph }) 54 (0,0))):=hid (by rw [heap_setIn _ HA3.out,atc_ph])
  have HRD:=hid (HR'.out.below ((Below.refl w1.heap.size w1).drew))
  have HND:Hid (w1.drew.heap[w.heap.size + 1]?=some (.cells N 40 (0,0))):=HN1
  have HRN2:=hid (And.intro (HRD.out.cell (g:=w.heap.size + 1 + 1) (by omega) (by omega) (by omega) 1 (.int .i64 nx.ph)) ((Below.heap_setCell w1.drew ⟨w.heap.size + 1 + 1,1,none⟩ (.int .i64 nx.ph) _ (by show w.heap.size + 1≠w.heap.size + 1 + 1;omega)).trans HND.out))
  have HRN3:=hid (And.intro (HRN2.out.1.cell (g:=w.heap.size + 1 + 1) (by omega) (by omega) (by omega) 2 (.int .i64 nx.vi)) ((Below.heap_setCell _ ⟨w.heap.size + 1 + 1,2,none⟩ (.int .i64 nx.vi) _ (by show w.heap.size + 1≠w.heap.size + 1 + 1;omega)).trans HRN2.out.2))
  have HRN4:=hid (And.intro (HRN3.out.1.cell (g:=w.heap.size + 1 + 1) (by omega) (by omega) (by omega) 3 (.int .i64 nx.ph)) ((Below.heap_setCell _ ⟨w.heap.size + 1 + 1,3,none⟩ (.int .i64 nx.ph) _ (by show w.heap.size + 1≠w.heap.size + 1 + 1;omega)).trans HRN3.out.2))
  have k1:w1.cell? ⟨w.heap.size + 1 + 1,1,none⟩=some (.int .i64 a.ki):=(BoxA.cells (a:=a) HA1'.out).2.1
  have f1:w1.frozen? ⟨w.heap.size + 1 + 1,1,none⟩=false:=BoxA.free (a:=a) HA1'.out 1
  have k2:(w1.setCell ⟨w.heap.size + 1 + 1,1,none⟩ (.int .i64 nx.ph)).cell? ⟨w.heap.size + 1 + 1,2,none⟩=some (.int .i64 a.vi):=(BoxA.cells (a:={ a with ki:=nx.ph }) HA2.out).2.2.1
  have f2:(w1.setCell ⟨w.heap.size + 1 + 1,1,none⟩ (.int .i64 nx.ph)).frozen? ⟨w.heap.size + 1 + 1,2,none⟩=false:=BoxA.free (a:={ a with ki:=nx.ph }) HA2.out 2
  have k3:((w1.setCell ⟨w.heap.size + 1 + 1,1,none⟩ (.int .i64 nx.ph)).setCell ⟨w.heap.size + 1 + 1,2,none⟩ (.int .i64 nx.vi)).cell? ⟨w.heap.size + 1 + 1,3,none⟩=some (.int .i64 a.ph):=(BoxA.cells (a:={ a with ki:=nx.ph,vi:=nx.vi }) HA3.out).2.2.2
  have f3:((w1.setCell ⟨w.heap.size + 1 + 1,1,none⟩ (.int .i64 nx.ph)).setCell ⟨w.heap.size + 1 + 1,2,none⟩ (.int .i64 nx.vi)).frozen? ⟨w.heap.size + 1 + 1,3,none⟩=false:=BoxA.free (a:={ a with ki:=nx.ph,vi:=nx.vi }) HA3.out 3
  refine wp_region_held_drew (S:=fun W=>W.cell? ⟨w.heap.size + 1,0,none⟩=some (.int .i64 nx.vi)∧W.cell? ⟨w.heap.size + 1,1,none⟩=some (.int .i64 nx.ph)) (by kernel_rfl) (HNC.out _ HND.out) (fun hHeld=>?_)
  refine' tkq 0 rfl ?_;try simp only [lay]
  refine' tkq2 1 rfl ?_;try simp only [lay]
  refine' tkq 2 rfl ?_;try simp only [lay]
  refine' tkq2 3 rfl ?_;try simp only [lay]
  refine' tkq 4 rfl ?_;try simp only [lay]
  refine' tkq2 5 rfl ?_;try simp only [lay]
  refine' tkq 6 rfl ?_;try simp only [lay]
  refine call_on (i:=7) rfl (by kernel_rfl) (by rfl) (fun K hK=>?_)
  go_simp
  refine hK.out _ _ (HNC.out _ HRN2.out.2) (fun hHeld=>?_)
  clear hK K
  try simp only [lay]
  refine' tkq 8 rfl ?_;try simp only [lay]
  refine call_on (i:=9) rfl (by kernel_rfl) (by rfl) (fun K hK=>?_)
  go_simp
  refine hK.out _ _ (HNC.out _ HRN3.out.2) (fun hHeld=>?_)
  clear hK K
  try simp only [lay]
  refine' tkq 10 rfl ?_;try simp only [lay]
  refine call_on (i:=11) rfl (by kernel_rfl) (by rfl) (fun K hK=>?_)
  go_simp
  refine hK.out _ _ (HNC.out _ HRN4.out.2) (fun hHeld=>?_)
  clear hK K
  try simp only [lay]
  refine wpAnyH_done (by kernel_rfl) ?_ _
  clear hHeld k1 k2 k3 f1 f2 f3
  go_upto_region 4 with (fail)
  have HR4a:=hid (show ResSt w (((w1.setCell ⟨w.heap.size + 1 + 1,1,none⟩ (.int .i64 nx.ph)).setCell ⟨w.heap.size + 1 + 1,2,none⟩ (.int .i64 nx.vi)).setCell ⟨w.heap.size + 1 + 1,3,none⟩ (.int .i64 nx.ph)).drew (w.heap.size + 3) (w.heap.size + 4) ZS ZA from HRN4.out.1)
  have HB4a:=hid (show (((w1.setCell ⟨w.heap.size + 1 + 1,1,none⟩ (.int .i64 nx.ph)).setCell ⟨w.heap.size + 1 + 1,2,none⟩ (.int .i64 nx.vi)).setCell ⟨w.heap.size + 1 + 1,3,none⟩ (.int .i64 nx.ph)).drew.heap[w.heap.size + 1 + 1]?=some (.cells (atc { a with ki:=nx.ph,vi:=nx.vi,ph:=nx.ph }) 54 (0,0)) from HA4.out)
  have HN4a:=hid (show (((w1.setCell ⟨w.heap.size + 1 + 1,1,none⟩ (.int .i64 nx.ph)).setCell ⟨w.heap.size + 1 + 1,2,none⟩ (.int .i64 nx.vi)).setCell ⟨w.heap.size + 1 + 1,3,none⟩ (.int .i64 nx.ph)).drew.heap[w.heap.size + 1]?=some (.cells N 40 (0,0)) from HRN4.out.2)
  clear HRN4 HRN3 HRN2 HA4 HA3 HA2 HA1' HRD HND
  generalize (((w1.setCell ⟨w.heap.size + 1 + 1,1,none⟩ (.int .i64 nx.ph)).setCell ⟨w.heap.size + 1 + 1,2,none⟩ (.int .i64 nx.vi)).setCell ⟨w.heap.size + 1 + 1,3,none⟩ (.int .i64 nx.ph)).drew=w4 at *
  have HR4:=hid (HR4a.out.below ((Below.refl w4.heap.size w4).drew))
  have HB4:Hid (w4.drew.heap[w.heap.size + 1 + 1]?=some (.cells (atc { a with ki:=nx.ph,vi:=nx.vi,ph:=nx.ph }) 54 (0,0))):=HB4a
  have HN4:Hid (w4.drew.heap[w.heap.size + 1]?=some (.cells N 40 (0,0))):=HN4a
  have HTO:TldM.Ok ⟨nx,{ a with ki:=nx.ph,vi:=nx.vi,ph:=nx.ph },0⟩:=⟨HNO.out,⟨HAO.out.ha,HAO.out.pa,HAO.out.tg⟩⟩
  have HAZ:=hid (atc_size (a:={ a with ki:=nx.ph,vi:=nx.vi,ph:=nx.ph }) HTO.a)
  obtain ⟨hst,hsa,hrs,hra,hbe,hzs,hza⟩:=HR4.out.fin (t:=⟨nx,{ a with ki:=nx.ph,vi:=nx.vi,ph:=nx.ph },0⟩) HTO
  obtain ⟨Y,HY⟩:∃ q:Array Value,Hid (atc { a with ki:=nx.ph,vi:=nx.vi,ph:=nx.ph }=q):=⟨_,hid rfl⟩
  simp only at hst hsa hrs hra hbe hzs hza
  rw [HY.out] at hsa hrs hra hbe hza HB4 HAZ
  rw [HN.out] at hst hsa hrs hra hbe hzs
  have HLD:Hid (∀ W,Tws (w.heap.size + 3) (w.heap.size + 4) w4.drew W→loadSe (.pointer (some ⟨w.heap.size + 1,0,none⟩)) W=.ok (.value (.agg N)) W∧loadAtt (.pointer (some ⟨w.heap.size + 1 + 1,0,none⟩)) W=.ok (.value (.agg Y)) W):=hid (fun W t=>⟨loadSe_row ((t.block _ (lt_of_block HN4.out) (by omega) (by omega)).trans HN4.out) HSSZ.out.2,loadAtt_row ((t.block _ (lt_of_block HB4.out) (by omega) (by omega)).trans HB4.out) HAZ.out⟩)
  have HRS:=hid hrs
  have HRA:=hid hra
  have HBE:=hid hbe
  have HSZ:=hid (And.intro hzs hza)
  clear hrs hra hbe hzs hza HTO
  refine wp_region_held_drew (S:=fun W=>loadSe (.pointer (some ⟨w.heap.size + 1,0,none⟩)) W=.ok (.value (.agg N)) W∧loadAtt (.pointer (some ⟨w.heap.size + 1 + 1,0,none⟩)) W=.ok (.value (.agg Y)) W) (by kernel_rfl) (HLD.out _ (Tws.refl _ _ _)) (fun hHeld=>?_)
  refine' tk (i:=0) (v:=_) rfl (fun W hW=>hW.1) ?_
  try simp only [lay]
  refine' tk (i:=1) (v:=_) rfl (fun W hW=>hW.2) ?_
  try simp only [lay]
  refine call_on (i:=2) rfl (by kernel_rfl) (by rfl) (fun K hK=>?_)
  go_simp
  refine hK.out _ _ (HLD.out _ ((Tws.refl _ _ _).setS N)) (fun hHeld=>?_)
  clear hK K
  try simp only [lay]
  refine call_on (i:=3) rfl (by kernel_rfl) (by rfl) (fun K hK=>?_)
  go_simp
  refine hK.out _ _ (HLD.out _ (((Tws.refl _ _ _).setS N).setY Y)) (fun hHeld=>?_)
  clear hK K
  try simp only [lay]
  refine' tkq 4 rfl ?_;try simp only [lay]
  refine wpAnyH_done (by kernel_rfl) ?_ _
  clear hHeld hst hsa
  go_wp2_with fail
  try simp only [Exit.inBlock,Exit.then]
  refine bodyPost_ret (results_ck rfl _ _ _ _ _ _ _ _ _ rfl rfl rfl HRS.out HRA.out HSZ.out.1 HSZ.out.2) rfl ⟨?_,HBE.out⟩
  rw [HT.out,← HN.out,← HY.out]
  rfl
end Go.Proofs.YtpdnnmabijmfbaaGreatDoor
