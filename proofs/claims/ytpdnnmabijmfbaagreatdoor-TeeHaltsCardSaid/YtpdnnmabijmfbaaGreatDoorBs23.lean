/-
  SeCodeGet AcMay AcOk AcCodeCounts AcSame: what each of them says stands at its head.
-/
import Derived.Test.YtpdnnmabijmfbaaGreatDoorBs21
import Derived.Test.YtpdnnmabijmfbaaGreatDoorBs19
namespace Go.Proofs.YtpdnnmabijmfbaaGreatDoor
set_option maxRecDepth 20000
open Go.RowKit
attribute [local go_sem ↓] exec_load_se exec_alloc_se exec_store_se exec_build_se exec_load_hash
set_option maxHeartbeats 6400000 in
theorem seGet_ok:SeGetOk:=by
 intro i v l w _ hv hl hK
 have HKB:=hid (fun W (h:Below w.heap.size w W)=>(show Kst 1 W from hK.below h))
 obtain ⟨Z,HZ⟩:∃ C:Array Value,Hid (sec seZ=C):=⟨_,hid rfl⟩
 have HBZ:Hid (∀ W,buildSe W=.ok (.value (.agg Z)) W):=hid (fun W=>by rw [← HZ.out];exact buildSe_eq W)
 have hal:∀ W,allocSe W=.ok (.value (.pointer (some ⟨W.heap.size,0,none⟩))) (W.alloc (.cells Z 40)):=fun W=>by rw [← HZ.out];exact allocSe_eq W
 have HSZ:Hid (Z.size=35):=hid (by rw [← HZ.out];exact sec_size seZ_ok)
 have HZ1:Hid (Z.all (·.oneCell')=true):=hid (by rw [← HZ.out];exact sec_one _)
 have hz0:=heap_alloc_new w (.cells Z 40)
 have hb0:Below w.heap.size w (w.alloc (.cells Z 40)):=(Below.refl _ _).alloc (Nat.le_refl _) _
 have hv0:=hv.below hb0
 have HAL:=hid hal
 have HLE:=hid hl
 clear hv hK hl
 go_enter Tryz.func68,Tryz.ntmps68
 go_upto_region 1 with (fail)
 generalize (w.alloc (.cells Z 40))=w0 at *
 have HB0:=hid hb0
 have HZW:Hid (∀ W,Below w0.heap.size w0 W→W.heap[w.heap.size]?=some (.cells Z 40 (0,0))):=hid (fun W h=>(h.block _ (lt_of_block hz0)).trans hz0)
 have HZS:Hid (∀ W,Below w0.heap.size w0 W→storeSe (.pointer (some ⟨w.heap.size,0,none⟩)) (.agg Z) W=.ok .skip W):=hid (fun W h=>by
  have hg:=HZW.out W h
  rw [storeSe_eq hg HSZ.out HSZ.out HZ1.out,setSe_self hg])
 have HLZ:=hid (lt_of_block hz0)
 clear hal hz0 hb0
 go_wp2_with fail
 refine (read_any v l w0 hv0 (by have:=HLE.out;omega)).mono ?_
 rintro e w1 ⟨g,rfl,hgl,hrd1,hb1⟩
 obtain ⟨a1,p1,r1,HA1⟩:∃ x q s,Hid (rdUpto 1099511627776 l 0 true=(x,q,s)):=⟨_,_,_,hid rfl⟩
 have hm1:a1≤1099511627776:=by have:=rdUpto_le (m:=1099511627776) (l:=l) (p:=0) (r:=true);rw [show ((1099511627776:Nat):Int)=1099511627776 from rfl,HA1.out] at this;exact this
 have HM1:=hid hm1
 clear hv0 hm1
 go_wp2_with fail
 have C:=upto_any g l 0 true 1099511627776 w1 hrd1 (by have:=HLE.out;omega) (by omega) (by omega)
 rw [HA1.out] at C
 refine C.mono ?_
 clear C
 rintro e w2 ⟨rfl,hrd2,hg2⟩
 have hb2:Below w0.heap.size w0 w2:=hb1.grown hg2 hb1.size (fun k hk=>by injection hk with hk;omega)
 obtain ⟨a,p2,r2,HA2⟩:∃ x q s,Hid (readS l p1 r1=(x,q,s)):=⟨_,_,_,hid rfl⟩
 have HOK:Hid a.Ok:=hid (by have:=readS_ok l p1 r1;rw [HA2.out] at this;exact this)
 clear hrd1 hb1 hg2
 simp only
 go_wp2_with fail
 have C:=seread_any g l p1 r1 w2 hrd2 HLE.out
 rw [HA2.out] at C
 refine C.mono ?_
 clear C
 rintro e w3 ⟨rfl,hrd3,hg3⟩
 simp only at hrd3
 have hb3:Below w0.heap.size w0 w3:=hb2.grown hg3 hb2.size (fun k hk=>by injection hk with hk;omega)
 obtain ⟨CA,HCA⟩:∃ C:Array Value,Hid (sec a=C):=⟨_,hid rfl⟩
 have HCS:Hid (CA.size=35∧CA.all (·.oneCell')=true):=hid (by rw [← HCA.out];exact ⟨sec_size HOK.out,sec_one _⟩)
 simp only
 rw [HCA.out]
 have hal:=HAL.out
 have hs3:=se_var w3 HSZ.out HCS.out.1 HCS.out.2
 have hr3:=heap_alloc_new w3 (.cells CA 40)
 have hb34:Below w3.heap.size w3 (w3.alloc (.cells CA 40)):=(Below.refl _ _).alloc (Nat.le_refl _) _
 have hb4:=hb3.trans (hb34.mono hb3.size)
 have hrd4:=hrd3.below hb34
 have hgs:w3.heap.size≠g:=fun e=>by have:=hrd3.lt;omega
 have hB3:=hb3
 clear hrd2 hg3 hb2 hb3 hb34 hrd3
 go_upto_region 4 with (fail)
 generalize w3.alloc (.cells CA 40)=w4 at *
 clear hal hs3
 obtain ⟨t,p3,r3,HA3⟩:∃ x q s,Hid (rdHash l p2 r2=(x,q,s)):=⟨_,_,_,hid rfl⟩
 have HTL:Hid (t.length=32):=hid (by have:=rdHash_32 l p2 r2;rw [HA3.out] at this;exact this)
 go_wp2_with fail
 have C:=rhash_any g l p2 r2 w4 hrd4 (by have:=HLE.out;omega)
 rw [HA3.out] at C
 refine C.mono ?_
 clear C
 rintro e w5 ⟨rfl,hrd5,hg5⟩
 simp only at hrd5
 have hr5:=(hg5.block _ (lt_of_block hr3) (fun e=>by injection e with e;exact hgs e)).trans hr3
 have hb5:Below w0.heap.size w0 w5:=hb4.grown hg5 hb4.size (fun k hk=>by injection hk with hk;omega)
 have hrt:=heap_alloc_new w5 (.cells (hcells nought) 38)
 obtain ⟨TC,HTC⟩:∃ x:Array Value,Hid (hcells t=x):=⟨_,hid rfl⟩
 simp only
 rw [HTC.out]
 clear hrd4 hg5 hb4 hr3
 go_upto_region 5 with (first
  | (refine wpList_alloc_hash rfl rfl ?_)
  | (refine wpList_store_hash (h':=t) rfl _ _ rfl rfl (by rw [HTC.out];rfl) hrt nought_length HTL.out ?_;intro w7 hg7 hr7 hs7;have hb57:Below w5.heap.size w5 w7:=below_into ((Below.refl _ _).alloc (Nat.le_refl _) _) (Nat.le_refl _) hg7 (al_le _ _);clear hg7 hs7))
 have hb7:=hb5.trans (hb57.mono hb5.size)
 have hrd7:=hrd5.below hb57
 have hr8:=(hb57.block _ (lt_of_block hr5)).trans hr5
 have HLD:Hid (∀ W,Below w7.heap.size w7 W→loadSe (.pointer (some ⟨w3.heap.size,0,none⟩)) W=.ok (.value (.agg CA)) W∧loadH (.pointer (some ⟨w5.heap.size,0,none⟩)) W=.ok (.value (.agg TC)) W):=hid (fun W h=>by
  refine ⟨loadSe_row ((h.block _ (lt_of_block hr8)).trans hr8) HCS.out.1,?_⟩
  rw [← HTC.out]
  have hr9:=(h.block _ (lt_of_block hr7.out)).trans hr7.out
  exact loadH_mid (fun j u hu=>by rw [Nat.zero_add,cell_blk hr9 j];simpa [hcells] using hu) HTL.out)
 have HSB:Hid (∀ W,Below w7.heap.size w7 W→W.heap[w3.heap.size]?=some (.cells CA 40 (0,0))):=hid (fun W h=>(h.block _ (lt_of_block hr8)).trans hr8)
 have HNE:Hid (w3.heap.size≠w.heap.size):=hid (fun e=>by have:=hB3.size;have:=HLZ.out;omega)
 have HBW:Hid (∀ W,Below w7.heap.size w7 W→Below w0.heap.size w0 W):=hid (fun W h=>hb7.trans (h.mono hb7.size))
 have HRAW:Hid (rawB l=((a1:Int),a,t,p3,r3)):=hid (by rw [rawB_read];simp only [HA1.out,HA2.out,HA3.out])
 obtain ⟨gs,HGS⟩:∃ k:Nat,Hid (w3.heap.size=k):=⟨_,hid rfl⟩
 obtain ⟨gt,HGT⟩:∃ k:Nat,Hid (w5.heap.size=k):=⟨_,hid rfl⟩
 rw [HGS.out,HGT.out] at HLD
 rw [HGS.out] at HSB HNE
 rw [HGS.out,HGT.out]
 clear hB3 hrd5 hb5 hb57 hb7 hr5 hr8 hrt hr7 hgs hgl HA1 HA2 HA3 HGS HGT
 obtain ⟨q,HQ⟩:∃ d:Bool,Hid ((r3 && decide (p3=l.length))=d):=⟨_,hid rfl⟩
 obtain ⟨vs,HVS⟩:∃ d:Bool,Hid (versB (a1:Int)=d):=⟨_,hid rfl⟩
 obtain ⟨m,HM⟩:∃ d:Bool,Hid (mayS a=d):=⟨_,hid rfl⟩
 have HTX:Hid (textB l=(q && (vs && m))):=hid (by
  rw [textB_raw HRAW.out,HQ.out,HM.out,← HVS.out]
  unfold versB
  have:=HM1.out
  congr 2
  simp
  omega)
 have HCK:Hid (∀ W,Calls Tryz.prog 86 #[.agg CA] W fun e w'=>e=.returned (.int .i64 (if m=true then 0 else 1))∧Below W.heap.size W w'):=hid (fun W=>by
  have:=seCheck_ok a W HOK.out
  rw [HM.out,HCA.out] at this
  exact this)
 go_wp2_with fail
 have C:=done_any g l p3 r3 w7 hrd7 (by have:=HLE.out;omega)
 rw [HQ.out] at C
 refine C.mono ?_
 clear C
 rintro e w8 ⟨rfl,n8,hw8⟩
 have hb8:Below w7.heap.size w7 w8:=by rw [hw8];exact below_drewN (Below.refl _ _) n8
 clear hw8 hrd7
 cases q with
 | false=>
  have hbz:=HBZ.out
  have hsf:=HZS.out w8 (HBW.out _ hb8)
  have HF:=hid (HZW.out w8 (HBW.out _ hb8))
  go_wp2_with fail
  refine bodyPost_ret (results_se rfl _ _ _ _ _ _ _ rfl rfl rfl HF.out HSZ.out) rfl ⟨?_,HB0.out.trans ((HBW.out _ hb8).mono HB0.out.size)⟩
  rw [getB_text (by rw [HTX.out];rfl),← HZ.out]
  all_goals rfl
 | true=>
  go_wp2_with fail
  refine (seVers_any (a1:Int) w8).mono ?_
  rintro e w9 ⟨rfl,rfl⟩
  rw [HVS.out]
  cases vs with
  | false=>
   have hbz:=HBZ.out
   have hsf:=HZS.out w8 (HBW.out _ hb8)
   have HF:=hid (HZW.out w8 (HBW.out _ hb8))
   go_wp2_with fail
   refine bodyPost_ret (results_se rfl _ _ _ _ _ _ _ rfl rfl rfl HF.out HSZ.out) rfl ⟨?_,HB0.out.trans ((HBW.out _ hb8).mono HB0.out.size)⟩
   rw [getB_text (by rw [HTX.out];rfl),← HZ.out]
   all_goals rfl
  | true=>
   have l8:=(HLD.out w8 hb8).1
   go_wp2_with fail
   refine (HCK.out w8).mono ?_
   rintro e w9 ⟨rfl,hb9'⟩
   have hb9:=hb8.trans (hb9'.mono hb8.size)
   clear l8 hb9' hb8
   cases m with
   | false=>
    simp only [Bool.false_eq_true,if_false]
    have hbz:=HBZ.out
    have hsf:=HZS.out w9 (HBW.out _ hb9)
    have HF:=hid (HZW.out w9 (HBW.out _ hb9))
    go_wp2_with fail
    refine bodyPost_ret (results_se rfl _ _ _ _ _ _ _ rfl rfl rfl HF.out HSZ.out) rfl ⟨?_,HB0.out.trans ((HBW.out _ hb9).mono HB0.out.size)⟩
    rw [getB_text (by rw [HTX.out];rfl),← HZ.out]
    all_goals rfl
   | true=>
    simp only [if_true]
    go_upto_region 7 with (fail)
    have hbd:Below w7.heap.size w7 w9.drew:=hb9.drew
    obtain ⟨L,HL⟩:∃ x:List UInt8,Hid (taggedS (a1:Int) a=x):=⟨_,hid rfl⟩
    have HLL:Hid (L.length≤72):=hid (by rw [← HL.out];exact taggedS_len HOK.out HVS.out HM.out)
    have HTD:Hid (∀ W,Calls Tryz.prog 112 #[.int .i64 (a1:Int),.agg CA] W fun e w'=>∃ x,e=.returned x∧Own W.heap.size w' x L∧Below W.heap.size W w'):=hid (fun W=>by
     have:=setagged_any (a1:Int) a W HOK.out HVS.out HM.out
     rw [HL.out,HCA.out] at this
     exact this)
    obtain ⟨d,HD⟩:∃ d:Bool,Hid ((nodeB i && decide (t=hl 32 (tagF i 3 L)))=d):=⟨_,hid rfl⟩
    have HKC:Hid (∀ v gp c W,Below w.heap.size w W→gp < W.heap.size→W.cell? ⟨gp,0,none⟩=some v→Byt W v L→Calls Tryz.prog 111 #[.int .i64 i,.int .u8 3,.agg TC,.slice (some ⟨gp,0,none⟩) 1 c] W fun e w'=>e=.returned (.bool d)∧Below W.heap.size W w'):=hid (fun v gp c W hb h1 h2 h3=>by
     have:=check_hash i 3 t HTL.out v L gp c W h1 h2 h3 (by have:=HLL.out;omega) (HKB.out W hb)
     rw [HD.out,HTC.out] at this
     exact this)
    refine wp_region_held_drew (S:=fun W=>loadSe (.pointer (some ⟨gs,0,none⟩)) W=.ok (.value (.agg CA)) W∧loadH (.pointer (some ⟨gt,0,none⟩)) W=.ok (.value (.agg TC)) W) (by kernel_rfl) (HLD.out _ hbd) (fun hHeld=>?_)
    refine' tkq 0 rfl ?_;try simp only [lay]
    refine' tk (i:=1) (v:=_) rfl (fun W hW=>hW.2) ?_
    try simp only [lay]
    refine' tkq 2 rfl ?_;try simp only [lay]
    refine' tk (i:=3) (v:=_) rfl (fun W hW=>hW.1) ?_
    try simp only [lay]
    refine call_on (i:=4) rfl (by kernel_rfl) (by rfl) (fun K hK=>?_)
    go_simp
    refine (HTD.out _).mono ?_
    rintro e w10 ⟨v10,rfl,ho10,hb10'⟩
    have hb10:=hbd.trans (hb10'.mono hbd.size)
    have hv10:=ho10.byt
    obtain ⟨A3,c3,rfl⟩:=hv10.shape
    refine hK.out _ _ (HLD.out _ hb10) (fun hHeld=>?_)
    clear hK K
    try simp only [lay]
    have hb11:Below w7.heap.size w7 (w10.alloc (.cells #[.slice A3 L.length c3] 33)):=hb10.alloc hb10.size _
    refine call_on (i:=5) rfl (by kernel_rfl) (by rfl) (fun K hK=>?_)
    go_simp
    refine hK.out _ _ (HLD.out _ hb11) (fun hHeld=>?_)
    clear hK K
    try simp only [lay]
    refine call_on (i:=6) rfl (by kernel_rfl) (by rfl) (fun K hK=>?_)
    go_simp
    refine (HKC.out (.slice A3 L.length c3) w10.heap.size 1 (w10.alloc (.cells #[.slice A3 L.length c3] 33)) (HB0.out.trans ((HBW.out _ hb11).mono HB0.out.size)) (by simp) (alloc_cell0 _ _ _) (hv10.alloc _)).mono ?_
    rintro e w12 ⟨rfl,hb12'⟩
    have hb12:=hb11.trans (hb12'.mono hb11.size)
    refine hK.out _ _ (HLD.out _ hb12) (fun hHeld=>?_)
    clear hK K
    try simp only [lay]
    refine' tkq 7 rfl ?_;try simp only [lay]
    refine wpAnyH_done (by kernel_rfl) ?_ _
    clear hHeld hbd hb9 ho10 hb10 hb10' hv10 hb11 hb12'
    have HDT:Hid ((nodeB i=true∧(rawB l).2.2.1=tagS i (rawB l).1 (rawB l).2.1) ↔ d=true):=hid (by
     rw [HRAW.out,← HD.out]
     unfold tagS
     simp only [HL.out,Bool.and_eq_true,decide_eq_true_eq])
    cases d with
    | false=>
     have hbz:=HBZ.out
     have hsf:=HZS.out w12 (HBW.out _ hb12)
     have HF:=hid (HZW.out w12 (HBW.out _ hb12))
     go_wp2_with fail
     refine bodyPost_ret (results_se rfl _ _ _ _ _ _ _ rfl rfl rfl HF.out HSZ.out) rfl ⟨?_,HB0.out.trans ((HBW.out _ hb12).mono HB0.out.size)⟩
     rw [getB_tag (by rw [HTX.out];rfl) (by rw [HDT.out];decide),← HZ.out]
     all_goals rfl
    | true=>
     have HDY:=hid (HDT.out.2 rfl)
     go_upto_region 9 with (fail)
     have HZ9:=hid (HZW.out w12 (HBW.out _ hb12))
     have HB12:=hid (HBW.out _ hb12)
     have hbe:Below w7.heap.size w7 w12.drew:=hb12.drew
     have HLT:=hid (lt_of_block HZ9.out)
     have HGS:Hid (gs≠w.heap.size):=HNE
     refine wp_region_held_drew (S:=fun W=>loadSe (.pointer (some ⟨gs,0,none⟩)) W=.ok (.value (.agg CA)) W) (by kernel_rfl) (HLD.out _ hbe).1 (fun hHeld=>?_)
     refine' tkq 0 rfl ?_;try simp only [lay]
     refine' tk (i:=1) (v:=_) rfl (fun W hW=>hW) ?_
     try simp only [lay]
     refine' tkq 2 rfl ?_;try simp only [lay]
     refine call_on (i:=3) rfl (by kernel_rfl) (by rfl) (fun K hK=>?_)
     refine wp_store_se (w:=w12.drew) (C:=CA) _ _ rfl rfl rfl HZ9.out HCS.out.1 HSZ.out HCS.out.2 ?_
     intro wa hga hra hsa
     have hBB:Below w.heap.size w wa:=below_into (HB0.out.trans (HB12.out.drew.mono HB0.out.size)) (Nat.le_refl _) hga (by show _≤w12.heap.size;have:=HLT.out;omega)
     have hrs:wa.heap[gs]?=some (.cells CA 40 (0,0)):=(hga.block _ (lt_of_block (HSB.out w12 hb12)) (fun e=>by injection e with e;exact HGS.out e)).trans (HSB.out w12 hb12)
     refine hK.out _ _ (loadSe_row hrs HCS.out.1) (fun hHeld=>?_)
     clear hK K
     try simp only [lay]
     refine' tkq 4 rfl ?_;try simp only [lay]
     refine wpAnyH_done (by kernel_rfl) ?_ _
     clear hHeld
     go_wp2_with fail
     refine bodyPost_ret (results_se rfl _ _ _ _ _ _ _ rfl rfl rfl hra HCS.out.1) rfl ⟨?_,hBB⟩
     rw [getB_yes (by rw [HTX.out];rfl) HDY.out,HRAW.out,HCA.out]
     all_goals rfl
end Go.Proofs.YtpdnnmabijmfbaaGreatDoor
namespace Go.Proofs.YtpdnnmabijmfbaaGreatDoor
set_option maxRecDepth 20000
open Go.RowKit
set_option maxHeartbeats 3200000 in
theorem refMay10_any (v:Value) (a:AcM) (w:World) (hv:AcV w v a):
  Calls Tryz.prog 168 #[v] w fun e w'=>e=.returned (.bool (mayX a))∧Below w.heap.size w w':=by
 obtain ⟨s,rfl,ho,he⟩:=hv
 obtain ⟨A,c,rfl⟩:=he.shape
 obtain ⟨l,HFR⟩:∃ l:List Int,Hid (a.fr=l):=⟨_,hid rfl⟩
 rw [HFR.out] at he ⊢
 obtain ⟨L,HL⟩:∃ n:Nat,Hid (l.length=n):=⟨_,hid rfl⟩
 obtain ⟨ans,HAN⟩:∃ q:Bool,Hid (risesI 21 0 l=q):=⟨_,hid rfl⟩
 obtain ⟨m,HMX⟩:∃ q:Bool,Hid (mayX a=q):=⟨_,hid rfl⟩
 have HMA:Hid (m=(ans && decide (1≤a.bo∧a.bo≤21∧1≤a.vi∧a.vi≤1099511627776∧0≤a.pv∧a.pv < a.vi∧1≤L))):=hid (by rw [← HMX.out,← HAN.out,← HL.out,← HFR.out];rfl)
 have hb0:Below w.heap.size w (w.alloc (.cells (axc a (.slice A l.length c)) 52)):=(Below.refl _ _).alloc (Nat.le_refl _) _
 have hX:=BoxX.new w a (.slice A l.length c)
 have hlen:=he.len
 unfold maxLen at hlen
 have hc1:=he.at_.2.1
 have hc2:=he.at_.2.2.1
 have HV:=hid (fun W (h:Below w.heap.size w W)=>he.below h)
 rw [HL.out] at hlen hc1 hX hb0 HV ⊢
 rw [HMX.out]
 unfold maxLen at hc2
 obtain ⟨C,HC⟩:∃ C:Array Value,Hid (axc a (.slice A L c)=C):=⟨_,hid rfl⟩
 rw [HC.out] at hX hb0 ⊢
 clear he
 go_enter Tryz.func168,Tryz.ntmps168
 go_upto_region 1 with (fail)
 generalize (w.alloc (.cells C 52))=w0 at *
 have hl0:=hX.lt
 have HB0:=hid hb0
 have HX:Hid (∀ W,Below w0.heap.size w0 W→W.cell? ⟨w.heap.size,35,none⟩=some (.slice A L c)∧W.cell? ⟨w.heap.size,0,none⟩=some (.int .i64 a.bo)∧W.cell? ⟨w.heap.size,1,none⟩=some (.int .i64 a.vi)∧W.cell? ⟨w.heap.size,2,none⟩=some (.int .i64 a.pv)):=hid (fun W h=>by
  have:=hX.below h hl0
  exact ⟨this.fr ho,this.ints⟩)
 clear hX hl0 hb0 HC ho
 go_wp2_with fail
 go_loopw [3] (fun si wr=>∃ (i:Nat) (last:Int),i≤L∧si=.int .i64 i∧0≤last∧Hid (ans=risesI 21 last (l.drop i))∧((i=0∧last=0)∨(∃ k,i=k + 1∧∃ h:k < l.length,l[k]=last))∧Below w0.heap.size w0 wr) (fun si _=>L - (intOf si).toNat)
 case atStart=>exact ⟨0,0,Nat.zero_le _,rfl,Int.le_refl _,hid (by rw [List.drop_zero];exact HAN.out.symm),.inl ⟨rfl,rfl⟩,Below.refl _ _⟩
 case round=>
  obtain ⟨i,last,hi,rfl,hlast,HR,hpre,hbr⟩:=hrel
  have hBR:=HB0.out.trans (hbr.mono HB0.out.size)
  by_cases hlt:i < L
  ·have hil:i < l.length:=by rw [HL.out];exact hlt
   obtain ⟨g,o,rfl,hg,hcl⟩:=(HV.out wr hBR).at_.2.2.2 (by omega)
   have HST:Hid (ans=((decide (last < l[i]) && decide (l[i]≤21)) && risesI 21 l[i] (l.drop (i + 1)))):=hid (by
    rw [HR.out,List.drop_eq_getElem_cons hil]
    rfl)
   obtain ⟨b,HBB⟩:∃ b:Int,Hid (l[i]=b):=⟨_,hid rfl⟩
   have K:∀ k (h:k < l.length),wr.drew.cell? ⟨g,o + k,none⟩=some (.int .i64 l[k]):=fun k h=>by
    have:=hcl k h 0 _ rfl
    rwa [Nat.mul_one,Nat.add_zero] at this
   have hc:wr.drew.cell? ⟨g,o + i,none⟩=some (.int .i64 b):=by rw [← HBB.out];exact K i hil
   have k4:=(HX.out wr hbr).1
   have k4d:=(HX.out wr.drew hbr.drew).1
   rw [HBB.out] at HST
   have hI:(i:Int) < (L:Int):=by omega
   have hbd:=hBR.drew
   have hbw:=hbr.drew
   by_cases h1:b < 1
   ·obtain rfl:ans=false:=by rw [HST.out,decide_eq_false (by omega)];rfl
    obtain rfl:m=false:=HMA.out
    clear hcl K
    go_upto_region 4 with (fail)
    refine wp_region_held_drew (S:=fun W=>W.cell? ⟨w.heap.size,35,none⟩=some (.slice (some ⟨g,o,none⟩) L c)∧W.cell? ⟨g,o + i,none⟩=some (.int .i64 b)) (by kernel_rfl) ⟨k4d,hc⟩ (fun hHeld=>?_)
    refine' tkq2 0 rfl ?_;try simp only [lay]
    refine' tkq2 1 rfl ?_;try simp only [lay]
    refine' tkq2 2 rfl ?_;try simp only [lay]
    refine' tkq2 3 rfl ?_;try simp only [lay]
    refine' tkq2 4 rfl ?_;try simp only [lay]
    refine' tkq2 5 rfl ?_;try simp only [lay]
    refine' tkq2 6 rfl ?_;try simp only [lay]
    refine tf (i:=7) rfl ?_
    try simp only [lay]
    refine tf (i:=8) rfl ?_
    try simp only [lay]
    refine tf (i:=9) rfl ?_
    try simp only [lay]
    refine tf (i:=10) rfl ?_
    try simp only [lay]
    refine tf (i:=11) rfl ?_
    try simp only [lay]
    refine tf (i:=12) rfl ?_
    try simp only [lay]
    refine' tkq2 13 rfl ?_;try simp only [lay]
    refine' tkq2 14 rfl ?_;try simp only [lay]
    refine tf (i:=15) rfl ?_
    try simp only [lay]
    refine tf (i:=16) rfl ?_
    try simp only [lay]
    refine tf (i:=17) rfl ?_
    try simp only [lay]
    refine tf (i:=18) rfl ?_
    try simp only [lay]
    refine tf (i:=19) rfl ?_
    try simp only [lay]
    refine tf (i:=20) rfl ?_
    try simp only [lay]
    refine tf (i:=21) rfl ?_
    try simp only [lay]
    refine tf (i:=22) rfl ?_
    try simp only [lay]
    refine tf (i:=23) rfl ?_
    try simp only [lay]
    refine tf (i:=24) rfl ?_
    try simp only [lay]
    refine tf (i:=25) rfl ?_
    try simp only [lay]
    refine tf (i:=26) rfl ?_
    try simp only [lay]
    refine tf (i:=27) rfl ?_
    try simp only [lay]
    refine tf (i:=28) rfl ?_
    try simp only [lay]
    refine tf (i:=29) rfl ?_
    try simp only [lay]
    refine tf (i:=30) rfl ?_
    try simp only [lay]
    refine' tkq2 31 rfl ?_;try simp only [lay]
    refine wpAnyH_done (by kernel_rfl) ?_ _
    go_wp2_with fail
    go_ret
    exact ⟨rfl,hbd⟩
   ·by_cases h2:21 < b
    ·obtain rfl:ans=false:=by rw [HST.out,decide_eq_false (show ¬ b≤21 by omega),Bool.and_false];rfl
     obtain rfl:m=false:=HMA.out
     clear hcl K
     go_upto_region 4 with (fail)
     refine wp_region_held_drew (S:=fun W=>W.cell? ⟨w.heap.size,35,none⟩=some (.slice (some ⟨g,o,none⟩) L c)∧W.cell? ⟨g,o + i,none⟩=some (.int .i64 b)) (by kernel_rfl) ⟨k4d,hc⟩ (fun hHeld=>?_)
     refine' tkq2 0 rfl ?_;try simp only [lay]
     refine' tkq2 1 rfl ?_;try simp only [lay]
     refine' tkq2 2 rfl ?_;try simp only [lay]
     refine' tkq2 3 rfl ?_;try simp only [lay]
     refine' tkq2 4 rfl ?_;try simp only [lay]
     refine' tkq2 5 rfl ?_;try simp only [lay]
     refine' tkq2 6 rfl ?_;try simp only [lay]
     refine' tkq2 7 rfl ?_;try simp only [lay]
     refine' tkq2 8 rfl ?_;try simp only [lay]
     refine' tkq2 9 rfl ?_;try simp only [lay]
     refine' tkq2 10 rfl ?_;try simp only [lay]
     refine' tkq2 11 rfl ?_;try simp only [lay]
     refine' tkq2 12 rfl ?_;try simp only [lay]
     refine' tkq2 13 rfl ?_;try simp only [lay]
     refine' tkq2 14 rfl ?_;try simp only [lay]
     refine tf (i:=15) rfl ?_
     try simp only [lay]
     refine tf (i:=16) rfl ?_
     try simp only [lay]
     refine tf (i:=17) rfl ?_
     try simp only [lay]
     refine tf (i:=18) rfl ?_
     try simp only [lay]
     refine tf (i:=19) rfl ?_
     try simp only [lay]
     refine tf (i:=20) rfl ?_
     try simp only [lay]
     refine tf (i:=21) rfl ?_
     try simp only [lay]
     refine tf (i:=22) rfl ?_
     try simp only [lay]
     refine tf (i:=23) rfl ?_
     try simp only [lay]
     refine tf (i:=24) rfl ?_
     try simp only [lay]
     refine tf (i:=25) rfl ?_
     try simp only [lay]
     refine tf (i:=26) rfl ?_
     try simp only [lay]
     refine tf (i:=27) rfl ?_
     try simp only [lay]
     refine tf (i:=28) rfl ?_
     try simp only [lay]
     refine tf (i:=29) rfl ?_
     try simp only [lay]
     refine tf (i:=30) rfl ?_
     try simp only [lay]
     refine' tkq2 31 rfl ?_;try simp only [lay]
     refine wpAnyH_done (by kernel_rfl) ?_ _
     go_wp2_with fail
     go_ret
     exact ⟨rfl,hbd⟩
    ·rcases hpre with ⟨rfl,rfl⟩ | ⟨k,rfl,hk,rfl⟩
     ·clear hcl K
      rw [Nat.add_zero] at hc
      go_upto_region 4 with (fail)
      refine wp_region_held_drew (S:=fun W=>W.cell? ⟨w.heap.size,35,none⟩=some (.slice (some ⟨g,o,none⟩) L c)∧W.cell? ⟨g,o,none⟩=some (.int .i64 b)) (by kernel_rfl) ⟨k4d,hc⟩ (fun hHeld=>?_)
      refine' tkq2 0 rfl ?_;try simp only [lay]
      refine' tkq2 1 rfl ?_;try simp only [lay]
      refine' tkq2 2 rfl ?_;try simp only [lay]
      refine' tkq2 3 rfl ?_;try simp only [lay]
      refine' tkq2 4 rfl ?_;try simp only [lay]
      refine' tkq2 5 rfl ?_;try simp only [lay]
      refine' tkq2 6 rfl ?_;try simp only [lay]
      refine' tkq2 7 rfl ?_;try simp only [lay]
      refine' tkq2 8 rfl ?_;try simp only [lay]
      refine' tkq2 9 rfl ?_;try simp only [lay]
      refine' tkq2 10 rfl ?_;try simp only [lay]
      refine' tkq2 11 rfl ?_;try simp only [lay]
      refine' tkq2 12 rfl ?_;try simp only [lay]
      refine' tkq2 13 rfl ?_;try simp only [lay]
      refine' tkq2 14 rfl ?_;try simp only [lay]
      refine' tkq2 15 rfl ?_;try simp only [lay]
      refine' tkq2 16 rfl ?_;try simp only [lay]
      refine' tkq2 17 rfl ?_;try simp only [lay]
      refine tf (i:=18) rfl ?_
      try simp only [lay]
      refine tf (i:=19) rfl ?_
      try simp only [lay]
      refine tf (i:=20) rfl ?_
      try simp only [lay]
      refine tf (i:=21) rfl ?_
      try simp only [lay]
      refine tf (i:=22) rfl ?_
      try simp only [lay]
      refine tf (i:=23) rfl ?_
      try simp only [lay]
      refine tf (i:=24) rfl ?_
      try simp only [lay]
      refine tf (i:=25) rfl ?_
      try simp only [lay]
      refine tf (i:=26) rfl ?_
      try simp only [lay]
      refine tf (i:=27) rfl ?_
      try simp only [lay]
      refine tf (i:=28) rfl ?_
      try simp only [lay]
      refine tf (i:=29) rfl ?_
      try simp only [lay]
      refine' tkq2 30 rfl ?_;try simp only [lay]
      refine' tkq2 31 rfl ?_;try simp only [lay]
      refine wpAnyH_done (by kernel_rfl) ?_ _
      go_wp2_with fail
      go_roundw
      case rel=>exact ⟨0 + 1,b,by omega,by go_num,by omega,hid (by rw [HST.out,decide_eq_true (by omega),decide_eq_true (by omega)];simp),.inr ⟨0,rfl,hil,HBB.out⟩,hbw⟩
      case measure=>simp [intOf];omega
     ·obtain ⟨p,HPP⟩:∃ p:Int,Hid (l[k]=p):=⟨_,hid rfl⟩
      have hd:wr.drew.cell? ⟨g,o + k,none⟩=some (.int .i64 p):=by rw [← HPP.out];exact K k hk
      rw [HPP.out] at HST hlast
      have hkL:(k:Int) < (L:Int):=by omega
      have hk1:(0:Int) < ((k + 1:Nat):Int):=by omega
      have hwk:IntKind.i64.wrap (((k + 1:Nat):Int) - 1)=(k:Int):=by rw [IntKind.wrap_i64];omega
      have hk2:(0:Int) < (k:Int) + 1:=by omega
      have hk0:(0:Int)≤(k:Int) + 1:=by omega
      have hI2:(k:Int) + 1 < (L:Int):=by omega
      have hwk2:IntKind.i64.wrap ((k:Int) + 1 - 1)=(k:Int):=by rw [IntKind.wrap_i64];omega
      have hwk3:IntKind.i64.wrap (k:Int)=(k:Int):=by rw [IntKind.wrap_i64];omega
      by_cases h3:p < b
      ·have h3':¬ b≤p:=by omega
       clear hcl K
       go_upto_region 4 with (fail)
       refine wp_region_held_drew (S:=fun W=>W.cell? ⟨w.heap.size,35,none⟩=some (.slice (some ⟨g,o,none⟩) L c)∧W.cell? ⟨g,o + (k + 1),none⟩=some (.int .i64 b)∧W.cell? ⟨g,o + k,none⟩=some (.int .i64 p)) (by kernel_rfl) ⟨k4d,hc,hd⟩ (fun hHeld=>?_)
       refine' tkq3 0 rfl ?_;try simp only [lay]
       refine' tkq3 1 rfl ?_;try simp only [lay]
       refine' tkq3 2 rfl ?_;try simp only [lay]
       refine' tkq3 3 rfl ?_;try simp only [lay]
       refine' tkq3 4 rfl ?_;try simp only [lay]
       refine' tkq3 5 rfl ?_;try simp only [lay]
       refine' tkq3 6 rfl ?_;try simp only [lay]
       refine' tkq3 7 rfl ?_;try simp only [lay]
       refine' tkq3 8 rfl ?_;try simp only [lay]
       refine' tkq3 9 rfl ?_;try simp only [lay]
       refine' tkq3 10 rfl ?_;try simp only [lay]
       refine' tkq3 11 rfl ?_;try simp only [lay]
       refine' tkq3 12 rfl ?_;try simp only [lay]
       refine' tkq3 13 rfl ?_;try simp only [lay]
       refine' tkq3 14 rfl ?_;try simp only [lay]
       refine' tkq3 15 rfl ?_;try simp only [lay]
       refine' tkq3 16 rfl ?_;try simp only [lay]
       refine' tkq3 17 rfl ?_;try simp only [lay]
       refine' tkq3 18 rfl ?_;try simp only [lay]
       refine' tkq3 19 rfl ?_;try simp only [lay]
       refine' tkq3 20 rfl ?_;try simp only [lay]
       refine' tkq3 21 rfl ?_;try simp only [lay]
       refine' tkq3 22 rfl ?_;try simp only [lay]
       refine' tkq3 23 rfl ?_;try simp only [lay]
       refine' tkq3 24 rfl ?_;try simp only [lay]
       refine' tkq3 25 rfl ?_;try simp only [lay]
       refine' tkq3 26 rfl ?_;try simp only [lay]
       refine' tkq3 27 rfl ?_;try simp only [lay]
       refine' tkq3 28 rfl ?_;try simp only [lay]
       refine' tkq3 29 rfl ?_;try simp only [lay]
       refine' tkq3 30 rfl ?_;try simp only [lay]
       refine' tkq3 31 rfl ?_;try simp only [lay]
       refine wpAnyH_done (by kernel_rfl) ?_ _
       go_wp2_with fail
       go_roundw
       case rel=>exact ⟨k + 1 + 1,b,by omega,by go_num,by omega,hid (by rw [HST.out,decide_eq_true h3,decide_eq_true (by omega)];simp),.inr ⟨k + 1,rfl,hil,HBB.out⟩,hbw⟩
       case measure=>simp [intOf];omega
      ·have h3':b≤p:=by omega
       obtain rfl:ans=false:=by rw [HST.out,decide_eq_false h3];rfl
       obtain rfl:m=false:=HMA.out
       clear hcl K
       go_upto_region 4 with (fail)
       refine wp_region_held_drew (S:=fun W=>W.cell? ⟨w.heap.size,35,none⟩=some (.slice (some ⟨g,o,none⟩) L c)∧W.cell? ⟨g,o + (k + 1),none⟩=some (.int .i64 b)∧W.cell? ⟨g,o + k,none⟩=some (.int .i64 p)) (by kernel_rfl) ⟨k4d,hc,hd⟩ (fun hHeld=>?_)
       refine' tkq3 0 rfl ?_;try simp only [lay]
       refine' tkq3 1 rfl ?_;try simp only [lay]
       refine' tkq3 2 rfl ?_;try simp only [lay]
       refine' tkq3 3 rfl ?_;try simp only [lay]
       refine' tkq3 4 rfl ?_;try simp only [lay]
       refine' tkq3 5 rfl ?_;try simp only [lay]
       refine' tkq3 6 rfl ?_;try simp only [lay]
       refine' tkq3 7 rfl ?_;try simp only [lay]
       refine' tkq3 8 rfl ?_;try simp only [lay]
       refine' tkq3 9 rfl ?_;try simp only [lay]
       refine' tkq3 10 rfl ?_;try simp only [lay]
       refine' tkq3 11 rfl ?_;try simp only [lay]
       refine' tkq3 12 rfl ?_;try simp only [lay]
       refine' tkq3 13 rfl ?_;try simp only [lay]
       refine' tkq3 14 rfl ?_;try simp only [lay]
       refine' tkq3 15 rfl ?_;try simp only [lay]
       refine' tkq3 16 rfl ?_;try simp only [lay]
       refine' tkq3 17 rfl ?_;try simp only [lay]
       refine' tkq3 18 rfl ?_;try simp only [lay]
       refine' tkq3 19 rfl ?_;try simp only [lay]
       refine' tkq3 20 rfl ?_;try simp only [lay]
       refine' tkq3 21 rfl ?_;try simp only [lay]
       refine' tkq3 22 rfl ?_;try simp only [lay]
       refine' tkq3 23 rfl ?_;try simp only [lay]
       refine' tkq3 24 rfl ?_;try simp only [lay]
       refine' tkq3 25 rfl ?_;try simp only [lay]
       refine' tkq3 26 rfl ?_;try simp only [lay]
       refine' tkq3 27 rfl ?_;try simp only [lay]
       refine' tkq3 28 rfl ?_;try simp only [lay]
       refine' tkq3 29 rfl ?_;try simp only [lay]
       refine' tkq3 30 rfl ?_;try simp only [lay]
       refine' tkq3 31 rfl ?_;try simp only [lay]
       refine wpAnyH_done (by kernel_rfl) ?_ _
       go_wp2_with fail
       go_ret
       exact ⟨rfl,hbd⟩
  ·obtain rfl:i=L:=by omega
   obtain rfl:ans=true:=by rw [HR.out,List.drop_eq_nil_of_le (by rw [HL.out];exact Nat.le_refl _)];rfl
   obtain ⟨k4,k0,k1,k2⟩:=HX.out wr hbr
   have hI:¬ (i:Int) < (i:Int):=by omega
   obtain ⟨bo,vi,pv,pa,fr,tg⟩:=a
   simp only at k0 k1 k2 HMA
   clear hpre hlast HR hlen hc1 hc2
   go_wp2_with fail
   all_goals
    go_ret
    refine ⟨?_,hBR⟩
    refine congrArg (fun b=>Ending.returned (Value.bool b)) ?_
    rw [HMA.out]
    simp only [Bool.true_and]
   all_goals grind
end Go.Proofs.YtpdnnmabijmfbaaGreatDoor
namespace Go.Proofs.YtpdnnmabijmfbaaGreatDoor
set_option maxRecDepth 20000
open Go.RowKit
def AcRightOk:Prop:=∀ (n:Int) (v:Value) (a:AcM) (w:World),(Lit.int .i64 n).wf=true→AcV w v a→a.fr.length≤1000→Kst 1 w→
 Calls Tryz.prog 118 #[.int .i64 n,v] w fun e w'=>e=.returned (.bool (rightX n a))∧Below w.heap.size w w'
theorem axc_35 {a:AcM} (s:Value) (ho:a.Ok):(axc a s)[35]?=some s:=by
 unfold axc
 rw [List.getElem?_toArray,axl_pre,List.getElem?_append_right (by simp),List.getElem?_append_right (by rw [bcells_length,ho.pa];simp)]
 rw [bcells_length,ho.pa]
 rfl
end Go.Proofs.YtpdnnmabijmfbaaGreatDoor
namespace Go.Proofs.YtpdnnmabijmfbaaGreatDoor
set_option maxRecDepth 20000
open Go.RowKit
attribute [local go_sem ↓] exec_load_att
set_option maxHeartbeats 1600000 in
theorem acCounts_any (n vi:Int) (a:AtM) (w:World) (ho:a.Ok) (hK:Kst 1 w):
  Calls Tryz.prog 79 #[.int .i64 n,.int .i64 vi,.agg (atc a)] w fun e w'=>e=.returned (.bool (goodX n vi a))∧Below w.heap.size w w':=by
 have hb0:Below w.heap.size w (w.alloc (.cells (atc a) 54)):=(Below.refl _ _).alloc (Nat.le_refl _) _
 have hA:=BoxA.new w a
 obtain ⟨ans,HAN⟩:∃ q:Bool,Hid (goodX n vi a=q):=⟨_,hid rfl⟩
 obtain ⟨m,HM⟩:∃ q:Bool,Hid (rightA a=q):=⟨_,hid rfl⟩
 have HGO:Hid (ans=(m && (decide (a.ki=1) && (decide (a.vi=vi) && decide (a.bo≤n))))):=hid (by rw [← HAN.out,← HM.out];rfl)
 have HR:Hid (Calls Tryz.prog 126 #[.agg (atc a)] (w.alloc (.cells (atc a) 54)) fun e w'=>e=.returned (.bool m)∧Below (w.alloc (.cells (atc a) 54)).heap.size (w.alloc (.cells (atc a) 54)) w'):=hid (by
  have:=atRight_ok a (w.alloc (.cells (atc a) 54)) ho (hK.below hb0)
  rw [HM.out] at this
  exact this)
 rw [HAN.out]
 have HO:=hid ho
 clear ho hK
 obtain ⟨C,HC⟩:∃ C:Array Value,Hid (atc a=C):=⟨_,hid rfl⟩
 have hl0:=loadAtt_eq hA HO.out
 rw [HC.out] at hb0 hA HR hl0 ⊢
 go_enter Tryz.func79,Tryz.ntmps79
 go_upto_region 1 with (fail)
 generalize (w.alloc (.cells C 54))=w0 at *
 obtain ⟨k0,k1,k2,_⟩:=hA.cells
 clear hA
 obtain ⟨bo,HBO⟩:∃ x:Int,Hid (a.bo=x):=⟨_,hid rfl⟩
 obtain ⟨ki,HKI⟩:∃ x:Int,Hid (a.ki=x):=⟨_,hid rfl⟩
 obtain ⟨va,HVA⟩:∃ x:Int,Hid (a.vi=x):=⟨_,hid rfl⟩
 rw [HBO.out,HKI.out,HVA.out] at HGO
 rw [HBO.out] at k0
 rw [HKI.out] at k1
 rw [HVA.out] at k2
 have HL0:=hid hl0
 clear hl0
 by_cases h1:bo≤n
 case neg=>
  obtain rfl:ans=false:=by rw [HGO.out,decide_eq_false h1];simp
  go_wp2_with fail
  go_ret
  exact ⟨rfl,hb0⟩
 by_cases h2:ki=1
 case neg=>
  have t2:(ki == 1)=false:=by simpa using h2
  obtain rfl:ans=false:=by rw [HGO.out,decide_eq_false h2];simp
  clear h2
  go_wp2_with fail
  go_ret
  exact ⟨rfl,hb0⟩
 by_cases h3:va=vi
 case neg=>
  have t2:(ki == 1)=true:=by simpa using h2
  have t3:(va == vi)=false:=by simpa using h3
  obtain rfl:ans=false:=by rw [HGO.out,decide_eq_false h3];simp
  clear h2 h3
  go_wp2_with fail
  go_ret
  exact ⟨rfl,hb0⟩
 have t2:(ki == 1)=true:=by simpa using h2
 have t3:(va == vi)=true:=by simpa using h3
 obtain rfl:ans=m:=by rw [HGO.out,decide_eq_true h1,decide_eq_true h2,decide_eq_true h3];simp
 clear h2 h3
 have hl0:=HL0.out
 go_wp2_with fail
 refine HR.out.mono ?_
 rintro e w1 ⟨rfl,hb1⟩
 clear hl0 k0 k1 k2
 go_wp2_with fail
 go_ret
 exact ⟨rfl,hb0.trans (hb1.mono hb0.size)⟩
end Go.Proofs.YtpdnnmabijmfbaaGreatDoor
namespace Go.Proofs.YtpdnnmabijmfbaaGreatDoor
set_option maxRecDepth 20000
open Go.RowKit
attribute [local go_sem ↓] exec_load_hash
set_option maxHeartbeats 1600000 in
theorem refSame10_any (va vb:Value) (a b:AcM) (w:World) (hva:AcV w va a) (hvb:AcV w vb b):
  Calls Tryz.prog 16 #[va,vb] w fun e w'=>e=.returned (.bool (decide (a=b)))∧Below w.heap.size w w':=by
 obtain ⟨sa,rfl,hoa,hta⟩:=hva
 obtain ⟨sb,rfl,hob,htb⟩:=hvb
 have hb0:Below w.heap.size w ((w.alloc (.cells (axc a sa) 52)).alloc (.cells (axc b sb) 52)):=((Below.refl _ _).alloc (Nat.le_refl _) _).alloc (by simp) _
 have hA:BoxX ((w.alloc (.cells (axc a sa) 52)).alloc (.cells (axc b sb) 52)) w.heap.size a sa:=heap1 w _ _
 have hB:BoxX ((w.alloc (.cells (axc a sa) 52)).alloc (.cells (axc b sb) 52)) (w.heap.size + 1) b sb:=heap2 w _ _
 have hta0:=hta.below hb0
 have htb0:=htb.below hb0
 obtain ⟨AA,ca,rfl⟩:=hta.shape
 obtain ⟨AB,cb,rfl⟩:=htb.shape
 obtain ⟨CA,HCA⟩:∃ C:Array Value,Hid (axc a (.slice AA a.fr.length ca)=C):=⟨_,hid rfl⟩
 obtain ⟨CB,HCB⟩:∃ C:Array Value,Hid (axc b (.slice AB b.fr.length cb)=C):=⟨_,hid rfl⟩
 rw [HCA.out,HCB.out] at hA hB hb0 hta0 htb0 ⊢
 obtain ⟨ans,HAN⟩:∃ q:Bool,Hid (decide (a=b)=q):=⟨_,hid rfl⟩
 rw [HAN.out]
 go_enter Tryz.func16,Tryz.ntmps16
 go_upto_region 1 with (fail)
 generalize ((w.alloc (.cells CA 52)).alloc (.cells CB 52))=w0 at *
 clear HCA HCB hta htb
 obtain ⟨k0,k1,k2⟩:=hA.ints
 obtain ⟨j0,j1,j2⟩:=hB.ints
 have k4:=hA.fr hoa
 have j4:=hB.fr hob
 have l3:=loadH_mid hA.pa hoa.pa
 have m3:=loadH_mid hB.pa hob.pa
 have l5:=loadH_mid (hA.tg hoa) hoa.tg
 have m5:=loadH_mid (hB.tg hob) hob.tg
 have e3:=eq_hash a.pa b.pa hoa.pa hob.pa w0
 have e5:=eq_hash a.tg b.tg hoa.tg hob.tg w0
 have k4d:∀ n,(w0.drewN n).cell? ⟨w.heap.size,35,none⟩=some (.slice AA a.fr.length ca):=fun n=>hA.fr hoa
 have j4d:∀ n,(w0.drewN n).cell? ⟨w.heap.size + 1,35,none⟩=some (.slice AB b.fr.length cb):=fun n=>hB.fr hob
 clear hA hB hoa hob
 obtain ⟨bo,vi,pv,pa,fr,tg⟩:=a
 obtain ⟨bo',vi',pv',pa',fr',tg'⟩:=b
 simp only at k0 k1 k2 j0 j1 j2 k4 j4 l3 m3 l5 m5 e3 e5 k4d j4d hta0 htb0 HAN
 obtain ⟨q3,HQ3⟩:∃ q:Bool,Hid (decide (pa=pa')=q):=⟨_,hid rfl⟩
 obtain ⟨q5,HQ5⟩:∃ q:Bool,Hid (decide (tg=tg')=q):=⟨_,hid rfl⟩
 rw [HQ3.out] at e3
 rw [HQ5.out] at e5
 obtain ⟨G3,HG3⟩:∃ C:Array Value,Hid (hcells pa=C):=⟨_,hid rfl⟩
 obtain ⟨I3,HI3⟩:∃ C:Array Value,Hid (hcells pa'=C):=⟨_,hid rfl⟩
 obtain ⟨G5,HG5⟩:∃ C:Array Value,Hid (hcells tg=C):=⟨_,hid rfl⟩
 obtain ⟨I5,HI5⟩:∃ C:Array Value,Hid (hcells tg'=C):=⟨_,hid rfl⟩
 rw [HG3.out] at l3 e3
 rw [HI3.out] at m3 e3
 rw [HG5.out] at l5 e5
 rw [HI5.out] at m5 e5
 obtain ⟨LA,HLA⟩:∃ n:Nat,Hid (fr.length=n):=⟨_,hid rfl⟩
 obtain ⟨LB,HLB⟩:∃ n:Nat,Hid (fr'.length=n):=⟨_,hid rfl⟩
 have hlena:=hta0.len
 have hlenb:=htb0.len
 rw [HLA.out] at k4 k4d hta0 hlena
 rw [HLB.out] at j4 j4d htb0 hlenb
 unfold maxLen at hlena hlenb
 have HTA:=hid hta0
 have HTB:=hid htb0
 have HA4:=hid k4d
 have HB4:=hid j4d
 clear hta0 htb0 k4d j4d
 by_cases n0:¬ bo=bo'
 ·have t0:(bo != bo')=true:=by simpa using n0
  obtain rfl:ans=false:=by
   rw [← HAN.out]
   exact decide_eq_false (fun e=>by injection e with f0 f1 f2 f3 f4 f5;exact n0 f0)
  go_wp2_with fail
  go_ret
  exact ⟨rfl,hb0⟩
 have t0:(bo != bo')=false:=by simpa using n0
 by_cases n1:¬ vi=vi'
 ·have t1:(vi != vi')=true:=by simpa using n1
  obtain rfl:ans=false:=by
   rw [← HAN.out]
   exact decide_eq_false (fun e=>by injection e with f0 f1 f2 f3 f4 f5;exact n1 f1)
  go_wp2_with fail
  go_ret
  exact ⟨rfl,hb0⟩
 have t1:(vi != vi')=false:=by simpa using n1
 by_cases n2:¬ pv=pv'
 ·have t2:(pv != pv')=true:=by simpa using n2
  obtain rfl:ans=false:=by
   rw [← HAN.out]
   exact decide_eq_false (fun e=>by injection e with f0 f1 f2 f3 f4 f5;exact n2 f2)
  go_wp2_with fail
  go_ret
  exact ⟨rfl,hb0⟩
 have t2:(pv != pv')=false:=by simpa using n2
 cases q3 with
 | false=>
  obtain rfl:ans=false:=by
   rw [← HAN.out]
   exact decide_eq_false (fun e=>by injection e with f0 f1 f2 f3 f4 f5;exact of_decide_eq_false HQ3.out f3)
  go_wp2_with fail
  go_ret
  exact ⟨rfl,hb0⟩
 | true=>
 cases q5 with
 | false=>
  obtain rfl:ans=false:=by
   rw [← HAN.out]
   exact decide_eq_false (fun e=>by injection e with f0 f1 f2 f3 f4 f5;exact of_decide_eq_false HQ5.out f5)
  go_wp2_with fail
  go_ret
  exact ⟨rfl,hb0⟩
 | true=>
 by_cases n4:¬ LA=LB
 ·have t4:((LA:Int) != (LB:Int))=true:=by simp;omega
  obtain rfl:ans=false:=by
   rw [← HAN.out]
   exact decide_eq_false (fun e=>by injection e with f0 f1 f2 f3 f4 f5;exact by subst f4;exact n4 (HLA.out.symm.trans HLB.out))
  go_wp2_with fail
  go_ret
  exact ⟨rfl,hb0⟩
 obtain rfl:LA=LB:=by omega
 have t4:((LA:Int) != (LA:Int))=false:=by simp
 obtain ⟨_,hca1,hca2,hra⟩:=HTA.out.at_
 obtain ⟨_,hcb1,hcb2,hrb⟩:=HTB.out.at_
 rw [HLA.out] at hca1
 rw [HLB.out] at hcb1
 unfold maxLen at hca2 hcb2
 have HRA:=hid hra
 have HRB:=hid hrb
 have HEQ:Hid (bo=bo'∧vi=vi'∧pv=pv'∧pa=pa'∧tg=tg'):=hid ⟨by omega,by omega,by omega,of_decide_eq_true HQ3.out,of_decide_eq_true HQ5.out⟩
 clear hra hrb
 go_wp2_with fail
 clear t0 t1 t2 t4 n0 n1 n2 n4 e3 e5 l3 m3 l5 m5 k0 k1 k2 j0 j1 j2 k4 j4
 go_loopw [5] (fun si wr=>∃ i:Nat,i≤LA∧si=.int .i64 i∧Hid (∀ j (h:j < fr.length) (h2:j < fr'.length),j < i→fr[j]=fr'[j])∧∃ n,wr=w0.drewN n) (fun si _=>LA - (intOf si).toNat)
 case atStart=>exact ⟨0,Nat.zero_le _,rfl,hid (fun j _ _ h=>absurd h (by omega)),0,rfl⟩
 case round=>
  obtain ⟨i,hi,rfl,HBB,n,rfl⟩:=hrel
  have a4d:=HA4.out
  have b4d:=HB4.out
  by_cases hlt:i < LA
  ·have hil:i < fr.length:=by rw [HLA.out];exact hlt
   have him:i < fr'.length:=by rw [HLB.out];exact hlt
   obtain ⟨ba,oa',rfl,hba,hcla⟩:=HRA.out (by omega)
   obtain ⟨bb,ob',rfl,hbb,hclb⟩:=HRB.out (by omega)
   have l1:∀ k,(w0.drewN k).cell? ⟨ba,oa' + i,none⟩=some (.int .i64 fr[i]):=fun k=>by
    have:=hcla i hil 0 _ rfl
    rwa [Nat.mul_one,Nat.add_zero] at this
   have l2:∀ k,(w0.drewN k).cell? ⟨bb,ob' + i,none⟩=some (.int .i64 fr'[i]):=fun k=>by
    have:=hclb i him 0 _ rfl
    rwa [Nat.mul_one,Nat.add_zero] at this
   have hI:(i:Int) < (LA:Int):=by omega
   clear hcla hclb
   obtain ⟨x,HX⟩:∃ x:Int,Hid (fr[i]=x):=⟨_,hid rfl⟩
   obtain ⟨y,HY⟩:∃ x:Int,Hid (fr'[i]=x):=⟨_,hid rfl⟩
   rw [HX.out] at l1
   rw [HY.out] at l2
   by_cases hxy:x=y
   ·have hd:(x != y)=false:=by simpa using hxy
    have HXY:Hid (fr[i]=fr'[i]):=hid (by rw [HX.out,HY.out];exact hxy)
    go_wp2_with fail
    go_quiet (fail)
    go_wp2_with fail
    go_roundw
    case rel=>
     refine ⟨i + 1,by omega,by go_num,hid (fun j h h2 hj=>?_),_,rfl⟩
     by_cases hji:j < i
     ·exact HBB.out j h h2 hji
     ·obtain rfl:j=i:=by omega
      exact HXY.out
    case measure=>simp [intOf];omega
   ·have hd:(x != y)=true:=by simpa using hxy
    have e:ans=false:=by
     rw [← HAN.out]
     exact decide_eq_false (fun e=>by injection e with _ _ _ _ e _;subst e;exact hxy (HX.out.symm.trans HY.out))
    subst e
    go_wp2_with fail
    go_quiet (fail)
    go_wp2_with fail
    go_ret
    exact ⟨rfl,below_drewN (below_drewN hb0 _) _⟩
  ·obtain rfl:i=LA:=by omega
   have hI:¬ (i:Int) < (i:Int):=by omega
   have e:ans=true:=by
    rw [← HAN.out]
    refine decide_eq_true ?_
    obtain ⟨rfl,rfl,rfl,rfl,rfl⟩:=HEQ.out
    have ht:fr=fr':=List.ext_getElem (by rw [HLA.out,HLB.out]) fun j h h2=>HBB.out j h h2 (by have:=HLA.out;omega)
    rw [ht]
   subst e
   go_wp2_with fail
   go_ret
   exact ⟨rfl,below_drewN hb0 n⟩
end Go.Proofs.YtpdnnmabijmfbaaGreatDoor
