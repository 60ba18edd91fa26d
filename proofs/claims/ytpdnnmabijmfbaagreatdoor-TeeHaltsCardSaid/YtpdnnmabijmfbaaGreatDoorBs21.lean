/-
  AtCodeSign AtCodeRight SeCodePut BkCodeSame VaCodeBits VaCodeSlots: what each of them says stands at its head.
-/
import Derived.Test.YtpdnnmabijmfbaaGreatDoorBs16
import Derived.Test.YtpdnnmabijmfbaaGreatDoorBs17
import Derived.Test.YtpdnnmabijmfbaaGreatDoorBs18
namespace Go.Proofs.YtpdnnmabijmfbaaGreatDoor
set_option maxRecDepth 20000
open Go.RowKit
attribute [local go_sem ↓] exec_load_att exec_alloc_att exec_store_att exec_build_hash
theorem tag_one (i:Int) (d:UInt8) (v0:Value) (l0:List UInt8) (gp c:Nat) (w:World) (hg:gp < w.heap.size) (h0:w.cell? ⟨gp,0,none⟩=some v0) (b0:Byt w v0 l0) (hl:l0.length≤1000000) (hK:Kst 1 w):
  Calls Tryz.prog 83 #[.int .i64 i,.int .u8 (d.toNat:Int),.slice (some ⟨gp,0,none⟩) 1 c] w fun e w'=>e=.returned (.agg (hcells (Go.Proofs.YtpdnnmabijmfbaaGreatDoor.hl 32 (tagF i d l0))))∧Below w.heap.size w w':=by
 have h:=tag_any i d [l0] (fun _=>v0) gp 1 c w rfl hg (fun j hj=>by
  match j,hj with
  | 0,_=>exact h0) (fun j hj=>by
  match j,hj with
  | 0,_=>exact b0) (by simpa using hl) (by omega) hK
 have e:([l0]:List (List UInt8)).flatten=l0:=by simp
 rw [e,fcells_hl] at h
 exact h
theorem alloc_cell0 (w:World) (x:Value) (T:TypeId):(w.alloc (.cells #[x] T)).cell? ⟨w.heap.size,0,none⟩=some x:=by simp
set_option maxHeartbeats 3200000 in
theorem atSign_ok:AtSignOk:=by
 intro a w ho hm hK
 obtain ⟨a0,HA0⟩:∃ x:AtM,Hid ({ a with tg:=z32 }=x):=⟨_,hid rfl⟩
 have hok0:a0.Ok:=by rw [← HA0.out];exact ⟨ho.ha,ho.pa,rfl⟩
 have hm0:mayA a0=true:=by rw [← HA0.out];exact hm
 have HBO:Hid (a0.bo=a.bo):=hid (by rw [← HA0.out])
 have HTE:Hid (taggedA a0=taggedA a):=hid (by rw [← HA0.out];rfl)
 have HSE:Hid ({ a0 with tg:=tagA a }=signA a):=hid (by rw [← HA0.out];rfl)
 have hlen:=taggedA_len ho hm
 have HCK:Hid (∀ W,Calls Tryz.prog 142 #[.agg (atc a0)] W fun e w'=>e=.returned (.int .i64 0)∧Below W.heap.size W w'):=hid (fun W=>by
  have:=atCheck_ok a0 W hok0
  rw [if_pos hm0] at this
  exact this)
 have HTD:Hid (∀ W,Calls Tryz.prog 143 #[.agg (atc a0)] W fun e w'=>∃ x,e=.returned x∧Own W.heap.size w' x (taggedA a)∧Below W.heap.size W w'):=hid (fun W=>by
  have:=attagged_any a0 W hok0 hm0
  rw [HTE.out] at this
  exact this)
 obtain ⟨C,HC⟩:∃ C:Array Value,Hid (atc a=C):=⟨_,hid rfl⟩
 obtain ⟨C0,HC0⟩:∃ C:Array Value,Hid (atc a0=C):=⟨_,hid rfl⟩
 obtain ⟨D,HD⟩:∃ C:Array Value,Hid (atc (signA a)=C):=⟨_,hid rfl⟩
 obtain ⟨Z,HZ⟩:∃ C:Array Value,Hid (atc atZ=C):=⟨_,hid rfl⟩
 obtain ⟨N,HN⟩:∃ C:Array Value,Hid (hcells z32=C):=⟨_,hid rfl⟩
 obtain ⟨T,HT⟩:∃ C:Array Value,Hid (hcells (tagA a)=C):=⟨_,hid rfl⟩
 obtain ⟨L,HL⟩:∃ l:List UInt8,Hid (taggedA a=l):=⟨_,hid rfl⟩
 have HTG:Hid (∀ v gp c W,Below w.heap.size w W→gp < W.heap.size→W.cell? ⟨gp,0,none⟩=some v→Byt W v L→Calls Tryz.prog 83 #[.int .i64 a0.bo,.int .u8 1,.slice (some ⟨gp,0,none⟩) 1 c] W fun e w'=>e=.returned (.agg T)∧Below W.heap.size W w'):=hid (fun v gp c W h h1 h2 h3=>by
  have:=tag_one a.bo 1 v L gp c W h1 h2 h3 (by rw [← HL.out];omega) (hK.below h)
  rw [HBO.out,← HT.out]
  unfold tagA
  rw [HL.out]
  exact this)
 rw [HC0.out] at HCK HTD
 rw [HL.out] at HTD
 rw [HC.out,HD.out]
 have hbz:∀ W,buildH W=.ok (.value (.agg N)) W:=fun W=>by rw [buildH_eq,fcells_nought,← HN.out];rfl
 have hal:∀ W,allocAtt W=.ok (.value (.pointer (some ⟨W.heap.size,0,none⟩))) (W.alloc (.cells Z 54)):=fun W=>by rw [← HZ.out];exact allocAtt_eq W
 have hr1:=heap2 w (.cells C 54) (.cells Z 54)
 have hb0:Below w.heap.size w ((w.alloc (.cells C 54)).alloc (.cells Z 54)):=((Below.refl _ _).alloc (Nat.le_refl _) _).alloc (by simp) _
 have hA:BoxA ((w.alloc (.cells C 54)).alloc (.cells Z 54)) w.heap.size a:=by
  unfold BoxA
  rw [HC.out]
  exact heap1 w (.cells C 54) (.cells Z 54)
 have HDS:Hid (D.size=101∧D.all (·.oneCell')=true):=hid (by rw [← HD.out];exact ⟨atc_size (signA_ok ho),atc_one _⟩)
 have HZS:Hid (Z.size=101):=hid (by rw [← HZ.out];exact atc_size atZ_ok)
 have HTL:Hid ((tagA a).length=32):=hid (tagA_len a)
 have HO:=hid ho
 have HO0:=hid hok0
 have HR1:=hid hr1
 have HA:=hid hA
 have HB0:=hid hb0
 have HX:Hid (∀ W:World,BoxA W w.heap.size a0→W.cell? ⟨w.heap.size,0,none⟩=some (.int .i64 a0.bo)∧loadAtt (.pointer (some ⟨w.heap.size,0,none⟩)) W=.ok (.value (.agg C0)) W):=hid (fun W h=>by
  refine ⟨h.cells.1,?_⟩
  have:=loadAtt_eq h HO0.out
  rw [HC0.out] at this
  exact this)
 have HLD:Hid (∀ W:World,BoxA W w.heap.size { a0 with tg:=tagA a }→loadAtt (.pointer (some ⟨w.heap.size,0,none⟩)) W=.ok (.value (.agg D)) W):=hid (fun W h=>by
  rw [HSE.out] at h
  have:=loadAtt_eq h (signA_ok HO.out)
  rw [HD.out] at this
  exact this)
 clear hK ho hm hok0 hm0 hr1 hA hb0 hlen
 go_enter Tryz.func95,Tryz.ntmps95
 go_upto_region 1 with (fail)
 generalize ((w.alloc (.cells C 54)).alloc (.cells Z 54))=w0 at *
 clear hal
 go_upto_region 2 with (refine wpList_store_tag rfl _ _ rfl rfl (by rw [HN.out];rfl) HA.out HO.out (show z32.length=32 from rfl) ?_;intro w1 hg1 hB1 hs1)
 rw [HA0.out] at hB1
 have hr1:=(hg1.block _ (lt_of_block HR1.out) (fun e=>by injection e with e;omega)).trans HR1.out
 have hb1:Below w.heap.size w w1:=below_into HB0.out (Nat.le_refl _) hg1 HB0.out.size
 have HR2:=hid hr1
 have HB1:=hid hb1
 have HA1:=hid hB1
 have l1:=(HX.out w1 hB1).2
 clear hbz hg1 hs1 hB1 hr1 hb1 HB0 HA HR1
 go_wp2_with fail
 refine (HCK.out w1).mono ?_
 rintro e w2 ⟨rfl,hb2'⟩
 have HB2:=hid (HB1.out.trans (hb2'.mono HB1.out.size))
 have HA2:=hid (HA1.out.keep hb2')
 have HR3:=hid ((hb2'.block _ (lt_of_block HR2.out)).trans HR2.out)
 clear l1 hb2'
 go_upto_region 3 with (fail)
 have hbd:Below w2.heap.size w2 w2.drew:=(Below.refl _ _).drew
 have HXC:Hid (∀ W,Below w2.heap.size w2 W→W.cell? ⟨w.heap.size,0,none⟩=some (.int .i64 a0.bo)):=hid (fun W h=>(HX.out W (HA2.out.keep h)).1)
 have l2:=(HX.out w2.drew (HA2.out.keep hbd)).2
 refine wp_region_held_drew (S:=fun W=>W.cell? ⟨w.heap.size,0,none⟩=some (.int .i64 a0.bo)) (by kernel_rfl) (HXC.out _ hbd) (fun hHeld=>?_)
 refine' tkq 0 rfl ?_;try simp only [lay]
 refine' tkq 1 rfl ?_;try simp only [lay]
 refine call_on (i:=2) rfl (by kernel_rfl) (by rfl) (fun K hK=>?_)
 go_simp
 refine hK.out _ _ (HXC.out _ hbd) (fun hHeld=>?_)
 clear hK K
 try simp only [lay]
 clear l2
 refine call_on (i:=3) rfl (by kernel_rfl) (by rfl) (fun K hK=>?_)
 go_simp
 refine (HTD.out w2.drew).mono ?_
 rintro e w3 ⟨v3,rfl,ho3,hb3'⟩
 have hb3:=hbd.trans hb3'
 have hv3:=ho3.byt
 obtain ⟨A3,c3,rfl⟩:=hv3.shape
 refine hK.out _ _ (HXC.out _ hb3) (fun hHeld=>?_)
 clear hK K
 try simp only [lay]
 have hb4:Below w2.heap.size w2 (w3.alloc (.cells #[.slice A3 L.length c3] 33)):=hb3.alloc hb3.size _
 refine call_on (i:=4) rfl (by kernel_rfl) (by rfl) (fun K hK=>?_)
 go_simp
 refine hK.out _ _ (HXC.out _ hb4) (fun hHeld=>?_)
 clear hK K
 try simp only [lay]
 refine call_on (i:=5) rfl (by kernel_rfl) (by rfl) (fun K hK=>?_)
 go_simp
 refine (HTG.out (.slice A3 L.length c3) w3.heap.size 1 (w3.alloc (.cells #[.slice A3 L.length c3] 33)) (HB2.out.trans (hb4.mono HB2.out.size)) (by simp) (alloc_cell0 _ _ _) (hv3.alloc _)).mono ?_
 rintro e w5 ⟨rfl,hb5'⟩
 have hb5:=hb4.trans (hb5'.mono hb4.size)
 refine hK.out _ _ (HXC.out _ hb5) (fun hHeld=>?_)
 clear hK K
 try simp only [lay]
 refine' tkq 6 rfl ?_;try simp only [lay]
 refine call_on (i:=7) rfl (by kernel_rfl) (by rfl) (fun K hK=>?_)
 refine wp_store_tag _ _ rfl rfl (by rw [HT.out];rfl) (HA2.out.keep hb5) HO0.out HTL.out ?_
 intro w6 hg6 hA6 hs6
 have hB5:=HB2.out.trans (hb5.mono HB2.out.size)
 have hr6:=(hg6.block _ (Nat.lt_of_lt_of_le (lt_of_block HR3.out) hb5.size) (fun e=>by injection e with e;omega)).trans ((hb5.block _ (lt_of_block HR3.out)).trans HR3.out)
 have hB6:Below w.heap.size w w6:=below_into hB5 (Nat.le_refl _) hg6 hB5.size
 refine hK.out _ _ hA6.cells.1 (fun hHeld=>?_)
 clear hK K
 try simp only [Act.put]
 refine wpAnyH_done (by kernel_rfl) ?_ _
 have l6:=HLD.out w6 hA6
 have hs:=storeAtt_eq hr6 HZS.out HDS.out.1 HDS.out.2
 have hlt6:=lt_of_block hr6
 go_wp2_with fail
 refine bodyPost_ret (results_cell_row rfl _ _ _ _ _ (0,0) _ rfl (setAtt_same hr6) under_att rfl (by rw [size_att,HDS.out.1])) rfl ⟨rfl,?_⟩
 exact setAtt_below hB6 (Nat.le_succ _)
end Go.Proofs.YtpdnnmabijmfbaaGreatDoor
namespace Go.Proofs.YtpdnnmabijmfbaaGreatDoor
set_option maxRecDepth 20000
open Go.RowKit
attribute [local go_sem ↓] exec_load_att exec_load_hash
theorem check_hash (i:Int) (d:UInt8) (t:List UInt8) (ht:t.length=32) (v0:Value) (l0:List UInt8) (gp c:Nat) (w:World) (hg:gp < w.heap.size) (h0:w.cell? ⟨gp,0,none⟩=some v0) (b0:Byt w v0 l0) (hl0:l0.length≤1000000) (hK:Kst 1 w):
  Calls Tryz.prog 111 #[.int .i64 i,.int .u8 (d.toNat:Int),.agg (hcells t),.slice (some ⟨gp,0,none⟩) 1 c] w fun e w'=>e=.returned (.bool (nodeB i && decide (t=hl 32 (tagF i d l0))))∧Below w.heap.size w w':=by
 have e:([l0]:List (List UInt8)).flatten=l0:=by simp
 have h:=check_any i d (fun j=>t.getD j 0) [l0] (fun _=>v0) gp 1 c w rfl hg (fun j hj=>by
  obtain rfl:j=0:=by omega
  exact h0) (fun j hj=>by
  have hj2:j < 1:=hj
  obtain rfl:j=0:=by omega
  exact b0) (by rw [e];omega) (by omega) hK
 have et:hl 32 (fun j=>t.getD j 0)=t:=by
  apply List.ext_getElem
  ·rw [hl_length,ht]
  ·intro j h1 h2
   rw [hl_get]
   simp [List.getD,h2]
 rw [e,fcells_hl,et] at h
 unfold checkB sameB at h
 rw [et] at h
 exact h
set_option maxHeartbeats 3200000 in
theorem atRight_ok:AtRightOk:=by
 intro a w ho hK
 obtain ⟨m,HM⟩:∃ m:Bool,Hid (mayA a=m):=⟨_,hid rfl⟩
 obtain ⟨q,HQ⟩:∃ q:Bool,Hid (decide (a.tg=tagA a)=q):=⟨_,hid rfl⟩
 have HR:Hid (rightA a=(m && q)):=hid (by unfold rightA;rw [HM.out,HQ.out])
 have HMA:Hid (∀ W,Calls Tryz.prog 142 #[.agg (atc a)] W fun e w'=>e=.returned (.int .i64 (if m=true then 0 else 1))∧Below W.heap.size W w'):=hid (fun W=>by
  have:=atCheck_ok a W ho
  rw [HM.out] at this
  exact this)
 have HTD:Hid (m=true→∀ W,Calls Tryz.prog 143 #[.agg (atc a)] W fun e w'=>∃ x,e=.returned x∧Own W.heap.size w' x (taggedA a)∧Below W.heap.size W w'):=hid (fun h W=>attagged_any a W ho (HM.out.trans h))
 obtain ⟨L,HL⟩:∃ l:List UInt8,Hid (taggedA a=l):=⟨_,hid rfl⟩
 have HKC:Hid (m=true→∀ v gp c W,Below w.heap.size w W→gp < W.heap.size→W.cell? ⟨gp,0,none⟩=some v→Byt W v L→Calls Tryz.prog 111 #[.int .i64 a.bo,.int .u8 1,.agg (hcells a.tg),.slice (some ⟨gp,0,none⟩) 1 c] W fun e w'=>e=.returned (.bool q)∧Below W.heap.size W w'):=hid (fun h v gp c W hb h1 h2 h3=>by
  have hm:mayA a=true:=HM.out.trans h
  have hlen:=taggedA_len ho hm
  have hn:nodeB a.bo=true:=by
   obtain ⟨j1,j2,_⟩:=mayA_iff hm
   unfold nodeB
   exact decide_eq_true ⟨j1,j2⟩
  have:=check_hash a.bo 1 a.tg ho.tg v L gp c W h1 h2 h3 (by rw [← HL.out];omega) (hK.below hb)
  rw [hn,Bool.true_and,← HL.out] at this
  rw [← HQ.out]
  exact this)
 have hb0:Below w.heap.size w (w.alloc (.cells (atc a) 54)):=(Below.refl _ _).alloc (Nat.le_refl _) _
 have hA:=BoxA.new w a
 obtain ⟨C,HC⟩:∃ C:Array Value,Hid (atc a=C):=⟨_,hid rfl⟩
 obtain ⟨G,HG⟩:∃ C:Array Value,Hid (hcells a.tg=C):=⟨_,hid rfl⟩
 rw [HL.out,HC.out] at HTD
 rw [HC.out] at HMA hb0 hA
 rw [HG.out] at HKC
 rw [HR.out,HC.out]
 have HX:Hid (∀ W:World,BoxA W w.heap.size a→W.cell? ⟨w.heap.size,0,none⟩=some (.int .i64 a.bo)∧loadAtt (.pointer (some ⟨w.heap.size,0,none⟩)) W=.ok (.value (.agg C)) W∧loadH (.pointer (some ⟨w.heap.size,69,none⟩)) W=.ok (.value (.agg G)) W):=hid (fun W h=>by
  have h1:=loadAtt_eq h ho
  have h2:=loadH_mid (h.tag ho) ho.tg
  rw [HC.out] at h1
  rw [HG.out] at h2
  exact ⟨h.cells.1,h1,h2⟩)
 clear hK ho HL HQ HR
 go_enter Tryz.func126,Tryz.ntmps126
 go_upto_region 1 with (fail)
 generalize (w.alloc (.cells C 54))=w0 at *
 have HXW:=hid (fun W (h:Below w0.heap.size w0 W)=>HX.out W (hA.keep h))
 have hbd:Below w0.heap.size w0 w0.drew:=(Below.refl _ _).drew
 clear hA
 refine wp_region_held_drew (S:=fun W=>W.cell? ⟨w.heap.size,0,none⟩=some (.int .i64 a.bo)∧loadAtt (.pointer (some ⟨w.heap.size,0,none⟩)) W=.ok (.value (.agg C)) W∧loadH (.pointer (some ⟨w.heap.size,69,none⟩)) W=.ok (.value (.agg G)) W) (by kernel_rfl) (HXW.out _ hbd) (fun hHeld=>?_)
 refine' tk (i:=0) (v:=_) rfl (fun W hW=>hW.2.1) ?_
 try simp only [lay]
 refine call_on (i:=1) rfl (by kernel_rfl) (by rfl) (fun K hK=>?_)
 go_simp
 refine (HMA.out w0.drew).mono ?_
 rintro e w2 ⟨rfl,hb2'⟩
 have hb2:=hbd.trans hb2'
 refine hK.out _ _ (HXW.out _ hb2) (fun hHeld=>?_)
 clear hK K
 try simp only [lay]
 cases m with
 | false=>
  simp only [Bool.false_eq_true,if_false]
  refine' tkq 2 rfl ?_;try simp only [lay]
  refine' tkq 3 rfl ?_;try simp only [lay]
  refine tf (i:=4) rfl ?_
  try simp only [lay]
  refine tf (i:=5) rfl ?_
  try simp only [lay]
  refine tf (i:=6) rfl ?_
  try simp only [lay]
  refine tf (i:=7) rfl ?_
  try simp only [lay]
  refine tf (i:=8) rfl ?_
  try simp only [lay]
  refine tf (i:=9) rfl ?_
  try simp only [lay]
  refine tf (i:=10) rfl ?_
  try simp only [lay]
  refine tf (i:=11) rfl ?_
  try simp only [lay]
  refine' tkq 12 rfl ?_;try simp only [lay]
  refine' tkq 13 rfl ?_;try simp only [lay]
  refine wpAnyH_done (by kernel_rfl) ?_ _
  go_wp2_with fail
  go_ret
  exact ⟨rfl,hb0.trans (hb2.mono hb0.size)⟩
 | true=>
  simp only [if_true]
  refine' tkq 2 rfl ?_;try simp only [lay]
  refine' tkq 3 rfl ?_;try simp only [lay]
  refine' tkq 4 rfl ?_;try simp only [lay]
  refine' tkq2 5 rfl ?_;try simp only [lay]
  refine' tkq 6 rfl ?_;try simp only [lay]
  refine' tk (i:=7) (v:=_) rfl (fun W hW=>hW.2.2) ?_
  try simp only [lay]
  refine' tk (i:=8) (v:=_) rfl (fun W hW=>hW.2.1) ?_
  try simp only [lay]
  refine call_on (i:=9) rfl (by kernel_rfl) (by rfl) (fun K hK=>?_)
  go_simp
  refine (HTD.out rfl w2).mono ?_
  rintro e w3 ⟨v3,rfl,ho3,hb3'⟩
  have hb3:=hb2.trans (hb3'.mono hb2.size)
  have hv3:=ho3.byt
  obtain ⟨A3,c3,rfl⟩:=hv3.shape
  refine hK.out _ _ (HXW.out _ hb3) (fun hHeld=>?_)
  clear hK K
  try simp only [lay]
  have hb4:Below w0.heap.size w0 (w3.alloc (.cells #[.slice A3 L.length c3] 33)):=hb3.alloc hb3.size _
  refine call_on (i:=10) rfl (by kernel_rfl) (by rfl) (fun K hK=>?_)
  go_simp
  refine hK.out _ _ (HXW.out _ hb4) (fun hHeld=>?_)
  clear hK K
  try simp only [lay]
  refine call_on (i:=11) rfl (by kernel_rfl) (by rfl) (fun K hK=>?_)
  go_simp
  refine (HKC.out rfl (.slice A3 L.length c3) w3.heap.size 1 (w3.alloc (.cells #[.slice A3 L.length c3] 33)) (hb0.trans (hb4.mono hb0.size)) (by simp) (by simp) (hv3.alloc _)).mono ?_
  rintro e w5 ⟨rfl,hb5'⟩
  have hb5:=hb4.trans (hb5'.mono hb4.size)
  refine hK.out _ _ (HXW.out _ hb5) (fun hHeld=>?_)
  clear hK K
  try simp only [lay]
  refine' tkq 12 rfl ?_;try simp only [lay]
  refine' tkq 13 rfl ?_;try simp only [lay]
  refine wpAnyH_done (by kernel_rfl) ?_ _
  go_wp2_with fail
  go_ret
  exact ⟨rfl,hb0.trans (hb5.mono hb0.size)⟩
end Go.Proofs.YtpdnnmabijmfbaaGreatDoor
namespace Go.Proofs.YtpdnnmabijmfbaaGreatDoor
set_option maxRecDepth 20000
open Go.RowKit
attribute [local go_sem ↓] exec_load_se
def SePutOwn:Prop:=∀ (i n:Int) (s:SeM) (w:World),(Lit.int .i64 i).wf=true→(Lit.int .i64 n).wf=true→s.Ok→Kst 1 w→
 Calls Tryz.prog 87 #[.int .i64 i,.int .i64 n,.agg (sec s)] w fun e w'=>∃ x,e=.returned (.tuple #[x,.int .i64 (if putOkS i n s=true then 0 else 1)])∧Own w.heap.size w' x (if putOkS i n s=true then blobS i n s else [])∧Below w.heap.size w w'
set_option maxHeartbeats 3200000 in
theorem sePut_own:SePutOwn:=by
 intro i n s w hi hn ho hK
 have hb0:Below w.heap.size w (w.alloc (.cells (sec s) 40)):=(Below.refl _ _).alloc (Nat.le_refl _) _
 have hA:=BoxSe.new w s
 obtain ⟨C,HC⟩:∃ C:Array Value,Hid (sec s=C):=⟨_,hid rfl⟩
 obtain ⟨m,HM⟩:∃ q:Bool,Hid (mayS s=q):=⟨_,hid rfl⟩
 obtain ⟨nd,HND⟩:∃ q:Bool,Hid (nodeB i=q):=⟨_,hid rfl⟩
 obtain ⟨vs,HVS⟩:∃ q:Bool,Hid (versB n=q):=⟨_,hid rfl⟩
 obtain ⟨L,HL⟩:∃ x:List UInt8,Hid (taggedS n s=x):=⟨_,hid rfl⟩
 obtain ⟨T,HT⟩:∃ x:List UInt8,Hid (tagS i n s=x):=⟨_,hid rfl⟩
 obtain ⟨er,HER⟩:∃ x:Int,Hid ((if putOkS i n s=true then (0:Int) else 1)=x):=⟨_,hid rfl⟩
 obtain ⟨OL,HOL⟩:∃ x:List UInt8,Hid ((if putOkS i n s=true then blobS i n s else [])=x):=⟨_,hid rfl⟩
 have HP:Hid (putOkS i n s=(nd && (vs && m))):=hid (by rw [← HND.out,← HVS.out,← HM.out];rfl)
 have HTL:Hid (T.length=32):=hid (by rw [← HT.out];exact tagS_len i n s)
 have HCK:Hid (∀ W,Calls Tryz.prog 86 #[.agg C] W fun e w'=>e=.returned (.int .i64 (if m=true then 0 else 1))∧Below W.heap.size W w'):=hid (fun W=>by
  have:=seCheck_ok s W ho
  rw [HM.out,HC.out] at this
  exact this)
 have HLL:Hid (vs=true→m=true→L.length≤72):=hid (fun h1 h2=>by rw [← HL.out];exact taggedS_len ho (HVS.out.trans h1) (HM.out.trans h2))
 have HTD:Hid (vs=true→m=true→∀ W,Calls Tryz.prog 112 #[.int .i64 n,.agg C] W fun e w'=>∃ x,e=.returned x∧Own W.heap.size w' x L∧Below W.heap.size W w'):=hid (fun h1 h2 W=>by
  have:=setagged_any n s W ho (HVS.out.trans h1) (HM.out.trans h2)
  rw [HL.out,HC.out] at this
  exact this)
 have HTG:Hid (∀ v gp c W,Below w.heap.size w W→gp < W.heap.size→W.cell? ⟨gp,0,none⟩=some v→Byt W v L→L.length≤1000000→Calls Tryz.prog 83 #[.int .i64 i,.int .u8 3,.slice (some ⟨gp,0,none⟩) 1 c] W fun e w'=>e=.returned (.agg (hcells T))∧Below W.heap.size W w'):=hid (fun v gp c W h h1 h2 h3 h4=>by
  have:=tag_one i 3 v L gp c W h1 h2 h3 h4 (hK.below h)
  rw [← HT.out]
  unfold tagS
  rw [HL.out]
  exact this)
 have HOY:Hid (nd=true→vs=true→m=true→OL=L ++ T):=hid (fun h1 h2 h3=>by
  rw [← HOL.out,HP.out,h1,h2,h3]
  show blobS i n s=_
  unfold blobS
  rw [HL.out,HT.out])
 have HLD0:=hid (fun (W:World) (h:BoxSe W w.heap.size s)=>loadSe_eq h ho)
 rw [HC.out] at HLD0 hb0 hA ⊢
 rw [HER.out,HOL.out]
 clear hi hn hK ho
 go_enter Tryz.func87,Tryz.ntmps87
 go_upto_region 1 with (fail)
 generalize (w.alloc (.cells C 40))=w0 at *
 have HLD:Hid (∀ W,Below w0.heap.size w0 W→loadSe (.pointer (some ⟨w.heap.size,0,none⟩)) W=.ok (.value (.agg C)) W):=hid (fun W h=>HLD0.out W (hA.keep h))
 have HB0:=hid hb0
 have l0:=HLD.out w0 (Below.refl _ _)
 clear hA hb0 HLD0
 go_wp2_with fail
 refine (HCK.out w0).mono ?_
 rintro e w1 ⟨rfl,hb1⟩
 have HB1:=hid hb1
 clear l0 hb1
 cases m with
 | false=>
  obtain rfl:er=1:=by rw [← HER.out,HP.out];cases nd <;> cases vs <;> rfl
  obtain rfl:OL=[]:=by rw [← HOL.out,HP.out];cases nd <;> cases vs <;> rfl
  simp only [Bool.false_eq_true,if_false]
  go_wp2_with fail
  go_ret2
  exact ⟨_,rfl,Own.nil _ _,HB0.out.trans (HB1.out.mono HB0.out.size)⟩
 | true=>
  have HTD1:=hid (fun h=>HTD.out h rfl)
  have HLL1:=hid (fun h=>HLL.out h rfl)
  have HOY1:=hid (fun h1 h2=>HOY.out h1 h2 rfl)
  simp only [if_true]
  go_wp2_with fail
  refine (node_any i w1).mono ?_
  rintro e w2 ⟨rfl,rfl⟩
  rw [HND.out]
  cases nd with
  | false=>
   obtain rfl:er=1:=by rw [← HER.out,HP.out];rfl
   obtain rfl:OL=[]:=by rw [← HOL.out,HP.out];rfl
   go_wp2_with fail
   go_ret2
   exact ⟨_,rfl,Own.nil _ _,HB0.out.trans (HB1.out.mono HB0.out.size)⟩
  | true=>
   have HOY2:=hid (fun h2=>HOY1.out rfl h2)
   go_wp2_with fail
   refine (seVers_any n w1).mono ?_
   rintro e w2 ⟨rfl,rfl⟩
   rw [HVS.out]
   cases vs with
   | false=>
    obtain rfl:er=1:=by rw [← HER.out,HP.out];rfl
    obtain rfl:OL=[]:=by rw [← HOL.out,HP.out];rfl
    go_wp2_with fail
    go_ret2
    exact ⟨_,rfl,Own.nil _ _,HB0.out.trans (HB1.out.mono HB0.out.size)⟩
   | true=>
    obtain rfl:er=0:=by rw [← HER.out,HP.out];rfl
    obtain rfl:OL=L ++ T:=HOY2.out rfl
    have l1:=HLD.out w1 HB1.out
    have HL72:=hid (HLL1.out rfl)
    have HTD2:=hid (HTD1.out rfl)
    go_wp2_with fail
    refine (HTD2.out w1).mono ?_
    rintro e w3 ⟨v3,rfl,ho3,hb3'⟩
    have hb3:=HB1.out.trans (hb3'.mono HB1.out.size)
    have hv3:=ho3.byt
    obtain ⟨A3,c3,rfl⟩:=hv3.shape
    obtain ⟨n3,HN3⟩:∃ k:Nat,Hid (L.length=k):=⟨_,hid rfl⟩
    rw [HN3.out] at hv3 ⊢
    have hb4:Below w0.heap.size w0 (w3.alloc (.cells #[.slice A3 n3 c3] 33)):=hb3.alloc hb3.size _
    have hv4:=hv3.alloc (.cells #[.slice A3 n3 c3] 33)
    clear l1 ho3 hb3'
    go_wp2_with fail
    refine (HTG.out (.slice A3 n3 c3) w3.heap.size 1 (w3.alloc (.cells #[.slice A3 n3 c3] 33)) (HB0.out.trans (hb4.mono HB0.out.size)) (by simp) (alloc_cell0 _ _ _) hv4 (by have:=HL72.out;omega)).mono ?_
    rintro e w5 ⟨rfl,hb5'⟩
    have hb5:=hb4.trans (hb5'.mono hb4.size)
    have hv5:=hv4.below hb5'
    have hr5:=heap_alloc_new w5 (.cells (hcells nought) 38)
    obtain ⟨TC,HTC⟩:∃ x:Array Value,Hid (hcells T=x):=⟨_,hid rfl⟩
    rw [HTC.out]
    clear hb3 hv3 hb4 hv4 hb5'
    go_upto_region 5 with (first
     | (refine wpList_alloc_hash rfl rfl ?_)
     | (refine wpList_store_hash (h':=T) rfl _ _ rfl rfl (by rw [HTC.out];rfl) hr5 nought_length HTL.out ?_;intro w7 hg7 hr7 hs7;have hb57:Below w5.heap.size w5 w7:=below_into ((Below.refl _ _).alloc (Nat.le_refl _) _) (Nat.le_refl _) hg7 (al_le _ _);have hb7:=hb5.trans (hb57.mono hb5.size);have hv7:=hv5.below hb57))
    clear hb57 hv5 hr5 hb5
    obtain ⟨gt,HGT⟩:∃ g:Nat,Hid (w5.heap.size=g):=⟨_,hid rfl⟩
    rw [HGT.out] at hr7 ⊢
    have hlt7:=lt_of_block hr7.out
    have hy7:Byt w7 (.slice (some ⟨gt,0,none⟩) 32 32) T:=byt_range (fun j u hu=>by rw [Nat.zero_add,cell_blk hr7.out j];simpa [hcells] using hu) hlt7 HTL.out (by unfold maxLen;omega)
    have HY7:=hid hy7
    have HV7:=hid hv7
    have HB7:=hid hb7
    clear hg7 hs7 hr7 hy7 hv7 hb7
    go_wp2_with fail
    refine (concat2 (.slice A3 n3 c3) (.slice (some ⟨gt,0,none⟩) 32 32) L T w7.heap.size 2 (w7.alloc (.cells #[.slice A3 n3 c3,.slice (some ⟨gt,0,none⟩) 32 32] 33)) (by simp) (by simp) (by simp) (HV7.out.alloc _) (HY7.out.alloc _) (by have:=HL72.out;have:=HTL.out;omega)).mono ?_
    rintro e w8 ⟨v8,rfl,ho8,hb8'⟩
    have hb8:=(HB7.out.alloc HB7.out.size (.cells #[.slice A3 n3 c3,.slice (some ⟨gt,0,none⟩) 32 32] 33)).trans (hb8'.mono (by have:=HB7.out.size;simp;omega))
    go_wp2_with fail
    go_ret2
    exact ⟨_,rfl,ho8.more (by have:=HB7.out.size;have:=HB0.out.size;simp;omega),HB0.out.trans (hb8.mono HB0.out.size)⟩
theorem sePut_ok:SePutOk:=fun i n s w hi hn ho hK=>(sePut_own i n s w hi hn ho hK).mono fun _ _ ⟨x,he,hx,hb⟩=>⟨x,he,hx.byt,hb⟩
end Go.Proofs.YtpdnnmabijmfbaaGreatDoor
namespace Go.Proofs.YtpdnnmabijmfbaaGreatDoor
set_option maxRecDepth 20000
open Go.RowKit
attribute [local go_sem ↓] exec_load_tx exec_load_hash
set_option maxHeartbeats 1600000 in
theorem equalT_any (va vb:Value) (ta tb:List TxM) (w0:World) (hta:Txs w0 va ta) (htb:Txs w0 vb tb):
  Calls Tryz.prog 162 #[va,vb] w0 fun e w'=>e=.returned (.bool (decide (ta=tb)))∧Below w0.heap.size w0 w':=by
 obtain ⟨ans,HAN⟩:∃ q:Bool,Hid (decide (ta=tb)=q):=⟨_,hid rfl⟩
 rw [HAN.out]
 obtain ⟨AA,ca,rfl⟩:=hta.shape
 obtain ⟨AB,cb,rfl⟩:=htb.shape
 obtain ⟨LA,HLA⟩:∃ n:Nat,Hid (ta.length=n):=⟨_,hid rfl⟩
 obtain ⟨LB,HLB⟩:∃ n:Nat,Hid (tb.length=n):=⟨_,hid rfl⟩
 have hlena:=hta.len
 have hlenb:=htb.len
 rw [HLA.out] at hta hlena ⊢
 rw [HLB.out] at htb hlenb ⊢
 unfold maxLen at hlena hlenb
 by_cases e4:LA=LB
 ·subst e4
  have t4:((LA:Int) != (LA:Int))=false:=by simp
  obtain ⟨_,hca1,hca2,hra⟩:=hta.at_
  obtain ⟨_,hcb1,hcb2,hrb⟩:=htb.at_
  rw [HLA.out] at hca1
  rw [HLB.out] at hcb1
  unfold maxLen at hca2 hcb2
  have HRA:=hid hra
  have HRB:=hid hrb
  clear hra hrb hta htb
  go_enter Tryz.func162,Tryz.ntmps162
  go_wp2_with fail
  clear t4
  go_loopw [13] (fun si wr=>∃ i:Nat,i≤LA∧si=.int .i64 i∧Hid (∀ j (h:j < ta.length) (h2:j < tb.length),j < i→ta[j]=tb[j])∧∃ n,wr=w0.drewN n) (fun si _=>LA - (intOf si).toNat)
  case atStart=>exact ⟨0,Nat.zero_le _,rfl,hid (fun j _ _ h=>absurd h (by omega)),0,rfl⟩
  case round=>
   obtain ⟨i,hi,rfl,HB,n,rfl⟩:=hrel
   by_cases hlt:i < LA
   ·have hil:i < ta.length:=by rw [HLA.out];exact hlt
    have him:i < tb.length:=by rw [HLB.out];exact hlt
    obtain ⟨ba,oa',rfl,hba,hcla⟩:=HRA.out (by omega)
    obtain ⟨bb,ob',rfl,hbb,hclb⟩:=HRB.out (by omega)
    have l1:∀ k,loadTx (.pointer (some ⟨ba,oa' + i * 7,none⟩)) (w0.drewN k)=.ok (.value (txv ta[i])) (w0.drewN k):=fun k=>loadTx_mid (hcla i hil)
    have l2:∀ k,loadTx (.pointer (some ⟨bb,ob' + i * 7,none⟩)) (w0.drewN k)=.ok (.value (txv tb[i])) (w0.drewN k):=fun k=>loadTx_mid (hclb i him)
    have hI:(i:Int) < (LA:Int):=by omega
    have eqt:∀ W,(Op.equalIn 10000 170 (txv ta[i]) (txv tb[i])).run Tryz.prog W=.ok (decide (ta[i]=tb[i])) W:=fun W=>eq_tx2 _ _ W
    clear hcla hclb
    obtain ⟨X,HX⟩:∃ C:Array Value,Hid ((tcl ta[i]).toArray=C):=⟨_,hid rfl⟩
    obtain ⟨Y,HY⟩:∃ C:Array Value,Hid ((tcl tb[i]).toArray=C):=⟨_,hid rfl⟩
    rw [txv_tcl,HX.out] at l1 eqt
    rw [txv_tcl,HY.out] at l2 eqt
    by_cases hxy:ta[i]=tb[i]
    ·rw [decide_eq_true hxy] at eqt
     go_wp2_with fail
     go_quiet (fail)
     go_wp2
     go_roundw
     case rel=>
      refine ⟨i + 1,by omega,by go_num,hid (fun j h h2 hj=>?_),_,rfl⟩
      by_cases hji:j < i
      ·exact HB.out j h h2 hji
      ·obtain rfl:j=i:=by omega
       exact hxy
     case measure=>simp [intOf];omega
    ·rw [decide_eq_false hxy] at eqt
     go_wp2_with fail
     go_quiet (fail)
     go_wp2
     go_ret
     have e:ans=false:=by
      rw [← HAN.out]
      exact decide_eq_false (fun e=>by subst e;exact hxy rfl)
     subst e
     exact ⟨rfl,below_drewN (below_drewN (Below.refl _ _) _) _⟩
   ·obtain rfl:i=LA:=by omega
    go_wp2
    go_ret
    have e:ans=true:=by
     rw [← HAN.out]
     exact decide_eq_true (List.ext_getElem (by rw [HLA.out,HLB.out]) fun j h h2=>HB.out j h h2 (by have:=HLA.out;omega))
    subst e
    exact ⟨rfl,below_drewN (Below.refl _ _) n⟩
 ·have t4:((LA:Int) != (LB:Int))=true:=by simp;omega
  obtain rfl:ans=false:=by
   rw [← HAN.out]
   exact decide_eq_false (fun e=>by rw [e] at HLA;exact e4 (HLA.out.symm.trans HLB.out))
  clear e4 hta htb
  go_enter Tryz.func162,Tryz.ntmps162
  go_wp2_with fail
  go_ret
  exact ⟨rfl,Below.refl _ _⟩
set_option maxHeartbeats 1600000 in
theorem bkSame_ok:BkSameOk:=by
 intro va vb a b w hva hvb
 obtain ⟨sa,rfl,hpa,hta⟩:=hva
 obtain ⟨sb,rfl,hpb,htb⟩:=hvb
 have hb0:Below w.heap.size w ((w.alloc (.cells (bkc a sa) 49)).alloc (.cells (bkc b sb) 49)):=((Below.refl _ _).alloc (Nat.le_refl _) _).alloc (by simp) _
 have hA:BoxK ((w.alloc (.cells (bkc a sa) 49)).alloc (.cells (bkc b sb) 49)) w.heap.size a sa:=(Below.heap_alloc _ _ _ (by simp)).trans (heap_alloc_new w _)
 have hB:BoxK ((w.alloc (.cells (bkc a sa) 49)).alloc (.cells (bkc b sb) 49)) (w.heap.size + 1) b sb:=BoxK.two w _ b sb
 have hta0:=hta.below hb0
 have htb0:=htb.below hb0
 obtain ⟨CA,HCA⟩:∃ C:Array Value,Hid (bkc a sa=C):=⟨_,hid rfl⟩
 obtain ⟨CB,HCB⟩:∃ C:Array Value,Hid (bkc b sb=C):=⟨_,hid rfl⟩
 rw [HCA.out,HCB.out] at hA hB hb0 hta0 htb0 ⊢
 obtain ⟨ans,HAN⟩:∃ q:Bool,Hid (sameK a b=q):=⟨_,hid rfl⟩
 rw [HAN.out]
 go_enter Tryz.func116,Tryz.ntmps116
 go_upto_region 1 with (fail)
 generalize ((w.alloc (.cells CA 49)).alloc (.cells CB 49))=w0 at *
 clear HCA HCB hta htb
 obtain ⟨a1,a2,a3,a4⟩:=hA.cells hpa
 obtain ⟨b1,b2,b3,b4⟩:=hB.cells hpb
 have la:=loadH_mid hA.range hpa
 have lb:=loadH_mid hB.range hpb
 have heq:=eq_hash a.par b.par hpa hpb w0
 clear hA hB
 obtain ⟨q,HQ⟩:∃ q:Bool,Hid (decide (a.par=b.par)=q):=⟨_,hid rfl⟩
 rw [HQ.out] at heq
 obtain ⟨HA,HHA⟩:∃ C:Array Value,Hid (hcells a.par=C):=⟨_,hid rfl⟩
 obtain ⟨HB,HHB⟩:∃ C:Array Value,Hid (hcells b.par=C):=⟨_,hid rfl⟩
 rw [HHA.out] at la heq
 rw [HHB.out] at lb heq
 clear HHA HHB
 obtain ⟨pa,va,ha,oa,ta⟩:=a
 obtain ⟨pb,vb,hh,ob,tb⟩:=b
 simp only at a1 a2 a3 a4 b1 b2 b3 b4 hta0 htb0 HQ hpa hpb
 have hway:(q=false)∨(q=true∧va≠vb)∨(q=true∧va=vb∧ha≠hh)∨(q=true∧va=vb∧ha=hh∧oa≠ob)∨(q=true∧va=vb∧ha=hh∧oa=ob):=by
  cases q
  ·exact .inl rfl
  ·right
   by_cases e1:va=vb
   ·right
    by_cases e2:ha=hh
    ·right
     by_cases e3:oa=ob
     ·exact .inr ⟨rfl,e1,e2,e3⟩
     ·exact .inl ⟨rfl,e1,e2,e3⟩
    ·exact .inl ⟨rfl,e1,e2⟩
   ·exact .inl ⟨rfl,e1⟩
 obtain rfl | ⟨rfl,e1⟩ | ⟨rfl,rfl,e2⟩ | ⟨rfl,rfl,rfl,e3⟩ | ⟨rfl,rfl,rfl,rfl⟩:=hway
 ·obtain rfl:ans=false:=by
   rw [← HAN.out]
   exact sameK_no (fun e=>by injection e with e _;exact of_decide_eq_false HQ.out e)
  go_wp2_with fail
  go_ret
  exact ⟨rfl,hb0⟩
 ·obtain rfl:ans=false:=by
   rw [← HAN.out]
   exact sameK_no (fun e=>by injection e with _ e _;exact e1 e)
  have t1:(va == vb)=false:=by simpa using e1
  clear e1
  go_wp2_with fail
  go_ret
  exact ⟨rfl,hb0⟩
 ·obtain rfl:ans=false:=by
   rw [← HAN.out]
   exact sameK_no (fun e=>by injection e with _ _ e _;exact e2 e)
  have t1:(va == va)=true:=by simp
  have t2:(ha == hh)=false:=by simpa using e2
  clear e2
  go_wp2_with fail
  go_ret
  exact ⟨rfl,hb0⟩
 ·obtain rfl:ans=false:=by
   rw [← HAN.out]
   exact sameK_no (fun e=>by injection e with _ _ _ e _;exact e3 e)
  have t1:(va == va)=true:=by simp
  have t2:(ha == ha)=true:=by simp
  have t3:(oa == ob)=false:=by simpa using e3
  clear e3
  go_wp2_with fail
  go_ret
  exact ⟨rfl,hb0⟩
 ·have t1:(va == va)=true:=by simp
  have t2:(ha == ha)=true:=by simp
  have t3:(oa == oa)=true:=by simp
  obtain ⟨A,c,rfl⟩:=hta0.shape
  obtain ⟨A',c',rfl⟩:=htb0.shape
  go_wp2_with fail
  refine (equalT_any _ _ ta tb w0 hta0 htb0).mono ?_
  rintro e w1 ⟨rfl,hb1⟩
  clear t1 t2 t3 heq la lb a1 a2 a3 a4 b1 b2 b3 b4
  have e:decide (ta=tb)=ans:=by
   rw [← HAN.out]
   have hp:pa=pb:=of_decide_eq_true HQ.out
   subst hp
   by_cases h:ta=tb
   ·subst h
    rw [sameK_self]
    exact decide_eq_true rfl
   ·rw [sameK_no (fun e=>by injection e with _ _ _ _ e;exact h e)]
    exact decide_eq_false h
  rw [e]
  go_wp2_with fail
  go_ret
  exact ⟨rfl,hb0.trans (hb1.mono hb0.size)⟩
theorem results_k1 {fn:Func} {p:Tmp} (h:fn.results=#[.cell p 49]) (tmps:Array Value) (w:World) (g:Nat) (t:TypeId) (xs:Array Value)
  (hp:tmps.getD p undef=.pointer (some ⟨g,0,none⟩)) (h1:w.heap[g]?=some (.cells xs t (0,0))) (hx:xs.size=36):(results fn tmps).run Tryz.prog w=.ok (.agg xs) w:=
 results_cell_row h tmps w g t xs (0,0) _ hp h1 under_bk rfl (by rw [size_bk,hx])
attribute [local go_sem ↓] exec_load_bk exec_build_bk exec_alloc_bk exec_store_bk
set_option maxHeartbeats 1600000 in
theorem bkFirst_ok:BkFirstOk:=by
 intro w
 obtain ⟨Z,HZ⟩:∃ C:Array Value,Hid (bkc bkZ (.slice none 0 0)=C):=⟨_,hid rfl⟩
 have hbz:∀ W,buildK W=.ok (.value (.agg Z)) W:=fun W=>by rw [← HZ.out];exact buildK_eq W
 have hal:∀ W,allocK W=.ok (.value (.pointer (some ⟨W.heap.size,0,none⟩))) (W.alloc (.cells Z 49)):=fun W=>by rw [← HZ.out];exact allocK_eq W
 have hsz:Z.size=36:=by rw [← HZ.out];exact bkc_size _ bkZ_par
 have hz1:Z.all (·.oneCell')=true:=by rw [← HZ.out];exact bkc_one (w:=w) (b:=bkZ) (Txs.nil w)
 have hg:=heap_alloc_new w (.cells Z 49)
 have hs0:storeK (.pointer (some ⟨w.heap.size,0,none⟩)) (.agg Z) (w.alloc (.cells Z 49))=.ok .skip (w.alloc (.cells Z 49)):=by
  rw [storeK_eq hg hsz hsz hz1,setK_self hg]
 have HG:=hid hg
 have HSZ:=hid hsz
 clear hg hsz hz1
 go_enter Tryz.func117,Tryz.ntmps117
 go_wp2_with fail
 refine bodyPost_ret (results_k1 rfl _ _ _ _ _ rfl HG.out HSZ.out) rfl ⟨_,rfl,?_,(Below.refl _ _).alloc (Nat.le_refl _) _⟩
 exact ⟨.slice none 0 0,by rw [HZ.out],bkZ_par,Txs.nil _⟩
set_option maxHeartbeats 1600000 in
theorem bkIsFirst_ok (v:Value) (b:BkM) (w:World) (hv:BkV w v b):
  Calls Tryz.prog 160 #[v] w fun e w'=>e=.returned (.bool (sameK b bkZ))∧Below w.heap.size w w':=by
 have HV:=hid (fun W (h:Below w.heap.size w W)=>hv.below h)
 obtain ⟨s,rfl,hp,ht⟩:=hv
 obtain ⟨C,HC⟩:∃ C:Array Value,Hid (bkc b s=C):=⟨_,hid rfl⟩
 rw [HC.out] at HV ⊢
 have HSZ:Hid (C.size=36):=hid (by rw [← HC.out];exact bkc_size _ hp)
 have hr0:=heap_alloc_new w (.cells C 49)
 have hb0:Below w.heap.size w (w.alloc (.cells C 49)):=(Below.refl _ _).alloc (Nat.le_refl _) _
 have hldA:∀ W:World,W.heap[w.heap.size]?=some (.cells C 49 (0,0))→loadK (.pointer (some ⟨w.heap.size,0,none⟩)) W=.ok (.value (.agg C)) W:=fun W h=>loadK_row h HSZ.out
 obtain ⟨ans,HAN⟩:∃ q:Bool,Hid (sameK b bkZ=q):=⟨_,hid rfl⟩
 have HSM:Hid (∀ x W,Below w.heap.size w W→BkV W x bkZ→Calls Tryz.prog 116 #[.agg C,x] W fun e w'=>e=.returned (.bool ans)∧Below W.heap.size W w'):=hid (fun x W h hx=>by
  have:=bkSame_ok _ x b bkZ W (HV.out W h) hx
  rw [HAN.out] at this
  exact this)
 rw [HAN.out]
 have HFI:Hid (∀ W:World,Calls Tryz.prog 117 #[] W fun e w'=>∃ x,e=.returned x∧BkV w' x bkZ∧Below W.heap.size W w'):=hid (fun W=>bkFirst_ok W)
 clear ht
 go_enter Tryz.func160,Tryz.ntmps160
 go_upto_region 1 with (fail)
 generalize (w.alloc (.cells C 49))=w0 at *
 have hl0:=lt_of_block hr0
 have hbd:Below w0.heap.size w0 w0.drew:=(Below.refl _ _).drew
 have HR:Hid (∀ W:World,Below w0.heap.size w0 W→W.heap[w.heap.size]?=some (.cells C 49 (0,0))):=hid (fun W h=>(h.block _ hl0).trans hr0)
 have HB:Hid (∀ W:World,Below w0.heap.size w0 W→Below w.heap.size w W):=hid (fun W h=>hb0.trans (h.mono hb0.size))
 clear hr0 hl0
 go_region_held3 (fun W=>W.heap[w.heap.size]?=some (.cells C 49 (0,0)))
  (first
   | (refine HR.out _ hbd)
   | (refine HR.out _ hb2)
   | (refine HR.out _ hb1)
   | fail)
  (first
   | (go_at_call 116;(with_reducible refine (HSM.out x1 _ (HB.out _ hb1) hx1).mono ?_);rintro e w2 ⟨rfl,hb2'⟩;have hb2:=hb1.trans (hb2'.mono hb1.size))
   | (go_at_call 117;(with_reducible refine (HFI.out _).mono ?_);rintro e w1 ⟨x1,rfl,hx1,hb1'⟩;have hb1:=hbd.trans (hb1'.mono hbd.size))
   | fail)
 go_wp2_with fail
 go_ret
 exact ⟨rfl,HB.out _ hb2⟩
end Go.Proofs.YtpdnnmabijmfbaaGreatDoor
namespace Go.Proofs.YtpdnnmabijmfbaaGreatDoor
set_option maxRecDepth 20000
open Go.RowKit
section
variable {w:World} {b c a:Nat} {V:VaM} {v0 v1 vt:Value}
theorem vmade_yes (h:VltE w b c a V v0 v1 vt):Calls Tryz.prog 56 #[.pointer (some ⟨b,0,none⟩)] w fun e w'=>e=.returned (.bool true)∧w=w':=by
 obtain ⟨_,_,_,h3,_,_,_⟩:=h.cells
 clear h
 go_enter Tryz.func56,Tryz.ntmps56
 go_wp2
 go_ret
 exact ⟨rfl,rfl⟩
theorem vmade_none (w:World):Calls Tryz.prog 56 #[.pointer none] w fun e w'=>e=.returned (.bool false)∧w=w':=by
 go_enter Tryz.func56,Tryz.ntmps56
 go_wp2
 go_ret
 exact ⟨rfl,rfl⟩
theorem vmade_no {v:Value} (h:NoVlt w v):Calls Tryz.prog 56 #[v] w fun e w'=>e=.returned (.bool false)∧w=w':=by
 rcases h with rfl | ⟨b,rfl,hc⟩
 ·exact vmade_none w
 ·have h3:w.cell? ⟨b,3,none⟩=some (.pointer none):=by rw [coBlk_cell hc];rfl
  clear hc
  go_enter Tryz.func56,Tryz.ntmps56
  go_wp2
  go_ret
  exact ⟨rfl,rfl⟩
theorem vfault_any (h:VltE w b c a V v0 v1 vt):Calls Tryz.prog 66 #[.pointer (some ⟨b,0,none⟩)] w fun e w'=>e=.returned (.int .i64 (if V.dead=true then 6 else 0))∧w=w':=by
 obtain ⟨_,_,_,_,_,h5,_⟩:=h.cells
 have HM:=hid (vmade_yes h)
 obtain ⟨d,hd⟩:∃ d,V.dead=d:=⟨_,rfl⟩
 rw [hd] at h5 ⊢
 clear h hd
 cases d with
 | true=>
  rw [if_pos rfl]
  go_enter Tryz.func66,Tryz.ntmps66
  go_wp2_with fail
  refine HM.out.mono ?_
  rintro e w1 ⟨rfl,rfl⟩
  go_wp2_with fail
  go_ret
  exact ⟨rfl,rfl⟩
 | false=>
  rw [if_neg (by decide)]
  go_enter Tryz.func66,Tryz.ntmps66
  go_wp2_with fail
  refine HM.out.mono ?_
  rintro e w1 ⟨rfl,rfl⟩
  go_wp2_with fail
  go_ret
  exact ⟨rfl,rfl⟩
theorem vfault_no {v:Value} (h:NoVlt w v):Calls Tryz.prog 66 #[v] w fun e w'=>e=.returned (.int .i64 5)∧w=w':=by
 have HM:=hid (vmade_no h)
 clear h
 go_enter Tryz.func66,Tryz.ntmps66
 go_wp2_with fail
 refine HM.out.mono ?_
 rintro e w1 ⟨rfl,rfl⟩
 go_wp2_with fail
 go_ret
 exact ⟨rfl,rfl⟩
theorem cap_le {n:Int} (h:n≤1099511627776):cap n=n:=by
 unfold cap
 split <;> omega
theorem vcount_any (h:VltE w b c a V v0 v1 vt) (g:V.Good):Calls Tryz.prog 67 #[.pointer (some ⟨c,0,none⟩)] w fun e w'=>e=.returned (.int .i64 V.n)∧w=w':=by
 have:=at_yes h.k g.n0
 rw [cap_le g.n1] at this
 exact this
theorem vnext_any (h:VltE w b c a V v0 v1 vt) (g:V.Good):Calls Tryz.prog 88 #[.pointer (some ⟨b,0,none⟩)] w fun e w'=>e=.returned (.int .i64 (V.n + 1))∧w=w':=by
 obtain ⟨_,_,_,h3,_,_,_⟩:=h.cells
 have HC:=hid (vcount_any h g)
 have h0:=g.n0
 have h1:=g.n1
 have hw:IntKind.i64.wrap (V.n + 1)=V.n + 1:=by rw [IntKind.wrap_i64];omega
 clear h g
 generalize V.n=n at *
 go_enter Tryz.func88,Tryz.ntmps88
 go_wp2_with fail
 refine HC.out.mono ?_
 rintro e w1 ⟨rfl,rfl⟩
 go_wp2_with fail
 go_ret
 exact ⟨rfl,rfl⟩
theorem vplace_any (h:VltE w b c a V v0 v1 vt) (g:V.Good):Calls Tryz.prog 137 #[.pointer (some ⟨b,0,none⟩)] w fun e w'=>e=.returned (.int .i64 (placeV V))∧w=w':=by
 have HC:=hid (vnext_any h g)
 have h0:=g.n0
 have h1:=g.n1
 have q0:(V.n + 1).tmod 2=placeV V:=by unfold placeV;rw [Int.tmod_eq_emod_of_nonneg (by omega)]
 have q1:IntKind.i64.wrap (placeV V)=placeV V:=by unfold placeV;rw [IntKind.wrap_i64];omega
 clear h g
 generalize placeV V=k at *
 generalize V.n=n at *
 go_enter Tryz.func137,Tryz.ntmps137
 go_wp2_with fail
 refine HC.out.mono ?_
 rintro e w1 ⟨rfl,rfl⟩
 go_wp2_with fail
 go_ret
 exact ⟨rfl,rfl⟩
theorem visSlot_any (k:Int) (w:World):Calls Tryz.prog 57 #[.int .i64 k] w fun e w'=>e=.returned (.bool (decide (0≤k) && decide (k < 2)))∧w=w':=by
 by_cases h0:0≤k
 ·rw [decide_eq_true h0,Bool.true_and]
  by_cases h1:k < 2
  ·rw [decide_eq_true h1]
   go_enter Tryz.func57,Tryz.ntmps57
   go_wp2
   go_ret
   exact ⟨rfl,rfl⟩
  ·rw [decide_eq_false h1]
   go_enter Tryz.func57,Tryz.ntmps57
   go_wp2
   go_ret
   exact ⟨rfl,rfl⟩
 ·rw [decide_eq_false h0,Bool.false_and]
  go_enter Tryz.func57,Tryz.ntmps57
  go_wp2
  go_ret
  exact ⟨rfl,rfl⟩
theorem vstep_any (h:VltE w b c a V v0 v1 vt) (g:V.Good):Calls Tryz.prog 136 #[.pointer (some ⟨b,0,none⟩)] w fun e w'=>e=.returned (.bool (stepB V))∧VltE w' b c a (stepV V) v0 v1 vt∧Turn b a w w':=by
 obtain ⟨_,_,_,_,h4,_,_⟩:=h.cells
 have f4:=h.free 4
 have f5:=h.free 5
 have hA:∀ w',Calls Tryz.prog 136 #[.pointer (some ⟨b,0,none⟩)] w (fun e w2=>e=.returned (.bool (stepB V))∧w'=w2)→VltE w' b c a (stepV V) v0 v1 vt→Turn b a w w'→
   Calls Tryz.prog 136 #[.pointer (some ⟨b,0,none⟩)] w fun e w'=>e=.returned (.bool (stepB V))∧VltE w' b c a (stepV V) v0 v1 vt∧Turn b a w w':=by
  intro w' h1 h2 h3
  refine h1.mono ?_
  rintro e w2 ⟨he,rfl⟩
  exact ⟨he,h2,h3⟩
 have gl:=g.left0
 have gr:=g.left1
 by_cases e1:V.left=-1
 ·refine hA w ?_ (by unfold stepV;rw [if_neg (by omega),if_pos (by omega)];exact h) (Turn.refl _ _ _)
  have e2:stepB V=true:=by unfold stepB;rw [e1];rfl
  rw [e2]
  rw [e1] at h4
  clear hA h g gl gr e1 e2
  go_enter Tryz.func136,Tryz.ntmps136
  go_wp2
  go_ret
  exact ⟨rfl,rfl⟩
 by_cases e0:V.left=0
 ·refine hA (w.setCell ⟨b,5,none⟩ (.bool true)) ?_ (by unfold stepV;rw [if_pos e0];exact h.setDead true) ((Turn.refl _ _ _).setB _ _)
  have e2:stepB V=false:=by unfold stepB;rw [e0];rfl
  rw [e2]
  rw [e0] at h4
  obtain ⟨_,_,_,_,_,h5,_⟩:=h.cells
  clear hA h g gl gr e1 e2 e0
  go_enter Tryz.func136,Tryz.ntmps136
  go_wp2
  go_ret
  exact ⟨rfl,rfl⟩
 ·refine hA (w.setCell ⟨b,4,none⟩ (.int .i64 (V.left - 1))) ?_ (by unfold stepV;rw [if_neg e0,if_neg (by omega)];exact h.setLeft _) ((Turn.refl _ _ _).setB _ _)
  have e2:stepB V=true:=by unfold stepB;rw [decide_eq_false e0];rfl
  rw [e2]
  have hw:IntKind.i64.wrap (V.left - 1)=V.left - 1:=by rw [IntKind.wrap_i64];omega
  clear hA h g e2
  generalize V.left=x at *
  clear gl gr
  go_enter Tryz.func136,Tryz.ntmps136
  go_wp2
  go_ret
  exact ⟨rfl,rfl⟩
theorem vAt_any (h:VltE w b c a V v0 v1 vt) (g:V.Good):Calls Tryz.prog 48 #[.pointer (some ⟨b,0,none⟩)] w fun e w'=>e=.returned (.int .i64 V.n)∧w=w':=by
 obtain ⟨_,_,_,h3,_,_,_⟩:=h.cells
 have HC:=hid (vcount_any h g)
 have HM:=hid (vmade_yes h)
 clear h g
 go_enter Tryz.func48,Tryz.ntmps48
 go_wp2_with fail
 refine HM.out.mono ?_
 rintro e w1 ⟨rfl,rfl⟩
 go_wp2_with fail
 refine HC.out.mono ?_
 rintro e w1 ⟨rfl,rfl⟩
 go_wp2_with fail
 go_ret
 exact ⟨rfl,rfl⟩
theorem vDead_any (h:VltE w b c a V v0 v1 vt):Calls Tryz.prog 47 #[.pointer (some ⟨b,0,none⟩)] w fun e w'=>e=.returned (.bool V.dead)∧w=w':=by
 obtain ⟨_,_,_,_,_,h5,_⟩:=h.cells
 have HM:=hid (vmade_yes h)
 clear h
 go_enter Tryz.func47,Tryz.ntmps47
 go_wp2_with fail
 refine HM.out.mono ?_
 rintro e w1 ⟨rfl,rfl⟩
 go_wp2_with fail
 go_ret
 exact ⟨rfl,rfl⟩
theorem vArm_any (h:VltE w b c a V v0 v1 vt) (n:Int):Calls Tryz.prog 44 #[.pointer (some ⟨b,0,none⟩),.int .i64 n] w fun e w'=>e=.returned (.tuple #[])∧VltE w' b c a (armV V n) v0 v1 vt∧Turn b a w w':=by
 obtain ⟨_,_,_,_,h4,_,_⟩:=h.cells
 have f4:=h.free 4
 have HM:=hid (vmade_yes h)
 have HS:Hid (∀ x,(if n < 0 then -1 else n)=x→VltE (w.setCell ⟨b,4,none⟩ (.int .i64 x)) b c a (armV V n) v0 v1 vt∧Turn b a w (w.setCell ⟨b,4,none⟩ (.int .i64 x))):=hid (fun x e=>by
  refine ⟨?_,(Turn.refl _ _ _).setB _ _⟩
  unfold armV
  rw [e]
  exact h.setLeft x)
 clear h
 generalize V.left=left at *
 rcases Int.lt_trichotomy n (-1) with hn | rfl | hn
 ·go_enter Tryz.func44,Tryz.ntmps44
  go_wp2_with fail
  refine HM.out.mono ?_
  rintro e w1 ⟨rfl,rfl⟩
  go_wp2_with fail
  go_end0
  exact ⟨rfl,HS.out _ (by rw [if_pos (by omega)])⟩
 ·go_enter Tryz.func44,Tryz.ntmps44
  go_wp2_with fail
  refine HM.out.mono ?_
  rintro e w1 ⟨rfl,rfl⟩
  go_wp2_with fail
  go_end0
  exact ⟨rfl,HS.out _ (by decide)⟩
 ·go_enter Tryz.func44,Tryz.ntmps44
  go_wp2_with fail
  refine HM.out.mono ?_
  rintro e w1 ⟨rfl,rfl⟩
  go_wp2_with fail
  go_end0
  exact ⟨rfl,HS.out _ (by rw [if_neg (by omega)])⟩
end
theorem vNew_no (i n:Int) (w:World) (h:nodeB i=false∨n < 0∨1099511627776 < n):Calls Tryz.prog 8 #[.int .i64 i,.int .i64 n] w fun e w'=>e=.returned (.tuple #[.pointer none,.int .i64 1])∧w=w':=by
 obtain ⟨nd,hnd⟩:∃ x,nodeB i=x:=⟨_,rfl⟩
 have HN:=hid (node_any i w)
 rw [hnd] at h HN
 clear hnd
 cases nd with
 | false=>
  clear h
  go_enter Tryz.func8,Tryz.ntmps8
  go_wp2_with fail
  refine HN.out.mono ?_
  rintro e w1 ⟨rfl,rfl⟩
  go_wp2_with fail
  go_ret2
  exact ⟨rfl,rfl⟩
 | true=>
  have HC:=hid (new_no n w (h.resolve_left (by decide)))
  clear h
  go_enter Tryz.func8,Tryz.ntmps8
  go_wp2_with fail
  refine HN.out.mono ?_
  rintro e w1 ⟨rfl,rfl⟩
  go_wp2_with fail
  refine HC.out.mono ?_
  rintro e w1 ⟨rfl,rfl⟩
  go_wp2_with fail
  go_ret2
  exact ⟨rfl,rfl⟩
theorem vNew_yes (i n:Int) (w:World) (h:nodeB i=true) (h0:0≤n) (h1:n≤1099511627776):Calls Tryz.prog 8 #[.int .i64 i,.int .i64 n] w fun e w'=>∃ b c a,e=.returned (.tuple #[.pointer (some ⟨b,0,none⟩),.int .i64 0])∧Vlt w' b c a (newV i n)∧w.heap.size≤b∧w.heap.size≤a∧Below w.heap.size w w':=by
 have HN:=hid (node_any i w)
 rw [h] at HN
 have HC:=hid (new_yes n w h0 h1)
 clear h h0 h1
 go_enter Tryz.func8,Tryz.ntmps8
 go_wp2_with fail
 refine HN.out.mono ?_
 rintro e w1 ⟨rfl,rfl⟩
 go_wp2_with fail
 refine HC.out.mono ?_
 rintro e w1 ⟨rfl,hc,hb,hz⟩
 have HF:=hid (show Vlt (w1.alloc (.cells (vac i (.slice none 0 0) (.slice none 0 0) (w.heap.size + 1) (-1) false (.slice none 0 0)) 108)) w1.heap.size (w.heap.size + 1) w.heap.size (newV i n) from by
  refine ⟨_,_,_,heap_alloc_new _ _,hc.below ((Below.refl w1.heap.size w1).alloc (Nat.le_refl _) _) (by omega) (by omega),Bys.nil _,Bys.nil _,Bys.nil _,fun _=>rfl⟩)
 have HB:=hid (hb.alloc (by omega) (.cells (vac i (.slice none 0 0) (.slice none 0 0) (w.heap.size + 1) (-1) false (.slice none 0 0)) 108))
 rw [hz] at HF
 clear hc hb
 go_wp2_with fail
 go_ret2
 exact ⟨w.heap.size + 2,w.heap.size + 1,w.heap.size,rfl,HF.out,by omega,Nat.le_refl _,HB.out⟩
end Go.Proofs.YtpdnnmabijmfbaaGreatDoor
namespace Go.Proofs.YtpdnnmabijmfbaaGreatDoor
set_option maxRecDepth 20000
open Go.RowKit
set_option maxHeartbeats 1600000 in
theorem clone_any (v:Value) (l:List UInt8) (w:World) (hv:Byt w v l) (hs:l.length≤1000000):Calls Tryz.prog 58 #[v] w fun e w'=>∃ x,e=.returned x∧Own w.heap.size w' x l∧Below w.heap.size w w':=by
 obtain ⟨A,c,rfl⟩:=hv.shape
 obtain ⟨_,h1,h2,h3⟩:=hv.at_
 rcases A with _ | ad
 ·have hl:l=[]:=by
   rcases l with _ | ⟨x,l⟩
   ·rfl
   ·obtain ⟨_,_,e,_⟩:=h3 (by simp)
    cases e
  subst hl
  clear h1 h2 h3 hv hs
  have qT:=qnil_bytes
  go_enter Tryz.func58,Tryz.ntmps58
  go_wp2
  go_ret
  exact ⟨_,rfl,Own.nil _ _,Below.refl _ _⟩
 ·have HV:=hid (hv.alloc (.cells #[] 5))
  have hs2:([]:List UInt8).length + l.length≤140737488355328:=by simp only [List.length_nil];omega
  obtain ⟨L,HL⟩:∃ k:Nat,Hid (l.length=k):=⟨_,hid rfl⟩
  rw [HL.out] at HV ⊢
  clear h1 h2 h3 hv hs HL
  have qT:=qnil_bytes
  go_enter Tryz.func58,Tryz.ntmps58
  go_wp2_with (at_builtin;refine wpList_append_byt rfl (.tmp 5) (.tmp 6) rfl rfl rfl (fresh0_own w) HV.out hs2 (al_le w _) ?_;intro v1 w1 ho1 hg1 hv1;simp only [List.nil_append] at ho1;have hb1:=fresh0_below hg1;clear hg1 hv1)
  go_ret
  exact ⟨_,rfl,ho1,hb1⟩
section
variable {w:World} {b c a:Nat} {V:VaM} {v0 v1 vt:Value}
theorem vSlot_out (h:VltE w b c a V v0 v1 vt) (k:Int) (hk:¬ (0≤k∧k < 2)):Calls Tryz.prog 50 #[.pointer (some ⟨b,0,none⟩),.int .i64 k] w fun e w'=>e=.returned (.slice none 0 0)∧w=w':=by
 have HM:=hid (vmade_yes h)
 have HI:=hid (visSlot_any k w)
 have e:(decide (0≤k) && decide (k < 2))=false:=by simpa [Bool.and_eq_false_iff] using fun h0=>by omega
 rw [e] at HI
 clear h hk e
 go_enter Tryz.func50,Tryz.ntmps50
 go_wp2_with fail
 refine HM.out.mono ?_
 rintro e w1 ⟨rfl,rfl⟩
 go_wp2_with fail
 refine HI.out.mono ?_
 rintro e w1 ⟨rfl,rfl⟩
 go_wp2_with fail
 go_ret
 exact ⟨rfl,rfl⟩
set_option maxHeartbeats 1600000 in
theorem vSlot_zero (h:VltE w b c a V v0 v1 vt) (g:V.Good):Calls Tryz.prog 50 #[.pointer (some ⟨b,0,none⟩),.int .i64 0] w fun e w'=>∃ x,e=.returned x∧Byt w' x V.s0∧Below w.heap.size w w':=by
 obtain ⟨_,h1,h2,_,_,_,_⟩:=h.cells
 have HM:=hid (vmade_yes h)
 have HI:=hid (visSlot_any 0 w)
 rw [show (decide ((0:Int)≤0) && decide ((0:Int) < 2))=true from by decide] at HI
 have HY:=hid h.y0.byt
 have hs2:([]:List UInt8).length + V.s0.length≤140737488355328:=by have:=g.l0;simp only [List.length_nil];omega
 clear h2 h g
 generalize V.s0=l at *
 obtain ⟨A,c1,e⟩:=HY.out.shape
 subst e
 obtain ⟨L,HL⟩:∃ k:Nat,Hid (l.length=k):=⟨_,hid rfl⟩
 rw [HL.out] at HY h1
 clear HL
 go_enter Tryz.func50,Tryz.ntmps50
 go_wp2_with fail
 refine HM.out.mono ?_
 rintro e w1 ⟨rfl,rfl⟩
 go_wp2_with fail
 refine HI.out.mono ?_
 rintro e w1 ⟨rfl,rfl⟩
 go_wp2_with (at_builtin;refine wpList_append_byt rfl (.const (.slice none 0 0)) (.tmp 18) rfl rfl rfl (Own.nil w.heap.size w) HY.out hs2 (Nat.le_refl _) ?_;intro v1 w1 ho1 hg1 hv1;simp only [List.nil_append] at ho1;have hb1:=(Below.refl w.heap.size w).grown hg1 (Nat.le_refl _) (fun k hk=>by cases hk);clear hg1 hv1)
 go_ret
 exact ⟨_,rfl,ho1.byt,hb1⟩
set_option maxHeartbeats 1600000 in
theorem vSlot_one (h:VltE w b c a V v0 v1 vt) (g:V.Good):Calls Tryz.prog 50 #[.pointer (some ⟨b,0,none⟩),.int .i64 1] w fun e w'=>∃ x,e=.returned x∧Byt w' x V.s1∧Below w.heap.size w w':=by
 obtain ⟨_,h1,h2,_,_,_,_⟩:=h.cells
 have HM:=hid (vmade_yes h)
 have HI:=hid (visSlot_any 1 w)
 rw [show (decide ((0:Int)≤1) && decide ((1:Int) < 2))=true from by decide] at HI
 have HY:=hid h.y1.byt
 have hs2:([]:List UInt8).length + V.s1.length≤140737488355328:=by have:=g.l1;simp only [List.length_nil];omega
 clear h1 h g
 generalize V.s1=l at *
 obtain ⟨A,c1,e⟩:=HY.out.shape
 subst e
 obtain ⟨L,HL⟩:∃ k:Nat,Hid (l.length=k):=⟨_,hid rfl⟩
 rw [HL.out] at HY h2
 clear HL
 go_enter Tryz.func50,Tryz.ntmps50
 go_wp2_with fail
 refine HM.out.mono ?_
 rintro e w1 ⟨rfl,rfl⟩
 go_wp2_with fail
 refine HI.out.mono ?_
 rintro e w1 ⟨rfl,rfl⟩
 go_wp2_with (at_builtin;refine wpList_append_byt rfl (.const (.slice none 0 0)) (.tmp 18) rfl rfl rfl (Own.nil w.heap.size w) HY.out hs2 (Nat.le_refl _) ?_;intro v1 w1 ho1 hg1 hv1;simp only [List.nil_append] at ho1;have hb1:=(Below.refl w.heap.size w).grown hg1 (Nat.le_refl _) (fun k hk=>by cases hk);clear hg1 hv1)
 go_ret
 exact ⟨_,rfl,ho1.byt,hb1⟩
theorem vSlot_any (h:Vlt w b c a V) (g:V.Good) (k:Int):Calls Tryz.prog 50 #[.pointer (some ⟨b,0,none⟩),.int .i64 k] w fun e w'=>∃ x,e=.returned x∧Byt w' x (slotV V k)∧Below w.heap.size w w':=by
 obtain ⟨v0,v1,vt,h⟩:=h
 by_cases hk:0≤k∧k < 2
 ·obtain rfl | rfl:k=0∨k=1:=by omega
  ·exact vSlot_zero h g
  ·exact vSlot_one h g
 ·refine (vSlot_out h k hk).mono ?_
  rintro e w1 ⟨rfl,rfl⟩
  refine ⟨_,rfl,?_,Below.refl _ _⟩
  unfold slotV
  rw [if_neg (by omega),if_neg (by omega)]
  exact Byt.nil _
theorem vSwap_out (h:VltE w b c a V v0 v1 vt) (k:Int) {A:Option Addr} {n d:Nat} (hk:k < 0∨1 < k∨1000 < n):Calls Tryz.prog 23 #[.pointer (some ⟨b,0,none⟩),.int .i64 k,.slice A n d] w fun e w'=>e=.returned (.int .i64 1)∧w=w':=by
 have HM:=hid (vmade_yes h)
 have HI:=hid (visSlot_any k w)
 clear h
 by_cases h0:0≤k∧k < 2
 ·rw [decide_eq_true h0.1,decide_eq_true h0.2] at HI
  have hn:(1000:Int) < (n:Int):=by omega
  clear hk h0
  go_enter Tryz.func23,Tryz.ntmps23
  go_wp2_with fail
  refine HM.out.mono ?_
  rintro e w1 ⟨rfl,rfl⟩
  go_wp2_with fail
  refine HI.out.mono ?_
  rintro e w1 ⟨rfl,rfl⟩
  go_wp2_with fail
  go_ret
  exact ⟨rfl,rfl⟩
 ·have e:(decide (0≤k) && decide (k < 2))=false:=by simpa [Bool.and_eq_false_iff] using fun h0=>by omega
  rw [e] at HI
  clear hk h0 e
  go_enter Tryz.func23,Tryz.ntmps23
  go_wp2_with fail
  refine HM.out.mono ?_
  rintro e w1 ⟨rfl,rfl⟩
  go_wp2_with fail
  refine HI.out.mono ?_
  rintro e w1 ⟨rfl,rfl⟩
  go_wp2_with fail
  go_ret
  exact ⟨rfl,rfl⟩
set_option maxHeartbeats 3200000 in
theorem vSwap_zero (h:VltE w b c a V v0 v1 vt) {x:Value} {l:List UInt8} (hx:Byt w x l) (hl:l.length≤1000):Calls Tryz.prog 23 #[.pointer (some ⟨b,0,none⟩),.int .i64 0,x] w fun e w'=>e=.returned (.int .i64 0)∧Vlt w' b c a (putV V 0 l)∧Turn b a w w':=by
 have HM:=hid (vmade_yes h)
 have HI:=hid (visSlot_any 0 w)
 rw [show (decide ((0:Int)≤0) && decide ((0:Int) < 2))=true from by decide] at HI
 have HC:=hid (clone_any x l w.drew (hx.drewN 1) (by omega))
 have HE:Hid (∀ W u,Below w.drew.heap.size w.drew W→Bys W u l→Vlt (W.setCell ⟨b,1,none⟩ u) b c a (putV V 0 l)∧Turn b a w (W.setCell ⟨b,1,none⟩ u)):=hid (fun W u hb hu=>by
  have hb':Below w.heap.size w W:=((Below.refl _ _).drew).trans hb
  refine ⟨?_,(Turn.of hb').setB _ _⟩
  have:=(h.below hb').setSlot (k:=0) (.inl rfl) hu
  exact this)
 have HF:Hid (∀ W,Below w.drew.heap.size w.drew W→W.cell? ⟨b,1,none⟩=some v0∧W.frozen? ⟨b,1,none⟩=false):=hid (fun W hb=>by
  have hb':Below w.heap.size w W:=((Below.refl _ _).drew).trans hb
  exact ⟨(h.below hb').cells.2.1,(h.below hb').free _⟩)
 obtain ⟨A0,c0,r0⟩:=h.y0.shape
 obtain ⟨A,d,rfl⟩:=hx.shape
 have hn:¬ (1000:Int) < (l.length:Int):=by omega
 obtain ⟨L,HL⟩:∃ q:Nat,Hid (l.length=q):=⟨_,hid rfl⟩
 rw [HL.out] at HC hn ⊢
 subst r0
 generalize V.s0.length=L0 at *
 clear hx hl h HL
 go_enter Tryz.func23,Tryz.ntmps23
 go_wp2_with fail
 refine HM.out.mono ?_
 rintro e w1 ⟨rfl,rfl⟩
 go_wp2_with fail
 refine HI.out.mono ?_
 rintro e w1 ⟨rfl,rfl⟩
 go_upto_region 5 with (fail)
 clear hn
 refine wp_region_held_drew (S:=fun _=>True) (by kernel_rfl) True.intro (fun hHeld=>?_)
 refine' tkq 0 rfl ?_;try simp only [lay]
 refine' tkq 1 rfl ?_;try simp only [lay]
 refine' tkq 2 rfl ?_;try simp only [lay]
 refine' tkq 4 rfl ?_;try simp only [lay]
 refine' tkq 5 rfl ?_;try simp only [lay]
 refine call_on (i:=3) rfl (by kernel_rfl) (by rfl) (fun K hK=>?_)
 go_simp
 refine HC.out.mono ?_
 rintro e w2 ⟨x2,rfl,ho2,hb2⟩
 have hx2:=ho2.bys
 obtain ⟨A2,c2,r2⟩:=hx2.shape
 subst r2
 refine hK.out _ _ (True.intro) (fun hHeld=>?_)
 clear hK K
 try simp only [lay]
 refine' tkq 6 rfl ?_;try simp only [lay]
 obtain ⟨hc2,hf2⟩:=HF.out w2 hb2
 refine call_on (i:=7) rfl (by kernel_rfl) (by rfl) (fun K hK=>?_)
 go_simp
 refine hK.out _ _ (True.intro) (fun hHeld=>?_)
 clear hK K
 try simp only [lay]
 refine wpAnyH_done (by kernel_rfl) ?_ _
 go_wp2_with fail
 go_ret
 exact ⟨rfl,HE.out _ _ hb2 hx2⟩
set_option maxHeartbeats 3200000 in
theorem vSwap_one (h:VltE w b c a V v0 v1 vt) {x:Value} {l:List UInt8} (hx:Byt w x l) (hl:l.length≤1000):Calls Tryz.prog 23 #[.pointer (some ⟨b,0,none⟩),.int .i64 1,x] w fun e w'=>e=.returned (.int .i64 0)∧Vlt w' b c a (putV V 1 l)∧Turn b a w w':=by
 have HM:=hid (vmade_yes h)
 have HI:=hid (visSlot_any 1 w)
 rw [show (decide ((0:Int)≤1) && decide ((1:Int) < 2))=true from by decide] at HI
 have HC:=hid (clone_any x l w.drew (hx.drewN 1) (by omega))
 have HE:Hid (∀ W u,Below w.drew.heap.size w.drew W→Bys W u l→Vlt (W.setCell ⟨b,2,none⟩ u) b c a (putV V 1 l)∧Turn b a w (W.setCell ⟨b,2,none⟩ u)):=hid (fun W u hb hu=>by
  have hb':Below w.heap.size w W:=((Below.refl _ _).drew).trans hb
  refine ⟨?_,(Turn.of hb').setB _ _⟩
  have:=(h.below hb').setSlot (k:=1) (.inr rfl) hu
  exact this)
 have HF:Hid (∀ W,Below w.drew.heap.size w.drew W→W.cell? ⟨b,2,none⟩=some v1∧W.frozen? ⟨b,2,none⟩=false):=hid (fun W hb=>by
  have hb':Below w.heap.size w W:=((Below.refl _ _).drew).trans hb
  exact ⟨(h.below hb').cells.2.2.1,(h.below hb').free _⟩)
 obtain ⟨A0,c0,r0⟩:=h.y1.shape
 obtain ⟨A,d,rfl⟩:=hx.shape
 have hn:¬ (1000:Int) < (l.length:Int):=by omega
 obtain ⟨L,HL⟩:∃ q:Nat,Hid (l.length=q):=⟨_,hid rfl⟩
 rw [HL.out] at HC hn ⊢
 subst r0
 generalize V.s1.length=L0 at *
 clear hx hl h HL
 go_enter Tryz.func23,Tryz.ntmps23
 go_wp2_with fail
 refine HM.out.mono ?_
 rintro e w1 ⟨rfl,rfl⟩
 go_wp2_with fail
 refine HI.out.mono ?_
 rintro e w1 ⟨rfl,rfl⟩
 go_upto_region 5 with (fail)
 clear hn
 refine wp_region_held_drew (S:=fun _=>True) (by kernel_rfl) True.intro (fun hHeld=>?_)
 refine' tkq 0 rfl ?_;try simp only [lay]
 refine' tkq 1 rfl ?_;try simp only [lay]
 refine' tkq 2 rfl ?_;try simp only [lay]
 refine' tkq 4 rfl ?_;try simp only [lay]
 refine' tkq 5 rfl ?_;try simp only [lay]
 refine call_on (i:=3) rfl (by kernel_rfl) (by rfl) (fun K hK=>?_)
 go_simp
 refine HC.out.mono ?_
 rintro e w2 ⟨x2,rfl,ho2,hb2⟩
 have hx2:=ho2.bys
 obtain ⟨A2,c2,r2⟩:=hx2.shape
 subst r2
 refine hK.out _ _ (True.intro) (fun hHeld=>?_)
 clear hK K
 try simp only [lay]
 refine' tkq 6 rfl ?_;try simp only [lay]
 obtain ⟨hc2,hf2⟩:=HF.out w2 hb2
 refine call_on (i:=7) rfl (by kernel_rfl) (by rfl) (fun K hK=>?_)
 go_simp
 refine hK.out _ _ (True.intro) (fun hHeld=>?_)
 clear hK K
 try simp only [lay]
 refine wpAnyH_done (by kernel_rfl) ?_ _
 go_wp2_with fail
 go_ret
 exact ⟨rfl,HE.out _ _ hb2 hx2⟩
theorem vSwap_any (h:Vlt w b c a V) (k:Int) {x:Value} {l:List UInt8} (hx:Byt w x l):Calls Tryz.prog 23 #[.pointer (some ⟨b,0,none⟩),.int .i64 k,x] w fun e w'=>e=.returned (.int .i64 (swapE k l))∧Vlt w' b c a (swapV V k l)∧Turn b a w w':=by
 obtain ⟨v0,v1,vt,h⟩:=h
 unfold swapE swapV
 by_cases hk:k < 0∨1 < k∨1000 < l.length
 ·rw [if_pos hk,if_pos hk]
  obtain ⟨A,d,rfl⟩:=hx.shape
  refine (vSwap_out h k hk).mono ?_
  rintro e w1 ⟨rfl,rfl⟩
  exact ⟨rfl,⟨v0,v1,vt,h⟩,Turn.refl _ _ _⟩
 ·rw [if_neg hk,if_neg hk]
  obtain rfl | rfl:k=0∨k=1:=by omega
  ·exact vSwap_zero h hx (by omega)
  ·exact vSwap_one h hx (by omega)
end
end Go.Proofs.YtpdnnmabijmfbaaGreatDoor
