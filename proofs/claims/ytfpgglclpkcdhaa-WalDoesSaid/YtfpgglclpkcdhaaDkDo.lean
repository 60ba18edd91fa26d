/-
  tithinglaw18.Do: what an act tells is as it must be. Printed with gendd.py.
-/
import Derived.Test.YtfpgglclpkcdhaaDkAct
import Derived.Test.YtfpgglclpkcdhaaDkCodeC
import Derived.Test.YtfpgglclpkcdhaaDkRvC
namespace Go.Proofs.Ytfpgglclpkcdhaa
set_option maxRecDepth 20000
open Go.RowKit
attribute [local go_sem ↓] exec_load_rd exec_alloc_rd exec_store_rd exec_cutH
def DoPost18 (b B:Nat) (a:Option Nat) (tv:Value) (th:List UInt8) (D Dr:DkM) (x:ActDk) (w:World) (e:Ending) (w':World):Prop:=∃ C' va' vt' q,e=.returned (.tuple #[.agg C',.bool q])∧(D=Dr→q=true)∧DkE w' b B (actD D x.act x.bl x.n) va' vt'∧RfC w' C' (actD Dr x.act x.bl x.n) va'.ownBlock∧TnD b a w w'∧Nw w a va'.ownBlock∧Nf w tv th vt' (actD D x.act x.bl x.n).h
structure DoSd (w W:World) (b B:Nat) (a:Option Nat) (tv:Value) (th:List UInt8) (D Dr:DkM) (va vt:Value) (C AX:Array Value):Prop where
 v:DkE W b B D va vt
 r4:W.heap[w.heap.size]?=some (.cells C 35 (0,0))
 r5:W.heap[w.heap.size + 1]?=some (.cells AX 42 (0,0))
 r6:W.heap[w.heap.size + 2]?=some (.cells rdZ 35 (0,0))
 rc:RfC W C Dr va.ownBlock
 t:TnD b a w W
 n:Nw w a va.ownBlock
 m:Nf w tv th vt D.h
section
variable {w W W':World} {b B:Nat} {a:Option Nat} {tv:Value} {th:List UInt8} {D D' Dr:DkM} {va vt va' vt':Value} {C C' AX:Array Value}
theorem DoSd.below (h:DoSd w W b B a tv th D Dr va vt C AX) (hb:Below W.heap.size W W'):DoSd w W' b B a tv th D Dr va vt C AX:=
 ⟨h.v.below hb,(hb.block _ (lt_of_block h.r4)).trans h.r4,(hb.block _ (lt_of_block h.r5)).trans h.r5,(hb.block _ (lt_of_block h.r6)).trans h.r6,h.rc.below hb,h.t.then hb,h.n,h.m⟩
theorem DoSd.turn (h:DoSd w W b B a tv th D Dr va vt C AX) (hv:DkE W' b B D' va' vt') (ht:TnD b va.ownBlock W W') (hn:Nw W va.ownBlock va'.ownBlock∧Nf W vt D.h vt' D'.h):DoSd w W' b B a tv th D' Dr va' vt' C AX:=
 ⟨hv,h.v.other h.r4 (by decide) (by decide) ht,h.v.other h.r5 (by decide) (by decide) ht,h.v.other h.r6 (by decide) (by decide) ht,h.rc.turn h.v ht hn.1,h.t.trans h.n ht,h.n.trans hn.1 h.t.size,h.m.trans hn.2 h.t.size⟩
theorem rd_six:∀ T:TypeId,(T=5∨T=67)→T≠35:=by
 intro T h
 rcases h with rfl | rfl <;> decide
theorem DoSd.fin (h:DoSd w W b B a tv th D Dr va vt C AX) {D2:DkM} (hC:RfC W C' D2 va.ownBlock):
  storeRd (.pointer (some ⟨w.heap.size + 2,0,none⟩)) (.agg C') W=.ok .skip (setSe W (w.heap.size + 2) C')∧(setSe W (w.heap.size + 2) C').heap[w.heap.size + 2]?=some (.cells C' 35 (0,0))∧DkE (setSe W (w.heap.size + 2) C') b B D va vt∧RfC (setSe W (w.heap.size + 2) C') C' D2 va.ownBlock∧TnD b a w (setSe W (w.heap.size + 2) C'):=by
 have hb:=setSe_below (C:=C') (Below.refl 0 W) (Nat.zero_le (w.heap.size + 2))
 refine ⟨storeRd_eq h.r6 rfl hC.size hC.one,setSe_same h.r6,h.v.kept hb.size (fun k D T hk hT=>setSe_other W _ (blk_ne hk h.r6 (rd_six T hT))),hC.away hb.size (fun k _ hk=>setSe_other W _ (blk_ne hk h.r6 (by decide))),?_⟩
 exact ⟨hb.os.trans h.t.os,hb.tape.trans h.t.tape,hb.output.trans h.t.output,Nat.le_trans h.t.size hb.size,fun k h1 h2 h3=>(setSe_other W _ (by omega)).trans (h.t.block k h1 h2 h3)⟩
theorem DoSd.set (h:DoSd w W b B a tv th D Dr va vt C AX) {i:Nat} {u:Value} {D2:DkM} (hc:C.setIfInBounds i u=C') (hr:RfC W C' D2 va.ownBlock):DoSd w (W.setCell ⟨w.heap.size,i,none⟩ u) b B a tv th D D2 va vt C' AX:=by
 have hs:W.heap.size≤(W.setCell ⟨w.heap.size,i,none⟩ u).heap.size:=by simp [World.setCell]
 refine ⟨h.v.kept hs (fun k D T hk hT=>Below.heap_setCell _ _ _ _ (blk_ne hk h.r4 (rd_six T hT))),by rw [heapA_set W h.r4,hc],(Below.heap_setCell _ _ _ _ (by show w.heap.size + 1≠w.heap.size;omega)).trans h.r5,(Below.heap_setCell _ _ _ _ (by show w.heap.size + 2≠w.heap.size;omega)).trans h.r6,hr.away hs (fun k D hk=>Below.heap_setCell _ _ _ _ (blk_ne hk h.r4 (by decide))),?_,h.n,h.m⟩
 exact ⟨h.t.os,h.t.tape,h.t.output,by simpa [World.setCell] using h.t.size,fun k h1 h2 h3=>(Below.heap_setCell _ _ _ _ (by show k≠w.heap.size;omega)).trans (h.t.block k h1 h2 h3)⟩
theorem DoSd.ld (h:DoSd w W b B a tv th D Dr va vt C AX):loadRd (.pointer (some ⟨w.heap.size,0,none⟩)) W=.ok (.value (.agg C)) W:=loadRd_row h.r4 h.rc.size
end
theorem actD_0 (D:DkM) (l:List UInt8) (n:Int):actD D 0 l n=appD D l:=rfl
theorem actD_1 (D:DkM) (l:List UInt8) (n:Int):actD D 1 l n=syncD D:=rfl
theorem actD_2 (D:DkM) (l:List UInt8) (n:Int):actD D 2 l n=cutD D n:=rfl
theorem actD_3 (D:DkM) (l:List UInt8) (n:Int):actD D 3 l n=armD D n:=rfl
theorem actD_4 (D:DkM) (l:List UInt8) (n:Int):actD D 4 l n=crashD D n:=rfl
theorem actD_5 (D:DkM) (l:List UInt8) (n:Int) {k:Int} (h:¬ k=0∧¬ k=1∧¬ k=2∧¬ k=3∧¬ k=4):actD D k l n=D:=by
 unfold actD
 rw [if_neg h.1,if_neg h.2.1,if_neg h.2.2.1,if_neg h.2.2.2.1,if_neg h.2.2.2.2]
set_option maxHeartbeats 25600000 in
theorem do18_any {b B:Nat} (D Dr:DkM) {va vt:Value} (C:Array Value) (x:ActDk) (w:World) (h:DkE w b B D va vt) (g:D.Good) (gr:Dr.Good) (hC:RfC w C Dr va.ownBlock) (hB:B≤w.heap.size) (hx:AkOk w x) (hxl:x.bl.length≤200):
  Calls Try.prog 17 #[.pointer (some ⟨b,0,none⟩),.agg C,.agg (akc x)] w (DoPost18 b B va.ownBlock vt D.h D Dr x w):=by
 have HG:=hid g
 have HGR:=hid gr
 have HBW:=hid hB
 obtain ⟨act,bA,bc,bl,n⟩:=x
 have HXL:Hid (bl.length≤200):=hid hxl
 have HXN:=hid (show n≤9223372036854775807∧-9223372036854775808≤n from by
  have h1:-9223372036854775808≤n∧n≤9223372036854775807:=by simpa [Lit.wf,IntKind.min,IntKind.max,IntKind.signed,IntKind.bits] using hx.1
  exact ⟨h1.2,h1.1⟩)
 have HXB:Hid (Byt w (.slice bA bl.length bc) bl):=hid hx.2
 obtain ⟨L,HL⟩:∃ q:Nat,Hid (bl.length=q):=⟨_,hid rfl⟩
 obtain ⟨a,HA⟩:∃ q:Option Nat,Hid (va.ownBlock=q):=⟨_,hid rfl⟩
 obtain ⟨AX,HAX⟩:∃ q:Array Value,Hid (akc ⟨act,bA,bc,bl,n⟩=q):=⟨_,hid rfl⟩
 have HACT:Hid (∀ (W:World) (gx:Nat),W.heap[gx]?=some (.cells AX 42 (0,0))→W.cell? ⟨gx,0,none⟩=some (.int .i64 act)∧W.cell? ⟨gx,1,none⟩=some (.slice bA L bc)∧W.cell? ⟨gx,2,none⟩=some (.int .i64 n)):=hid (fun W gx h=>by
  rw [← HAX.out] at h
  rw [coBlk_cell h,coBlk_cell h,coBlk_cell h,← HL.out]
  exact ⟨rfl,rfl,rfl⟩)
 rw [HAX.out,HA.out]
 rw [HL.out] at HXB
 have hr5:=heap_alloc_new w (.cells C 35)
 have hb5:Below w.heap.size w (w.alloc (.cells C 35)):=(Below.refl _ _).alloc (Nat.le_refl _) _
 have hsz5:(w.alloc (.cells C 35)).heap.size=w.heap.size + 1:=by simp
 have hr6:=heap_alloc_new (w.alloc (.cells C 35)) (.cells AX 42)
 have hb6:Below (w.alloc (.cells C 35)).heap.size (w.alloc (.cells C 35)) ((w.alloc (.cells C 35)).alloc (.cells AX 42)):=(Below.refl _ _).alloc (Nat.le_refl _) _
 have hsz6:((w.alloc (.cells C 35)).alloc (.cells AX 42)).heap.size=w.heap.size + 2:=by simp
 have hal:=allocRd_eq ((w.alloc (.cells C 35)).alloc (.cells AX 42))
 have hr8:=heap_alloc_new ((w.alloc (.cells C 35)).alloc (.cells AX 42)) (.cells rdZ 35)
 have hb8:Below ((w.alloc (.cells C 35)).alloc (.cells AX 42)).heap.size ((w.alloc (.cells C 35)).alloc (.cells AX 42)) (((w.alloc (.cells C 35)).alloc (.cells AX 42)).alloc (.cells rdZ 35)):=(Below.refl _ _).alloc (Nat.le_refl _) _
 have hbz:=(hb5.trans (hb6.mono hb5.size)).trans (hb8.mono (Nat.le_trans hb5.size hb6.size))
 have hr5z:=(hb8.block _ (by have:=lt_of_block hr5;omega)).trans ((hb6.block _ (lt_of_block hr5)).trans hr5)
 have hr6z:=(hb8.block _ (lt_of_block hr6)).trans hr6
 rw [hsz5] at hr6z
 rw [hsz6] at hr8 hal
 have HS0:Hid (DoSd w (((w.alloc (.cells C 35)).alloc (.cells AX 42)).alloc (.cells rdZ 35)) b B a vt D.h D Dr va vt C AX):=hid ⟨h.below hbz,hr5z,hr6z,hr8,hC.below hbz,TnD.of hbz,.inl HA.out,Nf.refl _ _ _⟩
 have HXBZ:=hid (HXB.out.below hbz)
 have HBZ:=hid (Nat.le_trans hB hbz.size)
 have HAR:=hid (fun k (e:va.ownBlock=some k)=>Nat.lt_of_lt_of_le (h.o.base e).2 hbz.size)
 clear h g gr hC hB hx hxl hr5 hb5 hsz5 hr6 hb6 hsz6 hr8 hb8 hbz hr5z hr6z HAX
 go_enter Try.func17,Try.ntmps17
 go_upto_region 1 with (fail)
 clear hal
 generalize (((w.alloc (.cells C 35)).alloc (.cells AX 42)).alloc (.cells rdZ 35))=wz at *
 obtain ⟨x0,x1,x2⟩:=HACT.out wz _ HS0.out.r5
 by_cases d0:act=0
 ·as_aux_lemma=>
  subst d0
  have hs2:([]:List UInt8).length + bl.length≤140737488355328:=by have:=HXL.out;simp only [List.length_nil] at this ⊢;omega
  have hld:=HS0.out.ld
  have HRA:=hid (refAppend18_any Dr C va.ownBlock (.slice bA L bc) bl wz HS0.out.rc HGR.out (by intro k e;exact HAR.out k e) HXBZ.out (by have:=HXL.out;omega))
  obtain ⟨e2,HE2⟩:∃ q:Int,Hid (appE Dr bl=q):=⟨_,hid rfl⟩
  obtain ⟨e1,HE1⟩:∃ q:Int,Hid (appE D bl=q):=⟨_,hid rfl⟩
  have HEE:Hid (D=Dr→(e1 == e2)=true):=hid (fun e=>by rw [← HE1.out,← HE2.out,e];simp)
  rw [HE2.out] at HRA
  go_wp2_with fail
  refine HRA.out.mono ?_
  rintro e w1 ⟨C1,rfl,hC1,hb1⟩
  have hal:=allocRd_eq w1
  have hsv:=rd_var w1 (Z:=rdZ) rfl hC1.size hC1.one
  have hb2:=hb1.alloc hb1.size (.cells C1 35)
  have HS2:=hid (HS0.out.below hb2)
  have HC2:=hid (hC1.below (show Below w1.heap.size w1 (w1.alloc (.cells C1 35)) from (Below.refl _ _).alloc (Nat.le_refl _) _))
  have HR2:=hid (heap_alloc_new w1 (.cells C1 35))
  have HB2:=hid (hb2)
  clear hC1 hb1 hb2 hld x0 x1 x2
  go_upto_region 4 with (fail)
  clear hal hsv
  generalize (w1.alloc (.cells C1 35))=w2 at *
  generalize w1.heap.size=g10 at *
  have HXB2:=hid (HXBZ.out.below HB2.out)
  have hdr:Below w2.heap.size w2 w2.drew:=(Below.refl _ _).drew
  have HSd:=hid (HS2.out.below hdr)
  have HRd:Hid (w2.drew.heap[g10]?=some (.cells C1 35 (0,0))):=HR2
  have HCd:=hid (HC2.out.below hdr)
  have HBd:=hid (Nat.le_trans HBZ.out (Nat.le_trans HB2.out.size hdr.size))
  have HKP:Hid (∀ W,W.heap[g10]?=some (.cells C1 35 (0,0))→W.heap[w.heap.size + 1]?=some (.cells AX 42 (0,0))→loadRd (.pointer (some ⟨g10,0,none⟩)) W=.ok (.value (.agg C1)) W∧W.cell? ⟨w.heap.size + 1,1,none⟩=some (.slice bA L bc)∧W.cell? ⟨w.heap.size + 1,2,none⟩=some (.int .i64 n)):=hid (fun W h1 h2=>⟨loadRd_row h1 HCd.out.size,(HACT.out W _ h2).2⟩)
  refine wp_region_held_drew (S:=fun W=>loadRd (.pointer (some ⟨g10,0,none⟩)) W=.ok (.value (.agg C1)) W∧W.cell? ⟨w.heap.size + 1,1,none⟩=some (.slice bA L bc)∧W.cell? ⟨w.heap.size + 1,2,none⟩=some (.int .i64 n)) (by kernel_rfl) (HKP.out _ HRd.out HSd.out.r5) (fun hHeld=>?_)
  refine' tk (i:=0) (v:=_) rfl (fun W hW=>hW.1) ?_
  try simp only [lay]
  refine' tkq 1 rfl ?_;try simp only [lay]
  refine' tkq 3 rfl ?_;try simp only [lay]
  refine' tkq3 4 rfl ?_;try simp only [lay]
  refine' tkq 7 rfl ?_;try simp only [lay]
  refine call_on (i:=2) rfl (by kernel_rfl) (by rfl) (fun K hK=>?_)
  go_simp
  have HSa:=hid (HSd.out.below ((Below.refl w2.drew.heap.size w2.drew).alloc (Nat.le_refl _) (.cells #[] 5)))
  have HRa:=hid ((Below.heap_alloc w2.drew (.cells #[] 5) _ (lt_of_block HRd.out)).trans HRd.out)
  refine hK.out _ _ (HKP.out _ HRa.out HSa.out.r5) (fun hHeld=>?_)
  clear hK K
  try simp only [lay]
  refine call_on (i:=5) rfl (by kernel_rfl) (by rfl) (fun K hK=>?_)
  refine wp_append_byt (.tmp 27) (.tmp 29) rfl rfl rfl (fresh0_own w2.drew) ((HXB2.out.below hdr).alloc _) hs2 (al_le w2.drew _) ?_
  intro v3 w3 ho3 hg3 _
  simp only [List.nil_append] at ho3
  have hb3:Below w2.drew.heap.size w2.drew w3:=fresh0_below hg3
  have HSb:=hid (HSd.out.below hb3)
  have HRb:=hid ((hb3.block _ (lt_of_block HRd.out)).trans HRd.out)
  have HCb:=hid (HCd.out.below hb3)
  have HO3:=hid ho3
  have HBb:=hid (Nat.le_trans HBd.out hb3.size)
  clear ho3 hg3 hb3
  refine hK.out _ _ (HKP.out _ HRb.out HSb.out.r5) (fun hHeld=>?_)
  clear hK K
  try simp only [lay]
  refine call_on (i:=6) rfl (by kernel_rfl) (by rfl) (fun K hK=>?_)
  go_simp
  refine (dkAppend_any HSb.out.v HG.out HBb.out HO3.out.byt (by have:=HXL.out;omega)).mono ?_
  rintro e w4 ⟨rfl,va4,vt4,h4,t4,n4⟩
  rw [HE1.out]
  have HS4:=hid (HSb.out.turn h4 t4 n4)
  have HR4:=hid (HSb.out.v.other HRb.out (by decide) (by decide) t4)
  have HC4:=hid (HCb.out.turn HSb.out.v t4 n4.1)
  clear h4 t4 n4
  refine hK.out _ _ (HKP.out _ HR4.out HS4.out.r5) (fun hHeld=>?_)
  clear hK K
  try simp only [lay]
  refine' tkq 8 rfl ?_;try simp only [lay]
  obtain ⟨hst,hrw,hvf,hrc,htf⟩:=HS4.out.fin HC4.out
  have HRW:=hid hrw
  have HVF:=hid hvf
  have HRC:=hid hrc
  have HTF:=hid htf
  have HR9:=hid (show (setSe w4 (w.heap.size + 2) C1).heap[g10]?=some (.cells C1 35 (0,0)) from by
   by_cases e:g10=w.heap.size + 2
   ·rw [e]
    exact hrw
   ·exact (setSe_other _ _ e).trans HR4.out)
  have HR69:=hid (show (setSe w4 (w.heap.size + 2) C1).heap[w.heap.size + 1]?=some (.cells AX 42 (0,0)) from (setSe_other _ _ (by omega)).trans HS4.out.r5)
  clear hrw hvf hrc htf
  refine call_on (i:=9) rfl (by kernel_rfl) (by rfl) (fun K hK=>?_)
  go_simp
  refine hK.out _ _ (HKP.out _ HR9.out HR69.out) (fun hHeld=>?_)
  clear hK K
  try simp only [lay]
  refine' tkq 10 rfl ?_;try simp only [lay]
  refine wpAnyH_done (by kernel_rfl) ?_ _
  clear hHeld hst hdr
  go_wp2_with fail
  try simp only [Exit.inBlock,Exit.then]
  refine bodyPost_ret (results_rd2 rfl _ _ _ _ _ _ rfl rfl HRW.out HRC.out.size) rfl ⟨_,_,_,_,rfl,HEE.out,HVF.out,HRC.out,HTF.out,HS4.out.n,HS4.out.m⟩
 by_cases d1:act=1
 ·as_aux_lemma=>
  subst d1
  clear d0
  have hld:=HS0.out.ld
  have HRA:=hid (refSync18_any Dr C va.ownBlock wz HS0.out.rc HGR.out (by intro k e;exact HAR.out k e))
  obtain ⟨e2,HE2⟩:∃ q:Int,Hid (syncE Dr=q):=⟨_,hid rfl⟩
  obtain ⟨e1,HE1⟩:∃ q:Int,Hid (syncE D=q):=⟨_,hid rfl⟩
  have HEE:Hid (D=Dr→(e1 == e2)=true):=hid (fun e=>by rw [← HE1.out,← HE2.out,e];simp)
  rw [HE2.out] at HRA
  go_wp2_with fail
  refine HRA.out.mono ?_
  rintro e w1 ⟨C1,rfl,hC1,hb1⟩
  have hal:=allocRd_eq w1
  have hsv:=rd_var w1 (Z:=rdZ) rfl hC1.size hC1.one
  have hb2:=hb1.alloc hb1.size (.cells C1 35)
  have HS2:=hid (HS0.out.below hb2)
  have HC2:=hid (hC1.below (show Below w1.heap.size w1 (w1.alloc (.cells C1 35)) from (Below.refl _ _).alloc (Nat.le_refl _) _))
  have HR2:=hid (heap_alloc_new w1 (.cells C1 35))
  have HB2:=hid (hb2)
  clear hC1 hb1 hb2 hld x0 x1 x2
  go_upto_region 7 with (fail)
  clear hal hsv
  generalize (w1.alloc (.cells C1 35))=w2 at *
  generalize w1.heap.size=g10 at *
  have hdr:Below w2.heap.size w2 w2.drew:=(Below.refl _ _).drew
  have HSd:=hid (HS2.out.below hdr)
  have HRd:Hid (w2.drew.heap[g10]?=some (.cells C1 35 (0,0))):=HR2
  have HCd:=hid (HC2.out.below hdr)
  have HBd:=hid (Nat.le_trans HBZ.out (Nat.le_trans HB2.out.size hdr.size))
  have HKP:Hid (∀ W,W.heap[g10]?=some (.cells C1 35 (0,0))→W.heap[w.heap.size + 1]?=some (.cells AX 42 (0,0))→loadRd (.pointer (some ⟨g10,0,none⟩)) W=.ok (.value (.agg C1)) W∧W.cell? ⟨w.heap.size + 1,1,none⟩=some (.slice bA L bc)∧W.cell? ⟨w.heap.size + 1,2,none⟩=some (.int .i64 n)):=hid (fun W h1 h2=>⟨loadRd_row h1 HCd.out.size,(HACT.out W _ h2).2⟩)
  refine wp_region_held_drew (S:=fun W=>loadRd (.pointer (some ⟨g10,0,none⟩)) W=.ok (.value (.agg C1)) W∧W.cell? ⟨w.heap.size + 1,1,none⟩=some (.slice bA L bc)∧W.cell? ⟨w.heap.size + 1,2,none⟩=some (.int .i64 n)) (by kernel_rfl) (HKP.out _ HRd.out HSd.out.r5) (fun hHeld=>?_)
  refine' tk (i:=0) (v:=_) rfl (fun W hW=>hW.1) ?_
  try simp only [lay]
  refine' tkq 1 rfl ?_;try simp only [lay]
  refine' tkq 3 rfl ?_;try simp only [lay]
  refine call_on (i:=2) rfl (by kernel_rfl) (by rfl) (fun K hK=>?_)
  go_simp
  refine (dkSync_any HSd.out.v HG.out).mono ?_
  rintro e w4 ⟨rfl,va4,vt4,h4,t4,n4⟩
  rw [HE1.out]
  have HS4:=hid (HSd.out.turn h4 t4 n4)
  have HR4:=hid (HSd.out.v.other HRd.out (by decide) (by decide) t4)
  have HC4:=hid (HCd.out.turn HSd.out.v t4 n4.1)
  clear h4 t4 n4
  refine hK.out _ _ (HKP.out _ HR4.out HS4.out.r5) (fun hHeld=>?_)
  clear hK K
  try simp only [lay]
  refine' tkq 4 rfl ?_;try simp only [lay]
  obtain ⟨hst,hrw,hvf,hrc,htf⟩:=HS4.out.fin HC4.out
  have HRW:=hid hrw
  have HVF:=hid hvf
  have HRC:=hid hrc
  have HTF:=hid htf
  have HR9:=hid (show (setSe w4 (w.heap.size + 2) C1).heap[g10]?=some (.cells C1 35 (0,0)) from by
   by_cases e:g10=w.heap.size + 2
   ·rw [e]
    exact hrw
   ·exact (setSe_other _ _ e).trans HR4.out)
  have HR69:=hid (show (setSe w4 (w.heap.size + 2) C1).heap[w.heap.size + 1]?=some (.cells AX 42 (0,0)) from (setSe_other _ _ (by omega)).trans HS4.out.r5)
  clear hrw hvf hrc htf
  refine call_on (i:=5) rfl (by kernel_rfl) (by rfl) (fun K hK=>?_)
  go_simp
  refine hK.out _ _ (HKP.out _ HR9.out HR69.out) (fun hHeld=>?_)
  clear hK K
  try simp only [lay]
  refine' tkq 6 rfl ?_;try simp only [lay]
  refine wpAnyH_done (by kernel_rfl) ?_ _
  clear hHeld hst hdr
  go_wp2_with fail
  try simp only [Exit.inBlock,Exit.then]
  refine bodyPost_ret (results_rd2 rfl _ _ _ _ _ _ rfl rfl HRW.out HRC.out.size) rfl ⟨_,_,_,_,rfl,HEE.out,HVF.out,HRC.out,HTF.out,HS4.out.n,HS4.out.m⟩
 by_cases d2:act=2
 ·as_aux_lemma=>
  subst d2
  clear d0 d1
  have hld:=HS0.out.ld
  have HRA:=hid (refCut18_any Dr C va.ownBlock n wz HS0.out.rc HGR.out (by intro k e;exact HAR.out k e))
  obtain ⟨e2,HE2⟩:∃ q:Int,Hid (cutE Dr n=q):=⟨_,hid rfl⟩
  obtain ⟨e1,HE1⟩:∃ q:Int,Hid (cutE D n=q):=⟨_,hid rfl⟩
  have HEE:Hid (D=Dr→(e1 == e2)=true):=hid (fun e=>by rw [← HE1.out,← HE2.out,e];simp)
  rw [HE2.out] at HRA
  go_wp2_with fail
  refine HRA.out.mono ?_
  rintro e w1 ⟨C1,rfl,hC1,hb1⟩
  have hal:=allocRd_eq w1
  have hsv:=rd_var w1 (Z:=rdZ) rfl hC1.size hC1.one
  have hb2:=hb1.alloc hb1.size (.cells C1 35)
  have HS2:=hid (HS0.out.below hb2)
  have HC2:=hid (hC1.below (show Below w1.heap.size w1 (w1.alloc (.cells C1 35)) from (Below.refl _ _).alloc (Nat.le_refl _) _))
  have HR2:=hid (heap_alloc_new w1 (.cells C1 35))
  have HB2:=hid (hb2)
  clear hC1 hb1 hb2 hld x0 x1 x2
  go_upto_region 10 with (fail)
  clear hal hsv
  generalize (w1.alloc (.cells C1 35))=w2 at *
  generalize w1.heap.size=g10 at *
  have hdr:Below w2.heap.size w2 w2.drew:=(Below.refl _ _).drew
  have HSd:=hid (HS2.out.below hdr)
  have HRd:Hid (w2.drew.heap[g10]?=some (.cells C1 35 (0,0))):=HR2
  have HCd:=hid (HC2.out.below hdr)
  have HBd:=hid (Nat.le_trans HBZ.out (Nat.le_trans HB2.out.size hdr.size))
  have HKP:Hid (∀ W,W.heap[g10]?=some (.cells C1 35 (0,0))→W.heap[w.heap.size + 1]?=some (.cells AX 42 (0,0))→loadRd (.pointer (some ⟨g10,0,none⟩)) W=.ok (.value (.agg C1)) W∧W.cell? ⟨w.heap.size + 1,1,none⟩=some (.slice bA L bc)∧W.cell? ⟨w.heap.size + 1,2,none⟩=some (.int .i64 n)):=hid (fun W h1 h2=>⟨loadRd_row h1 HCd.out.size,(HACT.out W _ h2).2⟩)
  refine wp_region_held_drew (S:=fun W=>loadRd (.pointer (some ⟨g10,0,none⟩)) W=.ok (.value (.agg C1)) W∧W.cell? ⟨w.heap.size + 1,1,none⟩=some (.slice bA L bc)∧W.cell? ⟨w.heap.size + 1,2,none⟩=some (.int .i64 n)) (by kernel_rfl) (HKP.out _ HRd.out HSd.out.r5) (fun hHeld=>?_)
  refine' tk (i:=0) (v:=_) rfl (fun W hW=>hW.1) ?_
  try simp only [lay]
  refine' tkq 1 rfl ?_;try simp only [lay]
  refine' tkq 2 rfl ?_;try simp only [lay]
  refine' tkq3 3 rfl ?_;try simp only [lay]
  refine' tkq 5 rfl ?_;try simp only [lay]
  refine call_on (i:=4) rfl (by kernel_rfl) (by rfl) (fun K hK=>?_)
  go_simp
  refine (dkCut_any HSd.out.v HG.out n).mono ?_
  rintro e w4 ⟨rfl,va4,vt4,h4,t4,n4⟩
  rw [HE1.out]
  have HS4:=hid (HSd.out.turn h4 t4 n4)
  have HR4:=hid (HSd.out.v.other HRd.out (by decide) (by decide) t4)
  have HC4:=hid (HCd.out.turn HSd.out.v t4 n4.1)
  clear h4 t4 n4
  refine hK.out _ _ (HKP.out _ HR4.out HS4.out.r5) (fun hHeld=>?_)
  clear hK K
  try simp only [lay]
  refine' tkq 6 rfl ?_;try simp only [lay]
  obtain ⟨hst,hrw,hvf,hrc,htf⟩:=HS4.out.fin HC4.out
  have HRW:=hid hrw
  have HVF:=hid hvf
  have HRC:=hid hrc
  have HTF:=hid htf
  have HR9:=hid (show (setSe w4 (w.heap.size + 2) C1).heap[g10]?=some (.cells C1 35 (0,0)) from by
   by_cases e:g10=w.heap.size + 2
   ·rw [e]
    exact hrw
   ·exact (setSe_other _ _ e).trans HR4.out)
  have HR69:=hid (show (setSe w4 (w.heap.size + 2) C1).heap[w.heap.size + 1]?=some (.cells AX 42 (0,0)) from (setSe_other _ _ (by omega)).trans HS4.out.r5)
  clear hrw hvf hrc htf
  refine call_on (i:=7) rfl (by kernel_rfl) (by rfl) (fun K hK=>?_)
  go_simp
  refine hK.out _ _ (HKP.out _ HR9.out HR69.out) (fun hHeld=>?_)
  clear hK K
  try simp only [lay]
  refine' tkq 8 rfl ?_;try simp only [lay]
  refine wpAnyH_done (by kernel_rfl) ?_ _
  clear hHeld hst hdr
  go_wp2_with fail
  try simp only [Exit.inBlock,Exit.then]
  refine bodyPost_ret (results_rd2 rfl _ _ _ _ _ _ rfl rfl HRW.out HRC.out.size) rfl ⟨_,_,_,_,rfl,HEE.out,HVF.out,HRC.out,HTF.out,HS4.out.n,HS4.out.m⟩
 by_cases d3:act=3
 ·as_aux_lemma=>
  subst d3
  clear d0 d1 d2
  obtain ⟨v0,v1,v2,hCC,hy0,hy1,hy2⟩:=HS0.out.rc
  have HY:=hid (And.intro hy0 (And.intro hy1 hy2))
  have HCC:=hid hCC
  clear hy0 hy1 hy2 hCC
  go_wp2_with fail
  refine (dkArm_any HS0.out.v n).mono ?_
  rintro e w4 ⟨rfl,h4,t4⟩
  have HS4:=hid (HS0.out.turn h4 t4 ⟨Nw.refl _ _,Nf.refl _ _ _⟩)
  have HYT:Hid (Byo w4 va.ownBlock v0 Dr.s∧Byo w4 va.ownBlock v1 Dr.m∧Byo w4 va.ownBlock v2 Dr.h):=hid ⟨.turn HS0.out.v HY.out.1 t4 (Nw.refl _ _),.turn HS0.out.v HY.out.2.1 t4 (Nw.refl _ _),.turn HS0.out.v HY.out.2.2 t4 (Nw.refl _ _)⟩
  clear h4 t4 x0 x1 x2
  obtain ⟨y0,y1,y2⟩:=HACT.out w4 _ HS4.out.r5
  have k4:w4.cell? ⟨w.heap.size,4,none⟩=some (.int .i64 Dr.left):=by rw [coBlk_cell HS4.out.r4,HCC.out];rfl
  have f4:=coBlk_free HS4.out.r4 4
  have hS5:=HS4.out.set (i:=4) (u:=.int .i64 n) (C':=rdc { Dr with left:=n } v0 v1 v2) (D2:={ Dr with left:=n }) (by rw [HCC.out];rfl) ⟨_,_,_,rfl,HYT.out⟩
  by_cases n0:n < 0
  ·have HS9:=hid (hS5.set (i:=4) (u:=.int .i64 (-1)) (C':=rdc (armD Dr n) v0 v1 v2) (D2:=armD Dr n) (by unfold armD;rw [if_pos n0];rfl) ⟨_,_,_,rfl,by
    obtain ⟨_,_,_,e,q0,q1,q2⟩:=hS5.rc
    unfold rdc at e
    simp only [Array.mk.injEq,List.cons.injEq,and_true] at e
    obtain ⟨rfl,rfl,rfl⟩:=e
    exact ⟨q0,q1,q2⟩⟩)
   have HRC9:=hid HS9.out.rc
   have hld:=HS9.out.ld
   have hy:=HACT.out _ _ hS5.r5
   obtain ⟨z0,z1,z2⟩:=hy
   have k5:(w4.setCell ⟨w.heap.size,4,none⟩ (.int .i64 n)).cell? ⟨w.heap.size,4,none⟩=some (.int .i64 n):=by rw [coBlk_cell hS5.r4];rfl
   have f5:=coBlk_free hS5.r4 4
   clear hS5
   obtain ⟨hst,hrw,hvf,hrc,htf⟩:=HS9.out.fin HRC9.out
   have HRW:=hid hrw
   have HVF:=hid hvf
   have HRC:=hid hrc
   have HTF:=hid htf
   clear hrw hvf hrc htf
   obtain ⟨C9,HC9⟩:∃ q:Array Value,Hid (rdc (armD Dr n) v0 v1 v2=q):=⟨_,hid rfl⟩
   rw [HC9.out] at hld hst HRW HRC HVF HTF
   go_wp2_with fail
   try simp only [Exit.inBlock,Exit.then]
   refine bodyPost_ret (results_rd2 rfl _ _ _ _ _ _ rfl rfl HRW.out HRC.out.size) rfl ⟨_,_,_,_,rfl,fun _=>rfl,HVF.out,HRC.out,HTF.out,HS9.out.n,HS9.out.m⟩
  ·have HS9:=hid hS5
   have HRC9:Hid (RfC (w4.setCell ⟨w.heap.size,4,none⟩ (.int .i64 n)) (rdc { Dr with left:=n } v0 v1 v2) (armD Dr n) va.ownBlock):=hid (by
    have:=hS5.rc
    unfold armD
    rw [if_neg n0]
    exact this)
   have hld:=HS9.out.ld
   obtain ⟨z0,z1,z2⟩:=HACT.out _ _ hS5.r5
   clear hS5
   obtain ⟨hst,hrw,hvf,hrc,htf⟩:=HS9.out.fin HRC9.out
   have HRW:=hid hrw
   have HVF:=hid hvf
   have HRC:=hid hrc
   have HTF:=hid htf
   clear hrw hvf hrc htf
   obtain ⟨C9,HC9⟩:∃ q:Array Value,Hid (rdc { Dr with left:=n } v0 v1 v2=q):=⟨_,hid rfl⟩
   rw [HC9.out] at hld hst HRW HRC HVF HTF
   go_wp2_with fail
   try simp only [Exit.inBlock,Exit.then]
   refine bodyPost_ret (results_rd2 rfl _ _ _ _ _ _ rfl rfl HRW.out HRC.out.size) rfl ⟨_,_,_,_,rfl,fun _=>rfl,HVF.out,HRC.out,HTF.out,HS9.out.n,HS9.out.m⟩
 by_cases d4:act=4
 ·as_aux_lemma=>
  subst d4
  clear d0 d1 d2 d3
  go_wp2_with fail
  refine (dkCrash_any HS0.out.v HG.out HBZ.out n).mono ?_
  rintro e w4 ⟨rfl,va4,vt4,h4,t4,n4⟩
  have HS4:=hid (HS0.out.turn h4 t4 n4)
  have HAR4:=hid (fun k (e:va4.ownBlock=some k)=>(h4.o.base e).2)
  clear h4 t4 n4 x0 x1 x2
  obtain ⟨y0,y1,y2⟩:=HACT.out w4 _ HS4.out.r5
  have hld:=HS4.out.ld
  go_wp2_with fail
  refine (refCrash18_any Dr C va4.ownBlock n w4 HS4.out.rc HGR.out (by intro k e;exact HAR4.out k e)).mono ?_
  rintro e w5 ⟨C5,rfl,hC5,hb5⟩
  have HS9:=hid (HS4.out.below hb5)
  have HRC9:=hid hC5
  clear hC5 hb5 hld y0 y1 y2
  obtain ⟨hst,hrw,hvf,hrc,htf⟩:=HS9.out.fin HRC9.out
  have HRW:=hid hrw
  have HVF:=hid hvf
  have HRC:=hid hrc
  have HTF:=hid htf
  clear hrw hvf hrc htf
  go_wp2_with fail
  try simp only [Exit.inBlock,Exit.then]
  refine bodyPost_ret (results_rd2 rfl _ _ _ _ _ _ rfl rfl HRW.out HRC.out.size) rfl ⟨_,_,_,_,rfl,fun _=>rfl,HVF.out,HRC.out,HTF.out,HS9.out.n,HS9.out.m⟩
 ·as_aux_lemma=>
  have HAD:=hid (fun (E:DkM)=>actD_5 E bl n ⟨d0,d1,d2,d3,d4⟩)
  have HS9:=hid HS0.out
  have HRC9:=hid HS0.out.rc
  have hld:=HS0.out.ld
  obtain ⟨hst,hrw,hvf,hrc,htf⟩:=HS9.out.fin HRC9.out
  have HRW:=hid hrw
  have HVF:=hid hvf
  have HRC:=hid hrc
  have HTF:=hid htf
  clear hrw hvf hrc htf
  go_wp2_with fail
  try simp only [Exit.inBlock,Exit.then]
  refine bodyPost_ret (results_rd2 rfl _ _ _ _ _ _ rfl rfl HRW.out HRC.out.size) rfl ⟨_,_,_,_,rfl,fun _=>rfl,by rw [HAD.out];exact HVF.out,by rw [HAD.out];exact HRC.out,HTF.out,HS9.out.n,by rw [HAD.out];exact HS9.out.m⟩
end Go.Proofs.Ytfpgglclpkcdhaa
