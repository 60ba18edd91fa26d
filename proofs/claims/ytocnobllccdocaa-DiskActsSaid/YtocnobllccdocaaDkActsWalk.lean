/-
  DiskActs: what any acts tell, and leave: the law's walk. Printed with gendw.py.
-/
import Derived.Test.YtocnobllccdocaaDkCodeD
import Derived.Test.YtocnobllccdocaaDkDo
import Derived.Test.YtocnobllccdocaaDkLike
namespace Go.Proofs.Ytocnobllccdocaa
set_option maxRecDepth 20000
open Go.RowKit
attribute [local go_sem ↓] exec_load_rd exec_alloc_rd exec_store_rd exec_load_ak
structure DxSt (w W:World) (b g9:Nat) (D:DkM) (X C:Array Value):Prop where
 v:∃ va vt,DkE W b w.heap.size D va vt∧RfC W C D va.ownBlock
 g:D.Good
 r9:W.heap[g9]?=some (.cells X 31 (0,0))
 ds:X.size=6
 cs:C.size=6∧C.all (·.oneCell')=true
 bel:Below w.heap.size w W
 hb:w.heap.size≤b
 h9:w.heap.size≤g9
section
variable {w W W':World} {b g9:Nat} {D:DkM} {X C:Array Value}
theorem DxSt.below (h:DxSt w W b g9 D X C) (hb:Below W.heap.size W W'):DxSt w W' b g9 D X C:=by
 obtain ⟨va,vt,h1,h2⟩:=h.v
 exact ⟨⟨va,vt,h1.below hb,h2.below hb⟩,h.g,(hb.block _ (lt_of_block h.r9)).trans h.r9,h.ds,h.cs,h.bel.trans (hb.mono h.bel.size),h.hb,h.h9⟩
theorem DxSt.done (h:DxSt w W b g9 D X C) (x:ActDk) {va vt:Value} {C':Array Value} {a:Option Nat} {va0 vt0:Value} (h0:DkE W b w.heap.size D va0 vt0) (ha:va0.ownBlock=a) (hx:x.n≤9223372036854775807) (hv:DkE W' b w.heap.size (actD D x.act x.bl x.n) va vt) (hC:RfC W' C' (actD D x.act x.bl x.n) va.ownBlock) (ht:TnD b a W W'):DxSt w W' b g9 (actD D x.act x.bl x.n) X C':=by
 subst ha
 exact ⟨⟨va,vt,hv,hC⟩,actD_good h.g _ _ hx,h0.other h.r9 (by decide) (by decide) ht,h.ds,⟨hC.size,hC.one⟩,ht.below h.bel h.hb (fun k e=>(h0.o.base e).1) h.bel.size,h.hb,h.h9⟩
theorem DxSt.other (h:DxSt w W b g9 D X C) {gx:Nat} {Z Y:Array Value} (hx:W.heap[gx]?=some (.cells Z 31 (0,0))) (hn:gx≠g9) (hB:w.heap.size≤gx):DxSt w (setSe W gx Y) b g9 D X C:=by
 obtain ⟨va,vt,h1,h2⟩:=h.v
 have hb:=setSe_below (C:=Y) (Below.refl 0 W) (Nat.zero_le gx)
 exact ⟨⟨va,vt,h1.kept hb.size (fun k D T hk hT=>setSe_other W _ (blk_ne hk hx (rd_six T hT))),h2.away hb.size (fun k _ hk=>setSe_other W _ (blk_ne hk hx (by decide)))⟩,h.g,(setSe_other W _ hn.symm).trans h.r9,h.ds,h.cs,setSe_below h.bel hB,h.hb,h.h9⟩
theorem DxSt.fin (h:DxSt w W b g9 D X C):DxSt w (setSe W g9 C) b g9 D C C:=by
 obtain ⟨va,vt,h1,h2⟩:=h.v
 have hb:=setSe_below (C:=C) (Below.refl 0 W) (Nat.zero_le g9)
 exact ⟨⟨va,vt,h1.kept hb.size (fun k D T hk hT=>setSe_other W _ (blk_ne hk h.r9 (rd_six T hT))),h2.away hb.size (fun k _ hk=>setSe_other W _ (blk_ne hk h.r9 (by decide)))⟩,h.g,setSe_same h.r9,h.cs.1,h.cs,setSe_below h.bel h.h9,h.hb,h.h9⟩
theorem DxSt.st9 (h:DxSt w W b g9 D X C):storeRd (.pointer (some ⟨g9,0,none⟩)) (.agg C) W=.ok .skip (setSe W g9 C):=storeRd_eq h.r9 h.ds h.cs.1 h.cs.2
theorem DxSt.ld9 (h:DxSt w W b g9 D X C):loadRd (.pointer (some ⟨g9,0,none⟩)) W=.ok (.value (.agg X)) W:=loadRd_row h.r9 h.ds
end
def DxMid (w W:World) (b g9:Nat) (s9 s10:Value):Prop:=∃ gx D X C,s9=.pointer (some ⟨gx,0,none⟩)∧s10=.bool true∧W.heap[gx]?=some (.cells C 31 (0,0))∧DxSt w W b g9 D X C
theorem dx_meas {N k:Nat} (h:k < N) (hw:wrap64 ((k:Int) + 1)=(k:Int) + 1):N - (intOf (Value.int IntKind.i64 (wrap64 ((k:Int) + 1)))).toNat < N - (intOf (Value.int IntKind.i64 (k:Int))).toNat:=by
 rw [hw]
 simp only [intOf]
 omega
set_option maxHeartbeats 25600000 in
theorem lawDiskActs_any (room:Int) (v:Value) (L:List ActDk) (w:World) (hv:Els akl 3 w v L) (ho:∀ x ∈ L,AkOk w x):
  Calls Try.prog 3 #[.int .i64 room,v] w fun e w'=>e=.returned (.bool true)∧Below w.heap.size w w':=by
 have HFIN:Hid (∀ W,Below w.heap.size w W→Calls Try.prog 7 #[] W fun e w'=>e=.returned (.bool true)∧Below w.heap.size w w'):=hid (fun W hb=>(dkAwake_any W).mono fun _ _ ⟨h1,h2⟩=>⟨h1,hb.trans (h2.mono hb.size)⟩)
 have HLT:=hid (light18_any v L w hv ho)
 obtain ⟨A,d,rfl⟩:=hv.shape
 have hr:=hv.at_.2.2.2
 have hmx:=hv.len
 unfold maxLen at hmx
 obtain ⟨N,HN⟩:∃ q:Nat,Hid (L.length=q):=⟨_,hid rfl⟩
 have HCEL:Hid (∀ k (h:k < L.length),∃ b off,A=some ⟨b,off,none⟩∧∀ W,Below w.heap.size w W→loadAk (.pointer (some ⟨b,off + k * 3,none⟩)) W=.ok (.value (.agg (akc L[k]))) W):=hid (fun k hk=>by
  obtain ⟨b,off,e,hb,hc⟩:=hr (by omega)
  exact ⟨b,off,e,fun W hW=>loadAk_mid (range_kept (hc k hk) (hW.block b hb))⟩)
 have HOK:Hid (∀ k (h:k < L.length),AkOk w L[k]):=hid (fun k hk=>ho _ (List.getElem_mem hk))
 rw [HN.out] at HLT hmx ⊢
 have HMX:=hid hmx
 clear hv ho hr hmx
 go_enter Try.func3,Try.ntmps3
 go_wp2_with fail
 refine HLT.out.mono ?_
 rintro e w1 ⟨q,rfl,hq,rfl⟩
 have HREF:=hid (Below.refl w.heap.size w)
 cases q with
 | false=>
  clear hq
  go_wp2_with fail
  refine (HFIN.out w HREF.out).mono ?_
  rintro e w2 ⟨rfl,hb2⟩
  go_wp2_with fail
  go_ret
  exact ⟨rfl,hb2⟩
 | true=>
 have HLA:=hid (hq rfl)
 clear hq
 by_cases p0:room < 0
 ·go_wp2_with fail
  refine (dkNew_no room w (.inl p0)).mono ?_
  rintro e w1 ⟨rfl,rfl⟩
  go_wp2_with fail
  refine (HFIN.out w HREF.out).mono ?_
  rintro e w2 ⟨rfl,hb2⟩
  go_wp2_with fail
  go_ret
  exact ⟨rfl,hb2⟩
 by_cases p1:1048576 < room
 ·go_wp2_with fail
  refine (dkNew_no room w (.inr p1)).mono ?_
  rintro e w1 ⟨rfl,rfl⟩
  go_wp2_with fail
  refine (HFIN.out w HREF.out).mono ?_
  rintro e w2 ⟨rfl,hb2⟩
  go_wp2_with fail
  go_ret
  exact ⟨rfl,hb2⟩
 have HNW:=hid (dkNew_yes room w (by omega) (by omega))
 have HNG:=hid (newDk_good (room:=room) (by omega) (by omega))
 go_wp2_with fail
 refine HNW.out.mono ?_
 rintro e w1 ⟨rfl,h1,hb1⟩
 have HV1:=hid h1
 have HB1:=hid hb1
 clear h1 hb1
 go_wp2_with fail
 refine (refNew18_any room w1).mono ?_
 rintro e w2 ⟨rfl,hb2⟩
 obtain ⟨C0,HC0⟩:∃ q:Array Value,Hid (rdc (newDk room) (.slice none 0 0) (.slice none 0 0) (.slice none 0 0)=q):=⟨_,hid rfl⟩
 have HRC:Hid (∀ W a,RfC W C0 (newDk room) a):=hid (fun W a=>⟨_,_,_,HC0.out.symm,Byo.nil W a,Byo.nil W a,Byo.nil W a⟩)
 rw [HC0.out]
 have hal:=allocRd_eq w2
 have hsv:=rd_var w2 (Z:=rdZ) rfl (HRC.out w2 none).size (HRC.out w2 none).one
 have hb3:=hb2.alloc hb2.size (.cells C0 31)
 have HST:Hid (∃ D C,DxSt w (w2.alloc (.cells C0 31)) w.heap.size w2.heap.size D C C):=hid (by
  have hv:=HV1.out.below hb3
  exact ⟨newDk room,C0,⟨_,_,hv,HRC.out _ _⟩,HNG.out,heap_alloc_new w2 _,(HRC.out w none).size,⟨(HRC.out w none).size,(HRC.out w none).one⟩,HB1.out.trans (hb3.mono HB1.out.size),Nat.le_refl _,Nat.le_trans HB1.out.size hb2.size⟩)
 clear hb2 hb3 p0 p1 HV1 HNG HNW
 go_upto_region 9 with (fail)
 clear hal hsv
 generalize (w2.alloc (.cells C0 31))=w3 at *
 generalize w2.heap.size=g9 at *
 obtain ⟨b,HBB⟩:∃ q:Nat,Hid (w.heap.size=q):=⟨_,hid rfl⟩
 rw [HBB.out]
 have HST2:Hid (∃ D C,DxSt w w3 b g9 D C C):=hid (by have:=HST.out;rw [HBB.out] at this;exact this)
 clear HST HB1
 go_wp2_with fail
 go_loopw [8] (fun s8 wr=>∃ k:Nat,k≤N∧s8=.int .i64 k∧Hid (∃ D C,DxSt w wr b g9 D C C)) (fun s8 _=>N - (intOf s8).toNat)
 case atStart=>exact ⟨0,Nat.zero_le _,rfl,HST2⟩
 case round=>
  obtain ⟨k,hk,rfl,HREL⟩:=hrel
  by_cases hlt:k < N
  ·have hlt':(k:Int) < (N:Int):=by omega
   have hkL:k < L.length:=by rw [HN.out];exact hlt
   obtain ⟨b0,off,rfl,hld⟩:=HCEL.out k hkL
   have HKO:=hid (HOK.out k hkL)
   have HXL:=hid (HLA.out.2 k hkL)
   obtain ⟨D,C,hS⟩:=HREL.out
   have HLD:=hid hld
   generalize L[k]=x at *
   obtain ⟨AX,HAX⟩:∃ C:Array Value,Hid (akc x=C):=⟨_,hid rfl⟩
   rw [HAX.out] at HLD
   have HHK:=hid (show k < N from hlt)
   have HWI:Hid (wrap64 ((k:Int) + 1)=(k:Int) + 1):=hid (by have:=HMX.out;unfold wrap64;omega)
   have HSS:=hid hS
   have HXN:=hid (show x.n≤9223372036854775807 from by
    have h1:-9223372036854775808≤x.n∧x.n≤9223372036854775807:=by simpa [Lit.wf,IntKind.min,IntKind.max,IntKind.signed,IntKind.bits] using HKO.out.1
    exact h1.2)
   clear hS hld hkL HREL hlt hk
   go_upto_region 12 with (fail)
   go_cut [9,10] (fun s9 s10 wy=>Hid (DxMid w wy b g9 s9 s10))
   case first=>
    have hbd:Below wr.heap.size wr wr.drew:=(Below.refl _ _).drew
    have HSd:=hid (HSS.out.below hbd)
    have hal:=allocRd_eq
    have HDO:Hid (∀ W,DxSt w W b g9 D C C→Calls Try.prog 10 #[.pointer (some ⟨b,0,none⟩),.agg C,.agg AX] W fun e w'=>∃ C',e=.returned (.tuple #[.agg C',.bool true])∧DxSt w w' b g9 (actD D x.act x.bl x.n) C C'∧(∀ (gx:Nat) (Z:Array Value),W.heap[gx]?=some (.cells Z 31 (0,0))→w'.heap[gx]?=some (.cells Z 31 (0,0)))):=hid (fun W h=>by
     obtain ⟨va,vt,h1,h2⟩:=h.v
     have:=do18_any D D C x W h1 h.g h.g h2 h.bel.size ⟨HKO.out.1,HKO.out.2.below h.bel⟩ HXL.out
     rw [HAX.out] at this
     refine this.mono ?_
     rintro e w' ⟨C',va',vt',q,rfl,hq,hE,hR,hT,_⟩
     rw [hq rfl]
     exact ⟨C',rfl,h.done x h1 rfl HXN.out hE hR hT,fun gx Z hx=>h1.other hx (by decide) (by decide) hT⟩)
    have HKP:Hid (∀ W D6 C6,DxSt w W b g9 D6 C C6→loadRd (.pointer (some ⟨g9,0,none⟩)) W=.ok (.value (.agg C)) W∧loadAk (.pointer (some ⟨b0,off + k * 3,none⟩)) W=.ok (.value (.agg AX)) W):=hid (fun W D6 C6 h=>⟨h.ld9,HLD.out W h.bel⟩)
    refine wp_region_held_drew (S:=fun W=>loadRd (.pointer (some ⟨g9,0,none⟩)) W=.ok (.value (.agg C)) W∧loadAk (.pointer (some ⟨b0,off + k * 3,none⟩)) W=.ok (.value (.agg AX)) W) (by kernel_rfl) (HKP.out _ _ _ HSd.out) (fun hHeld=>?_)
    refine' tkq 0 rfl ?_;try simp only [lay]
    refine' tkq2 1 rfl ?_;try simp only [lay]
    refine' tkq 2 rfl ?_;try simp only [lay]
    refine' tkq 3 rfl ?_;try simp only [lay]
    refine' tkq 4 rfl ?_;try simp only [lay]
    refine' tkq2 5 rfl ?_;try simp only [lay]
    refine pair_on (i:=6) (j:=10) rfl rfl (by kernel_rfl) (by rfl) (by rfl) (fun K hK=>?_) (fun K hK=>?_)
    ·go_simp
     refine (HDO.out _ HSd.out).mono ?_
     rintro e w6 ⟨C6,rfl,h6,_⟩
     have HS6:=hid h6
     refine hK.out _ _ (HKP.out _ _ _ HS6.out) (fun hHeld=>?_)
     clear hK K h6
     try simp only [lay]
     refine' tkq 7 rfl ?_;try simp only [lay]
     refine' tkq 8 rfl ?_;try simp only [lay]
     refine' tkq 9 rfl ?_;try simp only [lay]
     have HSA:=hid (HS6.out.below ((Below.refl w6.heap.size w6).alloc (Nat.le_refl _) (.cells rdZ 31)))
     have HSB:=hid (HS6.out.below ((Below.refl w6.heap.size w6).alloc (Nat.le_refl _) (.cells C6 31)))
     have hsv:=rd_var w6 (Z:=rdZ) rfl HS6.out.cs.1 HS6.out.cs.2
     refine call_on (i:=10) rfl (by kernel_rfl) (by rfl) (fun K hK=>?_)
     go_simp
     refine hK.out _ _ (HKP.out _ _ _ HSA.out) (fun hHeld=>?_)
     clear hK K
     try simp only [lay]
     refine call_on (i:=11) rfl (by kernel_rfl) (by rfl) (fun K hK=>?_)
     go_simp
     refine hK.out _ _ (HKP.out _ _ _ HSB.out) (fun hHeld=>?_)
     clear hK K
     try simp only [lay]
     refine' tkq 12 rfl ?_;try simp only [lay]
     refine wpAnyH_done (by kernel_rfl) ?_ _
     clear hHeld
     have HRX:=hid (heap_alloc_new w6 (.cells C6 31))
     clear hsv hal hbd
     go_wp2_with fail
     go_meet
     case rel=>exact hid ⟨_,_,_,C6,rfl,rfl,HRX.out,HSB.out⟩
    ·go_simp
     have HSA:=hid (HSd.out.below ((Below.refl wr.drew.heap.size wr.drew).alloc (Nat.le_refl _) (.cells rdZ 31)))
     have HRA:=hid (show (wr.drew.alloc (.cells rdZ 31)).heap[wr.heap.size]?=some (.cells rdZ 31 (0,0)) from heap_alloc_new wr.drew (.cells rdZ 31))
     have HGX:=hid (show w.heap.size≤wr.heap.size∧wr.heap.size≠g9 from ⟨HSd.out.bel.size,Nat.ne_of_gt (lt_of_block HSd.out.r9)⟩)
     refine hK.out _ _ (HKP.out _ _ _ HSA.out) (fun hHeld=>?_)
     clear hK K
     try simp only [lay]
     refine call_on (i:=6) rfl (by kernel_rfl) (by rfl) (fun K hK=>?_)
     go_simp
     refine (HDO.out _ HSA.out).mono ?_
     rintro e w6 ⟨C6,rfl,h6,ho6⟩
     have HS6:=hid h6
     have HR6:=hid (ho6 _ _ HRA.out)
     clear h6 ho6
     refine hK.out _ _ (HKP.out _ _ _ HS6.out) (fun hHeld=>?_)
     clear hK K
     try simp only [lay]
     refine' tkq 7 rfl ?_;try simp only [lay]
     refine' tkq 8 rfl ?_;try simp only [lay]
     refine' tkq 9 rfl ?_;try simp only [lay]
     have hsv:storeRd (.pointer (some ⟨wr.heap.size,0,none⟩)) (.agg C6) w6=.ok .skip (setSe w6 wr.heap.size C6):=storeRd_eq HR6.out rfl HS6.out.cs.1 HS6.out.cs.2
     have HSB:=hid (HS6.out.other HR6.out HGX.out.2 HGX.out.1 (Y:=C6))
     refine call_on (i:=11) rfl (by kernel_rfl) (by rfl) (fun K hK=>?_)
     go_simp
     refine hK.out _ _ (HKP.out _ _ _ HSB.out) (fun hHeld=>?_)
     clear hK K
     try simp only [lay]
     refine' tkq 12 rfl ?_;try simp only [lay]
     refine wpAnyH_done (by kernel_rfl) ?_ _
     clear hHeld
     have HRX:=hid (setSe_same (C:=C6) HR6.out)
     clear hsv hal hbd
     go_wp2_with fail
     go_meet
     case rel=>exact hid ⟨_,_,_,C6,rfl,rfl,HRX.out,HSB.out⟩
   case rest=>
    obtain ⟨gx,D6,X6,C6,rfl,rfl,hrx,hS6⟩:=hcut.out
    have hlx:=loadRd_row hrx hS6.cs.1
    have hst:=hS6.st9
    have HS7:=hid hS6.fin
    have HLK:Hid (Calls Try.prog 11 #[.pointer (some ⟨b,0,none⟩),.agg C6] (setSe wc g9 C6) fun e w'=>e=.returned (.bool true)∧Below (setSe wc g9 C6).heap.size (setSe wc g9 C6) w'):=hid (by
     obtain ⟨va,vt,h1,h2⟩:=HS7.out.v
     exact like18_any D6 C6 _ h1 HS7.out.g h2)
    have hl9:=HS7.out.ld9
    clear hrx hS6 hcut
    go_wp2_with fail
    refine HLK.out.mono ?_
    rintro e w8 ⟨rfl,hb8⟩
    have HS8:=hid (HS7.out.below hb8)
    clear hb8 hlx hst hl9
    go_wp2_with fail
    go_roundw
    case rel=>exact ⟨k + 1,HHK.out,by rw [HWI.out];rfl,hid ⟨_,_,HS8.out⟩⟩
    case measure=>exact dx_meas HHK.out HWI.out
  ·have hI:¬ (k:Int) < (N:Int):=by omega
   have HBL:Hid (Below w.heap.size w wr):=hid (by
    obtain ⟨D,C,hS⟩:=HREL.out
    exact hS.bel)
   clear HREL hlt hk
   go_wp2_with fail
   refine (HFIN.out wr HBL.out).mono ?_
   rintro e w2 ⟨rfl,hb2⟩
   go_wp2_with fail
   go_ret
   exact ⟨rfl,hb2⟩
end Go.Proofs.Ytocnobllccdocaa
