/-
  AcCodeRight AcCodeFirst: what each of them says stands at its head.
-/
import Derived.Test.YtpdnnmabijmfbaaGreatDoorBs26
import Derived.Test.YtpdnnmabijmfbaaGreatDoorBs27
namespace Go.Proofs.YtpdnnmabijmfbaaGreatDoor
set_option maxRecDepth 20000
open Go.RowKit
attribute [local go_sem ↓] exec_load_ax exec_load_hash
theorem rightX_may {n:Int} {a:AcM} (h:mayX a=false):rightX n a=false:=by
 unfold rightX
 rw [h,Bool.false_and,Bool.and_false]
theorem rightX_all {n:Int} {a:AcM} (h:mayX a=true):rightX n a=(decide (a.bo≤n) && (decide (a.fr.length=quoS n) && (decide (lastI a.fr≤n) && decide (a.tg=tagX a)))):=by
 have hp:=(mayX_iff.1 h).2.2.2.2.2.2.2
 unfold rightX
 rw [h,Bool.true_and,Bool.eq_iff_iff]
 simp only [Bool.and_eq_true,decide_eq_true_eq]
 constructor
 ·rintro ⟨_,h1,h2,h3⟩
  exact ⟨h1,h2,h3⟩
 ·rintro ⟨h1,h2,h3⟩
  exact ⟨by omega,h1,h2,h3⟩
set_option maxHeartbeats 6400000 in
theorem acRight_ok:AcRightOk:=by
 intro n v a w hwn hv hlen hK
 have HV:=hid (fun W (h:Below w.heap.size w W)=>hv.below h)
 obtain ⟨s,rfl,ho,ht⟩:=hv
 have hb0:Below w.heap.size w (w.alloc (.cells (axc a s) 52)):=(Below.refl _ _).alloc (Nat.le_refl _) _
 have hX:=BoxX.new w a s
 obtain ⟨A,k,rfl⟩:=ht.shape
 have HT:=hid (fun W (h:Below w.heap.size w W)=>ht.below h)
 have HLEN:=hid hlen
 obtain ⟨l,HFR⟩:∃ l:List Int,Hid (a.fr=l):=⟨_,hid rfl⟩
 rw [HFR.out] at hX hb0 HV HT HLEN ⊢
 obtain ⟨L,HL⟩:∃ n:Nat,Hid (l.length=n):=⟨_,hid rfl⟩
 rw [HL.out] at hX hb0 HV HT HLEN ⊢
 obtain ⟨q,HQ⟩:∃ q:Nat,Hid (quoS n=q):=⟨_,hid rfl⟩
 obtain ⟨m,HM⟩:∃ q:Bool,Hid (mayX a=q):=⟨_,hid rfl⟩
 obtain ⟨tq,HTQ⟩:∃ q:Bool,Hid (decide (a.tg=tagX a)=q):=⟨_,hid rfl⟩
 obtain ⟨la,HLA⟩:∃ q:Int,Hid (lastI l=q):=⟨_,hid rfl⟩
 obtain ⟨ans,HAN⟩:∃ q:Bool,Hid (rightX n a=q):=⟨_,hid rfl⟩
 have HNO:Hid (m=false→ans=false):=hid (fun h=>by rw [← HAN.out];exact rightX_may (HM.out.trans h))
 have HYES:Hid (m=true→ans=(decide (a.bo≤n) && (decide (L=q) && (decide (la≤n) && tq)))):=hid (fun h=>by rw [← HAN.out,rightX_all (HM.out.trans h),HFR.out,HL.out,HQ.out,HLA.out,HTQ.out])
 have HLP:Hid (m=true→0 < L):=hid (fun h=>by
  have:=(mayX_iff.1 (HM.out.trans h)).2.2.2.2.2.2.2
  rw [HFR.out,HL.out] at this
  omega)
 rw [HAN.out]
 have HQU:Hid (∀ W,Calls Tryz.prog 77 #[.int .i64 n] W fun e w'=>e=.returned (.int .i64 (q:Int))∧W=w'):=hid (fun W=>by
  have:=quorum_any n W hwn
  rw [HQ.out] at this
  exact this)
 obtain ⟨C,HC⟩:∃ C:Array Value,Hid (axc a (.slice A L k)=C):=⟨_,hid rfl⟩
 rw [HC.out] at hb0 HV ⊢
 have HFI:Hid (∀ W,Below w.heap.size w W→Calls Tryz.prog 163 #[.agg C] W fun e w'=>e=.returned (.bool m)∧Below W.heap.size W w'):=hid (fun W h=>by
  have:=acFits_any _ a W (HV.out W h) (by rw [HFR.out,HL.out];exact HLEN.out)
  rw [HM.out] at this
  exact this)
 obtain ⟨B,HBB⟩:∃ l:List UInt8,Hid (taggedX a=l):=⟨_,hid rfl⟩
 have HTD:Hid (m=true→∀ W,Below w.heap.size w W→Calls Tryz.prog 84 #[.agg C] W fun e w'=>∃ x,e=.returned x∧Own W.heap.size w' x B∧Below W.heap.size W w'):=hid (fun h W hb=>by
  have:=acTagged_any _ a W (HV.out W hb) (HM.out.trans h)
  rw [HBB.out] at this
  exact this)
 have HKC:Hid (m=true→∀ v gp c W,Below w.heap.size w W→gp < W.heap.size→W.cell? ⟨gp,0,none⟩=some v→Byt W v B→Calls Tryz.prog 111 #[.int .i64 a.bo,.int .u8 2,.agg (hcells a.tg),.slice (some ⟨gp,0,none⟩) 1 c] W fun e w'=>e=.returned (.bool tq)∧Below W.heap.size W w'):=hid (fun h v gp c W hb h1 h2 h3=>by
  have hm:mayX a=true:=HM.out.trans h
  have hlen:=taggedX_len ho hm
  have hn:nodeB a.bo=true:=by
   obtain ⟨_,j1,j2,_⟩:=mayX_iff.1 hm
   unfold nodeB
   exact decide_eq_true ⟨j1,j2⟩
  have:=check_hash a.bo 2 a.tg ho.tg v B gp c W h1 h2 h3 (by rw [← HBB.out];omega) (hK.below hb)
  rw [hn,Bool.true_and,← HBB.out] at this
  rw [← HTQ.out]
  exact this)
 obtain ⟨G,HG⟩:∃ C:Array Value,Hid (hcells a.tg=C):=⟨_,hid rfl⟩
 rw [HG.out] at HKC
 obtain ⟨bo,HBO⟩:∃ x:Int,Hid (a.bo=x):=⟨_,hid rfl⟩
 rw [HBO.out] at HKC HYES
 have HX:Hid (∀ W:World,W.heap[w.heap.size]?=some (.cells C 52 (0,0))→loadAx (.pointer (some ⟨w.heap.size,0,none⟩)) W=.ok (.value (.agg C)) W∧W.cell? ⟨w.heap.size,0,none⟩=some (.int .i64 bo)∧W.cell? ⟨w.heap.size,35,none⟩=some (.slice A L k)∧loadH (.pointer (some ⟨w.heap.size,36,none⟩)) W=.ok (.value (.agg G)) W):=hid (fun W h=>by
  have h2:=h
  rw [← HC.out] at h2
  have hBX:BoxX W w.heap.size a (.slice A L k):=h2
  have h3:=hBX.ints.1
  rw [HBO.out] at h3
  refine ⟨loadAx_row h (by rw [← HC.out];exact axc_size _ ho),h3,hBX.fr ho,?_⟩
  rw [← HG.out]
  exact loadH_mid (hBX.tg ho) ho.tg)
 have hr0:(w.alloc (.cells C 52)).heap[w.heap.size]?=some (.cells C 52 (0,0)):=heap_alloc_new w _
 clear ho ht hK hwn hX hlen
 go_enter Tryz.func118,Tryz.ntmps118
 go_upto_region 1 with (fail)
 generalize (w.alloc (.cells C 52))=w0 at *
 have hl0:=lt_of_block hr0
 have HXW:=hid (fun W (h:Below w0.heap.size w0 W)=>HX.out W ((h.block _ hl0).trans hr0))
 have hbd:Below w0.heap.size w0 w0.drew:=(Below.refl _ _).drew
 have HB0:=hid hb0
 clear hr0 hl0 hb0
 refine wp_region_held_drew (S:=fun W=>loadAx (.pointer (some ⟨w.heap.size,0,none⟩)) W=.ok (.value (.agg C)) W∧W.cell? ⟨w.heap.size,0,none⟩=some (.int .i64 bo)∧W.cell? ⟨w.heap.size,35,none⟩=some (.slice A L k)) (by kernel_rfl) (⟨(HXW.out _ hbd).1,(HXW.out _ hbd).2.1,(HXW.out _ hbd).2.2.1⟩) (fun hHeld=>?_)
 refine' tk (i:=0) (v:=_) rfl (fun W hW=>hW.1) ?_
 try simp only [lay]
 refine call_on (i:=1) rfl (by kernel_rfl) (by rfl) (fun K hK=>?_)
 go_simp
 refine (HFI.out w0.drew (HB0.out.trans (hbd.mono HB0.out.size))).mono ?_
 rintro e w2 ⟨rfl,hb2'⟩
 have hb2:=hbd.trans hb2'
 refine hK.out _ _ (⟨(HXW.out _ hb2).1,(HXW.out _ hb2).2.1,(HXW.out _ hb2).2.2.1⟩) (fun hHeld=>?_)
 clear hK K
 try simp only [lay]
 cases m with
 | false=>
  obtain rfl:ans=false:=HNO.out rfl
  refine' tkq 2 rfl ?_;try simp only [lay]
  refine' tkq 3 rfl ?_;try simp only [lay]
  refine tf (i:=4) rfl ?_
  try simp only [lay]
  refine tf (i:=5) rfl ?_
  try simp only [lay]
  refine tf (i:=6) rfl ?_
  try simp only [lay]
  refine tf (i:=7) rfl ?_
  try simp only [lay]
  refine' tkq 8 rfl ?_;try simp only [lay]
  refine' tkq 9 rfl ?_;try simp only [lay]
  refine tf (i:=10) rfl ?_
  try simp only [lay]
  refine tf (i:=11) rfl ?_
  try simp only [lay]
  refine tf (i:=12) rfl ?_
  try simp only [lay]
  refine tf (i:=13) rfl ?_
  try simp only [lay]
  refine tf (i:=14) rfl ?_
  try simp only [lay]
  refine tf (i:=15) rfl ?_
  try simp only [lay]
  refine' tkq 16 rfl ?_;try simp only [lay]
  refine wpAnyH_done (by kernel_rfl) ?_ _
  go_wp2_with fail
  go_ret
  exact ⟨rfl,HB0.out.trans (hb2.mono HB0.out.size)⟩
 | true=>
  have HANS:=hid (HYES.out rfl)
  have HLQ:=hid (HLP.out rfl)
  have HTD2:=hid (HTD.out rfl)
  have HKC2:=hid (HKC.out rfl)
  clear HYES HNO HTD HKC HLP
  by_cases hbn:n < bo
  ·obtain rfl:ans=false:=by rw [HANS.out,decide_eq_false (by omega)];rfl
   refine' tkq 2 rfl ?_;try simp only [lay]
   refine' tkq 3 rfl ?_;try simp only [lay]
   refine' tkq 4 rfl ?_;try simp only [lay]
   refine' tkq3 5 rfl ?_;try simp only [lay]
   refine' tkq 6 rfl ?_;try simp only [lay]
   refine' tkq 7 rfl ?_;try simp only [lay]
   refine' tkq 8 rfl ?_;try simp only [lay]
   refine' tkq 9 rfl ?_;try simp only [lay]
   refine tf (i:=10) rfl ?_
   try simp only [lay]
   refine tf (i:=11) rfl ?_
   try simp only [lay]
   refine tf (i:=12) rfl ?_
   try simp only [lay]
   refine tf (i:=13) rfl ?_
   try simp only [lay]
   refine tf (i:=14) rfl ?_
   try simp only [lay]
   refine tf (i:=15) rfl ?_
   try simp only [lay]
   refine' tkq 16 rfl ?_;try simp only [lay]
   refine wpAnyH_done (by kernel_rfl) ?_ _
   go_wp2_with fail
   go_ret
   exact ⟨rfl,HB0.out.trans (hb2.mono HB0.out.size)⟩
  ·have hbn1:¬ bo > n:=by omega
   refine' tkq 2 rfl ?_;try simp only [lay]
   refine' tkq 3 rfl ?_;try simp only [lay]
   refine' tkq 4 rfl ?_;try simp only [lay]
   refine' tkq3 5 rfl ?_;try simp only [lay]
   refine' tkq 6 rfl ?_;try simp only [lay]
   refine' tkq 7 rfl ?_;try simp only [lay]
   refine' tkq 8 rfl ?_;try simp only [lay]
   refine' tkq 9 rfl ?_;try simp only [lay]
   refine' tkq 10 rfl ?_;try simp only [lay]
   refine' tkq3 11 rfl ?_;try simp only [lay]
   refine' tkq 12 rfl ?_;try simp only [lay]
   refine' tkq 13 rfl ?_;try simp only [lay]
   refine call_on (i:=14) rfl (by kernel_rfl) (by rfl) (fun K hK=>?_)
   go_simp
   refine (HQU.out w2).mono ?_
   rintro e w3 ⟨rfl,rfl⟩
   refine hK.out _ _ (⟨(HXW.out _ hb2).1,(HXW.out _ hb2).2.1,(HXW.out _ hb2).2.2.1⟩) (fun hHeld=>?_)
   clear hK K
   try simp only [lay]
   by_cases hl:L=q
   case neg=>
    have hl1:((L:Int) != (q:Int))=true:=by simp;omega
    obtain rfl:ans=false:=by rw [HANS.out,decide_eq_false hl,Bool.false_and,Bool.and_false]
    refine' tkq 15 rfl ?_;try simp only [lay]
    refine' tkq 16 rfl ?_;try simp only [lay]
    refine wpAnyH_done (by kernel_rfl) ?_ _
    clear hl
    go_wp2_with fail
    go_ret
    exact ⟨rfl,HB0.out.trans (hb2.mono HB0.out.size)⟩
   have hl1:((L:Int) != (q:Int))=false:=by simp [hl]
   refine' tkq 15 rfl ?_;try simp only [lay]
   refine' tkq 16 rfl ?_;try simp only [lay]
   refine wpAnyH_done (by kernel_rfl) ?_ _
   have HANS2:Hid (ans=(decide (la≤n) && tq)):=hid (by rw [HANS.out,decide_eq_true hl,decide_eq_true (by omega)];rfl)
   have HB2:=hid (HB0.out.trans (hb2.mono HB0.out.size))
   have hlast:Hid (∀ W,Below w.heap.size w W→∃ g o,A=some ⟨g,o,none⟩∧W.cell? ⟨g,o + (L - 1),none⟩=some (.int .i64 la)):=hid (fun W h=>by
    have hp:=HLQ.out
    have hlp:0 < l.length:=by rw [HL.out];exact hp
    obtain ⟨g,og,e,_,hcl⟩:=(HT.out W h).at_.2.2.2 hlp
    refine ⟨g,og,e,?_⟩
    have:=hcl (L - 1) (by rw [HL.out];omega) 0 _ rfl
    rw [Nat.mul_one,Nat.add_zero] at this
    rw [this,← HLA.out,lastI_at hlp]
    simp only [HL.out])
   clear hHeld hl hbn hbn1 hl1 HANS
   go_upto_region 3 with (fail)
   obtain ⟨g,og,rfl,cl2⟩:=hlast.out w2.drew HB2.out.drew
   have HLT:Hid (∀ W,Below w.heap.size w W→W.cell? ⟨g,og + (L - 1),none⟩=some (.int .i64 la)):=hid (fun W h=>by
    obtain ⟨g',og',e,hc⟩:=hlast.out W h
    injection e with e
    injection e with e1 e2 _
    subst e1 e2
    exact hc)
   have hbd2:=hb2.drew
   have q1:IntKind.i64.wrap ((L:Int) - 1)=((L - 1:Nat):Int):=by have:=HLQ.out;have:=HLEN.out;rw [IntKind.wrap_i64];omega
   have q2:((L - 1:Nat):Int) < (L:Int):=by have:=HLQ.out;omega
   have q3:(0:Int)≤((L - 1:Nat):Int):=by omega
   have q4:((L - 1:Nat):Int).toNat=L - 1:=Int.toNat_natCast _
   have q5:wrap64 ((L:Int) - 1)=((L - 1:Nat):Int):=by have:=HLQ.out;have:=HLEN.out;unfold wrap64;omega
   have q6:L - 1 < L:=by have:=HLQ.out;omega
   clear cl2
   obtain ⟨L1,HL1⟩:∃ x:Nat,Hid (L - 1=x):=⟨_,hid rfl⟩
   rw [HL1.out] at q1 q2 q3 q4 q5 q6 HLT
   have HS3:Hid (∀ W,Below w0.heap.size w0 W→(loadAx (.pointer (some ⟨w.heap.size,0,none⟩)) W=.ok (.value (.agg C)) W∧W.cell? ⟨w.heap.size,0,none⟩=some (.int .i64 bo)∧W.cell? ⟨w.heap.size,35,none⟩=some (.slice (some ⟨g,og,none⟩) L k)∧loadH (.pointer (some ⟨w.heap.size,36,none⟩)) W=.ok (.value (.agg G)) W)∧W.cell? ⟨g,og + L1,none⟩=some (.int .i64 la)):=hid (fun W h=>⟨HXW.out W h,HLT.out W (HB0.out.trans (h.mono HB0.out.size))⟩)
   refine wp_region_held_drew (S:=fun W=>(loadAx (.pointer (some ⟨w.heap.size,0,none⟩)) W=.ok (.value (.agg C)) W∧W.cell? ⟨w.heap.size,0,none⟩=some (.int .i64 bo)∧W.cell? ⟨w.heap.size,35,none⟩=some (.slice (some ⟨g,og,none⟩) L k)∧loadH (.pointer (some ⟨w.heap.size,36,none⟩)) W=.ok (.value (.agg G)) W)∧W.cell? ⟨g,og + L1,none⟩=some (.int .i64 la)) (by kernel_rfl) (HS3.out _ hbd2) (fun hHeld=>?_)
   refine' tkq 0 rfl ?_;try simp only [lay]
   refine' tk (i:=1) (v:=_) rfl ?_ ?_
   rotate_left
   ·(intro W hW;(try dsimp only at hW);obtain ⟨⟨_,hW1,hW2,_⟩,hW3⟩:=hW;go_simp;first | done | with_reducible rfl)
   try simp only [lay]
   refine' tkq 2 rfl ?_;try simp only [lay]
   refine' tk (i:=3) (v:=_) rfl ?_ ?_
   rotate_left
   ·(intro W hW;(try dsimp only at hW);obtain ⟨⟨_,hW1,hW2,_⟩,hW3⟩:=hW;go_simp;first | done | with_reducible rfl)
   try simp only [lay]
   refine' tkq 4 rfl ?_;try simp only [lay]
   refine' tkq 5 rfl ?_;try simp only [lay]
   refine' tkq 6 rfl ?_;try simp only [lay]
   refine' tk (i:=7) (v:=_) rfl ?_ ?_
   rotate_left
   ·(intro W hW;(try dsimp only at hW);obtain ⟨⟨_,hW1,hW2,_⟩,hW3⟩:=hW;go_simp;first | done | with_reducible rfl)
   try simp only [lay]
   refine' tkq 8 rfl ?_;try simp only [lay]
   by_cases hlan:la≤n
   case neg=>
    obtain rfl:ans=false:=by rw [HANS2.out,decide_eq_false hlan];rfl
    refine' tkq 9 rfl ?_;try simp only [lay]
    refine' tkq 10 rfl ?_;try simp only [lay]
    refine tf (i:=11) rfl ?_
    try simp only [lay]
    refine tf (i:=12) rfl ?_
    try simp only [lay]
    refine tf (i:=13) rfl ?_
    try simp only [lay]
    refine tf (i:=14) rfl ?_
    try simp only [lay]
    refine tf (i:=15) rfl ?_
    try simp only [lay]
    refine tf (i:=16) rfl ?_
    try simp only [lay]
    refine tf (i:=17) rfl ?_
    try simp only [lay]
    refine tf (i:=18) rfl ?_
    try simp only [lay]
    refine' tkq 19 rfl ?_;try simp only [lay]
    refine' tkq 20 rfl ?_;try simp only [lay]
    refine wpAnyH_done (by kernel_rfl) ?_ _
    go_wp2_with fail
    go_ret
    exact ⟨rfl,HB2.out.drew⟩
   obtain rfl:ans=tq:=by rw [HANS2.out,decide_eq_true hlan];rfl
   refine' tkq 9 rfl ?_;try simp only [lay]
   refine' tkq 10 rfl ?_;try simp only [lay]
   refine' tkq 11 rfl ?_;try simp only [lay]
   refine' tk (i:=12) (v:=_) rfl ?_ ?_
   rotate_left
   ·(intro W hW;(try dsimp only at hW);obtain ⟨⟨_,hW1,hW2,_⟩,hW3⟩:=hW;go_simp;first | done | with_reducible rfl)
   try simp only [lay]
   refine' tkq 13 rfl ?_;try simp only [lay]
   refine' tk (i:=14) (v:=_) rfl (fun W hW=>hW.1.2.2.2) ?_
   try simp only [lay]
   refine' tk (i:=15) (v:=_) rfl (fun W hW=>hW.1.1) ?_
   try simp only [lay]
   refine call_on (i:=16) rfl (by kernel_rfl) (by rfl) (fun K hK=>?_)
   go_simp
   refine (HTD2.out w2.drew HB2.out.drew).mono ?_
   rintro e w3 ⟨v3,rfl,ho3,hb3'⟩
   have hb3:=hbd2.trans (hb3'.mono hbd2.size)
   have hv3:=ho3.byt
   obtain ⟨A3,c3,rfl⟩:=hv3.shape
   refine hK.out _ _ (HS3.out _ hb3) (fun hHeld=>?_)
   clear hK K
   try simp only [lay]
   have hb4:Below w0.heap.size w0 (w3.alloc (.cells #[.slice A3 B.length c3] 33)):=hb3.alloc hb3.size _
   refine call_on (i:=17) rfl (by kernel_rfl) (by rfl) (fun K hK=>?_)
   go_simp
   refine hK.out _ _ (HS3.out _ hb4) (fun hHeld=>?_)
   clear hK K
   try simp only [lay]
   refine call_on (i:=18) rfl (by kernel_rfl) (by rfl) (fun K hK=>?_)
   go_simp
   refine (HKC2.out (.slice A3 B.length c3) w3.heap.size 1 (w3.alloc (.cells #[.slice A3 B.length c3] 33)) (HB0.out.trans (hb4.mono HB0.out.size)) (by simp) (by simp) (hv3.alloc _)).mono ?_
   rintro e w5 ⟨rfl,hb5'⟩
   have hb5:=hb4.trans (hb5'.mono hb4.size)
   refine hK.out _ _ (HS3.out _ hb5) (fun hHeld=>?_)
   clear hK K
   try simp only [lay]
   refine' tkq 19 rfl ?_;try simp only [lay]
   refine' tkq 20 rfl ?_;try simp only [lay]
   refine wpAnyH_done (by kernel_rfl) ?_ _
   go_wp2_with fail
   go_ret
   exact ⟨rfl,HB0.out.trans (hb5.mono HB0.out.size)⟩
end Go.Proofs.YtpdnnmabijmfbaaGreatDoor
namespace Go.Proofs.YtpdnnmabijmfbaaGreatDoor
set_option maxRecDepth 20000
open Go.RowKit
noncomputable def sliceAt1 (v : Value) (w : World) : Result Next := Sem.run Tryz.prog (execOp (fun _ => v) { dst := none, op := .buildSlice 60 1 #[(0, .tmp 0)], type := 0, pos := "", after := #[], guard := none }) w
theorem exec_slice_at1 (r:Operand→Value) (x:Operand) (dst:Option Tmp) (ty:TypeId) (pos:String) (after:Array Edge) (guard:Option (Nat × Bool)) (w:World):
  Sem.run Tryz.prog (execOp r { dst:=dst,op:=.buildSlice 60 1 #[(0,x)],type:=ty,pos:=pos,after:=after,guard:=guard }) w=sliceAt1 (r x) w:=by
 unfold sliceAt1 execOp
 simp
theorem sliceAt1_eq (a:AtM) (ha:a.Ok) (w:World):sliceAt1 (.agg (atc a)) w=.ok (.value (.slice (some ⟨w.heap.size,0,none⟩) 1 1)) (w.alloc (.cells (atc a) 54)):=by
 have hsz:(atc a).size=101:=atc_size ha
 have e0:(atc a).zipIdx=((atl a).zipIdx).toArray:=by unfold atc;simp
 unfold sliceAt1
 go_simp
 have e:=putAt_mid (atl a) [] (atl atZ) [] (by rw [atl_length ha,atl_length atZ_ok])
 simp only [List.nil_append,List.append_nil,List.length_nil] at e
 rw [← fold_putSg] at e
 exact congrArg (fun C=>w.alloc (.cells C 54)) e
attribute [local go_sem ↓] exec_load_att exec_load_hash exec_slice_at1
theorem ownA_ne {B g:Nat} {w:World} {T t:TypeId} {v:Value} {m:List AtM} {cs:Array Value} (h:OwnE atl 101 T B w v m) (hg:w.heap[g]?=some (.cells cs t (0,0))) (ht:T≠t):v.ownBlock≠some g:=by
 rcases h.2 with ⟨rfl,_⟩ | ⟨g',cap,cur,rfl,_,hh,_⟩
 ·simp [Value.ownBlock]
 ·intro he
  obtain rfl:g'=g:=by simpa [Value.ownBlock] using he
  rw [hh] at hg
  injection hg with hg
  injection hg with _ h2
  exact ht h2
def FoundX (l:List AtM) (b k:Int):Prop:=(k=-1∧∀ j (h:j < l.length),l[j].bo≠b)∨∃ i,∃ h:i < l.length,k=(i:Int)∧l[i].bo=b∧∀ j (_:j < l.length),j < i→l[j].bo≠b
set_option maxHeartbeats 800000 in
theorem acHas_any (a:AtM) (g:Nat) (b:Int) (w:World) (hg:w.heap[g]?=some (.cells #[.int .i64 b] 3 (0,0))):
  Calls Tryz.prog 128 #[.agg (atc a),.pointer (some ⟨g,0,none⟩)] w fun e w'=>e=.returned (.bool (decide (a.bo=b)))∧Below w.heap.size w w':=by
 have hb0:Below w.heap.size w (w.alloc (.cells (atc a) 54)):=(Below.refl _ _).alloc (Nat.le_refl _) _
 have hA:=BoxA.new w a
 have hg0:=(hb0.block _ (lt_of_block hg)).trans hg
 obtain ⟨C,HC⟩:∃ C:Array Value,Hid (atc a=C):=⟨_,hid rfl⟩
 rw [HC.out] at hb0 hA hg0 ⊢
 clear hg
 go_enter Tryz.func128,Tryz.ntmps128
 go_upto_region 1 with (fail)
 generalize (w.alloc (.cells C 54))=w0 at *
 have k0:=hA.cells.1
 have k1:=cell_of_one hg0
 clear hA hg0
 go_wp2_with fail
 go_ret
 exact ⟨ret_boolK (by first | rfl | simp),hb0⟩
set_option maxHeartbeats 1600000 in
theorem acIndex_any (v:Value) (l:List AtM) (g:Nat) (b:Int) (w0:World) (hv:Els atl 101 w0 v l) (ho:∀ a ∈ l,a.Ok) (hl:l.length≤1000) (hg:w0.heap[g]?=some (.cells #[.int .i64 b] 3 (0,0))):
  Calls Tryz.prog 127 #[v,.func (.func 128) #[] #[.pointer (some ⟨g,0,none⟩)]] w0 fun e w'=>∃ k:Int,e=.returned (.int .i64 k)∧FoundX l b k∧Below w0.heap.size w0 w':=by
 obtain ⟨A,c,rfl⟩:=hv.shape
 obtain ⟨n,HN⟩:∃ n:Nat,Hid (l.length=n):=⟨_,hid rfl⟩
 rw [HN.out] at hv hl ⊢
 have HT:=hid hv
 have HO:=hid ho
 have HG:=hid hg
 clear hv ho hg
 go_enter Tryz.func127,Tryz.ntmps127
 go_wp2_with fail
 go_loopw [8] (fun si wr=>∃ i:Nat,i≤n∧si=.int .i64 i∧Hid (∀ j (h:j < l.length),j < i→l[j].bo≠b)∧Below w0.heap.size w0 wr) (fun si _=>n - (intOf si).toNat)
 case atStart=>exact ⟨0,Nat.zero_le _,rfl,hid (fun j _ h=>absurd h (by omega)),Below.refl _ _⟩
 case round=>
  obtain ⟨i,hi,rfl,HB,hbr⟩:=hrel
  by_cases hlt:i < n
  ·have hil:i < l.length:=by rw [HN.out];exact hlt
   obtain ⟨ba,oa,rfl,hba,hcla⟩:=(HT.out.below hbr).at_.2.2.2 (by omega)
   have hI:(i:Int) < (n:Int):=by omega
   have l1:loadAtt (.pointer (some ⟨ba,oa + i * 101,none⟩)) wr=.ok (.value (.agg (atc l[i]))) wr:=loadAtt_in (hcla i hil) (HO.out _ (List.getElem_mem hil))
   have HW:=hid (acHas_any l[i] g b wr ((hbr.block _ (lt_of_block HG.out)).trans HG.out))
   obtain ⟨X,HX⟩:∃ C:Array Value,Hid (atc l[i]=C):=⟨_,hid rfl⟩
   obtain ⟨m,HM⟩:∃ q:Bool,Hid (decide (l[i].bo=b)=q):=⟨_,hid rfl⟩
   rw [HX.out] at l1
   rw [HX.out,HM.out] at HW
   clear hcla hba
   go_wp2_with fail
   refine HW.out.mono ?_
   rintro e w2 ⟨rfl,hb2⟩
   have hbr2:=hbr.trans (hb2.mono hbr.size)
   clear l1
   cases m with
   | false=>
    go_wp2_with fail
    go_roundw
    case rel=>
     refine ⟨i + 1,by omega,by go_num,hid (fun j h hj=>?_),hbr2⟩
     by_cases hji:j < i
     ·exact HB.out j h hji
     ·obtain rfl:j=i:=by omega
      exact of_decide_eq_false HM.out
    case measure=>simp [intOf];omega
   | true=>
    go_wp2_with fail
    go_ret
    exact ⟨_,rfl,.inr ⟨i,hil,rfl,of_decide_eq_true HM.out,HB.out⟩,hbr2⟩
  ·obtain rfl:i=n:=by omega
   go_wp2_with fail
   go_ret
   exact ⟨_,rfl,.inl ⟨rfl,fun j h=>HB.out j h (by have:=HN.out;omega)⟩,hbr⟩
structure FoSt (w0 w:World) (g:Nat) (b:Int) (s:Value) (L:List AtM):Prop where
 bel:Below w0.heap.size w0 w
 lt:w0.heap.size≤g
 one:w.heap[g]?=some (.cells #[.int .i64 b] 3 (0,0))
 own:OwnE atl 101 54 w0.heap.size w s L
section
variable {w0 w w':World} {g:Nat} {b:Int} {s:Value} {L:List AtM}
theorem FoSt.below (h:FoSt w0 w g b s L) (hb:Below w.heap.size w w'):FoSt w0 w' g b s L:=
 ⟨h.bel.trans (hb.mono h.bel.size),h.lt,(hb.block _ (lt_of_block h.one)).trans h.one,h.own.below hb⟩
theorem FoSt.app (h:FoSt w0 w g b s L) {s':Value} {L':List AtM} (ho:OwnE atl 101 54 w0.heap.size w' s' L') (hg:w.grownBy w' s.ownBlock):FoSt w0 w' g b s' L':=by
 have hne:=ownA_ne h.own h.one (by decide)
 exact ⟨h.bel.grown hg h.bel.size (fun j hj=>(World.ownsRow.lt h.own j hj).1),h.lt,(hg.block _ (lt_of_block h.one) (fun e=>hne e.symm)).trans h.one,ho⟩
theorem FoSt.next (h:FoSt w0 w g b s L) (b':Int):FoSt w0 (w.alloc (.cells #[.int .i64 b'] 3)) w.heap.size b' s L:=
 ⟨h.bel.alloc h.bel.size _,h.bel.size,heap_alloc_new w _,h.own.alloc _⟩
end
def acAt (p:Value) (w:World):Nat:=match p with
 | .pointer (some a)=>match w.cell? a with
  | some v=>(intOf v).toNat
  | none=>0
 | _=>0
theorem acAt_eq {g:Nat} {b:Int} {w:World} (h:w.heap[g]?=some (.cells #[.int .i64 b] 3 (0,0))):acAt (.pointer (some ⟨g,0,none⟩)) w=b.toNat:=by
 unfold acAt
 simp only [cell_of_one h]
 simp [intOf]
set_option maxHeartbeats 6400000 in
theorem acFirst_any (v:Value) (l:List AtM) (q:Nat) (w:World) (hv:Els atl 101 w v l) (hok:∀ a ∈ l,a.Ok) (hlen:l.length≤1000) (hq:q≤21):
  Calls Tryz.prog 80 #[v,.int .i64 (q:Int)] w fun e w'=>∃ x,e=.returned x∧OwnE atl 101 54 w.heap.size w' x (firstA l q 21)∧Below w.heap.size w w':=by
 have hmf:∀ (fn:Fn) (first cap:Array Value) (w:World),(Instr.makeFunc fn first cap).run Tryz.prog w=.ok (.func fn first cap) w:=fun _ _ _ _=>rfl
 have HV:=hid (fun W (h:Below w.heap.size w W)=>hv.below h)
 have HOK:=hid hok
 have HIX:=hid (fun g b W (h:Below w.heap.size w W) hg=>acIndex_any v l g b W (hv.below h) hok hlen hg)
 obtain ⟨A,kk,rfl⟩:=hv.shape
 obtain ⟨L,HL⟩:∃ n:Nat,Hid (l.length=n):=⟨_,hid rfl⟩
 rw [HL.out] at HV HIX hlen ⊢
 have HQ21:=hid hq
 have HLEN:=hid hlen
 have HST0:Hid (FoSt w (w.alloc (.cells #[.int .i64 1] 3)) w.heap.size (((0:Nat):Int) + 1) (.slice none 0 0) []):=hid
  ⟨(Below.refl _ _).alloc (Nat.le_refl _) _,Nat.le_refl _,heap_alloc_new w _,OwnE.nil _ _⟩
 clear hv hok hlen
 go_enter Tryz.func80,Tryz.ntmps80
 go_wp2_with fail
 go_loopw [5,6] (fun s p wr=>∃ (k g:Nat),k≤21∧p=.pointer (some ⟨g,0,none⟩)∧FoSt w wr g ((k:Int) + 1) s (firstA l q k)) (fun _ p wr=>22 - acAt p wr)
 case atStart=>exact ⟨0,_,Nat.zero_le _,rfl,HST0.out⟩
 case round=>
  obtain ⟨k,g,hk,rfl,hst⟩:=hrel
  clear HST0
  have HSG:Hid (∀ x ∈ firstA l q k,x.Ok):=hid (fun x hx=>HOK.out x ((firstA_frX l q k).2.2 x hx))
  obtain ⟨SL,HSL⟩:∃ x:List AtM,Hid (firstA l q k=x):=⟨_,hid rfl⟩
  have HQL:Hid (SL.length≤q):=hid (by rw [← HSL.out];exact firstA_len l q k)
  rw [HSL.out] at hst HSG
  obtain ⟨SA,SC,rfl⟩:=hst.own.shape
  obtain ⟨sn,HSN⟩:∃ x:Nat,Hid (SL.length=x):=⟨_,hid rfl⟩
  rw [HSN.out] at hst ⊢
  have HST:=hid hst
  have c1:=cell_of_one hst.one
  have HCT:=hid (acAt_eq hst.one)
  clear hst
  by_cases hle:k < 21
  ·have hle1:(k:Int) + 1≤21:=by omega
   by_cases hlq:sn < q
   ·have hlq1:(sn:Int) < (q:Int):=by omega
    have HLQ:=hid hlq
    have HLE:=hid hle
    clear hlq hle
    go_wp2_with fail
    refine (HIX.out g _ wr HST.out.bel HST.out.one).mono ?_
    rintro e w2 ⟨kx,rfl,hf,hb2⟩
    have HS2:=hid (HST.out.below hb2)
    have c2:=cell_of_one HS2.out.one
    clear c1 hb2
    rcases hf with ⟨rfl,hno⟩ | ⟨j,hil,rfl,hbo,hno⟩
    ·have HFD:Hid (firstA l q (k + 1)=SL):=hid (by rw [← HSL.out];exact firstA_lack hno)
     have HN:=hid (HS2.out.next ((k:Int) + 1 + 1))
     clear hno
     go_wp2_with fail
     go_roundw
     case rel=>
      refine ⟨k + 1,_,by have:=HLE.out;omega,rfl,?_⟩
      rw [HFD.out]
      exact HN.out
     case measure=>rw [HCT.out,acAt_eq HN.out.one];have:=HLE.out;omega
    ·obtain ⟨x,HXX⟩:∃ x:AtM,Hid (l[j]=x):=⟨_,hid rfl⟩
     have HXO:Hid x.Ok:=hid (by rw [← HXX.out];exact HOK.out _ (List.getElem_mem hil))
     have HFD:Hid (firstA l q (k + 1)=SL ++ [x]):=hid (by
      rw [← HSL.out,← HXX.out]
      exact firstA_found (by rw [HSL.out,HSN.out];exact HLQ.out) hil hbo hno)
     obtain ⟨G,HG⟩:∃ C:Array Value,Hid (atc x=C):=⟨_,hid rfl⟩
     have hsl:∀ W,sliceAt1 (.agg G) W=.ok (.value (.slice (some ⟨W.heap.size,0,none⟩) 1 1)) (W.alloc (.cells G 54)):=fun W=>by rw [← HG.out];exact sliceAt1_eq x HXO.out W
     have HSGK:Hid (∀ u ∈ [x],u.Ok):=hid (fun u hu=>by obtain rfl:=List.mem_singleton.1 hu;exact HXO.out)
     have hjl:j < L:=by have:=HL.out;omega
     have hJ:(j:Int) < (L:Int):=by omega
     have hJ0:(0:Int)≤(j:Int):=by omega
     obtain ⟨ba,oa,rfl,_,_⟩:=(HV.out w2 HS2.out.bel).at_.2.2.2 (by have:=HL.out;omega)
     have HLT:Hid (∀ W,Below w.heap.size w W→loadAtt (.pointer (some ⟨ba,oa + j * 101,none⟩)) W=.ok (.value (.agg G)) W):=hid (fun W h=>by
      obtain ⟨ba',oa',e,_,hcl⟩:=(HV.out W h).at_.2.2.2 (by have:=HL.out;omega)
      injection e with e
      injection e with e1 e2 _
      subst e1 e2
      have:=loadAtt_in (hcl j hil) (HOK.out _ (List.getElem_mem hil))
      rw [HXX.out,HG.out] at this
      exact this)
     have l2:=HLT.out w2 HS2.out.bel
     have HS4:=hid (HS2.out.below ((Below.refl _ _).alloc (Nat.le_refl _) (.cells G 54)))
     have HEL:Hid (Els atl 101 (w2.alloc (.cells G 54)) (.slice (some ⟨w2.heap.size,0,none⟩) 1 1) [x]):=hid (els_one w2 x G 54 HG.out)
     clear hno hbo
     go_upto_region 7 with (fail)
     clear c2
     go_wp2_with (at_builtin;go_loud (refine eltAt.wpList_append rfl (.tmp 23) (.tmp 28) rfl rfl rfl HSGK.out HS4.out.own HEL.out (by have:=HSN.out;have:=HQL.out;have:=HQ21.out;simp only [List.length_cons,List.length_nil];omega) HS4.out.bel.size ?_;intro v5 w5 ho5 hg5 hv5;have hs5:=HS4.out.app ho5 hg5;have HS5:=hid hs5;have c5':=cell_of_one hs5.one;have HN:=hid (hs5.next ((k:Int) + 1 + 1));clear hs5 ho5 hg5 hv5 l2))
     go_roundw
     case rel=>
      refine ⟨k + 1,_,by have:=HLE.out;omega,rfl,?_⟩
      rw [HFD.out]
      exact HN.out
     case measure=>rw [HCT.out,acAt_eq HN.out.one];have:=HLE.out;omega
   ·have hlq1:¬ (sn:Int) < (q:Int):=by omega
    have HFI:Hid (firstA l q 21=SL):=hid (by rw [← HSL.out];exact firstA_full (by rw [HSL.out,HSN.out];exact hlq) 21 hk)
    clear hlq
    go_wp2_with fail
    go_ret
    exact ⟨_,rfl,by rw [HFI.out];exact HST.out.own,HST.out.bel⟩
  ·obtain rfl:k=21:=by omega
   have hle1:¬ ((21:Nat):Int) + 1≤21:=by decide
   clear hle
   go_wp2_with fail
   go_ret
   exact ⟨_,rfl,by rw [HSL.out];exact HST.out.own,HST.out.bel⟩
end Go.Proofs.YtpdnnmabijmfbaaGreatDoor
