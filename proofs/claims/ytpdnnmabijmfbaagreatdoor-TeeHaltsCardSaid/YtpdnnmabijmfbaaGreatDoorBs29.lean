/-
  AcRight: what each of them says stands at its head.
-/
import Derived.Test.YtpdnnmabijmfbaaGreatDoorBs27
namespace Go.Proofs.YtpdnnmabijmfbaaGreatDoor
set_option maxRecDepth 20000
open Go.RowKit
attribute [local go_sem ↓] exec_load_hash exec_load_ax
set_option maxHeartbeats 6400000 in
theorem refRight10_any (n:Int) (x0:Value) (a:AcM) (w:World) (hv:AcV w x0 a) (hK:Kst 0 w):
  Calls Tryz.prog 123 #[.int .i64 n,x0] w fun e w'=>e=.returned (.bool (rightX n a))∧Below w.heap.size w w':=by
 obtain ⟨m,HM⟩:∃ m:Bool,Hid (mayX a=m):=⟨_,hid rfl⟩
 obtain ⟨t,HT⟩:∃ m:Bool,Hid (decide (a.tg=tagX a)=m):=⟨_,hid rfl⟩
 obtain ⟨q,HQ⟩:∃ q:Nat,Hid (quoS n=q):=⟨_,hid rfl⟩
 obtain ⟨ans,HAN⟩:∃ m:Bool,Hid (rightX n a=m):=⟨_,hid rfl⟩
 have HR:Hid (ans=(decide (q≠0) && (m && (decide (a.bo≤n) && (decide (a.fr.length=q) && (decide (lastI a.fr≤n) && t)))))):=hid (by rw [← HAN.out,← HM.out,← HT.out,← HQ.out];rfl)
 have HQU:Hid (∀ W,Calls Tryz.prog 6 #[.int .i64 n] W fun e w'=>e=.returned (.int .i64 (q:Int))∧W=w'):=hid (fun W=>by
  have:=refQuorum_any n W
  rw [HQ.out] at this
  exact this)
 have HMY:Hid (∀ W,Below w.heap.size w W→Calls Tryz.prog 168 #[x0] W fun e w'=>e=.returned (.bool m)∧Below W.heap.size W w'):=hid (fun W h=>by
  have:=refMay10_any x0 a W (hv.below h)
  rw [HM.out] at this
  exact this)
 have HTG:Hid (m=true→∀ W,Below w.heap.size w W→Calls Tryz.prog 85 #[x0] W fun e w'=>e=.returned (.agg (hcells (tagX a)))∧Below W.heap.size W w'):=hid (fun hm W h=>refTag10_any x0 a W (hv.below h) (HM.out.trans hm) (hK.below h))
 have HV:=hid (fun W (h:Below w.heap.size w W)=>hv.below h)
 obtain ⟨s,rfl,ho,he⟩:=hv
 have HEQ:Hid (∀ W,(Op.equalIn 10000 38 (.agg (hcells a.tg)) (.agg (hcells (tagX a)))).run Tryz.prog W=.ok t W):=hid (fun W=>by
  have:=eq_hash a.tg (tagX a) ho.tg (tagX_len a) W
  rw [HT.out] at this
  exact this)
 have he1:=he.below ((Below.refl w.heap.size w).alloc (Nat.le_refl _) (.cells (axc a s) 52))
 obtain ⟨A,c,rfl⟩:=he.shape
 obtain ⟨L,HL⟩:∃ n:Nat,Hid (a.fr.length=n):=⟨_,hid rfl⟩
 have hlen:=he.len
 unfold maxLen at hlen
 rw [HL.out] at HR hlen HV HMY HTG he1 ⊢
 obtain ⟨C,HC⟩:∃ C:Array Value,Hid (axc a (.slice A L c)=C):=⟨_,hid rfl⟩
 have HCS:Hid (C.size=68):=hid (by rw [← HC.out];exact axc_size _ ho)
 rw [HC.out] at HV HMY HTG he1 ⊢
 rw [HAN.out]
 obtain ⟨G,HG⟩:∃ C:Array Value,Hid (hcells a.tg=C):=⟨_,hid rfl⟩
 obtain ⟨X,HX1⟩:∃ C:Array Value,Hid (hcells (tagX a)=C):=⟨_,hid rfl⟩
 rw [HX1.out] at HTG HEQ
 rw [HG.out] at HEQ
 obtain ⟨b,HBO⟩:∃ x:Int,Hid (a.bo=x):=⟨_,hid rfl⟩
 obtain ⟨z,HZL⟩:∃ x:Int,Hid (lastI a.fr=x):=⟨_,hid rfl⟩
 rw [HBO.out,HZL.out] at HR
 have hr0:=heap_alloc_new w (.cells C 52)
 have hb0:Below w.heap.size w (w.alloc (.cells C 52)):=(Below.refl _ _).alloc (Nat.le_refl _) _
 have HXR:Hid (∀ W:World,W.heap[w.heap.size]?=some (.cells C 52 (0,0))→W.cell? ⟨w.heap.size,0,none⟩=some (.int .i64 b)∧loadAx (.pointer (some ⟨w.heap.size,0,none⟩)) W=.ok (.value (.agg C)) W∧W.cell? ⟨w.heap.size,35,none⟩=some (.slice A L c)∧loadH (.pointer (some ⟨w.heap.size,36,none⟩)) W=.ok (.value (.agg G)) W):=hid (fun W h=>by
  have h':=h
  rw [← HC.out] at h'
  have hB:BoxX W w.heap.size a (.slice A L c):=h'
  rw [← HBO.out,← HG.out]
  exact ⟨hB.ints.1,loadAx_row h HCS.out,hB.fr ho,loadH_mid (hB.tg ho) ho.tg⟩)
 have HOK:=hid ho
 clear ho he hK
 go_enter Tryz.func123,Tryz.ntmps123
 go_upto_region 1 with (fail)
 generalize (w.alloc (.cells C 52))=w0 at *
 have hl0:=lt_of_block hr0
 have HX:Hid (∀ W,Below w0.heap.size w0 W→W.heap[w.heap.size]?=some (.cells C 52 (0,0))):=hid (fun W h=>(h.block _ hl0).trans hr0)
 have HE1:=hid (fun W (h:Below w0.heap.size w0 W)=>he1.below h)
 have hbd:Below w0.heap.size w0 w0.drew:=(Below.refl _ _).drew
 clear hr0 hl0 he1
 go_wp2_with (go_not_at_region 2;fail)
 refine (HQU.out w0).mono ?_
 rintro e w1 ⟨rfl,rfl⟩
 go_upto_region 2 with (fail)
 by_cases hq:q=0
 ·subst hq
  obtain rfl:ans=false:=HR.out
  refine wp_region_held_drew (S:=fun W=>W.heap[w.heap.size]?=some (.cells C 52 (0,0))) (by kernel_rfl) (HX.out _ hbd) (fun hHeld=>?_)
  refine' tkq 0 rfl ?_;try simp only [lay]
  refine' tkq 1 rfl ?_;try simp only [lay]
  refine' tkq 2 rfl ?_;try simp only [lay]
  refine tf (i:=3) rfl ?_
  try simp only [lay]
  refine tf (i:=4) rfl ?_
  try simp only [lay]
  refine' tkq 5 rfl ?_;try simp only [lay]
  refine' tkq 6 rfl ?_;try simp only [lay]
  refine tf (i:=7) rfl ?_
  try simp only [lay]
  refine tf (i:=8) rfl ?_
  try simp only [lay]
  refine tf (i:=9) rfl ?_
  try simp only [lay]
  refine tf (i:=10) rfl ?_
  try simp only [lay]
  refine' tkq 11 rfl ?_;try simp only [lay]
  refine' tkq 12 rfl ?_;try simp only [lay]
  refine tf (i:=13) rfl ?_
  try simp only [lay]
  refine tf (i:=14) rfl ?_
  try simp only [lay]
  refine tf (i:=15) rfl ?_
  try simp only [lay]
  refine tf (i:=16) rfl ?_
  try simp only [lay]
  refine tf (i:=17) rfl ?_
  try simp only [lay]
  refine' tkq 18 rfl ?_;try simp only [lay]
  refine' tkq 19 rfl ?_;try simp only [lay]
  refine tf (i:=20) rfl ?_
  try simp only [lay]
  refine tf (i:=21) rfl ?_
  try simp only [lay]
  refine tf (i:=22) rfl ?_
  try simp only [lay]
  refine tf (i:=23) rfl ?_
  try simp only [lay]
  refine tf (i:=24) rfl ?_
  try simp only [lay]
  refine tf (i:=25) rfl ?_
  try simp only [lay]
  refine tf (i:=26) rfl ?_
  try simp only [lay]
  refine tf (i:=27) rfl ?_
  try simp only [lay]
  refine tf (i:=28) rfl ?_
  try simp only [lay]
  refine tf (i:=29) rfl ?_
  try simp only [lay]
  refine' tkq 30 rfl ?_;try simp only [lay]
  refine' tkq 31 rfl ?_;try simp only [lay]
  refine tf (i:=32) rfl ?_
  try simp only [lay]
  refine tf (i:=33) rfl ?_
  try simp only [lay]
  refine tf (i:=34) rfl ?_
  try simp only [lay]
  refine tf (i:=35) rfl ?_
  try simp only [lay]
  refine tf (i:=36) rfl ?_
  try simp only [lay]
  refine' tkq 37 rfl ?_;try simp only [lay]
  refine' tkq 38 rfl ?_;try simp only [lay]
  refine wpAnyH_done (by kernel_rfl) ?_ _
  have HF:=hid (hb0.trans (hbd.mono hb0.size))
  clear hHeld
  go_wp2_with fail
  go_ret
  exact ⟨rfl,HF.out⟩
 have hq1:(0:Int) < (q:Int):=by omega
 have hq0:0 < q:=by omega
 have HQ0:=hid hq
 cases m with
 | false=>
  obtain rfl:ans=false:=by rw [HR.out];simp
  refine wp_region_held_drew (S:=fun W=>W.heap[w.heap.size]?=some (.cells C 52 (0,0))) (by kernel_rfl) (HX.out _ hbd) (fun hHeld=>?_)
  refine' tkq 0 rfl ?_;try simp only [lay]
  refine' tkq 1 rfl ?_;try simp only [lay]
  refine' tkq 2 rfl ?_;try simp only [lay]
  refine' tk (i:=3) (v:=_) rfl (fun W hW=>(HXR.out W hW).2.1) ?_
  try simp only [lay]
  refine call_on (i:=4) rfl (by kernel_rfl) (by rfl) (fun K hK=>?_)
  go_simp
  refine (HMY.out w0.drew hb0.drew).mono ?_
  rintro e w2 ⟨rfl,hb2'⟩
  have hb2:=hbd.trans hb2'
  refine hK.out _ _ (HX.out _ hb2) (fun hHeld=>?_)
  clear hK K
  try simp only [lay]
  refine' tkq 5 rfl ?_;try simp only [lay]
  refine' tkq 6 rfl ?_;try simp only [lay]
  refine tf (i:=7) rfl ?_
  try simp only [lay]
  refine tf (i:=8) rfl ?_
  try simp only [lay]
  refine tf (i:=9) rfl ?_
  try simp only [lay]
  refine tf (i:=10) rfl ?_
  try simp only [lay]
  refine' tkq 11 rfl ?_;try simp only [lay]
  refine' tkq 12 rfl ?_;try simp only [lay]
  refine tf (i:=13) rfl ?_
  try simp only [lay]
  refine tf (i:=14) rfl ?_
  try simp only [lay]
  refine tf (i:=15) rfl ?_
  try simp only [lay]
  refine tf (i:=16) rfl ?_
  try simp only [lay]
  refine tf (i:=17) rfl ?_
  try simp only [lay]
  refine' tkq 18 rfl ?_;try simp only [lay]
  refine' tkq 19 rfl ?_;try simp only [lay]
  refine tf (i:=20) rfl ?_
  try simp only [lay]
  refine tf (i:=21) rfl ?_
  try simp only [lay]
  refine tf (i:=22) rfl ?_
  try simp only [lay]
  refine tf (i:=23) rfl ?_
  try simp only [lay]
  refine tf (i:=24) rfl ?_
  try simp only [lay]
  refine tf (i:=25) rfl ?_
  try simp only [lay]
  refine tf (i:=26) rfl ?_
  try simp only [lay]
  refine tf (i:=27) rfl ?_
  try simp only [lay]
  refine tf (i:=28) rfl ?_
  try simp only [lay]
  refine tf (i:=29) rfl ?_
  try simp only [lay]
  refine' tkq 30 rfl ?_;try simp only [lay]
  refine' tkq 31 rfl ?_;try simp only [lay]
  refine tf (i:=32) rfl ?_
  try simp only [lay]
  refine tf (i:=33) rfl ?_
  try simp only [lay]
  refine tf (i:=34) rfl ?_
  try simp only [lay]
  refine tf (i:=35) rfl ?_
  try simp only [lay]
  refine tf (i:=36) rfl ?_
  try simp only [lay]
  refine' tkq 37 rfl ?_;try simp only [lay]
  refine' tkq 38 rfl ?_;try simp only [lay]
  refine wpAnyH_done (by kernel_rfl) ?_ _
  have HF:=hid (hb0.trans (hb2.mono hb0.size))
  clear hHeld
  go_wp2_with fail
  go_ret
  exact ⟨rfl,HF.out⟩
 | true=>
 have HTG2:=hid (HTG.out rfl)
 by_cases hbn:¬ b≤n
 ·obtain rfl:ans=false:=by rw [HR.out,decide_eq_false hbn];simp
  refine wp_region_held_drew (S:=fun W=>W.heap[w.heap.size]?=some (.cells C 52 (0,0))) (by kernel_rfl) (HX.out _ hbd) (fun hHeld=>?_)
  refine' tkq 0 rfl ?_;try simp only [lay]
  refine' tkq 1 rfl ?_;try simp only [lay]
  refine' tkq 2 rfl ?_;try simp only [lay]
  refine' tk (i:=3) (v:=_) rfl (fun W hW=>(HXR.out W hW).2.1) ?_
  try simp only [lay]
  refine call_on (i:=4) rfl (by kernel_rfl) (by rfl) (fun K hK=>?_)
  go_simp
  refine (HMY.out w0.drew hb0.drew).mono ?_
  rintro e w2 ⟨rfl,hb2'⟩
  have hb2:=hbd.trans hb2'
  refine hK.out _ _ (HX.out _ hb2) (fun hHeld=>?_)
  clear hK K
  try simp only [lay]
  refine' tkq 5 rfl ?_;try simp only [lay]
  refine' tkq 6 rfl ?_;try simp only [lay]
  refine' tkq 7 rfl ?_;try simp only [lay]
  refine' tk (i:=8) (v:=_) rfl ?_ ?_
  rotate_left
  ·(intro W hW;(try dsimp only at hW);have hW1:=(HXR.out W hW).1;clear hW;go_simp;first | done | with_reducible rfl)
  try simp only [lay]
  refine' tkq 9 rfl ?_;try simp only [lay]
  refine' tkq 10 rfl ?_;try simp only [lay]
  refine' tkq 11 rfl ?_;try simp only [lay]
  refine' tkq 12 rfl ?_;try simp only [lay]
  refine tf (i:=13) rfl ?_
  try simp only [lay]
  refine tf (i:=14) rfl ?_
  try simp only [lay]
  refine tf (i:=15) rfl ?_
  try simp only [lay]
  refine tf (i:=16) rfl ?_
  try simp only [lay]
  refine tf (i:=17) rfl ?_
  try simp only [lay]
  refine' tkq 18 rfl ?_;try simp only [lay]
  refine' tkq 19 rfl ?_;try simp only [lay]
  refine tf (i:=20) rfl ?_
  try simp only [lay]
  refine tf (i:=21) rfl ?_
  try simp only [lay]
  refine tf (i:=22) rfl ?_
  try simp only [lay]
  refine tf (i:=23) rfl ?_
  try simp only [lay]
  refine tf (i:=24) rfl ?_
  try simp only [lay]
  refine tf (i:=25) rfl ?_
  try simp only [lay]
  refine tf (i:=26) rfl ?_
  try simp only [lay]
  refine tf (i:=27) rfl ?_
  try simp only [lay]
  refine tf (i:=28) rfl ?_
  try simp only [lay]
  refine tf (i:=29) rfl ?_
  try simp only [lay]
  refine' tkq 30 rfl ?_;try simp only [lay]
  refine' tkq 31 rfl ?_;try simp only [lay]
  refine tf (i:=32) rfl ?_
  try simp only [lay]
  refine tf (i:=33) rfl ?_
  try simp only [lay]
  refine tf (i:=34) rfl ?_
  try simp only [lay]
  refine tf (i:=35) rfl ?_
  try simp only [lay]
  refine tf (i:=36) rfl ?_
  try simp only [lay]
  refine' tkq 37 rfl ?_;try simp only [lay]
  refine' tkq 38 rfl ?_;try simp only [lay]
  refine wpAnyH_done (by kernel_rfl) ?_ _
  have HF:=hid (hb0.trans (hb2.mono hb0.size))
  clear hHeld
  go_wp2_with fail
  go_ret
  exact ⟨rfl,HF.out⟩
 have hbn1:b≤n:=by omega
 by_cases hL:¬ L=q
 ·obtain rfl:ans=false:=by rw [HR.out,decide_eq_false hL];simp
  have hLq:((L:Int) == (q:Int))=false:=by simp;omega
  refine wp_region_held_drew (S:=fun W=>W.heap[w.heap.size]?=some (.cells C 52 (0,0))) (by kernel_rfl) (HX.out _ hbd) (fun hHeld=>?_)
  refine' tkq 0 rfl ?_;try simp only [lay]
  refine' tkq 1 rfl ?_;try simp only [lay]
  refine' tkq 2 rfl ?_;try simp only [lay]
  refine' tk (i:=3) (v:=_) rfl (fun W hW=>(HXR.out W hW).2.1) ?_
  try simp only [lay]
  refine call_on (i:=4) rfl (by kernel_rfl) (by rfl) (fun K hK=>?_)
  go_simp
  refine (HMY.out w0.drew hb0.drew).mono ?_
  rintro e w2 ⟨rfl,hb2'⟩
  have hb2:=hbd.trans hb2'
  refine hK.out _ _ (HX.out _ hb2) (fun hHeld=>?_)
  clear hK K
  try simp only [lay]
  refine' tkq 5 rfl ?_;try simp only [lay]
  refine' tkq 6 rfl ?_;try simp only [lay]
  refine' tkq 7 rfl ?_;try simp only [lay]
  refine' tk (i:=8) (v:=_) rfl ?_ ?_
  rotate_left
  ·(intro W hW;(try dsimp only at hW);have hW1:=(HXR.out W hW).1;clear hW;go_simp;first | done | with_reducible rfl)
  try simp only [lay]
  refine' tkq 9 rfl ?_;try simp only [lay]
  refine' tkq 10 rfl ?_;try simp only [lay]
  refine' tkq 11 rfl ?_;try simp only [lay]
  refine' tkq 12 rfl ?_;try simp only [lay]
  refine' tkq 13 rfl ?_;try simp only [lay]
  refine' tk (i:=14) (v:=_) rfl ?_ ?_
  rotate_left
  ·(intro W hW;(try dsimp only at hW);have hW1:=(HXR.out W hW).2.2.1;clear hW;go_simp;first | done | with_reducible rfl)
  try simp only [lay]
  refine' tkq 15 rfl ?_;try simp only [lay]
  refine' tkq 16 rfl ?_;try simp only [lay]
  refine' tkq 17 rfl ?_;try simp only [lay]
  refine' tkq 18 rfl ?_;try simp only [lay]
  refine' tkq 19 rfl ?_;try simp only [lay]
  refine tf (i:=20) rfl ?_
  try simp only [lay]
  refine tf (i:=21) rfl ?_
  try simp only [lay]
  refine tf (i:=22) rfl ?_
  try simp only [lay]
  refine tf (i:=23) rfl ?_
  try simp only [lay]
  refine tf (i:=24) rfl ?_
  try simp only [lay]
  refine tf (i:=25) rfl ?_
  try simp only [lay]
  refine tf (i:=26) rfl ?_
  try simp only [lay]
  refine tf (i:=27) rfl ?_
  try simp only [lay]
  refine tf (i:=28) rfl ?_
  try simp only [lay]
  refine tf (i:=29) rfl ?_
  try simp only [lay]
  refine' tkq 30 rfl ?_;try simp only [lay]
  refine' tkq 31 rfl ?_;try simp only [lay]
  refine tf (i:=32) rfl ?_
  try simp only [lay]
  refine tf (i:=33) rfl ?_
  try simp only [lay]
  refine tf (i:=34) rfl ?_
  try simp only [lay]
  refine tf (i:=35) rfl ?_
  try simp only [lay]
  refine tf (i:=36) rfl ?_
  try simp only [lay]
  refine' tkq 37 rfl ?_;try simp only [lay]
  refine' tkq 38 rfl ?_;try simp only [lay]
  refine wpAnyH_done (by kernel_rfl) ?_ _
  have HF:=hid (hb0.trans (hb2.mono hb0.size))
  clear hHeld
  go_wp2_with fail
  go_ret
  exact ⟨rfl,HF.out⟩
 obtain rfl:L=q:=by omega
 have hL1:IntKind.i64.wrap ((L:Int) - 1)=(L:Int) - 1:=by rw [IntKind.wrap_i64];omega
 obtain ⟨j,HJ⟩:∃ j:Nat,Hid (L=j + 1):=⟨L - 1,hid (by omega)⟩
 have hj1:(L:Int) - 1=(j:Int):=by have:=HJ.out;omega
 have hj2:(j:Int) < (L:Int):=by have:=HJ.out;omega
 have hj0:(0:Int)≤(j:Int):=by omega
 have hwj:IntKind.i64.wrap (j:Int)=(j:Int):=by rw [IntKind.wrap_i64];omega
 have hjl:j < a.fr.length:=by rw [HL.out,HJ.out];omega
 obtain ⟨g,og,rfl,hg,hcl⟩:=(HE1.out w0 (Below.refl _ _)).at_.2.2.2 (by rw [HL.out];omega)
 have HX2:Hid (∀ W,Below w0.heap.size w0 W→W.heap[w.heap.size]?=some (.cells C 52 (0,0))∧W.cell? ⟨g,og + j,none⟩=some (.int .i64 z)):=hid (fun W h=>by
  refine ⟨HX.out W h,?_⟩
  have:=range_kept (hcl j hjl) (h.block g hg) 0 _ rfl
  rw [Nat.mul_one,Nat.add_zero] at this
  rw [this,← HZL.out,lastI_at (by omega)]
  congr 3
  have:=HL.out
  have:=HJ.out
  simp only [HL.out,HJ.out]
  rfl)
 clear hcl hg hjl
 by_cases hz:¬ z≤n
 ·obtain rfl:ans=false:=by rw [HR.out,decide_eq_false hz];simp
  refine wp_region_held_drew (S:=fun W=>W.heap[w.heap.size]?=some (.cells C 52 (0,0))∧W.cell? ⟨g,og + j,none⟩=some (.int .i64 z)) (by kernel_rfl) (HX2.out _ hbd) (fun hHeld=>?_)
  refine' tkq 0 rfl ?_;try simp only [lay]
  refine' tkq 1 rfl ?_;try simp only [lay]
  refine' tkq 2 rfl ?_;try simp only [lay]
  refine' tk (i:=3) (v:=_) rfl (fun W hW=>(HXR.out W hW.1).2.1) ?_
  try simp only [lay]
  refine call_on (i:=4) rfl (by kernel_rfl) (by rfl) (fun K hK=>?_)
  go_simp
  refine (HMY.out w0.drew hb0.drew).mono ?_
  rintro e w2 ⟨rfl,hb2'⟩
  have hb2:=hbd.trans hb2'
  refine hK.out _ _ (HX2.out _ hb2) (fun hHeld=>?_)
  clear hK K
  try simp only [lay]
  refine' tkq 5 rfl ?_;try simp only [lay]
  refine' tkq 6 rfl ?_;try simp only [lay]
  refine' tkq 7 rfl ?_;try simp only [lay]
  refine' tk (i:=8) (v:=_) rfl ?_ ?_
  rotate_left
  ·(intro W hW;(try dsimp only at hW);have hW1:=(HXR.out W hW.1).1;clear hW;go_simp;first | done | with_reducible rfl)
  try simp only [lay]
  refine' tkq 9 rfl ?_;try simp only [lay]
  refine' tkq 10 rfl ?_;try simp only [lay]
  refine' tkq 11 rfl ?_;try simp only [lay]
  refine' tkq 12 rfl ?_;try simp only [lay]
  refine' tkq 13 rfl ?_;try simp only [lay]
  refine' tk (i:=14) (v:=_) rfl ?_ ?_
  rotate_left
  ·(intro W hW;(try dsimp only at hW);have hW1:=(HXR.out W hW.1).2.2.1;clear hW;go_simp;first | done | with_reducible rfl)
  try simp only [lay]
  refine' tkq 15 rfl ?_;try simp only [lay]
  refine' tkq 16 rfl ?_;try simp only [lay]
  refine' tkq 17 rfl ?_;try simp only [lay]
  refine' tkq 18 rfl ?_;try simp only [lay]
  refine' tkq 19 rfl ?_;try simp only [lay]
  refine' tkq 20 rfl ?_;try simp only [lay]
  refine' tk (i:=21) (v:=_) rfl ?_ ?_
  rotate_left
  ·(intro W hW;(try dsimp only at hW);have hW1:=(HXR.out W hW.1).2.2.1;clear hW;go_simp;first | done | with_reducible rfl)
  try simp only [lay]
  refine' tkq 22 rfl ?_;try simp only [lay]
  refine' tk (i:=23) (v:=_) rfl ?_ ?_
  rotate_left
  ·(intro W hW;(try dsimp only at hW);have hW1:=(HXR.out W hW.1).2.2.1;clear hW;go_simp;first | done | with_reducible rfl)
  try simp only [lay]
  refine' tkq 24 rfl ?_;try simp only [lay]
  refine' tkq 25 rfl ?_;try simp only [lay]
  refine' tkq 26 rfl ?_;try simp only [lay]
  refine' tk (i:=27) (v:=_) rfl ?_ ?_
  rotate_left
  ·(intro W hW;(try dsimp only at hW);have hW1:=hW.2;clear hW;go_simp;first | done | with_reducible rfl)
  try simp only [lay]
  refine' tkq 28 rfl ?_;try simp only [lay]
  refine' tkq 29 rfl ?_;try simp only [lay]
  refine' tkq 30 rfl ?_;try simp only [lay]
  refine' tkq 31 rfl ?_;try simp only [lay]
  refine tf (i:=32) rfl ?_
  try simp only [lay]
  refine tf (i:=33) rfl ?_
  try simp only [lay]
  refine tf (i:=34) rfl ?_
  try simp only [lay]
  refine tf (i:=35) rfl ?_
  try simp only [lay]
  refine tf (i:=36) rfl ?_
  try simp only [lay]
  refine' tkq 37 rfl ?_;try simp only [lay]
  refine' tkq 38 rfl ?_;try simp only [lay]
  refine wpAnyH_done (by kernel_rfl) ?_ _
  have HF:=hid (hb0.trans (hb2.mono hb0.size))
  clear hHeld
  go_wp2_with fail
  go_ret
  exact ⟨rfl,HF.out⟩
 have hz1:z≤n:=by omega
 obtain rfl:ans=t:=by rw [HR.out,decide_eq_true HQ0.out,decide_eq_true hbn1,decide_eq_true hz1];simp
 refine wp_region_held_drew (S:=fun W=>W.heap[w.heap.size]?=some (.cells C 52 (0,0))∧W.cell? ⟨g,og + j,none⟩=some (.int .i64 z)) (by kernel_rfl) (HX2.out _ hbd) (fun hHeld=>?_)
 refine' tkq 0 rfl ?_;try simp only [lay]
 refine' tkq 1 rfl ?_;try simp only [lay]
 refine' tkq 2 rfl ?_;try simp only [lay]
 refine' tk (i:=3) (v:=_) rfl (fun W hW=>(HXR.out W hW.1).2.1) ?_
 try simp only [lay]
 refine call_on (i:=4) rfl (by kernel_rfl) (by rfl) (fun K hK=>?_)
 go_simp
 refine (HMY.out w0.drew hb0.drew).mono ?_
 rintro e w2 ⟨rfl,hb2'⟩
 have hb2:=hbd.trans hb2'
 refine hK.out _ _ (HX2.out _ hb2) (fun hHeld=>?_)
 clear hK K
 try simp only [lay]
 refine' tkq 5 rfl ?_;try simp only [lay]
 refine' tkq 6 rfl ?_;try simp only [lay]
 refine' tkq 7 rfl ?_;try simp only [lay]
 refine' tk (i:=8) (v:=_) rfl ?_ ?_
 rotate_left
 ·(intro W hW;(try dsimp only at hW);have hW1:=(HXR.out W hW.1).1;clear hW;go_simp;first | done | with_reducible rfl)
 try simp only [lay]
 refine' tkq 9 rfl ?_;try simp only [lay]
 refine' tkq 10 rfl ?_;try simp only [lay]
 refine' tkq 11 rfl ?_;try simp only [lay]
 refine' tkq 12 rfl ?_;try simp only [lay]
 refine' tkq 13 rfl ?_;try simp only [lay]
 refine' tk (i:=14) (v:=_) rfl ?_ ?_
 rotate_left
 ·(intro W hW;(try dsimp only at hW);have hW1:=(HXR.out W hW.1).2.2.1;clear hW;go_simp;first | done | with_reducible rfl)
 try simp only [lay]
 refine' tkq 15 rfl ?_;try simp only [lay]
 refine' tkq 16 rfl ?_;try simp only [lay]
 refine' tkq 17 rfl ?_;try simp only [lay]
 refine' tkq 18 rfl ?_;try simp only [lay]
 refine' tkq 19 rfl ?_;try simp only [lay]
 refine' tkq 20 rfl ?_;try simp only [lay]
 refine' tk (i:=21) (v:=_) rfl ?_ ?_
 rotate_left
 ·(intro W hW;(try dsimp only at hW);have hW1:=(HXR.out W hW.1).2.2.1;clear hW;go_simp;first | done | with_reducible rfl)
 try simp only [lay]
 refine' tkq 22 rfl ?_;try simp only [lay]
 refine' tk (i:=23) (v:=_) rfl ?_ ?_
 rotate_left
 ·(intro W hW;(try dsimp only at hW);have hW1:=(HXR.out W hW.1).2.2.1;clear hW;go_simp;first | done | with_reducible rfl)
 try simp only [lay]
 refine' tkq 24 rfl ?_;try simp only [lay]
 refine' tkq 25 rfl ?_;try simp only [lay]
 refine' tkq 26 rfl ?_;try simp only [lay]
 refine' tk (i:=27) (v:=_) rfl ?_ ?_
 rotate_left
 ·(intro W hW;(try dsimp only at hW);have hW1:=hW.2;clear hW;go_simp;first | done | with_reducible rfl)
 try simp only [lay]
 refine' tkq 28 rfl ?_;try simp only [lay]
 refine' tkq 29 rfl ?_;try simp only [lay]
 refine' tkq 30 rfl ?_;try simp only [lay]
 refine' tkq 31 rfl ?_;try simp only [lay]
 refine' tkq 32 rfl ?_;try simp only [lay]
 refine' tk (i:=33) (v:=_) rfl (fun W hW=>(HXR.out W hW.1).2.2.2) ?_
 try simp only [lay]
 refine' tk (i:=34) (v:=_) rfl (fun W hW=>(HXR.out W hW.1).2.1) ?_
 try simp only [lay]
 refine call_on (i:=35) rfl (by kernel_rfl) (by rfl) (fun K hK=>?_)
 go_simp
 refine (HTG2.out w2 (hb0.trans (hb2.mono hb0.size))).mono ?_
 rintro e w3 ⟨rfl,hb3'⟩
 have hb3:=hb2.trans (hb3'.mono hb2.size)
 refine hK.out _ _ (HX2.out _ hb3) (fun hHeld=>?_)
 clear hK K
 try simp only [lay]
 have heq:=HEQ.out
 refine' tkq 36 rfl ?_;try simp only [lay]
 clear heq
 refine' tkq 37 rfl ?_;try simp only [lay]
 refine' tkq 38 rfl ?_;try simp only [lay]
 refine wpAnyH_done (by kernel_rfl) ?_ _
 have HF:=hid (hb0.trans (hb3.mono hb0.size))
 clear hHeld
 go_wp2_with fail
 go_ret
 exact ⟨rfl,HF.out⟩
end Go.Proofs.YtpdnnmabijmfbaaGreatDoor
