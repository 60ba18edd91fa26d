/-
  The document's disk: New, step, All. Printed with genrd.py.
-/
import Derived.Test.YtfpgglclpkcdhaaDkRvWords
namespace Go.Proofs.Ytfpgglclpkcdhaa
set_option maxRecDepth 20000
open Go.RowKit
attribute [local go_sem ↓] exec_load_rd exec_alloc_rd exec_store_rd exec_cutH
theorem refNew18_any (room:Int) (w:World):Calls Try.prog 11 #[.int .i64 room] w fun e w'=>e=.returned (.agg (rdc (newDk room) (.slice none 0 0) (.slice none 0 0) (.slice none 0 0)))∧Below w.heap.size w w':=by
 have hal:=allocRd_eq w
 have hst:=rd_var w (Z:=rdZ) (S:=rdc (newDk room) (.slice none 0 0) (.slice none 0 0) (.slice none 0 0)) rfl rfl (rdc_one ..)
 have HR:=hid (heap_alloc_new w (.cells (rdc (newDk room) (.slice none 0 0) (.slice none 0 0) (.slice none 0 0)) 35))
 have HB:=hid ((Below.refl w.heap.size w).alloc (Nat.le_refl _) (.cells (rdc (newDk room) (.slice none 0 0) (.slice none 0 0) (.slice none 0 0)) 35))
 unfold rdc newDk at hst
 simp only at hst
 go_enter Try.func11,Try.ntmps11
 go_wp2_with fail
 try simp only [Exit.inBlock,Exit.then]
 refine bodyPost_ret (results_rd1 rfl _ _ _ _ _ rfl HR.out rfl) rfl ⟨rfl,HB.out⟩
set_option maxHeartbeats 1600000 in
theorem refStep18_any (V:DkM) (v0 v1 v2:Value) (w:World) (hl:-1≤V.left) (hm:V.left≤9223372036854775807) (ho:∀ V',(rdc V' v0 v1 v2).all (·.oneCell')=true):
  Calls Try.prog 50 #[.agg (rdc V v0 v1 v2)] w fun e w'=>e=.returned (.tuple #[.agg (rdc (stepDk V) v0 v1 v2),.bool (okDk V)])∧Below w.heap.size w w':=by
 have hr0:BoxRd (w.alloc (.cells (rdc V v0 v1 v2) 35)) w.heap.size V v0 v1 v2:=heap_alloc_new w _
 have hb0:Below w.heap.size w (w.alloc (.cells (rdc V v0 v1 v2) 35)):=(Below.refl _ _).alloc (Nat.le_refl _) _
 obtain ⟨D,HD⟩:∃ C:Array Value,Hid (rdc V v0 v1 v2=C):=⟨_,hid rfl⟩
 obtain ⟨D2,HD2⟩:∃ C:Array Value,Hid (rdc (stepDk V) v0 v1 v2=C):=⟨_,hid rfl⟩
 have hal:=allocRd_eq (w.alloc (.cells D 35))
 rw [HD.out] at hr0 hb0 ⊢
 rw [HD2.out]
 have hb1:Below w.heap.size w ((w.alloc (.cells D 35)).alloc (.cells rdZ 35)):=hb0.alloc hb0.size _
 have HR0:=hid (hr0.below ((Below.refl _ _).alloc (Nat.le_refl _) (.cells rdZ 35)))
 have HR1:=hid (heap_alloc_new (w.alloc (.cells D 35)) (.cells rdZ 35))
 have HB1:=hid hb1
 have hsz:(w.alloc (.cells D 35)).heap.size=w.heap.size + 1:=by simp
 rw [hsz] at HR1 hal
 have HSV:Hid (stepDk V=if V.left=0 then { V with dead:=true } else if V.left < 0 then V else { V with left:=V.left - 1 }):=hid rfl
 have HSB:Hid (okDk V=!decide (V.left=0)):=hid rfl
 obtain ⟨sb,HS⟩:∃ q:Bool,Hid (okDk V=q):=⟨_,hid rfl⟩
 rw [HS.out] at HSB ⊢
 clear hr0 hb0 hb1 hsz
 go_enter Try.func50,Try.ntmps50
 go_upto_region 1 with (fail)
 clear hal
 generalize ((w.alloc (.cells D 35)).alloc (.cells rdZ 35))=w1 at *
 have HFR:=hid (HR0.out.free 5)
 have HF4:=hid (HR0.out.free 4)
 obtain ⟨_,_,_,_,h4,h5⟩:=HR0.out.cells
 by_cases e0:V.left=0
 ·obtain rfl:sb=false:=by rw [HSB.out,decide_eq_true e0];rfl
  have HR2:=hid (HR0.out.set (i:=5) (u:=.bool true) (D':={ V with dead:=true }) (u0:=v0) (u1:=v1) (u2:=v2) rfl)
  have hld:=HR2.out.ld
  obtain ⟨h1,h2,h3⟩:=rd_end (C:=rdc { V with dead:=true } v0 v1 v2) (HB1.out.setCell (p:=⟨w.heap.size,5,none⟩) (Nat.le_refl _) (.bool true)) ((Below.heap_setCell _ ⟨w.heap.size,5,none⟩ _ (w.heap.size + 1) (by show w.heap.size + 1≠w.heap.size;omega)).trans HR1.out) (Nat.le_succ _) rfl rfl (ho _)
  have H2:=hid h2
  have H3:=hid h3
  have f5:=HFR.out
  clear h2 h3
  obtain ⟨D3,HD3⟩:∃ C:Array Value,Hid (rdc { V with dead:=true } v0 v1 v2=C):=⟨_,hid rfl⟩
  have HZ3:Hid (D3.size=6):=hid (by rw [← HD3.out];rfl)
  obtain rfl:D2=D3:=by rw [← HD2.out,← HD3.out,HSV.out,if_pos e0]
  rw [HD3.out] at hld h1 H2 H3
  rw [e0] at h4
  clear e0
  go_wp2_with fail
  try simp only [Exit.inBlock,Exit.then]
  refine bodyPost_ret (results_rd2 rfl _ _ _ _ _ _ rfl rfl H2.out HZ3.out) rfl ⟨rfl,H3.out⟩
 ·obtain rfl:sb=true:=by rw [HSB.out,decide_eq_false e0];rfl
  by_cases e1:V.left < 0
  ·have hld:=HR0.out.ld
   obtain rfl:D=D2:=by rw [← HD2.out,← HD.out,HSV.out,if_neg e0,if_pos e1]
   obtain ⟨h1,h2,h3⟩:=rd_end (C:=rdc V v0 v1 v2) HB1.out HR1.out (Nat.le_succ _) rfl rfl (ho _)
   have H2:=hid h2
   have H3:=hid h3
   clear h2 h3
   rw [HD.out] at hld h1 H2 H3
   have HZ3:Hid (D.size=6):=hid (by rw [← HD.out];rfl)
   have e2:¬ (0:Int) < V.left:=by omega
   clear hl hm
   go_wp2_with fail
   try simp only [Exit.inBlock,Exit.then]
   refine bodyPost_ret (results_rd2 rfl _ _ _ _ _ _ rfl rfl H2.out HZ3.out) rfl ⟨rfl,H3.out⟩
  ·have HR2:=hid (HR0.out.set (i:=4) (u:=.int .i64 (V.left - 1)) (D':={ V with left:=V.left - 1 }) (u0:=v0) (u1:=v1) (u2:=v2) rfl)
   have hld:=HR2.out.ld
   obtain ⟨h1,h2,h3⟩:=rd_end (C:=rdc { V with left:=V.left - 1 } v0 v1 v2) (HB1.out.setCell (p:=⟨w.heap.size,4,none⟩) (Nat.le_refl _) (.int .i64 (V.left - 1))) ((Below.heap_setCell _ ⟨w.heap.size,4,none⟩ _ (w.heap.size + 1) (by show w.heap.size + 1≠w.heap.size;omega)).trans HR1.out) (Nat.le_succ _) rfl rfl (ho _)
   have H2:=hid h2
   have H3:=hid h3
   have f4:=HF4.out
   clear h2 h3
   obtain ⟨D3,HD3⟩:∃ C:Array Value,Hid (rdc { V with left:=V.left - 1 } v0 v1 v2=C):=⟨_,hid rfl⟩
   have HZ3:Hid (D3.size=6):=hid (by rw [← HD3.out];rfl)
   have hw:IntKind.i64.wrap (V.left - 1)=V.left - 1:=by rw [IntKind.wrap_i64];omega
   obtain rfl:D2=D3:=by rw [← HD2.out,← HD3.out,HSV.out,if_neg e0,if_neg e1]
   rw [HD3.out] at hld h1 H2 H3
   have e2:(0:Int) < V.left:=by omega
   clear hl hm e1
   generalize V.left=left at *
   go_wp2_with fail
   try simp only [Exit.inBlock,Exit.then]
   refine bodyPost_ret (results_rd2 rfl _ _ _ _ _ _ rfl rfl H2.out HZ3.out) rfl ⟨rfl,H3.out⟩
theorem refAll18_any (D:DkM) (C:Array Value) (a:Option Nat) (w:World) (hC:RfC w C D a) (hl:D.s.length + D.m.length≤100000000):Calls Try.prog 29 #[.agg C] w fun e w'=>∃ v,e=.returned v∧Own w.heap.size w' v (D.s ++ D.m)∧Below w.heap.size w w':=by
 obtain ⟨v0,v1,v2,rfl,hy0,hy1,hy2⟩:=hC
 have HY:Hid (∀ W,Below w.heap.size w W→Byt W v0 D.s∧Byt W v1 D.m):=hid (fun W hb=>⟨hy0.y.byt.below hb,hy1.y.byt.below hb⟩)
 have hr0:BoxRd (w.alloc (.cells (rdc D v0 v1 v2) 35)) w.heap.size D v0 v1 v2:=heap_alloc_new w _
 have HB0:Hid (Below w.heap.size w (w.alloc (.cells (rdc D v0 v1 v2) 35))):=hid ((Below.refl _ _).alloc (Nat.le_refl _) _)
 obtain ⟨C,HC⟩:∃ q:Array Value,Hid (rdc D v0 v1 v2=q):=⟨_,hid rfl⟩
 have hs1:([]:List UInt8).length + D.s.length≤140737488355328:=by simp only [List.length_nil];omega
 have hs2:D.s.length + D.m.length≤140737488355328:=by omega
 have HBX:=hid hr0
 rw [HC.out] at hr0 HB0 HBX ⊢
 have HCL:Hid (∀ W,Below (w.alloc (.cells C 35)).heap.size (w.alloc (.cells C 35)) W→W.cell? ⟨w.heap.size,0,none⟩=some v0∧W.cell? ⟨w.heap.size,1,none⟩=some v1):=hid (fun W hb=>by
  obtain ⟨h0,h1,_⟩:=(HBX.out.below hb).cells
  exact ⟨h0,h1⟩)
 clear hy0 hy1 hy2 hl HBX hr0
 go_enter Try.func29,Try.ntmps29
 go_upto_region 1 with (fail)
 generalize (w.alloc (.cells C 35))=wz at *
 have HBW:Hid (∀ W,Below wz.heap.size wz W→Below w.heap.size w W):=hid (fun W hb=>HB0.out.trans (hb.mono HB0.out.size))
 have HDR:Hid (Below wz.heap.size wz wz.drew):=hid (Below.refl _ _).drew
 refine wp_region_held_drew (S:=fun W=>W.cell? ⟨w.heap.size,0,none⟩=some v0∧W.cell? ⟨w.heap.size,1,none⟩=some v1) (by kernel_rfl) (HCL.out _ HDR.out) (fun hHeld=>?_)
 refine' tkq 1 rfl ?_;try simp only [lay]
 refine' tkq 4 rfl ?_;try simp only [lay]
 refine' tkq2 2 rfl ?_;try simp only [lay]
 refine' tkq2 5 rfl ?_;try simp only [lay]
 refine call_on (i:=0) rfl (by kernel_rfl) (by rfl) (fun K hK=>?_)
 go_simp
 have HAL:Hid (Below wz.heap.size wz (wz.drew.alloc (.cells #[] 5))):=hid (HDR.out.alloc HDR.out.size _)
 refine hK.out _ _ (HCL.out _ HAL.out) (fun hHeld=>?_)
 clear hK K
 try simp only [lay]
 refine call_on (i:=3) rfl (by kernel_rfl) (by rfl) (fun K hK=>?_)
 refine wp_append_byt (.tmp 3) (.tmp 5) rfl rfl rfl (fresh0_own wz.drew) (HY.out _ (HBW.out _ HAL.out)).1 hs1 (al_le wz.drew _) ?_
 intro x3 w3 ho3 hg3 _
 simp only [List.nil_append] at ho3
 have hb3:Below wz.drew.heap.size wz.drew w3:=fresh0_below hg3
 have HB3:=hid (HDR.out.trans (hb3.mono HDR.out.size))
 have HO3:=hid ho3
 clear ho3 hg3 hb3
 refine hK.out _ _ (HCL.out _ HB3.out) (fun hHeld=>?_)
 clear hK K
 try simp only [lay]
 refine call_on (i:=6) rfl (by kernel_rfl) (by rfl) (fun K hK=>?_)
 refine wp_append_byt (.tmp 6) (.tmp 8) rfl rfl rfl HO3.out (HY.out _ (HBW.out _ HB3.out)).2 hs2 HB3.out.size ?_
 intro x4 w4 ho4 hg4 _
 have HB4:=hid (HB3.out.grown hg4 HB3.out.size (fun k hk=>(World.ownsRow.lt HO3.out k hk).1))
 have HO4:=hid ho4
 clear ho4 hg4
 refine hK.out _ _ (HCL.out _ HB4.out) (fun hHeld=>?_)
 clear hK K
 try simp only [lay]
 refine' tkq 7 rfl ?_;try simp only [lay]
 refine wpAnyH_done (by kernel_rfl) ?_ _
 clear hHeld
 go_wp2_with fail
 go_ret
 exact ⟨_,rfl,HO4.out.more (by have:=HB0.out.size;exact this),HBW.out _ HB4.out⟩
end Go.Proofs.Ytfpgglclpkcdhaa
