/-
  tithinglaw18.Like: a disk is as the document's one. Printed with genrd.py.
-/
import Derived.Test.YtfpgglclpkcdhaaDkCodeA
import Derived.Test.YtfpgglclpkcdhaaDkRvA
namespace Go.Proofs.Ytfpgglclpkcdhaa
set_option maxRecDepth 20000
open Go.RowKit
attribute [local go_sem ↓] exec_load_rd exec_alloc_rd exec_store_rd exec_cutH
set_option maxHeartbeats 6400000 in
theorem like18_any {b B:Nat} (D:DkM) {va vt:Value} (C:Array Value) (w:World) (h:DkE w b B D va vt) (g:D.Good) (hC:RfC w C D va.ownBlock):
  Calls Try.prog 18 #[.pointer (some ⟨b,0,none⟩),.agg C] w fun e w'=>e=.returned (.bool true)∧Below w.heap.size w w':=by
 have HRF:=hid (fun (W:World) (hb:Below w.heap.size w W)=>hC.below hb)
 have HSM:Hid (D.s.length + D.m.length≤100000000):=hid (by have:=g.z;have:=g.r1;omega)
 have HAL:=hid (fun (W:World) (hb:Below w.heap.size w W)=>refAll18_any D C va.ownBlock W (HRF.out W hb) HSM.out)
 have HCSZ:=hid hC.size
 have HDD:=hid (fun (W:World) (hb:Below w.heap.size w W)=>dkDead_any (h.below hb))
 have HSF:=hid (fun (W:World) (hb:Below w.heap.size w W)=>dkSafe_any (h.below hb))
 have HDA:=hid (fun (W:World) (hb:Below w.heap.size w W)=>dkAll_any (h.below hb) g)
 obtain ⟨v0,v1,v2,rfl,hy0,hy1,hy2⟩:=hC
 obtain ⟨S,HS⟩:∃ q:Nat,Hid (D.s.length=q):=⟨_,hid rfl⟩
 obtain ⟨A0,c0,rfl⟩:∃ A c,v0=.slice A S c:=by
  obtain ⟨A,c,e⟩:=hy0.y.shape
  exact ⟨_,_,by rw [← HS.out];exact e⟩
 rw [HS.out] at HSF
 have hr0:BoxRd (w.alloc (.cells (rdc D (.slice A0 S c0) v1 v2) 35)) w.heap.size D (.slice A0 S c0) v1 v2:=heap_alloc_new w _
 have HB0:Hid (Below w.heap.size w (w.alloc (.cells (rdc D (.slice A0 S c0) v1 v2) 35))):=hid ((Below.refl _ _).alloc (Nat.le_refl _) _)
 have HX0:=hid (heap_alloc_new w (.cells (rdc D (.slice A0 S c0) v1 v2) 35))
 obtain ⟨dead,HDE⟩:∃ q:Bool,Hid (D.dead=q):=⟨_,hid rfl⟩
 obtain ⟨C,HC⟩:∃ q:Array Value,Hid (rdc D (.slice A0 S c0) v1 v2=q):=⟨_,hid rfl⟩
 have HBX:=hid hr0
 rw [HC.out] at hr0 HB0 HBX HRF HAL HCSZ HX0 ⊢
 rw [HDE.out] at HDD HDA
 have HCL:Hid (∀ W,Below (w.alloc (.cells C 35)).heap.size (w.alloc (.cells C 35)) W→W.cell? ⟨w.heap.size,5,none⟩=some (.bool dead)∧W.cell? ⟨w.heap.size,0,none⟩=some (.slice A0 S c0)):=hid (fun W hb=>by
  obtain ⟨h0,_,_,_,_,h5⟩:=(HBX.out.below hb).cells
  rw [HDE.out] at h5
  exact ⟨h5,h0⟩)
 clear hy0 hy1 hy2 HBX hr0 h g
 go_enter Try.func18,Try.ntmps18
 go_upto_region 1 with (fail)
 generalize (w.alloc (.cells C 35))=wz at *
 have HBW:Hid (∀ W,Below wz.heap.size wz W→Below w.heap.size w W):=hid (fun W hb=>HB0.out.trans (hb.mono HB0.out.size))
 have HDR:Hid (Below wz.heap.size wz wz.drew):=hid (Below.refl _ _).drew
 have hdd:(dead == dead)=true:=by simp
 refine wp_region_held_drew (S:=fun W=>W.cell? ⟨w.heap.size,5,none⟩=some (.bool dead)∧W.cell? ⟨w.heap.size,0,none⟩=some (.slice A0 S c0)) (by kernel_rfl) (HCL.out _ HDR.out) (fun hHeld=>?_)
 refine' tkq 0 rfl ?_;try simp only [lay]
 refine' tkq 1 rfl ?_;try simp only [lay]
 refine' tkq 2 rfl ?_;try simp only [lay]
 refine' tkq 3 rfl ?_;try simp only [lay]
 refine' tkq 5 rfl ?_;try simp only [lay]
 refine' tkq2 6 rfl ?_;try simp only [lay]
 refine call_on (i:=4) rfl (by kernel_rfl) (by rfl) (fun K hK=>?_)
 go_simp
 refine (HDD.out _ (HBW.out _ HDR.out)).mono ?_
 rintro e x1 ⟨rfl,rfl⟩
 refine hK.out _ _ (HCL.out _ HDR.out) (fun hHeld=>?_)
 clear hK K
 try simp only [lay]
 refine' tkq 7 rfl ?_;try simp only [lay]
 refine' tkq 8 rfl ?_;try simp only [lay]
 refine' tkq 9 rfl ?_;try simp only [lay]
 refine' tkq 10 rfl ?_;try simp only [lay]
 refine' tkq 12 rfl ?_;try simp only [lay]
 refine' tkq2 13 rfl ?_;try simp only [lay]
 refine' tkq 14 rfl ?_;try simp only [lay]
 refine call_on (i:=11) rfl (by kernel_rfl) (by rfl) (fun K hK=>?_)
 go_simp
 refine (HSF.out _ (HBW.out _ HDR.out)).mono ?_
 rintro e x1 ⟨rfl,rfl⟩
 refine hK.out _ _ (HCL.out _ HDR.out) (fun hHeld=>?_)
 clear hK K
 try simp only [lay]
 refine' tkq 15 rfl ?_;try simp only [lay]
 refine' tkq 16 rfl ?_;try simp only [lay]
 refine wpAnyH_done (by kernel_rfl) ?_ _
 clear hHeld
 have HBD:=hid (HBW.out _ HDR.out)
 have kk:=(HCL.out _ HDR.out).1
 go_wp2_with fail
 refine (HDA.out _ HBD.out).mono ?_
 rintro e w3 ⟨v3,rfl,ho3,hb3⟩
 have HB3:Hid (Below wz.heap.size wz w3):=hid (HDR.out.trans (hb3.mono HDR.out.size))
 have k5:=(HCL.out _ HB3.out).1
 have HO3:=hid ho3
 have HLB:=hid (Nat.le_refl wz.heap.size)
 clear ho3 hb3 kk
 cases hde:dead with
 | true=>
  subst hde
  obtain ⟨A3,c3,rfl⟩:∃ A c,v3=.slice A 0 c:=by
   obtain ⟨A,c,e⟩:=HO3.out.byt.shape
   exact ⟨A,c,by simpa using e⟩
  go_wp2_with fail
  go_ret
  exact ⟨rfl,HBW.out _ HB3.out⟩
 | false=>
  subst hde
  have HLD:=hid (loadRd_row ((HB3.out.block _ (lt_of_block HX0.out)).trans HX0.out) HCSZ.out)
  have hld:=HLD.out
  have HO4:Hid (Own wz.heap.size w3 v3 (D.s ++ D.m)):=hid (by have:=HO3.out;simpa using this)
  go_wp2_with fail
  refine (HAL.out _ (HBW.out _ HB3.out)).mono ?_
  rintro e w4 ⟨v4,rfl,ho4,hb4⟩
  have HB4:Hid (Below wz.heap.size wz w4):=hid (HB3.out.trans (hb4.mono HB3.out.size))
  have HSA:=hid (same_any v3 v4 _ _ w4 (HO4.out.byt.below hb4) ho4.byt)
  rw [decide_eq_true rfl] at HSA
  clear ho4 hb4 hld
  go_wp2_with fail
  refine HSA.out.mono ?_
  rintro e w5 ⟨rfl,n,rfl⟩
  go_wp2_with fail
  go_ret
  exact ⟨rfl,below_drewN (HBW.out _ HB4.out) _⟩
end Go.Proofs.Ytfpgglclpkcdhaa
