/-
  tee: who may be a part of how many; Start. Printed with gente.py.
-/
import Derived.Test.YtpdnnmabijmfbaaGreatDoorBs34
import Derived.Test.YtpdnnmabijmfbaaGreatDoorTeCodeB
import Derived.Test.YtpdnnmabijmfbaaGreatDoorTeEq
namespace Go.Proofs.YtpdnnmabijmfbaaGreatDoor
set_option maxRecDepth 20000
open Go.RowKit
attribute [local go_sem ↓] exec_load_se exec_alloc_se exec_store_se exec_build_se exec_load_att exec_alloc_att exec_store_att exec_build_att exec_alloc_ax exec_store_ax exec_build_te4
theorem frX_nil (q:Nat):∀ k,(frX [] q k).1=[]
 | 0=>rfl
 | k + 1=>by
  unfold frX
  split
  ·exact frX_nil q k
  ·exact frX_nil q k
theorem makeX_nil_no {i n:Int} (h:quoS n=0∨i < 1∨n < i):(makeX i n 1 []).2=1:=by
 rw [makeX_arg (by rcases h with h | h | h;exact .inl h;exact .inr (.inl h);exact .inr (.inr (.inl h)))]
theorem makeX_nil_yes {i n:Int} (h:¬ (quoS n=0∨i < 1∨n < i)):(makeX i n 1 []).2=3:=by
 rw [makeX_few (by rintro (h1 | h1 | h1 | h1 | h1);exact h (.inl h1);exact h (.inr (.inl h1));exact h (.inr (.inr h1));omega;omega) rfl (by rw [frX_nil];show 0 < quoS n;have:quoS n≠0:=fun e=>h (.inl e);omega)]
section
variable {w:World} {g b c a:Nat} {t:TeM}
set_option maxHeartbeats 1600000 in
theorem among_yes {i n:Int} (h:¬ (quoS n=0∨i < 1∨n < i)) (hn:(Lit.int .i64 n).wf=true) (hK:Kst 1 w):Calls Tryz.prog 31 #[.int .i64 i,.int .i64 n] w fun e w'=>e=.returned (.bool true)∧Below w.heap.size w w':=by
 have HMK:Hid (Calls Tryz.prog 41 #[.int .i64 i,.int .i64 n,.int .i64 1,.slice none 0 0] w fun e w'=>∃ C,e=.returned (.tuple #[.agg C,.int .i64 3])∧C.size=68∧C.all (·.oneCell')=true∧Below w.heap.size w w'):=hid ((acMake_any i n 1 (.slice none 0 0) [] w hn (Els.nil w) (fun a ha=>by simp at ha) (by simp) hK).mono fun e w' ⟨x,he,⟨s,hx,ho,hs⟩,hb⟩=>by
  rw [makeX_nil_yes h,hx] at he
  exact ⟨_,he,axc_size s ho,axc_one hs,hb⟩)
 clear h hn hK
 go_enter Tryz.func31,Tryz.ntmps31
 go_wp2_with fail
 refine HMK.out.mono ?_
 rintro e w1 ⟨C,rfl,hc1,hc2,hb1⟩
 have hal:=allocAx_eq w1
 have hst:=ax_var w1 (axc_size (.slice none 0 0) acZ_ok) hc1 hc2
 obtain ⟨Z,HZ⟩:∃ x:Array Value,Hid (axc acZ (.slice none 0 0)=x):=⟨_,hid rfl⟩
 rw [HZ.out] at hal hst
 have HB:=hid (hb1.alloc hb1.size (.cells C 52))
 clear hc1 hc2 hb1 HZ
 go_wp2_with fail
 go_ret
 exact ⟨rfl,HB.out⟩
set_option maxHeartbeats 1600000 in
theorem among_no {i n:Int} (h:quoS n=0∨i < 1∨n < i) (hn:(Lit.int .i64 n).wf=true) (hK:Kst 1 w):Calls Tryz.prog 31 #[.int .i64 i,.int .i64 n] w fun e w'=>e=.returned (.bool false)∧Below w.heap.size w w':=by
 have HMK:Hid (Calls Tryz.prog 41 #[.int .i64 i,.int .i64 n,.int .i64 1,.slice none 0 0] w fun e w'=>∃ C,e=.returned (.tuple #[.agg C,.int .i64 1])∧C.size=68∧C.all (·.oneCell')=true∧Below w.heap.size w w'):=hid ((acMake_any i n 1 (.slice none 0 0) [] w hn (Els.nil w) (fun a ha=>by simp at ha) (by simp) hK).mono fun e w' ⟨x,he,⟨s,hx,ho,hs⟩,hb⟩=>by
  rw [makeX_nil_no h,hx] at he
  exact ⟨_,he,axc_size s ho,axc_one hs,hb⟩)
 clear h hn hK
 go_enter Tryz.func31,Tryz.ntmps31
 go_wp2_with fail
 refine HMK.out.mono ?_
 rintro e w1 ⟨C,rfl,hc1,hc2,hb1⟩
 have hal:=allocAx_eq w1
 have hst:=ax_var w1 (axc_size (.slice none 0 0) acZ_ok) hc1 hc2
 obtain ⟨Z,HZ⟩:∃ x:Array Value,Hid (axc acZ (.slice none 0 0)=x):=⟨_,hid rfl⟩
 rw [HZ.out] at hal hst
 have HB:=hid (hb1.alloc hb1.size (.cells C 52))
 clear hc1 hc2 hb1 HZ
 go_wp2_with fail
 go_ret
 exact ⟨rfl,HB.out⟩
theorem Tur.turn {w0 w1:World} {g b a:Nat} (h:Tur g b a w0 w1) (hg:w0.heap.size≤g):Turn b a w0 w1:=⟨h.os,h.tape,h.output,h.size,fun k h1 h2 h3=>h.block k h1 (by omega) h2 h3⟩
set_option maxHeartbeats 1600000 in
theorem tStart_arg {i n:Int} (h:quoS n=0∨i < 1∨n < i) (hn:(Lit.int .i64 n).wf=true) (p:Option Addr) (hK:Kst 1 w):Calls Tryz.prog 9 #[.int .i64 i,.int .i64 n,.pointer p] w fun e w'=>e=.returned (.tuple #[.pointer none,.int .i64 1])∧Below w.heap.size w w':=by
 have HM:=hid (among_no h hn hK)
 clear h hn hK
 go_enter Tryz.func9,Tryz.ntmps9
 go_wp2_with fail
 refine HM.out.mono ?_
 rintro e w1 ⟨rfl,hb1⟩
 have HB:=hid hb1
 clear hb1
 go_wp2_with fail
 go_ret2
 exact ⟨rfl,HB.out⟩
set_option maxHeartbeats 1600000 in
theorem tStart_nil {i n:Int} (h:¬ (quoS n=0∨i < 1∨n < i)) (hn:(Lit.int .i64 n).wf=true) (hK:Kst 1 w):Calls Tryz.prog 9 #[.int .i64 i,.int .i64 n,.pointer none] w fun e w'=>e=.returned (.tuple #[.pointer none,.int .i64 1])∧Below w.heap.size w w':=by
 have HM:=hid (among_yes h hn hK)
 have HL:Hid (∀ W,Calls Tryz.prog 32 #[.pointer none] W fun e w'=>e=.returned (.tuple #[.agg (sec seZ),.int .i64 5])∧Below W.heap.size W w'):=hid (fun W=>vLoad_no (.inl rfl))
 obtain ⟨Z,HZ⟩:∃ x:Array Value,Hid (sec seZ=x):=⟨_,hid rfl⟩
 have HZS:Hid (Z.size=35∧Z.all (·.oneCell')=true):=hid (by rw [← HZ.out];exact ⟨sec_size seZ_ok,sec_one _⟩)
 have HLS:Hid (∀ W,allocSe W=.ok (.value (.pointer (some ⟨W.heap.size,0,none⟩))) (W.alloc (.cells Z 40))):=hid (fun W=>by rw [← HZ.out];exact allocSe_eq W)
 rw [HZ.out] at HL
 clear h hn hK HZ
 go_enter Tryz.func9,Tryz.ntmps9
 go_wp2_with fail
 refine HM.out.mono ?_
 rintro e w1 ⟨rfl,hb1⟩
 have HB:=hid hb1
 clear hb1
 go_wp2_with fail
 refine (HL.out w1).mono ?_
 rintro e w2 ⟨rfl,hb2⟩
 have hal:=HLS.out w2
 have hst:=se_var w2 HZS.out.1 HZS.out.1 HZS.out.2
 have HB2:=hid ((HB.out.trans (hb2.mono HB.out.size)).alloc (Nat.le_trans HB.out.size hb2.size) (.cells Z 40))
 clear hb2
 go_wp2_with fail
 go_ret2
 exact ⟨rfl,HB2.out⟩
def StPost (b c a:Nat) (t:TeM) (w:World) (e:Ending) (w':World):Prop:=∃ g,e=.returned (.tuple #[.pointer (some ⟨g,0,none⟩),.int .i64 t.e])∧TeeW w' g b c a t∧w.heap.size≤g∧Turn b a w w'
theorem loadE_of (V:VaM):loadE V=0∨loadE V=6∨loadE V=8:=by
 unfold loadE
 split
 ·exact .inr (.inl rfl)
 ·split
  ·exact .inl rfl
  ·split
   ·exact .inl rfl
   ·split
    ·exact .inl rfl
    ·exact .inr (.inr rfl)
set_option maxHeartbeats 3200000 in
theorem tStart_any {V:VaM} (h:Vlt w b c a V) (G:V.Good) {i n:Int} (hi:¬ (quoS n=0∨i < 1∨n < i)) (hgd:(startT i n V).Good) (hn:(Lit.int .i64 n).wf=true) (hK:Kst 1 w):Calls Tryz.prog 9 #[.int .i64 i,.int .i64 n,.pointer (some ⟨b,0,none⟩)] w (StPost b c a (startT i n V) w):=by
 have HM:=hid (among_yes hi hn hK)
 have HL:=hid (fun W (hb:Below w.heap.size w W)=>vLoad_any (h.below hb) G (hK.below hb))
 have HKS:=hid (fun W (hb:Below w.heap.size w W)=>hK.below hb)
 have HV:=hid (fun W (hb:Below w.heap.size w W)=>h.below hb)
 have HSO:=hid (loadS_ok V)
 have HEO:=hid (loadE_of V)
 have HGV:=hid G
 have HGD:=hid hgd
 obtain ⟨s,HSS⟩:∃ x:SeM,Hid (loadS V=x):=⟨_,hid rfl⟩
 obtain ⟨E,HEE⟩:∃ x:Int,Hid (loadE V=x):=⟨_,hid rfl⟩
 rw [HSS.out] at HL HSO
 rw [HEE.out] at HL HEO
 obtain ⟨Z,HZ⟩:∃ x:Array Value,Hid (sec seZ=x):=⟨_,hid rfl⟩
 have HZS:Hid (Z.size=35):=hid (by rw [← HZ.out];exact sec_size seZ_ok)
 have HLS:Hid (∀ W,allocSe W=.ok (.value (.pointer (some ⟨W.heap.size,0,none⟩))) (W.alloc (.cells Z 40))):=hid (fun W=>by rw [← HZ.out];exact allocSe_eq W)
 have HBU:=hid (fun W=>buildTe4_eq i n (some ⟨b,0,none⟩) s HSO.out W)
 have HSZ:=hid (And.intro (sec_size HSO.out) (sec_one s))
 obtain ⟨S,HS⟩:∃ x:Array Value,Hid (sec s=x):=⟨_,hid rfl⟩
 obtain ⟨D,HD⟩:∃ x:Array Value,Hid (tec i n (some ⟨b,0,none⟩) s 0 0=x):=⟨_,hid rfl⟩
 rw [HS.out] at HL HBU HSZ
 rw [HD.out] at HBU
 clear h hi hn hK HZ G hgd
 go_enter Tryz.func9,Tryz.ntmps9
 go_wp2_with fail
 refine HM.out.mono ?_
 rintro e w1 ⟨rfl,hb1⟩
 have HB1:=hid hb1
 clear hb1 HM
 go_upto_region 3 with (fail)
 go_wp2_with fail
 refine (HL.out w1 HB1.out).mono ?_
 rintro e w2 ⟨rfl,hb2⟩
 have hal:=HLS.out w2
 have hst:=se_var w2 HZS.out HSZ.out.1 HSZ.out.2
 have HB2:=hid (HB1.out.trans (hb2.mono HB1.out.size))
 have HB3:=hid (HB2.out.alloc HB2.out.size (.cells S 40))
 have HR3:=hid (heap_alloc_new w2 (.cells S 40))
 clear hb2
 go_upto_region 4 with (fail)
 clear hal hst
 generalize (w2.alloc (.cells S 40))=w3 at *
 generalize w2.heap.size=p at *
 have q5:(E == 5)=false:=by have:=HEO.out;rw [beq_eq_false_iff_ne];omega
 have ls:=loadSe_row HR3.out HSZ.out.1
 have hbu:=HBU.out w3
 have hgr:(w3.alloc (.cells D 95)).heap[w3.heap.size]?=some (.cells (tec i n (some ⟨b,0,none⟩) s 0 0) 95 (0,0)):=by rw [HD.out];exact heap_alloc_new w3 _
 have HB4:=hid (HB3.out.alloc HB3.out.size (.cells D 95))
 have HR4:=hid ((Below.heap_alloc w3 (.cells D 95) p (lt_of_block HR3.out)).trans HR3.out)
 have HGP:=hid (show w.heap.size≤w3.heap.size from HB3.out.size)
 have HE4:Hid (TeeE (w3.alloc (.cells D 95)) w3.heap.size b c a ⟨i,n,V,s,0⟩ 0):=hid ⟨hgr,HV.out _ HB4.out,fun _=>rfl⟩
 clear hgr
 go_upto_region 7 with (fail)
 clear q5 ls hbu
 generalize (w3.alloc (.cells D 95))=w4 at *
 generalize w3.heap.size=g at *
 have HKW:=hid (HKS.out w4 HB4.out)
 have HG0:Hid (TeM.Good ⟨i,n,V,s,0⟩):=hid (by
  have:=HGD.out
  unfold startT at this
  split at this
  ·exact ⟨HGV.out,HSO.out,this.i1,this.i2,this.n1,this.n2⟩
  ·exact ⟨HGV.out,HSO.out,this.i1,this.i2,this.n1,this.n2⟩)
 by_cases hE:E=0
 ·subst hE
  have HQ:Hid (startT i n V=keptM ⟨i,n,V,s,0⟩ s):=hid (by unfold startT keptM;rw [if_pos HEE.out,HSS.out])
  have HKP:=hid (tKeep_any ⟨0,HE4.out⟩ HG0.out rfl s HSO.out HKW.out)
  rw [HS.out] at HKP
  rw [HQ.out] at HGD
  obtain ⟨t,HT⟩:∃ x:TeM,Hid (keptM ⟨i,n,V,s,0⟩ s=x):=⟨_,hid rfl⟩
  rw [HT.out] at HKP HGD
  have ls:=loadSe_row HR4.out HSZ.out.1
  go_upto_region 9 with (fail)
  go_wp2_with fail
  refine HKP.out.mono ?_
  rintro e w5 ⟨rfl,h5,t5⟩
  have HE5:=hid h5
  have HT5:=hid (((Tur.of HB4.out).trans t5).turn HGP.out)
  clear h5 t5 ls
  go_upto_region 10 with (fail)
  obtain ⟨E5,HE5E⟩:∃ x:Int,Hid (t.e=x):=⟨_,hid rfl⟩
  have hc5:w5.drew.cell? ⟨g,41,none⟩=some (.int .i64 E5):=by
   rw [← HE5E.out]
   obtain ⟨_,h5⟩:=HE5.out
   exact (h5.tail HGD.out.s).2.2.2
  refine wp_region_held_drew (S:=fun W=>W.cell? ⟨g,41,none⟩=some (.int .i64 E5)) (by kernel_rfl) hc5 (fun hHeld=>?_)
  refine' tkq 0 rfl ?_;try simp only [lay]
  refine' tkq 1 rfl ?_;try simp only [lay]
  refine' tkq 2 rfl ?_;try simp only [lay]
  refine' tkq 3 rfl ?_;try simp only [lay]
  refine' tkq 4 rfl ?_;try simp only [lay]
  refine' tkq 5 rfl ?_;try simp only [lay]
  refine' tkq 6 rfl ?_;try simp only [lay]
  refine wpAnyH_done (by kernel_rfl) ?_ _
  clear hHeld hc5
  go_wp2_with fail
  go_ret2
  exact ⟨g,by rw [HQ.out,HT.out,HE5E.out];rfl,by rw [HQ.out,HT.out];exact HE5.out.below ((Below.refl _ _).drew),HGP.out,HT5.out.then ((Below.refl _ _).drew)⟩
 ·have HQ:Hid (startT i n V=⟨i,n,V,s,E⟩):=hid (by unfold startT;rw [HEE.out,if_neg hE,HSS.out])
  have HHA:=hid (tHalt_any HE4.out HSO.out rfl E hE)
  rw [HQ.out] at HGD
  obtain ⟨t,HT⟩:∃ x:TeM,Hid ((⟨i,n,V,s,E⟩:TeM)=x):=⟨_,hid rfl⟩
  rw [HT.out] at HHA HGD
  go_upto_region 8 with (fail)
  go_wp2_with fail
  refine HHA.out.mono ?_
  rintro e w5 ⟨rfl,h5,t5⟩
  have HE5:=hid h5
  have HT5:=hid (((Tur.of HB4.out).trans t5).turn HGP.out)
  clear h5 t5
  go_upto_region 10 with (fail)
  obtain ⟨E5,HE5E⟩:∃ x:Int,Hid (t.e=x):=⟨_,hid rfl⟩
  have hc5:w5.drew.cell? ⟨g,41,none⟩=some (.int .i64 E5):=by
   rw [← HE5E.out]
   obtain ⟨_,h5⟩:=HE5.out
   exact (h5.tail HGD.out.s).2.2.2
  refine wp_region_held_drew (S:=fun W=>W.cell? ⟨g,41,none⟩=some (.int .i64 E5)) (by kernel_rfl) hc5 (fun hHeld=>?_)
  refine' tkq 0 rfl ?_;try simp only [lay]
  refine' tkq 1 rfl ?_;try simp only [lay]
  refine' tkq 2 rfl ?_;try simp only [lay]
  refine' tkq 3 rfl ?_;try simp only [lay]
  refine' tkq 4 rfl ?_;try simp only [lay]
  refine' tkq 5 rfl ?_;try simp only [lay]
  refine' tkq 6 rfl ?_;try simp only [lay]
  refine wpAnyH_done (by kernel_rfl) ?_ _
  clear hHeld hc5
  go_wp2_with fail
  go_ret2
  exact ⟨g,by rw [HQ.out,HT.out,HE5E.out];rfl,by rw [HQ.out,HT.out];exact HE5.out.below ((Below.refl _ _).drew),HGP.out,HT5.out.then ((Below.refl _ _).drew)⟩
end
end Go.Proofs.YtpdnnmabijmfbaaGreatDoor
