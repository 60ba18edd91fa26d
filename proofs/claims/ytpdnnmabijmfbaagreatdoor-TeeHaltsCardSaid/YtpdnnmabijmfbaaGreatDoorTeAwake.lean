/-
  The laws' small example: a new view, and the same one again. Printed with gente.py.
-/
import Derived.Test.YtpdnnmabijmfbaaGreatDoorTeCodeC
import Derived.Test.YtpdnnmabijmfbaaGreatDoorTeCodeD
namespace Go.Proofs.YtpdnnmabijmfbaaGreatDoor
set_option maxRecDepth 20000
open Go.RowKit
attribute [local go_sem ↓] exec_load_se exec_alloc_se exec_store_se exec_build_se exec_load_att exec_alloc_att exec_store_att exec_build_att
theorem right_sign7 {a:AtM} (h:mayA a=true):rightA (signA a)=true:=by
 unfold rightA
 rw [show mayA (signA a)=mayA a from rfl,h,show tagA (signA a)=tagA a from rfl]
 exact decide_eq_true rfl
def seOne:SeM:=⟨1,1,0,z32⟩
theorem ex17_new:newQ seZ 1=⟨seOne,⟨0,1,1,1,z32,0,z32,z32⟩,0⟩:=by
 unfold newQ
 rw [if_pos ⟨by decide,by decide,by decide⟩]
 exact stepQ_go (by decide)
theorem ex17_old:newQ seOne 1=noQ 11:=by
 unfold newQ
 rw [if_pos ⟨by decide,by decide,by decide⟩]
 exact stepQ_old (by decide)
def exW1:VaM:=⟨2,[],blobS 2 1 seZ,1,-1,false,[]⟩
theorem ex17_keep:keepE (newV 2 0) seZ=0∧keepV (newV 2 0) seZ=exW1:=by
 refine ⟨by decide,?_⟩
 unfold keepV
 rw [if_neg (by decide),if_neg (by decide),if_neg (by decide)]
 rfl
theorem ex17_start:startT 2 3 (newV 2 0)=⟨2,3,exW1,seZ,0⟩:=by
 unfold startT
 rw [if_pos (by decide),show loadS (newV 2 0)=seZ from rfl,ex17_keep.1,ex17_keep.2]
theorem ex17_keep2:keepE exW1 seOne=0:=by decide
def exA17:AtM:=⟨2,1,1,1,z32,0,z32,z32⟩
theorem ex17_one:newT ⟨2,3,exW1,seZ,0⟩ 1=⟨⟨2,3,keepV exW1 seOne,seOne,0⟩,signA exA17,0⟩:=by
 unfold newT keptT
 rw [if_pos rfl,ex17_new,if_pos rfl,if_pos ex17_keep2]
 rfl
theorem ex17_two (V:VaM):newT ⟨2,3,V,seOne,0⟩ 1=⟨⟨2,3,V,seOne,0⟩,atZ,11⟩:=by
 unfold newT keptT
 rw [if_pos rfl,ex17_old,if_neg (by decide)]
 rfl
set_option maxHeartbeats 6400000 in
theorem teAwake_any (w:World) (hK:Kst 1 w) (hK0:Kst 0 w):Calls Tryz.prog 7 #[] w fun e w'=>e=.returned (.bool true)∧Below w.heap.size w w':=by
 have HG0:Hid (TeM.Good ⟨2,3,exW1,seZ,0⟩):=hid (by
  have:=startT_good (newV_good (i:=2) (n:=0) (by decide) (by decide) (by decide)) (i:=2) (n:=3) (by decide) (by decide) (by decide) (by decide)
  rwa [ex17_start] at this)
 obtain ⟨V2,HV2⟩:∃ q:VaM,Hid (keepV exW1 seOne=q):=⟨_,hid rfl⟩
 have HG1:Hid (TeM.Good ⟨2,3,V2,seOne,0⟩∧(signA exA17).Ok):=hid (by
  have:=newT_good HG0.out 1
  rwa [ex17_one,HV2.out] at this)
 have HNW:Hid (Calls Tryz.prog 8 #[.int .i64 2,.int .i64 0] w fun e w'=>∃ b c a,e=.returned (.tuple #[.pointer (some ⟨b,0,none⟩),.int .i64 0])∧Vlt w' b c a (newV 2 0)∧w.heap.size≤b∧w.heap.size≤a∧Below w.heap.size w w'):=hid (vNew_yes 2 0 w (by decide) (by decide) (by decide))
 have HST:Hid (∀ W b c a,Vlt W b c a (newV 2 0)→Below w.heap.size w W→Calls Tryz.prog 9 #[.int .i64 2,.int .i64 3,.pointer (some ⟨b,0,none⟩)] W fun e w'=>∃ g,e=.returned (.tuple #[.pointer (some ⟨g,0,none⟩),.int .i64 0])∧TeeW w' g b c a ⟨2,3,exW1,seZ,0⟩∧W.heap.size≤g∧Turn b a W w'):=hid (fun W b c a h hb=>by
  have:=tStart_any h (newV_good (i:=2) (n:=0) (by decide) (by decide) (by decide)) (i:=2) (n:=3) (by decide) (by rw [ex17_start];exact HG0.out) (by decide) (hK.below hb)
  rw [ex17_start] at this
  exact this)
 have HN1:Hid (∀ W g b c a,TeeW W g b c a ⟨2,3,exW1,seZ,0⟩→(∀ W2,Tur g b a W W2→Kst 1 W2)→Calls Tryz.prog 24 #[.pointer (some ⟨g,0,none⟩),.int .i64 1] W fun e w'=>e=.returned (.tuple #[.agg (atc (signA exA17)),.int .i64 0])∧TeeW w' g b c a ⟨2,3,V2,seOne,0⟩∧Tur g b a W w'):=hid (fun W g b c a h hk=>by
  have:=tNew_live h HG0.out rfl 1 hk
  rw [ex17_one,HV2.out] at this
  exact this)
 have HN2:Hid (∀ W g b c a,TeeW W g b c a ⟨2,3,V2,seOne,0⟩→(∀ W2,Tur g b a W W2→Kst 1 W2)→Calls Tryz.prog 24 #[.pointer (some ⟨g,0,none⟩),.int .i64 1] W fun e w'=>e=.returned (.tuple #[.agg (atc atZ),.int .i64 11])∧TeeW w' g b c a ⟨2,3,V2,seOne,0⟩∧Tur g b a W w'):=hid (fun W g b c a h hk=>by
  have:=tNew_live h HG1.out.1 rfl 1 hk
  rw [ex17_two] at this
  exact this)
 have HRT:Hid (∀ W,Below w.heap.size w W→Calls Tryz.prog 28 #[.agg (atc (signA exA17))] W fun e w'=>e=.returned (.bool true)∧Below W.heap.size W w'):=hid (fun W hb=>by
  have:=refRight8_any (signA exA17) W HG1.out.2 (hK0.below hb)
  rwa [right_sign7 (by decide)] at this)
 have HSL:Hid (∀ W g b c a,TeeW W g b c a ⟨2,3,V2,seOne,0⟩→Calls Tryz.prog 19 #[.pointer (some ⟨g,0,none⟩)] W fun e w'=>e=.returned (.agg (sec seOne))∧Below W.heap.size W w'):=hid (fun W g b c a h=>tSeal_any h HG1.out.1)
 have HHT:Hid (∀ W g b c a,TeeW W g b c a ⟨2,3,V2,seOne,0⟩→Calls Tryz.prog 20 #[.pointer (some ⟨g,0,none⟩)] W fun e w'=>e=.returned (.bool false)∧W=w'):=hid (fun W g b c a h=>tHalted_any h HG1.out.1)
 have HWY:Hid (∀ W g b c a,TeeW W g b c a ⟨2,3,V2,seOne,0⟩→Calls Tryz.prog 21 #[.pointer (some ⟨g,0,none⟩)] W fun e w'=>e=.returned (.int .i64 0)∧W=w'):=hid (fun W g b c a h=>tWhy_any h HG1.out.1)
 have HKK:Hid (∀ W,Below w.heap.size w W→Kst 1 W):=hid (fun W hb=>hK.below hb)
 obtain ⟨Y,HY⟩:∃ q:Array Value,Hid (atc (signA exA17)=q):=⟨_,hid rfl⟩
 obtain ⟨Z,HZ⟩:∃ q:Array Value,Hid (atc atZ=q):=⟨_,hid rfl⟩
 have HYZ:Hid (Z.size=101∧(Y.size=101∧Y.all (·.oneCell')=true)∧Z.all (·.oneCell')=true):=hid (by rw [← HY.out,← HZ.out];exact ⟨atc_size atZ_ok,⟨atc_size HG1.out.2,atc_one _⟩,atc_one _⟩)
 have HAL:Hid (∀ W,allocAtt W=.ok (.value (.pointer (some ⟨W.heap.size,0,none⟩))) (W.alloc (.cells Z 54))):=hid (fun W=>by rw [← HZ.out];exact allocAtt_eq W)
 have HYB:Hid (∀ (W:World) (p:Nat),W.heap[p]?=some (.cells Y 54 (0,0))→W.cell? ⟨p,0,none⟩=some (.int .i64 2)):=hid (fun W p h=>by
  rw [← HY.out] at h
  exact (BoxA.cells (a:=signA exA17) h).1)
 have hfd:∀ W,(Instr.field 40 (.agg (sec seOne)) 0).run Tryz.prog W=.ok (.int .i64 1) W:=fun _=>by kernel_rfl
 obtain ⟨S,HS⟩:∃ q:Array Value,Hid (sec seOne=q):=⟨_,hid rfl⟩
 rw [HY.out] at HN1 HRT
 rw [HZ.out] at HN2
 rw [HS.out] at HSL hfd
 clear hK hK0 HY HZ HS
 go_enter Tryz.func7,Tryz.ntmps7
 go_wp2_with fail
 refine HNW.out.mono ?_
 rintro e w1 ⟨b,c,a,rfl,hv,hbb,hba,hb1⟩
 have HV:=hid hv
 have HBA:=hid (And.intro hbb hba)
 have HB1:=hid hb1
 clear hv hbb hba hb1
 go_wp2_with fail
 refine (HST.out w1 b c a HV.out HB1.out).mono ?_
 rintro e w2 ⟨g,rfl,h2,hg,t2⟩
 have HE2:=hid h2
 have HGG:=hid (show w.heap.size≤g from Nat.le_trans HB1.out.size hg)
 have HB2:=hid (t2.below HB1.out HBA.out.1 HBA.out.2 HB1.out.size)
 have HKT:Hid (∀ W,Below w.heap.size w W→∀ W2,Tur g b a W W2→Kst 1 W2):=hid (fun W hb W2 t=>HKK.out W2 (t.below hb HGG.out HBA.out.1 HBA.out.2 hb.size))
 clear h2 hg t2
 go_upto_region 7 with (fail)
 go_wp2_with fail
 refine (HN1.out w2 g b c a HE2.out (HKT.out w2 HB2.out)).mono ?_
 rintro e w3 ⟨rfl,h3,t3⟩
 have hal:=HAL.out w3
 have hst:=att_var w3 HYZ.out.1 HYZ.out.2.1.1 HYZ.out.2.1.2
 have HB3:=hid (t3.below HB2.out HGG.out HBA.out.1 HBA.out.2 HB2.out.size)
 have HB4:=hid (HB3.out.alloc HB3.out.size (.cells Y 54))
 have HR4:=hid (heap_alloc_new w3 (.cells Y 54))
 have HE4:Hid (TeeW (w3.alloc (.cells Y 54)) g b c a ⟨2,3,V2,seOne,0⟩):=hid (h3.below ((Below.refl _ _).alloc (Nat.le_refl _) _))
 clear h3 t3
 go_upto_region 8 with (fail)
 clear hal hst
 generalize (w3.alloc (.cells Y 54))=w4 at *
 generalize w3.heap.size=p4 at *
 go_wp2_with fail
 refine (HN2.out w4 g b c a HE4.out (HKT.out w4 HB4.out)).mono ?_
 rintro e w5 ⟨rfl,h5,t5⟩
 have hal:=HAL.out w5
 have hst:=att_var w5 HYZ.out.1 HYZ.out.1 HYZ.out.2.2
 have HB5:=hid (t5.below HB4.out HGG.out HBA.out.1 HBA.out.2 HB4.out.size)
 have HB6:=hid (HB5.out.alloc HB5.out.size (.cells Z 54))
 have HR5:=hid (HE4.out.other HR4.out (by decide) (by decide) (by decide) t5)
 have HR6:=hid ((Below.heap_alloc w5 (.cells Z 54) p4 (lt_of_block HR5.out)).trans HR5.out)
 have HE6:Hid (TeeW (w5.alloc (.cells Z 54)) g b c a ⟨2,3,V2,seOne,0⟩):=hid (h5.below ((Below.refl _ _).alloc (Nat.le_refl _) _))
 clear h5 t5
 go_upto_region 9 with (fail)
 clear hal hst
 generalize (w5.alloc (.cells Z 54))=w6 at *
 have la:=loadAtt_row HR6.out HYZ.out.2.1.1
 go_wp2_with fail
 refine (HRT.out w6 HB6.out).mono ?_
 rintro e w7 ⟨rfl,hb7⟩
 have HB7:=hid (HB6.out.trans (hb7.mono HB6.out.size))
 have HE7:=hid (HE6.out.below hb7)
 have k0:=HYB.out w7 p4 ((hb7.block _ (lt_of_block HR6.out)).trans HR6.out)
 clear la hb7
 go_wp2_with fail
 refine (HSL.out w7 g b c a HE7.out).mono ?_
 rintro e w8 ⟨rfl,hb8⟩
 have HB8:=hid (HB7.out.trans (hb8.mono HB7.out.size))
 have HE8:=hid (HE7.out.below hb8)
 clear k0 hb8
 go_wp2_with fail
 refine (HHT.out w8 g b c a HE8.out).mono ?_
 rintro e w9 ⟨rfl,rfl⟩
 go_wp2_with fail
 refine (HWY.out w8 g b c a HE8.out).mono ?_
 rintro e w9 ⟨rfl,rfl⟩
 go_wp2_with fail
 go_ret
 exact ⟨rfl,HB8.out⟩
end Go.Proofs.YtpdnnmabijmfbaaGreatDoor
