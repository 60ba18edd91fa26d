/-
  tee: requests, of one that is halted; New, of one that isn't. Printed with gente.py.
-/
import Derived.Test.YtpdnnmabijmfbaaGreatDoorBs39
import Derived.Test.YtpdnnmabijmfbaaGreatDoorTeCodeB
namespace Go.Proofs.YtpdnnmabijmfbaaGreatDoor
set_option maxRecDepth 20000
open Go.RowKit
attribute [local go_sem ↓] exec_load_se exec_alloc_se exec_store_se exec_build_se exec_load_att exec_alloc_att exec_store_att exec_build_att exec_load_bk exec_load_ax exec_load_ct exec_alloc_ax exec_store_ax exec_build_ax
section
variable {w:World} {g b c a:Nat} {t:TeM}
set_option maxHeartbeats 1600000 in
theorem tNew_stop (v:Value) (n:Int) (HH:∀ W,Below w.heap.size w W→Calls Tryz.prog 20 #[v] W fun e w'=>e=.returned (.bool true)∧W=w'):
  Calls Tryz.prog 24 #[v,.int .i64 n] w fun e w'=>e=.returned (.tuple #[.agg (atc atZ),.int .i64 8])∧Below w.heap.size w w':=by
 obtain ⟨Z,HZ⟩:∃ x:Array Value,Hid (atc atZ=x):=⟨_,hid rfl⟩
 have HZS:Hid (Z.size=101∧Z.all (·.oneCell')=true):=hid (by rw [← HZ.out];exact ⟨atc_size atZ_ok,atc_one _⟩)
 have hal:allocAtt w=.ok (.value (.pointer (some ⟨w.heap.size,0,none⟩))) (w.alloc (.cells Z 54)):=by
  have:=allocAtt_eq w
  rw [HZ.out] at this
  exact this
 have hbu:∀ W,buildAtt W=.ok (.value (.agg Z)) W:=fun W=>by rw [← HZ.out];exact buildAtt_eq W
 have hr:(w.alloc (.cells Z 54)).heap[w.heap.size]?=some (.cells Z 54 (0,0)):=by
  have:=heap_alloc_new w (.cells Z 54)
  exact this
 have hb:Below w.heap.size w (w.alloc (.cells Z 54)):=((Below.refl w.heap.size w).alloc (Nat.le_refl _) _)
 have HM:=hid (HH _ hb)
 rw [HZ.out]
 have hst:=storeAtt_eq hr HZS.out.1 HZS.out.1 HZS.out.2
 have HR:=hid (setAtt_same (C:=Z) hr)
 have HB:=hid (setAtt_below (C:=Z) hb (show w.heap.size≤w.heap.size by omega))
 clear HH hr hb HZ
 go_enter Tryz.func24,Tryz.ntmps24
 go_upto_region 1 with (fail)
 clear hal
 generalize (w.alloc (.cells Z 54))=wz at *
 go_wp2_with fail
 refine HM.out.mono ?_
 rintro e w1 ⟨rfl,rfl⟩
 go_wp2_with fail
 try simp only [Exit.inBlock,Exit.then]
 refine bodyPost_ret (results_at2 rfl _ _ _ _ _ _ rfl rfl HR.out HZS.out.1) rfl ⟨rfl,HB.out⟩
set_option maxHeartbeats 1600000 in
theorem tPrep_stop (v:Value) (B X:Array Value) (HH:∀ W,Below w.heap.size w W→Calls Tryz.prog 20 #[v] W fun e w'=>e=.returned (.bool true)∧W=w'):
  Calls Tryz.prog 37 #[v,.agg B,.agg X] w fun e w'=>e=.returned (.tuple #[.agg (atc atZ),.int .i64 8])∧Below w.heap.size w w':=by
 obtain ⟨Z,HZ⟩:∃ x:Array Value,Hid (atc atZ=x):=⟨_,hid rfl⟩
 have HZS:Hid (Z.size=101∧Z.all (·.oneCell')=true):=hid (by rw [← HZ.out];exact ⟨atc_size atZ_ok,atc_one _⟩)
 have hal:allocAtt ((w.alloc (.cells B 49)).alloc (.cells X 52))=.ok (.value (.pointer (some ⟨w.heap.size + 2,0,none⟩))) (((w.alloc (.cells B 49)).alloc (.cells X 52)).alloc (.cells Z 54)):=by
  have:=allocAtt_eq ((w.alloc (.cells B 49)).alloc (.cells X 52))
  rw [HZ.out] at this
  rwa [show ((w.alloc (.cells B 49)).alloc (.cells X 52)).heap.size=w.heap.size + 2 from by simp] at this
 have hbu:∀ W,buildAtt W=.ok (.value (.agg Z)) W:=fun W=>by rw [← HZ.out];exact buildAtt_eq W
 have hr:(((w.alloc (.cells B 49)).alloc (.cells X 52)).alloc (.cells Z 54)).heap[w.heap.size + 2]?=some (.cells Z 54 (0,0)):=by
  have:=heap_alloc_new ((w.alloc (.cells B 49)).alloc (.cells X 52)) (.cells Z 54)
  rwa [show ((w.alloc (.cells B 49)).alloc (.cells X 52)).heap.size=w.heap.size + 2 from by simp] at this
 have hb:Below w.heap.size w (((w.alloc (.cells B 49)).alloc (.cells X 52)).alloc (.cells Z 54)):=((((Below.refl w.heap.size w).alloc (Nat.le_refl _) _).alloc (by simp;try omega) _).alloc (by simp;try omega) _)
 have HM:=hid (HH _ hb)
 rw [HZ.out]
 have hst:=storeAtt_eq hr HZS.out.1 HZS.out.1 HZS.out.2
 have HR:=hid (setAtt_same (C:=Z) hr)
 have HB:=hid (setAtt_below (C:=Z) hb (show w.heap.size≤w.heap.size + 2 by omega))
 clear HH hr hb HZ
 go_enter Tryz.func37,Tryz.ntmps37
 go_upto_region 1 with (fail)
 clear hal
 generalize (((w.alloc (.cells B 49)).alloc (.cells X 52)).alloc (.cells Z 54))=wz at *
 go_wp2_with fail
 refine HM.out.mono ?_
 rintro e w1 ⟨rfl,rfl⟩
 go_wp2_with fail
 try simp only [Exit.inBlock,Exit.then]
 refine bodyPost_ret (results_at2 rfl _ _ _ _ _ _ rfl rfl HR.out HZS.out.1) rfl ⟨rfl,HB.out⟩
set_option maxHeartbeats 1600000 in
theorem tStore_stop (v:Value) (C:Array Value) (HH:∀ W,Below w.heap.size w W→Calls Tryz.prog 20 #[v] W fun e w'=>e=.returned (.bool true)∧W=w'):
  Calls Tryz.prog 25 #[v,.agg C] w fun e w'=>e=.returned (.tuple #[.agg (atc atZ),.int .i64 8])∧Below w.heap.size w w':=by
 obtain ⟨Z,HZ⟩:∃ x:Array Value,Hid (atc atZ=x):=⟨_,hid rfl⟩
 have HZS:Hid (Z.size=101∧Z.all (·.oneCell')=true):=hid (by rw [← HZ.out];exact ⟨atc_size atZ_ok,atc_one _⟩)
 have hal:allocAtt (w.alloc (.cells C 57))=.ok (.value (.pointer (some ⟨w.heap.size + 1,0,none⟩))) ((w.alloc (.cells C 57)).alloc (.cells Z 54)):=by
  have:=allocAtt_eq (w.alloc (.cells C 57))
  rw [HZ.out] at this
  rwa [show (w.alloc (.cells C 57)).heap.size=w.heap.size + 1 from by simp] at this
 have hbu:∀ W,buildAtt W=.ok (.value (.agg Z)) W:=fun W=>by rw [← HZ.out];exact buildAtt_eq W
 have hr:((w.alloc (.cells C 57)).alloc (.cells Z 54)).heap[w.heap.size + 1]?=some (.cells Z 54 (0,0)):=by
  have:=heap_alloc_new (w.alloc (.cells C 57)) (.cells Z 54)
  rwa [show (w.alloc (.cells C 57)).heap.size=w.heap.size + 1 from by simp] at this
 have hb:Below w.heap.size w ((w.alloc (.cells C 57)).alloc (.cells Z 54)):=(((Below.refl w.heap.size w).alloc (Nat.le_refl _) _).alloc (by simp;try omega) _)
 have HM:=hid (HH _ hb)
 rw [HZ.out]
 have hst:=storeAtt_eq hr HZS.out.1 HZS.out.1 HZS.out.2
 have HR:=hid (setAtt_same (C:=Z) hr)
 have HB:=hid (setAtt_below (C:=Z) hb (show w.heap.size≤w.heap.size + 1 by omega))
 clear HH hr hb HZ
 go_enter Tryz.func25,Tryz.ntmps25
 go_upto_region 1 with (fail)
 clear hal
 generalize ((w.alloc (.cells C 57)).alloc (.cells Z 54))=wz at *
 go_wp2_with fail
 refine HM.out.mono ?_
 rintro e w1 ⟨rfl,rfl⟩
 go_wp2_with fail
 try simp only [Exit.inBlock,Exit.then]
 refine bodyPost_ret (results_at2 rfl _ _ _ _ _ _ rfl rfl HR.out HZS.out.1) rfl ⟨rfl,HB.out⟩
set_option maxHeartbeats 1600000 in
theorem tAccu_stop (v:Value) (n:Int) (A:Option Addr) (k d:Nat) (HH:∀ W,Below w.heap.size w W→Calls Tryz.prog 20 #[v] W fun e w'=>e=.returned (.bool true)∧W=w'):
  Calls Tryz.prog 14 #[v,.int .i64 n,.slice A k d] w fun e w'=>e=.returned (.tuple #[.agg (axc acZ (.slice none 0 0)),.int .i64 8])∧Below w.heap.size w w':=by
 obtain ⟨Z,HZ⟩:∃ x:Array Value,Hid (axc acZ (.slice none 0 0)=x):=⟨_,hid rfl⟩
 have HZS:Hid (Z.size=68∧Z.all (·.oneCell')=true):=hid (by rw [← HZ.out];exact ⟨axc_size _ acZ_ok,axc_one (w:=w) (a:=acZ) (Els.nil w)⟩)
 have hal:allocAx w=.ok (.value (.pointer (some ⟨w.heap.size,0,none⟩))) (w.alloc (.cells Z 52)):=by
  have:=allocAx_eq w
  rw [HZ.out] at this
  exact this
 have hbu:∀ W,buildAx W=.ok (.value (.agg Z)) W:=fun W=>by rw [← HZ.out];exact buildAx_eq W
 have hr:(w.alloc (.cells Z 52)).heap[w.heap.size]?=some (.cells Z 52 (0,0)):=by
  have:=heap_alloc_new w (.cells Z 52)
  exact this
 have hb:Below w.heap.size w (w.alloc (.cells Z 52)):=((Below.refl w.heap.size w).alloc (Nat.le_refl _) _)
 have HM:=hid (HH _ hb)
 rw [HZ.out]
 have hst:=storeAx_eq hr HZS.out.1 HZS.out.1 HZS.out.2
 have HR:=hid (setAx_same (C:=Z) hr)
 have HB:=hid (setAx_below (C:=Z) hb (show w.heap.size≤w.heap.size by omega))
 clear HH hr hb HZ
 go_enter Tryz.func14,Tryz.ntmps14
 go_upto_region 1 with (fail)
 clear hal
 generalize (w.alloc (.cells Z 52))=wz at *
 go_wp2_with fail
 refine HM.out.mono ?_
 rintro e w1 ⟨rfl,rfl⟩
 go_wp2_with fail
 try simp only [Exit.inBlock,Exit.then]
 refine bodyPost_ret (results_xb rfl _ _ _ _ _ _ rfl rfl HR.out HZS.out.1) rfl ⟨rfl,HB.out⟩
set_option maxHeartbeats 3200000 in
theorem tNew_live (h:TeeW w g b c a t) (G:t.Good) (h0:t.e=0) (n:Int) (hK:∀ W,Tur g b a w W→Kst 1 W):
  Calls Tryz.prog 24 #[.pointer (some ⟨g,0,none⟩),.int .i64 n] w (TaPost g b c a (newT t n) w):=by
 have HN:Hid (newT t n=keptT t (newQ t.s n)):=hid (by unfold newT;rw [if_pos h0])
 have HTD:Hid (Told t.s (newQ t.s n)):=hid (newQ_told G.s n)
 obtain ⟨q,HQ⟩:∃ x:TldM,Hid (newQ t.s n=x):=⟨_,hid rfl⟩
 have HCK:Hid (∀ W,Calls Tryz.prog 60 #[.agg (sec t.s),.int .i64 n] W (TlPost (newQ t.s n) W)):=hid (fun W=>ckNew_any t.s G.s n W)
 rw [HQ.out] at HTD HCK
 have HAT:Hid (∀ W,TeeW W g b c a t→Tur g b a w W→Calls Tryz.prog 59 #[.pointer (some ⟨g,0,none⟩),.agg (sec q.s),.agg (atc q.a),.int .i64 q.e] W (TaPost g b c a (keptT t q) W)):=hid (fun W h2 t2=>tAttest_any h2 G h0 q HTD.out (fun W2 t3=>hK W2 (t2.trans t3)))
 have HKO:Hid ((keptT t q).a.Ok):=hid (keptT_ok HTD.out.ok)
 have HG:=hid G
 obtain ⟨Z,HZ⟩:∃ x:Array Value,Hid (atc atZ=x):=⟨_,hid rfl⟩
 have HZS:Hid (Z.size=101):=hid (by rw [← HZ.out];exact atc_size atZ_ok)
 have hal:allocAtt w=.ok (.value (.pointer (some ⟨w.heap.size,0,none⟩))) (w.alloc (.cells Z 54)):=by
  have:=allocAtt_eq w
  rw [HZ.out] at this
  exact this
 have hr0:=heap_alloc_new w (.cells Z 54)
 have hb:Below w.heap.size w (w.alloc (.cells Z 54)):=((Below.refl w.heap.size w).alloc (Nat.le_refl _) _)
 have HE:=hid (h.below hb)
 have HB:=hid hb
 have HR0:=hid hr0
 have HPP:Hid (w.heap.size≤w.heap.size):=hid (by omega)
 have HHT:Hid (∀ W,TeeW W g b c a t→Calls Tryz.prog 20 #[.pointer (some ⟨g,0,none⟩)] W fun e w'=>e=.returned (.bool false)∧W=w'):=hid (fun W h2=>by
  have:=tHalted_any h2 G
  rw [h0] at this
  exact this)
 have HSO:=hid (sec_size G.s)
 have HLS:Hid (∀ W,TeeW W g b c a t→loadSe (.pointer (some ⟨g,3,none⟩)) W=.ok (.value (.agg (sec t.s))) W∧W.cell? ⟨g,1,none⟩=some (.int .i64 t.n)):=hid (fun W ⟨_,h2⟩=>⟨h2.seal_ G.s,h2.cells.2.1⟩)
 obtain ⟨S,HS⟩:∃ x:Array Value,Hid (sec t.s=x):=⟨_,hid rfl⟩
 rw [HS.out] at HSO HLS HCK
 clear h G h0 hK hb HS hr0
 go_enter Tryz.func24,Tryz.ntmps24
 go_upto_region 1 with (fail)
 clear hal
 generalize (w.alloc (.cells Z 54))=wz at *
 go_wp2_with fail
 refine (HHT.out wz HE.out).mono ?_
 rintro e w1 ⟨rfl,rfl⟩
 obtain ⟨X9,HX9⟩:∃ x:Array Value,Hid (sec q.s=x):=⟨_,hid rfl⟩
 obtain ⟨Y9,HY9⟩:∃ x:Array Value,Hid (atc q.a=x):=⟨_,hid rfl⟩
 obtain ⟨E9,HE9⟩:∃ x:Int,Hid (q.e=x):=⟨_,hid rfl⟩
 obtain ⟨r,HRR⟩:∃ x:TaM,Hid (keptT t q=x):=⟨_,hid rfl⟩
 rw [HRR.out] at HKO
 rw [HX9.out,HY9.out,HE9.out,HRR.out] at HAT
 have ls:=(HLS.out wz HE.out).1
 go_wp2_with fail
 refine (HCK.out wz).mono ?_
 rintro e w1 ⟨rfl,hb1⟩
 unfold tldV
 rw [HX9.out,HY9.out,HE9.out]
 have HE1:=hid (HE.out.below hb1)
 have HTU1:=hid ((Tur.of (g:=g) (b:=b) (a:=a) HB.out).then hb1)
 have HRZ1:=hid ((hb1.block _ (lt_of_block HR0.out)).trans HR0.out)
 clear ls hb1
 go_wp2_with fail
 refine (HAT.out w1 HE1.out HTU1.out).mono ?_
 rintro e w2 ⟨rfl,h2,t2⟩
 have HTE2:=hid h2
 have HTU2:=hid (HTU1.out.trans t2)
 have HRP2:Hid (w2.heap[w.heap.size]?=some (.cells Z 54 (0,0))):=hid (HE1.out.other HRZ1.out (by decide) (by decide) (by decide) t2)
 clear h2 t2
 obtain ⟨hst,hrp,hte,htu⟩:=ta_end (r:=r) HTE2.out HTU2.out HRP2.out HZS.out HPP.out HKO.out
 have HRP:=hid hrp
 have HTE:=hid hte
 have HTU:=hid htu
 have HYS:=hid (atc_size HKO.out)
 clear hrp hte htu
 obtain ⟨Y,HY⟩:∃ x:Array Value,Hid (atc r.a=x):=⟨_,hid rfl⟩
 obtain ⟨E,HEE⟩:∃ x:Int,Hid (r.e=x):=⟨_,hid rfl⟩
 rw [HY.out] at hst HRP HTE HTU HYS
 rw [HY.out,HEE.out]
 go_wp2_with fail
 try simp only [Exit.inBlock,Exit.then]
 refine bodyPost_ret (results_at2 rfl _ _ _ _ _ _ rfl rfl HRP.out HYS.out) rfl ?_
 unfold TaPost
 rw [HN.out,HQ.out,HRR.out]
 exact ⟨by rw [HY.out,HEE.out];try rfl,HTE.out,HTU.out⟩
end
end Go.Proofs.YtpdnnmabijmfbaaGreatDoor
