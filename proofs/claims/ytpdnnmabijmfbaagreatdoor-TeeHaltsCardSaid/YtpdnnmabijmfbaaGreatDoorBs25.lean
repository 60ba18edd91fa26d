/-
  VaCodeKeep VaCodeLoad: what each of them says stands at its head.
-/
import Derived.Test.YtpdnnmabijmfbaaGreatDoorBs23
namespace Go.Proofs.YtpdnnmabijmfbaaGreatDoor
set_option maxRecDepth 20000
open Go.RowKit
attribute [local go_sem ↓] exec_load_se
section
variable {w:World} {b c a:Nat} {V:VaM} {v0 v1 vt:Value}
theorem writeV_stop {V:VaM} {l:List UInt8} (h:stepB V=false):writeE V=6∧writeV V l={ stepV V with torn:=l }:=by
 unfold writeE writeV
 rw [h,if_neg (by decide),if_neg (by decide)]
 exact ⟨rfl,rfl⟩
theorem writeV_half {V:VaM} {l:List UInt8} (h:stepB V=true) (h2:stepB (stepV V)=false):writeE V=6∧writeV V l=stepV (putV (stepV V) (placeV V) l):=by
 unfold writeE writeV
 rw [h,h2,if_pos rfl,if_pos rfl,if_neg (by decide),if_neg (by decide)]
 exact ⟨rfl,rfl⟩
theorem writeV_full {V:VaM} {l:List UInt8} (h:stepB V=true) (h2:stepB (stepV V)=true):writeE V=0∧writeV V l={ stepV (putV (stepV V) (placeV V) l) with n:=V.n + 1 }:=by
 unfold writeE writeV
 rw [h,h2,if_pos rfl,if_pos rfl,if_pos rfl,if_pos rfl]
 exact ⟨rfl,rfl⟩
theorem placeV_step (V:VaM):placeV (stepV V)=placeV V:=by unfold placeV;rw [stepV_n]
set_option maxHeartbeats 3200000 in
theorem vkeep_stop (h:VltE w b c a V v0 v1 vt) (g:V.Good) {x:Value} {l:List UInt8} (hx:Bys w x l) (hl:l≠[]) (e1:stepB V=false):
  Calls Tryz.prog 89 #[.pointer (some ⟨b,0,none⟩),x] w fun e w'=>e=.returned (.int .i64 (writeE V))∧Vlt w' b c a (writeV V l)∧Turn b a w w':=by
 have HS:=hid (vstep_any h g)
 rw [e1] at HS
 obtain ⟨q1,q2⟩:=writeV_stop (l:=l) e1
 rw [q1,q2]
 have HX:Hid (∀ W,Turn b a w W→Bys W x l):=hid (fun W t=>h.turnedS hx t)
 obtain ⟨A,d,rfl⟩:=hx.shape
 have HL:=hid hl
 clear q1 q2 e1 hx g hl h
 go_enter Tryz.func89,Tryz.ntmps89
 go_wp2_with fail
 refine HS.out.mono ?_
 rintro e w1 ⟨rfl,h1,t1⟩
 have HE:=hid (h1.setTorn (HX.out w1 t1) (fun e=>absurd e HL.out))
 have HT:=hid (t1.setB 6 (.slice A l.length d))
 obtain ⟨_,_,_,_,_,_,c6⟩:=h1.cells
 have f6:=h1.free 6
 clear h1 t1
 go_wp2_with fail
 go_ret
 exact ⟨rfl,⟨_,_,_,HE.out⟩,HT.out⟩
set_option maxHeartbeats 3200000 in
theorem vkeep_zero_half (h:VltE w b c a V v0 v1 vt) (g:V.Good) {x:Value} {l:List UInt8} (hx:Bys w x l) (hl:l.length≤1000) (e1:stepB V=true) (e2:stepB (stepV V)=false) (hp:placeV V=0):
  Calls Tryz.prog 89 #[.pointer (some ⟨b,0,none⟩),x] w fun e w'=>e=.returned (.int .i64 (writeE V))∧Vlt w' b c a (writeV V l)∧Turn b a w w':=by
 have HS:=hid (vstep_any h g)
 rw [e1] at HS
 obtain ⟨q1,q2⟩:=writeV_half (l:=l) e1 e2
 rw [q1,q2,hp]
 have g1:=stepV_good g
 have HP:Hid (∀ W,VltE W b c a (stepV V) v0 v1 vt→Calls Tryz.prog 137 #[.pointer (some ⟨b,0,none⟩)] W fun e w'=>e=.returned (.int .i64 0)∧W=w'):=hid (fun W h1=>by
  have:=vplace_any h1 g1
  rw [placeV_step,hp] at this
  exact this)
 have g2:=putV_good g1 0 hl
 have HS2:Hid (∀ W u0 u1 ut,VltE W b c a (putV (stepV V) 0 l) u0 u1 ut→Calls Tryz.prog 136 #[.pointer (some ⟨b,0,none⟩)] W fun e w'=>e=.returned (.bool false)∧VltE w' b c a (stepV (putV (stepV V) 0 l)) u0 u1 ut∧Turn b a W w'):=hid (fun W u0 u1 ut h2=>by
  have:=vstep_any h2 g2
  rw [show stepB (putV (stepV V) 0 l)=false from e2] at this
  exact this)
 have HX:Hid (∀ W,Turn b a w W→Bys W x l):=hid (fun W t=>h.turnedS hx t)
 obtain ⟨A,d,rfl⟩:=hx.shape
 clear q1 q2 e1 e2 hx g hl h hp g1 g2
 go_enter Tryz.func89,Tryz.ntmps89
 go_wp2_with fail
 refine HS.out.mono ?_
 rintro e w1 ⟨rfl,h1,t1⟩
 have hd:Below w1.heap.size w1 w1.drew:=(Below.refl _ _).drew
 have HE:=hid (show Vlt (w1.drew.setCell ⟨b,1,none⟩ (.slice A l.length d)) b c a (putV (stepV V) 0 l) from (h1.below hd).setSlot (k:=0) (.inl rfl) (HX.out _ (t1.then hd)))
 have HT:=hid ((t1.then hd).setB 1 (.slice A l.length d))
 have HP1:=hid (HP.out _ (h1.below hd))
 have hc1:=(h1.below hd).cells.2.1
 have hf1:=(h1.below hd).free 1
 clear h1 t1 hd
 go_upto_region 4 with (fail)
 refine wp_region_held_drew (S:=fun _=>True) (by kernel_rfl) True.intro (fun hHeld=>?_)
 refine' tkq 0 rfl ?_;try simp only [lay]
 refine' tkq 1 rfl ?_;try simp only [lay]
 refine' tkq 3 rfl ?_;try simp only [lay]
 refine' tkq 4 rfl ?_;try simp only [lay]
 refine' tkq 5 rfl ?_;try simp only [lay]
 refine call_on (i:=2) rfl (by kernel_rfl) (by rfl) (fun K hK=>?_)
 go_simp
 refine HP1.out.mono ?_
 rintro e w2 ⟨rfl,rfl⟩
 refine hK.out _ _ (True.intro) (fun hHeld=>?_)
 clear hK K
 try simp only [lay]
 refine' tkq 6 rfl ?_;try simp only [lay]
 refine call_on (i:=7) rfl (by kernel_rfl) (by rfl) (fun K hK=>?_)
 go_simp
 refine hK.out _ _ (True.intro) (fun hHeld=>?_)
 clear hK K
 try simp only [lay]
 refine wpAnyH_done (by kernel_rfl) ?_ _
 clear hHeld hc1 hf1
 obtain ⟨u0,u1,ut,h2⟩:=HE.out
 have HS3:=hid (HS2.out _ _ _ _ h2)
 clear h2
 go_wp2_with fail
 refine HS3.out.mono ?_
 rintro e w3 ⟨rfl,h3,t3⟩
 go_wp2_with fail
 go_ret
 exact ⟨rfl,⟨_,_,_,h3⟩,HT.out.trans t3⟩
set_option maxHeartbeats 3200000 in
theorem vkeep_zero_full (h:VltE w b c a V v0 v1 vt) (g:V.Good) (hn:V.n < 1099511627776) {x:Value} {l:List UInt8} (hx:Bys w x l) (hl:l.length≤1000) (e1:stepB V=true) (e2:stepB (stepV V)=true) (hp:placeV V=0):
  Calls Tryz.prog 89 #[.pointer (some ⟨b,0,none⟩),x] w fun e w'=>e=.returned (.int .i64 (writeE V))∧Vlt w' b c a (writeV V l)∧Turn b a w w':=by
 have HS:=hid (vstep_any h g)
 rw [e1] at HS
 obtain ⟨q1,q2⟩:=writeV_full (l:=l) e1 e2
 rw [q1,q2,hp]
 have g1:=stepV_good g
 have HP:Hid (∀ W,VltE W b c a (stepV V) v0 v1 vt→Calls Tryz.prog 137 #[.pointer (some ⟨b,0,none⟩)] W fun e w'=>e=.returned (.int .i64 0)∧W=w'):=hid (fun W h1=>by
  have:=vplace_any h1 g1
  rw [placeV_step,hp] at this
  exact this)
 have g2:=putV_good g1 0 hl
 have HS2:Hid (∀ W u0 u1 ut,VltE W b c a (putV (stepV V) 0 l) u0 u1 ut→Calls Tryz.prog 136 #[.pointer (some ⟨b,0,none⟩)] W fun e w'=>e=.returned (.bool true)∧VltE w' b c a (stepV (putV (stepV V) 0 l)) u0 u1 ut∧Turn b a W w'):=hid (fun W u0 u1 ut h2=>by
  have:=vstep_any h2 g2
  rw [show stepB (putV (stepV V) 0 l)=true from e2] at this
  exact this)
 have HN:Hid ((stepV (putV (stepV V) 0 l)).n=V.n):=hid (by rw [stepV_n];exact stepV_n V)
 have HUP:Hid (∀ W u0 u1 ut,VltE W b c a (stepV (putV (stepV V) 0 l)) u0 u1 ut→Calls Tryz.prog 138 #[.pointer (some ⟨c,0,none⟩)] W fun e w'=>e=.returned (.tuple #[.int .i64 (V.n + 1),.int .i64 0])∧W.setCell ⟨a,0,none⟩ (.int .i64 (V.n + 1))=w'):=hid (fun W u0 u1 ut h3=>by
  have:=h3.k
  rw [HN.out] at this
  exact up_yes this g.n0 hn)
 have HX:Hid (∀ W,Turn b a w W→Bys W x l):=hid (fun W t=>h.turnedS hx t)
 obtain ⟨A,d,rfl⟩:=hx.shape
 clear q1 q2 e1 e2 hx g hl h hp g1 g2 hn
 go_enter Tryz.func89,Tryz.ntmps89
 go_wp2_with fail
 refine HS.out.mono ?_
 rintro e w1 ⟨rfl,h1,t1⟩
 have hd:Below w1.heap.size w1 w1.drew:=(Below.refl _ _).drew
 have HE:=hid (show Vlt (w1.drew.setCell ⟨b,1,none⟩ (.slice A l.length d)) b c a (putV (stepV V) 0 l) from (h1.below hd).setSlot (k:=0) (.inl rfl) (HX.out _ (t1.then hd)))
 have HT:=hid ((t1.then hd).setB 1 (.slice A l.length d))
 have HP1:=hid (HP.out _ (h1.below hd))
 have hc1:=(h1.below hd).cells.2.1
 have hf1:=(h1.below hd).free 1
 clear h1 t1 hd
 go_upto_region 4 with (fail)
 refine wp_region_held_drew (S:=fun _=>True) (by kernel_rfl) True.intro (fun hHeld=>?_)
 refine' tkq 0 rfl ?_;try simp only [lay]
 refine' tkq 1 rfl ?_;try simp only [lay]
 refine' tkq 3 rfl ?_;try simp only [lay]
 refine' tkq 4 rfl ?_;try simp only [lay]
 refine' tkq 5 rfl ?_;try simp only [lay]
 refine call_on (i:=2) rfl (by kernel_rfl) (by rfl) (fun K hK=>?_)
 go_simp
 refine HP1.out.mono ?_
 rintro e w2 ⟨rfl,rfl⟩
 refine hK.out _ _ (True.intro) (fun hHeld=>?_)
 clear hK K
 try simp only [lay]
 refine' tkq 6 rfl ?_;try simp only [lay]
 refine call_on (i:=7) rfl (by kernel_rfl) (by rfl) (fun K hK=>?_)
 go_simp
 refine hK.out _ _ (True.intro) (fun hHeld=>?_)
 clear hK K
 try simp only [lay]
 refine wpAnyH_done (by kernel_rfl) ?_ _
 clear hHeld hc1 hf1
 obtain ⟨u0,u1,ut,h2⟩:=HE.out
 have HS3:=hid (HS2.out _ _ _ _ h2)
 clear h2
 go_wp2_with fail
 refine HS3.out.mono ?_
 rintro e w3 ⟨rfl,h3,t3⟩
 have HE3:=hid (h3.up (V.n + 1))
 have HT3:=hid ((HT.out.trans t3).setA 0 (.int .i64 (V.n + 1)))
 have HUP3:=hid (HUP.out _ _ _ _ h3)
 obtain ⟨_,_,_,c3,_,_,_⟩:=h3.cells
 clear h3 t3
 go_wp2_with fail
 refine HUP3.out.mono ?_
 rintro e w4 ⟨rfl,rfl⟩
 go_wp2_with fail
 go_ret
 exact ⟨rfl,⟨_,_,_,HE3.out⟩,HT3.out⟩
set_option maxHeartbeats 3200000 in
theorem vkeep_one_half (h:VltE w b c a V v0 v1 vt) (g:V.Good) {x:Value} {l:List UInt8} (hx:Bys w x l) (hl:l.length≤1000) (e1:stepB V=true) (e2:stepB (stepV V)=false) (hp:placeV V=1):
  Calls Tryz.prog 89 #[.pointer (some ⟨b,0,none⟩),x] w fun e w'=>e=.returned (.int .i64 (writeE V))∧Vlt w' b c a (writeV V l)∧Turn b a w w':=by
 have HS:=hid (vstep_any h g)
 rw [e1] at HS
 obtain ⟨q1,q2⟩:=writeV_half (l:=l) e1 e2
 rw [q1,q2,hp]
 have g1:=stepV_good g
 have HP:Hid (∀ W,VltE W b c a (stepV V) v0 v1 vt→Calls Tryz.prog 137 #[.pointer (some ⟨b,0,none⟩)] W fun e w'=>e=.returned (.int .i64 1)∧W=w'):=hid (fun W h1=>by
  have:=vplace_any h1 g1
  rw [placeV_step,hp] at this
  exact this)
 have g2:=putV_good g1 1 hl
 have HS2:Hid (∀ W u0 u1 ut,VltE W b c a (putV (stepV V) 1 l) u0 u1 ut→Calls Tryz.prog 136 #[.pointer (some ⟨b,0,none⟩)] W fun e w'=>e=.returned (.bool false)∧VltE w' b c a (stepV (putV (stepV V) 1 l)) u0 u1 ut∧Turn b a W w'):=hid (fun W u0 u1 ut h2=>by
  have:=vstep_any h2 g2
  rw [show stepB (putV (stepV V) 1 l)=false from e2] at this
  exact this)
 have HX:Hid (∀ W,Turn b a w W→Bys W x l):=hid (fun W t=>h.turnedS hx t)
 obtain ⟨A,d,rfl⟩:=hx.shape
 clear q1 q2 e1 e2 hx g hl h hp g1 g2
 go_enter Tryz.func89,Tryz.ntmps89
 go_wp2_with fail
 refine HS.out.mono ?_
 rintro e w1 ⟨rfl,h1,t1⟩
 have hd:Below w1.heap.size w1 w1.drew:=(Below.refl _ _).drew
 have HE:=hid (show Vlt (w1.drew.setCell ⟨b,2,none⟩ (.slice A l.length d)) b c a (putV (stepV V) 1 l) from (h1.below hd).setSlot (k:=1) (.inr rfl) (HX.out _ (t1.then hd)))
 have HT:=hid ((t1.then hd).setB 2 (.slice A l.length d))
 have HP1:=hid (HP.out _ (h1.below hd))
 have hc1:=(h1.below hd).cells.2.2.1
 have hf1:=(h1.below hd).free 2
 clear h1 t1 hd
 go_upto_region 4 with (fail)
 refine wp_region_held_drew (S:=fun _=>True) (by kernel_rfl) True.intro (fun hHeld=>?_)
 refine' tkq 0 rfl ?_;try simp only [lay]
 refine' tkq 1 rfl ?_;try simp only [lay]
 refine' tkq 3 rfl ?_;try simp only [lay]
 refine' tkq 4 rfl ?_;try simp only [lay]
 refine' tkq 5 rfl ?_;try simp only [lay]
 refine call_on (i:=2) rfl (by kernel_rfl) (by rfl) (fun K hK=>?_)
 go_simp
 refine HP1.out.mono ?_
 rintro e w2 ⟨rfl,rfl⟩
 refine hK.out _ _ (True.intro) (fun hHeld=>?_)
 clear hK K
 try simp only [lay]
 refine' tkq 6 rfl ?_;try simp only [lay]
 refine call_on (i:=7) rfl (by kernel_rfl) (by rfl) (fun K hK=>?_)
 go_simp
 refine hK.out _ _ (True.intro) (fun hHeld=>?_)
 clear hK K
 try simp only [lay]
 refine wpAnyH_done (by kernel_rfl) ?_ _
 clear hHeld hc1 hf1
 obtain ⟨u0,u1,ut,h2⟩:=HE.out
 have HS3:=hid (HS2.out _ _ _ _ h2)
 clear h2
 go_wp2_with fail
 refine HS3.out.mono ?_
 rintro e w3 ⟨rfl,h3,t3⟩
 go_wp2_with fail
 go_ret
 exact ⟨rfl,⟨_,_,_,h3⟩,HT.out.trans t3⟩
set_option maxHeartbeats 3200000 in
theorem vkeep_one_full (h:VltE w b c a V v0 v1 vt) (g:V.Good) (hn:V.n < 1099511627776) {x:Value} {l:List UInt8} (hx:Bys w x l) (hl:l.length≤1000) (e1:stepB V=true) (e2:stepB (stepV V)=true) (hp:placeV V=1):
  Calls Tryz.prog 89 #[.pointer (some ⟨b,0,none⟩),x] w fun e w'=>e=.returned (.int .i64 (writeE V))∧Vlt w' b c a (writeV V l)∧Turn b a w w':=by
 have HS:=hid (vstep_any h g)
 rw [e1] at HS
 obtain ⟨q1,q2⟩:=writeV_full (l:=l) e1 e2
 rw [q1,q2,hp]
 have g1:=stepV_good g
 have HP:Hid (∀ W,VltE W b c a (stepV V) v0 v1 vt→Calls Tryz.prog 137 #[.pointer (some ⟨b,0,none⟩)] W fun e w'=>e=.returned (.int .i64 1)∧W=w'):=hid (fun W h1=>by
  have:=vplace_any h1 g1
  rw [placeV_step,hp] at this
  exact this)
 have g2:=putV_good g1 1 hl
 have HS2:Hid (∀ W u0 u1 ut,VltE W b c a (putV (stepV V) 1 l) u0 u1 ut→Calls Tryz.prog 136 #[.pointer (some ⟨b,0,none⟩)] W fun e w'=>e=.returned (.bool true)∧VltE w' b c a (stepV (putV (stepV V) 1 l)) u0 u1 ut∧Turn b a W w'):=hid (fun W u0 u1 ut h2=>by
  have:=vstep_any h2 g2
  rw [show stepB (putV (stepV V) 1 l)=true from e2] at this
  exact this)
 have HN:Hid ((stepV (putV (stepV V) 1 l)).n=V.n):=hid (by rw [stepV_n];exact stepV_n V)
 have HUP:Hid (∀ W u0 u1 ut,VltE W b c a (stepV (putV (stepV V) 1 l)) u0 u1 ut→Calls Tryz.prog 138 #[.pointer (some ⟨c,0,none⟩)] W fun e w'=>e=.returned (.tuple #[.int .i64 (V.n + 1),.int .i64 0])∧W.setCell ⟨a,0,none⟩ (.int .i64 (V.n + 1))=w'):=hid (fun W u0 u1 ut h3=>by
  have:=h3.k
  rw [HN.out] at this
  exact up_yes this g.n0 hn)
 have HX:Hid (∀ W,Turn b a w W→Bys W x l):=hid (fun W t=>h.turnedS hx t)
 obtain ⟨A,d,rfl⟩:=hx.shape
 clear q1 q2 e1 e2 hx g hl h hp g1 g2 hn
 go_enter Tryz.func89,Tryz.ntmps89
 go_wp2_with fail
 refine HS.out.mono ?_
 rintro e w1 ⟨rfl,h1,t1⟩
 have hd:Below w1.heap.size w1 w1.drew:=(Below.refl _ _).drew
 have HE:=hid (show Vlt (w1.drew.setCell ⟨b,2,none⟩ (.slice A l.length d)) b c a (putV (stepV V) 1 l) from (h1.below hd).setSlot (k:=1) (.inr rfl) (HX.out _ (t1.then hd)))
 have HT:=hid ((t1.then hd).setB 2 (.slice A l.length d))
 have HP1:=hid (HP.out _ (h1.below hd))
 have hc1:=(h1.below hd).cells.2.2.1
 have hf1:=(h1.below hd).free 2
 clear h1 t1 hd
 go_upto_region 4 with (fail)
 refine wp_region_held_drew (S:=fun _=>True) (by kernel_rfl) True.intro (fun hHeld=>?_)
 refine' tkq 0 rfl ?_;try simp only [lay]
 refine' tkq 1 rfl ?_;try simp only [lay]
 refine' tkq 3 rfl ?_;try simp only [lay]
 refine' tkq 4 rfl ?_;try simp only [lay]
 refine' tkq 5 rfl ?_;try simp only [lay]
 refine call_on (i:=2) rfl (by kernel_rfl) (by rfl) (fun K hK=>?_)
 go_simp
 refine HP1.out.mono ?_
 rintro e w2 ⟨rfl,rfl⟩
 refine hK.out _ _ (True.intro) (fun hHeld=>?_)
 clear hK K
 try simp only [lay]
 refine' tkq 6 rfl ?_;try simp only [lay]
 refine call_on (i:=7) rfl (by kernel_rfl) (by rfl) (fun K hK=>?_)
 go_simp
 refine hK.out _ _ (True.intro) (fun hHeld=>?_)
 clear hK K
 try simp only [lay]
 refine wpAnyH_done (by kernel_rfl) ?_ _
 clear hHeld hc1 hf1
 obtain ⟨u0,u1,ut,h2⟩:=HE.out
 have HS3:=hid (HS2.out _ _ _ _ h2)
 clear h2
 go_wp2_with fail
 refine HS3.out.mono ?_
 rintro e w3 ⟨rfl,h3,t3⟩
 have HE3:=hid (h3.up (V.n + 1))
 have HT3:=hid ((HT.out.trans t3).setA 0 (.int .i64 (V.n + 1)))
 have HUP3:=hid (HUP.out _ _ _ _ h3)
 obtain ⟨_,_,_,c3,_,_,_⟩:=h3.cells
 clear h3 t3
 go_wp2_with fail
 refine HUP3.out.mono ?_
 rintro e w4 ⟨rfl,rfl⟩
 go_wp2_with fail
 go_ret
 exact ⟨rfl,⟨_,_,_,HE3.out⟩,HT3.out⟩
theorem vkeep_any (h:Vlt w b c a V) (g:V.Good) (hn:V.n < 1099511627776) {x:Value} {l:List UInt8} (hx:Bys w x l) (h0:l≠[]) (hl:l.length≤1000):
  Calls Tryz.prog 89 #[.pointer (some ⟨b,0,none⟩),x] w fun e w'=>e=.returned (.int .i64 (writeE V))∧Vlt w' b c a (writeV V l)∧Turn b a w w':=by
 obtain ⟨v0,v1,vt,h⟩:=h
 cases e1:stepB V with
 | false=>exact vkeep_stop h g hx h0 e1
 | true=>
  cases e2:stepB (stepV V) with
  | false=>
   rcases placeV_two V with hp | hp
   ·exact vkeep_zero_half h g hx hl e1 e2 hp
   ·exact vkeep_one_half h g hx hl e1 e2 hp
  | true=>
   rcases placeV_two V with hp | hp
   ·exact vkeep_zero_full h g hn hx hl e1 e2 hp
   ·exact vkeep_one_full h g hn hx hl e1 e2 hp
theorem vKeep_no {v:Value} (h:NoVlt w v) (s:SeM):Calls Tryz.prog 43 #[v,.agg (sec s)] w fun e w'=>e=.returned (.int .i64 5)∧Below w.heap.size w w':=by
 have hb0:Below w.heap.size w (w.alloc (.cells (sec s) 40)):=(Below.refl _ _).alloc (Nat.le_refl _) _
 have HM:=hid (vfault_no (h.below hb0))
 obtain ⟨C,HC⟩:∃ C:Array Value,Hid (sec s=C):=⟨_,hid rfl⟩
 rw [HC.out] at hb0 HM ⊢
 have HB:=hid hb0
 clear h hb0 HC
 go_enter Tryz.func43,Tryz.ntmps43
 go_wp2_with fail
 refine HM.out.mono ?_
 rintro e w1 ⟨rfl,rfl⟩
 go_wp2_with fail
 go_ret
 exact ⟨rfl,HB.out⟩
set_option maxHeartbeats 6400000 in
theorem vKeep_any (h:Vlt w b c a V) (g:V.Good) (s:SeM) (ho:s.Ok) (hK:Kst 1 w):
  Calls Tryz.prog 43 #[.pointer (some ⟨b,0,none⟩),.agg (sec s)] w fun e w'=>e=.returned (.int .i64 (keepE V s))∧Vlt w' b c a (keepV V s)∧Turn b a w w':=by
 obtain ⟨v0,v1,vt,h⟩:=h
 have hb0:Below w.heap.size w (w.alloc (.cells (sec s) 40)):=(Below.refl _ _).alloc (Nat.le_refl _) _
 have hA:=BoxSe.new w s
 have HV:Hid (∀ W,Below w.heap.size w W→VltE W b c a V v0 v1 vt):=hid (fun W hb=>h.below hb)
 have HLD:Hid (∀ W,Below (w.alloc (.cells (sec s) 40)).heap.size (w.alloc (.cells (sec s) 40)) W→loadSe (.pointer (some ⟨w.heap.size,0,none⟩)) W=.ok (.value (.agg (sec s))) W):=hid (fun W hb=>loadSe_eq (hA.keep hb) ho)
 have HCK:Hid (∀ W,Calls Tryz.prog 86 #[.agg (sec s)] W fun e w'=>e=.returned (.int .i64 (if mayS s=true then 0 else 1))∧Below W.heap.size W w'):=hid (fun W=>seCheck_ok s W ho)
 have HPU:Hid (mayS s=true→V.n < 1099511627776→∀ W,Below w.heap.size w W→Calls Tryz.prog 87 #[.int .i64 V.i,.int .i64 (V.n + 1),.agg (sec s)] W fun e w'=>∃ x,e=.returned (.tuple #[x,.int .i64 0])∧Bys w' x (blobS V.i (V.n + 1) s)∧Below W.heap.size W w'):=hid (fun hm hn W hb=>by
  have n0:=g.n0
  have hi:=g.i
  unfold nodeB at hi
  rw [decide_eq_true_eq] at hi
  have:=sePut_own V.i (V.n + 1) s W (by simp [Lit.wf,IntKind.min,IntKind.max,IntKind.signed,IntKind.bits];omega) (by simp [Lit.wf,IntKind.min,IntKind.max,IntKind.signed,IntKind.bits];omega) ho (hK.below hb)
  have hp:putOkS V.i (V.n + 1) s=true:=by
   unfold putOkS versB
   rw [g.i,hm,decide_eq_true (by omega)]
   rfl
  rw [hp,if_pos rfl,if_pos rfl] at this
  exact this.mono fun _ _ ⟨x,he,hx,hb⟩=>⟨x,he,hx.bys,hb⟩)
 have HBN:Hid (mayS s=true→V.n < 1099511627776→blobS V.i (V.n + 1) s≠[]∧(blobS V.i (V.n + 1) s).length≤1000):=hid (fun hm hn=>by
  have n0:=g.n0
  have:=blobS_len' (i:=V.i) (n:=V.n + 1) ho (by unfold versB;rw [decide_eq_true_eq];omega) hm
  refine ⟨fun e=>?_,by omega⟩
  have e2:=congrArg List.length e
  unfold blobS at e2
  rw [List.length_append,tagS_len] at e2
  simp at e2)
 have HE:Hid (V.dead=false→mayS s=true→¬ V.n=1099511627776→keepE V s=writeE V∧keepV V s=writeV V (blobS V.i (V.n + 1) s)):=hid (fun h1 h2 h3=>by
  unfold keepE keepV
  rw [h1,h2,if_neg (by decide),if_neg (by decide),if_neg h3,if_neg (by decide),if_neg (by decide),if_neg h3]
  exact ⟨rfl,rfl⟩)
 have HE1:Hid (V.dead=true→keepE V s=6∧keepV V s=V):=hid (fun h1=>by
  unfold keepE keepV
  rw [if_pos h1,if_pos h1]
  exact ⟨rfl,rfl⟩)
 have HE2:Hid (V.dead=false→mayS s=false→keepE V s=1∧keepV V s=V):=hid (fun h1 h2=>by
  unfold keepE keepV
  simp only [h1,h2,Bool.false_eq_true,if_false,if_true]
  exact ⟨trivial,trivial⟩)
 have HE3:Hid (V.dead=false→mayS s=true→V.n=1099511627776→keepE V s=9∧keepV V s=V):=hid (fun h1 h2 h3=>by
  unfold keepE keepV
  rw [h1,h2,if_neg (by decide),if_neg (by decide),if_pos h3,if_neg (by decide),if_neg (by decide),if_pos h3]
  exact ⟨rfl,rfl⟩)
 have HG:=hid g
 obtain ⟨m,HM⟩:∃ q:Bool,Hid (mayS s=q):=⟨_,hid rfl⟩
 obtain ⟨C,HC⟩:∃ C:Array Value,Hid (sec s=C):=⟨_,hid rfl⟩
 obtain ⟨O,HO⟩:∃ O:List UInt8,Hid (blobS V.i (V.n + 1) s=O):=⟨_,hid rfl⟩
 obtain ⟨ke,HKE⟩:∃ q:Int,Hid (keepE V s=q):=⟨_,hid rfl⟩
 obtain ⟨kv,HKV⟩:∃ q:VaM,Hid (keepV V s=q):=⟨_,hid rfl⟩
 rw [HKE.out,HKV.out] at HE HE1 HE2 HE3
 rw [HM.out] at HCK HPU HBN HE HE2 HE3
 rw [HO.out] at HPU HBN HE
 rw [HC.out] at hb0 HLD HCK HPU ⊢
 rw [HKE.out,HKV.out]
 have HF:Hid (∀ W,Below w.heap.size w W→Calls Tryz.prog 66 #[.pointer (some ⟨b,0,none⟩)] W fun e w'=>e=.returned (.int .i64 (if V.dead=true then 6 else 0))∧W=w'):=hid (fun W hb=>vfault_any (HV.out W hb))
 have HB0:=hid hb0
 obtain ⟨dd,hdd⟩:∃ q:Bool,V.dead=q:=⟨_,rfl⟩
 rw [hdd] at HE HE1 HE2 HE3 HF
 clear h hA g ho hK HM HC HKE HKV hdd hb0 HO
 go_enter Tryz.func43,Tryz.ntmps43
 go_upto_region 1 with (fail)
 generalize (w.alloc (.cells C 40))=w0 at *
 go_wp2_with fail
 refine (HF.out w0 HB0.out).mono ?_
 rintro e w1 ⟨rfl,rfl⟩
 cases dd with
 | true=>
  obtain ⟨rfl,rfl⟩:=HE1.out rfl
  rw [if_pos rfl]
  go_wp2_with fail
  go_ret
  exact ⟨rfl,⟨_,_,_,HV.out _ HB0.out⟩,Turn.of HB0.out⟩
 | false=>
  have HEa:=hid (HE.out rfl)
  have HE2a:=hid (HE2.out rfl)
  have HE3a:=hid (HE3.out rfl)
  clear HE HE1 HE2 HE3
  rw [if_neg (by decide)]
  have l0:=HLD.out w0 (Below.refl _ _)
  go_wp2_with fail
  refine (HCK.out w0).mono ?_
  rintro e w1 ⟨rfl,hb1⟩
  have HB1:=hid (HB0.out.trans (hb1.mono HB0.out.size))
  have HL1:=hid (fun W (h:Below w1.heap.size w1 W)=>HLD.out W (hb1.trans (h.mono hb1.size)))
  clear l0 hb1
  cases m with
  | false=>
   obtain ⟨rfl,rfl⟩:=HE2a.out rfl
   rw [if_neg (by decide)]
   go_wp2_with fail
   go_ret
   exact ⟨rfl,⟨_,_,_,HV.out _ HB1.out⟩,Turn.of HB1.out⟩
  | true=>
   have HEb:=hid (HEa.out rfl)
   have HE3b:=hid (HE3a.out rfl)
   have HPUa:=hid (HPU.out rfl)
   have HBNa:=hid (HBN.out rfl)
   clear HEa HE2a HE3a HPU HBN
   rw [if_pos rfl]
   have h1:=HV.out w1 HB1.out
   obtain ⟨_,_,_,c3,_,_,_⟩:=h1.cells
   have HCT:=hid (vcount_any h1 HG.out)
   clear h1
   go_wp2_with fail
   refine HCT.out.mono ?_
   rintro e w2 ⟨rfl,rfl⟩
   clear c3
   by_cases hn:V.n=1099511627776
   ·obtain ⟨rfl,rfl⟩:=HE3b.out hn
    go_wp2_with fail
    go_ret
    exact ⟨rfl,⟨_,_,_,HV.out _ HB1.out⟩,Turn.of HB1.out⟩
   ·obtain ⟨rfl,rfl⟩:=HEb.out hn
    have hlt:V.n < 1099511627776:=by have:=HG.out.n1;omega
    have HPUb:=hid (HPUa.out hlt)
    obtain ⟨hO0,hO1⟩:=HBNa.out hlt
    have HO0:=hid hO0
    have HO1:=hid hO1
    have HLT:=hid hlt
    have hd:Below w1.heap.size w1 w1.drew:=(Below.refl _ _).drew
    have HBD:=hid (HB1.out.trans (hd.mono HB1.out.size))
    have HNX:=hid (vnext_any (HV.out _ HBD.out) HG.out)
    have hc0:=(HV.out _ HBD.out).cells.1
    have hl1:loadSe (.pointer (some ⟨w.heap.size,0,none⟩)) w1.drew=.ok (.value (.agg C)) w1.drew:=by
     exact HL1.out _ hd
    clear hlt hO0 hO1 hd
    go_upto_region 9 with (fail)
    clear hn
    refine wp_region_held_drew (S:=fun W=>W.cell? ⟨b,0,none⟩=some (.int .i64 V.i)∧loadSe (.pointer (some ⟨w.heap.size,0,none⟩)) W=.ok (.value (.agg C)) W) (by kernel_rfl) ⟨hc0,hl1⟩ (fun hHeld=>?_)
    refine' tkq 0 rfl ?_;try simp only [lay]
    refine' tkq 1 rfl ?_;try simp only [lay]
    refine' tkq 2 rfl ?_;try simp only [lay]
    refine' tkq2 3 rfl ?_;try simp only [lay]
    refine' tkq 4 rfl ?_;try simp only [lay]
    refine' tk (i:=6) (v:=_) rfl (fun W hW=>hW.2) ?_
    try simp only [lay]
    refine call_on (i:=5) rfl (by kernel_rfl) (by rfl) (fun K hK=>?_)
    go_simp
    refine HNX.out.mono ?_
    rintro e w2 ⟨rfl,rfl⟩
    refine hK.out _ _ (⟨hc0,hl1⟩) (fun hHeld=>?_)
    clear hK K
    try simp only [lay]
    refine call_on (i:=7) rfl (by kernel_rfl) (by rfl) (fun K hK=>?_)
    go_simp
    refine (HPUb.out _ HBD.out).mono ?_
    rintro e w3 ⟨x3,rfl,hx3,hb3⟩
    obtain ⟨A3,c3,r3⟩:=hx3.shape
    subst r3
    have HB3:=hid (HBD.out.trans (hb3.mono HBD.out.size))
    refine hK.out _ _ (⟨(HV.out _ HB3.out).cells.1,HL1.out _ (((Below.refl _ _).drew).trans hb3)⟩) (fun hHeld=>?_)
    clear hK K
    try simp only [lay]
    refine' tkq 8 rfl ?_;try simp only [lay]
    refine' tkq 9 rfl ?_;try simp only [lay]
    refine' tkq 10 rfl ?_;try simp only [lay]
    refine' tkq 11 rfl ?_;try simp only [lay]
    refine' tkq 12 rfl ?_;try simp only [lay]
    refine wpAnyH_done (by kernel_rfl) ?_ _
    clear hHeld hc0 hl1 hb3
    have HKP:=hid (vkeep_any ⟨_,_,_,HV.out _ HB3.out⟩ HG.out HLT.out hx3 HO0.out HO1.out)
    clear hx3
    go_wp2_with fail
    refine HKP.out.mono ?_
    rintro e w4 ⟨rfl,h4,t4⟩
    go_wp2_with fail
    go_ret
    exact ⟨rfl,h4,(Turn.of HB3.out).trans t4⟩
end
end Go.Proofs.YtpdnnmabijmfbaaGreatDoor
namespace Go.Proofs.YtpdnnmabijmfbaaGreatDoor
set_option maxRecDepth 20000
open Go.RowKit
attribute [local go_sem ↓] exec_load_se exec_alloc_se exec_store_se exec_build_se
theorem results_se2 {fn:Func} {q s:Tmp} (h:fn.results=#[.cell q 40,.tmp s]) (tmps:Array Value) (w:World) (g2:Nat) (t2:TypeId) (ys:Array Value) (v:Value)
  (hq:tmps.getD q undef=.pointer (some ⟨g2,0,none⟩)) (hv:tmps.getD s undef=v) (h2:w.heap[g2]?=some (.cells ys t2 (0,0))) (hy:ys.size=35):
  (results fn tmps).run Tryz.prog w=.ok (.tuple #[.agg ys,v]) w:=by
 have hq':tmps[q]?.getD undef=.pointer (some ⟨g2,0,none⟩):=by simpa using hq
 have hv':tmps[s]?.getD undef=v:=by simpa using hv
 have r2:=run_loadVar_row (P:=Tryz.prog) w g2 t2 40 ys (0,0) _ h2 under_se rfl (by rw [size_se,hy])
 simp [results,h,hq',hv',asAddr,r2]
section
variable {w:World} {b c a:Nat} {V:VaM} {v0 v1 vt:Value}
theorem vLoad_no {v:Value} (h:NoVlt w v):Calls Tryz.prog 32 #[v] w fun e w'=>e=.returned (.tuple #[.agg (sec seZ),.int .i64 5])∧Below w.heap.size w w':=by
 have hb0:Below w.heap.size w (w.alloc (.cells (sec seZ) 40)):=(Below.refl _ _).alloc (Nat.le_refl _) _
 have HM:=hid (vfault_no (h.below hb0))
 have hr0:=heap_alloc_new w (.cells (sec seZ) 40)
 obtain ⟨Z,HZ⟩:∃ C:Array Value,Hid (sec seZ=C):=⟨_,hid rfl⟩
 have HZS:Hid (Z.size=35):=hid (by rw [← HZ.out];exact sec_size seZ_ok)
 have HZ1:Hid (Z.all (·.oneCell')=true):=hid (by rw [← HZ.out];exact sec_one _)
 have hal:allocSe w=.ok (.value (.pointer (some ⟨w.heap.size,0,none⟩))) (w.alloc (.cells Z 40)):=by rw [← HZ.out];exact allocSe_eq w
 have hbz:∀ W,buildSe W=.ok (.value (.agg Z)) W:=fun W=>by rw [← HZ.out];exact buildSe_eq W
 rw [HZ.out] at hb0 HM hr0 ⊢
 have hst:=storeSe_eq hr0 HZS.out HZS.out HZ1.out
 have HR0:=hid (setSe_same (C:=Z) hr0)
 have HB:=hid (setSe_below (C:=Z) hb0 (Nat.le_refl _))
 clear h HZ hr0 hb0
 go_enter Tryz.func32,Tryz.ntmps32
 go_upto_region 1 with (fail)
 clear hal
 generalize (w.alloc (.cells Z 40))=w0 at *
 go_wp2_with fail
 refine HM.out.mono ?_
 rintro e w1 ⟨rfl,rfl⟩
 go_wp2_with fail
 try simp only [Exit.inBlock,Exit.then]
 refine bodyPost_ret (results_se2 rfl _ _ _ _ _ _ rfl rfl HR0.out HZS.out) rfl ⟨rfl,HB.out⟩
set_option maxHeartbeats 6400000 in
theorem vLoad_any (h:Vlt w b c a V) (g:V.Good) (hK:Kst 1 w):
  Calls Tryz.prog 32 #[.pointer (some ⟨b,0,none⟩)] w fun e w'=>e=.returned (.tuple #[.agg (sec (loadS V)),.int .i64 (loadE V)])∧Below w.heap.size w w':=by
 obtain ⟨v0,v1,vt,h⟩:=h
 have hb0:Below w.heap.size w (w.alloc (.cells (sec seZ) 40)):=(Below.refl _ _).alloc (Nat.le_refl _) _
 have hr0:=heap_alloc_new w (.cells (sec seZ) 40)
 have HV:Hid (∀ W,Below w.heap.size w W→VltE W b c a V v0 v1 vt):=hid (fun W hb=>h.below hb)
 have hi:=g.i
 unfold nodeB at hi
 rw [decide_eq_true_eq] at hi
 have HIW:Hid ((Lit.int .i64 V.i).wf=true):=hid (by simp [Lit.wf,IntKind.min,IntKind.max,IntKind.signed,IntKind.bits];omega)
 obtain ⟨n0,HN0⟩:∃ x,Hid ((getB V.i V.s0).1=x):=⟨_,hid rfl⟩
 obtain ⟨G0,HG0⟩:∃ x,Hid (sec (getB V.i V.s0).2.1=x):=⟨_,hid rfl⟩
 obtain ⟨e0,HE0⟩:∃ x,Hid ((getB V.i V.s0).2.2=x):=⟨_,hid rfl⟩
 have HGS0:Hid (G0.size=35∧G0.all (·.oneCell')=true):=hid (by rw [← HG0.out];exact ⟨sec_size (getB_ok' _ _),sec_one _⟩)
 have HGT0:Hid (∀ W,Below w.heap.size w W→Calls Tryz.prog 68 #[.int .i64 V.i,v0] W fun e w'=>e=.returned (.tuple #[.int .i64 n0,.agg G0,.int .i64 e0])∧Below W.heap.size W w'):=hid (fun W hb=>by
  have:=seGet_ok V.i v0 V.s0 W HIW.out (h.y0.byt.below hb) (by have:=g.l0;omega) (hK.below hb)
  rw [HN0.out,HG0.out,HE0.out] at this
  exact this)
 obtain ⟨n1,HN1⟩:∃ x,Hid ((getB V.i V.s1).1=x):=⟨_,hid rfl⟩
 obtain ⟨G1,HG1⟩:∃ x,Hid (sec (getB V.i V.s1).2.1=x):=⟨_,hid rfl⟩
 obtain ⟨e1,HE1⟩:∃ x,Hid ((getB V.i V.s1).2.2=x):=⟨_,hid rfl⟩
 have HGS1:Hid (G1.size=35∧G1.all (·.oneCell')=true):=hid (by rw [← HG1.out];exact ⟨sec_size (getB_ok' _ _),sec_one _⟩)
 have HGT1:Hid (∀ W,Below w.heap.size w W→Calls Tryz.prog 68 #[.int .i64 V.i,v1] W fun e w'=>e=.returned (.tuple #[.int .i64 n1,.agg G1,.int .i64 e1])∧Below W.heap.size W w'):=hid (fun W hb=>by
  have:=seGet_ok V.i v1 V.s1 W HIW.out (h.y1.byt.below hb) (by have:=g.l1;omega) (hK.below hb)
  rw [HN1.out,HG1.out,HE1.out] at this
  exact this)
 obtain ⟨Z,HZ⟩:∃ C:Array Value,Hid (sec seZ=C):=⟨_,hid rfl⟩
 have HZS:Hid (Z.size=35):=hid (by rw [← HZ.out];exact sec_size seZ_ok)
 have HZ1:Hid (Z.all (·.oneCell')=true):=hid (by rw [← HZ.out];exact sec_one _)
 have HAL:Hid (∀ W,allocSe W=.ok (.value (.pointer (some ⟨W.heap.size,0,none⟩))) (W.alloc (.cells Z 40))):=hid (fun W=>by rw [← HZ.out];exact allocSe_eq W)
 have HBZ:Hid (∀ W,buildSe W=.ok (.value (.agg Z)) W):=hid (fun W=>by rw [← HZ.out];exact buildSe_eq W)
 obtain ⟨S,HS⟩:∃ C:Array Value,Hid (sec (loadS V)=C):=⟨_,hid rfl⟩
 obtain ⟨E,HE⟩:∃ C:Int,Hid (loadE V=C):=⟨_,hid rfl⟩
 have HA1:Hid (V.dead=true→S=Z∧E=6):=hid (fun hd=>by
  rw [← HS.out,← HE.out,← HZ.out]
  obtain ⟨q1,q2⟩:=load_dead hd
  rw [q1,q2]
  exact ⟨rfl,rfl⟩)
 have HA2:Hid (V.dead=false→V.n=0→S=Z∧E=0):=hid (fun hd hn=>by
  rw [← HS.out,← HE.out,← HZ.out]
  unfold loadS loadE
  have hd':¬ V.dead=true:=by rw [hd];decide
  rw [if_neg hd',if_neg hd',if_pos hn,if_pos hn]
  exact ⟨rfl,rfl⟩)
 have HA3:Hid (V.dead=false→¬ V.n=0→e0=0→n0=V.n→S=G0∧E=0):=hid (fun hd hn h1 h2=>by
  have hh:hitB V.i V.n V.s0=true:=by unfold hitB;rw [HE0.out,HN0.out,decide_eq_true h1,decide_eq_true h2];rfl
  rw [← HS.out,← HE.out,← HG0.out]
  unfold loadS loadE
  have hd':¬ V.dead=true:=by rw [hd];decide
  rw [if_neg hd',if_neg hd',if_neg hn,if_neg hn,if_pos hh,if_pos hh]
  exact ⟨rfl,rfl⟩)
 have HA4:Hid (V.dead=false→¬ V.n=0→¬ (e0=0∧n0=V.n)→e1=0→n1=V.n→S=G1∧E=0):=hid (fun hd hn h0 h1 h2=>by
  have hh:hitB V.i V.n V.s1=true:=by unfold hitB;rw [HE1.out,HN1.out,decide_eq_true h1,decide_eq_true h2];rfl
  have hg:¬ hitB V.i V.n V.s0=true:=by unfold hitB;rw [HE0.out,HN0.out];simpa using h0
  rw [← HS.out,← HE.out,← HG1.out]
  unfold loadS loadE
  have hd':¬ V.dead=true:=by rw [hd];decide
  rw [if_neg hd',if_neg hd',if_neg hn,if_neg hn,if_neg hg,if_neg hg,if_pos hh,if_pos hh]
  exact ⟨rfl,rfl⟩)
 have HA5:Hid (V.dead=false→¬ V.n=0→¬ (e0=0∧n0=V.n)→¬ (e1=0∧n1=V.n)→S=Z∧E=8):=hid (fun hd hn h0 h1=>by
  have hh:¬ hitB V.i V.n V.s1=true:=by unfold hitB;rw [HE1.out,HN1.out];simpa using h1
  have hg:¬ hitB V.i V.n V.s0=true:=by unfold hitB;rw [HE0.out,HN0.out];simpa using h0
  rw [← HS.out,← HE.out,← HZ.out]
  unfold loadS loadE
  have hd':¬ V.dead=true:=by rw [hd];decide
  rw [if_neg hd',if_neg hd',if_neg hn,if_neg hn,if_neg hg,if_neg hg,if_neg hh,if_neg hh]
  exact ⟨rfl,rfl⟩)
 rw [HZ.out] at hb0 hr0
 rw [HS.out,HE.out]
 have HF:Hid (∀ W,Below w.heap.size w W→Calls Tryz.prog 66 #[.pointer (some ⟨b,0,none⟩)] W fun e w'=>e=.returned (.int .i64 (if V.dead=true then 6 else 0))∧W=w'):=hid (fun W hb=>vfault_any (HV.out W hb))
 have HCT:Hid (∀ W,Below w.heap.size w W→Calls Tryz.prog 67 #[.pointer (some ⟨c,0,none⟩)] W fun e w'=>e=.returned (.int .i64 V.n)∧W=w'):=hid (fun W hb=>vcount_any (HV.out W hb) g)
 have HR0:Hid (∀ W,Below (w.heap.size + 1) (w.alloc (.cells Z 40)) W→W.heap[w.heap.size]?=some (.cells Z 40 (0,0))):=hid (fun W hb=>(hb.block _ (Nat.lt_succ_self _)).trans hr0)
 have HEND:Hid (∀ W C,Below (w.heap.size + 1) (w.alloc (.cells Z 40)) W→C.size=35→C.all (·.oneCell')=true→storeSe (.pointer (some ⟨w.heap.size,0,none⟩)) (.agg C) W=.ok .skip (setSe W w.heap.size C)∧(setSe W w.heap.size C).heap[w.heap.size]?=some (.cells C 40 (0,0))∧Below w.heap.size w (setSe W w.heap.size C)):=hid (fun W C hb h1 h2=>
  ⟨storeSe_eq (HR0.out W hb) HZS.out h1 h2,setSe_same (HR0.out W hb),setSe_below (hb0.trans (hb.mono (Nat.le_succ _))) (Nat.le_refl _)⟩)
 have HBW:Hid (∀ W,Below (w.heap.size + 1) (w.alloc (.cells Z 40)) W→Below w.heap.size w W):=hid (fun W hb=>hb0.trans (hb.mono (Nat.le_succ _)))
 have HB0:Hid (Below (w.heap.size + 1) (w.alloc (.cells Z 40)) (w.alloc (.cells Z 40))):=hid (Below.refl _ _)
 have HSZ0:Hid (w.heap.size + 1≤(w.alloc (.cells Z 40)).heap.size):=hid (by simp)
 have HYS:Hid ((∃ A d,v0=.slice A V.s0.length d)∧(∃ A d,v1=.slice A V.s1.length d)):=hid ⟨h.y0.shape,h.y1.shape⟩
 obtain ⟨dd,hdd⟩:∃ q:Bool,V.dead=q:=⟨_,rfl⟩
 rw [hdd] at HA1 HA2 HA3 HA4 HA5 HF
 have hal:=HAL.out w
 clear h g hK hi hb0 hr0 hdd HN0 HN1 HG0 HG1 HE0 HE1 HS HE HZ HIW HR0
 go_enter Tryz.func32,Tryz.ntmps32
 go_upto_region 1 with (fail)
 clear hal
 generalize (w.alloc (.cells Z 40))=w0 at *
 go_wp2_with fail
 refine (HF.out w0 (HBW.out _ HB0.out)).mono ?_
 rintro e w1 ⟨rfl,rfl⟩
 cases dd with
 | true=>
  obtain ⟨rfl,rfl⟩:=HA1.out rfl
  rw [if_pos rfl]
  have hbz:=HBZ.out
  obtain ⟨hst,hrw,hbw⟩:=HEND.out w0 _ HB0.out HZS.out HZ1.out
  have HRW:=hid hrw
  have HBB:=hid hbw
  clear hrw hbw
  go_wp2_with fail
  try simp only [Exit.inBlock,Exit.then]
  refine bodyPost_ret (results_se2 rfl _ _ _ _ _ _ rfl rfl HRW.out HZS.out) rfl ⟨rfl,HBB.out⟩
 | false=>
  have HA2a:=hid (HA2.out rfl)
  have HA3a:=hid (HA3.out rfl)
  have HA4a:=hid (HA4.out rfl)
  have HA5a:=hid (HA5.out rfl)
  clear HA1 HA2 HA3 HA4 HA5
  rw [if_neg (by decide)]
  obtain ⟨_,_,_,c3,_,_,_⟩:=(HV.out w0 (HBW.out _ HB0.out)).cells
  go_wp2_with fail
  refine (HCT.out w0 (HBW.out _ HB0.out)).mono ?_
  rintro e w1 ⟨rfl,rfl⟩
  clear c3
  by_cases hn:V.n=0
  ·obtain ⟨rfl,rfl⟩:=HA2a.out hn
   have hbz:=HBZ.out
   obtain ⟨hst,hrw,hbw⟩:=HEND.out w0 _ HB0.out HZS.out HZ1.out
   have HRW:=hid hrw
   have HBB:=hid hbw
   clear hrw hbw
   go_wp2_with fail
   try simp only [Exit.inBlock,Exit.then]
   refine bodyPost_ret (results_se2 rfl _ _ _ _ _ _ rfl rfl HRW.out HZS.out) rfl ⟨rfl,HBB.out⟩
  have HA3b:=hid (HA3a.out hn)
  have HA4b:=hid (HA4a.out hn)
  have HA5b:=hid (HA5a.out hn)
  clear HA2a HA3a HA4a HA5a
  obtain ⟨_,c1,c2,_,_,_,_⟩:=(HV.out w0 (HBW.out _ HB0.out)).cells
  obtain ⟨⟨A0,d0,rfl⟩,A1,d1,rfl⟩:=HYS.out
  generalize V.s0.length=L0 at *
  generalize V.s1.length=L1 at *
  go_wp2_with fail
  clear hn c1 c2
  generalize hnn:V.n=n at *
  clear hnn
  have qI:=fun W=>idx_two (.slice A0 L0 d0) (.slice A1 L1 d1) W
  refine wp_loop_rounds 3 ?_
  rw [rounds_succ]
  obtain ⟨c0,_,_,_,_,_,_⟩:=(HV.out w0 (HBW.out _ HB0.out)).cells
  go_wp2_with fail
  clear c0
  refine (HGT0.out w0 (HBW.out _ HB0.out)).mono ?_
  rintro e x0 ⟨rfl,hbx0⟩
  have hal:=HAL.out
  have hs0:=se_var x0 HZS.out HGS0.out.1 HGS0.out.2
  have HX0:=hid (HB0.out.trans (hbx0.mono (Nat.le_trans HSZ0.out HB0.out.size)))
  have HY0:=hid (HX0.out.alloc (Nat.le_trans HSZ0.out HX0.out.size) (.cells G0 40))
  have HR0:=hid (heap_alloc_new x0 (.cells G0 40))
  clear hbx0
  go_upto_region 11 with (fail)
  clear hal hs0
  generalize (x0.alloc (.cells G0 40))=y0 at *
  by_cases h1:e0=0
  ·by_cases h2:n0=n
   ·obtain ⟨rfl,rfl⟩:=HA3b.out  h1 h2
    have ld:=loadSe_row HR0.out HGS0.out.1
    obtain ⟨hst,hrw,hbw⟩:=HEND.out y0 _ HY0.out HGS0.out.1 HGS0.out.2
    have HRW:=hid hrw
    have HBB:=hid hbw
    clear hrw hbw
    go_wp2_with fail
    try simp only [Exit.inBlock,Exit.then]
    refine bodyPost_ret (results_se2 rfl _ _ _ _ _ _ rfl rfl HRW.out HGS0.out.1) rfl ⟨rfl,HBB.out⟩
   ·have HNO0:Hid (¬ (e0=0∧n0=n)):=hid (fun h=>h2 h.2)
    go_wp2_with fail
    rw [rounds_succ]
    obtain ⟨c0,_,_,_,_,_,_⟩:=(HV.out y0 (HBW.out _ HY0.out)).cells
    go_wp2_with fail
    clear c0
    refine (HGT1.out y0 (HBW.out _ HY0.out)).mono ?_
    rintro e x1 ⟨rfl,hbx1⟩
    have hal:=HAL.out
    have hs1:=se_var x1 HZS.out HGS1.out.1 HGS1.out.2
    have HX1:=hid (HY0.out.trans (hbx1.mono (Nat.le_trans HSZ0.out HY0.out.size)))
    have HY1:=hid (HX1.out.alloc (Nat.le_trans HSZ0.out HX1.out.size) (.cells G1 40))
    have HR1:=hid (heap_alloc_new x1 (.cells G1 40))
    clear hbx1
    go_upto_region 11 with (fail)
    clear hal hs1
    generalize (x1.alloc (.cells G1 40))=y1 at *
    by_cases h1:e1=0
    ·by_cases h2:n1=n
     ·obtain ⟨rfl,rfl⟩:=HA4b.out HNO0.out h1 h2
      have ld:=loadSe_row HR1.out HGS1.out.1
      obtain ⟨hst,hrw,hbw⟩:=HEND.out y1 _ HY1.out HGS1.out.1 HGS1.out.2
      have HRW:=hid hrw
      have HBB:=hid hbw
      clear hrw hbw
      go_wp2_with fail
      try simp only [Exit.inBlock,Exit.then]
      refine bodyPost_ret (results_se2 rfl _ _ _ _ _ _ rfl rfl HRW.out HGS1.out.1) rfl ⟨rfl,HBB.out⟩
     ·have HNO1:Hid (¬ (e1=0∧n1=n)):=hid (fun h=>h2 h.2)
      obtain ⟨rfl,rfl⟩:=HA5b.out HNO0.out HNO1.out
      have hbz:=HBZ.out
      obtain ⟨hst,hrw,hbw⟩:=HEND.out y1 _ HY1.out HZS.out HZ1.out
      have HRW:=hid hrw
      have HBB:=hid hbw
      clear hrw hbw
      go_wp2_with fail
      rw [rounds_succ]
      go_wp2_with fail
      try simp only [Exit.inBlock,Exit.then]
      refine bodyPost_ret (results_se2 rfl _ _ _ _ _ _ rfl rfl HRW.out HZS.out) rfl ⟨rfl,HBB.out⟩
    ·have HNO1:Hid (¬ (e1=0∧n1=n)):=hid (fun h=>h1 h.1)
     obtain ⟨rfl,rfl⟩:=HA5b.out HNO0.out HNO1.out
     have hbz:=HBZ.out
     obtain ⟨hst,hrw,hbw⟩:=HEND.out y1 _ HY1.out HZS.out HZ1.out
     have HRW:=hid hrw
     have HBB:=hid hbw
     clear hrw hbw
     go_wp2_with fail
     rw [rounds_succ]
     go_wp2_with fail
     try simp only [Exit.inBlock,Exit.then]
     refine bodyPost_ret (results_se2 rfl _ _ _ _ _ _ rfl rfl HRW.out HZS.out) rfl ⟨rfl,HBB.out⟩
  ·have HNO0:Hid (¬ (e0=0∧n0=n)):=hid (fun h=>h1 h.1)
   go_wp2_with fail
   rw [rounds_succ]
   obtain ⟨c0,_,_,_,_,_,_⟩:=(HV.out y0 (HBW.out _ HY0.out)).cells
   go_wp2_with fail
   clear c0
   refine (HGT1.out y0 (HBW.out _ HY0.out)).mono ?_
   rintro e x1 ⟨rfl,hbx1⟩
   have hal:=HAL.out
   have hs1:=se_var x1 HZS.out HGS1.out.1 HGS1.out.2
   have HX1:=hid (HY0.out.trans (hbx1.mono (Nat.le_trans HSZ0.out HY0.out.size)))
   have HY1:=hid (HX1.out.alloc (Nat.le_trans HSZ0.out HX1.out.size) (.cells G1 40))
   have HR1:=hid (heap_alloc_new x1 (.cells G1 40))
   clear hbx1
   go_upto_region 11 with (fail)
   clear hal hs1
   generalize (x1.alloc (.cells G1 40))=y1 at *
   by_cases h1:e1=0
   ·by_cases h2:n1=n
    ·obtain ⟨rfl,rfl⟩:=HA4b.out HNO0.out h1 h2
     have ld:=loadSe_row HR1.out HGS1.out.1
     obtain ⟨hst,hrw,hbw⟩:=HEND.out y1 _ HY1.out HGS1.out.1 HGS1.out.2
     have HRW:=hid hrw
     have HBB:=hid hbw
     clear hrw hbw
     go_wp2_with fail
     try simp only [Exit.inBlock,Exit.then]
     refine bodyPost_ret (results_se2 rfl _ _ _ _ _ _ rfl rfl HRW.out HGS1.out.1) rfl ⟨rfl,HBB.out⟩
    ·have HNO1:Hid (¬ (e1=0∧n1=n)):=hid (fun h=>h2 h.2)
     obtain ⟨rfl,rfl⟩:=HA5b.out HNO0.out HNO1.out
     have hbz:=HBZ.out
     obtain ⟨hst,hrw,hbw⟩:=HEND.out y1 _ HY1.out HZS.out HZ1.out
     have HRW:=hid hrw
     have HBB:=hid hbw
     clear hrw hbw
     go_wp2_with fail
     rw [rounds_succ]
     go_wp2_with fail
     try simp only [Exit.inBlock,Exit.then]
     refine bodyPost_ret (results_se2 rfl _ _ _ _ _ _ rfl rfl HRW.out HZS.out) rfl ⟨rfl,HBB.out⟩
   ·have HNO1:Hid (¬ (e1=0∧n1=n)):=hid (fun h=>h1 h.1)
    obtain ⟨rfl,rfl⟩:=HA5b.out HNO0.out HNO1.out
    have hbz:=HBZ.out
    obtain ⟨hst,hrw,hbw⟩:=HEND.out y1 _ HY1.out HZS.out HZ1.out
    have HRW:=hid hrw
    have HBB:=hid hbw
    clear hrw hbw
    go_wp2_with fail
    rw [rounds_succ]
    go_wp2_with fail
    try simp only [Exit.inBlock,Exit.then]
    refine bodyPost_ret (results_se2 rfl _ _ _ _ _ _ rfl rfl HRW.out HZS.out) rfl ⟨rfl,HBB.out⟩
end
end Go.Proofs.YtpdnnmabijmfbaaGreatDoor
