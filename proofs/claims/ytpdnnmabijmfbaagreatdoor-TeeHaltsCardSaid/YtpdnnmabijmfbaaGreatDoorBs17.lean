/-
  SeMay SeCodeMay SeTagged SePut SeRd SeAwake: what each of them says stands at its head.
-/
import Derived.Test.YtpdnnmabijmfbaaGreatDoorBs13
import Derived.Test.YtpdnnmabijmfbaaGreatDoorBs12
namespace Go.Proofs.YtpdnnmabijmfbaaGreatDoor
set_option maxRecDepth 20000
open Go.RowKit
attribute [local go_sem ↓] exec_load_se exec_build_se exec_eq_se
set_option maxHeartbeats 3200000 in
theorem refMay13_any (s:SeM) (w:World) (ho:s.Ok):
  Calls Tryz.prog 54 #[.agg (sec s)] w fun e w'=>e=.returned (.bool (mayS s))∧Below w.heap.size w w':=by
 have hb0:Below w.heap.size w (w.alloc (.cells (sec s) 40)):=(Below.refl _ _).alloc (Nat.le_refl _) _
 have hA:=BoxSe.new w s
 have heq:∀ W,eqSe (.agg (sec s)) (.agg (sec seZ)) W=.ok (.value (.bool (decide (s=seZ)))) W:=fun W=>eqSe_eq s seZ ho seZ_ok W
 have hbz:=buildSe_eq
 have hl0:=loadSe_eq hA ho
 obtain ⟨C,HC⟩:∃ C:Array Value,Hid (sec s=C):=⟨_,hid rfl⟩
 obtain ⟨Z,HZ⟩:∃ C:Array Value,Hid (sec seZ=C):=⟨_,hid rfl⟩
 obtain ⟨q,HQ⟩:∃ q:Bool,Hid (mayS s=q):=⟨_,hid rfl⟩
 obtain ⟨d,HD⟩:∃ q:Bool,Hid (decide (s=seZ)=q):=⟨_,hid rfl⟩
 rw [HC.out] at hb0 hA hl0 heq ⊢
 rw [HZ.out] at hbz heq
 rw [HD.out] at heq
 rw [HQ.out]
 go_enter Tryz.func54,Tryz.ntmps54
 go_upto_region 1 with (fail)
 generalize (w.alloc (.cells C 40))=w0 at *
 obtain ⟨k0,k1,k2⟩:=hA.cells
 have HM:Hid (q=if s.vi=0 then d else if s.vi < 0∨1099511627776 < s.vi∨s.ph < 1∨3 < s.ph∨s.pv < 0 then false else decide (s.pv < s.vi) || (decide (s.pv=s.vi) && decide (s.ph=3))):=hid (by rw [← HQ.out,← HD.out];rfl)
 clear hA HC HZ HQ HD ho
 obtain ⟨vi,ph,pv,pa⟩:=s
 simp only at k0 k1 k2 HM
 go_wp2_with fail
 all_goals
  go_ret
  refine ⟨?_,hb0⟩
  refine congrArg (fun b=>Ending.returned (Value.bool b)) ?_
  rw [HM.out]
 all_goals grind
end Go.Proofs.YtpdnnmabijmfbaaGreatDoor
namespace Go.Proofs.YtpdnnmabijmfbaaGreatDoor
set_option maxRecDepth 20000
open Go.RowKit
attribute [local go_sem ↓] exec_load_se exec_build_se exec_eq_se
def highS (s:SeM):Int:=if s.ph=3 then s.vi else s.vi - 1
def laterS (s:SeM):Bool:=if s.vi < 1∨1099511627776 < s.vi∨s.ph < 1∨3 < s.ph then false else decide (0≤s.pv) && decide (s.pv≤highS s)
theorem mayS_later (s:SeM):mayS s=(decide (s=seZ) || laterS s):=by
 by_cases h0:s=seZ
 ·subst h0
  decide
 ·unfold mayS laterS highS
  simp only [h0,decide_false,Bool.false_or]
  obtain ⟨vi,ph,pv,pa⟩:=s
  simp only
  by_cases h:vi=0
  ·subst h
   rw [if_pos rfl,if_pos (by omega)]
  ·rw [if_neg h]
   by_cases h1:vi < 1∨1099511627776 < vi∨ph < 1∨3 < ph
   ·rw [if_pos h1,if_pos (by omega)]
   ·rw [if_neg h1]
    by_cases h2:pv < 0
    ·rw [if_pos (by omega),decide_eq_false (show ¬ 0≤pv by omega)]
     rfl
    ·rw [if_neg (by omega),decide_eq_true (show 0≤pv by omega),Bool.true_and,Bool.eq_iff_iff]
     by_cases h3:ph=3
     ·rw [if_pos h3]
      simp only [Bool.or_eq_true,Bool.and_eq_true,decide_eq_true_eq]
      omega
     ·rw [if_neg h3]
      simp only [Bool.or_eq_true,Bool.and_eq_true,decide_eq_true_eq]
      omega
set_option maxHeartbeats 1600000 in
theorem seHigh_any (s:SeM) (w:World) (h1:1≤s.vi) (h2:s.vi≤1099511627776):
  Calls Tryz.prog 176 #[.agg (sec s)] w fun e w'=>e=.returned (.int .i64 (highS s))∧Below w.heap.size w w':=by
 have hb0:Below w.heap.size w (w.alloc (.cells (sec s) 40)):=(Below.refl _ _).alloc (Nat.le_refl _) _
 have hA:=BoxSe.new w s
 obtain ⟨C,HC⟩:∃ C:Array Value,Hid (sec s=C):=⟨_,hid rfl⟩
 obtain ⟨q,HQ⟩:∃ q:Int,Hid (highS s=q):=⟨_,hid rfl⟩
 rw [HC.out] at hb0 hA ⊢
 rw [HQ.out]
 go_enter Tryz.func176,Tryz.ntmps176
 go_upto_region 1 with (fail)
 generalize (w.alloc (.cells C 40))=w0 at *
 obtain ⟨k0,k1,k2⟩:=hA.cells
 clear hA HC
 obtain ⟨vi,ph,pv,pa⟩:=s
 simp only at k0 k1 k2 h1 h2
 have hw:IntKind.i64.wrap (vi - 1)=vi - 1:=by rw [IntKind.wrap_i64];omega
 have HH:=hid (show 1≤vi∧vi≤1099511627776 from ⟨h1,h2⟩)
 clear h1 h2
 by_cases h3:ph=3
 all_goals
  go_wp2_with fail
  go_ret
  refine ⟨?_,hb0⟩
  refine congrArg (fun b=>Ending.returned (Value.int IntKind.i64 b)) ?_
  rw [← HQ.out]
  unfold highS
  simp [h3]
set_option maxHeartbeats 3200000 in
theorem seLater_any (s:SeM) (w:World) (ho:s.Ok):
  Calls Tryz.prog 134 #[.agg (sec s)] w fun e w'=>e=.returned (.bool (laterS s))∧Below w.heap.size w w':=by
 have hb0:Below w.heap.size w (w.alloc (.cells (sec s) 40)):=(Below.refl _ _).alloc (Nat.le_refl _) _
 have hA:=BoxSe.new w s
 have HHI:Hid (1≤s.vi→s.vi≤1099511627776→∀ W,Calls Tryz.prog 176 #[.agg (sec s)] W fun e w'=>e=.returned (.int .i64 (highS s))∧Below W.heap.size W w'):=hid (fun h1 h2 W=>seHigh_any s W h1 h2)
 obtain ⟨C,HC⟩:∃ C:Array Value,Hid (sec s=C):=⟨_,hid rfl⟩
 obtain ⟨q,HQ⟩:∃ q:Bool,Hid (laterS s=q):=⟨_,hid rfl⟩
 obtain ⟨hi,HHA⟩:∃ q:Int,Hid (highS s=q):=⟨_,hid rfl⟩
 have HLD0:Hid (∀ W,BoxSe W w.heap.size s→loadSe (.pointer (some ⟨w.heap.size,0,none⟩)) W=.ok (.value (.agg C)) W):=hid (fun W h=>by
  have:=loadSe_eq h ho
  rw [HC.out] at this
  exact this)
 rw [HC.out] at hb0 hA HHI ⊢
 rw [HHA.out] at HHI
 rw [HQ.out]
 have HM:Hid (q=if s.vi < 1∨1099511627776 < s.vi∨s.ph < 1∨3 < s.ph then false else decide (0≤s.pv) && decide (s.pv≤hi)):=hid (by rw [← HQ.out,← HHA.out];rfl)
 go_enter Tryz.func134,Tryz.ntmps134
 go_upto_region 1 with (fail)
 generalize (w.alloc (.cells C 40))=w0 at *
 have HX:Hid (∀ W:World,Below w0.heap.size w0 W→W.cell? ⟨w.heap.size,2,none⟩=some (.int .i64 s.pv)∧loadSe (.pointer (some ⟨w.heap.size,0,none⟩)) W=.ok (.value (.agg C)) W):=hid (fun W h=>⟨(hA.keep h).cells.2.2,HLD0.out W (hA.keep h)⟩)
 obtain ⟨k0,k1,k2⟩:=hA.cells
 clear hA HC ho HQ HHA HLD0
 obtain ⟨vi,ph,pv,pa⟩:=s
 simp only at k0 k1 k2 HX HHI HM
 have hd1:∀ a:Int,(1099511627776 < a)=(1099511627776 < a):=fun _=>rfl
 clear hd1
 by_cases h1:vi < 1
 ·go_wp2_with fail
  go_ret
  exact ⟨by rw [HM.out,if_pos (.inl h1)];rfl,hb0⟩
 by_cases h2:1099511627776 < vi
 ·go_wp2_with fail
  go_ret
  exact ⟨by rw [HM.out,if_pos (.inr (.inl h2))];rfl,hb0⟩
 by_cases h3:ph < 1
 ·go_wp2_with fail
  go_ret
  exact ⟨by rw [HM.out,if_pos (.inr (.inr (.inl h3)))];rfl,hb0⟩
 by_cases h4:3 < ph
 ·go_wp2_with fail
  go_ret
  exact ⟨by rw [HM.out,if_pos (.inr (.inr (.inr h4)))];rfl,hb0⟩
 have HI:=hid (HHI.out (by omega) (by omega))
 have HM3:Hid (q=(decide (0≤pv) && decide (pv≤hi))):=hid (by rw [HM.out,if_neg (by omega)])
 clear HHI HM
 go_upto_region 3 with (fail)
 clear k0 k1 k2 h1 h2 h3 h4
 have hbd:Below w0.heap.size w0 w0.drew:=(Below.refl _ _).drew
 refine wp_region_held_drew (S:=fun W=>W.cell? ⟨w.heap.size,2,none⟩=some (.int .i64 pv)∧loadSe (.pointer (some ⟨w.heap.size,0,none⟩)) W=.ok (.value (.agg C)) W) (by kernel_rfl) (HX.out _ hbd) (fun hHeld=>?_)
 obtain ⟨d0,HD0⟩:∃ d:Bool,Hid (decide (0≤pv)=d):=⟨_,hid rfl⟩
 obtain ⟨d1,HD1⟩:∃ d:Bool,Hid (decide (pv≤hi)=d):=⟨_,hid rfl⟩
 refine' tkq 0 rfl ?_;try simp only [lay]
 refine' tk (i:=1) (v:=_) rfl ?_ ?_
 rotate_left
 ·(intro W hW;(try dsimp only at hW);have hW1:=hW.1;clear hW;go_simp;first | done | with_reducible rfl)
 try simp only [lay]
 refine' tkq 2 rfl ?_;try simp only [lay]
 rw [HD0.out]
 refine' tkq 3 rfl ?_;try simp only [lay]
 cases d0 with
 | false=>
  refine tf (i:=4) rfl ?_
  try simp only [lay]
  refine tf (i:=5) rfl ?_
  try simp only [lay]
  refine tf (i:=6) rfl ?_
  try simp only [lay]
  refine tf (i:=7) rfl ?_
  try simp only [lay]
  refine tf (i:=8) rfl ?_
  try simp only [lay]
  refine' tkq 9 rfl ?_;try simp only [lay]
  refine' tkq 10 rfl ?_;try simp only [lay]
  refine wpAnyH_done (by kernel_rfl) ?_ _
  go_wp2_with fail
  go_ret
  exact ⟨by rw [HM3.out,HD0.out];rfl,hb0.trans (hbd.mono hb0.size)⟩
 | true=>
  refine' tkq 4 rfl ?_;try simp only [lay]
  refine' tk (i:=5) (v:=_) rfl ?_ ?_
  rotate_left
  ·(intro W hW;(try dsimp only at hW);have hW1:=hW.1;clear hW;go_simp;first | done | with_reducible rfl)
  try simp only [lay]
  refine' tk (i:=6) (v:=_) rfl (fun W hW=>hW.2) ?_
  try simp only [lay]
  refine call_on (i:=7) rfl (by kernel_rfl) (by rfl) (fun K hK=>?_)
  go_simp
  refine (HI.out _).mono ?_
  rintro e w2 ⟨rfl,hb2'⟩
  have hb2:=hbd.trans (hb2'.mono hbd.size)
  refine hK.out _ _ (HX.out _ hb2) (fun hHeld=>?_)
  clear hK K
  try simp only [lay]
  refine' tkq 8 rfl ?_;try simp only [lay]
  rw [HD1.out]
  refine' tkq 9 rfl ?_;try simp only [lay]
  refine' tkq 10 rfl ?_;try simp only [lay]
  refine wpAnyH_done (by kernel_rfl) ?_ _
  go_wp2_with fail
  go_ret
  exact ⟨by rw [HM3.out,HD0.out,HD1.out];cases d1 <;> rfl,hb0.trans (hb2.mono hb0.size)⟩
set_option maxHeartbeats 3200000 in
theorem seCheck_ok:SeCheckOk:=by
 intro s w ho
 have hb0:Below w.heap.size w (w.alloc (.cells (sec s) 40)):=(Below.refl _ _).alloc (Nat.le_refl _) _
 have hA:=BoxSe.new w s
 have l0:=loadSe_eq hA ho
 have HLA:Hid (∀ W,Calls Tryz.prog 134 #[.agg (sec s)] W fun e w'=>e=.returned (.bool (laterS s))∧Below W.heap.size W w'):=hid (fun W=>seLater_any s W ho)
 have heq:∀ W,eqSe (.agg (sec s)) (.agg (sec seZ)) W=.ok (.value (.bool (decide (s=seZ)))) W:=fun W=>eqSe_eq s seZ ho seZ_ok W
 have hbz:=buildSe_eq
 have hml:=mayS_later s
 obtain ⟨C,HC⟩:∃ C:Array Value,Hid (sec s=C):=⟨_,hid rfl⟩
 obtain ⟨Z,HZ⟩:∃ C:Array Value,Hid (sec seZ=C):=⟨_,hid rfl⟩
 obtain ⟨d,HD⟩:∃ q:Bool,Hid (decide (s=seZ)=q):=⟨_,hid rfl⟩
 obtain ⟨la,HL⟩:∃ q:Bool,Hid (laterS s=q):=⟨_,hid rfl⟩
 obtain ⟨q,HQ⟩:∃ q:Int,Hid ((if mayS s=true then (0:Int) else 1)=q):=⟨_,hid rfl⟩
 rw [HD.out,HL.out] at hml
 have HML:=hid hml
 rw [HC.out] at hb0 hA l0 heq HLA ⊢
 rw [HZ.out] at hbz heq
 rw [HD.out] at heq
 rw [HL.out] at HLA
 rw [HQ.out]
 go_enter Tryz.func86,Tryz.ntmps86
 go_upto_region 1 with (fail)
 generalize (w.alloc (.cells C 40))=w0 at *
 clear hA HC HZ HD HL ho hml
 cases d with
 | true=>
  go_wp2_with fail
  go_ret
  exact ⟨by rw [← HQ.out,HML.out];rfl,hb0⟩
 | false=>
  go_wp2_with fail
  refine (HLA.out w0).mono ?_
  rintro e w1 ⟨rfl,hb1⟩
  clear l0 heq hbz
  cases la with
  | true=>
   go_wp2_with fail
   go_ret
   exact ⟨by rw [← HQ.out,HML.out];rfl,hb0.trans (hb1.mono hb0.size)⟩
  | false=>
   go_wp2_with fail
   go_ret
   exact ⟨by rw [← HQ.out,HML.out];rfl,hb0.trans (hb1.mono hb0.size)⟩
set_option maxHeartbeats 3200000 in
theorem seLess_ok:SeLessOk:=by
 intro a b w _ _
 have hb0:Below w.heap.size w ((w.alloc (.cells (sec a) 40)).alloc (.cells (sec b) 40)):=((Below.refl _ _).alloc (Nat.le_refl _) _).alloc (by simp) _
 have hA:BoxSe ((w.alloc (.cells (sec a) 40)).alloc (.cells (sec b) 40)) w.heap.size a:=heap1 w _ _
 have hB:BoxSe ((w.alloc (.cells (sec a) 40)).alloc (.cells (sec b) 40)) (w.heap.size + 1) b:=heap2 w _ _
 obtain ⟨C,HC⟩:∃ C:Array Value,Hid (sec a=C):=⟨_,hid rfl⟩
 obtain ⟨D,HD⟩:∃ C:Array Value,Hid (sec b=C):=⟨_,hid rfl⟩
 obtain ⟨q,HQ⟩:∃ q:Bool,Hid (lessS a b=q):=⟨_,hid rfl⟩
 rw [HC.out,HD.out] at hb0 hA hB ⊢
 rw [HQ.out]
 go_enter Tryz.func144,Tryz.ntmps144
 go_upto_region 1 with (fail)
 generalize ((w.alloc (.cells C 40)).alloc (.cells D 40))=w0 at *
 obtain ⟨k0,k1,k2⟩:=hA.cells
 obtain ⟨j0,j1,j2⟩:=hB.cells
 clear hA hB HC HD
 obtain ⟨vi,ph,pv,pa⟩:=a
 obtain ⟨vi2,ph2,pv2,pa2⟩:=b
 simp only at k0 k1 k2 j0 j1 j2
 go_wp2_with fail
 all_goals
  go_ret
  refine ⟨?_,hb0⟩
  refine congrArg (fun b=>Ending.returned (Value.bool b)) ?_
  rw [← HQ.out]
  unfold lessS
  simp only
 all_goals grind
end Go.Proofs.YtpdnnmabijmfbaaGreatDoor
namespace Go.Proofs.YtpdnnmabijmfbaaGreatDoor
set_option maxRecDepth 20000
open Go.RowKit
attribute [local go_sem ↓] exec_load_hash
set_option maxHeartbeats 6400000 in
theorem refTagged13_any (n:Int) (s:SeM) (w:World) (ho:s.Ok) (hn:versB n=true) (hm:mayS s=true):
  Calls Tryz.prog 92 #[.int .i64 n,.agg (sec s)] w fun e w'=>∃ x,e=.returned x∧Own w.heap.size w' x (taggedS n s)∧Below w.heap.size w w':=by
 obtain ⟨h1,h2,h3,h4,h5,h6⟩:=mayS_iff hm
 unfold versB at hn
 rw [decide_eq_true_eq] at hn
 have hb0:Below w.heap.size w (w.alloc (.cells (sec s) 40)):=(Below.refl _ _).alloc (Nat.le_refl _) _
 have hA:=BoxSe.new w s
 obtain ⟨C,HC⟩:∃ C:Array Value,Hid (sec s=C):=⟨_,hid rfl⟩
 obtain ⟨O,HO⟩:∃ O:List UInt8,Hid (taggedS n s=O):=⟨_,hid rfl⟩
 rw [HC.out] at hb0 hA ⊢
 rw [HO.out]
 have HA:=hid hA
 have hlA:=hA.lt
 have hpl:s.pa.length=32:=ho
 have HPL:=hid hpl
 clear hA hpl ho HC hm
 obtain ⟨vi,ph,pv,pa⟩:=s
 simp only at h1 h2 h3 h4 h5 h6 HPL
 obtain ⟨z,rfl⟩:=nat_of (i:=n) (by omega)
 obtain ⟨v,rfl⟩:=nat_of (i:=vi) (by omega)
 obtain ⟨p,rfl⟩:=nat_of (i:=ph) (by omega)
 obtain ⟨q,rfl⟩:=nat_of (i:=pv) (by omega)
 have hp1:IntKind.u8.wrap (p:Int)=(p:Int):=by rw [IntKind.wrap_u8'];omega
 have hz1:IntKind.u64.wrap (z:Int)=(z:Int):=wrap_u64 _ (by omega) (by omega)
 have hv1:IntKind.u64.wrap (v:Int)=(v:Int):=wrap_u64 _ (by omega) (by omega)
 have hq1:IntKind.u64.wrap (q:Int)=(q:Int):=wrap_u64 _ (by omega) (by omega)
 have HNZ:=hid (fun w=>refnum_any (z:Int) w (by omega) (by omega))
 have HNV:=hid (fun w=>refnum_any (v:Int) w (by omega) (by omega))
 have HNQ:=hid (fun w=>refnum_any (q:Int) w (by omega) (by omega))
 rw [Int.toNat_natCast] at HNZ HNV HNQ
 have HLZ:=hid (dg_len10 (n:=z) (by omega))
 have HLV:=hid (dg_len10 (n:=v) (by omega))
 have HLQ:=hid (dg_len10 (n:=q) (by omega))
 have HDP:Hid (dg p=[UInt8.ofNat p]):=hid (dg_small (by omega))
 have HYP:=hid (fun w=>one_own w p (by omega))
 have HBP:=hid (fun w=>refBytes7_any pa w HPL.out)
 have HO2:Hid (O=dg z ++ (dg v ++ (dg p ++ (dg q ++ pa)))):=hid (by rw [← HO.out];unfold taggedS;simp only [Int.toNat_natCast])
 clear h1 h2 h3 h4 h5 h6 hn HO
 go_enter Tryz.func92,Tryz.ntmps92
 go_upto_region 1 with (fail)
 generalize (w.alloc (.cells C 40))=w0 at *
 have HX:Hid (∀ W:World,Below w0.heap.size w0 W→W.cell? ⟨w.heap.size,0,none⟩=some (.int .i64 (v:Int))∧W.cell? ⟨w.heap.size,1,none⟩=some (.int .i64 (p:Int))∧W.cell? ⟨w.heap.size,2,none⟩=some (.int .i64 (q:Int))∧W.rangeAt w.heap.size 3 (bcells pa)):=hid (fun W h=>by
  have hW:=HA.out.below h hlA
  exact ⟨hW.cells.1,hW.cells.2.1,hW.cells.2.2,hW.hash⟩)
 have hbd:Below w0.heap.size w0 w0.drew:=(Below.refl _ _).drew
 have hs0:=hb0.size
 have HB0:=hid hb0
 clear HA hlA hb0
 refine wp_region_held_drew (S:=fun W=>W.cell? ⟨w.heap.size,0,none⟩=some (.int .i64 (v:Int))∧W.cell? ⟨w.heap.size,1,none⟩=some (.int .i64 (p:Int))∧W.cell? ⟨w.heap.size,2,none⟩=some (.int .i64 (q:Int))∧W.rangeAt w.heap.size 3 (bcells pa)) (by kernel_rfl) (HX.out _ hbd) (fun hHeld=>?_)
 refine' tkq 0 rfl ?_;try simp only [lay]
 refine' tkq 1 rfl ?_;try simp only [lay]
 refine' tkq 3 rfl ?_;try simp only [lay]
 refine' tk (i:=4) (v:=_) rfl ?_ ?_
 rotate_left
 ·(intro W hW;(try dsimp only at hW);have hW1:=hW.1;have hW2:=hW.2.1;have hW3:=hW.2.2.1;clear hW;go_simp;first | done | with_reducible rfl)
 try simp only [lay]
 refine' tkq 5 rfl ?_;try simp only [lay]
 refine call_on (i:=2) rfl (by kernel_rfl) (by rfl) (fun K hK=>?_)
 go_simp
 refine (HNZ.out w0.drew).mono ?_
 rintro e w1 ⟨v1,rfl,ho1,hb1'⟩
 have hb1:=hbd.trans hb1'
 refine hK.out _ _ (HX.out _ hb1) (fun hHeld=>?_)
 clear hK K
 try simp only [lay]
 refine call_on (i:=6) rfl (by kernel_rfl) (by rfl) (fun K hK=>?_)
 go_simp
 refine (HNV.out w1).mono ?_
 rintro e w2 ⟨v2,rfl,ho2,hb2'⟩
 have hb2:=hb1.trans (hb2'.mono hb1.size)
 refine hK.out _ _ (HX.out _ hb2) (fun hHeld=>?_)
 clear hK K
 try simp only [lay]
 refine call_on (i:=7) rfl (by kernel_rfl) (by rfl) (fun K hK=>?_)
 refine wp_append_byt (.tmp 8) (.tmp 12) rfl rfl rfl (ho1.below hb2') ho2.byt (by have:=HLZ.out;have:=HLV.out;omega) hb2.size ?_
 intro v3 w3 ho3 hg3 _
 have hb3:=hb2.grown hg3 hb2.size (fun q hq=>(World.ownsRow.lt (ho1.below hb2') q hq).1)
 refine hK.out _ _ (HX.out _ hb3) (fun hHeld=>?_)
 clear hK K
 try simp only [lay]
 refine' tkq 8 rfl ?_;try simp only [lay]
 refine wpAnyH_done (by kernel_rfl) ?_ _
 obtain ⟨T1,HT1⟩:∃ O:List UInt8,Hid (dg z ++ dg v=O):=⟨_,hid rfl⟩
 have HT1L:Hid (T1.length≤20):=hid (by rw [← HT1.out,List.length_append];have:=HLZ.out;have:=HLV.out;omega)
 have ho4:Own w0.heap.size w3 v3 T1:=by rw [← HT1.out];exact ho3
 clear hHeld ho1 ho2 ho3 hb1 hb1' hb2 hb2' hg3 hz1 hv1 hbd
 go_upto_region 2 with (fail)
 have hbd:Below w0.heap.size w0 w3.drew:=hb3.drew
 have hbA:Below w0.heap.size w0 (w3.drew.alloc (.cells #[.int .u8 (p:Int)] 5)):=hbd.alloc hbd.size _
 have hy5:Byt (w3.drew.alloc (.cells #[.int .u8 (p:Int)] 5)) (.slice (some ⟨w3.heap.size,0,none⟩) 1 1) [UInt8.ofNat p]:=(HYP.out w3.drew).byt
 have ho5:Own w0.heap.size (w3.drew.alloc (.cells #[.int .u8 (p:Int)] 5)) v3 T1:=(ho4.drewN 1).alloc _
 refine wp_region_held_drew (S:=fun W=>W.cell? ⟨w.heap.size,0,none⟩=some (.int .i64 (v:Int))∧W.cell? ⟨w.heap.size,1,none⟩=some (.int .i64 (p:Int))∧W.cell? ⟨w.heap.size,2,none⟩=some (.int .i64 (q:Int))∧W.rangeAt w.heap.size 3 (bcells pa)) (by kernel_rfl) (HX.out _ hbd) (fun hHeld=>?_)
 refine' tkq 0 rfl ?_;try simp only [lay]
 refine' tkq 1 rfl ?_;try simp only [lay]
 refine' tk (i:=2) (v:=_) rfl ?_ ?_
 rotate_left
 ·(intro W hW;(try dsimp only at hW);have hW1:=hW.1;have hW2:=hW.2.1;have hW3:=hW.2.2.1;clear hW;go_simp;first | done | with_reducible rfl)
 try simp only [lay]
 refine' tkq 3 rfl ?_;try simp only [lay]
 refine' tkq 6 rfl ?_;try simp only [lay]
 refine' tk (i:=7) (v:=_) rfl ?_ ?_
 rotate_left
 ·(intro W hW;(try dsimp only at hW);have hW1:=hW.1;have hW2:=hW.2.1;have hW3:=hW.2.2.1;clear hW;go_simp;first | done | with_reducible rfl)
 try simp only [lay]
 refine' tkq 8 rfl ?_;try simp only [lay]
 refine call_on (i:=4) rfl (by kernel_rfl) (by rfl) (fun K hK=>?_)
 go_simp
 refine hK.out _ _ (HX.out _ hbA) (fun hHeld=>?_)
 clear hK K
 try simp only [lay]
 refine call_on (i:=5) rfl (by kernel_rfl) (by rfl) (fun K hK=>?_)
 refine wp_append_byt (.tmp 14) (.tmp 18) rfl rfl rfl ho5 hy5 (by have:=HT1L.out;simp only [List.length_cons,List.length_nil];omega) hbA.size ?_
 intro v6 w6 ho6 hg6 _
 have hb6:=hbA.grown hg6 hbA.size (fun q hq=>(World.ownsRow.lt ho5 q hq).1)
 refine hK.out _ _ (HX.out _ hb6) (fun hHeld=>?_)
 clear hK K
 try simp only [lay]
 refine call_on (i:=9) rfl (by kernel_rfl) (by rfl) (fun K hK=>?_)
 go_simp
 refine (HNQ.out w6).mono ?_
 rintro e w7 ⟨v7,rfl,ho7,hb7'⟩
 have hb7:=hb6.trans (hb7'.mono hb6.size)
 refine hK.out _ _ (HX.out _ hb7) (fun hHeld=>?_)
 clear hK K
 try simp only [lay]
 refine call_on (i:=10) rfl (by kernel_rfl) (by rfl) (fun K hK=>?_)
 refine wp_append_byt (.tmp 19) (.tmp 23) rfl rfl rfl (ho6.below hb7') ho7.byt (by rw [List.length_append];have:=HT1L.out;have:=HLQ.out;simp only [List.length_cons,List.length_nil];omega) hb7.size ?_
 intro v8 w8 ho8 hg8 _
 have hb8:=hb7.grown hg8 hb7.size (fun q hq=>(World.ownsRow.lt (ho6.below hb7') q hq).1)
 refine hK.out _ _ (HX.out _ hb8) (fun hHeld=>?_)
 clear hK K
 try simp only [lay]
 refine' tkq 11 rfl ?_;try simp only [lay]
 refine wpAnyH_done (by kernel_rfl) ?_ _
 obtain ⟨T2,HT2⟩:∃ O:List UInt8,Hid (T1 ++ [UInt8.ofNat p] ++ dg q=O):=⟨_,hid rfl⟩
 have HT2L:Hid (T2.length≤40):=hid (by rw [← HT2.out];simp only [List.length_append,List.length_cons,List.length_nil];have:=HT1L.out;have:=HLQ.out;omega)
 have ho9:Own w0.heap.size w8 v8 T2:=by rw [← HT2.out];exact ho8
 have l9:=loadH_mid (HX.out _ hb8).2.2.2 HPL.out
 clear hHeld ho4 ho5 hy5 ho6 ho7 ho8 hb3 hbd hbA hb6 hb7 hb7' hg6 hg8
 go_wp2_with fail
 refine (HBP.out w8).mono ?_
 rintro e w10 ⟨v10,rfl,ho10,hb10'⟩
 have hb10:=hb8.trans (hb10'.mono hb8.size)
 have ho11:=ho9.below hb10'
 have hl11:T2.length + pa.length≤140737488355328:=by have:=HT2L.out;have:=HPL.out;omega
 clear l9
 go_wp2_with (at_builtin;refine wpList_append_byt rfl (.tmp 25) (.tmp 28) rfl rfl rfl ho11 ho10.byt hl11 hb10.size ?_;intro v12 w12 ho12 hg12 hv12;have hb12:=hb10.grown hg12 hb10.size (fun q hq=>(World.ownsRow.lt ho11 q hq).1);clear hg12 hv12)
 go_ret
 refine ⟨v12,rfl,?_,HB0.out.trans (hb12.mono hs0)⟩
 have e:T2 ++ pa=O:=by
  rw [HO2.out,← HT2.out,← HT1.out,HDP.out]
  simp only [List.append_assoc]
 rw [e] at ho12
 exact ho12.more hs0
end Go.Proofs.YtpdnnmabijmfbaaGreatDoor
namespace Go.Proofs.YtpdnnmabijmfbaaGreatDoor
set_option maxRecDepth 20000
open Go.RowKit
attribute [local go_sem ↓] exec_load_se
theorem blobS_len {i n:Int} {s:SeM} (ho:s.Ok) (hn:versB n=true) (hm:mayS s=true):(blobS i n s).length≤104:=by
 have:=taggedS_len ho hn hm
 unfold blobS
 rw [List.length_append,tagS_len]
 omega
set_option maxHeartbeats 3200000 in
theorem refPut13_any (i n:Int) (s:SeM) (w:World) (ho:s.Ok) (hn:versB n=true) (hm:mayS s=true) (hK:Kst 0 w):
  Calls Tryz.prog 55 #[.int .i64 i,.int .i64 n,.agg (sec s)] w fun e w'=>∃ x,e=.returned x∧Own w.heap.size w' x (blobS i n s)∧Below w.heap.size w w':=by
 have hlen:=taggedS_len ho hn hm
 have HTD:Hid (∀ W,Calls Tryz.prog 92 #[.int .i64 n,.agg (sec s)] W fun e w'=>∃ x,e=.returned x∧Own W.heap.size w' x (taggedS n s)∧Below W.heap.size W w'):=hid (fun W=>refTagged13_any n s W ho hn hm)
 have HKB:=hid (fun W (h:Below w.heap.size w W)=>(show Kst 0 W from hK.below h))
 have HTG:Hid (∀ v W,Below w.heap.size w W→Byt W v (taggedS n s)→Calls Tryz.prog 94 #[.int .i64 i,.int .u8 3,v] W fun e w'=>e=.returned (.agg (hcells (tagS i n s)))∧Below W.heap.size W w'):=hid (fun v W h hv=>by
  have:=refTag_any i 3 v (taggedS n s) W hv (by omega) (HKB.out W h)
  rw [fcells_hl] at this
  exact this)
 have HBB:=hid (fun w=>refBytes7_any (tagS i n s) w (tagS_len i n s))
 have hb0:Below w.heap.size w (w.alloc (.cells (sec s) 40)):=(Below.refl _ _).alloc (Nat.le_refl _) _
 have hA:=BoxSe.new w s
 have l0:=loadSe_eq hA ho
 obtain ⟨C,HC⟩:∃ C:Array Value,Hid (sec s=C):=⟨_,hid rfl⟩
 obtain ⟨M,HM⟩:∃ O:List UInt8,Hid (taggedS n s=O):=⟨_,hid rfl⟩
 obtain ⟨T,HT⟩:∃ C:List UInt8,Hid (tagS i n s=C):=⟨_,hid rfl⟩
 obtain ⟨TC,HTC⟩:∃ C:Array Value,Hid (hcells T=C):=⟨_,hid rfl⟩
 have HTL:Hid (T.length=32):=hid (by rw [← HT.out];exact tagS_len i n s)
 have HML:Hid (M.length≤72):=hid (by rw [← HM.out];exact hlen)
 unfold blobS
 rw [HC.out,HM.out] at HTD
 rw [HM.out,HT.out,HTC.out] at HTG
 rw [HT.out,HTC.out] at HBB
 rw [HC.out] at hb0 hA l0 ⊢
 rw [HM.out,HT.out]
 clear hlen ho hn hm hK hA
 go_enter Tryz.func55,Tryz.ntmps55
 go_upto_region 1 with (fail)
 generalize (w.alloc (.cells C 40))=w0 at *
 have HB0:=hid hb0
 clear hb0
 go_wp2_with fail
 refine (HTD.out w0).mono ?_
 rintro e w1 ⟨v1,rfl,ho1,hb1⟩
 have HB1:=hid (HB0.out.trans (hb1.mono HB0.out.size))
 have hy1:=ho1.byt
 clear l0
 go_wp2_with fail
 refine (HTG.out v1 w1 HB1.out hy1).mono ?_
 rintro e w2 ⟨rfl,hb2'⟩
 have hb2:=hb1.trans (hb2'.mono hb1.size)
 go_wp2_with fail
 refine (HBB.out w2).mono ?_
 rintro e w3 ⟨v3,rfl,ho3,hb3'⟩
 have hb3:=hb2.trans (hb3'.mono hb2.size)
 have ho4:=(ho1.below hb2').below hb3'
 have hl4:M.length + T.length≤140737488355328:=by have:=HML.out;have:=HTL.out;omega
 clear hy1 ho1 hb2'
 go_wp2_with (at_builtin;refine wpList_append_byt rfl (.tmp 11) (.tmp 15) rfl rfl rfl ho4 ho3.byt hl4 hb3.size ?_;intro v5 w5 ho5 hg5 hv5;have hb5:=hb3.grown hg5 hb3.size (fun q hq=>(World.ownsRow.lt ho4 q hq).1);clear hg5 hv5)
 go_ret
 exact ⟨v5,rfl,ho5.more HB0.out.size,HB0.out.trans (hb5.mono HB0.out.size)⟩
end Go.Proofs.YtpdnnmabijmfbaaGreatDoor
namespace Go.Proofs.YtpdnnmabijmfbaaGreatDoor
set_option maxRecDepth 20000
open Go.RowKit
theorem sel_pa (a:SeM):sel a=[.int .i64 a.vi,.int .i64 a.ph,.int .i64 a.pv] ++ (bcells a.pa ++ []):=by rw [List.append_nil];rfl
section
variable {ops:Array Oper} {rest:List Oper} {o:Oper} {ac:Act} {w:World} {Q:Exit→Act→World→Prop}
theorem wpList_store_seh (hgd:o.guard=none) (x y:Operand) (ho:o.op=.store 38 x y)
  {g:Nat} {a:SeM} {h:List UInt8} (hx:ac.eval x=.pointer (some ⟨g,3,none⟩)) (hy:ac.eval y=.agg (hcells h)) (hg:BoxSe w g a) (hok:a.Ok) (hl:h.length=32)
  (hh:∀ w',w.grownBy w' (some g)→BoxSe w' g { a with pa:=h }→w'.heap.size=w.heap.size→wpList Tryz.prog ops Q rest (ac.put o.dst undef) w'):wpList Tryz.prog ops Q (o :: rest) ac w:=by
 unfold BoxSe sec at hg
 rw [sel_pa] at hg
 have hpl:a.pa.length=32:=hok
 refine wpList_store_midh hgd x y ho hx hy hg rfl (by rw [bcells_length,hpl]) hl (fun w' h1 h2 h3=>hh w' h1 ?_ h3)
 unfold BoxSe sec
 rw [sel_pa]
 exact h2
end
theorem setSe_self {w:World} {g:Nat} {t:TypeId} {C:Array Value} {fr:Nat × Nat} (hg:w.heap[g]?=some (.cells C t fr)):setSe w g C=w:=by
 have e:∀ f:Obj→Obj,f (.cells C t fr)=.cells C t fr→w.heap.modify g f=w.heap:=by
  intro f hf
  apply Array.ext_getElem?
  intro k
  rw [Array.getElem?_modify]
  by_cases h:g=k
  ·subst h
   rw [if_pos rfl,hg]
   simp [hf]
  ·rw [if_neg h]
 unfold setSe World.setRow
 rw [e _ rfl]
theorem wp_store_se {op:Oper} {ac:Act} {w:World} {K:Act→World→Prop} {Q:Exit→Act→World→Prop} (x y:Operand) (ho:op.op=.store 40 x y) {g:Nat} {t:TypeId} {C0 C:Array Value}
  (hx:ac.eval x=.pointer (some ⟨g,0,none⟩)) (hy:ac.eval y=.agg C) (hg:w.heap[g]?=some (.cells C0 t (0,0))) (hi:C.size=35) (hs:C0.size=35) (h1:C.all (·.oneCell')=true)
  (hh:∀ w',w.grownBy w' (some g)→w'.heap[g]?=some (.cells C t (0,0))→w'.heap.size=w.heap.size→K (ac.put op.dst undef) w'):op.wp Tryz.prog ac w K Q:=by
 refine wp_store_mid _ x y ho g 0 C hx hy (fun j hj=>⟨?_,free_blk hg _⟩) (by rw [size_se,hi]) h1 ?_
 ·rw [cell_blk hg,Nat.zero_add,Array.getElem?_eq_getElem (by omega)]
  rfl
 ·refine hh _ (grown_setCells g _ _ _) ?_ (setCells_size g _ _ _)
  have:=setCells_row C.toList 0 w C0 hg
  have e:=putAt_mid C.toList [] C0.toList [] (by rw [Array.length_toList,Array.length_toList,hi,hs])
  simp only [List.nil_append,List.append_nil,List.length_nil,Array.toArray_toList] at e
  rw [e] at this
  exact this
theorem results_se {fn:Func} {p q s:Tmp} (h:fn.results=#[.tmp p,.cell q 40,.tmp s]) (tmps:Array Value) (w:World) (g2:Nat) (t2:TypeId) (ys:Array Value) (u v:Value)
  (hu:tmps.getD p undef=u) (hq:tmps.getD q undef=.pointer (some ⟨g2,0,none⟩)) (hv:tmps.getD s undef=v) (h2:w.heap[g2]?=some (.cells ys t2 (0,0))) (hy:ys.size=35):
  (results fn tmps).run Tryz.prog w=.ok (.tuple #[u,.agg ys,v]) w:=by
 have hu':tmps[p]?.getD undef=u:=by simpa using hu
 have hq':tmps[q]?.getD undef=.pointer (some ⟨g2,0,none⟩):=by simpa using hq
 have hv':tmps[s]?.getD undef=v:=by simpa using hv
 have r2:=run_loadVar_row (P:=Tryz.prog) w g2 t2 40 ys (0,0) _ h2 under_se rfl (by rw [size_se,hy])
 simp [results,h,hu',hq',hv',asAddr,r2]
theorem getB_text {i:Int} {l:List UInt8} (h:textB l=false):getB i l=(0,seZ,2):=by
 unfold getB
 rw [h,if_neg (by decide)]
theorem getB_tag {i:Int} {l:List UInt8} (h:textB l=true) (h2:¬ (nodeB i=true∧(rawB l).2.2.1=tagS i (rawB l).1 (rawB l).2.1)):getB i l=(0,seZ,7):=by
 unfold getB
 rw [if_pos h,if_neg h2]
theorem getB_yes {i:Int} {l:List UInt8} (h:textB l=true) (h2:nodeB i=true∧(rawB l).2.2.1=tagS i (rawB l).1 (rawB l).2.1):getB i l=((rawB l).1,(rawB l).2.1,0):=by
 unfold getB
 rw [if_pos h,if_pos h2]
theorem textB_raw {l:List UInt8} {n:Int} {s:SeM} {t:List UInt8} {p:Nat} {r:Bool} (h:rawB l=(n,s,t,p,r)):textB l=((r && decide (p=l.length)) && (decide (1≤n) && mayS s)):=by
 unfold textB
 rw [h]
structure GsSt (w0 w:World) (x0 x1 x2:Value) (a:SeM):Prop where
 bel:Below w0.heap.size w0 w
 b0:BoxSe w w0.heap.size seZ
 b1:BoxSe w (w0.heap.size + 1) a
 b2:w.heap[w0.heap.size + 1 + 1]?=some (.cells #[x0,x1,x2] 129 (0,0))
section
variable {w0 w w':World} {x0 x1 x2:Value} {a:SeM}
theorem GsSt.lt (h:GsSt w0 w x0 x1 x2 a):w0.heap.size + 1 + 1 < w.heap.size:=lt_of_block h.b2
theorem GsSt.below (h:GsSt w0 w x0 x1 x2 a) (hb:Below w.heap.size w w'):GsSt w0 w' x0 x1 x2 a:=by
 have hlt:=h.lt
 exact ⟨h.bel.trans (hb.mono h.bel.size),(hb.block _ (by omega)).trans h.b0,(hb.block _ (by omega)).trans h.b1,(hb.block _ (by omega)).trans h.b2⟩
theorem GsSt.new (w:World) (x0 x1 x2:Value):
  GsSt w (((w.alloc (.cells (sec seZ) 40)).alloc (.cells (sec seZ) 40)).alloc (.cells #[x0,x1,x2] 129)) x0 x1 x2 seZ:=by
 refine ⟨(((Below.refl _ _).alloc (Nat.le_refl _) _).alloc (by simp) _).alloc (by simp <;> omega) _,?_,?_,?_⟩
 ·exact (Below.heap_alloc _ _ _ (by simp <;> omega)).trans (heap1 w _ _)
 ·exact (Below.heap_alloc _ _ _ (by simp)).trans (heap2 w _ _)
 ·have:=heap2 (w.alloc (.cells (sec seZ) 40)) (.cells (sec seZ) 40) (.cells #[x0,x1,x2] 129)
  rwa [show (w.alloc (.cells (sec seZ) 40)).heap.size=w.heap.size + 1 from by simp] at this
theorem GsSt.put (h:GsSt w0 w x0 x1 x2 a) (y0 y1 y2:Value):
  GsSt w0 (((w.setCell ⟨w0.heap.size + 1 + 1,0,none⟩ y0).setCell ⟨w0.heap.size + 1 + 1,1,none⟩ y1).setCell ⟨w0.heap.size + 1 + 1,2,none⟩ y2) y0 y1 y2 a:=by
 refine ⟨((h.bel.setCell (by simp only;omega) _).setCell (by simp only;omega) _).setCell (by simp only;omega) _,?_,?_,?_⟩
 ·exact blk_other (blk_other (blk_other h.b0 y0 (by omega)) y1 (by omega)) y2 (by omega)
 ·exact blk_other (blk_other (blk_other h.b1 y0 (by omega)) y1 (by omega)) y2 (by omega)
 ·exact set_blk (set_blk (set_blk h.b2 0 y0) 1 y1) 2 y2
theorem GsSt.cell (h:GsSt w0 w x0 x1 x2 a) {b:SeM} {v:Value} (i:Nat) (e:(sec a).setIfInBounds i v=sec b):GsSt w0 (w.setCell ⟨w0.heap.size + 1,i,none⟩ v) x0 x1 x2 b:=by
 refine ⟨h.bel.setCell (by simp only;omega) _,blk_other h.b0 _ (by omega),?_,blk_other h.b2 _ (by omega)⟩
 have:=set_blk h.b1 i v
 rw [e] at this
 exact this
theorem GsSt.se (h:GsSt w0 w x0 x1 x2 a) {b:SeM} (hg:w.grownBy w' (some (w0.heap.size + 1))) (hb:BoxSe w' (w0.heap.size + 1) b):GsSt w0 w' x0 x1 x2 b:=by
 have hlt:=h.lt
 refine ⟨h.bel.grown hg h.bel.size (fun k hk=>by injection hk with hk;omega),?_,hb,?_⟩
 ·exact (hg.block _ (by omega) (fun e=>by injection e with e;omega)).trans h.b0
 ·exact (hg.block _ (by omega) (fun e=>by injection e with e;omega)).trans h.b2
theorem GsSt.cells (h:GsSt w0 w x0 x1 x2 a):
  (w.cell? ⟨w0.heap.size + 1 + 1,0,none⟩=some x0∧w.cell? ⟨w0.heap.size + 1 + 1,1,none⟩=some x1∧w.cell? ⟨w0.heap.size + 1 + 1,2,none⟩=some x2)∧
  (w.cell? ⟨w0.heap.size + 1,0,none⟩=some (.int .i64 a.vi)∧w.cell? ⟨w0.heap.size + 1,1,none⟩=some (.int .i64 a.ph)∧w.cell? ⟨w0.heap.size + 1,2,none⟩=some (.int .i64 a.pv))∧
  (∀ i,w.frozen? ⟨w0.heap.size + 1,i,none⟩=false)∧(∀ i,w.frozen? ⟨w0.heap.size + 1 + 1,i,none⟩=false):=
 ⟨⟨cell_blk h.b2 0,cell_blk h.b2 1,cell_blk h.b2 2⟩,h.b1.cells,h.b1.free,free_blk h.b2⟩
end
theorem rdHash_plS {l:List UInt8} {p:Nat} {r:Bool} (hp:p≤l.length):(rdHash l p r).2.1≤l.length:=by
 unfold rdHash
 split
 ·exact hp
 ·split
  ·assumption
  ·exact hp
end Go.Proofs.YtpdnnmabijmfbaaGreatDoor
namespace Go.Proofs.YtpdnnmabijmfbaaGreatDoor
set_option maxRecDepth 20000
open Go.RowKit
theorem setSe_alloc (w:World) (T:TypeId) (C0 C:Array Value):setSe (w.alloc (.cells C0 T)) w.heap.size C=w.alloc (.cells C T):=by
 have hm:∀ (a:Array Obj) (x:Obj) (f:Obj→Obj),(a.push x).modify a.size f=a.push (f x):=by
  intro a x f
  apply Array.ext_getElem?
  intro k
  rw [Array.getElem?_modify]
  by_cases h:a.size=k
  ·subst h
   simp
  ·rw [if_neg h,Array.getElem?_push,Array.getElem?_push]
   rw [if_neg (fun e=>h e.symm),if_neg (fun e=>h e.symm)]
 unfold setSe World.setRow World.alloc
 simp only [hm]
theorem se_var (w:World) {Z S:Array Value} (hZ:Z.size=35) (hS:S.size=35) (h1:S.all (·.oneCell')=true):
  storeSe (.pointer (some ⟨w.heap.size,0,none⟩)) (.agg S) (w.alloc (.cells Z 40))=.ok .skip (w.alloc (.cells S 40)):=by
 rw [storeSe_eq (heap_alloc_new w _) hZ hS h1,setSe_alloc]
attribute [local go_sem ↓] exec_alloc_se exec_store_se exec_build_se
end Go.Proofs.YtpdnnmabijmfbaaGreatDoor
