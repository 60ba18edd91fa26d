/-
  AtMay AtTagged TxCodePut EltAt AtTwo: what each of them says stands at its head.
-/
import Derived.Test.YtpdnnmabijmfbaaGreatDoorBs7
import Derived.Test.YtpdnnmabijmfbaaGreatDoorBs8
namespace Go.Proofs.YtpdnnmabijmfbaaGreatDoor
set_option maxRecDepth 20000
open Go.RowKit
attribute [local go_sem ↓] exec_load_hash
set_option maxHeartbeats 3200000 in
theorem refMay8_any (a:AtM) (w:World) (ho:a.Ok):
  Calls Tryz.prog 63 #[.agg (atc a)] w fun e w'=>e=.returned (.bool (mayA a))∧Below w.heap.size w w':=by
 have hb0:Below w.heap.size w (w.alloc (.cells (atc a) 54)):=(Below.refl _ _).alloc (Nat.le_refl _) _
 have hA:=BoxA.new w a
 obtain ⟨C,HC⟩:∃ C:Array Value,Hid (atc a=C):=⟨_,hid rfl⟩
 obtain ⟨q,HQ⟩:∃ q:Bool,Hid (mayA a=q):=⟨_,hid rfl⟩
 rw [HC.out] at hb0 hA ⊢
 rw [HQ.out]
 go_enter Tryz.func63,Tryz.ntmps63
 go_upto_region 1 with (fail)
 generalize (w.alloc (.cells C 54))=w0 at *
 obtain ⟨k0,k1,k2,k3⟩:=hA.cells
 have k5:=hA.pv ho
 clear hA HC ho
 obtain ⟨bo,ki,vi,ph,ha,pv,pa,tg⟩:=a
 simp only at k0 k1 k2 k3 k5
 go_wp2_with fail
 all_goals
  go_ret
  refine ⟨?_,hb0⟩
  refine congrArg (fun b=>Ending.returned (Value.bool b)) ?_
  rw [← HQ.out]
  unfold mayA
  simp only
 all_goals grind
end Go.Proofs.YtpdnnmabijmfbaaGreatDoor
namespace Go.Proofs.YtpdnnmabijmfbaaGreatDoor
set_option maxRecDepth 20000
open Go.RowKit
attribute [local go_sem ↓] exec_load_hash
theorem one_own (w:World) (n:Nat) (h:n < 256):Own w.heap.size (w.alloc (.cells #[.int .u8 (n:Int)] 5)) (.slice (some ⟨w.heap.size,0,none⟩) 1 1) [UInt8.ofNat n]:=
 own_of_blk (l:=[UInt8.ofNat n]) (by
  have e:(n:Int)=((UInt8.ofNat n).toNat:Int):=by rw [UInt8.toNat_ofNat'];omega
  rw [e]
  exact heap_alloc_new w _) (Nat.le_refl _) rfl (by unfold maxLen;omega)
theorem refBytes7_arr (h:List UInt8) (w:World) (h32:h.length=32):
  Calls Tryz.prog 93 #[.agg (bcells h).toArray] w fun e w'=>∃ x,e=.returned x∧Own w.heap.size w' x h∧Below w.heap.size w w':=refBytes7_any h w h32
theorem own_past {B:Nat} {w5 wa w7 w8:World} {v5 v7:Value} {P l:List UInt8} (h5:Own B w5 v5 P) (ha:w5.heap.size≤wa.heap.size) (h7:Own wa.heap.size w7 v7 l) (hg:w7.grownBy w8 v5.ownBlock):Byt w8 v7 l:=
 (h7.keep fun b hlt e=>hg.block b hlt (fun e'=>by
  have h1:=(World.ownsRow.lt h7 b e).1
  have h2:=(World.ownsRow.lt h5 b e'.symm).2
  omega)).byt
set_option maxHeartbeats 6400000 in
theorem refTagged_of (a:AtM) (w:World) (ho:a.Ok) (hm:1≤a.ki∧a.ki≤3∧a.ph=a.ki∧1≤a.vi∧a.vi≤1099511627776∧0≤a.pv∧a.pv≤a.vi):
  Calls Tryz.prog 101 #[.agg (atc a)] w fun e w'=>∃ x,e=.returned x∧Own w.heap.size w' x (taggedA a)∧Below w.heap.size w w':=by
 obtain ⟨h3,h4,h5,h6,h7,h8,h9⟩:=hm
 have hb0:Below w.heap.size w (w.alloc (.cells (atc a) 54)):=(Below.refl _ _).alloc (Nat.le_refl _) _
 have hA:=BoxA.new w a
 obtain ⟨C,HC⟩:∃ C:Array Value,Hid (atc a=C):=⟨_,hid rfl⟩
 obtain ⟨O,HO⟩:∃ O:List UInt8,Hid (taggedA a=O):=⟨_,hid rfl⟩
 rw [HC.out] at hb0 hA ⊢
 rw [HO.out]
 have HOK:=hid ho
 have HA:=hid hA
 have hlA:=hA.lt
 clear hA ho HC
 obtain ⟨bo,ki,vi,ph,ha,pv,pa,tg⟩:=a
 simp only at h3 h4 h5 h6 h7 h8 h9
 obtain ⟨k,rfl⟩:=nat_of (i:=ki) (by omega)
 obtain ⟨v,rfl⟩:=nat_of (i:=vi) (by omega)
 obtain ⟨p,rfl⟩:=nat_of (i:=ph) (by omega)
 obtain ⟨q,rfl⟩:=nat_of (i:=pv) (by omega)
 have hk1:IntKind.u8.wrap (k:Int)=(k:Int):=by rw [IntKind.wrap_u8'];omega
 have hp1:IntKind.u8.wrap (p:Int)=(p:Int):=by rw [IntKind.wrap_u8'];omega
 have hv1:IntKind.u64.wrap (v:Int)=(v:Int):=wrap_u64 _ (by omega) (by omega)
 have hq1:IntKind.u64.wrap (q:Int)=(q:Int):=wrap_u64 _ (by omega) (by omega)
 have HNV:=hid (fun w=>refnum_any (v:Int) w (by omega) (by omega))
 have HNQ:=hid (fun w=>refnum_any (q:Int) w (by omega) (by omega))
 have HLV:=hid (dg_len10 (n:=v) (by omega))
 have HLQ:=hid (dg_len10 (n:=q) (by omega))
 have HDK:Hid (dg k=[UInt8.ofNat k]):=hid (dg_small (by omega))
 have HDP:Hid (dg p=[UInt8.ofNat p]):=hid (dg_small (by omega))
 have HYK:=hid (fun w=>one_own w k (by omega))
 have HYP:=hid (fun w=>one_own w p (by omega))
 have HBH:=hid (fun w=>refBytes7_arr ha w HOK.out.ha)
 have HBP:=hid (fun w=>refBytes7_any pa w HOK.out.pa)
 clear h3 h4 h5 h6 h7 h8 h9
 go_enter Tryz.func101,Tryz.ntmps101
 go_upto_region 1 with (fail)
 generalize (w.alloc (.cells C 54))=w0 at *
 have HX:Hid (∀ W:World,Below w0.heap.size w0 W→W.cell? ⟨w.heap.size,1,none⟩=some (.int .i64 (k:Int))∧W.cell? ⟨w.heap.size,2,none⟩=some (.int .i64 (v:Int))∧W.cell? ⟨w.heap.size,3,none⟩=some (.int .i64 (p:Int))∧W.cell? ⟨w.heap.size,36,none⟩=some (.int .i64 (q:Int))∧W.rangeAt w.heap.size 4 (bcells ha)∧W.rangeAt w.heap.size 37 (bcells pa)):=hid (fun W h=>by
  have hW:=HA.out.below h hlA
  exact ⟨hW.cells.2.1,hW.cells.2.2.1,hW.cells.2.2.2,hW.pv HOK.out,hW.hash,hW.phash HOK.out⟩)
 have hbd:Below w0.heap.size w0 w0.drew:=(Below.refl _ _).drew
 have hs0:=hb0.size
 have hbA:Below w0.heap.size w0 (w0.alloc (.cells #[.int .u8 (k:Int)] 5)).drew:=((Below.refl _ _).alloc (Nat.le_refl _) _).drew
 have hoA:Own w0.heap.size (w0.alloc (.cells #[.int .u8 (k:Int)] 5)).drew (.slice (some ⟨w0.heap.size,0,none⟩) 1 1) [UInt8.ofNat k]:=HYK.out w0
 have HA1:=hid hbA
 have HA2:=hid hoA
 clear hbA hoA
 clear HA hlA
 go_region_held3 (fun W=>W.cell? ⟨w.heap.size,1,none⟩=some (.int .i64 (k:Int))∧W.cell? ⟨w.heap.size,2,none⟩=some (.int .i64 (v:Int)))
  (first
   | (refine ⟨(HX.out _ hbd).1,(HX.out _ hbd).2.1⟩)
   | (refine ⟨(HX.out _ hb5).1,(HX.out _ hb5).2.1⟩)
   | (refine ⟨(HX.out _ hb4).1,(HX.out _ hb4).2.1⟩)
   | (refine ⟨(HX.out _ HA1.out).1,(HX.out _ HA1.out).2.1⟩)
   | (refine ⟨(HX.out _ (hb4.alloc hb4.size _)).1,(HX.out _ (hb4.alloc hb4.size _)).2.1⟩)
   | fail)
  (first
   | (refine step_append_byt (by rfl) (.tmp 7) (.tmp 11) (by rfl) (by rfl) (by rfl) (HA2.out.below hb4') ho4.byt (by have:=HLV.out;simp only [List.length_cons,List.length_nil,Int.toNat_natCast];omega) hb4.size ?_;intro v5 w5 ho5 hg5 _;have hb5:=hb4.grown hg5 hb4.size (fun q hq=>(World.ownsRow.lt (HA2.out.below hb4') q hq).1);clear hg5)
   | (refine step_append_byt (by rfl) (.tmp 7) (.tmp 11) (by rfl) (by rfl) (by rfl) ((HYK.out w4).more hb4.size) (ho4.byt.alloc _) (by have:=HLV.out;simp only [List.length_cons,List.length_nil,Int.toNat_natCast];omega) (Nat.le_trans hb4.size (al_le _ _)) ?_;intro v5 w5 ho5 hg5 _;have hb5:=(hb4.alloc hb4.size _).grown hg5 (Nat.le_trans hb4.size (al_le _ _)) (fun q hq=>(World.ownsRow.lt ((HYK.out w4).more hb4.size) q hq).1);clear hg5)
   | (go_at_call 139;(with_reducible refine (HNV.out (w0.alloc (.cells #[.int .u8 (k:Int)] 5)).drew).mono ?_);rintro e w4 ⟨v4,rfl,ho4,hb4'⟩;have hb4:=HA1.out.trans (hb4'.mono HA1.out.size))
   | (go_at_call 139;(with_reducible refine (HNV.out w0.drew).mono ?_);rintro e w4 ⟨v4,rfl,ho4,hb4'⟩;have hb4:=hbd.trans hb4')
   | fail)
 all_goals
  rw [Int.toNat_natCast] at ho4 ho5
  have ho5':Own w0.heap.size w5 v5 ([UInt8.ofNat k] ++ dg v):=ho5
  clear ho4 ho5 hb4 hb4'
  obtain ⟨P,HP⟩:∃ P:List UInt8,Hid ([UInt8.ofNat k] ++ dg v=P):=⟨_,hid rfl⟩
  have HPL:Hid (P.length≤11):=hid (by rw [← HP.out,List.length_append];have:=HLV.out;simp only [List.length_cons,List.length_nil];omega)
  rw [HP.out] at ho5'
  have hbd5:Below w0.heap.size w0 w5.drew:=hb5.drew
  have hz5:=hb5.size
  have hbB:Below w5.heap.size w5 (w5.alloc (.cells #[.int .u8 (p:Int)] 5)).drew:=((Below.refl _ _).alloc (Nat.le_refl _) _).drew
  have hyB:Byt (w5.alloc (.cells #[.int .u8 (p:Int)] 5)).drew (.slice (some ⟨w5.heap.size,0,none⟩) 1 1) [UInt8.ofNat p]:=(HYP.out w5).byt
  have HB1:=hid hbB
  have HB2:=hid hyB
  have HB3:=hid (hb5.trans (hbB.mono hb5.size))
  have hd5:Below w5.heap.size w5 w5.drew:=(Below.refl _ _).drew
  have hu:=under_hash
  have hsz:(Tryz.prog.info? 38).map (·.size)=some (bcells ha).length:=by rw [size_hash,bcells_length,HOK.out.ha]
  clear hbB hyB
  go_upto_region 2 with (fail)
  go_region_held3 (fun W=>W.cell? ⟨w.heap.size,3,none⟩=some (.int .i64 (p:Int))∧W.rangeAt w.heap.size 4 (bcells ha))
   (first
    | (refine ⟨(HX.out _ hbd5).2.2.1,(HX.out _ hbd5).2.2.2.2.1⟩)
    | (refine ⟨(HX.out _ hb8).2.2.1,(HX.out _ hb8).2.2.2.2.1⟩)
    | (refine ⟨(HX.out _ hb7).2.2.1,(HX.out _ hb7).2.2.2.2.1⟩)
    | (refine ⟨(HX.out _ hb6).2.2.1,(HX.out _ hb6).2.2.2.2.1⟩)
    | (refine ⟨(HX.out _ HB3.out).2.2.1,(HX.out _ HB3.out).2.2.2.2.1⟩)
    | (refine ⟨(HX.out _ (hb7.alloc hb7.size _)).2.2.1,(HX.out _ (hb7.alloc hb7.size _)).2.2.2.2.1⟩)
    | fail)
   (first
    | (refine step_append_byt (by rfl) (.tmp 18) (.tmp 21) (by rfl) (by rfl) (by rfl) (ho6.below hb7') ho7.byt (by rw [List.length_append];have:=HPL.out;have:=HOK.out.ha;simp only [List.length_cons,List.length_nil] at *;omega) hb7.size ?_;intro v8 w8 ho8 hg8 _;have hb8:=hb7.grown hg8 hb7.size (fun q hq=>(World.ownsRow.lt (ho6.below hb7') q hq).1);clear hg8)
    | (refine step_append_byt (by rfl) (.tmp 18) (.tmp 21) (by rfl) (by rfl) (by rfl) ho6 hy7 (by rw [List.length_append];have:=HPL.out;have:=HOK.out.ha;simp only [List.length_cons,List.length_nil] at *;omega) hb6.size ?_;intro v8 w8 ho8 hg8 _;have hb8:=hb6.grown hg8 hb6.size (fun q hq=>(World.ownsRow.lt ho6 q hq).1);clear hg8)
    | (refine step_append_byt (by rfl) (.tmp 13) (.tmp 17) (by rfl) (by rfl) (by rfl) (ho5'.below HB1.out) HB2.out (by have:=HPL.out;simp only [List.length_cons,List.length_nil];omega) HB3.out.size ?_;intro v6 w6 ho6 hg6 _;have hb6:=HB3.out.grown hg6 HB3.out.size (fun q hq=>(World.ownsRow.lt (ho5'.below HB1.out) q hq).1);clear hg6)
    | (refine step_append_byt (by rfl) (.tmp 13) (.tmp 17) (by rfl) (by rfl) (by rfl) ((ho5'.below HB1.out).below hb7') (HB2.out.below hb7') (by have:=HPL.out;simp only [List.length_cons,List.length_nil];omega) hb7.size ?_;intro v6 w6 ho6 hg6 _;have hb6:=hb7.grown hg6 hb7.size (fun q hq=>(World.ownsRow.lt ((ho5'.below HB1.out).below hb7') q hq).1);have hy7:=own_past ho5' HB1.out.size ho7 hg6;clear hg6)
    | (refine step_append_byt (by rfl) (.tmp 13) (.tmp 17) (by rfl) (by rfl) (by rfl) (((ho5'.below hd5).below hb7').alloc _) (HYP.out w7).byt (by have:=HPL.out;simp only [List.length_cons,List.length_nil];omega) (Nat.le_trans hb7.size (al_le _ _)) ?_;intro v6 w6 ho6 hg6 _;have hb6:=(hb7.alloc hb7.size _).grown hg6 (Nat.le_trans hb7.size (al_le _ _)) (fun q hq=>(World.ownsRow.lt (((ho5'.below hd5).below hb7').alloc _) q hq).1);have hy7:=own_past ho5' hd5.size (ho7.alloc _) hg6;clear hg6)
    | (go_at_call 93;(with_reducible refine (HBH.out w6).mono ?_);rintro e w7 ⟨v7,rfl,ho7,hb7'⟩;have hb7:=hb6.trans (hb7'.mono hb6.size))
    | (go_at_call 93;(with_reducible refine (HBH.out (w5.alloc (.cells #[.int .u8 (p:Int)] 5)).drew).mono ?_);rintro e w7 ⟨v7,rfl,ho7,hb7'⟩;have hb7:=HB3.out.trans (hb7'.mono HB3.out.size))
    | (go_at_call 93;(with_reducible refine (HBH.out w5.drew).mono ?_);rintro e w7 ⟨v7,rfl,ho7,hb7'⟩;have hb7:=hbd5.trans (hb7'.mono hbd5.size))
    | fail)
 all_goals
  have ho8':Own w0.heap.size w8 v8 (P ++ [UInt8.ofNat p] ++ ha):=ho8
  obtain ⟨M,HM⟩:∃ M:List UInt8,Hid (P ++ [UInt8.ofNat p] ++ ha=M):=⟨_,hid rfl⟩
  have HML:Hid (M.length≤44):=hid (by rw [← HM.out,List.length_append,List.length_append];have:=HPL.out;have:=HOK.out.ha;simp only [List.length_cons,List.length_nil] at *;omega)
  rw [HM.out] at ho8'
  have k8:=(HX.out _ hb8).2.2.2.1
  clear ho5' ho6 ho7 ho8 hb6 hb7 hb7' hbd5 hz5 hd5 hu hsz HB1 HB2 HB3 hbd
  (try clear hy7)
  go_wp2_with fail
  refine (HNQ.out w8).mono ?_
  rintro e w9 ⟨v9,rfl,ho9,hb9'⟩
  rw [Int.toNat_natCast] at ho9
  have hb9:=hb8.trans (hb9'.mono hb8.size)
  have ho89:=ho8'.below hb9'
  have hl9:M.length + (dg q).length≤140737488355328:=by have:=HML.out;have:=HLQ.out;omega
  clear k8
  go_wp2_with (at_builtin;refine wpList_append_byt rfl (.tmp 23) (.tmp 27) rfl rfl rfl ho89 ho9.byt hl9 hb9.size ?_;intro v10 w10 ho10 hg10 hv10;have hb10:=hb9.grown hg10 hb9.size (fun q hq=>(World.ownsRow.lt ho89 q hq).1);have l10:=loadH_mid (HX.out _ hb10).2.2.2.2.2 HOK.out.pa;clear hg10 hv10)
  refine (HBP.out w10).mono ?_
  rintro e w11 ⟨v11,rfl,ho11,hb11'⟩
  have hb11:=hb10.trans (hb11'.mono hb10.size)
  have ho1011:=ho10.below hb11'
  have hl11:(M ++ dg q).length + pa.length≤140737488355328:=by rw [List.length_append];have:=HML.out;have:=HLQ.out;have:=HOK.out.pa;simp only at this;omega
  clear l10
  go_wp2_with (at_builtin;refine wpList_append_byt rfl (.tmp 29) (.tmp 32) rfl rfl rfl ho1011 ho11.byt hl11 hb11.size ?_;intro v12 w12 ho12 hg12 hv12;have hb12:=hb11.grown hg12 hb11.size (fun q hq=>(World.ownsRow.lt ho1011 q hq).1);clear hg12 hv12)
  go_ret
  refine ⟨v12,rfl,?_,hb0.trans (hb12.mono hs0)⟩
  have e:M ++ dg q ++ pa=O:=by
   rw [← HO.out,← HM.out,← HP.out]
   unfold taggedA
   simp only [Int.toNat_natCast,HDK.out,HDP.out,List.append_assoc]
  rw [e] at ho12
  exact ho12.more hs0
theorem refTagged_any (a:AtM) (w:World) (ho:a.Ok) (hm:mayA a=true):
  Calls Tryz.prog 101 #[.agg (atc a)] w fun e w'=>∃ x,e=.returned x∧Own w.heap.size w' x (taggedA a)∧Below w.heap.size w w':=by
 obtain ⟨_,_,h3,h4,h5,h6,h7,h8,h9⟩:=mayA_iff hm
 exact refTagged_of a w ho ⟨h3,h4,h5,h6,h7,h8,h9⟩
end Go.Proofs.YtpdnnmabijmfbaaGreatDoor
namespace Go.Proofs.YtpdnnmabijmfbaaGreatDoor
set_option maxRecDepth 20000
open Go.RowKit
attribute [local go_sem ↓] exec_load_tx
theorem mayT_parts (t:TxM):mayT t=((decide (1≤t.fr) && decide (t.fr≤40)) && decide (1≤t.no) && decide (t.no≤1099511627776) && kindT t):=by
 unfold mayT kindT
 grind
set_option maxHeartbeats 3200000 in
theorem txCheck_any (t:TxM) (w:World) (hk:t.key.length≤1000000) (hv:t.val.length≤1000000):
    Calls Tryz.prog 211 #[txv t] w fun e w'=>e=.returned (.int .i64 (if mayT t=true then 0 else 1))∧Below w.heap.size w w':=by
  have HOF:=hid (fun w=>ofKind_any t w hk hv)
  clear hk hv
  obtain ⟨m,HM⟩:∃ m:Bool,Hid (mayT t=m):=⟨_,hid rfl⟩
  have HMP:=hid (mayT_parts t)
  rw [HM.out] at *
  obtain ⟨ko,HKO⟩:∃ b:Bool,Hid (kindT t=b):=⟨_,hid rfl⟩
  have hr0:=heap_alloc_new w (.cells #[.int .i64 t.fr,.int .i64 t.no,.int .i64 t.ki,.int .i64 t.to,.int .i64 t.am,.string (sb t.key),.string (sb t.val)] 170)
  have hb0:Below w.heap.size w (w.alloc (.cells #[.int .i64 t.fr,.int .i64 t.no,.int .i64 t.ki,.int .i64 t.to,.int .i64 t.am,.string (sb t.key),.string (sb t.val)] 170)):=(Below.refl _ _).alloc (Nat.le_refl _) _
  have hld:=fun W h=>loadTx_eq (w:=W) (b:=w.heap.size) (C:=#[.int .i64 t.fr,.int .i64 t.no,.int .i64 t.ki,.int .i64 t.to,.int .i64 t.am,.string (sb t.key),.string (sb t.val)]) (T:=170) h rfl
  have l0:=hld _ hr0
  clear hld
  have HB0:=hid hb0
  have HC:Hid (_∧_):=hid ⟨cell_blk hr0 0,cell_blk hr0 1⟩
  clear hb0 hr0
  unfold txv
  go_enter Tryz.func211,Tryz.ntmps211
  go_upto_region 1 with (fail)
  generalize (w.alloc (.cells #[.int .i64 t.fr,.int .i64 t.no,.int .i64 t.ki,.int .i64 t.to,.int .i64 t.am,.string (sb t.key),.string (sb t.val)] 170))=w0 at *
  obtain ⟨c0,c1⟩:=HC.out
  go_wp2_with fail
  refine (account_any t.fr w0).mono ?_
  rintro e w1 ⟨rfl,rfl⟩
  obtain ⟨ao,HAO⟩:∃ b:Bool,Hid ((decide (1≤t.fr) && decide (t.fr≤40))=b):=⟨_,hid rfl⟩
  rw [HAO.out]
  have hao:=HAO.out
  clear hao
  go_wp2_with fail
  all_goals first
    | (refine (HOF.out w0).mono ?_
       rintro e w1 ⟨rfl,hb1⟩
       rw [HKO.out]
       go_wp2_with fail)
    | skip
  all_goals
    go_ret
    refine ⟨?_,?_⟩
    · refine congrArg (fun b=>Ending.returned (Value.int IntKind.i64 b)) ?_
      have HX:=HMP.out
      have h1:=HAO.out
      have h2:=HKO.out
      clear HMP HAO HKO HM HOF HB0 l0
      grind
    · first
        | exact HB0.out
        | exact HB0.out.trans (hb1.mono HB0.out.size)
theorem txnum_any (v:Value) (l:List UInt8) (n:Int) (w:World) (hv:Byt w v l) (h0:0≤n) (h1:n < 9223372036854775808) (hs:l.length≤1099511627000):
  Calls Tryz.prog 231 #[v,.int .i64 n] w fun e w'=>∃ x,e=.returned x∧Own w.heap.size w' x (l ++ dg n.toNat)∧Below w.heap.size w w':=by
 have hw:IntKind.u64.wrap n=n:=wrap_u64 _ (by omega) (by omega)
 go_enter Tryz.func231,Tryz.ntmps231
 go_wp2_with fail
 refine (num_any v l n w hv h0 (by omega) hs).mono ?_
 rintro e w1 ⟨v1,rfl,ho1,hb1⟩
 go_wp2_with fail
 go_ret
 exact ⟨_,rfl,ho1,hb1⟩
set_option maxHeartbeats 3200000 in
theorem txown_any (t:TxM) (w:World) (hm:mayT t=true):
  Calls Tryz.prog 213 #[txv t] w fun e w'=>∃ x,e=.returned x∧Own w.heap.size w' x (bytesT t)∧Below w.heap.size w w':=by
 obtain ⟨h1,h2,h3⟩:=mayT_iff hm
 obtain ⟨fr,no,ki,tu,am,key,val⟩:=t
 simp only at h1 h2 h3
 obtain ⟨a,rfl⟩:=nat_of (i:=fr) (by omega)
 obtain ⟨b,rfl⟩:=nat_of (i:=no) (by omega)
 obtain ⟨c,rfl⟩:=nat_of (i:=ki) (by omega)
 have hc:c < 128:=by omega
 have hab:a < 9223372036854775808∧b < 9223372036854775808:=by omega
 unfold txv
 simp only
 have hrow:=fun (C:Array Value)=>heap_alloc_new w (.cells C 170)
 have hnew:=fun (C:Array Value)=>(Below.refl w.heap.size w).alloc (Nat.le_refl _) (.cells C 170)
 have HLA:=hid (dg_len10 (n:=a) (by omega))
 have HLB:=hid (dg_len10 (n:=b) (by omega))
 have HLC:=hid (dg_len10 (n:=c) (by omega))
 obtain ⟨s,HS⟩:∃ s:ByteArray,Hid (sb key=s):=⟨_,hid rfl⟩
 obtain ⟨u,HU⟩:∃ s:ByteArray,Hid (sb val=s):=⟨_,hid rfl⟩
 rw [HS.out,HU.out]
 have hr0:=hrow #[.int .i64 (a:Int),.int .i64 (b:Int),.int .i64 (c:Int),.int .i64 tu,.int .i64 am,.string s,.string u]
 have hn0:=hnew #[.int .i64 (a:Int),.int .i64 (b:Int),.int .i64 (c:Int),.int .i64 tu,.int .i64 am,.string s,.string u]
 clear hrow hnew
 have H3:=hid h3
 have HAB:=hid hab
 have HCC:=hid hc
 clear h1 h2 h3 hab hc
 go_enter Tryz.func213,Tryz.ntmps213
 go_wp2_with fail
 have hsz0:(w.alloc (.cells #[.int .i64 (a:Int),.int .i64 (b:Int),.int .i64 (c:Int),.int .i64 tu,.int .i64 am,.string s,.string u] 170)).heap.size=w.heap.size + 1:=by simp
 generalize (w.alloc (.cells #[.int .i64 (a:Int),.int .i64 (b:Int),.int .i64 (c:Int),.int .i64 tu,.int .i64 am,.string s,.string u] 170))=w0 at *
 have hl0:=lt_of_block hr0
 have HC:Hid (∀ W:World,Below w0.heap.size w0 W→∀ i,W.cell? ⟨w.heap.size,i,none⟩=#[Value.int .i64 (a:Int),.int .i64 (b:Int),.int .i64 (c:Int),.int .i64 tu,.int .i64 am,.string s,.string u][i]?):=hid (fun W h i=>cell_blk ((h.block _ hl0).trans hr0) i)
 clear hr0 hl0
 have HW:Hid (w0.heap.size=w.heap.size + 1):=hid hsz0
 clear hsz0
 refine (txnum_any _ [] (a:Int) w0 (Byt.nil _) (by omega) (by have:=HAB.out;omega) (by decide)).mono ?_
 rintro e w1 ⟨v1,rfl,ho1,hb1⟩
 rw [Int.toNat_natCast,List.nil_append] at ho1
 have d1:=HC.out w1 hb1 1
 simp at d1
 go_wp2_with fail
 refine (txnum_any _ _ (b:Int) w1 ho1.byt (by omega) (by have:=HAB.out;omega) (by have:=HLA.out;omega)).mono ?_
 rintro e w2 ⟨v2,rfl,ho2,hb2'⟩
 have hb2:=hb1.trans (hb2'.mono hb1.size)
 rw [Int.toNat_natCast] at ho2
 have d2:=HC.out w2 hb2 2
 simp at d2
 clear d1
 go_wp2_with fail
 refine (txnum_any _ _ (c:Int) w2 ho2.byt (by omega) (by have:=HCC.out;omega) (by rw [List.length_append];have:=HLA.out;have:=HLB.out;omega)).mono ?_
 rintro e w3 ⟨v3,rfl,ho3,hb3'⟩
 have hb3:=hb2.trans (hb3'.mono hb2.size)
 rw [Int.toNat_natCast,List.append_assoc] at ho3
 have d2:=HC.out w3 hb3 2
 have d3:=HC.out w3 hb3 3
 have d5:=HC.out w3 hb3 5
 simp at d2 d3 d5
 obtain ⟨P,HP⟩:∃ P:List UInt8,Hid (dg a ++ (dg b ++ dg c)=P):=⟨_,hid rfl⟩
 have HPL:Hid (P.length≤30):=hid (by rw [← HP.out,List.length_append,List.length_append];have:=HLA.out;have:=HLB.out;have:=HLC.out;omega)
 rw [HP.out] at ho3
 have hv3:=ho3.byt
 clear ho1 ho2 ho3 hb2' hb3' hb1 hb2
 obtain ⟨hk,hto,ham,rfl,rfl⟩ | ⟨hk,rfl,rfl,hky,hvl⟩ | ⟨hk,rfl,rfl,hky,rfl⟩:=H3.out
 ·obtain ⟨d,rfl⟩:=nat_of (i:=tu) (by omega)
  obtain ⟨f,rfl⟩:=nat_of (i:=am) (by omega)
  obtain rfl:c=1:=by omega
  have hdf:d < 9223372036854775808∧f < 9223372036854775808:=by omega
  have HDF:=hid hdf
  have HLD:=hid (dg_len10 (n:=d) (by omega))
  clear hk hto ham hdf
  go_wp2_with fail
  refine (txnum_any _ _ (d:Int) w3 hv3 (by omega) (by have:=HDF.out;omega) (by have:=HPL.out;omega)).mono ?_
  rintro e w4 ⟨v4,rfl,ho4,hb4'⟩
  have hb4:=hb3.trans (hb4'.mono hb3.size)
  rw [Int.toNat_natCast] at ho4
  have e4:=HC.out w4 hb4 4
  simp at e4
  clear d2 d3 d5
  go_wp2_with fail
  refine (txnum_any _ _ (f:Int) w4 ho4.byt (by omega) (by have:=HDF.out;omega) (by rw [List.length_append];have:=HPL.out;have:=HLD.out;omega)).mono ?_
  rintro e w5 ⟨v5,rfl,ho5,hb5'⟩
  have hb5:=hb4.trans (hb5'.mono hb4.size)
  rw [Int.toNat_natCast] at ho5
  clear e4
  go_wp2_with fail
  go_ret
  refine ⟨v5,rfl,?_,hn0.trans (hb5.mono hn0.size)⟩
  rw [bytesT_one]
  rw [← HP.out] at ho5
  simp only [List.append_assoc] at ho5
  exact ho5.more (by have:=HW.out;have:=hb4.size;omega)
 ·have HKM:=hid (show key.length≤maxLen by have:=keyOk_len hky;unfold maxLen;omega)
  have HVM:=hid (show val.length≤maxLen by unfold maxLen;omega)
  have HKL:=hid (show key.length≤16 by have:=keyOk_len hky;omega)
  have HVL:=hid hvl
  obtain rfl:c=2:=by omega
  clear hk hky hvl
  obtain ⟨v4,w4,hcv4,hby4,hb4'⟩:=run_bs key w3 HKM.out
  rw [HS.out] at hcv4
  have hb4:=hb3.trans (hb4'.mono hb3.size)
  have hv34:=hv3.below hb4'
  go_wp2_with fail
  refine (text_any v3 v4 P key w4 hv34 hby4 (by have:=HPL.out;omega) (by have:=HKL.out;omega)).mono ?_
  rintro e w5 ⟨v5,rfl,ho5,hb5'⟩
  have hb5:=hb4.trans (hb5'.mono hb4.size)
  have e6:=HC.out w5 hb5 6
  simp at e6
  obtain ⟨v6,w6,hcv6,hby6,hb6'⟩:=run_bs val w5 HVM.out
  rw [HU.out] at hcv6
  have hb6:=hb5.trans (hb6'.mono hb5.size)
  have hv56:=ho5.byt.below hb6'
  clear hcv4 d2 d3 d5
  go_wp2_with fail
  refine (text_any v5 v6 (P ++ tx key) val w6 hv56 hby6 (by rw [List.length_append,tx_len];have:=HPL.out;have:=HKL.out;have:=dg_len10 (n:=key.length) (by omega);omega) (by have:=HVL.out;omega)).mono ?_
  rintro e w7 ⟨v7,rfl,ho7,hb7'⟩
  have hb7:=hb6.trans (hb7'.mono hb6.size)
  clear hcv6 e6
  go_wp2_with fail
  go_ret
  refine ⟨v7,rfl,?_,hn0.trans (hb7.mono hn0.size)⟩
  rw [bytesT_two]
  rw [← HP.out] at ho7
  simp only [List.append_assoc] at ho7
  exact ho7.more (by have:=HW.out;have:=hb6.size;omega)
 ·have HKM:=hid (show key.length≤maxLen by have:=keyOk_len hky;unfold maxLen;omega)
  have HKL:=hid (show key.length≤16 by have:=keyOk_len hky;omega)
  obtain rfl:c=3:=by omega
  clear hk hky
  obtain ⟨v4,w4,hcv4,hby4,hb4'⟩:=run_bs key w3 HKM.out
  rw [HS.out] at hcv4
  have hb4:=hb3.trans (hb4'.mono hb3.size)
  have hv34:=hv3.below hb4'
  go_wp2_with fail
  refine (text_any v3 v4 P key w4 hv34 hby4 (by have:=HPL.out;omega) (by have:=HKL.out;omega)).mono ?_
  rintro e w5 ⟨v5,rfl,ho5,hb5'⟩
  have hb5:=hb4.trans (hb5'.mono hb4.size)
  clear hcv4 d2 d3 d5
  go_wp2_with fail
  go_ret
  refine ⟨v5,rfl,?_,hn0.trans (hb5.mono hn0.size)⟩
  rw [bytesT_three]
  rw [← HP.out] at ho5
  simp only [List.append_assoc] at ho5
  exact ho5.more (by have:=HW.out;have:=hb4.size;omega)
set_option maxHeartbeats 3200000 in
theorem txPut_ok:TxPutOk:=by
 intro v l t w hv hl ht
 obtain ⟨hk,hw⟩:=ht
 have HCK:=hid (fun w=>txCheck_any t w (by omega) (by omega))
 obtain ⟨m,HM⟩:∃ m:Bool,Hid (mayT t=m):=⟨_,hid rfl⟩
 have HOW:=hid (fun w (h:mayT t=true)=>txown_any t w h)
 have HL:=hid hl
 clear hk hw hl
 have hr0:=heap_alloc_new w (.cells #[.int .i64 t.fr,.int .i64 t.no,.int .i64 t.ki,.int .i64 t.to,.int .i64 t.am,.string (sb t.key),.string (sb t.val)] 170)
 have hb0:Below w.heap.size w (w.alloc (.cells #[.int .i64 t.fr,.int .i64 t.no,.int .i64 t.ki,.int .i64 t.to,.int .i64 t.am,.string (sb t.key),.string (sb t.val)] 170)):=(Below.refl _ _).alloc (Nat.le_refl _) _
 have HPT:Hid (putT l t=if m=true then l ++ bytesT t else l):=hid (by unfold putT;rw [HM.out])
 unfold txv
 go_enter Tryz.func196,Tryz.ntmps196
 go_upto_region 1 with (fail)
 generalize (w.alloc (.cells #[.int .i64 t.fr,.int .i64 t.no,.int .i64 t.ki,.int .i64 t.to,.int .i64 t.am,.string (sb t.key),.string (sb t.val)] 170))=w0 at *
 have hl0:=lt_of_block hr0
 have HLD:Hid (∀ W:World,Below w0.heap.size w0 W→loadTx (.pointer (some ⟨w.heap.size,0,none⟩)) W=.ok (.value (.agg #[.int .i64 t.fr,.int .i64 t.no,.int .i64 t.ki,.int .i64 t.to,.int .i64 t.am,.string (sb t.key),.string (sb t.val)])) W):=hid (fun W h=>loadTx_eq ((h.block _ hl0).trans hr0) rfl)
 have l0:=HLD.out w0 (Below.refl _ _)
 clear hr0 hl0
 have hv0:=hv.below hb0
 have HB0:=hid hb0
 clear hb0 hv
 go_wp2_with fail
 refine (HCK.out w0).mono ?_
 rintro e w1 ⟨rfl,hb1⟩
 rw [HM.out]
 have hB1:=HB0.out.trans (hb1.mono HB0.out.size)
 have hv1:=hv0.below hb1
 cases m with
 | false=>
  obtain ⟨A,c,rfl⟩:=hv1.shape
  clear l0
  go_wp2_with fail
  refine (concat1 _ l w1.heap.size _ (w1.alloc (.cells #[.slice A l.length c] 33)) (by simp) (by simp) (hv1.alloc _) (by have:=HL.out;omega)).mono ?_
  rintro e w2 ⟨x,rfl,ho2,hb2⟩
  go_wp2_with fail
  go_ret
  refine ⟨x,rfl,by rw [HPT.out];exact ho2.byt,?_⟩
  exact (hB1.alloc hB1.size _).trans (hb2.mono (by have:=hB1.size;simp;omega))
 | true=>
  have l1:=HLD.out w1 hb1
  clear l0
  go_wp2_with fail
  refine (HOW.out w1 HM.out).mono ?_
  rintro e w2 ⟨x,rfl,ho2,hb2⟩
  have hB2:=hB1.trans (hb2.mono hB1.size)
  have hv2:=hv1.below hb2
  have hx2:=ho2.byt
  obtain ⟨A,c,rfl⟩:=hv2.shape
  obtain ⟨A2,c2,rfl⟩:=hx2.shape
  clear l1
  go_wp2_with fail
  have hlen:(bytesT t).length≤1000000:=Nat.le_trans (bytesT_len HM.out) (by decide)
  refine (concat2 _ _ l (bytesT t) w2.heap.size _ (w2.alloc (.cells #[.slice A l.length c,.slice A2 (bytesT t).length c2] 33)) (by simp) (by simp) (by simp) (hv2.alloc _) (hx2.alloc _) (by have:=HL.out;omega)).mono ?_
  rintro e w3 ⟨y,rfl,ho3,hb3⟩
  go_wp2_with fail
  go_ret
  refine ⟨y,rfl,by rw [HPT.out];exact ho3.byt,?_⟩
  exact (hB2.alloc hB2.size _).trans (hb3.mono (by have:=hB2.size;simp;omega))
end Go.Proofs.YtpdnnmabijmfbaaGreatDoor
namespace Go.Proofs.YtpdnnmabijmfbaaGreatDoor
set_option maxRecDepth 20000
open Go.RowKit
theorem info_at:(Tryz.prog.info? 54).map (fun i=>(i.zero,i.size,decide (i.bytes≤100000)))=some (some (.agg (atc atZ)),101,true):=by kernel_rfl
theorem eltAt:Elt atl AtM.Ok 101 54 60:=by
 refine ⟨by omega,fun _ h=>atl_length h,atl_one,by kernel_rfl,by kernel_rfl,?_⟩
 obtain ⟨i,hi,h⟩:=Option.map_eq_some_iff.1 info_at
 injection h with h1 h
 injection h with h2 h3
 exact ⟨i,_,hi,h1,h2,of_decide_eq_true h3,by show (atc atZ).size=101;exact atc_size atZ_ok⟩
theorem loadAtt_in {w:World} {g o:Nat} {a:AtM} (hr:w.rangeAt g o (atl a)) (ho:a.Ok):loadAtt (.pointer (some ⟨g,o,none⟩)) w=.ok (.value (.agg (atc a))) w:=by
 have:=run_loadAt_mid (P:=Tryz.prog) w g o 54 (atl a) _ hr under_att rfl (by rw [size_att,atl_length ho])
 unfold loadAtt execOp
 simp only [Sem.run_bind,this,Result.andThen_ok,Sem.run_pure]
 rfl
end Go.Proofs.YtpdnnmabijmfbaaGreatDoor
namespace Go.Proofs.YtpdnnmabijmfbaaGreatDoor
set_option maxRecDepth 20000
open Go.RowKit
theorem fold_putSg:∀ (vs:List Value) (k:Nat) (C:Array Value),(vs.zipIdx k).foldl (fun cs x=>cs.setIfInBounds x.2 x.1) C=putAt C k vs
 | [],_,_=>rfl
 | v :: r,k,C=>by
  simp only [List.zipIdx_cons,List.foldl_cons]
  exact fold_putSg r (k + 1) _
theorem fold_putSgO:∀ (vs:List Value) (k o:Nat) (C:Array Value),(vs.zipIdx k).foldl (fun cs x=>cs.setIfInBounds (o + x.2) x.1) C=putAt C (o + k) vs
 | [],_,_,_=>rfl
 | v :: r,k,o,C=>by
  simp only [List.zipIdx_cons,List.foldl_cons]
  rw [fold_putSgO r (k + 1) o]
  rfl
end Go.Proofs.YtpdnnmabijmfbaaGreatDoor
