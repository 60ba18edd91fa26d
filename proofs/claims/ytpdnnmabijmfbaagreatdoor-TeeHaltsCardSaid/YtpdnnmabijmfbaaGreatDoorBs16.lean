/-
  AtRight AtOk AtCodeMay AtCodeTagged AtAwake AtCodeAlike AtCodePut CtPure CtWords CtOk: what each of them says stands at its head.
-/
import Derived.Test.YtpdnnmabijmfbaaGreatDoorBs14
import Derived.Test.YtpdnnmabijmfbaaGreatDoorBs11
namespace Go.Proofs.YtpdnnmabijmfbaaGreatDoor
set_option maxRecDepth 20000
open Go.RowKit
attribute [local go_sem ↓] exec_load_att exec_load_hash
def rightA (a:AtM):Bool:=mayA a && decide (a.tg=tagA a)
set_option maxHeartbeats 3200000 in
theorem refRight8_any (a:AtM) (w:World) (ho:a.Ok) (hK:Kst 0 w):
  Calls Tryz.prog 28 #[.agg (atc a)] w fun e w'=>e=.returned (.bool (rightA a))∧Below w.heap.size w w':=by
 obtain ⟨m,HM⟩:∃ m:Bool,Hid (mayA a=m):=⟨_,hid rfl⟩
 obtain ⟨q,HQ⟩:∃ q:Bool,Hid (decide (a.tg=tagA a)=q):=⟨_,hid rfl⟩
 have HR:Hid (rightA a=(m && q)):=hid (by unfold rightA;rw [HM.out,HQ.out])
 have HMA:Hid (∀ W,Calls Tryz.prog 63 #[.agg (atc a)] W fun e w'=>e=.returned (.bool m)∧Below W.heap.size W w'):=hid (fun W=>by
  have:=refMay8_any a W ho
  rw [HM.out] at this
  exact this)
 have HTG:Hid (m=true→∀ W,Below w.heap.size w W→Calls Tryz.prog 64 #[.agg (atc a)] W fun e w'=>e=.returned (.agg (hcells (tagA a)))∧Below W.heap.size W w'):=hid (fun h W hb=>refTag8_any a W ho (HM.out.trans h) (hK.below hb))
 have HEQ:Hid (∀ W,(Op.equalIn 10000 38 (.agg (hcells a.tg)) (.agg (hcells (tagA a)))).run Tryz.prog W=.ok q W):=hid (fun W=>by
  have:=eq_hash a.tg (tagA a) ho.tg (tagA_len a) W
  rw [HQ.out] at this
  exact this)
 have hb0:Below w.heap.size w (w.alloc (.cells (atc a) 54)):=(Below.refl _ _).alloc (Nat.le_refl _) _
 have hA:=BoxA.new w a
 obtain ⟨C,HC⟩:∃ C:Array Value,Hid (atc a=C):=⟨_,hid rfl⟩
 obtain ⟨T,HT⟩:∃ C:Array Value,Hid (hcells (tagA a)=C):=⟨_,hid rfl⟩
 obtain ⟨G,HG⟩:∃ C:Array Value,Hid (hcells a.tg=C):=⟨_,hid rfl⟩
 rw [HC.out,HT.out] at HTG
 rw [HC.out] at HMA hb0 hA
 rw [HG.out,HT.out] at HEQ
 rw [HR.out,HC.out]
 have HX:Hid (∀ W:World,BoxA W w.heap.size a→loadAtt (.pointer (some ⟨w.heap.size,0,none⟩)) W=.ok (.value (.agg C)) W∧loadH (.pointer (some ⟨w.heap.size,69,none⟩)) W=.ok (.value (.agg G)) W):=hid (fun W h=>by
  have h1:=loadAtt_eq h ho
  have h2:=loadH_mid (h.tag ho) ho.tg
  rw [HC.out] at h1
  rw [HG.out] at h2
  exact ⟨h1,h2⟩)
 clear hK ho
 go_enter Tryz.func28,Tryz.ntmps28
 go_upto_region 1 with (fail)
 generalize (w.alloc (.cells C 54))=w0 at *
 have HXW:=hid (fun W (h:Below w0.heap.size w0 W)=>HX.out W (hA.keep h))
 have hbd:Below w0.heap.size w0 w0.drew:=(Below.refl _ _).drew
 clear hA
 refine wp_region_held_drew (S:=fun W=>loadAtt (.pointer (some ⟨w.heap.size,0,none⟩)) W=.ok (.value (.agg C)) W∧loadH (.pointer (some ⟨w.heap.size,69,none⟩)) W=.ok (.value (.agg G)) W) (by kernel_rfl) (HXW.out _ hbd) (fun hHeld=>?_)
 refine' tk (i:=0) (v:=_) rfl (fun W hW=>hW.1) ?_
 try simp only [lay]
 refine call_on (i:=1) rfl (by kernel_rfl) (by rfl) (fun K hK=>?_)
 go_simp
 refine (HMA.out w0.drew).mono ?_
 rintro e w2 ⟨rfl,hb2'⟩
 have hb2:=hbd.trans hb2'
 refine hK.out _ _ (HXW.out _ hb2) (fun hHeld=>?_)
 clear hK K
 try simp only [lay]
 refine' tkq 2 rfl ?_;try simp only [lay]
 cases m with
 | false=>
  refine tf (i:=3) rfl ?_
  try simp only [lay]
  refine tf (i:=4) rfl ?_
  try simp only [lay]
  refine tf (i:=5) rfl ?_
  try simp only [lay]
  refine tf (i:=6) rfl ?_
  try simp only [lay]
  refine tf (i:=7) rfl ?_
  try simp only [lay]
  refine' tkq 8 rfl ?_;try simp only [lay]
  refine' tkq 9 rfl ?_;try simp only [lay]
  refine wpAnyH_done (by kernel_rfl) ?_ _
  go_wp2_with fail
  go_ret
  exact ⟨rfl,hb0.trans (hb2.mono hb0.size)⟩
 | true=>
  refine' tkq 3 rfl ?_;try simp only [lay]
  refine' tk (i:=4) (v:=_) rfl (fun W hW=>hW.2) ?_
  try simp only [lay]
  refine' tk (i:=5) (v:=_) rfl (fun W hW=>hW.1) ?_
  try simp only [lay]
  refine call_on (i:=6) rfl (by kernel_rfl) (by rfl) (fun K hK=>?_)
  go_simp
  refine (HTG.out rfl w2 (hb0.trans (hb2.mono hb0.size))).mono ?_
  rintro e w3 ⟨rfl,hb3'⟩
  have hb3:=hb2.trans (hb3'.mono hb2.size)
  refine hK.out _ _ (HXW.out _ hb3) (fun hHeld=>?_)
  clear hK K
  try simp only [lay]
  have heq:=HEQ.out
  refine' tkq 7 rfl ?_;try simp only [lay]
  clear heq
  refine' tkq 8 rfl ?_;try simp only [lay]
  refine' tkq 9 rfl ?_;try simp only [lay]
  refine wpAnyH_done (by kernel_rfl) ?_ _
  go_wp2_with fail
  go_ret
  exact ⟨rfl,hb0.trans (hb3.mono hb0.size)⟩
end Go.Proofs.YtpdnnmabijmfbaaGreatDoor
namespace Go.Proofs.YtpdnnmabijmfbaaGreatDoor
set_option maxRecDepth 20000
open Go.RowKit
def AtCheckOk:Prop:=∀ (a:AtM) (w:World),a.Ok→Calls Tryz.prog 142 #[.agg (atc a)] w fun e w'=>e=.returned (.int .i64 (if mayA a=true then 0 else 1))∧Below w.heap.size w w'
def AtSignOk:Prop:=∀ (a:AtM) (w:World),a.Ok→mayA a=true→Kst 1 w→Calls Tryz.prog 95 #[.agg (atc a)] w fun e w'=>e=.returned (.agg (atc (signA a)))∧Below w.heap.size w w'
def AtRightOk:Prop:=∀ (a:AtM) (w:World),a.Ok→Kst 1 w→Calls Tryz.prog 126 #[.agg (atc a)] w fun e w'=>e=.returned (.bool (rightA a))∧Below w.heap.size w w'
theorem wp_store_tag {op:Oper} {ac:Act} {w:World} {K:Act→World→Prop} {Q:Exit→Act→World→Prop} (x y:Operand) (ho:op.op=.store 38 x y)
  {g:Nat} {a:AtM} {h:List UInt8} (hx:ac.eval x=.pointer (some ⟨g,69,none⟩)) (hy:ac.eval y=.agg (hcells h)) (hg:BoxA w g a) (hok:a.Ok) (hl:h.length=32)
  (hh:∀ w',w.grownBy w' (some g)→BoxA w' g { a with tg:=h }→w'.heap.size=w.heap.size→K (ac.put op.dst undef) w'):op.wp Tryz.prog ac w K Q:=by
 have hpre:([.int .i64 a.bo,.int .i64 a.ki,.int .i64 a.vi,.int .i64 a.ph] ++ (bcells a.ha ++ ([.int .i64 a.pv] ++ bcells a.pa)):List Value).length=69:=by simp only [List.length_append,bcells_length,hok.ha,hok.pa,List.length_cons,List.length_nil]
 refine wp_store_mid _ x y ho g 69 (hcells h) hx hy (fun j hj=>⟨?_,hg.free _⟩) (by rw [size_hash,hcells_size,hl]) (hcells_one _) ?_
 ·rw [hcells_size,hl] at hj
  rw [hg.cell,List.getElem?_eq_getElem (by rw [atl_length hok];omega)]
  rfl
 ·rw [hcells_list]
  refine hh _ (grown_setCells g _ _ _) ?_ (setCells_size g _ _ _)
  unfold BoxA atc at hg ⊢
  rw [atl_tag] at hg ⊢
  have:=setCells_row (bcells h) 69 w _ hg
  rw [← hpre,putAt_mid (bcells h) _ (bcells a.tg) [] (by rw [bcells_length,bcells_length,hl,hok.tg])] at this
  rw [← hpre]
  exact this
end Go.Proofs.YtpdnnmabijmfbaaGreatDoor
namespace Go.Proofs.YtpdnnmabijmfbaaGreatDoor
set_option maxRecDepth 20000
open Go.RowKit
attribute [local go_sem ↓] exec_load_att
def highA (a:AtM):Int:=if a.ki=3 then a.vi else a.vi - 1
set_option maxHeartbeats 1600000 in
theorem atHigh_any (a:AtM) (w:World) (h1:1≤a.vi) (h2:a.vi≤1099511627776):
  Calls Tryz.prog 180 #[.agg (atc a)] w fun e w'=>e=.returned (.int .i64 (highA a))∧Below w.heap.size w w':=by
 have hb0:Below w.heap.size w (w.alloc (.cells (atc a) 54)):=(Below.refl _ _).alloc (Nat.le_refl _) _
 have hA:=BoxA.new w a
 obtain ⟨C,HC⟩:∃ C:Array Value,Hid (atc a=C):=⟨_,hid rfl⟩
 obtain ⟨q,HQ⟩:∃ q:Int,Hid (highA a=q):=⟨_,hid rfl⟩
 rw [HC.out] at hb0 hA ⊢
 rw [HQ.out]
 go_enter Tryz.func180,Tryz.ntmps180
 go_upto_region 1 with (fail)
 generalize (w.alloc (.cells C 54))=w0 at *
 obtain ⟨k0,k1,k2,k3⟩:=hA.cells
 clear hA HC
 obtain ⟨bo,ki,vi,ph,ha,pv,pa,tg⟩:=a
 simp only at k0 k1 k2 k3 h1 h2
 have hw:IntKind.i64.wrap (vi - 1)=vi - 1:=by rw [IntKind.wrap_i64];omega
 have HH:=hid (show 1≤vi∧vi≤1099511627776 from ⟨h1,h2⟩)
 clear h1 h2
 by_cases h3:ki=3
 all_goals
  go_wp2_with fail
  go_ret
  refine ⟨?_,hb0⟩
  refine congrArg (fun b=>Ending.returned (Value.int IntKind.i64 b)) ?_
  rw [← HQ.out]
  unfold highA
  simp [h3]
set_option maxHeartbeats 3200000 in
theorem atCheck_ok:AtCheckOk:=by
 intro a w ho
 have hb0:Below w.heap.size w (w.alloc (.cells (atc a) 54)):=(Below.refl _ _).alloc (Nat.le_refl _) _
 have hA:=BoxA.new w a
 have HHI:Hid (1≤a.vi→a.vi≤1099511627776→∀ W,Calls Tryz.prog 180 #[.agg (atc a)] W fun e w'=>e=.returned (.int .i64 (highA a))∧Below W.heap.size W w'):=hid (fun h1 h2 W=>atHigh_any a W h1 h2)
 obtain ⟨C,HC⟩:∃ C:Array Value,Hid (atc a=C):=⟨_,hid rfl⟩
 obtain ⟨q,HQ⟩:∃ q:Int,Hid ((if mayA a=true then (0:Int) else 1)=q):=⟨_,hid rfl⟩
 obtain ⟨hi,HHA⟩:∃ q:Int,Hid (highA a=q):=⟨_,hid rfl⟩
 rw [HC.out] at hb0 hA HHI ⊢
 rw [HHA.out] at HHI
 rw [HQ.out]
 go_enter Tryz.func142,Tryz.ntmps142
 go_upto_region 1 with (fail)
 generalize (w.alloc (.cells C 54))=w0 at *
 have HX:Hid (∀ W:World,Below w0.heap.size w0 W→W.cell? ⟨w.heap.size,2,none⟩=some (.int .i64 a.vi)∧W.cell? ⟨w.heap.size,36,none⟩=some (.int .i64 a.pv)∧loadAtt (.pointer (some ⟨w.heap.size,0,none⟩)) W=.ok (.value (.agg C)) W):=hid (fun W h=>by
  have hW:=hA.keep h
  have h1:=loadAtt_eq hW ho
  rw [HC.out] at h1
  exact ⟨hW.cells.2.2.1,hW.pv ho,h1⟩)
 obtain ⟨k0,k1,k2,k3⟩:=hA.cells
 have k5:=hA.pv ho
 clear hA HC ho
 obtain ⟨bo,ki,vi,ph,ha,pv,pa,tg⟩:=a
 simp only at k0 k1 k2 k3 k5 HX HHI
 have HM:Hid (q=if nodeB bo=true∧¬ ki < 1∧¬ 3 < ki∧ph=ki∧¬ vi < 1∧¬ 1099511627776 < vi∧¬ pv < 0∧¬ hi < pv then 0 else 1):=hid (by
  rw [← HQ.out,← HHA.out]
  unfold mayA highA nodeB
  grind)
 clear HQ HHA
 go_wp2_with fail
 refine (node_any bo w0).mono ?_
 rintro e w1 ⟨rfl,rfl⟩
 obtain ⟨nb,HN⟩:∃ q:Bool,Hid (nodeB bo=q):=⟨_,hid rfl⟩
 rw [HN.out] at HM ⊢
 clear HN
 cases nb with
 | false=>
  go_wp2_with fail
  go_ret
  exact ⟨by rw [HM.out];rfl,hb0⟩
 | true=>
  by_cases h1:ki < 1
  ·go_wp2_with fail
   go_ret
   exact ⟨by rw [HM.out,if_neg (by rintro ⟨_,h,_⟩;omega)];rfl,hb0⟩
  by_cases h2:3 < ki
  ·go_wp2_with fail
   go_ret
   exact ⟨by rw [HM.out,if_neg (by rintro ⟨_,_,h,_⟩;omega)];rfl,hb0⟩
  by_cases h3':¬ ph=ki
  ·have hd:(ph != ki)=true:=by simp [h3']
   go_wp2_with fail
   all_goals first
    | (go_ret;exact ⟨by rw [HM.out,if_neg (by rintro ⟨_,_,_,h,_⟩;omega)];rfl,hb0⟩)
    | skip
  have h3:ph=ki:=Decidable.not_not.1 h3'
  clear h3'
  have HM2:Hid (q=if ¬ vi < 1∧¬ 1099511627776 < vi∧¬ pv < 0∧¬ hi < pv then 0 else 1):=hid (by rw [HM.out];simp only [true_and,eq_self];split <;> split <;> first | rfl | (exfalso;omega))
  clear HM
  go_upto_region 3 with (fail)
  clear k0 k1 k3 h1 h2 h3
  by_cases h4:vi < 1
  ·have hd:decide (vi < 1)=true:=decide_eq_true h4
   go_quiet (fail)
   go_wp2_with fail
   go_ret
   exact ⟨by rw [HM2.out,if_neg (by rintro ⟨h,_⟩;omega)];rfl,below_drewN hb0 _⟩
  have hd4:decide (vi < 1)=false:=decide_eq_false h4
  by_cases h5:1099511627776 < vi
  ·have hd:decide (1099511627776 < vi)=true:=decide_eq_true h5
   go_quiet (fail)
   go_wp2_with fail
   go_ret
   exact ⟨by rw [HM2.out,if_neg (by rintro ⟨_,h,_⟩;omega)];rfl,below_drewN hb0 _⟩
  have hd5:decide (1099511627776 < vi)=false:=decide_eq_false h5
  by_cases h6:pv < 0
  ·have hd:decide (pv < 0)=true:=decide_eq_true h6
   go_quiet (fail)
   go_wp2_with fail
   go_ret
   exact ⟨by rw [HM2.out,if_neg (by rintro ⟨_,_,h,_⟩;omega)];rfl,below_drewN hb0 _⟩
  have hd6:decide (pv < 0)=false:=decide_eq_false h6
  have HI:=hid (HHI.out (by omega) (by omega))
  have HM3:Hid (q=if ¬ hi < pv then 0 else 1):=hid (by rw [HM2.out];split <;> split <;> first | rfl | (exfalso;omega))
  have hbd:Below w0.heap.size w0 w0.drew:=(Below.refl _ _).drew
  clear HM2 HHI k2 k5
  go_region_held3 (fun W=>W.cell? ⟨w.heap.size,2,none⟩=some (.int .i64 vi)∧W.cell? ⟨w.heap.size,36,none⟩=some (.int .i64 pv)∧loadAtt (.pointer (some ⟨w.heap.size,0,none⟩)) W=.ok (.value (.agg C)) W)
   (first | (refine HX.out _ hbd) | (refine HX.out _ hb2) | fail)
   (first
    | (go_at_call 180;(with_reducible refine (HI.out _).mono ?_);rintro e w2 ⟨rfl,hb2'⟩;have hb2:Below w0.heap.size w0 w2:=hbd.trans hb2')
    | fail)
  all_goals
   by_cases h7:hi < pv
   all_goals
    go_wp2_with fail
    go_ret
    exact ⟨by rw [HM3.out];simp [h7],hb0.trans (hb2.mono hb0.size)⟩
end Go.Proofs.YtpdnnmabijmfbaaGreatDoor
namespace Go.Proofs.YtpdnnmabijmfbaaGreatDoor
set_option maxRecDepth 20000
open Go.RowKit
attribute [local go_sem ↓] exec_load_hash
theorem atnum_any (v:Value) (l:List UInt8) (n:Int) (w:World) (hv:Byt w v l) (h0:0≤n) (h1:n < 9223372036854775808) (hs:l.length≤1099511627000):
  Calls Tryz.prog 181 #[v,.int .i64 n] w fun e w'=>∃ x,e=.returned x∧Own w.heap.size w' x (l ++ dg n.toNat)∧Below w.heap.size w w':=by
 have hw:IntKind.u64.wrap n=n:=wrap_u64 _ (by omega) (by omega)
 go_enter Tryz.func181,Tryz.ntmps181
 go_wp2_with fail
 refine (num_any v l n w hv h0 (by omega) hs).mono ?_
 rintro e w1 ⟨v1,rfl,ho1,hb1⟩
 go_wp2_with fail
 go_ret
 exact ⟨_,rfl,ho1,hb1⟩
set_option maxHeartbeats 3200000 in
theorem attagged_any (a:AtM) (w:World) (ho:a.Ok) (hm:mayA a=true):
  Calls Tryz.prog 143 #[.agg (atc a)] w fun e w'=>∃ x,e=.returned x∧Own w.heap.size w' x (taggedA a)∧Below w.heap.size w w':=by
 obtain ⟨h1,h2,h3,h4,h5,h6,h7,h8,h9⟩:=mayA_iff hm
 have hb0:Below w.heap.size w (w.alloc (.cells (atc a) 54)):=(Below.refl _ _).alloc (Nat.le_refl _) _
 have hA:=BoxA.new w a
 obtain ⟨C,HC⟩:∃ C:Array Value,Hid (atc a=C):=⟨_,hid rfl⟩
 obtain ⟨O,HO⟩:∃ O:List UInt8,Hid (taggedA a=O):=⟨_,hid rfl⟩
 rw [HC.out] at hb0 hA ⊢
 rw [HO.out]
 have HOK:=hid ho
 have HA:=hid hA
 clear hA HC hm ho
 obtain ⟨bo,ki,vi,ph,ha,pv,pa,tg⟩:=a
 simp only at h1 h2 h3 h4 h5 h6 h7 h8 h9
 obtain ⟨k,rfl⟩:=nat_of (i:=ki) (by omega)
 obtain ⟨v,rfl⟩:=nat_of (i:=vi) (by omega)
 obtain ⟨p,rfl⟩:=nat_of (i:=ph) (by omega)
 obtain ⟨q,rfl⟩:=nat_of (i:=pv) (by omega)
 have HLK:=hid (dg_len10 (n:=k) (by omega))
 have HLV:=hid (dg_len10 (n:=v) (by omega))
 have HLP:=hid (dg_len10 (n:=p) (by omega))
 have HLQ:=hid (dg_len10 (n:=q) (by omega))
 have HB:Hid (k < 9223372036854775808∧v < 9223372036854775808∧p < 9223372036854775808∧q < 9223372036854775808):=hid (by omega)
 have hha:ha.length=32:=HOK.out.ha
 have hpa:pa.length=32:=HOK.out.pa
 have HHL:=hid (show ha.length=32∧pa.length=32 from ⟨hha,hpa⟩)
 have HO2:Hid (O=dg k ++ (dg v ++ (dg p ++ (ha ++ (dg q ++ pa))))):=hid (by rw [← HO.out];unfold taggedA;simp)
 clear h1 h2 h3 h4 h5 h6 h7 h8 h9 hha hpa HO
 go_enter Tryz.func143,Tryz.ntmps143
 go_upto_region 1 with (fail)
 generalize (w.alloc (.cells C 54))=w0 at *
 have HX:Hid (∀ W:World,Below w0.heap.size w0 W→W.cell? ⟨w.heap.size,1,none⟩=some (.int .i64 (k:Int))∧W.cell? ⟨w.heap.size,2,none⟩=some (.int .i64 (v:Int))∧W.cell? ⟨w.heap.size,3,none⟩=some (.int .i64 (p:Int))∧W.cell? ⟨w.heap.size,36,none⟩=some (.int .i64 (q:Int))∧loadH (.pointer (some ⟨w.heap.size,4,none⟩)) W=.ok (.value (.agg (hcells ha))) W∧loadH (.pointer (some ⟨w.heap.size,37,none⟩)) W=.ok (.value (.agg (hcells pa))) W):=hid (fun W h=>by
  have hW:=HA.out.keep h
  exact ⟨hW.cells.2.1,hW.cells.2.2.1,hW.cells.2.2.2,hW.pv HOK.out,loadH_mid hW.hash HOK.out.ha,loadH_mid (hW.phash HOK.out) HOK.out.pa⟩)
 have HB0:=hid hb0
 have d1:=(HX.out w0 (Below.refl _ _)).1
 clear HA hb0
 go_wp2_with fail
 refine (atnum_any _ [] (k:Int) w0 (Byt.nil _) (by omega) (by have:=HB.out;omega) (by decide)).mono ?_
 rintro e w1 ⟨v1,rfl,ho1,hb1⟩
 rw [Int.toNat_natCast,List.nil_append] at ho1
 have d2:=(HX.out w1 hb1).2.1
 clear d1
 go_wp2_with fail
 refine (atnum_any _ _ (v:Int) w1 ho1.byt (by omega) (by have:=HB.out;omega) (by have:=HLK.out;omega)).mono ?_
 rintro e w2 ⟨v2,rfl,ho2,hb2'⟩
 have hb2:=hb1.trans (hb2'.mono hb1.size)
 rw [Int.toNat_natCast] at ho2
 have d3:=(HX.out w2 hb2).2.2.1
 clear d2 hb2'
 go_wp2_with fail
 refine (atnum_any _ _ (p:Int) w2 ho2.byt (by omega) (by have:=HB.out;omega) (by rw [List.length_append];have:=HLK.out;have:=HLV.out;omega)).mono ?_
 rintro e w3 ⟨v3,rfl,ho3,hb3'⟩
 have hb3:=hb2.trans (hb3'.mono hb2.size)
 rw [Int.toNat_natCast] at ho3
 have d4:=(HX.out w3 hb3).2.2.2.2.1
 clear d3 hb3'
 go_wp2_with fail
 refine (hash_any _ _ ha w3 ho3.byt (by simp only [List.length_append];have:=HLK.out;have:=HLV.out;have:=HLP.out;omega) HHL.out.1).mono ?_
 rintro e w4 ⟨v4,rfl,ho4,hb4'⟩
 have hb4:=hb3.trans (hb4'.mono hb3.size)
 have d5:=(HX.out w4 hb4).2.2.2.1
 clear d4 hb4'
 go_wp2_with fail
 refine (atnum_any _ _ (q:Int) w4 ho4.byt (by omega) (by have:=HB.out;omega) (by simp only [List.length_append];have:=HLK.out;have:=HLV.out;have:=HLP.out;have:=HHL.out.1;omega)).mono ?_
 rintro e w5 ⟨v5,rfl,ho5,hb5'⟩
 have hb5:=hb4.trans (hb5'.mono hb4.size)
 rw [Int.toNat_natCast] at ho5
 have d6:=(HX.out w5 hb5).2.2.2.2.2
 clear d5 hb5'
 go_wp2_with fail
 refine (hash_any _ _ pa w5 ho5.byt (by simp only [List.length_append];have:=HLK.out;have:=HLV.out;have:=HLP.out;have:=HLQ.out;have:=HHL.out.1;omega) HHL.out.2).mono ?_
 rintro e w6 ⟨v6,rfl,ho6,hb6'⟩
 have hb6:=hb5.trans (hb6'.mono hb5.size)
 clear d6
 go_wp2_with fail
 go_ret
 refine ⟨v6,rfl,?_,HB0.out.trans (hb6.mono HB0.out.size)⟩
 rw [HO2.out]
 simp only [List.append_assoc] at ho6
 exact ho6.more (by have:=HB0.out.size;have:=hb5.size;omega)
end Go.Proofs.YtpdnnmabijmfbaaGreatDoor
namespace Go.Proofs.YtpdnnmabijmfbaaGreatDoor
set_option maxRecDepth 20000
open Go.RowKit
theorem setAtt_alloc (w:World) (T:TypeId) (C0 C:Array Value):setAtt (w.alloc (.cells C0 T)) w.heap.size C=w.alloc (.cells C T):=by
 have hm:∀ (a:Array Obj) (x:Obj) (f:Obj→Obj),(a.push x).modify a.size f=a.push (f x):=by
  intro a x f
  apply Array.ext_getElem?
  intro k
  rw [Array.getElem?_modify]
  by_cases h:a.size=k
  ·subst h
   simp
  ·rw [if_neg h,Array.getElem?_push,Array.getElem?_push]
   rw [if_neg (fun e=>h e.symm),if_neg (fun e=>h e.symm)]
 unfold setAtt World.setRow World.alloc
 simp only [hm]
theorem att_var (w:World) {Z S:Array Value} (hZ:Z.size=101) (hS:S.size=101) (h1:S.all (·.oneCell')=true):
  storeAtt (.pointer (some ⟨w.heap.size,0,none⟩)) (.agg S) (w.alloc (.cells Z 54))=.ok .skip (w.alloc (.cells S 54)):=by
 rw [storeAtt_eq (heap_alloc_new w _) hZ hS h1,setAtt_alloc]
attribute [local go_sem ↓] exec_load_att exec_alloc_att exec_store_att
end Go.Proofs.YtpdnnmabijmfbaaGreatDoor
namespace Go.Proofs.YtpdnnmabijmfbaaGreatDoor
set_option maxRecDepth 20000
open Go.RowKit
noncomputable def eqAtt (u v:Value) (w:World):Result Next:=Sem.run Tryz.prog (execOp (fun x=>match x with
 | .tmp 0=>u
 | _ => v) { dst := none, op := .binOp .eql 54 (.tmp 0) (.tmp 1) 54, type := 0, pos := "", after := #[], guard := none }) w
theorem exec_eq_att (r:Operand→Value) (i j:Tmp) (dst:Option Tmp) (ty:TypeId) (pos:String) (after:Array Edge) (guard:Option (Nat × Bool)) (w:World):
  Sem.run Tryz.prog (execOp r { dst:=dst,op:=.binOp .eql 54 (.tmp i) (.tmp j) 54,type:=ty,pos:=pos,after:=after,guard:=guard }) w=eqAtt (r (.tmp i)) (r (.tmp j)) w:=rfl
theorem eqAtt_eq {C D:Array Value} {q:Bool} (heq:∀ W,(Op.equalIn 10000 54 (.agg C) (.agg D)).run Tryz.prog W=.ok q W) (w:World):eqAtt (.agg C) (.agg D) w=.ok (.value (.bool q)) w:=by
 unfold eqAtt
 go_simp
attribute [local go_sem ↓] exec_load_att exec_load_hash exec_eq_att
end Go.Proofs.YtpdnnmabijmfbaaGreatDoor
namespace Go.Proofs.YtpdnnmabijmfbaaGreatDoor
set_option maxRecDepth 20000
open Go.RowKit
attribute [local go_sem ↓] exec_load_att
theorem byt_range {w:World} {g o n:Nat} {l:List UInt8} (h:w.rangeAt g o (bcells l)) (hg:g < w.heap.size) (hn:l.length=n) (hm:n≤maxLen):Byt w (.slice (some ⟨g,o,none⟩) n n) l:=by
 subst hn
 refine ⟨_,_,rfl,Nat.le_refl _,hm,fun _=>⟨g,o,rfl,hg,fun j hj=>?_⟩⟩
 exact h j _ (by simp [bcells,hj])
end Go.Proofs.YtpdnnmabijmfbaaGreatDoor
namespace Go.Proofs.YtpdnnmabijmfbaaGreatDoor
set_option maxRecDepth 20000
structure SgM where
 bo:Int
 tg:List UInt8
 deriving DecidableEq
def SgM.Ok (s:SgM):Prop:=s.tg.length=32
structure CtM where
 att:AtM
 sg:List SgM
 deriving DecidableEq
structure CtM.Ok (c:CtM):Prop where
 att:c.att.Ok
 sg:∀ s ∈ c.sg,s.Ok
def ctZ:CtM:=⟨atZ,[]⟩
theorem ctZ_ok:ctZ.Ok:=⟨atZ_ok,fun s hs=>absurd hs (by simp [ctZ])⟩
def withC (a:AtM) (s:SgM):AtM:={ a with bo:=s.bo,tg:=s.tg }
theorem withC_ok {a:AtM} {s:SgM} (ha:a.Ok) (hs:s.Ok):(withC a s).Ok:=⟨ha.ha,ha.pa,hs⟩
def risesB (top:Int):Int→List SgM→Bool
 | _,[]=>true
 | last,s :: r=>(decide (last < s.bo) && decide (s.bo≤top)) && risesB top s.bo r
theorem risesB_mem {top:Int}:∀ {l:List SgM} {last:Int},risesB top last l=true→∀ s ∈ l,last < s.bo∧s.bo≤top
 | [],_,_,s,hs=>by cases hs
 | x :: r,last,h,s,hs=>by
  unfold risesB at h
  simp only [Bool.and_eq_true,decide_eq_true_eq] at h
  obtain ⟨⟨h1,h2⟩,h3⟩:=h
  rcases List.mem_cons.1 hs with rfl | hs
  ·exact ⟨h1,h2⟩
  ·have:=risesB_mem h3 s hs
   omega
theorem risesB_top {top k:Int}:∀ {l:List SgM} {last:Int},risesB k last l=true→k≤top→risesB top last l=true
 | [],_,_,_=>rfl
 | x :: r,last,h,h1=>by
  unfold risesB at h ⊢
  simp only [Bool.and_eq_true,decide_eq_true_eq] at h ⊢
  exact ⟨⟨h.1.1,by omega⟩,risesB_top h.2 h1⟩
def bareC (c:CtM):Bool:=decide (c.att.bo=0) && decide (c.att.tg=z32)
def rightC (n:Int) (c:CtM):Bool:=decide (quoS n≠0) && (decide (c.sg.length=quoS n) && (risesB n 0 c.sg && (bareC c && c.sg.all fun s=>rightA (withC c.att s))))
def mayC (c:CtM):Bool:=bareC c && (mayA (withC c.att ⟨1,z32⟩) && (decide (0 < c.sg.length) && risesB 21 0 c.sg))
theorem quoS_top {n:Int} (h:quoS n≠0):1≤n∧n≤21∧0 < quoS n∧n < 2 * (quoS n:Int):=by
 unfold quoS at h ⊢
 split at h
 ·rename_i hc
  rw [if_pos hc]
  omega
 ·exact absurd rfl h
end Go.Proofs.YtpdnnmabijmfbaaGreatDoor
namespace Go.Proofs.YtpdnnmabijmfbaaGreatDoor
set_option maxRecDepth 20000
open Go.RowKit
def scl (s:SgM):List Value:=.int .i64 s.bo :: bcells s.tg
def sgc (s:SgM):Array Value:=(scl s).toArray
theorem scl_length {s:SgM} (h:s.Ok):(scl s).length=33:=by
 unfold scl
 rw [List.length_cons,bcells_length,h]
theorem sgc_size {s:SgM} (h:s.Ok):(sgc s).size=33:=by
 unfold sgc
 rw [List.size_toArray,scl_length h]
theorem scl_one (s:SgM):∀ u ∈ scl s,u.oneCell'=true:=by
 intro u hu
 rcases List.mem_cons.1 hu with rfl | hu
 ·rfl
 ·exact bcells_one _ u hu
theorem sgc_one (s:SgM):(sgc s).all (·.oneCell')=true:=all_oneCell_toArray (scl_one s)
def sgZ:SgM:=⟨0,z32⟩
theorem sgZ_ok:sgZ.Ok:=rfl
theorem under_sg:Tryz.prog.underlying 207=some (.struct (Tryz.prog.fieldsOf 207)):=by kernel_rfl
theorem size_sg:(Tryz.prog.info? 207).map (·.size)=some 33:=by kernel_rfl
theorem info_sg:(Tryz.prog.info? 207).map (fun i=>(i.zero,i.size,decide (i.bytes≤100000)))=some (some (.agg (sgc sgZ)),33,true):=by kernel_rfl
theorem eltSg:Elt scl SgM.Ok 33 207 55:=by
 refine ⟨by omega,fun _ h=>scl_length h,scl_one,by kernel_rfl,by kernel_rfl,?_⟩
 obtain ⟨i,hi,h⟩:=Option.map_eq_some_iff.1 info_sg
 injection h with h1 h
 injection h with h2 h3
 exact ⟨i,_,hi,h1,h2,of_decide_eq_true h3,by show (sgc sgZ).size=33;exact sgc_size sgZ_ok⟩
noncomputable def loadSg (v : Value) (w : World) : Result Next := Sem.run Tryz.prog (execOp (fun _ => v) { dst := none, op := .load 207 (.tmp 0), type := 0, pos := "", after := #[], guard := none }) w
theorem exec_load_sg (r:Operand→Value) (x:Operand) (dst:Option Tmp) (ty:TypeId) (pos:String) (after:Array Edge) (guard:Option (Nat × Bool)) (w:World):
  Sem.run Tryz.prog (execOp r { dst:=dst,op:=.load 207 x,type:=ty,pos:=pos,after:=after,guard:=guard }) w=loadSg (r x) w:=rfl
theorem loadSg_mid {w:World} {g o:Nat} {s:SgM} (hr:w.rangeAt g o (scl s)) (ho:s.Ok):loadSg (.pointer (some ⟨g,o,none⟩)) w=.ok (.value (.agg (sgc s))) w:=by
 have:=run_loadAt_mid (P:=Tryz.prog) w g o 207 (scl s) _ hr under_sg rfl (by rw [size_sg,scl_length ho])
 unfold loadSg execOp
 simp only [Sem.run_bind,this,Result.andThen_ok,Sem.run_pure]
 rfl
theorem sg_range {w:World} {g o:Nat} {s:SgM} (hr:w.rangeAt g o (scl s)):w.cell? ⟨g,o,none⟩=some (.int .i64 s.bo)∧w.rangeAt g (o + 1) (bcells s.tg):=by
 refine ⟨hr 0 _ rfl,fun j u hu=>?_⟩
 rw [show o + 1 + j=o + (j + 1) from by omega]
 exact hr (j + 1) u hu
def ctc (c:CtM) (s:Value):Array Value:=(atl c.att ++ [s]).toArray
theorem ctc_size {c:CtM} (s:Value) (h:c.att.Ok):(ctc c s).size=102:=by simp [ctc,atl_length h]
def CtV (w:World) (v:Value) (c:CtM):Prop:=∃ s,v=.agg (ctc c s)∧c.Ok∧Els scl 33 w s c.sg
theorem CtV.below {w w':World} {v:Value} {c:CtM} (h:CtV w v c) (hb:Below w.heap.size w w'):CtV w' v c:=by
 obtain ⟨s,rfl,h1,h2⟩:=h
 exact ⟨s,rfl,h1,h2.below hb⟩
def BoxC (w:World) (g:Nat) (c:CtM) (s:Value):Prop:=w.heap[g]?=some (.cells (ctc c s) 57 (0,0))
section
variable {w w':World} {g:Nat} {c:CtM} {s:Value}
theorem BoxC.new (w:World) (c:CtM) (s:Value):BoxC (w.alloc (.cells (ctc c s) 57)) w.heap.size c s:=heap_alloc_new w _
theorem BoxC.lt (h:BoxC w g c s):g < w.heap.size:=lt_of_block h
theorem BoxC.below {B:Nat} (h:BoxC w g c s) (hb:Below B w w') (hg:g < B):BoxC w' g c s:=(hb.block g hg).trans h
theorem BoxC.free (h:BoxC w g c s) (i:Nat):w.frozen? ⟨g,i,none⟩=false:=free_blk h i
theorem BoxC.cell (h:BoxC w g c s) (i:Nat):w.cell? ⟨g,i,none⟩=(atl c.att ++ [s])[i]?:=by
 rw [cell_blk h i]
 unfold ctc
 rw [List.getElem?_toArray]
theorem BoxC.att (h:BoxC w g c s):w.rangeAt g 0 (atl c.att):=fun j u hu=>by
 rw [Nat.zero_add,h.cell,List.getElem?_append_left (List.getElem?_eq_some_iff.1 hu).1]
 exact hu
theorem BoxC.sigs (h:BoxC w g c s) (ho:c.att.Ok):w.cell? ⟨g,101,none⟩=some s:=by
 rw [h.cell,List.getElem?_append_right (by rw [atl_length ho];omega),atl_length ho]
 rfl
theorem BoxC.bo (h:BoxC w g c s):w.cell? ⟨g,0,none⟩=some (.int .i64 c.att.bo):=h.att 0 _ rfl
theorem BoxC.tag (h:BoxC w g c s) (ho:c.att.Ok):w.rangeAt g 69 (bcells c.att.tg):=fun j u hu=>by
 have e:=h.att (69 + j) u (by
  rw [atl_tag,List.append_nil,List.getElem?_append_right (by simp only [List.length_append,bcells_length,ho.ha,ho.pa,List.length_cons,List.length_nil];omega)]
  simp only [List.length_append,bcells_length,ho.ha,ho.pa,List.length_cons,List.length_nil]
  rw [show 69 + j - (0 + 1 + 1 + 1 + 1 + (32 + (0 + 1 + 32)))=j from by omega]
  exact hu)
 rwa [Nat.zero_add] at e
end
noncomputable def loadCt (v : Value) (w : World) : Result Next := Sem.run Tryz.prog (execOp (fun _ => v) { dst := none, op := .load 57 (.tmp 0), type := 0, pos := "", after := #[], guard := none }) w
theorem exec_load_ct (r:Operand→Value) (x:Operand) (dst:Option Tmp) (ty:TypeId) (pos:String) (after:Array Edge) (guard:Option (Nat × Bool)) (w:World):
  Sem.run Tryz.prog (execOp r { dst:=dst,op:=.load 57 x,type:=ty,pos:=pos,after:=after,guard:=guard }) w=loadCt (r x) w:=rfl
theorem under_ct:Tryz.prog.underlying 57=some (.struct (Tryz.prog.fieldsOf 57)):=by kernel_rfl
theorem size_ct:(Tryz.prog.info? 57).map (·.size)=some 102:=by kernel_rfl
theorem loadCt_row {w:World} {g:Nat} {C:Array Value} {T:TypeId} (h:w.heap[g]?=some (.cells C T (0,0))) (hs:C.size=102):loadCt (.pointer (some ⟨g,0,none⟩)) w=.ok (.value (.agg C)) w:=by
 have:=run_loadAt_mid (P:=Tryz.prog) w g 0 57 C.toList _ (fun j v hj=>by rw [Nat.zero_add,cell_blk h j];simpa using hj) under_ct rfl (by rw [size_ct];simp [hs])
 simp only [Array.toArray_toList] at this
 unfold loadCt execOp
 simp only [Sem.run_bind,this,Result.andThen_ok,Sem.run_pure]
def setCt (w:World) (g:Nat) (C:Array Value):World:=w.setRow g C
theorem setCt_alloc (w:World) (T:TypeId) (C0 C:Array Value):setCt (w.alloc (.cells C0 T)) w.heap.size C=w.alloc (.cells C T):=by
 have hm:∀ (a:Array Obj) (x:Obj) (f:Obj→Obj),(a.push x).modify a.size f=a.push (f x):=by
  intro a x f
  apply Array.ext_getElem?
  intro k
  rw [Array.getElem?_modify]
  by_cases h:a.size=k
  ·subst h
   simp
  ·rw [if_neg h,Array.getElem?_push,Array.getElem?_push]
   rw [if_neg (fun e=>h e.symm),if_neg (fun e=>h e.symm)]
 unfold setCt World.setRow World.alloc
 simp only [hm]
theorem atc_by (a:AtM) (n:Int):(atc a).setIfInBounds 0 (.int .i64 n)=atc { a with bo:=n }:=by
 unfold atc atl
 rw [List.setIfInBounds_toArray]
 rfl
end Go.Proofs.YtpdnnmabijmfbaaGreatDoor
namespace Go.Proofs.YtpdnnmabijmfbaaGreatDoor
set_option maxRecDepth 20000
open Go.RowKit
def CtRightOk:Prop:=∀ (n:Int) (v:Value) (c:CtM) (w:World),(Lit.int .i64 n).wf=true→CtV w v c→c.sg.length≤1000→Kst 1 w→
 Calls Tryz.prog 99 #[.int .i64 n,v] w fun e w'=>e=.returned (.bool (rightC n c))∧Below w.heap.size w w'
end Go.Proofs.YtpdnnmabijmfbaaGreatDoor
