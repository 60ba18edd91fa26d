/-
  AtTag AtSign AtRd: what each of them says stands at its head.
-/
import Derived.Test.YtpdnnmabijmfbaaGreatDoorBs12
import Derived.Test.YtpdnnmabijmfbaaGreatDoorBs10
namespace Go.Proofs.YtpdnnmabijmfbaaGreatDoor
set_option maxRecDepth 20000
open Go.RowKit
attribute [local go_sem ↓] exec_load_hash exec_load_att exec_alloc_att exec_store_att
def tagA (a:AtM):List UInt8:=hl 32 (tagF a.bo 1 (taggedA a))
theorem tagA_len (a:AtM):(tagA a).length=32:=hl_length _ _
def signA (a:AtM):AtM:={ a with tg:=tagA a }
theorem signA_ok {a:AtM} (h:a.Ok):(signA a).Ok:=⟨h.ha,h.pa,tagA_len a⟩
theorem wp_store_arrH {op:Oper} {a:Act} {w:World} {K:Act→World→Prop} {Q:Exit→Act→World→Prop} (x y:Operand) (ho:op.op=.store 38 x y) {g:Nat} {t:TypeId} {f f':Nat→Value}
  (hx:a.eval x=.pointer (some ⟨g,0,none⟩)) (hy:a.eval y=.agg (fcells 32 f')) (hg:Blk w g 32 f t) (h1:∀ i,i < 32→(f' i).oneCell'=true)
  (hh:∀ w',w.grownBy w' (some g)→Blk w' g 32 f' t→w'.heap.size=w.heap.size→K (a.put op.dst undef) w'):op.wp Tryz.prog a w K Q:=by
 obtain ⟨w',hrun,hgr,hb,hs⟩:=arrH.store_mid (o:=0) (f':=f') hg (by omega) h1
 unfold Oper.wp execOp
 simp only [ho,hx,hy,Sem.run_bind,hrun,Result.andThen_ok,Sem.run_pure]
 exact hh w' hgr (hb.congr fun i hi=>by rw [if_pos ⟨Nat.zero_le _,by omega⟩,Nat.sub_zero]) hs
set_option maxHeartbeats 3200000 in
theorem refTag8_any (a:AtM) (w:World) (ho:a.Ok) (hm:mayA a=true) (hK:Kst 0 w):
  Calls Tryz.prog 64 #[.agg (atc a)] w fun e w'=>e=.returned (.agg (hcells (tagA a)))∧Below w.heap.size w w':=by
 have hr0:=heap1 w (.cells (atc a) 54) (.cells (fcells 32 fun _=>bcell 0) 38)
 have hH0:Blk ((w.alloc (.cells (atc a) 54)).alloc (.cells (fcells 32 fun _=>bcell 0) 38)) (w.heap.size + 1) 32 (fun _=>bcell 0) 38:=heap2 w (.cells (atc a) 54) _
 have hb0:Below w.heap.size w ((w.alloc (.cells (atc a) 54)).alloc (.cells (fcells 32 fun _=>bcell 0) 38)):=((Below.refl _ _).alloc (Nat.le_refl _) _).alloc (by simp) _
 have HTD:=hid (fun W=>refTagged_any a W ho hm)
 have HKB:=hid (fun W (h:Below w.heap.size w W)=>(show Kst 0 W from hK.below h))
 have hlen:=taggedA_len ho hm
 have HTG:Hid (∀ v W,Below w.heap.size w W→Byt W v (taggedA a)→Calls Tryz.prog 94 #[.int .i64 a.bo,.int .u8 1,v] W fun e w'=>e=.returned (.agg (fcells 32 fun j=>bcell (tagF a.bo 1 (taggedA a) j)))∧Below W.heap.size W w'):=hid (fun v W h hv=>by
  have:=refTag_any a.bo 1 v (taggedA a) W hv (by omega) (HKB.out W h)
  exact this)
 obtain ⟨C,HC⟩:∃ C:Array Value,Hid (atc a=C):=⟨_,hid rfl⟩
 obtain ⟨τ,HT⟩:∃ t:Nat→UInt8,Hid (tagF a.bo 1 (taggedA a)=t):=⟨_,hid rfl⟩
 obtain ⟨D,HD⟩:∃ C:Array Value,Hid ((fcells 32 fun j=>bcell (τ j))=C):=⟨_,hid rfl⟩
 have HRS:Hid (hcells (tagA a)=D):=hid (by rw [← HD.out,← HT.out,fcells_hl];rfl)
 rw [HC.out] at hr0 hH0 hb0 HTD ⊢
 rw [HT.out,HD.out] at HTG
 rw [HRS.out]
 have hA:BoxA ((w.alloc (.cells C 54)).alloc (.cells (fcells 32 fun _=>bcell 0) 38)) w.heap.size a:=by
  unfold BoxA
  rw [HC.out]
  exact hr0
 have HOK:=hid ho
 have HCS:Hid (C.size=101):=hid (by rw [← HC.out];exact atc_size ho)
 clear hK ho hm hlen hr0
 go_enter Tryz.func64,Tryz.ntmps64
 go_upto_region 1 with (refine wpList_alloc_arr arrH rfl rfl ?_)
 generalize ((w.alloc (.cells C 54)).alloc (.cells (fcells 32 fun _=>bcell 0) 38))=w0 at *
 have HXR:Hid (∀ W:World,BoxA W w.heap.size a→W.cell? ⟨w.heap.size,0,none⟩=some (.int .i64 a.bo)∧loadAtt (.pointer (some ⟨w.heap.size,0,none⟩)) W=.ok (.value (.agg C)) W):=hid (fun W hW=>by
  refine ⟨hW.cells.1,?_⟩
  have:=loadAtt_eq hW HOK.out
  rw [HC.out] at this
  exact this)
 have HA:=hid hA
 have HX:=hid (fun W (h:Below w0.heap.size w0 W)=>HXR.out W (hA.keep h))
 have hbd:Below w0.heap.size w0 w0.drew:=(Below.refl _ _).drew
 have HH0:=hid hH0
 clear hA hH0
 refine wp_region_held_drew (S:=fun W=>W.cell? ⟨w.heap.size,0,none⟩=some (.int .i64 a.bo)∧loadAtt (.pointer (some ⟨w.heap.size,0,none⟩)) W=.ok (.value (.agg C)) W) (by kernel_rfl) (HX.out _ hbd) (fun hHeld=>?_)
 refine' tkq 0 rfl ?_;try simp only [lay]
 refine' tkq2 1 rfl ?_;try simp only [lay]
 refine' tk (i:=2) (v:=_) rfl (fun W hW=>hW.2) ?_
 try simp only [lay]
 refine call_on (i:=3) rfl (by kernel_rfl) (by rfl) (fun K hK=>?_)
 go_simp
 refine (HTD.out w0.drew).mono ?_
 rintro e w2 ⟨v2,rfl,ho2,hb2'⟩
 have hb2:=hbd.trans hb2'
 refine hK.out _ _ (HX.out _ hb2) (fun hHeld=>?_)
 clear hK K
 try simp only [lay]
 refine call_on (i:=4) rfl (by kernel_rfl) (by rfl) (fun K hK=>?_)
 go_simp
 refine (HTG.out v2 w2 (hb0.trans (hb2.mono hb0.size)) ho2.byt).mono ?_
 rintro e w3 ⟨rfl,hb3'⟩
 have hb3:=hb2.trans (hb3'.mono hb2.size)
 have hB3:=hb0.trans (hb3.mono hb0.size)
 have hH3:=HH0.out.keep hb3
 refine hK.out _ _ (HX.out _ hb3) (fun hHeld=>?_)
 clear hK K
 try simp only [lay]
 refine call_on (i:=5) rfl (by kernel_rfl) (by rfl) (fun K hK=>?_)
 refine wp_store_arrH (f':=fun j=>bcell (τ j)) _ _ rfl rfl (by rw [HD.out];rfl) hH3 (fun _ _=>rfl) ?_
 intro w4 hg4 hH4 hs4
 have hA4:BoxA w4 w.heap.size a:=(hg4.block _ (Nat.lt_of_lt_of_le HA.out.lt hb3.size) (fun e=>by injection e with e;omega)).trans (HA.out.keep hb3)
 refine hK.out _ _ (HXR.out _ hA4) (fun hHeld=>?_)
 clear hK K
 try simp only [Act.put]
 refine wpAnyH_done (by kernel_rfl) ?_ _
 go_wp2_with fail
 refine bodyPost_ret (arrH.result rfl _ _ rfl hH4) rfl ⟨by rw [HD.out],?_⟩
 exact below_into hB3 (Nat.le_succ _) hg4 hB3.size
end Go.Proofs.YtpdnnmabijmfbaaGreatDoor
namespace Go.Proofs.YtpdnnmabijmfbaaGreatDoor
set_option maxRecDepth 20000
open Go.RowKit
attribute [local go_sem ↓] exec_load_att exec_alloc_att exec_store_att
set_option maxHeartbeats 3200000 in
theorem refSign8_any (a:AtM) (w:World) (ho:a.Ok) (hm:mayA a=true) (hK:Kst 0 w):
  Calls Tryz.prog 121 #[.agg (atc a)] w fun e w'=>e=.returned (.agg (atc (signA a)))∧Below w.heap.size w w':=by
 have HTG:Hid (∀ W,Below w.heap.size w W→Calls Tryz.prog 64 #[.agg (atc a)] W fun e w'=>e=.returned (.agg (hcells (tagA a)))∧Below W.heap.size W w'):=hid (fun W h=>refTag8_any a W ho hm (hK.below h))
 obtain ⟨C,HC⟩:∃ C:Array Value,Hid (atc a=C):=⟨_,hid rfl⟩
 obtain ⟨D,HD⟩:∃ C:Array Value,Hid (atc (signA a)=C):=⟨_,hid rfl⟩
 obtain ⟨Z,HZ⟩:∃ C:Array Value,Hid (atc atZ=C):=⟨_,hid rfl⟩
 have hal:∀ W,allocAtt W=.ok (.value (.pointer (some ⟨W.heap.size,0,none⟩))) (W.alloc (.cells Z 54)):=fun W=>by rw [← HZ.out];exact allocAtt_eq W
 have hr0:=heap1 w (.cells C 54) (.cells Z 54)
 have hr1:=heap2 w (.cells C 54) (.cells Z 54)
 have hb0:Below w.heap.size w ((w.alloc (.cells C 54)).alloc (.cells Z 54)):=((Below.refl _ _).alloc (Nat.le_refl _) _).alloc (by simp) _
 obtain ⟨T,HT⟩:∃ T:List UInt8,Hid (tagA a=T):=⟨_,hid rfl⟩
 have HTL:Hid (T.length=32):=hid (by rw [← HT.out];exact tagA_len a)
 have HDS:Hid (D.size=101∧D.all (·.oneCell')=true):=hid (by rw [← HD.out];exact ⟨atc_size (signA_ok ho),atc_one _⟩)
 have HZS:Hid (Z.size=101):=hid (by rw [← HZ.out];exact atc_size atZ_ok)
 have HOK:=hid ho
 have HLC:Hid (∀ W:World,BoxA W w.heap.size a→loadAtt (.pointer (some ⟨w.heap.size,0,none⟩)) W=.ok (.value (.agg C)) W):=hid (fun W h=>by
  have:=loadAtt_eq h HOK.out
  rw [HC.out] at this
  exact this)
 have HLD:Hid (∀ W:World,BoxA W w.heap.size { a with tg:=T }→loadAtt (.pointer (some ⟨w.heap.size,0,none⟩)) W=.ok (.value (.agg D)) W):=hid (fun W h=>by
  have e:({ a with tg:=T }:AtM)=signA a:=by rw [← HT.out];rfl
  rw [e] at h
  have:=loadAtt_eq h (signA_ok HOK.out)
  rw [HD.out] at this
  exact this)
 rw [HT.out,HC.out] at HTG
 rw [HD.out,HC.out]
 have hA:BoxA ((w.alloc (.cells C 54)).alloc (.cells Z 54)) w.heap.size a:=by
  unfold BoxA
  rw [HC.out]
  exact hr0
 clear hK ho hm hr0
 go_enter Tryz.func121,Tryz.ntmps121
 go_upto_region 1 with (fail)
 generalize ((w.alloc (.cells C 54)).alloc (.cells Z 54))=w0 at *
 have l0:=HLC.out w0 hA
 have HR1:=hid hr1
 clear hal hr1
 go_wp2_with fail
 refine (HTG.out w0 hb0).mono ?_
 rintro e w1 ⟨rfl,hb1⟩
 have hA1:=hA.keep hb1
 have hB1:=hb0.trans (hb1.mono hb0.size)
 have hr1:=(hb1.block _ (lt_of_block HR1.out)).trans HR1.out
 have HR2:=hid hr1
 have HA1:=hid hA1
 clear l0 hA hA1 hr1
 go_wp2_with (refine wpList_store_tag rfl _ _ rfl rfl rfl HA1.out HOK.out HTL.out ?_;intro w2 hg2 hB2 hs2;have l2:=HLD.out w2 hB2;have hr2:=(hg2.block _ (lt_of_block HR2.out) (fun e=>by injection e with e;omega)).trans HR2.out;have hs:=storeAtt_eq hr2 HZS.out HDS.out.1 HDS.out.2;have HR3:=hid hr2;have HG2:=hid hg2;clear hg2 hs2 hr2)
 refine bodyPost_ret (results_cell_row rfl _ _ _ _ _ (0,0) _ rfl (setAtt_same HR3.out) under_att rfl (by rw [size_att,HDS.out.1])) rfl ⟨rfl,?_⟩
 exact setAtt_below (below_into hB1 (Nat.le_refl _) HG2.out hB1.size) (Nat.le_succ _)
end Go.Proofs.YtpdnnmabijmfbaaGreatDoor
namespace Go.Proofs.YtpdnnmabijmfbaaGreatDoor
set_option maxRecDepth 20000
open Go.RowKit
theorem atl_ha (a:AtM):atl a=[.int .i64 a.bo,.int .i64 a.ki,.int .i64 a.vi,.int .i64 a.ph] ++ (bcells a.ha ++ ([.int .i64 a.pv] ++ (bcells a.pa ++ bcells a.tg))):=rfl
theorem atl_pa (a:AtM):atl a=([.int .i64 a.bo,.int .i64 a.ki,.int .i64 a.vi,.int .i64 a.ph] ++ (bcells a.ha ++ [.int .i64 a.pv])) ++ (bcells a.pa ++ bcells a.tg):=by
 unfold atl
 simp only [List.append_assoc]
theorem atl_pv (a:AtM):atl a=([.int .i64 a.bo,.int .i64 a.ki,.int .i64 a.vi,.int .i64 a.ph] ++ bcells a.ha) ++ (.int .i64 a.pv :: (bcells a.pa ++ bcells a.tg)):=by
 unfold atl
 simp only [List.cons_append,List.nil_append]
theorem atc_pv {a:AtM} (h:a.Ok) (n:Int):(atc a).setIfInBounds 36 (.int .i64 n)=atc { a with pv:=n }:=by
 have hl:([.int .i64 a.bo,.int .i64 a.ki,.int .i64 a.vi,.int .i64 a.ph] ++ bcells a.ha:List Value).length=36:=by simp only [List.length_append,bcells_length,h.ha,List.length_cons,List.length_nil]
 unfold atc
 rw [List.setIfInBounds_toArray,atl_pv,atl_pv,List.set_append_right _ _ (by omega),hl]
 rfl
end Go.Proofs.YtpdnnmabijmfbaaGreatDoor
