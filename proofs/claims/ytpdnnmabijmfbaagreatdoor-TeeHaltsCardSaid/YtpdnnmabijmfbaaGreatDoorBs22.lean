/-
  CtRd CtCodeWith CtCodeRise AcMk BkCodeMay VaLike: what each of them says stands at its head.
-/
import Derived.Test.YtpdnnmabijmfbaaGreatDoorBs20
import Derived.Test.YtpdnnmabijmfbaaGreatDoorBs21
import Derived.Test.YtpdnnmabijmfbaaGreatDoorBs19
namespace Go.Proofs.YtpdnnmabijmfbaaGreatDoor
set_option maxRecDepth 20000
open Go.RowKit
noncomputable def allocSg (w : World) : Result Next := Sem.run Tryz.prog (execOp (fun _ => undef) { dst := none, op := .alloc 207, type := 0, pos := "", after := #[], guard := none }) w
theorem exec_alloc_sg (r:Operand→Value) (dst:Option Tmp) (ty:TypeId) (pos:String) (after:Array Edge) (guard:Option (Nat × Bool)) (w:World):
  Sem.run Tryz.prog (execOp r { dst:=dst,op:=.alloc 207,type:=ty,pos:=pos,after:=after,guard:=guard }) w=allocSg w:=rfl
theorem zero_sg:(Tryz.prog.info? 207).bind (·.zero)=some (.agg (sgc sgZ)):=by kernel_rfl
theorem run_zero_sg (w:World):(zeroValue 207).run Tryz.prog w=.ok (.agg (sgc sgZ)) w:=by
 have h:=zero_sg
 cases hq:Tryz.prog.info? 207 with
 | none=>rw [hq] at h;cases h
 | some i=>
  rw [hq] at h
  have hz:i.zero=some (.agg (sgc sgZ)):=h
  simp [zeroValue,typeInfo,hq,hz]
theorem allocSg_eq (w:World):allocSg w=.ok (.value (.pointer (some ⟨w.heap.size,0,none⟩))) (w.alloc (.cells (sgc sgZ) 207)):=by
 unfold allocSg execOp
 simp only [Sem.run_bind,Instr.alloc,run_zero_sg,newVar,newRow,run_newObj_alloc,Sem.run_pure,Result.andThen_ok,Value.cells]
noncomputable def storeSg (p v:Value) (w:World):Result Next:=Sem.run Tryz.prog (execOp (fun x=>match x with
 | .tmp 0=>p
 | _ => v) { dst := none, op := .store 207 (.tmp 0) (.tmp 1), type := 0, pos := "", after := #[], guard := none }) w
theorem exec_store_sg (r:Operand→Value) (x y:Operand) (dst:Option Tmp) (ty:TypeId) (pos:String) (after:Array Edge) (guard:Option (Nat × Bool)) (w:World):
  Sem.run Tryz.prog (execOp r { dst:=dst,op:=.store 207 x y,type:=ty,pos:=pos,after:=after,guard:=guard }) w=storeSg (r x) (r y) w:=rfl
theorem sg_var (w:World) {Z S:Array Value} (hZ:Z.size=33) (hS:S.size=33) (h1:S.all (·.oneCell')=true):
  storeSg (.pointer (some ⟨w.heap.size,0,none⟩)) (.agg S) (w.alloc (.cells Z 207))=.ok .skip (w.alloc (.cells S 207)):=by
 have:=run_storeVar_row (P:=Tryz.prog) (w.alloc (.cells Z 207)) w.heap.size 207 207 Z S (heap_alloc_new w _) (by rw [size_sg,hS]) (by rw [hZ,hS]) h1
 unfold storeSg execOp
 simp only [Instr.storeAt,Instr.sureAddr,Sem.run_bind,Sem.run_pure,Result.andThen_ok,this]
 rw [show (w.alloc (.cells Z 207)).setRow w.heap.size S=w.alloc (.cells S 207) from setCt_alloc w _ Z S]
end Go.Proofs.YtpdnnmabijmfbaaGreatDoor
namespace Go.Proofs.YtpdnnmabijmfbaaGreatDoor
set_option maxRecDepth 20000
open Go.RowKit
attribute [local go_sem ↓] exec_load_att exec_alloc_att exec_store_att exec_load_hash
set_option maxHeartbeats 1600000 in
theorem ctWith_any (a:AtM) (s:SgM) (w:World) (ha:a.Ok) (hs:s.Ok):
  Calls Tryz.prog 146 #[.agg (atc a),.agg (sgc s)] w fun e w'=>e=.returned (.agg (atc (withC a s)))∧Below w.heap.size w w':=by
 obtain ⟨C,HC⟩:∃ C:Array Value,Hid (atc a=C):=⟨_,hid rfl⟩
 obtain ⟨G,HG⟩:∃ C:Array Value,Hid (sgc s=C):=⟨_,hid rfl⟩
 obtain ⟨D,HD⟩:∃ C:Array Value,Hid (atc (withC a s)=C):=⟨_,hid rfl⟩
 obtain ⟨Z,HZ⟩:∃ C:Array Value,Hid (atc atZ=C):=⟨_,hid rfl⟩
 have hal:∀ W,allocAtt W=.ok (.value (.pointer (some ⟨W.heap.size,0,none⟩))) (W.alloc (.cells Z 54)):=fun W=>by rw [← HZ.out];exact allocAtt_eq W
 have HZS:Hid (Z.size=101):=hid (by rw [← HZ.out];exact atc_size atZ_ok)
 have HDS:Hid (D.size=101∧D.all (·.oneCell')=true):=hid (by rw [← HD.out];exact ⟨atc_size (withC_ok ha hs),atc_one _⟩)
 have hb0:Below w.heap.size w (((w.alloc (.cells C 54)).alloc (.cells G 207)).alloc (.cells Z 54)):=(((Below.refl _ _).alloc (Nat.le_refl _) _).alloc (by simp) _).alloc (by simp;omega) _
 have hr0:(((w.alloc (.cells C 54)).alloc (.cells G 207)).alloc (.cells Z 54)).heap[w.heap.size]?=some (.cells C 54 (0,0)):=(Below.heap_alloc _ _ _ (by simp;omega)).trans (heap1 w _ _)
 have hr1:(((w.alloc (.cells C 54)).alloc (.cells G 207)).alloc (.cells Z 54)).heap[w.heap.size + 1]?=some (.cells G 207 (0,0)):=(Below.heap_alloc _ _ _ (by simp)).trans (heap2 w _ _)
 have hr2:(((w.alloc (.cells C 54)).alloc (.cells G 207)).alloc (.cells Z 54)).heap[w.heap.size + 1 + 1]?=some (.cells Z 54 (0,0)):=by
  have:=heap2 (w.alloc (.cells C 54)) (.cells G 207) (.cells Z 54)
  rwa [show (w.alloc (.cells C 54)).heap.size=w.heap.size + 1 from by simp] at this
 obtain ⟨T,HT⟩:∃ C:Array Value,Hid (hcells s.tg=C):=⟨_,hid rfl⟩
 have HSG:Hid (∀ W:World,W.heap[w.heap.size + 1]?=some (.cells G 207 (0,0))→W.cell? ⟨w.heap.size + 1,0,none⟩=some (.int .i64 s.bo)∧loadH (.pointer (some ⟨w.heap.size + 1,1,none⟩)) W=.ok (.value (.agg T)) W):=hid (fun W h=>by
  rw [← HG.out] at h
  have hr:W.rangeAt (w.heap.size + 1) 0 (scl s):=fun j u hu=>by
   rw [Nat.zero_add,cell_blk h j]
   unfold sgc
   rw [List.getElem?_toArray]
   exact hu
  obtain ⟨h1,h2⟩:=sg_range hr
  rw [← HT.out]
  exact ⟨h1,loadH_mid h2 hs⟩)
 have HLD:Hid (∀ W:World,BoxA W w.heap.size { { a with bo:=s.bo } with tg:=s.tg }→loadAtt (.pointer (some ⟨w.heap.size,0,none⟩)) W=.ok (.value (.agg D)) W):=hid (fun W h=>by
  rw [← HD.out]
  exact loadAtt_eq h (withC_ok ha hs))
 have HOA:Hid ({ a with bo:=s.bo }:AtM).Ok:=hid ⟨ha.ha,ha.pa,ha.tg⟩
 have HS:=hid hs
 rw [HD.out,HC.out,HG.out]
 go_enter Tryz.func146,Tryz.ntmps146
 go_upto_region 1 with (fail)
 generalize (((w.alloc (.cells C 54)).alloc (.cells G 207)).alloc (.cells Z 54))=w0 at *
 have HA:Hid (BoxA w0 w.heap.size a):=hid (by unfold BoxA;rw [HC.out];exact hr0)
 have hbd:Below w0.heap.size w0 w0.drew:=(Below.refl _ _).drew
 have HB0:=hid hb0
 have HR1:=hid hr1
 have HR2:=hid hr2
 clear hr0 hr1 hr2 hb0 hal ha hs
 refine wp_region_held_drew (S:=fun W=>W.cell? ⟨w.heap.size + 1,0,none⟩=some (.int .i64 s.bo)∧loadH (.pointer (some ⟨w.heap.size + 1,1,none⟩)) W=.ok (.value (.agg T)) W) (by kernel_rfl) (HSG.out _ ((hbd.block _ (lt_of_block HR1.out)).trans HR1.out)) (fun hHeld=>?_)
 refine' tkq 0 rfl ?_;try simp only [lay]
 refine' tkq2 1 rfl ?_;try simp only [lay]
 refine' tkq 2 rfl ?_;try simp only [lay]
 refine' tk (i:=3) (v:=_) rfl (fun W hW=>hW.2) ?_
 try simp only [lay]
 refine' tkq 4 rfl ?_;try simp only [lay]
 have k1:=HA.out.free 0
 have k2:=HA.out.cells.1
 have hA2:BoxA ((w0.setCell ⟨w.heap.size,0,none⟩ (.int .i64 s.bo)).drew) w.heap.size { a with bo:=s.bo }:=by
  have:=set_blk HA.out 0 (.int .i64 s.bo)
  rw [atc_by] at this
  exact this
 have hR12:((w0.setCell ⟨w.heap.size,0,none⟩ (.int .i64 s.bo)).drew).heap[w.heap.size + 1]?=some (.cells G 207 (0,0)):=blk_other HR1.out _ (by omega)
 have hR22:((w0.setCell ⟨w.heap.size,0,none⟩ (.int .i64 s.bo)).drew).heap[w.heap.size + 1 + 1]?=some (.cells Z 54 (0,0)):=blk_other HR2.out _ (by omega)
 have hb2:Below w.heap.size w ((w0.setCell ⟨w.heap.size,0,none⟩ (.int .i64 s.bo)).drew):=(HB0.out.setCell (Nat.le_refl _) _).drew
 refine call_on (i:=5) rfl (by kernel_rfl) (by rfl) (fun K hK=>?_)
 go_simp
 refine hK.out _ _ (HSG.out _ hR12) (fun hHeld=>?_)
 clear hK K
 try simp only [lay]
 clear k1 k2
 generalize ((w0.setCell ⟨w.heap.size,0,none⟩ (.int .i64 s.bo)).drew)=w2 at *
 refine' tkq 6 rfl ?_;try simp only [lay]
 refine call_on (i:=7) rfl (by kernel_rfl) (by rfl) (fun K hK=>?_)
 refine wp_store_tag (h:=s.tg) (a:={ a with bo:=s.bo }) _ _ rfl rfl (by rw [HT.out];rfl) hA2 HOA.out HS.out ?_
 intro w3 hg3 hA3 hs3
 have hR13:=(hg3.block _ (lt_of_block hR12) (fun e=>by injection e with e;omega)).trans hR12
 have hR23:=(hg3.block _ (lt_of_block hR22) (fun e=>by injection e with e;omega)).trans hR22
 have hb3:Below w.heap.size w w3:=below_into hb2 (Nat.le_refl _) hg3 hb2.size
 refine hK.out _ _ (HSG.out _ hR13) (fun hHeld=>?_)
 clear hK K
 try simp only [Act.put]
 refine wpAnyH_done (by kernel_rfl) ?_ _
 have l3:=HLD.out w3 hA3
 have hst:=storeAtt_eq hR23 HZS.out HDS.out.1 HDS.out.2
 have HR23:=hid hR23
 have HB3:=hid hb3
 clear hHeld hR23 hR22 hR13 hR12 hb3 hb2
 go_wp2_with fail
 refine bodyPost_ret (results_cell_row rfl _ _ _ _ _ (0,0) _ rfl (setAtt_same HR23.out) under_att rfl (by rw [size_att,HDS.out.1])) rfl ⟨rfl,?_⟩
 exact setAtt_below HB3.out (by omega)
end Go.Proofs.YtpdnnmabijmfbaaGreatDoor
namespace Go.Proofs.YtpdnnmabijmfbaaGreatDoor
set_option maxRecDepth 20000
open Go.RowKit
attribute [local go_sem ↓] exec_load_sg exec_alloc_sg exec_store_sg
def lastO:Int→List SgM→Int
 | last,[]=>last
 | _,s :: r=>lastO s.bo r
theorem lastO_snoc (s:SgM):∀ (l:List SgM) (last:Int),lastO last (l ++ [s])=s.bo
 | [],_=>rfl
 | x :: r,_=>lastO_snoc s r x.bo
theorem risesB_snoc (top:Int) (s:SgM):∀ (l:List SgM) (last:Int),risesB top last (l ++ [s])=(risesB top last l && (decide (lastO last l < s.bo) && decide (s.bo≤top)))
 | [],last=>by
  show ((decide (last < s.bo) && decide (s.bo≤top)) && true)=(true && (decide (last < s.bo) && decide (s.bo≤top)))
  rw [Bool.and_true,Bool.true_and]
 | x :: r,last=>by
  have:=risesB_snoc top s r x.bo
  simp only [List.cons_append,risesB,lastO,this,Bool.and_assoc]
  rfl
theorem risesB_pre (top:Int) (m:List SgM):∀ (l:List SgM) (last:Int),risesB top last (l ++ m)=true→risesB top last l=true
 | [],_,_=>rfl
 | x :: r,last,h=>by
  simp only [List.cons_append,risesB,Bool.and_eq_true] at h ⊢
  exact ⟨h.1,risesB_pre top m r x.bo h.2⟩
theorem lastO_ge (top:Int):∀ (l:List SgM) (last:Int),risesB top last l=true→last≤lastO last l
 | [],_,_=>Int.le_refl _
 | x :: r,last,h=>by
  simp only [risesB,Bool.and_eq_true,decide_eq_true_eq] at h
  have:=lastO_ge top r x.bo h.2
  show last≤lastO x.bo r
  omega
theorem lastO_pos {top:Int} {l:List SgM} (h:risesB top 0 l=true):decide (0 < lastO 0 l)=decide (0 < l.length):=by
 cases l with
 | nil=>rfl
 | cons x r=>
  simp only [risesB,Bool.and_eq_true,decide_eq_true_eq] at h
  have:=lastO_ge top r x.bo h.2
  have h1:0 < lastO 0 (x :: r):=by
   show 0 < lastO x.bo r
   omega
  rw [decide_eq_true h1]
  exact (decide_eq_true (by simp)).symm
theorem take_one (l:List SgM) (i:Nat) (h:i < l.length):l.take (i + 1)=l.take i ++ [l[i]]:=List.take_succ_eq_append_getElem h
theorem rises_more {l:List SgM} {i:Nat} (h:i < l.length) (hr:risesB 21 0 (l.take i)=true) (h1:¬ l[i].bo≤lastO 0 (l.take i)) (h2:nodeB l[i].bo=true):risesB 21 0 (l.take (i + 1))=true:=by
 unfold nodeB at h2
 rw [decide_eq_true_eq] at h2
 rw [take_one l i h,risesB_snoc,hr,decide_eq_true (by omega),decide_eq_true (by omega)]
 rfl
theorem rises_not {l:List SgM} {i:Nat} (h:i < l.length) (hr:risesB 21 0 (l.take i)=true) (h1:l[i].bo≤lastO 0 (l.take i)∨nodeB l[i].bo=false):risesB 21 0 l=false:=by
 cases hq:risesB 21 0 l with
 | false=>rfl
 | true=>
  exfalso
  rw [← List.take_append_drop (i + 1) l] at hq
  have:=risesB_pre _ _ _ _ hq
  rw [take_one l i h,risesB_snoc] at this
  simp only [Bool.and_eq_true,decide_eq_true_eq] at this
  have h0:=lastO_ge _ _ _ hr
  rcases h1 with h1 | h1
  ·omega
  ·unfold nodeB at h1
   rw [decide_eq_false_iff_not] at h1
   omega
set_option maxHeartbeats 1600000 in
theorem ctRise_any (v:Value) (l:List SgM) (w0:World) (hv:Els scl 33 w0 v l) (ho:∀ s ∈ l,s.Ok) (hl:l.length≤1000):
  Calls Tryz.prog 182 #[v] w0 fun e w'=>e=.returned (.bool (decide (0 < l.length) && risesB 21 0 l))∧Below w0.heap.size w0 w':=by
 obtain ⟨A,c,rfl⟩:=hv.shape
 obtain ⟨n,HN⟩:∃ n:Nat,Hid (l.length=n):=⟨_,hid rfl⟩
 rw [HN.out] at hv hl ⊢
 have HT:=hid hv
 have HO:=hid ho
 obtain ⟨ans,HAN⟩:∃ q:Bool,Hid ((decide (0 < n) && risesB 21 0 l)=q):=⟨_,hid rfl⟩
 rw [HAN.out]
 obtain ⟨Z,HZ⟩:∃ C:Array Value,Hid (sgc sgZ=C):=⟨_,hid rfl⟩
 have HZS:Hid (Z.size=33):=hid (by rw [← HZ.out];exact sgc_size sgZ_ok)
 have hal:∀ W,allocSg W=.ok (.value (.pointer (some ⟨W.heap.size,0,none⟩))) (W.alloc (.cells Z 207)):=fun W=>by rw [← HZ.out];exact allocSg_eq W
 clear hv ho
 go_enter Tryz.func182,Tryz.ntmps182
 go_wp2_with fail
 go_loopw [3,8] (fun la si wr=>∃ i:Nat,i≤n∧si=.int .i64 i∧la=.int .i64 (lastO 0 (l.take i))∧Hid (risesB 21 0 (l.take i)=true)∧Below w0.heap.size w0 wr) (fun _ si _=>n - (intOf si).toNat)
 case atStart=>exact ⟨0,Nat.zero_le _,rfl,rfl,hid rfl,Below.refl _ _⟩
 case round=>
  obtain ⟨i,hi,rfl,rfl,HR,hbr⟩:=hrel
  by_cases hlt:i < n
  ·have hil:i < l.length:=by rw [HN.out];exact hlt
   obtain ⟨b,o,rfl,hg,hcl⟩:=(HT.out.below hbr).at_.2.2.2 (by omega)
   have hI:(i:Int) < (n:Int):=by omega
   have hoi:=HO.out _ (List.getElem_mem hil)
   have l1:loadSg (.pointer (some ⟨b,o + i * 33,none⟩)) wr=.ok (.value (.agg (sgc l[i]))) wr:=loadSg_mid (hcl i hil) hoi
   have HXS:Hid ((sgc l[i]).size=33∧(sgc l[i]).all (·.oneCell')=true):=hid ⟨sgc_size hoi,sgc_one _⟩
   have HMORE:Hid (¬ l[i].bo≤lastO 0 (l.take i)→nodeB l[i].bo=true→risesB 21 0 (l.take (i + 1))=true):=hid (rises_more hil HR.out)
   have HNOT:Hid ((l[i].bo≤lastO 0 (l.take i)∨nodeB l[i].bo=false)→ans=false):=hid (fun h=>by rw [← HAN.out,rises_not hil HR.out h,Bool.and_false])
   have HLAST:Hid (lastO 0 (l.take (i + 1))=l[i].bo):=hid (by rw [take_one l i hil,lastO_snoc])
   have HC0:Hid (∀ (W:World) (g:Nat),W.heap[g]?=some (.cells (sgc l[i]) 207 (0,0))→W.cell? ⟨g,0,none⟩=some (.int .i64 l[i].bo)):=hid (fun W g h=>cell_blk h 0)
   obtain ⟨X,HX⟩:∃ C:Array Value,Hid (sgc l[i]=C):=⟨_,hid rfl⟩
   obtain ⟨bo,HBO⟩:∃ x:Int,Hid (l[i].bo=x):=⟨_,hid rfl⟩
   obtain ⟨la,HLA⟩:∃ x:Int,Hid (lastO 0 (l.take i)=x):=⟨_,hid rfl⟩
   rw [HX.out] at l1 HXS HC0
   rw [HBO.out] at HMORE HNOT HLAST HC0
   rw [HLA.out] at HMORE HNOT ⊢
   have hst:=sg_var wr HZS.out HXS.out.1 HXS.out.2
   have hal1:=hal wr
   clear hcl hoi hg
   go_upto_region 5 with (fail)
   have hr1:=heap_alloc_new wr (.cells X 207)
   have hb1:Below w0.heap.size w0 (wr.alloc (.cells X 207)):=hbr.alloc hbr.size _
   have c0:=HC0.out _ _ hr1
   clear l1 hst hr1
   generalize (wr.alloc (.cells X 207))=w1 at *
   by_cases h1:bo≤la
   ·obtain rfl:ans=false:=HNOT.out (.inl h1)
    go_wp2_with fail
    go_ret
    exact ⟨rfl,hb1⟩
   ·obtain ⟨nb,HNB⟩:∃ q:Bool,Hid (nodeB bo=q):=⟨_,hid rfl⟩
    have HCN:=hid (fun W=>node_any bo W)
    rw [HNB.out] at HCN HMORE HNOT
    have HH1:=hid h1
    go_wp2_with fail
    refine (HCN.out w1).mono ?_
    rintro e w2 ⟨rfl,rfl⟩
    cases nb with
    | false=>
     obtain rfl:ans=false:=HNOT.out (.inr rfl)
     go_wp2_with fail
     go_ret
     exact ⟨rfl,hb1⟩
    | true=>
     have HM2:=hid (HMORE.out HH1.out rfl)
     clear HMORE HNOT
     go_wp2_with fail
     go_roundw
     case rel=>exact ⟨i + 1,by omega,by go_num,by rw [HLAST.out],hid HM2.out,hb1⟩
     case measure=>simp [intOf];omega
  ·obtain rfl:i=n:=by omega
   have htk:l.take i=l:=List.take_of_length_le (by rw [HN.out];exact Nat.le_refl _)
   have HANS:Hid (ans=decide (0 < lastO 0 (l.take i))):=hid (by
    have h:=HR.out
    rw [htk] at h ⊢
    rw [← HAN.out,h,Bool.and_true,lastO_pos h,HN.out])
   obtain ⟨la,HLA⟩:∃ x:Int,Hid (lastO 0 (l.take i)=x):=⟨_,hid rfl⟩
   rw [HLA.out] at HANS ⊢
   clear htk
   by_cases h1:0 < la
   ·obtain rfl:ans=true:=by rw [HANS.out,decide_eq_true h1]
    go_wp2_with fail
    go_ret
    exact ⟨rfl,hbr⟩
   ·obtain rfl:ans=false:=by rw [HANS.out,decide_eq_false h1]
    go_wp2_with fail
    go_ret
    exact ⟨rfl,hbr⟩
end Go.Proofs.YtpdnnmabijmfbaaGreatDoor
namespace Go.Proofs.YtpdnnmabijmfbaaGreatDoor
set_option maxRecDepth 20000
open Go.RowKit
noncomputable def buildAx2 (u v:Value) (w:World):Result Next:=Sem.run Tryz.prog (execOp (fun x=>match x with
 | .tmp 0=>u
 | _ => v) { dst := none, op := .build 52 #[(0, .tmp 0), (1, .tmp 1)], type := 0, pos := "", after := #[], guard := none }) w
theorem exec_build_ax2 (r:Operand→Value) (x y:Operand) (dst:Option Tmp) (ty:TypeId) (pos:String) (after:Array Edge) (guard:Option (Nat × Bool)) (w:World):
  Sem.run Tryz.prog (execOp r { dst:=dst,op:=.build 52 #[(0,x),(1,y)],type:=ty,pos:=pos,after:=after,guard:=guard }) w=buildAx2 (r x) (r y) w:=by
 unfold buildAx2 execOp
 simp
theorem buildAx2_eq (b vi:Int) (w:World):buildAx2 (.int .i64 b) (.int .i64 vi) w=.ok (.value (.agg (axc ⟨b,vi,0,z32,[],z32⟩ (.slice none 0 0)))) w:=by
 unfold buildAx2
 go_simp
 rfl
structure MkSx (w0 w:World) (g:Nat) (a:AcM) (s:Value):Prop where
 bel:Below w0.heap.size w0 w
 b0:BoxX w w0.heap.size acZ (.slice none 0 0)
 lt:w0.heap.size < g
 b1:BoxX w g a s
section
variable {w0 w w':World} {g:Nat} {a:AcM} {s:Value}
theorem MkSx.below (h:MkSx w0 w g a s) (hb:Below w.heap.size w w'):MkSx w0 w' g a s:=
 ⟨h.bel.trans (hb.mono h.bel.size),(hb.block _ h.b0.lt).trans h.b0,h.lt,(hb.block _ h.b1.lt).trans h.b1⟩
theorem MkSx.app (h:MkSx w0 w g a s) {T:TypeId} {L:List Int} (ho:OwnE icl 1 T (g + 1) w s L) (hg:w.grownBy w' s.ownBlock):MkSx w0 w' g a s:=by
 have hlt:=h.lt
 have hne:∀ k,k≤g→some k≠s.ownBlock:=fun k hk e=>by
  have:=(World.ownsRow.lt ho k e.symm).1
  omega
 refine ⟨h.bel.grown hg h.bel.size (fun k hk=>by have:=(World.ownsRow.lt ho k hk).1;omega),(hg.block _ h.b0.lt (hne _ (by omega))).trans h.b0,hlt,(hg.block _ h.b1.lt (hne _ (Nat.le_refl _))).trans h.b1⟩
theorem MkSx.cell (h:MkSx w0 w g a s) {b:AcM} {v t:Value} (i:Nat) (e:(axc a s).setIfInBounds i v=axc b t):MkSx w0 (w.setCell ⟨g,i,none⟩ v) g b t:=by
 have hlt:=h.lt
 refine ⟨h.bel.setCell (by simp only;omega) _,blk_other h.b0 _ (by omega),hlt,?_⟩
 have:=set_blk h.b1 i v
 rw [e] at this
 exact this
theorem MkSx.refr (h:MkSx w0 w g a s) (f:List Int):MkSx w0 w g { a with fr:=f } s:=⟨h.bel,h.b0,h.lt,h.b1⟩
theorem MkSx.att (h:MkSx w0 w g a s) {b:AcM} {t:Value} (hg:w.grownBy w' (some g)) (hb:BoxX w' g b t):MkSx w0 w' g b t:=by
 have hlt:=h.lt
 exact ⟨h.bel.grown hg h.bel.size (fun k hk=>by injection hk with hk;omega),(hg.block _ h.b0.lt (fun e=>by injection e with e;omega)).trans h.b0,hlt,hb⟩
theorem MkSx.fr (h:MkSx w0 w g a s) (ho:a.Ok):w.cell? ⟨g,35,none⟩=some s∧w.cell? ⟨g,2,none⟩=some (.int .i64 a.pv)∧(∀ i,w.frozen? ⟨g,i,none⟩=false):=⟨h.b1.fr ho,h.b1.ints.2.2,h.b1.free⟩
end
theorem results_xb {fn:Func} {q s:Tmp} (h:fn.results=#[.cell q 52,.tmp s]) (tmps:Array Value) (w:World) (g2:Nat) (t2:TypeId) (ys:Array Value) (v:Value)
  (hq:tmps.getD q undef=.pointer (some ⟨g2,0,none⟩)) (hv:tmps.getD s undef=v) (h2:w.heap[g2]?=some (.cells ys t2 (0,0))) (hy:ys.size=68):
  (results fn tmps).run Tryz.prog w=.ok (.tuple #[.agg ys,v]) w:=by
 have hq':tmps[q]?.getD undef=.pointer (some ⟨g2,0,none⟩):=by simpa using hq
 have hv':tmps[s]?.getD undef=v:=by simpa using hv
 have r2:=run_loadVar_row (P:=Tryz.prog) w g2 t2 52 ys (0,0) _ h2 under_ax rfl (by rw [size_ax,hy])
 simp [results,h,hq',hv',asAddr,r2]
theorem els_att {w:World} {A:Option Addr} {k c:Nat} {l:List AtM} (h:Els atl 101 w (.slice A k c) l) (hok:∀ a ∈ l,a.Ok) (hp:0 < l.length):
  ∃ g og,A=some ⟨g,og,none⟩∧∀ j (h:j < l.length) W,Below w.heap.size w W→loadAtt (.pointer (some ⟨g,og + j * 101,none⟩)) W=.ok (.value (.agg (atc l[j]))) W∧W.cell? ⟨g,og + j * 101,none⟩=some (.int .i64 l[j].bo)∧W.cell? ⟨g,og + j * 101 + 1,none⟩=some (.int .i64 l[j].ki)∧
   W.cell? ⟨g,og + j * 101 + 2,none⟩=some (.int .i64 l[j].vi)∧W.cell? ⟨g,og + j * 101 + 36,none⟩=some (.int .i64 l[j].pv)∧loadH (.pointer (some ⟨g,og + j * 101 + 37,none⟩)) W=.ok (.value (.agg (hcells l[j].pa))) W:=by
 obtain ⟨g,og,rfl,hg,hcl⟩:=h.at_.2.2.2 hp
 refine ⟨g,og,rfl,fun j h W hb=>?_⟩
 have ho:=hok _ (List.getElem_mem h)
 have hr:=range_kept (hcl j h) (hb.block g hg)
 refine ⟨loadAtt_in hr ho,hr 0 _ rfl,hr 1 _ rfl,hr 2 _ rfl,hr 36 _ ?_,loadH_mid (fun i u hu=>?_) ho.pa⟩
 ·rw [atl_pv,List.getElem?_append_right (by simp only [List.length_append,bcells_length,ho.ha,List.length_cons,List.length_nil];omega)]
  simp only [List.length_append,bcells_length,ho.ha,List.length_cons,List.length_nil]
  rfl
 ·rw [Nat.add_assoc]
  refine hr (37 + i) u ?_
  rw [atl_pa,List.getElem?_append_right (by simp only [List.length_append,bcells_length,ho.ha,List.length_cons,List.length_nil];omega)]
  simp only [List.length_append,bcells_length,ho.ha,List.length_cons,List.length_nil]
  rw [show 37 + i - (0 + 1 + 1 + 1 + 1 + (32 + (0 + 1)))=i from by omega,List.getElem?_append_left (List.getElem?_eq_some_iff.1 hu).1]
  exact hu
def MxPost (b n vi:Int) (l:List AtM) (w:World) (e:Ending) (w':World):Prop:=∃ x,e=.returned (.tuple #[x,.int .i64 (makeX b n vi l).2])∧AcV w' x (makeX b n vi l).1∧Below w.heap.size w w'
theorem mxPost_no {b n vi:Int} {l:List AtM} {w w':World} {k:Int} (h:makeX b n vi l=(acZ,k)) (hb:Below w.heap.size w w'):MxPost b n vi l w (.returned (.tuple #[.agg (axc acZ (.slice none 0 0)),.int .i64 k])) w':=by
 unfold MxPost
 rw [h]
 exact ⟨_,rfl,⟨_,rfl,acZ_ok,Els.nil w'⟩,hb⟩
theorem mxPost_yes {b n vi:Int} {l:List AtM} {w w':World} {c:AcM} {s:Value} (h:makeX b n vi l=(c,0)) (ho:c.Ok) (hs:Els icl 1 w' s c.fr) (hb:Below w.heap.size w w'):MxPost b n vi l w (.returned (.tuple #[.agg (axc c s),.int .i64 0])) w':=by
 unfold MxPost
 rw [h]
 exact ⟨_,rfl,⟨_,rfl,ho,hs⟩,hb⟩
end Go.Proofs.YtpdnnmabijmfbaaGreatDoor
namespace Go.Proofs.YtpdnnmabijmfbaaGreatDoor
set_option maxRecDepth 20000
open Go.RowKit
attribute [local go_sem ↓] exec_load_tx exec_load_bk
theorem bkWithin_any (n m:Int) (w:World):Calls Tryz.prog 189 #[.int .i64 n,.int .i64 m] w fun e w'=>e=.returned (.bool (decide (1≤n) && decide (n≤m)))∧w=w':=by
 go_enter Tryz.func189,Tryz.ntmps189
 go_wp2_with fail
 all_goals
  go_ret
  refine ⟨congrArg (fun b=>Ending.returned (Value.bool b)) ?_,rfl⟩
 all_goals grind
theorem bkWrong_any (t:TxM) (w:World) (hk:t.key.length≤1000000) (hv:t.val.length≤1000000):
  Calls Tryz.prog 191 #[txv t] w fun e w'=>e=.returned (.bool (!mayT t))∧Below w.heap.size w w':=by
 have HCK:=hid (fun w=>txCheck_any t w hk hv)
 obtain ⟨m,HM⟩:∃ m:Bool,Hid (mayT t=m):=⟨_,hid rfl⟩
 rw [HM.out] at HCK ⊢
 have hb0:Below w.heap.size w (w.alloc (.cells (tcl t).toArray 170)):=(Below.refl _ _).alloc (Nat.le_refl _) _
 have l0:=loadTx_mid (w:=w.alloc (.cells (tcl t).toArray 170)) (g:=w.heap.size) (o:=0) (t:=t) (fun j u hu=>by
  rw [Nat.zero_add,cell_blk (heap_alloc_new w _) j]
  simpa using hu)
 obtain ⟨X,HX⟩:∃ C:Array Value,Hid ((tcl t).toArray=C):=⟨_,hid rfl⟩
 rw [txv_tcl,HX.out] at l0 HCK ⊢
 rw [HX.out] at hb0
 clear hk hv
 go_enter Tryz.func191,Tryz.ntmps191
 go_wp2_with fail
 refine (HCK.out _).mono ?_
 rintro e w1 ⟨rfl,hb1⟩
 cases m
 all_goals
  go_wp2_with fail
  go_ret
  exact ⟨rfl,hb0.trans (hb1.mono hb0.size)⟩
set_option maxHeartbeats 1600000 in
theorem indexWrong_any (v:Value) (L:List TxM) (w0:World) (hv:Txs w0 v L) (hlk:∀ t ∈ L,t.key.length≤1000000∧t.val.length≤1000000):
  Calls Tryz.prog 210 #[v,.func (.func 191) #[] #[]] w0 fun e w'=>∃ k:Int,e=.returned (.int .i64 k)∧decide (0≤k)=!L.all mayT∧Below w0.heap.size w0 w':=by
 obtain ⟨A,c,rfl⟩:=hv.shape
 obtain ⟨n,HN⟩:∃ n:Nat,Hid (L.length=n):=⟨_,hid rfl⟩
 have hlen:=hv.len
 unfold maxLen at hlen
 rw [HN.out] at hv hlen ⊢
 have HT:=hid hv
 have HLK:=hid hlk
 clear hv hlk
 go_enter Tryz.func210,Tryz.ntmps210
 go_wp2_with fail
 go_loopw [8] (fun si wr=>∃ i:Nat,i≤n∧si=.int .i64 i∧Hid (∀ j (h:j < L.length),j < i→mayT L[j]=true)∧Below w0.heap.size w0 wr) (fun si _=>n - (intOf si).toNat)
 case atStart=>exact ⟨0,Nat.zero_le _,rfl,hid (fun j _ h=>absurd h (by omega)),Below.refl _ _⟩
 case round=>
  obtain ⟨i,hi,rfl,HB,hbr⟩:=hrel
  by_cases hlt:i < n
  ·have hil:i < L.length:=by rw [HN.out];exact hlt
   obtain ⟨ba,oa,rfl,hba,hcla⟩:=(HT.out.below hbr).at_.2.2.2 (by omega)
   have hI:(i:Int) < (n:Int):=by omega
   have l1:loadTx (.pointer (some ⟨ba,oa + i * 7,none⟩)) wr=.ok (.value (txv L[i])) wr:=loadTx_mid (hcla i hil)
   have HW:Hid (∀ W,Calls Tryz.prog 191 #[txv L[i]] W fun e w'=>e=.returned (.bool (!mayT L[i]))∧Below W.heap.size W w'):=hid (fun W=>bkWrong_any _ W (HLK.out _ (List.getElem_mem hil)).1 (HLK.out _ (List.getElem_mem hil)).2)
   obtain ⟨X,HX⟩:∃ C:Array Value,Hid ((tcl L[i]).toArray=C):=⟨_,hid rfl⟩
   obtain ⟨m,HM⟩:∃ q:Bool,Hid (mayT L[i]=q):=⟨_,hid rfl⟩
   rw [txv_tcl,HX.out] at l1
   rw [txv_tcl,HX.out,HM.out] at HW
   clear hcla
   go_wp2_with fail
   refine (HW.out wr).mono ?_
   rintro e w2 ⟨rfl,hb2⟩
   have hbr2:=hbr.trans (hb2.mono hbr.size)
   clear l1
   cases m with
   | false=>
    go_wp2_with fail
    go_ret
    refine ⟨_,rfl,?_,hbr2⟩
    have:L.all mayT=false:=by
     rw [List.all_eq_false]
     exact ⟨_,List.getElem_mem hil,by simp [HM.out]⟩
    rw [this]
    exact decide_eq_true (by omega)
   | true=>
    go_wp2_with fail
    go_roundw
    case rel=>
     refine ⟨i + 1,by omega,by go_num,hid (fun j h hj=>?_),hbr2⟩
     by_cases hji:j < i
     ·exact HB.out j h hji
     ·obtain rfl:j=i:=by omega
      exact HM.out
    case measure=>simp [intOf];omega
  ·obtain rfl:i=n:=by omega
   go_wp2_with fail
   go_ret
   refine ⟨_,rfl,?_,hbr⟩
   have:L.all mayT=true:=by
    rw [List.all_eq_true]
    intro t ht
    obtain ⟨j,hj,rfl⟩:=List.getElem_of_mem ht
    exact HB.out j hj (by have:=HN.out;omega)
   rw [this]
   rfl
theorem containsWrong_any (v:Value) (L:List TxM) (w0:World) (hv:Txs w0 v L) (hlk:∀ t ∈ L,t.key.length≤1000000∧t.val.length≤1000000):
  Calls Tryz.prog 190 #[v,.func (.func 191) #[] #[]] w0 fun e w'=>e=.returned (.bool (!L.all mayT))∧Below w0.heap.size w0 w':=by
 have HI:=hid (indexWrong_any v L w0 hv hlk)
 obtain ⟨A,c,rfl⟩:=hv.shape
 obtain ⟨m,HM⟩:∃ q:Bool,Hid ((!L.all mayT)=q):=⟨_,hid rfl⟩
 rw [HM.out] at HI ⊢
 clear hv hlk
 go_enter Tryz.func190,Tryz.ntmps190
 go_wp2_with fail
 refine HI.out.mono ?_
 rintro e w1 ⟨k,rfl,hk,hb1⟩
 clear HM HI
 subst hk
 go_wp2_with fail
 all_goals
  go_ret
  exact ⟨rfl,hb1⟩
set_option maxHeartbeats 1600000 in
theorem bkIsLater_ok (v:Value) (b:BkM) (w:World) (hv:BkV w v b) (hlk:lightK b):
  Calls Tryz.prog 161 #[v] w fun e w'=>e=.returned (.bool (b.txs.all mayT && numsK b))∧Below w.heap.size w w':=by
 obtain ⟨s,rfl,hp,ht⟩:=hv
 have hb0:Below w.heap.size w (w.alloc (.cells (bkc b s) 49)):=(Below.refl _ _).alloc (Nat.le_refl _) _
 have hA:=BoxK.new w b s
 have ht0:=ht.below hb0
 obtain ⟨A,c,rfl⟩:=ht.shape
 obtain ⟨L,HL⟩:∃ n:Nat,Hid (b.txs.length=n):=⟨_,hid rfl⟩
 obtain ⟨C,HC⟩:∃ C:Array Value,Hid (bkc b (.slice A b.txs.length c)=C):=⟨_,hid rfl⟩
 rw [HC.out]
 rw [HC.out] at hA hb0 ht0
 rw [HL.out] at hA ht0
 obtain ⟨ans,HAN⟩:∃ q:Bool,Hid ((b.txs.all mayT && numsK b)=q):=⟨_,hid rfl⟩
 rw [HAN.out]
 clear ht
 go_enter Tryz.func161,Tryz.ntmps161
 go_upto_region 1 with (fail)
 generalize (w.alloc (.cells C 49))=w0 at *
 obtain ⟨k1,k2,k3,k4⟩:=hA.cells hp
 clear hA
 obtain ⟨q1,HQ1⟩:∃ q:Bool,Hid ((decide (1≤b.vi) && decide (b.vi≤1099511627776))=q):=⟨_,hid rfl⟩
 obtain ⟨q2,HQ2⟩:∃ q:Bool,Hid ((decide (1≤b.he) && decide (b.he≤1099511627776))=q):=⟨_,hid rfl⟩
 obtain ⟨q3,HQ3⟩:∃ q:Bool,Hid ((decide (1≤b.bo) && decide (b.bo≤21))=q):=⟨_,hid rfl⟩
 obtain ⟨q4,HQ4⟩:∃ q:Bool,Hid (decide (L≤8)=q):=⟨_,hid rfl⟩
 obtain ⟨q5,HQ5⟩:∃ q:Bool,Hid (b.txs.all mayT=q):=⟨_,hid rfl⟩
 have HN:Hid (ans=(q1 && q2 && q3 && (q4 && q5))):=hid (by
  rw [← HAN.out,← HQ1.out,← HQ2.out,← HQ3.out,← HQ4.out,← HQ5.out,← HL.out]
  unfold numsK
  ac_rfl)
 have HW1:=hid (bkWithin_any b.vi 1099511627776 w0)
 have HW2:=hid (bkWithin_any b.he 1099511627776 w0)
 have HW3:=hid (bkWithin_any b.bo 21 w0)
 have HCF:=hid (containsWrong_any _ _ w0 ht0 hlk)
 rw [HQ1.out] at HW1
 rw [HQ2.out] at HW2
 rw [HQ3.out] at HW3
 rw [HQ5.out] at HCF
 clear ht0 hlk
 go_wp2_with fail
 refine HW1.out.mono ?_
 rintro e w1 ⟨rfl,rfl⟩
 clear k1
 cases q1 with
 | false=>
  obtain rfl:ans=false:=HN.out
  go_wp2_with fail
  go_ret
  exact ⟨rfl,hb0⟩
 | true=>
  go_wp2_with fail
  refine HW2.out.mono ?_
  rintro e w1 ⟨rfl,rfl⟩
  clear k2
  cases q2 with
  | false=>
   obtain rfl:ans=false:=HN.out
   go_wp2_with fail
   go_ret
   exact ⟨rfl,hb0⟩
  | true=>
   go_wp2_with fail
   refine HW3.out.mono ?_
   rintro e w1 ⟨rfl,rfl⟩
   clear k3
   cases q3 with
   | false=>
    obtain rfl:ans=false:=HN.out
    go_wp2_with fail
    go_ret
    exact ⟨rfl,hb0⟩
   | true=>
    cases q4 with
    | false=>
     obtain rfl:ans=false:=HN.out
     have hi:¬ (L:Int)≤8:=by have:=of_decide_eq_false HQ4.out;omega
     go_wp2_with fail
     go_ret
     exact ⟨rfl,hb0⟩
    | true=>
     have hi:(L:Int)≤8:=by have:=of_decide_eq_true HQ4.out;omega
     go_wp2_with fail
     refine HCF.out.mono ?_
     rintro e w1 ⟨rfl,hb1⟩
     have e:ans=q5:=by rw [HN.out];simp
     subst e
     cases ans
     all_goals
      go_wp2_with fail
      go_ret
      exact ⟨rfl,hb0.trans (hb1.mono hb0.size)⟩
set_option maxHeartbeats 1600000 in
theorem bkCheck_ok:BkCheckOk:=by
 intro v b w hv hlk
 have HV:=hid (fun W (h:Below w.heap.size w W)=>hv.below h)
 obtain ⟨s,rfl,hp,ht⟩:=hv
 obtain ⟨C,HC⟩:∃ C:Array Value,Hid (bkc b s=C):=⟨_,hid rfl⟩
 rw [HC.out] at HV ⊢
 have HSZ:Hid (C.size=36):=hid (by rw [← HC.out];exact bkc_size _ hp)
 have hr0:=heap_alloc_new w (.cells C 49)
 have hb0:Below w.heap.size w (w.alloc (.cells C 49)):=(Below.refl _ _).alloc (Nat.le_refl _) _
 obtain ⟨f,HF⟩:∃ q:Bool,Hid (sameK b bkZ=q):=⟨_,hid rfl⟩
 obtain ⟨g,HG⟩:∃ q:Bool,Hid ((b.txs.all mayT && numsK b)=q):=⟨_,hid rfl⟩
 have HMK:Hid (mayK b=(f || g)):=hid (by unfold mayK;rw [HF.out,HG.out])
 have HIF:Hid (∀ W,Below w.heap.size w W→Calls Tryz.prog 160 #[.agg C] W fun e w'=>e=.returned (.bool f)∧Below W.heap.size W w'):=hid (fun W h=>by
  have:=bkIsFirst_ok _ b W (HV.out W h)
  rw [HF.out] at this
  exact this)
 have HIL:Hid (∀ W,Below w.heap.size w W→Calls Tryz.prog 161 #[.agg C] W fun e w'=>e=.returned (.bool g)∧Below W.heap.size W w'):=hid (fun W h=>by
  have:=bkIsLater_ok _ b W (HV.out W h) hlk
  rw [HG.out] at this
  exact this)
 rw [HMK.out]
 clear ht
 go_enter Tryz.func115,Tryz.ntmps115
 go_upto_region 1 with (fail)
 generalize (w.alloc (.cells C 49))=w0 at *
 have hl0:=lt_of_block hr0
 have HLD:Hid (∀ W:World,Below w0.heap.size w0 W→loadK (.pointer (some ⟨w.heap.size,0,none⟩)) W=.ok (.value (.agg C)) W):=hid (fun W h=>loadK_row ((h.block _ hl0).trans hr0) HSZ.out)
 have l0:=HLD.out w0 (Below.refl _ _)
 clear hr0 hl0
 go_wp2_with fail
 refine (HIF.out w0 hb0).mono ?_
 rintro e w1 ⟨rfl,hb1⟩
 have hB1:=hb0.trans (hb1.mono hb0.size)
 have l1:=HLD.out w1 hb1
 clear l0
 cases f with
 | true=>
  clear l1
  go_wp2_with fail
  go_ret
  exact ⟨rfl,hB1⟩
 | false=>
  go_wp2_with fail
  refine (HIL.out w1 hB1).mono ?_
  rintro e w2 ⟨rfl,hb2⟩
  clear l1
  cases g
  all_goals
   go_wp2_with fail
   go_ret
   exact ⟨rfl,hB1.trans (hb2.mono hB1.size)⟩
end Go.Proofs.YtpdnnmabijmfbaaGreatDoor
namespace Go.Proofs.YtpdnnmabijmfbaaGreatDoor
set_option maxRecDepth 20000
open Go.RowKit
set_option maxHeartbeats 6400000 in
theorem like14_any {b c a:Nat} (V:VaM) (C:Array Value) (w:World) (hv:Vlt w b c a V) (g:V.Good) (hC:RvC w C V):Calls Tryz.prog 18 #[.pointer (some ⟨b,0,none⟩),.agg C] w fun e w'=>e=.returned (.bool true)∧Below w.heap.size w w':=by
 obtain ⟨v0,v1,vh,wh,rfl,hy0,hy1,_,_⟩:=hC
 have hr0:BoxRv (w.alloc (.cells (rvc V v0 v1 vh wh) 36)) w.heap.size V v0 v1 vh wh:=heap_alloc_new w _
 have HB0:=hid (show Below w.heap.size w (w.alloc (.cells (rvc V v0 v1 vh wh) 36)) from (Below.refl _ _).alloc (Nat.le_refl _) _)
 have HV:Hid (∀ W,Below w.heap.size w W→Vlt W b c a V):=hid (fun W hb=>hv.below hb)
 have HY:Hid (∀ W,Below w.heap.size w W→Byt W v0 V.s0∧Byt W v1 V.s1):=hid (fun W hb=>⟨hy0.byt.below hb,hy1.byt.below hb⟩)
 obtain ⟨D,HD⟩:∃ x:Array Value,Hid (rvc V v0 v1 vh wh=x):=⟨_,hid rfl⟩
 have HDD:Hid (∀ W,Below w.heap.size w W→Calls Tryz.prog 47 #[.pointer (some ⟨b,0,none⟩)] W fun e w'=>e=.returned (.bool V.dead)∧W=w'):=hid (fun W hb=>by obtain ⟨_,_,_,h⟩:=hv.below hb;exact vDead_any h)
 have HAT:Hid (∀ W,Below w.heap.size w W→Calls Tryz.prog 48 #[.pointer (some ⟨b,0,none⟩)] W fun e w'=>e=.returned (.int .i64 V.n)∧W=w'):=hid (fun W hb=>by obtain ⟨_,_,_,h⟩:=hv.below hb;exact vAt_any h g)
 have HSL:Hid (∀ k W,Below w.heap.size w W→Calls Tryz.prog 50 #[.pointer (some ⟨b,0,none⟩),.int .i64 k] W fun e w'=>∃ x,e=.returned x∧Byt w' x (slotV V k)∧Below W.heap.size W w'):=hid (fun k W hb=>vSlot_any (hv.below hb) g k)
 rw [HD.out] at hr0 HB0 ⊢
 clear hy0 hy1 hv g
 go_enter Tryz.func18,Tryz.ntmps18
 go_upto_region 1 with (fail)
 generalize (w.alloc (.cells D 36))=wz at *
 have HBX:=hid hr0
 have HBW:Hid (∀ W,Below wz.heap.size wz W→Below w.heap.size w W):=hid (fun W hb=>HB0.out.trans (hb.mono HB0.out.size))
 have HCL:Hid (∀ W,Below wz.heap.size wz W→W.cell? ⟨w.heap.size,1,none⟩=some v0∧W.cell? ⟨w.heap.size,2,none⟩=some v1∧W.cell? ⟨w.heap.size,3,none⟩=some (.int .i64 V.n)∧W.cell? ⟨w.heap.size,5,none⟩=some (.bool V.dead)):=hid (fun W hb=>by
  obtain ⟨_,h1,h2,h3,_,h5,_,_⟩:=(HBX.out.below hb).cells
  exact ⟨h1,h2,h3,h5⟩)
 have hbd:Below wz.heap.size wz wz.drew:=(Below.refl _ _).drew
 have hdd:(V.dead == V.dead)=true:=by simp
 have hnn:(V.n == V.n)=true:=by simp
 clear hr0
 refine wp_region_held_drew (S:=fun W=>W.cell? ⟨w.heap.size,1,none⟩=some v0∧W.cell? ⟨w.heap.size,2,none⟩=some v1∧W.cell? ⟨w.heap.size,3,none⟩=some (.int .i64 V.n)∧W.cell? ⟨w.heap.size,5,none⟩=some (.bool V.dead)) (by kernel_rfl) (HCL.out _ hbd) (fun hHeld=>?_)
 refine' tkq 0 rfl ?_;try simp only [lay]
 refine' tkq 1 rfl ?_;try simp only [lay]
 refine' tkq 2 rfl ?_;try simp only [lay]
 refine' tkq 3 rfl ?_;try simp only [lay]
 refine' tkq 5 rfl ?_;try simp only [lay]
 refine' tkq4 6 rfl ?_;try simp only [lay]
 refine call_on (i:=4) rfl (by kernel_rfl) (by rfl) (fun K hK=>?_)
 go_simp
 refine (HDD.out _ (HBW.out _ hbd)).mono ?_
 rintro e x1 ⟨rfl,rfl⟩
 refine hK.out _ _ (HCL.out _ hbd) (fun hHeld=>?_)
 clear hK K
 try simp only [lay]
 refine' tkq 7 rfl ?_;try simp only [lay]
 refine' tkq 8 rfl ?_;try simp only [lay]
 refine' tkq 9 rfl ?_;try simp only [lay]
 refine' tkq 10 rfl ?_;try simp only [lay]
 refine' tkq 12 rfl ?_;try simp only [lay]
 refine' tkq4 13 rfl ?_;try simp only [lay]
 refine call_on (i:=11) rfl (by kernel_rfl) (by rfl) (fun K hK=>?_)
 go_simp
 refine (HAT.out _ (HBW.out _ hbd)).mono ?_
 rintro e x1 ⟨rfl,rfl⟩
 refine hK.out _ _ (HCL.out _ hbd) (fun hHeld=>?_)
 clear hK K
 try simp only [lay]
 refine' tkq 14 rfl ?_;try simp only [lay]
 refine' tkq 15 rfl ?_;try simp only [lay]
 refine' tkq 16 rfl ?_;try simp only [lay]
 refine' tkq 17 rfl ?_;try simp only [lay]
 refine' tkq 19 rfl ?_;try simp only [lay]
 refine' tkq 20 rfl ?_;try simp only [lay]
 refine' tkq4 21 rfl ?_;try simp only [lay]
 refine call_on (i:=18) rfl (by kernel_rfl) (by rfl) (fun K hK=>?_)
 go_simp
 refine (HSL.out 0 _ (HBW.out _ hbd)).mono ?_
 rintro e x2 ⟨s0,rfl,hs0,hb2'⟩
 have hb2:=hbd.trans (hb2'.mono hbd.size)
 refine hK.out _ _ (HCL.out _ hb2) (fun hHeld=>?_)
 clear hK K
 try simp only [lay]
 refine call_on (i:=22) rfl (by kernel_rfl) (by rfl) (fun K hK=>?_)
 go_simp
 refine (same_yes _ _ V.s0 x2 hs0 (HY.out _ (HBW.out _ hb2)).1).mono ?_
 rintro e x3 ⟨rfl,m3,rfl⟩
 have hb3:=below_drewN hb2 m3
 refine hK.out _ _ (HCL.out _ hb3) (fun hHeld=>?_)
 clear hK K
 try simp only [lay]
 refine' tkq 23 rfl ?_;try simp only [lay]
 refine' tkq 24 rfl ?_;try simp only [lay]
 refine' tkq 25 rfl ?_;try simp only [lay]
 refine' tkq 27 rfl ?_;try simp only [lay]
 refine' tkq 28 rfl ?_;try simp only [lay]
 refine' tkq4 29 rfl ?_;try simp only [lay]
 refine call_on (i:=26) rfl (by kernel_rfl) (by rfl) (fun K hK=>?_)
 go_simp
 refine (HSL.out 1 _ (HBW.out _ hb3)).mono ?_
 rintro e x4 ⟨s1,rfl,hs1,hb4'⟩
 have hb4:=hb3.trans (hb4'.mono hb3.size)
 refine hK.out _ _ (HCL.out _ hb4) (fun hHeld=>?_)
 clear hK K
 try simp only [lay]
 refine call_on (i:=30) rfl (by kernel_rfl) (by rfl) (fun K hK=>?_)
 go_simp
 refine (same_yes _ _ V.s1 x4 hs1 (HY.out _ (HBW.out _ hb4)).2).mono ?_
 rintro e x5 ⟨rfl,m5,rfl⟩
 have hb5:=below_drewN hb4 m5
 refine hK.out _ _ (HCL.out _ hb5) (fun hHeld=>?_)
 clear hK K
 try simp only [lay]
 refine' tkq 31 rfl ?_;try simp only [lay]
 refine' tkq 32 rfl ?_;try simp only [lay]
 refine' tkq 33 rfl ?_;try simp only [lay]
 refine call_on (i:=34) rfl (by kernel_rfl) (by rfl) (fun K hK=>?_)
 go_simp
 refine (HSL.out 2 _ (HBW.out _ hb5)).mono ?_
 rintro e x6 ⟨s2,rfl,hs2,hb6'⟩
 have hb6:=hb5.trans (hb6'.mono hb5.size)
 obtain ⟨A6,c6,r6⟩:=hs2.shape
 have e6:(slotV V 2).length=0:=rfl
 rw [e6] at r6
 subst r6
 refine hK.out _ _ (HCL.out _ hb6) (fun hHeld=>?_)
 clear hK K
 try simp only [lay]
 refine' tkq 35 rfl ?_;try simp only [lay]
 refine' tkq 36 rfl ?_;try simp only [lay]
 refine' tkq 37 rfl ?_;try simp only [lay]
 refine' tkq 38 rfl ?_;try simp only [lay]
 refine wpAnyH_done (by kernel_rfl) ?_ _
 have HBF:=hid hb6
 clear hHeld hb6 hb6' hb5 hb4 hb4' hb3 hb2 hb2' hbd hs0 hs1 hs2
 go_wp2_with fail
 go_ret
 exact ⟨rfl,HBW.out _ HBF.out⟩
end Go.Proofs.YtpdnnmabijmfbaaGreatDoor
