/-
  SeCodeTagged BkHash BkRd BkOk VaWords VaEq: what each of them says stands at its head.
-/
import Derived.Test.YtpdnnmabijmfbaaGreatDoorBs12
import Derived.Test.YtpdnnmabijmfbaaGreatDoorBs13
import Derived.Test.YtpdnnmabijmfbaaGreatDoorBs15
namespace Go.Proofs.YtpdnnmabijmfbaaGreatDoor
set_option maxRecDepth 20000
open Go.RowKit
attribute [local go_sem ↓] exec_load_hash
theorem seVers_any (n:Int) (w:World):Calls Tryz.prog 110 #[.int .i64 n] w fun e w'=>e=.returned (.bool (versB n))∧w=w':=by
 obtain ⟨q,HQ⟩:∃ q:Bool,Hid (versB n=q):=⟨_,hid rfl⟩
 rw [HQ.out]
 go_enter Tryz.func110,Tryz.ntmps110
 go_wp2_with fail
 all_goals
  go_ret
  refine ⟨?_,rfl⟩
  refine congrArg (fun b=>Ending.returned (Value.bool b)) ?_
  rw [← HQ.out]
  unfold versB
 all_goals grind
def numS (n:Int) (s:SeM) (i:Nat):Int:=[n,s.vi,s.ph,s.pv].getD i 0
def preS (n:Int) (s:SeM) (i:Nat):List UInt8:=(([n,s.vi,s.ph,s.pv].take i).map fun n=>dg n.toNat).flatten
theorem preS_more (n:Int) (s:SeM) (i:Nat) (h:i < 4):preS n s (i + 1)=preS n s i ++ dg (numS n s i).toNat:=by
 unfold preS numS
 have:i=0∨i=1∨i=2∨i=3:=by omega
 rcases this with rfl | rfl | rfl | rfl <;> simp
theorem numS_le {n:Int} {s:SeM} (hn:versB n=true) (hm:mayS s=true) (i:Nat):0≤numS n s i∧numS n s i≤1099511627776:=by
 obtain ⟨h1,h2,h3,h4,h5,h6⟩:=mayS_iff hm
 unfold versB at hn
 rw [decide_eq_true_eq] at hn
 unfold numS
 match i with
 | 0=>simp;omega
 | 1=>simp;omega
 | 2=>simp;omega
 | 3=>simp;omega
 | k + 4=>simp
theorem preS_len {n:Int} {s:SeM} (hn:versB n=true) (hm:mayS s=true) (i:Nat):(preS n s i).length≤40:=by
 obtain ⟨h1,h2,h3,h4,h5,h6⟩:=mayS_iff hm
 unfold versB at hn
 rw [decide_eq_true_eq] at hn
 have e0:=dg_len10 (n:=n.toNat) (by omega)
 have e1:=dg_len10 (n:=s.vi.toNat) (by omega)
 have e2:=dg_len10 (n:=s.ph.toNat) (by omega)
 have e3:=dg_len10 (n:=s.pv.toNat) (by omega)
 unfold preS
 match i with
 | 0=>simp
 | 1=>simp;omega
 | 2=>simp;omega
 | 3=>simp;omega
 | k + 4=>simp;omega
theorem preS_all (n:Int) (s:SeM):preS n s 4 ++ s.pa=taggedS n s:=by
 unfold preS taggedS
 simp
theorem arr4:ArrT 216 3 4 (.int .i64 0):=⟨by kernel_rfl,by kernel_rfl,by kernel_rfl,by kernel_rfl,by kernel_rfl,by kernel_rfl,rfl⟩
theorem wpList_build_four {ops:Array Oper} {rest:List Oper} {o:Oper} {a:Act} {w:World} {Q:Exit→Act→World→Prop} (hgd:o.guard=none) {x0 x1 x2 x3:Operand} (ho:o.op=.build 216 #[(0,x0),(1,x1),(2,x2),(3,x3)])
  (v0 v1 v2 v3:Int) (h0:a.eval x0=.int .i64 v0) (h1:a.eval x1=.int .i64 v1) (h2:a.eval x2=.int .i64 v2) (h3:a.eval x3=.int .i64 v3)
  (h:wpList Tryz.prog ops Q rest (a.put o.dst (.agg #[.int .i64 v0,.int .i64 v1,.int .i64 v2,.int .i64 v3])) w):wpList Tryz.prog ops Q (o :: rest) a w:=
 wpList_plain hgd fun _ hK=>by
  have e:(Instr.build 216 #[(0,.int .i64 v0),(1,.int .i64 v1),(2,.int .i64 v2),(3,.int .i64 v3)]).run Tryz.prog w=.ok (.agg #[.int .i64 v0,.int .i64 v1,.int .i64 v2,.int .i64 v3]) w:=by
   have e2:fcells 4 (fun _=>(.int .i64 0:Value))=#[.int .i64 0,.int .i64 0,.int .i64 0,.int .i64 0]:=by kernel_rfl
   simp [Instr.build,Sem.run_bind,arr4.run_zero,run_underlying arr4.under,arr4.run_esize,Instr.fill,Value.cells,e2]
  unfold Oper.wp execOp
  simp only [ho,Sem.run_bind,List.map_toArray,List.map_cons,List.map_nil,h0,h1,h2,h3,e,Sem.run_pure,Result.andThen_ok]
  exact hK _ _ h
theorem four_index (a b c d:Int) (i:Nat) (hi:i < 4) (w:World):(Instr.index 216 (.agg #[.int .i64 a,.int .i64 b,.int .i64 c,.int .i64 d]) (.int .i64 (i:Int))).run Tryz.prog w=.ok (.int .i64 ([a,b,c,d].getD i 0)) w:=by
 have e2:(#[.int .i64 a,.int .i64 b,.int .i64 c,.int .i64 d]:Array Value)=fcells 4 (fun j=>.int .i64 ([a,b,c,d].getD j 0)):=rfl
 rw [e2,arr4.run_index _ hi]
set_option maxHeartbeats 3200000 in
theorem setagged_any (n:Int) (s:SeM) (w:World) (ho:s.Ok) (hn:versB n=true) (hm:mayS s=true):
  Calls Tryz.prog 112 #[.int .i64 n,.agg (sec s)] w fun e w'=>∃ x,e=.returned x∧Own w.heap.size w' x (taggedS n s)∧Below w.heap.size w w':=by
 have hb0:Below w.heap.size w (w.alloc (.cells (sec s) 40)):=(Below.refl _ _).alloc (Nat.le_refl _) _
 have hA:=BoxSe.new w s
 have HN:Hid (∀ i,0≤numS n s i∧numS n s i≤1099511627776):=hid (fun i=>numS_le hn hm i)
 have HPS:Hid (∀ i,(preS n s i).length≤40):=hid (fun i=>preS_len hn hm i)
 have HALL:=hid (preS_all n s)
 have HMORE:=hid (fun i h=>preS_more n s i h)
 obtain ⟨C,HC⟩:∃ C:Array Value,Hid (sec s=C):=⟨_,hid rfl⟩
 obtain ⟨O,HO⟩:∃ O:List UInt8,Hid (taggedS n s=O):=⟨_,hid rfl⟩
 rw [HO.out] at HALL
 have HP0:Hid (preS n s 0=[]):=hid rfl
 have HIX0:=hid (fun i hi w=>four_index n s.vi s.ph s.pv i hi w)
 have HIX:Hid (∀ i:Nat,i < 4→∀ w,(Instr.index 216 (.agg #[.int .i64 n,.int .i64 s.vi,.int .i64 s.ph,.int .i64 s.pv]) (.int .i64 (i:Int))).run Tryz.prog w=.ok (.int .i64 (numS n s i)) w):=hid (fun i hi w=>HIX0.out i hi w)
 obtain ⟨N,HNF⟩:∃ f:Nat→Int,Hid (numS n s=f):=⟨_,hid rfl⟩
 obtain ⟨P,HPF⟩:∃ f:Nat→List UInt8,Hid (preS n s=f):=⟨_,hid rfl⟩
 rw [HNF.out] at HN HIX
 rw [HNF.out,HPF.out] at HMORE
 rw [HPF.out] at HPS HALL HP0
 rw [HC.out] at hb0 hA ⊢
 rw [HO.out]
 have hpl:s.pa.length=32:=ho
 have HPL:=hid hpl
 have HA:=hid hA
 have hlA:=hA.lt
 clear hA hpl ho HC hn hm HIX0 HNF HPF HO
 obtain ⟨vi,ph,pv,pa⟩:=s
 simp only at HALL HPL HIX
 go_enter Tryz.func112,Tryz.ntmps112
 go_upto_region 1 with (fail)
 generalize (w.alloc (.cells C 40))=w0 at *
 obtain ⟨k0,k1,k2⟩:=HA.out.cells
 simp only at k0 k1 k2
 have HLH:Hid (∀ W,Below w0.heap.size w0 W→loadH (.pointer (some ⟨w.heap.size,3,none⟩)) W=.ok (.value (.agg (hcells pa))) W):=hid (fun W h=>loadH_mid (HA.out.below h hlA).hash HPL.out)
 have HB0:=hid hb0
 obtain ⟨D,HD⟩:∃ D:Array Value,Hid (#[.int .i64 n,.int .i64 vi,.int .i64 ph,.int .i64 pv]=D):=⟨_,hid rfl⟩
 rw [HD.out] at HIX
 clear HA hlA hb0
 go_wp2_with (refine wpList_build_four rfl rfl _ _ _ _ rfl rfl rfl rfl ?_)
 rw [HD.out]
 clear k0 k1 k2
 go_loopw [5,16] (fun out si wr=>∃ i:Nat,i≤4∧si=.int .i64 i∧Byt wr out (P i)∧Below w0.heap.size w0 wr) (fun _ si _=>4 - (intOf si).toNat)
 case atStart=>exact ⟨0,by omega,rfl,by rw [HP0.out];exact Byt.nil _,Below.refl _ _⟩
 case round=>
  obtain ⟨i,hi,rfl,hbt,hbr⟩:=hrel
  have HBT:=hid hbt
  have HBR:=hid hbr
  have HPI:=hid (HPS.out i)
  clear hbt hbr
  by_cases hlt:i < 4
  ·have i0:=HIX.out i hlt
   have HX0:=hid (HN.out i)
   have HNX:=hid (HMORE.out i hlt)
   obtain ⟨x,HXV⟩:∃ n:Int,Hid (N i=n):=⟨_,hid rfl⟩
   rw [HXV.out] at i0 HX0 HNX
   have C:=num_any _ (P i) x wr HBT.out (by have:=HX0.out;omega) (by have:=HX0.out;omega) (by have:=HPI.out;omega)
   rw [← HNX.out] at C
   have HC:=hid C
   have hwx:IntKind.u64.wrap x=x:=by have:=HX0.out;exact wrap_u64 x (by omega) (by omega)
   have hlt':(i:Int) < 4:=by omega
   have HLT:=hid hlt
   clear C hi
   go_wp2_with fail
   refine HC.out.mono ?_
   rintro e w2 ⟨x2,rfl,hx2,hb2⟩
   have HX2:=hid hx2.byt
   have HB2:=hid (HBR.out.trans (hb2.mono HBR.out.size))
   clear hx2 hb2 hwx i0
   go_wp2_with fail
   go_roundw
   case rel=>exact ⟨i + 1,by have:=HLT.out;omega,by go_num,HX2.out,HB2.out⟩
   case measure=>have:=HLT.out;simp [intOf];omega
  ·obtain rfl:i=4:=by omega
   have hn4:¬ ((4:Int) < 4):=by omega
   have l4:=HLH.out wr HBR.out
   clear hlt hi
   go_wp2_with fail
   refine (hash_any _ (P 4) pa wr HBT.out (by have:=HPI.out;omega) HPL.out).mono ?_
   rintro e w3 ⟨v3,rfl,ho3,hb3⟩
   rw [HALL.out] at ho3
   clear l4
   go_wp2_with fail
   go_ret
   have hs:=HBR.out.size
   have hs0:=HB0.out.size
   exact ⟨v3,rfl,ho3.more (by omega),HB0.out.trans ((HBR.out.trans (hb3.mono HBR.out.size)).mono HB0.out.size)⟩
end Go.Proofs.YtpdnnmabijmfbaaGreatDoor
namespace Go.Proofs.YtpdnnmabijmfbaaGreatDoor
set_option maxRecDepth 20000
open Go.RowKit
attribute [local go_sem ↓] exec_load_bk
def wordK:List UInt8:=[98,108,111,99,107]
theorem word_byt (w:World):Byt (w.alloc (.cells #[.int .u8 98,.int .u8 108,.int .u8 111,.int .u8 99,.int .u8 107] 5 (5,6))) (.slice (some ⟨w.heap.size,0,none⟩) 5 5) wordK:=
 byt_row (l:=wordK) (heap_alloc_new w _) (by decide)
theorem cells_byt {w:World} {a:Addr} {n c:Nat} {l:List UInt8} (h:Byt w (.slice (some a) n c) l):∀ j u,(bcells l)[j]?=some u→w.cell? (a.add j)=some u:=fun j u hu=>by
 obtain ⟨hj,rfl⟩:=bcells_get l j u hu
 obtain ⟨b,off,e,_,hc⟩:=h.at_.2.2.2 (by omega)
 injection e with e
 subst e
 rw [addr_add]
 exact hc j hj
noncomputable def hashK (b:BkM) (j:Nat):UInt8:=if mayK b=true∧b.vi≠0 then sumS (wordK ++ bytesK b) j else 0
theorem bytesK_len {b:BkM} (hp:b.par.length=32) (hm:mayK b=true):(bytesK b).length≤3000:=by
 obtain ⟨hall,h1,h2,h3,h4,h5,h6,h7⟩:=mayK_all hm
 have hf:=flat_len b.txs hall
 have e1:=dg_len10 (n:=b.vi.toNat) (by omega)
 have e2:=dg_len10 (n:=b.he.toNat) (by omega)
 have e3:=dg_len10 (n:=b.bo.toNat) (by omega)
 have e4:=dg_len10 (n:=b.txs.length) (by omega)
 unfold bytesK
 simp only [List.length_append]
 omega
theorem bytesK_pos {b:BkM} (hp:b.par.length=32):0 < (bytesK b).length:=by
 unfold bytesK
 simp only [List.length_append]
 omega
set_option maxHeartbeats 3200000 in
theorem refHash7_any (v:Value) (b:BkM) (w:World) (hv:BkV w v b) (hlk:lightK b) (hK:Kst 0 w):
  Calls Tryz.prog 124 #[v] w fun e w'=>e=.returned (.agg (fcells 32 fun j=>bcell (hashK b j)))∧Below w.heap.size w w':=by
 have HV:=hid hv
 obtain ⟨s,rfl,hp,ht⟩:=hv
 obtain ⟨A,c,rfl⟩:=ht.shape
 obtain ⟨C,HC⟩:∃ C:Array Value,Hid (bkc b (.slice A b.txs.length c)=C):=⟨_,hid rfl⟩
 obtain ⟨D,HD⟩:∃ D:Nat→Value,Hid ((fun j=>bcell (hashK b j))=D):=⟨_,hid rfl⟩
 have hD1:∀ i,i < 32→(D i).oneCell'=true:=by rw [← HD.out];intro i _;rfl
 have hr0:=heap1 w (.cells C 49) (.cells (fcells 32 fun _=>bcell 0) 38)
 have hH0:Blk ((w.alloc (.cells C 49)).alloc (.cells (fcells 32 fun _=>bcell 0) 38)) (w.heap.size + 1) 32 (fun _=>bcell 0) 38:=heap2 w (.cells C 49) _
 have hb0:Below w.heap.size w ((w.alloc (.cells C 49)).alloc (.cells (fcells 32 fun _=>bcell 0) 38)):=((Below.refl _ _).alloc (Nat.le_refl _) _).alloc (by simp) _
 have HKB:=hid (fun W (h:Below w.heap.size w W)=>(show Kst 0 W from hK.below h))
 have HMA:Hid (∀ W,Below w.heap.size w W→Calls Tryz.prog 122 #[.agg C] W fun e w'=>e=.returned (.bool (mayK b))∧Below W.heap.size W w'):=hid (fun W h=>by
  have:=HV.out.below h
  rw [HC.out] at this
  exact refMay7_any _ b W this hlk)
 have HPT:Hid (mayK b=true→∀ W,Below w.heap.size w W→Calls Tryz.prog 170 #[.agg C] W fun e w'=>∃ x,e=.returned x∧Own W.heap.size w' x (bytesK b)∧Below W.heap.size W w'):=hid (fun hm W h=>by
  have:=HV.out.below h
  rw [HC.out] at this
  exact refPut7_any _ b W this hm)
 have HBX:Hid (∀ W:World,W.heap[w.heap.size]?=some (.cells C 49 (0,0))→W.cell? ⟨w.heap.size,32,none⟩=some (.int .i64 b.vi)∧loadK (.pointer (some ⟨w.heap.size,0,none⟩)) W=.ok (.value (.agg C)) W):=hid (fun W h=>by
  rw [← HC.out] at h ⊢
  exact ⟨(BoxK.cells (g:=w.heap.size) (b:=b) (s:=.slice A b.txs.length c) h hp).1,loadK_eq h hp⟩)
 have HBL:Hid (mayK b=true→(bytesK b).length≤3000):=hid (fun hm=>bytesK_len hp hm)
 obtain ⟨m,HM⟩:∃ m:Bool,Hid (mayK b=m):=⟨_,hid rfl⟩
 rw [HM.out] at HMA
 have HWO:=hid word_byt
 have HPP:=hid (bytesK_pos hp)
 rw [HC.out,HD.out]
 obtain ⟨n,HN⟩:∃ n:Int,Hid (b.vi=n):=⟨_,hid rfl⟩
 rw [HN.out] at HBX
 clear HV ht hK hlk
 go_enter Tryz.func124,Tryz.ntmps124
 go_upto_region 1 with (refine wpList_alloc_arr arrH rfl rfl ?_)
 generalize ((w.alloc (.cells C 49)).alloc (.cells (fcells 32 fun _=>bcell 0) 38))=w0 at *
 have hl0:=lt_of_block hr0
 have HR0:=hid hr0
 have l0:=(HBX.out w0 hr0).2
 clear hr0
 go_wp2_with fail
 refine (HMA.out w0 hb0).mono ?_
 rintro e w1 ⟨rfl,hb1⟩
 have hH1:=hH0.keep hb1
 have hB1:=hb0.trans (hb1.mono hb0.size)
 obtain ⟨k1,l1⟩:=HBX.out w1 ((hb1.block _ hl0).trans HR0.out)
 clear l0 hH0
 by_cases hgo:m=true∧n≠0
 ·obtain ⟨rfl,hn⟩:=hgo
  have hn0:(n == 0)=false:=by simpa using hn
  have HDM:Hid (D=fun j=>bcell (sumS (wordK ++ bytesK b) j)):=hid (by
   rw [← HD.out]
   funext j
   unfold hashK
   rw [if_pos ⟨HM.out,by rw [HN.out];exact hn⟩])
  clear hn
  have how:=HWO.out w1
  have hb1w:Below w1.heap.size w1 (w1.alloc (.cells #[.int .u8 98,.int .u8 108,.int .u8 111,.int .u8 99,.int .u8 107] 5 (5,6))):=(Below.refl _ _).alloc (Nat.le_refl _) _
  have l2:=(HBX.out _ ((hb1w.block _ (Nat.lt_of_lt_of_le hl0 hb1.size)).trans ((hb1.block _ hl0).trans HR0.out))).2
  have hcv:=Go.Lib.run_convert_bytes_const (P:=Tryz.prog) w1 33 5 #[.int .u8 98,.int .u8 108,.int .u8 111,.int .u8 99,.int .u8 107] 5 5 under_bytes Tryz.underlying5
  go_wp2_with fail
  have hBw:=hB1.trans (hb1w.mono hB1.size)
  refine (HPT.out HM.out _ hBw).mono ?_
  rintro e w2 ⟨x,rfl,ho2,hb2⟩
  have hb2':=hb1w.trans (hb2.mono hb1w.size)
  have hB2:=hB1.trans (hb2'.mono hB1.size)
  have hH2:=hH1.keep hb2'
  have hlen:wordK.length + (bytesK b).length≤140737488355328:=by have:=HBL.out HM.out;simp only [wordK,List.length_cons,List.length_nil];omega
  have hby2:=ho2.byt
  obtain ⟨A2,c2,rfl⟩:=hby2.shape
  obtain ⟨b2,o2,rfl,_,_⟩:=hby2.at_.2.2.2 HPP.out
  have HCO:=hid (cells_byt (how.below hb2))
  have HCN:=hid (cells_byt hby2)
  obtain ⟨O,HO⟩:∃ O:List UInt8,Hid (bytesK b=O):=⟨_,hid rfl⟩
  have HOL:Hid (O.length≤3000):=hid (by rw [← HO.out];exact HBL.out HM.out)
  have HOP:Hid (0 < O.length):=hid (by rw [← HO.out];exact HPP.out)
  rw [HO.out] at HCN HDM ⊢
  obtain ⟨xl,HXL⟩:∃ n:Nat,Hid (O.length=n):=⟨_,hid rfl⟩
  have HB2:=hid hB2
  have HH2:=hid hH2
  have HLE:=hid hb2'.size
  have HL1:=hid hb1.size
  have HL0:=hid hb0.size
  obtain ⟨i0,hi,hz0,hz1,hz2⟩:=info_parts info_u8
  rw [HXL.out]
  clear l1 l2 k1 hb2 how hb1w hBw hH1 hn0 hcv hlen hby2 ho2 hH2 hB2 hb2' hB1 hb1 hb0
  go_wp2_with (at_builtin;refine wpList_append_grows w2 rfl (.tmp 13) (.tmp 15) 33 rfl 5 i0 (.int .u8 0) 1 1 under_bytes hi hz0 hz1 hz2 rfl (by decide) (some ⟨w1.heap.size,0,none⟩) 5 5 (bcells wordK) rfl (by simp) rfl (fun b hb=>by injection hb with hb;subst hb;exact HCO.out) ⟨b2,o2,none⟩ xl c2 (bcells O) rfl (by rw [bcells_length,HXL.out,Nat.mul_one]) HCN.out (bcells_one _) (by have:=HOP.out;have:=HXL.out;omega) (by have:=HOL.out;have:=HXL.out;unfold maxLen;omega) (by have:=HOL.out;have:=HXL.out;omega) ?_;intro v3 w3 hown3 hg3)
  have hown:Own w2.heap.size w3 v3 (wordK ++ O):=by
   unfold Own
   rw [bcells_append,List.length_append,HXL.out]
   exact hown3
  have hb3:Below w.heap.size w w3:=HB2.out.grown hg3 HB2.out.size (fun k hk=>by cases hk)
  have hR3:=HH2.out.grown hg3 (fun e=>by cases e)
  have hK3:=HKB.out _ hb3
  clear hown3 hg3 hi hz0 hz1 hz2
  refine (refOf_any v3 _ w3 hown.byt (by rw [List.length_append];have:=HOL.out;simp only [wordK,List.length_cons,List.length_nil];omega) hK3).mono ?_
  rintro e w4 ⟨rfl,hb4⟩
  have hR4:=hR3.keep hb4
  have hb4':=hb3.trans (hb4.mono hb3.size)
  clear hown hb3 hR3 hK3 hb4
  go_wp2_with (refine wpList_store_arr arrH rfl _ _ rfl rfl rfl hR4 (fun _ _=>rfl) ?_;intro w9 hg9 hA9 hs9)
  refine bodyPost_ret (arrH.result rfl _ _ rfl hA9) rfl ⟨by rw [HDM.out],?_⟩
  exact below_into hb4' (Nat.le_succ _) hg9 hb4'.size
 ·have HDM:Hid (D=fun _=>bcell 0):=hid (by
   rw [← HD.out]
   funext j
   unfold hashK
   rw [if_neg (by rw [HM.out,HN.out];exact hgo)])
  have hway:m=false∨(m=true∧n=0):=by
   cases m
   ·exact .inl rfl
   ·right
    refine ⟨rfl,?_⟩
    by_cases h:n=0
    ·exact h
    ·exact absurd ⟨rfl,h⟩ hgo
  clear hgo l1
  obtain rfl | ⟨rfl,rfl⟩:=hway
  ·go_wp2_with (first
    | (refine wpList_zero_arr arrH rfl rfl ?_)
    | (refine wpList_store_arr arrH rfl _ _ rfl rfl rfl hH1 (fun _ _=>rfl) ?_;intro wA hgA hAA hsA))
   refine bodyPost_ret (arrH.result rfl _ _ rfl hAA) rfl ⟨by rw [HDM.out],?_⟩
   exact below_into hB1 (Nat.le_succ _) hgA hB1.size
  ·go_wp2_with (first
    | (refine wpList_zero_arr arrH rfl rfl ?_)
    | (refine wpList_store_arr arrH rfl _ _ rfl rfl rfl hH1 (fun _ _=>rfl) ?_;intro wA hgA hAA hsA))
   refine bodyPost_ret (arrH.result rfl _ _ rfl hAA) rfl ⟨by rw [HDM.out],?_⟩
   exact below_into hB1 (Nat.le_succ _) hgA hB1.size
end Go.Proofs.YtpdnnmabijmfbaaGreatDoor
namespace Go.Proofs.YtpdnnmabijmfbaaGreatDoor
set_option maxRecDepth 20000
open Go.RowKit
noncomputable def allocK (w : World) : Result Next := Sem.run Tryz.prog (execOp (fun _ => undef) { dst := none, op := .alloc 49, type := 0, pos := "", after := #[], guard := none }) w
theorem exec_alloc_bk (r:Operand→Value) (dst:Option Tmp) (ty:TypeId) (pos:String) (after:Array Edge) (guard:Option (Nat × Bool)) (w:World):
  Sem.run Tryz.prog (execOp r { dst:=dst,op:=.alloc 49,type:=ty,pos:=pos,after:=after,guard:=guard }) w=allocK w:=rfl
theorem allocK_eq (w:World):allocK w=.ok (.value (.pointer (some ⟨w.heap.size,0,none⟩))) (w.alloc (.cells (bkc bkZ (.slice none 0 0)) 49)):=by
 unfold allocK execOp
 simp only [Sem.run_bind,Instr.alloc,run_zero_bk,newVar,newRow,run_newObj_alloc,Sem.run_pure,Result.andThen_ok,Value.cells]
noncomputable def storeK (p v:Value) (w:World):Result Next:=Sem.run Tryz.prog (execOp (fun x=>match x with
 | .tmp 0=>p
 | _ => v) { dst := none, op := .store 49 (.tmp 0) (.tmp 1), type := 0, pos := "", after := #[], guard := none }) w
theorem exec_store_bk (r:Operand→Value) (x y:Operand) (dst:Option Tmp) (ty:TypeId) (pos:String) (after:Array Edge) (guard:Option (Nat × Bool)) (w:World):
  Sem.run Tryz.prog (execOp r { dst:=dst,op:=.store 49 x y,type:=ty,pos:=pos,after:=after,guard:=guard }) w=storeK (r x) (r y) w:=rfl
def setK (w:World) (g:Nat) (C:Array Value):World:=w.setRow g C
theorem bkc_one {w:World} {b:BkM} {s:Value} (h:Txs w s b.txs):(bkc b s).all (·.oneCell')=true:=by
 obtain ⟨A,c,rfl,_⟩:=h
 unfold bkc
 refine all_oneCell_toArray ?_
 intro u hu
 rcases List.mem_append.1 hu with hu | hu
 ·exact bcells_one _ u hu
 ·simp only [List.mem_cons,List.not_mem_nil,or_false] at hu
  obtain rfl | rfl | rfl | rfl:=hu <;> rfl
theorem storeK_eq {w:World} {g:Nat} {t:TypeId} {C0 C:Array Value} (hg:w.heap[g]?=some (.cells C0 t (0,0))) (h0:C0.size=36) (hC:C.size=36) (h1:C.all (·.oneCell')=true):
  storeK (.pointer (some ⟨g,0,none⟩)) (.agg C) w=.ok .skip (setK w g C):=by
 have:=run_storeVar_row (P:=Tryz.prog) w g t 49 C0 C hg (by rw [size_bk,hC]) (by rw [h0,hC]) h1
 unfold storeK execOp
 simp only [Instr.storeAt,Instr.sureAddr,Sem.run_bind,Sem.run_pure,Result.andThen_ok,this]
 rfl
theorem setK_self {w:World} {g:Nat} {t:TypeId} {C:Array Value} {fr:Nat × Nat} (hg:w.heap[g]?=some (.cells C t fr)):setK w g C=w:=by
 have e:∀ f:Obj→Obj,f (.cells C t fr)=.cells C t fr→w.heap.modify g f=w.heap:=by
  intro f hf
  apply Array.ext_getElem?
  intro k
  rw [Array.getElem?_modify]
  by_cases h:g=k
  ·subst h
   rw [if_pos rfl,hg]
   simp [hf]
  ·rw [if_neg h]
 unfold setK World.setRow
 rw [e _ rfl]
end Go.Proofs.YtpdnnmabijmfbaaGreatDoor
namespace Go.Proofs.YtpdnnmabijmfbaaGreatDoor
set_option maxRecDepth 20000
open Go.RowKit
attribute [local go_sem ↓] exec_load_tx
def litK (b:BkM):Bool:=decide (b.txs.length≤20) && b.txs.all litT
theorem litK_len {b:BkM} (h:litK b=true):b.txs.length≤20:=by
 unfold litK at h
 rw [Bool.and_eq_true] at h
 exact of_decide_eq_true h.1
theorem litK_light {b:BkM} (h:litK b=true):∀ t ∈ b.txs,t.key.length≤100∧t.val.length≤400:=by
 unfold litK at h
 rw [Bool.and_eq_true] at h
 intro t ht
 have:=List.all_eq_true.1 h.2 t ht
 unfold litT at this
 simpa using this
theorem lightK_of {b:BkM} (h:litK b=true):lightK b:=fun t ht=>by
 have:=litK_light h t ht
 omega
def BkCheckOk:Prop:=∀ (v:Value) (b:BkM) (w:World),BkV w v b→lightK b→Calls Tryz.prog 115 #[v] w fun e w'=>e=.returned (.int .i64 (if mayK b=true then 0 else 1))∧Below w.heap.size w w'
def BkHashOk:Prop:=∀ (v:Value) (b:BkM) (w:World),BkV w v b→lightK b→Kst 1 w→Calls Tryz.prog 119 #[v] w fun e w'=>e=.returned (.agg (fcells 32 fun j=>bcell (hashK b j)))∧Below w.heap.size w w'
def BkFirstOk:Prop:=∀ (w:World),Calls Tryz.prog 117 #[] w fun e w'=>∃ x,e=.returned x∧BkV w' x bkZ∧Below w.heap.size w w'
def BkSameOk:Prop:=∀ (va vb:Value) (a b:BkM) (w:World),BkV w va a→BkV w vb b→Calls Tryz.prog 116 #[va,vb] w fun e w'=>e=.returned (.bool (sameK a b))∧Below w.heap.size w w'
set_option maxHeartbeats 1600000 in
theorem light7_any (v:Value) (b:BkM) (w:World) (hv:BkV w v b) (hlk:∀ t ∈ b.txs,t.key.length≤maxLen∧t.val.length≤maxLen):
  Calls Tryz.prog 62 #[v] w fun e w'=>e=.returned (.bool (litK b))∧Below w.heap.size w w':=by
 obtain ⟨s,rfl,hp,ht⟩:=hv
 have hb0:Below w.heap.size w (w.alloc (.cells (bkc b s) 49)):=(Below.refl _ _).alloc (Nat.le_refl _) _
 have hA:=BoxK.new w b s
 have ht0:=ht.below hb0
 obtain ⟨A,c,rfl⟩:=ht.shape
 obtain ⟨C,HC⟩:∃ C:Array Value,Hid (bkc b (.slice A b.txs.length c)=C):=⟨_,hid rfl⟩
 obtain ⟨L,HL⟩:∃ n:Nat,Hid (b.txs.length=n):=⟨_,hid rfl⟩
 obtain ⟨ans,HAN⟩:∃ q:Bool,Hid (litK b=q):=⟨_,hid rfl⟩
 have hlen:=ht.len
 rw [HL.out] at hlen
 unfold maxLen at hlen
 rw [HAN.out,HC.out]
 rw [HC.out] at hA hb0 ht0
 rw [HL.out] at hA ht0
 have HLK:=hid hlk
 clear ht hlk
 go_enter Tryz.func62,Tryz.ntmps62
 go_upto_region 1 with (fail)
 generalize (w.alloc (.cells C 49))=w0 at *
 have HA:=hid hA
 have HT:=hid ht0
 have hl0:=hA.lt
 clear hA ht0
 go_wp2_with fail
 go_loopw [3] (fun si wr=>∃ i:Nat,i≤L∧i≤21∧si=.int .i64 i∧Hid (∀ j (h:j < b.txs.length),j < i→litT b.txs[j]=true)∧Below w0.heap.size w0 wr) (fun si _=>L - (intOf si).toNat)
 case atStart=>exact ⟨0,Nat.zero_le _,Nat.zero_le _,rfl,hid (fun j _ h=>absurd h (by omega)),Below.refl _ _⟩
 case round=>
  obtain ⟨i,hi,hi21,rfl,HB,hbr⟩:=hrel
  have hBr:=hb0.trans (hbr.mono hb0.size)
  have k4:=((HA.out.below hbr hl0).cells hp).2.2.2
  by_cases hlt:i < L∧i≤20
  ·obtain ⟨hlt,h20⟩:=hlt
   have hil:i < b.txs.length:=by rw [HL.out];exact hlt
   obtain ⟨ba,oa,rfl,hba,hcla⟩:=(HT.out.below hbr).at_.2.2.2 (by omega)
   have hI:(i:Int) < (L:Int):=by omega
   have hJ:(i:Int)≤20:=by omega
   have l1:loadTx (.pointer (some ⟨ba,oa + i * 7,none⟩)) wr=.ok (.value (txv b.txs[i])) wr:=loadTx_mid (hcla i hil)
   have HMT:Hid (∀ W,Calls Tryz.prog 100 #[txv b.txs[i]] W fun e w'=>e=.returned (.bool (litT b.txs[i]))∧Below W.heap.size W w'):=hid (fun W=>light6_any _ W (HLK.out _ (List.getElem_mem hil)).1 (HLK.out _ (List.getElem_mem hil)).2)
   obtain ⟨X,HX⟩:∃ C:Array Value,Hid ((tcl b.txs[i]).toArray=C):=⟨_,hid rfl⟩
   obtain ⟨m,HM⟩:∃ q:Bool,Hid (litT b.txs[i]=q):=⟨_,hid rfl⟩
   rw [txv_tcl,HX.out] at l1
   rw [txv_tcl,HX.out,HM.out] at HMT
   clear hcla
   go_wp2_with fail
   refine (HMT.out wr).mono ?_
   rintro e w2 ⟨rfl,hb2⟩
   have hbr2:=hbr.trans (hb2.mono hbr.size)
   have hB2:=hBr.trans (hb2.mono hBr.size)
   clear l1 k4
   cases m with
   | false=>
    go_wp2_with fail
    go_ret
    have e:ans=false:=by
     rw [← HAN.out]
     unfold litK
     have:b.txs.all litT=false:=by
      rw [List.all_eq_false]
      exact ⟨_,List.getElem_mem hil,by simp [HM.out]⟩
     rw [this,Bool.and_false]
    subst e
    exact ⟨rfl,hB2⟩
   | true=>
    go_wp2_with fail
    go_roundw
    case rel=>
     refine ⟨i + 1,by omega,by omega,by go_num,hid (fun j h hj=>?_),hbr2⟩
     by_cases hji:j < i
     ·exact HB.out j h hji
     ·obtain rfl:j=i:=by omega
      exact HM.out
    case measure=>simp [intOf];omega
  ·have HE:Hid (ans=decide ((L:Int)≤20)):=hid (by
    rw [← HAN.out]
    unfold litK
    rw [HL.out]
    by_cases h20:L≤20
    ·have hiL:i=L:=by omega
     have:b.txs.all litT=true:=by
      rw [List.all_eq_true]
      intro t ht
      obtain ⟨j,hj,rfl⟩:=List.getElem_of_mem ht
      exact HB.out j hj (by have:=HL.out;omega)
     rw [this,decide_eq_true h20,decide_eq_true (by omega)]
     rfl
    ·rw [decide_eq_false h20,decide_eq_false (by omega)]
     rfl)
   clear HB
   by_cases hI:(i:Int) < (L:Int)
   ·have hJ:¬ (i:Int)≤20:=by omega
    have h20:¬ (L:Int)≤20:=by omega
    obtain rfl:ans=false:=by rw [HE.out];exact decide_eq_false h20
    clear hlt
    go_wp2_with fail
    go_ret
    exact ⟨rfl,hBr⟩
   ·clear hlt
    by_cases h20:(L:Int)≤20
    ·obtain rfl:ans=true:=by rw [HE.out];exact decide_eq_true h20
     go_wp2_with fail
     go_ret
     exact ⟨rfl,hBr⟩
    ·obtain rfl:ans=false:=by rw [HE.out];exact decide_eq_false h20
     go_wp2_with fail
     go_ret
     exact ⟨rfl,hBr⟩
end Go.Proofs.YtpdnnmabijmfbaaGreatDoor
namespace Go.Proofs.YtpdnnmabijmfbaaGreatDoor
set_option maxRecDepth 20000
open Go.RowKit
theorem qnil_bytes:∀ (w:World) (a:Option Addr) (n c:Nat),(binOp .eql 33 (.slice a n c) (.slice none 0 0)).run Tryz.prog w=.ok (.bool a.isNone) w:=fun w a n c=>Lib.run_eql_slice_nil w _ _ a n c 0 0 under_bytes
theorem under_two:Tryz.prog.underlying 34=some (.array 2 33):=by kernel_rfl
theorem idx_two (x y:Value) (w:World):(Instr.index 34 (.agg #[x,y]) (.int .i64 0)).run Tryz.prog w=.ok x w∧(Instr.index 34 (.agg #[x,y]) (.int .i64 1)).run Tryz.prog w=.ok y w:=by
 constructor
 ·simp [Instr.index,asIntOf,Sem.run_bind,run_underlying under_two,Go.part,isAgg,run_underlying under_bytes]
 ·simp [Instr.index,asIntOf,Sem.run_bind,run_underlying under_two,Go.part,isAgg,run_underlying under_bytes]
structure Bys (w:World) (v:Value) (l:List UInt8):Prop where
 byt:Byt w v l
 ty:l≠[]→∀ k,v.ownBlock=some k→∃ C,w.heap[k]?=some (.cells C 5 (0,0))
theorem Bys.shape {w:World} {v:Value} {l:List UInt8} (h:Bys w v l):∃ A c,v=.slice A l.length c:=h.byt.shape
theorem Bys.nil (w:World):Bys w (.slice none 0 0) []:=⟨Byt.nil w,fun h=>absurd rfl h⟩
theorem Own.bys {w:World} {B:Nat} {v:Value} {l:List UInt8} (h:Own B w v l):Bys w v l:=by
 refine ⟨h.byt,fun _ k e=>?_⟩
 rcases h.2 with ⟨rfl,_⟩ | ⟨g,cap,cur,rfl,_,hh,_⟩
 ·cases e
 ·obtain rfl:g=k:=by injection e
  exact ⟨_,hh⟩
theorem Bys.away {w w':World} {v:Value} {l:List UInt8} (h:Bys w v l) (hs:w.heap.size≤w'.heap.size)
  (hk:∀ (k:Nat) (C:Array Value),w.heap[k]?=some (Obj.cells C 5 (0,0))→w'.heap[k]?=w.heap[k]?):Bys w' v l:=by
 obtain ⟨⟨A,c,rfl,h1,h2,h3⟩,hn⟩:=h
 by_cases hl:l=[]
 ·subst hl
  exact ⟨⟨A,c,rfl,h1,h2,RdB.nil _ _⟩,fun h=>absurd rfl h⟩
 ·obtain ⟨b,off,rfl,hb,hc⟩:=h3 (List.length_pos_iff.2 hl)
  obtain ⟨C,hC⟩:=hn hl b rfl
  have e:=hk b C hC
  refine ⟨⟨_,c,rfl,h1,h2,fun _=>⟨b,off,rfl,by omega,fun j hj=>(World.cell?_of_block e).trans (hc j hj)⟩⟩,fun h k hk2=>?_⟩
  obtain rfl:b=k:=by injection hk2
  exact ⟨C,e.trans hC⟩
theorem Bys.below {w w':World} {v:Value} {l:List UInt8} (h:Bys w v l) (hb:Below w.heap.size w w'):Bys w' v l:=h.away hb.size (fun k _ hk=>hb.block k (lt_of_block hk))
theorem Bys.drewN {w:World} {v:Value} {l:List UInt8} (h:Bys w v l) (n:Nat):Bys (w.drewN n) v l:=⟨h.byt.drewN n,h.ty⟩
theorem blk_ne {w:World} {b a:Nat} {C D:Array Value} {T U:TypeId} (h:w.heap[b]?=some (.cells C T (0,0))) (k:w.heap[a]?=some (.cells D U (0,0))) (hT:T≠U):b≠a:=by
 rintro rfl
 have:=h.symm.trans k
 injection this with e
 injection e with _ e _
 exact hT e
def vac (i:Int) (v0 v1:Value) (c:Nat) (left:Int) (dead:Bool) (vt:Value):Array Value:=
 #[.int .i64 i,v0,v1,.pointer (some ⟨c,0,none⟩),.int .i64 left,.bool dead,vt]
structure VltE (w:World) (b c a:Nat) (V:VaM) (v0 v1 vt:Value):Prop where
 p:w.heap[b]?=some (.cells (vac V.i v0 v1 c V.left V.dead vt) 108 (0,0))
 k:Ctr w c a V.n
 y0:Bys w v0 V.s0
 y1:Bys w v1 V.s1
 yt:Bys w vt V.torn
 nt:V.torn=[]→vt=.slice none 0 0
def Vlt (w:World) (b c a:Nat) (V:VaM):Prop:=∃ v0 v1 vt,VltE w b c a V v0 v1 vt
structure Turn (b a:Nat) (w w':World):Prop where
 os:w'.os=w.os
 tape:w'.tape=w.tape
 output:w'.output=w.output
 size:w.heap.size≤w'.heap.size
 block:∀ k,k < w.heap.size→k≠b→k≠a→w'.heap[k]?=w.heap[k]?
theorem Turn.refl (b a:Nat) (w:World):Turn b a w w:=⟨rfl,rfl,rfl,Nat.le_refl _,fun _ _ _ _=>rfl⟩
theorem Turn.trans {b a:Nat} {x y z:World} (h:Turn b a x y) (k:Turn b a y z):Turn b a x z:=
 ⟨k.os.trans h.os,k.tape.trans h.tape,k.output.trans h.output,Nat.le_trans h.size k.size,fun i h1 h2 h3=>(k.block i (Nat.lt_of_lt_of_le h1 h.size) h2 h3).trans (h.block i h1 h2 h3)⟩
theorem Turn.of {b a:Nat} {w w':World} (h:Below w.heap.size w w'):Turn b a w w':=⟨h.os,h.tape,h.output,h.size,fun k hk _ _=>h.block k hk⟩
theorem Turn.below {b a B:Nat} {w0 w w':World} (h:Turn b a w w') (h0:Below B w0 w) (hb:B≤b) (ha:B≤a) (hB:B≤w.heap.size):Below B w0 w':=
 h0.trans ⟨h.os,h.tape,h.output,h.size,fun k hk=>h.block k (Nat.lt_of_lt_of_le hk hB) (by omega) (by omega)⟩
theorem Turn.setB {b a:Nat} {w w':World} (h:Turn b a w w') (i:Nat) (u:Value):Turn b a w (w'.setCell ⟨b,i,none⟩ u):=
 h.trans ⟨rfl,rfl,rfl,by simp [World.setCell],fun k _ h2 _=>Below.heap_setCell _ _ _ _ h2⟩
theorem Turn.setA {b a:Nat} {w w':World} (h:Turn b a w w') (i:Nat) (u:Value):Turn b a w (w'.setCell ⟨a,i,none⟩ u):=
 h.trans ⟨rfl,rfl,rfl,by simp [World.setCell],fun k _ _ h3=>Below.heap_setCell _ _ _ _ h3⟩
theorem Turn.then {b a:Nat} {w w' w2:World} (h:Turn b a w w') (k:Below w'.heap.size w' w2):Turn b a w w2:=h.trans (Turn.of k)
theorem byt_away {w w':World} {v:Value} {l:List UInt8} (h:Byt w v l) (hs:w.heap.size≤w'.heap.size) (S:Nat→Prop)
  (hS:∀ k,S k→∀ i c,w.cell? ⟨k,i,none⟩≠some (bcell c)) (hk:∀ k,k < w.heap.size→¬ S k→w'.heap[k]?=w.heap[k]?):Byt w' v l:=by
 obtain ⟨A,c,rfl,h1,h2,h3⟩:=h
 refine ⟨A,c,rfl,h1,h2,fun hl=>?_⟩
 obtain ⟨b,off,e,hb,hc⟩:=h3 hl
 refine ⟨b,off,e,by omega,fun j hj=>?_⟩
 have hn:¬ S b:=fun hs=>hS b hs _ _ (hc 0 hl)
 exact (World.cell?_of_block (hk b hb hn)).trans (hc j hj)
section
variable {w w':World} {b c a:Nat} {V:VaM} {v0 v1 vt:Value}
theorem VltE.nob (h:VltE w b c a V v0 v1 vt) (i:Nat) (x:UInt8):w.cell? ⟨b,i,none⟩≠some (bcell x):=by
 rw [coBlk_cell h.p]
 obtain ⟨A0,c0,r0⟩:=h.y0.shape
 obtain ⟨A1,c1,r1⟩:=h.y1.shape
 obtain ⟨A2,c2,r2⟩:=h.yt.shape
 subst r0 r1 r2
 unfold vac bcell
 match i with
 | 0=>simp
 | 1=>simp
 | 2=>simp
 | 3=>simp
 | 4=>simp
 | 5=>simp
 | 6=>simp
 | i + 7=>simp
theorem VltE.noa (h:VltE w b c a V v0 v1 vt) (i:Nat) (x:UInt8):w.cell? ⟨a,i,none⟩≠some (bcell x):=by
 rw [coBlk_cell h.k.q]
 unfold bcell
 match i with
 | 0=>simp
 | i + 1=>simp
theorem VltE.turned (h:VltE w b c a V v0 v1 vt) {v:Value} {l:List UInt8} (hv:Byt w v l) (ht:Turn b a w w'):Byt w' v l:=
 byt_away hv ht.size (fun k=>k=b∨k=a) (fun k hk=>by rcases hk with rfl | rfl;exact h.nob;exact h.noa) (fun k hk hn=>ht.block k hk (fun e=>hn (.inl e)) (fun e=>hn (.inr e)))
theorem VltE.turnedS (h:VltE w b c a V v0 v1 vt) {v:Value} {l:List UInt8} (hv:Bys w v l) (ht:Turn b a w w'):Bys w' v l:=
 hv.away ht.size (fun k _ hk=>ht.block k (lt_of_block hk) (blk_ne hk h.p (by decide)) (blk_ne hk h.k.q (by decide)))
theorem Vlt.turned (h:Vlt w b c a V) {v:Value} {l:List UInt8} (hv:Byt w v l) (ht:Turn b a w w'):Byt w' v l:=by
 obtain ⟨v0,v1,vt,h⟩:=h
 exact h.turned hv ht
theorem VltE.lt (h:VltE w b c a V v0 v1 vt):b < w.heap.size:=lt_of_block h.p
theorem VltE.ltc (h:VltE w b c a V v0 v1 vt):c < w.heap.size:=lt_of_block h.k.p
theorem VltE.lta (h:VltE w b c a V v0 v1 vt):a < w.heap.size:=lt_of_block h.k.q
theorem ty_ne1:108≠178:=by decide
theorem ty_ne2:108≠175:=by decide
theorem ty_ne3:108≠40:=by decide
theorem ty_ne4:175≠40:=by decide
theorem VltE.bc (h:VltE w b c a V v0 v1 vt):b≠c:=blk_ne h.p h.k.p ty_ne1
theorem VltE.ba (h:VltE w b c a V v0 v1 vt):b≠a:=blk_ne h.p h.k.q ty_ne2
theorem VltE.box (h:VltE w b c a V v0 v1 vt) {g:Nat} {s:SeM} (hx:BoxSe w g s) (ht:Turn b a w w'):BoxSe w' g s:=by
 have h1:g≠b:=(blk_ne h.p hx ty_ne3).symm
 have h2:g≠a:=(blk_ne h.k.q hx ty_ne4).symm
 exact (ht.block g (lt_of_block hx) h1 h2).trans hx
theorem Vlt.box (h:Vlt w b c a V) {g:Nat} {C:Array Value} (hx:w.heap[g]?=some (.cells C 40 (0,0))) (ht:Turn b a w w'):w'.heap[g]?=some (.cells C 40 (0,0)):=by
 obtain ⟨v0,v1,vt,h⟩:=h
 have h1:g≠b:=(blk_ne h.p hx ty_ne3).symm
 have h2:g≠a:=(blk_ne h.k.q hx ty_ne4).symm
 exact (ht.block g (lt_of_block hx) h1 h2).trans hx
theorem VltE.below (h:VltE w b c a V v0 v1 vt) (hb:Below w.heap.size w w'):VltE w' b c a V v0 v1 vt:=
 ⟨(hb.block b h.lt).trans h.p,h.k.below hb h.ltc h.lta,h.y0.below hb,h.y1.below hb,h.yt.below hb,h.nt⟩
theorem Vlt.below (h:Vlt w b c a V) (hb:Below w.heap.size w w'):Vlt w' b c a V:=by
 obtain ⟨v0,v1,vt,h⟩:=h
 exact ⟨v0,v1,vt,h.below hb⟩
theorem VltE.alloc (h:VltE w b c a V v0 v1 vt) (o:Obj):VltE (w.alloc o) b c a V v0 v1 vt:=h.below ((Below.refl _ _).alloc (Nat.le_refl _) o)
theorem VltE.cells (h:VltE w b c a V v0 v1 vt):w.cell? ⟨b,0,none⟩=some (.int .i64 V.i)∧w.cell? ⟨b,1,none⟩=some v0∧w.cell? ⟨b,2,none⟩=some v1∧w.cell? ⟨b,3,none⟩=some (.pointer (some ⟨c,0,none⟩))
  ∧ w.cell? ⟨b,4,none⟩=some (.int .i64 V.left)∧w.cell? ⟨b,5,none⟩=some (.bool V.dead)∧w.cell? ⟨b,6,none⟩=some vt:=by
 simp only [coBlk_cell h.p]
 exact ⟨rfl,rfl,rfl,rfl,rfl,rfl,rfl⟩
theorem VltE.free (h:VltE w b c a V v0 v1 vt) (i:Nat):w.frozen? ⟨b,i,none⟩=false:=coBlk_free h.p i
theorem VltE.set (h:VltE w b c a V v0 v1 vt) {i:Nat} {u:Value} {V':VaM} {u0 u1 ut:Value} (hc:(vac V.i v0 v1 c V.left V.dead vt).setIfInBounds i u=vac V'.i u0 u1 c V'.left V'.dead ut) (hn:V'.n=V.n)
  (h0:Bys w u0 V'.s0) (h1:Bys w u1 V'.s1) (h2:Bys w ut V'.torn) (h3:V'.torn=[]→ut=.slice none 0 0):VltE (w.setCell ⟨b,i,none⟩ u) b c a V' u0 u1 ut:=by
 have ht:Turn b a w (w.setCell ⟨b,i,none⟩ u):=(Turn.refl b a w).setB i u
 refine ⟨?_,?_,h.turnedS h0 ht,h.turnedS h1 ht,h.turnedS h2 ht,h3⟩
 ·rw [heapA_set w h.p,hc]
 ·rw [hn]
  exact ⟨(Below.heap_setCell _ _ _ _ h.bc.symm).trans h.k.p,(Below.heap_setCell _ _ _ _ h.ba.symm).trans h.k.q⟩
theorem VltE.setLeft (h:VltE w b c a V v0 v1 vt) (x:Int):VltE (w.setCell ⟨b,4,none⟩ (.int .i64 x)) b c a { V with left:=x } v0 v1 vt:=h.set rfl rfl h.y0 h.y1 h.yt h.nt
theorem VltE.setDead (h:VltE w b c a V v0 v1 vt) (x:Bool):VltE (w.setCell ⟨b,5,none⟩ (.bool x)) b c a { V with dead:=x } v0 v1 vt:=h.set rfl rfl h.y0 h.y1 h.yt h.nt
theorem VltE.setTorn (h:VltE w b c a V v0 v1 vt) {x:Value} {l:List UInt8} (hx:Bys w x l) (hn:l=[]→x=.slice none 0 0):VltE (w.setCell ⟨b,6,none⟩ x) b c a { V with torn:=l } v0 v1 x:=h.set rfl rfl h.y0 h.y1 hx hn
theorem VltE.setSlot (h:VltE w b c a V v0 v1 vt) {k:Int} (hk:k=0∨k=1) {x:Value} {l:List UInt8} (hx:Bys w x l):Vlt (w.setCell ⟨b,1 + k.toNat,none⟩ x) b c a (putV V k l):=by
 rcases hk with rfl | rfl
 ·exact ⟨x,v1,vt,h.set rfl rfl hx h.y1 h.yt h.nt⟩
 ·exact ⟨v0,x,vt,h.set rfl rfl h.y0 hx h.yt h.nt⟩
theorem VltE.setZero (h:VltE w b c a V v0 v1 vt) {x:Value} {l:List UInt8} (hx:Bys w x l):VltE (w.setCell ⟨b,1,none⟩ x) b c a (putV V 0 l) x v1 vt:=h.set rfl rfl hx h.y1 h.yt h.nt
theorem VltE.setOne (h:VltE w b c a V v0 v1 vt) {x:Value} {l:List UInt8} (hx:Bys w x l):VltE (w.setCell ⟨b,2,none⟩ x) b c a (putV V 1 l) v0 x vt:=h.set rfl rfl h.y0 hx h.yt h.nt
theorem VltE.up (h:VltE w b c a V v0 v1 vt) (m:Int):VltE (w.setCell ⟨a,0,none⟩ (.int .i64 m)) b c a { V with n:=m } v0 v1 vt:=by
 have ht:Turn b a w (w.setCell ⟨a,0,none⟩ (.int .i64 m)):=(Turn.refl b a w).setA 0 _
 exact ⟨(Below.heap_setCell _ _ _ _ h.ba).trans h.p,h.k.set m,h.turnedS h.y0 ht,h.turnedS h.y1 ht,h.turnedS h.yt ht,h.nt⟩
end
theorem Vlt.setSe {w:World} {b c a g:Nat} {V:VaM} {C0:Array Value} (h:Vlt w b c a V) (hg:w.heap[g]?=some (.cells C0 40 (0,0))) (C:Array Value):Vlt (setSe w g C) b c a V:=by
 obtain ⟨v0,v1,vt,h⟩:=h
 have hs:w.heap.size≤(Go.Proofs.YtpdnnmabijmfbaaGreatDoor.setSe w g C).heap.size:=by unfold Go.Proofs.YtpdnnmabijmfbaaGreatDoor.setSe;simp
 have hk:∀ (k:Nat) (D:Array Value),w.heap[k]?=some (Obj.cells D 5 (0,0))→(Go.Proofs.YtpdnnmabijmfbaaGreatDoor.setSe w g C).heap[k]?=w.heap[k]?:=fun k _ h=>setSe_other w C (blk_ne h hg (by decide))
 have h1:b≠g:=blk_ne h.p hg ty_ne3
 have h2:a≠g:=blk_ne h.k.q hg ty_ne4
 have h3:c≠g:=blk_ne h.k.p hg (by decide)
 exact ⟨v0,v1,vt,(setSe_other w C h1).trans h.p,⟨(setSe_other w C h3).trans h.k.p,(setSe_other w C h2).trans h.k.q⟩,
  h.y0.away hs hk,h.y1.away hs hk,h.yt.away hs hk,h.nt⟩
theorem Vlt.kept {w w':World} {b c a:Nat} {V:VaM} (h:Vlt w b c a V) (hs:w.heap.size≤w'.heap.size)
  (hk:∀ (k:Nat) (C:Array Value) (T:TypeId),w.heap[k]?=some (Obj.cells C T (0,0))→T=5∨T=108∨T=178∨T=175→w'.heap[k]?=w.heap[k]?):Vlt w' b c a V:=by
 obtain ⟨v0,v1,vt,h⟩:=h
 have hu:∀ (k:Nat) (C:Array Value),w.heap[k]?=some (Obj.cells C 5 (0,0))→w'.heap[k]?=w.heap[k]?:=fun k C h=>hk k C _ h (.inl rfl)
 exact ⟨v0,v1,vt,(hk _ _ _ h.p (.inr (.inl rfl))).trans h.p,⟨(hk _ _ _ h.k.p (.inr (.inr (.inl rfl)))).trans h.k.p,(hk _ _ _ h.k.q (.inr (.inr (.inr rfl)))).trans h.k.q⟩,
  h.y0.away hs hu,h.y1.away hs hu,h.yt.away hs hu,h.nt⟩
theorem Vlt.other {w w':World} {b c a g:Nat} {V:VaM} {C:Array Value} {T:TypeId} (h:Vlt w b c a V) (hx:w.heap[g]?=some (.cells C T (0,0))) (h1:108≠T) (h2:175≠T) (ht:Turn b a w w'):w'.heap[g]?=some (.cells C T (0,0)):=by
 obtain ⟨v0,v1,vt,h⟩:=h
 exact (ht.block g (lt_of_block hx) (blk_ne h.p hx h1).symm (blk_ne h.k.q hx h2).symm).trans hx
def NoVlt (w:World) (v:Value):Prop:=v=.pointer none∨∃ b,v=.pointer (some ⟨b,0,none⟩)∧w.heap[b]?=some (.cells #[.int .i64 0,.slice none 0 0,.slice none 0 0,.pointer none,.int .i64 0,.bool false,.slice none 0 0] 108 (0,0))
theorem NoVlt.below {w w':World} {v:Value} (h:NoVlt w v) (hb:Below w.heap.size w w'):NoVlt w' v:=by
 rcases h with h | ⟨b,h,hc⟩
 ·exact .inl h
 ·exact .inr ⟨b,h,(hb.block b (lt_of_block hc)).trans hc⟩
end Go.Proofs.YtpdnnmabijmfbaaGreatDoor
namespace Go.Proofs.YtpdnnmabijmfbaaGreatDoor
set_option maxRecDepth 20000
open Go.ChangeShapes Go.WideShapes Go.ChangeAt Go.RowKit Go.Deep
section
variable {H:Type} {enc:TypeId × Value→H} {w:World} {base:Nat} {spare:Nat→Bool} {held:Bool} {fuel:Nat} {cs:List Value} {x:DataW H × List MemPlace}
theorem trod_two (h:DataW.trod enc Tryz.prog w base spare held fuel 34 cs=some x):∃ v0 v1 l0 l1,(Byt w v0 l0∧Byt w v1 l1)∧cs=[v0,v1]:=by
 obtain ⟨xs,m,_,_,hl,hn,hel⟩:=DataW.trod_array under_two h
 have hct:Tryz.prog.cellsOf 34=2:=by kernel_rfl
 have hce:Tryz.prog.cellsOf 33=1:=by kernel_rfl
 rw [hct] at hl
 have g0:=hel 0 (by omega)
 have g1:=hel 1 (by omega)
 rw [hce,List.getElem?_eq_getElem (by omega)] at g0 g1
 obtain ⟨v0,l0,e0,b0⟩:=trod_bytes g0
 obtain ⟨v1,l1,e1,b1⟩:=trod_bytes g1
 refine ⟨v0,v1,l0,l1,⟨b0,b1⟩,?_⟩
 have e:cs=cs.drop (0 * 1):=rfl
 rw [e,drop_part e0,show 0 * 1 + 1=1 * 1 from rfl,drop_part e1,List.drop_eq_nil_of_le (by omega)]
 simp only [List.append_nil,List.cons_append,List.nil_append]
end
end Go.Proofs.YtpdnnmabijmfbaaGreatDoor
