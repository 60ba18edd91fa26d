/-
  BkPut: what each of them says stands at its head.
-/
import Derived.Test.YtpdnnmabijmfbaaGreatDoorBs11
namespace Go.Proofs.YtpdnnmabijmfbaaGreatDoor
set_option maxRecDepth 20000
open Go.RowKit
attribute [local go_sem ↓] exec_load_tx
theorem flat_snoc (L:List TxM) (i:Nat) (h:i < L.length):((L.take (i + 1)).map bytesT).flatten=((L.take i).map bytesT).flatten ++ bytesT L[i]:=by
 rw [List.take_succ_eq_append_getElem h]
 simp only [List.map_append,List.map_cons,List.map_nil,List.flatten_append,List.flatten_cons,List.flatten_nil,List.append_nil]
theorem flat_len (L:List TxM) (hm:∀ t ∈ L,mayT t=true):(L.map bytesT).flatten.length≤L.length * 300:=by
 induction L with
 | nil=>simp
 | cons t L ih=>
  have h1:=bytesT_len (hm t (by simp))
  have h2:=ih (fun u hu=>hm u (List.mem_cons_of_mem _ hu))
  simp only [List.map_cons,List.flatten_cons,List.length_append,List.length_cons]
  omega
set_option maxHeartbeats 3200000 in
theorem refPut7_any (v:Value) (b:BkM) (w:World) (hv:BkV w v b) (hm:mayK b=true):
  Calls Tryz.prog 170 #[v] w fun e w'=>∃ x,e=.returned x∧Own w.heap.size w' x (bytesK b)∧Below w.heap.size w w':=by
 obtain ⟨s,rfl,hp,ht⟩:=hv
 obtain ⟨hall,h1,h2,h3,h4,h5,h6,h7⟩:=mayK_all hm
 have HALL:=hid hall
 clear hall hm
 have hb0:Below w.heap.size w (w.alloc (.cells (bkc b s) 49)):=(Below.refl _ _).alloc (Nat.le_refl _) _
 have hA:=BoxK.new w b s
 have ht0:=ht.below hb0
 obtain ⟨A,c,rfl⟩:=ht.shape
 obtain ⟨L,HL⟩:∃ n:Nat,Hid (b.txs.length=n):=⟨_,hid rfl⟩
 rw [HL.out] at h7
 obtain ⟨C,HC⟩:∃ C:Array Value,Hid (bkc b (.slice A b.txs.length c)=C):=⟨_,hid rfl⟩
 obtain ⟨O,HO⟩:∃ O:List UInt8,Hid (bytesK b=O):=⟨_,hid rfl⟩
 rw [HO.out]
 rw [HC.out] at hA hb0 ht0 ⊢
 rw [HL.out] at hA ht0 HC
 obtain ⟨par,vi,he,bo,txs⟩:=b
 simp only at h1 h2 h3 h4 h5 h6 hp HL HALL ht0
 obtain ⟨p,rfl⟩:=nat_of (i:=vi) h1
 obtain ⟨q,rfl⟩:=nat_of (i:=he) h3
 obtain ⟨o,rfl⟩:=nat_of (i:=bo) h5
 have hp1:IntKind.u64.wrap (p:Int)=(p:Int):=wrap_u64 _ (by omega) (by omega)
 have hq1:IntKind.u64.wrap (q:Int)=(q:Int):=wrap_u64 _ (by omega) (by omega)
 have ho1:IntKind.u8.wrap (o:Int)=(o:Int):=by rw [IntKind.wrap_u8'];omega
 have hL1:IntKind.u8.wrap (L:Int)=(L:Int):=by rw [IntKind.wrap_u8'];omega
 have HNP:=hid (fun w=>refnum_any (p:Int) w (by omega) (by omega))
 have HNQ:=hid (fun w=>refnum_any (q:Int) w (by omega) (by omega))
 have HLP:=hid (dg_len10 (n:=p) (by omega))
 have HLQ:=hid (dg_len10 (n:=q) (by omega))
 have HDO:Hid (dg o=[UInt8.ofNat o]):=hid (dg_small (by omega))
 have HDL:Hid (dg L=[UInt8.ofNat L]):=hid (dg_small (by omega))
 have HYO:Hid ((o:Int)=((UInt8.ofNat o).toNat:Int)):=hid (by rw [UInt8.toNat_ofNat'];omega)
 have HYL:Hid ((L:Int)=((UInt8.ofNat L).toNat:Int)):=hid (by rw [UInt8.toNat_ofNat'];omega)
 have HBH:=hid (fun w=>refBytes7_any par w hp)
 have HPL:=hid hp
 clear ht
 go_enter Tryz.func170,Tryz.ntmps170
 go_upto_region 1 with (fail)
 generalize (w.alloc (.cells C 49))=w0 at *
 have hl0:=hA.lt
 have HX:Hid (∀ W:World,Below w0.heap.size w0 W→W.rangeAt w.heap.size 0 (bcells par)∧W.cell? ⟨w.heap.size,32,none⟩=some (.int .i64 (p:Int))∧W.cell? ⟨w.heap.size,33,none⟩=some (.int .i64 (q:Int))∧W.cell? ⟨w.heap.size,34,none⟩=some (.int .i64 (o:Int))∧W.cell? ⟨w.heap.size,35,none⟩=some (.slice A L c)∧Txs W (.slice A L c) txs):=hid (fun W h=>by
  have hW:=hA.below h hl0
  exact ⟨hW.range,(hW.cells HPL.out).1,(hW.cells HPL.out).2.1,(hW.cells HPL.out).2.2.1,(hW.cells HPL.out).2.2.2,ht0.below h⟩)
 have hbd:Below w0.heap.size w0 w0.drew:=(Below.refl _ _).drew
 have hu:=under_hash
 have hsz:(Tryz.prog.info? 38).map (·.size)=some (bcells par).length:=by rw [size_hash,bcells_length,hp]
 have hs0:=hb0.size
 clear hA ht0 hp
 go_region_held3 (fun W=>W.rangeAt w.heap.size 0 (bcells par)∧W.cell? ⟨w.heap.size,32,none⟩=some (.int .i64 (p:Int)))
  (first
   | (refine ⟨(HX.out _ hbd).1,(HX.out _ hbd).2.1⟩)
   | (refine ⟨(HX.out _ hb5).1,(HX.out _ hb5).2.1⟩)
   | (refine ⟨(HX.out _ hb4).1,(HX.out _ hb4).2.1⟩)
   | (refine ⟨(HX.out _ hb3).1,(HX.out _ hb3).2.1⟩)
   | fail)
  (first
   | (refine step_append_byt (by rfl) (.tmp 7) (.tmp 11) (by rfl) (by rfl) (by rfl) (ho3.below hb4') ho4.byt (by have:=HLP.out;have:=HPL.out;rw [Int.toNat_natCast];omega) hb4.size ?_;intro v5 w5 ho5 hg5 _;have hb5:=hb4.grown hg5 hb4.size (fun q hq=>(World.ownsRow.lt ho3 q hq).1);clear hg5)
   | (go_at_call 139;(with_reducible refine (HNP.out w3).mono ?_);rintro e w4 ⟨v4,rfl,ho4,hb4'⟩;have hb4:=hb3.trans (hb4'.mono hb3.size))
   | (go_at_call 93;refine (HBH.out w0.drew).mono ?_;rintro e w3 ⟨v3,rfl,ho3,hb3'⟩;have hb3:=hbd.trans hb3')
   | fail)
 rw [Int.toNat_natCast] at ho4 ho5
 have ho5':Own w0.heap.size w5 v5 (par ++ dg p):=ho5
 have HL5:=hid (show (par ++ dg p).length≤42 by rw [List.length_append];have:=HLP.out;have:=HPL.out;omega)
 clear ho3 ho4 ho5 hb3 hb4 hb3' hb4' HNP HBH hu hsz hbd hp1
 have k5:=(HX.out w5 hb5).2.2.1
 go_wp2_with fail
 refine (HNQ.out w5).mono ?_
 rintro e w6 ⟨v6,rfl,ho6,hb6'⟩
 rw [Int.toNat_natCast] at ho6
 have hb6:=hb5.trans (hb6'.mono hb5.size)
 have ho56:=ho5'.below hb6'
 clear k5 ho5' hb6' hq1
 have hl7:(par ++ dg p).length + (dg q).length≤140737488355328:=by have:=HL5.out;have:=HLQ.out;omega
 have HL7:=hid (show (par ++ dg p ++ dg q).length≤52 by rw [List.length_append];have:=HL5.out;have:=HLQ.out;omega)
 have HBY:=hid (fun w=>byt_pair w (o:Int) (L:Int) (UInt8.ofNat o) (UInt8.ofNat L) HYO.out HYL.out)
 have hl8:(par ++ dg p ++ dg q).length + [UInt8.ofNat o,UInt8.ofNat L].length≤140737488355328:=by have:=HL7.out;simp only [List.length_cons,List.length_nil];omega
 go_wp2_with (first
  | (at_builtin;refine wpList_append_byt rfl (.tmp 13) (.tmp 17) rfl rfl rfl ho56 ho6.byt hl7 hb6.size ?_;intro v7 w7 ho7 hg7 hv7;have hb7:=hb6.grown hg7 hb6.size (fun q hq=>(World.ownsRow.lt ho56 q hq).1);have m3:=(HX.out w7 hb7).2.2.2.1;have m4:=(HX.out w7 hb7).2.2.2.2.1;clear hg7 hv7)
  | (at_builtin;refine wpList_append_byt rfl (.tmp 19) (.tmp 27) rfl rfl rfl (ho7.alloc _) (HBY.out w7) hl8 (Nat.le_trans hb7.size (al_le w7 _)) ?_;intro v8 w8 ho8 hg8 hv8;have hb8:=(hb7.alloc hb7.size _).grown hg8 (Nat.le_trans hb7.size (al_le w7 _)) (fun q hq=>(World.ownsRow.lt ho7 q hq).1);clear hg8 hv8))
 clear ho6 ho56 hl7 hb5 hb6
 obtain ⟨P,HP⟩:∃ P:List UInt8,Hid (par ++ dg p ++ dg q ++ [UInt8.ofNat o,UInt8.ofNat L]=P):=⟨_,hid rfl⟩
 rw [HP.out] at ho8
 have HPL2:Hid (P.length≤54):=hid (by rw [← HP.out,List.length_append];have:=HL7.out;simp only [List.length_cons,List.length_nil];omega)
 clear ho7 hb7 m3 m4 HBY hl8 ho1 hL1
 have HTL:Hid ((txs.map bytesT).flatten.length≤L * 300):=hid (by have:=flat_len txs HALL.out;rw [HL.out] at this;exact this)
 have HTK:Hid (∀ i,i≤L→((txs.take i).map bytesT).flatten.length≤i * 300):=hid (fun i hi=>by
  have:=flat_len (txs.take i) (fun t ht=>HALL.out t (List.mem_of_mem_take ht))
  rw [List.length_take,HL.out,Nat.min_eq_left hi] at this
  exact this)
 go_loopw [3,4] (fun out si wr=>∃ i:Nat,i≤L∧si=.int .i64 i∧Own w0.heap.size wr out (P ++ ((txs.take i).map bytesT).flatten)∧Below w0.heap.size w0 wr) (fun _ si _=>L - (intOf si).toNat)
 case atStart=>exact ⟨0,by omega,rfl,by rw [List.take_zero,List.map_nil,List.flatten_nil,List.append_nil];exact ho8,hb8⟩
 case round=>
  obtain ⟨i,hi,rfl,hown,hB⟩:=hrel
  clear ho8 hb8
  obtain ⟨_,_,_,_,m4,m5⟩:=HX.out wr hB
  by_cases hlt:i < L
  ·have hih:i < txs.length:=by rw [HL.out];exact hlt
   obtain ⟨ba,oa,rfl,hba,hcla⟩:=m5.at_.2.2.2 (by omega)
   have hI:(i:Int) < (L:Int):=by omega
   have l1:loadTx (.pointer (some ⟨ba,oa + i * 7,none⟩)) wr=.ok (.value (txv txs[i])) wr:=loadTx_mid (hcla i hih)
   have HBT:Hid (∀ W,Calls Tryz.prog 200 #[txv txs[i]] W fun e w'=>∃ x,e=.returned x∧Own W.heap.size w' x (bytesT txs[i])∧Below W.heap.size W w'):=hid (fun W=>refBytes_any _ W (HALL.out _ (List.getElem_mem hih)))
   have hbl:=bytesT_len (HALL.out _ (List.getElem_mem hih))
   obtain ⟨X,HX1⟩:∃ C:Array Value,Hid ((tcl txs[i]).toArray=C):=⟨_,hid rfl⟩
   rw [txv_tcl,HX1.out] at l1 HBT
   have hfl:=HTK.out i hi
   have hlen:(P ++ ((txs.take i).map bytesT).flatten).length + (bytesT txs[i]).length≤140737488355328:=by rw [List.length_append];have:=HPL2.out;omega
   have HNEW:=hid (flat_snoc txs i hih)
   clear hcla m5 hbl hfl
   go_wp2_with fail
   refine (HBT.out wr).mono ?_
   rintro e w9 ⟨v9,rfl,ho9,hb9'⟩
   have hb9:=hB.trans (hb9'.mono hB.size)
   have hown9:=hown.below hb9'
   clear l1 m4
   go_wp2_with (at_builtin;refine wpList_append_byt rfl (.tmp 36) (.tmp 42) rfl rfl rfl hown9 ho9.byt hlen hb9.size ?_;intro v10 w10 ho10 hg10 hv10;have hb10:=hb9.grown hg10 hb9.size (fun q hq=>(World.ownsRow.lt hown9 q hq).1);clear hg10 hv10)
   rw [List.append_assoc,← HNEW.out] at ho10
   go_roundw
   case rel=>exact ⟨i + 1,by omega,by go_num,ho10,hb10⟩
   case measure=>simp [intOf];omega
  ·obtain rfl:i=L:=by omega
   clear m5
   go_wp2
   go_ret
   rw [List.take_of_length_le (by rw [HL.out];exact Nat.le_refl _)] at hown
   refine ⟨_,rfl,?_,hb0.trans (hB.mono hs0)⟩
   have e:P ++ (txs.map bytesT).flatten=O:=by
    rw [← HO.out,← HP.out]
    unfold bytesK
    simp only [Int.toNat_natCast,HDO.out,HL.out,HDL.out,List.append_assoc,List.cons_append,List.nil_append]
   rw [e] at hown
   exact hown.more hs0
end Go.Proofs.YtpdnnmabijmfbaaGreatDoor
