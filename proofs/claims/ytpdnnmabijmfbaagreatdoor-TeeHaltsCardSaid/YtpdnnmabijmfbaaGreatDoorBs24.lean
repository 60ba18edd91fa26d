/-
  CtRight AcTagged AcArg PartsIn VaCodeTear: what each of them says stands at its head.
-/
import Derived.Test.YtpdnnmabijmfbaaGreatDoorBs20
import Derived.Test.YtpdnnmabijmfbaaGreatDoorBs19
import Derived.Test.YtpdnnmabijmfbaaGreatDoorBs21
namespace Go.Proofs.YtpdnnmabijmfbaaGreatDoor
set_option maxRecDepth 20000
open Go.RowKit
attribute [local go_sem ↓] exec_load_att exec_load_ct exec_load_sg
set_option maxHeartbeats 400000 in
theorem refRight9_any (n:Int) (v:Value) (c:CtM) (w:World) (hv:CtV w v c) (hK:Kst 0 w):
  Calls Tryz.prog 125 #[.int .i64 n,v] w fun e w'=>e=.returned (.bool (rightC n c))∧Below w.heap.size w w':=by
 have HV:=hid (fun W (h:Below w.heap.size w W)=>hv.below h)
 obtain ⟨s,rfl,ho,ht⟩:=hv
 have hb0:Below w.heap.size w (w.alloc (.cells (ctc c s) 57)):=(Below.refl _ _).alloc (Nat.le_refl _) _
 have hr0:=heap_alloc_new w (.cells (ctc c s) 57)
 obtain ⟨A,k,rfl⟩:=ht.shape
 have HT:=hid (fun W (h:Below w.heap.size w W)=>ht.below h)
 have hlen:=ht.len
 unfold maxLen at hlen
 obtain ⟨L,HL⟩:∃ n:Nat,Hid (c.sg.length=n):=⟨_,hid rfl⟩
 rw [HL.out] at hr0 hb0 HV HT hlen ⊢
 obtain ⟨C,HC⟩:∃ C:Array Value,Hid (ctc c (.slice A L k)=C):=⟨_,hid rfl⟩
 obtain ⟨q,HQ⟩:∃ q:Nat,Hid (quoS n=q):=⟨_,hid rfl⟩
 obtain ⟨r,HR⟩:∃ q:Bool,Hid (risesB n 0 c.sg=q):=⟨_,hid rfl⟩
 obtain ⟨b,HB⟩:∃ q:Bool,Hid (bareC c=q):=⟨_,hid rfl⟩
 obtain ⟨ans,HAN⟩:∃ q:Bool,Hid (rightC n c=q):=⟨_,hid rfl⟩
 have HRC:Hid (ans=(decide (q≠0) && (decide (L=q) && (r && (b && c.sg.all fun s=>rightA (withC c.att s)))))):=hid (by rw [← HAN.out];unfold rightC;rw [HQ.out,HL.out,HR.out,HB.out])
 rw [HC.out] at hr0 hb0 HV ⊢
 rw [HAN.out]
 have HKB:=hid (fun W (h:Below w.heap.size w W)=>(show Kst 0 W from hK.below h))
 have HQU:Hid (∀ W,Calls Tryz.prog 6 #[.int .i64 n] W fun e w'=>e=.returned (.int .i64 (q:Int))∧W=w'):=hid (fun W=>by
  have:=refQuorum_any n W
  rw [HQ.out] at this
  exact this)
 have HBA:Hid (∀ W,Below w.heap.size w W→Calls Tryz.prog 172 #[.agg C] W fun e w'=>e=.returned (.bool b)∧Below W.heap.size W w'):=hid (fun W h=>by
  have:=refBare9_any _ c W (HV.out W h)
  rw [HB.out] at this
  exact this)
 have HRI:Hid (∀ W,Below w.heap.size w W→Calls Tryz.prog 171 #[.slice A L k,.int .i64 n] W fun e w'=>e=.returned (.bool r)∧Below W.heap.size W w'):=hid (fun W h=>by
  have:=refRises9_any (.slice A L k) c.sg n W (HT.out W h)
  rw [HR.out] at this
  exact this)
 have HSO:=hid ho.sg
 have HAO:=hid ho.att
 have HWI:Hid (∀ s W,s.Ok→Calls Tryz.prog 173 #[.agg (atc c.att),.agg (sgc s)] W fun e w'=>e=.returned (.agg (atc (withC c.att s)))∧Below W.heap.size W w'):=hid (fun s W hs=>refWith9_any c.att s W HAO.out hs)
 have HRT:Hid (∀ s W,s.Ok→Below w.heap.size w W→Calls Tryz.prog 28 #[.agg (atc (withC c.att s))] W fun e w'=>e=.returned (.bool (rightA (withC c.att s)))∧Below W.heap.size W w'):=hid (fun s W hs h=>refRight8_any _ W (withC_ok HAO.out hs) (HKB.out W h))
 obtain ⟨G,HG⟩:∃ C:Array Value,Hid (atc c.att=C):=⟨_,hid rfl⟩
 rw [HG.out] at HWI
 have HLD:Hid (∀ W:World,W.heap[w.heap.size]?=some (.cells C 57 (0,0))→loadCt (.pointer (some ⟨w.heap.size,0,none⟩)) W=.ok (.value (.agg C)) W∧loadAtt (.pointer (some ⟨w.heap.size,0,none⟩)) W=.ok (.value (.agg G)) W∧W.cell? ⟨w.heap.size,101,none⟩=some (.slice A L k)):=hid (fun W h=>by
  have h2:=h
  rw [← HC.out] at h2
  have hBC:BoxC W w.heap.size c (.slice A L k):=h2
  refine ⟨loadCt_row h (by rw [← HC.out];exact ctc_size _ HAO.out),?_,hBC.sigs HAO.out⟩
  rw [← HG.out]
  exact loadAtt_in hBC.att HAO.out)
 have hq21:q≤21:=by
  rw [← HQ.out]
  by_cases h:quoS n=0
  ·omega
  ·have:=quoS_top h
   unfold quoS
   split <;> omega
 clear ho ht hK
 go_enter Tryz.func125,Tryz.ntmps125
 go_upto_region 1 with (fail)
 generalize (w.alloc (.cells C 57))=w0 at *
 have hl0:=lt_of_block hr0
 have HF:=hid (fun W (h:Below w0.heap.size w0 W)=>HLD.out W ((h.block _ hl0).trans hr0))
 obtain ⟨l0,_,c0⟩:=HF.out w0 (Below.refl _ _)
 clear hr0 hl0
 go_wp2_with fail
 refine (HQU.out w0).mono ?_
 rintro e w1 ⟨rfl,rfl⟩
 by_cases hq:q=0
 ·subst hq
  obtain rfl:ans=false:=HRC.out
  go_wp2_with fail
  go_ret
  exact ⟨rfl,hb0⟩
 ·have hq1:((q:Int) == 0)=false:=by simpa using hq
  by_cases hl:L=q
  ·have hl1:((L:Int) != (q:Int))=false:=by simp [hl]
   have HLQ:=hid hl
   have HQ0:=hid hq
   clear hl hq
   go_wp2_with fail
   refine (HRI.out w0 hb0).mono ?_
   rintro e w2 ⟨rfl,hb2⟩
   have hB2:=hb0.trans (hb2.mono hb0.size)
   clear l0 c0
   cases r with
   | false=>
    obtain rfl:ans=false:=by rw [HRC.out];simp
    go_wp2_with fail
    go_ret
    exact ⟨rfl,hB2⟩
   | true=>
    obtain ⟨l2,_,c2⟩:=HF.out w2 hb2
    go_wp2_with fail
    refine (HBA.out w2 hB2).mono ?_
    rintro e w3 ⟨rfl,hb3'⟩
    have hb3:=hb2.trans (hb3'.mono hb2.size)
    have hB3:=hB2.trans (hb3'.mono hB2.size)
    clear l2 c2 hb3' hb2 hB2
    cases b with
    | false=>
     obtain rfl:ans=false:=by rw [HRC.out];simp
     go_wp2_with fail
     go_ret
     exact ⟨rfl,hB3⟩
    | true=>
     have HRC2:Hid (ans=c.sg.all fun s=>rightA (withC c.att s)):=hid (by rw [HRC.out,decide_eq_true HQ0.out,decide_eq_true HLQ.out];rfl)
     have HTX:=hid (fun W (h:Below w3.heap.size w3 W)=>HT.out W (hB3.trans (h.mono hB3.size)))
     have HF3:=hid (fun W (h:Below w3.heap.size w3 W)=>HF.out W (hb3.trans (h.mono hb3.size)))
     have HBW:=hid (fun W (h:Below w3.heap.size w3 W)=>hB3.trans (h.mono hB3.size))
     clear hl1 hq1 hb3 hB3
     go_wp2_with fail
     go_loopw [6] (fun si wr=>∃ i:Nat,i≤L∧si=.int .i64 i∧Hid (∀ j (h:j < c.sg.length),j < i→rightA (withC c.att c.sg[j])=true)∧Below w3.heap.size w3 wr) (fun si _=>L - (intOf si).toNat)
     case atStart=>exact ⟨0,Nat.zero_le _,rfl,hid (fun j _ h=>absurd h (by omega)),Below.refl _ _⟩
     case round=>
      obtain ⟨i,hi,rfl,HD,hbr⟩:=hrel
      by_cases hlt:i < L
      ·have hil:i < c.sg.length:=by rw [HL.out];exact hlt
       obtain ⟨g,o,rfl,hg,_⟩:=(HTX.out wr hbr).at_.2.2.2 (by omega)
       have HSX:Hid (∀ W,Below w3.heap.size w3 W→loadSg (.pointer (some ⟨g,o + i * 33,none⟩)) W=.ok (.value (.agg (sgc c.sg[i]))) W):=hid (fun W h=>by
        obtain ⟨g',o',e,_,hcl⟩:=(HTX.out W h).at_.2.2.2 (by omega)
        injection e with e
        injection e with e1 e2 _
        subst e1 e2
        exact loadSg_mid (hcl i hil) (HSO.out _ (List.getElem_mem hil)))
       have hI:(i:Int) < (L:Int):=by omega
       have c1:=(HF3.out wr hbr).2.2
       obtain ⟨X,HX⟩:∃ C:Array Value,Hid (sgc c.sg[i]=C):=⟨_,hid rfl⟩
       have HW2:=hid (fun W=>HWI.out c.sg[i] W (HSO.out _ (List.getElem_mem hil)))
       have HR2:=hid (fun W (h:Below w.heap.size w W)=>HRT.out c.sg[i] W (HSO.out _ (List.getElem_mem hil)) h)
       obtain ⟨m,HM⟩:∃ m:Bool,Hid (rightA (withC c.att c.sg[i])=m):=⟨_,hid rfl⟩
       obtain ⟨Y,HY⟩:∃ C:Array Value,Hid (atc (withC c.att c.sg[i])=C):=⟨_,hid rfl⟩
       rw [HX.out] at HSX
       rw [HX.out,HY.out] at HW2
       rw [HY.out,HM.out] at HR2
       have HSS:Hid (∀ W,Below w3.heap.size w3 W→(loadAtt (.pointer (some ⟨w.heap.size,0,none⟩)) W=.ok (.value (.agg G)) W∧W.cell? ⟨w.heap.size,101,none⟩=some (.slice (some ⟨g,o,none⟩) L k)∧loadSg (.pointer (some ⟨g,o + i * 33,none⟩)) W=.ok (.value (.agg X)) W)):=hid (fun W h=>⟨(HF3.out W h).2.1,(HF3.out W h).2.2,HSX.out W h⟩)
       have hbd:Below w3.heap.size w3 wr.drew:=hbr.drew
       go_upto_region 7 with (fail)
       go_region_held3 (fun W=>loadAtt (.pointer (some ⟨w.heap.size,0,none⟩)) W=.ok (.value (.agg G)) W∧W.cell? ⟨w.heap.size,101,none⟩=some (.slice (some ⟨g,o,none⟩) L k)∧loadSg (.pointer (some ⟨g,o + i * 33,none⟩)) W=.ok (.value (.agg X)) W)
        (first
         | (refine HSS.out _ hbd)
         | (refine HSS.out _ hb5)
         | (refine HSS.out _ hb4)
         | fail)
        (first
         | (go_at_call 28;(with_reducible refine (HR2.out _ (HBW.out _ hb4)).mono ?_);rintro e w5 ⟨rfl,hb5'⟩;have hb5:=hb4.trans (hb5'.mono hb4.size))
         | (go_at_call 173;(with_reducible refine (HW2.out _).mono ?_);rintro e w4 ⟨rfl,hb4'⟩;have hb4:=hbd.trans (hb4'.mono hbd.size))
         | fail)
       clear c1 hbd hb4 hb4' hb5'
       cases m with
       | false=>
        obtain rfl:ans=false:=by
         rw [HRC2.out,List.all_eq_false]
         exact ⟨_,List.getElem_mem hil,by simp [HM.out]⟩
        go_wp2_with fail
        go_ret
        exact ⟨rfl,HBW.out _ hb5⟩
       | true=>
        go_wp2_with fail
        go_roundw
        case rel=>
         refine ⟨i + 1,by omega,by go_num,hid (fun j h hj=>?_),hb5⟩
         by_cases hji:j < i
         ·exact HD.out j h hji
         ·obtain rfl:j=i:=by omega
          exact HM.out
        case measure=>simp [intOf];omega
      ·obtain rfl:i=L:=by omega
       obtain rfl:ans=true:=by
        rw [HRC2.out,List.all_eq_true]
        intro s hs
        obtain ⟨j,hj,rfl⟩:=List.getElem_of_mem hs
        exact HD.out j hj (by have:=HL.out;omega)
       have c1:=(HF3.out wr hbr).2.2
       go_wp2_with fail
       go_ret
       exact ⟨rfl,HBW.out _ hbr⟩
  ·have hl1:((L:Int) != (q:Int))=true:=by simp;omega
   obtain rfl:ans=false:=by rw [HRC.out,decide_eq_false hl,Bool.false_and,Bool.and_false]
   clear hl
   go_wp2_with fail
   go_ret
   exact ⟨rfl,hb0⟩
end Go.Proofs.YtpdnnmabijmfbaaGreatDoor
namespace Go.Proofs.YtpdnnmabijmfbaaGreatDoor
set_option maxRecDepth 20000
open Go.RowKit
attribute [local go_sem ↓] exec_load_hash
theorem frB_snoc (l:List Int) (i:Nat) (h:i < l.length):frB (l.take (i + 1))=frB (l.take i) ++ dg (l[i]).toNat:=by
 unfold frB
 rw [List.take_succ_eq_append_getElem h,List.map_append,List.flatten_append]
 simp
set_option maxHeartbeats 3200000 in
theorem refTagged10_any (x0:Value) (a:AcM) (w:World) (hv:AcV w x0 a) (hm:mayX a=true):
  Calls Tryz.prog 133 #[x0] w fun e w'=>∃ x,e=.returned x∧Own w.heap.size w' x (taggedX a)∧Below w.heap.size w w':=by
 obtain ⟨s,rfl,ho,he⟩:=hv
 obtain ⟨_,h1,h2,h3,h4,h5,h6,h7⟩:=mayX_iff.1 hm
 obtain ⟨hfr,hlen⟩:=mayX_fr hm
 have HFR:=hid hfr
 obtain ⟨A,c,rfl⟩:=he.shape
 have hb0:Below w.heap.size w (w.alloc (.cells (axc a (.slice A a.fr.length c)) 52)):=(Below.refl _ _).alloc (Nat.le_refl _) _
 have hX:=BoxX.new w a (.slice A a.fr.length c)
 have he0:=he.below hb0
 obtain ⟨L,HL⟩:∃ n:Nat,Hid (a.fr.length=n):=⟨_,hid rfl⟩
 rw [HL.out] at hX hb0 he0 hlen ⊢
 obtain ⟨C,HC⟩:∃ C:Array Value,Hid (axc a (.slice A L c)=C):=⟨_,hid rfl⟩
 obtain ⟨O,HO⟩:∃ O:List UInt8,Hid (taggedX a=O):=⟨_,hid rfl⟩
 rw [HC.out] at hb0 hX he0 ⊢
 rw [HO.out]
 have HOK:=hid ho
 obtain ⟨v,HVV⟩:∃ v:Nat,Hid (a.vi=(v:Int)):=⟨a.vi.toNat,hid (by omega)⟩
 obtain ⟨q,HQQ⟩:∃ v:Nat,Hid (a.pv=(v:Int)):=⟨a.pv.toNat,hid (by omega)⟩
 have hv1:IntKind.u64.wrap (v:Int)=(v:Int):=wrap_u64 _ (by have:=HVV.out;omega) (by have:=HVV.out;omega)
 have hq1:IntKind.u64.wrap (q:Int)=(q:Int):=wrap_u64 _ (by have:=HQQ.out;omega) (by have:=HQQ.out;omega)
 have HNV:=hid (fun w=>refnum_any (v:Int) w (by omega) (by have:=HVV.out;omega))
 have HNQ:=hid (fun w=>refnum_any (q:Int) w (by omega) (by have:=HQQ.out;omega))
 rw [Int.toNat_natCast] at HNV HNQ
 have HLV:=hid (dg_len10 (n:=v) (by have:=HVV.out;omega))
 have HLQ:=hid (dg_len10 (n:=q) (by have:=HQQ.out;omega))
 have HBP:=hid (fun w=>refBytes7_arr a.pa w HOK.out.pa)
 have HL21:=hid hlen
 have hLw:IntKind.u8.wrap (L:Int)=(L:Int):=by rw [IntKind.wrap_u8'];omega
 have HYL:=hid (fun w=>one_own w L (by omega))
 have HDL:Hid (dg L=[UInt8.ofNat L]):=hid (dg_small (by omega))
 clear h1 h2 h3 h4 h5 h6 h7 hm hfr ho he
 go_enter Tryz.func133,Tryz.ntmps133
 go_upto_region 1 with (fail)
 generalize (w.alloc (.cells C 52))=w0 at *
 have hs0:=hb0.size
 have HX:Hid (∀ W,Below w0.heap.size w0 W→W.heap[w.heap.size]?=some (.cells C 52 (0,0))):=hid (fun W h=>(h.block _ hX.lt).trans (by have:=hX;unfold BoxX at this;rw [HC.out] at this;exact this))
 have HXC:Hid (∀ W:World,W.heap[w.heap.size]?=some (.cells C 52 (0,0))→W.cell? ⟨w.heap.size,1,none⟩=some (.int .i64 (v:Int))∧W.cell? ⟨w.heap.size,2,none⟩=some (.int .i64 (q:Int))∧W.cell? ⟨w.heap.size,35,none⟩=some (.slice A L c)∧W.rangeAt w.heap.size 3 (bcells a.pa)):=hid (fun W h=>by
  rw [← HC.out] at h
  have hB:BoxX W w.heap.size a (.slice A L c):=h
  rw [← HVV.out,← HQQ.out]
  exact ⟨hB.ints.2.1,hB.ints.2.2,hB.fr HOK.out,hB.pa⟩)
 have HTX:=hid (fun W (h:Below w0.heap.size w0 W)=>he0.below h)
 have hbd:Below w0.heap.size w0 w0.drew:=(Below.refl _ _).drew
 have HB0:=hid hb0
 clear hX he0 hb0
 refine wp_region_held_drew (S:=fun W=>W.heap[w.heap.size]?=some (.cells C 52 (0,0))) (by kernel_rfl) (HX.out _ hbd) (fun hHeld=>?_)
 refine' tkq 0 rfl ?_;try simp only [lay]
 refine' tk (i:=1) (v:=_) rfl ?_ ?_
 rotate_left
 ·(intro W hW;(try dsimp only at hW);have hW1:=(HXC.out W hW).1;have hW2:=(HXC.out W hW).2.1;have hW3:=(HXC.out W hW).2.2.1;clear hW;go_simp;first | done | with_reducible rfl)
 try simp only [lay]
 refine' tkq 2 rfl ?_;try simp only [lay]
 refine' tkq 4 rfl ?_;try simp only [lay]
 refine' tk (i:=5) (v:=_) rfl ?_ ?_
 rotate_left
 ·(intro W hW;(try dsimp only at hW);have hW1:=(HXC.out W hW).1;have hW2:=(HXC.out W hW).2.1;have hW3:=(HXC.out W hW).2.2.1;clear hW;go_simp;first | done | with_reducible rfl)
 try simp only [lay]
 refine' tkq 6 rfl ?_;try simp only [lay]
 refine call_on (i:=3) rfl (by kernel_rfl) (by rfl) (fun K hK=>?_)
 go_simp
 refine (HNV.out w0.drew).mono ?_
 rintro e w4 ⟨v4,rfl,ho4,hb4'⟩
 have hb4:=hbd.trans hb4'
 refine hK.out _ _ (HX.out _ hb4) (fun hHeld=>?_)
 clear hK K
 try simp only [lay]
 refine call_on (i:=7) rfl (by kernel_rfl) (by rfl) (fun K hK=>?_)
 go_simp
 refine (HNQ.out w4).mono ?_
 rintro e w5 ⟨v5,rfl,ho5,hb5'⟩
 have hb5:=hb4.trans (hb5'.mono hb4.size)
 refine hK.out _ _ (HX.out _ hb5) (fun hHeld=>?_)
 clear hK K
 try simp only [lay]
 refine call_on (i:=8) rfl (by kernel_rfl) (by rfl) (fun K hK=>?_)
 refine wp_append_byt (.tmp 8) (.tmp 12) rfl rfl rfl (ho4.below hb5') ho5.byt (by have:=HLV.out;have:=HLQ.out;omega) hb5.size ?_
 intro v6 w6 ho6 hg6 _
 have hb6:=hb5.grown hg6 hb5.size (fun q hq=>(World.ownsRow.lt (ho4.below hb5') q hq).1)
 refine hK.out _ _ (HX.out _ hb6) (fun hHeld=>?_)
 clear hK K
 try simp only [lay]
 refine' tkq 9 rfl ?_;try simp only [lay]
 refine wpAnyH_done (by kernel_rfl) ?_ _
 obtain ⟨T1,HT1⟩:∃ O:List UInt8,Hid (dg v ++ dg q=O):=⟨_,hid rfl⟩
 have HT1L:Hid (T1.length≤20):=hid (by rw [← HT1.out,List.length_append];have:=HLV.out;have:=HLQ.out;omega)
 have ho6':Own w0.heap.size w6 v6 T1:=by rw [← HT1.out];exact ho6
 obtain ⟨P,HP⟩:∃ O:List UInt8,Hid (T1 ++ a.pa ++ [UInt8.ofNat L]=O):=⟨_,hid rfl⟩
 have HPL:Hid (P.length≤60):=hid (by rw [← HP.out];simp only [List.length_append,List.length_cons,List.length_nil,HOK.out.pa];have:=HT1L.out;omega)
 clear hHeld ho4 ho5 hb4 hb4' hb5 hb5' hg6 ho6 hv1 hq1 hbd
 go_upto_region 2 with (fail)
 have hb7:Below w0.heap.size w0 w6.drew:=hb6.drew
 have hr7:Below w6.heap.size w6 w6.drew:=(Below.refl _ _).drew
 go_cut [3] (fun s3 wx=>Own w0.heap.size wx s3 P∧Below w0.heap.size w0 wx)
 case first=>
  refine wp_region_held_drew (S:=fun W=>W.heap[w.heap.size]?=some (.cells C 52 (0,0))) (by kernel_rfl) (HX.out _ hb7) (fun hHeld=>?_)
  refine' tkq 0 rfl ?_;try simp only [lay]
  refine' tkq 1 rfl ?_;try simp only [lay]
  refine' tk (i:=2) (v:=_) rfl (fun W hW=>loadH_mid (HXC.out W hW).2.2.2 HOK.out.pa) ?_
  try simp only [lay]
  refine' tkq 5 rfl ?_;try simp only [lay]
  refine' tk (i:=6) (v:=_) rfl ?_ ?_
  rotate_left
  ·(intro W hW;(try dsimp only at hW);have hW3:=(HXC.out W hW).2.2.1;clear hW;go_simp;first | done | with_reducible rfl)
  try simp only [lay]
  refine' tkq 7 rfl ?_;try simp only [lay]
  refine' tkq 8 rfl ?_;try simp only [lay]
  have ho7:Own w0.heap.size w6.drew v6 T1:=ho6'.below hr7
  refine pair_on (i:=3) (j:=9) rfl rfl (by kernel_rfl) (by rfl) (by rfl) (fun K hK=>?_) (fun K hK=>?_)
  ·go_simp
   refine (HBP.out w6.drew).mono ?_
   rintro e u1 ⟨x4,rfl,ko5,kb2⟩
   have kb3:=hb7.trans (kb2.mono hb7.size)
   have kb3o:=ho7.below kb2
   refine hK.out _ _ (HX.out _ kb3) (fun hHeld=>?_)
   clear hK K
   try simp only [lay]
   refine pair_on (i:=4) (j:=9) rfl rfl (by kernel_rfl) (by rfl) (by rfl) (fun K hK=>?_) (fun K hK=>?_)
   ·refine wp_append_byt (.tmp 14) (.tmp 17) rfl rfl rfl kb3o ko5.byt (by have:=HT1L.out;have:=HOK.out.pa;omega) kb3.size ?_
    intro x6 u7 ko8 kg9 _
    have kb10:=kb3.grown kg9 kb3.size (fun q hq=>(World.ownsRow.lt kb3o q hq).1)
    refine hK.out _ _ (HX.out _ kb10) (fun hHeld=>?_)
    clear hK K
    try simp only [lay]
    refine call_on (i:=9) rfl (by kernel_rfl) (by rfl) (fun K hK=>?_)
    go_simp
    have kb11:=kb10.alloc kb10.size (.cells #[.int .u8 (L:Int)] 5)
    have ky12:=(HYL.out u7).byt
    have kb11o:=ko8.alloc (.cells #[.int .u8 (L:Int)] 5)
    refine hK.out _ _ (HX.out _ kb11) (fun hHeld=>?_)
    clear hK K
    try simp only [lay]
    refine call_on (i:=10) rfl (by kernel_rfl) (by rfl) (fun K hK=>?_)
    refine wp_append_byt (.tmp 18) (.tmp 23) rfl rfl rfl kb11o ky12 (by rw [List.length_append];have:=HT1L.out;have:=HOK.out.pa;simp only [List.length_cons,List.length_nil];omega) kb11.size ?_
    intro x13 u14 ko15 kg16 _
    have kb17:=kb11.grown kg16 kb11.size (fun q hq=>(World.ownsRow.lt kb11o q hq).1)
    refine hK.out _ _ (HX.out _ kb17) (fun hHeld=>?_)
    clear hK K
    try simp only [lay]
    refine' tkq 11 rfl ?_;try simp only [lay]
    refine wpAnyH_done (by kernel_rfl) ?_ _
    rw [HP.out] at ko15
    have HF:=hid (And.intro ko15 kb17)
    clear hHeld
    go_wp2_with fail
    go_meet
    case rel=>exact HF.out
   ·go_simp
    have kb18:=kb3.alloc kb3.size (.cells #[.int .u8 (L:Int)] 5)
    have ky19:=HYL.out u1
    have kb18o:=kb3o.alloc (.cells #[.int .u8 (L:Int)] 5)
    have ko20:=ko5.alloc (.cells #[.int .u8 (L:Int)] 5)
    refine hK.out _ _ (HX.out _ kb18) (fun hHeld=>?_)
    clear hK K
    try simp only [lay]
    refine call_on (i:=4) rfl (by kernel_rfl) (by rfl) (fun K hK=>?_)
    refine wp_append_byt (.tmp 14) (.tmp 17) rfl rfl rfl kb18o ko20.byt (by have:=HT1L.out;have:=HOK.out.pa;omega) kb18.size ?_
    intro x21 u22 ko23 kg24 _
    have kb25:=kb18.grown kg24 kb18.size (fun q hq=>(World.ownsRow.lt kb18o q hq).1)
    have ky26:=own_past ho7 kb2.size ky19 kg24
    refine hK.out _ _ (HX.out _ kb25) (fun hHeld=>?_)
    clear hK K
    try simp only [lay]
    refine call_on (i:=10) rfl (by kernel_rfl) (by rfl) (fun K hK=>?_)
    refine wp_append_byt (.tmp 18) (.tmp 23) rfl rfl rfl ko23 ky26 (by rw [List.length_append];have:=HT1L.out;have:=HOK.out.pa;simp only [List.length_cons,List.length_nil];omega) kb25.size ?_
    intro x27 u28 ko29 kg30 _
    have kb31:=kb25.grown kg30 kb25.size (fun q hq=>(World.ownsRow.lt ko23 q hq).1)
    refine hK.out _ _ (HX.out _ kb31) (fun hHeld=>?_)
    clear hK K
    try simp only [lay]
    refine' tkq 11 rfl ?_;try simp only [lay]
    refine wpAnyH_done (by kernel_rfl) ?_ _
    rw [HP.out] at ko29
    have HF:=hid (And.intro ko29 kb31)
    clear hHeld
    go_wp2_with fail
    go_meet
    case rel=>exact HF.out
  ·go_simp
   have kb32:=hb7.alloc hb7.size (.cells #[.int .u8 (L:Int)] 5)
   have ky33:=HYL.out w6.drew
   have kb32o:=ho7.alloc (.cells #[.int .u8 (L:Int)] 5)
   refine hK.out _ _ (HX.out _ kb32) (fun hHeld=>?_)
   clear hK K
   try simp only [lay]
   refine call_on (i:=3) rfl (by kernel_rfl) (by rfl) (fun K hK=>?_)
   go_simp
   refine (HBP.out (w6.drew.alloc (.cells #[.int .u8 (L:Int)] 5))).mono ?_
   rintro e u34 ⟨x37,rfl,ko38,kb35⟩
   have kb36:=kb32.trans (kb35.mono kb32.size)
   have kb36o:=kb32o.below kb35
   have ky39:=ky33.below kb35
   refine hK.out _ _ (HX.out _ kb36) (fun hHeld=>?_)
   clear hK K
   try simp only [lay]
   refine call_on (i:=4) rfl (by kernel_rfl) (by rfl) (fun K hK=>?_)
   refine wp_append_byt (.tmp 14) (.tmp 17) rfl rfl rfl kb36o ko38.byt (by have:=HT1L.out;have:=HOK.out.pa;omega) kb36.size ?_
   intro x40 u41 ko42 kg43 _
   have kb44:=kb36.grown kg43 kb36.size (fun q hq=>(World.ownsRow.lt kb36o q hq).1)
   have ky45:=own_past ho7 (Nat.le_refl _) ky39 kg43
   refine hK.out _ _ (HX.out _ kb44) (fun hHeld=>?_)
   clear hK K
   try simp only [lay]
   refine call_on (i:=10) rfl (by kernel_rfl) (by rfl) (fun K hK=>?_)
   refine wp_append_byt (.tmp 18) (.tmp 23) rfl rfl rfl ko42 ky45 (by rw [List.length_append];have:=HT1L.out;have:=HOK.out.pa;simp only [List.length_cons,List.length_nil];omega) kb44.size ?_
   intro x46 u47 ko48 kg49 _
   have kb50:=kb44.grown kg49 kb44.size (fun q hq=>(World.ownsRow.lt ko42 q hq).1)
   refine hK.out _ _ (HX.out _ kb50) (fun hHeld=>?_)
   clear hK K
   try simp only [lay]
   refine' tkq 11 rfl ?_;try simp only [lay]
   refine wpAnyH_done (by kernel_rfl) ?_ _
   rw [HP.out] at ko48
   have HF:=hid (And.intro ko48 kb50)
   clear hHeld
   go_wp2_with fail
   go_meet
   case rel=>exact HF.out
 case rest=>
  obtain ⟨hoc,hbc⟩:=hcut
  have HLI:Hid (L≤9223372036854775807):=hid (by have:=HL21.out;omega)
  clear ho6' hb6 hb7 hr7 hLw
  go_wp2_with fail
  go_loopw [3,4] (fun out si wr=>∃ i:Nat,i≤L∧si=.int .i64 i∧Own w0.heap.size wr out (P ++ frB (a.fr.take i))∧Below w0.heap.size w0 wr) (fun _ si _=>L - (intOf si).toNat)
  case atStart=>exact ⟨0,Nat.zero_le _,rfl,by rw [List.take_zero];unfold frB;rw [List.map_nil,List.flatten_nil,List.append_nil];exact hoc,hbc⟩
  case round=>
   obtain ⟨i,hi,rfl,hown,hB⟩:=hrel
   clear hoc hbc
   by_cases hlt:i < L
   ·have hil:i < a.fr.length:=by rw [HL.out];exact hlt
    obtain ⟨g,o,rfl,hg,hcl⟩:=(HTX.out wr hB).at_.2.2.2 (by omega)
    have hsi:=HFR.out _ (List.getElem_mem hil)
    have HNEW:=hid (frB_snoc a.fr i hil)
    have HFL:Hid ((frB (a.fr.take i)).length≤21):=hid (by
     rw [frB_len _ (fun s hs=>HFR.out s (List.mem_of_mem_take hs)),List.length_take]
     have:=HL21.out
     omega)
    obtain ⟨b,HSI⟩:∃ s,Hid (a.fr[i]=s):=⟨_,hid rfl⟩
    rw [HSI.out] at hsi HNEW
    obtain ⟨n,rfl⟩:=nat_of (i:=b) (by omega)
    have hbw:IntKind.u8.wrap (n:Int)=(n:Int):=by rw [IntKind.wrap_u8'];omega
    have HDN:Hid (dg n=[UInt8.ofNat n]):=hid (dg_small (by omega))
    rw [Int.toNat_natCast,HDN.out] at HNEW
    have HYN:=hid (fun w=>one_own w n (by omega))
    have c0:=(HXC.out wr (HX.out wr hB)).2.2.1
    have c1:wr.cell? ⟨g,o + i,none⟩=some (.int .i64 (n:Int)):=by
     have:=hcl i hil 0 _ rfl
     rwa [Nat.mul_one,Nat.add_zero,HSI.out] at this
    obtain ⟨Q,HQ⟩:∃ Q:List UInt8,Hid (P ++ frB (a.fr.take i)=Q):=⟨_,hid rfl⟩
    have HQL:Hid (Q.length≤100):=hid (by rw [← HQ.out,List.length_append];have:=HPL.out;have:=HFL.out;omega)
    rw [HQ.out] at hown
    have hI:(i:Int) < (L:Int):=by omega
    have hHI:Hid (i < L):=hid hlt
    have HBW:=hid hB
    have HWW:=hid hown
    clear hcl hsi hg hown
    go_wp2_with (at_builtin;refine wpList_append_byt rfl (.tmp 32) (.tmp 39) rfl rfl rfl (HWW.out.alloc _) (HYN.out wr).byt (by have:=HQL.out;simp only [List.length_cons,List.length_nil];omega) (Nat.le_trans HBW.out.size (al_le _ _)) ?_;intro v8 w8 ho8 hg8 _;have HO8:=hid ho8;have HB8:=hid ((HBW.out.alloc HBW.out.size _).grown hg8 (Nat.le_trans HBW.out.size (al_le _ _)) (fun q hq=>(World.ownsRow.lt HWW.out q hq).1));clear hg8 ho8)
    go_roundw
    case rel=>
     refine ⟨i + 1,hHI.out,by go_num,?_,HB8.out⟩
     rw [HNEW.out,← List.append_assoc,HQ.out]
     exact HO8.out
    case measure=>have:=HL21.out;simp [intOf];omega
   ·have E4:=hid (show i=L by omega)
    have hI:¬ (i:Int) < (L:Int):=by omega
    have c0:=(HXC.out wr (HX.out wr hB)).2.2.1
    go_wp2_with fail
    go_ret
    refine ⟨_,rfl,?_,HB0.out.trans (hB.mono hs0)⟩
    rw [E4.out,List.take_of_length_le (by rw [HL.out];exact Nat.le_refl _)] at hown
    have e:P ++ frB a.fr=O:=by
     rw [← HO.out,← HP.out,← HT1.out]
     unfold taggedX
     rw [HL.out,HDL.out,HVV.out,HQQ.out,Int.toNat_natCast,Int.toNat_natCast]
     simp only [List.append_assoc]
    rw [e] at hown
    exact hown.more hs0
end Go.Proofs.YtpdnnmabijmfbaaGreatDoor
namespace Go.Proofs.YtpdnnmabijmfbaaGreatDoor
set_option maxRecDepth 20000
open Go.ChangeShapes Go.WideShapes Go.ChangeAt Go.RowKit Go.Deep
section
variable {H:Type} {enc:TypeId × Value→H} {w:World} {base:Nat} {spare:Nat→Bool} {held:Bool} {fuel:Nat} {cs:List Value} {x:DataW H × List MemPlace}
theorem trod_ics (h:DataW.trod enc Tryz.prog w base spare held fuel 50 cs=some x):∃ v L,cs=[v]∧Els icl 1 w v L:=by
 obtain ⟨v,L,h1,h2,_⟩:=eltIc.trod 0 trivial (fun h=>by
  obtain ⟨n,e,_,_⟩:=DataW.trod_int Tryz.underlying3 h
  exact ⟨n,trivial,e⟩) h
 exact ⟨v,L,h1,h2⟩
theorem fields_ac:∃ f0 f1 f2 f3 f4 f5:Field,Tryz.prog.underlying 52=some (.struct #[f0,f1,f2,f3,f4,f5])∧(f0.type,f0.offset)=(3,0)∧(f1.type,f1.offset)=(3,1)∧(f2.type,f2.offset)=(3,2)∧(f3.type,f3.offset)=(38,3)∧(f4.type,f4.offset)=(50,35)∧(f5.type,f5.offset)=(38,36):=
 ⟨_,_,_,_,_,_,Tryz.underlying52,rfl,rfl,rfl,rfl,rfl,rfl⟩
theorem trod_ac (h:DataW.trod enc Tryz.prog w base spare held fuel 52 cs=some x):∃ a:AcM,AcV w (.agg cs.toArray) a:=by
 obtain ⟨f0,f1,f2,f3,f4,f5,hu,e0,e1,e2,e3,e4,e5⟩:=fields_ac
 injection e0 with t0 o0
 injection e1 with t1 o1
 injection e2 with t2 o2
 injection e3 with t3 o3
 injection e4 with t4 o4
 injection e5 with t5 o5
 obtain ⟨xs,m,_,_,hlen,hxl,hf⟩:=DataW.trod_struct hu h
 have hc:Tryz.prog.cellsOf 52=68:=by kernel_rfl
 have hci:Tryz.prog.cellsOf 3=1:=by kernel_rfl
 have hch:Tryz.prog.cellsOf 38=32:=by kernel_rfl
 have hcs:Tryz.prog.cellsOf 50=1:=by kernel_rfl
 rw [hc] at hlen
 have hx:xs.length=6:=hxl
 have g0:=hf 0 f0 rfl
 have g1:=hf 1 f1 rfl
 have g2:=hf 2 f2 rfl
 have g3:=hf 3 f3 rfl
 have g4:=hf 4 f4 rfl
 have g5:=hf 5 f5 rfl
 rw [t0,o0,hci,List.getElem?_eq_getElem (by omega)] at g0
 rw [t1,o1,hci,List.getElem?_eq_getElem (by omega)] at g1
 rw [t2,o2,hci,List.getElem?_eq_getElem (by omega)] at g2
 rw [t3,o3,hch,List.getElem?_eq_getElem (by omega)] at g3
 rw [t4,o4,hcs,List.getElem?_eq_getElem (by omega)] at g4
 rw [t5,o5,hch,List.getElem?_eq_getElem (by omega)] at g5
 obtain ⟨n0,c0,_,_⟩:=DataW.trod_int Tryz.underlying3 g0
 obtain ⟨n1,c1,_,_⟩:=DataW.trod_int Tryz.underlying3 g1
 obtain ⟨n2,c2,_,_⟩:=DataW.trod_int Tryz.underlying3 g2
 obtain ⟨pa,h3,c3⟩:=trod_hash g3
 obtain ⟨v,L,c4,hv⟩:=trod_ics g4
 obtain ⟨tg,h5,c5⟩:=trod_hash g5
 refine ⟨⟨n0,n1,n2,pa,L,tg⟩,v,?_,⟨h3,h5⟩,hv⟩
 have e:cs=cs.drop 0:=rfl
 rw [e,drop_part c0,drop_part c1,drop_part c2,drop_part c3,drop_part c4,drop_part c5,List.drop_eq_nil_of_le (by omega)]
 unfold axc axl
 simp only [List.append_nil,List.cons_append,List.nil_append]
end
end Go.Proofs.YtpdnnmabijmfbaaGreatDoor
namespace Go.Proofs.YtpdnnmabijmfbaaGreatDoor
set_option maxRecDepth 20000
open Go.RowKit
def ctl (c:CtM) (s:Value):List Value:=atl c.att ++ [s]
def bkl (b:BkM) (s:Value):List Value:=bcells b.par ++ [.int .i64 b.vi,.int .i64 b.he,.int .i64 b.bo,s]
theorem ctl_len {c:CtM} (s:Value) (h:c.att.Ok):(ctl c s).length=102:=by simp [ctl,atl_length h]
theorem bkl_len {b:BkM} (s:Value) (h:b.par.length=32):(bkl b s).length=36:=by simp [bkl,bcells,h]
theorem loadCt_in {w:World} {g o:Nat} {c:CtM} {s:Value} (hr:w.rangeAt g o (ctl c s)) (ho:c.att.Ok):loadCt (.pointer (some ⟨g,o,none⟩)) w=.ok (.value (.agg (ctc c s))) w:=by
 have:=run_loadAt_mid (P:=Tryz.prog) w g o 57 (ctl c s) _ hr under_ct rfl (by rw [size_ct,ctl_len s ho])
 unfold loadCt execOp
 simp only [Sem.run_bind,this,Result.andThen_ok,Sem.run_pure]
 rfl
theorem loadAx_in {w:World} {g o:Nat} {a:AcM} {s:Value} (hr:w.rangeAt g o (axl a s)) (ho:a.Ok):loadAx (.pointer (some ⟨g,o,none⟩)) w=.ok (.value (.agg (axc a s))) w:=by
 have:=run_loadAt_mid (P:=Tryz.prog) w g o 52 (axl a s) _ hr under_ax rfl (by rw [size_ax,axl_length s ho])
 unfold loadAx execOp
 simp only [Sem.run_bind,this,Result.andThen_ok,Sem.run_pure]
 rfl
theorem loadK_in {w:World} {g o:Nat} {b:BkM} {s:Value} (hr:w.rangeAt g o (bkl b s)) (ho:b.par.length=32):loadK (.pointer (some ⟨g,o,none⟩)) w=.ok (.value (.agg (bkc b s))) w:=by
 have:=run_loadAt_mid (P:=Tryz.prog) w g o 49 (bkl b s) _ hr under_bk rfl (by rw [size_bk,bkl_len s ho])
 unfold loadK execOp
 simp only [Sem.run_bind,this,Result.andThen_ok,Sem.run_pure]
 rfl
end Go.Proofs.YtpdnnmabijmfbaaGreatDoor
namespace Go.Proofs.YtpdnnmabijmfbaaGreatDoor
set_option maxRecDepth 20000
open Go.RowKit
attribute [local go_sem ↓] exec_cutH exec_cutL
def mxI (x y:Int):Int:=if y > x then y else x
def mnI (x y:Int):Int:=if y < x then y else x
theorem max2_int (ats:Array TypeId) (ty:TypeId) (k k':IntKind) (x y:Int):Builtin.max_ ats ty #[.int k x,.int k' y]=pure (.int k (mxI x y)):=rfl
theorem min2_int (ats:Array TypeId) (ty:TypeId) (k k':IntKind) (x y:Int):Builtin.min_ ats ty #[.int k x,.int k' y]=pure (.int k (mnI x y)):=rfl
attribute [local go_sem ↓] max2_int min2_int
section
variable {w:World} {b c a:Nat} {V:VaM} {v0 v1 vt:Value}
theorem vtear_none (h:VltE w b c a V v0 v1 vt) (ht:V.torn=[]) (m:Int):Calls Tryz.prog 90 #[.pointer (some ⟨b,0,none⟩),.int .i64 m] w fun e w'=>e=.returned (.tuple #[])∧w=w':=by
 obtain ⟨_,_,_,_,_,_,h6⟩:=h.cells
 rw [h.nt ht] at h6
 clear h ht
 have qT:=qnil_bytes
 go_enter Tryz.func90,Tryz.ntmps90
 go_wp2
 (try simp only [Exit.inBlock,Exit.then])
 refine bodyPost_ret (results_none rfl _ _ _) rfl ?_
 exact ⟨rfl,rfl⟩
set_option maxHeartbeats 6400000 in
theorem vtear_zero (h:VltE w b c a V v0 v1 vt) (g:V.Good) (ht:¬ V.torn=[]) (hp:placeV V=0) (m:Int):Calls Tryz.prog 90 #[.pointer (some ⟨b,0,none⟩),.int .i64 m] w fun e w'=>e=.returned (.tuple #[])∧Vlt w' b c a (tearV V m)∧Turn b a w w':=by
 have q1:tearV V m={ putV V 0 (tearL V.torn V.s0 m) with torn:=[] }:=by
  unfold tearV
  rw [if_neg ht,hp]
  rfl
 rw [q1]
 have HP:=hid (vplace_any h g)
 rw [hp] at HP
 obtain ⟨L,HL⟩:∃ q:Nat,Hid (V.torn.length=q):=⟨_,hid rfl⟩
 obtain ⟨N,HN⟩:∃ q:Nat,Hid (V.s0.length=q):=⟨_,hid rfl⟩
 have hL1:L≤1000:=by rw [← HL.out];exact g.lt
 have hN1:N≤1000:=by rw [← HN.out];exact g.l0
 obtain ⟨T,HT⟩:∃ q:Nat,Hid (min m.toNat L=q):=⟨_,hid rfl⟩
 have hTL:T≤L:=by have:=HT.out;omega
 obtain ⟨U,HU⟩:∃ q:Nat,Hid (min T N=q):=⟨_,hid rfl⟩
 have hUN:U≤N:=by have:=HU.out;omega
 have m1:mnI (mxI m 0) (L:Int)=(T:Int):=by
  have:=HT.out
  unfold mnI mxI
  split <;> split <;> omega
 have m2:mnI (T:Int) (N:Int)=(U:Int):=by
  have:=HU.out
  unfold mnI
  split <;> omega
 have HR:Hid (V.torn.take T ++ V.s0.drop U=tearL V.torn V.s0 m):=hid (by
  have e1:V.torn.take T=V.torn.take m.toNat:=by
   rw [← HT.out,← HL.out]
   by_cases hm:m.toNat≤V.torn.length
   ·rw [Nat.min_eq_left hm]
   ·rw [Nat.min_eq_right (by omega),List.take_length,List.take_of_length_le (by omega)]
  unfold tearL
  rw [← e1]
  congr 1
  have e2:(V.torn.take T).length=T:=by rw [List.length_take,HL.out];omega
  rw [e2,← HU.out,← HN.out]
  by_cases hm:T≤V.s0.length
  ·rw [Nat.min_eq_left hm]
  ·rw [Nat.min_eq_right (by omega),List.drop_length,List.drop_of_length_le (by omega)])
 have hyt:=h.yt.byt
 have hy:=h.y0.byt
 obtain ⟨A6,d6,r6⟩:=hyt.shape
 rw [HL.out] at r6
 subst r6
 obtain ⟨A1,d1,r1⟩:=hy.shape
 rw [HN.out] at r1
 subst r1
 have hcL:=hyt.at_.2.1
 have hra:=hyt.at_.2.2.2
 rw [HL.out] at hcL
 have hcN:=hy.at_.2.1
 rw [HN.out] at hcN
 obtain ⟨ad,rfl⟩:∃ x,A6=some x:=by
  obtain ⟨x,y,e,_⟩:=hra (by rcases ht2:V.torn with _ | ⟨x,y⟩;exact absurd ht2 ht;simp)
  exact ⟨_,e⟩
 obtain ⟨A3,c3,r3,p3⟩:=cut_h (some ad) d6 L T hTL hcL
 obtain ⟨A4,c4,r4,p4⟩:=cut_l A1 d1 N U hUN hcN
 have hd:Below w.heap.size w w.drew:=(Below.refl _ _).drew
 have hy3:=p3 w.drew _ HL.out (hyt.drewN 1)
 have hy4:=p4 w.drew _ HN.out (hy.drewN 1)
 have hcells:=h.cells
 have HPD:=hid (vplace_any (h.below hd) g)
 rw [hp] at HPD
 have HX:Hid (∀ W u,Below w.heap.size w W→Bys W u (tearL V.torn V.s0 m)→VltE (W.setCell ⟨b,1,none⟩ u) b c a (putV V 0 (tearL V.torn V.s0 m)) u v1 (.slice (some ad) L d6)∧Turn b a w (W.setCell ⟨b,1,none⟩ u)∧W.cell? ⟨b,1,none⟩=some (.slice A1 N d1)∧W.frozen? ⟨b,1,none⟩=false):=hid (fun W u hb hu=>
  ⟨(h.below hb).setZero hu,(Turn.of hb).setB _ _,(h.below hb).cells.2.1,(h.below hb).free _⟩)
 have HC6:Hid (∀ W,Below w.heap.size w W→W.cell? ⟨b,6,none⟩=some (.slice (some ad) L d6)):=hid (fun W hb=>(h.below hb).cells.2.2.2.2.2.2)
 obtain ⟨_,c1,c2,_,_,_,c6⟩:=hcells
 have hTT:(V.torn.take T).length=T:=by rw [List.length_take,HL.out];omega
 have hUU:(V.s0.drop U).length=N - U:=by rw [List.length_drop,HN.out]
 clear h g ht hp q1 hyt hy hra HT HU hd p3 p4 HL HN c2
 generalize tearL V.torn V.s0 m=R at *
 have HY3:=hid hy3
 have HY4:=hid hy4
 clear hy3 hy4
 have qT:=qnil_bytes
 go_enter Tryz.func90,Tryz.ntmps90
 go_upto_region 2 with (fail)
 clear qT
 go_wp2_with fail
 refine HP.out.mono ?_
 rintro e w1 ⟨rfl,rfl⟩
 go_upto_region 4 with (fail)
 refine wp_region_held_drew (S:=fun W=>W.cell? ⟨b,6,none⟩=some (.slice (some ad) L d6)) (by kernel_rfl) c6 (fun hHeld=>?_)
 refine' tkq 0 rfl ?_;try simp only [lay]
 refine' tkq 1 rfl ?_;try simp only [lay]
 refine' tkq 2 rfl ?_;try simp only [lay]
 refine' tkq 3 rfl ?_;try simp only [lay]
 refine' tkq 4 rfl ?_;try simp only [lay]
 refine' tkq 5 rfl ?_;try simp only [lay]
 refine' tkq 6 rfl ?_;try simp only [lay]
 refine' tkq 7 rfl ?_;try simp only [lay]
 refine' tkq 8 rfl ?_;try simp only [lay]
 refine' tkq 9 rfl ?_;try simp only [lay]
 refine' tkq 10 rfl ?_;try simp only [lay]
 refine' tkq 11 rfl ?_;try simp only [lay]
 refine' tkq 12 rfl ?_;try simp only [lay]
 refine' tkq 13 rfl ?_;try simp only [lay]
 refine' tkq 16 rfl ?_;try simp only [lay]
 refine' tkq 17 rfl ?_;try simp only [lay]
 have HBA:Below w.heap.size w (w.drew.alloc (.cells #[.slice A3 T c3,.slice A4 (N - U) c4] 33)):=((Below.refl _ _).drew).alloc (Nat.le_refl _) _
 refine call_on (i:=14) rfl (by kernel_rfl) (by rfl) (fun K hK=>?_)
 go_simp
 refine hK.out _ _ (HC6.out _ HBA) (fun hHeld=>?_)
 clear hK K
 try simp only [lay]
 have HCC:=hid (concat2 (.slice A3 T c3) (.slice A4 (N - U) c4) _ _ w.heap.size 2 (w.drew.alloc (.cells #[.slice A3 T c3,.slice A4 (N - U) c4] 33)) (by simp) (new_cell w.drew _ _ 0 _ rfl) (new_cell w.drew _ _ 1 _ rfl) (HY3.out.alloc _) (HY4.out.alloc _) (by omega))
 rw [HR.out] at HCC
 refine call_on (i:=15) rfl (by kernel_rfl) (by rfl) (fun K hK=>?_)
 go_simp
 refine HCC.out.mono ?_
 rintro e w3 ⟨x3,rfl,ho3,hb3⟩
 have hb4:=HBA.trans (hb3.mono HBA.size)
 have hx3:=ho3.bys
 obtain ⟨A5,c5,r5⟩:=hx3.shape
 subst r5
 obtain ⟨h5,ht4,hc4,hf4⟩:=HX.out w3 _ hb4 hx3
 refine hK.out _ _ (HC6.out _ hb4) (fun hHeld=>?_)
 clear hK K
 try simp only [lay]
 refine' tkq 18 rfl ?_;try simp only [lay]
 refine call_on (i:=19) rfl (by kernel_rfl) (by rfl) (fun K hK=>?_)
 go_simp
 refine hK.out _ _ (h5.cells.2.2.2.2.2.2) (fun hHeld=>?_)
 clear hK K
 try simp only [lay]
 refine wpAnyH_done (by kernel_rfl) ?_ _
 clear hHeld hc4 hf4
 have HE:=hid (h5.setTorn (Bys.nil _) (fun _=>rfl))
 have HT5:=hid (ht4.setB 6 (.slice none 0 0))
 obtain ⟨_,_,_,_,_,_,k6⟩:=h5.cells
 have f6:=h5.free 6
 clear h5 ht4
 go_wp2_with fail
 go_end0
 exact ⟨rfl,⟨_,_,_,HE.out⟩,HT5.out⟩
set_option maxHeartbeats 6400000 in
theorem vtear_one (h:VltE w b c a V v0 v1 vt) (g:V.Good) (ht:¬ V.torn=[]) (hp:placeV V=1) (m:Int):Calls Tryz.prog 90 #[.pointer (some ⟨b,0,none⟩),.int .i64 m] w fun e w'=>e=.returned (.tuple #[])∧Vlt w' b c a (tearV V m)∧Turn b a w w':=by
 have q1:tearV V m={ putV V 1 (tearL V.torn V.s1 m) with torn:=[] }:=by
  unfold tearV
  rw [if_neg ht,hp]
  rfl
 rw [q1]
 have HP:=hid (vplace_any h g)
 rw [hp] at HP
 obtain ⟨L,HL⟩:∃ q:Nat,Hid (V.torn.length=q):=⟨_,hid rfl⟩
 obtain ⟨N,HN⟩:∃ q:Nat,Hid (V.s1.length=q):=⟨_,hid rfl⟩
 have hL1:L≤1000:=by rw [← HL.out];exact g.lt
 have hN1:N≤1000:=by rw [← HN.out];exact g.l1
 obtain ⟨T,HT⟩:∃ q:Nat,Hid (min m.toNat L=q):=⟨_,hid rfl⟩
 have hTL:T≤L:=by have:=HT.out;omega
 obtain ⟨U,HU⟩:∃ q:Nat,Hid (min T N=q):=⟨_,hid rfl⟩
 have hUN:U≤N:=by have:=HU.out;omega
 have m1:mnI (mxI m 0) (L:Int)=(T:Int):=by
  have:=HT.out
  unfold mnI mxI
  split <;> split <;> omega
 have m2:mnI (T:Int) (N:Int)=(U:Int):=by
  have:=HU.out
  unfold mnI
  split <;> omega
 have HR:Hid (V.torn.take T ++ V.s1.drop U=tearL V.torn V.s1 m):=hid (by
  have e1:V.torn.take T=V.torn.take m.toNat:=by
   rw [← HT.out,← HL.out]
   by_cases hm:m.toNat≤V.torn.length
   ·rw [Nat.min_eq_left hm]
   ·rw [Nat.min_eq_right (by omega),List.take_length,List.take_of_length_le (by omega)]
  unfold tearL
  rw [← e1]
  congr 1
  have e2:(V.torn.take T).length=T:=by rw [List.length_take,HL.out];omega
  rw [e2,← HU.out,← HN.out]
  by_cases hm:T≤V.s1.length
  ·rw [Nat.min_eq_left hm]
  ·rw [Nat.min_eq_right (by omega),List.drop_length,List.drop_of_length_le (by omega)])
 have hyt:=h.yt.byt
 have hy:=h.y1.byt
 obtain ⟨A6,d6,r6⟩:=hyt.shape
 rw [HL.out] at r6
 subst r6
 obtain ⟨A1,d1,r1⟩:=hy.shape
 rw [HN.out] at r1
 subst r1
 have hcL:=hyt.at_.2.1
 have hra:=hyt.at_.2.2.2
 rw [HL.out] at hcL
 have hcN:=hy.at_.2.1
 rw [HN.out] at hcN
 obtain ⟨ad,rfl⟩:∃ x,A6=some x:=by
  obtain ⟨x,y,e,_⟩:=hra (by rcases ht2:V.torn with _ | ⟨x,y⟩;exact absurd ht2 ht;simp)
  exact ⟨_,e⟩
 obtain ⟨A3,c3,r3,p3⟩:=cut_h (some ad) d6 L T hTL hcL
 obtain ⟨A4,c4,r4,p4⟩:=cut_l A1 d1 N U hUN hcN
 have hd:Below w.heap.size w w.drew:=(Below.refl _ _).drew
 have hy3:=p3 w.drew _ HL.out (hyt.drewN 1)
 have hy4:=p4 w.drew _ HN.out (hy.drewN 1)
 have hcells:=h.cells
 have HPD:=hid (vplace_any (h.below hd) g)
 rw [hp] at HPD
 have HX:Hid (∀ W u,Below w.heap.size w W→Bys W u (tearL V.torn V.s1 m)→VltE (W.setCell ⟨b,2,none⟩ u) b c a (putV V 1 (tearL V.torn V.s1 m)) v0 u (.slice (some ad) L d6)∧Turn b a w (W.setCell ⟨b,2,none⟩ u)∧W.cell? ⟨b,2,none⟩=some (.slice A1 N d1)∧W.frozen? ⟨b,2,none⟩=false):=hid (fun W u hb hu=>
  ⟨(h.below hb).setOne hu,(Turn.of hb).setB _ _,(h.below hb).cells.2.2.1,(h.below hb).free _⟩)
 have HC6:Hid (∀ W,Below w.heap.size w W→W.cell? ⟨b,6,none⟩=some (.slice (some ad) L d6)):=hid (fun W hb=>(h.below hb).cells.2.2.2.2.2.2)
 obtain ⟨_,c1,c2,_,_,_,c6⟩:=hcells
 have hTT:(V.torn.take T).length=T:=by rw [List.length_take,HL.out];omega
 have hUU:(V.s1.drop U).length=N - U:=by rw [List.length_drop,HN.out]
 clear h g ht hp q1 hyt hy hra HT HU hd p3 p4 HL HN c1
 generalize tearL V.torn V.s1 m=R at *
 have HY3:=hid hy3
 have HY4:=hid hy4
 clear hy3 hy4
 have qT:=qnil_bytes
 go_enter Tryz.func90,Tryz.ntmps90
 go_upto_region 2 with (fail)
 clear qT
 go_wp2_with fail
 refine HP.out.mono ?_
 rintro e w1 ⟨rfl,rfl⟩
 go_upto_region 4 with (fail)
 refine wp_region_held_drew (S:=fun W=>W.cell? ⟨b,6,none⟩=some (.slice (some ad) L d6)) (by kernel_rfl) c6 (fun hHeld=>?_)
 refine' tkq 0 rfl ?_;try simp only [lay]
 refine' tkq 1 rfl ?_;try simp only [lay]
 refine' tkq 2 rfl ?_;try simp only [lay]
 refine' tkq 3 rfl ?_;try simp only [lay]
 refine' tkq 4 rfl ?_;try simp only [lay]
 refine' tkq 5 rfl ?_;try simp only [lay]
 refine' tkq 6 rfl ?_;try simp only [lay]
 refine' tkq 7 rfl ?_;try simp only [lay]
 refine' tkq 8 rfl ?_;try simp only [lay]
 refine' tkq 9 rfl ?_;try simp only [lay]
 refine' tkq 10 rfl ?_;try simp only [lay]
 refine' tkq 11 rfl ?_;try simp only [lay]
 refine' tkq 12 rfl ?_;try simp only [lay]
 refine' tkq 13 rfl ?_;try simp only [lay]
 refine' tkq 16 rfl ?_;try simp only [lay]
 refine' tkq 17 rfl ?_;try simp only [lay]
 have HBA:Below w.heap.size w (w.drew.alloc (.cells #[.slice A3 T c3,.slice A4 (N - U) c4] 33)):=((Below.refl _ _).drew).alloc (Nat.le_refl _) _
 refine call_on (i:=14) rfl (by kernel_rfl) (by rfl) (fun K hK=>?_)
 go_simp
 refine hK.out _ _ (HC6.out _ HBA) (fun hHeld=>?_)
 clear hK K
 try simp only [lay]
 have HCC:=hid (concat2 (.slice A3 T c3) (.slice A4 (N - U) c4) _ _ w.heap.size 2 (w.drew.alloc (.cells #[.slice A3 T c3,.slice A4 (N - U) c4] 33)) (by simp) (new_cell w.drew _ _ 0 _ rfl) (new_cell w.drew _ _ 1 _ rfl) (HY3.out.alloc _) (HY4.out.alloc _) (by omega))
 rw [HR.out] at HCC
 refine call_on (i:=15) rfl (by kernel_rfl) (by rfl) (fun K hK=>?_)
 go_simp
 refine HCC.out.mono ?_
 rintro e w3 ⟨x3,rfl,ho3,hb3⟩
 have hb4:=HBA.trans (hb3.mono HBA.size)
 have hx3:=ho3.bys
 obtain ⟨A5,c5,r5⟩:=hx3.shape
 subst r5
 obtain ⟨h5,ht4,hc4,hf4⟩:=HX.out w3 _ hb4 hx3
 refine hK.out _ _ (HC6.out _ hb4) (fun hHeld=>?_)
 clear hK K
 try simp only [lay]
 refine' tkq 18 rfl ?_;try simp only [lay]
 refine call_on (i:=19) rfl (by kernel_rfl) (by rfl) (fun K hK=>?_)
 go_simp
 refine hK.out _ _ (h5.cells.2.2.2.2.2.2) (fun hHeld=>?_)
 clear hK K
 try simp only [lay]
 refine wpAnyH_done (by kernel_rfl) ?_ _
 clear hHeld hc4 hf4
 have HE:=hid (h5.setTorn (Bys.nil _) (fun _=>rfl))
 have HT5:=hid (ht4.setB 6 (.slice none 0 0))
 obtain ⟨_,_,_,_,_,_,k6⟩:=h5.cells
 have f6:=h5.free 6
 clear h5 ht4
 go_wp2_with fail
 go_end0
 exact ⟨rfl,⟨_,_,_,HE.out⟩,HT5.out⟩
theorem vtear_any (h:Vlt w b c a V) (g:V.Good) (m:Int):Calls Tryz.prog 90 #[.pointer (some ⟨b,0,none⟩),.int .i64 m] w fun e w'=>e=.returned (.tuple #[])∧Vlt w' b c a (tearV V m)∧Turn b a w w':=by
 obtain ⟨v0,v1,vt,h⟩:=h
 by_cases ht:V.torn=[]
 ·refine (vtear_none h ht m).mono ?_
  rintro e w1 ⟨rfl,rfl⟩
  refine ⟨rfl,?_,Turn.refl _ _ _⟩
  unfold tearV
  rw [if_pos ht]
  exact ⟨_,_,_,h⟩
 ·rcases placeV_two V with hp | hp
  ·exact vtear_zero h g ht hp m
  ·exact vtear_one h g ht hp m
theorem vCrash_any (h:Vlt w b c a V) (g:V.Good) (m:Int):Calls Tryz.prog 45 #[.pointer (some ⟨b,0,none⟩),.int .i64 m] w fun e w'=>e=.returned (.tuple #[])∧Vlt w' b c a (crashV V m)∧Turn b a w w':=by
 have HT:=hid (vtear_any h g m)
 obtain ⟨v0,v1,vt,h⟩:=h
 have HM:=hid (vmade_yes h)
 clear h g
 go_enter Tryz.func45,Tryz.ntmps45
 go_wp2_with fail
 refine HM.out.mono ?_
 rintro e w1 ⟨rfl,rfl⟩
 go_wp2_with fail
 refine HT.out.mono ?_
 rintro e w1 ⟨rfl,⟨u0,u1,ut,h1⟩,t1⟩
 have HE:=hid ((h1.setDead false).setLeft (-1))
 have HT1:=hid ((t1.setB 5 (.bool false)).setB 4 (.int .i64 (-1)))
 obtain ⟨_,_,_,_,c4,c5,_⟩:=h1.cells
 have f5:=h1.free 5
 have f4:=(h1.setDead false).free 4
 have k4:=(h1.setDead false).cells.2.2.2.2.1
 clear h1 t1 c4
 go_wp2_with fail
 go_end0
 exact ⟨rfl,⟨_,_,_,HE.out⟩,HT1.out⟩
end
end Go.Proofs.YtpdnnmabijmfbaaGreatDoor
