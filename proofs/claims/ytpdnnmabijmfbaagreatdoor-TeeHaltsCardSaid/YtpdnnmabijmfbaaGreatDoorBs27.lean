/-
  CtCodeFits CtCodeRight AcTag AcCodeTop: what each of them says stands at its head.
-/
import Derived.Test.YtpdnnmabijmfbaaGreatDoorBs22
import Derived.Test.YtpdnnmabijmfbaaGreatDoorBs24
import Derived.Test.YtpdnnmabijmfbaaGreatDoorBs23
namespace Go.Proofs.YtpdnnmabijmfbaaGreatDoor
set_option maxRecDepth 20000
open Go.RowKit
attribute [local go_sem ↓] exec_load_att exec_load_ct exec_build_sg1 exec_load_hash exec_build_hash
set_option maxHeartbeats 1600000 in
theorem ctFits_any (v:Value) (c:CtM) (w:World) (hv:CtV w v c) (hl:c.sg.length≤1000):
  Calls Tryz.prog 145 #[v] w fun e w'=>e=.returned (.bool (mayC c))∧Below w.heap.size w w':=by
 obtain ⟨s,rfl,ho,ht⟩:=hv
 have hb0:Below w.heap.size w (w.alloc (.cells (ctc c s) 57)):=(Below.refl _ _).alloc (Nat.le_refl _) _
 have hr0:=heap_alloc_new w (.cells (ctc c s) 57)
 obtain ⟨A,k,rfl⟩:=ht.shape
 have HT:=hid (fun W (h:Below w.heap.size w W)=>ht.below h)
 have HLL:=hid hl
 have HSO:=hid ho.sg
 obtain ⟨L,HL⟩:∃ n:Nat,Hid (c.sg.length=n):=⟨_,hid rfl⟩
 rw [HL.out] at hr0 hb0 HT ⊢
 obtain ⟨C,HC⟩:∃ C:Array Value,Hid (ctc c (.slice A L k)=C):=⟨_,hid rfl⟩
 rw [HC.out] at hr0 hb0 ⊢
 obtain ⟨ans,HAN⟩:∃ q:Bool,Hid (mayC c=q):=⟨_,hid rfl⟩
 obtain ⟨n,HN⟩:∃ n:Int,Hid (c.att.bo=n):=⟨_,hid rfl⟩
 obtain ⟨q1,HQ1⟩:∃ q:Bool,Hid (decide (c.att.tg=z32)=q):=⟨_,hid rfl⟩
 obtain ⟨m,HM⟩:∃ q:Bool,Hid (mayA (withC c.att ⟨1,z32⟩)=q):=⟨_,hid rfl⟩
 obtain ⟨r,HR⟩:∃ q:Bool,Hid ((decide (0 < c.sg.length) && risesB 21 0 c.sg)=q):=⟨_,hid rfl⟩
 have HMC:Hid (ans=((decide (n=0) && q1) && (m && r))):=hid (by rw [← HAN.out];unfold mayC bareC;rw [HN.out,HQ1.out,HM.out,HR.out])
 rw [HAN.out]
 have hw1:(withC c.att ⟨1,z32⟩).Ok:=withC_ok ho.att rfl
 have HWI:Hid (∀ W,Calls Tryz.prog 146 #[.agg (atc c.att),.agg (sgc ⟨1,z32⟩)] W fun e w'=>e=.returned (.agg (atc (withC c.att ⟨1,z32⟩)))∧Below W.heap.size W w'):=hid (fun W=>ctWith_any c.att ⟨1,z32⟩ W ho.att rfl)
 have HMA:Hid (∀ W,Calls Tryz.prog 142 #[.agg (atc (withC c.att ⟨1,z32⟩))] W fun e w'=>e=.returned (.int .i64 (if m=true then 0 else 1))∧Below W.heap.size W w'):=hid (fun W=>by
  have:=atCheck_ok _ W hw1
  rw [HM.out] at this
  exact this)
 have HRI:Hid (∀ W,Below w.heap.size w W→Calls Tryz.prog 182 #[.slice A L k] W fun e w'=>e=.returned (.bool r)∧Below W.heap.size W w'):=hid (fun W h=>by
  have:=ctRise_any (.slice A L k) c.sg W (HT.out W h) HSO.out HLL.out
  rw [HR.out] at this
  exact this)
 obtain ⟨G,HG⟩:∃ C:Array Value,Hid (atc c.att=C):=⟨_,hid rfl⟩
 obtain ⟨S,HS⟩:∃ C:Array Value,Hid (sgc ⟨1,z32⟩=C):=⟨_,hid rfl⟩
 obtain ⟨X,HX⟩:∃ C:Array Value,Hid (atc (withC c.att ⟨1,z32⟩)=C):=⟨_,hid rfl⟩
 rw [HG.out,HS.out,HX.out] at HWI
 rw [HX.out] at HMA
 obtain ⟨T,HTT⟩:∃ C:Array Value,Hid (hcells c.att.tg=C):=⟨_,hid rfl⟩
 obtain ⟨O,HO⟩:∃ C:Array Value,Hid (hcells z32=C):=⟨_,hid rfl⟩
 have HLD:Hid (∀ W:World,W.heap[w.heap.size]?=some (.cells C 57 (0,0))→(W.cell? ⟨w.heap.size,0,none⟩=some (.int .i64 n)∧loadH (.pointer (some ⟨w.heap.size,69,none⟩)) W=.ok (.value (.agg T)) W)∧loadAtt (.pointer (some ⟨w.heap.size,0,none⟩)) W=.ok (.value (.agg G)) W∧W.cell? ⟨w.heap.size,101,none⟩=some (.slice A L k)):=hid (fun W h=>by
  rw [← HC.out] at h
  have hBC:BoxC W w.heap.size c (.slice A L k):=h
  have k0:=hBC.bo
  have k1:=loadH_mid (hBC.tag ho.att) ho.att.tg
  rw [HN.out] at k0
  rw [HTT.out] at k1
  refine ⟨⟨k0,k1⟩,?_,hBC.sigs ho.att⟩
  rw [← HG.out]
  exact loadAtt_in hBC.att ho.att)
 have heq:=fun W=>eq_hash c.att.tg z32 ho.att.tg rfl W
 rw [HQ1.out,HTT.out,HO.out] at heq
 have hbz:∀ W,buildH W=.ok (.value (.agg O)) W:=fun W=>by rw [← HO.out,buildH_eq,fcells_nought];rfl
 clear ho ht hw1 hl
 go_enter Tryz.func145,Tryz.ntmps145
 go_upto_region 1 with (fail)
 generalize (w.alloc (.cells C 57))=w0 at *
 have hl0:=lt_of_block hr0
 have HF:=hid (fun W (h:Below w0.heap.size w0 W)=>HLD.out W ((h.block _ hl0).trans hr0))
 obtain ⟨⟨k0,k1⟩,la,c0⟩:=HF.out w0 (Below.refl _ _)
 clear hr0 hl0
 by_cases h0:n=0
 ·subst h0
  cases q1 with
  | false=>
   obtain rfl:ans=false:=by rw [HMC.out];rfl
   clear la c0
   go_wp2_with fail
   go_ret
   exact ⟨rfl,hb0⟩
  | true=>
   have HMC2:Hid (ans=(m && r)):=hid (by rw [HMC.out];rfl)
   go_upto_region 3 with (fail)
   clear k0 k1 c0 heq hbz
   go_wp2_with fail
   rw [HS.out]
   refine (HWI.out w0).mono ?_
   rintro e w2 ⟨rfl,hb2⟩
   have hB2:=hb0.trans (hb2.mono hb0.size)
   clear la
   go_wp2_with fail
   refine (HMA.out w2).mono ?_
   rintro e w3 ⟨rfl,hb3'⟩
   have hb3:=hb2.trans (hb3'.mono hb2.size)
   have hB3:=hB2.trans (hb3'.mono hB2.size)
   clear hb2 hb3' hB2
   cases m with
   | false=>
    obtain rfl:ans=false:=HMC2.out
    simp only [Bool.false_eq_true,if_false]
    go_wp2_with fail
    go_ret
    exact ⟨rfl,hB3⟩
   | true=>
    have c3:=(HF.out w3 hb3).2.2
    simp only [if_true]
    go_wp2_with fail
    refine (HRI.out w3 hB3).mono ?_
    rintro e w4 ⟨rfl,hb4⟩
    have hB4:=hB3.trans (hb4.mono hB3.size)
    obtain rfl:ans=r:=HMC2.out
    clear c3
    go_wp2_with fail
    go_ret
    exact ⟨rfl,hB4⟩
 ·have h1:(n != 0)=true:=by simpa using h0
  obtain rfl:ans=false:=by rw [HMC.out,decide_eq_false h0];rfl
  clear h0 k1 la c0 heq hbz
  go_wp2_with fail
  go_ret
  exact ⟨rfl,hb0⟩
end Go.Proofs.YtpdnnmabijmfbaaGreatDoor
namespace Go.Proofs.YtpdnnmabijmfbaaGreatDoor
set_option maxRecDepth 20000
open Go.RowKit
attribute [local go_sem ↓] exec_load_att exec_load_ct exec_load_sg exec_alloc_sg exec_store_sg
theorem risesB_up {n:Int}:∀ {l:List SgM} {last:Int},risesB 21 last l=true→(∀ s ∈ l,s.bo≤n)→risesB n last l=true
 | [],_,_,_=>rfl
 | x :: r,last,h,hn=>by
  unfold risesB at h ⊢
  simp only [Bool.and_eq_true,decide_eq_true_eq] at h ⊢
  exact ⟨⟨h.1.1,hn x (by simp)⟩,risesB_up h.2 (fun s hs=>hn s (List.mem_cons_of_mem _ hs))⟩
theorem rightC_may {n:Int} {c:CtM} (h:rightC n c=true):mayC c=true:=by
 unfold rightC at h
 simp only [Bool.and_eq_true,decide_eq_true_eq,List.all_eq_true] at h
 obtain ⟨h0,h1,h2,h3,h4⟩:=h
 have hq:=quoS_top h0
 unfold mayC
 simp only [Bool.and_eq_true,decide_eq_true_eq]
 refine ⟨h3,?_,by omega,risesB_top h2 hq.2.1⟩
 obtain ⟨s,hs⟩:∃ s,s ∈ c.sg:=by
  cases hc:c.sg with
  | nil=>rw [hc] at h1;simp only [List.length_nil] at h1;omega
  | cons x r=>exact ⟨x,by simp⟩
 have hr:=h4 s hs
 have hm:mayA (withC c.att s)=true:=by
  unfold rightA at hr
  simp only [Bool.and_eq_true] at hr
  exact hr.1
 unfold mayA withC at hm ⊢
 simp only at hm ⊢
 split at hm
 ·cases hm
 ·rename_i hn
  rw [if_neg (by omega)]
  exact hm
theorem rightC_of {n:Int} {c:CtM} (hm:mayC c=true) (hl:c.sg.length=quoS n) (h:∀ s ∈ c.sg,s.bo≤n∧rightA (withC c.att s)=true):rightC n c=true:=by
 unfold mayC at hm
 simp only [Bool.and_eq_true,decide_eq_true_eq] at hm
 obtain ⟨h1,_,h3,h4⟩:=hm
 unfold rightC
 simp only [Bool.and_eq_true,decide_eq_true_eq,List.all_eq_true]
 exact ⟨by omega,hl,risesB_up h4 (fun s hs=>(h s hs).1),h1,fun s hs=>(h s hs).2⟩
theorem rightC_no {n:Int} {c:CtM} {s:SgM} (hs:s ∈ c.sg) (h:n < s.bo∨rightA (withC c.att s)=false):rightC n c=false:=by
 cases hr:rightC n c with
 | false=>rfl
 | true=>
  exfalso
  unfold rightC at hr
  simp only [Bool.and_eq_true,decide_eq_true_eq,List.all_eq_true] at hr
  obtain ⟨_,_,h2,_,h4⟩:=hr
  rcases h with h | h
  ·have:=risesB_mem h2 s hs
   omega
  ·rw [h4 s hs] at h
   cases h
set_option maxHeartbeats 3200000 in
theorem ctRight_ok:CtRightOk:=by
 intro n v c w hwn hv hlen hK
 have HV:=hid (fun W (h:Below w.heap.size w W)=>hv.below h)
 obtain ⟨s,rfl,ho,ht⟩:=hv
 have hb0:Below w.heap.size w (w.alloc (.cells (ctc c s) 57)):=(Below.refl _ _).alloc (Nat.le_refl _) _
 have hr0:=heap_alloc_new w (.cells (ctc c s) 57)
 obtain ⟨A,k,rfl⟩:=ht.shape
 have HT:=hid (fun W (h:Below w.heap.size w W)=>ht.below h)
 have HLEN:=hid hlen
 obtain ⟨L,HL⟩:∃ n:Nat,Hid (c.sg.length=n):=⟨_,hid rfl⟩
 rw [HL.out] at hr0 hb0 HV HT hlen ⊢
 obtain ⟨C,HC⟩:∃ C:Array Value,Hid (ctc c (.slice A L k)=C):=⟨_,hid rfl⟩
 obtain ⟨q,HQ⟩:∃ q:Nat,Hid (quoS n=q):=⟨_,hid rfl⟩
 obtain ⟨mc,HMC⟩:∃ q:Bool,Hid (mayC c=q):=⟨_,hid rfl⟩
 obtain ⟨ans,HAN⟩:∃ q:Bool,Hid (rightC n c=q):=⟨_,hid rfl⟩
 rw [HC.out] at hr0 hb0 HV ⊢
 rw [HAN.out]
 have HKB:=hid (fun W (h:Below w.heap.size w W)=>(show Kst 1 W from hK.below h))
 have HQU:Hid (∀ W,Calls Tryz.prog 77 #[.int .i64 n] W fun e w'=>e=.returned (.int .i64 (q:Int))∧W=w'):=hid (fun W=>by
  have:=quorum_any n W hwn
  rw [HQ.out] at this
  exact this)
 have HFI:Hid (∀ W,Below w.heap.size w W→Calls Tryz.prog 145 #[.agg C] W fun e w'=>e=.returned (.bool mc)∧Below W.heap.size W w'):=hid (fun W h=>by
  have:=ctFits_any _ c W (HV.out W h) HLEN.out
  rw [HMC.out] at this
  exact this)
 have HSO:=hid ho.sg
 have HAO:=hid ho.att
 have HWI:Hid (∀ s W,s.Ok→Calls Tryz.prog 146 #[.agg (atc c.att),.agg (sgc s)] W fun e w'=>e=.returned (.agg (atc (withC c.att s)))∧Below W.heap.size W w'):=hid (fun s W hs=>ctWith_any c.att s W HAO.out hs)
 have HRT:Hid (∀ s W,s.Ok→Below w.heap.size w W→Calls Tryz.prog 126 #[.agg (atc (withC c.att s))] W fun e w'=>e=.returned (.bool (rightA (withC c.att s)))∧Below W.heap.size W w'):=hid (fun s W hs h=>atRight_ok _ W (withC_ok HAO.out hs) (HKB.out W h))
 obtain ⟨G,HG⟩:∃ C:Array Value,Hid (atc c.att=C):=⟨_,hid rfl⟩
 rw [HG.out] at HWI
 have HLD:Hid (∀ W:World,W.heap[w.heap.size]?=some (.cells C 57 (0,0))→loadCt (.pointer (some ⟨w.heap.size,0,none⟩)) W=.ok (.value (.agg C)) W∧loadAtt (.pointer (some ⟨w.heap.size,0,none⟩)) W=.ok (.value (.agg G)) W∧W.cell? ⟨w.heap.size,101,none⟩=some (.slice A L k)):=hid (fun W h=>by
  have h2:=h
  rw [← HC.out] at h2
  have hBC:BoxC W w.heap.size c (.slice A L k):=h2
  refine ⟨loadCt_row h (by rw [← HC.out];exact ctc_size _ HAO.out),?_,hBC.sigs HAO.out⟩
  rw [← HG.out]
  exact loadAtt_in hBC.att HAO.out)
 obtain ⟨Z,HZ⟩:∃ C:Array Value,Hid (sgc sgZ=C):=⟨_,hid rfl⟩
 have HZS:Hid (Z.size=33):=hid (by rw [← HZ.out];exact sgc_size sgZ_ok)
 have hal:∀ W,allocSg W=.ok (.value (.pointer (some ⟨W.heap.size,0,none⟩))) (W.alloc (.cells Z 207)):=fun W=>by rw [← HZ.out];exact allocSg_eq W
 clear ho ht hK hwn
 go_enter Tryz.func99,Tryz.ntmps99
 go_upto_region 1 with (fail)
 generalize (w.alloc (.cells C 57))=w0 at *
 have hl0:=lt_of_block hr0
 have HF:=hid (fun W (h:Below w0.heap.size w0 W)=>HLD.out W ((h.block _ hl0).trans hr0))
 have HXW:Hid (∀ W,Below w0.heap.size w0 W→loadCt (.pointer (some ⟨w.heap.size,0,none⟩)) W=.ok (.value (.agg C)) W∧W.cell? ⟨w.heap.size,101,none⟩=some (.slice A L k)):=hid (fun W h=>⟨(HF.out W h).1,(HF.out W h).2.2⟩)
 have hbd:Below w0.heap.size w0 w0.drew:=(Below.refl _ _).drew
 have HB0:=hid hb0
 clear hr0 hl0 hb0
 refine wp_region_held_drew (S:=fun W=>loadCt (.pointer (some ⟨w.heap.size,0,none⟩)) W=.ok (.value (.agg C)) W∧W.cell? ⟨w.heap.size,101,none⟩=some (.slice A L k)) (by kernel_rfl) (HXW.out _ hbd) (fun hHeld=>?_)
 refine' tk (i:=0) (v:=_) rfl (fun W hW=>hW.1) ?_
 try simp only [lay]
 refine call_on (i:=1) rfl (by kernel_rfl) (by rfl) (fun K hK=>?_)
 go_simp
 refine (HFI.out w0.drew (HB0.out.trans (hbd.mono HB0.out.size))).mono ?_
 rintro e w2 ⟨rfl,hb2'⟩
 have hb2:=hbd.trans hb2'
 refine hK.out _ _ (HXW.out _ hb2) (fun hHeld=>?_)
 clear hK K
 try simp only [lay]
 cases mc with
 | false=>
  obtain rfl:ans=false:=by
   rw [← HAN.out]
   cases hr:rightC n c with
   | false=>rfl
   | true=>have:=rightC_may hr;rw [HMC.out] at this;cases this
  refine' tkq 2 rfl ?_;try simp only [lay]
  refine' tkq 3 rfl ?_;try simp only [lay]
  refine tf (i:=4) rfl ?_
  try simp only [lay]
  refine tf (i:=5) rfl ?_
  try simp only [lay]
  refine tf (i:=6) rfl ?_
  try simp only [lay]
  refine tf (i:=7) rfl ?_
  try simp only [lay]
  refine tf (i:=8) rfl ?_
  try simp only [lay]
  refine tf (i:=9) rfl ?_
  try simp only [lay]
  refine' tkq 10 rfl ?_;try simp only [lay]
  refine wpAnyH_done (by kernel_rfl) ?_ _
  go_wp2_with fail
  go_ret
  exact ⟨rfl,HB0.out.trans (hb2.mono HB0.out.size)⟩
 | true=>
  refine' tkq 2 rfl ?_;try simp only [lay]
  refine' tkq 3 rfl ?_;try simp only [lay]
  refine' tkq 4 rfl ?_;try simp only [lay]
  refine' tkq2 5 rfl ?_;try simp only [lay]
  refine' tkq 6 rfl ?_;try simp only [lay]
  refine' tkq 7 rfl ?_;try simp only [lay]
  refine call_on (i:=8) rfl (by kernel_rfl) (by rfl) (fun K hK=>?_)
  go_simp
  refine (HQU.out w2).mono ?_
  rintro e w3 ⟨rfl,rfl⟩
  refine hK.out _ _ (HXW.out _ hb2) (fun hHeld=>?_)
  clear hK K
  try simp only [lay]
  by_cases hl:L=q
  ·have hl1:((L:Int) != (q:Int))=false:=by simp [hl]
   refine' tkq 9 rfl ?_;try simp only [lay]
   refine' tkq 10 rfl ?_;try simp only [lay]
   refine wpAnyH_done (by kernel_rfl) ?_ _
   have HB2:=hid (HB0.out.trans (hb2.mono HB0.out.size))
   have c2:=(HXW.out w2 hb2).2
   have HHB2:=hid hb2
   clear hHeld hbd hb2' hb2
   have HLQ:=hid hl
   clear hl
   go_wp2_with fail
   clear c2
   go_loopw [21] (fun si wr=>∃ i:Nat,i≤L∧si=.int .i64 i∧Hid (∀ j (h:j < c.sg.length),j < i→c.sg[j].bo≤n∧rightA (withC c.att c.sg[j])=true)∧Below w0.heap.size w0 wr) (fun si _=>L - (intOf si).toNat)
   case atStart=>exact ⟨0,Nat.zero_le _,rfl,hid (fun j _ h=>absurd h (by omega)),HHB2.out⟩
   case round=>
    obtain ⟨i,hi,rfl,HD,hbr⟩:=hrel
    have HBR:=hid (HB0.out.trans (hbr.mono HB0.out.size))
    by_cases hlt:i < L
    ·have hil:i < c.sg.length:=by rw [HL.out];exact hlt
     obtain ⟨g,o,rfl,_,hcl⟩:=(HT.out wr HBR.out).at_.2.2.2 (by omega)
     have hI:(i:Int) < (L:Int):=by omega
     have hoi:=HSO.out _ (List.getElem_mem hil)
     have l1:loadSg (.pointer (some ⟨g,o + i * 33,none⟩)) wr=.ok (.value (.agg (sgc c.sg[i]))) wr:=loadSg_mid (hcl i hil) hoi
     have HXS:Hid ((sgc c.sg[i]).size=33∧(sgc c.sg[i]).all (·.oneCell')=true):=hid ⟨sgc_size hoi,sgc_one _⟩
     have HC0:Hid (∀ (W:World) (g:Nat),W.heap[g]?=some (.cells (sgc c.sg[i]) 207 (0,0))→W.cell? ⟨g,0,none⟩=some (.int .i64 c.sg[i].bo)∧loadSg (.pointer (some ⟨g,0,none⟩)) W=.ok (.value (.agg (sgc c.sg[i]))) W):=hid (fun W g h=>by
      refine ⟨cell_blk h 0,loadSg_mid (fun j u hu=>?_) hoi⟩
      rw [Nat.zero_add,cell_blk h j]
      unfold sgc
      rw [List.getElem?_toArray]
      exact hu)
     have HW2:=hid (fun W=>HWI.out c.sg[i] W hoi)
     have HR2:=hid (fun W (h:Below w.heap.size w W)=>HRT.out c.sg[i] W hoi h)
     have HNO:Hid ((n < c.sg[i].bo∨rightA (withC c.att c.sg[i])=false)→ans=false):=hid (fun h=>by rw [← HAN.out];exact rightC_no (List.getElem_mem hil) h)
     have HYES:Hid (c.sg[i].bo≤n→rightA (withC c.att c.sg[i])=true→∀ j (h:j < c.sg.length),j < i + 1→c.sg[j].bo≤n∧rightA (withC c.att c.sg[j])=true):=hid (fun h1 h2 j h hj=>by
      by_cases hji:j < i
      ·exact HD.out j h hji
      ·obtain rfl:j=i:=by omega
       exact ⟨h1,h2⟩)
     obtain ⟨X,HX⟩:∃ C:Array Value,Hid (sgc c.sg[i]=C):=⟨_,hid rfl⟩
     obtain ⟨bo,HBO⟩:∃ x:Int,Hid (c.sg[i].bo=x):=⟨_,hid rfl⟩
     obtain ⟨m,HM⟩:∃ m:Bool,Hid (rightA (withC c.att c.sg[i])=m):=⟨_,hid rfl⟩
     obtain ⟨Y,HY⟩:∃ C:Array Value,Hid (atc (withC c.att c.sg[i])=C):=⟨_,hid rfl⟩
     rw [HX.out] at l1 HXS HC0
     rw [HX.out,HY.out] at HW2
     rw [HY.out,HM.out] at HR2
     rw [HBO.out,HM.out] at HNO HYES
     rw [HBO.out] at HC0
     have hst:=sg_var wr HZS.out HXS.out.1 HXS.out.2
     have hal1:=hal wr
     clear hcl hoi
     go_upto_region 6 with (fail)
     have hr1:=heap_alloc_new wr (.cells X 207)
     have hb1:Below w0.heap.size w0 (wr.alloc (.cells X 207)):=hbr.alloc hbr.size _
     obtain ⟨c0,l2⟩:=HC0.out _ _ hr1
     clear l1 hst hr1 hal1
     generalize (wr.alloc (.cells X 207))=w1 at *
     obtain ⟨_,l3,_⟩:=HF.out w1 hb1
     have HB1:=hid (HB0.out.trans (hb1.mono HB0.out.size))
     by_cases h1:n < bo
     ·obtain rfl:ans=false:=HNO.out (.inl h1)
      clear l2 l3
      go_wp2_with fail
      go_ret
      exact ⟨rfl,HB1.out⟩
     ·have HH1:=hid (show bo≤n by omega)
      go_wp2_with fail
      refine (HW2.out w1).mono ?_
      rintro e w4 ⟨rfl,hb4⟩
      have HB4:=hid (HB1.out.trans (hb4.mono HB1.out.size))
      have HB40:=hid (hb1.trans (hb4.mono hb1.size))
      clear l2 l3 c0 hb4
      go_wp2_with fail
      refine (HR2.out w4 HB4.out).mono ?_
      rintro e w5 ⟨rfl,hb5⟩
      have HB5:=hid (HB4.out.trans (hb5.mono HB4.out.size))
      have HB50:=hid (HB40.out.trans (hb5.mono HB40.out.size))
      clear hb5
      cases m with
      | false=>
       obtain rfl:ans=false:=HNO.out (.inr rfl)
       go_wp2_with fail
       go_ret
       exact ⟨rfl,HB5.out⟩
      | true=>
       have HM2:=hid (HYES.out HH1.out rfl)
       clear HYES HNO
       go_wp2_with fail
       go_roundw
       case rel=>exact ⟨i + 1,by omega,by go_num,hid HM2.out,HB50.out⟩
       case measure=>simp [intOf];omega
    ·obtain rfl:i=L:=by omega
     obtain rfl:ans=true:=by
      rw [← HAN.out]
      refine rightC_of HMC.out (by rw [HL.out,HQ.out];exact HLQ.out) (fun s hs=>?_)
      obtain ⟨j,hj,rfl⟩:=List.getElem_of_mem hs
      exact HD.out j hj (by have:=HL.out;omega)
     go_wp2_with fail
     go_ret
     exact ⟨rfl,HBR.out⟩
  ·have hl1:((L:Int) != (q:Int))=true:=by simp;omega
   refine' tkq 9 rfl ?_;try simp only [lay]
   refine' tkq 10 rfl ?_;try simp only [lay]
   refine wpAnyH_done (by kernel_rfl) ?_ _
   have HB2:=hid (HB0.out.trans (hb2.mono HB0.out.size))
   have c2:=(HXW.out w2 hb2).2
   have HHB2:=hid hb2
   clear hHeld hbd hb2' hb2
   obtain rfl:ans=false:=by
    rw [← HAN.out]
    unfold rightC
    rw [HL.out,HQ.out,decide_eq_false hl,Bool.false_and,Bool.and_false]
   clear hl
   go_wp2_with fail
   go_ret
   exact ⟨rfl,HB2.out⟩
end Go.Proofs.YtpdnnmabijmfbaaGreatDoor
namespace Go.Proofs.YtpdnnmabijmfbaaGreatDoor
set_option maxRecDepth 20000
open Go.RowKit
attribute [local go_sem ↓] exec_load_hash exec_load_ax
set_option maxHeartbeats 3200000 in
theorem refTag10_any (x0:Value) (a:AcM) (w:World) (hv:AcV w x0 a) (hm:mayX a=true) (hK:Kst 0 w):
  Calls Tryz.prog 85 #[x0] w fun e w'=>e=.returned (.agg (hcells (tagX a)))∧Below w.heap.size w w':=by
 have HTD:=hid (fun W (h:Below w.heap.size w W)=>refTagged10_any x0 a W (hv.below h) hm)
 obtain ⟨s,rfl,ho,he⟩:=hv
 obtain ⟨C,HC⟩:∃ C:Array Value,Hid (axc a s=C):=⟨_,hid rfl⟩
 have HCS:Hid (C.size=68):=hid (by rw [← HC.out];exact axc_size _ ho)
 rw [HC.out] at HTD ⊢
 have hr0:=heap1 w (.cells C 52) (.cells (fcells 32 fun _=>bcell 0) 38)
 have hH0:Blk ((w.alloc (.cells C 52)).alloc (.cells (fcells 32 fun _=>bcell 0) 38)) (w.heap.size + 1) 32 (fun _=>bcell 0) 38:=heap2 w (.cells C 52) _
 have hb0:Below w.heap.size w ((w.alloc (.cells C 52)).alloc (.cells (fcells 32 fun _=>bcell 0) 38)):=((Below.refl _ _).alloc (Nat.le_refl _) _).alloc (by simp) _
 have HKB:=hid (fun W (h:Below w.heap.size w W)=>(show Kst 0 W from hK.below h))
 have hlen:=taggedX_len ho hm
 have HTG:Hid (∀ v W,Below w.heap.size w W→Byt W v (taggedX a)→Calls Tryz.prog 94 #[.int .i64 a.bo,.int .u8 2,v] W fun e w'=>e=.returned (.agg (fcells 32 fun j=>bcell (tagF a.bo 2 (taggedX a) j)))∧Below W.heap.size W w'):=hid (fun v W h hv=>by
  have:=refTag_any a.bo 2 v (taggedX a) W hv (by omega) (HKB.out W h)
  exact this)
 obtain ⟨τ,HT⟩:∃ t:Nat→UInt8,Hid (tagF a.bo 2 (taggedX a)=t):=⟨_,hid rfl⟩
 obtain ⟨D,HD⟩:∃ C:Array Value,Hid ((fcells 32 fun j=>bcell (τ j))=C):=⟨_,hid rfl⟩
 have HRS:Hid (hcells (tagX a)=D):=hid (by rw [← HD.out,← HT.out,fcells_hl];rfl)
 rw [HT.out,HD.out] at HTG
 rw [HRS.out]
 have HXR:Hid (∀ W:World,W.heap[w.heap.size]?=some (.cells C 52 (0,0))→W.cell? ⟨w.heap.size,0,none⟩=some (.int .i64 a.bo)∧loadAx (.pointer (some ⟨w.heap.size,0,none⟩)) W=.ok (.value (.agg C)) W):=hid (fun W h=>by
  refine ⟨?_,loadAx_row h HCS.out⟩
  rw [← HC.out] at h
  have hB:BoxX W w.heap.size a s:=h
  exact hB.ints.1)
 clear hK ho hm hlen he
 go_enter Tryz.func85,Tryz.ntmps85
 go_upto_region 1 with (refine wpList_alloc_arr arrH rfl rfl ?_)
 generalize ((w.alloc (.cells C 52)).alloc (.cells (fcells 32 fun _=>bcell 0) 38))=w0 at *
 have hl0:=lt_of_block hr0
 have HX:Hid (∀ W,Below w0.heap.size w0 W→W.heap[w.heap.size]?=some (.cells C 52 (0,0))):=hid (fun W h=>(h.block _ hl0).trans hr0)
 have hbd:Below w0.heap.size w0 w0.drew:=(Below.refl _ _).drew
 have HH0:=hid hH0
 have HL0:=hid hl0
 clear hH0 hr0 hl0
 refine wp_region_held_drew (S:=fun W=>W.heap[w.heap.size]?=some (.cells C 52 (0,0))) (by kernel_rfl) (HX.out _ hbd) (fun hHeld=>?_)
 refine' tkq 0 rfl ?_;try simp only [lay]
 refine' tk (i:=1) (v:=_) rfl ?_ ?_
 rotate_left
 ·(intro W hW;(try dsimp only at hW);have hW1:=(HXR.out W hW).1;go_simp;first | done | with_reducible rfl)
 try simp only [lay]
 refine' tk (i:=2) (v:=_) rfl (fun W hW=>(HXR.out W hW).2) ?_
 try simp only [lay]
 refine call_on (i:=3) rfl (by kernel_rfl) (by rfl) (fun K hK=>?_)
 go_simp
 refine (HTD.out w0.drew (hb0.drew)).mono ?_
 rintro e w2 ⟨v2,rfl,ho2,hb2'⟩
 have hb2:=hbd.trans hb2'
 refine hK.out _ _ (HX.out _ hb2) (fun hHeld=>?_)
 clear hK K
 try simp only [lay]
 refine call_on (i:=4) rfl (by kernel_rfl) (by rfl) (fun K hK=>?_)
 go_simp
 refine (HTG.out v2 w2 (hb0.trans (hb2.mono hb0.size)) ho2.byt).mono ?_
 rintro e w3 ⟨rfl,hb3'⟩
 have hb3:=hb2.trans (hb3'.mono hb2.size)
 have hB3:=hb0.trans (hb3.mono hb0.size)
 have hH3:=HH0.out.keep hb3
 refine hK.out _ _ (HX.out _ hb3) (fun hHeld=>?_)
 clear hK K
 try simp only [lay]
 refine call_on (i:=5) rfl (by kernel_rfl) (by rfl) (fun K hK=>?_)
 refine wp_store_arrH (f':=fun j=>bcell (τ j)) _ _ rfl rfl (by rw [HD.out];rfl) hH3 (fun _ _=>rfl) ?_
 intro w4 hg4 hH4 hs4
 refine hK.out _ _ ((hg4.block _ (Nat.lt_of_lt_of_le HL0.out hb3.size) (fun e=>by injection e with e;omega)).trans (HX.out _ hb3)) (fun hHeld=>?_)
 clear hK K
 try simp only [Act.put]
 refine wpAnyH_done (by kernel_rfl) ?_ _
 go_wp2_with fail
 refine bodyPost_ret (arrH.result rfl _ _ rfl hH4) rfl ⟨by rw [HD.out],?_⟩
 exact below_into hB3 (Nat.le_succ _) hg4 hB3.size
end Go.Proofs.YtpdnnmabijmfbaaGreatDoor
namespace Go.Proofs.YtpdnnmabijmfbaaGreatDoor
set_option maxRecDepth 20000
open Go.RowKit
attribute [local go_sem ↓] exec_load_att exec_alloc_att exec_store_att
def firstA (l:List AtM) (q:Nat):Nat→List AtM
 | 0=>[]
 | k + 1=>if (firstA l q k).length < q then match l.find? (fun a=>decide (a.bo=((k + 1:Nat):Int))) with
  | some a=>firstA l q k ++ [a]
  | none=>firstA l q k
  else firstA l q k
def topF (t a:AtM):AtM:=if t.pv < a.pv then a else t
def topA (l:List AtM):AtM:=match l with
 | []=>atZ
 | a :: r=>(a :: r).foldl topF a
theorem topA_snoc {l:List AtM} (h:l≠[]) (a:AtM):topA (l ++ [a])=topF (topA l) a:=by
 cases l with
 | nil=>exact absurd rfl h
 | cons x r=>
  show ((x :: r) ++ [a]).foldl topF x=topF ((x :: r).foldl topF x) a
  rw [List.foldl_append]
  rfl
theorem topF_self (a:AtM):topF a a=a:=by
 unfold topF
 split <;> rfl
theorem firstA_frX (l:List AtM) (q:Nat):∀ k,(frX l q k).1=(firstA l q k).map (·.bo)∧(firstA l q k≠[]→(frX l q k).2=((topA (firstA l q k)).pv,(topA (firstA l q k)).pa))∧(∀ a ∈ firstA l q k,a ∈ l)
 | 0=>⟨rfl,fun h=>absurd rfl h,fun a h=>by cases h⟩
 | k + 1=>by
  obtain ⟨h1,h2,h3⟩:=firstA_frX l q k
  have hlen:(frX l q k).1.length=(firstA l q k).length:=by rw [h1,List.length_map]
  unfold frX firstA
  rw [hlen]
  by_cases hq:(firstA l q k).length < q
  ·rw [if_pos hq,if_pos hq]
   cases hf:l.find? (fun a=>decide (a.bo=((k + 1:Nat):Int))) with
   | none=>exact ⟨h1,h2,h3⟩
   | some a=>
    have hm:=List.mem_of_find?_eq_some hf
    have hb:a.bo=((k + 1:Nat):Int):=by have:=List.find?_some hf;exact of_decide_eq_true this
    have h3':∀ x ∈ firstA l q k ++ [a],x ∈ l:=fun x hx=>by
     rcases List.mem_append.1 hx with hx | hx
     ·exact h3 x hx
     ·obtain rfl:=List.mem_singleton.1 hx
      exact hm
    have hmap:(frX l q k).1 ++ [((k + 1:Nat):Int)]=(firstA l q k ++ [a]).map (·.bo):=by
     rw [List.map_append,h1,List.map_cons,List.map_nil,hb]
    simp only
    by_cases hn:firstA l q k=[]
    ·have hn':(frX l q k).1=[]:=by rw [h1,hn];rfl
     rw [if_pos (.inl hn')]
     refine ⟨hmap,fun _=>?_,h3'⟩
     rw [hn]
     show (a.pv,a.pa)=((topF a a).pv,(topF a a).pa)
     rw [topF_self]
    ·have hn':¬ (frX l q k).1=[]:=by
      rw [h1]
      intro e
      exact hn (List.map_eq_nil_iff.1 e)
     have e2:=h2 hn
     have e3:(frX l q k).2.1=(topA (firstA l q k)).pv:=by rw [e2]
     rw [e3]
     by_cases hp:(topA (firstA l q k)).pv < a.pv
     ·rw [if_pos (.inr hp)]
      refine ⟨hmap,fun _=>?_,h3'⟩
      rw [topA_snoc hn]
      unfold topF
      rw [if_pos hp]
     ·rw [if_neg (by rintro (h | h);exact hn' h;exact hp h)]
      refine ⟨hmap,fun _=>?_,h3'⟩
      rw [topA_snoc hn]
      unfold topF
      rw [if_neg hp]
      exact e2
  ·rw [if_neg hq,if_neg hq]
   exact ⟨h1,h2,h3⟩
theorem firstA_len (l:List AtM) (q k:Nat):(firstA l q k).length≤q:=by
 have h:=frX_len l q k
 rw [(firstA_frX l q k).1,List.length_map] at h
 exact h
theorem topA_mem:∀ {l:List AtM},l≠[]→topA l ∈ l:=by
 have H:∀ (l:List AtM) (t:AtM),l.foldl topF t=t∨l.foldl topF t ∈ l:=by
  intro l
  induction l with
  | nil=>exact fun t=>.inl rfl
  | cons a r ih=>
   intro t
   rw [List.foldl_cons]
   rcases ih (topF t a) with h | h
   ·rw [h]
    unfold topF
    split
    ·exact .inr (by simp)
    ·exact .inl rfl
   ·exact .inr (List.mem_cons_of_mem _ h)
 intro l h
 cases l with
 | nil=>exact absurd rfl h
 | cons a r=>
  rcases H (a :: r) a with e | e
  ·show (a :: r).foldl topF a ∈ a :: r
   rw [e]
   simp
  ·exact e
theorem firstA_full {l:List AtM} {q k:Nat} (h:¬ (firstA l q k).length < q):∀ m,k≤m→firstA l q m=firstA l q k:=by
 intro m hm
 induction m with
 | zero=>rw [show k=0 from by omega]
 | succ m ih=>
  by_cases e:k=m + 1
  ·rw [e]
  ·have:=ih (by omega)
   rw [← this] at h ⊢
   conv=>lhs;unfold firstA
   rw [if_neg h]
theorem firstA_found {l:List AtM} {q k i:Nat} (h:(firstA l q k).length < q) (hi:i < l.length) (hb:l[i].bo=((k + 1:Nat):Int)) (hn:∀ j (hj:j < l.length),j < i→l[j].bo≠((k + 1:Nat):Int)):
  firstA l q (k + 1)=firstA l q k ++ [l[i]]:=by
 have hf:l.find? (fun a=>decide (a.bo=((k + 1:Nat):Int)))=some l[i]:=by
  rw [List.find?_eq_some_iff_getElem]
  exact ⟨decide_eq_true hb,i,hi,rfl,fun j hj=>by simpa using hn j (by omega) hj⟩
 conv=>lhs;unfold firstA
 rw [if_pos h,hf]
theorem firstA_lack {l:List AtM} {q k:Nat} (hn:∀ j (hj:j < l.length),l[j].bo≠((k + 1:Nat):Int)):firstA l q (k + 1)=firstA l q k:=by
 have hf:l.find? (fun a=>decide (a.bo=((k + 1:Nat):Int)))=none:=by
  rw [List.find?_eq_none]
  intro a ha
  obtain ⟨j,hj,rfl⟩:=List.getElem_of_mem ha
  simpa using hn j hj
 conv=>lhs;unfold firstA
 rw [hf]
 simp
set_option maxHeartbeats 1600000 in
theorem acFroms_any (v:Value) (l:List AtM) (w0:World) (hv:Els atl 101 w0 v l) (ho:∀ a ∈ l,a.Ok) (hl:l.length≤1000):
  Calls Tryz.prog 82 #[v] w0 fun e w'=>∃ x,e=.returned x∧OwnE icl 1 3 w0.heap.size w' x (l.map (·.bo))∧Below w0.heap.size w0 w':=by
 obtain ⟨A,c,rfl⟩:=hv.shape
 obtain ⟨L,HL⟩:∃ n:Nat,Hid (l.length=n):=⟨_,hid rfl⟩
 rw [HL.out] at hv hl ⊢
 have HT:=hid (fun W (h:Below w0.heap.size w0 W)=>hv.below h)
 have HO:=hid ho
 have HLEN:=hid hl
 obtain ⟨Z,HZ⟩:∃ C:Array Value,Hid (atc atZ=C):=⟨_,hid rfl⟩
 have HZS:Hid (Z.size=101):=hid (by rw [← HZ.out];exact atc_size atZ_ok)
 have hal:∀ W,allocAtt W=.ok (.value (.pointer (some ⟨W.heap.size,0,none⟩))) (W.alloc (.cells Z 54)):=fun W=>by rw [← HZ.out];exact allocAtt_eq W
 clear hv ho hl
 go_enter Tryz.func82,Tryz.ntmps82
 go_wp2_with fail
 go_loopw [3,8] (fun out si wr=>∃ i:Nat,i≤L∧si=.int .i64 i∧OwnE icl 1 3 w0.heap.size wr out ((l.take i).map (·.bo))∧Below w0.heap.size w0 wr) (fun _ si _=>L - (intOf si).toNat)
 case atStart=>exact ⟨0,Nat.zero_le _,rfl,OwnE.nil _ _,Below.refl _ _⟩
 case round=>
  obtain ⟨i,hi,rfl,how,hbr⟩:=hrel
  by_cases hlt:i < L
  ·have hil:i < l.length:=by rw [HL.out];exact hlt
   obtain ⟨g,o,rfl,_,hcl⟩:=(HT.out wr hbr).at_.2.2.2 (by omega)
   have hI:(i:Int) < (L:Int):=by omega
   have hoi:=HO.out _ (List.getElem_mem hil)
   have l1:loadAtt (.pointer (some ⟨g,o + i * 101,none⟩)) wr=.ok (.value (.agg (atc l[i]))) wr:=loadAtt_in (hcl i hil) hoi
   have HXS:Hid ((atc l[i]).size=101∧(atc l[i]).all (·.oneCell')=true):=hid ⟨atc_size hoi,atc_one _⟩
   have HC0:Hid (∀ (W:World) (g:Nat),W.heap[g]?=some (.cells (atc l[i]) 54 (0,0))→W.cell? ⟨g,0,none⟩=some (.int .i64 l[i].bo)):=hid (fun W g h=>cell_blk h 0)
   have HNEW:Hid ((l.take (i + 1)).map (·.bo)=(l.take i).map (·.bo) ++ [l[i].bo]):=hid (by rw [List.take_succ_eq_append_getElem hil,List.map_append];rfl)
   have HPL:Hid (((l.take i).map (·.bo)).length≤1000):=hid (by rw [List.length_map,List.length_take];have:=HLEN.out;omega)
   obtain ⟨P,HP⟩:∃ P:List Int,Hid ((l.take i).map (·.bo)=P):=⟨_,hid rfl⟩
   obtain ⟨X,HX⟩:∃ C:Array Value,Hid (atc l[i]=C):=⟨_,hid rfl⟩
   obtain ⟨bo,HBO⟩:∃ x:Int,Hid (l[i].bo=x):=⟨_,hid rfl⟩
   rw [HX.out] at l1 HXS HC0
   rw [HBO.out] at HC0 HNEW
   rw [HP.out] at how HNEW HPL
   have hst:=att_var wr HZS.out HXS.out.1 HXS.out.2
   have hal1:=hal wr
   clear hcl hoi
   go_upto_region 5 with (fail)
   have hr1:=heap_alloc_new wr (.cells X 54)
   have hb1:Below w0.heap.size w0 (wr.alloc (.cells X 54)):=hbr.alloc hbr.size _
   have c0:=HC0.out _ _ hr1
   have how1:=how.alloc (.cells X 54)
   clear l1 hst hr1 hal1 how
   generalize (wr.alloc (.cells X 54))=w1 at *
   have HOW:=hid how1
   have HB1:=hid hb1
   have hsz:=hb1.size
   have HLT:=hid hlt
   clear how1
   go_wp2_with (at_builtin;go_loud (refine eltIc.wpList_append (x:=.slice (some ⟨w1.heap.size,0,none⟩) 1 1) (m:=[bo]) rfl (.tmp 12) (.tmp 15) rfl rfl rfl (fun _ _=>trivial) (HOW.out.alloc (.cells #[.int .i64 bo] 3)) (els_one w1 bo #[.int .i64 bo] 3 rfl) (by have:=HPL.out;simp only [List.length_cons,List.length_nil];omega) (by simp;omega) ?_;intro v4 w4 ho4 hg4 hv4))
   have ho4':OwnE icl 1 3 w0.heap.size w4 v4 ((l.take (i + 1)).map (·.bo)):=by rw [HNEW.out];exact ho4
   have hb4:Below w0.heap.size w0 w4:=(HB1.out.alloc HB1.out.size _).grown hg4 (by have:=HB1.out.size;simp;omega) (fun j hj=>(World.ownsRow.lt (HOW.out.alloc (.cells #[.int .i64 bo] 3)) j hj).1)
   clear ho4 hg4 hv4
   have HWI:Hid (wrap64 ((i:Int) + 1)=((i + 1:Nat):Int)):=hid (by have h1:=HLT.out;have h2:=HLEN.out;unfold wrap64;omega)
   go_roundw
   case rel=>exact ⟨i + 1,by have:=HLT.out;omega,by rw [HWI.out],ho4',hb4⟩
   case measure=>
    have h1:=HLT.out
    have hw:=HWI.out
    simp only [hw];simp [intOf];omega
  ·obtain rfl:i=L:=by omega
   have htk:l.take i=l:=List.take_of_length_le (by rw [HL.out];exact Nat.le_refl _)
   rw [htk] at how
   clear htk
   go_wp2_with fail
   go_ret
   exact ⟨_,rfl,how,hbr⟩
structure HiSt (w0 w:World) (Z T:Array Value):Prop where
 bel:Below w0.heap.size w0 w
 b0:w.heap[w0.heap.size]?=some (.cells Z 54 (0,0))
 b1:w.heap[w0.heap.size + 1]?=some (.cells T 54 (0,0))
section
variable {w0 w w':World} {Z T:Array Value}
theorem HiSt.alloc (h:HiSt w0 w Z T) (o:Obj):HiSt w0 (w.alloc o) Z T:=
 ⟨h.bel.alloc h.bel.size _,(Below.heap_alloc _ _ _ (lt_of_block h.b0)).trans h.b0,(Below.heap_alloc _ _ _ (lt_of_block h.b1)).trans h.b1⟩
theorem HiSt.set (h:HiSt w0 w Z T) (X:Array Value):HiSt w0 (setAtt w (w0.heap.size + 1) X) Z X:=
 ⟨setAtt_below h.bel (by omega),(setAtt_other w X (by omega)).trans h.b0,setAtt_same h.b1⟩
end
set_option maxHeartbeats 3200000 in
theorem acHighest_any (v:Value) (l:List AtM) (w:World) (hv:Els atl 101 w v l) (ho:∀ a ∈ l,a.Ok) (hp:0 < l.length) (hl:l.length≤1000):
  Calls Tryz.prog 81 #[v] w fun e w'=>e=.returned (.agg (atc (topA l)))∧Below w.heap.size w w':=by
 obtain ⟨A,c,rfl⟩:=hv.shape
 obtain ⟨L,HL⟩:∃ n:Nat,Hid (l.length=n):=⟨_,hid rfl⟩
 have HLP:=hid hp
 rw [HL.out] at hv hl hp ⊢
 have HO:=hid ho
 have HLEN:=hid hl
 obtain ⟨g,og,rfl,hg,hcl⟩:=hv.at_.2.2.2 HLP.out
 have HE:Hid (∀ j (h:j < l.length) W,Below w.heap.size w W→loadAtt (.pointer (some ⟨g,og + j * 101,none⟩)) W=.ok (.value (.agg (atc l[j]))) W):=hid (fun j h W hb=>loadAtt_in (range_kept (hcl j h) (hb.block g hg)) (HO.out _ (List.getElem_mem h)))
 obtain ⟨a0,HA0⟩:∃ a:AtM,Hid (l[0]'HLP.out=a):=⟨_,hid rfl⟩
 have HO0:Hid a0.Ok:=hid (by rw [← HA0.out];exact HO.out _ (List.getElem_mem _))
 have HTO:Hid (topA l=l.foldl topF a0):=hid (by
  have:=HA0.out
  have hp:=HLP.out
  cases hl:l with
  | nil=>rw [hl] at hp;simp at hp
  | cons a r=>
   subst hl
   simp only [List.getElem_cons_zero] at this
   subst this
   rfl)
 obtain ⟨X0,HX0⟩:∃ C:Array Value,Hid (atc a0=C):=⟨_,hid rfl⟩
 have hE0:loadAtt (.pointer (some ⟨g,og,none⟩)) (w.alloc (.cells (atc atZ) 54))=.ok (.value (.agg X0)) (w.alloc (.cells (atc atZ) 54)):=by
  have h2:=HE.out 0 HLP.out _ ((Below.refl _ _).alloc (Nat.le_refl _) (.cells (atc atZ) 54))
  rw [HA0.out,Nat.zero_mul,Nat.add_zero,HX0.out] at h2
  exact h2
 obtain ⟨Z,HZ⟩:∃ C:Array Value,Hid (atc atZ=C):=⟨_,hid rfl⟩
 rw [HZ.out] at hE0
 have HZS:Hid (Z.size=101):=hid (by rw [← HZ.out];exact atc_size atZ_ok)
 have hal:∀ W,allocAtt W=.ok (.value (.pointer (some ⟨W.heap.size,0,none⟩))) (W.alloc (.cells Z 54)):=fun W=>by rw [← HZ.out];exact allocAtt_eq W
 have HAL:=hid hal
 have HX0S:Hid (X0.size=101∧X0.all (·.oneCell')=true):=hid (by rw [← HX0.out];exact ⟨atc_size HO0.out,atc_one _⟩)
 have hst0:storeAtt (.pointer (some ⟨w.heap.size + 1,0,none⟩)) (.agg X0) ((w.alloc (.cells Z 54)).alloc (.cells Z 54))=.ok .skip ((w.alloc (.cells Z 54)).alloc (.cells X0 54)):=by
  have:=att_var (w.alloc (.cells Z 54)) HZS.out HX0S.out.1 HX0S.out.2
  rwa [show (w.alloc (.cells Z 54)).heap.size=w.heap.size + 1 from by simp] at this
 have HST0:Hid (HiSt w ((w.alloc (.cells Z 54)).alloc (.cells X0 54)) Z X0):=hid ⟨((Below.refl _ _).alloc (Nat.le_refl _) _).alloc (by simp) _,heap1 w _ _,heap2 w _ _⟩
 have hI0:(0:Int) < (L:Int):=by omega
 have hI1:0 < L:=hp
 clear hcl hg hv ho hl hp
 go_enter Tryz.func81,Tryz.ntmps81
 go_upto_region 2 with (fail)
 generalize ((w.alloc (.cells Z 54)).alloc (.cells X0 54))=w1 at *
 try rw [show (w.alloc (.cells Z 54)).heap.size=w.heap.size + 1 from by simp]
 clear hE0 hst0 hal hI0 hI1
 go_wp2_with fail
 go_loopw [11] (fun si wr=>∃ (i:Nat) (t:AtM),i≤L∧si=.int .i64 i∧Hid (t=(l.take i).foldl topF a0∧t.Ok)∧HiSt w wr Z (atc t)) (fun si _=>L - (intOf si).toNat)
 case atStart=>exact ⟨0,a0,Nat.zero_le _,rfl,hid ⟨rfl,HO0.out⟩,by rw [HX0.out];exact HST0.out⟩
 case round=>
  clear HST0
  obtain ⟨i,t,hi,rfl,HTT,hst⟩:=hrel
  obtain ⟨TC,HTC⟩:∃ C:Array Value,Hid (atc t=C):=⟨_,hid rfl⟩
  rw [HTC.out] at hst
  have HST:=hid hst
  clear hst
  by_cases hlt:i < L
  ·have hil:i < l.length:=by rw [HL.out];exact hlt
   have hI:(i:Int) < (L:Int):=by omega
   have hoi:=HO.out _ (List.getElem_mem hil)
   have l1:=HE.out i hil wr HST.out.bel
   have HNX:Hid ((l.take (i + 1)).foldl topF a0=topF t l[i]):=hid (by rw [List.take_succ_eq_append_getElem hil,List.foldl_append,← HTT.out.1];rfl)
   have HOI:=hid hoi
   obtain ⟨x,HXX⟩:∃ x:AtM,Hid (l[i]=x):=⟨_,hid rfl⟩
   rw [HXX.out] at l1 HNX HOI
   obtain ⟨X,HX⟩:∃ C:Array Value,Hid (atc x=C):=⟨_,hid rfl⟩
   have HXS:Hid (X.size=101∧X.all (·.oneCell')=true):=hid (by rw [← HX.out];exact ⟨atc_size HOI.out,atc_one _⟩)
   have HTS:Hid (TC.size=101):=hid (by rw [← HTC.out];exact atc_size HTT.out.2)
   have HPX:Hid (∀ (W:World) (k:Nat),W.heap[k]?=some (.cells X 54 (0,0))→W.cell? ⟨k,36,none⟩=some (.int .i64 x.pv)):=hid (fun W k h=>by
    rw [← HX.out] at h
    exact BoxA.pv (a:=x) h HOI.out)
   have HPT:Hid (∀ (W:World) (k:Nat),W.heap[k]?=some (.cells TC 54 (0,0))→W.cell? ⟨k,36,none⟩=some (.int .i64 t.pv)):=hid (fun W k h=>by
    rw [← HTC.out] at h
    exact BoxA.pv (a:=t) h HTT.out.2)
   rw [HX.out] at l1
   have hst:=att_var wr HZS.out HXS.out.1 HXS.out.2
   have hal1:=HAL.out wr
   clear hoi
   go_upto_region 5 with (fail)
   have hr1:=heap_alloc_new wr (.cells X 54)
   have HS1:=hid (HST.out.alloc (.cells X 54))
   obtain ⟨vb,HVB⟩:∃ k:Nat,Hid (wr.heap.size=k):=⟨_,hid rfl⟩
   rw [HVB.out] at hr1 ⊢
   clear l1 hst hal1
   generalize (wr.alloc (.cells X 54))=w2 at *
   have c1:=HPX.out w2 vb hr1
   have c2:=HPT.out w2 _ HS1.out.b1
   obtain ⟨xp,HXP⟩:∃ n:Int,Hid (x.pv=n):=⟨_,hid rfl⟩
   obtain ⟨tp,HTP⟩:∃ n:Int,Hid (t.pv=n):=⟨_,hid rfl⟩
   rw [HXP.out] at c1
   rw [HTP.out] at c2
   by_cases hgt:tp < xp
   ·have l2:=loadAtt_row hr1 HXS.out.1
    have s2:=storeAtt_eq HS1.out.b1 HTS.out HXS.out.1 HXS.out.2
    have HS2:=hid (HS1.out.set X)
    have HN2:Hid (x=(l.take (i + 1)).foldl topF a0∧x.Ok):=hid ⟨by rw [HNX.out];unfold topF;rw [HXP.out,HTP.out,if_pos hgt],HOI.out⟩
    have HLT:=hid hlt
    have HWI:Hid (wrap64 ((i:Int) + 1)=((i + 1:Nat):Int)):=hid (by have h1:=HLT.out;have h2:=HLEN.out;unfold wrap64;omega)
    clear hr1
    go_wp2_with fail
    go_roundw
    case rel=>exact ⟨i + 1,x,by have:=HLT.out;omega,by rw [HWI.out],hid HN2.out,by rw [HX.out];exact HS2.out⟩
    case measure=>
     have h1:=HLT.out
     have hw:=HWI.out
     simp only [hw];simp [intOf];omega
   ·have HN2:Hid (t=(l.take (i + 1)).foldl topF a0∧t.Ok):=hid ⟨by rw [HNX.out];unfold topF;rw [HXP.out,HTP.out,if_neg hgt],HTT.out.2⟩
    have HLT:=hid hlt
    have HWI:Hid (wrap64 ((i:Int) + 1)=((i + 1:Nat):Int)):=hid (by have h1:=HLT.out;have h2:=HLEN.out;unfold wrap64;omega)
    clear hr1
    go_wp2_with fail
    go_roundw
    case rel=>exact ⟨i + 1,t,by have:=HLT.out;omega,by rw [HWI.out],hid HN2.out,by rw [HTC.out];exact HS1.out⟩
    case measure=>
     have h1:=HLT.out
     have hw:=HWI.out
     simp only [hw];simp [intOf];omega
  ·obtain rfl:i=L:=by omega
   have HTL:Hid (t=topA l∧t.Ok):=hid ⟨by rw [HTO.out,HTT.out.1,List.take_of_length_le (by rw [HL.out];exact Nat.le_refl _)],HTT.out.2⟩
   have HTS:Hid (TC.size=101∧TC.all (·.oneCell')=true):=hid (by rw [← HTC.out];exact ⟨atc_size HTT.out.2,atc_one _⟩)
   have l3:=loadAtt_row HST.out.b1 HTS.out.1
   have s3:=storeAtt_eq HST.out.b0 HZS.out HTS.out.1 HTS.out.2
   go_wp2_with fail
   refine bodyPost_ret (results_cell_row rfl _ _ _ _ _ (0,0) _ rfl (setAtt_same HST.out.b0) under_att rfl (by rw [size_att,HTS.out.1])) rfl ⟨?_,setAtt_below HST.out.bel (Nat.le_refl _)⟩
   rw [← HTL.out.1,HTC.out]
end Go.Proofs.YtpdnnmabijmfbaaGreatDoor
