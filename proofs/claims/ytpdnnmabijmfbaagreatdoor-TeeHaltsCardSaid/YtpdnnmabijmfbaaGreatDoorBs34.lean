/-
  AcCodeMake: what each of them says stands at its head.
-/
import Derived.Test.YtpdnnmabijmfbaaGreatDoorBs30
namespace Go.Proofs.YtpdnnmabijmfbaaGreatDoor
set_option maxRecDepth 20000
open Go.RowKit
noncomputable def buildAx5 (u v x h s:Value) (w:World):Result Next:=Sem.run Tryz.prog (execOp (fun y=>match y with
 | .tmp 0=>u
 | .tmp 1=>v
 | .tmp 2=>x
 | .tmp 3=>h
 | _ => s) { dst := none, op := .build 52 #[(0, .tmp 0), (1, .tmp 1), (2, .tmp 2), (3, .tmp 3), (4, .tmp 4)], type := 0, pos := "", after := #[], guard := none }) w
theorem exec_build_ax5 (r:Operand→Value) (x0 x1 x2 x3 x4:Operand) (dst:Option Tmp) (ty:TypeId) (pos:String) (after:Array Edge) (guard:Option (Nat × Bool)) (w:World):
  Sem.run Tryz.prog (execOp r { dst:=dst,op:=.build 52 #[(0,x0),(1,x1),(2,x2),(3,x3),(4,x4)],type:=ty,pos:=pos,after:=after,guard:=guard }) w=buildAx5 (r x0) (r x1) (r x2) (r x3) (r x4) w:=by
 unfold buildAx5 execOp
 simp
theorem buildAx5_eq (b vi pv:Int) (t:List UInt8) (ht:t.length=32) (A:Option Addr) (n c:Nat) (w:World):buildAx5 (.int .i64 b) (.int .i64 vi) (.int .i64 pv) (.agg (hcells t)) (.slice A n c) w=.ok (.value (.agg (axc ⟨b,vi,pv,t,[],z32⟩ (.slice A n c)))) w:=by
 have hsz:(hcells t).size=32:=by rw [hcells_size,ht]
 have e0:(hcells t).zipIdx=((bcells t).zipIdx).toArray:=by simp [hcells]
 unfold buildAx5
 go_simp
 have e:=putAt_mid (bcells t) [.int .i64 b,.int .i64 vi,.int .i64 pv] (bcells z32) (.slice none 0 0 :: bcells z32) (by rw [bcells_length,bcells_length,ht];rfl)
 have e':List.foldl (fun (cs:Array Value) (x:Value × Nat)=>cs.setIfInBounds (3 + x.2) x.1) (((Tryz.zeroCells52.setIfInBounds 0 (Value.int .i64 b)).setIfInBounds 1 (Value.int .i64 vi)).setIfInBounds 2 (Value.int .i64 pv)) (bcells t).zipIdx=([Value.int .i64 b,.int .i64 vi,.int .i64 pv] ++ (bcells t ++ (Value.slice none 0 0 :: bcells z32))).toArray:=(fold_putSgO (bcells t) 0 3 _).trans e
 rw [e',if_neg (by simp [bcells_length,ht,show z32.length=32 from rfl])]
 simp only [Sem.run_pure,Result.andThen_ok]
 unfold axc
 rw [List.setIfInBounds_toArray,List.set_append_right _ _ (by simp),List.set_append_right _ _ (by simp [bcells_length,ht]),bcells_length,ht]
 rfl
theorem frX_cap {l:List AtM} {q N:Nat} (h:∀ a ∈ l,a.bo≤(N:Int)):∀ m,N≤m→frX l q m=frX l q N:=by
 intro m hm
 induction m with
 | zero=>rw [show N=0 from by omega]
 | succ m ih=>
  by_cases e:N=m + 1
  ·rw [e]
  ·rw [frX_lack (fun j hj=>by have:=h _ (List.getElem_mem hj);omega)]
   exact ih (by omega)
theorem tag_hash (i:Int) (d:UInt8) (v0:Value) (l0:List UInt8) (gp c:Nat) (w:World) (hg:gp < w.heap.size) (h0:w.cell? ⟨gp,0,none⟩=some v0) (b0:Byt w v0 l0) (hl0:l0.length≤1000000) (hK:Kst 1 w):
  Calls Tryz.prog 83 #[.int .i64 i,.int .u8 (d.toNat:Int),.slice (some ⟨gp,0,none⟩) 1 c] w fun e w'=>e=.returned (.agg (hcells (hl 32 (tagF i d l0))))∧Below w.heap.size w w':=by
 have e:([l0]:List (List UInt8)).flatten=l0:=by simp
 have h:=tag_any i d [l0] (fun _=>v0) gp 1 c w rfl hg (fun j hj=>by
  obtain rfl:j=0:=by omega
  exact h0) (fun j hj=>by
  have hj2:j < 1:=hj
  obtain rfl:j=0:=by omega
  exact b0) (by rw [e];omega) (by omega) hK
 rw [e,fcells_hl] at h
 exact h
attribute [local go_sem ↓] exec_load_att exec_alloc_att exec_store_att exec_load_ax exec_alloc_ax exec_store_ax exec_build_ax exec_build_ax5 exec_load_hash
set_option maxHeartbeats 12800000 in
theorem acMake_any (b n vi:Int) (v:Value) (l:List AtM) (w:World) (hwn:(Lit.int .i64 n).wf=true) (hv:Els atl 101 w v l) (hok:∀ a ∈ l,a.Ok) (hlen:l.length≤1000) (hK:Kst 1 w):
  Calls Tryz.prog 41 #[.int .i64 b,.int .i64 n,.int .i64 vi,v] w (MxPost b n vi l w):=by
 have HFS:=hid (fun q W (h:Below w.heap.size w W) hq=>acFirst_any v l q W (hv.below h) hok hlen hq)
 obtain ⟨A,kk,rfl⟩:=hv.shape
 obtain ⟨L,HL⟩:∃ n:Nat,Hid (l.length=n):=⟨_,hid rfl⟩
 obtain ⟨q,HQ⟩:∃ q:Nat,Hid (quoS n=q):=⟨_,hid rfl⟩
 rw [HL.out] at hv hlen HFS ⊢
 have HV:=hid hv
 have HOK:=hid hok
 have HLEN:=hid hlen
 have HKB:=hid (fun W (h:Below w.heap.size w W)=>(show Kst 1 W from hK.below h))
 have HQU:Hid (∀ W,Calls Tryz.prog 77 #[.int .i64 n] W fun e w'=>e=.returned (.int .i64 (q:Int))∧W=w'):=hid (fun W=>by
  have:=quorum_any n W hwn
  rw [HQ.out] at this
  exact this)
 obtain ⟨vb,HVB⟩:∃ q:Bool,Hid (viewB vi=q):=⟨_,hid rfl⟩
 have HCV:Hid (∀ W,Calls Tryz.prog 78 #[.int .i64 vi] W fun e w'=>e=.returned (.bool vb)∧W=w'):=hid (fun W=>by have:=acViewed_any vi W;rw [HVB.out] at this;exact this)
 have HRT:Hid (∀ a ∈ l,∀ W,Below w.heap.size w W→Calls Tryz.prog 79 #[.int .i64 n,.int .i64 vi,.agg (atc a)] W fun e w'=>e=.returned (.bool (goodX n vi a))∧Below W.heap.size W w'):=hid (fun a ha W h=>acCounts_any n vi a W (HOK.out a ha) (HKB.out W h))
 obtain ⟨Z,HZ⟩:∃ C:Array Value,Hid (axc acZ (.slice none 0 0)=C):=⟨_,hid rfl⟩
 obtain ⟨ZA,HZA⟩:∃ C:Array Value,Hid (atc atZ=C):=⟨_,hid rfl⟩
 have hbz:∀ W,buildAx W=.ok (.value (.agg Z)) W:=fun W=>by rw [← HZ.out];exact buildAx_eq W
 have hal:∀ W,allocAx W=.ok (.value (.pointer (some ⟨W.heap.size,0,none⟩))) (W.alloc (.cells Z 52)):=fun W=>by rw [← HZ.out];exact allocAx_eq W
 have HALX:=hid hal
 have HALA:Hid (∀ W,allocAtt W=.ok (.value (.pointer (some ⟨W.heap.size,0,none⟩))) (W.alloc (.cells ZA 54))):=hid (fun W=>by rw [← HZA.out];exact allocAtt_eq W)
 have HSZA:Hid (ZA.size=101):=hid (by rw [← HZA.out];exact atc_size atZ_ok)
 have HSZ:Hid (Z.size=68):=hid (by rw [← HZ.out];exact axc_size _ acZ_ok)
 have HZ1:Hid (Z.all (·.oneCell')=true):=hid (by rw [← HZ.out];exact axc_one (w:=w) (a:=acZ) (Els.nil w))
 have hb0:Below w.heap.size w (w.alloc (.cells Z 52)):=(Below.refl _ _).alloc (Nat.le_refl _) _
 have hr0:(w.alloc (.cells Z 52)).heap[w.heap.size]?=some (.cells Z 52 (0,0)):=heap_alloc_new w _
 have HZF:Hid (∀ W:World,W.heap[w.heap.size]?=some (.cells Z 52 (0,0))→storeAx (.pointer (some ⟨w.heap.size,0,none⟩)) (.agg Z) W=.ok .skip W):=hid (fun W h=>by rw [storeAx_eq h HSZ.out HSZ.out HZ1.out,setAx_self h])
 clear hv hok hK hwn
 go_enter Tryz.func41,Tryz.ntmps41
 go_upto_region 1 with (fail)
 generalize (w.alloc (.cells Z 52))=w0 at *
 have HR0:=hid hr0
 have HB0:=hid hb0
 have hz0:=HZF.out w0 hr0
 clear hr0 hb0 hal
 go_wp2_with fail
 refine (HQU.out w0).mono ?_
 rintro e w1 ⟨rfl,rfl⟩
 by_cases hq:q=0
 case pos=>
  subst hq
  have HM:=hid (makeX_arg (l:=l) (b:=b) (n:=n) (vi:=vi) (.inl HQ.out))
  go_wp2_with fail
  refine bodyPost_ret (results_xb rfl _ _ _ _ _ _ rfl rfl HR0.out HSZ.out) rfl ?_
  rw [← HZ.out]
  exact mxPost_no HM.out HB0.out
 have hq1:((q:Int) == 0)=false:=by simpa using hq
 by_cases h0:b < 1
 case pos=>
  have HM:=hid (makeX_arg (l:=l) (b:=b) (n:=n) (vi:=vi) (.inr (.inl h0)))
  go_wp2_with fail
  refine bodyPost_ret (results_xb rfl _ _ _ _ _ _ rfl rfl HR0.out HSZ.out) rfl ?_
  rw [← HZ.out]
  exact mxPost_no HM.out HB0.out
 by_cases h1:n < b
 case pos=>
  have h1':b > n:=h1
  have HM:=hid (makeX_arg (l:=l) (b:=b) (n:=n) (vi:=vi) (.inr (.inr (.inl h1))))
  go_wp2_with fail
  refine bodyPost_ret (results_xb rfl _ _ _ _ _ _ rfl rfl HR0.out HSZ.out) rfl ?_
  rw [← HZ.out]
  exact mxPost_no HM.out HB0.out
 have h1':¬ b > n:=by omega
 go_wp2_with fail
 refine (HCV.out w0).mono ?_
 rintro e w1 ⟨rfl,rfl⟩
 cases vb with
 | false=>
  have HM:=hid (makeX_arg (l:=l) (b:=b) (n:=n) (vi:=vi) (by
   have h:=HVB.out
   unfold viewB at h
   rw [decide_eq_false_iff_not] at h
   omega))
  go_wp2_with fail
  refine bodyPost_ret (results_xb rfl _ _ _ _ _ _ rfl rfl HR0.out HSZ.out) rfl ?_
  rw [← HZ.out]
  exact mxPost_no HM.out HB0.out
 | true=>
  have HVI:Hid (1≤vi∧vi≤1099511627776):=hid (by
   have h:=HVB.out
   unfold viewB at h
   exact of_decide_eq_true h)
  have HNA:Hid (¬ (quoS n=0∨b < 1∨n < b∨vi < 1∨1099511627776 < vi)):=hid (by have:=HVI.out;rw [HQ.out];omega)
  clear hz0
  have HE:Hid (∀ j (h:j < l.length) W,Below w.heap.size w W→∃ g og,A=some ⟨g,og,none⟩∧loadAtt (.pointer (some ⟨g,og + j * 101,none⟩)) W=.ok (.value (.agg (atc l[j]))) W):=hid (fun j h W hb=>by
   obtain ⟨g,og,e,hg,hcl⟩:=HV.out.at_.2.2.2 (by omega)
   exact ⟨g,og,e,loadAtt_in (range_kept (hcl j h) (hb.block g hg)) (HOK.out _ (List.getElem_mem h))⟩)
  go_wp2_with fail
  clear hq1 h0 h1 h1'
  go_loopw [37] (fun si wr=>∃ i:Nat,i≤L∧si=.int .i64 i∧Hid (∀ j (h:j < l.length),j < i→goodX n vi l[j]=true)∧Below w0.heap.size w0 wr) (fun si _=>L - (intOf si).toNat)
  case atStart=>exact ⟨0,Nat.zero_le _,rfl,hid (fun j _ h=>absurd h (by omega)),Below.refl _ _⟩
  case round=>
   obtain ⟨i,hi,rfl,HD,hbr⟩:=hrel
   have HBR:=hid (HB0.out.trans (hbr.mono HB0.out.size))
   have HRR:=hid ((hbr.block _ (lt_of_block HR0.out)).trans HR0.out)
   by_cases hlt:i < L
   ·have hil:i < l.length:=by rw [HL.out];exact hlt
    have hI:(i:Int) < (L:Int):=by omega
    have hM:=List.getElem_mem hil
    obtain ⟨g,og,rfl,l1⟩:=HE.out i hil wr HBR.out
    obtain ⟨X,HX⟩:∃ C:Array Value,Hid (atc l[i]=C):=⟨_,hid rfl⟩
    obtain ⟨m,HMM⟩:∃ m:Bool,Hid (goodX n vi l[i]=m):=⟨_,hid rfl⟩
    have HR2:Hid (∀ W,Below w.heap.size w W→Calls Tryz.prog 79 #[.int .i64 n,.int .i64 vi,.agg X] W fun e w'=>e=.returned (.bool m)∧Below W.heap.size W w'):=hid (fun W h=>by
     have:=HRT.out _ hM W h
     rw [HX.out,HMM.out] at this
     exact this)
    have HXS:Hid (X.size=101∧X.all (·.oneCell')=true):=hid (by rw [← HX.out];exact ⟨atc_size (HOK.out _ hM),atc_one _⟩)
    have HYES:Hid (m=true→∀ j (h:j < l.length),j < i + 1→goodX n vi l[j]=true):=hid (fun h2 j h hj=>by
     by_cases hji:j < i
     ·exact HD.out j h hji
     ·obtain rfl:j=i:=by omega
      rw [HMM.out,h2])
    have HNO:Hid (m=false→makeX b n vi l=(acZ,7)):=hid (fun h=>makeX_tag HNA.out (by
     rw [List.all_eq_false]
     exact ⟨_,hM,by rw [HMM.out,h];decide⟩))
    rw [HX.out] at l1
    have hst:=att_var wr HSZA.out HXS.out.1 HXS.out.2
    have hal1:=HALA.out wr
    have HLT:=hid hlt
    clear hM
    go_upto_region 7 with (fail)
    have hr1:=heap_alloc_new wr (.cells X 54)
    have hba:Below wr.heap.size wr (wr.alloc (.cells X 54)):=(Below.refl _ _).alloc (Nat.le_refl _) _
    have hb1:=hbr.trans (hba.mono hbr.size)
    have l2:=loadAtt_row hr1 HXS.out.1
    have HR1:=hid ((hba.block _ (lt_of_block HRR.out)).trans HRR.out)
    clear l1 hst hr1 hal1 hba
    generalize (wr.alloc (.cells X 54))=w1 at *
    have HB1:=hid (HB0.out.trans (hb1.mono HB0.out.size))
    go_wp2_with fail
    refine (HR2.out w1 HB1.out).mono ?_
    rintro e w2 ⟨rfl,hb2⟩
    have HB2:=hid (HB1.out.trans (hb2.mono HB1.out.size))
    have HB20:=hid (hb1.trans (hb2.mono hb1.size))
    have HR22:=hid ((hb2.block _ (lt_of_block HR1.out)).trans HR1.out)
    clear l2 hb2 hb1
    cases m with
    | false=>
     have HM:=hid (HNO.out rfl)
     have hz2:=HZF.out w2 HR22.out
     go_wp2_with fail
     refine bodyPost_ret (results_xb rfl _ _ _ _ _ _ rfl rfl HR22.out HSZ.out) rfl ?_
     rw [← HZ.out]
     exact mxPost_no HM.out HB2.out
    | true=>
     have HM2:=hid (HYES.out rfl)
     have HWI:Hid (wrap64 ((i:Int) + 1)=((i + 1:Nat):Int)):=hid (by have h1:=HLT.out;have h2:=HLEN.out;unfold wrap64;omega)
     clear HYES HNO
     go_wp2_with fail
     go_roundw
     case rel=>exact ⟨i + 1,by have:=HLT.out;omega,by first | go_num | rw [HWI.out],hid HM2.out,HB20.out⟩
     case measure=>
      have h1:=HLT.out
      have hw:=HWI.out
      (try simp only [hw]);simp [intOf];omega
   ·have HIL:=hid (show i=L by omega)
    have hI:¬ (i:Int) < (L:Int):=by omega
    have HALL:Hid ((l.all (goodX n vi))=true):=hid (by
     rw [List.all_eq_true]
     intro a ha
     obtain ⟨j,hj,rfl⟩:=List.getElem_of_mem ha
     exact HD.out j hj (by have:=HL.out;have:=HIL.out;omega))
    have HQN:Hid (quoS n≠0):=hid (fun e=>HNA.out (.inl e))
    have HQ21:Hid (q≤21):=hid (by
     have h:=quoS_top HQN.out
     rw [← HQ.out]
     unfold quoS
     split <;> omega)
    have HBN:Hid (∀ a ∈ l,a.bo≤((n.toNat:Nat):Int)):=hid (fun a ha=>by
     have h:=quoS_top HQN.out
     have:=(goodX_iff.1 (List.all_eq_true.1 HALL.out a ha)).2.2.2
     omega)
    have HNT:Hid (n.toNat≤21):=hid (by
     have h:=quoS_top HQN.out
     omega)
    have HCAP:Hid (frX l (quoS n) n.toNat=frX l q 21):=hid (by rw [HQ.out];exact (frX_cap HBN.out 21 HNT.out).symm)
    clear HD hlt
    go_wp2_with fail
    refine (HFS.out q wr HBR.out HQ21.out).mono ?_
    rintro e w7 ⟨x7,rfl,how,hb7⟩
    clear hI
    have HB7:=hid (HBR.out.trans (hb7.mono HBR.out.size))
    have HR7:=hid ((hb7.block _ (lt_of_block HRR.out)).trans HRR.out)
    have HLT:=hid (lt_of_block HRR.out)
    have HFX:=hid (firstA_frX l q 21)
    obtain ⟨F,HF⟩:∃ x,Hid (frX l q 21=x):=⟨_,hid rfl⟩
    rw [HF.out] at HFX HCAP
    obtain ⟨SL,HSL⟩:∃ x:List AtM,Hid (firstA l q 21=x):=⟨_,hid rfl⟩
    rw [HSL.out] at how HFX
    have HSO:Hid (∀ a ∈ SL,a.Ok):=hid (fun a ha=>HOK.out a (HFX.out.2.2 a ha))
    have HSL21:Hid (SL.length≤21):=hid (by have:=firstA_len l q 21;rw [HSL.out] at this;have:=HQ21.out;omega)
    have HFL:Hid (F.1.length=SL.length):=hid (by rw [HFX.out.1,List.length_map])
    have HEL7:=hid (how.els eltAt HSO.out)
    obtain ⟨SA,SC,rfl⟩:=how.shape
    obtain ⟨sn,HSN⟩:∃ x:Nat,Hid (SL.length=x):=⟨_,hid rfl⟩
    rw [HSN.out] at HEL7 HFL HSL21 ⊢
    clear how hb7
    by_cases hfew:sn < q
    ·have HM:=hid (makeX_few HNA.out HALL.out (by rw [HCAP.out,HQ.out,HFL.out];exact hfew))
     have hz7:=HZF.out w7 HR7.out
     have hf2:(sn:Int) < (q:Int):=by omega
     clear hfew
     go_wp2_with fail
     refine bodyPost_ret (results_xb rfl _ _ _ _ _ _ rfl rfl HR7.out HSZ.out) rfl ?_
     rw [← HZ.out]
     exact mxPost_no HM.out HB7.out
    ·have HM:=hid (makeX_done HNA.out HALL.out (by rw [HCAP.out,HQ.out,HFL.out];exact hfew))
     have HMAY:=hid (frX_may HNA.out HALL.out (by rw [HCAP.out,HQ.out,HFL.out];exact hfew))
     rw [HCAP.out] at HM HMAY
     have hf2:¬ (sn:Int) < (q:Int):=by omega
     have HSP:Hid (0 < SL.length):=hid (by have:=HQN.out;have:=HQ.out;have:=HSN.out;omega)
     have HNE:Hid (SL≠[]):=hid (fun e=>by have:=HSP.out;rw [e] at this;simp at this)
     clear hfew
     obtain ⟨t,HTT⟩:∃ t:AtM,Hid (topA SL=t):=⟨_,hid rfl⟩
     have HTO:Hid t.Ok:=hid (by rw [← HTT.out];exact HSO.out _ (topA_mem HNE.out))
     have HHI:Hid (∀ W,Below w7.heap.size w7 W→Calls Tryz.prog 81 #[.slice SA sn SC] W fun e w'=>e=.returned (.agg (atc t))∧Below W.heap.size W w'):=hid (fun W h=>by
      have:=acHighest_any (.slice SA sn SC) SL W (HEL7.out.below h) HSO.out HSP.out (by have:=HSL21.out;have:=HSN.out;omega)
      rw [HTT.out] at this
      exact this)
     have HFM:Hid (∀ W,Below w7.heap.size w7 W→Calls Tryz.prog 82 #[.slice SA sn SC] W fun e w'=>∃ x,e=.returned x∧OwnE icl 1 3 W.heap.size w' x F.1∧Below W.heap.size W w'):=hid (fun W h=>by
      have:=acFroms_any (.slice SA sn SC) SL W (HEL7.out.below h) HSO.out (by have:=HSL21.out;have:=HSN.out;omega)
      rw [← HFX.out.1] at this
      exact this)
     obtain ⟨y,HY⟩:∃ y:AcM,Hid (bodyX b vi F=y):=⟨_,hid rfl⟩
     rw [HY.out] at HM HMAY
     have HF2:Hid (F.2=(t.pv,t.pa)):=hid (by rw [← HTT.out];exact HFX.out.2.1 HNE.out)
     have HYE:Hid (y=⟨b,vi,t.pv,t.pa,F.1,z32⟩):=hid (by rw [← HY.out];unfold bodyX;rw [HF2.out])
     have HYO:Hid y.Ok:=hid (by rw [HYE.out];exact ⟨HTO.out.pa,rfl⟩)
     obtain ⟨X,HX⟩:∃ C:Array Value,Hid (atc t=C):=⟨_,hid rfl⟩
     have HXS:Hid (X.size=101∧X.all (·.oneCell')=true):=hid (by rw [← HX.out];exact ⟨atc_size HTO.out,atc_one _⟩)
     rw [HX.out] at HHI
     obtain ⟨tp,HTP⟩:∃ x:Int,Hid (t.pv=x):=⟨_,hid rfl⟩
     obtain ⟨PC,HPC⟩:∃ C:Array Value,Hid (hcells t.pa=C):=⟨_,hid rfl⟩
     have HXC:Hid (∀ (W:World) (k:Nat),W.heap[k]?=some (.cells X 54 (0,0))→W.cell? ⟨k,36,none⟩=some (.int .i64 tp)∧loadH (.pointer (some ⟨k,37,none⟩)) W=.ok (.value (.agg PC)) W):=hid (fun W k h=>by
      rw [← HX.out] at h
      have hBA:BoxA W k t:=h
      rw [← HTP.out,← HPC.out]
      refine ⟨hBA.pv HTO.out,loadH_mid (fun i u hu=>?_) HTO.out.pa⟩
      rw [hBA.cell,atl_pa,List.getElem?_append_right (by simp only [List.length_append,bcells_length,HTO.out.ha,List.length_cons,List.length_nil];omega)]
      simp only [List.length_append,bcells_length,HTO.out.ha,List.length_cons,List.length_nil]
      rw [show 37 + i - (0 + 1 + 1 + 1 + 1 + (32 + (0 + 1)))=i from by omega,List.getElem?_append_left (List.getElem?_eq_some_iff.1 hu).1]
      exact hu)
     have hb5:∀ s' n' c' W,buildAx5 (.int .i64 b) (.int .i64 vi) (.int .i64 tp) (.agg PC) (.slice s' n' c') W=.ok (.value (.agg (axc y (.slice s' n' c')))) W:=fun s' n' c' W=>by
      rw [← HTP.out,← HPC.out,buildAx5_eq b vi t.pv t.pa HTO.out.pa s' n' c' W,HYE.out]
      rfl
     have HFR:Hid (y.fr=F.1):=hid (by rw [HYE.out])
     have HAXS:Hid (∀ s,(axc y s).size=68):=hid (fun s=>axc_size s HYO.out)
     go_upto_region 13 with (fail)
     go_wp2_with fail
     refine (HHI.out w7 (Below.refl _ _)).mono ?_
     rintro e w8 ⟨rfl,hb8⟩
     have hst:=att_var w8 HSZA.out HXS.out.1 HXS.out.2
     have hal1:=HALA.out w8
     have HR8:=hid ((hb8.block _ (lt_of_block HR7.out)).trans HR7.out)
     have HB8:=hid (HB7.out.trans (hb8.mono HB7.out.size))
     have HB80:=hid hb8
     clear hf2 hb8
     go_upto_region 14 with (fail)
     have hr9:(w8.alloc (.cells X 54)).heap[w8.heap.size]?=some (.cells X 54 (0,0)):=heap_alloc_new w8 _
     have hb9a:Below w8.heap.size w8 (w8.alloc (.cells X 54)):=(Below.refl _ _).alloc (Nat.le_refl _) _
     have HB9:=hid (HB8.out.trans (hb9a.mono HB8.out.size))
     have HB90:=hid (HB80.out.trans (hb9a.mono HB80.out.size))
     have HR9:=hid ((hb9a.block _ (lt_of_block HR8.out)).trans HR8.out)
     obtain ⟨tb,HTB⟩:∃ k:Nat,Hid (w8.heap.size=k):=⟨_,hid rfl⟩
     rw [HTB.out] at hr9 ⊢
     clear hst hal1 hb9a
     generalize (w8.alloc (.cells X 54))=w9 at *
     have hlt9:=lt_of_block hr9
     have HXW:Hid (∀ W,Below w9.heap.size w9 W→W.cell? ⟨tb,36,none⟩=some (.int .i64 tp)∧loadH (.pointer (some ⟨tb,37,none⟩)) W=.ok (.value (.agg PC)) W):=hid (fun W h=>HXC.out W tb ((h.block _ hlt9).trans hr9))
     have hbd:Below w9.heap.size w9 w9.drew:=(Below.refl _ _).drew
     clear hr9 hlt9
     refine wp_region_held_drew (S:=fun W=>W.cell? ⟨tb,36,none⟩=some (.int .i64 tp)∧loadH (.pointer (some ⟨tb,37,none⟩)) W=.ok (.value (.agg PC)) W) (by kernel_rfl) (HXW.out _ hbd) (fun hHeld=>?_)
     refine' tkq 0 rfl ?_;try simp only [lay]
     refine' tkq 1 rfl ?_;try simp only [lay]
     refine' tkq 2 rfl ?_;try simp only [lay]
     refine' tkq2 3 rfl ?_;try simp only [lay]
     refine' tkq 4 rfl ?_;try simp only [lay]
     refine' tk (i:=5) (v:=_) rfl (fun W hW=>hW.2) ?_
     try simp only [lay]
     refine' tkq 6 rfl ?_;try simp only [lay]
     refine pair_on (i:=7) (j:=9) rfl rfl (by kernel_rfl) (by rfl) (by rfl) (fun K hK=>?_) (fun K hK=>?_)
     ·go_simp
      refine (HFM.out w9.drew (HB90.out.trans (hbd.mono HB90.out.size))).mono ?_
      rintro e wF ⟨xF,rfl,howF,hbF'⟩
      have hbF:=hbd.trans hbF'
      obtain ⟨FA,FC,rfl⟩:=howF.shape
      obtain ⟨fn,HFN⟩:∃ x:Nat,Hid (F.1.length=x):=⟨_,hid rfl⟩
      rw [HFN.out]
      refine hK.out _ _ (HXW.out _ hbF) (fun hHeld=>?_)
      clear hK K
      try simp only [lay]
      rw [HFN.out] at howF
      refine' tkq 8 rfl ?_;try simp only [lay]
      have hxF:Below w9.heap.size w9 (wF.alloc (.cells Z 52)):=hbF.alloc hbF.size _
      have hxG:Below w9.heap.size w9 (wF.alloc (.cells (axc y (.slice FA fn FC)) 52)):=hbF.alloc hbF.size _
      have halF:=HALX.out wF
      have hstF:=ax_var wF HSZ.out (HAXS.out (.slice FA fn FC)) (axc_one (w:=wF) (a:=y) (by rw [HFR.out];exact howF.els eltIc (fun _ _=>trivial)))
      refine call_on (i:=9) rfl (by kernel_rfl) (by rfl) (fun K hK=>?_)
      go_simp
      refine hK.out _ _ (HXW.out _ hxF) (fun hHeld=>?_)
      clear hK K
      try simp only [lay]
      refine call_on (i:=10) rfl (by kernel_rfl) (by rfl) (fun K hK=>?_)
      go_simp
      refine hK.out _ _ (HXW.out _ hxG) (fun hHeld=>?_)
      clear hK K
      try simp only [lay]
      refine wpAnyH_done (by kernel_rfl) ?_ _
      have HELF:Hid (Els icl 1 wF (.slice FA fn FC) F.1):=hid (by exact howF.els eltIc (fun _ _=>trivial))
      have hxA:Below wF.heap.size wF (wF.alloc (.cells (axc y (.slice FA fn FC)) 52)):=(Below.refl _ _).alloc (Nat.le_refl _) _
      have HRX:=hid (heap_alloc_new wF (.cells (axc y (.slice FA fn FC)) 52))
      have HBX:=hid (HB9.out.trans (hxG.mono HB9.out.size))
      have HRZ:=hid ((hxG.block _ (lt_of_block HR9.out)).trans HR9.out)
      have HEX:=hid (HELF.out.below hxA)
      have HGL:Hid (w.heap.size < wF.heap.size):=hid (by have:=lt_of_block HR9.out;have:=hbF.size;omega)
      have HOW:=hid (howF.below hxA)
      have HKEEP:Hid (∀ W:World,(∀ k,k < (wF.alloc (.cells (axc y (.slice FA fn FC)) 52)).heap.size→k≠wF.heap.size→k≠w.heap.size→W.heap[k]?=(wF.alloc (.cells (axc y (.slice FA fn FC)) 52)).heap[k]?)→Els icl 1 W (.slice FA fn FC) F.1):=hid (fun W h=>by
       have hk:=HOW.out.keep (w':=W) (fun k hk e=>h k hk (fun e2=>by
        have:=(World.ownsRow.lt howF k e).2
        omega) (fun e2=>by
        have:=(World.ownsRow.lt howF k e).1
        have h1:=lt_of_block HR9.out
        have h2:=hbd.size
        omega))
       exact hk.els eltIc (fun _ _=>trivial))
      generalize HGA:wF.heap.size=gA at *
      generalize HWX:(wF.alloc (.cells (axc y (.slice FA fn FC)) 52))=wX at *
      clear hHeld howF hbF hbF' hxF hxG halF hstF hxA HELF HOW
      go_upto_region 15 with (fail)
      obtain ⟨YC,HYC⟩:∃ C:Array Value,Hid (axc y (.slice FA fn FC)=C):=⟨_,hid rfl⟩
      have HBXX:Hid (BoxX wX gA y (.slice FA fn FC)):=HRX
      have HTDX:Hid (∀ W,Below wX.heap.size wX W→Calls Tryz.prog 84 #[.agg YC] W fun e w'=>∃ x,e=.returned x∧Own W.heap.size w' x (taggedX y)∧Below W.heap.size W w'):=hid (fun W h=>by
       rw [← HYC.out]
       exact acTagged_any _ y W ⟨_,rfl,HYO.out,by rw [HFR.out];exact HEX.out.below h⟩ HMAY.out)
      obtain ⟨TG,HTG⟩:∃ l:List UInt8,Hid (taggedX y=l):=⟨_,hid rfl⟩
      have HTGL:Hid (TG.length≤1000000):=hid (by rw [← HTG.out];have:=taggedX_len HYO.out HMAY.out;omega)
      have HTAGX:Hid (tagX y=hl 32 (tagF b 2 TG)):=hid (by unfold tagX;rw [HTG.out];rw [show y.bo=b from by rw [HYE.out]])
      rw [HTG.out] at HTDX
      have HLX:Hid (∀ W,Below wX.heap.size wX W→W.cell? ⟨gA,0,none⟩=some (.int .i64 b)):=hid (fun W h=>by
       have:=(BoxX.below HBXX.out h HBXX.out.lt).ints.1
       rw [this,HYE.out])
      have hlX:loadAx (.pointer (some ⟨gA,0,none⟩)) wX=.ok (.value (.agg YC)) wX:=loadAx_row (by rw [← HYC.out];exact HRX.out) (by rw [← HYC.out];exact HAXS.out _)
      obtain ⟨tv,HTV⟩:∃ l:List UInt8,Hid (hl 32 (tagF b 2 TG)=l):=⟨_,hid rfl⟩
      have HTVL:Hid (tv.length=32):=hid (by rw [← HTV.out];exact hl_length _ _)
      have HKT:Hid (∀ v gp c W,Below wX.heap.size wX W→gp < W.heap.size→W.cell? ⟨gp,0,none⟩=some v→Byt W v TG→Calls Tryz.prog 83 #[.int .i64 b,.int .u8 2,.slice (some ⟨gp,0,none⟩) 1 c] W fun e w'=>e=.returned (.agg (hcells tv))∧Below W.heap.size W w'):=hid (fun v gp c W hb h1 h2 h3=>by
       have:=tag_hash b 2 v TG gp c W h1 h2 h3 HTGL.out (HKB.out W (HBX.out.trans (hb.mono HBX.out.size)))
       rw [HTV.out] at this
       exact this)
      go_wp2_with fail
      refine (HTDX.out wX (Below.refl _ _)).mono ?_
      rintro e wT ⟨vT,rfl,hoT,hbT⟩
      have hvT:=hoT.byt
      obtain ⟨TA,TC,rfl⟩:=hvT.shape
      have hbU:Below wX.heap.size wX (wT.alloc (.cells #[.slice TA TG.length TC] 33)):=hbT.alloc hbT.size _
      clear hlX
      go_wp2_with fail
      refine (HKT.out (.slice TA TG.length TC) wT.heap.size 1 (wT.alloc (.cells #[.slice TA TG.length TC] 33)) hbU (by simp) (by simp) (hvT.alloc _)).mono ?_
      rintro e wV ⟨rfl,hbV'⟩
      have hbV:=hbU.trans (hbV'.mono hbU.size)
      have HBXV:Hid (BoxX wV gA y (.slice FA fn FC)):=hid (BoxX.below HBXX.out hbV HBXX.out.lt)
      go_upto_region 16 with (refine wpList_store_xtg (h:=tv) (a:=y) (s:=.slice FA fn FC) rfl _ _ rfl rfl rfl HBXV.out HYO.out HTVL.out ?_;intro wY hgY hAY hsY)
      have HBV:=hid (HBX.out.trans (hbV.mono HBX.out.size))
      have HBY:Hid (Below w.heap.size w wY):=hid (below_into HBV.out (Nat.le_of_lt HGL.out) hgY HBV.out.size)
      have HRY:Hid (wY.heap[w.heap.size]?=some (.cells Z 52 (0,0))):=hid ((hgY.block _ (Nat.lt_of_lt_of_le (lt_of_block HRZ.out) hbV.size) (fun e=>by injection e with e;have:=HGL.out;omega)).trans ((hbV.block _ (lt_of_block HRZ.out)).trans HRZ.out))
      have HKY:Hid (∀ k,k < wX.heap.size→k≠gA→wY.heap[k]?=wX.heap[k]?):=hid (fun k hk hne=>(hgY.block _ (Nat.lt_of_lt_of_le hk hbV.size) (fun e=>hne (by injection e with e))).trans (hbV.block _ hk))
      have HEY:Hid (Els icl 1 wY (.slice FA fn FC) F.1):=hid (HKEEP.out wY (fun k hk hne _=>HKY.out k hk hne))
      obtain ⟨z,HZZ⟩:∃ z:AcM,Hid ({ y with tg:=tv }=z):=⟨_,hid rfl⟩
      rw [HZZ.out] at hAY
      have HZO:Hid z.Ok:=hid (by rw [← HZZ.out];exact ⟨HYO.out.pa,HTVL.out⟩)
      obtain ⟨ZC,HZC⟩:∃ C:Array Value,Hid (axc z (.slice FA fn FC)=C):=⟨_,hid rfl⟩
      have HZCS:Hid (ZC.size=68∧ZC.all (·.oneCell')=true):=hid (by rw [← HZC.out];exact ⟨axc_size _ HZO.out,axc_one (a:=z) (by rw [← HZZ.out];show Els icl 1 wY _ y.fr;rw [HFR.out];exact HEY.out)⟩)
      have lY:loadAx (.pointer (some ⟨gA,0,none⟩)) wY=.ok (.value (.agg ZC)) wY:=loadAx_row (by rw [← HZC.out];exact hAY) HZCS.out.1
      have sY:=storeAx_eq HRY.out HSZ.out HZCS.out.1 HZCS.out.2
      have HSS:=hid (setAx_same (C:=ZC) HRY.out)
      have HBF:=hid (setAx_below (C:=ZC) HBY.out (Nat.le_refl w.heap.size))
      have HEF:Hid (Els icl 1 (setAx wY w.heap.size ZC) (.slice FA fn FC) F.1):=hid (HKEEP.out _ (fun k hk hne hn2=>(setAx_other wY ZC hn2).trans (HKY.out k hk hne)))
      clear hAY hgY hsY
      go_wp2_with fail
      refine bodyPost_ret (results_xb rfl _ _ _ _ _ _ rfl rfl HSS.out HZCS.out.1) rfl ?_
      rw [← HZC.out] at HBF HEF ⊢
      rw [HTAGX.out,HTV.out,HZZ.out] at HM
      have HZFR:z.fr=F.1:=by rw [← HZZ.out];exact HFR.out
      exact mxPost_yes HM.out HZO.out (by rw [HZFR];exact HEF.out) HBF.out
     ·have halD:=HALX.out w9.drew
      obtain ⟨gA,HGA⟩:∃ k:Nat,Hid (w9.drew.heap.size=k):=⟨_,hid rfl⟩
      have hbA:Below w9.heap.size w9 (w9.drew.alloc (.cells Z 52)):=hbd.alloc hbd.size _
      have hrA:=heap_alloc_new w9.drew (.cells Z 52)
      have hsA:(w9.drew.alloc (.cells Z 52)).heap.size=gA + 1:=by rw [← HGA.out];simp
      rw [HGA.out] at halD hrA
      go_simp
      refine hK.out _ _ (HXW.out _ hbA) (fun hHeld=>?_)
      clear hK K
      try simp only [lay]
      refine call_on (i:=7) rfl (by kernel_rfl) (by rfl) (fun K hK=>?_)
      go_simp
      refine (HFM.out (w9.drew.alloc (.cells Z 52)) (HB90.out.trans (hbA.mono HB90.out.size))).mono ?_
      rintro e wF ⟨xF,rfl,howF,hbF'⟩
      have hbF:=hbA.trans (hbF'.mono hbA.size)
      obtain ⟨FA,FC,rfl⟩:=howF.shape
      obtain ⟨fn,HFN⟩:∃ x:Nat,Hid (F.1.length=x):=⟨_,hid rfl⟩
      rw [HFN.out]
      refine hK.out _ _ (HXW.out _ hbF) (fun hHeld=>?_)
      clear hK K
      try simp only [lay]
      rw [HFN.out] at howF
      refine' tkq 8 rfl ?_;try simp only [lay]
      have HELF:Hid (Els icl 1 wF (.slice FA fn FC) F.1):=hid (by exact howF.els eltIc (fun _ _=>trivial))
      have hrF:=(hbF'.block _ (lt_of_block hrA)).trans hrA
      have hstF:=storeAx_eq hrF HSZ.out (HAXS.out (.slice FA fn FC)) (axc_one (w:=wF) (a:=y) (by rw [HFR.out];exact HELF.out))
      have hg9:w9.heap.size≤gA:=by have:=hbd.size;have:=HGA.out;omega
      have hxG:Below w9.heap.size w9 (setAx wF gA (axc y (.slice FA fn FC))):=setAx_below hbF hg9
      refine call_on (i:=10) rfl (by kernel_rfl) (by rfl) (fun K hK=>?_)
      go_simp
      refine hK.out _ _ (HXW.out _ hxG) (fun hHeld=>?_)
      clear hK K
      try simp only [lay]
      refine wpAnyH_done (by kernel_rfl) ?_ _
      have HRX:=hid (setAx_same (C:=axc y (.slice FA fn FC)) hrF)
      have HBX:=hid (HB9.out.trans (hxG.mono HB9.out.size))
      have HRZ:=hid ((hxG.block _ (lt_of_block HR9.out)).trans HR9.out)
      have HGL:Hid (w.heap.size < gA):=hid (by have:=lt_of_block HR9.out;omega)
      have hsz:(setAx wF gA (axc y (.slice FA fn FC))).heap.size=wF.heap.size:=setAx_size _ _ _
      have HKEEP:Hid (∀ W:World,(∀ k,k < (setAx wF gA (axc y (.slice FA fn FC))).heap.size→k≠gA→k≠w.heap.size→W.heap[k]?=(setAx wF gA (axc y (.slice FA fn FC))).heap[k]?)→Els icl 1 W (.slice FA fn FC) F.1):=hid (fun W h=>by
       have hk:=howF.keep (w':=W) (fun k hk e=>by
        have h1:=(World.ownsRow.lt howF k e).1
        have h3:=HGL.out
        have hne:k≠gA:=by omega
        exact (h k (by rw [hsz];exact hk) hne (by omega)).trans (setAx_other wF _ hne))
       exact hk.els eltIc (fun _ _=>trivial))
      have HEX:=hid (HKEEP.out _ (fun _ _ _ _=>rfl))
      generalize HWX:(setAx wF gA (axc y (.slice FA fn FC)))=wX at *
      clear hHeld howF hbF hbF' hxG halD hstF hrF hrA hsA hbA HELF hsz hg9 HGA
      go_upto_region 15 with (fail)
      obtain ⟨YC,HYC⟩:∃ C:Array Value,Hid (axc y (.slice FA fn FC)=C):=⟨_,hid rfl⟩
      have HBXX:Hid (BoxX wX gA y (.slice FA fn FC)):=HRX
      have HTDX:Hid (∀ W,Below wX.heap.size wX W→Calls Tryz.prog 84 #[.agg YC] W fun e w'=>∃ x,e=.returned x∧Own W.heap.size w' x (taggedX y)∧Below W.heap.size W w'):=hid (fun W h=>by
       rw [← HYC.out]
       exact acTagged_any _ y W ⟨_,rfl,HYO.out,by rw [HFR.out];exact HEX.out.below h⟩ HMAY.out)
      obtain ⟨TG,HTG⟩:∃ l:List UInt8,Hid (taggedX y=l):=⟨_,hid rfl⟩
      have HTGL:Hid (TG.length≤1000000):=hid (by rw [← HTG.out];have:=taggedX_len HYO.out HMAY.out;omega)
      have HTAGX:Hid (tagX y=hl 32 (tagF b 2 TG)):=hid (by unfold tagX;rw [HTG.out];rw [show y.bo=b from by rw [HYE.out]])
      rw [HTG.out] at HTDX
      have HLX:Hid (∀ W,Below wX.heap.size wX W→W.cell? ⟨gA,0,none⟩=some (.int .i64 b)):=hid (fun W h=>by
       have:=(BoxX.below HBXX.out h HBXX.out.lt).ints.1
       rw [this,HYE.out])
      have hlX:loadAx (.pointer (some ⟨gA,0,none⟩)) wX=.ok (.value (.agg YC)) wX:=loadAx_row (by rw [← HYC.out];exact HRX.out) (by rw [← HYC.out];exact HAXS.out _)
      obtain ⟨tv,HTV⟩:∃ l:List UInt8,Hid (hl 32 (tagF b 2 TG)=l):=⟨_,hid rfl⟩
      have HTVL:Hid (tv.length=32):=hid (by rw [← HTV.out];exact hl_length _ _)
      have HKT:Hid (∀ v gp c W,Below wX.heap.size wX W→gp < W.heap.size→W.cell? ⟨gp,0,none⟩=some v→Byt W v TG→Calls Tryz.prog 83 #[.int .i64 b,.int .u8 2,.slice (some ⟨gp,0,none⟩) 1 c] W fun e w'=>e=.returned (.agg (hcells tv))∧Below W.heap.size W w'):=hid (fun v gp c W hb h1 h2 h3=>by
       have:=tag_hash b 2 v TG gp c W h1 h2 h3 HTGL.out (HKB.out W (HBX.out.trans (hb.mono HBX.out.size)))
       rw [HTV.out] at this
       exact this)
      go_wp2_with fail
      refine (HTDX.out wX (Below.refl _ _)).mono ?_
      rintro e wT ⟨vT,rfl,hoT,hbT⟩
      have hvT:=hoT.byt
      obtain ⟨TA,TC,rfl⟩:=hvT.shape
      have hbU:Below wX.heap.size wX (wT.alloc (.cells #[.slice TA TG.length TC] 33)):=hbT.alloc hbT.size _
      clear hlX
      go_wp2_with fail
      refine (HKT.out (.slice TA TG.length TC) wT.heap.size 1 (wT.alloc (.cells #[.slice TA TG.length TC] 33)) hbU (by simp) (by simp) (hvT.alloc _)).mono ?_
      rintro e wV ⟨rfl,hbV'⟩
      have hbV:=hbU.trans (hbV'.mono hbU.size)
      have HBXV:Hid (BoxX wV gA y (.slice FA fn FC)):=hid (BoxX.below HBXX.out hbV HBXX.out.lt)
      go_upto_region 16 with (refine wpList_store_xtg (h:=tv) (a:=y) (s:=.slice FA fn FC) rfl _ _ rfl rfl rfl HBXV.out HYO.out HTVL.out ?_;intro wY hgY hAY hsY)
      have HBV:=hid (HBX.out.trans (hbV.mono HBX.out.size))
      have HBY:Hid (Below w.heap.size w wY):=hid (below_into HBV.out (Nat.le_of_lt HGL.out) hgY HBV.out.size)
      have HRY:Hid (wY.heap[w.heap.size]?=some (.cells Z 52 (0,0))):=hid ((hgY.block _ (Nat.lt_of_lt_of_le (lt_of_block HRZ.out) hbV.size) (fun e=>by injection e with e;have:=HGL.out;omega)).trans ((hbV.block _ (lt_of_block HRZ.out)).trans HRZ.out))
      have HKY:Hid (∀ k,k < wX.heap.size→k≠gA→wY.heap[k]?=wX.heap[k]?):=hid (fun k hk hne=>(hgY.block _ (Nat.lt_of_lt_of_le hk hbV.size) (fun e=>hne (by injection e with e))).trans (hbV.block _ hk))
      have HEY:Hid (Els icl 1 wY (.slice FA fn FC) F.1):=hid (HKEEP.out wY (fun k hk hne _=>HKY.out k hk hne))
      obtain ⟨z,HZZ⟩:∃ z:AcM,Hid ({ y with tg:=tv }=z):=⟨_,hid rfl⟩
      rw [HZZ.out] at hAY
      have HZO:Hid z.Ok:=hid (by rw [← HZZ.out];exact ⟨HYO.out.pa,HTVL.out⟩)
      obtain ⟨ZC,HZC⟩:∃ C:Array Value,Hid (axc z (.slice FA fn FC)=C):=⟨_,hid rfl⟩
      have HZCS:Hid (ZC.size=68∧ZC.all (·.oneCell')=true):=hid (by rw [← HZC.out];exact ⟨axc_size _ HZO.out,axc_one (a:=z) (by rw [← HZZ.out];show Els icl 1 wY _ y.fr;rw [HFR.out];exact HEY.out)⟩)
      have lY:loadAx (.pointer (some ⟨gA,0,none⟩)) wY=.ok (.value (.agg ZC)) wY:=loadAx_row (by rw [← HZC.out];exact hAY) HZCS.out.1
      have sY:=storeAx_eq HRY.out HSZ.out HZCS.out.1 HZCS.out.2
      have HSS:=hid (setAx_same (C:=ZC) HRY.out)
      have HBF:=hid (setAx_below (C:=ZC) HBY.out (Nat.le_refl w.heap.size))
      have HEF:Hid (Els icl 1 (setAx wY w.heap.size ZC) (.slice FA fn FC) F.1):=hid (HKEEP.out _ (fun k hk hne hn2=>(setAx_other wY ZC hn2).trans (HKY.out k hk hne)))
      clear hAY hgY hsY
      go_wp2_with fail
      refine bodyPost_ret (results_xb rfl _ _ _ _ _ _ rfl rfl HSS.out HZCS.out.1) rfl ?_
      rw [← HZC.out] at HBF HEF ⊢
      rw [HTAGX.out,HTV.out,HZZ.out] at HM
      have HZFR:z.fr=F.1:=by rw [← HZZ.out];exact HFR.out
      exact mxPost_yes HM.out HZO.out (by rw [HZFR];exact HEF.out) HBF.out
end Go.Proofs.YtpdnnmabijmfbaaGreatDoor
