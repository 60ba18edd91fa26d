/-
  AcCodeRise AcCodeFits AcCodeTagged BkCodePut: what each of them says stands at its head.
-/
import Derived.Test.YtpdnnmabijmfbaaGreatDoorBs23
import Derived.Test.YtpdnnmabijmfbaaGreatDoorBs24
import Derived.Test.YtpdnnmabijmfbaaGreatDoorBs22
namespace Go.Proofs.YtpdnnmabijmfbaaGreatDoor
set_option maxRecDepth 20000
open Go.RowKit
def viewB (i:Int):Bool:=decide (1≤i∧i≤1099511627776)
theorem acViewed_any (i:Int) (w:World):Calls Tryz.prog 78 #[.int .i64 i] w fun e w'=>e=.returned (.bool (viewB i))∧w=w':=by
 by_cases h1:1≤i
 ·go_enter Tryz.func78,Tryz.ntmps78
  go_wp2
  go_ret
  exact ⟨ret_boolK (by unfold viewB;rw [Bool.eq_iff_iff];simp;omega),rfl⟩
 ·go_enter Tryz.func78,Tryz.ntmps78
  go_wp2
  go_ret
  exact ⟨ret_boolK (by unfold viewB;rw [eq_comm,decide_eq_false_iff_not];omega),rfl⟩
theorem acnum_any (v:Value) (l:List UInt8) (n:Int) (w:World) (hv:Byt w v l) (h0:0≤n) (h1:n < 9223372036854775808) (hs:l.length≤1099511627000):
  Calls Tryz.prog 131 #[v,.int .i64 n] w fun e w'=>∃ x,e=.returned x∧Own w.heap.size w' x (l ++ dg n.toNat)∧Below w.heap.size w w':=by
 have hw:IntKind.u64.wrap n=n:=wrap_u64 _ (by omega) (by omega)
 go_enter Tryz.func131,Tryz.ntmps131
 go_wp2_with fail
 refine (num_any v l n w hv h0 (by omega) hs).mono ?_
 rintro e w1 ⟨v1,rfl,ho1,hb1⟩
 go_wp2_with fail
 go_ret
 exact ⟨_,rfl,ho1,hb1⟩
def lastN:Int→List Int→Int
 | last,[]=>last
 | _,s :: r=>lastN s r
theorem lastN_snoc (s:Int):∀ (l:List Int) (last:Int),lastN last (l ++ [s])=s
 | [],_=>rfl
 | x :: r,_=>lastN_snoc s r x
theorem risesI_snoc (top:Int) (s:Int):∀ (l:List Int) (last:Int),risesI top last (l ++ [s])=(risesI top last l && (decide (lastN last l < s) && decide (s≤top)))
 | [],last=>by
  show ((decide (last < s) && decide (s≤top)) && true)=(true && (decide (last < s) && decide (s≤top)))
  rw [Bool.and_true,Bool.true_and]
 | x :: r,last=>by
  have:=risesI_snoc top s r x
  simp only [List.cons_append,risesI,lastN,this,Bool.and_assoc]
  rfl
theorem risesI_pre (top:Int) (m:List Int):∀ (l:List Int) (last:Int),risesI top last (l ++ m)=true→risesI top last l=true
 | [],_,_=>rfl
 | x :: r,last,h=>by
  simp only [List.cons_append,risesI,Bool.and_eq_true] at h ⊢
  exact ⟨h.1,risesI_pre top m r x h.2⟩
theorem lastN_ge (top:Int):∀ (l:List Int) (last:Int),risesI top last l=true→last≤lastN last l
 | [],_,_=>Int.le_refl _
 | x :: r,last,h=>by
  simp only [risesI,Bool.and_eq_true,decide_eq_true_eq] at h
  have:=lastN_ge top r x h.2
  show last≤lastN x r
  omega
theorem lastN_pos {top:Int} {l:List Int} (h:risesI top 0 l=true):decide (0 < lastN 0 l)=decide (0 < l.length):=by
 cases l with
 | nil=>rfl
 | cons x r=>
  simp only [risesI,Bool.and_eq_true,decide_eq_true_eq] at h
  have:=lastN_ge top r x h.2
  have h1:0 < lastN 0 (x :: r):=by
   show 0 < lastN x r
   omega
  rw [decide_eq_true h1]
  exact (decide_eq_true (by simp)).symm
theorem risesN_more {l:List Int} {i:Nat} (h:i < l.length) (hr:risesI 21 0 (l.take i)=true) (h1:¬ l[i]≤lastN 0 (l.take i)) (h2:nodeB l[i]=true):risesI 21 0 (l.take (i + 1))=true:=by
 unfold nodeB at h2
 rw [decide_eq_true_eq] at h2
 rw [List.take_succ_eq_append_getElem h,risesI_snoc,hr,decide_eq_true (by omega),decide_eq_true (by omega)]
 rfl
theorem risesN_not {l:List Int} {i:Nat} (h:i < l.length) (hr:risesI 21 0 (l.take i)=true) (h1:l[i]≤lastN 0 (l.take i)∨nodeB l[i]=false):risesI 21 0 l=false:=by
 cases hq:risesI 21 0 l with
 | false=>rfl
 | true=>
  exfalso
  rw [← List.take_append_drop (i + 1) l] at hq
  have:=risesI_pre _ _ _ _ hq
  rw [List.take_succ_eq_append_getElem h,risesI_snoc] at this
  simp only [Bool.and_eq_true,decide_eq_true_eq] at this
  have h0:=lastN_ge _ _ _ hr
  rcases h1 with h1 | h1
  ·omega
  ·unfold nodeB at h1
   rw [decide_eq_false_iff_not] at h1
   omega
set_option maxHeartbeats 1600000 in
theorem acRise_any (v:Value) (l:List Int) (w0:World) (hv:Els icl 1 w0 v l) (hl:l.length≤1000):
  Calls Tryz.prog 192 #[v] w0 fun e w'=>e=.returned (.bool (decide (0 < l.length) && risesI 21 0 l))∧Below w0.heap.size w0 w':=by
 obtain ⟨A,c,rfl⟩:=hv.shape
 obtain ⟨n,HN⟩:∃ n:Nat,Hid (l.length=n):=⟨_,hid rfl⟩
 rw [HN.out] at hv hl ⊢
 have HT:=hid hv
 obtain ⟨ans,HAN⟩:∃ q:Bool,Hid ((decide (0 < n) && risesI 21 0 l)=q):=⟨_,hid rfl⟩
 rw [HAN.out]
 clear hv
 go_enter Tryz.func192,Tryz.ntmps192
 go_wp2_with fail
 go_loopw [3,8] (fun la si wr=>∃ i:Nat,i≤n∧si=.int .i64 i∧la=.int .i64 (lastN 0 (l.take i))∧Hid (risesI 21 0 (l.take i)=true)∧Below w0.heap.size w0 wr) (fun _ si _=>n - (intOf si).toNat)
 case atStart=>exact ⟨0,Nat.zero_le _,rfl,rfl,hid rfl,Below.refl _ _⟩
 case round=>
  obtain ⟨i,hi,rfl,rfl,HR,hbr⟩:=hrel
  by_cases hlt:i < n
  ·have hil:i < l.length:=by rw [HN.out];exact hlt
   obtain ⟨b,o,rfl,hg,hcl⟩:=(HT.out.below hbr).at_.2.2.2 (by omega)
   have hI:(i:Int) < (n:Int):=by omega
   have l1:wr.cell? ⟨b,o + i,none⟩=some (.int .i64 l[i]):=by
    have:=hcl i hil 0 _ rfl
    rwa [Nat.mul_one,Nat.add_zero] at this
   have HMORE:Hid (¬ l[i]≤lastN 0 (l.take i)→nodeB l[i]=true→risesI 21 0 (l.take (i + 1))=true):=hid (risesN_more hil HR.out)
   have HNOT:Hid ((l[i]≤lastN 0 (l.take i)∨nodeB l[i]=false)→ans=false):=hid (fun h=>by rw [← HAN.out,risesN_not hil HR.out h,Bool.and_false])
   have HLAST:Hid (lastN 0 (l.take (i + 1))=l[i]):=hid (by rw [List.take_succ_eq_append_getElem hil,lastN_snoc])
   obtain ⟨bo,HBO⟩:∃ x:Int,Hid (l[i]=x):=⟨_,hid rfl⟩
   obtain ⟨la,HLA⟩:∃ x:Int,Hid (lastN 0 (l.take i)=x):=⟨_,hid rfl⟩
   rw [HBO.out] at HMORE HNOT HLAST l1
   rw [HLA.out] at HMORE HNOT ⊢
   clear hcl hg
   by_cases h1:bo≤la
   ·obtain rfl:ans=false:=HNOT.out (.inl h1)
    go_wp2_with fail
    go_ret
    exact ⟨rfl,hbr⟩
   ·obtain ⟨nb,HNB⟩:∃ q:Bool,Hid (nodeB bo=q):=⟨_,hid rfl⟩
    have HCN:=hid (fun W=>node_any bo W)
    rw [HNB.out] at HCN HMORE HNOT
    have HH1:=hid h1
    go_wp2_with fail
    refine (HCN.out wr).mono ?_
    rintro e w2 ⟨rfl,rfl⟩
    cases nb with
    | false=>
     obtain rfl:ans=false:=HNOT.out (.inr rfl)
     go_wp2_with fail
     go_ret
     exact ⟨rfl,hbr⟩
    | true=>
     have HM2:=hid (HMORE.out HH1.out rfl)
     clear HMORE HNOT
     go_wp2_with fail
     go_roundw
     case rel=>exact ⟨i + 1,by omega,by go_num,by rw [HLAST.out],hid HM2.out,hbr⟩
     case measure=>simp [intOf];omega
  ·obtain rfl:i=n:=by omega
   have htk:l.take i=l:=List.take_of_length_le (by rw [HN.out];exact Nat.le_refl _)
   have HANS:Hid (ans=decide (0 < lastN 0 (l.take i))):=hid (by
    have h:=HR.out
    rw [htk] at h ⊢
    rw [← HAN.out,h,Bool.and_true,lastN_pos h,HN.out])
   obtain ⟨la,HLA⟩:∃ x:Int,Hid (lastN 0 (l.take i)=x):=⟨_,hid rfl⟩
   rw [HLA.out] at HANS ⊢
   clear htk
   by_cases h1:0 < la
   ·obtain rfl:ans=true:=by rw [HANS.out,decide_eq_true h1]
    go_wp2_with fail
    go_ret
    exact ⟨rfl,hbr⟩
   ·obtain rfl:ans=false:=by rw [HANS.out,decide_eq_false h1]
    go_wp2_with fail
    go_ret
    exact ⟨rfl,hbr⟩
end Go.Proofs.YtpdnnmabijmfbaaGreatDoor
namespace Go.Proofs.YtpdnnmabijmfbaaGreatDoor
set_option maxRecDepth 20000
open Go.RowKit
set_option maxHeartbeats 1600000 in
theorem acFits_any (v:Value) (a:AcM) (w:World) (hv:AcV w v a) (hl:a.fr.length≤1000):
  Calls Tryz.prog 163 #[v] w fun e w'=>e=.returned (.bool (mayX a))∧Below w.heap.size w w':=by
 obtain ⟨s,rfl,ho,ht⟩:=hv
 have hb0:Below w.heap.size w (w.alloc (.cells (axc a s) 52)):=(Below.refl _ _).alloc (Nat.le_refl _) _
 have hX:=BoxX.new w a s
 obtain ⟨A,k,rfl⟩:=ht.shape
 have HT:=hid (fun W (h:Below w.heap.size w W)=>ht.below h)
 have HLL:=hid hl
 obtain ⟨L,HL⟩:∃ n:Nat,Hid (a.fr.length=n):=⟨_,hid rfl⟩
 rw [HL.out] at hX hb0 HT ⊢
 obtain ⟨ans,HAN⟩:∃ q:Bool,Hid (mayX a=q):=⟨_,hid rfl⟩
 obtain ⟨nb,HNB⟩:∃ q:Bool,Hid (nodeB a.bo=q):=⟨_,hid rfl⟩
 obtain ⟨vb,HVB⟩:∃ q:Bool,Hid (viewB a.vi=q):=⟨_,hid rfl⟩
 obtain ⟨r,HR⟩:∃ q:Bool,Hid ((decide (0 < a.fr.length) && risesI 21 0 a.fr)=q):=⟨_,hid rfl⟩
 have HMA:Hid (ans=(nb && (vb && (decide (0≤a.pv∧a.pv < a.vi) && r)))):=hid (by
  rw [← HAN.out,← HNB.out,← HVB.out,← HR.out]
  unfold mayX nodeB viewB
  rw [Bool.eq_iff_iff]
  simp only [Bool.and_eq_true,decide_eq_true_eq]
  constructor
  ·rintro ⟨h,h1,h2,h3,h4,h5,h6,h7⟩
   exact ⟨⟨h1,h2⟩,⟨h3,h4⟩,⟨h5,h6⟩,by omega,h⟩
  ·rintro ⟨⟨h1,h2⟩,⟨h3,h4⟩,⟨h5,h6⟩,h7,h⟩
   exact ⟨h,h1,h2,h3,h4,h5,h6,by omega⟩)
 rw [HAN.out]
 have HCN:Hid (∀ W,Calls Tryz.prog 29 #[.int .i64 a.bo] W fun e w'=>e=.returned (.bool nb)∧W=w'):=hid (fun W=>by have:=node_any a.bo W;rw [HNB.out] at this;exact this)
 have HCV:Hid (∀ W,Calls Tryz.prog 78 #[.int .i64 a.vi] W fun e w'=>e=.returned (.bool vb)∧W=w'):=hid (fun W=>by have:=acViewed_any a.vi W;rw [HVB.out] at this;exact this)
 have HRI:Hid (∀ W,Below w.heap.size w W→Calls Tryz.prog 192 #[.slice A L k] W fun e w'=>e=.returned (.bool r)∧Below W.heap.size W w'):=hid (fun W h=>by
  have:=acRise_any (.slice A L k) a.fr W (HT.out W h) HLL.out
  rw [HR.out] at this
  exact this)
 have HO:=hid ho
 clear ho ht hl
 go_enter Tryz.func163,Tryz.ntmps163
 go_upto_region 1 with (fail)
 generalize (w.alloc (.cells (axc a (.slice A L k)) 52))=w0 at *
 obtain ⟨k0,k1,k2⟩:=hX.ints
 have k3:=hX.fr HO.out
 clear hX
 obtain ⟨bo,HBO⟩:∃ x:Int,Hid (a.bo=x):=⟨_,hid rfl⟩
 obtain ⟨vi,HVI⟩:∃ x:Int,Hid (a.vi=x):=⟨_,hid rfl⟩
 obtain ⟨pv,HPV⟩:∃ x:Int,Hid (a.pv=x):=⟨_,hid rfl⟩
 rw [HBO.out] at k0 HCN
 rw [HVI.out] at k1 HCV HMA
 rw [HPV.out] at k2 HMA
 go_wp2_with fail
 refine (HCN.out w0).mono ?_
 rintro e w1 ⟨rfl,rfl⟩
 cases nb with
 | false=>
  obtain rfl:ans=false:=HMA.out
  go_wp2_with fail
  go_ret
  exact ⟨rfl,hb0⟩
 | true=>
  go_wp2_with fail
  refine (HCV.out w0).mono ?_
  rintro e w1 ⟨rfl,rfl⟩
  cases vb with
  | false=>
   obtain rfl:ans=false:=HMA.out
   go_wp2_with fail
   go_ret
   exact ⟨rfl,hb0⟩
  | true=>
   by_cases h1:pv < 0
   ·obtain rfl:ans=false:=by rw [HMA.out,decide_eq_false (by omega)];rfl
    go_wp2_with fail
    go_ret
    exact ⟨rfl,hb0⟩
   by_cases h2:vi≤pv
   ·obtain rfl:ans=false:=by rw [HMA.out,decide_eq_false (by omega)];rfl
    go_wp2_with fail
    go_ret
    exact ⟨rfl,hb0⟩
   obtain rfl:ans=r:=by rw [HMA.out,decide_eq_true (by omega)];rfl
   go_wp2_with fail
   refine (HRI.out w0 hb0).mono ?_
   rintro e w4 ⟨rfl,hb4⟩
   have hB4:=hb0.trans (hb4.mono hb0.size)
   clear k0 k1 k2 k3
   go_wp2_with fail
   go_ret
   exact ⟨rfl,hB4⟩
end Go.Proofs.YtpdnnmabijmfbaaGreatDoor
namespace Go.Proofs.YtpdnnmabijmfbaaGreatDoor
set_option maxRecDepth 20000
open Go.RowKit
attribute [local go_sem ↓] exec_load_hash
set_option maxHeartbeats 6400000 in
theorem acTagged_any (v:Value) (a:AcM) (w:World) (hv:AcV w v a) (hm:mayX a=true):
  Calls Tryz.prog 84 #[v] w fun e w'=>∃ x,e=.returned x∧Own w.heap.size w' x (taggedX a)∧Below w.heap.size w w':=by
 obtain ⟨s,rfl,ho,ht⟩:=hv
 obtain ⟨_,h1,h2,h3,h4,h5,h6,h7⟩:=mayX_iff.1 hm
 obtain ⟨hfr,hl21⟩:=mayX_fr hm
 have HFR:=hid hfr
 have hb0:Below w.heap.size w (w.alloc (.cells (axc a s) 52)):=(Below.refl _ _).alloc (Nat.le_refl _) _
 have hX:=BoxX.new w a s
 have ht0:=ht.below hb0
 obtain ⟨A,k,rfl⟩:=ht.shape
 obtain ⟨l,HFL⟩:∃ l:List Int,Hid (a.fr=l):=⟨_,hid rfl⟩
 have HO2:Hid (taggedX a=dg a.vi.toNat ++ (dg a.pv.toNat ++ (a.pa ++ (dg l.length ++ frB l)))):=hid (by rw [← HFL.out];rfl)
 rw [HFL.out] at hX hb0 ht0 hl21 HFR ⊢
 obtain ⟨L,HL⟩:∃ n:Nat,Hid (l.length=n):=⟨_,hid rfl⟩
 rw [HL.out] at hX hb0 ht0 hl21 HO2 ⊢
 obtain ⟨C,HC⟩:∃ C:Array Value,Hid (axc a (.slice A L k)=C):=⟨_,hid rfl⟩
 obtain ⟨O,HO⟩:∃ O:List UInt8,Hid (taggedX a=O):=⟨_,hid rfl⟩
 rw [HC.out] at hX hb0 ht0 ⊢
 rw [HO.out] at HO2 ⊢
 have HL21:=hid hl21
 have HOK:=hid ho
 obtain ⟨vn,HVV⟩:∃ v:Nat,Hid (a.vi=(v:Int)):=⟨a.vi.toNat,hid (by omega)⟩
 obtain ⟨qn,HQQ⟩:∃ v:Nat,Hid (a.pv=(v:Int)):=⟨a.pv.toNat,hid (by omega)⟩
 rw [HVV.out,HQQ.out] at HO2
 simp only [Int.toNat_natCast] at HO2
 have HB:Hid (vn < 9223372036854775808∧qn < 9223372036854775808):=hid (by have:=HVV.out;have:=HQQ.out;omega)
 have HLV:=hid (dg_len10 (n:=vn) (by have:=HVV.out;omega))
 have HLQ:=hid (dg_len10 (n:=qn) (by have:=HQQ.out;omega))
 have HLN:=hid (dg_len10 (n:=L) (by omega))
 have HHL:=hid ho.pa
 have HLD:Hid (∀ W:World,W.heap[w.heap.size]?=some (.cells C 52 (0,0))→W.cell? ⟨w.heap.size,1,none⟩=some (.int .i64 (vn:Int))∧W.cell? ⟨w.heap.size,2,none⟩=some (.int .i64 (qn:Int))∧loadH (.pointer (some ⟨w.heap.size,3,none⟩)) W=.ok (.value (.agg (hcells a.pa))) W∧W.cell? ⟨w.heap.size,35,none⟩=some (.slice A L k)):=hid (fun W h=>by
  rw [← HC.out] at h
  have hB:BoxX W w.heap.size a (.slice A L k):=h
  rw [← HVV.out,← HQQ.out]
  exact ⟨hB.ints.2.1,hB.ints.2.2,loadH_mid hB.pa HOK.out.pa,hB.fr HOK.out⟩)
 have hr0:(w.alloc (.cells C 52)).heap[w.heap.size]?=some (.cells C 52 (0,0)):=heap_alloc_new w _
 clear ho ht hm hl21 hfr h1 h2 h3 h4 h5 h6 h7 HO HC hX
 go_enter Tryz.func84,Tryz.ntmps84
 go_upto_region 1 with (fail)
 generalize (w.alloc (.cells C 52))=w0 at *
 have hlr:=lt_of_block hr0
 have HX:=hid (fun W (h:Below w0.heap.size w0 W)=>HLD.out W ((h.block _ hlr).trans hr0))
 have HTX:=hid (fun W (h:Below w0.heap.size w0 W)=>ht0.below h)
 have HB0:=hid hb0
 clear hr0 hlr ht0 hb0
 have d1:=(HX.out w0 (Below.refl _ _)).1
 go_wp2_with fail
 refine (acnum_any _ [] (vn:Int) w0 (Byt.nil _) (by omega) (by have:=HB.out;omega) (by decide)).mono ?_
 rintro e w1 ⟨v1,rfl,ho1,hb1⟩
 rw [Int.toNat_natCast,List.nil_append] at ho1
 have d2:=(HX.out w1 hb1).2.1
 clear d1
 go_wp2_with fail
 refine (acnum_any _ _ (qn:Int) w1 ho1.byt (by omega) (by have:=HB.out;omega) (by have:=HLV.out;omega)).mono ?_
 rintro e w2 ⟨v2,rfl,ho2,hb2'⟩
 have hb2:=hb1.trans (hb2'.mono hb1.size)
 rw [Int.toNat_natCast] at ho2
 have d4:=(HX.out w2 hb2).2.2.1
 clear d2 hb2'
 go_wp2_with fail
 refine (hash_any _ _ a.pa w2 ho2.byt (by simp only [List.length_append];have:=HLV.out;have:=HLQ.out;omega) HHL.out).mono ?_
 rintro e w4 ⟨v4,rfl,ho4,hb4'⟩
 have hb4:=hb2.trans (hb4'.mono hb2.size)
 have d7:=(HX.out w4 hb4).2.2.2
 clear d4 hb4'
 go_wp2_with fail
 refine (acnum_any _ _ (L:Int) w4 ho4.byt (by omega) (by have:=HL21.out;omega) (by simp only [List.length_append];have:=HLV.out;have:=HLQ.out;have:=HHL.out;omega)).mono ?_
 rintro e w7 ⟨v7,rfl,ho7,hb7'⟩
 have hb7:=hb4.trans (hb7'.mono hb4.size)
 rw [Int.toNat_natCast] at ho7
 have d8:=(HX.out w7 hb7).2.2.2
 have HZB:=hid hb4.size
 clear d7 hb7' ho1 ho2 ho4 hb1 hb2 hb4
 obtain ⟨P,HP⟩:∃ P:List UInt8,Hid (dg vn ++ dg qn ++ a.pa ++ dg L=P):=⟨_,hid rfl⟩
 have HPL:Hid (P.length≤150):=hid (by rw [← HP.out];simp only [List.length_append];have:=HLV.out;have:=HLQ.out;have:=HLN.out;have:=HHL.out;omega)
 rw [HP.out] at ho7
 have ho7':=ho7.more HZB.out
 clear ho7
 go_wp2_with fail
 clear d8
 go_loopw [3,25] (fun out si wr=>∃ i:Nat,i≤L∧si=.int .i64 i∧Own w0.heap.size wr out (P ++ frB (l.take i))∧Below w0.heap.size w0 wr) (fun _ si _=>L - (intOf si).toNat)
 case atStart=>exact ⟨0,Nat.zero_le _,rfl,by rw [List.take_zero];show Own _ _ _ (P ++ []);rw [List.append_nil];exact ho7',hb7⟩
 case round=>
  obtain ⟨i,hi,rfl,hown,hB⟩:=hrel
  clear ho7' hb7
  by_cases hlt:i < L
  ·have hil:i < l.length:=by rw [HL.out];exact hlt
   obtain ⟨g,o,rfl,hg,hcl⟩:=(HTX.out wr hB).at_.2.2.2 (by omega)
   have hsi:=HFR.out _ (List.getElem_mem hil)
   have HNEW:=hid (frB_snoc l i hil)
   have HFL:Hid ((frB (l.take i)).length≤21):=hid (by
    rw [frB_len _ (fun x hx=>HFR.out x (List.mem_of_mem_take hx)),List.length_take]
    have:=HL21.out
    omega)
   have l1:wr.cell? ⟨g,o + i,none⟩=some (.int .i64 l[i]):=by
    have:=hcl i hil 0 _ rfl
    rwa [Nat.mul_one,Nat.add_zero] at this
   obtain ⟨n,HNN⟩:∃ n:Nat,Hid (l[i]=(n:Int)):=⟨(l[i]).toNat,hid (by omega)⟩
   have HN21:Hid (n≤21):=hid (by have:=HNN.out;omega)
   have HNL:=hid (dg_len10 (n:=n) (by have:=HN21.out;omega))
   rw [HNN.out] at l1 HNEW
   rw [Int.toNat_natCast] at HNEW
   obtain ⟨Q,HQ⟩:∃ Q:List UInt8,Hid (P ++ frB (l.take i)=Q):=⟨_,hid rfl⟩
   have HQL:Hid (Q.length≤1000):=hid (by rw [← HQ.out,List.length_append];have:=HPL.out;have:=HFL.out;omega)
   rw [HQ.out] at hown
   have hI:(i:Int) < (L:Int):=by omega
   obtain ⟨QA,QC,e⟩:=hown.byt.shape
   obtain ⟨qq,HQQL⟩:∃ n:Nat,Hid (Q.length=n):=⟨_,hid rfl⟩
   rw [HQQL.out] at e
   subst e
   have HLT:=hid hlt
   clear hcl hg hsi
   go_wp2_with fail
   refine (acnum_any _ Q (n:Int) wr hown.byt (by omega) (by have:=HN21.out;omega) (by have:=HQL.out;omega)).mono ?_
   rintro e w2 ⟨v2,rfl,ho2,hb2⟩
   rw [Int.toNat_natCast] at ho2
   have HO3:Hid (Own w0.heap.size w2 v2 (P ++ frB (l.take (i + 1)))):=hid (by
    rw [HNEW.out,← List.append_assoc,HQ.out]
    exact ho2.more hB.size)
   have HB3:=hid (hB.trans (hb2.mono hB.size))
   have HWI:Hid (wrap64 ((i:Int) + 1)=((i + 1:Nat):Int)):=hid (by have h1:=HLT.out;have h2:=HL21.out;unfold wrap64;omega)
   clear ho2 hb2 l1 hown
   go_wp2_with fail
   go_roundw
   case rel=>exact ⟨i + 1,by have:=HLT.out;omega,by first | rw [HWI.out] | go_num,HO3.out,HB3.out⟩
   case measure=>
    have h1:=HLT.out
    have hw:=HWI.out
    (try simp only [hw]);simp [intOf];omega
  ·obtain rfl:i=L:=by omega
   have htk:l.take i=l:=List.take_of_length_le (by rw [HL.out];exact Nat.le_refl _)
   rw [htk,← HP.out] at hown
   simp only [List.append_assoc] at hown
   rw [← HO2.out] at hown
   clear htk
   go_wp2_with fail
   go_ret
   exact ⟨_,rfl,hown.more HB0.out.size,HB0.out.trans (hB.mono HB0.out.size)⟩
end Go.Proofs.YtpdnnmabijmfbaaGreatDoor
namespace Go.Proofs.YtpdnnmabijmfbaaGreatDoor
set_option maxRecDepth 20000
open Go.RowKit
attribute [local go_sem ↓] exec_load_tx exec_load_hash
theorem arr4k:ArrT 216 3 4 (.int .i64 0):=⟨by kernel_rfl,by kernel_rfl,by kernel_rfl,by kernel_rfl,by kernel_rfl,by kernel_rfl,rfl⟩
theorem wpList_build_fourk {ops:Array Oper} {rest:List Oper} {o:Oper} {a:Act} {w:World} {Q:Exit→Act→World→Prop} (hgd:o.guard=none) {x0 x1 x2 x3:Operand} (ho:o.op=.build 216 #[(0,x0),(1,x1),(2,x2),(3,x3)])
  (v0 v1 v2 v3:Int) (h0:a.eval x0=.int .i64 v0) (h1:a.eval x1=.int .i64 v1) (h2:a.eval x2=.int .i64 v2) (h3:a.eval x3=.int .i64 v3)
  (h:wpList Tryz.prog ops Q rest (a.put o.dst (.agg #[.int .i64 v0,.int .i64 v1,.int .i64 v2,.int .i64 v3])) w):wpList Tryz.prog ops Q (o :: rest) a w:=
 wpList_plain hgd fun _ hK=>by
  have e:(Instr.build 216 #[(0,.int .i64 v0),(1,.int .i64 v1),(2,.int .i64 v2),(3,.int .i64 v3)]).run Tryz.prog w=.ok (.agg #[.int .i64 v0,.int .i64 v1,.int .i64 v2,.int .i64 v3]) w:=by
   have e2:fcells 4 (fun _=>(.int .i64 0:Value))=#[.int .i64 0,.int .i64 0,.int .i64 0,.int .i64 0]:=by kernel_rfl
   simp [Instr.build,Sem.run_bind,arr4k.run_zero,run_underlying arr4k.under,arr4k.run_esize,Instr.fill,Value.cells,e2]
  unfold Oper.wp execOp
  simp only [ho,Sem.run_bind,List.map_toArray,List.map_cons,List.map_nil,h0,h1,h2,h3,e,Sem.run_pure,Result.andThen_ok]
  exact hK _ _ h
theorem bk_four_index (M:List Nat) (p q o l:Nat) (hM:[p,q,o,l]=M) (i:Nat) (hi:i < M.length) (w:World):
  (Instr.index 216 (.agg #[.int .i64 (p:Int),.int .i64 (q:Int),.int .i64 (o:Int),.int .i64 (l:Int)]) (.int .i64 (i:Int))).run Tryz.prog w=.ok (.int .i64 (M[i]:Int)) w:=by
 subst hM
 have h4:i < 4:=hi
 have e2:(#[.int .i64 (p:Int),.int .i64 (q:Int),.int .i64 (o:Int),.int .i64 (l:Int)]:Array Value)=fcells 4 (fun j=>.int .i64 (([p,q,o,l].getD j 0:Nat):Int)):=rfl
 rw [e2,arr4k.run_index _ h4]
 simp [List.getD_eq_getElem?_getD,List.getElem?_eq_getElem hi]
theorem flat_dg (M:List Nat) (i:Nat) (h:i < M.length):((M.take (i + 1)).map dg).flatten=((M.take i).map dg).flatten ++ dg M[i]:=by
 rw [List.take_succ_eq_append_getElem h]
 simp only [List.map_append,List.map_cons,List.map_nil,List.flatten_append,List.flatten_cons,List.flatten_nil,List.append_nil]
theorem flat_dg_len (M:List Nat) (h:∀ m ∈ M,m≤1099511627776) (i:Nat):((M.take i).map dg).flatten.length≤M.length * 10:=by
 have:∀ M:List Nat,(∀ m ∈ M,m≤1099511627776)→(M.map dg).flatten.length≤M.length * 10:=by
  intro M
  induction M with
  | nil=>intro _;simp
  | cons m M ih=>
   intro h
   have h1:=dg_len10 (n:=m) (by have:=h m (by simp);omega)
   have h2:=ih (fun x hx=>h x (List.mem_cons_of_mem _ hx))
   simp only [List.map_cons,List.flatten_cons,List.length_append,List.length_cons]
   omega
 have h1:=this (M.take i) (fun m hm=>h m (List.mem_of_mem_take hm))
 have h2:(M.take i).length≤M.length:=by simp only [List.length_take];omega
 omega
set_option maxHeartbeats 3200000 in
theorem bkOwn_any (v:Value) (b:BkM) (w:World) (hv:BkV w v b) (hm:mayK b=true):
  Calls Tryz.prog 165 #[v] w fun e w'=>∃ x,e=.returned x∧Byt w' x (bytesK b)∧Below w.heap.size w w':=by
 obtain ⟨s,rfl,hp,ht⟩:=hv
 obtain ⟨hall,h1,h2,h3,h4,h5,h6,h7⟩:=mayK_all hm
 have HALL:=hid hall
 clear hall hm
 have hb0:Below w.heap.size w (w.alloc (.cells (bkc b s) 49)):=(Below.refl _ _).alloc (Nat.le_refl _) _
 have hA:=BoxK.new w b s
 have ht0:=ht.below hb0
 obtain ⟨A,c,rfl⟩:=ht.shape
 obtain ⟨L,HL⟩:∃ n:Nat,Hid (b.txs.length=n):=⟨_,hid rfl⟩
 rw [HL.out] at h7
 obtain ⟨C,HC⟩:∃ C:Array Value,Hid (bkc b (.slice A b.txs.length c)=C):=⟨_,hid rfl⟩
 obtain ⟨O,HO⟩:∃ O:List UInt8,Hid (bytesK b=O):=⟨_,hid rfl⟩
 rw [HO.out]
 rw [HC.out] at hA hb0 ht0 ⊢
 rw [HL.out] at hA ht0 HC
 obtain ⟨par,vi,he,bo,txs⟩:=b
 simp only at h1 h2 h3 h4 h5 h6 hp HL HALL ht0
 obtain ⟨p,rfl⟩:=nat_of (i:=vi) h1
 obtain ⟨q,rfl⟩:=nat_of (i:=he) h3
 obtain ⟨o,rfl⟩:=nat_of (i:=bo) h5
 obtain ⟨M,HM⟩:∃ M:List Nat,Hid ([p,q,o,L]=M):=⟨_,hid rfl⟩
 have HML:Hid (M.length=4):=hid (by rw [← HM.out];rfl)
 have HMB:Hid (∀ m ∈ M,m≤1099511627776):=hid (by
  rw [← HM.out]
  intro m hm
  simp only [List.mem_cons,List.not_mem_nil,or_false] at hm
  omega)
 have HIX:Hid (∀ i (h:i < M.length) w,(Instr.index 216 (.agg #[.int .i64 (p:Int),.int .i64 (q:Int),.int .i64 (o:Int),.int .i64 (L:Int)]) (.int .i64 (i:Int))).run Tryz.prog w=.ok (.int .i64 (M[i]:Int)) w):=hid (fun i h w=>bk_four_index M p q o L HM.out i h w)
 obtain ⟨D,HD⟩:∃ D:Array Value,Hid (#[.int .i64 (p:Int),.int .i64 (q:Int),.int .i64 (o:Int),.int .i64 (L:Int)]=D):=⟨_,hid rfl⟩
 rw [HD.out] at HIX
 have HFL:=hid (fun i=>flat_dg_len M HMB.out i)
 have HHA:=hid (fun w=>hash_any (.slice none 0 0) [] par w (Byt.nil w) (by simp) hp)
 have HPL:=hid hp
 clear ht
 go_enter Tryz.func165,Tryz.ntmps165
 go_upto_region 1 with (fail)
 generalize (w.alloc (.cells C 49))=w0 at *
 have hl0:=hA.lt
 have HX:Hid (∀ W:World,Below w0.heap.size w0 W→W.rangeAt w.heap.size 0 (bcells par)∧W.cell? ⟨w.heap.size,32,none⟩=some (.int .i64 (p:Int))∧W.cell? ⟨w.heap.size,33,none⟩=some (.int .i64 (q:Int))∧W.cell? ⟨w.heap.size,34,none⟩=some (.int .i64 (o:Int))∧W.cell? ⟨w.heap.size,35,none⟩=some (.slice A L c)∧Txs W (.slice A L c) txs):=hid (fun W h=>by
  have hW:=hA.below h hl0
  exact ⟨hW.range,(hW.cells HPL.out).1,(hW.cells HPL.out).2.1,(hW.cells HPL.out).2.2.1,(hW.cells HPL.out).2.2.2,ht0.below h⟩)
 have la:=loadH_mid hA.range hp
 obtain ⟨HA,HHH⟩:∃ C:Array Value,Hid (hcells par=C):=⟨_,hid rfl⟩
 rw [HHH.out] at la HHA
 have hs0:=hb0.size
 clear hA ht0 hp hl0
 go_wp2_with fail
 refine (HHA.out w0).mono ?_
 rintro e w1 ⟨x1,rfl,ho1,hb1⟩
 have hx1:=ho1.byt
 rw [List.nil_append] at hx1
 obtain ⟨_,k2,k3,k4,k5,_⟩:=HX.out w1 hb1
 clear la HHA ho1
 go_wp2_with (refine wpList_build_fourk rfl rfl _ _ _ _ rfl rfl rfl rfl ?_)
 rw [HD.out]
 clear k2 k3 k4 k5
 go_loopw [3,21] (fun out si wr=>∃ i:Nat,i≤4∧si=.int .i64 i∧Byt wr out (par ++ ((M.take i).map dg).flatten)∧Below w0.heap.size w0 wr) (fun _ si _=>4 - (intOf si).toNat)
 case atStart=>exact ⟨0,by omega,rfl,by rw [List.take_zero,List.map_nil,List.flatten_nil,List.append_nil];exact hx1,hb1⟩
 case round=>
  obtain ⟨i,hi,rfl,hown,hB⟩:=hrel
  by_cases hlt:i < 4
  ·have hih:i < M.length:=by rw [HML.out];exact hlt
   have i0:=HIX.out i hih
   have hmi:=HMB.out _ (List.getElem_mem hih)
   have HNEW:=hid (flat_dg M i hih)
   obtain ⟨m,HMI⟩:∃ m:Nat,Hid (M[i]=m):=⟨_,hid rfl⟩
   rw [HMI.out] at i0 hmi HNEW
   have hw1:IntKind.u64.wrap (m:Int)=(m:Int):=wrap_u64 _ (by omega) (by omega)
   have hI:(i:Int) < 4:=by omega
   have hlen:(par ++ ((M.take i).map dg).flatten).length≤1099511627000:=by rw [List.length_append];have:=HFL.out i;have:=HML.out;have:=HPL.out;omega
   have HNU:=hid (fun v w (h:Byt w v (par ++ ((M.take i).map dg).flatten))=>num_any v _ (m:Int) w h (by omega) (by omega) hlen)
   clear hlen hmi
   go_wp2_with fail
   refine (HNU.out _ wr hown).mono ?_
   rintro e w9 ⟨v9,rfl,ho9,hb9'⟩
   have hb9:=hB.trans (hb9'.mono hB.size)
   have hx9:=ho9.byt
   rw [Int.toNat_natCast,List.append_assoc,← HNEW.out] at hx9
   clear i0 hw1 ho9
   go_wp2_with fail
   go_roundw
   case rel=>exact ⟨i + 1,by omega,by go_num,hx9,hb9⟩
   case measure=>simp [intOf];omega
  ·have E4:=hid (show i=4 by omega)
   have hI:¬ (i:Int) < 4:=by omega
   rw [E4.out] at hown
   clear hx1 hb1
   obtain ⟨P,HP⟩:∃ P:List UInt8,Hid (par ++ ((M.take 4).map dg).flatten=P):=⟨_,hid rfl⟩
   have HPL2:Hid (P.length≤72):=hid (by rw [← HP.out,List.length_append];have:=HFL.out 4;have:=HML.out;have:=HPL.out;omega)
   rw [HP.out] at hown
   have HTK:Hid (∀ i,i≤L→((txs.take i).map bytesT).flatten.length≤i * 300):=hid (fun i hi=>by
    have:=flat_len (txs.take i) (fun t ht=>HALL.out t (List.mem_of_mem_take ht))
    rw [List.length_take,HL.out,Nat.min_eq_left hi] at this
    exact this)
   have HPT:Hid (∀ v l t W,Byt W v l→l.length≤1000000→lightT t→Calls Tryz.prog 196 #[v,txv t] W fun e w'=>∃ x,e=.returned x∧Byt w' x (putT l t)∧Below W.heap.size W w'):=hid (fun v l t W=>txPut_ok v l t W)
   have k5:=(HX.out wr hB).2.2.2.2.1
   go_wp2_with fail
   clear k5
   go_loopw [3,32] (fun out si w2=>∃ i:Nat,i≤L∧si=.int .i64 i∧Byt w2 out (P ++ ((txs.take i).map bytesT).flatten)∧Below w0.heap.size w0 w2) (fun _ si _=>L - (intOf si).toNat)
   case atStart=>exact ⟨0,by omega,rfl,by rw [List.take_zero,List.map_nil,List.flatten_nil,List.append_nil];exact hown,hB⟩
   case round=>
    clear hown hB
    obtain ⟨i,hi,rfl,hown,hB⟩:=hrel
    by_cases hlt:i < L
    ·have hih:i < txs.length:=by rw [HL.out];exact hlt
     obtain ⟨ba,oa,rfl,hba,hcla⟩:=(HX.out _ hB).2.2.2.2.2.at_.2.2.2 (by omega)
     have hI:(i:Int) < (L:Int):=by omega
     have l1:loadTx (.pointer (some ⟨ba,oa + i * 7,none⟩)) wr=.ok (.value (txv txs[i])) wr:=loadTx_mid (hcla i hih)
     have hmt:=HALL.out _ (List.getElem_mem hih)
     have hbl:=bytesT_len hmt
     have hlt6:lightT txs[i]:=by
      obtain ⟨_,_,h3⟩:=mayT_iff hmt
      unfold lightT
      rcases h3 with ⟨_,_,_,hk,hv⟩ | ⟨_,_,_,hk,hv⟩ | ⟨_,_,_,hk,hv⟩
      ·simp [hk,hv]
      ·exact ⟨by have:=keyOk_len hk;omega,by omega⟩
      ·exact ⟨by have:=keyOk_len hk;omega,by simp [hv]⟩
     have HNEW:Hid (putT (P ++ ((txs.take i).map bytesT).flatten) txs[i]=P ++ ((txs.take (i + 1)).map bytesT).flatten):=hid (by
      unfold putT
      rw [if_pos hmt,flat_snoc txs i hih,List.append_assoc])
     have hfl:=HTK.out i hi
     have hlen:(P ++ ((txs.take i).map bytesT).flatten).length≤1000000:=by rw [List.length_append];have:=HPL2.out;omega
     obtain ⟨t,HTT⟩:∃ t:TxM,Hid (txs[i]=t):=⟨_,hid rfl⟩
     rw [HTT.out] at l1 HNEW hlt6
     have HPU:=hid (fun v W (h:Byt W v (P ++ ((txs.take i).map bytesT).flatten))=>HPT.out v _ t W h hlen hlt6)
     unfold txv at l1 HPU
     have hbn:Below wr.heap.size wr (wr.alloc (.cells #[.int .i64 t.fr,.int .i64 t.no,.int .i64 t.ki,.int .i64 t.to,.int .i64 t.am,.string (sb t.key),.string (sb t.val)] 170)):=(Below.refl _ _).alloc (Nat.le_refl _) _
     have hrn:=heap_alloc_new wr (.cells #[.int .i64 t.fr,.int .i64 t.no,.int .i64 t.ki,.int .i64 t.to,.int .i64 t.am,.string (sb t.key),.string (sb t.val)] 170)
     clear hcla hbl hfl hmt hlen hlt6
     go_upto_region 10 with (fail)
     generalize (wr.alloc (.cells #[.int .i64 t.fr,.int .i64 t.no,.int .i64 t.ki,.int .i64 t.to,.int .i64 t.am,.string (sb t.key),.string (sb t.val)] 170))=w8 at *
     have l8:=loadTx_eq hrn rfl
     have hB8:=hB.trans (hbn.mono hB.size)
     have hown8:=hown.below hbn
     clear l1 hrn
     go_wp2_with fail
     refine (HPU.out _ w8 hown8).mono ?_
     rintro e w9 ⟨v9,rfl,ho9,hb9'⟩
     have hb9:=hB8.trans (hb9'.mono hB8.size)
     rw [HNEW.out] at ho9
     clear l8
     go_wp2_with fail
     go_roundw
     case rel=>exact ⟨i + 1,by omega,by go_num,ho9,hb9⟩
     case measure=>simp [intOf];omega
    ·obtain rfl:i=L:=by omega
     go_wp2
     go_ret
     rw [List.take_of_length_le (by rw [HL.out];exact Nat.le_refl _)] at hown
     refine ⟨_,rfl,?_,hb0.trans (hB.mono hs0)⟩
     have e:P ++ (txs.map bytesT).flatten=O:=by
      rw [← HO.out,← HP.out,← HM.out]
      unfold bytesK
      simp only [Int.toNat_natCast,HL.out,List.append_assoc,List.take_succ_cons,List.take_zero,List.map_cons,List.map_nil,List.flatten_cons,List.flatten_nil,List.append_nil]
     rw [e] at hown
     exact hown
attribute [local go_sem ↓] exec_load_bk
theorem later_iff {b:BkM}:(b.txs.all mayT && numsK b)=true ↔ mayK b=true∧b.vi≠0:=by
 constructor
 ·intro h
  have hm:mayK b=true:=by unfold mayK;rw [h,Bool.or_true]
  refine ⟨hm,?_⟩
  unfold numsK at h
  simp only [Bool.and_eq_true,decide_eq_true_eq] at h
  omega
 ·rintro ⟨hm,hn⟩
  rcases mayK_of hm with rfl | ⟨h0,h1,h2,h3,h4,h5,h6,h7⟩
  ·exact absurd rfl hn
  ·unfold numsK
   simp only [Bool.and_eq_true,decide_eq_true_eq]
   exact ⟨h0,⟨⟨⟨⟨⟨h1,h2⟩,h3⟩,h4⟩,h5⟩,h6⟩,h7⟩
set_option maxHeartbeats 3200000 in
theorem bkHash_ok:BkHashOk:=by
 intro v b w hv hlk hK
 have HV:=hid (fun W (h:Below w.heap.size w W)=>hv.below h)
 have HKB:=hid (fun W (h:Below w.heap.size w W)=>(show Kst 1 W from hK.below h))
 obtain ⟨s,rfl,hp,ht⟩:=hv
 obtain ⟨C,HC⟩:∃ C:Array Value,Hid (bkc b s=C):=⟨_,hid rfl⟩
 rw [HC.out] at HV ⊢
 obtain ⟨D,HD⟩:∃ D:Nat→Value,Hid ((fun j=>bcell (hashK b j))=D):=⟨_,hid rfl⟩
 have hD1:∀ i,i < 32→(D i).oneCell'=true:=by rw [← HD.out];intro i _;rfl
 rw [HD.out]
 have HSZ:Hid (C.size=36):=hid (by rw [← HC.out];exact bkc_size _ hp)
 have hr0:=heap1 w (.cells C 49) (.cells (fcells 32 fun _=>bcell 0) 38)
 have hH0:Blk ((w.alloc (.cells C 49)).alloc (.cells (fcells 32 fun _=>bcell 0) 38)) (w.heap.size + 1) 32 (fun _=>bcell 0) 38:=heap2 w (.cells C 49) _
 have hb0:Below w.heap.size w ((w.alloc (.cells C 49)).alloc (.cells (fcells 32 fun _=>bcell 0) 38)):=((Below.refl _ _).alloc (Nat.le_refl _) _).alloc (by simp) _
 obtain ⟨g,HG⟩:∃ q:Bool,Hid ((b.txs.all mayT && numsK b)=q):=⟨_,hid rfl⟩
 have HIL:Hid (∀ W,Below w.heap.size w W→Calls Tryz.prog 161 #[.agg C] W fun e w'=>e=.returned (.bool g)∧Below W.heap.size W w'):=hid (fun W h=>by
  have:=bkIsLater_ok _ b W (HV.out W h) hlk
  rw [HG.out] at this
  exact this)
 have HOW:Hid (mayK b=true→∀ W,Below w.heap.size w W→Calls Tryz.prog 165 #[.agg C] W fun e w'=>∃ x,e=.returned x∧Byt w' x (bytesK b)∧Below W.heap.size W w'):=hid (fun hm W h=>bkOwn_any _ b W (HV.out W h) hm)
 have HWO:=hid word_byt
 have HPP:=hid hp
 clear ht hK hlk
 go_enter Tryz.func119,Tryz.ntmps119
 go_upto_region 1 with (refine wpList_alloc_arr arrH rfl rfl ?_)
 generalize ((w.alloc (.cells C 49)).alloc (.cells (fcells 32 fun _=>bcell 0) 38))=w0 at *
 have hl0:=lt_of_block hr0
 have HLD:Hid (∀ W:World,Below w0.heap.size w0 W→loadK (.pointer (some ⟨w.heap.size,0,none⟩)) W=.ok (.value (.agg C)) W):=hid (fun W h=>loadK_row ((h.block _ hl0).trans hr0) HSZ.out)
 have l0:=HLD.out w0 (Below.refl _ _)
 clear hr0 hl0
 go_wp2_with fail
 refine (HIL.out w0 hb0).mono ?_
 rintro e w1 ⟨rfl,hb1⟩
 have hH1:=hH0.keep hb1
 have hB1:=hb0.trans (hb1.mono hb0.size)
 clear l0 hH0
 cases g with
 | false=>
  have HDM:Hid (D=fun _=>bcell 0):=hid (by
   rw [← HD.out]
   funext j
   unfold hashK
   rw [if_neg (fun h=>by have:=later_iff.2 h;rw [HG.out] at this;cases this)])
  go_wp2_with (first
   | (refine wpList_zero_arr arrH rfl rfl ?_)
   | (refine wpList_store_arr arrH rfl _ _ rfl rfl rfl hH1 (fun _ _=>rfl) ?_;intro wA hgA hAA hsA))
  refine bodyPost_ret (arrH.result rfl _ _ rfl hAA) rfl ⟨by rw [HDM.out],?_⟩
  exact below_into hB1 (Nat.le_succ _) hgA hB1.size
 | true=>
  obtain ⟨hmm,hnn⟩:=later_iff.1 HG.out
  have HMM:=hid hmm
  have HDM:Hid (D=fun j=>bcell (sumS (wordK ++ bytesK b) j)):=hid (by
   rw [← HD.out]
   funext j
   unfold hashK
   rw [if_pos ⟨hmm,hnn⟩])
  have HLEN:Hid ((bytesK b).length≤3000):=hid (bytesK_len HPP.out hmm)
  clear hmm hnn
  have how:=HWO.out w1
  have hb1w:Below w1.heap.size w1 (w1.alloc (.cells #[.int .u8 98,.int .u8 108,.int .u8 111,.int .u8 99,.int .u8 107] 5 (5,6))):=(Below.refl _ _).alloc (Nat.le_refl _) _
  have hBw:=hB1.trans (hb1w.mono hB1.size)
  have l2:=HLD.out _ (hb1.trans (hb1w.mono hb1.size))
  have hcv:=Go.Lib.run_convert_bytes_const (P:=Tryz.prog) w1 33 5 #[.int .u8 98,.int .u8 108,.int .u8 111,.int .u8 99,.int .u8 107] 5 5 under_bytes Tryz.underlying5
  go_wp2_with fail
  refine (HOW.out HMM.out _ hBw).mono ?_
  rintro e w2 ⟨x,rfl,hx2,hb2⟩
  have hb2':=hb1w.trans (hb2.mono hb1w.size)
  have hB2:=hB1.trans (hb2'.mono hB1.size)
  have hH2:=hH1.keep hb2'
  have how2:=how.below hb2
  obtain ⟨A2,c2,rfl⟩:=hx2.shape
  have hbA:Below w2.heap.size w2 (w2.alloc (.cells #[.slice (some ⟨w1.heap.size,0,none⟩) 5 5,.slice A2 (bytesK b).length c2] 33)):=(Below.refl _ _).alloc (Nat.le_refl _) _
  have hB2A:=hB2.trans (hbA.mono hB2.size)
  have hH2A:=hH2.keep hbA
  have HC2:=hid (of_two (.slice (some ⟨w1.heap.size,0,none⟩) 5 5) (.slice A2 (bytesK b).length c2) wordK (bytesK b) w2.heap.size 2 (w2.alloc (.cells #[.slice (some ⟨w1.heap.size,0,none⟩) 5 5,.slice A2 (bytesK b).length c2] 33)) (by simp) (by simp) (by simp) (how2.alloc _) (hx2.alloc _) (l:=wordK ++ bytesK b) rfl
   (by rw [List.length_append];have:=HLEN.out;simp only [wordK,List.length_cons,List.length_nil];omega) (HKB.out _ hB2A))
  clear l2 hcv how how2 hb1w hBw hH1
  go_wp2_with fail
  refine HC2.out.mono ?_
  rintro e w3 ⟨rfl,hb3⟩
  have hH3:=hH2A.keep hb3
  have hB3:=hB2A.trans (hb3.mono hB2A.size)
  clear hH2 hH2A hx2 HC2
  go_wp2_with (refine wpList_store_arr arrH rfl _ _ rfl rfl rfl hH3 (fun _ _=>rfl) ?_;intro wA hgA hAA hsA)
  refine bodyPost_ret (arrH.result rfl _ _ rfl hAA) rfl ⟨by rw [HDM.out],?_⟩
  exact below_into hB3 (Nat.le_succ _) hgA hB3.size
end Go.Proofs.YtpdnnmabijmfbaaGreatDoor
