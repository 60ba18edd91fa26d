/-
  DiskFirm: the theorem of what is safe: the law's walk. Printed with gendf.py.
-/
import Derived.Test.YtocnobllccdocaaDkFirmWords
namespace Go.Proofs.Ytocnobllccdocaa
set_option maxRecDepth 20000
open Go.RowKit
attribute [local go_sem ↓] exec_load_rd exec_alloc_rd exec_store_rd exec_load_ak exec_cutH
def DfRel (w W:World) (b k:Nat) (s5 s6:Value):Prop:=∃ D S A,DfSt w W b D S A s5 s6∧S=D.s∧A=D.s ++ D.m ++ D.h∧A.length≤200 * k
theorem df_meas {N k:Nat} (h:k < N) (hw:wrap64 ((k:Int) + 1)=(k:Int) + 1):N - (intOf (Value.int IntKind.i64 (wrap64 ((k:Int) + 1)))).toNat < N - (intOf (Value.int IntKind.i64 (k:Int))).toNat:=by
 rw [hw]
 simp only [intOf]
 omega
set_option maxHeartbeats 25600000 in
theorem lawDiskFirm_any (v:Value) (L:List ActDk) (w:World) (hv:Els akl 3 w v L) (ho:∀ x ∈ L,AkOk w x):
  Calls Try.prog 4 #[v] w fun e w'=>e=.returned (.bool true)∧Below w.heap.size w w':=by
 have HFIN:Hid (∀ W,Below w.heap.size w W→Calls Try.prog 7 #[] W fun e w'=>e=.returned (.bool true)∧Below w.heap.size w w'):=hid (fun W hb=>(dkAwake_any W).mono fun _ _ ⟨h1,h2⟩=>⟨h1,hb.trans (h2.mono hb.size)⟩)
 have HLT:=hid (light18_any v L w hv ho)
 obtain ⟨A,d,rfl⟩:=hv.shape
 have hr:=hv.at_.2.2.2
 have hmx:=hv.len
 unfold maxLen at hmx
 obtain ⟨N,HN⟩:∃ q:Nat,Hid (L.length=q):=⟨_,hid rfl⟩
 have HCEL:Hid (∀ k (h:k < L.length),∃ b off,A=some ⟨b,off,none⟩∧∀ W,Below w.heap.size w W→loadAk (.pointer (some ⟨b,off + k * 3,none⟩)) W=.ok (.value (.agg (akc L[k]))) W∧W.cell? ⟨b,off + k * 3,none⟩=some (.int .i64 L[k].act)∧W.cell? ⟨b,off + k * 3 + 1,none⟩=some (.slice L[k].bA L[k].bl.length L[k].bc)):=hid (fun k hk=>by
  obtain ⟨b,off,e,hb,hc⟩:=hr (by omega)
  refine ⟨b,off,e,fun W hW=>?_⟩
  have hcw:=range_kept (hc k hk) (hW.block b hb)
  exact ⟨loadAk_mid hcw,by have:=hcw 0 _ rfl;simpa using this,hcw 1 _ rfl⟩)
 have HOK:Hid (∀ k (h:k < L.length),AkOk w L[k]):=hid (fun k hk=>ho _ (List.getElem_mem hk))
 rw [HN.out] at HLT hmx ⊢
 have HMX:=hid hmx
 clear hv ho hr hmx
 go_enter Try.func4,Try.ntmps4
 go_wp2_with fail
 refine HLT.out.mono ?_
 rintro e w1 ⟨q,rfl,hq,rfl⟩
 have HREF:=hid (Below.refl w.heap.size w)
 cases q with
 | false=>
  clear hq
  go_wp2_with fail
  refine (HFIN.out w HREF.out).mono ?_
  rintro e w2 ⟨rfl,hb2⟩
  go_wp2_with fail
  go_ret
  exact ⟨rfl,hb2⟩
 | true=>
 have HLA:=hid (hq rfl)
 clear hq
 have HNW:=hid (dkNew_yes 1048576 w (by omega) (by omega))
 have HNG:=hid (newDk_good (room:=1048576) (by omega) (by omega))
 go_wp2_with fail
 refine HNW.out.mono ?_
 rintro e w1 ⟨rfl,h1,hb1⟩
 have HV1:=hid h1
 have HB1:=hid hb1
 clear h1 hb1 HNW
 obtain ⟨b,HBB⟩:∃ q:Nat,Hid (w.heap.size=q):=⟨_,hid rfl⟩
 have HBL:=hid (show w.heap.size≤b from by rw [HBB.out];exact Nat.le_refl _)
 rw [show (Value.pointer (some ⟨w.heap.size,0,none⟩))=Value.pointer (some ⟨b,0,none⟩) from by rw [HBB.out]]
 have HST:Hid (DfRel w ((w1.alloc (.cells #[] 5)).alloc (.cells #[] 5)) b 0 (.slice (some ⟨w1.heap.size,0,none⟩) 0 0) (.slice (some ⟨w1.heap.size + 1,0,none⟩) 0 0)):=hid (by
  have ha:Below w1.heap.size w1 (w1.alloc (.cells #[] 5)):=(Below.refl _ _).alloc (Nat.le_refl _) _
  have hsz:(w1.alloc (.cells #[] 5)).heap.size=w1.heap.size + 1:=by simp
  have hb:Below w1.heap.size w1 ((w1.alloc (.cells #[] 5)).alloc (.cells #[] 5)):=ha.alloc ha.size _
  have hE:=HV1.out.below hb
  have ho:=fresh0_own (w1.alloc (.cells #[] 5))
  rw [hsz] at ho
  rw [HBB.out] at hE
  exact ⟨newDk 1048576,[],[],⟨⟨_,_,by rw [HBB.out];exact hE,.inl rfl,fun k _ e=>(by cases e),.inl rfl⟩,⟨⟨_,0,rfl,Nat.le_refl _,Nat.zero_le _,RdB.nil _ _⟩,fun h=>absurd rfl h⟩,ho.more (Nat.le_trans HB1.out.size (Nat.le_succ _)),.inl rfl,HNG.out,rfl,HB1.out.trans (hb.mono HB1.out.size),HBL.out⟩,rfl,rfl,by simp⟩)
 clear HV1 HB1 HNG
 go_upto_region 8 with (fail)
 generalize ((w1.alloc (.cells #[] 5)).alloc (.cells #[] 5))=w3 at *
 obtain ⟨A50,HA50⟩:∃ q:Option Addr,Hid (some ⟨w1.heap.size,0,none⟩=q):=⟨_,hid rfl⟩
 obtain ⟨A60,HA60⟩:∃ q:Option Addr,Hid (some ⟨w1.heap.size + 1,0,none⟩=q):=⟨_,hid rfl⟩
 rw [HA50.out,HA60.out] at HST ⊢
 go_wp2_with fail
 go_loopw [5,6,7] (fun s5 s6 s7 wr=>∃ (k:Nat) (A5 A6:Option Addr) (n5 c5 n6 c6:Nat),k≤N∧s7=.int .i64 k∧s5=.slice A5 n5 c5∧s6=.slice A6 n6 c6∧Hid (DfRel w wr b k (.slice A5 n5 c5) (.slice A6 n6 c6))) (fun _ _ s7 _=>N - (intOf s7).toNat)
 case atStart=>exact ⟨0,_,_,_,_,_,_,Nat.zero_le _,rfl,rfl,rfl,HST⟩
 case round=>
  obtain ⟨k,A5,A6,n5,c5,n6,c6,hk,rfl,rfl,rfl,HREL⟩:=hrel
  by_cases hlt:k < N
  ·have hlt':(k:Int) < (N:Int):=by omega
   have hkL:k < L.length:=by rw [HN.out];exact hlt
   obtain ⟨b0,off,rfl,hld⟩:=HCEL.out k hkL
   have HKO:=hid (HOK.out k hkL)
   have HXL:=hid (HLA.out.2 k hkL)
   have HK60:=hid (show k < 60 from by have:=HLA.out.1;omega)
   obtain ⟨D,S,AL,hS,hSD,hAD,hAZ⟩:=HREL.out
   have HLD:=hid hld
   generalize L[k]=x at *
   obtain ⟨AX,HAX⟩:∃ C:Array Value,Hid (akc x=C):=⟨_,hid rfl⟩
   obtain ⟨act,HAC⟩:∃ q:Int,Hid (x.act=q):=⟨_,hid rfl⟩
   rw [HAX.out,HAC.out] at HLD
   have HHK:=hid (show k < N from hlt)
   have HWI:Hid (wrap64 ((k:Int) + 1)=(k:Int) + 1):=hid (by have:=HMX.out;unfold wrap64;omega)
   have HSS:=hid hS
   have HSD:=hid hSD
   have HAD:=hid hAD
   have HAZ:=hid hAZ
   have HXN:=hid (show x.n≤9223372036854775807 from by
    have h1:-9223372036854775808≤x.n∧x.n≤9223372036854775807:=by simpa [Lit.wf,IntKind.min,IntKind.max,IntKind.signed,IntKind.bits] using HKO.out.1
    exact h1.2)
   obtain ⟨ld,kd,kb⟩:=HLD.out wr hS.bel
   clear hld hkL HREL hlt hk hS hSD hAD hAZ ld
   by_cases d2:act=2
   ·clear kb
    subst d2
    go_wp2_with fail
    go_roundw
    case rel=>exact ⟨k + 1,_,_,_,_,_,_,HHK.out,by rw [HWI.out];rfl,rfl,rfl,hid ⟨D,S,AL,HSS.out,HSD.out,HAD.out,by have:=HAZ.out;omega⟩⟩
    case measure=>exact df_meas HHK.out HWI.out
   have HD2:=hid d2
   have HDE:Hid (Calls Try.prog 12 #[.pointer (some ⟨b,0,none⟩)] wr fun e w'=>e=.returned (.bool D.dead)∧wr=w'):=hid (by
    obtain ⟨va,vt,h1,_⟩:=HSS.out.v
    exact dkDead_any h1)
   obtain ⟨D',HDD⟩:∃ q:DkM,Hid (actD D act x.bl x.n=q):=⟨_,hid rfl⟩
   have HDG:=hid (show D'.Good from by rw [← HDD.out];exact actD_good HSS.out.g _ _ HXN.out)
   have HFS:=fun (A':List UInt8) (hA':A'=if act=0∧D.dead=false then AL ++ x.bl else AL)=>firm_step HSS.out.g HSS.out.rm HD2.out (l:=x.bl) (n:=x.n) HAD.out (by have:=HAZ.out;have:=HXL.out;have:=HK60.out;omega) hA'
   have HFS:=hid HFS
   rw [HDD.out] at HFS
   obtain ⟨dd,HDDD⟩:∃ q:Bool,Hid (D.dead=q):=⟨_,hid rfl⟩
   rw [HDDD.out] at HDE HFS
   have HRM:=hid (show D'.room=D.room from by
    cases h0:decide (act=0∧dd=false) with
    | true=>exact (HFS.out _ (by rw [if_pos (of_decide_eq_true h0)])).1
    | false=>exact (HFS.out _ (by rw [if_neg (of_decide_eq_false h0)])).1)
   have HDO:Hid (∀ W,DfSt w W b D S AL (.slice A5 n5 c5) (.slice A6 n6 c6)→Calls Try.prog 10 #[.pointer (some ⟨b,0,none⟩),.agg (rdc (newDk 1048576) (.slice none 0 0) (.slice none 0 0) (.slice none 0 0)),.agg AX] W fun e w'=>(∃ C' q,e=.returned (.tuple #[.agg C',.bool q]))∧DfSt w w' b D' S AL (.slice A5 n5 c5) (.slice A6 n6 c6)):=hid (fun W h=>by
    obtain ⟨va,vt,h1,h2,h3,h4⟩:=h.v
    have:=do18_any D (newDk 1048576) (rdc (newDk 1048576) (.slice none 0 0) (.slice none 0 0) (.slice none 0 0)) x W h1 h.g (newDk_good (by omega) (by omega)) ⟨_,_,_,rfl,Byo.nil _ _,Byo.nil _ _,Byo.nil _ _⟩ h.bel.size ⟨HKO.out.1,HKO.out.2.below h.bel⟩ HXL.out
    rw [HAX.out] at this
    refine this.mono ?_
    rintro e w' ⟨C',va',vt',q,rfl,_,hE,_,hT,hN,hF⟩
    rw [HAC.out,HDD.out] at hE hF
    exact ⟨⟨_,_,rfl⟩,h.done h1 h2 h3 h4 HDG.out HRM.out hE hT hN hF⟩)
   obtain ⟨C0,HC0⟩:∃ q:Array Value,Hid (rdc (newDk 1048576) (.slice none 0 0) (.slice none 0 0) (.slice none 0 0)=q):=⟨_,hid rfl⟩
   have HNR:=hid (fun W=>refNew18_any 1048576 W)
   rw [HC0.out] at HDO HNR
   clear HC0
   go_wp2_with fail
   refine HDE.out.mono ?_
   rintro e w5 ⟨rfl,rfl⟩
   clear kd kb
   go_upto_region 13 with (fail)
   have hdr:Below wr.heap.size wr wr.drew:=(Below.refl _ _).drew
   have HSd:=hid (HSS.out.below hdr)
   refine wp_region_held_drew (S:=fun W=>loadAk (.pointer (some ⟨b0,off + k * 3,none⟩)) W=.ok (.value (.agg AX)) W) (by kernel_rfl) (HLD.out _ HSd.out.bel).1 (fun hHeld=>?_)
   refine' tkq 0 rfl ?_;try simp only [lay]
   refine' tkq 2 rfl ?_;try simp only [lay]
   refine' tkq 3 rfl ?_;try simp only [lay]
   refine' tkq 4 rfl ?_;try simp only [lay]
   refine' tkq 5 rfl ?_;try simp only [lay]
   refine call_on (i:=1) rfl (by kernel_rfl) (by rfl) (fun K hK=>?_)
   go_simp
   refine (HNR.out _).mono ?_
   rintro e w6 ⟨rfl,hb6⟩
   have HSe:=hid (HSd.out.below hb6)
   clear hb6
   refine hK.out _ _ ((HLD.out _ HSe.out.bel).1) (fun hHeld=>?_)
   clear hK K
   try simp only [lay]
   refine call_on (i:=6) rfl (by kernel_rfl) (by rfl) (fun K hK=>?_)
   go_simp
   refine (HDO.out _ HSe.out).mono ?_
   rintro e w7 ⟨⟨C7,q7,rfl⟩,h7⟩
   have HS7:=hid h7
   clear h7
   refine hK.out _ _ ((HLD.out _ HS7.out.bel).1) (fun hHeld=>?_)
   clear hK K
   try simp only [lay]
   refine wpAnyH_done (by kernel_rfl) ?_ _
   clear hHeld hdr
   obtain ⟨_,kd,kb⟩:=HLD.out w7 HS7.out.bel
   by_cases d0:act=0
   ·subst d0
    clear d2
    cases dd with
    | true=>
     have HFF:=hid (HFS.out AL (by rw [if_neg (by simp)]))
     have HDA:Hid (Calls Try.prog 13 #[.pointer (some ⟨b,0,none⟩)] w7 fun e w'=>∃ v',e=.returned (.tuple #[v',.int .i64 (if D'.dead=true then 6 else 0)])∧Own w7.heap.size w' v' (if D'.dead=true then [] else D'.s ++ D'.m)∧Below w7.heap.size w7 w'):=hid (by
      obtain ⟨va,vt,h1,_⟩:=HS7.out.v
      exact dkAll_any h1 HDG.out)
     have HLN:Hid ((AL).length≤200 * (k + 1)):=hid (by have:=HAZ.out;omega)
     cases hd':D'.dead with
     | true=>
      have HDT:=hid hd'
      rw [hd'] at HDA
      simp only [if_true] at HDA
      clear hd'
      go_wp2_with fail
      refine HDA.out.mono ?_
      rintro e w8 ⟨v8,rfl,ho8,hb8⟩
      have HS8:=hid (HS7.out.below hb8)
      obtain ⟨A8,n8,c8,rfl⟩:∃ A n c,v8=.slice A n c:=by
       obtain ⟨A,c,e⟩:=ho8.byt.shape
       exact ⟨_,_,_,e⟩
      clear ho8 hb8
      go_wp2_with fail
      go_roundw
      case rel=>exact ⟨k + 1,_,_,_,_,_,_,HHK.out,by rw [HWI.out];rfl,rfl,rfl,hid ⟨D',S,AL,HS8.out,by rw [HSD.out];exact (HFF.out.2.2.1 HDT.out).symm,HFF.out.2.2.2.2.1 (fun e=>by have:=HFF.out.2.2.2.2.2 e;rw [HDT.out] at this;cases this),HLN.out⟩⟩
      case measure=>exact df_meas HHK.out HWI.out
     | false=>
      have HDT:=hid hd'
      rw [hd'] at HDA
      simp only [Bool.false_eq_true,if_false] at HDA
      clear hd'
      go_wp2_with fail
      refine HDA.out.mono ?_
      rintro e w8 ⟨v8,rfl,ho8,hb8⟩
      have HS8:=hid (HS7.out.below hb8)
      have HO8:=hid ho8
      have HB8:=hid hb8
      obtain ⟨n8,HN8⟩:∃ q:Nat,Hid ((D'.s ++ D'.m).length=q):=⟨_,hid rfl⟩
      obtain ⟨A8,c8,rfl⟩:∃ A c,v8=.slice A n8 c:=by
       obtain ⟨A,c,e⟩:=ho8.byt.shape
       exact ⟨_,_,by rw [← HN8.out];exact e⟩
      clear ho8 hb8
      obtain ⟨ns,HNS⟩:∃ q:Nat,Hid (D'.s.length=q):=⟨_,hid rfl⟩
      have HL5:Hid (n5=S.length):=hid HSS.out.y.byt.at_.1
      have HL6:Hid (n6=(AL).length):=hid HS7.out.o.byt.at_.1
      have HPS:Hid (S <+: D'.s):=hid (by rw [HSD.out];exact HFF.out.2.1)
      have HPL:Hid (D'.s ++ D'.m <+: AL):=hid HFF.out.2.2.2.1
      have i1:¬ (n8:Int) < (n5:Int):=by have h1:=HPS.out.length_le;have:=HL5.out;have h2:=HN8.out;rw [List.length_append] at h2;omega
      have i2:¬ (n6:Int) < (n8:Int):=by have h1:=HPL.out.length_le;have:=HL6.out;have h2:=HN8.out;omega
      have i3:¬ (ns:Int) < (n5:Int):=by have h1:=HPS.out.length_le;have:=HL5.out;have h2:=HNS.out;omega
      have i4:¬ (n8:Int) < (ns:Int):=by have h1:=HNS.out;have h2:=HN8.out;rw [List.length_append] at h2;omega
      obtain ⟨va1,hcut1,_,hown1⟩:=own_cut HO8.out n5 (by have h1:=HPS.out.length_le;have:=HL5.out;rw [List.length_append];omega)
      obtain ⟨B1,m1,e1,rfl⟩:∃ A n c,va1=.slice A n c:=by
       obtain ⟨A,c,e⟩:=(hown1 w8 HO8.out).byt.shape
       exact ⟨_,_,_,e⟩
      obtain ⟨va2,hcut2,_,hown2⟩:=own_cut HS8.out.o n8 (by have h1:=HPL.out.length_le;have:=HN8.out;omega)
      obtain ⟨B2,m2,e2,rfl⟩:∃ A n c,va2=.slice A n c:=by
       obtain ⟨A,c,e⟩:=(hown2 w8 HS8.out.o).byt.shape
       exact ⟨_,_,_,e⟩
      obtain ⟨va3,hcut3,hob3,hown3⟩:=own_cut HO8.out ns (by have:=HNS.out;rw [List.length_append];omega)
      obtain ⟨B3,m3,e3,rfl⟩:∃ A n c,va3=.slice A n c:=by
       obtain ⟨A,c,e⟩:=(hown3 w8 HO8.out).byt.shape
       exact ⟨_,_,_,e⟩
      have HSA1:Hid (∀ W,Below w8.heap.size w8 W→Calls Try.prog 14 #[.slice B1 m1 e1,.slice A5 n5 c5] W fun e w'=>e=.returned (.bool true)∧Below w8.heap.size w8 w'):=hid (fun W hb=>by
       have h1:=same_any (.slice B1 m1 e1) (.slice A5 n5 c5) _ S W ((hown1 w8 HO8.out).byt.below hb) (HS8.out.y.byt.below hb)
       have e:(D'.s ++ D'.m).take n5=S:=by
        rw [HL5.out]
        exact (List.prefix_iff_eq_take.1 (HPS.out.trans (List.prefix_append D'.s D'.m))).symm
       rw [e,decide_eq_true rfl] at h1
       exact h1.mono fun _ _ ⟨p,n,q⟩=>⟨p,by rw [q];exact below_drewN hb n⟩)
      have HSA2:Hid (∀ W,Below w8.heap.size w8 W→Calls Try.prog 14 #[.slice A8 n8 c8,.slice B2 m2 e2] W fun e w'=>e=.returned (.bool true)∧Below w8.heap.size w8 w'):=hid (fun W hb=>by
       have h1:=same_any (.slice A8 n8 c8) (.slice B2 m2 e2) _ _ W (HO8.out.byt.below hb) ((hown2 w8 HS8.out.o).byt.below hb)
       have e:(AL).take n8=D'.s ++ D'.m:=by
        rw [← HN8.out]
        exact (List.prefix_iff_eq_take.1 HPL.out).symm
       rw [e,decide_eq_true rfl] at h1
       exact h1.mono fun _ _ ⟨p,n,q⟩=>⟨p,by rw [q];exact below_drewN hb n⟩)
      have HSF:Hid (∀ W,Below w8.heap.size w8 W→Calls Try.prog 15 #[.pointer (some ⟨b,0,none⟩)] W fun e w'=>e=.returned (.int .i64 (ns:Int))∧W=w'):=hid (fun W hb=>by
       obtain ⟨va,vt,h1,_⟩:=(HS8.out.below hb).v
       have:=dkSafe_any h1
       rw [HNS.out] at this
       exact this)
      have HEND:Hid (∀ W,Below w8.heap.size w8 W→DfRel w W b (k + 1) (.slice B3 m3 e3) (.slice A6 n6 c6)∨(0:Int)=4):=hid (fun W hb=>by
       by_cases d4:(0:Int)=4
       ·exact .inr d4
       ·left
        have h9:=HO8.out.below hb
        have hs:=hown3 W h9
        have hst:=(HS7.out.safe (HB8.out.trans (hb.mono HB8.out.size)) h9 hs hob3).1
        have e:(D'.s ++ D'.m).take ns=D'.s:=by rw [← HNS.out];exact List.take_left
        rw [e] at hst
        exact ⟨D',D'.s,AL,hst,rfl,HFF.out.2.2.2.2.1 d4,HLN.out⟩)
      have HEND4:Hid (∀ W,Below w8.heap.size w8 W→DfRel w W b (k + 1) (.slice B3 m3 e3) (.slice A8 n8 c8)):=hid (fun W hb=>by
       have h9:=HO8.out.below hb
       have hs:=hown3 W h9
       have hst:=(HS7.out.safe (HB8.out.trans (hb.mono HB8.out.size)) h9 hs hob3).2
       have e:(D'.s ++ D'.m).take ns=D'.s:=by rw [← HNS.out];exact List.take_left
       rw [e] at hst
       exact ⟨D',D'.s,D'.s ++ D'.m,hst,rfl,by rw [HDG.out.d HDT.out,List.append_nil],Nat.le_trans HPL.out.length_le HLN.out⟩)
      have HBW:Hid (∀ W,Below w8.heap.size w8 W→Below w.heap.size w W):=hid (fun W hb=>HS8.out.bel.trans (hb.mono HS8.out.bel.size))
      have HR8:=hid (Below.refl w8.heap.size w8)
      have HD8:Hid (∀ W n,Below w8.heap.size w8 W→Below w8.heap.size w8 (W.drewN n)):=hid (fun W n hb=>below_drewN hb n)
      have hc1:=hcut1
      have hc2:=hcut2
      clear hown1 hown2 hown3 hcut1 hcut2 hob3 kd kb
      have HC3:=hid hcut3
      clear hcut3
      go_wp2_with fail
      refine (HSA1.out _ (by first | exact HR8.out | exact HD8.out _ _ HR8.out)).mono ?_
      rintro e w9 ⟨rfl,hb9⟩
      have HB9:=hid hb9
      clear hb9
      go_wp2_with fail
      refine (HSA2.out _ (by first | exact HB9.out | exact HD8.out _ _ HB9.out)).mono ?_
      rintro e w10 ⟨rfl,hb10⟩
      have HB10:=hid hb10
      clear hb10
      go_wp2_with fail
      refine (HSF.out _ (by first | exact HB10.out | exact HD8.out _ _ HB10.out)).mono ?_
      rintro e w11 ⟨rfl,hw11⟩
      have HB11:Hid (Below w8.heap.size w8 w11):=hid (by rw [← hw11];first | exact HB10.out | exact HD8.out _ _ HB10.out)
      clear hw11
      go_wp2_with fail
      refine (HSF.out _ (by first | exact HB11.out | exact HD8.out _ _ HB11.out)).mono ?_
      rintro e w12 ⟨rfl,hw12⟩
      have HB12:Hid (Below w8.heap.size w8 w12):=hid (by rw [← hw12];first | exact HB11.out | exact HD8.out _ _ HB11.out)
      clear hw12 hc1 hc2
      have hc3:=HC3.out
      obtain ⟨_,kd,_⟩:=HLD.out w12 (HBW.out _ HB12.out)
      go_wp2_with fail
      refine (HSF.out _ (by first | exact HB12.out | exact HD8.out _ _ HB12.out)).mono ?_
      rintro e w13 ⟨rfl,hw13⟩
      have HB13:Hid (Below w8.heap.size w8 w13):=hid (by rw [← hw13];first | exact HB12.out | exact HD8.out _ _ HB12.out)
      clear hw13 kd
      obtain ⟨_,kd,_⟩:=HLD.out w13 (HBW.out _ HB13.out)
      clear i1 i2 i3 i4
      have HNF:=hid (show ¬ (0:Int)=4 from by omega)
      go_wp2_with fail
      go_roundw
      case rel=>exact ⟨k + 1,_,_,_,_,_,_,HHK.out,by rw [HWI.out];rfl,rfl,rfl,hid ((HEND.out _ (by first | exact HB13.out | exact HD8.out _ _ HB13.out)).resolve_right HNF.out)⟩
      case measure=>exact df_meas HHK.out HWI.out
    | false=>
     have hs2:AL.length + x.bl.length≤140737488355328:=by have:=HAZ.out;have:=HXL.out;have:=HK60.out;omega
     have HXB:=hid (HKO.out.2.below HS7.out.bel)
     have HXB2:Hid (Byt w7 (.slice x.bA x.bl.length x.bc) x.bl):=HXB
     go_upto_region 16 with (at_builtin;refine wpList_append_two rfl (.tmp 58) (.tmp 63) rfl rfl rfl HS7.out.o HXB2.out hs2 HS7.out.bel.size ?_;intro v8 wq ho8 hg8;have HSQ:=hid (HS7.out.more ho8 hg8);obtain ⟨A7,n7,c7,rfl⟩:∃ A n c,v8=.slice A n c:=(by obtain ⟨A,c,e⟩:=ho8.byt.shape;exact ⟨_,_,_,e⟩);clear ho8 hg8)
     have HFF:=hid (HFS.out (AL ++ x.bl) (by rw [if_pos ⟨rfl,rfl⟩]))
     have HDA:Hid (Calls Try.prog 13 #[.pointer (some ⟨b,0,none⟩)] wq fun e w'=>∃ v',e=.returned (.tuple #[v',.int .i64 (if D'.dead=true then 6 else 0)])∧Own wq.heap.size w' v' (if D'.dead=true then [] else D'.s ++ D'.m)∧Below wq.heap.size wq w'):=hid (by
      obtain ⟨va,vt,h1,_⟩:=HSQ.out.v
      exact dkAll_any h1 HDG.out)
     have HLN:Hid (((AL ++ x.bl)).length≤200 * (k + 1)):=hid (by have:=HAZ.out;have:=HXL.out;rw [List.length_append];omega)
     cases hd':D'.dead with
     | true=>
      have HDT:=hid hd'
      rw [hd'] at HDA
      simp only [if_true] at HDA
      clear hd'
      go_wp2_with fail
      refine HDA.out.mono ?_
      rintro e w8 ⟨v8,rfl,ho8,hb8⟩
      have HS8:=hid (HSQ.out.below hb8)
      obtain ⟨A8,n8,c8,rfl⟩:∃ A n c,v8=.slice A n c:=by
       obtain ⟨A,c,e⟩:=ho8.byt.shape
       exact ⟨_,_,_,e⟩
      clear ho8 hb8
      go_wp2_with fail
      go_roundw
      case rel=>exact ⟨k + 1,_,_,_,_,_,_,HHK.out,by rw [HWI.out];rfl,rfl,rfl,hid ⟨D',S,(AL ++ x.bl),HS8.out,by rw [HSD.out];exact (HFF.out.2.2.1 HDT.out).symm,HFF.out.2.2.2.2.1 (fun e=>by have:=HFF.out.2.2.2.2.2 e;rw [HDT.out] at this;cases this),HLN.out⟩⟩
      case measure=>exact df_meas HHK.out HWI.out
     | false=>
      have HDT:=hid hd'
      rw [hd'] at HDA
      simp only [Bool.false_eq_true,if_false] at HDA
      clear hd'
      go_wp2_with fail
      refine HDA.out.mono ?_
      rintro e w8 ⟨v8,rfl,ho8,hb8⟩
      have HS8:=hid (HSQ.out.below hb8)
      have HO8:=hid ho8
      have HB8:=hid hb8
      obtain ⟨n8,HN8⟩:∃ q:Nat,Hid ((D'.s ++ D'.m).length=q):=⟨_,hid rfl⟩
      obtain ⟨A8,c8,rfl⟩:∃ A c,v8=.slice A n8 c:=by
       obtain ⟨A,c,e⟩:=ho8.byt.shape
       exact ⟨_,_,by rw [← HN8.out];exact e⟩
      clear ho8 hb8
      obtain ⟨ns,HNS⟩:∃ q:Nat,Hid (D'.s.length=q):=⟨_,hid rfl⟩
      have HL5:Hid (n5=S.length):=hid HSS.out.y.byt.at_.1
      have HL6:Hid (n7=((AL ++ x.bl)).length):=hid HSQ.out.o.byt.at_.1
      have HPS:Hid (S <+: D'.s):=hid (by rw [HSD.out];exact HFF.out.2.1)
      have HPL:Hid (D'.s ++ D'.m <+: (AL ++ x.bl)):=hid HFF.out.2.2.2.1
      have i1:¬ (n8:Int) < (n5:Int):=by have h1:=HPS.out.length_le;have:=HL5.out;have h2:=HN8.out;rw [List.length_append] at h2;omega
      have i2:¬ (n7:Int) < (n8:Int):=by have h1:=HPL.out.length_le;have:=HL6.out;have h2:=HN8.out;omega
      have i3:¬ (ns:Int) < (n5:Int):=by have h1:=HPS.out.length_le;have:=HL5.out;have h2:=HNS.out;omega
      have i4:¬ (n8:Int) < (ns:Int):=by have h1:=HNS.out;have h2:=HN8.out;rw [List.length_append] at h2;omega
      obtain ⟨va1,hcut1,_,hown1⟩:=own_cut HO8.out n5 (by have h1:=HPS.out.length_le;have:=HL5.out;rw [List.length_append];omega)
      obtain ⟨B1,m1,e1,rfl⟩:∃ A n c,va1=.slice A n c:=by
       obtain ⟨A,c,e⟩:=(hown1 w8 HO8.out).byt.shape
       exact ⟨_,_,_,e⟩
      obtain ⟨va2,hcut2,_,hown2⟩:=own_cut HS8.out.o n8 (by have h1:=HPL.out.length_le;have:=HN8.out;omega)
      obtain ⟨B2,m2,e2,rfl⟩:∃ A n c,va2=.slice A n c:=by
       obtain ⟨A,c,e⟩:=(hown2 w8 HS8.out.o).byt.shape
       exact ⟨_,_,_,e⟩
      obtain ⟨va3,hcut3,hob3,hown3⟩:=own_cut HO8.out ns (by have:=HNS.out;rw [List.length_append];omega)
      obtain ⟨B3,m3,e3,rfl⟩:∃ A n c,va3=.slice A n c:=by
       obtain ⟨A,c,e⟩:=(hown3 w8 HO8.out).byt.shape
       exact ⟨_,_,_,e⟩
      have HSA1:Hid (∀ W,Below w8.heap.size w8 W→Calls Try.prog 14 #[.slice B1 m1 e1,.slice A5 n5 c5] W fun e w'=>e=.returned (.bool true)∧Below w8.heap.size w8 w'):=hid (fun W hb=>by
       have h1:=same_any (.slice B1 m1 e1) (.slice A5 n5 c5) _ S W ((hown1 w8 HO8.out).byt.below hb) (HS8.out.y.byt.below hb)
       have e:(D'.s ++ D'.m).take n5=S:=by
        rw [HL5.out]
        exact (List.prefix_iff_eq_take.1 (HPS.out.trans (List.prefix_append D'.s D'.m))).symm
       rw [e,decide_eq_true rfl] at h1
       exact h1.mono fun _ _ ⟨p,n,q⟩=>⟨p,by rw [q];exact below_drewN hb n⟩)
      have HSA2:Hid (∀ W,Below w8.heap.size w8 W→Calls Try.prog 14 #[.slice A8 n8 c8,.slice B2 m2 e2] W fun e w'=>e=.returned (.bool true)∧Below w8.heap.size w8 w'):=hid (fun W hb=>by
       have h1:=same_any (.slice A8 n8 c8) (.slice B2 m2 e2) _ _ W (HO8.out.byt.below hb) ((hown2 w8 HS8.out.o).byt.below hb)
       have e:((AL ++ x.bl)).take n8=D'.s ++ D'.m:=by
        rw [← HN8.out]
        exact (List.prefix_iff_eq_take.1 HPL.out).symm
       rw [e,decide_eq_true rfl] at h1
       exact h1.mono fun _ _ ⟨p,n,q⟩=>⟨p,by rw [q];exact below_drewN hb n⟩)
      have HSF:Hid (∀ W,Below w8.heap.size w8 W→Calls Try.prog 15 #[.pointer (some ⟨b,0,none⟩)] W fun e w'=>e=.returned (.int .i64 (ns:Int))∧W=w'):=hid (fun W hb=>by
       obtain ⟨va,vt,h1,_⟩:=(HS8.out.below hb).v
       have:=dkSafe_any h1
       rw [HNS.out] at this
       exact this)
      have HEND:Hid (∀ W,Below w8.heap.size w8 W→DfRel w W b (k + 1) (.slice B3 m3 e3) (.slice A7 n7 c7)∨(0:Int)=4):=hid (fun W hb=>by
       by_cases d4:(0:Int)=4
       ·exact .inr d4
       ·left
        have h9:=HO8.out.below hb
        have hs:=hown3 W h9
        have hst:=(HSQ.out.safe (HB8.out.trans (hb.mono HB8.out.size)) h9 hs hob3).1
        have e:(D'.s ++ D'.m).take ns=D'.s:=by rw [← HNS.out];exact List.take_left
        rw [e] at hst
        exact ⟨D',D'.s,(AL ++ x.bl),hst,rfl,HFF.out.2.2.2.2.1 d4,HLN.out⟩)
      have HEND4:Hid (∀ W,Below w8.heap.size w8 W→DfRel w W b (k + 1) (.slice B3 m3 e3) (.slice A8 n8 c8)):=hid (fun W hb=>by
       have h9:=HO8.out.below hb
       have hs:=hown3 W h9
       have hst:=(HSQ.out.safe (HB8.out.trans (hb.mono HB8.out.size)) h9 hs hob3).2
       have e:(D'.s ++ D'.m).take ns=D'.s:=by rw [← HNS.out];exact List.take_left
       rw [e] at hst
       exact ⟨D',D'.s,D'.s ++ D'.m,hst,rfl,by rw [HDG.out.d HDT.out,List.append_nil],Nat.le_trans HPL.out.length_le HLN.out⟩)
      have HBW:Hid (∀ W,Below w8.heap.size w8 W→Below w.heap.size w W):=hid (fun W hb=>HS8.out.bel.trans (hb.mono HS8.out.bel.size))
      have HR8:=hid (Below.refl w8.heap.size w8)
      have HD8:Hid (∀ W n,Below w8.heap.size w8 W→Below w8.heap.size w8 (W.drewN n)):=hid (fun W n hb=>below_drewN hb n)
      have hc1:=hcut1
      have hc2:=hcut2
      clear hown1 hown2 hown3 hcut1 hcut2 hob3 kd kb
      have HC3:=hid hcut3
      clear hcut3
      go_wp2_with fail
      refine (HSA1.out _ (by first | exact HR8.out | exact HD8.out _ _ HR8.out)).mono ?_
      rintro e w9 ⟨rfl,hb9⟩
      have HB9:=hid hb9
      clear hb9
      go_wp2_with fail
      refine (HSA2.out _ (by first | exact HB9.out | exact HD8.out _ _ HB9.out)).mono ?_
      rintro e w10 ⟨rfl,hb10⟩
      have HB10:=hid hb10
      clear hb10
      go_wp2_with fail
      refine (HSF.out _ (by first | exact HB10.out | exact HD8.out _ _ HB10.out)).mono ?_
      rintro e w11 ⟨rfl,hw11⟩
      have HB11:Hid (Below w8.heap.size w8 w11):=hid (by rw [← hw11];first | exact HB10.out | exact HD8.out _ _ HB10.out)
      clear hw11
      go_wp2_with fail
      refine (HSF.out _ (by first | exact HB11.out | exact HD8.out _ _ HB11.out)).mono ?_
      rintro e w12 ⟨rfl,hw12⟩
      have HB12:Hid (Below w8.heap.size w8 w12):=hid (by rw [← hw12];first | exact HB11.out | exact HD8.out _ _ HB11.out)
      clear hw12 hc1 hc2
      have hc3:=HC3.out
      obtain ⟨_,kd,_⟩:=HLD.out w12 (HBW.out _ HB12.out)
      go_wp2_with fail
      refine (HSF.out _ (by first | exact HB12.out | exact HD8.out _ _ HB12.out)).mono ?_
      rintro e w13 ⟨rfl,hw13⟩
      have HB13:Hid (Below w8.heap.size w8 w13):=hid (by rw [← hw13];first | exact HB12.out | exact HD8.out _ _ HB12.out)
      clear hw13 kd
      obtain ⟨_,kd,_⟩:=HLD.out w13 (HBW.out _ HB13.out)
      clear i1 i2 i3 i4
      have HNF:=hid (show ¬ (0:Int)=4 from by omega)
      go_wp2_with fail
      go_roundw
      case rel=>exact ⟨k + 1,_,_,_,_,_,_,HHK.out,by rw [HWI.out];rfl,rfl,rfl,hid ((HEND.out _ (by first | exact HB13.out | exact HD8.out _ _ HB13.out)).resolve_right HNF.out)⟩
      case measure=>exact df_meas HHK.out HWI.out
   ·clear d2
    have HFF:=hid (HFS.out AL (by rw [if_neg (fun h=>d0 h.1)]))
    have HDA:Hid (Calls Try.prog 13 #[.pointer (some ⟨b,0,none⟩)] w7 fun e w'=>∃ v',e=.returned (.tuple #[v',.int .i64 (if D'.dead=true then 6 else 0)])∧Own w7.heap.size w' v' (if D'.dead=true then [] else D'.s ++ D'.m)∧Below w7.heap.size w7 w'):=hid (by
     obtain ⟨va,vt,h1,_⟩:=HS7.out.v
     exact dkAll_any h1 HDG.out)
    have HLN:Hid ((AL).length≤200 * (k + 1)):=hid (by have:=HAZ.out;omega)
    cases hd':D'.dead with
    | true=>
     have HDT:=hid hd'
     rw [hd'] at HDA
     simp only [if_true] at HDA
     clear hd'
     go_wp2_with fail
     refine HDA.out.mono ?_
     rintro e w8 ⟨v8,rfl,ho8,hb8⟩
     have HS8:=hid (HS7.out.below hb8)
     obtain ⟨A8,n8,c8,rfl⟩:∃ A n c,v8=.slice A n c:=by
      obtain ⟨A,c,e⟩:=ho8.byt.shape
      exact ⟨_,_,_,e⟩
     clear ho8 hb8
     go_wp2_with fail
     go_roundw
     case rel=>exact ⟨k + 1,_,_,_,_,_,_,HHK.out,by rw [HWI.out];rfl,rfl,rfl,hid ⟨D',S,AL,HS8.out,by rw [HSD.out];exact (HFF.out.2.2.1 HDT.out).symm,HFF.out.2.2.2.2.1 (fun e=>by have:=HFF.out.2.2.2.2.2 e;rw [HDT.out] at this;cases this),HLN.out⟩⟩
     case measure=>exact df_meas HHK.out HWI.out
    | false=>
     have HDT:=hid hd'
     rw [hd'] at HDA
     simp only [Bool.false_eq_true,if_false] at HDA
     clear hd'
     go_wp2_with fail
     refine HDA.out.mono ?_
     rintro e w8 ⟨v8,rfl,ho8,hb8⟩
     have HS8:=hid (HS7.out.below hb8)
     have HO8:=hid ho8
     have HB8:=hid hb8
     obtain ⟨n8,HN8⟩:∃ q:Nat,Hid ((D'.s ++ D'.m).length=q):=⟨_,hid rfl⟩
     obtain ⟨A8,c8,rfl⟩:∃ A c,v8=.slice A n8 c:=by
      obtain ⟨A,c,e⟩:=ho8.byt.shape
      exact ⟨_,_,by rw [← HN8.out];exact e⟩
     clear ho8 hb8
     obtain ⟨ns,HNS⟩:∃ q:Nat,Hid (D'.s.length=q):=⟨_,hid rfl⟩
     have HL5:Hid (n5=S.length):=hid HSS.out.y.byt.at_.1
     have HL6:Hid (n6=(AL).length):=hid HS7.out.o.byt.at_.1
     have HPS:Hid (S <+: D'.s):=hid (by rw [HSD.out];exact HFF.out.2.1)
     have HPL:Hid (D'.s ++ D'.m <+: AL):=hid HFF.out.2.2.2.1
     have i1:¬ (n8:Int) < (n5:Int):=by have h1:=HPS.out.length_le;have:=HL5.out;have h2:=HN8.out;rw [List.length_append] at h2;omega
     have i2:¬ (n6:Int) < (n8:Int):=by have h1:=HPL.out.length_le;have:=HL6.out;have h2:=HN8.out;omega
     have i3:¬ (ns:Int) < (n5:Int):=by have h1:=HPS.out.length_le;have:=HL5.out;have h2:=HNS.out;omega
     have i4:¬ (n8:Int) < (ns:Int):=by have h1:=HNS.out;have h2:=HN8.out;rw [List.length_append] at h2;omega
     obtain ⟨va1,hcut1,_,hown1⟩:=own_cut HO8.out n5 (by have h1:=HPS.out.length_le;have:=HL5.out;rw [List.length_append];omega)
     obtain ⟨B1,m1,e1,rfl⟩:∃ A n c,va1=.slice A n c:=by
      obtain ⟨A,c,e⟩:=(hown1 w8 HO8.out).byt.shape
      exact ⟨_,_,_,e⟩
     obtain ⟨va2,hcut2,_,hown2⟩:=own_cut HS8.out.o n8 (by have h1:=HPL.out.length_le;have:=HN8.out;omega)
     obtain ⟨B2,m2,e2,rfl⟩:∃ A n c,va2=.slice A n c:=by
      obtain ⟨A,c,e⟩:=(hown2 w8 HS8.out.o).byt.shape
      exact ⟨_,_,_,e⟩
     obtain ⟨va3,hcut3,hob3,hown3⟩:=own_cut HO8.out ns (by have:=HNS.out;rw [List.length_append];omega)
     obtain ⟨B3,m3,e3,rfl⟩:∃ A n c,va3=.slice A n c:=by
      obtain ⟨A,c,e⟩:=(hown3 w8 HO8.out).byt.shape
      exact ⟨_,_,_,e⟩
     have HSA1:Hid (∀ W,Below w8.heap.size w8 W→Calls Try.prog 14 #[.slice B1 m1 e1,.slice A5 n5 c5] W fun e w'=>e=.returned (.bool true)∧Below w8.heap.size w8 w'):=hid (fun W hb=>by
      have h1:=same_any (.slice B1 m1 e1) (.slice A5 n5 c5) _ S W ((hown1 w8 HO8.out).byt.below hb) (HS8.out.y.byt.below hb)
      have e:(D'.s ++ D'.m).take n5=S:=by
       rw [HL5.out]
       exact (List.prefix_iff_eq_take.1 (HPS.out.trans (List.prefix_append D'.s D'.m))).symm
      rw [e,decide_eq_true rfl] at h1
      exact h1.mono fun _ _ ⟨p,n,q⟩=>⟨p,by rw [q];exact below_drewN hb n⟩)
     have HSA2:Hid (∀ W,Below w8.heap.size w8 W→Calls Try.prog 14 #[.slice A8 n8 c8,.slice B2 m2 e2] W fun e w'=>e=.returned (.bool true)∧Below w8.heap.size w8 w'):=hid (fun W hb=>by
      have h1:=same_any (.slice A8 n8 c8) (.slice B2 m2 e2) _ _ W (HO8.out.byt.below hb) ((hown2 w8 HS8.out.o).byt.below hb)
      have e:(AL).take n8=D'.s ++ D'.m:=by
       rw [← HN8.out]
       exact (List.prefix_iff_eq_take.1 HPL.out).symm
      rw [e,decide_eq_true rfl] at h1
      exact h1.mono fun _ _ ⟨p,n,q⟩=>⟨p,by rw [q];exact below_drewN hb n⟩)
     have HSF:Hid (∀ W,Below w8.heap.size w8 W→Calls Try.prog 15 #[.pointer (some ⟨b,0,none⟩)] W fun e w'=>e=.returned (.int .i64 (ns:Int))∧W=w'):=hid (fun W hb=>by
      obtain ⟨va,vt,h1,_⟩:=(HS8.out.below hb).v
      have:=dkSafe_any h1
      rw [HNS.out] at this
      exact this)
     have HEND:Hid (∀ W,Below w8.heap.size w8 W→DfRel w W b (k + 1) (.slice B3 m3 e3) (.slice A6 n6 c6)∨act=4):=hid (fun W hb=>by
      by_cases d4:act=4
      ·exact .inr d4
      ·left
       have h9:=HO8.out.below hb
       have hs:=hown3 W h9
       have hst:=(HS7.out.safe (HB8.out.trans (hb.mono HB8.out.size)) h9 hs hob3).1
       have e:(D'.s ++ D'.m).take ns=D'.s:=by rw [← HNS.out];exact List.take_left
       rw [e] at hst
       exact ⟨D',D'.s,AL,hst,rfl,HFF.out.2.2.2.2.1 d4,HLN.out⟩)
     have HEND4:Hid (∀ W,Below w8.heap.size w8 W→DfRel w W b (k + 1) (.slice B3 m3 e3) (.slice A8 n8 c8)):=hid (fun W hb=>by
      have h9:=HO8.out.below hb
      have hs:=hown3 W h9
      have hst:=(HS7.out.safe (HB8.out.trans (hb.mono HB8.out.size)) h9 hs hob3).2
      have e:(D'.s ++ D'.m).take ns=D'.s:=by rw [← HNS.out];exact List.take_left
      rw [e] at hst
      exact ⟨D',D'.s,D'.s ++ D'.m,hst,rfl,by rw [HDG.out.d HDT.out,List.append_nil],Nat.le_trans HPL.out.length_le HLN.out⟩)
     have HBW:Hid (∀ W,Below w8.heap.size w8 W→Below w.heap.size w W):=hid (fun W hb=>HS8.out.bel.trans (hb.mono HS8.out.bel.size))
     have HR8:=hid (Below.refl w8.heap.size w8)
     have HD8:Hid (∀ W n,Below w8.heap.size w8 W→Below w8.heap.size w8 (W.drewN n)):=hid (fun W n hb=>below_drewN hb n)
     have hc1:=hcut1
     have hc2:=hcut2
     clear hown1 hown2 hown3 hcut1 hcut2 hob3 kd kb
     have HC3:=hid hcut3
     clear hcut3
     go_wp2_with fail
     refine (HSA1.out _ (by first | exact HR8.out | exact HD8.out _ _ HR8.out)).mono ?_
     rintro e w9 ⟨rfl,hb9⟩
     have HB9:=hid hb9
     clear hb9
     go_wp2_with fail
     refine (HSA2.out _ (by first | exact HB9.out | exact HD8.out _ _ HB9.out)).mono ?_
     rintro e w10 ⟨rfl,hb10⟩
     have HB10:=hid hb10
     clear hb10
     go_wp2_with fail
     refine (HSF.out _ (by first | exact HB10.out | exact HD8.out _ _ HB10.out)).mono ?_
     rintro e w11 ⟨rfl,hw11⟩
     have HB11:Hid (Below w8.heap.size w8 w11):=hid (by rw [← hw11];first | exact HB10.out | exact HD8.out _ _ HB10.out)
     clear hw11
     go_wp2_with fail
     refine (HSF.out _ (by first | exact HB11.out | exact HD8.out _ _ HB11.out)).mono ?_
     rintro e w12 ⟨rfl,hw12⟩
     have HB12:Hid (Below w8.heap.size w8 w12):=hid (by rw [← hw12];first | exact HB11.out | exact HD8.out _ _ HB11.out)
     clear hw12 hc1 hc2
     have hc3:=HC3.out
     obtain ⟨_,kd,_⟩:=HLD.out w12 (HBW.out _ HB12.out)
     go_wp2_with fail
     refine (HSF.out _ (by first | exact HB12.out | exact HD8.out _ _ HB12.out)).mono ?_
     rintro e w13 ⟨rfl,hw13⟩
     have HB13:Hid (Below w8.heap.size w8 w13):=hid (by rw [← hw13];first | exact HB12.out | exact HD8.out _ _ HB12.out)
     clear hw13 kd
     obtain ⟨_,kd,_⟩:=HLD.out w13 (HBW.out _ HB13.out)
     clear i1 i2 i3 i4
     by_cases d4:act=4
     ·subst d4
      go_wp2_with fail
      go_roundw
      case rel=>exact ⟨k + 1,_,_,_,_,_,_,HHK.out,by rw [HWI.out];rfl,rfl,rfl,hid (HEND4.out _ (by first | exact HB13.out | exact HD8.out _ _ HB13.out))⟩
      case measure=>exact df_meas HHK.out HWI.out
     ·have HNF:=hid d4
      go_wp2_with fail
      go_roundw
      case rel=>exact ⟨k + 1,_,_,_,_,_,_,HHK.out,by rw [HWI.out];rfl,rfl,rfl,hid ((HEND.out _ (by first | exact HB13.out | exact HD8.out _ _ HB13.out)).resolve_right HNF.out)⟩
      case measure=>exact df_meas HHK.out HWI.out
  ·have hI:¬ (k:Int) < (N:Int):=by omega
   have HBR:Hid (Below w.heap.size w wr):=hid (by
    obtain ⟨D,S,AL,hS,_⟩:=HREL.out
    exact hS.bel)
   clear HREL hlt hk
   go_wp2_with fail
   refine (HFIN.out wr HBR.out).mono ?_
   rintro e w2 ⟨rfl,hb2⟩
   go_wp2_with fail
   go_ret
   exact ⟨rfl,hb2⟩
end Go.Proofs.Ytocnobllccdocaa
