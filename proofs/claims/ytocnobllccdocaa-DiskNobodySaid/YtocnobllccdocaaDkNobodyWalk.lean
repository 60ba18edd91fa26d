/-
  DiskNobody: a byte that is spoilt; nobody's disk: the law's walk.
-/
import Derived.Test.YtocnobllccdocaaDkCodeD
namespace Go.Proofs.Ytocnobllccdocaa
set_option maxRecDepth 20000
open Go.RowKit
theorem app_two {l:List UInt8} (h:l.length≤200):appE (newDk 200) l=0∧appD (newDk 200) l=⟨[],l,[],200,-1,false⟩:=by
 unfold appE appD
 have h1:¬ (newDk 200).dead=true:=by simp [newDk]
 have h2:¬ (newDk 200).room < (newDk 200).s.length + (newDk 200).m.length + l.length:=by simp [newDk];omega
 have h4:¬ (newDk 200).left=0:=by simp [newDk]
 rw [if_neg h1,if_neg h1,if_neg h2,if_neg h2]
 by_cases h3:l.length=0
 ·rw [if_pos h3,if_pos h3]
  have:l=[]:=List.eq_nil_of_length_eq_zero h3
  subst this
  exact ⟨rfl,rfl⟩
 ·rw [if_neg h3,if_neg h3,if_neg h4,if_neg h4]
  exact ⟨rfl,rfl⟩
set_option maxHeartbeats 12800000 in
theorem lawDiskNobody_any (v:Value) (l:List UInt8) (k:Int) (y:Nat) (w:World) (hv:Byt w v l) (hy:y≤255):
  Calls Try.prog 5 #[v,.int .i64 k,.int .u8 (y:Int)] w fun e w'=>e=.returned (.bool true)∧Below w.heap.size w w':=by
 have HFIN:Hid (∀ W,Below w.heap.size w W→Calls Try.prog 7 #[] W fun e w'=>e=.returned (.bool true)∧Below w.heap.size w w'):=hid (fun W hb=>(dkAwake_any W).mono fun _ _ ⟨h1,h2⟩=>⟨h1,hb.trans (h2.mono hb.size)⟩)
 have HREF:=hid (Below.refl w.heap.size w)
 obtain ⟨x,hx⟩:∃ x:UInt8,(y:Int)=(x.toNat:Int):=⟨UInt8.ofNat y,by simp;omega⟩
 have HX:=hid hx
 rw [hx]
 clear hx hy
 obtain ⟨A,c,rfl⟩:=hv.shape
 have HV:=hid hv
 obtain ⟨N,HN⟩:∃ q:Nat,Hid (l.length=q):=⟨_,hid rfl⟩
 rw [HN.out] at HV ⊢
 by_cases hb:(200:Int) < (N:Int)
 ·clear hv
  obtain ⟨z,HZ⟩:∃ z:Int,Hid ((x.toNat:Int)=z):=⟨_,hid rfl⟩
  rw [HZ.out]
  go_enter Try.func5,Try.ntmps5
  go_wp2_with fail
  refine (HFIN.out w HREF.out).mono ?_
  rintro e w2 ⟨rfl,hb2⟩
  go_wp2_with fail
  go_ret
  exact ⟨rfl,hb2⟩
 have HL:Hid (l.length≤200):=hid (by have:=HN.out;omega)
 have HNL:Hid (N≤200):=hid (by have:=HN.out;have:=HL.out;omega)
 have hs0:([]:List UInt8).length + l.length≤140737488355328:=by have:=HL.out;simp only [List.length_nil];omega
 have HNW:=hid (dkNew_yes 200 w (by omega) (by omega))
 clear hv
 obtain ⟨z,hz0,HZ⟩:∃ z:Int,(0≤z∧z≤255)∧Hid ((x.toNat:Int)=z):=⟨_,byte_lt _,hid rfl⟩
 rw [HZ.out]
 go_enter Try.func5,Try.ntmps5
 go_wp2_with fail
 refine HNW.out.mono ?_
 rintro e w1 ⟨rfl,h1,hb1⟩
 have HAP:=hid (dkAppend_any h1 (newDk_good (by omega) (by omega)) hb1.size (HV.out.below hb1 |> fun (h:Byt w1 (.slice A N c) l)=>h) (by have:=HL.out;omega))
 rw [(app_two HL.out).1,(app_two HL.out).2] at HAP
 have HB1:=hid hb1
 clear h1 hb1
 go_wp2_with fail
 refine HAP.out.mono ?_
 rintro e w2 ⟨rfl,va,vt,h2,t2,n2⟩
 have HB2:=hid (t2.below HB1.out (Nat.le_refl _) (fun k e=>by cases e) HB1.out.size)
 have HSP:=hid (dkSpoil_any h2 rfl rfl rfl k x)
 rw [HZ.out] at HSP
 have HO2:=hid h2.o
 clear h2 t2 n2
 go_wp2_with fail
 refine HSP.out.mono ?_
 rintro e w3 ⟨rfl,h3,t3⟩
 have HB3:=hid (t3.below HB2.out (Nat.le_refl _) (fun k e=>(HO2.out.base e).1) HB2.out.size)
 have H3:=hid h3
 clear h3 t3
 obtain ⟨S,HS⟩:∃ q:List UInt8,Hid (spoilL l k x=q):=⟨_,hid rfl⟩
 have HSL:Hid (S.length=l.length):=hid (by rw [← HS.out];unfold spoilL;split <;> simp)
 have HREST:Hid (∀ (W:World) (w4:World) (v4:Value),Below w3.heap.size w3 W→W=w4→Own w3.heap.size w4 v4 S→True):=hid (fun _ _ _ _ _ _=>trivial)
 go_upto_region 8 with (at_builtin;refine wpList_append_byt rfl (.tmp 41) (.tmp 42) rfl rfl rfl (fresh0_own w3) ((HV.out.below HB3.out).alloc _) hs0 (al_le w3 _) ?_;intro v4 w4 ho4 hg4 hv4;simp only [List.nil_append] at ho4;have hb4:=fresh0_below hg4;have HO4:=hid ho4;have HB4:=hid hb4;clear ho4 hg4 hv4 hb4)
 have H4:=hid (H3.out.below HB4.out)
 have HB4W:=hid (HB3.out.trans (HB4.out.mono HB3.out.size))
 by_cases hp:0≤k∧k < (l.length:Int)
 ·rw [if_pos hp]
  have HSS:Hid (l.set k.toNat (l[k.toNat]?.getD 0 ^^^ x)=S):=hid (by have:=HS.out;unfold spoilL at this;rw [if_pos hp] at this;exact this)
  obtain ⟨n,rfl⟩:∃ n:Nat,k=(n:Int):=⟨k.toNat,by omega⟩
  rw [Int.toNat_natCast] at HSS
  have hn:n < l.length:=by omega
  rw [List.getElem?_eq_getElem hn,Option.getD_some] at HSS
  have ho:=HO4.out
  rcases ho.2 with ⟨rfl,h0⟩ | ⟨q,cap,cur,rfl,hg,hq,hnc,hmc,hsz,htk⟩
  ·omega
  have hcell:w4.cell? ⟨q,0 + n,none⟩=some (bcell l[n]):=by
   rw [Nat.zero_add,World.ownsRow.cellAt ho n (by omega)]
   simp [bcells,hn]
  have hfr:w4.frozen? ⟨q,0 + n,none⟩=false:=coBlk_free hq _
  obtain ⟨u,HU0,HU⟩:∃ y:Int,(0≤y∧y≤255)∧Hid ((l[n].toNat:Int)=y):=⟨_,byte_lt _,hid rfl⟩
  obtain ⟨r,HR⟩:∃ y:Int,Hid (((l[n] ^^^ x).toNat:Int)=y):=⟨_,hid rfl⟩
  have hxr:=xor_byte l[n] x HU.out HZ.out HR.out
  unfold bcell at hcell
  rw [HU.out] at hcell
  have hbq:w.heap.size≠q:=by have:=HB3.out.size;have:=H3.out.lt;omega
  have hkept:DkE (w4.setCell ⟨q,0 + n,none⟩ (.int .u8 r)) w.heap.size w.heap.size ⟨[],spoilL l (n:Int) x,[],200,-1,false⟩ va vt:=by
   have hlt:=H3.out.o
   have h4:=H4.out
   refine ⟨(Below.heap_setCell _ _ _ _ hbq).trans h4.p,h4.o.keep (fun i hi e=>Below.heap_setCell _ _ _ _ (fun e2=>?_)),?_,.inl rfl⟩
   ·have:=(hlt.base e).2
    have:i=q:=e2
    omega
   ·exact h4.t.none _
  have HKK:Hid (Own w3.heap.size (w4.setCell ⟨q,0 + n,none⟩ (.int .u8 r)) (.slice (some ⟨q,0,none⟩) l.length cap) S∧DkE (w4.setCell ⟨q,0 + n,none⟩ (.int .u8 r)) w.heap.size w.heap.size ⟨[],S,[],200,-1,false⟩ va vt∧Below w.heap.size w (w4.setCell ⟨q,0 + n,none⟩ (.int .u8 r))):=hid (by
   refine ⟨?_,?_,HB4W.out.setCell (by show w.heap.size≤q;have:=HB3.out.size;omega) _⟩
   ·rw [Nat.zero_add,← HR.out,← HSS.out]
    exact own_set ho rfl (l[n] ^^^ x)
   ·rw [← HS.out];exact hkept)
  have hnl:(n:Int) < (N:Int):=by have:=HN.out;omega
  have hnc2:N≤cap:=by rw [← HN.out];exact hnc
  obtain ⟨o,HO⟩:∃ o:Nat,Hid (0=o):=⟨_,hid rfl⟩
  rw [show (0:Nat) + n=o + n from by rw [HO.out]] at hcell hfr HKK
  rw [show (Value.slice (some ⟨q,0,none⟩) l.length cap)=Value.slice (some ⟨q,o,none⟩) N cap from by rw [HO.out,HN.out]] at HKK ⊢
  clear hp ho hg hq hnc hmc hsz htk hbq hkept
  go_wp2_with fail
  have HAL:=hid (dkAll_any HKK.out.2.1 ⟨by show (-1:Int)≤-1;omega,by show (-1:Int)≤9223372036854775807;omega,by show (0:Int)≤200;omega,by show (200:Int)≤1048576;omega,by show ((([]:List UInt8).length:Nat):Int) + (S.length:Nat) + (([]:List UInt8).length:Nat)≤200;have:=HSL.out;have:=HL.out;simp only [List.length_nil];omega,fun _=>rfl⟩)
  go_wp2_with fail
  refine HAL.out.mono ?_
  rintro e w5 ⟨v5,rfl,ho5,hb5⟩
  have HB5:=hid (HKK.out.2.2.trans (hb5.mono HKK.out.2.2.size))
  have HW5:=hid (HKK.out.1.byt.below hb5)
  have HX5:Hid (Byt w5 v5 S):=hid (by have:=ho5.byt;simpa using this)
  obtain ⟨A5,n5,c5,rfl⟩:∃ A n c,v5=.slice A n c:=by
   obtain ⟨A,c,e⟩:=ho5.byt.shape
   exact ⟨_,_,_,e⟩
  clear ho5 hb5
  go_wp2_with fail
  go_loopw [13] (fun s13 wr=>∃ i:Nat,i≤2∧s13=.int .i64 i∧Hid (Below w5.heap.size w5 wr)) (fun s13 _=>2 - (intOf s13).toNat)
  case atStart=>exact ⟨0,by omega,rfl,hid (Below.refl _ _)⟩
  case round=>
   obtain ⟨i,hi,rfl,HBR⟩:=hrel
   by_cases i0:i=0
   ·subst i0
    have HND:Hid (NoDk wr (.pointer none)):=hid (.inl rfl)
    go_wp2_with fail
    refine (noArm HND.out 1).mono ?_
    rintro e w6 ⟨rfl,rfl⟩
    go_wp2_with fail
    refine (noCrash HND.out 1).mono ?_
    rintro e w6 ⟨rfl,rfl⟩
    go_wp2_with fail
    refine (noAll HND.out).mono ?_
    rintro e w6 ⟨rfl,rfl⟩
    go_wp2_with fail
    refine (noAppend HND.out _).mono ?_
    rintro e w6 ⟨rfl,rfl⟩
    go_wp2_with fail
    refine (noSync HND.out).mono ?_
    rintro e w6 ⟨rfl,rfl⟩
    go_wp2_with fail
    refine (noCut HND.out 0).mono ?_
    rintro e w6 ⟨rfl,rfl⟩
    go_wp2_with fail
    refine (noSpoil HND.out 0 1).mono ?_
    rintro e w6 ⟨rfl,rfl⟩
    go_wp2_with fail
    refine (noDead HND.out).mono ?_
    rintro e w6 ⟨rfl,rfl⟩
    go_wp2_with fail
    refine (noSafe HND.out).mono ?_
    rintro e w6 ⟨rfl,rfl⟩
    go_wp2_with fail
    go_roundw
    case rel=>exact ⟨1,by omega,rfl,HBR⟩
    case measure=>simp [intOf]
   by_cases i1:i=1
   ·subst i1
    go_upto_region 21 with (fail)
    have HBR2:Hid (Below w5.heap.size w5 (wr.alloc (.cells #[.bool false,.int .i64 0,.slice none 0 0,.int .i64 0,.int .i64 0,.bool false,.slice none 0 0] 46))):=hid (HBR.out.alloc HBR.out.size _)
    have HND:Hid (NoDk (wr.alloc (.cells #[.bool false,.int .i64 0,.slice none 0 0,.int .i64 0,.int .i64 0,.bool false,.slice none 0 0] 46)) (.pointer (some ⟨wr.heap.size,0,none⟩))):=hid (.inr ⟨_,rfl,heapA_new _ _⟩)
    generalize (wr.alloc (.cells #[.bool false,.int .i64 0,.slice none 0 0,.int .i64 0,.int .i64 0,.bool false,.slice none 0 0] 46))=wr2 at *
    generalize wr.heap.size=gz at *
    go_wp2_with fail
    refine (noArm HND.out 1).mono ?_
    rintro e w6 ⟨rfl,rfl⟩
    go_wp2_with fail
    refine (noCrash HND.out 1).mono ?_
    rintro e w6 ⟨rfl,rfl⟩
    go_wp2_with fail
    refine (noAll HND.out).mono ?_
    rintro e w6 ⟨rfl,rfl⟩
    go_wp2_with fail
    refine (noAppend HND.out _).mono ?_
    rintro e w6 ⟨rfl,rfl⟩
    go_wp2_with fail
    refine (noSync HND.out).mono ?_
    rintro e w6 ⟨rfl,rfl⟩
    go_wp2_with fail
    refine (noCut HND.out 0).mono ?_
    rintro e w6 ⟨rfl,rfl⟩
    go_wp2_with fail
    refine (noSpoil HND.out 0 1).mono ?_
    rintro e w6 ⟨rfl,rfl⟩
    go_wp2_with fail
    refine (noDead HND.out).mono ?_
    rintro e w6 ⟨rfl,rfl⟩
    go_wp2_with fail
    refine (noSafe HND.out).mono ?_
    rintro e w6 ⟨rfl,rfl⟩
    go_wp2_with fail
    go_roundw
    case rel=>exact ⟨2,by omega,rfl,HBR2⟩
    case measure=>simp [intOf]
   ·obtain rfl:i=2:=by omega
    have HSA:=hid (same_any _ _ S S wr (HX5.out.below HBR.out) (HW5.out.below HBR.out))
    rw [decide_eq_true rfl] at HSA
    have HBW:Hid (∀ n,Below w.heap.size w (wr.drewN n)):=hid (fun n=>below_drewN (HB5.out.trans (HBR.out.mono HB5.out.size)) n)
    clear i0 i1 hi
    go_wp2_with fail
    refine HSA.out.mono ?_
    rintro e w6 ⟨rfl,n,rfl⟩
    go_wp2_with fail
    refine (HFIN.out _ (HBW.out n)).mono ?_
    rintro e w7 ⟨rfl,hb7⟩
    go_wp2_with fail
    go_ret
    exact ⟨rfl,hb7⟩
 ·rw [if_neg hp]
  have HSS:Hid (l=S):=hid (by have:=HS.out;unfold spoilL at this;rw [if_neg hp] at this;exact this)
  obtain ⟨A4,n4,c4,rfl⟩:∃ A n c,v4=.slice A n c:=by
   obtain ⟨A,c,e⟩:=HO4.out.byt.shape
   exact ⟨_,_,_,e⟩
  have HKK:Hid (Own w3.heap.size w4 (.slice A4 n4 c4) S∧DkE w4 w.heap.size w.heap.size ⟨[],S,[],200,-1,false⟩ va vt∧Below w.heap.size w w4):=hid ⟨HSS.out ▸ HO4.out,HS.out ▸ H4.out,HB4W.out⟩
  by_cases k0:k < 0
  ·clear hp
   go_wp2_with fail
   have HAL:=hid (dkAll_any HKK.out.2.1 ⟨by show (-1:Int)≤-1;omega,by show (-1:Int)≤9223372036854775807;omega,by show (0:Int)≤200;omega,by show (200:Int)≤1048576;omega,by show ((([]:List UInt8).length:Nat):Int) + (S.length:Nat) + (([]:List UInt8).length:Nat)≤200;have:=HSL.out;have:=HL.out;simp only [List.length_nil];omega,fun _=>rfl⟩)
   go_wp2_with fail
   refine HAL.out.mono ?_
   rintro e w5 ⟨v5,rfl,ho5,hb5⟩
   have HB5:=hid (HKK.out.2.2.trans (hb5.mono HKK.out.2.2.size))
   have HW5:=hid (HKK.out.1.byt.below hb5)
   have HX5:Hid (Byt w5 v5 S):=hid (by have:=ho5.byt;simpa using this)
   obtain ⟨A5,n5,c5,rfl⟩:∃ A n c,v5=.slice A n c:=by
    obtain ⟨A,c,e⟩:=ho5.byt.shape
    exact ⟨_,_,_,e⟩
   clear ho5 hb5
   go_wp2_with fail
   go_loopw [13] (fun s13 wr=>∃ i:Nat,i≤2∧s13=.int .i64 i∧Hid (Below w5.heap.size w5 wr)) (fun s13 _=>2 - (intOf s13).toNat)
   case atStart=>exact ⟨0,by omega,rfl,hid (Below.refl _ _)⟩
   case round=>
    obtain ⟨i,hi,rfl,HBR⟩:=hrel
    by_cases i0:i=0
    ·subst i0
     have HND:Hid (NoDk wr (.pointer none)):=hid (.inl rfl)
     go_wp2_with fail
     refine (noArm HND.out 1).mono ?_
     rintro e w6 ⟨rfl,rfl⟩
     go_wp2_with fail
     refine (noCrash HND.out 1).mono ?_
     rintro e w6 ⟨rfl,rfl⟩
     go_wp2_with fail
     refine (noAll HND.out).mono ?_
     rintro e w6 ⟨rfl,rfl⟩
     go_wp2_with fail
     refine (noAppend HND.out _).mono ?_
     rintro e w6 ⟨rfl,rfl⟩
     go_wp2_with fail
     refine (noSync HND.out).mono ?_
     rintro e w6 ⟨rfl,rfl⟩
     go_wp2_with fail
     refine (noCut HND.out 0).mono ?_
     rintro e w6 ⟨rfl,rfl⟩
     go_wp2_with fail
     refine (noSpoil HND.out 0 1).mono ?_
     rintro e w6 ⟨rfl,rfl⟩
     go_wp2_with fail
     refine (noDead HND.out).mono ?_
     rintro e w6 ⟨rfl,rfl⟩
     go_wp2_with fail
     refine (noSafe HND.out).mono ?_
     rintro e w6 ⟨rfl,rfl⟩
     go_wp2_with fail
     go_roundw
     case rel=>exact ⟨1,by omega,rfl,HBR⟩
     case measure=>simp [intOf]
    by_cases i1:i=1
    ·subst i1
     go_upto_region 21 with (fail)
     have HBR2:Hid (Below w5.heap.size w5 (wr.alloc (.cells #[.bool false,.int .i64 0,.slice none 0 0,.int .i64 0,.int .i64 0,.bool false,.slice none 0 0] 46))):=hid (HBR.out.alloc HBR.out.size _)
     have HND:Hid (NoDk (wr.alloc (.cells #[.bool false,.int .i64 0,.slice none 0 0,.int .i64 0,.int .i64 0,.bool false,.slice none 0 0] 46)) (.pointer (some ⟨wr.heap.size,0,none⟩))):=hid (.inr ⟨_,rfl,heapA_new _ _⟩)
     generalize (wr.alloc (.cells #[.bool false,.int .i64 0,.slice none 0 0,.int .i64 0,.int .i64 0,.bool false,.slice none 0 0] 46))=wr2 at *
     generalize wr.heap.size=gz at *
     go_wp2_with fail
     refine (noArm HND.out 1).mono ?_
     rintro e w6 ⟨rfl,rfl⟩
     go_wp2_with fail
     refine (noCrash HND.out 1).mono ?_
     rintro e w6 ⟨rfl,rfl⟩
     go_wp2_with fail
     refine (noAll HND.out).mono ?_
     rintro e w6 ⟨rfl,rfl⟩
     go_wp2_with fail
     refine (noAppend HND.out _).mono ?_
     rintro e w6 ⟨rfl,rfl⟩
     go_wp2_with fail
     refine (noSync HND.out).mono ?_
     rintro e w6 ⟨rfl,rfl⟩
     go_wp2_with fail
     refine (noCut HND.out 0).mono ?_
     rintro e w6 ⟨rfl,rfl⟩
     go_wp2_with fail
     refine (noSpoil HND.out 0 1).mono ?_
     rintro e w6 ⟨rfl,rfl⟩
     go_wp2_with fail
     refine (noDead HND.out).mono ?_
     rintro e w6 ⟨rfl,rfl⟩
     go_wp2_with fail
     refine (noSafe HND.out).mono ?_
     rintro e w6 ⟨rfl,rfl⟩
     go_wp2_with fail
     go_roundw
     case rel=>exact ⟨2,by omega,rfl,HBR2⟩
     case measure=>simp [intOf]
    ·obtain rfl:i=2:=by omega
     have HSA:=hid (same_any _ _ S S wr (HX5.out.below HBR.out) (HW5.out.below HBR.out))
     rw [decide_eq_true rfl] at HSA
     have HBW:Hid (∀ n,Below w.heap.size w (wr.drewN n)):=hid (fun n=>below_drewN (HB5.out.trans (HBR.out.mono HB5.out.size)) n)
     clear i0 i1 hi
     go_wp2_with fail
     refine HSA.out.mono ?_
     rintro e w6 ⟨rfl,n,rfl⟩
     go_wp2_with fail
     refine (HFIN.out _ (HBW.out n)).mono ?_
     rintro e w7 ⟨rfl,hb7⟩
     go_wp2_with fail
     go_ret
     exact ⟨rfl,hb7⟩
  ·have k1:(N:Int)≤k:=by have:=HN.out;omega
   clear hp
   go_wp2_with fail
   have HAL:=hid (dkAll_any HKK.out.2.1 ⟨by show (-1:Int)≤-1;omega,by show (-1:Int)≤9223372036854775807;omega,by show (0:Int)≤200;omega,by show (200:Int)≤1048576;omega,by show ((([]:List UInt8).length:Nat):Int) + (S.length:Nat) + (([]:List UInt8).length:Nat)≤200;have:=HSL.out;have:=HL.out;simp only [List.length_nil];omega,fun _=>rfl⟩)
   go_wp2_with fail
   refine HAL.out.mono ?_
   rintro e w5 ⟨v5,rfl,ho5,hb5⟩
   have HB5:=hid (HKK.out.2.2.trans (hb5.mono HKK.out.2.2.size))
   have HW5:=hid (HKK.out.1.byt.below hb5)
   have HX5:Hid (Byt w5 v5 S):=hid (by have:=ho5.byt;simpa using this)
   obtain ⟨A5,n5,c5,rfl⟩:∃ A n c,v5=.slice A n c:=by
    obtain ⟨A,c,e⟩:=ho5.byt.shape
    exact ⟨_,_,_,e⟩
   clear ho5 hb5
   go_wp2_with fail
   go_loopw [13] (fun s13 wr=>∃ i:Nat,i≤2∧s13=.int .i64 i∧Hid (Below w5.heap.size w5 wr)) (fun s13 _=>2 - (intOf s13).toNat)
   case atStart=>exact ⟨0,by omega,rfl,hid (Below.refl _ _)⟩
   case round=>
    obtain ⟨i,hi,rfl,HBR⟩:=hrel
    by_cases i0:i=0
    ·subst i0
     have HND:Hid (NoDk wr (.pointer none)):=hid (.inl rfl)
     go_wp2_with fail
     refine (noArm HND.out 1).mono ?_
     rintro e w6 ⟨rfl,rfl⟩
     go_wp2_with fail
     refine (noCrash HND.out 1).mono ?_
     rintro e w6 ⟨rfl,rfl⟩
     go_wp2_with fail
     refine (noAll HND.out).mono ?_
     rintro e w6 ⟨rfl,rfl⟩
     go_wp2_with fail
     refine (noAppend HND.out _).mono ?_
     rintro e w6 ⟨rfl,rfl⟩
     go_wp2_with fail
     refine (noSync HND.out).mono ?_
     rintro e w6 ⟨rfl,rfl⟩
     go_wp2_with fail
     refine (noCut HND.out 0).mono ?_
     rintro e w6 ⟨rfl,rfl⟩
     go_wp2_with fail
     refine (noSpoil HND.out 0 1).mono ?_
     rintro e w6 ⟨rfl,rfl⟩
     go_wp2_with fail
     refine (noDead HND.out).mono ?_
     rintro e w6 ⟨rfl,rfl⟩
     go_wp2_with fail
     refine (noSafe HND.out).mono ?_
     rintro e w6 ⟨rfl,rfl⟩
     go_wp2_with fail
     go_roundw
     case rel=>exact ⟨1,by omega,rfl,HBR⟩
     case measure=>simp [intOf]
    by_cases i1:i=1
    ·subst i1
     go_upto_region 21 with (fail)
     have HBR2:Hid (Below w5.heap.size w5 (wr.alloc (.cells #[.bool false,.int .i64 0,.slice none 0 0,.int .i64 0,.int .i64 0,.bool false,.slice none 0 0] 46))):=hid (HBR.out.alloc HBR.out.size _)
     have HND:Hid (NoDk (wr.alloc (.cells #[.bool false,.int .i64 0,.slice none 0 0,.int .i64 0,.int .i64 0,.bool false,.slice none 0 0] 46)) (.pointer (some ⟨wr.heap.size,0,none⟩))):=hid (.inr ⟨_,rfl,heapA_new _ _⟩)
     generalize (wr.alloc (.cells #[.bool false,.int .i64 0,.slice none 0 0,.int .i64 0,.int .i64 0,.bool false,.slice none 0 0] 46))=wr2 at *
     generalize wr.heap.size=gz at *
     go_wp2_with fail
     refine (noArm HND.out 1).mono ?_
     rintro e w6 ⟨rfl,rfl⟩
     go_wp2_with fail
     refine (noCrash HND.out 1).mono ?_
     rintro e w6 ⟨rfl,rfl⟩
     go_wp2_with fail
     refine (noAll HND.out).mono ?_
     rintro e w6 ⟨rfl,rfl⟩
     go_wp2_with fail
     refine (noAppend HND.out _).mono ?_
     rintro e w6 ⟨rfl,rfl⟩
     go_wp2_with fail
     refine (noSync HND.out).mono ?_
     rintro e w6 ⟨rfl,rfl⟩
     go_wp2_with fail
     refine (noCut HND.out 0).mono ?_
     rintro e w6 ⟨rfl,rfl⟩
     go_wp2_with fail
     refine (noSpoil HND.out 0 1).mono ?_
     rintro e w6 ⟨rfl,rfl⟩
     go_wp2_with fail
     refine (noDead HND.out).mono ?_
     rintro e w6 ⟨rfl,rfl⟩
     go_wp2_with fail
     refine (noSafe HND.out).mono ?_
     rintro e w6 ⟨rfl,rfl⟩
     go_wp2_with fail
     go_roundw
     case rel=>exact ⟨2,by omega,rfl,HBR2⟩
     case measure=>simp [intOf]
    ·obtain rfl:i=2:=by omega
     have HSA:=hid (same_any _ _ S S wr (HX5.out.below HBR.out) (HW5.out.below HBR.out))
     rw [decide_eq_true rfl] at HSA
     have HBW:Hid (∀ n,Below w.heap.size w (wr.drewN n)):=hid (fun n=>below_drewN (HB5.out.trans (HBR.out.mono HB5.out.size)) n)
     clear i0 i1 hi
     go_wp2_with fail
     refine HSA.out.mono ?_
     rintro e w6 ⟨rfl,n,rfl⟩
     go_wp2_with fail
     refine (HFIN.out _ (HBW.out n)).mono ?_
     rintro e w7 ⟨rfl,hb7⟩
     go_wp2_with fail
     go_ret
     exact ⟨rfl,hb7⟩
theorem lawDiskNobody_all (v:Value) (l:List UInt8) (k:Int) (y:Nat) (w:World) (hv:Byt w v l) (_:(Lit.int .i64 k).wf=true) (hy:y≤255):
  Calls Try.prog 5 #[v,.int .i64 k,.int .u8 (y:Int)] w fun e w'=>e=.returned (.bool true)∧Below w.heap.size w w':=lawDiskNobody_any v l k y w hv hy
end Go.Proofs.Ytocnobllccdocaa
