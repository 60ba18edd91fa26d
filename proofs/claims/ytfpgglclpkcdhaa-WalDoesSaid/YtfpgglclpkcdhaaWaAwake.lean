/-
  The laws' small example: two records are there behind a crash.
-/
import Derived.Test.YtfpgglclpkcdhaaDkCodeC
import Derived.Test.YtfpgglclpkcdhaaWaCodeC
namespace Go.Proofs.Ytfpgglclpkcdhaa
set_option maxRecDepth 20000
open Go.RowKit
theorem open_new (room:Int):openE (newDk room)=0∧openR (newDk room)=[]∧openD (newDk room)=newDk room:=by
 obtain ⟨j,hj,h1,h2,h3⟩:=open_crash (D:=newDk room) (kept:=[]) (tried:=[]) (n:=0) (fun r h=>by cases h) (fun r h=>by cases h) rfl rfl rfl rfl rfl
 obtain rfl:j=0:=by simpa using hj
 exact ⟨h1,h2,h3⟩
theorem put_live {V:WaM} {kept l:List (List UInt8)} (w:WellW V.d kept) (hi:V.is_=true) (hb:V.broken=false) (hl:V.d.left=-1) (hm:MayR l) (hr:((flatR kept).length:Int) + (flatR l).length≤V.d.room):putE V l=0∧WellW (putD V l) (kept ++ l):=by
 rcases put_keeps w hi hb hr with ⟨h1,_,h2,_⟩ | ⟨h1,_⟩ | ⟨_,h1,_⟩
 ·exact ⟨h1,h2⟩
 ·exfalso
  have hno:¬ (V.is_=false∨V.broken=true):=by rw [hi,hb];simp
  have hnm:¬ ¬ MayR l:=fun h=>h hm
  have hd1:¬ V.d.dead=true:=by rw [w.dead];simp
  have h0:¬ V.d.left=0:=by omega
  have hf:¬ V.d.room < V.d.s.length + V.d.m.length + (flatR l).length:=by
   rw [w.s,w.m]
   simp only [List.length_nil]
   omega
  unfold putE at h1
  rw [if_neg hno,if_neg hnm] at h1
  by_cases hl0:l=[]
  ·rw [if_pos hl0] at h1
   cases h1
  ·rw [if_neg hl0] at h1
   have hE:appE V.d (flatR l)=0:=by
    unfold appE
    rw [if_neg hd1,if_neg hf,if_neg h0]
    split <;> rfl
   rw [hE,if_neg (by simp)] at h1
   have hD:appD V.d (flatR l)={ V.d with m:=V.d.m ++ flatR l }:=by
    unfold appD stepDk
    rw [if_neg hd1,if_neg hf,if_neg (flatR_pos hl0),if_neg h0,if_neg h0,if_pos (by omega)]
   rw [hD] at h1
   unfold syncE at h1
   rw [if_neg hd1,if_neg h0] at h1
   cases h1
 ·exact absurd hm h1
theorem open_kept {D:DkM} {kept:List (List UInt8)} (w:WellW D kept):openE (crashD D 0)=0∧openR (crashD D 0)=kept:=by
 obtain ⟨j,hj,h1,h2,_⟩:=open_crash (D:=crashD D 0) (kept:=kept) (tried:=[]) (n:=0) w.k (fun r h=>by cases h) (by show D.s ++ _=_;rw [w.s];rfl) rfl rfl rfl rfl
 refine ⟨h1,?_⟩
 rw [h2]
 simp
theorem els_two_bt (w:World) (a b:BtM):Els btl 1 (w.alloc (.cells #[a.v,b.v] 33)) (.slice (some ⟨w.heap.size,0,none⟩) 2 2) [a,b]:=by
 refine ⟨_,2,rfl,Nat.le_refl _,by unfold maxLen;omega,fun _=>⟨w.heap.size,0,rfl,by simp,fun j hj k u hu=>?_⟩⟩
 obtain ⟨rfl,rfl⟩:k=0∧u=([a,b][j]).v:=by
  match k,hu with
  | 0,hu=>exact ⟨rfl,by injection hu with h;exact h.symm⟩
  | k + 1,hu=>simp [btl] at hu
 rw [Nat.zero_add,Nat.mul_one,Nat.add_zero,cell_blk (heap_alloc_new w _) j]
 match j,hj with
 | 0,_=>rfl
 | 1,_=>rfl
 | j + 2,h=>exact absurd h (by simp)
set_option maxHeartbeats 3200000 in
theorem walAwake_any (w:World):Calls Try.prog 7 #[] w fun e w'=>e=.returned (.bool true)∧Below w.heap.size w w':=by
 go_enter Try.func7,Try.ntmps7
 go_wp2_with fail
 refine (dkNew_yes 100 w (by omega) (by omega)).mono ?_
 rintro e w1 ⟨rfl,h1,hb1⟩
 have HG1:=hid (newDk_good (room:=100) (by omega) (by omega))
 have HB1:=hid hb1
 have HO1:=hid (walOpen_any h1 HG1.out (by decide))
 obtain ⟨o1,o2,o3⟩:=open_new 100
 have HH1:=hid h1
 clear h1 hb1
 go_wp2_with fail
 refine HO1.out.mono ?_
 rintro e w2 ⟨p,x,rfl,⟨va2,vt2,e2,t2,n2,_,hy⟩,_⟩
 rw [o1] at hy
 obtain ⟨c,L,rfl,hc,hw2,ho2,_,hbl,_⟩:=hy rfl
 rw [o2] at hbl
 rw [o3] at e2
 obtain rfl:L=[]:=by
  have:=congrArg List.length hbl
  rw [bls_length] at this
  exact List.eq_nil_of_length_eq_zero this
 obtain ⟨XA,XC,rfl⟩:=ho2.shape
 have HB2:=hid (t2.below HB1.out (Nat.le_refl _) (fun k e=>(HH1.out.o.base e).1) HB1.out.size)
 have HE2:=hid e2
 have HW2:=hid hw2
 have HC:=hid (Nat.le_trans HB1.out.size hc)
 rw [o1]
 clear e2 t2 n2 hy hw2 ho2 hbl hc o1 o2 o3 HO1
 go_wp2_with fail
 have h7:=byt_new w2 [7] (C:=#[.int .u8 7]) rfl (by decide)
 have h8:=byt_new (w2.alloc (.cells #[.int .u8 7] 5)) [8] (C:=#[.int .u8 8]) rfl (by decide)
 have ba:Below w2.heap.size w2 (w2.alloc (.cells #[.int .u8 7] 5)):=(Below.refl _ _).alloc (Nat.le_refl _) _
 have bb:Below w2.heap.size w2 ((w2.alloc (.cells #[.int .u8 7] 5)).alloc (.cells #[.int .u8 8] 5)):=ba.alloc ba.size _
 have hel:=els_two_bt ((w2.alloc (.cells #[.int .u8 7] 5)).alloc (.cells #[.int .u8 8] 5)) ⟨some ⟨w2.heap.size,0,none⟩,1,[7]⟩ ⟨some ⟨(w2.alloc (.cells #[.int .u8 7] 5)).heap.size,0,none⟩,1,[8]⟩
 have hbt:Bts (((w2.alloc (.cells #[.int .u8 7] 5)).alloc (.cells #[.int .u8 8] 5)).alloc (.cells #[.slice (some ⟨w2.heap.size,0,none⟩) 1 1,.slice (some ⟨(w2.alloc (.cells #[.int .u8 7] 5)).heap.size,0,none⟩) 1 1] 33)) [⟨some ⟨w2.heap.size,0,none⟩,1,[7]⟩,⟨some ⟨(w2.alloc (.cells #[.int .u8 7] 5)).heap.size,0,none⟩,1,[8]⟩]:=fun t ht=>by
  simp only [List.mem_cons,List.not_mem_nil,or_false] at ht
  rcases ht with rfl | rfl
  ·exact (h7.alloc _).alloc _
  ·exact h8.alloc _
 have bc:=bb.alloc bb.size (.cells #[.slice (some ⟨w2.heap.size,0,none⟩) 1 1,.slice (some ⟨(w2.alloc (.cells #[.int .u8 7] 5)).heap.size,0,none⟩) 1 1] 33)
 have hz:(w2.alloc (.cells #[.int .u8 7] 5)).heap.size=w2.heap.size + 1:=by simp
 have hz2:((w2.alloc (.cells #[.int .u8 7] 5)).alloc (.cells #[.int .u8 8] 5)).heap.size=w2.heap.size + 1 + 1:=by simp
 have HWL:Hid (WellW (newDk 100) []):=hid ⟨HG1.out,rfl,rfl,rfl,fun r h=>by cases h⟩
 have HMR:Hid (MayR [[7],[8]]):=hid (by intro r hr;simp only [List.mem_cons,List.not_mem_nil,or_false] at hr;rcases hr with rfl | rfl <;> decide)
 have HPL:=hid (put_live (V:=⟨newDk 100,0,false,true⟩) HWL.out rfl rfl rfl HMR.out (by simp [flatR,recS_length,newDk]))
 have HPT:=hid (walPut_any (V:=⟨newDk 100,0,false,true⟩) (HE2.out.below bc) (HW2.out.below bc) rfl HG1.out (Nat.le_trans HB2.out.size bc.size) (by decide) hel hbt ⟨by simp,fun t ht=>by
  simp only [List.mem_cons,List.not_mem_nil,or_false] at ht
  rcases ht with rfl | rfl
  ·show (1:Nat)≤500
   omega
  ·show (1:Nat)≤500
   omega⟩)
 have HB3:=hid (HB2.out.trans (bc.mono HB2.out.size))
 have HE3:=hid (HE2.out.below bc)
 rw [hz,hz2] at HPT
 rw [hz] at HB3 HE3
 unfold bls at HPT
 simp only [List.map_cons,List.map_nil,HPL.out.1] at HPT
 obtain ⟨D3,HD3⟩:∃ q:DkM,Hid (putD ⟨newDk 100,0,false,true⟩ [[7],[8]]=q):=⟨_,hid rfl⟩
 have HWL3:Hid (WellW D3 [[7],[8]]):=hid (by have:=HPL.out.2;rw [HD3.out] at this;exact this)
 clear h7 h8 ba bb bc hel hbt hz hz2
 refine HPT.out.mono ?_
 rintro e w3 ⟨rfl,va3,vt3,e3,_,t3,n3,_⟩
 rw [HD3.out] at e3
 have HB4:=hid (t3.below HB3.out (Nat.le_refl _) HC.out (fun k e=>(HE3.out.o.base e).1) HB3.out.size)
 have HCR:=hid (dkCrash_any e3 HWL3.out.g HB4.out.size 0)
 have HO3:=hid e3.o
 clear e3 t3 n3 HPT
 go_wp2_with fail
 refine HCR.out.mono ?_
 rintro e w4 ⟨rfl,va4,vt4,e4,t4,n4,_⟩
 have HB5:=hid (t4.below HB4.out (Nat.le_refl _) (fun k e=>(HO3.out.base e).1) HB4.out.size)
 have HOK:=hid (open_kept HWL3.out)
 have HG4:=hid (crashD_good HWL3.out.g 0)
 have HZ4:Hid ((crashD D3 0).s.length + (crashD D3 0).m.length≤900000):=hid (by
  show (D3.s ++ _).length + 0≤900000
  rw [HWL3.out.s]
  simp [flatR,recS_length])
 have HO5:=hid (walOpen_any e4 HG4.out HZ4.out)
 have HO4:=hid e4.o
 clear e4 t4 n4 HCR
 go_wp2_with fail
 refine HO5.out.mono ?_
 rintro e w5 ⟨p,x,rfl,⟨va5,vt5,e5,t5,n5,_,hy⟩,_⟩
 rw [HOK.out.1] at hy
 obtain ⟨c5,L5,rfl,hc5,hw5,ho5,_,hbl,_⟩:=hy rfl
 rw [HOK.out.2] at hbl
 have hL2:L5.length=2:=by
  have:=congrArg List.length hbl
  rw [bls_length] at this
  exact this
 obtain ⟨YA,YC,rfl⟩:=ho5.shape
 rw [HOK.out.1]
 rw [hL2] at hw5 ⊢
 have HB6:=hid (t5.below HB5.out (Nat.le_refl _) (fun k e=>(HO4.out.base e).1) HB5.out.size)
 have HMA:=hid (walMany_any hw5)
 clear e5 t5 n5 hy hw5 ho5 hbl hc5 hL2 HO5
 go_wp2_with fail
 refine HMA.out.mono ?_
 rintro e w6 ⟨rfl,rfl⟩
 go_wp2_with fail
 go_ret
 exact ⟨rfl,HB6.out⟩
end Go.Proofs.Ytfpgglclpkcdhaa
