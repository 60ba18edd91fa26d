/-
  disk's functions: Spoil; what nobody's disk tells.
-/
import Derived.Test.YtfpgglclpkcdhaaDkCodeC
namespace Go.Proofs.Ytfpgglclpkcdhaa
set_option maxRecDepth 20000
open Go.RowKit
def spoilL (l:List UInt8) (k:Int) (x:UInt8):List UInt8:=if 0≤k∧k < l.length then l.set k.toNat (l[k.toNat]?.getD 0 ^^^ x) else l
section
variable {w:World} {b B:Nat} {D:DkM} {va vt:Value}
set_option maxHeartbeats 1600000 in
theorem dkSpoil_any (h:DkE w b B D va vt) (hd:D.dead=false) (hh:D.h=[]) (hs:D.s=[]) (k:Int) (x:UInt8):
  Calls Try.prog 15 #[.pointer (some ⟨b,0,none⟩),.int .i64 k,.int .u8 (x.toNat:Int)] w fun e w'=>e=.returned (.int .i64 (if 0≤k∧k < D.m.length then 0 else 1))∧DkE w' b B { D with m:=spoilL D.m k x } va vt∧TnD b va.ownBlock w w':=by
 have HF:=hid (dkFault_any h)
 rw [hd] at HF
 simp only [Bool.false_eq_true,if_false] at HF
 have HH:=hid h
 unfold spoilL
 have ho:=h.o
 rw [hs,List.nil_append] at ho
 obtain ⟨_,_,c2,_,_,_,_⟩:=h.cells
 obtain ⟨L,HL⟩:∃ q:Nat,Hid (D.m.length=q):=⟨_,hid rfl⟩
 by_cases hp:0≤k∧k < D.m.length
 ·rw [if_pos hp,if_pos hp]
  obtain ⟨n,rfl⟩:∃ n:Nat,k=(n:Int):=⟨k.toNat,by omega⟩
  have hn:n < D.m.length:=by omega
  rw [Int.toNat_natCast,List.getElem?_eq_getElem hn,Option.getD_some]
  rcases ho.2 with ⟨rfl,h0⟩ | ⟨q,cap,cur,rfl,hg,hq,hnc,hmc,hsz,htk⟩
  ·omega
  have hcell:w.cell? ⟨q,0 + n,none⟩=some (bcell D.m[n]):=by
   rw [Nat.zero_add,World.ownsRow.cellAt ho n (by omega)]
   simp [bcells,hn]
  have hfr:w.frozen? ⟨q,0 + n,none⟩=false:=coBlk_free hq _
  obtain ⟨y,HY0,HY⟩:∃ y:Int,(0≤y∧y≤255)∧Hid ((D.m[n].toNat:Int)=y):=⟨_,byte_lt _,hid rfl⟩
  obtain ⟨z,HZ0,HZ⟩:∃ y:Int,(0≤y∧y≤255)∧Hid ((x.toNat:Int)=y):=⟨_,byte_lt _,hid rfl⟩
  obtain ⟨r,HR⟩:∃ y:Int,Hid (((D.m[n] ^^^ x).toNat:Int)=y):=⟨_,hid rfl⟩
  have hxr:=xor_byte D.m[n] x HY.out HZ.out HR.out
  unfold bcell at hcell
  rw [HY.out] at hcell
  rw [HZ.out]
  have hE:DkE (w.setCell ⟨q,0 + n,none⟩ (.int .u8 r)) b B { D with m:=D.m.set n (D.m[n] ^^^ x) } (.slice (some ⟨q,0,none⟩) D.m.length cap) vt:=by
   have hbq:b≠q:=blk_ne h.p hq (by decide)
   refine ⟨(Below.heap_setCell _ _ _ _ hbq).trans h.p,?_,?_,.inl hh⟩
   ·show Own B _ _ (D.s ++ D.m.set n (D.m[n] ^^^ x))
    rw [hs,List.nil_append,Nat.zero_add,← HR.out]
    exact own_set ho rfl (D.m[n] ^^^ x)
   ·have ht:=h.t
    show Bys _ vt D.h
    rw [hh] at ht ⊢
    exact ht.none _
  have hT:TnD b (Value.slice (some ⟨q,0,none⟩) D.m.length cap).ownBlock w (w.setCell ⟨q,0 + n,none⟩ (.int .u8 r)):=⟨rfl,rfl,rfl,by simp [World.setCell],fun i _ _ h3=>Below.heap_setCell _ _ _ _ (fun e=>h3 (by rw [e];rfl))⟩
  have HE:=hid (And.intro hE hT)
  have hnl:(n:Int) < (D.m.length:Int):=by omega
  obtain ⟨o,HO⟩:∃ o:Nat,Hid (0=o):=⟨_,hid rfl⟩
  obtain ⟨DD,HDD⟩:∃ q:DkM,Hid ({ D with m:=D.m.set n (D.m[n] ^^^ x) }=q):=⟨_,hid rfl⟩
  rw [HDD.out] at HE ⊢
  obtain ⟨V,HVA⟩:∃ v:Value,Hid (Value.slice (some ⟨q,0,none⟩) D.m.length cap=v):=⟨_,hid rfl⟩
  have hVo:V=.slice (some ⟨q,o,none⟩) L cap:=by rw [← HVA.out,HO.out,HL.out]
  rw [HVA.out] at HE c2 ⊢
  rw [hVo] at c2
  rw [HL.out] at hnl
  rw [show (0:Nat) + n=o + n from by rw [HO.out]] at hcell hfr HE
  have hnc2:L≤cap:=by rw [← HL.out];exact hnc
  clear hp ho hE hT hq hsz htk hg h hVo hnc
  go_enter Try.func15,Try.ntmps15
  go_wp2_with fail
  refine HF.out.mono ?_
  rintro e w1 ⟨rfl,rfl⟩
  go_wp2_with fail
  go_ret
  exact ⟨rfl,HE.out⟩
 ·rw [if_neg hp,if_neg hp]
  obtain ⟨A,N,c,rfl,hN⟩:=dk_shape h
  have hNm:N=L:=by rw [hN,hs,← HL.out];simp
  have HTN:Hid (TnD b (Value.slice A N c).ownBlock w w):=hid (TnD.refl _ _ _)
  by_cases k0:k < 0
  ·clear hp ho hN h hNm
   go_enter Try.func15,Try.ntmps15
   go_wp2_with fail
   refine HF.out.mono ?_
   rintro e w1 ⟨rfl,rfl⟩
   go_wp2_with fail
   go_ret
   exact ⟨rfl,HH.out,HTN.out⟩
  ·have k1:(N:Int)≤k:=by rw [hNm,← HL.out];omega
   clear hp ho hN h hNm
   go_enter Try.func15,Try.ntmps15
   go_wp2_with fail
   refine HF.out.mono ?_
   rintro e w1 ⟨rfl,rfl⟩
   go_wp2_with fail
   go_ret
   exact ⟨rfl,HH.out,HTN.out⟩
end
def NoDk (w:World) (v:Value):Prop:=v=.pointer none∨∃ b,v=.pointer (some ⟨b,0,none⟩)∧w.heap[b]?=some (.cells #[.bool false,.int .i64 0,.slice none 0 0,.int .i64 0,.int .i64 0,.bool false,.slice none 0 0] 67 (0,0))
theorem NoDk.below {w w':World} {v:Value} (h:NoDk w v) (hb:Below w.heap.size w w'):NoDk w' v:=by
 rcases h with h | ⟨b,h,hc⟩
 ·exact .inl h
 ·exact .inr ⟨b,h,(hb.block b (lt_of_block hc)).trans hc⟩
section
variable {w:World} {v:Value}
theorem noGiven (h:NoDk w v):Calls Try.prog 45 #[v] w fun e w'=>e=.returned (.bool false)∧w=w':=by
 rcases h with rfl | ⟨b,rfl,hc⟩
 ·go_enter Try.func45,Try.ntmps45
  go_wp2
  go_ret
  exact ⟨rfl,rfl⟩
 ·have h0:w.cell? ⟨b,0,none⟩=some (.bool false):=by rw [coBlk_cell hc];rfl
  go_enter Try.func45,Try.ntmps45
  go_wp2
  go_ret
  exact ⟨rfl,rfl⟩
theorem noFault (h:NoDk w v):Calls Try.prog 39 #[v] w fun e w'=>e=.returned (.int .i64 5)∧w=w':=by
 go_enter Try.func39,Try.ntmps39
 go_wp2_with fail
 refine (noGiven h).mono ?_
 rintro e w1 ⟨rfl,rfl⟩
 go_wp2_with fail
 go_ret
 exact ⟨rfl,rfl⟩
theorem noArm (h:NoDk w v) (n:Int):Calls Try.prog 22 #[v,.int .i64 n] w fun e w'=>e=.returned (.tuple #[])∧w=w':=by
 go_enter Try.func22,Try.ntmps22
 go_wp2_with fail
 refine (noGiven h).mono ?_
 rintro e w1 ⟨rfl,rfl⟩
 go_wp2_with fail
 go_end0
 exact ⟨rfl,rfl⟩
theorem noCrash (h:NoDk w v) (n:Int):Calls Try.prog 23 #[v,.int .i64 n] w fun e w'=>e=.returned (.tuple #[])∧w=w':=by
 go_enter Try.func23,Try.ntmps23
 go_wp2_with fail
 refine (noGiven h).mono ?_
 rintro e w1 ⟨rfl,rfl⟩
 go_wp2_with fail
 try simp only [Exit.inBlock,Exit.then]
 refine bodyPost_ret (results_none rfl _ _ _) rfl ?_
 exact ⟨rfl,rfl⟩
theorem noDead (h:NoDk w v):Calls Try.prog 21 #[v] w fun e w'=>e=.returned (.bool true)∧w=w':=by
 go_enter Try.func21,Try.ntmps21
 go_wp2_with fail
 refine (noGiven h).mono ?_
 rintro e w1 ⟨rfl,rfl⟩
 go_wp2_with fail
 go_ret
 exact ⟨rfl,rfl⟩
theorem noSafe (h:NoDk w v):Calls Try.prog 44 #[v] w fun e w'=>e=.returned (.int .i64 0)∧w=w':=by
 go_enter Try.func44,Try.ntmps44
 go_wp2_with fail
 refine (noGiven h).mono ?_
 rintro e w1 ⟨rfl,rfl⟩
 go_wp2_with fail
 go_ret
 exact ⟨rfl,rfl⟩
theorem noAll (h:NoDk w v):Calls Try.prog 25 #[v] w fun e w'=>e=.returned (.tuple #[.slice none 0 0,.int .i64 5])∧w=w':=by
 go_enter Try.func25,Try.ntmps25
 go_wp2_with fail
 refine (noFault h).mono ?_
 rintro e w1 ⟨rfl,rfl⟩
 go_wp2_with fail
 go_ret2
 exact ⟨rfl,rfl⟩
theorem noAppend (h:NoDk w v) (x:Value):Calls Try.prog 40 #[v,x] w fun e w'=>e=.returned (.int .i64 5)∧w=w':=by
 go_enter Try.func40,Try.ntmps40
 go_wp2_with fail
 refine (noFault h).mono ?_
 rintro e w1 ⟨rfl,rfl⟩
 go_wp2_with fail
 go_ret
 exact ⟨rfl,rfl⟩
theorem noSync (h:NoDk w v):Calls Try.prog 41 #[v] w fun e w'=>e=.returned (.int .i64 5)∧w=w':=by
 go_enter Try.func41,Try.ntmps41
 go_wp2_with fail
 refine (noFault h).mono ?_
 rintro e w1 ⟨rfl,rfl⟩
 go_wp2_with fail
 go_ret
 exact ⟨rfl,rfl⟩
theorem noCut (h:NoDk w v) (n:Int):Calls Try.prog 42 #[v,.int .i64 n] w fun e w'=>e=.returned (.int .i64 5)∧w=w':=by
 go_enter Try.func42,Try.ntmps42
 go_wp2_with fail
 refine (noFault h).mono ?_
 rintro e w1 ⟨rfl,rfl⟩
 go_wp2_with fail
 go_ret
 exact ⟨rfl,rfl⟩
theorem noSpoil (h:NoDk w v) (n m:Int):Calls Try.prog 15 #[v,.int .i64 n,.int .u8 m] w fun e w'=>e=.returned (.int .i64 5)∧w=w':=by
 go_enter Try.func15,Try.ntmps15
 go_wp2_with fail
 refine (noFault h).mono ?_
 rintro e w1 ⟨rfl,rfl⟩
 go_wp2_with fail
 go_ret
 exact ⟨rfl,rfl⟩
end
end Go.Proofs.Ytfpgglclpkcdhaa
