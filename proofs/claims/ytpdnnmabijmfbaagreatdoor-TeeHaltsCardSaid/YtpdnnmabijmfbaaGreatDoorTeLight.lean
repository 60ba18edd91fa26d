/-
  tithinglaw17.Light: are steps not too great? Printed with gente.py.
-/
import Derived.Test.YtpdnnmabijmfbaaGreatDoorTeArg
namespace Go.Proofs.YtpdnnmabijmfbaaGreatDoor
set_option maxRecDepth 20000
open Go.RowKit
attribute [local go_sem ↓] exec_load_st exec_load_ac exec_slice_ac1
def LgPost (L:List SpM) (w:World) (e:Ending) (w':World):Prop:=∃ q,e=.returned (.bool q)∧(q=true→LitSp L)∧Below w.heap.size w w'
theorem els_sp {w:World} {A:Option Addr} {k c:Nat} {L:List SpM} (h:Els spl 253 w (.slice A k c) L) (ho:∀ a ∈ L,SpOk w a) (j:Nat) (hj:j < L.length):∃ b off,A=some ⟨b,off,none⟩∧∀ W,Below w.heap.size w W→SpRd W b (off + j * 253) L[j]:=by
 obtain ⟨b,off,e,hb,hc⟩:=h.at_.2.2.2 (by omega)
 exact ⟨b,off,e,fun W hW=>sp_read (range_kept (hc j hj) (hW.block b hb)) (ho _ (List.getElem_mem hj))⟩
theorem lg_meas {N k:Nat} (h:k < N) (h2:k≤30):N - (intOf (Value.int IntKind.i64 (wrap64 ((k:Int) + 1)))).toNat < N - (intOf (Value.int IntKind.i64 (k:Int))).toNat:=by
 have:wrap64 ((k:Int) + 1)=(k:Int) + 1:=by unfold wrap64;omega
 rw [this]
 simp only [intOf]
 omega
set_option maxHeartbeats 3200000 in
theorem light17_any (v:Value) (L:List SpM) (w:World) (hv:Els spl 253 w v L) (ho:∀ a ∈ L,SpOk w a):Calls Tryz.prog 5 #[v] w (LgPost L w):=by
 obtain ⟨A,c,rfl⟩:=hv.shape
 obtain ⟨N,HN⟩:∃ q:Nat,Hid (L.length=q):=⟨_,hid rfl⟩
 have HCEL:=hid (els_sp hv ho)
 have HOK:Hid (∀ k (h:k < L.length),SpOk w L[k]):=hid (fun k hk=>ho _ (List.getElem_mem hk))
 rw [HN.out]
 clear hv ho
 go_enter Tryz.func5,Tryz.ntmps5
 go_wp2_with fail
 go_loopw [3] (fun si wr=>∃ k:Nat,k≤N∧k≤31∧si=.int .i64 k∧Hid (∀ j (h:j < L.length),j < k→litS L[j].q=true∧L[j].L.length≤25∧L[j].v.bl.length≤1200)∧Hid (Below w.heap.size w wr)) (fun si _=>N - (intOf si).toNat)
 case atStart=>exact ⟨0,Nat.zero_le _,Nat.zero_le _,rfl,hid (fun _ _ h=>absurd h (Nat.not_lt_zero _)),hid (Below.refl _ _)⟩
 case round=>
  obtain ⟨k,hk,hk1,rfl,HL,HB⟩:=hrel
  by_cases hlt:k < N
  ·have hlt':(k:Int) < (N:Int):=by omega
   by_cases h30:k≤30
   ·have h30':(k:Int)≤30:=by omega
    have hkL:k < L.length:=by rw [HN.out];exact hlt
    obtain ⟨b,off,rfl,hrd⟩:=HCEL.out k hkL
    have HRD:=hid hrd
    have HKO:=hid (HOK.out k hkL)
    obtain ⟨x,HX⟩:∃ q:SpM,Hid (L[k]=q):=⟨_,hid rfl⟩
    rw [HX.out] at HRD HKO
    have HK2:=hid (And.intro hlt h30)
    clear hrd
    have HL15:Hid (∀ W,Below w.heap.size w W→Calls Tryz.prog 26 #[.agg (stc x.q)] W fun e w'=>e=.returned (.bool (litS x.q))∧Below W.heap.size W w'):=hid (fun W hb=>light15_any x.q W (HKO.out.q.below hb))
    have HL14:Hid (∀ W,Below w.heap.size w W→Calls Tryz.prog 27 #[.slice (some ⟨W.heap.size,0,none⟩) 1 1] (W.alloc (.cells (acc x.v) 62)) (LtPost [x.v] (W.alloc (.cells (acc x.v) 62)))):=hid (fun W hb=>light14_any _ [x.v] _ (els_one W x.v _ _ rfl) (fun a ha=>by
     obtain rfl:a=x.v:=by simpa using ha
     exact HKO.out.v.below (hb.alloc hb.size _)))
    have HSL:=hid (fun W=>sliceAc1_eq HKO.out.v.1 W)
    have hq:=(HRD.out wr HB.out).q
    obtain ⟨AQ,HAQ⟩:∃ C:Array Value,Hid (stc x.q=C):=⟨_,hid rfl⟩
    obtain ⟨AV,HAV⟩:∃ C:Array Value,Hid (acc x.v=C):=⟨_,hid rfl⟩
    obtain ⟨lt,HLT⟩:∃ q:Bool,Hid (litS x.q=q):=⟨_,hid rfl⟩
    obtain ⟨M,HM⟩:∃ q:Nat,Hid (x.L.length=q):=⟨_,hid rfl⟩
    rw [HAQ.out] at HL15 hq
    rw [HLT.out] at HL15
    rw [HAV.out] at HL14 HSL
    clear hk hk1
    go_wp2_with fail
    refine (HL15.out wr HB.out).mono ?_
    rintro e w1 ⟨rfl,hb1⟩
    have HB1:=hid (HB.out.trans (hb1.mono HB.out.size))
    clear hb1 hq
    cases lt with
    | false=>
     go_wp2_with fail
     go_ret
     exact ⟨_,rfl,(fun h=>by cases h),HB1.out⟩
    | true=>
    have hl:=(HRD.out w1 HB1.out).l
    unfold SpM.l at hl
    rw [HM.out] at hl
    by_cases hM:(25:Int) < (M:Int)
    ·go_wp2_with fail
     go_ret
     exact ⟨_,rfl,(fun h=>by cases h),HB1.out⟩
    have hv:=(HRD.out w1 HB1.out).v
    rw [HAV.out] at hv
    have hsl:=HSL.out w1
    have HMM:=hid hM
    go_wp2_with fail
    refine (HL14.out w1 HB1.out).mono ?_
    rintro e w2 ⟨q,rfl,hq,rfl⟩
    have HQ:=hid hq
    have HB2:=hid (HB1.out.alloc HB1.out.size (.cells AV 62))
    clear hl hv hsl hq hM
    generalize (w1.alloc (.cells AV 62))=w3 at *
    cases q with
    | false=>
     go_wp2_with fail
     go_ret
     exact ⟨_,rfl,(fun h=>by cases h),HB2.out⟩
    | true=>
    have HNEW:Hid (∀ j (h:j < L.length),j < k + 1→litS L[j].q=true∧L[j].L.length≤25∧L[j].v.bl.length≤1200):=hid (fun j hj hjk=>by
     by_cases e:j=k
     ·subst e
      rw [HX.out]
      refine ⟨HLT.out,?_,(HQ.out rfl).2 0 (by simp)⟩
      have:=HMM.out
      have:=HM.out
      omega
     ·exact HL.out j hj (by omega))
    have HWI:Hid (wrap64 ((k:Int) + 1)=(k:Int) + 1):=hid (by unfold wrap64;omega)
    clear hlt hlt' h30 h30' HX hkL
    go_wp2_with fail
    go_roundw
    case rel=>
     have:=HK2.out
     exact ⟨k + 1,by omega,by omega,by rw [HWI.out];rfl,HNEW,HB2⟩
    case measure=>exact lg_meas HK2.out.1 HK2.out.2
   ·have h30':¬ (k:Int)≤30:=by omega
    have hN:¬ (N:Int)≤30:=by omega
    clear hk hk1
    go_wp2_with fail
    go_ret
    exact ⟨_,rfl,(fun h=>by cases h),HB.out⟩
  ·have hlt':¬ (k:Int) < (N:Int):=by omega
   obtain rfl:k=N:=by omega
   by_cases h30:(k:Int)≤30
   ·have HH:=hid h30
    go_wp2_with fail
    go_ret
    exact ⟨_,rfl,(fun _=>⟨by have:=HN.out;have:=HH.out;omega,fun j hj=>HL.out j hj (by have:=HN.out;omega)⟩),HB.out⟩
   ·go_wp2_with fail
    go_ret
    exact ⟨_,rfl,(fun h=>by cases h),HB.out⟩
end Go.Proofs.YtpdnnmabijmfbaaGreatDoor
