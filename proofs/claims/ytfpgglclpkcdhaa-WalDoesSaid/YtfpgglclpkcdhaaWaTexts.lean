/-
  Are lists of texts the same? Variables of acts. Printed with gentx.py.
-/
import Derived.Test.YtfpgglclpkcdhaaWaAct
namespace Go.Proofs.Ytfpgglclpkcdhaa
set_option maxRecDepth 20000
open Go.RowKit
theorem run_zero_aw (w:World):(zeroValue 44).run Try.prog w=.ok (.agg (awc awZ)) w:=by
 have h:=zero_aw
 cases hq:Try.prog.info? 44 with
 | none=>rw [hq] at h;cases h
 | some i=>
  rw [hq] at h
  have hz:i.zero=some (.agg (awc awZ)):=h
  simp [zeroValue,typeInfo,hq,hz]
theorem sized_aw:(Try.prog.info? 44).map (·.size)=some 6:=by kernel_rfl
noncomputable def allocAw (w : World) : Result Next := Sem.run Try.prog (execOp (fun _ => undef) { dst := none, op := .alloc 44, type := 0, pos := "", after := #[], guard := none }) w
theorem exec_alloc_aw (r:Operand→Value) (dst:Option Tmp) (ty:TypeId) (pos:String) (after:Array Edge) (guard:Option (Nat × Bool)) (w:World):
  Sem.run Try.prog (execOp r { dst:=dst,op:=.alloc 44,type:=ty,pos:=pos,after:=after,guard:=guard }) w=allocAw w:=rfl
theorem allocAw_eq (w:World):allocAw w=.ok (.value (.pointer (some ⟨w.heap.size,0,none⟩))) (w.alloc (.cells (awc awZ) 44)):=by
 unfold allocAw execOp
 simp only [Sem.run_bind,Instr.alloc,run_zero_aw,newVar,newRow,run_newObj_alloc,Sem.run_pure,Result.andThen_ok,Value.cells]
noncomputable def storeAw (p v:Value) (w:World):Result Next:=Sem.run Try.prog (execOp (fun x=>match x with
 | .tmp 0=>p
 | _ => v) { dst := none, op := .store 44 (.tmp 0) (.tmp 1), type := 0, pos := "", after := #[], guard := none }) w
theorem exec_store_aw (r:Operand→Value) (x y:Operand) (dst:Option Tmp) (ty:TypeId) (pos:String) (after:Array Edge) (guard:Option (Nat × Bool)) (w:World):
  Sem.run Try.prog (execOp r { dst:=dst,op:=.store 44 x y,type:=ty,pos:=pos,after:=after,guard:=guard }) w=storeAw (r x) (r y) w:=rfl
theorem storeAw_eq {w:World} {g:Nat} {t:TypeId} {C0 C:Array Value} (hg:w.heap[g]?=some (.cells C0 t (0,0))) (h0:C0.size=6) (hC:C.size=6) (h1:C.all (·.oneCell')=true):
  storeAw (.pointer (some ⟨g,0,none⟩)) (.agg C) w=.ok .skip (setSe w g C):=by
 have:=run_storeVar_row (P:=Try.prog) w g t 44 C0 C hg (by rw [sized_aw,hC]) (by rw [h0,hC]) h1
 unfold storeAw execOp
 simp only [Instr.storeAt,Instr.sureAddr,Sem.run_bind,Sem.run_pure,Result.andThen_ok,this]
 rfl
theorem aw_var (w:World) {Z S:Array Value} (hZ:Z.size=6) (hS:S.size=6) (h1:S.all (·.oneCell')=true):
  storeAw (.pointer (some ⟨w.heap.size,0,none⟩)) (.agg S) (w.alloc (.cells Z 44))=.ok .skip (w.alloc (.cells S 44)):=by
 rw [storeAw_eq (heap_alloc_new w _) hZ hS h1,setSe_alloc]
theorem els_cell {w:World} {A:Option Addr} {N c:Nat} {L:List BtM} (h:Els btl 1 w (.slice A N c) L) {k:Nat} (hk:k < L.length):∃ b off,A=some ⟨b,off,none⟩∧∀ W,Below w.heap.size w W→W.cell? ⟨b,off + k,none⟩=some L[k].v:=by
 obtain ⟨b,off,e,hb,hc⟩:=h.at_.2.2.2 (by omega)
 refine ⟨b,off,e,fun W hW=>(World.cell?_of_block (hW.block b hb)).trans ?_⟩
 have:=hc k hk 0 _ rfl
 rw [Nat.mul_one,Nat.add_zero] at this
 exact this
theorem bls_ne_len {L M:List BtM} (h:¬ L.length=M.length):¬ bls L=bls M:=fun e=>h (by have:=congrArg List.length e;rwa [bls_length,bls_length] at this)
theorem bls_ne_at {L M:List BtM} {k:Nat} (h1:k < L.length) (h2:k < M.length) (h:¬ L[k].l=M[k].l):¬ bls L=bls M:=fun e=>h (by
 have e1:(bls L)[k]?=some L[k].l:=by unfold bls;rw [List.getElem?_map,List.getElem?_eq_getElem h1];rfl
 have e2:(bls M)[k]?=some M[k].l:=by unfold bls;rw [List.getElem?_map,List.getElem?_eq_getElem h2];rfl
 rw [e,e2] at e1
 injection e1 with e1
 exact e1.symm)
theorem bls_eq_all {L M:List BtM} (hl:L.length=M.length) (h:∀ k (h1:k < L.length) (h2:k < M.length),L[k].l=M[k].l):bls L=bls M:=by
 unfold bls
 refine List.ext_getElem (by simpa using hl) (fun k h1 h2=>?_)
 simp only [List.getElem_map]
 exact h k (by simpa using h1) (by simpa using h2)
set_option maxHeartbeats 1600000 in
theorem texts19_any (v1 v2:Value) (L1 L2:List BtM) (w:World) (h1:Els btl 1 w v1 L1) (h2:Els btl 1 w v2 L2) (b1:Bts w L1) (b2:Bts w L2) (hl:L1.length≤1000000):
  Calls Try.prog 14 #[v1,v2] w fun e w'=>e=.returned (.bool (decide (bls L1=bls L2)))∧Below w.heap.size w w':=by
 obtain ⟨A1,c1,rfl⟩:=h1.shape
 obtain ⟨A2,c2,rfl⟩:=h2.shape
 obtain ⟨N,HN⟩:∃ q:Nat,Hid (L1.length=q):=⟨_,hid rfl⟩
 obtain ⟨M,HM⟩:∃ q:Nat,Hid (L2.length=q):=⟨_,hid rfl⟩
 rw [HN.out] at h1 hl ⊢
 rw [HM.out] at h2 ⊢
 have HE1:=hid (fun k (hk:k < L1.length)=>els_cell h1 hk)
 have HE2:=hid (fun k (hk:k < L2.length)=>els_cell h2 hk)
 have HB1:Hid (∀ k (h:k < L1.length),∀ W,Below w.heap.size w W→Byt W L1[k].v L1[k].l):=hid (fun k hk W hW=>(b1 _ (List.getElem_mem hk)).below hW)
 have HB2:Hid (∀ k (h:k < L2.length),∀ W,Below w.heap.size w W→Byt W L2[k].v L2[k].l):=hid (fun k hk W hW=>(b2 _ (List.getElem_mem hk)).below hW)
 have HL:=hid hl
 obtain ⟨Q,HQ⟩:∃ q:Bool,Hid (decide (bls L1=bls L2)=q):=⟨_,hid rfl⟩
 rw [HQ.out]
 clear h1 h2 b1 b2 hl
 by_cases hne:N=M
 ·subst hne
  have hneq:((N:Int) != (N:Int))=false:=by simp
  go_enter Try.func14,Try.ntmps14
  go_wp2_with fail
  clear hneq
  go_loopw [5] (fun s wr=>∃ k:Nat,k≤N∧s=.int .i64 (k:Int)∧Hid (∀ j (h1:j < L1.length) (h2:j < L2.length),j < k→L1[j].l=L2[j].l)∧Hid (Below w.heap.size w wr)) (fun s _=>N - (intOf s).toNat)
  case atStart=>exact ⟨0,Nat.zero_le _,rfl,hid (fun j _ _ h=>absurd h (Nat.not_lt_zero _)),hid (Below.refl _ _)⟩
  case round=>
   obtain ⟨k,hk,rfl,HJ,HB⟩:=hrel
   by_cases hlt:k < N
   ·have hI:(k:Int) < (N:Int):=by omega
    have hk1:k < L1.length:=by rw [HN.out];exact hlt
    have hk2:k < L2.length:=by rw [HM.out];exact hlt
    obtain ⟨p1,o1,rfl,hc1⟩:=HE1.out k hk1
    obtain ⟨p2,o2,rfl,hc2⟩:=HE2.out k hk2
    have y1:=HB1.out k hk1
    have y2:=HB2.out k hk2
    have HNE:Hid (¬ L1[k].l=L2[k].l→Q=false):=hid (fun h=>by rw [← HQ.out];exact decide_eq_false (bls_ne_at hk1 hk2 h))
    have HJN:Hid (L1[k].l=L2[k].l→∀ j (h1:j < L1.length) (h2:j < L2.length),j < k + 1→L1[j].l=L2[j].l):=hid (fun h j h1 h2 hj=>by
     by_cases e:j=k
     ·subst e;exact h
     ·exact HJ.out j h1 h2 (by omega))
    generalize L1[k]=t1 at *
    generalize L2[k]=t2 at *
    obtain ⟨TA1,TN1,TC1,HT1⟩:∃ A n c,Hid (t1.v=.slice A n c):=⟨_,_,_,hid rfl⟩
    obtain ⟨TA2,TN2,TC2,HT2⟩:∃ A n c,Hid (t2.v=.slice A n c):=⟨_,_,_,hid rfl⟩
    rw [HT1.out] at hc1 y1
    rw [HT2.out] at hc2 y2
    have HC1:=hid hc1
    have HC2:=hid hc2
    have HY1:=hid y1
    have HY2:=hid y2
    have HLT:=hid hlt
    have HWI:Hid (wrap64 ((k:Int) + 1)=((k + 1:Nat):Int)):=hid (by have:=HL.out;unfold wrap64;omega)
    clear hc1 hc2 y1 y2 hk1 hk2 hlt hk HJ
    go_upto_region 6 with (fail)
    have HBD:Hid (Below w.heap.size w wr.drew):=hid HB.out.drew
    refine wp_region_held_drew (S:=fun W=>W.cell? ⟨p1,o1 + k,none⟩=some (.slice TA1 TN1 TC1)∧W.cell? ⟨p2,o2 + k,none⟩=some (.slice TA2 TN2 TC2)) (by kernel_rfl) ⟨HC1.out _ HBD.out,HC2.out _ HBD.out⟩ (fun hHeld=>?_)
    refine' tkq2 0 rfl ?_;try simp only [lay]
    refine' tkq2 1 rfl ?_;try simp only [lay]
    refine' tkq2 2 rfl ?_;try simp only [lay]
    refine' tkq2 3 rfl ?_;try simp only [lay]
    refine' tkq2 4 rfl ?_;try simp only [lay]
    refine' tkq2 5 rfl ?_;try simp only [lay]
    refine' tkq2 6 rfl ?_;try simp only [lay]
    refine' tkq2 7 rfl ?_;try simp only [lay]
    refine call_on (i:=8) rfl (by kernel_rfl) (by rfl) (fun K hK=>?_)
    go_simp
    refine (same_any _ _ t1.l t2.l _ (HY1.out _ HBD.out) (HY2.out _ HBD.out)).mono ?_
    rintro e w1 ⟨rfl,n1,rfl⟩
    have HBN:Hid (Below w.heap.size w (wr.drew.drewN n1)):=hid (below_drewN HBD.out n1)
    obtain ⟨q,HQQ⟩:∃ q:Bool,Hid (decide (t1.l=t2.l)=q):=⟨_,hid rfl⟩
    rw [HQQ.out]
    refine hK.out _ _ (⟨HC1.out _ HBN.out,HC2.out _ HBN.out⟩) (fun hHeld=>?_)
    clear hK K
    try simp only [lay]
    refine' tkq 9 rfl ?_;try simp only [lay]
    refine wpAnyH_done (by kernel_rfl) ?_ _
    clear hHeld
    cases q with
    | false=>
     have HQF:=hid (HNE.out (of_decide_eq_false HQQ.out))
     go_wp2_with fail
     go_ret
     exact ⟨by rw [HQF.out];rfl,HBN.out⟩
    | true=>
     have HJ2:=hid (HJN.out (of_decide_eq_true HQQ.out))
     go_wp2_with fail
     go_roundw
     case rel=>exact ⟨k + 1,HLT.out,by rw [HWI.out],HJ2,hid (below_drewN HB.out _)⟩
     case measure=>exact aw_meas HLT.out HWI.out
   ·have hI:¬ (k:Int) < (N:Int):=by omega
    obtain rfl:k=N:=by omega
    have HQT:Hid (Q=true):=hid (by
     rw [← HQ.out]
     exact decide_eq_true (bls_eq_all (by rw [HN.out,HM.out]) (fun j h1 h2=>HJ.out j h1 h2 (by rw [HN.out] at h1;exact h1))))
    clear hlt hk
    go_wp2_with fail
    go_ret
    exact ⟨by rw [HQT.out];rfl,HB.out⟩
 ·have hneq:((N:Int) != (M:Int))=true:=by simp;omega
  have HQF:Hid (Q=false):=hid (by rw [← HQ.out];exact decide_eq_false (bls_ne_len (by rw [HN.out,HM.out];exact hne)))
  clear hne
  go_enter Try.func14,Try.ntmps14
  go_wp2_with fail
  go_ret
  exact ⟨by rw [HQF.out];rfl,Below.refl _ _⟩
end Go.Proofs.Ytfpgglclpkcdhaa
