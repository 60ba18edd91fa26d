/-
  Acts of a wal: as elements of slices, as they came in; Light.
-/
import Derived.Test.YtfpgglclpkcdhaaDkAct
import Derived.Test.YtfpgglclpkcdhaaWaWords
namespace Go.Proofs.Ytfpgglclpkcdhaa
set_option maxRecDepth 20000
open Go.ChangeShapes Go.WideShapes Go.ChangeAt Go.RowKit Go.Deep
attribute [local go_sem ↓] exec_load_ak
structure ActW where
 act:Int
 lA:Option Addr
 lc:Nat
 L:List BtM
 a:ActDk
 y:UInt8
def ActW.lv (x:ActW):Value:=.slice x.lA x.L.length x.lc
def awl (x:ActW):List Value:=[.int .i64 x.act,x.lv,.int .i64 x.a.act,x.a.b,.int .i64 x.a.n,.int .u8 (x.y.toNat:Int)]
def awc (x:ActW):Array Value:=(awl x).toArray
def awZ:ActW:=⟨0,none,0,[],akZ,0⟩
def AwOk (w:World) (x:ActW):Prop:=AkOk w x.a∧Els btl 1 w x.lv x.L∧Bts w x.L
theorem awZ_ok (w:World):AwOk w awZ:=⟨akZ_ok w,Els.nil w,fun t ht=>by cases ht⟩
theorem awl_length (a:ActW):(awl a).length=6:=rfl
theorem awl_one (a:ActW):∀ u ∈ awl a,u.oneCell'=true:=by
 intro u hu
 unfold awl at hu
 simp only [List.mem_cons,List.not_mem_nil,or_false] at hu
 rcases hu with rfl | rfl | rfl | rfl | rfl | rfl <;> rfl
noncomputable def loadAw (v : Value) (w : World) : Result Next := Sem.run Try.prog (execOp (fun _ => v) { dst := none, op := .load 44 (.tmp 0), type := 0, pos := "", after := #[], guard := none }) w
theorem exec_load_aw (r:Operand→Value) (x:Operand) (dst:Option Tmp) (ty:TypeId) (pos:String) (after:Array Edge) (guard:Option (Nat × Bool)) (w:World):
  Sem.run Try.prog (execOp r { dst:=dst,op:=.load 44 x,type:=ty,pos:=pos,after:=after,guard:=guard }) w=loadAw (r x) w:=rfl
theorem under_aw:Try.prog.underlying 44=some (.struct (Try.prog.fieldsOf 44)):=by kernel_rfl
theorem size_aw:(Try.prog.info? 44).map (·.size)=some 6:=by kernel_rfl
theorem loadAw_mid {w:World} {g o:Nat} {a:ActW} (hr:w.rangeAt g o (awl a)):loadAw (.pointer (some ⟨g,o,none⟩)) w=.ok (.value (.agg (awc a))) w:=by
 have:=run_loadAt_mid (P:=Try.prog) w g o 44 (awl a) _ hr under_aw rfl (by rw [size_aw,awl_length a])
 unfold loadAw execOp
 simp only [Sem.run_bind,this,Result.andThen_ok,Sem.run_pure]
 rfl
theorem info_aw:(Try.prog.info? 44).map (fun i=>(i.zero,i.size,decide (i.bytes≤100000)))=some (some (.agg (awc awZ)),6,true):=by kernel_rfl
theorem zero_aw:(Try.prog.info? 44).bind (·.zero)=some (.agg (awc awZ)):=by kernel_rfl
theorem eltAw (w:World):Elt awl (AwOk w) 6 44 22:=by
 refine ⟨by omega,fun _ _=>rfl,awl_one,by kernel_rfl,by kernel_rfl,?_⟩
 obtain ⟨i,hi,h⟩:=Option.map_eq_some_iff.1 info_aw
 injection h with h1 h
 injection h with h2 h3
 exact ⟨i,_,hi,h1,h2,of_decide_eq_true h3,rfl⟩
section
variable {H:Type} {enc:TypeId × Value→H} {w:World} {base:Nat} {spare:Nat→Bool} {held:Bool} {fuel:Nat} {cs:List Value} {x:DataW H × List MemPlace}
theorem trod_bts (h:DataW.trod enc Try.prog w base spare held fuel 30 cs=some x):∃ v L,cs=[v]∧Els btl 1 w v L∧Bts w L:=
 (eltBt (fun t=>Byt w t.v t.l)).trod btZ (Byt.nil w) (fun h=>by
  obtain ⟨v,l,rfl,hb⟩:=trod_bytes h
  obtain ⟨t,rfl,rfl⟩:=byt_bt hb
  exact ⟨t,hb,rfl⟩) h
theorem fields_aw:∃ f0 f1 f2 f3:Field,Try.prog.underlying 44=some (.struct #[f0,f1,f2,f3])∧(f0.type,f0.offset)=(3,0)∧(f1.type,f1.offset)=(30,1)∧(f2.type,f2.offset)=(42,2)∧(f3.type,f3.offset)=(5,5):=
 ⟨_,_,_,_,Try.underlying44,rfl,rfl,rfl,rfl⟩
theorem trod_aw (h:DataW.trod enc Try.prog w base spare held fuel 44 cs=some x):∃ a,AwOk w a∧cs=awl a:=by
 obtain ⟨f0,f1,f2,f3,hu,e0,e1,e2,e3⟩:=fields_aw
 injection e0 with t0 o0
 injection e1 with t1 o1
 injection e2 with t2 o2
 injection e3 with t3 o3
 obtain ⟨xs,m,_,_,hlen,hxl,hf⟩:=DataW.trod_struct hu h
 have hc:Try.prog.cellsOf 44=6:=by kernel_rfl
 have hci:Try.prog.cellsOf 3=1:=by kernel_rfl
 have hcb:Try.prog.cellsOf 30=1:=by kernel_rfl
 have hca:Try.prog.cellsOf 42=3:=by kernel_rfl
 have hcu:Try.prog.cellsOf 5=1:=by kernel_rfl
 rw [hc] at hlen
 have hx:xs.length=4:=hxl
 have g0:=hf 0 f0 rfl
 have g1:=hf 1 f1 rfl
 have g2:=hf 2 f2 rfl
 have g3:=hf 3 f3 rfl
 rw [t0,o0,hci,List.getElem?_eq_getElem (by omega)] at g0
 rw [t1,o1,hcb,List.getElem?_eq_getElem (by omega)] at g1
 rw [t2,o2,hca,List.getElem?_eq_getElem (by omega)] at g2
 rw [t3,o3,hcu,List.getElem?_eq_getElem (by omega)] at g3
 obtain ⟨n0,c0,_,_⟩:=DataW.trod_int Try.underlying3 g0
 obtain ⟨v1,L1,c1,b1,k1⟩:=trod_bts g1
 obtain ⟨a2,ok2,c2⟩:=trod_ak g2
 obtain ⟨n3,c3,_,w3⟩:=DataW.trod_int Try.underlying5 g3
 obtain ⟨A1,d1,rfl⟩:=b1.shape
 have hr3:0≤n3∧n3≤255:=by simpa [Lit.wf,IntKind.min,IntKind.max,IntKind.signed,IntKind.bits] using w3
 have hy:((UInt8.ofNat n3.toNat).toNat:Int)=n3:=by
  rw [UInt8.toNat_ofNat']
  omega
 refine ⟨⟨n0,A1,d1,L1,a2,UInt8.ofNat n3.toNat⟩,⟨ok2,b1,k1⟩,?_⟩
 have e:cs=cs.drop 0:=rfl
 rw [e,drop_part c0,drop_part c1,drop_part c2,drop_part c3,List.drop_eq_nil_of_le (by omega)]
 unfold awl akl ActW.lv
 simp only [List.cons_append,List.nil_append,hy]
theorem trod_aws (h:DataW.trod enc Try.prog w base spare held fuel 22 cs=some x):∃ v L,cs=[v]∧Els awl 6 w v L∧∀ a ∈ L,AwOk w a:=
 (eltAw w).trod awZ (awZ_ok w) (fun h=>trod_aw h) h
end
def LitW1 (x:ActW):Prop:=x.L.length≤5∧x.a.bl.length≤200∧∀ j (h:j < x.L.length),x.L[j].l.length≤100
def LitW (L:List ActW):Prop:=L.length≤30∧∀ j (h:j < L.length),LitW1 L[j]
theorem LitW1.lit {x:ActW} (h:LitW1 x):x.L.length≤5∧∀ t ∈ x.L,t.l.length≤100:=⟨h.1,fun t ht=>by
 obtain ⟨j,hj,rfl⟩:=List.getElem_of_mem ht
 exact h.2.2 j hj⟩
def LtPost19 (L:List ActW) (w:World) (e:Ending) (w':World):Prop:=∃ q,e=.returned (.bool q)∧(q=true→LitW L)∧Below w.heap.size w w'
theorem aw_meas {N k:Nat} (h:k < N) (hw:wrap64 ((k:Int) + 1)=((k + 1:Nat):Int)):N - (intOf (Value.int IntKind.i64 (wrap64 ((k:Int) + 1)))).toNat < N - (intOf (Value.int IntKind.i64 (k:Int))).toNat:=by
 rw [hw]
 simp only [intOf]
 omega
set_option maxHeartbeats 3200000 in
theorem light19_any (v:Value) (L:List ActW) (w:World) (hv:Els awl 6 w v L) (ho:∀ a ∈ L,AwOk w a):
  Calls Try.prog 6 #[v] w (LtPost19 L w):=by
 obtain ⟨A,c,rfl⟩:=hv.shape
 have hr:=hv.at_.2.2.2
 obtain ⟨N,HN⟩:∃ q:Nat,Hid (L.length=q):=⟨_,hid rfl⟩
 have HCEL:Hid (∀ k (h:k < L.length),∃ b off,A=some ⟨b,off,none⟩∧∀ W,Below w.heap.size w W→W.rangeAt b (off + k * 6) (awl L[k])):=hid (fun k hk=>by
  obtain ⟨b,off,e,hb,hc⟩:=hr (by omega)
  exact ⟨b,off,e,fun W hW=>range_kept (hc k hk) (hW.block b hb)⟩)
 have HOK:Hid (∀ k (h:k < L.length),AwOk w L[k]):=hid (fun k hk=>ho _ (List.getElem_mem hk))
 rw [HN.out]
 clear hv hr ho
 go_enter Try.func6,Try.ntmps6
 go_wp2_with fail
 go_loopw [3] (fun si wr=>∃ k:Nat,k≤N∧k≤31∧si=.int .i64 k∧Hid (∀ j (h:j < L.length),j < k→LitW1 L[j])∧Hid (Below w.heap.size w wr)) (fun si _=>N - (intOf si).toNat)
 case atStart=>exact ⟨0,Nat.zero_le _,Nat.zero_le _,rfl,hid (fun _ _ h=>absurd h (Nat.not_lt_zero _)),hid (Below.refl _ _)⟩
 case round=>
  obtain ⟨wo,rfl⟩:∃ q:World,q=wr:=⟨wr,rfl⟩
  obtain ⟨k,hk,hk1,rfl,HB,HBW⟩:=hrel
  by_cases hlt:k < N
  ·have hlt':(k:Int) < (N:Int):=by omega
   by_cases h40:k≤30
   ·have h40':(k:Int)≤30:=by omega
    have hkL:k < L.length:=by rw [HN.out];exact hlt
    obtain ⟨b,off,rfl,hc⟩:=HCEL.out k hkL
    have hok:=HOK.out k hkL
    have HXK:=hid (show ∀ j (h:j < L.length),j < k + 1→LitW1 L[k]→LitW1 L[j] from fun j hj hjk h=>by
     by_cases e:j=k
     ·subst e;exact h
     ·exact HB.out j hj (by omega))
    obtain ⟨x,HX⟩:∃ q:ActW,Hid (L[k]=q):=⟨_,hid rfl⟩
    rw [HX.out] at hc hok HXK
    obtain ⟨M,HM⟩:∃ q:Nat,Hid (x.L.length=q):=⟨_,hid rfl⟩
    obtain ⟨BN,HBN⟩:∃ q:Nat,Hid (x.a.bl.length=q):=⟨_,hid rfl⟩
    have HCW:=hid hc
    have c1:wo.cell? ⟨b,off + k * 6 + 1,none⟩=some (.slice x.lA M x.lc):=by have:=hc wo HBW.out 1 _ rfl;unfold ActW.lv at this;rw [HM.out] at this;exact this
    have hra:wo.rangeAt b (off + k * 6 + 2) (akl x.a):=fun j u hu=>by
     have hj:j < 3:=(List.getElem?_eq_some_iff.1 hu).1
     have:=hc wo HBW.out (2 + j) u (by
      match j,hj with
      | 0,_=>exact hu
      | 1,_=>exact hu
      | 2,_=>exact hu)
     rw [Nat.add_assoc]
     exact this
    have c2:loadAk (.pointer (some ⟨b,off + k * 6 + 2,none⟩)) wo=.ok (.value (.agg #[.int .i64 x.a.act,.slice x.a.bA BN x.a.bc,.int .i64 x.a.n])) wo:=by
     have:=loadAk_mid hra
     unfold akc akl ActDk.b at this
     rw [HBN.out] at this
     exact this
    have HLT:=hid hlt
    have HK1:=hid hk1
    have HEL:Hid (∀ W,Below w.heap.size w W→∀ j (h:j < x.L.length),∃ b2 off2,x.lA=some ⟨b2,off2,none⟩∧W.cell? ⟨b2,off2 + j,none⟩=some x.L[j].v):=hid (fun W hW j hj=>by
     obtain ⟨b2,off2,e,hb2,hc2⟩:=hok.2.1.at_.2.2.2 (by omega)
     refine ⟨b2,off2,e,(World.cell?_of_block (hW.block b2 hb2)).trans ?_⟩
     have:=hc2 j hj 0 _ rfl
     rw [Nat.mul_one,Nat.add_zero] at this
     exact this)
    have HBA:=hid hok.1
    have HSZ:=hid HBW.out.size
    have HWI:Hid (wrap64 ((k:Int) + 1)=((k + 1:Nat):Int)):=hid (by unfold wrap64;omega)
    clear hra hc hok HX hkL hk hk1 hlt
    by_cases hM:(5:Int) < (M:Int)
    ·clear HB HXK
     go_wp2_with fail
     go_ret
     exact ⟨_,rfl,(fun h=>by cases h),HBW.out⟩
    ·have HMM:=hid hM
     have hba:Below wo.heap.size wo (wo.alloc (.cells #[.int .i64 x.a.act,.slice x.a.bA BN x.a.bc,.int .i64 x.a.n] 42)):=(Below.refl _ _).alloc (Nat.le_refl _) _
     have HB2:=hid (HBW.out.trans (hba.mono HSZ.out))
     have HL8:=hid (light18_any _ [x.a] _ (els_one wo x.a _ 42 (show _=(#[.int .i64 x.a.act,.slice x.a.bA BN x.a.bc,.int .i64 x.a.n]:Array Value) from by unfold akl ActDk.b;rw [HBN.out])) (fun a ha=>by
      obtain rfl:=List.mem_singleton.1 ha
      exact ⟨HBA.out.1,HBA.out.2.below HB2.out⟩))
     clear hba
     go_wp2_with fail
     refine HL8.out.mono ?_
     rintro e w1 ⟨q,rfl,hq,hw⟩
     have HB3:=hid HB2.out
     rw [hw] at HB3
     clear hw
     cases q with
     | false=>
      clear hq HB HXK
      go_wp2_with fail
      go_ret
      exact ⟨_,rfl,(fun h=>by cases h),HB3.out⟩
     | true=>
      have HQ:Hid (BN≤200):=hid (by have:=(hq rfl).2 0 (by simp);rw [← HBN.out];exact this)
      clear hq c1 c2
      go_wp2_with fail
      go_loopw [4] (fun si wr=>∃ j:Nat,j≤M∧si=.int .i64 j∧Hid (∀ i (h:i < x.L.length),i < j→x.L[i].l.length≤100)∧wr=w1) (fun si _=>M - (intOf si).toNat)
      case atStart=>exact ⟨0,Nat.zero_le _,rfl,hid (fun _ _ h=>absurd h (Nat.not_lt_zero _)),rfl⟩
      case round=>
       obtain ⟨j,hj,rfl,HJ,rfl⟩:=hrel
       have c1:wr.cell? ⟨b,off + k * 6 + 1,none⟩=some (.slice x.lA M x.lc):=by have:=HCW.out wr HB3.out 1 _ rfl;unfold ActW.lv at this;rw [HM.out] at this;exact this
       by_cases hlj:j < M
       ·have hlj':(j:Int) < (M:Int):=by omega
        have hjL:j < x.L.length:=by rw [HM.out];exact hlj
        obtain ⟨b2,off2,hlA,c3⟩:=HEL.out wr HB3.out j hjL
        rw [hlA] at c1
        obtain ⟨TN,HTN⟩:∃ q:Nat,Hid (x.L[j].l.length=q):=⟨_,hid rfl⟩
        unfold BtM.v at c3
        rw [HTN.out] at c3
        obtain ⟨t,HT⟩:∃ q:BtM,Hid (x.L[j]=q):=⟨_,hid rfl⟩
        rw [HT.out] at c3
        have HLJ:=hid hlj
        have HWJ:Hid (wrap64 ((j:Int) + 1)=((j + 1:Nat):Int)):=hid (by have:=HMM.out;unfold wrap64;omega)
        have HXJ:=hid (show ∀ i (h:i < x.L.length),i < j + 1→TN≤100→x.L[i].l.length≤100 from fun i hi hij h=>by
         by_cases e:i=j
         ·subst e;rw [HTN.out];exact h
         ·exact HJ.out i hi (by omega))
        clear HT HTN hlA hjL hj hlj
        by_cases hT:(100:Int) < (TN:Int)
        ·go_wp2
         go_ret
         exact ⟨_,rfl,(fun h=>by cases h),HB3.out⟩
        ·have HTT:=hid hT
         go_wp2
         go_roundw
         case rel=>exact ⟨j + 1,HLJ.out,by go_num,hid (fun i hi hij=>HXJ.out i hi hij (by have:=HTT.out;omega)),(by first | exact trivial | rfl)⟩
         case measure=>
          have:=HLJ.out
          simp [intOf]
          omega
       ·have hlj':¬ (j:Int) < (M:Int):=by omega
        have HLL:Hid (LitW1 x):=hid ⟨by have:=HMM.out;have:=HM.out;omega,by rw [HBN.out];exact HQ.out,fun i hi=>HJ.out i hi (by rw [HM.out] at hi;omega)⟩
        clear hj hlj
        go_wp2
        go_roundw
        case rel=>exact ⟨k + 1,HLT.out,by omega,by go_num,hid (fun i hi hik=>HXK.out i hi hik HLL.out),HB3⟩
        case measure=>
         have:=HLT.out
         simp [intOf]
         omega
   ·have h40':¬ (k:Int)≤30:=by omega
    have hN:¬ (N:Int)≤30:=by omega
    clear hk hk1
    go_wp2
    go_ret
    exact ⟨_,rfl,(fun h=>by cases h),HBW.out⟩
  ·have hlt':¬ (k:Int) < (N:Int):=by omega
   obtain rfl:k=N:=by omega
   by_cases h40:(k:Int)≤30
   ·go_wp2
    go_ret
    exact ⟨_,rfl,(fun _=>⟨by have:=HN.out;omega,fun j hj=>HB.out j hj (by have:=HN.out;omega)⟩),HBW.out⟩
   ·go_wp2
    go_ret
    exact ⟨_,rfl,(fun h=>by cases h),HBW.out⟩
end Go.Proofs.Ytfpgglclpkcdhaa
