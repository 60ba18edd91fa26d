/-
  Acts on disks as plain data, in memory, as they came in; which are not too great: tithinglaw18.Light.
-/
import Derived.Test.YtfpgglclpkcdhaaDkWords
namespace Go.Proofs.Ytfpgglclpkcdhaa
set_option maxRecDepth 20000
open Go.ChangeShapes Go.WideShapes Go.ChangeAt Go.RowKit Go.Deep
structure ActDk where
 act:Int
 bA:Option Addr
 bc:Nat
 bl:List UInt8
 n:Int
def ActDk.b (a:ActDk):Value:=.slice a.bA a.bl.length a.bc
def akl (a:ActDk):List Value:=[.int .i64 a.act,a.b,.int .i64 a.n]
def akc (a:ActDk):Array Value:=(akl a).toArray
def akZ:ActDk:=⟨0,none,0,[],0⟩
def AkOk (w:World) (a:ActDk):Prop:=(Lit.int .i64 a.n).wf=true∧Byt w a.b a.bl
theorem akZ_ok (w:World):AkOk w akZ:=⟨by decide,Byt.nil w⟩
theorem akl_length (a:ActDk):(akl a).length=3:=rfl
theorem akl_one (a:ActDk):∀ u ∈ akl a,u.oneCell'=true:=by
 intro u hu
 unfold akl at hu
 simp only [List.mem_cons,List.not_mem_nil,or_false] at hu
 rcases hu with rfl | rfl | rfl <;> rfl
noncomputable def loadAk (v : Value) (w : World) : Result Next := Sem.run Try.prog (execOp (fun _ => v) { dst := none, op := .load 42 (.tmp 0), type := 0, pos := "", after := #[], guard := none }) w
theorem exec_load_ak (r:Operand→Value) (x:Operand) (dst:Option Tmp) (ty:TypeId) (pos:String) (after:Array Edge) (guard:Option (Nat × Bool)) (w:World):
  Sem.run Try.prog (execOp r { dst:=dst,op:=.load 42 x,type:=ty,pos:=pos,after:=after,guard:=guard }) w=loadAk (r x) w:=rfl
theorem under_ak:Try.prog.underlying 42=some (.struct (Try.prog.fieldsOf 42)):=by kernel_rfl
theorem size_ak:(Try.prog.info? 42).map (·.size)=some 3:=by kernel_rfl
theorem loadAk_mid {w:World} {g o:Nat} {a:ActDk} (hr:w.rangeAt g o (akl a)):loadAk (.pointer (some ⟨g,o,none⟩)) w=.ok (.value (.agg (akc a))) w:=by
 have:=run_loadAt_mid (P:=Try.prog) w g o 42 (akl a) _ hr under_ak rfl (by rw [size_ak,akl_length a])
 unfold loadAk execOp
 simp only [Sem.run_bind,this,Result.andThen_ok,Sem.run_pure]
 rfl
theorem zero_ak:(Try.prog.info? 42).bind (·.zero)=some (.agg (akc akZ)):=by kernel_rfl
theorem info_ak:(Try.prog.info? 42).map (fun i=>(i.zero,i.size,decide (i.bytes≤100000)))=some (some (.agg (akc akZ)),3,true):=by kernel_rfl
theorem eltAk (w:World):Elt akl (AkOk w) 3 42 65:=by
 refine ⟨by omega,fun _ _=>rfl,akl_one,by kernel_rfl,by kernel_rfl,?_⟩
 obtain ⟨i,hi,h⟩:=Option.map_eq_some_iff.1 info_ak
 injection h with h1 h
 injection h with h2 h3
 exact ⟨i,_,hi,h1,h2,of_decide_eq_true h3,rfl⟩
section
variable {H:Type} {enc:TypeId × Value→H} {w:World} {base:Nat} {spare:Nat→Bool} {held:Bool} {fuel:Nat} {cs:List Value} {x:DataW H × List MemPlace}
theorem fields_ak:∃ f0 f1 f2:Field,Try.prog.underlying 42=some (.struct #[f0,f1,f2])∧(f0.type,f0.offset)=(3,0)∧(f1.type,f1.offset)=(33,1)∧(f2.type,f2.offset)=(3,2):=
 ⟨_,_,_,Try.underlying42,rfl,rfl,rfl⟩
theorem trod_ak (h:DataW.trod enc Try.prog w base spare held fuel 42 cs=some x):∃ a,AkOk w a∧cs=akl a:=by
 obtain ⟨f0,f1,f2,hu,e0,e1,e2⟩:=fields_ak
 injection e0 with t0 o0
 injection e1 with t1 o1
 injection e2 with t2 o2
 obtain ⟨xs,m,_,_,hlen,hxl,hf⟩:=DataW.trod_struct hu h
 have hc:Try.prog.cellsOf 42=3:=by kernel_rfl
 have hci:Try.prog.cellsOf 3=1:=by kernel_rfl
 have hcb:Try.prog.cellsOf 33=1:=by kernel_rfl
 rw [hc] at hlen
 have hx:xs.length=3:=hxl
 have g0:=hf 0 f0 rfl
 have g1:=hf 1 f1 rfl
 have g2:=hf 2 f2 rfl
 rw [t0,o0,hci,List.getElem?_eq_getElem (by omega)] at g0
 rw [t1,o1,hcb,List.getElem?_eq_getElem (by omega)] at g1
 rw [t2,o2,hci,List.getElem?_eq_getElem (by omega)] at g2
 obtain ⟨n0,c0,_,_⟩:=DataW.trod_int Try.underlying3 g0
 obtain ⟨v1,l1,c1,b1⟩:=trod_bytes g1
 obtain ⟨n2,c2,_,w2⟩:=DataW.trod_int Try.underlying3 g2
 obtain ⟨A1,d1,rfl⟩:=b1.shape
 refine ⟨⟨n0,A1,d1,l1,n2⟩,⟨w2,b1⟩,?_⟩
 have e:cs=cs.drop 0:=rfl
 rw [e,drop_part c0,drop_part c1,drop_part c2,List.drop_eq_nil_of_le (by omega)]
 unfold akl ActDk.b
 simp only [List.cons_append,List.nil_append]
theorem trod_aks (h:DataW.trod enc Try.prog w base spare held fuel 65 cs=some x):∃ v L,cs=[v]∧Els akl 3 w v L∧∀ a ∈ L,AkOk w a:=
 (eltAk w).trod akZ (akZ_ok w) (fun h=>trod_ak h) h
end
def LitAk (L:List ActDk):Prop:=L.length≤60∧∀ j (h:j < L.length),L[j].bl.length≤200
def LtPost18 (L:List ActDk) (w:World) (e:Ending) (w':World):Prop:=∃ q,e=.returned (.bool q)∧(q=true→LitAk L)∧w=w'
set_option maxHeartbeats 1600000 in
theorem light18_any (v:Value) (L:List ActDk) (w:World) (hv:Els akl 3 w v L) (_:∀ a ∈ L,AkOk w a):
  Calls Try.prog 24 #[v] w (LtPost18 L w):=by
 obtain ⟨A,c,rfl⟩:=hv.shape
 have hr:=hv.at_.2.2.2
 have HR:=hid hr
 obtain ⟨N,HN⟩:∃ q:Nat,Hid (L.length=q):=⟨_,hid rfl⟩
 have HCEL:Hid (∀ k (h:k < L.length),∃ b off,A=some ⟨b,off,none⟩∧b < w.heap.size∧w.cell? ⟨b,off + k * 3 + 1,none⟩=some L[k].b):=hid (fun k hk=>by
  obtain ⟨b,off,e,hb,hc⟩:=hr (by omega)
  refine ⟨b,off,e,hb,?_⟩
  exact hc k hk 1 _ rfl)
 rw [HN.out]
 clear hv hr HR
 go_enter Try.func24,Try.ntmps24
 go_wp2
 go_loopw [3] (fun si wr=>∃ k:Nat,k≤N∧k≤61∧si=.int .i64 k∧Hid (∀ j (h:j < L.length),j < k→L[j].bl.length≤200)∧wr=w) (fun si _=>N - (intOf si).toNat)
 case atStart=>exact ⟨0,Nat.zero_le _,Nat.zero_le _,rfl,hid (fun _ _ h=>absurd h (Nat.not_lt_zero _)),rfl⟩
 case round=>
  obtain ⟨k,hk,hk1,rfl,HB,rfl⟩:=hrel
  by_cases hlt:k < N
  ·have hlt':(k:Int) < (N:Int):=by omega
   by_cases h40:k≤60
   ·have h40':(k:Int)≤60:=by omega
    have hkL:k < L.length:=by rw [HN.out];exact hlt
    obtain ⟨b,off,rfl,hb,hc⟩:=HCEL.out k hkL
    obtain ⟨M,HM⟩:∃ q:Nat,Hid (L[k].bl.length=q):=⟨_,hid rfl⟩
    unfold ActDk.b at hc
    rw [HM.out] at hc
    have HLT:=hid hlt
    have HK1:=hid hk1
    by_cases hM:(200:Int) < (M:Int)
    ·go_wp2
     go_ret
     exact ⟨_,rfl,(fun h=>by cases h),rfl⟩
    ·have HMM:=hid hM
     go_wp2
     go_round
     case rel=>exact ⟨k + 1,by omega,by omega,by go_num,hid (fun j hj hjk=>by
      by_cases e:j=k
      ·subst e
       have:=HMM.out
       have:=HM.out
       omega
      ·exact HB.out j hj (by omega)),by trivial⟩
     case measure=>simp [intOf];omega
   ·have h40':¬ (k:Int)≤60:=by omega
    have hN:¬ (N:Int)≤60:=by omega
    clear hk hk1
    go_wp2
    go_ret
    exact ⟨_,rfl,(fun h=>by cases h),rfl⟩
  ·have hlt':¬ (k:Int) < (N:Int):=by omega
   obtain rfl:k=N:=by omega
   by_cases h40:(k:Int)≤60
   ·go_wp2
    go_ret
    exact ⟨_,rfl,(fun _=>⟨by have:=HN.out;omega,fun j hj=>HB.out j hj (by have:=HN.out;omega)⟩),rfl⟩
   ·go_wp2
    go_ret
    exact ⟨_,rfl,(fun h=>by cases h),rfl⟩
end Go.Proofs.Ytfpgglclpkcdhaa
