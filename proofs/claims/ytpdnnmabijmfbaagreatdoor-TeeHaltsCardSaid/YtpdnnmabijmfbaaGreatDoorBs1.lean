/-
  Words Plain Append First Join Digits Put Reader Number Cut Arr Refs Same Text RefRead RefUpto RefText Hash: what each of them says stands at its head.
-/
import Derived.Below
import Derived.Deep.AppendLies
import Derived.Deep.Draws
import Derived.Laws.AppendOwnNone
import Derived.Laws.OwnMore
import Derived.Maps.AppendAt
import Derived.OwnWalk
import Derived.Test.YtpdnnmabijmfbaaGreatDoorRows
import Derived.WalkKit
import Derived.WalkSpells
import Derived.Deep.RegionLaw
import Derived.RegionTactic
import Derived.Laws.Bits64
import Derived.Laws.BitsAllLaws
import Derived.LoopTactic
import Derived.Outline
import Derived.WalkLawsBesides
import Derived.BigQuiet
import Derived.Deep.QuietTactic
import Derived.LaidEqlPtr
import Derived.ChangeKeysEq
import Derived.Deep.MidRow
import Derived.Laws.CopyOwn
import Derived.Laws.Rows
import Derived.Laws.StructEq
import Derived.Laws.Tables
import Derived.StillTailTactics
import Derived.Deep.RegionHeld3
import Derived.Handy
import Derived.BigRegion
namespace Go.Proofs.YtpdnnmabijmfbaaGreatDoor
set_option maxRecDepth 20000
open Go.RowKit
theorem hid {p:Prop} (h:p):Hid p:=h
def bcell (c:UInt8):Value:=.int .u8 (c.toNat:Int)
def bcells (l:List UInt8):List Value:=l.map bcell
theorem bcells_length (l:List UInt8):(bcells l).length=l.length:=by simp [bcells]
theorem bcells_append (l m:List UInt8):bcells (l ++ m)=bcells l ++ bcells m:=by simp [bcells]
theorem bcells_one (l:List UInt8):∀ u ∈ bcells l,u.oneCell'=true:=by
 intro u hu
 obtain ⟨c,_,rfl⟩:=List.mem_map.1 hu
 rfl
theorem bcells_get (l:List UInt8) (j:Nat) (u:Value) (h:(bcells l)[j]?=some u):∃ hj:j < l.length,u=bcell l[j]:=by
 have hj:j < l.length:=by
  have:=(List.getElem?_eq_some_iff.1 h).1
  simpa [bcells] using this
 refine ⟨hj,?_⟩
 simp [bcells,hj] at h
 exact h.symm
theorem byte_lt (c:UInt8):(0:Int)≤(c.toNat:Int)∧(c.toNat:Int)≤255:=by
 have:=c.toNat_lt
 omega
def RdB (w:World) (A:Option Addr) (l:List UInt8):Prop:=
 0 < l.length→∃ b off,A=some ⟨b,off,none⟩∧b < w.heap.size∧∀ j (h:j < l.length),w.cell? ⟨b,off + j,none⟩=some (bcell l[j])
def Byt (w:World) (v:Value) (l:List UInt8):Prop:=∃ A c,v=.slice A l.length c∧l.length≤c∧c≤maxLen∧RdB w A l
def Own (B:Nat) (w:World) (v:Value) (l:List UInt8):Prop:=w.ownsRow B 5 1 v l.length (bcells l)
section
variable {w w':World} {A:Option Addr} {v:Value} {l:List UInt8} {B:Nat}
theorem RdB.nil (w:World) (A:Option Addr):RdB w A []:=fun h=>absurd h (by simp)
theorem RdB.keep (h:RdB w A l) (hs:w.heap.size≤w'.heap.size) (hk:∀ b off,A=some ⟨b,off,none⟩→b < w.heap.size→w'.heap[b]?=w.heap[b]?):RdB w' A l:=fun hl=>by
 obtain ⟨b,off,e,hb,hc⟩:=h hl
 exact ⟨b,off,e,by omega,fun j hj=>(World.cell?_of_block (hk b off e hb)).trans (hc j hj)⟩
theorem RdB.below (h:RdB w A l) (hb:Below w.heap.size w w'):RdB w' A l:=h.keep hb.size fun b _ _ hlt=>hb.block b hlt
theorem Byt.keep (h:Byt w v l) (hs:w.heap.size≤w'.heap.size) (hk:∀ b,b < w.heap.size→v.ownBlock=some b→w'.heap[b]?=w.heap[b]?):Byt w' v l:=by
 obtain ⟨A,c,rfl,h1,h2,h3⟩:=h
 exact ⟨A,c,rfl,h1,h2,h3.keep hs fun b off e hlt=>hk b hlt (by subst e;rfl)⟩
theorem Byt.below (h:Byt w v l) (hb:Below w.heap.size w w'):Byt w' v l:=h.keep hb.size fun b hlt _=>hb.block b hlt
theorem Byt.nil (w:World):Byt w (.slice none 0 0) []:=⟨none,0,rfl,Nat.le_refl _,Nat.zero_le _,RdB.nil _ _⟩
theorem Byt.len (h:Byt w v l):l.length≤maxLen:=by
 obtain ⟨_,_,_,h1,h2,_⟩:=h
 omega
theorem Own.nil (B:Nat) (w:World):Own B w (.slice none 0 0) []:=World.ownsRow_nil _ _ _ _
theorem Own.byt (h:Own B w v l):Byt w v l:=by
 rcases h.2 with ⟨rfl,h0⟩ | ⟨g,cap,cur,rfl,_,hh,hn,hm,hs,ht⟩
 ·have:l=[]:=List.eq_nil_of_length_eq_zero h0
  subst this
  exact Byt.nil w
 ·refine ⟨_,cap,rfl,hn,hm,fun _=>⟨g,0,rfl,lt_of_block hh,fun j hj=>?_⟩⟩
  rw [Nat.zero_add,World.ownsRow.cellAt h j (by omega)]
  simp [bcells,hj]
theorem Own.more (h:Own B w v l) {B':Nat} (hB:B'≤B):Own B' w v l:=by
 refine ⟨h.1,?_⟩
 rcases h.2 with h0 | ⟨g,cap,cur,e,hg,r⟩
 ·exact .inl h0
 ·exact .inr ⟨g,cap,cur,e,by omega,r⟩
theorem Own.keep (h:Own B w v l) (hk:∀ b,b < w.heap.size→v.ownBlock=some b→w'.heap[b]?=w.heap[b]?):Own B w' v l:=by
 refine ⟨h.1,?_⟩
 rcases h.2 with h0 | ⟨g,cap,cur,rfl,hg,hh,r⟩
 ·exact .inl h0
 ·exact .inr ⟨g,cap,cur,rfl,hg,(hk g (lt_of_block hh) rfl).trans hh,r⟩
theorem Own.below (h:Own B w v l) (hb:Below w.heap.size w w'):Own B w' v l:=h.keep fun b hlt _=>hb.block b hlt
end
theorem Byt.shape {w:World} {v:Value} {l:List UInt8} (h:Byt w v l):∃ A c,v=.slice A l.length c:=by
 obtain ⟨A,c,e,_⟩:=h
 exact ⟨A,c,e⟩
theorem Byt.at_ {w:World} {A:Option Addr} {n c:Nat} {l:List UInt8} (h:Byt w (.slice A n c) l):n=l.length∧l.length≤c∧c≤maxLen∧RdB w A l:=by
 obtain ⟨A',c',e,h1,h2,h3⟩:=h
 injection e with e1 e2 e3
 subst e1 e2 e3
 exact ⟨rfl,h1,h2,h3⟩
theorem Byt.alloc {w:World} {v:Value} {l:List UInt8} (h:Byt w v l) (o:Obj):Byt (w.alloc o) v l:=h.below ((Below.refl _ _).alloc (Nat.le_refl _) o)
theorem Byt.drewN {w:World} {v:Value} {l:List UInt8} (h:Byt w v l) (n:Nat):Byt (w.drewN n) v l:=h
theorem below_drewN {B:Nat} {a w:World} (h:Below B a w) (n:Nat):Below B a (w.drewN n):=⟨h.os,h.tape,h.output,h.size,h.block⟩
end Go.Proofs.YtpdnnmabijmfbaaGreatDoor
namespace Go.Proofs.YtpdnnmabijmfbaaGreatDoor
set_option maxRecDepth 20000
def dg (n:Nat):List UInt8:=if n < 128 then [UInt8.ofNat n] else UInt8.ofNat (128 + n % 128) :: dg (n / 128)
termination_by n
decreasing_by omega
theorem dg_small {n:Nat} (h:n < 128):dg n=[UInt8.ofNat n]:=by rw [dg,if_pos h]
theorem dg_big {n:Nat} (h:¬ n < 128):dg n=UInt8.ofNat (128 + n % 128) :: dg (n / 128):=by rw [dg,if_neg h]
theorem dg_len (k:Nat):∀ n,n < 128 ^ (k + 1)→(dg n).length≤k + 1:=by
 induction k with
 | zero=>
  intro n h
  rw [dg_small (by simpa using h)]
  simp
 | succ k ih=>
  intro n h
  by_cases h1:n < 128
  ·rw [dg_small h1];simp
  ·rw [dg_big h1]
   have:=ih (n / 128) (by rw [Nat.pow_succ] at h;exact Nat.div_lt_of_lt_mul (by rw [Nat.mul_comm];exact h))
   simp
   omega
theorem dg_len10 {n:Nat} (h:n < 18446744073709551616):(dg n).length≤10:=dg_len 9 n (by omega)
theorem dg_pos (n:Nat):0 < (dg n).length:=by
 by_cases h:n < 128
 ·rw [dg_small h];simp
 ·rw [dg_big h];simp
theorem dg_get (n:Nat):∀ j (h:j < (dg n).length),
  (j + 1 < (dg n).length→((dg n)[j]).toNat=128 + n / 128 ^ j % 128)∧(j + 1=(dg n).length→((dg n)[j]).toNat=n / 128 ^ j∧n / 128 ^ j < 128∧(0 < j→0 < n / 128 ^ j)):=by
 induction n using Nat.strongRecOn with
 | _ n ih=>
  intro j h
  by_cases hn:n < 128
  ·have hl:(dg n).length=1:=by rw [dg_small hn];rfl
   obtain rfl:j=0:=by omega
   refine ⟨fun h1=>by omega,fun _=>?_⟩
   have e:(dg n)[0]=UInt8.ofNat n:=by simp [dg_small hn]
   rw [e,UInt8.toNat_ofNat']
   simp
   omega
  ·have hl:(dg n).length=(dg (n / 128)).length + 1:=by rw [dg_big hn];rfl
   have hp:=dg_pos (n / 128)
   rcases j with _ | j
   ·refine ⟨fun _=>?_,fun h1=>by omega⟩
    have e:(dg n)[0]=UInt8.ofNat (128 + n % 128):=by simp [dg_big hn]
    rw [e,UInt8.toNat_ofNat']
    simp
    omega
   ·have e:(dg n)[j + 1]=(dg (n / 128))[j]'(by omega):=by simp [dg_big hn]
    have:=ih (n / 128) (by omega) j (by omega)
    have hq:n / 128 ^ (j + 1)=n / 128 / 128 ^ j:=by rw [Nat.pow_succ,Nat.mul_comm,Nat.div_div_eq_div_mul]
    rw [e,hq]
    refine ⟨fun h1=>this.1 (by omega),fun h1=>?_⟩
    obtain ⟨a,b,c⟩:=this.2 (by omega)
    refine ⟨a,b,fun _=>?_⟩
    rcases Nat.eq_zero_or_pos j with h0 | h0
    ·subst h0
     simp
     omega
    ·exact c h0
def low (n i:Nat):Nat:=n % 128 ^ i
theorem low_zero (n:Nat):low n 0=0:=by simp [low,Nat.mod_one]
theorem low_lt (n i:Nat):low n i < 128 ^ i:=Nat.mod_lt _ (Nat.pow_pos (by omega))
theorem low_succ (n i:Nat):low n (i + 1)=low n i + (n / 128 ^ i % 128) * 128 ^ i:=by
 unfold low
 rw [Nat.pow_succ,Nat.mod_mul,Nat.mul_comm]
theorem low_all (n i:Nat) (h:n < 128 ^ i):low n i=n:=Nat.mod_eq_of_lt h
def val:List UInt8→Nat
 | []=>0
 | c :: l=>c.toNat % 128 + 128 * val l
theorem val_lt (l:List UInt8):val l < 128 ^ l.length:=by
 induction l with
 | nil=>simp [val]
 | cons c l ih=>
  simp only [val,List.length_cons,Nat.pow_succ]
  have:=Nat.mod_lt c.toNat (show 128 > 0 by omega)
  omega
theorem val_snoc (l:List UInt8) (c:UInt8):val (l ++ [c])=val l + c.toNat % 128 * 128 ^ l.length:=by
 induction l with
 | nil=>simp [val]
 | cons x l ih=>
  simp only [List.cons_append,val,ih,List.length_cons,Nat.pow_succ]
  rw [Nat.mul_add,← Nat.mul_assoc,Nat.mul_comm 128 (c.toNat % 128),Nat.mul_assoc,Nat.mul_comm 128 (128 ^ l.length)]
  omega
theorem val_64 (l:List UInt8) (c:UInt8) (hl:l.length≤9) (hc:c.toNat < 128) (h9:l.length=9→c.toNat≤1):val (l ++ [c]) < 18446744073709551616:=by
 rw [val_snoc]
 have h:=val_lt l
 have e9:(128:Nat) ^ 9=9223372036854775808:=by decide
 by_cases h8:l.length=9
 ·have:=h9 h8
  rw [h8,e9] at h
  rw [h8,e9,Nat.mod_eq_of_lt hc]
  omega
 ·have hp:(128:Nat) ^ l.length≤128 ^ 8:=Nat.pow_le_pow_right (by omega) (by omega)
  have e8:(128:Nat) ^ 8=72057594037927936:=by decide
  rw [e8] at hp
  have:c.toNat % 128 * 128 ^ l.length≤127 * 72057594037927936:=Nat.mul_le_mul (by omega) hp
  omega
theorem dg_val (l:List UInt8) (c:UInt8) (h:∀ x ∈ l,128≤x.toNat) (hc:c.toNat < 128) (h0:l≠[]→0 < c.toNat):dg (val (l ++ [c]))=l ++ [c]∧(l≠[]→0 < val (l ++ [c])):=by
 induction l with
 | nil=>
  refine ⟨?_,fun h=>absurd rfl h⟩
  simp only [List.nil_append,val]
  rw [dg_small (by omega)]
  congr 1
  apply UInt8.toNat_inj.1
  rw [UInt8.toNat_ofNat']
  omega
 | cons x l ih=>
  have hx:=h x (by simp)
  have hxl:=x.toNat_lt
  have hv:0 < val (l ++ [c]):=by
   rcases l with _ | ⟨y,l⟩
   ·have:=h0 (by simp)
    simp only [List.nil_append,val]
    omega
   ·exact (ih (fun z hz=>h z (List.mem_cons_of_mem _ hz)) (fun _=>h0 (by simp))).2 (by simp)
  have:=(ih (fun z hz=>h z (List.mem_cons_of_mem _ hz)) (fun _=>h0 (by simp))).1
  simp only [List.cons_append,val]
  refine ⟨?_,fun _=>by omega⟩
  rw [dg_big (by omega),show (x.toNat % 128 + 128 * val (l ++ [c])) / 128=val (l ++ [c]) from by omega,this]
  congr 1
  apply UInt8.toNat_inj.1
  rw [UInt8.toNat_ofNat']
  omega
def tx (t:List UInt8):List UInt8:=dg t.length ++ t
def raw:List UInt8→Option Nat
 | []=>none
 | c :: l=>if c.toNat < 128 then some c.toNat else (raw l).map fun n=>c.toNat % 128 + 128 * n
theorem raw_dg (n:Nat):∀ t,raw (dg n ++ t)=some n:=by
 induction n using Nat.strongRecOn with
 | _ n ih=>
  intro t
  by_cases hn:n < 128
  ·have e:(UInt8.ofNat n).toNat=n:=by rw [UInt8.toNat_ofNat'];omega
   simp [dg_small hn,raw,e,hn]
  ·have e:(UInt8.ofNat (128 + n % 128)).toNat=128 + n % 128:=by rw [UInt8.toNat_ofNat'];omega
   rw [dg_big hn,List.cons_append]
   simp only [raw,e]
   rw [if_neg (by omega),ih (n / 128) (by omega) t]
   simp
   omega
def frst (l:List UInt8):Option Nat:=
 match raw l with
 | some n=>if n < 18446744073709551616∧(dg n).isPrefixOf l=true then some n else none
 | none=>none
theorem frst_some {l:List UInt8} {n:Nat} (h:frst l=some n):n < 18446744073709551616∧dg n <+: l:=by
 unfold frst at h
 split at h
 ·split at h
  ·injection h with h
   subst h
   rename_i hh
   exact ⟨hh.1,List.isPrefixOf_iff_prefix.1 hh.2⟩
  ·cases h
 ·cases h
theorem frst_eq {l:List UInt8} {n:Nat} (hn:n < 18446744073709551616) (h:dg n <+: l):frst l=some n:=by
 obtain ⟨t,rfl⟩:=h
 unfold frst
 rw [raw_dg]
 simp only
 rw [if_pos ⟨hn,List.isPrefixOf_iff_prefix.2 (List.prefix_append _ _)⟩]
theorem frst_none {l:List UInt8} (h:frst l=none):∀ n,n < 18446744073709551616→¬ dg n <+: l:=fun n hn hp=>by
 rw [frst_eq hn hp] at h
 cases h
def rdNum (most:Nat) (l:List UInt8) (p:Nat) (r:Bool):Nat × Nat × Bool:=
 if r=false then (0,p,false) else
  match frst (l.drop p) with
  | some n=>if n≤most then (n,p + (dg n).length,true) else (0,p,false)
  | none=>(0,p,false)
def rdHash (l:List UInt8) (p:Nat) (r:Bool):List UInt8 × Nat × Bool:=
 if r=false then (List.replicate 32 0,p,false) else
  if p + 32≤l.length then ((l.drop p).take 32,p + 32,true) else (List.replicate 32 0,p,false)
theorem rdNum_bad (most:Nat) (l:List UInt8) (p:Nat):rdNum most l p false=(0,p,false):=by simp [rdNum]
theorem rdNum_yes {most:Nat} {l:List UInt8} {p n:Nat} (h:frst (l.drop p)=some n) (hm:n≤most):rdNum most l p true=(n,p + (dg n).length,true):=by simp [rdNum,h,hm]
theorem rdNum_big {most:Nat} {l:List UInt8} {p n:Nat} (h:frst (l.drop p)=some n) (hm:¬ n≤most):rdNum most l p true=(0,p,false):=by simp [rdNum,h,hm]
theorem rdNum_no {most:Nat} {l:List UInt8} {p:Nat} (h:frst (l.drop p)=none):rdNum most l p true=(0,p,false):=by simp [rdNum,h]
theorem drop_more {L a r:List UInt8} {p:Nat} (h:L.drop p=a ++ r):L.drop (p + a.length)=r:=by
 rw [← List.drop_drop,h,List.drop_left]
theorem drop_len {L a r:List UInt8} {p:Nat} (h:L.drop p=a ++ r) (ha:0 < a.length):p + a.length + r.length=L.length:=by
 have:=congrArg List.length h
 simp at this
 omega
theorem tx_len (t:List UInt8):(tx t).length=(dg t.length).length + t.length:=by simp [tx]
theorem rdHash_at {L r hh:List UInt8} {p:Nat} (h:L.drop p=hh ++ r) (hl:hh.length=32):rdHash L p true=(hh,p + 32,true):=by
 have h3:=drop_len h (by omega)
 unfold rdHash
 rw [if_neg (by simp),if_pos (by omega),h,List.take_left' hl]
end Go.Proofs.YtpdnnmabijmfbaaGreatDoor
namespace Go.Proofs.YtpdnnmabijmfbaaGreatDoor
set_option maxRecDepth 20000
open Go.RowKit
theorem info_u8:(Tryz.prog.info? 5).map (fun i=>(i.zero,i.size,i.bytes))=some (some (.int .u8 0),1,1):=by kernel_rfl
theorem under_bytes:Tryz.prog.underlying 33=some (.slice 5):=by kernel_rfl
theorem addr_add (b off j:Nat):(⟨b,off,none⟩:Addr).add j=⟨b,off + j,none⟩:=by
 unfold Addr.add
 split <;> simp_all
theorem run_append_byt {w:World} {B:Nat} {v x:Value} {l m:List UInt8} (ty:TypeId) (hv:Own B w v l) (hx:Byt w x m) (hs:l.length + m.length≤140737488355328) (hB:B≤w.heap.size):
  ∃ v' w',(Builtin.append_ #[33,33] ty #[v,x]).run Tryz.prog w=.ok v' w'∧Own B w' v' (l ++ m)∧w.grownBy w' v.ownBlock∧(v'.ownBlock=v.ownBlock∨v'.ownBlock=some w.heap.size):=by
 obtain ⟨i0,hi,hz0,hz1,hz2⟩:=info_parts info_u8
 obtain ⟨A,c,rfl,hmc,hcm,hr⟩:=hx
 have hlm:(l ++ m).length=l.length + m.length:=by simp
 rcases A with _ | ad
 ·have h0:m=[]:=by
   rcases m with _ | ⟨x,m⟩
   ·rfl
   ·obtain ⟨_,_,h,_⟩:=hr (by simp)
    cases h
  subst h0
  refine ⟨v,w,?_,by rw [List.append_nil];exact hv,World.grownBy.refl w _,.inl rfl⟩
  rcases hv.2 with ⟨rfl,h0⟩ | ⟨g,cap,cur,rfl,_,_,hnc,_⟩
  ·simp [Builtin.append_,run_underlying under_bytes,sizeOf,typeInfo,hi,Builtin.lenOf,Builtin.firstCells]
  ·simp [Builtin.append_,run_underlying under_bytes,sizeOf,typeInfo,hi,Builtin.lenOf,Builtin.firstCells,hnc,storeCells]
 ·have hcells:∀ j u,(bcells m)[j]?=some u→w.cell? (ad.add j)=some u:=by
   intro j u hu
   obtain ⟨hj,rfl⟩:=bcells_get m j u hu
   obtain ⟨b,off,e,_,hc⟩:=hr (by omega)
   injection e with e
   subst e
   rw [addr_add]
   exact hc j hj
  obtain ⟨v',w',hrun,h2,h3,_,h5⟩:=run_append_own_at (P:=Tryz.prog) w B 33 ty 5 i0 (.int .u8 0) 1 1 under_bytes hi hz0 hz1 hz2 rfl (by omega) v l.length (bcells l) hv ad m.length c (bcells m) (by simp [bcells]) hcells (bcells_one m) (by unfold maxLen;omega) (by omega) hB
  refine ⟨v',w',hrun,?_,h3,h5⟩
  unfold Own
  rw [hlm,bcells_append]
  exact h2
theorem wp_append_byt {o:Oper} {a:Act} {K:Act→World→Prop} {Q:Exit→Act→World→Prop} {w:World} (s y:Operand)
  (ho:o.op=.call { callee:=.builtin .append,args:=#[s,y],argTypes:=#[33,33] })
  {B:Nat} {v x:Value} {l m:List UInt8} (hes:a.eval s=v) (hey:a.eval y=x) (hv:Own B w v l) (hx:Byt w x m) (hs:l.length + m.length≤140737488355328) (hB:B≤w.heap.size)
  (h:∀ v' w',Own B w' v' (l ++ m)→w.grownBy w' v.ownBlock→(v'.ownBlock=v.ownBlock∨v'.ownBlock=some w.heap.size)→K (a.put o.dst v') w'):o.wp Tryz.prog a w K Q:=by
 obtain ⟨v',w',hrun,h2,h3,h4⟩:=run_append_byt o.type hv hx hs hB
 unfold Oper.wp execOp
 simp only [ho,resolve,invoke,builtin,Sem.run_bind,Sem.run_pure,Result.andThen_ok,List.map_toArray,List.map_cons,List.map_nil,hes,hey,hrun]
 exact h v' w' h2 h3 h4
theorem wpList_append_byt {ops:Array Oper} {rest:List Oper} {o:Oper} {a:Act} {Q:Exit→Act→World→Prop} {w:World} (hgd:o.guard=none) (s y:Operand)
  (ho:o.op=.call { callee:=.builtin .append,args:=#[s,y],argTypes:=#[33,33] })
  {B:Nat} {v x:Value} {l m:List UInt8} (hes:a.eval s=v) (hey:a.eval y=x) (hv:Own B w v l) (hx:Byt w x m) (hs:l.length + m.length≤140737488355328) (hB:B≤w.heap.size)
  (h:∀ v' w',Own B w' v' (l ++ m)→w.grownBy w' v.ownBlock→(v'.ownBlock=v.ownBlock∨v'.ownBlock=some w.heap.size)→wpList Tryz.prog ops Q rest (a.put o.dst v') w'):
  wpList Tryz.prog ops Q (o :: rest) a w:=
 wpList_plain hgd fun _ hK=>wp_append_byt s y ho hes hey hv hx hs hB fun v' w' h2 h3 h4=>hK _ _ (h v' w' h2 h3 h4)
theorem step_append_byt {ops:Array Oper} {o:Oper} {a:Act} {K:Act→World→Prop} {Q:Exit→Act→World→Prop} {E:Prop} {w:World} (hgd:o.guard=none) (s y:Operand)
  (ho:o.op=.call { callee:=.builtin .append,args:=#[s,y],argTypes:=#[33,33] })
  {B:Nat} {v x:Value} {l m:List UInt8} (hes:a.eval s=v) (hey:a.eval y=x) (hv:Own B w v l) (hx:Byt w x m) (hs:l.length + m.length≤140737488355328) (hB:B≤w.heap.size)
  (h:∀ v' w',Own B w' v' (l ++ m)→w.grownBy w' v.ownBlock→(v'.ownBlock=v.ownBlock∨v'.ownBlock=some w.heap.size)→K (a.put o.dst v') w'):
  if Region.wanted o (yielded ops a.tmps)=true then Oper.wp Tryz.prog o a w K Q else E:=by
 have hw:Region.wanted o (yielded ops a.tmps)=true:=by simp [Region.wanted,hgd]
 rw [if_pos hw]
 exact wp_append_byt s y ho hes hey hv hx hs hB h
theorem byt_one (w:World) (x:Int) (c:UInt8) (hx:x=(c.toNat:Int)):Byt (w.alloc (.cells #[.int .u8 x] 5)) (.slice (some ⟨w.heap.size,0,none⟩) 1 1) [c]:=by
 subst hx
 refine ⟨_,1,rfl,Nat.le_refl _,by unfold maxLen;omega,fun _=>⟨w.heap.size,0,rfl,by simp,fun j hj=>?_⟩⟩
 obtain rfl:j=0:=by simpa using hj
 have:=cell_one_new w (.int .u8 (c.toNat:Int)) 5 0 _ rfl
 rw [addr_add] at this
 exact this
theorem Own.alloc {w:World} {B:Nat} {v:Value} {l:List UInt8} (h:Own B w v l) (o:Obj):Own B (w.alloc o) v l:=World.ownsRow.alloc h o
theorem Own.drewN {w:World} {B:Nat} {v:Value} {l:List UInt8} (h:Own B w v l) (n:Nat):Own B (w.drewN n) v l:=h
end Go.Proofs.YtpdnnmabijmfbaaGreatDoor
namespace Go.Proofs.YtpdnnmabijmfbaaGreatDoor
set_option maxRecDepth 20000
open Go.RowKit
theorem and127 (x:Int) (h0:0≤x) (h1:x≤255):bits BinOp.and IntKind.u8 x 127=x % 128:=by
 obtain ⟨n,rfl⟩:=Int.eq_ofNat_of_zero_le h0
 have h:∀ n:Fin 256,bits BinOp.and IntKind.u8 ((n.val:Nat):Int) 127=((n.val:Nat):Int) % 128:=by decide +kernel
 exact h ⟨n,by omega⟩
theorem wrap_u64 (x:Int) (h0:0≤x) (h1:x < 18446744073709551616):IntKind.u64.wrap x=x:=by
 simp [IntKind.wrap,IntKind.signed,IntKind.bits]
 omega
theorem pow7 (i:Nat):128 ^ i=2 ^ (7 * i):=by rw [Nat.pow_mul]
theorem or_step (n i:Nat) (x:Int) (hn:n < 18446744073709551616) (h0:0≤x) (h1:x≤255) (hx:x % 128=((n / 128 ^ i % 128:Nat):Int)):
  bits BinOp.or IntKind.u64 (low n i:Int) (IntKind.u64.wrap (IntKind.u64.wrap (bits BinOp.and IntKind.u8 x 127) * 2 ^ (7 * i)))=(low n (i + 1):Int):=by
 have hd:n / 128 ^ i % 128 < 128:=Nat.mod_lt _ (by omega)
 have hle:low n i + n / 128 ^ i % 128 * 128 ^ i≤n:=by
  rw [← low_succ]
  exact Nat.mod_le _ _
 rw [and127 x h0 h1,hx,wrap_u64 ((n / 128 ^ i % 128:Nat):Int) (by omega) (by omega),low_succ]
 generalize n / 128 ^ i % 128=d at *
 have e:(d:Int) * 2 ^ (7 * i)=((d * 128 ^ i:Nat):Int):=by rw [pow7];simp
 rw [e,wrap_u64 _ (by omega) (by omega),u64_or_nat _ _ (by omega) (by omega)]
 congr 1
 have hl:=low_lt n i
 rw [pow7] at hl ⊢
 rw [Nat.or_comm,Nat.mul_comm,← Nat.two_pow_add_eq_or_of_lt hl,Nat.add_comm]
theorem ret2_eq {a b c d:Int} (h1:a=b) (h2:c=d):Ending.returned (.tuple #[.int .u64 a,.int .i64 c])=Ending.returned (.tuple #[.int .u64 b,.int .i64 d]):=by rw [h1,h2]
set_option maxHeartbeats 1600000 in
theorem first_yes (v:Value) (l:List UInt8) (n:Nat) (w:World) (hv:Byt w v l) (hn:n < 18446744073709551616) (hp:dg n <+: l):
    Calls Tryz.prog 183 #[v] w fun e w'=>e=.returned (.tuple #[.int .u64 (n:Int),.int .i64 ((dg n).length:Int)])∧w=w':=by
  obtain ⟨A,c,rfl⟩:=hv.shape
  obtain ⟨_,hc1,hc2,hr⟩:=hv.at_
  have hk:=dg_len10 hn
  have hkp:=dg_pos n
  have hkl:=hp.length_le
  obtain ⟨b,off,rfl,hb,hcell⟩:=hr (by omega)
  unfold maxLen at hc2
  obtain ⟨k,HK⟩:∃ k:Nat,Hid ((dg n).length=k):=⟨_,rfl⟩
  rw [HK.out] at hk hkp hkl ⊢
  have hget:∀ i (h:i < k),(i + 1 < k→(l[i]'(by omega)).toNat=128 + n / 128 ^ i % 128)∧(i + 1=k→(l[i]'(by omega)).toNat=n / 128 ^ i∧n / 128 ^ i < 128∧(0 < i→0 < n / 128 ^ i)):=by
    intro i h
    have hik:i < (dg n).length:=by rw [HK.out];exact h
    have e:l[i]'(by omega)=(dg n)[i]:=(hp.getElem hik).symm
    have:=dg_get n i hik
    rw [HK.out] at this
    rw [e]
    exact this
  have hend:n / 128 ^ (k - 1) < 128:=((hget (k - 1) (by omega)).2 (by omega)).2.1
  have hlowk:low n k=n:=by
    refine low_all n k ?_
    have e:k=k - 1 + 1:=by omega
    rw [e,Nat.pow_succ,Nat.mul_comm]
    have:=Nat.pow_pos (n:=k - 1) (show 0 < 128 by omega)
    exact (Nat.div_lt_iff_lt_mul this).1 hend
  have h9:∀ i,i=9→n / 128 ^ i≤1:=by
    intro i hi
    subst hi
    have:(128:Nat) ^ 9=9223372036854775808:=by decide
    rw [this]
    omega
  obtain ⟨L,HL⟩:∃ L:Nat,Hid (l.length=L):=⟨_,rfl⟩
  have hkL:k≤L:=by rw [← HL.out];exact hkl
  rw [HL.out]
  have HW:=hid hlowk
  clear hlowk hend hp
  go_enter Tryz.func183,Tryz.ntmps183
  go_wp2
  go_loop [4,5] (fun sa si=>∃ i:Nat,i < k∧si=.int .i64 i∧sa=.int .u64 (low n i:Int)) (fun _ si=>10 - (intOf si).toNat)
  case atStart=>exact ⟨0,by omega,rfl,by rw [low_zero];rfl⟩
  case round=>
    obtain ⟨i,hi,rfl,rfl⟩:=hrel
    have hil:i < l.length:=by omega
    have hiL:i < L:=by omega
    have hc:=hcell i hil
    have hx:=hget i hi
    obtain ⟨x,hx0,hx1,HX⟩:∃ x:Int,0≤x∧x≤255∧Hid ((l[i].toNat:Int)=x):=⟨_,(byte_lt l[i]).1,(byte_lt l[i]).2,rfl⟩
    unfold bcell at hc
    rw [HX.out] at hc
    have hi10:(i:Int) < 10:=by omega
    by_cases hlast:i + 1 < k
    · have hx2:=hx.1 hlast
      have hx3:128≤x:=by rw [← HX.out];omega
      have hx4:x % 128=((n / 128 ^ i % 128:Nat):Int):=by rw [← HX.out];omega
      have HS:=hid (or_step n i x hn hx0 hx1 hx4)
      clear hx hx2 hx4 hget hcell h9
      go_wp2
      go_round
      case rel=>exact ⟨i + 1,hlast,by go_num,by rw [HS.out]⟩
      case measure=>simp [intOf];omega
    · obtain ⟨hx2,hx5,hx6⟩:=hx.2 (by omega)
      have hx3:x < 128:=by rw [← HX.out];omega
      have hx4:x % 128=((n / 128 ^ i % 128:Nat):Int):=by rw [← HX.out];omega
      have HS:=hid (or_step n i x hn hx0 hx1 hx4)
      have hik:i + 1=k:=by omega
      have hx7:0 < i→0 < x:=fun h=>by have:=hx6 h;rw [← HX.out];omega
      have h1:i=9→x≤1:=by
        intro e
        have:=h9 i e
        rw [← HX.out]
        omega
      clear hx hx2 hx4 hx5 hx6 hget hcell h9
      have HK1:=hid hik
      clear hik
      go_wp2
      all_goals first
        | (exfalso;have:=hx7 (by assumption);omega)
        | (try (have e0:x=0:=by assumption
                subst e0)
           go_ret2
           exact ⟨ret2_eq (HS.out.trans (by rw [HK1.out,HW.out])) (by have:=HK1.out;omega),rfl⟩)
set_option maxHeartbeats 1600000 in
theorem first_no (v:Value) (l:List UInt8) (w:World) (hv:Byt w v l) (hp:∀ n,n < 18446744073709551616→¬ dg n <+: l):
  Calls Tryz.prog 183 #[v] w fun e w'=>e=.returned (.tuple #[.int .u64 0,.int .i64 0])∧w=w':=by
 obtain ⟨A,c,rfl⟩:=hv.shape
 obtain ⟨_,hc1,hc2,hr⟩:=hv.at_
 unfold maxLen at hc2
 by_cases hl:l.length=0
 ·rw [hl]
  go_enter Tryz.func183,Tryz.ntmps183
  go_wp2
  refine wp_loop_rounds 1 ?_
  rw [rounds_succ]
  go_wp2
  go_ret2
  exact ⟨rfl,rfl⟩
 obtain ⟨b,off,rfl,hb,hcell⟩:=hr (by omega)
 have hgood:∀ i (h:i < l.length),i < 10→(∀ j (hj:j < i),128≤(l[j]'(by omega)).toNat)→(l[i].toNat < 128)→(0 < i→0 < l[i].toNat)→(i=9→l[i].toNat≤1)→False:=by
  intro i h hi hj hlt h0 h9
  obtain ⟨e,_⟩:=dg_val (l.take i) l[i] (fun x hx=>by
   obtain ⟨j,hjl,rfl⟩:=List.getElem_of_mem hx
   rw [List.getElem_take]
   exact hj j (by simp at hjl;omega)) hlt (fun hne=>h0 (by
    rcases Nat.eq_zero_or_pos i with h | h
    ·subst h;simp at hne
    ·exact h))
  rw [← List.take_succ_eq_append_getElem h] at e
  have e1:=List.take_succ_eq_append_getElem h
  refine hp _ ?_ (by rw [e];exact List.take_prefix _ _)
  rw [e1]
  exact val_64 _ _ (by simp;omega) hlt (fun h=>h9 (by simp at h;omega))
 obtain ⟨L,HL⟩:∃ L:Nat,Hid (l.length=L):=⟨_,rfl⟩
 have hL0:0 < L:=by have:=HL.out;omega
 rw [HL.out] at hc1 ⊢
 have HG:=hid hgood
 clear hgood hp hl
 go_enter Tryz.func183,Tryz.ntmps183
 go_wp2
 go_loop [4,5] (fun sa si=>∃ (i:Nat) (a:Int),i≤L∧i≤10∧si=.int .i64 i∧sa=.int .u64 a∧Hid (∀ j (hj:j < i) (hl:j < l.length),128≤(l[j]).toNat)) (fun _ si=>10 - (intOf si).toNat)
 case atStart=>exact ⟨0,0,by omega,by omega,rfl,rfl,hid (fun j hj=>by omega)⟩
 case round=>
  obtain ⟨i,a,hi,hi10,rfl,rfl,HB⟩:=hrel
  by_cases hin:i < L∧i < 10
  ·obtain ⟨hiL,hi9⟩:=hin
   have hil:i < l.length:=by rw [HL.out];exact hiL
   have hc:=hcell i hil
   obtain ⟨x,hx0,hx1,HX⟩:∃ x:Int,0≤x∧x≤255∧Hid ((l[i].toNat:Int)=x):=⟨_,(byte_lt l[i]).1,(byte_lt l[i]).2,rfl⟩
   unfold bcell at hc
   rw [HX.out] at hc
   have hi10':(i:Int) < 10:=by omega
   clear hcell
   by_cases hbig:128≤x
   ·go_wp2
    go_round
    case rel=>
     refine ⟨i + 1,_,by omega,by omega,by go_num,rfl,hid (fun j hj hjl=>?_)⟩
     by_cases hji:j < i
     ·exact HB.out j hji hjl
     ·obtain rfl:j=i:=by omega
      have:=HX.out
      omega
    case measure=>simp [intOf];omega
   ·have hno:¬ ((0 < i→0 < x)∧(i=9→x≤1)):=fun hh=>HG.out i hil (by omega) (fun j hj=>HB.out j hj _) (by have:=HX.out;omega) (fun h0=>by have:=HX.out;have:=hh.1 h0;omega) (fun h9=>by have:=HX.out;have:=hh.2 h9;omega)
    have HN:=hid hno
    clear hno
    go_wp2
    all_goals first
     | (go_ret2;exact ⟨rfl,rfl⟩)
     | (exfalso;refine HN.out ⟨fun _=>?_,fun _=>?_⟩ <;> omega)
  ·by_cases hiL:i < L
   ·obtain rfl:i=10:=by omega
    go_wp2
    go_ret2
    exact ⟨rfl,rfl⟩
   ·go_wp2
    go_ret2
    exact ⟨rfl,rfl⟩
end Go.Proofs.YtpdnnmabijmfbaaGreatDoor
namespace Go.Proofs.YtpdnnmabijmfbaaGreatDoor
set_option maxRecDepth 20000
open Go.RowKit
def tot (ls:List (List UInt8)) (k:Nat):Nat:=(ls.take k).flatten.length
theorem tot_zero (ls:List (List UInt8)):tot ls 0=0:=by simp [tot]
theorem tot_succ (ls:List (List UInt8)) (k:Nat) (h:k < ls.length):tot ls (k + 1)=tot ls k + ls[k].length:=by
 unfold tot
 rw [List.take_succ_eq_append_getElem h,List.flatten_append,List.length_append]
 simp
theorem take_flat (ls:List (List UInt8)) (k:Nat) (h:k < ls.length):(ls.take k).flatten ++ ls[k]=(ls.take (k + 1)).flatten:=by
 rw [List.take_succ_eq_append_getElem h,List.flatten_append,List.flatten_singleton]
theorem tot_le (ls:List (List UInt8)) (k:Nat):tot ls k≤ls.flatten.length:=by
 unfold tot
 have:=congrArg (fun l=>l.flatten.length) (List.take_append_drop k ls)
 simp only [List.flatten_append,List.length_append] at this
 omega
set_option maxHeartbeats 1600000 in
theorem join_any (ls:List (List UInt8)) (vs:Nat→Value) (g n c:Nat) (w:World) (hn:ls.length=n) (hg:g < w.heap.size) (hc:∀ j,j < n→w.cell? ⟨g,j,none⟩=some (vs j))
  (hv:∀ j (h:j < ls.length),Byt w (vs j) ls[j]) (hs:ls.flatten.length≤1099511627776) (hn2:n≤1000):
  Calls Tryz.prog 149 #[.slice (some ⟨g,0,none⟩) n c] w fun e w'=>∃ v,e=.returned v∧Own w.heap.size w' v ls.flatten∧Below w.heap.size w w':=by
 obtain ⟨i0,hi,hz0,hz1,hz2⟩:=info_parts info_u8
 go_enter Tryz.func149,Tryz.ntmps149
 have Hn:=hid hn
 clear hn
 go_wp2
 go_loop [3,11] (fun sz ix=>∃ k:Nat,k≤n∧ix=.int .i64 k∧sz=.int .i64 (tot ls k)) (fun _ ix=>n - (intOf ix).toNat)
 case atStart=>exact ⟨0,Nat.zero_le _,rfl,by rw [tot_zero];rfl⟩
 case round=>
  obtain ⟨k,hk,rfl,rfl⟩:=hrel
  have htk:=tot_le ls k
  by_cases hlt:k < n
  ·have hlt':k < ls.length:=by rw [Hn.out];exact hlt
   have hck:=hc k hlt
   obtain ⟨A,cp,hvk,_⟩:=hv k hlt'
   have hts:=tot_succ ls k hlt'
   have htk1:=tot_le ls (k + 1)
   have hb:tot ls k + ls[k].length≤1099511627776:=by omega
   rw [hvk] at hck
   have HT:=hid hts
   clear hts hvk hc hv
   go_wp2
   go_round
   case rel=>exact ⟨k + 1,by omega,by go_num,by rw [HT.out];go_num⟩
   case measure=>simp [intOf];omega
  ·obtain rfl:k=n:=by omega
   have hb2:i0.bytes * tot ls k≤281474976710656:=by rw [hz2];omega
   have hb3:tot ls k≤maxLen:=by unfold maxLen;omega
   go_wp2_with (at_make;refine wpList_make_own _ rfl _ _ 33 rfl w.heap.size 5 i0 (.int .u8 0) 1 under_bytes hi hz0 hz1 _ _ _ (tot ls k) rfl rfl rfl hb2 hb3 (Nat.le_refl _) ?_)
   intro w0 hown0 hgrow0
   have hb0:Below w.heap.size w w0:=(Below.refl _ _).grown hgrow0 (Nat.le_refl _) (fun k h=>by cases h)
   have hv0:Own w.heap.size w0 (.slice (some ⟨w.heap.size,0,none⟩) 0 (tot ls k)) []:=hown0
   clear hown0 hgrow0
   go_wp2
   go_loopw [6,24] (fun out ix wr=>∃ j:Nat,j≤k∧ix=.int .i64 j∧Own w.heap.size wr out (ls.take j).flatten∧Below w.heap.size w wr) (fun _ ix _=>k - (intOf ix).toNat)
   case atStart=>exact ⟨0,Nat.zero_le _,rfl,by simpa using hv0,hb0⟩
   case round=>
    obtain ⟨j,hj,rfl,hown,hbw⟩:=hrel
    by_cases hlt2:j < k
    ·have hlt':j < ls.length:=by rw [Hn.out];exact hlt2
     have hcj:wr.cell? ⟨g,j,none⟩=some (vs j):=(hbw.cell (p:=⟨g,j,none⟩) hg).trans (hc j hlt2)
     have hvj:=(hv j hlt').below hbw
     have hsum:(ls.take j).flatten.length + ls[j].length≤140737488355328:=by
      have:=tot_succ ls j hlt'
      have:=tot_le ls (j + 1)
      unfold tot at *
      omega
     have hbs:=hbw.size
     go_wp2_with (at_builtin;refine wpList_append_byt rfl (.tmp 28) (.tmp 29) rfl rfl rfl hown hvj hsum hbs ?_;intro v1 w1 hown1 hg1 _)
     have hfl:(ls.take j).flatten ++ ls[j]=(ls.take (j + 1)).flatten:=take_flat ls j hlt'
     have hb1:Below w.heap.size w w1:=hbw.grown hg1 hbs (fun k hk=>(World.ownsRow.lt hown k hk).1)
     rw [hfl] at hown1
     clear hfl hg1
     go_roundw
     case rel=>exact ⟨j + 1,by omega,by go_num,hown1,hb1⟩
     case measure=>simp [intOf];omega
    ·obtain rfl:j=k:=by omega
     go_wp2
     go_ret
     refine ⟨_,rfl,?_,hbw⟩
     have e:ls.take j=ls:=by rw [← Hn.out];exact List.take_length
     rw [e] at hown
     exact hown
end Go.Proofs.YtpdnnmabijmfbaaGreatDoor
namespace Go.Proofs.YtpdnnmabijmfbaaGreatDoor
set_option maxRecDepth 20000
open Go.RowKit
theorem or128 (k:Int) (h0:0≤k) (h1:k < 256):bits BinOp.or IntKind.u8 k 128=128 + k % 128:=by
 obtain ⟨n,rfl⟩:=Int.eq_ofNat_of_zero_le h0
 have h:∀ n:Fin 256,bits BinOp.or IntKind.u8 ((n.val:Nat):Int) 128=128 + ((n.val:Nat):Int) % 128:=by decide +kernel
 exact h ⟨n,by omega⟩
set_option maxHeartbeats 800000 in
theorem digits_any (n:Int) (w:World) (h0:0≤n) (h1:n < 18446744073709551616):
  Calls Tryz.prog 184 #[.int .u64 n] w fun e w'=>∃ v,e=.returned v∧Own w.heap.size w' v (dg n.toNat)∧Below w.heap.size w w':=by
 obtain ⟨i0,hi,hz0,hz1,hz2⟩:=info_parts info_u8
 have hL:=dg_len10 (n:=n.toNat) (by omega)
 go_enter Tryz.func184,Tryz.ntmps184
 go_wp2_with (at_make;refine wpList_make_own _ rfl _ _ 33 rfl w.heap.size 5 i0 (.int .u8 0) 1 under_bytes hi hz0 hz1 _ _ _ 10 rfl rfl (by omega) ?b2 ?b3 (Nat.le_refl _) ?_)
 case b2=>rw [hz2];omega
 case b3=>unfold maxLen;omega
 intro w0 hown0 hgrow0
 have hb0:Below w.heap.size w w0:=(Below.refl _ _).grown hgrow0 (Nat.le_refl _) (fun k h=>by cases h)
 have hv0:Own w.heap.size w0 (.slice (some ⟨w.heap.size,0,none⟩) 0 10) []:=hown0
 clear hown0 hgrow0
 go_wp2
 go_loopw [0,3] (fun sn out wr=>∃ (m:Int) (acc:List UInt8),0≤m∧m < 18446744073709551616∧sn=.int .u64 m∧Own w.heap.size wr out acc∧Hid (acc ++ dg m.toNat=dg n.toNat)∧acc.length≤10∧Below w.heap.size w wr)
  (fun sn _ _=>(intOf sn).toNat)
 case atStart=>exact ⟨n,[],h0,h1,rfl,hv0,by simp [Hid],by simp,hb0⟩
 case round=>
  obtain ⟨m,acc,hm0,hm1,rfl,hown,heq,hal,hb⟩:=hrel
  by_cases hlt:m < 128
  ·have hq:m=((UInt8.ofNat m.toNat).toNat:Int):=by rw [UInt8.toNat_ofNat'];omega
   have hql:acc.length + [UInt8.ofNat m.toNat].length≤140737488355328:=by simp;omega
   have hbs:=hb.size
   have HQ:=hid hq
   clear hq
   go_wp2_with (at_builtin;refine wpList_append_byt rfl (.tmp 15) (.tmp 18) rfl rfl rfl (hown.alloc _) (byt_one _ _ (UInt8.ofNat m.toNat) HQ.out) hql (by simp;omega) ?_;intro v1 w1 hown1 hg1 _)
   go_ret
   rw [dg_small (by omega)] at heq
   rw [heq.out] at hown1
   exact ⟨v1,rfl,hown1,(hb.alloc hbs _).grown hg1 (by simp;omega) (fun k hk=>(World.ownsRow.lt hown k hk).1)⟩
  ·have hq:bits BinOp.or IntKind.u8 (m % 256) 128=((UInt8.ofNat (128 + m.toNat % 128)).toNat:Int):=by
    rw [or128 _ (by omega) (by omega),UInt8.toNat_ofNat'];omega
   have hql:acc.length + [UInt8.ofNat (128 + m.toNat % 128)].length≤140737488355328:=by simp;omega
   have hbs:=hb.size
   have HQ:=hid hq
   clear hq
   have hge:128≤m:=by omega
   go_wp2_with (at_builtin;refine wpList_append_byt rfl (.tmp 7) (.tmp 11) rfl rfl rfl (hown.alloc _) (byt_one _ _ (UInt8.ofNat (128 + m.toNat % 128)) HQ.out) hql (by simp;omega) ?_;intro v1 w1 hown1 hg1 _)
   have hlen:(acc ++ [UInt8.ofNat (128 + m.toNat % 128)]).length≤10∧acc ++ [UInt8.ofNat (128 + m.toNat % 128)] ++ dg (m / 128).toNat=dg n.toNat:=by
    have h2:=heq.out
    rw [dg_big (n:=m.toNat) (by omega)] at h2
    have e:m.toNat / 128=(m / 128).toNat:=by omega
    rw [e] at h2
    have h3:=congrArg List.length h2
    have h4:=dg_pos (m / 128).toNat
    simp at h3
    exact ⟨by simp;omega,by simpa using h2⟩
   go_roundw
   case rel=>exact ⟨m / 128,_,by omega,by omega,rfl,hown1,hid hlen.2,hlen.1,(hb.alloc hbs _).grown hg1 (by simp;omega) (fun k hk=>(World.ownsRow.lt hown k hk).1)⟩
   case measure=>simp [intOf];omega
end Go.Proofs.YtpdnnmabijmfbaaGreatDoor
namespace Go.Proofs.YtpdnnmabijmfbaaGreatDoor
set_option maxRecDepth 20000
open Go.RowKit
theorem join1 (u:Value) (l:List UInt8) (g c:Nat) (w:World) (hg:g < w.heap.size) (c0:w.cell? ⟨g,0,none⟩=some u) (hu:Byt w u l) (hs:l.length≤1099511627776):
  Calls Tryz.prog 149 #[.slice (some ⟨g,0,none⟩) 1 c] w fun e w'=>∃ v,e=.returned v∧Own w.heap.size w' v l∧Below w.heap.size w w':=by
 have h:=join_any [l] (fun _=>u) g 1 c w rfl hg (fun j hj=>by
  match j,hj with
  | 0,_=>exact c0) (fun j hj=>by
  match j,hj with
  | 0,_=>exact hu) (by simpa using hs) (by omega)
 simpa using h
theorem join2 (u v:Value) (l m:List UInt8) (g c:Nat) (w:World) (hg:g < w.heap.size) (c0:w.cell? ⟨g,0,none⟩=some u) (c1:w.cell? ⟨g,1,none⟩=some v) (hu:Byt w u l) (hv:Byt w v m) (hs:l.length + m.length≤1099511627776):
  Calls Tryz.prog 149 #[.slice (some ⟨g,0,none⟩) 2 c] w fun e w'=>∃ x,e=.returned x∧Own w.heap.size w' x (l ++ m)∧Below w.heap.size w w':=by
 have h:=join_any [l,m] (fun j=>if j=0 then u else v) g 2 c w rfl hg (fun j hj=>by
  match j,hj with
  | 0,_=>exact c0
  | 1,_=>exact c1) (fun j hj=>by
  match j,hj with
  | 0,_=>exact hu
  | 1,_=>exact hv) (by simpa using hs) (by omega)
 simpa using h
theorem join3 (u v x:Value) (l m n:List UInt8) (g c:Nat) (w:World) (hg:g < w.heap.size) (c0:w.cell? ⟨g,0,none⟩=some u) (c1:w.cell? ⟨g,1,none⟩=some v) (c2:w.cell? ⟨g,2,none⟩=some x)
  (hu:Byt w u l) (hv:Byt w v m) (hx:Byt w x n) (hs:l.length + (m.length + n.length)≤1099511627776):
  Calls Tryz.prog 149 #[.slice (some ⟨g,0,none⟩) 3 c] w fun e w'=>∃ y,e=.returned y∧Own w.heap.size w' y (l ++ (m ++ n))∧Below w.heap.size w w':=by
 have h:=join_any [l,m,n] (fun j=>if j=0 then u else if j=1 then v else x) g 3 c w rfl hg (fun j hj=>by
  match j,hj with
  | 0,_=>exact c0
  | 1,_=>exact c1
  | 2,_=>exact c2) (fun j hj=>by
  match j,hj with
  | 0,_=>exact hu
  | 1,_=>exact hv
  | 2,_=>exact hx) (by simpa using hs) (by omega)
 simpa using h
set_option maxHeartbeats 800000 in
theorem num_any (v:Value) (l:List UInt8) (n:Int) (w:World) (hv:Byt w v l) (h0:0≤n) (h1:n < 18446744073709551616) (hs:l.length≤1099511627000):
  Calls Tryz.prog 155 #[v,.int .u64 n] w fun e w'=>∃ x,e=.returned x∧Own w.heap.size w' x (l ++ dg n.toNat)∧Below w.heap.size w w':=by
 have hL:=dg_len10 (n:=n.toNat) (by omega)
 obtain ⟨A,c,rfl⟩:=hv.shape
 go_enter Tryz.func155,Tryz.ntmps155
 go_wp2_with fail
 refine (digits_any n w h0 h1).mono ?_
 rintro e w1 ⟨v1,rfl,hown1,hb1⟩
 have hbs:=hb1.size
 obtain ⟨A1,c1,rfl⟩:=hown1.byt.shape
 go_wp2_with fail
 refine (join2 _ _ l (dg n.toNat) w1.heap.size 2 (w1.alloc (.cells #[.slice A l.length c,.slice A1 (dg n.toNat).length c1] 33)) (by simp) (by simp) (by simp) ((hv.below hb1).alloc _) (hown1.byt.alloc _) (by omega)).mono ?_
 rintro e w2 ⟨x,rfl,hown2,hb2⟩
 go_wp2_with fail
 go_ret
 exact ⟨x,rfl,hown2.more (by simp;omega),hb1.trans ((Below.alloc (Below.refl _ _) hbs _).trans (hb2.mono (by simp;omega)))⟩
set_option maxHeartbeats 800000 in
theorem text_any (v u:Value) (l t:List UInt8) (w:World) (hv:Byt w v l) (hu:Byt w u t) (hs:l.length≤1099511000000) (ht:t.length≤65536):
  Calls Tryz.prog 232 #[v,u] w fun e w'=>∃ x,e=.returned x∧Own w.heap.size w' x (l ++ tx t)∧Below w.heap.size w w':=by
 have hL:=dg_len10 (n:=t.length) (by omega)
 obtain ⟨A,c,rfl⟩:=hv.shape
 obtain ⟨B,d,rfl,hd,hd2,hrd⟩:=hu
 have hu1:Byt w (.slice B t.length d) t:=⟨B,d,rfl,hd,hd2,hrd⟩
 go_enter Tryz.func232,Tryz.ntmps232
 go_wp2_with fail
 refine (digits_any (t.length:Int) w (by omega) (by omega)).mono ?_
 rintro e w1 ⟨v1,rfl,hown1,hb1⟩
 rw [Int.toNat_natCast] at hown1
 have hbs:=hb1.size
 obtain ⟨A1,c1,rfl⟩:=hown1.byt.shape
 go_wp2_with fail
 refine (join3 _ _ _ l (dg t.length) t w1.heap.size 3 (w1.alloc (.cells #[.slice A l.length c,.slice A1 (dg t.length).length c1,.slice B t.length d] 33)) (by simp) (by simp) (by simp) (by simp) ((hv.below hb1).alloc _) (hown1.byt.alloc _) ((hu1.below hb1).alloc _) (by omega)).mono ?_
 rintro e w2 ⟨x,rfl,hown2,hb2⟩
 go_wp2_with fail
 go_ret
 exact ⟨x,rfl,hown2.more (by simp;omega),hb1.trans ((Below.alloc (Below.refl _ _) hbs _).trans (hb2.mono (by simp;omega)))⟩
end Go.Proofs.YtpdnnmabijmfbaaGreatDoor
namespace Go.Proofs.YtpdnnmabijmfbaaGreatDoor
set_option maxRecDepth 20000
open Go.RowKit
theorem cell_blk {w:World} {g:Nat} {cs:Array Value} {t:TypeId} (h:w.heap[g]?=some (.cells cs t (0,0))) (i:Nat):w.cell? ⟨g,i,none⟩=cs[i]?:=cell_of_row w g i cs t (0,0) h
theorem free_blk {w:World} {g:Nat} {cs:Array Value} {t:TypeId} (h:w.heap[g]?=some (.cells cs t (0,0))) (i:Nat):w.frozen? ⟨g,i,none⟩=false:=by simp [World.frozen?,h]
theorem set_blk {w:World} {g:Nat} {cs:Array Value} {t:TypeId} (h:w.heap[g]?=some (.cells cs t (0,0))) (i:Nat) (u:Value):(w.setCell ⟨g,i,none⟩ u).heap[g]?=some (.cells (cs.setIfInBounds i u) t (0,0)):=by
 simp [World.setCell,Array.getElem?_modify,h]
structure Rdr (w:World) (g:Nat) (l:List UInt8) (p:Nat) (r:Bool):Prop where
 ex:∃ A c,Own 0 w (.slice A l.length c) l∧w.heap[g]?=some (.cells #[.slice A l.length c,.int .i64 (p:Int),.bool r] 213 (0,0))
 le:p≤l.length
section
variable {w w':World} {g:Nat} {l:List UInt8} {p:Nat} {r:Bool}
theorem own_ne {B:Nat} {v:Value} {m:List UInt8} {cs:Array Value} {t:TypeId} (h:Own B w v m) (hg:w.heap[g]?=some (.cells cs t (0,0))) (ht:5≠t):v.ownBlock≠some g:=by
 rcases h.2 with ⟨rfl,_⟩ | ⟨g',cap,cur,rfl,_,hh,_⟩
 ·simp [Value.ownBlock]
 ·intro he
  obtain rfl:g'=g:=by simpa [Value.ownBlock] using he
  rw [hh] at hg
  injection hg with hg
  injection hg with _ h2
  exact ht h2
theorem Rdr.keep (h:Rdr w g l p r) (hk:∀ b,b < w.heap.size→(b=g∨∃ v,Own 0 w v l∧v.ownBlock=some b)→w'.heap[b]?=w.heap[b]?):Rdr w' g l p r:=by
 obtain ⟨⟨A,c,h1,h2⟩,h3⟩:=h
 exact ⟨⟨A,c,h1.keep fun b hb e=>hk b hb (.inr ⟨_,h1,e⟩),(hk g (lt_of_block h2) (.inl rfl)).trans h2⟩,h3⟩
theorem Rdr.below (h:Rdr w g l p r) (hb:Below w.heap.size w w'):Rdr w' g l p r:=h.keep fun b hlt _=>hb.block b hlt
theorem Rdr.far {g':Nat} {l':List UInt8} {p':Nat} {r':Bool} (h:Rdr w g l p r) (h':Rdr w g' l' p' r') (hne:g≠g') (hg:w.grownBy w' (some g')):Rdr w' g l p r:=h.keep fun b hlt hh=>by
 refine hg.block b hlt fun e=>?_
 injection e with e
 rcases hh with e2 | ⟨v,hv,hvb⟩
 ·exact hne (e2.symm.trans e)
 ·obtain ⟨_,_,_,h2⟩:=h'.ex
  subst e
  exact own_ne hv h2 (by decide) hvb
theorem Rdr.apart {k:Nat} {cs:Array Value} {t:TypeId} (h:Rdr w g l p r) (hg:w.grownBy w' (some k)) (hk:w.heap[k]?=some (.cells cs t (0,0))) (ht:5≠t) (hne:g≠k):Rdr w' g l p r:=h.keep fun b hlt hh=>by
 refine hg.block b hlt fun e=>?_
 injection e with e
 rcases hh with e2 | ⟨v,hv,hvb⟩
 ·exact hne (e2.symm.trans e)
 ·subst e
  exact own_ne hv hk ht hvb
theorem Rdr.lt (h:Rdr w g l p r):g < w.heap.size:=by
 obtain ⟨_,_,_,h2⟩:=h.ex
 exact lt_of_block h2
theorem Rdr.drewN (h:Rdr w g l p r) (n:Nat):Rdr (w.drewN n) g l p r:=⟨h.ex,h.le⟩
theorem Rdr.turn (h:Rdr w g l p r) (p':Nat) (hp:p'≤l.length):Rdr (w.setCell ⟨g,1,none⟩ (.int .i64 (p':Int))) g l p' r:=by
 obtain ⟨A,c,h1,h2⟩:=h.ex
 exact ⟨⟨A,c,ownsRow_setCell_other h1 (own_ne h1 h2 (by decide)) _,by rw [set_blk h2];rfl⟩,hp⟩
theorem Rdr.spoil (h:Rdr w g l p r):Rdr (w.setCell ⟨g,2,none⟩ (.bool false)) g l p false:=by
 obtain ⟨A,c,h1,h2⟩:=h.ex
 exact ⟨⟨A,c,ownsRow_setCell_other h1 (own_ne h1 h2 (by decide)) _,by rw [set_blk h2];rfl⟩,h.le⟩
theorem grown_set (w:World) (g i:Nat) (u:Value):w.grownBy (w.setCell ⟨g,i,none⟩ u) (some g):=
 ⟨rfl,rfl,rfl,by simp [World.setCell],fun k _ hk=>Below.heap_setCell w _ u k (fun e=>hk (by rw [e]))⟩
theorem grown_of_below {w w':World} (h:Below w.heap.size w w') (row:Option Nat):w.grownBy w' row:=⟨h.os,h.tape,h.output,h.size,fun k hk _=>h.block k hk⟩
theorem grown_drewN {a b:World} {row:Option Nat} (h:a.grownBy b row) (n:Nat):a.grownBy (b.drewN n) row:=⟨h.os,h.tape,h.output,h.size,h.block⟩
end
set_option maxHeartbeats 800000 in
theorem read_any (v:Value) (l:List UInt8) (w:World) (hv:Byt w v l) (hs:l.length≤1099511627776):
  Calls Tryz.prog 105 #[v] w fun e w'=>∃ g,e=.returned (.pointer (some ⟨g,0,none⟩))∧w.heap.size≤g∧Rdr w' g l 0 true∧Below w.heap.size w w':=by
 obtain ⟨A,c,rfl⟩:=hv.shape
 go_enter Tryz.func105,Tryz.ntmps105
 go_wp2_with fail
 refine (join1 _ l w.heap.size 1 (w.alloc (.cells #[.slice A l.length c] 33)) (by simp) (by simp) (hv.alloc _) hs).mono ?_
 rintro e w1 ⟨v1,rfl,hown1,hb1⟩
 have hbs:=hb1.size
 obtain ⟨A1,c1,rfl⟩:=hown1.byt.shape
 go_wp2_with fail
 go_ret
 simp at hbs
 refine ⟨_,rfl,by omega,⟨⟨A1,c1,(hown1.more (Nat.zero_le _)).alloc _,heap_alloc_new w1 _⟩,Nat.zero_le _⟩,?_⟩
 exact ((Below.alloc (Below.refl _ _) (Nat.le_refl _) _).trans (hb1.mono (by simp))).alloc (by omega) _
theorem wrong_any (g:Nat) (l:List UInt8) (p:Nat) (r:Bool) (w:World) (hr:Rdr w g l p r):
  Calls Tryz.prog 152 #[.pointer (some ⟨g,0,none⟩)] w fun e w'=>e=.returned (.bool (!r))∧w=w':=by
 obtain ⟨A,c,h1,h2⟩:=hr.ex
 have c2:=cell_blk h2 2
 simp at c2
 clear h1 h2 hr
 go_enter Tryz.func152,Tryz.ntmps152
 go_wp2
 go_ret
 exact ⟨rfl,rfl⟩
theorem left_any (g:Nat) (l:List UInt8) (p:Nat) (r:Bool) (w:World) (hr:Rdr w g l p r) (hl:l.length≤1099511627776):
  Calls Tryz.prog 153 #[.pointer (some ⟨g,0,none⟩)] w fun e w'=>e=.returned (.int .i64 ((l.length:Int) - (p:Int)))∧∃ n,w'=w.drewN n:=by
 obtain ⟨A,c,h1,h2⟩:=hr.ex
 have hp:=hr.le
 have c0:=cell_blk h2 0
 have c1:=cell_blk h2 1
 simp at c0 c1
 clear h1 h2 hr
 go_enter Tryz.func153,Tryz.ntmps153
 go_wp2
 go_quiet (fail)
 go_wp2
 go_ret
 exact ⟨rfl,_,rfl⟩
theorem fail_any (g:Nat) (l:List UInt8) (p:Nat) (r:Bool) (w:World) (hr:Rdr w g l p r):
  Calls Tryz.prog 150 #[.pointer (some ⟨g,0,none⟩)] w fun e w'=>e=.returned (.tuple #[])∧w.setCell ⟨g,2,none⟩ (.bool false)=w':=by
 obtain ⟨A,c,h1,h2⟩:=hr.ex
 have c2:=cell_blk h2 2
 have f2:=free_blk h2 2
 simp at c2
 clear h1 h2 hr
 go_enter Tryz.func150,Tryz.ntmps150
 go_wp2
 go_end0
 exact ⟨rfl,rfl⟩
end Go.Proofs.YtpdnnmabijmfbaaGreatDoor
namespace Go.Proofs.YtpdnnmabijmfbaaGreatDoor
set_option maxRecDepth 20000
open Go.RowKit
theorem Byt.cut {w:World} {A:Option Addr} {l:List UInt8} {c p:Nat} (h:Byt w (.slice A l.length c) l) (hp:p≤l.length):
  Byt w (.slice (if c=p then A else A.map (·.add p)) (l.length - p) (c - p)) (l.drop p):=by
 obtain ⟨_,h1,h2,h3⟩:=h.at_
 refine ⟨_,c - p,by rw [List.length_drop],by rw [List.length_drop];omega,by omega,fun hl=>?_⟩
 rw [List.length_drop] at hl
 obtain ⟨b,off,rfl,hb,hc⟩:=h3 (by omega)
 rw [if_neg (by omega)]
 refine ⟨b,off + p,by rw [Option.map_some,addr_add],hb,fun j hj=>?_⟩
 rw [List.length_drop] at hj
 rw [Nat.add_assoc,hc (p + j) (by omega),List.getElem_drop]
set_option maxHeartbeats 1600000 in
theorem number_any (g:Nat) (l:List UInt8) (p:Nat) (r:Bool) (most:Nat) (w:World) (hr:Rdr w g l p r) (hl:l.length≤1099511627776) (_hm:most < 18446744073709551616):
  Calls Tryz.prog 151 #[.pointer (some ⟨g,0,none⟩),.int .u64 (most:Int)] w fun e w'=>
   e=.returned (.int .u64 ((rdNum most l p r).1:Int))∧Rdr w' g l (rdNum most l p r).2.1 (rdNum most l p r).2.2∧w.grownBy w' (some g):=by
 cases r with
 | false=>
  have e:rdNum most l p false=(0,p,false):=rdNum_bad _ _ _
  rw [e]
  go_enter Tryz.func151,Tryz.ntmps151
  go_wp2_with fail
  refine (wrong_any g l p false w hr).mono ?_
  rintro e w' ⟨rfl,rfl⟩
  go_wp2_with fail
  go_ret
  exact ⟨rfl,hr,World.grownBy.refl _ _⟩
 | true=>
  obtain ⟨A,c,h1,h2⟩:=hr.ex
  have hp:=hr.le
  have hby:=(Own.byt h1).cut hp
  have c0:=cell_blk h2 0
  have c1:=cell_blk h2 1
  have f1:=free_blk h2 1
  simp at c0 c1
  clear h1 h2
  cases hf:frst (l.drop p) with
  | none=>
   have e:rdNum most l p true=(0,p,false):=rdNum_no hf
   rw [e]
   have hno:=frst_none hf
   clear hf e
   go_enter Tryz.func151,Tryz.ntmps151
   go_wp2_with fail
   refine (wrong_any g l p true w hr).mono ?_
   rintro e w' ⟨rfl,rfl⟩
   go_wp2_with fail
   go_quiet ((go_at_call 183;exact Calls.quiet_of_same ((first_no _ _ _ (hby.drewN _) hno).mono fun _ _ h=>⟨h.1,h.2.symm⟩)))
   go_wp2_with fail
   all_goals
    refine (fail_any g l p true _ (hr.drewN _)).mono ?_
    rintro e w' ⟨rfl,rfl⟩
    go_wp2_with fail
    go_ret
    exact ⟨rfl,(hr.drewN _).spoil,(grown_drewN (World.grownBy.refl _ _) _).trans (grown_set _ g 2 _)⟩
  | some n=>
   obtain ⟨hn,hpre⟩:=frst_some hf
   have hk:=dg_len10 hn
   have hk1:=dg_pos n
   have hpl:=hpre.length_le
   rw [List.length_drop] at hpl
   have hz:(((dg n).length:Int) == 0)=false:=by rw [beq_eq_false_iff_ne];omega
   by_cases hle:n≤most
   ·have e:rdNum most l p true=(n,p + (dg n).length,true):=rdNum_yes hf hle
    rw [e]
    clear hf e
    go_enter Tryz.func151,Tryz.ntmps151
    go_wp2_with fail
    refine (wrong_any g l p true w hr).mono ?_
    rintro e w' ⟨rfl,rfl⟩
    go_wp2_with fail
    go_quiet ((go_at_call 183;exact Calls.quiet_of_same ((first_yes _ _ n _ (hby.drewN _) hn hpre).mono fun _ _ h=>⟨h.1,h.2.symm⟩)))
    go_wp2_with fail
    all_goals
     go_ret
     have ht:=(hr.drewN nq).turn (p + (dg n).length) (by omega)
     rw [Int.natCast_add] at ht
     exact ⟨rfl,ht,(grown_drewN (World.grownBy.refl _ _) _).trans (grown_set _ g 1 _)⟩
   ·have e:rdNum most l p true=(0,p,false):=rdNum_big hf hle
    rw [e]
    clear hf e
    go_enter Tryz.func151,Tryz.ntmps151
    go_wp2_with fail
    refine (wrong_any g l p true w hr).mono ?_
    rintro e w' ⟨rfl,rfl⟩
    go_wp2_with fail
    go_quiet ((go_at_call 183;exact Calls.quiet_of_same ((first_yes _ _ n _ (hby.drewN _) hn hpre).mono fun _ _ h=>⟨h.1,h.2.symm⟩)))
    go_wp2_with fail
    all_goals
     refine (fail_any g l p true _ (hr.drewN _)).mono ?_
     rintro e w' ⟨rfl,rfl⟩
     go_wp2_with fail
     go_ret
     exact ⟨rfl,(hr.drewN _).spoil,(grown_drewN (World.grownBy.refl _ _) _).trans (grown_set _ g 2 _)⟩
def rdUpto (most:Int) (l:List UInt8) (p:Nat) (r:Bool):Nat × Nat × Bool:=if most < 0 then (0,p,false) else rdNum most.toNat l p r
theorem rdNum_le {most:Nat} {l:List UInt8} {p:Nat} {r:Bool}:(rdNum most l p r).1≤most:=by
 unfold rdNum
 split
 ·exact Nat.zero_le _
 ·split
  ·split
   ·assumption
   ·exact Nat.zero_le _
  ·exact Nat.zero_le _
theorem upto_any (g:Nat) (l:List UInt8) (p:Nat) (r:Bool) (most:Int) (w:World) (hr:Rdr w g l p r) (hl:l.length≤1099511627776) (hm0:-9223372036854775808≤most) (hm1:most≤9223372036854775807):
  Calls Tryz.prog 106 #[.pointer (some ⟨g,0,none⟩),.int .i64 most] w fun e w'=>
   e=.returned (.int .i64 ((rdUpto most l p r).1:Int))∧Rdr w' g l (rdUpto most l p r).2.1 (rdUpto most l p r).2.2∧w.grownBy w' (some g):=by
 by_cases hneg:most < 0
 ·have e:rdUpto most l p r=(0,p,false):=by simp [rdUpto,hneg]
  rw [e]
  go_enter Tryz.func106,Tryz.ntmps106
  go_wp2_with fail
  refine (fail_any g l p r w hr).mono ?_
  rintro e w' ⟨rfl,rfl⟩
  go_wp2_with fail
  go_ret
  exact ⟨rfl,hr.spoil,grown_set _ g 2 _⟩
 ·have e:rdUpto most l p r=rdNum most.toNat l p r:=by simp [rdUpto,hneg]
  rw [e]
  obtain ⟨m,rfl⟩:=Int.eq_ofNat_of_zero_le (show 0≤most by omega)
  rw [Int.toNat_natCast]
  have hle:=rdNum_le (most:=m) (l:=l) (p:=p) (r:=r)
  go_enter Tryz.func106,Tryz.ntmps106
  go_wp2_with fail
  refine (number_any g l p r m w hr hl (by omega)).mono ?_
  rintro e w' ⟨rfl,h1,h2⟩
  go_wp2_with fail
  go_ret
  exact ⟨rfl,h1,h2⟩
theorem done_any (g:Nat) (l:List UInt8) (p:Nat) (r:Bool) (w:World) (hr:Rdr w g l p r) (hl:l.length≤1099511627776):
  Calls Tryz.prog 109 #[.pointer (some ⟨g,0,none⟩)] w fun e w'=>e=.returned (.bool (r && decide (p=l.length)))∧∃ n,w'=w.drewN n:=by
 cases r with
 | false=>
  go_enter Tryz.func109,Tryz.ntmps109
  go_wp2_with fail
  refine (wrong_any g l p false w hr).mono ?_
  rintro e w' ⟨rfl,rfl⟩
  go_wp2_with fail
  go_ret
  exact ⟨rfl,0,rfl⟩
 | true=>
  go_enter Tryz.func109,Tryz.ntmps109
  go_wp2_with fail
  refine (wrong_any g l p true w hr).mono ?_
  rintro e w' ⟨rfl,rfl⟩
  go_wp2_with fail
  refine (left_any g l p true w hr hl).mono ?_
  rintro e w' ⟨rfl,n,rfl⟩
  go_wp2_with fail
  go_ret
  refine ⟨?_,n,rfl⟩
  have e:(((l.length:Int) - (p:Int) == 0):Bool)=decide (p=l.length):=by
   rw [Bool.eq_iff_iff]
   simp
   omega
  rw [e]
  rfl
end Go.Proofs.YtpdnnmabijmfbaaGreatDoor
namespace Go.Proofs.YtpdnnmabijmfbaaGreatDoor
set_option maxRecDepth 20000
open Go.RowKit
noncomputable def cutH (v h : Value) (w : World) : Result Next := Sem.run Tryz.prog (execOp (fun o => match o with | .tmp 0 => v | _ => h) { dst := none, op := .slice 33 (.tmp 0) none (some (.tmp 1)) none, type := 0, pos := "", after := #[], guard := none }) w
noncomputable def cutL (v l : Value) (w : World) : Result Next := Sem.run Tryz.prog (execOp (fun o => match o with | .tmp 0 => v | _ => l) { dst := none, op := .slice 33 (.tmp 0) (some (.tmp 1)) none none, type := 0, pos := "", after := #[], guard := none }) w
theorem exec_cutH (r:Operand→Value) (x h:Operand) (dst:Option Tmp) (ty:TypeId) (pos:String) (after:Array Edge) (guard:Option (Nat × Bool)) (w:World):
  Sem.run Tryz.prog (execOp r { dst:=dst,op:=.slice 33 x none (some h) none,type:=ty,pos:=pos,after:=after,guard:=guard }) w=cutH (r x) (r h) w:=rfl
theorem exec_cutL (r:Operand→Value) (x l:Operand) (dst:Option Tmp) (ty:TypeId) (pos:String) (after:Array Edge) (guard:Option (Nat × Bool)) (w:World):
  Sem.run Tryz.prog (execOp r { dst:=dst,op:=.slice 33 x (some l) none none,type:=ty,pos:=pos,after:=after,guard:=guard }) w=cutL (r x) (r l) w:=rfl
theorem RdB.sub {w:World} {A:Option Addr} {l:List UInt8} (h:RdB w A l) (i k c:Nat) (hik:i≤k) (hk:k≤l.length) (hc:l.length≤c):RdB w (if c=i then A else A.map (·.add i)) ((l.drop i).take (k - i)):=fun h0=>by
 rw [List.length_take,List.length_drop] at h0
 obtain ⟨b,off,rfl,hb,hcl⟩:=h (by omega)
 rw [if_neg (by omega)]
 refine ⟨b,off + i,by rw [Option.map_some,addr_add],hb,fun j hj=>?_⟩
 rw [List.length_take,List.length_drop] at hj
 rw [Nat.add_assoc,hcl (i + j) (by omega),List.getElem_take,List.getElem_drop]
theorem sub_length {l:List UInt8} {i k:Nat} (hk:k≤l.length):((l.drop i).take (k - i)).length=k - i:=by
 rw [List.length_take,List.length_drop]
 omega
theorem cut_h (A:Option Addr) (c L k:Nat) (hk:k≤L) (hc:L≤c):∃ A' c',(∀ w,cutH (.slice A L c) (.int .i64 (k:Int)) w=.ok (.value (.slice A' k c')) w)∧∀ w l,l.length=L→Byt w (.slice A L c) l→Byt w (.slice A' k c') (l.take k):=by
 refine ⟨if c=0 then A else A.map (·.add 0),c,fun w=>?_,fun w l hl hv=>?_⟩
 ·obtain ⟨i0,hi,hz0,hz1,hz2⟩:=info_parts info_u8
  have hk4:k≤c:=by omega
  unfold cutH execOp
  simp [Instr.sliceAt,Instr.slice,run_underlying under_bytes,Instr.sliceBounds,Instr.sliceBound,asIntOf,sizeOf,typeInfo,hi,hk4,Sem.run_bind]
 ·obtain ⟨_,h1,h2,h3⟩:=hv.at_
  have hs:=sub_length (l:=l) (i:=0) (k:=k) (by omega)
  have h4:=h3.sub 0 k c (Nat.zero_le _) (by omega) (by omega)
  rw [List.drop_zero,Nat.sub_zero] at h4 hs
  exact ⟨_,_,by rw [hs],by omega,by omega,h4⟩
theorem cut_l (A:Option Addr) (c L i:Nat) (hi:i≤L) (hc:L≤c):∃ A' c',(∀ w,cutL (.slice A L c) (.int .i64 (i:Int)) w=.ok (.value (.slice A' (L - i) c')) w)∧∀ w l,l.length=L→Byt w (.slice A L c) l→Byt w (.slice A' (L - i) c') (l.drop i):=by
 refine ⟨if c=i then A else A.map (·.add i),c - i,fun w=>?_,fun w l hl hv=>?_⟩
 ·obtain ⟨i0,hi0,hz0,hz1,hz2⟩:=info_parts info_u8
  unfold cutL execOp
  simp [Instr.sliceAt,Instr.slice,run_underlying under_bytes,Instr.sliceBounds,Instr.sliceBound,asIntOf,sizeOf,typeInfo,hi0,hz1,hi,Sem.run_bind]
 ·obtain ⟨_,h1,h2,h3⟩:=hv.at_
  have hs:=sub_length (l:=l) (i:=i) (k:=l.length) (by omega)
  have h4:=h3.sub i l.length c (by omega) (by omega) (by omega)
  have e:(l.drop i).take (l.length - i)=l.drop i:=List.take_of_length_le (by rw [List.length_drop];omega)
  rw [e] at h4 hs
  exact ⟨_,_,by rw [hs,hl],by omega,by omega,h4⟩
theorem new_cell (w:World) (C:Array Value) (T:TypeId) (i:Nat) (v:Value) (h:C[i]?=some v):(w.alloc (.cells C T)).cell? ⟨w.heap.size,i,none⟩=some v:=by
 rw [cell_of_row _ _ _ _ _ (0,0) (heap_alloc_new w _)]
 exact h
theorem new_cell_drew (w:World) (C:Array Value) (T:TypeId) (i:Nat) (v:Value) (h:C[i]?=some v):(w.alloc (.cells C T)).drew.cell? ⟨w.heap.size,i,none⟩=some v:=new_cell w C T i v h
end Go.Proofs.YtpdnnmabijmfbaaGreatDoor
namespace Go.Proofs.YtpdnnmabijmfbaaGreatDoor
set_option maxRecDepth 20000
open Go.RowKit
def hcells (h:List UInt8):Array Value:=(bcells h).toArray
def nought:List UInt8:=List.replicate 32 0
theorem nought_length:nought.length=32:=by simp [nought]
theorem hcells_size (h:List UInt8):(hcells h).size=h.length:=by simp [hcells,bcells]
theorem hcells_list (h:List UInt8):(hcells h).toList=bcells h:=by simp [hcells]
theorem hcells_one (h:List UInt8):(hcells h).all (·.oneCell')=true:=all_oneCell_toArray (bcells_one h)
theorem zero_hash:(Tryz.prog.info? 38).bind (·.zero)=some (.agg (hcells nought)):=by kernel_rfl
theorem size_hash:(Tryz.prog.info? 38).map (·.size)=some 32:=by kernel_rfl
theorem under_hash:Tryz.prog.underlying 38=some (.array 32 5):=by kernel_rfl
theorem run_zero_hash (w:World):(zeroValue 38).run Tryz.prog w=.ok (.agg (hcells nought)) w:=by
 have h:=zero_hash
 cases hq:Tryz.prog.info? 38 with
 | none=>rw [hq] at h;cases h
 | some i=>
  rw [hq] at h
  have hz:i.zero=some (.agg (hcells nought)):=h
  simp [zeroValue,typeInfo,hq,hz]
theorem wpList_alloc_hash {ops:Array Oper} {rest:List Oper} {o:Oper} {a:Act} {w:World} {Q:Exit→Act→World→Prop} (hgd:o.guard=none) (ho:o.op=.alloc 38)
  (h:wpList Tryz.prog ops Q rest (a.put o.dst (.pointer (some ⟨w.heap.size,0,none⟩))) (w.alloc (.cells (hcells nought) 38))):wpList Tryz.prog ops Q (o :: rest) a w:=
 wpList_plain hgd fun _ hK=>by
  unfold Oper.wp execOp
  simp only [ho,Sem.run_bind,Instr.alloc,run_zero_hash,newVar,newRow,run_newObj_alloc,Sem.run_pure,Result.andThen_ok,Value.cells]
  exact hK _ _ h
theorem wpList_load_hash {ops:Array Oper} {rest:List Oper} {o:Oper} {a:Act} {w:World} {Q:Exit→Act→World→Prop} (hgd:o.guard=none) (x:Operand) (ho:o.op=.load 38 x)
  {g:Nat} {t:TypeId} {h:List UInt8} (hx:a.eval x=.pointer (some ⟨g,0,none⟩)) (hg:w.heap[g]?=some (.cells (hcells h) t (0,0))) (hl:h.length=32)
  (hh:wpList Tryz.prog ops Q rest (a.put o.dst (.agg (hcells h))) w):wpList Tryz.prog ops Q (o :: rest) a w:=
 wpList_load_row hgd _ x ho g hx t (hcells h) (0,0) _ hg under_hash rfl (by rw [size_hash,hcells_size,hl]) hh
theorem wpList_store_hash {ops:Array Oper} {rest:List Oper} {o:Oper} {a:Act} {w:World} {Q:Exit→Act→World→Prop} (hgd:o.guard=none) (x y:Operand) (ho:o.op=.store 38 x y)
  {g:Nat} {t:TypeId} {h h':List UInt8} (hx:a.eval x=.pointer (some ⟨g,0,none⟩)) (hy:a.eval y=.agg (hcells h')) (hg:w.heap[g]?=some (.cells (hcells h) t (0,0))) (hl:h.length=32) (hl':h'.length=32)
  (hh:∀ w',w.grownBy w' (some g)→Hid (w'.heap[g]?=some (.cells (hcells h') t (0,0)))→w'.heap.size=w.heap.size→wpList Tryz.prog ops Q rest (a.put o.dst undef) w'):wpList Tryz.prog ops Q (o :: rest) a w:=
 wpList_store_row hgd _ x y ho g (hcells h') hx hy t (hcells h) hg (by rw [size_hash,hcells_size,hl']) (by rw [hcells_size,hcells_size,hl,hl']) (hcells_one _)
  (hh _ ⟨rfl,rfl,rfl,by simp,fun k _ hk=>setRow_other w g k _ (fun e=>hk (by simp [e]))⟩ (setRow_heap w g _ _ t _ hg) (by simp))
theorem wpList_copy_byt {ops:Array Oper} {rest:List Oper} {o:Oper} {a:Act} {w:World} {Q:Exit→Act→World→Prop} (hgd:o.guard=none) (d s:Operand)
  (ho:o.op=.call { callee:=.builtin .copy,args:=#[d,s],argTypes:=#[33,33] })
  {dp:Option Addr} {dLen dCap:Nat} {v:Value} {m:List UInt8} (hd:a.eval d=.slice dp dLen dCap) (hs:a.eval s=v) (hv:Byt w v m)
  {g off:Nat} {cur:List UInt8} {t:TypeId} (hg:w.heap[g]?=some (.cells (hcells cur) t (0,0))) {k:Nat} (hk:k=Nat.min m.length dLen)
  (hdp:0 < k→dp=some ⟨g,off,none⟩) (hfit:off + k≤cur.length)
  (h:∀ w',w.grownBy w' (some g)→Hid (w'.heap[g]?=some (.cells (hcells (splice cur off (m.take k))) t (0,0)))→w'.heap.size=w.heap.size→wpList Tryz.prog ops Q rest (a.put o.dst (goInt k)) w'):
  wpList Tryz.prog ops Q (o :: rest) a w:=by
 obtain ⟨A,c,rfl,h1,h2,hr⟩:=hv
 have hsz:(Tryz.prog.info? 5).map (·.size)=some 1:=by kernel_rfl
 have hkm:k≤m.length:=by rw [hk];exact Nat.min_le_left _ _
 by_cases h0:k=0
 ·subst h0
  refine wpList_copy_nothing hgd d s _ _ ho 5 under_bytes hsz dp A dLen dCap m.length c hd hs (by omega) ?_
  refine h w (World.grownBy.refl _ _) ?_ rfl
  have e:splice cur off (m.take 0)=cur:=by simp [splice]
  rw [e]
  exact hid hg
 ·obtain rfl:=hdp (by omega)
  obtain ⟨b,off2,rfl,hb,hc⟩:=hr (by omega)
  have hlen:(bcells (m.take k)).length=k:=by simp [bcells];omega
  have hrow:(hcells cur).toList.take off ++ (bcells (m.take k) ++ (hcells cur).toList.drop (off + (bcells (m.take k)).length))=bcells (splice cur off (m.take k)):=by
   rw [hlen,hcells_list]
   have:(m.take k).length=k:=by simp;omega
   simp [splice,bcells,List.map_take,List.map_drop,this]
  refine wpList_copy_own hgd d s _ _ ho 5 under_bytes hsz g off dLen dCap ⟨b,off2,none⟩ m.length c hd hs (hcells cur) t hg (bcells (m.take k)) (by rw [hlen,hk]) ?_ (by rw [hlen,hcells_size];exact hfit) (bcells_one _) ?_
  ·intro j u hu
   obtain ⟨hj,rfl⟩:=bcells_get _ j u hu
   rw [addr_add]
   have hjm:j < m.length:=by simp at hj;omega
   rw [hc j hjm,List.getElem_take]
  ·rw [hrow,hlen]
   exact h _ ⟨rfl,rfl,rfl,by simp,fun q _ hq=>setRow_other w g q _ (fun e=>hq (by simp [e]))⟩ (setRow_heap w g _ _ t _ hg) (by simp)
theorem hcells_get (h:List UInt8) (i:Nat) (hi:i < h.length):(hcells h)[i]?=some (bcell h[i]):=by simp [hcells,bcells,hi]
theorem eqItems_bytes (d:Nat) (a b:List UInt8) (w:World):∀ is:List Nat,(∀ i ∈ is,i < a.length∧i < b.length)→
  (Op.eqItems (d + 1) 5 (Tryz.prog.cellsOf 5) (hcells a) (hcells b) is).run Tryz.prog w=.ok (is.all fun i=>decide (a[i]?=b[i]?)) w:=by
 have hc:Tryz.prog.cellsOf 5=1:=by kernel_rfl
 have hp:Tryz.prog.plainKey 5=true:=by kernel_rfl
 have hu:Tryz.prog.underlying 5=some (.int .u8):=by kernel_rfl
 rw [hc]
 intro is
 induction is with
 | nil=>intro _;simp [Op.eqItems]
 | cons i is ih=>
  intro h
  obtain ⟨hi,hj⟩:=h i (by simp)
  have ih':=ih (fun j hj=>h j (List.mem_cons_of_mem _ hj))
  have pa:=run_part_plain (P:=Tryz.prog) w hp (hcells_get a i hi)
  have pb:=run_part_plain (P:=Tryz.prog) w hp (hcells_get b i hj)
  have pe:=run_equalIn_int (P:=Tryz.prog) w d 5 .u8 .u8 (a[i].toNat:Int) (b[i].toNat:Int) hu
  unfold bcell at pa pb
  simp only [Op.eqItems,Sem.run_bind,Nat.mul_one,pa,pb,pe,Result.andThen_ok]
  by_cases e:a[i]=b[i]
  ·simp [ih',hi,hj,e]
  ·have e1:((a[i].toNat:Int) == (b[i].toNat:Int))=false:=by
    rw [beq_eq_false_iff_ne]
    intro h
    exact e (UInt8.toNat_inj.1 (by omega))
   simp [e1,hi,hj,e]
theorem eq_hash (a b:List UInt8) (ha:a.length=32) (hb:b.length=32) (w:World):(Op.equalIn 10000 38 (.agg (hcells a)) (.agg (hcells b))).run Tryz.prog w=.ok (decide (a=b)) w:=by
 obtain ⟨i0,hi,_⟩:=info_parts info_u8
 rw [run_equalIn_array w 9999 (hcells a) (hcells b) under_hash hi,eqItems_bytes 9998 a b w _ (fun i h=>by have:=List.mem_range.1 h;omega)]
 congr 1
 rw [Bool.eq_iff_iff]
 simp only [List.all_eq_true,List.mem_range,decide_eq_true_eq]
 constructor
 ·intro h
  apply List.ext_getElem?
  intro i
  by_cases h32:i < 32
  ·exact h i h32
  ·rw [List.getElem?_eq_none (by omega),List.getElem?_eq_none (by omega)]
 ·rintro rfl i _
  rfl
theorem own_full {B n:Nat} {w:World} {A:Option Addr} {l:List UInt8} (h:Own B w (.slice A n n) l) (hn:0 < n):∃ g,A=some ⟨g,0,none⟩∧B≤g∧w.heap[g]?=some (.cells (hcells l) 5 (0,0)):=by
 rcases h.2 with ⟨e,_⟩ | ⟨g,cap,cur,e,hg,hh,hnc,_,hs,ht⟩
 ·injection e with _ e;omega
 ·injection e with e1 e2 e3
  refine ⟨g,e1,hg,?_⟩
  rw [hh]
  have hl:cur.toList=bcells l:=by
   rw [← ht,List.take_of_length_le]
   rw [Array.length_toList,hs]
   omega
  have:cur=hcells l:=by
   apply Array.ext'
   rw [hl,hcells_list]
  rw [this]
theorem own_of_blk {B g n:Nat} {w:World} {l:List UInt8} (hg:w.heap[g]?=some (.cells (hcells l) 5 (0,0))) (hB:B≤g) (hn:n=l.length) (hm:n≤maxLen):Own B w (.slice (some ⟨g,0,none⟩) n n) l:=by
 subst hn
 refine ⟨by simp [bcells],.inr ⟨g,l.length,hcells l,rfl,hB,hg,Nat.le_refl _,hm,by rw [hcells_size,Nat.mul_one],?_⟩⟩
 rw [hcells_list,Nat.mul_one,List.take_of_length_le (by simp [bcells])]
theorem byt_of_blk {g n:Nat} {w:World} {l:List UInt8} {t:TypeId} (hg:w.heap[g]?=some (.cells (hcells l) t (0,0))) (hn:n=l.length) (hm:n≤maxLen):Byt w (.slice (some ⟨g,0,none⟩) n n) l:=by
 subst hn
 refine ⟨_,_,rfl,Nat.le_refl _,hm,fun _=>⟨g,0,rfl,lt_of_block hg,fun j hj=>?_⟩⟩
 rw [Nat.zero_add,cell_of_row w g j _ t (0,0) hg,hcells_get l j hj]
theorem splice_head (Z l:List UInt8):splice Z 0 l=l ++ Z.drop l.length:=by simp [splice]
theorem splice_two (Z l m:List UInt8) (h:Z.length=l.length + m.length):splice (splice Z 0 l) l.length m=l ++ m:=by
 have e:(Z.drop l.length).drop m.length=[]:=by rw [List.drop_drop];exact List.drop_eq_nil_of_le (by omega)
 rw [splice_head Z l]
 simp only [splice,List.take_left',List.drop_append]
 rw [List.drop_eq_nil_of_le (by omega),List.nil_append,show l.length + m.length - l.length=m.length from by omega,e,List.append_nil]
theorem run_copy_byt {w:World} {dp:Option Addr} {dLen dCap:Nat} {v:Value} {m:List UInt8} (ty:TypeId) (hv:Byt w v m)
  {g off:Nat} {cur:List UInt8} {t:TypeId} (hg:w.heap[g]?=some (.cells (hcells cur) t (0,0))) {k:Nat} (hk:k=Nat.min m.length dLen) (h0:0 < k)
  (hdp:dp=some ⟨g,off,none⟩) (hfit:off + k≤cur.length):
  ∃ w',(Builtin.copy_ #[33,33] ty #[.slice dp dLen dCap,v]).run Tryz.prog w=.ok (.int .i64 (k:Int)) w'∧w.grownBy w' (some g)∧w'.heap[g]?=some (.cells (hcells (splice cur off (m.take k))) t (0,0))∧w'.heap.size=w.heap.size:=by
 obtain ⟨A,c,rfl,h1,h2,hr⟩:=hv
 have hsz:(Tryz.prog.info? 5).map (·.size)=some 1:=by kernel_rfl
 have hkm:k≤m.length:=by rw [hk];exact Nat.min_le_left _ _
 subst hdp
 obtain ⟨b,off2,rfl,hb,hc⟩:=hr (by omega)
 have hlen:(bcells (m.take k)).length=k:=by simp [bcells];omega
 have hrow:(hcells cur).toList.take off ++ bcells (m.take k) ++ (hcells cur).toList.drop (off + (bcells (m.take k)).length)=bcells (splice cur off (m.take k)):=by
  rw [hlen,hcells_list]
  have:(m.take k).length=k:=by simp;omega
  simp [splice,bcells,List.map_take,List.map_drop,this]
 have hrun:=run_copy_row (P:=Tryz.prog) w 33 33 ty 5 g off dLen dCap ⟨b,off2,none⟩ m.length c (hcells cur) t (bcells (m.take k)) under_bytes hsz hg (by rw [hlen,hk]) (fun j u hu=>by
  obtain ⟨hj,rfl⟩:=bcells_get _ j u hu
  rw [addr_add]
  have hjm:j < m.length:=by simp at hj;omega
  rw [hc j hjm,List.getElem_take]) (by rw [hlen,hcells_size];exact hfit) (bcells_one _)
 rw [hrow,hlen] at hrun
 exact ⟨_,hrun,⟨rfl,rfl,rfl,by simp,fun q _ hq=>setRow_other w g q _ (fun e=>hq (by simp [e]))⟩,setRow_heap w g _ _ t _ hg,by simp⟩
end Go.Proofs.YtpdnnmabijmfbaaGreatDoor
namespace Go.Proofs.YtpdnnmabijmfbaaGreatDoor
set_option maxRecDepth 20000
open Go.RowKit
theorem refnum_to (k:Nat):∀ (n:Int) (w:World),0≤n→n < 18446744073709551616→n.toNat≤k→
  Calls Tryz.prog 139 #[.int .u64 n] w fun e w'=>∃ v,e=.returned v∧Own w.heap.size w' v (dg n.toNat)∧Below w.heap.size w w':=by
 induction k with
 | zero=>
  intro n w h0 h1 hk
  obtain rfl:n=0:=by omega
  go_enter Tryz.func139,Tryz.ntmps139
  go_wp2_with fail
  go_ret
  rw [show (0:Int).toNat=0 from rfl,dg_small (by omega)]
  exact ⟨_,rfl,own_of_blk (heap_alloc_new w _) (Nat.le_refl _) rfl (by unfold maxLen;omega),(Below.refl _ _).alloc (Nat.le_refl _) _⟩
 | succ k ih=>
  intro n w h0 h1 hk
  by_cases hlt:n < 128
  ·have hq:n=((UInt8.ofNat n.toNat).toNat:Int):=by rw [UInt8.toNat_ofNat'];omega
   have HQ:=hid hq
   clear hq
   go_enter Tryz.func139,Tryz.ntmps139
   go_wp2_with fail
   go_ret
   rw [dg_small (by omega)]
   have hb:(w.alloc (.cells #[.int .u8 n] 5)).heap[w.heap.size]?=some (.cells (hcells [UInt8.ofNat n.toNat]) 5 (0,0)):=by
    rw [heap_alloc_new]
    simp only [hcells,bcells,bcell,List.map_cons,List.map_nil]
    rw [← HQ.out]
   exact ⟨_,rfl,own_of_blk hb (Nat.le_refl _) rfl (by unfold maxLen;omega),(Below.refl _ _).alloc (Nat.le_refl _) _⟩
  ·have hq:128 + n % 128=((UInt8.ofNat (128 + n.toNat % 128)).toNat:Int):=by rw [UInt8.toNat_ofNat'];omega
   have hL:=dg_len10 (n:=n.toNat) (by omega)
   have hbig:dg n.toNat=UInt8.ofNat (128 + n.toNat % 128) :: dg (n / 128).toNat:=by
    rw [dg_big (by omega)]
    congr 2
    omega
   have HQ:=hid hq
   have HB:=hid hbig
   have hL2:(dg (n / 128).toNat).length≤10:=dg_len10 (by omega)
   clear hq hbig hL
   have IH:=hid ih
   clear ih
   go_enter Tryz.func139,Tryz.ntmps139
   go_wp2_with fail
   refine (IH.out (n / 128) _ (by omega) (by omega) (by omega)).mono ?_
   rintro e w1 ⟨v1,rfl,hown1,hb1⟩
   have hb:(w.alloc (.cells #[.int .u8 (128 + n % 128)] 5)).heap[w.heap.size]?=some (.cells (hcells [UInt8.ofNat (128 + n.toNat % 128)]) 5 (0,0)):=by
    rw [heap_alloc_new]
    simp only [hcells,bcells,bcell,List.map_cons,List.map_nil]
    rw [← HQ.out]
   have hown0:Own w.heap.size w1 (.slice (some ⟨w.heap.size,0,none⟩) 1 1) [UInt8.ofNat (128 + n.toNat % 128)]:=(own_of_blk (n:=1) hb (Nat.le_refl _) rfl (by unfold maxLen;omega)).below hb1
   have hb2:Below w.heap.size w w1:=((Below.refl _ _).alloc (Nat.le_refl _) _).trans (hb1.mono (by simp))
   have hbs:=hb2.size
   clear hb
   go_wp2_with (at_builtin;refine wpList_append_byt rfl (.tmp 12) (.tmp 15) rfl rfl rfl hown0 hown1.byt (by rw [List.length_singleton];omega) hbs ?_;intro v2 w2 hown2 hg2 _)
   go_ret
   rw [HB.out]
   exact ⟨_,rfl,hown2,hb2.grown hg2 hbs (fun q hq=>(World.ownsRow.lt hown0 q hq).1)⟩
theorem refnum_any (n:Int) (w:World) (h0:0≤n) (h1:n < 18446744073709551616):
  Calls Tryz.prog 139 #[.int .u64 n] w fun e w'=>∃ v,e=.returned v∧Own w.heap.size w' v (dg n.toNat)∧Below w.heap.size w w':=refnum_to n.toNat n w h0 h1 (Nat.le_refl _)
theorem reftext_any (v:Value) (t:List UInt8) (w:World) (hv:Byt w v t) (ht:t.length≤1099511627776):
  Calls Tryz.prog 216 #[v] w fun e w'=>∃ x,e=.returned x∧Own w.heap.size w' x (tx t)∧Below w.heap.size w w':=by
 obtain ⟨A,c,rfl⟩:=hv.shape
 have hL:=dg_len10 (n:=t.length) (by omega)
 go_enter Tryz.func216,Tryz.ntmps216
 go_wp2_with fail
 refine (refnum_any (t.length:Int) w (by omega) (by omega)).mono ?_
 rintro e w1 ⟨v1,rfl,hown1,hb1⟩
 rw [Int.toNat_natCast] at hown1
 have hbs:=hb1.size
 have hv1:=hv.below hb1
 go_wp2_with (at_builtin;refine wpList_append_byt rfl (.tmp 6) (.tmp 7) rfl rfl rfl hown1 hv1 (by omega) hbs ?_;intro v2 w2 hown2 hg2 _)
 go_ret
 exact ⟨_,rfl,hown2,hb1.grown hg2 hbs (fun k hk=>(World.ownsRow.lt hown1 k hk).1)⟩
end Go.Proofs.YtpdnnmabijmfbaaGreatDoor
namespace Go.Proofs.YtpdnnmabijmfbaaGreatDoor
set_option maxRecDepth 20000
open Go.RowKit
set_option maxHeartbeats 1600000 in
theorem same_any (u v:Value) (l m:List UInt8) (w:World) (hu:Byt w u l) (hv:Byt w v m):
  Calls Tryz.prog 49 #[u,v] w fun e w'=>e=.returned (.bool (decide (l=m)))∧∃ n,w'=w.drewN n:=by
 obtain ⟨A,c,rfl⟩:=hu.shape
 obtain ⟨B,d,rfl⟩:=hv.shape
 obtain ⟨_,hc1,hc2,hr⟩:=hu.at_
 obtain ⟨_,hd1,hd2,hs⟩:=hv.at_
 unfold maxLen at hc2 hd2
 obtain ⟨L,HL⟩:∃ L:Nat,Hid (l.length=L):=⟨_,rfl⟩
 obtain ⟨M,HM⟩:∃ M:Nat,Hid (m.length=M):=⟨_,rfl⟩
 rw [HL.out] at hc1 ⊢
 rw [HM.out] at hd1 ⊢
 by_cases hne:L=M
 ·subst hne
  have hb0:((L:Int) != (L:Int))=false:=by simp
  by_cases h0:L=0
  ·subst h0
   have e:decide (l=m)=true:=by
    have h1:l=[]:=List.eq_nil_of_length_eq_zero HL.out
    have h2:m=[]:=List.eq_nil_of_length_eq_zero HM.out
    simp [h1,h2]
   rw [e]
   clear e
   go_enter Tryz.func49,Tryz.ntmps49
   go_wp2
   refine wp_loop_rounds 1 ?_
   rw [rounds_succ]
   go_wp2
   go_ret
   exact ⟨rfl,0,rfl⟩
  ·obtain ⟨b,off,rfl,hb,hcl⟩:=hr (by have:=HL.out;omega)
   obtain ⟨b2,off2,rfl,hb2,hcm⟩:=hs (by have:=HM.out;omega)
   obtain ⟨ans,HA⟩:∃ ans:Bool,Hid (decide (l=m)=ans):=⟨_,rfl⟩
   rw [HA.out]
   go_enter Tryz.func49,Tryz.ntmps49
   go_wp2
   go_loopw [5] (fun si wr=>∃ i:Nat,i≤L∧si=.int .i64 i∧Hid (∀ j (h:j < l.length) (h2:j < m.length),j < i→l[j]=m[j])∧∃ n,wr=w.drewN n) (fun si _=>L - (intOf si).toNat)
   case atStart=>exact ⟨0,Nat.zero_le _,rfl,hid (fun j _ _ h=>absurd h (by omega)),0,rfl⟩
   case round=>
    obtain ⟨i,hi,rfl,HB,n,rfl⟩:=hrel
    by_cases hlt:i < L
    ·have hil:i < l.length:=by rw [HL.out];exact hlt
     have him:i < m.length:=by rw [HM.out];exact hlt
     have c1:w.cell? ⟨b,off + i,none⟩=some (bcell l[i]):=hcl i hil
     have c2:w.cell? ⟨b2,off2 + i,none⟩=some (bcell m[i]):=hcm i him
     obtain ⟨x,hx0,hx1,HX⟩:∃ x:Int,0≤x∧x≤255∧Hid ((l[i].toNat:Int)=x):=⟨_,(byte_lt l[i]).1,(byte_lt l[i]).2,rfl⟩
     obtain ⟨y,hy0,hy1,HY⟩:∃ y:Int,0≤y∧y≤255∧Hid ((m[i].toNat:Int)=y):=⟨_,(byte_lt m[i]).1,(byte_lt m[i]).2,rfl⟩
     unfold bcell at c1 c2
     rw [HX.out] at c1
     rw [HY.out] at c2
     have hI:(i:Int) < (L:Int):=by omega
     clear hcl hcm
     by_cases hxy:x=y
     ·subst hxy
      have hb1:(x != x)=false:=by simp
      go_wp2_with fail
      go_quiet (fail)
      go_wp2
      go_roundw
      case rel=>
       refine ⟨i + 1,by omega,by go_num,hid (fun j h h2 hj=>?_),_,rfl⟩
       by_cases hji:j < i
       ·exact HB.out j h h2 hji
       ·obtain rfl:j=i:=by omega
        exact UInt8.toNat_inj.1 (by have:=HX.out;have:=HY.out;omega)
      case measure=>simp [intOf];omega
     ·have hb1:(x != y)=true:=by simpa using hxy
      go_wp2_with fail
      go_quiet (fail)
      go_wp2
      go_ret
      have e:ans=false:=by
       rw [← HA.out]
       refine decide_eq_false fun e=>hxy ?_
       subst e
       rw [← HX.out,← HY.out]
      subst e
      exact ⟨rfl,_,World.drewN_drewN _ _ _⟩
    ·obtain rfl:i=L:=by omega
     go_wp2
     go_ret
     have e:ans=true:=by
      rw [← HA.out]
      refine decide_eq_true (List.ext_getElem (by rw [HL.out,HM.out]) fun j h h2=>HB.out j h h2 (by have:=HL.out;omega))
     subst e
     exact ⟨rfl,n,rfl⟩
 ·have hb0:((L:Int) != (M:Int))=true:=by simp;omega
  have e:decide (l=m)=false:=decide_eq_false fun e=>hne (by rw [← HL.out,← HM.out,e])
  rw [e]
  clear e
  go_enter Tryz.func49,Tryz.ntmps49
  go_wp2
  go_ret
  exact ⟨rfl,0,rfl⟩
theorem same_yes (u v:Value) (l:List UInt8) (w:World) (hu:Byt w u l) (hv:Byt w v l):
  Calls Tryz.prog 49 #[u,v] w fun e w'=>e=.returned (.bool true)∧∃ n,w'=w.drewN n:=by
 have h:=same_any u v l l w hu hv
 rw [decide_eq_true rfl] at h
 exact h
end Go.Proofs.YtpdnnmabijmfbaaGreatDoor
namespace Go.Proofs.YtpdnnmabijmfbaaGreatDoor
set_option maxRecDepth 20000
open Go.RowKit
theorem Byt.mid {w:World} {A:Option Addr} {l:List UInt8} {c q n:Nat} (h:Byt w (.slice A l.length c) l) (hq:q + n≤l.length):
  Byt w (.slice (if c=q then A else A.map (·.add q)) n (c - q)) ((l.drop q).take n):=by
 obtain ⟨_,h1,h2,h3⟩:=h.at_
 have hlen:((l.drop q).take n).length=n:=by rw [List.length_take,List.length_drop];omega
 refine ⟨_,c - q,by rw [hlen],by rw [hlen];omega,by omega,fun hl=>?_⟩
 rw [hlen] at hl
 obtain ⟨b,off,rfl,hb,hc⟩:=h3 (by omega)
 rw [if_neg (by omega)]
 refine ⟨b,off + q,by rw [Option.map_some,addr_add],hb,fun j hj=>?_⟩
 rw [hlen] at hj
 rw [Nat.add_assoc,hc (q + j) (by omega),List.getElem_take,List.getElem_drop]
end Go.Proofs.YtpdnnmabijmfbaaGreatDoor
namespace Go.Proofs.YtpdnnmabijmfbaaGreatDoor
set_option maxRecDepth 20000
open Go.RowKit
theorem u64_range (x:Int):0≤IntKind.u64.wrap x∧IntKind.u64.wrap x < 18446744073709551616:=by
 simp [IntKind.wrap,IntKind.signed,IntKind.bits]
 omega
def rv (A:Option Addr) (n c:Nat) (p:Nat) (wrong:Bool):Value:=.agg #[.slice A n c,.int .i64 (p:Int),.bool wrong]
def RefNum (w:World) (A:Option Addr) (c:Nat) (l:List UInt8) (res:Nat × Nat × Bool) (e:Ending) (w':World):Prop:=
 e=.returned (.tuple #[rv A l.length c res.2.1 (!res.2.2),.int .u64 (res.1:Int)])∧Below w.heap.size w w'
set_option maxHeartbeats 3200000 in
theorem refReadNum_bad (A:Option Addr) (c p:Nat) (l:List UInt8) (w:World):
  Calls Tryz.prog 91 #[.agg #[.slice A l.length c,.int .i64 (p:Int),.bool true]] w (RefNum w A c l (0,p,false)):=by
 go_enter Tryz.func91,Tryz.ntmps91
 go_wp2_with fail
 refine bodyPost_ret (v:=.tuple #[.agg #[.slice A l.length c,.int .i64 (p:Int),.bool true],.int .u64 0]) (by simp [results,Tryz.results91,go_sem]) rfl ⟨rfl,?_⟩
 go_grown
def p128 (i:Nat):Nat:=128 ^ i
theorem p128_le {i:Nat} (h:i≤8):p128 i≤72057594037927936:=by
 have e8:(128:Nat) ^ 8=72057594037927936:=by decide
 unfold p128
 rw [← e8]
 exact Nat.pow_le_pow_right (by omega) h
theorem p128_step {i:Nat} (h:i≤8):IntKind.u64.wrap ((p128 i:Int) * 128)=(p128 (i + 1):Int):=by
 have h1:=p128_le h
 have e:p128 (i + 1)=p128 i * 128:=by simp [p128,Nat.pow_succ]
 rw [wrap_u64 _ (by omega) (by omega),e]
 omega
theorem sum_step (n i:Nat) (x:Int) (hn:n < 18446744073709551616) (hx:x % 128=((n / 128 ^ i % 128:Nat):Int)):
  IntKind.u64.wrap ((low n i:Int) + IntKind.u64.wrap (x % 128 * (p128 i:Int)))=(low n (i + 1):Int):=by
 have hle:low n i + n / 128 ^ i % 128 * 128 ^ i≤n:=by
  rw [← low_succ]
  exact Nat.mod_le _ _
 rw [hx,low_succ]
 unfold p128
 generalize n / 128 ^ i % 128=d at *
 have e:(d:Int) * ((128 ^ i:Nat):Int)=((d * 128 ^ i:Nat):Int):=by rw [Int.natCast_mul]
 rw [e,wrap_u64 ((d * 128 ^ i:Nat):Int) (by omega) (by omega),wrap_u64 _ (by omega) (by omega)]
 omega
set_option maxHeartbeats 3200000 in
theorem refReadNum_yes (A:Option Addr) (c p n:Nat) (l:List UInt8) (w:World) (hv:Byt w (.slice A l.length c) l) (hp:p≤l.length) (hl:l.length≤1099511627776) (hf:frst (l.drop p)=some n):
  Calls Tryz.prog 91 #[.agg #[.slice A l.length c,.int .i64 (p:Int),.bool false]] w (RefNum w A c l (n,p + (dg n).length,true)):=by
 obtain ⟨hn,hpre⟩:=frst_some hf
 have hk:=dg_len10 hn
 have hkp:=dg_pos n
 have hkl:=hpre.length_le
 rw [List.length_drop] at hkl
 obtain ⟨_,hlc,hcm,hr⟩:=hv.at_
 unfold maxLen at hcm
 obtain ⟨b,off,rfl,hb,hcell⟩:=hr (by omega)
 obtain ⟨k,HK⟩:∃ k:Nat,Hid ((dg n).length=k):=⟨_,hid rfl⟩
 rw [HK.out] at hk hkp hkl ⊢
 have hget:∀ i (h:i < k),(i + 1 < k→(l[p + i]'(by omega)).toNat=128 + n / 128 ^ i % 128)∧(i + 1=k→(l[p + i]'(by omega)).toNat=n / 128 ^ i∧n / 128 ^ i < 128):=by
  intro i h
  have hik:i < (dg n).length:=by rw [HK.out];exact h
  have e:l[p + i]'(by omega)=(dg n)[i]:=by
   rw [hpre.getElem hik,List.getElem_drop]
  have:=dg_get n i hik
  rw [HK.out] at this
  rw [e]
  exact ⟨this.1,fun h=>⟨(this.2 h).1,(this.2 h).2.1⟩⟩
 have HG:=hid hget
 have HC:=hid hcell
 have HP:=hid hpre
 have HF:=hid hf
 have HV:=hid hv
 clear hget hcell hpre hf hr hv
 go_enter Tryz.func91,Tryz.ntmps91
 go_wp2_with fail
 go_loop [4,5,6] (fun sa su si=>∃ i:Nat,i < k∧si=.int .i64 i∧sa=.int .u64 (low n i:Int)∧su=.int .u64 (p128 i:Int)) (fun _ _ si=>10 - (intOf si).toNat)
 case atStart=>exact ⟨0,by omega,rfl,by rw [low_zero];rfl,rfl⟩
 case round=>
  obtain ⟨i,hi,rfl,rfl,rfl⟩:=hrel
  have hil:p + i < l.length:=by omega
  have hcl:=HC.out (p + i) hil
  have hx:=HG.out i hi
  obtain ⟨x,hx0,hx1,HX⟩:∃ x:Int,0≤x∧x≤255∧Hid ((l[p + i].toNat:Int)=x):=⟨_,(byte_lt l[p + i]).1,(byte_lt l[p + i]).2,hid rfl⟩
  unfold bcell at hcl
  rw [HX.out] at hcl
  have hi10:(i:Int) < 10:=by omega
  have hpi:(p:Int) + (i:Int) < (l.length:Int):=by omega
  by_cases hlast:i + 1 < k
  ·have hx2:=hx.1 hlast
   have hx3:128≤x:=by rw [← HX.out];omega
   have HS:=hid (sum_step n i x hn (by rw [← HX.out];omega))
   have HU:=hid (p128_step (i:=i) (by omega))
   clear hx hx2
   go_wp2_with fail
   go_round
   case rel=>exact ⟨i + 1,hlast,by go_num,by rw [HS.out],by rw [HU.out]⟩
   case measure=>simp [intOf];omega
  ·obtain ⟨hx2,hx5⟩:=hx.2 (by omega)
   have hx3:x < 128:=by rw [← HX.out];omega
   have hik:i + 1=k:=by omega
   have hlow:low n k=n:=by
    refine low_all n k ?_
    rw [← hik,Nat.pow_succ,Nat.mul_comm]
    have:=Nat.pow_pos (n:=i) (show 0 < 128 by omega)
    exact (Nat.div_lt_iff_lt_mul this).1 hx5
   have hsum:=sum_step n i x hn (by rw [← HX.out];omega)
   rw [hik,hlow] at hsum
   have HS:=hid hsum
   have HIK:=hid hik
   have W1:IntKind.i64.wrap ((p:Int) + (i:Int))=(p:Int) + (i:Int):=IntWalk.i64_in _ (by omega)
   have W2:IntKind.i64.wrap ((p:Int) + (i:Int) + 1)=(p:Int) + (i:Int) + 1:=IntWalk.i64_in _ (by omega)
   have T1:((p:Int) + (i:Int) + 1).toNat=p + i + 1:=by omega
   have s1:0≤(p:Int) + (i:Int) + 1:=by omega
   have s2:(p:Int) + (i:Int) + 1≤(c:Int):=by omega
   have s3:(p:Int)≤(p:Int) + (i:Int) + 1:=by omega
   have hcp:¬ c=p:=by omega
   have hR:=u64_range ((low n i:Int) + IntKind.u64.wrap (x % 128 * (p128 i:Int)))
   have hcut:dg n=(l.drop p).take k:=by
    have:=List.prefix_iff_eq_take.1 HP.out
    rw [HK.out] at this
    exact this
   have HD:=hid hcut
   have HBY:Hid (∀ w':World,Below w.heap.size w w'→Byt w' (.slice (some ⟨b,off + p,none⟩) (p + i + 1 - p) (c - p)) ((l.drop p).take k)):=hid (fun w' hb'=>by
    have:=(HV.out.below hb').mid (q:=p) (n:=k) (by omega)
    rw [if_neg hcp,Option.map_some,addr_add] at this
    rw [show p + i + 1 - p=k from by omega]
    exact this)
   clear hx hx2 hx5 hlow hsum hik hcut
   go_wp2_with fail
   obtain ⟨N,HN⟩:∃ N:Int,Hid (IntKind.u64.wrap ((low n i:Int) + IntKind.u64.wrap (x % 128 * (p128 i:Int)))=N):=⟨_,hid rfl⟩
   rw [HN.out] at hR ⊢
   have hNn:Hid (N=(n:Int)):=hid (HN.out.symm.trans HS.out)
   have hbw:Below w.heap.size w ((w.alloc (.cells #[.slice (some ⟨b,off,none⟩) l.length c,.int .i64 (p:Int),.bool false] 129)).alloc (.cells #[.slice none 0 0,.int .i64 0,.bool false] 129)):=((Below.refl _ _).alloc (Nat.le_refl _) _).alloc (by simp) _
   have hX0:=heap_alloc2_old w (.cells #[.slice (some ⟨b,off,none⟩) l.length c,.int .i64 (p:Int),.bool false] 129) (.cells #[.slice none 0 0,.int .i64 0,.bool false] 129)
   have hX1:=heap_alloc2_new w (.cells #[.slice (some ⟨b,off,none⟩) l.length c,.int .i64 (p:Int),.bool false] 129) (.cells #[.slice none 0 0,.int .i64 0,.bool false] 129)
   generalize ((w.alloc (.cells #[.slice (some ⟨b,off,none⟩) l.length c,.int .i64 (p:Int),.bool false] 129)).alloc (.cells #[.slice none 0 0,.int .i64 0,.bool false] 129))=w0 at *
   have k0:=cell_blk hX0 0
   have k1:=cell_blk hX0 1
   simp at k0 k1
   have hlt0:=lt_of_block hX0
   have H0:=hid hX0
   have H1:=hid hX1
   clear hX0 hX1
   have hd0:Below w0.heap.size w0 w0.drew:=(Below.refl _ _).drew
   go_region_held3 (fun w'=>w'.cell? ⟨w.heap.size,0,none⟩=some (.slice (some ⟨b,off,none⟩) l.length c)∧w'.cell? ⟨w.heap.size,1,none⟩=some (.int .i64 (p:Int)))
    (first
     | (refine ⟨k0,k1⟩)
     | (refine ⟨(hB4.cell (p:=⟨w.heap.size,0,none⟩) hlt0).trans k0,(hB4.cell (p:=⟨w.heap.size,1,none⟩) hlt0).trans k1⟩)
     | (refine ⟨(hB3.cell (p:=⟨w.heap.size,0,none⟩) hlt0).trans k0,(hB3.cell (p:=⟨w.heap.size,1,none⟩) hlt0).trans k1⟩)
     | fail)
    (first
     | (go_at_call 139;refine (refnum_any N _ hR.1 hR.2).mono ?_;rintro e w3 ⟨v3,rfl,hown3,hb3⟩;rw [hNn.out,Int.toNat_natCast,HD.out] at hown3;have hB3:Below w0.heap.size w0 w3:=hd0.trans hb3)
     | (go_at_call 49;refine (same_yes _ _ _ _ hown3.byt (HBY.out _ (hbw.trans (hB3.mono hbw.size)))).mono ?_;rintro e w' ⟨rfl,n5,rfl⟩;have hB4:Below w0.heap.size w0 (w3.drewN n5):=below_drewN hB3 n5)
     | fail)
   have G0:=(hB4.block _ hlt0).trans H0.out
   have hlt1:=lt_of_block H1.out
   have G1:=(hB4.block _ hlt1).trans H1.out
   have hbw4:Below w.heap.size w (w3.drewN n5):=hbw.trans (hB4.mono hbw.size)
   generalize w3.drewN n5=w5 at *
   have j0:=cell_blk G0 0
   have j1:=cell_blk G0 1
   have j2:=cell_blk G0 2
   have f1:=free_blk G0 1
   have i0:=cell_blk G1 0
   have i1:=cell_blk G1 1
   have i2:=cell_blk G1 2
   have g0:=free_blk G1 0
   have g1:=free_blk G1 1
   have g2:=free_blk G1 2
   simp at j0 j1 j2 i0 i1 i2
   clear k0 k1 hB3 hB4 hown3 hb3 G0 G1
   go_wp2_with fail
   refine bodyPost_ret (v:=.tuple #[.agg #[.slice (some ⟨b,off,none⟩) l.length c,.int .i64 ((p:Int) + (i:Int) + 1),.bool false],.int .u64 N]) (by simp [results,Tryz.results91,go_sem,i0,i1,i2]) rfl ⟨?_,?_⟩
   ·rw [hNn.out,← HIK.out]
    unfold rv
    simp only [Bool.not_true,Int.natCast_add,Int.natCast_one,Int.add_assoc]
   ·go_grown
theorem same_no (u v:Value) (l m:List UInt8) (w:World) (hu:Byt w u l) (hv:Byt w v m) (hne:l≠m):
  Calls Tryz.prog 49 #[u,v] w fun e w'=>e=.returned (.bool false)∧∃ n,w'=w.drewN n:=by
 have h:=same_any u v l m w hu hv
 rw [decide_eq_false hne] at h
 exact h
set_option maxHeartbeats 3200000 in
theorem refReadNum_no (A:Option Addr) (c p:Nat) (l:List UInt8) (w:World) (hv:Byt w (.slice A l.length c) l) (hp:p≤l.length) (hl:l.length≤1099511627776) (hf:frst (l.drop p)=none):
  Calls Tryz.prog 91 #[.agg #[.slice A l.length c,.int .i64 (p:Int),.bool false]] w (RefNum w A c l (0,p,false)):=by
 have hno:=frst_none hf
 obtain ⟨_,hlc,hcm,hr⟩:=hv.at_
 unfold maxLen at hcm
 have HR:=hid hr
 have HN0:=hid hno
 have HV:=hid hv
 have hbw:Below w.heap.size w ((w.alloc (.cells #[.slice A l.length c,.int .i64 (p:Int),.bool false] 129)).alloc (.cells #[.slice none 0 0,.int .i64 0,.bool false] 129)):=((Below.refl _ _).alloc (Nat.le_refl _) _).alloc (by simp) _
 have hX0:=heap_alloc2_old w (.cells #[.slice A l.length c,.int .i64 (p:Int),.bool false] 129) (.cells #[.slice none 0 0,.int .i64 0,.bool false] 129)
 have hX1:=heap_alloc2_new w (.cells #[.slice A l.length c,.int .i64 (p:Int),.bool false] 129) (.cells #[.slice none 0 0,.int .i64 0,.bool false] 129)
 have Hbw:=hid hbw
 have HX0:=hid hX0
 have HX1:=hid hX1
 clear hno hf hr hv hbw hX0 hX1
 go_enter Tryz.func91,Tryz.ntmps91
 go_wp2_with fail
 go_loop [4,5,6] (fun sa su si=>∃ (i:Nat) (a u:Int),i≤10∧p + i≤l.length∧si=.int .i64 i∧sa=.int .u64 a∧su=.int .u64 u) (fun _ _ si=>10 - (intOf si).toNat)
 case atStart=>exact ⟨0,0,1,by omega,by omega,rfl,rfl,rfl⟩
 case round=>
  obtain ⟨i,a,u,hi,hpi,rfl,rfl,rfl⟩:=hrel
  by_cases hin:i < 10∧p + i < l.length
  ·obtain ⟨hi10',hil⟩:=hin
   obtain ⟨b,off,rfl,hb,hcell⟩:=HR.out (by omega)
   have hcl:=hcell (p + i) hil
   obtain ⟨x,hx0,hx1,HX⟩:∃ x:Int,0≤x∧x≤255∧Hid ((l[p + i].toNat:Int)=x):=⟨_,(byte_lt l[p + i]).1,(byte_lt l[p + i]).2,hid rfl⟩
   unfold bcell at hcl
   rw [HX.out] at hcl
   have hi10:(i:Int) < 10:=by omega
   have hpi2:(p:Int) + (i:Int) < (l.length:Int):=by omega
   clear hcell
   by_cases hbig:128≤x
   ·go_wp2_with fail
    go_round
    case rel=>exact ⟨i + 1,_,_,by omega,by omega,by go_num,rfl,rfl⟩
    case measure=>simp [intOf];omega
   ·have hx3:x < 128:=by omega
    have W1:IntKind.i64.wrap ((p:Int) + (i:Int))=(p:Int) + (i:Int):=IntWalk.i64_in _ (by omega)
    have W2:IntKind.i64.wrap ((p:Int) + (i:Int) + 1)=(p:Int) + (i:Int) + 1:=IntWalk.i64_in _ (by omega)
    have T1:((p:Int) + (i:Int) + 1).toNat=p + i + 1:=by omega
    have s1:0≤(p:Int) + (i:Int) + 1:=by omega
    have s2:(p:Int) + (i:Int) + 1≤(c:Int):=by omega
    have s3:(p:Int)≤(p:Int) + (i:Int) + 1:=by omega
    have hcp:¬ c=p:=by omega
    have hR:=u64_range (a + IntKind.u64.wrap (x % 128 * u))
    have HBY:Hid (∀ w':World,Below w.heap.size w w'→Byt w' (.slice (some ⟨b,off + p,none⟩) (p + i + 1 - p) (c - p)) ((l.drop p).take (i + 1))):=hid (fun w' hb'=>by
     have:=(HV.out.below hb').mid (q:=p) (n:=i + 1) (by omega)
     rw [if_neg hcp,Option.map_some,addr_add] at this
     rw [show p + i + 1 - p=i + 1 from by omega]
     exact this)
    go_wp2_with fail
    obtain ⟨N,HN⟩:∃ N:Int,Hid (IntKind.u64.wrap (a + IntKind.u64.wrap (x % 128 * u))=N):=⟨_,hid rfl⟩
    rw [HN.out] at hR ⊢
    have HNE:Hid (dg N.toNat≠(l.drop p).take (i + 1)):=hid (fun e=>HN0.out N.toNat (by omega) (by rw [e];exact List.take_prefix _ _))
    have hbw:=Hbw.out
    have hX0:=HX0.out
    have hX1:=HX1.out
    generalize ((w.alloc (.cells #[.slice (some ⟨b,off,none⟩) l.length c,.int .i64 (p:Int),.bool false] 129)).alloc (.cells #[.slice none 0 0,.int .i64 0,.bool false] 129))=w0 at *
    have k0:=cell_blk hX0 0
    have k1:=cell_blk hX0 1
    simp at k0 k1
    have hlt0:=lt_of_block hX0
    have H0:=hid hX0
    have H1:=hid hX1
    clear hX0 hX1 HX0 HX1 Hbw
    have hd0:Below w0.heap.size w0 w0.drew:=(Below.refl _ _).drew
    go_region_held3 (fun w'=>w'.cell? ⟨w.heap.size,0,none⟩=some (.slice (some ⟨b,off,none⟩) l.length c)∧w'.cell? ⟨w.heap.size,1,none⟩=some (.int .i64 (p:Int)))
     (first
      | (refine ⟨k0,k1⟩)
      | (refine ⟨(hB4.cell (p:=⟨w.heap.size,0,none⟩) hlt0).trans k0,(hB4.cell (p:=⟨w.heap.size,1,none⟩) hlt0).trans k1⟩)
      | (refine ⟨(hB3.cell (p:=⟨w.heap.size,0,none⟩) hlt0).trans k0,(hB3.cell (p:=⟨w.heap.size,1,none⟩) hlt0).trans k1⟩)
      | fail)
     (first
      | (go_at_call 139;refine (refnum_any N _ hR.1 hR.2).mono ?_;rintro e w3 ⟨v3,rfl,hown3,hb3⟩;have hB3:Below w0.heap.size w0 w3:=hd0.trans hb3)
      | (go_at_call 49;refine (same_no _ _ _ _ _ hown3.byt (HBY.out _ (hbw.trans (hB3.mono hbw.size))) HNE.out).mono ?_;rintro e w' ⟨rfl,n5,rfl⟩;have hB4:Below w0.heap.size w0 (w3.drewN n5):=below_drewN hB3 n5)
      | fail)
    have G0:=(hB4.block _ hlt0).trans H0.out
    have hlt1:=lt_of_block H1.out
    have G1:=(hB4.block _ hlt1).trans H1.out
    have hbw4:Below w.heap.size w (w3.drewN n5):=hbw.trans (hB4.mono hbw.size)
    generalize w3.drewN n5=w5 at *
    have j0:=cell_blk G0 0
    have j1:=cell_blk G0 1
    have j2:=cell_blk G0 2
    have f2:=free_blk G0 2
    have i0:=cell_blk G1 0
    have i1:=cell_blk G1 1
    have i2:=cell_blk G1 2
    have g0:=free_blk G1 0
    have g1:=free_blk G1 1
    have g2:=free_blk G1 2
    simp at j0 j1 j2 i0 i1 i2
    clear k0 k1 hB3 hB4 hown3 hb3 G0 G1
    go_wp2_with fail
    refine bodyPost_ret (v:=.tuple #[.agg #[.slice (some ⟨b,off,none⟩) l.length c,.int .i64 (p:Int),.bool true],.int .u64 0]) (by simp [results,Tryz.results91,go_sem,i0,i1,i2]) rfl ⟨rfl,?_⟩
    go_grown
  ·have hbw:=Hbw.out
   by_cases hi10:i < 10
   ·have hpe:¬ (p:Int) + (i:Int) < (l.length:Int):=by omega
    go_wp2_with fail
    refine bodyPost_ret (v:=.tuple #[.agg #[.slice A l.length c,.int .i64 (p:Int),.bool true],.int .u64 0]) (by simp [results,Tryz.results91,go_sem]) rfl ⟨rfl,?_⟩
    go_grown
   ·obtain rfl:i=10:=by omega
    go_wp2_with fail
    refine bodyPost_ret (v:=.tuple #[.agg #[.slice A l.length c,.int .i64 (p:Int),.bool true],.int .u64 0]) (by simp [results,Tryz.results91,go_sem]) rfl ⟨rfl,?_⟩
    go_grown
theorem refReadNum_any (A:Option Addr) (c p:Nat) (r:Bool) (l:List UInt8) (w:World) (hv:Byt w (.slice A l.length c) l) (hp:p≤l.length) (hl:l.length≤1099511627776):
  Calls Tryz.prog 91 #[.agg #[.slice A l.length c,.int .i64 (p:Int),.bool (!r)]] w (RefNum w A c l (rdNum 18446744073709551615 l p r)):=by
 cases r with
 | false=>rw [rdNum_bad];exact refReadNum_bad A c p l w
 | true=>
  cases hf:frst (l.drop p) with
  | none=>rw [rdNum_no hf];exact refReadNum_no A c p l w hv hp hl hf
  | some n=>rw [rdNum_yes hf (by have:=(frst_some hf).1;omega)];exact refReadNum_yes A c p n l w hv hp hl hf
end Go.Proofs.YtpdnnmabijmfbaaGreatDoor
namespace Go.Proofs.YtpdnnmabijmfbaaGreatDoor
set_option maxRecDepth 20000
open Go.RowKit
def RefUpto (w:World) (A:Option Addr) (c:Nat) (l:List UInt8) (res:Nat × Nat × Bool) (e:Ending) (w':World):Prop:=
 e=.returned (.tuple #[rv A l.length c res.2.1 (!res.2.2),.int .i64 (res.1:Int)])∧Below w.heap.size w w'
set_option maxHeartbeats 3200000 in
theorem refUpto_bad (A:Option Addr) (c p:Nat) (r:Bool) (l:List UInt8) (most:Int) (w:World) (hv:Byt w (.slice A l.length c) l) (hp:p≤l.length) (hl:l.length≤1099511627776)
  (n p':Nat) (r':Bool) (hrd:rdNum 18446744073709551615 l p r=(n,p',r')) (hm0:-9223372036854775808≤most) (hm1:most≤9223372036854775807)
  (hbad:r'=false∨(r'=true∧most < 0)∨(r'=true∧0≤most∧most < (n:Int))) (_hn:n < 18446744073709551616):
  Calls Tryz.prog 52 #[.agg #[.slice A l.length c,.int .i64 (p:Int),.bool (!r)],.int .i64 most] w (RefUpto w A c l (0,p,false)):=by
 have HRD:=hid hrd
 have hbw:Below w.heap.size w ((w.alloc (.cells #[.slice A l.length c,.int .i64 (p:Int),.bool (!r)] 129)).alloc (.cells #[.slice none 0 0,.int .i64 0,.bool false] 129)):=((Below.refl _ _).alloc (Nat.le_refl _) _).alloc (by simp) _
 have hX0:=heap_alloc2_old w (.cells #[.slice A l.length c,.int .i64 (p:Int),.bool (!r)] 129) (.cells #[.slice none 0 0,.int .i64 0,.bool false] 129)
 have hX1:=heap_alloc2_new w (.cells #[.slice A l.length c,.int .i64 (p:Int),.bool (!r)] 129) (.cells #[.slice none 0 0,.int .i64 0,.bool false] 129)
 have hv0:=hv.below hbw
 have hlt:w.heap.size + 1 < ((w.alloc (.cells #[.slice A l.length c,.int .i64 (p:Int),.bool (!r)] 129)).alloc (.cells #[.slice none 0 0,.int .i64 0,.bool false] 129)).heap.size:=by simp
 have Hbw:=hid hbw
 have HX0:=hid hX0
 have HX1:=hid hX1
 clear hrd hX0 hX1 hbw
 go_enter Tryz.func52,Tryz.ntmps52
 go_wp2_with fail
 generalize ((w.alloc (.cells #[.slice A l.length c,.int .i64 (p:Int),.bool (!r)] 129)).alloc (.cells #[.slice none 0 0,.int .i64 0,.bool false] 129))=w0 at *
 have C:=refReadNum_any A c p r l w0 hv0 hp hl
 rw [HRD.out] at C
 refine C.mono ?_
 clear C
 rintro e w1 ⟨rfl,hb1⟩
 unfold rv
 have G0:=(hb1.block _ (by omega)).trans HX0.out
 have G1:=(hb1.block _ (by omega)).trans HX1.out
 have hbw1:Below w.heap.size w w1:=Hbw.out.trans (hb1.mono (by omega))
 have hs1:=hb1.size
 have j0:=cell_blk G0 0
 have j1:=cell_blk G0 1
 have j2:=cell_blk G0 2
 have f2:=free_blk G0 2
 have i0:=cell_blk G1 0
 have i1:=cell_blk G1 1
 have i2:=cell_blk G1 2
 have g0:=free_blk G1 0
 have g1:=free_blk G1 1
 have g2:=free_blk G1 2
 simp at j0 j1 j2 i0 i1 i2
 have hl0:w.heap.size < w1.heap.size:=by omega
 have hl1:w.heap.size + 1 < w1.heap.size:=by omega
 clear G0 G1 hb1 hv0 HX0 HX1 Hbw hv
 rcases hbad with hb | ⟨rfl,hneg⟩ | ⟨rfl,hpos,hbig⟩
 ·subst hb
  go_wp2_with fail
  refine bodyPost_ret (v:=.tuple #[.agg #[.slice A l.length c,.int .i64 (p:Int),.bool true],.int .i64 0]) (by simp [results,Tryz.results52,go_sem,i0,i1,i2,hl1]) rfl ⟨rfl,?_⟩
  go_grown
 ·go_wp2_with fail
  refine bodyPost_ret (v:=.tuple #[.agg #[.slice A l.length c,.int .i64 (p:Int),.bool true],.int .i64 0]) (by simp [results,Tryz.results52,go_sem,i0,i1,i2,hl1]) rfl ⟨rfl,?_⟩
  go_grown
 ·have hnn:¬ most < 0:=by omega
  go_wp2_with fail
  refine bodyPost_ret (v:=.tuple #[.agg #[.slice A l.length c,.int .i64 (p:Int),.bool true],.int .i64 0]) (by simp [results,Tryz.results52,go_sem,i0,i1,i2,hl1]) rfl ⟨rfl,?_⟩
  go_grown
set_option maxHeartbeats 3200000 in
theorem refUpto_yes (A:Option Addr) (c p:Nat) (r:Bool) (l:List UInt8) (most:Int) (w:World) (hv:Byt w (.slice A l.length c) l) (hp:p≤l.length) (hl:l.length≤1099511627776)
  (n p':Nat) (hrd:rdNum 18446744073709551615 l p r=(n,p',true)) (hm1:most≤9223372036854775807) (hle:(n:Int)≤most):
  Calls Tryz.prog 52 #[.agg #[.slice A l.length c,.int .i64 (p:Int),.bool (!r)],.int .i64 most] w (RefUpto w A c l (n,p',true)):=by
 have HRD:=hid hrd
 have hbw:Below w.heap.size w ((w.alloc (.cells #[.slice A l.length c,.int .i64 (p:Int),.bool (!r)] 129)).alloc (.cells #[.slice none 0 0,.int .i64 0,.bool false] 129)):=((Below.refl _ _).alloc (Nat.le_refl _) _).alloc (by simp) _
 have hX1:=heap_alloc2_new w (.cells #[.slice A l.length c,.int .i64 (p:Int),.bool (!r)] 129) (.cells #[.slice none 0 0,.int .i64 0,.bool false] 129)
 have hv0:=hv.below hbw
 have hlt:w.heap.size + 1 < ((w.alloc (.cells #[.slice A l.length c,.int .i64 (p:Int),.bool (!r)] 129)).alloc (.cells #[.slice none 0 0,.int .i64 0,.bool false] 129)).heap.size:=by simp
 have Hbw:=hid hbw
 have HX1:=hid hX1
 have h0:0≤most:=by omega
 clear hrd hX1 hbw
 go_enter Tryz.func52,Tryz.ntmps52
 go_wp2_with fail
 generalize ((w.alloc (.cells #[.slice A l.length c,.int .i64 (p:Int),.bool (!r)] 129)).alloc (.cells #[.slice none 0 0,.int .i64 0,.bool false] 129))=w0 at *
 have C:=refReadNum_any A c p r l w0 hv0 hp hl
 rw [HRD.out] at C
 refine C.mono ?_
 clear C
 rintro e w1 ⟨rfl,hb1⟩
 unfold rv
 have G1:=(hb1.block _ (by omega)).trans HX1.out
 have hbw1:Below w.heap.size w w1:=Hbw.out.trans (hb1.mono (by omega))
 have hs1:=hb1.size
 have i0:=cell_blk G1 0
 have i1:=cell_blk G1 1
 have i2:=cell_blk G1 2
 have g0:=free_blk G1 0
 have g1:=free_blk G1 1
 have g2:=free_blk G1 2
 simp at i0 i1 i2
 have hl1:w.heap.size + 1 < w1.heap.size:=by omega
 have hnn:¬ most < 0:=by omega
 have hnb:¬ most < (n:Int):=by omega
 clear G1 hb1 hv0 HX1 Hbw hv
 go_wp2_with fail
 refine bodyPost_ret (v:=.tuple #[.agg #[.slice A l.length c,.int .i64 (p':Int),.bool false],.int .i64 (n:Int)]) (by simp [results,Tryz.results52,go_sem,i0,i1,i2,hl1]) rfl ⟨rfl,?_⟩
 go_grown
theorem refUpto_any (A:Option Addr) (c p:Nat) (r:Bool) (l:List UInt8) (most:Int) (w:World) (hv:Byt w (.slice A l.length c) l) (hp:p≤l.length) (hl:l.length≤1099511627776)
  (hm0:-9223372036854775808≤most) (hm1:most≤9223372036854775807):
  Calls Tryz.prog 52 #[.agg #[.slice A l.length c,.int .i64 (p:Int),.bool (!r)],.int .i64 most] w (RefUpto w A c l (rdUpto most l p r)):=by
 cases r with
 | false=>
  have e:rdUpto most l p false=(0,p,false):=by unfold rdUpto;split;rfl;exact rdNum_bad _ _ _
  rw [e]
  exact refUpto_bad A c p false l most w hv hp hl 0 p false (rdNum_bad _ _ _) hm0 hm1 (.inl rfl) (by omega)
 | true=>
  cases hf:frst (l.drop p) with
  | none=>
   have e:rdUpto most l p true=(0,p,false):=by unfold rdUpto;split;rfl;exact rdNum_no hf
   rw [e]
   exact refUpto_bad A c p true l most w hv hp hl 0 p false (rdNum_no hf) hm0 hm1 (.inl rfl) (by omega)
  | some n=>
   have hn:=(frst_some hf).1
   have hrd:rdNum 18446744073709551615 l p true=(n,p + (dg n).length,true):=rdNum_yes hf (by omega)
   by_cases hneg:most < 0
   ·have e:rdUpto most l p true=(0,p,false):=by unfold rdUpto;rw [if_pos hneg]
    rw [e]
    exact refUpto_bad A c p true l most w hv hp hl n _ true hrd hm0 hm1 (.inr (.inl ⟨rfl,hneg⟩)) hn
   ·by_cases hle:n≤most.toNat
    ·have e:rdUpto most l p true=(n,p + (dg n).length,true):=by unfold rdUpto;rw [if_neg hneg,rdNum_yes hf hle]
     rw [e]
     exact refUpto_yes A c p true l most w hv hp hl n _ hrd hm1 (by omega)
    ·have e:rdUpto most l p true=(0,p,false):=by unfold rdUpto;rw [if_neg hneg,rdNum_big hf hle]
     rw [e]
     exact refUpto_bad A c p true l most w hv hp hl n _ true hrd hm0 hm1 (.inr (.inr ⟨rfl,by omega,by omega⟩)) hn
end Go.Proofs.YtpdnnmabijmfbaaGreatDoor
namespace Go.Proofs.YtpdnnmabijmfbaaGreatDoor
set_option maxRecDepth 20000
open Go.RowKit
theorem Own.set {B g:Nat} {w:World} {v:Value} {l:List UInt8} (h:Own B w v l) (hne:v.ownBlock≠some g) (i:Nat) (u:Value):Own B (w.setCell ⟨g,i,none⟩ u) v l:=ownsRow_setCell_other h hne u
end Go.Proofs.YtpdnnmabijmfbaaGreatDoor
namespace Go.Proofs.YtpdnnmabijmfbaaGreatDoor
set_option maxRecDepth 20000
open Go.RowKit
set_option maxHeartbeats 1600000 in
theorem hash_any (v:Value) (l h:List UInt8) (w:World) (hv:Byt w v l) (hs:l.length≤1099511000000) (hh:h.length=32):
  Calls Tryz.prog 132 #[v,.agg (hcells h)] w fun e w'=>∃ x,e=.returned x∧Own w.heap.size w' x (l ++ h)∧Below w.heap.size w w':=by
 obtain ⟨i0,hi,hz0,hz1,hz2⟩:=info_parts info_u8
 obtain ⟨A,c,rfl⟩:=hv.shape
 have hb2:i0.bytes * (l.length + 32)≤281474976710656:=by rw [hz2];omega
 have hb3:l.length + 32≤maxLen:=by unfold maxLen;omega
 go_enter Tryz.func132,Tryz.ntmps132
 go_wp2_with (at_make;refine wpList_make_full _ rfl _ _ 33 rfl w.heap.size 5 i0 (.int .u8 0) 1 under_bytes hi hz0 hz1 _ _ _ _ (l.length + 32) rfl rfl (by simp) (by simp) hb2 hb3 (by simp) ?_)
 intro w1 hown1 hg1
 have hz:(madeCells #[Value.int IntKind.u8 0] (l.length + 32)).toList=bcells (List.replicate (l.length + 32) 0):=by
  rw [toList_madeCells_one]
  simp [bcells,bcell]
 have hown:Own (w.heap.size + 1) w1 (.slice (some ⟨w.heap.size + 1,0,none⟩) (l.length + 32) (l.length + 32)) (List.replicate (l.length + 32) 0):=by
  unfold Own
  rw [List.length_replicate,← hz]
  refine ⟨hown1.1,?_⟩
  rcases hown1.2 with ⟨e,_⟩ | ⟨g,cap,cur,e,_,r⟩
  ·injection e with e;cases e
  ·refine .inr ⟨g,cap,cur,e,?_,r⟩
   injection e with e
   injection e with e
   injection e with e
   omega
 obtain ⟨g,eg,_,hG⟩:=own_full hown (by omega)
 injection eg with eg
 injection eg with eg
 subst eg
 have hH:w1.heap[w.heap.size]?=some (.cells (hcells h) 38 (0,0)):=(hg1.block _ (by simp) (by simp)).trans (heap_alloc_new w _)
 have hbw1:Below w.heap.size w w1:=((Below.refl _ _).alloc (Nat.le_refl _) _).grown hg1 (by simp) (fun k hk=>by cases hk)
 have hv1:=hv.below hbw1
 have hmin:=hid (show l.length=Nat.min l.length (l.length + 32) from (Nat.min_eq_left (by omega)).symm)
 clear hz hown hown1 hg1
 go_wp2_with (refine wpList_copy_byt rfl (.tmp 10) (.tmp 11) rfl rfl rfl hv1 hG hmin.out (fun _=>rfl) (by simp) ?_)
 intro w2 hg2 H2 hs2
 have hH2:w2.heap[w.heap.size]?=some (.cells (hcells h) 38 (0,0)):=(hg2.block _ (lt_of_block hH) (by simp)).trans hH
 have hbw2:Below w.heap.size w w2:=hbw1.grown hg2 hbw1.size (fun k hk=>by injection hk;omega)
 have hby:Byt w2 (.slice (some ⟨w.heap.size,0,none⟩) 32 32) h:=byt_of_blk hH2 hh.symm (by unfold maxLen;omega)
 have hmin2:=hid (show 32=Nat.min h.length 32 by rw [hh];rfl)
 have hne:¬ (l.length + 32=l.length):=by omega
 have q1:(l.length:Int)≤(l.length:Int) + 32:=by omega
 clear hmin hv1 hG hH hg2
 go_wp2_with fail
 go_still_tail 5,(by kernel_rfl)
 change wpList _ _ _ _ _ w2.drew
 have H3:Hid (w2.drew.heap[w.heap.size + 1]?=_):=H2
 have hby3:Byt w2.drew _ _:=hby
 have hbw3:Below w.heap.size w w2.drew:=hbw2.drew
 have hs3:w2.drew.heap.size=w1.heap.size:=hs2
 generalize w2.drew=w3 at *
 go_wp2_with (refine wpList_copy_byt rfl (.tmp 16) (.tmp 17) rfl rfl rfl hby3 H3.out hmin2.out (fun _=>rfl) (by simp [splice]) ?_)
 intro w4 hg4 H4 hs4
 have hbw4:Below w.heap.size w w4:=hbw3.grown hg4 hbw3.size (fun k hk=>by injection hk;omega)
 go_wp2_with fail
 go_ret
 have hrow:splice (splice (List.replicate (l.length + 32) 0) 0 l) l.length (h.take 32)=l ++ h:=by
  rw [List.take_of_length_le (by omega),splice_two _ l h (by simp;omega)]
 refine ⟨_,rfl,?_,hbw4⟩
 have H5:=H4.out
 first
  | rw [hrow] at H5
  | (rw [show splice (splice (List.replicate (l.length + 32) 0) 0 l) l.length h=l ++ h from by rw [splice_two _ l h (by simp;omega)]] at H5)
 exact own_of_blk H5 (by omega) (by simp;omega) (by unfold maxLen;omega)
set_option maxHeartbeats 3200000 in
theorem rhash_any (g:Nat) (l:List UInt8) (p:Nat) (r:Bool) (w:World) (hr:Rdr w g l p r) (hl:l.length≤1099511627776):
  Calls Tryz.prog 108 #[.pointer (some ⟨g,0,none⟩)] w fun e w'=>e=.returned (.agg (hcells (rdHash l p r).1))∧Rdr w' g l (rdHash l p r).2.1 (rdHash l p r).2.2∧w.grownBy w' (some g):=by
 have hlt:=hr.lt
 have hr0:Rdr ((w.alloc (.cells (hcells nought) 38)).alloc (.cells (hcells nought) 38)) g l p r:=hr.below (((Below.refl _ _).alloc (Nat.le_refl _) _).alloc (by simp) _)
 have hg0:w.grownBy ((w.alloc (.cells (hcells nought) 38)).alloc (.cells (hcells nought) 38)) (some g):=(World.grownBy_alloc w _ _).trans (World.grownBy_alloc _ _ _)
 cases r with
 | false=>
  have e:rdHash l p false=(nought,p,false):=by simp [rdHash,nought]
  rw [e]
  go_enter Tryz.func108,Tryz.ntmps108
  go_wp2_with (refine wpList_alloc_hash rfl rfl ?_)
  refine (wrong_any g l p false _ hr0).mono ?_
  rintro e w' ⟨rfl,rfl⟩
  go_wp2_with (first
   | (refine wpList_load_hash rfl _ rfl rfl (heap_alloc2_new _ _ _) nought_length ?_)
   | (refine wpList_store_hash rfl _ _ rfl rfl rfl (heap_alloc2_old _ _ _) nought_length nought_length ?_;intro w2 hg2 H2 hs2))
  refine bodyPost_ret (results_cell_row rfl _ _ w.heap.size _ (hcells nought) (0,0) _ rfl H2.out under_hash rfl (by rw [size_hash,hcells_size,nought_length])) rfl ⟨rfl,?_,?_⟩
  ·exact hr.below ((((Below.refl _ _).alloc (Nat.le_refl _) _).alloc (by simp) _).grown hg2 (by simp;omega) (fun k hk=>by injection hk;omega))
  ·exact grown_of_below ((((Below.refl _ _).alloc (Nat.le_refl _) _).alloc (by simp) _).grown hg2 (by simp;omega) (fun k hk=>by injection hk;omega)) _
 | true=>
  by_cases hfit:p + 32≤l.length
  ·have e:rdHash l p true=((l.drop p).take 32,p + 32,true):=by simp [rdHash,hfit]
   rw [e]
   obtain ⟨A,c,h1,h2⟩:=hr0.ex
   have c0:=cell_blk h2 0
   have c1:=cell_blk h2 1
   simp at c0 c1
   have hlc:=(Own.byt h1).at_.2.1
   have hcp:¬ c=p:=by omega
   have ht:¬ ((l.length:Int) - (p:Int) < 32):=by omega
   have q1:(p:Int)≤(l.length:Int):=by omega
   have hHn:=heap_alloc2_new w (.cells (hcells nought) 38) (.cells (hcells nought) 38)
   have hRn:=heap_alloc2_old w (.cells (hcells nought) 38) (.cells (hcells nought) 38)
   have hbw:Below w.heap.size w ((w.alloc (.cells (hcells nought) 38)).alloc (.cells (hcells nought) 38)):=((Below.refl _ _).alloc (Nat.le_refl _) _).alloc (by simp) _
   go_enter Tryz.func108,Tryz.ntmps108
   go_wp2_with (refine wpList_alloc_hash rfl rfl ?_)
   generalize ((w.alloc (.cells (hcells nought) 38)).alloc (.cells (hcells nought) 38))=w0 at *
   refine (wrong_any g l p true _ hr0).mono ?_
   rintro e w' ⟨rfl,rfl⟩
   go_wp2_with fail
   refine (left_any g l p true _ hr0 hl).mono ?_
   rintro e w' ⟨rfl,n,rfl⟩
   go_wp2_with fail
   have hcut:Byt (w0.drewN (n + 1)) (.slice (A.map (·.add p)) (l.length - p) (c - p)) (l.drop p):=by
    have:=(Own.byt h1).cut hr0.le
    rw [if_neg hcp] at this
    exact this.drewN _
   have hdl:(l.drop p).length=l.length - p:=List.length_drop
   obtain ⟨w6,hrun,hG6,hH6,hs6⟩:=run_copy_byt (w:=(w0.drewN (n + 1))) (dp:=some ⟨w.heap.size + 1,0,none⟩) (dLen:=32) (dCap:=32) 3 hcut (cur:=nought) hHn (k:=32) (by rw [hdl];exact (Nat.min_eq_right (by omega)).symm) (by omega) rfl (by rw [nought_length];omega)
   have hR5:Rdr (w0.drewN (n + 1)) g l p true:=hr0.drewN (n + 1)
   have hR6:Rdr w6 g l p true:=hR5.apart hG6 hHn (by decide) (by omega)
   obtain ⟨A6,c6,_,h26⟩:=hR6.ex
   have d1:=cell_blk h26 1
   have e1:=free_blk h26 1
   simp at d1
   have HdR:=hid hRn
   have HdH:=hid hH6
   have HL:=hid hdl
   clear hRn hH6 hdl h1 h2 hcut hHn h26 hs6
   have hgr:w0.grownBy w6 (some (w.heap.size + 1)):=(grown_drewN (World.grownBy.refl _ _) (n + 1)).trans hG6
   have hlen0:=hr0.lt
   have hR7:=hR6.turn (p + 32) hfit
   rw [Int.natCast_add] at hR7
   have hlen32:((l.drop p).take 32).length=32:=by rw [List.length_take,List.length_drop];omega
   have hs6:nought.drop ((l.drop p).take 32).length=[]:=List.drop_eq_nil_of_le (by rw [hlen32,nought_length];omega)
   have hs7:splice nought 0 ((l.drop p).take 32)=(l.drop p).take 32:=by rw [splice_head,hs6,List.append_nil]
   clear hs6
   have hw7:w6.heap[w.heap.size]?=some (.cells (hcells nought) 38 (0,0)):=(hgr.block _ (lt_of_block HdR.out) (by simp)).trans HdR.out
   have H7:Hid ((w6.setCell ⟨g,1,none⟩ (.int .i64 ((p:Int) + 32))).heap[w.heap.size]?=some (.cells (hcells nought) 38 (0,0))):=(heap_setCell_other _ _ _ _ (by simp;omega)).trans hw7
   have H8:Hid ((w6.setCell ⟨g,1,none⟩ (.int .i64 ((p:Int) + 32))).heap[w.heap.size + 1]?=some (.cells (hcells ((l.drop p).take 32)) 38 (0,0))):=(heap_setCell_other _ _ _ _ (by simp;omega)).trans (by rw [← hs7];exact HdH.out)
   have hG8:w.grownBy (w6.setCell ⟨g,1,none⟩ (.int .i64 ((p:Int) + 32))) (some g):=(grown_of_below (hbw.grown hgr hbw.size (fun k hk=>by injection hk;omega)) _).trans (grown_set _ g 1 _)
   have hs8:=hG8.size
   clear hs7 hw7 HdR HdH hR6 hG6 hgr hR5 hr0 hbw hg0 hr
   go_region
   generalize w6.setCell ⟨g,1,none⟩ (.int .i64 ((p:Int) + 32))=w8 at *
   go_wp2_with (first
    | (refine wpList_load_hash rfl _ rfl rfl H8.out hlen32 ?_)
    | (refine wpList_store_hash rfl _ _ rfl rfl rfl H7.out nought_length hlen32 ?_;intro w9 hg9 H9 hs9))
   refine bodyPost_ret (results_cell_row rfl _ _ w.heap.size _ _ (0,0) _ rfl H9.out under_hash rfl (by rw [size_hash,hcells_size,hlen32])) rfl ⟨rfl,?_,?_⟩
   ·exact hR7.apart hg9 H7.out (by decide) (by omega)
   ·exact ⟨hg9.os.trans hG8.os,hg9.tape.trans hG8.tape,hg9.output.trans hG8.output,Nat.le_trans hG8.size hg9.size,fun k hk hne=>(hg9.block k (by omega) (fun e=>by injection e;omega)).trans (hG8.block k hk hne)⟩
  ·have e:rdHash l p true=(nought,p,false):=by simp [rdHash,hfit,nought]
   rw [e]
   have hp:=hr.le
   have ht:(l.length:Int) - (p:Int) < 32:=by omega
   have hHn:=heap_alloc2_new w (.cells (hcells nought) 38) (.cells (hcells nought) 38)
   have hRn:=heap_alloc2_old w (.cells (hcells nought) 38) (.cells (hcells nought) 38)
   have hbw:Below w.heap.size w ((w.alloc (.cells (hcells nought) 38)).alloc (.cells (hcells nought) 38)):=((Below.refl _ _).alloc (Nat.le_refl _) _).alloc (by simp) _
   go_enter Tryz.func108,Tryz.ntmps108
   go_wp2_with (refine wpList_alloc_hash rfl rfl ?_)
   generalize ((w.alloc (.cells (hcells nought) 38)).alloc (.cells (hcells nought) 38))=w0 at *
   have HdR:=hid hRn
   have HdH:=hid hHn
   clear hRn hHn
   refine (wrong_any g l p true _ hr0).mono ?_
   rintro e w' ⟨rfl,rfl⟩
   go_wp2_with fail
   refine (left_any g l p true _ hr0 hl).mono ?_
   rintro e w' ⟨rfl,n,rfl⟩
   go_wp2_with fail
   refine (fail_any g l p true _ (hr0.drewN _)).mono ?_
   rintro e w' ⟨rfl,rfl⟩
   have hR7:=(hr0.drewN n).spoil
   have H7:Hid (((w0.drewN n).setCell ⟨g,2,none⟩ (.bool false)).heap[w.heap.size]?=some (.cells (hcells nought) 38 (0,0))):=(heap_setCell_other _ _ _ _ (by simp;omega)).trans HdR.out
   have H8:Hid (((w0.drewN n).setCell ⟨g,2,none⟩ (.bool false)).heap[w.heap.size + 1]?=some (.cells (hcells nought) 38 (0,0))):=(heap_setCell_other _ _ _ _ (by simp;omega)).trans HdH.out
   have hG8:w.grownBy ((w0.drewN n).setCell ⟨g,2,none⟩ (.bool false)) (some g):=(grown_of_below (below_drewN hbw n) _).trans (grown_set _ g 2 _)
   have hs8:=hG8.size
   clear hr0 hbw hg0 hr
   generalize (w0.drewN n).setCell ⟨g,2,none⟩ (.bool false)=w8 at *
   go_wp2_with (first
    | (refine wpList_load_hash rfl _ rfl rfl H8.out nought_length ?_)
    | (refine wpList_store_hash rfl _ _ rfl rfl rfl H7.out nought_length nought_length ?_;intro w9 hg9 H9 hs9))
   refine bodyPost_ret (results_cell_row rfl _ _ w.heap.size _ _ (0,0) _ rfl H9.out under_hash rfl (by rw [size_hash,hcells_size,nought_length])) rfl ⟨rfl,?_,?_⟩
   ·exact hR7.apart hg9 H7.out (by decide) (by omega)
   ·exact ⟨hg9.os.trans hG8.os,hg9.tape.trans hG8.tape,hg9.output.trans hG8.output,Nat.le_trans hG8.size hg9.size,fun k hk hne=>(hg9.block k (by omega) (fun e=>by injection e;omega)).trans (hG8.block k hk hne)⟩
end Go.Proofs.YtpdnnmabijmfbaaGreatDoor
