/-
  Quorum: what each of them says stands at its head.
-/
import Derived.Below
import Derived.Deep.AppendLies
import Derived.Deep.Draws
import Derived.Laws.AppendOwnNone
import Derived.Laws.OwnMore
import Derived.Maps.AppendAt
import Derived.OwnWalk
import Derived.Test.YtjlinimnnbfmaaaGreatDoorRows
import Derived.WalkKit
import Derived.WalkSpells
import Derived.Deep.RegionLaw
import Derived.RegionTactic
import Derived.Laws.Bits64
import Derived.Laws.BitsAllLaws
import Derived.LoopTactic
import Derived.Outline
import Derived.WalkLawsBesides
import Derived.BigQuiet
import Derived.Deep.QuietTactic
import Derived.LaidEqlPtr
import Derived.ChangeKeysEq
import Derived.Deep.MidRow
import Derived.Laws.CopyOwn
import Derived.Laws.Rows
import Derived.Laws.StructEq
import Derived.Laws.Tables
import Derived.Deep.RegionHeld3
import Derived.ChangeOld
import Derived.OpenShut
import Derived.ProofKit
import Derived.ShutString
import Derived.ChangeArms
import Derived.Deep.Slices
import Derived.Laws.IdiomStrings
import Derived.Deep.DeepCutAuto
import Derived.Lib.SlBytesConst
import Derived.Lib.AppendZerosOnto
import Derived.Laws.LoneSync
set_option maxRecDepth 20000
set_option maxHeartbeats 6400000
namespace Go.Proofs.YtjlinimnnbfmaaaGreatDoor
open Go.RowKit Go.Proofs.Tryz
section
def Hd(p:Prop):Prop:=p
theorem Hd.o{p:Prop}(h:Hd p):p:=h
theorem z0 {p:Prop} (h:p):Hd p:=h
theorem nm {α:Sort _} (x:α):∃y,Hd (x=y):=⟨_,z0 rfl⟩
theorem Ba {w:World}{o:Obj}:Below w.heap.size w (w.alloc o):=(Below.refl _ _).alloc (Nat.le_refl _) _
abbrev Lb:=@lt_of_block
abbrev Xh:=@heap_alloc_new
abbrev Bp:=@bodyPost_ret
abbrev Hs:=@Below.heap_setCell
def z3 (c:UInt8):Value:=.int .u8 (c.toNat:Int)
def z4 (l:List UInt8):List Value:=l.map z3
theorem z6 (l:List UInt8):(z4 l).length=l.length:=by simp[z4]
theorem jv (l m:List UInt8):z4 (l ++ m)=z4 l ++ z4 m:=by simp[z4]
theorem yb (l:List UInt8):∀u∈z4 l,u.oneCell'=true:=by
 intro u F;obtain⟨c,_,rfl⟩:=List.mem_map.1 F;rfl
theorem xG (l:List UInt8) (j:Nat) (u:Value) (h:(z4 l)[j]?=some u):∃F:j<l.length,u=z3 l[j]:=by
 have F:j<l.length:=by
  have:=(List.getElem?_eq_some_iff.1 h).1
  simpa [z4] using this
 refine⟨F,?_⟩;simp[z4,F]at h;exact h.symm
theorem yW (c:UInt8):(0:Int)<=(c.toNat:Int)/\(c.toNat:Int)<=255:=by
 have:=c.toNat_lt;omega
def RdB (w:World) (A:Option Addr) (l:List UInt8):Prop:=
 0<l.length->∃b F,A=some ⟨b,F,none⟩/\b<w.heap.size/\∀j (h:j<l.length),w.cell? ⟨b,F+j,none⟩=some (z3 l[j])
def zP (w:World) (v:Value) (l:List UInt8):Prop:=∃A c,v=.slice A l.length c/\l.length<=c/\c<=maxLen/\RdB w A l
def ql (B:Nat) (w:World) (v:Value) (l:List UInt8):Prop:=w.ownsRow B 5 1 v l.length (z4 l)
section
variable {w w':World}{A:Option Addr}{v:Value}{l:List UInt8}{B:Nat}
theorem RdB.nil (w:World) (A:Option Addr):RdB w A []:=fun h=>absurd h (by simp)
theorem RdB.keep (h:RdB w A l) (M:w.heap.size<=w'.heap.size) (G:∀b F,A=some ⟨b,F,none⟩->b<w.heap.size->w'.heap[b]?=w.heap[b]?):RdB w' A l:=fun hl=>by
 obtain⟨b,F,e,I,K⟩:=h hl;exact⟨b,F,e,by omega,fun j J=>(World.cell?_of_block (G b F e I)).trans (K j J)⟩
theorem RdB.below (h:RdB w A l) (F:Below w.heap.size w w'):RdB w' A l:=h.keep F.size fun b _ _ G=>F.block b G
theorem zP.keep (h:zP w v l) (I:w.heap.size<=w'.heap.size) (G:∀b,b<w.heap.size->v.ownBlock=some b->w'.heap[b]?=w.heap[b]?):zP w' v l:=by
 obtain⟨A,c,rfl,J,K,F⟩:=h;exact⟨A,c,rfl,J,K,F.keep I fun b N e M=>G b M (by subst e;rfl)⟩
theorem zP.below (h:zP w v l) (F:Below w.heap.size w w'):zP w' v l:=h.keep F.size fun b G _=>F.block b G
theorem zP.nil (w:World):zP w (.slice none 0 0) []:=⟨none,0,rfl,Nat.le_refl _,Nat.zero_le _,RdB.nil _ _⟩
theorem zP.len (h:zP w v l):l.length<=maxLen:=by
 obtain⟨_,_,_,G,F,_⟩:=h;omega
theorem ql.nil (B:Nat) (w:World):ql B w (.slice none 0 0) []:=World.ownsRow_nil _ _ _ _
theorem ql.byt (h:ql B w v l):zP w v l:=by
 rcases h.2 with ⟨rfl,J⟩|⟨g,xz,cur,rfl,_,F,K,I,N,M⟩
 ·have:l=[]:=List.eq_nil_of_length_eq_zero J;subst this;exact zP.nil w
 ·refine⟨_,xz,rfl,K,I,fun _=>⟨g,0,rfl,Lb F,fun j G=>?_⟩⟩;rw[Nat.zero_add,World.ownsRow.cellAt h j (by omega)];simp[z4,G]
theorem ql.more (h:ql B w v l) {F:Nat} (I:F<=B):ql F w v l:=by
 refine⟨h.1,?_⟩;rcases h.2 with G|⟨g,xz,cur,e,hg,r⟩
 ·exact .inl G
 ·exact .inr ⟨g,xz,cur,e,by omega,r⟩
theorem ql.keep (h:ql B w v l) (G:∀b,b<w.heap.size->v.ownBlock=some b->w'.heap[b]?=w.heap[b]?):ql B w' v l:=by
 refine⟨h.1,?_⟩;rcases h.2 with I|⟨g,xz,cur,rfl,hg,F,r⟩
 ·exact .inl I
 ·exact .inr ⟨g,xz,cur,rfl,hg,(G g (Lb F) rfl).trans F,r⟩
theorem ql.below (h:ql B w v l) (F:Below w.heap.size w w'):ql B w' v l:=h.keep fun b G _=>F.block b G
end
theorem zP.shape {w:World}{v:Value}{l:List UInt8} (h:zP w v l):∃A c,v=.slice A l.length c:=by
 obtain⟨A,c,e,_⟩:=h;exact⟨A,c,e⟩
theorem zP.at_ {w:World}{A:Option Addr}{n c:Nat}{l:List UInt8} (h:zP w (.slice A n c) l):n=l.length/\l.length<=c/\c<=maxLen/\RdB w A l:=by
 obtain⟨A',N,e,J,K,F⟩:=h;injection e with M G I;subst M G I;exact⟨rfl,J,K,F⟩
theorem zP.alloc {w:World}{v:Value}{l:List UInt8} (h:zP w v l) (o:Obj):zP (w.alloc o) v l:=h.below ((Below.refl _ _).alloc (Nat.le_refl _) o)
theorem zP.drewN {w:World}{v:Value}{l:List UInt8} (h:zP w v l) (n:Nat):zP (w.drewN n) v l:=h
theorem zA {B:Nat}{a w:World} (h:Below B a w) (n:Nat):Below B a (w.drewN n):=⟨h.os,h.tape,h.output,h.size,h.block⟩
end
def dg (n:Nat):List UInt8:=if n<128 then [UInt8.ofNat n] else UInt8.ofNat (128+n % 128) :: dg (n / 128)
termination_by n
decreasing_by omega
theorem yx {n:Nat} (h:n<128):dg n=[UInt8.ofNat n]:=by rw[dg,if_pos h]
theorem Y5 {n:Nat} (h:¬n<128):dg n=UInt8.ofNat (128+n % 128) :: dg (n / 128):=by rw[dg,if_neg h]
theorem z2u (k:Nat):∀n,n<128^(k+1)->(dg n).length<=k+1:=by
 induction k with
 |zero=>
  intro n h;rw[yx (by simpa using h)];simp
 |succ k ih=>
  intro n h;by_cases F:n<128
  ·rw[yx F];simp
  ·rw[Y5 F];have:=ih (n / 128) (by rw[Nat.pow_succ]at h;exact Nat.div_lt_of_lt_mul (by rw[Nat.mul_comm];exact h));simp;omega
theorem zk {n:Nat} (h:n<18446744073709551616):(dg n).length<=10:=z2u 9 n (by omega)
theorem Kj (n:Nat):0<(dg n).length:=by
 by_cases h:n<128
 ·rw[yx h];simp
 ·rw[Y5 h];simp
theorem z92 (n:Nat):∀j (h:j<(dg n).length),
  (j+1<(dg n).length->((dg n)[j]).toNat=128+n / 128^j % 128)/\(j+1=(dg n).length->((dg n)[j]).toNat=n / 128^j/\n / 128^j<128/\(0<j->0<n / 128^j)):=by
 induction n using Nat.strongRecOn with
 |_ n ih=>
  intro j h;by_cases F:n<128
  ·have hl:(dg n).length=1:=by rw[yx F];rfl
   obtain rfl:j=0:=by omega
   refine⟨fun G=>by omega,fun _=>?_⟩;have e:(dg n)[0]=UInt8.ofNat n:=by simp[yx F]
   rw[e,UInt8.toNat_ofNat'];simp;omega
  ·have hl:(dg n).length=(dg (n / 128)).length+1:=by rw[Y5 F];rfl
   have hp:=Kj (n / 128);rcases j with _|j
   ·refine⟨fun _=>?_,fun G=>by omega⟩;have e:(dg n)[0]=UInt8.ofNat (128+n % 128):=by simp[Y5 F]
    rw[e,UInt8.toNat_ofNat'];simp;omega
   ·have e:(dg n)[j+1]=(dg (n / 128))[j]'(by omega):=by simp[Y5 F]
    have:=ih (n / 128) (by omega) j (by omega);have hq:n / 128^(j+1)=n / 128 / 128^j:=by rw[Nat.pow_succ,Nat.mul_comm,Nat.div_div_eq_div_mul]
    rw[e,hq];refine⟨fun G=>this.1 (by omega),fun G=>?_⟩;obtain⟨a,b,c⟩:=this.2 (by omega);refine⟨a,b,fun _=>?_⟩;rcases Nat.eq_zero_or_pos j with I|I
    ·subst I;simp;omega
    ·exact c I
def low (n i:Nat):Nat:=n % 128^i
theorem z3H (n:Nat):low n 0=0:=by simp[low,Nat.mod_one]
theorem zcm (n i:Nat):low n i<128^i:=Nat.mod_lt _ (Nat.pow_pos (by omega))
theorem Vm (n i:Nat):low n (i+1)=low n i+(n / 128^i % 128)*128^i:=by
 unfold low;rw[Nat.pow_succ,Nat.mod_mul,Nat.mul_comm]
theorem z6V (n i:Nat) (h:n<128^i):low n i=n:=Nat.mod_eq_of_lt h
def val:List UInt8->Nat
 | []=>0
 |c :: l=>c.toNat % 128+128*val l
theorem zcn (l:List UInt8):val l<128^l.length:=by
 induction l with
 |nil=>simp[val]
 |cons c l ih=>
  simp only[val,List.length_cons,Nat.pow_succ];have:=Nat.mod_lt c.toNat (show 128 > 0 by omega);omega
theorem z93 (l:List UInt8) (c:UInt8):val (l ++ [c])=val l+c.toNat % 128*128^l.length:=by
 induction l with
 |nil=>simp[val]
 |cons x l ih=>
  simp only[List.cons_append,val,ih,List.length_cons,Nat.pow_succ];rw[Nat.mul_add,<-Nat.mul_assoc,Nat.mul_comm 128 (c.toNat % 128),Nat.mul_assoc,Nat.mul_comm 128 (128^l.length)];omega
theorem zco (l:List UInt8) (c:UInt8) (hl:l.length<=9) (J:c.toNat<128) (K:l.length=9->c.toNat<=1):val (l ++ [c])<18446744073709551616:=by
 rw[z93];have h:=zcn l;have G:(128:Nat)^9=9223372036854775808:=by decide
 by_cases F:l.length=9
 ·have:=K F;rw[F,G]at h;rw[F,G,Nat.mod_eq_of_lt J];omega
 ·have hp:(128:Nat)^l.length<=128^8:=Nat.pow_le_pow_right (by omega) (by omega);have I:(128:Nat)^8=72057594037927936:=by decide
  rw[I]at hp;have:c.toNat % 128*128^l.length<=127*72057594037927936:=Nat.mul_le_mul (by omega) hp;omega
theorem zcp (l:List UInt8) (c:UInt8) (h:∀x∈l,128<=x.toNat) (J:c.toNat<128) (G:l≠[]->0<c.toNat):dg (val (l ++ [c]))=l ++ [c]/\(l≠[]->0<val (l ++ [c])):=by
 induction l with
 |nil=>
  refine⟨?_,fun h=>absurd rfl h⟩;simp only[List.nil_append,val];rw[yx (by omega)]
  congr 1
  apply UInt8.toNat_inj.1;rw[UInt8.toNat_ofNat'];omega
 |cons x l ih=>
  have hx:=h x (by simp);have K:=x.toNat_lt;have I:0<val (l ++ [c]):=by
   rcases l with _|⟨y,l⟩
   ·have:=G (by simp);simp only[List.nil_append,val];omega
   ·exact(ih (fun z F=>h z (List.mem_cons_of_mem _ F)) (fun _=>G (by simp))).2 (by simp)
  have:=(ih (fun z F=>h z (List.mem_cons_of_mem _ F)) (fun _=>G (by simp))).1;simp only[List.cons_append,val];refine⟨?_,fun _=>by omega⟩;rw[Y5 (by omega),show(x.toNat % 128+128*val (l ++ [c])) / 128=val (l ++ [c]) from by omega,this]
  congr 1
  apply UInt8.toNat_inj.1;rw[UInt8.toNat_ofNat'];omega
def tx (t:List UInt8):List UInt8:=dg t.length ++ t
def raw:List UInt8->Option Nat
 | []=>none
 |c :: l=>if c.toNat<128 then some c.toNat else (raw l).map fun n=>c.toNat % 128+128*n
theorem zcq (n:Nat):∀t,raw (dg n ++ t)=some n:=by
 induction n using Nat.strongRecOn with
 |_ n ih=>
  intro t;by_cases F:n<128
  ·have e:(UInt8.ofNat n).toNat=n:=by rw[UInt8.toNat_ofNat'];omega
   simp[yx F,raw,e,F]
  ·have e:(UInt8.ofNat (128+n % 128)).toNat=128+n % 128:=by rw[UInt8.toNat_ofNat'];omega
   rw[Y5 F,List.cons_append];simp only[raw,e];rw[if_neg (by omega),ih (n / 128) (by omega) t];simp;omega
def Jx (l:List UInt8):Option Nat:=
 match raw l with
 |some n=>if n<18446744073709551616/\(dg n).isPrefixOf l=true then some n else none
 |none=>none
theorem Zt {l:List UInt8}{n:Nat} (h:Jx l=some n):n<18446744073709551616/\dg n <+: l:=by
 unfold Jx at h;split at h
 ·split at h
  ·injection h with h;subst h;rename_i F;exact⟨F.1,List.isPrefixOf_iff_prefix.1 F.2⟩
  ·cases h
 ·cases h
theorem zaM {l:List UInt8}{n:Nat} (F:n<18446744073709551616) (h:dg n <+: l):Jx l=some n:=by
 obtain⟨t,rfl⟩:=h;unfold Jx;rw[zcq];simp only;rw[if_pos ⟨F,List.isPrefixOf_iff_prefix.2 (List.prefix_append _ _)⟩]
theorem z1B {l:List UInt8} (h:Jx l=none):∀n,n<18446744073709551616->¬dg n <+: l:=fun n F hp=>by
 rw[zaM F hp]at h;cases h
def vq (most:Nat) (l:List UInt8) (p:Nat) (r:Bool):Nat×Nat×Bool:=
 if r=false then (0,p,false) else
  match Jx (l.drop p) with
  |some n=>if n<=most then (n,p+(dg n).length,true) else (0,p,false)
  |none=>(0,p,false)
def yk (l:List UInt8) (p:Nat) (r:Bool):List UInt8×Nat×Bool:=
 if r=false then (List.replicate 32 0,p,false) else
  if p+32<=l.length then ((l.drop p).take 32,p+32,true) else (List.replicate 32 0,p,false)
theorem Zu (most:Nat) (l:List UInt8) (p:Nat):vq most l p false=(0,p,false):=by simp[vq]
theorem Zv {most:Nat}{l:List UInt8}{p n:Nat} (h:Jx (l.drop p)=some n) (F:n<=most):vq most l p true=(n,p+(dg n).length,true):=by simp[vq,h,F]
theorem Jj {most:Nat}{l:List UInt8}{p n:Nat} (h:Jx (l.drop p)=some n) (F:¬n<=most):vq most l p true=(0,p,false):=by simp[vq,h,F]
theorem QE {most:Nat}{l:List UInt8}{p:Nat} (h:Jx (l.drop p)=none):vq most l p true=(0,p,false):=by simp[vq,h]
theorem Zw {L a r:List UInt8}{p:Nat} (h:L.drop p=a ++ r):L.drop (p+a.length)=r:=by
 rw[<-List.drop_drop,h,List.drop_left]
theorem z94 {L a r:List UInt8}{p:Nat} (h:L.drop p=a ++ r) (ha:0<a.length):p+a.length+r.length=L.length:=by
 have:=congrArg List.length h;simp at this;omega
theorem YM (t:List UInt8):(tx t).length=(dg t.length).length+t.length:=by simp[tx]
theorem vV:(prog.info? 5).map (fun i=>(i.zero,i.size,i.bytes))=some (some (.int .u8 0),1,1):=by kernel_rfl
theorem zG:prog.underlying 33=some (.slice 5):=by kernel_rfl
theorem y9 (b F j:Nat):(⟨b,F,none⟩:Addr).add j=⟨b,F+j,none⟩:=by
 unfold Addr.add;split <;> simp_all
theorem XN {w:World}{B:Nat}{v x:Value}{l m:List UInt8} (ty:TypeId) (G:ql B w v l) (hx:zP w x m) (ad:l.length+m.length<=140737488355328) (a6:B<=w.heap.size):
  ∃F w',(Builtin.append_ #[33,33] ty #[v,x]).run prog w=.ok F w'/\ql B w' F (l ++ m)/\w.grownBy w' v.ownBlock/\(F.ownBlock=v.ownBlock\/F.ownBlock=some w.heap.size):=by
 obtain⟨a2,I,O,a8,N⟩:=info_parts vV;obtain⟨A,c,rfl,ae,af,K⟩:=hx;have aa:(l ++ m).length=l.length+m.length:=by simp
 rcases A with _|J
 ·have M:m=[]:=by
   rcases m with _|⟨x,m⟩
   ·rfl
   ·obtain⟨_,_,h,_⟩:=K (by simp);cases h
  subst M;refine⟨v,w,?_,by rw[List.append_nil];exact G,World.grownBy.refl w _,.inl rfl⟩;rcases G.2 with ⟨rfl,M⟩|⟨g,xz,cur,rfl,_,_,a0,_⟩
  ·simp[Builtin.append_,run_underlying zG,sizeOf,typeInfo,I,Builtin.lenOf,Builtin.firstCells]
  ·simp[Builtin.append_,run_underlying zG,sizeOf,typeInfo,I,Builtin.lenOf,Builtin.firstCells,a0,storeCells]
 ·have z2:∀j u,(z4 m)[j]?=some u->w.cell? (J.add j)=some u:=by
   intro j u a4;obtain⟨a9,rfl⟩:=xG m j u a4;obtain⟨b,ag,e,_,a5⟩:=K (by omega);injection e with e;subst e;rw[y9];exact a5 j a9
  obtain⟨F,w',ab,a7,a1,_,a3⟩:=run_append_own_at (P:=prog) w B 33 ty 5 a2 (.int .u8 0) 1 1 zG I O a8 N rfl (by omega) v l.length (z4 l) G J m.length c (z4 m) (by simp[z4]) z2 (yb m) (by unfold maxLen;omega) (by omega) a6;refine⟨F,w',ab,?_,a1,a3⟩;unfold ql;rw[aa,jv];exact a7
theorem zF {o:Oper}{a:Act}{G:Act->World->Prop}{Q:Exit->Act->World->Prop}{w:World} (s y:Operand)
  (I:o.op=.call { callee:=.builtin .append,args:=#[s,y],argTypes:=#[33,33] })
  {B:Nat} {v x:Value} {l m:List UInt8} (K:a.eval s=v) (a2:a.eval y=x) (N:ql B w v l) (hx:zP w x m) (J:l.length+m.length<=140737488355328) (a0:B<=w.heap.size)
  (h:∀F w',ql B w' F (l ++ m)->w.grownBy w' v.ownBlock->(F.ownBlock=v.ownBlock\/F.ownBlock=some w.heap.size)->G (a.put o.dst F) w'):o.wp prog a w G Q:=by
 obtain⟨F,w',a3,a1,M,O⟩:=XN o.type N hx J a0;unfold Oper.wp execOp;simp only[I,resolve,invoke,builtin,Sem.run_bind,Sem.run_pure,Result.andThen_ok,List.map_toArray,List.map_cons,List.map_nil,K,a2,a3];exact h F w' a1 M O
theorem z9 {ops:Array Oper}{rest:List Oper}{o:Oper}{a:Act}{Q:Exit->Act->World->Prop}{w:World} (I:o.guard=none) (s y:Operand)
  (G:o.op=.call { callee:=.builtin .append,args:=#[s,y],argTypes:=#[33,33] })
  {B:Nat} {v x:Value} {l m:List UInt8} (K:a.eval s=v) (a3:a.eval y=x) (O:ql B w v l) (hx:zP w x m) (J:l.length+m.length<=140737488355328) (a1:B<=w.heap.size)
  (h:∀F w',ql B w' F (l ++ m)->w.grownBy w' v.ownBlock->(F.ownBlock=v.ownBlock\/F.ownBlock=some w.heap.size)->wpList prog ops Q rest (a.put o.dst F) w'):
  wpList prog ops Q (o :: rest) a w:=
 wpList_plain I fun _ N=>zF s y G K a3 O hx J a1 fun F w' a2 M a0=>N _ _ (h F w' a2 M a0)
theorem qB {ops:Array Oper}{o:Oper}{a:Act}{G:Act->World->Prop}{Q:Exit->Act->World->Prop}{E:Prop}{w:World} (K:o.guard=none) (s y:Operand)
  (J:o.op=.call { callee:=.builtin .append,args:=#[s,y],argTypes:=#[33,33] })
  {B:Nat} {v x:Value} {l m:List UInt8} (N:a.eval s=v) (a1:a.eval y=x) (O:ql B w v l) (hx:zP w x m) (M:l.length+m.length<=140737488355328) (a0:B<=w.heap.size)
  (h:∀F w',ql B w' F (l ++ m)->w.grownBy w' v.ownBlock->(F.ownBlock=v.ownBlock\/F.ownBlock=some w.heap.size)->G (a.put o.dst F) w'):
  if Region.wanted o (yielded ops a.tmps)=true then Oper.wp prog o a w G Q else E:=by
 have I:Region.wanted o (yielded ops a.tmps)=true:=by simp[Region.wanted,K]
 rw[if_pos I];exact zF s y J N a1 O hx M a0 h
theorem jP (w:World) (x:Int) (c:UInt8) (hx:x=(c.toNat:Int)):zP (w.alloc (.cells #[.int .u8 x] 5)) (.slice (some ⟨w.heap.size,0,none⟩) 1 1) [c]:=by
 subst hx;refine⟨_,1,rfl,Nat.le_refl _,by unfold maxLen;omega,fun _=>⟨w.heap.size,0,rfl,by simp,fun j F=>?_⟩⟩;obtain rfl:j=0:=by simpa using F
 have:=cell_one_new w (.int .u8 (c.toNat:Int)) 5 0 _ rfl;rw[y9]at this;exact this
theorem ql.alloc {w:World}{B:Nat}{v:Value}{l:List UInt8} (h:ql B w v l) (o:Obj):ql B (w.alloc o) v l:=World.ownsRow.alloc h o
theorem ql.drewN {w:World}{B:Nat}{v:Value}{l:List UInt8} (h:ql B w v l) (n:Nat):ql B (w.drewN n) v l:=h
theorem zcr (x:Int) (F:0<=x) (G:x<=255):bits BinOp.and IntKind.u8 x 127=x % 128:=by
 obtain⟨n,rfl⟩:=Int.eq_ofNat_of_zero_le F;have h:∀n:Fin 256,bits BinOp.and IntKind.u8 ((n.val:Nat):Int) 127=((n.val:Nat):Int) % 128:=by decide +kernel
 exact h ⟨n,by omega⟩
theorem qP (x:Int) (G:0<=x) (F:x<18446744073709551616):IntKind.u64.wrap x=x:=by
 simp[IntKind.wrap,IntKind.signed,IntKind.bits];omega
theorem zdd (i:Nat):128^i=2^(7*i):=by rw[Nat.pow_mul]
theorem z6W (n i:Nat) (x:Int) (K:n<18446744073709551616) (G:0<=x) (F:x<=255) (hx:x % 128=((n / 128^i % 128:Nat):Int)):
  bits BinOp.or IntKind.u64 (low n i:Int) (IntKind.u64.wrap (IntKind.u64.wrap (bits BinOp.and IntKind.u8 x 127)*2^(7*i)))=(low n (i+1):Int):=by
 have I:n / 128^i % 128<128:=Nat.mod_lt _ (by omega);have J:low n i+n / 128^i % 128*128^i<=n:=by
  rw[<-Vm];exact Nat.mod_le _ _
 rw[zcr x G F,hx,qP ((n / 128^i % 128:Nat):Int) (by omega) (by omega),Vm];generalize n / 128^i % 128=d at *;have e:(d:Int)*2^(7*i)=((d*128^i:Nat):Int):=by rw[zdd];simp
 rw[e,qP _ (by omega) (by omega),u64_or_nat _ _ (by omega) (by omega)]
 congr 1
 have hl:=zcm n i;rw[zdd]at hl⊢;rw[Nat.or_comm,Nat.mul_comm,<-Nat.two_pow_add_eq_or_of_lt hl,Nat.add_comm]
theorem zaN {a b c d:Int} (F:a=b) (G:c=d):Ending.returned (.tuple #[.int .u64 a,.int .i64 c])=Ending.returned (.tuple #[.int .u64 b,.int .i64 d]):=by rw[F,G]
theorem z1C (v:Value) (l:List UInt8) (n:Nat) (w:World) (a7:zP w v l) (N:n<18446744073709551616) (hp:dg n <+: l):
    Calls prog 181 #[v] w fun e w'=>e=.returned (.tuple #[.int .u64 (n:Int),.int .i64 ((dg n).length:Int)])/\w=w':=by
  obtain⟨A,c,rfl⟩:=a7.shape;obtain⟨_,aq,al,am⟩:=a7.at_;have ap:=zk N;have ah:=Kj n;have ae:=hp.length_le;obtain⟨b,ay,rfl,au,a2⟩:=am (by omega);unfold maxLen at al;obtain⟨k,a3⟩:∃k:Nat,Hd ((dg n).length=k):=⟨_,rfl⟩
  rw[a3.o]at ap ah ae⊢;have J:∀i (h:i<k),(i+1<k->(l[i]'(by omega)).toNat=128+n / 128^i % 128)/\(i+1=k->(l[i]'(by omega)).toNat=n / 128^i/\n / 128^i<128/\(0<i->0<n / 128^i)):=by
    intro i h;have I:i<(dg n).length:=by rw[a3.o];exact h
    have e:l[i]'(by omega)=(dg n)[i]:=(hp.getElem I).symm;have:=z92 n i I;rw[a3.o]at this;rw[e];exact this
  have aa:n / 128^(k - 1)<128:=((J (k - 1) (by omega)).2 (by omega)).2.1;have a4:low n k=n:=by
    refine z6V n k ?_;have e:k=k - 1+1:=by omega
    rw[e,Nat.pow_succ,Nat.mul_comm];have:=Nat.pow_pos (n:=k - 1) (show 0<128 by omega);exact(Nat.div_lt_iff_lt_mul this).1 aa
  have M:∀i,i=9->n / 128^i<=1:=by
    intro i O;subst O;have:(128:Nat)^9=9223372036854775808:=by decide
    rw[this];omega
  obtain⟨L,a9⟩:∃L:Nat,Hd (l.length=L):=⟨_,rfl⟩
  have aw:k<=L:=by rw[<-a9.o];exact ae
  rw[a9.o];have ag:=z0 a4;clear a4 aa hp;go_enter func181,ntmps181;go_wp2;go_loop [4,5] (fun sa K=>∃i:Nat,i<k/\K=.int .i64 i/\sa=.int .u64 (low n i:Int)) (fun _ K=>10 - (intOf K).toNat)
  case atStart=>exact⟨0,by omega,rfl,by rw[z3H];rfl⟩
  case round=>
    obtain⟨i,O,rfl,rfl⟩:=hrel;have ak:i<l.length:=by omega
    have ar:i<L:=by omega
    have a8:=a2 i ak;have hx:=J i O;obtain⟨x,a6,ad,F⟩:∃x:Int,0<=x/\x<=255/\Hd ((l[i].toNat:Int)=x):=⟨_,(yW l[i]).1,(yW l[i]).2,rfl⟩
    unfold z3 at a8;rw[F.o]at a8;have ax:(i:Int)<10:=by omega
    by_cases af:i+1<k
    · have a0:=hx.1 af
      have ao:128<=x:=by rw[<-F.o];omega
      have G:x % 128=((n / 128^i % 128:Nat):Int):=by rw[<-F.o];omega
      have a1:=z0 (z6W n i x N a6 ad G);clear hx a0 G J a2 M;go_wp2;go_round
      case rel=>exact⟨i+1,af,by go_num,by rw[a1.o]⟩
      case measure=>simp[intOf];omega
    · obtain⟨a0,an,ab⟩:=hx.2 (by omega)
      have ao:x<128:=by rw[<-F.o];omega
      have G:x % 128=((n / 128^i % 128:Nat):Int):=by rw[<-F.o];omega
      have a1:=z0 (z6W n i x N a6 ad G);have I:i+1=k:=by omega
      have aj:0<i->0<x:=fun h=>by have:=ab h;rw[<-F.o];omega
      have av:i=9->x<=1:=by
        intro e;have:=M i e;rw[<-F.o];omega
      clear hx a0 G an ab J a2 M;have a5:=z0 I;clear I;go_wp2;all_goals first
        |(exfalso;have:=aj (by assumption);omega)
        |(try (have ai:x=0:=by assumption
               subst ai)
          go_ret2
          exact⟨zaN (a1.o.trans (by rw[a5.o,ag.o])) (by have:=a5.o;omega),rfl⟩)
theorem z95 (v:Value) (l:List UInt8) (w:World) (a3:zP w v l) (hp:∀n,n<18446744073709551616->¬dg n <+: l):
  Calls prog 181 #[v] w fun e w'=>e=.returned (.tuple #[.int .u64 0,.int .i64 0])/\w=w':=by
 obtain⟨A,c,rfl⟩:=a3.shape;obtain⟨_,a9,ab,ad⟩:=a3.at_;unfold maxLen at ab;by_cases hl:l.length=0
 ·rw[hl];go_enter func181,ntmps181;go_wp2;refine wp_loop_rounds 1 ?_;rw[rounds_succ];go_wp2;go_ret2;exact⟨rfl,rfl⟩
 obtain⟨b,ar,rfl,al,a8⟩:=ad (by omega);have a1:∀i (h:i<l.length),i<10->(∀j (F:j<i),128<=(l[j]'(by omega)).toNat)->(l[i].toNat<128)->(0<i->0<l[i].toNat)->(i=9->l[i].toNat<=1)->False:=by
  intro i h ag F a5 N J
  obtain⟨e,_⟩:=zcp (l.take i) l[i] (fun x hx=>by
   obtain⟨j,M,rfl⟩:=List.getElem_of_mem hx;rw[List.getElem_take]
   exact F j (by simp at M;omega)) a5 (fun aa=>N (by
    rcases Nat.eq_zero_or_pos i with h|h
    ·subst h;simp at aa
    ·exact h))
  rw[<-List.take_succ_eq_append_getElem h]at e;have ae:=List.take_succ_eq_append_getElem h;refine hp _ ?_ (by rw[e];exact List.take_prefix _ _);rw[ae];exact zco _ _ (by simp;omega) a5 (fun h=>J (by simp at h;omega))
 obtain⟨L,K⟩:∃L:Nat,Hd (l.length=L):=⟨_,rfl⟩
 have aq:0<L:=by have:=K.o;omega
 rw[K.o]at a9⊢;have aj:=z0 a1;clear a1 hp hl;go_enter func181,ntmps181;go_wp2;go_loop [4,5] (fun sa I=>∃(i:Nat) (a:Int),i<=L/\i<=10/\I=.int .i64 i/\sa=.int .u64 a/\Hd (∀j (F:j<i) (hl:j<l.length),128<=(l[j]).toNat)) (fun _ I=>10 - (intOf I).toNat)
 case atStart=>exact⟨0,0,by omega,by omega,rfl,rfl,z0 (fun j F=>by omega)⟩
 case round=>
  obtain⟨i,a,ag,ao,rfl,rfl,a6⟩:=hrel;by_cases af:i<L/\i<10
  ·obtain⟨O,ap⟩:=af;have a2:i<l.length:=by rw[K.o];exact O
   have a4:=a8 i a2;obtain⟨x,am,au,G⟩:∃x:Int,0<=x/\x<=255/\Hd ((l[i].toNat:Int)=x):=⟨_,(yW l[i]).1,(yW l[i]).2,rfl⟩
   unfold z3 at a4;rw[G.o]at a4;have an:(i:Int)<10:=by omega
   clear a8;by_cases ak:128<=x
   ·go_wp2;go_round
    case rel=>
     refine⟨i+1,_,by omega,by omega,by go_num,rfl,z0 (fun j F M=>?_)⟩;by_cases ai:j<i
     ·exact a6.o j ai M
     ·obtain rfl:j=i:=by omega
      have:=G.o;omega
    case measure=>simp[intOf];omega
   ·have a0:¬((0<i->0<x)/\(i=9->x<=1)):=fun a7=>aj.o i a2 (by omega) (fun j F=>a6.o j F _) (by have:=G.o;omega) (fun N=>by have:=G.o;have:=a7.1 N;omega) (fun J=>by have:=G.o;have:=a7.2 J;omega);have ah:=z0 a0;clear a0;go_wp2;all_goals first
     |(go_ret2;exact⟨rfl,rfl⟩)
     |(exfalso;refine ah.o ⟨fun _=>?_,fun _=>?_⟩ <;> omega)
  ·by_cases O:i<L
   ·obtain rfl:i=10:=by omega
    go_wp2;go_ret2;exact⟨rfl,rfl⟩
   ·go_wp2;go_ret2;exact⟨rfl,rfl⟩
def tot (F:List (List UInt8)) (k:Nat):Nat:=(F.take k).flatten.length
theorem z3I (F:List (List UInt8)):tot F 0=0:=by simp[tot]
theorem Vn (F:List (List UInt8)) (k:Nat) (h:k<F.length):tot F (k+1)=tot F k+F[k].length:=by
 unfold tot;rw[List.take_succ_eq_append_getElem h,List.flatten_append,List.length_append];simp
theorem z1D (F:List (List UInt8)) (k:Nat) (h:k<F.length):(F.take k).flatten ++ F[k]=(F.take (k+1)).flatten:=by
 rw[List.take_succ_eq_append_getElem h,List.flatten_append,List.flatten_singleton]
theorem Kk (F:List (List UInt8)) (k:Nat):tot F k<=F.flatten.length:=by
 unfold tot;have:=congrArg (fun l=>l.flatten.length) (List.take_append_drop k F);simp only[List.flatten_append,List.length_append]at this;omega
theorem XO (F:List (List UInt8)) (a0:Nat->Value) (g n c:Nat) (w:World) (a9:F.length=n) (hg:g<w.heap.size) (N:∀j,j<n->w.cell? ⟨g,j,none⟩=some (a0 j))
  (M:∀j (h:j<F.length),zP w (a0 j) F[j]) (az:F.flatten.length<=1099511627776) (aA:n<=1000):
  Calls prog 145 #[.slice (some ⟨g,0,none⟩) n c] w fun e w'=>∃v,e=.returned v/\ql w.heap.size w' v F.flatten/\Below w.heap.size w w':=by
 obtain⟨a5,aq,ah,ar,af⟩:=info_parts vV;go_enter func145,ntmps145;have O:=z0 a9;clear a9;go_wp2;go_loop [3,11] (fun al G=>∃k:Nat,k<=n/\G=.int .i64 k/\al=.int .i64 (tot F k)) (fun _ G=>n - (intOf G).toNat)
 case atStart=>exact⟨0,Nat.zero_le _,rfl,by rw[z3I];rfl⟩
 case round=>
  obtain⟨k,ad,rfl,rfl⟩:=hrel;have aD:=Kk F k;by_cases a7:k<n
  ·have I:k<F.length:=by rw[O.o];exact a7
   have aj:=N k a7;obtain⟨A,aB,a6,_⟩:=M k I;have a2:=Vn F k I;have aC:=Kk F (k+1);have ay:tot F k+F[k].length<=1099511627776:=by omega
   rw[a6]at aj;have an:=z0 a2;clear a2 a6 N M;go_wp2;go_round
   case rel=>exact⟨k+1,by omega,by go_num,by rw[an.o];go_num⟩
   case measure=>simp[intOf];omega
  ·obtain rfl:k=n:=by omega
   have aw:a5.bytes*tot F k<=281474976710656:=by rw[af];omega
   have ai:tot F k<=maxLen:=by unfold maxLen;omega
   go_wp2_with (at_make;refine wpList_make_own _ rfl _ _ 33 rfl w.heap.size 5 a5 (.int .u8 0) 1 zG aq ah ar _ _ _ (tot F k) rfl rfl rfl aw ai (Nat.le_refl _) ?_);intro w0 a1 ab;have ao:Below w.heap.size w w0:=(Below.refl _ _).grown ab (Nat.le_refl _) (fun k h=>by cases h);have ak:ql w.heap.size w0 (.slice (some ⟨w.heap.size,0,none⟩) 0 (tot F k)) []:=a1;clear a1 ab;go_wp2;go_loopw [6,24] (fun ap G wr=>∃j:Nat,j<=k/\G=.int .i64 j/\ql w.heap.size wr ap (F.take j).flatten/\Below w.heap.size w wr) (fun _ G _=>k - (intOf G).toNat)
   case atStart=>exact⟨0,Nat.zero_le _,rfl,by simpa using ak,ao⟩
   case round=>
    obtain⟨j,aE,rfl,K,J⟩:=hrel;by_cases a4:j<k
    ·have I:j<F.length:=by rw[O.o];exact a4
     have ax:wr.cell? ⟨g,j,none⟩=some (a0 j):=(J.cell (p:=⟨g,j,none⟩) hg).trans (N j a4);have am:=(M j I).below J;have au:(F.take j).flatten.length+F[j].length<=140737488355328:=by
      have:=Vn F j I;have:=Kk F (j+1);unfold tot at *;omega
     have aa:=J.size;go_wp2_with (at_builtin;refine z9 rfl (.tmp 28) (.tmp 29) rfl rfl rfl K am au aa ?_;intro v1 ag ae a3 _);have a8:(F.take j).flatten ++ F[j]=(F.take (j+1)).flatten:=z1D F j I;have av:Below w.heap.size w ag:=J.grown a3 aa (fun k ad=>(World.ownsRow.lt K k ad).1);rw[a8]at ae;clear a8 a3;go_roundw
     case rel=>exact⟨j+1,by omega,by go_num,ae,av⟩
     case measure=>simp[intOf];omega
    ·obtain rfl:j=k:=by omega
     go_wp2;go_ret;refine⟨_,rfl,?_,J⟩;have e:F.take j=F:=by rw[<-O.o];exact List.take_length
     rw[e]at K;exact K
theorem zde (k:Int) (F:0<=k) (G:k<256):bits BinOp.or IntKind.u8 k 128=128+k % 128:=by
 obtain⟨n,rfl⟩:=Int.eq_ofNat_of_zero_le F;have h:∀n:Fin 256,bits BinOp.or IntKind.u8 ((n.val:Nat):Int) 128=128+((n.val:Nat):Int) % 128:=by decide +kernel
 exact h ⟨n,by omega⟩
theorem XP (n:Int) (w:World) (ah:0<=n) (ad:n<18446744073709551616):
  Calls prog 182 #[.int .u64 n] w fun e w'=>∃v,e=.returned v/\ql w.heap.size w' v (dg n.toNat)/\Below w.heap.size w w':=by
 obtain⟨aa,ag,a8,ai,a6⟩:=info_parts vV;have al:=zk (n:=n.toNat) (by omega);go_enter func182,ntmps182;go_wp2_with (at_make;refine wpList_make_own _ rfl _ _ 33 rfl w.heap.size 5 aa (.int .u8 0) 1 zG ag a8 ai _ _ _ 10 rfl rfl (by omega) ?b2 ?b3 (Nat.le_refl _) ?_)
 case b2=>rw[a6];omega
 case b3=>unfold maxLen;omega
 intro w0 a3 a5;have ae:Below w.heap.size w w0:=(Below.refl _ _).grown a5 (Nat.le_refl _) (fun k h=>by cases h);have ab:ql w.heap.size w0 (.slice (some ⟨w.heap.size,0,none⟩) 0 10) []:=a3;clear a3 a5;go_wp2;go_loopw [0,3] (fun a2 af wr=>∃(m:Int) (J7:List UInt8),0<=m/\m<18446744073709551616/\a2=.int .u64 m/\ql w.heap.size wr af J7/\Hd (J7 ++ dg m.toNat=dg n.toNat)/\J7.length<=10/\Below w.heap.size w wr)
  (fun a2 _ _=>(intOf a2).toNat)
 case atStart=>exact⟨n,[],ah,ad,rfl,ab,by simp[Hd],by simp,ae⟩
 case round=>
  obtain⟨m,J7,ak,ao,rfl,J,N,aj,F⟩:=hrel;by_cases an:m<128
  ·have hq:m=((UInt8.ofNat m.toNat).toNat:Int):=by rw[UInt8.toNat_ofNat'];omega
   have O:J7.length + [UInt8.ofNat m.toNat].length<=140737488355328:=by simp;omega
   have a0:=F.size;have K:=z0 hq;clear hq;go_wp2_with (at_builtin;refine z9 rfl (.tmp 15) (.tmp 18) rfl rfl rfl (J.alloc _) (jP _ _ (UInt8.ofNat m.toNat) K.o) O (by simp;omega) ?_;intro v1 a7 I M _);go_ret;rw[yx (by omega)]at N;rw[N.o]at I;exact⟨v1,rfl,I,(F.alloc a0 _).grown M (by simp;omega) (fun k a1=>(World.ownsRow.lt J k a1).1)⟩
  ·have hq:bits BinOp.or IntKind.u8 (m % 256) 128=((UInt8.ofNat (128+m.toNat % 128)).toNat:Int):=by
    rw[zde _ (by omega) (by omega),UInt8.toNat_ofNat'];omega
   have O:J7.length + [UInt8.ofNat (128+m.toNat % 128)].length<=140737488355328:=by simp;omega
   have a0:=F.size;have K:=z0 hq;clear hq;have am:128<=m:=by omega
   go_wp2_with (at_builtin;refine z9 rfl (.tmp 7) (.tmp 11) rfl rfl rfl (J.alloc _) (jP _ _ (UInt8.ofNat (128+m.toNat % 128)) K.o) O (by simp;omega) ?_;intro v1 a7 I M _);have a4:(J7 ++ [UInt8.ofNat (128+m.toNat % 128)]).length<=10/\J7 ++ [UInt8.ofNat (128+m.toNat % 128)] ++ dg (m / 128).toNat=dg n.toNat:=by
    have G:=N.o;rw[Y5 (n:=m.toNat) (by omega)]at G;have e:m.toNat / 128=(m / 128).toNat:=by omega
    rw[e]at G;have a9:=congrArg List.length G;have ap:=Kj (m / 128).toNat;simp at a9;exact⟨by simp;omega,by simpa using G⟩
   go_roundw
   case rel=>exact⟨m / 128,_,by omega,by omega,rfl,I,z0 a4.2,a4.1,(F.alloc a0 _).grown M (by simp;omega) (fun k a1=>(World.ownsRow.lt J k a1).1)⟩
   case measure=>simp[intOf];omega
theorem zdf (u:Value) (l:List UInt8) (g c:Nat) (w:World) (hg:g<w.heap.size) (c0:w.cell? ⟨g,0,none⟩=some u) (I:zP w u l) (G:l.length<=1099511627776):
  Calls prog 145 #[.slice (some ⟨g,0,none⟩) 1 c] w fun e w'=>∃v,e=.returned v/\ql w.heap.size w' v l/\Below w.heap.size w w':=by
 have h:=XO [l] (fun _=>u) g 1 c w rfl hg (fun j F=>by
  match j,F with
  |0,_=>exact c0) (fun j F=>by
  match j,F with
  |0,_=>exact I) (by simpa using G) (by omega)
 simpa using h
theorem zdg (u v:Value) (l m:List UInt8) (g c:Nat) (w:World) (hg:g<w.heap.size) (c0:w.cell? ⟨g,0,none⟩=some u) (c1:w.cell? ⟨g,1,none⟩=some v) (J:zP w u l) (I:zP w v m) (G:l.length+m.length<=1099511627776):
  Calls prog 145 #[.slice (some ⟨g,0,none⟩) 2 c] w fun e w'=>∃x,e=.returned x/\ql w.heap.size w' x (l ++ m)/\Below w.heap.size w w':=by
 have h:=XO [l,m] (fun j=>if j=0 then u else v) g 2 c w rfl hg (fun j F=>by
  match j,F with
  |0,_=>exact c0
  |1,_=>exact c1) (fun j F=>by
  match j,F with
  |0,_=>exact J
  |1,_=>exact I) (by simpa using G) (by omega)
 simpa using h
theorem zdh (u v x:Value) (l m n:List UInt8) (g c:Nat) (w:World) (hg:g<w.heap.size) (c0:w.cell? ⟨g,0,none⟩=some u) (c1:w.cell? ⟨g,1,none⟩=some v) (G:w.cell? ⟨g,2,none⟩=some x)
  (K:zP w u l) (J:zP w v m) (hx:zP w x n) (I:l.length+(m.length+n.length)<=1099511627776):
  Calls prog 145 #[.slice (some ⟨g,0,none⟩) 3 c] w fun e w'=>∃y,e=.returned y/\ql w.heap.size w' y (l ++ (m ++ n))/\Below w.heap.size w w':=by
 have h:=XO [l,m,n] (fun j=>if j=0 then u else if j=1 then v else x) g 3 c w rfl hg (fun j F=>by
  match j,F with
  |0,_=>exact c0
  |1,_=>exact c1
  |2,_=>exact G) (fun j F=>by
  match j,F with
  |0,_=>exact K
  |1,_=>exact J
  |2,_=>exact hx) (by simpa using I) (by omega)
 simpa using h
theorem Vo (v:Value) (l:List UInt8) (n:Int) (w:World) (I:zP w v l) (N:0<=n) (M:n<18446744073709551616) (a1:l.length<=1099511627000):
  Calls prog 151 #[v,.int .u64 n] w fun e w'=>∃x,e=.returned x/\ql w.heap.size w' x (l ++ dg n.toNat)/\Below w.heap.size w w':=by
 have a2:=zk (n:=n.toNat) (by omega);obtain⟨A,c,rfl⟩:=I.shape;go_enter func151,ntmps151;go_wp2_with fail;refine(XP n w N M).mono ?_;rintro e G ⟨v1,rfl,J,F⟩;have O:=F.size;obtain⟨A1,c1,rfl⟩:=J.byt.shape;go_wp2_with fail;refine(zdg _ _ l (dg n.toNat) G.heap.size 2 (G.alloc (.cells #[.slice A l.length c,.slice A1 (dg n.toNat).length c1] 33)) (by simp) (by simp) (by simp) ((I.below F).alloc _) (J.byt.alloc _) (by omega)).mono ?_;rintro e a3 ⟨x,rfl,K,a0⟩;go_wp2;go_ret;exact⟨x,rfl,K.more (by simp;omega),F.trans ((Below.alloc (Below.refl _ _) O _).trans (a0.mono (by simp;omega)))⟩
theorem XQ (v u:Value) (l t:List UInt8) (w:World) (J:zP w v l) (a0:zP w u t) (a4:l.length<=1099511000000) (a7:t.length<=65536):
  Calls prog 231 #[v,u] w fun e w'=>∃x,e=.returned x/\ql w.heap.size w' x (l ++ tx t)/\Below w.heap.size w w':=by
 have a5:=zk (n:=t.length) (by omega);obtain⟨A,c,rfl⟩:=J.shape;obtain⟨B,d,rfl,a1,M,O⟩:=a0;have K:zP w (.slice B t.length d) t:=⟨B,d,rfl,a1,M,O⟩
 go_enter func231,ntmps231;go_wp2_with fail;refine(XP (t.length:Int) w (by omega) (by omega)).mono ?_;rintro e I ⟨v1,rfl,G,F⟩;rw[Int.toNat_natCast]at G;have a2:=F.size;obtain⟨A1,c1,rfl⟩:=G.byt.shape;go_wp2_with fail;refine(zdh _ _ _ l (dg t.length) t I.heap.size 3 (I.alloc (.cells #[.slice A l.length c,.slice A1 (dg t.length).length c1,.slice B t.length d] 33)) (by simp) (by simp) (by simp) (by simp) ((J.below F).alloc _) (G.byt.alloc _) ((K.below F).alloc _) (by omega)).mono ?_;rintro e a6 ⟨x,rfl,N,a3⟩;go_wp2;go_ret;exact⟨x,rfl,N.more (by simp;omega),F.trans ((Below.alloc (Below.refl _ _) a2 _).trans (a3.mono (by simp;omega)))⟩
section
theorem z7 {w:World}{g:Nat}{cs:Array Value}{t:TypeId} (h:w.heap[g]?=some (.cells cs t (0,0))) (i:Nat):w.cell? ⟨g,i,none⟩=cs[i]?:=cell_of_row w g i cs t (0,0) h
theorem zz {w:World}{g:Nat}{cs:Array Value}{t:TypeId} (h:w.heap[g]?=some (.cells cs t (0,0))) (i:Nat):w.frozen? ⟨g,i,none⟩=false:=by simp[World.frozen?,h]
theorem jm {w:World}{g:Nat}{cs:Array Value}{t:TypeId} (h:w.heap[g]?=some (.cells cs t (0,0))) (i:Nat) (u:Value):(w.setCell ⟨g,i,none⟩ u).heap[g]?=some (.cells (cs.setIfInBounds i u) t (0,0)):=by
 simp[World.setCell,Array.getElem?_modify,h]
structure Qc (w:World) (g:Nat) (l:List UInt8) (p:Nat) (r:Bool):Prop where
 ex:∃A c,ql 0 w (.slice A l.length c) l/\w.heap[g]?=some (.cells #[.slice A l.length c,.int .i64 (p:Int),.bool r] 206 (0,0))
 le:p<=l.length
section
variable {w w':World}{g:Nat}{l:List UInt8}{p:Nat}{r:Bool}
theorem z2w {B:Nat}{v:Value}{m:List UInt8}{cs:Array Value}{t:TypeId} (h:ql B w v m) (hg:w.heap[g]?=some (.cells cs t (0,0))) (G:5≠t):v.ownBlock≠some g:=by
 rcases h.2 with ⟨rfl,_⟩|⟨g',xz,cur,rfl,_,F,_⟩
 ·simp[Value.ownBlock]
 ·intro he;obtain rfl:g'=g:=by simpa [Value.ownBlock] using he
  rw[F]at hg;injection hg with hg;injection hg with _ I;exact G I
theorem Qc.keep (h:Qc w g l p r) (F:∀b,b<w.heap.size->(b=g\/∃v,ql 0 w v l/\v.ownBlock=some b)->w'.heap[b]?=w.heap[b]?):Qc w' g l p r:=by
 obtain⟨⟨A,c,G,I⟩,J⟩:=h;exact⟨⟨A,c,G.keep fun b K e=>F b K (.inr ⟨_,G,e⟩),(F g (Lb I) (.inl rfl)).trans I⟩,J⟩
theorem Qc.below (h:Qc w g l p r) (F:Below w.heap.size w w'):Qc w' g l p r:=h.keep fun b G _=>F.block b G
theorem Qc.far {g':Nat}{G:List UInt8}{K:Nat}{r':Bool} (h:Qc w g l p r) (h':Qc w g' G K r') (N:g≠g') (hg:w.grownBy w' (some g')):Qc w' g l p r:=h.keep fun b a0 I=>by
 refine hg.block b a0 fun e=>?_;injection e with e;rcases I with O|⟨v,M,J⟩
 ·exact N (O.symm.trans e)
 ·obtain⟨_,_,_,F⟩:=h'.ex;subst e;exact z2w M F (by decide) J
theorem Qc.apart {k:Nat}{cs:Array Value}{t:TypeId} (h:Qc w g l p r) (hg:w.grownBy w' (some k)) (I:w.heap[k]?=some (.cells cs t (0,0))) (J:5≠t) (K:g≠k):Qc w' g l p r:=h.keep fun b O F=>by
 refine hg.block b O fun e=>?_;injection e with e;rcases F with N|⟨v,M,G⟩
 ·exact K (N.symm.trans e)
 ·subst e;exact z2w M I J G
theorem Qc.lt (h:Qc w g l p r):g<w.heap.size:=by
 obtain⟨_,_,_,F⟩:=h.ex;exact Lb F
theorem Qc.drewN (h:Qc w g l p r) (n:Nat):Qc (w.drewN n) g l p r:=⟨h.ex,h.le⟩
theorem Qc.turn (h:Qc w g l p r) (F:Nat) (hp:F<=l.length):Qc (w.setCell ⟨g,1,none⟩ (.int .i64 (F:Int))) g l F r:=by
 obtain⟨A,c,G,I⟩:=h.ex;exact⟨⟨A,c,ownsRow_setCell_other G (z2w G I (by decide)) _,by rw[jm I];rfl⟩,hp⟩
theorem Qc.spoil (h:Qc w g l p r):Qc (w.setCell ⟨g,2,none⟩ (.bool false)) g l p false:=by
 obtain⟨A,c,F,G⟩:=h.ex;exact⟨⟨A,c,ownsRow_setCell_other F (z2w F G (by decide)) _,by rw[jm G];rfl⟩,h.le⟩
theorem xH (w:World) (g i:Nat) (u:Value):w.grownBy (w.setCell ⟨g,i,none⟩ u) (some g):=
 ⟨rfl,rfl,rfl,by simp[World.setCell],fun k _ F=>Hs w _ u k (fun e=>F (by rw[e]))⟩
theorem kS {w w':World} (h:Below w.heap.size w w') (F:Option Nat):w.grownBy w' F:=⟨h.os,h.tape,h.output,h.size,fun k G _=>h.block k G⟩
theorem Qf {a b:World}{F:Option Nat} (h:a.grownBy b F) (n:Nat):a.grownBy (b.drewN n) F:=⟨h.os,h.tape,h.output,h.size,h.block⟩
end
theorem z96 (v:Value) (l:List UInt8) (w:World) (I:zP w v l) (M:l.length<=1099511627776):
  Calls prog 98 #[v] w fun e w'=>∃g,e=.returned (.pointer (some ⟨g,0,none⟩))/\w.heap.size<=g/\Qc w' g l 0 true/\Below w.heap.size w w':=by
 obtain⟨A,c,rfl⟩:=I.shape;go_enter func98,ntmps98;go_wp2_with fail;refine(zdf _ l w.heap.size 1 (w.alloc (.cells #[.slice A l.length c] 33)) (by simp) (by simp) (I.alloc _) M).mono ?_;rintro e J ⟨v1,rfl,F,G⟩;have K:=G.size;obtain⟨A1,c1,rfl⟩:=F.byt.shape;go_wp2;go_ret;simp at K;refine⟨_,rfl,by omega,⟨⟨A1,c1,(F.more (Nat.zero_le _)).alloc _,Xh J _⟩,Nat.zero_le _⟩,?_⟩;exact((Below.alloc (Below.refl _ _) (Nat.le_refl _) _).trans (G.mono (by simp))).alloc (by omega) _
theorem vW (g:Nat) (l:List UInt8) (p:Nat) (r:Bool) (w:World) (G:Qc w g l p r):
  Calls prog 148 #[.pointer (some ⟨g,0,none⟩)] w fun e w'=>e=.returned (.bool (!r))/\w=w':=by
 obtain⟨A,c,J,F⟩:=G.ex;have I:=z7 F 2;simp at I;clear J F G;go_enter func148,ntmps148;go_wp2;go_ret;exact⟨rfl,rfl⟩
theorem XR (g:Nat) (l:List UInt8) (p:Nat) (r:Bool) (w:World) (G:Qc w g l p r) (hl:l.length<=1099511627776):
  Calls prog 149 #[.pointer (some ⟨g,0,none⟩)] w fun e w'=>e=.returned (.int .i64 ((l.length:Int) - (p:Int)))/\∃n,w'=w.drewN n:=by
 obtain⟨A,c,I,F⟩:=G.ex;have hp:=G.le;have c0:=z7 F 0;have c1:=z7 F 1;simp at c0 c1;clear I F G;go_enter func149,ntmps149;go_wp2;go_quiet (fail);go_wp2;go_ret;exact⟨rfl,_,rfl⟩
theorem Vp (g:Nat) (l:List UInt8) (p:Nat) (r:Bool) (w:World) (G:Qc w g l p r):
  Calls prog 146 #[.pointer (some ⟨g,0,none⟩)] w fun e w'=>e=.returned (.tuple #[])/\w.setCell ⟨g,2,none⟩ (.bool false)=w':=by
 obtain⟨A,c,J,F⟩:=G.ex;have I:=z7 F 2;have K:=zz F 2;simp at I;clear J F G;go_enter func146,ntmps146;go_wp2;go_end0;exact⟨rfl,rfl⟩
end
noncomputable def zcs (v h : Value) (w : World) : Result Next := Sem.run prog (execOp (fun o => match o with | .tmp 0 => v | _ => h) { dst := none, op := .slice 33 (.tmp 0) none (some (.tmp 1)) none, type := 0, pos := "", after := #[], guard := none }) w
noncomputable def zct (v l : Value) (w : World) : Result Next := Sem.run prog (execOp (fun o => match o with | .tmp 0 => v | _ => l) { dst := none, op := .slice 33 (.tmp 0) (some (.tmp 1)) none none, type := 0, pos := "", after := #[], guard := none }) w
theorem z7v (r:Operand->Value) (x h:Operand) (dst:Option Tmp) (ty:TypeId) (pos:String) (after:Array Edge) (guard:Option (Nat×Bool)) (w:World):
  Sem.run prog (execOp r { dst:=dst,op:=.slice 33 x none (some h) none,type:=ty,pos:=pos,after:=after,guard:=guard }) w=zcs (r x) (r h) w:=rfl
theorem z7w (r:Operand->Value) (x l:Operand) (dst:Option Tmp) (ty:TypeId) (pos:String) (after:Array Edge) (guard:Option (Nat×Bool)) (w:World):
  Sem.run prog (execOp r { dst:=dst,op:=.slice 33 x (some l) none none,type:=ty,pos:=pos,after:=after,guard:=guard }) w=zct (r x) (r l) w:=rfl
theorem RdB.sub {w:World}{A:Option Addr}{l:List UInt8} (h:RdB w A l) (i k c:Nat) (M:i<=k) (N:k<=l.length) (O:l.length<=c):RdB w (if c=i then A else A.map (·.add i)) ((l.drop i).take (k - i)):=fun J=>by
 rw[List.length_take,List.length_drop]at J;obtain⟨b,F,rfl,G,K⟩:=h (by omega);rw[if_neg (by omega)];refine⟨b,F+i,by rw[Option.map_some,y9],G,fun j I=>?_⟩;rw[List.length_take,List.length_drop]at I;rw[Nat.add_assoc,K (i+j) (by omega),List.getElem_take,List.getElem_drop]
theorem XS {l:List UInt8}{i k:Nat} (F:k<=l.length):((l.drop i).take (k - i)).length=k - i:=by
 rw[List.length_take,List.length_drop];omega
theorem zc5 (A:Option Addr) (c L k:Nat) (a5:k<=L) (a3:L<=c):∃A' I,(∀w,zcs (.slice A L c) (.int .i64 (k:Int)) w=.ok (.value (.slice A' k I)) w)/\∀w l,l.length=L->zP w (.slice A L c) l->zP w (.slice A' k I) (l.take k):=by
 refine⟨if c=0 then A else A.map (·.add 0),c,fun w=>?_,fun w l hl K=>?_⟩
 ·obtain⟨a1,N,a0,a6,O⟩:=info_parts vV;have M:k<=c:=by omega
  unfold zcs execOp;simp[Instr.sliceAt,Instr.slice,run_underlying zG,Instr.sliceBounds,Instr.sliceBound,asIntOf,sizeOf,typeInfo,N,M,Sem.run_bind]
 ·obtain⟨_,a2,a4,J⟩:=K.at_;have F:=XS (l:=l) (i:=0) (k:=k) (by omega);have G:=J.sub 0 k c (Nat.zero_le _) (by omega) (by omega);rw[List.drop_zero,Nat.sub_zero]at G F;exact⟨_,_,by rw[F],by omega,by omega,G⟩
theorem zc6 (A:Option Addr) (c L i:Nat) (N:i<=L) (a4:L<=c):∃A' I,(∀w,zct (.slice A L c) (.int .i64 (i:Int)) w=.ok (.value (.slice A' (L - i) I)) w)/\∀w l,l.length=L->zP w (.slice A L c) l->zP w (.slice A' (L - i) I) (l.drop i):=by
 refine⟨if c=i then A else A.map (·.add i),c - i,fun w=>?_,fun w l hl M=>?_⟩
 ·obtain⟨a2,K,a1,O,a0⟩:=info_parts vV;unfold zct execOp;simp[Instr.sliceAt,Instr.slice,run_underlying zG,Instr.sliceBounds,Instr.sliceBound,asIntOf,sizeOf,typeInfo,K,O,N,Sem.run_bind]
 ·obtain⟨_,a3,a5,J⟩:=M.at_;have F:=XS (l:=l) (i:=i) (k:=l.length) (by omega);have G:=J.sub i l.length c (by omega) (by omega) (by omega);have e:(l.drop i).take (l.length - i)=l.drop i:=List.take_of_length_le (by rw[List.length_drop];omega);rw[e]at G F;exact⟨_,_,by rw[F,hl],by omega,by omega,G⟩
theorem QF (w:World) (C:Array Value) (T:TypeId) (i:Nat) (v:Value) (h:C[i]?=some v):(w.alloc (.cells C T)).cell? ⟨w.heap.size,i,none⟩=some v:=by
 rw[cell_of_row _ _ _ _ _ (0,0) (Xh w _)];exact h
theorem JD (w:World) (C:Array Value) (T:TypeId) (i:Nat) (v:Value) (h:C[i]?=some v):(w.alloc (.cells C T)).drew.cell? ⟨w.heap.size,i,none⟩=some v:=QF w C T i v h
def z2 (h:List UInt8):Array Value:=(z4 h).toArray
def zi:List UInt8:=List.replicate 32 0
theorem zw:zi.length=32:=by simp[zi]
theorem zH (h:List UInt8):(z2 h).size=h.length:=by simp[z2,z4]
theorem jM (h:List UInt8):(z2 h).toList=z4 h:=by simp[z2]
theorem ZF (h:List UInt8):(z2 h).all (·.oneCell')=true:=all_oneCell_toArray (yb h)
theorem z7x:(prog.info? 38).bind (·.zero)=some (.agg (z2 zi)):=by kernel_rfl
theorem yG:(prog.info? 38).map (·.size)=some 32:=by kernel_rfl
theorem yH:prog.underlying 38=some (.array 32 5):=by kernel_rfl
theorem z1f (w:World):(zeroValue 38).run prog w=.ok (.agg (z2 zi)) w:=by
 have h:=z7x;cases hq:prog.info? 38 with
 |none=>rw[hq]at h;cases h
 |some i=>
  rw[hq]at h;have F:i.zero=some (.agg (z2 zi)):=h;simp[zeroValue,typeInfo,hq,F]
theorem yf {ops:Array Oper}{rest:List Oper}{o:Oper}{a:Act}{w:World}{Q:Exit->Act->World->Prop} (I:o.guard=none) (F:o.op=.alloc 38)
  (h:wpList prog ops Q rest (a.put o.dst (.pointer (some ⟨w.heap.size,0,none⟩))) (w.alloc (.cells (z2 zi) 38))):wpList prog ops Q (o :: rest) a w:=
 wpList_plain I fun _ G=>by
  unfold Oper.wp execOp;simp only[F,Sem.run_bind,Instr.alloc,z1f,newVar,newRow,run_newObj_alloc,Sem.run_pure,Result.andThen_ok,Value.cells];exact G _ _ h
theorem xI {ops:Array Oper}{rest:List Oper}{o:Oper}{a:Act}{w:World}{Q:Exit->Act->World->Prop} (I:o.guard=none) (x:Operand) (G:o.op=.load 38 x)
  {g:Nat} {t:TypeId} {h:List UInt8} (hx:a.eval x=.pointer (some ⟨g,0,none⟩)) (hg:w.heap[g]?=some (.cells (z2 h) t (0,0))) (hl:h.length=32)
  (F:wpList prog ops Q rest (a.put o.dst (.agg (z2 h))) w):wpList prog ops Q (o :: rest) a w:=
 wpList_load_row I _ x G g hx t (z2 h) (0,0) _ hg yH rfl (by rw[yG,zH,hl]) F
theorem yg {ops:Array Oper}{rest:List Oper}{o:Oper}{a:Act}{w:World}{Q:Exit->Act->World->Prop} (I:o.guard=none) (x y:Operand) (G:o.op=.store 38 x y)
  {g:Nat} {t:TypeId} {h h':List UInt8} (hx:a.eval x=.pointer (some ⟨g,0,none⟩)) (J:a.eval y=.agg (z2 h')) (hg:w.heap[g]?=some (.cells (z2 h) t (0,0))) (hl:h.length=32) (F:h'.length=32)
  (M:∀w',w.grownBy w' (some g)->Hd (w'.heap[g]?=some (.cells (z2 h') t (0,0)))->w'.heap.size=w.heap.size->wpList prog ops Q rest (a.put o.dst undef) w'):wpList prog ops Q (o :: rest) a w:=
 wpList_store_row I _ x y G g (z2 h') hx J t (z2 h) hg (by rw[yG,zH,F]) (by rw[zH,zH,hl,F]) (ZF _)
  (M _ ⟨rfl,rfl,rfl,by simp,fun k _ K=>setRow_other w g k _ (fun e=>K (by simp[e]))⟩ (setRow_heap w g _ _ t _ hg) (by simp))
theorem YA {ops:Array Oper}{rest:List Oper}{o:Oper}{a:Act}{w:World}{Q:Exit->Act->World->Prop} (J:o.guard=none) (d s:Operand)
  (I:o.op=.call { callee:=.builtin .copy,args:=#[d,s],argTypes:=#[33,33] })
  {dp:Option Addr} {dLen dCap:Nat} {v:Value} {m:List UInt8} (M:a.eval d=.slice dp dLen dCap) (K:a.eval s=v) (a1:zP w v m)
  {g F:Nat} {cur:List UInt8} {t:TypeId} (hg:w.heap[g]?=some (.cells (z2 cur) t (0,0))) {k:Nat} (O:k=Nat.min m.length dLen)
  (a5:0<k->dp=some ⟨g,F,none⟩) (a0:F+k<=cur.length)
  (h:∀w',w.grownBy w' (some g)->Hd (w'.heap[g]?=some (.cells (z2 (splice cur F (m.take k))) t (0,0)))->w'.heap.size=w.heap.size->wpList prog ops Q rest (a.put o.dst (goInt k)) w'):
  wpList prog ops Q (o :: rest) a w:=by
 obtain⟨A,c,rfl,ad,ae,a4⟩:=a1;have N:(prog.info? 5).map (·.size)=some 1:=by kernel_rfl
 have af:k<=m.length:=by rw[O];exact Nat.min_le_left _ _
 by_cases a7:k=0
 ·subst a7;refine wpList_copy_nothing J d s _ _ I 5 zG N dp A dLen dCap m.length c M K (by omega) ?_;refine h w (World.grownBy.refl _ _) ?_ rfl;have e:splice cur F (m.take 0)=cur:=by simp[splice]
  rw[e];exact z0 hg
 ·obtain rfl:=a5 (by omega);obtain⟨b,a6,rfl,ab,a3⟩:=a4 (by omega);have G:(z4 (m.take k)).length=k:=by simp[z4];omega
  have a8:(z2 cur).toList.take F ++ (z4 (m.take k) ++ (z2 cur).toList.drop (F+(z4 (m.take k)).length))=z4 (splice cur F (m.take k)):=by
   rw[G,jM];have:(m.take k).length=k:=by simp;omega
   simp[splice,z4,List.map_take,List.map_drop,this]
  refine wpList_copy_own J d s _ _ I 5 zG N g F dLen dCap ⟨b,a6,none⟩ m.length c M K (z2 cur) t hg (z4 (m.take k)) (by rw[G,O]) ?_ (by rw[G,zH];exact a0) (yb _) ?_
  ·intro j u a2;obtain⟨a9,rfl⟩:=xG _ j u a2;rw[y9];have aa:j<m.length:=by simp at a9;omega
   rw[a3 j aa,List.getElem_take]
  ·rw[a8,G];exact h _ ⟨rfl,rfl,rfl,by simp,fun q _ hq=>setRow_other w g q _ (fun e=>hq (by simp[e]))⟩ (setRow_heap w g _ _ t _ hg) (by simp)
theorem ZG (h:List UInt8) (i:Nat) (F:i<h.length):(z2 h)[i]?=some (z3 h[i]):=by simp[z2,z4,F]
theorem JE (d:Nat) (a b:List UInt8) (w:World):∀F:List Nat,(∀i∈F,i<a.length/\i<b.length)->
  (Op.eqItems (d+1) 5 (prog.cellsOf 5) (z2 a) (z2 b) F).run prog w=.ok (F.all fun i=>decide (a[i]?=b[i]?)) w:=by
 have M:prog.cellsOf 5=1:=by kernel_rfl
 have hp:prog.plainKey 5=true:=by kernel_rfl
 have K:prog.underlying 5=some (.int .u8):=by kernel_rfl
 rw[M];intro F
 induction F with
 |nil=>intro _;simp[Op.eqItems]
 |cons i F ih=>
  intro h;obtain⟨I,G⟩:=h i (by simp);have a0:=ih (fun j G=>h j (List.mem_cons_of_mem _ G));have pa:=run_part_plain (P:=prog) w hp (ZG a i I);have J:=run_part_plain (P:=prog) w hp (ZG b i G);have O:=run_equalIn_int (P:=prog) w d 5 .u8 .u8 (a[i].toNat:Int) (b[i].toNat:Int) K;unfold z3 at pa J;simp only[Op.eqItems,Sem.run_bind,Nat.mul_one,pa,J,O,Result.andThen_ok];by_cases e:a[i]=b[i]
  ·simp[a0,I,G,e]
  ·have N:((a[i].toNat:Int) == (b[i].toNat:Int))=false:=by
    rw[beq_eq_false_iff_ne];intro h;exact e (UInt8.toNat_inj.1 (by omega))
   simp[N,I,G,e]
theorem xX (a b:List UInt8) (ha:a.length=32) (J:b.length=32) (w:World):(Op.equalIn 10000 38 (.agg (z2 a)) (.agg (z2 b))).run prog w=.ok (decide (a=b)) w:=by
 obtain⟨I,G,_⟩:=info_parts vV;rw[run_equalIn_array w 9999 (z2 a) (z2 b) yH G,JE 9998 a b w _ (fun i h=>by have:=List.mem_range.1 h;omega)]
 congr 1
 rw[Bool.eq_iff_iff];simp only[List.all_eq_true,List.mem_range,decide_eq_true_eq];constructor
 ·intro h;apply List.ext_getElem?;intro i;by_cases F:i<32
  ·exact h i F
  ·rw[List.getElem?_eq_none (by omega),List.getElem?_eq_none (by omega)]
 ·rintro rfl i _;rfl
theorem z97 {B n:Nat}{w:World}{A:Option Addr}{l:List UInt8} (h:ql B w (.slice A n n) l) (M:0<n):∃g,A=some ⟨g,0,none⟩/\B<=g/\w.heap[g]?=some (.cells (z2 l) 5 (0,0)):=by
 rcases h.2 with ⟨e,_⟩|⟨g,xz,cur,e,hg,I,K,_,F,J⟩
 ·injection e with _ e;omega
 ·injection e with G N O;refine⟨g,G,hg,?_⟩;rw[I];have hl:cur.toList=z4 l:=by
   rw[<-J,List.take_of_length_le];rw[Array.length_toList,F];omega
  have:cur=z2 l:=by
   apply Array.ext';rw[hl,jM]
  rw[this]
theorem xJ {B g n:Nat}{w:World}{l:List UInt8} (hg:w.heap[g]?=some (.cells (z2 l) 5 (0,0))) (G:B<=g) (I:n=l.length) (F:n<=maxLen):ql B w (.slice (some ⟨g,0,none⟩) n n) l:=by
 subst I;refine⟨by simp[z4],.inr ⟨g,l.length,z2 l,rfl,G,hg,Nat.le_refl _,F,by rw[zH,Nat.mul_one],?_⟩⟩;rw[jM,Nat.mul_one,List.take_of_length_le (by simp[z4])]
theorem z5n {g n:Nat}{w:World}{l:List UInt8}{t:TypeId} (hg:w.heap[g]?=some (.cells (z2 l) t (0,0))) (I:n=l.length) (G:n<=maxLen):zP w (.slice (some ⟨g,0,none⟩) n n) l:=by
 subst I;refine⟨_,_,rfl,Nat.le_refl _,G,fun _=>⟨g,0,rfl,Lb hg,fun j F=>?_⟩⟩;rw[Nat.zero_add,cell_of_row w g j _ t (0,0) hg,ZG l j F]
theorem KR (Z l:List UInt8):splice Z 0 l=l ++ Z.drop l.length:=by simp[splice]
theorem XT (Z l m:List UInt8) (h:Z.length=l.length+m.length):splice (splice Z 0 l) l.length m=l ++ m:=by
 have e:(Z.drop l.length).drop m.length=[]:=by rw[List.drop_drop];exact List.drop_eq_nil_of_le (by omega)
 rw[KR Z l];simp only[splice,List.take_left',List.drop_append];rw[List.drop_eq_nil_of_le (by omega),List.nil_append,show l.length+m.length - l.length=m.length from by omega,e,List.append_nil]
theorem z2x {w:World}{dp:Option Addr}{dLen dCap:Nat}{v:Value}{m:List UInt8} (ty:TypeId) (M:zP w v m)
  {g F:Nat} {cur:List UInt8} {t:TypeId} (hg:w.heap[g]?=some (.cells (z2 cur) t (0,0))) {k:Nat} (I:k=Nat.min m.length dLen) (a9:0<k)
  (a1:dp=some ⟨g,F,none⟩) (K:F+k<=cur.length):
  ∃w',(Builtin.copy_ #[33,33] ty #[.slice dp dLen dCap,v]).run prog w=.ok (.int .i64 (k:Int)) w'/\w.grownBy w' (some g)/\w'.heap[g]?=some (.cells (z2 (splice cur F (m.take k))) t (0,0))/\w'.heap.size=w.heap.size:=by
 obtain⟨A,c,rfl,a8,aa,a0⟩:=M;have a4:(prog.info? 5).map (·.size)=some 1:=by kernel_rfl
 have ab:k<=m.length:=by rw[I];exact Nat.min_le_left _ _
 subst a1;obtain⟨b,a3,rfl,a7,O⟩:=a0 (by omega);have G:(z4 (m.take k)).length=k:=by simp[z4];omega
 have a5:(z2 cur).toList.take F ++ z4 (m.take k) ++ (z2 cur).toList.drop (F+(z4 (m.take k)).length)=z4 (splice cur F (m.take k)):=by
  rw[G,jM];have:(m.take k).length=k:=by simp;omega
  simp[splice,z4,List.map_take,List.map_drop,this]
 have J:=run_copy_row (P:=prog) w 33 33 ty 5 g F dLen dCap ⟨b,a3,none⟩ m.length c (z2 cur) t (z4 (m.take k)) zG a4 hg (by rw[G,I]) (fun j u N=>by
  obtain⟨a6,rfl⟩:=xG _ j u N;rw[y9];have a2:j<m.length:=by simp at a6;omega
  rw[O j a2,List.getElem_take]) (by rw[G,zH];exact K) (yb _)
 rw[a5,G]at J;exact⟨_,J,⟨rfl,rfl,rfl,by simp,fun q _ hq=>setRow_other w g q _ (fun e=>hq (by simp[e]))⟩,setRow_heap w g _ _ t _ hg,by simp⟩
theorem z7y (k:Nat):∀(n:Int) (w:World),0<=n->n<18446744073709551616->n.toNat<=k->
  Calls prog 142 #[.int .u64 n] w fun e w'=>∃v,e=.returned v/\ql w.heap.size w' v (dg n.toNat)/\Below w.heap.size w w':=by
 induction k with
 |zero=>
  intro n w a5 a4 a7;obtain rfl:n=0:=by omega
  go_enter func142,ntmps142;go_wp2;go_ret;rw[show(0:Int).toNat=0 from rfl,yx (by omega)];exact⟨_,rfl,xJ (Xh w _) (Nat.le_refl _) rfl (by unfold maxLen;omega),Ba⟩
 |succ k ih=>
  intro n w a5 a4 a7;by_cases aa:n<128
  ·have hq:n=((UInt8.ofNat n.toNat).toNat:Int):=by rw[UInt8.toNat_ofNat'];omega
   have G:=z0 hq;clear hq;go_enter func142,ntmps142;go_wp2;go_ret;rw[yx (by omega)];have F:(w.alloc (.cells #[.int .u8 n] 5)).heap[w.heap.size]?=some (.cells (z2 [UInt8.ofNat n.toNat]) 5 (0,0)):=by
    rw[Xh];simp only[z2,z4,z3,List.map_cons,List.map_nil];rw[<-G.o]
   exact⟨_,rfl,xJ F (Nat.le_refl _) rfl (by unfold maxLen;omega),Ba⟩
  ·have hq:128+n % 128=((UInt8.ofNat (128+n.toNat % 128)).toNat:Int):=by rw[UInt8.toNat_ofNat'];omega
   have a1:=zk (n:=n.toNat) (by omega);have K:dg n.toNat=UInt8.ofNat (128+n.toNat % 128) :: dg (n / 128).toNat:=by
    rw[Y5 (by omega)]
    congr 2
    omega
   have G:=z0 hq;have a6:=z0 K;have ab:(dg (n / 128).toNat).length<=10:=zk (by omega);clear hq K a1;have a0:=z0 ih;clear ih;go_enter func142,ntmps142;go_wp2_with fail;refine(a0.o (n / 128) _ (by omega) (by omega) (by omega)).mono ?_;rintro e J ⟨v1,rfl,a8,N⟩;have F:(w.alloc (.cells #[.int .u8 (128+n % 128)] 5)).heap[w.heap.size]?=some (.cells (z2 [UInt8.ofNat (128+n.toNat % 128)]) 5 (0,0)):=by
    rw[Xh];simp only[z2,z4,z3,List.map_cons,List.map_nil];rw[<-G.o]
   have I:ql w.heap.size J (.slice (some ⟨w.heap.size,0,none⟩) 1 1) [UInt8.ofNat (128+n.toNat % 128)]:=(xJ (n:=1) F (Nat.le_refl _) rfl (by unfold maxLen;omega)).below N;have O:Below w.heap.size w J:=Ba.trans (N.mono (by simp));have M:=O.size;clear F;go_wp2_with (at_builtin;refine z9 rfl (.tmp 12) (.tmp 15) rfl rfl rfl I a8.byt (by rw[List.length_singleton];omega) M ?_;intro a9 ad a3 a2 _);go_ret;rw[a6.o];exact⟨_,rfl,a3,O.grown a2 M (fun q hq=>(World.ownsRow.lt I q hq).1)⟩
theorem yc (n:Int) (w:World) (G:0<=n) (F:n<18446744073709551616):
  Calls prog 142 #[.int .u64 n] w fun e w'=>∃v,e=.returned v/\ql w.heap.size w' v (dg n.toNat)/\Below w.heap.size w w':=z7y n.toNat n w G F (Nat.le_refl _)
theorem YN (v:Value) (t:List UInt8) (w:World) (I:zP w v t) (a4:t.length<=1099511627776):
  Calls prog 215 #[v] w fun e w'=>∃x,e=.returned x/\ql w.heap.size w' x (tx t)/\Below w.heap.size w w':=by
 obtain⟨A,c,rfl⟩:=I.shape;have a1:=zk (n:=t.length) (by omega);go_enter func215,ntmps215;go_wp2_with fail;refine(yc (t.length:Int) w (by omega) (by omega)).mono ?_;rintro e a0 ⟨v1,rfl,F,G⟩;rw[Int.toNat_natCast]at F;have J:=G.size;have O:=I.below G;go_wp2_with (at_builtin;refine z9 rfl (.tmp 6) (.tmp 7) rfl rfl rfl F O (by omega) J ?_;intro a2 a3 M K _);go_ret;exact⟨_,rfl,M,G.grown K J (fun k N=>(World.ownsRow.lt F k N).1)⟩
theorem XU (u v:Value) (l m:List UInt8) (w:World) (a6:zP w u l) (a5:zP w v m):
  Calls prog 47 #[u,v] w fun e w'=>e=.returned (.bool (decide (l=m)))/\∃n,w'=w.drewN n:=by
 obtain⟨A,c,rfl⟩:=a6.shape;obtain⟨B,d,rfl⟩:=a5.shape;obtain⟨_,aa,ah,ai⟩:=a6.at_;obtain⟨_,ad,ae,ab⟩:=a5.at_;unfold maxLen at ah ae;obtain⟨L,F⟩:∃L:Nat,Hd (l.length=L):=⟨_,rfl⟩
 obtain⟨K,G⟩:∃K:Nat,Hd (m.length=K):=⟨_,rfl⟩
 rw[F.o]at aa⊢;rw[G.o]at ad⊢;by_cases a3:L=K
 ·subst a3;have aj:((L:Int) != (L:Int))=false:=by simp
  by_cases al:L=0
  ·subst al;have e:decide (l=m)=true:=by
    have ag:l=[]:=List.eq_nil_of_length_eq_zero F.o;have I:m=[]:=List.eq_nil_of_length_eq_zero G.o;simp[ag,I]
   rw[e];clear e;go_enter func47,ntmps47;go_wp2;refine wp_loop_rounds 1 ?_;rw[rounds_succ];go_wp2;go_ret;exact⟨rfl,0,rfl⟩
  ·obtain⟨b,am,rfl,aq,a4⟩:=ai (by have:=F.o;omega);obtain⟨b2,ak,rfl,aA,a8⟩:=ab (by have:=G.o;omega);obtain⟨J,M⟩:∃J:Bool,Hd (decide (l=m)=J):=⟨_,rfl⟩
   rw[M.o];go_enter func47,ntmps47;go_wp2;go_loopw [5] (fun N wr=>∃i:Nat,i<=L/\N=.int .i64 i/\Hd (∀j (h:j<l.length) (I:j<m.length),j<i->l[j]=m[j])/\∃n,wr=w.drewN n) (fun N _=>L - (intOf N).toNat)
   case atStart=>exact⟨0,Nat.zero_le _,rfl,z0 (fun j _ _ h=>absurd h (by omega)),0,rfl⟩
   case round=>
    obtain⟨i,av,rfl,a9,n,rfl⟩:=hrel;by_cases a7:i<L
    ·have af:i<l.length:=by rw[F.o];exact a7
     have an:i<m.length:=by rw[G.o];exact a7
     have c1:w.cell? ⟨b,am+i,none⟩=some (z3 l[i]):=a4 i af;have a2:w.cell? ⟨b2,ak+i,none⟩=some (z3 m[i]):=a8 i an;obtain⟨x,ar,ay,a0⟩:∃x:Int,0<=x/\x<=255/\Hd ((l[i].toNat:Int)=x):=⟨_,(yW l[i]).1,(yW l[i]).2,rfl⟩
     obtain⟨y,au,ax,a1⟩:∃y:Int,0<=y/\y<=255/\Hd ((m[i].toNat:Int)=y):=⟨_,(yW m[i]).1,(yW m[i]).2,rfl⟩
     unfold z3 at c1 a2;rw[a0.o]at c1;rw[a1.o]at a2;have aw:(i:Int)<(L:Int):=by omega
     clear a4 a8;by_cases O:x=y
     ·subst O;have ao:(x != x)=false:=by simp
      go_wp2_with fail;go_quiet (fail);go_wp2;go_roundw
      case rel=>
       refine⟨i+1,by omega,by go_num,z0 (fun j h I az=>?_),_,rfl⟩;by_cases ap:j<i
       ·exact a9.o j h I ap
       ·obtain rfl:j=i:=by omega
        exact UInt8.toNat_inj.1 (by have:=a0.o;have:=a1.o;omega)
      case measure=>simp[intOf];omega
     ·have ao:(x != y)=true:=by simpa using O
      go_wp2_with fail;go_quiet (fail);go_wp2;go_ret;have e:J=false:=by
       rw[<-M.o];refine decide_eq_false fun e=>O ?_;subst e;rw[<-a0.o,<-a1.o]
      subst e;exact⟨rfl,_,World.drewN_drewN _ _ _⟩
    ·obtain rfl:i=L:=by omega
     go_wp2;go_ret;have e:J=true:=by
      rw[<-M.o];refine decide_eq_true (List.ext_getElem (by rw[F.o,G.o]) fun j h I=>a9.o j h I (by have:=F.o;omega))
     subst e;exact⟨rfl,n,rfl⟩
 ·have aj:((L:Int) != (K:Int))=true:=by simp;omega
  have e:decide (l=m)=false:=decide_eq_false fun e=>a3 (by rw[<-F.o,<-G.o,e]);rw[e];clear e;go_enter func47,ntmps47;go_wp2;go_ret;exact⟨rfl,0,rfl⟩
theorem XV (u v:Value) (l:List UInt8) (w:World) (G:zP w u l) (F:zP w v l):
  Calls prog 47 #[u,v] w fun e w'=>e=.returned (.bool true)/\∃n,w'=w.drewN n:=by
 have h:=XU u v l l w G F;rw[decide_eq_true rfl]at h;exact h
theorem z3J {P:Program}{I:Region.Mode}{l:List Oper}{Q:Exit->Act->World->Prop}{S:World->Prop}{i:Nat}{G:Oper}{fuel:Nat}{F:Array Bool}{a:Act}{w:World} (a0:l[i]?=some G)
  (K:Region.noSelect l.toArray=true) (O:Region.free I l.toArray F i=true) (N:(Region.ready I l.toArray F).contains i=true) (a1:∀c a w,Q (.panic c) (a.put G.dst undef) w->Q (.panic c) a w)
  (J:Region.wanted G (yielded l.toArray a.tmps)=false) (M:S w) (h:wpAnyH P I l.toArray Q S fuel (F.setIfInBounds i true) (a.put G.dst undef) w):wpAnyH P I l.toArray Q S (fuel+1) F a w:=
 wpAnyH_take (by simpa using a0) K O N a1 (Or.inr ⟨J,rfl⟩) M h
theorem kw {P:Program}{I:Region.Mode}{l:List Oper}{Q:Exit->Act->World->Prop}{S:World->Prop}{i:Nat}{F:Oper}{v:Value}{fuel:Nat}{G:Array Bool}{a:Act}{w:World} (a1:l[i]?=some F)
  (K:Region.noSelect l.toArray=true) (a0:Region.free I l.toArray G i=true) (O:(Region.ready I l.toArray G).contains i=true) (a2:∀c a w,Q (.panic c) (a.put F.dst v) w->Q (.panic c) a w)
  (J:Region.wanted F (yielded l.toArray a.tmps)=true) (M:∀w,S w->(execOp a.eval F).run P w=.ok (.value v) w) (N:S w) (h:wpAnyH P I l.toArray Q S fuel (G.setIfInBounds i true) (a.put F.dst v) w):wpAnyH P I l.toArray Q S (fuel+1) G a w:=
 wpAnyH_take (by simpa using a1) K a0 O a2 (Or.inl ⟨J,M⟩) N h
theorem zaO {P:Program}{G:Region.Mode}{l:List Oper}{Q:Exit->Act->World->Prop}{S:World->Prop}{i:Nat}{I:Oper}{fuel:Nat}{F:Array Bool}{a:Act}{w:World} (O:l[i]?=some I)
  (a0:Region.ready G l.toArray F=[i]) (K:Region.wanted I (yielded l.toArray a.tmps)=true)
  (h:∀J:Act->World->Prop,Shut (∀a w,S w->(S w->wpAnyH P G l.toArray Q S fuel (F.setIfInBounds i true) a w)->J a w)->Oper.wp P I a w J Q):wpAnyH P G l.toArray Q S (fuel+1) F a w:=
 wpAnyH_ready a0 (by simp) (AllReadyH.cons (by simpa using O) (fun M N=>by rw[if_pos K];exact h M N) AllReadyH.nil)
theorem tk {P:Program}{I:Region.Mode}{l:List Oper}{Q:Exit->Act->World->Prop}{S:World->Prop}{i:Nat}{F:Oper}{v:Value}{fuel:Nat}{G:Array Bool}{a:Act}{w:World} (a1:l[i]?=some F)
  (M:∀w,S w->(execOp a.eval F).run P w=.ok (.value v) w) (h:wpAnyH P I l.toArray Q S fuel (G.setIfInBounds i true) (a.put F.dst v) w) (N:S w:=by assumption)
  (K:Region.noSelect l.toArray=true:=by kernel_rfl) (a0:Region.free I l.toArray G i=true:=by kernel_rfl) (O:(Region.ready I l.toArray G).contains i=true:=by kernel_rfl) (a2:∀c a w,Q (.panic c) (a.put F.dst v) w->Q (.panic c) a w:=by exact fun _ _ _ h=>h)
  (J:Region.wanted F (yielded l.toArray a.tmps)=true:=by rfl):wpAnyH P I l.toArray Q S (fuel+1) G a w:=kw a1 K a0 O a2 J M N h
theorem tf {P:Program}{I:Region.Mode}{l:List Oper}{Q:Exit->Act->World->Prop}{S:World->Prop}{i:Nat}{G:Oper}{fuel:Nat}{F:Array Bool}{a:Act}{w:World} (a0:l[i]?=some G)
  (h:wpAnyH P I l.toArray Q S fuel (F.setIfInBounds i true) (a.put G.dst undef) w) (M:S w:=by assumption)
  (K:Region.noSelect l.toArray=true:=by kernel_rfl) (O:Region.free I l.toArray F i=true:=by kernel_rfl) (N:(Region.ready I l.toArray F).contains i=true:=by kernel_rfl) (a1:∀c a w,Q (.panic c) (a.put G.dst undef) w->Q (.panic c) a w:=by exact fun _ _ _ h=>h)
  (J:Region.wanted G (yielded l.toArray a.tmps)=false:=by rfl):wpAnyH P I l.toArray Q S (fuel+1) F a w:=z3J a0 K O N a1 J M h
theorem tkq {P:Program}{I:Region.Mode}{l:List Oper}{Q:Exit->Act->World->Prop}{S:World->Prop} (i:Nat) {F:Oper}{v:Value}{fuel:Nat}{G:Array Bool}{a:Act}{w:World} (a2:l[i]?=some F)
  (h:wpAnyH P I l.toArray Q S fuel (G.setIfInBounds i true) (a.put F.dst v) w) (N:∀w,S w->(execOp a.eval F).run P w=.ok (.value v) w:=by(intro W M;(try dsimp only at M);go_simp;first|done|with_reducible rfl)) (O:S w:=by assumption)
  (K:Region.noSelect l.toArray=true:=by kernel_rfl) (a1:Region.free I l.toArray G i=true:=by kernel_rfl) (a0:(Region.ready I l.toArray G).contains i=true:=by kernel_rfl) (a3:∀c a w,Q (.panic c) (a.put F.dst v) w->Q (.panic c) a w:=by exact fun _ _ _ h=>h)
  (J:Region.wanted F (yielded l.toArray a.tmps)=true:=by rfl):wpAnyH P I l.toArray Q S (fuel+1) G a w:=kw a2 K a1 a0 a3 J N O h
theorem zdP {P:Program}{I:Region.Mode}{l:List Oper}{Q:Exit->Act->World->Prop}{S:World->Prop} (i:Nat) {F:Oper}{v:Value}{fuel:Nat}{G:Array Bool}{a:Act}{w:World} (a2:l[i]?=some F)
  (h:wpAnyH P I l.toArray Q S fuel (G.setIfInBounds i true) (a.put F.dst v) w) (N:∀w,S w->(execOp a.eval F).run P w=.ok (.value v) w:=by(intro W J;(try dsimp only at J);obtain⟨a4,a5⟩:=J;go_simp;first|done|with_reducible rfl)) (O:S w:=by assumption)
  (M:Region.noSelect l.toArray=true:=by kernel_rfl) (a1:Region.free I l.toArray G i=true:=by kernel_rfl) (a0:(Region.ready I l.toArray G).contains i=true:=by kernel_rfl) (a3:∀c a w,Q (.panic c) (a.put F.dst v) w->Q (.panic c) a w:=by exact fun _ _ _ h=>h)
  (K:Region.wanted F (yielded l.toArray a.tmps)=true:=by rfl):wpAnyH P I l.toArray Q S (fuel+1) G a w:=kw a2 M a1 a0 a3 K N O h
theorem zdQ {P:Program}{I:Region.Mode}{l:List Oper}{Q:Exit->Act->World->Prop}{S:World->Prop} (i:Nat) {F:Oper}{v:Value}{fuel:Nat}{G:Array Bool}{a:Act}{w:World} (a2:l[i]?=some F)
  (h:wpAnyH P I l.toArray Q S fuel (G.setIfInBounds i true) (a.put F.dst v) w) (N:∀w,S w->(execOp a.eval F).run P w=.ok (.value v) w:=by(intro W J;(try dsimp only at J);obtain⟨a4,a6,a5⟩:=J;go_simp;first|done|with_reducible rfl)) (O:S w:=by assumption)
  (M:Region.noSelect l.toArray=true:=by kernel_rfl) (a1:Region.free I l.toArray G i=true:=by kernel_rfl) (a0:(Region.ready I l.toArray G).contains i=true:=by kernel_rfl) (a3:∀c a w,Q (.panic c) (a.put F.dst v) w->Q (.panic c) a w:=by exact fun _ _ _ h=>h)
  (K:Region.wanted F (yielded l.toArray a.tmps)=true:=by rfl):wpAnyH P I l.toArray Q S (fuel+1) G a w:=kw a2 M a1 a0 a3 K N O h
theorem zdR {P:Program}{I:Region.Mode}{l:List Oper}{Q:Exit->Act->World->Prop}{S:World->Prop} (i:Nat) {F:Oper}{v:Value}{fuel:Nat}{G:Array Bool}{a:Act}{w:World} (a2:l[i]?=some F)
  (h:wpAnyH P I l.toArray Q S fuel (G.setIfInBounds i true) (a.put F.dst v) w) (N:∀w,S w->(execOp a.eval F).run P w=.ok (.value v) w:=by(intro W J;(try dsimp only at J);obtain⟨a4,a7,a6,a5⟩:=J;go_simp;first|done|with_reducible rfl)) (O:S w:=by assumption)
  (M:Region.noSelect l.toArray=true:=by kernel_rfl) (a1:Region.free I l.toArray G i=true:=by kernel_rfl) (a0:(Region.ready I l.toArray G).contains i=true:=by kernel_rfl) (a3:∀c a w,Q (.panic c) (a.put F.dst v) w->Q (.panic c) a w:=by exact fun _ _ _ h=>h)
  (K:Region.wanted F (yielded l.toArray a.tmps)=true:=by rfl):wpAnyH P I l.toArray Q S (fuel+1) G a w:=kw a2 M a1 a0 a3 K N O h
theorem zx:(∀(a:Act) (v:Value),a.put none v=a)/\(∀(a:Act) (t:Tmp) (v:Value),a.put (some t) v={ a with tmps:=a.tmps.setIfInBounds t v })/\(∀(l:List Value) (i:Nat) (v:Value),l.toArray.setIfInBounds i v=(l.set i v).toArray)/\(∀(l:List Bool) (i:Nat) (v:Bool),l.toArray.setIfInBounds i v=(l.set i v).toArray)
  /\ (∀(a b:Value) (l:List Value),(a :: l).set 0 b=b :: l)/\(∀(a b:Bool) (l:List Bool),(a :: l).set 0 b=b :: l)/\(∀(a b:Value) (l:List Value) (i:Nat),(a :: l).set (i+1) b=a :: l.set i b)/\(∀(a b:Bool) (l:List Bool) (i:Nat),(a :: l).set (i+1) b=a :: l.set i b):=
 ⟨fun _ _=>rfl,fun _ _ _=>rfl,fun _ _ _=>List.setIfInBounds_toArray ..,fun _ _ _=>List.setIfInBounds_toArray ..,fun _ _ _=>rfl,fun _ _ _=>rfl,fun _ _ _ _=>rfl,fun _ _ _ _=>rfl⟩
theorem z5 {P:Program}{I:Region.Mode}{l:List Oper}{Q:Exit->Act->World->Prop}{S:World->Prop} (i:Nat) {F:Oper}{v:Value}{fuel:Nat}{G J:Array Bool}{a K:Act}{w:World} (a4:l[i]?=some F:=by rfl)
 (a0:∀w,S w->(execOp a.eval F).run P w=.ok (.value v) w:=by(intro W O;(try dsimp only at O);go_simp;first|done|with_reducible rfl)) (a1:S w:=by assumption)
 (N:Region.noSelect l.toArray=true:=by kernel_rfl) (a3:Region.free I l.toArray G i=true:=by kernel_rfl) (a2:(Region.ready I l.toArray G).contains i=true:=by kernel_rfl) (a5:∀c a w,Q (.panic c) (a.put F.dst v) w->Q (.panic c) a w:=by exact fun _ _ _ h=>h)
 (M:Region.wanted F (yielded l.toArray a.tmps)=true:=by rfl) (hl:G.setIfInBounds i true=J:=by((try simp only[zx]);rfl)) (ha:a.put F.dst v=K:=by((try simp only[zx]);rfl)) (h:wpAnyH P I l.toArray Q S fuel J K w):wpAnyH P I l.toArray Q S (fuel+1) G a w:=kw a4 N a3 a2 a5 M a0 a1 (by rw[hl,ha];exact h)
theorem tq1 {P:Program}{I:Region.Mode}{l:List Oper}{Q:Exit->Act->World->Prop}{S:World->Prop} (i:Nat) {F:Oper}{v:Value}{fuel:Nat}{G J:Array Bool}{a M:Act}{w:World} (a4:l[i]?=some F:=by rfl)
 (a0:∀w,S w->(execOp a.eval F).run P w=.ok (.value v) w:=by(intro W K;(try dsimp only at K);obtain⟨a6⟩:=K;go_simp;first|done|with_reducible rfl)) (a1:S w:=by assumption)
 (O:Region.noSelect l.toArray=true:=by kernel_rfl) (a3:Region.free I l.toArray G i=true:=by kernel_rfl) (a2:(Region.ready I l.toArray G).contains i=true:=by kernel_rfl) (a5:∀c a w,Q (.panic c) (a.put F.dst v) w->Q (.panic c) a w:=by exact fun _ _ _ h=>h)
 (N:Region.wanted F (yielded l.toArray a.tmps)=true:=by rfl) (hl:G.setIfInBounds i true=J:=by((try simp only[zx]);rfl)) (ha:a.put F.dst v=M:=by((try simp only[zx]);rfl)) (h:wpAnyH P I l.toArray Q S fuel J M w):wpAnyH P I l.toArray Q S (fuel+1) G a w:=kw a4 O a3 a2 a5 N a0 a1 (by rw[hl,ha];exact h)
theorem vX {P:Program}{I:Region.Mode}{l:List Oper}{Q:Exit->Act->World->Prop}{S:World->Prop} (i:Nat) {F:Oper}{v:Value}{fuel:Nat}{G J:Array Bool}{a M:Act}{w:World} (a4:l[i]?=some F:=by rfl)
 (a0:∀w,S w->(execOp a.eval F).run P w=.ok (.value v) w:=by(intro W K;(try dsimp only at K);obtain⟨a6,a7⟩:=K;go_simp;first|done|with_reducible rfl)) (a1:S w:=by assumption)
 (O:Region.noSelect l.toArray=true:=by kernel_rfl) (a3:Region.free I l.toArray G i=true:=by kernel_rfl) (a2:(Region.ready I l.toArray G).contains i=true:=by kernel_rfl) (a5:∀c a w,Q (.panic c) (a.put F.dst v) w->Q (.panic c) a w:=by exact fun _ _ _ h=>h)
 (N:Region.wanted F (yielded l.toArray a.tmps)=true:=by rfl) (hl:G.setIfInBounds i true=J:=by((try simp only[zx]);rfl)) (ha:a.put F.dst v=M:=by((try simp only[zx]);rfl)) (h:wpAnyH P I l.toArray Q S fuel J M w):wpAnyH P I l.toArray Q S (fuel+1) G a w:=kw a4 O a3 a2 a5 N a0 a1 (by rw[hl,ha];exact h)
theorem vR {P:Program}{I:Region.Mode}{l:List Oper}{Q:Exit->Act->World->Prop}{S:World->Prop} (i:Nat) {F:Oper}{v:Value}{fuel:Nat}{G J:Array Bool}{a M:Act}{w:World} (a4:l[i]?=some F:=by rfl)
 (a0:∀w,S w->(execOp a.eval F).run P w=.ok (.value v) w:=by(intro W K;(try dsimp only at K);obtain⟨a6,a8,a7⟩:=K;go_simp;first|done|with_reducible rfl)) (a1:S w:=by assumption)
 (O:Region.noSelect l.toArray=true:=by kernel_rfl) (a3:Region.free I l.toArray G i=true:=by kernel_rfl) (a2:(Region.ready I l.toArray G).contains i=true:=by kernel_rfl) (a5:∀c a w,Q (.panic c) (a.put F.dst v) w->Q (.panic c) a w:=by exact fun _ _ _ h=>h)
 (N:Region.wanted F (yielded l.toArray a.tmps)=true:=by rfl) (hl:G.setIfInBounds i true=J:=by((try simp only[zx]);rfl)) (ha:a.put F.dst v=M:=by((try simp only[zx]);rfl)) (h:wpAnyH P I l.toArray Q S fuel J M w):wpAnyH P I l.toArray Q S (fuel+1) G a w:=kw a4 O a3 a2 a5 N a0 a1 (by rw[hl,ha];exact h)
theorem tq4 {P:Program}{I:Region.Mode}{l:List Oper}{Q:Exit->Act->World->Prop}{S:World->Prop} (i:Nat) {F:Oper}{v:Value}{fuel:Nat}{G J:Array Bool}{a M:Act}{w:World} (a4:l[i]?=some F:=by rfl)
 (a0:∀w,S w->(execOp a.eval F).run P w=.ok (.value v) w:=by(intro W K;(try dsimp only at K);obtain⟨a6,a9,a8,a7⟩:=K;go_simp;first|done|with_reducible rfl)) (a1:S w:=by assumption)
 (O:Region.noSelect l.toArray=true:=by kernel_rfl) (a3:Region.free I l.toArray G i=true:=by kernel_rfl) (a2:(Region.ready I l.toArray G).contains i=true:=by kernel_rfl) (a5:∀c a w,Q (.panic c) (a.put F.dst v) w->Q (.panic c) a w:=by exact fun _ _ _ h=>h)
 (N:Region.wanted F (yielded l.toArray a.tmps)=true:=by rfl) (hl:G.setIfInBounds i true=J:=by((try simp only[zx]);rfl)) (ha:a.put F.dst v=M:=by((try simp only[zx]);rfl)) (h:wpAnyH P I l.toArray Q S fuel J M w):wpAnyH P I l.toArray Q S (fuel+1) G a w:=kw a4 O a3 a2 a5 N a0 a1 (by rw[hl,ha];exact h)
theorem tq5 {P:Program}{I:Region.Mode}{l:List Oper}{Q:Exit->Act->World->Prop}{S:World->Prop} (i:Nat) {F:Oper}{v:Value}{fuel:Nat}{G J:Array Bool}{a M:Act}{w:World} (a4:l[i]?=some F:=by rfl)
 (a0:∀w,S w->(execOp a.eval F).run P w=.ok (.value v) w:=by(intro W K;(try dsimp only at K);obtain⟨a6,aa,a8,a7,a9⟩:=K;go_simp;first|done|with_reducible rfl)) (a1:S w:=by assumption)
 (O:Region.noSelect l.toArray=true:=by kernel_rfl) (a3:Region.free I l.toArray G i=true:=by kernel_rfl) (a2:(Region.ready I l.toArray G).contains i=true:=by kernel_rfl) (a5:∀c a w,Q (.panic c) (a.put F.dst v) w->Q (.panic c) a w:=by exact fun _ _ _ h=>h)
 (N:Region.wanted F (yielded l.toArray a.tmps)=true:=by rfl) (hl:G.setIfInBounds i true=J:=by((try simp only[zx]);rfl)) (ha:a.put F.dst v=M:=by((try simp only[zx]);rfl)) (h:wpAnyH P I l.toArray Q S fuel J M w):wpAnyH P I l.toArray Q S (fuel+1) G a w:=kw a4 O a3 a2 a5 N a0 a1 (by rw[hl,ha];exact h)
theorem tq6 {P:Program}{I:Region.Mode}{l:List Oper}{Q:Exit->Act->World->Prop}{S:World->Prop} (i:Nat) {F:Oper}{v:Value}{fuel:Nat}{G J:Array Bool}{a M:Act}{w:World} (a4:l[i]?=some F:=by rfl)
 (a0:∀w,S w->(execOp a.eval F).run P w=.ok (.value v) w:=by(intro W K;(try dsimp only at K);obtain⟨a6,aa,a8,a7,a9,ab⟩:=K;go_simp;first|done|with_reducible rfl)) (a1:S w:=by assumption)
 (O:Region.noSelect l.toArray=true:=by kernel_rfl) (a3:Region.free I l.toArray G i=true:=by kernel_rfl) (a2:(Region.ready I l.toArray G).contains i=true:=by kernel_rfl) (a5:∀c a w,Q (.panic c) (a.put F.dst v) w->Q (.panic c) a w:=by exact fun _ _ _ h=>h)
 (N:Region.wanted F (yielded l.toArray a.tmps)=true:=by rfl) (hl:G.setIfInBounds i true=J:=by((try simp only[zx]);rfl)) (ha:a.put F.dst v=M:=by((try simp only[zx]);rfl)) (h:wpAnyH P I l.toArray Q S fuel J M w):wpAnyH P I l.toArray Q S (fuel+1) G a w:=kw a4 O a3 a2 a5 N a0 a1 (by rw[hl,ha];exact h)
theorem tn {P:Program}{I:Region.Mode}{l:List Oper}{Q:Exit->Act->World->Prop}{S:World->Prop} (i:Nat) {G:Oper}{fuel:Nat}{F J:Array Bool}{a K:Act}{w:World} (a2:l[i]?=some G:=by rfl)
 (O:S w:=by assumption) (N:Region.noSelect l.toArray=true:=by kernel_rfl) (a1:Region.free I l.toArray F i=true:=by kernel_rfl) (a0:(Region.ready I l.toArray F).contains i=true:=by kernel_rfl) (a3:∀c a w,Q (.panic c) (a.put G.dst undef) w->Q (.panic c) a w:=by exact fun _ _ _ h=>h)
 (M:Region.wanted G (yielded l.toArray a.tmps)=false:=by rfl) (hl:F.setIfInBounds i true=J:=by((try simp only[zx]);rfl)) (ha:a.put G.dst undef=K:=by((try simp only[zx]);rfl)) (h:wpAnyH P I l.toArray Q S fuel J K w):wpAnyH P I l.toArray Q S (fuel+1) F a w:=z3J a2 N a1 a0 a3 M O (by rw[hl,ha];exact h)
theorem qc {P:Program}{G:Region.Mode}{l:List Oper}{Q:Exit->Act->World->Prop}{S:World->Prop} (i:Nat) {I:Oper}{fuel:Nat}{F:Array Bool}{a:Act}{w:World} (M:l[i]?=some I:=by rfl)
 (N:Region.ready G l.toArray F=[i]:=by kernel_rfl) (K:Region.wanted I (yielded l.toArray a.tmps)=true:=by rfl)
 (h:∀J:Act->World->Prop,Shut (∀a w,S w->(S w->wpAnyH P G l.toArray Q S fuel (F.setIfInBounds i true) a w)->J a w)->Oper.wp P I a w J Q):wpAnyH P G l.toArray Q S (fuel+1) F a w:=zaO M N K h
abbrev Rh:=@wp_region_held_drew
theorem Jk {P:Program}{I:Region.Mode}{l:List Oper}{Q:Exit->Act->World->Prop}{S:World->Prop}{i j:Nat}{J M:Oper}{fuel:Nat}{G:Array Bool}{a:Act}{w:World} (a2:l[i]?=some J) (a3:l[j]?=some M)
  (a1:Region.ready I l.toArray G=[i,j]) (O:Region.wanted J (yielded l.toArray a.tmps)=true) (a0:Region.wanted M (yielded l.toArray a.tmps)=true)
  (h:∀F:Act->World->Prop,Shut (∀a w,S w->(S w->wpAnyH P I l.toArray Q S fuel (G.setIfInBounds i true) a w)->F a w)->Oper.wp P J a w F Q)
  (k:∀F:Act->World->Prop,Shut (∀a w,S w->(S w->wpAnyH P I l.toArray Q S fuel (G.setIfInBounds j true) a w)->F a w)->Oper.wp P M a w F Q):wpAnyH P I l.toArray Q S (fuel+1) G a w:=
 wpAnyH_ready a1 (by simp) (AllReadyH.cons (by simpa using a2) (fun N K=>by rw[if_pos O];exact h N K) (AllReadyH.cons (by simpa using a3) (fun N K=>by rw[if_pos a0];exact k N K) AllReadyH.nil))
section
open Go.ChangeShapes Go.WideShapes Go.ChangeAt Go.RowKit
theorem z2y:ownKnob prog.godebug=none:=by kernel_rfl
theorem z2z:laidOutB prog=true:=by kernel_rfl
end
section
open Go.ChangeShapes Go.WideShapes Go.ChangeAt Go.RowKit Go.Deep
section
variable {H:Type}{enc:TypeId×Value->H}{w:World}{base:Nat}{spare:Nat->Bool}{held:Bool}{fuel:Nat}{cs:List Value}{x:DataW H×List MemPlace}
theorem z5p (h:DataW.trod enc prog w base spare held fuel 33 cs=some x):∃v l,cs=[v]/\zP w v l:=by
 rcases open_ints underlying33 underlying5 (by kernel_rfl) h with ⟨rfl,_⟩|⟨a,len,xz,zs,rfl,_,hl,O,M,_,J,N⟩
 ·exact⟨_,[],rfl,zP.nil w⟩
 ·have a5:len<=zs.length:=by rw[M];split <;> omega
  have F:((zs.take len).map fun n=>UInt8.ofNat n.toNat).length=len:=by simp;omega
  refine⟨_,(zs.take len).map fun n=>UInt8.ofNat n.toNat,rfl,some a,xz,by rw[F],by omega,O,fun a1=>?_⟩;rw[F]at a1;obtain⟨b,a3,a0⟩:=a;have I:=J 0 (by omega);have a2:a0=none:=by simpa [Addr.add] using World.cell?_spot I
  subst a2;refine⟨b,a3,rfl,?_,fun j a4=>?_⟩
  ·have:=World.block_lt_of_cell? w _ I;rw[y9]at this;exact this
  ·rw[F]at a4;have G:j<zs.length:=by omega
   have:=J j G;rw[y9]at this;rw[this];have K:=N zs[j] (List.getElem_mem G);have a6:0<=zs[j]/\zs[j]<=255:=by simpa [Lit.wf,IntKind.min,IntKind.max,IntKind.signed,IntKind.bits] using K
   have e:zs.getD j 0=zs[j]:=by simp[G]
   rw[e];unfold z3
   congr 2
   simp only[List.getElem_map,List.getElem_take];rw[UInt8.toNat_ofNat'];omega
theorem z7z (h:DataW.trod enc prog w base spare held fuel 5 cs=some x):∃c:UInt8,cs=[z3 c]:=by
 obtain⟨n,rfl,_,F⟩:=DataW.trod_int underlying5 h;have G:0<=n/\n<=255:=by simpa [Lit.wf,IntKind.min,IntKind.max,IntKind.signed,IntKind.bits] using F
 refine⟨UInt8.ofNat n.toNat,?_⟩;unfold z3;rw[UInt8.toNat_ofNat']
 congr 2
 omega
theorem kH (h:DataW.trod enc prog w base spare held fuel 38 cs=some x):∃l:List UInt8,l.length=32/\cs=z4 l:=by
 have a0:prog.cellsOf 5=1:=by kernel_rfl
 have O:prog.cellsOf 38=32:=by kernel_rfl
 obtain⟨a4,m,_,_,K,a5,J⟩:=DataW.trod_array yH h;rw[O]at K;rw[a0]at J;have M:∀i,i<32->∃c:UInt8,cs[i]?=some (z3 c):=by
  intro i a1;have G:=J i a1;rw[List.getElem?_eq_getElem (by omega)]at G;obtain⟨c,N⟩:=z7z G;refine⟨c,?_⟩;have a2:=congrArg (fun l=>l[0]?) N
  simpa [List.getElem?_take,List.getElem?_drop] using a2
 refine⟨cs.map fun v=>match v with | .int _ n=>UInt8.ofNat n.toNat|_=>0,by simpa using K,?_⟩;apply List.ext_getElem?;intro i;by_cases a3:i<32
 ·obtain⟨c,F⟩:=M i a3;have I:i<cs.length:=by omega
  rw[F];rw[List.getElem?_eq_getElem I]at F;injection F with F;simp only[z4,List.map_map,List.getElem?_map,List.getElem?_eq_getElem I,Option.map_some,F,Function.comp];simp[z3]
 ·rw[List.getElem?_eq_none (by omega),List.getElem?_eq_none (by simp[z4];omega)]
end
end
def sb (l:List UInt8):ByteArray:=⟨l.toArray⟩
def bs (s:ByteArray):List UInt8:=s.data.toList
theorem zc7 (s:ByteArray):sb (bs s)=s:=by unfold sb bs;rw[Array.toArray_toList]
theorem Qg (l:List UInt8):(sb l).size=l.length:=by simp[sb,ByteArray.size]
theorem zcu (l:List UInt8) (j:Nat) (F:j<l.length):(sb l)[j]?=some (l.getD j 0):=by
 have G:j<(sb l).size:=by rw[Qg];exact F
 simp[G,List.getD_eq_getElem?_getD,F];rfl
theorem z1E (l:List UInt8):(sb l).toList=l:=by rw[ByteArray.toList_eq];rfl
theorem Vq (l:List UInt8):(sb l).toList.isEmpty=decide (l=[]):=by
 rw[z1E];cases l <;> simp
theorem Vs:prog.underlying 9=some .string:=by kernel_rfl
theorem z1F (l:List UInt8) (j:Nat) (G:j<l.length) (i:Int) (I:i=(j:Int)) {y:Int} (F:((l.getD j 0).toNat:Int)=y) (w:World):(Instr.index 9 (.string (sb l)) (.int .i64 i)).run prog w=.ok (.int .u8 y) w:=by
 subst I F;have J:0<=(j:Int):=by omega
 simp only[Instr.index,asIntOf,Sem.run_bind,run_underlying Vs,Sem.run_pure,Result.andThen_ok,J,↓reduceIte,Int.toNat_natCast,zcu l j G]
theorem yL (w:World) (o:Obj):w.heap.size<=(w.alloc o).heap.size:=by simp
theorem qQ (w:World):ql w.heap.size (w.alloc (.cells #[] 5)) (.slice (some ⟨w.heap.size,0,none⟩) 0 0) []:=World.ownsRow_made w #[] 0 (Nat.le_refl _) (Nat.zero_le _) rfl
theorem qy {w F:World} (hg:(w.alloc (.cells #[] 5)).grownBy F (Value.slice (some ⟨w.heap.size,0,none⟩) 0 0).ownBlock):Below w.heap.size w F:=
 Ba.grown hg (by simp) (fun k G=>(World.ownsRow.lt (qQ w) k G).1)
theorem Kl (l:List UInt8) (w:World) (hl:l.length<=maxLen):∃v w',(convert 9 33 (.string (sb l))).run prog w=.ok v w'/\zP w' v l/\Below w.heap.size w w':=by
 refine⟨_,_,run_bytes_of_string w 9 33 5 (sb l) Vs zG (by kernel_rfl),?_,((Below.refl _ _).drew).alloc (Nat.le_refl _) _⟩;rw[Qg];refine⟨_,_,rfl,grownCap_ge _ _ _ _,grownCap_le_maxLen _ _ _ _ hl,fun I=>⟨w.heap.size,0,rfl,by simp,fun j F=>?_⟩⟩;have G:=Xh w.drew (.cells (bytesRow (sb l) (grownCap w l.length 0 5)) 5 ((bytesRow (sb l) (grownCap w l.length 0 5)).size,(bytesRow (sb l) (grownCap w l.length 0 5)).size+1));rw[Nat.zero_add];refine(cell_of_row _ _ _ _ _ _ G).trans ?_;unfold bytesRow;rw[Array.getElem?_append_left (by simp[sb];exact F)];simp[sb,F,z3]
theorem z98 (w:World) (x y:Int) (c d:UInt8) (hx:x=(c.toNat:Int)) (F:y=(d.toNat:Int)):zP (w.alloc (.cells #[.int .u8 x,.int .u8 y] 5)) (.slice (some ⟨w.heap.size,0,none⟩) 2 2) [c,d]:=by
 subst hx F;refine⟨_,2,rfl,Nat.le_refl _,by unfold maxLen;omega,fun _=>⟨w.heap.size,0,rfl,by simp,fun j G=>?_⟩⟩;rw[Nat.zero_add,z7 (Xh w _) j]
 match j,G with
 |0,_=>rfl
 |1,_=>rfl
theorem km (h:List UInt8) (w:World) (ak:h.length=32):
  Calls prog 111 #[.agg (z2 h)] w fun e w'=>∃x,e=.returned x/\ql w.heap.size w' x h/\Below w.heap.size w w':=by
 have F:=Xh w (.cells (z2 h) 38);have K:Below w.heap.size w (w.alloc (.cells (z2 h) 38)):=Ba;obtain⟨C,a3⟩:=nm (z2 h);rw[a3.o]at F K⊢;go_enter func111,ntmps111;go_upto_region 1 with(fail)
 generalize (w.alloc (.cells C 38))=w0 at *;have a7:=Lb F;have a9:=z0 F;have a2:=qQ w0;have a4:Below w0.heap.size w0 (w0.alloc (.cells #[] 5)):=Ba;have ah:=K.size;clear F;go_wp2_with fail;go_loopw [3,4] (fun a8 J wr=>∃i:Nat,i<=32/\J=.int .i64 i/\ql w0.heap.size wr a8 (h.take i)/\Below w0.heap.size w0 wr) (fun _ J _=>32 - (intOf J).toNat)
 case atStart=>exact⟨0,by omega,rfl,by rw[List.take_zero];exact a2,a4⟩
 case round=>
  obtain⟨i,ai,rfl,I,G⟩:=hrel;have aj:(h.take i).length<=32:=by simp only[List.length_take];omega
  by_cases ad:i<32
  ·have M:i<h.length:=by omega
   have O:wr.cell? ⟨w.heap.size,i,none⟩=some (z3 h[i]):=by
    have:=z7 ((G.block _ a7).trans a9.o) i;rw[this,<-a3.o];exact ZG h i M
   obtain⟨x,ae,al,a0⟩:∃x:Int,0<=x/\x<=255/\Hd (x=(h[i].toNat:Int)):=⟨_,(yW h[i]).1,(yW h[i]).2,rfl⟩
   unfold z3 at O;rw[<-a0.o]at O;have af:(i:Int)<32:=by omega
   have aa:=G.size;clear a2 a4;go_wp2_with (at_builtin;refine z9 rfl (.tmp 10) (.tmp 14) rfl rfl rfl (I.alloc _) (jP _ _ h[i] a0.o) (by rw[List.length_singleton];omega) (by simp;omega) ?_;intro ag ab N a5 _);have a1:h.take i ++ [h[i]]=h.take (i+1):=by rw[<-List.take_succ_eq_append_getElem M]
   rw[a1]at N;have a6:Below w0.heap.size w0 ab:=(G.alloc aa _).grown a5 (by simp;omega) (fun q hq=>(World.ownsRow.lt I q hq).1);clear a1 a5;go_roundw
   case rel=>exact⟨i+1,by omega,by go_num,N,a6⟩
   case measure=>simp[intOf];omega
  ·obtain rfl:i=32:=by omega
   go_wp2;go_ret;rw[List.take_of_length_le (by omega)]at I;exact⟨_,rfl,I.more (by omega),K.trans (G.mono (by omega))⟩
section
def wv (x:UInt32):Int:=(x.toNat:Int)
def wc (x:UInt32):Value:=.int .u32 (wv x)
theorem XW (x:UInt32):0<=wv x/\wv x<=4294967295:=by
 have:=x.toNat_lt;unfold wv;omega
def z1 (n:Nat) (f:Nat->Value):Array Value:=Array.ofFn (fun i:Fin n=>f i.val)
theorem qh (n:Nat) (f:Nat->Value):(z1 n f).size=n:=by simp[z1]
theorem xK {n i:Nat} (f:Nat->Value) (h:i<n):(z1 n f)[i]?=some (f i):=by simp[z1,h]
theorem Y6 {n i:Nat} (f:Nat->Value) (h:¬i<n):(z1 n f)[i]?=none:=by simp[z1];omega
theorem z2A {n:Nat}{f g:Nat->Value} (h:∀i,i<n->f i=g i):z1 n f=z1 n g:=by
 apply Array.ext (by simp[z1]);intro i F _;simp[z1]at F⊢;exact h i F
theorem z5q {n i:Nat} (f:Nat->Value) (v:Value) (h:i<n):(z1 n f).setIfInBounds i v=z1 n (fun j=>if j=i then v else f j):=by
 apply Array.ext_getElem?;intro j;by_cases F:j<n
 ·rw[xK _ F,Array.getElem?_setIfInBounds];by_cases e:i=j
  ·subst e;rw[if_pos rfl,if_pos (by rw[qh];exact h),if_pos rfl]
  ·rw[if_neg e,xK _ F,if_neg (fun h=>e h.symm)]
 ·rw[Y6 _ F,Array.getElem?_setIfInBounds,if_neg (by omega),Y6 _ F]
theorem Y7 {n:Nat}{f:Nat->Value} (h:∀i,i<n->(f i).oneCell'=true):(z1 n f).all (·.oneCell')=true:=by
 rw[Array.all_eq_true_iff_forall_mem];intro v F;simp only[z1,Array.mem_ofFn]at F;obtain⟨i,rfl⟩:=F;exact h i i.2
theorem Z5 (n:Nat) (f:Nat->Value) (i:Nat):(z1 n f).toList[i]?=if i<n then some (f i) else none:=by
 rw[Array.getElem?_toList];split
 ·exact xK f ‹_›
 ·exact Y6 f ‹_›
def zK (w:World) (g n:Nat) (f:Nat->Value) (t:TypeId):Prop:=w.heap[g]?=some (.cells (z1 n f) t (0,0))
section
variable {w w':World}{g n:Nat}{f f':Nat->Value}{t:TypeId}
theorem zK.lt (h:zK w g n f t):g<w.heap.size:=Lb h
theorem zK.cell (h:zK w g n f t) {i:Nat} (F:i<n):w.cell? ⟨g,i,none⟩=some (f i):=(cell_of_row w g i _ t (0,0) h).trans (xK f F)
theorem zK.free (h:zK w g n f t) (i:Nat):w.frozen? ⟨g,i,none⟩=false:=frozen_of_row w g i _ t h
theorem zK.congr (h:zK w g n f t) (e:∀i,i<n->f i=f' i):zK w g n f' t:=by
 unfold zK at h⊢;rw[h,z2A e]
theorem zK.set (h:zK w g n f t) {i:Nat} (F:i<n) (v:Value):zK (w.setCell ⟨g,i,none⟩ v) g n (fun j=>if j=i then v else f j) t:=by
 unfold zK;rw[heap_setCell_same w g i _ t v h,z5q f v F]
theorem zK.apart (h:zK w g n f t) {k:Nat} (i:Nat) (v:Value) (F:g≠k):zK (w.setCell ⟨k,i,none⟩ v) g n f t:=(heap_setCell_other w _ g v F).trans h
theorem zK.below {B:Nat} (h:zK w g n f t) (F:Below B w w') (hg:g<B):zK w' g n f t:=(F.block g hg).trans h
theorem zK.keep (h:zK w g n f t) (F:Below w.heap.size w w'):zK w' g n f t:=h.below F h.lt
theorem zK.grown (h:zK w g n f t) {F:Option Nat} (hg:w.grownBy w' F) (G:F≠some g):zK w' g n f t:=(hg.block g h.lt (fun e=>G e.symm)).trans h
theorem zK.drew (h:zK w g n f t):zK w.drew g n f t:=h
theorem zK.drewN (h:zK w g n f t) (k:Nat):zK (w.drewN k) g n f t:=h
theorem zK.alloc (h:zK w g n f t) (o:Obj):zK (w.alloc o) g n f t:=(Below.heap_alloc w o g h.lt).trans h
theorem zK.new (w:World) (n:Nat) (f:Nat->Value) (t:TypeId):zK (w.alloc (.cells (z1 n f) t)) w.heap.size n f t:=Xh w _
theorem zK.range (h:zK w g n f t) {o m:Nat}{f':Nat->Value} (I:o+m<=n) (e:∀j,j<m->f (o+j)=f' j):w.rangeAt g o (z1 m f').toList:=fun j v F=>by
 rw[Z5]at F;split at F
 ·rename_i G;injection F with F;rw[h.cell (by omega),e j G,F]
 ·cases F
theorem zK.there (h:zK w g n f t) {o m:Nat} (F:o+m<=n):w.there g o m:=fun j G=>⟨by rw[h.cell (by omega)];rfl,h.free _⟩
theorem Vt:∀(F:List Value) (o:Nat) (w:World) (f:Nat->Value),zK w g n f t->o+F.length<=n->zK (w.setCells g o F) g n (fun j=>if o<=j/\j<o+F.length then F.getD (j - o) undef else f j) t
 | [],o,w,f,h,_=>h.congr fun i _=>by rw[if_neg (by simp)]
 |v :: r,o,w,f,h,J=>by
  have hl:(v :: r).length=r.length+1:=rfl;refine(Vt r (o+1) _ _ (h.set (i:=o) (by omega) v) (by omega)).congr fun i _=>?_;by_cases G:o+1<=i/\i<o+1+r.length
  ·rw[if_pos G,if_pos (by omega),show i - o=(i - (o+1))+1 from by omega];rfl
  ·rw[if_neg G];by_cases I:i=o
   ·subst I;rw[if_pos rfl,if_pos (by omega),Nat.sub_self];rfl
   ·rw[if_neg I,if_neg (by omega)]
theorem vf (g:Nat):∀(F:List Value) (o:Nat) (w:World),(w.setCells g o F).heap.size=w.heap.size
 | [],_,_=>rfl
 |_ :: r,o,_=>(vf g r (o+1) _).trans (by simp[World.setCell])
theorem Qt (w:World) (g i:Nat) (u:Value):w.grownBy (w.setCell ⟨g,i,none⟩ u) (some g):=
 ⟨rfl,rfl,rfl,by simp[World.setCell],fun k _ F=>heap_setCell_other w _ k u (fun e=>F (by rw[e]))⟩
theorem jg (g:Nat):∀(F:List Value) (o:Nat) (w:World),w.grownBy (w.setCells g o F) (some g)
 | [],_,w=>World.grownBy.refl w _
 |v :: r,o,w=>(Qt w g o v).trans (jg g r (o+1) _)
theorem KS {w w':World} (h:Below w.heap.size w w') (F:Option Nat):w.grownBy w' F:=⟨h.os,h.tape,h.output,h.size,fun k G _=>h.block k G⟩
theorem KT {a b:World}{F:Option Nat} (h:a.grownBy b F) (n:Nat):a.grownBy (b.drewN n) F:=⟨h.os,h.tape,h.output,h.size,h.block⟩
theorem Zx {B:Nat}{a w:World} (F:Below B a w) {g:Nat} (hg:B<=g) (i:Nat) (u:Value):Below B a (w.setCell ⟨g,i,none⟩ u):=F.setCell hg u
theorem zh {B:Nat}{a w w':World} (G:Below B a w) {g:Nat} (hg:B<=g) (h:w.grownBy w' (some g)) (I:B<=w.heap.size):Below B a w':=G.grown h I (fun k F=>by injection F;omega)
end
structure xL (T E:TypeId) (n:Nat) (z:Value):Prop where
 zero:(prog.info? T).bind (·.zero)=some (.agg (z1 n fun _=>z))
 size:(prog.info? T).map (·.size)=some n
 under:prog.underlying T=some (.array n E)
 esize:(prog.info? E).map (·.size)=some 1
 plain:prog.plainKey E=true
 ecells:prog.cellsOf E=1
 zone:z.oneCell'=true
theorem Zd:xL 240 96 8 (wc 0):=⟨by kernel_rfl,by kernel_rfl,by kernel_rfl,by kernel_rfl,by kernel_rfl,by kernel_rfl,rfl⟩
theorem z3K:xL 262 96 64 (wc 0):=⟨by kernel_rfl,by kernel_rfl,by kernel_rfl,by kernel_rfl,by kernel_rfl,by kernel_rfl,rfl⟩
theorem jK:xL 227 5 64 (z3 0):=⟨by kernel_rfl,by kernel_rfl,by kernel_rfl,by kernel_rfl,by kernel_rfl,by kernel_rfl,rfl⟩
theorem qo:xL 38 5 32 (z3 0):=⟨by kernel_rfl,by kernel_rfl,by kernel_rfl,by kernel_rfl,by kernel_rfl,by kernel_rfl,rfl⟩
section
variable {T E:TypeId}{n:Nat}{z:Value}
theorem xL.run_zero (H:xL T E n z) (w:World):(zeroValue T).run prog w=.ok (.agg (z1 n fun _=>z)) w:=by
 have h:=H.zero;cases hq:prog.info? T with
 |none=>rw[hq]at h;cases h
 |some i=>
  rw[hq]at h;have F:i.zero=some (.agg (z1 n fun _=>z)):=h;simp[zeroValue,typeInfo,hq,F]
theorem xL.run_esize (H:xL T E n z) (w:World):(sizeOf E).run prog w=.ok 1 w:=by
 have h:=H.esize;cases hq:prog.info? E with
 |none=>rw[hq]at h;cases h
 |some i=>
  rw[hq]at h;have F:i.size=1:=by simpa using h
  simp[sizeOf,typeInfo,hq,F]
theorem zb (H:xL T E n z) {ops:Array Oper}{rest:List Oper}{o:Oper}{a:Act}{w:World}{Q:Exit->Act->World->Prop} (I:o.guard=none) (F:o.op=.alloc T)
  (h:wpList prog ops Q rest (a.put o.dst (.pointer (some ⟨w.heap.size,0,none⟩))) (w.alloc (.cells (z1 n fun _=>z) T))):wpList prog ops Q (o :: rest) a w:=
 wpList_plain I fun _ G=>by
  unfold Oper.wp execOp;simp only[F,Sem.run_bind,Instr.alloc,H.run_zero,newVar,newRow,run_newObj_alloc,Sem.run_pure,Result.andThen_ok,Value.cells];exact G _ _ h
theorem qa (H:xL T E n z) {ops:Array Oper}{rest:List Oper}{o:Oper}{a:Act}{w:World}{Q:Exit->Act->World->Prop} (I:o.guard=none) (F:o.op=.build T #[])
  (h:wpList prog ops Q rest (a.put o.dst (.agg (z1 n fun _=>z))) w):wpList prog ops Q (o :: rest) a w:=
 wpList_plain I fun _ G=>by
  have e:(Instr.build T #[]).run prog w=.ok (.agg (z1 n fun _=>z)) w:=by
   simp[Instr.build,Sem.run_bind,H.run_zero,run_underlying H.under,H.run_esize,Instr.fill,Value.cells]
  unfold Oper.wp execOp;simp only[F,Sem.run_bind,List.map_toArray,List.map_nil,e,Sem.run_pure,Result.andThen_ok];exact G _ _ h
theorem qg (H:xL T E n z) {ops:Array Oper}{rest:List Oper}{o:Oper}{a:Act}{w:World}{Q:Exit->Act->World->Prop} (I:o.guard=none) (x:Operand) (G:o.op=.load T x)
  {g:Nat} {t:TypeId} {f:Nat->Value} (hx:a.eval x=.pointer (some ⟨g,0,none⟩)) (hg:zK w g n f t)
  (F:wpList prog ops Q rest (a.put o.dst (.agg (z1 n f))) w):wpList prog ops Q (o :: rest) a w:=
 wpList_load_row I _ x G g hx t (z1 n f) (0,0) _ hg H.under rfl (by rw[H.size,qh]) F
theorem z8 (H:xL T E n z) {ops:Array Oper}{rest:List Oper}{o:Oper}{a:Act}{w:World}{Q:Exit->Act->World->Prop} (G:o.guard=none) (x y:Operand) (F:o.op=.store T x y)
  {g:Nat} {t:TypeId} {f f':Nat->Value} (hx:a.eval x=.pointer (some ⟨g,0,none⟩)) (J:a.eval y=.agg (z1 n f')) (hg:zK w g n f t) (I:∀i,i<n->(f' i).oneCell'=true)
  (M:∀w',w.grownBy w' (some g)->zK w' g n f' t->w'.heap.size=w.heap.size->wpList prog ops Q rest (a.put o.dst undef) w'):wpList prog ops Q (o :: rest) a w:=
 wpList_store_row G _ x y F g (z1 n f') hx J t (z1 n f) hg (by rw[H.size,qh]) (by rw[qh,qh]) (Y7 I)
  (M _ ⟨rfl,rfl,rfl,by simp,fun k _ K=>setRow_other w g k _ (fun e=>K (by simp[e]))⟩ (setRow_heap w g _ _ t _ hg) (by simp))
theorem xL.load_mid (H:xL T E n z) {w:World}{g N o:Nat}{f f':Nat->Value}{t:TypeId} (hg:zK w g N f t) (F:o+n<=N) (e:∀j,j<n->f (o+j)=f' j):
  (Instr.loadAt T (.pointer (some ⟨g,o,none⟩))).run prog w=.ok (.agg (z1 n f')) w:=by
 have:=run_loadAt_mid (P:=prog) w g o T (z1 n f').toList _ (hg.range F e) H.under rfl (by rw[H.size,Array.length_toList,qh]);rw[Array.toArray_toList]at this;exact this
theorem xL.store_mid (H:xL T E n z) {w:World}{g N o:Nat}{f f':Nat->Value}{t:TypeId} (hg:zK w g N f t) (F:o+n<=N) (G:∀i,i<n->(f' i).oneCell'=true):
  ∃w',(Instr.storeAt T (.pointer (some ⟨g,o,none⟩)) (.agg (z1 n f'))).run prog w=.ok () w'/\w.grownBy w' (some g)/\zK w' g N (fun j=>if o<=j/\j<o+n then f' (j - o) else f j) t/\w'.heap.size=w.heap.size:=by
 refine⟨_,run_storeAt_mid (P:=prog) w g o T (z1 n f') (hg.there (by rw[qh];exact F)) (by rw[H.size,qh]) (Y7 G),jg g _ _ _,?_,vf g _ _ _⟩;have hl:(z1 n f').toList.length=n:=by rw[Array.length_toList,qh]
 refine(Vt _ _ _ _ hg (by rw[hl];exact F)).congr fun i _=>?_;rw[hl];by_cases h:o<=i/\i<o+n
 ·rw[if_pos h,if_pos h,List.getD_eq_getElem?_getD,Z5,if_pos (by omega)];rfl
 ·rw[if_neg h,if_neg h]
theorem xL.run_index (H:xL T E n z) (f:Nat->Value) {i:Nat} (F:i<n) (w:World):(Instr.index T (.agg (z1 n f)) (.int .i64 (i:Int))).run prog w=.ok (f i) w:=by
 have h:=run_part_plain (P:=prog) w H.plain (xK f F);simp[Instr.index,asIntOf,Sem.run_bind,run_underlying H.under,H.run_esize,h,F]
end
theorem xL.result {T E:TypeId}{n:Nat}{z:Value} (H:xL T E n z) {F:Func}{p:Tmp} (h:F.results=#[.cell p T]) (tmps:Array Value) (w:World) {g:Nat}{t:TypeId}{f:Nat->Value}
  (hp:tmps.getD p undef=.pointer (some ⟨g,0,none⟩)) (hg:zK w g n f t):(results F tmps).run prog w=.ok (.agg (z1 n f)) w:=
 results_cell_row h tmps w g t (z1 n f) (0,0) _ hp hg H.under rfl (by rw[H.size,qh])
end
def rr (x:UInt32) (n:Nat):UInt32:=UInt32.ofNat (x.toNat / 2^n+x.toNat % 2^n*2^(32 - n))
def sr (x:UInt32) (n:Nat):UInt32:=UInt32.ofNat (x.toNat / 2^n)
def sm0 (x:UInt32):UInt32:=rr x 7 ^^^ rr x 18 ^^^ sr x 3
def sm1 (x:UInt32):UInt32:=rr x 17 ^^^ rr x 19 ^^^ sr x 10
def bg0 (x:UInt32):UInt32:=rr x 2 ^^^ rr x 13 ^^^ rr x 22
def bg1 (x:UInt32):UInt32:=rr x 6 ^^^ rr x 11 ^^^ rr x 25
def chc (x y z:UInt32):UInt32:=(x &&& y) ||| (~~~x &&& z)
def maj (x y z:UInt32):UInt32:=(x &&& y) ||| (x &&& z) ||| (y &&& z)
def kl:List UInt32:=[
 0x428a2f98,0x71374491,0xb5c0fbcf,0xe9b5dba5,0x3956c25b,0x59f111f1,0x923f82a4,0xab1c5ed5,
 0xd807aa98,0x12835b01,0x243185be,0x550c7dc3,0x72be5d74,0x80deb1fe,0x9bdc06a7,0xc19bf174,
 0xe49b69c1,0xefbe4786,0x0fc19dc6,0x240ca1cc,0x2de92c6f,0x4a7484aa,0x5cb0a9dc,0x76f988da,
 0x983e5152,0xa831c66d,0xb00327c8,0xbf597fc7,0xc6e00bf3,0xd5a79147,0x06ca6351,0x14292967,
 0x27b70a85,0x2e1b2138,0x4d2c6dfc,0x53380d13,0x650a7354,0x766a0abb,0x81c2c92e,0x92722c85,
 0xa2bfe8a1,0xa81a664b,0xc24b8b70,0xc76c51a3,0xd192e819,0xd6990624,0xf40e3585,0x106aa070,
 0x19a4c116,0x1e376c08,0x2748774c,0x34b0bcb5,0x391c0cb3,0x4ed8aa4a,0x5b9cca4f,0x682e6ff3,
 0x748f82ee,0x78a5636f,0x84c87814,0x8cc70208,0x90befffa,0xa4506ceb,0xbef9a3f7,0xc67178f2]
def kc (i:Nat):UInt32:=kl.getD i 0
def z99 (a b c d:UInt8):UInt32:=UInt32.ofNat (a.toNat*16777216+b.toNat*65536+c.toNat*256+d.toNat)
def z1G (b:Nat->UInt8) (i:Nat):UInt32:=z99 (b (4*i)) (b (4*i+1)) (b (4*i+2)) (b (4*i+3))
def Z6 (b:Nat->UInt8):Nat->List UInt32
 |0=>[]
 |n+1=>Z6 b n ++ [if n<16 then z1G b n else sm1 ((Z6 b n).getD (n - 2) 0)+(Z6 b n).getD (n - 7) 0+sm0 ((Z6 b n).getD (n - 15) 0)+(Z6 b n).getD (n - 16) 0]
def wd (b:Nat->UInt8) (i:Nat):UInt32:=(Z6 b 64).getD i 0
theorem Y8 (b:Nat->UInt8):∀n,(Z6 b n).length=n
 |0=>rfl
 |n+1=>by simp[Z6,Y8 b n]
theorem Jl (b:Nat->UInt8) (i:Nat):∀n,i<n->(Z6 b n).getD i 0=(Z6 b (i+1)).getD i 0
 |0,h=>absurd h (by omega)
 |n+1,h=>by
  by_cases e:i=n
  ·subst e;rfl
  ·have F:i<n:=by omega
   rw[<-Jl b i n F];have hl:=Y8 b n;simp only[Z6,List.getD_eq_getElem?_getD];rw[List.getElem?_append_left (by omega)]
theorem Vu (b:Nat->UInt8) {i n:Nat} (h:i<n) (F:n<=64):(Z6 b n).getD i 0=wd b i:=by
 unfold wd;rw[Jl b i n h,Jl b i 64 (by omega)]
theorem zc8 (b:Nat->UInt8) {i:Nat} (h:i<64):wd b i=if i<16 then z1G b i else sm1 ((Z6 b i).getD (i - 2) 0)+(Z6 b i).getD (i - 7) 0+sm0 ((Z6 b i).getD (i - 15) 0)+(Z6 b i).getD (i - 16) 0:=by
 have e:=Y8 b i;unfold wd;rw[Jl b i 64 h];simp only[Z6,List.getD_eq_getElem?_getD];rw[List.getElem?_append_right (by omega),e,Nat.sub_self];rfl
theorem z2B (b:Nat->UInt8) {i:Nat} (h:i<16):wd b i=z1G b i:=by rw[zc8 b (by omega),if_pos h]
theorem Xy (b:Nat->UInt8) {i:Nat} (h:16<=i) (F:i<64):wd b i=sm1 (wd b (i - 2))+wd b (i - 7)+sm0 (wd b (i - 15))+wd b (i - 16):=by
 rw[zc8 b F,if_neg (by omega),Vu b (by omega) (by omega),Vu b (by omega) (by omega),Vu b (by omega) (by omega),Vu b (by omega) (by omega)]
theorem z9a {b F:Nat->UInt8} (h:∀j,j<64->b j=F j):∀i,i<64->wd b i=wd F i:=by
 intro i
 induction i using Nat.strongRecOn with
 |_ i ih=>
  intro G;by_cases I:i<16
  ·rw[z2B b I,z2B F I];unfold z1G;rw[h _ (by omega),h _ (by omega),h _ (by omega),h _ (by omega)]
  ·rw[Xy b (by omega) G,Xy F (by omega) G,ih _ (by omega) (by omega),ih _ (by omega) (by omega),ih _ (by omega) (by omega),ih _ (by omega) (by omega)]
structure St where
 a:UInt32
 b:UInt32
 c:UInt32
 d:UInt32
 e:UInt32
 f:UInt32
 g:UInt32
 h:UInt32
def St.at_ (v:St) (i:Nat):UInt32:=[v.a,v.b,v.c,v.d,v.e,v.f,v.g,v.h].getD i 0
def St.of (s:Nat->UInt32):St:=⟨s 0,s 1,s 2,s 3,s 4,s 5,s 6,s 7⟩
def rnd (k w:UInt32) (v:St):St:=
 ⟨v.h+bg1 v.e+chc v.e v.f v.g+k+w+(bg0 v.a+maj v.a v.b v.c),v.a,v.b,v.c,v.d+(v.h+bg1 v.e+chc v.e v.f v.g+k+w),v.e,v.f,v.g⟩
def Xo (w:Nat->UInt32):Nat->St->St
 |0,v=>v
 |n+1,v=>rnd (kc n) (w n) (Xo w n v)
def ZH (s:Nat->UInt32) (b:Nat->UInt8) (i:Nat):UInt32:=s i+(Xo (wd b) 64 (St.of s)).at_ i
theorem XX {w w':Nat->UInt32}{v:St}:∀n,(∀i,i<n->w i=w' i)->Xo w n v=Xo w' n v
 |0,_=>rfl
 |n+1,h=>by
  unfold Xo;rw[h n (by omega),XX n (fun i F=>h i (by omega))]
theorem KU {s G:Nat->UInt32}{b I:Nat->UInt8} (F:∀i,i<8->s i=G i) (J:∀j,j<64->b j=I j) (i:Nat) (K:i<8):ZH s b i=ZH G I i:=by
 have e:St.of s=St.of G:=by
  unfold St.of;rw[F 0 (by omega),F 1 (by omega),F 2 (by omega),F 3 (by omega),F 4 (by omega),F 5 (by omega),F 6 (by omega),F 7 (by omega)]
 unfold ZH;rw[e,F i K,XX 64 (z9a J)]
def sl:List UInt32:=[0x6a09e667,0xbb67ae85,0x3c6ef372,0xa54ff53a,0x510e527f,0x9b05688c,0x1f83d9ab,0x5be0cd19]
def start (i:Nat):UInt32:=sl.getD i 0
def Ze (l:List UInt8):Nat->Nat->UInt32
 |0=>start
 |n+1=>ZH (Ze l n) (fun j=>l.getD (64*n+j) 0)
theorem XY {l m:List UInt8}:∀n,(∀j,j<64*n->l.getD j 0=m.getD j 0)->∀i,i<8->Ze l n i=Ze m n i
 |0,_,_,_=>rfl
 |n+1,h,i,G=>KU (XY n fun j F=>h j (by omega)) (fun j F=>h _ (by omega)) i G
theorem z1H {l m:List UInt8}{j:Nat} (h:j<l.length):(l ++ m).getD j 0=l.getD j 0:=by
 simp only[List.getD_eq_getElem?_getD];rw[List.getElem?_append_left h]
theorem z5r {l m:List UInt8}{j:Nat}:(l ++ m).getD (l.length+j) 0=m.getD j 0:=by
 simp only[List.getD_eq_getElem?_getD];rw[List.getElem?_append_right (by omega),Nat.add_sub_cancel_left]
theorem z1I {l m:List UInt8}{n:Nat} (h:64*n<=l.length) (i:Nat) (F:i<8):Ze (l ++ m) n i=Ze l n i:=
 XY n (fun _ G=>z1H (by omega)) i F
def be8 (m:Nat):Nat->List UInt8
 |0=>[]
 |k+1=>be8 m k ++ [UInt8.ofNat (m / 2^(56 - 8*k))]
theorem ZI (m:Nat):∀k,(be8 m k).length=k
 |0=>rfl
 |k+1=>by simp[be8,ZI m k]
def qK (n:Nat):Nat:=(64 - (n+9) % 64) % 64
def z3L (n:Nat):List UInt8:=128 :: List.replicate (qK n) 0 ++ be8 (n*8) 8
def kn (l:List UInt8):List UInt8:=l ++ z3L l.length
theorem Vv (n:Nat):(z3L n).length=qK n+9:=by
 simp[z3L,ZI]
theorem Ya (n:Nat):qK n<=63:=by unfold qK;omega
theorem z3M (n:Nat):(n+(qK n+9)) % 64=0:=by unfold qK;omega
theorem Vw (l:List UInt8):(kn l).length=l.length+(qK l.length+9):=by simp[kn,Vv]
theorem z7A (l:List UInt8):(kn l).length % 64=0:=by rw[Vw];exact z3M _
def z2C (x:UInt32) (j:Nat):UInt8:=UInt8.ofNat (x.toNat / 2^(24 - 8*j))
def xy (l:List UInt8) (i:Nat):UInt8:=z2C (Ze (kn l) ((kn l).length / 64) (i / 4)) (i % 4)
theorem zc9 (w:World) (C:Array Value) (n c:Nat):(convert 33 33 (.slice (some ⟨w.heap.size,0,none⟩) n c)).run prog (w.alloc (.cells C 5))=.ok (.slice (some ⟨w.heap.size,0,none⟩) n c) (w.alloc (.cells C 5 (C.size,C.size+1))):=
 Lib.run_convert_bytes_const (P:=prog) w 33 5 C n c zG (by kernel_rfl)
theorem Jm {w:World}{g:Nat}{l:List UInt8}{T:TypeId}{m:Nat×Nat} (h:w.heap[g]?=some (.cells (z4 l).toArray T m)) (G:l.length<=maxLen):zP w (.slice (some ⟨g,0,none⟩) l.length l.length) l:=
 ⟨_,l.length,rfl,Nat.le_refl _,G,fun _=>⟨g,0,rfl,Lb h,fun j F=>by
  rw[Nat.zero_add,cell_of_row _ _ _ _ _ _ h]
  simp[z4,F]⟩⟩
theorem Zj (w:World) (o F:Obj):((w.alloc o).alloc F).heap[w.heap.size]?=some o:=by
 rw[Below.heap_alloc _ _ _ (by simp)];exact Xh w o
theorem kT (w:World) (o F:Obj):((w.alloc o).alloc F).heap[w.heap.size+1]?=some F:=by
 have:=Xh (w.alloc o) F;rw[show(w.alloc o).heap.size=w.heap.size+1 from by simp]at this;exact this
theorem Z7 (v:Value) (n:Nat):Builtin.zeroCells #[v] n=(List.replicate n v).toArray:=by
 apply Array.ext
 ·simp[Builtin.zeroCells]
 ·intro i F G;simp[Builtin.zeroCells,Nat.mod_one]
theorem Vx (n:Nat):z4 (List.replicate n 0)=List.replicate n (.int .u8 0):=by
 simp[z4,z3]
theorem zca:IntKind.i64.wrap 0=0:=rfl
theorem QG:prog.underlying 3=some (.int .i64):=by kernel_rfl
theorem YO {w:World}{B:Nat}{v:Value}{l:List UInt8} (k:Nat) (ty:TypeId) (a5:ql B w v l) (aw:l.length+k<=140737488355328) (ao:B<=w.heap.size):
  ∃O w',(Builtin.append_ #[33,3] ty #[v,.int .i64 (k:Int)]).run prog w=.ok O w'/\ql B w' O (l ++ List.replicate k 0)/\w.grownBy w' v.ownBlock/\(O.ownBlock=v.ownBlock\/O.ownBlock=some w.heap.size):=by
 obtain⟨a4,I,a2,ae,M⟩:=info_parts vV;have a3:(l ++ List.replicate k 0).length=l.length+k:=by simp
 have ag:IntKind.i64.wrap (k:Int)=k:=by rw[IntKind.wrap_i64];omega
 have am:¬((k:Int)<0):=by omega
 have aq:¬(281474976710656<(k:Int)):=by omega
 have ad:∀(F k:Nat) {l:List UInt8},l.length+k<=140737488355328->0<k->∀ab:Option Nat,
   ql B (w.drew.alloc (.cells ((z4 l).toArray ++ Builtin.zeroCells (Value.int IntKind.u8 0).cells k ++ Builtin.zeroCells (Value.int IntKind.u8 0).cells (grownCap w (l.length+k) F 5 - (l.length+k))) 5)) (.slice (some ⟨w.heap.size,0,none⟩) (l.length+k) (grownCap w (l.length+k) F 5)) (l ++ List.replicate k 0)/\
   w.grownBy (w.drew.alloc (.cells ((z4 l).toArray ++ Builtin.zeroCells (Value.int IntKind.u8 0).cells k ++ Builtin.zeroCells (Value.int IntKind.u8 0).cells (grownCap w (l.length+k) F 5 - (l.length+k))) 5)) ab:=by
  intro F k l ax K ab;have al:=grownCap_ge w (l.length+k) F 5;have a8:grownCap w (l.length+k) F 5<=maxLen:=grownCap_le_maxLen w (l.length+k) F 5 (by unfold maxLen;omega);have aa:(Value.int IntKind.u8 0).cells=#[.int .u8 0]:=rfl;have a1:(l ++ List.replicate k 0:List UInt8).length=l.length+k:=by simp
  refine⟨⟨by rw[z6,Nat.mul_one],.inr ⟨w.heap.size,_,_,by rw[a1],ao,Xh w.drew _,by rw[a1];exact al,a8,?_,?_⟩⟩,⟨rfl,rfl,rfl,by simp,fun q hq _=>Below.heap_alloc w.drew _ q hq⟩⟩
  ·rw[aa,Z7,Z7];simp[z4];omega
  ·rw[aa,Z7,Z7,a1,jv,Vx];simp only[Array.toList_append,Nat.mul_one];apply List.take_left';simp[z4]
 rcases a5.2 with ⟨rfl,ap⟩|⟨g,xz,cur,rfl,aj,hg,ah,a8,ak,an⟩
 ·have hl:l=[]:=List.eq_nil_of_length_eq_zero ap;subst hl;by_cases K:k=0
  ·subst K;refine⟨.slice none 0 0,w,?_,ql.nil B w,World.grownBy.refl w _,.inl rfl⟩;simp[Builtin.append_,run_underlying zG,run_underlying QG,sizeOf,typeInfo,I,asInt,asIntOf,zca]
  ·have a7:=Lib.run_append_nil_zeros (P:=prog) w 33 3 ty 5 a4 (.int .u8 0) .i64 .i64 zG QG I a2 k (by omega) (by omega) (by omega) (by rw[M];omega);obtain⟨G,J⟩:=ad 0 k (by simp;omega) (by omega) (Value.slice none 0 0).ownBlock (l:=[]);have e:(z4 ([]:List UInt8)).toArray=#[]:=rfl;rw[e]at G J;simp only[List.length_nil,Nat.zero_add,Array.empty_append]at G J;exact⟨_,_,a7,G,J,.inr rfl⟩
 ·by_cases K:k=0
  ·subst K;refine⟨_,w,?_,by rw[List.replicate_zero,List.append_nil];exact a5,World.grownBy.refl w _,.inl rfl⟩;simp[Builtin.append_,run_underlying zG,run_underlying QG,sizeOf,typeInfo,I,asInt,asIntOf,zca,ah,storeCells]
  ·by_cases af:l.length+k<=xz
   ·have av:l.length+0+(List.replicate k (Value.int IntKind.u8 0)).length<=cur.size:=by
     rw[List.length_replicate,ak];omega
    have a0:=run_storeCells_at prog g l.length 5 (List.replicate k (Value.int IntKind.u8 0)) 0 cur w hg av (fun u a6=>by rw[List.eq_of_mem_replicate a6];rfl);simp only[Nat.add_zero]at a0;rw[List.length_replicate]at a0;obtain⟨N,a9⟩:∃N:Array Value,(cur.toList.take l.length ++ List.replicate k (Value.int IntKind.u8 0) ++ cur.toList.drop (l.length+k)).toArray=N:=⟨_,rfl⟩
    rw[a9]at a0;have au:(Builtin.append_ #[33,3] ty #[.slice (some ⟨g,0,none⟩) l.length xz,.int .i64 (k:Int)]).run prog w=.ok (.slice (some ⟨g,0,none⟩) (l.length+k) xz) (w.setRow g N):=by
     simp[Builtin.append_,run_underlying zG,run_underlying QG,sizeOf,typeInfo,zeroValue,I,a2,ae,M,asInt,asIntOf,ag,am,K,aq,af,Value.cells,Z7,Addr.add_lit,a0]
    refine⟨_,_,au,⟨by rw[z6,Nat.mul_one],.inr ⟨g,xz,N,by rw[a3],aj,setRow_heap w g cur N 5 _ hg,by rw[a3];exact af,a8,?_,?_⟩⟩,⟨rfl,rfl,rfl,by simp,fun q _ hq=>setRow_other w g q _ (fun e=>hq (by simp[Value.ownBlock,e]))⟩,.inl rfl⟩
    ·rw[<-a9];simp;omega
    ·have ar:cur.toList.take l.length=z4 l:=by rw[<-an,Nat.mul_one]
     rw[<-a9,a3,jv,Vx,ar];simp only[Nat.mul_one];apply List.take_left';simp[z4]
   ·have ai:(Builtin.firstCells a4.size l.length (.slice (some ⟨g,0,none⟩) l.length xz)).run prog w.drew=.ok (z4 l).toArray w.drew:=by
     rw[ae];exact run_firstCells_some (P:=prog) w.drew 1 l.length ⟨g,0,none⟩ l.length xz (z4 l) (by simp[z4]) (fun j u a6=>World.ownsRow.cells a5 (g:=g) rfl j u a6)
    have a7:=Lib.run_append_grow_zeros (P:=prog) w 33 3 ty 5 a4 (.int .u8 0) .i64 .i64 zG QG I a2 (some ⟨g,0,none⟩) l.length xz (z4 l) ai k (by omega) (by omega) (by omega) (by omega) (by rw[M];omega) (by rw[M];exact growslice_fits (by omega) (by omega));obtain⟨G,J⟩:=ad xz k (by omega) (by omega) (Value.slice (some ⟨g,0,none⟩) l.length xz).ownBlock (l:=l);exact⟨_,_,a7,G,J,.inr rfl⟩
noncomputable def JP (w : World) : Result Next := Sem.run prog (execOp (fun _ => undef) { dst := none, op := .build 38 #[], type := 0, pos := "", after := #[], guard := none }) w
theorem ky (r:Operand->Value) (dst:Option Tmp) (ty:TypeId) (pos:String) (after:Array Edge) (guard:Option (Nat×Bool)) (w:World):
  Sem.run prog (execOp r { dst:=dst,op:=.build 38 #[],type:=ty,pos:=pos,after:=after,guard:=guard }) w=JP w:=by
 unfold JP execOp;simp
theorem Km (w:World):JP w=.ok (.value (.agg (z1 32 fun _=>z3 0))) w:=by
 unfold JP;go_simp;rfl
theorem Qu:z1 32 (fun _=>z3 0)=z2 (List.replicate 32 0):=by kernel_rfl
section
structure Ctr (w:World) (b a:Nat) (n:Int):Prop where
 p:w.heap[b]?=some (.cells #[.pointer (some ⟨a,0,none⟩)] 165 (0,0))
 q:w.heap[a]?=some (.cells #[.int .i64 n] 162 (0,0))
theorem kB {w:World}{g:Nat}{cs:Array Value}{t:TypeId} (h:w.heap[g]?=some (.cells cs t (0,0))) (i:Nat):w.cell? ⟨g,i,none⟩=cs[i]?:=cell_of_row w g i cs t (0,0) h
theorem jh {w:World}{g:Nat}{cs:Array Value}{t:TypeId} (h:w.heap[g]?=some (.cells cs t (0,0))) (i:Nat):w.frozen? ⟨g,i,none⟩=false:=by simp[World.frozen?,h]
section
variable {w:World}{b a:Nat}{n:Int}
theorem Ctr.ne (h:Ctr w b a n):b≠a:=by
 rintro rfl;have:=h.p.symm.trans h.q;simp at this
theorem Ctr.c1 (h:Ctr w b a n):w.cell? ⟨b,0,none⟩=some (.pointer (some ⟨a,0,none⟩)):=by rw[kB h.p];rfl
theorem Ctr.c2 (h:Ctr w b a n):w.cell? ⟨a,0,none⟩=some (.int .i64 n):=by rw[kB h.q];rfl
theorem Ctr.f2 (h:Ctr w b a n):w.frozen? ⟨a,0,none⟩=false:=jh h.q 0
theorem Ctr.set (h:Ctr w b a n) (m:Int):Ctr (w.setCell ⟨a,0,none⟩ (.int .i64 m)) b a m:=by
 refine⟨?_,?_⟩
 ·have:=h.p;simp[World.setCell,Array.getElem?_modify,Ne.symm h.ne,this]
 ·have:=h.q;simp[World.setCell,Array.getElem?_modify,this]
theorem Ctr.below {B:Nat}{w':World} (h:Ctr w b a n) (F:Below B w w') (G:b<B) (I:a<B):Ctr w' b a n:=
 ⟨(F.block b G).trans h.p,(F.block a I).trans h.q⟩
end
theorem z1K (w:World) (o:Obj):(w.alloc o).heap[w.heap.size]?=some o:=by
 show(w.heap.push o)[w.heap.size]?=some o;simp
theorem z7B (w:World) (o:Obj) {k:Nat} (h:k<w.heap.size):(w.alloc o).heap[k]?=w.heap[k]?:=by
 show(w.heap.push o)[k]?=_;rw[Array.getElem?_push];simp[Nat.ne_of_lt h]
theorem z1L (w:World) {g:Nat}{cs:Array Value}{t:TypeId} (h:w.heap[g]?=some (.cells cs t (0,0))) (i:Nat) (u:Value):(w.setCell ⟨g,i,none⟩ u).heap[g]?=some (.cells (cs.setIfInBounds i u) t (0,0)):=by
 simp[World.setCell,Array.getElem?_modify,h]
theorem Vy {w:World}{b a:Nat}{n:Int} (h:Ctr w b a n):
  Calls prog 96 #[.pointer (some ⟨b,0,none⟩)] w fun e w'=>e=.returned (.bool true)/\w=w':=by
 have F:=h.c1;go_enter func96,ntmps96;go_wp2;go_ret;exact⟨rfl,rfl⟩
theorem z7C {w:World}{a:Nat}{n:Int} (h:w.cell? ⟨a,0,none⟩=some (.int .i64 n)) (F:w.frozen? ⟨a,0,none⟩=false) (K:0<=n) (J:n<=1099511630000):
  Calls prog 177 #[.pointer (some ⟨a,0,none⟩),.int .i64 1] w fun e w'=>e=.returned (.int .i64 (n+1))/\w.setCell ⟨a,0,none⟩ (.int .i64 (n+1))=w':=by
 have G:(Op.intArith .add .i64 n 1).run prog w=.ok (.int .i64 (n+1)) w:=by
  have:IntKind.i64.wrap (n+1)=n+1:=by simp[IntKind.wrap,IntKind.signed,IntKind.bits];omega
  simp[Op.intArith,this]
 have I:=run_call_add (P:=prog) func200 (by kernel_rfl) (by kernel_rfl) (by kernel_rfl) .i64 (by kernel_rfl) h F G;go_enter func177,ntmps177;go_wp2;go_ret;exact⟨rfl,rfl⟩
theorem JQ {w:World}{a:Nat}{n:Int} (h:w.cell? ⟨a,0,none⟩=some (.int .i64 n)):
  Calls prog 97 #[.pointer (some ⟨a,0,none⟩)] w fun e w'=>e=.returned (.int .i64 n)/\w=w':=by
 have F:=run_call_load (P:=prog) func144 (by kernel_rfl) (by kernel_rfl) (by kernel_rfl) .i64 (by kernel_rfl) h;go_enter func97,ntmps97;go_wp2;go_ret;exact⟨rfl,rfl⟩
theorem z3N {w:World}{a:Nat}{u:Value}{n:Int} (h:w.cell? ⟨a,0,none⟩=some u) (F:w.frozen? ⟨a,0,none⟩=false):
  Calls prog 95 #[.pointer (some ⟨a,0,none⟩),.int .i64 n] w fun e w'=>e=.returned (.tuple #[])/\w.setCell ⟨a,0,none⟩ (.int .i64 n)=w':=by
 have G:=run_call_store (P:=prog) func143 (by kernel_rfl) (by kernel_rfl) (by kernel_rfl) (by kernel_rfl) (k:=.i64) (y:=n) h F;go_enter func95,ntmps95;go_wp2;go_end0;exact⟨rfl,rfl⟩
def xz (n:Int):Int:=if n<1099511627776 then n else 1099511627776
theorem z3O (n:Int) (w:World):
  Calls prog 55 #[.int .i64 n] w fun e w'=>e=.returned (.pointer (some ⟨w.heap.size+1,0,none⟩))/\Ctr w' (w.heap.size+1) w.heap.size n/\Below w.heap.size w w'/\w'.heap.size=w.heap.size+2:=by
 go_enter func55,ntmps55;go_wp2_with fail;refine(z3N (u:=.int .i64 0) ?_ ?_).mono ?_
 ·simp
 ·simp
 rintro e F ⟨rfl,rfl⟩;go_wp2;go_ret;refine⟨by simp,⟨?_,?_⟩,?_,by simp⟩
 ·have:=z1K (w.alloc (.cells #[.int .i64 n] 162)) (.cells #[.pointer (some ⟨w.heap.size,0,none⟩)] 165);rw[show(w.alloc (.cells #[.int .i64 n] 162)).heap.size=w.heap.size+1 by simp]at this;exact this
 ·rw[z7B _ _ (by simp)];exact z1K _ _
 ·exact Ba.alloc (by simp) _
theorem zaP (n:Int) (w:World) (M:0<=n) (K:n<=1099511627776):
  Calls prog 26 #[.int .i64 n] w fun e w'=>e=.returned (.tuple #[.pointer (some ⟨w.heap.size+1,0,none⟩),.int .i64 0])/\Ctr w' (w.heap.size+1) w.heap.size n/\Below w.heap.size w w'/\w'.heap.size=w.heap.size+2:=by
 go_enter func26,ntmps26;go_wp2_with fail;refine(z3O n w).mono ?_;rintro e J ⟨rfl,I,G,F⟩;go_wp2;go_ret2;exact⟨rfl,I,G,F⟩
theorem zcx {w:World}{b a:Nat}{n:Int} (h:Ctr w b a n) (J:0<=n):
  Calls prog 57 #[.pointer (some ⟨b,0,none⟩)] w fun e w'=>e=.returned (.int .i64 (xz n))/\w=w':=by
 have I:=h.c1;unfold xz;rcases Int.lt_trichotomy n 1099511627776 with G|rfl|G
 ·go_enter func57,ntmps57;go_wp2_with fail;refine(Vy h).mono ?_;rintro e F ⟨rfl,rfl⟩;go_wp2_with fail;refine(JQ h.c2).mono ?_;rintro e F ⟨rfl,rfl⟩;go_wp2;go_ret;exact⟨rfl,rfl⟩
 ·go_enter func57,ntmps57;go_wp2_with fail;refine(Vy h).mono ?_;rintro e F ⟨rfl,rfl⟩;go_wp2_with fail;refine(JQ h.c2).mono ?_;rintro e F ⟨rfl,rfl⟩;go_wp2;go_ret;exact⟨rfl,rfl⟩
 ·go_enter func57,ntmps57;go_wp2_with fail;refine(Vy h).mono ?_;rintro e F ⟨rfl,rfl⟩;go_wp2_with fail;refine(JQ h.c2).mono ?_;rintro e F ⟨rfl,rfl⟩;go_wp2;go_ret;exact⟨rfl,rfl⟩
theorem z9b {w:World}{b a:Nat}{n:Int} (h:Ctr w b a n) (G:0<=n) (I:n<1099511627776):
  Calls prog 136 #[.pointer (some ⟨b,0,none⟩)] w fun e w'=>e=.returned (.tuple #[.int .i64 (n+1),.int .i64 0])/\w.setCell ⟨a,0,none⟩ (.int .i64 (n+1))=w':=by
 have J:=h.c1;go_enter func136,ntmps136;go_wp2_with fail;refine(Vy h).mono ?_;rintro e F ⟨rfl,rfl⟩;go_wp2_with fail;refine(z7C h.c2 h.f2 G (by omega)).mono ?_;rintro e F ⟨rfl,rfl⟩;go_wp2;go_ret2;exact⟨rfl,rfl⟩
end
theorem z9c {B:Nat}{w:World}{v:Value}{l:List UInt8} (h:ql B w v l) (A:Option Addr) (n c:Nat) (e:v=.slice A n c):ql B w (.slice A 0 c) []:=by
 subst e;refine⟨rfl,?_⟩;rcases h.2 with ⟨e,_⟩|⟨g,xz,cur,e,hg,I,J,G,F,K⟩
 ·cases e;exact .inl ⟨rfl,rfl⟩
 ·cases e;exact .inr ⟨g,c,cur,rfl,hg,I,Nat.zero_le _,G,F,by simp[z4]⟩
theorem Jy {ops:Array Oper}{rest:List Oper}{o:Oper}{a:Act}{Q:Exit->Act->World->Prop}{w:World} (J:o.guard=none) (s y:Operand)
  (I:o.op=.call { callee:=.builtin .append,args:=#[s,y],argTypes:=#[33,3] })
  {B:Nat} {v:Value} {l:List UInt8} {k:Nat} (M:a.eval s=v) (a2:a.eval y=.int .i64 (k:Int)) (a0:ql B w v l) (K:l.length+k<=140737488355328) (a1:B<=w.heap.size)
  (h:∀A c w',ql B w' (.slice A (l.length+k) c) (l ++ List.replicate k 0)->w.grownBy w' v.ownBlock->wpList prog ops Q rest (a.put o.dst (.slice A (l.length+k) c)) w'):
  wpList prog ops Q (o :: rest) a w:=by
 obtain⟨a3,w',G,F,N,_⟩:=YO k o.type a0 K a1;obtain⟨A,c,rfl⟩:=F.byt.shape;have e:(l ++ List.replicate k (0:UInt8)).length=l.length+k:=by simp
 rw[e]at F G;exact wpList_plain J fun _ O=>Lib.wp_append_run w s y _ _ I _ _ M a2 _ w' G (O _ _ (h A c w' F N))
theorem z9d (n:Nat) (w:World) (M:n<=140737488355328):
  Calls prog 176 #[.slice none 0 0,.int .i64 (n:Int)] w fun e w'=>∃v,e=.returned v/\ql w.heap.size w' v []/\Below w.heap.size w w':=by
 by_cases K:n=0
 ·subst K;go_enter func176,ntmps176;go_wp2;go_ret;exact⟨_,rfl,ql.nil _ _,Below.refl _ _⟩
 ·have a0:(0:Int)<(n:Int):=by omega
  have a1:¬(n:Int)<0:=by omega
  have I:([]:List UInt8).length+n<=140737488355328:=by simpa using M
  go_enter func176,ntmps176;go_wp2_with (at_builtin;refine Jy rfl (.tmp 20) (.tmp 21) rfl rfl rfl (ql.nil w.heap.size w) I (Nat.le_refl _) ?_;intro A1 c1 O F J;have N:=F.byt.at_.2.2.1;unfold maxLen at N);go_ret;exact⟨_,rfl,z9c F _ _ _ rfl,(Below.refl _ _).grown J (Nat.le_refl _) (fun k G=>by cases G)⟩
theorem XZ (F:List (List UInt8)) (a0:Nat->Value) (g n c:Nat) (w:World) (a7:F.length=n) (hg:g<w.heap.size) (N:∀j,j<n->w.cell? ⟨g,j,none⟩=some (a0 j))
  (M:∀j (h:j<F.length),zP w (a0 j) F[j]) (ap:F.flatten.length<=1099511627776) (aq:n<=1000):
  Calls prog 133 #[.slice (some ⟨g,0,none⟩) n c] w fun e w'=>∃v,e=.returned v/\ql w.heap.size w' v F.flatten/\Below w.heap.size w w':=by
 go_enter func133,ntmps133;have O:=z0 a7;clear a7;go_wp2;go_loop [3,11] (fun ag G=>∃k:Nat,k<=n/\G=.int .i64 k/\ag=.int .i64 (tot F k)) (fun _ G=>n - (intOf G).toNat)
 case atStart=>exact⟨0,Nat.zero_le _,rfl,by rw[z3I];rfl⟩
 case round=>
  obtain⟨k,a9,rfl,rfl⟩:=hrel;have aw:=Kk F k;by_cases a5:k<n
  ·have I:k<F.length:=by rw[O.o];exact a5
   have ae:=N k a5;obtain⟨A,ar,a4,_⟩:=M k I;have a1:=Vn F k I;have av:=Kk F (k+1);have ao:tot F k+F[k].length<=1099511627776:=by omega
   have au:¬((tot F k:Int)+(F[k].length:Int)<0):=by omega
   rw[a4]at ae;have ai:=z0 a1;clear a1 a4 N M;go_wp2;go_round
   case rel=>exact⟨k+1,by omega,by go_num,by rw[ai.o];go_num⟩
   case measure=>simp[intOf];omega
  ·obtain rfl:k=n:=by omega
   have ad:tot F k<=140737488355328:=by omega
   go_wp2_with fail;refine(z9d _ w ad).mono ?_;rintro e w0 ⟨v0,rfl,af,aj⟩;go_wp2;go_loopw [6,27] (fun ak G wr=>∃j:Nat,j<=k/\G=.int .i64 j/\ql w.heap.size wr ak (F.take j).flatten/\Below w.heap.size w wr) (fun _ G _=>k - (intOf G).toNat)
   case atStart=>exact⟨0,Nat.zero_le _,rfl,by simpa using af,aj⟩
   case round=>
    obtain⟨j,ax,rfl,K,J⟩:=hrel;by_cases a3:j<k
    ·have I:j<F.length:=by rw[O.o];exact a3
     have an:wr.cell? ⟨g,j,none⟩=some (a0 j):=(J.cell (p:=⟨g,j,none⟩) hg).trans (N j a3);have ah:=(M j I).below J;have al:(F.take j).flatten.length+F[j].length<=140737488355328:=by
      have:=Vn F j I;have:=Kk F (j+1);unfold tot at *;omega
     have a8:=J.size;go_wp2_with (at_builtin;refine z9 rfl (.tmp 31) (.tmp 32) rfl rfl rfl K ah al a8 ?_;intro v1 ab aa a2 _);have a6:(F.take j).flatten ++ F[j]=(F.take (j+1)).flatten:=z1D F j I;have am:Below w.heap.size w ab:=J.grown a2 a8 (fun k a9=>(World.ownsRow.lt K k a9).1);rw[a6]at aa;clear a6 a2;go_roundw
     case rel=>exact⟨j+1,by omega,by go_num,aa,am⟩
     case measure=>simp[intOf];omega
    ·obtain rfl:j=k:=by omega
     go_wp2;go_ret;refine⟨_,rfl,?_,J⟩;have e:F.take j=F:=by rw[<-O.o];exact List.take_length
     rw[e]at K;exact K
theorem zaQ (u:Value) (l:List UInt8) (g c:Nat) (w:World) (hg:g<w.heap.size) (c0:w.cell? ⟨g,0,none⟩=some u) (I:zP w u l) (G:l.length<=1099511627776):
  Calls prog 133 #[.slice (some ⟨g,0,none⟩) 1 c] w fun e w'=>∃v,e=.returned v/\ql w.heap.size w' v l/\Below w.heap.size w w':=by
 have h:=XZ [l] (fun _=>u) g 1 c w rfl hg (fun j F=>by
  match j,F with
  |0,_=>exact c0) (fun j F=>by
  match j,F with
  |0,_=>exact I) (by simpa using G) (by omega)
 simpa using h
theorem Xz (u v:Value) (l m:List UInt8) (g c:Nat) (w:World) (hg:g<w.heap.size) (c0:w.cell? ⟨g,0,none⟩=some u) (c1:w.cell? ⟨g,1,none⟩=some v) (J:zP w u l) (I:zP w v m) (G:l.length+m.length<=1099511627776):
  Calls prog 133 #[.slice (some ⟨g,0,none⟩) 2 c] w fun e w'=>∃x,e=.returned x/\ql w.heap.size w' x (l ++ m)/\Below w.heap.size w w':=by
 have h:=XZ [l,m] (fun j=>if j=0 then u else v) g 2 c w rfl hg (fun j F=>by
  match j,F with
  |0,_=>exact c0
  |1,_=>exact c1) (fun j F=>by
  match j,F with
  |0,_=>exact J
  |1,_=>exact I) (by simpa using G) (by omega)
 simpa using h
theorem Kn:∀(n:Nat) (l:List Int),l.Nodup->(∀x∈l,1<=x/\x<=(n:Int))->l.length<=n
 |0,l,_,h=>by
  rcases l with _|⟨x,l⟩
  ·exact Nat.le_refl _
  ·have:=h x (by simp);omega
 |n+1,l,G,h=>by
  by_cases F:((n+1:Nat):Int)∈l
  ·have hl:=List.length_erase_of_mem F
   have ih:=Kn n (l.erase ((n+1:Nat):Int)) (G.erase _) (fun x hx=>by
    have I:=h x (List.mem_of_mem_erase hx);have J:x≠((n+1:Nat):Int):=fun e=>by
     rw[e]at hx;exact(List.Nodup.not_mem_erase G) hx
    omega)
   have hp:0<l.length:=List.length_pos_of_mem F;omega
  ·have ih:=Kn n l G (fun x hx=>by
    have I:=h x hx;have J:x≠((n+1:Nat):Int):=fun e=>F (by rw[<-e];exact hx)
    omega)
   omega
def qC (n:Int):Nat:=if 1<=n/\n<=21/\n % 2=1 then (n / 2).toNat+1 else 0
end Go.Proofs.YtjlinimnnbfmaaaGreatDoor
