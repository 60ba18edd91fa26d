/-
  Number Text RefRead RefUpto RefText Hash TxPure TxBack TxKey TxMay TxRd TxOk TxRefBytes TxArg BkPure AtPure: what each of them says stands at its head.
-/
import Derived.Test.YtjlinimnnbfmaaaGreatDoorPlBs2
import Derived.StillTailTactics
import Derived.Handy
import Derived.BigRegion
set_option maxRecDepth 20000
set_option maxHeartbeats 6400000
namespace Go.Proofs.YtjlinimnnbfmaaaGreatDoor
open Go.RowKit Go.Proofs.Tryz
theorem zP.cut {w:World}{A:Option Addr}{l:List UInt8}{c p:Nat} (h:zP w (.slice A l.length c) l) (hp:p<=l.length):
  zP w (.slice (if c=p then A else A.map (·.add p)) (l.length - p) (c - p)) (l.drop p):=by
 obtain⟨_,M,N,G⟩:=h.at_;refine⟨_,c - p,by rw[List.length_drop],by rw[List.length_drop];omega,by omega,fun hl=>?_⟩;rw[List.length_drop]at hl;obtain⟨b,J,rfl,F,I⟩:=G (by omega);rw[if_neg (by omega)];refine⟨b,J+p,by rw[Option.map_some,y9],F,fun j K=>?_⟩;rw[List.length_drop]at K;rw[Nat.add_assoc,I (p+j) (by omega),List.getElem_drop]
theorem z5s (g:Nat) (l:List UInt8) (p:Nat) (r:Bool) (most:Nat) (w:World) (F:Qc w g l p r) (hl:l.length<=1099511627776) (_hm:most<18446744073709551616):
  Calls prog 147 #[.pointer (some ⟨g,0,none⟩),.int .u64 (most:Int)] w fun e w'=>
   e=.returned (.int .u64 ((vq most l p r).1:Int))/\Qc w' g l (vq most l p r).2.1 (vq most l p r).2.2/\w.grownBy w' (some g):=by
 cases r with
 |false=>
  have e:vq most l p false=(0,p,false):=Zu _ _ _;rw[e];go_enter func147,ntmps147;go_wp2_with fail;refine(vW g l p false w F).mono ?_;rintro e w' ⟨rfl,rfl⟩;go_wp2;go_ret;exact⟨rfl,F,World.grownBy.refl _ _⟩
 |true=>
  obtain⟨A,c,O,I⟩:=F.ex;have hp:=F.le;have K:=(ql.byt O).cut hp;have c0:=z7 I 0;have c1:=z7 I 1;have a5:=zz I 1;simp at c0 c1;clear O I;cases G:Jx (l.drop p) with
  |none=>
   have e:vq most l p true=(0,p,false):=QE G;rw[e];have a1:=z1B G;clear G e;go_enter func147,ntmps147;go_wp2_with fail;refine(vW g l p true w F).mono ?_;rintro e w' ⟨rfl,rfl⟩;go_wp2_with fail;go_quiet ((go_at_call 181;exact Calls.quiet_of_same ((z95 _ _ _ (K.drewN _) a1).mono fun _ _ h=>⟨h.1,h.2.symm⟩)));go_wp2_with fail;all_goals
    refine(Vp g l p true _ (F.drewN _)).mono ?_;rintro e w' ⟨rfl,rfl⟩;go_wp2;go_ret;exact⟨rfl,(F.drewN _).spoil,(Qf (World.grownBy.refl _ _) _).trans (xH _ g 2 _)⟩
  |some n=>
   obtain⟨M,J⟩:=Zt G;have a6:=zk M;have a4:=Kj n;have a2:=J.length_le;rw[List.length_drop]at a2;have a3:(((dg n).length:Int) == 0)=false:=by rw[beq_eq_false_iff_ne];omega
   by_cases N:n<=most
   ·have e:vq most l p true=(n,p+(dg n).length,true):=Zv G N;rw[e];clear G e;go_enter func147,ntmps147;go_wp2_with fail;refine(vW g l p true w F).mono ?_;rintro e w' ⟨rfl,rfl⟩;go_wp2_with fail;go_quiet ((go_at_call 181;exact Calls.quiet_of_same ((z1C _ _ n _ (K.drewN _) M J).mono fun _ _ h=>⟨h.1,h.2.symm⟩)));go_wp2_with fail;all_goals
     go_ret;have a0:=(F.drewN nq).turn (p+(dg n).length) (by omega);rw[Int.natCast_add]at a0;exact⟨rfl,a0,(Qf (World.grownBy.refl _ _) _).trans (xH _ g 1 _)⟩
   ·have e:vq most l p true=(0,p,false):=Jj G N;rw[e];clear G e;go_enter func147,ntmps147;go_wp2_with fail;refine(vW g l p true w F).mono ?_;rintro e w' ⟨rfl,rfl⟩;go_wp2_with fail;go_quiet ((go_at_call 181;exact Calls.quiet_of_same ((z1C _ _ n _ (K.drewN _) M J).mono fun _ _ h=>⟨h.1,h.2.symm⟩)));go_wp2_with fail;all_goals
     refine(Vp g l p true _ (F.drewN _)).mono ?_;rintro e w' ⟨rfl,rfl⟩;go_wp2;go_ret;exact⟨rfl,(F.drewN _).spoil,(Qf (World.grownBy.refl _ _) _).trans (xH _ g 2 _)⟩
def zQ (most:Int) (l:List UInt8) (p:Nat) (r:Bool):Nat×Nat×Bool:=if most<0 then (0,p,false) else vq most.toNat l p r
theorem z00 {most:Nat}{l:List UInt8}{p:Nat}{r:Bool}:(vq most l p r).1<=most:=by
 unfold vq;split
 ·exact Nat.zero_le _
 ·split
  ·split
   ·assumption
   ·exact Nat.zero_le _
  ·exact Nat.zero_le _
theorem z3P (g:Nat) (l:List UInt8) (p:Nat) (r:Bool) (most:Int) (w:World) (F:Qc w g l p r) (hl:l.length<=1099511627776) (K:-9223372036854775808<=most) (N:most<=9223372036854775807):
  Calls prog 99 #[.pointer (some ⟨g,0,none⟩),.int .i64 most] w fun e w'=>
   e=.returned (.int .i64 ((zQ most l p r).1:Int))/\Qc w' g l (zQ most l p r).2.1 (zQ most l p r).2.2/\w.grownBy w' (some g):=by
 by_cases G:most<0
 ·have e:zQ most l p r=(0,p,false):=by simp[zQ,G]
  rw[e];go_enter func99,ntmps99;go_wp2_with fail;refine(Vp g l p r w F).mono ?_;rintro e w' ⟨rfl,rfl⟩;go_wp2;go_ret;exact⟨rfl,F.spoil,xH _ g 2 _⟩
 ·have e:zQ most l p r=vq most.toNat l p r:=by simp[zQ,G]
  rw[e];obtain⟨m,rfl⟩:=Int.eq_ofNat_of_zero_le (show 0<=most by omega);rw[Int.toNat_natCast];have M:=z00 (most:=m) (l:=l) (p:=p) (r:=r);go_enter func99,ntmps99;go_wp2_with fail;refine(z5s g l p r m w F hl (by omega)).mono ?_;rintro e w' ⟨rfl,J,I⟩;go_wp2;go_ret;exact⟨rfl,J,I⟩
theorem z9e (g:Nat) (l:List UInt8) (p:Nat) (r:Bool) (w:World) (F:Qc w g l p r) (hl:l.length<=1099511627776):
  Calls prog 102 #[.pointer (some ⟨g,0,none⟩)] w fun e w'=>e=.returned (.bool (r && decide (p=l.length)))/\∃n,w'=w.drewN n:=by
 cases r with
 |false=>
  go_enter func102,ntmps102;go_wp2_with fail;refine(vW g l p false w F).mono ?_;rintro e w' ⟨rfl,rfl⟩;go_wp2;go_ret;exact⟨rfl,0,rfl⟩
 |true=>
  go_enter func102,ntmps102;go_wp2_with fail;refine(vW g l p true w F).mono ?_;rintro e w' ⟨rfl,rfl⟩;go_wp2_with fail;refine(XR g l p true w F hl).mono ?_;rintro e w' ⟨rfl,n,rfl⟩;go_wp2;go_ret;refine⟨?_,n,rfl⟩;have e:(((l.length:Int) - (p:Int) == 0):Bool)=decide (p=l.length):=by
   rw[Bool.eq_iff_iff];simp;omega
  rw[e];rfl
theorem zP.mid {w:World}{A:Option Addr}{l:List UInt8}{c q n:Nat} (h:zP w (.slice A l.length c) l) (hq:q+n<=l.length):
  zP w (.slice (if c=q then A else A.map (·.add q)) n (c - q)) ((l.drop q).take n):=by
 obtain⟨_,N,O,I⟩:=h.at_;have F:((l.drop q).take n).length=n:=by rw[List.length_take,List.length_drop];omega
 refine⟨_,c - q,by rw[F],by rw[F];omega,by omega,fun hl=>?_⟩;rw[F]at hl;obtain⟨b,K,rfl,G,J⟩:=I (by omega);rw[if_neg (by omega)];refine⟨b,K+q,by rw[Option.map_some,y9],G,fun j M=>?_⟩;rw[F]at M;rw[Nat.add_assoc,J (q+j) (by omega),List.getElem_take,List.getElem_drop]
theorem z1M (x:Int):0<=IntKind.u64.wrap x/\IntKind.u64.wrap x<18446744073709551616:=by
 simp[IntKind.wrap,IntKind.signed,IntKind.bits];omega
def rv (A:Option Addr) (n c:Nat) (p:Nat) (F:Bool):Value:=.agg #[.slice A n c,.int .i64 (p:Int),.bool F]
def z2D (w:World) (A:Option Addr) (c:Nat) (l:List UInt8) (F:Nat×Nat×Bool) (e:Ending) (w':World):Prop:=
 e=.returned (.tuple #[rv A l.length c F.2.1 (!F.2.2),.int .u64 (F.1:Int)])/\Below w.heap.size w w'
theorem z01 (A:Option Addr) (c p:Nat) (l:List UInt8) (w:World):
  Calls prog 156 #[.agg #[.slice A l.length c,.int .i64 (p:Int),.bool true]] w (z2D w A c l (0,p,false)):=by
 go_enter func156,ntmps156;go_wp2_with fail;refine Bp (v:=.tuple #[.agg #[.slice A l.length c,.int .i64 (p:Int),.bool true],.int .u64 0]) (by simp[results,results156,go_sem]) rfl ⟨rfl,?_⟩;go_grown
def Xp (i:Nat):Nat:=128^i
theorem zaR {i:Nat} (h:i<=8):Xp i<=72057594037927936:=by
 have F:(128:Nat)^8=72057594037927936:=by decide
 unfold Xp;rw[<-F];exact Nat.pow_le_pow_right (by omega) h
theorem z7D {i:Nat} (h:i<=8):IntKind.u64.wrap ((Xp i:Int)*128)=(Xp (i+1):Int):=by
 have F:=zaR h;have e:Xp (i+1)=Xp i*128:=by simp[Xp,Nat.pow_succ]
 rw[qP _ (by omega) (by omega),e];omega
theorem z3Q (n i:Nat) (x:Int) (G:n<18446744073709551616) (hx:x % 128=((n / 128^i % 128:Nat):Int)):
  IntKind.u64.wrap ((low n i:Int)+IntKind.u64.wrap (x % 128*(Xp i:Int)))=(low n (i+1):Int):=by
 have F:low n i+n / 128^i % 128*128^i<=n:=by
  rw[<-Vm];exact Nat.mod_le _ _
 rw[hx,Vm];unfold Xp;generalize n / 128^i % 128=d at *;have e:(d:Int)*((128^i:Nat):Int)=((d*128^i:Nat):Int):=by rw[Int.natCast_mul]
 rw[e,qP ((d*128^i:Nat):Int) (by omega) (by omega),qP _ (by omega) (by omega)];omega
theorem z02 (A:Option Addr) (c p n:Nat) (l:List UInt8) (w:World) (af:zP w (.slice A l.length c) l) (hp:p<=l.length) (hl:l.length<=1099511627776) (ah:Jx (l.drop p)=some n):
  Calls prog 156 #[.agg #[.slice A l.length c,.int .i64 (p:Int),.bool false]] w (z2D w A c l (n,p+(dg n).length,true)):=by
 obtain⟨ag,a5⟩:=Zt ah;have aO:=zk ag;have aR:=Kj n;have ar:=a5.length_le;rw[List.length_drop]at ar;obtain⟨_,b4,aA,ao⟩:=af.at_;unfold maxLen at aA;obtain⟨b,F,rfl,b1,ak⟩:=ao (by omega);obtain⟨k,a4⟩:=nm ((dg n).length:Nat);rw[a4.o]at aO aR ar⊢;have ap:∀i (h:i<k),(i+1<k->(l[p+i]'(by omega)).toNat=128+n / 128^i % 128)/\(i+1=k->(l[p+i]'(by omega)).toNat=n / 128^i/\n / 128^i<128):=by
  intro i h;have I:i<(dg n).length:=by rw[a4.o];exact h
  have e:l[p+i]'(by omega)=(dg n)[i]:=by
   rw[a5.getElem I,List.getElem_drop]
  have:=z92 n i I;rw[a4.o]at this;rw[e];exact⟨this.1,fun h=>⟨(this.2 h).1,(this.2 h).2.1⟩⟩
 have aC:=z0 ap;have az:=z0 ak;have aU:=z0 a5;have b0:=z0 ah;have aK:=z0 af;clear ap ak a5 ah ao af;go_enter func156,ntmps156;go_wp2_with fail;go_loop [4,5,6] (fun sa aE ab=>∃i:Nat,i<k/\ab=.int .i64 i/\sa=.int .u64 (low n i:Int)/\aE=.int .u64 (Xp i:Int)) (fun _ _ ab=>10 - (intOf ab).toNat)
 case atStart=>exact⟨0,by omega,rfl,by rw[z3H];rfl,rfl⟩
 case round=>
  obtain⟨i,aM,rfl,rfl,rfl⟩:=hrel;have aF:p+i<l.length:=by omega
  have aj:=az.o (p+i) aF;have hx:=aC.o i aM;obtain⟨x,aY,bf,a2⟩:∃x:Int,0<=x/\x<=255/\Hd ((l[p+i].toNat:Int)=x):=⟨_,(yW l[p+i]).1,(yW l[p+i]).2,z0 rfl⟩
  unfold z3 at aj;rw[a2.o]at aj;have b5:(i:Int)<10:=by omega
  have ba:(p:Int)+(i:Int)<(l.length:Int):=by omega
  by_cases am:i+1<k
  ·have aa:=hx.1 am;have aN:128<=x:=by rw[<-a2.o];omega
   have ai:=z0 (z3Q n i x ag (by rw[<-a2.o];omega));have aP:=z0 (z7D (i:=i) (by omega));clear hx aa;go_wp2;go_round
   case rel=>exact⟨i+1,am,by go_num,by rw[ai.o],by rw[aP.o]⟩
   case measure=>simp[intOf];omega
  ·obtain⟨aa,al⟩:=hx.2 (by omega);have aN:x<128:=by rw[<-a2.o];omega
   have I:i+1=k:=by omega
   have ax:low n k=n:=by
    refine z6V n k ?_;rw[<-I,Nat.pow_succ,Nat.mul_comm];have:=Nat.pow_pos (n:=i) (show 0<128 by omega);exact(Nat.div_lt_iff_lt_mul this).1 al
   have a9:=z3Q n i x ag (by rw[<-a2.o];omega);rw[I,ax]at a9;have ai:=z0 a9;have aB:=z0 I;have b9:IntKind.i64.wrap ((p:Int)+(i:Int))=(p:Int)+(i:Int):=IntWalk.i64_in _ (by omega);have b7:IntKind.i64.wrap ((p:Int)+(i:Int)+1)=(p:Int)+(i:Int)+1:=IntWalk.i64_in _ (by omega);have b6:((p:Int)+(i:Int)+1).toNat=p+i+1:=by omega
   have s1:0<=(p:Int)+(i:Int)+1:=by omega
   have aW:(p:Int)+(i:Int)+1<=(c:Int):=by omega
   have aX:(p:Int)<=(p:Int)+(i:Int)+1:=by omega
   have aL:¬c=p:=by omega
   have ad:=z1M ((low n i:Int)+IntKind.u64.wrap (x % 128*(Xp i:Int)));have hcut:dg n=(l.drop p).take k:=by
    have:=List.prefix_iff_eq_take.1 aU.o;rw[a4.o]at this;exact this
   have aJ:=z0 hcut
   have aV:Hd (∀w':World,Below w.heap.size w w'->zP w' (.slice (some ⟨b,F+p,none⟩) (p+i+1 - p) (c - p)) ((l.drop p).take k)):=z0 (fun w' aQ=>by
    have:=(aK.o.below aQ).mid (q:=p) (n:=k) (by omega);rw[if_neg aL,Option.map_some,y9]at this;rw[show p+i+1 - p=k from by omega]
    exact this)
   clear hx aa al ax a9 I hcut;go_wp2_with fail;obtain⟨N,aq⟩:=nm (IntKind.u64.wrap ((low n i:Int)+IntKind.u64.wrap (x % 128*(Xp i:Int))):Int);rw[aq.o]at ad⊢;have ay:Hd (N=(n:Int)):=z0 (aq.o.symm.trans ai.o);have a6:Below w.heap.size w ((w.alloc (.cells #[.slice (some ⟨b,F,none⟩) l.length c,.int .i64 (p:Int),.bool false] 175)).alloc (.cells #[.slice none 0 0,.int .i64 0,.bool false] 175)):=Ba.alloc (by simp) _;have a3:=heap_alloc2_old w (.cells #[.slice (some ⟨b,F,none⟩) l.length c,.int .i64 (p:Int),.bool false] 175) (.cells #[.slice none 0 0,.int .i64 0,.bool false] 175);have an:=heap_alloc2_new w (.cells #[.slice (some ⟨b,F,none⟩) l.length c,.int .i64 (p:Int),.bool false] 175) (.cells #[.slice none 0 0,.int .i64 0,.bool false] 175);generalize ((w.alloc (.cells #[.slice (some ⟨b,F,none⟩) l.length c,.int .i64 (p:Int),.bool false] 175)).alloc (.cells #[.slice none 0 0,.int .i64 0,.bool false] 175))=w0 at *;have a1:=z7 a3 0;have a0:=z7 a3 1;simp at a1 a0;have O:=Lb a3;have aH:=z0 a3;have aw:=z0 an;clear a3 an;have aD:Below w0.heap.size w0 w0.drew:=(Below.refl _ _).drew;go_region_held3 (fun w'=>w'.cell? ⟨w.heap.size,0,none⟩=some (.slice (some ⟨b,F,none⟩) l.length c)/\w'.cell? ⟨w.heap.size,1,none⟩=some (.int .i64 (p:Int)))
    (first
     |(refine⟨a1,a0⟩)
     |(refine⟨(J.cell (p:=⟨w.heap.size,0,none⟩) O).trans a1,(J.cell (p:=⟨w.heap.size,1,none⟩) O).trans a0⟩)
     |(refine⟨(K.cell (p:=⟨w.heap.size,0,none⟩) O).trans a1,(K.cell (p:=⟨w.heap.size,1,none⟩) O).trans a0⟩)
     |fail)
    (first
     |(go_at_call 142;refine(yc N _ ad.1 ad.2).mono ?_;rintro e a7 ⟨bd,rfl,ae,au⟩;rw[ay.o,Int.toNat_natCast,aJ.o]at ae;have K:Below w0.heap.size w0 a7:=aD.trans au)
     |(go_at_call 47;refine(XV _ _ _ _ ae.byt (aV.o _ (a6.trans (K.mono a6.size)))).mono ?_;rintro e w' ⟨rfl,a8,rfl⟩;have J:Below w0.heap.size w0 (a7.drewN a8):=zA K a8)
     |fail)
   have M:=(J.block _ O).trans aH.o;have aT:=Lb aw.o;have G:=(J.block _ aT).trans aw.o;have aZ:Below w.heap.size w (a7.drewN a8):=a6.trans (J.mono a6.size);generalize a7.drewN a8=w5 at *;have aG:=z7 M 0;have aS:=z7 M 1;have aI:=z7 M 2;have b8:=zz M 1;have av:=z7 G 0;have i1:=z7 G 1;have i2:=z7 G 2;have be:=zz G 0;have bb:=zz G 1;have bc:=zz G 2;simp at aG aS aI av i1 i2;clear a1 a0 K J ae au M G;go_wp2_with fail;refine Bp (v:=.tuple #[.agg #[.slice (some ⟨b,F,none⟩) l.length c,.int .i64 ((p:Int)+(i:Int)+1),.bool false],.int .u64 N]) (by simp[results,results156,go_sem,av,i1,i2]) rfl ⟨?_,?_⟩
   ·rw[ay.o,<-aB.o];unfold rv;simp only[Bool.not_true,Int.natCast_add,Int.natCast_one,Int.add_assoc]
   ·go_grown
theorem zaS (u v:Value) (l m:List UInt8) (w:World) (I:zP w u l) (G:zP w v m) (F:l≠m):
  Calls prog 47 #[u,v] w fun e w'=>e=.returned (.bool false)/\∃n,w'=w.drewN n:=by
 have h:=XU u v l m w I G;rw[decide_eq_false F]at h;exact h
theorem z1g (A:Option Addr) (c p:Nat) (l:List UInt8) (w:World) (a9:zP w (.slice A l.length c) l) (hp:p<=l.length) (hl:l.length<=1099511627776) (al:Jx (l.drop p)=none):
  Calls prog 156 #[.agg #[.slice A l.length c,.int .i64 (p:Int),.bool false]] w (z2D w A c l (0,p,false)):=by
 have aj:=z1B al;obtain⟨_,aQ,an,ae⟩:=a9.at_;unfold maxLen at an;have ao:=z0 ae;have am:=z0 aj;have aA:=z0 a9;have F:Below w.heap.size w ((w.alloc (.cells #[.slice A l.length c,.int .i64 (p:Int),.bool false] 175)).alloc (.cells #[.slice none 0 0,.int .i64 0,.bool false] 175)):=Ba.alloc (by simp) _;have G:=heap_alloc2_old w (.cells #[.slice A l.length c,.int .i64 (p:Int),.bool false] 175) (.cells #[.slice none 0 0,.int .i64 0,.bool false] 175);have a0:=heap_alloc2_new w (.cells #[.slice A l.length c,.int .i64 (p:Int),.bool false] 175) (.cells #[.slice none 0 0,.int .i64 0,.bool false] 175);have a6:=z0 F;have af:=z0 G;have ab:=z0 a0;clear aj al ae a9 F G a0;go_enter func156,ntmps156;go_wp2_with fail;go_loop [4,5,6] (fun sa aq a7=>∃(i:Nat) (a u:Int),i<=10/\p+i<=l.length/\a7=.int .i64 i/\sa=.int .u64 a/\aq=.int .u64 u) (fun _ _ a7=>10 - (intOf a7).toNat)
 case atStart=>exact⟨0,0,1,by omega,by omega,rfl,rfl,rfl⟩
 case round=>
  obtain⟨i,a,u,aT,aX,rfl,rfl,rfl⟩:=hrel;by_cases aG:i<10/\p+i<l.length
  ·obtain⟨aK,ar⟩:=aG;obtain⟨b,a3,rfl,aP,ad⟩:=ao.o (by omega);have aa:=ad (p+i) ar;obtain⟨x,aM,b5,az⟩:∃x:Int,0<=x/\x<=255/\Hd ((l[p+i].toNat:Int)=x):=⟨_,(yW l[p+i]).1,(yW l[p+i]).2,z0 rfl⟩
   unfold z3 at aa;rw[az.o]at aa;have ay:(i:Int)<10:=by omega
   have aI:(p:Int)+(i:Int)<(l.length:Int):=by omega
   clear ad;by_cases aN:128<=x
   ·go_wp2;go_round
    case rel=>exact⟨i+1,_,_,by omega,by omega,by go_num,rfl,rfl⟩
    case measure=>simp[intOf];omega
   ·have aU:x<128:=by omega
    have aW:IntKind.i64.wrap ((p:Int)+(i:Int))=(p:Int)+(i:Int):=IntWalk.i64_in _ (by omega);have aV:IntKind.i64.wrap ((p:Int)+(i:Int)+1)=(p:Int)+(i:Int)+1:=IntWalk.i64_in _ (by omega);have aS:((p:Int)+(i:Int)+1).toNat=p+i+1:=by omega
    have s1:0<=(p:Int)+(i:Int)+1:=by omega
    have aJ:(p:Int)+(i:Int)+1<=(c:Int):=by omega
    have aL:(p:Int)<=(p:Int)+(i:Int)+1:=by omega
    have aB:¬c=p:=by omega
    have a8:=z1M (a+IntKind.u64.wrap (x % 128*u))
    have aH:Hd (∀w':World,Below w.heap.size w w'->zP w' (.slice (some ⟨b,a3+p,none⟩) (p+i+1 - p) (c - p)) ((l.drop p).take (i+1))):=z0 (fun w' aD=>by
     have:=(aA.o.below aD).mid (q:=p) (n:=i+1) (by omega);rw[if_neg aB,Option.map_some,y9]at this;rw[show p+i+1 - p=i+1 from by omega]
     exact this)
    go_wp2_with fail;obtain⟨N,aw⟩:=nm (IntKind.u64.wrap (a+IntKind.u64.wrap (x % 128*u)):Int);rw[aw.o]at a8⊢;have aC:Hd (dg N.toNat≠(l.drop p).take (i+1)):=z0 (fun e=>am.o N.toNat (by omega) (by rw[e];exact List.take_prefix _ _));have F:=a6.o;have G:=af.o;have a0:=ab.o;generalize ((w.alloc (.cells #[.slice (some ⟨b,a3,none⟩) l.length c,.int .i64 (p:Int),.bool false] 175)).alloc (.cells #[.slice none 0 0,.int .i64 0,.bool false] 175))=w0 at *;have a2:=z7 G 0;have a1:=z7 G 1;simp at a2 a1;have O:=Lb G;have av:=z0 G;have ai:=z0 a0;clear G a0 af ab a6;have ap:Below w0.heap.size w0 w0.drew:=(Below.refl _ _).drew;go_region_held3 (fun w'=>w'.cell? ⟨w.heap.size,0,none⟩=some (.slice (some ⟨b,a3,none⟩) l.length c)/\w'.cell? ⟨w.heap.size,1,none⟩=some (.int .i64 (p:Int)))
     (first
      |(refine⟨a2,a1⟩)
      |(refine⟨(J.cell (p:=⟨w.heap.size,0,none⟩) O).trans a2,(J.cell (p:=⟨w.heap.size,1,none⟩) O).trans a1⟩)
      |(refine⟨(K.cell (p:=⟨w.heap.size,0,none⟩) O).trans a2,(K.cell (p:=⟨w.heap.size,1,none⟩) O).trans a1⟩)
      |fail)
     (first
      |(go_at_call 142;refine(yc N _ a8.1 a8.2).mono ?_;rintro e a4 ⟨b1,rfl,ak,ag⟩;have K:Below w0.heap.size w0 a4:=ap.trans ag)
      |(go_at_call 47;refine(zaS _ _ _ _ _ ak.byt (aH.o _ (F.trans (K.mono F.size))) aC.o).mono ?_;rintro e w' ⟨rfl,a5,rfl⟩;have J:Below w0.heap.size w0 (a4.drewN a5):=zA K a5)
      |fail)
    have M:=(J.block _ O).trans av.o;have aF:=Lb ai.o;have I:=(J.block _ aF).trans ai.o;have aO:Below w.heap.size w (a4.drewN a5):=F.trans (J.mono F.size);generalize a4.drewN a5=w5 at *;have au:=z7 M 0;have aE:=z7 M 1;have ax:=z7 M 2;have aR:=zz M 2;have ah:=z7 I 0;have i1:=z7 I 1;have i2:=z7 I 2;have b4:=zz I 0;have aY:=zz I 1;have b0:=zz I 2;simp at au aE ax ah i1 i2;clear a2 a1 K J ak ag M I;go_wp2_with fail;refine Bp (v:=.tuple #[.agg #[.slice (some ⟨b,a3,none⟩) l.length c,.int .i64 (p:Int),.bool true],.int .u64 0]) (by simp[results,results156,go_sem,ah,i1,i2]) rfl ⟨rfl,?_⟩;go_grown
  ·have F:=a6.o;by_cases ay:i<10
   ·have aZ:¬(p:Int)+(i:Int)<(l.length:Int):=by omega
    go_wp2_with fail;refine Bp (v:=.tuple #[.agg #[.slice A l.length c,.int .i64 (p:Int),.bool true],.int .u64 0]) (by simp[results,results156,go_sem]) rfl ⟨rfl,?_⟩;go_grown
   ·obtain rfl:i=10:=by omega
    go_wp2_with fail;refine Bp (v:=.tuple #[.agg #[.slice A l.length c,.int .i64 (p:Int),.bool true],.int .u64 0]) (by simp[results,results156,go_sem]) rfl ⟨rfl,?_⟩;go_grown
theorem YP (A:Option Addr) (c p:Nat) (r:Bool) (l:List UInt8) (w:World) (G:zP w (.slice A l.length c) l) (hp:p<=l.length) (hl:l.length<=1099511627776):
  Calls prog 156 #[.agg #[.slice A l.length c,.int .i64 (p:Int),.bool (!r)]] w (z2D w A c l (vq 18446744073709551615 l p r)):=by
 cases r with
 |false=>rw[Zu];exact z01 A c p l w
 |true=>
  cases F:Jx (l.drop p) with
  |none=>rw[QE F];exact z1g A c p l w G hp hl F
  |some n=>rw[Zv F (by have:=(Zt F).1;omega)];exact z02 A c p n l w G hp hl F
def z2E (w:World) (A:Option Addr) (c:Nat) (l:List UInt8) (F:Nat×Nat×Bool) (e:Ending) (w':World):Prop:=
 e=.returned (.tuple #[rv A l.length c F.2.1 (!F.2.2),.int .i64 (F.1:Int)])/\Below w.heap.size w w'
theorem Qh (A:Option Addr) (c p:Nat) (r:Bool) (l:List UInt8) (most:Int) (w:World) (a2:zP w (.slice A l.length c) l) (hp:p<=l.length) (hl:l.length<=1099511627776)
  (n ab:Nat) (r':Bool) (a4:vq 18446744073709551615 l p r=(n,ab,r')) (af:-9223372036854775808<=most) (ao:most<=9223372036854775807)
  (a9:r'=false\/(r'=true/\most<0)\/(r'=true/\0<=most/\most<(n:Int))) (_hn:n<18446744073709551616):
  Calls prog 108 #[.agg #[.slice A l.length c,.int .i64 (p:Int),.bool (!r)],.int .i64 most] w (z2E w A c l (0,p,false)):=by
 have ad:=z0 a4;have N:Below w.heap.size w ((w.alloc (.cells #[.slice A l.length c,.int .i64 (p:Int),.bool (!r)] 175)).alloc (.cells #[.slice none 0 0,.int .i64 0,.bool false] 175)):=Ba.alloc (by simp) _;have a1:=heap_alloc2_old w (.cells #[.slice A l.length c,.int .i64 (p:Int),.bool (!r)] 175) (.cells #[.slice none 0 0,.int .i64 0,.bool false] 175);have O:=heap_alloc2_new w (.cells #[.slice A l.length c,.int .i64 (p:Int),.bool (!r)] 175) (.cells #[.slice none 0 0,.int .i64 0,.bool false] 175);have a0:=a2.below N;have an:w.heap.size+1<((w.alloc (.cells #[.slice A l.length c,.int .i64 (p:Int),.bool (!r)] 175)).alloc (.cells #[.slice none 0 0,.int .i64 0,.bool false] 175)).heap.size:=by simp
 have a6:=z0 N;have a5:=z0 a1;have a3:=z0 O;clear a4 a1 O N;go_enter func108,ntmps108;go_wp2_with fail;generalize ((w.alloc (.cells #[.slice A l.length c,.int .i64 (p:Int),.bool (!r)] 175)).alloc (.cells #[.slice none 0 0,.int .i64 0,.bool false] 175))=w0 at *;have C:=YP A c p r l w0 a0 hp hl;rw[ad.o]at C;refine C.mono ?_;clear C;rintro e K ⟨rfl,I⟩;unfold rv;have G:=(I.block _ (by omega)).trans a5.o;have F:=(I.block _ (by omega)).trans a3.o;have au:Below w.heap.size w K:=a6.o.trans (I.mono (by omega));have ag:=I.size;have aa:=z7 G 0;have a8:=z7 G 1;have ae:=z7 G 2;have aj:=zz G 2;have J:=z7 F 0;have i1:=z7 F 1;have i2:=z7 F 2;have ar:=zz F 0;have ak:=zz F 1;have aq:=zz F 2;simp at aa a8 ae J i1 i2;have ai:w.heap.size<K.heap.size:=by omega
 have M:w.heap.size+1<K.heap.size:=by omega
 clear G F I a0 a5 a3 a6 a2;rcases a9 with a7|⟨rfl,ap⟩|⟨rfl,ah,al⟩
 ·subst a7;go_wp2_with fail;refine Bp (v:=.tuple #[.agg #[.slice A l.length c,.int .i64 (p:Int),.bool true],.int .i64 0]) (by simp[results,results108,go_sem,J,i1,i2,M]) rfl ⟨rfl,?_⟩;go_grown
 ·go_wp2_with fail;refine Bp (v:=.tuple #[.agg #[.slice A l.length c,.int .i64 (p:Int),.bool true],.int .i64 0]) (by simp[results,results108,go_sem,J,i1,i2,M]) rfl ⟨rfl,?_⟩;go_grown
 ·have am:¬most<0:=by omega
  go_wp2_with fail;refine Bp (v:=.tuple #[.agg #[.slice A l.length c,.int .i64 (p:Int),.bool true],.int .i64 0]) (by simp[results,results108,go_sem,J,i1,i2,M]) rfl ⟨rfl,?_⟩;go_grown
theorem z3R (A:Option Addr) (c p:Nat) (r:Bool) (l:List UInt8) (most:Int) (w:World) (a0:zP w (.slice A l.length c) l) (hp:p<=l.length) (hl:l.length<=1099511627776)
  (n J:Nat) (a1:vq 18446744073709551615 l p r=(n,J,true)) (ab:most<=9223372036854775807) (a7:(n:Int)<=most):
  Calls prog 108 #[.agg #[.slice A l.length c,.int .i64 (p:Int),.bool (!r)],.int .i64 most] w (z2E w A c l (n,J,true)):=by
 have a5:=z0 a1;have I:Below w.heap.size w ((w.alloc (.cells #[.slice A l.length c,.int .i64 (p:Int),.bool (!r)] 175)).alloc (.cells #[.slice none 0 0,.int .i64 0,.bool false] 175)):=Ba.alloc (by simp) _;have M:=heap_alloc2_new w (.cells #[.slice A l.length c,.int .i64 (p:Int),.bool (!r)] 175) (.cells #[.slice none 0 0,.int .i64 0,.bool false] 175);have O:=a0.below I;have aa:w.heap.size+1<((w.alloc (.cells #[.slice A l.length c,.int .i64 (p:Int),.bool (!r)] 175)).alloc (.cells #[.slice none 0 0,.int .i64 0,.bool false] 175)).heap.size:=by simp
 have a3:=z0 I;have a2:=z0 M;have ad:0<=most:=by omega
 clear a1 M I;go_enter func108,ntmps108;go_wp2_with fail;generalize ((w.alloc (.cells #[.slice A l.length c,.int .i64 (p:Int),.bool (!r)] 175)).alloc (.cells #[.slice none 0 0,.int .i64 0,.bool false] 175))=w0 at *;have C:=YP A c p r l w0 O hp hl;rw[a5.o]at C;refine C.mono ?_;clear C;rintro e K ⟨rfl,G⟩;unfold rv;have F:=(G.block _ (by omega)).trans a2.o;have ah:Below w.heap.size w K:=a3.o.trans (G.mono (by omega));have a6:=G.size;have N:=z7 F 0;have i1:=z7 F 1;have i2:=z7 F 2;have ag:=zz F 0;have a8:=zz F 1;have af:=zz F 2;simp at N i1 i2;have a4:w.heap.size+1<K.heap.size:=by omega
 have a9:¬most<0:=by omega
 have ae:¬most<(n:Int):=by omega
 clear F G O a2 a3 a0;go_wp2_with fail;refine Bp (v:=.tuple #[.agg #[.slice A l.length c,.int .i64 (J:Int),.bool false],.int .i64 (n:Int)]) (by simp[results,results108,go_sem,N,i1,i2,a4]) rfl ⟨rfl,?_⟩;go_grown
theorem z3S (A:Option Addr) (c p:Nat) (r:Bool) (l:List UInt8) (most:Int) (w:World) (G:zP w (.slice A l.length c) l) (hp:p<=l.length) (hl:l.length<=1099511627776)
  (J:-9223372036854775808<=most) (I:most<=9223372036854775807):
  Calls prog 108 #[.agg #[.slice A l.length c,.int .i64 (p:Int),.bool (!r)],.int .i64 most] w (z2E w A c l (zQ most l p r)):=by
 cases r with
 |false=>
  have e:zQ most l p false=(0,p,false):=by unfold zQ;split;rfl;exact Zu _ _ _
  rw[e];exact Qh A c p false l most w G hp hl 0 p false (Zu _ _ _) J I (.inl rfl) (by omega)
 |true=>
  cases F:Jx (l.drop p) with
  |none=>
   have e:zQ most l p true=(0,p,false):=by unfold zQ;split;rfl;exact QE F
   rw[e];exact Qh A c p true l most w G hp hl 0 p false (QE F) J I (.inl rfl) (by omega)
  |some n=>
   have O:=(Zt F).1;have M:vq 18446744073709551615 l p true=(n,p+(dg n).length,true):=Zv F (by omega);by_cases K:most<0
   ·have e:zQ most l p true=(0,p,false):=by unfold zQ;rw[if_pos K]
    rw[e];exact Qh A c p true l most w G hp hl n _ true M J I (.inr (.inl ⟨rfl,K⟩)) O
   ·by_cases N:n<=most.toNat
    ·have e:zQ most l p true=(n,p+(dg n).length,true):=by unfold zQ;rw[if_neg K,Zv F N]
     rw[e];exact z3R A c p true l most w G hp hl n _ M I (by omega)
    ·have e:zQ most l p true=(0,p,false):=by unfold zQ;rw[if_neg K,Jj F N]
     rw[e];exact Qh A c p true l most w G hp hl n _ true M J I (.inr (.inr ⟨rfl,by omega,by omega⟩)) O
theorem ql.set {B g:Nat}{w:World}{v:Value}{l:List UInt8} (h:ql B w v l) (F:v.ownBlock≠some g) (i:Nat) (u:Value):ql B (w.setCell ⟨g,i,none⟩ u) v l:=ownsRow_setCell_other h F u
theorem YQ (v:Value) (l h:List UInt8) (w:World) (a4:zP w v l) (az:l.length<=1099511000000) (a7:h.length=32):
  Calls prog 130 #[v,.agg (z2 h)] w fun e w'=>∃x,e=.returned x/\ql w.heap.size w' x (l ++ h)/\Below w.heap.size w w':=by
 obtain⟨a3,am,ae,av,ab⟩:=info_parts vV;obtain⟨A,c,rfl⟩:=a4.shape;have aw:a3.bytes*(l.length+32)<=281474976710656:=by rw[ab];omega
 have ah:l.length+32<=maxLen:=by unfold maxLen;omega
 go_enter func130,ntmps130;go_wp2_with (at_make;refine wpList_make_full _ rfl _ _ 33 rfl w.heap.size 5 a3 (.int .u8 0) 1 zG am ae av _ _ _ _ (l.length+32) rfl rfl (by simp) (by simp) aw ah (by simp) ?_);intro J a0 K;have a2:(madeCells #[Value.int IntKind.u8 0] (l.length+32)).toList=z4 (List.replicate (l.length+32) 0):=by
  rw[toList_madeCells_one];simp[z4,z3]
 have aa:ql (w.heap.size+1) J (.slice (some ⟨w.heap.size+1,0,none⟩) (l.length+32) (l.length+32)) (List.replicate (l.length+32) 0):=by
  unfold ql;rw[List.length_replicate,<-a2];refine⟨a0.1,?_⟩;rcases a0.2 with ⟨e,_⟩|⟨g,xz,cur,e,_,r⟩
  ·injection e with e;cases e
  ·refine .inr ⟨g,xz,cur,e,?_,r⟩;injection e with e;injection e with e;injection e with e;omega
 obtain⟨g,G,_,a8⟩:=z97 aa (by omega);injection G with G;injection G with G;subst G;have N:J.heap[w.heap.size]?=some (.cells (z2 h) 38 (0,0)):=(K.block _ (by simp) (by simp)).trans (Xh w _);have a1:Below w.heap.size w J:=Ba.grown K (by simp) (fun k I=>by cases I);have a9:=a4.below a1;have a5:=z0 (show l.length=Nat.min l.length (l.length+32) from(Nat.min_eq_left (by omega)).symm);clear a2 aa a0 K;go_wp2_with (refine YA rfl (.tmp 10) (.tmp 11) rfl rfl rfl a9 a8 a5.o (fun _=>rfl) (by simp) ?_);intro F M ad ai;have ar:F.heap[w.heap.size]?=some (.cells (z2 h) 38 (0,0)):=(M.block _ (Lb N) (by simp)).trans N;have an:Below w.heap.size w F:=a1.grown M a1.size (fun k I=>by injection I;omega);have af:zP F (.slice (some ⟨w.heap.size,0,none⟩) 32 32) h:=z5n ar a7.symm (by unfold maxLen;omega);have au:=z0 (show 32=Nat.min h.length 32 by rw[a7];rfl);have ax:¬(l.length+32=l.length):=by omega
 have ay:(l.length:Int)<=(l.length:Int)+32:=by omega
 clear a5 a9 a8 N M;go_wp2_with fail;go_still_tail 5,(by kernel_rfl)
 change wpList _ _ _ _ _ F.drew;have ak:Hd (F.drew.heap[w.heap.size+1]?=_):=ad;have ao:zP F.drew _ _:=af;have a6:Below w.heap.size w F.drew:=an.drew;have aA:F.drew.heap.size=J.heap.size:=ai;generalize F.drew=aB at *;go_wp2_with (refine YA rfl (.tmp 16) (.tmp 17) rfl rfl rfl ao ak.o au.o (fun _=>rfl) (by simp[splice]) ?_);intro ag aq aj aC;have al:Below w.heap.size w ag:=a6.grown aq a6.size (fun k I=>by injection I;omega);go_wp2;go_ret;have ap:splice (splice (List.replicate (l.length+32) 0) 0 l) l.length (h.take 32)=l ++ h:=by
  rw[List.take_of_length_le (by omega),XT _ l h (by simp;omega)]
 refine⟨_,rfl,?_,al⟩;have O:=aj.o;first
  |rw[ap]at O
  |(rw[show splice (splice (List.replicate (l.length+32) 0) 0 l) l.length h=l ++ h from by rw[XT _ l h (by simp;omega)]]at O)
 exact xJ O (by omega) (by simp;omega) (by unfold maxLen;omega)
theorem z1N (g:Nat) (l:List UInt8) (p:Nat) (r:Bool) (w:World) (N:Qc w g l p r) (hl:l.length<=1099511627776):
  Calls prog 101 #[.pointer (some ⟨g,0,none⟩)] w fun e w'=>e=.returned (.agg (z2 (yk l p r).1))/\Qc w' g l (yk l p r).2.1 (yk l p r).2.2/\w.grownBy w' (some g):=by
 have aD:=N.lt;have G:Qc ((w.alloc (.cells (z2 zi) 38)).alloc (.cells (z2 zi) 38)) g l p r:=N.below (Ba.alloc (by simp) _);have am:w.grownBy ((w.alloc (.cells (z2 zi) 38)).alloc (.cells (z2 zi) 38)) (some g):=(World.grownBy_alloc w _ _).trans (World.grownBy_alloc _ _ _);cases r with
 |false=>
  have e:yk l p false=(zi,p,false):=by simp[yk,zi]
  rw[e];go_enter func101,ntmps101;go_wp2_with (refine yf rfl rfl ?_);refine(vW g l p false _ G).mono ?_;rintro e w' ⟨rfl,rfl⟩
  go_wp2_with (first
   |(refine xI rfl _ rfl rfl (heap_alloc2_new _ _ _) zw ?_)
   |(refine yg rfl _ _ rfl rfl rfl (heap_alloc2_old _ _ _) zw zw ?_;intro aI al ap aC))
  refine Bp (results_cell_row rfl _ _ w.heap.size _ (z2 zi) (0,0) _ rfl ap.o yH rfl (by rw[yG,zH,zw])) rfl ⟨rfl,?_,?_⟩
  ·exact N.below ((Ba.alloc (by simp) _).grown al (by simp;omega) (fun k J=>by injection J;omega))
  ·exact kS ((Ba.alloc (by simp) _).grown al (by simp;omega) (fun k J=>by injection J;omega)) _
 |true=>
  by_cases ai:p+32<=l.length
  ·have e:yk l p true=((l.drop p).take 32,p+32,true):=by simp[yk,ai]
   rw[e];obtain⟨A,c,ad,ag⟩:=G.ex;have c0:=z7 ag 0;have c1:=z7 ag 1;simp at c0 c1;have aB:=(ql.byt ad).at_.2.1;have ar:¬c=p:=by omega
   have ax:¬((l.length:Int) - (p:Int)<32):=by omega
   have aA:(p:Int)<=(l.length:Int):=by omega
   have M:=heap_alloc2_new w (.cells (z2 zi) 38) (.cells (z2 zi) 38);have a0:=heap_alloc2_old w (.cells (z2 zi) 38) (.cells (z2 zi) 38);have O:Below w.heap.size w ((w.alloc (.cells (z2 zi) 38)).alloc (.cells (z2 zi) 38)):=Ba.alloc (by simp) _;go_enter func101,ntmps101;go_wp2_with (refine yf rfl rfl ?_);generalize ((w.alloc (.cells (z2 zi) 38)).alloc (.cells (z2 zi) 38))=w0 at *;refine(vW g l p true _ G).mono ?_;rintro e w' ⟨rfl,rfl⟩;go_wp2_with fail;refine(XR g l p true _ G hl).mono ?_;rintro e w' ⟨rfl,n,rfl⟩;go_wp2_with fail;have hcut:zP (w0.drewN (n+1)) (.slice (A.map (·.add p)) (l.length - p) (c - p)) (l.drop p):=by
    have:=(ql.byt ad).cut G.le;rw[if_neg ar]at this;exact this.drewN _
   have a9:(l.drop p).length=l.length - p:=List.length_drop;obtain⟨K,aJ,ah,an,a6⟩:=z2x (w:=(w0.drewN (n+1))) (dp:=some ⟨w.heap.size+1,0,none⟩) (dLen:=32) (dCap:=32) 3 hcut (cur:=zi) M (k:=32) (by rw[a9];exact(Nat.min_eq_right (by omega)).symm) (by omega) rfl (by rw[zw];omega);have ao:Qc (w0.drewN (n+1)) g l p true:=G.drewN (n+1);have a8:Qc K g l p true:=ao.apart ah M (by decide) (by omega);obtain⟨aH,az,_,af⟩:=a8.ex;have aw:=z7 af 1;have aF:=zz af 1;simp at aw;have a2:=z0 a0;have a5:=z0 an;have aE:=z0 a9;clear a0 an a9 ad ag hcut M af a6;have aa:w0.grownBy K (some (w.heap.size+1)):=(Qf (World.grownBy.refl _ _) (n+1)).trans ah;have aG:=G.lt;have a3:=a8.turn (p+32) ai;rw[Int.natCast_add]at a3;have a4:((l.drop p).take 32).length=32:=by rw[List.length_take,List.length_drop];omega
   have a6:zi.drop ((l.drop p).take 32).length=[]:=List.drop_eq_nil_of_le (by rw[a4,zw];omega);have aj:splice zi 0 ((l.drop p).take 32)=(l.drop p).take 32:=by rw[KR,a6,List.append_nil]
   clear a6;have ak:K.heap[w.heap.size]?=some (.cells (z2 zi) 38 (0,0)):=(aa.block _ (Lb a2.o) (by simp)).trans a2.o;have a1:Hd ((K.setCell ⟨g,1,none⟩ (.int .i64 ((p:Int)+32))).heap[w.heap.size]?=some (.cells (z2 zi) 38 (0,0))):=(heap_setCell_other _ _ _ _ (by simp;omega)).trans ak;have ab:Hd ((K.setCell ⟨g,1,none⟩ (.int .i64 ((p:Int)+32))).heap[w.heap.size+1]?=some (.cells (z2 ((l.drop p).take 32)) 38 (0,0))):=(heap_setCell_other _ _ _ _ (by simp;omega)).trans (by rw[<-aj];exact a5.o);have F:w.grownBy (K.setCell ⟨g,1,none⟩ (.int .i64 ((p:Int)+32))) (some g):=(kS (O.grown aa O.size (fun k J=>by injection J;omega)) _).trans (xH _ g 1 _);have av:=F.size;clear aj ak a2 a5 a8 ah aa ao G O am N;go_region;generalize K.setCell ⟨g,1,none⟩ (.int .i64 ((p:Int)+32))=au at *
   go_wp2_with (first
    |(refine xI rfl _ rfl rfl ab.o a4 ?_)
    |(refine yg rfl _ _ rfl rfl rfl a1.o zw a4 ?_;intro aq I ae ay))
   refine Bp (results_cell_row rfl _ _ w.heap.size _ _ (0,0) _ rfl ae.o yH rfl (by rw[yG,zH,a4])) rfl ⟨rfl,?_,?_⟩
   ·exact a3.apart I a1.o (by decide) (by omega)
   ·exact⟨I.os.trans F.os,I.tape.trans F.tape,I.output.trans F.output,Nat.le_trans F.size I.size,fun k J a7=>(I.block k (by omega) (fun e=>by injection e;omega)).trans (F.block k J a7)⟩
  ·have e:yk l p true=(zi,p,false):=by simp[yk,ai,zi]
   rw[e];have hp:=N.le;have ax:(l.length:Int) - (p:Int)<32:=by omega
   have M:=heap_alloc2_new w (.cells (z2 zi) 38) (.cells (z2 zi) 38);have a0:=heap_alloc2_old w (.cells (z2 zi) 38) (.cells (z2 zi) 38);have O:Below w.heap.size w ((w.alloc (.cells (z2 zi) 38)).alloc (.cells (z2 zi) 38)):=Ba.alloc (by simp) _;go_enter func101,ntmps101;go_wp2_with (refine yf rfl rfl ?_);generalize ((w.alloc (.cells (z2 zi) 38)).alloc (.cells (z2 zi) 38))=w0 at *;have a2:=z0 a0;have a5:=z0 M;clear a0 M;refine(vW g l p true _ G).mono ?_;rintro e w' ⟨rfl,rfl⟩;go_wp2_with fail;refine(XR g l p true _ G hl).mono ?_;rintro e w' ⟨rfl,n,rfl⟩;go_wp2_with fail;refine(Vp g l p true _ (G.drewN _)).mono ?_;rintro e w' ⟨rfl,rfl⟩;have a3:=(G.drewN n).spoil;have a1:Hd (((w0.drewN n).setCell ⟨g,2,none⟩ (.bool false)).heap[w.heap.size]?=some (.cells (z2 zi) 38 (0,0))):=(heap_setCell_other _ _ _ _ (by simp;omega)).trans a2.o;have ab:Hd (((w0.drewN n).setCell ⟨g,2,none⟩ (.bool false)).heap[w.heap.size+1]?=some (.cells (z2 zi) 38 (0,0))):=(heap_setCell_other _ _ _ _ (by simp;omega)).trans a5.o;have F:w.grownBy ((w0.drewN n).setCell ⟨g,2,none⟩ (.bool false)) (some g):=(kS (zA O n) _).trans (xH _ g 2 _);have av:=F.size;clear G O am N;generalize (w0.drewN n).setCell ⟨g,2,none⟩ (.bool false)=au at *
   go_wp2_with (first
    |(refine xI rfl _ rfl rfl ab.o zw ?_)
    |(refine yg rfl _ _ rfl rfl rfl a1.o zw zw ?_;intro aq I ae ay))
   refine Bp (results_cell_row rfl _ _ w.heap.size _ _ (0,0) _ rfl ae.o yH rfl (by rw[yG,zH,zw])) rfl ⟨rfl,?_,?_⟩
   ·exact a3.apart I a1.o (by decide) (by omega)
   ·exact⟨I.os.trans F.os,I.tape.trans F.tape,I.output.trans F.output,Nat.le_trans F.size I.size,fun k J a7=>(I.block k (by omega) (fun e=>by injection e;omega)).trans (F.block k J a7)⟩
def kU (c:UInt8):Bool:=(decide (97<=c.toNat) && decide (c.toNat<=122)) || (decide (48<=c.toNat) && decide (c.toNat<=57))
def kg (l:List UInt8):Bool:=l.all kU && (decide (1<=l.length) && decide (l.length<=16))
structure YJ where
 fr:Int
 no:Int
 ki:Int
 «to»:Int
 am:Int
 key:List UInt8
 val:List UInt8
 deriving DecidableEq
def Yb (t:YJ):Go.Value:=.agg #[.int .i64 t.fr,.int .i64 t.no,.int .i64 t.ki,.int .i64 t.to,.int .i64 t.am,.string (sb t.key),.string (sb t.val)]
def txZ:YJ:=⟨0,0,0,0,0,[],[]⟩
def jC (t:YJ):Bool:=
 if t.fr<1\/40<t.fr\/t.no<1\/1099511627776<t.no then false else
 if t.ki=1 then decide (1<=t.to) && decide (t.to<=40) && decide (0<=t.am) && decide (t.am<=1099511627776) && decide (t.key=[]) && decide (t.val=[]) else
 if t.ki=2 then decide (t.to=0) && decide (t.am=0) && kg t.key && decide (t.val.length<=200) else
 if t.ki=3 then decide (t.to=0) && decide (t.am=0) && kg t.key && decide (t.val=[]) else false
def qY (t:YJ):List UInt8:=
 dg t.fr.toNat ++ (dg t.no.toNat ++ (dg t.ki.toNat ++ (if t.ki=1 then dg t.to.toNat ++ dg t.am.toNat else if t.ki=2 then tx t.key ++ tx t.val else tx t.key)))
theorem Jn {L:List UInt8}{p n q:Nat}{r:Bool}{m:Int} (h:zQ m L p r=(n,q,true)):r=true/\n<18446744073709551616/\(n:Int)<=m/\q=p+(dg n).length/\∃x,L.drop p=dg n ++ x:=by
 unfold zQ at h;split at h
 ·cases h
 ·cases r with
  |false=>rw[Zu]at h;cases h
  |true=>
   cases F:Jx (L.drop p) with
   |none=>rw[QE F]at h;cases h
   |some k=>
    by_cases G:k<=m.toNat
    ·rw[Zv F G]at h;cases h;obtain⟨I,x,hx⟩:=Zt F;exact⟨rfl,I,by omega,rfl,x,hx.symm⟩
    ·rw[Jj F G]at h;cases h
theorem Vz {t:YJ} (h:jC t=true):(1<=t.fr/\t.fr<=40)/\(1<=t.no/\t.no<=1099511627776)/\
  ((t.ki=1/\(1<=t.to/\t.to<=40)/\(0<=t.am/\t.am<=1099511627776)/\t.key=[]/\t.val=[])\/(t.ki=2/\t.to=0/\t.am=0/\kg t.key=true/\t.val.length<=200)\/(t.ki=3/\t.to=0/\t.am=0/\kg t.key=true/\t.val=[])):=by
 unfold jC at h;split at h
 ·cases h
 ·refine⟨by omega,by omega,?_⟩;split at h
  ·rename_i F;simp only[Bool.and_eq_true,decide_eq_true_eq]at h;exact .inl ⟨F,⟨h.1.1.1.1.1,h.1.1.1.1.2⟩,⟨h.1.1.1.2,h.1.1.2⟩,h.1.2,h.2⟩
  ·split at h
   ·rename_i F;simp only[Bool.and_eq_true,decide_eq_true_eq]at h;exact .inr (.inl ⟨F,h.1.1.1,h.1.1.2,h.1.2,h.2⟩)
   ·split at h
    ·rename_i F;simp only[Bool.and_eq_true,decide_eq_true_eq]at h;exact .inr (.inr ⟨F,h.1.1.1,h.1.1.2,h.1.2,h.2⟩)
    ·cases h
theorem jq {l:List UInt8} (h:kg l=true):1<=l.length/\l.length<=16:=by
 unfold kg at h;simp only[Bool.and_eq_true,decide_eq_true_eq]at h;exact h.2
theorem yy {i:Int} (h:0<=i):∃n:Nat,i=(n:Int):=⟨i.toNat,by omega⟩
theorem Yc {t:YJ} (h:jC t=true):(qY t).length<=300:=by
 obtain⟨a0,a2,I⟩:=Vz h;have l1:=z2u 0 t.fr.toNat (by omega);have M:=zk (n:=t.no.toNat) (by omega);have O:=z2u 0 t.ki.toNat (by rcases I with h|h|h <;> rw[h.1] <;> decide);unfold qY;rw[List.length_append,List.length_append,List.length_append];rcases I with ⟨F,ha,N,_⟩|⟨F,_,_,G,a1⟩|⟨F,_,_,G,_⟩
 ·have J:=z2u 0 t.to.toNat (by omega);have K:=zk (n:=t.am.toNat) (by omega);rw[if_pos F,List.length_append];omega
 ·have:=jq G;have J:=zk (n:=t.key.length) (by omega);have K:=zk (n:=t.val.length) (by omega);rw[if_neg (by rw[F];decide),if_pos F,List.length_append,YM,YM];omega
 ·have:=jq G;have J:=zk (n:=t.key.length) (by omega);rw[if_neg (by rw[F];decide),if_neg (by rw[F];decide),YM];omega
theorem z03 (a b d e:Nat) (x y:List UInt8):qY ⟨(a:Int),(b:Int),((1:Nat):Int),(d:Int),(e:Int),x,y⟩=dg a ++ (dg b ++ (dg 1 ++ (dg d ++ dg e))):=by
 unfold qY;rw[if_pos (show((1:Nat):Int)=1 from rfl)];simp only[Int.toNat_natCast]
theorem z04 (a b:Nat) (d e:Int) (x y:List UInt8):qY ⟨(a:Int),(b:Int),((2:Nat):Int),d,e,x,y⟩=dg a ++ (dg b ++ (dg 2 ++ (tx x ++ tx y))):=by
 unfold qY;rw[if_neg (show ¬((2:Nat):Int)=1 by omega),if_pos (show((2:Nat):Int)=2 from rfl)];simp only[Int.toNat_natCast]
theorem VA (a b:Nat) (d e:Int) (x y:List UInt8):qY ⟨(a:Int),(b:Int),((3:Nat):Int),d,e,x,y⟩=dg a ++ (dg b ++ (dg 3 ++ tx x)):=by
 unfold qY;rw[if_neg (show ¬((3:Nat):Int)=1 by omega),if_neg (show ¬((3:Nat):Int)=2 by omega)];simp only[Int.toNat_natCast]
theorem z05 (c:UInt8) (y:Int) (K:((c.toNat:Nat):Int)=y):(kU c=true/\97<=y/\y<=122)\/(kU c=true/\¬97<=y/\48<=y/\y<=57)\/(kU c=false/\122<y)\/(kU c=false/\¬97<=y/\57<y)\/(kU c=false/\y<48):=by
 subst K;unfold kU;by_cases F:97<=c.toNat
 ·by_cases J:c.toNat<=122
  ·exact .inl ⟨by simp[F,J],by omega,by omega⟩
  ·exact .inr (.inr (.inl ⟨by simp[J];omega,by omega⟩))
 ·by_cases G:48<=c.toNat
  ·by_cases I:c.toNat<=57
   ·exact .inr (.inl ⟨by simp[G,I],by omega,by omega,by omega⟩)
   ·exact .inr (.inr (.inr (.inl ⟨by simp[F,I],by omega,by omega⟩)))
  ·exact .inr (.inr (.inr (.inr ⟨by simp[F,G],by omega⟩)))
theorem z3T {l:List UInt8}{j:Nat} (F:j<l.length) (h:kU (l.getD j 0)=false):kg l=false:=by
 unfold kg;have G:l.getD j 0∈l:=by rw[List.getD_eq_getElem?_getD,List.getElem?_eq_getElem F];exact List.getElem_mem F
 have:l.all kU=false:=by
  rw[Bool.eq_false_iff];intro ha;rw[List.all_eq_true.1 ha _ G]at h;cases h
 rw[this,Bool.false_and]
theorem z1O {l:List UInt8} (h:∀j,j<l.length->kU (l.getD j 0)=true):kg l=(decide (1<=l.length) && decide (l.length<=16)):=by
 unfold kg;have:l.all kU=true:=by
  rw[List.all_eq_true];intro c G;obtain⟨j,F,rfl⟩:=List.getElem_of_mem G;have:=h j F
  rwa[List.getD_eq_getElem?_getD,List.getElem?_eq_getElem F]at this
 rw[this,Bool.true_and]
theorem z3U (l:List UInt8) (w:World) (ad:l.length<=1000000):
  Calls prog 196 #[.string (sb l)] w fun e w'=>e=.returned (.bool (kg l))/\w=w':=by
 have a7:=Qg l;obtain⟨L,N⟩:=nm (l.length:Nat);rw[N.o]at a7 ad;obtain⟨s,a8⟩:=nm (sb l);rw[a8.o]at a7⊢;go_enter func196,ntmps196;go_wp2_with fail;go_loopw [3] (fun a0 wr=>∃i:Nat,i<=L/\a0=.int .i64 (i:Int)/\Hd (∀j,j<i->kU (l.getD j 0)=true)/\Hd (w=wr)) (fun a0 _=>L - (intOf a0).toNat)
 case atStart=>exact⟨0,Nat.zero_le _,rfl,z0 (fun j a9=>absurd a9 (Nat.not_lt_zero _)),z0 rfl⟩
 case round=>
  obtain⟨i,ak,rfl,I,a5⟩:=hrel;obtain rfl:=a5.o;clear a5;by_cases af:i<L
  ·have ab:(i:Int)<(L:Int):=by omega
   have a6:i<l.length:=by rw[N.o];exact af
   obtain⟨y,a3⟩:=nm (((l.getD i 0).toNat:Int):Int);have ah:∀w:World,(Instr.index 9 (.string s) (.int .i64 (i:Int))).run prog w=.ok (.int .u8 y) w:=fun w=>by
    rw[<-a8.o];exact z1F l i a6 _ rfl a3.o w
   have aj:0<=y/\y<=255:=by have:=yW (l.getD i 0);rw[a3.o]at this;exact this
   have K:∀(_:kU (l.getD i 0)=false),Hd (kg l=false):=fun h=>z0 (z3T a6 h)
   have M:∀(_:kU (l.getD i 0)=true),Hd (∀j,j<i+1->kU (l.getD j 0)=true):=fun h=>z0 (fun j a9=>by
    rcases Nat.lt_or_ge j i with G|G
    ·exact I.o j G
    ·obtain rfl:j=i:=by omega
     exact h)
   obtain⟨F,J,G⟩|⟨F,J,G,a1⟩|⟨F,J⟩|⟨F,J,G⟩|⟨F,J⟩:=z05 (l.getD i 0) y a3.o
   ·have a2:=M F;clear K M F I;go_wp2;go_roundw
    case rel=>exact⟨i+1,by omega,by go_num,a2,(by first|exact z0 rfl|exact z0 trivial)⟩
    case measure=>simp[intOf];omega
   ·have a2:=M F;clear K M F I;go_wp2;go_roundw
    case rel=>exact⟨i+1,by omega,by go_num,a2,(by first|exact z0 rfl|exact z0 trivial)⟩
    case measure=>simp[intOf];omega
   ·have O:=K F;clear K M F I;have G:97<=y:=by omega
    have a1:48<=y:=by omega
    have ag:¬y<=57:=by omega
    have ai:¬y<=122:=by omega
    go_wp2;go_ret;exact⟨by rw[O.o];rfl,rfl⟩
   ·have O:=K F;clear K M F I;have a1:48<=y:=by omega
    have ag:¬y<=57:=by omega
    go_wp2;go_ret;exact⟨by rw[O.o];rfl,rfl⟩
   ·have O:=K F;clear K M F I;have G:¬97<=y:=by omega
    have a1:¬48<=y:=by omega
    go_wp2;go_ret;exact⟨by rw[O.o];rfl,rfl⟩
  ·have ab:¬(i:Int)<(L:Int):=by omega
   obtain rfl:i=L:=by omega
   have a4:=z0 (z1O (l:=l) (by rw[N.o];exact I.o));clear I;by_cases J:1<=i
   ·have ae:1<=(i:Int):=by omega
    by_cases G:i<=16
    ·have aa:(i:Int)<=16:=by omega
     go_wp2;go_ret;exact⟨by rw[a4.o,N.o,decide_eq_true J,decide_eq_true G];rfl,rfl⟩
    ·have aa:¬(i:Int)<=16:=by omega
     go_wp2;go_ret;exact⟨by rw[a4.o,N.o,decide_eq_true J,decide_eq_false G];rfl,rfl⟩
   ·have ae:¬1<=(i:Int):=by omega
    go_wp2;go_ret;exact⟨by rw[a4.o,N.o,decide_eq_false J];rfl,rfl⟩
theorem z5t (t:YJ) (w:World) (I:t.key.length<=1000000) (O:t.val.length<=1000000):
    Calls prog 166 #[Yb t] w fun e w'=>e=.returned (.bool (jC t))/\Below w.heap.size w w':=by
  obtain⟨fr,no,ki,a5,am,key,val⟩:=t;simp only at I O;have a4:=z0 I;have K:=Qg val;have M:=Vq key;have N:=Vq val;clear I O;unfold Yb;simp only;obtain⟨s,G⟩:=nm (sb key);obtain⟨u,a3⟩:=nm (sb val);obtain⟨n,a2⟩:=nm (val.length:Nat);rw[G.o]at M⊢;rw[a3.o]at N K⊢;rw[a2.o]at K;obtain⟨m,F⟩:=nm (jC ⟨fr,no,ki,a5,am,key,val⟩);rw[F.o];obtain⟨a8,a1⟩:=nm (decide (key=[]));obtain⟨a9,J⟩:=nm (decide (val=[]));rw[a1.o]at M;rw[J.o]at N;go_enter func166,ntmps166;go_wp2_with fail;all_goals first
    |(have C:=fun w=>z3U key w a4.o
      rw[G.o]at C;refine(C _).mono ?_;clear C;rintro e a6 ⟨rfl,rfl⟩;obtain⟨a7,a0⟩:=nm (kg key);rw[a0.o];have aa:=a0.o
      go_wp2_with fail)
    |skip
  all_goals
    go_ret;refine⟨?_,Ba⟩;refine congrArg (fun b=>Ending.returned (Value.bool b)) ?_;rw[<-F.o];clear F G a3 a4;unfold jC;simp only[a1.o,J.o,a2.o]
  all_goals grind
theorem yX {w:World}{g b i:Nat}{o:Obj} (h:w.heap[g]?=some o) (u:Value) (F:g≠b):(w.setCell ⟨b,i,none⟩ u).heap[g]?=some o:=by
 rw[Hs w _ u g (fun e=>F e)];exact h
theorem z9f {m:Nat}{l:List UInt8}{p:Nat}{r:Bool} (hp:p<=l.length):(vq m l p r).2.1<=l.length:=by
 cases r with
 |false=>rw[Zu];exact hp
 |true=>
  cases F:Jx (l.drop p) with
  |none=>rw[QE F];exact hp
  |some k=>
   by_cases G:k<=m
   ·rw[Zv F G];obtain⟨_,x,hx⟩:=Zt F;have:=z94 hx.symm (Kj k);simp only;omega
   ·rw[Jj F G];exact hp
theorem Jo {m:Int}{l:List UInt8}{p:Nat}{r:Bool} (hp:p<=l.length):(zQ m l p r).2.1<=l.length:=by
 unfold zQ;split
 ·exact hp
 ·exact z9f hp
theorem Jp {m:Nat}{l:List UInt8}{p:Nat}{r:Bool}:(zQ (m:Int) l p r).1<=m:=by
 unfold zQ;split
 ·exact Nat.zero_le _
 ·exact z00
noncomputable def kC (v : Value) (w : World) : Result Next := Sem.run prog (execOp (fun _ => v) { dst := none, op := .load 152 (.tmp 0), type := 0, pos := "", after := #[], guard := none }) w
theorem jb (r:Operand->Value) (x:Operand) (dst:Option Tmp) (ty:TypeId) (pos:String) (after:Array Edge) (guard:Option (Nat×Bool)) (w:World):
  Sem.run prog (execOp r { dst:=dst,op:=.load 152 x,type:=ty,pos:=pos,after:=after,guard:=guard }) w=kC (r x) w:=rfl
theorem z1P:prog.underlying 152=some (.struct (prog.fieldsOf 152)):=by kernel_rfl
theorem Ko {w:World}{b:Nat}{C:Array Value}{T:TypeId} (h:w.heap[b]?=some (.cells C T (0,0))) (G:C.size=7):kC (.pointer (some ⟨b,0,none⟩)) w=.ok (.value (.agg C)) w:=by
 have:=run_loadAt_mid (P:=prog) w b 0 152 C.toList _ (fun j v F=>by rw[Nat.zero_add,z7 h j];simpa using F) z1P rfl (by rw[show(prog.info? 152).map (·.size)=some 7 from by kernel_rfl];simp[G]);simp only[Array.toArray_toList]at this;unfold kC execOp;simp only[Sem.run_bind,this,Result.andThen_ok,Sem.run_pure]
def z2F (t:YJ):Prop:=t.key.length<=70000/\t.val.length<=70000
def z7E (l:List UInt8) (t:YJ):List UInt8:=if jC t=true then l ++ qY t else l
def zaT:Prop:=∀(v:Value) (l:List UInt8) (t:YJ) (w:World),zP w v l->l.length<=1000000->z2F t->
 Calls prog 194 #[v,Yb t] w fun e w'=>∃x,e=.returned x/\zP w' x (z7E l t)/\Below w.heap.size w w'
theorem z2G (t:YJ) (w:World) (bC:jC t=true):
  Calls prog 199 #[Yb t] w fun e w'=>∃x,e=.returned x/\ql w.heap.size w' x (qY t)/\Below w.heap.size w w':=by
 obtain⟨bp,br,aK⟩:=Vz bC;obtain⟨fr,no,ki,ah,am,key,val⟩:=t;simp only at bp br aK;obtain⟨a,rfl⟩:=yy (i:=fr) (by omega);obtain⟨b,rfl⟩:=yy (i:=no) (by omega);obtain⟨c,rfl⟩:=yy (i:=ki) (by omega);have bF:c<128:=by omega
 unfold Yb;simp only;have bz:IntKind.u64.wrap (a:Int)=(a:Int):=qP _ (by omega) (by omega);have bS:IntKind.u64.wrap (b:Int)=(b:Int):=qP _ (by omega) (by omega);have bX:IntKind.u8.wrap (c:Int)=(c:Int):=by rw[IntKind.wrap_u8'];omega
 have bl:=z0 (fun w=>yc (a:Int) w (by omega) (by omega));have bb:=z0 (fun w=>yc (b:Int) w (by omega) (by omega));have bt:=fun (C:Array Value)=>Xh w (.cells C 152);have bm:=fun (C:Array Value)=>(Below.refl w.heap.size w).alloc (Nat.le_refl _) (.cells C 152);have aZ:=z0 (zk (n:=a) (by omega));have b6:=z0 (zk (n:=b) (by omega));have aH:Hd (dg c=[UInt8.ofNat c]):=z0 (yx bF);have bG:Hd ((c:Int)=((UInt8.ofNat c).toNat:Int)):=z0 (by rw[UInt8.toNat_ofNat'];omega);obtain⟨s,aX⟩:=nm (sb key);obtain⟨u,bn⟩:=nm (sb val);rw[aX.o,bn.o];have aW:=bt #[.int .i64 (a:Int),.int .i64 (b:Int),.int .i64 (c:Int),.int .i64 ah,.int .i64 am,.string s,.string u];have ai:=bm #[.int .i64 (a:Int),.int .i64 (b:Int),.int .i64 (c:Int),.int .i64 ah,.int .i64 am,.string s,.string u];clear bt bm;have bO:=z0 aK;clear bp br aK;go_enter func199,ntmps199;go_wp2_with fail;have b8:(w.alloc (.cells #[.int .i64 (a:Int),.int .i64 (b:Int),.int .i64 (c:Int),.int .i64 ah,.int .i64 am,.string s,.string u] 152)).heap.size=w.heap.size+1:=by simp
 generalize (w.alloc (.cells #[.int .i64 (a:Int),.int .i64 (b:Int),.int .i64 (c:Int),.int .i64 ah,.int .i64 am,.string s,.string u] 152))=w0 at *;have bo:=Lb aW;have F:Hd (∀W:World,Below w0.heap.size w0 W->∀i,W.cell? ⟨w.heap.size,i,none⟩=#[Value.int .i64 (a:Int),.int .i64 (b:Int),.int .i64 (c:Int),.int .i64 ah,.int .i64 am,.string s,.string u][i]?):=z0 (fun W h i=>z7 ((h.block _ bo).trans aW) i);have aP:Below w0.heap.size w0 w0.drew:=(Below.refl _ _).drew;clear aW bo;go_region_held3 (fun W=>W.cell? ⟨w.heap.size,0,none⟩=some (.int .i64 (a:Int))/\W.cell? ⟨w.heap.size,1,none⟩=some (.int .i64 (b:Int)))
  (first
   |(refine⟨F.o _ aP 0,F.o _ aP 1⟩)
   |(refine⟨F.o _ J 0,F.o _ J 1⟩)
   |(refine⟨F.o _ ad 0,F.o _ ad 1⟩)
   |(refine⟨F.o _ ap 0,F.o _ ap 1⟩)
   |fail)
  (first
   |(refine qB (by rfl) (.tmp 7) (.tmp 11) (by rfl) (by rfl) (by rfl) (aJ.below aO) aU.byt (by have:=aZ.o;have:=b6.o;rw[Int.toNat_natCast,Int.toNat_natCast];omega) ad.size ?_;intro bA w5 bi b7 _;have J:=ad.grown b7 ad.size (fun q hq=>(World.ownsRow.lt aJ q hq).1);clear b7)
   |(go_at_call 142;refine(bb.o bK).mono ?_;rintro e bY ⟨bT,rfl,aU,aO⟩;have ad:=ap.trans (aO.mono ap.size))
   |(go_at_call 142;refine(bl.o w0.drew).mono ?_;rintro e bK ⟨c0,rfl,aJ,bd⟩;have ap:=aP.trans bd)
   |fail)
 rw[Int.toNat_natCast]at aJ aU;have bh:=z0 (show(dg a ++ dg b).length<=20 by rw[List.length_append];have:=aZ.o;have:=b6.o;omega);have a0:ql w0.heap.size w5 bA (dg a ++ dg b):=bi;clear aJ aU bi ap ad bd aO bl bb bz bS;have ax:=F.o w5 J 2;have aB:=F.o w5 J 3;have az:=F.o w5 J 4;have aA:=F.o w5 J 5;have aE:=F.o w5 J 6;simp at ax aB az aA aE;obtain⟨P,aa⟩:=nm (dg a ++ (dg b ++ dg c):List UInt8);have ao:Hd (P.length<=21):=z0 (by rw[<-aa.o,aH.o,<-List.append_assoc,List.length_append];have:=bh.o;simp only[List.length_singleton];omega);have bk:=jP w5 (c:Int) (UInt8.ofNat c) bG.o;have aS:(dg a ++ dg b).length + [UInt8.ofNat c].length<=140737488355328:=by have:=bh.o;simp only[List.length_singleton];omega
 have N:=J.size;have ae:=z0 bk;clear bk;have aM:Hd (w0.heap.size=w.heap.size+1):=z0 b8;clear b8;obtain⟨ar,bw,bx,rfl,rfl⟩|⟨ar,rfl,rfl,a6,b1⟩|⟨ar,rfl,rfl,a6,rfl⟩:=bO.o
 ·obtain⟨d,rfl⟩:=yy (i:=ah) (by omega);obtain⟨f,rfl⟩:=yy (i:=am) (by omega);obtain rfl:c=1:=by omega
  have bW:IntKind.u64.wrap (d:Int)=(d:Int):=qP _ (by omega) (by omega);have bZ:IntKind.u64.wrap (f:Int)=(f:Int):=qP _ (by omega) (by omega);have bQ:=z0 (fun w=>yc (d:Int) w (by omega) (by omega));have bP:=z0 (fun w=>yc (f:Int) w (by omega) (by omega));have b4:=z0 (zk (n:=d) (by omega));have bR:=z0 (zk (n:=f) (by omega));clear ar bw bx;go_upto_region 2 with(fail)
  go_wp2_with (first
   |(at_builtin;refine z9 rfl (.tmp 13) (.tmp 17) rfl rfl rfl (a0.alloc _) ae.o aS (Nat.le_trans N (yL w5 _)) ?_;intro a4 G a2 a5 an;have M:=(J.alloc N _).grown a5 (Nat.le_trans N (yL w5 _)) (fun q hq=>(World.ownsRow.lt a0 q hq).1);have a7:=F.o G M 2;simp at a7;clear a5 an))
  have a1:ql w0.heap.size G a4 P:=by rw[<-aa.o,aH.o,<-List.append_assoc];exact a2
  clear a2 ax aB az aA aE a0 J ae N;have aG:Below w0.heap.size w0 G.drew:=M.drew;have bI:ql w0.heap.size G.drew a4 P:=a1;go_region_held3 (fun W=>W.cell? ⟨w.heap.size,3,none⟩=some (.int .i64 (d:Int))/\W.cell? ⟨w.heap.size,4,none⟩=some (.int .i64 (f:Int)))
   (first
    |(refine⟨F.o _ aG 3,F.o _ aG 4⟩)
    |(refine⟨F.o _ ab 3,F.o _ ab 4⟩)
    |(refine⟨F.o _ I 3,F.o _ I 4⟩)
    |(refine⟨F.o _ K 3,F.o _ K 4⟩)
    |(refine⟨F.o _ O 3,F.o _ O 4⟩)
    |fail)
   (first
    |(refine qB (by rfl) (.tmp 27) (.tmp 31) (by rfl) (by rfl) (by rfl) (ag.below bg) a9.byt (by have:=b4.o;have:=bR.o;have:=ao.o;rw[List.length_append,Int.toNat_natCast,Int.toNat_natCast];omega) I.size ?_;intro aR bc aN b5 _;have ab:=I.grown b5 I.size (fun q hq=>(World.ownsRow.lt ag q hq).1);clear b5)
    |(go_at_call 142;refine(bP.o ak).mono ?_;rintro e a8 ⟨aF,rfl,a9,bg⟩;have I:=K.trans (bg.mono K.size))
    |(refine qB (by rfl) (.tmp 22) (.tmp 26) (by rfl) (by rfl) (by rfl) (bI.below a3) bM.byt (by have:=b4.o;have:=ao.o;rw[Int.toNat_natCast];omega) O.size ?_;intro bf ak ag ba _;have K:=O.grown ba O.size (fun q hq=>(World.ownsRow.lt a1 q hq).1);clear ba)
    |(go_at_call 142;refine(bQ.o G.drew).mono ?_;rintro e aC ⟨aI,rfl,bM,a3⟩;have O:=aG.trans (a3.mono aG.size))
    |fail)
  all_goals
   go_wp2;go_ret;refine⟨aR,rfl,?_,ai.trans (ab.mono ai.size)⟩;rw[z03];rw[<-aa.o]at aN;simp only[Int.toNat_natCast,List.append_assoc]at aN;exact aN.more (by have:=aM.o;omega)
 ·have aT:=z0 (show key.length<=maxLen by have:=jq a6;unfold maxLen;omega);have bN:=z0 (show val.length<=maxLen by unfold maxLen;omega);have af:=z0 (show key.length<=16 by have:=jq a6;omega);have bj:=z0 b1;obtain rfl:c=2:=by omega
  clear ar a6 b1;go_upto_region 2 with(fail)
  go_wp2_with (first
   |(at_builtin;refine z9 rfl (.tmp 13) (.tmp 17) rfl rfl rfl (a0.alloc _) ae.o aS (Nat.le_trans N (yL w5 _)) ?_;intro a4 G a2 a5 an;have M:=(J.alloc N _).grown a5 (Nat.le_trans N (yL w5 _)) (fun q hq=>(World.ownsRow.lt a0 q hq).1);have a7:=F.o G M 2;have al:=F.o G M 5;simp at a7 al;obtain⟨aI,aC,aj,av,a3⟩:=Kl key G aT.o;rw[aX.o]at aj;clear a5 an))
  have a1:ql w0.heap.size G a4 P:=by rw[<-aa.o,aH.o,<-List.append_assoc];exact a2
  clear a2 ax aB az aA aE a0 J ae N;refine(YN aI key aC av (by have:=af.o;omega)).mono ?_;rintro e ak ⟨bf,rfl,ag,aq⟩;have O:=M.trans (a3.mono M.size);have K:=O.trans (aq.mono O.size);have au:ql w0.heap.size ak a4 P:=(a1.below a3).below aq;have aY:P.length+(tx key).length<=140737488355328:=by
   have:=af.o;have:=zk (n:=key.length) (by omega);have:=ao.o;rw[YM];omega
  clear aj av a7 al a1;go_wp2_with (at_builtin;refine z9 rfl (.tmp 33) (.tmp 37) rfl rfl rfl au ag.byt aY K.size ?_;intro aF a8 a9 aw aQ;have I:=K.grown aw K.size (fun q hq=>(World.ownsRow.lt au q hq).1);have aD:=F.o a8 I 2;have ay:=F.o a8 I 6;simp at aD ay;clear aw aQ;obtain⟨aR,bc,bq,bv,be⟩:=Kl val a8 bN.o;rw[bn.o]at bq);refine(YN aR val bc bv (by have:=bj.o;omega)).mono ?_;rintro e bE ⟨bU,rfl,bH,b9⟩;have ab:=I.trans (be.mono I.size);have aL:=ab.trans (b9.mono ab.size);have bu:ql w0.heap.size bE aF (P ++ tx key):=(a9.below be).below b9;have bL:(P ++ tx key).length+(tx val).length<=140737488355328:=by
   have:=af.o;have:=bj.o;have:=zk (n:=key.length) (by omega);have:=zk (n:=val.length) (by omega);have:=ao.o;rw[List.length_append,YM,YM];omega
  clear bq bv aD ay;go_wp2_with (at_builtin;refine z9 rfl (.tmp 42) (.tmp 46) rfl rfl rfl bu bH.byt bL aL.size ?_;intro bB bV aV b0 bJ;have bD:=aL.grown b0 aL.size (fun q hq=>(World.ownsRow.lt bu q hq).1);clear b0 bJ);go_ret;refine⟨bB,rfl,?_,ai.trans (bD.mono ai.size)⟩;rw[z04];rw[<-aa.o]at aV;simp only[List.append_assoc]at aV;exact aV.more (by have:=aM.o;omega)
 ·have aT:=z0 (show key.length<=maxLen by have:=jq a6;unfold maxLen;omega);have af:=z0 (show key.length<=16 by have:=jq a6;omega);obtain rfl:c=3:=by omega
  clear ar a6;go_upto_region 2 with(fail)
  go_wp2_with (first
   |(at_builtin;refine z9 rfl (.tmp 13) (.tmp 17) rfl rfl rfl (a0.alloc _) ae.o aS (Nat.le_trans N (yL w5 _)) ?_;intro a4 G a2 a5 an;have M:=(J.alloc N _).grown a5 (Nat.le_trans N (yL w5 _)) (fun q hq=>(World.ownsRow.lt a0 q hq).1);have a7:=F.o G M 2;have al:=F.o G M 5;simp at a7 al;obtain⟨aI,aC,aj,av,a3⟩:=Kl key G aT.o;rw[aX.o]at aj;clear a5 an))
  have a1:ql w0.heap.size G a4 P:=by rw[<-aa.o,aH.o,<-List.append_assoc];exact a2
  clear a2 ax aB az aA aE a0 J ae N;refine(YN aI key aC av (by have:=af.o;omega)).mono ?_;rintro e ak ⟨bf,rfl,ag,aq⟩;have O:=M.trans (a3.mono M.size);have K:=O.trans (aq.mono O.size);have au:ql w0.heap.size ak a4 P:=(a1.below a3).below aq;have aY:P.length+(tx key).length<=140737488355328:=by
   have:=af.o;have:=zk (n:=key.length) (by omega);have:=ao.o;rw[YM];omega
  clear aj av a7 al a1;go_wp2_with (at_builtin;refine z9 rfl (.tmp 33) (.tmp 37) rfl rfl rfl au ag.byt aY K.size ?_;intro aF a8 a9 aw aQ;have I:=K.grown aw K.size (fun q hq=>(World.ownsRow.lt au q hq).1);have aD:=F.o a8 I 2;have ay:=F.o a8 I 6;simp at aD ay;clear aw aQ);go_ret;refine⟨aF,rfl,?_,ai.trans (I.mono ai.size)⟩;rw[VA];rw[<-aa.o]at a9;simp only[List.append_assoc]at a9;exact a9.more (by have:=aM.o;omega)
section
open Go.ChangeShapes Go.WideShapes Go.ChangeAt Go.RowKit
theorem z7F:∃N I K G F J M:Field,prog.underlying 152=some (.struct #[N,I,K,G,F,J,M])/\(N.type,N.offset)=(3,0)/\(I.type,I.offset)=(3,1)/\(K.type,K.offset)=(3,2)
  /\ (G.type,G.offset)=(3,3)/\(F.type,F.offset)=(3,4)/\(J.type,J.offset)=(9,5)/\(M.type,M.offset)=(9,6):=
 ⟨_,_,_,_,_,_,_,underlying152,rfl,rfl,rfl,rfl,rfl,rfl,rfl⟩
theorem yz {cs:List Value}{o:Nat}{v:Value} (e:(cs.drop o).take 1=[v]):cs[o]?=some v:=by
 have F:=congrArg (fun l=>l[0]?) e;simp only[List.getElem?_take_of_lt (show 0<1 by omega),List.getElem?_drop,Nat.add_zero]at F;exact F
theorem zaU {H:Type}{enc:TypeId×Value->H}{w:World}{base:Nat}{spare:Nat->Bool}{held:Bool}{fuel:Nat}{cs:List Value}{x:DataW H×List MemPlace}
  (h:DataW.trod enc prog w base spare held fuel 152 cs=some x):∃t:YJ,(t.key.length<=maxLen/\t.val.length<=maxLen)/\cs=(#[.int .i64 t.fr,.int .i64 t.no,.int .i64 t.ki,.int .i64 t.to,.int .i64 t.am,.string (sb t.key),.string (sb t.val)]:Array Value).toList:=by
 obtain⟨aE,aJ,aB,a5,aA,ae,a6,aO,aN,aD,al,an,aG,az,a4⟩:=z7F;injection aN with a2 ar;injection aD with aq aP;injection al with aS a9;injection an with aH aR;injection aG with aC aM;injection az with aK ax;injection a4 with aT ad;obtain⟨aQ,m,_,_,aF,av,F⟩:=DataW.trod_struct aO h;have ap:prog.cellsOf 152=7:=by kernel_rfl
 have G:prog.cellsOf 3=1:=by kernel_rfl
 have I:prog.cellsOf 9=1:=by kernel_rfl
 rw[ap]at aF;have hx:aQ.length=7:=av;have a1:=F 0 aE rfl;have M:=F 1 aJ rfl;have a0:=F 2 aB rfl;have N:=F 3 a5 rfl;have J:=F 4 aA rfl;have K:=F 5 ae rfl;have O:=F 6 a6 rfl;rw[a2,ar,G,List.getElem?_eq_getElem (by omega)]at a1;rw[aq,aP,G,List.getElem?_eq_getElem (by omega)]at M;rw[aS,a9,G,List.getElem?_eq_getElem (by omega)]at a0;rw[aH,aR,G,List.getElem?_eq_getElem (by omega)]at N;rw[aC,aM,G,List.getElem?_eq_getElem (by omega)]at J;rw[aK,ax,I,List.getElem?_eq_getElem (by omega)]at K;rw[aT,ad,I,List.getElem?_eq_getElem (by omega)]at O;obtain⟨n0,c0,_,_⟩:=DataW.trod_int underlying3 a1;obtain⟨n1,c1,_,_⟩:=DataW.trod_int underlying3 M;obtain⟨n2,a3,_,_⟩:=DataW.trod_int underlying3 a0;obtain⟨au,ai,_,_⟩:=DataW.trod_int underlying3 N;obtain⟨aU,a8,_,_⟩:=DataW.trod_int underlying3 J;obtain⟨aj,af,_,aa⟩:=DataW.trod_string underlying9 K;obtain⟨ab,ao,_,aw⟩:=DataW.trod_string underlying9 O;refine⟨⟨n0,n1,n2,au,aU,bs aj,bs ab⟩,⟨by simpa [bs] using aa,by simpa [bs] using aw⟩,?_⟩;have aL:=yz c0;have ah:=yz c1;have ak:=yz a3;have a7:=yz ai;have aI:=yz a8;have ag:=yz af;have ay:=yz ao;rw[zc7,zc7];apply List.ext_getElem?;intro i
 match i with
 |0=>exact aL
 |1=>exact ah
 |2=>exact ak
 |3=>exact a7
 |4=>exact aI
 |5=>exact ag
 |6=>exact ay
 |i+7=>rw[List.getElem?_eq_none (by omega)];rfl
end
structure kR where
 par:List UInt8
 vi:Int
 he:Int
 bo:Int
 txs:List YJ
def YK:kR:=⟨List.replicate 32 0,0,0,0,[]⟩
noncomputable def kj (a b:kR):Bool:=@decide (a=b) (Classical.propDecidable _)
theorem z06 (a:kR):kj a a=true:=by unfold kj;exact @decide_eq_true _ (Classical.propDecidable _) rfl
theorem z1Q {a b:kR}:kj a b=true ↔ a=b:=by unfold kj;exact @decide_eq_true_iff _ (Classical.propDecidable _)
theorem jU {a b:kR} (h:a≠b):kj a b=false:=by unfold kj;exact @decide_eq_false _ (Classical.propDecidable _) h
def Qi (b:kR):Bool:=decide (1<=b.vi) && decide (b.vi<=1099511627776) && decide (1<=b.he) && decide (b.he<=1099511627776) && decide (1<=b.bo) && decide (b.bo<=21) && decide (b.txs.length<=8)
noncomputable def jV (b:kR):Bool:=kj b YK || (b.txs.all jC && Qi b)
def jc (b:kR):List UInt8:=
 b.par ++ (dg b.vi.toNat ++ (dg b.he.toNat ++ (dg b.bo.toNat ++ (dg b.txs.length ++ (b.txs.map qY).flatten))))
theorem z6X {b:kR} (h:jV b=true):b=YK\/(b.txs.all jC=true/\1<=b.vi/\b.vi<=1099511627776/\1<=b.he/\b.he<=1099511627776/\1<=b.bo/\b.bo<=21/\b.txs.length<=8):=by
 unfold jV Qi at h;rw[Bool.or_eq_true]at h;rcases h with h|h
 ·exact .inl (z1Q.1 h)
 ·right;simp only[Bool.and_eq_true,decide_eq_true_eq]at h;obtain⟨K,⟨⟨⟨⟨⟨J,N⟩,G⟩,I⟩,M⟩,O⟩,F⟩:=h;exact⟨K,J,N,G,I,M,O,F⟩
theorem z07 {b:kR} (h:jV b=true):(∀t∈b.txs,jC t=true)/\0<=b.vi/\b.vi<=1099511627776/\0<=b.he/\b.he<=1099511627776/\0<=b.bo/\b.bo<=21/\b.txs.length<=8:=by
 rcases z6X h with rfl|⟨G,h⟩
 ·refine⟨fun t F=>absurd F (by simp[YK]),?_⟩;simp[YK]
 ·exact⟨fun t F=>List.all_eq_true.1 G t F,by omega,by omega,by omega,by omega,by omega,by omega,h.2.2.2.2.2.2⟩
theorem kI (l:List UInt8) (p:Nat) (r:Bool):(yk l p r).1.length=32:=by
 unfold yk;split
 ·simp
 ·split
  ·simp;omega
  ·simp
theorem z1R {L h:List UInt8}{p q:Nat}{r:Bool} (e:yk L p r=(h,q,true)):r=true/\h.length=32/\q=p+h.length/\∃x,L.drop p=h ++ x:=by
 have F:=kI L p r;rw[e]at F;simp only at F;unfold yk at e;split at e
 ·cases e
 ·rename_i G;split at e
  ·cases e;refine⟨by simpa using G,F,by omega,L.drop (p+32),?_⟩;rw[<-List.drop_drop,List.take_append_drop]
  ·cases e
structure y8 where
 bo:Int
 ki:Int
 vi:Int
 ph:Int
 ha:List UInt8
 pv:Int
 pa:List UInt8
 tg:List UInt8
 deriving DecidableEq
def qx:List UInt8:=List.replicate 32 0
def ju:y8:=⟨0,0,0,0,qx,0,qx,qx⟩
structure y8.Ok (a:y8):Prop where
 ha:a.ha.length=32
 pa:a.pa.length=32
 tg:a.tg.length=32
theorem qf:ju.Ok:=⟨rfl,rfl,rfl⟩
def vA (a:y8):Bool:=
 if a.bo<1\/21<a.bo\/a.ki<1\/3<a.ki\/a.ph≠a.ki\/a.vi<1\/1099511627776<a.vi\/a.pv<0 then false else decide (a.pv<a.vi) || (decide (a.ki=3) && decide (a.pv=a.vi))
theorem ZJ {a:y8} (h:vA a=true):1<=a.bo/\a.bo<=21/\1<=a.ki/\a.ki<=3/\a.ph=a.ki/\1<=a.vi/\a.vi<=1099511627776/\0<=a.pv/\a.pv<=a.vi:=by
 unfold vA at h;split at h
 ·cases h
 ·rename_i F;simp only[Bool.or_eq_true,Bool.and_eq_true,decide_eq_true_eq]at h;omega
def yY (a:y8):List UInt8:=dg a.ki.toNat ++ (dg a.vi.toNat ++ (dg a.ph.toNat ++ (a.ha ++ (dg a.pv.toNat ++ a.pa))))
theorem YR {a:y8} (F:a.Ok) (G:vA a=true):(yY a).length<=104:=by
 obtain⟨a0,a3,J,N,a2,a5,I,O,a4⟩:=ZJ G;have a6:=zk (n:=a.ki.toNat) (by omega);have K:=zk (n:=a.vi.toNat) (by omega);have M:=zk (n:=a.ph.toNat) (by omega);have a1:=zk (n:=a.pv.toNat) (by omega);have:=F.ha;have:=F.pa;unfold yY;simp only[List.length_append];omega
end Go.Proofs.YtjlinimnnbfmaaaGreatDoor
