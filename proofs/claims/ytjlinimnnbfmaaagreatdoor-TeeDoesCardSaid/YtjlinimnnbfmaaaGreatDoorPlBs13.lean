/-
  AcMay AcCodeRise AcCodeFits AcTagged AcCodeTagged AcTag AcRight: what each of them says stands at its head.
-/
import Derived.Test.YtjlinimnnbfmaaaGreatDoorPlBs11
set_option maxRecDepth 20000
set_option maxHeartbeats 6400000
namespace Go.Proofs.YtjlinimnnbfmaaaGreatDoor
open Go.RowKit Go.Proofs.Tryz
theorem z3o (v:Value) (a:vU) (w:World) (aA:Kh w v a):
  Calls prog 167 #[v] w fun e w'=>e=.returned (.bool (QP a))/\Below w.heap.size w w':=by
 obtain⟨s,rfl,ho,he⟩:=aA;obtain⟨A,c,rfl⟩:=he.shape;obtain⟨l,af⟩:=nm (a.fr);rw[af.o]at he⊢;obtain⟨L,a2⟩:=nm (l.length:Nat);obtain⟨G,ag⟩:=nm (qu 21 0 l);obtain⟨m,al⟩:=nm (QP a);have M:Hd (m=(G && decide (1<=a.bo/\a.bo<=21/\1<=a.vi/\a.vi<=1099511627776/\0<=a.pv/\a.pv<a.vi/\1<=L))):=z0 (by rw[<-al.o,<-ag.o,<-a2.o,<-af.o];rfl);have a4:Below w.heap.size w (w.alloc (.cells (ye a (.slice A l.length c)) 52)):=Ba;have O:=yr.new w a (.slice A l.length c);have a8:=he.len;unfold maxLen at a8;have ah:=he.at_.2.1;have ae:=he.at_.2.2.1;have an:=z0 (fun W (h:Below w.heap.size w W)=>he.below h);rw[a2.o]at a8 ah O a4 an⊢;rw[al.o];unfold maxLen at ae;obtain⟨C,ai⟩:=nm (ye a (.slice A L c));rw[ai.o]at O a4⊢;clear he;go_enter func167,ntmps167;go_upto_region 1 with(fail)
 generalize (w.alloc (.cells C 52))=w0 at *;have ad:=O.lt;have am:=z0 a4
 have a9:Hd (∀W,Below w0.heap.size w0 W->W.cell? ⟨w.heap.size,35,none⟩=some (.slice A L c)/\W.cell? ⟨w.heap.size,0,none⟩=some (.int .i64 a.bo)/\W.cell? ⟨w.heap.size,1,none⟩=some (.int .i64 a.vi)/\W.cell? ⟨w.heap.size,2,none⟩=some (.int .i64 a.pv)):=z0 (fun W h=>by
  have:=O.below h ad
  exact⟨this.fr ho,this.ints⟩)
 clear O ad a4 ai ho;go_wp2_with fail;go_loopw [3] (fun aa wr=>∃(i:Nat) (last:Int),i<=L/\aa=.int .i64 i/\0<=last/\Hd (G=qu 21 last (l.drop i))/\((i=0/\last=0)\/(∃k,i=k+1/\∃h:k<l.length,l[k]=last))/\Below w0.heap.size w0 wr) (fun aa _=>L - (intOf aa).toNat)
 case atStart=>exact⟨0,0,Nat.zero_le _,rfl,Int.le_refl _,z0 (by rw[List.drop_zero];exact ag.o.symm),.inl ⟨rfl,rfl⟩,Below.refl _ _⟩
 case round=>
  obtain⟨i,last,hi,rfl,ap,a6,ao,N⟩:=hrel;have ab:=am.o.trans (N.mono am.o.size);by_cases aq:i<L
  ·have a3:i<l.length:=by rw[a2.o];exact aq
   obtain⟨g,o,rfl,hg,J⟩:=(an.o wr ab).at_.2.2.2 (by omega)
   have F:Hd (G=((decide (last<l[i]) && decide (l[i]<=21)) && qu 21 l[i] (l.drop (i+1)))):=z0 (by
    rw[a6.o,List.drop_eq_getElem_cons a3]
    rfl)
   obtain⟨b,a1⟩:=nm (l[i]:Int);have I:∀k (h:k<l.length),wr.drew.cell? ⟨g,o+k,none⟩=some (.int .i64 l[k]):=fun k h=>by
    have:=J k h 0 _ rfl
    rwa[Nat.mul_one,Nat.add_zero]at this
   have K:wr.drew.cell? ⟨g,o+i,none⟩=some (.int .i64 b):=by rw[<-a1.o];exact I i a3
   have aw:=(a9.o wr N).1;have a0:=(a9.o wr.drew N.drew).1;rw[a1.o]at F;have ar:(i:Int)<(L:Int):=by omega
   have a7:=ab.drew;have ak:=N.drew;by_cases h1:b<1
   ·obtain rfl:G=false:=by rw[F.o,decide_eq_false (by omega)];rfl
    obtain rfl:m=false:=M.o;clear J I;go_upto_region 4 with(fail)
    refine Rh (S:=fun W=>W.cell? ⟨w.heap.size,35,none⟩=some (.slice (some ⟨g,o,none⟩) L c)/\W.cell? ⟨g,o+i,none⟩=some (.int .i64 b)) (by kernel_rfl) ⟨a0,K⟩ (fun a5=>?_);refine' vX 0 (h:=vX 1 (h:=vX 2 (h:=vX 3 (h:=vX 4 (h:=vX 5 (h:=vX 6 (h:=tn 7 (h:=tn 8 (h:=tn 9 (h:=tn 10 (h:=tn 11 (h:=?_))))))))))));refine' tn 12 (h:=vX 13 (h:=vX 14 (h:=tn 15 (h:=tn 16 (h:=tn 17 (h:=tn 18 (h:=tn 19 (h:=tn 20 (h:=tn 21 (h:=tn 22 (h:=tn 23 (h:=?_))))))))))));refine' tn 24 (h:=tn 25 (h:=tn 26 (h:=tn 27 (h:=tn 28 (h:=tn 29 (h:=tn 30 (h:=vX 31 (h:=?_))))))));refine wpAnyH_done (by kernel_rfl) ?_ _;go_wp2;go_ret;exact⟨rfl,a7⟩
   ·by_cases h2:21<b
    ·obtain rfl:G=false:=by rw[F.o,decide_eq_false (show ¬b<=21 by omega),Bool.and_false];rfl
     obtain rfl:m=false:=M.o;clear J I;go_upto_region 4 with(fail)
     refine Rh (S:=fun W=>W.cell? ⟨w.heap.size,35,none⟩=some (.slice (some ⟨g,o,none⟩) L c)/\W.cell? ⟨g,o+i,none⟩=some (.int .i64 b)) (by kernel_rfl) ⟨a0,K⟩ (fun a5=>?_);refine' vX 0 (h:=vX 1 (h:=vX 2 (h:=vX 3 (h:=vX 4 (h:=vX 5 (h:=vX 6 (h:=vX 7 (h:=vX 8 (h:=vX 9 (h:=vX 10 (h:=vX 11 (h:=?_))))))))))));refine' vX 12 (h:=vX 13 (h:=vX 14 (h:=tn 15 (h:=tn 16 (h:=tn 17 (h:=tn 18 (h:=tn 19 (h:=tn 20 (h:=tn 21 (h:=tn 22 (h:=tn 23 (h:=?_))))))))))));refine' tn 24 (h:=tn 25 (h:=tn 26 (h:=tn 27 (h:=tn 28 (h:=tn 29 (h:=tn 30 (h:=vX 31 (h:=?_))))))));refine wpAnyH_done (by kernel_rfl) ?_ _;go_wp2;go_ret;exact⟨rfl,a7⟩
    ·rcases ao with ⟨rfl,rfl⟩|⟨k,rfl,ay,rfl⟩
     ·clear J I;rw[Nat.add_zero]at K;go_upto_region 4 with(fail)
      refine Rh (S:=fun W=>W.cell? ⟨w.heap.size,35,none⟩=some (.slice (some ⟨g,o,none⟩) L c)/\W.cell? ⟨g,o,none⟩=some (.int .i64 b)) (by kernel_rfl) ⟨a0,K⟩ (fun a5=>?_);refine' vX 0 (h:=vX 1 (h:=vX 2 (h:=vX 3 (h:=vX 4 (h:=vX 5 (h:=vX 6 (h:=vX 7 (h:=vX 8 (h:=vX 9 (h:=vX 10 (h:=vX 11 (h:=?_))))))))))));refine' vX 12 (h:=vX 13 (h:=vX 14 (h:=vX 15 (h:=vX 16 (h:=vX 17 (h:=tn 18 (h:=tn 19 (h:=tn 20 (h:=tn 21 (h:=tn 22 (h:=tn 23 (h:=?_))))))))))));refine' tn 24 (h:=tn 25 (h:=tn 26 (h:=tn 27 (h:=tn 28 (h:=tn 29 (h:=vX 30 (h:=vX 31 (h:=?_))))))));refine wpAnyH_done (by kernel_rfl) ?_ _;go_wp2;go_roundw
      case rel=>exact⟨0+1,b,by omega,by go_num,by omega,z0 (by rw[F.o,decide_eq_true (by omega),decide_eq_true (by omega)];simp),.inr ⟨0,rfl,a3,a1.o⟩,ak⟩
      case measure=>simp[intOf];omega
     ·obtain⟨p,aj⟩:=nm (l[k]:Int);have hd:wr.drew.cell? ⟨g,o+k,none⟩=some (.int .i64 p):=by rw[<-aj.o];exact I k ay
      rw[aj.o]at F ap;have aF:(k:Int)<(L:Int):=by omega
      have aG:(0:Int)<((k+1:Nat):Int):=by omega
      have aC:IntKind.i64.wrap (((k+1:Nat):Int) - 1)=(k:Int):=by rw[IntKind.wrap_i64];omega
      have aE:(0:Int)<(k:Int)+1:=by omega
      have aI:(0:Int)<=(k:Int)+1:=by omega
      have aD:(k:Int)+1<(L:Int):=by omega
      have aH:IntKind.i64.wrap ((k:Int)+1 - 1)=(k:Int):=by rw[IntKind.wrap_i64];omega
      have aB:IntKind.i64.wrap (k:Int)=(k:Int):=by rw[IntKind.wrap_i64];omega
      by_cases h3:p<b
      ·have ax:¬b<=p:=by omega
       clear J I;go_upto_region 4 with(fail)
       refine Rh (S:=fun W=>W.cell? ⟨w.heap.size,35,none⟩=some (.slice (some ⟨g,o,none⟩) L c)/\W.cell? ⟨g,o+(k+1),none⟩=some (.int .i64 b)/\W.cell? ⟨g,o+k,none⟩=some (.int .i64 p)) (by kernel_rfl) ⟨a0,K,hd⟩ (fun a5=>?_);refine' vR 0 (h:=vR 1 (h:=vR 2 (h:=vR 3 (h:=vR 4 (h:=vR 5 (h:=vR 6 (h:=vR 7 (h:=vR 8 (h:=vR 9 (h:=vR 10 (h:=vR 11 (h:=?_))))))))))));refine' vR 12 (h:=vR 13 (h:=vR 14 (h:=vR 15 (h:=vR 16 (h:=vR 17 (h:=vR 18 (h:=vR 19 (h:=vR 20 (h:=vR 21 (h:=vR 22 (h:=vR 23 (h:=?_))))))))))));refine' vR 24 (h:=vR 25 (h:=vR 26 (h:=vR 27 (h:=vR 28 (h:=vR 29 (h:=vR 30 (h:=vR 31 (h:=?_))))))));refine wpAnyH_done (by kernel_rfl) ?_ _;go_wp2;go_roundw
       case rel=>exact⟨k+1+1,b,by omega,by go_num,by omega,z0 (by rw[F.o,decide_eq_true h3,decide_eq_true (by omega)];simp),.inr ⟨k+1,rfl,a3,a1.o⟩,ak⟩
       case measure=>simp[intOf];omega
      ·have ax:b<=p:=by omega
       obtain rfl:G=false:=by rw[F.o,decide_eq_false h3];rfl
       obtain rfl:m=false:=M.o;clear J I;go_upto_region 4 with(fail)
       refine Rh (S:=fun W=>W.cell? ⟨w.heap.size,35,none⟩=some (.slice (some ⟨g,o,none⟩) L c)/\W.cell? ⟨g,o+(k+1),none⟩=some (.int .i64 b)/\W.cell? ⟨g,o+k,none⟩=some (.int .i64 p)) (by kernel_rfl) ⟨a0,K,hd⟩ (fun a5=>?_);refine' vR 0 (h:=vR 1 (h:=vR 2 (h:=vR 3 (h:=vR 4 (h:=vR 5 (h:=vR 6 (h:=vR 7 (h:=vR 8 (h:=vR 9 (h:=vR 10 (h:=vR 11 (h:=?_))))))))))));refine' vR 12 (h:=vR 13 (h:=vR 14 (h:=vR 15 (h:=vR 16 (h:=vR 17 (h:=vR 18 (h:=vR 19 (h:=vR 20 (h:=vR 21 (h:=vR 22 (h:=vR 23 (h:=?_))))))))))));refine' vR 24 (h:=vR 25 (h:=vR 26 (h:=vR 27 (h:=vR 28 (h:=vR 29 (h:=vR 30 (h:=vR 31 (h:=?_))))))));refine wpAnyH_done (by kernel_rfl) ?_ _;go_wp2;go_ret;exact⟨rfl,a7⟩
  ·obtain rfl:i=L:=by omega
   obtain rfl:G=true:=by rw[a6.o,List.drop_eq_nil_of_le (by rw[a2.o];exact Nat.le_refl _)];rfl
   obtain⟨aw,av,az,au⟩:=a9.o wr N;have ar:¬(i:Int)<(i:Int):=by omega
   obtain⟨bo,vi,pv,pa,fr,tg⟩:=a;simp only at av az au M;clear ao ap a6 a8 ah ae;go_wp2_with fail;all_goals
    go_ret;refine⟨?_,ab⟩;refine congrArg (fun b=>Ending.returned (Value.bool b)) ?_;rw[M.o];simp only[Bool.true_and]
   all_goals grind
def Xf (i:Int):Bool:=decide (1<=i/\i<=1099511627776)
theorem K2 (i:Int) (w:World):Calls prog 72 #[.int .i64 i] w fun e w'=>e=.returned (.bool (Xf i))/\w=w':=by
 by_cases h1:1<=i
 ·go_enter func72,ntmps72;go_wp2;go_ret;exact⟨QI (by unfold Xf;rw[Bool.eq_iff_iff];simp;omega),rfl⟩
 ·go_enter func72,ntmps72;go_wp2;go_ret;exact⟨QI (by unfold Xf;rw[eq_comm,decide_eq_false_iff_not];omega),rfl⟩
theorem Jv (v:Value) (l:List UInt8) (n:Int) (w:World) (G:zP w v l) (h0:0<=n) (h1:n<9223372036854775808) (J:l.length<=1099511627000):
  Calls prog 129 #[v,.int .i64 n] w fun e w'=>∃x,e=.returned x/\ql w.heap.size w' x (l ++ dg n.toNat)/\Below w.heap.size w w':=by
 have M:IntKind.u64.wrap n=n:=qP _ (by omega) (by omega);go_enter func129,ntmps129;go_wp2_with fail;refine(Vo v l n w G h0 (by omega) J).mono ?_;rintro e K ⟨v1,rfl,I,F⟩;go_wp2;go_ret;exact⟨_,rfl,I,F⟩
def xC:Int->List Int->Int
 |last,[]=>last
 |_,s :: r=>xC s r
theorem z0y (s:Int):∀(l:List Int) (last:Int),xC last (l ++ [s])=s
 | [],_=>rfl
 |x :: r,_=>z0y s r x
theorem J8 (top:Int) (s:Int):∀(l:List Int) (last:Int),qu top last (l ++ [s])=(qu top last l && (decide (xC last l<s) && decide (s<=top)))
 | [],last=>by
  show((decide (last<s) && decide (s<=top)) && true)=(true && (decide (last<s) && decide (s<=top)));rw[Bool.and_true,Bool.true_and]
 |x :: r,last=>by
  have:=J8 top s r x;simp only[List.cons_append,qu,xC,this,Bool.and_assoc];rfl
theorem z0z (top:Int) (m:List Int):∀(l:List Int) (last:Int),qu top last (l ++ m)=true->qu top last l=true
 | [],_,_=>rfl
 |x :: r,last,h=>by
  simp only[List.cons_append,qu,Bool.and_eq_true]at h⊢;exact⟨h.1,z0z top m r x h.2⟩
theorem z0A (top:Int):∀(l:List Int) (last:Int),qu top last l=true->last<=xC last l
 | [],_,_=>Int.le_refl _
 |x :: r,last,h=>by
  simp only[qu,Bool.and_eq_true,decide_eq_true_eq]at h;have:=z0A top r x h.2;show last<=xC x r;omega
theorem z8I {top:Int}{l:List Int} (h:qu top 0 l=true):decide (0<xC 0 l)=decide (0<l.length):=by
 cases l with
 |nil=>rfl
 |cons x r=>
  simp only[qu,Bool.and_eq_true,decide_eq_true_eq]at h;have:=z0A top r x h.2;have h1:0<xC 0 (x :: r):=by
   show 0<xC x r;omega
  rw[decide_eq_true h1];exact(decide_eq_true (by simp)).symm
theorem z4K {l:List Int}{i:Nat} (h:i<l.length) (F:qu 21 0 (l.take i)=true) (h1:¬l[i]<=xC 0 (l.take i)) (h2:zS l[i]=true):qu 21 0 (l.take (i+1))=true:=by
 unfold zS at h2;rw[decide_eq_true_eq]at h2;rw[List.take_succ_eq_append_getElem h,J8,F,decide_eq_true (by omega),decide_eq_true (by omega)];rfl
theorem z6g {l:List Int}{i:Nat} (h:i<l.length) (F:qu 21 0 (l.take i)=true) (h1:l[i]<=xC 0 (l.take i)\/zS l[i]=false):qu 21 0 l=false:=by
 cases hq:qu 21 0 l with
 |false=>rfl
 |true=>
  exfalso
  rw[<-List.take_append_drop (i+1) l]at hq;have:=z0z _ _ _ _ hq;rw[List.take_succ_eq_append_getElem h,J8]at this;simp only[Bool.and_eq_true,decide_eq_true_eq]at this;have h0:=z0A _ _ _ F;rcases h1 with h1|h1
  ·omega
  ·unfold zS at h1;rw[decide_eq_false_iff_not]at h1;omega
theorem z6h (v:Value) (l:List Int) (w0:World) (N:jE VB 1 w0 v l) (hl:l.length<=1000):
  Calls prog 190 #[v] w0 fun e w'=>e=.returned (.bool (decide (0<l.length) && qu 21 0 l))/\Below w0.heap.size w0 w':=by
 obtain⟨A,c,rfl⟩:=N.shape;obtain⟨n,M⟩:=nm (l.length:Nat);rw[M.o]at N hl⊢;have ad:=z0 N;obtain⟨F,a1⟩:=nm ((decide (0<n) && qu 21 0 l));rw[a1.o];clear N;go_enter func190,ntmps190;go_wp2_with fail;go_loopw [3,8] (fun K a0 wr=>∃i:Nat,i<=n/\a0=.int .i64 i/\K=.int .i64 (xC 0 (l.take i))/\Hd (qu 21 0 (l.take i)=true)/\Below w0.heap.size w0 wr) (fun _ a0 _=>n - (intOf a0).toNat)
 case atStart=>exact⟨0,Nat.zero_le _,rfl,rfl,z0 rfl,Below.refl _ _⟩
 case round=>
  obtain⟨i,hi,rfl,rfl,a2,I⟩:=hrel;by_cases ab:i<n
  ·have O:i<l.length:=by rw[M.o];exact ab
   obtain⟨b,o,rfl,hg,a6⟩:=(ad.o.below I).at_.2.2.2 (by omega);have ah:(i:Int)<(n:Int):=by omega
   have l1:wr.cell? ⟨b,o+i,none⟩=some (.int .i64 l[i]):=by
    have:=a6 i O 0 _ rfl
    rwa[Nat.mul_one,Nat.add_zero]at this
   have J:Hd (¬l[i]<=xC 0 (l.take i)->zS l[i]=true->qu 21 0 (l.take (i+1))=true):=z0 (z4K O a2.o);have G:Hd ((l[i]<=xC 0 (l.take i)\/zS l[i]=false)->F=false):=z0 (fun h=>by rw[<-a1.o,z6g O a2.o h,Bool.and_false]);have a5:Hd (xC 0 (l.take (i+1))=l[i]):=z0 (by rw[List.take_succ_eq_append_getElem O,z0y]);obtain⟨bo,af⟩:=nm (l[i]:Int);obtain⟨K,a3⟩:=nm (xC 0 (l.take i):Int);rw[af.o]at J G a5 l1;rw[a3.o]at J G⊢;clear a6 hg;by_cases h1:bo<=K
   ·obtain rfl:F=false:=G.o (.inl h1);go_wp2;go_ret;exact⟨rfl,I⟩
   ·obtain⟨a9,ag⟩:=nm (zS bo);have a7:=z0 (fun W=>jr bo W);rw[ag.o]at a7 J G;have ae:=z0 h1;go_wp2_with fail;refine(a7.o wr).mono ?_;rintro e ai ⟨rfl,rfl⟩;cases a9 with
    |false=>
     obtain rfl:F=false:=G.o (.inr rfl);go_wp2;go_ret;exact⟨rfl,I⟩
    |true=>
     have aa:=z0 (J.o ae.o rfl);clear J G;go_wp2;go_roundw
     case rel=>exact⟨i+1,by omega,by go_num,by rw[a5.o],z0 aa.o,I⟩
     case measure=>simp[intOf];omega
  ·obtain rfl:i=n:=by omega
   have a8:l.take i=l:=List.take_of_length_le (by rw[M.o];exact Nat.le_refl _)
   have a4:Hd (F=decide (0<xC 0 (l.take i))):=z0 (by
    have h:=a2.o;rw[a8]at h⊢
    rw[<-a1.o,h,Bool.and_true,z8I h,M.o])
   obtain⟨K,a3⟩:=nm (xC 0 (l.take i):Int);rw[a3.o]at a4⊢;clear a8;by_cases h1:0<K
   ·obtain rfl:F=true:=by rw[a4.o,decide_eq_true h1]
    go_wp2;go_ret;exact⟨rfl,I⟩
   ·obtain rfl:F=false:=by rw[a4.o,decide_eq_false h1]
    go_wp2;go_ret;exact⟨rfl,I⟩
theorem z6i (v:Value) (a:vU) (w:World) (ae:Kh w v a) (hl:a.fr.length<=1000):
  Calls prog 160 #[v] w fun e w'=>e=.returned (.bool (QP a))/\Below w.heap.size w w':=by
 obtain⟨s,rfl,ho,K⟩:=ae;have F:Below w.heap.size w (w.alloc (.cells (ye a s) 52)):=Ba;have J:=yr.new w a s;obtain⟨A,k,rfl⟩:=K.shape;have a7:=z0 (fun W (h:Below w.heap.size w W)=>K.below h);have ai:=z0 hl;obtain⟨L,af⟩:=nm (a.fr.length:Nat);rw[af.o]at J F a7⊢;obtain⟨I,a3⟩:=nm (QP a);obtain⟨N,ab⟩:=nm (zS a.bo);obtain⟨a0,a8⟩:=nm (Xf a.vi);obtain⟨r,a4⟩:=nm ((decide (0<a.fr.length) && qu 21 0 a.fr))
 have G:Hd (I=(N && (a0 && (decide (0<=a.pv/\a.pv<a.vi) && r)))):=z0 (by
  rw[<-a3.o,<-ab.o,<-a8.o,<-a4.o];unfold QP zS Xf;rw[Bool.eq_iff_iff];simp only[Bool.and_eq_true,decide_eq_true_eq];constructor
  ·rintro⟨h,h1,h2,h3,O,M,a1,ak⟩;exact⟨⟨h1,h2⟩,⟨h3,O⟩,⟨M,a1⟩,by omega,h⟩
  ·rintro⟨⟨h1,h2⟩,⟨h3,O⟩,⟨M,a1⟩,ak,h⟩
   exact⟨h,h1,h2,h3,O,M,a1,by omega⟩)
 rw[a3.o];have a9:Hd (∀W,Calls prog 25 #[.int .i64 a.bo] W fun e w'=>e=.returned (.bool N)/\W=w'):=z0 (fun W=>by have:=jr a.bo W;rw[ab.o]at this;exact this);have a5:Hd (∀W,Calls prog 72 #[.int .i64 a.vi] W fun e w'=>e=.returned (.bool a0)/\W=w'):=z0 (fun W=>by have:=K2 a.vi W;rw[a8.o]at this;exact this)
 have al:Hd (∀W,Below w.heap.size w W->Calls prog 190 #[.slice A L k] W fun e w'=>e=.returned (.bool r)/\Below W.heap.size W w'):=z0 (fun W h=>by
  have:=z6h (.slice A L k) a.fr W (a7.o W h) ai.o;rw[a4.o]at this
  exact this)
 have an:=z0 ho;clear ho K hl;go_enter func160,ntmps160;go_upto_region 1 with(fail)
 generalize (w.alloc (.cells (ye a (.slice A L k)) 52))=w0 at *;obtain⟨a2,aa,a6⟩:=J.ints;have ad:=J.fr an.o;clear J;obtain⟨bo,ao⟩:=nm (a.bo);obtain⟨vi,ah⟩:=nm (a.vi);obtain⟨pv,aj⟩:=nm (a.pv);rw[ao.o]at a2 a9;rw[ah.o]at aa a5 G;rw[aj.o]at a6 G;go_wp2_with fail;refine(a9.o w0).mono ?_;rintro e am ⟨rfl,rfl⟩;cases N with
 |false=>
  obtain rfl:I=false:=G.o;go_wp2;go_ret;exact⟨rfl,F⟩
 |true=>
  go_wp2_with fail;refine(a5.o w0).mono ?_;rintro e am ⟨rfl,rfl⟩;cases a0 with
  |false=>
   obtain rfl:I=false:=G.o;go_wp2;go_ret;exact⟨rfl,F⟩
  |true=>
   by_cases h1:pv<0
   ·obtain rfl:I=false:=by rw[G.o,decide_eq_false (by omega)];rfl
    go_wp2;go_ret;exact⟨rfl,F⟩
   by_cases h2:vi<=pv
   ·obtain rfl:I=false:=by rw[G.o,decide_eq_false (by omega)];rfl
    go_wp2;go_ret;exact⟨rfl,F⟩
   obtain rfl:I=r:=by rw[G.o,decide_eq_true (by omega)];rfl
   go_wp2_with fail;refine(al.o w0 F).mono ?_;rintro e aq ⟨rfl,ap⟩;have ag:=F.trans (ap.mono F.size);clear a2 aa a6 ad;go_wp2;go_ret;exact⟨rfl,ag⟩
section
attribute [local go_sem ↓] zf
theorem z4L (l:List Int) (i:Nat) (h:i<l.length):frB (l.take (i+1))=frB (l.take i) ++ dg (l[i]).toNat:=by
 unfold frB;rw[List.take_succ_eq_append_getElem h,List.map_append,List.flatten_append];simp
theorem Xv (x0:Value) (a:vU) (w:World) (hv:Kh w x0 a) (hm:QP a=true):
  Calls prog 131 #[x0] w fun e w'=>∃x,e=.returned x/\ql w.heap.size w' x (jo a)/\Below w.heap.size w w':=by
 obtain⟨s,rfl,ho,he⟩:=hv;obtain⟨_,h1,h2,h3,h4,h5,h6,h7⟩:=xk.1 hm;obtain⟨hfr,hlen⟩:=z38 hm;have HFR:=z0 hfr;obtain⟨A,c,rfl⟩:=he.shape;have hb0:Below w.heap.size w (w.alloc (.cells (ye a (.slice A a.fr.length c)) 52)):=Ba;have hX:=yr.new w a (.slice A a.fr.length c);have he0:=he.below hb0;obtain⟨L,HL⟩:=nm (a.fr.length:Nat);rw[HL.o]at hX hb0 he0 hlen⊢;obtain⟨C,HC⟩:=nm (ye a (.slice A L c));obtain⟨O,HO⟩:=nm (jo a);rw[HC.o]at hb0 hX he0⊢;rw[HO.o];have HOK:=z0 ho;obtain⟨v,HVV⟩:∃v:Nat,Hd (a.vi=(v:Int)):=⟨a.vi.toNat,z0 (by omega)⟩
 obtain⟨q,HQQ⟩:∃v:Nat,Hd (a.pv=(v:Int)):=⟨a.pv.toNat,z0 (by omega)⟩
 have hv1:IntKind.u64.wrap (v:Int)=(v:Int):=qP _ (by have:=HVV.o;omega) (by have:=HVV.o;omega);have hq1:IntKind.u64.wrap (q:Int)=(q:Int):=qP _ (by have:=HQQ.o;omega) (by have:=HQQ.o;omega);have HNV:=z0 (fun w=>yc (v:Int) w (by omega) (by have:=HVV.o;omega));have HNQ:=z0 (fun w=>yc (q:Int) w (by omega) (by have:=HQQ.o;omega));rw[Int.toNat_natCast]at HNV HNQ;have HLV:=z0 (zk (n:=v) (by have:=HVV.o;omega));have HLQ:=z0 (zk (n:=q) (by have:=HQQ.o;omega));have HBP:=z0 (fun w=>JJ a.pa w HOK.o.pa);have HL21:=z0 hlen;have hLw:IntKind.u8.wrap (L:Int)=(L:Int):=by rw[IntKind.wrap_u8'];omega
 have HYL:=z0 (fun w=>VG w L (by omega));have HDL:Hd (dg L=[UInt8.ofNat L]):=z0 (yx (by omega));clear h1 h2 h3 h4 h5 h6 h7 hm hfr ho he;go_enter func131,ntmps131;go_upto_region 1 with(fail)
 generalize (w.alloc (.cells C 52))=w0 at *;have hs0:=hb0.size;have HX:Hd (∀W,Below w0.heap.size w0 W->W.heap[w.heap.size]?=some (.cells C 52 (0,0))):=z0 (fun W h=>(h.block _ hX.lt).trans (by have:=hX;unfold yr at this;rw[HC.o]at this;exact this))
 have HXC:Hd (∀W:World,W.heap[w.heap.size]?=some (.cells C 52 (0,0))->W.cell? ⟨w.heap.size,1,none⟩=some (.int .i64 (v:Int))/\W.cell? ⟨w.heap.size,2,none⟩=some (.int .i64 (q:Int))/\W.cell? ⟨w.heap.size,35,none⟩=some (.slice A L c)/\W.rangeAt w.heap.size 3 (z4 a.pa)):=z0 (fun W h=>by
  rw[<-HC.o]at h;have hB:yr W w.heap.size a (.slice A L c):=h;rw[<-HVV.o,<-HQQ.o]
  exact⟨hB.ints.2.1,hB.ints.2.2,hB.fr HOK.o,hB.pa⟩)
 have HTX:=z0 (fun W (h:Below w0.heap.size w0 W)=>he0.below h);have hbd:Below w0.heap.size w0 w0.drew:=(Below.refl _ _).drew;have HB0:=z0 hb0;clear hX he0 hb0;refine Rh (S:=fun W=>W.heap[w.heap.size]?=some (.cells C 52 (0,0))) (by kernel_rfl) (HX.o _ hbd) (fun hHeld=>?_);refine' z5 0 (h:=?_);refine' tk (i:=1) (v:=_) rfl ?_ ?_;rotate_left
 ·(intro W hW;(try dsimp only at hW);have hW1:=(HXC.o W hW).1;have hW2:=(HXC.o W hW).2.1;have hW3:=(HXC.o W hW).2.2.1;clear hW;go_simp;first|done|with_reducible rfl)
 try simp only[zx]
 refine' z5 2 (h:=z5 4 (h:=?_));refine' tk (i:=5) (v:=_) rfl ?_ ?_;rotate_left
 ·(intro W hW;(try dsimp only at hW);have hW1:=(HXC.o W hW).1;have hW2:=(HXC.o W hW).2.1;have hW3:=(HXC.o W hW).2.2.1;clear hW;go_simp;first|done|with_reducible rfl)
 try simp only[zx]
 refine' z5 6 (h:=?_);refine qc 3 (h:=fun K hK=>?_);go_simp;refine(HNV.o w0.drew).mono ?_;rintro e w4 ⟨v4,rfl,ho4,hb4'⟩;have hb4:=hbd.trans hb4';refine hK.out _ _ (HX.o _ hb4) (fun hHeld=>?_);clear hK K;try simp only[zx]
 refine qc 7 (h:=fun K hK=>?_);go_simp;refine(HNQ.o w4).mono ?_;rintro e w5 ⟨v5,rfl,ho5,hb5'⟩;have hb5:=hb4.trans (hb5'.mono hb4.size);refine hK.out _ _ (HX.o _ hb5) (fun hHeld=>?_);clear hK K;try simp only[zx]
 refine qc 8 (h:=fun K hK=>?_);refine zF (.tmp 8) (.tmp 12) rfl rfl rfl (ho4.below hb5') ho5.byt (by have:=HLV.o;have:=HLQ.o;omega) hb5.size ?_;intro v6 w6 ho6 hg6 _;have hb6:=hb5.grown hg6 hb5.size (fun q hq=>(World.ownsRow.lt (ho4.below hb5') q hq).1);refine hK.out _ _ (HX.o _ hb6) (fun hHeld=>?_);clear hK K;try simp only[zx]
 refine' z5 9 (h:=?_);refine wpAnyH_done (by kernel_rfl) ?_ _;obtain⟨T1,HT1⟩:=nm (dg v ++ dg q:List UInt8);have HT1L:Hd (T1.length<=20):=z0 (by rw[<-HT1.o,List.length_append];have:=HLV.o;have:=HLQ.o;omega);have ho6':ql w0.heap.size w6 v6 T1:=by rw[<-HT1.o];exact ho6
 obtain⟨P,HP⟩:=nm (T1 ++ a.pa ++ [UInt8.ofNat L]:List UInt8);have HPL:Hd (P.length<=60):=z0 (by rw[<-HP.o];simp only[List.length_append,List.length_cons,List.length_nil,HOK.o.pa];have:=HT1L.o;omega);clear hHeld ho4 ho5 hb4 hb4' hb5 hb5' hg6 ho6 hv1 hq1 hbd;go_upto_region 2 with(fail)
 have hb7:Below w0.heap.size w0 w6.drew:=hb6.drew;have hr7:Below w6.heap.size w6 w6.drew:=(Below.refl _ _).drew;go_cut [3] (fun s3 wx=>ql w0.heap.size wx s3 P/\Below w0.heap.size w0 wx)
 case first=>
  refine Rh (S:=fun W=>W.heap[w.heap.size]?=some (.cells C 52 (0,0))) (by kernel_rfl) (HX.o _ hb7) (fun hHeld=>?_);refine' z5 0 (h:=z5 1 (h:=?_));refine' tk (i:=2) (v:=_) rfl (fun W hW=>zD (HXC.o W hW).2.2.2 HOK.o.pa) ?_;try simp only[zx]
  refine' z5 5 (h:=?_);refine' tk (i:=6) (v:=_) rfl ?_ ?_;rotate_left
  ·(intro W hW;(try dsimp only at hW);have hW3:=(HXC.o W hW).2.2.1;clear hW;go_simp;first|done|with_reducible rfl)
  try simp only[zx]
  refine' z5 7 (h:=z5 8 (h:=?_));have ho7:ql w0.heap.size w6.drew v6 T1:=ho6'.below hr7;refine Jk (i:=3) (j:=9) rfl rfl (by kernel_rfl) (by rfl) (by rfl) (fun K hK=>?_) (fun K hK=>?_)
  ·go_simp;refine(HBP.o w6.drew).mono ?_;rintro e u1 ⟨x4,rfl,ko5,kb2⟩;have kb3:=hb7.trans (kb2.mono hb7.size);have kb3o:=ho7.below kb2;refine hK.out _ _ (HX.o _ kb3) (fun hHeld=>?_);clear hK K;try simp only[zx]
   refine Jk (i:=4) (j:=9) rfl rfl (by kernel_rfl) (by rfl) (by rfl) (fun K hK=>?_) (fun K hK=>?_)
   ·refine zF (.tmp 14) (.tmp 17) rfl rfl rfl kb3o ko5.byt (by have:=HT1L.o;have:=HOK.o.pa;omega) kb3.size ?_;intro x6 u7 ko8 kg9 _;have kb10:=kb3.grown kg9 kb3.size (fun q hq=>(World.ownsRow.lt kb3o q hq).1);refine hK.out _ _ (HX.o _ kb10) (fun hHeld=>?_);clear hK K;try simp only[zx]
    refine qc 9 (h:=fun K hK=>?_);go_simp;have kb11:=kb10.alloc kb10.size (.cells #[.int .u8 (L:Int)] 5);have ky12:=(HYL.o u7).byt;have kb11o:=ko8.alloc (.cells #[.int .u8 (L:Int)] 5);refine hK.out _ _ (HX.o _ kb11) (fun hHeld=>?_);clear hK K;try simp only[zx]
    refine qc 10 (h:=fun K hK=>?_);refine zF (.tmp 18) (.tmp 23) rfl rfl rfl kb11o ky12 (by rw[List.length_append];have:=HT1L.o;have:=HOK.o.pa;simp only[List.length_cons,List.length_nil];omega) kb11.size ?_;intro x13 u14 ko15 kg16 _;have kb17:=kb11.grown kg16 kb11.size (fun q hq=>(World.ownsRow.lt kb11o q hq).1);refine hK.out _ _ (HX.o _ kb17) (fun hHeld=>?_);clear hK K;try simp only[zx]
    refine' z5 11 (h:=?_);refine wpAnyH_done (by kernel_rfl) ?_ _;rw[HP.o]at ko15;have HF:=z0 (And.intro ko15 kb17);clear hHeld;go_wp2;go_meet
    case rel=>exact HF.o
   ·go_simp;have kb18:=kb3.alloc kb3.size (.cells #[.int .u8 (L:Int)] 5);have ky19:=HYL.o u1;have kb18o:=kb3o.alloc (.cells #[.int .u8 (L:Int)] 5);have ko20:=ko5.alloc (.cells #[.int .u8 (L:Int)] 5);refine hK.out _ _ (HX.o _ kb18) (fun hHeld=>?_);clear hK K;try simp only[zx]
    refine qc 4 (h:=fun K hK=>?_);refine zF (.tmp 14) (.tmp 17) rfl rfl rfl kb18o ko20.byt (by have:=HT1L.o;have:=HOK.o.pa;omega) kb18.size ?_;intro x21 u22 ko23 kg24 _;have kb25:=kb18.grown kg24 kb18.size (fun q hq=>(World.ownsRow.lt kb18o q hq).1);have ky26:=VH ho7 kb2.size ky19 kg24;refine hK.out _ _ (HX.o _ kb25) (fun hHeld=>?_);clear hK K;try simp only[zx]
    refine qc 10 (h:=fun K hK=>?_);refine zF (.tmp 18) (.tmp 23) rfl rfl rfl ko23 ky26 (by rw[List.length_append];have:=HT1L.o;have:=HOK.o.pa;simp only[List.length_cons,List.length_nil];omega) kb25.size ?_;intro x27 u28 ko29 kg30 _;have kb31:=kb25.grown kg30 kb25.size (fun q hq=>(World.ownsRow.lt ko23 q hq).1);refine hK.out _ _ (HX.o _ kb31) (fun hHeld=>?_);clear hK K;try simp only[zx]
    refine' z5 11 (h:=?_);refine wpAnyH_done (by kernel_rfl) ?_ _;rw[HP.o]at ko29;have HF:=z0 (And.intro ko29 kb31);clear hHeld;go_wp2;go_meet
    case rel=>exact HF.o
  ·go_simp;have kb32:=hb7.alloc hb7.size (.cells #[.int .u8 (L:Int)] 5);have ky33:=HYL.o w6.drew;have kb32o:=ho7.alloc (.cells #[.int .u8 (L:Int)] 5);refine hK.out _ _ (HX.o _ kb32) (fun hHeld=>?_);clear hK K;try simp only[zx]
   refine qc 3 (h:=fun K hK=>?_);go_simp;refine(HBP.o (w6.drew.alloc (.cells #[.int .u8 (L:Int)] 5))).mono ?_;rintro e u34 ⟨x37,rfl,ko38,kb35⟩;have kb36:=kb32.trans (kb35.mono kb32.size);have kb36o:=kb32o.below kb35;have ky39:=ky33.below kb35;refine hK.out _ _ (HX.o _ kb36) (fun hHeld=>?_);clear hK K;try simp only[zx]
   refine qc 4 (h:=fun K hK=>?_);refine zF (.tmp 14) (.tmp 17) rfl rfl rfl kb36o ko38.byt (by have:=HT1L.o;have:=HOK.o.pa;omega) kb36.size ?_;intro x40 u41 ko42 kg43 _;have kb44:=kb36.grown kg43 kb36.size (fun q hq=>(World.ownsRow.lt kb36o q hq).1);have ky45:=VH ho7 (Nat.le_refl _) ky39 kg43;refine hK.out _ _ (HX.o _ kb44) (fun hHeld=>?_);clear hK K;try simp only[zx]
   refine qc 10 (h:=fun K hK=>?_);refine zF (.tmp 18) (.tmp 23) rfl rfl rfl ko42 ky45 (by rw[List.length_append];have:=HT1L.o;have:=HOK.o.pa;simp only[List.length_cons,List.length_nil];omega) kb44.size ?_;intro x46 u47 ko48 kg49 _;have kb50:=kb44.grown kg49 kb44.size (fun q hq=>(World.ownsRow.lt ko42 q hq).1);refine hK.out _ _ (HX.o _ kb50) (fun hHeld=>?_);clear hK K;try simp only[zx]
   refine' z5 11 (h:=?_);refine wpAnyH_done (by kernel_rfl) ?_ _;rw[HP.o]at ko48;have HF:=z0 (And.intro ko48 kb50);clear hHeld;go_wp2;go_meet
   case rel=>exact HF.o
 case rest=>
  obtain⟨hoc,hbc⟩:=hcut;have HLI:Hd (L<=9223372036854775807):=z0 (by have:=HL21.o;omega);clear ho6' hb6 hb7 hr7 hLw;go_wp2_with fail;go_loopw [3,4] (fun out si wr=>∃i:Nat,i<=L/\si=.int .i64 i/\ql w0.heap.size wr out (P ++ frB (a.fr.take i))/\Below w0.heap.size w0 wr) (fun _ si _=>L - (intOf si).toNat)
  case atStart=>exact⟨0,Nat.zero_le _,rfl,by rw[List.take_zero];unfold frB;rw[List.map_nil,List.flatten_nil,List.append_nil];exact hoc,hbc⟩
  case round=>
   obtain⟨i,hi,rfl,hown,hB⟩:=hrel;clear hoc hbc;by_cases hlt:i<L
   ·have hil:i<a.fr.length:=by rw[HL.o];exact hlt
    obtain⟨g,o,rfl,hg,hcl⟩:=(HTX.o wr hB).at_.2.2.2 (by omega);have hsi:=HFR.o _ (List.getElem_mem hil);have HNEW:=z0 (z4L a.fr i hil)
    have HFL:Hd ((frB (a.fr.take i)).length<=21):=z0 (by
     rw[z37 _ (fun s hs=>HFR.o s (List.mem_of_mem_take hs)),List.length_take];have:=HL21.o
     omega)
    obtain⟨b,HSI⟩:∃s,Hd (a.fr[i]=s):=⟨_,z0 rfl⟩
    rw[HSI.o]at hsi HNEW;obtain⟨n,rfl⟩:=yy (i:=b) (by omega);have hbw:IntKind.u8.wrap (n:Int)=(n:Int):=by rw[IntKind.wrap_u8'];omega
    have HDN:Hd (dg n=[UInt8.ofNat n]):=z0 (yx (by omega));rw[Int.toNat_natCast,HDN.o]at HNEW;have HYN:=z0 (fun w=>VG w n (by omega));have c0:=(HXC.o wr (HX.o wr hB)).2.2.1;have c1:wr.cell? ⟨g,o+i,none⟩=some (.int .i64 (n:Int)):=by
     have:=hcl i hil 0 _ rfl
     rwa[Nat.mul_one,Nat.add_zero,HSI.o]at this
    obtain⟨Q,HQ⟩:=nm (P ++ frB (a.fr.take i):List UInt8);have HQL:Hd (Q.length<=100):=z0 (by rw[<-HQ.o,List.length_append];have:=HPL.o;have:=HFL.o;omega);rw[HQ.o]at hown;have hI:(i:Int)<(L:Int):=by omega
    have hHI:Hd (i<L):=z0 hlt;have HBW:=z0 hB;have HWW:=z0 hown;clear hcl hsi hg hown;go_wp2_with (at_builtin;refine z9 rfl (.tmp 32) (.tmp 39) rfl rfl rfl (HWW.o.alloc _) (HYN.o wr).byt (by have:=HQL.o;simp only[List.length_cons,List.length_nil];omega) (Nat.le_trans HBW.o.size (yL _ _)) ?_;intro v8 w8 ho8 hg8 _;have HO8:=z0 ho8;have HB8:=z0 ((HBW.o.alloc HBW.o.size _).grown hg8 (Nat.le_trans HBW.o.size (yL _ _)) (fun q hq=>(World.ownsRow.lt HWW.o q hq).1));clear hg8 ho8);go_roundw
    case rel=>
     refine⟨i+1,hHI.o,by go_num,?_,HB8.o⟩;rw[HNEW.o,<-List.append_assoc,HQ.o];exact HO8.o
    case measure=>have:=HL21.o;simp[intOf];omega
   ·have E4:=z0 (show i=L by omega);have hI:¬(i:Int)<(L:Int):=by omega
    have c0:=(HXC.o wr (HX.o wr hB)).2.2.1;go_wp2;go_ret;refine⟨_,rfl,?_,HB0.o.trans (hB.mono hs0)⟩;rw[E4.o,List.take_of_length_le (by rw[HL.o];exact Nat.le_refl _)]at hown;have e:P ++ frB a.fr=O:=by
     rw[<-HO.o,<-HP.o,<-HT1.o];unfold jo;rw[HL.o,HDL.o,HVV.o,HQQ.o,Int.toNat_natCast,Int.toNat_natCast];simp only[List.append_assoc]
    rw[e]at hown;exact hown.more hs0
end
section
attribute [local go_sem ↓] zf
theorem Ys (v:Value) (a:vU) (w:World) (hv:Kh w v a) (hm:QP a=true):
  Calls prog 78 #[v] w fun e w'=>∃x,e=.returned x/\ql w.heap.size w' x (jo a)/\Below w.heap.size w w':=by
 obtain⟨s,rfl,ho,ht⟩:=hv;obtain⟨_,h1,h2,h3,h4,h5,h6,h7⟩:=xk.1 hm;obtain⟨hfr,hl21⟩:=z38 hm;have HFR:=z0 hfr;have hb0:Below w.heap.size w (w.alloc (.cells (ye a s) 52)):=Ba;have hX:=yr.new w a s;have ht0:=ht.below hb0;obtain⟨A,k,rfl⟩:=ht.shape;obtain⟨l,HFL⟩:=nm (a.fr);have HO2:Hd (jo a=dg a.vi.toNat ++ (dg a.pv.toNat ++ (a.pa ++ (dg l.length ++ frB l)))):=z0 (by rw[<-HFL.o];rfl);rw[HFL.o]at hX hb0 ht0 hl21 HFR⊢;obtain⟨L,HL⟩:=nm (l.length:Nat);rw[HL.o]at hX hb0 ht0 hl21 HO2⊢;obtain⟨C,HC⟩:=nm (ye a (.slice A L k));obtain⟨O,HO⟩:=nm (jo a);rw[HC.o]at hX hb0 ht0⊢;rw[HO.o]at HO2⊢;have HL21:=z0 hl21;have HOK:=z0 ho;obtain⟨vn,HVV⟩:∃v:Nat,Hd (a.vi=(v:Int)):=⟨a.vi.toNat,z0 (by omega)⟩
 obtain⟨qn,HQQ⟩:∃v:Nat,Hd (a.pv=(v:Int)):=⟨a.pv.toNat,z0 (by omega)⟩
 rw[HVV.o,HQQ.o]at HO2;simp only[Int.toNat_natCast]at HO2;have HB:Hd (vn<9223372036854775808/\qn<9223372036854775808):=z0 (by have:=HVV.o;have:=HQQ.o;omega);have HLV:=z0 (zk (n:=vn) (by have:=HVV.o;omega));have HLQ:=z0 (zk (n:=qn) (by have:=HQQ.o;omega));have HLN:=z0 (zk (n:=L) (by omega));have HHL:=z0 ho.pa
 have HLD:Hd (∀W:World,W.heap[w.heap.size]?=some (.cells C 52 (0,0))->W.cell? ⟨w.heap.size,1,none⟩=some (.int .i64 (vn:Int))/\W.cell? ⟨w.heap.size,2,none⟩=some (.int .i64 (qn:Int))/\qE (.pointer (some ⟨w.heap.size,3,none⟩)) W=.ok (.value (.agg (z2 a.pa))) W/\W.cell? ⟨w.heap.size,35,none⟩=some (.slice A L k)):=z0 (fun W h=>by
  rw[<-HC.o]at h;have hB:yr W w.heap.size a (.slice A L k):=h;rw[<-HVV.o,<-HQQ.o]
  exact⟨hB.ints.2.1,hB.ints.2.2,zD hB.pa HOK.o.pa,hB.fr HOK.o⟩)
 have hr0:(w.alloc (.cells C 52)).heap[w.heap.size]?=some (.cells C 52 (0,0)):=Xh w _;clear ho ht hm hl21 hfr h1 h2 h3 h4 h5 h6 h7 HO HC hX;go_enter func78,ntmps78;go_upto_region 1 with(fail)
 generalize (w.alloc (.cells C 52))=w0 at *;have hlr:=Lb hr0;have HX:=z0 (fun W (h:Below w0.heap.size w0 W)=>HLD.o W ((h.block _ hlr).trans hr0));have HTX:=z0 (fun W (h:Below w0.heap.size w0 W)=>ht0.below h);have HB0:=z0 hb0;clear hr0 hlr ht0 hb0;have d1:=(HX.o w0 (Below.refl _ _)).1;go_wp2_with fail;refine(Jv _ [] (vn:Int) w0 (zP.nil _) (by omega) (by have:=HB.o;omega) (by decide)).mono ?_;rintro e w1 ⟨v1,rfl,ho1,hb1⟩;rw[Int.toNat_natCast,List.nil_append]at ho1;have d2:=(HX.o w1 hb1).2.1;clear d1;go_wp2_with fail;refine(Jv _ _ (qn:Int) w1 ho1.byt (by omega) (by have:=HB.o;omega) (by have:=HLV.o;omega)).mono ?_;rintro e w2 ⟨v2,rfl,ho2,hb2'⟩;have hb2:=hb1.trans (hb2'.mono hb1.size);rw[Int.toNat_natCast]at ho2;have d4:=(HX.o w2 hb2).2.2.1;clear d2 hb2';go_wp2_with fail;refine(YQ _ _ a.pa w2 ho2.byt (by simp only[List.length_append];have:=HLV.o;have:=HLQ.o;omega) HHL.o).mono ?_;rintro e w4 ⟨v4,rfl,ho4,hb4'⟩;have hb4:=hb2.trans (hb4'.mono hb2.size);have d7:=(HX.o w4 hb4).2.2.2;clear d4 hb4';go_wp2_with fail;refine(Jv _ _ (L:Int) w4 ho4.byt (by omega) (by have:=HL21.o;omega) (by simp only[List.length_append];have:=HLV.o;have:=HLQ.o;have:=HHL.o;omega)).mono ?_;rintro e w7 ⟨v7,rfl,ho7,hb7'⟩;have hb7:=hb4.trans (hb7'.mono hb4.size);rw[Int.toNat_natCast]at ho7;have d8:=(HX.o w7 hb7).2.2.2;have HZB:=z0 hb4.size;clear d7 hb7' ho1 ho2 ho4 hb1 hb2 hb4;obtain⟨P,HP⟩:=nm (dg vn ++ dg qn ++ a.pa ++ dg L:List UInt8);have HPL:Hd (P.length<=150):=z0 (by rw[<-HP.o];simp only[List.length_append];have:=HLV.o;have:=HLQ.o;have:=HLN.o;have:=HHL.o;omega);rw[HP.o]at ho7;have ho7':=ho7.more HZB.o;clear ho7;go_wp2_with fail;clear d8;go_loopw [3,25] (fun out si wr=>∃i:Nat,i<=L/\si=.int .i64 i/\ql w0.heap.size wr out (P ++ frB (l.take i))/\Below w0.heap.size w0 wr) (fun _ si _=>L - (intOf si).toNat)
 case atStart=>exact⟨0,Nat.zero_le _,rfl,by rw[List.take_zero];show ql _ _ _ (P ++ []);rw[List.append_nil];exact ho7',hb7⟩
 case round=>
  obtain⟨i,hi,rfl,hown,hB⟩:=hrel;clear ho7' hb7;by_cases hlt:i<L
  ·have hil:i<l.length:=by rw[HL.o];exact hlt
   obtain⟨g,o,rfl,hg,hcl⟩:=(HTX.o wr hB).at_.2.2.2 (by omega);have hsi:=HFR.o _ (List.getElem_mem hil);have HNEW:=z0 (z4L l i hil)
   have HFL:Hd ((frB (l.take i)).length<=21):=z0 (by
    rw[z37 _ (fun x hx=>HFR.o x (List.mem_of_mem_take hx)),List.length_take];have:=HL21.o
    omega)
   have l1:wr.cell? ⟨g,o+i,none⟩=some (.int .i64 l[i]):=by
    have:=hcl i hil 0 _ rfl
    rwa[Nat.mul_one,Nat.add_zero]at this
   obtain⟨n,HNN⟩:∃n:Nat,Hd (l[i]=(n:Int)):=⟨(l[i]).toNat,z0 (by omega)⟩
   have HN21:Hd (n<=21):=z0 (by have:=HNN.o;omega);have HNL:=z0 (zk (n:=n) (by have:=HN21.o;omega));rw[HNN.o]at l1 HNEW;rw[Int.toNat_natCast]at HNEW;obtain⟨Q,HQ⟩:=nm (P ++ frB (l.take i):List UInt8);have HQL:Hd (Q.length<=1000):=z0 (by rw[<-HQ.o,List.length_append];have:=HPL.o;have:=HFL.o;omega);rw[HQ.o]at hown;have hI:(i:Int)<(L:Int):=by omega
   obtain⟨QA,QC,e⟩:=hown.byt.shape;obtain⟨qq,HQQL⟩:=nm (Q.length:Nat);rw[HQQL.o]at e;subst e;have HLT:=z0 hlt;clear hcl hg hsi;go_wp2_with fail;refine(Jv _ Q (n:Int) wr hown.byt (by omega) (by have:=HN21.o;omega) (by have:=HQL.o;omega)).mono ?_;rintro e w2 ⟨v2,rfl,ho2,hb2⟩;rw[Int.toNat_natCast]at ho2
   have HO3:Hd (ql w0.heap.size w2 v2 (P ++ frB (l.take (i+1)))):=z0 (by
    rw[HNEW.o,<-List.append_assoc,HQ.o]
    exact ho2.more hB.size)
   have HB3:=z0 (hB.trans (hb2.mono hB.size));have HWI:Hd (wrap64 ((i:Int)+1)=((i+1:Nat):Int)):=z0 (by have h1:=HLT.o;have h2:=HL21.o;unfold wrap64;omega);clear ho2 hb2 l1 hown;go_wp2;go_roundw
   case rel=>exact⟨i+1,by have:=HLT.o;omega,by first|rw[HWI.o]|go_num,HO3.o,HB3.o⟩
   case measure=>
    have h1:=HLT.o;have hw:=HWI.o
    (try simp only[hw]);simp[intOf];omega
  ·obtain rfl:i=L:=by omega
   have htk:l.take i=l:=List.take_of_length_le (by rw[HL.o];exact Nat.le_refl _);rw[htk,<-HP.o]at hown;simp only[List.append_assoc]at hown;rw[<-HO2.o]at hown;clear htk;go_wp2;go_ret;exact⟨_,rfl,hown.more HB0.o.size,HB0.o.trans (hB.mono HB0.o.size)⟩
end
section
attribute [local go_sem ↓] zf zO
theorem Yt (x0:Value) (a:vU) (w:World) (N:Kh w x0 a) (a2:QP a=true) (F:yB 0 w):
  Calls prog 79 #[x0] w fun e w'=>e=.returned (.agg (z2 (ZW a)))/\Below w.heap.size w w':=by
 have aa:=z0 (fun W (h:Below w.heap.size w W)=>Xv x0 a W (N.below h) a2);obtain⟨s,rfl,ho,he⟩:=N;obtain⟨C,a5⟩:=nm (ye a s);have ah:Hd (C.size=68):=z0 (by rw[<-a5.o];exact zT _ ho);rw[a5.o]at aa⊢;have a4:=Zj w (.cells C 52) (.cells (z1 32 fun _=>z3 0) 38);have a7:zK ((w.alloc (.cells C 52)).alloc (.cells (z1 32 fun _=>z3 0) 38)) (w.heap.size+1) 32 (fun _=>z3 0) 38:=kT w (.cells C 52) _;have J:Below w.heap.size w ((w.alloc (.cells C 52)).alloc (.cells (z1 32 fun _=>z3 0) 38)):=Ba.alloc (by simp) _;have an:=z0 (fun W (h:Below w.heap.size w W)=>(show yB 0 W from F.below h));have ai:=Ql ho a2
 have a6:Hd (∀v W,Below w.heap.size w W->zP W v (jo a)->Calls prog 93 #[.int .i64 a.bo,.int .u8 2,v] W fun e w'=>e=.returned (.agg (z1 32 fun j=>z3 (Qd a.bo 2 (jo a) j)))/\Below W.heap.size W w'):=z0 (fun v W h N=>by
  have:=JY a.bo 2 v (jo a) W N (by omega) (an.o W h)
  exact this)
 obtain⟨τ,ab⟩:=nm (Qd a.bo 2 (jo a):Nat->UInt8);obtain⟨D,K⟩:=nm ((z1 32 fun j=>z3 (τ j)));have ap:Hd (z2 (ZW a)=D):=z0 (by rw[<-K.o,<-ab.o,kJ];rfl);rw[ab.o,K.o]at a6;rw[ap.o]
 have a9:Hd (∀W:World,W.heap[w.heap.size]?=some (.cells C 52 (0,0))->W.cell? ⟨w.heap.size,0,none⟩=some (.int .i64 a.bo)/\yP (.pointer (some ⟨w.heap.size,0,none⟩)) W=.ok (.value (.agg C)) W):=z0 (fun W h=>by
  refine⟨?_,qH h ah.o⟩;rw[<-a5.o]at h;have ar:yr W w.heap.size a s:=h
  exact ar.ints.1)
 clear F ho a2 ai he;go_enter func79,ntmps79;go_upto_region 1 with(refine zb qo rfl rfl ?_)
 generalize ((w.alloc (.cells C 52)).alloc (.cells (z1 32 fun _=>z3 0) 38))=w0 at *;have a3:=Lb a4;have O:Hd (∀W,Below w0.heap.size w0 W->W.heap[w.heap.size]?=some (.cells C 52 (0,0))):=z0 (fun W h=>(h.block _ a3).trans a4);have ad:Below w0.heap.size w0 w0.drew:=(Below.refl _ _).drew;have am:=z0 a7;have ag:=z0 a3;clear a7 a4 a3;refine Rh (S:=fun W=>W.heap[w.heap.size]?=some (.cells C 52 (0,0))) (by kernel_rfl) (O.o _ ad) (fun a1=>?_);refine' z5 0 (h:=?_);refine' tk (i:=1) (v:=_) rfl ?_ ?_;rotate_left
 ·(intro W M;(try dsimp only at M);have aw:=(a9.o W M).1;go_simp;first|done|with_reducible rfl)
 try simp only[zx]
 refine' tk (i:=2) (v:=_) rfl (fun W M=>(a9.o W M).2) ?_;try simp only[zx]
 refine qc 3 (h:=fun I F=>?_);go_simp;refine(aa.o w0.drew (J.drew)).mono ?_;rintro e aj ⟨ao,rfl,al,au⟩;have a0:=ad.trans au;refine F.out _ _ (O.o _ a0) (fun a1=>?_);clear F I;try simp only[zx]
 refine qc 4 (h:=fun I F=>?_);go_simp;refine(a6.o ao aj (J.trans (a0.mono J.size)) al.byt).mono ?_;rintro e ax ⟨rfl,aq⟩;have G:=a0.trans (aq.mono a0.size);have ae:=J.trans (G.mono J.size);have af:=am.o.keep G;refine F.out _ _ (O.o _ G) (fun a1=>?_);clear F I;try simp only[zx]
 refine qc 5 (h:=fun I F=>?_);refine JK (f':=fun j=>z3 (τ j)) _ _ rfl rfl (by rw[K.o];rfl) af (fun _ _=>rfl) ?_;intro ay a8 ak av;refine F.out _ _ ((a8.block _ (Nat.lt_of_lt_of_le ag.o G.size) (fun e=>by injection e with e;omega)).trans (O.o _ G)) (fun a1=>?_);clear F I;try simp only[Act.put]
 refine wpAnyH_done (by kernel_rfl) ?_ _;go_wp2_with fail;refine Bp (qo.result rfl _ _ rfl ak) rfl ⟨by rw[K.o],?_⟩;exact zh ae (Nat.le_succ _) a8 ae.size
end
section
attribute [local go_sem ↓] zf zO
theorem z0B (n:Int) (x0:Value) (a:vU) (w:World) (hv:Kh w x0 a) (hK:yB 0 w):
  Calls prog 121 #[.int .i64 n,x0] w fun e w'=>e=.returned (.bool (xm n a))/\Below w.heap.size w w':=by
 obtain⟨m,HM⟩:=nm (QP a);obtain⟨t,HT⟩:=nm (decide (a.tg=ZW a));obtain⟨q,HQ⟩:=nm (qC n);obtain⟨ans,HAN⟩:=nm (xm n a);have HR:Hd (ans=(decide (q≠0) && (m && (decide (a.bo<=n) && (decide (a.fr.length=q) && (decide (z0n a.fr<=n) && t)))))):=z0 (by rw[<-HAN.o,<-HM.o,<-HT.o,<-HQ.o];rfl)
 have HQU:Hd (∀W,Calls prog 5 #[.int .i64 n] W fun e w'=>e=.returned (.int .i64 (q:Int))/\W=w'):=z0 (fun W=>by
  have:=xY n W;rw[HQ.o]at this
  exact this)
 have HMY:Hd (∀W,Below w.heap.size w W->Calls prog 167 #[x0] W fun e w'=>e=.returned (.bool m)/\Below W.heap.size W w'):=z0 (fun W h=>by
  have:=z3o x0 a W (hv.below h);rw[HM.o]at this
  exact this)
 have HTG:Hd (m=true->∀W,Below w.heap.size w W->Calls prog 79 #[x0] W fun e w'=>e=.returned (.agg (z2 (ZW a)))/\Below W.heap.size W w'):=z0 (fun hm W h=>Yt x0 a W (hv.below h) (HM.o.trans hm) (hK.below h));have HV:=z0 (fun W (h:Below w.heap.size w W)=>hv.below h);obtain⟨s,rfl,ho,he⟩:=hv
 have HEQ:Hd (∀W,(Op.equalIn 10000 38 (.agg (z2 a.tg)) (.agg (z2 (ZW a)))).run prog W=.ok t W):=z0 (fun W=>by
  have:=xX a.tg (ZW a) ho.tg (J3 a) W;rw[HT.o]at this
  exact this)
 have he1:=he.below ((Below.refl w.heap.size w).alloc (Nat.le_refl _) (.cells (ye a s) 52));obtain⟨A,c,rfl⟩:=he.shape;obtain⟨L,HL⟩:=nm (a.fr.length:Nat);have hlen:=he.len;unfold maxLen at hlen;rw[HL.o]at HR hlen HV HMY HTG he1⊢;obtain⟨C,HC⟩:=nm (ye a (.slice A L c));have HCS:Hd (C.size=68):=z0 (by rw[<-HC.o];exact zT _ ho);rw[HC.o]at HV HMY HTG he1⊢;rw[HAN.o];obtain⟨G,HG⟩:=nm (z2 a.tg);obtain⟨X,HX1⟩:=nm (z2 (ZW a));rw[HX1.o]at HTG HEQ;rw[HG.o]at HEQ;obtain⟨b,HBO⟩:=nm (a.bo);obtain⟨z,HZL⟩:=nm (z0n a.fr);rw[HBO.o,HZL.o]at HR;have hr0:=Xh w (.cells C 52);have hb0:Below w.heap.size w (w.alloc (.cells C 52)):=Ba
 have HXR:Hd (∀W:World,W.heap[w.heap.size]?=some (.cells C 52 (0,0))->W.cell? ⟨w.heap.size,0,none⟩=some (.int .i64 b)/\yP (.pointer (some ⟨w.heap.size,0,none⟩)) W=.ok (.value (.agg C)) W/\W.cell? ⟨w.heap.size,35,none⟩=some (.slice A L c)/\qE (.pointer (some ⟨w.heap.size,36,none⟩)) W=.ok (.value (.agg G)) W):=z0 (fun W h=>by
  have h':=h;rw[<-HC.o]at h';have hB:yr W w.heap.size a (.slice A L c):=h';rw[<-HBO.o,<-HG.o]
  exact⟨hB.ints.1,qH h HCS.o,hB.fr ho,zD (hB.tg ho) ho.tg⟩)
 have HOK:=z0 ho;clear ho he hK;go_enter func121,ntmps121;go_upto_region 1 with(fail)
 generalize (w.alloc (.cells C 52))=w0 at *;have hl0:=Lb hr0;have HX:Hd (∀W,Below w0.heap.size w0 W->W.heap[w.heap.size]?=some (.cells C 52 (0,0))):=z0 (fun W h=>(h.block _ hl0).trans hr0);have HE1:=z0 (fun W (h:Below w0.heap.size w0 W)=>he1.below h);have hbd:Below w0.heap.size w0 w0.drew:=(Below.refl _ _).drew;clear hr0 hl0 he1;go_wp2_with (go_not_at_region 2;fail);refine(HQU.o w0).mono ?_;rintro e w1 ⟨rfl,rfl⟩;go_upto_region 2 with(fail)
 by_cases hq:q=0
 ·subst hq;obtain rfl:ans=false:=HR.o;refine Rh (S:=fun W=>W.heap[w.heap.size]?=some (.cells C 52 (0,0))) (by kernel_rfl) (HX.o _ hbd) (fun hHeld=>?_);refine' z5 0 (h:=z5 1 (h:=z5 2 (h:=tn 3 (h:=tn 4 (h:=z5 5 (h:=z5 6 (h:=tn 7 (h:=tn 8 (h:=tn 9 (h:=tn 10 (h:=z5 11 (h:=?_))))))))))));refine' z5 12 (h:=tn 13 (h:=tn 14 (h:=tn 15 (h:=tn 16 (h:=tn 17 (h:=z5 18 (h:=z5 19 (h:=tn 20 (h:=tn 21 (h:=tn 22 (h:=tn 23 (h:=?_))))))))))));refine' tn 24 (h:=tn 25 (h:=tn 26 (h:=tn 27 (h:=tn 28 (h:=tn 29 (h:=z5 30 (h:=z5 31 (h:=tn 32 (h:=tn 33 (h:=tn 34 (h:=tn 35 (h:=?_))))))))))));refine' tn 36 (h:=z5 37 (h:=z5 38 (h:=?_)));refine wpAnyH_done (by kernel_rfl) ?_ _;have HF:=z0 (hb0.trans (hbd.mono hb0.size));clear hHeld;go_wp2;go_ret;exact⟨rfl,HF.o⟩
 have hq1:(0:Int)<(q:Int):=by omega
 have hq0:0<q:=by omega
 have HQ0:=z0 hq;cases m with
 |false=>
  obtain rfl:ans=false:=by rw[HR.o];simp
  refine Rh (S:=fun W=>W.heap[w.heap.size]?=some (.cells C 52 (0,0))) (by kernel_rfl) (HX.o _ hbd) (fun hHeld=>?_);refine' z5 0 (h:=z5 1 (h:=z5 2 (h:=?_)));refine' tk (i:=3) (v:=_) rfl (fun W hW=>(HXR.o W hW).2.1) ?_;try simp only[zx]
  refine qc 4 (h:=fun K hK=>?_);go_simp;refine(HMY.o w0.drew hb0.drew).mono ?_;rintro e w2 ⟨rfl,hb2'⟩;have hb2:=hbd.trans hb2';refine hK.out _ _ (HX.o _ hb2) (fun hHeld=>?_);clear hK K;try simp only[zx]
  refine' z5 5 (h:=z5 6 (h:=tn 7 (h:=tn 8 (h:=tn 9 (h:=tn 10 (h:=z5 11 (h:=z5 12 (h:=tn 13 (h:=tn 14 (h:=tn 15 (h:=tn 16 (h:=?_))))))))))));refine' tn 17 (h:=z5 18 (h:=z5 19 (h:=tn 20 (h:=tn 21 (h:=tn 22 (h:=tn 23 (h:=tn 24 (h:=tn 25 (h:=tn 26 (h:=tn 27 (h:=tn 28 (h:=?_))))))))))));refine' tn 29 (h:=z5 30 (h:=z5 31 (h:=tn 32 (h:=tn 33 (h:=tn 34 (h:=tn 35 (h:=tn 36 (h:=z5 37 (h:=z5 38 (h:=?_))))))))));refine wpAnyH_done (by kernel_rfl) ?_ _;have HF:=z0 (hb0.trans (hb2.mono hb0.size));clear hHeld;go_wp2;go_ret;exact⟨rfl,HF.o⟩
 |true=>
 have HTG2:=z0 (HTG.o rfl);by_cases hbn:¬b<=n
 ·obtain rfl:ans=false:=by rw[HR.o,decide_eq_false hbn];simp
  refine Rh (S:=fun W=>W.heap[w.heap.size]?=some (.cells C 52 (0,0))) (by kernel_rfl) (HX.o _ hbd) (fun hHeld=>?_);refine' z5 0 (h:=z5 1 (h:=z5 2 (h:=?_)));refine' tk (i:=3) (v:=_) rfl (fun W hW=>(HXR.o W hW).2.1) ?_;try simp only[zx]
  refine qc 4 (h:=fun K hK=>?_);go_simp;refine(HMY.o w0.drew hb0.drew).mono ?_;rintro e w2 ⟨rfl,hb2'⟩;have hb2:=hbd.trans hb2';refine hK.out _ _ (HX.o _ hb2) (fun hHeld=>?_);clear hK K;try simp only[zx]
  refine' z5 5 (h:=z5 6 (h:=z5 7 (h:=?_)));refine' tk (i:=8) (v:=_) rfl ?_ ?_;rotate_left
  ·(intro W hW;(try dsimp only at hW);have hW1:=(HXR.o W hW).1;clear hW;go_simp;first|done|with_reducible rfl)
  try simp only[zx]
  refine' z5 9 (h:=z5 10 (h:=z5 11 (h:=z5 12 (h:=tn 13 (h:=tn 14 (h:=tn 15 (h:=tn 16 (h:=tn 17 (h:=z5 18 (h:=z5 19 (h:=tn 20 (h:=?_))))))))))));refine' tn 21 (h:=tn 22 (h:=tn 23 (h:=tn 24 (h:=tn 25 (h:=tn 26 (h:=tn 27 (h:=tn 28 (h:=tn 29 (h:=z5 30 (h:=z5 31 (h:=tn 32 (h:=?_))))))))))));refine' tn 33 (h:=tn 34 (h:=tn 35 (h:=tn 36 (h:=z5 37 (h:=z5 38 (h:=?_))))));refine wpAnyH_done (by kernel_rfl) ?_ _;have HF:=z0 (hb0.trans (hb2.mono hb0.size));clear hHeld;go_wp2;go_ret;exact⟨rfl,HF.o⟩
 have hbn1:b<=n:=by omega
 by_cases hL:¬L=q
 ·obtain rfl:ans=false:=by rw[HR.o,decide_eq_false hL];simp
  have hLq:((L:Int) == (q:Int))=false:=by simp;omega
  refine Rh (S:=fun W=>W.heap[w.heap.size]?=some (.cells C 52 (0,0))) (by kernel_rfl) (HX.o _ hbd) (fun hHeld=>?_);refine' z5 0 (h:=z5 1 (h:=z5 2 (h:=?_)));refine' tk (i:=3) (v:=_) rfl (fun W hW=>(HXR.o W hW).2.1) ?_;try simp only[zx]
  refine qc 4 (h:=fun K hK=>?_);go_simp;refine(HMY.o w0.drew hb0.drew).mono ?_;rintro e w2 ⟨rfl,hb2'⟩;have hb2:=hbd.trans hb2';refine hK.out _ _ (HX.o _ hb2) (fun hHeld=>?_);clear hK K;try simp only[zx]
  refine' z5 5 (h:=z5 6 (h:=z5 7 (h:=?_)));refine' tk (i:=8) (v:=_) rfl ?_ ?_;rotate_left
  ·(intro W hW;(try dsimp only at hW);have hW1:=(HXR.o W hW).1;clear hW;go_simp;first|done|with_reducible rfl)
  try simp only[zx]
  refine' z5 9 (h:=z5 10 (h:=z5 11 (h:=z5 12 (h:=z5 13 (h:=?_)))));refine' tk (i:=14) (v:=_) rfl ?_ ?_;rotate_left
  ·(intro W hW;(try dsimp only at hW);have hW1:=(HXR.o W hW).2.2.1;clear hW;go_simp;first|done|with_reducible rfl)
  try simp only[zx]
  refine' z5 15 (h:=z5 16 (h:=z5 17 (h:=z5 18 (h:=z5 19 (h:=tn 20 (h:=tn 21 (h:=tn 22 (h:=tn 23 (h:=tn 24 (h:=tn 25 (h:=tn 26 (h:=?_))))))))))));refine' tn 27 (h:=tn 28 (h:=tn 29 (h:=z5 30 (h:=z5 31 (h:=tn 32 (h:=tn 33 (h:=tn 34 (h:=tn 35 (h:=tn 36 (h:=z5 37 (h:=z5 38 (h:=?_))))))))))));refine wpAnyH_done (by kernel_rfl) ?_ _;have HF:=z0 (hb0.trans (hb2.mono hb0.size));clear hHeld;go_wp2;go_ret;exact⟨rfl,HF.o⟩
 obtain rfl:L=q:=by omega
 have hL1:IntKind.i64.wrap ((L:Int) - 1)=(L:Int) - 1:=by rw[IntKind.wrap_i64];omega
 obtain⟨j,HJ⟩:∃j:Nat,Hd (L=j+1):=⟨L - 1,z0 (by omega)⟩
 have hj1:(L:Int) - 1=(j:Int):=by have:=HJ.o;omega
 have hj2:(j:Int)<(L:Int):=by have:=HJ.o;omega
 have hj0:(0:Int)<=(j:Int):=by omega
 have hwj:IntKind.i64.wrap (j:Int)=(j:Int):=by rw[IntKind.wrap_i64];omega
 have hjl:j<a.fr.length:=by rw[HL.o,HJ.o];omega
 obtain⟨g,og,rfl,hg,hcl⟩:=(HE1.o w0 (Below.refl _ _)).at_.2.2.2 (by rw[HL.o];omega)
 have HX2:Hd (∀W,Below w0.heap.size w0 W->W.heap[w.heap.size]?=some (.cells C 52 (0,0))/\W.cell? ⟨g,og+j,none⟩=some (.int .i64 z)):=z0 (fun W h=>by
  refine⟨HX.o W h,?_⟩;have:=vC (hcl j hjl) (h.block g hg) 0 _ rfl;rw[Nat.mul_one,Nat.add_zero]at this;rw[this,<-HZL.o,z4r (by omega)]
  congr 3
  have:=HL.o;have:=HJ.o;simp only[HL.o,HJ.o]
  rfl)
 clear hcl hg hjl;by_cases hz:¬z<=n
 ·obtain rfl:ans=false:=by rw[HR.o,decide_eq_false hz];simp
  refine Rh (S:=fun W=>W.heap[w.heap.size]?=some (.cells C 52 (0,0))/\W.cell? ⟨g,og+j,none⟩=some (.int .i64 z)) (by kernel_rfl) (HX2.o _ hbd) (fun hHeld=>?_);refine' z5 0 (h:=z5 1 (h:=z5 2 (h:=?_)));refine' tk (i:=3) (v:=_) rfl (fun W hW=>(HXR.o W hW.1).2.1) ?_;try simp only[zx]
  refine qc 4 (h:=fun K hK=>?_);go_simp;refine(HMY.o w0.drew hb0.drew).mono ?_;rintro e w2 ⟨rfl,hb2'⟩;have hb2:=hbd.trans hb2';refine hK.out _ _ (HX2.o _ hb2) (fun hHeld=>?_);clear hK K;try simp only[zx]
  refine' z5 5 (h:=z5 6 (h:=z5 7 (h:=?_)));refine' tk (i:=8) (v:=_) rfl ?_ ?_;rotate_left
  ·(intro W hW;(try dsimp only at hW);have hW1:=(HXR.o W hW.1).1;clear hW;go_simp;first|done|with_reducible rfl)
  try simp only[zx]
  refine' z5 9 (h:=z5 10 (h:=z5 11 (h:=z5 12 (h:=z5 13 (h:=?_)))));refine' tk (i:=14) (v:=_) rfl ?_ ?_;rotate_left
  ·(intro W hW;(try dsimp only at hW);have hW1:=(HXR.o W hW.1).2.2.1;clear hW;go_simp;first|done|with_reducible rfl)
  try simp only[zx]
  refine' z5 15 (h:=z5 16 (h:=z5 17 (h:=z5 18 (h:=z5 19 (h:=z5 20 (h:=?_))))));refine' tk (i:=21) (v:=_) rfl ?_ ?_;rotate_left
  ·(intro W hW;(try dsimp only at hW);have hW1:=(HXR.o W hW.1).2.2.1;clear hW;go_simp;first|done|with_reducible rfl)
  try simp only[zx]
  refine' z5 22 (h:=?_);refine' tk (i:=23) (v:=_) rfl ?_ ?_;rotate_left
  ·(intro W hW;(try dsimp only at hW);have hW1:=(HXR.o W hW.1).2.2.1;clear hW;go_simp;first|done|with_reducible rfl)
  try simp only[zx]
  refine' z5 24 (h:=z5 25 (h:=z5 26 (h:=?_)));refine' tk (i:=27) (v:=_) rfl ?_ ?_;rotate_left
  ·(intro W hW;(try dsimp only at hW);have hW1:=hW.2;clear hW;go_simp;first|done|with_reducible rfl)
  try simp only[zx]
  refine' z5 28 (h:=z5 29 (h:=z5 30 (h:=z5 31 (h:=tn 32 (h:=tn 33 (h:=tn 34 (h:=tn 35 (h:=tn 36 (h:=z5 37 (h:=z5 38 (h:=?_)))))))))));refine wpAnyH_done (by kernel_rfl) ?_ _;have HF:=z0 (hb0.trans (hb2.mono hb0.size));clear hHeld;go_wp2;go_ret;exact⟨rfl,HF.o⟩
 have hz1:z<=n:=by omega
 obtain rfl:ans=t:=by rw[HR.o,decide_eq_true HQ0.o,decide_eq_true hbn1,decide_eq_true hz1];simp
 refine Rh (S:=fun W=>W.heap[w.heap.size]?=some (.cells C 52 (0,0))/\W.cell? ⟨g,og+j,none⟩=some (.int .i64 z)) (by kernel_rfl) (HX2.o _ hbd) (fun hHeld=>?_);refine' z5 0 (h:=z5 1 (h:=z5 2 (h:=?_)));refine' tk (i:=3) (v:=_) rfl (fun W hW=>(HXR.o W hW.1).2.1) ?_;try simp only[zx]
 refine qc 4 (h:=fun K hK=>?_);go_simp;refine(HMY.o w0.drew hb0.drew).mono ?_;rintro e w2 ⟨rfl,hb2'⟩;have hb2:=hbd.trans hb2';refine hK.out _ _ (HX2.o _ hb2) (fun hHeld=>?_);clear hK K;try simp only[zx]
 refine' z5 5 (h:=z5 6 (h:=z5 7 (h:=?_)));refine' tk (i:=8) (v:=_) rfl ?_ ?_;rotate_left
 ·(intro W hW;(try dsimp only at hW);have hW1:=(HXR.o W hW.1).1;clear hW;go_simp;first|done|with_reducible rfl)
 try simp only[zx]
 refine' z5 9 (h:=z5 10 (h:=z5 11 (h:=z5 12 (h:=z5 13 (h:=?_)))));refine' tk (i:=14) (v:=_) rfl ?_ ?_;rotate_left
 ·(intro W hW;(try dsimp only at hW);have hW1:=(HXR.o W hW.1).2.2.1;clear hW;go_simp;first|done|with_reducible rfl)
 try simp only[zx]
 refine' z5 15 (h:=z5 16 (h:=z5 17 (h:=z5 18 (h:=z5 19 (h:=z5 20 (h:=?_))))));refine' tk (i:=21) (v:=_) rfl ?_ ?_;rotate_left
 ·(intro W hW;(try dsimp only at hW);have hW1:=(HXR.o W hW.1).2.2.1;clear hW;go_simp;first|done|with_reducible rfl)
 try simp only[zx]
 refine' z5 22 (h:=?_);refine' tk (i:=23) (v:=_) rfl ?_ ?_;rotate_left
 ·(intro W hW;(try dsimp only at hW);have hW1:=(HXR.o W hW.1).2.2.1;clear hW;go_simp;first|done|with_reducible rfl)
 try simp only[zx]
 refine' z5 24 (h:=z5 25 (h:=z5 26 (h:=?_)));refine' tk (i:=27) (v:=_) rfl ?_ ?_;rotate_left
 ·(intro W hW;(try dsimp only at hW);have hW1:=hW.2;clear hW;go_simp;first|done|with_reducible rfl)
 try simp only[zx]
 refine' z5 28 (h:=z5 29 (h:=z5 30 (h:=z5 31 (h:=z5 32 (h:=?_)))));refine' tk (i:=33) (v:=_) rfl (fun W hW=>(HXR.o W hW.1).2.2.2) ?_;try simp only[zx]
 refine' tk (i:=34) (v:=_) rfl (fun W hW=>(HXR.o W hW.1).2.1) ?_;try simp only[zx]
 refine qc 35 (h:=fun K hK=>?_);go_simp;refine(HTG2.o w2 (hb0.trans (hb2.mono hb0.size))).mono ?_;rintro e w3 ⟨rfl,hb3'⟩;have hb3:=hb2.trans (hb3'.mono hb2.size);refine hK.out _ _ (HX2.o _ hb3) (fun hHeld=>?_);clear hK K;try simp only[zx]
 have heq:=HEQ.o;refine' z5 36 (h:=?_);clear heq;refine' z5 37 (h:=z5 38 (h:=?_));refine wpAnyH_done (by kernel_rfl) ?_ _;have HF:=z0 (hb0.trans (hb3.mono hb0.size));clear hHeld;go_wp2;go_ret;exact⟨rfl,HF.o⟩
end
end Go.Proofs.YtjlinimnnbfmaaaGreatDoor
