/-
  Fill PutRun Of OfOne Cuts RefFill RefTurn RefOf MacSpec Masked KeyBlock MacSame Node Key RefPart Parts TxPutsWalk: what each of them says stands at its head.
-/
import Derived.Test.YtjlinimnnbfmaaaGreatDoorPlBs5
import Derived.Deep.RegionWith
import Derived.Laws.IdiomCopy
import Derived.ArgAppend
import Derived.Test.YtjlinimnnbfmaaaGreatDoorPlBs3
set_option maxRecDepth 20000
set_option maxHeartbeats 12800000
namespace Go.Proofs.YtjlinimnnbfmaaaGreatDoor
open Go.RowKit Go.Proofs.Tryz
def zcd:Value->Nat
 | .slice _ n _=>n
 |_=>0
theorem vD (m:Nat):((UInt8.ofNat m).toNat:Int)=(m:Int) % 256:=by
 rw[UInt8.toNat_ofNat'];omega
theorem z3Y (n:Nat) (w:World) (aE:n<=1099511627776):
  Calls prog 193 #[.int .u64 (n:Int)] w fun e w'=>∃v,e=.returned v/\ql w.heap.size w' v (z3L n)/\Below w.heap.size w w':=by
 obtain⟨ai,al,ae,ao,aa⟩:=info_parts vV;have N:ai.bytes*73<=281474976710656:=by rw[aa];omega
 have ag:73<=maxLen:=by unfold maxLen;omega
 have aH:=Ya n;go_enter func193,ntmps193;go_wp2_with (at_make;refine wpList_make_own _ rfl _ _ 33 rfl w.heap.size 5 ai (.int .u8 0) 1 zG al ae ao _ _ _ 73 rfl rfl rfl N ag (Nat.le_refl _) ?_);intro w0 ab an;have a7:Below w.heap.size w w0:=(Below.refl _ _).grown an (Nat.le_refl _) (fun k h=>by cases h);have a5:ql w.heap.size w0 (.slice (some ⟨w.heap.size,0,none⟩) 0 73) []:=ab;have am:=a7.size;clear ab an ae ao aa al N ag;go_wp2_with (at_builtin;refine z9 rfl (.tmp 6) (.tmp 7) rfl rfl rfl (a5.alloc _) (jP _ _ 128 rfl) (by simp) (by simp;omega) ?_;intro v1 au a1 af _);have ap:Below w.heap.size w au:=(a7.alloc am _).grown af (by simp;omega) (fun k M=>(World.ownsRow.lt a5 k M).1);rw[List.nil_append]at a1;obtain⟨A1,c1,rfl⟩:=a1.byt.shape;have ah:([128]:List UInt8).length=1:=rfl;rw[ah]at a1⊢;clear af ah;try go_frame
 go_wp2_with fail;go_loopw [3] (fun v wr=>∃(z m:Nat) (A:Option Addr) (c:Nat),z<=qK n/\Hd (m=z+1)/\v=.slice A m c/\Hd (ql w.heap.size wr (.slice A m c) (128 :: List.replicate z 0))/\Below w.heap.size w wr) (fun v _=>100 - zcd v)
 case atStart=>exact⟨0,1,A1,c1,Nat.zero_le _,z0 rfl,rfl,z0 a1,ap⟩
 case round=>
  clear a1 ap a5 a7 am;obtain⟨z,m,A,c,av,J,rfl,G,I⟩:=hrel;have a2:=I.size;have ay:m<=100:=by have:=J.o;omega
  by_cases ak:z<qK n
  ·have aB:(((n:Int)+(m:Int)+8) % 64 != 0)=true:=by
    rw[bne_iff_ne];have:=J.o;unfold qK at ak;omega
   go_wp2_with (at_builtin;refine z9 rfl (.tmp 17) (.tmp 18) rfl rfl rfl (G.o.alloc _) (jP _ _ 0 rfl) (by simp;omega) (by simp;omega) ?_;intro ax a8 F a0 _);have N:Below w.heap.size w a8:=(I.alloc a2 _).grown a0 (by simp;omega) (fun k M=>(World.ownsRow.lt G.o k M).1);have hl:(128 :: List.replicate z 0:List UInt8) ++ [0]=128 :: List.replicate (z+1) 0:=by
    rw[List.replicate_succ',List.cons_append]
   rw[hl]at F;clear hl a0;obtain⟨a9,a3,rfl⟩:=F.byt.shape;have O:(128 :: List.replicate (z+1) 0:List UInt8).length=m+1:=by simp;have:=J.o;omega
   rw[O]at F⊢;have a6:=z0 F;clear O F;try go_frame
   go_roundw
   case rel=>exact⟨z+1,m+1,a9,a3,by omega,z0 (by have:=J.o;omega),rfl,a6,N⟩
   case measure=>show 100 - (m+1)<100 - m;have:=J.o;omega
  ·have aB:(((n:Int)+(m:Int)+8) % 64 != 0)=false:=by
    rw[bne_eq_false_iff_eq];have:=J.o;unfold qK at ak av;omega
   have ad:Hd (ql w.heap.size wr (.slice A m c) (128 :: List.replicate (qK n) 0 ++ be8 (n*8) 0)):=by
    have e:z=qK n:=by omega
    have:=G.o;rw[e]at this;have aC:(128 :: List.replicate (qK n) 0 ++ be8 (n*8) 0:List UInt8)=128 :: List.replicate (qK n) 0:=by simp[be8]
    rw[aC];exact z0 this
   obtain⟨aj,rfl⟩:∃aj:World,aj=wr:=⟨_,rfl⟩
   go_wp2_with fail;go_loopw [3,4] (fun v s wr=>∃(k:Nat) (x:Int) (A:Option Addr) (m c:Nat),k<=8/\Hd (x=56 - 8*(k:Int))/\s=.int .i64 x/\v=.slice A m c/\m<=120/\Hd (ql w.heap.size wr (.slice A m c) (128 :: List.replicate (qK n) 0 ++ be8 (n*8) k))/\Below w.heap.size w wr) (fun _ s _=>(intOf s+8).toNat)
   case atStart=>exact⟨0,56,A,m,c,by omega,z0 (by omega),rfl,rfl,by omega,ad,I⟩
   case round=>
    clear G ad I a2;obtain⟨k,x,A,m,c,M,K,rfl,rfl,ay,G,I⟩:=hrel;have a2:=I.size;have aG:x<=56:=by have:=K.o;omega
    have aF:-8<=x:=by have:=K.o;omega
    by_cases aD:k<8
    ·have aw:0<=x:=by have:=K.o;omega
     have aq:m=(128 :: List.replicate (qK n) 0 ++ be8 (n*8) k:List UInt8).length:=G.o.byt.at_.1;have a4:=z0 aq;clear aq;have hq:(n:Int)*8 / 2^x.toNat % 256=((UInt8.ofNat (n*8 / 2^(56 - 8*k))).toNat:Int):=by
      rw[vD,show x.toNat=56 - 8*k from by have:=K.o;omega];simp
     have ar:=z0 hq;have az:(128 :: List.replicate (qK n) 0 ++ be8 (n*8) k:List UInt8).length + [UInt8.ofNat (n*8 / 2^(56 - 8*k))].length<=140737488355328:=by rw[<-a4.o,List.length_singleton];omega
     clear hq;go_wp2_with (at_builtin;refine z9 rfl (.tmp 24) (.tmp 30) rfl rfl rfl (G.o.alloc _) (jP _ _ _ ar.o) az (by simp;omega) ?_;intro ax a8 F a0 _);have N:Below w.heap.size w a8:=(I.alloc a2 _).grown a0 (by simp;omega) (fun k M=>(World.ownsRow.lt G.o k M).1);have hl:(128 :: List.replicate (qK n) 0 ++ be8 (n*8) k:List UInt8) ++ [UInt8.ofNat (n*8 / 2^(56 - 8*k))]=128 :: List.replicate (qK n) 0 ++ be8 (n*8) (k+1):=by
      rw[List.append_assoc];rfl
     rw[hl]at F;clear hl a0;obtain⟨a9,a3,rfl⟩:=F.byt.shape;have O:(128 :: List.replicate (qK n) 0 ++ be8 (n*8) (k+1):List UInt8).length=m+1:=by
      have:=a4.o;simp only[List.length_append,List.length_cons,List.length_replicate,ZI]at this⊢;omega
     have aA:m+1<=120:=by
      have:=a4.o;simp only[List.length_append,List.length_cons,List.length_replicate,ZI]at this;omega
     rw[O]at F⊢;have a6:=z0 F;clear O F;go_roundw
     case rel=>exact⟨k+1,x - 8,a9,m+1,a3,by omega,z0 (by have:=K.o;omega),rfl,rfl,aA,a6,N⟩
     case measure=>simp[intOf];omega
    ·have aw:x<0:=by have:=K.o;omega
     go_wp2;go_ret;have e:k=8:=by omega
     subst e;exact⟨_,rfl,G.o,I⟩
theorem z7P (w:World):Calls prog 191 #[] w fun e w'=>e=.returned (.agg (z1 8 fun j=>wc (start j)))/\Below w.heap.size w w':=by
 go_enter func191,ntmps191
 go_wp2_with (first
  |(refine zb Zd rfl rfl ?_)
  |(refine z8 Zd (f':=fun j=>wc (start j)) rfl _ _ rfl rfl rfl (zK.new w 8 (fun _=>wc 0) 240) (fun _ _=>rfl) ?_;intro I G F J))
 refine Bp (Zd.result rfl _ _ rfl F) rfl ⟨rfl,?_⟩;exact zh Ba (Nat.le_refl _) G (by simp)
section
def zdM:Value->Nat
 | .slice _ n _=>n
 |_=>0
attribute [local go_sem ↓] z3W z3X z2I
theorem z70 (g:Nat) (t l:List UInt8) (v:Value) (w:World) (ao:yB 1 w) (aj:g≠1) (a3:Run w g t) (O:zP w v l) (K:0<l.length->v.ownBlock≠some g) (b5:t.length+l.length<=1099511627776):
  Calls prog 192 #[.pointer (some ⟨g,0,none⟩),v] w fun e w'=>e=.returned (.tuple #[])/\Run w' g (t ++ l)/\w.grownBy w' (some g):=by
 obtain⟨A,c,rfl⟩:=O.shape;go_enter func192,ntmps192;go_wp2;go_loopw [1] (fun ai wr=>∃(d r:List UInt8) (A':Option Addr) (a6:Nat),Hd (l=d ++ r)/\ai=.slice A' r.length a6/\zP wr (.slice A' r.length a6) r/\Hd (0<r.length->(Value.slice A' r.length a6).ownBlock≠some g)/\Run wr g (t ++ d)/\w.grownBy wr (some g)) (fun ai _=>zdM ai)
 case atStart=>exact⟨[],l,A,c,z0 rfl,rfl,O,z0 K,by rw[List.append_nil];exact a3,World.grownBy.refl _ _⟩
 case round=>
  clear O K a3;obtain⟨d,r,A',a6,ad,rfl,O,az,a3,af⟩:=hrel;have aW:=ao.grown af (fun e=>aj (Option.some.inj e));have b7:l.length=d.length+r.length:=by rw[ad.o,List.length_append]
  by_cases ak:r.length=0
  ·have aR:¬(0:Int)<(r.length:Int):=by omega
   have aA:=z0 (List.eq_nil_of_length_eq_zero ak);have aY:=z0 ak;clear ak;go_wp2_with fail;go_end0;have e:l=d:=by rw[ad.o,aA.o,List.append_nil]
   rw[e];exact⟨rfl,a3,af⟩
  ·have aR:(0:Int)<(r.length:Int):=by omega
   have K:=z0 (az.o (by omega));have b8:=a3.lt;obtain⟨T,ae⟩:=nm ((t ++ d).length:Nat);have b1:T+r.length<=1099511627776:=by have:=ae.o;rw[List.length_append]at this;omega
   obtain⟨b,a7,J⟩:=a3;rw[ae.o]at a7 J;obtain⟨q,M⟩:=nm (T % 64:Nat);rw[M.o]at J;have ba:q<64:=by have:=M.o;omega
   have ax:wr.cell? ⟨g,72,none⟩=some (.int .u64 (T:Int)):=a7.cell (i:=72) (by omega);have aQ:(T:Int).tmod 64=(q:Int):=by rw[Int.tmod_eq_emod_of_nonneg (by omega)];have:=M.o;omega
   have aH:(T:Int) % 64=(q:Int):=by have:=M.o;omega
   have aD:(q:Int)<=64:=by omega
   have aM:¬(64=q):=by omega
   obtain⟨k,a9⟩:=nm (Nat.min r.length (64 - q):Nat);have aa:k<=r.length:=by rw[<-a9.o];exact Nat.min_le_left _ _
   have aZ:k<=64 - q:=by rw[<-a9.o];exact Nat.min_le_right _ _
   have aP:0<k:=by rw[<-a9.o];exact Nat.lt_min.2 ⟨by omega,by omega⟩
   go_wp2_with fail;go_still_tail 10,(by kernel_rfl)
   change wpList _ _ _ _ _ wr.drew;refine Zf (k:=k) rfl (.tmp 16) (.tmp 17) rfl rfl rfl (w:=wr.drew) O a7.drew a9.o.symm aP (by omega) ?_;intro N am aq bb;have a5:zK N g 73 (Qw (Ze (t ++ d) (T / 64)) (more b r q k) T) 243:=aq.congr fun i _=>by
    unfold Qw more;by_cases F:i<8
    ·rw[if_pos F,if_pos F,if_neg (by omega)]
    ·by_cases G:i<72
     ·rw[if_neg F,if_neg F,if_pos G,if_pos G];by_cases aw:8+q<=i/\i<8+q+k
      ·rw[if_pos aw,if_pos (by omega),show i - (8+q)=i - 8 - q from by omega]
      ·rw[if_neg aw,if_neg (by omega)]
     ·rw[if_neg F,if_neg F,if_neg G,if_neg G,if_neg (by omega)]
   have ab:zP N (.slice A' r.length a6) r:=zP.keep (w:=wr.drew) O am.size fun b J e=>am.block b J (fun I=>K.o (by rw[e,I]));have ag:w.grownBy N (some g):=(KT af 1).trans am;have aF:N.cell? ⟨g,72,none⟩=some (.int .u64 (T:Int)):=a5.cell (i:=72) (by omega);have ay:=a5.free 72;have aO:=ao.grown ag (fun e=>aj (Option.some.inj e));have b6:(k:Int)<=(r.length:Int):=by omega
   have b9:=ab.at_.2.1;have aX:T+k<18446744073709551616:=by omega
   have aL:=a5.lt;clear aq ax aQ aH aD aM a7 O;by_cases aV:(T+k) % 64=0
   ·have aN:((T:Int)+(k:Int)) % 64=0:=by omega
    have a2:=(a5.set (i:=72) (by omega) (.int .u64 ((T:Int)+(k:Int)))).congr (f':=Qw (Ze (t ++ d) (T / 64)) (more b r q k) (T+k)) fun i _=>by
     unfold Qw;by_cases F:i<8
     ·rw[if_neg (by omega),if_pos F,if_pos F]
     ·by_cases G:i<72
      ·rw[if_neg (by omega),if_neg F,if_neg F,if_pos G,if_pos G]
      ·rw[if_pos (by omega),if_neg F,if_neg G];simp
    have au:w.grownBy (N.setCell ⟨g,72,none⟩ (.int .u64 ((T:Int)+(k:Int)))) (some g):=ag.trans (Qt _ _ _ _);have b0:=a2.lt;go_wp2_with (refine z09 rfl (.tmp 19) (.tmp 20) rfl rfl rfl ab aa ?_;intro a4 a1 a8 a0);have aC:zP (N.setCell ⟨g,72,none⟩ (.int .u64 ((T:Int)+(k:Int)))) (.slice a4 (r.length - k) a1) (r.drop k):=a8.keep (by simp[World.setCell]) fun b J e=>heap_setCell_other _ _ _ _ (fun I=>a0 g K.o (by rw[e,I]));generalize N.setCell ⟨g,72,none⟩ (.int .u64 ((T:Int)+(k:Int)))=w5 at *;have aE:=ao.grown au (fun e=>aj (Option.some.inj e));clear a5 aF ay aO ab a8 aL;have av:∀j,j<8->Qw (Ze (t ++ d) (T / 64)) (more b r q k) (T+k) (0+j)=wc (Ze (t ++ d) (T / 64) j):=fun j ar=>by unfold Qw;rw[Nat.zero_add,if_pos ar]
    have I:∀j,j<64->Qw (Ze (t ++ d) (T / 64)) (more b r q k) (T+k) (8+j)=z3 (more b r q k j):=fun j ar=>by unfold Qw;rw[if_neg (by omega),if_pos (by omega),Nat.add_sub_cancel_left]
    have aI:=z0a (w:=w5.drew) Zd a2 (by omega) av;have aS:=z0a (w:=w5.drew) jK a2 (by omega) I;go_region_law (go_simp;go_at_call 211;refine(z9j _ _ _ (show yB 1 w5.drew from aE)).mono ?_;rintro e al ⟨rfl,an⟩;have aG:zK al g 73 (Qw (Ze (t ++ d) (T / 64)) (more b r q k) (T+k)) 243:=zK.keep (w:=w5.drew) a2 an;obtain⟨ap,b4,ah,aJ,_⟩:=z7M (f':=fun j=>wc (ZH (Ze (t ++ d) (T / 64)) (more b r q k) j)) Zd aG (o:=0) (by omega) (fun _ _=>rfl));all_goals
     have aB:w.grownBy al (some g):=(KT au 1).trans (KS an _);have aU:zP al (.slice a4 (r.length - k) a1) (r.drop k):=zP.below (w:=w5.drew) aC an;have aT:zK ap g 73 (Qw (ZH (Ze (t ++ d) (T / 64)) (more b r q k)) (more b r q k) (T+k)) 243:=aJ.congr fun i _=>by
      unfold Qw;by_cases F:i<8
      ·rw[if_pos (by omega),if_pos F,Nat.sub_zero]
      ·rw[if_neg (by omega),if_neg F,if_neg F]
     have aK:zP ap (.slice a4 (r.length - k) a1) (r.drop k):=aU.keep ah.size fun b J e=>ah.block b J (fun I=>a0 g K.o (by rw[e,I]));clear aI aS av I;go_wp2;go_roundw
     case rel=>
      refine⟨d ++ r.take k,r.drop k,a4,a1,z0 (by rw[ad.o,List.append_assoc,List.take_append_drop]),by rw[List.length_drop],by rw[List.length_drop];exact aK,z0 (fun _=>by rw[List.length_drop];exact a0 g K.o),?_,aB.trans ah⟩;rw[<-List.append_assoc];exact z9l ae.o M.o aa J (by have:=M.o;omega) aT
     case measure=>show r.length - k<r.length;omega
   ·have aN:(((T:Int)+(k:Int)) % 64 == 0)=false:=by rw[beq_eq_false_iff_ne];omega
    have a2:=(a5.set (i:=72) (by omega) (.int .u64 ((T:Int)+(k:Int)))).congr (f':=Qw (Ze (t ++ d) (T / 64)) (more b r q k) (T+k)) fun i _=>by
     unfold Qw;by_cases F:i<8
     ·rw[if_neg (by omega),if_pos F,if_pos F]
     ·by_cases G:i<72
      ·rw[if_neg (by omega),if_neg F,if_neg F,if_pos G,if_pos G]
      ·rw[if_pos (by omega),if_neg F,if_neg G];simp
    go_wp2_with (refine z09 rfl (.tmp 19) (.tmp 20) rfl rfl rfl ab aa ?_;intro a4 a1 a8 a0);go_roundw
    case rel=>
     refine⟨d ++ r.take k,r.drop k,a4,a1,z0 (by rw[ad.o,List.append_assoc,List.take_append_drop]),by rw[List.length_drop],?_,z0 (fun _=>by rw[List.length_drop];exact a0 g K.o),?_,ag.trans (Qt _ _ _ _)⟩
     ·rw[List.length_drop];exact a8.keep (by simp[World.setCell]) fun b J e=>heap_setCell_other _ _ _ _ (fun I=>a0 g K.o (by rw[e,I]))
     ·rw[<-List.append_assoc];exact z9k ae.o M.o aa J (by have:=M.o;omega) a2
    case measure=>show r.length - k<r.length;omega
end
def z5x (j:Nat):Value:=if j<8 then wc 0 else if j<72 then z3 0 else .int .u64 0
theorem z9t:(prog.info? 243).bind (·.zero)=some (.agg (z1 73 z5x)):=by kernel_rfl
theorem z9u:(prog.info? 243).map (·.size)=some 73:=by kernel_rfl
theorem z7Q (f:Nat->Value) (w:World):(Instr.build 243 #[(0,.agg (z1 8 f))]).run prog w=.ok (.agg (z1 73 fun j=>if j<8 then f j else z5x j)) w:=by kernel_rfl
theorem Kq {ops:Array Oper}{rest:List Oper}{o:Oper}{a:Act}{w:World}{Q:Exit->Act->World->Prop} (I:o.guard=none) (x:Operand) (F:o.op=.build 243 #[(0,x)])
  {f:Nat->Value} (hx:a.eval x=.agg (z1 8 f)) (h:wpList prog ops Q rest (a.put o.dst (.agg (z1 73 fun j=>if j<8 then f j else z5x j))) w):wpList prog ops Q (o :: rest) a w:=
 wpList_plain I fun _ G=>by
  unfold Oper.wp execOp;simp only[F,List.map_toArray,List.map_cons,List.map_nil,hx,Sem.run_bind,z7Q,Sem.run_pure,Result.andThen_ok];exact G _ _ h
theorem Kr {ops:Array Oper}{rest:List Oper}{o:Oper}{a:Act}{w:World}{Q:Exit->Act->World->Prop} (G:o.guard=none) (x y:Operand) (F:o.op=.store 243 x y)
  {g:Nat} {t:TypeId} {f f':Nat->Value} (hx:a.eval x=.pointer (some ⟨g,0,none⟩)) (J:a.eval y=.agg (z1 73 f')) (hg:zK w g 73 f t) (I:∀i,i<73->(f' i).oneCell'=true)
  (M:∀w',w.grownBy w' (some g)->zK w' g 73 f' t->w'.heap.size=w.heap.size->wpList prog ops Q rest (a.put o.dst undef) w'):wpList prog ops Q (o :: rest) a w:=
 wpList_store_row G _ x y F g (z1 73 f') hx J t (z1 73 f) hg (by rw[z9u,qh]) (by rw[qh,qh]) (Y7 I)
  (M _ ⟨rfl,rfl,rfl,by simp,fun k _ K=>setRow_other w g k _ (fun e=>K (by simp[e]))⟩ (setRow_heap w g _ _ t _ hg) (by simp))
theorem z7R {w:World}{g:Nat} (h:zK w g 73 (fun j=>if j<8 then wc (start j) else z5x j) 243):Run w g []:=
 ⟨fun _=>0,h.congr fun i _=>by
  unfold Qw z5x;by_cases F:i<8
  ·rw[if_pos F,if_pos F];rfl
  ·rw[if_neg F,if_neg F,if_neg F];rfl,fun j G=>absurd G (by simp)⟩
theorem Run.bytes {w:World}{g:Nat}{l:List UInt8} (h:Run w g l):w.cell? ⟨g,72,none⟩=some (.int .u64 (l.length:Int)):=by
 obtain⟨b,F,_⟩:=h;rw[F.cell (i:=72) (by omega)];unfold Qw;rw[if_neg (by omega),if_neg (by omega)]
theorem Run.state {w:World}{g:Nat}{l:List UInt8} (h:Run w g l):∃(f:Nat->Value) (F:Nat->UInt32),zK w g 73 f 243/\(∀j,j<8->f (0+j)=.int .u32 (wv (F j)))/\Hd (F=Ze l (l.length / 64)):=by
 obtain⟨b,I,_⟩:=h;refine⟨_,Ze l (l.length / 64),I,fun j G=>?_,z0 rfl⟩;unfold Qw;rw[Nat.zero_add,if_pos G];rfl
def JF (f:Nat->UInt8) (m j:Nat):Value:=if j<m then z3 (f j) else z3 0
theorem Ks (f:Nat->UInt8) (m j:Nat):(if j=m then z3 (f m) else JF f m j)=JF f (m+1) j:=by
 unfold JF;by_cases h:j=m
 ·subst h;rw[if_pos rfl,if_pos (by omega)]
 ·rw[if_neg h];by_cases F:j<m
  ·rw[if_pos F,if_pos (by omega)]
  ·rw[if_neg F,if_neg (by omega)]
theorem z5y (ls:List (List UInt8)) (vs:Nat->Value) (gp n c:Nat) (w:World) (hn:ls.length=n) (hg:gp<w.heap.size) (hc:∀j,j<n->w.cell? ⟨gp,j,none⟩=some (vs j))
  (hv:∀j (h:j<ls.length),zP w (vs j) ls[j]) (hs:ls.flatten.length<=1000000000) (hn2:n<=1000) (hK:yB 1 w):
  Calls prog 161 #[.slice (some ⟨gp,0,none⟩) n c] w fun e w'=>e=.returned (.agg (z1 32 fun j=>z3 (xy ls.flatten j)))/\Below w.heap.size w w':=by
 have Hn:=z0 hn;clear hn;go_enter func161,ntmps161;go_wp2_with (refine zb qo rfl rfl ?_);have hb0:Below w.heap.size w (w.alloc (.cells (z1 32 fun _=>z3 0) 38)):=Ba;have hH0:=zK.new w 32 (fun _=>z3 0) 38;go_wp2_with fail;refine(z7P _).mono ?_;rintro e w1 ⟨rfl,hb1⟩;have hbw1:=hb0.trans (hb1.mono (by simp));have hH1:=hH0.keep hb1;have hs1:=hbw1.size;clear hb0 hH0 hb1
 go_wp2_with (first
  |(refine Kq rfl (.tmp 10) rfl rfl ?_)
  |(refine JR z9t rfl rfl ?_)
  |(refine Kr rfl _ _ rfl rfl rfl (zK.new w1 73 z5x 243) (fun i hi=>by unfold z5x;split;rfl;split;rfl;rfl) ?_;intro w2 hg2 hR2 hs2))
 have hr2:=z7R hR2;have hbw2:Below w.heap.size w w2:=zh (hbw1.alloc hs1 _) hs1 hg2 (by simp;omega);have hH2:zK w2 w.heap.size 32 (fun _=>z3 0) 38:=(hH1.alloc _).grown hg2 (by have:=hH1.lt;simp;omega);have hlt1:=hH1.lt;obtain⟨G,HG⟩:=nm (w1.heap.size:Nat);rw[HG.o]at hr2 hR2 hg2 hlt1⊢;clear hR2 hg2 hs2 hH1 hbw1;have hGw:w.heap.size<G:=hlt1;have hG1:G≠1:=by have:=hK.1;omega
 try go_frame
 go_wp2_with fail;go_loopw [14] (fun si wr=>∃i:Nat,i<=n/\si=.int .i64 i/\Run wr G (ls.take i).flatten/\Below w.heap.size w wr/\zK wr w.heap.size 32 (fun _=>z3 0) 38) (fun si _=>n - (intOf si).toNat)
 case atStart=>exact⟨0,Nat.zero_le _,rfl,by rw[List.take_zero];exact hr2,hbw2,hH2⟩
 case round=>
  clear hr2 hbw2 hH2;obtain⟨i,hi,rfl,hr,hbw,hH⟩:=hrel;by_cases hlt:i<n
  ·have hlt':i<ls.length:=by rw[Hn.o];exact hlt
   have hci:=(hbw.cell (p:=⟨gp,i,none⟩) hg).trans (hc i hlt);have hvi:=(hv i hlt').below hbw;have hKr:=hK.below hbw;have hlen:(ls.take i).flatten.length+ls[i].length<=1099511627776:=by
    have h1:(ls.take i).flatten ++ ls[i]=(ls.take (i+1)).flatten:=by rw[List.take_succ_eq_append_getElem hlt',List.flatten_append,List.flatten_singleton]
    have h2:=congrArg List.length h1;have h3:=congrArg (fun l=>l.flatten.length) (List.take_append_drop (i+1) ls);simp only[List.flatten_append,List.length_append]at h2 h3;omega
   have hbl:0<ls[i].length->(vs i).ownBlock≠some G:=fun h0=>z7L (hv i hlt') h0 (by omega);have hin:(i:Int)<(n:Int):=by omega
   go_wp2_with (go_at_call 192;refine(z70 G _ _ _ _ hKr hG1 hr hvi hbl hlen).mono ?_;rintro e w3 ⟨rfl,hr3,hg3⟩);go_roundw
   case rel=>
    refine⟨i+1,by omega,by go_num,?_,zh hbw (by omega) hg3 hbw.size,hH.grown hg3 (fun e=>by have:=Option.some.inj e;omega)⟩;rw[List.take_succ_eq_append_getElem hlt',List.flatten_append,List.flatten_singleton];exact hr3
   case measure=>simp[intOf];omega
  ·have hin:¬(i:Int)<(n:Int):=by omega
   have hrA:Run wr G ls.flatten:=by
    have e:ls.take i=ls:=List.take_of_length_le (by have:=Hn.o;omega);rw[e]at hr;exact hr
   clear hr hc hv;obtain⟨L,HL⟩:=nm (ls.flatten.length:Nat);have hcell:=hrA.bytes;rw[HL.o]at hcell hs;have hltG:=hrA.lt;go_wp2_with fail;refine(z3Y L _ (by omega)).mono ?_;rintro e w4 ⟨v4,rfl,hown4,hb4⟩;have hbw4:=hbw.trans (hb4.mono hbw.size);have hr4:=hrA.keep hb4;have hH4:=hH.keep hb4;have hK4:=hK.below hbw4;have hne4:0<(z3L L).length->v4.ownBlock≠some G:=fun _ e=>by
    have:=(World.ownsRow.lt hown4 G e).1;omega
   clear hcell;go_wp2_with fail;refine(z70 G _ _ _ _ hK4 hG1 hr4 hown4.byt hne4 (by rw[Vv,HL.o];have:=Ya L;omega)).mono ?_;rintro e w5 ⟨rfl,hr5,hg5⟩;have hbw5:Below w.heap.size w w5:=zh hbw4 (by omega) hg5 hbw4.size;have hH5:=hH4.grown hg5 (fun e=>by have:=Option.some.inj e;omega);obtain⟨F,σ,hB5,e5,Hσ⟩:=hr5.state;clear hr4 hH4 hK4 hown4 hb4 hbw4 hg5 hrA hH hbw hne4;have hs5:=hbw5.size;have hltG5:=hB5.lt;have hB6:=hB5.alloc (.cells (z1 32 fun _=>z3 0) 38)
   go_wp2_with (first
    |(refine zb qo rfl rfl ?_)
    |(refine Jz Zd rfl (.tmp 25) rfl rfl hB6 (by omega) e5 ?_))
   have hσ:∀i,xy ls.flatten i=z2C (σ (i / 4)) (i % 4):=fun i=>by
    unfold xy;rw[Hσ.o];unfold kn;rw[HL.o]
   clear e5 hB6 hB5 Hσ;have hH6:zK (w5.alloc (.cells (z1 32 fun _=>z3 0) 38)) w.heap.size 32 (fun _=>z3 0) 38:=hH5.alloc _;have hQ6:zK (w5.alloc (.cells (z1 32 fun _=>z3 0) 38)) w5.heap.size 32 (fun _=>z3 0) 38:=zK.new w5 _ _ _;have hbw6:Below w.heap.size w (w5.alloc (.cells (z1 32 fun _=>z3 0) 38)):=hbw5.alloc hs5 _;obtain⟨Q,HQ⟩:=nm (w5.heap.size:Nat);rw[HQ.o]at hQ6⊢;have hQw:w.heap.size<Q:=by have:=HQ.o;omega
   generalize w5.alloc (.cells (z1 32 fun _=>z3 0) 38)=w6 at *;obtain⟨SA,HSA⟩:=nm (Value.agg (z1 8 fun j=>.int .u32 (wv (σ j))):Value);rw[HSA.o];have hidx:∀(i:Nat),i<8->∀w,(Instr.index 240 SA (.int .i64 (i:Int))).run prog w=.ok (.int .u32 (wv (σ i))) w:=fun i hi w=>by
    rw[<-HSA.o];exact Zd.run_index _ hi w
   clear hH5 hbw5 hs5 hltG5;try go_frame
   have HS:=z0 hσ;clear hσ;go_wp2_with fail;go_loopw [27] (fun si wr=>∃i:Nat,i<=8/\si=.int .i64 i/\Below w.heap.size w wr/\zK wr w.heap.size 32 (fun _=>z3 0) 38/\zK wr Q 32 (JF (xy ls.flatten) (4*i)) 38) (fun si _=>8 - (intOf si).toNat)
   case atStart=>exact⟨0,by omega,rfl,hbw6,hH6,hQ6.congr fun i _=>by simp[JF]⟩
   case round=>
    clear hbw6 hH6 hQ6;obtain⟨m,hm,rfl,hbw,hH,hQ⟩:=hrel;by_cases hlt:m<8
    ·have hx:=hidx m hlt;have hm8:(m:Int)<8:=by omega
     clear hidx;obtain⟨wo,rfl⟩:∃wo:World,wo=wr:=⟨_,rfl⟩
     go_wp2_with fail;go_loopw [31] (fun sj wr=>∃j:Nat,j<=4/\sj=.int .i64 j/\Below w.heap.size w wr/\zK wr w.heap.size 32 (fun _=>z3 0) 38/\zK wr Q 32 (JF (xy ls.flatten) (4*m+j)) 38) (fun sj _=>4 - (intOf sj).toNat)
     case atStart=>exact⟨0,by omega,rfl,hbw,hH,hQ⟩
     case round=>
      clear hbw hH hQ;obtain⟨j,hj,rfl,hbw,hH,hQ⟩:=hrel;by_cases hlt2:j<4
      ·have hj4:(j:Int)<4:=by omega
       have hsh:0<=24 - 8*(j:Int):=by omega
       have hin2:4*(m:Int)+(j:Int)<32:=by omega
       have kc:=hQ.cell (i:=4*m+j) (by omega);have fc:=hQ.free (4*m+j);have hval:Value.int .u8 (wv (σ m) / 2^(24 - 8*j) % 256)=z3 (xy ls.flatten (4*m+j)):=by
        rw[HS.o,show(4*m+j) / 4=m from by omega,show(4*m+j) % 4=j from by omega];unfold z3 z2C;rw[vD];unfold wv;simp
       have HV:=z0 hval;clear hval;go_wp2;go_roundw
       case rel=>
        refine⟨j+1,by omega,by go_num,Zx hbw (g:=Q) (by omega) _ _,hH.apart _ _ (by omega),(hQ.set (i:=4*m+j) (by omega) _).congr fun q _=>?_⟩;rw[HV.o,<-Nat.add_assoc,<-Ks]
       case measure=>simp[intOf];omega
      ·have hj4:¬(j:Int)<4:=by omega
       go_wp2;go_roundw
       case rel=>exact⟨m+1,by omega,by go_num,hbw,hH,by rw[show 4*(m+1)=4*m+j from by omega];exact hQ⟩
       case measure=>simp[intOf];omega
    ·have hm8:¬(m:Int)<8:=by omega
     have hQ2:zK wr Q 32 (fun j=>z3 (xy ls.flatten j)) 38:=hQ.congr fun q hq=>if_pos (by omega);clear hidx
     go_wp2_with (first
      |(refine qg qo rfl _ rfl rfl hQ2 ?_)
      |(refine z8 qo rfl _ _ rfl rfl rfl hH (fun _ _=>rfl) ?_;intro w9 hg9 hA9 hs9))
     refine Bp (qo.result rfl _ _ rfl hA9) rfl ⟨rfl,?_⟩;exact zh hbw (Nat.le_refl _) hg9 hbw.size
theorem zcB (v:Value) (l:List UInt8) (F c:Nat) (w:World) (hg:F<w.heap.size) (J:w.cell? ⟨F,0,none⟩=some v) (b0:zP w v l) (K:l.length<=1000000) (I:yB 1 w):
  Calls prog 161 #[.slice (some ⟨F,0,none⟩) 1 c] w fun e w'=>e=.returned (.agg (z1 32 fun j=>z3 (xy l j)))/\Below w.heap.size w w':=by
 have h:=z5y [l] (fun _=>v) F 1 c w rfl hg (fun j G=>by
  obtain rfl:j=0:=by omega
  exact J) (fun j G=>by
  have M:j<1:=G;obtain rfl:j=0:=by omega
  exact b0) (by simp;omega) (by omega) I
 have e:([l]:List (List UInt8)).flatten=l:=by simp
 rw[e]at h;exact h
def XC (l:List UInt8) (k j:Nat):UInt8:=l.getD (64*k+j) 0
def kW (T:TypeId) (_:Nat):TypeId:=T
theorem YT (T:TypeId) (k:Nat) (r:Operand->Value) (x:Operand) (dst:Option Tmp) (ty:TypeId) (pos:String) (after:Array Edge) (guard:Option (Nat×Bool)) (w:World):
  Sem.run prog (execOp r { dst:=dst,op:=.load (kW T k) x,type:=ty,pos:=pos,after:=after,guard:=guard }) w=KW (kW T k) (r x) w:=rfl
theorem KY {T:TypeId}{k:Nat} (h:T=k) (x:Operand):Op.load k x=Op.load (kW T k) x:=by
 unfold kW;rw[h]
theorem z0b {T k:TypeId}{E:TypeId}{n:Nat}{z:Value} (h:T=k) (H:xL k E n z) {w:World}{g N o:Nat}{f f':Nat->Value}{t:TypeId} (hg:zK w g N f t) (F:o+n<=N) (e:∀j,j<n->f (o+j)=f' j):
  KW (kW T k) (.pointer (some ⟨g,o,none⟩)) w=.ok (.value (.agg (z1 n f'))) w:=by
 unfold kW;rw[h];exact z0a H hg F e
theorem z5z (v0 v1:Value) (l0 l1:List UInt8) (F c:Nat) (w:World) (hg:F<w.heap.size) (K:w.cell? ⟨F,0,none⟩=some v0) (J:w.cell? ⟨F,1,none⟩=some v1) (b0:zP w v0 l0) (b1:zP w v1 l1)
  {l:List UInt8} (hl:l0 ++ l1=l) (M:l.length<=1000000) (I:yB 1 w):
  Calls prog 161 #[.slice (some ⟨F,0,none⟩) 2 c] w fun e w'=>e=.returned (.agg (z1 32 fun j=>z3 (xy l j)))/\Below w.heap.size w w':=by
 have e:([l0,l1]:List (List UInt8)).flatten=l:=by simp[hl]
 have h:=z5y [l0,l1] (fun j=>if j=0 then v0 else v1) F 2 c w rfl hg (fun j G=>by
  obtain rfl|rfl:j=0\/j=1:=by omega
  ·exact K
  ·exact J) (fun j G=>by
  have N:j<2:=G;obtain rfl|rfl:j=0\/j=1:=by omega
  ·exact b0
  ·exact b1) (by rw[e];omega) (by omega) I
 rw[e]at h;exact h
theorem z7S (w:World) (c0 c1 G M I J F K:UInt8) (x0 x1 x2 O a2 N a1 a0:Int) (a9:x0=(c0.toNat:Int)) (a6:x1=(c1.toNat:Int)) (aa:x2=(G.toNat:Int)) (a5:O=(M.toNat:Int)) (a8:a2=(I.toNat:Int)) (a7:N=(J.toNat:Int)) (ab:a1=(F.toNat:Int)) (a4:a0=(K.toNat:Int)):zP (w.alloc (.cells #[.int .u8 x0,.int .u8 x1,.int .u8 x2,.int .u8 O,.int .u8 a2,.int .u8 N,.int .u8 a1,.int .u8 a0] 5)) (.slice (some ⟨w.heap.size,0,none⟩) 8 8) [c0,c1,G,M,I,J,F,K]:=by
 subst a9 a6 aa a5 a8 a7 ab a4;refine⟨_,8,rfl,Nat.le_refl _,by unfold maxLen;omega,fun _=>⟨w.heap.size,0,rfl,by simp,fun j a3=>?_⟩⟩;have B:=(zK.new w 8 (fun j=>z3 ([c0,c1,G,M,I,J,F,K].getD j 0)) 5).cell (i:=j) a3;have e:(z1 8 fun j=>z3 ([c0,c1,G,M,I,J,F,K].getD j 0))=#[.int .u8 (c0.toNat:Int),.int .u8 (c1.toNat:Int),.int .u8 (G.toNat:Int),.int .u8 (M.toNat:Int),.int .u8 (I.toNat:Int),.int .u8 (J.toNat:Int),.int .u8 (F.toNat:Int),.int .u8 (K.toNat:Int)]:=rfl;rw[e]at B;obtain rfl|rfl|rfl|rfl|rfl|rfl|rfl|rfl:j=0\/j=1\/j=2\/j=3\/j=4\/j=5\/j=6\/j=7:=by simp at a3;omega
 all_goals first|exact B|(rw[y9];exact B)|(simp[Addr.add]at B⊢;exact B)|simpa using B
theorem z9v (m:Nat):be8 m 8=[UInt8.ofNat (m / 72057594037927936),UInt8.ofNat (m / 281474976710656),UInt8.ofNat (m / 1099511627776),UInt8.ofNat (m / 4294967296),UInt8.ofNat (m / 16777216),UInt8.ofNat (m / 65536),UInt8.ofNat (m / 256),UInt8.ofNat m]:=by simp[be8]
theorem z3Z (v:Value) (l:List UInt8) (w:World) (a5:zP w v l) (aH:l.length<=1000000):
  Calls prog 197 #[v] w fun e w'=>∃x,e=.returned x/\ql w.heap.size w' x (kn l)/\Below w.heap.size w w':=by
 obtain⟨A,c,rfl⟩:=a5.shape;obtain⟨L,F⟩:=nm (l.length:Nat);rw[F.o]at aH a5⊢;have aU:=Ya L;go_enter func197,ntmps197;have a2:ql w.heap.size (w.alloc (.cells #[] 5)) (.slice (some ⟨w.heap.size,0,none⟩) 0 0) []:=
  ⟨by simp[z4],.inr ⟨w.heap.size,0,#[],rfl,Nat.le_refl _,by rw[Xh],Nat.le_refl _,by unfold maxLen;omega,rfl,by simp[z4]⟩⟩
 have M:Below w.heap.size w (w.alloc (.cells #[] 5)):=Ba;have a8:=a5.below M;have a0:=M.size;have an:([]:List UInt8).length+l.length<=140737488355328:=by rw[F.o];simp;omega
 have af:([] ++ l:List UInt8).length+([128]:List UInt8).length<=140737488355328:=by rw[List.nil_append,F.o,List.length_singleton];omega
 go_wp2_with (first
  |(at_builtin;refine z9 rfl (.tmp 5) (.tmp 6) rfl rfl rfl a2 a8 an a0 ?_;intro v1 aj a1 al aP;have a6:Below w.heap.size w aj:=M.grown al a0 (fun k G=>(World.ownsRow.lt a2 k G).1);have am:=a6.size;have O:w.heap.size<=(aj.alloc (.cells #[.int .u8 128] 5)).heap.size:=by simp;omega)
  |(at_builtin;refine z9 rfl (.tmp 7) (.tmp 8) rfl rfl rfl (a1.alloc _) (jP _ _ 128 rfl) af O ?_;intro aT aI J a7 aD))
 have ab:Below w.heap.size w aI:=(a6.alloc am _).grown a7 O (fun k G=>(World.ownsRow.lt a1 k G).1);have aa:([] ++ l ++ [128]:List UInt8)=l ++ 128 :: List.replicate 0 0:=by simp
 rw[aa]at J;obtain⟨aL,ax,rfl⟩:=J.byt.shape;have au:(l ++ 128 :: List.replicate 0 0:List UInt8).length=L+1:=by simp;exact F.o
 rw[au]at J⊢;clear a7 au aa al a1 a6 am O a2 M a8 a0 an af aD aP;try go_frame
 go_wp2_with fail;go_loopw [3] (fun v wr=>∃(z m:Nat) (A:Option Addr) (c:Nat),z<=qK L/\Hd (m=L+z+1)/\v=.slice A m c/\Hd (ql w.heap.size wr (.slice A m c) (l ++ 128 :: List.replicate z 0))/\Below w.heap.size w wr) (fun v _=>L+100 - zcd v)
 case atStart=>exact⟨0,L+1,aL,ax,Nat.zero_le _,z0 rfl,rfl,z0 J,ab⟩
 case round=>
  clear J ab;obtain⟨z,m,aF,aE,ay,I,rfl,N,a3⟩:=hrel;have ag:=a3.size;have aS:m<=L+100:=by have:=I.o;omega
  have a4:(l ++ 128 :: List.replicate z 0:List UInt8).length+([0]:List UInt8).length<=140737488355328:=by
   simp;have:=F.o;omega
  by_cases ao:z<qK L
  ·have aK:((m:Int) % 64 != 56)=true:=by
    rw[bne_iff_ne];have:=I.o;unfold qK at ao;omega
   go_wp2_with (at_builtin;refine z9 rfl (.tmp 14) (.tmp 15) rfl rfl rfl (N.o.alloc _) (jP _ _ 0 rfl) a4 (by simp;omega) ?_;intro aQ aM K ap _);have aC:Below w.heap.size w aM:=(a3.alloc ag _).grown ap (by simp;omega) (fun k G=>(World.ownsRow.lt N.o k G).1);have hl:(l ++ 128 :: List.replicate z 0:List UInt8) ++ [0]=l ++ 128 :: List.replicate (z+1) 0:=by
    rw[List.replicate_succ',List.append_assoc,List.cons_append]
   rw[hl]at K;clear hl ap;obtain⟨aN,az,rfl⟩:=K.byt.shape;have av:(l ++ 128 :: List.replicate (z+1) 0:List UInt8).length=m+1:=by simp;have:=I.o;have:=F.o;omega
   rw[av]at K⊢;have aO:=z0 K;clear av K a4;try go_frame
   go_roundw
   case rel=>exact⟨z+1,m+1,aN,az,by omega,z0 (by have:=I.o;omega),rfl,aO,aC⟩
   case measure=>show L+100 - (m+1)<L+100 - m;have:=I.o;omega
  ·have aK:((m:Int) % 64 != 56)=false:=by
    rw[bne_eq_false_iff_eq];have:=I.o;unfold qK at ao ay;omega
   have ar:Hd (ql w.heap.size wr (.slice aF m aE) (l ++ 128 :: List.replicate (qK L) 0)):=by
    have e:z=qK L:=by omega
    have:=N.o;rw[e]at this;exact z0 this
   clear N a4;have a9:Hd ((L:Int)*8 / 72057594037927936=((UInt8.ofNat (L*8 / 72057594037927936)).toNat:Int)):=z0 (by rw[vD];omega);have ad:Hd ((L:Int)*8 / 281474976710656=((UInt8.ofNat (L*8 / 281474976710656)).toNat:Int)):=z0 (by rw[vD];omega);have ae:Hd ((L:Int)*8 / 1099511627776=((UInt8.ofNat (L*8 / 1099511627776)).toNat:Int)):=z0 (by rw[vD];omega);have aw:Hd ((L:Int)*8 / 4294967296=((UInt8.ofNat (L*8 / 4294967296)).toNat:Int)):=z0 (by rw[vD];omega);have ah:Hd ((L:Int)*8 / 16777216=((UInt8.ofNat (L*8 / 16777216)).toNat:Int)):=z0 (by rw[vD];omega);have ak:Hd ((L:Int)*8 / 65536=((UInt8.ofNat (L*8 / 65536)).toNat:Int)):=z0 (by rw[vD];omega);have aq:Hd ((L:Int)*8 / 256 % 256=((UInt8.ofNat (L*8 / 256)).toNat:Int)):=z0 (by rw[vD];omega);have ai:Hd ((L:Int)*8 % 256=((UInt8.ofNat (L*8)).toNat:Int)):=z0 (by rw[vD];omega);have aB:(l ++ 128 :: List.replicate (qK L) 0:List UInt8).length+(be8 (L*8) 8).length<=140737488355328:=by
    rw[ZI];simp;have:=F.o;omega
   have he:∀w':World,zP (w'.alloc (.cells #[.int .u8 ((L:Int)*8 / 72057594037927936),.int .u8 ((L:Int)*8 / 281474976710656),.int .u8 ((L:Int)*8 / 1099511627776),.int .u8 ((L:Int)*8 / 4294967296),.int .u8 ((L:Int)*8 / 16777216),.int .u8 ((L:Int)*8 / 65536),.int .u8 ((L:Int)*8 / 256 % 256),.int .u8 ((L:Int)*8 % 256)] 5)) (.slice (some ⟨w'.heap.size,0,none⟩) 8 8) (be8 (L*8) 8):=fun w'=>by
    rw[z9v];exact z7S w' _ _ _ _ _ _ _ _ _ _ _ _ _ _ _ _ a9.o ad.o ae.o aw.o ah.o ak.o aq.o ai.o
   clear a9 ad ae aw ah ak aq ai;have aG:=z0 he;clear he;go_wp2_with (at_builtin;refine z9 rfl (.tmp 21) (.tmp 45) rfl rfl rfl (ar.o.alloc _) (aG.o _) aB (by simp;omega) ?_;intro aR w5 aJ aA _);go_ret;have e:kn l=l ++ 128 :: List.replicate (qK L) 0 ++ be8 (L*8) 8:=by
    rw[<-F.o,List.append_assoc];rfl
   rw[e];exact⟨_,rfl,aJ,(a3.alloc ag _).grown aA (by simp;omega) (fun k G=>(World.ownsRow.lt ar.o k G).1)⟩
theorem z9w (a b c d:UInt8):IntKind.u32.wrap (IntKind.u32.wrap (IntKind.u32.wrap (IntKind.u32.wrap (IntKind.u32.wrap (a.toNat:Int)*16777216)+IntKind.u32.wrap (IntKind.u32.wrap (b.toNat:Int)*65536))+IntKind.u32.wrap (IntKind.u32.wrap (c.toNat:Int)*256))+IntKind.u32.wrap (d.toNat:Int))=wv (z99 a b c d):=by
 have ha:=a.toNat_lt;have F:=b.toNat_lt;have I:=c.toNat_lt;have G:=d.toNat_lt;unfold z99;rw[KV _ (by omega)];simp only[IntKind.wrap_u32'];omega
set_option maxRecDepth 100000 in
theorem z40 (s:Nat->UInt32) (b:Nat->UInt8) (w:World) (an:yB 0 w):
  Calls prog 198 #[.agg (z1 8 fun j=>wc (s j)),.agg (z1 64 fun j=>z3 (b j))] w fun e w'=>e=.returned (.agg (z1 8 fun j=>wc (ZH s b j)))/\Below w.heap.size w w':=by
 have cL:=an.1;go_enter func198,ntmps198
 go_wp2_with (first
  |(refine zb Zd rfl rfl ?_)
  |(refine qa z3K rfl rfl ?_)
  |(refine zb z3K rfl rfl ?_)
  |(refine z8 z3K rfl _ _ rfl rfl rfl (zK.new _ 64 (fun _=>wc 0) 262) (fun _ _=>rfl) ?_;intro ad ae am bZ))
 have b9:zK (((w.alloc (.cells (z1 8 fun j=>wc (s j)) 240)).alloc (.cells (z1 64 fun j=>z3 (b j)) 227)).alloc (.cells (z1 8 fun _=>wc 0) 240)) w.heap.size 8 (fun j=>wc (s j)) 240:=((zK.new w _ _ _).alloc _).alloc _;have b1:zK (((w.alloc (.cells (z1 8 fun j=>wc (s j)) 240)).alloc (.cells (z1 64 fun j=>z3 (b j)) 227)).alloc (.cells (z1 8 fun _=>wc 0) 240)) (w.heap.size+1) 64 (fun j=>z3 (b j)) 227:=zK.alloc (heap_alloc2_new w _ _) _;have b5:zK (((w.alloc (.cells (z1 8 fun j=>wc (s j)) 240)).alloc (.cells (z1 64 fun j=>z3 (b j)) 227)).alloc (.cells (z1 8 fun _=>wc 0) 240)) (w.heap.size+1+1) 8 (fun _=>wc 0) 240:=by
  have:=zK.new ((w.alloc (.cells (z1 8 fun j=>wc (s j)) 240)).alloc (.cells (z1 64 fun j=>z3 (b j)) 227)) 8 (fun _=>wc 0) 240
  simpa using this
 have bb:Below w.heap.size w (((w.alloc (.cells (z1 8 fun j=>wc (s j)) 240)).alloc (.cells (z1 64 fun j=>z3 (b j)) 227)).alloc (.cells (z1 8 fun _=>wc 0) 240)):=(Ba.alloc (by simp) _).alloc (by simp;omega) _;have bt:(((w.alloc (.cells (z1 8 fun j=>wc (s j)) 240)).alloc (.cells (z1 64 fun j=>z3 (b j)) 227)).alloc (.cells (z1 8 fun _=>wc 0) 240)).heap.size=w.heap.size+3:=by simp
 have hp:(((w.alloc (.cells (z1 8 fun j=>wc (s j)) 240)).alloc (.cells (z1 64 fun j=>z3 (b j)) 227)).alloc (.cells (z1 8 fun _=>wc 0) 240)).heap.size=w.heap.size+1+1+1:=by simp
 rw[hp]at ae am;clear hp bZ;generalize (((w.alloc (.cells (z1 8 fun j=>wc (s j)) 240)).alloc (.cells (z1 64 fun j=>z3 (b j)) 227)).alloc (.cells (z1 8 fun _=>wc 0) 240))=w0 at *;have b4:=z0 bt;clear bt;obtain⟨N,aJ⟩:=nm (w.heap.size+1+1+1:Nat);have bA:w0.heap.size=N:=by have:=aJ.o;have:=b4.o;omega
 have bq:=z0 bA;clear bA;have cM:w.heap.size+2<N:=by have:=aJ.o;omega
 rw[aJ.o]at ae am⊢;have bd:zK ad w.heap.size 8 (fun j=>wc (s j)) 240:=(b9.alloc _).grown ae (fun e=>by have:=Option.some.inj e;omega);have bf:zK ad (w.heap.size+1) 64 (fun j=>z3 (b j)) 227:=(b1.alloc _).grown ae (fun e=>by have:=Option.some.inj e;omega);have aX:zK ad (w.heap.size+1+1) 8 (fun _=>wc 0) 240:=(b5.alloc _).grown ae (fun e=>by have:=Option.some.inj e;omega);have bx:Below N w0 ad:=((Below.refl _ _).alloc (by have:=bq.o;omega) _).grown ae (by have:=bq.o;simp;omega) (fun k ay=>by injection ay;omega);have aM:Below w.heap.size w ad:=bb.trans (bx.mono (by omega));clear b9 b1 b5 bb b4 ae bx;have bY:=an.below aM;have cJ:=am.lt;try go_frame
 go_wp2_with fail;go_loopw [6] (fun a3 wr=>∃i:Nat,i<=64/\a3=.int .i64 i/\Below N ad wr/\zK wr N 64 (part (wd b) i) 262) (fun a3 _=>64 - (intOf a3).toNat)
 case atStart=>exact⟨0,by omega,rfl,Below.refl _ _,am.congr fun i _=>by simp[part]⟩
 case round=>
  clear am;obtain⟨i,cH,rfl,ab,a6⟩:=hrel;have bc:=a6.lt;have ci:w.heap.size+1<wr.heap.size:=by omega
  by_cases aw:i<64
  ·have bO:(i:Int)<64:=by omega
   have ki:=a6.cell (i:=i) (by omega);have ck:=a6.free i;by_cases bQ:i<16
   ·have cd:(i:Int)<16:=by omega
    as_aux_lemma=>
     have aq:zK wr (w.heap.size+1) 64 (fun j=>z3 (b j)) 227:=bf.below ab (by omega);obtain⟨G,aT⟩:=nm (4*i:Nat);have cv:G+3<64:=by have:=aT.o;omega
     have c0:=aq.cell (i:=G) (by omega);have c1:=aq.cell (i:=G+1) (by omega);have ao:=aq.cell (i:=G+2) (by omega);have bG:=aq.cell (i:=G+3) (by omega);have c6:IntKind.i64.wrap (4*(i:Int))=(G:Int):=by rw[IntWalk.i64_in _ (by omega)];have:=aT.o;omega
     have cf:IntKind.i64.wrap ((G:Int)+1)=(G:Int)+1:=IntWalk.i64_in _ (by omega);have aN:IntKind.i64.wrap ((G:Int)+2)=(G:Int)+2:=IntWalk.i64_in _ (by omega);have bP:IntKind.i64.wrap ((G:Int)+3)=(G:Int)+3:=IntWalk.i64_in _ (by omega);have r1:((G:Int)+1).toNat=G+1:=by omega
     have r2:((G:Int)+2).toNat=G+2:=by omega
     have r3:((G:Int)+3).toNat=G+3:=by omega
     have s0:(G:Int)<64:=by omega
     have s1:(G:Int)+1<64:=by omega
     have cr:(G:Int)+2<64:=by omega
     have cy:(G:Int)+3<64:=by omega
     have u1:0<=(G:Int)+1:=by omega
     have cz:0<=(G:Int)+2:=by omega
     have cN:0<=(G:Int)+3:=by omega
     unfold z3 at c0 c1 ao bG;go_wp2_with fail;go_still_tail 30,(by kernel_rfl)
     rw[z9w];change wpList _ _ _ _ _ wr.drew;clear c6 cf aN bP r1 r2 r3;go_wp2;go_roundw
     case rel=>
      refine⟨i+1,by omega,by go_num,(ab.drew).setCell (Nat.le_refl _) _,((a6.drew).set (i:=i) (by omega) _).congr fun j _=>?_⟩;rw[<-z08,z2B b bQ];unfold z1G;rw[aT.o];rfl
     case measure=>simp[intOf];omega
   ·have cd:¬(i:Int)<16:=by omega
    obtain⟨J,ar⟩:∃J:Nat,Hd (J+2=i):=⟨i - 2,z0 (by omega)⟩
    obtain⟨a7,aj⟩:∃a7:Nat,Hd (a7+7=i):=⟨i - 7,z0 (by omega)⟩
    obtain⟨a9,aC⟩:∃a9:Nat,Hd (a9+15=i):=⟨i - 15,z0 (by omega)⟩
    obtain⟨aa,ai⟩:∃aa:Nat,Hd (aa+16=i):=⟨i - 16,z0 (by omega)⟩
    have b2:J<64:=by have:=ar.o;omega
    have cu:a7<64:=by have:=aj.o;omega
    have cI:a9<64:=by have:=aC.o;omega
    have cF:aa<64:=by have:=ai.o;omega
    have aN:IntKind.i64.wrap ((i:Int) - 2)=(J:Int):=by rw[IntWalk.i64_in _ (by omega)];have:=ar.o;omega
    have bK:IntKind.i64.wrap ((i:Int) - 7)=(a7:Int):=by rw[IntWalk.i64_in _ (by omega)];have:=aj.o;omega
    have bB:IntKind.i64.wrap ((i:Int) - 15)=(a9:Int):=by rw[IntWalk.i64_in _ (by omega)];have:=aC.o;omega
    have bC:IntKind.i64.wrap ((i:Int) - 16)=(aa:Int):=by rw[IntWalk.i64_in _ (by omega)];have:=ai.o;omega
    have ao:=a6.cell (i:=J) (by omega);have bj:=a6.cell (i:=a9) (by omega);have ap:part (wd b) i J=.int .u32 (wv (wd b J)):=if_pos (by have:=ar.o;omega);have be:part (wd b) i a7=.int .u32 (wv (wd b a7)):=if_pos (by have:=aj.o;omega);have bu:part (wd b) i a9=.int .u32 (wv (wd b a9)):=if_pos (by have:=aC.o;omega);have bp:part (wd b) i aa=.int .u32 (wv (wd b aa)):=if_pos (by have:=ai.o;omega);rw[ap]at ao;rw[bu]at bj;have aA:(J:Int)<64:=by omega
    have au:(a7:Int)<64:=by omega
    have cx:(a9:Int)<64:=by omega
    have cB:(aa:Int)<64:=by omega
    have cc:=z0 be;have c9:=z0 bp;clear ap be bu bp;go_wp2_with fail;go_quiet (fail)
    go_wp2_with (first
     |(go_at_call 213;((with_reducible refine(JS _ 17 17 rfl (by omega) _).mono ?_);rintro e w' ⟨rfl,rfl⟩))
     |(go_at_call 213;((with_reducible refine(JS _ 19 19 rfl (by omega) _).mono ?_);rintro e w' ⟨rfl,rfl⟩))
     |(go_at_call 214;((with_reducible refine(KX _ 10 10 rfl (by omega) _).mono ?_);rintro e w' ⟨rfl,rfl⟩)))
    as_aux_lemma=>
     have ba:Value.int .u32 (bits BinOp.xor IntKind.u32 (bits BinOp.xor IntKind.u32 (wv (rr (wd b J) 17)) (wv (rr (wd b J) 19))) (wv (sr (wd b J) 10)))=.int .u32 (wv (sm1 (wd b J))):=by
      rw[vB,vB];rfl
     rw[ba];clear ba;have ag:zK ((wr.drewN nq).setCell ⟨N,i,none⟩ (.int .u32 (wv (sm1 (wd b J))))) N 64 (fun j=>if j=i then .int .u32 (wv (sm1 (wd b J))) else part (wd b) i j) 262:=(a6.drewN nq).set (i:=i) (by omega) _;have bI:Below N ad ((wr.drewN nq).setCell ⟨N,i,none⟩ (.int .u32 (wv (sm1 (wd b J))))):=(zA ab nq).setCell (Nat.le_refl _) _;generalize (wr.drewN nq).setCell ⟨N,i,none⟩ (.int .u32 (wv (sm1 (wd b J))))=ca at *;have cg:=ag.cell (i:=i) (by omega);have bM:=ag.cell (i:=a7) (by omega);have ch:=ag.cell (i:=aa) (by omega);rw[if_pos rfl]at cg;rw[if_neg (by have:=aj.o;omega),cc.o]at bM;rw[if_neg (by have:=ai.o;omega),c9.o]at ch;have cE:=ag.free i;have c3:=ag.lt;clear ao bj ki ck a6 ab bc;refine wp_region_still_tail 23 (by kernel_rfl) (by kernel_rfl) ?_;simp only[List.take_succ_cons,List.take_zero,List.drop_succ_cons,List.drop_zero]
     repeat still_step
     still_call (YS _ 7 7 rfl (by omega) _)
     repeat still_step
     still_call (YS _ 18 18 rfl (by omega) _)
     repeat still_step
     still_call (z2J _ 3 3 rfl (by omega) _)
     repeat still_step
     refine wpStill_nil ?_;change wpList _ _ _ _ _ ca.drew
     as_aux_lemma=>
      clear aN bK bB bC;go_wp2;go_roundw
      case rel=>
       refine⟨i+1,by omega,by go_num,(bI.drew).setCell (Nat.le_refl _) _,((ag.drew).set (i:=i) (by omega) _).congr fun j _=>?_⟩;by_cases aI:j=i
       ·subst aI;rw[if_pos rfl,vB,vB];unfold part;rw[if_pos (by omega),Xy b (by omega) aw,show j - 2=J from by have:=ar.o;omega,show j - 7=a7 from by have:=aj.o;omega,show j - 15=a9 from by have:=aC.o;omega,show j - 16=aa from by have:=ai.o;omega];unfold wc;rw[<-XA];rfl
       ·rw[if_neg aI,if_neg aI];unfold part;by_cases b0:j<i
        ·rw[if_pos b0,if_pos (by omega)]
        ·rw[if_neg b0,if_neg (by omega)]
      case measure=>simp[intOf];omega
  ·have bO:¬(i:Int)<64:=by omega
   have b7:zK wr N 64 (fun j=>wc (wd b j)) 262:=a6.congr fun j aL=>if_pos (by omega);have aQ:=bd.below ab (by omega);have bw:=aX.below ab (by omega);have al:Below w.heap.size w wr:=aM.trans (ab.mono (by omega));have bR:=an.below al;obtain⟨V,af⟩:=nm (wr.heap.size);clear bd bf aX bY a6 ab aM
   go_wp2_with (first
    |(refine qg Zd rfl _ rfl rfl aQ ?_)
    |(refine zb Zd rfl rfl ?_)
    |(refine z8 Zd rfl _ _ rfl rfl rfl (zK.new wr 8 (fun _=>wc 0) 240) (fun _ _=>rfl) ?_;intro ah ak ax bD))
   have bL:N<V:=by have:=af.o;omega
   have b6:zK ah w.heap.size 8 (fun j=>wc (s j)) 240:=(aQ.alloc _).grown ak (fun e=>by have:=Option.some.inj e;have:=af.o;omega);have bh:zK ah (w.heap.size+1+1) 8 (fun _=>wc 0) 240:=(bw.alloc _).grown ak (fun e=>by have:=Option.some.inj e;have:=af.o;omega);have aY:zK ah N 64 (fun j=>wc (wd b j)) 262:=(b7.alloc _).grown ak (fun e=>by have:=Option.some.inj e;have:=af.o;omega);have aP:Below w.heap.size w ah:=(al.alloc al.size _).grown ak (by have:=al.size;simp;omega) (fun k ay=>by injection ay;have:=af.o;omega);rw[af.o]at ax⊢;have b8:=an.below aP;have av:=ax.lt;clear aQ bw b7 al bR ak bD bc ci;go_wp2_with fail
   as_aux_lemma=>
    go_loopw [10] (fun a3 wr=>∃(k:Nat) (K a0 O a1 I a2 a4 a8:UInt32),k<=64/\a3=.int .i64 k/\Hd (Xo (wd b) k (St.of s)=⟨K,a0,O,a1,I,a2,a4,a8⟩)/\Below V ah wr/\zK wr V 8 (fun j=>.int .u32 (wv ([K,a0,O,a1,I,a2,a4,a8].getD j 0))) 240) (fun a3 _=>64 - (intOf a3).toNat)
    case atStart=>
     refine⟨0,s 0,s 1,s 2,s 3,s 4,s 5,s 6,s 7,by omega,rfl,z0 rfl,Below.refl _ _,ax.congr fun j aL=>?_⟩;obtain rfl|rfl|rfl|rfl|rfl|rfl|rfl|rfl:j=0\/j=1\/j=2\/j=3\/j=4\/j=5\/j=6\/j=7:=by omega
     all_goals rfl
    case round=>
     clear ax av;obtain⟨k,K,a0,O,a1,I,a2,a4,a8,ay,rfl,aH,a5,F⟩:=hrel;have av:=F.lt;by_cases aw:k<64
     ·have c4:(k:Int)<64:=by omega
      have l0:wr.cell? ⟨V,0,none⟩=some (.int .u32 (wv K)):=F.cell (i:=0) (by omega);have l1:wr.cell? ⟨V,1,none⟩=some (.int .u32 (wv a0)):=F.cell (i:=1) (by omega);have aA:wr.cell? ⟨V,2,none⟩=some (.int .u32 (wv O)):=F.cell (i:=2) (by omega);have aO:wr.cell? ⟨V,3,none⟩=some (.int .u32 (wv a1)):=F.cell (i:=3) (by omega);have aU:wr.cell? ⟨V,4,none⟩=some (.int .u32 (wv I)):=F.cell (i:=4) (by omega);have aF:wr.cell? ⟨V,5,none⟩=some (.int .u32 (wv a2)):=F.cell (i:=5) (by omega);have aK:wr.cell? ⟨V,6,none⟩=some (.int .u32 (wv a4)):=F.cell (i:=6) (by omega);have au:wr.cell? ⟨V,7,none⟩=some (.int .u32 (wv a8)):=F.cell (i:=7) (by omega);have bv:=(aY.below a5 bL).cell (i:=k) aw;unfold wc at bv;have bT:0<V:=by have:=an.1;have:=af.o;omega
      have cl:=(a5.cell (p:=⟨0,k,none⟩) bT).trans (b8.2 k aw);have bH:0<wr.heap.size:=by omega
      have bN:N<wr.heap.size:=by omega
      have cj:=XW I;obtain⟨cp,co⟩:=cj;obtain⟨aG,bz⟩:=nm (chc I a2 a4);obtain⟨aD,aZ⟩:=nm (maj K a0 O);obtain⟨aR,bi⟩:=nm (bg1 I:UInt32);obtain⟨aE,aW⟩:=nm (bg0 K:UInt32);obtain⟨T,aB⟩:=nm (a8+aR+aG+kc k+wd b k:UInt32);obtain⟨U,bl⟩:=nm (aE+aD:UInt32);have c7:bits BinOp.or IntKind.u32 (bits BinOp.and IntKind.u32 (wv I) (wv a2)) (bits BinOp.and IntKind.u32 (4294967295 - wv I) (wv a4))=wv aG:=by rw[zcy,Qv,Qv,z1S,<-bz.o];rfl
      have ap:bits BinOp.or IntKind.u32 (bits BinOp.or IntKind.u32 (bits BinOp.and IntKind.u32 (wv K) (wv a0)) (bits BinOp.and IntKind.u32 (wv K) (wv O))) (bits BinOp.and IntKind.u32 (wv a0) (wv O))=wv aD:=by rw[Qv,Qv,Qv,z1S,z1S,<-aZ.o];rfl
      have bJ:bits BinOp.xor IntKind.u32 (bits BinOp.xor IntKind.u32 (wv (rr I 6)) (wv (rr I 11))) (wv (rr I 25))=wv aR:=by rw[vB,vB,<-bi.o];rfl
      have cb:bits BinOp.xor IntKind.u32 (bits BinOp.xor IntKind.u32 (wv (rr K 2)) (wv (rr K 13))) (wv (rr K 22))=wv aE:=by rw[vB,vB,<-aW.o];rfl
      have c2:(wv a8+wv aR+wv aG+wv (kc k)+wv (wd b k)) % 4294967296=wv T:=by rw[XB,aB.o]
      go_wp2_with fail;go_quiet (fail);go_wp2_with fail;go_quiet ((go_at_call 213;exact z5u (z1U _ _ (by omega) (by omega) _)));first
       |rw[XA,xM,aB.o]
       |rw[XB,aB.o]
      clear c7 ap bJ c2;have bo:∀n M,wr.drewN n=M->zK M V 8 (fun j=>.int .u32 (wv ([K,a0,O,a1,I,a2,a4,a8].getD j 0))) 240:=fun n M e=>by subst e;exact z9n F rfl
      have bk:∀n M,wr.drewN n=M->Below V ah M:=fun n M e=>by subst e;exact zA a5 n
      clear bH bN cp co bv cl a5 F l0 l1 aA aO aU aF aK au av;go_wp2_with fail;refine(JT _ _ (by omega) (by omega) _).mono ?_;rintro e w' ⟨rfl,rfl⟩;go_wp2_with fail;refine(JT _ _ (by omega) (by omega) _).mono ?_;rintro e w' ⟨rfl,rfl⟩;go_wp2_with fail;refine(JT _ _ (by omega) (by omega) _).mono ?_;rintro e w' ⟨rfl,rfl⟩;generalize aV:wr.drewN _=M;have F:=bo _ _ aV;have a5:=bk _ _ aV;clear bo bk aV;have l0:M.cell? ⟨V,0,none⟩=some (.int .u32 (wv K)):=F.cell (i:=0) (by omega);have l1:M.cell? ⟨V,1,none⟩=some (.int .u32 (wv a0)):=F.cell (i:=1) (by omega);have aA:M.cell? ⟨V,2,none⟩=some (.int .u32 (wv O)):=F.cell (i:=2) (by omega);have aO:M.cell? ⟨V,3,none⟩=some (.int .u32 (wv a1)):=F.cell (i:=3) (by omega);have aU:M.cell? ⟨V,4,none⟩=some (.int .u32 (wv I)):=F.cell (i:=4) (by omega);have aF:M.cell? ⟨V,5,none⟩=some (.int .u32 (wv a2)):=F.cell (i:=5) (by omega);have aK:M.cell? ⟨V,6,none⟩=some (.int .u32 (wv a4)):=F.cell (i:=6) (by omega);have au:M.cell? ⟨V,7,none⟩=some (.int .u32 (wv a8)):=F.cell (i:=7) (by omega);have av:=F.lt;go_simp
      go_wp2_with (first
       |(refine ZL rfl rfl _ _ _ _ _ _ _ _ rfl rfl rfl rfl rfl rfl rfl rfl ?_)
       |(refine JU rfl (.tmp 9) (.tmp 182) rfl rfl rfl F ?_;intro w5 bF c8 cK))
      have bV:zK w5 V 8 (fun j=>.int .u32 (wv ([T+U,K,a0,O,a1+T,I,a2,a4].getD j 0))) 240:=c8.congr fun j aL=>by
       obtain rfl|rfl|rfl|rfl|rfl|rfl|rfl|rfl:j=0\/j=1\/j=2\/j=3\/j=4\/j=5\/j=6\/j=7:=by omega
       ·show Value.int IntKind.u32 ((wv T+(wv aE+wv aD) % 4294967296) % 4294967296)=Value.int IntKind.u32 (wv (T+U));rw[xM,xM,bl.o]
       ·rfl
       ·rfl
       ·rfl
       ·show Value.int IntKind.u32 ((wv a1+wv T) % 4294967296)=Value.int IntKind.u32 (wv (a1+T));rw[xM]
       ·rfl
       ·rfl
       ·rfl
      clear cb l0 l1 aA aO aU aF aK au;go_roundw
      case rel=>
       refine⟨k+1,T+U,K,a0,O,a1+T,I,a2,a4,by omega,by go_num,z0 ?_,z5w a5 bF rfl rfl rfl rfl (by omega),bV⟩;unfold Xo;rw[aH.o,<-aB.o,<-bl.o,<-bi.o,<-bz.o,<-aW.o,<-aZ.o];rfl
      case measure=>simp[intOf];omega
     ·have c4:¬(k:Int)<64:=by omega
      have bg:Hd (Xo (wd b) 64 (St.of s)=⟨K,a0,O,a1,I,a2,a4,a8⟩):=by
       have e:k=64:=by omega
       rw[<-e];exact aH
      have ce:=b6.below a5 (by omega);have bW:=bh.below a5 (by omega);have bS:Below w.heap.size w wr:=aP.trans (a5.mono (by omega));have bm:zK wr V 8 (fun j=>if j<0 then wc (ZH s b j) else .int .u32 (wv ((Xo (wd b) 64 (St.of s)).at_ j))) 240:=F.congr fun j _=>by
       rw[if_neg (by omega),bg.o];rfl
      clear b6 bh aY aP b8 F a5 aH bg;obtain⟨aS,rfl⟩:∃aS:World,aS=wr:=⟨_,rfl⟩
      go_wp2_with fail;go_loopw [17] (fun a3 wr=>∃m:Nat,m<=8/\a3=.int .i64 m/\Below V aS wr/\zK wr V 8 (fun j=>if j<m then wc (ZH s b j) else .int .u32 (wv ((Xo (wd b) 64 (St.of s)).at_ j))) 240) (fun a3 _=>8 - (intOf a3).toNat)
      case atStart=>exact⟨0,by omega,rfl,Below.refl _ _,bm⟩
      case round=>
       clear bm;obtain⟨m,cA,rfl,az,F⟩:=hrel;have cD:=F.lt;have cG:w.heap.size<wr.heap.size:=by omega
       by_cases c3:m<8
       ·have c5:(m:Int)<8:=by omega
        have bU:=F.cell (i:=m) (by omega);rw[if_neg (by omega)]at bU;have ct:=F.free m;have cq:=(ce.below az (by omega)).cell (i:=m) (by omega);unfold wc at cq;go_wp2_with fail;go_still_tail 8,(by kernel_rfl)
        change wpList _ _ _ _ _ wr.drew;go_wp2;go_roundw
        case rel=>
         refine⟨m+1,by omega,by go_num,(az.drew).setCell (Nat.le_refl _) _,((F.drew).set (i:=m) (by omega) _).congr fun q _=>?_⟩;by_cases hq:q=m
         ·subst hq;rw[if_pos rfl,if_pos (by omega)];unfold ZH wc;rw[UInt32.add_comm,<-xM]
         ·rw[if_neg hq];by_cases br:q<m
          ·rw[if_pos br,if_pos (by omega)]
          ·rw[if_neg br,if_neg (by omega)]
        case measure=>simp[intOf];omega
       ·have c5:¬(m:Int)<8:=by omega
        have bX:zK wr V 8 (fun j=>wc (ZH s b j)) 240:=F.congr fun j aL=>if_pos (by omega);have cm:=bW.below az (by omega);have bn:Below w.heap.size w wr:=bS.trans (az.mono (by omega))
        go_wp2_with (first
         |(refine qg Zd rfl _ rfl rfl bX ?_)
         |(refine z8 Zd rfl _ _ rfl rfl rfl cm (fun _ _=>rfl) ?_;intro cC cn bE cw))
        refine Bp (Zd.result rfl _ _ rfl bE) rfl ⟨rfl,?_⟩;exact zh bn (by omega) cn bn.size
theorem Zg {w w':World} (h:Below w.heap.size w w') (F:Option Nat):w.grownBy w' F:=⟨h.os,h.tape,h.output,h.size,fun k G _=>h.block k G⟩
theorem QH (v:Value) (l:List UInt8) (w:World) (aa:zP w v l) (bc:l.length<=1000000) (aM:yB 0 w):
  Calls prog 168 #[v] w fun e w'=>e=.returned (.agg (z1 32 fun j=>z3 (xy l j)))/\Below w.heap.size w w':=by
 obtain⟨A,c,rfl⟩:=aa.shape;obtain⟨L,ap⟩:=nm (l.length:Nat);rw[ap.o]at bc aa⊢;go_enter func168,ntmps168
 go_wp2_with (first
  |(refine zb qo rfl rfl ?_)
  |(refine ZL rfl rfl _ _ _ _ _ _ _ _ rfl rfl rfl rfl rfl rfl rfl rfl ?_)
  |(refine zb Zd rfl rfl ?_)
  |(refine z8 Zd (f':=fun j=>wc (start j)) rfl _ _ rfl rfl rfl (zK.new _ 8 (fun _=>wc 0) 240) (fun _ _=>rfl) ?_;intro a7 am aw bd))
 have ag:Below w.heap.size w a7:=(((Below.refl _ _).alloc (Nat.le_refl _) (.cells (z1 32 fun _=>z3 0) 38)).alloc (by simp) (.cells (z1 8 fun _=>wc 0) 240)).grown am (by simp;omega) (fun k G=>by injection G;simp at *;omega);have az:zK a7 w.heap.size 32 (fun _=>z3 0) 38:=((zK.new w 32 (fun _=>z3 0) 38).alloc _).grown am (by simp);have aQ:=aa.below ag;have aR:=ag.size;clear am bd;go_wp2_with fail;refine(z3Z _ l a7 aQ (by rw[ap.o];omega)).mono ?_;rintro e a4 ⟨bL,rfl,a1,K⟩;obtain⟨aK,av,rfl⟩:=a1.byt.shape;obtain⟨I,a3⟩:=nm ((kn l).length:Nat);have ah:=Vw l;have ay:=z7A l;have aP:=Ya l.length;rw[a3.o]at a1 ah ay⊢;rw[ap.o]at ah aP;obtain⟨P,ab⟩:∃P:Nat,Hd (I=64*P):=⟨I / 64,z0 (by omega)⟩
 have bP:I<=1000100:=by omega
 clear ah ay aP;obtain⟨S,aO⟩:=nm (w.heap.size+1:Nat);have a9:zK a7 (w.heap.size+1) 8 (fun j=>wc (start j)) 240:=by simpa using aw
 rw[aO.o]at a9⊢;have bQ:=a9.lt;have bw:w.heap.size<S:=by have:=aO.o;omega
 have aA:zK a4 S 8 (fun j=>wc (Ze (kn l) 0 j)) 240:=a9.keep K;have af:=az.keep K;have a6:=ag.trans (K.mono aR);have bx:=K.size;have b0:=a1.byt;have b6:(Value.slice aK I av).ownBlock≠some S:=fun e=>by have:=(World.ownsRow.lt a1 S e).1;omega
 have bN:S<a4.heap.size:=by omega
 have ba:=z0 af;have b5:=z0 aM;clear aw a9 az aQ ag K a1 af aa aM;try go_frame
 go_wp2_with fail;go_loopw [5] (fun J wr=>∃i k:Nat,k<=P/\Hd (i=64*k)/\J=.int .i64 i/\a4.grownBy wr (some S)/\zK wr S 8 (fun j=>wc (Ze (kn l) k j)) 240) (fun J _=>I - (intOf J).toNat)
 case atStart=>exact⟨0,0,Nat.zero_le _,z0 rfl,rfl,Zg (Below.refl _ _) _,aA⟩
 case round=>
  clear aA;obtain⟨i,k,G,a5,rfl,N,a2⟩:=hrel;have a8:=a2.lt;have bo:=N.size;by_cases bI:k<P
  ·have bp:(i:Int)<(I:Int):=by have:=a5.o;have:=ab.o;omega
   have aJ:zP wr (.slice aK I av) (kn l):=b0.keep bo fun b bb e=>N.block b bb (fun b4=>b6 (by rw[e,b4]));have bn:=aJ.at_.2.1;have aE:=aJ.at_.2.2.2;rw[a3.o]at bn;obtain⟨b,aZ,rfl,K,aC⟩:=aE (by rw[a3.o];omega);have aV:=z0 aC;clear aE aC;obtain⟨F,rfl⟩:∃F:World,F=wr:=⟨_,rfl⟩
   go_wp2_with (first
    |(refine qa jK rfl rfl ?_)
    |(refine zb jK rfl rfl ?_)
    |(refine z8 jK rfl _ _ rfl rfl rfl (zK.new F 64 (fun _=>z3 0) 227) (fun _ _=>rfl) ?_;intro aL ao ak br))
   obtain⟨B,al⟩:=nm (F.heap.size);have aX:zK aL S 8 (fun j=>wc (Ze (kn l) k j)) 240:=(a2.alloc _).grown ao (by simp;omega);have ai:Below F.heap.size F aL:=Ba.grown ao (by simp) (fun k G=>by injection G;omega);have bm:b<B:=by have:=al.o;omega
   rw[al.o]at ak a8 ai⊢;clear ao br;go_wp2_with fail;go_loopw [7] (fun aq wr=>∃m:Nat,m<=64/\aq=.int .i64 m/\Below B F wr/\zK wr B 64 (JF (XC (kn l) k) m) 227) (fun aq _=>64 - (intOf aq).toNat)
   case atStart=>exact⟨0,by omega,rfl,ai,ak.congr fun i _=>by simp[JF]⟩
   case round=>
    clear ai aX ak;obtain⟨m,bC,rfl,ad,O⟩:=hrel;have bM:=O.lt;by_cases bg:m<64
    ·have b8:(m:Int)<64:=by omega
     have bl:i+m<I:=by have:=a5.o;have:=ab.o;omega
     have bK:(i:Int)+(m:Int)<(I:Int):=by omega
     have aG:i+m<(kn l).length:=by rw[a3.o];exact bl
     have be:=(ad.cell (p:=⟨b,aZ+(i+m),none⟩) bm).trans (aV.o (i+m) aG);have bJ:=O.cell (i:=m) (by omega);have bv:=O.free m;have M:z3 (kn l)[i+m]=z3 (XC (kn l) k m):=by
      unfold XC;rw[<-a5.o,List.getD_eq_getElem?_getD,List.getElem?_eq_getElem aG];rfl
     have an:=z0 M;unfold z3 at be;clear M;go_wp2;go_roundw
     case rel=>
      refine⟨m+1,by omega,by go_num,Zx ad (g:=B) (Nat.le_refl _) _ _,(O.set (i:=m) (by omega) _).congr fun q _=>?_⟩;rw[<-Ks,<-an.o];rfl
     case measure=>simp[intOf];omega
    ·have b8:¬(m:Int)<64:=by omega
     have bq:zK wr B 64 (fun j=>z3 (XC (kn l) k j)) 227:=O.congr fun q hq=>if_pos (by omega);have ax:=a2.below ad a8;have aF:a4.grownBy wr (some S):=N.trans (Zg (by rw[al.o];exact ad) _);have aj:Below w.heap.size w wr:=a6.grown aF a6.size (fun k G=>by injection G;omega);have aY:=b5.o.below aj
     go_wp2_with (first
      |(refine qg Zd rfl _ rfl rfl ax ?_)
      |(refine qg jK rfl _ rfl rfl bq ?_))
     refine(z40 _ _ wr aY).mono ?_;rintro e bk ⟨rfl,aI⟩;have bh:=ax.keep aI;have bt:a4.grownBy bk (some S):=aF.trans (Zg aI _);go_wp2_with (refine z8 Zd rfl _ _ rfl rfl rfl bh (fun _ _=>rfl) ?_;intro bz b1 aW bG);go_roundw
     case rel=>exact⟨i+64,k+1,by omega,z0 (by have:=a5.o;omega),by go_num,bt.trans b1,aW⟩
     case measure=>simp[intOf];omega
  ·have bp:¬(i:Int)<(I:Int):=by have:=a5.o;have:=ab.o;omega
   have b7:k=P:=by omega
   have aS:zK wr S 8 (fun j=>wc (Ze (kn l) P j)) 240:=by rw[<-b7];exact a2
   have aj:Below w.heap.size w wr:=a6.grown N a6.size (fun k G=>by injection G;omega);have aN:zK wr w.heap.size 32 (fun _=>z3 0) 38:=ba.o.grown N (fun e=>by have:=Option.some.inj e;omega);clear a2;obtain⟨F,rfl⟩:∃F:World,F=wr:=⟨_,rfl⟩
   go_wp2_with (first
    |(refine qa qo rfl rfl ?_)
    |(refine zb qo rfl rfl ?_)
    |(refine z8 qo rfl _ _ rfl rfl rfl (zK.new F 32 (fun _=>z3 0) 38) (fun _ _=>rfl) ?_;intro aU aB au bj))
   obtain⟨Q,b9⟩:=nm (F.heap.size);have ar:Below F.heap.size F aU:=Ba.grown aB (by simp) (fun k G=>by injection G;omega);have aD:=aN.lt;rw[b9.o]at au a8 ar aD⊢;clear aB bj;go_wp2_with fail;go_loopw [9] (fun J wr=>∃i:Nat,i<=32/\J=.int .i64 i/\Below Q F wr/\zK wr Q 32 (JF (xy l) i) 38) (fun J _=>32 - (intOf J).toNat)
   case atStart=>exact⟨0,by omega,rfl,ar,au.congr fun i _=>by simp[JF]⟩
   case round=>
    clear ar au;obtain⟨j,bF,rfl,ae,a0⟩:=hrel;have bB:=a0.lt;by_cases bg:j<32
    ·have bf:(j:Int)<32:=by omega
     have cs:=(aS.below ae a8).cell (i:=j / 4) (by omega);have kc:=a0.cell (i:=j) (by omega);have bE:=a0.free j;unfold wc at cs;have bD:Int.tdiv (j:Int) 4=((j / 4:Nat):Int):=by rw[Int.tdiv_eq_ediv_of_nonneg (by omega)];omega
     have bO:Int.tmod (j:Int) 4=((j % 4:Nat):Int):=by rw[Int.tmod_eq_emod_of_nonneg (by omega)];omega
     have M:Value.int .u8 (wv (Ze (kn l) P (j / 4)) / 2^(24 - 8*(j % 4)) % 256)=z3 (xy l j):=by
      unfold xy;rw[show(kn l).length / 64=P from by have:=a3.o;have:=ab.o;omega];unfold z3 z2C;rw[vD];unfold wv;simp
     have an:=z0 M;clear M;go_wp2;go_roundw
     case rel=>
      refine⟨j+1,by omega,by go_num,Zx ae (g:=Q) (Nat.le_refl _) _ _,(a0.set (i:=j) (by omega) _).congr fun q _=>?_⟩;rw[an.o,<-Ks]
     case measure=>simp[intOf];omega
    ·have bf:¬(j:Int)<32:=by omega
     have bi:zK wr Q 32 (fun j=>z3 (xy l j)) 38:=a0.congr fun q hq=>if_pos (by omega);have af:=aN.below ae aD;have aH:Below w.heap.size w wr:=aj.trans (ae.mono (by omega))
     go_wp2_with (first
      |(refine qg qo rfl _ rfl rfl bi ?_)
      |(refine z8 qo rfl _ _ rfl rfl rfl af (fun _ _=>rfl) ?_;intro bH bu aT bA))
     refine Bp (qo.result rfl _ _ rfl aT) rfl ⟨rfl,?_⟩;exact zh aH (Nat.le_refl _) bu aH.size
def hl (n:Nat) (f:Nat->UInt8):List UInt8:=(List.range n).map f
theorem qe (n:Nat) (f:Nat->UInt8):(hl n f).length=n:=by simp[hl]
theorem z5A (n:Nat) (f:Nat->UInt8) (j:Nat) (h:j<(hl n f).length):(hl n f)[j]=f j:=by simp[hl]
theorem z2L (n:Nat) (f:Nat->UInt8) {j:Nat} (h:j<n):(hl n f).getD j 0=f j:=by
 rw[List.getD_eq_getElem?_getD,List.getElem?_eq_getElem (by rw[qe];exact h),Option.getD_some,z5A]
theorem XD (n:Nat) (f:Nat->UInt8):hl (n+1) f=hl n f ++ [f n]:=by simp[hl,List.range_succ]
theorem z9x {n:Nat}{f g:Nat->UInt8} (h:∀j,j<n->f j=g j):hl n f=hl n g:=by
 unfold hl;apply List.map_congr_left;intro j F;exact h j (List.mem_range.1 F)
theorem VC {w:World}{g n:Nat}{f:Nat->UInt8}{t:TypeId} (h:zK w g n (fun j=>z3 (f j)) t) (G:n<=maxLen):zP w (.slice (some ⟨g,0,none⟩) n n) (hl n f):=
 ⟨_,n,by rw[qe],by rw[qe];exact Nat.le_refl _,G,fun _=>⟨g,0,rfl,h.lt,fun j F=>by
  rw[qe]at F
  rw[Nat.zero_add,h.cell F,z5A]⟩⟩
def qR (key:List UInt8) (j:Nat):UInt8:=if 64<key.length then (if j<32 then xy key j else 0) else key.getD j 0
def z0c (b:Nat->UInt8) (x:UInt8):List UInt8:=hl 64 fun j=>b j ^^^ x
def zb8 (key F:List UInt8):Nat->UInt8:=xy (z0c (qR key) 92 ++ hl 32 (xy (z0c (qR key) 54 ++ F)))
theorem z5B (x y:UInt8):bits BinOp.xor IntKind.u8 (x.toNat:Int) (y.toNat:Int)=((x ^^^ y).toNat:Int):=by
 have:=x.toNat_lt;have:=y.toNat_lt;rw[u8_xor_nat _ _ (by omega) (by omega),UInt8.toNat_xor]
theorem zdm (x y:UInt8):bits BinOp.or IntKind.u8 (x.toNat:Int) (y.toNat:Int)=((x ||| y).toNat:Int):=by
 have:=x.toNat_lt;have:=y.toNat_lt;rw[u8_or_nat _ _ (by omega) (by omega),UInt8.toNat_or]
theorem z0d (b:Nat->UInt8) (x:UInt8) (z:Int) (a1:z=(x.toNat:Int)) (w:World):
  Calls prog 174 #[.agg (z1 64 fun j=>z3 (b j)),.int .u8 z] w fun e w'=>e=.returned (.agg (z1 64 fun j=>z3 (b j ^^^ x)))/\Below w.heap.size w w':=by
 have aa:=z0 a1;clear a1;have F:zK ((w.alloc (.cells (z1 64 fun j=>z3 (b j)) 227)).alloc (.cells (z1 64 fun _=>z3 0) 227)) w.heap.size 64 (fun j=>z3 (b j)) 227:=(zK.new w _ _ _).alloc _;have I:zK ((w.alloc (.cells (z1 64 fun j=>z3 (b j)) 227)).alloc (.cells (z1 64 fun _=>z3 0) 227)) (w.heap.size+1) 64 (fun _=>z3 0) 227:=by
  have:=zK.new (w.alloc (.cells (z1 64 fun j=>z3 (b j)) 227)) 64 (fun _=>z3 0) 227
  simpa using this
 have N:Below w.heap.size w ((w.alloc (.cells (z1 64 fun j=>z3 (b j)) 227)).alloc (.cells (z1 64 fun _=>z3 0) 227)):=Ba.alloc (by simp) _;have a6:=z0 F;have a9:=z0 I;clear F I;go_enter func174,ntmps174;go_wp2_with (refine zb jK rfl rfl ?_);generalize (w.alloc (.cells (z1 64 fun j=>z3 (b j)) 227)).alloc (.cells (z1 64 fun _=>z3 0) 227)=w0 at *;obtain⟨G,a0⟩:=nm (w.heap.size);have F:=a6.o;have I:=a9.o;rw[a0.o]at F I N⊢;go_loopw [6] (fun K wr=>∃i:Nat,i<=64/\K=.int .i64 (i:Int)/\Below G w wr/\zK wr (G+1) 64 (fun _=>z3 0) 227/\zK wr G 64 (fun j=>z3 (if j<i then b j ^^^ x else b j)) 227) (fun K _=>64 - (intOf K).toNat)
 case atStart=>exact⟨0,Nat.zero_le _,rfl,N,I,F.congr fun j _=>by rw[if_neg (by omega)]⟩
 case round=>
  clear F I N;obtain⟨i,ag,rfl,O,a5,J⟩:=hrel;by_cases a2:i<64
  ·have a7:(i:Int)<64:=by omega
   have M:=J.cell (i:=i) a2;have ae:=J.free i;rw[if_neg (show ¬i<i by omega)]at M;unfold z3 at M;obtain⟨y,a3⟩:=nm (((b i).toNat:Int):Int);obtain⟨r,a4⟩:=nm (((b i ^^^ x).toNat:Int):Int);have hx:=z5B (b i) x;rw[a3.o,<-aa.o,a4.o]at hx;rw[a3.o]at M;go_wp2;go_roundw
   case rel=>
    refine⟨i+1,by omega,by go_num,Zx O (g:=G) (Nat.le_refl _) _ _,a5.apart _ _ (by omega),(J.set (i:=i) a2 _).congr fun j _=>?_⟩;by_cases e:j=i
    ·subst e;rw[if_pos rfl,if_pos (by omega),<-a4.o];rfl
    ·rw[if_neg e];by_cases h:j<i
     ·rw[if_pos h,if_pos (by omega)]
     ·rw[if_neg h,if_neg (by omega)]
   case measure=>simp[intOf];omega
  ·have a7:¬(i:Int)<64:=by omega
   have a8:zK wr G 64 (fun j=>z3 (b j ^^^ x)) 227:=J.congr fun j ah=>by rw[if_pos (by omega)]
   clear J
   go_wp2_with (first
    |(refine qg jK rfl _ rfl rfl a8 ?_)
    |(refine z8 jK rfl _ _ rfl rfl rfl a5 (fun _ _=>rfl) ?_;intro af ab ad ai))
   refine Bp (jK.result rfl _ _ rfl ad) rfl ⟨rfl,?_⟩;rw[a0.o];exact zh O (g:=G+1) (by omega) ab (by have:=O.size;have:=a0.o;omega)
theorem Kt {key:List UInt8} (h:64<key.length) (j:Nat):qR key j=if j<32 then xy key j else 0:=if_pos h
theorem Yf {key:List UInt8} (h:¬64<key.length) (j:Nat):qR key j=key.getD j 0:=if_neg h
theorem z5C {key:List UInt8} (h:¬64<key.length) {w:World}{g:Nat}{t:TypeId} (F:zK w g 64 (fun j=>if 0<=j/\j<0+key.length then z3 (key.getD (j - 0) 0) else z3 0) t):zK w g 64 (fun j=>z3 (qR key j)) t:=F.congr fun j _=>by
 rw[Yf h];by_cases h:j<key.length
 ·rw[if_pos (by omega),Nat.sub_zero]
 ·rw[if_neg (by omega),List.getD_eq_getElem?_getD,List.getElem?_eq_none (by omega)];rfl
theorem Ku {ops:Array Oper}{rest:List Oper}{o:Oper}{a:Act}{w:World}{Q:Exit->Act->World->Prop} (G:o.guard=none) (d s:Operand)
  (F:o.op=.call { callee:=.builtin .copy,args:=#[d,s],argTypes:=#[33,33] })
  {D A:Option Addr} {dLen dCap n c:Nat} (M:a.eval d=.slice D dLen dCap) (I:a.eval s=.slice A n c) (K:Nat.min n dLen=0)
  (h:wpList prog ops Q rest (a.put o.dst (goInt 0)) w):wpList prog ops Q (o :: rest) a w:=by
 have N:=run_copy_none (P:=prog) w 33 33 o.type 5 D A dLen dCap n c zG (by kernel_rfl) K;refine wpList_plain G fun _ J=>?_;unfold Oper.wp;simp[execOp,F,resolve,invoke,builtin,M,I,N,Result.andThen];exact J _ _ h
theorem z2M (v:Value) (key:List UInt8) (w:World) (J:zP w v key) (aF:key.length<=1000000) (aI:yB 1 w):
  Calls prog 173 #[v] w fun e w'=>e=.returned (.agg (z1 64 fun j=>z3 (qR key j)))/\Below w.heap.size w w':=by
 obtain⟨A,c,rfl⟩:=J.shape;have aL:=J.at_.2.1;have ay:=J.at_.2.2.1;unfold maxLen at ay;have ar:zK ((w.alloc (.cells (z1 64 fun _=>z3 0) 227)).alloc (.cells (z1 64 fun _=>z3 0) 227)) w.heap.size 64 (fun _=>z3 0) 227:=(zK.new w _ _ _).alloc _;have ap:zK ((w.alloc (.cells (z1 64 fun _=>z3 0) 227)).alloc (.cells (z1 64 fun _=>z3 0) 227)) (w.heap.size+1) 64 (fun _=>z3 0) 227:=by
  have:=zK.new (w.alloc (.cells (z1 64 fun _=>z3 0) 227)) 64 (fun _=>z3 0) 227
  simpa using this
 have F:Below w.heap.size w ((w.alloc (.cells (z1 64 fun _=>z3 0) 227)).alloc (.cells (z1 64 fun _=>z3 0) 227)):=Ba.alloc (by simp) _;have ai:=z0 (show((w.alloc (.cells (z1 64 fun _=>z3 0) 227)).alloc (.cells (z1 64 fun _=>z3 0) 227)).heap.size=w.heap.size+1+1 by simp);have a5:=z0 ar;have a3:=z0 ap;have aA:=z0 aF;clear ar ap;by_cases M:64<key.length
 ·have hq:(64:Int)<(key.length:Int):=by omega
  go_enter func173,ntmps173;go_wp2_with (refine zb jK rfl rfl ?_);generalize (w.alloc (.cells (z1 64 fun _=>z3 0) 227)).alloc (.cells (z1 64 fun _=>z3 0) 227)=w0 at *;have a0:Below w.heap.size w (w0.alloc (.cells #[.slice A key.length c] 33)):=F.alloc F.size _;have ak:=QF w0 #[.slice A key.length c] 33 0 _ rfl;rw[ai.o]at ak;refine(zcB (.slice A key.length c) key (w.heap.size+1+1) 1 _ (by simp[ai.o]) ak (J.below a0) aA.o (aI.below a0)).mono ?_;rintro e a8 ⟨rfl,a6⟩;have ae:zK a8 w.heap.size 64 (fun _=>z3 0) 227:=zK.keep (a5.o.alloc _) a6;have ah:zK a8 (w.heap.size+1) 64 (fun _=>z3 0) 227:=zK.keep (a3.o.alloc _) a6;have K:=a0.trans (a6.mono a0.size);clear a0 a6 F a5 a3 ak ai
  go_wp2_with (first
   |(refine zb qo rfl rfl ?_)
   |(refine z8 qo rfl _ _ rfl rfl rfl (zK.new a8 32 (fun _=>z3 0) 38) (fun _ _=>rfl) ?_;intro aa a4 aw ax))
  have an:=(ae.alloc (.cells (z1 32 fun _=>z3 0) 38)).grown a4 (fun e=>by have:=Option.some.inj e;have:=ae.lt;omega);have au:=(ah.alloc (.cells (z1 32 fun _=>z3 0) 38)).grown a4 (fun e=>by have:=Option.some.inj e;have:=ah.lt;omega);have af:=(K.alloc K.size (.cells (z1 32 fun _=>z3 0) 38)).grown a4 (by have:=K.size;simp;omega) (fun k aH=>by injection aH;have:=K.size;omega);have ad:=VC aw (by unfold maxLen;omega);obtain⟨H,aE⟩:=nm (a8.heap.size:Nat);rw[aE.o]at ad⊢;clear ae ah K a4 aw ax;go_still_tail 2,(by kernel_rfl)
  change wpList _ _ _ _ _ aa.drew;refine Zf (k:=32) rfl (.tmp 11) (.tmp 12) rfl rfl rfl (w:=aa.drew) ad au.drew (by rw[qe];rfl) (by omega) (by omega) ?_;intro ab I a7 av;have G:zK ab (w.heap.size+1) 64 (fun j=>z3 (qR key j)) 227:=a7.congr fun j aC=>by
   rw[Kt M];by_cases h:j<32
   ·rw[if_pos (by omega),if_pos h,Nat.sub_zero,z2L _ _ h]
   ·rw[if_neg (by omega),if_neg h]
  have al:zK ab w.heap.size 64 (fun _=>z3 0) 227:=zK.grown (w:=aa.drew) an I (fun e=>by have:=Option.some.inj e;omega);have N:Below w.heap.size w ab:=zh (w:=aa.drew) af.drew (g:=w.heap.size+1) (by omega) I af.size;clear a7 I av an au af ad
  go_wp2_with (first
   |(refine qg jK rfl _ rfl rfl G ?_)
   |(refine z8 jK rfl _ _ rfl rfl rfl al (fun _ _=>rfl) ?_;intro aq a1 a2 ao))
  refine Bp (jK.result rfl _ _ rfl a2) rfl ⟨rfl,?_⟩;exact zh N (g:=w.heap.size) (by omega) a1 N.size
 ·have hq:¬(64:Int)<(key.length:Int):=by omega
  by_cases a9:key.length=0
  ·have aj:key=[]:=List.eq_nil_of_length_eq_zero a9;have aB:=z0 aj;have G:zK ((w.alloc (.cells (z1 64 fun _=>z3 0) 227)).alloc (.cells (z1 64 fun _=>z3 0) 227)) (w.heap.size+1) 64 (fun j=>z3 (qR key j)) 227:=a3.o.congr fun j aC=>by
    rw[Yf M,aj];rfl
   have az:=z0 G;have O:Nat.min key.length 64=0:=by rw[a9];rfl
   have am:=z0 O;clear aj G O a9 hq M;have hq:¬(64:Int)<(key.length:Int):=by rw[aB.o];decide
   go_enter func173,ntmps173
   go_wp2_with (first
    |(refine zb jK rfl rfl ?_)
    |(refine Ku rfl (.tmp 15) (.tmp 16) rfl rfl rfl am.o ?_)
    |(refine qg jK rfl _ rfl rfl az.o ?_)
    |(refine z8 jK rfl _ _ rfl rfl rfl a5.o (fun _ _=>rfl) ?_;intro aq a1 a2 ao))
   refine Bp (jK.result rfl _ _ rfl a2) rfl ⟨rfl,?_⟩;exact zh F (g:=w.heap.size) (by omega) a1 F.size
  ·have ag:key.length<=64:=by omega
   have O:key.length=Nat.min key.length 64:=(Nat.min_eq_left ag).symm;have am:=z0 O;have aK:=z0 (show 0<key.length by omega);have aJ:=z0 ag;have aG:=z0 (J.below F);have aD:=z0 M;clear O ag a9 J M;go_enter func173,ntmps173
   go_wp2_with (first
    |(refine zb jK rfl rfl ?_)
    |(refine Zf (k:=key.length) rfl (.tmp 15) (.tmp 16) rfl rfl rfl aG.o a3.o am.o aK.o (by have:=aJ.o;omega) ?_;intro ab I a7 av;have G:=z5C aD.o a7;have al:=a5.o.grown I (fun e=>by have:=Option.some.inj e;omega))
    |(refine qg jK rfl _ rfl rfl G ?_)
    |(refine z8 jK rfl _ _ rfl rfl rfl al (fun _ _=>rfl) ?_;intro aq a1 a2 ao))
   have N:=zh F (g:=w.heap.size+1) (by omega) I F.size;refine Bp (jK.result rfl _ _ rfl a2) rfl ⟨rfl,?_⟩;exact zh N (g:=w.heap.size) (by omega) a1 N.size
theorem kJ (n:Nat) (f:Nat->UInt8):z1 n (fun j=>z3 (f j))=z2 (hl n f):=by
 apply Array.ext';apply List.ext_getElem?;intro i;rw[Z5];unfold z2 z4;by_cases h:i<n
 ·rw[if_pos h];simp[hl,h]
 ·rw[if_neg h,List.getElem?_eq_none];simp[hl];omega
def z0e (f g:Nat->UInt8):Bool:=decide (hl 32 f=hl 32 g)
theorem zce {n:Nat}{f g:Nat->UInt8}:hl n f=hl n g ↔ ∀j,j<n->f j=g j:=by
 constructor
 ·intro h j F;rw[<-z2L n f F,<-z2L n g F,h]
 ·exact z9x
def unl (a b:Nat->UInt8):Nat->UInt8
 |0=>0
 | n+1=>unl a b n ||| (a n ^^^ b n)
theorem z41 (a b:Nat->UInt8):∀n,unl a b n=0 ↔ ∀j,j<n->a j=b j
 |0=>⟨fun _ j F=>absurd F (by omega),fun _=>rfl⟩
 |n+1=>by
  have ih:=z41 a b n;unfold unl;rw[UInt8.or_eq_zero_iff,UInt8.xor_eq_zero_iff,ih];constructor
  ·rintro⟨G,I⟩ j F;by_cases e:j=n
   ·rw[e];exact I
   ·exact G j (by omega)
  ·intro h;exact⟨fun j F=>h j (by omega),h n (by omega)⟩
theorem z42 (f g:Nat->UInt8) (w:World):
  Calls prog 150 #[.agg (z1 32 fun j=>z3 (f j)),.agg (z1 32 fun j=>z3 (g j))] w fun e w'=>e=.returned (.bool (z0e f g))/\Below w.heap.size w w':=by
 have hA0:zK ((w.alloc (.cells (z1 32 fun j=>z3 (f j)) 38)).alloc (.cells (z1 32 fun j=>z3 (g j)) 38)) w.heap.size 32 (fun j=>z3 (f j)) 38:=(zK.new w _ _ _).alloc _;have hR0:zK ((w.alloc (.cells (z1 32 fun j=>z3 (f j)) 38)).alloc (.cells (z1 32 fun j=>z3 (g j)) 38)) (w.heap.size+1) 32 (fun j=>z3 (g j)) 38:=by
  have:=zK.new (w.alloc (.cells (z1 32 fun j=>z3 (f j)) 38)) 32 (fun j=>z3 (g j)) 38
  simpa using this
 have hb0:Below w.heap.size w ((w.alloc (.cells (z1 32 fun j=>z3 (f j)) 38)).alloc (.cells (z1 32 fun j=>z3 (g j)) 38)):=Ba.alloc (by simp) _;have HA0:=z0 hA0;have HR0:=z0 hR0;clear hA0 hR0;go_enter func150,ntmps150;go_wp2_with fail;generalize (w.alloc (.cells (z1 32 fun j=>z3 (f j)) 38)).alloc (.cells (z1 32 fun j=>z3 (g j)) 38)=w0 at *;obtain⟨G,HG⟩:=nm (w.heap.size);have hA0:=HA0.o;have hR0:=HR0.o;rw[HG.o]at hA0 hR0 hb0⊢;have hs0:=hb0.size;clear HA0 HR0;go_loopw [5,7] (fun su si wr=>∃i n:Nat,i<=32/\si=.int .i64 (i:Int)/\su=.int .u8 ((unl f g i).toNat:Int)/\wr=w0.drewN n) (fun _ si _=>32 - (intOf si).toNat)
 case atStart=>exact⟨0,0,Nat.zero_le _,rfl,rfl,rfl⟩
 case round=>
  obtain⟨i,n,hi,rfl,rfl,rfl⟩:=hrel;by_cases hlt:i<32
  ·have hi32:(i:Int)<32:=by omega
   have k1:=hA0.cell (i:=i) hlt;have k2:=hR0.cell (i:=i) hlt;unfold z3 at k1 k2;have hx:=z5B (f i) (g i);have ho:=zdm (unl f g i) (f i ^^^ g i);obtain⟨x,HX⟩:=nm (((f i).toNat:Int):Int);obtain⟨y,HY⟩:=nm (((g i).toNat:Int):Int);obtain⟨z,HZ⟩:=nm (((f i ^^^ g i).toNat:Int):Int);obtain⟨u,HU⟩:=nm (((unl f g i).toNat:Int):Int);obtain⟨v,HV⟩:=nm (((unl f g i ||| (f i ^^^ g i)).toNat:Int):Int);rw[HX.o,HY.o,HZ.o]at hx;rw[HU.o,HZ.o,HV.o]at ho;rw[HX.o]at k1;rw[HY.o]at k2;rw[HU.o];go_wp2_with fail;go_quiet (fail);go_wp2;go_roundw
   case rel=>exact⟨i+1,_,by omega,by go_num,by rw[<-HV.o];rfl,rfl⟩
   case measure=>simp[intOf];omega
  ·have hi32:¬(i:Int)<32:=by omega
   have e32:i=32:=by omega
   have hz:=z41 f g 32;rw[<-e32]at hz;obtain⟨u,HU⟩:=nm (unl f g i);rw[HU.o]at hz⊢;by_cases h0:u=0
   ·have hs:z0e f g=true:=decide_eq_true (zce.2 (by rw[<-e32];exact hz.1 h0));subst h0;clear hz;go_wp2;go_ret;exact⟨rfl,by rw[HG.o];exact zA hb0 n⟩
   ·have hs:z0e f g=false:=decide_eq_false fun e=>h0 (hz.2 (by rw[e32];exact zce.1 e));have hu:(((u.toNat:Int)) == 0)=false:=by
     rw[beq_eq_false_iff_ne];intro e;exact h0 (UInt8.toNat_inj.1 (by simp;omega))
    clear hz h0;go_wp2;go_ret;exact⟨rfl,by rw[HG.o];exact zA hb0 n⟩
def zS (i:Int):Bool:=decide (1<=i/\i<=21)
theorem QI {a b:Bool} (h:a=b):Ending.returned (.bool a)=.returned (.bool b):=by rw[h]
theorem VD {a b:Int} (h:a=b):Ending.returned (.int .i64 a)=.returned (.int .i64 b):=by rw[h]
theorem jr (i:Int) (w:World):Calls prog 25 #[.int .i64 i] w fun e w'=>e=.returned (.bool (zS i))/\w=w':=by
 by_cases F:1<=i
 ·go_enter func25,ntmps25;go_wp2;go_ret;exact⟨QI (by unfold zS;rw[Bool.eq_iff_iff];simp;omega),rfl⟩
 ·go_enter func25,ntmps25;go_wp2;go_ret;exact⟨QI (by unfold zS;rw[eq_comm,decide_eq_false_iff_not];omega),rfl⟩
theorem JV (i:Int) (w:World) (I:(Lit.int .i64 i).wf=true):Calls prog 71 #[.int .i64 i] w fun e w'=>e=.returned (.int .i64 (qC i:Int))/\w=w':=by
 by_cases h:1<=i/\i<=21
 ·have G:zS i=true:=by unfold zS;rw[decide_eq_true h]
  obtain⟨n,rfl⟩:∃n:Nat,i=(n:Int):=⟨i.toNat,by omega⟩
  obtain⟨K,M⟩:=h;have C:=jr (n:Int) w;rw[G]at C;have F:=z0 C;clear C I G;by_cases he:n % 2=0
  ·have J:(n:Int) % 2=0:=by omega
   go_enter func71,ntmps71;go_wp2_with fail;refine F.o.mono ?_;rintro e w' ⟨rfl,rfl⟩;go_wp2;go_ret;refine⟨VD ?_,rfl⟩;unfold qC;rw[if_neg (by omega)];rfl
  ·have J:¬(n:Int) % 2=0:=by omega
   go_enter func71,ntmps71;go_wp2_with fail;refine F.o.mono ?_;rintro e w' ⟨rfl,rfl⟩;go_wp2;go_ret;refine⟨VD ?_,rfl⟩;unfold qC;rw[if_pos (by omega)];omega
 ·have G:zS i=false:=by unfold zS;rw[decide_eq_false h]
  have C:=jr i w;rw[G]at C;have F:=z0 C;clear C;go_enter func71,ntmps71;go_wp2_with fail;refine F.o.mono ?_;rintro e w' ⟨rfl,rfl⟩;go_wp2;go_ret;refine⟨VD ?_,rfl⟩;unfold qC;rw[if_neg (by omega)];rfl
def z71 (i:Int):List UInt8:=[116,105,116,104,105,110,103,32,107,101,121,32] ++ [UInt8.ofNat i.toNat]
def z43 (i:Int):Nat->UInt8:=if zS i=true then xy (z71 i) else fun _=>0
theorem z72 {i:Int} (h:zS i=false):z43 i=fun _=>0:=if_neg (by rw[h];decide)
theorem z44 {i:Int} (h:zS i=true):z43 i=xy (z71 i):=if_pos h
def JW:List UInt8:=[116,105,116,104,105,110,103,32,107,101,121,32]
theorem z47 {i:Int} (h:zS i=true):∃n:Nat,i=(n:Int)/\1<=n/\n<=21:=by
 unfold zS at h;have:=of_decide_eq_true h;exact⟨i.toNat,by omega,by omega,by omega⟩
theorem KZ {n:Nat} (h:n<=21):(n:Int)=((UInt8.ofNat n).toNat:Int):=by
 rw[UInt8.toNat_ofNat'];omega
def z2N (w:World) (n:Nat):World:=((w.alloc (.cells #[.int .u8 116,.int .u8 105,.int .u8 116,.int .u8 104,.int .u8 105,.int .u8 110,.int .u8 103,.int .u8 32,.int .u8 107,.int .u8 101,.int .u8 121,.int .u8 32] 5 (12,13))).alloc (.cells #[.int .u8 (n:Int)] 5)).alloc (.cells #[.slice (some ⟨w.heap.size,0,none⟩) 12 12,.slice (some ⟨w.heap.size+1,0,none⟩) 1 1] 33)
theorem z7T (w:World) (n:Nat) (F:n<=21):Below w.heap.size w (z2N w n)/\w.heap.size+1+1<(z2N w n).heap.size/\zP (z2N w n) (.slice (some ⟨w.heap.size,0,none⟩) 12 12) JW/\zP (z2N w n) (.slice (some ⟨w.heap.size+1,0,none⟩) 1 1) [UInt8.ofNat n]
  /\ (z2N w n).cell? ⟨w.heap.size+1+1,0,none⟩=some (.slice (some ⟨w.heap.size,0,none⟩) 12 12)/\(z2N w n).cell? ⟨w.heap.size+1+1,1,none⟩=some (.slice (some ⟨w.heap.size+1,0,none⟩) 1 1):=by
 unfold z2N;refine⟨?_,by simp,?_,?_,?_,?_⟩
 ·exact(Ba.alloc (by simp) _).alloc (by simp;omega) _
 ·refine Jm (l:=JW) (m:=(12,13)) (T:=5) ?_ (by decide);rw[Below.heap_alloc _ _ _ (by simp;omega),Zj];rfl
 ·refine Jm (l:=[UInt8.ofNat n]) (m:=(0,0)) (T:=5) ?_ (by show 1<=maxLen;unfold maxLen;omega);rw[Below.heap_alloc _ _ _ (by simp),kT];rw[KZ F];rfl
 all_goals
  rw[cell_of_row _ _ _ _ _ (0,0) (show(_:World).heap[w.heap.size+1+1]?=some (.cells #[.slice (some ⟨w.heap.size,0,none⟩) 12 12,.slice (some ⟨w.heap.size+1,0,none⟩) 1 1] 33) from by simpa using Xh ((w.alloc (.cells #[.int .u8 116,.int .u8 105,.int .u8 116,.int .u8 104,.int .u8 105,.int .u8 110,.int .u8 103,.int .u8 32,.int .u8 107,.int .u8 101,.int .u8 121,.int .u8 32] 5 (12,13))).alloc (.cells #[.int .u8 (n:Int)] 5)) (.cells #[.slice (some ⟨w.heap.size,0,none⟩) 12 12,.slice (some ⟨w.heap.size+1,0,none⟩) 1 1] 33))];rfl
theorem zb9 (i:Int) (w:World) (a9:yB 1 w):Calls prog 127 #[.int .i64 i] w fun e w'=>e=.returned (.agg (z1 32 fun j=>z3 (z43 i j)))/\Below w.heap.size w w':=by
 have I:Below w.heap.size w (w.alloc (.cells (z1 32 fun _=>z3 0) 38)):=Ba;have a0:zK (w.alloc (.cells (z1 32 fun _=>z3 0) 38)) w.heap.size 32 (fun _=>z3 0) 38:=zK.new w _ _ _;cases F:zS i
 ·rw[z72 F];have C:=fun w=>jr i w;rw[F]at C;have J:=z0 C;clear C;go_enter func127,ntmps127;go_wp2_with (refine zb qo rfl rfl ?_);refine(J.o _).mono ?_;rintro e w' ⟨rfl,rfl⟩
  go_wp2_with (first
   |(refine qa qo rfl rfl ?_)
   |(refine z8 qo rfl _ _ rfl rfl rfl a0 (fun _ _=>rfl) ?_;intro a7 M N ab))
  refine Bp (qo.result rfl _ _ rfl N) rfl ⟨rfl,?_⟩;exact zh I (g:=w.heap.size) (by omega) M I.size
 ·rw[z44 F];have C:=fun w=>jr i w;rw[F]at C;have J:=z0 C;obtain⟨n,rfl,ad,aa⟩:=z47 F;clear C F;have kc:=zc9;go_enter func127,ntmps127;go_wp2_with (refine zb qo rfl rfl ?_);refine(J.o _).mono ?_;rintro e w' ⟨rfl,rfl⟩;have a2:=z0 I;clear I;generalize w.alloc (.cells (z1 32 fun _=>z3 0) 38)=w0 at *;go_wp2_with fail;clear kc;obtain⟨K,a5,a4,a1,c0,c1⟩:=z7T w0 n aa;change Calls _ _ _ (z2N w0 n) _;generalize z2N w0 n=a6 at *;have G:=a2.o.trans (K.mono a2.o.size);refine(z5z _ _ JW [UInt8.ofNat n] (w0.heap.size+1+1) 2 a6 a5 c0 c1 a4 a1 rfl (by show 13<=1000000;omega) (a9.below G)).mono ?_;rintro e ae ⟨rfl,O⟩;have a8:=(a0.keep K).keep O;have a3:=G.trans (O.mono G.size);clear a0 K a5 a4 a1 c0 c1 G O;go_wp2_with (refine z8 qo rfl _ _ rfl rfl rfl a8 (fun _ _=>rfl) ?_;intro a7 M N ab);refine Bp (qo.result rfl _ _ rfl N) rfl ⟨rfl,?_⟩;exact zh a3 (g:=w.heap.size) (by omega) M a3.size
theorem z1V {w:World}{a:Addr}{n c:Nat}{l:List UInt8} (h:zP w (.slice (some a) n c) l):∀j u,(z4 l)[j]?=some u->w.cell? (a.add j)=some u:=fun j u G=>by
 obtain⟨F,rfl⟩:=xG l j u G;obtain⟨b,J,e,_,I⟩:=h.at_.2.2.2 (by omega);injection e with e;subst e;rw[y9];exact I j F
def X4 (w:World) (n:Nat):World:=(w.alloc (.cells #[.int .u8 116,.int .u8 105,.int .u8 116,.int .u8 104,.int .u8 105,.int .u8 110,.int .u8 103,.int .u8 32,.int .u8 107,.int .u8 101,.int .u8 121,.int .u8 32] 5 (12,13))).alloc (.cells #[.int .u8 (n:Int)] 5)
theorem z5D (w:World) (n:Nat) (G:n<=21):Below w.heap.size w (X4 w n)/\w.heap.size+1<(X4 w n).heap.size/\(∀b,some (⟨w.heap.size,0,none⟩:Addr)=some b->∀j u,(z4 JW)[j]?=some u->(X4 w n).cell? (b.add j)=some u)/\∀j u,(z4 [UInt8.ofNat n])[j]?=some u->(X4 w n).cell? ((⟨w.heap.size+1,0,none⟩:Addr).add j)=some u:=by
 unfold X4;refine⟨?_,by simp,?_,?_⟩
 ·exact Ba.alloc (by simp) _
 ·intro b F;injection F with F;subst F;refine z1V (n:=12) (c:=12) (Jm (l:=JW) (m:=(12,13)) (T:=5) ?_ (by decide));rw[Zj];rfl
 ·refine z1V (n:=1) (c:=1) (Jm (l:=[UInt8.ofNat n]) (m:=(0,0)) (T:=5) ?_ (by show 1<=maxLen;unfold maxLen;omega));rw[kT];rw[KZ G];rfl
theorem z48 (i:Int) (w:World) (ap:yB 0 w):Calls prog 140 #[.int .i64 i] w fun e w'=>e=.returned (.agg (z1 32 fun j=>z3 (z43 i j)))/\Below w.heap.size w w':=by
 have G:Below w.heap.size w (w.alloc (.cells (z1 32 fun _=>z3 0) 38)):=Ba;have N:zK (w.alloc (.cells (z1 32 fun _=>z3 0) 38)) w.heap.size 32 (fun _=>z3 0) 38:=zK.new w _ _ _;cases F:zS i
 ·rw[z72 F];have a6:¬(1<=i/\i<=21):=by
   unfold zS at F;exact of_decide_eq_false F
  clear F;by_cases ad:i<1
  ·clear a6;go_enter func140,ntmps140
   go_wp2_with (first
    |(refine zb qo rfl rfl ?_)
    |(refine qa qo rfl rfl ?_)
    |(refine z8 qo rfl _ _ rfl rfl rfl N (fun _ _=>rfl) ?_;intro a7 I J ak))
   refine Bp (qo.result rfl _ _ rfl J) rfl ⟨rfl,?_⟩;exact zh G (g:=w.heap.size) (by omega) I G.size
  ·have a4:21<i:=by omega
   clear a6;go_enter func140,ntmps140
   go_wp2_with (first
    |(refine zb qo rfl rfl ?_)
    |(refine qa qo rfl rfl ?_)
    |(refine z8 qo rfl _ _ rfl rfl rfl N (fun _ _=>rfl) ?_;intro a7 I J ak))
   refine Bp (qo.result rfl _ _ rfl J) rfl ⟨rfl,?_⟩;exact zh G (g:=w.heap.size) (by omega) I G.size
 ·rw[z44 F];obtain⟨n,rfl,ad,a4⟩:=z47 F;have az:¬(n:Int)<1:=by omega
  have aw:¬21<(n:Int):=by omega
  clear F;have O:=z0 G;have ar:=z0 N;clear G N;generalize af:w.alloc (.cells (z1 32 fun _=>z3 0) 38)=w0 at *;obtain⟨aj,M,co,ah⟩:=z5D w0 n a4;have ax:Hd (X4 w0 n=(w0.alloc (.cells #[.int .u8 116,.int .u8 105,.int .u8 116,.int .u8 104,.int .u8 105,.int .u8 110,.int .u8 103,.int .u8 32,.int .u8 107,.int .u8 101,.int .u8 121,.int .u8 32] 5 (12,13))).alloc (.cells #[.int .u8 (n:Int)] 5)):=z0 rfl;have a1:=z0 aj;have au:=z0 co;have am:=z0 ah;clear aj M co ah;have aq:=z0 af;clear af;obtain⟨ao,ag,a8,M,a5⟩:=info_parts vV;have kc:=zc9;go_enter func140,ntmps140
  go_wp2_with (first
   |(refine zb qo rfl rfl ?_;rw[aq.o])
   |(at_builtin;refine wpList_append_grows (X4 w0 n) rfl (.tmp 11) (.tmp 14) 33 rfl 5 ao (.int .u8 0) 1 1 zG ag a8 M a5 rfl (by decide) (some ⟨w0.heap.size,0,none⟩) 12 12 (z4 JW) rfl (by simp) rfl au.o ⟨w0.heap.size+1,0,none⟩ 1 1 (z4 [UInt8.ofNat n]) rfl rfl am.o (yb _) (by decide) (by unfold maxLen;omega) (by decide) ?_;intro ai a2 a9 a0))
  have al:ql (X4 w0 n).heap.size a2 ai (JW ++ [UInt8.ofNat n]):=by
   unfold ql;rw[jv];exact a9
  have K:Below w.heap.size w a2:=(O.o.trans (a1.o.mono O.o.size)).grown a0 (by have ad:=O.o.size;have a4:=a1.o.size;omega) (fun k av=>by cases av);have ab:=(ar.o.keep a1.o).grown a0 (fun e=>by cases e);have aa:=ap.below K;clear a9 a0 kc ag a8 M a5;refine(QH ai _ a2 al.byt (by show 13<=1000000;omega) aa).mono ?_;rintro e ay ⟨rfl,a3⟩;have an:=ab.keep a3;have ae:=K.trans (a3.mono K.size);clear al K ab aa a3;go_wp2_with (refine z8 qo rfl _ _ rfl rfl rfl an (fun _ _=>rfl) ?_;intro a7 I J ak);refine Bp (qo.result rfl _ _ rfl J) rfl ⟨rfl,?_⟩;exact zh ae (g:=w.heap.size) (by omega) I ae.size
theorem xY (n:Int) (w:World):Calls prog 5 #[.int .i64 n] w fun e w'=>e=.returned (.int .i64 (qC n:Int))/\w=w':=by
 go_enter func5,ntmps5;go_wp2_with fail;go_loopw [3] (fun G wr=>∃f:Nat,f<=11/\G=.int .i64 (f:Int)/\Hd (w=wr)/\Hd (∀k:Nat,k<f->n≠2*(k:Int)+1)) (fun G _=>11 - (intOf G).toNat)
 case atStart=>exact⟨0,Nat.zero_le _,rfl,z0 rfl,z0 fun k J=>absurd J (by omega)⟩
 case round=>
  obtain⟨f,O,rfl,F,K⟩:=hrel;by_cases N:f<=10
  ·have M:(f:Int)<=10:=by omega
   by_cases he:n=2*(f:Int)+1
   ·have I:=z0 he;have hq:(n == 2*(f:Int)+1)=true:=by rw[he];exact beq_self_eq_true _
    clear he;go_wp2;go_ret;refine⟨VD ?_,F.o⟩;have:=I.o;unfold qC;rw[if_pos (by omega)];omega
   ·have I:=z0 he;have hq:(n == 2*(f:Int)+1)=false:=by rw[beq_eq_false_iff_ne];exact he
    clear he;go_wp2;go_roundw
    case rel=>
     refine⟨f+1,by omega,by go_num,F,z0 fun k J=>?_⟩;by_cases h:k<f
     ·exact K.o k h
     ·obtain rfl:k=f:=by omega
      exact I.o
    case measure=>simp[intOf];omega
  ·have M:¬(f:Int)<=10:=by omega
   go_wp2;go_ret;refine⟨VD ?_,F.o⟩;unfold qC;rw[if_neg fun h=>K.o (n / 2).toNat (by omega) (by omega)];rfl
section
attribute [local go_sem ↓] jb
def z1h (t:YJ):Bool:=decide (t.key.length<=100) && decide (t.val.length<=400)
theorem z5E (t:YJ) (w:World) (G:t.key.length<=maxLen) (F:t.val.length<=maxLen):
  Calls prog 88 #[Yb t] w fun e w'=>e=.returned (.bool (z1h t))/\Below w.heap.size w w':=by
 obtain⟨fr,no,ki,a1,am,key,val⟩:=t;simp only at G F;unfold maxLen at G F;have K:=Qg key;have N:=Qg val;unfold Yb;simp only;obtain⟨s,O⟩:=nm (sb key);obtain⟨u,a0⟩:=nm (sb val);obtain⟨n,M⟩:=nm (key.length:Nat);obtain⟨m,J⟩:=nm (val.length:Nat);rw[O.o]at K⊢;rw[a0.o]at N⊢;rw[M.o]at K G;rw[J.o]at N F;obtain⟨q,I⟩:=nm (z1h ⟨fr,no,ki,a1,am,key,val⟩);rw[I.o];go_enter func88,ntmps88;go_wp2_with fail;all_goals
  go_ret;refine⟨?_,Ba⟩;refine congrArg (fun b=>Ending.returned (Value.bool b)) ?_;rw[<-I.o];unfold z1h;simp only[M.o,J.o]
 all_goals grind
end
end Go.Proofs.YtjlinimnnbfmaaaGreatDoor
