/-
  Els EltIc ElsArg: what each of them says stands at its head.
-/
import Derived.IntWalk
import Derived.Test.YtjlinimnnbfmaaaGreatDoorPlBs2
import Derived.BigRegion
import Derived.StillTailTactics
import Derived.LaidMore
import Derived.Lib.LaidTab
import Derived.MakeChecks
import Derived.Stop.Joined
import Derived.Stop.LaidErr
set_option maxRecDepth 20000
set_option maxHeartbeats 6400000
namespace Go.Proofs.YtjlinimnnbfmaaaGreatDoor
open Go.RowKit Go.Proofs.Tryz
theorem zaV (n:Nat) (G:1<=n) (F:n<=31):bits BinOp.and IntKind.u64 (IntKind.u64.wrap (-(n:Int))) 31=((32 - n:Nat):Int):=by
 have e:IntKind.u64.wrap (-(n:Int))=((18446744073709551616 - n:Nat):Int):=by
  simp[IntKind.wrap,IntKind.signed,IntKind.bits];omega
 rw[e,show(31:Int)=((31:Nat):Int) from rfl,u64_and_nat _ _ (by omega) (by omega),nat_mask5]
 congr 1
 omega
theorem Yd {a b:Int} (h:a=b):Ending.returned (.int .u32 a)=Ending.returned (.int .u32 b):=by rw[h]
theorem Qv (x y:UInt32):bits BinOp.and IntKind.u32 (wv x) (wv y)=wv (x &&& y):=by
 have:=x.toNat_lt;have:=y.toNat_lt;unfold wv;rw[u32_and_nat _ _ (by omega) (by omega),UInt32.toNat_and]
theorem z1S (x y:UInt32):bits BinOp.or IntKind.u32 (wv x) (wv y)=wv (x ||| y):=by
 have:=x.toNat_lt;have:=y.toNat_lt;unfold wv;rw[u32_or_nat _ _ (by omega) (by omega),UInt32.toNat_or]
theorem vB (x y:UInt32):bits BinOp.xor IntKind.u32 (wv x) (wv y)=wv (x ^^^ y):=by
 have:=x.toNat_lt;have:=y.toNat_lt;unfold wv;rw[u32_xor_nat _ _ (by omega) (by omega),UInt32.toNat_xor]
theorem xM (x y:UInt32):(wv x+wv y) % 4294967296=wv (x+y):=by
 unfold wv;rw[UInt32.toNat_add];omega
theorem zcy (x:UInt32):4294967295 - wv x=wv (~~~x):=by
 have:=x.toNat_lt;have e:UInt32.size=4294967296:=rfl;unfold wv;rw[UInt32.toNat_not,e];omega
theorem zcz (x:UInt32):bits BinOp.xor IntKind.u32 IntKind.u32.max (wv x)=wv (~~~x):=by
 have e:IntKind.u32.max=wv 4294967295:=rfl;rw[e,vB]
 congr 1
theorem KV (n:Nat) (h:n<4294967296):wv (UInt32.ofNat n)=(n:Int):=by
 unfold wv;rw[UInt32.toNat_ofNat',Nat.mod_eq_of_lt h]
theorem zcb (x:UInt32) (n:Nat):wv x / 2^n=wv (sr x n):=by
 have:=x.toNat_lt;have h:=Nat.div_le_self x.toNat (2^n);unfold sr;rw[KV _ (by omega)];unfold wv;simp
theorem zcc (x:UInt32) (n:Nat) (I:1<=n) (G:n<=31):x.toNat / 2^n+x.toNat % 2^n*2^(32 - n)<4294967296/\x.toNat / 2^n<2^(32 - n):=by
 have hx:=x.toNat_lt;have e:(2:Nat)^n*2^(32 - n)=4294967296:=by rw[<-Nat.pow_add,show n+(32 - n)=32 from by omega]
 have hq:x.toNat / 2^n<2^(32 - n):=(Nat.div_lt_iff_lt_mul (Nat.pow_pos (by omega))).2 (by rw[Nat.mul_comm,e];omega);have F:=Nat.mod_lt x.toNat (Nat.pow_pos (n:=n) (show 0<2 by omega));refine⟨?_,hq⟩;generalize x.toNat / 2^n=q at *;generalize x.toNat % 2^n=r at *;generalize (2:Nat)^n=A at *;generalize (2:Nat)^(32 - n)=B at *;have:(r+1)*B<=A*B:=Nat.mul_le_mul_right _ F;rw[Nat.add_mul]at this;omega
theorem zcA (x:UInt32) (n:Nat) (I:1<=n) (G:n<=31):bits BinOp.or IntKind.u32 (wv x*2^(32 - n) % 4294967296) (wv x / 2^(32 - (32 - n)))=wv (rr x n):=by
 obtain⟨K,hq⟩:=zcc x n I G;unfold rr;rw[KV _ K,show 32 - (32 - n)=n from by omega];unfold wv;have e:(2:Nat)^n*2^(32 - n)=4294967296:=by rw[<-Nat.pow_add,show n+(32 - n)=32 from by omega]
 have F:x.toNat*2^(32 - n) % 4294967296=x.toNat % 2^n*2^(32 - n):=by
  rw[<-e,Nat.mul_mod_mul_right]
 have M:(x.toNat:Int)*2^(32 - n) % 4294967296=((x.toNat % 2^n*2^(32 - n):Nat):Int):=by
  rw[<-F];simp
 have J:(x.toNat:Int) / 2^n=((x.toNat / 2^n:Nat):Int):=by simp
 rw[M,J,u32_or_nat _ _ (by omega) (by omega),nat_join (32 - n) _ _ (Nat.mul_mod_left _ _) hq,Nat.add_comm]
theorem z9g (x:UInt32) (n:Nat) (G:1<=n) (F:n<=31) (w:World):Calls prog 236 #[wc x,.int .i64 (-(n:Int))] w fun e w'=>e=.returned (wc (rr x n))/\w=w':=by
 have I:=zaV n G F;obtain⟨b0,b1⟩:=XW x;unfold wc;go_enter func236,ntmps236;go_wp2;go_ret;exact⟨Yd (zcA x n G F),rfl⟩
theorem vg (x:UInt32) (n:Nat) (G:1<=n) (F:n<=31) (w:World):Calls prog 235 #[wc x,.int .i64 (n:Int)] w fun e w'=>e=.returned (wc (rr x n))/\w=w':=by
 have C:=z9g x n G F w;unfold wc at C⊢;go_enter func235,ntmps235;go_wp2_with fail;refine C.mono ?_;rintro e w' ⟨rfl,rfl⟩;go_wp2;go_ret;exact⟨rfl,rfl⟩
theorem zaW (x:UInt32) (w:World):Calls prog 234 #[wc x] w fun e w'=>e=.returned (wc (sm0 x))/\w=w':=by
 have F:=vg x 7 (by omega) (by omega) w;have G:=vg x 18 (by omega) (by omega) w;obtain⟨b0,b1⟩:=XW x;unfold wc at F G⊢;go_enter func234,ntmps234;go_wp2_with fail;refine F.mono ?_;rintro e w' ⟨rfl,rfl⟩;go_wp2_with fail;refine G.mono ?_;rintro e w' ⟨rfl,rfl⟩;go_wp2;go_ret;refine⟨Yd ?_,rfl⟩;rw[vB,show wv x / 8=wv (sr x 3) from zcb x 3,vB];rfl
theorem zaX (x:UInt32) (w:World):Calls prog 233 #[wc x] w fun e w'=>e=.returned (wc (sm1 x))/\w=w':=by
 have F:=vg x 17 (by omega) (by omega) w;have G:=vg x 19 (by omega) (by omega) w;obtain⟨b0,b1⟩:=XW x;unfold wc at F G⊢;go_enter func233,ntmps233;go_wp2_with fail;refine F.mono ?_;rintro e w' ⟨rfl,rfl⟩;go_wp2_with fail;refine G.mono ?_;rintro e w' ⟨rfl,rfl⟩;go_wp2;go_ret;refine⟨Yd ?_,rfl⟩;rw[vB,show wv x / 1024=wv (sr x 10) from zcb x 10,vB];rfl
theorem zaY (x:UInt32) (w:World):Calls prog 228 #[wc x] w fun e w'=>e=.returned (wc (bg0 x))/\w=w':=by
 have F:=vg x 2 (by omega) (by omega) w;have G:=vg x 13 (by omega) (by omega) w;have I:=vg x 22 (by omega) (by omega) w;unfold wc at F G I⊢;go_enter func228,ntmps228;go_wp2_with fail;refine F.mono ?_;rintro e w' ⟨rfl,rfl⟩;go_wp2_with fail;refine G.mono ?_;rintro e w' ⟨rfl,rfl⟩;go_wp2_with fail;refine I.mono ?_;rintro e w' ⟨rfl,rfl⟩;go_wp2;go_ret;refine⟨Yd ?_,rfl⟩;rw[vB,vB];rfl
theorem zaZ (x:UInt32) (w:World):Calls prog 226 #[wc x] w fun e w'=>e=.returned (wc (bg1 x))/\w=w':=by
 have F:=vg x 6 (by omega) (by omega) w;have G:=vg x 11 (by omega) (by omega) w;have I:=vg x 25 (by omega) (by omega) w;unfold wc at F G I⊢;go_enter func226,ntmps226;go_wp2_with fail;refine F.mono ?_;rintro e w' ⟨rfl,rfl⟩;go_wp2_with fail;refine G.mono ?_;rintro e w' ⟨rfl,rfl⟩;go_wp2_with fail;refine I.mono ?_;rintro e w' ⟨rfl,rfl⟩;go_wp2;go_ret;refine⟨Yd ?_,rfl⟩;rw[vB,vB];rfl
theorem zb0 (x y z:UInt32) (w:World):Calls prog 227 #[wc x,wc y,wc z] w fun e w'=>e=.returned (wc (chc x y z))/\w=w':=by
 obtain⟨b0,b1⟩:=XW x;unfold wc;go_enter func227,ntmps227;go_wp2;go_ret;refine⟨Yd ?_,rfl⟩;rw[zcz,Qv,Qv,z1S];rfl
theorem zb1 (x y z:UInt32) (w:World):Calls prog 229 #[wc x,wc y,wc z] w fun e w'=>e=.returned (wc (maj x y z))/\w=w':=by
 unfold wc;go_enter func229,ntmps229;go_wp2;go_ret;refine⟨Yd ?_,rfl⟩;rw[Qv,Qv,Qv,z1S,z1S];rfl
def part (W:Nat->UInt32) (i j:Nat):Value:=if j<i then wc (W j) else wc 0
theorem z08 (W:Nat->UInt32) (i j:Nat):(if j=i then wc (W i) else part W i j)=part W (i+1) j:=by
 unfold part;by_cases h:j=i
 ·subst h;rw[if_pos rfl,if_pos (by omega)]
 ·rw[if_neg h];by_cases F:j<i
  ·rw[if_pos F,if_pos (by omega)]
  ·rw[if_neg F,if_neg (by omega)]
theorem ZK (n:Nat) (h:n<4294967296):IntKind.u32.wrap (n:Int)=(n:Int):=by
 rw[IntKind.wrap_u32'];omega
theorem zb2 (a b c d:UInt8):bits BinOp.or IntKind.u32 (bits BinOp.or IntKind.u32 (bits BinOp.or IntKind.u32 (IntKind.u32.wrap (IntKind.u32.wrap (a.toNat:Int)*16777216)) (IntKind.u32.wrap (IntKind.u32.wrap (b.toNat:Int)*65536))) (IntKind.u32.wrap (IntKind.u32.wrap (c.toNat:Int)*256))) (IntKind.u32.wrap (d.toNat:Int))=wv (z99 a b c d):=by
 have ha:=a.toNat_lt;have J:=b.toNat_lt;have M:=c.toNat_lt;have K:=d.toNat_lt;unfold z99;generalize a.toNat=A at *;generalize b.toNat=B at *;generalize c.toNat=C at *;generalize d.toNat=D at *;have F:IntKind.u32.wrap (IntKind.u32.wrap (A:Int)*16777216)=((A*16777216:Nat):Int):=by rw[ZK A (by omega),show(A:Int)*16777216=((A*16777216:Nat):Int) by omega,ZK _ (by omega)]
 have I:IntKind.u32.wrap (IntKind.u32.wrap (B:Int)*65536)=((B*65536:Nat):Int):=by rw[ZK B (by omega),show(B:Int)*65536=((B*65536:Nat):Int) by omega,ZK _ (by omega)]
 have G:IntKind.u32.wrap (IntKind.u32.wrap (C:Int)*256)=((C*256:Nat):Int):=by rw[ZK C (by omega),show(C:Int)*256=((C*256:Nat):Int) by omega,ZK _ (by omega)]
 rw[F,I,G,ZK D (by omega),KV _ (by omega)];rw[u32_or_nat _ _ (by omega) (by omega),nat_join 24 _ _ (by omega) (by omega),u32_or_nat _ _ (by omega) (by omega),nat_join 16 _ _ (by omega) (by omega),u32_or_nat _ _ (by omega) (by omega),nat_join 8 _ _ (by omega) (by omega)]
theorem XA (a b c d:UInt32):(wv a+wv b+wv c+wv d) % 4294967296=wv (a+b+c+d):=by
 rw[<-xM (a+b+c) d,<-xM (a+b) c,<-xM a b];omega
theorem z7G (x:UInt32) (w:World):Calls prog 233 #[.int .u32 (wv x)] w fun e w'=>e=.returned (.int .u32 (wv (sm1 x)))/\w'=w:=(zaX x w).mono fun _ _ ⟨h,F⟩=>⟨h,F.symm⟩
theorem z7H (x:UInt32) (w:World):Calls prog 234 #[.int .u32 (wv x)] w fun e w'=>e=.returned (.int .u32 (wv (sm0 x)))/\w'=w:=(zaW x w).mono fun _ _ ⟨h,F⟩=>⟨h,F.symm⟩
theorem z7I (b:Nat->UInt8) (g:Nat) (t:TypeId) (w:World) (hg:zK w g 64 (fun j=>z3 (b j)) t):
  Calls prog 225 #[.pointer (some ⟨g,0,none⟩)] w fun e w'=>e=.returned (.agg (z1 64 fun j=>wc (wd b j)))/\Below w.heap.size w w':=by
 have aO:=hg.lt;go_enter func225,ntmps225;go_wp2_with (refine zb z3K rfl rfl ?_);have ax:zK ((w.alloc (.cells (z1 64 fun _=>wc 0) 262)).alloc (.cells (z1 64 fun _=>wc 0) 262)) w.heap.size 64 (fun _=>wc 0) 262:=(zK.new w 64 (fun _=>wc 0) 262).alloc _;have av:zK ((w.alloc (.cells (z1 64 fun _=>wc 0) 262)).alloc (.cells (z1 64 fun _=>wc 0) 262)) (w.heap.size+1) 64 (fun _=>wc 0) 262:=heap_alloc2_new w _ _;have aC:Below w.heap.size w ((w.alloc (.cells (z1 64 fun _=>wc 0) 262)).alloc (.cells (z1 64 fun _=>wc 0) 262)):=Ba.alloc (by simp) _;generalize ((w.alloc (.cells (z1 64 fun _=>wc 0) 262)).alloc (.cells (z1 64 fun _=>wc 0) 262))=w0 at *;go_wp2;go_loopw [6] (fun O wr=>∃i:Nat,i<=16/\O=.int .i64 i/\Below w.heap.size w wr/\zK wr w.heap.size 64 (fun _=>wc 0) 262/\zK wr (w.heap.size+1) 64 (part (wd b) i) 262) (fun O _=>16 - (intOf O).toNat)
 case atStart=>exact⟨0,by omega,rfl,aC,ax,av.congr fun i _=>by simp[part]⟩
 case round=>
  obtain⟨i,au,rfl,N,a0,G⟩:=hrel;by_cases a8:i<16
  ·have a1:=hg.keep N;obtain⟨F,a9⟩:=nm (4*i:Nat);have aF:F+3<64:=by have:=a9.o;omega
   have c0:=a1.cell (i:=F) (by omega);have c1:=a1.cell (i:=F+1) (by omega);have a6:=a1.cell (i:=F+2) (by omega);have ak:=a1.cell (i:=F+3) (by omega);have ar:IntKind.i64.wrap (4*(i:Int))=(F:Int):=by rw[IntWalk.i64_in _ (by omega)];have:=a9.o;omega
   have aw:IntKind.i64.wrap ((F:Int)+1)=(F:Int)+1:=IntWalk.i64_in _ (by omega);have a7:IntKind.i64.wrap ((F:Int)+2)=(F:Int)+2:=IntWalk.i64_in _ (by omega);have am:IntKind.i64.wrap ((F:Int)+3)=(F:Int)+3:=IntWalk.i64_in _ (by omega);have r1:((F:Int)+1).toNat=F+1:=by omega
   have r2:((F:Int)+2).toNat=F+2:=by omega
   have r3:((F:Int)+3).toNat=F+3:=by omega
   have s0:(F:Int)<64:=by omega
   have s1:(F:Int)+1<64:=by omega
   have aD:(F:Int)+2<64:=by omega
   have aI:(F:Int)+3<64:=by omega
   have u1:0<=(F:Int)+1:=by omega
   have aK:0<=(F:Int)+2:=by omega
   have aT:0<=(F:Int)+3:=by omega
   unfold z3 at c0 c1 a6 ak;have ap:=G.cell (i:=i) (by omega);have ag:=G.free i;have aR:(i:Int)<16:=by omega
   go_wp2_with fail;go_still_tail 38,(by kernel_rfl)
   rw[zb2];change wpList _ _ _ _ _ wr.drew;clear ar aw a7 am r1 r2 r3;go_wp2;go_roundw
   case rel=>
    refine⟨i+1,by omega,by go_num,(N.drew).setCell (by simp) _,a0.drew.apart _ _ (by simp),((G.drew).set (i:=i) (by omega) _).congr fun j _=>?_⟩;rw[<-z08,z2B b a8];unfold z1G;rw[a9.o];rfl
   case measure=>simp[intOf];omega
  ·have ab:Hd (zK wr (w.heap.size+1) 64 (part (wd b) 16) 262):=by
    have e:i=16:=by omega
    rw[<-e];exact z0 G
   obtain⟨m,rfl⟩:∃m:Nat,i=m:=⟨i,rfl⟩
   go_wp2_with fail;go_loopw [5] (fun O wr=>∃i:Nat,16<=i/\i<=64/\O=.int .i64 i/\Below w.heap.size w wr/\zK wr w.heap.size 64 (fun _=>wc 0) 262/\zK wr (w.heap.size+1) 64 (part (wd b) i) 262) (fun O _=>64 - (intOf O).toNat)
   case atStart=>exact⟨16,by omega,by omega,rfl,N,a0,ab.o⟩
   case round=>
    clear a0 G N ab;obtain⟨i,ai,au,rfl,N,a0,G⟩:=hrel;by_cases a8:i<64
    ·obtain⟨J,a4⟩:∃J:Nat,Hd (J+2=i):=⟨i - 2,z0 (by omega)⟩
     obtain⟨I,a3⟩:∃I:Nat,Hd (I+7=i):=⟨i - 7,z0 (by omega)⟩
     obtain⟨K,a5⟩:∃K:Nat,Hd (K+15=i):=⟨i - 15,z0 (by omega)⟩
     obtain⟨M,a2⟩:∃M:Nat,Hd (M+16=i):=⟨i - 16,z0 (by omega)⟩
     have b2:J<64:=by have:=a4.o;omega
     have aE:I<64:=by have:=a3.o;omega
     have aQ:K<64:=by have:=a5.o;omega
     have aP:M<64:=by have:=a2.o;omega
     have a7:IntKind.i64.wrap ((i:Int) - 2)=(J:Int):=by rw[IntWalk.i64_in _ (by omega)];have:=a4.o;omega
     have al:IntKind.i64.wrap ((i:Int) - 7)=(I:Int):=by rw[IntWalk.i64_in _ (by omega)];have:=a3.o;omega
     have ah:IntKind.i64.wrap ((i:Int) - 15)=(K:Int):=by rw[IntWalk.i64_in _ (by omega)];have:=a5.o;omega
     have aj:IntKind.i64.wrap ((i:Int) - 16)=(M:Int):=by rw[IntWalk.i64_in _ (by omega)];have:=a2.o;omega
     have a6:=G.cell (i:=J) (by omega);have az:=G.cell (i:=I) (by omega);have aq:=G.cell (i:=K) (by omega);have ao:=G.cell (i:=M) (by omega);have aa:part (wd b) i J=.int .u32 (wv (wd b J)):=if_pos (by have:=a4.o;omega);have ad:part (wd b) i I=.int .u32 (wv (wd b I)):=if_pos (by have:=a3.o;omega);have af:part (wd b) i K=.int .u32 (wv (wd b K)):=if_pos (by have:=a5.o;omega);have ae:part (wd b) i M=.int .u32 (wv (wd b M)):=if_pos (by have:=a2.o;omega);rw[aa]at a6;rw[ad]at az;rw[af]at aq;rw[ae]at ao;have ap:=G.cell (i:=i) (by omega);have ag:=G.free i;have aJ:(i:Int)<64:=by omega
     have aS:(J:Int)<64:=by omega
     have aM:(I:Int)<64:=by omega
     have aH:(K:Int)<64:=by omega
     have aL:(M:Int)<64:=by omega
     clear aa ad af ae;go_wp2_with fail;refine wp_region_still_tail 22 (by kernel_rfl) (by kernel_rfl) ?_;simp only[List.take_succ_cons,List.take_zero,List.drop_succ_cons,List.drop_zero]
     repeat still_step
     still_call (z7G _ _)
     repeat still_step
     still_call (z7H _ _)
     repeat still_step
     refine wpStill_nil ?_;change wpList _ _ _ _ _ wr.drew;clear a7 al ah aj;go_wp2;go_roundw
     case rel=>
      refine⟨i+1,by omega,by omega,by go_num,(N.drew).setCell (by simp) _,a0.drew.apart _ _ (by simp),((G.drew).set (i:=i) (by omega) _).congr fun j _=>?_⟩;rw[<-z08,Xy b ai a8,show i - 2=J from by have:=a4.o;omega,show i - 7=I from by have:=a3.o;omega,show i - 15=K from by have:=a5.o;omega,show i - 16=M from by have:=a2.o;omega];rw[XA];rfl
     case measure=>simp[intOf];omega
    ·obtain rfl:i=64:=by omega
     have ay:zK wr (w.heap.size+1) 64 (fun j=>wc (wd b j)) 262:=G.congr fun j an=>if_pos an
     go_wp2_with (first
      |(refine qg z3K rfl _ rfl rfl ay ?_)
      |(refine z8 z3K rfl _ _ rfl rfl rfl a0 (fun _ _=>rfl) ?_;intro aN aA aB aG))
     refine Bp (z3K.result rfl _ _ rfl aB) rfl ⟨rfl,?_⟩;exact zh N (g:=w.heap.size) (Nat.le_refl _) aA N.size
def yB (g:Nat) (w:World):Prop:=g<w.heap.size/\∀j,j<64->w.cell? ⟨g,j,none⟩=some (.int .u32 (wv (kc j)))
theorem yB.below {g:Nat}{w w':World} (h:yB g w) (F:Below w.heap.size w w'):yB g w':=
 ⟨Nat.lt_of_lt_of_le h.1 F.size,fun j G=>(F.cell (p:=⟨g,j,none⟩) h.1).trans (h.2 j G)⟩
theorem yB.grown {g:Nat}{w w':World} (h:yB g w) {F:Option Nat} (hg:w.grownBy w' F) (I:F≠some g):yB g w':=
 ⟨Nat.lt_of_lt_of_le h.1 hg.size,fun j G=>(World.cell?_of_block (hg.block g h.1 (fun e=>I e.symm))).trans (h.2 j G)⟩
theorem z7J (x:UInt32) (w:World):Calls prog 226 #[.int .u32 (wv x)] w fun e w'=>e=.returned (.int .u32 (wv (bg1 x)))/\w'=w:=(zaZ x w).mono fun _ _ ⟨h,F⟩=>⟨h,F.symm⟩
theorem z7K (x y z:UInt32) (w:World):Calls prog 227 #[.int .u32 (wv x),.int .u32 (wv y),.int .u32 (wv z)] w fun e w'=>e=.returned (.int .u32 (wv (chc x y z)))/\w'=w:=(zb0 x y z w).mono fun _ _ ⟨h,F⟩=>⟨h,F.symm⟩
theorem z9h (x:UInt32) (w:World):Calls prog 228 #[.int .u32 (wv x)] w fun e w'=>e=.returned (.int .u32 (wv (bg0 x)))/\w=w':=zaY x w
theorem z9i (x y z:UInt32) (w:World):Calls prog 229 #[.int .u32 (wv x),.int .u32 (wv y),.int .u32 (wv z)] w fun e w'=>e=.returned (.int .u32 (wv (maj x y z)))/\w=w':=zb1 x y z w
theorem XB (a b c d e:UInt32):(wv a+wv b+wv c+wv d+wv e) % 4294967296=wv (a+b+c+d+e):=by
 rw[<-xM (a+b+c+d) e,<-XA];omega
theorem z5u {P:Program}{f:FuncId}{args:Array Value}{w:World}{n m:Nat}{v:Value}
  (h:Calls P f args (w.drewN (n+m)) fun e w'=>e=.returned v/\w'=w.drewN (n+m)):Calls P f args (w.drewN (n+m)) fun e F=>e=.returned v/\∃k,F=w.drewN (n+k):=
 h.mono fun _ _ ⟨he,G⟩=>⟨he,m,G⟩
set_option maxRecDepth 100000 in
theorem z9j (s:Nat->UInt32) (b:Nat->UInt8) (w:World) (ag:yB 1 w):
  Calls prog 211 #[.agg (z1 8 fun j=>wc (s j)),.agg (z1 64 fun j=>z3 (b j))] w fun e w'=>e=.returned (.agg (z1 8 fun j=>wc (ZH s b j)))/\Below w.heap.size w w':=by
 have aL:=ag.1;go_enter func211,ntmps211;go_wp2_with (refine zb Zd rfl rfl ?_);have G:zK (((w.alloc (.cells (z1 8 fun j=>wc (s j)) 240)).alloc (.cells (z1 64 fun j=>z3 (b j)) 227)).alloc (.cells (z1 8 fun _=>wc 0) 240)) w.heap.size 8 (fun j=>wc (s j)) 240:=((zK.new w _ _ _).alloc _).alloc _;have an:zK (((w.alloc (.cells (z1 8 fun j=>wc (s j)) 240)).alloc (.cells (z1 64 fun j=>z3 (b j)) 227)).alloc (.cells (z1 8 fun _=>wc 0) 240)) (w.heap.size+1) 64 (fun j=>z3 (b j)) 227:=zK.alloc (heap_alloc2_new w _ _) _;have af:zK (((w.alloc (.cells (z1 8 fun j=>wc (s j)) 240)).alloc (.cells (z1 64 fun j=>z3 (b j)) 227)).alloc (.cells (z1 8 fun _=>wc 0) 240)) (w.heap.size+1+1) 8 (fun _=>wc 0) 240:=by
  have:=zK.new ((w.alloc (.cells (z1 8 fun j=>wc (s j)) 240)).alloc (.cells (z1 64 fun j=>z3 (b j)) 227)) 8 (fun _=>wc 0) 240
  simpa using this
 have al:Below w.heap.size w (((w.alloc (.cells (z1 8 fun j=>wc (s j)) 240)).alloc (.cells (z1 64 fun j=>z3 (b j)) 227)).alloc (.cells (z1 8 fun _=>wc 0) 240)):=(Ba.alloc (by simp) _).alloc (by simp;omega) _;have aq:(((w.alloc (.cells (z1 8 fun j=>wc (s j)) 240)).alloc (.cells (z1 64 fun j=>z3 (b j)) 227)).alloc (.cells (z1 8 fun _=>wc 0) 240)).heap.size=w.heap.size+3:=by simp
 have hp:((w.alloc (.cells (z1 8 fun j=>wc (s j)) 240)).alloc (.cells (z1 64 fun j=>z3 (b j)) 227)).heap.size=w.heap.size+1+1:=by simp
 rw[hp];clear hp;generalize (((w.alloc (.cells (z1 8 fun j=>wc (s j)) 240)).alloc (.cells (z1 64 fun j=>z3 (b j)) 227)).alloc (.cells (z1 8 fun _=>wc 0) 240))=w0 at *;have ap:=z0 aq;clear aq;have a8:=G.cell (i:=0) (by omega);have a6:=G.cell (i:=1) (by omega);have a3:=G.cell (i:=2) (by omega);have a4:=G.cell (i:=3) (by omega);have a7:=G.cell (i:=4) (by omega);have a9:=G.cell (i:=5) (by omega);have aa:=G.cell (i:=6) (by omega);have a5:=G.cell (i:=7) (by omega);unfold wc at a8 a6 a3 a4 a7 a9 aa a5;go_wp2;go_quiet (fail);go_wp2_with fail;have am:Below w.heap.size w (w0.drewN nq):=zA al _;refine(z7I b (w.heap.size+1) _ (w0.drewN nq) (an.drewN _)).mono ?_;rintro e a2 ⟨rfl,ab⟩;obtain⟨av,ah⟩:=nm (Value.agg (z1 64 fun j=>wc (wd b j)):Value);rw[ah.o];have ae:∀(i:Nat),i<64->∀w,(Instr.index 262 av (.int .i64 (i:Int))).run prog w=.ok (.int .u32 (wv (wd b i))) w:=fun i ao w=>by
  rw[<-ah.o];exact z3K.run_index _ ao w
 have ar:Below w.heap.size w a2:=am.trans (ab.mono (by show w.heap.size<=w0.heap.size;have:=ap.o;omega));have I:zK a2 w.heap.size 8 (fun j=>wc (s j)) 240:=zK.keep (w:=w0.drewN nq) G ab;have aw:zK a2 (w.heap.size+1+1) 8 (fun _=>wc 0) 240:=zK.keep (w:=w0.drewN nq) af ab;have au:=ag.below ar;clear a8 a6 a3 a4 a7 a9 aa a5 am ab G an af al ap;go_wp2_with fail;go_loopw [5,6,7,8,9,10,11,12,34] (fun ax aI aG aF aE aC ay aD ad wr=>∃(i:Nat) (J N a0 a1 F M K O:UInt32),i<=64/\ad=.int .i64 i/\Hd (Xo (wd b) i (St.of s)=⟨J,N,a0,a1,F,M,K,O⟩)/\ax=.int .u32 (wv J)/\aI=.int .u32 (wv N)/\aG=.int .u32 (wv a0)/\aF=.int .u32 (wv a1)/\aE=.int .u32 (wv F)/\aC=.int .u32 (wv M)/\ay=.int .u32 (wv K)/\aD=.int .u32 (wv O)/\∃n,wr=a2.drewN n) (fun _ _ _ _ _ _ _ _ ad _=>64 - (intOf ad).toNat)
 case atStart=>exact⟨0,s 0,s 1,s 2,s 3,s 4,s 5,s 6,s 7,by omega,rfl,z0 rfl,rfl,rfl,rfl,rfl,rfl,rfl,rfl,rfl,0,rfl⟩
 case round=>
  obtain⟨i,J,N,a0,a1,F,M,K,O,ao,rfl,ak,rfl,rfl,rfl,rfl,rfl,rfl,rfl,rfl,n,rfl⟩:=hrel;by_cases aj:i<64
  ·have hx:=ae i aj;have aO:=au.2 i aj;have aK:(i:Int)<64:=by omega
   have aM:=au.1;clear ae;go_wp2_with fail
   go_quiet ((first
    |(go_at_call 226;exact z5u (z7J _ _))
    |(go_at_call 227;exact z5u (z7K _ _ _ _))))
   go_wp2_with (first
    |(go_at_call 228;refine(z9h _ _).mono ?_;rintro e w' ⟨rfl,rfl⟩)
    |(go_at_call 229;refine(z9i _ _ _ _).mono ?_;rintro e w' ⟨rfl,rfl⟩))
   go_roundw
   case rel=>
    exact⟨i+1,(O+bg1 F+chc F M K+kc i+wd b i)+(bg0 J+maj J N a0),J,N,a0,a1+(O+bg1 F+chc F M K+kc i+wd b i),F,M,K,by omega,by go_num,z0 (by unfold Xo;rw[ak.o];rfl),by rw[XB,xM,xM],rfl,rfl,rfl,by rw[XB,xM],rfl,rfl,rfl,n+nq,rfl⟩
   case measure=>simp[intOf];omega
  ·have aA:=z0 (show i=64 by omega);have aN:¬(i:Int)<64:=by omega
   have a8:=I.cell (i:=0) (by omega);have a6:=I.cell (i:=1) (by omega);have a3:=I.cell (i:=2) (by omega);have a4:=I.cell (i:=3) (by omega);have a7:=I.cell (i:=4) (by omega);have a9:=I.cell (i:=5) (by omega);have aa:=I.cell (i:=6) (by omega);have a5:=I.cell (i:=7) (by omega);unfold wc at a8 a6 a3 a4 a7 a9 aa a5;have aP:=I.lt;clear ae;go_wp2_with (refine z8 Zd (f':=fun j=>.int .u32 ([(wv (s 0)+wv J) % 4294967296,(wv (s 1)+wv N) % 4294967296,(wv (s 2)+wv a0) % 4294967296,(wv (s 3)+wv a1) % 4294967296,(wv (s 4)+wv F) % 4294967296,(wv (s 5)+wv M) % 4294967296,(wv (s 6)+wv K) % 4294967296,(wv (s 7)+wv O) % 4294967296].getD j 0)) rfl _ _ rfl rfl rfl (aw.drewN n) (fun _ _=>rfl) ?_;intro aJ aH aB aR);have az:∀j,j<8->Value.int .u32 ([(wv (s 0)+wv J) % 4294967296,(wv (s 1)+wv N) % 4294967296,(wv (s 2)+wv a0) % 4294967296,(wv (s 3)+wv a1) % 4294967296,(wv (s 4)+wv F) % 4294967296,(wv (s 5)+wv M) % 4294967296,(wv (s 6)+wv K) % 4294967296,(wv (s 7)+wv O) % 4294967296].getD j 0)=wc (ZH s b j):=by
    have ai:=ak.o;rw[aA.o]at ai;intro j aQ;unfold ZH;rw[ai];obtain rfl|rfl|rfl|rfl|rfl|rfl|rfl|rfl:j=0\/j=1\/j=2\/j=3\/j=4\/j=5\/j=6\/j=7:=by omega
    all_goals exact congrArg (Value.int .u32) (xM _ _)
   refine Bp (Zd.result rfl _ _ rfl (aB.congr az)) rfl ⟨rfl,?_⟩;exact zh (zA ar n) (by omega) aH (by show w.heap.size<=a2.heap.size;omega)
def Qw (s:Nat->UInt32) (b:Nat->UInt8) (n:Nat) (j:Nat):Value:=if j<8 then wc (s j) else if j<72 then z3 (b (j - 8)) else .int .u64 (n:Int)
def Run (w:World) (g:Nat) (l:List UInt8):Prop:=
 ∃b:Nat->UInt8,zK w g 73 (Qw (Ze l (l.length / 64)) b l.length) 243/\∀j,j<l.length % 64->b j=l.getD (64*(l.length / 64)+j) 0
theorem Run.lt {w:World}{g:Nat}{l:List UInt8} (h:Run w g l):g<w.heap.size:=by
 obtain⟨b,F,_⟩:=h;exact F.lt
theorem Run.grown {w w':World}{g:Nat}{l:List UInt8} (h:Run w g l) {F:Option Nat} (hg:w.grownBy w' F) (J:F≠some g):Run w' g l:=by
 obtain⟨b,G,I⟩:=h;exact⟨b,G.grown hg J,I⟩
theorem Run.keep {w w':World}{g:Nat}{l:List UInt8} (h:Run w g l) (F:Below w.heap.size w w'):Run w' g l:=h.grown (KS F none) (by simp)
theorem zP.cutS {w:World}{A:Option Addr}{l:List UInt8}{c p:Nat} (h:zP w (.slice A l.length c) l) (hp:p<=l.length):
  zP w (.slice (if c=p then A else A.map (·.add p)) (l.length - p) (c - p)) (l.drop p):=by
 obtain⟨_,M,N,G⟩:=h.at_;refine⟨_,c - p,by rw[List.length_drop],by rw[List.length_drop];omega,by omega,fun hl=>?_⟩;rw[List.length_drop]at hl;obtain⟨b,J,rfl,F,I⟩:=G (by omega);rw[if_neg (by omega)];refine⟨b,J+p,by rw[Option.map_some,y9],F,fun j K=>?_⟩;rw[List.length_drop]at K;rw[Nat.add_assoc,I (p+j) (by omega),List.getElem_drop]
theorem zb3 {A:Option Addr}{n c m d p:Nat}:(Value.slice (if c=p then A else A.map (·.add p)) m d).ownBlock=(Value.slice A n c).ownBlock\/(Value.slice (if c=p then A else A.map (·.add p)) m d).ownBlock=none:=by
 by_cases h:c=p
 ·rw[if_pos h];cases A <;> simp[Value.ownBlock]
 ·rw[if_neg h];rcases A with _|⟨b,o,F⟩
  ·simp[Value.ownBlock]
  ·cases F <;> (simp[Value.ownBlock,Addr.add];split <;> rfl)
theorem z09 {ops:Array Oper}{rest:List Oper}{o:Oper}{a:Act}{w:World}{Q:Exit->Act->World->Prop} (J:o.guard=none) (x y:Operand) (I:o.op=.slice 33 x (some y) none none)
  {A:Option Addr} {c k:Nat} {l:List UInt8} (hx:a.eval x=.slice A l.length c) (O:a.eval y=.int .i64 (k:Int)) (M:zP w (.slice A l.length c) l) (G:k<=l.length)
  (h:∀A' F,zP w (.slice A' (l.length - k) F) (l.drop k)->(∀g,(Value.slice A l.length c).ownBlock≠some g->(Value.slice A' (l.length - k) F).ownBlock≠some g)->wpList prog ops Q rest (a.put o.dst (.slice A' (l.length - k) F)) w):
  wpList prog ops Q (o :: rest) a w:=by
 obtain⟨a5,N,a3,a0,a2⟩:=info_parts vV;have a1:(Instr.sliceAt 33 (.slice A l.length c) (some (.int .i64 (k:Int))) none none).run prog w=.ok (.slice (if c=k then A else A.map (·.add k)) (l.length - k) (c - k)) w:=by
  have a4:(k:Int)<=(l.length:Int):=by omega
  simp[Instr.sliceAt,Instr.slice,run_underlying zG,Instr.sliceBounds,Instr.sliceBound,asIntOf,sizeOf,typeInfo,N,a0,G]
 refine wpList_plain J fun _ K=>?_;unfold Oper.wp execOp;simp only[I,Option.map_some,Option.map_none,hx,O,Sem.run_bind,a1,Result.andThen_ok,Sem.run_pure];refine K _ _ (h _ _ (M.cutS G) fun g hg=>?_);rcases zb3 (A:=A) (n:=l.length) (c:=c) (m:=l.length - k) (d:=c - k) (p:=k) with e|e
 ·rw[e];exact hg
 ·rw[e];simp
theorem z2H {w:World}{v:Value}{m:List UInt8} (ty:TypeId) (a3:zP w v m) {g F N dLen dCap:Nat}{G:Nat->Value}{t:TypeId} (hg:zK w g N G t) {k:Nat} (a0:k=Nat.min m.length dLen) (ae:0<k) (a1:F+k<=N):
  ∃w',(Builtin.copy_ #[33,33] ty #[.slice (some ⟨g,F,none⟩) dLen dCap,v]).run prog w=.ok (.int .i64 (k:Int)) w'/\w.grownBy w' (some g)/\zK w' g N (fun j=>if F<=j/\j<F+k then z3 (m.getD (j - F) 0) else G j) t/\w'.heap.size=w.heap.size:=by
 obtain⟨A,c,rfl,ab,af,a6⟩:=a3;have a8:(prog.info? 5).map (·.size)=some 1:=by kernel_rfl
 have ag:k<=m.length:=by rw[a0];exact Nat.min_le_left _ _
 obtain⟨b,a7,rfl,aa,a5⟩:=a6 (by omega);have I:(z4 (m.take k)).length=k:=by simp[z4];omega
 have O:=run_copy_row (P:=prog) w 33 33 ty 5 g F dLen dCap ⟨b,a7,none⟩ m.length c (z1 N G) t (z4 (m.take k)) zG a8 hg (by rw[I,a0]) (fun j u a4=>by
  obtain⟨J,rfl⟩:=xG _ j u a4;rw[y9];have M:j<m.length:=by simp at J;omega
  rw[a5 j M,List.getElem_take]) (by rw[I,qh];exact a1) (yb _)
 have a9:((z1 N G).toList.take F ++ z4 (m.take k) ++ (z1 N G).toList.drop (F+(z4 (m.take k)).length)).toArray=z1 N (fun j=>if F<=j/\j<F+k then z3 (m.getD (j - F) 0) else G j):=by
  apply Array.ext_getElem?;intro j;rw[I,List.getElem?_toArray];have K:((z1 N G).toList.take F).length=F:=by rw[List.length_take,Array.length_toList,qh];omega
  by_cases J:j<N
  ·rw[xK _ J];by_cases a2:j<F
   ·rw[if_neg (by omega),List.append_assoc,List.getElem?_append_left (by omega),List.getElem?_take_of_lt a2,Z5,if_pos J]
   ·by_cases ad:j<F+k
    ·rw[if_pos (by omega),List.append_assoc,List.getElem?_append_right (by omega),K,List.getElem?_append_left (by omega)];have M:j - F<m.length:=by omega
     simp[z4,List.getElem?_take_of_lt (show j - F<k by omega),M]
    ·rw[if_neg (by omega),List.getElem?_append_right (by rw[List.length_append,K,I];omega),List.length_append,K,I,List.getElem?_drop,Z5,if_pos (by omega)];rw[show F+k+(j - (F+k))=j from by omega]
  ·rw[Y6 _ J,List.getElem?_eq_none];simp[qh,z4];omega
 rw[a9,I]at O;exact⟨_,O,⟨rfl,rfl,rfl,by simp,fun q _ hq=>setRow_other w g q _ (fun e=>hq (by simp[e]))⟩,setRow_heap w g _ _ t _ hg,by simp⟩
theorem Zf {ops:Array Oper}{rest:List Oper}{o:Oper}{a:Act}{w:World}{Q:Exit->Act->World->Prop} (J:o.guard=none) (d s:Operand)
  (I:o.op=.call { callee:=.builtin .copy,args:=#[d,s],argTypes:=#[33,33] })
  {g F N dLen dCap:Nat} {v:Value} {m:List UInt8} {G:Nat->Value} {t:TypeId} (a2:a.eval d=.slice (some ⟨g,F,none⟩) dLen dCap) (K:a.eval s=v) (a1:zP w v m) (hg:zK w g N G t)
  {k:Nat} (a5:k=Nat.min m.length dLen) (a3:0<k) (a7:F+k<=N)
  (h:∀w',w.grownBy w' (some g)->zK w' g N (fun j=>if F<=j/\j<F+k then z3 (m.getD (j - F) 0) else G j) t->w'.heap.size=w.heap.size->wpList prog ops Q rest (a.put o.dst (.int .i64 (k:Int))) w'):
  wpList prog ops Q (o :: rest) a w:=by
 obtain⟨w',a6,a0,a4,M⟩:=z2H o.type (dLen:=dLen) (dCap:=dCap) a1 hg a5 a3 a7;refine wpList_plain J fun _ O=>?_;unfold Oper.wp;simp[execOp,I,resolve,invoke,builtin,a2,K,a6,Result.andThen];exact O _ _ (h w' a0 a4 M)
def more (b:Nat->UInt8) (r:List UInt8) (q k j:Nat):UInt8:=if q<=j/\j<q+k then r.getD (j - q) 0 else b j
theorem z6Y {b:Nat->UInt8}{l r:List UInt8}{T q k:Nat} (I:l.length=T) (hq:T % 64=q) (F:∀j,j<q->b j=l.getD (64*(T / 64)+j) 0) (j:Nat) (G:j<q+k):
  more b r q k j=(l ++ r.take k).getD (64*(T / 64)+j) 0:=by
 unfold more;by_cases h:j<q
 ·rw[if_neg (by omega),F j h,z1H (by omega)]
 ·rw[if_pos (by omega),show 64*(T / 64)+j=l.length+(j - q) from by omega,z5r];simp only[List.getD_eq_getElem?_getD];rw[List.getElem?_take_of_lt (by omega)]
theorem z9k {w:World}{g T q k:Nat}{b:Nat->UInt8}{l r:List UInt8} (G:l.length=T) (hq:T % 64=q) (O:k<=r.length) (K:∀j,j<q->b j=l.getD (64*(T / 64)+j) 0) (a0:q+k<64)
  (N:zK w g 73 (Qw (Ze l (T / 64)) (more b r q k) (T+k)) 243):Run w g (l ++ r.take k):=by
 have hl:(l ++ r.take k).length=T+k:=by rw[List.length_append,List.length_take,G];omega
 have I:(T+k) / 64=T / 64:=by omega
 have M:(T+k) % 64=q+k:=by omega
 refine⟨more b r q k,?_,fun j J=>?_⟩
 ·rw[hl,I];refine N.congr fun i _=>?_;unfold Qw;by_cases F:i<8
  ·rw[if_pos F,if_pos F,z1I (by omega) i F]
  ·rw[if_neg F,if_neg F]
 ·rw[hl,M]at J;rw[hl,I];exact z6Y G hq K j J
theorem z9l {w:World}{g T q k:Nat}{b:Nat->UInt8}{l r:List UInt8} (G:l.length=T) (hq:T % 64=q) (a0:k<=r.length) (J:∀j,j<q->b j=l.getD (64*(T / 64)+j) 0) (a1:q+k=64)
  (O:zK w g 73 (Qw (ZH (Ze l (T / 64)) (more b r q k)) (more b r q k) (T+k)) 243):Run w g (l ++ r.take k):=by
 have hl:(l ++ r.take k).length=T+k:=by rw[List.length_append,List.length_take,G];omega
 have M:(T+k) / 64=T / 64+1:=by omega
 have K:(T+k) % 64=0:=by omega
 refine⟨more b r q k,?_,fun j I=>?_⟩
 ·rw[hl,M];refine O.congr fun i _=>?_;unfold Qw;by_cases F:i<8
  ·rw[if_pos F,if_pos F]
   congr 1
   refine KU (fun i N=>(z1I (by omega) i N).symm) (fun j I=>z6Y G hq J j (by omega)) i F
  ·rw[if_neg F,if_neg F]
 ·rw[hl,K]at I;omega
theorem z3V {T E:TypeId}{n:Nat}{z:Value} (H:xL T E n z) {o:Oper}{a:Act}{w:World}{G:Act->World->Prop}{Q:Exit->Act->World->Prop} (x:Operand) (I:o.op=.load T x)
  {g N F:Nat} {f f':Nat->Value} {t:TypeId} (hx:a.eval x=.pointer (some ⟨g,F,none⟩)) (hg:zK w g N f t) (J:F+n<=N) (e:∀j,j<n->f (F+j)=f' j)
  (h:G (a.put o.dst (.agg (z1 n f'))) w):o.wp prog a w G Q:=by
 unfold Oper.wp execOp;simp only[I,hx,Sem.run_bind,H.load_mid hg J e,Sem.run_pure,Result.andThen_ok];exact h
theorem z7L {w:World}{v:Value}{l:List UInt8} (h:zP w v l) (F:0<l.length) {g:Nat} (hg:w.heap.size<=g):v.ownBlock≠some g:=by
 obtain⟨A,c,rfl,_,_,G⟩:=h;obtain⟨b,I,rfl,J,_⟩:=G F;intro e;have:b=g:=by simpa [Value.ownBlock] using e
 omega
theorem Jz {T E:TypeId}{n:Nat}{z:Value} (H:xL T E n z) {ops:Array Oper}{rest:List Oper}{o:Oper}{a:Act}{w:World}{Q:Exit->Act->World->Prop} (I:o.guard=none) (x:Operand) (G:o.op=.load T x)
  {g N F:Nat} {f f':Nat->Value} {t:TypeId} (hx:a.eval x=.pointer (some ⟨g,F,none⟩)) (hg:zK w g N f t) (K:F+n<=N) (e:∀j,j<n->f (F+j)=f' j)
  (h:wpList prog ops Q rest (a.put o.dst (.agg (z1 n f'))) w):wpList prog ops Q (o :: rest) a w:=
 wpList_plain I fun _ J=>z3V H x G hx hg K e (J _ _ h)
theorem JR {T:TypeId}{cs:Array Value} (F:(prog.info? T).bind (·.zero)=some (.agg cs)) {ops:Array Oper}{rest:List Oper}{o:Oper}{a:Act}{w:World}{Q:Exit->Act->World->Prop} (I:o.guard=none) (G:o.op=.alloc T)
  (h:wpList prog ops Q rest (a.put o.dst (.pointer (some ⟨w.heap.size,0,none⟩))) (w.alloc (.cells cs T))):wpList prog ops Q (o :: rest) a w:=
 wpList_plain I fun _ J=>by
  have K:(zeroValue T).run prog w=.ok (.agg cs) w:=by
   cases hq:prog.info? T with
   |none=>rw[hq]at F;cases F
   |some i=>
    rw[hq]at F;have M:i.zero=some (.agg cs):=F;simp[zeroValue,typeInfo,hq,M]
  unfold Oper.wp execOp;simp only[G,Sem.run_bind,Instr.alloc,K,newVar,newRow,run_newObj_alloc,Sem.run_pure,Result.andThen_ok,Value.cells];exact J _ _ h
noncomputable def KW (T : TypeId) (v : Value) (w : World) : Result Next := Sem.run prog (execOp (fun _ => v) { dst := none, op := .load T (.tmp 0), type := 0, pos := "", after := #[], guard := none }) w
noncomputable def Kp (T:TypeId) (p v:Value) (w:World):Result Next:=Sem.run prog (execOp (fun x=>match x with
 | .tmp 0=>p
 | _ => v) { dst := none, op := .store T (.tmp 0) (.tmp 1), type := 0, pos := "", after := #[], guard := none }) w
theorem z3W (r:Operand->Value) (x:Operand) (dst:Option Tmp) (ty:TypeId) (pos:String) (after:Array Edge) (guard:Option (Nat×Bool)) (w:World):
  Sem.run prog (execOp r { dst:=dst,op:=.load 240 x,type:=ty,pos:=pos,after:=after,guard:=guard }) w=KW 240 (r x) w:=rfl
theorem z3X (r:Operand->Value) (x:Operand) (dst:Option Tmp) (ty:TypeId) (pos:String) (after:Array Edge) (guard:Option (Nat×Bool)) (w:World):
  Sem.run prog (execOp r { dst:=dst,op:=.load 227 x,type:=ty,pos:=pos,after:=after,guard:=guard }) w=KW 227 (r x) w:=rfl
theorem z2I (r:Operand->Value) (x y:Operand) (dst:Option Tmp) (ty:TypeId) (pos:String) (after:Array Edge) (guard:Option (Nat×Bool)) (w:World):
  Sem.run prog (execOp r { dst:=dst,op:=.store 240 x y,type:=ty,pos:=pos,after:=after,guard:=guard }) w=Kp 240 (r x) (r y) w:=rfl
theorem z0a {T E:TypeId}{n:Nat}{z:Value} (H:xL T E n z) {w:World}{g N o:Nat}{f f':Nat->Value}{t:TypeId} (hg:zK w g N f t) (F:o+n<=N) (e:∀j,j<n->f (o+j)=f' j):
  KW T (.pointer (some ⟨g,o,none⟩)) w=.ok (.value (.agg (z1 n f'))) w:=by
 have:=H.load_mid hg F e;unfold KW execOp;simp only[Sem.run_bind,this,Result.andThen_ok,Sem.run_pure]
theorem z7M {T E:TypeId}{n:Nat}{z:Value} (H:xL T E n z) {w:World}{g N o:Nat}{f f':Nat->Value}{t:TypeId} (hg:zK w g N f t) (F:o+n<=N) (I:∀i,i<n->(f' i).oneCell'=true):
  ∃w',Kp T (.pointer (some ⟨g,o,none⟩)) (.agg (z1 n f')) w=.ok .skip w'/\w.grownBy w' (some g)/\zK w' g N (fun j=>if o<=j/\j<o+n then f' (j - o) else f j) t/\w'.heap.size=w.heap.size:=by
 obtain⟨w',J,M,G,K⟩:=H.store_mid hg F I;refine⟨w',?_,M,G,K⟩;unfold Kp execOp;simp only[Sem.run_bind,J,Result.andThen_ok,Sem.run_pure]
theorem zb4 (x:UInt32):rr x 0=x:=by
 unfold rr;apply UInt32.toNat_inj.1;have:=x.toNat_lt;rw[UInt32.toNat_ofNat',Nat.pow_zero,Nat.div_one,Nat.mod_one,Nat.zero_mul,Nat.add_zero,Nat.mod_eq_of_lt (by omega)]
theorem zb5 (x:UInt32):sr x 0=x:=by
 unfold sr;apply UInt32.toNat_inj.1;have:=x.toNat_lt;rw[UInt32.toNat_ofNat',Nat.pow_zero,Nat.div_one,Nat.mod_eq_of_lt (by omega)]
theorem z9m (x:UInt32) (n:Nat) (F:n<=31):x.toNat / 2^n+x.toNat % 2^n*2^(32 - n)<4294967296:=by
 by_cases G:1<=n
 ·exact(zcc x n G F).1
 ·obtain rfl:n=0:=by omega
  have:=x.toNat_lt;rw[Nat.pow_zero,Nat.div_one,Nat.mod_one,Nat.zero_mul,Nat.add_zero];omega
theorem zb6 (x:UInt32) (n:Nat) (h:n<=30):wv (rr x n) / 2+wv (rr x n) % 2*2147483648=wv (rr x (n+1)):=by
 have G:=z9m x n (by omega);have F:=z9m x (n+1) (by omega);unfold rr;rw[KV _ G,KV _ F];clear G F;have hq:x.toNat / 2^(n+1)=x.toNat / 2^n / 2:=by rw[Nat.pow_succ,Nat.div_div_eq_div_mul]
 have J:x.toNat % 2^(n+1)=x.toNat % 2^n+x.toNat / 2^n % 2*2^n:=by rw[Nat.pow_succ,Nat.mod_mul,Nat.mul_comm (2^n)]
 have hp:(2:Nat)^(32 - n)=2*2^(31 - n):=by rw[show 32 - n=31 - n+1 from by omega,Nat.pow_succ,Nat.mul_comm]
 have I:(2:Nat)^n*2^(31 - n)=2147483648:=by rw[<-Nat.pow_add,show n+(31 - n)=31 from by omega]
 rw[hq,J,hp,show 32 - (n+1)=31 - n from by omega,Nat.add_mul,Nat.mul_assoc,I];generalize x.toNat / 2^n=q;generalize x.toNat % 2^n=r;generalize (2:Nat)^(31 - n)=B;rw[Nat.mul_left_comm r 2 B];generalize r*B=t;omega
theorem zb7 (x:UInt32) (n:Nat):wv (sr x n) / 2=wv (sr x (n+1)):=by
 have hx:=x.toNat_lt;have F:=Nat.div_le_self x.toNat (2^n);have G:=Nat.div_le_self x.toNat (2^(n+1));unfold sr;rw[KV _ (by omega),KV _ (by omega),Nat.pow_succ,<-Nat.div_div_eq_div_mul];omega
theorem z7N (x:UInt32) (n:Nat) (N:n<=31) (w:World):Calls prog 213 #[.int .u32 (wv x),.int .i64 (n:Int)] w fun e w'=>e=.returned (.int .u32 (wv (rr x n)))/\w=w':=by
 go_enter func213,ntmps213;go_wp2;go_loop [0,5] (fun J F=>∃i:Nat,i<=n/\F=.int .i64 i/\J=.int .u32 (wv (rr x i))) (fun _ F=>n - (intOf F).toNat)
 case atStart=>exact⟨0,Nat.zero_le _,rfl,by rw[zb4]⟩
 case round=>
  obtain⟨i,K,rfl,rfl⟩:=hrel;obtain⟨b0,b1⟩:=XW (rr x i);by_cases M:i<n
  ·have G:(i:Int)<(n:Int):=by omega
   have I:=z0 (zb6 x i (by omega));go_wp2;go_round
   case rel=>exact⟨i+1,by omega,by go_num,by rw[I.o]⟩
   case measure=>simp[intOf];omega
  ·have G:¬(i:Int)<(n:Int):=by omega
   obtain rfl:i=n:=by omega
   go_wp2;go_ret;exact⟨rfl,rfl⟩
theorem z5v (x:UInt32) (n:Nat) (N:n<=31) (w:World):Calls prog 214 #[.int .u32 (wv x),.int .i64 (n:Int)] w fun e w'=>e=.returned (.int .u32 (wv (sr x n)))/\w=w':=by
 go_enter func214,ntmps214;go_wp2;go_loop [0,5] (fun J F=>∃i:Nat,i<=n/\F=.int .i64 i/\J=.int .u32 (wv (sr x i))) (fun _ F=>n - (intOf F).toNat)
 case atStart=>exact⟨0,Nat.zero_le _,rfl,by rw[zb5]⟩
 case round=>
  obtain⟨i,K,rfl,rfl⟩:=hrel;obtain⟨b0,b1⟩:=XW (sr x i);by_cases M:i<n
  ·have G:(i:Int)<(n:Int):=by omega
   have I:=z0 (zb7 x i);go_wp2;go_round
   case rel=>exact⟨i+1,by omega,by go_num,by rw[I.o]⟩
   case measure=>simp[intOf];omega
  ·have G:¬(i:Int)<(n:Int):=by omega
   obtain rfl:i=n:=by omega
   go_wp2;go_ret;exact⟨rfl,rfl⟩
theorem JS (x:UInt32) (n:Nat) (k:Int) (F:k=(n:Int)) (G:n<=31) (w:World):Calls prog 213 #[.int .u32 (wv x),.int .i64 k] w fun e w'=>e=.returned (.int .u32 (wv (rr x n)))/\w=w':=by
 subst F;exact z7N x n G w
theorem KX (x:UInt32) (n:Nat) (k:Int) (F:k=(n:Int)) (G:n<=31) (w:World):Calls prog 214 #[.int .u32 (wv x),.int .i64 k] w fun e w'=>e=.returned (.int .u32 (wv (sr x n)))/\w=w':=by
 subst F;exact z5v x n G w
theorem YS (x:UInt32) (n:Nat) (k:Int) (F:k=(n:Int)) (I:n<=31) (w:World):Calls prog 213 #[.int .u32 (wv x),.int .i64 k] w fun e w'=>e=.returned (.int .u32 (wv (rr x n)))/\w'=w:=(JS x n k F I w).mono fun _ _ ⟨h,G⟩=>⟨h,G.symm⟩
theorem z2J (x:UInt32) (n:Nat) (k:Int) (F:k=(n:Int)) (I:n<=31) (w:World):Calls prog 214 #[.int .u32 (wv x),.int .i64 k] w fun e w'=>e=.returned (.int .u32 (wv (sr x n)))/\w'=w:=(KX x n k F I w).mono fun _ _ ⟨h,G⟩=>⟨h,G.symm⟩
theorem z1U (x:UInt32) (k:Int) (F:0<=k) (G:k<=31) (w:World):Calls prog 213 #[.int .u32 (wv x),.int .i64 k] w fun e w'=>e=.returned (.int .u32 (wv (rr x k.toNat)))/\w'=w:=by
 obtain⟨n,rfl⟩:=Int.eq_ofNat_of_zero_le F;exact YS x n _ rfl (by omega) w
theorem JT (x:UInt32) (k:Int) (G:0<=k) (F:k<=31) (w:World):Calls prog 213 #[.int .u32 (wv x),.int .i64 k] w fun e w'=>e=.returned (.int .u32 (wv (rr x k.toNat)))/\w=w':=(z1U x k G F w).mono fun _ _ ⟨h,I⟩=>⟨h,I.symm⟩
theorem JU {ops:Array Oper}{rest:List Oper}{o:Oper}{a:Act}{w:World}{Q:Exit->Act->World->Prop} (O:o.guard=none) (x y:Operand) (N:o.op=.store 240 x y)
  {g:Nat} {t:TypeId} {f:Nat->Value} {v0 v1 G K F M J I:Int} (hx:a.eval x=.pointer (some ⟨g,0,none⟩)) (a0:a.eval y=.agg #[.int .u32 v0,.int .u32 v1,.int .u32 G,.int .u32 K,.int .u32 F,.int .u32 M,.int .u32 J,.int .u32 I]) (hg:zK w g 8 f t)
  (a1:∀w',w.grownBy w' (some g)->zK w' g 8 (fun j=>.int .u32 ([v0,v1,G,K,F,M,J,I].getD j 0)) t->w'.heap.size=w.heap.size->wpList prog ops Q rest (a.put o.dst undef) w'):wpList prog ops Q (o :: rest) a w:=
 z8 Zd (f':=fun j=>.int .u32 ([v0,v1,G,K,F,M,J,I].getD j 0)) O x y N hx a0 hg (fun _ _=>rfl) a1
theorem ZL {ops:Array Oper}{rest:List Oper}{o:Oper}{a:Act}{w:World}{Q:Exit->Act->World->Prop} (a4:o.guard=none) {x0 x1 x2 O a2 N a1 a0:Operand} (a3:o.op=.build 240 #[(0,x0),(1,x1),(2,x2),(3,O),(4,a2),(5,N),(6,a1),(7,a0)])
  (v0 v1 G K F M J I:Int) (ab:a.eval x0=.int .u32 v0) (a8:a.eval x1=.int .u32 v1) (ad:a.eval x2=.int .u32 G) (a5:a.eval O=.int .u32 K) (aa:a.eval a2=.int .u32 F) (a9:a.eval N=.int .u32 M) (ae:a.eval a1=.int .u32 J) (a6:a.eval a0=.int .u32 I)
  (h:wpList prog ops Q rest (a.put o.dst (.agg #[.int .u32 v0,.int .u32 v1,.int .u32 G,.int .u32 K,.int .u32 F,.int .u32 M,.int .u32 J,.int .u32 I])) w):wpList prog ops Q (o :: rest) a w:=
 wpList_plain a4 fun _ a7=>by
  have e:(Instr.build 240 #[(0,.int .u32 v0),(1,.int .u32 v1),(2,.int .u32 G),(3,.int .u32 K),(4,.int .u32 F),(5,.int .u32 M),(6,.int .u32 J),(7,.int .u32 I)]).run prog w=.ok (.agg #[.int .u32 v0,.int .u32 v1,.int .u32 G,.int .u32 K,.int .u32 F,.int .u32 M,.int .u32 J,.int .u32 I]) w:=by
   have af:z1 8 (fun _=>wc 0)=#[wc 0,wc 0,wc 0,wc 0,wc 0,wc 0,wc 0,wc 0]:=by kernel_rfl
   simp[Instr.build,Sem.run_bind,Zd.run_zero,run_underlying Zd.under,Zd.run_esize,Instr.fill,Value.cells,af]
  unfold Oper.wp execOp;simp only[a3,Sem.run_bind,List.map_toArray,List.map_cons,List.map_nil,ab,a8,ad,a5,aa,a9,ae,a6,e,Sem.run_pure,Result.andThen_ok];exact a7 _ _ h
theorem z9n {w w':World}{g n:Nat}{f:Nat->Value}{t:TypeId} (h:zK w g n f t) (e:w'.heap=w.heap):zK w' g n f t:=by
 unfold zK at h⊢;rw[e];exact h
theorem z5w {B:Nat}{a w u w':World} (h:Below B a w) (hg:u.grownBy w' (some B)) (G:u.heap=w.heap) (I:u.os=w.os) (J:u.tape=w.tape) (M:u.output=w.output) (K:B<=w.heap.size):Below B a w':=by
 have N:Below B a u:=⟨by rw[I];exact h.os,by rw[J];exact h.tape,by rw[M];exact h.output,by rw[G];exact h.size,fun k F=>by rw[G];exact h.block k F⟩
 exact N.grown hg (by rw[G];exact K) (fun k F=>by injection F;omega)
section
open Go.ChangeShapes Go.WideShapes Go.ChangeAt Go.RowKit
def kz:List Int:=kl.map wv
theorem z9o:(Rows.laid_tithing_sha_constants:DataW Unit)=Lib.tabData .u32 kz:=by kernel_rfl
theorem zdl {i:Nat} (h:i<64):kz.getD i 0=wv (kc i):=by
 have hl:kl.length=64:=rfl;unfold kz kc;simp[List.getD_eq_getElem?_getD,hl,h]
theorem zdI : prog.globalNamed "tithing/sha.constants" = some 1 := by kernel_rfl
theorem zdJ:(prog.globals[1]?).map (·.type)=some 262:=by kernel_rfl
theorem zdK : prog.globalNamed "tithing/tithingref02.constants" = some 0 := by kernel_rfl
theorem zdL:(prog.globals[0]?).map (·.type)=some 262:=by kernel_rfl
theorem z9p {G:String}{g:Nat}{W:World}{rest:List (String×DataW Unit)} (hg:prog.globalNamed G=some g) (J:(prog.globals[g]?).map (·.type)=some 262)
  (h:laidMet prog ((G,Lib.tabData .u32 kz) :: rest) W):yB g W:=by
 have K:=Lib.tabIs_of_head hg J underlying262 underlying96 (by kernel_rfl) (by kernel_rfl) h;have I:∀j,j<64->W.cell? ⟨g,j,none⟩=some (.int .u32 (wv (kc j))):=fun j F=>by
  rw[K.cell hg j (by simp[kz];exact F),zdl F]
 exact⟨World.block_lt_of_cell? W _ (I 0 (by omega)),I⟩
end
section
open Go.ChangeShapes Go.WideShapes Go.ChangeAt Go.RowKit
theorem z9q:(Rows.laid_tithing_tithingref02_constants:DataW Unit)=Lib.tabData .u32 kz:=by kernel_rfl
theorem z7O {P:Program}{x:String×DataW Unit}{r:List (String×DataW Unit)}{w:World} (h:laidMet P (x :: r) w):laidMet P r w:=laidMet.tail h
theorem z6Z {W : World} (h : laidMetH prog [("tithing/sha.constants", Rows.laid_tithing_sha_constants), ("tithing/tithingref02.constants", Rows.laid_tithing_tithingref02_constants)] W) : yB 1 W ∧ yB 0 W := by
 rw[MakeChecks.laidMetH_plain _ _ _ (by kernel_rfl),z9o,z9q]at h;exact⟨z9p zdI zdJ h,z9p zdK zdL (z7O h)⟩
theorem z9r (os : Os) (args : Array Value) : laidMetH prog [("tithing/sha.constants", Rows.laid_tithing_sha_constants), ("tithing/tithingref02.constants", Rows.laid_tithing_tithingref02_constants)] ((World.doorLaid prog 400 os).forCall (fun _ _ => 0) ⟨#[], args, []⟩).memory :=
 laidMetH_of_parts3 (fuel:=8) (laidMet_of_run' 8 (by kernel_rfl) (by kernel_rfl)) (by kernel_rfl) (by kernel_rfl)
end
section
structure Elt {α:Type} (ec:α->List Value) (P:α->Prop) (n:Nat) (T SL:TypeId):Prop where
 pos:0<n
 len:∀a,P a->(ec a).length=n
 one:∀a,∀u∈ec a,u.oneCell'=true
 under:prog.underlying SL=some (.slice T)
 cells:prog.cellsOf T=n
 info:∃i z,prog.info? T=some i/\i.zero=some z/\i.size=n/\i.bytes<=100000/\z.cells.size=n
section
variable {α:Type} (ec:α->List Value) (n:Nat)
def z2K (w:World) (A:Option Addr) (L:List α):Prop:=
 0<L.length->∃b F,A=some ⟨b,F,none⟩/\b<w.heap.size/\∀j (h:j<L.length),w.rangeAt b (F+j*n) (ec L[j])
def jE (w:World) (v:Value) (L:List α):Prop:=∃A c,v=.slice A L.length c/\L.length<=c/\c<=maxLen/\z2K ec n w A L
def yN (T:TypeId) (B:Nat) (w:World) (v:Value) (L:List α):Prop:=w.ownsRow B T n v L.length (L.map ec).flatten
end
theorem vC {w w':World}{b o:Nat}{l:List Value} (h:w.rangeAt b o l) (F:w'.heap[b]?=w.heap[b]?):w'.rangeAt b o l:=fun j u G=>(World.cell?_of_block F).trans (h j u G)
section
variable {α:Type}{ec:α->List Value}{n:Nat}{w w':World}{A:Option Addr}{v:Value}{L:List α}
theorem z2K.nil (w:World) (A:Option Addr):z2K ec n w A []:=fun h=>absurd h (by simp)
theorem z2K.below (h:z2K ec n w A L) (F:Below w.heap.size w w'):z2K ec n w' A L:=fun hl=>by
 obtain⟨b,I,e,G,K⟩:=h hl;exact⟨b,I,e,Nat.lt_of_lt_of_le G F.size,fun j J=>vC (K j J) (F.block b G)⟩
theorem jE.nil (w:World):jE ec n w (.slice none 0 0) []:=⟨none,0,rfl,Nat.le_refl _,Nat.zero_le _,z2K.nil _ _⟩
theorem jE.below (h:jE ec n w v L) (G:Below w.heap.size w w'):jE ec n w' v L:=by
 obtain⟨A,c,rfl,I,J,F⟩:=h;exact⟨A,c,rfl,I,J,F.below G⟩
theorem jE.len (h:jE ec n w v L):L.length<=maxLen:=by
 obtain⟨_,_,_,G,F,_⟩:=h;omega
theorem jE.shape (h:jE ec n w v L):∃A c,v=.slice A L.length c:=by
 obtain⟨A,c,e,_⟩:=h;exact⟨A,c,e⟩
theorem jE.at_ {k c:Nat} (h:jE ec n w (.slice A k c) L):k=L.length/\L.length<=c/\c<=maxLen/\z2K ec n w A L:=by
 obtain⟨A',N,e,J,K,F⟩:=h;injection e with M G I;subst M G I;exact⟨rfl,J,K,F⟩
end
section
variable {α:Type}{ec:α->List Value}{P:α->Prop}{n:Nat}{T SL:TypeId}{w w':World}{v:Value}{L:List α}{B:Nat}
theorem Elt.ecs_length (E:Elt ec P n T SL) (F:∀a∈L,P a):(L.map ec).flatten.length=L.length*n:=by
 induction L with
 |nil=>simp
 |cons a L ih=>
  rw[List.map_cons,List.flatten_cons,List.length_append,ih (fun x hx=>F x (List.mem_cons_of_mem _ hx)),E.len a (F a (by simp)),List.length_cons,Nat.succ_mul,Nat.add_comm]
theorem Elt.ecs_at (E:Elt ec P n T SL) (G:∀a∈L,P a) {j:Nat} (F:j<L.length) {k:Nat} (I:k<n):(L.map ec).flatten[j*n+k]?=(ec L[j])[k]?:=by
 induction L generalizing j with
 |nil=>simp at F
 |cons a L ih=>
  have ha:=E.len a (G a (by simp));rw[List.map_cons,List.flatten_cons];cases j with
  |zero=>
   rw[Nat.zero_mul,Nat.zero_add,List.getElem?_append_left (by rw[ha];exact I)];rfl
  |succ j=>
   rw[List.getElem?_append_right (by rw[ha,Nat.succ_mul];omega),ha,show(j+1)*n+k - n=j*n+k from by rw[Nat.succ_mul];omega];exact ih (fun x hx=>G x (List.mem_cons_of_mem _ hx)) (by simpa using F)
theorem Elt.ecs_get (E:Elt ec P n T SL) (I:∀a∈L,P a) {i:Nat}{u:Value} (h:(L.map ec).flatten[i]?=some u):∃(F:i / n<L.length),(ec L[i / n])[i % n]?=some u:=by
 have G:=(List.getElem?_eq_some_iff.1 h).1;rw[E.ecs_length I]at G;have F:i / n<L.length:=(Nat.div_lt_iff_lt_mul E.pos).2 G;refine⟨F,?_⟩;have:=E.ecs_at I F (Nat.mod_lt i E.pos);rw[Nat.div_add_mod' i n,h]at this;exact this.symm
theorem Elt.ecs_one (E:Elt ec P n T SL) (L:List α):∀u∈(L.map ec).flatten,u.oneCell'=true:=by
 intro u F;obtain⟨l,hl,F⟩:=List.mem_flatten.1 F;obtain⟨a,_,rfl⟩:=List.mem_map.1 hl;exact E.one a u F
theorem yN.nil (B:Nat) (w:World):yN ec n T B w (.slice none 0 0) []:=World.ownsRow_nil _ _ _ _
theorem yN.els (h:yN ec n T B w v L) (E:Elt ec P n T SL) (G:∀a∈L,P a):jE ec n w v L:=by
 rcases h.2 with ⟨rfl,O⟩|⟨g,xz,cur,rfl,_,J,N,K,a2,a1⟩
 ·have:L=[]:=List.eq_nil_of_length_eq_zero O;subst this;exact jE.nil w
 ·refine⟨_,xz,rfl,N,K,fun _=>⟨g,0,rfl,Lb J,fun j F k u I=>?_⟩⟩;have a0:k<n:=by
   have:=(List.getElem?_eq_some_iff.1 I).1;rw[E.len _ (G _ (List.getElem_mem F))]at this;exact this
  have M:j*n+k<L.length*n:=Nat.lt_of_lt_of_le (show j*n+k<(j+1)*n by rw[Nat.succ_mul];omega) (Nat.mul_le_mul_right n F);rw[Nat.zero_add,cell_of_row w g _ _ _ (0,0) J,<-Array.getElem?_toList];have e:=E.ecs_at G F a0;rw[I,<-a1,List.getElem?_take_of_lt M]at e;exact e
theorem yN.more (h:yN ec n T B w v L) {F:Nat} (I:F<=B):yN ec n T F w v L:=by
 refine⟨h.1,?_⟩;rcases h.2 with G|⟨g,xz,cur,e,hg,r⟩
 ·exact .inl G
 ·exact .inr ⟨g,xz,cur,e,by omega,r⟩
theorem yN.keep (h:yN ec n T B w v L) (G:∀b,b<w.heap.size->v.ownBlock=some b->w'.heap[b]?=w.heap[b]?):yN ec n T B w' v L:=by
 refine⟨h.1,?_⟩;rcases h.2 with I|⟨g,xz,cur,rfl,hg,F,r⟩
 ·exact .inl I
 ·exact .inr ⟨g,xz,cur,rfl,hg,(G g (Lb F) rfl).trans F,r⟩
theorem yN.below (h:yN ec n T B w v L) (F:Below w.heap.size w w'):yN ec n T B w' v L:=h.keep fun b G _=>F.block b G
theorem yN.alloc (h:yN ec n T B w v L) (o:Obj):yN ec n T B (w.alloc o) v L:=h.below ((Below.refl _ _).alloc (Nat.le_refl _) o)
theorem yN.far (h:yN ec n T B w v L) {g:Nat} (hg:w.grownBy w' (some g)) (I:g<B):yN ec n T B w' v L:=h.keep fun b G e=>hg.block b G (fun F=>by
 have:=(World.ownsRow.lt h b e).1;injection F with F
 omega)
theorem yN.set (h:yN ec n T B w v L) {g:Nat} (G:g<B) (i:Nat) (u:Value):yN ec n T B (w.setCell ⟨g,i,none⟩ u) v L:=h.keep fun b _ e=>Hs w _ u b (fun F=>by
 have:=(World.ownsRow.lt h b e).1;simp only at F
 omega)
theorem yN.row (h:yN ec n T B w v L) {g:Nat}{C:Array Value} (G:g<B):yN ec n T B (w.setRow g C) v L:=h.keep fun b _ e=>setRow_other w g b _ (fun F=>by
 have:=(World.ownsRow.lt h b e).1
 omega)
theorem yN.shape (h:yN ec n T B w v L):∃A c,v=.slice A L.length c:=by
 rcases h.2 with ⟨rfl,F⟩|⟨g,xz,cur,rfl,_⟩
 ·exact⟨none,0,by rw[F]⟩
 ·exact⟨_,xz,rfl⟩
theorem Ye (w:World) (a:α) (C:Array Value) (T:TypeId) (h:(ec a).toArray=C):jE ec n (w.alloc (.cells C T)) (.slice (some ⟨w.heap.size,0,none⟩) 1 1) [a]:=by
 subst h;refine⟨_,1,rfl,Nat.le_refl _,by unfold maxLen;omega,fun _=>⟨w.heap.size,0,rfl,by simp,fun j F k u G=>?_⟩⟩;obtain rfl:j=0:=by simpa using F
 rw[Nat.zero_mul,Nat.zero_add,z7 (Xh w _) k]
 simpa using G
theorem Elt.run_append (E:Elt ec P n T SL) {x:Value}{l m:List α} (ty:TypeId) (M:∀a∈m,P a) (I:yN ec n T B w v l) (hx:jE ec n w x m) (a6:l.length+m.length<=1000000) (ae:B<=w.heap.size):
  ∃F w',(Builtin.append_ #[SL,SL] ty #[v,x]).run prog w=.ok F w'/\yN ec n T B w' F (l ++ m)/\w.grownBy w' v.ownBlock/\(F.ownBlock=v.ownBlock\/F.ownBlock=some w.heap.size):=by
 obtain⟨G,z,J,a4,ag,a2,ab⟩:=E.info;obtain⟨A,c,rfl,aj,ak,N⟩:=hx;have ah:(l ++ m).length=l.length+m.length:=by simp
 rcases A with _|K
 ·have O:m=[]:=by
   rcases m with _|⟨x,m⟩
   ·rfl
   ·obtain⟨_,_,h,_⟩:=N (by simp);cases h
  subst O;refine⟨v,w,?_,by rw[List.append_nil];exact I,World.grownBy.refl w _,.inl rfl⟩;rcases I.2 with ⟨rfl,O⟩|⟨g,xz,cur,rfl,_,_,a5,_⟩
  ·simp[Builtin.append_,run_underlying E.under,sizeOf,typeInfo,J,Builtin.lenOf,Builtin.firstCells]
  ·simp[Builtin.append_,run_underlying E.under,sizeOf,typeInfo,J,Builtin.lenOf,Builtin.firstCells,a5,storeCells]
 ·have z2:∀j u,(m.map ec).flatten[j]?=some u->w.cell? (K.add j)=some u:=by
   intro j u aa;obtain⟨a1,a7⟩:=E.ecs_get M aa;obtain⟨b,a0,e,_,ad⟩:=N (Nat.lt_of_le_of_lt (Nat.zero_le _) a1);injection e with e;subst e;rw[y9];have:=ad (j / n) a1 (j % n) u a7;rw[show a0+j / n*n+j % n=a0+j from by rw[Nat.add_assoc,Nat.div_add_mod' j n]]at this;exact this
  have a3:(l.length+m.length)*G.bytes<=140737488355328:=Nat.le_trans (Nat.mul_le_mul a6 a2) (by decide);obtain⟨F,w',ai,af,a8,_,a9⟩:=run_append_own_at (P:=prog) w B SL ty T G z n G.bytes E.under J a4 ag rfl ab E.pos v l.length (l.map ec).flatten I K m.length c (m.map ec).flatten (E.ecs_length M) z2 (E.ecs_one m) (by unfold maxLen;omega) a3 ae;refine⟨F,w',ai,?_,a8,a9⟩;unfold yN;rw[ah,List.map_append,List.flatten_append];exact af
theorem Elt.wp_append (E:Elt ec P n T SL) {o:Oper}{a:Act}{G:Act->World->Prop}{Q:Exit->Act->World->Prop} (s y:Operand) (I:o.op=.call { callee:=.builtin .append,args:=#[s,y],argTypes:=#[SL,SL] })
  {x:Value} {l m:List α} (K:a.eval s=v) (a3:a.eval y=x) (N:∀a∈m,P a) (O:yN ec n T B w v l) (hx:jE ec n w x m) (J:l.length+m.length<=1000000) (a1:B<=w.heap.size)
  (h:∀F w',yN ec n T B w' F (l ++ m)->w.grownBy w' v.ownBlock->(F.ownBlock=v.ownBlock\/F.ownBlock=some w.heap.size)->G (a.put o.dst F) w'):o.wp prog a w G Q:=by
 obtain⟨F,w',a4,a2,M,a0⟩:=E.run_append (w:=w) o.type N O hx J a1;unfold Oper.wp execOp;simp only[I,resolve,invoke,builtin,Sem.run_bind,Sem.run_pure,Result.andThen_ok,List.map_toArray,List.map_cons,List.map_nil,K,a3,a4];exact h F w' a2 M a0
theorem Elt.wpList_append (E:Elt ec P n T SL) {ops:Array Oper}{rest:List Oper}{o:Oper}{a:Act}{Q:Exit->Act->World->Prop} (I:o.guard=none) (s y:Operand) (G:o.op=.call { callee:=.builtin .append,args:=#[s,y],argTypes:=#[SL,SL] })
  {x:Value} {l m:List α} (K:a.eval s=v) (a4:a.eval y=x) (O:∀a∈m,P a) (a0:yN ec n T B w v l) (hx:jE ec n w x m) (J:l.length+m.length<=1000000) (a2:B<=w.heap.size)
  (h:∀F w',yN ec n T B w' F (l ++ m)->w.grownBy w' v.ownBlock->(F.ownBlock=v.ownBlock\/F.ownBlock=some w.heap.size)->wpList prog ops Q rest (a.put o.dst F) w'):wpList prog ops Q (o :: rest) a w:=
 wpList_plain I fun _ N=>E.wp_append s y G K a4 O a0 hx J a2 fun F w' a3 M a1=>N _ _ (h F w' a3 M a1)
end
end
def VB (n:Int):List Value:=[.int .i64 n]
theorem z9s:(prog.info? 3).map (fun i=>(i.zero,i.size,decide (i.bytes<=100000)))=some (some (.int .i64 0),1,true):=by kernel_rfl
theorem Zk:Elt VB (fun _=>True) 1 3 50:=by
 refine⟨by omega,fun _ _=>rfl,fun a u J=>by obtain rfl:=List.mem_singleton.1 J;rfl,by kernel_rfl,by kernel_rfl,?_⟩;obtain⟨i,G,h⟩:=Option.map_eq_some_iff.1 z9s;injection h with I h;injection h with K F;exact⟨i,_,G,I,K,of_decide_eq_true F,rfl⟩
section
open Go.ChangeShapes Go.WideShapes Go.ChangeAt Go.RowKit Go.Deep
section
variable {H:Type}{enc:TypeId×Value->H}{w:World}{base:Nat}{spare:Nat->Bool}{held:Bool}{fuel:Nat}{cs:List Value}{x:DataW H×List MemPlace}
theorem Elt.trod {α:Type}{ec:α->List Value}{P:α->Prop}{n:Nat}{T SL:TypeId} (E:Elt ec P n T SL) (M:α) (aa:P M)
  (af:∀{fuel:Nat} {cs:List Value} {x:DataW H×List MemPlace},DataW.trod enc prog w base spare held fuel T cs=some x->∃a,P a/\cs=ec a)
  (h:DataW.trod enc prog w base spare held fuel SL cs=some x):∃v L,cs=[v]/\jE ec n w v L/\∀a∈L,P a:=by
 rcases open_slice E.under h with ⟨rfl,_⟩|⟨a,len,xz,m,k,D,ah,rfl,_,hl,a4,a6,_,O⟩
 ·exact⟨_,[],rfl,⟨none,0,rfl,Nat.le_refl _,Nat.zero_le _,z2K.nil _ _⟩,fun t G=>by cases G⟩
 ·have aj:len<=m:=by rw[a6];split <;> omega
  rw[E.cells]at O;have F:∀i,∃t:α,P t/\(i<len->∀j u,(ec t)[j]?=some u->w.cell? (a.add (i*n+j))=some u):=by
   intro i;by_cases J:i<len
   ·obtain⟨ai,a3,G⟩:=O i (by omega);obtain⟨t,N,rfl⟩:=af G;obtain⟨_,ag,a1⟩:=World.cells?_some a3;refine⟨t,N,fun _ j u I=>?_⟩;have ae:j<n:=by
     have:=(List.getElem?_eq_some_iff.1 I).1;rw[E.len t N]at this;exact this
    rw[<-Go.Deep.add_add,a1 j ae];exact I
   ·exact⟨M,aa,fun h=>absurd h J⟩
  refine⟨_,(List.range len).map fun i=>(F i).choose,rfl,⟨some a,xz,by simp,by simpa using hl,a4,fun a9=>?_⟩,fun t G=>?_⟩
  ·have a5:0<len:=by simpa using a9
   have a0:=E.pos;obtain⟨b,ad,a7⟩:=a;have a2:0<(ec (F 0).choose).length:=by rw[E.len _ (F 0).choose_spec.1];exact a0
   have K:=(F 0).choose_spec.2 a5 0 _ (List.getElem?_eq_getElem a2);have ab:a7=none:=by simpa [Addr.add] using World.cell?_spot K
   subst ab;refine⟨b,ad,rfl,?_,fun i J=>?_⟩
   ·have:=World.block_lt_of_cell? w _ K;rw[y9]at this;exact this
   ·have a8:i<len:=by simpa using J
    simp only[List.getElem_map,List.getElem_range];intro j u I;have:=(F i).choose_spec.2 a8 j u I;rw[y9]at this;rw[<-this,Nat.add_assoc]
  ·obtain⟨i,_,rfl⟩:=List.mem_map.1 G;exact(F i).choose_spec.1
end
end
end Go.Proofs.YtjlinimnnbfmaaaGreatDoor
