/-
  '!=' of attestations, kept whole; a certificate and a trusted part that have nothing.
-/
import Derived.Test.YtjlinimnnbfmaaaGreatDoorPlBs17
import Derived.Defers
import Derived.Laws.NewBlocks
import Derived.Laws.Pointers
import Derived.RegionCalls
import Derived.Tactics
import Derived.Tactics2
set_option maxRecDepth 20000
set_option maxHeartbeats 6400000
namespace Go.Proofs.YtjlinimnnbfmaaaGreatDoor
open Go.RowKit Go.Proofs.Tryz
structure Zl where
 i:Int
 n:Int
 V:yV
 s:ym
 e:Int
structure Zl.Good (t:Zl):Prop where
 V:t.V.Good
 s:t.s.Ok
 i1:1<=t.i
 i2:t.i<=21
 n1:0<=t.n
 n2:t.n<=1000
def jz (i n:Int) (V:yV):Zl:=if vH V=0 then ⟨i,n,yq V (jH V),jH V,yM V (jH V)⟩ else ⟨i,n,V,jH V,vH V⟩
structure TaM where
 t:Zl
 a:y8
 e:Int
def JO (t:Zl):TaM:=⟨t,ju,8⟩
noncomputable def qX (t:Zl) (q:yw):TaM:=
  if q.e=0 then
    (if yM t.V q.s=0 then ⟨⟨t.i,t.n,yq t.V q.s,q.s,0⟩,jZ ⟨t.i,q.a.ki,q.a.vi,q.a.ph,q.a.ha,q.a.pv,q.a.pa,q.a.tg⟩,0⟩
     else ⟨⟨t.i,t.n,yq t.V q.s,t.s,yM t.V q.s⟩,ju,8⟩)
  else ⟨t,ju,q.e⟩
noncomputable def QB (t:Zl) (v:Int):TaM:=if t.e=0 then qX t (vy t.s v) else JO t
noncomputable def Zb (t:Zl) (b:kR) (a:vU):TaM:=if t.e=0 then qX t (yi t.s t.n b a) else JO t
noncomputable def vO (t:Zl) (c:YL):TaM:=if t.e=0 then qX t (yl t.s t.n c) else JO t
noncomputable def QZ (t:Zl) (v:Int) (l:List y8):vU×Int:=if t.e=0 then vu t.i t.n v l else (Zy,8)
theorem z7k {a:y8}{i:Int} (h1:1<=i) (h2:i<=21) (h:vA ⟨1,a.ki,a.vi,a.ph,a.ha,a.pv,a.pa,a.tg⟩=true):vA ⟨i,a.ki,a.vi,a.ph,a.ha,a.pv,a.pa,a.tg⟩=true:=by
 have h3:=ZJ h;simp only at h3;unfold vA at h⊢;simp only at h⊢;rw[if_neg (by omega)]at h;rw[if_neg (by omega)];exact h
theorem Jg {i n:Int}{V:yV} (g:V.Good) (h1:1<=i) (h2:i<=21) (h3:0<=n) (F:n<=1000):(jz i n V).Good:=by
 unfold jz;split
 ·exact⟨V0 g (kZ V),kZ V,h1,h2,h3,F⟩
 ·exact⟨g,kZ V,h1,h2,h3,F⟩
theorem xV {t:Zl}{q:yw} (g:t.Good) (hq:q.Ok):(qX t q).t.Good:=by
 have:=V0 g.V hq.s;unfold qX;split
 ·split
  ·exact⟨this,hq.s,g.i1,g.i2,g.n1,g.n2⟩
  ·exact⟨this,g.s,g.i1,g.i2,g.n1,g.n2⟩
 ·exact g
theorem z7l (t:Zl) (q:yw):(qX t q).t.n=t.n:=by
 unfold qX;split
 ·split <;> rfl
 ·rfl
theorem xw {t:Zl}{q:yw} (hq:q.Ok):(qX t q).a.Ok:=by
 unfold qX;split
 ·split
  ·exact ZO ⟨hq.a.ha,hq.a.pa,hq.a.tg⟩
  ·exact qf
 ·exact qf
theorem z2k {t:Zl} (g:t.Good) (v:Int):(QB t v).t.Good/\(QB t v).a.Ok:=by
 unfold QB;split
 ·exact⟨xV g (z7b g.s v),xw (z7b g.s v)⟩
 ·exact⟨g,qf⟩
theorem z6D {t:Zl} (g:t.Good) (b:kR) {a:vU} (ha:a.Ok):(Zb t b a).t.Good/\(Zb t b a).a.Ok:=by
 unfold Zb;split
 ·exact⟨xV g (z4u g.s ha),xw (z4u g.s ha)⟩
 ·exact⟨g,qf⟩
theorem z55 {t:Zl} (g:t.Good) {c:YL} (F:c.Ok):(vO t c).t.Good/\(vO t c).a.Ok:=by
 unfold vO;split
 ·exact⟨xV g (z26 F),xw (z26 F)⟩
 ·exact⟨g,qf⟩
section
theorem z2l {w:World}{g:Nat}{C:Array Value}{t:TypeId} (h:w.heap[g]?=some (.cells C t (0,0))) {o n:Nat} (hn:o+n<=C.size):w.there g o n:=fun j F=>by
 refine⟨?_,zz h _⟩;rw[z7 h,Array.getElem?_eq_getElem (by omega)];rfl
def jA (w:World) (g o:Nat) (S:Array Value):World:=w.setCells g o S.toList
theorem Vj {w:World}{g:Nat}{t:TypeId}{pre F post:List Value}{S:Array Value} (h:w.heap[g]?=some (.cells (pre ++ (F ++ post)).toArray t (0,0))) (he:F.length=S.size) {o:Nat} (ho:o=pre.length):
  (jA w g o S).heap[g]?=some (.cells (pre ++ (S.toList ++ post)).toArray t (0,0)):=by
 subst ho;have:=vY S.toList pre.length w _ h;rw[yI S.toList pre F post (by simpa using he)]at this;exact this
theorem Zq (w:World) (g o:Nat) (S:Array Value):w.grownBy (jA w g o S) (some g):=jg g _ _ _
theorem Qs (w:World) (g o:Nat) (S:Array Value):(jA w g o S).heap.size=w.heap.size:=vf g _ _ _
theorem je (w:World) {g k:Nat} (o:Nat) (S:Array Value) (F:k≠g):(jA w g o S).heap[k]?=w.heap[k]?:=by
 by_cases h:k<w.heap.size
 ·exact(Zq w g o S).block k h (fun e=>F (by injection e))
 ·rw[Array.getElem?_eq_none (by rw[Qs];omega),Array.getElem?_eq_none (by omega)]
theorem Xl {w:World}{g o:Nat}{t:TypeId}{C S:Array Value} (hg:w.heap[g]?=some (.cells C t (0,0))) (F:S.size=35) (h1:S.all (·.oneCell')=true) (ho:o+35<=C.size):
  yF (.pointer (some ⟨g,o,none⟩)) (.agg S) w=.ok .skip (jA w g o S):=by
 have:=run_storeAt_mid (P:=prog) w g o 40 S (z2l hg (by rw[F];exact ho)) (by rw[xj,F]) h1;unfold yF execOp;simp only[Sem.run_bind,Sem.run_pure,Result.andThen_ok,this];rfl
theorem Zc {pre S F:List Value}{C:Array Value} (I:C=(pre ++ (S ++ F)).toArray) {k j:Nat} (G:k=pre.length+S.length+j) (u:Value):C.setIfInBounds k u=(pre ++ (S ++ F.set j u)).toArray:=by
 subst I G;rw[List.setIfInBounds_toArray,List.set_append_right _ _ (by omega),List.set_append_right _ _ (by omega),show pre.length+S.length+j - pre.length - S.length=j from by omega]
theorem ZD {w:World}{g:Nat}{t:TypeId}{pre S F:List Value} (h:w.heap[g]?=some (.cells (pre ++ (S ++ F)).toArray t (0,0))) {k j:Nat} (G:k=pre.length+S.length+j):w.cell? ⟨g,k,none⟩=F[j]?:=by
 subst G;rw[z7 h,List.getElem?_toArray,List.getElem?_append_right (by omega),List.getElem?_append_right (by omega),show pre.length+S.length+j - pre.length - S.length=j from by omega]
theorem ZE {w:World}{g:Nat}{t:TypeId}{pre S:List Value} (h:w.heap[g]?=some (.cells (pre ++ S).toArray t (0,0))) {k:Nat} (F:k<pre.length):w.cell? ⟨g,k,none⟩=pre[k]?:=by
 rw[z7 h,List.getElem?_toArray,List.getElem?_append_left F]
theorem KM {w:World}{g:Nat}{t:TypeId}{pre S G:List Value} (h:w.heap[g]?=some (.cells (pre ++ (S ++ G)).toArray t (0,0))) {o:Nat} (ho:o=pre.length):w.rangeAt g o S:=fun j u F=>by
 subst ho;rw[z7 h,List.getElem?_toArray,List.getElem?_append_right (by omega),Nat.add_sub_cancel_left,List.getElem?_append_left (List.getElem?_eq_some_iff.1 F).1];exact F
def teh (i n:Int) (b:Option Addr):List Value:=[.int .i64 i,.int .i64 n,.pointer b]
def tet (d e:Int):List Value:=[.int .u32 d,.int .i32 0,.int .u32 0,.int .i64 e]
def tec (i n:Int) (b:Option Addr) (s:ym) (d e:Int):Array Value:=(teh i n b ++ (sel s ++ tet d e)).toArray
theorem zam {i n:Int}{b:Option Addr}{s:ym}{d e:Int} (h:s.Ok):(tec i n b s d e).size=42:=by
 unfold tec teh tet;rw[List.size_toArray,List.length_append,List.length_append,jR h];rfl
theorem zdF:(prog.info? 106).map (·.size)=some 42:=by kernel_rfl
theorem zdG:(prog.info? 106).bind (·.zero)=some (.agg (tec 0 0 none yj 0 0)):=by kernel_rfl
structure Zr (w:World) (g b c a:Nat) (t:Zl) (d:Int):Prop where
 p:w.heap[g]?=some (.cells (tec t.i t.n (some ⟨b,0,none⟩) t.s d t.e) 106 (0,0))
 v:jL w b c a t.V
 d:t.e=0->d=0
def ya (w:World) (g b c a:Nat) (t:Zl):Prop:=∃d,Zr w g b c a t d
def z7m (w:World) (v:Value):Prop:=v=.pointer none\/∃g,v=.pointer (some ⟨g,0,none⟩)/\w.heap[g]?=some (.cells (tec 0 0 none yj 0 0) 106 (0,0))
structure vw (g b a:Nat) (w w':World):Prop where
 os:w'.os=w.os
 tape:w'.tape=w.tape
 output:w'.output=w.output
 size:w.heap.size<=w'.heap.size
 block:∀k,k<w.heap.size->k≠g->k≠b->k≠a->w'.heap[k]?=w.heap[k]?
theorem vw.refl (g b a:Nat) (w:World):vw g b a w w:=⟨rfl,rfl,rfl,Nat.le_refl _,fun _ _ _ _ _=>rfl⟩
theorem vw.trans {g b a:Nat}{x y z:World} (h:vw g b a x y) (k:vw g b a y z):vw g b a x z:=
 ⟨k.os.trans h.os,k.tape.trans h.tape,k.output.trans h.output,Nat.le_trans h.size k.size,fun i h1 h2 h3 F=>(k.block i (Nat.lt_of_lt_of_le h1 h.size) h2 h3 F).trans (h.block i h1 h2 h3 F)⟩
theorem vw.of {g b a:Nat}{w w':World} (h:Below w.heap.size w w'):vw g b a w w':=⟨h.os,h.tape,h.output,h.size,fun k F _ _ _=>h.block k F⟩
theorem vw.ofv {g b a:Nat}{w w':World} (h:zJ b a w w'):vw g b a w w':=⟨h.os,h.tape,h.output,h.size,fun k F _ h2 h3=>h.block k F h2 h3⟩
theorem vw.ofg {g b a:Nat}{w w':World} (h:w.grownBy w' (some g)):vw g b a w w':=⟨h.os,h.tape,h.output,h.size,fun k F h1 _ _=>h.block k F (fun e=>h1 (by injection e))⟩
theorem vw.then {g b a:Nat}{w w' F:World} (h:vw g b a w w') (k:Below w'.heap.size w' F):vw g b a w F:=h.trans (vw.of k)
theorem vw.below {g b a B:Nat}{w0 w w':World} (h:vw g b a w w') (h0:Below B w0 w) (hg:B<=g) (I:B<=b) (ha:B<=a) (G:B<=w.heap.size):Below B w0 w':=
 h0.trans ⟨h.os,h.tape,h.output,h.size,fun k F=>h.block k (Nat.lt_of_lt_of_le F G) (by omega) (by omega) (by omega)⟩
section
variable {w w':World}{g b c a:Nat}{t:Zl}{d:Int}
theorem Zr.lt (h:Zr w g b c a t d):g<w.heap.size:=Lb h.p
theorem Zr.below (h:Zr w g b c a t d) (F:Below w.heap.size w w'):Zr w' g b c a t d:=⟨(F.block g h.lt).trans h.p,h.v.below F,h.d⟩
theorem ya.below (h:ya w g b c a t) (F:Below w.heap.size w w'):ya w' g b c a t:=by
 obtain⟨d,h⟩:=h;exact⟨d,h.below F⟩
theorem Zr.cells (h:Zr w g b c a t d):w.cell? ⟨g,0,none⟩=some (.int .i64 t.i)/\w.cell? ⟨g,1,none⟩=some (.int .i64 t.n)/\w.cell? ⟨g,2,none⟩=some (.pointer (some ⟨b,0,none⟩)):=by
 have:=h.p;unfold tec at this;exact⟨ZE this (by simp[teh]),ZE this (by simp[teh]),ZE this (by simp[teh])⟩
theorem Zr.tail (h:Zr w g b c a t d) (F:t.s.Ok):w.cell? ⟨g,38,none⟩=some (.int .u32 d)/\w.cell? ⟨g,39,none⟩=some (.int .i32 0)/\w.cell? ⟨g,40,none⟩=some (.int .u32 0)/\w.cell? ⟨g,41,none⟩=some (.int .i64 t.e):=by
 have:=h.p;unfold tec at this;have hl:=jR F;exact⟨ZD (j:=0) this (by rw[hl];rfl),ZD (j:=1) this (by rw[hl];rfl),ZD (j:=2) this (by rw[hl];rfl),ZD (j:=3) this (by rw[hl];rfl)⟩
theorem Zr.free (h:Zr w g b c a t d) (i:Nat):w.frozen? ⟨g,i,none⟩=false:=zz h.p i
theorem Zr.seal_ (h:Zr w g b c a t d) (F:t.s.Ok):zW (.pointer (some ⟨g,3,none⟩)) w=.ok (.value (.agg (zp t.s))) w:=by
 have:=h.p;unfold tec at this;exact z0v (KM this rfl) F
theorem Zr.turned (h:Zr w g b c a t d) {V':yV} (F:jL w' b c a V') (G:zJ b a w w'):Zr w' g b c a { t with V:=V' } d:=⟨h.v.other h.p (by decide) (by decide) G,F,h.d⟩
theorem Zr.own (h:Zr w g b c a t d) (G:w.heap.size<=w'.heap.size) (F:∀k,k<w.heap.size->k≠g->w'.heap[k]?=w.heap[k]?):jL w' b c a t.V:=
 h.v.kept G (fun k C T h1 h2=>F k (Lb h1) (q9 h1 h.p (by rcases h2 with rfl|rfl|rfl|rfl <;> decide)))
theorem Zr.store (h:Zr w g b c a t d) (ho:t.s.Ok) {s:ym} (F:s.Ok):yF (.pointer (some ⟨g,3,none⟩)) (.agg (zp s)) w=.ok .skip (jA w g 3 (zp s))/\Zr (jA w g 3 (zp s)) g b c a { t with s:=s } d/\vw g b a w (jA w g 3 (zp s)):=by
 refine⟨Xl h.p (zd F) (y7 s) (by rw[zam ho];omega),⟨?_,?_,h.d⟩,vw.ofg (Zq w g 3 _)⟩
 ·have:=h.p;unfold tec at this;exact Vj this (by rw[jR ho,zd F]) rfl
 ·exact h.own (Nat.le_of_eq (Qs w g 3 _).symm) (fun k _ G=>je w 3 _ G)
theorem ya.other {k:Nat}{C:Array Value}{T:TypeId} (h:ya w g b c a t) (hx:w.heap[k]?=some (.cells C T (0,0))) (h1:89≠T) (h2:162≠T) (h3:106≠T) (G:vw g b a w w'):w'.heap[k]?=some (.cells C T (0,0)):=by
 obtain⟨d,h⟩:=h;obtain⟨v0,v1,vt,F⟩:=h.v;exact(G.block k (Lb hx) (q9 h.p hx h3).symm (q9 F.p hx h1).symm (q9 F.k.q hx h2).symm).trans hx
theorem ya.byt (h:ya w g b c a t) {v:Value}{l:List UInt8} (I:qW w v l) (G:vw g b a w w'):qW w' v l:=
 I.away G.size (fun k C F=>(h.other F (by decide) (by decide) (by decide) G).trans F.symm)
end
theorem yD {I:Func}{q s:Tmp} (h:I.results=#[.cell q 54,.tmp s]) (tmps:Array Value) (w:World) (F:Nat) (J:TypeId) (G:Array Value) (v:Value)
  (hq:tmps.getD q undef=.pointer (some ⟨F,0,none⟩)) (K:tmps.getD s undef=v) (h2:w.heap[F]?=some (.cells G J (0,0))) (O:G.size=101):
  (results I tmps).run prog w=.ok (.tuple #[.agg G,v]) w:=by
 have N:tmps[q]?.getD undef=.pointer (some ⟨F,0,none⟩):=by simpa using hq
 have M:tmps[s]?.getD undef=v:=by simpa using K
 have r2:=run_loadVar_row (P:=prog) w F J 54 G (0,0) _ h2 jF rfl (by rw[vE,O]);simp[results,h,N,M,asAddr,r2]
end
section
theorem z56 (w:World):(callFunc 201 #[]).run prog w=.ok (.value (.tuple #[])) w:=run_call_mark0 func201 (by kernel_rfl) (by kernel_rfl) (by kernel_rfl) .disable (by kernel_rfl) w
theorem z7n (w:World):(callFunc 203 #[]).run prog w=.ok (.value (.tuple #[])) w:=run_call_mark0 func203 (by kernel_rfl) (by kernel_rfl) (by kernel_rfl) .enable (by kernel_rfl) w
theorem zan (a:Addr) (w:World):(callFunc 204 #[.pointer (some a)]).run prog w=.ok (.value (.tuple #[])) w:=run_call_marked func204 (by kernel_rfl) (by kernel_rfl) (by kernel_rfl) .acquire (by kernel_rfl) a w
theorem zcZ (a:Addr) (w:World):(callFunc 206 #[.pointer (some a)]).run prog w=.ok (.value (.tuple #[])) w:=run_call_marked func206 (by kernel_rfl) (by kernel_rfl) (by kernel_rfl) .releaseMerge (by kernel_rfl) a w
theorem zd0 (a:Addr) (x:Value) (u:FrameMode) (w:World) (J:w.cell? a=some x) (K:w.frozen? a=false):
  CallsD prog 155 #[.pointer (some a),.bool true] u w fun e G w'=>G=u/\(e=.returned (.tuple #[])/\w'=w.drew.setCell a (.int .u32 1)):=by
 have I:w.drew.cell? a=some x:=by go_simp
 have F:w.drew.frozen? a=false:=by go_simp
 have M:=run_call_store (P:=prog) func185 (by kernel_rfl) (by kernel_rfl) (by kernel_rfl) (by kernel_rfl) (k:=.u32) (y:=1) I F;go_enter_d func155,ntmps155;go_wp2;go_region_calls;all_goals (go_end0;exact⟨rfl,rfl⟩)
theorem zbN (a:Addr) (u:FrameMode) (w:World) (F:w.cell? a=some (.int .i32 1)) (I:w.frozen? a=false):
  CallsD prog 154 #[.pointer (some a)] u w fun e G w'=>G=u/\(e=.returned (.tuple #[])/\w'=w.setCell a (.int .i32 0)):=by
 have hd:=z56;have he:=z7n;have K:=zcZ;have M:=run_call_add (P:=prog) func207 (by kernel_rfl) (by kernel_rfl) (by kernel_rfl) .i32 (by kernel_rfl) (y:=-1) (s:=0) F I (by simp[go_sem];rfl);have J:=run_convert_to_unsafe (P:=prog) (src:=252) (dst:=256) underlying252 underlying256 (by kernel_rfl) F;go_enter_d func154,ntmps154;go_wp2;go_end0;go_wp2
theorem zdv (a:Addr) (w:World) (F:w.cell? a=some (.int .i32 0)) (G:w.frozen? a=false):
  Calls prog 153 #[.pointer (some a)] w fun e w'=>e=.returned (.tuple #[])/\w'=w.setCell a (.int .i32 1):=by
 have hd:=z56;have he:=z7n;have ha:=zan;have K:=run_call_cas_hit (P:=prog) func202 (by kernel_rfl) (by kernel_rfl) (by kernel_rfl) .i32 (by kernel_rfl) (y:=1) F G;have I:(w.setCell a (.int .i32 1)).cell? a=some (.int .i32 1):=World.cell?_setCell_same w a _ F;have J:=run_convert_to_unsafe (P:=prog) (src:=252) (dst:=256) underlying252 underlying256 (by kernel_rfl) I;go_enter func153,ntmps153;go_wp2;first|go_end0|(simp only[Exit.inBlock,Exit.then];refine Bp (results_none rfl _ _ _) rfl ?_)|refine Bp (results_none rfl _ _ _) rfl ?_
 go_wp2
theorem zdw (g F G:Nat) (a1:F≠g) (J:G≠g) (I:Value) (e:Int) (w:World) (a0:w.cell? ⟨F,0,none⟩=some (.int .i64 e)) (a2:w.cell? ⟨G,0,none⟩=some (.pointer (some ⟨g,0,none⟩)))
  (h0:w.cell? ⟨g,38,none⟩=some (.int .u32 0)) (h1:w.cell? ⟨g,39,none⟩=some (.int .i32 0)) (h3:w.cell? ⟨g,41,none⟩=some I)
  (M:w.frozen? ⟨g,38,none⟩=false) (O:w.frozen? ⟨g,39,none⟩=false) (a5:w.frozen? ⟨g,41,none⟩=false):
  Calls prog 107 #[.pointer (some ⟨g,38,none⟩),.func (.func 60) #[] #[.pointer (some ⟨F,0,none⟩),.pointer (some ⟨G,0,none⟩)]] w fun K w'=>K=.returned (.tuple #[])/\
   w'=(((w.setCell ⟨g,39,none⟩ (.int .i32 1)).setCell ⟨g,41,none⟩ (.int .i64 e)).drew.setCell ⟨g,38,none⟩ (.int .u32 1)).setCell ⟨g,39,none⟩ (.int .i32 0):=by
 have n1:(⟨F,0,none⟩:Addr)≠⟨g,39,none⟩:=fun h=>a1 (congrArg Addr.block h);have n2:(⟨G,0,none⟩:Addr)≠⟨g,39,none⟩:=fun h=>J (congrArg Addr.block h);have hl:=run_call_load (P:=prog) func152 (by kernel_rfl) (by kernel_rfl) (by kernel_rfl) .u32 (by kernel_rfl) (w:=w.setCell ⟨g,39,none⟩ (.int .i32 1)) (a:=⟨g,38,none⟩) (x:=0) ((World.cell?_setCell_other _ ⟨g,39,none⟩ ⟨g,38,none⟩ _ (by simp)).trans h0);have p1:(w.setCell ⟨g,39,none⟩ (.int .i32 1)).cell? ⟨F,0,none⟩=some (.int .i64 e):=(World.cell?_setCell_other _ ⟨g,39,none⟩ ⟨F,0,none⟩ _ n1.symm).trans a0;have p2:(w.setCell ⟨g,39,none⟩ (.int .i32 1)).cell? ⟨G,0,none⟩=some (.pointer (some ⟨g,0,none⟩)):=(World.cell?_setCell_other _ ⟨g,39,none⟩ ⟨G,0,none⟩ _ n2.symm).trans a2;have a4:(w.setCell ⟨g,39,none⟩ (.int .i32 1)).cell? ⟨g,41,none⟩=some I:=(World.cell?_setCell_other _ ⟨g,39,none⟩ ⟨g,41,none⟩ _ (by simp)).trans h3;have a6:∀(x:Bool) (w:World),(Op.unary .not (.bool x)).run prog w=.ok (.bool (!x)) w:=fun _ _=>rfl;go_enter_defers func107,ntmps107;go_wp2_with (go_at_call 153;refine(zdv ⟨g,39,none⟩ _ (by go_simp) (by go_simp)).mono ?_;rintro e w' ⟨rfl,rfl⟩);go_wp2;refine leaves_cons (f:=155) (args:=#[.pointer (some ⟨g,38,none⟩),.bool true]) (by simp) (by simp[go_sem]) ?_;refine(zd0 ⟨g,38,none⟩ (.int .u32 0) .returning _ ?_ (by simp[M])).mono ?_
 ·exact(World.cell?_setCell_other _ ⟨g,41,none⟩ ⟨g,38,none⟩ _ (by simp)).trans ((World.cell?_setCell_other _ ⟨g,39,none⟩ ⟨g,38,none⟩ _ (by simp)).trans h0)
 rintro e N a3 ⟨rfl,rfl,rfl⟩;refine leaves_cons (f:=154) (args:=#[.pointer (some ⟨g,39,none⟩)]) (by simp[settle]) (by simp[go_sem]) ?_;refine(zbN ⟨g,39,none⟩ _ _ ?_ (by simp[O])).mono ?_
 ·refine(World.cell?_setCell_other _ ⟨g,38,none⟩ ⟨g,39,none⟩ _ (by simp)).trans ?_;rw[World.cell?_drew];exact(World.cell?_setCell_other _ ⟨g,41,none⟩ ⟨g,39,none⟩ _ (by simp)).trans (World.cell?_setCell_same w _ _ h1)
 rintro e N a3 ⟨rfl,rfl,rfl⟩;simp[Leaves,settle,results,results107]
theorem oDo (g F G:Nat) (a1:F≠g) (J:G≠g) (I:Value) (e:Int) (w:World) (a0:w.cell? ⟨F,0,none⟩=some (.int .i64 e)) (a2:w.cell? ⟨G,0,none⟩=some (.pointer (some ⟨g,0,none⟩)))
  (h0:w.cell? ⟨g,38,none⟩=some (.int .u32 0)) (h1:w.cell? ⟨g,39,none⟩=some (.int .i32 0)) (h3:w.cell? ⟨g,41,none⟩=some I)
  (M:w.frozen? ⟨g,38,none⟩=false) (N:w.frozen? ⟨g,39,none⟩=false) (O:w.frozen? ⟨g,41,none⟩=false):
  Calls prog 59 #[.pointer (some ⟨g,38,none⟩),.func (.func 60) #[] #[.pointer (some ⟨F,0,none⟩),.pointer (some ⟨G,0,none⟩)]] w fun K w'=>K=.returned (.tuple #[])/\
   w'=(((w.setCell ⟨g,39,none⟩ (.int .i32 1)).setCell ⟨g,41,none⟩ (.int .i64 e)).drew.setCell ⟨g,38,none⟩ (.int .u32 1)).setCell ⟨g,39,none⟩ (.int .i32 0):=by
 have hl:=run_call_load (P:=prog) func152 (by kernel_rfl) (by kernel_rfl) (by kernel_rfl) .u32 (by kernel_rfl) h0;have a3:∀(x:Bool) (w:World),(Op.unary .not (.bool x)).run prog w=.ok (.bool (!x)) w:=fun _ _=>rfl;go_enter func59,ntmps59;go_wp2_with (first|(go_at_call 107;refine(zdw g F G a1 J I e _ a0 a2 h0 h1 h3 M N O).mono ?_;rintro e w' ⟨rfl,rfl⟩)|(go_at_call 106;go_in));go_end0;exact⟨rfl,rfl⟩
section
variable {w:World}{g b c a:Nat}{t:Zl}{d:Int}
theorem zao {W:World} (M:t.s.Ok) (x:Int) (h:W.heap[g]?=some (.cells (tec t.i t.n (some ⟨b,0,none⟩) t.s 0 t.e) 106 (0,0))):
  ((((W.setCell ⟨g,39,none⟩ (.int .i32 1)).setCell ⟨g,41,none⟩ (.int .i64 x)).drew.setCell ⟨g,38,none⟩ (.int .u32 1)).setCell ⟨g,39,none⟩ (.int .i32 0)).heap[g]?=some (.cells (tec t.i t.n (some ⟨b,0,none⟩) t.s 1 x) 106 (0,0)):=by
 have hl:=jR M;have I:=yA W h 39 (.int .i32 1);have G:=yA _ I 41 (.int .i64 x);have K:((W.setCell ⟨g,39,none⟩ (.int .i32 1)).setCell ⟨g,41,none⟩ (.int .i64 x)).drew.heap[g]?=_:=G;have J:=yA _ K 38 (.int .u32 1);have F:=yA _ J 39 (.int .i32 0);rw[F];unfold tec;rw[Zc (C:=(teh t.i t.n (some ⟨b,0,none⟩) ++ (sel t.s ++ tet 0 t.e)).toArray) rfl (j:=1) (by rw[hl];rfl),Zc rfl (j:=3) (by rw[hl];rfl),Zc rfl (j:=0) (by rw[hl];rfl),Zc rfl (j:=1) (by rw[hl];rfl)];rfl
theorem z2n (h:Zr w g b c a t d) (a0:t.s.Ok) (h0:t.e=0) (x:Int) (hx:x≠0):
  Calls prog 29 #[.pointer (some ⟨g,0,none⟩),.int .i64 x] w fun K w'=>K=.returned (.tuple #[])/\ya w' g b c a { t with e:=x }/\vw g b a w w':=by
 obtain rfl:d=0:=h.d h0;have a6:∀(O:Fn) (first xz:Array Value) (w:World),(Instr.makeFunc O first xz).run prog w=.ok (.func O first xz) w:=fun _ _ _ _=>rfl;obtain⟨r0,r1⟩:=qM w (.cells #[.pointer (some ⟨g,0,none⟩)] 30) (.cells #[.int .i64 x] 27);have J:Below w.heap.size w ((w.alloc (.cells #[.pointer (some ⟨g,0,none⟩)] 30)).alloc (.cells #[.int .i64 x] 27)):=Ba.alloc (by simp) _;have hg:=h.lt;have G:=z0 (h.below J);have a2:=z0 J;have p1:((w.alloc (.cells #[.pointer (some ⟨g,0,none⟩)] 30)).alloc (.cells #[.int .i64 x] 27)).cell? ⟨w.heap.size+1,0,none⟩=some (.int .i64 x):=z7 r1 0;have a1:((w.alloc (.cells #[.pointer (some ⟨g,0,none⟩)] 30)).alloc (.cells #[.int .i64 x] 27)).cell? ⟨w.heap.size,0,none⟩=some (.pointer (some ⟨g,0,none⟩)):=z7 r0 0;clear r0 r1 J;go_enter func29,ntmps29;go_upto_region 1 with(fail)
 generalize ((w.alloc (.cells #[.pointer (some ⟨g,0,none⟩)] 30)).alloc (.cells #[.int .i64 x] 27))=I at *;obtain⟨c0,c1,_,M⟩:=G.o.tail a0;have a5:=z0 (oDo g (w.heap.size+1) w.heap.size (by omega) (by omega) _ x I p1 a1 c0 c1 M (G.o.free 38) (G.o.free 39) (G.o.free 41));have a3:=z0 (zao a0 x G.o.p);clear c0 c1 M p1;go_wp2_with fail;refine a5.o.mono ?_;rintro K w' ⟨rfl,rfl⟩
 have N:Hd (vw g b a I ((((I.setCell ⟨g,39,none⟩ (.int .i32 1)).setCell ⟨g,41,none⟩ (.int .i64 x)).drew.setCell ⟨g,38,none⟩ (.int .u32 1)).setCell ⟨g,39,none⟩ (.int .i32 0))):=z0 ⟨rfl,rfl,rfl,by simp[World.setCell],fun k _ F _ _=>by
  rw[Hs _ _ _ _ F,Hs _ _ _ _ F];show((I.setCell ⟨g,39,none⟩ (.int .i32 1)).setCell ⟨g,41,none⟩ (.int .i64 x)).heap[k]?=_
  rw[Hs _ _ _ _ F,Hs _ _ _ _ F]⟩
 have a4:=z0 (G.o.own N.o.size (fun k h1 F=>by
  rw[Hs _ _ _ _ F,Hs _ _ _ _ F];show((I.setCell ⟨g,39,none⟩ (.int .i32 1)).setCell ⟨g,41,none⟩ (.int .i64 x)).heap[k]?=_
  rw[Hs _ _ _ _ F,Hs _ _ _ _ F]))
 generalize ((((I.setCell ⟨g,39,none⟩ (.int .i32 1)).setCell ⟨g,41,none⟩ (.int .i64 x)).drew.setCell ⟨g,38,none⟩ (.int .u32 1)).setCell ⟨g,39,none⟩ (.int .i32 0))=a7 at *;go_wp2_with fail;go_end0;exact⟨rfl,⟨1,a3.o,a4.o,fun e=>absurd e hx⟩,(vw.of a2.o).trans N.o⟩
end
end
section
attribute [local go_sem ↓] zm zq zr zL ze zn zo zM
section
variable {w:World}{g b c a:Nat}{t:Zl}
theorem z2o (h:ya w g b c a t):Calls prog 49 #[.pointer (some ⟨g,0,none⟩)] w fun e w'=>e=.returned (.bool true)/\w=w':=by
 obtain⟨_,h⟩:=h;obtain⟨_,_,h2⟩:=h.cells;clear h;go_enter func49,ntmps49;go_wp2;go_ret;exact⟨rfl,rfl⟩
theorem z6E (w:World):Calls prog 49 #[.pointer none] w fun e w'=>e=.returned (.bool false)/\w=w':=by
 go_enter func49,ntmps49;go_wp2;go_ret;exact⟨rfl,rfl⟩
theorem z6F {g:Nat} (F:w.heap[g]?=some (.cells (tec 0 0 none yj 0 0) 106 (0,0))):w.cell? ⟨g,2,none⟩=some (.pointer none):=by
 unfold tec at F;exact ZE F (by decide)
theorem z57 {v:Value} (h:z7m w v):Calls prog 49 #[v] w fun e w'=>e=.returned (.bool false)/\w=w':=by
 rcases h with rfl|⟨g,rfl,F⟩
 ·exact z6E w
 ·have h3:=z6F F;clear F;go_enter func49,ntmps49;go_wp2;go_ret;exact⟨rfl,rfl⟩
theorem z0Z (h:ya w g b c a t) (F:t.Good):Calls prog 20 #[.pointer (some ⟨g,0,none⟩)] w fun e w'=>e=.returned (.int .i64 t.e)/\w=w':=by
 have G:=z0 (z2o h);obtain⟨_,h⟩:=h;obtain⟨_,_,_,h3⟩:=h.tail F.s;clear h;go_enter func20,ntmps20;go_wp2_with fail;refine G.o.mono ?_;rintro e I ⟨rfl,rfl⟩;go_wp2;go_ret;exact⟨rfl,rfl⟩
theorem zbO {v:Value} (h:z7m w v):Calls prog 20 #[v] w fun e w'=>e=.returned (.int .i64 8)/\w=w':=by
 have F:=z0 (z57 h);clear h;go_enter func20,ntmps20;go_wp2_with fail;refine F.o.mono ?_;rintro e G ⟨rfl,rfl⟩;go_wp2;go_ret;exact⟨rfl,rfl⟩
theorem vP (h:ya w g b c a t) (G:t.Good):Calls prog 19 #[.pointer (some ⟨g,0,none⟩)] w fun e w'=>e=.returned (.bool (t.e != 0))/\w=w':=by
 have F:=z0 (z0Z h G);obtain⟨e,he⟩:∃q,t.e=q:=⟨_,rfl⟩
 rw[he]at F⊢;clear he;clear h;go_enter func19,ntmps19;go_wp2_with fail;refine F.o.mono ?_;rintro e I ⟨rfl,rfl⟩;go_wp2;go_ret;exact⟨rfl,rfl⟩
theorem zd1 {v:Value} (h:z7m w v):Calls prog 19 #[v] w fun e w'=>e=.returned (.bool true)/\w=w':=by
 have F:=z0 (zbO h);clear h;go_enter func19,ntmps19;go_wp2_with fail;refine F.o.mono ?_;rintro e G ⟨rfl,rfl⟩;go_wp2;go_ret;exact⟨rfl,rfl⟩
theorem z2p (h:ya w g b c a t) (K:t.Good):Calls prog 18 #[.pointer (some ⟨g,0,none⟩)] w fun e w'=>e=.returned (.agg (zp t.s))/\Below w.heap.size w w':=by
 have F:Below w.heap.size w (w.alloc (.cells (zp yj) 40)):=Ba;have a1:=z0 (z2o (h.below F));have M:zW (.pointer (some ⟨g,3,none⟩)) (w.alloc (.cells (zp yj) 40))=.ok (.value (.agg (zp t.s))) (w.alloc (.cells (zp yj) 40)):=by
  obtain⟨_,h⟩:=h;exact(h.below F).seal_ K.s
 have I:=Xh w (.cells (zp yj) 40);have a0:qj w=.ok (.value (.pointer (some ⟨w.heap.size,0,none⟩))) (w.alloc (.cells (zp yj) 40)):=zX w;obtain⟨S,G⟩:=nm (zp t.s);have J:Hd (S.size=35/\S.all (·.oneCell')=true):=z0 (by rw[<-G.o];exact⟨zd K.s,y7 _⟩);have a3:=yn I (zd qp) J.o.1 J.o.2;have O:=z0 (qG (C:=S) I);have N:=z0 (zR (C:=S) F (Nat.le_refl _));rw[G.o];rw[G.o]at M;obtain⟨Z,a2⟩:=nm (zp yj);rw[a2.o]at F a0 a3 O N a1 M;clear h I F G;go_enter func18,ntmps18;go_upto_region 1 with(fail)
 clear a0;generalize (w.alloc (.cells Z 40))=w0 at *;go_wp2_with fail;refine a1.o.mono ?_;rintro e a4 ⟨rfl,rfl⟩;go_wp2;try simp only[Exit.inBlock,Exit.then]
 refine Bp (Jd rfl _ _ _ _ _ rfl O.o J.o.1) rfl ⟨rfl,N.o⟩
theorem zdx {v:Value} (h:z7m w v):Calls prog 18 #[v] w fun e w'=>e=.returned (.agg (zp yj))/\Below w.heap.size w w':=by
 have I:Below w.heap.size w (w.alloc (.cells (zp yj) 40)):=Ba
 have M:Hd (Calls prog 49 #[v] (w.alloc (.cells (zp yj) 40)) fun e w'=>e=.returned (.bool false)/\(w.alloc (.cells (zp yj) 40))=w'):=z0 (z57 (by
  rcases h with rfl|⟨g,rfl,N⟩
  ·exact .inl rfl
  ·exact .inr ⟨g,rfl,(I.block g (Lb N)).trans N⟩))
 have F:=Xh w (.cells (zp yj) 40);have K:qj w=.ok (.value (.pointer (some ⟨w.heap.size,0,none⟩))) (w.alloc (.cells (zp yj) 40)):=zX w;have O:∀W,jn W=.ok (.value (.agg (zp yj))) W:=yd;obtain⟨Z,J⟩:=nm (zp yj);have G:Hd (Z.size=35/\Z.all (·.oneCell')=true):=z0 (by rw[<-J.o];exact⟨zd qp,y7 _⟩);rw[J.o]at I K M F O⊢;have a3:=yn F G.o.1 G.o.1 G.o.2;have a1:=z0 (qG (C:=Z) F);have a0:=z0 (zR (C:=Z) I (Nat.le_refl _));clear h F I J;go_enter func18,ntmps18;go_upto_region 1 with(fail)
 clear K;generalize (w.alloc (.cells Z 40))=w0 at *;go_wp2_with fail;refine M.o.mono ?_;rintro e a2 ⟨rfl,rfl⟩;go_wp2;try simp only[Exit.inBlock,Exit.then]
 refine Bp (Jd rfl _ _ _ _ _ rfl a1.o G.o.1) rfl ⟨rfl,a0.o⟩
end
end
section
attribute [local go_sem ↓] zm zq zr zL ze zn zo zM
section
variable {w:World}{g b c a:Nat}{t:Zl}
theorem vw.low {w W W':World} (h:vw g b a w W) (k:Below w.heap.size W W'):vw g b a w W':=
 ⟨k.os.trans h.os,k.tape.trans h.tape,k.output.trans h.output,Nat.le_trans h.size k.size,fun i h1 h2 h3 F=>(k.block i h1).trans (h.block i h1 h2 h3 F)⟩
theorem ya.kept {W:World} (h:ya w g b c a t) (G:w.heap.size<=W.heap.size) (F:∀(k:Nat) (C:Array Value) (T:TypeId),w.heap[k]?=some (Obj.cells C T (0,0))->T=5\/T=89\/T=165\/T=162\/T=106->W.heap[k]?=w.heap[k]?):ya W g b c a t:=by
 obtain⟨d,h⟩:=h;exact⟨d,(F _ _ _ h.p (.inr (.inr (.inr (.inr rfl))))).trans h.p,h.v.kept G (fun k C T h1 h2=>F k C T h1 (by rcases h2 with h2|h2|h2|h2 <;> simp[h2])),h.d⟩
theorem ya.aside {W:World}{p:Nat}{Z:Array Value}{U:TypeId} (h:ya w g b c a t) (hp:w.heap[p]?=some (.cells Z U (0,0))) (G:∀T:TypeId,T=5\/T=89\/T=165\/T=162\/T=106->T≠U) (I:w.heap.size<=W.heap.size) (F:∀k,k≠p->W.heap[k]?=w.heap[k]?):ya W g b c a t:=
 h.kept I (fun k _ T h1 h2=>F k (q9 h1 hp (G T h2)))
theorem z6G:∀T:TypeId,T=5\/T=89\/T=165\/T=162\/T=106->T≠54:=by
 intro T h;rcases h with rfl|rfl|rfl|rfl|rfl <;> decide
def Y4 (t:Zl) (s:ym):Zl:=⟨t.i,t.n,yq t.V s,t.s,yM t.V s⟩
theorem z2q (h:ya w g b c a t) (G:t.Good) (h0:t.e=0) (s:ym) (hs:s.Ok) (hK:yB 1 w):
  Calls prog 30 #[.pointer (some ⟨g,0,none⟩),.agg (zp s)] w fun e w'=>e=.returned (.bool (yM t.V s == 0))/\ya w' g b c a (Y4 t s)/\vw g b a w w':=by
 obtain⟨d,h⟩:=h;have hb0:Below w.heap.size w (w.alloc (.cells (zp s) 40)):=Ba;have hr0:=Xh w (.cells (zp s) 40);have HE:=z0 (h.below hb0);have HG:=z0 G;have H0:=z0 h0;have HB:=z0 hb0;have HSZ:=z0 (zd hs);have HKP:=z0 (fun W (hv:jL W b c a t.V) hk=>z2e hv G.V s hs hk);have HKS:=z0 (fun W (hb:Below w.heap.size w W)=>hK.below hb);obtain⟨S,HS⟩:=nm (zp s);rw[HS.o]at hr0 HE HB HSZ HKP;rw[HS.o];have HR:=z0 hr0;clear h hb0 hr0 hs HS G h0 hK;go_enter func30,ntmps30;go_upto_region 1 with(fail)
 generalize (w.alloc (.cells S 40))=wz at *;have HF:Hd (∀W,Below wz.heap.size wz W->W.cell? ⟨g,2,none⟩=some (.pointer (some ⟨b,0,none⟩))/\zW (.pointer (some ⟨w.heap.size,0,none⟩)) W=.ok (.value (.agg S)) W):=z0 (fun W hb=>⟨(HE.o.below hb).cells.2.2,zj ((hb.block _ (Lb HR.o)).trans HR.o) HSZ.o⟩);have hbd:Below wz.heap.size wz wz.drew:=(Below.refl _ _).drew;obtain⟨E,HEE⟩:=nm (yM t.V s);rw[HEE.o]at HKP;refine Rh (S:=fun W=>W.cell? ⟨g,2,none⟩=some (.pointer (some ⟨b,0,none⟩))/\zW (.pointer (some ⟨w.heap.size,0,none⟩)) W=.ok (.value (.agg S)) W) (by kernel_rfl) (HF.o _ hbd) (fun hHeld=>?_);refine' z5 0 (h:=z5 1 (h:=z5 2 (h:=vX 3 (h:=vX 4 (h:=?_)))));refine qc 5 (h:=fun K hK=>?_);go_simp;refine(HKP.o _ (HE.o.below hbd).v (HKS.o _ (HB.o.trans (hbd.mono HB.o.size)))).mono ?_;rintro e w1 ⟨rfl,hv1,ht1⟩;have HE1:=z0 ((HE.o.below hbd).turned hv1 ht1);have HT1:=z0 (((vw.of HB.o).trans (vw.of (g:=g) (b:=b) (a:=a) hbd)).trans (vw.ofv (g:=g) ht1));have HF1:w1.cell? ⟨g,2,none⟩=some (.pointer (some ⟨b,0,none⟩))/\zW (.pointer (some ⟨w.heap.size,0,none⟩)) w1=.ok (.value (.agg S)) w1:=by
  obtain⟨_,_,c2⟩:=HE1.o.cells;exact⟨c2,zj ((HE.o.below hbd).v.box ((hbd.block _ (Lb HR.o)).trans HR.o) ht1) HSZ.o⟩
 refine hK.out _ _ HF1 (fun hHeld=>?_);clear hK K;try simp only[zx]
 refine' z5 6 (h:=?_);refine wpAnyH_done (by kernel_rfl) ?_ _;clear hHeld hbd hv1 ht1 HF1;by_cases hE:E=0
 ·subst hE;go_wp2;go_ret;refine⟨by rw[HEE.o];rfl,⟨d,?_⟩,HT1.o⟩;have:=HE1.o;rw[H0.o]at this;unfold Y4;rw[HEE.o];exact this
 ·have HHA:=z0 (z2n HE1.o HG.o.s H0.o E hE);have hE2:(E == 0)=false:=by simpa using hE
  go_wp2_with fail;refine HHA.o.mono ?_;rintro e w2 ⟨rfl,h2,t2⟩;have HR2:=z0 (And.intro h2 t2);clear h2 t2 HHA;go_wp2;go_ret;refine⟨by rw[HEE.o,hE2];rfl,?_,HT1.o.trans HR2.o.2⟩;have:=HR2.o.1;unfold Y4;rw[HEE.o];exact this
def vp (g b c a:Nat) (r:TaM) (w:World) (e:Ending) (w':World):Prop:=e=.returned (.tuple #[.agg (zy r.a),.int .i64 r.e])/\ya w' g b c a r.t/\vw g b a w w'
theorem KN {W:World}{p:Nat}{Z:Array Value}{r:TaM} (h:ya W g b c a r.t) (K:vw g b a w W) (hp:W.heap[p]?=some (.cells Z 54 (0,0))) (I:Z.size=101) (J:w.heap.size<=p) (ho:r.a.Ok):
  Z8 (.pointer (some ⟨p,0,none⟩)) (.agg (zy r.a)) W=.ok .skip (qb W p (zy r.a))/\(qb W p (zy r.a)).heap[p]?=some (.cells (zy r.a) 54 (0,0))/\ya (qb W p (zy r.a)) g b c a r.t/\vw g b a w (qb W p (zy r.a)):=by
 have F:=qA (C:=zy r.a) (Below.refl w.heap.size W) J;exact⟨qF hp I (zg ho) (qD _),qU hp,h.aside hp z6G F.size (fun k G=>yO W _ G),K.low F⟩
theorem Jh (h:ya w g b c a t) (G:t.Good) (h0:t.e=0) (q:yw) (hq:KE t.s q) (hK:∀W,vw g b a w W->yB 1 W):
  Calls prog 51 #[.pointer (some ⟨g,0,none⟩),.agg (zp q.s),.agg (zy q.a),.int .i64 q.e] w (vp g b c a (qX t q) w):=by
 have hal:zt ((w.alloc (.cells (zp q.s) 40)).alloc (.cells (zy q.a) 54))=.ok (.value (.pointer (some ⟨w.heap.size+2,0,none⟩))) (((w.alloc (.cells (zp q.s) 40)).alloc (.cells (zy q.a) 54)).alloc (.cells (zy ju) 54)):=by
  have:=zC ((w.alloc (.cells (zp q.s) 40)).alloc (.cells (zy q.a) 54))
  rwa[show((w.alloc (.cells (zp q.s) 40)).alloc (.cells (zy q.a) 54)).heap.size=w.heap.size+2 from by simp]at this
 obtain⟨hr0,hr1,hr2⟩:=xU w (.cells (zp q.s) 40) (.cells (zy q.a) 54) (.cells (zy ju) 54);have hb0:Below w.heap.size w (((w.alloc (.cells (zp q.s) 40)).alloc (.cells (zy q.a) 54)).alloc (.cells (zy ju) 54)):=(Ba.alloc (by simp) _).alloc (by simp;omega) _;have HE:=z0 (h.below hb0);have HB:=z0 hb0;have HG:=z0 G;have H0:=z0 h0;have HQ:=z0 hq;have HKT:=z0 hK;have HSZ:=z0 (And.intro (zd hq.ok.s) (zg hq.ok.a));have HZZ:Hd ((zy ju).size=101/\True):=z0 ⟨zg qf,trivial⟩;have HPP:Hd (w.heap.size<=w.heap.size+2):=z0 (by omega);obtain⟨S,HS⟩:=nm (zp q.s);obtain⟨A,HA⟩:=nm (zy q.a);obtain⟨Z,HZ⟩:=nm (zy ju);obtain⟨E,HEE⟩:=nm (q.e);rw[HS.o,HA.o]at hal hr0 hr1 hr2 HE HB HSZ;rw[HZ.o]at hal hr0 hr1 hr2 HE HB HZZ;rw[HS.o,HA.o,HEE.o];have HR0:=z0 hr0;have HR1:=z0 hr1;have HR2:=z0 hr2;clear h hb0 hr0 hr1 hr2 hq G h0 hK;go_enter func51,ntmps51;go_upto_region 1 with(fail)
 clear hal;generalize (((w.alloc (.cells S 40)).alloc (.cells A 54)).alloc (.cells Z 54))=wz at *;by_cases hE:E=0
 ·subst hE;have ls:=zj HR0.o HSZ.o.1;have HKP:=z0 (z2q HE.o HG.o H0.o q.s HQ.o.ok.s (HKT.o wz (vw.of HB.o)));rw[HS.o]at HKP;obtain⟨kb,HKB⟩:=nm ((yM t.V q.s == 0));rw[HKB.o]at HKP;go_upto_region 3 with(fail)
  go_wp2_with fail;refine HKP.o.mono ?_;rintro e w1 ⟨rfl,h1,t1⟩;have HQ0:Hd (w1.heap[w.heap.size]?=some (.cells S 40 (0,0))):=z0 (HE.o.other HR0.o (by decide) (by decide) (by decide) t1);have HQ1:Hd (w1.heap[w.heap.size+1]?=some (.cells A 54 (0,0))):=z0 (HE.o.other HR1.o (by decide) (by decide) (by decide) t1);have HQ2:Hd (w1.heap[w.heap.size+2]?=some (.cells Z 54 (0,0))):=z0 (HE.o.other HR2.o (by decide) (by decide) (by decide) t1);have HH1:=z0 h1;have HT1:=z0 ((vw.of HB.o).trans t1);clear h1 t1 ls HKP;cases kb with
  |false=>
   have hk:¬yM t.V q.s=0:=by have:=HKB.o;simpa using this
   have HRQ:Hd (qX t q=⟨Y4 t q.s,ju,8⟩):=z0 (by unfold qX Y4;rw[if_pos HEE.o,if_neg hk]);clear hk;have HST:Hd (ya w1 g b c a (Y4 t q.s)/\vw g b a w w1/\w1.heap[w.heap.size+2]?=some (.cells Z 54 (0,0))):=z0 ⟨HH1.o,HT1.o,HQ2.o⟩;obtain⟨hst,hrp,hte,htu⟩:=KN (r:=⟨Y4 t q.s,ju,8⟩) HST.o.1 HST.o.2.1 HST.o.2.2 HZZ.o.1 HPP.o qf;have HRP:=z0 hrp;have HTE:=z0 hte;have HTU:=z0 htu;have HYS:=z0 (zg qf);clear hrp hte htu;obtain⟨Y,HY⟩:=nm (zy ((⟨Y4 t q.s,ju,8⟩):TaM).a);rw[HY.o]at hst HRP HTE HTU HYS;have hba:∀W,qS W=.ok (.value (.agg Y)) W:=fun W=>by rw[<-HY.o];exact qi W
   go_wp2;try simp only[Exit.inBlock,Exit.then]
   refine Bp (yD rfl _ _ _ _ _ _ rfl rfl HRP.o HYS.o) rfl ?_;unfold vp;rw[HRQ.o];exact⟨by rw[HY.o];try rfl,HTE.o,HTU.o⟩
  |true=>
   have hk:yM t.V q.s=0:=by have:=HKB.o;simpa using this
   have HRQ:Hd (qX t q=⟨⟨t.i,t.n,yq t.V q.s,q.s,0⟩,jZ ⟨t.i,q.a.ki,q.a.vi,q.a.ph,q.a.ha,q.a.pv,q.a.pa,q.a.tg⟩,0⟩):=z0 (by unfold qX;rw[if_pos HEE.o,if_pos hk]);have HK0:Hd (Y4 t q.s=⟨t.i,t.n,yq t.V q.s,t.s,0⟩):=z0 (by unfold Y4;rw[hk]);have hmy:=z7k HG.o.i1 HG.o.i2 (HQ.o.may HEE.o).2.2;have hao:y8.Ok ⟨t.i,q.a.ki,q.a.vi,q.a.ph,q.a.ha,q.a.pv,q.a.pa,q.a.tg⟩:=⟨HQ.o.ok.a.ha,HQ.o.ok.a.pa,HQ.o.ok.a.tg⟩
   have HSG:=z0 (fun W hk=>z8k ⟨t.i,q.a.ki,q.a.vi,q.a.ph,q.a.ha,q.a.pv,q.a.pa,q.a.tg⟩ W hao hmy hk);have HSO:=z0 (ZO hao);have HY1S:=z0 (zg hao);rw[HK0.o]at HH1;clear hk hmy hao HK0 HKB;obtain⟨d1,hh1⟩:=HH1.o;obtain⟨st2,he2,ht2⟩:=hh1.store HG.o.s HQ.o.ok.s;rw[HS.o]at st2 he2 ht2;have HE2:=z0 he2;have HP1:=z0 hh1.cells.1;have HX1:Hd ((jA w1 g 3 S).heap[w.heap.size+1]?=some (.cells (zy q.a) 54 (0,0))):=z0 (by rw[HA.o];exact(je w1 3 S (Vf HQ1.o hh1.p (by decide))).trans HQ1.o);have HX2:Hd ((jA w1 g 3 S).heap[w.heap.size+2]?=some (.cells Z 54 (0,0))):=z0 ((je w1 3 S (Vf HQ2.o hh1.p (by decide))).trans HQ2.o);have HT2:=z0 (HT1.o.trans ht2);have ls:=zj HQ0.o HSZ.o.1;clear hh1 he2 ht2;go_upto_region 6 with(fail)
   clear st2 ls;generalize (jA w1 g 3 S)=w2 at *;have k0:=HE2.o.cells.1;simp only at k0;have k1:=(qz.cells (a:=q.a) HX1.o).1;have f1:=qz.free (a:=q.a) HX1.o 0;have HX3:Hd ((w2.setCell ⟨w.heap.size+1,0,none⟩ (.int .i64 t.i)).heap[w.heap.size+1]?=some (.cells (zy ⟨t.i,q.a.ki,q.a.vi,q.a.ph,q.a.ha,q.a.pv,q.a.pa,q.a.tg⟩) 54 (0,0))):=z0 (by rw[yA w2 HX1.o];rfl);have HX4:Hd ((w2.setCell ⟨w.heap.size+1,0,none⟩ (.int .i64 t.i)).heap[w.heap.size+2]?=some (.cells Z 54 (0,0))):=z0 ((Hs _ _ _ _ (by show w.heap.size+2≠w.heap.size+1;omega)).trans HX2.o);have HB3:Below w.heap.size w2 (w2.setCell ⟨w.heap.size+1,0,none⟩ (.int .i64 t.i)):=(Below.refl _ _).setCell (by show w.heap.size<=w.heap.size+1;omega) _;have HT3:=z0 (HT2.o.low HB3);have HE3:Hd (ya (w2.setCell ⟨w.heap.size+1,0,none⟩ (.int .i64 t.i)) g b c a ⟨t.i,t.n,yq t.V q.s,q.s,0⟩):=z0 (ya.aside ⟨d1,HE2.o⟩ HX1.o z6G HB3.size (fun k hk=>Hs _ _ _ _ hk));clear HB3;go_upto_region 7 with(fail)
   clear k0 k1 f1;generalize (w2.setCell ⟨w.heap.size+1,0,none⟩ (.int .i64 t.i))=w3 at *;have HKW:Hd (yB 1 w3):=z0 (HKT.o w3 HT3.o);obtain⟨Y1,HY1⟩:=nm (zy ⟨t.i,q.a.ki,q.a.vi,q.a.ph,q.a.ha,q.a.pv,q.a.pa,q.a.tg⟩);rw[HY1.o]at HX3 HSG HY1S;have la:=zZ HX3.o HY1S.o;go_wp2_with fail;refine(HSG.o w3 HKW.o).mono ?_;rintro e w4 ⟨rfl,hb4⟩;clear la;have HST:Hd (ya w4 g b c a ⟨t.i,t.n,yq t.V q.s,q.s,0⟩/\vw g b a w w4/\w4.heap[w.heap.size+2]?=some (.cells Z 54 (0,0))):=z0 ⟨HE3.o.below hb4,HT3.o.then hb4,(hb4.block _ (Lb HX4.o)).trans HX4.o⟩;clear hb4;obtain⟨hst,hrp,hte,htu⟩:=KN (r:=⟨⟨t.i,t.n,yq t.V q.s,q.s,0⟩,jZ ⟨t.i,q.a.ki,q.a.vi,q.a.ph,q.a.ha,q.a.pv,q.a.pa,q.a.tg⟩,0⟩) HST.o.1 HST.o.2.1 HST.o.2.2 HZZ.o.1 HPP.o HSO.o;have HRP:=z0 hrp;have HTE:=z0 hte;have HTU:=z0 htu;have HYS:=z0 (zg HSO.o);clear hrp hte htu;obtain⟨Y,HY⟩:=nm (zy ((⟨⟨t.i,t.n,yq t.V q.s,q.s,0⟩,jZ ⟨t.i,q.a.ki,q.a.vi,q.a.ph,q.a.ha,q.a.pv,q.a.pa,q.a.tg⟩,0⟩):TaM).a);rw[HY.o]at hst HRP HTE HTU HYS;rw[show zy (jZ ⟨t.i,q.a.ki,q.a.vi,q.a.ph,q.a.ha,q.a.pv,q.a.pa,q.a.tg⟩)=Y from HY.o];go_wp2;try simp only[Exit.inBlock,Exit.then]
   refine Bp (yD rfl _ _ _ _ _ _ rfl rfl HRP.o HYS.o) rfl ?_;unfold vp;rw[HRQ.o];exact⟨by rw[HY.o];try rfl,HTE.o,HTU.o⟩
 ·have HRQ:Hd (qX t q=⟨t,ju,E⟩):=z0 (by unfold qX;rw[HEE.o,if_neg hE]);have HST:Hd (ya wz g b c a t/\vw g b a w wz/\wz.heap[w.heap.size+2]?=some (.cells Z 54 (0,0))):=z0 ⟨HE.o,vw.of HB.o,HR2.o⟩;obtain⟨hst,hrp,hte,htu⟩:=KN (r:=⟨t,ju,E⟩) HST.o.1 HST.o.2.1 HST.o.2.2 HZZ.o.1 HPP.o qf;have HRP:=z0 hrp;have HTE:=z0 hte;have HTU:=z0 htu;have HYS:=z0 (zg qf);clear hrp hte htu;obtain⟨Y,HY⟩:=nm (zy ((⟨t,ju,E⟩):TaM).a);rw[HY.o]at hst HRP HTE HTU HYS;have hba:∀W,qS W=.ok (.value (.agg Y)) W:=fun W=>by rw[<-HY.o];exact qi W
  go_wp2;try simp only[Exit.inBlock,Exit.then]
  refine Bp (yD rfl _ _ _ _ _ _ rfl rfl HRP.o HYS.o) rfl ?_;unfold vp;rw[HRQ.o];exact⟨by rw[HY.o];try rfl,HTE.o,HTU.o⟩
end
end
noncomputable def z7o (u v:Value) (w:World):Result Next:=Sem.run prog (execOp (fun x=>match x with
 | .tmp 0=>u
 | _ => v) { dst := none, op := .binOp .neq 54 (.tmp 0) (.tmp 1) 54, type := 0, pos := "", after := #[], guard := none }) w
theorem z5a (r:Operand->Value) (i j:Tmp) (dst:Option Tmp) (ty:TypeId) (pos:String) (after:Array Edge) (guard:Option (Nat×Bool)) (w:World):
  Sem.run prog (execOp r { dst:=dst,op:=.binOp .neq 54 (.tmp i) (.tmp j) 54,type:=ty,pos:=pos,after:=after,guard:=guard }) w=z7o (r (.tmp i)) (r (.tmp j)) w:=rfl
theorem zap (a b:y8) (ho:a.Ok) (hp:b.Ok) (w:World):z7o (.agg (zy a)) (.agg (zy b)) w=.ok (.value (.bool (!decide (a=b)))) w:=by
 have J:=fun W=>zcF a b ho hp W;obtain⟨q,I⟩:=nm (decide (a=b));obtain⟨C,G⟩:=nm (zy a);obtain⟨D,F⟩:=nm (zy b);rw[I.o,G.o,F.o]at J;rw[I.o,G.o,F.o];unfold z7o;go_simp
noncomputable def z7p (u v:Value) (w:World):Result Next:=Sem.run prog (execOp (fun x=>match x with
 | .tmp 0=>u
 | _ => v) { dst := none, op := .binOp .neq 40 (.tmp 0) (.tmp 1) 40, type := 0, pos := "", after := #[], guard := none }) w
theorem z5b (r:Operand->Value) (i j:Tmp) (dst:Option Tmp) (ty:TypeId) (pos:String) (after:Array Edge) (guard:Option (Nat×Bool)) (w:World):
  Sem.run prog (execOp r { dst:=dst,op:=.binOp .neq 40 (.tmp i) (.tmp j) 40,type:=ty,pos:=pos,after:=after,guard:=guard }) w=z7p (r (.tmp i)) (r (.tmp j)) w:=rfl
theorem zaq (a b:ym) (ho:a.Ok) (hp:b.Ok) (w:World):z7p (.agg (zp a)) (.agg (zp b)) w=.ok (.value (.bool (!decide (a=b)))) w:=by
 have J:=fun W=>zcg a b ho hp W;obtain⟨q,I⟩:=nm (decide (a=b));obtain⟨C,G⟩:=nm (zp a);obtain⟨D,F⟩:=nm (zp b);rw[I.o,G.o,F.o]at J;rw[I.o,G.o,F.o];unfold z7p;go_simp
noncomputable def K9 (w : World) : Result Next := Sem.run prog (execOp (fun _ => undef) { dst := none, op := .build 106 #[], type := 0, pos := "", after := #[], guard := none }) w
theorem zar (r:Operand->Value) (dst:Option Tmp) (ty:TypeId) (pos:String) (after:Array Edge) (guard:Option (Nat×Bool)) (w:World):
  Sem.run prog (execOp r { dst:=dst,op:=.build 106 #[],type:=ty,pos:=pos,after:=after,guard:=guard }) w=K9 w:=by
 unfold K9 execOp;simp
theorem zck (w:World):K9 w=.ok (.value (.agg (tec 0 0 none yj 0 0))) w:=by
 unfold K9;go_simp;rfl
theorem zdH (i n:Int) (b:Option Addr) (s:ym) (d e:Int):(tec i n b s d e).all (·.oneCell')=true:=by
 unfold tec;refine all_oneCell_toArray (fun u F=>?_);unfold teh tet at F;simp only[List.mem_append,List.mem_cons,List.not_mem_nil,or_false]at F;rcases F with(rfl|rfl|rfl)|F|rfl|rfl|rfl|rfl
 ·rfl
 ·rfl
 ·rfl
 ·exact z2Z _ u F
 ·rfl
 ·rfl
 ·rfl
 ·rfl
noncomputable def Ka (v p q x:Value) (w:World):Result Next:=Sem.run prog (execOp (fun z=>match z with
 | .tmp 0=>v
 | .tmp 1=>p
 | .tmp 2=>q
 | _ => x) { dst := none, op := .build 106 #[(0, .tmp 0), (1, .tmp 1), (2, .tmp 2), (3, .tmp 3)], type := 0, pos := "", after := #[], guard := none }) w
theorem z10 (r:Operand->Value) (x0 x1 x2 F:Operand) (dst:Option Tmp) (ty:TypeId) (pos:String) (after:Array Edge) (guard:Option (Nat×Bool)) (w:World):
  Sem.run prog (execOp r { dst:=dst,op:=.build 106 #[(0,x0),(1,x1),(2,x2),(3,F)],type:=ty,pos:=pos,after:=after,guard:=guard }) w=Ka (r x0) (r x1) (r x2) (r F) w:=by
 unfold Ka execOp;simp
theorem z5c (i n:Int) (b:Option Addr) (s:ym) (F:s.Ok) (w:World):Ka (.int .i64 i) (.int .i64 n) (.pointer b) (.agg (zp s)) w=.ok (.value (.agg (tec i n b s 0 0))) w:=by
 have G:=zd F;have I:(zp s).zipIdx=((sel s).zipIdx).toArray:=by simp[zp]
 unfold Ka;go_simp;exact(yp (sel s) 0 3 _).trans (yI (sel s) (teh i n b) (sel yj) (tet 0 0) (by rw[jR F];rfl))
end Go.Proofs.YtjlinimnnbfmaaaGreatDoor
