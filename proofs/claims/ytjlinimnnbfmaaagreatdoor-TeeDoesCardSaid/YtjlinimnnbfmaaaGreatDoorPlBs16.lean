/-
  VaLike AcMk AcCodeTop AcCodeFirst VaCodeTear: what each of them says stands at its head.
-/
import Derived.Test.YtjlinimnnbfmaaaGreatDoorPlBs11
set_option maxRecDepth 20000
set_option maxHeartbeats 6400000
namespace Go.Proofs.YtjlinimnnbfmaaaGreatDoor
open Go.RowKit Go.Proofs.Tryz
theorem z6p {b c a:Nat} (V:yV) (C:Array Value) (w:World) (a1:jL w b c a V) (g:V.Good) (ak:vd w C V):Calls prog 17 #[.pointer (some ⟨b,0,none⟩),.agg C] w fun e w'=>e=.returned (.bool true)/\Below w.heap.size w w':=by
 obtain⟨v0,v1,vh,wh,rfl,ae,a9,_,_⟩:=ak;have a7:j9 (w.alloc (.cells (yK V v0 v1 vh wh) 36)) w.heap.size V v0 v1 vh wh:=Xh w _;have a6:=z0 (show Below w.heap.size w (w.alloc (.cells (yK V v0 v1 vh wh) 36)) from Ba);have aE:Hd (∀W,Below w.heap.size w W->jL W b c a V):=z0 (fun W G=>a1.below G);have af:Hd (∀W,Below w.heap.size w W->zP W v0 V.s0/\zP W v1 V.s1):=z0 (fun W G=>⟨ae.byt.below G,a9.byt.below G⟩);obtain⟨D,aj⟩:=nm (yK V v0 v1 vh wh);have am:Hd (∀W,Below w.heap.size w W->Calls prog 45 #[.pointer (some ⟨b,0,none⟩)] W fun e w'=>e=.returned (.bool V.dead)/\W=w'):=z0 (fun W G=>by obtain⟨_,_,_,h⟩:=a1.below G;exact z8s h);have aq:Hd (∀W,Below w.heap.size w W->Calls prog 46 #[.pointer (some ⟨b,0,none⟩)] W fun e w'=>e=.returned (.int .i64 V.n)/\W=w'):=z0 (fun W G=>by obtain⟨_,_,_,h⟩:=a1.below G;exact zbo h g);have a8:Hd (∀k W,Below w.heap.size w W->Calls prog 48 #[.pointer (some ⟨b,0,none⟩),.int .i64 k] W fun e w'=>∃x,e=.returned x/\zP w' x (kY V k)/\Below W.heap.size W w'):=z0 (fun k W G=>z8v (a1.below G) g k);rw[aj.o]at a7 a6⊢;clear ae a9 a1 g;go_enter func17,ntmps17;go_upto_region 1 with(fail)
 generalize (w.alloc (.cells D 36))=O at *;have av:=z0 a7;have M:Hd (∀W,Below O.heap.size O W->Below w.heap.size w W):=z0 (fun W G=>a6.o.trans (G.mono a6.o.size))
 have N:Hd (∀W,Below O.heap.size O W->W.cell? ⟨w.heap.size,1,none⟩=some v0/\W.cell? ⟨w.heap.size,2,none⟩=some v1/\W.cell? ⟨w.heap.size,3,none⟩=some (.int .i64 V.n)/\W.cell? ⟨w.heap.size,5,none⟩=some (.bool V.dead)):=z0 (fun W G=>by
  obtain⟨_,h1,h2,h3,_,an,_,_⟩:=(av.o.below G).cells
  exact⟨h1,h2,h3,an⟩)
 have J:Below O.heap.size O O.drew:=(Below.refl _ _).drew;have aD:(V.dead == V.dead)=true:=by simp
 have ax:(V.n == V.n)=true:=by simp
 clear a7;refine Rh (S:=fun W=>W.cell? ⟨w.heap.size,1,none⟩=some v0/\W.cell? ⟨w.heap.size,2,none⟩=some v1/\W.cell? ⟨w.heap.size,3,none⟩=some (.int .i64 V.n)/\W.cell? ⟨w.heap.size,5,none⟩=some (.bool V.dead)) (by kernel_rfl) (N.o _ J) (fun K=>?_);refine' z5 0 (h:=z5 1 (h:=z5 2 (h:=z5 3 (h:=z5 5 (h:=tq4 6 (h:=?_))))));refine qc 4 (h:=fun I F=>?_);go_simp;refine(am.o _ (M.o _ J)).mono ?_;rintro e x1 ⟨rfl,rfl⟩;refine F.out _ _ (N.o _ J) (fun K=>?_);clear F I;try simp only[zx]
 refine' z5 7 (h:=z5 8 (h:=z5 9 (h:=z5 10 (h:=z5 12 (h:=tq4 13 (h:=?_))))));refine qc 11 (h:=fun I F=>?_);go_simp;refine(aq.o _ (M.o _ J)).mono ?_;rintro e x1 ⟨rfl,rfl⟩;refine F.out _ _ (N.o _ J) (fun K=>?_);clear F I;try simp only[zx]
 refine' z5 14 (h:=z5 15 (h:=z5 16 (h:=z5 17 (h:=z5 19 (h:=z5 20 (h:=tq4 21 (h:=?_)))))));refine qc 18 (h:=fun I F=>?_);go_simp;refine(a8.o 0 _ (M.o _ J)).mono ?_;rintro e x2 ⟨s0,rfl,aa,ai⟩;have a3:=J.trans (ai.mono J.size);refine F.out _ _ (N.o _ a3) (fun K=>?_);clear F I;try simp only[zx]
 refine qc 22 (h:=fun I F=>?_);go_simp;refine(XV _ _ V.s0 x2 aa (af.o _ (M.o _ a3)).1).mono ?_;rintro e aB ⟨rfl,au,rfl⟩;have a0:=zA a3 au;refine F.out _ _ (N.o _ a0) (fun K=>?_);clear F I;try simp only[zx]
 refine' z5 23 (h:=z5 24 (h:=z5 25 (h:=z5 27 (h:=z5 28 (h:=tq4 29 (h:=?_))))));refine qc 26 (h:=fun I F=>?_);go_simp;refine(a8.o 1 _ (M.o _ a0)).mono ?_;rintro e ap ⟨s1,rfl,ah,ab⟩;have a4:=a0.trans (ab.mono a0.size);refine F.out _ _ (N.o _ a4) (fun K=>?_);clear F I;try simp only[zx]
 refine qc 30 (h:=fun I F=>?_);go_simp;refine(XV _ _ V.s1 ap ah (af.o _ (M.o _ a4)).2).mono ?_;rintro e aA ⟨rfl,ao,rfl⟩;have a2:=zA a4 ao;refine F.out _ _ (N.o _ a2) (fun K=>?_);clear F I;try simp only[zx]
 refine' z5 31 (h:=z5 32 (h:=z5 33 (h:=?_)));refine qc 34 (h:=fun I F=>?_);go_simp;refine(a8.o 2 _ (M.o _ a2)).mono ?_;rintro e aC ⟨ay,rfl,ad,ag⟩;have a5:=a2.trans (ag.mono a2.size);obtain⟨aw,az,r6⟩:=ad.shape;have ar:(kY V 2).length=0:=rfl;rw[ar]at r6;subst r6;refine F.out _ _ (N.o _ a5) (fun K=>?_);clear F I;try simp only[zx]
 refine' z5 35 (h:=z5 36 (h:=z5 37 (h:=z5 38 (h:=?_))));refine wpAnyH_done (by kernel_rfl) ?_ _;have al:=z0 a5;clear K a5 ag a2 a4 ab a0 a3 ai J aa ah ad;go_wp2;go_ret;exact⟨rfl,M.o _ al.o⟩
section
noncomputable def Ja (u v:Value) (w:World):Result Next:=Sem.run prog (execOp (fun x=>match x with
 | .tmp 0=>u
 | _ => v) { dst := none, op := .build 52 #[(0, .tmp 0), (1, .tmp 1)], type := 0, pos := "", after := #[], guard := none }) w
theorem z0K (r:Operand->Value) (x y:Operand) (dst:Option Tmp) (ty:TypeId) (pos:String) (after:Array Edge) (guard:Option (Nat×Bool)) (w:World):
  Sem.run prog (execOp r { dst:=dst,op:=.build 52 #[(0,x),(1,y)],type:=ty,pos:=pos,after:=after,guard:=guard }) w=Ja (r x) (r y) w:=by
 unfold Ja execOp;simp
theorem z4O (b vi:Int) (w:World):Ja (.int .i64 b) (.int .i64 vi) w=.ok (.value (.agg (ye ⟨b,vi,0,qx,[],qx⟩ (.slice none 0 0)))) w:=by
 unfold Ja;go_simp;rfl
structure xT (w0 w:World) (g:Nat) (a:vU) (s:Value):Prop where
 bel:Below w0.heap.size w0 w
 b0:yr w w0.heap.size Zy (.slice none 0 0)
 lt:w0.heap.size<g
 b1:yr w g a s
section
variable {w0 w w':World}{g:Nat}{a:vU}{s:Value}
theorem xT.below (h:xT w0 w g a s) (F:Below w.heap.size w w'):xT w0 w' g a s:=
 ⟨h.bel.trans (F.mono h.bel.size),(F.block _ h.b0.lt).trans h.b0,h.lt,(F.block _ h.b1.lt).trans h.b1⟩
theorem xT.app (h:xT w0 w g a s) {T:TypeId}{L:List Int} (ho:yN VB 1 T (g+1) w s L) (hg:w.grownBy w' s.ownBlock):xT w0 w' g a s:=by
 have I:=h.lt;have G:∀k,k<=g->some k≠s.ownBlock:=fun k F e=>by
  have:=(World.ownsRow.lt ho k e.symm).1;omega
 refine⟨h.bel.grown hg h.bel.size (fun k F=>by have:=(World.ownsRow.lt ho k F).1;omega),(hg.block _ h.b0.lt (G _ (by omega))).trans h.b0,I,(hg.block _ h.b1.lt (G _ (Nat.le_refl _))).trans h.b1⟩
theorem xT.cell (h:xT w0 w g a s) {b:vU}{v t:Value} (i:Nat) (e:(ye a s).setIfInBounds i v=ye b t):xT w0 (w.setCell ⟨g,i,none⟩ v) g b t:=by
 have F:=h.lt;refine⟨h.bel.setCell (by simp only;omega) _,yX h.b0 _ (by omega),F,?_⟩;have:=jm h.b1 i v;rw[e]at this;exact this
theorem xT.refr (h:xT w0 w g a s) (f:List Int):xT w0 w g { a with fr:=f } s:=⟨h.bel,h.b0,h.lt,h.b1⟩
theorem xT.att (h:xT w0 w g a s) {b:vU}{t:Value} (hg:w.grownBy w' (some g)) (G:yr w' g b t):xT w0 w' g b t:=by
 have I:=h.lt;exact⟨h.bel.grown hg h.bel.size (fun k F=>by injection F with F;omega),(hg.block _ h.b0.lt (fun e=>by injection e with e;omega)).trans h.b0,I,G⟩
theorem xT.fr (h:xT w0 w g a s) (ho:a.Ok):w.cell? ⟨g,35,none⟩=some s/\w.cell? ⟨g,2,none⟩=some (.int .i64 a.pv)/\(∀i,w.frozen? ⟨g,i,none⟩=false):=⟨h.b1.fr ho,h.b1.ints.2.2,h.b1.free⟩
end
theorem zY {I:Func}{q s:Tmp} (h:I.results=#[.cell q 52,.tmp s]) (tmps:Array Value) (w:World) (F:Nat) (J:TypeId) (G:Array Value) (v:Value)
  (hq:tmps.getD q undef=.pointer (some ⟨F,0,none⟩)) (K:tmps.getD s undef=v) (h2:w.heap[F]?=some (.cells G J (0,0))) (O:G.size=68):
  (results I tmps).run prog w=.ok (.tuple #[.agg G,v]) w:=by
 have N:tmps[q]?.getD undef=.pointer (some ⟨F,0,none⟩):=by simpa using hq
 have M:tmps[s]?.getD undef=v:=by simpa using K
 have r2:=run_loadVar_row (P:=prog) w F J 52 G (0,0) _ h2 z0t rfl (by rw[XI,O]);simp[results,h,N,M,asAddr,r2]
theorem zbz {w:World}{A:Option Addr}{k c:Nat}{l:List y8} (h:jE xZ 101 w (.slice A k c) l) (M:∀a∈l,a.Ok) (hp:0<l.length):
  ∃g F,A=some ⟨g,F,none⟩/\∀j (h:j<l.length) W,Below w.heap.size w W->zI (.pointer (some ⟨g,F+j*101,none⟩)) W=.ok (.value (.agg (zy l[j]))) W/\W.cell? ⟨g,F+j*101,none⟩=some (.int .i64 l[j].bo)/\W.cell? ⟨g,F+j*101+1,none⟩=some (.int .i64 l[j].ki)/\
   W.cell? ⟨g,F+j*101+2,none⟩=some (.int .i64 l[j].vi)/\W.cell? ⟨g,F+j*101+36,none⟩=some (.int .i64 l[j].pv)/\qE (.pointer (some ⟨g,F+j*101+37,none⟩)) W=.ok (.value (.agg (z2 l[j].pa))) W:=by
 obtain⟨g,F,rfl,hg,J⟩:=h.at_.2.2.2 hp;refine⟨g,F,rfl,fun j h W K=>?_⟩;have ho:=M _ (List.getElem_mem h);have G:=vC (J j h) (K.block g hg);refine⟨jQ G ho,G 0 _ rfl,G 1 _ rfl,G 2 _ rfl,G 36 _ ?_,zD (fun i u I=>?_) ho.pa⟩
 ·rw[z5V,List.getElem?_append_right (by simp only[List.length_append,z6,ho.ha,List.length_cons,List.length_nil];omega)];simp only[List.length_append,z6,ho.ha,List.length_cons,List.length_nil];rfl
 ·rw[Nat.add_assoc];refine G (37+i) u ?_;rw[z35,List.getElem?_append_right (by simp only[List.length_append,z6,ho.ha,List.length_cons,List.length_nil];omega)];simp only[List.length_append,z6,ho.ha,List.length_cons,List.length_nil];rw[show 37+i - (0+1+1+1+1+(32+(0+1)))=i from by omega,List.getElem?_append_left (List.getElem?_eq_some_iff.1 I).1];exact I
def KJ (b n vi:Int) (l:List y8) (w:World) (e:Ending) (w':World):Prop:=∃x,e=.returned (.tuple #[x,.int .i64 (vu b n vi l).2])/\Kh w' x (vu b n vi l).1/\Below w.heap.size w w'
theorem yC {b n vi:Int}{l:List y8}{w w':World}{k:Int} (h:vu b n vi l=(Zy,k)) (F:Below w.heap.size w w'):KJ b n vi l w (.returned (.tuple #[.agg (ye Zy (.slice none 0 0)),.int .i64 k])) w':=by
 unfold KJ;rw[h];exact⟨_,rfl,⟨_,rfl,Zh,jE.nil w'⟩,F⟩
theorem Yu {b n vi:Int}{l:List y8}{w w':World}{c:vU}{s:Value} (h:vu b n vi l=(c,0)) (ho:c.Ok) (G:jE VB 1 w' s c.fr) (F:Below w.heap.size w w'):KJ b n vi l w (.returned (.tuple #[.agg (ye c s),.int .i64 0])) w':=by
 unfold KJ;rw[h];exact⟨_,rfl,⟨_,rfl,ho,G⟩,F⟩
end
section
attribute [local go_sem ↓] ze zn zo
def qJ (l:List y8) (q:Nat):Nat->List y8
 |0=>[]
 |k+1=>if (qJ l q k).length<q then match l.find? (fun a=>decide (a.bo=((k+1:Nat):Int))) with
  |some a=>qJ l q k ++ [a]
  |none=>qJ l q k
  else qJ l q k
def Zp (t a:y8):y8:=if t.pv<a.pv then a else t
def z0L (l:List y8):y8:=match l with
 | []=>ju
 |a :: r=>(a :: r).foldl Zp a
theorem z2h {l:List y8} (h:l≠[]) (a:y8):z0L (l ++ [a])=Zp (z0L l) a:=by
 cases l with
 |nil=>exact absurd rfl h
 |cons x r=>
  show((x :: r) ++ [a]).foldl Zp x=Zp ((x :: r).foldl Zp x) a;rw[List.foldl_append];rfl
theorem z8P (a:y8):Zp a a=a:=by
 unfold Zp;split <;> rfl
theorem Yv (l:List y8) (q:Nat):∀k,(j8 l q k).1=(qJ l q k).map (·.bo)/\(qJ l q k≠[]->(j8 l q k).2=((z0L (qJ l q k)).pv,(z0L (qJ l q k)).pa))/\(∀a∈qJ l q k,a∈l)
 |0=>⟨rfl,fun h=>absurd rfl h,fun a h=>by cases h⟩
 |k+1=>by
  obtain⟨h1,h2,h3⟩:=Yv l q k;have N:(j8 l q k).1.length=(qJ l q k).length:=by rw[h1,List.length_map]
  unfold j8 qJ;rw[N];by_cases hq:(qJ l q k).length<q
  ·rw[if_pos hq,if_pos hq];cases J:l.find? (fun a=>decide (a.bo=((k+1:Nat):Int))) with
   |none=>exact⟨h1,h2,h3⟩
   |some a=>
    have M:=List.mem_of_find?_eq_some J;have O:a.bo=((k+1:Nat):Int):=by have:=List.find?_some J;exact of_decide_eq_true this
    have F:∀x∈qJ l q k ++ [a],x∈l:=fun x hx=>by
     rcases List.mem_append.1 hx with hx|hx
     ·exact h3 x hx
     ·obtain rfl:=List.mem_singleton.1 hx;exact M
    have G:(j8 l q k).1 ++ [((k+1:Nat):Int)]=(qJ l q k ++ [a]).map (·.bo):=by
     rw[List.map_append,h1,List.map_cons,List.map_nil,O]
    simp only;by_cases hn:qJ l q k=[]
    ·have I:(j8 l q k).1=[]:=by rw[h1,hn];rfl
     rw[if_pos (.inl I)];refine⟨G,fun _=>?_,F⟩;rw[hn];show(a.pv,a.pa)=((Zp a a).pv,(Zp a a).pa);rw[z8P]
    ·have I:¬(j8 l q k).1=[]:=by
      rw[h1];intro e;exact hn (List.map_eq_nil_iff.1 e)
     have K:=h2 hn;have a0:(j8 l q k).2.1=(z0L (qJ l q k)).pv:=by rw[K]
     rw[a0];by_cases hp:(z0L (qJ l q k)).pv<a.pv
     ·rw[if_pos (.inr hp)];refine⟨G,fun _=>?_,F⟩;rw[z2h hn];unfold Zp;rw[if_pos hp]
     ·rw[if_neg (by rintro (h|h);exact I h;exact hp h)];refine⟨G,fun _=>?_,F⟩;rw[z2h hn];unfold Zp;rw[if_neg hp];exact K
  ·rw[if_neg hq,if_neg hq];exact⟨h1,h2,h3⟩
theorem z0M (l:List y8) (q k:Nat):(qJ l q k).length<=q:=by
 have h:=XH l q k;rw[(Yv l q k).1,List.length_map]at h;exact h
theorem zae:∀{l:List y8},l≠[]->z0L l∈l:=by
 have H:∀(l:List y8) (t:y8),l.foldl Zp t=t\/l.foldl Zp t∈l:=by
  intro l
  induction l with
  |nil=>exact fun t=>.inl rfl
  |cons a r ih=>
   intro t;rw[List.foldl_cons];rcases ih (Zp t a) with h|h
   ·rw[h];unfold Zp;split
    ·exact .inr (by simp)
    ·exact .inl rfl
   ·exact .inr (List.mem_cons_of_mem _ h)
 intro l h;cases l with
 |nil=>exact absurd rfl h
 |cons a r=>
  rcases H (a :: r) a with e|e
  ·show(a :: r).foldl Zp a∈a :: r;rw[e];simp
  ·exact e
theorem z4P {l:List y8}{q k:Nat} (h:¬(qJ l q k).length<q):∀m,k<=m->qJ l q m=qJ l q k:=by
 intro m F
 induction m with
 |zero=>rw[show k=0 from by omega]
 |succ m ih=>
  by_cases e:k=m+1
  ·rw[e]
  ·have:=ih (by omega);rw[<-this]at h⊢
   conv=>lhs;unfold qJ
   rw[if_neg h]
theorem z3r {l:List y8}{q k i:Nat} (h:(qJ l q k).length<q) (hi:i<l.length) (I:l[i].bo=((k+1:Nat):Int)) (hn:∀j (F:j<l.length),j<i->l[j].bo≠((k+1:Nat):Int)):
  qJ l q (k+1)=qJ l q k ++ [l[i]]:=by
 have G:l.find? (fun a=>decide (a.bo=((k+1:Nat):Int)))=some l[i]:=by
  rw[List.find?_eq_some_iff_getElem];exact⟨decide_eq_true I,i,hi,rfl,fun j F=>by simpa using hn j (by omega) F⟩
 conv=>lhs;unfold qJ
 rw[if_pos h,G]
theorem z4Q {l:List y8}{q k:Nat} (hn:∀j (F:j<l.length),l[j].bo≠((k+1:Nat):Int)):qJ l q (k+1)=qJ l q k:=by
 have G:l.find? (fun a=>decide (a.bo=((k+1:Nat):Int)))=none:=by
  rw[List.find?_eq_none];intro a ha;obtain⟨j,F,rfl⟩:=List.getElem_of_mem ha
  simpa using hn j F
 conv=>lhs;unfold qJ
 rw[G];simp
theorem z4R (v:Value) (l:List y8) (w0:World) (G:jE xZ 101 w0 v l) (ho:∀a∈l,a.Ok) (hl:l.length<=1000):
  Calls prog 76 #[v] w0 fun e w'=>∃x,e=.returned x/\yN VB 1 3 w0.heap.size w' x (l.map (·.bo))/\Below w0.heap.size w0 w':=by
 obtain⟨A,c,rfl⟩:=G.shape;obtain⟨L,N⟩:=nm (l.length:Nat);rw[N.o]at G hl⊢;have aq:=z0 (fun W (h:Below w0.heap.size w0 W)=>G.below h);have ax:=z0 ho;have aj:=z0 hl;obtain⟨Z,ad⟩:=nm (zy ju);have ak:Hd (Z.size=101):=z0 (by rw[<-ad.o];exact zg qf);have ar:∀W,zt W=.ok (.value (.pointer (some ⟨W.heap.size,0,none⟩))) (W.alloc (.cells Z 54)):=fun W=>by rw[<-ad.o];exact zC W
 clear G ho hl;go_enter func76,ntmps76;go_wp2_with fail;go_loopw [3,8] (fun aB J wr=>∃i:Nat,i<=L/\J=.int .i64 i/\yN VB 1 3 w0.heap.size wr aB ((l.take i).map (·.bo))/\Below w0.heap.size w0 wr) (fun _ J _=>L - (intOf J).toNat)
 case atStart=>exact⟨0,Nat.zero_le _,rfl,yN.nil _ _,Below.refl _ _⟩
 case round=>
  obtain⟨i,hi,rfl,F,I⟩:=hrel;by_cases aa:i<L
  ·have a1:i<l.length:=by rw[N.o];exact aa
   obtain⟨g,o,rfl,_,a9⟩:=(aq.o wr I).at_.2.2.2 (by omega);have aD:(i:Int)<(L:Int):=by omega
   have K:=ax.o _ (List.getElem_mem a1);have l1:zI (.pointer (some ⟨g,o+i*101,none⟩)) wr=.ok (.value (.agg (zy l[i]))) wr:=jQ (a9 i a1) K;have a0:Hd ((zy l[i]).size=101/\(zy l[i]).all (·.oneCell')=true):=z0 ⟨zg K,qD _⟩;have O:Hd (∀(W:World) (g:Nat),W.heap[g]?=some (.cells (zy l[i]) 54 (0,0))->W.cell? ⟨g,0,none⟩=some (.int .i64 l[i].bo)):=z0 (fun W g h=>z7 h 0);have a3:Hd ((l.take (i+1)).map (·.bo)=(l.take i).map (·.bo) ++ [l[i].bo]):=z0 (by rw[List.take_succ_eq_append_getElem a1,List.map_append];rfl);have ab:Hd (((l.take i).map (·.bo)).length<=1000):=z0 (by rw[List.length_map,List.length_take];have:=aj.o;omega);obtain⟨P,al⟩:=nm ((l.take i).map (·.bo));obtain⟨X,ap⟩:=nm (zy l[i]);obtain⟨bo,ay⟩:=nm (l[i].bo:Int);rw[ap.o]at l1 a0 O;rw[ay.o]at O a3;rw[al.o]at F a3 ab;have az:=Qk wr ak.o a0.o.1 a0.o.2;have an:=ar wr;clear a9 K;go_upto_region 5 with(fail)
   have ag:=Xh wr (.cells X 54);have a7:Below w0.heap.size w0 (wr.alloc (.cells X 54)):=I.alloc I.size _;have c0:=O.o _ _ ag;have ae:=F.alloc (.cells X 54);clear l1 az ag an F;generalize (wr.alloc (.cells X 54))=ah at *;have a4:=z0 ae;have M:=z0 a7;have aC:=a7.size;have a2:=z0 aa;clear ae;go_wp2_with (at_builtin;go_loud (refine Zk.wpList_append (x:=.slice (some ⟨ah.heap.size,0,none⟩) 1 1) (m:=[bo]) rfl (.tmp 12) (.tmp 15) rfl rfl rfl (fun _ _=>trivial) (a4.o.alloc (.cells #[.int .i64 bo] 3)) (Ye ah bo #[.int .i64 bo] 3 rfl) (by have:=ab.o;simp only[List.length_cons,List.length_nil];omega) (by simp;omega) ?_;intro am af a6 a5 av));have ao:yN VB 1 3 w0.heap.size af am ((l.take (i+1)).map (·.bo)):=by rw[a3.o];exact a6
   have aA:Below w0.heap.size w0 af:=(M.o.alloc M.o.size _).grown a5 (by have:=M.o.size;simp;omega) (fun j au=>(World.ownsRow.lt (a4.o.alloc (.cells #[.int .i64 bo] 3)) j au).1);clear a6 a5 av;have a8:Hd (wrap64 ((i:Int)+1)=((i+1:Nat):Int)):=z0 (by have h1:=a2.o;have h2:=aj.o;unfold wrap64;omega);go_roundw
   case rel=>exact⟨i+1,by have:=a2.o;omega,by rw[a8.o],ao,aA⟩
   case measure=>
    have h1:=a2.o;have aw:=a8.o;simp only[aw];simp[intOf];omega
  ·obtain rfl:i=L:=by omega
   have ai:l.take i=l:=List.take_of_length_le (by rw[N.o];exact Nat.le_refl _);rw[ai]at F;clear ai;go_wp2;go_ret;exact⟨_,rfl,F,I⟩
structure z4S (w0 w:World) (Z T:Array Value):Prop where
 bel:Below w0.heap.size w0 w
 b0:w.heap[w0.heap.size]?=some (.cells Z 54 (0,0))
 b1:w.heap[w0.heap.size+1]?=some (.cells T 54 (0,0))
section
variable {w0 w w':World}{Z T:Array Value}
theorem z4S.alloc (h:z4S w0 w Z T) (o:Obj):z4S w0 (w.alloc o) Z T:=
 ⟨h.bel.alloc h.bel.size _,(Below.heap_alloc _ _ _ (Lb h.b0)).trans h.b0,(Below.heap_alloc _ _ _ (Lb h.b1)).trans h.b1⟩
theorem z4S.set (h:z4S w0 w Z T) (X:Array Value):z4S w0 (qb w (w0.heap.size+1) X) Z X:=
 ⟨qA h.bel (by omega),(yO w X (by omega)).trans h.b0,qU h.b1⟩
end
theorem z1t (v:Value) (l:List y8) (w:World) (a8:jE xZ 101 w v l) (ho:∀a∈l,a.Ok) (hp:0<l.length) (hl:l.length<=1000):
  Calls prog 75 #[v] w fun e w'=>e=.returned (.agg (zy (z0L l)))/\Below w.heap.size w w':=by
 obtain⟨A,c,rfl⟩:=a8.shape;obtain⟨L,ag⟩:=nm (l.length:Nat);have a3:=z0 hp;rw[ag.o]at a8 hl hp⊢;have an:=z0 ho;have ax:=z0 hl;obtain⟨g,aA,rfl,hg,ap⟩:=a8.at_.2.2.2 a3.o;have az:Hd (∀j (h:j<l.length) W,Below w.heap.size w W->zI (.pointer (some ⟨g,aA+j*101,none⟩)) W=.ok (.value (.agg (zy l[j]))) W):=z0 (fun j h W aP=>jQ (vC (ap j h) (aP.block g hg)) (an.o _ (List.getElem_mem h)));obtain⟨F,al⟩:=nm (l[0]'a3.o:y8);have ay:Hd F.Ok:=z0 (by rw[<-al.o];exact an.o _ (List.getElem_mem _))
 have aS:Hd (z0L l=l.foldl Zp F):=z0 (by
  have:=al.o;have hp:=a3.o;cases hl:l with
  |nil=>rw[hl]at hp;simp at hp
  |cons a r=>
   subst hl;simp only[List.getElem_cons_zero]at this;subst this
   rfl)
 obtain⟨G,ah⟩:=nm (zy F);have au:zI (.pointer (some ⟨g,aA,none⟩)) (w.alloc (.cells (zy ju) 54))=.ok (.value (.agg G)) (w.alloc (.cells (zy ju) 54)):=by
  have h2:=az.o 0 a3.o _ ((Below.refl _ _).alloc (Nat.le_refl _) (.cells (zy ju) 54));rw[al.o,Nat.zero_mul,Nat.add_zero,ah.o]at h2;exact h2
 obtain⟨Z,ai⟩:=nm (zy ju);rw[ai.o]at au;have a9:Hd (Z.size=101):=z0 (by rw[<-ai.o];exact zg qf);have aq:∀W,zt W=.ok (.value (.pointer (some ⟨W.heap.size,0,none⟩))) (W.alloc (.cells Z 54)):=fun W=>by rw[<-ai.o];exact zC W
 have aH:=z0 aq;have ao:Hd (G.size=101/\G.all (·.oneCell')=true):=z0 (by rw[<-ah.o];exact⟨zg ay.o,qD _⟩);have aD:Z8 (.pointer (some ⟨w.heap.size+1,0,none⟩)) (.agg G) ((w.alloc (.cells Z 54)).alloc (.cells Z 54))=.ok .skip ((w.alloc (.cells Z 54)).alloc (.cells G 54)):=by
  have:=Qk (w.alloc (.cells Z 54)) a9.o ao.o.1 ao.o.2
  rwa[show(w.alloc (.cells Z 54)).heap.size=w.heap.size+1 from by simp]at this
 have ar:Hd (z4S w ((w.alloc (.cells Z 54)).alloc (.cells G 54)) Z G):=z0 ⟨Ba.alloc (by simp) _,Zj w _ _,kT w _ _⟩;have aG:(0:Int)<(L:Int):=by omega
 have aK:0<L:=hp;clear ap hg a8 ho hl hp;go_enter func75,ntmps75;go_upto_region 2 with(fail)
 generalize ((w.alloc (.cells Z 54)).alloc (.cells G 54))=aY at *;try rw[show(w.alloc (.cells Z 54)).heap.size=w.heap.size+1 from by simp]
 clear au aD aq aG aK;go_wp2_with fail;go_loopw [11] (fun ak wr=>∃(i:Nat) (t:y8),i<=L/\ak=.int .i64 i/\Hd (t=(l.take i).foldl Zp F/\t.Ok)/\z4S w wr Z (zy t)) (fun ak _=>L - (intOf ak).toNat)
 case atStart=>exact⟨0,F,Nat.zero_le _,rfl,z0 ⟨rfl,ay.o⟩,by rw[ah.o];exact ar.o⟩
 case round=>
  clear ar;obtain⟨i,t,hi,rfl,J,a2⟩:=hrel;obtain⟨a5,K⟩:=nm (zy t);rw[K.o]at a2;have M:=z0 a2;clear a2;by_cases ab:i<L
  ·have aj:i<l.length:=by rw[ag.o];exact ab
   have aT:(i:Int)<(L:Int):=by omega
   have av:=an.o _ (List.getElem_mem aj);have l1:=az.o i aj wr M.o.bel;have am:Hd ((l.take (i+1)).foldl Zp F=Zp t l[i]):=z0 (by rw[List.take_succ_eq_append_getElem aj,List.foldl_append,<-J.o.1];rfl);have a4:=z0 av;obtain⟨x,aC⟩:=nm (l[i]:y8);rw[aC.o]at l1 am a4;obtain⟨X,a6⟩:=nm (zy x);have O:Hd (X.size=101/\X.all (·.oneCell')=true):=z0 (by rw[<-a6.o];exact⟨zg a4.o,qD _⟩);have N:Hd (a5.size=101):=z0 (by rw[<-K.o];exact zg J.o.2)
   have aR:Hd (∀(W:World) (k:Nat),W.heap[k]?=some (.cells X 54 (0,0))->W.cell? ⟨k,36,none⟩=some (.int .i64 x.pv)):=z0 (fun W k h=>by
    rw[<-a6.o]at h
    exact qz.pv (a:=x) h a4.o)
   have aF:Hd (∀(W:World) (k:Nat),W.heap[k]?=some (.cells a5 54 (0,0))->W.cell? ⟨k,36,none⟩=some (.int .i64 t.pv)):=z0 (fun W k h=>by
    rw[<-K.o]at h
    exact qz.pv (a:=t) h J.o.2)
   rw[a6.o]at l1;have a2:=Qk wr a9.o O.o.1 O.o.2;have aN:=aH.o wr;clear av;go_upto_region 5 with(fail)
   have a1:=Xh wr (.cells X 54);have a7:=z0 (M.o.alloc (.cells X 54));obtain⟨aQ,aL⟩:=nm (wr.heap.size);rw[aL.o]at a1⊢;clear l1 a2 aN;generalize (wr.alloc (.cells X 54))=aB at *;have c1:=aR.o aB aQ a1;have aO:=aF.o aB _ a7.o.b1;obtain⟨aM,ae⟩:=nm (x.pv);obtain⟨aJ,aa⟩:=nm (t.pv);rw[ae.o]at c1;rw[aa.o]at aO;by_cases aw:aJ<aM
   ·have aX:=zZ a1 O.o.1;have aV:=qF a7.o.b1 N.o O.o.1 O.o.2;have aI:=z0 (a7.o.set X);have ad:Hd (x=(l.take (i+1)).foldl Zp F/\x.Ok):=z0 ⟨by rw[am.o];unfold Zp;rw[ae.o,aa.o,if_pos aw],a4.o⟩;have I:=z0 ab;have a0:Hd (wrap64 ((i:Int)+1)=((i+1:Nat):Int)):=z0 (by have h1:=I.o;have h2:=ax.o;unfold wrap64;omega);clear a1;go_wp2;go_roundw
    case rel=>exact⟨i+1,x,by have:=I.o;omega,by rw[a0.o],z0 ad.o,by rw[a6.o];exact aI.o⟩
    case measure=>
     have h1:=I.o;have af:=a0.o;simp only[af];simp[intOf];omega
   ·have ad:Hd (t=(l.take (i+1)).foldl Zp F/\t.Ok):=z0 ⟨by rw[am.o];unfold Zp;rw[ae.o,aa.o,if_neg aw],J.o.2⟩;have I:=z0 ab;have a0:Hd (wrap64 ((i:Int)+1)=((i+1:Nat):Int)):=z0 (by have h1:=I.o;have h2:=ax.o;unfold wrap64;omega);clear a1;go_wp2;go_roundw
    case rel=>exact⟨i+1,t,by have:=I.o;omega,by rw[a0.o],z0 ad.o,by rw[K.o];exact a7.o⟩
    case measure=>
     have h1:=I.o;have af:=a0.o;simp only[af];simp[intOf];omega
  ·obtain rfl:i=L:=by omega
   have aE:Hd (t=z0L l/\t.Ok):=z0 ⟨by rw[aS.o,J.o.1,List.take_of_length_le (by rw[ag.o];exact Nat.le_refl _)],J.o.2⟩;have N:Hd (a5.size=101/\a5.all (·.oneCell')=true):=z0 (by rw[<-K.o];exact⟨zg J.o.2,qD _⟩);have aW:=zZ M.o.b1 N.o.1;have aU:=qF M.o.b0 a9.o N.o.1 N.o.2;go_wp2_with fail;refine Bp (results_cell_row rfl _ _ _ _ _ (0,0) _ rfl (qU M.o.b0) jF rfl (by rw[vE,N.o.1])) rfl ⟨?_,qA M.o.bel (Nat.le_refl _)⟩;rw[<-aE.o.1,K.o]
end
section
noncomputable def Jb (v : Value) (w : World) : Result Next := Sem.run prog (execOp (fun _ => v) { dst := none, op := .buildSlice 60 1 #[(0, .tmp 0)], type := 0, pos := "", after := #[], guard := none }) w
theorem z0N (r:Operand->Value) (x:Operand) (dst:Option Tmp) (ty:TypeId) (pos:String) (after:Array Edge) (guard:Option (Nat×Bool)) (w:World):
  Sem.run prog (execOp r { dst:=dst,op:=.buildSlice 60 1 #[(0,x)],type:=ty,pos:=pos,after:=after,guard:=guard }) w=Jb (r x) w:=by
 unfold Jb execOp;simp
theorem z4T (a:y8) (ha:a.Ok) (w:World):Jb (.agg (zy a)) w=.ok (.value (.slice (some ⟨w.heap.size,0,none⟩) 1 1)) (w.alloc (.cells (zy a) 54)):=by
 have F:(zy a).size=101:=zg ha;have G:(zy a).zipIdx=((xZ a).zipIdx).toArray:=by unfold zy;simp
 unfold Jb;go_simp;have e:=yI (xZ a) [] (xZ ju) [] (by rw[yZ ha,yZ qf]);simp only[List.nil_append,List.append_nil,List.length_nil]at e;rw[<-JX]at e;exact congrArg (fun C=>w.alloc (.cells C 54)) e
attribute [local go_sem ↓] ze zf z0N
theorem zbA {B g:Nat}{w:World}{T t:TypeId}{v:Value}{m:List y8}{cs:Array Value} (h:yN xZ 101 T B w v m) (hg:w.heap[g]?=some (.cells cs t (0,0))) (F:T≠t):v.ownBlock≠some g:=by
 rcases h.2 with ⟨rfl,_⟩|⟨g',xz,cur,rfl,_,G,_⟩
 ·simp[Value.ownBlock]
 ·intro he;obtain rfl:g'=g:=by simpa [Value.ownBlock] using he
  rw[G]at hg;injection hg with hg;injection hg with _ h2;exact F h2
def zcP (l:List y8) (b k:Int):Prop:=(k=-1/\∀j (h:j<l.length),l[j].bo≠b)\/∃i,∃h:i<l.length,k=(i:Int)/\l[i].bo=b/\∀j (_:j<l.length),j<i->l[j].bo≠b
theorem z8Q (a:y8) (g:Nat) (b:Int) (w:World) (hg:w.heap[g]?=some (.cells #[.int .i64 b] 3 (0,0))):
  Calls prog 126 #[.agg (zy a),.pointer (some ⟨g,0,none⟩)] w fun e w'=>e=.returned (.bool (decide (a.bo=b)))/\Below w.heap.size w w':=by
 have G:Below w.heap.size w (w.alloc (.cells (zy a) 54)):=Ba;have F:=qz.new w a;have I:=(G.block _ (Lb hg)).trans hg;obtain⟨C,J⟩:=nm (zy a);rw[J.o]at G F I⊢;clear hg;go_enter func126,ntmps126;go_upto_region 1 with(fail)
 generalize (w.alloc (.cells C 54))=w0 at *;have K:=F.cells.1;have M:=cell_of_one I;clear F I;go_wp2;go_ret;exact⟨QI (by first|rfl|simp),G⟩
theorem z4U (v:Value) (l:List y8) (g:Nat) (b:Int) (w0:World) (G:jE xZ 101 w0 v l) (ho:∀a∈l,a.Ok) (hl:l.length<=1000) (hg:w0.heap[g]?=some (.cells #[.int .i64 b] 3 (0,0))):
  Calls prog 125 #[v,.func (.func 126) #[] #[.pointer (some ⟨g,0,none⟩)]] w0 fun e w'=>∃k:Int,e=.returned (.int .i64 k)/\zcP l b k/\Below w0.heap.size w0 w':=by
 obtain⟨A,c,rfl⟩:=G.shape;obtain⟨n,K⟩:=nm (l.length:Nat);rw[K.o]at G hl⊢;have a6:=z0 G;have aa:=z0 ho;have a1:=z0 hg;clear G ho hg;go_enter func125,ntmps125;go_wp2_with fail;go_loopw [8] (fun I wr=>∃i:Nat,i<=n/\I=.int .i64 i/\Hd (∀j (h:j<l.length),j<i->l[j].bo≠b)/\Below w0.heap.size w0 wr) (fun I _=>n - (intOf I).toNat)
 case atStart=>exact⟨0,Nat.zero_le _,rfl,z0 (fun j _ h=>absurd h (by omega)),Below.refl _ _⟩
 case round=>
  obtain⟨i,hi,rfl,J,F⟩:=hrel;by_cases a5:i<n
  ·have N:i<l.length:=by rw[K.o];exact a5
   obtain⟨ab,a4,rfl,a8,a2⟩:=(a6.o.below F).at_.2.2.2 (by omega);have ad:(i:Int)<(n:Int):=by omega
   have l1:zI (.pointer (some ⟨ab,a4+i*101,none⟩)) wr=.ok (.value (.agg (zy l[i]))) wr:=jQ (a2 i N) (aa.o _ (List.getElem_mem N));have O:=z0 (z8Q l[i] g b wr ((F.block _ (Lb a1.o)).trans a1.o));obtain⟨X,a0⟩:=nm (zy l[i]);obtain⟨m,M⟩:=nm (decide (l[i].bo=b));rw[a0.o]at l1;rw[a0.o,M.o]at O;clear a2 a8;go_wp2_with fail;refine O.o.mono ?_;rintro e af ⟨rfl,a9⟩;have a3:=F.trans (a9.mono F.size);clear l1;cases m with
   |false=>
    go_wp2;go_roundw
    case rel=>
     refine⟨i+1,by omega,by go_num,z0 (fun j h ae=>?_),a3⟩;by_cases a7:j<i
     ·exact J.o j h a7
     ·obtain rfl:j=i:=by omega
      exact of_decide_eq_false M.o
    case measure=>simp[intOf];omega
   |true=>
    go_wp2;go_ret;exact⟨_,rfl,.inr ⟨i,N,rfl,of_decide_eq_true M.o,J.o⟩,a3⟩
  ·obtain rfl:i=n:=by omega
   go_wp2;go_ret;exact⟨_,rfl,.inl ⟨rfl,fun j h=>J.o j h (by have:=K.o;omega)⟩,F⟩
structure z0O (w0 w:World) (g:Nat) (b:Int) (s:Value) (L:List y8):Prop where
 bel:Below w0.heap.size w0 w
 lt:w0.heap.size<=g
 one:w.heap[g]?=some (.cells #[.int .i64 b] 3 (0,0))
 own:yN xZ 101 54 w0.heap.size w s L
section
variable {w0 w w':World}{g:Nat}{b:Int}{s:Value}{L:List y8}
theorem z0O.below (h:z0O w0 w g b s L) (F:Below w.heap.size w w'):z0O w0 w' g b s L:=
 ⟨h.bel.trans (F.mono h.bel.size),h.lt,(F.block _ (Lb h.one)).trans h.one,h.own.below F⟩
theorem z0O.app (h:z0O w0 w g b s L) {G:Value}{F:List y8} (ho:yN xZ 101 54 w0.heap.size w' G F) (hg:w.grownBy w' s.ownBlock):z0O w0 w' g b G F:=by
 have J:=zbA h.own h.one (by decide);exact⟨h.bel.grown hg h.bel.size (fun j I=>(World.ownsRow.lt h.own j I).1),h.lt,(hg.block _ (Lb h.one) (fun e=>J e.symm)).trans h.one,ho⟩
theorem z0O.next (h:z0O w0 w g b s L) (F:Int):z0O w0 (w.alloc (.cells #[.int .i64 F] 3)) w.heap.size F s L:=
 ⟨h.bel.alloc h.bel.size _,h.bel.size,Xh w _,h.own.alloc _⟩
end
def zcQ (p:Value) (w:World):Nat:=match p with
 | .pointer (some a)=>match w.cell? a with
  |some v=>(intOf v).toNat
  |none=>0
 |_=>0
theorem z3s {g:Nat}{b:Int}{w:World} (h:w.heap[g]?=some (.cells #[.int .i64 b] 3 (0,0))):zcQ (.pointer (some ⟨g,0,none⟩)) w=b.toNat:=by
 unfold zcQ;simp only[cell_of_one h];simp[intOf]
theorem z4V (v:Value) (l:List y8) (q:Nat) (w:World) (a5:jE xZ 101 w v l) (ae:∀a∈l,a.Ok) (a1:l.length<=1000) (hq:q<=21):
  Calls prog 74 #[v,.int .i64 (q:Int)] w fun e w'=>∃x,e=.returned x/\yN xZ 101 54 w.heap.size w' x (qJ l q 21)/\Below w.heap.size w w':=by
 have aR:∀(ak:Fn) (first xz:Array Value) (w:World),(Instr.makeFunc ak first xz).run prog w=.ok (.func ak first xz) w:=fun _ _ _ _=>rfl;have ah:=z0 (fun W (h:Below w.heap.size w W)=>a5.below h);have ad:=z0 ae;have ai:=z0 (fun g b W (h:Below w.heap.size w W) hg=>z4U v l g b W (a5.below h) ae a1 hg);obtain⟨A,aY,rfl⟩:=a5.shape;obtain⟨L,a2⟩:=nm (l.length:Nat);rw[a2.o]at ah ai a1⊢;have aG:=z0 hq;have aW:=z0 a1;have aj:Hd (z0O w (w.alloc (.cells #[.int .i64 1] 3)) w.heap.size (((0:Nat):Int)+1) (.slice none 0 0) []):=z0
  ⟨Ba,Nat.le_refl _,Xh w _,yN.nil _ _⟩
 clear a5 ae a1;go_enter func74,ntmps74;go_wp2_with fail;go_loopw [5,6] (fun s p wr=>∃(k g:Nat),k<=21/\p=.pointer (some ⟨g,0,none⟩)/\z0O w wr g ((k:Int)+1) s (qJ l q k)) (fun _ p wr=>22 - zcQ p wr)
 case atStart=>exact⟨0,_,Nat.zero_le _,rfl,aj.o⟩
 case round=>
  obtain⟨k,g,aE,rfl,I⟩:=hrel;clear aj;have aF:Hd (∀x∈qJ l q k,x.Ok):=z0 (fun x hx=>ad.o x ((Yv l q k).2.2 x hx));obtain⟨SL,F⟩:=nm (qJ l q k);have aJ:Hd (SL.length<=q):=z0 (by rw[<-F.o];exact z0M l q k);rw[F.o]at I aF;obtain⟨aT,aO,rfl⟩:=I.own.shape;obtain⟨aa,a7⟩:=nm (SL.length:Nat);rw[a7.o]at I⊢;have G:=z0 I;have c1:=cell_of_one I.one;have ap:=z0 (z3s I.one);clear I;by_cases a9:k<21
  ·have aN:(k:Int)+1<=21:=by omega
   by_cases a0:aa<q
   ·have aH:(aa:Int)<(q:Int):=by omega
    have az:=z0 a0;have a6:=z0 a9;clear a0 a9;go_wp2_with fail;refine(ai.o g _ wr G.o.bel G.o.one).mono ?_;rintro e O ⟨aV,rfl,ay,an⟩;have K:=z0 (G.o.below an);have aC:=cell_of_one K.o.one;clear c1 an;rcases ay with ⟨rfl,N⟩|⟨j,a3,rfl,am,N⟩
    ·have ab:Hd (qJ l q (k+1)=SL):=z0 (by rw[<-F.o];exact z4Q N);have M:=z0 (K.o.next ((k:Int)+1+1));clear N;go_wp2;go_roundw
     case rel=>
      refine⟨k+1,_,by have:=a6.o;omega,rfl,?_⟩;rw[ab.o];exact M.o
     case measure=>rw[ap.o,z3s M.o.one];have:=a6.o;omega
    ·obtain⟨x,a8⟩:=nm (l[j]:y8);have ao:Hd x.Ok:=z0 (by rw[<-a8.o];exact ad.o _ (List.getElem_mem a3))
     have ab:Hd (qJ l q (k+1)=SL ++ [x]):=z0 (by
      rw[<-F.o,<-a8.o]
      exact z3r (by rw[F.o,a7.o];exact az.o) a3 am N)
     obtain⟨J,af⟩:=nm (zy x);have b1:∀W,Jb (.agg J) W=.ok (.value (.slice (some ⟨W.heap.size,0,none⟩) 1 1)) (W.alloc (.cells J 54)):=fun W=>by rw[<-af.o];exact z4T x ao.o W
     have av:Hd (∀u ∈ [x],u.Ok):=z0 (fun u aA=>by obtain rfl:=List.mem_singleton.1 aA;exact ao.o);have aX:j<L:=by have:=a2.o;omega
     have aU:(j:Int)<(L:Int):=by omega
     have aQ:(0:Int)<=(j:Int):=by omega
     obtain⟨aM,aI,rfl,_,_⟩:=(ah.o O K.o.bel).at_.2.2.2 (by have:=a2.o;omega)
     have ax:Hd (∀W,Below w.heap.size w W->zI (.pointer (some ⟨aM,aI+j*101,none⟩)) W=.ok (.value (.agg J)) W):=z0 (fun W h=>by
      obtain⟨b0,aS,e,_,ar⟩:=(ah.o W h).at_.2.2.2 (by have:=a2.o;omega);injection e with e;injection e with aL au _;subst aL au;have:=jQ (ar j a3) (ad.o _ (List.getElem_mem a3));rw[a8.o,af.o]at this
      exact this)
     have aK:=ax.o O K.o.bel;have ag:=z0 (K.o.below ((Below.refl _ _).alloc (Nat.le_refl _) (.cells J 54)));have aB:Hd (jE xZ 101 (O.alloc (.cells J 54)) (.slice (some ⟨O.heap.size,0,none⟩) 1 1) [x]):=z0 (Ye O x J 54 af.o);clear N am;go_upto_region 7 with(fail)
     clear aC;go_wp2_with (at_builtin;go_loud (refine z9F.wpList_append rfl (.tmp 23) (.tmp 28) rfl rfl rfl av.o ag.o.own aB.o (by have:=a7.o;have:=aJ.o;have:=aG.o;simp only[List.length_cons,List.length_nil];omega) ag.o.bel.size ?_;intro aP w5 al aq aD;have a4:=ag.o.app al aq;have b4:=z0 a4;have aZ:=cell_of_one a4.one;have M:=z0 (a4.next ((k:Int)+1+1));clear a4 al aq aD aK));go_roundw
     case rel=>
      refine⟨k+1,_,by have:=a6.o;omega,rfl,?_⟩;rw[ab.o];exact M.o
     case measure=>rw[ap.o,z3s M.o.one];have:=a6.o;omega
   ·have aH:¬(aa:Int)<(q:Int):=by omega
    have aw:Hd (qJ l q 21=SL):=z0 (by rw[<-F.o];exact z4P (by rw[F.o,a7.o];exact a0) 21 aE);clear a0;go_wp2;go_ret;exact⟨_,rfl,by rw[aw.o];exact G.o.own,G.o.bel⟩
  ·obtain rfl:k=21:=by omega
   have aN:¬((21:Nat):Int)+1<=21:=by decide
   clear a9;go_wp2;go_ret;exact⟨_,rfl,by rw[F.o];exact G.o.own,G.o.bel⟩
end
section
attribute [local go_sem ↓] z7v z7w
def mxI (x y:Int):Int:=if y > x then y else x
def mnI (x y:Int):Int:=if y<x then y else x
theorem zaf (F:Array TypeId) (ty:TypeId) (k G:IntKind) (x y:Int):Builtin.max_ F ty #[.int k x,.int G y]=pure (.int k (mxI x y)):=rfl
theorem zag (F:Array TypeId) (ty:TypeId) (k G:IntKind) (x y:Int):Builtin.min_ F ty #[.int k x,.int G y]=pure (.int k (mnI x y)):=rfl
attribute [local go_sem ↓] zaf zag
section
variable {w:World}{b c a:Nat}{V:yV}{v0 v1 vt:Value}
theorem z6q (h:zU w b c a V v0 v1 vt) (F:V.torn=[]) (m:Int):Calls prog 87 #[.pointer (some ⟨b,0,none⟩),.int .i64 m] w fun e w'=>e=.returned (.tuple #[])/\w=w':=by
 obtain⟨_,_,_,_,_,_,G⟩:=h.cells;rw[h.nt F]at G;clear h F;have I:=ZZ;go_enter func87,ntmps87;go_wp2
 (try simp only[Exit.inBlock,Exit.then])
 refine Bp (results_none rfl _ _ _) rfl ?_;exact⟨rfl,rfl⟩
theorem z6r (h:zU w b c a V v0 v1 vt) (g:V.Good) (a7:¬V.torn=[]) (hp:qr V=0) (m:Int):Calls prog 87 #[.pointer (some ⟨b,0,none⟩),.int .i64 m] w fun e w'=>e=.returned (.tuple #[])/\jL w' b c a (ZN V m)/\zJ b a w w':=by
 have ae:ZN V m={ zu V 0 (qm V.torn V.s0 m) with torn:=[] }:=by
  unfold ZN;rw[if_neg a7,hp];rfl
 rw[ae];have af:=z0 (vL h g);rw[hp]at af;obtain⟨L,F⟩:=nm (V.torn.length:Nat);obtain⟨N,I⟩:=nm (V.s0.length:Nat);have aW:L<=1000:=by rw[<-F.o];exact g.lt
 have aV:N<=1000:=by rw[<-I.o];exact g.l0
 obtain⟨T,a4⟩:=nm (min m.toNat L:Nat);have ar:T<=L:=by have:=a4.o;omega
 obtain⟨U,a2⟩:=nm (min T N);have aE:U<=N:=by have:=a2.o;omega
 have aQ:mnI (mxI m 0) (L:Int)=(T:Int):=by
  have:=a4.o;unfold mnI mxI;split <;> split <;> omega
 have aT:mnI (T:Int) (N:Int)=(U:Int):=by
  have:=a2.o;unfold mnI;split <;> omega
 have ax:Hd (V.torn.take T ++ V.s0.drop U=qm V.torn V.s0 m):=z0 (by
  have aO:V.torn.take T=V.torn.take m.toNat:=by
   rw[<-a4.o,<-F.o];by_cases a6:m.toNat<=V.torn.length
   ·rw[Nat.min_eq_left a6]
   ·rw[Nat.min_eq_right (by omega),List.take_length,List.take_of_length_le (by omega)]
  unfold qm;rw[<-aO]
  congr 1
  have az:(V.torn.take T).length=T:=by rw[List.length_take,F.o];omega
  rw[az,<-a2.o,<-I.o];by_cases a6:T<=V.s0.length
  ·rw[Nat.min_eq_left a6]
  ·rw[Nat.min_eq_right (by omega),List.drop_length,List.drop_of_length_le (by omega)])
 have M:=h.yt.byt;have a3:=h.y0.byt;obtain⟨aG,a0,r6⟩:=M.shape;rw[F.o]at r6;subst r6;obtain⟨A1,ap,r1⟩:=a3.shape;rw[I.o]at r1;subst r1;have ag:=M.at_.2.1;have am:=M.at_.2.2.2;rw[F.o]at ag;have aj:=a3.at_.2.1;rw[I.o]at aj;obtain⟨a1,rfl⟩:∃x,aG=some x:=by
  obtain⟨x,y,e,_⟩:=am (by rcases au:V.torn with _|⟨x,y⟩;exact absurd au a7;simp);exact⟨_,e⟩
 obtain⟨a9,a8,r3,p3⟩:=zc5 (some a1) a0 L T ar ag;obtain⟨ab,ad,r4,p4⟩:=zc6 A1 ap N U aE aj;have hd:Below w.heap.size w w.drew:=(Below.refl _ _).drew;have an:=p3 w.drew _ F.o (M.drewN 1);have ah:=p4 w.drew _ I.o (a3.drewN 1);have z2:=h.cells;have aL:=z0 (vL (h.below hd) g);rw[hp]at aL
 have aD:Hd (∀W u,Below w.heap.size w W->qW W u (qm V.torn V.s0 m)->zU (W.setCell ⟨b,1,none⟩ u) b c a (zu V 0 (qm V.torn V.s0 m)) u v1 (.slice (some a1) L a0)/\zJ b a w (W.setCell ⟨b,1,none⟩ u)/\W.cell? ⟨b,1,none⟩=some (.slice A1 N ap)/\W.frozen? ⟨b,1,none⟩=false):=z0 (fun W u J aF=>
  ⟨(h.below J).setZero aF,(zJ.of J).setB _ _,(h.below J).cells.2.1,(h.below J).free _⟩)
 have ai:Hd (∀W,Below w.heap.size w W->W.cell? ⟨b,6,none⟩=some (.slice (some a1) L a0)):=z0 (fun W J=>(h.below J).cells.2.2.2.2.2.2);obtain⟨_,c1,aI,_,_,_,ay⟩:=z2;have aX:(V.torn.take T).length=T:=by rw[List.length_take,F.o];omega
 have aP:(V.s0.drop U).length=N - U:=by rw[List.length_drop,I.o]
 clear h g a7 hp ae M a3 am a4 a2 hd p3 p4 F I aI;generalize qm V.torn V.s0 m=R at *;have aC:=z0 an;have aB:=z0 ah;clear an ah;have aK:=ZZ;go_enter func87,ntmps87;go_upto_region 2 with(fail)
 clear aK;go_wp2_with fail;refine af.o.mono ?_;rintro e b0 ⟨rfl,rfl⟩;go_upto_region 4 with(fail)
 refine Rh (S:=fun W=>W.cell? ⟨b,6,none⟩=some (.slice (some a1) L a0)) (by kernel_rfl) ay (fun a5=>?_);refine' z5 0 (h:=z5 1 (h:=z5 2 (h:=z5 3 (h:=z5 4 (h:=z5 5 (h:=z5 6 (h:=z5 7 (h:=z5 8 (h:=z5 9 (h:=z5 10 (h:=z5 11 (h:=?_))))))))))));refine' z5 12 (h:=z5 13 (h:=z5 16 (h:=z5 17 (h:=?_))));have aa:Below w.heap.size w (w.drew.alloc (.cells #[.slice a9 T a8,.slice ab (N - U) ad] 33)):=((Below.refl _ _).drew).alloc (Nat.le_refl _) _;refine qc 14 (h:=fun O G=>?_);go_simp;refine G.out _ _ (ai.o _ aa) (fun a5=>?_);clear G O;try simp only[zx]
 have ao:=z0 (Xz (.slice a9 T a8) (.slice ab (N - U) ad) _ _ w.heap.size 2 (w.drew.alloc (.cells #[.slice a9 T a8,.slice ab (N - U) ad] 33)) (by simp) (QF w.drew _ _ 0 _ rfl) (QF w.drew _ _ 1 _ rfl) (aC.o.alloc _) (aB.o.alloc _) (by omega));rw[ax.o]at ao;refine qc 15 (h:=fun O G=>?_);go_simp;refine ao.o.mono ?_;rintro e aA ⟨aU,rfl,aH,av⟩;have ak:=aa.trans (av.mono aa.size);have aq:=aH.bys;obtain⟨aR,aZ,r5⟩:=aq.shape;subst r5;obtain⟨K,al,aM,aw⟩:=aD.o aA _ ak aq;refine G.out _ _ (ai.o _ ak) (fun a5=>?_);clear G O;try simp only[zx]
 refine' z5 18 (h:=?_);refine qc 19 (h:=fun O G=>?_);go_simp;refine G.out _ _ (K.cells.2.2.2.2.2.2) (fun a5=>?_);clear G O;try simp only[zx]
 refine wpAnyH_done (by kernel_rfl) ?_ _;clear a5 aM aw;have aN:=z0 (K.setTorn (qW.nil _) (fun _=>rfl));have aJ:=z0 (al.setB 6 (.slice none 0 0));obtain⟨_,_,_,_,_,_,aS⟩:=K.cells;have aY:=K.free 6;clear K al;go_wp2_with fail;go_end0;exact⟨rfl,⟨_,_,_,aN.o⟩,aJ.o⟩
theorem z8R (h:zU w b c a V v0 v1 vt) (g:V.Good) (a7:¬V.torn=[]) (hp:qr V=1) (m:Int):Calls prog 87 #[.pointer (some ⟨b,0,none⟩),.int .i64 m] w fun e w'=>e=.returned (.tuple #[])/\jL w' b c a (ZN V m)/\zJ b a w w':=by
 have ae:ZN V m={ zu V 1 (qm V.torn V.s1 m) with torn:=[] }:=by
  unfold ZN;rw[if_neg a7,hp];rfl
 rw[ae];have af:=z0 (vL h g);rw[hp]at af;obtain⟨L,F⟩:=nm (V.torn.length:Nat);obtain⟨N,I⟩:=nm (V.s1.length:Nat);have aW:L<=1000:=by rw[<-F.o];exact g.lt
 have aV:N<=1000:=by rw[<-I.o];exact g.l1
 obtain⟨T,a4⟩:=nm (min m.toNat L:Nat);have ar:T<=L:=by have:=a4.o;omega
 obtain⟨U,a2⟩:=nm (min T N);have aE:U<=N:=by have:=a2.o;omega
 have aP:mnI (mxI m 0) (L:Int)=(T:Int):=by
  have:=a4.o;unfold mnI mxI;split <;> split <;> omega
 have aT:mnI (T:Int) (N:Int)=(U:Int):=by
  have:=a2.o;unfold mnI;split <;> omega
 have ax:Hd (V.torn.take T ++ V.s1.drop U=qm V.torn V.s1 m):=z0 (by
  have aN:V.torn.take T=V.torn.take m.toNat:=by
   rw[<-a4.o,<-F.o];by_cases a6:m.toNat<=V.torn.length
   ·rw[Nat.min_eq_left a6]
   ·rw[Nat.min_eq_right (by omega),List.take_length,List.take_of_length_le (by omega)]
  unfold qm;rw[<-aN]
  congr 1
  have az:(V.torn.take T).length=T:=by rw[List.length_take,F.o];omega
  rw[az,<-a2.o,<-I.o];by_cases a6:T<=V.s1.length
  ·rw[Nat.min_eq_left a6]
  ·rw[Nat.min_eq_right (by omega),List.drop_length,List.drop_of_length_le (by omega)])
 have M:=h.yt.byt;have a3:=h.y1.byt;obtain⟨aG,a0,r6⟩:=M.shape;rw[F.o]at r6;subst r6;obtain⟨A1,ap,r1⟩:=a3.shape;rw[I.o]at r1;subst r1;have ag:=M.at_.2.1;have am:=M.at_.2.2.2;rw[F.o]at ag;have aj:=a3.at_.2.1;rw[I.o]at aj;obtain⟨a1,rfl⟩:∃x,aG=some x:=by
  obtain⟨x,y,e,_⟩:=am (by rcases au:V.torn with _|⟨x,y⟩;exact absurd au a7;simp);exact⟨_,e⟩
 obtain⟨a9,a8,r3,p3⟩:=zc5 (some a1) a0 L T ar ag;obtain⟨ab,ad,r4,p4⟩:=zc6 A1 ap N U aE aj;have hd:Below w.heap.size w w.drew:=(Below.refl _ _).drew;have an:=p3 w.drew _ F.o (M.drewN 1);have ah:=p4 w.drew _ I.o (a3.drewN 1);have z2:=h.cells;have aK:=z0 (vL (h.below hd) g);rw[hp]at aK
 have aD:Hd (∀W u,Below w.heap.size w W->qW W u (qm V.torn V.s1 m)->zU (W.setCell ⟨b,2,none⟩ u) b c a (zu V 1 (qm V.torn V.s1 m)) v0 u (.slice (some a1) L a0)/\zJ b a w (W.setCell ⟨b,2,none⟩ u)/\W.cell? ⟨b,2,none⟩=some (.slice A1 N ap)/\W.frozen? ⟨b,2,none⟩=false):=z0 (fun W u J aF=>
  ⟨(h.below J).setOne aF,(zJ.of J).setB _ _,(h.below J).cells.2.2.1,(h.below J).free _⟩)
 have ai:Hd (∀W,Below w.heap.size w W->W.cell? ⟨b,6,none⟩=some (.slice (some a1) L a0)):=z0 (fun W J=>(h.below J).cells.2.2.2.2.2.2);obtain⟨_,c1,aR,_,_,_,ay⟩:=z2;have aX:(V.torn.take T).length=T:=by rw[List.length_take,F.o];omega
 have aO:(V.s1.drop U).length=N - U:=by rw[List.length_drop,I.o]
 clear h g a7 hp ae M a3 am a4 a2 hd p3 p4 F I c1;generalize qm V.torn V.s1 m=R at *;have aC:=z0 an;have aB:=z0 ah;clear an ah;have aJ:=ZZ;go_enter func87,ntmps87;go_upto_region 2 with(fail)
 clear aJ;go_wp2_with fail;refine af.o.mono ?_;rintro e b0 ⟨rfl,rfl⟩;go_upto_region 4 with(fail)
 refine Rh (S:=fun W=>W.cell? ⟨b,6,none⟩=some (.slice (some a1) L a0)) (by kernel_rfl) ay (fun a5=>?_);refine' z5 0 (h:=z5 1 (h:=z5 2 (h:=z5 3 (h:=z5 4 (h:=z5 5 (h:=z5 6 (h:=z5 7 (h:=z5 8 (h:=z5 9 (h:=z5 10 (h:=z5 11 (h:=?_))))))))))));refine' z5 12 (h:=z5 13 (h:=z5 16 (h:=z5 17 (h:=?_))));have aa:Below w.heap.size w (w.drew.alloc (.cells #[.slice a9 T a8,.slice ab (N - U) ad] 33)):=((Below.refl _ _).drew).alloc (Nat.le_refl _) _;refine qc 14 (h:=fun O G=>?_);go_simp;refine G.out _ _ (ai.o _ aa) (fun a5=>?_);clear G O;try simp only[zx]
 have ao:=z0 (Xz (.slice a9 T a8) (.slice ab (N - U) ad) _ _ w.heap.size 2 (w.drew.alloc (.cells #[.slice a9 T a8,.slice ab (N - U) ad] 33)) (by simp) (QF w.drew _ _ 0 _ rfl) (QF w.drew _ _ 1 _ rfl) (aC.o.alloc _) (aB.o.alloc _) (by omega));rw[ax.o]at ao;refine qc 15 (h:=fun O G=>?_);go_simp;refine ao.o.mono ?_;rintro e aA ⟨aU,rfl,aH,av⟩;have ak:=aa.trans (av.mono aa.size);have aq:=aH.bys;obtain⟨aQ,aZ,r5⟩:=aq.shape;subst r5;obtain⟨K,al,aL,aw⟩:=aD.o aA _ ak aq;refine G.out _ _ (ai.o _ ak) (fun a5=>?_);clear G O;try simp only[zx]
 refine' z5 18 (h:=?_);refine qc 19 (h:=fun O G=>?_);go_simp;refine G.out _ _ (K.cells.2.2.2.2.2.2) (fun a5=>?_);clear G O;try simp only[zx]
 refine wpAnyH_done (by kernel_rfl) ?_ _;clear a5 aL aw;have aM:=z0 (K.setTorn (qW.nil _) (fun _=>rfl));have aI:=z0 (al.setB 6 (.slice none 0 0));obtain⟨_,_,_,_,_,_,aS⟩:=K.cells;have aY:=K.free 6;clear K al;go_wp2_with fail;go_end0;exact⟨rfl,⟨_,_,_,aM.o⟩,aI.o⟩
theorem z8S (h:jL w b c a V) (g:V.Good) (m:Int):Calls prog 87 #[.pointer (some ⟨b,0,none⟩),.int .i64 m] w fun e w'=>e=.returned (.tuple #[])/\jL w' b c a (ZN V m)/\zJ b a w w':=by
 obtain⟨v0,v1,vt,h⟩:=h;by_cases F:V.torn=[]
 ·refine(z6q h F m).mono ?_;rintro e G ⟨rfl,rfl⟩;refine⟨rfl,?_,zJ.refl _ _ _⟩;unfold ZN;rw[if_pos F];exact⟨_,_,_,h⟩
 ·rcases ZM V with hp|hp
  ·exact z6r h g F hp m
  ·exact z8R h g F hp m
theorem z6s (h:jL w b c a V) (g:V.Good) (m:Int):Calls prog 43 #[.pointer (some ⟨b,0,none⟩),.int .i64 m] w fun e w'=>e=.returned (.tuple #[])/\jL w' b c a (YZ V m)/\zJ b a w w':=by
 have I:=z0 (z8S h g m);obtain⟨v0,v1,vt,h⟩:=h;have K:=z0 (jJ h);clear h g;go_enter func43,ntmps43;go_wp2_with fail;refine K.o.mono ?_;rintro e M ⟨rfl,rfl⟩;go_wp2_with fail;refine I.o.mono ?_;rintro e M ⟨rfl,⟨u0,u1,O,h1⟩,F⟩;have J:=z0 ((h1.setDead false).setLeft (-1));have G:=z0 ((F.setB 5 (.bool false)).setB 4 (.int .i64 (-1)));obtain⟨_,_,_,_,N,a2,_⟩:=h1.cells;have a3:=h1.free 5;have a0:=(h1.setDead false).free 4;have a1:=(h1.setDead false).cells.2.2.2.2.1;clear h1 F N;go_wp2_with fail;go_end0;exact⟨rfl,⟨_,_,_,J.o⟩,G.o⟩
end
end
end Go.Proofs.YtjlinimnnbfmaaaGreatDoor
