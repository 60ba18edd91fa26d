/-
  DiskFirm: what stands between two acts; an append that tells where the row is.
-/
import Derived.Test.YtocnobllccdocaaDkCodeD
import Derived.Test.YtocnobllccdocaaDkDo
namespace Go.Proofs.Ytocnobllccdocaa
set_option maxRecDepth 20000
open Go.RowKit
theorem run_append_two {w:World} {B:Nat} {v x:Value} {l m:List UInt8} (ty:TypeId) (hv:Own B w v l) (hx:Byt w x m) (hs:l.length + m.length≤140737488355328) (hB:B≤w.heap.size):
  ∃ v' w',(Builtin.append_ #[29,29] ty #[v,x]).run Try.prog w=.ok v' w'∧Own B w' v' (l ++ m)∧((v'.ownBlock=v.ownBlock∧w.grownBy w' v.ownBlock)∨(v'.ownBlock=some w.heap.size∧Below w.heap.size w w')):=by
 obtain ⟨v',w',hr,ho,hg,hat⟩:=run_append_byt ty hv hx hs hB
 refine ⟨v',w',hr,ho,?_⟩
 rcases hat with hat | hat
 ·exact .inl ⟨hat,hg⟩
 ·refine .inr ⟨hat,?_⟩
  obtain ⟨i0,hi,hz0,hz1,hz2⟩:=info_parts info_u8
  rcases hv.2 with ⟨rfl,h0⟩ | ⟨g,cap,cur,rfl,hbg,hgg,hnc,hcm,hcs,htake⟩
  ·exact ⟨hg.os,hg.tape,hg.output,hg.size,fun k hk=>hg.block k hk (by intro e;cases e)⟩
  ·obtain ⟨A,c,rfl,hmc,hcm2,hrd⟩:=hx
   rcases A with _ | ad
   ·have h0:m=[]:=by
     rcases m with _ | ⟨x,m⟩
     ·rfl
     ·obtain ⟨_,_,h,_⟩:=hrd (by simp)
      cases h
    subst h0
    have hr2:(Builtin.append_ #[29,29] ty #[.slice (some ⟨g,0,none⟩) l.length cap,.slice none ([]:List UInt8).length c]).run Try.prog w=.ok (.slice (some ⟨g,0,none⟩) l.length cap) w:=by
     simp [Builtin.append_,run_underlying under_bytes,sizeOf,typeInfo,hi,Builtin.lenOf,Builtin.firstCells,hnc,storeCells]
    rw [hr2] at hr
    injection hr with e1 e2
    subst e1 e2
    exact Below.refl _ _
   ·by_cases hlm:m=[]
    ·subst hlm
     have hr2:=run_append_room (P:=Try.prog) w 29 ty 5 i0 under_bytes hi g l.length cap cur hgg ad 0 c [] (by simp) (by simp) (by simp) (by omega) (by rw [hz1,hcs];simp;omega)
     rw [show ([]:List UInt8).length=0 from rfl] at hr
     rw [hr2] at hr
     injection hr with e1 e2
     subst e1
     have:some g=some w.heap.size:=hat
     injection this with e
     have:=lt_of_block hgg
     omega
    have hcells:∀ j u,(bcells m)[j]?=some u→w.cell? (ad.add j)=some u:=by
     intro j u hu
     obtain ⟨hj,rfl⟩:=bcells_get m j u hu
     obtain ⟨b,off,e,_,hc⟩:=hrd (List.length_pos_iff.2 hlm)
     injection e with e
     subst e
     rw [addr_add]
     exact hc j hj
    by_cases hroom:l.length + m.length≤cap
    ·have hr2:=run_append_room (P:=Try.prog) w 29 ty 5 i0 under_bytes hi g l.length cap cur hgg ad m.length c (bcells m) (by rw [hz1];simp [bcells]) hcells (bcells_one m) hroom (by rw [hz1,hcs,bcells_length];omega)
     rw [hr2] at hr
     injection hr with e1 e2
     subst e1
     have:some g=some w.heap.size:=hat
     injection this with e
     have:=lt_of_block hgg
     omega
    ·have holds:∀ j u,(bcells l)[j]?=some u→w.cell? ((⟨g,0,none⟩:Addr).add j)=some u:=hv.cells (g:=g) rfl
     have hr2:=run_append_grow (P:=Try.prog) w 29 ty 5 i0 (.int .u8 0) under_bytes hi hz0 ⟨g,0,none⟩ l.length cap (bcells l) (by rw [hz1];simp [bcells]) holds ad m.length c (bcells m) (by rw [hz1];simp [bcells]) hcells (by omega) (by omega) (by rw [hz2];exact growslice_fits (bytes:=1) (by omega) (by omega))
     rw [hr2] at hr
     injection hr with e1 e2
     subst e2
     exact ⟨rfl,rfl,rfl,by simp,fun k hk=>heapA_old w.drew _ hk⟩
theorem wpList_append_two {ops:Array Oper} {rest:List Oper} {o:Oper} {a:Act} {Q:Exit→Act→World→Prop} {w:World} (hgd:o.guard=none) (s y:Operand)
  (ho:o.op=.call { callee:=.builtin .append,args:=#[s,y],argTypes:=#[29,29] })
  {B:Nat} {v x:Value} {l m:List UInt8} (hes:a.eval s=v) (hey:a.eval y=x) (hv:Own B w v l) (hx:Byt w x m) (hs:l.length + m.length≤140737488355328) (hB:B≤w.heap.size)
  (h:∀ v' w',Own B w' v' (l ++ m)→((v'.ownBlock=v.ownBlock∧w.grownBy w' v.ownBlock)∨(v'.ownBlock=some w.heap.size∧Below w.heap.size w w'))→wpList Try.prog ops Q rest (a.put o.dst v') w'):
  wpList Try.prog ops Q (o :: rest) a w:=
 wpList_plain hgd fun _ hK=>by
  obtain ⟨v',w',hrun,h2,h3⟩:=run_append_two o.type hv hx hs hB
  unfold Oper.wp execOp
  simp only [ho,resolve,invoke,builtin,Sem.run_bind,Sem.run_pure,Result.andThen_ok,List.map_toArray,List.map_cons,List.map_nil,hes,hey,hrun]
  exact hK _ _ (h v' w' h2 h3)
theorem Bys.turnO {w w':World} {a:Option Nat} {v:Value} {l:List UInt8} (hv:Bys w v l) (hf:Off a v l) (hg:w.grownBy w' a):Bys w' v l:=by
 by_cases hl:l=[]
 ·subst hl
  exact hv.none _
 ·have hf:v.ownBlock≠a:=hf.resolve_left hl
  obtain ⟨⟨A,c,rfl,h1,h2,h3⟩,hn⟩:=hv
  obtain ⟨g,off,rfl,hlt,hc⟩:=h3 (List.length_pos_iff.2 hl)
  obtain ⟨C,hC⟩:=hn hl g rfl
  have e:=hg.block g hlt (fun e=>hf e)
  refine ⟨⟨_,c,rfl,h1,h2,fun _=>⟨g,off,rfl,by have:=hg.size;omega,fun j hj=>(World.cell?_of_block e).trans (hc j hj)⟩⟩,fun h k hk2=>?_⟩
  obtain rfl:g=k:=by injection hk2
  exact ⟨C,e.trans hC⟩
def Pre (s5 s6:Value) (S A:List UInt8):Prop:=∃ g c,s5=.slice (some ⟨g,0,none⟩) S.length c∧S.length≤c∧c≤maxLen∧s6.ownBlock=some g∧S <+: A
theorem pre_bys {w:World} {B:Nat} {s5 s6:Value} {S A:List UInt8} (h:Pre s5 s6 S A) (ho:Own B w s6 A):Bys w s5 S:=by
 obtain ⟨g,c,rfl,h1,h2,h3,h4⟩:=h
 obtain ⟨C,hC⟩:=ho.blk h3
 refine ⟨⟨_,c,rfl,h1,h2,fun hl=>⟨g,0,rfl,lt_of_block hC,fun j hj=>?_⟩⟩,fun _ k hk=>?_⟩
 ·rcases ho.2 with ⟨rfl,_⟩ | ⟨g2,cap,cur,rfl,_,hh,_⟩
  ·cases h3
  ·obtain rfl:g2=g:=by injection h3
   have hj2:j < A.length:=Nat.lt_of_lt_of_le hj h4.length_le
   rw [Nat.zero_add,World.ownsRow.cellAt ho j (by omega)]
   simp only [bcells,List.getElem?_map,List.getElem?_eq_getElem hj2,Option.map_some]
   rw [show A[j]=S[j] from (h4.getElem hj).symm]
 ·obtain rfl:g=k:=by injection hk
  exact ⟨C,hC⟩
structure DfSt (w W:World) (b:Nat) (D:DkM) (S A:List UInt8) (s5 s6:Value):Prop where
 v:∃ va vt,DkE W b w.heap.size D va vt∧Off va.ownBlock s5 S∧(∀ k,s6.ownBlock=some k→va.ownBlock≠some k)∧Off s6.ownBlock vt D.h
 y:Bys W s5 S
 o:Own w.heap.size W s6 A
 r:S=[]∨s5.ownBlock≠s6.ownBlock∨Pre s5 s6 S A
 g:D.Good
 rm:D.room=1048576
 bel:Below w.heap.size w W
 hb:w.heap.size≤b
section
variable {w W W':World} {b:Nat} {D D':DkM} {S A:List UInt8} {s5 s6 s6':Value}
theorem DfSt.below (h:DfSt w W b D S A s5 s6) (hb:Below W.heap.size W W'):DfSt w W' b D S A s5 s6:=by
 obtain ⟨va,vt,h1,h2,h3⟩:=h.v
 exact ⟨⟨va,vt,h1.below hb,h2,h3⟩,h.y.below hb,h.o.below hb,h.r,h.g,h.rm,h.bel.trans (hb.mono h.bel.size),h.hb⟩
theorem DfSt.done (h:DfSt w W b D S A s5 s6) {va vt va' vt':Value} (hv:DkE W b w.heap.size D va vt) (h2:Off va.ownBlock s5 S) (h3:∀ k,s6.ownBlock=some k→va.ownBlock≠some k) (h4:Off s6.ownBlock vt D.h) (g:D'.Good) (hr:D'.room=D.room) (hE:DkE W' b w.heap.size D' va' vt') (ht:TnD b va.ownBlock W W') (hn:Nw W va.ownBlock va'.ownBlock) (hf:Nf W vt D.h vt' D'.h):DfSt w W' b D' S A s5 s6:=by
 refine ⟨⟨va',vt',hE,h2.nw h.y hn,fun k e=>?_,hf _ (fun k e=>(h.o.base e).2) h4⟩,hv.bys h.y h2 ht,h.o.keep (fun k hk e=>?_),h.r,g,hr.trans h.rm,ht.below h.bel h.hb (fun k e=>(hv.o.base e).1) h.bel.size,h.hb⟩
 ·rcases hn with hn | hn
  ·rw [hn];exact h3 k e
  ·intro e2
   have:=hn k e2
   have:=(h.o.base e).2
   omega
 ·obtain ⟨C,hC⟩:=h.o.blk e
  exact ht.block k hk (blk_ne hC hv.p (by decide)) (fun e2=>h3 k e e2.symm)
theorem DfSt.more (h:DfSt w W b D S A s5 s6) {m:List UInt8} (ho:Own w.heap.size W' s6' (A ++ m)) (hg:(s6'.ownBlock=s6.ownBlock∧W.grownBy W' s6.ownBlock)∨(s6'.ownBlock=some W.heap.size∧Below W.heap.size W W')):DfSt w W' b D S (A ++ m) s5 s6':=by
 obtain ⟨va,vt,h1,h2,h3,h4⟩:=h.v
 rcases hg with ⟨he,hg⟩ | ⟨he,hb⟩
 ·have hk:∀ k C T,W.heap[k]?=some (.cells C T (0,0))→some k≠s6.ownBlock→W'.heap[k]?=W.heap[k]?:=fun k C T hC hn=>hg.block k (lt_of_block hC) hn
  have hpre:Pre s5 s6 S A→Pre s5 s6' S (A ++ m):=fun ⟨g,c,e,q1,q2,q3,q4⟩=>⟨g,c,e,q1,q2,he.trans q3,q4.trans (List.prefix_append _ _)⟩
  refine ⟨⟨va,vt,?_,h2,fun k e=>h3 k (he ▸ e),he ▸ h4⟩,?_,ho,?_,h.g,h.rm,h.bel.grown hg h.bel.size (fun k hk=>(h.o.base hk).1),h.hb⟩
  ·refine ⟨(hk _ _ _ h1.p (fun e=>?_)).trans h1.p,h1.o.keep (fun k hlt e=>?_),h1.t.turnO h4 hg,h1.f⟩
   ·obtain ⟨C,hC⟩:=h.o.blk e.symm
    exact blk_ne hC h1.p (by decide) rfl
   ·exact hg.block k hlt (fun e2=>h3 k e2.symm e)
  ·rcases h.r with rfl | hr | hr
   ·exact h.y.none _
   ·exact h.y.turnO (.inr hr) hg
   ·exact pre_bys (hpre hr) ho
  ·rcases h.r with hr | hr | hr
   ·exact .inl hr
   ·exact .inr (.inl (he ▸ hr))
   ·exact .inr (.inr (hpre hr))
 ·refine ⟨⟨va,vt,h1.below hb,h2,fun k e e2=>?_,?_⟩,h.y.below hb,ho,?_,h.g,h.rm,h.bel.trans (hb.mono h.bel.size),h.hb⟩
  ·rw [he] at e
   injection e with e
   have:=(h1.o.base e2).2
   omega
  ·by_cases hh:D.h=[]
   ·exact .inl hh
   ·refine .inr (fun e=>?_)
    obtain ⟨⟨A5,c,rfl,q1,q2,q3⟩,_⟩:=h1.t
    obtain ⟨g,off,rfl,hlt,_⟩:=q3 (List.length_pos_iff.2 hh)
    rw [he] at e
    injection e with e
    have:g=W.heap.size:=e
    omega
  ·by_cases hS:S=[]
   ·exact .inl hS
   ·refine .inr (.inl (fun e=>?_))
    obtain ⟨⟨A5,c,rfl,q1,q2,q3⟩,_⟩:=h.y
    obtain ⟨g,off,rfl,hlt,_⟩:=q3 (List.length_pos_iff.2 hS)
    rw [he] at e
    injection e with e
    have:g=W.heap.size:=e
    omega
theorem DfSt.safe (h:DfSt w W b D S A s5 s6) (hb:Below W.heap.size W W') {s9 s:Value} {L:List UInt8} (h9:Own W.heap.size W' s9 L) {k:Nat} (hs:Own W.heap.size W' s (L.take k)) (hob:s.ownBlock=s9.ownBlock):DfSt w W' b D (L.take k) A s s6∧DfSt w W' b D (L.take k) L s s9:=by
 obtain ⟨va,vt,h1,h2,h3,h4⟩:=h.v
 have hva:∀ k,va.ownBlock=some k→k < W.heap.size:=fun k e=>(h1.o.base e).2
 have hW:=h.below hb
 refine ⟨⟨⟨va,vt,h1.below hb,hs.off hva,h3,h4⟩,hs.bys,hW.o,?_,h.g,h.rm,hW.bel,h.hb⟩,⟨⟨va,vt,h1.below hb,hs.off hva,fun k e e2=>?_,?_⟩,hs.bys,h9.more h.bel.size,?_,h.g,h.rm,hW.bel,h.hb⟩⟩
 ·by_cases hn:L.take k=[]
  ·exact .inl hn
  ·refine .inr (.inl (fun e=>?_))
   rcases hs.2 with ⟨rfl,h0⟩ | ⟨g,cap,cur,rfl,hg,_⟩
   ·exact hn (List.eq_nil_of_length_eq_zero h0)
   ·have:=(h.o.base (k:=g) e.symm).2
    omega
 ·have:=hva k e2
  have:=(h9.base e).1
  omega
 ·by_cases hh:D.h=[]
  ·exact .inl hh
  ·refine .inr (fun e=>?_)
   obtain ⟨⟨A5,c,rfl,q1,q2,q3⟩,_⟩:=h1.t
   obtain ⟨g,off,rfl,hlt,_⟩:=q3 (List.length_pos_iff.2 hh)
   have:=(h9.base (k:=g) e.symm).1
   omega
 ·rcases hs.2 with ⟨rfl,h0⟩ | ⟨g,cap,cur,rfl,hg,hh,hn,hm,_⟩
  ·exact .inl (List.eq_nil_of_length_eq_zero h0)
  ·exact .inr (.inr ⟨g,cap,rfl,hn,hm,hob.symm,List.take_prefix _ _⟩)
end
theorem firm_step {D:DkM} (g:D.Good) (hr:D.room=1048576) {k:Int} (h2:¬ k=2) {l A:List UInt8} {n:Int} (hA:A=D.s ++ D.m ++ D.h) (hz:A.length + l.length≤1048576) {A':List UInt8} (hA':A'=if k=0∧D.dead=false then A ++ l else A):
  (actD D k l n).room=D.room∧D.s <+: (actD D k l n).s∧((actD D k l n).dead=true→(actD D k l n).s=D.s)∧(actD D k l n).s ++ (actD D k l n).m <+: A'∧(k≠4→A'=(actD D k l n).s ++ (actD D k l n).m ++ (actD D k l n).h)∧(k=4→(actD D k l n).dead=false):=by
 have hlen:A.length=D.s.length + D.m.length + D.h.length:=by rw [hA];simp [Nat.add_assoc]
 subst hA'
 by_cases k0:k=0
 ·subst k0
  rw [actD_0]
  unfold appD
  by_cases hd:D.dead=true
  ·rw [if_pos hd,if_neg (by simp [hd])]
   subst hA
   exact ⟨rfl,List.prefix_rfl,fun _=>rfl,List.prefix_append _ _,fun _=>rfl,fun h=>by cases h⟩
  ·have hd2:=dk_live hd
   have hh:=g.d hd2
   rw [hh,List.append_nil] at hA
   subst hA
   rw [if_neg hd,show (if (0:Int)=0∧D.dead=false then (D.s ++ D.m) ++ l else D.s ++ D.m)=(D.s ++ D.m) ++ l from if_pos ⟨rfl,hd2⟩]
   rw [List.length_append] at hz
   rw [if_neg (by rw [hr];omega)]
   by_cases hl:l.length=0
   ·have:l=[]:=List.eq_nil_of_length_eq_zero hl
    subst this
    rw [if_pos (show ([]:List UInt8).length=0 from rfl),hh]
    exact ⟨rfl,List.prefix_rfl,fun _=>rfl,by simp,fun _=>by simp,fun h=>by cases h⟩
   ·rw [if_neg hl]
    by_cases h0:D.left=0
    ·rw [if_pos h0]
     exact ⟨rfl,List.prefix_rfl,fun _=>rfl,List.prefix_append _ _,fun _=>rfl,fun h=>by cases h⟩
    ·rw [if_neg h0,(stepDk_left g h0).1]
     refine ⟨rfl,List.prefix_rfl,fun _=>rfl,?_,fun _=>?_,fun h=>by cases h⟩
     ·show D.s ++ (D.m ++ l) <+: _
      rw [List.append_assoc]
      exact List.prefix_rfl
     ·show _=D.s ++ (D.m ++ l) ++ D.h
      rw [hh,List.append_nil,List.append_assoc]
 rw [if_neg (fun h=>k0 h.1)]
 by_cases k1:k=1
 ·subst k1
  rw [actD_1]
  unfold syncD
  by_cases hd:D.dead=true
  ·rw [if_pos hd]
   subst hA
   exact ⟨rfl,List.prefix_rfl,fun _=>rfl,List.prefix_append _ _,fun _=>rfl,fun h=>by cases h⟩
  ·rw [if_neg hd]
   by_cases h0:D.left=0
   ·rw [if_pos h0]
    subst hA
    exact ⟨rfl,List.prefix_rfl,fun _=>rfl,List.prefix_append _ _,fun _=>rfl,fun h=>by cases h⟩
   ·rw [if_neg h0,(stepDk_left g h0).1]
    subst hA
    refine ⟨rfl,List.prefix_append _ _,fun h=>absurd h hd,?_,fun _=>?_,fun h=>by cases h⟩
    ·show D.s ++ D.m ++ [] <+: _
     rw [List.append_nil]
     exact List.prefix_append _ _
    ·show _=D.s ++ D.m ++ [] ++ D.h
     rw [List.append_nil]
 by_cases k3:k=3
 ·subst k3
  rw [actD_3]
  subst hA
  exact ⟨rfl,List.prefix_rfl,fun _=>rfl,List.prefix_append _ _,fun _=>rfl,fun h=>by cases h⟩
 by_cases k4:k=4
 ·subst k4
  rw [actD_4]
  subst hA
  refine ⟨rfl,List.prefix_append _ _,fun h=>absurd h (by simp [crashD]),?_,fun h=>absurd rfl h,fun _=>rfl⟩
  show D.s ++ (D.m ++ D.h).take n.toNat ++ [] <+: _
  rw [List.append_nil,List.append_assoc]
  exact List.prefix_append_right_inj _ |>.2 (List.take_prefix _ _)
 ·rw [actD_5 D l n ⟨k0,k1,h2,k3,k4⟩]
  subst hA
  exact ⟨rfl,List.prefix_rfl,fun _=>rfl,List.prefix_append _ _,fun _=>rfl,fun h=>absurd h k4⟩
end Go.Proofs.Ytocnobllccdocaa
