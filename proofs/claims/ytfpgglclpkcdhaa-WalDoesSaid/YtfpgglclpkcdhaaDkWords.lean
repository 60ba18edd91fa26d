/-
  A disk in memory: its seven cells, its row of bytes; what stays when only its block and its row are turned.
-/
import Derived.Test.YtfpgglclpkcdhaaDkPure
import Derived.Test.YtfpgglclpkcdhaaBw6
namespace Go.Proofs.Ytfpgglclpkcdhaa
set_option maxRecDepth 20000
open Go.RowKit
def dkc (D:DkM) (va vt:Value):Array Value:=#[.bool true,.int .i64 D.room,va,.int .i64 (D.s.length:Int),.int .i64 D.left,.bool D.dead,vt]
def Off (a:Option Nat) (v:Value) (l:List UInt8):Prop:=l=[]∨v.ownBlock≠a
structure DkE (w:World) (b B:Nat) (D:DkM) (va vt:Value):Prop where
 p:w.heap[b]?=some (.cells (dkc D va vt) 67 (0,0))
 o:Own B w va (D.s ++ D.m)
 t:Bys w vt D.h
 f:Off va.ownBlock vt D.h
structure TnD (b:Nat) (a:Option Nat) (w w':World):Prop where
 os:w'.os=w.os
 tape:w'.tape=w.tape
 output:w'.output=w.output
 size:w.heap.size≤w'.heap.size
 block:∀ k,k < w.heap.size→k≠b→some k≠a→w'.heap[k]?=w.heap[k]?
def Nw (w:World) (a a':Option Nat):Prop:=a'=a∨∀ k,a'=some k→w.heap.size≤k
theorem Nw.refl (w:World) (a:Option Nat):Nw w a a:=.inl rfl
theorem Nw.trans {w w1:World} {a a1 a2:Option Nat} (h:Nw w a a1) (k:Nw w1 a1 a2) (hs:w.heap.size≤w1.heap.size):Nw w a a2:=by
 rcases k with rfl | k
 ·exact h
 ·exact .inr fun i e=>Nat.le_trans hs (k i e)
theorem TnD.refl (b:Nat) (a:Option Nat) (w:World):TnD b a w w:=⟨rfl,rfl,rfl,Nat.le_refl _,fun _ _ _ _=>rfl⟩
theorem TnD.of {b:Nat} {a:Option Nat} {w w':World} (h:Below w.heap.size w w'):TnD b a w w':=⟨h.os,h.tape,h.output,h.size,fun k hk _ _=>h.block k hk⟩
theorem TnD.grown {b:Nat} {a:Option Nat} {w w':World} (h:w.grownBy w' a):TnD b a w w':=⟨h.os,h.tape,h.output,h.size,fun k hk _ hn=>h.block k hk hn⟩
theorem TnD.trans {b:Nat} {a a1:Option Nat} {x y z:World} (h:TnD b a x y) (hn:Nw x a a1) (k:TnD b a1 y z):TnD b a x z:=
 ⟨k.os.trans h.os,k.tape.trans h.tape,k.output.trans h.output,Nat.le_trans h.size k.size,fun i h1 h2 h3=>(k.block i (Nat.lt_of_lt_of_le h1 h.size) h2 (by
  rcases hn with rfl | hn
  ·exact h3
  ·intro e
   have:=hn i e.symm
   omega)).trans (h.block i h1 h2 h3)⟩
theorem TnD.then {b:Nat} {a:Option Nat} {x y z:World} (h:TnD b a x y) (k:Below y.heap.size y z):TnD b a x z:=h.trans (Nw.refl x a) (TnD.of k)
theorem TnD.set {b:Nat} {a:Option Nat} {w w':World} (h:TnD b a w w') (i:Nat) (u:Value):TnD b a w (w'.setCell ⟨b,i,none⟩ u):=
 h.trans (Nw.refl w a) ⟨rfl,rfl,rfl,by simp [World.setCell],fun k _ h2 _=>Below.heap_setCell _ _ _ _ h2⟩
theorem TnD.drewN {b:Nat} {a:Option Nat} {w w':World} (h:TnD b a w w') (n:Nat):TnD b a w (w'.drewN n):=⟨h.os,h.tape,h.output,h.size,h.block⟩
theorem TnD.below {b B:Nat} {a:Option Nat} {w0 w w':World} (h:TnD b a w w') (h0:Below B w0 w) (hb:B≤b) (ha:∀ k,a=some k→B≤k) (hB:B≤w.heap.size):Below B w0 w':=
 h0.trans ⟨h.os,h.tape,h.output,h.size,fun k hk=>h.block k (Nat.lt_of_lt_of_le hk hB) (by omega) (fun e=>by have:=ha k e.symm;omega)⟩
theorem Own.blk {w:World} {B k:Nat} {v:Value} {l:List UInt8} (h:Own B w v l) (e:v.ownBlock=some k):∃ C,w.heap[k]?=some (.cells C 5 (0,0)):=by
 rcases h.2 with ⟨rfl,_⟩ | ⟨g,cap,cur,rfl,_,hh,_⟩
 ·cases e
 ·obtain rfl:g=k:=by injection e
  exact ⟨_,hh⟩
theorem Own.base {w:World} {B k:Nat} {v:Value} {l:List UInt8} (h:Own B w v l) (e:v.ownBlock=some k):B≤k∧k < w.heap.size:=World.ownsRow.lt h k e
theorem Own.off {w:World} {B:Nat} {v:Value} {l:List UInt8} {a:Option Nat} (h:Own B w v l) (ha:∀ k,a=some k→k < B):Off a v l:=by
 rcases h.2 with ⟨rfl,h0⟩ | ⟨g,cap,cur,rfl,hg,hh,_⟩
 ·exact .inl (List.eq_nil_of_length_eq_zero h0)
 ·refine .inr fun e=>?_
  have:=ha g e.symm
  omega
theorem own_cut {w:World} {B:Nat} {v:Value} {l:List UInt8} (h:Own B w v l) (k:Nat) (hk:k≤l.length):∃ v',(∀ W,cutH v (.int .i64 (k:Int)) W=.ok (.value v') W)∧v'.ownBlock=v.ownBlock∧∀ W,Own B W v l→Own B W v' (l.take k):=by
 obtain ⟨i0,hi,hz0,hz1,hz2⟩:=info_parts info_u8
 rcases h.2 with ⟨rfl,h0⟩ | ⟨g,cap,cur,rfl,hg,hh,hn,hm,hs,ht⟩
 ·obtain rfl:k=0:=by omega
  refine ⟨.slice none 0 0,fun W=>?_,rfl,fun W _=>Own.nil B W⟩
  unfold cutH execOp
  simp [Instr.sliceAt,Instr.slice,run_underlying under_bytes,Instr.sliceBounds,Instr.sliceBound,asIntOf,sizeOf,typeInfo,hi,Sem.run_bind]
 ·refine ⟨.slice (some ⟨g,0,none⟩) k cap,fun W=>?_,rfl,fun W hW=>?_⟩
  ·have hk4:k≤cap:=by omega
   unfold cutH execOp
   simp [Instr.sliceAt,Instr.slice,run_underlying under_bytes,Instr.sliceBounds,Instr.sliceBound,asIntOf,sizeOf,typeInfo,hi,hk4,Sem.run_bind,addr_add]
  ·rcases hW.2 with ⟨e,_⟩ | ⟨g2,cap2,cur2,e,hg2,hh2,hn2,hm2,hs2,ht2⟩
   ·cases e
   ·injection e with e1 e2 e3
    injection e1 with e1
    injection e1 with e1
    subst e1 e3
    have hlk:(l.take k).length=k:=by rw [List.length_take];omega
    refine ⟨by rw [hlk];simp [bcells];omega,.inr ⟨g,cap,cur2,by rw [hlk],hg2,hh2,by omega,hm2,hs2,?_⟩⟩
    rw [hlk,Nat.mul_one]
    have e:cur2.toList.take k=(cur2.toList.take (l.length * 1)).take k:=by rw [List.take_take,Nat.mul_one,Nat.min_eq_left hk]
    rw [e,ht2]
    simp [bcells,List.map_take]
section
variable {w w':World} {b B:Nat} {D:DkM} {va vt:Value}
theorem DkE.lt (h:DkE w b B D va vt):b < w.heap.size:=lt_of_block h.p
theorem DkE.cells (h:DkE w b B D va vt):w.cell? ⟨b,0,none⟩=some (.bool true)∧w.cell? ⟨b,1,none⟩=some (.int .i64 D.room)∧w.cell? ⟨b,2,none⟩=some va∧w.cell? ⟨b,3,none⟩=some (.int .i64 (D.s.length:Int))∧w.cell? ⟨b,4,none⟩=some (.int .i64 D.left)∧w.cell? ⟨b,5,none⟩=some (.bool D.dead)∧w.cell? ⟨b,6,none⟩=some vt:=by
 simp only [coBlk_cell h.p]
 exact ⟨rfl,rfl,rfl,rfl,rfl,rfl,rfl⟩
theorem DkE.free (h:DkE w b B D va vt) (i:Nat):w.frozen? ⟨b,i,none⟩=false:=coBlk_free h.p i
theorem DkE.kept (h:DkE w b B D va vt) (hs:w.heap.size≤w'.heap.size) (hk:∀ (k:Nat) (C:Array Value) (T:TypeId),w.heap[k]?=some (Obj.cells C T (0,0))→T=5∨T=67→w'.heap[k]?=w.heap[k]?):DkE w' b B D va vt:=by
 refine ⟨(hk _ _ _ h.p (.inr rfl)).trans h.p,h.o.keep (fun k _ e=>?_),h.t.away hs (fun k C hC=>hk k C _ hC (.inl rfl)),h.f⟩
 obtain ⟨C,hC⟩:=h.o.blk e
 exact hk k C _ hC (.inl rfl)
theorem DkE.below (h:DkE w b B D va vt) (hb:Below w.heap.size w w'):DkE w' b B D va vt:=h.kept hb.size (fun k _ _ hk _=>hb.block k (lt_of_block hk))
theorem DkE.alloc (h:DkE w b B D va vt) (o:Obj):DkE (w.alloc o) b B D va vt:=h.below ((Below.refl _ _).alloc (Nat.le_refl _) o)
theorem DkE.drewN (h:DkE w b B D va vt) (n:Nat):DkE (w.drewN n) b B D va vt:=⟨h.p,h.o,h.t.drewN n,h.f⟩
theorem DkE.nb (h:DkE w b B D va vt):some b≠va.ownBlock:=fun e=>by
 obtain ⟨C,hC⟩:=h.o.blk e.symm
 exact blk_ne hC h.p (by decide) rfl
theorem DkE.other (h:DkE w b B D va vt) {g:Nat} {C:Array Value} {T:TypeId} (hx:w.heap[g]?=some (.cells C T (0,0))) (h1:67≠T) (h2:5≠T) (ht:TnD b va.ownBlock w w'):w'.heap[g]?=some (.cells C T (0,0)):=
 (ht.block g (lt_of_block hx) (blk_ne h.p hx h1).symm (fun e=>by
  obtain ⟨R,hR⟩:=h.o.blk e.symm
  exact blk_ne hR hx h2 rfl)).trans hx
theorem DkE.bys (h:DkE w b B D va vt) {v:Value} {l:List UInt8} (hv:Bys w v l) (hf:Off va.ownBlock v l) (ht:TnD b va.ownBlock w w'):Bys w' v l:=by
 rcases hf with rfl | hf
 ·obtain ⟨⟨A,c,rfl,h1,h2,_⟩,_⟩:=hv
  exact ⟨⟨A,c,rfl,h1,h2,RdB.nil _ _⟩,fun h=>absurd rfl h⟩
 ·by_cases hl:l=[]
  ·subst hl
   obtain ⟨⟨A,c,rfl,h1,h2,_⟩,_⟩:=hv
   exact ⟨⟨A,c,rfl,h1,h2,RdB.nil _ _⟩,fun h=>absurd rfl h⟩
  ·obtain ⟨⟨A,c,rfl,h1,h2,h3⟩,hn⟩:=hv
   obtain ⟨g,off,rfl,hg,hc⟩:=h3 (List.length_pos_iff.2 hl)
   obtain ⟨C,hC⟩:=hn hl g rfl
   have e:=ht.block g hg (blk_ne hC h.p (by decide)) (fun e=>hf e)
   refine ⟨⟨_,c,rfl,h1,h2,fun _=>⟨g,off,rfl,by have:=ht.size;omega,fun j hj=>(World.cell?_of_block e).trans (hc j hj)⟩⟩,fun h k hk2=>?_⟩
   obtain rfl:g=k:=by injection hk2
   exact ⟨C,e.trans hC⟩
theorem TnD.more {a:Option Nat} (h:TnD b none w w'):TnD b a w w':=⟨h.os,h.tape,h.output,h.size,fun k h1 h2 _=>h.block k h1 h2 (by simp)⟩
theorem DkE.nob (h:DkE w b B D va vt) (i:Nat) (x:UInt8):w.cell? ⟨b,i,none⟩≠some (bcell x):=by
 rw [coBlk_cell h.p]
 obtain ⟨A0,c0,r0⟩:=h.o.byt.shape
 obtain ⟨A1,c1,r1⟩:=h.t.shape
 subst r0 r1
 unfold dkc bcell
 match i with
 | 0=>simp
 | 1=>simp
 | 2=>simp
 | 3=>simp
 | 4=>simp
 | 5=>simp
 | 6=>simp
 | i + 7=>simp
theorem DkE.byt (h:DkE w b B D va vt) {v:Value} {l:List UInt8} (hv:Byt w v l) (ht:TnD b none w w'):Byt w' v l:=
 byt_away hv ht.size (fun k=>k=b) (fun k hk=>by subst hk;exact h.nob) (fun k hk hn=>ht.block k hk hn (by simp))
theorem Bys.none {v:Value} (h:Bys w v []) (W:World):Bys W v []:=by
 obtain ⟨⟨A,c,rfl,h1,h2,_⟩,_⟩:=h
 exact ⟨⟨A,c,rfl,h1,h2,RdB.nil _ _⟩,fun h=>absurd rfl h⟩
theorem Off.nw {a a':Option Nat} {v:Value} {l:List UInt8} (h:Off a v l) (hv:Bys w v l) (hn:Nw w a a'):Off a' v l:=by
 rcases hn with rfl | hn
 ·exact h
 ·by_cases hl:l=[]
  ·exact .inl hl
  ·refine .inr fun e=>?_
   obtain ⟨⟨A,c,rfl,h1,h2,h3⟩,hy⟩:=hv
   obtain ⟨g,off,rfl,hg,_⟩:=h3 (List.length_pos_iff.2 hl)
   have:=hn g e.symm
   omega
theorem Nw.of {v v':Value} (h:v'.ownBlock=v.ownBlock∨v'.ownBlock=some w.heap.size):Nw w v.ownBlock v'.ownBlock:=by
 rcases h with h | h
 ·exact .inl h
 ·exact .inr fun k e=>by rw [h] at e;injection e with e;omega
theorem DkE.grown (h:DkE w b B D va vt) (hg:w.grownBy w' va.ownBlock):w'.heap[b]?=some (.cells (dkc D va vt) 67 (0,0))∧w'.cell? ⟨b,2,none⟩=some va∧w'.frozen? ⟨b,2,none⟩=false∧w'.cell? ⟨b,6,none⟩=some vt:=by
 have p:=(hg.block b h.lt h.nb).trans h.p
 refine ⟨p,?_,coBlk_free p 2,?_⟩
 ·rw [coBlk_cell p];rfl
 ·rw [coBlk_cell p];rfl
theorem dk_set {C:Array Value} {i:Nat} {u:Value} (p:w.heap[b]?=some (.cells C 67 (0,0))) (hc:C.setIfInBounds i u=dkc D va vt) (ho:Own B w va (D.s ++ D.m)) (ht:Bys w vt D.h) (hf:Off va.ownBlock vt D.h):DkE (w.setCell ⟨b,i,none⟩ u) b B D va vt:=by
 refine ⟨by rw [heapA_set w p,hc],ho.keep (fun k _ e=>?_),ht.away (by simp [World.setCell]) (fun k _ hk=>Below.heap_setCell _ _ _ _ (blk_ne hk p (by decide))),hf⟩
 obtain ⟨R,hR⟩:=ho.blk e
 exact Below.heap_setCell _ _ _ _ (blk_ne hR p (by decide))
end
def Nf (w:World) (v:Value) (h:List UInt8) (v':Value) (h':List UInt8):Prop:=∀ a,(∀ k,a=some k→k < w.heap.size)→Off a v h→Off a v' h'
theorem Nf.refl (w:World) (v:Value) (h:List UInt8):Nf w v h v h:=fun _ _ h=>h
theorem Nf.trans {w w1:World} {v v1 v2:Value} {h h1 h2:List UInt8} (p:Nf w v h v1 h1) (q:Nf w1 v1 h1 v2 h2) (hs:w.heap.size≤w1.heap.size):Nf w v h v2 h2:=fun a ha hf=>q a (fun k e=>Nat.lt_of_lt_of_le (ha k e) hs) (p a ha hf)
def DkTo (b B:Nat) (w:World) (a:Option Nat) (v:Value) (h:List UInt8) (D':DkM) (w':World):Prop:=∃ va vt,DkE w' b B D' va vt∧TnD b a w w'∧Nw w a va.ownBlock∧Nf w v h vt D'.h
end Go.Proofs.Ytfpgglclpkcdhaa
