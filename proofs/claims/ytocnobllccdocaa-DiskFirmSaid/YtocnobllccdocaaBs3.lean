/-
  SeAwake VaRvCrash CrcBits CrcRef Els ElsArg: what each of them says stands at its head.
-/
import Derived.LaidMore
import Derived.Lib.LaidTab
import Derived.MakeChecks
import Derived.Stop.Joined
import Derived.Test.YtocnobllccdocaaBs2
import Derived.ArgAppend
import Derived.Deep.CutBlock
import Derived.Lib.AppendZerosOnto
namespace Go.Proofs.Ytocnobllccdocaa
set_option maxRecDepth 20000
open Go.RowKit
theorem setSe_alloc (w:World) (T:TypeId) (C0 C:Array Value):setSe (w.alloc (.cells C0 T)) w.heap.size C=w.alloc (.cells C T):=by
 have hm:∀ (a:Array Obj) (x:Obj) (f:Obj→Obj),(a.push x).modify a.size f=a.push (f x):=by
  intro a x f
  apply Array.ext_getElem?
  intro k
  rw [Array.getElem?_modify]
  by_cases h:a.size=k
  ·subst h
   simp
  ·rw [if_neg h,Array.getElem?_push,Array.getElem?_push]
   rw [if_neg (fun e=>h e.symm),if_neg (fun e=>h e.symm)]
 unfold setSe World.setRow World.alloc
 simp only [hm]
end Go.Proofs.Ytocnobllccdocaa
namespace Go.Proofs.Ytocnobllccdocaa
set_option maxRecDepth 20000
open Go.RowKit
theorem own_set {B:Nat} {w:World} {g n c:Nat} {l:List UInt8} (h:Own B w (.slice (some ⟨g,0,none⟩) n c) l) (hn:n=l.length) {i:Nat} (x:UInt8):
  Own B (w.setCell ⟨g,i,none⟩ (bcell x)) (.slice (some ⟨g,0,none⟩) n c) (l.set i x):=by
 subst hn
 have:=(World.ownsRow.stored h i (bcell x)).1
 have e:(bcells l).set i (bcell x)=bcells (l.set i x):=by unfold bcells;rw [List.map_set]
 rw [e] at this
 unfold Own
 rw [List.length_set]
 exact this
end Go.Proofs.Ytocnobllccdocaa
namespace Go.Proofs.Ytocnobllccdocaa
set_option maxRecDepth 20000
def cb (c:UInt8):List Bool:=(List.range 8).map fun k=>c.toNat.testBit (7 - k)
end Go.Proofs.Ytocnobllccdocaa
namespace Go.Proofs.Ytocnobllccdocaa
set_option maxRecDepth 20000
open Go.RowKit
theorem byt_new (w:World) (l:List UInt8) {C:Array Value} (hC:C=(bcells l).toArray) (hm:l.length≤maxLen):Byt (w.alloc (.cells C 5)) (.slice (some ⟨w.heap.size,0,none⟩) l.length l.length) l:=by
 subst hC
 refine ⟨_,_,rfl,Nat.le_refl _,hm,fun _=>⟨w.heap.size,0,rfl,by simp,fun j hj=>?_⟩⟩
 rw [Nat.zero_add,cell_of_row _ _ _ _ _ (0,0) (heap_alloc_new w _)]
 simp [bcells,hj]
end Go.Proofs.Ytocnobllccdocaa
namespace Go.Proofs.Ytocnobllccdocaa
set_option maxRecDepth 20000
open Go.RowKit
structure Elt {α:Type} (ec:α→List Value) (P:α→Prop) (n:Nat) (T SL:TypeId):Prop where
 pos:0 < n
 len:∀ a,P a→(ec a).length=n
 one:∀ a,∀ u ∈ ec a,u.oneCell'=true
 under:Try.prog.underlying SL=some (.slice T)
 cells:Try.prog.cellsOf T=n
 info:∃ i z,Try.prog.info? T=some i∧i.zero=some z∧i.size=n∧i.bytes≤100000∧z.cells.size=n
section
variable {α:Type} (ec:α→List Value) (n:Nat)
def ElsA (w:World) (A:Option Addr) (L:List α):Prop:=
 0 < L.length→∃ b off,A=some ⟨b,off,none⟩∧b < w.heap.size∧∀ j (h:j < L.length),w.rangeAt b (off + j * n) (ec L[j])
def Els (w:World) (v:Value) (L:List α):Prop:=∃ A c,v=.slice A L.length c∧L.length≤c∧c≤maxLen∧ElsA ec n w A L
end
theorem range_kept {w w':World} {b o:Nat} {l:List Value} (h:w.rangeAt b o l) (hk:w'.heap[b]?=w.heap[b]?):w'.rangeAt b o l:=fun j u hu=>(World.cell?_of_block hk).trans (h j u hu)
section
variable {α:Type} {ec:α→List Value} {n:Nat} {w w':World} {A:Option Addr} {v:Value} {L:List α}
theorem ElsA.nil (w:World) (A:Option Addr):ElsA ec n w A []:=fun h=>absurd h (by simp)
theorem ElsA.below (h:ElsA ec n w A L) (hb:Below w.heap.size w w'):ElsA ec n w' A L:=fun hl=>by
 obtain ⟨b,off,e,hlt,hc⟩:=h hl
 exact ⟨b,off,e,Nat.lt_of_lt_of_le hlt hb.size,fun j hj=>range_kept (hc j hj) (hb.block b hlt)⟩
theorem Els.nil (w:World):Els ec n w (.slice none 0 0) []:=⟨none,0,rfl,Nat.le_refl _,Nat.zero_le _,ElsA.nil _ _⟩
theorem Els.below (h:Els ec n w v L) (hb:Below w.heap.size w w'):Els ec n w' v L:=by
 obtain ⟨A,c,rfl,h1,h2,h3⟩:=h
 exact ⟨A,c,rfl,h1,h2,h3.below hb⟩
theorem Els.len (h:Els ec n w v L):L.length≤maxLen:=by
 obtain ⟨_,_,_,h1,h2,_⟩:=h
 omega
theorem Els.shape (h:Els ec n w v L):∃ A c,v=.slice A L.length c:=by
 obtain ⟨A,c,e,_⟩:=h
 exact ⟨A,c,e⟩
theorem Els.at_ {k c:Nat} (h:Els ec n w (.slice A k c) L):k=L.length∧L.length≤c∧c≤maxLen∧ElsA ec n w A L:=by
 obtain ⟨A',c',e,h1,h2,h3⟩:=h
 injection e with e1 e2 e3
 subst e1 e2 e3
 exact ⟨rfl,h1,h2,h3⟩
end
end Go.Proofs.Ytocnobllccdocaa
namespace Go.Proofs.Ytocnobllccdocaa
set_option maxRecDepth 20000
open Go.ChangeShapes Go.WideShapes Go.ChangeAt Go.RowKit Go.Deep
section
variable {H:Type} {enc:TypeId × Value→H} {w:World} {base:Nat} {spare:Nat→Bool} {held:Bool} {fuel:Nat} {cs:List Value} {x:DataW H × List MemPlace}
theorem Elt.trod {α:Type} {ec:α→List Value} {P:α→Prop} {n:Nat} {T SL:TypeId} (E:Elt ec P n T SL) (a0:α) (h0:P a0)
  (el:∀ {fuel:Nat} {cs:List Value} {x:DataW H × List MemPlace},DataW.trod enc Try.prog w base spare held fuel T cs=some x→∃ a,P a∧cs=ec a)
  (h:DataW.trod enc Try.prog w base spare held fuel SL cs=some x):∃ v L,cs=[v]∧Els ec n w v L∧∀ a ∈ L,P a:=by
 rcases open_slice E.under h with ⟨rfl,_⟩ | ⟨a,len,cap,m,k,D,Pl,rfl,_,hl,hm,hmm,_,hi⟩
 ·exact ⟨_,[],rfl,⟨none,0,rfl,Nat.le_refl _,Nat.zero_le _,ElsA.nil _ _⟩,fun t ht=>by cases ht⟩
 ·have hlm:len≤m:=by rw [hmm];split <;> omega
  rw [E.cells] at hi
  have hex:∀ i,∃ t:α,P t∧(i < len→∀ j u,(ec t)[j]?=some u→w.cell? (a.add (i * n + j))=some u):=by
   intro i
   by_cases hil:i < len
   ·obtain ⟨cs',hcs,ht⟩:=hi i (by omega)
    obtain ⟨t,hb,rfl⟩:=el ht
    obtain ⟨_,hlen',hat⟩:=World.cells?_some hcs
    refine ⟨t,hb,fun _ j u hu=>?_⟩
    have hj:j < n:=by
     have:=(List.getElem?_eq_some_iff.1 hu).1
     rw [E.len t hb] at this
     exact this
    rw [← Go.Deep.add_add,hat j hj]
    exact hu
   ·exact ⟨a0,h0,fun h=>absurd h hil⟩
  refine ⟨_,(List.range len).map fun i=>(hex i).choose,rfl,⟨some a,cap,by simp,by simpa using hl,hm,fun h0'=>?_⟩,fun t ht=>?_⟩
  ·have h1:0 < len:=by simpa using h0'
   have hpos:=E.pos
   obtain ⟨b,off,spot⟩:=a
   have hl0:0 < (ec (hex 0).choose).length:=by rw [E.len _ (hex 0).choose_spec.1];exact hpos
   have hsp:=(hex 0).choose_spec.2 h1 0 _ (List.getElem?_eq_getElem hl0)
   have hspot:spot=none:=by simpa [Addr.add] using World.cell?_spot hsp
   subst hspot
   refine ⟨b,off,rfl,?_,fun i hil=>?_⟩
   ·have:=World.block_lt_of_cell? w _ hsp
    rw [addr_add] at this
    exact this
   ·have hil':i < len:=by simpa using hil
    simp only [List.getElem_map,List.getElem_range]
    intro j u hu
    have:=(hex i).choose_spec.2 hil' j u hu
    rw [addr_add] at this
    rw [← this,Nat.add_assoc]
  ·obtain ⟨i,_,rfl⟩:=List.mem_map.1 ht
   exact (hex i).choose_spec.1
end
end Go.Proofs.Ytocnobllccdocaa
