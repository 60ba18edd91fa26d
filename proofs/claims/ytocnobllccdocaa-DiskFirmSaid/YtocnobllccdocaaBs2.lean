/-
  Str StrBytes Fc MacSpec RefMac SeWords CoCode VaWords AtArg: what each of them says stands at its head.
-/
import Derived.Test.YtocnobllccdocaaBs1
import Derived.Laws.IdiomStrings
import Derived.BigRegion
import Derived.Deep.RegionWith
import Derived.IntWalk
import Derived.Laws.IdiomCopy
import Derived.Deep.DeepCutAuto
import Derived.Great.BuildSlice
import Derived.Lib.SlBytesConst
import Derived.Laws.LoneSync
namespace Go.Proofs.Ytocnobllccdocaa
set_option maxRecDepth 20000
open Go.RowKit
def sb (l:List UInt8):ByteArray:=⟨l.toArray⟩
end Go.Proofs.Ytocnobllccdocaa
namespace Go.Proofs.Ytocnobllccdocaa
set_option maxRecDepth 20000
open Go.RowKit
theorem al_le (w:World) (o:Obj):w.heap.size≤(w.alloc o).heap.size:=by simp
theorem fresh0_own (w:World):Own w.heap.size (w.alloc (.cells #[] 5)) (.slice (some ⟨w.heap.size,0,none⟩) 0 0) []:=World.ownsRow_made w #[] 0 (Nat.le_refl _) (Nat.zero_le _) rfl
theorem fresh0_below {w w2:World} (hg:(w.alloc (.cells #[] 5)).grownBy w2 (Value.slice (some ⟨w.heap.size,0,none⟩) 0 0).ownBlock):Below w.heap.size w w2:=
 ((Below.refl _ _).alloc (Nat.le_refl _) _).grown hg (by simp) (fun k hk=>(World.ownsRow.lt (fresh0_own w) k hk).1)
end Go.Proofs.Ytocnobllccdocaa
namespace Go.Proofs.Ytocnobllccdocaa
set_option maxRecDepth 20000
open Go.RowKit
def wv (x:UInt32):Int:=(x.toNat:Int)
def wc (x:UInt32):Value:=.int .u32 (wv x)
end Go.Proofs.Ytocnobllccdocaa
namespace Go.Proofs.Ytocnobllccdocaa
set_option maxRecDepth 20000
def hl (n:Nat) (f:Nat→UInt8):List UInt8:=(List.range n).map f
theorem bv_xor (x y:UInt8):bits BinOp.xor IntKind.u8 (x.toNat:Int) (y.toNat:Int)=((x ^^^ y).toNat:Int):=by
 have:=x.toNat_lt
 have:=y.toNat_lt
 rw [u8_xor_nat _ _ (by omega) (by omega),UInt8.toNat_xor]
end Go.Proofs.Ytocnobllccdocaa
namespace Go.Proofs.Ytocnobllccdocaa
set_option maxRecDepth 20000
open Go.RowKit
theorem xor_byte (c x:UInt8) {y z r:Int} (hy:(c.toNat:Int)=y) (hz:(x.toNat:Int)=z) (hr:((c ^^^ x).toNat:Int)=r):bits BinOp.xor IntKind.u8 y z=r:=by
 rw [← hy,← hz,← hr]
 exact bv_xor c x
end Go.Proofs.Ytocnobllccdocaa
namespace Go.Proofs.Ytocnobllccdocaa
set_option maxRecDepth 20000
open Go.RowKit
def setSe (w:World) (g:Nat) (C:Array Value):World:=w.setRow g C
theorem setSe_other (w:World) {g k:Nat} (C:Array Value) (hk:k≠g):(setSe w g C).heap[k]?=w.heap[k]?:=setRow_other w g k _ hk
theorem setSe_same {w:World} {g:Nat} {t:TypeId} {C0 C:Array Value} (hg:w.heap[g]?=some (.cells C0 t (0,0))):(setSe w g C).heap[g]?=some (.cells C t (0,0)):=setRow_heap w g _ _ t _ hg
theorem setSe_below {B g:Nat} {a w:World} {C:Array Value} (hb:Below B a w) (hg:B≤g):Below B a (setSe w g C):=below_setRow hb hg _
end Go.Proofs.Ytocnobllccdocaa
namespace Go.Proofs.Ytocnobllccdocaa
set_option maxRecDepth 20000
open Go.RowKit
theorem coBlk_cell {w:World} {g:Nat} {cs:Array Value} {t:TypeId} (h:w.heap[g]?=some (.cells cs t (0,0))) (i:Nat):w.cell? ⟨g,i,none⟩=cs[i]?:=cell_of_row w g i cs t (0,0) h
theorem coBlk_free {w:World} {g:Nat} {cs:Array Value} {t:TypeId} (h:w.heap[g]?=some (.cells cs t (0,0))) (i:Nat):w.frozen? ⟨g,i,none⟩=false:=by simp [World.frozen?,h]
theorem heapA_new (w:World) (o:Obj):(w.alloc o).heap[w.heap.size]?=some o:=by
 show (w.heap.push o)[w.heap.size]?=some o
 simp
theorem heapA_old (w:World) (o:Obj) {k:Nat} (h:k < w.heap.size):(w.alloc o).heap[k]?=w.heap[k]?:=by
 show (w.heap.push o)[k]?=_
 rw [Array.getElem?_push]
 simp [Nat.ne_of_lt h]
theorem heapA_set (w:World) {g:Nat} {cs:Array Value} {t:TypeId} (h:w.heap[g]?=some (.cells cs t (0,0))) (i:Nat) (u:Value):(w.setCell ⟨g,i,none⟩ u).heap[g]?=some (.cells (cs.setIfInBounds i u) t (0,0)):=by
 simp [World.setCell,Array.getElem?_modify,h]
def cap (n:Int):Int:=if n < 1099511627776 then n else 1099511627776
end Go.Proofs.Ytocnobllccdocaa
namespace Go.Proofs.Ytocnobllccdocaa
set_option maxRecDepth 20000
open Go.RowKit
structure Bys (w:World) (v:Value) (l:List UInt8):Prop where
 byt:Byt w v l
 ty:l≠[]→∀ k,v.ownBlock=some k→∃ C,w.heap[k]?=some (.cells C 5 (0,0))
theorem Bys.shape {w:World} {v:Value} {l:List UInt8} (h:Bys w v l):∃ A c,v=.slice A l.length c:=h.byt.shape
theorem Bys.nil (w:World):Bys w (.slice none 0 0) []:=⟨Byt.nil w,fun h=>absurd rfl h⟩
theorem Own.bys {w:World} {B:Nat} {v:Value} {l:List UInt8} (h:Own B w v l):Bys w v l:=by
 refine ⟨h.byt,fun _ k e=>?_⟩
 rcases h.2 with ⟨rfl,_⟩ | ⟨g,cap,cur,rfl,_,hh,_⟩
 ·cases e
 ·obtain rfl:g=k:=by injection e
  exact ⟨_,hh⟩
theorem Bys.away {w w':World} {v:Value} {l:List UInt8} (h:Bys w v l) (hs:w.heap.size≤w'.heap.size)
  (hk:∀ (k:Nat) (C:Array Value),w.heap[k]?=some (Obj.cells C 5 (0,0))→w'.heap[k]?=w.heap[k]?):Bys w' v l:=by
 obtain ⟨⟨A,c,rfl,h1,h2,h3⟩,hn⟩:=h
 by_cases hl:l=[]
 ·subst hl
  exact ⟨⟨A,c,rfl,h1,h2,RdB.nil _ _⟩,fun h=>absurd rfl h⟩
 ·obtain ⟨b,off,rfl,hb,hc⟩:=h3 (List.length_pos_iff.2 hl)
  obtain ⟨C,hC⟩:=hn hl b rfl
  have e:=hk b C hC
  refine ⟨⟨_,c,rfl,h1,h2,fun _=>⟨b,off,rfl,by omega,fun j hj=>(World.cell?_of_block e).trans (hc j hj)⟩⟩,fun h k hk2=>?_⟩
  obtain rfl:b=k:=by injection hk2
  exact ⟨C,e.trans hC⟩
theorem Bys.below {w w':World} {v:Value} {l:List UInt8} (h:Bys w v l) (hb:Below w.heap.size w w'):Bys w' v l:=h.away hb.size (fun k _ hk=>hb.block k (lt_of_block hk))
theorem Bys.drewN {w:World} {v:Value} {l:List UInt8} (h:Bys w v l) (n:Nat):Bys (w.drewN n) v l:=⟨h.byt.drewN n,h.ty⟩
theorem blk_ne {w:World} {b a:Nat} {C D:Array Value} {T U:TypeId} (h:w.heap[b]?=some (.cells C T (0,0))) (k:w.heap[a]?=some (.cells D U (0,0))) (hT:T≠U):b≠a:=by
 rintro rfl
 have:=h.symm.trans k
 injection this with e
 injection e with _ e _
 exact hT e
theorem byt_away {w w':World} {v:Value} {l:List UInt8} (h:Byt w v l) (hs:w.heap.size≤w'.heap.size) (S:Nat→Prop)
  (hS:∀ k,S k→∀ i c,w.cell? ⟨k,i,none⟩≠some (bcell c)) (hk:∀ k,k < w.heap.size→¬ S k→w'.heap[k]?=w.heap[k]?):Byt w' v l:=by
 obtain ⟨A,c,rfl,h1,h2,h3⟩:=h
 refine ⟨A,c,rfl,h1,h2,fun hl=>?_⟩
 obtain ⟨b,off,e,hb,hc⟩:=h3 hl
 refine ⟨b,off,e,by omega,fun j hj=>?_⟩
 have hn:¬ S b:=fun hs=>hS b hs _ _ (hc 0 hl)
 exact (World.cell?_of_block (hk b hb hn)).trans (hc j hj)
end Go.Proofs.Ytocnobllccdocaa
namespace Go.Proofs.Ytocnobllccdocaa
set_option maxRecDepth 20000
open Go.ChangeShapes Go.WideShapes Go.ChangeAt Go.RowKit Go.Deep
theorem drop_part {α:Type} {cs l:List α} {o k:Nat} (h:(cs.drop o).take k=l):cs.drop o=l ++ cs.drop (o + k):=by
 conv=>lhs;rw [← List.take_append_drop k (cs.drop o),List.drop_drop,h]
end Go.Proofs.Ytocnobllccdocaa
