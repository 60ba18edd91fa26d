/-
  Str StrBytes TxArg Fc Spec Run Args MacSpec RefMac SeWords CoCode VaWords: what each of them says stands at its head.
-/
import Derived.Laws.IdiomStrings
import Derived.BigRegion
import Derived.IntWalk
import Derived.LaidMore
import Derived.Lib.LaidTab
import Derived.MakeChecks
import Derived.Stop.Joined
import Derived.Stop.LaidErr
import Derived.Deep.RegionWith
import Derived.Laws.IdiomCopy
import Derived.Deep.DeepCutAuto
import Derived.Great.BuildSlice
import Derived.Test.YtfpgglclpkcdhaaBw4
import Derived.Laws.LoneSync
namespace Go.Proofs.Ytfpgglclpkcdhaa
set_option maxRecDepth 20000
open Go.RowKit
def sb (l:List UInt8):ByteArray:=⟨l.toArray⟩
end Go.Proofs.Ytfpgglclpkcdhaa
namespace Go.Proofs.Ytfpgglclpkcdhaa
set_option maxRecDepth 20000
open Go.RowKit
theorem al_le (w:World) (o:Obj):w.heap.size≤(w.alloc o).heap.size:=by simp
theorem fresh0_own (w:World):Own w.heap.size (w.alloc (.cells #[] 5)) (.slice (some ⟨w.heap.size,0,none⟩) 0 0) []:=World.ownsRow_made w #[] 0 (Nat.le_refl _) (Nat.zero_le _) rfl
theorem fresh0_below {w w2:World} (hg:(w.alloc (.cells #[] 5)).grownBy w2 (Value.slice (some ⟨w.heap.size,0,none⟩) 0 0).ownBlock):Below w.heap.size w w2:=
 ((Below.refl _ _).alloc (Nat.le_refl _) _).grown hg (by simp) (fun k hk=>(World.ownsRow.lt (fresh0_own w) k hk).1)
end Go.Proofs.Ytfpgglclpkcdhaa
namespace Go.Proofs.Ytfpgglclpkcdhaa
set_option maxRecDepth 20000
open Go.ChangeShapes Go.WideShapes Go.ChangeAt Go.RowKit
theorem cell_of_part {cs:List Value} {o:Nat} {v:Value} (e:(cs.drop o).take 1=[v]):cs[o]?=some v:=by
 have h1:=congrArg (fun l=>l[0]?) e
 simp only [List.getElem?_take_of_lt (show 0 < 1 by omega),List.getElem?_drop,Nat.add_zero] at h1
 exact h1
end Go.Proofs.Ytfpgglclpkcdhaa
namespace Go.Proofs.Ytfpgglclpkcdhaa
set_option maxRecDepth 20000
open Go.RowKit
def wv (x:UInt32):Int:=(x.toNat:Int)
def wc (x:UInt32):Value:=.int .u32 (wv x)
def fcells (n:Nat) (f:Nat→Value):Array Value:=Array.ofFn (fun i:Fin n=>f i.val)
theorem fcells_get {n i:Nat} (f:Nat→Value) (h:i < n):(fcells n f)[i]?=some (f i):=by simp [fcells,h]
theorem fcells_out {n i:Nat} (f:Nat→Value) (h:¬ i < n):(fcells n f)[i]?=none:=by simp [fcells];omega
theorem fcells_list (n:Nat) (f:Nat→Value) (i:Nat):(fcells n f).toList[i]?=if i < n then some (f i) else none:=by
 rw [Array.getElem?_toList]
 split
 ·exact fcells_get f ‹_›
 ·exact fcells_out f ‹_›
end Go.Proofs.Ytfpgglclpkcdhaa
namespace Go.Proofs.Ytfpgglclpkcdhaa
set_option maxRecDepth 20000
def sr (x:UInt32) (n:Nat):UInt32:=UInt32.ofNat (x.toNat / 2 ^ n)
end Go.Proofs.Ytfpgglclpkcdhaa
namespace Go.Proofs.Ytfpgglclpkcdhaa
set_option maxRecDepth 20000
open Go.RowKit
def more (b:Nat→UInt8) (r:List UInt8) (q k j:Nat):UInt8:=if q≤j∧j < q + k then r.getD (j - q) 0 else b j
end Go.Proofs.Ytfpgglclpkcdhaa
namespace Go.Proofs.Ytfpgglclpkcdhaa
set_option maxRecDepth 20000
open Go.ChangeShapes Go.WideShapes Go.ChangeAt Go.RowKit
theorem okWide_arr' {P:Program} {w:World} {r:Reach} {base:Nat} {v:Value} {t e:TypeId} {n:Nat} (ht:P.underlying t=some (.array n e)) (h:Value.okWide P w r base t v):∃ cs,v=.agg cs∧cs.size=P.cellsOf t:=by
 cases v <;> simp [Value.okWide,ht] at h
 exact ⟨_,rfl,h.1⟩
theorem open_arr {H:Type} {enc:TypeId × Value→H} {w:World} {base:Nat} {spare:Nat→Bool} {held:Bool} {fuel:Nat} {t e:TypeId} {n:Nat} {k:IntKind} {cs:List Value} {x:DataW H × List MemPlace}
  (ht:Try.prog.underlying t=some (.array n e)) (he:Try.prog.underlying e=some (.int k)) (hce:Try.prog.cellsOf e=1) (hct:Try.prog.cellsOf t=n)
  (h:DataW.trod enc Try.prog w base spare held fuel t cs=some x):cs.length=n∧∀ i,i < n→∃ z,cs[i]?=some (.int k z)∧(Lit.int k z).wf=true:=by
 obtain ⟨xs,m,_,_,hl,hn,hel⟩:=DataW.trod_array ht h
 rw [hct] at hl
 refine ⟨hl,fun i hi=>?_⟩
 have h1:=hel i hi
 rw [hce,Nat.mul_one,List.getElem?_eq_getElem (by omega:i < xs.length)] at h1
 obtain ⟨z,e1,e2,e3⟩:=DataW.trod_int he h1
 refine ⟨z,?_,?_⟩
 ·have hi2:i < cs.length:=by omega
  have:(cs.drop i).take 1=[cs[i]]:=by
   rw [List.drop_eq_getElem_cons hi2]
   rfl
  rw [this] at e1
  rw [List.getElem?_eq_getElem hi2]
  injection e1 with e1 _
  rw [e1]
 ·exact e3
def zof:Option Value→Nat
 | some (.int _ z)=>z.toNat
 | _=>0
theorem bytes_of {cs:List Value} {n:Nat} (hl:cs.length=n) (h:∀ i,i < n→∃ z,cs[i]?=some (.int .u8 z)∧(Lit.int .u8 z).wf=true):∃ f:Nat→UInt8,cs=(fcells n fun j=>bcell (f j)).toList:=by
 refine ⟨fun i=>UInt8.ofNat (zof cs[i]?),?_⟩
 apply List.ext_getElem?
 intro i
 rw [fcells_list]
 by_cases hi:i < n
 ·obtain ⟨z,e,hw⟩:=h i hi
  have hr:0≤z∧z≤255:=by simpa [Lit.wf,IntKind.min,IntKind.max,IntKind.signed,IntKind.bits] using hw
  rw [if_pos hi,e]
  have ez:zof cs[i]?=z.toNat:=by rw [e];rfl
  show some (Value.int .u8 z)=some (.int .u8 ((UInt8.ofNat (zof cs[i]?)).toNat:Int))
  rw [ez,UInt8.toNat_ofNat',show ((z.toNat % 2 ^ 8:Nat):Int)=z from by omega]
 ·rw [if_neg hi,List.getElem?_eq_none (by omega)]
end Go.Proofs.Ytfpgglclpkcdhaa
namespace Go.Proofs.Ytfpgglclpkcdhaa
set_option maxRecDepth 20000
def hl (n:Nat) (f:Nat→UInt8):List UInt8:=(List.range n).map f
theorem bv_xor (x y:UInt8):bits BinOp.xor IntKind.u8 (x.toNat:Int) (y.toNat:Int)=((x ^^^ y).toNat:Int):=by
 have:=x.toNat_lt
 have:=y.toNat_lt
 rw [u8_xor_nat _ _ (by omega) (by omega),UInt8.toNat_xor]
end Go.Proofs.Ytfpgglclpkcdhaa
namespace Go.Proofs.Ytfpgglclpkcdhaa
set_option maxRecDepth 20000
open Go.RowKit
theorem xor_byte (c x:UInt8) {y z r:Int} (hy:(c.toNat:Int)=y) (hz:(x.toNat:Int)=z) (hr:((c ^^^ x).toNat:Int)=r):bits BinOp.xor IntKind.u8 y z=r:=by
 rw [← hy,← hz,← hr]
 exact bv_xor c x
end Go.Proofs.Ytfpgglclpkcdhaa
namespace Go.Proofs.Ytfpgglclpkcdhaa
set_option maxRecDepth 20000
open Go.RowKit
def setSe (w:World) (g:Nat) (C:Array Value):World:=w.setRow g C
theorem setSe_other (w:World) {g k:Nat} (C:Array Value) (hk:k≠g):(setSe w g C).heap[k]?=w.heap[k]?:=setRow_other w g k _ hk
theorem setSe_same {w:World} {g:Nat} {t:TypeId} {C0 C:Array Value} (hg:w.heap[g]?=some (.cells C0 t (0,0))):(setSe w g C).heap[g]?=some (.cells C t (0,0)):=setRow_heap w g _ _ t _ hg
theorem setSe_below {B g:Nat} {a w:World} {C:Array Value} (hb:Below B a w) (hg:B≤g):Below B a (setSe w g C):=below_setRow hb hg _
end Go.Proofs.Ytfpgglclpkcdhaa
namespace Go.Proofs.Ytfpgglclpkcdhaa
set_option maxRecDepth 20000
open Go.RowKit
theorem coBlk_cell {w:World} {g:Nat} {cs:Array Value} {t:TypeId} (h:w.heap[g]?=some (.cells cs t (0,0))) (i:Nat):w.cell? ⟨g,i,none⟩=cs[i]?:=cell_of_row w g i cs t (0,0) h
theorem coBlk_free {w:World} {g:Nat} {cs:Array Value} {t:TypeId} (h:w.heap[g]?=some (.cells cs t (0,0))) (i:Nat):w.frozen? ⟨g,i,none⟩=false:=by simp [World.frozen?,h]
theorem heapA_new (w:World) (o:Obj):(w.alloc o).heap[w.heap.size]?=some o:=by
 show (w.heap.push o)[w.heap.size]?=some o
 simp
theorem heapA_old (w:World) (o:Obj) {k:Nat} (h:k < w.heap.size):(w.alloc o).heap[k]?=w.heap[k]?:=by
 show (w.heap.push o)[k]?=_
 rw [Array.getElem?_push]
 simp [Nat.ne_of_lt h]
theorem heapA_set (w:World) {g:Nat} {cs:Array Value} {t:TypeId} (h:w.heap[g]?=some (.cells cs t (0,0))) (i:Nat) (u:Value):(w.setCell ⟨g,i,none⟩ u).heap[g]?=some (.cells (cs.setIfInBounds i u) t (0,0)):=by
 simp [World.setCell,Array.getElem?_modify,h]
def cap (n:Int):Int:=if n < 1099511627776 then n else 1099511627776
end Go.Proofs.Ytfpgglclpkcdhaa
namespace Go.Proofs.Ytfpgglclpkcdhaa
set_option maxRecDepth 20000
open Go.RowKit
theorem qnil_bytes:∀ (w:World) (a:Option Addr) (n c:Nat),(binOp .eql 33 (.slice a n c) (.slice none 0 0)).run Try.prog w=.ok (.bool a.isNone) w:=fun w a n c=>Lib.run_eql_slice_nil w _ _ a n c 0 0 under_bytes
structure Bys (w:World) (v:Value) (l:List UInt8):Prop where
 byt:Byt w v l
 ty:l≠[]→∀ k,v.ownBlock=some k→∃ C,w.heap[k]?=some (.cells C 5 (0,0))
theorem Bys.shape {w:World} {v:Value} {l:List UInt8} (h:Bys w v l):∃ A c,v=.slice A l.length c:=h.byt.shape
theorem Bys.nil (w:World):Bys w (.slice none 0 0) []:=⟨Byt.nil w,fun h=>absurd rfl h⟩
theorem Own.bys {w:World} {B:Nat} {v:Value} {l:List UInt8} (h:Own B w v l):Bys w v l:=by
 refine ⟨h.byt,fun _ k e=>?_⟩
 rcases h.2 with ⟨rfl,_⟩ | ⟨g,cap,cur,rfl,_,hh,_⟩
 ·cases e
 ·obtain rfl:g=k:=by injection e
  exact ⟨_,hh⟩
theorem Bys.away {w w':World} {v:Value} {l:List UInt8} (h:Bys w v l) (hs:w.heap.size≤w'.heap.size)
  (hk:∀ (k:Nat) (C:Array Value),w.heap[k]?=some (Obj.cells C 5 (0,0))→w'.heap[k]?=w.heap[k]?):Bys w' v l:=by
 obtain ⟨⟨A,c,rfl,h1,h2,h3⟩,hn⟩:=h
 by_cases hl:l=[]
 ·subst hl
  exact ⟨⟨A,c,rfl,h1,h2,RdB.nil _ _⟩,fun h=>absurd rfl h⟩
 ·obtain ⟨b,off,rfl,hb,hc⟩:=h3 (List.length_pos_iff.2 hl)
  obtain ⟨C,hC⟩:=hn hl b rfl
  have e:=hk b C hC
  refine ⟨⟨_,c,rfl,h1,h2,fun _=>⟨b,off,rfl,by omega,fun j hj=>(World.cell?_of_block e).trans (hc j hj)⟩⟩,fun h k hk2=>?_⟩
  obtain rfl:b=k:=by injection hk2
  exact ⟨C,e.trans hC⟩
theorem Bys.below {w w':World} {v:Value} {l:List UInt8} (h:Bys w v l) (hb:Below w.heap.size w w'):Bys w' v l:=h.away hb.size (fun k _ hk=>hb.block k (lt_of_block hk))
theorem Bys.drewN {w:World} {v:Value} {l:List UInt8} (h:Bys w v l) (n:Nat):Bys (w.drewN n) v l:=⟨h.byt.drewN n,h.ty⟩
theorem blk_ne {w:World} {b a:Nat} {C D:Array Value} {T U:TypeId} (h:w.heap[b]?=some (.cells C T (0,0))) (k:w.heap[a]?=some (.cells D U (0,0))) (hT:T≠U):b≠a:=by
 rintro rfl
 have:=h.symm.trans k
 injection this with e
 injection e with _ e _
 exact hT e
theorem byt_away {w w':World} {v:Value} {l:List UInt8} (h:Byt w v l) (hs:w.heap.size≤w'.heap.size) (S:Nat→Prop)
  (hS:∀ k,S k→∀ i c,w.cell? ⟨k,i,none⟩≠some (bcell c)) (hk:∀ k,k < w.heap.size→¬ S k→w'.heap[k]?=w.heap[k]?):Byt w' v l:=by
 obtain ⟨A,c,rfl,h1,h2,h3⟩:=h
 refine ⟨A,c,rfl,h1,h2,fun hl=>?_⟩
 obtain ⟨b,off,e,hb,hc⟩:=h3 hl
 refine ⟨b,off,e,by omega,fun j hj=>?_⟩
 have hn:¬ S b:=fun hs=>hS b hs _ _ (hc 0 hl)
 exact (World.cell?_of_block (hk b hb hn)).trans (hc j hj)
end Go.Proofs.Ytfpgglclpkcdhaa
