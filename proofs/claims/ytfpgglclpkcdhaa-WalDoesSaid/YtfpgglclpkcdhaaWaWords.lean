/-
  Lists of texts in memory; a wal in memory; what stays when only its disk, its row and its own block are turned.
-/
import Derived.Test.YtfpgglclpkcdhaaDkRvWords
import Derived.Test.YtfpgglclpkcdhaaWaModel
import Derived.Test.YtfpgglclpkcdhaaWaNeed
namespace Go.Proofs.Ytfpgglclpkcdhaa
set_option maxRecDepth 20000
open Go.RowKit
structure BtM where
 A:Option Addr
 c:Nat
 l:List UInt8
def BtM.v (t:BtM):Value:=.slice t.A t.l.length t.c
def btl (t:BtM):List Value:=[t.v]
def btZ:BtM:=⟨none,0,[]⟩
def bls (L:List BtM):List (List UInt8):=L.map (·.l)
theorem bls_length (L:List BtM):(bls L).length=L.length:=by simp [bls]
theorem bls_append (L M:List BtM):bls (L ++ M)=bls L ++ bls M:=by simp [bls]
theorem info_bt:(Try.prog.info? 33).map (fun i=>(i.zero,i.size,decide (i.bytes≤100000)))=some (some (.slice none 0 0),1,true):=by kernel_rfl
theorem eltBt (P:BtM→Prop):Elt btl P 1 33 30:=by
 refine ⟨by omega,fun _ _=>rfl,fun a u hu=>by obtain rfl:=List.mem_singleton.1 hu;rfl,by kernel_rfl,by kernel_rfl,?_⟩
 obtain ⟨i,hi,h⟩:=Option.map_eq_some_iff.1 info_bt
 injection h with h1 h
 injection h with h2 h3
 exact ⟨i,_,hi,h1,h2,of_decide_eq_true h3,rfl⟩
def OwnB (B:Nat) (w:World) (v:Value) (L:List BtM):Prop:=OwnE btl 1 33 B w v L
def Bts (w:World) (L:List BtM):Prop:=∀ t ∈ L,Byt w t.v t.l
theorem byt_bt {w:World} {v:Value} {l:List UInt8} (h:Byt w v l):∃ t:BtM,v=t.v∧l=t.l:=by
 obtain ⟨A,c,rfl⟩:=h.shape
 exact ⟨⟨A,c,l⟩,rfl,rfl⟩
theorem OwnB.blk {w:World} {B k:Nat} {v:Value} {L:List BtM} (h:OwnB B w v L) (e:v.ownBlock=some k):B≤k∧∃ C,w.heap[k]?=some (.cells C 33 (0,0)):=by
 rcases h.2 with ⟨rfl,_⟩ | ⟨g,cap,cur,rfl,hg,hh,_⟩
 ·cases e
 ·obtain rfl:g=k:=by injection e
  exact ⟨hg,_,hh⟩
theorem Own.grownB {w w':World} {B B':Nat} {x v:Value} {L:List BtM} {l:List UInt8} (h:Own B w v l) (hx:OwnB B' w x L) (hg:w.grownBy w' x.ownBlock):Own B w' v l:=h.keep (fun k hk e=>by
 obtain ⟨C,hC⟩:=h.blk e
 refine hg.block k hk (fun e2=>?_)
 obtain ⟨_,D,hD⟩:=hx.blk e2.symm
 exact blk_ne hC hD (by decide) rfl)
theorem ownB_len {B:Nat} {w:World} {v:Value} {L:List BtM} (h:OwnB B w v L):∃ A c,v=.slice A L.length c:=h.shape
def TxAt (B:Nat) (a:Option Nat) (w:World) (t:BtM):Prop:=Byt w t.v t.l∧(t.l=[]∨∃ k,t.v.ownBlock=some k∧k < w.heap.size∧(k < B∨((∃ C,w.heap[k]?=some (.cells C 5 (0,0)))∧some k≠a)))
theorem byt_nil_any {w:World} {v:Value} (h:Byt w v []) (W:World):Byt W v []:=by
 obtain ⟨A,c,rfl,h1,h2,_⟩:=h
 exact ⟨A,c,rfl,h1,h2,RdB.nil _ _⟩
theorem TxAt.below {B:Nat} {a:Option Nat} {w w':World} {t:BtM} (h:TxAt B a w t) (hb:Below w.heap.size w w'):TxAt B a w' t:=by
 refine ⟨h.1.below hb,?_⟩
 rcases h.2 with h0 | ⟨k,e,hk,h3⟩
 ·exact .inl h0
 ·refine .inr ⟨k,e,Nat.lt_of_lt_of_le hk hb.size,?_⟩
  rcases h3 with h3 | ⟨⟨C,hC⟩,h4⟩
  ·exact .inl h3
  ·exact .inr ⟨⟨C,(hb.block k hk).trans hC⟩,h4⟩
theorem TxAt.of {w0 w:World} {a:Option Nat} {t:BtM} (h:Byt w0 t.v t.l) (hb:Below w0.heap.size w0 w):TxAt w0.heap.size a w t:=by
 refine ⟨h.below hb,?_⟩
 by_cases hl:t.l=[]
 ·exact .inl hl
 ·obtain ⟨_,_,_,h3⟩:=Byt.at_ h
  obtain ⟨b,off,e,hlt,_⟩:=h3 (List.length_pos_iff.2 hl)
  exact .inr ⟨b,by unfold BtM.v;rw [e];rfl,Nat.lt_of_lt_of_le hlt hb.size,.inl hlt⟩
theorem TxAt.own {B C:Nat} {a:Option Nat} {w:World} {t:BtM} (h:Own C w t.v t.l) (hf:Off a t.v t.l):TxAt B a w t:=by
 refine ⟨h.byt,?_⟩
 by_cases hl:t.l=[]
 ·exact .inl hl
 ·rcases hf with hf | hf
  ·exact .inl hf
  ·rcases h.2 with ⟨e,h0⟩ | ⟨g,cap,cur,e,hg,hh,_⟩
   ·exact .inl (List.eq_nil_of_length_eq_zero h0)
   ·rw [e] at hf
    exact .inr ⟨g,by rw [e];rfl,lt_of_block hh,.inr ⟨⟨_,hh⟩,hf⟩⟩
structure TnW (b c:Nat) (a:Option Nat) (w w':World):Prop where
 os:w'.os=w.os
 tape:w'.tape=w.tape
 output:w'.output=w.output
 size:w.heap.size≤w'.heap.size
 block:∀ k,k < w.heap.size→k≠b→k≠c→some k≠a→w'.heap[k]?=w.heap[k]?
theorem TnD.w {b:Nat} {a:Option Nat} {w w':World} (h:TnD b a w w') (c:Nat):TnW b c a w w':=⟨h.os,h.tape,h.output,h.size,fun k h1 h2 _ h3=>h.block k h1 h2 h3⟩
theorem TnW.set {b c:Nat} {a:Option Nat} {w w':World} (h:TnW b c a w w') (i:Nat) (u:Value):TnW b c a w (w'.setCell ⟨c,i,none⟩ u):=
 ⟨h.os,h.tape,h.output,by simpa [World.setCell] using h.size,fun k h1 h2 h3 h4=>(Below.heap_setCell _ _ _ _ h3).trans (h.block k h1 h2 h3 h4)⟩
theorem TnW.drewN {b c:Nat} {a:Option Nat} {w w':World} (h:TnW b c a w w') (n:Nat):TnW b c a w (w'.drewN n):=⟨h.os,h.tape,h.output,h.size,h.block⟩
theorem TnW.below {b c B:Nat} {a:Option Nat} {w0 w w':World} (h:TnW b c a w w') (h0:Below B w0 w) (hb:B≤b) (hc:B≤c) (ha:∀ k,a=some k→B≤k) (hB:B≤w.heap.size):Below B w0 w':=
 h0.trans ⟨h.os,h.tape,h.output,h.size,fun k hk=>h.block k (Nat.lt_of_lt_of_le hk hB) (by omega) (by omega) (fun e=>by have:=ha k e.symm;omega)⟩
section
variable {w w':World} {b c B:Nat} {D:DkM} {va vt:Value} {a':Option Nat}
theorem TxAt.turn {t:BtM} (h:TxAt B va.ownBlock w t) (hE:DkE w b B D va vt) (hb:B≤b) (hc:B≤c) (hx:∀ k C,w.heap[k]?=some (.cells C 5 (0,0))→k≠c) (ht:TnW b c va.ownBlock w w') (hn:Nw w va.ownBlock a'):TxAt B a' w' t:=by
 by_cases hl:t.l=[]
 ·refine ⟨?_,.inl hl⟩
  have:=h.1
  rw [hl] at this ⊢
  exact byt_nil_any this _
 rcases h.2 with h0 | ⟨k,e,hk,h3⟩
 ·exact absurd h0 hl
 have hkeep:w'.heap[k]?=w.heap[k]?∧some k≠a'∨(w'.heap[k]?=w.heap[k]?∧k < B):=by
  rcases h3 with h3 | ⟨⟨C,hC⟩,h4⟩
  ·exact .inr ⟨ht.block k hk (by omega) (by omega) (fun e=>by have:=(hE.o.base e.symm).1;omega),h3⟩
  ·refine .inl ⟨ht.block k hk (blk_ne hC hE.p (by decide)) (hx k C hC) h4,?_⟩
   rcases hn with rfl | hn
   ·exact h4
   ·intro e
    have:=hn k e.symm
    omega
 have hkp:w'.heap[k]?=w.heap[k]?:=by rcases hkeep with h | h <;> exact h.1
 have hkj:∀ j,j < w.heap.size→t.v.ownBlock=some j→w'.heap[j]?=w.heap[j]?:=fun j _ ej=>by
  rw [e] at ej
  injection ej with ej
  subst ej
  exact hkp
 refine ⟨h.1.keep ht.size hkj,.inr ⟨k,e,Nat.lt_of_lt_of_le hk ht.size,?_⟩⟩
 rcases h3 with h3 | ⟨⟨C,hC⟩,h4⟩
 ·exact .inl h3
 ·rcases hkeep with h | h
  ·exact .inr ⟨⟨C,hkp.trans hC⟩,h.2⟩
  ·exact .inl h.2
theorem TnW.other (ht:TnW b c va.ownBlock w w') (hE:DkE w b B D va vt) {g:Nat} {C:Array Value} {T:TypeId} (hx:w.heap[g]?=some (.cells C T (0,0))) (h1:67≠T) (h2:5≠T) (h3:g≠c):w'.heap[g]?=some (.cells C T (0,0)):=
 (ht.block g (lt_of_block hx) (blk_ne hE.p hx h1).symm h3 (fun e=>by
  obtain ⟨R,hR⟩:=hE.o.blk e.symm
  exact blk_ne hR hx h2 rfl)).trans hx
end
theorem OwnB.kept {w w':World} {B:Nat} {v:Value} {L:List BtM} (h:OwnB B w v L) (hk:∀ (k:Nat) (C:Array Value),w.heap[k]?=some (Obj.cells C 33 (0,0))→w'.heap[k]?=w.heap[k]?):OwnB B w' v L:=OwnE.keep h (fun k _ e=>by
 obtain ⟨_,C,hC⟩:=h.blk e
 exact hk k C hC)
theorem OwnB.els {w:World} {B:Nat} {v:Value} {L:List BtM} (h:OwnB B w v L):Els btl 1 w v L:=OwnE.els h (eltBt (fun _=>True)) (fun _ _=>trivial)
def WlE (w:World) (c b:Nat) (n:Int) (br:Bool):Prop:=w.heap[c]?=some (.cells #[.pointer (some ⟨b,0,none⟩),.int .i64 n,.bool br] 62 (0,0))
theorem WlE.below {w w':World} {c b:Nat} {n:Int} {br:Bool} (h:WlE w c b n br) (hb:Below w.heap.size w w'):WlE w' c b n br:=(hb.block c (lt_of_block h)).trans h
theorem WlE.cells {w:World} {c b:Nat} {n:Int} {br:Bool} (h:WlE w c b n br):w.cell? ⟨c,0,none⟩=some (.pointer (some ⟨b,0,none⟩))∧w.cell? ⟨c,1,none⟩=some (.int .i64 n)∧w.cell? ⟨c,2,none⟩=some (.bool br):=by
 simp only [coBlk_cell h]
 exact ⟨rfl,rfl,rfl⟩
theorem WlE.free {w:World} {c b:Nat} {n:Int} {br:Bool} (h:WlE w c b n br) (i:Nat):w.frozen? ⟨c,i,none⟩=false:=coBlk_free h i
theorem WlE.other {w w':World} {c b B:Nat} {n:Int} {br:Bool} {D:DkM} {va vt:Value} (h:WlE w c b n br) (hE:DkE w b B D va vt) (ht:TnD b va.ownBlock w w'):WlE w' c b n br:=hE.other h (by decide) (by decide) ht
theorem WlE.many {w:World} {c b:Nat} {n:Int} {br:Bool} (h:WlE w c b n br) (m:Int):WlE (w.setCell ⟨c,1,none⟩ (.int .i64 m)) c b m br:=by
 unfold WlE
 rw [heapA_set w h]
 rfl
theorem WlE.brk {w:World} {c b:Nat} {n:Int} {br:Bool} (h:WlE w c b n br) (x:Bool):WlE (w.setCell ⟨c,2,none⟩ (.bool x)) c b n x:=by
 unfold WlE
 rw [heapA_set w h]
 rfl
theorem DkE.setW {w:World} {b B c i:Nat} {D:DkM} {va vt:Value} {C:Array Value} {u:Value} (h:DkE w b B D va vt) (hc:w.heap[c]?=some (.cells C 62 (0,0))):DkE (w.setCell ⟨c,i,none⟩ u) b B D va vt:=
 h.kept (by simp [World.setCell]) (fun k R T hk hT=>Below.heap_setCell _ _ _ _ (blk_ne hk hc (by rcases hT with rfl | rfl <;> decide)))
theorem DkTo.trans {b B:Nat} {w w1 w2:World} {a:Option Nat} {v va vt:Value} {h:List UInt8} {D1 D2:DkM} (ht:TnD b a w w1) (hn:Nw w a va.ownBlock) (hf:Nf w v h vt D1.h) (h2:DkTo b B w1 va.ownBlock vt D1.h D2 w2):DkTo b B w a v h D2 w2:=by
 obtain ⟨va2,vt2,e2,t2,n2,f2⟩:=h2
 exact ⟨va2,vt2,e2,ht.trans hn t2,hn.trans n2 ht.size,hf.trans f2 ht.size⟩
end Go.Proofs.Ytfpgglclpkcdhaa
