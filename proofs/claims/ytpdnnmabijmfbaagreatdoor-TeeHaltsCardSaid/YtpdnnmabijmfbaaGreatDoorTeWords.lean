/-
  A trusted part in memory: its forty-two cells; what stays when only its blocks are turned; a seal that is stored amid a row.
-/
import Derived.Test.YtpdnnmabijmfbaaGreatDoorBs33
import Derived.Test.YtpdnnmabijmfbaaGreatDoorTePure
namespace Go.Proofs.YtpdnnmabijmfbaaGreatDoor
set_option maxRecDepth 20000
open Go.RowKit
theorem there_blk {w:World} {g:Nat} {C:Array Value} {t:TypeId} (h:w.heap[g]?=some (.cells C t (0,0))) {o n:Nat} (hn:o + n≤C.size):w.there g o n:=fun j hj=>by
 refine ⟨?_,free_blk h _⟩
 rw [cell_blk h,Array.getElem?_eq_getElem (by omega)]
 rfl
def setMid (w:World) (g o:Nat) (S:Array Value):World:=w.setCells g o S.toList
theorem setMid_row {w:World} {g:Nat} {t:TypeId} {pre old post:List Value} {S:Array Value} (h:w.heap[g]?=some (.cells (pre ++ (old ++ post)).toArray t (0,0))) (he:old.length=S.size) {o:Nat} (ho:o=pre.length):
  (setMid w g o S).heap[g]?=some (.cells (pre ++ (S.toList ++ post)).toArray t (0,0)):=by
 subst ho
 have:=setCells_row S.toList pre.length w _ h
 rw [putAt_mid S.toList pre old post (by simpa using he)] at this
 exact this
theorem setMid_grown (w:World) (g o:Nat) (S:Array Value):w.grownBy (setMid w g o S) (some g):=grown_setCells g _ _ _
theorem setMid_size (w:World) (g o:Nat) (S:Array Value):(setMid w g o S).heap.size=w.heap.size:=setCells_size g _ _ _
theorem setMid_other (w:World) {g k:Nat} (o:Nat) (S:Array Value) (hk:k≠g):(setMid w g o S).heap[k]?=w.heap[k]?:=by
 by_cases h:k < w.heap.size
 ·exact (setMid_grown w g o S).block k h (fun e=>hk (by injection e))
 ·rw [Array.getElem?_eq_none (by rw [setMid_size];omega),Array.getElem?_eq_none (by omega)]
theorem storeSe_mid {w:World} {g o:Nat} {t:TypeId} {C S:Array Value} (hg:w.heap[g]?=some (.cells C t (0,0))) (hS:S.size=35) (h1:S.all (·.oneCell')=true) (ho:o + 35≤C.size):
  storeSe (.pointer (some ⟨g,o,none⟩)) (.agg S) w=.ok .skip (setMid w g o S):=by
 have:=run_storeAt_mid (P:=Tryz.prog) w g o 40 S (there_blk hg (by rw [hS];exact ho)) (by rw [size_se,hS]) h1
 unfold storeSe execOp
 simp only [Sem.run_bind,Sem.run_pure,Result.andThen_ok,this]
 rfl
theorem tail_set {pre S tl:List Value} {C:Array Value} (hC:C=(pre ++ (S ++ tl)).toArray) {k j:Nat} (hk:k=pre.length + S.length + j) (u:Value):C.setIfInBounds k u=(pre ++ (S ++ tl.set j u)).toArray:=by
 subst hC hk
 rw [List.setIfInBounds_toArray,List.set_append_right _ _ (by omega),List.set_append_right _ _ (by omega),show pre.length + S.length + j - pre.length - S.length=j from by omega]
theorem tail_cell {w:World} {g:Nat} {t:TypeId} {pre S tl:List Value} (h:w.heap[g]?=some (.cells (pre ++ (S ++ tl)).toArray t (0,0))) {k j:Nat} (hk:k=pre.length + S.length + j):w.cell? ⟨g,k,none⟩=tl[j]?:=by
 subst hk
 rw [cell_blk h,List.getElem?_toArray,List.getElem?_append_right (by omega),List.getElem?_append_right (by omega),show pre.length + S.length + j - pre.length - S.length=j from by omega]
theorem head_cell {w:World} {g:Nat} {t:TypeId} {pre S:List Value} (h:w.heap[g]?=some (.cells (pre ++ S).toArray t (0,0))) {k:Nat} (hk:k < pre.length):w.cell? ⟨g,k,none⟩=pre[k]?:=by
 rw [cell_blk h,List.getElem?_toArray,List.getElem?_append_left hk]
theorem mid_range {w:World} {g:Nat} {t:TypeId} {pre S tl:List Value} (h:w.heap[g]?=some (.cells (pre ++ (S ++ tl)).toArray t (0,0))) {o:Nat} (ho:o=pre.length):w.rangeAt g o S:=fun j u hu=>by
 subst ho
 rw [cell_blk h,List.getElem?_toArray,List.getElem?_append_right (by omega),Nat.add_sub_cancel_left,List.getElem?_append_left (List.getElem?_eq_some_iff.1 hu).1]
 exact hu
def teh (i n:Int) (b:Option Addr):List Value:=[.int .i64 i,.int .i64 n,.pointer b]
def tet (d e:Int):List Value:=[.int .u32 d,.int .i32 0,.int .u32 0,.int .i64 e]
def tec (i n:Int) (b:Option Addr) (s:SeM) (d e:Int):Array Value:=(teh i n b ++ (sel s ++ tet d e)).toArray
theorem tec_size {i n:Int} {b:Option Addr} {s:SeM} {d e:Int} (h:s.Ok):(tec i n b s d e).size=42:=by
 unfold tec teh tet
 rw [List.size_toArray,List.length_append,List.length_append,sel_length h]
 rfl
theorem size_te:(Tryz.prog.info? 95).map (·.size)=some 42:=by kernel_rfl
theorem zero_te:(Tryz.prog.info? 95).bind (·.zero)=some (.agg (tec 0 0 none seZ 0 0)):=by kernel_rfl
structure TeeE (w:World) (g b c a:Nat) (t:TeM) (d:Int):Prop where
 p:w.heap[g]?=some (.cells (tec t.i t.n (some ⟨b,0,none⟩) t.s d t.e) 95 (0,0))
 v:Vlt w b c a t.V
 d:t.e=0→d=0
def TeeW (w:World) (g b c a:Nat) (t:TeM):Prop:=∃ d,TeeE w g b c a t d
def NoTee (w:World) (v:Value):Prop:=v=.pointer none∨∃ g,v=.pointer (some ⟨g,0,none⟩)∧w.heap[g]?=some (.cells (tec 0 0 none seZ 0 0) 95 (0,0))
structure Tur (g b a:Nat) (w w':World):Prop where
 os:w'.os=w.os
 tape:w'.tape=w.tape
 output:w'.output=w.output
 size:w.heap.size≤w'.heap.size
 block:∀ k,k < w.heap.size→k≠g→k≠b→k≠a→w'.heap[k]?=w.heap[k]?
theorem Tur.refl (g b a:Nat) (w:World):Tur g b a w w:=⟨rfl,rfl,rfl,Nat.le_refl _,fun _ _ _ _ _=>rfl⟩
theorem Tur.trans {g b a:Nat} {x y z:World} (h:Tur g b a x y) (k:Tur g b a y z):Tur g b a x z:=
 ⟨k.os.trans h.os,k.tape.trans h.tape,k.output.trans h.output,Nat.le_trans h.size k.size,fun i h1 h2 h3 h4=>(k.block i (Nat.lt_of_lt_of_le h1 h.size) h2 h3 h4).trans (h.block i h1 h2 h3 h4)⟩
theorem Tur.of {g b a:Nat} {w w':World} (h:Below w.heap.size w w'):Tur g b a w w':=⟨h.os,h.tape,h.output,h.size,fun k hk _ _ _=>h.block k hk⟩
theorem Tur.ofv {g b a:Nat} {w w':World} (h:Turn b a w w'):Tur g b a w w':=⟨h.os,h.tape,h.output,h.size,fun k hk _ h2 h3=>h.block k hk h2 h3⟩
theorem Tur.ofg {g b a:Nat} {w w':World} (h:w.grownBy w' (some g)):Tur g b a w w':=⟨h.os,h.tape,h.output,h.size,fun k hk h1 _ _=>h.block k hk (fun e=>h1 (by injection e))⟩
theorem Tur.then {g b a:Nat} {w w' w2:World} (h:Tur g b a w w') (k:Below w'.heap.size w' w2):Tur g b a w w2:=h.trans (Tur.of k)
theorem Tur.below {g b a B:Nat} {w0 w w':World} (h:Tur g b a w w') (h0:Below B w0 w) (hg:B≤g) (hb:B≤b) (ha:B≤a) (hB:B≤w.heap.size):Below B w0 w':=
 h0.trans ⟨h.os,h.tape,h.output,h.size,fun k hk=>h.block k (Nat.lt_of_lt_of_le hk hB) (by omega) (by omega) (by omega)⟩
section
variable {w w':World} {g b c a:Nat} {t:TeM} {d:Int}
theorem TeeE.lt (h:TeeE w g b c a t d):g < w.heap.size:=lt_of_block h.p
theorem TeeE.below (h:TeeE w g b c a t d) (hb:Below w.heap.size w w'):TeeE w' g b c a t d:=⟨(hb.block g h.lt).trans h.p,h.v.below hb,h.d⟩
theorem TeeW.below (h:TeeW w g b c a t) (hb:Below w.heap.size w w'):TeeW w' g b c a t:=by
 obtain ⟨d,h⟩:=h
 exact ⟨d,h.below hb⟩
theorem TeeE.cells (h:TeeE w g b c a t d):w.cell? ⟨g,0,none⟩=some (.int .i64 t.i)∧w.cell? ⟨g,1,none⟩=some (.int .i64 t.n)∧w.cell? ⟨g,2,none⟩=some (.pointer (some ⟨b,0,none⟩)):=by
 have:=h.p
 unfold tec at this
 exact ⟨head_cell this (by simp [teh]),head_cell this (by simp [teh]),head_cell this (by simp [teh])⟩
theorem TeeE.tail (h:TeeE w g b c a t d) (hs:t.s.Ok):w.cell? ⟨g,38,none⟩=some (.int .u32 d)∧w.cell? ⟨g,39,none⟩=some (.int .i32 0)∧w.cell? ⟨g,40,none⟩=some (.int .u32 0)∧w.cell? ⟨g,41,none⟩=some (.int .i64 t.e):=by
 have:=h.p
 unfold tec at this
 have hl:=sel_length hs
 exact ⟨tail_cell (j:=0) this (by rw [hl];rfl),tail_cell (j:=1) this (by rw [hl];rfl),tail_cell (j:=2) this (by rw [hl];rfl),tail_cell (j:=3) this (by rw [hl];rfl)⟩
theorem TeeE.free (h:TeeE w g b c a t d) (i:Nat):w.frozen? ⟨g,i,none⟩=false:=free_blk h.p i
theorem TeeE.seal_ (h:TeeE w g b c a t d) (hs:t.s.Ok):loadSe (.pointer (some ⟨g,3,none⟩)) w=.ok (.value (.agg (sec t.s))) w:=by
 have:=h.p
 unfold tec at this
 exact loadSe_mid (mid_range this rfl) hs
theorem TeeE.turned (h:TeeE w g b c a t d) {V':VaM} (hv:Vlt w' b c a V') (ht:Turn b a w w'):TeeE w' g b c a { t with V:=V' } d:=⟨h.v.other h.p (by decide) (by decide) ht,hv,h.d⟩
theorem TeeE.own (h:TeeE w g b c a t d) (hs:w.heap.size≤w'.heap.size) (hk:∀ k,k < w.heap.size→k≠g→w'.heap[k]?=w.heap[k]?):Vlt w' b c a t.V:=
 h.v.kept hs (fun k C T h1 h2=>hk k (lt_of_block h1) (blk_ne h1 h.p (by rcases h2 with rfl | rfl | rfl | rfl <;> decide)))
theorem TeeE.store (h:TeeE w g b c a t d) (ho:t.s.Ok) {s:SeM} (hs:s.Ok):storeSe (.pointer (some ⟨g,3,none⟩)) (.agg (sec s)) w=.ok .skip (setMid w g 3 (sec s))∧TeeE (setMid w g 3 (sec s)) g b c a { t with s:=s } d∧Tur g b a w (setMid w g 3 (sec s)):=by
 refine ⟨storeSe_mid h.p (sec_size hs) (sec_one s) (by rw [tec_size ho];omega),⟨?_,?_,h.d⟩,Tur.ofg (setMid_grown w g 3 _)⟩
 ·have:=h.p
  unfold tec at this
  exact setMid_row this (by rw [sel_length ho,sec_size hs]) rfl
 ·exact h.own (Nat.le_of_eq (setMid_size w g 3 _).symm) (fun k _ hk=>setMid_other w 3 _ hk)
theorem TeeW.other {k:Nat} {C:Array Value} {T:TypeId} (h:TeeW w g b c a t) (hx:w.heap[k]?=some (.cells C T (0,0))) (h1:108≠T) (h2:175≠T) (h3:95≠T) (ht:Tur g b a w w'):w'.heap[k]?=some (.cells C T (0,0)):=by
 obtain ⟨d,h⟩:=h
 obtain ⟨v0,v1,vt,hv⟩:=h.v
 exact (ht.block k (lt_of_block hx) (blk_ne h.p hx h3).symm (blk_ne hv.p hx h1).symm (blk_ne hv.k.q hx h2).symm).trans hx
theorem TeeW.byt (h:TeeW w g b c a t) {v:Value} {l:List UInt8} (hv:Bys w v l) (ht:Tur g b a w w'):Bys w' v l:=
 hv.away ht.size (fun k C hk=>(h.other hk (by decide) (by decide) (by decide) ht).trans hk.symm)
end
theorem results_at2 {fn:Func} {q s:Tmp} (h:fn.results=#[.cell q 54,.tmp s]) (tmps:Array Value) (w:World) (g2:Nat) (t2:TypeId) (ys:Array Value) (v:Value)
  (hq:tmps.getD q undef=.pointer (some ⟨g2,0,none⟩)) (hv:tmps.getD s undef=v) (h2:w.heap[g2]?=some (.cells ys t2 (0,0))) (hy:ys.size=101):
  (results fn tmps).run Tryz.prog w=.ok (.tuple #[.agg ys,v]) w:=by
 have hq':tmps[q]?.getD undef=.pointer (some ⟨g2,0,none⟩):=by simpa using hq
 have hv':tmps[s]?.getD undef=v:=by simpa using hv
 have r2:=run_loadVar_row (P:=Tryz.prog) w g2 t2 54 ys (0,0) _ h2 under_att rfl (by rw [size_att,hy])
 simp [results,h,hq',hv',asAddr,r2]
end Go.Proofs.YtpdnnmabijmfbaaGreatDoor
