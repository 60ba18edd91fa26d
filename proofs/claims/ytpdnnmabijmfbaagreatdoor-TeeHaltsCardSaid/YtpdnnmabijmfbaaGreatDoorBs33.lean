/-
  CkWords CkRefA CkArg: what each of them says stands at its head.
-/
import Derived.Test.YtpdnnmabijmfbaaGreatDoorBs30
import Derived.Test.YtpdnnmabijmfbaaGreatDoorBs29
import Derived.Deep.CutBlock
namespace Go.Proofs.YtpdnnmabijmfbaaGreatDoor
set_option maxRecDepth 20000
open Go.RowKit
def tldV (t:TldM):Value:=.tuple #[.agg (sec t.s),.agg (atc t.a),.int .i64 t.e]
def TlPost (t:TldM) (w:World) (e:Ending) (w':World):Prop:=e=.returned (tldV t)∧Below w.heap.size w w'
theorem results_ck {fn:Func} {p q s:Tmp} (h:fn.results=#[.cell p 40,.cell q 54,.tmp s]) (tmps:Array Value) (w:World) (g1 g2:Nat) (t1 t2:TypeId) (xs ys:Array Value) (v:Value)
  (hp:tmps.getD p undef=.pointer (some ⟨g1,0,none⟩)) (hq:tmps.getD q undef=.pointer (some ⟨g2,0,none⟩)) (hv:tmps.getD s undef=v) (h1:w.heap[g1]?=some (.cells xs t1 (0,0))) (h2:w.heap[g2]?=some (.cells ys t2 (0,0))) (hx:xs.size=35) (hy:ys.size=101):
  (results fn tmps).run Tryz.prog w=.ok (.tuple #[.agg xs,.agg ys,v]) w:=by
 have hp':tmps[p]?.getD undef=.pointer (some ⟨g1,0,none⟩):=by simpa using hp
 have hq':tmps[q]?.getD undef=.pointer (some ⟨g2,0,none⟩):=by simpa using hq
 have hv':tmps[s]?.getD undef=v:=by simpa using hv
 have r1:=run_loadVar_row (P:=Tryz.prog) w g1 t1 40 xs (0,0) _ h1 under_se rfl (by rw [size_se,hx])
 have r2:=run_loadVar_row (P:=Tryz.prog) w g2 t2 54 ys (0,0) _ h2 under_att rfl (by rw [size_att,hy])
 simp [results,h,hp',hq',hv',asAddr,r1,r2]
theorem atc_ha (a:AtM) (ho:a.Ok) (h:List UInt8) (hl:h.length=32):putAt (atc a) 4 (bcells h)=atc { a with ha:=h }:=
 putAt_mid (bcells h) [.int .i64 a.bo,.int .i64 a.ki,.int .i64 a.vi,.int .i64 a.ph] (bcells a.ha) (Value.int .i64 a.pv :: (bcells a.pa ++ bcells a.tg)) (by rw [bcells_length,bcells_length,ho.ha,hl])
theorem atc_pa (a:AtM) (ho:a.Ok) (h:List UInt8) (hl:h.length=32):putAt (atc a) 37 (bcells h)=atc { a with pa:=h }:=by
 have e:=putAt_mid (bcells h) ([.int .i64 a.bo,.int .i64 a.ki,.int .i64 a.vi,.int .i64 a.ph] ++ (bcells a.ha ++ [.int .i64 a.pv])) (bcells a.pa) (bcells a.tg) (by rw [bcells_length,bcells_length,ho.pa,hl])
 have hp:([.int .i64 a.bo,.int .i64 a.ki,.int .i64 a.vi,.int .i64 a.ph] ++ (bcells a.ha ++ [.int .i64 a.pv]):List Value).length=37:=by simp only [List.length_append,bcells_length,ho.ha,List.length_cons,List.length_nil]
 rw [hp] at e
 unfold atc
 rw [atl_pa,atl_pa]
 exact e
theorem sec_pa (s:SeM) (ho:s.Ok) (h:List UInt8) (hl:h.length=32):putAt (sec s) 3 (bcells h)=sec { s with pa:=h }:=by
 have e:=putAt_mid (bcells h) [.int .i64 s.vi,.int .i64 s.ph,.int .i64 s.pv] (bcells s.pa) [] (by rw [bcells_length,bcells_length,hl];exact ho.symm ▸ rfl)
 simp only [List.append_nil] at e
 exact e
theorem sec_vi (s:SeM) (n:Int):(sec s).setIfInBounds 0 (.int .i64 n)=sec { s with vi:=n }:=rfl
theorem sec_ph (s:SeM) (n:Int):(sec s).setIfInBounds 1 (.int .i64 n)=sec { s with ph:=n }:=rfl
theorem sec_pv (s:SeM) (n:Int):(sec s).setIfInBounds 2 (.int .i64 n)=sec { s with pv:=n }:=rfl
theorem atc_ki (a:AtM) (n:Int):(atc a).setIfInBounds 1 (.int .i64 n)=atc { a with ki:=n }:=rfl
theorem atc_vi (a:AtM) (n:Int):(atc a).setIfInBounds 2 (.int .i64 n)=atc { a with vi:=n }:=rfl
theorem atc_ph (a:AtM) (n:Int):(atc a).setIfInBounds 3 (.int .i64 n)=atc { a with ph:=n }:=rfl
noncomputable def buildSe4 (u v x y:Value) (w:World):Result Next:=Sem.run Tryz.prog (execOp (fun z=>match z with
 | .tmp 0=>u
 | .tmp 1=>v
 | .tmp 2=>x
 | _ => y) { dst := none, op := .build 40 #[(0, .tmp 0), (1, .tmp 1), (2, .tmp 2), (3, .tmp 3)], type := 0, pos := "", after := #[], guard := none }) w
theorem exec_build_se4 (r:Operand→Value) (x0 x1 x2 x3:Operand) (dst:Option Tmp) (ty:TypeId) (pos:String) (after:Array Edge) (guard:Option (Nat × Bool)) (w:World):
  Sem.run Tryz.prog (execOp r { dst:=dst,op:=.build 40 #[(0,x0),(1,x1),(2,x2),(3,x3)],type:=ty,pos:=pos,after:=after,guard:=guard }) w=buildSe4 (r x0) (r x1) (r x2) (r x3) w:=by
 unfold buildSe4 execOp
 simp
theorem buildSe4_eq (v p q:Int) (h:List UInt8) (hl:h.length=32) (w:World):buildSe4 (.int .i64 v) (.int .i64 p) (.int .i64 q) (.agg (hcells h)) w=.ok (.value (.agg (sec ⟨v,p,q,h⟩))) w:=by
 have hsz:(hcells h).size=32:=by rw [hcells_size,hl]
 have e0:(hcells h).zipIdx=((bcells h).zipIdx).toArray:=by simp [hcells]
 unfold buildSe4
 go_simp
 exact (fold_putSgO (bcells h) 0 3 _).trans (sec_pa ⟨v,p,q,z32⟩ rfl h hl)
noncomputable def buildAt2 (u v:Value) (w:World):Result Next:=Sem.run Tryz.prog (execOp (fun z=>match z with
 | .tmp 0=>u
 | _ => v) { dst := none, op := .build 54 #[(5, .tmp 0), (6, .tmp 1)], type := 0, pos := "", after := #[], guard := none }) w
theorem exec_build_at2 (r:Operand→Value) (x0 x1:Operand) (dst:Option Tmp) (ty:TypeId) (pos:String) (after:Array Edge) (guard:Option (Nat × Bool)) (w:World):
  Sem.run Tryz.prog (execOp r { dst:=dst,op:=.build 54 #[(5,x0),(6,x1)],type:=ty,pos:=pos,after:=after,guard:=guard }) w=buildAt2 (r x0) (r x1) w:=by
 unfold buildAt2 execOp
 simp
theorem buildAt2_eq (q:Int) (h:List UInt8) (hl:h.length=32) (w:World):buildAt2 (.int .i64 q) (.agg (hcells h)) w=.ok (.value (.agg (atc ⟨0,0,0,0,z32,q,h,z32⟩))) w:=by
 have hsz:(hcells h).size=32:=by rw [hcells_size,hl]
 have e0:(hcells h).zipIdx=((bcells h).zipIdx).toArray:=by simp [hcells]
 unfold buildAt2
 go_simp
 have e:List.foldl (fun (cs:Array Value) (x:Value × Nat)=>cs.setIfInBounds (37 + x.2) x.1) (Tryz.zeroCells54.setIfInBounds 36 (Value.int .i64 q)) (bcells h).zipIdx=atc ⟨0,0,0,0,z32,q,h,z32⟩:=(fold_putSgO (bcells h) 0 37 _).trans (atc_pa ⟨0,0,0,0,z32,q,z32,z32⟩ ⟨rfl,rfl,rfl⟩ h hl)
 rw [e]
noncomputable def buildAt3 (x u v:Value) (w:World):Result Next:=Sem.run Tryz.prog (execOp (fun z=>match z with
 | .tmp 0=>x
 | .tmp 1=>u
 | _ => v) { dst := none, op := .build 54 #[(4, .tmp 0), (5, .tmp 1), (6, .tmp 2)], type := 0, pos := "", after := #[], guard := none }) w
theorem exec_build_at3 (r:Operand→Value) (x0 x1 x2:Operand) (dst:Option Tmp) (ty:TypeId) (pos:String) (after:Array Edge) (guard:Option (Nat × Bool)) (w:World):
  Sem.run Tryz.prog (execOp r { dst:=dst,op:=.build 54 #[(4,x0),(5,x1),(6,x2)],type:=ty,pos:=pos,after:=after,guard:=guard }) w=buildAt3 (r x0) (r x1) (r x2) w:=by
 unfold buildAt3 execOp
 simp
theorem att_four (b k v p q:Int) (g h:List UInt8) (hg:g.length=32) (hl:h.length=32):List.foldl (fun (cs:Array Value) (x:Value × Nat)=>cs.setIfInBounds (37 + x.2) x.1) ((List.foldl (fun (cs:Array Value) (x:Value × Nat)=>cs.setIfInBounds (4 + x.2) x.1) (atc ⟨b,k,v,p,z32,0,z32,z32⟩) (bcells g).zipIdx).setIfInBounds 36 (Value.int .i64 q)) (bcells h).zipIdx=atc ⟨b,k,v,p,g,q,h,z32⟩:=by
 have e1:=(fold_putSgO (bcells g) 0 4 _).trans (atc_ha ⟨b,k,v,p,z32,0,z32,z32⟩ ⟨rfl,rfl,rfl⟩ g hg)
 have e2:=(fold_putSgO (bcells h) 0 37 _).trans (atc_pa ⟨b,k,v,p,g,q,z32,z32⟩ ⟨hg,rfl,rfl⟩ h hl)
 have e3:=atc_pv (a:=⟨b,k,v,p,g,0,z32,z32⟩) ⟨hg,rfl,rfl⟩ q
 rw [e1,e3]
 exact e2
theorem buildAt3_eq (q:Int) (g h:List UInt8) (hg:g.length=32) (hl:h.length=32) (w:World):buildAt3 (.agg (hcells g)) (.int .i64 q) (.agg (hcells h)) w=.ok (.value (.agg (atc ⟨0,0,0,0,g,q,h,z32⟩))) w:=by
 have hsz:(hcells h).size=32:=by rw [hcells_size,hl]
 have e0:(hcells h).zipIdx=((bcells h).zipIdx).toArray:=by simp [hcells]
 have hsy:(hcells g).size=32:=by rw [hcells_size,hg]
 have f0:(hcells g).zipIdx=((bcells g).zipIdx).toArray:=by simp [hcells]
 unfold buildAt3
 go_simp
 have e:List.foldl (fun (cs:Array Value) (x:Value × Nat)=>cs.setIfInBounds (37 + x.2) x.1) ((List.foldl (fun (cs:Array Value) (x:Value × Nat)=>cs.setIfInBounds (4 + x.2) x.1) Tryz.zeroCells54 (bcells g).zipIdx).setIfInBounds 36 (Value.int .i64 q)) (bcells h).zipIdx=atc ⟨0,0,0,0,g,q,h,z32⟩:=att_four 0 0 0 0 q g h hg hl
 rw [e]
 have s1:(List.foldl (fun (cs:Array Value) (x:Value × Nat)=>cs.setIfInBounds (4 + x.2) x.1) Tryz.zeroCells54 (bcells g).zipIdx).size=101:=by
  have e1:List.foldl (fun (cs:Array Value) (x:Value × Nat)=>cs.setIfInBounds (4 + x.2) x.1) Tryz.zeroCells54 (bcells g).zipIdx=atc ⟨0,0,0,0,g,0,z32,z32⟩:=(fold_putSgO (bcells g) 0 4 _).trans (atc_ha ⟨0,0,0,0,z32,0,z32,z32⟩ ⟨rfl,rfl,rfl⟩ g hg)
  rw [e1]
  exact atc_size ⟨hg,rfl,rfl⟩
 rw [if_neg (by rw [s1];omega),if_neg (by rw [s1];omega)]
 rfl
noncomputable def buildAt5 (k v p u x:Value) (w:World):Result Next:=Sem.run Tryz.prog (execOp (fun z=>match z with
 | .tmp 0=>k
 | .tmp 1=>v
 | .tmp 2=>p
 | .tmp 3=>u
 | _ => x) { dst := none, op := .build 54 #[(1, .tmp 0), (2, .tmp 1), (3, .tmp 2), (5, .tmp 3), (6, .tmp 4)], type := 0, pos := "", after := #[], guard := none }) w
theorem exec_build_at5 (r:Operand→Value) (x0 x1 x2 x3 x4:Operand) (dst:Option Tmp) (ty:TypeId) (pos:String) (after:Array Edge) (guard:Option (Nat × Bool)) (w:World):
  Sem.run Tryz.prog (execOp r { dst:=dst,op:=.build 54 #[(1,x0),(2,x1),(3,x2),(5,x3),(6,x4)],type:=ty,pos:=pos,after:=after,guard:=guard }) w=buildAt5 (r x0) (r x1) (r x2) (r x3) (r x4) w:=by
 unfold buildAt5 execOp
 simp
theorem buildAt5_eq (k v p q:Int) (h:List UInt8) (hl:h.length=32) (w:World):buildAt5 (.int .i64 k) (.int .i64 v) (.int .i64 p) (.int .i64 q) (.agg (hcells h)) w=.ok (.value (.agg (atc ⟨0,k,v,p,z32,q,h,z32⟩))) w:=by
 have hsz:(hcells h).size=32:=by rw [hcells_size,hl]
 have e0:(hcells h).zipIdx=((bcells h).zipIdx).toArray:=by simp [hcells]
 unfold buildAt5
 go_simp
 have e:List.foldl (fun (cs:Array Value) (x:Value × Nat)=>cs.setIfInBounds (37 + x.2) x.1) ((((Tryz.zeroCells54.setIfInBounds 1 (Value.int .i64 k)).setIfInBounds 2 (Value.int .i64 v)).setIfInBounds 3 (Value.int .i64 p)).setIfInBounds 36 (Value.int .i64 q)) (bcells h).zipIdx=atc ⟨0,k,v,p,z32,q,h,z32⟩:=(fold_putSgO (bcells h) 0 37 _).trans (atc_pa ⟨0,k,v,p,z32,q,z32,z32⟩ ⟨rfl,rfl,rfl⟩ h hl)
 rw [e]
noncomputable def buildAt6 (k v p g u x:Value) (w:World):Result Next:=Sem.run Tryz.prog (execOp (fun z=>match z with
 | .tmp 0=>k
 | .tmp 1=>v
 | .tmp 2=>p
 | .tmp 3=>g
 | .tmp 4=>u
 | _ => x) { dst := none, op := .build 54 #[(1, .tmp 0), (2, .tmp 1), (3, .tmp 2), (4, .tmp 3), (5, .tmp 4), (6, .tmp 5)], type := 0, pos := "", after := #[], guard := none }) w
theorem exec_build_at6 (r:Operand→Value) (x0 x1 x2 x3 x4 x5:Operand) (dst:Option Tmp) (ty:TypeId) (pos:String) (after:Array Edge) (guard:Option (Nat × Bool)) (w:World):
  Sem.run Tryz.prog (execOp r { dst:=dst,op:=.build 54 #[(1,x0),(2,x1),(3,x2),(4,x3),(5,x4),(6,x5)],type:=ty,pos:=pos,after:=after,guard:=guard }) w=buildAt6 (r x0) (r x1) (r x2) (r x3) (r x4) (r x5) w:=by
 unfold buildAt6 execOp
 simp
theorem buildAt6_eq (k v p q:Int) (g h:List UInt8) (hg:g.length=32) (hl:h.length=32) (w:World):buildAt6 (.int .i64 k) (.int .i64 v) (.int .i64 p) (.agg (hcells g)) (.int .i64 q) (.agg (hcells h)) w=.ok (.value (.agg (atc ⟨0,k,v,p,g,q,h,z32⟩))) w:=by
 have hsz:(hcells h).size=32:=by rw [hcells_size,hl]
 have e0:(hcells h).zipIdx=((bcells h).zipIdx).toArray:=by simp [hcells]
 have hsy:(hcells g).size=32:=by rw [hcells_size,hg]
 have f0:(hcells g).zipIdx=((bcells g).zipIdx).toArray:=by simp [hcells]
 unfold buildAt6
 go_simp
 have e:List.foldl (fun (cs:Array Value) (x:Value × Nat)=>cs.setIfInBounds (37 + x.2) x.1) ((List.foldl (fun (cs:Array Value) (x:Value × Nat)=>cs.setIfInBounds (4 + x.2) x.1) (((Tryz.zeroCells54.setIfInBounds 1 (Value.int .i64 k)).setIfInBounds 2 (Value.int .i64 v)).setIfInBounds 3 (Value.int .i64 p)) (bcells g).zipIdx).setIfInBounds 36 (Value.int .i64 q)) (bcells h).zipIdx=atc ⟨0,k,v,p,g,q,h,z32⟩:=att_four 0 k v p q g h hg hl
 rw [e]
 have s1:(List.foldl (fun (cs:Array Value) (x:Value × Nat)=>cs.setIfInBounds (4 + x.2) x.1) (((Tryz.zeroCells54.setIfInBounds 1 (Value.int .i64 k)).setIfInBounds 2 (Value.int .i64 v)).setIfInBounds 3 (Value.int .i64 p)) (bcells g).zipIdx).size=101:=by
  have e1:List.foldl (fun (cs:Array Value) (x:Value × Nat)=>cs.setIfInBounds (4 + x.2) x.1) (((Tryz.zeroCells54.setIfInBounds 1 (Value.int .i64 k)).setIfInBounds 2 (Value.int .i64 v)).setIfInBounds 3 (Value.int .i64 p)) (bcells g).zipIdx=atc ⟨0,k,v,p,g,0,z32,z32⟩:=(fold_putSgO (bcells g) 0 4 _).trans (atc_ha ⟨0,k,v,p,z32,0,z32,z32⟩ ⟨rfl,rfl,rfl⟩ g hg)
  rw [e1]
  exact atc_size ⟨hg,rfl,rfl⟩
 rw [if_neg (by rw [s1];omega),if_neg (by rw [s1];omega)]
 rfl
theorem rows_two (w:World) (a b:Obj):((w.alloc a).alloc b).heap[w.heap.size]?=some a∧((w.alloc a).alloc b).heap[w.heap.size + 1]?=some b:=by
 have e:(w.alloc a).heap.size=w.heap.size + 1:=by simp
 have h:=heap_alloc_new (w.alloc a) b
 rw [e] at h
 exact ⟨(Below.heap_alloc _ _ _ (by rw [e];omega)).trans (heap_alloc_new w a),h⟩
theorem rows_three (w:World) (a b c:Obj):(((w.alloc a).alloc b).alloc c).heap[w.heap.size]?=some a∧(((w.alloc a).alloc b).alloc c).heap[w.heap.size + 1]?=some b∧(((w.alloc a).alloc b).alloc c).heap[w.heap.size + 2]?=some c:=by
 have e:((w.alloc a).alloc b).heap.size=w.heap.size + 2:=by simp
 have h:=heap_alloc_new ((w.alloc a).alloc b) c
 rw [e] at h
 obtain ⟨h1,h2⟩:=rows_two w a b
 exact ⟨(Below.heap_alloc _ _ _ (by rw [e];omega)).trans h1,(Below.heap_alloc _ _ _ (by rw [e];omega)).trans h2,h⟩
theorem rows_four (w:World) (a b c d:Obj):((((w.alloc a).alloc b).alloc c).alloc d).heap[w.heap.size]?=some a∧((((w.alloc a).alloc b).alloc c).alloc d).heap[w.heap.size + 1]?=some b∧((((w.alloc a).alloc b).alloc c).alloc d).heap[w.heap.size + 2]?=some c∧((((w.alloc a).alloc b).alloc c).alloc d).heap[w.heap.size + 3]?=some d:=by
 have e:(((w.alloc a).alloc b).alloc c).heap.size=w.heap.size + 3:=by simp
 have h:=heap_alloc_new (((w.alloc a).alloc b).alloc c) d
 rw [e] at h
 obtain ⟨h1,h2,h3⟩:=rows_three w a b c
 exact ⟨(Below.heap_alloc _ _ _ (by rw [e];omega)).trans h1,(Below.heap_alloc _ _ _ (by rw [e];omega)).trans h2,(Below.heap_alloc _ _ _ (by rw [e];omega)).trans h3,h⟩
theorem rows_five (w:World) (a b c d f:Obj):(((((w.alloc a).alloc b).alloc c).alloc d).alloc f).heap[w.heap.size]?=some a∧(((((w.alloc a).alloc b).alloc c).alloc d).alloc f).heap[w.heap.size + 1]?=some b∧(((((w.alloc a).alloc b).alloc c).alloc d).alloc f).heap[w.heap.size + 2]?=some c∧(((((w.alloc a).alloc b).alloc c).alloc d).alloc f).heap[w.heap.size + 3]?=some d∧(((((w.alloc a).alloc b).alloc c).alloc d).alloc f).heap[w.heap.size + 4]?=some f:=by
 have e:((((w.alloc a).alloc b).alloc c).alloc d).heap.size=w.heap.size + 4:=by simp
 have h:=heap_alloc_new ((((w.alloc a).alloc b).alloc c).alloc d) f
 rw [e] at h
 obtain ⟨h1,h2,h3,h4⟩:=rows_four w a b c d
 exact ⟨(Below.heap_alloc _ _ _ (by rw [e];omega)).trans h1,(Below.heap_alloc _ _ _ (by rw [e];omega)).trans h2,(Below.heap_alloc _ _ _ (by rw [e];omega)).trans h3,(Below.heap_alloc _ _ _ (by rw [e];omega)).trans h4,h⟩
theorem tyb_ne {w:World} {b a:Nat} {C D:Array Value} {T U:TypeId} (h:w.heap[b]?=some (.cells C T (0,0))) (k:w.heap[a]?=some (.cells D U (0,0))) (hT:T≠U):b≠a:=by
 rintro rfl
 have:=h.symm.trans k
 injection this with e
 injection e with _ e _
 exact hT e
theorem heap_setIn (w:World) {g:Nat} {C:Array Value} {T:TypeId} (h:w.heap[g]?=some (.cells C T (0,0))) (i:Nat) (u:Value):(w.setCell ⟨g,i,none⟩ u).heap[g]?=some (.cells (C.setIfInBounds i u) T (0,0)):=by
 simp [World.setCell,Array.getElem?_modify,h]
structure Tws (b a:Nat) (w w':World):Prop where
 os:w'.os=w.os
 tape:w'.tape=w.tape
 output:w'.output=w.output
 size:w.heap.size≤w'.heap.size
 block:∀ k,k < w.heap.size→k≠b→k≠a→w'.heap[k]?=w.heap[k]?
theorem Tws.refl (b a:Nat) (w:World):Tws b a w w:=⟨rfl,rfl,rfl,Nat.le_refl _,fun _ _ _ _=>rfl⟩
theorem Tws.trans {b a:Nat} {x y z:World} (h:Tws b a x y) (k:Tws b a y z):Tws b a x z:=
 ⟨k.os.trans h.os,k.tape.trans h.tape,k.output.trans h.output,Nat.le_trans h.size k.size,fun i h1 h2 h3=>(k.block i (Nat.lt_of_lt_of_le h1 h.size) h2 h3).trans (h.block i h1 h2 h3)⟩
theorem Tws.of {b a:Nat} {w w':World} (h:Below w.heap.size w w'):Tws b a w w':=⟨h.os,h.tape,h.output,h.size,fun k hk _ _=>h.block k hk⟩
theorem Tws.then {b a:Nat} {w w' w2:World} (h:Tws b a w w') (k:Below w'.heap.size w' w2):Tws b a w w2:=h.trans (Tws.of k)
structure ResSt (w W:World) (p q:Nat) (Z Y:Array Value):Prop where
 s:W.heap[p]?=some (.cells Z 40 (0,0))
 a:W.heap[q]?=some (.cells Y 54 (0,0))
 hp:w.heap.size≤p
 hq:w.heap.size≤q
 bel:Below w.heap.size w W
 zs:Z.size=35
 za:Y.size=101
theorem ResSt.below {w W W':World} {p q:Nat} {Z Y:Array Value} (h:ResSt w W p q Z Y) (hb:Below W.heap.size W W'):ResSt w W' p q Z Y:=⟨(hb.block _ (lt_of_block h.s)).trans h.s,(hb.block _ (lt_of_block h.a)).trans h.a,h.hp,h.hq,h.bel.trans (hb.mono h.bel.size),h.zs,h.za⟩
theorem ResSt.cell {w W:World} {p q:Nat} {Z Y:Array Value} (h:ResSt w W p q Z Y) {g:Nat} (h1:p≠g) (h2:q≠g) (h3:w.heap.size≤g) (i:Nat) (u:Value):ResSt w (W.setCell ⟨g,i,none⟩ u) p q Z Y:=
 ⟨(Below.heap_setCell _ _ _ _ h1).trans h.s,(Below.heap_setCell _ _ _ _ h2).trans h.a,h.hp,h.hq,h.bel.setCell h3 _,h.zs,h.za⟩
theorem Tws.setS {w W:World} {p q:Nat} (h:Tws p q w W) (C:Array Value):Tws p q w (setSe W p C):=by
 have hb:=setSe_below (C:=C) (Below.refl 0 W) (Nat.zero_le p)
 exact ⟨hb.os.trans h.os,hb.tape.trans h.tape,hb.output.trans h.output,Nat.le_trans h.size hb.size,fun k h1 h2 h3=>(setSe_other W _ h2).trans (h.block k h1 h2 h3)⟩
theorem Tws.setY {w W:World} {p q:Nat} (h:Tws p q w W) (C:Array Value):Tws p q w (setAtt W q C):=by
 have hb:=setAtt_below (C:=C) (Below.refl 0 W) (Nat.zero_le q)
 exact ⟨hb.os.trans h.os,hb.tape.trans h.tape,hb.output.trans h.output,Nat.le_trans h.size hb.size,fun k h1 h2 h3=>(setAtt_other W _ h3).trans (h.block k h1 h2 h3)⟩
structure ResEnd (w W:World) (p q:Nat) (S A:Array Value):Prop where
 st:storeSe (.pointer (some ⟨p,0,none⟩)) (.agg S) W=.ok .skip (setSe W p S)
 sa:storeAtt (.pointer (some ⟨q,0,none⟩)) (.agg A) (setSe W p S)=.ok .skip (setAtt (setSe W p S) q A)
 rs:(setAtt (setSe W p S) q A).heap[p]?=some (.cells S 40 (0,0))
 ra:(setAtt (setSe W p S) q A).heap[q]?=some (.cells A 54 (0,0))
 bel:Below w.heap.size w (setAtt (setSe W p S) q A)
 zs:S.size=35
 za:A.size=101
theorem ResSt.fin {w W:World} {p q:Nat} {Z Y:Array Value} (h:ResSt w W p q Z Y) {t:TldM} (ho:t.Ok):ResEnd w W p q (sec t.s) (atc t.a):=by
 have hne:p≠q:=tyb_ne h.s h.a (by decide)
 have ha2:(setSe W p (sec t.s)).heap[q]?=some (.cells Y 54 (0,0)):=(setSe_other W _ hne.symm).trans h.a
 refine ⟨storeSe_eq h.s h.zs (sec_size ho.s) (sec_one _),storeAtt_eq ha2 h.za (atc_size ho.a) (atc_one _),?_,setAtt_same ha2,setAtt_below (setSe_below h.bel h.hp) h.hq,sec_size ho.s,atc_size ho.a⟩
 exact (setAtt_other _ _ hne).trans (setSe_same h.s)
end Go.Proofs.YtpdnnmabijmfbaaGreatDoor
namespace Go.Proofs.YtpdnnmabijmfbaaGreatDoor
set_option maxRecDepth 20000
open Go.RowKit
attribute [local go_sem ↓] exec_load_se exec_alloc_se exec_store_se exec_build_se exec_load_att exec_alloc_att exec_store_att exec_build_att exec_load_hash exec_build_se4 exec_build_at2 exec_build_at3 exec_build_at5 exec_build_at6 exec_load_bk exec_load_ax exec_load_ct
set_option maxHeartbeats 3200000 in
theorem refOld15_any (s:SeM) (v p:Int) (w:World):
  Calls Tryz.prog 120 #[.agg (sec s),.int .i64 v,.int .i64 p] w fun e w'=>e=.returned (.bool (oldS s v p))∧Below w.heap.size w w':=by
 have hb0:Below w.heap.size w (w.alloc (.cells (sec s) 40)):=(Below.refl _ _).alloc (Nat.le_refl _) _
 have hA:=BoxSe.new w s
 obtain ⟨C,HC⟩:∃ C:Array Value,Hid (sec s=C):=⟨_,hid rfl⟩
 obtain ⟨q,HQ⟩:∃ q:Bool,Hid (oldS s v p=q):=⟨_,hid rfl⟩
 rw [HC.out] at hb0 hA ⊢
 rw [HQ.out]
 go_enter Tryz.func120,Tryz.ntmps120
 go_upto_region 1 with (fail)
 generalize (w.alloc (.cells C 40))=w0 at *
 obtain ⟨k0,k1,k2⟩:=hA.cells
 have HM:Hid (q=(decide (v < s.vi) || (decide (s.vi=v) && decide (p≤s.ph)))):=hid (by rw [← HQ.out];rfl)
 clear hA HC HQ k2
 obtain ⟨vi,ph,pv,pa⟩:=s
 simp only at k0 k1 HM
 go_wp2_with fail
 all_goals
  go_ret
  refine ⟨?_,hb0⟩
  refine congrArg (fun b=>Ending.returned (Value.bool b)) ?_
  rw [HM.out]
 all_goals grind
set_option maxHeartbeats 6400000 in
theorem refNew15_any (s:SeM) (hs:s.Ok) (v:Int) (w:World):Calls Tryz.prog 73 #[.agg (sec s),.int .i64 v] w (TlPost (newQ s v) w):=by
 have HSO:=hid hs
 have HSZ0:=hid (sec_size hs)
 have HSC:Hid (∀ (W:World) (g:Nat),W.heap[g]?=some (.cells (sec s) 40 (0,0))→(W.cell? ⟨g,0,none⟩=some (.int .i64 s.vi)∧W.cell? ⟨g,1,none⟩=some (.int .i64 s.ph)∧W.cell? ⟨g,2,none⟩=some (.int .i64 s.pv))∧loadH (.pointer (some ⟨g,3,none⟩)) W=.ok (.value (.agg (hcells s.pa))) W):=hid (fun W g h=>⟨BoxSe.cells (a:=s) h,loadH_mid (BoxSe.hash (a:=s) h) hs⟩)
 have HMY:Hid (∀ W,Calls Tryz.prog 54 #[.agg (sec s)] W fun e w'=>e=.returned (.bool (mayS s))∧Below W.heap.size W w'):=hid (fun W=>refMay13_any s W hs)
 have HOL:Hid (∀ W,Calls Tryz.prog 120 #[.agg (sec s),.int .i64 v,.int .i64 1] W fun e w'=>e=.returned (.bool (oldS s v 1))∧Below W.heap.size W w'):=hid (fun W=>refOld15_any s v 1 W)
 have HB4:=hid (buildSe4_eq v 1 s.pv s.pa hs)
 have HB5:=hid (buildAt5_eq 1 v 1 s.pv s.pa hs)
 have ht0:TldM.Ok ⟨⟨v,1,s.pv,s.pa⟩,⟨0,1,v,1,z32,s.pv,s.pa,z32⟩,0⟩:=⟨hs,⟨rfl,hs,rfl⟩⟩
 have HTK:=hid ht0
 clear ht0
 obtain ⟨S,HS⟩:∃ q:Array Value,Hid (sec s=q):=⟨_,hid rfl⟩
 obtain ⟨N,HN⟩:∃ q:Array Value,Hid (sec ⟨v,1,s.pv,s.pa⟩=q):=⟨_,hid rfl⟩
 obtain ⟨A0,HA0⟩:∃ q:Array Value,Hid (atc ⟨0,1,v,1,z32,s.pv,s.pa,z32⟩=q):=⟨_,hid rfl⟩
 obtain ⟨P,HP⟩:∃ q:Array Value,Hid (hcells s.pa=q):=⟨_,hid rfl⟩
 rw [HS.out] at HSZ0 HSC HMY HOL
 rw [HN.out] at HB4
 rw [HA0.out] at HB5
 rw [HP.out] at HSC HB4 HB5
 rw [HS.out]
 clear hs
 obtain ⟨ZS,HZS⟩:∃ q:Array Value,Hid (sec seZ=q):=⟨_,hid rfl⟩
 obtain ⟨ZA,HZA⟩:∃ q:Array Value,Hid (atc atZ=q):=⟨_,hid rfl⟩
 have HZZ:Hid (ZS.size=35∧ZA.size=101):=hid (by rw [← HZS.out,← HZA.out];exact ⟨sec_size seZ_ok,atc_size atZ_ok⟩)
 have HBS:Hid (∀ W,buildSe W=.ok (.value (.agg ZS)) W):=hid (fun W=>by rw [← HZS.out];exact buildSe_eq W)
 have HBA:Hid (∀ W,buildAtt W=.ok (.value (.agg ZA)) W):=hid (fun W=>by rw [← HZA.out];exact buildAtt_eq W)
 have HLS:Hid (∀ W,allocSe W=.ok (.value (.pointer (some ⟨W.heap.size,0,none⟩))) (W.alloc (.cells ZS 40))):=hid (fun W=>by rw [← HZS.out];exact allocSe_eq W)
 have HLA:Hid (∀ W,allocAtt W=.ok (.value (.pointer (some ⟨W.heap.size,0,none⟩))) (W.alloc (.cells ZA 54))):=hid (fun W=>by rw [← HZA.out];exact allocAtt_eq W)
 have hal1:allocSe (w.alloc (.cells S 40))=.ok (.value (.pointer (some ⟨w.heap.size + 1,0,none⟩))) ((w.alloc (.cells S 40)).alloc (.cells ZS 40)):=by
  have:=HLS.out (w.alloc (.cells S 40))
  rwa [show ((w.alloc (.cells S 40))).heap.size=w.heap.size + 1 from by simp] at this
 have hal2:allocAtt ((w.alloc (.cells S 40)).alloc (.cells ZS 40))=.ok (.value (.pointer (some ⟨w.heap.size + 2,0,none⟩))) (((w.alloc (.cells S 40)).alloc (.cells ZS 40)).alloc (.cells ZA 54)):=by
  have:=HLA.out ((w.alloc (.cells S 40)).alloc (.cells ZS 40))
  rwa [show (((w.alloc (.cells S 40)).alloc (.cells ZS 40))).heap.size=w.heap.size + 2 from by simp] at this
 obtain ⟨hr0,hr1,hr2⟩:=rows_three w (.cells S 40) (.cells ZS 40) (.cells ZA 54)
 have HBZ:Hid (Below w.heap.size w (((w.alloc (.cells S 40)).alloc (.cells ZS 40)).alloc (.cells ZA 54))):=hid ((((Below.refl w.heap.size w).alloc (Nat.le_refl _) _).alloc (by simp;try omega) _).alloc (by simp;try omega) _)
 have HR:Hid (ResSt w (((w.alloc (.cells S 40)).alloc (.cells ZS 40)).alloc (.cells ZA 54)) (w.heap.size + 1) (w.heap.size + 2) ZS ZA):=hid ⟨hr1,hr2,by omega,by omega,HBZ.out,HZZ.out.1,HZZ.out.2⟩
 have HR0:=hid (show (((w.alloc (.cells S 40)).alloc (.cells ZS 40)).alloc (.cells ZA 54)).heap[w.heap.size]?=some (.cells S 40 (0,0)) from hr0)
 clear hr0 hr1 hr2
 go_enter Tryz.func73,Tryz.ntmps73
 go_upto_region 1 with (fail)
 clear hal1 hal2
 generalize (((w.alloc (.cells S 40)).alloc (.cells ZS 40)).alloc (.cells ZA 54))=wz at *
 have l0:=loadSe_row HR0.out HSZ0.out
 obtain ⟨m,HM⟩:∃ q:Bool,Hid (mayS s=q):=⟨_,hid rfl⟩
 rw [HM.out] at HMY
 go_wp2_with fail
 refine (HMY.out wz).mono ?_
 rintro e w1 ⟨rfl,hb1⟩
 have HR1:=hid (HR.out.below hb1)
 have HB1:=hid ((hb1.block _ (lt_of_block HR0.out)).trans HR0.out)
 clear l0 hb1
 cases m with
 | true=>
  by_cases p1:v < 1
  ·have HQ:Hid (newQ s v=noQ 1):=hid (by unfold newQ;rw [if_neg (fun h=>by omega)])
   obtain ⟨hst,hsa,hrs,hra,hbe,hzs,hza⟩:=(HR1.out).fin (t:=noQ 1) (noQ_ok 1)
   have hbs:=HBS.out
   have hba:=HBA.out
   rw [show TldM.s (noQ 1)=seZ from rfl,HZS.out] at hst hsa hrs hra hbe hzs
   rw [show TldM.a (noQ 1)=atZ from rfl,HZA.out] at hsa hrs hra hbe hza
   have HRS:=hid hrs
   have HRA:=hid hra
   have HBE:=hid hbe
   clear hrs hra hbe hzs hza
   go_wp2_with fail
   try simp only [Exit.inBlock,Exit.then]
   refine bodyPost_ret (results_ck rfl _ _ _ _ _ _ _ _ _ rfl rfl rfl HRS.out HRA.out HZZ.out.1 HZZ.out.2) rfl ⟨?_,HBE.out⟩
   rw [HQ.out,← HZS.out,← HZA.out]
   rfl
  by_cases p2:1099511627776 < v
  ·have HQ:Hid (newQ s v=noQ 1):=hid (by unfold newQ;rw [if_neg (fun h=>by omega)])
   obtain ⟨hst,hsa,hrs,hra,hbe,hzs,hza⟩:=(HR1.out).fin (t:=noQ 1) (noQ_ok 1)
   have hbs:=HBS.out
   have hba:=HBA.out
   rw [show TldM.s (noQ 1)=seZ from rfl,HZS.out] at hst hsa hrs hra hbe hzs
   rw [show TldM.a (noQ 1)=atZ from rfl,HZA.out] at hsa hrs hra hbe hza
   have HRS:=hid hrs
   have HRA:=hid hra
   have HBE:=hid hbe
   clear hrs hra hbe hzs hza
   go_wp2_with fail
   try simp only [Exit.inBlock,Exit.then]
   refine bodyPost_ret (results_ck rfl _ _ _ _ _ _ _ _ _ rfl rfl rfl HRS.out HRA.out HZZ.out.1 HZZ.out.2) rfl ⟨?_,HBE.out⟩
   rw [HQ.out,← HZS.out,← HZA.out]
   rfl
  have HQ0:Hid (newQ s v=stepQ s ⟨v,1,s.pv,s.pa⟩ ⟨0,0,0,0,z32,s.pv,s.pa,z32⟩):=hid (by unfold newQ;rw [if_pos ⟨HM.out,by omega,by omega⟩])
  have l1:=loadSe_row HB1.out HSZ0.out
  go_upto_region 3 with (fail)
  clear p1 p2
  obtain ⟨o,HO⟩:∃ q:Bool,Hid (oldS s v 1=q):=⟨_,hid rfl⟩
  rw [HO.out] at HOL
  go_wp2_with fail
  refine (HOL.out w1).mono ?_
  rintro e w2 ⟨rfl,hb2⟩
  have HR2:=hid (HR1.out.below hb2)
  have HB2:=hid ((hb2.block _ (lt_of_block HB1.out)).trans HB1.out)
  clear l1 hb2
  cases o with
  | true=>
   have HQ:Hid (newQ s v=noQ 11):=hid (by rw [HQ0.out];exact stepQ_old HO.out)
   obtain ⟨hst,hsa,hrs,hra,hbe,hzs,hza⟩:=(HR2.out).fin (t:=noQ 11) (noQ_ok 11)
   have hbs:=HBS.out
   have hba:=HBA.out
   rw [show TldM.s (noQ 11)=seZ from rfl,HZS.out] at hst hsa hrs hra hbe hzs
   rw [show TldM.a (noQ 11)=atZ from rfl,HZA.out] at hsa hrs hra hbe hza
   have HRS:=hid hrs
   have HRA:=hid hra
   have HBE:=hid hbe
   clear hrs hra hbe hzs hza
   go_wp2_with fail
   try simp only [Exit.inBlock,Exit.then]
   refine bodyPost_ret (results_ck rfl _ _ _ _ _ _ _ _ _ rfl rfl rfl HRS.out HRA.out HZZ.out.1 HZZ.out.2) rfl ⟨?_,HBE.out⟩
   rw [HQ.out,← HZS.out,← HZA.out]
   rfl
  | false=>
   have HQ:Hid (newQ s v=⟨⟨v,1,s.pv,s.pa⟩,⟨0,1,v,1,z32,s.pv,s.pa,z32⟩,0⟩):=hid (by rw [HQ0.out];exact stepQ_go HO.out)
   go_upto_region 5 with (fail)
   have HRD:=hid (HR2.out.below ((Below.refl w2.heap.size w2).drew))
   obtain ⟨hst,hsa,hrs,hra,hbe,hzs,hza⟩:=HRD.out.fin (t:=⟨⟨v,1,s.pv,s.pa⟩,⟨0,1,v,1,z32,s.pv,s.pa,z32⟩,0⟩) HTK.out
   simp only at hst hsa hrs hra hbe hzs hza
   rw [HN.out] at hst hsa hrs hra hbe hzs
   rw [HA0.out] at hsa hrs hra hbe hza
   have HRS:=hid hrs
   have HRA:=hid hra
   have HBE:=hid hbe
   have HSZ:=hid (And.intro hzs hza)
   clear hrs hra hbe hzs hza
   have hb4:=HB4.out
   have hb5:=HB5.out
   have HKP:Hid (∀ W,Tws (w.heap.size + 1) (w.heap.size + 2) w2.drew W→W.cell? ⟨w.heap.size,2,none⟩=some (.int .i64 s.pv)∧loadH (.pointer (some ⟨w.heap.size,3,none⟩)) W=.ok (.value (.agg P)) W):=hid (fun W t=>by
    have h:=HSC.out W _ ((t.block _ (lt_of_block HB2.out) (by omega) (by omega)).trans HB2.out)
    exact ⟨h.1.2.2,h.2⟩)
   refine wp_region_held_drew (S:=fun W=>Tws (w.heap.size + 1) (w.heap.size + 2) w2.drew W) (by kernel_rfl) (Tws.refl _ _ _) (fun hHeld=>?_)
   refine' tkq 0 rfl ?_;try simp only [lay]
   refine' tkq 1 rfl ?_;try simp only [lay]
   refine' tk (i:=2) (v:=_) rfl ?_ ?_
   rotate_left
   ·(intro W hW;(try dsimp only at hW);obtain ⟨hW1,hW2⟩:=HKP.out W hW;go_simp;first | done | with_reducible rfl)
   try simp only [lay]
   refine' tkq 3 rfl ?_;try simp only [lay]
   refine' tk (i:=4) (v:=_) rfl ?_ ?_
   rotate_left
   ·(intro W hW;(try dsimp only at hW);obtain ⟨hW1,hW2⟩:=HKP.out W hW;go_simp;first | done | with_reducible rfl)
   try simp only [lay]
   refine' tkq 5 rfl ?_;try simp only [lay]
   refine' tkq 6 rfl ?_;try simp only [lay]
   refine' tkq 7 rfl ?_;try simp only [lay]
   refine' tk (i:=8) (v:=_) rfl ?_ ?_
   rotate_left
   ·(intro W hW;(try dsimp only at hW);obtain ⟨hW1,hW2⟩:=HKP.out W hW;go_simp;first | done | with_reducible rfl)
   try simp only [lay]
   refine' tkq 9 rfl ?_;try simp only [lay]
   refine' tk (i:=10) (v:=_) rfl ?_ ?_
   rotate_left
   ·(intro W hW;(try dsimp only at hW);obtain ⟨hW1,hW2⟩:=HKP.out W hW;go_simp;first | done | with_reducible rfl)
   try simp only [lay]
   refine' tkq 11 rfl ?_;try simp only [lay]
   refine call_on (i:=12) rfl (by kernel_rfl) (by rfl) (fun K hK=>?_)
   go_simp
   refine hK.out _ _ ((Tws.refl _ _ _).setS N) (fun hHeld=>?_)
   clear hK K
   try simp only [lay]
   refine call_on (i:=13) rfl (by kernel_rfl) (by rfl) (fun K hK=>?_)
   go_simp
   refine hK.out _ _ (((Tws.refl _ _ _).setS N).setY A0) (fun hHeld=>?_)
   clear hK K
   try simp only [lay]
   refine' tkq 14 rfl ?_;try simp only [lay]
   refine wpAnyH_done (by kernel_rfl) ?_ _
   clear hHeld hst hsa
   go_wp2_with fail
   try simp only [Exit.inBlock,Exit.then]
   refine bodyPost_ret (results_ck rfl _ _ _ _ _ _ _ _ _ rfl rfl rfl HRS.out HRA.out HSZ.out.1 HSZ.out.2) rfl ⟨?_,HBE.out⟩
   rw [HQ.out,← HN.out,← HA0.out]
   rfl
 | false=>
  have HQ:Hid (newQ s v=noQ 1):=hid (by unfold newQ;rw [if_neg (fun h=>by rw [HM.out] at h;cases h.1)])
  obtain ⟨hst,hsa,hrs,hra,hbe,hzs,hza⟩:=(HR1.out).fin (t:=noQ 1) (noQ_ok 1)
  have hbs:=HBS.out
  have hba:=HBA.out
  rw [show TldM.s (noQ 1)=seZ from rfl,HZS.out] at hst hsa hrs hra hbe hzs
  rw [show TldM.a (noQ 1)=atZ from rfl,HZA.out] at hsa hrs hra hbe hza
  have HRS:=hid hrs
  have HRA:=hid hra
  have HBE:=hid hbe
  clear hrs hra hbe hzs hza
  go_wp2_with fail
  try simp only [Exit.inBlock,Exit.then]
  refine bodyPost_ret (results_ck rfl _ _ _ _ _ _ _ _ _ rfl rfl rfl HRS.out HRA.out HZZ.out.1 HZZ.out.2) rfl ⟨?_,HBE.out⟩
  rw [HQ.out,← HZS.out,← HZA.out]
  rfl
end Go.Proofs.YtpdnnmabijmfbaaGreatDoor
namespace Go.Proofs.YtpdnnmabijmfbaaGreatDoor
set_option maxRecDepth 20000
open Go.ChangeShapes Go.WideShapes Go.ChangeAt Go.RowKit Go.Deep
attribute [local go_sem ↓] exec_load_bk exec_load_ax exec_load_ct
structure StM where
 act:Int
 vi:Int
 b:BkM
 bA:Option Addr
 bc:Nat
 a:AcM
 aA:Option Addr
 ac:Nat
 c:CtM
 cA:Option Addr
 cc:Nat
def StM.sb (x:StM):Value:=.slice x.bA x.b.txs.length x.bc
def StM.sa (x:StM):Value:=.slice x.aA x.a.fr.length x.ac
def StM.sc (x:StM):Value:=.slice x.cA x.c.sg.length x.cc
def stl (x:StM):List Value:=[.int .i64 x.act,.int .i64 x.vi] ++ (bkl x.b x.sb ++ (axl x.a x.sa ++ ctl x.c x.sc))
def stc (x:StM):Array Value:=(stl x).toArray
def stZ:StM:=⟨0,0,bkZ,none,0,acZ,none,0,ctZ,none,0⟩
structure StOk (w:World) (x:StM):Prop where
 bp:x.b.par.length=32
 bt:Txs w x.sb x.b.txs
 bs:sizedK x.b
 ao:x.a.Ok
 ae:Els icl 1 w x.sa x.a.fr
 co:x.c.Ok
 ce:Els scl 33 w x.sc x.c.sg
theorem StOk.below {w w':World} {x:StM} (h:StOk w x) (hb:Below w.heap.size w w'):StOk w' x:=⟨h.bp,h.bt.below hb,h.bs,h.ao,h.ae.below hb,h.co,h.ce.below hb⟩
theorem stZ_ok (w:World):StOk w stZ:=⟨rfl,Txs.nil w,fun t h=>by simp [stZ,bkZ] at h,acZ_ok,Els.nil w,ctZ_ok,Els.nil w⟩
theorem StOk.bk {w:World} {x:StM} (h:StOk w x):BkV w (.agg (bkc x.b x.sb)) x.b:=⟨_,rfl,h.bp,h.bt⟩
theorem stl_length {w:World} {x:StM} (h:StOk w x):(stl x).length=208:=by
 unfold stl
 simp only [List.length_append,bkl_len _ h.bp,axl_length _ h.ao,ctl_len _ h.co.att,List.length_cons,List.length_nil]
theorem stc_size {w:World} {x:StM} (h:StOk w x):(stc x).size=208:=by
 unfold stc
 rw [List.size_toArray,stl_length h]
theorem stl_one (x:StM):∀ u ∈ stl x,u.oneCell'=true:=by
 intro u hu
 unfold stl bkl ctl axl StM.sb StM.sa StM.sc at hu
 simp only [List.mem_append,List.mem_cons,List.not_mem_nil,or_false] at hu
 rcases hu with (rfl | rfl) | (hu | rfl | rfl | rfl | rfl) | ((rfl | rfl | rfl) | hu | rfl | hu) | hu | rfl
 all_goals first | rfl | exact bcells_one _ u hu | exact atl_one _ u hu
theorem stc_one (x:StM):(stc x).all (·.oneCell')=true:=all_oneCell_toArray (stl_one x)
theorem in_range {w:World} {g o:Nat} {t:TypeId} {C:Array Value} {pre mid post:List Value} (h:w.heap[g]?=some (.cells C t (0,0))) (hC:C=(pre ++ (mid ++ post)).toArray) (ho:o=pre.length):w.rangeAt g o mid:=fun j u hu=>by
 subst hC ho
 rw [cell_blk h,List.getElem?_toArray,List.getElem?_append_right (by omega),Nat.add_sub_cancel_left,List.getElem?_append_left (List.getElem?_eq_some_iff.1 hu).1]
 exact hu
structure StRd (W:World) (g:Nat) (x:StM):Prop where
 act:W.cell? ⟨g,0,none⟩=some (.int .i64 x.act)
 vi:W.cell? ⟨g,1,none⟩=some (.int .i64 x.vi)
 bk:loadK (.pointer (some ⟨g,2,none⟩)) W=.ok (.value (.agg (bkc x.b x.sb))) W
 ax:loadAx (.pointer (some ⟨g,38,none⟩)) W=.ok (.value (.agg (axc x.a x.sa))) W
 ct:loadCt (.pointer (some ⟨g,106,none⟩)) W=.ok (.value (.agg (ctc x.c x.sc))) W
 fr:W.cell? ⟨g,73,none⟩=some x.sa
 sg:W.cell? ⟨g,207,none⟩=some x.sc
theorem st_read {w W:World} {x:StM} {g:Nat} {t:TypeId} (h:W.heap[g]?=some (.cells (stc x) t (0,0))) (ho:StOk w x):StRd W g x:=by
 have hb:W.rangeAt g 2 (bkl x.b x.sb):=in_range h (pre:=[.int .i64 x.act,.int .i64 x.vi]) (post:=axl x.a x.sa ++ ctl x.c x.sc) rfl rfl
 have ha:W.rangeAt g 38 (axl x.a x.sa):=in_range h (pre:=[.int .i64 x.act,.int .i64 x.vi] ++ bkl x.b x.sb) (post:=ctl x.c x.sc) (by unfold stc stl;simp only [List.append_assoc]) (by simp only [List.length_append,bkl_len _ ho.bp,List.length_cons,List.length_nil])
 have hc:W.rangeAt g 106 (ctl x.c x.sc):=in_range h (pre:=[.int .i64 x.act,.int .i64 x.vi] ++ (bkl x.b x.sb ++ axl x.a x.sa)) (post:=[]) (by unfold stc stl;simp only [List.append_assoc,List.append_nil]) (by simp only [List.length_append,bkl_len _ ho.bp,axl_length _ ho.ao,List.length_cons,List.length_nil])
 refine ⟨cell_blk h 0,cell_blk h 1,loadK_in hb ho.bp,loadAx_in ha ho.ao,loadCt_in hc ho.co.att,?_,?_⟩
 ·have:=ha 35 x.sa (by have:=axc_35 (a:=x.a) x.sa ho.ao;unfold axc at this;rwa [List.getElem?_toArray] at this)
  exact this
 ·have:=hc 101 x.sc (by unfold ctl;rw [List.getElem?_append_right (by rw [atl_length ho.co.att];omega),atl_length ho.co.att];rfl)
  exact this
noncomputable def loadSt (v : Value) (w : World) : Result Next := Sem.run Tryz.prog (execOp (fun _ => v) { dst := none, op := .load 59 (.tmp 0), type := 0, pos := "", after := #[], guard := none }) w
theorem exec_load_st (r:Operand→Value) (x:Operand) (dst:Option Tmp) (ty:TypeId) (pos:String) (after:Array Edge) (guard:Option (Nat × Bool)) (w:World):
  Sem.run Tryz.prog (execOp r { dst:=dst,op:=.load 59 x,type:=ty,pos:=pos,after:=after,guard:=guard }) w=loadSt (r x) w:=rfl
theorem under_st:Tryz.prog.underlying 59=some (.struct (Tryz.prog.fieldsOf 59)):=by kernel_rfl
theorem size_st:(Tryz.prog.info? 59).map (·.size)=some 208:=by kernel_rfl
theorem loadSt_mid {w W:World} {g o:Nat} {x:StM} (hr:W.rangeAt g o (stl x)) (ho:StOk w x):loadSt (.pointer (some ⟨g,o,none⟩)) W=.ok (.value (.agg (stc x))) W:=by
 have:=run_loadAt_mid (P:=Tryz.prog) W g o 59 (stl x) _ hr under_st rfl (by rw [size_st,stl_length ho])
 unfold loadSt execOp
 simp only [Sem.run_bind,this,Result.andThen_ok,Sem.run_pure]
 rfl
theorem loadSt_row {w W:World} {g:Nat} {x:StM} {t:TypeId} (h:W.heap[g]?=some (.cells (stc x) t (0,0))) (ho:StOk w x):loadSt (.pointer (some ⟨g,0,none⟩)) W=.ok (.value (.agg (stc x))) W:=
 loadSt_mid (in_range h (pre:=[]) (post:=[]) (by unfold stc;simp) rfl) ho
section
variable {H:Type} {enc:TypeId × Value→H} {w:World} {base:Nat} {spare:Nat→Bool} {held:Bool} {fuel:Nat} {cs:List Value} {x:DataW H × List MemPlace}
theorem fields_st:∃ f0 f1 f2 f3 f4:Field,Tryz.prog.underlying 59=some (.struct #[f0,f1,f2,f3,f4])∧(f0.type,f0.offset)=(3,0)∧(f1.type,f1.offset)=(3,1)∧(f2.type,f2.offset)=(49,2)
  ∧ (f3.type,f3.offset)=(52,38)∧(f4.type,f4.offset)=(57,106):=
 ⟨_,_,_,_,_,Tryz.underlying59,rfl,rfl,rfl,rfl,rfl⟩
theorem trod_st (h:DataW.trod enc Tryz.prog w base spare held fuel 59 cs=some x):∃ a,StOk w a∧cs=stl a:=by
 obtain ⟨f0,f1,f2,f3,f4,hu,e0,e1,e2,e3,e4⟩:=fields_st
 injection e0 with t0 o0
 injection e1 with t1 o1
 injection e2 with t2 o2
 injection e3 with t3 o3
 injection e4 with t4 o4
 obtain ⟨xs,m,_,_,hlen,hxl,hf⟩:=DataW.trod_struct hu h
 have hc:Tryz.prog.cellsOf 59=208:=by kernel_rfl
 have hci:Tryz.prog.cellsOf 3=1:=by kernel_rfl
 have hcb:Tryz.prog.cellsOf 49=36:=by kernel_rfl
 have hca:Tryz.prog.cellsOf 52=68:=by kernel_rfl
 have hct:Tryz.prog.cellsOf 57=102:=by kernel_rfl
 rw [hc] at hlen
 have hx:xs.length=5:=hxl
 have g0:=hf 0 f0 rfl
 have g1:=hf 1 f1 rfl
 have g2:=hf 2 f2 rfl
 have g3:=hf 3 f3 rfl
 have g4:=hf 4 f4 rfl
 rw [t0,o0,hci,List.getElem?_eq_getElem (by omega)] at g0
 rw [t1,o1,hci,List.getElem?_eq_getElem (by omega)] at g1
 rw [t2,o2,hcb,List.getElem?_eq_getElem (by omega)] at g2
 rw [t3,o3,hca,List.getElem?_eq_getElem (by omega)] at g3
 rw [t4,o4,hct,List.getElem?_eq_getElem (by omega)] at g4
 obtain ⟨n0,c0,_,_⟩:=DataW.trod_int Tryz.underlying3 g0
 obtain ⟨n1,c1,_,_⟩:=DataW.trod_int Tryz.underlying3 g1
 obtain ⟨b,⟨sb,cb,bp,bt⟩,bs⟩:=trod_bk g2
 obtain ⟨a,sa,ca,ao,ae⟩:=trod_ac g3
 obtain ⟨c,sc,cc,co,ce⟩:=trod_ct g4
 obtain ⟨A2,d2,rfl⟩:=bt.shape
 obtain ⟨A3,d3,rfl⟩:=ae.shape
 obtain ⟨A4,d4,rfl⟩:=ce.shape
 have c2:(cs.drop 2).take 36=bkl b (.slice A2 b.txs.length d2):=by
  have h:=congrArg (fun v=>match v with | .agg C=>C.toList | _=>[]) cb
  exact h
 have c3:(cs.drop 38).take 68=axl a (.slice A3 a.fr.length d3):=by
  have h:=congrArg (fun v=>match v with | .agg C=>C.toList | _=>[]) ca
  exact h
 have c4:(cs.drop 106).take 102=ctl c (.slice A4 c.sg.length d4):=by
  have h:=congrArg (fun v=>match v with | .agg C=>C.toList | _=>[]) cc
  exact h
 refine ⟨⟨n0,n1,b,A2,d2,a,A3,d3,c,A4,d4⟩,⟨bp,bt,bs,ao,ae,co,ce⟩,?_⟩
 have e:cs=cs.drop 0:=rfl
 rw [e,drop_part c0,drop_part c1,drop_part c2,drop_part c3,drop_part c4,List.drop_eq_nil_of_le (by omega)]
 unfold stl StM.sb StM.sa StM.sc
 simp only [List.append_nil,List.cons_append,List.nil_append]
end
def litS (x:StM):Bool:=litK x.b && (decide ((x.a.fr.length:Int)≤30) && decide ((x.c.sg.length:Int)≤30))
set_option maxHeartbeats 3200000 in
theorem light15_any (x:StM) (w:World) (ho:StOk w x):Calls Tryz.prog 26 #[.agg (stc x)] w fun e w'=>e=.returned (.bool (litS x))∧Below w.heap.size w w':=by
 have hb0:Below w.heap.size w (w.alloc (.cells (stc x) 59)):=(Below.refl _ _).alloc (Nat.le_refl _) _
 have hr:=heap_alloc_new w (.cells (stc x) 59)
 have HRD:Hid (∀ W,W.heap[w.heap.size]?=some (.cells (stc x) 59 (0,0))→StRd W w.heap.size x):=hid (fun W h=>st_read h ho)
 have HLK:Hid (∀ W,Below w.heap.size w W→Calls Tryz.prog 62 #[.agg (bkc x.b x.sb)] W fun e w'=>e=.returned (.bool (litK x.b))∧Below W.heap.size W w'):=hid (fun W h=>light7_any _ x.b W (ho.bk.below h) ho.bs)
 obtain ⟨C,HC⟩:∃ C:Array Value,Hid (stc x=C):=⟨_,hid rfl⟩
 obtain ⟨q,HQ⟩:∃ q:Bool,Hid (litS x=q):=⟨_,hid rfl⟩
 obtain ⟨k,HKB⟩:∃ q:Bool,Hid (litK x.b=q):=⟨_,hid rfl⟩
 have HM:Hid (q=(k && (decide ((x.a.fr.length:Int)≤30) && decide ((x.c.sg.length:Int)≤30)))):=hid (by rw [← HQ.out,← HKB.out];rfl)
 obtain ⟨B,HB⟩:∃ C:Array Value,Hid (bkc x.b x.sb=C):=⟨_,hid rfl⟩
 have HF:Hid (∀ W,W.heap[w.heap.size]?=some (.cells C 59 (0,0))→loadK (.pointer (some ⟨w.heap.size,2,none⟩)) W=.ok (.value (.agg B)) W∧W.cell? ⟨w.heap.size,73,none⟩=some (.slice x.aA x.a.fr.length x.ac)∧W.cell? ⟨w.heap.size,207,none⟩=some (.slice x.cA x.c.sg.length x.cc)):=hid (fun W h=>by
  rw [← HC.out] at h
  have r:=HRD.out W h
  have r2:=r.bk
  rw [HB.out] at r2
  exact ⟨r2,r.fr,r.sg⟩)
 rw [HC.out] at hb0 hr ⊢
 rw [HKB.out,HB.out] at HLK
 rw [HQ.out]
 clear ho HC HQ HKB HB HRD
 obtain ⟨n1,HN1⟩:∃ q:Nat,Hid (x.a.fr.length=q):=⟨_,hid rfl⟩
 obtain ⟨n2,HN2⟩:∃ q:Nat,Hid (x.c.sg.length=q):=⟨_,hid rfl⟩
 rw [HN1.out,HN2.out] at HM HF
 go_enter Tryz.func26,Tryz.ntmps26
 go_upto_region 1 with (fail)
 generalize (w.alloc (.cells C 59))=wz at *
 have HB0:=hid hb0
 have HR:=hid hr
 obtain ⟨l0,_,_⟩:=HF.out wz hr
 clear hb0 hr
 go_wp2_with fail
 refine (HLK.out wz HB0.out).mono ?_
 rintro e w1 ⟨rfl,hb1⟩
 have HB1:=hid (HB0.out.trans (hb1.mono HB0.out.size))
 obtain ⟨_,k1,k2⟩:=HF.out w1 ((hb1.block _ (lt_of_block HR.out)).trans HR.out)
 clear l0 hb1
 cases k with
 | false=>
  obtain rfl:q=false:=by rw [HM.out];rfl
  go_wp2_with fail
  go_ret
  exact ⟨rfl,HB1.out⟩
 | true=>
 by_cases p1:(n1:Int)≤30
 ·obtain rfl:q=decide ((n2:Int)≤30):=by rw [HM.out,decide_eq_true p1];rfl
  go_wp2_with fail
  go_ret
  exact ⟨rfl,HB1.out⟩
 ·obtain rfl:q=false:=by rw [HM.out,decide_eq_false p1];rfl
  go_wp2_with fail
  go_ret
  exact ⟨rfl,HB1.out⟩
end Go.Proofs.YtpdnnmabijmfbaaGreatDoor
