/-
  HashMid AtWords TxPutsWalk BkWords: what each of them says stands at its head.
-/
import Derived.Test.YtpdnnmabijmfbaaGreatDoorBs6
namespace Go.Proofs.YtpdnnmabijmfbaaGreatDoor
set_option maxRecDepth 20000
open Go.RowKit
theorem loadH_mid {w:World} {g o:Nat} {h:List UInt8} (hr:w.rangeAt g o (bcells h)) (hl:h.length=32):loadH (.pointer (some ⟨g,o,none⟩)) w=.ok (.value (.agg (hcells h))) w:=by
 have:=run_loadAt_mid (P:=Tryz.prog) w g o 38 (bcells h) _ hr under_hash rfl (by rw [size_hash,bcells_length,hl])
 unfold loadH execOp
 simp only [Sem.run_bind,this,Result.andThen_ok,Sem.run_pure]
 rfl
def putAt (C:Array Value) (o:Nat):List Value→Array Value
 | []=>C
 | v :: r=>putAt (C.setIfInBounds o v) (o + 1) r
theorem setCells_row {g:Nat} {t:TypeId}:∀ (vs:List Value) (o:Nat) (w:World) (C:Array Value),w.heap[g]?=some (.cells C t (0,0))→(w.setCells g o vs).heap[g]?=some (.cells (putAt C o vs) t (0,0))
 | [],_,_,_,h=>h
 | v :: r,o,w,C,h=>setCells_row r (o + 1) (w.setCell ⟨g,o,none⟩ v) (C.setIfInBounds o v) (set_blk h o v)
theorem putAt_mid:∀ (vs pre old post:List Value),old.length=vs.length→putAt (pre ++ (old ++ post)).toArray pre.length vs=(pre ++ (vs ++ post)).toArray
 | [],pre,old,post,h=>by
  obtain rfl:old=[]:=List.eq_nil_of_length_eq_zero h
  rfl
 | v :: r,pre,o :: old,post,h=>by
  have e:(pre ++ (o :: old ++ post)).toArray.setIfInBounds pre.length v=((pre ++ [v]) ++ (old ++ post)).toArray:=by
   simp
  have e2:pre.length + 1=(pre ++ [v]).length:=by simp
  unfold putAt
  rw [e,e2,putAt_mid r (pre ++ [v]) old post (by simpa using h)]
  simp
 | _ :: _,_,[],_,h=>by cases h
theorem wpList_store_midh {ops:Array Oper} {rest:List Oper} {o:Oper} {a:Act} {w:World} {Q:Exit→Act→World→Prop} (hgd:o.guard=none) (x y:Operand) (ho:o.op=.store 38 x y)
  {g k:Nat} {t:TypeId} {pre old post:List Value} {h:List UInt8} (hx:a.eval x=.pointer (some ⟨g,k,none⟩)) (hy:a.eval y=.agg (hcells h)) (hg:w.heap[g]?=some (.cells (pre ++ (old ++ post)).toArray t (0,0))) (hk:k=pre.length) (hold:old.length=32) (hl:h.length=32)
  (hh:∀ w',w.grownBy w' (some g)→w'.heap[g]?=some (.cells (pre ++ (bcells h ++ post)).toArray t (0,0))→w'.heap.size=w.heap.size→wpList Tryz.prog ops Q rest (a.put o.dst undef) w'):wpList Tryz.prog ops Q (o :: rest) a w:=by
 subst hk
 refine wpList_store_mid hgd _ x y ho (b:=g) (o:=pre.length) (cells:=hcells h) hx hy (fun j hj=>⟨?_,free_blk hg _⟩) (by rw [size_hash,hcells_size,hl]) (hcells_one _) ?_
 ·rw [hcells_size,hl] at hj
  rw [cell_blk hg,List.getElem?_toArray,List.getElem?_append_right (by omega),Nat.add_sub_cancel_left,List.getElem?_append_left (by omega),List.getElem?_eq_getElem (by omega)]
  rfl
 ·rw [hcells_list]
  refine hh _ (grown_setCells g _ _ _) ?_ (setCells_size g _ _ _)
  have:=setCells_row (bcells h) pre.length w _ hg
  rw [putAt_mid (bcells h) pre old post (by rw [bcells_length,hl,hold])] at this
  exact this
end Go.Proofs.YtpdnnmabijmfbaaGreatDoor
namespace Go.Proofs.YtpdnnmabijmfbaaGreatDoor
set_option maxRecDepth 20000
open Go.RowKit
def atl (a:AtM):List Value:=[.int .i64 a.bo,.int .i64 a.ki,.int .i64 a.vi,.int .i64 a.ph] ++ (bcells a.ha ++ ([.int .i64 a.pv] ++ (bcells a.pa ++ bcells a.tg)))
def atc (a:AtM):Array Value:=(atl a).toArray
theorem atl_length {a:AtM} (h:a.Ok):(atl a).length=101:=by
 have:=h.ha
 have:=h.pa
 have:=h.tg
 unfold atl
 simp only [List.length_append,bcells_length,List.length_cons,List.length_nil]
 omega
theorem atc_size {a:AtM} (h:a.Ok):(atc a).size=101:=by
 unfold atc
 rw [List.size_toArray,atl_length h]
def BoxA (w:World) (g:Nat) (a:AtM):Prop:=w.heap[g]?=some (.cells (atc a) 54 (0,0))
section
variable {w w':World} {g:Nat} {a:AtM}
theorem BoxA.new (w:World) (a:AtM):BoxA (w.alloc (.cells (atc a) 54)) w.heap.size a:=heap_alloc_new w _
theorem BoxA.lt (h:BoxA w g a):g < w.heap.size:=lt_of_block h
theorem BoxA.below {B:Nat} (h:BoxA w g a) (hb:Below B w w') (hg:g < B):BoxA w' g a:=(hb.block g hg).trans h
theorem BoxA.keep (h:BoxA w g a) (hb:Below w.heap.size w w'):BoxA w' g a:=h.below hb h.lt
theorem BoxA.free (h:BoxA w g a) (i:Nat):w.frozen? ⟨g,i,none⟩=false:=free_blk h i
theorem BoxA.cell (h:BoxA w g a) (i:Nat):w.cell? ⟨g,i,none⟩=(atl a)[i]?:=by
 rw [cell_blk h i]
 unfold atc
 rw [List.getElem?_toArray]
theorem BoxA.cells (h:BoxA w g a):w.cell? ⟨g,0,none⟩=some (.int .i64 a.bo)∧w.cell? ⟨g,1,none⟩=some (.int .i64 a.ki)∧w.cell? ⟨g,2,none⟩=some (.int .i64 a.vi)∧w.cell? ⟨g,3,none⟩=some (.int .i64 a.ph):=
 ⟨h.cell 0,h.cell 1,h.cell 2,h.cell 3⟩
theorem BoxA.range0 (h:BoxA w g a) {pre l post:List Value} (e:atl a=pre ++ (l ++ post)):w.rangeAt g pre.length l:=fun j u hu=>by
 rw [h.cell,e,List.getElem?_append_right (by omega),Nat.add_sub_cancel_left,List.getElem?_append_left (List.getElem?_eq_some_iff.1 hu).1]
 exact hu
theorem BoxA.pv (h:BoxA w g a) (ho:a.Ok):w.cell? ⟨g,36,none⟩=some (.int .i64 a.pv):=by
 have:=h.range0 (pre:=[.int .i64 a.bo,.int .i64 a.ki,.int .i64 a.vi,.int .i64 a.ph] ++ bcells a.ha) (l:=[.int .i64 a.pv]) (post:=bcells a.pa ++ bcells a.tg) (by unfold atl;simp only [List.append_assoc]) 0 _ rfl
 rw [List.length_append,bcells_length,ho.ha] at this
 exact this
theorem BoxA.hash (h:BoxA w g a):w.rangeAt g 4 (bcells a.ha):=h.range0 (pre:=[.int .i64 a.bo,.int .i64 a.ki,.int .i64 a.vi,.int .i64 a.ph]) rfl
theorem BoxA.phash (h:BoxA w g a) (ho:a.Ok):w.rangeAt g 37 (bcells a.pa):=by
 have:=h.range0 (pre:=[.int .i64 a.bo,.int .i64 a.ki,.int .i64 a.vi,.int .i64 a.ph] ++ (bcells a.ha ++ [.int .i64 a.pv])) (l:=bcells a.pa) (post:=bcells a.tg) (by unfold atl;simp only [List.append_assoc])
 rw [List.length_append,List.length_append,bcells_length,ho.ha] at this
 exact this
theorem BoxA.tag (h:BoxA w g a) (ho:a.Ok):w.rangeAt g 69 (bcells a.tg):=by
 have:=h.range0 (pre:=[.int .i64 a.bo,.int .i64 a.ki,.int .i64 a.vi,.int .i64 a.ph] ++ (bcells a.ha ++ ([.int .i64 a.pv] ++ bcells a.pa))) (l:=bcells a.tg) (post:=[]) (by unfold atl;simp only [List.append_assoc,List.append_nil])
 rw [List.length_append,List.length_append,List.length_append,bcells_length,bcells_length,ho.ha,ho.pa] at this
 exact this
end
noncomputable def loadAtt (v : Value) (w : World) : Result Next := Sem.run Tryz.prog (execOp (fun _ => v) { dst := none, op := .load 54 (.tmp 0), type := 0, pos := "", after := #[], guard := none }) w
theorem exec_load_att (r:Operand→Value) (x:Operand) (dst:Option Tmp) (ty:TypeId) (pos:String) (after:Array Edge) (guard:Option (Nat × Bool)) (w:World):
  Sem.run Tryz.prog (execOp r { dst:=dst,op:=.load 54 x,type:=ty,pos:=pos,after:=after,guard:=guard }) w=loadAtt (r x) w:=rfl
theorem under_att:Tryz.prog.underlying 54=some (.struct (Tryz.prog.fieldsOf 54)):=by kernel_rfl
theorem size_att:(Tryz.prog.info? 54).map (·.size)=some 101:=by kernel_rfl
theorem loadAtt_row {w:World} {g:Nat} {C:Array Value} {T:TypeId} (h:w.heap[g]?=some (.cells C T (0,0))) (hs:C.size=101):loadAtt (.pointer (some ⟨g,0,none⟩)) w=.ok (.value (.agg C)) w:=by
 have:=run_loadAt_mid (P:=Tryz.prog) w g 0 54 C.toList _ (fun j v hj=>by rw [Nat.zero_add,cell_blk h j];simpa using hj) under_att rfl (by rw [size_att];simp [hs])
 simp only [Array.toArray_toList] at this
 unfold loadAtt execOp
 simp only [Sem.run_bind,this,Result.andThen_ok,Sem.run_pure]
theorem loadAtt_eq {w:World} {g:Nat} {a:AtM} (h:BoxA w g a) (ho:a.Ok):loadAtt (.pointer (some ⟨g,0,none⟩)) w=.ok (.value (.agg (atc a))) w:=loadAtt_row h (atc_size ho)
theorem atl_one (a:AtM):∀ u ∈ atl a,u.oneCell'=true:=by
 intro u hu
 unfold atl at hu
 simp only [List.mem_append,List.mem_cons,List.not_mem_nil,or_false] at hu
 rcases hu with (rfl | rfl | rfl | rfl) | hu | rfl | hu | hu
 ·rfl
 ·rfl
 ·rfl
 ·rfl
 ·exact bcells_one _ u hu
 ·rfl
 ·exact bcells_one _ u hu
 ·exact bcells_one _ u hu
theorem atc_one (a:AtM):(atc a).all (·.oneCell')=true:=all_oneCell_toArray (atl_one a)
theorem zero_att:(Tryz.prog.info? 54).bind (·.zero)=some (.agg (atc atZ)):=by kernel_rfl
theorem run_zero_att (w:World):(zeroValue 54).run Tryz.prog w=.ok (.agg (atc atZ)) w:=by
 have h:=zero_att
 cases hq:Tryz.prog.info? 54 with
 | none=>rw [hq] at h;cases h
 | some i=>
  rw [hq] at h
  have hz:i.zero=some (.agg (atc atZ)):=h
  simp [zeroValue,typeInfo,hq,hz]
noncomputable def buildAtt (w : World) : Result Next := Sem.run Tryz.prog (execOp (fun _ => undef) { dst := none, op := .build 54 #[], type := 0, pos := "", after := #[], guard := none }) w
theorem exec_build_att (r:Operand→Value) (dst:Option Tmp) (ty:TypeId) (pos:String) (after:Array Edge) (guard:Option (Nat × Bool)) (w:World):
  Sem.run Tryz.prog (execOp r { dst:=dst,op:=.build 54 #[],type:=ty,pos:=pos,after:=after,guard:=guard }) w=buildAtt w:=by
 unfold buildAtt execOp
 simp
theorem buildAtt_eq (w:World):buildAtt w=.ok (.value (.agg (atc atZ))) w:=by
 unfold buildAtt
 go_simp
 rfl
noncomputable def allocAtt (w : World) : Result Next := Sem.run Tryz.prog (execOp (fun _ => undef) { dst := none, op := .alloc 54, type := 0, pos := "", after := #[], guard := none }) w
theorem exec_alloc_att (r:Operand→Value) (dst:Option Tmp) (ty:TypeId) (pos:String) (after:Array Edge) (guard:Option (Nat × Bool)) (w:World):
  Sem.run Tryz.prog (execOp r { dst:=dst,op:=.alloc 54,type:=ty,pos:=pos,after:=after,guard:=guard }) w=allocAtt w:=rfl
theorem allocAtt_eq (w:World):allocAtt w=.ok (.value (.pointer (some ⟨w.heap.size,0,none⟩))) (w.alloc (.cells (atc atZ) 54)):=by
 unfold allocAtt execOp
 simp only [Sem.run_bind,Instr.alloc,run_zero_att,newVar,newRow,run_newObj_alloc,Sem.run_pure,Result.andThen_ok,Value.cells]
noncomputable def storeAtt (p v:Value) (w:World):Result Next:=Sem.run Tryz.prog (execOp (fun x=>match x with
 | .tmp 0=>p
 | _ => v) { dst := none, op := .store 54 (.tmp 0) (.tmp 1), type := 0, pos := "", after := #[], guard := none }) w
theorem exec_store_att (r:Operand→Value) (x y:Operand) (dst:Option Tmp) (ty:TypeId) (pos:String) (after:Array Edge) (guard:Option (Nat × Bool)) (w:World):
  Sem.run Tryz.prog (execOp r { dst:=dst,op:=.store 54 x y,type:=ty,pos:=pos,after:=after,guard:=guard }) w=storeAtt (r x) (r y) w:=rfl
def setAtt (w:World) (g:Nat) (C:Array Value):World:=w.setRow g C
theorem storeAtt_eq {w:World} {g:Nat} {t:TypeId} {C0 C:Array Value} (hg:w.heap[g]?=some (.cells C0 t (0,0))) (h0:C0.size=101) (hC:C.size=101) (h1:C.all (·.oneCell')=true):
  storeAtt (.pointer (some ⟨g,0,none⟩)) (.agg C) w=.ok .skip (setAtt w g C):=by
 have:=run_storeVar_row (P:=Tryz.prog) w g t 54 C0 C hg (by rw [size_att,hC]) (by rw [h0,hC]) h1
 unfold storeAtt execOp
 simp only [Instr.storeAt,Instr.sureAddr,Sem.run_bind,Sem.run_pure,Result.andThen_ok,this]
 rfl
theorem setAtt_other (w:World) {g k:Nat} (C:Array Value) (hk:k≠g):(setAtt w g C).heap[k]?=w.heap[k]?:=setRow_other w g k _ hk
theorem setAtt_same {w:World} {g:Nat} {t:TypeId} {C0 C:Array Value} (hg:w.heap[g]?=some (.cells C0 t (0,0))):(setAtt w g C).heap[g]?=some (.cells C t (0,0)):=setRow_heap w g _ _ t _ hg
theorem setAtt_below {B g:Nat} {a w:World} {C:Array Value} (hb:Below B a w) (hg:B≤g):Below B a (setAtt w g C):=below_setRow hb hg _
theorem atl_tag (a:AtM):atl a=([.int .i64 a.bo,.int .i64 a.ki,.int .i64 a.vi,.int .i64 a.ph] ++ (bcells a.ha ++ ([.int .i64 a.pv] ++ bcells a.pa))) ++ (bcells a.tg ++ []):=by
 unfold atl
 simp only [List.append_assoc,List.append_nil]
theorem wpList_store_tag {ops:Array Oper} {rest:List Oper} {o:Oper} {ac:Act} {w:World} {Q:Exit→Act→World→Prop} (hgd:o.guard=none) (x y:Operand) (ho:o.op=.store 38 x y)
  {g:Nat} {a:AtM} {h:List UInt8} (hx:ac.eval x=.pointer (some ⟨g,69,none⟩)) (hy:ac.eval y=.agg (hcells h)) (hg:BoxA w g a) (hok:a.Ok) (hl:h.length=32)
  (hh:∀ w',w.grownBy w' (some g)→BoxA w' g { a with tg:=h }→w'.heap.size=w.heap.size→wpList Tryz.prog ops Q rest (ac.put o.dst undef) w'):wpList Tryz.prog ops Q (o :: rest) ac w:=by
 unfold BoxA atc at hg
 rw [atl_tag] at hg
 refine wpList_store_midh hgd x y ho hx hy hg (by simp only [List.length_append,bcells_length,hok.ha,hok.pa,List.length_cons,List.length_nil]) (by rw [bcells_length,hok.tg]) hl (fun w' h1 h2 h3=>hh w' h1 ?_ h3)
 unfold BoxA atc
 rw [atl_tag]
 exact h2
end Go.Proofs.YtpdnnmabijmfbaaGreatDoor
namespace Go.Proofs.YtpdnnmabijmfbaaGreatDoor
set_option maxRecDepth 20000
open Go.RowKit
attribute [local go_sem ↓] exec_load_tx
def litT (t:TxM):Bool:=decide (t.key.length≤100) && decide (t.val.length≤400)
set_option maxHeartbeats 1600000 in
theorem light6_any (t:TxM) (w:World) (hk:t.key.length≤maxLen) (hv:t.val.length≤maxLen):
  Calls Tryz.prog 100 #[txv t] w fun e w'=>e=.returned (.bool (litT t))∧Below w.heap.size w w':=by
 obtain ⟨fr,no,ki,tu,am,key,val⟩:=t
 simp only at hk hv
 unfold maxLen at hk hv
 have hks:=sb_size key
 have hvs:=sb_size val
 unfold txv
 simp only
 obtain ⟨s,HS⟩:∃ s:ByteArray,Hid (sb key=s):=⟨_,hid rfl⟩
 obtain ⟨u,HU⟩:∃ s:ByteArray,Hid (sb val=s):=⟨_,hid rfl⟩
 obtain ⟨n,HN⟩:∃ n:Nat,Hid (key.length=n):=⟨_,hid rfl⟩
 obtain ⟨m,HM⟩:∃ n:Nat,Hid (val.length=n):=⟨_,hid rfl⟩
 rw [HS.out] at hks ⊢
 rw [HU.out] at hvs ⊢
 rw [HN.out] at hks hk
 rw [HM.out] at hvs hv
 obtain ⟨q,HQ⟩:∃ b:Bool,Hid (litT ⟨fr,no,ki,tu,am,key,val⟩=b):=⟨_,hid rfl⟩
 rw [HQ.out]
 go_enter Tryz.func100,Tryz.ntmps100
 go_wp2_with fail
 all_goals
  go_ret
  refine ⟨?_,(Below.refl _ _).alloc (Nat.le_refl _) _⟩
  refine congrArg (fun b=>Ending.returned (Value.bool b)) ?_
  rw [← HQ.out]
  unfold litT
  simp only [HN.out,HM.out]
 all_goals grind
end Go.Proofs.YtpdnnmabijmfbaaGreatDoor
namespace Go.Proofs.YtpdnnmabijmfbaaGreatDoor
set_option maxRecDepth 20000
open Go.RowKit
def tcl (t:TxM):List Value:=[.int .i64 t.fr,.int .i64 t.no,.int .i64 t.ki,.int .i64 t.to,.int .i64 t.am,.string (sb t.key),.string (sb t.val)]
theorem txv_tcl (t:TxM):txv t=.agg (tcl t).toArray:=rfl
theorem tcl_length (t:TxM):(tcl t).length=7:=rfl
def TxsA (w:World) (A:Option Addr) (L:List TxM):Prop:=
 0 < L.length→∃ b off,A=some ⟨b,off,none⟩∧b < w.heap.size∧∀ j (h:j < L.length),w.rangeAt b (off + j * 7) (tcl L[j])
def Txs (w:World) (v:Value) (L:List TxM):Prop:=∃ A c,v=.slice A L.length c∧L.length≤c∧c≤maxLen∧TxsA w A L
section
variable {w w':World} {A:Option Addr} {v:Value} {L:List TxM}
theorem range_keep {b o:Nat} {l:List Value} (h:w.rangeAt b o l) (hk:w'.heap[b]?=w.heap[b]?):w'.rangeAt b o l:=fun j u hu=>(World.cell?_of_block hk).trans (h j u hu)
theorem TxsA.nil (w:World) (A:Option Addr):TxsA w A []:=fun h=>absurd h (by simp)
theorem TxsA.below (h:TxsA w A L) (hb:Below w.heap.size w w'):TxsA w' A L:=fun hl=>by
 obtain ⟨b,off,e,hlt,hc⟩:=h hl
 exact ⟨b,off,e,Nat.lt_of_lt_of_le hlt hb.size,fun j hj=>range_keep (hc j hj) (hb.block b hlt)⟩
theorem Txs.nil (w:World):Txs w (.slice none 0 0) []:=⟨none,0,rfl,Nat.le_refl _,Nat.zero_le _,TxsA.nil _ _⟩
theorem Txs.below (h:Txs w v L) (hb:Below w.heap.size w w'):Txs w' v L:=by
 obtain ⟨A,c,rfl,h1,h2,h3⟩:=h
 exact ⟨A,c,rfl,h1,h2,h3.below hb⟩
theorem Txs.len (h:Txs w v L):L.length≤maxLen:=by
 obtain ⟨_,_,_,h1,h2,_⟩:=h
 omega
theorem Txs.shape (h:Txs w v L):∃ A c,v=.slice A L.length c:=by
 obtain ⟨A,c,e,_⟩:=h
 exact ⟨A,c,e⟩
theorem Txs.at_ {n c:Nat} (h:Txs w (.slice A n c) L):n=L.length∧L.length≤c∧c≤maxLen∧TxsA w A L:=by
 obtain ⟨A',c',e,h1,h2,h3⟩:=h
 injection e with e1 e2 e3
 subst e1 e2 e3
 exact ⟨rfl,h1,h2,h3⟩
end
def bkc (b:BkM) (s:Value):Array Value:=(bcells b.par ++ [.int .i64 b.vi,.int .i64 b.he,.int .i64 b.bo,s]).toArray
theorem bkc_size {b:BkM} (s:Value) (h:b.par.length=32):(bkc b s).size=36:=by simp [bkc,bcells,h]
def BkV (w:World) (v:Value) (b:BkM):Prop:=∃ s,v=.agg (bkc b s)∧b.par.length=32∧Txs w s b.txs
theorem BkV.below {w w':World} {v:Value} {b:BkM} (h:BkV w v b) (hb:Below w.heap.size w w'):BkV w' v b:=by
 obtain ⟨s,rfl,h1,h2⟩:=h
 exact ⟨s,rfl,h1,h2.below hb⟩
def BoxK (w:World) (g:Nat) (b:BkM) (s:Value):Prop:=w.heap[g]?=some (.cells (bkc b s) 49 (0,0))
section
variable {w w':World} {g:Nat} {b:BkM} {s:Value}
theorem BoxK.new (w:World) (b:BkM) (s:Value):BoxK (w.alloc (.cells (bkc b s) 49)) w.heap.size b s:=heap_alloc_new w _
theorem BoxK.two (w:World) (o:Obj) (b:BkM) (s:Value):BoxK ((w.alloc o).alloc (.cells (bkc b s) 49)) (w.heap.size + 1) b s:=by
 have:=BoxK.new (w.alloc o) b s
 rwa [show (w.alloc o).heap.size=w.heap.size + 1 from by simp] at this
theorem BoxK.lt (h:BoxK w g b s):g < w.heap.size:=lt_of_block h
theorem BoxK.keep (h:BoxK w g b s) (hk:w'.heap[g]?=w.heap[g]?):BoxK w' g b s:=hk.trans h
theorem BoxK.below {B:Nat} (h:BoxK w g b s) (hb:Below B w w') (hg:g < B):BoxK w' g b s:=(hb.block g hg).trans h
theorem bkc_tail (h:b.par.length=32):(bkc b s)[32]?=some (.int .i64 b.vi)∧(bkc b s)[33]?=some (.int .i64 b.he)∧(bkc b s)[34]?=some (.int .i64 b.bo)∧(bkc b s)[35]?=some s:=by
 have hb:(bcells b.par).length=32:=by rw [bcells_length,h]
 unfold bkc
 simp only [List.getElem?_toArray]
 refine ⟨?_,?_,?_,?_⟩ <;> rw [List.getElem?_append_right (by omega),hb] <;> rfl
theorem BoxK.cells (h:BoxK w g b s) (h32:b.par.length=32):w.cell? ⟨g,32,none⟩=some (.int .i64 b.vi)∧w.cell? ⟨g,33,none⟩=some (.int .i64 b.he)∧w.cell? ⟨g,34,none⟩=some (.int .i64 b.bo)∧w.cell? ⟨g,35,none⟩=some s:=by
 obtain ⟨k1,k2,k3,k4⟩:=bkc_tail (s:=s) h32
 exact ⟨(cell_of_row w g 32 _ _ (0,0) h).trans k1,(cell_of_row w g 33 _ _ (0,0) h).trans k2,(cell_of_row w g 34 _ _ (0,0) h).trans k3,(cell_of_row w g 35 _ _ (0,0) h).trans k4⟩
theorem BoxK.free (h:BoxK w g b s) (i:Nat):w.frozen? ⟨g,i,none⟩=false:=by
 unfold BoxK at h
 simp [World.frozen?,h]
theorem BoxK.range (h:BoxK w g b s):w.rangeAt g 0 (bcells b.par):=fun j u hu=>by
 rw [Nat.zero_add,cell_of_row w g j _ _ (0,0) h]
 unfold bkc
 rw [List.getElem?_toArray,List.getElem?_append_left (List.getElem?_eq_some_iff.1 hu).1]
 exact hu
end
theorem loadTx_mid {w:World} {g o:Nat} {t:TxM} (hr:w.rangeAt g o (tcl t)):loadTx (.pointer (some ⟨g,o,none⟩)) w=.ok (.value (txv t)) w:=by
 have:=run_loadAt_mid (P:=Tryz.prog) w g o 170 (tcl t) _ hr under_txs rfl (by rw [show (Tryz.prog.info? 170).map (·.size)=some 7 from by kernel_rfl,tcl_length])
 unfold loadTx execOp
 simp only [Sem.run_bind,this,Result.andThen_ok,Sem.run_pure]
 rfl
noncomputable def loadK (v : Value) (w : World) : Result Next := Sem.run Tryz.prog (execOp (fun _ => v) { dst := none, op := .load 49 (.tmp 0), type := 0, pos := "", after := #[], guard := none }) w
theorem exec_load_bk (r:Operand→Value) (x:Operand) (dst:Option Tmp) (ty:TypeId) (pos:String) (after:Array Edge) (guard:Option (Nat × Bool)) (w:World):
  Sem.run Tryz.prog (execOp r { dst:=dst,op:=.load 49 x,type:=ty,pos:=pos,after:=after,guard:=guard }) w=loadK (r x) w:=rfl
theorem under_bk:Tryz.prog.underlying 49=some (.struct (Tryz.prog.fieldsOf 49)):=by kernel_rfl
theorem size_bk:(Tryz.prog.info? 49).map (·.size)=some 36:=by kernel_rfl
theorem loadK_row {w:World} {g:Nat} {C:Array Value} {T:TypeId} (h:w.heap[g]?=some (.cells C T (0,0))) (hs:C.size=36):loadK (.pointer (some ⟨g,0,none⟩)) w=.ok (.value (.agg C)) w:=by
 have:=run_loadAt_mid (P:=Tryz.prog) w g 0 49 C.toList _ (fun j v hj=>by rw [Nat.zero_add,cell_blk h j];simpa using hj) under_bk rfl (by rw [size_bk];simp [hs])
 simp only [Array.toArray_toList] at this
 unfold loadK execOp
 simp only [Sem.run_bind,this,Result.andThen_ok,Sem.run_pure]
theorem loadK_eq {w:World} {g:Nat} {b:BkM} {s:Value} (h:BoxK w g b s) (h32:b.par.length=32):loadK (.pointer (some ⟨g,0,none⟩)) w=.ok (.value (.agg (bkc b s))) w:=loadK_row h (bkc_size s h32)
noncomputable def buildK (w : World) : Result Next := Sem.run Tryz.prog (execOp (fun _ => undef) { dst := none, op := .build 49 #[], type := 0, pos := "", after := #[], guard := none }) w
theorem exec_build_bk (r:Operand→Value) (dst:Option Tmp) (ty:TypeId) (pos:String) (after:Array Edge) (guard:Option (Nat × Bool)) (w:World):
  Sem.run Tryz.prog (execOp r { dst:=dst,op:=.build 49 #[],type:=ty,pos:=pos,after:=after,guard:=guard }) w=buildK w:=by
 unfold buildK execOp
 simp
theorem zero_bk:(Tryz.prog.info? 49).bind (·.zero)=some (.agg (bkc bkZ (.slice none 0 0))):=by kernel_rfl
theorem run_zero_bk (w:World):(zeroValue 49).run Tryz.prog w=.ok (.agg (bkc bkZ (.slice none 0 0))) w:=by
 have h:=zero_bk
 cases hq:Tryz.prog.info? 49 with
 | none=>rw [hq] at h;cases h
 | some i=>
  rw [hq] at h
  have hz:i.zero=some (.agg (bkc bkZ (.slice none 0 0))):=h
  simp [zeroValue,typeInfo,hq,hz]
theorem buildK_eq (w:World):buildK w=.ok (.value (.agg (bkc bkZ (.slice none 0 0)))) w:=by
 unfold buildK
 go_simp
 rfl
theorem bkZ_par:bkZ.par.length=32:=by simp [bkZ]
theorem eq_tx2 (a b:TxM) (w:World):(Op.equalIn 10000 170 (txv a) (txv b)).run Tryz.prog w=.ok (decide (a=b)) w:=by
 obtain ⟨a1,a2,a3,a4,a5,a6,a7⟩:=a
 obtain ⟨b1,b2,b3,b4,b5,b6,b7⟩:=b
 unfold txv
 go_simp
 simp only [sb_toList]
 (repeat' split) <;> simp_all
end Go.Proofs.YtpdnnmabijmfbaaGreatDoor
