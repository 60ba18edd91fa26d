/-
  BkPure BkBytes AtPure Fc Spec Bits Sched Turn Run Fill PutRun Of OfOne Cuts Tables RefFill: what each of them says stands at its head.
-/
import Derived.Test.YtpdnnmabijmfbaaGreatDoorBs3
import Derived.IntWalk
import Derived.Deep.RegionWith
import Derived.LaidMore
import Derived.Lib.LaidTab
import Derived.MakeChecks
import Derived.Stop.Joined
namespace Go.Proofs.YtpdnnmabijmfbaaGreatDoor
set_option maxRecDepth 20000
structure BkM where
 par:List UInt8
 vi:Int
 he:Int
 bo:Int
 txs:List TxM
def bkZ:BkM:=⟨List.replicate 32 0,0,0,0,[]⟩
noncomputable def sameK (a b:BkM):Bool:=@decide (a=b) (Classical.propDecidable _)
theorem sameK_self (a:BkM):sameK a a=true:=by unfold sameK;exact @decide_eq_true _ (Classical.propDecidable _) rfl
theorem sameK_iff {a b:BkM}:sameK a b=true ↔ a=b:=by unfold sameK;exact @decide_eq_true_iff _ (Classical.propDecidable _)
theorem sameK_no {a b:BkM} (h:a≠b):sameK a b=false:=by unfold sameK;exact @decide_eq_false _ (Classical.propDecidable _) h
def numsK (b:BkM):Bool:=decide (1≤b.vi) && decide (b.vi≤1099511627776) && decide (1≤b.he) && decide (b.he≤1099511627776) && decide (1≤b.bo) && decide (b.bo≤21) && decide (b.txs.length≤8)
noncomputable def mayK (b:BkM):Bool:=sameK b bkZ || (b.txs.all mayT && numsK b)
def bytesK (b:BkM):List UInt8:=
 b.par ++ (dg b.vi.toNat ++ (dg b.he.toNat ++ (dg b.bo.toNat ++ (dg b.txs.length ++ (b.txs.map bytesT).flatten))))
theorem mayK_of {b:BkM} (h:mayK b=true):b=bkZ∨(b.txs.all mayT=true∧1≤b.vi∧b.vi≤1099511627776∧1≤b.he∧b.he≤1099511627776∧1≤b.bo∧b.bo≤21∧b.txs.length≤8):=by
 unfold mayK numsK at h
 rw [Bool.or_eq_true] at h
 rcases h with h | h
 ·exact .inl (sameK_iff.1 h)
 ·right
  simp only [Bool.and_eq_true,decide_eq_true_eq] at h
  obtain ⟨h0,⟨⟨⟨⟨⟨h1,h2⟩,h3⟩,h4⟩,h5⟩,h6⟩,h7⟩:=h
  exact ⟨h0,h1,h2,h3,h4,h5,h6,h7⟩
theorem mayK_all {b:BkM} (h:mayK b=true):(∀ t ∈ b.txs,mayT t=true)∧0≤b.vi∧b.vi≤1099511627776∧0≤b.he∧b.he≤1099511627776∧0≤b.bo∧b.bo≤21∧b.txs.length≤8:=by
 rcases mayK_of h with rfl | ⟨h0,h⟩
 ·refine ⟨fun t ht=>absurd ht (by simp [bkZ]),?_⟩
  simp [bkZ]
 ·exact ⟨fun t ht=>List.all_eq_true.1 h0 t ht,by omega,by omega,by omega,by omega,by omega,by omega,h.2.2.2.2.2.2⟩
theorem rdHash_32 (l:List UInt8) (p:Nat) (r:Bool):(rdHash l p r).1.length=32:=by
 unfold rdHash
 split
 ·simp
 ·split
  ·simp;omega
  ·simp
theorem rdHash_so {L h:List UInt8} {p q:Nat} {r:Bool} (e:rdHash L p r=(h,q,true)):r=true∧h.length=32∧q=p + h.length∧∃ x,L.drop p=h ++ x:=by
 have h32:=rdHash_32 L p r
 rw [e] at h32
 simp only at h32
 unfold rdHash at e
 split at e
 ·cases e
 ·rename_i hr
  split at e
  ·cases e
   refine ⟨by simpa using hr,h32,by omega,L.drop (p + 32),?_⟩
   rw [← List.drop_drop,List.take_append_drop]
  ·cases e
end Go.Proofs.YtpdnnmabijmfbaaGreatDoor
namespace Go.Proofs.YtpdnnmabijmfbaaGreatDoor
set_option maxRecDepth 20000
open Go.RowKit
theorem byt_pair (w:World) (x y:Int) (c d:UInt8) (hx:x=(c.toNat:Int)) (hy:y=(d.toNat:Int)):Byt (w.alloc (.cells #[.int .u8 x,.int .u8 y] 5)) (.slice (some ⟨w.heap.size,0,none⟩) 2 2) [c,d]:=by
 subst hx hy
 refine ⟨_,2,rfl,Nat.le_refl _,by unfold maxLen;omega,fun _=>⟨w.heap.size,0,rfl,by simp,fun j hj=>?_⟩⟩
 rw [Nat.zero_add,cell_blk (heap_alloc_new w _) j]
 match j,hj with
 | 0,_=>rfl
 | 1,_=>rfl
set_option maxHeartbeats 1600000 in
theorem refBytes7_any (h:List UInt8) (w:World) (h32:h.length=32):
  Calls Tryz.prog 93 #[.agg (hcells h)] w fun e w'=>∃ x,e=.returned x∧Own w.heap.size w' x h∧Below w.heap.size w w':=by
 have hr0:=heap_alloc_new w (.cells (hcells h) 38)
 have hb0:Below w.heap.size w (w.alloc (.cells (hcells h) 38)):=(Below.refl _ _).alloc (Nat.le_refl _) _
 obtain ⟨C,HC⟩:∃ C:Array Value,Hid (hcells h=C):=⟨_,hid rfl⟩
 rw [HC.out] at hr0 hb0 ⊢
 go_enter Tryz.func93,Tryz.ntmps93
 go_upto_region 1 with (fail)
 generalize (w.alloc (.cells C 38))=w0 at *
 have hl0:=lt_of_block hr0
 have HR0:=hid hr0
 have hfo:=fresh0_own w0
 have hfb:Below w0.heap.size w0 (w0.alloc (.cells #[] 5)):=(Below.refl _ _).alloc (Nat.le_refl _) _
 have hs0:=hb0.size
 clear hr0
 go_wp2_with fail
 go_loopw [3,4] (fun out si wr=>∃ i:Nat,i≤32∧si=.int .i64 i∧Own w0.heap.size wr out (h.take i)∧Below w0.heap.size w0 wr) (fun _ si _=>32 - (intOf si).toNat)
 case atStart=>exact ⟨0,by omega,rfl,by rw [List.take_zero];exact hfo,hfb⟩
 case round=>
  obtain ⟨i,hi,rfl,hown,hB⟩:=hrel
  have hlen:(h.take i).length≤32:=by simp only [List.length_take];omega
  by_cases hlt2:i < 32
  ·have hih:i < h.length:=by omega
   have hc:wr.cell? ⟨w.heap.size,i,none⟩=some (bcell h[i]):=by
    have:=cell_blk ((hB.block _ hl0).trans HR0.out) i
    rw [this,← HC.out]
    exact hcells_get h i hih
   obtain ⟨x,hx0,hx1,HX⟩:∃ x:Int,0≤x∧x≤255∧Hid (x=(h[i].toNat:Int)):=⟨_,(byte_lt h[i]).1,(byte_lt h[i]).2,rfl⟩
   unfold bcell at hc
   rw [← HX.out] at hc
   have hi32:(i:Int) < 32:=by omega
   have hbs:=hB.size
   clear hfo hfb
   go_wp2_with (at_builtin;refine wpList_append_byt rfl (.tmp 10) (.tmp 14) rfl rfl rfl (hown.alloc _) (byt_one _ _ h[i] HX.out) (by rw [List.length_singleton];omega) (by simp;omega) ?_;intro v7 w7 hown7 hg7 _)
   have hnew:h.take i ++ [h[i]]=h.take (i + 1):=by rw [← List.take_succ_eq_append_getElem hih]
   rw [hnew] at hown7
   have hB7:Below w0.heap.size w0 w7:=(hB.alloc hbs _).grown hg7 (by simp;omega) (fun q hq=>(World.ownsRow.lt hown q hq).1)
   clear hnew hg7
   go_roundw
   case rel=>exact ⟨i + 1,by omega,by go_num,hown7,hB7⟩
   case measure=>simp [intOf];omega
  ·obtain rfl:i=32:=by omega
   go_wp2
   go_ret
   rw [List.take_of_length_le (by omega)] at hown
   exact ⟨_,rfl,hown.more (by omega),hb0.trans (hB.mono (by omega))⟩
end Go.Proofs.YtpdnnmabijmfbaaGreatDoor
namespace Go.Proofs.YtpdnnmabijmfbaaGreatDoor
set_option maxRecDepth 20000
structure AtM where
 bo:Int
 ki:Int
 vi:Int
 ph:Int
 ha:List UInt8
 pv:Int
 pa:List UInt8
 tg:List UInt8
 deriving DecidableEq
def z32:List UInt8:=List.replicate 32 0
def atZ:AtM:=⟨0,0,0,0,z32,0,z32,z32⟩
structure AtM.Ok (a:AtM):Prop where
 ha:a.ha.length=32
 pa:a.pa.length=32
 tg:a.tg.length=32
theorem atZ_ok:atZ.Ok:=⟨rfl,rfl,rfl⟩
def mayA (a:AtM):Bool:=
 if a.bo < 1∨21 < a.bo∨a.ki < 1∨3 < a.ki∨a.ph≠a.ki∨a.vi < 1∨1099511627776 < a.vi∨a.pv < 0 then false else decide (a.pv < a.vi) || (decide (a.ki=3) && decide (a.pv=a.vi))
theorem mayA_iff {a:AtM} (h:mayA a=true):1≤a.bo∧a.bo≤21∧1≤a.ki∧a.ki≤3∧a.ph=a.ki∧1≤a.vi∧a.vi≤1099511627776∧0≤a.pv∧a.pv≤a.vi:=by
 unfold mayA at h
 split at h
 ·cases h
 ·rename_i hn
  simp only [Bool.or_eq_true,Bool.and_eq_true,decide_eq_true_eq] at h
  omega
def taggedA (a:AtM):List UInt8:=dg a.ki.toNat ++ (dg a.vi.toNat ++ (dg a.ph.toNat ++ (a.ha ++ (dg a.pv.toNat ++ a.pa))))
theorem taggedA_len {a:AtM} (ho:a.Ok) (hm:mayA a=true):(taggedA a).length≤104:=by
 obtain ⟨h1,h2,h3,h4,h5,h6,h7,h8,h9⟩:=mayA_iff hm
 have e1:=dg_len10 (n:=a.ki.toNat) (by omega)
 have e2:=dg_len10 (n:=a.vi.toNat) (by omega)
 have e3:=dg_len10 (n:=a.ph.toNat) (by omega)
 have e4:=dg_len10 (n:=a.pv.toNat) (by omega)
 have:=ho.ha
 have:=ho.pa
 unfold taggedA
 simp only [List.length_append]
 omega
end Go.Proofs.YtpdnnmabijmfbaaGreatDoor
namespace Go.Proofs.YtpdnnmabijmfbaaGreatDoor
set_option maxRecDepth 20000
open Go.RowKit
def wv (x:UInt32):Int:=(x.toNat:Int)
def wc (x:UInt32):Value:=.int .u32 (wv x)
theorem wv_lt (x:UInt32):0≤wv x∧wv x≤4294967295:=by
 have:=x.toNat_lt
 unfold wv
 omega
def fcells (n:Nat) (f:Nat→Value):Array Value:=Array.ofFn (fun i:Fin n=>f i.val)
theorem fcells_size (n:Nat) (f:Nat→Value):(fcells n f).size=n:=by simp [fcells]
theorem fcells_get {n i:Nat} (f:Nat→Value) (h:i < n):(fcells n f)[i]?=some (f i):=by simp [fcells,h]
theorem fcells_out {n i:Nat} (f:Nat→Value) (h:¬ i < n):(fcells n f)[i]?=none:=by simp [fcells];omega
theorem fcells_congr {n:Nat} {f g:Nat→Value} (h:∀ i,i < n→f i=g i):fcells n f=fcells n g:=by
 apply Array.ext (by simp [fcells])
 intro i hi _
 simp [fcells] at hi ⊢
 exact h i hi
theorem fcells_set {n i:Nat} (f:Nat→Value) (v:Value) (h:i < n):(fcells n f).setIfInBounds i v=fcells n (fun j=>if j=i then v else f j):=by
 apply Array.ext_getElem?
 intro j
 by_cases hj:j < n
 ·rw [fcells_get _ hj,Array.getElem?_setIfInBounds]
  by_cases e:i=j
  ·subst e
   rw [if_pos rfl,if_pos (by rw [fcells_size];exact h),if_pos rfl]
  ·rw [if_neg e,fcells_get _ hj,if_neg (fun h=>e h.symm)]
 ·rw [fcells_out _ hj,Array.getElem?_setIfInBounds,if_neg (by omega),fcells_out _ hj]
theorem fcells_one {n:Nat} {f:Nat→Value} (h:∀ i,i < n→(f i).oneCell'=true):(fcells n f).all (·.oneCell')=true:=by
 rw [Array.all_eq_true_iff_forall_mem]
 intro v hv
 simp only [fcells,Array.mem_ofFn] at hv
 obtain ⟨i,rfl⟩:=hv
 exact h i i.2
theorem fcells_list (n:Nat) (f:Nat→Value) (i:Nat):(fcells n f).toList[i]?=if i < n then some (f i) else none:=by
 rw [Array.getElem?_toList]
 split
 ·exact fcells_get f ‹_›
 ·exact fcells_out f ‹_›
def Blk (w:World) (g n:Nat) (f:Nat→Value) (t:TypeId):Prop:=w.heap[g]?=some (.cells (fcells n f) t (0,0))
section
variable {w w':World} {g n:Nat} {f f':Nat→Value} {t:TypeId}
theorem Blk.lt (h:Blk w g n f t):g < w.heap.size:=lt_of_block h
theorem Blk.cell (h:Blk w g n f t) {i:Nat} (hi:i < n):w.cell? ⟨g,i,none⟩=some (f i):=(cell_of_row w g i _ t (0,0) h).trans (fcells_get f hi)
theorem Blk.free (h:Blk w g n f t) (i:Nat):w.frozen? ⟨g,i,none⟩=false:=frozen_of_row w g i _ t h
theorem Blk.congr (h:Blk w g n f t) (e:∀ i,i < n→f i=f' i):Blk w g n f' t:=by
 unfold Blk at h ⊢
 rw [h,fcells_congr e]
theorem Blk.set (h:Blk w g n f t) {i:Nat} (hi:i < n) (v:Value):Blk (w.setCell ⟨g,i,none⟩ v) g n (fun j=>if j=i then v else f j) t:=by
 unfold Blk
 rw [heap_setCell_same w g i _ t v h,fcells_set f v hi]
theorem Blk.apart (h:Blk w g n f t) {k:Nat} (i:Nat) (v:Value) (hk:g≠k):Blk (w.setCell ⟨k,i,none⟩ v) g n f t:=(heap_setCell_other w _ g v hk).trans h
theorem Blk.below {B:Nat} (h:Blk w g n f t) (hb:Below B w w') (hg:g < B):Blk w' g n f t:=(hb.block g hg).trans h
theorem Blk.keep (h:Blk w g n f t) (hb:Below w.heap.size w w'):Blk w' g n f t:=h.below hb h.lt
theorem Blk.grown (h:Blk w g n f t) {row:Option Nat} (hg:w.grownBy w' row) (hr:row≠some g):Blk w' g n f t:=(hg.block g h.lt (fun e=>hr e.symm)).trans h
theorem Blk.drew (h:Blk w g n f t):Blk w.drew g n f t:=h
theorem Blk.drewN (h:Blk w g n f t) (k:Nat):Blk (w.drewN k) g n f t:=h
theorem Blk.alloc (h:Blk w g n f t) (o:Obj):Blk (w.alloc o) g n f t:=(Below.heap_alloc w o g h.lt).trans h
theorem Blk.new (w:World) (n:Nat) (f:Nat→Value) (t:TypeId):Blk (w.alloc (.cells (fcells n f) t)) w.heap.size n f t:=heap_alloc_new w _
theorem Blk.range (h:Blk w g n f t) {o m:Nat} {f':Nat→Value} (ho:o + m≤n) (e:∀ j,j < m→f (o + j)=f' j):w.rangeAt g o (fcells m f').toList:=fun j v hv=>by
 rw [fcells_list] at hv
 split at hv
 ·rename_i hj
  injection hv with hv
  rw [h.cell (by omega),e j hj,hv]
 ·cases hv
theorem Blk.there (h:Blk w g n f t) {o m:Nat} (ho:o + m≤n):w.there g o m:=fun j hj=>⟨by rw [h.cell (by omega)];rfl,h.free _⟩
theorem setCells_blk:∀ (vs:List Value) (o:Nat) (w:World) (f:Nat→Value),Blk w g n f t→o + vs.length≤n→Blk (w.setCells g o vs) g n (fun j=>if o≤j∧j < o + vs.length then vs.getD (j - o) undef else f j) t
 | [],o,w,f,h,_=>h.congr fun i _=>by rw [if_neg (by simp)]
 | v :: r,o,w,f,h,ho=>by
  have hl:(v :: r).length=r.length + 1:=rfl
  refine (setCells_blk r (o + 1) _ _ (h.set (i:=o) (by omega) v) (by omega)).congr fun i _=>?_
  by_cases h1:o + 1≤i∧i < o + 1 + r.length
  ·rw [if_pos h1,if_pos (by omega),show i - o=(i - (o + 1)) + 1 from by omega]
   rfl
  ·rw [if_neg h1]
   by_cases h2:i=o
   ·subst h2
    rw [if_pos rfl,if_pos (by omega),Nat.sub_self]
    rfl
   ·rw [if_neg h2,if_neg (by omega)]
theorem setCells_size (g:Nat):∀ (vs:List Value) (o:Nat) (w:World),(w.setCells g o vs).heap.size=w.heap.size
 | [],_,_=>rfl
 | _ :: r,o,_=>(setCells_size g r (o + 1) _).trans (by simp [World.setCell])
theorem grown_setCell (w:World) (g i:Nat) (u:Value):w.grownBy (w.setCell ⟨g,i,none⟩ u) (some g):=
 ⟨rfl,rfl,rfl,by simp [World.setCell],fun k _ hk=>heap_setCell_other w _ k u (fun e=>hk (by rw [e]))⟩
theorem grown_setCells (g:Nat):∀ (vs:List Value) (o:Nat) (w:World),w.grownBy (w.setCells g o vs) (some g)
 | [],_,w=>World.grownBy.refl w _
 | v :: r,o,w=>(grown_setCell w g o v).trans (grown_setCells g r (o + 1) _)
theorem grown_below {w w':World} (h:Below w.heap.size w w') (row:Option Nat):w.grownBy w' row:=⟨h.os,h.tape,h.output,h.size,fun k hk _=>h.block k hk⟩
theorem grown_drewF {a b:World} {row:Option Nat} (h:a.grownBy b row) (n:Nat):a.grownBy (b.drewN n) row:=⟨h.os,h.tape,h.output,h.size,h.block⟩
theorem below_set {B:Nat} {a w:World} (hb:Below B a w) {g:Nat} (hg:B≤g) (i:Nat) (u:Value):Below B a (w.setCell ⟨g,i,none⟩ u):=hb.setCell hg u
theorem below_into {B:Nat} {a w w':World} (hb:Below B a w) {g:Nat} (hg:B≤g) (h:w.grownBy w' (some g)) (hs:B≤w.heap.size):Below B a w':=hb.grown h hs (fun k hk=>by injection hk;omega)
end
structure ArrT (T E:TypeId) (n:Nat) (z:Value):Prop where
 zero:(Tryz.prog.info? T).bind (·.zero)=some (.agg (fcells n fun _=>z))
 size:(Tryz.prog.info? T).map (·.size)=some n
 under:Tryz.prog.underlying T=some (.array n E)
 esize:(Tryz.prog.info? E).map (·.size)=some 1
 plain:Tryz.prog.plainKey E=true
 ecells:Tryz.prog.cellsOf E=1
 zone:z.oneCell'=true
theorem arrS:ArrT 242 85 8 (wc 0):=⟨by kernel_rfl,by kernel_rfl,by kernel_rfl,by kernel_rfl,by kernel_rfl,by kernel_rfl,rfl⟩
theorem arrW:ArrT 263 85 64 (wc 0):=⟨by kernel_rfl,by kernel_rfl,by kernel_rfl,by kernel_rfl,by kernel_rfl,by kernel_rfl,rfl⟩
theorem arrB:ArrT 228 5 64 (bcell 0):=⟨by kernel_rfl,by kernel_rfl,by kernel_rfl,by kernel_rfl,by kernel_rfl,by kernel_rfl,rfl⟩
theorem arrH:ArrT 38 5 32 (bcell 0):=⟨by kernel_rfl,by kernel_rfl,by kernel_rfl,by kernel_rfl,by kernel_rfl,by kernel_rfl,rfl⟩
section
variable {T E:TypeId} {n:Nat} {z:Value}
theorem ArrT.run_zero (H:ArrT T E n z) (w:World):(zeroValue T).run Tryz.prog w=.ok (.agg (fcells n fun _=>z)) w:=by
 have h:=H.zero
 cases hq:Tryz.prog.info? T with
 | none=>rw [hq] at h;cases h
 | some i=>
  rw [hq] at h
  have hz:i.zero=some (.agg (fcells n fun _=>z)):=h
  simp [zeroValue,typeInfo,hq,hz]
theorem ArrT.run_esize (H:ArrT T E n z) (w:World):(sizeOf E).run Tryz.prog w=.ok 1 w:=by
 have h:=H.esize
 cases hq:Tryz.prog.info? E with
 | none=>rw [hq] at h;cases h
 | some i=>
  rw [hq] at h
  have hz:i.size=1:=by simpa using h
  simp [sizeOf,typeInfo,hq,hz]
theorem wpList_alloc_arr (H:ArrT T E n z) {ops:Array Oper} {rest:List Oper} {o:Oper} {a:Act} {w:World} {Q:Exit→Act→World→Prop} (hgd:o.guard=none) (ho:o.op=.alloc T)
  (h:wpList Tryz.prog ops Q rest (a.put o.dst (.pointer (some ⟨w.heap.size,0,none⟩))) (w.alloc (.cells (fcells n fun _=>z) T))):wpList Tryz.prog ops Q (o :: rest) a w:=
 wpList_plain hgd fun _ hK=>by
  unfold Oper.wp execOp
  simp only [ho,Sem.run_bind,Instr.alloc,H.run_zero,newVar,newRow,run_newObj_alloc,Sem.run_pure,Result.andThen_ok,Value.cells]
  exact hK _ _ h
theorem wpList_zero_arr (H:ArrT T E n z) {ops:Array Oper} {rest:List Oper} {o:Oper} {a:Act} {w:World} {Q:Exit→Act→World→Prop} (hgd:o.guard=none) (ho:o.op=.build T #[])
  (h:wpList Tryz.prog ops Q rest (a.put o.dst (.agg (fcells n fun _=>z))) w):wpList Tryz.prog ops Q (o :: rest) a w:=
 wpList_plain hgd fun _ hK=>by
  have e:(Instr.build T #[]).run Tryz.prog w=.ok (.agg (fcells n fun _=>z)) w:=by
   simp [Instr.build,Sem.run_bind,H.run_zero,run_underlying H.under,H.run_esize,Instr.fill,Value.cells]
  unfold Oper.wp execOp
  simp only [ho,Sem.run_bind,List.map_toArray,List.map_nil,e,Sem.run_pure,Result.andThen_ok]
  exact hK _ _ h
theorem wpList_load_arr (H:ArrT T E n z) {ops:Array Oper} {rest:List Oper} {o:Oper} {a:Act} {w:World} {Q:Exit→Act→World→Prop} (hgd:o.guard=none) (x:Operand) (ho:o.op=.load T x)
  {g:Nat} {t:TypeId} {f:Nat→Value} (hx:a.eval x=.pointer (some ⟨g,0,none⟩)) (hg:Blk w g n f t)
  (hh:wpList Tryz.prog ops Q rest (a.put o.dst (.agg (fcells n f))) w):wpList Tryz.prog ops Q (o :: rest) a w:=
 wpList_load_row hgd _ x ho g hx t (fcells n f) (0,0) _ hg H.under rfl (by rw [H.size,fcells_size]) hh
theorem wpList_store_arr (H:ArrT T E n z) {ops:Array Oper} {rest:List Oper} {o:Oper} {a:Act} {w:World} {Q:Exit→Act→World→Prop} (hgd:o.guard=none) (x y:Operand) (ho:o.op=.store T x y)
  {g:Nat} {t:TypeId} {f f':Nat→Value} (hx:a.eval x=.pointer (some ⟨g,0,none⟩)) (hy:a.eval y=.agg (fcells n f')) (hg:Blk w g n f t) (h1:∀ i,i < n→(f' i).oneCell'=true)
  (hh:∀ w',w.grownBy w' (some g)→Blk w' g n f' t→w'.heap.size=w.heap.size→wpList Tryz.prog ops Q rest (a.put o.dst undef) w'):wpList Tryz.prog ops Q (o :: rest) a w:=
 wpList_store_row hgd _ x y ho g (fcells n f') hx hy t (fcells n f) hg (by rw [H.size,fcells_size]) (by rw [fcells_size,fcells_size]) (fcells_one h1)
  (hh _ ⟨rfl,rfl,rfl,by simp,fun k _ hk=>setRow_other w g k _ (fun e=>hk (by simp [e]))⟩ (setRow_heap w g _ _ t _ hg) (by simp))
theorem ArrT.load_mid (H:ArrT T E n z) {w:World} {g N o:Nat} {f f':Nat→Value} {t:TypeId} (hg:Blk w g N f t) (ho:o + n≤N) (e:∀ j,j < n→f (o + j)=f' j):
  (Instr.loadAt T (.pointer (some ⟨g,o,none⟩))).run Tryz.prog w=.ok (.agg (fcells n f')) w:=by
 have:=run_loadAt_mid (P:=Tryz.prog) w g o T (fcells n f').toList _ (hg.range ho e) H.under rfl (by rw [H.size,Array.length_toList,fcells_size])
 rw [Array.toArray_toList] at this
 exact this
theorem ArrT.store_mid (H:ArrT T E n z) {w:World} {g N o:Nat} {f f':Nat→Value} {t:TypeId} (hg:Blk w g N f t) (ho:o + n≤N) (h1:∀ i,i < n→(f' i).oneCell'=true):
  ∃ w',(Instr.storeAt T (.pointer (some ⟨g,o,none⟩)) (.agg (fcells n f'))).run Tryz.prog w=.ok () w'∧w.grownBy w' (some g)∧Blk w' g N (fun j=>if o≤j∧j < o + n then f' (j - o) else f j) t∧w'.heap.size=w.heap.size:=by
 refine ⟨_,run_storeAt_mid (P:=Tryz.prog) w g o T (fcells n f') (hg.there (by rw [fcells_size];exact ho)) (by rw [H.size,fcells_size]) (fcells_one h1),grown_setCells g _ _ _,?_,setCells_size g _ _ _⟩
 have hl:(fcells n f').toList.length=n:=by rw [Array.length_toList,fcells_size]
 refine (setCells_blk _ _ _ _ hg (by rw [hl];exact ho)).congr fun i _=>?_
 rw [hl]
 by_cases h:o≤i∧i < o + n
 ·rw [if_pos h,if_pos h,List.getD_eq_getElem?_getD,fcells_list,if_pos (by omega)]
  rfl
 ·rw [if_neg h,if_neg h]
theorem ArrT.run_index (H:ArrT T E n z) (f:Nat→Value) {i:Nat} (hi:i < n) (w:World):(Instr.index T (.agg (fcells n f)) (.int .i64 (i:Int))).run Tryz.prog w=.ok (f i) w:=by
 have h:=run_part_plain (P:=Tryz.prog) w H.plain (fcells_get f hi)
 simp [Instr.index,asIntOf,Sem.run_bind,run_underlying H.under,H.run_esize,h,hi]
theorem ArrT.eq_self (H:ArrT T E n z) {k:IntKind} (hu:Tryz.prog.underlying E=some (.int k)) {f:Nat→Value} {a:Nat→Int} (hf:∀ i,i < n→f i=.int k (a i)) (w:World):
  (Op.equalIn 10000 T (.agg (fcells n f)) (.agg (fcells n f))).run Tryz.prog w=.ok true w:=by
 have hs:=H.esize
 cases hi:Tryz.prog.info? E with
 | none=>rw [hi] at hs;cases hs
 | some i0=>
  rw [run_equalIn_array w 9999 _ _ H.under hi,H.ecells]
  have all:∀ is:List Nat,(∀ i ∈ is,i < n)→(Op.eqItems 9999 E 1 (fcells n f) (fcells n f) is).run Tryz.prog w=.ok true w:=by
   intro is
   induction is with
   | nil=>intro _;simp [Op.eqItems]
   | cons i is ih=>
    intro h
    have hin:=h i (by simp)
    have ih':=ih (fun j hj=>h j (List.mem_cons_of_mem _ hj))
    have pa:=run_part_plain (P:=Tryz.prog) w H.plain (fcells_get f hin)
    rw [hf i hin] at pa
    have pe:=run_equalIn_int (P:=Tryz.prog) w 9998 E k k (a i) (a i) hu
    simp only [Op.eqItems,Sem.run_bind,Nat.mul_one,pa,pe,Result.andThen_ok]
    simp [ih']
  exact all _ (fun i h=>List.mem_range.1 h)
end
theorem ArrT.result {T E:TypeId} {n:Nat} {z:Value} (H:ArrT T E n z) {fn:Func} {p:Tmp} (h:fn.results=#[.cell p T]) (tmps:Array Value) (w:World) {g:Nat} {t:TypeId} {f:Nat→Value}
  (hp:tmps.getD p undef=.pointer (some ⟨g,0,none⟩)) (hg:Blk w g n f t):(results fn tmps).run Tryz.prog w=.ok (.agg (fcells n f)) w:=
 results_cell_row h tmps w g t (fcells n f) (0,0) _ hp hg H.under rfl (by rw [H.size,fcells_size])
end Go.Proofs.YtpdnnmabijmfbaaGreatDoor
namespace Go.Proofs.YtpdnnmabijmfbaaGreatDoor
set_option maxRecDepth 20000
def rr (x:UInt32) (n:Nat):UInt32:=UInt32.ofNat (x.toNat / 2 ^ n + x.toNat % 2 ^ n * 2 ^ (32 - n))
def sr (x:UInt32) (n:Nat):UInt32:=UInt32.ofNat (x.toNat / 2 ^ n)
def sm0 (x:UInt32):UInt32:=rr x 7 ^^^ rr x 18 ^^^ sr x 3
def sm1 (x:UInt32):UInt32:=rr x 17 ^^^ rr x 19 ^^^ sr x 10
def bg0 (x:UInt32):UInt32:=rr x 2 ^^^ rr x 13 ^^^ rr x 22
def bg1 (x:UInt32):UInt32:=rr x 6 ^^^ rr x 11 ^^^ rr x 25
def chc (x y z:UInt32):UInt32:=(x &&& y) ||| (~~~x &&& z)
def maj (x y z:UInt32):UInt32:=(x &&& y) ||| (x &&& z) ||| (y &&& z)
def kl:List UInt32:=[
 0x428a2f98,0x71374491,0xb5c0fbcf,0xe9b5dba5,0x3956c25b,0x59f111f1,0x923f82a4,0xab1c5ed5,
 0xd807aa98,0x12835b01,0x243185be,0x550c7dc3,0x72be5d74,0x80deb1fe,0x9bdc06a7,0xc19bf174,
 0xe49b69c1,0xefbe4786,0x0fc19dc6,0x240ca1cc,0x2de92c6f,0x4a7484aa,0x5cb0a9dc,0x76f988da,
 0x983e5152,0xa831c66d,0xb00327c8,0xbf597fc7,0xc6e00bf3,0xd5a79147,0x06ca6351,0x14292967,
 0x27b70a85,0x2e1b2138,0x4d2c6dfc,0x53380d13,0x650a7354,0x766a0abb,0x81c2c92e,0x92722c85,
 0xa2bfe8a1,0xa81a664b,0xc24b8b70,0xc76c51a3,0xd192e819,0xd6990624,0xf40e3585,0x106aa070,
 0x19a4c116,0x1e376c08,0x2748774c,0x34b0bcb5,0x391c0cb3,0x4ed8aa4a,0x5b9cca4f,0x682e6ff3,
 0x748f82ee,0x78a5636f,0x84c87814,0x8cc70208,0x90befffa,0xa4506ceb,0xbef9a3f7,0xc67178f2]
def kc (i:Nat):UInt32:=kl.getD i 0
def four (a b c d:UInt8):UInt32:=UInt32.ofNat (a.toNat * 16777216 + b.toNat * 65536 + c.toNat * 256 + d.toNat)
def wordB (b:Nat→UInt8) (i:Nat):UInt32:=four (b (4 * i)) (b (4 * i + 1)) (b (4 * i + 2)) (b (4 * i + 3))
def sched (b:Nat→UInt8):Nat→List UInt32
 | 0=>[]
 | n + 1=>sched b n ++ [if n < 16 then wordB b n else sm1 ((sched b n).getD (n - 2) 0) + (sched b n).getD (n - 7) 0 + sm0 ((sched b n).getD (n - 15) 0) + (sched b n).getD (n - 16) 0]
def wd (b:Nat→UInt8) (i:Nat):UInt32:=(sched b 64).getD i 0
theorem sched_length (b:Nat→UInt8):∀ n,(sched b n).length=n
 | 0=>rfl
 | n + 1=>by simp [sched,sched_length b n]
theorem sched_pre (b:Nat→UInt8) (i:Nat):∀ n,i < n→(sched b n).getD i 0=(sched b (i + 1)).getD i 0
 | 0,h=>absurd h (by omega)
 | n + 1,h=>by
  by_cases e:i=n
  ·subst e;rfl
  ·have hi:i < n:=by omega
   rw [← sched_pre b i n hi]
   have hl:=sched_length b n
   simp only [sched,List.getD_eq_getElem?_getD]
   rw [List.getElem?_append_left (by omega)]
theorem sched_at (b:Nat→UInt8) {i n:Nat} (h:i < n) (h2:n≤64):(sched b n).getD i 0=wd b i:=by
 unfold wd
 rw [sched_pre b i n h,sched_pre b i 64 (by omega)]
theorem wd_at (b:Nat→UInt8) {i:Nat} (h:i < 64):wd b i=if i < 16 then wordB b i else sm1 ((sched b i).getD (i - 2) 0) + (sched b i).getD (i - 7) 0 + sm0 ((sched b i).getD (i - 15) 0) + (sched b i).getD (i - 16) 0:=by
 have e:=sched_length b i
 unfold wd
 rw [sched_pre b i 64 h]
 simp only [sched,List.getD_eq_getElem?_getD]
 rw [List.getElem?_append_right (by omega),e,Nat.sub_self]
 rfl
theorem wd_low (b:Nat→UInt8) {i:Nat} (h:i < 16):wd b i=wordB b i:=by rw [wd_at b (by omega),if_pos h]
theorem wd_high (b:Nat→UInt8) {i:Nat} (h:16≤i) (h2:i < 64):wd b i=sm1 (wd b (i - 2)) + wd b (i - 7) + sm0 (wd b (i - 15)) + wd b (i - 16):=by
 rw [wd_at b h2,if_neg (by omega),sched_at b (by omega) (by omega),sched_at b (by omega) (by omega),sched_at b (by omega) (by omega),sched_at b (by omega) (by omega)]
theorem wd_congr {b b':Nat→UInt8} (h:∀ j,j < 64→b j=b' j):∀ i,i < 64→wd b i=wd b' i:=by
 intro i
 induction i using Nat.strongRecOn with
 | _ i ih=>
  intro hi
  by_cases h16:i < 16
  ·rw [wd_low b h16,wd_low b' h16]
   unfold wordB
   rw [h _ (by omega),h _ (by omega),h _ (by omega),h _ (by omega)]
  ·rw [wd_high b (by omega) hi,wd_high b' (by omega) hi,ih _ (by omega) (by omega),ih _ (by omega) (by omega),ih _ (by omega) (by omega),ih _ (by omega) (by omega)]
structure St where
 a:UInt32
 b:UInt32
 c:UInt32
 d:UInt32
 e:UInt32
 f:UInt32
 g:UInt32
 h:UInt32
def St.at_ (v:St) (i:Nat):UInt32:=[v.a,v.b,v.c,v.d,v.e,v.f,v.g,v.h].getD i 0
def St.of (s:Nat→UInt32):St:=⟨s 0,s 1,s 2,s 3,s 4,s 5,s 6,s 7⟩
def rnd (k w:UInt32) (v:St):St:=
 ⟨v.h + bg1 v.e + chc v.e v.f v.g + k + w + (bg0 v.a + maj v.a v.b v.c),v.a,v.b,v.c,v.d + (v.h + bg1 v.e + chc v.e v.f v.g + k + w),v.e,v.f,v.g⟩
def rnds (w:Nat→UInt32):Nat→St→St
 | 0,v=>v
 | n + 1,v=>rnd (kc n) (w n) (rnds w n v)
def turnS (s:Nat→UInt32) (b:Nat→UInt8) (i:Nat):UInt32:=s i + (rnds (wd b) 64 (St.of s)).at_ i
theorem rnds_congr {w w':Nat→UInt32} {v:St}:∀ n,(∀ i,i < n→w i=w' i)→rnds w n v=rnds w' n v
 | 0,_=>rfl
 | n + 1,h=>by
  unfold rnds
  rw [h n (by omega),rnds_congr n (fun i hi=>h i (by omega))]
theorem turnS_congr {s s':Nat→UInt32} {b b':Nat→UInt8} (hs:∀ i,i < 8→s i=s' i) (hb:∀ j,j < 64→b j=b' j) (i:Nat) (hi:i < 8):turnS s b i=turnS s' b' i:=by
 have e:St.of s=St.of s':=by
  unfold St.of
  rw [hs 0 (by omega),hs 1 (by omega),hs 2 (by omega),hs 3 (by omega),hs 4 (by omega),hs 5 (by omega),hs 6 (by omega),hs 7 (by omega)]
 unfold turnS
 rw [e,hs i hi,rnds_congr 64 (wd_congr hb)]
def sl:List UInt32:=[0x6a09e667,0xbb67ae85,0x3c6ef372,0xa54ff53a,0x510e527f,0x9b05688c,0x1f83d9ab,0x5be0cd19]
def start (i:Nat):UInt32:=sl.getD i 0
def absb (l:List UInt8):Nat→Nat→UInt32
 | 0=>start
 | n + 1=>turnS (absb l n) (fun j=>l.getD (64 * n + j) 0)
theorem absb_congr {l m:List UInt8}:∀ n,(∀ j,j < 64 * n→l.getD j 0=m.getD j 0)→∀ i,i < 8→absb l n i=absb m n i
 | 0,_,_,_=>rfl
 | n + 1,h,i,hi=>turnS_congr (absb_congr n fun j hj=>h j (by omega)) (fun j hj=>h _ (by omega)) i hi
theorem getD_left {l m:List UInt8} {j:Nat} (h:j < l.length):(l ++ m).getD j 0=l.getD j 0:=by
 simp only [List.getD_eq_getElem?_getD]
 rw [List.getElem?_append_left h]
theorem getD_right {l m:List UInt8} {j:Nat}:(l ++ m).getD (l.length + j) 0=m.getD j 0:=by
 simp only [List.getD_eq_getElem?_getD]
 rw [List.getElem?_append_right (by omega),Nat.add_sub_cancel_left]
theorem absb_left {l m:List UInt8} {n:Nat} (h:64 * n≤l.length) (i:Nat) (hi:i < 8):absb (l ++ m) n i=absb l n i:=
 absb_congr n (fun _ hj=>getD_left (by omega)) i hi
def be8 (m:Nat):Nat→List UInt8
 | 0=>[]
 | k + 1=>be8 m k ++ [UInt8.ofNat (m / 2 ^ (56 - 8 * k))]
theorem be8_length (m:Nat):∀ k,(be8 m k).length=k
 | 0=>rfl
 | k + 1=>by simp [be8,be8_length m k]
def noughts (n:Nat):Nat:=(64 - (n + 9) % 64) % 64
def tailS (n:Nat):List UInt8:=128 :: List.replicate (noughts n) 0 ++ be8 (n * 8) 8
def fillS (l:List UInt8):List UInt8:=l ++ tailS l.length
theorem tailS_length (n:Nat):(tailS n).length=noughts n + 9:=by
 simp [tailS,be8_length]
theorem noughts_le (n:Nat):noughts n≤63:=by unfold noughts;omega
theorem noughts_mod (n:Nat):(n + (noughts n + 9)) % 64=0:=by unfold noughts;omega
theorem fillS_length (l:List UInt8):(fillS l).length=l.length + (noughts l.length + 9):=by simp [fillS,tailS_length]
theorem fillS_mod (l:List UInt8):(fillS l).length % 64=0:=by rw [fillS_length];exact noughts_mod _
def byteOf (x:UInt32) (j:Nat):UInt8:=UInt8.ofNat (x.toNat / 2 ^ (24 - 8 * j))
def sumS (l:List UInt8) (i:Nat):UInt8:=byteOf (absb (fillS l) ((fillS l).length / 64) (i / 4)) (i % 4)
end Go.Proofs.YtpdnnmabijmfbaaGreatDoor
namespace Go.Proofs.YtpdnnmabijmfbaaGreatDoor
set_option maxRecDepth 20000
open Go.RowKit
theorem rot_and (n:Nat) (h0:1≤n) (h1:n≤31):bits BinOp.and IntKind.u64 (IntKind.u64.wrap (-(n:Int))) 31=((32 - n:Nat):Int):=by
 have e:IntKind.u64.wrap (-(n:Int))=((18446744073709551616 - n:Nat):Int):=by
  simp [IntKind.wrap,IntKind.signed,IntKind.bits]
  omega
 rw [e,show (31:Int)=((31:Nat):Int) from rfl,u64_and_nat _ _ (by omega) (by omega),nat_mask5]
 congr 1
 omega
theorem ret_u32 {a b:Int} (h:a=b):Ending.returned (.int .u32 a)=Ending.returned (.int .u32 b):=by rw [h]
theorem wv_and (x y:UInt32):bits BinOp.and IntKind.u32 (wv x) (wv y)=wv (x &&& y):=by
 have:=x.toNat_lt
 have:=y.toNat_lt
 unfold wv
 rw [u32_and_nat _ _ (by omega) (by omega),UInt32.toNat_and]
theorem wv_or (x y:UInt32):bits BinOp.or IntKind.u32 (wv x) (wv y)=wv (x ||| y):=by
 have:=x.toNat_lt
 have:=y.toNat_lt
 unfold wv
 rw [u32_or_nat _ _ (by omega) (by omega),UInt32.toNat_or]
theorem wv_xor (x y:UInt32):bits BinOp.xor IntKind.u32 (wv x) (wv y)=wv (x ^^^ y):=by
 have:=x.toNat_lt
 have:=y.toNat_lt
 unfold wv
 rw [u32_xor_nat _ _ (by omega) (by omega),UInt32.toNat_xor]
theorem wv_add (x y:UInt32):(wv x + wv y) % 4294967296=wv (x + y):=by
 unfold wv
 rw [UInt32.toNat_add]
 omega
theorem wv_not (x:UInt32):4294967295 - wv x=wv (~~~x):=by
 have:=x.toNat_lt
 have e:UInt32.size=4294967296:=rfl
 unfold wv
 rw [UInt32.toNat_not,e]
 omega
theorem wv_max (x:UInt32):bits BinOp.xor IntKind.u32 IntKind.u32.max (wv x)=wv (~~~x):=by
 have e:IntKind.u32.max=wv 4294967295:=rfl
 rw [e,wv_xor]
 congr 1
theorem wv_of (n:Nat) (h:n < 4294967296):wv (UInt32.ofNat n)=(n:Int):=by
 unfold wv
 rw [UInt32.toNat_ofNat',Nat.mod_eq_of_lt h]
theorem wv_sr (x:UInt32) (n:Nat):wv x / 2 ^ n=wv (sr x n):=by
 have:=x.toNat_lt
 have h:=Nat.div_le_self x.toNat (2 ^ n)
 unfold sr
 rw [wv_of _ (by omega)]
 unfold wv
 simp
theorem rr_lt (x:UInt32) (n:Nat) (h0:1≤n) (h1:n≤31):x.toNat / 2 ^ n + x.toNat % 2 ^ n * 2 ^ (32 - n) < 4294967296∧x.toNat / 2 ^ n < 2 ^ (32 - n):=by
 have hx:=x.toNat_lt
 have e:(2:Nat) ^ n * 2 ^ (32 - n)=4294967296:=by rw [← Nat.pow_add,show n + (32 - n)=32 from by omega]
 have hq:x.toNat / 2 ^ n < 2 ^ (32 - n):=(Nat.div_lt_iff_lt_mul (Nat.pow_pos (by omega))).2 (by rw [Nat.mul_comm,e];omega)
 have hr:=Nat.mod_lt x.toNat (Nat.pow_pos (n:=n) (show 0 < 2 by omega))
 refine ⟨?_,hq⟩
 generalize x.toNat / 2 ^ n=q at *
 generalize x.toNat % 2 ^ n=r at *
 generalize (2:Nat) ^ n=A at *
 generalize (2:Nat) ^ (32 - n)=B at *
 have:(r + 1) * B≤A * B:=Nat.mul_le_mul_right _ hr
 rw [Nat.add_mul] at this
 omega
theorem rot_eq (x:UInt32) (n:Nat) (h0:1≤n) (h1:n≤31):bits BinOp.or IntKind.u32 (wv x * 2 ^ (32 - n) % 4294967296) (wv x / 2 ^ (32 - (32 - n)))=wv (rr x n):=by
 obtain ⟨hlt,hq⟩:=rr_lt x n h0 h1
 unfold rr
 rw [wv_of _ hlt,show 32 - (32 - n)=n from by omega]
 unfold wv
 have e:(2:Nat) ^ n * 2 ^ (32 - n)=4294967296:=by rw [← Nat.pow_add,show n + (32 - n)=32 from by omega]
 have hm:x.toNat * 2 ^ (32 - n) % 4294967296=x.toNat % 2 ^ n * 2 ^ (32 - n):=by
  rw [← e,Nat.mul_mod_mul_right]
 have e1:(x.toNat:Int) * 2 ^ (32 - n) % 4294967296=((x.toNat % 2 ^ n * 2 ^ (32 - n):Nat):Int):=by
  rw [← hm]
  simp
 have e2:(x.toNat:Int) / 2 ^ n=((x.toNat / 2 ^ n:Nat):Int):=by simp
 rw [e1,e2,u32_or_nat _ _ (by omega) (by omega),nat_join (32 - n) _ _ (Nat.mul_mod_left _ _) hq,Nat.add_comm]
set_option maxHeartbeats 800000 in
theorem rotl_any (x:UInt32) (n:Nat) (h0:1≤n) (h1:n≤31) (w:World):Calls Tryz.prog 237 #[wc x,.int .i64 (-(n:Int))] w fun e w'=>e=.returned (wc (rr x n))∧w=w':=by
 have HS:=rot_and n h0 h1
 obtain ⟨b0,b1⟩:=wv_lt x
 unfold wc
 go_enter Tryz.func237,Tryz.ntmps237
 go_wp2
 go_ret
 exact ⟨ret_u32 (rot_eq x n h0 h1),rfl⟩
theorem right_any (x:UInt32) (n:Nat) (h0:1≤n) (h1:n≤31) (w:World):Calls Tryz.prog 236 #[wc x,.int .i64 (n:Int)] w fun e w'=>e=.returned (wc (rr x n))∧w=w':=by
 have C:=rotl_any x n h0 h1 w
 unfold wc at C ⊢
 go_enter Tryz.func236,Tryz.ntmps236
 go_wp2_with fail
 refine C.mono ?_
 rintro e w' ⟨rfl,rfl⟩
 go_wp2_with fail
 go_ret
 exact ⟨rfl,rfl⟩
theorem sm0_any (x:UInt32) (w:World):Calls Tryz.prog 235 #[wc x] w fun e w'=>e=.returned (wc (sm0 x))∧w=w':=by
 have C1:=right_any x 7 (by omega) (by omega) w
 have C2:=right_any x 18 (by omega) (by omega) w
 obtain ⟨b0,b1⟩:=wv_lt x
 unfold wc at C1 C2 ⊢
 go_enter Tryz.func235,Tryz.ntmps235
 go_wp2_with fail
 refine C1.mono ?_
 rintro e w' ⟨rfl,rfl⟩
 go_wp2_with fail
 refine C2.mono ?_
 rintro e w' ⟨rfl,rfl⟩
 go_wp2_with fail
 go_ret
 refine ⟨ret_u32 ?_,rfl⟩
 rw [wv_xor,show wv x / 8=wv (sr x 3) from wv_sr x 3,wv_xor]
 rfl
theorem sm1_any (x:UInt32) (w:World):Calls Tryz.prog 234 #[wc x] w fun e w'=>e=.returned (wc (sm1 x))∧w=w':=by
 have C1:=right_any x 17 (by omega) (by omega) w
 have C2:=right_any x 19 (by omega) (by omega) w
 obtain ⟨b0,b1⟩:=wv_lt x
 unfold wc at C1 C2 ⊢
 go_enter Tryz.func234,Tryz.ntmps234
 go_wp2_with fail
 refine C1.mono ?_
 rintro e w' ⟨rfl,rfl⟩
 go_wp2_with fail
 refine C2.mono ?_
 rintro e w' ⟨rfl,rfl⟩
 go_wp2_with fail
 go_ret
 refine ⟨ret_u32 ?_,rfl⟩
 rw [wv_xor,show wv x / 1024=wv (sr x 10) from wv_sr x 10,wv_xor]
 rfl
theorem bg0_any (x:UInt32) (w:World):Calls Tryz.prog 229 #[wc x] w fun e w'=>e=.returned (wc (bg0 x))∧w=w':=by
 have C1:=right_any x 2 (by omega) (by omega) w
 have C2:=right_any x 13 (by omega) (by omega) w
 have C3:=right_any x 22 (by omega) (by omega) w
 unfold wc at C1 C2 C3 ⊢
 go_enter Tryz.func229,Tryz.ntmps229
 go_wp2_with fail
 refine C1.mono ?_
 rintro e w' ⟨rfl,rfl⟩
 go_wp2_with fail
 refine C2.mono ?_
 rintro e w' ⟨rfl,rfl⟩
 go_wp2_with fail
 refine C3.mono ?_
 rintro e w' ⟨rfl,rfl⟩
 go_wp2_with fail
 go_ret
 refine ⟨ret_u32 ?_,rfl⟩
 rw [wv_xor,wv_xor]
 rfl
theorem bg1_any (x:UInt32) (w:World):Calls Tryz.prog 227 #[wc x] w fun e w'=>e=.returned (wc (bg1 x))∧w=w':=by
 have C1:=right_any x 6 (by omega) (by omega) w
 have C2:=right_any x 11 (by omega) (by omega) w
 have C3:=right_any x 25 (by omega) (by omega) w
 unfold wc at C1 C2 C3 ⊢
 go_enter Tryz.func227,Tryz.ntmps227
 go_wp2_with fail
 refine C1.mono ?_
 rintro e w' ⟨rfl,rfl⟩
 go_wp2_with fail
 refine C2.mono ?_
 rintro e w' ⟨rfl,rfl⟩
 go_wp2_with fail
 refine C3.mono ?_
 rintro e w' ⟨rfl,rfl⟩
 go_wp2_with fail
 go_ret
 refine ⟨ret_u32 ?_,rfl⟩
 rw [wv_xor,wv_xor]
 rfl
theorem chc_any (x y z:UInt32) (w:World):Calls Tryz.prog 228 #[wc x,wc y,wc z] w fun e w'=>e=.returned (wc (chc x y z))∧w=w':=by
 obtain ⟨b0,b1⟩:=wv_lt x
 unfold wc
 go_enter Tryz.func228,Tryz.ntmps228
 go_wp2
 go_ret
 refine ⟨ret_u32 ?_,rfl⟩
 rw [wv_max,wv_and,wv_and,wv_or]
 rfl
theorem maj_any (x y z:UInt32) (w:World):Calls Tryz.prog 230 #[wc x,wc y,wc z] w fun e w'=>e=.returned (wc (maj x y z))∧w=w':=by
 unfold wc
 go_enter Tryz.func230,Tryz.ntmps230
 go_wp2
 go_ret
 refine ⟨ret_u32 ?_,rfl⟩
 rw [wv_and,wv_and,wv_and,wv_or,wv_or]
 rfl
end Go.Proofs.YtpdnnmabijmfbaaGreatDoor
namespace Go.Proofs.YtpdnnmabijmfbaaGreatDoor
set_option maxRecDepth 20000
open Go.RowKit
def part (W:Nat→UInt32) (i j:Nat):Value:=if j < i then wc (W j) else wc 0
theorem part_set (W:Nat→UInt32) (i j:Nat):(if j=i then wc (W i) else part W i j)=part W (i + 1) j:=by
 unfold part
 by_cases h:j=i
 ·subst h
  rw [if_pos rfl,if_pos (by omega)]
 ·rw [if_neg h]
  by_cases h2:j < i
  ·rw [if_pos h2,if_pos (by omega)]
  ·rw [if_neg h2,if_neg (by omega)]
theorem u32_wrap (n:Nat) (h:n < 4294967296):IntKind.u32.wrap (n:Int)=(n:Int):=by
 rw [IntKind.wrap_u32']
 omega
theorem four_or (a b c d:UInt8):bits BinOp.or IntKind.u32 (bits BinOp.or IntKind.u32 (bits BinOp.or IntKind.u32 (IntKind.u32.wrap (IntKind.u32.wrap (a.toNat:Int) * 16777216)) (IntKind.u32.wrap (IntKind.u32.wrap (b.toNat:Int) * 65536))) (IntKind.u32.wrap (IntKind.u32.wrap (c.toNat:Int) * 256))) (IntKind.u32.wrap (d.toNat:Int))=wv (four a b c d):=by
 have ha:=a.toNat_lt
 have hb:=b.toNat_lt
 have hc:=c.toNat_lt
 have hd:=d.toNat_lt
 unfold four
 generalize a.toNat=A at *
 generalize b.toNat=B at *
 generalize c.toNat=C at *
 generalize d.toNat=D at *
 have e1:IntKind.u32.wrap (IntKind.u32.wrap (A:Int) * 16777216)=((A * 16777216:Nat):Int):=by rw [u32_wrap A (by omega),show (A:Int) * 16777216=((A * 16777216:Nat):Int) by omega,u32_wrap _ (by omega)]
 have e2:IntKind.u32.wrap (IntKind.u32.wrap (B:Int) * 65536)=((B * 65536:Nat):Int):=by rw [u32_wrap B (by omega),show (B:Int) * 65536=((B * 65536:Nat):Int) by omega,u32_wrap _ (by omega)]
 have e3:IntKind.u32.wrap (IntKind.u32.wrap (C:Int) * 256)=((C * 256:Nat):Int):=by rw [u32_wrap C (by omega),show (C:Int) * 256=((C * 256:Nat):Int) by omega,u32_wrap _ (by omega)]
 rw [e1,e2,e3,u32_wrap D (by omega),wv_of _ (by omega)]
 rw [u32_or_nat _ _ (by omega) (by omega),nat_join 24 _ _ (by omega) (by omega),u32_or_nat _ _ (by omega) (by omega),nat_join 16 _ _ (by omega) (by omega),u32_or_nat _ _ (by omega) (by omega),nat_join 8 _ _ (by omega) (by omega)]
theorem wv_sum4 (a b c d:UInt32):(wv a + wv b + wv c + wv d) % 4294967296=wv (a + b + c + d):=by
 rw [← wv_add (a + b + c) d,← wv_add (a + b) c,← wv_add a b]
 omega
theorem sm1_still (x:UInt32) (w:World):Calls Tryz.prog 234 #[.int .u32 (wv x)] w fun e w'=>e=.returned (.int .u32 (wv (sm1 x)))∧w'=w:=(sm1_any x w).mono fun _ _ ⟨h,h2⟩=>⟨h,h2.symm⟩
theorem sm0_still (x:UInt32) (w:World):Calls Tryz.prog 235 #[.int .u32 (wv x)] w fun e w'=>e=.returned (.int .u32 (wv (sm0 x)))∧w'=w:=(sm0_any x w).mono fun _ _ ⟨h,h2⟩=>⟨h,h2.symm⟩
set_option maxHeartbeats 1600000 in
theorem words_any (b:Nat→UInt8) (g:Nat) (t:TypeId) (w:World) (hg:Blk w g 64 (fun j=>bcell (b j)) t):
  Calls Tryz.prog 226 #[.pointer (some ⟨g,0,none⟩)] w fun e w'=>e=.returned (.agg (fcells 64 fun j=>wc (wd b j)))∧Below w.heap.size w w':=by
 have hlt:=hg.lt
 go_enter Tryz.func226,Tryz.ntmps226
 go_wp2_with (refine wpList_alloc_arr arrW rfl rfl ?_)
 have hG2:Blk ((w.alloc (.cells (fcells 64 fun _=>wc 0) 263)).alloc (.cells (fcells 64 fun _=>wc 0) 263)) w.heap.size 64 (fun _=>wc 0) 263:=(Blk.new w 64 (fun _=>wc 0) 263).alloc _
 have hG3:Blk ((w.alloc (.cells (fcells 64 fun _=>wc 0) 263)).alloc (.cells (fcells 64 fun _=>wc 0) 263)) (w.heap.size + 1) 64 (fun _=>wc 0) 263:=heap_alloc2_new w _ _
 have hbw0:Below w.heap.size w ((w.alloc (.cells (fcells 64 fun _=>wc 0) 263)).alloc (.cells (fcells 64 fun _=>wc 0) 263)):=((Below.refl _ _).alloc (Nat.le_refl _) _).alloc (by simp) _
 generalize ((w.alloc (.cells (fcells 64 fun _=>wc 0) 263)).alloc (.cells (fcells 64 fun _=>wc 0) 263))=w0 at *
 go_wp2
 go_loopw [6] (fun si wr=>∃ i:Nat,i≤16∧si=.int .i64 i∧Below w.heap.size w wr∧Blk wr w.heap.size 64 (fun _=>wc 0) 263∧Blk wr (w.heap.size + 1) 64 (part (wd b) i) 263) (fun si _=>16 - (intOf si).toNat)
 case atStart=>exact ⟨0,by omega,rfl,hbw0,hG2,hG3.congr fun i _=>by simp [part]⟩
 case round=>
  obtain ⟨i,hi,rfl,hbw,hA,hB⟩:=hrel
  by_cases hlt2:i < 16
  ·have hgr:=hg.keep hbw
   obtain ⟨J,HJ⟩:∃ J:Nat,Hid (4 * i=J):=⟨_,hid rfl⟩
   have hJ:J + 3 < 64:=by have:=HJ.out;omega
   have c0:=hgr.cell (i:=J) (by omega)
   have c1:=hgr.cell (i:=J + 1) (by omega)
   have c2:=hgr.cell (i:=J + 2) (by omega)
   have c3:=hgr.cell (i:=J + 3) (by omega)
   have q0:IntKind.i64.wrap (4 * (i:Int))=(J:Int):=by rw [IntWalk.i64_in _ (by omega)];have:=HJ.out;omega
   have q1:IntKind.i64.wrap ((J:Int) + 1)=(J:Int) + 1:=IntWalk.i64_in _ (by omega)
   have q2:IntKind.i64.wrap ((J:Int) + 2)=(J:Int) + 2:=IntWalk.i64_in _ (by omega)
   have q3:IntKind.i64.wrap ((J:Int) + 3)=(J:Int) + 3:=IntWalk.i64_in _ (by omega)
   have r1:((J:Int) + 1).toNat=J + 1:=by omega
   have r2:((J:Int) + 2).toNat=J + 2:=by omega
   have r3:((J:Int) + 3).toNat=J + 3:=by omega
   have s0:(J:Int) < 64:=by omega
   have s1:(J:Int) + 1 < 64:=by omega
   have s2:(J:Int) + 2 < 64:=by omega
   have s3:(J:Int) + 3 < 64:=by omega
   have u1:0≤(J:Int) + 1:=by omega
   have u2:0≤(J:Int) + 2:=by omega
   have u3:0≤(J:Int) + 3:=by omega
   unfold bcell at c0 c1 c2 c3
   have k3:=hB.cell (i:=i) (by omega)
   have f3:=hB.free i
   have hi16:(i:Int) < 16:=by omega
   go_wp2_with fail
   go_still_tail 38,(by kernel_rfl)
   rw [four_or]
   change wpList _ _ _ _ _ wr.drew
   clear q0 q1 q2 q3 r1 r2 r3
   go_wp2_with fail
   go_roundw
   case rel=>
    refine ⟨i + 1,by omega,by go_num,(hbw.drew).setCell (by simp) _,hA.drew.apart _ _ (by simp),((hB.drew).set (i:=i) (by omega) _).congr fun j _=>?_⟩
    rw [← part_set,wd_low b hlt2]
    unfold wordB
    rw [HJ.out]
    rfl
   case measure=>simp [intOf];omega
  ·have HB16:Hid (Blk wr (w.heap.size + 1) 64 (part (wd b) 16) 263):=by
    have e:i=16:=by omega
    rw [← e]
    exact hid hB
   obtain ⟨m,rfl⟩:∃ m:Nat,i=m:=⟨i,rfl⟩
   go_wp2_with fail
   go_loopw [5] (fun si wr=>∃ i:Nat,16≤i∧i≤64∧si=.int .i64 i∧Below w.heap.size w wr∧Blk wr w.heap.size 64 (fun _=>wc 0) 263∧Blk wr (w.heap.size + 1) 64 (part (wd b) i) 263) (fun si _=>64 - (intOf si).toNat)
   case atStart=>exact ⟨16,by omega,by omega,rfl,hbw,hA,HB16.out⟩
   case round=>
    clear hA hB hbw HB16
    obtain ⟨i,hi0,hi,rfl,hbw,hA,hB⟩:=hrel
    by_cases hlt2:i < 64
    ·obtain ⟨a2,H2⟩:∃ a2:Nat,Hid (a2 + 2=i):=⟨i - 2,hid (by omega)⟩
     obtain ⟨a7,H7⟩:∃ a7:Nat,Hid (a7 + 7=i):=⟨i - 7,hid (by omega)⟩
     obtain ⟨a15,H15⟩:∃ a15:Nat,Hid (a15 + 15=i):=⟨i - 15,hid (by omega)⟩
     obtain ⟨a16,H16⟩:∃ a16:Nat,Hid (a16 + 16=i):=⟨i - 16,hid (by omega)⟩
     have b2:a2 < 64:=by have:=H2.out;omega
     have b7:a7 < 64:=by have:=H7.out;omega
     have b15:a15 < 64:=by have:=H15.out;omega
     have b16:a16 < 64:=by have:=H16.out;omega
     have q2:IntKind.i64.wrap ((i:Int) - 2)=(a2:Int):=by rw [IntWalk.i64_in _ (by omega)];have:=H2.out;omega
     have q7:IntKind.i64.wrap ((i:Int) - 7)=(a7:Int):=by rw [IntWalk.i64_in _ (by omega)];have:=H7.out;omega
     have q15:IntKind.i64.wrap ((i:Int) - 15)=(a15:Int):=by rw [IntWalk.i64_in _ (by omega)];have:=H15.out;omega
     have q16:IntKind.i64.wrap ((i:Int) - 16)=(a16:Int):=by rw [IntWalk.i64_in _ (by omega)];have:=H16.out;omega
     have c2:=hB.cell (i:=a2) (by omega)
     have c7:=hB.cell (i:=a7) (by omega)
     have c15:=hB.cell (i:=a15) (by omega)
     have c16:=hB.cell (i:=a16) (by omega)
     have e2:part (wd b) i a2=.int .u32 (wv (wd b a2)):=if_pos (by have:=H2.out;omega)
     have e7:part (wd b) i a7=.int .u32 (wv (wd b a7)):=if_pos (by have:=H7.out;omega)
     have e15:part (wd b) i a15=.int .u32 (wv (wd b a15)):=if_pos (by have:=H15.out;omega)
     have e16:part (wd b) i a16=.int .u32 (wv (wd b a16)):=if_pos (by have:=H16.out;omega)
     rw [e2] at c2
     rw [e7] at c7
     rw [e15] at c15
     rw [e16] at c16
     have k3:=hB.cell (i:=i) (by omega)
     have f3:=hB.free i
     have hi64:(i:Int) < 64:=by omega
     have l2:(a2:Int) < 64:=by omega
     have l7:(a7:Int) < 64:=by omega
     have l15:(a15:Int) < 64:=by omega
     have l16:(a16:Int) < 64:=by omega
     clear e2 e7 e15 e16
     go_wp2_with fail
     refine wp_region_still_tail 22 (by kernel_rfl) (by kernel_rfl) ?_
     simp only [List.take_succ_cons,List.take_zero,List.drop_succ_cons,List.drop_zero]
     repeat still_step
     still_call (sm1_still _ _)
     repeat still_step
     still_call (sm0_still _ _)
     repeat still_step
     refine wpStill_nil ?_
     change wpList _ _ _ _ _ wr.drew
     clear q2 q7 q15 q16
     go_wp2_with fail
     go_roundw
     case rel=>
      refine ⟨i + 1,by omega,by omega,by go_num,(hbw.drew).setCell (by simp) _,hA.drew.apart _ _ (by simp),((hB.drew).set (i:=i) (by omega) _).congr fun j _=>?_⟩
      rw [← part_set,wd_high b hi0 hlt2,show i - 2=a2 from by have:=H2.out;omega,show i - 7=a7 from by have:=H7.out;omega,show i - 15=a15 from by have:=H15.out;omega,show i - 16=a16 from by have:=H16.out;omega]
      rw [wv_sum4]
      rfl
     case measure=>simp [intOf];omega
    ·obtain rfl:i=64:=by omega
     have hB2:Blk wr (w.heap.size + 1) 64 (fun j=>wc (wd b j)) 263:=hB.congr fun j hj=>if_pos hj
     go_wp2_with (first
      | (refine wpList_load_arr arrW rfl _ rfl rfl hB2 ?_)
      | (refine wpList_store_arr arrW rfl _ _ rfl rfl rfl hA (fun _ _=>rfl) ?_;intro w9 hg9 hA9 hs9))
     refine bodyPost_ret (arrW.result rfl _ _ rfl hA9) rfl ⟨rfl,?_⟩
     exact below_into hbw (g:=w.heap.size) (Nat.le_refl _) hg9 hbw.size
end Go.Proofs.YtpdnnmabijmfbaaGreatDoor
namespace Go.Proofs.YtpdnnmabijmfbaaGreatDoor
set_option maxRecDepth 20000
open Go.RowKit
def Kst (g:Nat) (w:World):Prop:=g < w.heap.size∧∀ j,j < 64→w.cell? ⟨g,j,none⟩=some (.int .u32 (wv (kc j)))
theorem Kst.below {g:Nat} {w w':World} (h:Kst g w) (hb:Below w.heap.size w w'):Kst g w':=
 ⟨Nat.lt_of_lt_of_le h.1 hb.size,fun j hj=>(hb.cell (p:=⟨g,j,none⟩) h.1).trans (h.2 j hj)⟩
theorem Kst.grown {g:Nat} {w w':World} (h:Kst g w) {row:Option Nat} (hg:w.grownBy w' row) (hr:row≠some g):Kst g w':=
 ⟨Nat.lt_of_lt_of_le h.1 hg.size,fun j hj=>(World.cell?_of_block (hg.block g h.1 (fun e=>hr e.symm))).trans (h.2 j hj)⟩
theorem bg1_still (x:UInt32) (w:World):Calls Tryz.prog 227 #[.int .u32 (wv x)] w fun e w'=>e=.returned (.int .u32 (wv (bg1 x)))∧w'=w:=(bg1_any x w).mono fun _ _ ⟨h,h2⟩=>⟨h,h2.symm⟩
theorem chc_still (x y z:UInt32) (w:World):Calls Tryz.prog 228 #[.int .u32 (wv x),.int .u32 (wv y),.int .u32 (wv z)] w fun e w'=>e=.returned (.int .u32 (wv (chc x y z)))∧w'=w:=(chc_any x y z w).mono fun _ _ ⟨h,h2⟩=>⟨h,h2.symm⟩
theorem bg0_same (x:UInt32) (w:World):Calls Tryz.prog 229 #[.int .u32 (wv x)] w fun e w'=>e=.returned (.int .u32 (wv (bg0 x)))∧w=w':=bg0_any x w
theorem maj_same (x y z:UInt32) (w:World):Calls Tryz.prog 230 #[.int .u32 (wv x),.int .u32 (wv y),.int .u32 (wv z)] w fun e w'=>e=.returned (.int .u32 (wv (maj x y z)))∧w=w':=maj_any x y z w
theorem wv_sum5 (a b c d e:UInt32):(wv a + wv b + wv c + wv d + wv e) % 4294967296=wv (a + b + c + d + e):=by
 rw [← wv_add (a + b + c + d) e,← wv_sum4]
 omega
theorem quiet2 {P:Program} {f:FuncId} {args:Array Value} {w:World} {n m:Nat} {v:Value}
  (h:Calls P f args (w.drewN (n + m)) fun e w'=>e=.returned v∧w'=w.drewN (n + m)):Calls P f args (w.drewN (n + m)) fun e w''=>e=.returned v∧∃ k,w''=w.drewN (n + k):=
 h.mono fun _ _ ⟨he,hm⟩=>⟨he,m,hm⟩
set_option maxHeartbeats 3200000 in
set_option maxRecDepth 100000 in
theorem turn_any (s:Nat→UInt32) (b:Nat→UInt8) (w:World) (hK:Kst 1 w):
  Calls Tryz.prog 212 #[.agg (fcells 8 fun j=>wc (s j)),.agg (fcells 64 fun j=>bcell (b j))] w fun e w'=>e=.returned (.agg (fcells 8 fun j=>wc (turnS s b j)))∧Below w.heap.size w w':=by
 have h1:=hK.1
 go_enter Tryz.func212,Tryz.ntmps212
 go_wp2_with (refine wpList_alloc_arr arrS rfl rfl ?_)
 have hA:Blk (((w.alloc (.cells (fcells 8 fun j=>wc (s j)) 242)).alloc (.cells (fcells 64 fun j=>bcell (b j)) 228)).alloc (.cells (fcells 8 fun _=>wc 0) 242)) w.heap.size 8 (fun j=>wc (s j)) 242:=((Blk.new w _ _ _).alloc _).alloc _
 have hB:Blk (((w.alloc (.cells (fcells 8 fun j=>wc (s j)) 242)).alloc (.cells (fcells 64 fun j=>bcell (b j)) 228)).alloc (.cells (fcells 8 fun _=>wc 0) 242)) (w.heap.size + 1) 64 (fun j=>bcell (b j)) 228:=Blk.alloc (heap_alloc2_new w _ _) _
 have hC:Blk (((w.alloc (.cells (fcells 8 fun j=>wc (s j)) 242)).alloc (.cells (fcells 64 fun j=>bcell (b j)) 228)).alloc (.cells (fcells 8 fun _=>wc 0) 242)) (w.heap.size + 1 + 1) 8 (fun _=>wc 0) 242:=by
  have:=Blk.new ((w.alloc (.cells (fcells 8 fun j=>wc (s j)) 242)).alloc (.cells (fcells 64 fun j=>bcell (b j)) 228)) 8 (fun _=>wc 0) 242
  simpa using this
 have hbw:Below w.heap.size w (((w.alloc (.cells (fcells 8 fun j=>wc (s j)) 242)).alloc (.cells (fcells 64 fun j=>bcell (b j)) 228)).alloc (.cells (fcells 8 fun _=>wc 0) 242)):=(((Below.refl _ _).alloc (Nat.le_refl _) _).alloc (by simp) _).alloc (by simp;omega) _
 have hsz:(((w.alloc (.cells (fcells 8 fun j=>wc (s j)) 242)).alloc (.cells (fcells 64 fun j=>bcell (b j)) 228)).alloc (.cells (fcells 8 fun _=>wc 0) 242)).heap.size=w.heap.size + 3:=by simp
 have hp:((w.alloc (.cells (fcells 8 fun j=>wc (s j)) 242)).alloc (.cells (fcells 64 fun j=>bcell (b j)) 228)).heap.size=w.heap.size + 1 + 1:=by simp
 rw [hp]
 clear hp
 generalize (((w.alloc (.cells (fcells 8 fun j=>wc (s j)) 242)).alloc (.cells (fcells 64 fun j=>bcell (b j)) 228)).alloc (.cells (fcells 8 fun _=>wc 0) 242))=w0 at *
 have Hsz:=hid hsz
 clear hsz
 have hl0:=hA.cell (i:=0) (by omega)
 have hl1:=hA.cell (i:=1) (by omega)
 have hl2:=hA.cell (i:=2) (by omega)
 have hl3:=hA.cell (i:=3) (by omega)
 have hl4:=hA.cell (i:=4) (by omega)
 have hl5:=hA.cell (i:=5) (by omega)
 have hl6:=hA.cell (i:=6) (by omega)
 have hl7:=hA.cell (i:=7) (by omega)
 unfold wc at hl0 hl1 hl2 hl3 hl4 hl5 hl6 hl7
 go_wp2
 go_quiet (fail)
 go_wp2_with fail
 have hq0:Below w.heap.size w (w0.drewN nq):=below_drewN hbw _
 refine (words_any b (w.heap.size + 1) _ (w0.drewN nq) (hB.drewN _)).mono ?_
 rintro e w1 ⟨rfl,hb1⟩
 obtain ⟨WA,HWA⟩:∃ WA:Value,Hid (Value.agg (fcells 64 fun j=>wc (wd b j))=WA):=⟨_,hid rfl⟩
 rw [HWA.out]
 have hidx:∀ (i:Nat),i < 64→∀ w,(Instr.index 263 WA (.int .i64 (i:Int))).run Tryz.prog w=.ok (.int .u32 (wv (wd b i))) w:=fun i hi w=>by
  rw [← HWA.out]
  exact arrW.run_index _ hi w
 have hbw1:Below w.heap.size w w1:=hq0.trans (hb1.mono (by show w.heap.size≤w0.heap.size;have:=Hsz.out;omega))
 have hA1:Blk w1 w.heap.size 8 (fun j=>wc (s j)) 242:=Blk.keep (w:=w0.drewN nq) hA hb1
 have hC1:Blk w1 (w.heap.size + 1 + 1) 8 (fun _=>wc 0) 242:=Blk.keep (w:=w0.drewN nq) hC hb1
 have hK1:=hK.below hbw1
 clear hl0 hl1 hl2 hl3 hl4 hl5 hl6 hl7 hq0 hb1 hA hB hC hbw Hsz
 go_wp2_with fail
 go_loopw [5,6,7,8,9,10,11,12,34] (fun a0 a1 a2 a3 a4 a5 a6 a7 si wr=>∃ (i:Nat) (xa xb xc xd xe xf xg xh:UInt32),i≤64∧si=.int .i64 i∧Hid (rnds (wd b) i (St.of s)=⟨xa,xb,xc,xd,xe,xf,xg,xh⟩)∧a0=.int .u32 (wv xa)∧a1=.int .u32 (wv xb)∧a2=.int .u32 (wv xc)∧a3=.int .u32 (wv xd)∧a4=.int .u32 (wv xe)∧a5=.int .u32 (wv xf)∧a6=.int .u32 (wv xg)∧a7=.int .u32 (wv xh)∧∃ n,wr=w1.drewN n) (fun _ _ _ _ _ _ _ _ si _=>64 - (intOf si).toNat)
 case atStart=>exact ⟨0,s 0,s 1,s 2,s 3,s 4,s 5,s 6,s 7,by omega,rfl,hid rfl,rfl,rfl,rfl,rfl,rfl,rfl,rfl,rfl,0,rfl⟩
 case round=>
  obtain ⟨i,xa,xb,xc,xd,xe,xf,xg,xh,hi,rfl,HV,rfl,rfl,rfl,rfl,rfl,rfl,rfl,rfl,n,rfl⟩:=hrel
  by_cases hlt:i < 64
  ·have hx:=hidx i hlt
   have hk:=hK1.2 i hlt
   have hi64:(i:Int) < 64:=by omega
   have h11:=hK1.1
   clear hidx
   go_wp2_with fail
   go_quiet ((first
    | (go_at_call 227;exact quiet2 (bg1_still _ _))
    | (go_at_call 228;exact quiet2 (chc_still _ _ _ _))))
   go_wp2_with (first
    | (go_at_call 229;refine (bg0_same _ _).mono ?_;rintro e w' ⟨rfl,rfl⟩)
    | (go_at_call 230;refine (maj_same _ _ _ _).mono ?_;rintro e w' ⟨rfl,rfl⟩))
   go_roundw
   case rel=>
    exact ⟨i + 1,(xh + bg1 xe + chc xe xf xg + kc i + wd b i) + (bg0 xa + maj xa xb xc),xa,xb,xc,xd + (xh + bg1 xe + chc xe xf xg + kc i + wd b i),xe,xf,xg,by omega,by go_num,hid (by unfold rnds;rw [HV.out];rfl),by rw [wv_sum5,wv_add,wv_add],rfl,rfl,rfl,by rw [wv_sum5,wv_add],rfl,rfl,rfl,n + nq,rfl⟩
   case measure=>simp [intOf];omega
  ·have HI:=hid (show i=64 by omega)
   have hge:¬ (i:Int) < 64:=by omega
   have hl0:=hA1.cell (i:=0) (by omega)
   have hl1:=hA1.cell (i:=1) (by omega)
   have hl2:=hA1.cell (i:=2) (by omega)
   have hl3:=hA1.cell (i:=3) (by omega)
   have hl4:=hA1.cell (i:=4) (by omega)
   have hl5:=hA1.cell (i:=5) (by omega)
   have hl6:=hA1.cell (i:=6) (by omega)
   have hl7:=hA1.cell (i:=7) (by omega)
   unfold wc at hl0 hl1 hl2 hl3 hl4 hl5 hl6 hl7
   have hltA:=hA1.lt
   clear hidx
   go_wp2_with (refine wpList_store_arr arrS (f':=fun j=>.int .u32 ([(wv (s 0) + wv xa) % 4294967296,(wv (s 1) + wv xb) % 4294967296,(wv (s 2) + wv xc) % 4294967296,(wv (s 3) + wv xd) % 4294967296,(wv (s 4) + wv xe) % 4294967296,(wv (s 5) + wv xf) % 4294967296,(wv (s 6) + wv xg) % 4294967296,(wv (s 7) + wv xh) % 4294967296].getD j 0)) rfl _ _ rfl rfl rfl (hC1.drewN n) (fun _ _=>rfl) ?_;intro w9 hg9 hC9 hs9)
   have hres:∀ j,j < 8→Value.int .u32 ([(wv (s 0) + wv xa) % 4294967296,(wv (s 1) + wv xb) % 4294967296,(wv (s 2) + wv xc) % 4294967296,(wv (s 3) + wv xd) % 4294967296,(wv (s 4) + wv xe) % 4294967296,(wv (s 5) + wv xf) % 4294967296,(wv (s 6) + wv xg) % 4294967296,(wv (s 7) + wv xh) % 4294967296].getD j 0)=wc (turnS s b j):=by
    have hv:=HV.out
    rw [HI.out] at hv
    intro j hj
    unfold turnS
    rw [hv]
    obtain rfl | rfl | rfl | rfl | rfl | rfl | rfl | rfl:j=0∨j=1∨j=2∨j=3∨j=4∨j=5∨j=6∨j=7:=by omega
    all_goals exact congrArg (Value.int .u32) (wv_add _ _)
   refine bodyPost_ret (arrS.result rfl _ _ rfl (hC9.congr hres)) rfl ⟨rfl,?_⟩
   exact below_into (below_drewN hbw1 n) (by omega) hg9 (by show w.heap.size≤w1.heap.size;omega)
end Go.Proofs.YtpdnnmabijmfbaaGreatDoor
namespace Go.Proofs.YtpdnnmabijmfbaaGreatDoor
set_option maxRecDepth 20000
open Go.RowKit
def runf (s:Nat→UInt32) (b:Nat→UInt8) (n:Nat) (j:Nat):Value:=if j < 8 then wc (s j) else if j < 72 then bcell (b (j - 8)) else .int .u64 (n:Int)
def Run (w:World) (g:Nat) (l:List UInt8):Prop:=
 ∃ b:Nat→UInt8,Blk w g 73 (runf (absb l (l.length / 64)) b l.length) 245∧∀ j,j < l.length % 64→b j=l.getD (64 * (l.length / 64) + j) 0
theorem Run.lt {w:World} {g:Nat} {l:List UInt8} (h:Run w g l):g < w.heap.size:=by
 obtain ⟨b,hb,_⟩:=h
 exact hb.lt
theorem Run.grown {w w':World} {g:Nat} {l:List UInt8} (h:Run w g l) {row:Option Nat} (hg:w.grownBy w' row) (hr:row≠some g):Run w' g l:=by
 obtain ⟨b,hb,h2⟩:=h
 exact ⟨b,hb.grown hg hr,h2⟩
theorem Run.keep {w w':World} {g:Nat} {l:List UInt8} (h:Run w g l) (hb:Below w.heap.size w w'):Run w' g l:=h.grown (grown_below hb none) (by simp)
theorem Byt.cutS {w:World} {A:Option Addr} {l:List UInt8} {c p:Nat} (h:Byt w (.slice A l.length c) l) (hp:p≤l.length):
  Byt w (.slice (if c=p then A else A.map (·.add p)) (l.length - p) (c - p)) (l.drop p):=by
 obtain ⟨_,h1,h2,h3⟩:=h.at_
 refine ⟨_,c - p,by rw [List.length_drop],by rw [List.length_drop];omega,by omega,fun hl=>?_⟩
 rw [List.length_drop] at hl
 obtain ⟨b,off,rfl,hb,hc⟩:=h3 (by omega)
 rw [if_neg (by omega)]
 refine ⟨b,off + p,by rw [Option.map_some,addr_add],hb,fun j hj=>?_⟩
 rw [List.length_drop] at hj
 rw [Nat.add_assoc,hc (p + j) (by omega),List.getElem_drop]
theorem cut_own {A:Option Addr} {n c m d p:Nat}:(Value.slice (if c=p then A else A.map (·.add p)) m d).ownBlock=(Value.slice A n c).ownBlock∨(Value.slice (if c=p then A else A.map (·.add p)) m d).ownBlock=none:=by
 by_cases h:c=p
 ·rw [if_pos h]
  cases A <;> simp [Value.ownBlock]
 ·rw [if_neg h]
  rcases A with _ | ⟨b,o,sp⟩
  ·simp [Value.ownBlock]
  ·cases sp <;> (simp [Value.ownBlock,Addr.add];split <;> rfl)
theorem wpList_cut {ops:Array Oper} {rest:List Oper} {o:Oper} {a:Act} {w:World} {Q:Exit→Act→World→Prop} (hgd:o.guard=none) (x y:Operand) (ho:o.op=.slice 33 x (some y) none none)
  {A:Option Addr} {c k:Nat} {l:List UInt8} (hx:a.eval x=.slice A l.length c) (hy:a.eval y=.int .i64 (k:Int)) (hv:Byt w (.slice A l.length c) l) (hk:k≤l.length)
  (h:∀ A' c',Byt w (.slice A' (l.length - k) c') (l.drop k)→(∀ g,(Value.slice A l.length c).ownBlock≠some g→(Value.slice A' (l.length - k) c').ownBlock≠some g)→wpList Tryz.prog ops Q rest (a.put o.dst (.slice A' (l.length - k) c')) w):
  wpList Tryz.prog ops Q (o :: rest) a w:=by
 obtain ⟨i0,hi,hz0,hz1,hz2⟩:=info_parts info_u8
 have hrun:(Instr.sliceAt 33 (.slice A l.length c) (some (.int .i64 (k:Int))) none none).run Tryz.prog w=.ok (.slice (if c=k then A else A.map (·.add k)) (l.length - k) (c - k)) w:=by
  have hk2:(k:Int)≤(l.length:Int):=by omega
  simp [Instr.sliceAt,Instr.slice,run_underlying under_bytes,Instr.sliceBounds,Instr.sliceBound,asIntOf,sizeOf,typeInfo,hi,hz1,hk]
 refine wpList_plain hgd fun _ hK=>?_
 unfold Oper.wp execOp
 simp only [ho,Option.map_some,Option.map_none,hx,hy,Sem.run_bind,hrun,Result.andThen_ok,Sem.run_pure]
 refine hK _ _ (h _ _ (hv.cutS hk) fun g hg=>?_)
 rcases cut_own (A:=A) (n:=l.length) (c:=c) (m:=l.length - k) (d:=c - k) (p:=k) with e | e
 ·rw [e];exact hg
 ·rw [e];simp
theorem run_copy_blk {w:World} {v:Value} {m:List UInt8} (ty:TypeId) (hv:Byt w v m) {g off N dLen dCap:Nat} {F:Nat→Value} {t:TypeId} (hg:Blk w g N F t) {k:Nat} (hk:k=Nat.min m.length dLen) (h0:0 < k) (hfit:off + k≤N):
  ∃ w',(Builtin.copy_ #[33,33] ty #[.slice (some ⟨g,off,none⟩) dLen dCap,v]).run Tryz.prog w=.ok (.int .i64 (k:Int)) w'∧w.grownBy w' (some g)∧Blk w' g N (fun j=>if off≤j∧j < off + k then bcell (m.getD (j - off) 0) else F j) t∧w'.heap.size=w.heap.size:=by
 obtain ⟨A,c,rfl,h1,h2,hr⟩:=hv
 have hsz:(Tryz.prog.info? 5).map (·.size)=some 1:=by kernel_rfl
 have hkm:k≤m.length:=by rw [hk];exact Nat.min_le_left _ _
 obtain ⟨b,off2,rfl,hb,hc⟩:=hr (by omega)
 have hlen:(bcells (m.take k)).length=k:=by simp [bcells];omega
 have hrun:=run_copy_row (P:=Tryz.prog) w 33 33 ty 5 g off dLen dCap ⟨b,off2,none⟩ m.length c (fcells N F) t (bcells (m.take k)) under_bytes hsz hg (by rw [hlen,hk]) (fun j u hu=>by
  obtain ⟨hj,rfl⟩:=bcells_get _ j u hu
  rw [addr_add]
  have hjm:j < m.length:=by simp at hj;omega
  rw [hc j hjm,List.getElem_take]) (by rw [hlen,fcells_size];exact hfit) (bcells_one _)
 have hrow:((fcells N F).toList.take off ++ bcells (m.take k) ++ (fcells N F).toList.drop (off + (bcells (m.take k)).length)).toArray=fcells N (fun j=>if off≤j∧j < off + k then bcell (m.getD (j - off) 0) else F j):=by
  apply Array.ext_getElem?
  intro j
  rw [hlen,List.getElem?_toArray]
  have ht:((fcells N F).toList.take off).length=off:=by rw [List.length_take,Array.length_toList,fcells_size];omega
  by_cases hj:j < N
  ·rw [fcells_get _ hj]
   by_cases h3:j < off
   ·rw [if_neg (by omega),List.append_assoc,List.getElem?_append_left (by omega),List.getElem?_take_of_lt h3,fcells_list,if_pos hj]
   ·by_cases h4:j < off + k
    ·rw [if_pos (by omega),List.append_assoc,List.getElem?_append_right (by omega),ht,List.getElem?_append_left (by omega)]
     have hjm:j - off < m.length:=by omega
     simp [bcells,List.getElem?_take_of_lt (show j - off < k by omega),hjm]
    ·rw [if_neg (by omega),List.getElem?_append_right (by rw [List.length_append,ht,hlen];omega),List.length_append,ht,hlen,List.getElem?_drop,fcells_list,if_pos (by omega)]
     rw [show off + k + (j - (off + k))=j from by omega]
  ·rw [fcells_out _ hj,List.getElem?_eq_none]
   simp [fcells_size,bcells]
   omega
 rw [hrow,hlen] at hrun
 exact ⟨_,hrun,⟨rfl,rfl,rfl,by simp,fun q _ hq=>setRow_other w g q _ (fun e=>hq (by simp [e]))⟩,setRow_heap w g _ _ t _ hg,by simp⟩
theorem wpList_copy_blk {ops:Array Oper} {rest:List Oper} {o:Oper} {a:Act} {w:World} {Q:Exit→Act→World→Prop} (hgd:o.guard=none) (d s:Operand)
  (ho:o.op=.call { callee:=.builtin .copy,args:=#[d,s],argTypes:=#[33,33] })
  {g off N dLen dCap:Nat} {v:Value} {m:List UInt8} {F:Nat→Value} {t:TypeId} (hd:a.eval d=.slice (some ⟨g,off,none⟩) dLen dCap) (hs:a.eval s=v) (hv:Byt w v m) (hg:Blk w g N F t)
  {k:Nat} (hk:k=Nat.min m.length dLen) (h0:0 < k) (hfit:off + k≤N)
  (h:∀ w',w.grownBy w' (some g)→Blk w' g N (fun j=>if off≤j∧j < off + k then bcell (m.getD (j - off) 0) else F j) t→w'.heap.size=w.heap.size→wpList Tryz.prog ops Q rest (a.put o.dst (.int .i64 (k:Int))) w'):
  wpList Tryz.prog ops Q (o :: rest) a w:=by
 obtain ⟨w',hrun,h1,h2,h3⟩:=run_copy_blk o.type (dLen:=dLen) (dCap:=dCap) hv hg hk h0 hfit
 refine wpList_plain hgd fun _ hK=>?_
 unfold Oper.wp
 simp [execOp,ho,resolve,invoke,builtin,hd,hs,hrun,Result.andThen]
 exact hK _ _ (h w' h1 h2 h3)
def more (b:Nat→UInt8) (r:List UInt8) (q k j:Nat):UInt8:=if q≤j∧j < q + k then r.getD (j - q) 0 else b j
theorem more_eq {b:Nat→UInt8} {l r:List UInt8} {T q k:Nat} (hT:l.length=T) (hq:T % 64=q) (hb:∀ j,j < q→b j=l.getD (64 * (T / 64) + j) 0) (j:Nat) (hj:j < q + k):
  more b r q k j=(l ++ r.take k).getD (64 * (T / 64) + j) 0:=by
 unfold more
 by_cases h:j < q
 ·rw [if_neg (by omega),hb j h,getD_left (by omega)]
 ·rw [if_pos (by omega),show 64 * (T / 64) + j=l.length + (j - q) from by omega,getD_right]
  simp only [List.getD_eq_getElem?_getD]
  rw [List.getElem?_take_of_lt (by omega)]
theorem run_part {w:World} {g T q k:Nat} {b:Nat→UInt8} {l r:List UInt8} (hT:l.length=T) (hq:T % 64=q) (hk:k≤r.length) (hb:∀ j,j < q→b j=l.getD (64 * (T / 64) + j) 0) (hqk:q + k < 64)
  (hB:Blk w g 73 (runf (absb l (T / 64)) (more b r q k) (T + k)) 245):Run w g (l ++ r.take k):=by
 have hl:(l ++ r.take k).length=T + k:=by rw [List.length_append,List.length_take,hT];omega
 have hd:(T + k) / 64=T / 64:=by omega
 have hm:(T + k) % 64=q + k:=by omega
 refine ⟨more b r q k,?_,fun j hj=>?_⟩
 ·rw [hl,hd]
  refine hB.congr fun i _=>?_
  unfold runf
  by_cases h8:i < 8
  ·rw [if_pos h8,if_pos h8,absb_left (by omega) i h8]
  ·rw [if_neg h8,if_neg h8]
 ·rw [hl,hm] at hj
  rw [hl,hd]
  exact more_eq hT hq hb j hj
theorem run_full {w:World} {g T q k:Nat} {b:Nat→UInt8} {l r:List UInt8} (hT:l.length=T) (hq:T % 64=q) (hk:k≤r.length) (hb:∀ j,j < q→b j=l.getD (64 * (T / 64) + j) 0) (hqk:q + k=64)
  (hB:Blk w g 73 (runf (turnS (absb l (T / 64)) (more b r q k)) (more b r q k) (T + k)) 245):Run w g (l ++ r.take k):=by
 have hl:(l ++ r.take k).length=T + k:=by rw [List.length_append,List.length_take,hT];omega
 have hd:(T + k) / 64=T / 64 + 1:=by omega
 have hm:(T + k) % 64=0:=by omega
 refine ⟨more b r q k,?_,fun j hj=>?_⟩
 ·rw [hl,hd]
  refine hB.congr fun i _=>?_
  unfold runf
  by_cases h8:i < 8
  ·rw [if_pos h8,if_pos h8]
   congr 1
   refine turnS_congr (fun i hi=>(absb_left (by omega) i hi).symm) (fun j hj=>more_eq hT hq hb j (by omega)) i h8
  ·rw [if_neg h8,if_neg h8]
 ·rw [hl,hm] at hj
  omega
theorem wp_load_arr {T E:TypeId} {n:Nat} {z:Value} (H:ArrT T E n z) {o:Oper} {a:Act} {w:World} {K:Act→World→Prop} {Q:Exit→Act→World→Prop} (x:Operand) (ho:o.op=.load T x)
  {g N off:Nat} {f f':Nat→Value} {t:TypeId} (hx:a.eval x=.pointer (some ⟨g,off,none⟩)) (hg:Blk w g N f t) (hN:off + n≤N) (e:∀ j,j < n→f (off + j)=f' j)
  (h:K (a.put o.dst (.agg (fcells n f'))) w):o.wp Tryz.prog a w K Q:=by
 unfold Oper.wp execOp
 simp only [ho,hx,Sem.run_bind,H.load_mid hg hN e,Sem.run_pure,Result.andThen_ok]
 exact h
theorem byt_block {w:World} {v:Value} {l:List UInt8} (h:Byt w v l) (h0:0 < l.length) {g:Nat} (hg:w.heap.size≤g):v.ownBlock≠some g:=by
 obtain ⟨A,c,rfl,_,_,hr⟩:=h
 obtain ⟨b,off,rfl,hb,_⟩:=hr h0
 intro e
 have:b=g:=by simpa [Value.ownBlock] using e
 omega
theorem wpList_load_arr_mid {T E:TypeId} {n:Nat} {z:Value} (H:ArrT T E n z) {ops:Array Oper} {rest:List Oper} {o:Oper} {a:Act} {w:World} {Q:Exit→Act→World→Prop} (hgd:o.guard=none) (x:Operand) (ho:o.op=.load T x)
  {g N off:Nat} {f f':Nat→Value} {t:TypeId} (hx:a.eval x=.pointer (some ⟨g,off,none⟩)) (hg:Blk w g N f t) (hN:off + n≤N) (e:∀ j,j < n→f (off + j)=f' j)
  (h:wpList Tryz.prog ops Q rest (a.put o.dst (.agg (fcells n f'))) w):wpList Tryz.prog ops Q (o :: rest) a w:=
 wpList_plain hgd fun _ hK=>wp_load_arr H x ho hx hg hN e (hK _ _ h)
theorem wpList_alloc_cells {T:TypeId} {cs:Array Value} (hz:(Tryz.prog.info? T).bind (·.zero)=some (.agg cs)) {ops:Array Oper} {rest:List Oper} {o:Oper} {a:Act} {w:World} {Q:Exit→Act→World→Prop} (hgd:o.guard=none) (ho:o.op=.alloc T)
  (h:wpList Tryz.prog ops Q rest (a.put o.dst (.pointer (some ⟨w.heap.size,0,none⟩))) (w.alloc (.cells cs T))):wpList Tryz.prog ops Q (o :: rest) a w:=
 wpList_plain hgd fun _ hK=>by
  have hr:(zeroValue T).run Tryz.prog w=.ok (.agg cs) w:=by
   cases hq:Tryz.prog.info? T with
   | none=>rw [hq] at hz;cases hz
   | some i=>
    rw [hq] at hz
    have hz':i.zero=some (.agg cs):=hz
    simp [zeroValue,typeInfo,hq,hz']
  unfold Oper.wp execOp
  simp only [ho,Sem.run_bind,Instr.alloc,hr,newVar,newRow,run_newObj_alloc,Sem.run_pure,Result.andThen_ok,Value.cells]
  exact hK _ _ h
noncomputable def loadA (T : TypeId) (v : Value) (w : World) : Result Next := Sem.run Tryz.prog (execOp (fun _ => v) { dst := none, op := .load T (.tmp 0), type := 0, pos := "", after := #[], guard := none }) w
noncomputable def storeA (T:TypeId) (p v:Value) (w:World):Result Next:=Sem.run Tryz.prog (execOp (fun x=>match x with
 | .tmp 0=>p
 | _ => v) { dst := none, op := .store T (.tmp 0) (.tmp 1), type := 0, pos := "", after := #[], guard := none }) w
theorem exec_load_S (r:Operand→Value) (x:Operand) (dst:Option Tmp) (ty:TypeId) (pos:String) (after:Array Edge) (guard:Option (Nat × Bool)) (w:World):
  Sem.run Tryz.prog (execOp r { dst:=dst,op:=.load 242 x,type:=ty,pos:=pos,after:=after,guard:=guard }) w=loadA 242 (r x) w:=rfl
theorem exec_load_B (r:Operand→Value) (x:Operand) (dst:Option Tmp) (ty:TypeId) (pos:String) (after:Array Edge) (guard:Option (Nat × Bool)) (w:World):
  Sem.run Tryz.prog (execOp r { dst:=dst,op:=.load 228 x,type:=ty,pos:=pos,after:=after,guard:=guard }) w=loadA 228 (r x) w:=rfl
theorem exec_store_S (r:Operand→Value) (x y:Operand) (dst:Option Tmp) (ty:TypeId) (pos:String) (after:Array Edge) (guard:Option (Nat × Bool)) (w:World):
  Sem.run Tryz.prog (execOp r { dst:=dst,op:=.store 242 x y,type:=ty,pos:=pos,after:=after,guard:=guard }) w=storeA 242 (r x) (r y) w:=rfl
theorem loadA_eq {T E:TypeId} {n:Nat} {z:Value} (H:ArrT T E n z) {w:World} {g N o:Nat} {f f':Nat→Value} {t:TypeId} (hg:Blk w g N f t) (ho:o + n≤N) (e:∀ j,j < n→f (o + j)=f' j):
  loadA T (.pointer (some ⟨g,o,none⟩)) w=.ok (.value (.agg (fcells n f'))) w:=by
 have:=H.load_mid hg ho e
 unfold loadA execOp
 simp only [Sem.run_bind,this,Result.andThen_ok,Sem.run_pure]
theorem storeA_eq {T E:TypeId} {n:Nat} {z:Value} (H:ArrT T E n z) {w:World} {g N o:Nat} {f f':Nat→Value} {t:TypeId} (hg:Blk w g N f t) (ho:o + n≤N) (h1:∀ i,i < n→(f' i).oneCell'=true):
  ∃ w',storeA T (.pointer (some ⟨g,o,none⟩)) (.agg (fcells n f')) w=.ok .skip w'∧w.grownBy w' (some g)∧Blk w' g N (fun j=>if o≤j∧j < o + n then f' (j - o) else f j) t∧w'.heap.size=w.heap.size:=by
 obtain ⟨w',hr,h2,h3,h4⟩:=H.store_mid hg ho h1
 refine ⟨w',?_,h2,h3,h4⟩
 unfold storeA execOp
 simp only [Sem.run_bind,hr,Result.andThen_ok,Sem.run_pure]
end Go.Proofs.YtpdnnmabijmfbaaGreatDoor
namespace Go.Proofs.YtpdnnmabijmfbaaGreatDoor
set_option maxRecDepth 20000
open Go.RowKit
def slen2:Value→Nat
 | .slice _ n _=>n
 | _=>0
theorem u8_ofNat (m:Nat):((UInt8.ofNat m).toNat:Int)=(m:Int) % 256:=by
 rw [UInt8.toNat_ofNat']
 omega
set_option maxHeartbeats 1600000 in
theorem filling_any (n:Nat) (w:World) (hn:n≤1099511627776):
  Calls Tryz.prog 195 #[.int .u64 (n:Int)] w fun e w'=>∃ v,e=.returned v∧Own w.heap.size w' v (tailS n)∧Below w.heap.size w w':=by
 obtain ⟨i0,hi,hz0,hz1,hz2⟩:=info_parts info_u8
 have hb2:i0.bytes * 73≤281474976710656:=by rw [hz2];omega
 have hb3:73≤maxLen:=by unfold maxLen;omega
 have hnl:=noughts_le n
 go_enter Tryz.func195,Tryz.ntmps195
 go_wp2_with (at_make;refine wpList_make_own _ rfl _ _ 33 rfl w.heap.size 5 i0 (.int .u8 0) 1 under_bytes hi hz0 hz1 _ _ _ 73 rfl rfl rfl hb2 hb3 (Nat.le_refl _) ?_)
 intro w0 hown0 hgrow0
 have hb0:Below w.heap.size w w0:=(Below.refl _ _).grown hgrow0 (Nat.le_refl _) (fun k h=>by cases h)
 have hv0:Own w.heap.size w0 (.slice (some ⟨w.heap.size,0,none⟩) 0 73) []:=hown0
 have hs0:=hb0.size
 clear hown0 hgrow0 hz0 hz1 hz2 hi hb2 hb3
 go_wp2_with (at_builtin;refine wpList_append_byt rfl (.tmp 6) (.tmp 7) rfl rfl rfl (hv0.alloc _) (byt_one _ _ 128 rfl) (by simp) (by simp;omega) ?_;intro v1 w1 hown1 hg1 _)
 have hb1:Below w.heap.size w w1:=(hb0.alloc hs0 _).grown hg1 (by simp;omega) (fun k hk=>(World.ownsRow.lt hv0 k hk).1)
 rw [List.nil_append] at hown1
 obtain ⟨A1,c1,rfl⟩:=hown1.byt.shape
 have hl1:([128]:List UInt8).length=1:=rfl
 rw [hl1] at hown1 ⊢
 clear hg1 hl1
 try go_frame
 go_wp2_with fail
 go_loopw [3] (fun v wr=>∃ (z m:Nat) (A:Option Addr) (c:Nat),z≤noughts n∧Hid (m=z + 1)∧v=.slice A m c∧Hid (Own w.heap.size wr (.slice A m c) (128 :: List.replicate z 0))∧Below w.heap.size w wr) (fun v _=>100 - slen2 v)
 case atStart=>exact ⟨0,1,A1,c1,Nat.zero_le _,hid rfl,rfl,hid hown1,hb1⟩
 case round=>
  clear hown1 hb1 hv0 hb0 hs0
  obtain ⟨z,m,A,c,hz,HM,rfl,HO,hbw⟩:=hrel
  have hbs:=hbw.size
  have hm:m≤100:=by have:=HM.out;omega
  by_cases hlt:z < noughts n
  ·have ht:(((n:Int) + (m:Int) + 8) % 64 != 0)=true:=by
    rw [bne_iff_ne]
    have:=HM.out
    unfold noughts at hlt
    omega
   go_wp2_with (at_builtin;refine wpList_append_byt rfl (.tmp 17) (.tmp 18) rfl rfl rfl (HO.out.alloc _) (byt_one _ _ 0 rfl) (by simp;omega) (by simp;omega) ?_;intro v2 w2 hown2 hg2 _)
   have hb2:Below w.heap.size w w2:=(hbw.alloc hbs _).grown hg2 (by simp;omega) (fun k hk=>(World.ownsRow.lt HO.out k hk).1)
   have hl:(128 :: List.replicate z 0:List UInt8) ++ [0]=128 :: List.replicate (z + 1) 0:=by
    rw [List.replicate_succ',List.cons_append]
   rw [hl] at hown2
   clear hl hg2
   obtain ⟨A2,c2,rfl⟩:=hown2.byt.shape
   have hl2:(128 :: List.replicate (z + 1) 0:List UInt8).length=m + 1:=by simp;have:=HM.out;omega
   rw [hl2] at hown2 ⊢
   have HO2:=hid hown2
   clear hl2 hown2
   try go_frame
   go_roundw
   case rel=>exact ⟨z + 1,m + 1,A2,c2,by omega,hid (by have:=HM.out;omega),rfl,HO2,hb2⟩
   case measure=>show 100 - (m + 1) < 100 - m;have:=HM.out;omega
  ·have ht:(((n:Int) + (m:Int) + 8) % 64 != 0)=false:=by
    rw [bne_eq_false_iff_eq]
    have:=HM.out
    unfold noughts at hlt hz
    omega
   have HO3:Hid (Own w.heap.size wr (.slice A m c) (128 :: List.replicate (noughts n) 0 ++ be8 (n * 8) 0)):=by
    have e:z=noughts n:=by omega
    have:=HO.out
    rw [e] at this
    have e2:(128 :: List.replicate (noughts n) 0 ++ be8 (n * 8) 0:List UInt8)=128 :: List.replicate (noughts n) 0:=by simp [be8]
    rw [e2]
    exact hid this
   obtain ⟨wo,rfl⟩:∃ wo:World,wo=wr:=⟨_,rfl⟩
   go_wp2_with fail
   go_loopw [3,4] (fun v s wr=>∃ (k:Nat) (x:Int) (A:Option Addr) (m c:Nat),k≤8∧Hid (x=56 - 8 * (k:Int))∧s=.int .i64 x∧v=.slice A m c∧m≤120∧Hid (Own w.heap.size wr (.slice A m c) (128 :: List.replicate (noughts n) 0 ++ be8 (n * 8) k))∧Below w.heap.size w wr) (fun _ s _=>(intOf s + 8).toNat)
   case atStart=>exact ⟨0,56,A,m,c,by omega,hid (by omega),rfl,rfl,by omega,HO3,hbw⟩
   case round=>
    clear HO HO3 hbw hbs
    obtain ⟨k,x,A,m,c,hk,HX,rfl,rfl,hm,HO,hbw⟩:=hrel
    have hbs:=hbw.size
    have hx1:x≤56:=by have:=HX.out;omega
    have hx2:-8≤x:=by have:=HX.out;omega
    by_cases hlt2:k < 8
    ·have hx0:0≤x:=by have:=HX.out;omega
     have hml:m=(128 :: List.replicate (noughts n) 0 ++ be8 (n * 8) k:List UInt8).length:=HO.out.byt.at_.1
     have HML:=hid hml
     clear hml
     have hq:(n:Int) * 8 / 2 ^ x.toNat % 256=((UInt8.ofNat (n * 8 / 2 ^ (56 - 8 * k))).toNat:Int):=by
      rw [u8_ofNat,show x.toNat=56 - 8 * k from by have:=HX.out;omega]
      simp
     have HQ:=hid hq
     have hlen:(128 :: List.replicate (noughts n) 0 ++ be8 (n * 8) k:List UInt8).length + [UInt8.ofNat (n * 8 / 2 ^ (56 - 8 * k))].length≤140737488355328:=by rw [← HML.out,List.length_singleton];omega
     clear hq
     go_wp2_with (at_builtin;refine wpList_append_byt rfl (.tmp 24) (.tmp 30) rfl rfl rfl (HO.out.alloc _) (byt_one _ _ _ HQ.out) hlen (by simp;omega) ?_;intro v2 w2 hown2 hg2 _)
     have hb2:Below w.heap.size w w2:=(hbw.alloc hbs _).grown hg2 (by simp;omega) (fun k hk=>(World.ownsRow.lt HO.out k hk).1)
     have hl:(128 :: List.replicate (noughts n) 0 ++ be8 (n * 8) k:List UInt8) ++ [UInt8.ofNat (n * 8 / 2 ^ (56 - 8 * k))]=128 :: List.replicate (noughts n) 0 ++ be8 (n * 8) (k + 1):=by
      rw [List.append_assoc]
      rfl
     rw [hl] at hown2
     clear hl hg2
     obtain ⟨A2,c2,rfl⟩:=hown2.byt.shape
     have hl2:(128 :: List.replicate (noughts n) 0 ++ be8 (n * 8) (k + 1):List UInt8).length=m + 1:=by
      have:=HML.out
      simp only [List.length_append,List.length_cons,List.length_replicate,be8_length] at this ⊢
      omega
     have hml2:m + 1≤120:=by
      have:=HML.out
      simp only [List.length_append,List.length_cons,List.length_replicate,be8_length] at this
      omega
     rw [hl2] at hown2 ⊢
     have HO2:=hid hown2
     clear hl2 hown2
     go_roundw
     case rel=>exact ⟨k + 1,x - 8,A2,m + 1,c2,by omega,hid (by have:=HX.out;omega),rfl,rfl,hml2,HO2,hb2⟩
     case measure=>simp [intOf];omega
    ·have hx0:x < 0:=by have:=HX.out;omega
     go_wp2_with fail
     go_ret
     have e:k=8:=by omega
     subst e
     exact ⟨_,rfl,HO.out,hbw⟩
theorem start_any (w:World):Calls Tryz.prog 193 #[] w fun e w'=>e=.returned (.agg (fcells 8 fun j=>wc (start j)))∧Below w.heap.size w w':=by
 go_enter Tryz.func193,Tryz.ntmps193
 go_wp2_with (first
  | (refine wpList_alloc_arr arrS rfl rfl ?_)
  | (refine wpList_store_arr arrS (f':=fun j=>wc (start j)) rfl _ _ rfl rfl rfl (Blk.new w 8 (fun _=>wc 0) 242) (fun _ _=>rfl) ?_;intro w9 hg9 hC9 hs9))
 refine bodyPost_ret (arrS.result rfl _ _ rfl hC9) rfl ⟨rfl,?_⟩
 exact below_into ((Below.refl _ _).alloc (Nat.le_refl _) _) (Nat.le_refl _) hg9 (by simp)
end Go.Proofs.YtpdnnmabijmfbaaGreatDoor
namespace Go.Proofs.YtpdnnmabijmfbaaGreatDoor
set_option maxRecDepth 20000
open Go.RowKit
def slen:Value→Nat
 | .slice _ n _=>n
 | _=>0
attribute [local go_sem ↓] exec_load_S exec_load_B exec_store_S
set_option maxHeartbeats 3200000 in
theorem put_any (g:Nat) (t l:List UInt8) (v:Value) (w:World) (hK:Kst 1 w) (hgK:g≠1) (hr:Run w g t) (hv:Byt w v l) (hne:0 < l.length→v.ownBlock≠some g) (hs:t.length + l.length≤1099511627776):
  Calls Tryz.prog 194 #[.pointer (some ⟨g,0,none⟩),v] w fun e w'=>e=.returned (.tuple #[])∧Run w' g (t ++ l)∧w.grownBy w' (some g):=by
 obtain ⟨A,c,rfl⟩:=hv.shape
 go_enter Tryz.func194,Tryz.ntmps194
 go_wp2
 go_loopw [1] (fun vb wr=>∃ (d r:List UInt8) (A':Option Addr) (c':Nat),Hid (l=d ++ r)∧vb=.slice A' r.length c'∧Byt wr (.slice A' r.length c') r∧Hid (0 < r.length→(Value.slice A' r.length c').ownBlock≠some g)∧Run wr g (t ++ d)∧w.grownBy wr (some g)) (fun vb _=>slen vb)
 case atStart=>exact ⟨[],l,A,c,hid rfl,rfl,hv,hid hne,by rw [List.append_nil];exact hr,World.grownBy.refl _ _⟩
 case round=>
  clear hv hne hr
  obtain ⟨d,r,A',c',HL,rfl,hv,hnE,hr,hgr⟩:=hrel
  have hKr:=hK.grown hgr (fun e=>hgK (Option.some.inj e))
  have hll:l.length=d.length + r.length:=by rw [HL.out,List.length_append]
  by_cases h0:r.length=0
  ·have h00:¬ (0:Int) < (r.length:Int):=by omega
   have HR:=hid (List.eq_nil_of_length_eq_zero h0)
   have HE:=hid h0
   clear h0
   go_wp2_with fail
   go_end0
   have e:l=d:=by rw [HL.out,HR.out,List.append_nil]
   rw [e]
   exact ⟨rfl,hr,hgr⟩
  ·have h00:(0:Int) < (r.length:Int):=by omega
   have hne:=hid (hnE.out (by omega))
   have hltg:=hr.lt
   obtain ⟨T,HT⟩:∃ T:Nat,Hid ((t ++ d).length=T):=⟨_,hid rfl⟩
   have hTs:T + r.length≤1099511627776:=by have:=HT.out;rw [List.length_append] at this;omega
   obtain ⟨b,hB,hb⟩:=hr
   rw [HT.out] at hB hb
   obtain ⟨q,Hq⟩:∃ q:Nat,Hid (T % 64=q):=⟨_,hid rfl⟩
   rw [Hq.out] at hb
   have hq64:q < 64:=by have:=Hq.out;omega
   have k72:wr.cell? ⟨g,72,none⟩=some (.int .u64 (T:Int)):=hB.cell (i:=72) (by omega)
   have q1:(T:Int).tmod 64=(q:Int):=by rw [Int.tmod_eq_emod_of_nonneg (by omega)];have:=Hq.out;omega
   have q2:(T:Int) % 64=(q:Int):=by have:=Hq.out;omega
   have q3:(q:Int)≤64:=by omega
   have q4:¬ (64=q):=by omega
   obtain ⟨k,Hk⟩:∃ k:Nat,Hid (Nat.min r.length (64 - q)=k):=⟨_,hid rfl⟩
   have hk1:k≤r.length:=by rw [← Hk.out];exact Nat.min_le_left _ _
   have hk2:k≤64 - q:=by rw [← Hk.out];exact Nat.min_le_right _ _
   have hk0:0 < k:=by rw [← Hk.out];exact Nat.lt_min.2 ⟨by omega,by omega⟩
   go_wp2_with fail
   go_still_tail 10,(by kernel_rfl)
   change wpList _ _ _ _ _ wr.drew
   refine wpList_copy_blk (k:=k) rfl (.tmp 16) (.tmp 17) rfl rfl rfl (w:=wr.drew) hv hB.drew Hk.out.symm hk0 (by omega) ?_
   intro w4 hg4 hB4 hs4
   have hB5:Blk w4 g 73 (runf (absb (t ++ d) (T / 64)) (more b r q k) T) 245:=hB4.congr fun i _=>by
    unfold runf more
    by_cases h8:i < 8
    ·rw [if_pos h8,if_pos h8,if_neg (by omega)]
    ·by_cases h72:i < 72
     ·rw [if_neg h8,if_neg h8,if_pos h72,if_pos h72]
      by_cases hin:8 + q≤i∧i < 8 + q + k
      ·rw [if_pos hin,if_pos (by omega),show i - (8 + q)=i - 8 - q from by omega]
      ·rw [if_neg hin,if_neg (by omega)]
     ·rw [if_neg h8,if_neg h8,if_neg h72,if_neg h72,if_neg (by omega)]
   have hv4:Byt w4 (.slice A' r.length c') r:=Byt.keep (w:=wr.drew) hv hg4.size fun b hb e=>hg4.block b hb (fun e2=>hne.out (by rw [e,e2]))
   have hgr4:w.grownBy w4 (some g):=(grown_drewF hgr 1).trans hg4
   have c72:w4.cell? ⟨g,72,none⟩=some (.int .u64 (T:Int)):=hB5.cell (i:=72) (by omega)
   have f72:=hB5.free 72
   have hK4:=hK.grown hgr4 (fun e=>hgK (Option.some.inj e))
   have hk3:(k:Int)≤(r.length:Int):=by omega
   have hcc:=hv4.at_.2.1
   have hq5:T + k < 18446744073709551616:=by omega
   have hlt4:=hB5.lt
   clear hB4 k72 q1 q2 q3 q4 hB hv
   by_cases hz:(T + k) % 64=0
   ·have hz1:((T:Int) + (k:Int)) % 64=0:=by omega
    have hset:=(hB5.set (i:=72) (by omega) (.int .u64 ((T:Int) + (k:Int)))).congr (f':=runf (absb (t ++ d) (T / 64)) (more b r q k) (T + k)) fun i _=>by
     unfold runf
     by_cases h8:i < 8
     ·rw [if_neg (by omega),if_pos h8,if_pos h8]
     ·by_cases h72:i < 72
      ·rw [if_neg (by omega),if_neg h8,if_neg h8,if_pos h72,if_pos h72]
      ·rw [if_pos (by omega),if_neg h8,if_neg h72]
       simp
    have hgr5:w.grownBy (w4.setCell ⟨g,72,none⟩ (.int .u64 ((T:Int) + (k:Int)))) (some g):=hgr4.trans (grown_setCell _ _ _ _)
    have hlt5:=hset.lt
    go_wp2_with (refine wpList_cut rfl (.tmp 19) (.tmp 20) rfl rfl rfl hv4 hk1 ?_;intro A5 c5 hv5 hne5)
    have hv6:Byt (w4.setCell ⟨g,72,none⟩ (.int .u64 ((T:Int) + (k:Int)))) (.slice A5 (r.length - k) c5) (r.drop k):=hv5.keep (by simp [World.setCell]) fun b hb e=>heap_setCell_other _ _ _ _ (fun e2=>hne5 g hne.out (by rw [e,e2]))
    generalize w4.setCell ⟨g,72,none⟩ (.int .u64 ((T:Int) + (k:Int)))=w5 at *
    have hK5:=hK.grown hgr5 (fun e=>hgK (Option.some.inj e))
    clear hB5 c72 f72 hK4 hv4 hv5 hlt4
    have e1:∀ j,j < 8→runf (absb (t ++ d) (T / 64)) (more b r q k) (T + k) (0 + j)=wc (absb (t ++ d) (T / 64) j):=fun j hj=>by unfold runf;rw [Nat.zero_add,if_pos hj]
    have e2:∀ j,j < 64→runf (absb (t ++ d) (T / 64)) (more b r q k) (T + k) (8 + j)=bcell (more b r q k j):=fun j hj=>by unfold runf;rw [if_neg (by omega),if_pos (by omega),Nat.add_sub_cancel_left]
    have l3:=loadA_eq (w:=w5.drew) arrS hset (by omega) e1
    have l4:=loadA_eq (w:=w5.drew) arrB hset (by omega) e2
    go_region_law (go_simp;go_at_call 212;refine (turn_any _ _ _ (show Kst 1 w5.drew from hK5)).mono ?_;rintro e w6 ⟨rfl,hb6⟩;have hset6:Blk w6 g 73 (runf (absb (t ++ d) (T / 64)) (more b r q k) (T + k)) 245:=Blk.keep (w:=w5.drew) hset hb6;obtain ⟨w7,hs7,hg7,hB7,_⟩:=storeA_eq (f':=fun j=>wc (turnS (absb (t ++ d) (T / 64)) (more b r q k) j)) arrS hset6 (o:=0) (by omega) (fun _ _=>rfl))
    all_goals
     have hgr6:w.grownBy w6 (some g):=(grown_drewF hgr5 1).trans (grown_below hb6 _)
     have hv7:Byt w6 (.slice A5 (r.length - k) c5) (r.drop k):=Byt.below (w:=w5.drew) hv6 hb6
     have hB8:Blk w7 g 73 (runf (turnS (absb (t ++ d) (T / 64)) (more b r q k)) (more b r q k) (T + k)) 245:=hB7.congr fun i _=>by
      unfold runf
      by_cases h8:i < 8
      ·rw [if_pos (by omega),if_pos h8,Nat.sub_zero]
      ·rw [if_neg (by omega),if_neg h8,if_neg h8]
     have hv8:Byt w7 (.slice A5 (r.length - k) c5) (r.drop k):=hv7.keep hg7.size fun b hb e=>hg7.block b hb (fun e2=>hne5 g hne.out (by rw [e,e2]))
     clear l3 l4 e1 e2
     go_wp2_with fail
     go_roundw
     case rel=>
      refine ⟨d ++ r.take k,r.drop k,A5,c5,hid (by rw [HL.out,List.append_assoc,List.take_append_drop]),by rw [List.length_drop],by rw [List.length_drop];exact hv8,hid (fun _=>by rw [List.length_drop];exact hne5 g hne.out),?_,hgr6.trans hg7⟩
      rw [← List.append_assoc]
      exact run_full HT.out Hq.out hk1 hb (by have:=Hq.out;omega) hB8
     case measure=>show r.length - k < r.length;omega
   ·have hz1:(((T:Int) + (k:Int)) % 64 == 0)=false:=by rw [beq_eq_false_iff_ne];omega
    have hset:=(hB5.set (i:=72) (by omega) (.int .u64 ((T:Int) + (k:Int)))).congr (f':=runf (absb (t ++ d) (T / 64)) (more b r q k) (T + k)) fun i _=>by
     unfold runf
     by_cases h8:i < 8
     ·rw [if_neg (by omega),if_pos h8,if_pos h8]
     ·by_cases h72:i < 72
      ·rw [if_neg (by omega),if_neg h8,if_neg h8,if_pos h72,if_pos h72]
      ·rw [if_pos (by omega),if_neg h8,if_neg h72]
       simp
    go_wp2_with (refine wpList_cut rfl (.tmp 19) (.tmp 20) rfl rfl rfl hv4 hk1 ?_;intro A5 c5 hv5 hne5)
    go_roundw
    case rel=>
     refine ⟨d ++ r.take k,r.drop k,A5,c5,hid (by rw [HL.out,List.append_assoc,List.take_append_drop]),by rw [List.length_drop],?_,hid (fun _=>by rw [List.length_drop];exact hne5 g hne.out),?_,hgr4.trans (grown_setCell _ _ _ _)⟩
     ·rw [List.length_drop]
      exact hv5.keep (by simp [World.setCell]) fun b hb e=>heap_setCell_other _ _ _ _ (fun e2=>hne5 g hne.out (by rw [e,e2]))
     ·rw [← List.append_assoc]
      exact run_part HT.out Hq.out hk1 hb (by have:=Hq.out;omega) hset
    case measure=>show r.length - k < r.length;omega
end Go.Proofs.YtpdnnmabijmfbaaGreatDoor
namespace Go.Proofs.YtpdnnmabijmfbaaGreatDoor
set_option maxRecDepth 20000
open Go.RowKit
def zrun (j:Nat):Value:=if j < 8 then wc 0 else if j < 72 then bcell 0 else .int .u64 0
theorem zero_run:(Tryz.prog.info? 245).bind (·.zero)=some (.agg (fcells 73 zrun)):=by kernel_rfl
theorem size_run:(Tryz.prog.info? 245).map (·.size)=some 73:=by kernel_rfl
theorem build_run (f:Nat→Value) (w:World):(Instr.build 245 #[(0,.agg (fcells 8 f))]).run Tryz.prog w=.ok (.agg (fcells 73 fun j=>if j < 8 then f j else zrun j)) w:=by kernel_rfl
theorem wpList_build_run {ops:Array Oper} {rest:List Oper} {o:Oper} {a:Act} {w:World} {Q:Exit→Act→World→Prop} (hgd:o.guard=none) (x:Operand) (ho:o.op=.build 245 #[(0,x)])
  {f:Nat→Value} (hx:a.eval x=.agg (fcells 8 f)) (h:wpList Tryz.prog ops Q rest (a.put o.dst (.agg (fcells 73 fun j=>if j < 8 then f j else zrun j))) w):wpList Tryz.prog ops Q (o :: rest) a w:=
 wpList_plain hgd fun _ hK=>by
  unfold Oper.wp execOp
  simp only [ho,List.map_toArray,List.map_cons,List.map_nil,hx,Sem.run_bind,build_run,Sem.run_pure,Result.andThen_ok]
  exact hK _ _ h
theorem wpList_store_run {ops:Array Oper} {rest:List Oper} {o:Oper} {a:Act} {w:World} {Q:Exit→Act→World→Prop} (hgd:o.guard=none) (x y:Operand) (ho:o.op=.store 245 x y)
  {g:Nat} {t:TypeId} {f f':Nat→Value} (hx:a.eval x=.pointer (some ⟨g,0,none⟩)) (hy:a.eval y=.agg (fcells 73 f')) (hg:Blk w g 73 f t) (h1:∀ i,i < 73→(f' i).oneCell'=true)
  (hh:∀ w',w.grownBy w' (some g)→Blk w' g 73 f' t→w'.heap.size=w.heap.size→wpList Tryz.prog ops Q rest (a.put o.dst undef) w'):wpList Tryz.prog ops Q (o :: rest) a w:=
 wpList_store_row hgd _ x y ho g (fcells 73 f') hx hy t (fcells 73 f) hg (by rw [size_run,fcells_size]) (by rw [fcells_size,fcells_size]) (fcells_one h1)
  (hh _ ⟨rfl,rfl,rfl,by simp,fun k _ hk=>setRow_other w g k _ (fun e=>hk (by simp [e]))⟩ (setRow_heap w g _ _ t _ hg) (by simp))
theorem run_start {w:World} {g:Nat} (h:Blk w g 73 (fun j=>if j < 8 then wc (start j) else zrun j) 245):Run w g []:=
 ⟨fun _=>0,h.congr fun i _=>by
  unfold runf zrun
  by_cases h8:i < 8
  ·rw [if_pos h8,if_pos h8];rfl
  ·rw [if_neg h8,if_neg h8,if_neg h8];rfl,fun j hj=>absurd hj (by simp)⟩
theorem Run.bytes {w:World} {g:Nat} {l:List UInt8} (h:Run w g l):w.cell? ⟨g,72,none⟩=some (.int .u64 (l.length:Int)):=by
 obtain ⟨b,hB,_⟩:=h
 rw [hB.cell (i:=72) (by omega)]
 unfold runf
 rw [if_neg (by omega),if_neg (by omega)]
theorem Run.state {w:World} {g:Nat} {l:List UInt8} (h:Run w g l):∃ (f:Nat→Value) (σ:Nat→UInt32),Blk w g 73 f 245∧(∀ j,j < 8→f (0 + j)=.int .u32 (wv (σ j)))∧Hid (σ=absb l (l.length / 64)):=by
 obtain ⟨b,hB,_⟩:=h
 refine ⟨_,absb l (l.length / 64),hB,fun j hj=>?_,hid rfl⟩
 unfold runf
 rw [Nat.zero_add,if_pos hj]
 rfl
def partB (f:Nat→UInt8) (m j:Nat):Value:=if j < m then bcell (f j) else bcell 0
theorem partB_set (f:Nat→UInt8) (m j:Nat):(if j=m then bcell (f m) else partB f m j)=partB f (m + 1) j:=by
 unfold partB
 by_cases h:j=m
 ·subst h
  rw [if_pos rfl,if_pos (by omega)]
 ·rw [if_neg h]
  by_cases h2:j < m
  ·rw [if_pos h2,if_pos (by omega)]
  ·rw [if_neg h2,if_neg (by omega)]
set_option maxHeartbeats 1600000 in
theorem of_any (ls:List (List UInt8)) (vs:Nat→Value) (gp n c:Nat) (w:World) (hn:ls.length=n) (hg:gp < w.heap.size) (hc:∀ j,j < n→w.cell? ⟨gp,j,none⟩=some (vs j))
  (hv:∀ j (h:j < ls.length),Byt w (vs j) ls[j]) (hs:ls.flatten.length≤1000000000) (hn2:n≤1000) (hK:Kst 1 w):
  Calls Tryz.prog 164 #[.slice (some ⟨gp,0,none⟩) n c] w fun e w'=>e=.returned (.agg (fcells 32 fun j=>bcell (sumS ls.flatten j)))∧Below w.heap.size w w':=by
 have Hn:=hid hn
 clear hn
 go_enter Tryz.func164,Tryz.ntmps164
 go_wp2_with (refine wpList_alloc_arr arrH rfl rfl ?_)
 have hb0:Below w.heap.size w (w.alloc (.cells (fcells 32 fun _=>bcell 0) 38)):=(Below.refl _ _).alloc (Nat.le_refl _) _
 have hH0:=Blk.new w 32 (fun _=>bcell 0) 38
 go_wp2_with fail
 refine (start_any _).mono ?_
 rintro e w1 ⟨rfl,hb1⟩
 have hbw1:=hb0.trans (hb1.mono (by simp))
 have hH1:=hH0.keep hb1
 have hs1:=hbw1.size
 clear hb0 hH0 hb1
 go_wp2_with (first
  | (refine wpList_build_run rfl (.tmp 10) rfl rfl ?_)
  | (refine wpList_alloc_cells zero_run rfl rfl ?_)
  | (refine wpList_store_run rfl _ _ rfl rfl rfl (Blk.new w1 73 zrun 245) (fun i hi=>by unfold zrun;split;rfl;split;rfl;rfl) ?_;intro w2 hg2 hR2 hs2))
 have hr2:=run_start hR2
 have hbw2:Below w.heap.size w w2:=below_into (hbw1.alloc hs1 _) hs1 hg2 (by simp;omega)
 have hH2:Blk w2 w.heap.size 32 (fun _=>bcell 0) 38:=(hH1.alloc _).grown hg2 (by have:=hH1.lt;simp;omega)
 have hlt1:=hH1.lt
 obtain ⟨G,HG⟩:∃ G:Nat,Hid (w1.heap.size=G):=⟨_,hid rfl⟩
 rw [HG.out] at hr2 hR2 hg2 hlt1 ⊢
 clear hR2 hg2 hs2 hH1 hbw1
 have hGw:w.heap.size < G:=hlt1
 have hG1:G≠1:=by have:=hK.1;omega
 try go_frame
 go_wp2_with fail
 go_loopw [14] (fun si wr=>∃ i:Nat,i≤n∧si=.int .i64 i∧Run wr G (ls.take i).flatten∧Below w.heap.size w wr∧Blk wr w.heap.size 32 (fun _=>bcell 0) 38) (fun si _=>n - (intOf si).toNat)
 case atStart=>exact ⟨0,Nat.zero_le _,rfl,by rw [List.take_zero];exact hr2,hbw2,hH2⟩
 case round=>
  clear hr2 hbw2 hH2
  obtain ⟨i,hi,rfl,hr,hbw,hH⟩:=hrel
  by_cases hlt:i < n
  ·have hlt':i < ls.length:=by rw [Hn.out];exact hlt
   have hci:=(hbw.cell (p:=⟨gp,i,none⟩) hg).trans (hc i hlt)
   have hvi:=(hv i hlt').below hbw
   have hKr:=hK.below hbw
   have hlen:(ls.take i).flatten.length + ls[i].length≤1099511627776:=by
    have h1:(ls.take i).flatten ++ ls[i]=(ls.take (i + 1)).flatten:=by rw [List.take_succ_eq_append_getElem hlt',List.flatten_append,List.flatten_singleton]
    have h2:=congrArg List.length h1
    have h3:=congrArg (fun l=>l.flatten.length) (List.take_append_drop (i + 1) ls)
    simp only [List.flatten_append,List.length_append] at h2 h3
    omega
   have hbl:0 < ls[i].length→(vs i).ownBlock≠some G:=fun h0=>byt_block (hv i hlt') h0 (by omega)
   have hin:(i:Int) < (n:Int):=by omega
   go_wp2_with (go_at_call 194;refine (put_any G _ _ _ _ hKr hG1 hr hvi hbl hlen).mono ?_;rintro e w3 ⟨rfl,hr3,hg3⟩)
   go_roundw
   case rel=>
    refine ⟨i + 1,by omega,by go_num,?_,below_into hbw (by omega) hg3 hbw.size,hH.grown hg3 (fun e=>by have:=Option.some.inj e;omega)⟩
    rw [List.take_succ_eq_append_getElem hlt',List.flatten_append,List.flatten_singleton]
    exact hr3
   case measure=>simp [intOf];omega
  ·have hin:¬ (i:Int) < (n:Int):=by omega
   have hrA:Run wr G ls.flatten:=by
    have e:ls.take i=ls:=List.take_of_length_le (by have:=Hn.out;omega)
    rw [e] at hr
    exact hr
   clear hr hc hv
   obtain ⟨L,HL⟩:∃ L:Nat,Hid (ls.flatten.length=L):=⟨_,hid rfl⟩
   have hcell:=hrA.bytes
   rw [HL.out] at hcell hs
   have hltG:=hrA.lt
   go_wp2_with fail
   refine (filling_any L _ (by omega)).mono ?_
   rintro e w4 ⟨v4,rfl,hown4,hb4⟩
   have hbw4:=hbw.trans (hb4.mono hbw.size)
   have hr4:=hrA.keep hb4
   have hH4:=hH.keep hb4
   have hK4:=hK.below hbw4
   have hne4:0 < (tailS L).length→v4.ownBlock≠some G:=fun _ e=>by
    have:=(World.ownsRow.lt hown4 G e).1
    omega
   clear hcell
   go_wp2_with fail
   refine (put_any G _ _ _ _ hK4 hG1 hr4 hown4.byt hne4 (by rw [tailS_length,HL.out];have:=noughts_le L;omega)).mono ?_
   rintro e w5 ⟨rfl,hr5,hg5⟩
   have hbw5:Below w.heap.size w w5:=below_into hbw4 (by omega) hg5 hbw4.size
   have hH5:=hH4.grown hg5 (fun e=>by have:=Option.some.inj e;omega)
   obtain ⟨F,σ,hB5,e5,Hσ⟩:=hr5.state
   clear hr4 hH4 hK4 hown4 hb4 hbw4 hg5 hrA hH hbw hne4
   have hs5:=hbw5.size
   have hltG5:=hB5.lt
   have hB6:=hB5.alloc (.cells (fcells 32 fun _=>bcell 0) 38)
   go_wp2_with (first
    | (refine wpList_alloc_arr arrH rfl rfl ?_)
    | (refine wpList_load_arr_mid arrS rfl (.tmp 25) rfl rfl hB6 (by omega) e5 ?_))
   have hσ:∀ i,sumS ls.flatten i=byteOf (σ (i / 4)) (i % 4):=fun i=>by
    unfold sumS
    rw [Hσ.out]
    unfold fillS
    rw [HL.out]
   clear e5 hB6 hB5 Hσ
   have hH6:Blk (w5.alloc (.cells (fcells 32 fun _=>bcell 0) 38)) w.heap.size 32 (fun _=>bcell 0) 38:=hH5.alloc _
   have hQ6:Blk (w5.alloc (.cells (fcells 32 fun _=>bcell 0) 38)) w5.heap.size 32 (fun _=>bcell 0) 38:=Blk.new w5 _ _ _
   have hbw6:Below w.heap.size w (w5.alloc (.cells (fcells 32 fun _=>bcell 0) 38)):=hbw5.alloc hs5 _
   obtain ⟨Q,HQ⟩:∃ Q:Nat,Hid (w5.heap.size=Q):=⟨_,hid rfl⟩
   rw [HQ.out] at hQ6 ⊢
   have hQw:w.heap.size < Q:=by have:=HQ.out;omega
   generalize w5.alloc (.cells (fcells 32 fun _=>bcell 0) 38)=w6 at *
   obtain ⟨SA,HSA⟩:∃ SA:Value,Hid (Value.agg (fcells 8 fun j=>.int .u32 (wv (σ j)))=SA):=⟨_,hid rfl⟩
   rw [HSA.out]
   have hidx:∀ (i:Nat),i < 8→∀ w,(Instr.index 242 SA (.int .i64 (i:Int))).run Tryz.prog w=.ok (.int .u32 (wv (σ i))) w:=fun i hi w=>by
    rw [← HSA.out]
    exact arrS.run_index _ hi w
   clear hH5 hbw5 hs5 hltG5
   try go_frame
   have HS:=hid hσ
   clear hσ
   go_wp2_with fail
   go_loopw [27] (fun si wr=>∃ i:Nat,i≤8∧si=.int .i64 i∧Below w.heap.size w wr∧Blk wr w.heap.size 32 (fun _=>bcell 0) 38∧Blk wr Q 32 (partB (sumS ls.flatten) (4 * i)) 38) (fun si _=>8 - (intOf si).toNat)
   case atStart=>exact ⟨0,by omega,rfl,hbw6,hH6,hQ6.congr fun i _=>by simp [partB]⟩
   case round=>
    clear hbw6 hH6 hQ6
    obtain ⟨m,hm,rfl,hbw,hH,hQ⟩:=hrel
    by_cases hlt:m < 8
    ·have hx:=hidx m hlt
     have hm8:(m:Int) < 8:=by omega
     clear hidx
     obtain ⟨wo,rfl⟩:∃ wo:World,wo=wr:=⟨_,rfl⟩
     go_wp2_with fail
     go_loopw [31] (fun sj wr=>∃ j:Nat,j≤4∧sj=.int .i64 j∧Below w.heap.size w wr∧Blk wr w.heap.size 32 (fun _=>bcell 0) 38∧Blk wr Q 32 (partB (sumS ls.flatten) (4 * m + j)) 38) (fun sj _=>4 - (intOf sj).toNat)
     case atStart=>exact ⟨0,by omega,rfl,hbw,hH,hQ⟩
     case round=>
      clear hbw hH hQ
      obtain ⟨j,hj,rfl,hbw,hH,hQ⟩:=hrel
      by_cases hlt2:j < 4
      ·have hj4:(j:Int) < 4:=by omega
       have hsh:0≤24 - 8 * (j:Int):=by omega
       have hin2:4 * (m:Int) + (j:Int) < 32:=by omega
       have kc:=hQ.cell (i:=4 * m + j) (by omega)
       have fc:=hQ.free (4 * m + j)
       have hval:Value.int .u8 (wv (σ m) / 2 ^ (24 - 8 * j) % 256)=bcell (sumS ls.flatten (4 * m + j)):=by
        rw [HS.out,show (4 * m + j) / 4=m from by omega,show (4 * m + j) % 4=j from by omega]
        unfold bcell byteOf
        rw [u8_ofNat]
        unfold wv
        simp
       have HV:=hid hval
       clear hval
       go_wp2_with fail
       go_roundw
       case rel=>
        refine ⟨j + 1,by omega,by go_num,below_set hbw (g:=Q) (by omega) _ _,hH.apart _ _ (by omega),(hQ.set (i:=4 * m + j) (by omega) _).congr fun q _=>?_⟩
        rw [HV.out,← Nat.add_assoc,← partB_set]
       case measure=>simp [intOf];omega
      ·have hj4:¬ (j:Int) < 4:=by omega
       go_wp2_with fail
       go_roundw
       case rel=>exact ⟨m + 1,by omega,by go_num,hbw,hH,by rw [show 4 * (m + 1)=4 * m + j from by omega];exact hQ⟩
       case measure=>simp [intOf];omega
    ·have hm8:¬ (m:Int) < 8:=by omega
     have hQ2:Blk wr Q 32 (fun j=>bcell (sumS ls.flatten j)) 38:=hQ.congr fun q hq=>if_pos (by omega)
     clear hidx
     go_wp2_with (first
      | (refine wpList_load_arr arrH rfl _ rfl rfl hQ2 ?_)
      | (refine wpList_store_arr arrH rfl _ _ rfl rfl rfl hH (fun _ _=>rfl) ?_;intro w9 hg9 hA9 hs9))
     refine bodyPost_ret (arrH.result rfl _ _ rfl hA9) rfl ⟨rfl,?_⟩
     exact below_into hbw (Nat.le_refl _) hg9 hbw.size
end Go.Proofs.YtpdnnmabijmfbaaGreatDoor
namespace Go.Proofs.YtpdnnmabijmfbaaGreatDoor
set_option maxRecDepth 20000
open Go.RowKit
theorem of_one (v:Value) (l:List UInt8) (gp c:Nat) (w:World) (hg:gp < w.heap.size) (h0:w.cell? ⟨gp,0,none⟩=some v) (b0:Byt w v l) (hs:l.length≤1000000) (hK:Kst 1 w):
  Calls Tryz.prog 164 #[.slice (some ⟨gp,0,none⟩) 1 c] w fun e w'=>e=.returned (.agg (fcells 32 fun j=>bcell (sumS l j)))∧Below w.heap.size w w':=by
 have h:=of_any [l] (fun _=>v) gp 1 c w rfl hg (fun j hj=>by
  obtain rfl:j=0:=by omega
  exact h0) (fun j hj=>by
  have hj2:j < 1:=hj
  obtain rfl:j=0:=by omega
  exact b0) (by simp;omega) (by omega) hK
 have e:([l]:List (List UInt8)).flatten=l:=by simp
 rw [e] at h
 exact h
def blockOf (l:List UInt8) (k j:Nat):UInt8:=l.getD (64 * k + j) 0
end Go.Proofs.YtpdnnmabijmfbaaGreatDoor
namespace Go.Proofs.YtpdnnmabijmfbaaGreatDoor
set_option maxRecDepth 20000
open Go.RowKit
def tyHide (T:TypeId) (_:Nat):TypeId:=T
theorem exec_load_hide (T:TypeId) (k:Nat) (r:Operand→Value) (x:Operand) (dst:Option Tmp) (ty:TypeId) (pos:String) (after:Array Edge) (guard:Option (Nat × Bool)) (w:World):
  Sem.run Tryz.prog (execOp r { dst:=dst,op:=.load (tyHide T k) x,type:=ty,pos:=pos,after:=after,guard:=guard }) w=loadA (tyHide T k) (r x) w:=rfl
theorem tyHide_load {T:TypeId} {k:Nat} (h:T=k) (x:Operand):Op.load k x=Op.load (tyHide T k) x:=by
 unfold tyHide
 rw [h]
theorem loadA_hide {T k:TypeId} {E:TypeId} {n:Nat} {z:Value} (h:T=k) (H:ArrT k E n z) {w:World} {g N o:Nat} {f f':Nat→Value} {t:TypeId} (hg:Blk w g N f t) (ho:o + n≤N) (e:∀ j,j < n→f (o + j)=f' j):
  loadA (tyHide T k) (.pointer (some ⟨g,o,none⟩)) w=.ok (.value (.agg (fcells n f'))) w:=by
 unfold tyHide
 rw [h]
 exact loadA_eq H hg ho e
theorem of_two (v0 v1:Value) (l0 l1:List UInt8) (gp c:Nat) (w:World) (hg:gp < w.heap.size) (h0:w.cell? ⟨gp,0,none⟩=some v0) (h1:w.cell? ⟨gp,1,none⟩=some v1) (b0:Byt w v0 l0) (b1:Byt w v1 l1)
  {l:List UInt8} (hl:l0 ++ l1=l) (hs:l.length≤1000000) (hK:Kst 1 w):
  Calls Tryz.prog 164 #[.slice (some ⟨gp,0,none⟩) 2 c] w fun e w'=>e=.returned (.agg (fcells 32 fun j=>bcell (sumS l j)))∧Below w.heap.size w w':=by
 have e:([l0,l1]:List (List UInt8)).flatten=l:=by simp [hl]
 have h:=of_any [l0,l1] (fun j=>if j=0 then v0 else v1) gp 2 c w rfl hg (fun j hj=>by
  obtain rfl | rfl:j=0∨j=1:=by omega
  ·exact h0
  ·exact h1) (fun j hj=>by
  have hj2:j < 2:=hj
  obtain rfl | rfl:j=0∨j=1:=by omega
  ·exact b0
  ·exact b1) (by rw [e];omega) (by omega) hK
 rw [e] at h
 exact h
theorem hash_same (D:Array Value) (f:Nat→UInt8) (h:fcells 32 (fun j=>bcell (f j))=D) (w:World):(Op.equalIn 10000 38 (.agg D) (.agg D)).run Tryz.prog w=.ok true w:=by
 subst h
 exact arrH.eq_self (k:=.u8) (by kernel_rfl) (a:=fun i=>((f i).toNat:Int)) (fun _ _=>rfl) w
end Go.Proofs.YtpdnnmabijmfbaaGreatDoor
namespace Go.Proofs.YtpdnnmabijmfbaaGreatDoor
set_option maxRecDepth 20000
open Go.ChangeShapes Go.WideShapes Go.ChangeAt Go.RowKit
def kz:List Int:=kl.map wv
theorem laid_sha:(Rows.laid_tithing_sha_constants:DataW Unit)=Lib.tabData .u32 kz:=by kernel_rfl
theorem kz_at {i:Nat} (h:i < 64):kz.getD i 0=wv (kc i):=by
 have hl:kl.length=64:=rfl
 unfold kz kc
 simp [List.getD_eq_getElem?_getD,hl,h]
theorem gSha : Tryz.prog.globalNamed "tithing/sha.constants" = some 1 := by kernel_rfl
theorem tSha:(Tryz.prog.globals[1]?).map (·.type)=some 263:=by kernel_rfl
theorem gRef : Tryz.prog.globalNamed "tithing/tithingref02.constants" = some 0 := by kernel_rfl
theorem tRef:(Tryz.prog.globals[0]?).map (·.type)=some 263:=by kernel_rfl
theorem kst_of {name:String} {g:Nat} {W:World} {rest:List (String × DataW Unit)} (hg:Tryz.prog.globalNamed name=some g) (ht:(Tryz.prog.globals[g]?).map (·.type)=some 263)
  (h:laidMet Tryz.prog ((name,Lib.tabData .u32 kz) :: rest) W):Kst g W:=by
 have hT:=Lib.tabIs_of_head hg ht Tryz.underlying263 Tryz.underlying85 (by kernel_rfl) (by kernel_rfl) h
 have hc:∀ j,j < 64→W.cell? ⟨g,j,none⟩=some (.int .u32 (wv (kc j))):=fun j hj=>by
  rw [hT.cell hg j (by simp [kz];exact hj),kz_at hj]
 exact ⟨World.block_lt_of_cell? W _ (hc 0 (by omega)),hc⟩
end Go.Proofs.YtpdnnmabijmfbaaGreatDoor
namespace Go.Proofs.YtpdnnmabijmfbaaGreatDoor
set_option maxRecDepth 20000
open Go.RowKit
theorem byt_eight (w:World) (c0 c1 c2 c3 c4 c5 c6 c7:UInt8) (x0 x1 x2 x3 x4 x5 x6 x7:Int) (h0:x0=(c0.toNat:Int)) (h1:x1=(c1.toNat:Int)) (h2:x2=(c2.toNat:Int)) (h3:x3=(c3.toNat:Int)) (h4:x4=(c4.toNat:Int)) (h5:x5=(c5.toNat:Int)) (h6:x6=(c6.toNat:Int)) (h7:x7=(c7.toNat:Int)):Byt (w.alloc (.cells #[.int .u8 x0,.int .u8 x1,.int .u8 x2,.int .u8 x3,.int .u8 x4,.int .u8 x5,.int .u8 x6,.int .u8 x7] 5)) (.slice (some ⟨w.heap.size,0,none⟩) 8 8) [c0,c1,c2,c3,c4,c5,c6,c7]:=by
 subst h0 h1 h2 h3 h4 h5 h6 h7
 refine ⟨_,8,rfl,Nat.le_refl _,by unfold maxLen;omega,fun _=>⟨w.heap.size,0,rfl,by simp,fun j hj=>?_⟩⟩
 have B:=(Blk.new w 8 (fun j=>bcell ([c0,c1,c2,c3,c4,c5,c6,c7].getD j 0)) 5).cell (i:=j) hj
 have e:(fcells 8 fun j=>bcell ([c0,c1,c2,c3,c4,c5,c6,c7].getD j 0))=#[.int .u8 (c0.toNat:Int),.int .u8 (c1.toNat:Int),.int .u8 (c2.toNat:Int),.int .u8 (c3.toNat:Int),.int .u8 (c4.toNat:Int),.int .u8 (c5.toNat:Int),.int .u8 (c6.toNat:Int),.int .u8 (c7.toNat:Int)]:=rfl
 rw [e] at B
 obtain rfl | rfl | rfl | rfl | rfl | rfl | rfl | rfl:j=0∨j=1∨j=2∨j=3∨j=4∨j=5∨j=6∨j=7:=by simp at hj;omega
 all_goals first | exact B | (rw [addr_add];exact B) | (simp [Addr.add] at B ⊢;exact B) | simpa using B
theorem be8_list (m:Nat):be8 m 8=[UInt8.ofNat (m / 72057594037927936),UInt8.ofNat (m / 281474976710656),UInt8.ofNat (m / 1099511627776),UInt8.ofNat (m / 4294967296),UInt8.ofNat (m / 16777216),UInt8.ofNat (m / 65536),UInt8.ofNat (m / 256),UInt8.ofNat m]:=by simp [be8]
set_option maxHeartbeats 3200000 in
theorem refFill_any (v:Value) (l:List UInt8) (w:World) (hv:Byt w v l) (hs:l.length≤1000000):
  Calls Tryz.prog 198 #[v] w fun e w'=>∃ x,e=.returned x∧Own w.heap.size w' x (fillS l)∧Below w.heap.size w w':=by
 obtain ⟨A,c,rfl⟩:=hv.shape
 obtain ⟨L,HL⟩:∃ L:Nat,Hid (l.length=L):=⟨_,hid rfl⟩
 rw [HL.out] at hs hv ⊢
 have hnl:=noughts_le L
 go_enter Tryz.func198,Tryz.ntmps198
 have hown0:Own w.heap.size (w.alloc (.cells #[] 5)) (.slice (some ⟨w.heap.size,0,none⟩) 0 0) []:=
  ⟨by simp [bcells],.inr ⟨w.heap.size,0,#[],rfl,Nat.le_refl _,by rw [heap_alloc_new],Nat.le_refl _,by unfold maxLen;omega,rfl,by simp [bcells]⟩⟩
 have hb0:Below w.heap.size w (w.alloc (.cells #[] 5)):=(Below.refl _ _).alloc (Nat.le_refl _) _
 have hv0:=hv.below hb0
 have hs0:=hb0.size
 have hr1:([]:List UInt8).length + l.length≤140737488355328:=by rw [HL.out];simp;omega
 have hr2:([] ++ l:List UInt8).length + ([128]:List UInt8).length≤140737488355328:=by rw [List.nil_append,HL.out,List.length_singleton];omega
 go_wp2_with (first
  | (at_builtin;refine wpList_append_byt rfl (.tmp 5) (.tmp 6) rfl rfl rfl hown0 hv0 hr1 hs0 ?_;intro v1 w1 hown1 hg1 hv1;have hb1:Below w.heap.size w w1:=hb0.grown hg1 hs0 (fun k hk=>(World.ownsRow.lt hown0 k hk).1);have hs1:=hb1.size;have hs2:w.heap.size≤(w1.alloc (.cells #[.int .u8 128] 5)).heap.size:=by simp;omega)
  | (at_builtin;refine wpList_append_byt rfl (.tmp 7) (.tmp 8) rfl rfl rfl (hown1.alloc _) (byt_one _ _ 128 rfl) hr2 hs2 ?_;intro v2 w2 hown2 hg2 hv2))
 have hb2:Below w.heap.size w w2:=(hb1.alloc hs1 _).grown hg2 hs2 (fun k hk=>(World.ownsRow.lt hown1 k hk).1)
 have e2:([] ++ l ++ [128]:List UInt8)=l ++ 128 :: List.replicate 0 0:=by simp
 rw [e2] at hown2
 obtain ⟨A2,c2,rfl⟩:=hown2.byt.shape
 have hl2:(l ++ 128 :: List.replicate 0 0:List UInt8).length=L + 1:=by simp;exact HL.out
 rw [hl2] at hown2 ⊢
 clear hg2 hl2 e2 hg1 hown1 hb1 hs1 hs2 hown0 hb0 hv0 hs0 hr1 hr2 hv2 hv1
 try go_frame
 go_wp2_with fail
 go_loopw [3] (fun v wr=>∃ (z m:Nat) (A:Option Addr) (c:Nat),z≤noughts L∧Hid (m=L + z + 1)∧v=.slice A m c∧Hid (Own w.heap.size wr (.slice A m c) (l ++ 128 :: List.replicate z 0))∧Below w.heap.size w wr) (fun v _=>L + 100 - slen2 v)
 case atStart=>exact ⟨0,L + 1,A2,c2,Nat.zero_le _,hid rfl,rfl,hid hown2,hb2⟩
 case round=>
  clear hown2 hb2
  obtain ⟨z,m,A3,c3,hz,HM,rfl,HO,hbw⟩:=hrel
  have hbs:=hbw.size
  have hm:m≤L + 100:=by have:=HM.out;omega
  have hlen:(l ++ 128 :: List.replicate z 0:List UInt8).length + ([0]:List UInt8).length≤140737488355328:=by
   simp
   have:=HL.out
   omega
  by_cases hlt:z < noughts L
  ·have ht:((m:Int) % 64 != 56)=true:=by
    rw [bne_iff_ne]
    have:=HM.out
    unfold noughts at hlt
    omega
   go_wp2_with (at_builtin;refine wpList_append_byt rfl (.tmp 14) (.tmp 15) rfl rfl rfl (HO.out.alloc _) (byt_one _ _ 0 rfl) hlen (by simp;omega) ?_;intro v4 w4 hown4 hg4 _)
   have hb4:Below w.heap.size w w4:=(hbw.alloc hbs _).grown hg4 (by simp;omega) (fun k hk=>(World.ownsRow.lt HO.out k hk).1)
   have hl:(l ++ 128 :: List.replicate z 0:List UInt8) ++ [0]=l ++ 128 :: List.replicate (z + 1) 0:=by
    rw [List.replicate_succ',List.append_assoc,List.cons_append]
   rw [hl] at hown4
   clear hl hg4
   obtain ⟨A4,c4,rfl⟩:=hown4.byt.shape
   have hl4:(l ++ 128 :: List.replicate (z + 1) 0:List UInt8).length=m + 1:=by simp;have:=HM.out;have:=HL.out;omega
   rw [hl4] at hown4 ⊢
   have HO4:=hid hown4
   clear hl4 hown4 hlen
   try go_frame
   go_roundw
   case rel=>exact ⟨z + 1,m + 1,A4,c4,by omega,hid (by have:=HM.out;omega),rfl,HO4,hb4⟩
   case measure=>show L + 100 - (m + 1) < L + 100 - m;have:=HM.out;omega
  ·have ht:((m:Int) % 64 != 56)=false:=by
    rw [bne_eq_false_iff_eq]
    have:=HM.out
    unfold noughts at hlt hz
    omega
   have HO3:Hid (Own w.heap.size wr (.slice A3 m c3) (l ++ 128 :: List.replicate (noughts L) 0)):=by
    have e:z=noughts L:=by omega
    have:=HO.out
    rw [e] at this
    exact hid this
   clear HO hlen
   have Q0:Hid ((L:Int) * 8 / 72057594037927936=((UInt8.ofNat (L * 8 / 72057594037927936)).toNat:Int)):=hid (by rw [u8_ofNat];omega)
   have Q1:Hid ((L:Int) * 8 / 281474976710656=((UInt8.ofNat (L * 8 / 281474976710656)).toNat:Int)):=hid (by rw [u8_ofNat];omega)
   have Q2:Hid ((L:Int) * 8 / 1099511627776=((UInt8.ofNat (L * 8 / 1099511627776)).toNat:Int)):=hid (by rw [u8_ofNat];omega)
   have Q3:Hid ((L:Int) * 8 / 4294967296=((UInt8.ofNat (L * 8 / 4294967296)).toNat:Int)):=hid (by rw [u8_ofNat];omega)
   have Q4:Hid ((L:Int) * 8 / 16777216=((UInt8.ofNat (L * 8 / 16777216)).toNat:Int)):=hid (by rw [u8_ofNat];omega)
   have Q5:Hid ((L:Int) * 8 / 65536=((UInt8.ofNat (L * 8 / 65536)).toNat:Int)):=hid (by rw [u8_ofNat];omega)
   have Q6:Hid ((L:Int) * 8 / 256 % 256=((UInt8.ofNat (L * 8 / 256)).toNat:Int)):=hid (by rw [u8_ofNat];omega)
   have Q7:Hid ((L:Int) * 8 % 256=((UInt8.ofNat (L * 8)).toNat:Int)):=hid (by rw [u8_ofNat];omega)
   have hlen5:(l ++ 128 :: List.replicate (noughts L) 0:List UInt8).length + (be8 (L * 8) 8).length≤140737488355328:=by
    rw [be8_length]
    simp
    have:=HL.out
    omega
   have he:∀ w':World,Byt (w'.alloc (.cells #[.int .u8 ((L:Int) * 8 / 72057594037927936),.int .u8 ((L:Int) * 8 / 281474976710656),.int .u8 ((L:Int) * 8 / 1099511627776),.int .u8 ((L:Int) * 8 / 4294967296),.int .u8 ((L:Int) * 8 / 16777216),.int .u8 ((L:Int) * 8 / 65536),.int .u8 ((L:Int) * 8 / 256 % 256),.int .u8 ((L:Int) * 8 % 256)] 5)) (.slice (some ⟨w'.heap.size,0,none⟩) 8 8) (be8 (L * 8) 8):=fun w'=>by
    rw [be8_list]
    exact byt_eight w' _ _ _ _ _ _ _ _ _ _ _ _ _ _ _ _ Q0.out Q1.out Q2.out Q3.out Q4.out Q5.out Q6.out Q7.out
   clear Q0 Q1 Q2 Q3 Q4 Q5 Q6 Q7
   have HE:=hid he
   clear he
   go_wp2_with (at_builtin;refine wpList_append_byt rfl (.tmp 21) (.tmp 45) rfl rfl rfl (HO3.out.alloc _) (HE.out _) hlen5 (by simp;omega) ?_;intro v5 w5 hown5 hg5 _)
   go_ret
   have e:fillS l=l ++ 128 :: List.replicate (noughts L) 0 ++ be8 (L * 8) 8:=by
    rw [← HL.out,List.append_assoc]
    rfl
   rw [e]
   exact ⟨_,rfl,hown5,(hbw.alloc hbs _).grown hg5 (by simp;omega) (fun k hk=>(World.ownsRow.lt HO3.out k hk).1)⟩
end Go.Proofs.YtpdnnmabijmfbaaGreatDoor
