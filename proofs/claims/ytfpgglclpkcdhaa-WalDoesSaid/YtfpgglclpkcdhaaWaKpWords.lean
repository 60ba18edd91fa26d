/-
  WalKeeps: what stands between two acts, and behind what is put.
-/
import Derived.Test.YtfpgglclpkcdhaaWaAwake
import Derived.Test.YtfpgglclpkcdhaaWaTexts
namespace Go.Proofs.Ytfpgglclpkcdhaa
set_option maxRecDepth 20000
open Go.RowKit
noncomputable def cutBtH (v h : Value) (w : World) : Result Next := Sem.run Try.prog (execOp (fun o => match o with | .tmp 0 => v | _ => h) { dst := none, op := .slice 30 (.tmp 0) none (some (.tmp 1)) none, type := 0, pos := "", after := #[], guard := none }) w
theorem exec_cut_bth (r:Operand→Value) (x h:Operand) (dst:Option Tmp) (ty:TypeId) (pos:String) (after:Array Edge) (guard:Option (Nat × Bool)) (w:World):
  Sem.run Try.prog (execOp r { dst:=dst,op:=.slice 30 x none (some h) none,type:=ty,pos:=pos,after:=after,guard:=guard }) w=cutBtH (r x) (r h) w:=rfl
theorem cut_bth (A:Option Addr) (c L k:Nat) (hk:k≤L) (hc:L≤c):∃ A' c',(∀ w,cutBtH (.slice A L c) (.int .i64 (k:Int)) w=.ok (.value (.slice A' k c')) w)∧∀ w l,l.length=L→Els btl 1 w (.slice A L c) l→Els btl 1 w (.slice A' k c') (l.take k):=by
 refine ⟨if c=0 then A else A.map (·.add (0 * 1)),c,fun w=>?_,fun w l hl hv=>?_⟩
 ·obtain ⟨i0,z,hi,hz0,hz1,hz2,_⟩:=(eltBt (fun _=>True)).info
  have hk4:k≤c:=by omega
  unfold cutBtH execOp
  simp [Instr.sliceAt,Instr.slice,run_underlying (eltBt (fun _=>True)).under,Instr.sliceBounds,Instr.sliceBound,asIntOf,sizeOf,typeInfo,hi,hk4,Sem.run_bind]
 ·obtain ⟨_,h1,h2,h3⟩:=hv.at_
  have hs:(l.take k).length=k:=by rw [List.length_take];omega
  refine ⟨_,_,by rw [hs],by omega,by omega,fun h0=>?_⟩
  rw [hs] at h0
  obtain ⟨b,off,rfl,hb,hcl⟩:=h3 (by omega)
  rw [if_neg (by omega)]
  refine ⟨b,off,by simp [addr_add],hb,fun j hj=>?_⟩
  rw [List.getElem_take]
  exact hcl j (by rw [List.length_take] at hj;omega)
theorem putW_many (V:WaM) (l:List (List UInt8)):(putW V l).many≤V.many + l.length:=by
 unfold putW
 split
 ·omega
 split
 ·omega
 split
 ·omega
 ·simp only
  split <;> omega
theorem putW_brk {V:WaM} {l:List (List UInt8)} (hi:V.is_=true) (hb:V.broken=false):(putW V l).broken=decide (putE V l=6):=by
 have hno:¬ (V.is_=false∨V.broken=true):=by rw [hi,hb];simp
 unfold putW
 rw [if_neg hno]
 by_cases hm:MayR l
 ·have hnm:¬ ¬ MayR l:=fun h=>h hm
  rw [if_neg hnm]
  by_cases hl:l=[]
  ·rw [if_pos hl]
   unfold putE
   rw [if_neg hno,if_neg hnm,if_pos hl,hb]
   rfl
  ·rw [if_neg hl]
 ·rw [if_pos hm]
  unfold putE
  rw [if_neg hno,if_pos hm,hb]
  rfl
theorem TxAt.grownB {B B':Nat} {a:Option Nat} {w w':World} {t:BtM} {x:Value} {L:List BtM} (h:TxAt B a w t) (ho:OwnB B w x L) (hg:w.grownBy w' x.ownBlock) (hB:B'=B):TxAt B' a w' t:=by
 subst hB
 by_cases hl:t.l=[]
 ·refine ⟨?_,.inl hl⟩
  have:=h.1
  rw [hl] at this ⊢
  exact byt_nil_any this _
 rcases h.2 with h0 | ⟨k,e,hk,h3⟩
 ·exact absurd h0 hl
 have hkp:w'.heap[k]?=w.heap[k]?:=hg.block k hk (fun e2=>by
  obtain ⟨h5,D,hD⟩:=ho.blk e2.symm
  rcases h3 with h3 | ⟨⟨C,hC⟩,_⟩
  ·omega
  ·exact blk_ne hC hD (by decide) rfl)
 have hkj:∀ j,j < w.heap.size→t.v.ownBlock=some j→w'.heap[j]?=w.heap[j]?:=fun j _ ej=>by
  rw [e] at ej
  injection ej with ej
  subst ej
  exact hkp
 refine ⟨h.1.keep hg.size hkj,.inr ⟨k,e,Nat.lt_of_lt_of_le hk hg.size,?_⟩⟩
 rcases h3 with h3 | ⟨⟨C,hC⟩,h4⟩
 ·exact .inl h3
 ·exact .inr ⟨⟨C,hkp.trans hC⟩,h4⟩
theorem DkE.grownB {b B:Nat} {D:DkM} {va vt x:Value} {w w':World} {L:List BtM} (h:DkE w b B D va vt) (ho:OwnB B w x L) (hg:w.grownBy w' x.ownBlock):DkE w' b B D va vt:=
 h.kept hg.size (fun k C T hk hT=>hg.block k (lt_of_block hk) (fun e=>by
  obtain ⟨_,R,hR⟩:=ho.blk e.symm
  exact blk_ne hk hR (by rcases hT with rfl | rfl <;> decide) rfl))
theorem blk_grownB {B g:Nat} {x:Value} {w w':World} {L:List BtM} {C:Array Value} {T:TypeId} (hx:w.heap[g]?=some (.cells C T (0,0))) (hT:T≠33) (ho:OwnB B w x L) (hg:w.grownBy w' x.ownBlock):w'.heap[g]?=some (.cells C T (0,0)):=
 (hg.block g (lt_of_block hx) (fun e=>by
  obtain ⟨_,R,hR⟩:=ho.blk e.symm
  exact blk_ne hx hR hT rfl)).trans hx
structure KvE (w W:World) (a:Option Nat) (K:List BtM) (kv:Value):Prop where
 o:OwnB w.heap.size W kv K
 t:∀ t ∈ K,TxAt w.heap.size a W t
theorem KvE.below {w W W':World} {a:Option Nat} {K:List BtM} {kv:Value} (h:KvE w W a K kv) (hb:Below W.heap.size W W'):KvE w W' a K kv:=⟨OwnE.below h.o hb,fun t ht=>(h.t t ht).below hb⟩
theorem KvE.turn {w W W':World} {b c:Nat} {n:Int} {br:Bool} {D:DkM} {va vt kv:Value} {a':Option Nat} {K:List BtM} (h:KvE w W va.ownBlock K kv) (hE:DkE W b w.heap.size D va vt) (hb:w.heap.size≤b) (hc:w.heap.size≤c) (hw:WlE W c b n br) (ht:TnW b c va.ownBlock W W') (hn:Nw W va.ownBlock a'):KvE w W' a' K kv:=
 ⟨OwnB.kept h.o (fun k C hC=>(ht.other hE hC (by decide) (by decide) (blk_ne hC hw (by decide))).trans hC.symm),fun t h2=>(h.t t h2).turn hE hb hc (fun k C hC=>blk_ne hC hw (by decide)) ht hn⟩
structure KpE (w W:World) (b i:Nat) (D:DkM) (c n:Nat) (K:List BtM) (va vt kv:Value):Prop where
 e:DkE W b w.heap.size D va vt
 wl:WellW D (bls K)
 rm:D.room=1048576
 we:WlE W c b (n:Int) false
 n0:n≤5 * i
 c0:w.heap.size≤c
 kv:KvE w W va.ownBlock K kv
 k0:K.length≤5 * i
 k1:∀ t ∈ K,t.l.length≤100
 bel:Below w.heap.size w W
 hb:w.heap.size≤b
theorem KpE.below {w W W':World} {b i c n:Nat} {D:DkM} {K:List BtM} {va vt kv:Value} (h:KpE w W b i D c n K va vt kv) (hb:Below W.heap.size W W'):KpE w W' b i D c n K va vt kv:=
 ⟨h.e.below hb,h.wl,h.rm,h.we.below hb,h.n0,h.c0,h.kv.below hb,h.k0,h.k1,h.bel.trans (hb.mono h.bel.size),h.hb⟩
structure KpM (w W:World) (b i:Nat) (D:DkM) (c n:Nat) (br:Bool) (K Tr:List BtM) (va vt kv tv:Value):Prop where
 e:DkE W b w.heap.size D va vt
 g:D.Good
 rm:D.room=1048576
 s:D.s=flatR (bls K)
 live:D.dead=false→D.m=[]∧br=false
 died:D.dead=true→D.m ++ D.h=flatR (bls Tr)
 mp:MayR (bls K)
 mt:MayR (bls Tr)
 we:WlE W c b (n:Int) br
 n0:n≤5 * (i + 1)
 c0:w.heap.size≤c
 kv:KvE w W va.ownBlock K kv
 k0:K.length + Tr.length≤5 * (i + 1)
 k1:∀ t ∈ K,t.l.length≤100
 t0:∀ W',Below w.heap.size w W'→Els btl 1 W' tv Tr
 t1:Bts w Tr
 t2:∀ t ∈ Tr,t.l.length≤100
 bel:Below w.heap.size w W
 hb:w.heap.size≤b
section
variable {w W W':World} {b i c n:Nat} {br:Bool} {D:DkM} {K Tr:List BtM} {va vt kv tv:Value}
theorem KpE.mid (h:KpE w W b i D c n K va vt kv) {tv:Value} (ht:∀ W',Below w.heap.size w W'→Els btl 1 W' tv []):KpM w W b i D c n false K [] va vt kv tv:=
 ⟨h.e,h.wl.g,h.rm,h.wl.s,fun _=>⟨h.wl.m,rfl⟩,(fun hd=>by rw [h.wl.dead] at hd;cases hd),h.wl.k,(fun r hr=>by cases hr),h.we,by have:=h.n0;omega,h.c0,h.kv,by have:=h.k0;simp only [List.length_nil];omega,h.k1,ht,(fun t ht=>by cases ht),(fun t ht=>by cases ht),h.bel,h.hb⟩
theorem KpM.below (h:KpM w W b i D c n br K Tr va vt kv tv) (hb:Below W.heap.size W W'):KpM w W' b i D c n br K Tr va vt kv tv:=
 ⟨h.e.below hb,h.g,h.rm,h.s,h.live,h.died,h.mp,h.mt,h.we.below hb,h.n0,h.c0,h.kv.below hb,h.k0,h.k1,h.t0,h.t1,h.t2,h.bel.trans (hb.mono h.bel.size),h.hb⟩
theorem KpM.arm (h:KpM w W b i D c n br K Tr va vt kv tv) {k:Int} (hk:k≤9223372036854775807) (hE:DkE W' b w.heap.size (armD D k) va vt) (ht:TnD b va.ownBlock W W'):KpM w W' b i (armD D k) c n br K Tr va vt kv tv:=
 ⟨hE,armD_good h.g hk,h.rm,h.s,h.live,h.died,h.mp,h.mt,h.we.other h.e ht,h.n0,h.c0,h.kv.turn h.e h.hb h.c0 h.we (ht.w c) (Nw.refl _ _),h.k0,h.k1,h.t0,h.t1,h.t2,ht.below h.bel h.hb (fun _ e=>(h.e.o.base e).1) h.bel.size,h.hb⟩
theorem KpM.go (h:KpM w W b i D c n br K Tr va vt kv tv) (hd:D.dead=false):KpE w W b (i + 1) D c n K va vt kv:=by
 have hl:=h.live hd
 have hw:=h.we
 rw [hl.2] at hw
 exact ⟨h.e,⟨h.g,h.s,hl.1,hd,h.mp⟩,h.rm,hw,h.n0,h.c0,h.kv,by have:=h.k0;omega,h.k1,h.bel,h.hb⟩
theorem KpE.put (h:KpE w W b i D c n K va vt kv) {L:List BtM} {va' vt':Value} (hL:L.length≤5) (hL1:∀ t ∈ L,t.l.length≤100) (hi:i≤30) (hE:DkE W' b w.heap.size (putD ⟨D,n,false,true⟩ (bls L)) va' vt') (hw:WlE W' c b ((putW ⟨D,n,false,true⟩ (bls L)).many:Int) (putW ⟨D,n,false,true⟩ (bls L)).broken) (ht:TnW b c va.ownBlock W W') (hn:Nw W va.ownBlock va'.ownBlock):
  ∃ D',DkE W' b w.heap.size D' va' vt'∧D'.Good∧D'.room=1048576∧D'.s=flatR (bls (if putE ⟨D,n,false,true⟩ (bls L)=0 then K ++ L else K))∧(D'.dead=false→D'.m=[])∧(D'.dead=true→putE ⟨D,n,false,true⟩ (bls L)=6∧D'.m ++ D'.h=flatR (bls L))∧(putE ⟨D,n,false,true⟩ (bls L)=6→D'.dead=true)∧MayR (bls (if putE ⟨D,n,false,true⟩ (bls L)=0 then K ++ L else K))∧(putE ⟨D,n,false,true⟩ (bls L)=6→MayR (bls L))∧(∃ n',n'≤5 * (i + 1)∧WlE W' c b ((n':Nat):Int) (decide (putE ⟨D,n,false,true⟩ (bls L)=6)))∧KvE w W' va'.ownBlock K kv∧Below w.heap.size w W'∧(putE ⟨D,n,false,true⟩ (bls L)=0∨putE ⟨D,n,false,true⟩ (bls L)=6∨putE ⟨D,n,false,true⟩ (bls L)=1):=by
 have hk5:∀ t ∈ K,t.l.length≤500:=fun t ht=>by have:=h.k1 t ht;omega
 have hl5:∀ t ∈ L,t.l.length≤500:=fun t ht=>by have:=hL1 t ht;omega
 have f1:=flatR_le K hk5
 have f2:=flatR_le L hl5
 have hk0:=h.k0
 have hmany:=putW_many ⟨D,n,false,true⟩ (bls L)
 rw [bls_length] at hmany
 simp only at hmany
 have hbrk:=putW_brk (V:=⟨D,n,false,true⟩) (l:=bls L) rfl rfl
 rw [hbrk] at hw
 have hn0:=h.n0
 have hkv:=h.kv.turn h.e h.hb h.c0 h.we ht hn
 have hbel:=ht.below h.bel h.hb h.c0 (fun k e=>(h.e.o.base e).1) h.bel.size
 refine ⟨_,hE,putD_good (V:=⟨D,n,false,true⟩) h.wl.g _,?_⟩
 have hwl:WlE W' c b (((putW ⟨D,n,false,true⟩ (bls L)).many:Nat):Int) (decide (putE ⟨D,n,false,true⟩ (bls L)=6)):=hw
 rcases put_keeps (V:=⟨D,n,false,true⟩) (kept:=bls K) (l:=bls L) h.wl rfl rfl (by rw [show (⟨D,n,false,true⟩:WaM).d.room=1048576 from h.rm];omega) with ⟨h1,h2,h3,h4⟩ | ⟨h1,h2,h3,h4,h5,h6⟩ | ⟨h1,h2,h3⟩
 ·rw [h1] at hwl ⊢
  rw [if_pos rfl,bls_append]
  exact ⟨h4.trans h.rm,h3.s,fun _=>h3.m,fun hd=>by rw [h3.dead] at hd;(cases hd),(fun e=>by cases e),h3.k,(fun e=>by cases e),⟨_,by omega,hwl⟩,hkv,hbel,.inl rfl⟩
 ·rw [h1] at hwl ⊢
  rw [if_neg (by decide)]
  exact ⟨h6.trans h.rm,h4,fun hd=>by rw [h3] at hd;(cases hd),fun _=>⟨rfl,h5⟩,fun _=>h3,h.wl.k,fun _=>h2,⟨_,by omega,hwl⟩,hkv,hbel,.inr (.inl rfl)⟩
 ·rw [h1] at hwl ⊢
  rw [if_neg (by decide),h3]
  exact ⟨h.rm,h.wl.s,fun _=>h.wl.m,fun hd=>by rw [h.wl.dead] at hd;(cases hd),(fun e=>by cases e),h.wl.k,(fun e=>by cases e),⟨_,by omega,hwl⟩,hkv,hbel,.inr (.inr rfl)⟩
end
def KpMid (w W:World) (b i g:Nat) (X:Array Value) (c:Nat) (s8 s11:Value):Prop:=∃ D n br K Tr va vt,KpM w W b i D c n br K Tr va vt s8 s11∧W.heap[g]?=some (.cells X 44 (0,0))
end Go.Proofs.Ytfpgglclpkcdhaa
