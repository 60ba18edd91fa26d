/-
  Quorum Node Key Parts CoCode: what each of them says stands at its head.
-/
import Derived.Test.YtpdnnmabijmfbaaGreatDoorBs6
import Derived.Laws.LoneSync
namespace Go.Proofs.YtpdnnmabijmfbaaGreatDoor
set_option maxRecDepth 20000
theorem unlike_le:∀ (n:Nat) (l:List Int),l.Nodup→(∀ x ∈ l,1≤x∧x≤(n:Int))→l.length≤n
 | 0,l,_,h=>by
  rcases l with _ | ⟨x,l⟩
  ·exact Nat.le_refl _
  ·have:=h x (by simp)
   omega
 | n + 1,l,hd,h=>by
  by_cases hm:((n + 1:Nat):Int) ∈ l
  ·have hl:=List.length_erase_of_mem hm
   have ih:=unlike_le n (l.erase ((n + 1:Nat):Int)) (hd.erase _) (fun x hx=>by
    have h1:=h x (List.mem_of_mem_erase hx)
    have h2:x≠((n + 1:Nat):Int):=fun e=>by
     rw [e] at hx
     exact (List.Nodup.not_mem_erase hd) hx
    omega)
   have hp:0 < l.length:=List.length_pos_of_mem hm
   omega
  ·have ih:=unlike_le n l hd (fun x hx=>by
    have h1:=h x hx
    have h2:x≠((n + 1:Nat):Int):=fun e=>hm (by rw [← e];exact hx)
    omega)
   omega
def quoS (n:Int):Nat:=if 1≤n∧n≤21∧n % 2=1 then (n / 2).toNat + 1 else 0
end Go.Proofs.YtpdnnmabijmfbaaGreatDoor
namespace Go.Proofs.YtpdnnmabijmfbaaGreatDoor
set_option maxRecDepth 20000
open Go.RowKit
def nodeB (i:Int):Bool:=decide (1≤i∧i≤21)
theorem ret_boolK {a b:Bool} (h:a=b):Ending.returned (.bool a)=.returned (.bool b):=by rw [h]
theorem ret_i64 {a b:Int} (h:a=b):Ending.returned (.int .i64 a)=.returned (.int .i64 b):=by rw [h]
theorem node_any (i:Int) (w:World):Calls Tryz.prog 29 #[.int .i64 i] w fun e w'=>e=.returned (.bool (nodeB i))∧w=w':=by
 by_cases h1:1≤i
 ·go_enter Tryz.func29,Tryz.ntmps29
  go_wp2
  go_ret
  exact ⟨ret_boolK (by unfold nodeB;rw [Bool.eq_iff_iff];simp;omega),rfl⟩
 ·go_enter Tryz.func29,Tryz.ntmps29
  go_wp2
  go_ret
  exact ⟨ret_boolK (by unfold nodeB;rw [eq_comm,decide_eq_false_iff_not];omega),rfl⟩
theorem quorum_any (i:Int) (w:World) (hw:(Lit.int .i64 i).wf=true):Calls Tryz.prog 77 #[.int .i64 i] w fun e w'=>e=.returned (.int .i64 (quoS i:Int))∧w=w':=by
 by_cases h:1≤i∧i≤21
 ·have hn:nodeB i=true:=by unfold nodeB;rw [decide_eq_true h]
  obtain ⟨n,rfl⟩:∃ n:Nat,i=(n:Int):=⟨i.toNat,by omega⟩
  obtain ⟨h1,h2⟩:=h
  have C:=node_any (n:Int) w
  rw [hn] at C
  have HC:=hid C
  clear C hw hn
  by_cases he:n % 2=0
  ·have hm:(n:Int) % 2=0:=by omega
   go_enter Tryz.func77,Tryz.ntmps77
   go_wp2_with fail
   refine HC.out.mono ?_
   rintro e w' ⟨rfl,rfl⟩
   go_wp2_with fail
   go_ret
   refine ⟨ret_i64 ?_,rfl⟩
   unfold quoS
   rw [if_neg (by omega)]
   rfl
  ·have hm:¬ (n:Int) % 2=0:=by omega
   go_enter Tryz.func77,Tryz.ntmps77
   go_wp2_with fail
   refine HC.out.mono ?_
   rintro e w' ⟨rfl,rfl⟩
   go_wp2_with fail
   go_ret
   refine ⟨ret_i64 ?_,rfl⟩
   unfold quoS
   rw [if_pos (by omega)]
   omega
 ·have hn:nodeB i=false:=by unfold nodeB;rw [decide_eq_false h]
  have C:=node_any i w
  rw [hn] at C
  have HC:=hid C
  clear C
  go_enter Tryz.func77,Tryz.ntmps77
  go_wp2_with fail
  refine HC.out.mono ?_
  rintro e w' ⟨rfl,rfl⟩
  go_wp2_with fail
  go_ret
  refine ⟨ret_i64 ?_,rfl⟩
  unfold quoS
  rw [if_neg (by omega)]
  rfl
end Go.Proofs.YtpdnnmabijmfbaaGreatDoor
namespace Go.Proofs.YtpdnnmabijmfbaaGreatDoor
set_option maxRecDepth 20000
open Go.RowKit
def keyText (i:Int):List UInt8:=[116,105,116,104,105,110,103,32,107,101,121,32] ++ [UInt8.ofNat i.toNat]
def keyF (i:Int):Nat→UInt8:=if nodeB i=true then sumS (keyText i) else fun _=>0
theorem keyF_no {i:Int} (h:nodeB i=false):keyF i=fun _=>0:=if_neg (by rw [h];decide)
theorem keyF_yes {i:Int} (h:nodeB i=true):keyF i=sumS (keyText i):=if_pos h
def aheadL:List UInt8:=[116,105,116,104,105,110,103,32,107,101,121,32]
theorem node_nat {i:Int} (h:nodeB i=true):∃ n:Nat,i=(n:Int)∧1≤n∧n≤21:=by
 unfold nodeB at h
 have:=of_decide_eq_true h
 exact ⟨i.toNat,by omega,by omega,by omega⟩
theorem ofNat_small {n:Nat} (h:n≤21):(n:Int)=((UInt8.ofNat n).toNat:Int):=by
 rw [UInt8.toNat_ofNat']
 omega
def keyW (w:World) (n:Nat):World:=((w.alloc (.cells #[.int .u8 116,.int .u8 105,.int .u8 116,.int .u8 104,.int .u8 105,.int .u8 110,.int .u8 103,.int .u8 32,.int .u8 107,.int .u8 101,.int .u8 121,.int .u8 32] 5 (12,13))).alloc (.cells #[.int .u8 (n:Int)] 5)).alloc (.cells #[.slice (some ⟨w.heap.size,0,none⟩) 12 12,.slice (some ⟨w.heap.size + 1,0,none⟩) 1 1] 33)
theorem key_world (w:World) (n:Nat) (hn:n≤21):Below w.heap.size w (keyW w n)∧w.heap.size + 1 + 1 < (keyW w n).heap.size∧Byt (keyW w n) (.slice (some ⟨w.heap.size,0,none⟩) 12 12) aheadL∧Byt (keyW w n) (.slice (some ⟨w.heap.size + 1,0,none⟩) 1 1) [UInt8.ofNat n]
  ∧ (keyW w n).cell? ⟨w.heap.size + 1 + 1,0,none⟩=some (.slice (some ⟨w.heap.size,0,none⟩) 12 12)∧(keyW w n).cell? ⟨w.heap.size + 1 + 1,1,none⟩=some (.slice (some ⟨w.heap.size + 1,0,none⟩) 1 1):=by
 unfold keyW
 refine ⟨?_,by simp,?_,?_,?_,?_⟩
 ·exact (((Below.refl _ _).alloc (Nat.le_refl _) _).alloc (by simp) _).alloc (by simp;omega) _
 ·refine byt_row (l:=aheadL) (m:=(12,13)) (T:=5) ?_ (by decide)
  rw [Below.heap_alloc _ _ _ (by simp;omega),heap1]
  rfl
 ·refine byt_row (l:=[UInt8.ofNat n]) (m:=(0,0)) (T:=5) ?_ (by show 1≤maxLen;unfold maxLen;omega)
  rw [Below.heap_alloc _ _ _ (by simp),heap2]
  rw [ofNat_small hn]
  rfl
 all_goals
  rw [cell_of_row _ _ _ _ _ (0,0) (show (_:World).heap[w.heap.size + 1 + 1]?=some (.cells #[.slice (some ⟨w.heap.size,0,none⟩) 12 12,.slice (some ⟨w.heap.size + 1,0,none⟩) 1 1] 33) from by simpa using heap_alloc_new ((w.alloc (.cells #[.int .u8 116,.int .u8 105,.int .u8 116,.int .u8 104,.int .u8 105,.int .u8 110,.int .u8 103,.int .u8 32,.int .u8 107,.int .u8 101,.int .u8 121,.int .u8 32] 5 (12,13))).alloc (.cells #[.int .u8 (n:Int)] 5)) (.cells #[.slice (some ⟨w.heap.size,0,none⟩) 12 12,.slice (some ⟨w.heap.size + 1,0,none⟩) 1 1] 33))]
  rfl
set_option maxHeartbeats 1600000 in
theorem key_any (i:Int) (w:World) (hK:Kst 1 w):Calls Tryz.prog 129 #[.int .i64 i] w fun e w'=>e=.returned (.agg (fcells 32 fun j=>bcell (keyF i j)))∧Below w.heap.size w w':=by
 have hb0:Below w.heap.size w (w.alloc (.cells (fcells 32 fun _=>bcell 0) 38)):=(Below.refl _ _).alloc (Nat.le_refl _) _
 have hR0:Blk (w.alloc (.cells (fcells 32 fun _=>bcell 0) 38)) w.heap.size 32 (fun _=>bcell 0) 38:=Blk.new w _ _ _
 cases hn:nodeB i
 ·rw [keyF_no hn]
  have C:=fun w=>node_any i w
  rw [hn] at C
  have HC:=hid C
  clear C
  go_enter Tryz.func129,Tryz.ntmps129
  go_wp2_with (refine wpList_alloc_arr arrH rfl rfl ?_)
  refine (HC.out _).mono ?_
  rintro e w' ⟨rfl,rfl⟩
  go_wp2_with (first
   | (refine wpList_zero_arr arrH rfl rfl ?_)
   | (refine wpList_store_arr arrH rfl _ _ rfl rfl rfl hR0 (fun _ _=>rfl) ?_;intro w9 hg9 hA9 hs9))
  refine bodyPost_ret (arrH.result rfl _ _ rfl hA9) rfl ⟨rfl,?_⟩
  exact below_into hb0 (g:=w.heap.size) (by omega) hg9 hb0.size
 ·rw [keyF_yes hn]
  have C:=fun w=>node_any i w
  rw [hn] at C
  have HC:=hid C
  obtain ⟨n,rfl,h1,h2⟩:=node_nat hn
  clear C hn
  have kc:=conv1
  go_enter Tryz.func129,Tryz.ntmps129
  go_wp2_with (refine wpList_alloc_arr arrH rfl rfl ?_)
  refine (HC.out _).mono ?_
  rintro e w' ⟨rfl,rfl⟩
  have HB0:=hid hb0
  clear hb0
  generalize w.alloc (.cells (fcells 32 fun _=>bcell 0) 38)=w0 at *
  go_wp2_with fail
  clear kc
  obtain ⟨hb1,hz1,ba,bn,c0,c1⟩:=key_world w0 n h2
  change Calls _ _ _ (keyW w0 n) _
  generalize keyW w0 n=w1 at *
  have hb1':=HB0.out.trans (hb1.mono HB0.out.size)
  refine (of_two _ _ aheadL [UInt8.ofNat n] (w0.heap.size + 1 + 1) 2 w1 hz1 c0 c1 ba bn rfl (by show 13≤1000000;omega) (hK.below hb1')).mono ?_
  rintro e w2 ⟨rfl,hb2⟩
  have hR2:=(hR0.keep hb1).keep hb2
  have hb2':=hb1'.trans (hb2.mono hb1'.size)
  clear hR0 hb1 hz1 ba bn c0 c1 hb1' hb2
  go_wp2_with (refine wpList_store_arr arrH rfl _ _ rfl rfl rfl hR2 (fun _ _=>rfl) ?_;intro w9 hg9 hA9 hs9)
  refine bodyPost_ret (arrH.result rfl _ _ rfl hA9) rfl ⟨rfl,?_⟩
  exact below_into hb2' (g:=w.heap.size) (by omega) hg9 hb2'.size
end Go.Proofs.YtpdnnmabijmfbaaGreatDoor
namespace Go.Proofs.YtpdnnmabijmfbaaGreatDoor
set_option maxRecDepth 20000
open Go.RowKit
set_option maxHeartbeats 1600000 in
theorem refQuorum_any (n:Int) (w:World):Calls Tryz.prog 6 #[.int .i64 n] w fun e w'=>e=.returned (.int .i64 (quoS n:Int))∧w=w':=by
 go_enter Tryz.func6,Tryz.ntmps6
 go_wp2_with fail
 go_loopw [3] (fun si wr=>∃ f:Nat,f≤11∧si=.int .i64 (f:Int)∧Hid (w=wr)∧Hid (∀ k:Nat,k < f→n≠2 * (k:Int) + 1)) (fun si _=>11 - (intOf si).toNat)
 case atStart=>exact ⟨0,Nat.zero_le _,rfl,hid rfl,hid fun k hk=>absurd hk (by omega)⟩
 case round=>
  obtain ⟨f,hf,rfl,HW,HNE⟩:=hrel
  by_cases hlt:f≤10
  ·have h10:(f:Int)≤10:=by omega
   by_cases he:n=2 * (f:Int) + 1
   ·have HE:=hid he
    have hq:(n == 2 * (f:Int) + 1)=true:=by rw [he];exact beq_self_eq_true _
    clear he
    go_wp2_with fail
    go_ret
    refine ⟨ret_i64 ?_,HW.out⟩
    have:=HE.out
    unfold quoS
    rw [if_pos (by omega)]
    omega
   ·have HE:=hid he
    have hq:(n == 2 * (f:Int) + 1)=false:=by rw [beq_eq_false_iff_ne];exact he
    clear he
    go_wp2_with fail
    go_roundw
    case rel=>
     refine ⟨f + 1,by omega,by go_num,HW,hid fun k hk=>?_⟩
     by_cases h:k < f
     ·exact HNE.out k h
     ·obtain rfl:k=f:=by omega
      exact HE.out
    case measure=>simp [intOf];omega
  ·have h10:¬ (f:Int)≤10:=by omega
   go_wp2_with fail
   go_ret
   refine ⟨ret_i64 ?_,HW.out⟩
   unfold quoS
   rw [if_neg fun h=>HNE.out (n / 2).toNat (by omega) (by omega)]
   rfl
end Go.Proofs.YtpdnnmabijmfbaaGreatDoor
namespace Go.Proofs.YtpdnnmabijmfbaaGreatDoor
set_option maxRecDepth 20000
open Go.RowKit
structure Ctr (w:World) (b a:Nat) (n:Int):Prop where
 p:w.heap[b]?=some (.cells #[.pointer (some ⟨a,0,none⟩)] 178 (0,0))
 q:w.heap[a]?=some (.cells #[.int .i64 n] 175 (0,0))
theorem coBlk_cell {w:World} {g:Nat} {cs:Array Value} {t:TypeId} (h:w.heap[g]?=some (.cells cs t (0,0))) (i:Nat):w.cell? ⟨g,i,none⟩=cs[i]?:=cell_of_row w g i cs t (0,0) h
theorem coBlk_free {w:World} {g:Nat} {cs:Array Value} {t:TypeId} (h:w.heap[g]?=some (.cells cs t (0,0))) (i:Nat):w.frozen? ⟨g,i,none⟩=false:=by simp [World.frozen?,h]
section
variable {w:World} {b a:Nat} {n:Int}
theorem Ctr.ne (h:Ctr w b a n):b≠a:=by
 rintro rfl
 have:=h.p.symm.trans h.q
 simp at this
theorem Ctr.c1 (h:Ctr w b a n):w.cell? ⟨b,0,none⟩=some (.pointer (some ⟨a,0,none⟩)):=by rw [coBlk_cell h.p];rfl
theorem Ctr.c2 (h:Ctr w b a n):w.cell? ⟨a,0,none⟩=some (.int .i64 n):=by rw [coBlk_cell h.q];rfl
theorem Ctr.f2 (h:Ctr w b a n):w.frozen? ⟨a,0,none⟩=false:=coBlk_free h.q 0
theorem Ctr.set (h:Ctr w b a n) (m:Int):Ctr (w.setCell ⟨a,0,none⟩ (.int .i64 m)) b a m:=by
 refine ⟨?_,?_⟩
 ·have:=h.p
  simp [World.setCell,Array.getElem?_modify,Ne.symm h.ne,this]
 ·have:=h.q
  simp [World.setCell,Array.getElem?_modify,this]
theorem Ctr.below {B:Nat} {w':World} (h:Ctr w b a n) (hb:Below B w w') (h1:b < B) (h2:a < B):Ctr w' b a n:=
 ⟨(hb.block b h1).trans h.p,(hb.block a h2).trans h.q⟩
end
theorem heapA_new (w:World) (o:Obj):(w.alloc o).heap[w.heap.size]?=some o:=by
 show (w.heap.push o)[w.heap.size]?=some o
 simp
theorem heapA_old (w:World) (o:Obj) {k:Nat} (h:k < w.heap.size):(w.alloc o).heap[k]?=w.heap[k]?:=by
 show (w.heap.push o)[k]?=_
 rw [Array.getElem?_push]
 simp [Nat.ne_of_lt h]
theorem heapA_set (w:World) {g:Nat} {cs:Array Value} {t:TypeId} (h:w.heap[g]?=some (.cells cs t (0,0))) (i:Nat) (u:Value):(w.setCell ⟨g,i,none⟩ u).heap[g]?=some (.cells (cs.setIfInBounds i u) t (0,0)):=by
 simp [World.setCell,Array.getElem?_modify,h]
theorem made_yes {w:World} {b a:Nat} {n:Int} (h:Ctr w b a n):
  Calls Tryz.prog 103 #[.pointer (some ⟨b,0,none⟩)] w fun e w'=>e=.returned (.bool true)∧w=w':=by
 have h1:=h.c1
 go_enter Tryz.func103,Tryz.ntmps103
 go_wp2
 go_ret
 exact ⟨rfl,rfl⟩
theorem made_none (w:World):
  Calls Tryz.prog 103 #[.pointer none] w fun e w'=>e=.returned (.bool false)∧w=w':=by
 go_enter Tryz.func103,Tryz.ntmps103
 go_wp2
 go_ret
 exact ⟨rfl,rfl⟩
theorem made_zero {w:World} {b:Nat} (h:w.heap[b]?=some (.cells #[.pointer none] 178 (0,0))):
  Calls Tryz.prog 103 #[.pointer (some ⟨b,0,none⟩)] w fun e w'=>e=.returned (.bool false)∧w=w':=by
 have h1:w.cell? ⟨b,0,none⟩=some (.pointer none):=by rw [coBlk_cell h];rfl
 go_enter Tryz.func103,Tryz.ntmps103
 go_wp2
 go_ret
 exact ⟨rfl,rfl⟩
theorem atomicAdd {w:World} {a:Nat} {n:Int} (h:w.cell? ⟨a,0,none⟩=some (.int .i64 n)) (hf:w.frozen? ⟨a,0,none⟩=false) (h0:0≤n) (h1:n≤1099511630000):
  Calls Tryz.prog 178 #[.pointer (some ⟨a,0,none⟩),.int .i64 1] w fun e w'=>e=.returned (.int .i64 (n + 1))∧w.setCell ⟨a,0,none⟩ (.int .i64 (n + 1))=w':=by
 have hs:(Op.intArith .add .i64 n 1).run Tryz.prog w=.ok (.int .i64 (n + 1)) w:=by
  have:IntKind.i64.wrap (n + 1)=n + 1:=by simp [IntKind.wrap,IntKind.signed,IntKind.bits];omega
  simp [Op.intArith,this]
 have hadd:=run_call_add (P:=Tryz.prog) Tryz.func201 (by kernel_rfl) (by kernel_rfl) (by kernel_rfl) .i64 (by kernel_rfl) h hf hs
 go_enter Tryz.func178,Tryz.ntmps178
 go_wp2
 go_ret
 exact ⟨rfl,rfl⟩
theorem atomicLoad {w:World} {a:Nat} {n:Int} (h:w.cell? ⟨a,0,none⟩=some (.int .i64 n)):
  Calls Tryz.prog 104 #[.pointer (some ⟨a,0,none⟩)] w fun e w'=>e=.returned (.int .i64 n)∧w=w':=by
 have hadd:=run_call_load (P:=Tryz.prog) Tryz.func148 (by kernel_rfl) (by kernel_rfl) (by kernel_rfl) .i64 (by kernel_rfl) h
 go_enter Tryz.func104,Tryz.ntmps104
 go_wp2
 go_ret
 exact ⟨rfl,rfl⟩
theorem atomicStore {w:World} {a:Nat} {u:Value} {n:Int} (h:w.cell? ⟨a,0,none⟩=some u) (hf:w.frozen? ⟨a,0,none⟩=false):
  Calls Tryz.prog 102 #[.pointer (some ⟨a,0,none⟩),.int .i64 n] w fun e w'=>e=.returned (.tuple #[])∧w.setCell ⟨a,0,none⟩ (.int .i64 n)=w':=by
 have hadd:=run_call_store (P:=Tryz.prog) Tryz.func147 (by kernel_rfl) (by kernel_rfl) (by kernel_rfl) (by kernel_rfl) (k:=.i64) (y:=n) h hf
 go_enter Tryz.func102,Tryz.ntmps102
 go_wp2
 go_end0
 exact ⟨rfl,rfl⟩
def cap (n:Int):Int:=if n < 1099511627776 then n else 1099511627776
theorem coStart_any (n:Int) (w:World):
  Calls Tryz.prog 65 #[.int .i64 n] w fun e w'=>e=.returned (.pointer (some ⟨w.heap.size + 1,0,none⟩))∧Ctr w' (w.heap.size + 1) w.heap.size n∧Below w.heap.size w w'∧w'.heap.size=w.heap.size + 2:=by
 go_enter Tryz.func65,Tryz.ntmps65
 go_wp2_with fail
 refine (atomicStore (u:=.int .i64 0) ?_ ?_).mono ?_
 ·simp
 ·simp
 rintro e w1 ⟨rfl,rfl⟩
 go_wp2_with fail
 go_ret
 refine ⟨by simp,⟨?_,?_⟩,?_,by simp⟩
 ·have:=heapA_new (w.alloc (.cells #[.int .i64 n] 175)) (.cells #[.pointer (some ⟨w.heap.size,0,none⟩)] 178)
  rw [show (w.alloc (.cells #[.int .i64 n] 175)).heap.size=w.heap.size + 1 by simp] at this
  exact this
 ·rw [heapA_old _ _ (by simp)]
  exact heapA_new _ _
 ·exact ((Below.refl _ _).alloc (Nat.le_refl _) _).alloc (by simp) _
theorem new_yes (n:Int) (w:World) (h0:0≤n) (h1:n≤1099511627776):
  Calls Tryz.prog 30 #[.int .i64 n] w fun e w'=>e=.returned (.tuple #[.pointer (some ⟨w.heap.size + 1,0,none⟩),.int .i64 0])∧Ctr w' (w.heap.size + 1) w.heap.size n∧Below w.heap.size w w'∧w'.heap.size=w.heap.size + 2:=by
 go_enter Tryz.func30,Tryz.ntmps30
 go_wp2_with fail
 refine (coStart_any n w).mono ?_
 rintro e w1 ⟨rfl,hc,hb,hz⟩
 go_wp2_with fail
 go_ret2
 exact ⟨rfl,hc,hb,hz⟩
theorem new_no (n:Int) (w:World) (h:n < 0∨1099511627776 < n):
  Calls Tryz.prog 30 #[.int .i64 n] w fun e w'=>e=.returned (.tuple #[.pointer none,.int .i64 1])∧w=w':=by
 by_cases h0:n < 0
 ·clear h
  go_enter Tryz.func30,Tryz.ntmps30
  go_wp2
  go_ret2
  exact ⟨rfl,rfl⟩
 ·have h1:1099511627776 < n:=by omega
  clear h
  go_enter Tryz.func30,Tryz.ntmps30
  go_wp2
  go_ret2
  exact ⟨rfl,rfl⟩
theorem at_yes {w:World} {b a:Nat} {n:Int} (h:Ctr w b a n) (h0:0≤n):
  Calls Tryz.prog 67 #[.pointer (some ⟨b,0,none⟩)] w fun e w'=>e=.returned (.int .i64 (cap n))∧w=w':=by
 have h1:=h.c1
 unfold cap
 rcases Int.lt_trichotomy n 1099511627776 with hn | rfl | hn
 ·go_enter Tryz.func67,Tryz.ntmps67
  go_wp2_with fail
  refine (made_yes h).mono ?_
  rintro e w1 ⟨rfl,rfl⟩
  go_wp2_with fail
  refine (atomicLoad h.c2).mono ?_
  rintro e w1 ⟨rfl,rfl⟩
  go_wp2_with fail
  go_ret
  exact ⟨rfl,rfl⟩
 ·go_enter Tryz.func67,Tryz.ntmps67
  go_wp2_with fail
  refine (made_yes h).mono ?_
  rintro e w1 ⟨rfl,rfl⟩
  go_wp2_with fail
  refine (atomicLoad h.c2).mono ?_
  rintro e w1 ⟨rfl,rfl⟩
  go_wp2_with fail
  go_ret
  exact ⟨rfl,rfl⟩
 ·go_enter Tryz.func67,Tryz.ntmps67
  go_wp2_with fail
  refine (made_yes h).mono ?_
  rintro e w1 ⟨rfl,rfl⟩
  go_wp2_with fail
  refine (atomicLoad h.c2).mono ?_
  rintro e w1 ⟨rfl,rfl⟩
  go_wp2_with fail
  go_ret
  exact ⟨rfl,rfl⟩
theorem up_yes {w:World} {b a:Nat} {n:Int} (h:Ctr w b a n) (h0:0≤n) (h1:n < 1099511627776):
  Calls Tryz.prog 138 #[.pointer (some ⟨b,0,none⟩)] w fun e w'=>e=.returned (.tuple #[.int .i64 (n + 1),.int .i64 0])∧w.setCell ⟨a,0,none⟩ (.int .i64 (n + 1))=w':=by
 have hc:=h.c1
 go_enter Tryz.func138,Tryz.ntmps138
 go_wp2_with fail
 refine (made_yes h).mono ?_
 rintro e w1 ⟨rfl,rfl⟩
 go_wp2_with fail
 refine (atomicAdd h.c2 h.f2 h0 (by omega)).mono ?_
 rintro e w1 ⟨rfl,rfl⟩
 go_wp2_with fail
 go_ret2
 exact ⟨rfl,rfl⟩
theorem up_no {w:World} {b a:Nat} {n:Int} (h:Ctr w b a n) (h0:1099511627776≤n) (h1:n≤1099511630000):
  Calls Tryz.prog 138 #[.pointer (some ⟨b,0,none⟩)] w fun e w'=>e=.returned (.tuple #[.int .i64 0,.int .i64 9])∧w.setCell ⟨a,0,none⟩ (.int .i64 (n + 1))=w':=by
 have hc:=h.c1
 have hn:1099511627776 < n + 1:=by omega
 go_enter Tryz.func138,Tryz.ntmps138
 go_wp2_with fail
 refine (made_yes h).mono ?_
 rintro e w1 ⟨rfl,rfl⟩
 go_wp2_with fail
 refine (atomicAdd h.c2 h.f2 (by omega) h1).mono ?_
 rintro e w1 ⟨rfl,rfl⟩
 go_wp2_with fail
 go_ret2
 exact ⟨rfl,rfl⟩
def NoCtr (w:World) (v:Value):Prop:=v=.pointer none∨∃ b,v=.pointer (some ⟨b,0,none⟩)∧w.heap[b]?=some (.cells #[.pointer none] 178 (0,0))
theorem NoCtr.below {w w':World} {v:Value} {B:Nat} (h:NoCtr w v) (hb:Below B w w') (hB:w.heap.size≤B):NoCtr w' v:=by
 rcases h with h | ⟨b,h,hc⟩
 ·exact .inl h
 ·have:=(Array.getElem?_eq_some_iff.1 hc).1
  exact .inr ⟨b,h,(hb.block b (by omega)).trans hc⟩
theorem made_no {w:World} {v:Value} (h:NoCtr w v):Calls Tryz.prog 103 #[v] w fun e w'=>e=.returned (.bool false)∧w=w':=by
 rcases h with rfl | ⟨b,rfl,hc⟩
 ·exact made_none w
 ·exact made_zero hc
theorem at_nobody {w:World} {v:Value} (h:NoCtr w v):Calls Tryz.prog 67 #[v] w fun e w'=>e=.returned (.int .i64 0)∧w=w':=by
 go_enter Tryz.func67,Tryz.ntmps67
 go_wp2_with fail
 refine (made_no h).mono ?_
 rintro e w1 ⟨rfl,rfl⟩
 go_wp2_with fail
 go_ret
 exact ⟨rfl,rfl⟩
end Go.Proofs.YtpdnnmabijmfbaaGreatDoor
