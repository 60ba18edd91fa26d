/-
  Tag RefPart RefTag KCheck: what each of them says stands at its head.
-/
import Derived.Test.YtpdnnmabijmfbaaGreatDoorBs9
namespace Go.Proofs.YtpdnnmabijmfbaaGreatDoor
set_option maxRecDepth 20000
open Go.RowKit
def tagF (i:Int) (d:UInt8) (text:List UInt8):Nat→UInt8:=if nodeB i=true then macS (hl 32 (keyF i)) (d :: text) else fun _=>0
theorem tagF_no {i:Int} (h:nodeB i=false) (d:UInt8) (text:List UInt8):tagF i d text=fun _=>0:=if_neg (by rw [h];decide)
theorem tagF_yes {i:Int} (h:nodeB i=true) (d:UInt8) (text:List UInt8):tagF i d text=macS (hl 32 (keyF i)) (d :: text):=if_pos h
theorem one_val2 (w:World) (o:Obj) (x:Value) (T:TypeId):∀ j u,([x]:List Value)[j]?=some u→((w.alloc o).alloc (.cells #[x] T)).cell? ((⟨w.heap.size + 1,0,none⟩:Addr).add j)=some u:=fun j u h=>by
 have:=one_val (w.alloc o) x T j u h
 rw [show (w.alloc o).heap.size=w.heap.size + 1 from by simp] at this
 exact this
theorem below_two {w w1:World} (h:Below w.heap.size w w1) (o o2:Obj):Below w.heap.size w ((w1.alloc o).alloc o2):=(h.alloc h.size _).alloc (by have:=h.size;simp;omega) _
theorem apart_row {w:World} {B n size g:Nat} {T U:TypeId} {v:Value} {xs:List Value} {C:Array Value} (hT:T≠U) (h:w.ownsRow B T size v n xs) (hg:w.heap[g]?=some (.cells C U)):v.ownBlock≠some g:=fun e=>by
 rcases h.2 with ⟨rfl,_⟩ | ⟨k,cap,cur,rfl,_,hh,_⟩
 ·cases e
 ·injection e with e
  subst e
  rw [hh] at hg
  injection hg with hg
  injection hg with _ h2
  exact hT h2
theorem domain_byt {w3 w4 w5:World} {B:Nat} {x:Int} {d:UInt8} {o2:Obj} {r4 v4:Value} {k5:Nat} {xs:List Value} (hx:(d.toNat:Int)=x)
  (hg4:((w3.alloc (.cells #[.int .u8 x] 5)).alloc o2).grownBy w4 r4.ownBlock) (hr4:∀ k,r4.ownBlock=some k→k < w3.heap.size) (hown4:w4.ownsRow B 33 1 v4 k5 xs) (hg5:w4.grownBy w5 v4.ownBlock):
  Byt w5 (.slice (some ⟨w3.heap.size,0,none⟩) 1 1) [d]:=by
 have h0:((w3.alloc (.cells #[.int .u8 x] 5)).alloc o2).heap[w3.heap.size]?=some (.cells #[.int .u8 x] 5):=heap1 w3 _ o2
 have h4:=(hg4.block w3.heap.size (by simp;omega) (fun e=>by have:=hr4 _ e.symm;omega)).trans h0
 have h5:=(hg5.block w3.heap.size (lt_of_block h4) (fun e=>apart_row (U:=5) (by decide) hown4 h4 e.symm)).trans h4
 have hb:=byt_row (l:=[d]) (T:=5) (m:=(0,0)) (w:=w5) (g:=w3.heap.size) (by rw [h5,← hx];rfl) (by show 1≤maxLen;unfold maxLen;omega)
 exact hb
theorem tag_begun {w w1 w2:World} {f:Nat→Value} (hR1:Blk w1 w.heap.size 32 (fun _=>bcell 0) 38) (hb1:Below w.heap.size w w1)
    (hg2:(w1.alloc (.cells (fcells 32 fun _=>bcell 0) 38)).grownBy w2 (some w1.heap.size)) (hH2:Blk w2 w1.heap.size 32 f 38):
    Blk w2 w.heap.size 32 (fun _=>bcell 0) 38∧Below w.heap.size w w2∧w1.heap.size < w2.heap.size:=
  ⟨(hR1.alloc (.cells (fcells 32 fun _=>bcell 0) 38)).grown hg2 (fun e=>by have:=Option.some.inj e;have:=hR1.lt;omega),
   (hb1.alloc hb1.size (.cells (fcells 32 fun _=>bcell 0) 38)).grown hg2 (by have:=hb1.size;simp;omega) (fun k hk=>by injection hk;have:=hb1.size;omega),hH2.lt⟩
set_option maxHeartbeats 3200000 in
theorem tag_any (i:Int) (d:UInt8) (ls:List (List UInt8)) (vs:Nat→Value) (gp n c:Nat) (w:World) (hn:ls.length=n) (hg:gp < w.heap.size)
  (hc:∀ j,j < n→w.cell? ⟨gp,j,none⟩=some (vs j)) (hvs:∀ j (h:j < ls.length),Byt w (vs j) ls[j]) (hls:ls.flatten.length≤1000000) (hn2:n≤800) (hK:Kst 1 w):
  Calls Tryz.prog 83 #[.int .i64 i,.int .u8 (d.toNat:Int),.slice (some ⟨gp,0,none⟩) n c] w fun e w'=>e=.returned (.agg (fcells 32 fun j=>bcell (tagF i d ls.flatten j)))∧Below w.heap.size w w':=by
 have hb0:Below w.heap.size w (w.alloc (.cells (fcells 32 fun _=>bcell 0) 38)):=(Below.refl _ _).alloc (Nat.le_refl _) _
 have hR0:Blk (w.alloc (.cells (fcells 32 fun _=>bcell 0) 38)) w.heap.size 32 (fun _=>bcell 0) 38:=Blk.new w _ _ _
 cases hnode:nodeB i
 ·rw [tagF_no hnode]
  have C:=fun w=>node_any i w
  rw [hnode] at C
  have HC:=hid C
  clear C hn hc hvs
  go_enter Tryz.func83,Tryz.ntmps83
  go_wp2_with (refine wpList_alloc_arr arrH rfl rfl ?_)
  refine (HC.out _).mono ?_
  rintro e w' ⟨rfl,rfl⟩
  go_wp2_with (first
   | (refine wpList_zero_arr arrH rfl rfl ?_)
   | (refine wpList_store_arr arrH rfl _ _ rfl rfl rfl hR0 (fun _ _=>rfl) ?_;intro w9 hg9 hA9 hs9))
  refine bodyPost_ret (arrH.result rfl _ _ rfl hA9) rfl ⟨rfl,?_⟩
  exact below_into hb0 (g:=w.heap.size) (by omega) hg9 hb0.size
 ·rw [tagF_yes hnode]
  have C:=fun w=>node_any i w
  rw [hnode] at C
  have HC:=hid C
  have HN:=hid hn
  have HCC:=hid hc
  have HVS:=hid hvs
  have HLS:=hid hls
  clear C hn hc hvs hls
  obtain ⟨x,HX⟩:∃ x:Int,Hid ((d.toNat:Int)=x):=⟨_,hid rfl⟩
  rw [HX.out]
  go_enter Tryz.func83,Tryz.ntmps83
  go_wp2_with (refine wpList_alloc_arr arrH rfl rfl ?_)
  refine (HC.out _).mono ?_
  rintro e w' ⟨rfl,rfl⟩
  clear HC
  generalize w.alloc (.cells (fcells 32 fun _=>bcell 0) 38)=w0 at *
  go_wp2_with fail
  refine (key_any i w0 (hK.below hb0)).mono ?_
  rintro e w1 ⟨rfl,hb1⟩
  have hR1:=hR0.keep hb1
  have hb1':=hb0.trans (hb1.mono hb0.size)
  clear hb0 hR0 hb1
  obtain ⟨i0,hi,hz0,hz1,hz2⟩:=info_parts info_bs
  have hbb2:i0.bytes * (n + 1)≤281474976710656:=by rw [hz2];omega
  have hbb3:n + 1≤maxLen:=by unfold maxLen;omega
  have hnb:(1 + n) * 24≤140737488355328:=by omega
  have hnm:1 + n≤maxLen:=by unfold maxLen;omega
  have hvo:∀ u ∈ (List.range n).map vs,u.oneCell'=true:=fun u hu=>by
   obtain ⟨j,hj,rfl⟩:=List.mem_map.1 hu
   have hj2:=List.mem_range.1 hj
   exact byt_one' (HVS.out j (by rw [HN.out];exact hj2))
  have HVO:=hid hvo
  clear hvo
  go_wp2_with (first
   | (refine wpList_alloc_arr arrH rfl rfl ?_)
   | (refine wpList_store_arr arrH rfl (.tmp 7) (.tmp 14) rfl rfl rfl (Blk.new w1 32 (fun _=>bcell 0) 38) (fun _ _=>rfl) ?_;intro w2 hg2 hH2 hs2;obtain ⟨hR2,hb2,hK2⟩:=tag_begun hR1 hb1' hg2 hH2;clear hg2 hs2)
   | (at_make;refine wpList_make_own _ rfl _ _ 193 rfl w2.heap.size 33 i0 (.slice none 0 0) 1 under_bs hi hz0 hz1 _ _ _ (n + 1) rfl rfl (by simp) hbb2 hbb3 (Nat.le_refl _) ?_;intro w3 hown3 hg3;have hs3:=hg3.size;have hbc3:Below w2.heap.size w2 w3:=(Below.refl _ _).grown hg3 (Nat.le_refl _) (fun k h=>by cases h))
   | (at_builtin;refine wpList_append_own _ rfl (.tmp 19) (.tmp 22) 193 rfl w2.heap.size 33 i0 (.slice none 0 0) 1 24 under_bs hi hz0 hz1 hz2 rfl (by decide) _ _ _ rfl ((hown3.alloc (.cells #[.int .u8 x] 5)).alloc (.cells #[.slice (some ⟨w3.heap.size,0,none⟩) 1 1] 33)) ⟨w3.heap.size + 1,0,none⟩ 1 1 [.slice (some ⟨w3.heap.size,0,none⟩) 1 1] rfl rfl (one_val2 w3 _ _ _) (by simp [Value.oneCell']) (by unfold maxLen;omega) (by omega) (by simp;omega) ?_;intro v4 w4 hown4 hg4 _;simp only [Nat.zero_add,List.nil_append] at hown4;have hs4:=hg4.size;simp only [size_alloc] at hs4;have hbc4:Below w2.heap.size w2 w4:=(below_two hbc3 _ _).grown hg4 (by simp;omega) (fun k hk=>(World.ownsRow.lt hown3 k hk).1))
   | (at_builtin;refine wpList_append_own _ rfl (.tmp 24) (.tmp 25) 193 rfl w2.heap.size 33 i0 (.slice none 0 0) 1 24 under_bs hi hz0 hz1 hz2 rfl (by decide) _ _ _ rfl hown4 ⟨gp,0,none⟩ n c ((List.range n).map vs) rfl (by simp) (vals_at HCC.out (hb2.trans (hbc4.mono hb2.size)) hg) HVO.out hnm hnb (by omega) ?_;intro v5 w5 hown5 hg5 _;have hs5:=hg5.size;have hbc5:Below w2.heap.size w2 w5:=hbc4.grown hg5 (by omega) (fun k hk=>(World.ownsRow.lt hown4 k hk).1)))
  have hR5:=hR2.keep hbc5
  have hH5:=hH2.keep hbc5
  have hbw5:=hb2.trans (hbc5.mono hb2.size)
  have hd5:=domain_byt HX.out hg4 (fun k hk=>(World.ownsRow.lt hown3 k hk).2) hown4 hg5
  have hKw5:=hK.below hbw5
  obtain ⟨g5,c5,hg5',hv5,hc5⟩:∃ g c,g < w5.heap.size∧v5=.slice (some ⟨g,0,none⟩) (1 + n) c∧∀ j,j < 1 + n→w5.cell? ⟨g,j,none⟩=([.slice (some ⟨w3.heap.size,0,none⟩) 1 1] ++ (List.range n).map vs)[j]?:=by
   rcases hown5.2 with ⟨_,h0⟩ | ⟨g,cap,cur,rfl,_,hh,_⟩
   ·omega
   ·exact ⟨g,cap,lt_of_block hh,rfl,fun j hj=>World.ownsRow.cellAt hown5 j (by omega)⟩
  subst hv5
  clear hown5 hown4 hown3 hg3 hg4 hg5 hs3 hs4 hs5 hbc3 hbc4 hR2 hH2 hb2 hi hz0 hz1 hz2 hbb2 hbb3 hnb hnm
  have hfl:([d] :: ls).flatten=d :: ls.flatten:=rfl
  have C:=macOf_any (.slice (some ⟨w1.heap.size,0,none⟩) 32 32) (hl 32 (keyF i)) ([d] :: ls) (fun j=>if j=0 then .slice (some ⟨w3.heap.size,0,none⟩) 1 1 else vs (j - 1)) g5 (1 + n) c5 w5 (byt_blk hH5 (by unfold maxLen;omega)) (by rw [hl_length];omega) (by rw [List.length_cons,HN.out,Nat.add_comm]) hg5' (fun j hj=>by
   rw [hc5 j hj]
   rcases j with _ | j
   ·rfl
   ·show ((List.range n).map vs)[j]?=some (vs (j + 1 - 1))
    rw [List.getElem?_map,List.getElem?_range (by omega)]
    rfl) (fun j hj=>by
   rcases j with _ | j
   ·exact hd5
   ·have hj2:j < ls.length:=by simpa using hj
    exact (HVS.out j hj2).below hbw5) (by rw [hfl,List.length_cons];have:=HLS.out;omega) (by omega) hKw5
  rw [hfl] at C
  refine C.mono ?_
  clear C hc5 hfl hd5
  rintro e w6 ⟨rfl,hb6⟩
  have hR6:=hR5.keep hb6
  have hbw6:=hbw5.trans (hb6.mono hbw5.size)
  clear hR5 hH5 hbw5 hKw5 hb6 hbc5
  go_wp2_with (refine wpList_store_arr arrH rfl _ _ rfl rfl rfl hR6 (fun _ _=>rfl) ?_;intro w9 hg9 hA9 hs9)
  refine bodyPost_ret (arrH.result rfl _ _ rfl hA9) rfl ⟨rfl,?_⟩
  exact below_into hbw6 (g:=w.heap.size) (Nat.le_refl _) hg9 hbw6.size
end Go.Proofs.YtpdnnmabijmfbaaGreatDoor
namespace Go.Proofs.YtpdnnmabijmfbaaGreatDoor
set_option maxRecDepth 20000
open Go.RowKit
theorem byt_cells {w:World} {a:Addr} {n c:Nat} {l:List UInt8} (h:Byt w (.slice (some a) n c) l):∀ j u,(bcells l)[j]?=some u→w.cell? (a.add j)=some u:=fun j u hu=>by
 obtain ⟨hj,rfl⟩:=bcells_get l j u hu
 obtain ⟨b,off,e,_,hc⟩:=h.at_.2.2.2 (by omega)
 injection e with e
 subst e
 rw [addr_add]
 exact hc j hj
def key2W (w:World) (n:Nat):World:=(w.alloc (.cells #[.int .u8 116,.int .u8 105,.int .u8 116,.int .u8 104,.int .u8 105,.int .u8 110,.int .u8 103,.int .u8 32,.int .u8 107,.int .u8 101,.int .u8 121,.int .u8 32] 5 (12,13))).alloc (.cells #[.int .u8 (n:Int)] 5)
theorem key2_world (w:World) (n:Nat) (hn:n≤21):Below w.heap.size w (key2W w n)∧w.heap.size + 1 < (key2W w n).heap.size∧(∀ b,some (⟨w.heap.size,0,none⟩:Addr)=some b→∀ j u,(bcells aheadL)[j]?=some u→(key2W w n).cell? (b.add j)=some u)∧∀ j u,(bcells [UInt8.ofNat n])[j]?=some u→(key2W w n).cell? ((⟨w.heap.size + 1,0,none⟩:Addr).add j)=some u:=by
 unfold key2W
 refine ⟨?_,by simp,?_,?_⟩
 ·exact ((Below.refl _ _).alloc (Nat.le_refl _) _).alloc (by simp) _
 ·intro b hb
  injection hb with hb
  subst hb
  refine byt_cells (n:=12) (c:=12) (byt_row (l:=aheadL) (m:=(12,13)) (T:=5) ?_ (by decide))
  rw [heap1]
  rfl
 ·refine byt_cells (n:=1) (c:=1) (byt_row (l:=[UInt8.ofNat n]) (m:=(0,0)) (T:=5) ?_ (by show 1≤maxLen;unfold maxLen;omega))
  rw [heap2]
  rw [ofNat_small hn]
  rfl
set_option maxHeartbeats 1600000 in
theorem refPart_any (i:Int) (w:World) (hK:Kst 0 w):Calls Tryz.prog 140 #[.int .i64 i] w fun e w'=>e=.returned (.agg (fcells 32 fun j=>bcell (keyF i j)))∧Below w.heap.size w w':=by
 have hb0:Below w.heap.size w (w.alloc (.cells (fcells 32 fun _=>bcell 0) 38)):=(Below.refl _ _).alloc (Nat.le_refl _) _
 have hR0:Blk (w.alloc (.cells (fcells 32 fun _=>bcell 0) 38)) w.heap.size 32 (fun _=>bcell 0) 38:=Blk.new w _ _ _
 cases hn:nodeB i
 ·rw [keyF_no hn]
  have hno:¬ (1≤i∧i≤21):=by
   unfold nodeB at hn
   exact of_decide_eq_false hn
  clear hn
  by_cases h1:i < 1
  ·clear hno
   go_enter Tryz.func140,Tryz.ntmps140
   go_wp2_with (first
    | (refine wpList_alloc_arr arrH rfl rfl ?_)
    | (refine wpList_zero_arr arrH rfl rfl ?_)
    | (refine wpList_store_arr arrH rfl _ _ rfl rfl rfl hR0 (fun _ _=>rfl) ?_;intro w9 hg9 hA9 hs9))
   refine bodyPost_ret (arrH.result rfl _ _ rfl hA9) rfl ⟨rfl,?_⟩
   exact below_into hb0 (g:=w.heap.size) (by omega) hg9 hb0.size
  ·have h2:21 < i:=by omega
   clear hno
   go_enter Tryz.func140,Tryz.ntmps140
   go_wp2_with (first
    | (refine wpList_alloc_arr arrH rfl rfl ?_)
    | (refine wpList_zero_arr arrH rfl rfl ?_)
    | (refine wpList_store_arr arrH rfl _ _ rfl rfl rfl hR0 (fun _ _=>rfl) ?_;intro w9 hg9 hA9 hs9))
   refine bodyPost_ret (arrH.result rfl _ _ rfl hA9) rfl ⟨rfl,?_⟩
   exact below_into hb0 (g:=w.heap.size) (by omega) hg9 hb0.size
 ·rw [keyF_yes hn]
  obtain ⟨n,rfl,h1,h2⟩:=node_nat hn
  have h1i:¬ (n:Int) < 1:=by omega
  have h2i:¬ 21 < (n:Int):=by omega
  clear hn
  have HB0:=hid hb0
  have HR0:=hid hR0
  clear hb0 hR0
  generalize hw0:w.alloc (.cells (fcells 32 fun _=>bcell 0) 38)=w0 at *
  obtain ⟨hb1,hz1,co,cn⟩:=key2_world w0 n h2
  have HW1:Hid (key2W w0 n=(w0.alloc (.cells #[.int .u8 116,.int .u8 105,.int .u8 116,.int .u8 104,.int .u8 105,.int .u8 110,.int .u8 103,.int .u8 32,.int .u8 107,.int .u8 101,.int .u8 121,.int .u8 32] 5 (12,13))).alloc (.cells #[.int .u8 (n:Int)] 5)):=hid rfl
  have HB1:=hid hb1
  have HCO:=hid co
  have HCN:=hid cn
  clear hb1 hz1 co cn
  have HW0:=hid hw0
  clear hw0
  obtain ⟨i0,hi,hz0,hz1,hz2⟩:=info_parts info_u8
  have kc:=conv1
  go_enter Tryz.func140,Tryz.ntmps140
  go_wp2_with (first
   | (refine wpList_alloc_arr arrH rfl rfl ?_;rw [HW0.out])
   | (at_builtin;refine wpList_append_grows (key2W w0 n) rfl (.tmp 11) (.tmp 14) 33 rfl 5 i0 (.int .u8 0) 1 1 under_bytes hi hz0 hz1 hz2 rfl (by decide) (some ⟨w0.heap.size,0,none⟩) 12 12 (bcells aheadL) rfl (by simp) rfl HCO.out ⟨w0.heap.size + 1,0,none⟩ 1 1 (bcells [UInt8.ofNat n]) rfl rfl HCN.out (bcells_one _) (by decide) (by unfold maxLen;omega) (by decide) ?_;intro v3 w3 hown3 hg3))
  have hown:Own (key2W w0 n).heap.size w3 v3 (aheadL ++ [UInt8.ofNat n]):=by
   unfold Own
   rw [bcells_append]
   exact hown3
  have hb3:Below w.heap.size w w3:=(HB0.out.trans (HB1.out.mono HB0.out.size)).grown hg3 (by have h1:=HB0.out.size;have h2:=HB1.out.size;omega) (fun k hk=>by cases hk)
  have hR3:=(HR0.out.keep HB1.out).grown hg3 (fun e=>by cases e)
  have hK3:=hK.below hb3
  clear hown3 hg3 kc hi hz0 hz1 hz2
  refine (refOf_any v3 _ w3 hown.byt (by show 13≤1000000;omega) hK3).mono ?_
  rintro e w4 ⟨rfl,hb4⟩
  have hR4:=hR3.keep hb4
  have hb4':=hb3.trans (hb4.mono hb3.size)
  clear hown hb3 hR3 hK3 hb4
  go_wp2_with (refine wpList_store_arr arrH rfl _ _ rfl rfl rfl hR4 (fun _ _=>rfl) ?_;intro w9 hg9 hA9 hs9)
  refine bodyPost_ret (arrH.result rfl _ _ rfl hA9) rfl ⟨rfl,?_⟩
  exact below_into hb4' (g:=w.heap.size) (by omega) hg9 hb4'.size
end Go.Proofs.YtpdnnmabijmfbaaGreatDoor
namespace Go.Proofs.YtpdnnmabijmfbaaGreatDoor
set_option maxRecDepth 20000
open Go.RowKit
set_option maxHeartbeats 3200000 in
theorem refTag_any (i:Int) (d:UInt8) (v:Value) (text:List UInt8) (w:World) (hv:Byt w v text) (hs:text.length≤90000) (hK:Kst 0 w):
  Calls Tryz.prog 94 #[.int .i64 i,.int .u8 (d.toNat:Int),v] w fun e w'=>e=.returned (.agg (fcells 32 fun j=>bcell (tagF i d text j)))∧Below w.heap.size w w':=by
 have hb0:Below w.heap.size w (w.alloc (.cells (fcells 32 fun _=>bcell 0) 38)):=(Below.refl _ _).alloc (Nat.le_refl _) _
 have hR0:Blk (w.alloc (.cells (fcells 32 fun _=>bcell 0) 38)) w.heap.size 32 (fun _=>bcell 0) 38:=Blk.new w _ _ _
 cases hn:nodeB i
 ·rw [tagF_no hn]
  have hno:¬ (1≤i∧i≤21):=by
   unfold nodeB at hn
   exact of_decide_eq_false hn
  clear hn hv
  by_cases h1:i < 1
  ·clear hno
   go_enter Tryz.func94,Tryz.ntmps94
   go_wp2_with (first
    | (refine wpList_alloc_arr arrH rfl rfl ?_)
    | (refine wpList_zero_arr arrH rfl rfl ?_)
    | (refine wpList_store_arr arrH rfl _ _ rfl rfl rfl hR0 (fun _ _=>rfl) ?_;intro w9 hg9 hA9 hs9))
   refine bodyPost_ret (arrH.result rfl _ _ rfl hA9) rfl ⟨rfl,?_⟩
   exact below_into hb0 (g:=w.heap.size) (by omega) hg9 hb0.size
  ·have h2:21 < i:=by omega
   clear hno
   go_enter Tryz.func94,Tryz.ntmps94
   go_wp2_with (first
    | (refine wpList_alloc_arr arrH rfl rfl ?_)
    | (refine wpList_zero_arr arrH rfl rfl ?_)
    | (refine wpList_store_arr arrH rfl _ _ rfl rfl rfl hR0 (fun _ _=>rfl) ?_;intro w9 hg9 hA9 hs9))
   refine bodyPost_ret (arrH.result rfl _ _ rfl hA9) rfl ⟨rfl,?_⟩
   exact below_into hb0 (g:=w.heap.size) (by omega) hg9 hb0.size
 ·rw [tagF_yes hn]
  have h1i:¬ i < 1:=by
   unfold nodeB at hn
   have:=of_decide_eq_true hn
   omega
  have h2i:¬ 21 < i:=by
   unfold nodeB at hn
   have:=of_decide_eq_true hn
   omega
  have HV:=hid hv
  clear hn hv
  obtain ⟨x,HX⟩:∃ x:Int,Hid ((d.toNat:Int)=x):=⟨_,hid rfl⟩
  rw [HX.out]
  go_enter Tryz.func94,Tryz.ntmps94
  go_wp2_with (refine wpList_alloc_arr arrH rfl rfl ?_)
  generalize w.alloc (.cells (fcells 32 fun _=>bcell 0) 38)=w0 at *
  refine (refPart_any i w0 (hK.below hb0)).mono ?_
  rintro e w1 ⟨rfl,hb1⟩
  have hR1:=hR0.keep hb1
  have hb1':=hb0.trans (hb1.mono hb0.size)
  clear hb0 hR0 hb1
  obtain ⟨σ,HS⟩:∃ f:Nat→UInt8,Hid (keyF i=f):=⟨_,hid rfl⟩
  rw [HS.out]
  go_wp2_with (first
   | (refine wpList_alloc_arr arrH rfl rfl ?_)
   | (refine wpList_store_arr arrH rfl (.tmp 7) (.tmp 18) rfl rfl rfl (Blk.new w1 32 (fun _=>bcell 0) 38) (fun _ _=>rfl) ?_;intro w2 hg2 hH2 hs2;obtain ⟨hR2,hb2,hK2⟩:=tag_begun hR1 hb1' hg2 hH2;clear hg2 hs2))
  have hRK:w.heap.size < w1.heap.size:=hR1.lt
  have hR3:Blk (w2.alloc (.cells #[] 5)) w.heap.size 32 (fun _=>bcell 0) 38:=hR2.alloc _
  have hH3:Blk (w2.alloc (.cells #[] 5)) w1.heap.size 32 (fun j=>bcell (σ j)) 38:=hH2.alloc _
  have hb3:Below w.heap.size w (w2.alloc (.cells #[] 5)):=hb2.alloc hb2.size _
  have ho3:Own (w1.heap.size + 1) (w2.alloc (.cells #[] 5)) (.slice (some ⟨w2.heap.size,0,none⟩) 0 0) []:=World.ownsRow_made w2 #[] 0 (by omega) (Nat.zero_le _) rfl
  obtain ⟨K,HKK⟩:∃ K:Nat,Hid (w1.heap.size=K):=⟨_,hid rfl⟩
  obtain ⟨R,HR⟩:∃ R:Nat,Hid (w.heap.size=R):=⟨_,hid rfl⟩
  rw [HKK.out] at hH3 hRK ho3 ⊢
  rw [HR.out] at hR3 hb3 hRK ⊢
  clear hR1 hb1' hR2 hH2 hb2 hK2
  go_loopw [8,9] (fun v8 si wr=>∃ j:Nat,j≤32∧si=.int .i64 (j:Int)∧Below R w wr∧Blk wr R 32 (fun _=>bcell 0) 38∧Blk wr K 32 (fun j=>bcell (σ j)) 38∧Own (K + 1) wr v8 (hl j σ)) (fun _ si _=>32 - (intOf si).toNat)
  case atStart=>exact ⟨0,Nat.zero_le _,rfl,hb3,hR3,hH3,ho3⟩
  case round=>
   clear hb3 hR3 hH3 ho3
   obtain ⟨j,hj,rfl,hbw,hRw,hHw,how⟩:=hrel
   have hKlt:=hHw.lt
   by_cases hlt:j < 32
   ·have hj32:(j:Int) < 32:=by omega
    have kb:=hHw.cell (i:=j) hlt
    obtain ⟨y,HY⟩:∃ y:Int,Hid (((σ j).toNat:Int)=y):=⟨_,hid rfl⟩
    unfold bcell at kb
    rw [HY.out] at kb
    have hl1:(hl j σ).length + ([σ j]:List UInt8).length≤140737488355328:=by rw [hl_length,List.length_singleton];omega
    have hs1':K + 1≤(wr.alloc (.cells #[.int .u8 y] 5)).heap.size:=by simp;omega
    go_wp2_with (at_builtin;refine wpList_append_byt rfl (.tmp 24) (.tmp 28) rfl rfl rfl (how.alloc _) (byt_one _ _ (σ j) HY.out.symm) hl1 hs1' ?_;intro v6 w6 hown6 hg6 hv6)
    have hs6:=hg6.size
    have hb6:Below R w w6:=(hbw.alloc (by omega) _).grown hg6 (by simp;omega) (fun k hk=>by have:=(World.ownsRow.lt how k hk).1;omega)
    have hR6:=(hRw.alloc (.cells #[.int .u8 y] 5)).grown hg6 (fun e=>by have:=(World.ownsRow.lt how R e).1;omega)
    have hH6:=(hHw.alloc (.cells #[.int .u8 y] 5)).grown hg6 (fun e=>by have:=(World.ownsRow.lt how K e).1;omega)
    rw [← hl_succ j σ] at hown6
    clear hg6 hv6 hs6 hl1 hs1'
    go_roundw
    case rel=>exact ⟨j + 1,by omega,by go_num,hb6,hR6,hH6,hown6⟩
    case measure=>simp [intOf];omega
   ·have hj32:¬ (j:Int) < 32:=by omega
    obtain rfl:j=32:=by omega
    have hl1:([d]:List UInt8).length + text.length≤140737488355328:=by rw [List.length_singleton];omega
    have hs1':K + 1≤(wr.alloc (.cells #[.int .u8 x] 5)).heap.size:=by simp;omega
    have hvt:Byt wr v text:=HV.out.below (by rw [HR.out];exact hbw)
    have hod:Own (K + 1) (wr.alloc (.cells #[.int .u8 x] 5)) (.slice (some ⟨wr.heap.size,0,none⟩) 1 1) [d]:=own_of_blk (by rw [heap_alloc_new,← HX.out];rfl) (by omega) rfl (by unfold maxLen;omega)
    go_wp2_with (at_builtin;refine wpList_append_byt rfl (.tmp 32) (.tmp 33) rfl rfl rfl hod (hvt.alloc _) hl1 hs1' ?_;intro v6 w6 hown6 hg6 hv6)
    have hs6:=hg6.size
    have hb6:Below R w w6:=(hbw.alloc (by omega) _).grown hg6 (by simp;omega) (fun k hk=>by have:=(World.ownsRow.lt hod k hk).1;omega)
    have hR6:=(hRw.alloc (.cells #[.int .u8 x] 5)).grown hg6 (fun e=>by have:=(World.ownsRow.lt hod R e).1;omega)
    have ho6:Own (K + 1) w6 u8 (hl 32 σ):=(how.alloc (.cells #[.int .u8 x] 5)).keep fun b hb e=>hg6.block b hb (fun e2=>by
     have h1:=(World.ownsRow.lt how b e).2
     have e3:=Option.some.inj (show some b=some wr.heap.size from e2)
     omega)
    have hb6':Below w.heap.size w w6:=by rw [HR.out];exact hb6
    refine (refMac_any u8 v6 (hl 32 σ) (d :: text) w6 ho6.byt hown6.byt (by rw [hl_length];omega) (by rw [List.length_cons];omega) (hK.below hb6')).mono ?_
    rintro e w7 ⟨rfl,hb7⟩
    have hR7:=hR6.keep hb7
    have hb7':=hb6.trans (hb7.mono (by have:=hb6.size;omega))
    clear hg6 hv6 hs6 hl1 hs1' hown6 ho6 hod hvt hb6 hb6' hR6 hb7 hbw hRw hHw how
    go_wp2_with (refine wpList_store_arr arrH rfl _ _ rfl rfl rfl hR7 (fun _ _=>rfl) ?_;intro w9 hg9 hA9 hs9)
    refine bodyPost_ret (arrH.result rfl _ _ rfl hA9) rfl ⟨by rw [HS.out],?_⟩
    rw [HR.out]
    exact below_into hb7' (g:=R) (by omega) hg9 (by have:=hb7'.size;have:=HR.out;omega)
end Go.Proofs.YtpdnnmabijmfbaaGreatDoor
namespace Go.Proofs.YtpdnnmabijmfbaaGreatDoor
set_option maxRecDepth 20000
open Go.RowKit
def checkB (i:Int) (d:UInt8) (f:Nat→UInt8) (text:List UInt8):Bool:=nodeB i && sameB f (tagF i d text)
attribute [local go_sem ↓] exec_load_hide
set_option maxHeartbeats 3200000 in
theorem check_any (i:Int) (d:UInt8) (f:Nat→UInt8) (ls:List (List UInt8)) (vs:Nat→Value) (gp n c:Nat) (w:World) (hn:ls.length=n) (hg:gp < w.heap.size)
  (hc:∀ j,j < n→w.cell? ⟨gp,j,none⟩=some (vs j)) (hvs:∀ j (h:j < ls.length),Byt w (vs j) ls[j]) (hls:ls.flatten.length≤1000000) (hn2:n≤800) (hK:Kst 1 w):
  Calls Tryz.prog 111 #[.int .i64 i,.int .u8 (d.toNat:Int),.agg (fcells 32 fun j=>bcell (f j)),.slice (some ⟨gp,0,none⟩) n c] w fun e w'=>e=.returned (.bool (checkB i d f ls.flatten))∧Below w.heap.size w w':=by
 have hb0:Below w.heap.size w (w.alloc (.cells (fcells 32 fun j=>bcell (f j)) 38)):=(Below.refl _ _).alloc (Nat.le_refl _) _
 have hA0:Blk (w.alloc (.cells (fcells 32 fun j=>bcell (f j)) 38)) w.heap.size 32 (fun j=>bcell (f j)) 38:=Blk.new w _ _ _
 have hb1:=hb0.drew
 have CT:=tag_any i d ls vs gp n c (w.alloc (.cells (fcells 32 fun j=>bcell (f j)) 38)).drew hn (Nat.lt_of_lt_of_le hg hb1.size) (fun j hj=>(hb1.cell (p:=⟨gp,j,none⟩) hg).trans (hc j hj)) (fun j hj=>(hvs j hj).below hb1) hls hn2 (hK.below hb1)
 have HA0:=hid hA0
 have HG:=hid hg
 clear hA0 hn hc hvs hls hg
 cases hnode:nodeB i
 ·have C:=fun w=>node_any i w
  rw [hnode] at C
  have HC:Hid (∀ w,Calls Tryz.prog 29 #[.int .i64 i] w fun e w'=>e=.returned (.bool false)∧w'=w):=hid fun w=>(C w).mono fun _ _ ⟨h1,h2⟩=>⟨h1,h2.symm⟩
  have HR:Hid (checkB i d f ls.flatten=false):=hid (by unfold checkB;rw [hnode];rfl)
  clear C CT
  rw [HR.out]
  go_enter Tryz.func111,Tryz.ntmps111
  go_wp2_with fail
  generalize w.alloc (.cells (fcells 32 fun j=>bcell (f j)) 38)=w0 at *
  go_quiet ((go_at_call 29;exact Calls.quiet_of_same (HC.out _)))
  go_wp2_with fail
  go_ret
  exact ⟨rfl,below_drewN hb0 _⟩
 ·have C:=fun w=>node_any i w
  rw [hnode] at C
  have HC:=hid C
  have HR:Hid (checkB i d f ls.flatten=sameB f (tagF i d ls.flatten)):=hid (by unfold checkB;rw [hnode];rfl)
  clear C
  obtain ⟨τ,HT⟩:∃ t:Nat→UInt8,Hid (tagF i d ls.flatten=t):=⟨_,hid rfl⟩
  rw [HT.out] at CT HR
  have CS:=macSame_any f τ
  obtain ⟨DA,HDA⟩:∃ D:Array Value,Hid (fcells 32 (fun j=>bcell (f j))=D):=⟨_,hid rfl⟩
  obtain ⟨DT,HDT⟩:∃ D:Array Value,Hid (fcells 32 (fun j=>bcell (τ j))=D):=⟨_,hid rfl⟩
  obtain ⟨sb,HSB⟩:∃ b:Bool,Hid (sameB f τ=b):=⟨_,hid rfl⟩
  rw [HSB.out] at HR CS
  rw [HDA.out,HDT.out] at CS
  rw [HDT.out] at CT
  rw [HR.out]
  have HCT:=hid CT
  have HCS:=hid CS
  clear CT CS
  obtain ⟨x,HX⟩:∃ x:Int,Hid ((d.toNat:Int)=x):=⟨_,hid rfl⟩
  rw [HX.out] at HCT ⊢
  go_enter Tryz.func111,Tryz.ntmps111
  go_wp2_with fail
  generalize w.alloc (.cells (fcells 32 fun j=>bcell (f j)) 38)=w0 at *
  obtain ⟨T,HTT⟩:∃ T:TypeId,Hid (T=38):=⟨_,hid rfl⟩
  have hL:=tyHide_load HTT.out
  simp only [hL]
  clear hL
  obtain ⟨G,HGG⟩:∃ G:Nat,Hid (w.heap.size=G):=⟨_,hid rfl⟩
  have hA0:=HA0.out
  rw [HGG.out] at hA0 ⊢
  have hlA:∀ w':World,Blk w' G 32 (fun j=>bcell (f j)) 38→loadA (tyHide T 38) (.pointer (some ⟨G,0,none⟩)) w'=.ok (.value (.agg DA)) w':=fun w' h=>by
   rw [← HDA.out]
   exact loadA_hide (o:=0) HTT.out arrH h (by omega) (fun j _=>by rw [Nat.zero_add])
  go_region_held3 (fun w'=>Blk w' G 32 (fun j=>bcell (f j)) 38)
   (first | (refine hA0) | (refine (Blk.keep (w:=w0.drew) hA0 hb2).keep hb3) | (refine Blk.keep (w:=w0.drew) hA0 hb2) | fail)
   (first
    | (go_at_call 154;(with_reducible refine (HCS.out _).mono ?_);rintro e w3 ⟨rfl,hb3⟩;have hB3:Below w.heap.size w w3:=hB2.trans (hb3.mono hB2.size))
    | (go_at_call 83;(with_reducible refine HCT.out.mono ?_);rintro e w2 ⟨rfl,hb2⟩;have hB2:Below w.heap.size w w2:=hb1.trans (hb2.mono hb1.size))
    | (go_at_call 29;refine (HC.out _).mono ?_;rintro e w1 ⟨rfl,rfl⟩)
    | fail)
  all_goals
   go_wp2_with fail
   go_ret
   exact ⟨rfl,hB3⟩
end Go.Proofs.YtpdnnmabijmfbaaGreatDoor
