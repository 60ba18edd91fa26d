/-
  CtWith CtBare CtRises CtMay CtArg VaRvWords VaRvStep VaAct: what each of them says stands at its head.
-/
import Derived.Test.YtpdnnmabijmfbaaGreatDoorBs16
import Derived.Test.YtpdnnmabijmfbaaGreatDoorBs17
import Derived.Test.YtpdnnmabijmfbaaGreatDoorBs18
namespace Go.Proofs.YtpdnnmabijmfbaaGreatDoor
set_option maxRecDepth 20000
open Go.RowKit
attribute [local go_sem ↓] exec_load_att exec_alloc_att exec_store_att exec_load_hash exec_build_hash
set_option maxHeartbeats 800000 in
theorem refWith9_any (a:AtM) (s:SgM) (w:World) (ha:a.Ok) (hs:s.Ok):
  Calls Tryz.prog 173 #[.agg (atc a),.agg (sgc s)] w fun e w'=>e=.returned (.agg (atc (withC a s)))∧Below w.heap.size w w':=by
 obtain ⟨C,HC⟩:∃ C:Array Value,Hid (atc a=C):=⟨_,hid rfl⟩
 obtain ⟨G,HG⟩:∃ C:Array Value,Hid (sgc s=C):=⟨_,hid rfl⟩
 obtain ⟨D,HD⟩:∃ C:Array Value,Hid (atc (withC a s)=C):=⟨_,hid rfl⟩
 obtain ⟨Z,HZ⟩:∃ C:Array Value,Hid (atc atZ=C):=⟨_,hid rfl⟩
 have hal:∀ W,allocAtt W=.ok (.value (.pointer (some ⟨W.heap.size,0,none⟩))) (W.alloc (.cells Z 54)):=fun W=>by rw [← HZ.out];exact allocAtt_eq W
 have HZS:Hid (Z.size=101):=hid (by rw [← HZ.out];exact atc_size atZ_ok)
 have HDS:Hid (D.size=101∧D.all (·.oneCell')=true):=hid (by rw [← HD.out];exact ⟨atc_size (withC_ok ha hs),atc_one _⟩)
 have hb0:Below w.heap.size w (((w.alloc (.cells C 54)).alloc (.cells G 207)).alloc (.cells Z 54)):=(((Below.refl _ _).alloc (Nat.le_refl _) _).alloc (by simp) _).alloc (by simp;omega) _
 have hr0:(((w.alloc (.cells C 54)).alloc (.cells G 207)).alloc (.cells Z 54)).heap[w.heap.size]?=some (.cells C 54 (0,0)):=(Below.heap_alloc _ _ _ (by simp;omega)).trans (heap1 w _ _)
 have hr1:(((w.alloc (.cells C 54)).alloc (.cells G 207)).alloc (.cells Z 54)).heap[w.heap.size + 1]?=some (.cells G 207 (0,0)):=(Below.heap_alloc _ _ _ (by simp)).trans (heap2 w _ _)
 have hr2:(((w.alloc (.cells C 54)).alloc (.cells G 207)).alloc (.cells Z 54)).heap[w.heap.size + 1 + 1]?=some (.cells Z 54 (0,0)):=by
  have:=heap2 (w.alloc (.cells C 54)) (.cells G 207) (.cells Z 54)
  rwa [show (w.alloc (.cells C 54)).heap.size=w.heap.size + 1 from by simp] at this
 obtain ⟨T,HT⟩:∃ C:Array Value,Hid (hcells s.tg=C):=⟨_,hid rfl⟩
 have HSG:Hid (∀ W:World,W.heap[w.heap.size + 1]?=some (.cells G 207 (0,0))→W.cell? ⟨w.heap.size + 1,0,none⟩=some (.int .i64 s.bo)∧loadH (.pointer (some ⟨w.heap.size + 1,1,none⟩)) W=.ok (.value (.agg T)) W):=hid (fun W h=>by
  rw [← HG.out] at h
  have hr:W.rangeAt (w.heap.size + 1) 0 (scl s):=fun j u hu=>by
   rw [Nat.zero_add,cell_blk h j]
   unfold sgc
   rw [List.getElem?_toArray]
   exact hu
  obtain ⟨h1,h2⟩:=sg_range hr
  rw [← HT.out]
  exact ⟨h1,loadH_mid h2 hs⟩)
 have HLD:Hid (∀ W:World,BoxA W w.heap.size { { a with bo:=s.bo } with tg:=s.tg }→loadAtt (.pointer (some ⟨w.heap.size,0,none⟩)) W=.ok (.value (.agg D)) W):=hid (fun W h=>by
  rw [← HD.out]
  exact loadAtt_eq h (withC_ok ha hs))
 have HOA:Hid ({ a with bo:=s.bo }:AtM).Ok:=hid ⟨ha.ha,ha.pa,ha.tg⟩
 have HS:=hid hs
 rw [HD.out,HC.out,HG.out]
 go_enter Tryz.func173,Tryz.ntmps173
 go_upto_region 1 with (fail)
 generalize (((w.alloc (.cells C 54)).alloc (.cells G 207)).alloc (.cells Z 54))=w0 at *
 have hA:BoxA w0 w.heap.size a:=by unfold BoxA;rw [HC.out];exact hr0
 have c0:=hA.cells.1
 have f0:=hA.free 0
 have c1:=(HSG.out w0 hr1).1
 have hA1:BoxA (w0.setCell ⟨w.heap.size,0,none⟩ (.int .i64 s.bo)) w.heap.size { a with bo:=s.bo }:=by
  have:=set_blk hA 0 (.int .i64 s.bo)
  rw [atc_by] at this
  exact this
 have hr11:=blk_other hr1 (.int .i64 s.bo) (i:=0) (b:=w.heap.size) (by omega)
 have hr21:=blk_other hr2 (.int .i64 s.bo) (i:=0) (b:=w.heap.size) (by omega)
 have hb1:Below w.heap.size w (w0.setCell ⟨w.heap.size,0,none⟩ (.int .i64 s.bo)):=hb0.setCell (by simp) _
 have l1:=(HSG.out _ hr11).2
 have HA1:=hid hA1
 have HR21:=hid hr21
 have HB1:=hid hb1
 clear hA hA1 hr0 hr1 hr2 hr11 hr21 hb0 hb1 hal ha hs
 go_wp2_with (refine wpList_store_tag (h:=s.tg) (a:={ a with bo:=s.bo }) rfl _ _ rfl rfl (by rw [HT.out];rfl) HA1.out HOA.out HS.out ?_;intro w2 hg2 hB2 hs2;have l2:=HLD.out w2 hB2;have hr2:=(hg2.block _ (lt_of_block HR21.out) (fun e=>by injection e with e;omega)).trans HR21.out;have hst:=storeAtt_eq hr2 HZS.out HDS.out.1 HDS.out.2;have HR3:=hid hr2;have HG2:=hid hg2;clear hg2 hs2 hr2)
 refine bodyPost_ret (results_cell_row rfl _ _ _ _ _ (0,0) _ rfl (setAtt_same HR3.out) under_att rfl (by rw [size_att,HDS.out.1])) rfl ⟨rfl,?_⟩
 exact setAtt_below (below_into HB1.out (Nat.le_refl _) HG2.out HB1.out.size) (by omega)
end Go.Proofs.YtpdnnmabijmfbaaGreatDoor
namespace Go.Proofs.YtpdnnmabijmfbaaGreatDoor
set_option maxRecDepth 20000
open Go.RowKit
attribute [local go_sem ↓] exec_load_att exec_alloc_att exec_store_att exec_load_hash exec_build_hash
set_option maxHeartbeats 800000 in
theorem refBare9_any (v:Value) (c:CtM) (w:World) (hv:CtV w v c):
  Calls Tryz.prog 172 #[v] w fun e w'=>e=.returned (.bool (bareC c))∧Below w.heap.size w w':=by
 obtain ⟨s,rfl,ho,_⟩:=hv
 have hb0:Below w.heap.size w (w.alloc (.cells (ctc c s) 57)):=(Below.refl _ _).alloc (Nat.le_refl _) _
 have hA:=BoxC.new w c s
 obtain ⟨C,HC⟩:∃ C:Array Value,Hid (ctc c s=C):=⟨_,hid rfl⟩
 obtain ⟨q,HQ⟩:∃ q:Bool,Hid (bareC c=q):=⟨_,hid rfl⟩
 rw [HC.out] at hb0 hA ⊢
 rw [HQ.out]
 have heq:=fun W=>eq_hash c.att.tg z32 ho.att.tg rfl W
 obtain ⟨q1,HQ1⟩:∃ q:Bool,Hid (decide (c.att.tg=z32)=q):=⟨_,hid rfl⟩
 obtain ⟨T,HT⟩:∃ C:Array Value,Hid (hcells c.att.tg=C):=⟨_,hid rfl⟩
 obtain ⟨O,HO⟩:∃ C:Array Value,Hid (hcells z32=C):=⟨_,hid rfl⟩
 rw [HQ1.out,HT.out,HO.out] at heq
 have hbz:∀ W,buildH W=.ok (.value (.agg O)) W:=fun W=>by rw [← HO.out,buildH_eq,fcells_nought];rfl
 go_enter Tryz.func172,Tryz.ntmps172
 go_upto_region 1 with (fail)
 generalize (w.alloc (.cells C 57))=w0 at *
 have k0:=hA.bo
 have l1:=loadH_mid (hA.tag ho.att) ho.att.tg
 rw [HT.out] at l1
 obtain ⟨n,HN⟩:∃ n:Int,Hid (c.att.bo=n):=⟨_,hid rfl⟩
 have HB:Hid (q=(decide (n=0) && q1)):=hid (by rw [← HQ.out,← HQ1.out,← HN.out];rfl)
 rw [HN.out] at k0
 clear hA ho HC
 by_cases h0:n=0
 ·subst h0
  obtain rfl:q=q1:=by rw [HB.out];simp
  go_wp2_with fail
  go_ret
  exact ⟨rfl,hb0⟩
 ·have h1:(n == 0)=false:=by simpa using h0
  obtain rfl:q=false:=by rw [HB.out,decide_eq_false h0];rfl
  clear h0
  go_wp2_with fail
  go_ret
  exact ⟨rfl,hb0⟩
end Go.Proofs.YtpdnnmabijmfbaaGreatDoor
namespace Go.Proofs.YtpdnnmabijmfbaaGreatDoor
set_option maxRecDepth 20000
open Go.RowKit
set_option maxHeartbeats 3200000 in
theorem refRises9_any (v:Value) (l:List SgM) (top:Int) (w:World) (hv:Els scl 33 w v l):
  Calls Tryz.prog 171 #[v,.int .i64 top] w fun e w'=>e=.returned (.bool (risesB top 0 l))∧Below w.heap.size w w':=by
 obtain ⟨A,c,rfl⟩:=hv.shape
 obtain ⟨L,HL⟩:∃ n:Nat,Hid (l.length=n):=⟨_,hid rfl⟩
 obtain ⟨ans,HAN⟩:∃ q:Bool,Hid (risesB top 0 l=q):=⟨_,hid rfl⟩
 have hlen:=hv.len
 unfold maxLen at hlen
 have hc1:=hv.at_.2.1
 have hc2:=hv.at_.2.2.1
 rw [HL.out] at hv hlen hc1 ⊢
 rw [HAN.out]
 unfold maxLen at hc2
 have HV:=hid (fun W (h:Below w.heap.size w W)=>hv.below h)
 clear hv
 go_enter Tryz.func171,Tryz.ntmps171
 go_wp2_with fail
 go_loopw [5] (fun si wr=>∃ (i:Nat) (last:Int),i≤L∧si=.int .i64 i∧0≤last∧Hid (ans=risesB top last (l.drop i))∧((i=0∧last=0)∨(∃ k,i=k + 1∧∃ h:k < l.length,l[k].bo=last))∧Below w.heap.size w wr) (fun si _=>L - (intOf si).toNat)
 case atStart=>exact ⟨0,0,Nat.zero_le _,rfl,Int.le_refl _,hid (by rw [List.drop_zero];exact HAN.out.symm),.inl ⟨rfl,rfl⟩,Below.refl _ _⟩
 case round=>
  obtain ⟨i,last,hi,rfl,hlast,HR,hpre,hbr⟩:=hrel
  by_cases hlt:i < L
  ·have hil:i < l.length:=by rw [HL.out];exact hlt
   obtain ⟨g,o,rfl,hg,hcl⟩:=(HV.out wr hbr).at_.2.2.2 (by omega)
   have HST:Hid (ans=((decide (last < l[i].bo) && decide (l[i].bo≤top)) && risesB top l[i].bo (l.drop (i + 1)))):=hid (by
    rw [HR.out,List.drop_eq_getElem_cons hil]
    rfl)
   obtain ⟨b,HBB⟩:∃ b:Int,Hid (l[i].bo=b):=⟨_,hid rfl⟩
   have hc:wr.drew.cell? ⟨g,o + i * 33,none⟩=some (.int .i64 b):=by rw [← HBB.out];exact (sg_range (hcl i hil)).1
   rw [HBB.out] at HST
   have hI:(i:Int) < (L:Int):=by omega
   have hbd:=hbr.drew
   by_cases h1:b < 1
   ·obtain rfl:ans=false:=by rw [HST.out,decide_eq_false (by omega)];rfl
    clear hcl
    go_upto_region 4 with (fail)
    refine wp_region_held_drew (S:=fun W=>W.cell? ⟨g,o + i * 33,none⟩=some (.int .i64 b)) (by kernel_rfl) hc (fun hHeld=>?_)
    refine' tkq 0 rfl ?_;try simp only [lay]
    refine' tkq 1 rfl ?_;try simp only [lay]
    refine' tkq 2 rfl ?_;try simp only [lay]
    refine' tkq 3 rfl ?_;try simp only [lay]
    refine' tkq 4 rfl ?_;try simp only [lay]
    refine' tkq 5 rfl ?_;try simp only [lay]
    refine' tkq 6 rfl ?_;try simp only [lay]
    refine tf (i:=7) rfl ?_
    try simp only [lay]
    refine tf (i:=8) rfl ?_
    try simp only [lay]
    refine tf (i:=9) rfl ?_
    try simp only [lay]
    refine tf (i:=10) rfl ?_
    try simp only [lay]
    refine tf (i:=11) rfl ?_
    try simp only [lay]
    refine tf (i:=12) rfl ?_
    try simp only [lay]
    refine tf (i:=13) rfl ?_
    try simp only [lay]
    refine' tkq 14 rfl ?_;try simp only [lay]
    refine' tkq 15 rfl ?_;try simp only [lay]
    refine tf (i:=16) rfl ?_
    try simp only [lay]
    refine tf (i:=17) rfl ?_
    try simp only [lay]
    refine tf (i:=18) rfl ?_
    try simp only [lay]
    refine tf (i:=19) rfl ?_
    try simp only [lay]
    refine tf (i:=20) rfl ?_
    try simp only [lay]
    refine tf (i:=21) rfl ?_
    try simp only [lay]
    refine tf (i:=22) rfl ?_
    try simp only [lay]
    refine tf (i:=23) rfl ?_
    try simp only [lay]
    refine tf (i:=24) rfl ?_
    try simp only [lay]
    refine tf (i:=25) rfl ?_
    try simp only [lay]
    refine tf (i:=26) rfl ?_
    try simp only [lay]
    refine tf (i:=27) rfl ?_
    try simp only [lay]
    refine tf (i:=28) rfl ?_
    try simp only [lay]
    refine tf (i:=29) rfl ?_
    try simp only [lay]
    refine tf (i:=30) rfl ?_
    try simp only [lay]
    refine tf (i:=31) rfl ?_
    try simp only [lay]
    refine' tkq 32 rfl ?_;try simp only [lay]
    refine wpAnyH_done (by kernel_rfl) ?_ _
    go_wp2_with fail
    go_ret
    exact ⟨rfl,hbd⟩
   ·by_cases h2:top < b
    ·obtain rfl:ans=false:=by rw [HST.out,decide_eq_false (show ¬ b≤top by omega),Bool.and_false];rfl
     clear hcl
     go_upto_region 4 with (fail)
     refine wp_region_held_drew (S:=fun W=>W.cell? ⟨g,o + i * 33,none⟩=some (.int .i64 b)) (by kernel_rfl) hc (fun hHeld=>?_)
     refine' tkq 0 rfl ?_;try simp only [lay]
     refine' tkq 1 rfl ?_;try simp only [lay]
     refine' tkq 2 rfl ?_;try simp only [lay]
     refine' tkq 3 rfl ?_;try simp only [lay]
     refine' tkq 4 rfl ?_;try simp only [lay]
     refine' tkq 5 rfl ?_;try simp only [lay]
     refine' tkq 6 rfl ?_;try simp only [lay]
     refine' tkq 7 rfl ?_;try simp only [lay]
     refine' tkq 8 rfl ?_;try simp only [lay]
     refine' tkq 9 rfl ?_;try simp only [lay]
     refine' tkq 10 rfl ?_;try simp only [lay]
     refine' tkq 11 rfl ?_;try simp only [lay]
     refine' tkq 12 rfl ?_;try simp only [lay]
     refine' tkq 13 rfl ?_;try simp only [lay]
     refine' tkq 14 rfl ?_;try simp only [lay]
     refine' tkq 15 rfl ?_;try simp only [lay]
     refine tf (i:=16) rfl ?_
     try simp only [lay]
     refine tf (i:=17) rfl ?_
     try simp only [lay]
     refine tf (i:=18) rfl ?_
     try simp only [lay]
     refine tf (i:=19) rfl ?_
     try simp only [lay]
     refine tf (i:=20) rfl ?_
     try simp only [lay]
     refine tf (i:=21) rfl ?_
     try simp only [lay]
     refine tf (i:=22) rfl ?_
     try simp only [lay]
     refine tf (i:=23) rfl ?_
     try simp only [lay]
     refine tf (i:=24) rfl ?_
     try simp only [lay]
     refine tf (i:=25) rfl ?_
     try simp only [lay]
     refine tf (i:=26) rfl ?_
     try simp only [lay]
     refine tf (i:=27) rfl ?_
     try simp only [lay]
     refine tf (i:=28) rfl ?_
     try simp only [lay]
     refine tf (i:=29) rfl ?_
     try simp only [lay]
     refine tf (i:=30) rfl ?_
     try simp only [lay]
     refine tf (i:=31) rfl ?_
     try simp only [lay]
     refine' tkq 32 rfl ?_;try simp only [lay]
     refine wpAnyH_done (by kernel_rfl) ?_ _
     go_wp2_with fail
     go_ret
     exact ⟨rfl,hbd⟩
    ·rcases hpre with ⟨rfl,rfl⟩ | ⟨k,rfl,hk,rfl⟩
     ·clear hcl
      rw [Nat.zero_mul,Nat.add_zero] at hc
      go_upto_region 4 with (fail)
      refine wp_region_held_drew (S:=fun W=>W.cell? ⟨g,o,none⟩=some (.int .i64 b)) (by kernel_rfl) hc (fun hHeld=>?_)
      refine' tkq 0 rfl ?_;try simp only [lay]
      refine' tkq 1 rfl ?_;try simp only [lay]
      refine' tkq 2 rfl ?_;try simp only [lay]
      refine' tkq 3 rfl ?_;try simp only [lay]
      refine' tkq 4 rfl ?_;try simp only [lay]
      refine' tkq 5 rfl ?_;try simp only [lay]
      refine' tkq 6 rfl ?_;try simp only [lay]
      refine' tkq 7 rfl ?_;try simp only [lay]
      refine' tkq 8 rfl ?_;try simp only [lay]
      refine' tkq 9 rfl ?_;try simp only [lay]
      refine' tkq 10 rfl ?_;try simp only [lay]
      refine' tkq 11 rfl ?_;try simp only [lay]
      refine' tkq 12 rfl ?_;try simp only [lay]
      refine' tkq 13 rfl ?_;try simp only [lay]
      refine' tkq 14 rfl ?_;try simp only [lay]
      refine' tkq 15 rfl ?_;try simp only [lay]
      refine' tkq 16 rfl ?_;try simp only [lay]
      refine' tkq 17 rfl ?_;try simp only [lay]
      refine' tkq 18 rfl ?_;try simp only [lay]
      refine tf (i:=19) rfl ?_
      try simp only [lay]
      refine tf (i:=20) rfl ?_
      try simp only [lay]
      refine tf (i:=21) rfl ?_
      try simp only [lay]
      refine tf (i:=22) rfl ?_
      try simp only [lay]
      refine tf (i:=23) rfl ?_
      try simp only [lay]
      refine tf (i:=24) rfl ?_
      try simp only [lay]
      refine tf (i:=25) rfl ?_
      try simp only [lay]
      refine tf (i:=26) rfl ?_
      try simp only [lay]
      refine tf (i:=27) rfl ?_
      try simp only [lay]
      refine tf (i:=28) rfl ?_
      try simp only [lay]
      refine tf (i:=29) rfl ?_
      try simp only [lay]
      refine tf (i:=30) rfl ?_
      try simp only [lay]
      refine' tkq 31 rfl ?_;try simp only [lay]
      refine' tkq 32 rfl ?_;try simp only [lay]
      refine wpAnyH_done (by kernel_rfl) ?_ _
      go_wp2_with fail
      go_roundw
      case rel=>exact ⟨0 + 1,b,by omega,by go_num,by omega,hid (by rw [HST.out,decide_eq_true (by omega),decide_eq_true (by omega)];simp),.inr ⟨0,rfl,hil,HBB.out⟩,hbd⟩
      case measure=>simp [intOf];omega
     ·obtain ⟨p,HPP⟩:∃ p:Int,Hid (l[k].bo=p):=⟨_,hid rfl⟩
      have hd:wr.drew.cell? ⟨g,o + k * 33,none⟩=some (.int .i64 p):=by rw [← HPP.out];exact (sg_range (hcl k hk)).1
      rw [HPP.out] at HST hlast
      have hkL:(k:Int) < (L:Int):=by omega
      have hk1:(0:Int) < ((k + 1:Nat):Int):=by omega
      have hwk:IntKind.i64.wrap (((k + 1:Nat):Int) - 1)=(k:Int):=by rw [IntKind.wrap_i64];omega
      have hk2:(0:Int) < (k:Int) + 1:=by omega
      have hk0:(0:Int)≤(k:Int) + 1:=by omega
      have hI2:(k:Int) + 1 < (L:Int):=by omega
      have hwk2:IntKind.i64.wrap ((k:Int) + 1 - 1)=(k:Int):=by rw [IntKind.wrap_i64];omega
      have hwk3:IntKind.i64.wrap (k:Int)=(k:Int):=by rw [IntKind.wrap_i64];omega
      by_cases h3:p < b
      ·have h3':¬ b≤p:=by omega
       clear hcl
       go_upto_region 4 with (fail)
       refine wp_region_held_drew (S:=fun W=>W.cell? ⟨g,o + (k + 1) * 33,none⟩=some (.int .i64 b)∧W.cell? ⟨g,o + k * 33,none⟩=some (.int .i64 p)) (by kernel_rfl) ⟨hc,hd⟩ (fun hHeld=>?_)
       refine' tkq 0 rfl ?_;try simp only [lay]
       refine' tkq 1 rfl ?_;try simp only [lay]
       refine' tkq 2 rfl ?_;try simp only [lay]
       refine' tkq 3 rfl ?_;try simp only [lay]
       refine' tkq 4 rfl ?_;try simp only [lay]
       refine' tkq 5 rfl ?_;try simp only [lay]
       refine' tkq 6 rfl ?_;try simp only [lay]
       refine' tkq 7 rfl ?_;try simp only [lay]
       refine' tkq 8 rfl ?_;try simp only [lay]
       refine' tkq 9 rfl ?_;try simp only [lay]
       refine' tkq 10 rfl ?_;try simp only [lay]
       refine' tkq 11 rfl ?_;try simp only [lay]
       refine' tkq 12 rfl ?_;try simp only [lay]
       refine' tkq 13 rfl ?_;try simp only [lay]
       refine' tkq 14 rfl ?_;try simp only [lay]
       refine' tkq 15 rfl ?_;try simp only [lay]
       refine' tkq 16 rfl ?_;try simp only [lay]
       refine' tkq 17 rfl ?_;try simp only [lay]
       refine' tkq 18 rfl ?_;try simp only [lay]
       refine' tkq 19 rfl ?_;try simp only [lay]
       refine' tkq 20 rfl ?_;try simp only [lay]
       refine' tkq 21 rfl ?_;try simp only [lay]
       refine' tkq 22 rfl ?_;try simp only [lay]
       refine' tkq 23 rfl ?_;try simp only [lay]
       refine' tkq 24 rfl ?_;try simp only [lay]
       refine' tkq 25 rfl ?_;try simp only [lay]
       refine' tkq 26 rfl ?_;try simp only [lay]
       refine' tkq 27 rfl ?_;try simp only [lay]
       refine' tkq 28 rfl ?_;try simp only [lay]
       refine' tkq 29 rfl ?_;try simp only [lay]
       refine' tkq 30 rfl ?_;try simp only [lay]
       refine' tkq 31 rfl ?_;try simp only [lay]
       refine' tkq 32 rfl ?_;try simp only [lay]
       refine wpAnyH_done (by kernel_rfl) ?_ _
       go_wp2_with fail
       go_roundw
       case rel=>exact ⟨k + 1 + 1,b,by omega,by go_num,by omega,hid (by rw [HST.out,decide_eq_true h3,decide_eq_true (by omega)];simp),.inr ⟨k + 1,rfl,hil,HBB.out⟩,hbd⟩
       case measure=>simp [intOf];omega
      ·have h3':b≤p:=by omega
       obtain rfl:ans=false:=by rw [HST.out,decide_eq_false h3];rfl
       clear hcl
       go_upto_region 4 with (fail)
       refine wp_region_held_drew (S:=fun W=>W.cell? ⟨g,o + (k + 1) * 33,none⟩=some (.int .i64 b)∧W.cell? ⟨g,o + k * 33,none⟩=some (.int .i64 p)) (by kernel_rfl) ⟨hc,hd⟩ (fun hHeld=>?_)
       refine' tkq 0 rfl ?_;try simp only [lay]
       refine' tkq 1 rfl ?_;try simp only [lay]
       refine' tkq 2 rfl ?_;try simp only [lay]
       refine' tkq 3 rfl ?_;try simp only [lay]
       refine' tkq 4 rfl ?_;try simp only [lay]
       refine' tkq 5 rfl ?_;try simp only [lay]
       refine' tkq 6 rfl ?_;try simp only [lay]
       refine' tkq 7 rfl ?_;try simp only [lay]
       refine' tkq 8 rfl ?_;try simp only [lay]
       refine' tkq 9 rfl ?_;try simp only [lay]
       refine' tkq 10 rfl ?_;try simp only [lay]
       refine' tkq 11 rfl ?_;try simp only [lay]
       refine' tkq 12 rfl ?_;try simp only [lay]
       refine' tkq 13 rfl ?_;try simp only [lay]
       refine' tkq 14 rfl ?_;try simp only [lay]
       refine' tkq 15 rfl ?_;try simp only [lay]
       refine' tkq 16 rfl ?_;try simp only [lay]
       refine' tkq 17 rfl ?_;try simp only [lay]
       refine' tkq 18 rfl ?_;try simp only [lay]
       refine' tkq 19 rfl ?_;try simp only [lay]
       refine' tkq 20 rfl ?_;try simp only [lay]
       refine' tkq 21 rfl ?_;try simp only [lay]
       refine' tkq 22 rfl ?_;try simp only [lay]
       refine' tkq 23 rfl ?_;try simp only [lay]
       refine' tkq 24 rfl ?_;try simp only [lay]
       refine' tkq 25 rfl ?_;try simp only [lay]
       refine' tkq 26 rfl ?_;try simp only [lay]
       refine' tkq 27 rfl ?_;try simp only [lay]
       refine' tkq 28 rfl ?_;try simp only [lay]
       refine' tkq 29 rfl ?_;try simp only [lay]
       refine' tkq 30 rfl ?_;try simp only [lay]
       refine' tkq 31 rfl ?_;try simp only [lay]
       refine' tkq 32 rfl ?_;try simp only [lay]
       refine wpAnyH_done (by kernel_rfl) ?_ _
       go_wp2_with fail
       go_ret
       exact ⟨rfl,hbd⟩
  ·obtain rfl:i=L:=by omega
   obtain rfl:ans=true:=by rw [HR.out,List.drop_eq_nil_of_le (by rw [HL.out];exact Nat.le_refl _)];rfl
   go_wp2
   go_ret
   exact ⟨rfl,hbr⟩
end Go.Proofs.YtpdnnmabijmfbaaGreatDoor
namespace Go.Proofs.YtpdnnmabijmfbaaGreatDoor
set_option maxRecDepth 20000
open Go.RowKit
theorem buildSg1_run (w:World):(Instr.build 207 #[(0,.int .i64 1)]).run Tryz.prog w=.ok (.agg (sgc ⟨1,z32⟩)) w:=by
 go_simp
 rfl
theorem exec_build_sg1 (a:Act) (dst:Option Tmp) (ty:TypeId) (pos:String) (after:Array Edge) (guard:Option (Nat × Bool)) (w:World):
  Sem.run Tryz.prog (execOp a.eval { dst:=dst,op:=.build 207 #[(0,.const (.int .i64 1))],type:=ty,pos:=pos,after:=after,guard:=guard }) w=.ok (.value (.agg (sgc ⟨1,z32⟩))) w:=by
 unfold execOp
 simp [Act.eval,buildSg1_run]
attribute [local go_sem ↓] exec_load_att exec_load_ct exec_build_sg1 exec_load_sg
end Go.Proofs.YtpdnnmabijmfbaaGreatDoor
namespace Go.Proofs.YtpdnnmabijmfbaaGreatDoor
set_option maxRecDepth 20000
open Go.ChangeShapes Go.WideShapes Go.ChangeAt Go.RowKit Go.Deep
section
variable {H:Type} {enc:TypeId × Value→H} {w:World} {base:Nat} {spare:Nat→Bool} {held:Bool} {fuel:Nat} {cs:List Value} {x:DataW H × List MemPlace}
theorem fields_sg2:∃ f0 f1:Field,Tryz.prog.underlying 207=some (.struct #[f0,f1])∧(f0.type,f0.offset)=(3,0)∧(f1.type,f1.offset)=(38,1):=
 ⟨_,_,Tryz.underlying207,rfl,rfl⟩
theorem trod_sg (h:DataW.trod enc Tryz.prog w base spare held fuel 207 cs=some x):∃ s:SgM,s.Ok∧cs=scl s:=by
 obtain ⟨f0,f1,hu,e0,e1⟩:=fields_sg2
 injection e0 with t0 o0
 injection e1 with t1 o1
 obtain ⟨xs,m,_,_,hlen,hxl,hf⟩:=DataW.trod_struct hu h
 have hc:Tryz.prog.cellsOf 207=33:=by kernel_rfl
 have hci:Tryz.prog.cellsOf 3=1:=by kernel_rfl
 have hch:Tryz.prog.cellsOf 38=32:=by kernel_rfl
 rw [hc] at hlen
 have hx:xs.length=2:=hxl
 have g0:=hf 0 f0 rfl
 have g1:=hf 1 f1 rfl
 rw [t0,o0,hci,List.getElem?_eq_getElem (by omega)] at g0
 rw [t1,o1,hch,List.getElem?_eq_getElem (by omega)] at g1
 obtain ⟨n0,c0,_,_⟩:=DataW.trod_int Tryz.underlying3 g0
 obtain ⟨tg,h1,c1⟩:=trod_hash g1
 refine ⟨⟨n0,tg⟩,h1,?_⟩
 have e:cs=cs.drop 0:=rfl
 rw [e,drop_part c0,drop_part c1,List.drop_eq_nil_of_le (by omega)]
 unfold scl
 simp only [List.append_nil,List.cons_append,List.nil_append]
theorem trod_sgs (h:DataW.trod enc Tryz.prog w base spare held fuel 55 cs=some x):∃ v L,cs=[v]∧Els scl 33 w v L∧∀ s ∈ L,s.Ok:=
 eltSg.trod sgZ sgZ_ok (fun h=>trod_sg h) h
theorem trod_ats (h:DataW.trod enc Tryz.prog w base spare held fuel 60 cs=some x):∃ v L,cs=[v]∧Els atl 101 w v L∧∀ a ∈ L,a.Ok:=
 eltAt.trod atZ atZ_ok (fun h=>trod_at h) h
theorem fields_ct:∃ f0 f1:Field,Tryz.prog.underlying 57=some (.struct #[f0,f1])∧(f0.type,f0.offset)=(54,0)∧(f1.type,f1.offset)=(55,101):=
 ⟨_,_,Tryz.underlying57,rfl,rfl⟩
theorem trod_ct (h:DataW.trod enc Tryz.prog w base spare held fuel 57 cs=some x):∃ c:CtM,CtV w (.agg cs.toArray) c:=by
 obtain ⟨f0,f1,hu,e0,e1⟩:=fields_ct
 injection e0 with t0 o0
 injection e1 with t1 o1
 obtain ⟨xs,m,_,_,hlen,hxl,hf⟩:=DataW.trod_struct hu h
 have hc:Tryz.prog.cellsOf 57=102:=by kernel_rfl
 have hca:Tryz.prog.cellsOf 54=101:=by kernel_rfl
 have hcs:Tryz.prog.cellsOf 55=1:=by kernel_rfl
 rw [hc] at hlen
 have hx:xs.length=2:=hxl
 have g0:=hf 0 f0 rfl
 have g1:=hf 1 f1 rfl
 rw [t0,o0,hca,List.getElem?_eq_getElem (by omega)] at g0
 rw [t1,o1,hcs,List.getElem?_eq_getElem (by omega)] at g1
 obtain ⟨a,ha,c0⟩:=trod_at g0
 obtain ⟨v,L,c1,hv,hL⟩:=trod_sgs g1
 refine ⟨⟨a,L⟩,v,?_,⟨ha,hL⟩,hv⟩
 have e:cs=cs.drop 0:=rfl
 rw [e,drop_part c0,drop_part c1,List.drop_eq_nil_of_le (by omega)]
 unfold ctc
 simp only [List.append_nil]
end
end Go.Proofs.YtpdnnmabijmfbaaGreatDoor
namespace Go.Proofs.YtpdnnmabijmfbaaGreatDoor
set_option maxRecDepth 20000
open Go.RowKit
def rvc (V:VaM) (v0 v1 vh:Value) (wh:Int):Array Value:=#[.int .i64 V.i,v0,v1,.int .i64 V.n,.int .i64 V.left,.bool V.dead,vh,.int .i64 wh]
def RvC (w:World) (C:Array Value) (V:VaM):Prop:=∃ v0 v1 vh wh,C=rvc V v0 v1 vh wh∧Bys w v0 V.s0∧Bys w v1 V.s1∧Bys w vh V.torn∧(V.torn≠[]→wh=placeV V)
theorem rvc_one (V:VaM) (A0 A1 A2:Option Addr) (n0 n1 n2 c0 c1 c2:Nat) (wh:Int):(rvc V (.slice A0 n0 c0) (.slice A1 n1 c1) (.slice A2 n2 c2) wh).all (·.oneCell')=true:=by
 unfold rvc
 refine all_oneCell_toArray (cs:=[_,_,_,_,_,_,_,_]) (fun u hu=>?_)
 simp only [List.mem_cons,List.not_mem_nil,or_false] at hu
 rcases hu with rfl | rfl | rfl | rfl | rfl | rfl | rfl | rfl <;> rfl
theorem RvC.size {w:World} {C:Array Value} {V:VaM} (h:RvC w C V):C.size=8:=by
 obtain ⟨_,_,_,_,rfl,_⟩:=h
 rfl
theorem RvC.one {w:World} {C:Array Value} {V:VaM} (h:RvC w C V):C.all (·.oneCell')=true:=by
 obtain ⟨v0,v1,vh,wh,rfl,h0,h1,h2,_⟩:=h
 obtain ⟨A0,c0,r0⟩:=h0.shape
 obtain ⟨A1,c1,r1⟩:=h1.shape
 obtain ⟨A2,c2,r2⟩:=h2.shape
 subst r0 r1 r2
 exact rvc_one ..
theorem RvC.away {w w':World} {C:Array Value} {V:VaM} (h:RvC w C V) (hs:w.heap.size≤w'.heap.size) (hk:∀ (k:Nat) (C:Array Value),w.heap[k]?=some (Obj.cells C 5 (0,0))→w'.heap[k]?=w.heap[k]?):RvC w' C V:=by
 obtain ⟨v0,v1,vh,wh,rfl,h0,h1,h2,h3⟩:=h
 exact ⟨v0,v1,vh,wh,rfl,h0.away hs hk,h1.away hs hk,h2.away hs hk,h3⟩
theorem RvC.below {w w':World} {C:Array Value} {V:VaM} (h:RvC w C V) (hb:Below w.heap.size w w'):RvC w' C V:=h.away hb.size (fun k _ hk=>hb.block k (lt_of_block hk))
theorem Vlt.turnedR {w w':World} {b c a:Nat} {V V':VaM} {C:Array Value} (h:Vlt w b c a V) (hv:RvC w C V') (ht:Turn b a w w'):RvC w' C V':=by
 obtain ⟨v0,v1,vt,h⟩:=h
 exact hv.away ht.size (fun k _ hk=>ht.block k (lt_of_block hk) (blk_ne hk h.p (by decide)) (blk_ne hk h.k.q (by decide)))
theorem Vlt.turnedB {w w':World} {b c a:Nat} {V:VaM} (h:Vlt w b c a V) {v:Value} {l:List UInt8} (hv:Bys w v l) (ht:Turn b a w w'):Bys w' v l:=by
 obtain ⟨v0,v1,vt,h⟩:=h
 exact h.turnedS hv ht
theorem under_rv:Tryz.prog.underlying 36=some (.struct (Tryz.prog.fieldsOf 36)):=by kernel_rfl
theorem size_rv:(Tryz.prog.info? 36).map (·.size)=some 8:=by kernel_rfl
noncomputable def loadRv (v : Value) (w : World) : Result Next := Sem.run Tryz.prog (execOp (fun _ => v) { dst := none, op := .load 36 (.tmp 0), type := 0, pos := "", after := #[], guard := none }) w
theorem exec_load_rv (r:Operand→Value) (x:Operand) (dst:Option Tmp) (ty:TypeId) (pos:String) (after:Array Edge) (guard:Option (Nat × Bool)) (w:World):
  Sem.run Tryz.prog (execOp r { dst:=dst,op:=.load 36 x,type:=ty,pos:=pos,after:=after,guard:=guard }) w=loadRv (r x) w:=rfl
theorem loadRv_row {w:World} {g:Nat} {C:Array Value} {T:TypeId} (h:w.heap[g]?=some (.cells C T (0,0))) (hs:C.size=8):loadRv (.pointer (some ⟨g,0,none⟩)) w=.ok (.value (.agg C)) w:=by
 have:=run_loadAt_mid (P:=Tryz.prog) w g 0 36 C.toList _ (fun j v hj=>by rw [Nat.zero_add,cell_blk h j];simpa using hj) under_rv rfl (by rw [size_rv];simp [hs])
 simp only [Array.toArray_toList] at this
 unfold loadRv execOp
 simp only [Sem.run_bind,this,Result.andThen_ok,Sem.run_pure]
def rvZ:Array Value:=rvc ⟨0,[],[],0,0,false,[]⟩ (.slice none 0 0) (.slice none 0 0) (.slice none 0 0) 0
theorem zero_rv:(Tryz.prog.info? 36).bind (·.zero)=some (.agg rvZ):=by kernel_rfl
theorem run_zero_rv (w:World):(zeroValue 36).run Tryz.prog w=.ok (.agg rvZ) w:=by
 have h:=zero_rv
 cases hq:Tryz.prog.info? 36 with
 | none=>rw [hq] at h;cases h
 | some i=>
  rw [hq] at h
  have hz:i.zero=some (.agg rvZ):=h
  simp [zeroValue,typeInfo,hq,hz]
noncomputable def allocRv (w : World) : Result Next := Sem.run Tryz.prog (execOp (fun _ => undef) { dst := none, op := .alloc 36, type := 0, pos := "", after := #[], guard := none }) w
theorem exec_alloc_rv (r:Operand→Value) (dst:Option Tmp) (ty:TypeId) (pos:String) (after:Array Edge) (guard:Option (Nat × Bool)) (w:World):
  Sem.run Tryz.prog (execOp r { dst:=dst,op:=.alloc 36,type:=ty,pos:=pos,after:=after,guard:=guard }) w=allocRv w:=rfl
theorem allocRv_eq (w:World):allocRv w=.ok (.value (.pointer (some ⟨w.heap.size,0,none⟩))) (w.alloc (.cells rvZ 36)):=by
 unfold allocRv execOp
 simp only [Sem.run_bind,Instr.alloc,run_zero_rv,newVar,newRow,run_newObj_alloc,Sem.run_pure,Result.andThen_ok,Value.cells]
noncomputable def storeRv (p v:Value) (w:World):Result Next:=Sem.run Tryz.prog (execOp (fun x=>match x with
 | .tmp 0=>p
 | _ => v) { dst := none, op := .store 36 (.tmp 0) (.tmp 1), type := 0, pos := "", after := #[], guard := none }) w
theorem exec_store_rv (r:Operand→Value) (x y:Operand) (dst:Option Tmp) (ty:TypeId) (pos:String) (after:Array Edge) (guard:Option (Nat × Bool)) (w:World):
  Sem.run Tryz.prog (execOp r { dst:=dst,op:=.store 36 x y,type:=ty,pos:=pos,after:=after,guard:=guard }) w=storeRv (r x) (r y) w:=rfl
theorem storeRv_eq {w:World} {g:Nat} {t:TypeId} {C0 C:Array Value} (hg:w.heap[g]?=some (.cells C0 t (0,0))) (h0:C0.size=8) (hC:C.size=8) (h1:C.all (·.oneCell')=true):
  storeRv (.pointer (some ⟨g,0,none⟩)) (.agg C) w=.ok .skip (setSe w g C):=by
 have:=run_storeVar_row (P:=Tryz.prog) w g t 36 C0 C hg (by rw [size_rv,hC]) (by rw [h0,hC]) h1
 unfold storeRv execOp
 simp only [Instr.storeAt,Instr.sureAddr,Sem.run_bind,Sem.run_pure,Result.andThen_ok,this]
 rfl
theorem rv_var (w:World) {Z S:Array Value} (hZ:Z.size=8) (hS:S.size=8) (h1:S.all (·.oneCell')=true):
  storeRv (.pointer (some ⟨w.heap.size,0,none⟩)) (.agg S) (w.alloc (.cells Z 36))=.ok .skip (w.alloc (.cells S 36)):=by
 rw [storeRv_eq (heap_alloc_new w _) hZ hS h1,setSe_alloc]
theorem results_rv1 {fn:Func} {q:Tmp} (h:fn.results=#[.cell q 36]) (tmps:Array Value) (w:World) (g2:Nat) (t2:TypeId) (ys:Array Value)
  (hq:tmps.getD q undef=.pointer (some ⟨g2,0,none⟩)) (h2:w.heap[g2]?=some (.cells ys t2 (0,0))) (hy:ys.size=8):
  (results fn tmps).run Tryz.prog w=.ok (.agg ys) w:=by
 have hq':tmps[q]?.getD undef=.pointer (some ⟨g2,0,none⟩):=by simpa using hq
 have r2:=run_loadVar_row (P:=Tryz.prog) w g2 t2 36 ys (0,0) _ h2 under_rv rfl (by rw [size_rv,hy])
 simp [results,h,hq',asAddr,r2]
theorem results_rv2 {fn:Func} {q s:Tmp} (h:fn.results=#[.cell q 36,.tmp s]) (tmps:Array Value) (w:World) (g2:Nat) (t2:TypeId) (ys:Array Value) (v:Value)
  (hq:tmps.getD q undef=.pointer (some ⟨g2,0,none⟩)) (hv:tmps.getD s undef=v) (h2:w.heap[g2]?=some (.cells ys t2 (0,0))) (hy:ys.size=8):
  (results fn tmps).run Tryz.prog w=.ok (.tuple #[.agg ys,v]) w:=by
 have hq':tmps[q]?.getD undef=.pointer (some ⟨g2,0,none⟩):=by simpa using hq
 have hv':tmps[s]?.getD undef=v:=by simpa using hv
 have r2:=run_loadVar_row (P:=Tryz.prog) w g2 t2 36 ys (0,0) _ h2 under_rv rfl (by rw [size_rv,hy])
 simp [results,h,hq',hv',asAddr,r2]
theorem rv_cell {w:World} {g:Nat} {V:VaM} {v0 v1 vh:Value} {wh:Int} {T:TypeId} (h:w.heap[g]?=some (.cells (rvc V v0 v1 vh wh) T (0,0))):
  w.cell? ⟨g,0,none⟩=some (.int .i64 V.i)∧w.cell? ⟨g,1,none⟩=some v0∧w.cell? ⟨g,2,none⟩=some v1∧w.cell? ⟨g,3,none⟩=some (.int .i64 V.n)∧w.cell? ⟨g,4,none⟩=some (.int .i64 V.left)∧w.cell? ⟨g,5,none⟩=some (.bool V.dead)∧w.cell? ⟨g,6,none⟩=some vh∧w.cell? ⟨g,7,none⟩=some (.int .i64 wh):=by
 simp only [coBlk_cell h]
 exact ⟨rfl,rfl,rfl,rfl,rfl,rfl,rfl,rfl⟩
def BoxRv (w:World) (g:Nat) (V:VaM) (v0 v1 vh:Value) (wh:Int):Prop:=w.heap[g]?=some (.cells (rvc V v0 v1 vh wh) 36 (0,0))
section
variable {w:World} {g:Nat} {V:VaM} {v0 v1 vh:Value} {wh:Int}
theorem BoxRv.set (h:BoxRv w g V v0 v1 vh wh) {i:Nat} {u:Value} {V':VaM} {u0 u1 uh:Value} {k:Int} (hc:(rvc V v0 v1 vh wh).setIfInBounds i u=rvc V' u0 u1 uh k):BoxRv (w.setCell ⟨g,i,none⟩ u) g V' u0 u1 uh k:=by
 unfold BoxRv
 rw [heapA_set w h,hc]
theorem BoxRv.cells (h:BoxRv w g V v0 v1 vh wh):w.cell? ⟨g,0,none⟩=some (.int .i64 V.i)∧w.cell? ⟨g,1,none⟩=some v0∧w.cell? ⟨g,2,none⟩=some v1∧w.cell? ⟨g,3,none⟩=some (.int .i64 V.n)∧w.cell? ⟨g,4,none⟩=some (.int .i64 V.left)∧w.cell? ⟨g,5,none⟩=some (.bool V.dead)∧w.cell? ⟨g,6,none⟩=some vh∧w.cell? ⟨g,7,none⟩=some (.int .i64 wh):=rv_cell h
theorem BoxRv.free (h:BoxRv w g V v0 v1 vh wh) (i:Nat):w.frozen? ⟨g,i,none⟩=false:=coBlk_free h i
theorem BoxRv.ld (h:BoxRv w g V v0 v1 vh wh):loadRv (.pointer (some ⟨g,0,none⟩)) w=.ok (.value (.agg (rvc V v0 v1 vh wh))) w:=loadRv_row h rfl
theorem BoxRv.below {w':World} (h:BoxRv w g V v0 v1 vh wh) (hb:Below w.heap.size w w'):BoxRv w' g V v0 v1 vh wh:=(hb.block g (lt_of_block h)).trans h
end
theorem rv_end {w0 w:World} {B g:Nat} {C0 C:Array Value} {T:TypeId} (hb:Below B w0 w) (hg:w.heap[g]?=some (.cells C0 T (0,0))) (hB:B≤g) (h0:C0.size=8) (hC:C.size=8) (h1:C.all (·.oneCell')=true):
  storeRv (.pointer (some ⟨g,0,none⟩)) (.agg C) w=.ok .skip (setSe w g C)∧(setSe w g C).heap[g]?=some (.cells C T (0,0))∧Below B w0 (setSe w g C):=⟨storeRv_eq hg h0 hC h1,setSe_same hg,setSe_below hb hB⟩
end Go.Proofs.YtpdnnmabijmfbaaGreatDoor
namespace Go.Proofs.YtpdnnmabijmfbaaGreatDoor
set_option maxRecDepth 20000
open Go.RowKit
attribute [local go_sem ↓] exec_load_rv exec_alloc_rv exec_store_rv
theorem refNew14_any (i n:Int) (w:World):Calls Tryz.prog 11 #[.int .i64 i,.int .i64 n] w fun e w'=>e=.returned (.agg (rvc (newV i n) (.slice none 0 0) (.slice none 0 0) (.slice none 0 0) 0))∧Below w.heap.size w w':=by
 have hal:=allocRv_eq w
 have hst:=rv_var w (Z:=rvZ) (S:=rvc (newV i n) (.slice none 0 0) (.slice none 0 0) (.slice none 0 0) 0) rfl rfl (rvc_one ..)
 have HR:=hid (heap_alloc_new w (.cells (rvc (newV i n) (.slice none 0 0) (.slice none 0 0) (.slice none 0 0) 0) 36))
 have HB:=hid ((Below.refl w.heap.size w).alloc (Nat.le_refl _) (.cells (rvc (newV i n) (.slice none 0 0) (.slice none 0 0) (.slice none 0 0) 0) 36))
 unfold rvc newV at hst
 simp only at hst
 go_enter Tryz.func11,Tryz.ntmps11
 go_wp2_with fail
 try simp only [Exit.inBlock,Exit.then]
 refine bodyPost_ret (results_rv1 rfl _ _ _ _ _ rfl HR.out rfl) rfl ⟨rfl,HB.out⟩
set_option maxHeartbeats 1600000 in
theorem refStep14_any (V:VaM) (v0 v1 vh:Value) (wh:Int) (w:World) (hl:-1≤V.left) (hm:V.left≤9223372036854775807) (ho:∀ V',(rvc V' v0 v1 vh wh).all (·.oneCell')=true):
  Calls Tryz.prog 71 #[.agg (rvc V v0 v1 vh wh)] w fun e w'=>e=.returned (.tuple #[.agg (rvc (stepV V) v0 v1 vh wh),.bool (stepB V)])∧Below w.heap.size w w':=by
 have hr0:BoxRv (w.alloc (.cells (rvc V v0 v1 vh wh) 36)) w.heap.size V v0 v1 vh wh:=heap_alloc_new w _
 have hb0:Below w.heap.size w (w.alloc (.cells (rvc V v0 v1 vh wh) 36)):=(Below.refl _ _).alloc (Nat.le_refl _) _
 obtain ⟨D,HD⟩:∃ C:Array Value,Hid (rvc V v0 v1 vh wh=C):=⟨_,hid rfl⟩
 obtain ⟨D2,HD2⟩:∃ C:Array Value,Hid (rvc (stepV V) v0 v1 vh wh=C):=⟨_,hid rfl⟩
 have hal:=allocRv_eq (w.alloc (.cells D 36))
 rw [HD.out] at hr0 hb0 ⊢
 rw [HD2.out]
 have hb1:Below w.heap.size w ((w.alloc (.cells D 36)).alloc (.cells rvZ 36)):=hb0.alloc hb0.size _
 have HR0:=hid (hr0.below ((Below.refl _ _).alloc (Nat.le_refl _) (.cells rvZ 36)))
 have HR1:=hid (heap_alloc_new (w.alloc (.cells D 36)) (.cells rvZ 36))
 have HB1:=hid hb1
 have hsz:(w.alloc (.cells D 36)).heap.size=w.heap.size + 1:=by simp
 rw [hsz] at HR1 hal
 have HSV:Hid (stepV V=if V.left=0 then { V with dead:=true } else if V.left < 0 then V else { V with left:=V.left - 1 }):=hid rfl
 have HSB:Hid (stepB V=!decide (V.left=0)):=hid rfl
 obtain ⟨sb,HS⟩:∃ q:Bool,Hid (stepB V=q):=⟨_,hid rfl⟩
 rw [HS.out] at HSB ⊢
 clear hr0 hb0 hb1 hsz
 go_enter Tryz.func71,Tryz.ntmps71
 go_upto_region 1 with (fail)
 clear hal
 generalize ((w.alloc (.cells D 36)).alloc (.cells rvZ 36))=w1 at *
 have HFR:=hid (HR0.out.free 5)
 have HF4:=hid (HR0.out.free 4)
 obtain ⟨_,_,_,_,h4,h5,_,_⟩:=HR0.out.cells
 by_cases e0:V.left=0
 ·obtain rfl:sb=false:=by rw [HSB.out,decide_eq_true e0];rfl
  have HR2:=hid (HR0.out.set (i:=5) (u:=.bool true) (V':={ V with dead:=true }) (u0:=v0) (u1:=v1) (uh:=vh) (k:=wh) rfl)
  have hld:=HR2.out.ld
  obtain ⟨h1,h2,h3⟩:=rv_end (C:=rvc { V with dead:=true } v0 v1 vh wh) (HB1.out.setCell (p:=⟨w.heap.size,5,none⟩) (Nat.le_refl _) (.bool true)) ((Below.heap_setCell _ ⟨w.heap.size,5,none⟩ _ (w.heap.size + 1) (by show w.heap.size + 1≠w.heap.size;omega)).trans HR1.out) (Nat.le_succ _) rfl rfl (ho _)
  have H2:=hid h2
  have H3:=hid h3
  have f5:=HFR.out
  clear h2 h3
  obtain ⟨D3,HD3⟩:∃ C:Array Value,Hid (rvc { V with dead:=true } v0 v1 vh wh=C):=⟨_,hid rfl⟩
  have HZ3:Hid (D3.size=8):=hid (by rw [← HD3.out];rfl)
  obtain rfl:D2=D3:=by rw [← HD2.out,← HD3.out,HSV.out,if_pos e0]
  rw [HD3.out] at hld h1 H2 H3
  rw [e0] at h4
  clear e0
  go_wp2_with fail
  try simp only [Exit.inBlock,Exit.then]
  refine bodyPost_ret (results_rv2 rfl _ _ _ _ _ _ rfl rfl H2.out HZ3.out) rfl ⟨rfl,H3.out⟩
 ·obtain rfl:sb=true:=by rw [HSB.out,decide_eq_false e0];rfl
  by_cases e1:V.left < 0
  ·have hld:=HR0.out.ld
   obtain rfl:D=D2:=by rw [← HD2.out,← HD.out,HSV.out,if_neg e0,if_pos e1]
   obtain ⟨h1,h2,h3⟩:=rv_end (C:=rvc V v0 v1 vh wh) HB1.out HR1.out (Nat.le_succ _) rfl rfl (ho _)
   have H2:=hid h2
   have H3:=hid h3
   clear h2 h3
   rw [HD.out] at hld h1 H2 H3
   have HZ3:Hid (D.size=8):=hid (by rw [← HD.out];rfl)
   have e2:¬ (0:Int) < V.left:=by omega
   clear hl hm
   go_wp2_with fail
   try simp only [Exit.inBlock,Exit.then]
   refine bodyPost_ret (results_rv2 rfl _ _ _ _ _ _ rfl rfl H2.out HZ3.out) rfl ⟨rfl,H3.out⟩
  ·have HR2:=hid (HR0.out.set (i:=4) (u:=.int .i64 (V.left - 1)) (V':={ V with left:=V.left - 1 }) (u0:=v0) (u1:=v1) (uh:=vh) (k:=wh) rfl)
   have hld:=HR2.out.ld
   obtain ⟨h1,h2,h3⟩:=rv_end (C:=rvc { V with left:=V.left - 1 } v0 v1 vh wh) (HB1.out.setCell (p:=⟨w.heap.size,4,none⟩) (Nat.le_refl _) (.int .i64 (V.left - 1))) ((Below.heap_setCell _ ⟨w.heap.size,4,none⟩ _ (w.heap.size + 1) (by show w.heap.size + 1≠w.heap.size;omega)).trans HR1.out) (Nat.le_succ _) rfl rfl (ho _)
   have H2:=hid h2
   have H3:=hid h3
   have f4:=HF4.out
   clear h2 h3
   obtain ⟨D3,HD3⟩:∃ C:Array Value,Hid (rvc { V with left:=V.left - 1 } v0 v1 vh wh=C):=⟨_,hid rfl⟩
   have HZ3:Hid (D3.size=8):=hid (by rw [← HD3.out];rfl)
   have hw:IntKind.i64.wrap (V.left - 1)=V.left - 1:=by rw [IntKind.wrap_i64];omega
   obtain rfl:D2=D3:=by rw [← HD2.out,← HD3.out,HSV.out,if_neg e0,if_neg e1]
   rw [HD3.out] at hld h1 H2 H3
   have e2:(0:Int) < V.left:=by omega
   clear hl hm e1
   generalize V.left=left at *
   go_wp2_with fail
   try simp only [Exit.inBlock,Exit.then]
   refine bodyPost_ret (results_rv2 rfl _ _ _ _ _ _ rfl rfl H2.out HZ3.out) rfl ⟨rfl,H3.out⟩
end Go.Proofs.YtpdnnmabijmfbaaGreatDoor
namespace Go.Proofs.YtpdnnmabijmfbaaGreatDoor
set_option maxRecDepth 20000
open Go.ChangeShapes Go.WideShapes Go.ChangeAt Go.RowKit Go.Deep
structure ActM where
 act:Int
 s:SeM
 n:Int
 m:Int
 k:Int
 bA:Option Addr
 bc:Nat
 bl:List UInt8
def ActM.b (a:ActM):Value:=.slice a.bA a.bl.length a.bc
def acl (a:ActM):List Value:=[.int .i64 a.act] ++ (sel a.s ++ [.int .i64 a.n,.int .i64 a.m,.int .i64 a.k,a.b])
def acc (a:ActM):Array Value:=(acl a).toArray
def actZ:ActM:=⟨0,seZ,0,0,0,none,0,[]⟩
def ActOk (w:World) (a:ActM):Prop:=a.s.Ok∧((Lit.int .i64 a.n).wf=true∧(Lit.int .i64 a.m).wf=true∧(Lit.int .i64 a.k).wf=true)∧Byt w a.b a.bl
theorem actZ_ok (w:World):ActOk w actZ:=⟨seZ_ok,⟨by decide,by decide,by decide⟩,Byt.nil w⟩
theorem acl_length {a:ActM} (h:a.s.Ok):(acl a).length=40:=by
 unfold acl
 simp only [List.length_append,sel_length h,List.length_cons,List.length_nil]
theorem acc_size {a:ActM} (h:a.s.Ok):(acc a).size=40:=by
 unfold acc
 rw [List.size_toArray,acl_length h]
theorem acl_one (a:ActM):∀ u ∈ acl a,u.oneCell'=true:=by
 intro u hu
 unfold acl at hu
 simp only [List.mem_append,List.mem_cons,List.not_mem_nil,or_false] at hu
 rcases hu with rfl | hu | rfl | rfl | rfl | rfl
 ·rfl
 ·exact sel_one _ u hu
 ·rfl
 ·rfl
 ·rfl
 ·rfl
theorem acl_do (a:ActM):(acl a)[0]?=some (.int .i64 a.act):=rfl
theorem acl_tail {a:ActM} (h:a.s.Ok):(acl a)[36]?=some (.int .i64 a.n)∧(acl a)[37]?=some (.int .i64 a.m)∧(acl a)[38]?=some (.int .i64 a.k)∧(acl a)[39]?=some a.b:=by
 have hl:=sel_length h
 unfold acl
 refine ⟨?_,?_,?_,?_⟩ <;>
 ·rw [List.getElem?_append_right (by simp),List.getElem?_append_right (by simp only [List.length_cons,List.length_nil,hl];omega)]
  simp only [List.length_cons,List.length_nil,hl]
  rfl
theorem acl_seal (a:ActM) (j:Nat) (u:Value) (h:(sel a.s)[j]?=some u):(acl a)[1 + j]?=some u:=by
 unfold acl
 rw [List.getElem?_append_right (by simp),List.getElem?_append_left (by simpa using (List.getElem?_eq_some_iff.1 h).1)]
 simpa using h
def BoxAc (w:World) (g:Nat) (a:ActM):Prop:=w.heap[g]?=some (.cells (acc a) 62 (0,0))
section
variable {w w':World} {g:Nat} {a:ActM}
theorem BoxAc.below {B:Nat} (h:BoxAc w g a) (hb:Below B w w') (hg:g < B):BoxAc w' g a:=(hb.block g hg).trans h
theorem BoxAc.cell (h:BoxAc w g a) (i:Nat):w.cell? ⟨g,i,none⟩=(acl a)[i]?:=by
 rw [cell_blk h i]
 unfold acc
 rw [List.getElem?_toArray]
theorem BoxAc.cells (h:BoxAc w g a) (ho:a.s.Ok):w.cell? ⟨g,0,none⟩=some (.int .i64 a.act)∧w.cell? ⟨g,36,none⟩=some (.int .i64 a.n)∧w.cell? ⟨g,37,none⟩=some (.int .i64 a.m)∧w.cell? ⟨g,38,none⟩=some (.int .i64 a.k)∧w.cell? ⟨g,39,none⟩=some a.b:=by
 obtain ⟨h1,h2,h3,h4⟩:=acl_tail ho
 exact ⟨(h.cell 0).trans (acl_do a),(h.cell 36).trans h1,(h.cell 37).trans h2,(h.cell 38).trans h3,(h.cell 39).trans h4⟩
theorem loadSe_mid {g o:Nat} {s:SeM} (hr:w.rangeAt g o (sel s)) (hs:s.Ok):loadSe (.pointer (some ⟨g,o,none⟩)) w=.ok (.value (.agg (sec s))) w:=by
 have:=run_loadAt_mid (P:=Tryz.prog) w g o 40 (sel s) _ hr under_se rfl (by rw [size_se,sel_length hs])
 unfold loadSe execOp
 simp only [Sem.run_bind,this,Result.andThen_ok,Sem.run_pure]
 rfl
theorem BoxAc.sealed (h:BoxAc w g a) (ho:a.s.Ok):loadSe (.pointer (some ⟨g,1,none⟩)) w=.ok (.value (.agg (sec a.s))) w:=
 loadSe_mid (fun j u hu=>by rw [h.cell];exact acl_seal a j u hu) ho
end
noncomputable def loadAc (v : Value) (w : World) : Result Next := Sem.run Tryz.prog (execOp (fun _ => v) { dst := none, op := .load 62 (.tmp 0), type := 0, pos := "", after := #[], guard := none }) w
theorem exec_load_ac (r:Operand→Value) (x:Operand) (dst:Option Tmp) (ty:TypeId) (pos:String) (after:Array Edge) (guard:Option (Nat × Bool)) (w:World):
  Sem.run Tryz.prog (execOp r { dst:=dst,op:=.load 62 x,type:=ty,pos:=pos,after:=after,guard:=guard }) w=loadAc (r x) w:=rfl
theorem under_act:Tryz.prog.underlying 62=some (.struct (Tryz.prog.fieldsOf 62)):=by kernel_rfl
theorem size_act:(Tryz.prog.info? 62).map (·.size)=some 40:=by kernel_rfl
theorem loadAc_mid {w:World} {g o:Nat} {a:ActM} (hr:w.rangeAt g o (acl a)) (ho:a.s.Ok):loadAc (.pointer (some ⟨g,o,none⟩)) w=.ok (.value (.agg (acc a))) w:=by
 have:=run_loadAt_mid (P:=Tryz.prog) w g o 62 (acl a) _ hr under_act rfl (by rw [size_act,acl_length ho])
 unfold loadAc execOp
 simp only [Sem.run_bind,this,Result.andThen_ok,Sem.run_pure]
 rfl
theorem info_act:(Tryz.prog.info? 62).map (fun i=>(i.zero,i.size,decide (i.bytes≤100000)))=some (some (.agg (acc actZ)),40,true):=by kernel_rfl
theorem eltAc (w:World):Elt acl (ActOk w) 40 62 101:=by
 refine ⟨by omega,fun _ h=>acl_length h.1,acl_one,by kernel_rfl,by kernel_rfl,?_⟩
 obtain ⟨i,hi,h⟩:=Option.map_eq_some_iff.1 info_act
 injection h with h1 h
 injection h with h2 h3
 exact ⟨i,_,hi,h1,h2,of_decide_eq_true h3,by show (acc actZ).size=40;exact acc_size seZ_ok⟩
section
variable {H:Type} {enc:TypeId × Value→H} {w:World} {base:Nat} {spare:Nat→Bool} {held:Bool} {fuel:Nat} {cs:List Value} {x:DataW H × List MemPlace}
theorem fields_act:∃ f0 f1 f2 f3 f4 f5:Field,Tryz.prog.underlying 62=some (.struct #[f0,f1,f2,f3,f4,f5])∧(f0.type,f0.offset)=(3,0)∧(f1.type,f1.offset)=(40,1)∧(f2.type,f2.offset)=(3,36)
  ∧ (f3.type,f3.offset)=(3,37)∧(f4.type,f4.offset)=(3,38)∧(f5.type,f5.offset)=(33,39):=
 ⟨_,_,_,_,_,_,Tryz.underlying62,rfl,rfl,rfl,rfl,rfl,rfl⟩
theorem trod_act (h:DataW.trod enc Tryz.prog w base spare held fuel 62 cs=some x):∃ a,ActOk w a∧cs=acl a:=by
 obtain ⟨f0,f1,f2,f3,f4,f5,hu,e0,e1,e2,e3,e4,e5⟩:=fields_act
 injection e0 with t0 o0
 injection e1 with t1 o1
 injection e2 with t2 o2
 injection e3 with t3 o3
 injection e4 with t4 o4
 injection e5 with t5 o5
 obtain ⟨xs,m,_,_,hlen,hxl,hf⟩:=DataW.trod_struct hu h
 have hc:Tryz.prog.cellsOf 62=40:=by kernel_rfl
 have hci:Tryz.prog.cellsOf 3=1:=by kernel_rfl
 have hch:Tryz.prog.cellsOf 40=35:=by kernel_rfl
 have hcb:Tryz.prog.cellsOf 33=1:=by kernel_rfl
 rw [hc] at hlen
 have hx:xs.length=6:=hxl
 have g0:=hf 0 f0 rfl
 have g1:=hf 1 f1 rfl
 have g2:=hf 2 f2 rfl
 have g3:=hf 3 f3 rfl
 have g4:=hf 4 f4 rfl
 have g5:=hf 5 f5 rfl
 rw [t0,o0,hci,List.getElem?_eq_getElem (by omega)] at g0
 rw [t1,o1,hch,List.getElem?_eq_getElem (by omega)] at g1
 rw [t2,o2,hci,List.getElem?_eq_getElem (by omega)] at g2
 rw [t3,o3,hci,List.getElem?_eq_getElem (by omega)] at g3
 rw [t4,o4,hci,List.getElem?_eq_getElem (by omega)] at g4
 rw [t5,o5,hcb,List.getElem?_eq_getElem (by omega)] at g5
 obtain ⟨n0,c0,_,_⟩:=DataW.trod_int Tryz.underlying3 g0
 obtain ⟨s1,hs1,c1⟩:=trod_se g1
 obtain ⟨n2,c2,_,w2⟩:=DataW.trod_int Tryz.underlying3 g2
 obtain ⟨n3,c3,_,w3⟩:=DataW.trod_int Tryz.underlying3 g3
 obtain ⟨n4,c4,_,w4⟩:=DataW.trod_int Tryz.underlying3 g4
 obtain ⟨v5,l5,c5,b5⟩:=trod_bytes g5
 obtain ⟨A5,d5,rfl⟩:=b5.shape
 refine ⟨⟨n0,s1,n2,n3,n4,A5,d5,l5⟩,⟨hs1,⟨w2,w3,w4⟩,b5⟩,?_⟩
 have e:cs=cs.drop 0:=rfl
 rw [e,drop_part c0,drop_part c1,drop_part c2,drop_part c3,drop_part c4,drop_part c5,List.drop_eq_nil_of_le (by omega)]
 unfold acl ActM.b
 simp only [List.append_nil,List.cons_append,List.nil_append]
theorem trod_acts (h:DataW.trod enc Tryz.prog w base spare held fuel 101 cs=some x):∃ v L,cs=[v]∧Els acl 40 w v L∧∀ a ∈ L,ActOk w a:=
 (eltAc w).trod actZ (actZ_ok w) (fun h=>trod_act h) h
end
def LitAc (L:List ActM):Prop:=L.length≤40∧∀ j (h:j < L.length),L[j].bl.length≤1200
def LtPost (L:List ActM) (w:World) (e:Ending) (w':World):Prop:=∃ q,e=.returned (.bool q)∧(q=true→LitAc L)∧w=w'
set_option maxHeartbeats 1600000 in
theorem light14_any (v:Value) (L:List ActM) (w:World) (hv:Els acl 40 w v L) (ho:∀ a ∈ L,ActOk w a):
  Calls Tryz.prog 27 #[v] w (LtPost L w):=by
 obtain ⟨A,c,rfl⟩:=hv.shape
 have hr:=hv.at_.2.2.2
 have HR:=hid hr
 obtain ⟨N,HN⟩:∃ q:Nat,Hid (L.length=q):=⟨_,hid rfl⟩
 have HCEL:Hid (∀ k (h:k < L.length),∃ b off,A=some ⟨b,off,none⟩∧b < w.heap.size∧w.cell? ⟨b,off + k * 40 + 39,none⟩=some L[k].b):=hid (fun k hk=>by
  obtain ⟨b,off,e,hb,hc⟩:=hr (by omega)
  refine ⟨b,off,e,hb,?_⟩
  exact hc k hk 39 _ (acl_tail (ho _ (List.getElem_mem hk)).1).2.2.2)
 rw [HN.out]
 clear hv ho hr HR
 go_enter Tryz.func27,Tryz.ntmps27
 go_wp2
 go_loopw [3] (fun si wr=>∃ k:Nat,k≤N∧k≤41∧si=.int .i64 k∧Hid (∀ j (h:j < L.length),j < k→L[j].bl.length≤1200)∧wr=w) (fun si _=>N - (intOf si).toNat)
 case atStart=>exact ⟨0,Nat.zero_le _,Nat.zero_le _,rfl,hid (fun _ _ h=>absurd h (Nat.not_lt_zero _)),rfl⟩
 case round=>
  obtain ⟨k,hk,hk1,rfl,HB,rfl⟩:=hrel
  by_cases hlt:k < N
  ·have hlt':(k:Int) < (N:Int):=by omega
   by_cases h40:k≤40
   ·have h40':(k:Int)≤40:=by omega
    have hkL:k < L.length:=by rw [HN.out];exact hlt
    obtain ⟨b,off,rfl,hb,hc⟩:=HCEL.out k hkL
    obtain ⟨M,HM⟩:∃ q:Nat,Hid (L[k].bl.length=q):=⟨_,hid rfl⟩
    unfold ActM.b at hc
    rw [HM.out] at hc
    have HLT:=hid hlt
    have HK1:=hid hk1
    by_cases hM:(1200:Int) < (M:Int)
    ·go_wp2
     go_ret
     exact ⟨_,rfl,(fun h=>by cases h),rfl⟩
    ·have HMM:=hid hM
     go_wp2
     go_round
     case rel=>exact ⟨k + 1,by omega,by omega,by go_num,hid (fun j hj hjk=>by
      by_cases e:j=k
      ·subst e
       have:=HMM.out
       have:=HM.out
       omega
      ·exact HB.out j hj (by omega)),by trivial⟩
     case measure=>simp [intOf];omega
   ·have h40':¬ (k:Int)≤40:=by omega
    have hN:¬ (N:Int)≤40:=by omega
    clear hk hk1
    go_wp2
    go_ret
    exact ⟨_,rfl,(fun h=>by cases h),rfl⟩
  ·have hlt':¬ (k:Int) < (N:Int):=by omega
   obtain rfl:k=N:=by omega
   by_cases h40:(k:Int)≤40
   ·go_wp2
    go_ret
    exact ⟨_,rfl,(fun _=>⟨by have:=HN.out;omega,fun j hj=>HB.out j hj (by have:=HN.out;omega)⟩),rfl⟩
   ·go_wp2
    go_ret
    exact ⟨_,rfl,(fun h=>by cases h),rfl⟩
end Go.Proofs.YtpdnnmabijmfbaaGreatDoor
