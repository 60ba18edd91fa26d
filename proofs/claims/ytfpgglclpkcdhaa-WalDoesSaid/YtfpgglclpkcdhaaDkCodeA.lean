/-
  disk's functions: New, given, fault, step, copied, leave, Dead, Safe, All, Arm.
-/
import Derived.Test.YtfpgglclpkcdhaaDkWords
namespace Go.Proofs.Ytfpgglclpkcdhaa
set_option maxRecDepth 20000
open Go.RowKit
attribute [local go_sem ↓] exec_cutH
theorem dkNew_yes (room:Int) (w:World) (h0:0≤room) (h1:room≤1048576):
  Calls Try.prog 8 #[.int .i64 room] w fun e w'=>e=.returned (.tuple #[.pointer (some ⟨w.heap.size,0,none⟩),.int .i64 0])∧DkE w' w.heap.size w.heap.size (newDk room) (.slice none 0 0) (.slice none 0 0)∧Below w.heap.size w w':=by
 have h2:¬ room < 0:=by omega
 have h3:¬ 1048576 < room:=by omega
 go_enter Try.func8,Try.ntmps8
 go_wp2_with fail
 go_ret2
 exact ⟨rfl,⟨heapA_new w _,Own.nil _ _,Bys.nil _,.inl rfl⟩,(Below.refl _ _).alloc (Nat.le_refl _) _⟩
theorem dkNew_no (room:Int) (w:World) (h:room < 0∨1048576 < room):
  Calls Try.prog 8 #[.int .i64 room] w fun e w'=>e=.returned (.tuple #[.pointer none,.int .i64 1])∧w=w':=by
 by_cases h0:room < 0
 ·clear h
  go_enter Try.func8,Try.ntmps8
  go_wp2
  go_ret2
  exact ⟨rfl,rfl⟩
 ·have h1:1048576 < room:=by omega
  clear h
  go_enter Try.func8,Try.ntmps8
  go_wp2
  go_ret2
  exact ⟨rfl,rfl⟩
section
variable {w:World} {b B:Nat} {D:DkM} {va vt:Value}
theorem dkGiven_any (h:DkE w b B D va vt):Calls Try.prog 45 #[.pointer (some ⟨b,0,none⟩)] w fun e w'=>e=.returned (.bool true)∧w=w':=by
 have h0:=h.cells.1
 go_enter Try.func45,Try.ntmps45
 go_wp2
 go_ret
 exact ⟨rfl,rfl⟩
theorem dkFault_any (h:DkE w b B D va vt):Calls Try.prog 39 #[.pointer (some ⟨b,0,none⟩)] w fun e w'=>e=.returned (.int .i64 (if D.dead=true then 6 else 0))∧w=w':=by
 have h0:=h.cells.2.2.2.2.2.1
 have HG:=hid (dkGiven_any h)
 cases hd:D.dead with
 | true=>
  rw [hd] at h0
  go_enter Try.func39,Try.ntmps39
  go_wp2_with fail
  refine HG.out.mono ?_
  rintro e w1 ⟨rfl,rfl⟩
  go_wp2_with fail
  go_ret
  exact ⟨rfl,rfl⟩
 | false=>
  rw [hd] at h0
  go_enter Try.func39,Try.ntmps39
  go_wp2_with fail
  refine HG.out.mono ?_
  rintro e w1 ⟨rfl,rfl⟩
  go_wp2_with fail
  go_ret
  exact ⟨rfl,rfl⟩
theorem dkDead_any (h:DkE w b B D va vt):Calls Try.prog 21 #[.pointer (some ⟨b,0,none⟩)] w fun e w'=>e=.returned (.bool D.dead)∧w=w':=by
 have h0:=h.cells.2.2.2.2.2.1
 have HG:=hid (dkGiven_any h)
 go_enter Try.func21,Try.ntmps21
 go_wp2_with fail
 refine HG.out.mono ?_
 rintro e w1 ⟨rfl,rfl⟩
 go_wp2_with fail
 go_ret
 exact ⟨rfl,rfl⟩
theorem dkSafe_any (h:DkE w b B D va vt):Calls Try.prog 44 #[.pointer (some ⟨b,0,none⟩)] w fun e w'=>e=.returned (.int .i64 (D.s.length:Int))∧w=w':=by
 have h0:=h.cells.2.2.2.1
 have HG:=hid (dkGiven_any h)
 go_enter Try.func44,Try.ntmps44
 go_wp2_with fail
 refine HG.out.mono ?_
 rintro e w1 ⟨rfl,rfl⟩
 go_wp2_with fail
 go_ret
 exact ⟨rfl,rfl⟩
theorem dkStep_any (h:DkE w b B D va vt) (g:D.Good):Calls Try.prog 54 #[.pointer (some ⟨b,0,none⟩)] w fun e w'=>e=.returned (.bool (okDk D))∧DkE w' b B (stepDk D) va vt∧TnD b none w w':=by
 have h0:=h.cells.2.2.2.2.1
 have f4:=h.free 4
 have f5:=h.free 5
 have l0:=g.l0
 have l1:=g.l1
 unfold okDk stepDk
 by_cases e0:D.left=0
 ·rw [if_pos e0,decide_eq_true e0]
  have HE:=hid (dk_set (i:=5) (u:=.bool true) (D:={ D with dead:=true }) h.p rfl h.o h.t h.f)
  have h5:=h.cells.2.2.2.2.2.1
  rw [e0] at h0
  clear e0 h g f4
  go_enter Try.func54,Try.ntmps54
  go_wp2_with fail
  go_ret
  exact ⟨rfl,HE.out,(TnD.refl _ _ _).set _ _⟩
 ·rw [if_neg e0,decide_eq_false e0]
  by_cases e1:D.left < 0
  ·rw [if_pos e1]
   have e2:D.left=-1:=by omega
   rw [e2] at h0
   have HE:=hid h
   clear e0 h g f4 f5
   go_enter Try.func54,Try.ntmps54
   go_wp2_with fail
   go_ret
   exact ⟨rfl,HE.out,TnD.refl _ _ _⟩
  ·rw [if_neg e1]
   have HE:=hid (dk_set (i:=4) (u:=.int .i64 (D.left - 1)) (D:={ D with left:=D.left - 1 }) h.p rfl h.o h.t h.f)
   have hw:IntKind.i64.wrap (D.left - 1)=D.left - 1:=by rw [IntKind.wrap_i64];omega
   have b0:(D.left == -1)=false:=by simp;omega
   have b1:(D.left == 0)=false:=by simp;omega
   clear e0 h g f5 e1
   generalize D.left=left at *
   go_enter Try.func54,Try.ntmps54
   go_wp2_with fail
   go_ret
   exact ⟨rfl,HE.out,(TnD.refl _ _ _).set _ _⟩
theorem dkArm_any (h:DkE w b B D va vt) (n:Int):Calls Try.prog 22 #[.pointer (some ⟨b,0,none⟩),.int .i64 n] w fun e w'=>e=.returned (.tuple #[])∧DkE w' b B (armD D n) va vt∧TnD b va.ownBlock w w':=by
 have HG:=hid (dkGiven_any h)
 have h4:=h.cells.2.2.2.2.1
 have f4:=h.free 4
 have HE1:Hid (n < 0→DkE (w.setCell ⟨b,4,none⟩ (.int .i64 (-1))) b B (armD D n) va vt):=hid (fun hn=>dk_set (D:=armD D n) h.p (by unfold armD;rw [if_pos hn];rfl) h.o h.t h.f)
 have HE2:Hid (-1≤n→DkE (w.setCell ⟨b,4,none⟩ (.int .i64 n)) b B (armD D n) va vt):=hid (fun hn=>dk_set (D:=armD D n) h.p (by
  have hm:(if n < 0 then -1 else n)=n:=by split <;> omega
  unfold armD
  rw [hm]
  rfl) h.o h.t h.f)
 clear h
 go_enter Try.func22,Try.ntmps22
 go_wp2_with fail
 refine HG.out.mono ?_
 rintro e w1 ⟨rfl,rfl⟩
 go_wp2_with fail
 ·go_end0
  exact ⟨rfl,HE1.out (by omega),(TnD.refl _ _ _).set _ _⟩
 ·go_end0
  exact ⟨rfl,HE2.out (by omega),(TnD.refl _ _ _).set _ _⟩
end
theorem dkCopied_any (v:Value) (l:List UInt8) (w:World) (hv:Byt w v l) (hl:l.length≤1000000000):Calls Try.prog 47 #[v] w fun e w'=>∃ v',e=.returned v'∧Own w.heap.size w' v' l∧Below w.heap.size w w':=by
 have hs2:([]:List UInt8).length + l.length≤140737488355328:=by simp only [List.length_nil];omega
 have HV:=hid hv
 go_enter Try.func47,Try.ntmps47
 go_wp2_with (at_builtin;refine wpList_append_byt rfl (.const (.slice none 0 0)) (.tmp 3) rfl rfl rfl (Own.nil w.heap.size w) HV.out hs2 (Nat.le_refl _) ?_;intro v1 w1 ho1 hg1 hv1;simp only [List.nil_append] at ho1)
 go_ret
 exact ⟨_,rfl,ho1,(Below.refl _ _).grown hg1 (Nat.le_refl _) (fun k hk=>by cases hk)⟩
section
variable {w:World} {b B:Nat} {D:DkM} {va vt:Value}
theorem dkAll_any (h:DkE w b B D va vt) (g:D.Good):Calls Try.prog 25 #[.pointer (some ⟨b,0,none⟩)] w fun e w'=>∃ v',e=.returned (.tuple #[v',.int .i64 (if D.dead=true then 6 else 0)])∧Own w.heap.size w' v' (if D.dead=true then [] else D.s ++ D.m)∧Below w.heap.size w w':=by
 have HF:=hid (dkFault_any h)
 have h2:=h.cells.2.2.1
 have hl:(D.s ++ D.m).length≤1000000000:=by have:=g.z;have:=g.r1;rw [List.length_append];omega
 have HC:=hid (dkCopied_any va _ w h.o.byt hl)
 clear hl
 cases hd:D.dead with
 | true=>
  rw [hd] at HF
  simp only [if_true] at HF ⊢
  go_enter Try.func25,Try.ntmps25
  go_wp2_with fail
  refine HF.out.mono ?_
  rintro e w1 ⟨rfl,rfl⟩
  go_wp2_with fail
  go_ret2
  exact ⟨_,rfl,Own.nil _ _,Below.refl _ _⟩
 | false=>
  rw [hd] at HF
  simp only [Bool.false_eq_true,if_false] at HF ⊢
  go_enter Try.func25,Try.ntmps25
  go_wp2_with fail
  refine HF.out.mono ?_
  rintro e w1 ⟨rfl,rfl⟩
  go_wp2_with fail
  refine HC.out.mono ?_
  rintro e w2 ⟨v2,rfl,ho2,hb2⟩
  go_wp2_with fail
  go_ret2
  exact ⟨_,rfl,ho2,hb2⟩
theorem dkLeave_any {C:Array Value} (hp:w.heap[b]?=some (.cells C 67 (0,0))) {l:List UInt8} (ho:Own B w va l) (ht:Bys w vt D.h) (hf:Off va.ownBlock vt D.h) (hC:C=#[.bool true,.int .i64 D.room,va,C.getD 3 undef,.int .i64 D.left,.bool D.dead,vt]) (n:Nat) (hn:n≤l.length):Calls Try.prog 46 #[.pointer (some ⟨b,0,none⟩),.int .i64 (n:Int)] w fun e w'=>e=.returned (.tuple #[])∧∃ v',v'.ownBlock=va.ownBlock∧DkE w' b B { D with s:=l.take n,m:=[] } v' vt∧TnD b va.ownBlock w w':=by
 obtain ⟨v',hcut,hob,hown⟩:=own_cut ho n hn
 obtain ⟨A',N',c',rfl⟩:∃ A N c,v'=.slice A N c:=by
  obtain ⟨A,c,e⟩:=(hown w ho).byt.shape
  exact ⟨_,_,_,e⟩
 have hc2:=hcut w
 generalize C.getD 3 undef=c3 at hC
 subst hC
 have h2:w.cell? ⟨b,2,none⟩=some va:=by rw [coBlk_cell hp];rfl
 have h3:w.cell? ⟨b,3,none⟩=some c3:=by rw [coBlk_cell hp];rfl
 have f2:=coBlk_free hp 2
 have f3:=coBlk_free hp 3
 have p1:=heapA_set w hp 2 (.slice A' N' c')
 have hb:∀ k,va.ownBlock=some k→k≠b:=fun k e=>by
  obtain ⟨R,hR⟩:=ho.blk e
  exact blk_ne hR hp (by decide)
 have ho1:Own B (w.setCell ⟨b,2,none⟩ (.slice A' N' c')) (.slice A' N' c') (l.take n ++ []):=by
  rw [List.append_nil]
  exact (hown w ho).keep (fun k _ e=>Below.heap_setCell _ _ _ _ (hb k (hob ▸ e)))
 have ht1:Bys (w.setCell ⟨b,2,none⟩ (.slice A' N' c')) vt D.h:=ht.away (by simp [World.setCell]) (fun k _ hk=>Below.heap_setCell _ _ _ _ (blk_ne hk hp (by decide)))
 have hln:((l.take n).length:Int)=(n:Int):=by rw [List.length_take];omega
 have HE:=hid (dk_set (i:=3) (u:=.int .i64 (n:Int)) (D:={ D with s:=l.take n,m:=[] }) (va:=.slice A' N' c') (vt:=vt) p1 (by unfold dkc;rw [hln];rfl) ho1 ht1 (hob ▸ hf))
 have HB:=hid hob
 clear p1 ho1 ht1 hln ho ht hf hn hcut hown hob hb hp
 go_enter Try.func46,Try.ntmps46
 go_wp2_with fail
 go_end0
 exact ⟨rfl,_,HB.out,HE.out,((TnD.refl _ _ _).set _ _).set _ _⟩
end
end Go.Proofs.Ytfpgglclpkcdhaa
