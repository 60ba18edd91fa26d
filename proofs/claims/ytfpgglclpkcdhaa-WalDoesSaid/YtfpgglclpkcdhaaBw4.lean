/-
  Consts CrcParts CrcTurnsWalk CrcRecordsWalk CrcOfWalk CrcRecord CrcNumber CrcNextOk: what each of them says stands at its head.
-/
import Derived.Lib.SlBytesConst
import Derived.Test.YtfpgglclpkcdhaaBw3
namespace Go.Proofs.Ytfpgglclpkcdhaa
set_option maxRecDepth 20000
open Go.RowKit
theorem byt_row {w:World} {g:Nat} {l:List UInt8} {T:TypeId} {m:Nat × Nat} (h:w.heap[g]?=some (.cells (bcells l).toArray T m)) (hm:l.length≤maxLen):Byt w (.slice (some ⟨g,0,none⟩) l.length l.length) l:=
 ⟨_,l.length,rfl,Nat.le_refl _,hm,fun _=>⟨g,0,rfl,lt_of_block h,fun j hj=>by
  rw [Nat.zero_add,cell_of_row _ _ _ _ _ _ h]
  simp [bcells,hj]⟩⟩
theorem heap1 (w:World) (o o2:Obj):((w.alloc o).alloc o2).heap[w.heap.size]?=some o:=by
 rw [Below.heap_alloc _ _ _ (by simp)]
 exact heap_alloc_new w o
theorem heap2 (w:World) (o o2:Obj):((w.alloc o).alloc o2).heap[w.heap.size + 1]?=some o2:=by
 have:=heap_alloc_new (w.alloc o) o2
 rw [show (w.alloc o).heap.size=w.heap.size + 1 from by simp] at this
 exact this
end Go.Proofs.Ytfpgglclpkcdhaa
namespace Go.Proofs.Ytfpgglclpkcdhaa
set_option maxRecDepth 20000
open Go.RowKit
theorem crcOf_two (v0 v1:Value) (l0 l1:List UInt8) (gp c:Nat) (w:World) (hg:gp < w.heap.size) (h0:w.cell? ⟨gp,0,none⟩=some v0) (h1:w.cell? ⟨gp,1,none⟩=some v1) (b0:Byt w v0 l0) (b1:Byt w v1 l1)
  {l:List UInt8} (hl:l0 ++ l1=l) (hll:l.length≤1000000):
  Calls Try.prog 57 #[.slice (some ⟨gp,0,none⟩) 2 c] w fun e w'=>e=.returned (.int .u32 ((crcS l).toNat:Int))∧Below w.heap.size w w':=by
 have e:([l0,l1]:List (List UInt8)).flatten=l:=by simp [hl]
 have h:=crcOf_any [l0,l1] (fun j=>if j=0 then v0 else v1) gp 2 c w rfl hg (fun j hj=>by
  obtain rfl | rfl:j=0∨j=1:=by omega
  ·exact h0
  ·exact h1) (fun j hj=>by
  have hj2:j < 2:=hj
  obtain rfl | rfl:j=0∨j=1:=by omega
  ·exact b0
  ·exact b1) (by rw [e];omega) (by omega)
 rw [e] at h
 exact h
end Go.Proofs.Ytfpgglclpkcdhaa
namespace Go.Proofs.Ytfpgglclpkcdhaa
set_option maxRecDepth 20000
open Go.RowKit
def RecordOk:Prop:=∀ (v:Value) (l:List UInt8) (w:World),Byt w v l→1≤l.length→l.length≤65536→
 Calls Try.prog 53 #[v] w fun e w'=>∃ x,e=.returned (.tuple #[x,.int .i64 0])∧Own w.heap.size w' x (recS l)∧Below w.heap.size w w'
def nextK (l:List UInt8):Nat:=if nextN l=1 then 8 + numL l else 0
def nextE (l:List UInt8):Nat:=if nextN l=1 then 0 else if nextN l=0 then 2 else 3
def NextOk:Prop:=∀ (v:Value) (l:List UInt8) (w:World),Byt w v l→l.length≤900000→
 Calls Try.prog 48 #[v] w fun e w'=>∃ x,e=.returned (.tuple #[x,.int .i64 (nextK l:Int),.int .i64 (nextE l:Int)])∧Byt w' x (nextB l)∧Below w.heap.size w w'
end Go.Proofs.Ytfpgglclpkcdhaa
namespace Go.Proofs.Ytfpgglclpkcdhaa
set_option maxRecDepth 20000
open Go.RowKit
def RecordNone:Prop:=∀ (v:Value) (w:World),Byt w v []→
 Calls Try.prog 53 #[v] w fun e w'=>∃ x,e=.returned (.tuple #[x,.int .i64 1])∧Byt w' x []∧Below w.heap.size w w'
theorem next_in {l:List UInt8} (h:nextN l=1):(nextB l).length=numL l:=by
 unfold nextB
 rw [if_pos h]
 unfold nextN at h
 unfold inL
 rw [List.length_take,List.length_drop]
 by_cases h1:l.length < 8
 ·rw [if_pos h1] at h
  omega
 ·rw [if_neg h1] at h
  by_cases h2:numL l < 1∨65536 < numL l
  ·rw [if_pos h2] at h
   omega
  ·rw [if_neg h2] at h
   by_cases h3:l.length < 8 + numL l
   ·rw [if_pos h3] at h
    omega
   ·omega
end Go.Proofs.Ytfpgglclpkcdhaa
namespace Go.Proofs.Ytfpgglclpkcdhaa
set_option maxRecDepth 20000
open Go.RowKit
theorem new_cell2 (w:World) (o:Obj) (C:Array Value) (T:TypeId) (i:Nat) (v:Value) (h:C[i]?=some v):((w.alloc o).alloc (.cells C T)).cell? ⟨w.heap.size + 1,i,none⟩=some v:=by
 have:=new_cell (w.alloc o) C T i v h
 rw [show (w.alloc o).heap.size=w.heap.size + 1 from by simp] at this
 exact this
theorem old_cell (w:World) (o:Obj) (C:Array Value) (T:TypeId) (i:Nat) (v:Value) (h:C[i]?=some v):((w.alloc (.cells C T)).alloc o).cell? ⟨w.heap.size,i,none⟩=some v:=
 (((Below.refl (w.alloc (.cells C T)).heap.size (w.alloc (.cells C T))).alloc (Nat.le_refl _) o).cell (p:=⟨w.heap.size,i,none⟩) (by simp)).trans (new_cell w C T i v h)
theorem lt_al (w:World) (o:Obj):w.heap.size < (w.alloc o).heap.size:=by simp
attribute [local go_sem ↓] exec_cutH exec_cutL
end Go.Proofs.Ytfpgglclpkcdhaa
namespace Go.Proofs.Ytfpgglclpkcdhaa
set_option maxRecDepth 20000
open Go.RowKit
set_option maxHeartbeats 1600000 in
theorem crcPut_any (B:Nat) (v:Value) (l:List UInt8) (n:Nat) (w:World) (hv:Own B w v l) (hB:B≤w.heap.size) (hl:l.length≤1000000) (hn:n≤4294967295):
  Calls Try.prog 58 #[v,.int .u32 (n:Int)] w fun e w'=>∃ x,e=.returned x∧Own B w' x (l ++ fourL n)∧Below B w w':=by
 obtain ⟨q0,H0⟩:∃ q:Nat,Hid (n / 16777216=q):=⟨_,hid rfl⟩
 obtain ⟨q1,H1⟩:∃ q:Nat,Hid (n / 65536=q):=⟨_,hid rfl⟩
 obtain ⟨q2,H2⟩:∃ q:Nat,Hid (n / 256=q):=⟨_,hid rfl⟩
 obtain ⟨r1,K1⟩:∃ q:Nat,Hid (n / 65536 % 256=q):=⟨_,hid rfl⟩
 obtain ⟨r2,K2⟩:∃ q:Nat,Hid (n / 256 % 256=q):=⟨_,hid rfl⟩
 obtain ⟨r3,K3⟩:∃ q:Nat,Hid (n % 256=q):=⟨_,hid rfl⟩
 have e0:(n:Int) / 16777216=(q0:Int):=by have:=H0.out;omega
 have e1:(n:Int) / 65536=(q1:Int):=by have:=H1.out;omega
 have e2:(n:Int) / 256=(q2:Int):=by have:=H2.out;omega
 have w0:IntKind.u8.wrap (q0:Int)=(q0:Int):=by rw [IntKind.wrap_u8'];have:=H0.out;omega
 have w1:IntKind.u8.wrap (q1:Int)=(r1:Int):=by rw [IntKind.wrap_u8'];have:=H1.out;have:=K1.out;omega
 have w2:IntKind.u8.wrap (q2:Int)=(r2:Int):=by rw [IntKind.wrap_u8'];have:=H2.out;have:=K2.out;omega
 have w3:IntKind.u8.wrap (n:Int)=(r3:Int):=by rw [IntKind.wrap_u8'];have:=K3.out;omega
 have hC:#[Value.int .u8 (q0:Int),.int .u8 (r1:Int),.int .u8 (r2:Int),.int .u8 (r3:Int)]=(bcells (fourL n)).toArray:=by
  show _=#[bcell (UInt8.ofNat (n / 16777216)),bcell (UInt8.ofNat (n / 65536 % 256)),bcell (UInt8.ofNat (n / 256 % 256)),bcell (UInt8.ofNat (n % 256))]
  unfold bcell
  rw [← byte_nat (by omega),← byte_nat (by omega),← byte_nat (by omega),← byte_nat (by omega),H0.out,K1.out,K2.out,K3.out]
 have hby:Byt (w.alloc (.cells #[Value.int .u8 (q0:Int),.int .u8 (r1:Int),.int .u8 (r2:Int),.int .u8 (r3:Int)] 5)) (.slice (some ⟨w.heap.size,0,none⟩) 4 4) (fourL n):=(own_new w (fourL n) hC (by show 4≤maxLen;unfold maxLen;omega)).byt
 have hlf:l.length + (fourL n).length≤140737488355328:=by rw [fourL_length];omega
 have HB:=hid hby
 obtain ⟨F,HF⟩:∃ F:List UInt8,Hid (fourL n=F):=⟨_,hid rfl⟩
 rw [HF.out] at HB hlf ⊢
 clear hC hby hl hn
 go_enter Try.func58,Try.ntmps58
 go_wp2_with (at_builtin;go_loud (refine wpList_append_byt rfl (.tmp 5) (.tmp 17) rfl rfl rfl (hv.alloc _) HB.out hlf (Nat.le_trans hB (alloc_le w _)) ?_;intro v2 w2 hown2 hg2 hv2;have hb2:=((Below.refl B w).alloc hB _).grown hg2 (Nat.le_trans hB (alloc_le w _)) (fun k hk=>(World.ownsRow.lt hv k hk).1);clear hg2 hv2))
 go_ret
 exact ⟨v2,rfl,hown2,hb2⟩
set_option maxHeartbeats 1600000 in
theorem record_none:RecordNone:=fun v w hv=>by
 obtain ⟨A,c,rfl⟩:=hv.shape
 go_enter Try.func53,Try.ntmps53
 go_wp2_with fail
 go_ret2
 exact ⟨_,rfl,Byt.nil _,Below.refl _ _⟩
set_option maxHeartbeats 1600000 in
theorem record_ok:RecordOk:=fun v l w hv h0 h1=>by
 obtain ⟨A,c,rfl⟩:=hv.shape
 obtain ⟨L,HL⟩:∃ L:Nat,Hid (l.length=L):=⟨_,hid rfl⟩
 have HV:=hid hv
 rw [HL.out] at h0 h1 ⊢
 clear hv
 have HVW:Hid (∀ W:World,Below w.heap.size w W→Byt W (.slice A L c) l):=hid (fun W h=>by have:=HV.out.below h;rw [HL.out] at this;exact this)
 obtain ⟨F,HF⟩:∃ F:List UInt8,Hid (fourL L=F):=⟨_,hid rfl⟩
 have HFL:Hid (F.length=4):=hid (by rw [← HF.out];rfl)
 obtain ⟨i0,hi,hz0,hz1,hz2⟩:=info_parts info_u8
 have hm2:i0.bytes * (8 + L)≤281474976710656:=by rw [hz2];omega
 have hm3:8 + L≤maxLen:=by unfold maxLen;omega
 have hL32:IntKind.u32.wrap (L:Int)=(L:Int):=by rw [IntKind.wrap_u32'];omega
 go_enter Try.func53,Try.ntmps53
 go_wp2_with (at_make;refine wpList_make_own _ rfl _ _ 33 rfl w.heap.size 5 i0 (.int .u8 0) 1 under_bytes hi hz0 hz1 _ _ _ (8 + L) rfl rfl (by simp) hm2 hm3 (Nat.le_refl _) ?_;intro w2 hown2 hg2;have ho2:Own w.heap.size w2 (.slice (some ⟨w.heap.size,0,none⟩) 0 (8 + L)) []:=hown2;have hb2:Below w.heap.size w w2:=(Below.refl _ _).grown hg2 (Nat.le_refl _) (fun k h=>by cases h);clear hown2 hg2)
 have C:=crcPut_any w.heap.size _ [] L w2 ho2 hb2.size (by decide) (by omega)
 rw [HF.out,List.nil_append] at C
 refine C.mono ?_
 clear C hm2 hm3
 rintro e w3 ⟨v3,rfl,ho3,hb3'⟩
 have hb3:=hb2.trans hb3'
 clear hb3' hb2 ho2
 obtain ⟨A3,c3,rfl⟩:=ho3.byt.shape
 have hby3:=ho3.byt
 rw [HFL.out] at ho3 hby3 ⊢
 have HB3:=hid hby3
 have HO3:=hid ho3
 clear hby3 ho3
 go_wp2_with fail
 have hbl:Below w.heap.size w (w3.alloc (.cells #[.slice A3 4 c3,.slice A L c] 33)):=hb3.alloc hb3.size _
 have hb3l:Below w3.heap.size w3 (w3.alloc (.cells #[.slice A3 4 c3,.slice A L c] 33)):=(Below.refl _ _).alloc (Nat.le_refl _) _
 have C:=crcOf_two _ _ F l w3.heap.size 2 _ (lt_al w3 _) (new_cell w3 _ _ 0 _ rfl) (new_cell w3 _ _ 1 _ rfl) (HB3.out.below hb3l) (HVW.out _ hbl) (l:=F ++ l) rfl (by rw [List.length_append,HFL.out,HL.out];omega)
 obtain ⟨q,HQ⟩:∃ q:Nat,Hid ((crcS (F ++ l)).toNat=q):=⟨_,hid rfl⟩
 have hq:q≤4294967295:=by rw [← HQ.out];exact Nat.le_of_lt_succ (BitVec.isLt _)
 rw [HQ.out] at C
 refine C.mono ?_
 clear C
 rintro e w4 ⟨rfl,hb4⟩
 have hB4:=hbl.trans (hb4.mono hbl.size)
 have ho4:Own w.heap.size w4 (.slice A3 4 c3) F:=(HO3.out.alloc _).below hb4
 clear hbl hb3l hb4 hb3
 go_wp2_with fail
 refine (crcPut_any w.heap.size _ F q w4 ho4 hB4.size (by rw [HFL.out];decide) hq).mono ?_
 rintro e w5 ⟨v5,rfl,ho5,hb5⟩
 have hB5:=hB4.trans hb5
 have HL6:=hid (show (F ++ fourL q).length + l.length≤140737488355328 by rw [List.length_append,HFL.out,fourL_length,HL.out];omega)
 clear hb5 hB4 ho4
 go_wp2_with (at_builtin;refine wpList_append_byt rfl (.tmp 28) (.tmp 29) rfl rfl rfl ho5 (HVW.out _ hB5) HL6.out hB5.size ?_;intro v7 w7 hown7 hg7 hv7;have hB7:=hB5.grown hg7 hB5.size (fun k hk=>(World.ownsRow.lt ho5 k hk).1);clear hg7)
 go_ret2
 refine ⟨v7,rfl,?_,hB7⟩
 unfold recS
 rw [HL.out,HF.out,HQ.out,← List.append_assoc]
 exact hown7
end Go.Proofs.Ytfpgglclpkcdhaa
namespace Go.Proofs.Ytfpgglclpkcdhaa
set_option maxRecDepth 20000
open Go.RowKit
theorem or_add {a b:Nat} (k:Nat) (hk:k≤32) (ha:2 ^ k * a < 4294967296) (hb:b < 2 ^ k) {x y z:Int} (hx:x=((2 ^ k * a:Nat):Int)) (hy:y=(b:Int)) (hz:z=((2 ^ k * a + b:Nat):Int)):bits BinOp.or IntKind.u32 x y=z:=by
 have hb2:b < 4294967296:=Nat.lt_of_lt_of_le hb (by have:=Nat.pow_le_pow_right (show 0 < 2 by omega) hk;exact this)
 rw [hx,hy,hz,u32_or_nat _ _ ha hb2,Nat.two_pow_add_eq_or_of_lt hb]
set_option maxHeartbeats 1600000 in
theorem crcNumber_any (v:Value) (l:List UInt8) (w:World) (hv:Byt w v l) (h4:4≤l.length):
  Calls Try.prog 56 #[v] w fun e w'=>e=.returned (.int .u32 (numL l:Int))∧∃ k,w'=w.drewN k:=by
 obtain ⟨A,c,rfl⟩:=hv.shape
 obtain ⟨_,hc,hm,hr⟩:=hv.at_
 unfold maxLen at hm
 obtain ⟨L,HL⟩:∃ L:Nat,Hid (l.length=L):=⟨_,hid rfl⟩
 rw [HL.out] at hc h4 ⊢
 clear hv
 obtain ⟨b,off,rfl,_,hcl⟩:=hr (by rw [HL.out];omega)
 have hcl2:∀ j,j < L→w.cell? ⟨b,off + j,none⟩=some (.int .u8 ((l.getD j 0).toNat:Int)):=fun j hj=>by
  have hjl:j < l.length:=by rw [HL.out];exact hj
  rw [hcl j hjl,List.getD_eq_getElem?_getD,List.getElem?_eq_getElem hjl]
  rfl
 have k0:=hcl2 0 (by omega)
 have k1:=hcl2 1 (by omega)
 have k2:=hcl2 2 (by omega)
 have k3:=hcl2 3 (by omega)
 clear hcl hcl2 hr
 obtain ⟨b0,H0⟩:∃ x:Nat,Hid ((l.getD 0 0).toNat=x):=⟨_,hid rfl⟩
 obtain ⟨b1,H1⟩:∃ x:Nat,Hid ((l.getD 1 0).toNat=x):=⟨_,hid rfl⟩
 obtain ⟨b2,H2⟩:∃ x:Nat,Hid ((l.getD 2 0).toNat=x):=⟨_,hid rfl⟩
 obtain ⟨b3,H3⟩:∃ x:Nat,Hid ((l.getD 3 0).toNat=x):=⟨_,hid rfl⟩
 have g0:b0≤255:=by have:=(l.getD 0 0).toNat_lt;have:=H0.out;omega
 have g1:b1≤255:=by have:=(l.getD 1 0).toNat_lt;have:=H1.out;omega
 have g2:b2≤255:=by have:=(l.getD 2 0).toNat_lt;have:=H2.out;omega
 have g3:b3≤255:=by have:=(l.getD 3 0).toNat_lt;have:=H3.out;omega
 rw [H0.out] at k0
 rw [H1.out] at k1
 rw [H2.out] at k2
 rw [H3.out] at k3
 rw [Nat.add_zero] at k0
 obtain ⟨n1,N1⟩:∃ n:Nat,Hid (b0 * 16777216 + b1 * 65536=n):=⟨_,hid rfl⟩
 obtain ⟨n2,N2⟩:∃ n:Nat,Hid (n1 + b2 * 256=n):=⟨_,hid rfl⟩
 obtain ⟨n3,N3⟩:∃ n:Nat,Hid (n2 + b3=n):=⟨_,hid rfl⟩
 have o1:bits BinOp.or IntKind.u32 ((b0:Int) * 16777216) ((b1:Int) * 65536)=(n1:Int):=or_add (a:=b0) (b:=b1 * 65536) 24 (by decide) (by omega) (by omega) (by omega) (by omega) (by have:=N1.out;omega)
 have o2:bits BinOp.or IntKind.u32 (n1:Int) ((b2:Int) * 256)=(n2:Int):=or_add (a:=b0 * 256 + b1) (b:=b2 * 256) 16 (by decide) (by omega) (by omega) (by have:=N1.out;omega) (by omega) (by have:=N1.out;have:=N2.out;omega)
 have o3:bits BinOp.or IntKind.u32 (n2:Int) (b3:Int)=(n3:Int):=or_add (a:=(b0 * 256 + b1) * 256 + b2) (b:=b3) 8 (by decide) (by omega) (by omega) (by have:=N1.out;have:=N2.out;omega) rfl (by have:=N1.out;have:=N2.out;have:=N3.out;omega)
 have HN:Hid (numL l=n3):=hid (by unfold numL;rw [H0.out,H1.out,H2.out,H3.out,N1.out,N2.out,N3.out])
 rw [HN.out]
 go_enter Try.func56,Try.ntmps56
 go_wp2_with fail
 go_quiet (fail)
 go_wp2_with fail
 go_ret
 exact ⟨rfl,_,rfl⟩
end Go.Proofs.Ytfpgglclpkcdhaa
namespace Go.Proofs.Ytfpgglclpkcdhaa
set_option maxRecDepth 20000
open Go.RowKit
attribute [local go_sem ↓] exec_cutLHM exec_cutHM
theorem take_any (A:Option Addr) (c L i k:Nat) (hik:i < k) (hk:k≤L) (hc:L≤c) (i' k':Int) (hi:i'=(i:Int)) (hk':k'=(k:Int)) (d:Nat) (hd:k - i=d):
  ∃ A',(∀ w,Calls Try.prog 55 #[.slice A L c,.int .i64 i',.int .i64 k'] w fun e w'=>e=.returned (.slice A' d d)∧w=w')∧∀ w l,l.length=L→Byt w (.slice A L c) l→Byt w (.slice A' d d) ((l.drop i).take d):=by
 subst hi hk' hd
 obtain ⟨A',h1,h2⟩:=cut_lhm A c L i k hik hk hc
 refine ⟨A',fun w=>?_,h2⟩
 clear h2 hik hk hc
 go_enter Try.func55,Try.ntmps55
 go_wp2_with fail
 go_ret
 exact ⟨rfl,rfl⟩
theorem numL_take {l:List UInt8} (h:4≤l.length):numL (l.take 4)=numL l:=by
 rw [take4 h]
 rfl
set_option maxHeartbeats 1600000 in
theorem next_own (v:Value) (l:List UInt8) (w:World) (hv:Byt w v l) (hs:l.length≤900000):
  Calls Try.prog 48 #[v] w fun e w'=>∃ x,e=.returned (.tuple #[x,.int .i64 (nextK l:Int),.int .i64 (nextE l:Int)])∧Own w.heap.size w' x (nextB l)∧Below w.heap.size w w':=by
 obtain ⟨A,c,rfl⟩:=hv.shape
 obtain ⟨_,hc,hm,hr⟩:=hv.at_
 unfold maxLen at hm
 obtain ⟨L,HL⟩:∃ L:Nat,Hid (l.length=L):=⟨_,hid rfl⟩
 have HV:=hid hv
 rw [HL.out] at hc hs ⊢
 have HVW:Hid (∀ W:World,Below w.heap.size w W→Byt W (.slice A L c) l):=hid (fun W h=>by have:=HV.out.below h;rw [HL.out] at this;exact this)
 clear hv hr
 by_cases h8:L < 8
 ·have h8i:(L:Int) < 8:=by omega
  have HN:Hid (nextN l=2):=hid (by unfold nextN;rw [if_pos (by rw [HL.out];exact h8)])
  go_enter Try.func48,Try.ntmps48
  go_wp2_with fail
  go_ret3
  refine ⟨.slice none 0 0,by unfold nextK nextE;rw [HN.out];rfl,?_,Below.refl _ _⟩
  rw [nextB_no (by rw [HN.out];decide)]
  exact Own.nil _ _
 have h8i:¬ (L:Int) < 8:=by omega
 have H8:=hid (show ¬ l.length < 8 by rw [HL.out];exact h8)
 obtain ⟨n,HN⟩:∃ n:Nat,Hid (numL l=n):=⟨_,hid rfl⟩
 have hn32:n≤4294967295:=by rw [← HN.out];exact numL_lt l
 obtain ⟨A4,r4,p4⟩:=take_any A c L 0 4 (by omega) (by omega) hc 0 4 rfl rfl 4 rfl
 have HP4:Hid (∀ W:World,Below w.heap.size w W→Byt W (.slice A4 4 4) (l.take 4)):=hid (fun W h=>by have:=p4 W l HL.out (HVW.out W h);rw [List.drop_zero] at this;exact this)
 have HR4:=hid r4
 clear r4 p4
 have C:=crcNumber_any (.slice A4 4 4) (l.take 4) w (HP4.out w (Below.refl _ _)) (by rw [List.length_take,HL.out];omega)
 rw [numL_take (by rw [HL.out];omega),HN.out] at C
 have HCN:=hid C
 clear C
 by_cases hbad:n < 1∨65536 < n
 ·have HX:Hid (nextN l=0):=hid (by unfold nextN;rw [if_neg H8.out,if_pos (by rw [HN.out];exact hbad)])
  have HB:=hid hbad
  clear hbad
  by_cases h1:n < 1
  ·have h1i:(n:Int) < 1:=by omega
   go_enter Try.func48,Try.ntmps48
   go_wp2_with fail
   refine (HR4.out w).mono ?_
   rintro e w1 ⟨rfl,rfl⟩
   go_wp2_with fail
   refine HCN.out.mono ?_
   rintro e w1 ⟨rfl,k1,rfl⟩
   go_wp2_with fail
   go_ret3
   refine ⟨.slice none 0 0,by unfold nextK nextE;rw [HX.out];rfl,?_,below_drewN (Below.refl _ _) _⟩
   rw [nextB_no (by rw [HX.out];decide)]
   exact Own.nil _ _
  ·have h1i:¬ (n:Int) < 1:=by omega
   have h2i:(65536:Int) < (n:Int):=by have:=HB.out;omega
   go_enter Try.func48,Try.ntmps48
   go_wp2_with fail
   refine (HR4.out w).mono ?_
   rintro e w1 ⟨rfl,rfl⟩
   go_wp2_with fail
   refine HCN.out.mono ?_
   rintro e w1 ⟨rfl,k1,rfl⟩
   go_wp2_with fail
   go_ret3
   refine ⟨.slice none 0 0,by unfold nextK nextE;rw [HX.out];rfl,?_,below_drewN (Below.refl _ _) _⟩
   rw [nextB_no (by rw [HX.out];decide)]
   exact Own.nil _ _
 have h1i:¬ (n:Int) < 1:=by omega
 have h2i:¬ (65536:Int) < (n:Int):=by omega
 have HB:=hid hbad
 clear hbad
 obtain ⟨m,HM⟩:∃ m:Nat,Hid (8 + n=m):=⟨_,hid rfl⟩
 have hm8:(8:Int) + (n:Int)=(m:Int):=by have:=HM.out;omega
 by_cases hend:L < m
 ·have hei:(L:Int) < (m:Int):=by omega
  have HX:Hid (nextN l=2):=hid (by unfold nextN;rw [if_neg H8.out,if_neg (by rw [HN.out];exact HB.out),if_pos (by rw [HN.out,HL.out,HM.out];exact hend)])
  go_enter Try.func48,Try.ntmps48
  go_wp2_with fail
  refine (HR4.out w).mono ?_
  rintro e w1 ⟨rfl,rfl⟩
  go_wp2_with fail
  refine HCN.out.mono ?_
  rintro e w1 ⟨rfl,k1,rfl⟩
  go_wp2_with fail
  go_ret3
  refine ⟨.slice none 0 0,by unfold nextK nextE;rw [HX.out];rfl,?_,below_drewN (Below.refl _ _) _⟩
  rw [nextB_no (by rw [HX.out];decide)]
  exact Own.nil _ _
 have hei:¬ (L:Int) < (m:Int):=by omega
 obtain ⟨d,HD⟩:∃ d:Nat,Hid (m - 8=d):=⟨_,hid rfl⟩
 have HDN:Hid (d=n):=hid (by have:=HD.out;have:=HM.out;omega)
 obtain ⟨A3,r3,p3⟩:=take_any A c L 8 m (by have:=HM.out;have:=HB.out;omega) (by omega) hc 8 (m:Int) rfl rfl d HD.out
 obtain ⟨A5,r5,p5⟩:=take_any A c L 4 8 (by omega) (by omega) hc 4 8 rfl rfl 4 rfl
 obtain ⟨A6,r6⟩:=cut_zero A3 d d
 have HP3:Hid (∀ W:World,Below w.heap.size w W→Byt W (.slice A3 d d) (inL l)):=hid (fun W h=>by
  have:=p3 W l HL.out (HVW.out W h)
  have e:(l.drop 8).take d=inL l:=by unfold inL;rw [HN.out,HDN.out]
  rw [e] at this
  exact this)
 have HP5:Hid (∀ W:World,Below w.heap.size w W→Byt W (.slice A5 4 4) ((l.drop 4).take 4)):=hid (fun W h=>p5 W l HL.out (HVW.out W h))
 have HR3:=hid r3
 have HR5:=hid r5
 clear r3 r5 p3 p5
 have HGI:=hid (got_iff (l:=l) (by rw [HN.out,HL.out,HM.out];omega))
 have HIL:=hid (show (l.take 4 ++ inL l).length≤1000000 by rw [List.length_append,List.length_take];unfold inL;rw [List.length_take,List.length_drop,HL.out];omega)
 have HIN:Hid ((inL l).length=n):=hid (by unfold inL;rw [List.length_take,List.length_drop,HL.out,HN.out];have:=HM.out;omega)
 have HI0:=hid (show 0 < (inL l).length by rw [HIN.out];have:=HB.out;omega)
 have HI1:=hid (show (inL l).length≤140737488355328 by rw [HIN.out];omega)
 have HD4:=hid (show 4≤((l.drop 4).take 4).length by rw [List.length_take,List.length_drop,HL.out];omega)
 obtain ⟨q,HQ⟩:∃ q:Nat,Hid ((crcS (l.take 4 ++ inL l)).toNat=q):=⟨_,hid rfl⟩
 obtain ⟨u,HU⟩:∃ q:Nat,Hid (numL ((l.drop 4).take 4)=q):=⟨_,hid rfl⟩
 go_enter Try.func48,Try.ntmps48
 go_wp2_with fail
 refine (HR4.out w).mono ?_
 rintro e w1 ⟨rfl,rfl⟩
 go_wp2_with fail
 refine HCN.out.mono ?_
 rintro e w1 ⟨rfl,k1,hw1⟩
 have hb1:Below w.heap.size w w1:=by rw [hw1];exact below_drewN (Below.refl _ _) k1
 clear hw1 HCN
 go_wp2_with fail
 refine (HR3.out w1).mono ?_
 rintro e w2 ⟨rfl,rfl⟩
 go_wp2_with fail
 refine (HR5.out w1).mono ?_
 rintro e w2 ⟨rfl,rfl⟩
 go_wp2_with fail
 have C:=crcNumber_any _ _ w1 (HP5.out _ hb1) HD4.out
 rw [HU.out] at C
 refine C.mono ?_
 clear C
 rintro e w2 ⟨rfl,k2,hw2⟩
 have hb2:Below w.heap.size w w2:=by rw [hw2];exact below_drewN hb1 k2
 clear hw2 hb1
 go_wp2_with fail
 have hbl:Below w.heap.size w (w2.alloc (.cells #[.slice A4 4 4,.slice A3 d d] 33)):=hb2.alloc hb2.size _
 have CO:=crcOf_two _ _ (l.take 4) (inL l) w2.heap.size 2 (w2.alloc (.cells #[.slice A4 4 4,.slice A3 d d] 33)) (lt_al w2 _) (new_cell w2 _ _ 0 _ rfl) (new_cell w2 _ _ 1 _ rfl) (HP4.out _ hbl) (HP3.out _ hbl) rfl HIL.out
 rw [HQ.out] at CO
 refine CO.mono ?_
 clear CO
 rintro e w3 ⟨rfl,hb3'⟩
 have hb3:=hbl.trans (hb3'.mono hbl.size)
 clear hbl hb3' hb2
 by_cases hqu:q=u
 ·have hne:((u:Int) != (q:Int))=false:=by rw [hqu];simp
  have HX:Hid (nextN l=1):=hid (by
   unfold nextN
   rw [if_neg H8.out,if_neg (by rw [HN.out];exact HB.out),if_neg (by rw [HN.out,HL.out,HM.out];exact hend),if_pos (HGI.out.2 (by rw [HQ.out,HU.out];exact hqu))])
  clear hqu
  go_wp2_with (at_builtin;refine wpList_append_bare rfl (.tmp 41) (.tmp 42) rfl rfl rfl (HP3.out _ hb3) HI0.out HI1.out ?_;intro v4 w4 hown4 hg4;have hb4:=hb3.grown hg4 hb3.size (fun k h=>by cases h);clear hg4)
  go_ret3
  refine ⟨v4,by unfold nextK nextE;rw [if_pos HX.out,if_pos HX.out,HN.out,HM.out];rfl,?_,hb4⟩
  unfold nextB
  rw [if_pos HX.out]
  exact hown4.more hb3.size
 ·have hne:((u:Int) != (q:Int))=true:=by rw [bne_iff_ne];omega
  have HX:Hid (nextN l=0):=hid (by
   unfold nextN
   rw [if_neg H8.out,if_neg (by rw [HN.out];exact HB.out),if_neg (by rw [HN.out,HL.out,HM.out];exact hend),if_neg (fun h=>hqu (by have:=HGI.out.1 h;rw [HQ.out,HU.out] at this;exact this))])
  clear hqu
  go_wp2_with fail
  go_ret3
  refine ⟨.slice none 0 0,by unfold nextK nextE;rw [HX.out];rfl,?_,hb3⟩
  rw [nextB_no (by rw [HX.out];decide)]
  exact Own.nil _ _
theorem next_ok:NextOk:=fun v l w hv hs=>(next_own v l w hv hs).mono fun _ _ ⟨x,h1,h2,h3⟩=>⟨x,h1,h2.byt,h3⟩
end Go.Proofs.Ytfpgglclpkcdhaa
