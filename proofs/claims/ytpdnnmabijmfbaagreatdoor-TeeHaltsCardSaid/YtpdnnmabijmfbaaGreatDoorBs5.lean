/-
  RefBits RefTurn RefOf Args: what each of them says stands at its head.
-/
import Derived.Test.YtpdnnmabijmfbaaGreatDoorBs4
import Derived.Stop.LaidErr
namespace Go.Proofs.YtpdnnmabijmfbaaGreatDoor
set_option maxRecDepth 20000
open Go.RowKit
theorem rr_zero (x:UInt32):rr x 0=x:=by
 unfold rr
 apply UInt32.toNat_inj.1
 have:=x.toNat_lt
 rw [UInt32.toNat_ofNat',Nat.pow_zero,Nat.div_one,Nat.mod_one,Nat.zero_mul,Nat.add_zero,Nat.mod_eq_of_lt (by omega)]
theorem sr_zero (x:UInt32):sr x 0=x:=by
 unfold sr
 apply UInt32.toNat_inj.1
 have:=x.toNat_lt
 rw [UInt32.toNat_ofNat',Nat.pow_zero,Nat.div_one,Nat.mod_eq_of_lt (by omega)]
theorem rr_lt' (x:UInt32) (n:Nat) (h1:n≤31):x.toNat / 2 ^ n + x.toNat % 2 ^ n * 2 ^ (32 - n) < 4294967296:=by
 by_cases h0:1≤n
 ·exact (rr_lt x n h0 h1).1
 ·obtain rfl:n=0:=by omega
  have:=x.toNat_lt
  rw [Nat.pow_zero,Nat.div_one,Nat.mod_one,Nat.zero_mul,Nat.add_zero]
  omega
theorem rr_succ (x:UInt32) (n:Nat) (h:n≤30):wv (rr x n) / 2 + wv (rr x n) % 2 * 2147483648=wv (rr x (n + 1)):=by
 have e1:=rr_lt' x n (by omega)
 have e2:=rr_lt' x (n + 1) (by omega)
 unfold rr
 rw [wv_of _ e1,wv_of _ e2]
 clear e1 e2
 have hq:x.toNat / 2 ^ (n + 1)=x.toNat / 2 ^ n / 2:=by rw [Nat.pow_succ,Nat.div_div_eq_div_mul]
 have hr:x.toNat % 2 ^ (n + 1)=x.toNat % 2 ^ n + x.toNat / 2 ^ n % 2 * 2 ^ n:=by rw [Nat.pow_succ,Nat.mod_mul,Nat.mul_comm (2 ^ n)]
 have hp:(2:Nat) ^ (32 - n)=2 * 2 ^ (31 - n):=by rw [show 32 - n=31 - n + 1 from by omega,Nat.pow_succ,Nat.mul_comm]
 have hb:(2:Nat) ^ n * 2 ^ (31 - n)=2147483648:=by rw [← Nat.pow_add,show n + (31 - n)=31 from by omega]
 rw [hq,hr,hp,show 32 - (n + 1)=31 - n from by omega,Nat.add_mul,Nat.mul_assoc,hb]
 generalize x.toNat / 2 ^ n=q
 generalize x.toNat % 2 ^ n=r
 generalize (2:Nat) ^ (31 - n)=B
 rw [Nat.mul_left_comm r 2 B]
 generalize r * B=t
 omega
theorem sr_succ (x:UInt32) (n:Nat):wv (sr x n) / 2=wv (sr x (n + 1)):=by
 have hx:=x.toNat_lt
 have h1:=Nat.div_le_self x.toNat (2 ^ n)
 have h2:=Nat.div_le_self x.toNat (2 ^ (n + 1))
 unfold sr
 rw [wv_of _ (by omega),wv_of _ (by omega),Nat.pow_succ,← Nat.div_div_eq_div_mul]
 omega
set_option maxHeartbeats 800000 in
theorem rturn_any (x:UInt32) (n:Nat) (hn:n≤31) (w:World):Calls Tryz.prog 214 #[.int .u32 (wv x),.int .i64 (n:Int)] w fun e w'=>e=.returned (.int .u32 (wv (rr x n)))∧w=w':=by
 go_enter Tryz.func214,Tryz.ntmps214
 go_wp2
 go_loop [0,5] (fun sx si=>∃ i:Nat,i≤n∧si=.int .i64 i∧sx=.int .u32 (wv (rr x i))) (fun _ si=>n - (intOf si).toNat)
 case atStart=>exact ⟨0,Nat.zero_le _,rfl,by rw [rr_zero]⟩
 case round=>
  obtain ⟨i,hi,rfl,rfl⟩:=hrel
  obtain ⟨b0,b1⟩:=wv_lt (rr x i)
  by_cases hlt:i < n
  ·have hlt2:(i:Int) < (n:Int):=by omega
   have HS:=hid (rr_succ x i (by omega))
   go_wp2
   go_round
   case rel=>exact ⟨i + 1,by omega,by go_num,by rw [HS.out]⟩
   case measure=>simp [intOf];omega
  ·have hlt2:¬ (i:Int) < (n:Int):=by omega
   obtain rfl:i=n:=by omega
   go_wp2
   go_ret
   exact ⟨rfl,rfl⟩
set_option maxHeartbeats 800000 in
theorem rshift_any (x:UInt32) (n:Nat) (hn:n≤31) (w:World):Calls Tryz.prog 215 #[.int .u32 (wv x),.int .i64 (n:Int)] w fun e w'=>e=.returned (.int .u32 (wv (sr x n)))∧w=w':=by
 go_enter Tryz.func215,Tryz.ntmps215
 go_wp2
 go_loop [0,5] (fun sx si=>∃ i:Nat,i≤n∧si=.int .i64 i∧sx=.int .u32 (wv (sr x i))) (fun _ si=>n - (intOf si).toNat)
 case atStart=>exact ⟨0,Nat.zero_le _,rfl,by rw [sr_zero]⟩
 case round=>
  obtain ⟨i,hi,rfl,rfl⟩:=hrel
  obtain ⟨b0,b1⟩:=wv_lt (sr x i)
  by_cases hlt:i < n
  ·have hlt2:(i:Int) < (n:Int):=by omega
   have HS:=hid (sr_succ x i)
   go_wp2
   go_round
   case rel=>exact ⟨i + 1,by omega,by go_num,by rw [HS.out]⟩
   case measure=>simp [intOf];omega
  ·have hlt2:¬ (i:Int) < (n:Int):=by omega
   obtain rfl:i=n:=by omega
   go_wp2
   go_ret
   exact ⟨rfl,rfl⟩
theorem rturn_same (x:UInt32) (n:Nat) (k:Int) (hk:k=(n:Int)) (hn:n≤31) (w:World):Calls Tryz.prog 214 #[.int .u32 (wv x),.int .i64 k] w fun e w'=>e=.returned (.int .u32 (wv (rr x n)))∧w=w':=by
 subst hk
 exact rturn_any x n hn w
theorem rshift_same (x:UInt32) (n:Nat) (k:Int) (hk:k=(n:Int)) (hn:n≤31) (w:World):Calls Tryz.prog 215 #[.int .u32 (wv x),.int .i64 k] w fun e w'=>e=.returned (.int .u32 (wv (sr x n)))∧w=w':=by
 subst hk
 exact rshift_any x n hn w
theorem rturn_still (x:UInt32) (n:Nat) (k:Int) (hk:k=(n:Int)) (hn:n≤31) (w:World):Calls Tryz.prog 214 #[.int .u32 (wv x),.int .i64 k] w fun e w'=>e=.returned (.int .u32 (wv (rr x n)))∧w'=w:=(rturn_same x n k hk hn w).mono fun _ _ ⟨h,h2⟩=>⟨h,h2.symm⟩
theorem rshift_still (x:UInt32) (n:Nat) (k:Int) (hk:k=(n:Int)) (hn:n≤31) (w:World):Calls Tryz.prog 215 #[.int .u32 (wv x),.int .i64 k] w fun e w'=>e=.returned (.int .u32 (wv (sr x n)))∧w'=w:=(rshift_same x n k hk hn w).mono fun _ _ ⟨h,h2⟩=>⟨h,h2.symm⟩
theorem rturn_lit (x:UInt32) (k:Int) (h0:0≤k) (h1:k≤31) (w:World):Calls Tryz.prog 214 #[.int .u32 (wv x),.int .i64 k] w fun e w'=>e=.returned (.int .u32 (wv (rr x k.toNat)))∧w'=w:=by
 obtain ⟨n,rfl⟩:=Int.eq_ofNat_of_zero_le h0
 exact rturn_still x n _ rfl (by omega) w
theorem rturn_lit2 (x:UInt32) (k:Int) (h0:0≤k) (h1:k≤31) (w:World):Calls Tryz.prog 214 #[.int .u32 (wv x),.int .i64 k] w fun e w'=>e=.returned (.int .u32 (wv (rr x k.toNat)))∧w=w':=(rturn_lit x k h0 h1 w).mono fun _ _ ⟨h,h2⟩=>⟨h,h2.symm⟩
theorem wpList_store_eight {ops:Array Oper} {rest:List Oper} {o:Oper} {a:Act} {w:World} {Q:Exit→Act→World→Prop} (hgd:o.guard=none) (x y:Operand) (ho:o.op=.store 242 x y)
  {g:Nat} {t:TypeId} {f:Nat→Value} {v0 v1 v2 v3 v4 v5 v6 v7:Int} (hx:a.eval x=.pointer (some ⟨g,0,none⟩)) (hy:a.eval y=.agg #[.int .u32 v0,.int .u32 v1,.int .u32 v2,.int .u32 v3,.int .u32 v4,.int .u32 v5,.int .u32 v6,.int .u32 v7]) (hg:Blk w g 8 f t)
  (hh:∀ w',w.grownBy w' (some g)→Blk w' g 8 (fun j=>.int .u32 ([v0,v1,v2,v3,v4,v5,v6,v7].getD j 0)) t→w'.heap.size=w.heap.size→wpList Tryz.prog ops Q rest (a.put o.dst undef) w'):wpList Tryz.prog ops Q (o :: rest) a w:=
 wpList_store_arr arrS (f':=fun j=>.int .u32 ([v0,v1,v2,v3,v4,v5,v6,v7].getD j 0)) hgd x y ho hx hy hg (fun _ _=>rfl) hh
theorem wpList_build_eight {ops:Array Oper} {rest:List Oper} {o:Oper} {a:Act} {w:World} {Q:Exit→Act→World→Prop} (hgd:o.guard=none) {x0 x1 x2 x3 x4 x5 x6 x7:Operand} (ho:o.op=.build 242 #[(0,x0),(1,x1),(2,x2),(3,x3),(4,x4),(5,x5),(6,x6),(7,x7)])
  (v0 v1 v2 v3 v4 v5 v6 v7:Int) (h0:a.eval x0=.int .u32 v0) (h1:a.eval x1=.int .u32 v1) (h2:a.eval x2=.int .u32 v2) (h3:a.eval x3=.int .u32 v3) (h4:a.eval x4=.int .u32 v4) (h5:a.eval x5=.int .u32 v5) (h6:a.eval x6=.int .u32 v6) (h7:a.eval x7=.int .u32 v7)
  (h:wpList Tryz.prog ops Q rest (a.put o.dst (.agg #[.int .u32 v0,.int .u32 v1,.int .u32 v2,.int .u32 v3,.int .u32 v4,.int .u32 v5,.int .u32 v6,.int .u32 v7])) w):wpList Tryz.prog ops Q (o :: rest) a w:=
 wpList_plain hgd fun _ hK=>by
  have e:(Instr.build 242 #[(0,.int .u32 v0),(1,.int .u32 v1),(2,.int .u32 v2),(3,.int .u32 v3),(4,.int .u32 v4),(5,.int .u32 v5),(6,.int .u32 v6),(7,.int .u32 v7)]).run Tryz.prog w=.ok (.agg #[.int .u32 v0,.int .u32 v1,.int .u32 v2,.int .u32 v3,.int .u32 v4,.int .u32 v5,.int .u32 v6,.int .u32 v7]) w:=by
   have e2:fcells 8 (fun _=>wc 0)=#[wc 0,wc 0,wc 0,wc 0,wc 0,wc 0,wc 0,wc 0]:=by kernel_rfl
   simp [Instr.build,Sem.run_bind,arrS.run_zero,run_underlying arrS.under,arrS.run_esize,Instr.fill,Value.cells,e2]
  unfold Oper.wp execOp
  simp only [ho,Sem.run_bind,List.map_toArray,List.map_cons,List.map_nil,h0,h1,h2,h3,h4,h5,h6,h7,e,Sem.run_pure,Result.andThen_ok]
  exact hK _ _ h
theorem blk_heap {w w':World} {g n:Nat} {f:Nat→Value} {t:TypeId} (h:Blk w g n f t) (e:w'.heap=w.heap):Blk w' g n f t:=by
 unfold Blk at h ⊢
 rw [e]
 exact h
theorem below_heap {B:Nat} {a w u w':World} (h:Below B a w) (hg:u.grownBy w' (some B)) (e1:u.heap=w.heap) (e2:u.os=w.os) (e3:u.tape=w.tape) (e4:u.output=w.output) (hs:B≤w.heap.size):Below B a w':=by
 have hu:Below B a u:=⟨by rw [e2];exact h.os,by rw [e3];exact h.tape,by rw [e4];exact h.output,by rw [e1];exact h.size,fun k hk=>by rw [e1];exact h.block k hk⟩
 exact hu.grown hg (by rw [e1];exact hs) (fun k hk=>by injection hk;omega)
end Go.Proofs.YtpdnnmabijmfbaaGreatDoor
namespace Go.Proofs.YtpdnnmabijmfbaaGreatDoor
set_option maxRecDepth 20000
open Go.RowKit
theorem four_add (a b c d:UInt8):IntKind.u32.wrap (IntKind.u32.wrap (IntKind.u32.wrap (IntKind.u32.wrap (IntKind.u32.wrap (a.toNat:Int) * 16777216) + IntKind.u32.wrap (IntKind.u32.wrap (b.toNat:Int) * 65536)) + IntKind.u32.wrap (IntKind.u32.wrap (c.toNat:Int) * 256)) + IntKind.u32.wrap (d.toNat:Int))=wv (four a b c d):=by
 have ha:=a.toNat_lt
 have hb:=b.toNat_lt
 have hc:=c.toNat_lt
 have hd:=d.toNat_lt
 unfold four
 rw [wv_of _ (by omega)]
 simp only [IntKind.wrap_u32']
 omega
set_option maxHeartbeats 12800000 in
set_option maxRecDepth 100000 in
theorem refTurn_any (s:Nat→UInt32) (b:Nat→UInt8) (w:World) (hK:Kst 0 w):
  Calls Tryz.prog 199 #[.agg (fcells 8 fun j=>wc (s j)),.agg (fcells 64 fun j=>bcell (b j))] w fun e w'=>e=.returned (.agg (fcells 8 fun j=>wc (turnS s b j)))∧Below w.heap.size w w':=by
 have h1:=hK.1
 go_enter Tryz.func199,Tryz.ntmps199
 go_wp2_with (first
  | (refine wpList_alloc_arr arrS rfl rfl ?_)
  | (refine wpList_zero_arr arrW rfl rfl ?_)
  | (refine wpList_alloc_arr arrW rfl rfl ?_)
  | (refine wpList_store_arr arrW rfl _ _ rfl rfl rfl (Blk.new _ 64 (fun _=>wc 0) 263) (fun _ _=>rfl) ?_;intro w1 hg1 hW1 hs1))
 have hA:Blk (((w.alloc (.cells (fcells 8 fun j=>wc (s j)) 242)).alloc (.cells (fcells 64 fun j=>bcell (b j)) 228)).alloc (.cells (fcells 8 fun _=>wc 0) 242)) w.heap.size 8 (fun j=>wc (s j)) 242:=((Blk.new w _ _ _).alloc _).alloc _
 have hB:Blk (((w.alloc (.cells (fcells 8 fun j=>wc (s j)) 242)).alloc (.cells (fcells 64 fun j=>bcell (b j)) 228)).alloc (.cells (fcells 8 fun _=>wc 0) 242)) (w.heap.size + 1) 64 (fun j=>bcell (b j)) 228:=Blk.alloc (heap_alloc2_new w _ _) _
 have hC:Blk (((w.alloc (.cells (fcells 8 fun j=>wc (s j)) 242)).alloc (.cells (fcells 64 fun j=>bcell (b j)) 228)).alloc (.cells (fcells 8 fun _=>wc 0) 242)) (w.heap.size + 1 + 1) 8 (fun _=>wc 0) 242:=by
  have:=Blk.new ((w.alloc (.cells (fcells 8 fun j=>wc (s j)) 242)).alloc (.cells (fcells 64 fun j=>bcell (b j)) 228)) 8 (fun _=>wc 0) 242
  simpa using this
 have hbw:Below w.heap.size w (((w.alloc (.cells (fcells 8 fun j=>wc (s j)) 242)).alloc (.cells (fcells 64 fun j=>bcell (b j)) 228)).alloc (.cells (fcells 8 fun _=>wc 0) 242)):=(((Below.refl _ _).alloc (Nat.le_refl _) _).alloc (by simp) _).alloc (by simp;omega) _
 have hsz:(((w.alloc (.cells (fcells 8 fun j=>wc (s j)) 242)).alloc (.cells (fcells 64 fun j=>bcell (b j)) 228)).alloc (.cells (fcells 8 fun _=>wc 0) 242)).heap.size=w.heap.size + 3:=by simp
 have hp:(((w.alloc (.cells (fcells 8 fun j=>wc (s j)) 242)).alloc (.cells (fcells 64 fun j=>bcell (b j)) 228)).alloc (.cells (fcells 8 fun _=>wc 0) 242)).heap.size=w.heap.size + 1 + 1 + 1:=by simp
 rw [hp] at hg1 hW1
 clear hp hs1
 generalize (((w.alloc (.cells (fcells 8 fun j=>wc (s j)) 242)).alloc (.cells (fcells 64 fun j=>bcell (b j)) 228)).alloc (.cells (fcells 8 fun _=>wc 0) 242))=w0 at *
 have Hsz:=hid hsz
 clear hsz
 obtain ⟨G,HG⟩:∃ G:Nat,Hid (w.heap.size + 1 + 1 + 1=G):=⟨_,hid rfl⟩
 have hG0:w0.heap.size=G:=by have:=HG.out;have:=Hsz.out;omega
 have HG0:=hid hG0
 clear hG0
 have hGw:w.heap.size + 2 < G:=by have:=HG.out;omega
 rw [HG.out] at hg1 hW1 ⊢
 have hA1:Blk w1 w.heap.size 8 (fun j=>wc (s j)) 242:=(hA.alloc _).grown hg1 (fun e=>by have:=Option.some.inj e;omega)
 have hB1:Blk w1 (w.heap.size + 1) 64 (fun j=>bcell (b j)) 228:=(hB.alloc _).grown hg1 (fun e=>by have:=Option.some.inj e;omega)
 have hC1:Blk w1 (w.heap.size + 1 + 1) 8 (fun _=>wc 0) 242:=(hC.alloc _).grown hg1 (fun e=>by have:=Option.some.inj e;omega)
 have hb1:Below G w0 w1:=((Below.refl _ _).alloc (by have:=HG0.out;omega) _).grown hg1 (by have:=HG0.out;simp;omega) (fun k hk=>by injection hk;omega)
 have hbw1:Below w.heap.size w w1:=hbw.trans (hb1.mono (by omega))
 clear hA hB hC hbw Hsz hg1 hb1
 have hK1:=hK.below hbw1
 have hltG:=hW1.lt
 try go_frame
 go_wp2_with fail
 go_loopw [6] (fun si wr=>∃ i:Nat,i≤64∧si=.int .i64 i∧Below G w1 wr∧Blk wr G 64 (part (wd b) i) 263) (fun si _=>64 - (intOf si).toNat)
 case atStart=>exact ⟨0,by omega,rfl,Below.refl _ _,hW1.congr fun i _=>by simp [part]⟩
 case round=>
  clear hW1
  obtain ⟨i,hi,rfl,hb,hW⟩:=hrel
  have hltW:=hW.lt
  have hlt1:w.heap.size + 1 < wr.heap.size:=by omega
  by_cases hlt:i < 64
  ·have hi64:(i:Int) < 64:=by omega
   have ki:=hW.cell (i:=i) (by omega)
   have fi:=hW.free i
   by_cases h16:i < 16
   ·have hi16:(i:Int) < 16:=by omega
    as_aux_lemma=>
     have hBr:Blk wr (w.heap.size + 1) 64 (fun j=>bcell (b j)) 228:=hB1.below hb (by omega)
     obtain ⟨J,HJ⟩:∃ J:Nat,Hid (4 * i=J):=⟨_,hid rfl⟩
     have hJ:J + 3 < 64:=by have:=HJ.out;omega
     have c0:=hBr.cell (i:=J) (by omega)
     have c1:=hBr.cell (i:=J + 1) (by omega)
     have c2:=hBr.cell (i:=J + 2) (by omega)
     have c3:=hBr.cell (i:=J + 3) (by omega)
     have q0:IntKind.i64.wrap (4 * (i:Int))=(J:Int):=by rw [IntWalk.i64_in _ (by omega)];have:=HJ.out;omega
     have q1:IntKind.i64.wrap ((J:Int) + 1)=(J:Int) + 1:=IntWalk.i64_in _ (by omega)
     have q2:IntKind.i64.wrap ((J:Int) + 2)=(J:Int) + 2:=IntWalk.i64_in _ (by omega)
     have q3:IntKind.i64.wrap ((J:Int) + 3)=(J:Int) + 3:=IntWalk.i64_in _ (by omega)
     have r1:((J:Int) + 1).toNat=J + 1:=by omega
     have r2:((J:Int) + 2).toNat=J + 2:=by omega
     have r3:((J:Int) + 3).toNat=J + 3:=by omega
     have s0:(J:Int) < 64:=by omega
     have s1:(J:Int) + 1 < 64:=by omega
     have s2:(J:Int) + 2 < 64:=by omega
     have s3:(J:Int) + 3 < 64:=by omega
     have u1:0≤(J:Int) + 1:=by omega
     have u2:0≤(J:Int) + 2:=by omega
     have u3:0≤(J:Int) + 3:=by omega
     unfold bcell at c0 c1 c2 c3
     go_wp2_with fail
     go_still_tail 30,(by kernel_rfl)
     rw [four_add]
     change wpList _ _ _ _ _ wr.drew
     clear q0 q1 q2 q3 r1 r2 r3
     go_wp2_with fail
     go_roundw
     case rel=>
      refine ⟨i + 1,by omega,by go_num,(hb.drew).setCell (Nat.le_refl _) _,((hW.drew).set (i:=i) (by omega) _).congr fun j _=>?_⟩
      rw [← part_set,wd_low b h16]
      unfold wordB
      rw [HJ.out]
      rfl
     case measure=>simp [intOf];omega
   ·have hi16:¬ (i:Int) < 16:=by omega
    obtain ⟨a2,H2⟩:∃ a2:Nat,Hid (a2 + 2=i):=⟨i - 2,hid (by omega)⟩
    obtain ⟨a7,H7⟩:∃ a7:Nat,Hid (a7 + 7=i):=⟨i - 7,hid (by omega)⟩
    obtain ⟨a15,H15⟩:∃ a15:Nat,Hid (a15 + 15=i):=⟨i - 15,hid (by omega)⟩
    obtain ⟨a16,H16⟩:∃ a16:Nat,Hid (a16 + 16=i):=⟨i - 16,hid (by omega)⟩
    have b2:a2 < 64:=by have:=H2.out;omega
    have b7:a7 < 64:=by have:=H7.out;omega
    have b15:a15 < 64:=by have:=H15.out;omega
    have b16:a16 < 64:=by have:=H16.out;omega
    have q2:IntKind.i64.wrap ((i:Int) - 2)=(a2:Int):=by rw [IntWalk.i64_in _ (by omega)];have:=H2.out;omega
    have q7:IntKind.i64.wrap ((i:Int) - 7)=(a7:Int):=by rw [IntWalk.i64_in _ (by omega)];have:=H7.out;omega
    have q15:IntKind.i64.wrap ((i:Int) - 15)=(a15:Int):=by rw [IntWalk.i64_in _ (by omega)];have:=H15.out;omega
    have q16:IntKind.i64.wrap ((i:Int) - 16)=(a16:Int):=by rw [IntWalk.i64_in _ (by omega)];have:=H16.out;omega
    have c2:=hW.cell (i:=a2) (by omega)
    have c15:=hW.cell (i:=a15) (by omega)
    have e2:part (wd b) i a2=.int .u32 (wv (wd b a2)):=if_pos (by have:=H2.out;omega)
    have e7:part (wd b) i a7=.int .u32 (wv (wd b a7)):=if_pos (by have:=H7.out;omega)
    have e15:part (wd b) i a15=.int .u32 (wv (wd b a15)):=if_pos (by have:=H15.out;omega)
    have e16:part (wd b) i a16=.int .u32 (wv (wd b a16)):=if_pos (by have:=H16.out;omega)
    rw [e2] at c2
    rw [e15] at c15
    have l2:(a2:Int) < 64:=by omega
    have l7:(a7:Int) < 64:=by omega
    have l15:(a15:Int) < 64:=by omega
    have l16:(a16:Int) < 64:=by omega
    have E7:=hid e7
    have E16:=hid e16
    clear e2 e7 e15 e16
    go_wp2_with fail
    go_quiet (fail)
    go_wp2_with (first
     | (go_at_call 214;((with_reducible refine (rturn_same _ 17 17 rfl (by omega) _).mono ?_);rintro e w' ⟨rfl,rfl⟩))
     | (go_at_call 214;((with_reducible refine (rturn_same _ 19 19 rfl (by omega) _).mono ?_);rintro e w' ⟨rfl,rfl⟩))
     | (go_at_call 215;((with_reducible refine (rshift_same _ 10 10 rfl (by omega) _).mono ?_);rintro e w' ⟨rfl,rfl⟩)))
    as_aux_lemma=>
     have hraw:Value.int .u32 (bits BinOp.xor IntKind.u32 (bits BinOp.xor IntKind.u32 (wv (rr (wd b a2) 17)) (wv (rr (wd b a2) 19))) (wv (sr (wd b a2) 10)))=.int .u32 (wv (sm1 (wd b a2))):=by
      rw [wv_xor,wv_xor]
      rfl
     rw [hraw]
     clear hraw
     have hW2:Blk ((wr.drewN nq).setCell ⟨G,i,none⟩ (.int .u32 (wv (sm1 (wd b a2))))) G 64 (fun j=>if j=i then .int .u32 (wv (sm1 (wd b a2))) else part (wd b) i j) 263:=(hW.drewN nq).set (i:=i) (by omega) _
     have hb2:Below G w1 ((wr.drewN nq).setCell ⟨G,i,none⟩ (.int .u32 (wv (sm1 (wd b a2))))):=(below_drewN hb nq).setCell (Nat.le_refl _) _
     generalize (wr.drewN nq).setCell ⟨G,i,none⟩ (.int .u32 (wv (sm1 (wd b a2))))=w2 at *
     have d0:=hW2.cell (i:=i) (by omega)
     have d7:=hW2.cell (i:=a7) (by omega)
     have d16:=hW2.cell (i:=a16) (by omega)
     rw [if_pos rfl] at d0
     rw [if_neg (by have:=H7.out;omega),E7.out] at d7
     rw [if_neg (by have:=H16.out;omega),E16.out] at d16
     have f2:=hW2.free i
     have hlt2:=hW2.lt
     clear c2 c15 ki fi hW hb hltW
     refine wp_region_still_tail 23 (by kernel_rfl) (by kernel_rfl) ?_
     simp only [List.take_succ_cons,List.take_zero,List.drop_succ_cons,List.drop_zero]
     repeat still_step
     still_call (rturn_still _ 7 7 rfl (by omega) _)
     repeat still_step
     still_call (rturn_still _ 18 18 rfl (by omega) _)
     repeat still_step
     still_call (rshift_still _ 3 3 rfl (by omega) _)
     repeat still_step
     refine wpStill_nil ?_
     change wpList _ _ _ _ _ w2.drew
     as_aux_lemma=>
      clear q2 q7 q15 q16
      go_wp2_with fail
      go_roundw
      case rel=>
       refine ⟨i + 1,by omega,by go_num,(hb2.drew).setCell (Nat.le_refl _) _,((hW2.drew).set (i:=i) (by omega) _).congr fun j _=>?_⟩
       by_cases hji:j=i
       ·subst hji
        rw [if_pos rfl,wv_xor,wv_xor]
        unfold part
        rw [if_pos (by omega),wd_high b (by omega) hlt,show j - 2=a2 from by have:=H2.out;omega,show j - 7=a7 from by have:=H7.out;omega,show j - 15=a15 from by have:=H15.out;omega,show j - 16=a16 from by have:=H16.out;omega]
        unfold wc
        rw [← wv_sum4]
        rfl
       ·rw [if_neg hji,if_neg hji]
        unfold part
        by_cases hj2:j < i
        ·rw [if_pos hj2,if_pos (by omega)]
        ·rw [if_neg hj2,if_neg (by omega)]
      case measure=>simp [intOf];omega
  ·have hi64:¬ (i:Int) < 64:=by omega
   have hW64:Blk wr G 64 (fun j=>wc (wd b j)) 263:=hW.congr fun j hj=>if_pos (by omega)
   have hA2:=hA1.below hb (by omega)
   have hC2:=hC1.below hb (by omega)
   have hbw2:Below w.heap.size w wr:=hbw1.trans (hb.mono (by omega))
   have hK2:=hK.below hbw2
   obtain ⟨V,HV⟩:∃ V:Nat,Hid (wr.heap.size=V):=⟨_,hid rfl⟩
   clear hA1 hB1 hC1 hK1 hW hb hbw1
   go_wp2_with (first
    | (refine wpList_load_arr arrS rfl _ rfl rfl hA2 ?_)
    | (refine wpList_alloc_arr arrS rfl rfl ?_)
    | (refine wpList_store_arr arrS rfl _ _ rfl rfl rfl (Blk.new wr 8 (fun _=>wc 0) 242) (fun _ _=>rfl) ?_;intro w3 hg3 hV3 hs3))
   have hGV:G < V:=by have:=HV.out;omega
   have hA3:Blk w3 w.heap.size 8 (fun j=>wc (s j)) 242:=(hA2.alloc _).grown hg3 (fun e=>by have:=Option.some.inj e;have:=HV.out;omega)
   have hC3:Blk w3 (w.heap.size + 1 + 1) 8 (fun _=>wc 0) 242:=(hC2.alloc _).grown hg3 (fun e=>by have:=Option.some.inj e;have:=HV.out;omega)
   have hW3:Blk w3 G 64 (fun j=>wc (wd b j)) 263:=(hW64.alloc _).grown hg3 (fun e=>by have:=Option.some.inj e;have:=HV.out;omega)
   have hbw3:Below w.heap.size w w3:=(hbw2.alloc hbw2.size _).grown hg3 (by have:=hbw2.size;simp;omega) (fun k hk=>by injection hk;have:=HV.out;omega)
   rw [HV.out] at hV3 ⊢
   have hK3:=hK.below hbw3
   have hltV:=hV3.lt
   clear hA2 hC2 hW64 hbw2 hK2 hg3 hs3 hltW hlt1
   go_wp2_with fail
   as_aux_lemma=>
    go_loopw [10] (fun si wr=>∃ (k:Nat) (xa xb xc xd xe xf xg xh:UInt32),k≤64∧si=.int .i64 k∧Hid (rnds (wd b) k (St.of s)=⟨xa,xb,xc,xd,xe,xf,xg,xh⟩)∧Below V w3 wr∧Blk wr V 8 (fun j=>.int .u32 (wv ([xa,xb,xc,xd,xe,xf,xg,xh].getD j 0))) 242) (fun si _=>64 - (intOf si).toNat)
    case atStart=>
     refine ⟨0,s 0,s 1,s 2,s 3,s 4,s 5,s 6,s 7,by omega,rfl,hid rfl,Below.refl _ _,hV3.congr fun j hj=>?_⟩
     obtain rfl | rfl | rfl | rfl | rfl | rfl | rfl | rfl:j=0∨j=1∨j=2∨j=3∨j=4∨j=5∨j=6∨j=7:=by omega
     all_goals rfl
    case round=>
     clear hV3 hltV
     obtain ⟨k,xa,xb,xc,xd,xe,xf,xg,xh,hk,rfl,HR,hbV,hV⟩:=hrel
     have hltV:=hV.lt
     by_cases hlt:k < 64
     ·have hk64:(k:Int) < 64:=by omega
      have l0:wr.cell? ⟨V,0,none⟩=some (.int .u32 (wv xa)):=hV.cell (i:=0) (by omega)
      have l1:wr.cell? ⟨V,1,none⟩=some (.int .u32 (wv xb)):=hV.cell (i:=1) (by omega)
      have l2:wr.cell? ⟨V,2,none⟩=some (.int .u32 (wv xc)):=hV.cell (i:=2) (by omega)
      have l3:wr.cell? ⟨V,3,none⟩=some (.int .u32 (wv xd)):=hV.cell (i:=3) (by omega)
      have l4:wr.cell? ⟨V,4,none⟩=some (.int .u32 (wv xe)):=hV.cell (i:=4) (by omega)
      have l5:wr.cell? ⟨V,5,none⟩=some (.int .u32 (wv xf)):=hV.cell (i:=5) (by omega)
      have l6:wr.cell? ⟨V,6,none⟩=some (.int .u32 (wv xg)):=hV.cell (i:=6) (by omega)
      have l7:wr.cell? ⟨V,7,none⟩=some (.int .u32 (wv xh)):=hV.cell (i:=7) (by omega)
      have lw:=(hW3.below hbV hGV).cell (i:=k) hlt
      unfold wc at lw
      have hK0:0 < V:=by have:=hK.1;have:=HV.out;omega
      have lk:=(hbV.cell (p:=⟨0,k,none⟩) hK0).trans (hK3.2 k hlt)
      have hlt0:0 < wr.heap.size:=by omega
      have hltG2:G < wr.heap.size:=by omega
      have hbe:=wv_lt xe
      obtain ⟨hbe0,hbe1⟩:=hbe
      obtain ⟨C1,HC1⟩:∃ C:UInt32,Hid (chc xe xf xg=C):=⟨_,hid rfl⟩
      obtain ⟨M1,HM1⟩:∃ C:UInt32,Hid (maj xa xb xc=C):=⟨_,hid rfl⟩
      obtain ⟨B1,HB1⟩:∃ C:UInt32,Hid (bg1 xe=C):=⟨_,hid rfl⟩
      obtain ⟨B0,HB0⟩:∃ C:UInt32,Hid (bg0 xa=C):=⟨_,hid rfl⟩
      obtain ⟨T,HT⟩:∃ C:UInt32,Hid (xh + B1 + C1 + kc k + wd b k=C):=⟨_,hid rfl⟩
      obtain ⟨U,HU⟩:∃ C:UInt32,Hid (B0 + M1=C):=⟨_,hid rfl⟩
      have e1:bits BinOp.or IntKind.u32 (bits BinOp.and IntKind.u32 (wv xe) (wv xf)) (bits BinOp.and IntKind.u32 (4294967295 - wv xe) (wv xg))=wv C1:=by rw [wv_not,wv_and,wv_and,wv_or,← HC1.out];rfl
      have e2:bits BinOp.or IntKind.u32 (bits BinOp.or IntKind.u32 (bits BinOp.and IntKind.u32 (wv xa) (wv xb)) (bits BinOp.and IntKind.u32 (wv xa) (wv xc))) (bits BinOp.and IntKind.u32 (wv xb) (wv xc))=wv M1:=by rw [wv_and,wv_and,wv_and,wv_or,wv_or,← HM1.out];rfl
      have e3:bits BinOp.xor IntKind.u32 (bits BinOp.xor IntKind.u32 (wv (rr xe 6)) (wv (rr xe 11))) (wv (rr xe 25))=wv B1:=by rw [wv_xor,wv_xor,← HB1.out];rfl
      have e4:bits BinOp.xor IntKind.u32 (bits BinOp.xor IntKind.u32 (wv (rr xa 2)) (wv (rr xa 13))) (wv (rr xa 22))=wv B0:=by rw [wv_xor,wv_xor,← HB0.out];rfl
      have e5:(wv xh + wv B1 + wv C1 + wv (kc k) + wv (wd b k)) % 4294967296=wv T:=by rw [wv_sum5,HT.out]
      go_wp2_with fail
      go_quiet (fail)
      go_wp2_with fail
      go_quiet ((go_at_call 214;exact quiet2 (rturn_lit _ _ (by omega) (by omega) _)))
      first
       | rw [wv_sum4,wv_add,HT.out]
       | rw [wv_sum5,HT.out]
      clear e1 e2 e3 e5
      have hVq:∀ n wq,wr.drewN n=wq→Blk wq V 8 (fun j=>.int .u32 (wv ([xa,xb,xc,xd,xe,xf,xg,xh].getD j 0))) 242:=fun n wq e=>by subst e;exact blk_heap hV rfl
      have hbq:∀ n wq,wr.drewN n=wq→Below V w3 wq:=fun n wq e=>by subst e;exact below_drewN hbV n
      clear hlt0 hltG2 hbe0 hbe1 lw lk hbV hV l0 l1 l2 l3 l4 l5 l6 l7 hltV
      go_wp2_with fail
      refine (rturn_lit2 _ _ (by omega) (by omega) _).mono ?_
      rintro e w' ⟨rfl,rfl⟩
      go_wp2_with fail
      refine (rturn_lit2 _ _ (by omega) (by omega) _).mono ?_
      rintro e w' ⟨rfl,rfl⟩
      go_wp2_with fail
      refine (rturn_lit2 _ _ (by omega) (by omega) _).mono ?_
      rintro e w' ⟨rfl,rfl⟩
      generalize hwq:wr.drewN _=wq
      have hV:=hVq _ _ hwq
      have hbV:=hbq _ _ hwq
      clear hVq hbq hwq
      have l0:wq.cell? ⟨V,0,none⟩=some (.int .u32 (wv xa)):=hV.cell (i:=0) (by omega)
      have l1:wq.cell? ⟨V,1,none⟩=some (.int .u32 (wv xb)):=hV.cell (i:=1) (by omega)
      have l2:wq.cell? ⟨V,2,none⟩=some (.int .u32 (wv xc)):=hV.cell (i:=2) (by omega)
      have l3:wq.cell? ⟨V,3,none⟩=some (.int .u32 (wv xd)):=hV.cell (i:=3) (by omega)
      have l4:wq.cell? ⟨V,4,none⟩=some (.int .u32 (wv xe)):=hV.cell (i:=4) (by omega)
      have l5:wq.cell? ⟨V,5,none⟩=some (.int .u32 (wv xf)):=hV.cell (i:=5) (by omega)
      have l6:wq.cell? ⟨V,6,none⟩=some (.int .u32 (wv xg)):=hV.cell (i:=6) (by omega)
      have l7:wq.cell? ⟨V,7,none⟩=some (.int .u32 (wv xh)):=hV.cell (i:=7) (by omega)
      have hltV:=hV.lt
      go_simp
      go_wp2_with (first
       | (refine wpList_build_eight rfl rfl _ _ _ _ _ _ _ _ rfl rfl rfl rfl rfl rfl rfl rfl ?_)
       | (refine wpList_store_eight rfl (.tmp 9) (.tmp 182) rfl rfl rfl hV ?_;intro w5 hg5 hV5 hs5))
      have hV6:Blk w5 V 8 (fun j=>.int .u32 (wv ([T + U,xa,xb,xc,xd + T,xe,xf,xg].getD j 0))) 242:=hV5.congr fun j hj=>by
       obtain rfl | rfl | rfl | rfl | rfl | rfl | rfl | rfl:j=0∨j=1∨j=2∨j=3∨j=4∨j=5∨j=6∨j=7:=by omega
       ·show Value.int IntKind.u32 ((wv T + (wv B0 + wv M1) % 4294967296) % 4294967296)=Value.int IntKind.u32 (wv (T + U))
        rw [wv_add,wv_add,HU.out]
       ·rfl
       ·rfl
       ·rfl
       ·show Value.int IntKind.u32 ((wv xd + wv T) % 4294967296)=Value.int IntKind.u32 (wv (xd + T))
        rw [wv_add]
       ·rfl
       ·rfl
       ·rfl
      clear e4 l0 l1 l2 l3 l4 l5 l6 l7
      go_roundw
      case rel=>
       refine ⟨k + 1,T + U,xa,xb,xc,xd + T,xe,xf,xg,by omega,by go_num,hid ?_,below_heap hbV hg5 rfl rfl rfl rfl (by omega),hV6⟩
       unfold rnds
       rw [HR.out,← HT.out,← HU.out,← HB1.out,← HC1.out,← HB0.out,← HM1.out]
       rfl
      case measure=>simp [intOf];omega
     ·have hk64:¬ (k:Int) < 64:=by omega
      have HR64:Hid (rnds (wd b) 64 (St.of s)=⟨xa,xb,xc,xd,xe,xf,xg,xh⟩):=by
       have e:k=64:=by omega
       rw [← e]
       exact HR
      have hA4:=hA3.below hbV (by omega)
      have hC4:=hC3.below hbV (by omega)
      have hbw4:Below w.heap.size w wr:=hbw3.trans (hbV.mono (by omega))
      have hV4:Blk wr V 8 (fun j=>if j < 0 then wc (turnS s b j) else .int .u32 (wv ((rnds (wd b) 64 (St.of s)).at_ j))) 242:=hV.congr fun j _=>by
       rw [if_neg (by omega),HR64.out]
       rfl
      clear hA3 hC3 hW3 hbw3 hK3 hV hbV HR HR64
      obtain ⟨wo,rfl⟩:∃ wo:World,wo=wr:=⟨_,rfl⟩
      go_wp2_with fail
      go_loopw [17] (fun si wr=>∃ m:Nat,m≤8∧si=.int .i64 m∧Below V wo wr∧Blk wr V 8 (fun j=>if j < m then wc (turnS s b j) else .int .u32 (wv ((rnds (wd b) 64 (St.of s)).at_ j))) 242) (fun si _=>8 - (intOf si).toNat)
      case atStart=>exact ⟨0,by omega,rfl,Below.refl _ _,hV4⟩
      case round=>
       clear hV4
       obtain ⟨m,hm,rfl,hb5,hV⟩:=hrel
       have hltV5:=hV.lt
       have hltA5:w.heap.size < wr.heap.size:=by omega
       by_cases hlt2:m < 8
       ·have hm8:(m:Int) < 8:=by omega
        have kv:=hV.cell (i:=m) (by omega)
        rw [if_neg (by omega)] at kv
        have fv:=hV.free m
        have ks:=(hA4.below hb5 (by omega)).cell (i:=m) (by omega)
        unfold wc at ks
        go_wp2_with fail
        go_still_tail 8,(by kernel_rfl)
        change wpList _ _ _ _ _ wr.drew
        go_wp2_with fail
        go_roundw
        case rel=>
         refine ⟨m + 1,by omega,by go_num,(hb5.drew).setCell (Nat.le_refl _) _,((hV.drew).set (i:=m) (by omega) _).congr fun q _=>?_⟩
         by_cases hq:q=m
         ·subst hq
          rw [if_pos rfl,if_pos (by omega)]
          unfold turnS wc
          rw [UInt32.add_comm,← wv_add]
         ·rw [if_neg hq]
          by_cases hq2:q < m
          ·rw [if_pos hq2,if_pos (by omega)]
          ·rw [if_neg hq2,if_neg (by omega)]
        case measure=>simp [intOf];omega
       ·have hm8:¬ (m:Int) < 8:=by omega
        have hVr:Blk wr V 8 (fun j=>wc (turnS s b j)) 242:=hV.congr fun j hj=>if_pos (by omega)
        have hC5:=hC4.below hb5 (by omega)
        have hbw5:Below w.heap.size w wr:=hbw4.trans (hb5.mono (by omega))
        go_wp2_with (first
         | (refine wpList_load_arr arrS rfl _ rfl rfl hVr ?_)
         | (refine wpList_store_arr arrS rfl _ _ rfl rfl rfl hC5 (fun _ _=>rfl) ?_;intro w9 hg9 hC9 hs9))
        refine bodyPost_ret (arrS.result rfl _ _ rfl hC9) rfl ⟨rfl,?_⟩
        exact below_into hbw5 (by omega) hg9 hbw5.size
end Go.Proofs.YtpdnnmabijmfbaaGreatDoor
namespace Go.Proofs.YtpdnnmabijmfbaaGreatDoor
set_option maxRecDepth 20000
open Go.RowKit
theorem grown_of_below2 {w w':World} (h:Below w.heap.size w w') (row:Option Nat):w.grownBy w' row:=⟨h.os,h.tape,h.output,h.size,fun k hk _=>h.block k hk⟩
set_option maxHeartbeats 3200000 in
theorem refOf_any (v:Value) (l:List UInt8) (w:World) (hv:Byt w v l) (hs:l.length≤1000000) (hK:Kst 0 w):
  Calls Tryz.prog 169 #[v] w fun e w'=>e=.returned (.agg (fcells 32 fun j=>bcell (sumS l j)))∧Below w.heap.size w w':=by
 obtain ⟨A,c,rfl⟩:=hv.shape
 obtain ⟨L,HL⟩:∃ L:Nat,Hid (l.length=L):=⟨_,hid rfl⟩
 rw [HL.out] at hs hv ⊢
 go_enter Tryz.func169,Tryz.ntmps169
 go_wp2_with (first
  | (refine wpList_alloc_arr arrH rfl rfl ?_)
  | (refine wpList_build_eight rfl rfl _ _ _ _ _ _ _ _ rfl rfl rfl rfl rfl rfl rfl rfl ?_)
  | (refine wpList_alloc_arr arrS rfl rfl ?_)
  | (refine wpList_store_arr arrS (f':=fun j=>wc (start j)) rfl _ _ rfl rfl rfl (Blk.new _ 8 (fun _=>wc 0) 242) (fun _ _=>rfl) ?_;intro w1 hg1 hS1 hs1))
 have hb1:Below w.heap.size w w1:=(((Below.refl _ _).alloc (Nat.le_refl _) (.cells (fcells 32 fun _=>bcell 0) 38)).alloc (by simp) (.cells (fcells 8 fun _=>wc 0) 242)).grown hg1 (by simp;omega) (fun k hk=>by injection hk;simp at *;omega)
 have hH1:Blk w1 w.heap.size 32 (fun _=>bcell 0) 38:=((Blk.new w 32 (fun _=>bcell 0) 38).alloc _).grown hg1 (by simp)
 have hv1:=hv.below hb1
 have hs1':=hb1.size
 clear hg1 hs1
 go_wp2_with fail
 refine (refFill_any _ l w1 hv1 (by rw [HL.out];omega)).mono ?_
 rintro e w2 ⟨v2,rfl,hown2,hb2⟩
 obtain ⟨A2,c2,rfl⟩:=hown2.byt.shape
 obtain ⟨F,HF⟩:∃ F:Nat,Hid ((fillS l).length=F):=⟨_,hid rfl⟩
 have hF0:=fillS_length l
 have hF1:=fillS_mod l
 have hnl:=noughts_le l.length
 rw [HF.out] at hown2 hF0 hF1 ⊢
 rw [HL.out] at hF0 hnl
 obtain ⟨P,HP⟩:∃ P:Nat,Hid (F=64 * P):=⟨F / 64,hid (by omega)⟩
 have hF2:F≤1000100:=by omega
 clear hF0 hF1 hnl
 obtain ⟨S,HS⟩:∃ S:Nat,Hid (w.heap.size + 1=S):=⟨_,hid rfl⟩
 have hS0:Blk w1 (w.heap.size + 1) 8 (fun j=>wc (start j)) 242:=by simpa using hS1
 rw [HS.out] at hS0 ⊢
 have hSw1:=hS0.lt
 have hSw:w.heap.size < S:=by have:=HS.out;omega
 have hS2:Blk w2 S 8 (fun j=>wc (absb (fillS l) 0 j)) 242:=hS0.keep hb2
 have hH2:=hH1.keep hb2
 have hbw2:=hb1.trans (hb2.mono hs1')
 have hs2:=hb2.size
 have hv2:=hown2.byt
 have hne:(Value.slice A2 F c2).ownBlock≠some S:=fun e=>by have:=(World.ownsRow.lt hown2 S e).1;omega
 have hS2w:S < w2.heap.size:=by omega
 have HH:=hid hH2
 have HK:=hid hK
 clear hS1 hS0 hH1 hv1 hb1 hb2 hown2 hH2 hv hK
 try go_frame
 go_wp2_with fail
 go_loopw [5] (fun si wr=>∃ i k:Nat,k≤P∧Hid (i=64 * k)∧si=.int .i64 i∧w2.grownBy wr (some S)∧Blk wr S 8 (fun j=>wc (absb (fillS l) k j)) 242) (fun si _=>F - (intOf si).toNat)
 case atStart=>exact ⟨0,0,Nat.zero_le _,hid rfl,rfl,grown_of_below2 (Below.refl _ _) _,hS2⟩
 case round=>
  clear hS2
  obtain ⟨i,k,hk,HI,rfl,hgr,hS⟩:=hrel
  have hltS:=hS.lt
  have hgs:=hgr.size
  by_cases hlt:k < P
  ·have hiF:(i:Int) < (F:Int):=by have:=HI.out;have:=HP.out;omega
   have hvr:Byt wr (.slice A2 F c2) (fillS l):=hv2.keep hgs fun b hb e=>hgr.block b hb (fun e2=>hne (by rw [e,e2]))
   have hc1:=hvr.at_.2.1
   have hr:=hvr.at_.2.2.2
   rw [HF.out] at hc1
   obtain ⟨b,off,rfl,hb2,hcell⟩:=hr (by rw [HF.out];omega)
   have HC:=hid hcell
   clear hr hcell
   obtain ⟨wo,rfl⟩:∃ wo:World,wo=wr:=⟨_,rfl⟩
   go_wp2_with (first
    | (refine wpList_zero_arr arrB rfl rfl ?_)
    | (refine wpList_alloc_arr arrB rfl rfl ?_)
    | (refine wpList_store_arr arrB rfl _ _ rfl rfl rfl (Blk.new wo 64 (fun _=>bcell 0) 228) (fun _ _=>rfl) ?_;intro w4 hg4 hB4 hs4))
   obtain ⟨B,HB⟩:∃ B:Nat,Hid (wo.heap.size=B):=⟨_,hid rfl⟩
   have hS4:Blk w4 S 8 (fun j=>wc (absb (fillS l) k j)) 242:=(hS.alloc _).grown hg4 (by simp;omega)
   have hbB4:Below wo.heap.size wo w4:=((Below.refl _ _).alloc (Nat.le_refl _) _).grown hg4 (by simp) (fun k hk=>by injection hk;omega)
   have hbB1:b < B:=by have:=HB.out;omega
   rw [HB.out] at hB4 hltS hbB4 ⊢
   clear hg4 hs4
   go_wp2_with fail
   go_loopw [7] (fun sm wr=>∃ m:Nat,m≤64∧sm=.int .i64 m∧Below B wo wr∧Blk wr B 64 (partB (blockOf (fillS l) k) m) 228) (fun sm _=>64 - (intOf sm).toNat)
   case atStart=>exact ⟨0,by omega,rfl,hbB4,hB4.congr fun i _=>by simp [partB]⟩
   case round=>
    clear hbB4 hS4 hB4
    obtain ⟨m,hm,rfl,hbB,hB⟩:=hrel
    have hltB:=hB.lt
    by_cases hlt2:m < 64
    ·have hm64:(m:Int) < 64:=by omega
     have hif:i + m < F:=by have:=HI.out;have:=HP.out;omega
     have hif2:(i:Int) + (m:Int) < (F:Int):=by omega
     have hlf:i + m < (fillS l).length:=by rw [HF.out];exact hif
     have ck:=(hbB.cell (p:=⟨b,off + (i + m),none⟩) hbB1).trans (HC.out (i + m) hlf)
     have kb:=hB.cell (i:=m) (by omega)
     have fb:=hB.free m
     have hval:bcell (fillS l)[i + m]=bcell (blockOf (fillS l) k m):=by
      unfold blockOf
      rw [← HI.out,List.getD_eq_getElem?_getD,List.getElem?_eq_getElem hlf]
      rfl
     have HV:=hid hval
     unfold bcell at ck
     clear hval
     go_wp2_with fail
     go_roundw
     case rel=>
      refine ⟨m + 1,by omega,by go_num,below_set hbB (g:=B) (Nat.le_refl _) _ _,(hB.set (i:=m) (by omega) _).congr fun q _=>?_⟩
      rw [← partB_set,← HV.out]
      rfl
     case measure=>simp [intOf];omega
    ·have hm64:¬ (m:Int) < 64:=by omega
     have hB2:Blk wr B 64 (fun j=>bcell (blockOf (fillS l) k j)) 228:=hB.congr fun q hq=>if_pos (by omega)
     have hSr:=hS.below hbB hltS
     have hgr2:w2.grownBy wr (some S):=hgr.trans (grown_of_below2 (by rw [HB.out];exact hbB) _)
     have hbw:Below w.heap.size w wr:=hbw2.grown hgr2 hbw2.size (fun k hk=>by injection hk;omega)
     have hKr:=HK.out.below hbw
     go_wp2_with (first
      | (refine wpList_load_arr arrS rfl _ rfl rfl hSr ?_)
      | (refine wpList_load_arr arrB rfl _ rfl rfl hB2 ?_))
     refine (refTurn_any _ _ wr hKr).mono ?_
     rintro e w6 ⟨rfl,hb6⟩
     have hS6:=hSr.keep hb6
     have hg6:w2.grownBy w6 (some S):=hgr2.trans (grown_of_below2 hb6 _)
     go_wp2_with (refine wpList_store_arr arrS rfl _ _ rfl rfl rfl hS6 (fun _ _=>rfl) ?_;intro w7 hg7 hS7 hs7)
     go_roundw
     case rel=>exact ⟨i + 64,k + 1,by omega,hid (by have:=HI.out;omega),by go_num,hg6.trans hg7,hS7⟩
     case measure=>simp [intOf];omega
  ·have hiF:¬ (i:Int) < (F:Int):=by have:=HI.out;have:=HP.out;omega
   have ekP:k=P:=by omega
   have hS':Blk wr S 8 (fun j=>wc (absb (fillS l) P j)) 242:=by rw [← ekP];exact hS
   have hbw:Below w.heap.size w wr:=hbw2.grown hgr hbw2.size (fun k hk=>by injection hk;omega)
   have hH:Blk wr w.heap.size 32 (fun _=>bcell 0) 38:=HH.out.grown hgr (fun e=>by have:=Option.some.inj e;omega)
   clear hS
   obtain ⟨wo,rfl⟩:∃ wo:World,wo=wr:=⟨_,rfl⟩
   go_wp2_with (first
    | (refine wpList_zero_arr arrH rfl rfl ?_)
    | (refine wpList_alloc_arr arrH rfl rfl ?_)
    | (refine wpList_store_arr arrH rfl _ _ rfl rfl rfl (Blk.new wo 32 (fun _=>bcell 0) 38) (fun _ _=>rfl) ?_;intro w8 hg8 hQ8 hs8))
   obtain ⟨Q,HQ⟩:∃ Q:Nat,Hid (wo.heap.size=Q):=⟨_,hid rfl⟩
   have hbQ8:Below wo.heap.size wo w8:=((Below.refl _ _).alloc (Nat.le_refl _) _).grown hg8 (by simp) (fun k hk=>by injection hk;omega)
   have hltH:=hH.lt
   rw [HQ.out] at hQ8 hltS hbQ8 hltH ⊢
   clear hg8 hs8
   go_wp2_with fail
   go_loopw [9] (fun si wr=>∃ i:Nat,i≤32∧si=.int .i64 i∧Below Q wo wr∧Blk wr Q 32 (partB (sumS l) i) 38) (fun si _=>32 - (intOf si).toNat)
   case atStart=>exact ⟨0,by omega,rfl,hbQ8,hQ8.congr fun i _=>by simp [partB]⟩
   case round=>
    clear hbQ8 hQ8
    obtain ⟨j,hj,rfl,hbQ,hQ⟩:=hrel
    have hltQ:=hQ.lt
    by_cases hlt2:j < 32
    ·have hj32:(j:Int) < 32:=by omega
     have cs:=(hS'.below hbQ hltS).cell (i:=j / 4) (by omega)
     have kc:=hQ.cell (i:=j) (by omega)
     have fc:=hQ.free j
     unfold wc at cs
     have t1:Int.tdiv (j:Int) 4=((j / 4:Nat):Int):=by rw [Int.tdiv_eq_ediv_of_nonneg (by omega)];omega
     have t2:Int.tmod (j:Int) 4=((j % 4:Nat):Int):=by rw [Int.tmod_eq_emod_of_nonneg (by omega)];omega
     have hval:Value.int .u8 (wv (absb (fillS l) P (j / 4)) / 2 ^ (24 - 8 * (j % 4)) % 256)=bcell (sumS l j):=by
      unfold sumS
      rw [show (fillS l).length / 64=P from by have:=HF.out;have:=HP.out;omega]
      unfold bcell byteOf
      rw [u8_ofNat]
      unfold wv
      simp
     have HV:=hid hval
     clear hval
     go_wp2_with fail
     go_roundw
     case rel=>
      refine ⟨j + 1,by omega,by go_num,below_set hbQ (g:=Q) (Nat.le_refl _) _ _,(hQ.set (i:=j) (by omega) _).congr fun q _=>?_⟩
      rw [HV.out,← partB_set]
     case measure=>simp [intOf];omega
    ·have hj32:¬ (j:Int) < 32:=by omega
     have hQ2:Blk wr Q 32 (fun j=>bcell (sumS l j)) 38:=hQ.congr fun q hq=>if_pos (by omega)
     have hH2:=hH.below hbQ hltH
     have hbw3:Below w.heap.size w wr:=hbw.trans (hbQ.mono (by omega))
     go_wp2_with (first
      | (refine wpList_load_arr arrH rfl _ rfl rfl hQ2 ?_)
      | (refine wpList_store_arr arrH rfl _ _ rfl rfl rfl hH2 (fun _ _=>rfl) ?_;intro w9 hg9 hC9 hs9))
     refine bodyPost_ret (arrH.result rfl _ _ rfl hC9) rfl ⟨rfl,?_⟩
     exact below_into hbw3 (Nat.le_refl _) hg9 hbw3.size
end Go.Proofs.YtpdnnmabijmfbaaGreatDoor
namespace Go.Proofs.YtpdnnmabijmfbaaGreatDoor
set_option maxRecDepth 20000
open Go.ChangeShapes Go.WideShapes Go.ChangeAt Go.RowKit
theorem laid_ref:(Rows.laid_tithing_tithingref02_constants:DataW Unit)=Lib.tabData .u32 kz:=by kernel_rfl
theorem okWide_arr' {P:Program} {w:World} {r:Reach} {base:Nat} {v:Value} {t e:TypeId} {n:Nat} (ht:P.underlying t=some (.array n e)) (h:Value.okWide P w r base t v):∃ cs,v=.agg cs∧cs.size=P.cellsOf t:=by
 cases v <;> simp [Value.okWide,ht] at h
 exact ⟨_,rfl,h.1⟩
theorem open_arr {H:Type} {enc:TypeId × Value→H} {w:World} {base:Nat} {spare:Nat→Bool} {held:Bool} {fuel:Nat} {t e:TypeId} {n:Nat} {k:IntKind} {cs:List Value} {x:DataW H × List MemPlace}
  (ht:Tryz.prog.underlying t=some (.array n e)) (he:Tryz.prog.underlying e=some (.int k)) (hce:Tryz.prog.cellsOf e=1) (hct:Tryz.prog.cellsOf t=n)
  (h:DataW.trod enc Tryz.prog w base spare held fuel t cs=some x):cs.length=n∧∀ i,i < n→∃ z,cs[i]?=some (.int k z)∧(Lit.int k z).wf=true:=by
 obtain ⟨xs,m,_,_,hl,hn,hel⟩:=DataW.trod_array ht h
 rw [hct] at hl
 refine ⟨hl,fun i hi=>?_⟩
 have h1:=hel i hi
 rw [hce,Nat.mul_one,List.getElem?_eq_getElem (by omega:i < xs.length)] at h1
 obtain ⟨z,e1,e2,e3⟩:=DataW.trod_int he h1
 refine ⟨z,?_,?_⟩
 ·have hi2:i < cs.length:=by omega
  have:(cs.drop i).take 1=[cs[i]]:=by
   rw [List.drop_eq_getElem_cons hi2]
   rfl
  rw [this] at e1
  rw [List.getElem?_eq_getElem hi2]
  injection e1 with e1 _
  rw [e1]
 ·exact e3
def zof:Option Value→Nat
 | some (.int _ z)=>z.toNat
 | _=>0
theorem bytes_of {cs:List Value} {n:Nat} (hl:cs.length=n) (h:∀ i,i < n→∃ z,cs[i]?=some (.int .u8 z)∧(Lit.int .u8 z).wf=true):∃ f:Nat→UInt8,cs=(fcells n fun j=>bcell (f j)).toList:=by
 refine ⟨fun i=>UInt8.ofNat (zof cs[i]?),?_⟩
 apply List.ext_getElem?
 intro i
 rw [fcells_list]
 by_cases hi:i < n
 ·obtain ⟨z,e,hw⟩:=h i hi
  have hr:0≤z∧z≤255:=by simpa [Lit.wf,IntKind.min,IntKind.max,IntKind.signed,IntKind.bits] using hw
  rw [if_pos hi,e]
  have ez:zof cs[i]?=z.toNat:=by rw [e];rfl
  show some (Value.int .u8 z)=some (.int .u8 ((UInt8.ofNat (zof cs[i]?)).toNat:Int))
  rw [ez,UInt8.toNat_ofNat',show ((z.toNat % 2 ^ 8:Nat):Int)=z from by omega]
 ·rw [if_neg hi,List.getElem?_eq_none (by omega)]
theorem laid_tail {P:Program} {x:String × DataW Unit} {r:List (String × DataW Unit)} {w:World} (h:laidMet P (x :: r) w):laidMet P r w:=laidMet.tail h
theorem two_met {W : World} (h : laidMetH Tryz.prog [("tithing/sha.constants", Rows.laid_tithing_sha_constants), ("tithing/tithingref02.constants", Rows.laid_tithing_tithingref02_constants)] W) : Kst 1 W ∧ Kst 0 W := by
 rw [MakeChecks.laidMetH_plain _ _ _ (by kernel_rfl),laid_sha,laid_ref] at h
 exact ⟨kst_of gSha tSha h,kst_of gRef tRef (laid_tail h)⟩
theorem door_two (os : Os) (args : Array Value) : laidMetH Tryz.prog [("tithing/sha.constants", Rows.laid_tithing_sha_constants), ("tithing/tithingref02.constants", Rows.laid_tithing_tithingref02_constants)] ((World.doorLaid Tryz.prog 400 os).forCall (fun _ _ => 0) ⟨#[], args, []⟩).memory :=
 laidMetH_of_parts3 (fuel:=8) (laidMet_of_run' 8 (by kernel_rfl) (by kernel_rfl)) (by kernel_rfl) (by kernel_rfl)
end Go.Proofs.YtpdnnmabijmfbaaGreatDoor
