/-
  CrcPure CrcBits CrcNat CrcRef CrcFour: what each of them says stands at its head.
-/
import Derived.Test.YtfpgglclpkcdhaaBw1
namespace Go.Proofs.Ytfpgglclpkcdhaa
set_option maxRecDepth 20000
theorem bv_left (x y z:BitVec 32):x ^^^ (y ^^^ z)=y ^^^ (x ^^^ z):=by rw [← BitVec.xor_assoc,BitVec.xor_comm x y,BitVec.xor_assoc]
theorem xor_odd (n:Nat):n * 2 ^^^ 1=n * 2 + 1:=by
 have h1:(n * 2 ^^^ 1) / 2=n:=by
  rw [Nat.xor_div_two,Nat.mul_div_cancel _ (by omega)]
  simp
 have h2:(n * 2 ^^^ 1) % 2=1:=by
  rw [Nat.xor_mod_two_eq_one]
  omega
 omega
def crP:BitVec 32:=0x814141AB#32
def crT (r:BitVec 32):BitVec 32:=(r <<< 1) ^^^ (if r.msb then crP else 0#32)
def crTn:Nat→BitVec 32→BitVec 32
 | 0,r=>r
 | n + 1,r=>crT (crTn n r)
theorem crTn_add (m:Nat) (r:BitVec 32):∀ n,crTn (n + m) r=crTn n (crTn m r)
 | 0=>by rw [Nat.zero_add];rfl
 | n + 1=>by
  rw [show n + 1 + m=(n + m) + 1 from by omega]
  unfold crTn
  rw [crTn_add m r n]
theorem crT_xor (r s:BitVec 32):crT (r ^^^ s)=crT r ^^^ crT s:=by
 unfold crT
 rw [BitVec.shiftLeft_xor_distrib,BitVec.msb_xor]
 cases r.msb <;> cases s.msb <;> simp [BitVec.xor_assoc,bv_left crP]
 exact BitVec.xor_comm _ _
theorem crT_zero:crT 0#32=0#32:=by decide
theorem crTn_zero:∀ n,crTn n 0#32=0#32
 | 0=>rfl
 | n + 1=>by
  unfold crTn
  rw [crTn_zero n,crT_zero]
theorem crTn_xor (r s:BitVec 32):∀ n,crTn n (r ^^^ s)=crTn n r ^^^ crTn n s
 | 0=>rfl
 | n + 1=>by
  unfold crTn
  rw [crTn_xor r s n,crT_xor]
theorem crT_some {r:BitVec 32} (h:crT r=0#32):r=0#32:=by
 unfold crT at h
 by_cases hm:r.msb=true
 ·rw [hm] at h
  have h0:=congrArg (fun x:BitVec 32=>x.getLsbD 0) h
  simp [crP] at h0
 ·have hm2:r.msb=false:=by simpa using hm
  rw [hm2] at h
  have h1:r <<< 1=0#32:=by simpa using h
  apply BitVec.eq_of_getLsbD_eq
  intro i hi
  by_cases h31:i=31
  ·subst h31
   have:r.msb=r.getLsbD 31:=by simp [BitVec.msb_eq_getLsbD_last]
   rw [← this,hm2]
   rfl
  ·have h2:=congrArg (fun x:BitVec 32=>x.getLsbD (i + 1)) h1
   have hi2:i + 1 < 32:=by omega
   simp [hi2] at h2
   simpa [BitVec.getLsbD_eq_getElem hi] using h2
theorem crTn_some {r:BitVec 32}:∀ n,crTn n r=0#32→r=0#32
 | 0,h=>h
 | n + 1,h=>crTn_some n (crT_some h)
def bit1 (b:Bool):BitVec 32:=if b then 1#32 else 0#32
def crG (r:BitVec 32) (b:Bool):BitVec 32:=crT r ^^^ bit1 b
def gf (ys:List Bool) (r:BitVec 32):BitVec 32:=ys.foldl crG r
theorem gf_append (xs ys:List Bool) (r:BitVec 32):gf (xs ++ ys) r=gf ys (gf xs r):=by
 unfold gf
 rw [List.foldl_append]
theorem bit1_xor (a b:Bool):bit1 (a ^^ b)=bit1 a ^^^ bit1 b:=by cases a <;> cases b <;> rfl
theorem crG_xor (r s:BitVec 32) (a b:Bool):crG (r ^^^ s) (a ^^ b)=crG r a ^^^ crG s b:=by
 unfold crG
 rw [crT_xor,bit1_xor]
 rw [BitVec.xor_assoc,BitVec.xor_assoc,bv_left (crT s)]
theorem gf_xor:∀ (xs ys:List Bool) (r s:BitVec 32),xs.length=ys.length→gf (List.zipWith (· ^^ ·) xs ys) (r ^^^ s)=gf xs r ^^^ gf ys s
 | [],[],_,_,_=>rfl
 | a :: xs,b :: ys,r,s,h=>by
  show gf (List.zipWith (· ^^ ·) xs ys) (crG (r ^^^ s) (a ^^ b))=gf xs (crG r a) ^^^ gf ys (crG s b)
  rw [crG_xor,gf_xor xs ys _ _ (by simpa using h)]
 | [],_ :: _,_,_,h=>by simp at h
 | _ :: _,[],_,_,h=>by simp at h
theorem gf_falses (n:Nat) (r:BitVec 32):gf (List.replicate n false) r=crTn n r:=by
 induction n with
 | zero=>rfl
 | succ n ih=>
  rw [List.replicate_succ',gf_append,ih]
  show crT (crTn n r) ^^^ 0#32=crT (crTn n r)
  simp
theorem gf_small:∀ (ys:List Bool) (r:BitVec 32) (j:Nat),ys.length + j≤32→r.toNat < 2 ^ j→0 < r.toNat→gf ys r≠0#32
 | [],r,j,_,_,h0=>fun e=>by
  have:r=0#32:=e
  rw [this] at h0
  simp at h0
 | b :: ys,r,j,hl,hr,h0=>by
  have hj:j≤31:=by simp at hl;omega
  have hp:2 ^ j≤2 ^ 31:=Nat.pow_le_pow_right (by omega) hj
  have hm:r.msb=false:=by
   rw [BitVec.msb_eq_decide]
   simp
   omega
  have hT:(crT r).toNat=2 * r.toNat:=by
   unfold crT
   rw [hm]
   simp [BitVec.toNat_shiftLeft,Nat.shiftLeft_eq]
   omega
  have hG:(crG r b).toNat=2 * r.toNat + (if b then 1 else 0):=by
   unfold crG bit1
   rw [BitVec.toNat_xor,hT]
   cases b
   ·simp
   ·simp only [if_true]
    have e1:(1#32).toNat=1:=rfl
    rw [e1,Nat.mul_comm,xor_odd]
  show gf ys (crG r b)≠0#32
  refine gf_small ys (crG r b) (j + 1) (by simp at hl;omega) ?_ ?_
  ·rw [hG,Nat.pow_succ]
   split <;> omega
  ·rw [hG]
   omega
end Go.Proofs.Ytfpgglclpkcdhaa
namespace Go.Proofs.Ytfpgglclpkcdhaa
set_option maxRecDepth 20000
def cb (c:UInt8):List Bool:=(List.range 8).map fun k=>c.toNat.testBit (7 - k)
def bitsOf (l:List UInt8):List Bool:=l.flatMap cb
theorem cb_length (c:UInt8):(cb c).length=8:=by simp [cb]
theorem bitsOf_cons (c:UInt8) (l:List UInt8):bitsOf (c :: l)=cb c ++ bitsOf l:=rfl
theorem bitsOf_append (l m:List UInt8):bitsOf (l ++ m)=bitsOf l ++ bitsOf m:=by simp [bitsOf]
theorem bitsOf_length:∀ l:List UInt8,(bitsOf l).length=8 * l.length
 | []=>rfl
 | c :: l=>by
  rw [bitsOf_cons,List.length_append,cb_length,bitsOf_length l,List.length_cons]
  omega
def crN (r:BitVec 32) (c:UInt8):BitVec 32:=crTn 8 (r ^^^ BitVec.ofNat 32 (c.toNat * 16777216))
def crcS (l:List UInt8):BitVec 32:=l.foldl crN 0#32
theorem byte_up:∀ n:Fin 256,crTn 24 (BitVec.ofNat 32 n.val)=BitVec.ofNat 32 (n.val * 16777216):=by decide +kernel
theorem byte_bits:∀ n:Fin 256,gf ((List.range 8).map fun k=>n.val.testBit (7 - k)) 0#32=BitVec.ofNat 32 n.val:=by decide +kernel
theorem gf_zero (ys:List Bool) (r:BitVec 32):gf ys r=crTn ys.length r ^^^ gf ys 0#32:=by
 have h:=gf_xor (List.replicate ys.length false) ys r 0#32 (by simp)
 rw [gf_falses] at h
 have e:∀ zs:List Bool,List.zipWith (· ^^ ·) (List.replicate zs.length false) zs=zs:=fun zs=>by
  induction zs with
  | nil=>rfl
  | cons z zs ih=>simp [List.replicate_succ,ih]
 rw [e,BitVec.xor_zero] at h
 exact h
theorem crN_eq (s:BitVec 32) (c:UInt8):crN (crTn 32 s) c=crTn 32 (gf (cb c) s):=by
 have hc:c.toNat < 256:=c.toNat_lt
 have h1:=byte_up ⟨c.toNat,hc⟩
 have h2:=byte_bits ⟨c.toNat,hc⟩
 simp only at h1 h2
 have h3:gf (cb c) s=crTn 8 s ^^^ BitVec.ofNat 32 c.toNat:=by
  have:=gf_zero (cb c) s
  rw [cb_length] at this
  rw [this]
  congr 1
 unfold crN
 rw [h3,crTn_xor,crTn_xor,← crTn_add 8 s 32,← crTn_add 32 s 8,← h1,← crTn_add 24 _ 8]
theorem crc_fold:∀ (l:List UInt8) (s:BitVec 32),l.foldl crN (crTn 32 s)=crTn 32 (gf (bitsOf l) s)
 | [],_=>rfl
 | c :: l,s=>by
  rw [List.foldl_cons,crN_eq,crc_fold l,bitsOf_cons,gf_append]
theorem crcS_eq (l:List UInt8):crcS l=crTn 32 (gf (bitsOf l) 0#32):=by
 have h:=crc_fold l 0#32
 rw [crTn_zero] at h
 exact h
def xorL (l m:List UInt8):List UInt8:=List.zipWith (· ^^^ ·) l m
theorem cb_xor (c d:UInt8):cb (c ^^^ d)=List.zipWith (· ^^ ·) (cb c) (cb d):=by
 apply List.ext_getElem (by simp [cb])
 intro i h1 h2
 simp [cb,UInt8.toNat_xor,Nat.testBit_xor]
theorem bitsOf_xor:∀ (l m:List UInt8),l.length=m.length→bitsOf (xorL l m)=List.zipWith (· ^^ ·) (bitsOf l) (bitsOf m)
 | [],[],_=>rfl
 | c :: l,d :: m,h=>by
  have ih:=bitsOf_xor l m (by simpa using h)
  unfold xorL at ih ⊢
  rw [List.zipWith_cons_cons,bitsOf_cons,bitsOf_cons,bitsOf_cons,ih,cb_xor,List.zipWith_append (by rw [cb_length,cb_length])]
 | [],_ :: _,h=>by simp at h
 | _ :: _,[],h=>by simp at h
theorem crcS_xor (l m:List UInt8) (h:l.length=m.length):crcS (xorL l m)=crcS l ^^^ crcS m:=by
 rw [crcS_eq,crcS_eq,crcS_eq,bitsOf_xor l m h,← crTn_xor]
 congr 1
 have:=gf_xor (bitsOf l) (bitsOf m) 0#32 0#32 (by rw [bitsOf_length,bitsOf_length,h])
 rw [BitVec.xor_zero] at this
 exact this
theorem falses_of {ys:List Bool} (h:∀ k,ys.getD k false=false):ys=List.replicate ys.length false:=by
 apply List.ext_getElem (by simp)
 intro i h1 h2
 have:=h i
 rw [List.getD_eq_getElem?_getD,List.getElem?_eq_getElem h1] at this
 simpa using this
theorem burst:∀ (ys:List Bool) (f:Nat),(∀ k,k < f→ys.getD k false=false)→(∀ k,f + 32≤k→ys.getD k false=false)→gf ys 0#32=0#32→∀ k,ys.getD k false=false
 | [],_,_,_,_=>fun k=>by simp
 | false :: ys,f,hlo,hhi,h=>by
  have h2:gf ys 0#32=0#32:=by
   have e:crG 0#32 false=0#32:=by decide
   have:gf (false :: ys) 0#32=gf ys (crG 0#32 false):=rfl
   rw [this,e] at h
   exact h
  have ih:=burst ys (f - 1) (fun k hk=>by
   have:=hlo (k + 1) (by omega)
   simpa using this) (fun k hk=>by
   have:=hhi (k + 1) (by omega)
   simpa using this) h2
  intro k
  rcases k with _ | k
  ·rfl
  ·have:=ih k
   simpa using this
 | true :: ys,f,hlo,hhi,h=>by
  have hf:f=0:=by
   rcases f with _ | f
   ·rfl
   ·have:=hlo 0 (by omega)
    simp at this
  subst hf
  have e1:crG 0#32 true=1#32:=by decide
  have h1:gf (true :: ys) 0#32=gf ys (crG 0#32 true):=rfl
  rw [h1,e1] at h
  have hd:ys.drop 31=List.replicate (ys.drop 31).length false:=falses_of fun k=>by
   have:=hhi (31 + k + 1) (by omega)
   rw [List.getD_eq_getElem?_getD,List.getElem?_drop]
   simpa using this
  have h3:gf ys 1#32=crTn (ys.drop 31).length (gf (ys.take 31) 1#32):=by
   rw [← gf_falses,← hd,← gf_append,List.take_append_drop]
  rw [h3] at h
  have h4:=crTn_some _ h
  exact absurd h4 (gf_small (ys.take 31) 1#32 1 (by rw [List.length_take];omega) (by decide) (by decide))
def mb (l:List UInt8) (k:Nat):Bool:=(bitsOf l).getD k false
theorem mb_at:∀ (l:List UInt8) (q j:Nat),j < 8→mb l (8 * q + j)=(l.getD q 0).toNat.testBit (7 - j)
 | [],q,j,_=>by simp [mb,bitsOf]
 | c :: l,0,j,hj=>by
  unfold mb
  rw [bitsOf_cons,Nat.mul_zero,Nat.zero_add,List.getD_eq_getElem?_getD,List.getElem?_append_left (by rw [cb_length];exact hj)]
  simp [cb,hj]
 | c :: l,q + 1,j,hj=>by
  have ih:=mb_at l q j hj
  unfold mb at ih ⊢
  rw [bitsOf_cons,List.getD_eq_getElem?_getD,List.getElem?_append_right (by rw [cb_length];omega),cb_length,show 8 * (q + 1) + j - 8=8 * q + j from by omega,← List.getD_eq_getElem?_getD,ih]
  simp
theorem mb_ext {l m:List UInt8} (hl:l.length=m.length) (h:∀ k,mb l k=mb m k):l=m:=by
 apply List.ext_getElem hl
 intro q h1 h2
 apply UInt8.toNat_inj.1
 apply Nat.eq_of_testBit_eq
 intro i
 by_cases hi:i < 8
 ·have:=h (8 * q + (7 - i))
  rw [mb_at l q (7 - i) (by omega),mb_at m q (7 - i) (by omega),show 7 - (7 - i)=i from by omega] at this
  simpa [h1,h2] using this
 ·have e1:l[q].toNat.testBit i=false:=Nat.testBit_lt_two_pow (Nat.lt_of_lt_of_le l[q].toNat_lt (Nat.pow_le_pow_right (by omega) (by omega)))
  have e2:m[q].toNat.testBit i=false:=Nat.testBit_lt_two_pow (Nat.lt_of_lt_of_le m[q].toNat_lt (Nat.pow_le_pow_right (by omega) (by omega)))
  rw [e1,e2]
theorem mb_xor {l m:List UInt8} (h:l.length=m.length) (k:Nat):mb (xorL l m) k=(mb l k ^^ mb m k):=by
 unfold mb
 rw [bitsOf_xor l m h]
 have hlen:(bitsOf l).length=(bitsOf m).length:=by rw [bitsOf_length,bitsOf_length,h]
 simp only [List.getD_eq_getElem?_getD,List.getElem?_zipWith]
 by_cases hk:k < (bitsOf l).length
 ·rw [List.getElem?_eq_getElem hk,List.getElem?_eq_getElem (by omega)]
  simp
 ·rw [List.getElem?_eq_none (by omega),List.getElem?_eq_none (by omega)]
  simp
theorem turned_told {p b c:List UInt8} {f:Nat} (hl:b.length=c.length) (hd:∀ k,mb b k≠mb c k→f≤k∧k < f + 32) (h:crcS (p ++ b)=crcS (p ++ c)):b=c:=by
 have h1:=crcS_xor (p ++ b) (p ++ c) (by rw [List.length_append,List.length_append,hl])
 rw [h,BitVec.xor_self] at h1
 have h2:xorL (p ++ b) (p ++ c)=List.replicate p.length 0 ++ xorL b c:=by
  unfold xorL
  rw [List.zipWith_append rfl]
  congr 1
  apply List.ext_getElem (by simp)
  intro i h1 h2
  simp
 rw [h2,crcS_eq,bitsOf_append,gf_append] at h1
 have h3:=crTn_some 32 h1
 have hz:∀ n,gf (bitsOf (List.replicate n 0)) 0#32=0#32:=fun n=>by
  have e:bitsOf (List.replicate n 0)=List.replicate (bitsOf (List.replicate n 0)).length false:=falses_of fun k=>by
   have h8:k=8 * (k / 8) + k % 8:=by omega
   have:=mb_at (List.replicate n 0) (k / 8) (k % 8) (by omega)
   rw [← h8] at this
   unfold mb at this
   rw [this,List.getD_eq_getElem?_getD,List.getElem?_replicate]
   split <;> simp
  rw [e,gf_falses,crTn_zero]
 rw [hz] at h3
 have h4:=burst (bitsOf (xorL b c)) f (fun k hk=>by
  have:=mb_xor hl k
  unfold mb at this
  rw [this]
  by_cases e:mb b k=mb c k
  ·unfold mb at e
   rw [e]
   simp
  ·have:=hd k e
   omega) (fun k hk=>by
  have:=mb_xor hl k
  unfold mb at this
  rw [this]
  by_cases e:mb b k=mb c k
  ·unfold mb at e
   rw [e]
   simp
  ·have:=hd k e
   omega) h3
 refine mb_ext hl fun k=>?_
 have h5:=mb_xor hl k
 have h6:mb (xorL b c) k=false:=h4 k
 rw [h6] at h5
 revert h5
 cases mb b k <;> cases mb c k <;> simp
end Go.Proofs.Ytfpgglclpkcdhaa
namespace Go.Proofs.Ytfpgglclpkcdhaa
set_option maxRecDepth 20000
theorem crT_nat (r:BitVec 32):(crT r).toNat=if 2147483648≤r.toNat then (2 * r.toNat - 4294967296) ^^^ 2168537515 else 2 * r.toNat:=by
 have hr:=r.isLt
 have hs:(r <<< 1).toNat=2 * r.toNat % 4294967296:=by
  rw [BitVec.toNat_shiftLeft,Nat.shiftLeft_eq]
  omega
 have hm:r.msb=decide (2147483648≤r.toNat):=by
  rw [BitVec.msb_eq_decide]
 unfold crT
 rw [hm]
 by_cases h:2147483648≤r.toNat
 ·rw [if_pos h,if_pos (by simpa using h),BitVec.toNat_xor,hs]
  have e:2 * r.toNat % 4294967296=2 * r.toNat - 4294967296:=by omega
  rw [e]
  rfl
 ·rw [if_neg h,if_neg (by simpa using h),BitVec.xor_zero,hs]
  omega
theorem xor_bit (n m:Nat):n * 2 ^^^ m ^^^ 1=(n * 2 + 1) ^^^ m:=by
 rw [Nat.xor_assoc,Nat.xor_comm m 1,← Nat.xor_assoc,xor_odd]
theorem crG_nat (r:BitVec 32) (b:Bool):(crG r b).toNat=if 4294967296≤2 * r.toNat + b.toNat then (2 * r.toNat + b.toNat - 4294967296) ^^^ 2168537515 else 2 * r.toNat + b.toNat:=by
 have hr:=r.isLt
 unfold crG bit1
 rw [BitVec.toNat_xor,crT_nat]
 cases b
 ·simp only [Bool.toNat_false,Nat.add_zero,Bool.false_eq_true,if_false]
  have e:(0#32).toNat=0:=rfl
  rw [e,Nat.xor_zero]
  by_cases h:2147483648≤r.toNat
  ·rw [if_pos h,if_pos (by omega)]
  ·rw [if_neg h,if_neg (by omega)]
 ·simp only [Bool.toNat_true,if_true]
  have e:(1#32).toNat=1:=rfl
  rw [e]
  by_cases h:2147483648≤r.toNat
  ·rw [if_pos h,if_pos (by omega),show 2 * r.toNat - 4294967296=(r.toNat - 2147483648) * 2 from by omega,xor_bit,show 2 * r.toNat + 1 - 4294967296=(r.toNat - 2147483648) * 2 + 1 from by omega]
  ·rw [if_neg h,if_neg (by omega),Nat.mul_comm,xor_odd]
end Go.Proofs.Ytfpgglclpkcdhaa
namespace Go.Proofs.Ytfpgglclpkcdhaa
set_option maxRecDepth 20000
open Go.RowKit
theorem byt_new (w:World) (l:List UInt8) {C:Array Value} (hC:C=(bcells l).toArray) (hm:l.length≤maxLen):Byt (w.alloc (.cells C 5)) (.slice (some ⟨w.heap.size,0,none⟩) l.length l.length) l:=by
 subst hC
 refine ⟨_,_,rfl,Nat.le_refl _,hm,fun _=>⟨w.heap.size,0,rfl,by simp,fun j hj=>?_⟩⟩
 rw [Nat.zero_add,cell_of_row _ _ _ _ _ (0,0) (heap_alloc_new w _)]
 simp [bcells,hj]
theorem alloc_le (w:World) (o:Obj):w.heap.size≤(w.alloc o).heap.size:=by simp
theorem gf_take (c:UInt8) (r:BitVec 32) {j:Nat} (hj:j < 8):gf ((cb c).take (j + 1)) r=crG (gf ((cb c).take j) r) (c.toNat.testBit (7 - j)):=by
 have h:(cb c).take (j + 1)=(cb c).take j ++ [c.toNat.testBit (7 - j)]:=by
  rw [List.take_add_one]
  congr 1
  simp [cb,hj]
 rw [h,gf_append]
 rfl
theorem gf_all (c:UInt8) (r:BitVec 32) {j:Nat} (hj:¬ j < 8):gf ((cb c).take j) r=gf (cb c) r:=by
 rw [List.take_of_length_le (by rw [cb_length];omega)]
theorem gf_bytes (l:List UInt8) {i:Nat} (hi:i < l.length):gf (bitsOf (l.take (i + 1))) 0#32=gf (cb l[i]) (gf (bitsOf (l.take i)) 0#32):=by
 rw [List.take_add_one,List.getElem?_eq_getElem hi,bitsOf_append,gf_append]
 show gf (bitsOf [l[i]]) _=_
 simp [bitsOf]
set_option maxHeartbeats 1600000 in
theorem refCrc_any (v:Value) (l:List UInt8) (w:World) (hv:Byt w v l) (hs:l.length≤1000000):
  Calls Try.prog 52 #[v] w fun e w'=>e=.returned (.int .u32 ((crcS l).toNat:Int))∧Below w.heap.size w w':=by
 have ho0:Own w.heap.size (w.alloc (.cells #[] 5)) (.slice (some ⟨w.heap.size,0,none⟩) 0 0) []:=World.ownsRow_made w #[] 0 (Nat.le_refl _) (Nat.zero_le _) rfl
 have hl1:([]:List UInt8).length + l.length≤140737488355328:=by rw [List.length_nil];omega
 have hs1:w.heap.size≤(w.alloc (.cells #[] 5)).heap.size:=by simp
 have hl2:l.length + ([0,0,0,0]:List UInt8).length≤140737488355328:=by show l.length + 4≤_;omega
 go_enter Try.func52,Try.ntmps52
 go_wp2_with (first
  | (at_builtin;refine wpList_append_byt rfl (.tmp 7) (.tmp 8) rfl rfl rfl ho0 (hv.alloc _) hl1 hs1 ?_;intro v9 w9 hown9 hg9 hv9;simp only [List.nil_append] at hown9;have hs9:=Nat.le_trans hs1 hg9.size;have hs9':=Nat.le_trans hs9 (alloc_le w9 (.cells #[.int .u8 0,.int .u8 0,.int .u8 0,.int .u8 0] 5)))
  | (at_builtin;refine wpList_append_byt rfl (.tmp 9) (.tmp 10) rfl rfl rfl (hown9.alloc _) (byt_new w9 [0,0,0,0] rfl (by decide)) hl2 hs9' ?_;intro v11 w11 hown11 hg11 hv11))
 obtain ⟨A,HA⟩:∃ all:List UInt8,Hid (l ++ [0,0,0,0]=all):=⟨_,hid rfl⟩
 rw [HA.out] at hown11
 have hb9:Below w.heap.size w w9:=((Below.refl _ _).alloc (Nat.le_refl _) _).grown hg9 hs1 (fun k hk=>(World.ownsRow.lt ho0 k hk).1)
 have hb11:Below w.heap.size w w11:=(hb9.alloc hs9 _).grown hg11 hs9' (fun k hk=>(World.ownsRow.lt hown9 k hk).1)
 have hby:=hown11.byt
 obtain ⟨B,c,rfl⟩:=hby.shape
 obtain ⟨L,HL⟩:∃ L:Nat,Hid (A.length=L):=⟨_,hid rfl⟩
 have hLs:L≤1000004:=by
  rw [← HL.out,← HA.out,List.length_append]
  show l.length + 4≤_
  omega
 rw [HL.out] at hby ⊢
 have HBY:=hid hby
 have HB11:=hid hb11
 clear hby hb9 hb11 hown9 hown11 hg9 hg11 hv9 hv11 hs1 hs9 hs9' hl1 hl2 ho0 hs
 go_loopw [3,5] (fun sr si wr=>∃ i:Nat,i≤L∧si=.int .i64 (i:Int)∧sr=.int .u64 ((gf (bitsOf (A.take i)) 0#32).toNat:Int)∧Hid (w11=wr)) (fun _ si _=>L - (intOf si).toNat)
 case atStart=>exact ⟨0,Nat.zero_le _,rfl,rfl,hid rfl⟩
 case round=>
  obtain ⟨i,hi,rfl,rfl,HW⟩:=hrel
  obtain rfl:=HW.out
  by_cases hlt:i < L
  ·have hiL:(i:Int) < (L:Int):=by omega
   have hil:i < A.length:=by rw [HL.out];exact hlt
   obtain ⟨b,off,rfl,_,hcl⟩:=HBY.out.at_.2.2.2 (by rw [HL.out];omega)
   have k1:=hcl i hil
   have HG:=hid (gf_bytes A hil)
   clear hcl
   obtain ⟨x,HX⟩:∃ x:UInt8,Hid (A[i]=x):=⟨_,hid rfl⟩
   obtain ⟨R,HR⟩:∃ R:BitVec 32,Hid (gf (bitsOf (A.take i)) 0#32=R):=⟨_,hid rfl⟩
   rw [HX.out] at k1
   rw [HR.out]
   unfold bcell at k1
   obtain ⟨y,HY⟩:∃ y:Nat,Hid (x.toNat=y):=⟨_,hid rfl⟩
   have hy:y≤255:=by have:=x.toNat_lt;have:=HY.out;omega
   rw [HY.out] at k1
   go_wp2_with fail
   go_loopw [3,6] (fun sr sk wr=>∃ (j:Nat) (z:Int),j≤8∧z + (j:Int)=7∧sk=.int .i64 z∧sr=.int .u64 ((gf ((cb x).take j) R).toNat:Int)∧Hid (w11=wr)) (fun _ sk _=>(intOf sk + 1).toNat)
   case atStart=>exact ⟨0,7,by omega,by omega,rfl,rfl,hid rfl⟩
   case round=>
    obtain ⟨j,z,hj,hz,rfl,rfl,HW⟩:=hrel
    obtain rfl:=HW.out
    obtain ⟨r,Hr⟩:∃ r:BitVec 32,Hid (gf ((cb x).take j) R=r):=⟨_,hid rfl⟩
    rw [Hr.out]
    obtain ⟨n,HN⟩:∃ n:Nat,Hid (r.toNat=n):=⟨_,hid rfl⟩
    have hn:n≤4294967295:=by rw [← HN.out];exact Nat.le_of_lt_succ r.isLt
    rw [HN.out]
    by_cases hlt2:j < 8
    ·obtain ⟨m,hm⟩:∃ m:Nat,z=(m:Int):=⟨z.toNat,by omega⟩
     subst hm
     have hm8:(m:Int) < 8:=by omega
     have HM:=hid (show 7 - j=m by omega)
     have HZ:=hid hz
     clear hz
     obtain ⟨s,HSS⟩:∃ s:Nat,Hid (y / 2 ^ m=s):=⟨_,hid rfl⟩
     have hs:s≤255:=by rw [← HSS.out];exact Nat.le_trans (Nat.div_le_self _ _) hy
     have hdiv:(y:Int) / 2 ^ m=(s:Int):=by rw [← HSS.out,Int.natCast_ediv,Int.natCast_pow];rfl
     have hbit:(x.toNat.testBit (7 - j)).toNat=s % 2:=by rw [HM.out,HY.out,Nat.toNat_testBit,HSS.out]
     have hcr:=crG_nat r (x.toNat.testBit (7 - j))
     rw [HN.out,hbit] at hcr
     have HCR:=hid hcr
     clear hbit hcr
     by_cases hbig:4294967296≤2 * n + s % 2
     ·have hq:(4294967296:Int)≤(n:Int) * 2 + (s:Int) % 2:=by omega
      obtain ⟨u,HU⟩:∃ u:Nat,Hid ((2 * n + s % 2 - 4294967296) ^^^ 2168537515=u):=⟨_,hid rfl⟩
      have hx:bits BinOp.xor IntKind.u64 ((n:Int) * 2 + (s:Int) % 2 - 4294967296) 2168537515=(u:Int):=by
       have e:(n:Int) * 2 + (s:Int) % 2 - 4294967296=((2 * n + s % 2 - 4294967296:Nat):Int):=by omega
       rw [e,← HU.out]
       exact u64_xor_nat _ 2168537515 (by omega) (by decide)
      have HB:=hid hbig
      clear hbig
      go_wp2_with fail
      go_roundw
      case rel=>
       refine ⟨j + 1,(m:Int) - 1,by omega,by have:=HM.out;omega,rfl,?_,(by first | exact hid rfl | exact hid trivial)⟩
       rw [gf_take x R hlt2,Hr.out,HCR.out,if_pos HB.out,HU.out]
      case measure=>simp [intOf]
     ·have hq:¬ (4294967296:Int)≤(n:Int) * 2 + (s:Int) % 2:=by omega
      have HB:=hid hbig
      clear hbig
      go_wp2_with fail
      go_roundw
      case rel=>
       refine ⟨j + 1,(m:Int) - 1,by omega,by have:=HM.out;omega,rfl,?_,(by first | exact hid rfl | exact hid trivial)⟩
       rw [gf_take x R hlt2,Hr.out,HCR.out,if_neg HB.out,Int.natCast_add,Int.natCast_mul,Int.natCast_emod,Int.mul_comm]
       rfl
      case measure=>simp [intOf]
    ·have hz0:¬ 0≤z:=by omega
     have ej:=gf_all x R hlt2
     rw [Hr.out] at ej
     have HE:=hid ej
     clear ej hz
     go_wp2_with fail
     go_roundw
     case rel=>exact ⟨i + 1,by omega,by go_num,by rw [HG.out,HR.out,HX.out,← HE.out,HN.out],(by first | exact hid rfl | exact hid trivial)⟩
     case measure=>simp [intOf];omega
  ·have hiL:¬ (i:Int) < (L:Int):=by omega
   have HE:Hid (gf (bitsOf (A.take i)) 0#32=crcS l):=hid (by
    rw [List.take_of_length_le (by rw [HL.out];omega),← HA.out,bitsOf_append,gf_append,crcS_eq]
    show gf (bitsOf [0,0,0,0]) _=_
    have:bitsOf [0,0,0,0]=List.replicate 32 false:=by decide
    rw [this,gf_falses])
   obtain ⟨n,HN⟩:∃ n:Nat,Hid ((gf (bitsOf (A.take i)) 0#32).toNat=n):=⟨_,hid rfl⟩
   have hn:n≤4294967295:=by rw [← HN.out];exact Nat.le_of_lt_succ (BitVec.isLt _)
   rw [HN.out]
   go_wp2_with fail
   go_ret
   exact ⟨by rw [← HE.out,HN.out];rfl,HB11.out⟩
end Go.Proofs.Ytfpgglclpkcdhaa
namespace Go.Proofs.Ytfpgglclpkcdhaa
set_option maxRecDepth 20000
open Go.RowKit
def fourL (n:Nat):List UInt8:=[UInt8.ofNat (n / 16777216),UInt8.ofNat (n / 65536 % 256),UInt8.ofNat (n / 256 % 256),UInt8.ofNat (n % 256)]
theorem fourL_length (n:Nat):(fourL n).length=4:=rfl
def recS (l:List UInt8):List UInt8:=fourL l.length ++ (fourL (crcS (fourL l.length ++ l)).toNat ++ l)
theorem recS_length (l:List UInt8):(recS l).length=8 + l.length:=by
 unfold recS
 rw [List.length_append,List.length_append,fourL_length,fourL_length]
 omega
theorem byte_nat {n:Nat} (h:n < 256):(n:Int)=((UInt8.ofNat n).toNat:Int):=by
 rw [UInt8.toNat_ofNat']
 omega
theorem own_new (w:World) (l:List UInt8) {C:Array Value} (hC:C=(bcells l).toArray) (hm:l.length≤maxLen):Own w.heap.size (w.alloc (.cells C 5)) (.slice (some ⟨w.heap.size,0,none⟩) l.length l.length) l:=by
 subst hC
 refine ⟨by simp [bcells],.inr ⟨w.heap.size,l.length,(bcells l).toArray,rfl,Nat.le_refl _,heap_alloc_new w _,Nat.le_refl _,hm,by simp [bcells],?_⟩⟩
 rw [Nat.mul_one,List.take_of_length_le (by simp [bcells])]
set_option maxHeartbeats 1600000 in
theorem refFour_any (n:Nat) (w:World) (hn:n≤4294967295):
  Calls Try.prog 51 #[.int .u32 (n:Int)] w fun e w'=>∃ v,e=.returned v∧Own w.heap.size w' v (fourL n)∧Below w.heap.size w w':=by
 go_enter Try.func51,Try.ntmps51
 go_wp2_with fail
 go_ret
 refine ⟨_,rfl,own_new w (fourL n) ?_ (by show 4≤maxLen;unfold maxLen;omega),(Below.refl _ _).alloc (Nat.le_refl _) _⟩
 show _=#[bcell (UInt8.ofNat (n / 16777216)),bcell (UInt8.ofNat (n / 65536 % 256)),bcell (UInt8.ofNat (n / 256 % 256)),bcell (UInt8.ofNat (n % 256))]
 unfold bcell
 rw [← byte_nat (by omega),← byte_nat (by omega),← byte_nat (by omega),← byte_nat (by omega)]
 rfl
theorem fresh_own (w:World):Own w.heap.size (w.alloc (.cells #[] 5)) (.slice (some ⟨w.heap.size,0,none⟩) 0 0) []:=World.ownsRow_made w #[] 0 (Nat.le_refl _) (Nat.zero_le _) rfl
theorem fresh_below {w w2:World} (hg:(w.alloc (.cells #[] 5)).grownBy w2 (Value.slice (some ⟨w.heap.size,0,none⟩) 0 0).ownBlock):Below w.heap.size w w2:=
 ((Below.refl _ _).alloc (Nat.le_refl _) _).grown hg (by simp) (fun k hk=>(World.ownsRow.lt (fresh_own w) k hk).1)
theorem Own.apart {B C:Nat} {w w':World} {v u:Value} {l m:List UInt8} (h:Own B w v l) (hv:∀ k,v.ownBlock=some k→k < C) (hu:Own C w u m) (hg:w.grownBy w' u.ownBlock):Own B w' v l:=
 h.keep fun b hb e=>hg.block b hb (fun e2=>by
  have h1:=hv b e
  have h2:=(World.ownsRow.lt hu b e2.symm).1
  omega)
set_option maxHeartbeats 1600000 in
theorem refRecord_any (v:Value) (l:List UInt8) (w:World) (hv:Byt w v l) (hs:l.length≤900000):
  Calls Try.prog 34 #[v] w fun e w'=>∃ x,e=.returned x∧Own w.heap.size w' x (recS l)∧Below w.heap.size w w':=by
 obtain ⟨A,c,rfl⟩:=hv.shape
 have HS:=hid hs
 have hl0:([]:List UInt8).length + (fourL l.length).length≤140737488355328:=by rw [fourL_length,List.length_nil];omega
 have HL1:=hid (show (fourL l.length).length + l.length≤140737488355328 by rw [fourL_length];omega)
 have HLF:=hid (show (fourL l.length ++ l).length≤1000000 by rw [List.length_append,fourL_length];omega)
 obtain ⟨L,HL⟩:∃ L:Nat,Hid (l.length=L):=⟨_,hid rfl⟩
 have hL:L≤900000:=by rw [← HL.out];exact hs
 obtain ⟨F,HF⟩:∃ F:List UInt8,Hid (fourL L=F):=⟨_,hid rfl⟩
 rw [HL.out,HF.out] at hl0
 have HL1':Hid (F.length + l.length≤140737488355328):=hid (by have:=HL1.out;rw [HL.out,HF.out] at this;rw [HL.out];exact this)
 have HLF':Hid ((F ++ l).length≤1000000):=hid (by have:=HLF.out;rw [HL.out,HF.out] at this;exact this)
 rw [HL.out] at hv ⊢
 have HV:=hid hv
 clear HL1 HLF hs hv
 go_enter Try.func34,Try.ntmps34
 go_wp2_with fail
 have C:=refFour_any L w (by omega)
 rw [HF.out] at C
 refine C.mono ?_
 clear C
 rintro e w1 ⟨v3,rfl,ho3,hb1⟩
 go_wp2_with (first
  | (at_builtin;refine wpList_append_byt rfl (.tmp 8) (.tmp 9) rfl rfl rfl (fresh_own w1) (ho3.byt.alloc _) hl0 (alloc_le w1 _) ?_;intro v10 w10 hown10 hg10 hv10;simp only [List.nil_append] at hown10;have hb10:=fresh_below hg10;clear hg10)
  | (at_builtin;refine wpList_append_byt rfl (.tmp 11) (.tmp 12) rfl rfl rfl (fresh_own w10) ((ho3.byt.below hb10).alloc _) hl0 (alloc_le w10 _) ?_;intro v13 w13 hown13 hg13 hv13;simp only [List.nil_append] at hown13;have hb13:=fresh_below hg13;have hown10':=hown10.below hb13;clear hg13)
  | (at_builtin;refine wpList_append_byt rfl (.tmp 13) (.tmp 14) rfl rfl rfl hown13 (HV.out.below (hb1.trans ((hb10.mono hb1.size).trans (hb13.mono (Nat.le_trans hb1.size hb10.size))))) HL1'.out hb13.size ?_;intro v15 w15 hown15 hg15 hv15;have hown10'':=hown10'.apart (fun k hk=>(World.ownsRow.lt hown10 k hk).2) hown13 hg15;have hb15:=hb13.grown hg15 hb13.size (fun k hk=>(World.ownsRow.lt hown13 k hk).1);clear hg15))
 refine (refCrc_any v15 (F ++ l) w15 hown15.byt HLF'.out).mono ?_
 rintro e w16 ⟨rfl,hb16⟩
 have ho10:=hown10''.below hb16
 have hB16:Below w.heap.size w w16:=hb1.trans ((hb10.mono hb1.size).trans ((hb15.mono (Nat.le_trans hb1.size hb10.size)).trans (hb16.mono (Nat.le_trans hb1.size (Nat.le_trans hb10.size hb15.size)))))
 have hs1:=hb1.size
 have hs16:w1.heap.size≤w16.heap.size:=Nat.le_trans hb10.size (Nat.le_trans hb15.size hb16.size)
 obtain ⟨q,HQ⟩:∃ q:Nat,Hid ((crcS (F ++ l)).toNat=q):=⟨_,hid rfl⟩
 have hq:q≤4294967295:=by rw [← HQ.out];exact Nat.le_of_lt_succ (BitVec.isLt _)
 rw [HQ.out]
 have hl4:=hl0
 clear hown10 hown10' hown10'' hown13 hown15 hb10 hb13 hb15 hb16 hv10 hv13 hv15 ho3
 go_wp2_with fail
 refine (refFour_any q w16 hq).mono ?_
 rintro e w17 ⟨v17,rfl,ho17,hb17⟩
 have ho10':=ho10.below hb17
 have hs17:w1.heap.size≤w17.heap.size:=Nat.le_trans hs16 hb17.size
 have hB17:=hB16.trans (hb17.mono hB16.size)
 have hl5:F.length + (fourL q).length≤140737488355328:=by
  have:F.length=4:=by rw [← HF.out];rfl
  rw [this]
  show 4 + 4≤_
  omega
 have HL6:=hid (show (F ++ fourL q).length + l.length≤140737488355328 by
  have h4:F.length=4:=by rw [← HF.out];rfl
  have:=HS.out
  rw [List.length_append,h4,fourL_length]
  omega)
 have HL6':=HL6
 rw [HL.out] at HL6'
 go_wp2_with (first
  | (at_builtin;refine wpList_append_byt rfl (.tmp 10) (.tmp 17) rfl rfl rfl ho10' ho17.byt hl5 hs17 ?_;intro v18 w18 hown18 hg18 hv18;have hB18:=hB17.grown hg18 hB17.size (fun k hk=>Nat.le_trans hs1 (World.ownsRow.lt ho10' k hk).1);have hs18:=Nat.le_trans hs17 hg18.size;clear hg18)
  | (at_builtin;refine wpList_append_byt rfl (.tmp 18) (.tmp 19) rfl rfl rfl hown18 (HV.out.below hB18) HL6.out hs18 ?_;intro v20 w20 hown20 hg20 hv20;have hB20:=hB18.grown hg20 hB18.size (fun k hk=>Nat.le_trans hs1 (World.ownsRow.lt hown18 k hk).1);clear hg20))
 go_ret
 refine ⟨v20,rfl,?_,hB20⟩
 unfold recS
 rw [HL.out,HF.out,HQ.out,← List.append_assoc]
 exact hown20.more hs1
end Go.Proofs.Ytfpgglclpkcdhaa
