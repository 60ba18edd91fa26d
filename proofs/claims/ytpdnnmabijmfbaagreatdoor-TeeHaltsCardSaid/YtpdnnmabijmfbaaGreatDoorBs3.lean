/-
  Str TxPure TxBack StrBytes TxKey TxMay TxRd TxArg TxOk TxRefBytes TxCodeKey: what each of them says stands at its head.
-/
import Derived.Laws.IdiomStrings
import Derived.Test.YtpdnnmabijmfbaaGreatDoorBs2
import Derived.Deep.DeepCutAuto
namespace Go.Proofs.YtpdnnmabijmfbaaGreatDoor
set_option maxRecDepth 20000
open Go.RowKit
def sb (l:List UInt8):ByteArray:=⟨l.toArray⟩
def bs (s:ByteArray):List UInt8:=s.data.toList
theorem sb_bs (s:ByteArray):sb (bs s)=s:=by unfold sb bs;rw [Array.toArray_toList]
theorem sb_size (l:List UInt8):(sb l).size=l.length:=by simp [sb,ByteArray.size]
theorem sb_get (l:List UInt8) (j:Nat) (hj:j < l.length):(sb l)[j]?=some (l.getD j 0):=by
 have hj2:j < (sb l).size:=by rw [sb_size];exact hj
 simp [hj2,List.getD_eq_getElem?_getD,hj]
 rfl
theorem sb_toList (l:List UInt8):(sb l).toList=l:=by rw [ByteArray.toList_eq];rfl
theorem sb_empty (l:List UInt8):(sb l).toList.isEmpty=decide (l=[]):=by
 rw [sb_toList]
 cases l <;> simp
theorem under_string:Tryz.prog.underlying 9=some .string:=by kernel_rfl
theorem str_index (l:List UInt8) (j:Nat) (hj:j < l.length) (i:Int) (hi:i=(j:Int)) {y:Int} (hy:((l.getD j 0).toNat:Int)=y) (w:World):(Instr.index 9 (.string (sb l)) (.int .i64 i)).run Tryz.prog w=.ok (.int .u8 y) w:=by
 subst hi hy
 have e2:0≤(j:Int):=by omega
 simp only [Instr.index,asIntOf,Sem.run_bind,run_underlying under_string,Sem.run_pure,Result.andThen_ok,e2,↓reduceIte,Int.toNat_natCast,sb_get l j hj]
end Go.Proofs.YtpdnnmabijmfbaaGreatDoor
namespace Go.Proofs.YtpdnnmabijmfbaaGreatDoor
set_option maxRecDepth 20000
def keyCh (c:UInt8):Bool:=(decide (97≤c.toNat) && decide (c.toNat≤122)) || (decide (48≤c.toNat) && decide (c.toNat≤57))
def keyOk (l:List UInt8):Bool:=l.all keyCh && (decide (1≤l.length) && decide (l.length≤16))
structure TxM where
 fr:Int
 no:Int
 ki:Int
 «to»:Int
 am:Int
 key:List UInt8
 val:List UInt8
 deriving DecidableEq
def txv (t:TxM):Go.Value:=.agg #[.int .i64 t.fr,.int .i64 t.no,.int .i64 t.ki,.int .i64 t.to,.int .i64 t.am,.string (sb t.key),.string (sb t.val)]
def txZ:TxM:=⟨0,0,0,0,0,[],[]⟩
def mayT (t:TxM):Bool:=
 if t.fr < 1∨40 < t.fr∨t.no < 1∨1099511627776 < t.no then false else
 if t.ki=1 then decide (1≤t.to) && decide (t.to≤40) && decide (0≤t.am) && decide (t.am≤1099511627776) && decide (t.key=[]) && decide (t.val=[]) else
 if t.ki=2 then decide (t.to=0) && decide (t.am=0) && keyOk t.key && decide (t.val.length≤200) else
 if t.ki=3 then decide (t.to=0) && decide (t.am=0) && keyOk t.key && decide (t.val=[]) else false
def bytesT (t:TxM):List UInt8:=
 dg t.fr.toNat ++ (dg t.no.toNat ++ (dg t.ki.toNat ++ (if t.ki=1 then dg t.to.toNat ++ dg t.am.toNat else if t.ki=2 then tx t.key ++ tx t.val else tx t.key)))
theorem rdUpto_at {L r:List UInt8} {p n:Nat} {m:Int} (h:L.drop p=dg n ++ r) (hm:(n:Int)≤m) (hn:n < 18446744073709551616):rdUpto m L p true=(n,p + (dg n).length,true):=by
 unfold rdUpto
 rw [if_neg (by omega),rdNum_yes (frst_eq hn ⟨r,h.symm⟩) (by omega)]
theorem rdUpto_so {L:List UInt8} {p n q:Nat} {r:Bool} {m:Int} (h:rdUpto m L p r=(n,q,true)):r=true∧n < 18446744073709551616∧(n:Int)≤m∧q=p + (dg n).length∧∃ x,L.drop p=dg n ++ x:=by
 unfold rdUpto at h
 split at h
 ·cases h
 ·cases r with
  | false=>rw [rdNum_bad] at h;cases h
  | true=>
   cases hf:frst (L.drop p) with
   | none=>rw [rdNum_no hf] at h;cases h
   | some k=>
    by_cases hk:k≤m.toNat
    ·rw [rdNum_yes hf hk] at h
     cases h
     obtain ⟨h1,x,hx⟩:=frst_some hf
     exact ⟨rfl,h1,by omega,rfl,x,hx.symm⟩
    ·rw [rdNum_big hf hk] at h;cases h
end Go.Proofs.YtpdnnmabijmfbaaGreatDoor
namespace Go.Proofs.YtpdnnmabijmfbaaGreatDoor
set_option maxRecDepth 20000
theorem mayT_iff {t:TxM} (h:mayT t=true):(1≤t.fr∧t.fr≤40)∧(1≤t.no∧t.no≤1099511627776)∧
  ((t.ki=1∧(1≤t.to∧t.to≤40)∧(0≤t.am∧t.am≤1099511627776)∧t.key=[]∧t.val=[])∨(t.ki=2∧t.to=0∧t.am=0∧keyOk t.key=true∧t.val.length≤200)∨(t.ki=3∧t.to=0∧t.am=0∧keyOk t.key=true∧t.val=[])):=by
 unfold mayT at h
 split at h
 ·cases h
 ·refine ⟨by omega,by omega,?_⟩
  split at h
  ·rename_i hk
   simp only [Bool.and_eq_true,decide_eq_true_eq] at h
   exact .inl ⟨hk,⟨h.1.1.1.1.1,h.1.1.1.1.2⟩,⟨h.1.1.1.2,h.1.1.2⟩,h.1.2,h.2⟩
  ·split at h
   ·rename_i hk
    simp only [Bool.and_eq_true,decide_eq_true_eq] at h
    exact .inr (.inl ⟨hk,h.1.1.1,h.1.1.2,h.1.2,h.2⟩)
   ·split at h
    ·rename_i hk
     simp only [Bool.and_eq_true,decide_eq_true_eq] at h
     exact .inr (.inr ⟨hk,h.1.1.1,h.1.1.2,h.1.2,h.2⟩)
    ·cases h
theorem keyOk_len {l:List UInt8} (h:keyOk l=true):1≤l.length∧l.length≤16:=by
 unfold keyOk at h
 simp only [Bool.and_eq_true,decide_eq_true_eq] at h
 exact h.2
theorem nat_of {i:Int} (h:0≤i):∃ n:Nat,i=(n:Int):=⟨i.toNat,by omega⟩
theorem bytesT_len {t:TxM} (h:mayT t=true):(bytesT t).length≤300:=by
 obtain ⟨h1,h2,h3⟩:=mayT_iff h
 have l1:=dg_len 0 t.fr.toNat (by omega)
 have l2:=dg_len10 (n:=t.no.toNat) (by omega)
 have l3:=dg_len 0 t.ki.toNat (by rcases h3 with h | h | h <;> rw [h.1] <;> decide)
 unfold bytesT
 rw [List.length_append,List.length_append,List.length_append]
 rcases h3 with ⟨hk,ha,hb,_⟩ | ⟨hk,_,_,hk1,hv⟩ | ⟨hk,_,_,hk1,_⟩
 ·have l4:=dg_len 0 t.to.toNat (by omega)
  have l5:=dg_len10 (n:=t.am.toNat) (by omega)
  rw [if_pos hk,List.length_append]
  omega
 ·have:=keyOk_len hk1
  have l4:=dg_len10 (n:=t.key.length) (by omega)
  have l5:=dg_len10 (n:=t.val.length) (by omega)
  rw [if_neg (by rw [hk];decide),if_pos hk,List.length_append,tx_len,tx_len]
  omega
 ·have:=keyOk_len hk1
  have l4:=dg_len10 (n:=t.key.length) (by omega)
  rw [if_neg (by rw [hk];decide),if_neg (by rw [hk];decide),tx_len]
  omega
theorem bytesT_one (a b d e:Nat) (x y:List UInt8):bytesT ⟨(a:Int),(b:Int),((1:Nat):Int),(d:Int),(e:Int),x,y⟩=dg a ++ (dg b ++ (dg 1 ++ (dg d ++ dg e))):=by
 unfold bytesT
 rw [if_pos (show ((1:Nat):Int)=1 from rfl)]
 simp only [Int.toNat_natCast]
theorem bytesT_two (a b:Nat) (d e:Int) (x y:List UInt8):bytesT ⟨(a:Int),(b:Int),((2:Nat):Int),d,e,x,y⟩=dg a ++ (dg b ++ (dg 2 ++ (tx x ++ tx y))):=by
 unfold bytesT
 rw [if_neg (show ¬ ((2:Nat):Int)=1 by omega),if_pos (show ((2:Nat):Int)=2 from rfl)]
 simp only [Int.toNat_natCast]
theorem bytesT_three (a b:Nat) (d e:Int) (x y:List UInt8):bytesT ⟨(a:Int),(b:Int),((3:Nat):Int),d,e,x,y⟩=dg a ++ (dg b ++ (dg 3 ++ tx x)):=by
 unfold bytesT
 rw [if_neg (show ¬ ((3:Nat):Int)=1 by omega),if_neg (show ¬ ((3:Nat):Int)=2 by omega)]
 simp only [Int.toNat_natCast]
end Go.Proofs.YtpdnnmabijmfbaaGreatDoor
namespace Go.Proofs.YtpdnnmabijmfbaaGreatDoor
set_option maxRecDepth 20000
open Go.RowKit
theorem al_le (w:World) (o:Obj):w.heap.size≤(w.alloc o).heap.size:=by simp
theorem fresh0_own (w:World):Own w.heap.size (w.alloc (.cells #[] 5)) (.slice (some ⟨w.heap.size,0,none⟩) 0 0) []:=World.ownsRow_made w #[] 0 (Nat.le_refl _) (Nat.zero_le _) rfl
theorem fresh0_below {w w2:World} (hg:(w.alloc (.cells #[] 5)).grownBy w2 (Value.slice (some ⟨w.heap.size,0,none⟩) 0 0).ownBlock):Below w.heap.size w w2:=
 ((Below.refl _ _).alloc (Nat.le_refl _) _).grown hg (by simp) (fun k hk=>(World.ownsRow.lt (fresh0_own w) k hk).1)
theorem run_bs (l:List UInt8) (w:World) (hl:l.length≤maxLen):∃ v w',(convert 9 33 (.string (sb l))).run Tryz.prog w=.ok v w'∧Byt w' v l∧Below w.heap.size w w':=by
 refine ⟨_,_,run_bytes_of_string w 9 33 5 (sb l) under_string under_bytes (by kernel_rfl),?_,((Below.refl _ _).drew).alloc (Nat.le_refl _) _⟩
 rw [sb_size]
 refine ⟨_,_,rfl,grownCap_ge _ _ _ _,grownCap_le_maxLen _ _ _ _ hl,fun h0=>⟨w.heap.size,0,rfl,by simp,fun j hj=>?_⟩⟩
 have hb:=heap_alloc_new w.drew (.cells (bytesRow (sb l) (grownCap w l.length 0 5)) 5 ((bytesRow (sb l) (grownCap w l.length 0 5)).size,(bytesRow (sb l) (grownCap w l.length 0 5)).size + 1))
 rw [Nat.zero_add]
 refine (cell_of_row _ _ _ _ _ _ hb).trans ?_
 unfold bytesRow
 rw [Array.getElem?_append_left (by simp [sb];exact hj)]
 simp [sb,hj,bcell]
end Go.Proofs.YtpdnnmabijmfbaaGreatDoor
namespace Go.Proofs.YtpdnnmabijmfbaaGreatDoor
set_option maxRecDepth 20000
open Go.RowKit
theorem keyB_cases (c:UInt8) (y:Int) (hy:((c.toNat:Nat):Int)=y):(keyCh c=true∧97≤y∧y≤122)∨(keyCh c=true∧¬ 97≤y∧48≤y∧y≤57)∨(keyCh c=false∧122 < y)∨(keyCh c=false∧¬ 97≤y∧57 < y)∨(keyCh c=false∧y < 48):=by
 subst hy
 unfold keyCh
 by_cases h1:97≤c.toNat
 ·by_cases h2:c.toNat≤122
  ·exact .inl ⟨by simp [h1,h2],by omega,by omega⟩
  ·exact .inr (.inr (.inl ⟨by simp [h2];omega,by omega⟩))
 ·by_cases h3:48≤c.toNat
  ·by_cases h4:c.toNat≤57
   ·exact .inr (.inl ⟨by simp [h3,h4],by omega,by omega,by omega⟩)
   ·exact .inr (.inr (.inr (.inl ⟨by simp [h1,h4],by omega,by omega⟩)))
  ·exact .inr (.inr (.inr (.inr ⟨by simp [h1,h3],by omega⟩)))
theorem keyOk_no {l:List UInt8} {j:Nat} (hj:j < l.length) (h:keyCh (l.getD j 0)=false):keyOk l=false:=by
 unfold keyOk
 have hm:l.getD j 0 ∈ l:=by rw [List.getD_eq_getElem?_getD,List.getElem?_eq_getElem hj];exact List.getElem_mem hj
 have:l.all keyCh=false:=by
  rw [Bool.eq_false_iff]
  intro ha
  rw [List.all_eq_true.1 ha _ hm] at h
  cases h
 rw [this,Bool.false_and]
theorem keyOk_yes {l:List UInt8} (h:∀ j,j < l.length→keyCh (l.getD j 0)=true):keyOk l=(decide (1≤l.length) && decide (l.length≤16)):=by
 unfold keyOk
 have:l.all keyCh=true:=by
  rw [List.all_eq_true]
  intro c hc
  obtain ⟨j,hj,rfl⟩:=List.getElem_of_mem hc
  have:=h j hj
  rwa [List.getD_eq_getElem?_getD,List.getElem?_eq_getElem hj] at this
 rw [this,Bool.true_and]
set_option maxHeartbeats 1600000 in
theorem refKey6_any (l:List UInt8) (w:World) (hs:l.length≤1000000):
  Calls Tryz.prog 197 #[.string (sb l)] w fun e w'=>e=.returned (.bool (keyOk l))∧w=w':=by
 have hsz:=sb_size l
 obtain ⟨L,HL⟩:∃ L:Nat,Hid (l.length=L):=⟨_,hid rfl⟩
 rw [HL.out] at hsz hs
 obtain ⟨s,HS⟩:∃ s:ByteArray,Hid (sb l=s):=⟨_,hid rfl⟩
 rw [HS.out] at hsz ⊢
 go_enter Tryz.func197,Tryz.ntmps197
 go_wp2_with fail
 go_loopw [3] (fun si wr=>∃ i:Nat,i≤L∧si=.int .i64 (i:Int)∧Hid (∀ j,j < i→keyCh (l.getD j 0)=true)∧Hid (w=wr)) (fun si _=>L - (intOf si).toNat)
 case atStart=>exact ⟨0,Nat.zero_le _,rfl,hid (fun j hj=>absurd hj (Nat.not_lt_zero _)),hid rfl⟩
 case round=>
  obtain ⟨i,hi,rfl,HD,HW⟩:=hrel
  obtain rfl:=HW.out
  clear HW
  by_cases hlt:i < L
  ·have hiL:(i:Int) < (L:Int):=by omega
   have hil:i < l.length:=by rw [HL.out];exact hlt
   obtain ⟨y,HY⟩:∃ y:Int,Hid (((l.getD i 0).toNat:Int)=y):=⟨_,hid rfl⟩
   have i0:∀ w:World,(Instr.index 9 (.string s) (.int .i64 (i:Int))).run Tryz.prog w=.ok (.int .u8 y) w:=fun w=>by
    rw [← HS.out]
    exact str_index l i hil _ rfl HY.out w
   have hr:0≤y∧y≤255:=by have:=byte_lt (l.getD i 0);rw [HY.out] at this;exact this
   have HNO:∀ (_:keyCh (l.getD i 0)=false),Hid (keyOk l=false):=fun h=>hid (keyOk_no hil h)
   have HYES:∀ (_:keyCh (l.getD i 0)=true),Hid (∀ j,j < i + 1→keyCh (l.getD j 0)=true):=fun h=>hid (fun j hj=>by
    rcases Nat.lt_or_ge j i with h2 | h2
    ·exact HD.out j h2
    ·obtain rfl:j=i:=by omega
     exact h)
   obtain ⟨hk,h1,h2⟩ | ⟨hk,h1,h2,h3⟩ | ⟨hk,h1⟩ | ⟨hk,h1,h2⟩ | ⟨hk,h1⟩:=keyB_cases (l.getD i 0) y HY.out
   ·have HY2:=HYES hk
    clear HNO HYES hk HD
    go_wp2_with fail
    go_roundw
    case rel=>exact ⟨i + 1,by omega,by go_num,HY2,(by first | exact hid rfl | exact hid trivial)⟩
    case measure=>simp [intOf];omega
   ·have HY2:=HYES hk
    clear HNO HYES hk HD
    go_wp2_with fail
    go_roundw
    case rel=>exact ⟨i + 1,by omega,by go_num,HY2,(by first | exact hid rfl | exact hid trivial)⟩
    case measure=>simp [intOf];omega
   ·have HN2:=HNO hk
    clear HNO HYES hk HD
    have h2:97≤y:=by omega
    have h3:48≤y:=by omega
    have h4:¬ y≤57:=by omega
    have h5:¬ y≤122:=by omega
    go_wp2_with fail
    go_ret
    exact ⟨by rw [HN2.out];rfl,rfl⟩
   ·have HN2:=HNO hk
    clear HNO HYES hk HD
    have h3:48≤y:=by omega
    have h4:¬ y≤57:=by omega
    go_wp2_with fail
    go_ret
    exact ⟨by rw [HN2.out];rfl,rfl⟩
   ·have HN2:=HNO hk
    clear HNO HYES hk HD
    have h2:¬ 97≤y:=by omega
    have h3:¬ 48≤y:=by omega
    go_wp2_with fail
    go_ret
    exact ⟨by rw [HN2.out];rfl,rfl⟩
  ·have hiL:¬ (i:Int) < (L:Int):=by omega
   obtain rfl:i=L:=by omega
   have HK:=hid (keyOk_yes (l:=l) (by rw [HL.out];exact HD.out))
   clear HD
   by_cases h1:1≤i
   ·have h1i:1≤(i:Int):=by omega
    by_cases h2:i≤16
    ·have h2i:(i:Int)≤16:=by omega
     go_wp2_with fail
     go_ret
     exact ⟨by rw [HK.out,HL.out,decide_eq_true h1,decide_eq_true h2];rfl,rfl⟩
    ·have h2i:¬ (i:Int)≤16:=by omega
     go_wp2_with fail
     go_ret
     exact ⟨by rw [HK.out,HL.out,decide_eq_true h1,decide_eq_false h2];rfl,rfl⟩
   ·have h1i:¬ 1≤(i:Int):=by omega
    go_wp2_with fail
    go_ret
    exact ⟨by rw [HK.out,HL.out,decide_eq_false h1];rfl,rfl⟩
end Go.Proofs.YtpdnnmabijmfbaaGreatDoor
namespace Go.Proofs.YtpdnnmabijmfbaaGreatDoor
set_option maxRecDepth 20000
open Go.RowKit
set_option maxHeartbeats 6400000 in
theorem refMay_any (t:TxM) (w:World) (hk:t.key.length≤1000000) (hv:t.val.length≤1000000):
    Calls Tryz.prog 167 #[txv t] w fun e w'=>e=.returned (.bool (mayT t))∧Below w.heap.size w w':=by
  obtain ⟨fr,no,ki,tu,am,key,val⟩:=t
  simp only at hk hv
  have HK:=hid hk
  have hvs:=sb_size val
  have hke:=sb_empty key
  have hve:=sb_empty val
  clear hk hv
  unfold txv
  simp only
  obtain ⟨s,HS⟩:∃ s:ByteArray,Hid (sb key=s):=⟨_,hid rfl⟩
  obtain ⟨u,HU⟩:∃ s:ByteArray,Hid (sb val=s):=⟨_,hid rfl⟩
  obtain ⟨n,HN⟩:∃ n:Nat,Hid (val.length=n):=⟨_,hid rfl⟩
  rw [HS.out] at hke ⊢
  rw [HU.out] at hve hvs ⊢
  rw [HN.out] at hvs
  obtain ⟨m,HM⟩:∃ m:Bool,Hid (mayT ⟨fr,no,ki,tu,am,key,val⟩=m):=⟨_,hid rfl⟩
  rw [HM.out]
  obtain ⟨ke,HKE⟩:∃ b:Bool,Hid (decide (key=[])=b):=⟨_,hid rfl⟩
  obtain ⟨ve,HVE⟩:∃ b:Bool,Hid (decide (val=[])=b):=⟨_,hid rfl⟩
  rw [HKE.out] at hke
  rw [HVE.out] at hve
  go_enter Tryz.func167,Tryz.ntmps167
  go_wp2_with fail
  all_goals first
    | (have C:=fun w=>refKey6_any key w HK.out
       rw [HS.out] at C
       refine (C _).mono ?_
       clear C
       rintro e w1 ⟨rfl,rfl⟩
       obtain ⟨ko,HKO⟩:∃ b:Bool,Hid (keyOk key=b):=⟨_,hid rfl⟩
       rw [HKO.out]
       have hko:=HKO.out
       go_wp2_with fail)
    | skip
  all_goals
    go_ret
    refine ⟨?_,(Below.refl _ _).alloc (Nat.le_refl _) _⟩
    refine congrArg (fun b=>Ending.returned (Value.bool b)) ?_
    rw [← HM.out]
    clear HM HS HU HK
    unfold mayT
    simp only [HKE.out,HVE.out,HN.out]
  all_goals grind
end Go.Proofs.YtpdnnmabijmfbaaGreatDoor
namespace Go.Proofs.YtpdnnmabijmfbaaGreatDoor
set_option maxRecDepth 20000
open Go.RowKit
theorem blk_other {w:World} {g b i:Nat} {o:Obj} (h:w.heap[g]?=some o) (u:Value) (hne:g≠b):(w.setCell ⟨b,i,none⟩ u).heap[g]?=some o:=by
 rw [Below.heap_setCell w _ u g (fun e=>hne e)]
 exact h
theorem rdNum_pl {m:Nat} {l:List UInt8} {p:Nat} {r:Bool} (hp:p≤l.length):(rdNum m l p r).2.1≤l.length:=by
 cases r with
 | false=>rw [rdNum_bad];exact hp
 | true=>
  cases hf:frst (l.drop p) with
  | none=>rw [rdNum_no hf];exact hp
  | some k=>
   by_cases hk:k≤m
   ·rw [rdNum_yes hf hk]
    obtain ⟨_,x,hx⟩:=frst_some hf
    have:=drop_len hx.symm (dg_pos k)
    simp only
    omega
   ·rw [rdNum_big hf hk];exact hp
theorem rdUpto_pl {m:Int} {l:List UInt8} {p:Nat} {r:Bool} (hp:p≤l.length):(rdUpto m l p r).2.1≤l.length:=by
 unfold rdUpto
 split
 ·exact hp
 ·exact rdNum_pl hp
theorem rdUpto_le {m:Nat} {l:List UInt8} {p:Nat} {r:Bool}:(rdUpto (m:Int) l p r).1≤m:=by
 unfold rdUpto
 split
 ·exact Nat.zero_le _
 ·exact rdNum_le
end Go.Proofs.YtpdnnmabijmfbaaGreatDoor
namespace Go.Proofs.YtpdnnmabijmfbaaGreatDoor
set_option maxRecDepth 20000
open Go.ChangeShapes Go.WideShapes Go.ChangeAt Go.RowKit
theorem fields_tx:∃ f0 f1 f2 f3 f4 f5 f6:Field,Tryz.prog.underlying 170=some (.struct #[f0,f1,f2,f3,f4,f5,f6])∧(f0.type,f0.offset)=(3,0)∧(f1.type,f1.offset)=(3,1)∧(f2.type,f2.offset)=(3,2)
  ∧ (f3.type,f3.offset)=(3,3)∧(f4.type,f4.offset)=(3,4)∧(f5.type,f5.offset)=(9,5)∧(f6.type,f6.offset)=(9,6):=
 ⟨_,_,_,_,_,_,_,Tryz.underlying170,rfl,rfl,rfl,rfl,rfl,rfl,rfl⟩
theorem cell_of_part {cs:List Value} {o:Nat} {v:Value} (e:(cs.drop o).take 1=[v]):cs[o]?=some v:=by
 have h1:=congrArg (fun l=>l[0]?) e
 simp only [List.getElem?_take_of_lt (show 0 < 1 by omega),List.getElem?_drop,Nat.add_zero] at h1
 exact h1
theorem trod_tx {H:Type} {enc:TypeId × Value→H} {w:World} {base:Nat} {spare:Nat→Bool} {held:Bool} {fuel:Nat} {cs:List Value} {x:DataW H × List MemPlace}
  (h:DataW.trod enc Tryz.prog w base spare held fuel 170 cs=some x):∃ t:TxM,(t.key.length≤maxLen∧t.val.length≤maxLen)∧cs=(#[.int .i64 t.fr,.int .i64 t.no,.int .i64 t.ki,.int .i64 t.to,.int .i64 t.am,.string (sb t.key),.string (sb t.val)]:Array Value).toList:=by
 obtain ⟨f0,f1,f2,f3,f4,f5,f6,hu,e0,e1,e2,e3,e4,e5,e6⟩:=fields_tx
 injection e0 with t0 o0
 injection e1 with t1 o1
 injection e2 with t2 o2
 injection e3 with t3 o3
 injection e4 with t4 o4
 injection e5 with t5 o5
 injection e6 with t6 o6
 obtain ⟨xs,m,_,_,hlen,hxl,hf⟩:=DataW.trod_struct hu h
 have hc:Tryz.prog.cellsOf 170=7:=by kernel_rfl
 have hci:Tryz.prog.cellsOf 3=1:=by kernel_rfl
 have hcs:Tryz.prog.cellsOf 9=1:=by kernel_rfl
 rw [hc] at hlen
 have hx:xs.length=7:=hxl
 have g0:=hf 0 f0 rfl
 have g1:=hf 1 f1 rfl
 have g2:=hf 2 f2 rfl
 have g3:=hf 3 f3 rfl
 have g4:=hf 4 f4 rfl
 have g5:=hf 5 f5 rfl
 have g6:=hf 6 f6 rfl
 rw [t0,o0,hci,List.getElem?_eq_getElem (by omega)] at g0
 rw [t1,o1,hci,List.getElem?_eq_getElem (by omega)] at g1
 rw [t2,o2,hci,List.getElem?_eq_getElem (by omega)] at g2
 rw [t3,o3,hci,List.getElem?_eq_getElem (by omega)] at g3
 rw [t4,o4,hci,List.getElem?_eq_getElem (by omega)] at g4
 rw [t5,o5,hcs,List.getElem?_eq_getElem (by omega)] at g5
 rw [t6,o6,hcs,List.getElem?_eq_getElem (by omega)] at g6
 obtain ⟨n0,c0,_,_⟩:=DataW.trod_int Tryz.underlying3 g0
 obtain ⟨n1,c1,_,_⟩:=DataW.trod_int Tryz.underlying3 g1
 obtain ⟨n2,c2,_,_⟩:=DataW.trod_int Tryz.underlying3 g2
 obtain ⟨n3,c3,_,_⟩:=DataW.trod_int Tryz.underlying3 g3
 obtain ⟨n4,c4,_,_⟩:=DataW.trod_int Tryz.underlying3 g4
 obtain ⟨s5,c5,_,h5⟩:=DataW.trod_string Tryz.underlying9 g5
 obtain ⟨s6,c6,_,h6⟩:=DataW.trod_string Tryz.underlying9 g6
 refine ⟨⟨n0,n1,n2,n3,n4,bs s5,bs s6⟩,⟨by simpa [bs] using h5,by simpa [bs] using h6⟩,?_⟩
 have d0:=cell_of_part c0
 have d1:=cell_of_part c1
 have d2:=cell_of_part c2
 have d3:=cell_of_part c3
 have d4:=cell_of_part c4
 have d5:=cell_of_part c5
 have d6:=cell_of_part c6
 rw [sb_bs,sb_bs]
 apply List.ext_getElem?
 intro i
 match i with
 | 0=>exact d0
 | 1=>exact d1
 | 2=>exact d2
 | 3=>exact d3
 | 4=>exact d4
 | 5=>exact d5
 | 6=>exact d6
 | i + 7=>rw [List.getElem?_eq_none (by omega)];rfl
end Go.Proofs.YtpdnnmabijmfbaaGreatDoor
namespace Go.Proofs.YtpdnnmabijmfbaaGreatDoor
set_option maxRecDepth 20000
open Go.RowKit
noncomputable def loadTx (v : Value) (w : World) : Result Next := Sem.run Tryz.prog (execOp (fun _ => v) { dst := none, op := .load 170 (.tmp 0), type := 0, pos := "", after := #[], guard := none }) w
theorem exec_load_tx (r:Operand→Value) (x:Operand) (dst:Option Tmp) (ty:TypeId) (pos:String) (after:Array Edge) (guard:Option (Nat × Bool)) (w:World):
  Sem.run Tryz.prog (execOp r { dst:=dst,op:=.load 170 x,type:=ty,pos:=pos,after:=after,guard:=guard }) w=loadTx (r x) w:=rfl
theorem under_txs:Tryz.prog.underlying 170=some (.struct (Tryz.prog.fieldsOf 170)):=by kernel_rfl
theorem loadTx_eq {w:World} {b:Nat} {C:Array Value} {T:TypeId} (h:w.heap[b]?=some (.cells C T (0,0))) (hs:C.size=7):loadTx (.pointer (some ⟨b,0,none⟩)) w=.ok (.value (.agg C)) w:=by
 have:=run_loadAt_mid (P:=Tryz.prog) w b 0 170 C.toList _ (fun j v hj=>by rw [Nat.zero_add,cell_blk h j];simpa using hj) under_txs rfl (by rw [show (Tryz.prog.info? 170).map (·.size)=some 7 from by kernel_rfl];simp [hs])
 simp only [Array.toArray_toList] at this
 unfold loadTx execOp
 simp only [Sem.run_bind,this,Result.andThen_ok,Sem.run_pure]
def lightT (t:TxM):Prop:=t.key.length≤70000∧t.val.length≤70000
def putT (l:List UInt8) (t:TxM):List UInt8:=if mayT t=true then l ++ bytesT t else l
def TxPutOk:Prop:=∀ (v:Value) (l:List UInt8) (t:TxM) (w:World),Byt w v l→l.length≤1000000→lightT t→
 Calls Tryz.prog 196 #[v,txv t] w fun e w'=>∃ x,e=.returned x∧Byt w' x (putT l t)∧Below w.heap.size w w'
end Go.Proofs.YtpdnnmabijmfbaaGreatDoor
namespace Go.Proofs.YtpdnnmabijmfbaaGreatDoor
set_option maxRecDepth 20000
open Go.RowKit
set_option maxHeartbeats 6400000 in
theorem refBytes_any (t:TxM) (w:World) (hm:mayT t=true):
  Calls Tryz.prog 200 #[txv t] w fun e w'=>∃ x,e=.returned x∧Own w.heap.size w' x (bytesT t)∧Below w.heap.size w w':=by
 obtain ⟨h1,h2,h3⟩:=mayT_iff hm
 obtain ⟨fr,no,ki,tu,am,key,val⟩:=t
 simp only at h1 h2 h3
 obtain ⟨a,rfl⟩:=nat_of (i:=fr) (by omega)
 obtain ⟨b,rfl⟩:=nat_of (i:=no) (by omega)
 obtain ⟨c,rfl⟩:=nat_of (i:=ki) (by omega)
 have hc:c < 128:=by omega
 unfold txv
 simp only
 have ha1:IntKind.u64.wrap (a:Int)=(a:Int):=wrap_u64 _ (by omega) (by omega)
 have hb1:IntKind.u64.wrap (b:Int)=(b:Int):=wrap_u64 _ (by omega) (by omega)
 have hc1:IntKind.u8.wrap (c:Int)=(c:Int):=by rw [IntKind.wrap_u8'];omega
 have HNA:=hid (fun w=>refnum_any (a:Int) w (by omega) (by omega))
 have HNB:=hid (fun w=>refnum_any (b:Int) w (by omega) (by omega))
 have hrow:=fun (C:Array Value)=>heap_alloc_new w (.cells C 170)
 have hnew:=fun (C:Array Value)=>(Below.refl w.heap.size w).alloc (Nat.le_refl _) (.cells C 170)
 have HLA:=hid (dg_len10 (n:=a) (by omega))
 have HLB:=hid (dg_len10 (n:=b) (by omega))
 have HDC:Hid (dg c=[UInt8.ofNat c]):=hid (dg_small hc)
 have HY:Hid ((c:Int)=((UInt8.ofNat c).toNat:Int)):=hid (by rw [UInt8.toNat_ofNat'];omega)
 obtain ⟨s,HS⟩:∃ s:ByteArray,Hid (sb key=s):=⟨_,hid rfl⟩
 obtain ⟨u,HU⟩:∃ s:ByteArray,Hid (sb val=s):=⟨_,hid rfl⟩
 rw [HS.out,HU.out]
 have hr0:=hrow #[.int .i64 (a:Int),.int .i64 (b:Int),.int .i64 (c:Int),.int .i64 tu,.int .i64 am,.string s,.string u]
 have hn0:=hnew #[.int .i64 (a:Int),.int .i64 (b:Int),.int .i64 (c:Int),.int .i64 tu,.int .i64 am,.string s,.string u]
 clear hrow hnew
 have H3:=hid h3
 clear h1 h2 h3
 go_enter Tryz.func200,Tryz.ntmps200
 go_wp2_with fail
 have hsz0:(w.alloc (.cells #[.int .i64 (a:Int),.int .i64 (b:Int),.int .i64 (c:Int),.int .i64 tu,.int .i64 am,.string s,.string u] 170)).heap.size=w.heap.size + 1:=by simp
 generalize (w.alloc (.cells #[.int .i64 (a:Int),.int .i64 (b:Int),.int .i64 (c:Int),.int .i64 tu,.int .i64 am,.string s,.string u] 170))=w0 at *
 have hl0:=lt_of_block hr0
 have HC:Hid (∀ W:World,Below w0.heap.size w0 W→∀ i,W.cell? ⟨w.heap.size,i,none⟩=#[Value.int .i64 (a:Int),.int .i64 (b:Int),.int .i64 (c:Int),.int .i64 tu,.int .i64 am,.string s,.string u][i]?):=hid (fun W h i=>cell_blk ((h.block _ hl0).trans hr0) i)
 have hbd:Below w0.heap.size w0 w0.drew:=(Below.refl _ _).drew
 clear hr0 hl0
 go_region_held3 (fun W=>W.cell? ⟨w.heap.size,0,none⟩=some (.int .i64 (a:Int))∧W.cell? ⟨w.heap.size,1,none⟩=some (.int .i64 (b:Int)))
  (first
   | (refine ⟨HC.out _ hbd 0,HC.out _ hbd 1⟩)
   | (refine ⟨HC.out _ hb5 0,HC.out _ hb5 1⟩)
   | (refine ⟨HC.out _ hb4 0,HC.out _ hb4 1⟩)
   | (refine ⟨HC.out _ hb3 0,HC.out _ hb3 1⟩)
   | fail)
  (first
   | (refine step_append_byt (by rfl) (.tmp 7) (.tmp 11) (by rfl) (by rfl) (by rfl) (ho3.below hb4') ho4.byt (by have:=HLA.out;have:=HLB.out;rw [Int.toNat_natCast,Int.toNat_natCast];omega) hb4.size ?_;intro v5 w5 ho5 hg5 _;have hb5:=hb4.grown hg5 hb4.size (fun q hq=>(World.ownsRow.lt ho3 q hq).1);clear hg5)
   | (go_at_call 139;refine (HNB.out w3).mono ?_;rintro e w4 ⟨v4,rfl,ho4,hb4'⟩;have hb4:=hb3.trans (hb4'.mono hb3.size))
   | (go_at_call 139;refine (HNA.out w0.drew).mono ?_;rintro e w3 ⟨v3,rfl,ho3,hb3'⟩;have hb3:=hbd.trans hb3')
   | fail)
 rw [Int.toNat_natCast] at ho3 ho4
 have HL5:=hid (show (dg a ++ dg b).length≤20 by rw [List.length_append];have:=HLA.out;have:=HLB.out;omega)
 have ho5':Own w0.heap.size w5 v5 (dg a ++ dg b):=ho5
 clear ho3 ho4 ho5 hb3 hb4 hb3' hb4' HNA HNB ha1 hb1
 have c2:=HC.out w5 hb5 2
 have c3:=HC.out w5 hb5 3
 have c4:=HC.out w5 hb5 4
 have c5:=HC.out w5 hb5 5
 have c6:=HC.out w5 hb5 6
 simp at c2 c3 c4 c5 c6
 obtain ⟨P,HP⟩:∃ P:List UInt8,Hid (dg a ++ (dg b ++ dg c)=P):=⟨_,hid rfl⟩
 have HPL:Hid (P.length≤21):=hid (by rw [← HP.out,HDC.out,← List.append_assoc,List.length_append];have:=HL5.out;simp only [List.length_singleton];omega)
 have hby:=byt_one w5 (c:Int) (UInt8.ofNat c) HY.out
 have hl6:(dg a ++ dg b).length + [UInt8.ofNat c].length≤140737488355328:=by have:=HL5.out;simp only [List.length_singleton];omega
 have hs5:=hb5.size
 have HB5:=hid hby
 clear hby
 have HW:Hid (w0.heap.size=w.heap.size + 1):=hid hsz0
 clear hsz0
 obtain ⟨hk,hto,ham,rfl,rfl⟩ | ⟨hk,rfl,rfl,hky,hvl⟩ | ⟨hk,rfl,rfl,hky,rfl⟩:=H3.out
 ·obtain ⟨d,rfl⟩:=nat_of (i:=tu) (by omega)
  obtain ⟨f,rfl⟩:=nat_of (i:=am) (by omega)
  obtain rfl:c=1:=by omega
  have hd1:IntKind.u64.wrap (d:Int)=(d:Int):=wrap_u64 _ (by omega) (by omega)
  have hf1:IntKind.u64.wrap (f:Int)=(f:Int):=wrap_u64 _ (by omega) (by omega)
  have HND:=hid (fun w=>refnum_any (d:Int) w (by omega) (by omega))
  have HNF:=hid (fun w=>refnum_any (f:Int) w (by omega) (by omega))
  have HLD:=hid (dg_len10 (n:=d) (by omega))
  have HLF:=hid (dg_len10 (n:=f) (by omega))
  clear hk hto ham
  go_upto_region 2 with (fail)
  go_wp2_with (first
   | (at_builtin;refine wpList_append_byt rfl (.tmp 13) (.tmp 17) rfl rfl rfl (ho5'.alloc _) HB5.out hl6 (Nat.le_trans hs5 (al_le w5 _)) ?_;intro v6 w6 ho6 hg6 hv6;have hb6:=(hb5.alloc hs5 _).grown hg6 (Nat.le_trans hs5 (al_le w5 _)) (fun q hq=>(World.ownsRow.lt ho5' q hq).1);have d2:=HC.out w6 hb6 2;simp at d2;clear hg6 hv6))
  have ho6':Own w0.heap.size w6 v6 P:=by rw [← HP.out,HDC.out,← List.append_assoc];exact ho6
  clear ho6 c2 c3 c4 c5 c6 ho5' hb5 HB5 hs5
  have hbd6:Below w0.heap.size w0 w6.drew:=hb6.drew
  have ho6d:Own w0.heap.size w6.drew v6 P:=ho6'
  go_region_held3 (fun W=>W.cell? ⟨w.heap.size,3,none⟩=some (.int .i64 (d:Int))∧W.cell? ⟨w.heap.size,4,none⟩=some (.int .i64 (f:Int)))
   (first
    | (refine ⟨HC.out _ hbd6 3,HC.out _ hbd6 4⟩)
    | (refine ⟨HC.out _ hb10 3,HC.out _ hb10 4⟩)
    | (refine ⟨HC.out _ hb9 3,HC.out _ hb9 4⟩)
    | (refine ⟨HC.out _ hb8 3,HC.out _ hb8 4⟩)
    | (refine ⟨HC.out _ hb7 3,HC.out _ hb7 4⟩)
    | fail)
   (first
    | (refine step_append_byt (by rfl) (.tmp 27) (.tmp 31) (by rfl) (by rfl) (by rfl) (ho8.below hb9') ho9.byt (by have:=HLD.out;have:=HLF.out;have:=HPL.out;rw [List.length_append,Int.toNat_natCast,Int.toNat_natCast];omega) hb9.size ?_;intro v10 w10 ho10 hg10 _;have hb10:=hb9.grown hg10 hb9.size (fun q hq=>(World.ownsRow.lt ho8 q hq).1);clear hg10)
    | (go_at_call 139;refine (HNF.out w8).mono ?_;rintro e w9 ⟨v9,rfl,ho9,hb9'⟩;have hb9:=hb8.trans (hb9'.mono hb8.size))
    | (refine step_append_byt (by rfl) (.tmp 22) (.tmp 26) (by rfl) (by rfl) (by rfl) (ho6d.below hb7') ho7.byt (by have:=HLD.out;have:=HPL.out;rw [Int.toNat_natCast];omega) hb7.size ?_;intro v8 w8 ho8 hg8 _;have hb8:=hb7.grown hg8 hb7.size (fun q hq=>(World.ownsRow.lt ho6' q hq).1);clear hg8)
    | (go_at_call 139;refine (HND.out w6.drew).mono ?_;rintro e w7 ⟨v7,rfl,ho7,hb7'⟩;have hb7:=hbd6.trans (hb7'.mono hbd6.size))
    | fail)
  all_goals
   go_wp2_with fail
   go_ret
   refine ⟨v10,rfl,?_,hn0.trans (hb10.mono hn0.size)⟩
   rw [bytesT_one]
   rw [← HP.out] at ho10
   simp only [Int.toNat_natCast,List.append_assoc] at ho10
   exact ho10.more (by have:=HW.out;omega)
 ·have HKM:=hid (show key.length≤maxLen by have:=keyOk_len hky;unfold maxLen;omega)
  have HVM:=hid (show val.length≤maxLen by unfold maxLen;omega)
  have HKL:=hid (show key.length≤16 by have:=keyOk_len hky;omega)
  have HVL:=hid hvl
  obtain rfl:c=2:=by omega
  clear hk hky hvl
  go_upto_region 2 with (fail)
  go_wp2_with (first
   | (at_builtin;refine wpList_append_byt rfl (.tmp 13) (.tmp 17) rfl rfl rfl (ho5'.alloc _) HB5.out hl6 (Nat.le_trans hs5 (al_le w5 _)) ?_;intro v6 w6 ho6 hg6 hv6;have hb6:=(hb5.alloc hs5 _).grown hg6 (Nat.le_trans hs5 (al_le w5 _)) (fun q hq=>(World.ownsRow.lt ho5' q hq).1);have d2:=HC.out w6 hb6 2;have d5:=HC.out w6 hb6 5;simp at d2 d5;obtain ⟨v7,w7,hcv7,hby7,hb7'⟩:=run_bs key w6 HKM.out;rw [HS.out] at hcv7;clear hg6 hv6))
  have ho6':Own w0.heap.size w6 v6 P:=by rw [← HP.out,HDC.out,← List.append_assoc];exact ho6
  clear ho6 c2 c3 c4 c5 c6 ho5' hb5 HB5 hs5
  refine (reftext_any v7 key w7 hby7 (by have:=HKL.out;omega)).mono ?_
  rintro e w8 ⟨v8,rfl,ho8,hb8'⟩
  have hb7:=hb6.trans (hb7'.mono hb6.size)
  have hb8:=hb7.trans (hb8'.mono hb7.size)
  have ho68:Own w0.heap.size w8 v6 P:=(ho6'.below hb7').below hb8'
  have hl9:P.length + (tx key).length≤140737488355328:=by
   have:=HKL.out
   have:=dg_len10 (n:=key.length) (by omega)
   have:=HPL.out
   rw [tx_len]
   omega
  clear hcv7 hby7 d2 d5 ho6'
  go_wp2_with (at_builtin;refine wpList_append_byt rfl (.tmp 33) (.tmp 37) rfl rfl rfl ho68 ho8.byt hl9 hb8.size ?_;intro v9 w9 ho9 hg9 hv9;have hb9:=hb8.grown hg9 hb8.size (fun q hq=>(World.ownsRow.lt ho68 q hq).1);have e2:=HC.out w9 hb9 2;have e6:=HC.out w9 hb9 6;simp at e2 e6;clear hg9 hv9;obtain ⟨v10,w10,hcv10,hby10,hb10'⟩:=run_bs val w9 HVM.out;rw [HU.out] at hcv10)
  refine (reftext_any v10 val w10 hby10 (by have:=HVL.out;omega)).mono ?_
  rintro e w11 ⟨v11,rfl,ho11,hb11'⟩
  have hb10:=hb9.trans (hb10'.mono hb9.size)
  have hb11:=hb10.trans (hb11'.mono hb10.size)
  have ho911:Own w0.heap.size w11 v9 (P ++ tx key):=(ho9.below hb10').below hb11'
  have hl12:(P ++ tx key).length + (tx val).length≤140737488355328:=by
   have:=HKL.out
   have:=HVL.out
   have:=dg_len10 (n:=key.length) (by omega)
   have:=dg_len10 (n:=val.length) (by omega)
   have:=HPL.out
   rw [List.length_append,tx_len,tx_len]
   omega
  clear hcv10 hby10 e2 e6
  go_wp2_with (at_builtin;refine wpList_append_byt rfl (.tmp 42) (.tmp 46) rfl rfl rfl ho911 ho11.byt hl12 hb11.size ?_;intro v12 w12 ho12 hg12 hv12;have hb12:=hb11.grown hg12 hb11.size (fun q hq=>(World.ownsRow.lt ho911 q hq).1);clear hg12 hv12)
  go_ret
  refine ⟨v12,rfl,?_,hn0.trans (hb12.mono hn0.size)⟩
  rw [bytesT_two]
  rw [← HP.out] at ho12
  simp only [List.append_assoc] at ho12
  exact ho12.more (by have:=HW.out;omega)
 ·have HKM:=hid (show key.length≤maxLen by have:=keyOk_len hky;unfold maxLen;omega)
  have HKL:=hid (show key.length≤16 by have:=keyOk_len hky;omega)
  obtain rfl:c=3:=by omega
  clear hk hky
  go_upto_region 2 with (fail)
  go_wp2_with (first
   | (at_builtin;refine wpList_append_byt rfl (.tmp 13) (.tmp 17) rfl rfl rfl (ho5'.alloc _) HB5.out hl6 (Nat.le_trans hs5 (al_le w5 _)) ?_;intro v6 w6 ho6 hg6 hv6;have hb6:=(hb5.alloc hs5 _).grown hg6 (Nat.le_trans hs5 (al_le w5 _)) (fun q hq=>(World.ownsRow.lt ho5' q hq).1);have d2:=HC.out w6 hb6 2;have d5:=HC.out w6 hb6 5;simp at d2 d5;obtain ⟨v7,w7,hcv7,hby7,hb7'⟩:=run_bs key w6 HKM.out;rw [HS.out] at hcv7;clear hg6 hv6))
  have ho6':Own w0.heap.size w6 v6 P:=by rw [← HP.out,HDC.out,← List.append_assoc];exact ho6
  clear ho6 c2 c3 c4 c5 c6 ho5' hb5 HB5 hs5
  refine (reftext_any v7 key w7 hby7 (by have:=HKL.out;omega)).mono ?_
  rintro e w8 ⟨v8,rfl,ho8,hb8'⟩
  have hb7:=hb6.trans (hb7'.mono hb6.size)
  have hb8:=hb7.trans (hb8'.mono hb7.size)
  have ho68:Own w0.heap.size w8 v6 P:=(ho6'.below hb7').below hb8'
  have hl9:P.length + (tx key).length≤140737488355328:=by
   have:=HKL.out
   have:=dg_len10 (n:=key.length) (by omega)
   have:=HPL.out
   rw [tx_len]
   omega
  clear hcv7 hby7 d2 d5 ho6'
  go_wp2_with (at_builtin;refine wpList_append_byt rfl (.tmp 33) (.tmp 37) rfl rfl rfl ho68 ho8.byt hl9 hb8.size ?_;intro v9 w9 ho9 hg9 hv9;have hb9:=hb8.grown hg9 hb8.size (fun q hq=>(World.ownsRow.lt ho68 q hq).1);have e2:=HC.out w9 hb9 2;have e6:=HC.out w9 hb9 6;simp at e2 e6;clear hg9 hv9)
  go_ret
  refine ⟨v9,rfl,?_,hn0.trans (hb9.mono hn0.size)⟩
  rw [bytesT_three]
  rw [← HP.out] at ho9
  simp only [List.append_assoc] at ho9
  exact ho9.more (by have:=HW.out;omega)
end Go.Proofs.YtpdnnmabijmfbaaGreatDoor
namespace Go.Proofs.YtpdnnmabijmfbaaGreatDoor
set_option maxRecDepth 20000
open Go.RowKit
theorem account_any (n:Int) (w:World):Calls Tryz.prog 224 #[.int .i64 n] w fun e w'=>e=.returned (.bool (decide (1≤n) && decide (n≤40)))∧w=w':=by
 go_enter Tryz.func224,Tryz.ntmps224
 go_wp2_with fail
 all_goals
  go_ret
  refine ⟨congrArg (fun b=>Ending.returned (Value.bool b)) ?_,rfl⟩
 all_goals grind
set_option maxHeartbeats 1600000 in
theorem keyText_any (l:List UInt8) (w:World) (hs:l.length≤1000000):
  Calls Tryz.prog 233 #[.string (sb l)] w fun e w'=>e=.returned (.bool (keyOk l))∧w=w':=by
 have hsz:=sb_size l
 obtain ⟨L,HL⟩:∃ L:Nat,Hid (l.length=L):=⟨_,hid rfl⟩
 rw [HL.out] at hsz hs
 obtain ⟨s,HS⟩:∃ s:ByteArray,Hid (sb l=s):=⟨_,hid rfl⟩
 rw [HS.out] at hsz ⊢
 by_cases h1:1≤L
 ·by_cases h2:L≤16
  ·have h1i:¬ (L:Int) < 1:=by omega
   have h2i:¬ (16:Int) < (L:Int):=by omega
   go_enter Tryz.func233,Tryz.ntmps233
   go_wp2_with fail
   go_loop [15,3,4] (fun si _ _=>∃ i:Nat,i≤L∧si=.int .i64 (i:Int)∧Hid (∀ j,j < i→keyCh (l.getD j 0)=true)) (fun si _ _=>L - (intOf si).toNat)
   case atStart=>exact ⟨0,Nat.zero_le _,rfl,hid (fun j hj=>absurd hj (Nat.not_lt_zero _))⟩
   case round=>
    obtain ⟨i,hi,rfl,HD⟩:=hrel
    by_cases hlt:i < L
    ·have hiL:(i:Int) < (L:Int):=by omega
     have hil:i < l.length:=by rw [HL.out];exact hlt
     obtain ⟨y,HY⟩:∃ y:Int,Hid (((l.getD i 0).toNat:Int)=y):=⟨_,hid rfl⟩
     have i0:∀ w:World,(Instr.index 9 (.string s) (.int .i64 (i:Int))).run Tryz.prog w=.ok (.int .u8 y) w:=fun w=>by
      rw [← HS.out]
      exact str_index l i hil _ rfl HY.out w
     have hr:0≤y∧y≤255:=by have:=byte_lt (l.getD i 0);rw [HY.out] at this;exact this
     have HNO:∀ (_:keyCh (l.getD i 0)=false),Hid (keyOk l=false):=fun h=>hid (keyOk_no hil h)
     have HYES:∀ (_:keyCh (l.getD i 0)=true),Hid (∀ j,j < i + 1→keyCh (l.getD j 0)=true):=fun h=>hid (fun j hj=>by
      rcases Nat.lt_or_ge j i with h2 | h2
      ·exact HD.out j h2
      ·obtain rfl:j=i:=by omega
       exact h)
     obtain ⟨hk,g1,g2⟩ | ⟨hk,g1,g2,g3⟩ | ⟨hk,g1⟩ | ⟨hk,g1,g2⟩ | ⟨hk,g1⟩:=keyB_cases (l.getD i 0) y HY.out
     ·have HY2:=HYES hk
      have k1:¬ y < 97:=by omega
      have k2:¬ 122 < y:=by omega
      clear HNO HYES hk HD
      go_wp2_with fail
      go_round
      case rel=>exact ⟨i + 1,by omega,by go_num,HY2⟩
      case measure=>simp [intOf];omega
     ·have HY2:=HYES hk
      have k1:y < 97:=by omega
      have k3:¬ y < 48:=by omega
      have k4:¬ 57 < y:=by omega
      clear HNO HYES hk HD
      go_wp2_with fail
      go_round
      case rel=>exact ⟨i + 1,by omega,by go_num,HY2⟩
      case measure=>simp [intOf];omega
     ·have HN2:=HNO hk
      clear HNO HYES hk HD
      have k1:¬ y < 97:=by omega
      have k2:122 < y:=by omega
      have k3:¬ y < 48:=by omega
      have k4:57 < y:=by omega
      go_wp2_with fail
      go_ret
      exact ⟨by rw [HN2.out];rfl,rfl⟩
     ·have HN2:=HNO hk
      clear HNO HYES hk HD
      have k1:y < 97:=by omega
      have k3:¬ y < 48:=by omega
      go_wp2_with fail
      go_ret
      exact ⟨by rw [HN2.out];rfl,rfl⟩
     ·have HN2:=HNO hk
      clear HNO HYES hk HD
      have k1:y < 97:=by omega
      go_wp2_with fail
      go_ret
      exact ⟨by rw [HN2.out];rfl,rfl⟩
    ·have hiL:¬ (i:Int) < (L:Int):=by omega
     obtain rfl:i=L:=by omega
     have HK:=hid (keyOk_yes (l:=l) (by rw [HL.out];exact HD.out))
     clear HD
     go_wp2_with fail
     go_ret
     exact ⟨by rw [HK.out,HL.out,decide_eq_true h1,decide_eq_true h2];rfl,rfl⟩
  ·have h1i:¬ (L:Int) < 1:=by omega
   have h2i:(16:Int) < (L:Int):=by omega
   have HN:Hid (keyOk l=false):=hid (by unfold keyOk;rw [HL.out,decide_eq_false h2,Bool.and_false,Bool.and_false])
   go_enter Tryz.func233,Tryz.ntmps233
   go_wp2_with fail
   go_ret
   exact ⟨by rw [HN.out];rfl,rfl⟩
 ·have h1i:(L:Int) < 1:=by omega
  have HN:Hid (keyOk l=false):=hid (by unfold keyOk;rw [HL.out,decide_eq_false h1,Bool.false_and,Bool.and_false])
  go_enter Tryz.func233,Tryz.ntmps233
  go_wp2_with fail
  go_ret
  exact ⟨by rw [HN.out];rfl,rfl⟩
def kindT (t:TxM):Bool:=
 if t.ki=1 then decide (1≤t.to) && decide (t.to≤40) && decide (0≤t.am) && decide (t.am≤1099511627776) && decide (t.key=[]) && decide (t.val=[]) else
 if t.ki=2 then decide (t.to=0) && decide (t.am=0) && keyOk t.key && decide (t.val.length≤200) else
 if t.ki=3 then decide (t.to=0) && decide (t.am=0) && keyOk t.key && decide (t.val=[]) else false
set_option maxHeartbeats 6400000 in
theorem ofKind_any (t:TxM) (w:World) (hk:t.key.length≤1000000) (hv:t.val.length≤1000000):
    Calls Tryz.prog 225 #[txv t] w fun e w'=>e=.returned (.bool (kindT t))∧Below w.heap.size w w':=by
  obtain ⟨fr,no,ki,tu,am,key,val⟩:=t
  simp only at hk hv
  have HK:=hid hk
  have hvs:=sb_size val
  have hke:=sb_empty key
  have hve:=sb_empty val
  clear hk hv
  unfold txv
  simp only
  obtain ⟨s,HS⟩:∃ s:ByteArray,Hid (sb key=s):=⟨_,hid rfl⟩
  obtain ⟨u,HU⟩:∃ s:ByteArray,Hid (sb val=s):=⟨_,hid rfl⟩
  obtain ⟨n,HN⟩:∃ n:Nat,Hid (val.length=n):=⟨_,hid rfl⟩
  rw [HS.out] at hke ⊢
  rw [HU.out] at hve hvs ⊢
  rw [HN.out] at hvs
  obtain ⟨m,HM⟩:∃ m:Bool,Hid (kindT ⟨fr,no,ki,tu,am,key,val⟩=m):=⟨_,hid rfl⟩
  rw [HM.out]
  obtain ⟨ke,HKE⟩:∃ b:Bool,Hid (decide (key=[])=b):=⟨_,hid rfl⟩
  obtain ⟨ve,HVE⟩:∃ b:Bool,Hid (decide (val=[])=b):=⟨_,hid rfl⟩
  rw [HKE.out] at hke
  rw [HVE.out] at hve
  go_enter Tryz.func225,Tryz.ntmps225
  go_wp2_with fail
  all_goals first
    | (have C:=fun w=>keyText_any key w HK.out
       rw [HS.out] at C
       refine (C _).mono ?_
       clear C
       rintro e w1 ⟨rfl,rfl⟩
       obtain ⟨ko,HKO⟩:∃ b:Bool,Hid (keyOk key=b):=⟨_,hid rfl⟩
       rw [HKO.out]
       have hko:=HKO.out
       go_wp2_with fail)
    | (refine (account_any tu _).mono ?_
       rintro e w1 ⟨rfl,rfl⟩
       obtain ⟨ao,HAO⟩:∃ b:Bool,Hid ((decide (1≤tu) && decide (tu≤40))=b):=⟨_,hid rfl⟩
       rw [HAO.out]
       have hao:=HAO.out
       go_wp2_with fail)
    | skip
  all_goals
    go_ret
    refine ⟨?_,(Below.refl _ _).alloc (Nat.le_refl _) _⟩
    refine congrArg (fun b=>Ending.returned (Value.bool b)) ?_
    rw [← HM.out]
    clear HM HS HU HK
    unfold kindT
    simp only [HKE.out,HVE.out,HN.out]
  all_goals grind
end Go.Proofs.YtpdnnmabijmfbaaGreatDoor
