/-
  Records on a disk, as plain data: which records bytes begin with, and what is left; what a cut leaves of them.
-/
import Derived.Test.YtfpgglclpkcdhaaBw3
namespace Go.Proofs.Ytfpgglclpkcdhaa
set_option maxRecDepth 20000
open Go.RowKit
def recsF:Nat→List UInt8→List (List UInt8) × List UInt8
 | 0,l=>([],l)
 | n + 1,l=>if nextN l=1 then (nextB l :: (recsF n (l.drop (8 + (nextB l).length))).1,(recsF n (l.drop (8 + (nextB l).length))).2) else ([],l)
def recsL (l:List UInt8):List (List UInt8):=(recsF l.length l).1
def tailL (l:List UInt8):List UInt8:=(recsF l.length l).2
def flatR (rs:List (List UInt8)):List UInt8:=(rs.map recS).flatten
def MayR (rs:List (List UInt8)):Prop:=∀ r ∈ rs,1≤r.length∧r.length≤65536
def spoiltL (t:List UInt8):Prop:=nextN t≠2∧∃ i,i < t.length∧nextN (t.drop i)=1
theorem nextN_len {l:List UInt8} (h:nextN l=1):8≤l.length:=by
 by_cases h8:l.length < 8
 ·unfold nextN at h
  rw [if_pos h8] at h
  cases h
 ·omega
theorem next_is {l:List UInt8} (h:nextN l=1):1≤(nextB l).length∧(nextB l).length≤65536∧l=recS (nextB l) ++ l.drop (8 + (nextB l).length):=by
 have hb:nextB l=inL l:=by unfold nextB;rw [if_pos h]
 unfold nextN at h
 by_cases h1:l.length < 8
 ·rw [if_pos h1] at h;cases h
 rw [if_neg h1] at h
 by_cases h2:numL l < 1∨65536 < numL l
 ·rw [if_pos h2] at h;cases h
 rw [if_neg h2] at h
 by_cases h3:l.length < 8 + numL l
 ·rw [if_pos h3] at h;cases h
 rw [if_neg h3] at h
 by_cases h4:recS (inL l)=l.take (8 + numL l)
 ·have hl:(inL l).length=numL l:=by
   unfold inL
   rw [List.length_take,List.length_drop]
   omega
  rw [hb,hl,h4,List.take_append_drop]
  exact ⟨by omega,by omega,rfl⟩
 ·rw [if_neg h4] at h;cases h
theorem recsF_more:∀ (n:Nat) (l:List UInt8),l.length≤n→recsF n l=recsF l.length l:=by
 intro n
 induction n using Nat.strongRecOn with
 | ind n ih=>
  intro l hl
  by_cases h:nextN l=1
  ·have h8:=nextN_len h
   obtain ⟨m,rfl⟩:∃ m,n=m + 1:=⟨n - 1,by omega⟩
   obtain ⟨k,hk⟩:∃ k,l.length=k + 1:=⟨l.length - 1,by omega⟩
   rw [hk]
   unfold recsF
   rw [if_pos h,if_pos h]
   have hd:(l.drop (8 + (nextB l).length)).length≤k:=by rw [List.length_drop];omega
   rw [ih m (by omega) _ (by omega)]
   by_cases hkm:k=m
   ·subst hkm
    rw [ih k (by omega) _ hd]
   ·rw [ih k (by omega) _ hd]
  ·cases n with
   | zero=>
    have:l.length=0:=by omega
    rw [this]
   | succ n=>
    cases hk:l.length with
    | zero=>
     unfold recsF
     rw [if_neg h]
    | succ k=>
     unfold recsF
     rw [if_neg h,if_neg h]
theorem recsF_succ (n:Nat) (l:List UInt8):recsF (n + 1) l=if nextN l=1 then (nextB l :: (recsF n (l.drop (8 + (nextB l).length))).1,(recsF n (l.drop (8 + (nextB l).length))).2) else ([],l):=rfl
theorem recs_step {l:List UInt8} (h:nextN l=1):recsL l=nextB l :: recsL (l.drop (8 + (nextB l).length))∧tailL l=tailL (l.drop (8 + (nextB l).length)):=by
 have h8:=nextN_len h
 obtain ⟨k,hk⟩:∃ k,l.length=k + 1:=⟨l.length - 1,by omega⟩
 have hd:(l.drop (8 + (nextB l).length)).length≤k:=by rw [List.length_drop];omega
 unfold recsL tailL
 rw [hk,recsF_succ,if_pos h,recsF_more k _ hd]
 exact ⟨rfl,rfl⟩
theorem recs_stop {l:List UInt8} (h:¬ nextN l=1):recsL l=[]∧tailL l=l:=by
 unfold recsL tailL
 cases hk:l.length with
 | zero=>exact ⟨rfl,rfl⟩
 | succ k=>
  unfold recsF
  rw [if_neg h]
  exact ⟨rfl,rfl⟩
theorem recs_put:∀ (rs:List (List UInt8)) (t:List UInt8),MayR rs→recsL (flatR rs ++ t)=rs ++ recsL t∧tailL (flatR rs ++ t)=tailL t
 | [],t,_=>⟨rfl,rfl⟩
 | r :: rs,t,h=>by
  obtain ⟨h0,h1⟩:=h r (by simp)
  have e:flatR (r :: rs) ++ t=recS r ++ (flatR rs ++ t):=by
   unfold flatR
   rw [List.map_cons,List.flatten_cons,List.append_assoc]
  obtain ⟨hn,hb⟩:=next_rec h0 h1 (flatR rs ++ t)
  obtain ⟨p,q⟩:=recs_step hn
  have hd:(recS r ++ (flatR rs ++ t)).drop (8 + r.length)=flatR rs ++ t:=by
   rw [List.drop_append_of_le_length (by rw [recS_length];omega),List.drop_of_length_le (by rw [recS_length];omega),List.nil_append]
  obtain ⟨ih1,ih2⟩:=recs_put rs t (fun x hx=>h x (List.mem_cons_of_mem _ hx))
  rw [hb,hd,ih1] at p
  rw [hb,hd,ih2] at q
  rw [e,p,q]
  exact ⟨rfl,rfl⟩
theorem recs_all:∀ (n:Nat) (l:List UInt8),l.length≤n→l=flatR (recsL l) ++ tailL l∧MayR (recsL l)∧¬ nextN (tailL l)=1
 | n,l,hl=>by
  by_cases h:nextN l=1
  ·have h8:=nextN_len h
   obtain ⟨h0,h1,h2⟩:=next_is h
   obtain ⟨p,q⟩:=recs_step h
   obtain ⟨m,rfl⟩:∃ m,n=m + 1:=⟨n - 1,by omega⟩
   obtain ⟨i1,i2,i3⟩:=recs_all m (l.drop (8 + (nextB l).length)) (by rw [List.length_drop];omega)
   rw [p,q]
   refine ⟨?_,fun r hr=>?_,i3⟩
   ·unfold flatR
    rw [List.map_cons,List.flatten_cons,List.append_assoc]
    conv=>lhs;rw [h2]
    congr 1
   ·rcases List.mem_cons.1 hr with rfl | hr
    ·exact ⟨h0,h1⟩
    ·exact i2 r hr
  ·obtain ⟨p,q⟩:=recs_stop h
   rw [p,q]
   exact ⟨rfl,fun r hr=>(by cases hr),h⟩
theorem next_cut {b:List UInt8} (h0:1≤b.length) (h1:b.length≤65536) {k:Nat} (hk:k < 8 + b.length):nextN ((recS b).take k)=2:=by
 have hr:(recS b).length=8 + b.length:=recS_length b
 have hl:((recS b).take k).length=k:=by rw [List.length_take];omega
 unfold nextN
 rw [hl]
 by_cases h8:k < 8
 ·rw [if_pos h8]
 rw [if_neg h8]
 have hnum:numL ((recS b).take k)=b.length:=by
  have e:(recS b).take k=fourL b.length ++ ((recS b).take k).drop 4:=by
   have:((recS b).take k).take 4=fourL b.length:=by
    rw [List.take_take,Nat.min_eq_left (by omega)]
    unfold recS
    exact List.take_left' (fourL_length _)
   rw [← this,List.take_append_drop]
  rw [e]
  exact numL_four _ (by omega) _
 rw [hnum,if_neg (by omega),if_pos hk]
theorem recs_cut:∀ (rs:List (List UInt8)) (k:Nat),MayR rs→∃ j,j≤rs.length∧recsL ((flatR rs).take k)=rs.take j∧nextN (tailL ((flatR rs).take k))=2
 | [],k,_=>⟨0,Nat.le_refl _,by simp [flatR,recsL,recsF],by simp [flatR,tailL,recsF,nextN]⟩
 | r :: rs,k,h=>by
  obtain ⟨h0,h1⟩:=h r (by simp)
  have hr:(recS r).length=8 + r.length:=recS_length r
  have e:flatR (r :: rs)=recS r ++ flatR rs:=by
   unfold flatR
   rw [List.map_cons,List.flatten_cons]
  rw [e]
  by_cases hk:k < 8 + r.length
  ·rw [List.take_append_of_le_length (by omega)]
   have hn:=next_cut h0 h1 hk
   obtain ⟨p,q⟩:=recs_stop (l:=(recS r).take k) (by rw [hn];omega)
   exact ⟨0,Nat.zero_le _,by rw [p];rfl,by rw [q];exact hn⟩
  ·obtain ⟨j,hj,p,q⟩:=recs_cut rs (k - (8 + r.length)) (fun x hx=>h x (List.mem_cons_of_mem _ hx))
   have e2:(recS r ++ flatR rs).take k=flatR [r] ++ (flatR rs).take (k - (8 + r.length)):=by
    rw [List.take_append,hr,List.take_of_length_le (by omega)]
    simp [flatR]
   obtain ⟨p2,q2⟩:=recs_put [r] ((flatR rs).take (k - (8 + r.length))) (fun x hx=>h x (by simp at hx;simp [hx]))
   rw [e2,p2,q2,p]
   exact ⟨j + 1,by simp;omega,rfl,q⟩
theorem not_spoilt {t:List UInt8} (h:nextN t=2):¬ spoiltL t:=fun q=>q.1 h
theorem flatR_append (a b:List (List UInt8)):flatR (a ++ b)=flatR a ++ flatR b:=by simp [flatR]
theorem recs_crash {kept tried:List (List UInt8)} (hk:MayR kept) (ht:MayR tried) (n:Nat):∃ j,j≤tried.length∧recsL (flatR kept ++ (flatR tried).take n)=kept ++ tried.take j∧nextN (tailL (flatR kept ++ (flatR tried).take n))=2:=by
 obtain ⟨j,hj,p,q⟩:=recs_cut tried n ht
 obtain ⟨p2,q2⟩:=recs_put kept ((flatR tried).take n) hk
 exact ⟨j,hj,by rw [p2,p],by rw [q2];exact q⟩
theorem next_more {x more:List UInt8} (h8:8≤x.length) (hl:8 + numL x≤x.length):nextN (x ++ more)=nextN x:=by
 have hg:∀ j,j < 4→(x ++ more).getD j 0=x.getD j 0:=fun j hj=>getD_app x more j (by omega)
 have hn:numL (x ++ more)=numL x:=by
  unfold numL
  rw [hg 0 (by omega),hg 1 (by omega),hg 2 (by omega),hg 3 (by omega)]
 have hi:inL (x ++ more)=inL x:=by
  unfold inL
  rw [hn,List.drop_append_of_le_length (by omega),List.take_append_of_le_length (by rw [List.length_drop];omega)]
 unfold nextN
 rw [hn,hi,List.length_append,List.take_append_of_le_length (by omega),if_neg (by omega),if_neg (by omega:¬ x.length < 8)]
 by_cases h2:numL x < 1∨65536 < numL x
 ·rw [if_pos h2,if_pos h2]
 ·rw [if_neg h2,if_neg h2,if_neg (by omega),if_neg (by omega:¬ x.length < 8 + numL x)]
def badR (l c:List UInt8):List UInt8:=fourL l.length ++ (fourL (crcS (fourL l.length ++ l)).toNat ++ c)
theorem badR_same (l:List UInt8):badR l l=recS l:=rfl
theorem badR_length {l c:List UInt8} (hc:c.length=l.length):(badR l c).length=8 + l.length:=by
 unfold badR
 rw [List.length_append,List.length_append,fourL_length,fourL_length,hc]
 omega
theorem next_bad {l c:List UInt8} (h0:1≤l.length) (h1:l.length≤65536) (hc:c.length=l.length) {f:Nat} (hd:∀ j,j < f∨f + 4≤j→c.getD j 0=l.getD j 0) (hne:¬ c=l) (more:List UInt8):nextN (badR l c ++ more)=0:=by
 have hlen:=badR_length hc
 have hnum:numL (badR l c)=l.length:=numL_four l.length (by omega) _
 rw [next_more (by omega) (by omega)]
 unfold badR
 rw [next_other h0 h1 hc,if_neg]
 intro e
 refine hne (turned_told (p:=fourL l.length) (f:=8 * f) hc.symm (fun k hk=>?_) e.symm).symm
 by_cases hb:k / 8 < f∨f + 4≤k / 8
 ·refine absurd ?_ hk
  have h1:=mb_at l (k / 8) (k % 8) (Nat.mod_lt _ (by omega))
  have h2:=mb_at c (k / 8) (k % 8) (Nat.mod_lt _ (by omega))
  rw [Nat.div_add_mod] at h1 h2
  rw [h1,h2,hd _ hb]
 ·omega
theorem recs_bad {pre post:List (List UInt8)} {l c:List UInt8} (hp:MayR pre) (hq:MayR post) (hn:post≠[]) (h0:1≤l.length) (h1:l.length≤65536) (hc:c.length=l.length) {f:Nat} (hd:∀ j,j < f∨f + 4≤j→c.getD j 0=l.getD j 0) (hne:¬ c=l):
  tailL (flatR pre ++ (badR l c ++ flatR post))=badR l c ++ flatR post∧spoiltL (badR l c ++ flatR post):=by
 have hb:=next_bad h0 h1 hc hd hne (flatR post)
 obtain ⟨_,q⟩:=recs_stop (l:=badR l c ++ flatR post) (by rw [hb];omega)
 refine ⟨by rw [(recs_put pre _ hp).2,q],by rw [hb];omega,(badR l c).length,?_,?_⟩
 ·obtain ⟨r,rs,rfl⟩:∃ r rs,post=r :: rs:=by
   cases post with
   | nil=>exact absurd rfl hn
   | cons r rs=>exact ⟨r,rs,rfl⟩
  have:(recS r).length=8 + r.length:=recS_length r
  have e:flatR (r :: rs)=recS r ++ flatR rs:=by unfold flatR;rw [List.map_cons,List.flatten_cons]
  rw [List.length_append,e,List.length_append]
  omega
 ·obtain ⟨r,rs,rfl⟩:∃ r rs,post=r :: rs:=by
   cases post with
   | nil=>exact absurd rfl hn
   | cons r rs=>exact ⟨r,rs,rfl⟩
  have e:flatR (r :: rs)=recS r ++ flatR rs:=by unfold flatR;rw [List.map_cons,List.flatten_cons]
  rw [List.drop_left' rfl,e]
  exact (next_rec (hq r (by simp)).1 (hq r (by simp)).2 _).1
end Go.Proofs.Ytfpgglclpkcdhaa
