/-
  A wal as plain data on a disk as plain data: what opening and putting leave, and tell; what stands behind a crash.
-/
import Derived.Test.YtfpgglclpkcdhaaDkPure
import Derived.Test.YtfpgglclpkcdhaaWaPure
namespace Go.Proofs.Ytfpgglclpkcdhaa
set_option maxRecDepth 20000
open Go.RowKit
def spoiltB (t:List UInt8):Bool:=decide (nextN t≠2) && (List.range t.length).any (fun i=>decide (nextN (t.drop i)=1))
theorem spoiltB_iff (t:List UInt8):spoiltB t=true ↔ spoiltL t:=by
 unfold spoiltB spoiltL
 rw [Bool.and_eq_true,decide_eq_true_eq,List.any_eq_true]
 constructor
 ·rintro ⟨h,i,hi,hn⟩
  exact ⟨h,i,List.mem_range.1 hi,of_decide_eq_true hn⟩
 ·rintro ⟨h,i,hi,hn⟩
  exact ⟨h,i,List.mem_range.2 hi,decide_eq_true hn⟩
structure WaM where
 d:DkM
 many:Nat
 broken:Bool
 is_:Bool
def tcutD (D:DkM):DkM:=if tailL (D.s ++ D.m)=[] then D else cutD D ((D.s.length:Int) + D.m.length - (tailL (D.s ++ D.m)).length)
def tcutE (D:DkM):Int:=if tailL (D.s ++ D.m)=[] then 0 else cutE D ((D.s.length:Int) + D.m.length - (tailL (D.s ++ D.m)).length)
def openE (D:DkM):Int:=if D.dead=true then 6 else if tailL (D.s ++ D.m)≠[]∧spoiltB (tailL (D.s ++ D.m))=true then 10 else if tcutE D≠0 then tcutE D else syncE (tcutD D)
def openD (D:DkM):DkM:=if D.dead=true then D else if tailL (D.s ++ D.m)≠[]∧spoiltB (tailL (D.s ++ D.m))=true then D else if tcutE D≠0 then tcutD D else syncD (tcutD D)
def openR (D:DkM):List (List UInt8):=if openE D=0 then recsL (D.s ++ D.m) else []
def openW (D:DkM):WaM:=if openE D=0 then ⟨openD D,(openR D).length,false,true⟩ else ⟨openD D,0,false,false⟩
instance mayDec (rs:List (List UInt8)):Decidable (MayR rs):=by unfold MayR;infer_instance
def putE (V:WaM) (l:List (List UInt8)):Int:=if V.is_=false∨V.broken=true then 5 else if ¬ MayR l then 1 else if l=[] then 0 else if appE V.d (flatR l)≠0 then appE V.d (flatR l) else syncE (appD V.d (flatR l))
def putD (V:WaM) (l:List (List UInt8)):DkM:=if V.is_=false∨V.broken=true then V.d else if ¬ MayR l then V.d else if l=[] then V.d else if appE V.d (flatR l)≠0 then appD V.d (flatR l) else syncD (appD V.d (flatR l))
def putW (V:WaM) (l:List (List UInt8)):WaM:=if V.is_=false∨V.broken=true then V else if ¬ MayR l then V else if l=[] then V else ⟨putD V l,if putE V l=0 then V.many + l.length else V.many,decide (putE V l=6),true⟩
theorem tcutD_good {D:DkM} (g:D.Good):(tcutD D).Good:=by
 unfold tcutD
 split
 ·exact g
 ·exact cutD_good g _
theorem openD_good {D:DkM} (g:D.Good):(openD D).Good:=by
 unfold openD
 split
 ·exact g
 split
 ·exact g
 split
 ·exact tcutD_good g
 ·exact syncD_good (tcutD_good g)
theorem putD_good {V:WaM} (g:V.d.Good) (l:List (List UInt8)):(putD V l).Good:=by
 unfold putD
 split
 ·exact g
 split
 ·exact g
 split
 ·exact g
 split
 ·exact appD_good g _
 ·exact syncD_good (appD_good g _)
theorem open_crash {D:DkM} {kept tried:List (List UInt8)} {n:Nat} (hk:MayR kept) (ht:MayR tried) (hs:D.s=flatR kept ++ (flatR tried).take n) (hm:D.m=[]) (hh:D.h=[]) (hl:D.left=-1) (hd:D.dead=false):
  ∃ j,j≤tried.length∧openE D=0∧openR D=kept ++ tried.take j∧openD D=⟨flatR (kept ++ tried.take j),[],[],D.room,-1,false⟩:=by
 obtain ⟨j,hj,hr,hn⟩:=recs_crash hk ht n
 have hall:D.s ++ D.m=flatR kept ++ (flatR tried).take n:=by rw [hm,List.append_nil,hs]
 obtain ⟨ha,_,_⟩:=recs_all _ (D.s ++ D.m) (Nat.le_refl _)
 rw [← hall] at hr hn
 have hd1:¬ D.dead=true:=by rw [hd];simp
 have hl0:¬ D.left=0:=by rw [hl];omega
 have hlm:D.left < 0:=by rw [hl];omega
 have hsp:¬ (tailL (D.s ++ D.m)≠[]∧spoiltB (tailL (D.s ++ D.m))=true):=fun h=>not_spoilt hn ((spoiltB_iff _).1 h.2)
 rw [hr] at ha
 have hstep:∀ E:DkM,E.left=-1→stepDk E=E:=fun E hE=>by
  unfold stepDk
  rw [if_neg (by omega),if_pos (by omega)]
 have hcut:tcutE D=0∧tcutD D=⟨flatR (kept ++ tried.take j),[],[],D.room,-1,false⟩:=by
  unfold tcutE tcutD
  by_cases ht0:tailL (D.s ++ D.m)=[]
  ·rw [if_pos ht0,if_pos ht0]
   refine ⟨rfl,?_⟩
   rw [ht0,List.append_nil,hm,List.append_nil] at ha
   cases D
   simp only at ha hm hh hl hd
   subst hm hh hl hd
   rw [ha]
  ·rw [if_neg ht0,if_neg ht0]
   have hlen:(D.s.length:Int) + D.m.length=(flatR (kept ++ tried.take j)).length + (tailL (D.s ++ D.m)).length:=by
    have:=congrArg List.length ha
    rw [List.length_append,List.length_append] at this
    omega
   have hn0:(D.s.length:Int) + D.m.length - (tailL (D.s ++ D.m)).length=((flatR (kept ++ tried.take j)).length:Int):=by omega
   rw [hn0]
   unfold cutE cutD
   rw [if_neg hd1,if_neg hd1,if_neg (by omega),if_neg (by omega),if_neg (by omega),if_neg (by omega),if_neg (by omega),if_neg (by omega),hstep D hl]
   refine ⟨rfl,?_⟩
   have e:(D.s ++ D.m).take (((flatR (kept ++ tried.take j)).length:Int)).toNat=flatR (kept ++ tried.take j):=by
    rw [Int.toNat_natCast]
    conv=>lhs;rw [ha]
    exact List.take_left
   rw [e]
   simp only [hh,hl,hd]
 have hE:openE D=0:=by
  unfold openE
  rw [if_neg hd1,if_neg hsp,if_neg (by rw [hcut.1];simp),hcut.2]
  rfl
 refine ⟨j,hj,hE,?_,?_⟩
 ·unfold openR
  rw [if_pos hE,hr]
 ·unfold openD
  rw [if_neg hd1,if_neg hsp,if_neg (by rw [hcut.1];simp),hcut.2]
  unfold syncD
  rw [if_neg (by simp),if_neg (by simp),hstep _ rfl]
  simp
structure WellW (D:DkM) (kept:List (List UInt8)):Prop where
 g:D.Good
 s:D.s=flatR kept
 m:D.m=[]
 dead:D.dead=false
 k:MayR kept
theorem WellW.h {D:DkM} {kept:List (List UInt8)} (w:WellW D kept):D.h=[]:=w.g.d w.dead
theorem flatR_pos {l:List (List UInt8)} (h:l≠[]):(flatR l).length≠0:=by
 obtain ⟨r,rs,rfl⟩:∃ r rs,l=r :: rs:=by
  cases l with
  | nil=>exact absurd rfl h
  | cons r rs=>exact ⟨r,rs,rfl⟩
 have:(recS r).length=8 + r.length:=recS_length r
 have e:flatR (r :: rs)=recS r ++ flatR rs:=by unfold flatR;rw [List.map_cons,List.flatten_cons]
 rw [e,List.length_append]
 omega
theorem put_keeps {V:WaM} {kept l:List (List UInt8)} (w:WellW V.d kept) (hi:V.is_=true) (hb:V.broken=false) (hr:((flatR kept).length:Int) + (flatR l).length≤V.d.room):
  (putE V l=0∧MayR l∧WellW (putD V l) (kept ++ l)∧(putD V l).room=V.d.room)∨(putE V l=6∧MayR l∧(putD V l).dead=true∧(putD V l).s=flatR kept∧(putD V l).m ++ (putD V l).h=flatR l∧(putD V l).room=V.d.room)∨(putE V l=1∧¬ MayR l∧putD V l=V.d):=by
 have hno:¬ (V.is_=false∨V.broken=true):=by rw [hi,hb];simp
 have hd1:¬ V.d.dead=true:=by rw [w.dead];simp
 unfold putE putD
 rw [if_neg hno,if_neg hno]
 by_cases hm:MayR l
 ·have hnm:¬ ¬ MayR l:=fun h=>h hm
  rw [if_neg hnm,if_neg hnm]
  by_cases hl:l=[]
  ·rw [if_pos hl,if_pos hl]
   subst hl
   exact .inl ⟨rfl,hm,by rw [List.append_nil];exact w,rfl⟩
  ·rw [if_neg hl,if_neg hl]
   have hf:¬ V.d.room < V.d.s.length + V.d.m.length + (flatR l).length:=by
    rw [w.s,w.m]
    simp only [List.length_nil]
    omega
   have h0:¬ (flatR l).length=0:=flatR_pos hl
   by_cases e0:V.d.left=0
   ·have hE:appE V.d (flatR l)=6:=by unfold appE;rw [if_neg hd1,if_neg hf,if_neg h0,if_pos e0]
    have hD:appD V.d (flatR l)={ V.d with dead:=true,h:=flatR l }:=by unfold appD;rw [if_neg hd1,if_neg hf,if_neg h0,if_pos e0]
    rw [hE,hD,if_pos (by omega),if_pos (by omega)]
    exact .inr (.inl ⟨rfl,hm,rfl,w.s,by show V.d.m ++ flatR l=_;rw [w.m,List.nil_append],rfl⟩)
   ·have hE:appE V.d (flatR l)=0:=by unfold appE;rw [if_neg hd1,if_neg hf,if_neg h0,if_neg e0]
    have hD:appD V.d (flatR l)={ V.d with left:=(stepDk V.d).left,m:=V.d.m ++ flatR l }:=by
     unfold appD
     rw [if_neg hd1,if_neg hf,if_neg h0,if_neg e0,(stepDk_left w.g e0).1]
    have hG:=appD_good w.g (flatR l)
    rw [hE,if_neg (by simp),if_neg (by simp)]
    by_cases e1:(appD V.d (flatR l)).left=0
    ·have hd2:¬ (appD V.d (flatR l)).dead=true:=by rw [hD];exact hd1
     right;left
     unfold syncE syncD
     rw [if_neg hd2,if_neg hd2,if_pos e1,if_pos e1]
     refine ⟨rfl,hm,rfl,?_,?_,?_⟩
     ·rw [hD];exact w.s
     ·rw [hD]
      show (V.d.m ++ flatR l) ++ V.d.h=_
      rw [w.m,w.h,List.nil_append,List.append_nil]
     ·rw [hD]
    ·have hd2:¬ (appD V.d (flatR l)).dead=true:=by rw [hD];exact hd1
     left
     have hS:=syncD_good hG
     have hSD:syncD (appD V.d (flatR l))={ appD V.d (flatR l) with left:=(stepDk (appD V.d (flatR l))).left,s:=(appD V.d (flatR l)).s ++ (appD V.d (flatR l)).m,m:=[] }:=by
      unfold syncD
      rw [if_neg hd2,if_neg e1,(stepDk_left hG e1).1]
     refine ⟨by unfold syncE;rw [if_neg hd2,if_neg e1],hm,⟨hS,?_,?_,?_,fun r hr=>?_⟩,?_⟩
     ·rw [hSD,hD]
      show V.d.s ++ (V.d.m ++ flatR l)=_
      rw [w.s,w.m,List.nil_append,flatR_append]
     ·rw [hSD]
     ·rw [hSD,hD];exact w.dead
     ·rcases List.mem_append.1 hr with hr | hr
      ·exact w.k r hr
      ·exact hm r hr
     ·rw [hSD,hD]
 ·rw [if_pos hm,if_pos hm]
  exact .inr (.inr ⟨rfl,hm,rfl⟩)
end Go.Proofs.Ytfpgglclpkcdhaa
