/-
  A disk as plain data; what each act leaves, and tells.
-/
import Derived.Test.YtfpgglclpkcdhaaBw1
namespace Go.Proofs.Ytfpgglclpkcdhaa
set_option maxRecDepth 20000
open Go.RowKit
structure DkM where
 s:List UInt8
 m:List UInt8
 h:List UInt8
 room:Int
 left:Int
 dead:Bool
structure DkM.Good (D:DkM):Prop where
 l0:-1≤D.left
 l1:D.left≤9223372036854775807
 r0:0≤D.room
 r1:D.room≤1048576
 z:(D.s.length:Int) + D.m.length + D.h.length≤D.room
 d:D.dead=false→D.h=[]
def newDk (room:Int):DkM:=⟨[],[],[],room,-1,false⟩
def stepDk (D:DkM):DkM:=if D.left=0 then { D with dead:=true } else if D.left < 0 then D else { D with left:=D.left - 1 }
def okDk (D:DkM):Bool:=!decide (D.left=0)
def appE (D:DkM) (b:List UInt8):Int:=if D.dead=true then 6 else if D.room < D.s.length + D.m.length + b.length then 4 else if b.length=0 then 0 else if D.left=0 then 6 else 0
def appD (D:DkM) (b:List UInt8):DkM:=if D.dead=true then D else if D.room < D.s.length + D.m.length + b.length then D else if b.length=0 then D else if D.left=0 then { D with dead:=true,h:=b } else { stepDk D with m:=D.m ++ b }
def syncE (D:DkM):Int:=if D.dead=true then 6 else if D.left=0 then 6 else 0
def syncD (D:DkM):DkM:=if D.dead=true then D else if D.left=0 then { D with dead:=true } else { stepDk D with s:=D.s ++ D.m,m:=[] }
def cutE (D:DkM) (n:Int):Int:=if D.dead=true then 6 else if n < 0 then 1 else if (D.s.length:Int) + D.m.length < n then 1 else if D.left=0 then 6 else 0
def cutD (D:DkM) (n:Int):DkM:=if D.dead=true then D else if n < 0 then D else if (D.s.length:Int) + D.m.length < n then D else if D.left=0 then { D with dead:=true } else { stepDk D with s:=(D.s ++ D.m).take n.toNat,m:=[] }
def armD (D:DkM) (n:Int):DkM:={ D with left:=if n < 0 then -1 else n }
def crashD (D:DkM) (n:Int):DkM:=⟨D.s ++ (D.m ++ D.h).take n.toNat,[],[],D.room,-1,false⟩
def actD (D:DkM) (k:Int) (b:List UInt8) (n:Int):DkM:=if k=0 then appD D b else if k=1 then syncD D else if k=2 then cutD D n else if k=3 then armD D n else if k=4 then crashD D n else D
theorem newDk_good {room:Int} (h0:0≤room) (h1:room≤1048576):(newDk room).Good:=⟨by simp [newDk],by simp [newDk],h0,h1,by simpa [newDk] using h0,fun _=>rfl⟩
theorem stepDk_left {D:DkM} (g:D.Good) (h:¬ D.left=0):stepDk D={ D with left:=(stepDk D).left }∧-1≤(stepDk D).left∧(stepDk D).left≤9223372036854775807:=by
 have h0:=g.l0
 have h1:=g.l1
 unfold stepDk
 rw [if_neg h]
 by_cases h2:D.left < 0
 ·rw [if_pos h2]
  exact ⟨rfl,h0,h1⟩
 ·rw [if_neg h2]
  exact ⟨rfl,by show -1≤D.left - 1;omega,by show D.left - 1≤_;omega⟩
theorem dk_live {D:DkM} (h:¬ D.dead=true):D.dead=false:=by simpa using h
theorem appD_good {D:DkM} (g:D.Good) (b:List UInt8):(appD D b).Good:=by
 have hz:=g.z
 unfold appD
 by_cases h1:D.dead=true
 ·rw [if_pos h1];exact g
 rw [if_neg h1]
 have hh:=g.d (dk_live h1)
 by_cases h2:D.room < D.s.length + D.m.length + b.length
 ·rw [if_pos h2];exact g
 rw [if_neg h2]
 by_cases h3:b.length=0
 ·rw [if_pos h3];exact g
 rw [if_neg h3]
 by_cases h4:D.left=0
 ·rw [if_pos h4]
  exact ⟨g.l0,g.l1,g.r0,g.r1,by show (D.s.length:Int) + D.m.length + b.length≤D.room;omega,fun h=>by cases h⟩
 rw [if_neg h4]
 obtain ⟨e,l0,l1⟩:=stepDk_left g h4
 rw [e]
 exact ⟨l0,l1,g.r0,g.r1,by
  show (D.s.length:Int) + ((D.m ++ b).length:Nat) + D.h.length≤D.room
  rw [hh,List.length_append]
  simp only [List.length_nil]
  omega,fun _=>hh⟩
theorem syncD_good {D:DkM} (g:D.Good):(syncD D).Good:=by
 have hz:=g.z
 unfold syncD
 by_cases h1:D.dead=true
 ·rw [if_pos h1];exact g
 rw [if_neg h1]
 by_cases h4:D.left=0
 ·rw [if_pos h4]
  exact ⟨g.l0,g.l1,g.r0,g.r1,hz,fun h=>by cases h⟩
 rw [if_neg h4]
 obtain ⟨e,l0,l1⟩:=stepDk_left g h4
 rw [e]
 exact ⟨l0,l1,g.r0,g.r1,by
  show (((D.s ++ D.m).length:Nat):Int) + (([]:List UInt8).length:Nat) + D.h.length≤D.room
  rw [List.length_append]
  simp only [List.length_nil]
  omega,fun _=>g.d (dk_live h1)⟩
theorem cutD_good {D:DkM} (g:D.Good) (n:Int):(cutD D n).Good:=by
 have hz:=g.z
 unfold cutD
 by_cases h1:D.dead=true
 ·rw [if_pos h1];exact g
 rw [if_neg h1]
 by_cases h2:n < 0
 ·rw [if_pos h2];exact g
 rw [if_neg h2]
 by_cases h3:(D.s.length:Int) + D.m.length < n
 ·rw [if_pos h3];exact g
 rw [if_neg h3]
 by_cases h4:D.left=0
 ·rw [if_pos h4]
  exact ⟨g.l0,g.l1,g.r0,g.r1,hz,fun h=>by cases h⟩
 rw [if_neg h4]
 obtain ⟨e,l0,l1⟩:=stepDk_left g h4
 rw [e]
 exact ⟨l0,l1,g.r0,g.r1,by
  show ((((D.s ++ D.m).take n.toNat).length:Nat):Int) + (([]:List UInt8).length:Nat) + D.h.length≤D.room
  rw [List.length_take,List.length_append]
  simp only [List.length_nil]
  omega,fun _=>g.d (dk_live h1)⟩
theorem armD_good {D:DkM} (g:D.Good) {n:Int} (hn:n≤9223372036854775807):(armD D n).Good:=by
 refine ⟨?_,?_,g.r0,g.r1,g.z,g.d⟩ <;> (unfold armD;dsimp only;split <;> omega)
theorem crashD_good {D:DkM} (g:D.Good) (n:Int):(crashD D n).Good:=by
 have hz:=g.z
 refine ⟨by simp [crashD],by simp [crashD],g.r0,g.r1,?_,fun _=>rfl⟩
 show (((D.s ++ (D.m ++ D.h).take n.toNat).length:Nat):Int) + (([]:List UInt8).length:Nat) + (([]:List UInt8).length:Nat)≤D.room
 rw [List.length_append,List.length_take,List.length_append]
 simp only [List.length_nil]
 omega
theorem actD_good {D:DkM} (g:D.Good) (k:Int) (b:List UInt8) {n:Int} (hn:n≤9223372036854775807):(actD D k b n).Good:=by
 unfold actD
 by_cases h0:k=0
 ·rw [if_pos h0];exact appD_good g b
 rw [if_neg h0]
 by_cases h1:k=1
 ·rw [if_pos h1];exact syncD_good g
 rw [if_neg h1]
 by_cases h2:k=2
 ·rw [if_pos h2];exact cutD_good g n
 rw [if_neg h2]
 by_cases h3:k=3
 ·rw [if_pos h3];exact armD_good g hn
 rw [if_neg h3]
 by_cases h4:k=4
 ·rw [if_pos h4];exact crashD_good g n
 rw [if_neg h4];exact g
end Go.Proofs.Ytfpgglclpkcdhaa
