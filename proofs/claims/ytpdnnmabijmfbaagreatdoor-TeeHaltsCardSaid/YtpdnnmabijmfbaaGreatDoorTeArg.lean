/-
  What is done with a trusted part, as plain data, in memory, as it came in; which is not too great: tithinglaw17.Light.
-/
import Derived.Test.YtpdnnmabijmfbaaGreatDoorBs33
namespace Go.Proofs.YtpdnnmabijmfbaaGreatDoor
set_option maxRecDepth 20000
open Go.ChangeShapes Go.WideShapes Go.ChangeAt Go.RowKit Go.Deep
structure SpM where
 ask:Bool
 q:StM
 start:Bool
 acu:Bool
 vi:Int
 L:List AtM
 lA:Option Addr
 lc:Nat
 v:ActM
def SpM.l (x:SpM):Value:=.slice x.lA x.L.length x.lc
def sph (x:SpM):List Value:=[.bool x.start,.bool x.acu,.int .i64 x.vi,x.l]
def spl (x:SpM):List Value:=[.bool x.ask] ++ (stl x.q ++ (sph x ++ acl x.v))
def spc (x:SpM):Array Value:=(spl x).toArray
def spZ:SpM:=⟨false,stZ,false,false,0,[],none,0,actZ⟩
structure SpOk (w:World) (x:SpM):Prop where
 q:StOk w x.q
 l:Els atl 101 w x.l x.L
 o:∀ a ∈ x.L,a.Ok
 v:ActOk w x.v
theorem ActOk.below {w w':World} {a:ActM} (h:ActOk w a) (hb:Below w.heap.size w w'):ActOk w' a:=⟨h.1,h.2.1,h.2.2.below hb⟩
theorem SpOk.below {w w':World} {x:SpM} (h:SpOk w x) (hb:Below w.heap.size w w'):SpOk w' x:=⟨h.q.below hb,h.l.below hb,h.o,h.v.below hb⟩
theorem spZ_ok (w:World):SpOk w spZ:=⟨stZ_ok w,Els.nil w,fun a h=>by simp [spZ] at h,actZ_ok w⟩
theorem spl_length {w:World} {x:SpM} (h:SpOk w x):(spl x).length=253:=by
 unfold spl sph
 simp only [List.length_append,stl_length h.q,acl_length h.v.1,List.length_cons,List.length_nil]
theorem spc_size {w:World} {x:SpM} (h:SpOk w x):(spc x).size=253:=by
 unfold spc
 rw [List.size_toArray,spl_length h]
theorem spl_one (x:SpM):∀ u ∈ spl x,u.oneCell'=true:=by
 intro u hu
 unfold spl sph SpM.l at hu
 simp only [List.mem_append,List.mem_cons,List.not_mem_nil,or_false] at hu
 rcases hu with rfl | hu | (rfl | rfl | rfl | rfl) | hu
 ·rfl
 ·exact stl_one _ u hu
 ·rfl
 ·rfl
 ·rfl
 ·rfl
 ·exact acl_one _ u hu
theorem spc_one (x:SpM):(spc x).all (·.oneCell')=true:=all_oneCell_toArray (spl_one x)
structure SpRd (W:World) (g o:Nat) (x:SpM):Prop where
 ask:W.cell? ⟨g,o,none⟩=some (.bool x.ask)
 q:loadSt (.pointer (some ⟨g,o + 1,none⟩)) W=.ok (.value (.agg (stc x.q))) W
 start:W.cell? ⟨g,o + 209,none⟩=some (.bool x.start)
 acu:W.cell? ⟨g,o + 210,none⟩=some (.bool x.acu)
 vi:W.cell? ⟨g,o + 211,none⟩=some (.int .i64 x.vi)
 l:W.cell? ⟨g,o + 212,none⟩=some x.l
 v:loadAc (.pointer (some ⟨g,o + 213,none⟩)) W=.ok (.value (.agg (acc x.v))) W
theorem sub_range {W:World} {g o:Nat} {pre mid post:List Value} {L:List Value} (h:W.rangeAt g o L) (hL:L=pre ++ (mid ++ post)) {k:Nat} (hk:k=pre.length):W.rangeAt g (o + k) mid:=fun j u hu=>by
 subst hL hk
 have:=h (pre.length + j) u (by rw [List.getElem?_append_right (by omega),Nat.add_sub_cancel_left,List.getElem?_append_left (List.getElem?_eq_some_iff.1 hu).1];exact hu)
 rwa [← Nat.add_assoc] at this
theorem sp_read {w W:World} {x:SpM} {g o:Nat} (h:W.rangeAt g o (spl x)) (ho:SpOk w x):SpRd W g o x:=by
 have hl:=stl_length ho.q
 have h1:W.rangeAt g (o + 1) (stl x.q):=sub_range h (pre:=[.bool x.ask]) (post:=sph x ++ acl x.v) rfl rfl
 have h2:W.rangeAt g (o + 209) (sph x):=sub_range h (pre:=[.bool x.ask] ++ stl x.q) (post:=acl x.v) (by unfold spl;simp only [List.append_assoc]) (by rw [List.length_append,hl];rfl)
 have h3:W.rangeAt g (o + 213) (acl x.v):=sub_range h (pre:=[.bool x.ask] ++ (stl x.q ++ sph x)) (post:=[]) (by unfold spl;simp only [List.append_assoc,List.append_nil]) (by rw [List.length_append,List.length_append,hl];rfl)
 exact ⟨h 0 _ rfl,loadSt_mid h1 ho.q,h2 0 _ rfl,h2 1 _ rfl,h2 2 _ rfl,h2 3 _ rfl,loadAc_mid h3 ho.v.1⟩
theorem info_sp:(Tryz.prog.info? 64).map (fun i=>(i.zero,i.size,decide (i.bytes≤100000)))=some (some (.agg (spc spZ)),253,true):=by kernel_rfl
theorem eltSp (w:World):Elt spl (SpOk w) 253 64 22:=by
 refine ⟨by omega,fun _ h=>spl_length h,spl_one,by kernel_rfl,by kernel_rfl,?_⟩
 obtain ⟨i,hi,h⟩:=Option.map_eq_some_iff.1 info_sp
 injection h with h1 h
 injection h with h2 h3
 exact ⟨i,_,hi,h1,h2,of_decide_eq_true h3,by show (spc spZ).size=253;exact spc_size (spZ_ok w)⟩
section
variable {H:Type} {enc:TypeId × Value→H} {w:World} {base:Nat} {spare:Nat→Bool} {held:Bool} {fuel:Nat} {cs:List Value} {x:DataW H × List MemPlace}
theorem fields_sp:∃ f0 f1 f2 f3 f4 f5 f6:Field,Tryz.prog.underlying 64=some (.struct #[f0,f1,f2,f3,f4,f5,f6])∧(f0.type,f0.offset)=(4,0)∧(f1.type,f1.offset)=(59,1)∧(f2.type,f2.offset)=(4,209)
  ∧ (f3.type,f3.offset)=(4,210)∧(f4.type,f4.offset)=(3,211)∧(f5.type,f5.offset)=(60,212)∧(f6.type,f6.offset)=(62,213):=
 ⟨_,_,_,_,_,_,_,Tryz.underlying64,rfl,rfl,rfl,rfl,rfl,rfl,rfl⟩
theorem trod_sp (h:DataW.trod enc Tryz.prog w base spare held fuel 64 cs=some x):∃ a,SpOk w a∧cs=spl a:=by
 obtain ⟨f0,f1,f2,f3,f4,f5,f6,hu,e0,e1,e2,e3,e4,e5,e6⟩:=fields_sp
 injection e0 with t0 o0
 injection e1 with t1 o1
 injection e2 with t2 o2
 injection e3 with t3 o3
 injection e4 with t4 o4
 injection e5 with t5 o5
 injection e6 with t6 o6
 obtain ⟨xs,m,_,_,hlen,hxl,hf⟩:=DataW.trod_struct hu h
 have hc:Tryz.prog.cellsOf 64=253:=by kernel_rfl
 have hcb:Tryz.prog.cellsOf 4=1:=by kernel_rfl
 have hci:Tryz.prog.cellsOf 3=1:=by kernel_rfl
 have hcs:Tryz.prog.cellsOf 59=208:=by kernel_rfl
 have hcl:Tryz.prog.cellsOf 60=1:=by kernel_rfl
 have hca:Tryz.prog.cellsOf 62=40:=by kernel_rfl
 rw [hc] at hlen
 have hx:xs.length=7:=hxl
 have g0:=hf 0 f0 rfl
 have g1:=hf 1 f1 rfl
 have g2:=hf 2 f2 rfl
 have g3:=hf 3 f3 rfl
 have g4:=hf 4 f4 rfl
 have g5:=hf 5 f5 rfl
 have g6:=hf 6 f6 rfl
 rw [t0,o0,hcb,List.getElem?_eq_getElem (by omega)] at g0
 rw [t1,o1,hcs,List.getElem?_eq_getElem (by omega)] at g1
 rw [t2,o2,hcb,List.getElem?_eq_getElem (by omega)] at g2
 rw [t3,o3,hcb,List.getElem?_eq_getElem (by omega)] at g3
 rw [t4,o4,hci,List.getElem?_eq_getElem (by omega)] at g4
 rw [t5,o5,hcl,List.getElem?_eq_getElem (by omega)] at g5
 rw [t6,o6,hca,List.getElem?_eq_getElem (by omega)] at g6
 obtain ⟨b0,c0,_⟩:=DataW.trod_bool Tryz.underlying4 g0
 obtain ⟨s1,hs1,c1⟩:=trod_st g1
 obtain ⟨b2,c2,_⟩:=DataW.trod_bool Tryz.underlying4 g2
 obtain ⟨b3,c3,_⟩:=DataW.trod_bool Tryz.underlying4 g3
 obtain ⟨n4,c4,_,_⟩:=DataW.trod_int Tryz.underlying3 g4
 obtain ⟨v5,L5,c5,hv5,hL5⟩:=trod_ats g5
 obtain ⟨a6,ha6,c6⟩:=trod_act g6
 obtain ⟨A5,d5,rfl⟩:=hv5.shape
 refine ⟨⟨b0,s1,b2,b3,n4,L5,A5,d5,a6⟩,⟨hs1,hv5,hL5,ha6⟩,?_⟩
 have e:cs=cs.drop 0:=rfl
 rw [e,drop_part c0,drop_part c1,drop_part c2,drop_part c3,drop_part c4,drop_part c5,drop_part c6,List.drop_eq_nil_of_le (by omega)]
 unfold spl sph SpM.l
 simp only [List.append_nil,List.cons_append,List.nil_append]
theorem trod_sps (h:DataW.trod enc Tryz.prog w base spare held fuel 22 cs=some x):∃ v L,cs=[v]∧Els spl 253 w v L∧∀ a ∈ L,SpOk w a:=
 (eltSp w).trod spZ (spZ_ok w) (fun h=>trod_sp h) h
end
noncomputable def sliceAc1 (u : Value) (w : World) : Result Next := Sem.run Tryz.prog (execOp (fun _ => u) { dst := none, op := .buildSlice 101 1 #[(0, .tmp 0)], type := 0, pos := "", after := #[], guard := none }) w
theorem exec_slice_ac1 (r:Operand→Value) (x:Operand) (dst:Option Tmp) (ty:TypeId) (pos:String) (after:Array Edge) (guard:Option (Nat × Bool)) (w:World):
  Sem.run Tryz.prog (execOp r { dst:=dst,op:=.buildSlice 101 1 #[(0,x)],type:=ty,pos:=pos,after:=after,guard:=guard }) w=sliceAc1 (r x) w:=by
 unfold sliceAc1 execOp
 simp
theorem sliceAc1_eq {a:ActM} (ha:a.s.Ok) (w:World):sliceAc1 (.agg (acc a)) w=.ok (.value (.slice (some ⟨w.heap.size,0,none⟩) 1 1)) (w.alloc (.cells (acc a) 62)):=by
 have hsz:(acc a).size=40:=acc_size ha
 have e0:(acc a).zipIdx=((acl a).zipIdx).toArray:=by unfold acc;simp
 unfold sliceAc1
 go_simp
 have e:=putAt_mid (acl a) [] (acl actZ) [] (by rw [acl_length ha,acl_length seZ_ok])
 simp only [List.nil_append,List.append_nil,List.length_nil] at e
 rw [← fold_putSg] at e
 exact congrArg (fun C=>w.alloc (.cells C 62)) e
def LitSp (L:List SpM):Prop:=L.length≤30∧∀ j (h:j < L.length),litS L[j].q=true∧L[j].L.length≤25∧L[j].v.bl.length≤1200
end Go.Proofs.YtpdnnmabijmfbaaGreatDoor
