/-
  AtEq AtArg BkSame BkMay BkArg: what each of them says stands at its head.
-/
import Derived.Test.YtpdnnmabijmfbaaGreatDoorBs7
namespace Go.Proofs.YtpdnnmabijmfbaaGreatDoor
set_option maxRecDepth 20000
open Go.RowKit
theorem eq_hash_at (d:Nat) (a b:List UInt8) (ha:a.length=32) (hb:b.length=32) (w:World):(Op.equalIn (d + 2) 38 (.agg (hcells a)) (.agg (hcells b))).run Tryz.prog w=.ok (decide (a=b)) w:=by
 obtain ⟨i0,hi,_⟩:=info_parts info_u8
 rw [run_equalIn_array w (d + 1) (hcells a) (hcells b) under_hash hi,eqItems_bytes d a b w _ (fun i h=>by have:=List.mem_range.1 h;omega)]
 congr 1
 rw [Bool.eq_iff_iff]
 simp only [List.all_eq_true,List.mem_range,decide_eq_true_eq]
 constructor
 ·intro h
  apply List.ext_getElem?
  intro i
  by_cases h32:i < 32
  ·exact h i h32
  ·rw [List.getElem?_eq_none (by omega),List.getElem?_eq_none (by omega)]
 ·rintro rfl i _
  rfl
def eqF (d:Nat) (xs ys:Array Value):List (TypeId × Nat × Bool)→Sem Bool
 | []=>pure true
 | (t,o,s) :: fs=>
  if s=true then eqF d xs ys fs
  else do
   let a ← Go.part t xs o
   let b ← Go.part t ys o
   let r ← Op.equalIn d t a b
   if (!r)=true then pure false else eqF d xs ys fs
theorem eqF_of (d : Nat) (xs ys : Array Value) : ∀ fs : List Field, Op.eqFields d xs ys fs = eqF d xs ys (fs.map fun f => (f.type, f.offset, f.name == "_"))
 | []=>rfl
 | f :: fs=>by
  unfold Op.eqFields
  rw [eqF_of d xs ys fs,List.map_cons]
  conv=>rhs;unfold eqF
  by_cases h : f.name = "_" <;> simp [h]
theorem eqF_step {P:Program} {d:Nat} {xs ys:Array Value} {t:TypeId} {o:Nat} {fs:List (TypeId × Nat × Bool)} {w:World} {u v:Value} {r:Bool} (h1:(Go.part t xs o).run P w=.ok u w) (h2:(Go.part t ys o).run P w=.ok v w)
  (h3:(Op.equalIn d t u v).run P w=.ok r w):(eqF d xs ys ((t,o,false) :: fs)).run P w=if r=true then (eqF d xs ys fs).run P w else .ok false w:=by
 conv=>lhs;unfold eqF
 simp only [Bool.false_eq_true,if_false,Sem.run_bind,h1,h2,h3,Result.andThen_ok]
 cases r <;> rfl
theorem fields_att : (Tryz.prog.fieldsOf 54).toList.map (fun f => (f.type, f.offset, f.name == "_")) =
  [(3,0,false),(3,1,false),(3,2,false),(3,3,false),(38,4,false),(3,36,false),(38,37,false),(38,69,false)]:=by kernel_rfl
theorem under_att_int:Tryz.prog.underlying 3=some (.int .i64):=by kernel_rfl
theorem part_att_hash {w:World} {C:Array Value} {o:Nat} {l:List UInt8} (h:(C.toList.drop o).take 32=bcells l):(Go.part 38 C o).run Tryz.prog w=.ok (.agg (hcells l)) w:=by
 have hz:=size_hash
 obtain ⟨i,hi,hs⟩:=Option.map_eq_some_iff.1 hz
 have hc:Tryz.prog.cellsOf 38=32:=by kernel_rfl
 have e:C.extract o (o + 32)=hcells l:=by
  apply Array.ext'
  rw [hcells_list,← h,Array.toList_extract,List.extract_eq_take_drop]
  simp
 unfold Go.part
 simp only [Sem.run_bind,isAgg,run_underlying under_hash,Result.andThen_ok,run_sizeOf w hi,hc,e,Sem.run_pure,if_true]
theorem part_att_int {w:World} {C:Array Value} {o:Nat} {v:Value} (h:C[o]?=some v):(Go.part 3 C o).run Tryz.prog w=.ok v w:=run_part_plain (P:=Tryz.prog) w (by kernel_rfl) h
theorem drop_at {α:Type} {l pre m post:List α} {o:Nat} (e:l=pre ++ (m ++ post)) (ho:pre.length=o) (hm:m.length=32):(l.drop o).take 32=m:=by
 subst e ho
 rw [List.drop_left,← hm,List.take_left]
set_option maxHeartbeats 1600000 in
theorem eq_att (a b:AtM) (ho:a.Ok) (hp:b.Ok) (w:World):(Op.equalIn 10000 54 (.agg (atc a)) (.agg (atc b))).run Tryz.prog w=.ok (decide (a=b)) w:=by
 have K:∀ c:AtM,c.Ok→(atc c)[0]?=some (.int .i64 c.bo)∧(atc c)[1]?=some (.int .i64 c.ki)∧(atc c)[2]?=some (.int .i64 c.vi)∧(atc c)[3]?=some (.int .i64 c.ph)∧(atc c)[36]?=some (.int .i64 c.pv)
   ∧ ((atc c).toList.drop 4).take 32=bcells c.ha∧((atc c).toList.drop 37).take 32=bcells c.pa∧((atc c).toList.drop 69).take 32=bcells c.tg:=by
  intro c hc
  refine ⟨rfl,rfl,rfl,rfl,?_,?_,?_,?_⟩
  ·unfold atc atl
   rw [List.getElem?_toArray,List.getElem?_append_right (by simp),List.getElem?_append_right (by simp [bcells_length,hc.ha])]
   simp [bcells_length,hc.ha]
  ·exact drop_at (pre:=[.int .i64 c.bo,.int .i64 c.ki,.int .i64 c.vi,.int .i64 c.ph]) (m:=bcells c.ha) (post:=[.int .i64 c.pv] ++ (bcells c.pa ++ bcells c.tg)) rfl rfl (by rw [bcells_length,hc.ha])
  ·exact drop_at (pre:=[.int .i64 c.bo,.int .i64 c.ki,.int .i64 c.vi,.int .i64 c.ph] ++ (bcells c.ha ++ [.int .i64 c.pv])) (m:=bcells c.pa) (post:=bcells c.tg) (by show atl c=_;unfold atl;simp only [List.append_assoc]) (by simp [bcells_length,hc.ha]) (by rw [bcells_length,hc.pa])
  ·exact drop_at (pre:=[.int .i64 c.bo,.int .i64 c.ki,.int .i64 c.vi,.int .i64 c.ph] ++ (bcells c.ha ++ ([.int .i64 c.pv] ++ bcells c.pa))) (m:=bcells c.tg) (post:=[]) (by show atl c=_;unfold atl;simp only [List.append_assoc,List.append_nil]) (by simp [bcells_length,hc.ha,hc.pa]) (by rw [bcells_length,hc.tg])
 obtain ⟨a0,a1,a2,a3,a4,a5,a6,a7⟩:=K a ho
 obtain ⟨b0,b1,b2,b3,b4,b5,b6,b7⟩:=K b hp
 have EI:∀ x y:Int,(Op.equalIn 9999 3 (.int .i64 x) (.int .i64 y)).run Tryz.prog w=.ok (x == y) w:=fun x y=>run_equalIn_int (P:=Tryz.prog) w 9998 3 .i64 .i64 x y under_att_int
 rw [run_equalIn_struct w 9999 _ _ _ under_att (by kernel_rfl),eqF_of,fields_att]
 rw [eqF_step (part_att_int a0) (part_att_int b0) (EI _ _),eqF_step (part_att_int a1) (part_att_int b1) (EI _ _),eqF_step (part_att_int a2) (part_att_int b2) (EI _ _),eqF_step (part_att_int a3) (part_att_int b3) (EI _ _),
  eqF_step (part_att_hash a5) (part_att_hash b5) (eq_hash_at 9997 _ _ ho.ha hp.ha w),eqF_step (part_att_int a4) (part_att_int b4) (EI _ _),
  eqF_step (part_att_hash a6) (part_att_hash b6) (eq_hash_at 9997 _ _ ho.pa hp.pa w),eqF_step (part_att_hash a7) (part_att_hash b7) (eq_hash_at 9997 _ _ ho.tg hp.tg w)]
 obtain ⟨p1,p2,p3,p4,p5,p6,p7,p8⟩:=a
 obtain ⟨q1,q2,q3,q4,q5,q6,q7,q8⟩:=b
 simp only [eqF,Sem.run_pure,AtM.mk.injEq,beq_iff_eq,decide_eq_true_eq]
 (repeat' split) <;> simp_all
end Go.Proofs.YtpdnnmabijmfbaaGreatDoor
namespace Go.Proofs.YtpdnnmabijmfbaaGreatDoor
set_option maxRecDepth 20000
open Go.ChangeShapes Go.WideShapes Go.ChangeAt Go.RowKit Go.Deep
theorem drop_part {α:Type} {cs l:List α} {o k:Nat} (h:(cs.drop o).take k=l):cs.drop o=l ++ cs.drop (o + k):=by
 conv=>lhs;rw [← List.take_append_drop k (cs.drop o),List.drop_drop,h]
section
variable {H:Type} {enc:TypeId × Value→H} {w:World} {base:Nat} {spare:Nat→Bool} {held:Bool} {fuel:Nat} {cs:List Value} {x:DataW H × List MemPlace}
theorem fields_at:∃ f0 f1 f2 f3 f4 f5 f6 f7:Field,Tryz.prog.underlying 54=some (.struct #[f0,f1,f2,f3,f4,f5,f6,f7])∧(f0.type,f0.offset)=(3,0)∧(f1.type,f1.offset)=(3,1)∧(f2.type,f2.offset)=(3,2)
  ∧ (f3.type,f3.offset)=(3,3)∧(f4.type,f4.offset)=(38,4)∧(f5.type,f5.offset)=(3,36)∧(f6.type,f6.offset)=(38,37)∧(f7.type,f7.offset)=(38,69):=
 ⟨_,_,_,_,_,_,_,_,Tryz.underlying54,rfl,rfl,rfl,rfl,rfl,rfl,rfl,rfl⟩
theorem trod_at (h:DataW.trod enc Tryz.prog w base spare held fuel 54 cs=some x):∃ a:AtM,a.Ok∧cs=atl a:=by
 obtain ⟨f0,f1,f2,f3,f4,f5,f6,f7,hu,e0,e1,e2,e3,e4,e5,e6,e7⟩:=fields_at
 injection e0 with t0 o0
 injection e1 with t1 o1
 injection e2 with t2 o2
 injection e3 with t3 o3
 injection e4 with t4 o4
 injection e5 with t5 o5
 injection e6 with t6 o6
 injection e7 with t7 o7
 obtain ⟨xs,m,_,_,hlen,hxl,hf⟩:=DataW.trod_struct hu h
 have hc:Tryz.prog.cellsOf 54=101:=by kernel_rfl
 have hci:Tryz.prog.cellsOf 3=1:=by kernel_rfl
 have hch:Tryz.prog.cellsOf 38=32:=by kernel_rfl
 rw [hc] at hlen
 have hx:xs.length=8:=hxl
 have g0:=hf 0 f0 rfl
 have g1:=hf 1 f1 rfl
 have g2:=hf 2 f2 rfl
 have g3:=hf 3 f3 rfl
 have g4:=hf 4 f4 rfl
 have g5:=hf 5 f5 rfl
 have g6:=hf 6 f6 rfl
 have g7:=hf 7 f7 rfl
 rw [t0,o0,hci,List.getElem?_eq_getElem (by omega)] at g0
 rw [t1,o1,hci,List.getElem?_eq_getElem (by omega)] at g1
 rw [t2,o2,hci,List.getElem?_eq_getElem (by omega)] at g2
 rw [t3,o3,hci,List.getElem?_eq_getElem (by omega)] at g3
 rw [t4,o4,hch,List.getElem?_eq_getElem (by omega)] at g4
 rw [t5,o5,hci,List.getElem?_eq_getElem (by omega)] at g5
 rw [t6,o6,hch,List.getElem?_eq_getElem (by omega)] at g6
 rw [t7,o7,hch,List.getElem?_eq_getElem (by omega)] at g7
 obtain ⟨n0,c0,_,_⟩:=DataW.trod_int Tryz.underlying3 g0
 obtain ⟨n1,c1,_,_⟩:=DataW.trod_int Tryz.underlying3 g1
 obtain ⟨n2,c2,_,_⟩:=DataW.trod_int Tryz.underlying3 g2
 obtain ⟨n3,c3,_,_⟩:=DataW.trod_int Tryz.underlying3 g3
 obtain ⟨ha,h4,c4⟩:=trod_hash g4
 obtain ⟨n5,c5,_,_⟩:=DataW.trod_int Tryz.underlying3 g5
 obtain ⟨pa,h6,c6⟩:=trod_hash g6
 obtain ⟨tg,h7,c7⟩:=trod_hash g7
 refine ⟨⟨n0,n1,n2,n3,ha,n5,pa,tg⟩,⟨h4,h6,h7⟩,?_⟩
 have e:cs=cs.drop 0:=rfl
 rw [e,drop_part c0,drop_part c1,drop_part c2,drop_part c3,drop_part c4,drop_part c5,drop_part c6,drop_part c7,List.drop_eq_nil_of_le (by omega)]
 unfold atl
 simp only [List.append_nil,List.cons_append,List.nil_append]
end
end Go.Proofs.YtpdnnmabijmfbaaGreatDoor
namespace Go.Proofs.YtpdnnmabijmfbaaGreatDoor
set_option maxRecDepth 20000
open Go.RowKit
attribute [local go_sem ↓] exec_load_tx exec_load_hash
set_option maxHeartbeats 1600000 in
theorem refSame7_any (va vb:Value) (a b:BkM) (w:World) (hva:BkV w va a) (hvb:BkV w vb b):
  Calls Tryz.prog 166 #[va,vb] w fun e w'=>e=.returned (.bool (sameK a b))∧Below w.heap.size w w':=by
 obtain ⟨sa,rfl,hpa,hta⟩:=hva
 obtain ⟨sb,rfl,hpb,htb⟩:=hvb
 have hb0:Below w.heap.size w ((w.alloc (.cells (bkc a sa) 49)).alloc (.cells (bkc b sb) 49)):=((Below.refl _ _).alloc (Nat.le_refl _) _).alloc (by simp) _
 have hA:BoxK ((w.alloc (.cells (bkc a sa) 49)).alloc (.cells (bkc b sb) 49)) w.heap.size a sa:=(Below.heap_alloc _ _ _ (by simp)).trans (heap_alloc_new w _)
 have hB:BoxK ((w.alloc (.cells (bkc a sa) 49)).alloc (.cells (bkc b sb) 49)) (w.heap.size + 1) b sb:=BoxK.two w _ b sb
 have hta0:=hta.below hb0
 have htb0:=htb.below hb0
 obtain ⟨AA,ca,rfl⟩:=hta.shape
 obtain ⟨AB,cb,rfl⟩:=htb.shape
 obtain ⟨CA,HCA⟩:∃ C:Array Value,Hid (bkc a (.slice AA a.txs.length ca)=C):=⟨_,hid rfl⟩
 obtain ⟨CB,HCB⟩:∃ C:Array Value,Hid (bkc b (.slice AB b.txs.length cb)=C):=⟨_,hid rfl⟩
 rw [HCA.out,HCB.out] at hA hB hb0 hta0 htb0 ⊢
 obtain ⟨ans,HAN⟩:∃ q:Bool,Hid (sameK a b=q):=⟨_,hid rfl⟩
 rw [HAN.out]
 go_enter Tryz.func166,Tryz.ntmps166
 go_upto_region 1 with (fail)
 generalize ((w.alloc (.cells CA 49)).alloc (.cells CB 49))=w0 at *
 clear HCA HCB hta htb
 obtain ⟨a1,a2,a3,a4⟩:=hA.cells hpa
 obtain ⟨b1,b2,b3,b4⟩:=hB.cells hpb
 have la:=loadH_mid hA.range hpa
 have lb:=loadH_mid hB.range hpb
 have heq:=eq_hash a.par b.par hpa hpb w0
 clear hA hB
 obtain ⟨q,HQ⟩:∃ q:Bool,Hid (decide (a.par=b.par)=q):=⟨_,hid rfl⟩
 rw [HQ.out] at heq
 obtain ⟨HA,HHA⟩:∃ C:Array Value,Hid (hcells a.par=C):=⟨_,hid rfl⟩
 obtain ⟨HB,HHB⟩:∃ C:Array Value,Hid (hcells b.par=C):=⟨_,hid rfl⟩
 rw [HHA.out] at la heq
 rw [HHB.out] at lb heq
 clear HHA HHB
 obtain ⟨LA,HLA⟩:∃ n:Nat,Hid (a.txs.length=n):=⟨_,hid rfl⟩
 obtain ⟨LB,HLB⟩:∃ n:Nat,Hid (b.txs.length=n):=⟨_,hid rfl⟩
 rw [HLA.out] at a4 hta0
 rw [HLB.out] at b4 htb0
 have hlena:=hta0.len
 have hlenb:=htb0.len
 rw [HLA.out] at hlena
 rw [HLB.out] at hlenb
 unfold maxLen at hlena hlenb
 obtain ⟨pa,va,ha,oa,ta⟩:=a
 obtain ⟨pb,vb,hh,ob,tb⟩:=b
 simp only at a1 a2 a3 a4 b1 b2 b3 b4 hta0 htb0 HQ HLA HLB hpa hpb
 have hway:(q=false)∨(q=true∧va≠vb)∨(q=true∧va=vb∧ha≠hh)∨(q=true∧va=vb∧ha=hh∧oa≠ob)∨(q=true∧va=vb∧ha=hh∧oa=ob∧LA≠LB)∨(q=true∧va=vb∧ha=hh∧oa=ob∧LA=LB):=by
  cases q
  ·exact .inl rfl
  ·right
   by_cases e1:va=vb
   ·right
    by_cases e2:ha=hh
    ·right
     by_cases e3:oa=ob
     ·right
      by_cases e4:LA=LB
      ·exact .inr ⟨rfl,e1,e2,e3,e4⟩
      ·exact .inl ⟨rfl,e1,e2,e3,e4⟩
     ·exact .inl ⟨rfl,e1,e2,e3⟩
    ·exact .inl ⟨rfl,e1,e2⟩
   ·exact .inl ⟨rfl,e1⟩
 obtain rfl | ⟨rfl,e1⟩ | ⟨rfl,rfl,e2⟩ | ⟨rfl,rfl,rfl,e3⟩ | ⟨rfl,rfl,rfl,rfl,e4⟩ | ⟨rfl,rfl,rfl,rfl,rfl⟩:=hway
 ·obtain rfl:ans=false:=by
   rw [← HAN.out]
   exact sameK_no (fun e=>by injection e with e _;exact of_decide_eq_false HQ.out e)
  go_wp2_with fail
  go_ret
  exact ⟨rfl,hb0⟩
 ·obtain rfl:ans=false:=by
   rw [← HAN.out]
   exact sameK_no (fun e=>by injection e with _ e _;exact e1 e)
  have t1:(va != vb)=true:=by simpa using e1
  clear e1
  go_wp2_with fail
  go_ret
  exact ⟨rfl,hb0⟩
 ·obtain rfl:ans=false:=by
   rw [← HAN.out]
   exact sameK_no (fun e=>by injection e with _ _ e _;exact e2 e)
  have t1:(va != va)=false:=by simp
  have t2:(ha != hh)=true:=by simpa using e2
  clear e2
  go_wp2_with fail
  go_ret
  exact ⟨rfl,hb0⟩
 ·obtain rfl:ans=false:=by
   rw [← HAN.out]
   exact sameK_no (fun e=>by injection e with _ _ _ e _;exact e3 e)
  have t1:(va != va)=false:=by simp
  have t2:(ha != ha)=false:=by simp
  have t3:(oa != ob)=true:=by simpa using e3
  clear e3
  go_wp2_with fail
  go_ret
  exact ⟨rfl,hb0⟩
 ·obtain rfl:ans=false:=by
   rw [← HAN.out]
   exact sameK_no (fun e=>by injection e with _ _ _ _ e;rw [e] at HLA;exact e4 (HLA.out.symm.trans HLB.out))
  have t1:(va != va)=false:=by simp
  have t2:(ha != ha)=false:=by simp
  have t3:(oa != oa)=false:=by simp
  have t4:((LA:Int) != (LB:Int))=true:=by simp;omega
  clear e4
  go_wp2_with fail
  go_ret
  exact ⟨rfl,hb0⟩
 ·have t1:(va != va)=false:=by simp
  have t2:(ha != ha)=false:=by simp
  have t3:(oa != oa)=false:=by simp
  have t4:((LA:Int) != (LA:Int))=false:=by simp
  go_wp2_with fail
  clear t1 t2 t3 t4 heq la lb a1 a2 a3 b1 b2 b3
  obtain ⟨_,hca1,hca2,hra⟩:=hta0.at_
  obtain ⟨_,hcb1,hcb2,hrb⟩:=htb0.at_
  rw [HLA.out] at hca1
  rw [HLB.out] at hcb1
  unfold maxLen at hca2 hcb2
  have HRA:=hid hra
  have HRB:=hid hrb
  clear hra hrb hta0 htb0
  go_loopw [5] (fun si wr=>∃ i:Nat,i≤LA∧si=.int .i64 i∧Hid (∀ j (h:j < ta.length) (h2:j < tb.length),j < i→ta[j]=tb[j])∧∃ n,wr=w0.drewN n) (fun si _=>LA - (intOf si).toNat)
  case atStart=>exact ⟨0,Nat.zero_le _,rfl,hid (fun j _ _ h=>absurd h (by omega)),0,rfl⟩
  case round=>
   obtain ⟨i,hi,rfl,HB,n,rfl⟩:=hrel
   by_cases hlt:i < LA
   ·have hil:i < ta.length:=by rw [HLA.out];exact hlt
    have him:i < tb.length:=by rw [HLB.out];exact hlt
    obtain ⟨ba,oa',rfl,hba,hcla⟩:=HRA.out (by omega)
    obtain ⟨bb,ob',rfl,hbb,hclb⟩:=HRB.out (by omega)
    have l1:∀ k,loadTx (.pointer (some ⟨ba,oa' + i * 7,none⟩)) (w0.drewN k)=.ok (.value (txv ta[i])) (w0.drewN k):=fun k=>loadTx_mid (hcla i hil)
    have l2:∀ k,loadTx (.pointer (some ⟨bb,ob' + i * 7,none⟩)) (w0.drewN k)=.ok (.value (txv tb[i])) (w0.drewN k):=fun k=>loadTx_mid (hclb i him)
    have hI:(i:Int) < (LA:Int):=by omega
    have eqt:∀ W,(Op.equalIn 10000 170 (txv ta[i]) (txv tb[i])).run Tryz.prog W=.ok (decide (ta[i]=tb[i])) W:=fun W=>eq_tx2 _ _ W
    clear hcla hclb
    obtain ⟨X,HX⟩:∃ C:Array Value,Hid ((tcl ta[i]).toArray=C):=⟨_,hid rfl⟩
    obtain ⟨Y,HY⟩:∃ C:Array Value,Hid ((tcl tb[i]).toArray=C):=⟨_,hid rfl⟩
    rw [txv_tcl,HX.out] at l1 eqt
    rw [txv_tcl,HY.out] at l2 eqt
    by_cases hxy:ta[i]=tb[i]
    ·rw [decide_eq_true hxy] at eqt
     go_wp2_with fail
     go_quiet (fail)
     go_wp2
     go_roundw
     case rel=>
      refine ⟨i + 1,by omega,by go_num,hid (fun j h h2 hj=>?_),_,rfl⟩
      by_cases hji:j < i
      ·exact HB.out j h h2 hji
      ·obtain rfl:j=i:=by omega
       exact hxy
     case measure=>simp [intOf];omega
    ·rw [decide_eq_false hxy] at eqt
     go_wp2_with fail
     go_quiet (fail)
     go_wp2
     go_ret
     have e:ans=false:=by
      rw [← HAN.out]
      exact sameK_no (fun e=>by injection e with _ _ _ _ e;subst e;exact hxy rfl)
     subst e
     exact ⟨rfl,below_drewN (below_drewN hb0 _) _⟩
   ·obtain rfl:i=LA:=by omega
    go_wp2
    go_ret
    have e:ans=true:=by
     rw [← HAN.out]
     refine sameK_iff.2 ?_
     have hp:pa=pb:=of_decide_eq_true HQ.out
     have ht:ta=tb:=List.ext_getElem (by rw [HLA.out,HLB.out]) fun j h h2=>HB.out j h h2 (by have:=HLA.out;omega)
     rw [hp,ht]
    subst e
    exact ⟨rfl,below_drewN hb0 n⟩
end Go.Proofs.YtpdnnmabijmfbaaGreatDoor
namespace Go.Proofs.YtpdnnmabijmfbaaGreatDoor
set_option maxRecDepth 20000
open Go.RowKit
attribute [local go_sem ↓] exec_load_tx exec_load_bk exec_build_bk
def lightK (b:BkM):Prop:=∀ t ∈ b.txs,t.key.length≤1000000∧t.val.length≤1000000
theorem mayK_no {b:BkM} (hs:sameK b bkZ=false) {i:Nat} (hi:i < b.txs.length) (h:mayT b.txs[i]=false):mayK b=false:=by
 have ha:b.txs.all mayT=false:=by
  rw [List.all_eq_false]
  exact ⟨_,List.getElem_mem hi,by simp [h]⟩
 unfold mayK
 rw [hs,ha]
 rfl
theorem mayK_rest {b:BkM} (hs:sameK b bkZ=false) (h:∀ j (hj:j < b.txs.length),mayT b.txs[j]=true):mayK b=numsK b:=by
 have ha:b.txs.all mayT=true:=by
  rw [List.all_eq_true]
  intro t ht
  obtain ⟨j,hj,rfl⟩:=List.getElem_of_mem ht
  exact h j hj
 unfold mayK
 rw [hs,ha]
 rfl
set_option maxHeartbeats 1600000 in
theorem refMay7_any (v:Value) (b:BkM) (w:World) (hv:BkV w v b) (hlk:lightK b):
  Calls Tryz.prog 122 #[v] w fun e w'=>e=.returned (.bool (mayK b))∧Below w.heap.size w w':=by
 have HV:=hid hv
 obtain ⟨s,rfl,hp,ht⟩:=hv
 have hb0:Below w.heap.size w (w.alloc (.cells (bkc b s) 49)):=(Below.refl _ _).alloc (Nat.le_refl _) _
 have hA:=BoxK.new w b s
 have ht0:=ht.below hb0
 obtain ⟨A,c,rfl⟩:=ht.shape
 obtain ⟨C,HC⟩:∃ C:Array Value,Hid (bkc b (.slice A b.txs.length c)=C):=⟨_,hid rfl⟩
 have HSM:Hid (∀ W,Below w.heap.size w W→Calls Tryz.prog 166 #[.agg C,.agg (bkc bkZ (.slice none 0 0))] W fun e w'=>e=.returned (.bool (sameK b bkZ))∧Below W.heap.size W w'):=hid (fun W h=>by
  have:=HV.out.below h
  rw [HC.out] at this
  exact refSame7_any _ _ b bkZ W this ⟨_,rfl,bkZ_par,Txs.nil W⟩)
 obtain ⟨Z,HZ⟩:∃ C:Array Value,Hid (bkc bkZ (.slice none 0 0)=C):=⟨_,hid rfl⟩
 obtain ⟨ans,HAN⟩:∃ q:Bool,Hid (mayK b=q):=⟨_,hid rfl⟩
 obtain ⟨sm,HS⟩:∃ q:Bool,Hid (sameK b bkZ=q):=⟨_,hid rfl⟩
 rw [HZ.out,HS.out] at HSM
 have HLD:Hid (∀ W:World,BoxK W w.heap.size b (.slice A b.txs.length c)→loadK (.pointer (some ⟨w.heap.size,0,none⟩)) W=.ok (.value (.agg C)) W):=hid (fun W h=>by
  have:=loadK_eq h hp
  rw [HC.out] at this
  exact this)
 have hbz:∀ W,buildK W=.ok (.value (.agg Z)) W:=fun W=>by rw [← HZ.out];exact buildK_eq W
 rw [HAN.out,HC.out]
 rw [HC.out] at hA hb0 ht0
 clear ht HV
 go_enter Tryz.func122,Tryz.ntmps122
 go_upto_region 1 with (fail)
 generalize (w.alloc (.cells C 49))=w0 at *
 have hl0:=hA.lt
 have l0:=HLD.out w0 hA
 go_wp2_with fail
 refine (HSM.out w0 hb0).mono ?_
 rintro e w1 ⟨rfl,hb1⟩
 clear l0 hbz HZ HSM
 have hB1:=hb0.trans (hb1.mono hb0.size)
 have hA1:=hA.below hb1 hl0
 have ht1:=ht0.below hb1
 clear hA ht0
 cases sm with
 | true=>
  go_wp2_with fail
  go_ret
  have e:ans=true:=by
   rw [← HAN.out]
   unfold mayK
   rw [HS.out]
   rfl
  subst e
  exact ⟨rfl,hB1⟩
 | false=>
  go_wp2_with fail
  obtain ⟨L,HL⟩:∃ n:Nat,Hid (b.txs.length=n):=⟨_,hid rfl⟩
  have HA1:=hid hA1
  have HT1:=hid ht1
  have hlen:=ht1.len
  rw [HL.out] at hlen
  unfold maxLen at hlen
  have hl1:=hA1.lt
  clear hA1 ht1 hl0
  rw [HL.out] at HA1 HT1
  go_loopw [3] (fun si wr=>∃ i:Nat,i≤L∧si=.int .i64 i∧Hid (∀ j (h:j < b.txs.length),j < i→mayT b.txs[j]=true)∧Below w1.heap.size w1 wr) (fun si _=>L - (intOf si).toNat)
  case atStart=>exact ⟨0,Nat.zero_le _,rfl,hid (fun j _ h=>absurd h (by omega)),Below.refl _ _⟩
  case round=>
   obtain ⟨i,hi,rfl,HB,hbr⟩:=hrel
   have hBr:=hB1.trans (hbr.mono hB1.size)
   have hAr:=HA1.out.below hbr hl1
   obtain ⟨k1,k2,k3,k4⟩:=hAr.cells hp
   clear hAr
   by_cases hlt:i < L
   ·have hil:i < b.txs.length:=by rw [HL.out];exact hlt
    obtain ⟨_,hc1,hc2,hra⟩:=(HT1.out.below hbr).at_
    obtain ⟨ba,oa,rfl,hba,hcla⟩:=hra (by omega)
    have hI:(i:Int) < (L:Int):=by omega
    have l1:loadTx (.pointer (some ⟨ba,oa + i * 7,none⟩)) wr=.ok (.value (txv b.txs[i])) wr:=loadTx_mid (hcla i hil)
    have hkl:=hlk _ (List.getElem_mem hil)
    have HMT:Hid (∀ W,Calls Tryz.prog 167 #[txv b.txs[i]] W fun e w'=>e=.returned (.bool (mayT b.txs[i]))∧Below W.heap.size W w'):=hid (fun W=>refMay_any _ W hkl.1 hkl.2)
    obtain ⟨X,HX⟩:∃ C:Array Value,Hid ((tcl b.txs[i]).toArray=C):=⟨_,hid rfl⟩
    obtain ⟨m,HM⟩:∃ q:Bool,Hid (mayT b.txs[i]=q):=⟨_,hid rfl⟩
    rw [txv_tcl,HX.out] at l1
    rw [txv_tcl,HX.out,HM.out] at HMT
    clear hcla hkl hc1 hc2 k1 k2 k3
    go_wp2_with fail
    refine (HMT.out wr).mono ?_
    rintro e w2 ⟨rfl,hb2⟩
    have hbr2:=hbr.trans (hb2.mono hbr.size)
    have hB2:=hBr.trans (hb2.mono hBr.size)
    clear l1 k4
    cases m with
    | false=>
     go_wp2_with fail
     go_ret
     have e:ans=false:=by
      rw [← HAN.out]
      exact mayK_no HS.out hil HM.out
     subst e
     exact ⟨rfl,hB2⟩
    | true=>
     go_wp2_with fail
     go_roundw
     case rel=>
      refine ⟨i + 1,by omega,by go_num,hid (fun j h hj=>?_),hbr2⟩
      by_cases hji:j < i
      ·exact HB.out j h hji
      ·obtain rfl:j=i:=by omega
       exact HM.out
     case measure=>simp [intOf];omega
   ·obtain rfl:i=L:=by omega
    have HNK:Hid (ans=numsK b):=hid (by
     rw [← HAN.out]
     exact mayK_rest HS.out (fun j hj=>HB.out j hj (by have:=HL.out;omega)))
    clear HB
    obtain ⟨par,vi,he,bo,txs⟩:=b
    simp only at k1 k2 k3 HL
    go_wp2_with fail
    all_goals
     go_ret
     refine ⟨?_,hBr⟩
     refine congrArg (fun b=>Ending.returned (Value.bool b)) ?_
     rw [HNK.out]
     unfold numsK
     simp only [HL.out]
    all_goals grind
end Go.Proofs.YtpdnnmabijmfbaaGreatDoor
namespace Go.Proofs.YtpdnnmabijmfbaaGreatDoor
set_option maxRecDepth 20000
open Go.ChangeShapes Go.WideShapes Go.ChangeAt Go.RowKit Go.Deep
def sizedK (b:BkM):Prop:=∀ t ∈ b.txs,t.key.length≤maxLen∧t.val.length≤maxLen
section
variable {H:Type} {enc:TypeId × Value→H} {w:World} {base:Nat} {spare:Nat→Bool} {held:Bool} {fuel:Nat} {cs:List Value} {x:DataW H × List MemPlace}
theorem trod_txs (h:DataW.trod enc Tryz.prog w base spare held fuel 47 cs=some x):∃ v L,cs=[v]∧Txs w v L∧∀ t ∈ L,t.key.length≤maxLen∧t.val.length≤maxLen:=by
 have hc:Tryz.prog.cellsOf 170=7:=by kernel_rfl
 rcases open_slice Tryz.underlying47 h with ⟨rfl,_⟩ | ⟨a,len,cap,m,n,D,Pl,rfl,_,hl,hm,hmm,_,hi⟩
 ·exact ⟨_,[],rfl,⟨none,0,rfl,Nat.le_refl _,Nat.zero_le _,TxsA.nil _ _⟩,fun t ht=>by cases ht⟩
 ·have hlm:len≤m:=by rw [hmm];split <;> omega
  rw [hc] at hi
  have hex:∀ i,∃ t:TxM,(t.key.length≤maxLen∧t.val.length≤maxLen)∧(i < len→∀ j u,(tcl t)[j]?=some u→w.cell? (a.add (i * 7 + j))=some u):=by
   intro i
   by_cases hil:i < len
   ·obtain ⟨cs',hcs,ht⟩:=hi i (by omega)
    obtain ⟨t,hb,rfl⟩:=trod_tx ht
    obtain ⟨_,hlen',hat⟩:=World.cells?_some hcs
    refine ⟨t,hb,fun _ j u hu=>?_⟩
    have hj:j < 7:=by
     have:=(List.getElem?_eq_some_iff.1 hu).1
     rw [tcl_length] at this
     exact this
    rw [← Go.Deep.add_add,hat j hj]
    exact hu
   ·exact ⟨txZ,⟨Nat.zero_le _,Nat.zero_le _⟩,fun h=>absurd h hil⟩
  refine ⟨_,(List.range len).map fun i=>(hex i).choose,rfl,⟨some a,cap,by simp,by simpa using hl,hm,fun h0=>?_⟩,fun t ht=>?_⟩
  ·have h0':0 < len:=by simpa using h0
   obtain ⟨b,off,spot⟩:=a
   have hsp:=(hex 0).choose_spec.2 h0' 0 _ rfl
   have hspot:spot=none:=by simpa [Addr.add] using World.cell?_spot hsp
   subst hspot
   refine ⟨b,off,rfl,?_,fun i hil=>?_⟩
   ·have:=World.block_lt_of_cell? w _ hsp
    rw [addr_add] at this
    exact this
   ·have hil':i < len:=by simpa using hil
    simp only [List.getElem_map,List.getElem_range]
    intro j u hu
    have:=(hex i).choose_spec.2 hil' j u hu
    rw [addr_add] at this
    rw [← this,Nat.add_assoc]
  ·obtain ⟨i,_,rfl⟩:=List.mem_map.1 ht
   exact (hex i).choose_spec.1
theorem fields_bk:∃ f0 f1 f2 f3 f4:Field,Tryz.prog.underlying 49=some (.struct #[f0,f1,f2,f3,f4])∧(f0.type,f0.offset)=(38,0)∧(f1.type,f1.offset)=(3,32)∧(f2.type,f2.offset)=(3,33)
  ∧ (f3.type,f3.offset)=(3,34)∧(f4.type,f4.offset)=(47,35):=
 ⟨_,_,_,_,_,Tryz.underlying49,rfl,rfl,rfl,rfl,rfl⟩
theorem trod_bk (h:DataW.trod enc Tryz.prog w base spare held fuel 49 cs=some x):∃ b:BkM,BkV w (.agg cs.toArray) b∧sizedK b:=by
 obtain ⟨f0,f1,f2,f3,f4,hu,e0,e1,e2,e3,e4⟩:=fields_bk
 injection e0 with t0 o0
 injection e1 with t1 o1
 injection e2 with t2 o2
 injection e3 with t3 o3
 injection e4 with t4 o4
 obtain ⟨xs,m,_,_,hlen,hxl,hf⟩:=DataW.trod_struct hu h
 have hc:Tryz.prog.cellsOf 49=36:=by kernel_rfl
 have hci:Tryz.prog.cellsOf 3=1:=by kernel_rfl
 have hch:Tryz.prog.cellsOf 38=32:=by kernel_rfl
 have hcs:Tryz.prog.cellsOf 47=1:=by kernel_rfl
 rw [hc] at hlen
 have hx:xs.length=5:=hxl
 have g0:=hf 0 f0 rfl
 have g1:=hf 1 f1 rfl
 have g2:=hf 2 f2 rfl
 have g3:=hf 3 f3 rfl
 have g4:=hf 4 f4 rfl
 rw [t0,o0,hch,List.getElem?_eq_getElem (by omega)] at g0
 rw [t1,o1,hci,List.getElem?_eq_getElem (by omega)] at g1
 rw [t2,o2,hci,List.getElem?_eq_getElem (by omega)] at g2
 rw [t3,o3,hci,List.getElem?_eq_getElem (by omega)] at g3
 rw [t4,o4,hcs,List.getElem?_eq_getElem (by omega)] at g4
 obtain ⟨p,hp,c0⟩:=trod_hash g0
 obtain ⟨n1,c1,_,_⟩:=DataW.trod_int Tryz.underlying3 g1
 obtain ⟨n2,c2,_,_⟩:=DataW.trod_int Tryz.underlying3 g2
 obtain ⟨n3,c3,_,_⟩:=DataW.trod_int Tryz.underlying3 g3
 obtain ⟨v,L,c4,hL,hb⟩:=trod_txs g4
 refine ⟨⟨p,n1,n2,n3,L⟩,⟨v,?_,hp,hL⟩,hb⟩
 have d1:=cell_of_part c1
 have d2:=cell_of_part c2
 have d3:=cell_of_part c3
 have d4:=cell_of_part c4
 rw [List.drop_zero] at c0
 have e:cs=bcells p ++ [.int .i64 n1,.int .i64 n2,.int .i64 n3,v]:=by
  apply List.ext_getElem?
  intro i
  by_cases h32:i < 32
  ·rw [List.getElem?_append_left (by rw [bcells_length,hp];exact h32),← c0,List.getElem?_take_of_lt h32]
  ·rw [List.getElem?_append_right (by rw [bcells_length,hp];omega),bcells_length,hp]
   match i,h32 with
   | 32,_=>exact d1
   | 33,_=>exact d2
   | 34,_=>exact d3
   | 35,_=>exact d4
   | i + 36,_=>rw [List.getElem?_eq_none (by omega),List.getElem?_eq_none (by simp <;> omega)]
 unfold bkc
 rw [e]
end
end Go.Proofs.YtpdnnmabijmfbaaGreatDoor
