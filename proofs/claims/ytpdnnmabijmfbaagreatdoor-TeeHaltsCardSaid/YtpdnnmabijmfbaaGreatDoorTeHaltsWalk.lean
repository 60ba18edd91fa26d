/-
  TeeHalts: one that is started on a vault none of whose slots counts; nobody's: the law's walk. Printed with gente.py.
-/
import Derived.Test.YtpdnnmabijmfbaaGreatDoorTeAsk
import Derived.Test.YtpdnnmabijmfbaaGreatDoorTeAwake
import Derived.Test.YtpdnnmabijmfbaaGreatDoorTeLight
import Derived.Test.YtpdnnmabijmfbaaGreatDoorTeZero
namespace Go.Proofs.YtpdnnmabijmfbaaGreatDoor
set_option maxRecDepth 20000
open Go.RowKit
attribute [local go_sem ↓] exec_load_se exec_alloc_se exec_store_se exec_build_se exec_ne_se7 exec_load_att exec_alloc_att exec_store_att exec_build_att exec_ne_at7 exec_load_st exec_alloc_ax exec_store_ax exec_build_ct7 exec_build_te0
theorem noT_none (W:World):NoTee W (.pointer none):=.inl rfl
theorem NoTee.below {w W:World} {v:Value} (h:NoTee w v) (hb:Below w.heap.size w W):NoTee W v:=by
 rcases h with rfl | ⟨g,rfl,hc⟩
 ·exact .inl rfl
 ·exact .inr ⟨g,rfl,(hb.block g (lt_of_block hc)).trans hc⟩
theorem noTee_halts {w:World} {v:Value} (h:NoTee w v):∀ W,Below w.heap.size w W→Calls Tryz.prog 20 #[v] W fun e w'=>e=.returned (.bool true)∧W=w':=fun _ hb=>tHalted_no (h.below hb)
theorem th_meas {N k:Nat} (h:k < N) (h2:N≤30):N - (intOf (Value.int IntKind.i64 (wrap64 ((k:Int) + 1)))).toNat < N - (intOf (Value.int IntKind.i64 (k:Int))).toNat:=by
 have:wrap64 ((k:Int) + 1)=(k:Int) + 1:=by unfold wrap64;omega
 rw [this]
 simp only [intOf]
 omega
theorem load_none {n:Int} {l0 l1:List UInt8} (h0:hitB 2 n l0=false) (h1:hitB 2 n l1=false) (hn:1≤n):startT 2 3 ⟨2,l0,l1,n,-1,false,[]⟩=⟨2,3,⟨2,l0,l1,n,-1,false,[]⟩,seZ,8⟩:=by
 have hn':¬ n=0:=by omega
 have e1:loadE ⟨2,l0,l1,n,-1,false,[]⟩=8:=by
  unfold loadE
  simp only [Bool.false_eq_true,if_false,hn',h0,h1]
 have e2:loadS ⟨2,l0,l1,n,-1,false,[]⟩=seZ:=by
  unfold loadS
  simp only [Bool.false_eq_true,if_false,hn',h0,h1]
 unfold startT
 rw [e1,e2,if_neg (by decide)]
set_option maxHeartbeats 12800000 in
theorem lawTeeHalts_any (n:Int) (v0 v1:Value) (l0 l1:List UInt8) (v:Value) (L:List SpM) (w:World) (hy0:Byt w v0 l0) (hy1:Byt w v1 l1) (hv:Els spl 253 w v L) (ho:∀ x ∈ L,SpOk w x) (hK:Kst 1 w) (hK2:Kst 0 w):
  Calls Tryz.prog 4 #[.int .i64 n,.agg #[v0,v1],v] w fun e w'=>e=.returned (.bool true)∧Below w.heap.size w w':=by
 have HAW:Hid (∀ W,Below w.heap.size w W→Calls Tryz.prog 7 #[] W fun e w'=>e=.returned (.bool true)∧Below W.heap.size W w'):=hid (fun W hb=>teAwake_any W (hK.below hb) (hK2.below hb))
 have HB0:=hid (show Below w.heap.size w (w.alloc (.cells #[v0,v1] 34)) from (Below.refl _ _).alloc (Nat.le_refl _) _)
 have hr0:=heap_alloc_new w (.cells #[v0,v1] 34)
 have HC:Hid (∀ W,Below (w.alloc (.cells #[v0,v1] 34)).heap.size (w.alloc (.cells #[v0,v1] 34)) W→W.cell? ⟨w.heap.size,0,none⟩=some v0∧W.cell? ⟨w.heap.size,1,none⟩=some v1):=hid (fun W hb=>by
  have:=(hb.block _ (lt_of_block hr0)).trans hr0
  exact ⟨by rw [coBlk_cell this];rfl,by rw [coBlk_cell this];rfl⟩)
 have HLG:Hid (∀ W,Below w.heap.size w W→Calls Tryz.prog 5 #[v] W (LgPost L W)):=hid (fun W hb=>light17_any v L W (hv.below hb) (fun x hx=>(ho x hx).below hb))
 obtain ⟨n0,HN0⟩:∃ x,Hid ((getB 2 l0).1=x):=⟨_,hid rfl⟩
 obtain ⟨G0,HG0⟩:∃ x,Hid (sec (getB 2 l0).2.1=x):=⟨_,hid rfl⟩
 obtain ⟨e0,HE0⟩:∃ x,Hid ((getB 2 l0).2.2=x):=⟨_,hid rfl⟩
 obtain ⟨n1,HN1⟩:∃ x,Hid ((getB 2 l1).1=x):=⟨_,hid rfl⟩
 obtain ⟨G1,HG1⟩:∃ x,Hid (sec (getB 2 l1).2.1=x):=⟨_,hid rfl⟩
 obtain ⟨e1,HE1⟩:∃ x,Hid ((getB 2 l1).2.2=x):=⟨_,hid rfl⟩
 have HGS:Hid ((G0.size=35∧G0.all (·.oneCell')=true)∧G1.size=35∧G1.all (·.oneCell')=true):=hid (by rw [← HG0.out,← HG1.out];exact ⟨⟨sec_size (getB_ok' _ _),sec_one _⟩,sec_size (getB_ok' _ _),sec_one _⟩)
 have HGT:Hid (l0.length≤1000→l1.length≤1000→∀ W,Below w.heap.size w W→(Calls Tryz.prog 22 #[.int .i64 2,v0] W fun e w'=>e=.returned (.tuple #[.int .i64 n0,.agg G0,.int .i64 e0])∧Below W.heap.size W w')∧(Calls Tryz.prog 22 #[.int .i64 2,v1] W fun e w'=>e=.returned (.tuple #[.int .i64 n1,.agg G1,.int .i64 e1])∧Below W.heap.size W w')):=hid (fun h1 h2 W hb=>by
  have a:=refGet13_any 2 v0 l0 W (hy0.below hb) (by omega) (hK2.below hb)
  have b:=refGet13_any 2 v1 l1 W (hy1.below hb) (by omega) (hK2.below hb)
  rw [HN0.out,HG0.out,HE0.out] at a
  rw [HN1.out,HG1.out,HE1.out] at b
  exact ⟨a,b⟩)
 obtain ⟨Z,HZ⟩:∃ C:Array Value,Hid (sec seZ=C):=⟨_,hid rfl⟩
 have HZS:Hid (Z.size=35∧Z.all (·.oneCell')=true):=hid (by rw [← HZ.out];exact ⟨sec_size seZ_ok,sec_one _⟩)
 have HAL:Hid (∀ W,allocSe W=.ok (.value (.pointer (some ⟨W.heap.size,0,none⟩))) (W.alloc (.cells Z 40))):=hid (fun W=>by rw [← HZ.out];exact allocSe_eq W)
 have HBZ:Hid (∀ W,buildSe W=.ok (.value (.agg Z)) W):=hid (fun W=>by rw [← HZ.out];exact buildSe_eq W)
 have HNEQ:Hid (∀ W,neSe7 (.agg Z) (.agg Z) W=.ok (.value (.bool false)) W):=hid (fun W=>by
  have:=neSe7_eq seZ seZ seZ_ok seZ_ok W
  rw [HZ.out,decide_eq_true rfl] at this
  exact this)
 obtain ⟨ZA,HZA⟩:∃ C:Array Value,Hid (atc atZ=C):=⟨_,hid rfl⟩
 have HZAS:Hid (ZA.size=101∧ZA.all (·.oneCell')=true):=hid (by rw [← HZA.out];exact ⟨atc_size atZ_ok,atc_one _⟩)
 have HALA:Hid (∀ W,allocAtt W=.ok (.value (.pointer (some ⟨W.heap.size,0,none⟩))) (W.alloc (.cells ZA 54))):=hid (fun W=>by rw [← HZA.out];exact allocAtt_eq W)
 have HBA:Hid (∀ W,buildAtt W=.ok (.value (.agg ZA)) W):=hid (fun W=>by rw [← HZA.out];exact buildAtt_eq W)
 have HNEA:Hid (∀ W,neAt7 (.agg ZA) (.agg ZA) W=.ok (.value (.bool false)) W):=hid (fun W=>by
  have:=neAt7_eq atZ atZ atZ_ok atZ_ok W
  rw [HZA.out,decide_eq_true rfl] at this
  exact this)
 obtain ⟨ZX,HZX⟩:∃ C:Array Value,Hid (axc acZ (.slice none 0 0)=C):=⟨_,hid rfl⟩
 have HZXS:Hid (ZX.size=68∧ZX.all (·.oneCell')=true):=hid (by rw [← HZX.out];exact ⟨axc_size _ acZ_ok,axc_one (w:=w) (a:=acZ) (Els.nil w)⟩)
 have HALX:Hid (∀ W,allocAx W=.ok (.value (.pointer (some ⟨W.heap.size,0,none⟩))) (W.alloc (.cells ZX 52))):=hid (fun W=>by rw [← HZX.out];exact allocAx_eq W)
 have HSTP:Hid (∀ W v',(∀ W2,Below W.heap.size W W2→Calls Tryz.prog 20 #[v'] W2 fun e w'=>e=.returned (.bool true)∧W2=w')→(∀ k,Calls Tryz.prog 24 #[v',.int .i64 k] W fun e w'=>e=.returned (.tuple #[.agg ZA,.int .i64 8])∧Below W.heap.size W w')∧(∀ C,Calls Tryz.prog 25 #[v',.agg C] W fun e w'=>e=.returned (.tuple #[.agg ZA,.int .i64 8])∧Below W.heap.size W w')∧(∀ B X,Calls Tryz.prog 37 #[v',.agg B,.agg X] W fun e w'=>e=.returned (.tuple #[.agg ZA,.int .i64 8])∧Below W.heap.size W w')∧(∀ k A m d,Calls Tryz.prog 14 #[v',.int .i64 k,.slice A m d] W fun e w'=>e=.returned (.tuple #[.agg ZX,.int .i64 8])∧Below W.heap.size W w')):=hid (fun W v' hh=>by
  rw [← HZA.out,← HZX.out]
  exact ⟨fun k=>tNew_stop v' k hh,fun C=>tStore_stop v' C hh,fun B X=>tPrep_stop v' B X hh,fun k A m d=>tAccu_stop v' k A m d hh⟩)
 have HASK:Hid (∀ W v' x,StOk W x→(∀ W2,Below W.heap.size W W2→Calls Tryz.prog 20 #[v'] W2 fun e w'=>e=.returned (.bool true)∧W2=w')→Calls Tryz.prog 12 #[v',.agg (stc x)] W fun e w'=>e=.returned (.tuple #[.agg ZA,.int .i64 8])∧Below W.heap.size W w'):=hid (fun W v' x hx hh=>(ask_gen (fun W1 w'=>Below W1.heap.size W1 w') v' x W hx ZA 8 HZAS.out (fun _ W1 h1=>(HSTP.out W1 v' (fun W2 h2=>hh W2 (h1.trans (h2.mono h1.size)))).1 _) (fun _ W1 h1=>(HSTP.out W1 v' (fun W2 h2=>hh W2 (h1.trans (h2.mono h1.size)))).2.2.1 _ _) (fun _ _ W1 h1=>(HSTP.out W1 v' (fun W2 h2=>hh W2 (h1.trans (h2.mono h1.size)))).2.1 _) (fun W1 w1 Y h1 h2 h3=>(h2.block _ (lt_of_block h3)).trans h3)).mono fun e w' ⟨he,W1,w1,Y,h1,h2,h3,h4⟩=>⟨he,by
  subst h4
  exact setAtt_below (h1.trans (h2.mono h1.size)) (by omega)⟩)
 obtain ⟨y0,f0⟩:∃ y,(e0 == 0)=y:=⟨_,rfl⟩
 obtain ⟨y1,f1⟩:∃ y,(n0 == n)=y:=⟨_,rfl⟩
 obtain ⟨y2,f2⟩:∃ y,(e1 == 0)=y:=⟨_,rfl⟩
 obtain ⟨y3,f3⟩:∃ y,(n1 == n)=y:=⟨_,rfl⟩
 have HH0:Hid (hitB 2 n l0=(y0 && y1)):=hid (by
  unfold hitB
  rw [HN0.out,HE0.out,← f0,← f1]
  by_cases q0:e0=0 <;> by_cases q1:n0=n <;> simp [q0,q1])
 have HH1:Hid (hitB 2 n l1=(y2 && y3)):=hid (by
  unfold hitB
  rw [HN1.out,HE1.out,← f2,← f3]
  by_cases q0:e1=0 <;> by_cases q1:n1=n <;> simp [q0,q1])
 obtain ⟨hh,HHH⟩:∃ q:Bool,Hid (((y0 && y1) || (y2 && y3))=q):=⟨_,hid rfl⟩
 have HF0:=hid f0
 have HF1:=hid f1
 have HF2:=hid f2
 have HF3:=hid f3
 have HNW:Hid (1≤n→n≤1099511627776→∀ W,Calls Tryz.prog 8 #[.int .i64 2,.int .i64 n] W fun e w'=>∃ b c a,e=.returned (.tuple #[.pointer (some ⟨b,0,none⟩),.int .i64 0])∧Vlt w' b c a (newV 2 n)∧W.heap.size≤b∧W.heap.size≤a∧Below W.heap.size W w'):=hid (fun h2 h3 W=>vNew_yes 2 n W (by decide) (by omega) h3)
 have HGV:Hid (1≤n→n≤1099511627776→l0.length≤1000→l1.length≤1000→(⟨2,l0,l1,n,-1,false,[]⟩:VaM).Good):=hid (fun h2 h3 h4 h5=>⟨by show nodeB 2=true;decide,by show 0≤n;omega,h3,by show (-1:Int)≤-1;decide,by show (-1:Int)≤_;decide,h4,h5,Nat.zero_le _,fun _=>rfl⟩)
 have HSW0:Hid (l0.length≤1000→∀ b c a W,Vlt W b c a (newV 2 n)→Below w.heap.size w W→Calls Tryz.prog 23 #[.pointer (some ⟨b,0,none⟩),.int .i64 0,v0] W fun e w'=>e=.returned (.int .i64 0)∧Vlt w' b c a ⟨2,l0,[],n,-1,false,[]⟩∧Turn b a W w'):=hid (fun hl b c a W h hb=>by
  have:=vSwap_any h 0 (hy0.below hb)
  unfold swapE swapV at this
  rw [if_neg (by omega),if_neg (by omega)] at this
  exact this)
 have HSW1:Hid (l1.length≤1000→∀ b c a W,Vlt W b c a ⟨2,l0,[],n,-1,false,[]⟩→Below w.heap.size w W→Calls Tryz.prog 23 #[.pointer (some ⟨b,0,none⟩),.int .i64 1,v1] W fun e w'=>e=.returned (.int .i64 0)∧Vlt w' b c a ⟨2,l0,l1,n,-1,false,[]⟩∧Turn b a W w'):=hid (fun hl b c a W h hb=>by
  have:=vSwap_any h 1 (hy1.below hb)
  unfold swapE swapV at this
  rw [if_neg (by omega),if_neg (by omega)] at this
  exact this)
 have HST:Hid (hh=false→1≤n→(⟨2,l0,l1,n,-1,false,[]⟩:VaM).Good→∀ b c a W,Vlt W b c a ⟨2,l0,l1,n,-1,false,[]⟩→Below w.heap.size w W→Calls Tryz.prog 9 #[.int .i64 2,.int .i64 3,.pointer (some ⟨b,0,none⟩)] W fun e w'=>∃ g,e=.returned (.tuple #[.pointer (some ⟨g,0,none⟩),.int .i64 8])∧TeeW w' g b c a ⟨2,3,⟨2,l0,l1,n,-1,false,[]⟩,seZ,8⟩∧W.heap.size≤g∧Turn b a W w'):=hid (fun hf hn g b c a W h hb=>by
  have h3:((y0 && y1) || (y2 && y3))=false:=HHH.out.trans hf
  rw [Bool.or_eq_false_iff] at h3
  have e:=load_none (HH0.out.trans h3.1) (HH1.out.trans h3.2) hn
  have:=tStart_any h g (i:=2) (n:=3) (by decide) (startT_good g (by decide) (by decide) (by decide) (by decide)) (by decide) (hK.below hb)
  rw [e] at this
  exact this)
 have HSN:Hid (∀ W,Below w.heap.size w W→(Calls Tryz.prog 9 #[.int .i64 2,.int .i64 3,.pointer none] W fun e w'=>e=.returned (.tuple #[.pointer none,.int .i64 1])∧Below W.heap.size W w')∧∀ p,Calls Tryz.prog 9 #[.int .i64 4,.int .i64 3,.pointer p] W fun e w'=>e=.returned (.tuple #[.pointer none,.int .i64 1])∧Below W.heap.size W w'):=hid (fun W hb=>⟨tStart_nil (by decide) (by decide) (hK.below hb),fun p=>tStart_arg (by decide) (by decide) p (hK.below hb)⟩)
 have HBC0:Hid (∀ W,buildCt7 W=.ok (.value (.agg (ctc ctZ (.slice none 0 0)))) W):=hid buildCt7_eq
 obtain ⟨CZ,HCZ⟩:∃ C:Array Value,Hid (ctc ctZ (.slice none 0 0)=C):=⟨_,hid rfl⟩
 rw [HCZ.out] at HBC0
 have HBT0:Hid (∀ W,buildTe0 W=.ok (.value (.agg (tec 0 0 none seZ 0 0))) W):=hid buildTe0_eq
 obtain ⟨D,HD⟩:∃ C:Array Value,Hid (tec 0 0 none seZ 0 0=C):=⟨_,hid rfl⟩
 have HD:=hid HD.out.symm
 rw [← HD.out] at HBT0
 have HSZ0:Hid (∀ W v',NoTee W v'→Calls Tryz.prog 19 #[v'] W fun e w'=>e=.returned (.agg Z)∧Below W.heap.size W w'):=hid (fun W v' h=>by
  have:=tSeal_no h
  rwa [HZ.out] at this)
 obtain ⟨A,cl,rfl⟩:=hv.shape
 obtain ⟨N,HN⟩:∃ q:Nat,Hid (L.length=q):=⟨_,hid rfl⟩
 have HEL:=hid (els_sp hv ho)
 have HOK:Hid (∀ k (h:k < L.length),SpOk w L[k]):=hid (fun k hk=>ho _ (List.getElem_mem hk))
 rw [HN.out] at HLG ⊢
 obtain ⟨A0,c0,r0⟩:=hy0.shape
 obtain ⟨A1,c1,r1⟩:=hy1.shape
 have HLE0:Hid (∀ m:Nat,l0.length=m→(m:Int)≤1000→l0.length≤1000):=hid (fun m h1 h2=>by omega)
 have HLE1:Hid (∀ m:Nat,l1.length=m→(m:Int)≤1000→l1.length≤1000):=hid (fun m h1 h2=>by omega)
 obtain ⟨L0,HL0⟩:∃ q:Nat,Hid (l0.length=q):=⟨_,hid rfl⟩
 obtain ⟨L1,HL1⟩:∃ q:Nat,Hid (l1.length=q):=⟨_,hid rfl⟩
 rw [HL0.out] at r0
 rw [HL1.out] at r1
 subst r0 r1
 clear hy0 hy1 hv ho hK hK2 hr0 HN0 HN1 HE0 HE1 HG0 HG1 HZ HZA HZX f0 f1 f2 f3
 go_enter Tryz.func4,Tryz.ntmps4
 go_upto_region 1 with (fail)
 generalize (w.alloc (.cells #[.slice A0 L0 c0,.slice A1 L1 c1] 34))=w0 at *
 go_wp2_with fail
 refine (HLG.out w0 HB0.out).mono ?_
 rintro e w1 ⟨q,rfl,hq,hb1⟩
 have HQ:=hid hq
 have HBX:=hid hb1
 have HB1:=hid (HB0.out.trans (hb1.mono HB0.out.size))
 clear hq hb1
 cases q with
 | false=>
  go_wp2_with fail
  refine (HAW.out w1 HB1.out).mono ?_
  rintro e wa ⟨rfl,hba⟩
  go_wp2_with fail
  go_ret
  exact ⟨rfl,HB1.out.trans (hba.mono HB1.out.size)⟩
 | true=>
 have HLIT:=hid (HQ.out rfl)
 have ⟨k0,k1⟩:=HC.out w1 HBX.out
 by_cases p0:(1000:Int) < (L0:Int)
 ·go_wp2_with fail
  refine (HAW.out w1 HB1.out).mono ?_
  rintro e wa ⟨rfl,hba⟩
  go_wp2_with fail
  go_ret
  exact ⟨rfl,HB1.out.trans (hba.mono HB1.out.size)⟩
 by_cases p1:(1000:Int) < (L1:Int)
 ·go_wp2_with fail
  refine (HAW.out w1 HB1.out).mono ?_
  rintro e wa ⟨rfl,hba⟩
  go_wp2_with fail
  go_ret
  exact ⟨rfl,HB1.out.trans (hba.mono HB1.out.size)⟩
 by_cases p2:n < 1
 ·go_wp2_with fail
  refine (HAW.out w1 HB1.out).mono ?_
  rintro e wa ⟨rfl,hba⟩
  go_wp2_with fail
  go_ret
  exact ⟨rfl,HB1.out.trans (hba.mono HB1.out.size)⟩
 by_cases p3:1099511627776 < n
 ·go_wp2_with fail
  refine (HAW.out w1 HB1.out).mono ?_
  rintro e wa ⟨rfl,hba⟩
  go_wp2_with fail
  go_ret
  exact ⟨rfl,HB1.out.trans (hba.mono HB1.out.size)⟩
 have HLL0:=hid (HLE0.out L0 HL0.out (by omega))
 have HLL1:=hid (HLE1.out L1 HL1.out (by omega))
 have HNN:Hid (1≤n∧n≤1099511627776):=hid (by omega)
 have HGG:=hid (HGV.out HNN.out.1 HNN.out.2 HLL0.out HLL1.out)
 have HNW2:=hid (HNW.out HNN.out.1 HNN.out.2)
 clear HGV HNW HLE0 HLE1
 go_upto_region 3 with (fail)
 clear p0 p1 p2 p3 k1
 go_wp2_with fail
 refine (HGT.out HLL0.out HLL1.out w1 HB1.out).1.mono ?_
 rintro e w2 ⟨rfl,hb2⟩
 have hal:=HAL.out w2
 have hst:=se_var w2 HZS.out.1 HGS.out.1.1 HGS.out.1.2
 have hb3:Below w1.heap.size w1 (w2.alloc (.cells G0 40)):=hb2.alloc hb2.size _
 have HB3:=hid (HB1.out.trans (hb3.mono HB1.out.size))
 have HBY:=hid (HBX.out.trans (hb3.mono HBX.out.size))
 clear hb2 hb3 k0
 go_upto_region 4 with (fail)
 clear hal hst
 generalize (w2.alloc (.cells G0 40))=w3 at *
 have ⟨_,k1⟩:=HC.out w3 HBY.out
 go_wp2_with fail
 refine (HGT.out HLL0.out HLL1.out w3 HB3.out).2.mono ?_
 rintro e w4 ⟨rfl,hb4⟩
 have hal:=HAL.out w4
 have hst:=se_var w4 HZS.out.1 HGS.out.2.1 HGS.out.2.2
 have hb5:Below w3.heap.size w3 (w4.alloc (.cells G1 40)):=hb4.alloc hb4.size _
 have HB5:=hid (HB3.out.trans (hb5.mono HB3.out.size))
 have HBV:=hid (HBY.out.trans (hb5.mono HBY.out.size))
 clear hb4 hb5 k1
 go_upto_region 5 with (fail)
 clear hal hst
 generalize (w4.alloc (.cells G1 40))=w5 at *
 go_cut [85] (fun s85 wx=>s85=.bool hh∧wx=w5)
 case first=>
  have f0:=HF0.out
  have f1:=HF1.out
  have f2:=HF2.out
  have f3:=HF3.out
  cases y0 with
  | true=>
   cases y1 with
   | true=>
    go_wp2_with fail
    go_meet
    case rel=>exact ⟨congrArg Value.bool (by have:=HHH.out;simpa using this),rfl⟩
   | false=>
    cases y2 with
    | true=>
     cases y3 with
     | true=>
      go_wp2_with fail
      go_meet
      case rel=>exact ⟨congrArg Value.bool (by have:=HHH.out;simpa using this),rfl⟩
     | false=>
      go_wp2_with fail
      go_meet
      case rel=>exact ⟨congrArg Value.bool (by have:=HHH.out;simpa using this),rfl⟩
    | false=>
     go_wp2_with fail
     go_meet
     case rel=>exact ⟨congrArg Value.bool (by have:=HHH.out;simpa using this),rfl⟩
  | false=>
   cases y2 with
   | true=>
    cases y3 with
    | true=>
     go_wp2_with fail
     go_meet
     case rel=>exact ⟨congrArg Value.bool (by have:=HHH.out;simpa using this),rfl⟩
    | false=>
     go_wp2_with fail
     go_meet
     case rel=>exact ⟨congrArg Value.bool (by have:=HHH.out;simpa using this),rfl⟩
   | false=>
    go_wp2_with fail
    go_meet
    case rel=>exact ⟨congrArg Value.bool (by have:=HHH.out;simpa using this),rfl⟩
 case rest=>
 obtain ⟨rfl,hw⟩:=hcut
 have hw:=hw.symm
 subst hw
 cases hh with
 | true=>
  go_wp2_with fail
  refine (HAW.out w5 HB5.out).mono ?_
  rintro e wa ⟨rfl,hba⟩
  go_wp2_with fail
  go_ret
  exact ⟨rfl,HB5.out.trans (hba.mono HB5.out.size)⟩
 | false=>
 have HST2:=hid (HST.out rfl HNN.out.1 HGG.out)
 clear HST HF0 HF1 HF2 HF3 HH0 HH1 HHH
 go_upto_region 7 with (fail)
 go_wp2_with fail
 refine (HNW2.out w5).mono ?_
 rintro e w6 ⟨b,c,a,rfl,h6,hbb,hba,hb6⟩
 have HV6:=hid h6
 have HBA2:=hid (And.intro (Nat.le_trans HB5.out.size hbb) (Nat.le_trans HB5.out.size hba))
 have HBAV:=hid (And.intro hbb hba)
 have HB6:=hid (HB5.out.trans (hb6.mono HB5.out.size))
 have HBZ6:=hid (HBV.out.trans (hb6.mono HBV.out.size))
 clear h6 hbb hba hb6
 go_upto_region 8 with (fail)
 have ⟨k0,_⟩:=HC.out w6 HBZ6.out
 go_wp2_with fail
 refine (HSW0.out HLL0.out b c a w6 HV6.out HB6.out).mono ?_
 rintro e w7 ⟨rfl,h7,t7⟩
 have HV7:=hid h7
 have HB7:=hid (t7.below HB6.out HBA2.out.1 HBA2.out.2 HB6.out.size)
 have HBZ7:=hid (t7.below HBZ6.out (Nat.le_trans HBV.out.size HBAV.out.1) (Nat.le_trans HBV.out.size HBAV.out.2) HBZ6.out.size)
 clear h7 t7 k0
 have ⟨_,k1⟩:=HC.out w7 HBZ7.out
 go_wp2_with fail
 refine (HSW1.out HLL1.out b c a w7 HV7.out HB7.out).mono ?_
 rintro e w8 ⟨rfl,h8,t8⟩
 have HV8:=hid h8
 have HB8:=hid (t8.below HB7.out HBA2.out.1 HBA2.out.2 HB7.out.size)
 clear h8 t8 k1 HC
 go_upto_region 10 with (fail)
 go_wp2_with fail
 refine (HST2.out b c a w8 HV8.out HB8.out).mono ?_
 rintro e w9 ⟨g,rfl,h9,hg9,t9⟩
 have HB9:=hid (t9.below HB8.out HBA2.out.1 HBA2.out.2 HB8.out.size)
 have HG9:Hid (TeM.Good ⟨2,3,⟨2,l0,l1,n,-1,false,[]⟩,seZ,8⟩):=hid ⟨HGG.out,seZ_ok,by show (1:Int)≤2;decide,by show (2:Int)≤21;decide,by show (0:Int)≤3;decide,by show (3:Int)≤1000;decide⟩
 have HT9:=hid h9
 have HHLT:Hid (∀ W,Below w9.heap.size w9 W→Calls Tryz.prog 20 #[.pointer (some ⟨g,0,none⟩)] W fun e w'=>e=.returned (.bool true)∧W=w'):=hid (fun W hb=>tHalted_any (HT9.out.below hb) HG9.out)
 have HWHY:Hid (Calls Tryz.prog 21 #[.pointer (some ⟨g,0,none⟩)] w9 fun e w'=>e=.returned (.int .i64 8)∧w9=w'):=hid (tWhy_any HT9.out HG9.out)
 clear h9 hg9 t9 HST2 HSW0 HSW1 HNW2 HGT
 go_upto_region 11 with (fail)
 go_wp2_with fail
 refine (HHLT.out w9 (Below.refl _ _)).mono ?_
 rintro e wa ⟨rfl,rfl⟩
 go_wp2_with fail
 refine HWHY.out.mono ?_
 rintro e wa ⟨rfl,rfl⟩
 go_upto_region 13 with (fail)
 go_wp2_with fail
 go_loopw [17] (fun s17 wr=>∃ k:Nat,k≤N∧s17=.int .i64 k∧Hid (Below w9.heap.size w9 wr)) (fun s17 _=>N - (intOf s17).toNat)
 case atStart=>exact ⟨0,Nat.zero_le _,rfl,hid (Below.refl _ _)⟩
 case round=>
  obtain ⟨k,hk,rfl,HR⟩:=hrel
  by_cases hlt:k < N
  ·have hlt':(k:Int) < (N:Int):=by omega
   have hkL:k < L.length:=by rw [HN.out];exact hlt
   obtain ⟨eb,off,rfl,hrd⟩:=HEL.out k hkL
   have HRD:=hid hrd
   have HXO:=hid (HOK.out k hkL)
   obtain ⟨x,HX⟩:∃ q:SpM,Hid (L[k]=q):=⟨_,hid rfl⟩
   rw [HX.out] at HRD HXO
   have HKN:=hid (And.intro hlt (show N≤30 from by have:=HLIT.out.1;have:=HN.out;omega))
   have HBW:=hid (HB9.out.trans (HR.out.mono HB9.out.size))
   have HAK:=hid (HASK.out wr (.pointer (some ⟨g,0,none⟩)) x.q (HXO.out.q.below HBW.out) (fun W2 h2=>HHLT.out W2 (HR.out.trans (h2.mono HR.out.size))))
   have lq:=(HRD.out wr HBW.out).q
   obtain ⟨AQ,HAQ⟩:∃ C:Array Value,Hid (stc x.q=C):=⟨_,hid rfl⟩
   rw [HAQ.out] at HAK lq
   have HWI:Hid (wrap64 ((k:Int) + 1)=(k:Int) + 1):=hid (by have:=HKN.out;unfold wrap64;omega)
   clear hrd HX hkL hk
   go_upto_region 16 with (fail)
   go_wp2_with fail
   refine HAK.out.mono ?_
   rintro e wb ⟨rfl,hbb⟩
   have hal:=HALA.out wb
   have hst:=att_var wb HZAS.out.1 HZAS.out.1 HZAS.out.2
   have hbc:Below wr.heap.size wr (wb.alloc (.cells ZA 54)):=hbb.alloc hbb.size _
   have HRB:=hid (HR.out.trans (hbc.mono HR.out.size))
   have HRW:=hid (heap_alloc_new wb (.cells ZA 54))
   clear hbb hbc lq HAK
   go_upto_region 17 with (fail)
   clear hal hst
   generalize (wb.alloc (.cells ZA 54))=wc at *
   generalize wb.heap.size=pb at *
   have HBC:=hid (HB9.out.trans (HRB.out.mono HB9.out.size))
   have HRC:Hid (∀ W,Below wc.heap.size wc W→W.cell? ⟨eb,off + k * 253 + 211,none⟩=some (.int .i64 x.vi)∧W.cell? ⟨eb,off + k * 253 + 212,none⟩=some (.slice x.lA x.L.length x.lc)):=hid (fun W hb=>by
    have r:=HRD.out W (HBC.out.trans (hb.mono HBC.out.size))
    exact ⟨r.vi,r.l⟩)
   obtain ⟨vi,HVI⟩:∃ q:Int,Hid (x.vi=q):=⟨_,hid rfl⟩
   obtain ⟨M,HM⟩:∃ q:Nat,Hid (x.L.length=q):=⟨_,hid rfl⟩
   rw [HVI.out,HM.out] at HRC
   have hbd:Below wc.heap.size wc wc.drew:=(Below.refl _ _).drew
   have HAC:=hid (fun W (hb:Below wc.heap.size wc W)=>(HSTP.out W (.pointer (some ⟨g,0,none⟩)) (fun W2 h2=>HHLT.out W2 ((HRB.out.trans (hb.mono HRB.out.size)).trans (h2.mono (Nat.le_trans HRB.out.size hb.size))))).2.2.2 vi x.lA M x.lc)
   refine wp_region_held_drew (S:=fun W=>W.cell? ⟨eb,off + k * 253 + 211,none⟩=some (.int .i64 vi)∧W.cell? ⟨eb,off + k * 253 + 212,none⟩=some (.slice x.lA M x.lc)) (by kernel_rfl) (HRC.out _ hbd) (fun hHeld=>?_)
   refine' tkq 0 rfl ?_;try simp only [lay]
   refine' tkq 1 rfl ?_;try simp only [lay]
   refine' tkq 2 rfl ?_;try simp only [lay]
   refine' tkq 3 rfl ?_;try simp only [lay]
   refine' tkq 4 rfl ?_;try simp only [lay]
   refine' tkq2 5 rfl ?_;try simp only [lay]
   refine' tkq 6 rfl ?_;try simp only [lay]
   refine' tkq 7 rfl ?_;try simp only [lay]
   refine' tkq 8 rfl ?_;try simp only [lay]
   refine' tkq 9 rfl ?_;try simp only [lay]
   refine' tkq2 10 rfl ?_;try simp only [lay]
   refine pair_on (i:=11) (j:=15) rfl rfl (by kernel_rfl) (by rfl) (by rfl) (fun K hK=>?_) (fun K hK=>?_)
   ·go_simp
    refine (HAC.out _ hbd).mono ?_
    rintro e wd ⟨rfl,hbe⟩
    have hbf:Below wc.heap.size wc wd:=hbd.trans (hbe.mono hbd.size)
    refine hK.out _ _ (HRC.out _ hbf) (fun hHeld=>?_)
    clear hK K
    try simp only [lay]
    refine' tkq 12 rfl ?_;try simp only [lay]
    refine' tkq 13 rfl ?_;try simp only [lay]
    refine' tkq 14 rfl ?_;try simp only [lay]
    have hal:=HALX.out wd
    have hst:=ax_var wd HZXS.out.1 HZXS.out.1 HZXS.out.2
    have hbg:Below wc.heap.size wc (wd.alloc (.cells ZX 52)):=hbf.alloc hbf.size _
    have HBF:Hid (Below w9.heap.size w9 (wd.alloc (.cells ZX 52))):=hid (HRB.out.trans (hbg.mono HRB.out.size))
    have HRF:Hid ((wd.alloc (.cells ZX 52)).heap[pb]?=some (.cells ZA 54 (0,0))):=hid ((hbg.block _ (lt_of_block HRW.out)).trans HRW.out)
    refine call_on (i:=15) rfl (by kernel_rfl) (by rfl) (fun K hK=>?_)
    go_simp
    refine hK.out _ _ (HRC.out _ hbg) (fun hHeld=>?_)
    clear hK K
    try simp only [lay]
    refine call_on (i:=16) rfl (by kernel_rfl) (by rfl) (fun K hK=>?_)
    go_simp
    refine hK.out _ _ (HRC.out _ hbg) (fun hHeld=>?_)
    clear hK K
    try simp only [lay]
    refine' tkq 17 rfl ?_;try simp only [lay]
    refine wpAnyH_done (by kernel_rfl) ?_ _
    clear hbg hbf hbe hbd
    clear hHeld hal hst hlt hlt'
    have la:=loadAtt_row HRF.out HZAS.out.1
    have hbu:=HBA.out
    have hne:=HNEA.out
    go_wp2_with fail
    go_roundw
    case rel=>exact ⟨k + 1,HKN.out.1,by rw [HWI.out];rfl,HBF⟩
    case measure=>exact th_meas HKN.out.1 HKN.out.2
   ·have hal:=HALX.out wc.drew
    go_simp
    have hba:Below wc.heap.size wc (wc.drew.alloc (.cells ZX 52)):=hbd.alloc hbd.size _
    have HRX:=hid (heap_alloc_new wc.drew (.cells ZX 52))
    refine hK.out _ _ (HRC.out _ hba) (fun hHeld=>?_)
    clear hK K
    try simp only [lay]
    refine call_on (i:=11) rfl (by kernel_rfl) (by rfl) (fun K hK=>?_)
    go_simp
    refine (HAC.out _ hba).mono ?_
    rintro e wd ⟨rfl,hbe⟩
    have hbf:Below wc.heap.size wc wd:=hba.trans (hbe.mono hba.size)
    refine hK.out _ _ (HRC.out _ hbf) (fun hHeld=>?_)
    clear hK K
    try simp only [lay]
    refine' tkq 12 rfl ?_;try simp only [lay]
    refine' tkq 13 rfl ?_;try simp only [lay]
    refine' tkq 14 rfl ?_;try simp only [lay]
    have HRX2:=hid ((hbe.block _ (lt_of_block HRX.out)).trans HRX.out)
    have hst:storeAx (.pointer (some ⟨wc.heap.size,0,none⟩)) (.agg ZX) wd=.ok .skip (setAx wd wc.heap.size ZX):=storeAx_eq HRX2.out HZXS.out.1 HZXS.out.1 HZXS.out.2
    have hbg:Below wc.heap.size wc (setAx wd wc.heap.size ZX):=setAx_below hbf (Nat.le_refl _)
    have HBF:Hid (Below w9.heap.size w9 (setAx wd wc.heap.size ZX)):=hid (HRB.out.trans (hbg.mono HRB.out.size))
    have HRF:Hid ((setAx wd wc.heap.size ZX).heap[pb]?=some (.cells ZA 54 (0,0))):=hid ((hbg.block _ (lt_of_block HRW.out)).trans HRW.out)
    refine call_on (i:=16) rfl (by kernel_rfl) (by rfl) (fun K hK=>?_)
    go_simp
    refine hK.out _ _ (HRC.out _ hbg) (fun hHeld=>?_)
    clear hK K
    try simp only [lay]
    refine' tkq 17 rfl ?_;try simp only [lay]
    refine wpAnyH_done (by kernel_rfl) ?_ _
    clear hbg hbf hbe hba hbd
    clear hHeld hal hst hlt hlt'
    have la:=loadAtt_row HRF.out HZAS.out.1
    have hbu:=HBA.out
    have hne:=HNEA.out
    go_wp2_with fail
    go_roundw
    case rel=>exact ⟨k + 1,HKN.out.1,by rw [HWI.out];rfl,HBF⟩
    case measure=>exact th_meas HKN.out.1 HKN.out.2
  ·have hlt':¬ (k:Int) < (N:Int):=by omega
   have HBW:=hid (HB9.out.trans (HR.out.mono HB9.out.size))
   clear hlt hk HR HHLT HT9 HWHY HASK
   go_wp2_with fail
   refine wp_loop_rounds 3 ?_
   rw [rounds_succ]
   have HN0:=hid (noT_none wr)
   go_wp2_with fail
   refine ((HSTP.out wr (.pointer none) (noTee_halts HN0.out)).1 1).mono ?_
   rintro e a0 ⟨rfl,hx⟩
   have hal:=HALA.out a0
   have hst:=att_var a0 HZAS.out.1 HZAS.out.1 HZAS.out.2
   have hy:Below wr.heap.size wr (a0.alloc (.cells ZA 54)):=hx.alloc hx.size _
   have HBA0:=hid (HBW.out.trans (hy.mono HBW.out.size))
   have HNA0:=hid (HN0.out.below hy)
   clear hx hy
   go_upto_region 27 with (fail)
   clear hal hst
   generalize (a0.alloc (.cells ZA 54))=b0 at *
   have hbc:=HBC0.out
   go_wp2_with fail
   refine ((HSTP.out b0 (.pointer none) (noTee_halts HNA0.out)).2.1 CZ).mono ?_
   rintro e c0 ⟨rfl,hx⟩
   have hal:=HALA.out c0
   have hst:=att_var c0 HZAS.out.1 HZAS.out.1 HZAS.out.2
   have hy:Below b0.heap.size b0 (c0.alloc (.cells ZA 54)):=hx.alloc hx.size _
   have HBC0x:=hid (HBA0.out.trans (hy.mono HBA0.out.size))
   have HNC0:=hid (HNA0.out.below hy)
   clear hx hy hbc
   go_upto_region 28 with (fail)
   clear hal hst
   generalize (c0.alloc (.cells ZA 54))=d0 at *
   go_wp2_with fail
   refine (tHalted_no HNC0.out).mono ?_
   rintro e x ⟨rfl,rfl⟩
   go_wp2_with fail
   refine (tWhy_no HNC0.out).mono ?_
   rintro e x ⟨rfl,rfl⟩
   go_wp2_with fail
   refine (HSZ0.out d0 (.pointer none) HNC0.out).mono ?_
   rintro e e0 ⟨rfl,hx⟩
   have HBE0:=hid (HBC0x.out.trans (hx.mono HBC0x.out.size))
   clear hx
   have hbz:=HBZ.out
   have hnq:=HNEQ.out
   go_wp2_with fail
   rw [rounds_succ]
   clear hbz hnq
   have hbt:=HBT0.out e0
   have HN1:=hid (show NoTee (e0.alloc (.cells D 95)) (.pointer (some ⟨e0.heap.size,0,none⟩)) from .inr ⟨_,rfl,by rw [HD.out];exact heap_alloc_new e0 _⟩)
   have HB1z:=hid (HBE0.out.alloc HBE0.out.size (.cells D 95))
   go_upto_region 26 with (fail)
   clear hbt
   generalize (e0.alloc (.cells D 95))=z1 at *
   generalize e0.heap.size=gz at *
   go_wp2_with fail
   refine ((HSTP.out z1 (.pointer (some ⟨gz,0,none⟩)) (noTee_halts HN1.out)).1 1).mono ?_
   rintro e a1 ⟨rfl,hx⟩
   have hal:=HALA.out a1
   have hst:=att_var a1 HZAS.out.1 HZAS.out.1 HZAS.out.2
   have hy:Below z1.heap.size z1 (a1.alloc (.cells ZA 54)):=hx.alloc hx.size _
   have HBA1:=hid (HB1z.out.trans (hy.mono HB1z.out.size))
   have HNA1:=hid (HN1.out.below hy)
   clear hx hy
   go_upto_region 27 with (fail)
   clear hal hst
   generalize (a1.alloc (.cells ZA 54))=b1 at *
   have hbc:=HBC0.out
   go_wp2_with fail
   refine ((HSTP.out b1 (.pointer (some ⟨gz,0,none⟩)) (noTee_halts HNA1.out)).2.1 CZ).mono ?_
   rintro e c1 ⟨rfl,hx⟩
   have hal:=HALA.out c1
   have hst:=att_var c1 HZAS.out.1 HZAS.out.1 HZAS.out.2
   have hy:Below b1.heap.size b1 (c1.alloc (.cells ZA 54)):=hx.alloc hx.size _
   have HBC1x:=hid (HBA1.out.trans (hy.mono HBA1.out.size))
   have HNC1:=hid (HNA1.out.below hy)
   clear hx hy hbc
   go_upto_region 28 with (fail)
   clear hal hst
   generalize (c1.alloc (.cells ZA 54))=d1 at *
   go_wp2_with fail
   refine (tHalted_no HNC1.out).mono ?_
   rintro e x ⟨rfl,rfl⟩
   go_wp2_with fail
   refine (tWhy_no HNC1.out).mono ?_
   rintro e x ⟨rfl,rfl⟩
   go_wp2_with fail
   refine (HSZ0.out d1 (.pointer (some ⟨gz,0,none⟩)) HNC1.out).mono ?_
   rintro e e1 ⟨rfl,hx⟩
   have HBE1:=hid (HBC1x.out.trans (hx.mono HBC1x.out.size))
   clear hx
   have hbz:=HBZ.out
   have hnq:=HNEQ.out
   go_wp2_with fail
   rw [rounds_succ]
   clear hbz hnq
   go_wp2_with fail
   refine (HSN.out e1 HBE1.out).1.mono ?_
   rintro e x1 ⟨rfl,hx1⟩
   have HBX1:=hid (HBE1.out.trans (hx1.mono HBE1.out.size))
   clear hx1
   go_wp2_with fail
   refine ((HSN.out x1 HBX1.out).2 _).mono ?_
   rintro e x2 ⟨rfl,hx2⟩
   have HBX2:=hid (HBX1.out.trans (hx2.mono HBX1.out.size))
   clear hx2
   go_wp2_with fail
   refine (HAW.out x2 HBX2.out).mono ?_
   rintro e wa ⟨rfl,hba⟩
   go_wp2_with fail
   go_ret
   exact ⟨rfl,HBX2.out.trans (hba.mono HBX2.out.size)⟩
end Go.Proofs.YtpdnnmabijmfbaaGreatDoor
