/-
  sync.Once, one goroutine: the first Do of a trusted part's error. Its lock, its two deferred calls.
-/
import Derived.Defers
import Derived.Laws.NewBlocks
import Derived.Laws.Pointers
import Derived.RegionCalls
import Derived.Tactics
import Derived.Tactics2
import Derived.Test.YtpdnnmabijmfbaaGreatDoorTeWords
namespace Go.Proofs.YtpdnnmabijmfbaaGreatDoor
set_option maxRecDepth 20000
open Go.RowKit
theorem oDisable (w:World):(callFunc 202 #[]).run Tryz.prog w=.ok (.value (.tuple #[])) w:=run_call_mark0 Tryz.func202 (by kernel_rfl) (by kernel_rfl) (by kernel_rfl) .disable (by kernel_rfl) w
theorem oEnable (w:World):(callFunc 204 #[]).run Tryz.prog w=.ok (.value (.tuple #[])) w:=run_call_mark0 Tryz.func204 (by kernel_rfl) (by kernel_rfl) (by kernel_rfl) .enable (by kernel_rfl) w
theorem oAcquire (a:Addr) (w:World):(callFunc 205 #[.pointer (some a)]).run Tryz.prog w=.ok (.value (.tuple #[])) w:=run_call_marked Tryz.func205 (by kernel_rfl) (by kernel_rfl) (by kernel_rfl) .acquire (by kernel_rfl) a w
theorem oMerge (a:Addr) (w:World):(callFunc 207 #[.pointer (some a)]).run Tryz.prog w=.ok (.value (.tuple #[])) w:=run_call_marked Tryz.func207 (by kernel_rfl) (by kernel_rfl) (by kernel_rfl) .releaseMerge (by kernel_rfl) a w
theorem oStore (a:Addr) (x:Value) (u:FrameMode) (w:World) (hc:w.cell? a=some x) (hz:w.frozen? a=false):
  CallsD Tryz.prog 159 #[.pointer (some a),.bool true] u w fun e u' w'=>u'=u∧(e=.returned (.tuple #[])∧w'=w.drew.setCell a (.int .u32 1)):=by
 have hc':w.drew.cell? a=some x:=by go_simp
 have hz':w.drew.frozen? a=false:=by go_simp
 have hst:=run_call_store (P:=Tryz.prog) Tryz.func187 (by kernel_rfl) (by kernel_rfl) (by kernel_rfl) (by kernel_rfl) (k:=.u32) (y:=1) hc' hz'
 go_enter_d Tryz.func159,Tryz.ntmps159
 go_wp2
 go_region_calls
 all_goals (go_end0;exact ⟨rfl,rfl⟩)
theorem oUnlock (a:Addr) (u:FrameMode) (w:World) (hc:w.cell? a=some (.int .i32 1)) (hz:w.frozen? a=false):
  CallsD Tryz.prog 158 #[.pointer (some a)] u w fun e u' w'=>u'=u∧(e=.returned (.tuple #[])∧w'=w.setCell a (.int .i32 0)):=by
 have hd:=oDisable
 have he:=oEnable
 have hr:=oMerge
 have hadd:=run_call_add (P:=Tryz.prog) Tryz.func208 (by kernel_rfl) (by kernel_rfl) (by kernel_rfl) .i32 (by kernel_rfl) (y:=-1) (s:=0) hc hz (by simp [go_sem];rfl)
 have hcv:=run_convert_to_unsafe (P:=Tryz.prog) (src:=253) (dst:=257) Tryz.underlying253 Tryz.underlying257 (by kernel_rfl) hc
 go_enter_d Tryz.func158,Tryz.ntmps158
 go_wp2
 go_end0
 go_wp2
theorem oLock (a:Addr) (w:World) (hc:w.cell? a=some (.int .i32 0)) (hz:w.frozen? a=false):
  Calls Tryz.prog 157 #[.pointer (some a)] w fun e w'=>e=.returned (.tuple #[])∧w'=w.setCell a (.int .i32 1):=by
 have hd:=oDisable
 have he:=oEnable
 have ha:=oAcquire
 have hcas:=run_call_cas_hit (P:=Tryz.prog) Tryz.func203 (by kernel_rfl) (by kernel_rfl) (by kernel_rfl) .i32 (by kernel_rfl) (y:=1) hc hz
 have hc':(w.setCell a (.int .i32 1)).cell? a=some (.int .i32 1):=World.cell?_setCell_same w a _ hc
 have hcv:=run_convert_to_unsafe (P:=Tryz.prog) (src:=253) (dst:=257) Tryz.underlying253 Tryz.underlying257 (by kernel_rfl) hc'
 go_enter Tryz.func157,Tryz.ntmps157
 go_wp2
 first | go_end0 | (simp only [Exit.inBlock,Exit.then];refine bodyPost_ret (results_none rfl _ _ _) rfl ?_) | refine bodyPost_ret (results_none rfl _ _ _) rfl ?_
 go_wp2
theorem oSlow (g k1 k2:Nat) (h1g:k1≠g) (h2g:k2≠g) (x3:Value) (e:Int) (w:World) (hk1:w.cell? ⟨k1,0,none⟩=some (.int .i64 e)) (hk2:w.cell? ⟨k2,0,none⟩=some (.pointer (some ⟨g,0,none⟩)))
  (h0:w.cell? ⟨g,38,none⟩=some (.int .u32 0)) (h1:w.cell? ⟨g,39,none⟩=some (.int .i32 0)) (h3:w.cell? ⟨g,41,none⟩=some x3)
  (f0:w.frozen? ⟨g,38,none⟩=false) (f1:w.frozen? ⟨g,39,none⟩=false) (f3:w.frozen? ⟨g,41,none⟩=false):
  Calls Tryz.prog 114 #[.pointer (some ⟨g,38,none⟩),.func (.func 70) #[] #[.pointer (some ⟨k1,0,none⟩),.pointer (some ⟨k2,0,none⟩)]] w fun e' w'=>e'=.returned (.tuple #[])∧
   w'=(((w.setCell ⟨g,39,none⟩ (.int .i32 1)).setCell ⟨g,41,none⟩ (.int .i64 e)).drew.setCell ⟨g,38,none⟩ (.int .u32 1)).setCell ⟨g,39,none⟩ (.int .i32 0):=by
 have n1:(⟨k1,0,none⟩:Addr)≠⟨g,39,none⟩:=fun h=>h1g (congrArg Addr.block h)
 have n2:(⟨k2,0,none⟩:Addr)≠⟨g,39,none⟩:=fun h=>h2g (congrArg Addr.block h)
 have hl:=run_call_load (P:=Tryz.prog) Tryz.func156 (by kernel_rfl) (by kernel_rfl) (by kernel_rfl) .u32 (by kernel_rfl) (w:=w.setCell ⟨g,39,none⟩ (.int .i32 1)) (a:=⟨g,38,none⟩) (x:=0) ((World.cell?_setCell_other _ ⟨g,39,none⟩ ⟨g,38,none⟩ _ (by simp)).trans h0)
 have p1:(w.setCell ⟨g,39,none⟩ (.int .i32 1)).cell? ⟨k1,0,none⟩=some (.int .i64 e):=(World.cell?_setCell_other _ ⟨g,39,none⟩ ⟨k1,0,none⟩ _ n1.symm).trans hk1
 have p2:(w.setCell ⟨g,39,none⟩ (.int .i32 1)).cell? ⟨k2,0,none⟩=some (.pointer (some ⟨g,0,none⟩)):=(World.cell?_setCell_other _ ⟨g,39,none⟩ ⟨k2,0,none⟩ _ n2.symm).trans hk2
 have h31:(w.setCell ⟨g,39,none⟩ (.int .i32 1)).cell? ⟨g,41,none⟩=some x3:=(World.cell?_setCell_other _ ⟨g,39,none⟩ ⟨g,41,none⟩ _ (by simp)).trans h3
 have hnot:∀ (x:Bool) (w:World),(Op.unary .not (.bool x)).run Tryz.prog w=.ok (.bool (!x)) w:=fun _ _=>rfl
 go_enter_defers Tryz.func114,Tryz.ntmps114
 go_wp2_with (go_at_call 157;refine (oLock ⟨g,39,none⟩ _ (by go_simp) (by go_simp)).mono ?_;rintro e w' ⟨rfl,rfl⟩)
 go_wp2
 refine leaves_cons (f:=159) (args:=#[.pointer (some ⟨g,38,none⟩),.bool true]) (by simp) (by simp [go_sem]) ?_
 refine (oStore ⟨g,38,none⟩ (.int .u32 0) .returning _ ?_ (by simp [f0])).mono ?_
 ·exact (World.cell?_setCell_other _ ⟨g,41,none⟩ ⟨g,38,none⟩ _ (by simp)).trans ((World.cell?_setCell_other _ ⟨g,39,none⟩ ⟨g,38,none⟩ _ (by simp)).trans h0)
 rintro e u' w'' ⟨rfl,rfl,rfl⟩
 refine leaves_cons (f:=158) (args:=#[.pointer (some ⟨g,39,none⟩)]) (by simp [settle]) (by simp [go_sem]) ?_
 refine (oUnlock ⟨g,39,none⟩ _ _ ?_ (by simp [f1])).mono ?_
 ·refine (World.cell?_setCell_other _ ⟨g,38,none⟩ ⟨g,39,none⟩ _ (by simp)).trans ?_
  rw [World.cell?_drew]
  exact (World.cell?_setCell_other _ ⟨g,41,none⟩ ⟨g,39,none⟩ _ (by simp)).trans (World.cell?_setCell_same w _ _ h1)
 rintro e u' w'' ⟨rfl,rfl,rfl⟩
 simp [Leaves,settle,results,Tryz.results114]
theorem oDo (g k1 k2:Nat) (h1g:k1≠g) (h2g:k2≠g) (x3:Value) (e:Int) (w:World) (hk1:w.cell? ⟨k1,0,none⟩=some (.int .i64 e)) (hk2:w.cell? ⟨k2,0,none⟩=some (.pointer (some ⟨g,0,none⟩)))
  (h0:w.cell? ⟨g,38,none⟩=some (.int .u32 0)) (h1:w.cell? ⟨g,39,none⟩=some (.int .i32 0)) (h3:w.cell? ⟨g,41,none⟩=some x3)
  (f0:w.frozen? ⟨g,38,none⟩=false) (f1:w.frozen? ⟨g,39,none⟩=false) (f3:w.frozen? ⟨g,41,none⟩=false):
  Calls Tryz.prog 69 #[.pointer (some ⟨g,38,none⟩),.func (.func 70) #[] #[.pointer (some ⟨k1,0,none⟩),.pointer (some ⟨k2,0,none⟩)]] w fun e' w'=>e'=.returned (.tuple #[])∧
   w'=(((w.setCell ⟨g,39,none⟩ (.int .i32 1)).setCell ⟨g,41,none⟩ (.int .i64 e)).drew.setCell ⟨g,38,none⟩ (.int .u32 1)).setCell ⟨g,39,none⟩ (.int .i32 0):=by
 have hl:=run_call_load (P:=Tryz.prog) Tryz.func156 (by kernel_rfl) (by kernel_rfl) (by kernel_rfl) .u32 (by kernel_rfl) h0
 have hnot:∀ (x:Bool) (w:World),(Op.unary .not (.bool x)).run Tryz.prog w=.ok (.bool (!x)) w:=fun _ _=>rfl
 go_enter Tryz.func69,Tryz.ntmps69
 go_wp2_with (first | (go_at_call 114;refine (oSlow g k1 k2 h1g h2g x3 e _ hk1 hk2 h0 h1 h3 f0 f1 f3).mono ?_;rintro e w' ⟨rfl,rfl⟩) | (go_at_call 113;go_in))
 go_end0
 exact ⟨rfl,rfl⟩
section
variable {w:World} {g b c a:Nat} {t:TeM} {d:Int}
theorem once_row {W:World} (hs:t.s.Ok) (x:Int) (h:W.heap[g]?=some (.cells (tec t.i t.n (some ⟨b,0,none⟩) t.s 0 t.e) 95 (0,0))):
  ((((W.setCell ⟨g,39,none⟩ (.int .i32 1)).setCell ⟨g,41,none⟩ (.int .i64 x)).drew.setCell ⟨g,38,none⟩ (.int .u32 1)).setCell ⟨g,39,none⟩ (.int .i32 0)).heap[g]?=some (.cells (tec t.i t.n (some ⟨b,0,none⟩) t.s 1 x) 95 (0,0)):=by
 have hl:=sel_length hs
 have e1:=heap_setIn W h 39 (.int .i32 1)
 have e2:=heap_setIn _ e1 41 (.int .i64 x)
 have e3:((W.setCell ⟨g,39,none⟩ (.int .i32 1)).setCell ⟨g,41,none⟩ (.int .i64 x)).drew.heap[g]?=_:=e2
 have e4:=heap_setIn _ e3 38 (.int .u32 1)
 have e5:=heap_setIn _ e4 39 (.int .i32 0)
 rw [e5]
 unfold tec
 rw [tail_set (C:=(teh t.i t.n (some ⟨b,0,none⟩) ++ (sel t.s ++ tet 0 t.e)).toArray) rfl (j:=1) (by rw [hl];rfl),tail_set rfl (j:=3) (by rw [hl];rfl),tail_set rfl (j:=0) (by rw [hl];rfl),tail_set rfl (j:=1) (by rw [hl];rfl)]
 rfl
set_option maxHeartbeats 1600000 in
theorem tHalt_any (h:TeeE w g b c a t d) (hs:t.s.Ok) (h0:t.e=0) (x:Int) (hx:x≠0):
  Calls Tryz.prog 33 #[.pointer (some ⟨g,0,none⟩),.int .i64 x] w fun e' w'=>e'=.returned (.tuple #[])∧TeeW w' g b c a { t with e:=x }∧Tur g b a w w':=by
 obtain rfl:d=0:=h.d h0
 have hmf:∀ (fn:Fn) (first cap:Array Value) (w:World),(Instr.makeFunc fn first cap).run Tryz.prog w=.ok (.func fn first cap) w:=fun _ _ _ _=>rfl
 obtain ⟨r0,r1⟩:=rows_two w (.cells #[.pointer (some ⟨g,0,none⟩)] 30) (.cells #[.int .i64 x] 27)
 have hb:Below w.heap.size w ((w.alloc (.cells #[.pointer (some ⟨g,0,none⟩)] 30)).alloc (.cells #[.int .i64 x] 27)):=((Below.refl _ _).alloc (Nat.le_refl _) _).alloc (by simp) _
 have hg:=h.lt
 have HE:=hid (h.below hb)
 have HB:=hid hb
 have p1:((w.alloc (.cells #[.pointer (some ⟨g,0,none⟩)] 30)).alloc (.cells #[.int .i64 x] 27)).cell? ⟨w.heap.size + 1,0,none⟩=some (.int .i64 x):=cell_blk r1 0
 have p0:((w.alloc (.cells #[.pointer (some ⟨g,0,none⟩)] 30)).alloc (.cells #[.int .i64 x] 27)).cell? ⟨w.heap.size,0,none⟩=some (.pointer (some ⟨g,0,none⟩)):=cell_blk r0 0
 clear r0 r1 hb
 go_enter Tryz.func33,Tryz.ntmps33
 go_upto_region 1 with (fail)
 generalize ((w.alloc (.cells #[.pointer (some ⟨g,0,none⟩)] 30)).alloc (.cells #[.int .i64 x] 27))=wz at *
 obtain ⟨c0,c1,_,c3⟩:=HE.out.tail hs
 have HDO:=hid (oDo g (w.heap.size + 1) w.heap.size (by omega) (by omega) _ x wz p1 p0 c0 c1 c3 (HE.out.free 38) (HE.out.free 39) (HE.out.free 41))
 have HR:=hid (once_row hs x HE.out.p)
 clear c0 c1 c3 p1
 go_wp2_with fail
 refine HDO.out.mono ?_
 rintro e' w' ⟨rfl,rfl⟩
 have HT:Hid (Tur g b a wz ((((wz.setCell ⟨g,39,none⟩ (.int .i32 1)).setCell ⟨g,41,none⟩ (.int .i64 x)).drew.setCell ⟨g,38,none⟩ (.int .u32 1)).setCell ⟨g,39,none⟩ (.int .i32 0))):=hid ⟨rfl,rfl,rfl,by simp [World.setCell],fun k _ hk _ _=>by
  rw [Below.heap_setCell _ _ _ _ hk,Below.heap_setCell _ _ _ _ hk]
  show ((wz.setCell ⟨g,39,none⟩ (.int .i32 1)).setCell ⟨g,41,none⟩ (.int .i64 x)).heap[k]?=_
  rw [Below.heap_setCell _ _ _ _ hk,Below.heap_setCell _ _ _ _ hk]⟩
 have HV:=hid (HE.out.own HT.out.size (fun k h1 hk=>by
  rw [Below.heap_setCell _ _ _ _ hk,Below.heap_setCell _ _ _ _ hk]
  show ((wz.setCell ⟨g,39,none⟩ (.int .i32 1)).setCell ⟨g,41,none⟩ (.int .i64 x)).heap[k]?=_
  rw [Below.heap_setCell _ _ _ _ hk,Below.heap_setCell _ _ _ _ hk]))
 generalize ((((wz.setCell ⟨g,39,none⟩ (.int .i32 1)).setCell ⟨g,41,none⟩ (.int .i64 x)).drew.setCell ⟨g,38,none⟩ (.int .u32 1)).setCell ⟨g,39,none⟩ (.int .i32 0))=wy at *
 go_wp2_with fail
 go_end0
 exact ⟨rfl,⟨1,HR.out,HV.out,fun e=>absurd e hx⟩,(Tur.of HB.out).trans HT.out⟩
end
end Go.Proofs.YtpdnnmabijmfbaaGreatDoor
