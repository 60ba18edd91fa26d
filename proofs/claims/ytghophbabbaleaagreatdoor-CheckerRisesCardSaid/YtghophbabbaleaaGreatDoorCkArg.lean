/-
  Requests to a trusted part as plain data, in memory, as they came in; which are not too great: tithinglaw15.Light. Printed with genck.py.
-/
import Derived.Deep.CutBlock
import Derived.Test.YtghophbabbaleaaGreatDoorCkWords
namespace Go.Proofs.YtghophbabbaleaaGreatDoor
set_option maxRecDepth 20000
open Go.ChangeShapes Go.WideShapes Go.ChangeAt Go.RowKit Go.Deep
attribute [local go_sem ↓] exec_load_bk exec_load_ax exec_load_ct
structure StM where
  act : Int
  vi : Int
  b : BkM
  bA : Option Addr
  bc : Nat
  a : AcM
  aA : Option Addr
  ac : Nat
  c : CtM
  cA : Option Addr
  cc : Nat
def StM.sb (x : StM) : Value := .slice x.bA x.b.txs.length x.bc
def StM.sa (x : StM) : Value := .slice x.aA x.a.fr.length x.ac
def StM.sc (x : StM) : Value := .slice x.cA x.c.sg.length x.cc
def stl (x : StM) : List Value := [.int .i64 x.act, .int .i64 x.vi] ++ (bkl x.b x.sb ++ (axl x.a x.sa ++ ctl x.c x.sc))
def stc (x : StM) : Array Value := (stl x).toArray
def stZ : StM := ⟨0, 0, bkZ, none, 0, acZ, none, 0, ctZ, none, 0⟩
structure StOk (w : World) (x : StM) : Prop where
  bp : x.b.par.length = 32
  bt : Txs w x.sb x.b.txs
  bs : sizedK x.b
  ao : x.a.Ok
  ae : Els icl 1 w x.sa x.a.fr
  co : x.c.Ok
  ce : Els scl 33 w x.sc x.c.sg
theorem StOk.below {w w' : World} {x : StM} (h : StOk w x) (hb : Below w.heap.size w w') : StOk w' x := ⟨h.bp, h.bt.below hb, h.bs, h.ao, h.ae.below hb, h.co, h.ce.below hb⟩
theorem stZ_ok (w : World) : StOk w stZ := ⟨rfl, Txs.nil w, fun t h => by simp [stZ, bkZ] at h, acZ_ok, Els.nil w, ctZ_ok, Els.nil w⟩
theorem StOk.bk {w : World} {x : StM} (h : StOk w x) : BkV w (.agg (bkc x.b x.sb)) x.b := ⟨_, rfl, h.bp, h.bt⟩
theorem StOk.ax {w : World} {x : StM} (h : StOk w x) : AcV w (.agg (axc x.a x.sa)) x.a := ⟨_, rfl, h.ao, h.ae⟩
theorem StOk.ct {w : World} {x : StM} (h : StOk w x) : CtV w (.agg (ctc x.c x.sc)) x.c := ⟨_, rfl, h.co, h.ce⟩
theorem stl_length {w : World} {x : StM} (h : StOk w x) : (stl x).length = 208 := by
  unfold stl
  simp only [List.length_append, bkl_len _ h.bp, axl_length _ h.ao, ctl_len _ h.co.att, List.length_cons, List.length_nil]
theorem stc_size {w : World} {x : StM} (h : StOk w x) : (stc x).size = 208 := by
  unfold stc
  rw [List.size_toArray, stl_length h]
theorem stl_one (x : StM) : ∀ u ∈ stl x, u.oneCell' = true := by
  intro u hu
  unfold stl bkl ctl axl StM.sb StM.sa StM.sc at hu
  simp only [List.mem_append, List.mem_cons, List.not_mem_nil, or_false] at hu
  rcases hu with (rfl | rfl) | (hu | rfl | rfl | rfl | rfl) | ((rfl | rfl | rfl) | hu | rfl | hu) | hu | rfl
  all_goals first | rfl | exact bcells_one _ u hu | exact atl_one _ u hu
theorem stc_one (x : StM) : (stc x).all (·.oneCell') = true := all_oneCell_toArray (stl_one x)
theorem in_range {w : World} {g o : Nat} {t : TypeId} {C : Array Value} {pre mid post : List Value} (h : w.heap[g]? = some (.cells C t (0, 0))) (hC : C = (pre ++ (mid ++ post)).toArray) (ho : o = pre.length) : w.rangeAt g o mid := fun j u hu => by
  subst hC ho
  rw [cell_blk h, List.getElem?_toArray, List.getElem?_append_right (by omega), Nat.add_sub_cancel_left, List.getElem?_append_left (List.getElem?_eq_some_iff.1 hu).1]
  exact hu
structure StRd (W : World) (g : Nat) (x : StM) : Prop where
  act : W.cell? ⟨g, 0, none⟩ = some (.int .i64 x.act)
  vi : W.cell? ⟨g, 1, none⟩ = some (.int .i64 x.vi)
  bk : loadK (.pointer (some ⟨g, 2, none⟩)) W = .ok (.value (.agg (bkc x.b x.sb))) W
  ax : loadAx (.pointer (some ⟨g, 38, none⟩)) W = .ok (.value (.agg (axc x.a x.sa))) W
  ct : loadCt (.pointer (some ⟨g, 106, none⟩)) W = .ok (.value (.agg (ctc x.c x.sc))) W
  fr : W.cell? ⟨g, 73, none⟩ = some x.sa
  sg : W.cell? ⟨g, 207, none⟩ = some x.sc
theorem st_read {w W : World} {x : StM} {g : Nat} {t : TypeId} (h : W.heap[g]? = some (.cells (stc x) t (0, 0))) (ho : StOk w x) : StRd W g x := by
  have hb : W.rangeAt g 2 (bkl x.b x.sb) := in_range h (pre := [.int .i64 x.act, .int .i64 x.vi]) (post := axl x.a x.sa ++ ctl x.c x.sc) rfl rfl
  have ha : W.rangeAt g 38 (axl x.a x.sa) := in_range h (pre := [.int .i64 x.act, .int .i64 x.vi] ++ bkl x.b x.sb) (post := ctl x.c x.sc) (by unfold stc stl; simp only [List.append_assoc]) (by simp only [List.length_append, bkl_len _ ho.bp, List.length_cons, List.length_nil])
  have hc : W.rangeAt g 106 (ctl x.c x.sc) := in_range h (pre := [.int .i64 x.act, .int .i64 x.vi] ++ (bkl x.b x.sb ++ axl x.a x.sa)) (post := []) (by unfold stc stl; simp only [List.append_assoc, List.append_nil]) (by simp only [List.length_append, bkl_len _ ho.bp, axl_length _ ho.ao, List.length_cons, List.length_nil])
  refine ⟨cell_blk h 0, cell_blk h 1, loadK_in hb ho.bp, loadAx_in ha ho.ao, loadCt_in hc ho.co.att, ?_, ?_⟩
  · have := ha 35 x.sa (by have := axc_35 (a := x.a) x.sa ho.ao; unfold axc at this; rwa [List.getElem?_toArray] at this)
    exact this
  · have := hc 101 x.sc (by unfold ctl; rw [List.getElem?_append_right (by rw [atl_length ho.co.att]; omega), atl_length ho.co.att]; rfl)
    exact this
noncomputable def loadSt (v : Value) (w : World) : Result Next := Sem.run Tryz.prog (execOp (fun _ => v) { dst := none, op := .load 57 (.tmp 0), type := 0, pos := "", after := #[], guard := none }) w
theorem exec_load_st (r : Operand → Value) (x : Operand) (dst : Option Tmp) (ty : TypeId) (pos : String) (after : Array Edge) (guard : Option (Nat × Bool)) (w : World) :
    Sem.run Tryz.prog (execOp r { dst := dst, op := .load 57 x, type := ty, pos := pos, after := after, guard := guard }) w = loadSt (r x) w := rfl
theorem under_st : Tryz.prog.underlying 57 = some (.struct (Tryz.prog.fieldsOf 57)) := by kernel_rfl
theorem size_st : (Tryz.prog.info? 57).map (·.size) = some 208 := by kernel_rfl
theorem loadSt_mid {w W : World} {g o : Nat} {x : StM} (hr : W.rangeAt g o (stl x)) (ho : StOk w x) : loadSt (.pointer (some ⟨g, o, none⟩)) W = .ok (.value (.agg (stc x))) W := by
  have := run_loadAt_mid (P := Tryz.prog) W g o 57 (stl x) _ hr under_st rfl (by rw [size_st, stl_length ho])
  unfold loadSt execOp
  simp only [Sem.run_bind, this, Result.andThen_ok, Sem.run_pure]
  rfl
theorem loadSt_row {w W : World} {g : Nat} {x : StM} {t : TypeId} (h : W.heap[g]? = some (.cells (stc x) t (0, 0))) (ho : StOk w x) : loadSt (.pointer (some ⟨g, 0, none⟩)) W = .ok (.value (.agg (stc x))) W :=
  loadSt_mid (in_range h (pre := []) (post := []) (by unfold stc; simp) rfl) ho
theorem info_st : (Tryz.prog.info? 57).map (fun i => (i.zero, i.size, decide (i.bytes ≤ 100000))) = some (some (.agg (stc stZ)), 208, true) := by kernel_rfl
theorem eltSt (w : World) : Elt stl (StOk w) 208 57 65 := by
  refine ⟨by omega, fun _ h => stl_length h, stl_one, by kernel_rfl, by kernel_rfl, ?_⟩
  obtain ⟨i, hi, h⟩ := Option.map_eq_some_iff.1 info_st
  injection h with h1 h
  injection h with h2 h3
  exact ⟨i, _, hi, h1, h2, of_decide_eq_true h3, by show (stc stZ).size = 208; exact stc_size (stZ_ok w)⟩
section
variable {H : Type} {enc : TypeId × Value → H} {w : World} {base : Nat} {spare : Nat → Bool} {held : Bool} {fuel : Nat} {cs : List Value} {x : DataW H × List MemPlace}
theorem fields_st : ∃ f0 f1 f2 f3 f4 : Field, Tryz.prog.underlying 57 = some (.struct #[f0, f1, f2, f3, f4]) ∧ (f0.type, f0.offset) = (3, 0) ∧ (f1.type, f1.offset) = (3, 1) ∧ (f2.type, f2.offset) = (47, 2)
    ∧ (f3.type, f3.offset) = (50, 38) ∧ (f4.type, f4.offset) = (55, 106) :=
  ⟨_, _, _, _, _, Tryz.underlying57, rfl, rfl, rfl, rfl, rfl⟩
theorem trod_st (h : DataW.trod enc Tryz.prog w base spare held fuel 57 cs = some x) : ∃ a, StOk w a ∧ cs = stl a := by
  obtain ⟨f0, f1, f2, f3, f4, hu, e0, e1, e2, e3, e4⟩ := fields_st
  injection e0 with t0 o0
  injection e1 with t1 o1
  injection e2 with t2 o2
  injection e3 with t3 o3
  injection e4 with t4 o4
  obtain ⟨xs, m, _, _, hlen, hxl, hf⟩ := DataW.trod_struct hu h
  have hc : Tryz.prog.cellsOf 57 = 208 := by kernel_rfl
  have hci : Tryz.prog.cellsOf 3 = 1 := by kernel_rfl
  have hcb : Tryz.prog.cellsOf 47 = 36 := by kernel_rfl
  have hca : Tryz.prog.cellsOf 50 = 68 := by kernel_rfl
  have hct : Tryz.prog.cellsOf 55 = 102 := by kernel_rfl
  rw [hc] at hlen
  have hx : xs.length = 5 := hxl
  have g0 := hf 0 f0 rfl
  have g1 := hf 1 f1 rfl
  have g2 := hf 2 f2 rfl
  have g3 := hf 3 f3 rfl
  have g4 := hf 4 f4 rfl
  rw [t0, o0, hci, List.getElem?_eq_getElem (by omega)] at g0
  rw [t1, o1, hci, List.getElem?_eq_getElem (by omega)] at g1
  rw [t2, o2, hcb, List.getElem?_eq_getElem (by omega)] at g2
  rw [t3, o3, hca, List.getElem?_eq_getElem (by omega)] at g3
  rw [t4, o4, hct, List.getElem?_eq_getElem (by omega)] at g4
  obtain ⟨n0, c0, _, _⟩ := DataW.trod_int Tryz.underlying3 g0
  obtain ⟨n1, c1, _, _⟩ := DataW.trod_int Tryz.underlying3 g1
  obtain ⟨b, ⟨sb, cb, bp, bt⟩, bs⟩ := trod_bk g2
  obtain ⟨a, sa, ca, ao, ae⟩ := trod_ac g3
  obtain ⟨c, sc, cc, co, ce⟩ := trod_ct g4
  obtain ⟨A2, d2, rfl⟩ := bt.shape
  obtain ⟨A3, d3, rfl⟩ := ae.shape
  obtain ⟨A4, d4, rfl⟩ := ce.shape
  have c2 : (cs.drop 2).take 36 = bkl b (.slice A2 b.txs.length d2) := by
    have h := congrArg (fun v => match v with | .agg C => C.toList | _ => []) cb
    exact h
  have c3 : (cs.drop 38).take 68 = axl a (.slice A3 a.fr.length d3) := by
    have h := congrArg (fun v => match v with | .agg C => C.toList | _ => []) ca
    exact h
  have c4 : (cs.drop 106).take 102 = ctl c (.slice A4 c.sg.length d4) := by
    have h := congrArg (fun v => match v with | .agg C => C.toList | _ => []) cc
    exact h
  refine ⟨⟨n0, n1, b, A2, d2, a, A3, d3, c, A4, d4⟩, ⟨bp, bt, bs, ao, ae, co, ce⟩, ?_⟩
  have e : cs = cs.drop 0 := rfl
  rw [e, drop_part c0, drop_part c1, drop_part c2, drop_part c3, drop_part c4, List.drop_eq_nil_of_le (by omega)]
  unfold stl StM.sb StM.sa StM.sc
  simp only [List.append_nil, List.cons_append, List.nil_append]
theorem trod_stp (h : DataW.trod enc Tryz.prog w base spare held fuel 57 cs = some x) : ∃ a, StOk w a ∧ cs = (stc a).toList := by
  obtain ⟨a, ho, e⟩ := trod_st h
  exact ⟨a, ho, e⟩
theorem trod_sea (h : DataW.trod enc Tryz.prog w base spare held fuel 40 cs = some x) : ∃ s : SeM, s.Ok ∧ cs = (sec s).toList := by
  obtain ⟨s, ho, e⟩ := trod_se h
  exact ⟨s, ho, e⟩
theorem trod_sts (h : DataW.trod enc Tryz.prog w base spare held fuel 65 cs = some x) : ∃ v L, cs = [v] ∧ Els stl 208 w v L ∧ ∀ a ∈ L, StOk w a :=
  (eltSt w).trod stZ (stZ_ok w) (fun h => trod_st h) h
end
def litS (x : StM) : Bool := litK x.b && (decide ((x.a.fr.length : Int) ≤ 30) && decide ((x.c.sg.length : Int) ≤ 30))
set_option maxHeartbeats 3200000 in
theorem light15_any (x : StM) (w : World) (ho : StOk w x) : Calls Tryz.prog 12 #[.agg (stc x)] w fun e w' => e = .returned (.bool (litS x)) ∧ Below w.heap.size w w' := by
  have hb0 : Below w.heap.size w (w.alloc (.cells (stc x) 57)) := (Below.refl _ _).alloc (Nat.le_refl _) _
  have hr := heap_alloc_new w (.cells (stc x) 57)
  have HRD : Hid (∀ W, W.heap[w.heap.size]? = some (.cells (stc x) 57 (0, 0)) → StRd W w.heap.size x) := hid (fun W h => st_read h ho)
  have HLK : Hid (∀ W, Below w.heap.size w W → Calls Tryz.prog 32 #[.agg (bkc x.b x.sb)] W fun e w' => e = .returned (.bool (litK x.b)) ∧ Below W.heap.size W w') := hid (fun W h => light7_any _ x.b W (ho.bk.below h) ho.bs)
  obtain ⟨C, HC⟩ : ∃ C : Array Value, Hid (stc x = C) := ⟨_, hid rfl⟩
  obtain ⟨q, HQ⟩ : ∃ q : Bool, Hid (litS x = q) := ⟨_, hid rfl⟩
  obtain ⟨k, HKB⟩ : ∃ q : Bool, Hid (litK x.b = q) := ⟨_, hid rfl⟩
  have HM : Hid (q = (k && (decide ((x.a.fr.length : Int) ≤ 30) && decide ((x.c.sg.length : Int) ≤ 30)))) := hid (by rw [← HQ.out, ← HKB.out]; rfl)
  obtain ⟨B, HB⟩ : ∃ C : Array Value, Hid (bkc x.b x.sb = C) := ⟨_, hid rfl⟩
  have HF : Hid (∀ W, W.heap[w.heap.size]? = some (.cells C 57 (0, 0)) → loadK (.pointer (some ⟨w.heap.size, 2, none⟩)) W = .ok (.value (.agg B)) W ∧ W.cell? ⟨w.heap.size, 73, none⟩ = some (.slice x.aA x.a.fr.length x.ac) ∧ W.cell? ⟨w.heap.size, 207, none⟩ = some (.slice x.cA x.c.sg.length x.cc)) := hid (fun W h => by
    rw [← HC.out] at h
    have r := HRD.out W h
    have r2 := r.bk
    rw [HB.out] at r2
    exact ⟨r2, r.fr, r.sg⟩)
  rw [HC.out] at hb0 hr ⊢
  rw [HKB.out, HB.out] at HLK
  rw [HQ.out]
  clear ho HC HQ HKB HB HRD
  obtain ⟨n1, HN1⟩ : ∃ q : Nat, Hid (x.a.fr.length = q) := ⟨_, hid rfl⟩
  obtain ⟨n2, HN2⟩ : ∃ q : Nat, Hid (x.c.sg.length = q) := ⟨_, hid rfl⟩
  rw [HN1.out, HN2.out] at HM HF
  go_enter Tryz.func12, Tryz.ntmps12
  go_upto_region 1 with (fail)
  generalize (w.alloc (.cells C 57)) = wz at *
  have HB0 := hid hb0
  have HR := hid hr
  obtain ⟨l0, _, _⟩ := HF.out wz hr
  clear hb0 hr
  go_wp2_with fail
  refine (HLK.out wz HB0.out).mono ?_
  rintro e w1 ⟨rfl, hb1⟩
  have HB1 := hid (HB0.out.trans (hb1.mono HB0.out.size))
  obtain ⟨_, k1, k2⟩ := HF.out w1 ((hb1.block _ (lt_of_block HR.out)).trans HR.out)
  clear l0 hb1
  cases k with
  | false =>
    obtain rfl : q = false := by rw [HM.out]; rfl
    go_wp2_with fail
    go_ret
    exact ⟨rfl, HB1.out⟩
  | true =>
  by_cases p1 : (n1 : Int) ≤ 30
  · obtain rfl : q = decide ((n2 : Int) ≤ 30) := by rw [HM.out, decide_eq_true p1]; rfl
    go_wp2_with fail
    go_ret
    exact ⟨rfl, HB1.out⟩
  · obtain rfl : q = false := by rw [HM.out, decide_eq_false p1]; rfl
    go_wp2_with fail
    go_ret
    exact ⟨rfl, HB1.out⟩
end Go.Proofs.YtghophbabbaleaaGreatDoor
