/-
  SeRd SeCodeRead SeAwake SeCodeGet SeGet SeArg: what each of them says stands at its head.
-/
import Derived.Test.YtghophbabbaleaaGreatDoorBs11
namespace Go.Proofs.YtghophbabbaleaaGreatDoor
set_option maxRecDepth 20000
open Go.RowKit
theorem sel_pa (a : SeM) : sel a = [.int .i64 a.vi, .int .i64 a.ph, .int .i64 a.pv] ++ (bcells a.pa ++ []) := by rw [List.append_nil]; rfl
section
variable {ops : Array Oper} {rest : List Oper} {o : Oper} {ac : Act} {w : World} {Q : Exit → Act → World → Prop}
theorem wpList_store_seh (hgd : o.guard = none) (x y : Operand) (ho : o.op = .store 38 x y)
    {g : Nat} {a : SeM} {h : List UInt8} (hx : ac.eval x = .pointer (some ⟨g, 3, none⟩)) (hy : ac.eval y = .agg (hcells h)) (hg : BoxSe w g a) (hok : a.Ok) (hl : h.length = 32)
    (hh : ∀ w', w.grownBy w' (some g) → BoxSe w' g { a with pa := h } → w'.heap.size = w.heap.size → wpList Tryz.prog ops Q rest (ac.put o.dst undef) w') : wpList Tryz.prog ops Q (o :: rest) ac w := by
  unfold BoxSe sec at hg
  rw [sel_pa] at hg
  have hpl : a.pa.length = 32 := hok
  refine wpList_store_midh hgd x y ho hx hy hg rfl (by rw [bcells_length, hpl]) hl (fun w' h1 h2 h3 => hh w' h1 ?_ h3)
  unfold BoxSe sec
  rw [sel_pa]
  exact h2
end
theorem setSe_self {w : World} {g : Nat} {t : TypeId} {C : Array Value} {fr : Nat × Nat} (hg : w.heap[g]? = some (.cells C t fr)) : setSe w g C = w := by
  have e : ∀ f : Obj → Obj, f (.cells C t fr) = .cells C t fr → w.heap.modify g f = w.heap := by
    intro f hf
    apply Array.ext_getElem?
    intro k
    rw [Array.getElem?_modify]
    by_cases h : g = k
    · subst h
      rw [if_pos rfl, hg]
      simp [hf]
    · rw [if_neg h]
  unfold setSe World.setRow
  rw [e _ rfl]
theorem wp_store_se {op : Oper} {ac : Act} {w : World} {K : Act → World → Prop} {Q : Exit → Act → World → Prop} (x y : Operand) (ho : op.op = .store 40 x y) {g : Nat} {t : TypeId} {C0 C : Array Value}
    (hx : ac.eval x = .pointer (some ⟨g, 0, none⟩)) (hy : ac.eval y = .agg C) (hg : w.heap[g]? = some (.cells C0 t (0, 0))) (hi : C.size = 35) (hs : C0.size = 35) (h1 : C.all (·.oneCell') = true)
    (hh : ∀ w', w.grownBy w' (some g) → w'.heap[g]? = some (.cells C t (0, 0)) → w'.heap.size = w.heap.size → K (ac.put op.dst undef) w') : op.wp Tryz.prog ac w K Q := by
  refine wp_store_mid _ x y ho g 0 C hx hy (fun j hj => ⟨?_, free_blk hg _⟩) (by rw [size_se, hi]) h1 ?_
  · rw [cell_blk hg, Nat.zero_add, Array.getElem?_eq_getElem (by omega)]
    rfl
  · refine hh _ (grown_setCells g _ _ _) ?_ (setCells_size g _ _ _)
    have := setCells_row C.toList 0 w C0 hg
    have e := putAt_mid C.toList [] C0.toList [] (by rw [Array.length_toList, Array.length_toList, hi, hs])
    simp only [List.nil_append, List.append_nil, List.length_nil, Array.toArray_toList] at e
    rw [e] at this
    exact this
theorem results_se {fn : Func} {p q s : Tmp} (h : fn.results = #[.tmp p, .cell q 40, .tmp s]) (tmps : Array Value) (w : World) (g2 : Nat) (t2 : TypeId) (ys : Array Value) (u v : Value)
    (hu : tmps.getD p undef = u) (hq : tmps.getD q undef = .pointer (some ⟨g2, 0, none⟩)) (hv : tmps.getD s undef = v) (h2 : w.heap[g2]? = some (.cells ys t2 (0, 0))) (hy : ys.size = 35) :
    (results fn tmps).run Tryz.prog w = .ok (.tuple #[u, .agg ys, v]) w := by
  have hu' : tmps[p]?.getD undef = u := by simpa using hu
  have hq' : tmps[q]?.getD undef = .pointer (some ⟨g2, 0, none⟩) := by simpa using hq
  have hv' : tmps[s]?.getD undef = v := by simpa using hv
  have r2 := run_loadVar_row (P := Tryz.prog) w g2 t2 40 ys (0, 0) _ h2 under_se rfl (by rw [size_se, hy])
  simp [results, h, hu', hq', hv', asAddr, r2]
theorem getB_text {i : Int} {l : List UInt8} (h : textB l = false) : getB i l = (0, seZ, 2) := by
  unfold getB
  rw [h, if_neg (by decide)]
theorem getB_tag {i : Int} {l : List UInt8} (h : textB l = true) (h2 : ¬ (nodeB i = true ∧ (rawB l).2.2.1 = tagS i (rawB l).1 (rawB l).2.1)) : getB i l = (0, seZ, 7) := by
  unfold getB
  rw [if_pos h, if_neg h2]
theorem getB_yes {i : Int} {l : List UInt8} (h : textB l = true) (h2 : nodeB i = true ∧ (rawB l).2.2.1 = tagS i (rawB l).1 (rawB l).2.1) : getB i l = ((rawB l).1, (rawB l).2.1, 0) := by
  unfold getB
  rw [if_pos h, if_pos h2]
theorem textB_raw {l : List UInt8} {n : Int} {s : SeM} {t : List UInt8} {p : Nat} {r : Bool} (h : rawB l = (n, s, t, p, r)) : textB l = ((r && decide (p = l.length)) && (decide (1 ≤ n) && mayS s)) := by
  unfold textB
  rw [h]
structure GsSt (w0 w : World) (x0 x1 x2 : Value) (a : SeM) : Prop where
  bel : Below w0.heap.size w0 w
  b0 : BoxSe w w0.heap.size seZ
  b1 : BoxSe w (w0.heap.size + 1) a
  b2 : w.heap[w0.heap.size + 1 + 1]? = some (.cells #[x0, x1, x2] 137 (0, 0))
section
variable {w0 w w' : World} {x0 x1 x2 : Value} {a : SeM}
theorem GsSt.lt (h : GsSt w0 w x0 x1 x2 a) : w0.heap.size + 1 + 1 < w.heap.size := lt_of_block h.b2
theorem GsSt.below (h : GsSt w0 w x0 x1 x2 a) (hb : Below w.heap.size w w') : GsSt w0 w' x0 x1 x2 a := by
  have hlt := h.lt
  exact ⟨h.bel.trans (hb.mono h.bel.size), (hb.block _ (by omega)).trans h.b0, (hb.block _ (by omega)).trans h.b1, (hb.block _ (by omega)).trans h.b2⟩
theorem GsSt.new (w : World) (x0 x1 x2 : Value) :
    GsSt w (((w.alloc (.cells (sec seZ) 40)).alloc (.cells (sec seZ) 40)).alloc (.cells #[x0, x1, x2] 137)) x0 x1 x2 seZ := by
  refine ⟨(((Below.refl _ _).alloc (Nat.le_refl _) _).alloc (by simp) _).alloc (by simp <;> omega) _, ?_, ?_, ?_⟩
  · exact (Below.heap_alloc _ _ _ (by simp <;> omega)).trans (heap1 w _ _)
  · exact (Below.heap_alloc _ _ _ (by simp)).trans (heap2 w _ _)
  · have := heap2 (w.alloc (.cells (sec seZ) 40)) (.cells (sec seZ) 40) (.cells #[x0, x1, x2] 137)
    rwa [show (w.alloc (.cells (sec seZ) 40)).heap.size = w.heap.size + 1 from by simp] at this
theorem GsSt.put (h : GsSt w0 w x0 x1 x2 a) (y0 y1 y2 : Value) :
    GsSt w0 (((w.setCell ⟨w0.heap.size + 1 + 1, 0, none⟩ y0).setCell ⟨w0.heap.size + 1 + 1, 1, none⟩ y1).setCell ⟨w0.heap.size + 1 + 1, 2, none⟩ y2) y0 y1 y2 a := by
  refine ⟨((h.bel.setCell (by simp only; omega) _).setCell (by simp only; omega) _).setCell (by simp only; omega) _, ?_, ?_, ?_⟩
  · exact blk_other (blk_other (blk_other h.b0 y0 (by omega)) y1 (by omega)) y2 (by omega)
  · exact blk_other (blk_other (blk_other h.b1 y0 (by omega)) y1 (by omega)) y2 (by omega)
  · exact set_blk (set_blk (set_blk h.b2 0 y0) 1 y1) 2 y2
theorem GsSt.cell (h : GsSt w0 w x0 x1 x2 a) {b : SeM} {v : Value} (i : Nat) (e : (sec a).setIfInBounds i v = sec b) : GsSt w0 (w.setCell ⟨w0.heap.size + 1, i, none⟩ v) x0 x1 x2 b := by
  refine ⟨h.bel.setCell (by simp only; omega) _, blk_other h.b0 _ (by omega), ?_, blk_other h.b2 _ (by omega)⟩
  have := set_blk h.b1 i v
  rw [e] at this
  exact this
theorem GsSt.se (h : GsSt w0 w x0 x1 x2 a) {b : SeM} (hg : w.grownBy w' (some (w0.heap.size + 1))) (hb : BoxSe w' (w0.heap.size + 1) b) : GsSt w0 w' x0 x1 x2 b := by
  have hlt := h.lt
  refine ⟨h.bel.grown hg h.bel.size (fun k hk => by injection hk with hk; omega), ?_, hb, ?_⟩
  · exact (hg.block _ (by omega) (fun e => by injection e with e; omega)).trans h.b0
  · exact (hg.block _ (by omega) (fun e => by injection e with e; omega)).trans h.b2
theorem GsSt.cells (h : GsSt w0 w x0 x1 x2 a) :
    (w.cell? ⟨w0.heap.size + 1 + 1, 0, none⟩ = some x0 ∧ w.cell? ⟨w0.heap.size + 1 + 1, 1, none⟩ = some x1 ∧ w.cell? ⟨w0.heap.size + 1 + 1, 2, none⟩ = some x2) ∧
    (w.cell? ⟨w0.heap.size + 1, 0, none⟩ = some (.int .i64 a.vi) ∧ w.cell? ⟨w0.heap.size + 1, 1, none⟩ = some (.int .i64 a.ph) ∧ w.cell? ⟨w0.heap.size + 1, 2, none⟩ = some (.int .i64 a.pv)) ∧
    (∀ i, w.frozen? ⟨w0.heap.size + 1, i, none⟩ = false) ∧ (∀ i, w.frozen? ⟨w0.heap.size + 1 + 1, i, none⟩ = false) :=
  ⟨⟨cell_blk h.b2 0, cell_blk h.b2 1, cell_blk h.b2 2⟩, h.b1.cells, h.b1.free, free_blk h.b2⟩
end
theorem rdHash_plS {l : List UInt8} {p : Nat} {r : Bool} (hp : p ≤ l.length) : (rdHash l p r).2.1 ≤ l.length := by
  unfold rdHash
  split
  · exact hp
  · split
    · assumption
    · exact hp
end Go.Proofs.YtghophbabbaleaaGreatDoor
namespace Go.Proofs.YtghophbabbaleaaGreatDoor
set_option maxRecDepth 20000
open Go.RowKit
attribute [local go_sem ↓] exec_load_se exec_alloc_se exec_store_se exec_load_hash
def readS (l : List UInt8) (p : Nat) (r : Bool) : SeM × Nat × Bool :=
  let b := rdUpto 1099511627776 l p r
  let c := rdUpto 3 l b.2.1 b.2.2
  let d := rdUpto 1099511627776 l c.2.1 c.2.2
  let e := rdHash l d.2.1 d.2.2
  (⟨b.1, c.1, d.1, e.1⟩, e.2)
theorem rawB_read (l : List UInt8) : rawB l = ((((rdUpto 1099511627776 l 0 true).1 : Nat) : Int), (readS l (rdUpto 1099511627776 l 0 true).2.1 (rdUpto 1099511627776 l 0 true).2.2).1, (rdHash l (readS l (rdUpto 1099511627776 l 0 true).2.1 (rdUpto 1099511627776 l 0 true).2.2).2.1 (readS l (rdUpto 1099511627776 l 0 true).2.1 (rdUpto 1099511627776 l 0 true).2.2).2.2)) := rfl
theorem readS_ok (l : List UInt8) (p : Nat) (r : Bool) : (readS l p r).1.Ok := rdHash_32 _ _ _
structure RsSt (w0 w : World) (g : Nat) (l : List UInt8) (p : Nat) (r : Bool) (a : SeM) : Prop where
  lt : g < w0.heap.size
  gr : w0.grownBy w (some g)
  rd : Rdr w g l p r
  b0 : BoxSe w w0.heap.size seZ
  b1 : BoxSe w (w0.heap.size + 1) a
section
variable {w0 w w' : World} {g : Nat} {l : List UInt8} {p : Nat} {r : Bool} {a : SeM}
theorem seGrown_set {w0 w : World} {row : Option Nat} (h : w0.grownBy w row) (a : Addr) (u : Value) (ha : w0.heap.size ≤ a.block) : w0.grownBy (w.setCell a u) row :=
  ⟨h.os, h.tape, h.output, by simpa using h.size, fun k hk hr => (Below.heap_setCell w a u k (fun e => by omega)).trans (h.block k hk hr)⟩
theorem seGrown_past {w0 w w' : World} {row : Option Nat} {k : Nat} (h : w0.grownBy w row) (hg : w.grownBy w' (some k)) (hk : w0.heap.size ≤ k) : w0.grownBy w' row :=
  ⟨hg.os.trans h.os, hg.tape.trans h.tape, hg.output.trans h.output, Nat.le_trans h.size hg.size, fun j hj hne => (hg.block j (Nat.lt_of_lt_of_le hj h.size) (fun e => by injection e with e; omega)).trans (h.block j hj hne)⟩
theorem RsSt.new (h : Rdr w0 g l p r) : RsSt w0 ((w0.alloc (.cells (sec seZ) 40)).alloc (.cells (sec seZ) 40)) g l p r seZ := by
  have hb : Below w0.heap.size w0 ((w0.alloc (.cells (sec seZ) 40)).alloc (.cells (sec seZ) 40)) := ((Below.refl _ _).alloc (Nat.le_refl _) _).alloc (by simp) _
  exact ⟨h.lt, grown_of_below hb _, h.below hb, heap1 w0 _ _, heap2 w0 _ _⟩
theorem RsSt.grow (h : RsSt w0 w g l p r a) {p' : Nat} {r' : Bool} (hr : Rdr w' g l p' r') (hg : w.grownBy w' (some g)) : RsSt w0 w' g l p' r' a := by
  have h0 := h.b0.lt
  have h1 := h.b1.lt
  have hlt := h.lt
  exact ⟨hlt, h.gr.trans hg, hr, (hg.block _ h0 (fun e => by injection e with e; omega)).trans h.b0, (hg.block _ h1 (fun e => by injection e with e; omega)).trans h.b1⟩
theorem RsSt.cell (h : RsSt w0 w g l p r a) {b : SeM} {v : Value} (i : Nat) (e : (sec a).setIfInBounds i v = sec b) : RsSt w0 (w.setCell ⟨w0.heap.size + 1, i, none⟩ v) g l p r b := by
  have hlt := h.lt
  refine ⟨hlt, seGrown_set h.gr _ _ (Nat.le_succ _), h.rd.apart (grown_set _ _ _ _) h.b1 (by decide) (by omega), blk_other h.b0 _ (by omega), ?_⟩
  have := set_blk h.b1 i v
  rw [e] at this
  exact this
theorem RsSt.se (h : RsSt w0 w g l p r a) {b : SeM} (hg : w.grownBy w' (some (w0.heap.size + 1))) (hb : BoxSe w' (w0.heap.size + 1) b) : RsSt w0 w' g l p r b := by
  have hlt := h.lt
  exact ⟨hlt, seGrown_past h.gr hg (Nat.le_succ _), h.rd.apart hg h.b1 (by decide) (by omega), (hg.block _ h.b0.lt (fun e => by injection e with e; omega)).trans h.b0, hb⟩
theorem RsSt.cells (h : RsSt w0 w g l p r a) :
    (w.cell? ⟨w0.heap.size + 1, 0, none⟩ = some (.int .i64 a.vi) ∧ w.cell? ⟨w0.heap.size + 1, 1, none⟩ = some (.int .i64 a.ph) ∧ w.cell? ⟨w0.heap.size + 1, 2, none⟩ = some (.int .i64 a.pv)) ∧
    (∀ i, w.frozen? ⟨w0.heap.size + 1, i, none⟩ = false) := ⟨h.b1.cells, h.b1.free⟩
theorem RsSt.fin (h : RsSt w0 w g l p r a) (C : Array Value) : (setSe w w0.heap.size C).heap[w0.heap.size]? = some (.cells C 40 (0, 0)) ∧ Rdr (setSe w w0.heap.size C) g l p r ∧ w0.grownBy (setSe w w0.heap.size C) (some g) := by
  have hlt := h.lt
  have hg : w.grownBy (setSe w w0.heap.size C) (some w0.heap.size) := by
    refine ⟨rfl, rfl, rfl, ?_, fun k hk hne => setSe_other w C (fun e => hne (by rw [e]))⟩
    unfold setSe
    simp
  exact ⟨setSe_same h.b0, h.rd.apart hg h.b0 (by decide) (by omega), seGrown_past h.gr hg (Nat.le_refl _)⟩
end
set_option maxHeartbeats 6400000 in
theorem seread_any (g : Nat) (l : List UInt8) (p : Nat) (r : Bool) (w : World) (hr : Rdr w g l p r) (hl : l.length ≤ 1000000) :
    Calls Tryz.prog 81 #[.pointer (some ⟨g, 0, none⟩)] w fun e w' => e = .returned (.agg (sec (readS l p r).1)) ∧ Rdr w' g l (readS l p r).2.1 (readS l p r).2.2 ∧ w.grownBy w' (some g) := by
  have HU := hid (fun p r W (h : Rdr W g l p r) m (h1 : -9223372036854775808 ≤ m) (h2 : m ≤ 9223372036854775807) => upto_any g l p r m W h (by omega) h1 h2)
  have HH := hid (fun p r W (h : Rdr W g l p r) => rhash_any g l p r W h (by omega))
  obtain ⟨Z, HZ⟩ : ∃ C : Array Value, Hid (sec seZ = C) := ⟨_, hid rfl⟩
  have hal : ∀ W, allocSe W = .ok (.value (.pointer (some ⟨W.heap.size, 0, none⟩))) (W.alloc (.cells Z 40)) := fun W => by rw [← HZ.out]; exact allocSe_eq W
  have HSZ : Hid (Z.size = 35) := hid (by rw [← HZ.out]; exact sec_size seZ_ok)
  obtain ⟨RS, HRS⟩ : ∃ x : SeM × Nat × Bool, Hid (readS l p r = x) := ⟨_, hid rfl⟩
  rw [HRS.out]
  have hst := RsSt.new hr
  rw [HZ.out] at hst
  have hsz : (w.alloc (.cells Z 40)).heap.size = w.heap.size + 1 := by simp
  clear hr hl
  go_enter Tryz.func81, Tryz.ntmps81
  go_upto_region 2 with (fail)
  generalize ((w.alloc (.cells Z 40)).alloc (.cells Z 40)) = w0 at *
  clear hal
  try rw [hsz]
  clear hsz
  obtain ⟨⟨k0, k1, k2⟩, g1⟩ := hst.cells
  have HST := hid hst
  clear hst
  go_wp2_with fail
  obtain ⟨a1, p1, r1, HA1⟩ : ∃ x q s, Hid (rdUpto 1099511627776 l p r = (x, q, s)) := ⟨_, _, _, hid rfl⟩
  have hm1 : a1 ≤ 1099511627776 := by have := rdUpto_le (m := 1099511627776) (l := l) (p := p) (r := r); rw [show ((1099511627776 : Nat) : Int) = 1099511627776 from rfl, HA1.out] at this; exact this
  have C := HU.out p r _ (HST.out).rd 1099511627776 (by omega) (by omega)
  rw [HA1.out] at C
  refine C.mono ?_
  clear C
  rintro e w1 ⟨rfl, hrd, hgr⟩
  have hst : RsSt w w1 g l p1 r1 ⟨0, 0, 0, z32⟩ := (HST.out).grow hrd hgr
  clear hrd hgr HST k0 k1 k2 g1
  obtain ⟨⟨k0, k1, k2⟩, g1⟩ := hst.cells
  have HST := hid hst
  clear hst
  go_wp2_with fail
  obtain ⟨a2, p2, r2, HA2⟩ : ∃ x q s, Hid (rdUpto 3 l p1 r1 = (x, q, s)) := ⟨_, _, _, hid rfl⟩
  have hm2 : a2 ≤ 3 := by have := rdUpto_le (m := 3) (l := l) (p := p1) (r := r1); rw [show ((3 : Nat) : Int) = 3 from rfl, HA2.out] at this; exact this
  have C := HU.out p1 r1 _ ((HST.out.cell (b := ⟨(a1 : Int), 0, 0, z32⟩) (v := .int .i64 (a1 : Int)) 0 rfl)).rd 3 (by omega) (by omega)
  rw [HA2.out] at C
  refine C.mono ?_
  clear C
  rintro e w2 ⟨rfl, hrd, hgr⟩
  have hst : RsSt w w2 g l p2 r2 ⟨(a1 : Int), 0, 0, z32⟩ := ((HST.out.cell (b := ⟨(a1 : Int), 0, 0, z32⟩) (v := .int .i64 (a1 : Int)) 0 rfl)).grow hrd hgr
  clear hrd hgr HST k0 k1 k2 g1
  obtain ⟨⟨k0, k1, k2⟩, g1⟩ := hst.cells
  have HST := hid hst
  clear hst
  go_wp2_with fail
  obtain ⟨a3, p3, r3, HA3⟩ : ∃ x q s, Hid (rdUpto 1099511627776 l p2 r2 = (x, q, s)) := ⟨_, _, _, hid rfl⟩
  have hm3 : a3 ≤ 1099511627776 := by have := rdUpto_le (m := 1099511627776) (l := l) (p := p2) (r := r2); rw [show ((1099511627776 : Nat) : Int) = 1099511627776 from rfl, HA3.out] at this; exact this
  have C := HU.out p2 r2 _ ((HST.out.cell (b := ⟨(a1 : Int), (a2 : Int), 0, z32⟩) (v := .int .i64 (a2 : Int)) 1 rfl)).rd 1099511627776 (by omega) (by omega)
  rw [HA3.out] at C
  refine C.mono ?_
  clear C
  rintro e w3 ⟨rfl, hrd, hgr⟩
  have hst : RsSt w w3 g l p3 r3 ⟨(a1 : Int), (a2 : Int), 0, z32⟩ := ((HST.out.cell (b := ⟨(a1 : Int), (a2 : Int), 0, z32⟩) (v := .int .i64 (a2 : Int)) 1 rfl)).grow hrd hgr
  clear hrd hgr HST k0 k1 k2 g1
  obtain ⟨⟨k0, k1, k2⟩, g1⟩ := hst.cells
  have HST := hid hst
  clear hst
  go_wp2_with fail
  obtain ⟨h4, p4, r4, HA4⟩ : ∃ x q s, Hid (rdHash l p3 r3 = (x, q, s)) := ⟨_, _, _, hid rfl⟩
  have HL4 : Hid (h4.length = 32) := hid (by have := rdHash_32 l p3 r3; rw [HA4.out] at this; exact this)
  have C := HH.out p3 r3 _ ((HST.out.cell (b := ⟨(a1 : Int), (a2 : Int), (a3 : Int), z32⟩) (v := .int .i64 (a3 : Int)) 2 rfl)).rd
  rw [HA4.out] at C
  refine C.mono ?_
  clear C
  rintro e w4 ⟨rfl, hrd, hgr⟩
  have hst : RsSt w w4 g l p4 r4 ⟨(a1 : Int), (a2 : Int), (a3 : Int), z32⟩ := ((HST.out.cell (b := ⟨(a1 : Int), (a2 : Int), (a3 : Int), z32⟩) (v := .int .i64 (a3 : Int)) 2 rfl)).grow hrd hgr
  clear hrd hgr HST k0 k1 k2 g1
  have HST0 := hid hst
  clear hst
  simp only
  obtain ⟨a, HAA⟩ : ∃ a : SeM, Hid ((⟨(a1 : Int), (a2 : Int), (a3 : Int), h4⟩ : SeM) = a) := ⟨_, hid rfl⟩
  have HOK : Hid a.Ok := hid (by rw [← HAA.out]; exact HL4.out)
  have HRAW : Hid (readS l p r = (a, p4, r4)) := hid (by unfold readS; simp only [HA1.out, HA2.out, HA3.out, HA4.out]; rw [← HAA.out])
  have HE : Hid (RS = (a, p4, r4)) := hid (HRS.out.symm.trans HRAW.out)
  go_upto_region 6 with (refine wpList_store_seh rfl _ _ rfl rfl rfl HST0.out.b1 rfl HL4.out ?_; intro v4 hg4 hA4 hs4; have hst := HST0.out.se (b := ⟨(a1 : Int), (a2 : Int), (a3 : Int), h4⟩) hg4 hA4; clear hg4 hA4 hs4 HST0)
  rw [HAA.out] at hst
  have HST9 := hid hst
  clear hst HA1 HA2 HA3 HA4 HH HU HAA HL4 hm1 hm2 hm3
  obtain ⟨CA, HCA⟩ : ∃ C : Array Value, Hid (sec a = C) := ⟨_, hid rfl⟩
  have HCS : Hid (CA.size = 35 ∧ CA.all (·.oneCell') = true) := hid (by rw [← HCA.out]; exact ⟨sec_size HOK.out, sec_one _⟩)
  have l9 := loadSe_eq HST9.out.b1 HOK.out
  have s9 : storeSe (.pointer (some ⟨w.heap.size, 0, none⟩)) (.agg CA) v4 = .ok .skip (setSe v4 w.heap.size CA) := by
    have h2 := HST9.out.b0
    unfold BoxSe at h2
    rw [HZ.out] at h2
    exact storeSe_eq h2 HSZ.out HCS.out.1 HCS.out.2
  have HF := hid (HST9.out.fin CA)
  rw [HCA.out] at l9
  go_wp2_with fail
  refine bodyPost_ret (results_cell_row rfl _ _ _ _ _ (0, 0) _ rfl HF.out.1 under_se rfl (by rw [size_se, HCS.out.1])) rfl ?_
  rw [HE.out]
  exact ⟨by rw [← HCA.out], HF.out.2.1, HF.out.2.2⟩
end Go.Proofs.YtghophbabbaleaaGreatDoor
namespace Go.Proofs.YtghophbabbaleaaGreatDoor
set_option maxRecDepth 20000
open Go.RowKit
theorem setSe_alloc (w : World) (T : TypeId) (C0 C : Array Value) : setSe (w.alloc (.cells C0 T)) w.heap.size C = w.alloc (.cells C T) := by
  have hm : ∀ (a : Array Obj) (x : Obj) (f : Obj → Obj), (a.push x).modify a.size f = a.push (f x) := by
    intro a x f
    apply Array.ext_getElem?
    intro k
    rw [Array.getElem?_modify]
    by_cases h : a.size = k
    · subst h
      simp
    · rw [if_neg h, Array.getElem?_push, Array.getElem?_push]
      rw [if_neg (fun e => h e.symm), if_neg (fun e => h e.symm)]
  unfold setSe World.setRow World.alloc
  simp only [hm]
theorem se_var (w : World) {Z S : Array Value} (hZ : Z.size = 35) (hS : S.size = 35) (h1 : S.all (·.oneCell') = true) :
    storeSe (.pointer (some ⟨w.heap.size, 0, none⟩)) (.agg S) (w.alloc (.cells Z 40)) = .ok .skip (w.alloc (.cells S 40)) := by
  rw [storeSe_eq (heap_alloc_new w _) hZ hS h1, setSe_alloc]
attribute [local go_sem ↓] exec_alloc_se exec_store_se exec_build_se
end Go.Proofs.YtghophbabbaleaaGreatDoor
namespace Go.Proofs.YtghophbabbaleaaGreatDoor
set_option maxRecDepth 20000
open Go.RowKit
attribute [local go_sem ↓] exec_load_se exec_alloc_se exec_store_se exec_build_se exec_load_hash
set_option maxHeartbeats 6400000 in
theorem seGet_ok : SeGetOk := by
  intro i v l w _ hv hl hK
  have HKB := hid (fun W (h : Below w.heap.size w W) => (show Kst 1 W from hK.below h))
  obtain ⟨Z, HZ⟩ : ∃ C : Array Value, Hid (sec seZ = C) := ⟨_, hid rfl⟩
  have HBZ : Hid (∀ W, buildSe W = .ok (.value (.agg Z)) W) := hid (fun W => by rw [← HZ.out]; exact buildSe_eq W)
  have hal : ∀ W, allocSe W = .ok (.value (.pointer (some ⟨W.heap.size, 0, none⟩))) (W.alloc (.cells Z 40)) := fun W => by rw [← HZ.out]; exact allocSe_eq W
  have HSZ : Hid (Z.size = 35) := hid (by rw [← HZ.out]; exact sec_size seZ_ok)
  have HZ1 : Hid (Z.all (·.oneCell') = true) := hid (by rw [← HZ.out]; exact sec_one _)
  have hz0 := heap_alloc_new w (.cells Z 40)
  have hb0 : Below w.heap.size w (w.alloc (.cells Z 40)) := (Below.refl _ _).alloc (Nat.le_refl _) _
  have hv0 := hv.below hb0
  have HAL := hid hal
  have HLE := hid hl
  clear hv hK hl
  go_enter Tryz.func47, Tryz.ntmps47
  go_upto_region 1 with (fail)
  generalize (w.alloc (.cells Z 40)) = w0 at *
  have HB0 := hid hb0
  have HZW : Hid (∀ W, Below w0.heap.size w0 W → W.heap[w.heap.size]? = some (.cells Z 40 (0, 0))) := hid (fun W h => (h.block _ (lt_of_block hz0)).trans hz0)
  have HZS : Hid (∀ W, Below w0.heap.size w0 W → storeSe (.pointer (some ⟨w.heap.size, 0, none⟩)) (.agg Z) W = .ok .skip W) := hid (fun W h => by
    have hg := HZW.out W h
    rw [storeSe_eq hg HSZ.out HSZ.out HZ1.out, setSe_self hg])
  have HLZ := hid (lt_of_block hz0)
  clear hal hz0 hb0
  go_wp2_with fail
  refine (read_any v l w0 hv0 (by have := HLE.out; omega)).mono ?_
  rintro e w1 ⟨g, rfl, hgl, hrd1, hb1⟩
  obtain ⟨a1, p1, r1, HA1⟩ : ∃ x q s, Hid (rdUpto 1099511627776 l 0 true = (x, q, s)) := ⟨_, _, _, hid rfl⟩
  have hm1 : a1 ≤ 1099511627776 := by have := rdUpto_le (m := 1099511627776) (l := l) (p := 0) (r := true); rw [show ((1099511627776 : Nat) : Int) = 1099511627776 from rfl, HA1.out] at this; exact this
  have HM1 := hid hm1
  clear hv0 hm1
  go_wp2_with fail
  have C := upto_any g l 0 true 1099511627776 w1 hrd1 (by have := HLE.out; omega) (by omega) (by omega)
  rw [HA1.out] at C
  refine C.mono ?_
  clear C
  rintro e w2 ⟨rfl, hrd2, hg2⟩
  have hb2 : Below w0.heap.size w0 w2 := hb1.grown hg2 hb1.size (fun k hk => by injection hk with hk; omega)
  obtain ⟨a, p2, r2, HA2⟩ : ∃ x q s, Hid (readS l p1 r1 = (x, q, s)) := ⟨_, _, _, hid rfl⟩
  have HOK : Hid a.Ok := hid (by have := readS_ok l p1 r1; rw [HA2.out] at this; exact this)
  clear hrd1 hb1 hg2
  simp only
  go_wp2_with fail
  have C := seread_any g l p1 r1 w2 hrd2 HLE.out
  rw [HA2.out] at C
  refine C.mono ?_
  clear C
  rintro e w3 ⟨rfl, hrd3, hg3⟩
  simp only at hrd3
  have hb3 : Below w0.heap.size w0 w3 := hb2.grown hg3 hb2.size (fun k hk => by injection hk with hk; omega)
  obtain ⟨CA, HCA⟩ : ∃ C : Array Value, Hid (sec a = C) := ⟨_, hid rfl⟩
  have HCS : Hid (CA.size = 35 ∧ CA.all (·.oneCell') = true) := hid (by rw [← HCA.out]; exact ⟨sec_size HOK.out, sec_one _⟩)
  simp only
  rw [HCA.out]
  have hal := HAL.out
  have hs3 := se_var w3 HSZ.out HCS.out.1 HCS.out.2
  have hr3 := heap_alloc_new w3 (.cells CA 40)
  have hb34 : Below w3.heap.size w3 (w3.alloc (.cells CA 40)) := (Below.refl _ _).alloc (Nat.le_refl _) _
  have hb4 := hb3.trans (hb34.mono hb3.size)
  have hrd4 := hrd3.below hb34
  have hgs : w3.heap.size ≠ g := fun e => by have := hrd3.lt; omega
  have hB3 := hb3
  clear hrd2 hg3 hb2 hb3 hb34 hrd3
  go_upto_region 4 with (fail)
  generalize w3.alloc (.cells CA 40) = w4 at *
  clear hal hs3
  obtain ⟨t, p3, r3, HA3⟩ : ∃ x q s, Hid (rdHash l p2 r2 = (x, q, s)) := ⟨_, _, _, hid rfl⟩
  have HTL : Hid (t.length = 32) := hid (by have := rdHash_32 l p2 r2; rw [HA3.out] at this; exact this)
  go_wp2_with fail
  have C := rhash_any g l p2 r2 w4 hrd4 (by have := HLE.out; omega)
  rw [HA3.out] at C
  refine C.mono ?_
  clear C
  rintro e w5 ⟨rfl, hrd5, hg5⟩
  simp only at hrd5
  have hr5 := (hg5.block _ (lt_of_block hr3) (fun e => by injection e with e; exact hgs e)).trans hr3
  have hb5 : Below w0.heap.size w0 w5 := hb4.grown hg5 hb4.size (fun k hk => by injection hk with hk; omega)
  have hrt := heap_alloc_new w5 (.cells (hcells nought) 38)
  obtain ⟨TC, HTC⟩ : ∃ x : Array Value, Hid (hcells t = x) := ⟨_, hid rfl⟩
  simp only
  rw [HTC.out]
  clear hrd4 hg5 hb4 hr3
  go_upto_region 5 with (first
    | (refine wpList_alloc_hash rfl rfl ?_)
    | (refine wpList_store_hash (h' := t) rfl _ _ rfl rfl (by rw [HTC.out]; rfl) hrt nought_length HTL.out ?_; intro w7 hg7 hr7 hs7; have hb57 : Below w5.heap.size w5 w7 := below_into ((Below.refl _ _).alloc (Nat.le_refl _) _) (Nat.le_refl _) hg7 (al_le _ _); clear hg7 hs7))
  have hb7 := hb5.trans (hb57.mono hb5.size)
  have hrd7 := hrd5.below hb57
  have hr8 := (hb57.block _ (lt_of_block hr5)).trans hr5
  have HLD : Hid (∀ W, Below w7.heap.size w7 W → loadSe (.pointer (some ⟨w3.heap.size, 0, none⟩)) W = .ok (.value (.agg CA)) W ∧ loadH (.pointer (some ⟨w5.heap.size, 0, none⟩)) W = .ok (.value (.agg TC)) W) := hid (fun W h => by
    refine ⟨loadSe_row ((h.block _ (lt_of_block hr8)).trans hr8) HCS.out.1, ?_⟩
    rw [← HTC.out]
    have hr9 := (h.block _ (lt_of_block hr7.out)).trans hr7.out
    exact loadH_mid (fun j u hu => by rw [Nat.zero_add, cell_blk hr9 j]; simpa [hcells] using hu) HTL.out)
  have HSB : Hid (∀ W, Below w7.heap.size w7 W → W.heap[w3.heap.size]? = some (.cells CA 40 (0, 0))) := hid (fun W h => (h.block _ (lt_of_block hr8)).trans hr8)
  have HNE : Hid (w3.heap.size ≠ w.heap.size) := hid (fun e => by have := hB3.size; have := HLZ.out; omega)
  have HBW : Hid (∀ W, Below w7.heap.size w7 W → Below w0.heap.size w0 W) := hid (fun W h => hb7.trans (h.mono hb7.size))
  have HRAW : Hid (rawB l = ((a1 : Int), a, t, p3, r3)) := hid (by rw [rawB_read]; simp only [HA1.out, HA2.out, HA3.out])
  obtain ⟨gs, HGS⟩ : ∃ k : Nat, Hid (w3.heap.size = k) := ⟨_, hid rfl⟩
  obtain ⟨gt, HGT⟩ : ∃ k : Nat, Hid (w5.heap.size = k) := ⟨_, hid rfl⟩
  rw [HGS.out, HGT.out] at HLD
  rw [HGS.out] at HSB HNE
  rw [HGS.out, HGT.out]
  clear hB3 hrd5 hb5 hb57 hb7 hr5 hr8 hrt hr7 hgs hgl HA1 HA2 HA3 HGS HGT
  obtain ⟨q, HQ⟩ : ∃ d : Bool, Hid ((r3 && decide (p3 = l.length)) = d) := ⟨_, hid rfl⟩
  obtain ⟨vs, HVS⟩ : ∃ d : Bool, Hid (versB (a1 : Int) = d) := ⟨_, hid rfl⟩
  obtain ⟨m, HM⟩ : ∃ d : Bool, Hid (mayS a = d) := ⟨_, hid rfl⟩
  have HTX : Hid (textB l = (q && (vs && m))) := hid (by
    rw [textB_raw HRAW.out, HQ.out, HM.out, ← HVS.out]
    unfold versB
    have := HM1.out
    congr 2
    simp
    omega)
  have HCK : Hid (∀ W, Calls Tryz.prog 40 #[.agg CA] W fun e w' => e = .returned (.int .i64 (if m = true then 0 else 1)) ∧ Below W.heap.size W w') := hid (fun W => by
    have := seCheck_ok a W HOK.out
    rw [HM.out, HCA.out] at this
    exact this)
  go_wp2_with fail
  have C := done_any g l p3 r3 w7 hrd7 (by have := HLE.out; omega)
  rw [HQ.out] at C
  refine C.mono ?_
  clear C
  rintro e w8 ⟨rfl, n8, hw8⟩
  have hb8 : Below w7.heap.size w7 w8 := by rw [hw8]; exact below_drewN (Below.refl _ _) n8
  clear hw8 hrd7
  cases q with
  | false =>
    have hbz := HBZ.out
    have hsf := HZS.out w8 (HBW.out _ hb8)
    have HF := hid (HZW.out w8 (HBW.out _ hb8))
    go_wp2_with fail
    refine bodyPost_ret (results_se rfl _ _ _ _ _ _ _ rfl rfl rfl HF.out HSZ.out) rfl ⟨?_, HB0.out.trans ((HBW.out _ hb8).mono HB0.out.size)⟩
    rw [getB_text (by rw [HTX.out]; rfl), ← HZ.out]
    all_goals rfl
  | true =>
    go_wp2_with fail
    refine (seVers_any (a1 : Int) w8).mono ?_
    rintro e w9 ⟨rfl, rfl⟩
    rw [HVS.out]
    cases vs with
    | false =>
      have hbz := HBZ.out
      have hsf := HZS.out w8 (HBW.out _ hb8)
      have HF := hid (HZW.out w8 (HBW.out _ hb8))
      go_wp2_with fail
      refine bodyPost_ret (results_se rfl _ _ _ _ _ _ _ rfl rfl rfl HF.out HSZ.out) rfl ⟨?_, HB0.out.trans ((HBW.out _ hb8).mono HB0.out.size)⟩
      rw [getB_text (by rw [HTX.out]; rfl), ← HZ.out]
      all_goals rfl
    | true =>
      have l8 := (HLD.out w8 hb8).1
      go_wp2_with fail
      refine (HCK.out w8).mono ?_
      rintro e w9 ⟨rfl, hb9'⟩
      have hb9 := hb8.trans (hb9'.mono hb8.size)
      clear l8 hb9' hb8
      cases m with
      | false =>
        simp only [Bool.false_eq_true, if_false]
        have hbz := HBZ.out
        have hsf := HZS.out w9 (HBW.out _ hb9)
        have HF := hid (HZW.out w9 (HBW.out _ hb9))
        go_wp2_with fail
        refine bodyPost_ret (results_se rfl _ _ _ _ _ _ _ rfl rfl rfl HF.out HSZ.out) rfl ⟨?_, HB0.out.trans ((HBW.out _ hb9).mono HB0.out.size)⟩
        rw [getB_text (by rw [HTX.out]; rfl), ← HZ.out]
        all_goals rfl
      | true =>
        simp only [if_true]
        go_upto_region 7 with (fail)
        have hbd : Below w7.heap.size w7 w9.drew := hb9.drew
        obtain ⟨L, HL⟩ : ∃ x : List UInt8, Hid (taggedS (a1 : Int) a = x) := ⟨_, hid rfl⟩
        have HLL : Hid (L.length ≤ 72) := hid (by rw [← HL.out]; exact taggedS_len HOK.out HVS.out HM.out)
        have HTD : Hid (∀ W, Calls Tryz.prog 73 #[.int .i64 (a1 : Int), .agg CA] W fun e w' => ∃ x, e = .returned x ∧ Own W.heap.size w' x L ∧ Below W.heap.size W w') := hid (fun W => by
          have := setagged_any (a1 : Int) a W HOK.out HVS.out HM.out
          rw [HL.out, HCA.out] at this
          exact this)
        obtain ⟨d, HD⟩ : ∃ d : Bool, Hid ((nodeB i && decide (t = hl 32 (tagF i 3 L))) = d) := ⟨_, hid rfl⟩
        have HKC : Hid (∀ v gp c W, Below w.heap.size w W → gp < W.heap.size → W.cell? ⟨gp, 0, none⟩ = some v → Byt W v L → Calls Tryz.prog 84 #[.int .i64 i, .int .u8 3, .agg TC, .slice (some ⟨gp, 0, none⟩) 1 c] W fun e w' => e = .returned (.bool d) ∧ Below W.heap.size W w') := hid (fun v gp c W hb h1 h2 h3 => by
          have := check_hash i 3 t HTL.out v L gp c W h1 h2 h3 (by have := HLL.out; omega) (HKB.out W hb)
          rw [HD.out, HTC.out] at this
          exact this)
        refine wp_region_held_drew (S := fun W => loadSe (.pointer (some ⟨gs, 0, none⟩)) W = .ok (.value (.agg CA)) W ∧ loadH (.pointer (some ⟨gt, 0, none⟩)) W = .ok (.value (.agg TC)) W) (by kernel_rfl) (HLD.out _ hbd) (fun hHeld => ?_)
        refine' tk (i := 0) (v := _) rfl ?_ ?_
        rotate_left
        · (intro W hW; (try dsimp only at hW); go_simp; first | done | with_reducible rfl)
        try simp only [lay]
        refine' tk (i := 1) (v := _) rfl (fun W hW => hW.2) ?_
        try simp only [lay]
        refine' tk (i := 2) (v := _) rfl ?_ ?_
        rotate_left
        · (intro W hW; (try dsimp only at hW); go_simp; first | done | with_reducible rfl)
        try simp only [lay]
        refine' tk (i := 3) (v := _) rfl (fun W hW => hW.1) ?_
        try simp only [lay]
        refine call_on (i := 4) rfl (by kernel_rfl) (by rfl) (fun K hK => ?_)
        go_simp
        refine (HTD.out _).mono ?_
        rintro e w10 ⟨v10, rfl, ho10, hb10'⟩
        have hb10 := hbd.trans (hb10'.mono hbd.size)
        have hv10 := ho10.byt
        obtain ⟨A3, c3, rfl⟩ := hv10.shape
        refine hK.out _ _ (HLD.out _ hb10) (fun hHeld => ?_)
        clear hK K
        try simp only [lay]
        have hb11 : Below w7.heap.size w7 (w10.alloc (.cells #[.slice A3 L.length c3] 29)) := hb10.alloc hb10.size _
        refine call_on (i := 5) rfl (by kernel_rfl) (by rfl) (fun K hK => ?_)
        go_simp
        refine hK.out _ _ (HLD.out _ hb11) (fun hHeld => ?_)
        clear hK K
        try simp only [lay]
        refine call_on (i := 6) rfl (by kernel_rfl) (by rfl) (fun K hK => ?_)
        go_simp
        refine (HKC.out (.slice A3 L.length c3) w10.heap.size 1 (w10.alloc (.cells #[.slice A3 L.length c3] 29)) (HB0.out.trans ((HBW.out _ hb11).mono HB0.out.size)) (by simp) (alloc_cell0 _ _ _) (hv10.alloc _)).mono ?_
        rintro e w12 ⟨rfl, hb12'⟩
        have hb12 := hb11.trans (hb12'.mono hb11.size)
        refine hK.out _ _ (HLD.out _ hb12) (fun hHeld => ?_)
        clear hK K
        try simp only [lay]
        refine' tk (i := 7) (v := _) rfl ?_ ?_
        rotate_left
        · (intro W hW; (try dsimp only at hW); go_simp; first | done | with_reducible rfl)
        try simp only [lay]
        refine wpAnyH_done (by kernel_rfl) ?_ _
        clear hHeld hbd hb9 ho10 hb10 hb10' hv10 hb11 hb12'
        have HDT : Hid ((nodeB i = true ∧ (rawB l).2.2.1 = tagS i (rawB l).1 (rawB l).2.1) ↔ d = true) := hid (by
          rw [HRAW.out, ← HD.out]
          unfold tagS
          simp only [HL.out, Bool.and_eq_true, decide_eq_true_eq])
        cases d with
        | false =>
          have hbz := HBZ.out
          have hsf := HZS.out w12 (HBW.out _ hb12)
          have HF := hid (HZW.out w12 (HBW.out _ hb12))
          go_wp2_with fail
          refine bodyPost_ret (results_se rfl _ _ _ _ _ _ _ rfl rfl rfl HF.out HSZ.out) rfl ⟨?_, HB0.out.trans ((HBW.out _ hb12).mono HB0.out.size)⟩
          rw [getB_tag (by rw [HTX.out]; rfl) (by rw [HDT.out]; decide), ← HZ.out]
          all_goals rfl
        | true =>
          have HDY := hid (HDT.out.2 rfl)
          go_upto_region 9 with (fail)
          have HZ9 := hid (HZW.out w12 (HBW.out _ hb12))
          have HB12 := hid (HBW.out _ hb12)
          have hbe : Below w7.heap.size w7 w12.drew := hb12.drew
          have HLT := hid (lt_of_block HZ9.out)
          have HGS : Hid (gs ≠ w.heap.size) := HNE
          refine wp_region_held_drew (S := fun W => loadSe (.pointer (some ⟨gs, 0, none⟩)) W = .ok (.value (.agg CA)) W) (by kernel_rfl) (HLD.out _ hbe).1 (fun hHeld => ?_)
          refine' tk (i := 0) (v := _) rfl ?_ ?_
          rotate_left
          · (intro W hW; (try dsimp only at hW); go_simp; first | done | with_reducible rfl)
          try simp only [lay]
          refine' tk (i := 1) (v := _) rfl (fun W hW => hW) ?_
          try simp only [lay]
          refine' tk (i := 2) (v := _) rfl ?_ ?_
          rotate_left
          · (intro W hW; (try dsimp only at hW); go_simp; first | done | with_reducible rfl)
          try simp only [lay]
          refine call_on (i := 3) rfl (by kernel_rfl) (by rfl) (fun K hK => ?_)
          refine wp_store_se (w := w12.drew) (C := CA) _ _ rfl rfl rfl HZ9.out HCS.out.1 HSZ.out HCS.out.2 ?_
          intro wa hga hra hsa
          have hBB : Below w.heap.size w wa := below_into (HB0.out.trans (HB12.out.drew.mono HB0.out.size)) (Nat.le_refl _) hga (by show _ ≤ w12.heap.size; have := HLT.out; omega)
          have hrs : wa.heap[gs]? = some (.cells CA 40 (0, 0)) := (hga.block _ (lt_of_block (HSB.out w12 hb12)) (fun e => by injection e with e; exact HGS.out e)).trans (HSB.out w12 hb12)
          refine hK.out _ _ (loadSe_row hrs HCS.out.1) (fun hHeld => ?_)
          clear hK K
          try simp only [lay]
          refine' tk (i := 4) (v := _) rfl ?_ ?_
          rotate_left
          · (intro W hW; (try dsimp only at hW); go_simp; first | done | with_reducible rfl)
          try simp only [lay]
          refine wpAnyH_done (by kernel_rfl) ?_ _
          clear hHeld
          go_wp2_with fail
          refine bodyPost_ret (results_se rfl _ _ _ _ _ _ _ rfl rfl rfl hra HCS.out.1) rfl ⟨?_, hBB⟩
          rw [getB_yes (by rw [HTX.out]; rfl) HDY.out, HRAW.out, HCA.out]
          all_goals rfl
end Go.Proofs.YtghophbabbaleaaGreatDoor
namespace Go.Proofs.YtghophbabbaleaaGreatDoor
set_option maxRecDepth 20000
open Go.RowKit
attribute [local go_sem ↓] exec_load_se exec_alloc_se exec_store_se exec_build_se
set_option maxHeartbeats 6400000 in
theorem refGet13_any (i : Int) (v : Value) (l : List UInt8) (w : World) (hv : Byt w v l) (hl : l.length ≤ 1000000) (hK : Kst 0 w) :
    Calls Tryz.prog 52 #[.int .i64 i, v] w fun e w' => e = .returned (.tuple #[.int .i64 (getB i l).1, .agg (sec (getB i l).2.1), .int .i64 (getB i l).2.2]) ∧ Below w.heap.size w w' := by
  obtain ⟨A, c, rfl⟩ := hv.shape
  have HH := hid (fun p r (hp : p ≤ l.length) (w' : World) (hb : Below w.heap.size w w') => refHash_any A c p r l w' (hv.below hb) hp (by omega))
  have HU := hid (fun p r (hp : p ≤ l.length) m (h1 : -9223372036854775808 ≤ m) (h2 : m ≤ 9223372036854775807) (w' : World) (hb : Below w.heap.size w w') => refUpto_any A c p r l m w' (hv.below hb) hp (by omega) h1 h2)
  have HSM := hid (fun u L (w' : World) (hb : Below w.heap.size w w') (hu : Byt w' u L) => same_any u (.slice A l.length c) L l w' hu (hv.below hb))
  have HKB := hid (fun W (h : Below w.heap.size w W) => (show Kst 0 W from hK.below h))
  obtain ⟨Z, HZ⟩ : ∃ C : Array Value, Hid (sec seZ = C) := ⟨_, hid rfl⟩
  have hbz : ∀ W, buildSe W = .ok (.value (.agg Z)) W := fun W => by rw [← HZ.out]; exact buildSe_eq W
  have hal : ∀ W, allocSe W = .ok (.value (.pointer (some ⟨W.heap.size, 0, none⟩))) (W.alloc (.cells Z 40)) := fun W => by rw [← HZ.out]; exact allocSe_eq W
  have hsz : Z.size = 35 := by rw [← HZ.out]; exact sec_size seZ_ok
  have hz1 : Z.all (·.oneCell') = true := by rw [← HZ.out]; exact sec_one _
  have hs0 : storeSe (.pointer (some ⟨w.heap.size + 1, 0, none⟩)) (.agg Z) ((w.alloc (.cells Z 40)).alloc (.cells Z 40)) = .ok .skip ((w.alloc (.cells Z 40)).alloc (.cells Z 40)) := by
    have hg := heap2 w (.cells Z 40) (.cells Z 40)
    rw [storeSe_eq hg hsz hsz hz1, setSe_self hg]
  have HSZ := hid hsz
  have HZ1 := hid hz1
  have HBZ := hid hbz
  have hst0 := GsSt.new w (.slice A l.length c) (.int .i64 0) (.bool false)
  rw [HZ.out] at hst0
  clear hv hsz hz1 hK
  go_enter Tryz.func52, Tryz.ntmps52
  go_wp2_with fail
  obtain ⟨a1, p1, r1, HA1⟩ : ∃ x q s, Hid (rdUpto 1099511627776 l 0 true = (x, q, s)) := ⟨_, _, _, hid rfl⟩
  have hp1 : p1 ≤ l.length := by have := rdUpto_pl (m := 1099511627776) (r := true) (p := 0) (l := l) (Nat.zero_le _); rw [HA1.out] at this; exact this
  have C := HU.out 0 true (Nat.zero_le _) 1099511627776 (by omega) (by omega) _ (hst0).bel
  rw [HA1.out] at C
  refine C.mono ?_
  clear C
  rintro e w1 ⟨rfl, hb⟩
  have hst : GsSt w w1 (.slice A l.length c) (.int .i64 0) (.bool false) ⟨0, 0, 0, z32⟩ := (hst0).below hb
  clear hb hst0 hs0 hbz hal
  obtain ⟨⟨c0, c1, c2⟩, ⟨k0, k1, k2⟩, g0, g3⟩ := hst.cells
  have HST := hid hst
  clear hst
  unfold rv
  go_wp2_with fail
  obtain ⟨a2, p2, r2, HA2⟩ : ∃ x q s, Hid (rdUpto 1099511627776 l p1 r1 = (x, q, s)) := ⟨_, _, _, hid rfl⟩
  have hp2 : p2 ≤ l.length := by have := rdUpto_pl (m := 1099511627776) (r := r1) (p := p1) (l := l) hp1; rw [HA2.out] at this; exact this
  have C := HU.out p1 r1 hp1 1099511627776 (by omega) (by omega) _ ((HST.out.put (.slice A l.length c) (.int .i64 (p1 : Int)) (.bool (!r1)))).bel
  rw [HA2.out] at C
  refine C.mono ?_
  clear C
  rintro e w2 ⟨rfl, hb⟩
  have hst : GsSt w w2 (.slice A l.length c) (.int .i64 (p1 : Int)) (.bool (!r1)) ⟨0, 0, 0, z32⟩ := ((HST.out.put (.slice A l.length c) (.int .i64 (p1 : Int)) (.bool (!r1)))).below hb
  clear hb HST c0 c1 c2 k0 k1 k2 g0 g3
  obtain ⟨⟨c0, c1, c2⟩, ⟨k0, k1, k2⟩, g0, g3⟩ := hst.cells
  have HST := hid hst
  clear hst
  unfold rv
  go_wp2_with fail
  obtain ⟨a3, p3, r3, HA3⟩ : ∃ x q s, Hid (rdUpto 3 l p2 r2 = (x, q, s)) := ⟨_, _, _, hid rfl⟩
  have hp3 : p3 ≤ l.length := by have := rdUpto_pl (m := 3) (r := r2) (p := p2) (l := l) hp2; rw [HA3.out] at this; exact this
  have C := HU.out p2 r2 hp2 3 (by omega) (by omega) _ (((HST.out.put (.slice A l.length c) (.int .i64 (p2 : Int)) (.bool (!r2))).cell (b := ⟨(a2 : Int), 0, 0, z32⟩) (v := .int .i64 (a2 : Int)) 0 rfl)).bel
  rw [HA3.out] at C
  refine C.mono ?_
  clear C
  rintro e w3 ⟨rfl, hb⟩
  have hst : GsSt w w3 (.slice A l.length c) (.int .i64 (p2 : Int)) (.bool (!r2)) ⟨(a2 : Int), 0, 0, z32⟩ := (((HST.out.put (.slice A l.length c) (.int .i64 (p2 : Int)) (.bool (!r2))).cell (b := ⟨(a2 : Int), 0, 0, z32⟩) (v := .int .i64 (a2 : Int)) 0 rfl)).below hb
  clear hb HST c0 c1 c2 k0 k1 k2 g0 g3
  obtain ⟨⟨c0, c1, c2⟩, ⟨k0, k1, k2⟩, g0, g3⟩ := hst.cells
  have HST := hid hst
  clear hst
  unfold rv
  go_wp2_with fail
  obtain ⟨a4, p4, r4, HA4⟩ : ∃ x q s, Hid (rdUpto 1099511627776 l p3 r3 = (x, q, s)) := ⟨_, _, _, hid rfl⟩
  have hp4 : p4 ≤ l.length := by have := rdUpto_pl (m := 1099511627776) (r := r3) (p := p3) (l := l) hp3; rw [HA4.out] at this; exact this
  have C := HU.out p3 r3 hp3 1099511627776 (by omega) (by omega) _ (((HST.out.put (.slice A l.length c) (.int .i64 (p3 : Int)) (.bool (!r3))).cell (b := ⟨(a2 : Int), (a3 : Int), 0, z32⟩) (v := .int .i64 (a3 : Int)) 1 rfl)).bel
  rw [HA4.out] at C
  refine C.mono ?_
  clear C
  rintro e w4 ⟨rfl, hb⟩
  have hst : GsSt w w4 (.slice A l.length c) (.int .i64 (p3 : Int)) (.bool (!r3)) ⟨(a2 : Int), (a3 : Int), 0, z32⟩ := (((HST.out.put (.slice A l.length c) (.int .i64 (p3 : Int)) (.bool (!r3))).cell (b := ⟨(a2 : Int), (a3 : Int), 0, z32⟩) (v := .int .i64 (a3 : Int)) 1 rfl)).below hb
  clear hb HST c0 c1 c2 k0 k1 k2 g0 g3
  obtain ⟨⟨c0, c1, c2⟩, ⟨k0, k1, k2⟩, g0, g3⟩ := hst.cells
  have HST := hid hst
  clear hst
  unfold rv
  go_wp2_with fail
  obtain ⟨h5, p5, r5, HA5⟩ : ∃ x q s, Hid (rdHash l p4 r4 = (x, q, s)) := ⟨_, _, _, hid rfl⟩
  have hp5 : p5 ≤ l.length := by have := rdHash_plS (l := l) (p := p4) (r := r4) hp4; rw [HA5.out] at this; exact this
  have HL5 : Hid (h5.length = 32) := hid (by have := rdHash_32 l p4 r4; rw [HA5.out] at this; exact this)
  have C := HH.out p4 r4 hp4 _ (((HST.out.put (.slice A l.length c) (.int .i64 (p4 : Int)) (.bool (!r4))).cell (b := ⟨(a2 : Int), (a3 : Int), (a4 : Int), z32⟩) (v := .int .i64 (a4 : Int)) 2 rfl)).bel
  rw [HA5.out] at C
  refine C.mono ?_
  clear C
  rintro e w5 ⟨rfl, hb⟩
  have hst : GsSt w w5 (.slice A l.length c) (.int .i64 (p4 : Int)) (.bool (!r4)) ⟨(a2 : Int), (a3 : Int), (a4 : Int), z32⟩ := (((HST.out.put (.slice A l.length c) (.int .i64 (p4 : Int)) (.bool (!r4))).cell (b := ⟨(a2 : Int), (a3 : Int), (a4 : Int), z32⟩) (v := .int .i64 (a4 : Int)) 2 rfl)).below hb
  clear hb HST c0 c1 c2 k0 k1 k2 g0 g3
  obtain ⟨⟨c0, c1, c2⟩, ⟨k0, k1, k2⟩, g0, g3⟩ := hst.cells
  have HST := hid hst
  clear hst
  unfold rv
  go_wp2_with (refine wpList_store_seh rfl _ _ rfl rfl rfl (HST.out.put (.slice A l.length c) (.int .i64 (p5 : Int)) (.bool (!r5))).b1 rfl HL5.out ?_; intro wP hgP hbP hsP; have HSP : Hid (GsSt w wP (.slice A l.length c) (.int .i64 (p5 : Int)) (.bool (!r5)) ⟨(a2 : Int), (a3 : Int), (a4 : Int), h5⟩) := hid ((HST.out.put (.slice A l.length c) (.int .i64 (p5 : Int)) (.bool (!r5))).se hgP hbP); obtain ⟨⟨d0, d1, d2⟩, ⟨e0, e1, e2⟩, f0, f3⟩ := HSP.out.cells; clear hgP hbP hsP)
  clear HST c0 c1 c2 k0 k1 k2 g0 g3
  obtain ⟨h6, p6, r6, HA6⟩ : ∃ x q s, Hid (rdHash l p5 r5 = (x, q, s)) := ⟨_, _, _, hid rfl⟩
  have hp6 : p6 ≤ l.length := by have := rdHash_plS (l := l) (p := p5) (r := r5) hp5; rw [HA6.out] at this; exact this
  have HL6 : Hid (h6.length = 32) := hid (by have := rdHash_32 l p5 r5; rw [HA6.out] at this; exact this)
  have C := HH.out p5 r5 hp5 _ (HSP.out).bel
  rw [HA6.out] at C
  refine C.mono ?_
  clear C
  rintro e w6 ⟨rfl, hb⟩
  have hst : GsSt w w6 (.slice A l.length c) (.int .i64 (p5 : Int)) (.bool (!r5)) ⟨(a2 : Int), (a3 : Int), (a4 : Int), h5⟩ := (HSP.out).below hb
  clear hb HSP d0 d1 d2 e0 e1 e2 f0 f3
  obtain ⟨⟨c0, c1, c2⟩, ⟨k0, k1, k2⟩, g0, g3⟩ := hst.cells
  have HST := hid hst
  clear hst
  unfold rv
  obtain ⟨a, HAT⟩ : ∃ a : SeM, Hid ((⟨(a2 : Int), (a3 : Int), (a4 : Int), h5⟩ : SeM) = a) := ⟨_, hid rfl⟩
  have HOK : Hid a.Ok := hid (by rw [← HAT.out]; exact HL5.out)
  have HRAW : Hid (rawB l = ((a1 : Int), a, h6, p6, r6)) := hid (by rw [← HAT.out]; unfold rawB; simp only [HA1.out, HA2.out, HA3.out, HA4.out, HA5.out, HA6.out])
  have hst := (HST.out.put (.slice A l.length c) (.int .i64 (p6 : Int)) (.bool (!r6)))
  rw [HAT.out] at hst
  go_upto_region 10 with (fail)
  obtain ⟨wP, HWP⟩ : ∃ W, Hid (((w6.setCell ⟨w.heap.size + 1 + 1, 0, none⟩ (.slice A l.length c)).setCell ⟨w.heap.size + 1 + 1, 1, none⟩ (.int .i64 (p6 : Int))).setCell ⟨w.heap.size + 1 + 1, 2, none⟩ (.bool (!r6)) = W) := ⟨_, hid rfl⟩
  rw [HWP.out] at hst ⊢
  have HSP := hid hst
  clear HST c0 c1 c2 k0 k1 k2 g0 g3 HA1 HA2 HA3 HA4 HA5 HA6 HAT HWP hst
  have HZB : Hid (∀ W {y0 y1 y2 : Value} {b : SeM}, GsSt w W y0 y1 y2 b → W.heap[w.heap.size]? = some (.cells Z 40 (0, 0))) := hid (fun W _ _ _ _ h => by have := h.b0; unfold BoxSe at this; rwa [HZ.out] at this)
  have HZS : Hid (∀ W {y0 y1 y2 : Value} {b : SeM}, GsSt w W y0 y1 y2 b → storeSe (.pointer (some ⟨w.heap.size, 0, none⟩)) (.agg Z) W = .ok .skip W) := hid (fun W _ _ _ _ h => by
    have hg := HZB.out W h
    rw [storeSe_eq hg HSZ.out HSZ.out HZ1.out, setSe_self hg])
  obtain ⟨⟨c0, c1, c2⟩, _, _, _⟩ := HSP.out.cells
  cases r6 with
  | false =>
    have HF := HZB.out _ (HSP.out)
    have hbz := HBZ.out
    have hsf : storeSe (.pointer (some ⟨w.heap.size, 0, none⟩)) (.agg Z) _ = _ := HZS.out _ (HSP.out)
    go_wp2_with fail
    refine bodyPost_ret (results_se rfl _ _ _ _ _ _ _ rfl rfl rfl HF HSZ.out) rfl ⟨?_, (HSP.out).bel⟩
    rw [getB_text (i := i) (by rw [textB_raw HRAW.out]; rfl), ← HZ.out]
    all_goals rfl
  | true =>
    by_cases hpl : p6 = l.length
    · have hd : ((p6 : Int) != (l.length : Int)) = false := by simp [hpl]
      have HPL := hid hpl
      clear hpl
      by_cases hv1 : (a1 : Int) < 1
      · have HV1 := hid hv1
        have HF := HZB.out _ (HSP.out)
        have hbz := HBZ.out
        have hsf : storeSe (.pointer (some ⟨w.heap.size, 0, none⟩)) (.agg Z) _ = _ := HZS.out _ (HSP.out)
        go_wp2_with fail
        refine bodyPost_ret (results_se rfl _ _ _ _ _ _ _ rfl rfl rfl HF HSZ.out) rfl ⟨?_, (HSP.out).bel⟩
        rw [getB_text (i := i) (by rw [textB_raw HRAW.out]; have := HV1.out; simp; omega), ← HZ.out]
        all_goals rfl
      · obtain ⟨CA, HCA⟩ : ∃ C : Array Value, Hid (sec a = C) := ⟨_, hid rfl⟩
        obtain ⟨m, HM⟩ : ∃ q : Bool, Hid (mayS a = q) := ⟨_, hid rfl⟩
        have HMA : Hid (∀ W, Calls Tryz.prog 15 #[.agg CA] W fun e w' => e = .returned (.bool m) ∧ Below W.heap.size W w') := hid (fun W => by
          have := refMay13_any a W HOK.out
          rw [HCA.out, HM.out] at this
          exact this)
        have HLD : Hid (∀ W, BoxSe W (w.heap.size + 1) a → loadSe (.pointer (some ⟨w.heap.size + 1, 0, none⟩)) W = .ok (.value (.agg CA)) W) := hid (fun W h => by
          have := loadSe_eq h HOK.out
          rw [HCA.out] at this
          exact this)
        have l0 := HLD.out wP HSP.out.b1
        go_wp2_with fail
        refine (HMA.out wP).mono ?_
        rintro e w7 ⟨rfl, hb7⟩
        have HS7 := hid (HSP.out.below hb7)
        have HV1 := hid hv1
        clear l0 hb7 c0 c1 c2 hd hv1
        cases m with
        | false =>
          have HF := HZB.out _ (HS7.out)
          have hbz := HBZ.out
          have hsf : storeSe (.pointer (some ⟨w.heap.size, 0, none⟩)) (.agg Z) _ = _ := HZS.out _ (HS7.out)
          go_wp2_with fail
          refine bodyPost_ret (results_se rfl _ _ _ _ _ _ _ rfl rfl rfl HF HSZ.out) rfl ⟨?_, (HS7.out).bel⟩
          rw [getB_text (i := i) (by rw [textB_raw HRAW.out]; rw [HM.out]; simp), ← HZ.out]
          all_goals rfl
        | true =>
          have HTX : Hid (textB l = true) := hid (by rw [textB_raw HRAW.out, HM.out]; have := HPL.out; have := HV1.out; simp; omega)
          have hnode : nodeB i = decide (1 ≤ i ∧ i ≤ 21) := rfl
          by_cases hi1 : i < 1
          · have HNO : Hid (nodeB i = false) := hid (by rw [hnode]; simp; omega)
            clear hnode
            have HF := HZB.out _ (HS7.out)
            have hbz := HBZ.out
            have hsf : storeSe (.pointer (some ⟨w.heap.size, 0, none⟩)) (.agg Z) _ = _ := HZS.out _ (HS7.out)
            go_wp2_with fail
            refine bodyPost_ret (results_se rfl _ _ _ _ _ _ _ rfl rfl rfl HF HSZ.out) rfl ⟨?_, (HS7.out).bel⟩
            rw [getB_tag HTX.out (by rw [HNO.out]; rintro ⟨h, _⟩; cases h), ← HZ.out]
            all_goals rfl
          by_cases hi2 : 21 < i
          · have HNO : Hid (nodeB i = false) := hid (by rw [hnode]; simp; omega)
            clear hnode
            have HF := HZB.out _ (HS7.out)
            have hbz := HBZ.out
            have hsf : storeSe (.pointer (some ⟨w.heap.size, 0, none⟩)) (.agg Z) _ = _ := HZS.out _ (HS7.out)
            go_wp2_with fail
            refine bodyPost_ret (results_se rfl _ _ _ _ _ _ _ rfl rfl rfl HF HSZ.out) rfl ⟨?_, (HS7.out).bel⟩
            rw [getB_tag HTX.out (by rw [HNO.out]; rintro ⟨h, _⟩; cases h), ← HZ.out]
            all_goals rfl
          have HYE : Hid (nodeB i = true) := hid (by rw [hnode]; simp; omega)
          have HVB : Hid (versB (a1 : Int) = true) := hid (by have := (textB_so HTX.out).2.1; rw [HRAW.out] at this; exact this)
          have HPT : Hid (∀ W, Below w.heap.size w W → Calls Tryz.prog 50 #[.int .i64 i, .int .i64 (a1 : Int), .agg CA] W fun e w' => ∃ x, e = .returned x ∧ Own W.heap.size w' x (blobS i (a1 : Int) a) ∧ Below W.heap.size W w') := hid (fun W h => by
            have := refPut13_any i (a1 : Int) a W HOK.out HVB.out HM.out (HKB.out W h)
            rw [HCA.out] at this
            exact this)
          have HEQ := hid (textB_eq i HTX.out)
          rw [HRAW.out] at HEQ
          obtain ⟨BL, HBL⟩ : ∃ L : List UInt8, Hid (blobS i (a1 : Int) a = L) := ⟨_, hid rfl⟩
          rw [HBL.out] at HPT
          simp only [HBL.out] at HEQ
          have l0 := HLD.out w7 HS7.out.b1
          clear hnode
          go_wp2_with fail
          refine (HPT.out w7 HS7.out.bel).mono ?_
          rintro e w8 ⟨x8, rfl, ho8, hb8⟩
          have HS8 := hid (HS7.out.below hb8)
          clear l0 hb8
          go_wp2_with fail
          refine (HSM.out _ BL w8 HS8.out.bel ho8.byt).mono ?_
          rintro e w9 ⟨rfl, n9, rfl⟩
          have HS9 := hid (HS8.out.below (below_drewN (Below.refl _ _) n9))
          obtain ⟨d, HD⟩ : ∃ d : Bool, Hid (decide (BL = l) = d) := ⟨_, hid rfl⟩
          rw [HD.out]
          generalize w8.drewN n9 = wQ at *
          clear ho8
          cases d with
          | false =>
            have HF := HZB.out _ (HS9.out)
            have hbz := HBZ.out
            have hsf : storeSe (.pointer (some ⟨w.heap.size, 0, none⟩)) (.agg Z) _ = _ := HZS.out _ (HS9.out)
            go_wp2_with fail
            refine bodyPost_ret (results_se rfl _ _ _ _ _ _ _ rfl rfl rfl HF HSZ.out) rfl ⟨?_, (HS9.out).bel⟩
            rw [getB_tag HTX.out (by rw [HRAW.out]; rintro ⟨_, h⟩; exact (of_decide_eq_false HD.out) (HEQ.out.2 h)), ← HZ.out]
            all_goals rfl
          | true =>
            go_upto_region 14 with (fail)
            have HXR : Hid (∀ W : World, BoxSe W (w.heap.size + 1) a → loadSe (.pointer (some ⟨w.heap.size + 1, 0, none⟩)) W = .ok (.value (.agg CA)) W) := HLD
            have HCS : Hid (CA.size = 35 ∧ CA.all (·.oneCell') = true) := hid (by rw [← HCA.out]; exact ⟨sec_size HOK.out, sec_one _⟩)
            have HB0 := hid (HZB.out _ HS9.out)
            have HB1 := hid HS9.out.b1
            have HBE := hid HS9.out.bel
            have HLT := hid HS9.out.lt
            refine wp_region_held_drew (S := fun W => loadSe (.pointer (some ⟨w.heap.size + 1, 0, none⟩)) W = .ok (.value (.agg CA)) W) (by kernel_rfl) (HXR.out wQ.drew HB1.out) (fun hHeld => ?_)
            refine' tk (i := 0) (v := _) rfl ?_ ?_
            rotate_left
            · (intro W hW; (try dsimp only at hW); go_simp; first | done | with_reducible rfl)
            try simp only [lay]
            refine' tk (i := 1) (v := _) rfl (fun W hW => hW) ?_
            try simp only [lay]
            refine' tk (i := 2) (v := _) rfl ?_ ?_
            rotate_left
            · (intro W hW; (try dsimp only at hW); go_simp; first | done | with_reducible rfl)
            try simp only [lay]
            refine call_on (i := 3) rfl (by kernel_rfl) (by rfl) (fun K hK => ?_)
            refine wp_store_se (w := wQ.drew) (C := CA) _ _ rfl rfl rfl HB0.out HCS.out.1 HSZ.out HCS.out.2 ?_
            intro wa hga hra hsa
            have h1 : BoxSe wa (w.heap.size + 1) a := (hga.block _ (by show _ < wQ.heap.size; have := HLT.out; omega) (fun e => by injection e with e; omega)).trans HB1.out
            have hBB : Below w.heap.size w wa := below_into (HBE.out.drew) (Nat.le_refl _) hga (by show _ ≤ wQ.heap.size; have := HLT.out; omega)
            refine hK.out _ _ (HXR.out wa h1) (fun hHeld => ?_)
            clear hK K
            try simp only [lay]
            refine' tk (i := 4) (v := _) rfl ?_ ?_
            rotate_left
            · (intro W hW; (try dsimp only at hW); go_simp; first | done | with_reducible rfl)
            try simp only [lay]
            refine wpAnyH_done (by kernel_rfl) ?_ _
            clear hHeld
            go_wp2_with fail
            refine bodyPost_ret (results_se rfl _ _ _ _ _ _ _ rfl rfl rfl hra HCS.out.1) rfl ⟨?_, hBB⟩
            rw [getB_yes HTX.out ⟨HYE.out, by rw [HRAW.out]; exact HEQ.out.1 (of_decide_eq_true HD.out)⟩, HRAW.out, HCA.out]
            all_goals rfl
    · have hd : ((p6 : Int) != (l.length : Int)) = true := bne_iff_ne.2 (by omega)
      have HPL := hid hpl
      clear hpl
      have HF := HZB.out _ (HSP.out)
      have hbz := HBZ.out
      have hsf : storeSe (.pointer (some ⟨w.heap.size, 0, none⟩)) (.agg Z) _ = _ := HZS.out _ (HSP.out)
      go_wp2_with fail
      refine bodyPost_ret (results_se rfl _ _ _ _ _ _ _ rfl rfl rfl HF HSZ.out) rfl ⟨?_, (HSP.out).bel⟩
      rw [getB_text (i := i) (by rw [textB_raw HRAW.out]; have := HPL.out; simp [this]), ← HZ.out]
      all_goals rfl
end Go.Proofs.YtghophbabbaleaaGreatDoor
namespace Go.Proofs.YtghophbabbaleaaGreatDoor
set_option maxRecDepth 20000
open Go.ChangeShapes Go.WideShapes Go.ChangeAt Go.RowKit Go.Deep
def se2c (a b : SeM) : Array Value := (sel a ++ sel b).toArray
section
variable {H : Type} {enc : TypeId × Value → H} {w : World} {base : Nat} {spare : Nat → Bool} {held : Bool} {fuel : Nat} {cs : List Value} {x : DataW H × List MemPlace}
theorem fields_se4 : ∃ f0 f1 f2 f3 : Field, Tryz.prog.underlying 40 = some (.struct #[f0, f1, f2, f3]) ∧ (f0.type, f0.offset) = (3, 0) ∧ (f1.type, f1.offset) = (3, 1) ∧ (f2.type, f2.offset) = (3, 2) ∧ (f3.type, f3.offset) = (38, 3) :=
  ⟨_, _, _, _, Tryz.underlying40, rfl, rfl, rfl, rfl⟩
theorem trod_se (h : DataW.trod enc Tryz.prog w base spare held fuel 40 cs = some x) : ∃ a : SeM, a.Ok ∧ cs = sel a := by
  obtain ⟨f0, f1, f2, f3, hu, e0, e1, e2, e3⟩ := fields_se4
  injection e0 with t0 o0
  injection e1 with t1 o1
  injection e2 with t2 o2
  injection e3 with t3 o3
  obtain ⟨xs, m, _, _, hlen, hxl, hf⟩ := DataW.trod_struct hu h
  have hc : Tryz.prog.cellsOf 40 = 35 := by kernel_rfl
  have hci : Tryz.prog.cellsOf 3 = 1 := by kernel_rfl
  have hch : Tryz.prog.cellsOf 38 = 32 := by kernel_rfl
  rw [hc] at hlen
  have hx : xs.length = 4 := hxl
  have g0 := hf 0 f0 rfl
  have g1 := hf 1 f1 rfl
  have g2 := hf 2 f2 rfl
  have g3 := hf 3 f3 rfl
  rw [t0, o0, hci, List.getElem?_eq_getElem (by omega)] at g0
  rw [t1, o1, hci, List.getElem?_eq_getElem (by omega)] at g1
  rw [t2, o2, hci, List.getElem?_eq_getElem (by omega)] at g2
  rw [t3, o3, hch, List.getElem?_eq_getElem (by omega)] at g3
  obtain ⟨n0, c0, _, _⟩ := DataW.trod_int Tryz.underlying3 g0
  obtain ⟨n1, c1, _, _⟩ := DataW.trod_int Tryz.underlying3 g1
  obtain ⟨n2, c2, _, _⟩ := DataW.trod_int Tryz.underlying3 g2
  obtain ⟨pa, h3, c3⟩ := trod_hash g3
  refine ⟨⟨n0, n1, n2, pa⟩, h3, ?_⟩
  have e : cs = cs.drop 0 := rfl
  rw [e, drop_part c0, drop_part c1, drop_part c2, drop_part c3, List.drop_eq_nil_of_le (by omega)]
  unfold sel
  simp only [List.append_nil, List.cons_append, List.nil_append]
end
end Go.Proofs.YtghophbabbaleaaGreatDoor
