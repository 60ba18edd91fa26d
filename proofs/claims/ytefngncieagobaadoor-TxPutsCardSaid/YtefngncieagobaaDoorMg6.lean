/-
  TxCodeRead TxCode TxRefBytes: what each of them says stands at its head.
-/
import Derived.Test.YtefngncieagobaaDoorMg5
import Derived.Test.YtefngncieagobaaDoorMg2
import Derived.Test.YtefngncieagobaaDoorMg3
import Derived.Test.YtefngncieagobaaDoorMg4
import Derived.Deep.RegionHeld3
import Derived.Deep.DeepCutAuto
/-
  tx.Read: the transaction whose bytes are read next.
-/
namespace Go.Proofs.YtefngncieagobaaDoor
open Go.RowKit

theorem grown_setNew {w0 w : World} {row : Option Nat} (h : w0.grownBy w row) (a : Addr) (u : Value) (ha : w0.heap.size ≤ a.block) : w0.grownBy (w.setCell a u) row :=
  ⟨h.os, h.tape, h.output, by simpa using h.size, fun k hk hr => (Below.heap_setCell w a u k (fun e => by omega)).trans (h.block k hk hr)⟩
theorem grown_thenBelow {w0 w w' : World} {row : Option Nat} (h : w0.grownBy w row) (hb : Below w.heap.size w w') : w0.grownBy w' row :=
  h.trans (grown_of_below hb row)
/-- One result that lies in memory, and one that doesn't. -/
theorem results_tb {fn : Func} {q s : Tmp} (h : fn.results = #[.cell q 23, .tmp s]) (tmps : Array Value) (w : World) (g2 : Nat) (t2 : TypeId) (ys : Array Value) (v : Value)
    (hq : tmps.getD q undef = .pointer (some ⟨g2, 0, none⟩)) (hv : tmps.getD s undef = v) (h2 : w.heap[g2]? = some (.cells ys t2 (0, 0))) (hy : ys.size = 7) :
    (results fn tmps).run Tryd.prog w = .ok (.tuple #[.agg ys, v]) w := by
  have hq' : tmps[q]?.getD undef = .pointer (some ⟨g2, 0, none⟩) := by simpa using hq
  have hv' : tmps[s]?.getD undef = v := by simpa using hv
  have r2 := run_loadVar_row (P := Tryd.prog) w g2 t2 23 ys (0, 0) _ h2 under_tx rfl (by rw [size_tx, hy])
  simp [results, h, hq', hv', asAddr, r2]
/-- Blocks b, b + 1: the result yet nought, the transaction t; block g: the reader. -/
structure QSt (w0 w : World) (g : Nat) (l : List UInt8) (p : Nat) (r : Bool) (t : Array Value) : Prop where
  lt : g < w0.heap.size
  gr : w0.grownBy w (some g)
  rd : Rdr w g l p r
  b0 : w.heap[w0.heap.size]? = some (.cells zeroTx 23 (0, 0))
  b1 : w.heap[w0.heap.size + 1]? = some (.cells t 23 (0, 0))
section
variable {w0 w w' : World} {g : Nat} {l : List UInt8} {p : Nat} {r : Bool} {t : Array Value}
theorem QSt.new (h : Rdr w0 g l p r) : QSt w0 ((w0.alloc (.cells zeroTx 23)).alloc (.cells zeroTx 23)) g l p r zeroTx := by
  have hb : Below w0.heap.size w0 ((w0.alloc (.cells zeroTx 23)).alloc (.cells zeroTx 23)) := ((Below.refl _ _).alloc (Nat.le_refl _) _).alloc (by simp) _
  exact ⟨h.lt, grown_of_below hb _, h.below hb, heap1 w0 _ _, heap_alloc2_new w0 _ _⟩
theorem QSt.grow (h : QSt w0 w g l p r t) {p' : Nat} {r' : Bool} (hr : Rdr w' g l p' r') (hg : w.grownBy w' (some g)) : QSt w0 w' g l p' r' t := by
  have h0 := lt_of_block h.b0
  have h1 := lt_of_block h.b1
  have hlt := h.lt
  exact ⟨hlt, h.gr.trans hg, hr, (hg.block _ h0 (fun e => by injection e with e; omega)).trans h.b0, (hg.block _ h1 (fun e => by injection e with e; omega)).trans h.b1⟩
theorem QSt.below (h : QSt w0 w g l p r t) (hb : Below w.heap.size w w') : QSt w0 w' g l p r t := h.grow (h.rd.below hb) (grown_of_below hb _)
theorem QSt.set (h : QSt w0 w g l p r t) (i : Nat) (u : Value) : QSt w0 (w.setCell ⟨w0.heap.size + 1, i, none⟩ u) g l p r (t.setIfInBounds i u) := by
  have hlt := h.lt
  exact ⟨hlt, grown_setNew h.gr _ _ (Nat.le_succ _), h.rd.apart (grown_set _ _ _ _) h.b1 (by decide) (by omega), blk_other h.b0 u (by omega), set_blk h.b1 i u⟩
theorem QSt.cells {t0 t1 t2 t3 t4 t5 t6 : Value} (h : QSt w0 w g l p r #[t0, t1, t2, t3, t4, t5, t6]) :
    (w.cell? ⟨w0.heap.size + 1, 0, none⟩ = some t0 ∧ w.cell? ⟨w0.heap.size + 1, 1, none⟩ = some t1 ∧ w.cell? ⟨w0.heap.size + 1, 2, none⟩ = some t2 ∧ w.cell? ⟨w0.heap.size + 1, 3, none⟩ = some t3 ∧ w.cell? ⟨w0.heap.size + 1, 4, none⟩ = some t4 ∧ w.cell? ⟨w0.heap.size + 1, 5, none⟩ = some t5 ∧ w.cell? ⟨w0.heap.size + 1, 6, none⟩ = some t6) ∧
    (∀ i, w.frozen? ⟨w0.heap.size, i, none⟩ = false) ∧ (∀ i, w.frozen? ⟨w0.heap.size + 1, i, none⟩ = false) :=
  ⟨⟨cell_blk h.b1 0, cell_blk h.b1 1, cell_blk h.b1 2, cell_blk h.b1 3, cell_blk h.b1 4, cell_blk h.b1 5, cell_blk h.b1 6⟩, free_blk h.b0, free_blk h.b1⟩
theorem QSt.cells2 (h : QSt w0 w g l p r t) : w.cell? ⟨w0.heap.size, 0, none⟩ = some (.int .i64 0) ∧ w.cell? ⟨w0.heap.size, 1, none⟩ = some (.int .i64 0) ∧ w.cell? ⟨w0.heap.size, 2, none⟩ = some (.int .i64 0) ∧ w.cell? ⟨w0.heap.size, 3, none⟩ = some (.int .i64 0) ∧ w.cell? ⟨w0.heap.size, 4, none⟩ = some (.int .i64 0) ∧ w.cell? ⟨w0.heap.size, 5, none⟩ = some (.string { data := #[] }) ∧ w.cell? ⟨w0.heap.size, 6, none⟩ = some (.string { data := #[] }) :=
  ⟨cell_blk h.b0 0, cell_blk h.b0 1, cell_blk h.b0 2, cell_blk h.b0 3, cell_blk h.b0 4, cell_blk h.b0 5, cell_blk h.b0 6⟩
theorem QSt.fin (h : QSt w0 w g l p r t) (u0 u1 u2 u3 u4 u5 u6 : Value) :
    (((((((w.setCell ⟨w0.heap.size, 0, none⟩ u0).setCell ⟨w0.heap.size, 1, none⟩ u1).setCell ⟨w0.heap.size, 2, none⟩ u2).setCell ⟨w0.heap.size, 3, none⟩ u3).setCell ⟨w0.heap.size, 4, none⟩ u4).setCell ⟨w0.heap.size, 5, none⟩ u5).setCell ⟨w0.heap.size, 6, none⟩ u6).heap[w0.heap.size]? = some (.cells #[u0, u1, u2, u3, u4, u5, u6] 23 (0, 0)) ∧
    Rdr (((((((w.setCell ⟨w0.heap.size, 0, none⟩ u0).setCell ⟨w0.heap.size, 1, none⟩ u1).setCell ⟨w0.heap.size, 2, none⟩ u2).setCell ⟨w0.heap.size, 3, none⟩ u3).setCell ⟨w0.heap.size, 4, none⟩ u4).setCell ⟨w0.heap.size, 5, none⟩ u5).setCell ⟨w0.heap.size, 6, none⟩ u6) g l p r ∧
    w0.grownBy (((((((w.setCell ⟨w0.heap.size, 0, none⟩ u0).setCell ⟨w0.heap.size, 1, none⟩ u1).setCell ⟨w0.heap.size, 2, none⟩ u2).setCell ⟨w0.heap.size, 3, none⟩ u3).setCell ⟨w0.heap.size, 4, none⟩ u4).setCell ⟨w0.heap.size, 5, none⟩ u5).setCell ⟨w0.heap.size, 6, none⟩ u6) (some g) := by
  have hlt := h.lt
  have k := fun (W : World) (C : Array Value) (hW : W.heap[w0.heap.size]? = some (.cells C 23 (0, 0))) (hR : Rdr W g l p r) (hG : w0.grownBy W (some g)) (i : Nat) (u : Value) =>
    (show (W.setCell ⟨w0.heap.size, i, none⟩ u).heap[w0.heap.size]? = some (.cells (C.setIfInBounds i u) 23 (0, 0)) ∧ Rdr (W.setCell ⟨w0.heap.size, i, none⟩ u) g l p r ∧ w0.grownBy (W.setCell ⟨w0.heap.size, i, none⟩ u) (some g) from
      ⟨set_blk hW i u, hR.apart (grown_set _ _ _ _) hW (by decide) (by omega), grown_setNew hG _ _ (Nat.le_refl _)⟩)
  obtain ⟨a1, a2, a3⟩ := k w zeroTx h.b0 h.rd h.gr 0 u0
  obtain ⟨a1, a2, a3⟩ := k _ _ a1 a2 a3 1 u1
  obtain ⟨a1, a2, a3⟩ := k _ _ a1 a2 a3 2 u2
  obtain ⟨a1, a2, a3⟩ := k _ _ a1 a2 a3 3 u3
  obtain ⟨a1, a2, a3⟩ := k _ _ a1 a2 a3 4 u4
  obtain ⟨a1, a2, a3⟩ := k _ _ a1 a2 a3 5 u5
  exact k _ _ a1 a2 a3 6 u6
end

set_option maxHeartbeats 6400000 in
theorem txRead_ok : TxReadOk := by
  intro g l p r w hr hl
  have HU := hid (fun p r W (h : Rdr W g l p r) m (h1 : -9223372036854775808 ≤ m) (h2 : m ≤ 9223372036854775807) => upto_any g l p r m W h (by omega) h1 h2)
  have HT := hid (fun p r W (h : Rdr W g l p r) => rtext_any g l p r W h (by omega))
  have HWR := hid (fun p r W (h : Rdr W g l p r) => wrong_any g l p r W h)
  have hst0 := QSt.new hr
  unfold zeroTx at hst0
  clear hr hl
  go_enter Tryd.func14, Tryd.ntmps14
  go_wp2_with fail
  obtain ⟨a1, p1, r1, HA1⟩ : ∃ x q s, Hid (rdUpto 40 l p r = (x, q, s)) := ⟨_, _, _, hid rfl⟩
  have hm1 : a1 ≤ 40 := by have := rdUpto_le (m := 40) (l := l) (p := p) (r := r); rw [show ((40 : Nat) : Int) = 40 from rfl, HA1.out] at this; exact this
  have C := HU.out p r _ (hst0).rd 40 (by omega) (by omega)
  rw [HA1.out] at C
  refine C.mono ?_
  clear C
  rintro e w1 ⟨rfl, hrd, hgr⟩
  have hst : QSt w w1 g l p1 r1 #[.int .i64 0, .int .i64 0, .int .i64 0, .int .i64 0, .int .i64 0, .string { data := #[] }, .string { data := #[] }] := (hst0).grow hrd hgr
  clear hrd hgr hst0
  obtain ⟨⟨c0, c1, c2, c3, c4, c5, c6⟩, g0, g1⟩ := hst.cells
  have HST := hid hst
  clear hst
  go_wp2_with fail
  obtain ⟨a2, p2, r2, HA2⟩ : ∃ x q s, Hid (rdUpto 1099511627776 l p1 r1 = (x, q, s)) := ⟨_, _, _, hid rfl⟩
  have hm2 : a2 ≤ 1099511627776 := by have := rdUpto_le (m := 1099511627776) (l := l) (p := p1) (r := r1); rw [show ((1099511627776 : Nat) : Int) = 1099511627776 from rfl, HA2.out] at this; exact this
  have C := HU.out p1 r1 _ (HST.out.set 0 (.int .i64 (a1 : Int))).rd 1099511627776 (by omega) (by omega)
  rw [HA2.out] at C
  refine C.mono ?_
  clear C
  rintro e w2 ⟨rfl, hrd, hgr⟩
  have hst : QSt w w2 g l p2 r2 #[.int .i64 (a1 : Int), .int .i64 0, .int .i64 0, .int .i64 0, .int .i64 0, .string { data := #[] }, .string { data := #[] }] := (HST.out.set 0 (.int .i64 (a1 : Int))).grow hrd hgr
  clear hrd hgr HST c0 c1 c2 c3 c4 c5 c6 g0 g1
  obtain ⟨⟨c0, c1, c2, c3, c4, c5, c6⟩, g0, g1⟩ := hst.cells
  have HST := hid hst
  clear hst
  go_wp2_with fail
  obtain ⟨a3, p3, r3, HA3⟩ : ∃ x q s, Hid (rdUpto 3 l p2 r2 = (x, q, s)) := ⟨_, _, _, hid rfl⟩
  have hm3 : a3 ≤ 3 := by have := rdUpto_le (m := 3) (l := l) (p := p2) (r := r2); rw [show ((3 : Nat) : Int) = 3 from rfl, HA3.out] at this; exact this
  have C := HU.out p2 r2 _ (HST.out.set 1 (.int .i64 (a2 : Int))).rd 3 (by omega) (by omega)
  rw [HA3.out] at C
  refine C.mono ?_
  clear C
  rintro e w3 ⟨rfl, hrd, hgr⟩
  have hst : QSt w w3 g l p3 r3 #[.int .i64 (a1 : Int), .int .i64 (a2 : Int), .int .i64 0, .int .i64 0, .int .i64 0, .string { data := #[] }, .string { data := #[] }] := (HST.out.set 1 (.int .i64 (a2 : Int))).grow hrd hgr
  clear hrd hgr HST c0 c1 c2 c3 c4 c5 c6 g0 g1
  obtain ⟨⟨c0, c1, c2, c3, c4, c5, c6⟩, g0, g1⟩ := hst.cells
  have HST := hid hst
  clear hst
  have HPp3 : Hid (p3 ≤ l.length) := hid HST.out.rd.le
  obtain ha3 | ha3 | ha3 | ha3 : a3 = 0 ∨ a3 = 1 ∨ a3 = 2 ∨ a3 = 3 := by omega
  all_goals subst ha3
  · clear hm3
    have HRAW : Hid (rdRaw l p r = (⟨(a1 : Int), (a2 : Int), 0, 0, 0, [], []⟩, p3, r3)) := hid (by unfold rdRaw rdTail; simp [HA1.out, HA2.out, HA3.out])
    go_upto_region 14 with (fail)
    have hst : QSt w (w3.setCell ⟨w.heap.size + 1, 2, none⟩ (.int .i64 0)) g l p3 r3 #[.int .i64 (a1 : Int), .int .i64 (a2 : Int), .int .i64 0, .int .i64 0, .int .i64 0, .string { data := #[] }, .string { data := #[] }] := HST.out.set 2 (.int .i64 0)
    generalize (w3.setCell ⟨w.heap.size + 1, 2, none⟩ (.int .i64 0)) = wz at hst ⊢
    clear HST c0 c1 c2 c3 c4 c5 c6 g0 g1
    obtain ⟨⟨c0, c1, c2, c3, c4, c5, c6⟩, g0, g1⟩ := hst.cells
    have HST := hid hst
    clear hst
    have hz := HST.out.cells2
    obtain ⟨z0, z1, z2, z3, z4, z5, z6⟩ := hz
    go_wp2_with fail
    refine (HWR.out p3 r3 wz HST.out.rd).mono ?_
    rintro e wy ⟨rfl, rfl⟩
    cases r3 with
    | false =>
      have hI : rdIs l p r = false := by unfold rdIs; rw [HRAW.out]; rfl
      go_wp2_with fail
      have hfin := HST.out.fin (.int .i64 0) (.int .i64 0) (.int .i64 0) (.int .i64 0) (.int .i64 0) (.string { data := #[] }) (.string { data := #[] })
      refine bodyPost_ret (results_tb rfl _ _ _ _ _ _ rfl rfl hfin.1 rfl) rfl ⟨?_, ⟨_, _, hfin.2.1, ?_⟩, hfin.2.2⟩
      · unfold rdTx
        rw [hI, if_neg (by decide)]
        rfl
      · rw [hI]
        intro h
        cases h
    | true =>
      go_wp2_with fail
      refine (txCheck_any ⟨(a1 : Int), (a2 : Int), 0, 0, 0, [], []⟩ wz (Nat.zero_le _) (Nat.zero_le _)).mono ?_
      rintro e wy ⟨rfl, hb⟩
      have hst := HST.out.below hb
      clear hb HST c0 c1 c2 c3 c4 c5 c6 g0 g1 z0 z1 z2 z3 z4 z5 z6
      obtain ⟨⟨c0, c1, c2, c3, c4, c5, c6⟩, g0, g1⟩ := hst.cells
      have HST := hid hst
      clear hst
      have hz := HST.out.cells2
      obtain ⟨z0, z1, z2, z3, z4, z5, z6⟩ := hz
      obtain ⟨m, HM⟩ : ∃ m : Bool, Hid (mayT ⟨(a1 : Int), (a2 : Int), 0, 0, 0, [], []⟩ = m) := ⟨_, hid rfl⟩
      rw [HM.out]
      have hI : rdIs l p r = m := by unfold rdIs; rw [HRAW.out]; exact HM.out
      cases m with
      | false =>
        go_wp2_with fail
        have hfin := HST.out.fin (.int .i64 0) (.int .i64 0) (.int .i64 0) (.int .i64 0) (.int .i64 0) (.string { data := #[] }) (.string { data := #[] })
        refine bodyPost_ret (results_tb rfl _ _ _ _ _ _ rfl rfl hfin.1 rfl) rfl ⟨?_, ⟨_, _, hfin.2.1, ?_⟩, hfin.2.2⟩
        · unfold rdTx
          rw [hI, if_neg (by decide)]
          rfl
        · rw [hI]
          intro h
          cases h
      | true =>
        go_wp2_with fail
        have hfin := HST.out.fin (.int .i64 (a1 : Int)) (.int .i64 (a2 : Int)) (.int .i64 0) (.int .i64 0) (.int .i64 0) (.string { data := #[] }) (.string { data := #[] })
        refine bodyPost_ret (results_tb rfl _ _ _ _ _ _ rfl rfl hfin.1 rfl) rfl ⟨?_, ⟨_, _, hfin.2.1, ?_⟩, hfin.2.2⟩
        · unfold rdTx
          rw [hI, if_pos rfl, HRAW.out]
          rfl
        · rw [HRAW.out]
          intro _
          exact ⟨rfl, rfl⟩
  · clear hm3
    go_wp2_with fail
    obtain ⟨a4, p4, r4, HA4⟩ : ∃ x q s, Hid (rdUpto 40 l p3 r3 = (x, q, s)) := ⟨_, _, _, hid rfl⟩
    have hm4 : a4 ≤ 40 := by have := rdUpto_le (m := 40) (l := l) (p := p3) (r := r3); rw [show ((40 : Nat) : Int) = 40 from rfl, HA4.out] at this; exact this
    have C := HU.out p3 r3 _ (HST.out.set 2 (.int .i64 1)).rd 40 (by omega) (by omega)
    rw [HA4.out] at C
    refine C.mono ?_
    clear C
    rintro e w4 ⟨rfl, hrd, hgr⟩
    have hst : QSt w w4 g l p4 r4 #[.int .i64 (a1 : Int), .int .i64 (a2 : Int), .int .i64 1, .int .i64 0, .int .i64 0, .string { data := #[] }, .string { data := #[] }] := (HST.out.set 2 (.int .i64 1)).grow hrd hgr
    clear hrd hgr HST c0 c1 c2 c3 c4 c5 c6 g0 g1
    obtain ⟨⟨c0, c1, c2, c3, c4, c5, c6⟩, g0, g1⟩ := hst.cells
    have HST := hid hst
    clear hst
    go_wp2_with fail
    obtain ⟨a5, p5, r5, HA5⟩ : ∃ x q s, Hid (rdUpto 1099511627776 l p4 r4 = (x, q, s)) := ⟨_, _, _, hid rfl⟩
    have hm5 : a5 ≤ 1099511627776 := by have := rdUpto_le (m := 1099511627776) (l := l) (p := p4) (r := r4); rw [show ((1099511627776 : Nat) : Int) = 1099511627776 from rfl, HA5.out] at this; exact this
    have C := HU.out p4 r4 _ (HST.out.set 3 (.int .i64 (a4 : Int))).rd 1099511627776 (by omega) (by omega)
    rw [HA5.out] at C
    refine C.mono ?_
    clear C
    rintro e w5 ⟨rfl, hrd, hgr⟩
    have hst : QSt w w5 g l p5 r5 #[.int .i64 (a1 : Int), .int .i64 (a2 : Int), .int .i64 1, .int .i64 (a4 : Int), .int .i64 0, .string { data := #[] }, .string { data := #[] }] := (HST.out.set 3 (.int .i64 (a4 : Int))).grow hrd hgr
    clear hrd hgr HST c0 c1 c2 c3 c4 c5 c6 g0 g1
    obtain ⟨⟨c0, c1, c2, c3, c4, c5, c6⟩, g0, g1⟩ := hst.cells
    have HST := hid hst
    clear hst
    have HRAW : Hid (rdRaw l p r = (⟨(a1 : Int), (a2 : Int), 1, (a4 : Int), (a5 : Int), [], []⟩, p5, r5)) := hid (by unfold rdRaw rdTail; simp [HA1.out, HA2.out, HA3.out, HA4.out, HA5.out])
    go_upto_region 14 with (fail)
    have hst : QSt w (w5.setCell ⟨w.heap.size + 1, 4, none⟩ (.int .i64 (a5 : Int))) g l p5 r5 #[.int .i64 (a1 : Int), .int .i64 (a2 : Int), .int .i64 1, .int .i64 (a4 : Int), .int .i64 (a5 : Int), .string { data := #[] }, .string { data := #[] }] := HST.out.set 4 (.int .i64 (a5 : Int))
    generalize (w5.setCell ⟨w.heap.size + 1, 4, none⟩ (.int .i64 (a5 : Int))) = wz at hst ⊢
    clear HST c0 c1 c2 c3 c4 c5 c6 g0 g1
    obtain ⟨⟨c0, c1, c2, c3, c4, c5, c6⟩, g0, g1⟩ := hst.cells
    have HST := hid hst
    clear hst
    have hz := HST.out.cells2
    obtain ⟨z0, z1, z2, z3, z4, z5, z6⟩ := hz
    go_wp2_with fail
    refine (HWR.out p5 r5 wz HST.out.rd).mono ?_
    rintro e wy ⟨rfl, rfl⟩
    cases r5 with
    | false =>
      have hI : rdIs l p r = false := by unfold rdIs; rw [HRAW.out]; rfl
      go_wp2_with fail
      have hfin := HST.out.fin (.int .i64 0) (.int .i64 0) (.int .i64 0) (.int .i64 0) (.int .i64 0) (.string { data := #[] }) (.string { data := #[] })
      refine bodyPost_ret (results_tb rfl _ _ _ _ _ _ rfl rfl hfin.1 rfl) rfl ⟨?_, ⟨_, _, hfin.2.1, ?_⟩, hfin.2.2⟩
      · unfold rdTx
        rw [hI, if_neg (by decide)]
        rfl
      · rw [hI]
        intro h
        cases h
    | true =>
      go_wp2_with fail
      refine (txCheck_any ⟨(a1 : Int), (a2 : Int), 1, (a4 : Int), (a5 : Int), [], []⟩ wz (Nat.zero_le _) (Nat.zero_le _)).mono ?_
      rintro e wy ⟨rfl, hb⟩
      have hst := HST.out.below hb
      clear hb HST c0 c1 c2 c3 c4 c5 c6 g0 g1 z0 z1 z2 z3 z4 z5 z6
      obtain ⟨⟨c0, c1, c2, c3, c4, c5, c6⟩, g0, g1⟩ := hst.cells
      have HST := hid hst
      clear hst
      have hz := HST.out.cells2
      obtain ⟨z0, z1, z2, z3, z4, z5, z6⟩ := hz
      obtain ⟨m, HM⟩ : ∃ m : Bool, Hid (mayT ⟨(a1 : Int), (a2 : Int), 1, (a4 : Int), (a5 : Int), [], []⟩ = m) := ⟨_, hid rfl⟩
      rw [HM.out]
      have hI : rdIs l p r = m := by unfold rdIs; rw [HRAW.out]; exact HM.out
      cases m with
      | false =>
        go_wp2_with fail
        have hfin := HST.out.fin (.int .i64 0) (.int .i64 0) (.int .i64 0) (.int .i64 0) (.int .i64 0) (.string { data := #[] }) (.string { data := #[] })
        refine bodyPost_ret (results_tb rfl _ _ _ _ _ _ rfl rfl hfin.1 rfl) rfl ⟨?_, ⟨_, _, hfin.2.1, ?_⟩, hfin.2.2⟩
        · unfold rdTx
          rw [hI, if_neg (by decide)]
          rfl
        · rw [hI]
          intro h
          cases h
      | true =>
        go_wp2_with fail
        have hfin := HST.out.fin (.int .i64 (a1 : Int)) (.int .i64 (a2 : Int)) (.int .i64 1) (.int .i64 (a4 : Int)) (.int .i64 (a5 : Int)) (.string { data := #[] }) (.string { data := #[] })
        refine bodyPost_ret (results_tb rfl _ _ _ _ _ _ rfl rfl hfin.1 rfl) rfl ⟨?_, ⟨_, _, hfin.2.1, ?_⟩, hfin.2.2⟩
        · unfold rdTx
          rw [hI, if_pos rfl, HRAW.out]
          rfl
        · rw [HRAW.out]
          intro _
          exact ⟨rfl, rfl⟩
  · clear hm3
    go_wp2_with fail
    obtain ⟨k4, p4, r4, HA4⟩ : ∃ x q s, Hid (rdText l p3 r3 = (x, q, s)) := ⟨_, _, _, hid rfl⟩
    have hm4 : k4.length ≤ 65536 := by have := (rdText_pl (l := l) (r := r3) HPp3.out).2; rw [HA4.out] at this; exact this
    have HPp4 : Hid (p4 ≤ l.length) := hid (by have := (rdText_pl (l := l) (r := r3) HPp3.out).1; rw [HA4.out] at this; exact this)
    have C := HT.out p3 r3 _ (HST.out.set 2 (.int .i64 2)).rd
    rw [HA4.out] at C
    refine C.mono ?_
    clear C
    rintro e w4 ⟨v4, rfl, ho, hrd, hgr⟩
    have hcv4 := run_sb ho.byt
    simp only at hcv4
    have hst : QSt w w4 g l p4 r4 #[.int .i64 (a1 : Int), .int .i64 (a2 : Int), .int .i64 2, .int .i64 0, .int .i64 0, .string { data := #[] }, .string { data := #[] }] := (HST.out.set 2 (.int .i64 2)).grow hrd hgr
    clear ho hrd hgr HST c0 c1 c2 c3 c4 c5 c6 g0 g1
    obtain ⟨⟨c0, c1, c2, c3, c4, c5, c6⟩, g0, g1⟩ := hst.cells
    have HST := hid hst
    clear hst
    go_wp2_with fail
    obtain ⟨k5, p5, r5, HA5⟩ : ∃ x q s, Hid (rdText l p4 r4 = (x, q, s)) := ⟨_, _, _, hid rfl⟩
    have hm5 : k5.length ≤ 65536 := by have := (rdText_pl (l := l) (r := r4) HPp4.out).2; rw [HA5.out] at this; exact this
    have HPp5 : Hid (p5 ≤ l.length) := hid (by have := (rdText_pl (l := l) (r := r4) HPp4.out).1; rw [HA5.out] at this; exact this)
    have C := HT.out p4 r4 _ (HST.out.set 5 (.string (sb k4))).rd
    rw [HA5.out] at C
    refine C.mono ?_
    clear C
    rintro e w5 ⟨v5, rfl, ho, hrd, hgr⟩
    have hcv5 := run_sb ho.byt
    simp only at hcv5
    have hst : QSt w w5 g l p5 r5 #[.int .i64 (a1 : Int), .int .i64 (a2 : Int), .int .i64 2, .int .i64 0, .int .i64 0, .string (sb k4), .string { data := #[] }] := (HST.out.set 5 (.string (sb k4))).grow hrd hgr
    clear ho hrd hgr HST c0 c1 c2 c3 c4 c5 c6 g0 g1
    obtain ⟨⟨c0, c1, c2, c3, c4, c5, c6⟩, g0, g1⟩ := hst.cells
    have HST := hid hst
    clear hst
    clear hcv4
    have HRAW : Hid (rdRaw l p r = (⟨(a1 : Int), (a2 : Int), 2, 0, 0, k4, k5⟩, p5, r5)) := hid (by unfold rdRaw rdTail; simp [HA1.out, HA2.out, HA3.out, HA4.out, HA5.out])
    go_upto_region 14 with (fail)
    have hst : QSt w (w5.setCell ⟨w.heap.size + 1, 6, none⟩ (.string (sb k5))) g l p5 r5 #[.int .i64 (a1 : Int), .int .i64 (a2 : Int), .int .i64 2, .int .i64 0, .int .i64 0, .string (sb k4), .string (sb k5)] := HST.out.set 6 (.string (sb k5))
    generalize (w5.setCell ⟨w.heap.size + 1, 6, none⟩ (.string (sb k5))) = wz at hst ⊢
    clear HST c0 c1 c2 c3 c4 c5 c6 g0 g1
    obtain ⟨⟨c0, c1, c2, c3, c4, c5, c6⟩, g0, g1⟩ := hst.cells
    have HST := hid hst
    clear hst
    have hz := HST.out.cells2
    obtain ⟨z0, z1, z2, z3, z4, z5, z6⟩ := hz
    go_wp2_with fail
    refine (HWR.out p5 r5 wz HST.out.rd).mono ?_
    rintro e wy ⟨rfl, rfl⟩
    cases r5 with
    | false =>
      have hI : rdIs l p r = false := by unfold rdIs; rw [HRAW.out]; rfl
      go_wp2_with fail
      have hfin := HST.out.fin (.int .i64 0) (.int .i64 0) (.int .i64 0) (.int .i64 0) (.int .i64 0) (.string { data := #[] }) (.string { data := #[] })
      refine bodyPost_ret (results_tb rfl _ _ _ _ _ _ rfl rfl hfin.1 rfl) rfl ⟨?_, ⟨_, _, hfin.2.1, ?_⟩, hfin.2.2⟩
      · unfold rdTx
        rw [hI, if_neg (by decide)]
        rfl
      · rw [hI]
        intro h
        cases h
    | true =>
      go_wp2_with fail
      refine (txCheck_any ⟨(a1 : Int), (a2 : Int), 2, 0, 0, k4, k5⟩ wz (show k4.length ≤ 1000000 by omega) (show k5.length ≤ 1000000 by omega)).mono ?_
      rintro e wy ⟨rfl, hb⟩
      have hst := HST.out.below hb
      clear hb HST c0 c1 c2 c3 c4 c5 c6 g0 g1 z0 z1 z2 z3 z4 z5 z6
      obtain ⟨⟨c0, c1, c2, c3, c4, c5, c6⟩, g0, g1⟩ := hst.cells
      have HST := hid hst
      clear hst
      have hz := HST.out.cells2
      obtain ⟨z0, z1, z2, z3, z4, z5, z6⟩ := hz
      obtain ⟨m, HM⟩ : ∃ m : Bool, Hid (mayT ⟨(a1 : Int), (a2 : Int), 2, 0, 0, k4, k5⟩ = m) := ⟨_, hid rfl⟩
      rw [HM.out]
      have hI : rdIs l p r = m := by unfold rdIs; rw [HRAW.out]; exact HM.out
      cases m with
      | false =>
        go_wp2_with fail
        have hfin := HST.out.fin (.int .i64 0) (.int .i64 0) (.int .i64 0) (.int .i64 0) (.int .i64 0) (.string { data := #[] }) (.string { data := #[] })
        refine bodyPost_ret (results_tb rfl _ _ _ _ _ _ rfl rfl hfin.1 rfl) rfl ⟨?_, ⟨_, _, hfin.2.1, ?_⟩, hfin.2.2⟩
        · unfold rdTx
          rw [hI, if_neg (by decide)]
          rfl
        · rw [hI]
          intro h
          cases h
      | true =>
        go_wp2_with fail
        have hfin := HST.out.fin (.int .i64 (a1 : Int)) (.int .i64 (a2 : Int)) (.int .i64 2) (.int .i64 0) (.int .i64 0) (.string (sb k4)) (.string (sb k5))
        refine bodyPost_ret (results_tb rfl _ _ _ _ _ _ rfl rfl hfin.1 rfl) rfl ⟨?_, ⟨_, _, hfin.2.1, ?_⟩, hfin.2.2⟩
        · unfold rdTx
          rw [hI, if_pos rfl, HRAW.out]
          rfl
        · rw [HRAW.out]
          intro _
          exact ⟨rfl, rfl⟩
  · clear hm3
    go_wp2_with fail
    obtain ⟨k4, p4, r4, HA4⟩ : ∃ x q s, Hid (rdText l p3 r3 = (x, q, s)) := ⟨_, _, _, hid rfl⟩
    have hm4 : k4.length ≤ 65536 := by have := (rdText_pl (l := l) (r := r3) HPp3.out).2; rw [HA4.out] at this; exact this
    have HPp4 : Hid (p4 ≤ l.length) := hid (by have := (rdText_pl (l := l) (r := r3) HPp3.out).1; rw [HA4.out] at this; exact this)
    have C := HT.out p3 r3 _ (HST.out.set 2 (.int .i64 3)).rd
    rw [HA4.out] at C
    refine C.mono ?_
    clear C
    rintro e w4 ⟨v4, rfl, ho, hrd, hgr⟩
    have hcv4 := run_sb ho.byt
    simp only at hcv4
    have hst : QSt w w4 g l p4 r4 #[.int .i64 (a1 : Int), .int .i64 (a2 : Int), .int .i64 3, .int .i64 0, .int .i64 0, .string { data := #[] }, .string { data := #[] }] := (HST.out.set 2 (.int .i64 3)).grow hrd hgr
    clear ho hrd hgr HST c0 c1 c2 c3 c4 c5 c6 g0 g1
    obtain ⟨⟨c0, c1, c2, c3, c4, c5, c6⟩, g0, g1⟩ := hst.cells
    have HST := hid hst
    clear hst
    have HRAW : Hid (rdRaw l p r = (⟨(a1 : Int), (a2 : Int), 3, 0, 0, k4, []⟩, p4, r4)) := hid (by unfold rdRaw rdTail; simp [HA1.out, HA2.out, HA3.out, HA4.out])
    go_upto_region 14 with (fail)
    have hst : QSt w (w4.setCell ⟨w.heap.size + 1, 5, none⟩ (.string (sb k4))) g l p4 r4 #[.int .i64 (a1 : Int), .int .i64 (a2 : Int), .int .i64 3, .int .i64 0, .int .i64 0, .string (sb k4), .string { data := #[] }] := HST.out.set 5 (.string (sb k4))
    generalize (w4.setCell ⟨w.heap.size + 1, 5, none⟩ (.string (sb k4))) = wz at hst ⊢
    clear HST c0 c1 c2 c3 c4 c5 c6 g0 g1
    obtain ⟨⟨c0, c1, c2, c3, c4, c5, c6⟩, g0, g1⟩ := hst.cells
    have HST := hid hst
    clear hst
    have hz := HST.out.cells2
    obtain ⟨z0, z1, z2, z3, z4, z5, z6⟩ := hz
    go_wp2_with fail
    refine (HWR.out p4 r4 wz HST.out.rd).mono ?_
    rintro e wy ⟨rfl, rfl⟩
    cases r4 with
    | false =>
      have hI : rdIs l p r = false := by unfold rdIs; rw [HRAW.out]; rfl
      go_wp2_with fail
      have hfin := HST.out.fin (.int .i64 0) (.int .i64 0) (.int .i64 0) (.int .i64 0) (.int .i64 0) (.string { data := #[] }) (.string { data := #[] })
      refine bodyPost_ret (results_tb rfl _ _ _ _ _ _ rfl rfl hfin.1 rfl) rfl ⟨?_, ⟨_, _, hfin.2.1, ?_⟩, hfin.2.2⟩
      · unfold rdTx
        rw [hI, if_neg (by decide)]
        rfl
      · rw [hI]
        intro h
        cases h
    | true =>
      go_wp2_with fail
      refine (txCheck_any ⟨(a1 : Int), (a2 : Int), 3, 0, 0, k4, []⟩ wz (show k4.length ≤ 1000000 by omega) (Nat.zero_le _)).mono ?_
      rintro e wy ⟨rfl, hb⟩
      have hst := HST.out.below hb
      clear hb HST c0 c1 c2 c3 c4 c5 c6 g0 g1 z0 z1 z2 z3 z4 z5 z6
      obtain ⟨⟨c0, c1, c2, c3, c4, c5, c6⟩, g0, g1⟩ := hst.cells
      have HST := hid hst
      clear hst
      have hz := HST.out.cells2
      obtain ⟨z0, z1, z2, z3, z4, z5, z6⟩ := hz
      obtain ⟨m, HM⟩ : ∃ m : Bool, Hid (mayT ⟨(a1 : Int), (a2 : Int), 3, 0, 0, k4, []⟩ = m) := ⟨_, hid rfl⟩
      rw [HM.out]
      have hI : rdIs l p r = m := by unfold rdIs; rw [HRAW.out]; exact HM.out
      cases m with
      | false =>
        go_wp2_with fail
        have hfin := HST.out.fin (.int .i64 0) (.int .i64 0) (.int .i64 0) (.int .i64 0) (.int .i64 0) (.string { data := #[] }) (.string { data := #[] })
        refine bodyPost_ret (results_tb rfl _ _ _ _ _ _ rfl rfl hfin.1 rfl) rfl ⟨?_, ⟨_, _, hfin.2.1, ?_⟩, hfin.2.2⟩
        · unfold rdTx
          rw [hI, if_neg (by decide)]
          rfl
        · rw [hI]
          intro h
          cases h
      | true =>
        go_wp2_with fail
        have hfin := HST.out.fin (.int .i64 (a1 : Int)) (.int .i64 (a2 : Int)) (.int .i64 3) (.int .i64 0) (.int .i64 0) (.string (sb k4)) (.string { data := #[] })
        refine bodyPost_ret (results_tb rfl _ _ _ _ _ _ rfl rfl hfin.1 rfl) rfl ⟨?_, ⟨_, _, hfin.2.1, ?_⟩, hfin.2.2⟩
        · unfold rdTx
          rw [hI, if_pos rfl, HRAW.out]
          rfl
        · rw [HRAW.out]
          intro _
          exact ⟨rfl, rfl⟩
end Go.Proofs.YtefngncieagobaaDoor

/-
  What tx's functions tell: txLess_ok, txPut_ok, txRead_ok.
-/

/-
  tithingref06.Bytes: a transaction's bytes.
-/
namespace Go.Proofs.YtefngncieagobaaDoor
open Go.RowKit

set_option maxHeartbeats 6400000 in
theorem refBytes_any (t : TxM) (w : World) (hm : mayT t = true) :
    Calls Tryd.prog 12 #[txv t] w fun e w' => ∃ x, e = .returned x ∧ Own w.heap.size w' x (bytesT t) ∧ Below w.heap.size w w' := by
  obtain ⟨h1, h2, h3⟩ := mayT_iff hm
  obtain ⟨fr, no, ki, tu, am, key, val⟩ := t
  simp only at h1 h2 h3
  obtain ⟨a, rfl⟩ := nat_of (i := fr) (by omega)
  obtain ⟨b, rfl⟩ := nat_of (i := no) (by omega)
  obtain ⟨c, rfl⟩ := nat_of (i := ki) (by omega)
  have hc : c < 128 := by omega
  unfold txv
  simp only
  have ha1 : IntKind.u64.wrap (a : Int) = (a : Int) := wrap_u64 _ (by omega) (by omega)
  have hb1 : IntKind.u64.wrap (b : Int) = (b : Int) := wrap_u64 _ (by omega) (by omega)
  have hc1 : IntKind.u8.wrap (c : Int) = (c : Int) := by rw [IntKind.wrap_u8']; omega
  have HNA := hid (fun w => refnum_any (a : Int) w (by omega) (by omega))
  have HNB := hid (fun w => refnum_any (b : Int) w (by omega) (by omega))
  have hrow := fun (C : Array Value) => heap_alloc_new w (.cells C 23)
  have hnew := fun (C : Array Value) => (Below.refl w.heap.size w).alloc (Nat.le_refl _) (.cells C 23)
  have HLA := hid (dg_len10 (n := a) (by omega))
  have HLB := hid (dg_len10 (n := b) (by omega))
  have HDC : Hid (dg c = [UInt8.ofNat c]) := hid (dg_small hc)
  have HY : Hid ((c : Int) = ((UInt8.ofNat c).toNat : Int)) := hid (by rw [UInt8.toNat_ofNat']; omega)
  obtain ⟨s, HS⟩ : ∃ s : ByteArray, Hid (sb key = s) := ⟨_, hid rfl⟩
  obtain ⟨u, HU⟩ : ∃ s : ByteArray, Hid (sb val = s) := ⟨_, hid rfl⟩
  rw [HS.out, HU.out]
  have hr0 := hrow #[.int .i64 (a : Int), .int .i64 (b : Int), .int .i64 (c : Int), .int .i64 tu, .int .i64 am, .string s, .string u]
  have hn0 := hnew #[.int .i64 (a : Int), .int .i64 (b : Int), .int .i64 (c : Int), .int .i64 tu, .int .i64 am, .string s, .string u]
  clear hrow hnew
  have H3 := hid h3
  clear h1 h2 h3
  go_enter Tryd.func12, Tryd.ntmps12
  go_wp2_with fail
  have hsz0 : (w.alloc (.cells #[.int .i64 (a : Int), .int .i64 (b : Int), .int .i64 (c : Int), .int .i64 tu, .int .i64 am, .string s, .string u] 23)).heap.size = w.heap.size + 1 := by simp
  generalize (w.alloc (.cells #[.int .i64 (a : Int), .int .i64 (b : Int), .int .i64 (c : Int), .int .i64 tu, .int .i64 am, .string s, .string u] 23)) = w0 at *
  have hl0 := lt_of_block hr0
  have HC : Hid (∀ W : World, Below w0.heap.size w0 W → ∀ i, W.cell? ⟨w.heap.size, i, none⟩ = #[Value.int .i64 (a : Int), .int .i64 (b : Int), .int .i64 (c : Int), .int .i64 tu, .int .i64 am, .string s, .string u][i]?) := hid (fun W h i => cell_blk ((h.block _ hl0).trans hr0) i)
  have hbd : Below w0.heap.size w0 w0.drew := (Below.refl _ _).drew
  clear hr0 hl0
  go_region_held3 (fun W => W.cell? ⟨w.heap.size, 0, none⟩ = some (.int .i64 (a : Int)) ∧ W.cell? ⟨w.heap.size, 1, none⟩ = some (.int .i64 (b : Int)))
    (first
      | (refine ⟨HC.out _ hbd 0, HC.out _ hbd 1⟩)
      | (refine ⟨HC.out _ hb5 0, HC.out _ hb5 1⟩)
      | (refine ⟨HC.out _ hb4 0, HC.out _ hb4 1⟩)
      | (refine ⟨HC.out _ hb3 0, HC.out _ hb3 1⟩)
      | fail)
    (first
      | (refine step_append_byt (by rfl) (.tmp 7) (.tmp 11) (by rfl) (by rfl) (by rfl) (ho3.below hb4') ho4.byt (by have := HLA.out; have := HLB.out; rw [Int.toNat_natCast, Int.toNat_natCast]; omega) hb4.size ?_; intro v5 w5 ho5 hg5 _; have hb5 := hb4.grown hg5 hb4.size (fun q hq => (World.ownsRow.lt ho3 q hq).1); clear hg5)
      | (go_at_call 23; refine (HNB.out w3).mono ?_; rintro e w4 ⟨v4, rfl, ho4, hb4'⟩; have hb4 := hb3.trans (hb4'.mono hb3.size))
      | (go_at_call 23; refine (HNA.out w0.drew).mono ?_; rintro e w3 ⟨v3, rfl, ho3, hb3'⟩; have hb3 := hbd.trans hb3')
      | fail)
  rw [Int.toNat_natCast] at ho3 ho4
  have HL5 := hid (show (dg a ++ dg b).length ≤ 20 by rw [List.length_append]; have := HLA.out; have := HLB.out; omega)
  have ho5' : Own w0.heap.size w5 v5 (dg a ++ dg b) := ho5
  clear ho3 ho4 ho5 hb3 hb4 hb3' hb4' HNA HNB ha1 hb1
  have c2 := HC.out w5 hb5 2
  have c3 := HC.out w5 hb5 3
  have c4 := HC.out w5 hb5 4
  have c5 := HC.out w5 hb5 5
  have c6 := HC.out w5 hb5 6
  simp at c2 c3 c4 c5 c6
  obtain ⟨P, HP⟩ : ∃ P : List UInt8, Hid (dg a ++ (dg b ++ dg c) = P) := ⟨_, hid rfl⟩
  have HPL : Hid (P.length ≤ 21) := hid (by rw [← HP.out, HDC.out, ← List.append_assoc, List.length_append]; have := HL5.out; simp only [List.length_singleton]; omega)
  have hby := byt_one w5 (c : Int) (UInt8.ofNat c) HY.out
  have hl6 : (dg a ++ dg b).length + [UInt8.ofNat c].length ≤ 140737488355328 := by have := HL5.out; simp only [List.length_singleton]; omega
  have hs5 := hb5.size
  have HB5 := hid hby
  clear hby
  have HW : Hid (w0.heap.size = w.heap.size + 1) := hid hsz0
  clear hsz0
  obtain ⟨hk, hto, ham, rfl, rfl⟩ | ⟨hk, rfl, rfl, hky, hvl⟩ | ⟨hk, rfl, rfl, hky, rfl⟩ := H3.out
  · obtain ⟨d, rfl⟩ := nat_of (i := tu) (by omega)
    obtain ⟨f, rfl⟩ := nat_of (i := am) (by omega)
    obtain rfl : c = 1 := by omega
    have hd1 : IntKind.u64.wrap (d : Int) = (d : Int) := wrap_u64 _ (by omega) (by omega)
    have hf1 : IntKind.u64.wrap (f : Int) = (f : Int) := wrap_u64 _ (by omega) (by omega)
    have HND := hid (fun w => refnum_any (d : Int) w (by omega) (by omega))
    have HNF := hid (fun w => refnum_any (f : Int) w (by omega) (by omega))
    have HLD := hid (dg_len10 (n := d) (by omega))
    have HLF := hid (dg_len10 (n := f) (by omega))
    clear hk hto ham
    go_upto_region 2 with (fail)
    go_wp2_with (first
      | (at_builtin; refine wpList_append_byt rfl (.tmp 13) (.tmp 17) rfl rfl rfl (ho5'.alloc _) HB5.out hl6 (Nat.le_trans hs5 (al_le w5 _)) ?_; intro v6 w6 ho6 hg6 hv6; have hb6 := (hb5.alloc hs5 _).grown hg6 (Nat.le_trans hs5 (al_le w5 _)) (fun q hq => (World.ownsRow.lt ho5' q hq).1); have d2 := HC.out w6 hb6 2; simp at d2; clear hg6 hv6))
    have ho6' : Own w0.heap.size w6 v6 P := by rw [← HP.out, HDC.out, ← List.append_assoc]; exact ho6
    clear ho6 c2 c3 c4 c5 c6 ho5' hb5 HB5 hs5
    have hbd6 : Below w0.heap.size w0 w6.drew := hb6.drew
    have ho6d : Own w0.heap.size w6.drew v6 P := ho6'
    go_region_held3 (fun W => W.cell? ⟨w.heap.size, 3, none⟩ = some (.int .i64 (d : Int)) ∧ W.cell? ⟨w.heap.size, 4, none⟩ = some (.int .i64 (f : Int)))
      (first
        | (refine ⟨HC.out _ hbd6 3, HC.out _ hbd6 4⟩)
        | (refine ⟨HC.out _ hb10 3, HC.out _ hb10 4⟩)
        | (refine ⟨HC.out _ hb9 3, HC.out _ hb9 4⟩)
        | (refine ⟨HC.out _ hb8 3, HC.out _ hb8 4⟩)
        | (refine ⟨HC.out _ hb7 3, HC.out _ hb7 4⟩)
        | fail)
      (first
        | (refine step_append_byt (by rfl) (.tmp 27) (.tmp 31) (by rfl) (by rfl) (by rfl) (ho8.below hb9') ho9.byt (by have := HLD.out; have := HLF.out; have := HPL.out; rw [List.length_append, Int.toNat_natCast, Int.toNat_natCast]; omega) hb9.size ?_; intro v10 w10 ho10 hg10 _; have hb10 := hb9.grown hg10 hb9.size (fun q hq => (World.ownsRow.lt ho8 q hq).1); clear hg10)
        | (go_at_call 23; refine (HNF.out w8).mono ?_; rintro e w9 ⟨v9, rfl, ho9, hb9'⟩; have hb9 := hb8.trans (hb9'.mono hb8.size))
        | (refine step_append_byt (by rfl) (.tmp 22) (.tmp 26) (by rfl) (by rfl) (by rfl) (ho6d.below hb7') ho7.byt (by have := HLD.out; have := HPL.out; rw [Int.toNat_natCast]; omega) hb7.size ?_; intro v8 w8 ho8 hg8 _; have hb8 := hb7.grown hg8 hb7.size (fun q hq => (World.ownsRow.lt ho6' q hq).1); clear hg8)
        | (go_at_call 23; refine (HND.out w6.drew).mono ?_; rintro e w7 ⟨v7, rfl, ho7, hb7'⟩; have hb7 := hbd6.trans (hb7'.mono hbd6.size))
        | fail)
    all_goals
      go_wp2_with fail
      go_ret
      refine ⟨v10, rfl, ?_, hn0.trans (hb10.mono hn0.size)⟩
      rw [bytesT_one]
      rw [← HP.out] at ho10
      simp only [Int.toNat_natCast, List.append_assoc] at ho10
      exact ho10.more (by have := HW.out; omega)
  · have HKM := hid (show key.length ≤ maxLen by have := keyOk_len hky; unfold maxLen; omega)
    have HVM := hid (show val.length ≤ maxLen by unfold maxLen; omega)
    have HKL := hid (show key.length ≤ 16 by have := keyOk_len hky; omega)
    have HVL := hid hvl
    obtain rfl : c = 2 := by omega
    clear hk hky hvl
    go_upto_region 2 with (fail)
    go_wp2_with (first
      | (at_builtin; refine wpList_append_byt rfl (.tmp 13) (.tmp 17) rfl rfl rfl (ho5'.alloc _) HB5.out hl6 (Nat.le_trans hs5 (al_le w5 _)) ?_; intro v6 w6 ho6 hg6 hv6; have hb6 := (hb5.alloc hs5 _).grown hg6 (Nat.le_trans hs5 (al_le w5 _)) (fun q hq => (World.ownsRow.lt ho5' q hq).1); have d2 := HC.out w6 hb6 2; have d5 := HC.out w6 hb6 5; simp at d2 d5; obtain ⟨v7, w7, hcv7, hby7, hb7'⟩ := run_bs key w6 HKM.out; rw [HS.out] at hcv7; clear hg6 hv6))
    have ho6' : Own w0.heap.size w6 v6 P := by rw [← HP.out, HDC.out, ← List.append_assoc]; exact ho6
    clear ho6 c2 c3 c4 c5 c6 ho5' hb5 HB5 hs5
    refine (reftext_any v7 key w7 hby7 (by have := HKL.out; omega)).mono ?_
    rintro e w8 ⟨v8, rfl, ho8, hb8'⟩
    have hb7 := hb6.trans (hb7'.mono hb6.size)
    have hb8 := hb7.trans (hb8'.mono hb7.size)
    have ho68 : Own w0.heap.size w8 v6 P := (ho6'.below hb7').below hb8'
    have hl9 : P.length + (tx key).length ≤ 140737488355328 := by
      have := HKL.out
      have := dg_len10 (n := key.length) (by omega)
      have := HPL.out
      rw [tx_len]
      omega
    clear hcv7 hby7 d2 d5 ho6'
    go_wp2_with (at_builtin; refine wpList_append_byt rfl (.tmp 33) (.tmp 37) rfl rfl rfl ho68 ho8.byt hl9 hb8.size ?_; intro v9 w9 ho9 hg9 hv9; have hb9 := hb8.grown hg9 hb8.size (fun q hq => (World.ownsRow.lt ho68 q hq).1); have e2 := HC.out w9 hb9 2; have e6 := HC.out w9 hb9 6; simp at e2 e6; clear hg9 hv9; obtain ⟨v10, w10, hcv10, hby10, hb10'⟩ := run_bs val w9 HVM.out; rw [HU.out] at hcv10)
    refine (reftext_any v10 val w10 hby10 (by have := HVL.out; omega)).mono ?_
    rintro e w11 ⟨v11, rfl, ho11, hb11'⟩
    have hb10 := hb9.trans (hb10'.mono hb9.size)
    have hb11 := hb10.trans (hb11'.mono hb10.size)
    have ho911 : Own w0.heap.size w11 v9 (P ++ tx key) := (ho9.below hb10').below hb11'
    have hl12 : (P ++ tx key).length + (tx val).length ≤ 140737488355328 := by
      have := HKL.out
      have := HVL.out
      have := dg_len10 (n := key.length) (by omega)
      have := dg_len10 (n := val.length) (by omega)
      have := HPL.out
      rw [List.length_append, tx_len, tx_len]
      omega
    clear hcv10 hby10 e2 e6
    go_wp2_with (at_builtin; refine wpList_append_byt rfl (.tmp 42) (.tmp 46) rfl rfl rfl ho911 ho11.byt hl12 hb11.size ?_; intro v12 w12 ho12 hg12 hv12; have hb12 := hb11.grown hg12 hb11.size (fun q hq => (World.ownsRow.lt ho911 q hq).1); clear hg12 hv12)
    go_ret
    refine ⟨v12, rfl, ?_, hn0.trans (hb12.mono hn0.size)⟩
    rw [bytesT_two]
    rw [← HP.out] at ho12
    simp only [List.append_assoc] at ho12
    exact ho12.more (by have := HW.out; omega)
  · have HKM := hid (show key.length ≤ maxLen by have := keyOk_len hky; unfold maxLen; omega)
    have HKL := hid (show key.length ≤ 16 by have := keyOk_len hky; omega)
    obtain rfl : c = 3 := by omega
    clear hk hky
    go_upto_region 2 with (fail)
    go_wp2_with (first
      | (at_builtin; refine wpList_append_byt rfl (.tmp 13) (.tmp 17) rfl rfl rfl (ho5'.alloc _) HB5.out hl6 (Nat.le_trans hs5 (al_le w5 _)) ?_; intro v6 w6 ho6 hg6 hv6; have hb6 := (hb5.alloc hs5 _).grown hg6 (Nat.le_trans hs5 (al_le w5 _)) (fun q hq => (World.ownsRow.lt ho5' q hq).1); have d2 := HC.out w6 hb6 2; have d5 := HC.out w6 hb6 5; simp at d2 d5; obtain ⟨v7, w7, hcv7, hby7, hb7'⟩ := run_bs key w6 HKM.out; rw [HS.out] at hcv7; clear hg6 hv6))
    have ho6' : Own w0.heap.size w6 v6 P := by rw [← HP.out, HDC.out, ← List.append_assoc]; exact ho6
    clear ho6 c2 c3 c4 c5 c6 ho5' hb5 HB5 hs5
    refine (reftext_any v7 key w7 hby7 (by have := HKL.out; omega)).mono ?_
    rintro e w8 ⟨v8, rfl, ho8, hb8'⟩
    have hb7 := hb6.trans (hb7'.mono hb6.size)
    have hb8 := hb7.trans (hb8'.mono hb7.size)
    have ho68 : Own w0.heap.size w8 v6 P := (ho6'.below hb7').below hb8'
    have hl9 : P.length + (tx key).length ≤ 140737488355328 := by
      have := HKL.out
      have := dg_len10 (n := key.length) (by omega)
      have := HPL.out
      rw [tx_len]
      omega
    clear hcv7 hby7 d2 d5 ho6'
    go_wp2_with (at_builtin; refine wpList_append_byt rfl (.tmp 33) (.tmp 37) rfl rfl rfl ho68 ho8.byt hl9 hb8.size ?_; intro v9 w9 ho9 hg9 hv9; have hb9 := hb8.grown hg9 hb8.size (fun q hq => (World.ownsRow.lt ho68 q hq).1); have e2 := HC.out w9 hb9 2; have e6 := HC.out w9 hb9 6; simp at e2 e6; clear hg9 hv9)
    go_ret
    refine ⟨v9, rfl, ?_, hn0.trans (hb9.mono hn0.size)⟩
    rw [bytesT_three]
    rw [← HP.out] at ho9
    simp only [List.append_assoc] at ho9
    exact ho9.more (by have := HW.out; omega)
end Go.Proofs.YtefngncieagobaaDoor
