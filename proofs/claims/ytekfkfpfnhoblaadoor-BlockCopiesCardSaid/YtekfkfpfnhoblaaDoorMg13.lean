/-
  TxCodeRead TxCode BkCodeMay: what each of them says stands at its head.
-/
import Derived.Test.YtekfkfpfnhoblaaDoorMg12
import Derived.Test.YtekfkfpfnhoblaaDoorMg10
import Derived.Test.YtekfkfpfnhoblaaDoorMg9
/-
  tx.Read: the transaction whose bytes are read next.
-/
namespace Go.Proofs.YtekfkfpfnhoblaaDoor
set_option maxRecDepth 20000
open Go.RowKit

theorem grown_setNew {w0 w : World} {row : Option Nat} (h : w0.grownBy w row) (a : Addr) (u : Value) (ha : w0.heap.size ≤ a.block) : w0.grownBy (w.setCell a u) row :=
  ⟨h.os, h.tape, h.output, by simpa using h.size, fun k hk hr => (Below.heap_setCell w a u k (fun e => by omega)).trans (h.block k hk hr)⟩
theorem grown_thenBelow {w0 w w' : World} {row : Option Nat} (h : w0.grownBy w row) (hb : Below w.heap.size w w') : w0.grownBy w' row :=
  h.trans (grown_of_below hb row)
/-- One result that lies in memory, and one that doesn't. -/
theorem results_tb {fn : Func} {q s : Tmp} (h : fn.results = #[.cell q 45, .tmp s]) (tmps : Array Value) (w : World) (g2 : Nat) (t2 : TypeId) (ys : Array Value) (v : Value)
    (hq : tmps.getD q undef = .pointer (some ⟨g2, 0, none⟩)) (hv : tmps.getD s undef = v) (h2 : w.heap[g2]? = some (.cells ys t2 (0, 0))) (hy : ys.size = 7) :
    (results fn tmps).run Tryd.prog w = .ok (.tuple #[.agg ys, v]) w := by
  have hq' : tmps[q]?.getD undef = .pointer (some ⟨g2, 0, none⟩) := by simpa using hq
  have hv' : tmps[s]?.getD undef = v := by simpa using hv
  have r2 := run_loadVar_row (P := Tryd.prog) w g2 t2 45 ys (0, 0) _ h2 under_tx rfl (by rw [size_tx, hy])
  simp [results, h, hq', hv', asAddr, r2]
/-- Blocks b, b + 1: the result yet nought, the transaction t; block g: the reader. -/
structure QSt (w0 w : World) (g : Nat) (l : List UInt8) (p : Nat) (r : Bool) (t : Array Value) : Prop where
  lt : g < w0.heap.size
  gr : w0.grownBy w (some g)
  rd : Rdr w g l p r
  b0 : w.heap[w0.heap.size]? = some (.cells zeroTx 45 (0, 0))
  b1 : w.heap[w0.heap.size + 1]? = some (.cells t 45 (0, 0))
section
variable {w0 w w' : World} {g : Nat} {l : List UInt8} {p : Nat} {r : Bool} {t : Array Value}
theorem QSt.new (h : Rdr w0 g l p r) : QSt w0 ((w0.alloc (.cells zeroTx 45)).alloc (.cells zeroTx 45)) g l p r zeroTx := by
  have hb : Below w0.heap.size w0 ((w0.alloc (.cells zeroTx 45)).alloc (.cells zeroTx 45)) := ((Below.refl _ _).alloc (Nat.le_refl _) _).alloc (by simp) _
  exact ⟨h.lt, grown_of_below hb _, h.below hb, heap1 w0 _ _, heap_alloc2_new w0 _ _⟩
theorem QSt.grow (h : QSt w0 w g l p r t) {p' : Nat} {r' : Bool} (hr : Rdr w' g l p' r') (hg : w.grownBy w' (some g)) : QSt w0 w' g l p' r' t := by
  have h0 := lt_of_block h.b0
  have h1 := lt_of_block h.b1
  have hlt := h.lt
  exact ⟨hlt, h.gr.trans hg, hr, (hg.block _ h0 (fun e => by injection e with e; omega)).trans h.b0, (hg.block _ h1 (fun e => by injection e with e; omega)).trans h.b1⟩
theorem QSt.below (h : QSt w0 w g l p r t) (hb : Below w.heap.size w w') : QSt w0 w' g l p r t := h.grow (h.rd.below hb) (grown_of_below hb _)
theorem QSt.set (h : QSt w0 w g l p r t) (i : Nat) (u : Value) : QSt w0 (w.setCell ⟨w0.heap.size + 1, i, none⟩ u) g l p r (t.setIfInBounds i u) := by
  have hlt := h.lt
  exact ⟨hlt, grown_setNew h.gr _ _ (Nat.le_succ _), h.rd.apart (grown_set _ _ _ _) h.b1 (by decide) (by omega), blk_other h.b0 u (by omega), set_blk h.b1 i u⟩
theorem QSt.cells {t0 t1 t2 t3 t4 t5 t6 : Value} (h : QSt w0 w g l p r #[t0, t1, t2, t3, t4, t5, t6]) :
    (w.cell? ⟨w0.heap.size + 1, 0, none⟩ = some t0 ∧ w.cell? ⟨w0.heap.size + 1, 1, none⟩ = some t1 ∧ w.cell? ⟨w0.heap.size + 1, 2, none⟩ = some t2 ∧ w.cell? ⟨w0.heap.size + 1, 3, none⟩ = some t3 ∧ w.cell? ⟨w0.heap.size + 1, 4, none⟩ = some t4 ∧ w.cell? ⟨w0.heap.size + 1, 5, none⟩ = some t5 ∧ w.cell? ⟨w0.heap.size + 1, 6, none⟩ = some t6) ∧
    (∀ i, w.frozen? ⟨w0.heap.size, i, none⟩ = false) ∧ (∀ i, w.frozen? ⟨w0.heap.size + 1, i, none⟩ = false) :=
  ⟨⟨cell_blk h.b1 0, cell_blk h.b1 1, cell_blk h.b1 2, cell_blk h.b1 3, cell_blk h.b1 4, cell_blk h.b1 5, cell_blk h.b1 6⟩, free_blk h.b0, free_blk h.b1⟩
theorem QSt.cells2 (h : QSt w0 w g l p r t) : w.cell? ⟨w0.heap.size, 0, none⟩ = some (.int .i64 0) ∧ w.cell? ⟨w0.heap.size, 1, none⟩ = some (.int .i64 0) ∧ w.cell? ⟨w0.heap.size, 2, none⟩ = some (.int .i64 0) ∧ w.cell? ⟨w0.heap.size, 3, none⟩ = some (.int .i64 0) ∧ w.cell? ⟨w0.heap.size, 4, none⟩ = some (.int .i64 0) ∧ w.cell? ⟨w0.heap.size, 5, none⟩ = some (.string { data := #[] }) ∧ w.cell? ⟨w0.heap.size, 6, none⟩ = some (.string { data := #[] }) :=
  ⟨cell_blk h.b0 0, cell_blk h.b0 1, cell_blk h.b0 2, cell_blk h.b0 3, cell_blk h.b0 4, cell_blk h.b0 5, cell_blk h.b0 6⟩
theorem QSt.fin (h : QSt w0 w g l p r t) (u0 u1 u2 u3 u4 u5 u6 : Value) :
    (((((((w.setCell ⟨w0.heap.size, 0, none⟩ u0).setCell ⟨w0.heap.size, 1, none⟩ u1).setCell ⟨w0.heap.size, 2, none⟩ u2).setCell ⟨w0.heap.size, 3, none⟩ u3).setCell ⟨w0.heap.size, 4, none⟩ u4).setCell ⟨w0.heap.size, 5, none⟩ u5).setCell ⟨w0.heap.size, 6, none⟩ u6).heap[w0.heap.size]? = some (.cells #[u0, u1, u2, u3, u4, u5, u6] 45 (0, 0)) ∧
    Rdr (((((((w.setCell ⟨w0.heap.size, 0, none⟩ u0).setCell ⟨w0.heap.size, 1, none⟩ u1).setCell ⟨w0.heap.size, 2, none⟩ u2).setCell ⟨w0.heap.size, 3, none⟩ u3).setCell ⟨w0.heap.size, 4, none⟩ u4).setCell ⟨w0.heap.size, 5, none⟩ u5).setCell ⟨w0.heap.size, 6, none⟩ u6) g l p r ∧
    w0.grownBy (((((((w.setCell ⟨w0.heap.size, 0, none⟩ u0).setCell ⟨w0.heap.size, 1, none⟩ u1).setCell ⟨w0.heap.size, 2, none⟩ u2).setCell ⟨w0.heap.size, 3, none⟩ u3).setCell ⟨w0.heap.size, 4, none⟩ u4).setCell ⟨w0.heap.size, 5, none⟩ u5).setCell ⟨w0.heap.size, 6, none⟩ u6) (some g) := by
  have hlt := h.lt
  have k := fun (W : World) (C : Array Value) (hW : W.heap[w0.heap.size]? = some (.cells C 45 (0, 0))) (hR : Rdr W g l p r) (hG : w0.grownBy W (some g)) (i : Nat) (u : Value) =>
    (show (W.setCell ⟨w0.heap.size, i, none⟩ u).heap[w0.heap.size]? = some (.cells (C.setIfInBounds i u) 45 (0, 0)) ∧ Rdr (W.setCell ⟨w0.heap.size, i, none⟩ u) g l p r ∧ w0.grownBy (W.setCell ⟨w0.heap.size, i, none⟩ u) (some g) from
      ⟨set_blk hW i u, hR.apart (grown_set _ _ _ _) hW (by decide) (by omega), grown_setNew hG _ _ (Nat.le_refl _)⟩)
  obtain ⟨a1, a2, a3⟩ := k w zeroTx h.b0 h.rd h.gr 0 u0
  obtain ⟨a1, a2, a3⟩ := k _ _ a1 a2 a3 1 u1
  obtain ⟨a1, a2, a3⟩ := k _ _ a1 a2 a3 2 u2
  obtain ⟨a1, a2, a3⟩ := k _ _ a1 a2 a3 3 u3
  obtain ⟨a1, a2, a3⟩ := k _ _ a1 a2 a3 4 u4
  obtain ⟨a1, a2, a3⟩ := k _ _ a1 a2 a3 5 u5
  exact k _ _ a1 a2 a3 6 u6
end

set_option maxHeartbeats 6400000 in
theorem txRead_ok : TxReadOk := by
  intro g l p r w hr hl
  have HU := hid (fun p r W (h : Rdr W g l p r) m (h1 : -9223372036854775808 ≤ m) (h2 : m ≤ 9223372036854775807) => upto_any g l p r m W h (by omega) h1 h2)
  have HT := hid (fun p r W (h : Rdr W g l p r) => rtext_any g l p r W h (by omega))
  have HWR := hid (fun p r W (h : Rdr W g l p r) => wrong_any g l p r W h)
  have hst0 := QSt.new hr
  unfold zeroTx at hst0
  clear hr hl
  go_enter Tryd.func55, Tryd.ntmps55
  go_wp2_with fail
  obtain ⟨a1, p1, r1, HA1⟩ : ∃ x q s, Hid (rdUpto 40 l p r = (x, q, s)) := ⟨_, _, _, hid rfl⟩
  have hm1 : a1 ≤ 40 := by have := rdUpto_le (m := 40) (l := l) (p := p) (r := r); rw [show ((40 : Nat) : Int) = 40 from rfl, HA1.out] at this; exact this
  have C := HU.out p r _ (hst0).rd 40 (by omega) (by omega)
  rw [HA1.out] at C
  refine C.mono ?_
  clear C
  rintro e w1 ⟨rfl, hrd, hgr⟩
  have hst : QSt w w1 g l p1 r1 #[.int .i64 0, .int .i64 0, .int .i64 0, .int .i64 0, .int .i64 0, .string { data := #[] }, .string { data := #[] }] := (hst0).grow hrd hgr
  clear hrd hgr hst0
  obtain ⟨⟨c0, c1, c2, c3, c4, c5, c6⟩, g0, g1⟩ := hst.cells
  have HST := hid hst
  clear hst
  go_wp2_with fail
  obtain ⟨a2, p2, r2, HA2⟩ : ∃ x q s, Hid (rdUpto 1099511627776 l p1 r1 = (x, q, s)) := ⟨_, _, _, hid rfl⟩
  have hm2 : a2 ≤ 1099511627776 := by have := rdUpto_le (m := 1099511627776) (l := l) (p := p1) (r := r1); rw [show ((1099511627776 : Nat) : Int) = 1099511627776 from rfl, HA2.out] at this; exact this
  have C := HU.out p1 r1 _ (HST.out.set 0 (.int .i64 (a1 : Int))).rd 1099511627776 (by omega) (by omega)
  rw [HA2.out] at C
  refine C.mono ?_
  clear C
  rintro e w2 ⟨rfl, hrd, hgr⟩
  have hst : QSt w w2 g l p2 r2 #[.int .i64 (a1 : Int), .int .i64 0, .int .i64 0, .int .i64 0, .int .i64 0, .string { data := #[] }, .string { data := #[] }] := (HST.out.set 0 (.int .i64 (a1 : Int))).grow hrd hgr
  clear hrd hgr HST c0 c1 c2 c3 c4 c5 c6 g0 g1
  obtain ⟨⟨c0, c1, c2, c3, c4, c5, c6⟩, g0, g1⟩ := hst.cells
  have HST := hid hst
  clear hst
  go_wp2_with fail
  obtain ⟨a3, p3, r3, HA3⟩ : ∃ x q s, Hid (rdUpto 3 l p2 r2 = (x, q, s)) := ⟨_, _, _, hid rfl⟩
  have hm3 : a3 ≤ 3 := by have := rdUpto_le (m := 3) (l := l) (p := p2) (r := r2); rw [show ((3 : Nat) : Int) = 3 from rfl, HA3.out] at this; exact this
  have C := HU.out p2 r2 _ (HST.out.set 1 (.int .i64 (a2 : Int))).rd 3 (by omega) (by omega)
  rw [HA3.out] at C
  refine C.mono ?_
  clear C
  rintro e w3 ⟨rfl, hrd, hgr⟩
  have hst : QSt w w3 g l p3 r3 #[.int .i64 (a1 : Int), .int .i64 (a2 : Int), .int .i64 0, .int .i64 0, .int .i64 0, .string { data := #[] }, .string { data := #[] }] := (HST.out.set 1 (.int .i64 (a2 : Int))).grow hrd hgr
  clear hrd hgr HST c0 c1 c2 c3 c4 c5 c6 g0 g1
  obtain ⟨⟨c0, c1, c2, c3, c4, c5, c6⟩, g0, g1⟩ := hst.cells
  have HST := hid hst
  clear hst
  have HPp3 : Hid (p3 ≤ l.length) := hid HST.out.rd.le
  obtain ha3 | ha3 | ha3 | ha3 : a3 = 0 ∨ a3 = 1 ∨ a3 = 2 ∨ a3 = 3 := by omega
  all_goals subst ha3
  · clear hm3
    have HRAW : Hid (rdRaw l p r = (⟨(a1 : Int), (a2 : Int), 0, 0, 0, [], []⟩, p3, r3)) := hid (by unfold rdRaw rdTail; simp [HA1.out, HA2.out, HA3.out])
    go_upto_region 14 with (fail)
    have hst : QSt w (w3.setCell ⟨w.heap.size + 1, 2, none⟩ (.int .i64 0)) g l p3 r3 #[.int .i64 (a1 : Int), .int .i64 (a2 : Int), .int .i64 0, .int .i64 0, .int .i64 0, .string { data := #[] }, .string { data := #[] }] := HST.out.set 2 (.int .i64 0)
    generalize (w3.setCell ⟨w.heap.size + 1, 2, none⟩ (.int .i64 0)) = wz at hst ⊢
    clear HST c0 c1 c2 c3 c4 c5 c6 g0 g1
    obtain ⟨⟨c0, c1, c2, c3, c4, c5, c6⟩, g0, g1⟩ := hst.cells
    have HST := hid hst
    clear hst
    have hz := HST.out.cells2
    obtain ⟨z0, z1, z2, z3, z4, z5, z6⟩ := hz
    go_wp2_with fail
    refine (HWR.out p3 r3 wz HST.out.rd).mono ?_
    rintro e wy ⟨rfl, rfl⟩
    cases r3 with
    | false =>
      have hI : rdIs l p r = false := by unfold rdIs; rw [HRAW.out]; rfl
      go_wp2_with fail
      have hfin := HST.out.fin (.int .i64 0) (.int .i64 0) (.int .i64 0) (.int .i64 0) (.int .i64 0) (.string { data := #[] }) (.string { data := #[] })
      refine bodyPost_ret (results_tb rfl _ _ _ _ _ _ rfl rfl hfin.1 rfl) rfl ⟨?_, ⟨_, _, hfin.2.1, ?_⟩, hfin.2.2⟩
      · unfold rdTx
        rw [hI, if_neg (by decide)]
        rfl
      · rw [hI]
        intro h
        cases h
    | true =>
      go_wp2_with fail
      refine (txCheck_any ⟨(a1 : Int), (a2 : Int), 0, 0, 0, [], []⟩ wz (Nat.zero_le _) (Nat.zero_le _)).mono ?_
      rintro e wy ⟨rfl, hb⟩
      have hst := HST.out.below hb
      clear hb HST c0 c1 c2 c3 c4 c5 c6 g0 g1 z0 z1 z2 z3 z4 z5 z6
      obtain ⟨⟨c0, c1, c2, c3, c4, c5, c6⟩, g0, g1⟩ := hst.cells
      have HST := hid hst
      clear hst
      have hz := HST.out.cells2
      obtain ⟨z0, z1, z2, z3, z4, z5, z6⟩ := hz
      obtain ⟨m, HM⟩ : ∃ m : Bool, Hid (mayT ⟨(a1 : Int), (a2 : Int), 0, 0, 0, [], []⟩ = m) := ⟨_, hid rfl⟩
      rw [HM.out]
      have hI : rdIs l p r = m := by unfold rdIs; rw [HRAW.out]; exact HM.out
      cases m with
      | false =>
        go_wp2_with fail
        have hfin := HST.out.fin (.int .i64 0) (.int .i64 0) (.int .i64 0) (.int .i64 0) (.int .i64 0) (.string { data := #[] }) (.string { data := #[] })
        refine bodyPost_ret (results_tb rfl _ _ _ _ _ _ rfl rfl hfin.1 rfl) rfl ⟨?_, ⟨_, _, hfin.2.1, ?_⟩, hfin.2.2⟩
        · unfold rdTx
          rw [hI, if_neg (by decide)]
          rfl
        · rw [hI]
          intro h
          cases h
      | true =>
        go_wp2_with fail
        have hfin := HST.out.fin (.int .i64 (a1 : Int)) (.int .i64 (a2 : Int)) (.int .i64 0) (.int .i64 0) (.int .i64 0) (.string { data := #[] }) (.string { data := #[] })
        refine bodyPost_ret (results_tb rfl _ _ _ _ _ _ rfl rfl hfin.1 rfl) rfl ⟨?_, ⟨_, _, hfin.2.1, ?_⟩, hfin.2.2⟩
        · unfold rdTx
          rw [hI, if_pos rfl, HRAW.out]
          rfl
        · rw [HRAW.out]
          intro _
          exact ⟨rfl, rfl⟩
  · clear hm3
    go_wp2_with fail
    obtain ⟨a4, p4, r4, HA4⟩ : ∃ x q s, Hid (rdUpto 40 l p3 r3 = (x, q, s)) := ⟨_, _, _, hid rfl⟩
    have hm4 : a4 ≤ 40 := by have := rdUpto_le (m := 40) (l := l) (p := p3) (r := r3); rw [show ((40 : Nat) : Int) = 40 from rfl, HA4.out] at this; exact this
    have C := HU.out p3 r3 _ (HST.out.set 2 (.int .i64 1)).rd 40 (by omega) (by omega)
    rw [HA4.out] at C
    refine C.mono ?_
    clear C
    rintro e w4 ⟨rfl, hrd, hgr⟩
    have hst : QSt w w4 g l p4 r4 #[.int .i64 (a1 : Int), .int .i64 (a2 : Int), .int .i64 1, .int .i64 0, .int .i64 0, .string { data := #[] }, .string { data := #[] }] := (HST.out.set 2 (.int .i64 1)).grow hrd hgr
    clear hrd hgr HST c0 c1 c2 c3 c4 c5 c6 g0 g1
    obtain ⟨⟨c0, c1, c2, c3, c4, c5, c6⟩, g0, g1⟩ := hst.cells
    have HST := hid hst
    clear hst
    go_wp2_with fail
    obtain ⟨a5, p5, r5, HA5⟩ : ∃ x q s, Hid (rdUpto 1099511627776 l p4 r4 = (x, q, s)) := ⟨_, _, _, hid rfl⟩
    have hm5 : a5 ≤ 1099511627776 := by have := rdUpto_le (m := 1099511627776) (l := l) (p := p4) (r := r4); rw [show ((1099511627776 : Nat) : Int) = 1099511627776 from rfl, HA5.out] at this; exact this
    have C := HU.out p4 r4 _ (HST.out.set 3 (.int .i64 (a4 : Int))).rd 1099511627776 (by omega) (by omega)
    rw [HA5.out] at C
    refine C.mono ?_
    clear C
    rintro e w5 ⟨rfl, hrd, hgr⟩
    have hst : QSt w w5 g l p5 r5 #[.int .i64 (a1 : Int), .int .i64 (a2 : Int), .int .i64 1, .int .i64 (a4 : Int), .int .i64 0, .string { data := #[] }, .string { data := #[] }] := (HST.out.set 3 (.int .i64 (a4 : Int))).grow hrd hgr
    clear hrd hgr HST c0 c1 c2 c3 c4 c5 c6 g0 g1
    obtain ⟨⟨c0, c1, c2, c3, c4, c5, c6⟩, g0, g1⟩ := hst.cells
    have HST := hid hst
    clear hst
    have HRAW : Hid (rdRaw l p r = (⟨(a1 : Int), (a2 : Int), 1, (a4 : Int), (a5 : Int), [], []⟩, p5, r5)) := hid (by unfold rdRaw rdTail; simp [HA1.out, HA2.out, HA3.out, HA4.out, HA5.out])
    go_upto_region 14 with (fail)
    have hst : QSt w (w5.setCell ⟨w.heap.size + 1, 4, none⟩ (.int .i64 (a5 : Int))) g l p5 r5 #[.int .i64 (a1 : Int), .int .i64 (a2 : Int), .int .i64 1, .int .i64 (a4 : Int), .int .i64 (a5 : Int), .string { data := #[] }, .string { data := #[] }] := HST.out.set 4 (.int .i64 (a5 : Int))
    generalize (w5.setCell ⟨w.heap.size + 1, 4, none⟩ (.int .i64 (a5 : Int))) = wz at hst ⊢
    clear HST c0 c1 c2 c3 c4 c5 c6 g0 g1
    obtain ⟨⟨c0, c1, c2, c3, c4, c5, c6⟩, g0, g1⟩ := hst.cells
    have HST := hid hst
    clear hst
    have hz := HST.out.cells2
    obtain ⟨z0, z1, z2, z3, z4, z5, z6⟩ := hz
    go_wp2_with fail
    refine (HWR.out p5 r5 wz HST.out.rd).mono ?_
    rintro e wy ⟨rfl, rfl⟩
    cases r5 with
    | false =>
      have hI : rdIs l p r = false := by unfold rdIs; rw [HRAW.out]; rfl
      go_wp2_with fail
      have hfin := HST.out.fin (.int .i64 0) (.int .i64 0) (.int .i64 0) (.int .i64 0) (.int .i64 0) (.string { data := #[] }) (.string { data := #[] })
      refine bodyPost_ret (results_tb rfl _ _ _ _ _ _ rfl rfl hfin.1 rfl) rfl ⟨?_, ⟨_, _, hfin.2.1, ?_⟩, hfin.2.2⟩
      · unfold rdTx
        rw [hI, if_neg (by decide)]
        rfl
      · rw [hI]
        intro h
        cases h
    | true =>
      go_wp2_with fail
      refine (txCheck_any ⟨(a1 : Int), (a2 : Int), 1, (a4 : Int), (a5 : Int), [], []⟩ wz (Nat.zero_le _) (Nat.zero_le _)).mono ?_
      rintro e wy ⟨rfl, hb⟩
      have hst := HST.out.below hb
      clear hb HST c0 c1 c2 c3 c4 c5 c6 g0 g1 z0 z1 z2 z3 z4 z5 z6
      obtain ⟨⟨c0, c1, c2, c3, c4, c5, c6⟩, g0, g1⟩ := hst.cells
      have HST := hid hst
      clear hst
      have hz := HST.out.cells2
      obtain ⟨z0, z1, z2, z3, z4, z5, z6⟩ := hz
      obtain ⟨m, HM⟩ : ∃ m : Bool, Hid (mayT ⟨(a1 : Int), (a2 : Int), 1, (a4 : Int), (a5 : Int), [], []⟩ = m) := ⟨_, hid rfl⟩
      rw [HM.out]
      have hI : rdIs l p r = m := by unfold rdIs; rw [HRAW.out]; exact HM.out
      cases m with
      | false =>
        go_wp2_with fail
        have hfin := HST.out.fin (.int .i64 0) (.int .i64 0) (.int .i64 0) (.int .i64 0) (.int .i64 0) (.string { data := #[] }) (.string { data := #[] })
        refine bodyPost_ret (results_tb rfl _ _ _ _ _ _ rfl rfl hfin.1 rfl) rfl ⟨?_, ⟨_, _, hfin.2.1, ?_⟩, hfin.2.2⟩
        · unfold rdTx
          rw [hI, if_neg (by decide)]
          rfl
        · rw [hI]
          intro h
          cases h
      | true =>
        go_wp2_with fail
        have hfin := HST.out.fin (.int .i64 (a1 : Int)) (.int .i64 (a2 : Int)) (.int .i64 1) (.int .i64 (a4 : Int)) (.int .i64 (a5 : Int)) (.string { data := #[] }) (.string { data := #[] })
        refine bodyPost_ret (results_tb rfl _ _ _ _ _ _ rfl rfl hfin.1 rfl) rfl ⟨?_, ⟨_, _, hfin.2.1, ?_⟩, hfin.2.2⟩
        · unfold rdTx
          rw [hI, if_pos rfl, HRAW.out]
          rfl
        · rw [HRAW.out]
          intro _
          exact ⟨rfl, rfl⟩
  · clear hm3
    go_wp2_with fail
    obtain ⟨k4, p4, r4, HA4⟩ : ∃ x q s, Hid (rdText l p3 r3 = (x, q, s)) := ⟨_, _, _, hid rfl⟩
    have hm4 : k4.length ≤ 65536 := by have := (rdText_pl (l := l) (r := r3) HPp3.out).2; rw [HA4.out] at this; exact this
    have HPp4 : Hid (p4 ≤ l.length) := hid (by have := (rdText_pl (l := l) (r := r3) HPp3.out).1; rw [HA4.out] at this; exact this)
    have C := HT.out p3 r3 _ (HST.out.set 2 (.int .i64 2)).rd
    rw [HA4.out] at C
    refine C.mono ?_
    clear C
    rintro e w4 ⟨v4, rfl, ho, hrd, hgr⟩
    have hcv4 := run_sb ho.byt
    simp only at hcv4
    have hst : QSt w w4 g l p4 r4 #[.int .i64 (a1 : Int), .int .i64 (a2 : Int), .int .i64 2, .int .i64 0, .int .i64 0, .string { data := #[] }, .string { data := #[] }] := (HST.out.set 2 (.int .i64 2)).grow hrd hgr
    clear ho hrd hgr HST c0 c1 c2 c3 c4 c5 c6 g0 g1
    obtain ⟨⟨c0, c1, c2, c3, c4, c5, c6⟩, g0, g1⟩ := hst.cells
    have HST := hid hst
    clear hst
    go_wp2_with fail
    obtain ⟨k5, p5, r5, HA5⟩ : ∃ x q s, Hid (rdText l p4 r4 = (x, q, s)) := ⟨_, _, _, hid rfl⟩
    have hm5 : k5.length ≤ 65536 := by have := (rdText_pl (l := l) (r := r4) HPp4.out).2; rw [HA5.out] at this; exact this
    have HPp5 : Hid (p5 ≤ l.length) := hid (by have := (rdText_pl (l := l) (r := r4) HPp4.out).1; rw [HA5.out] at this; exact this)
    have C := HT.out p4 r4 _ (HST.out.set 5 (.string (sb k4))).rd
    rw [HA5.out] at C
    refine C.mono ?_
    clear C
    rintro e w5 ⟨v5, rfl, ho, hrd, hgr⟩
    have hcv5 := run_sb ho.byt
    simp only at hcv5
    have hst : QSt w w5 g l p5 r5 #[.int .i64 (a1 : Int), .int .i64 (a2 : Int), .int .i64 2, .int .i64 0, .int .i64 0, .string (sb k4), .string { data := #[] }] := (HST.out.set 5 (.string (sb k4))).grow hrd hgr
    clear ho hrd hgr HST c0 c1 c2 c3 c4 c5 c6 g0 g1
    obtain ⟨⟨c0, c1, c2, c3, c4, c5, c6⟩, g0, g1⟩ := hst.cells
    have HST := hid hst
    clear hst
    clear hcv4
    have HRAW : Hid (rdRaw l p r = (⟨(a1 : Int), (a2 : Int), 2, 0, 0, k4, k5⟩, p5, r5)) := hid (by unfold rdRaw rdTail; simp [HA1.out, HA2.out, HA3.out, HA4.out, HA5.out])
    go_upto_region 14 with (fail)
    have hst : QSt w (w5.setCell ⟨w.heap.size + 1, 6, none⟩ (.string (sb k5))) g l p5 r5 #[.int .i64 (a1 : Int), .int .i64 (a2 : Int), .int .i64 2, .int .i64 0, .int .i64 0, .string (sb k4), .string (sb k5)] := HST.out.set 6 (.string (sb k5))
    generalize (w5.setCell ⟨w.heap.size + 1, 6, none⟩ (.string (sb k5))) = wz at hst ⊢
    clear HST c0 c1 c2 c3 c4 c5 c6 g0 g1
    obtain ⟨⟨c0, c1, c2, c3, c4, c5, c6⟩, g0, g1⟩ := hst.cells
    have HST := hid hst
    clear hst
    have hz := HST.out.cells2
    obtain ⟨z0, z1, z2, z3, z4, z5, z6⟩ := hz
    go_wp2_with fail
    refine (HWR.out p5 r5 wz HST.out.rd).mono ?_
    rintro e wy ⟨rfl, rfl⟩
    cases r5 with
    | false =>
      have hI : rdIs l p r = false := by unfold rdIs; rw [HRAW.out]; rfl
      go_wp2_with fail
      have hfin := HST.out.fin (.int .i64 0) (.int .i64 0) (.int .i64 0) (.int .i64 0) (.int .i64 0) (.string { data := #[] }) (.string { data := #[] })
      refine bodyPost_ret (results_tb rfl _ _ _ _ _ _ rfl rfl hfin.1 rfl) rfl ⟨?_, ⟨_, _, hfin.2.1, ?_⟩, hfin.2.2⟩
      · unfold rdTx
        rw [hI, if_neg (by decide)]
        rfl
      · rw [hI]
        intro h
        cases h
    | true =>
      go_wp2_with fail
      refine (txCheck_any ⟨(a1 : Int), (a2 : Int), 2, 0, 0, k4, k5⟩ wz (show k4.length ≤ 1000000 by omega) (show k5.length ≤ 1000000 by omega)).mono ?_
      rintro e wy ⟨rfl, hb⟩
      have hst := HST.out.below hb
      clear hb HST c0 c1 c2 c3 c4 c5 c6 g0 g1 z0 z1 z2 z3 z4 z5 z6
      obtain ⟨⟨c0, c1, c2, c3, c4, c5, c6⟩, g0, g1⟩ := hst.cells
      have HST := hid hst
      clear hst
      have hz := HST.out.cells2
      obtain ⟨z0, z1, z2, z3, z4, z5, z6⟩ := hz
      obtain ⟨m, HM⟩ : ∃ m : Bool, Hid (mayT ⟨(a1 : Int), (a2 : Int), 2, 0, 0, k4, k5⟩ = m) := ⟨_, hid rfl⟩
      rw [HM.out]
      have hI : rdIs l p r = m := by unfold rdIs; rw [HRAW.out]; exact HM.out
      cases m with
      | false =>
        go_wp2_with fail
        have hfin := HST.out.fin (.int .i64 0) (.int .i64 0) (.int .i64 0) (.int .i64 0) (.int .i64 0) (.string { data := #[] }) (.string { data := #[] })
        refine bodyPost_ret (results_tb rfl _ _ _ _ _ _ rfl rfl hfin.1 rfl) rfl ⟨?_, ⟨_, _, hfin.2.1, ?_⟩, hfin.2.2⟩
        · unfold rdTx
          rw [hI, if_neg (by decide)]
          rfl
        · rw [hI]
          intro h
          cases h
      | true =>
        go_wp2_with fail
        have hfin := HST.out.fin (.int .i64 (a1 : Int)) (.int .i64 (a2 : Int)) (.int .i64 2) (.int .i64 0) (.int .i64 0) (.string (sb k4)) (.string (sb k5))
        refine bodyPost_ret (results_tb rfl _ _ _ _ _ _ rfl rfl hfin.1 rfl) rfl ⟨?_, ⟨_, _, hfin.2.1, ?_⟩, hfin.2.2⟩
        · unfold rdTx
          rw [hI, if_pos rfl, HRAW.out]
          rfl
        · rw [HRAW.out]
          intro _
          exact ⟨rfl, rfl⟩
  · clear hm3
    go_wp2_with fail
    obtain ⟨k4, p4, r4, HA4⟩ : ∃ x q s, Hid (rdText l p3 r3 = (x, q, s)) := ⟨_, _, _, hid rfl⟩
    have hm4 : k4.length ≤ 65536 := by have := (rdText_pl (l := l) (r := r3) HPp3.out).2; rw [HA4.out] at this; exact this
    have HPp4 : Hid (p4 ≤ l.length) := hid (by have := (rdText_pl (l := l) (r := r3) HPp3.out).1; rw [HA4.out] at this; exact this)
    have C := HT.out p3 r3 _ (HST.out.set 2 (.int .i64 3)).rd
    rw [HA4.out] at C
    refine C.mono ?_
    clear C
    rintro e w4 ⟨v4, rfl, ho, hrd, hgr⟩
    have hcv4 := run_sb ho.byt
    simp only at hcv4
    have hst : QSt w w4 g l p4 r4 #[.int .i64 (a1 : Int), .int .i64 (a2 : Int), .int .i64 3, .int .i64 0, .int .i64 0, .string { data := #[] }, .string { data := #[] }] := (HST.out.set 2 (.int .i64 3)).grow hrd hgr
    clear ho hrd hgr HST c0 c1 c2 c3 c4 c5 c6 g0 g1
    obtain ⟨⟨c0, c1, c2, c3, c4, c5, c6⟩, g0, g1⟩ := hst.cells
    have HST := hid hst
    clear hst
    have HRAW : Hid (rdRaw l p r = (⟨(a1 : Int), (a2 : Int), 3, 0, 0, k4, []⟩, p4, r4)) := hid (by unfold rdRaw rdTail; simp [HA1.out, HA2.out, HA3.out, HA4.out])
    go_upto_region 14 with (fail)
    have hst : QSt w (w4.setCell ⟨w.heap.size + 1, 5, none⟩ (.string (sb k4))) g l p4 r4 #[.int .i64 (a1 : Int), .int .i64 (a2 : Int), .int .i64 3, .int .i64 0, .int .i64 0, .string (sb k4), .string { data := #[] }] := HST.out.set 5 (.string (sb k4))
    generalize (w4.setCell ⟨w.heap.size + 1, 5, none⟩ (.string (sb k4))) = wz at hst ⊢
    clear HST c0 c1 c2 c3 c4 c5 c6 g0 g1
    obtain ⟨⟨c0, c1, c2, c3, c4, c5, c6⟩, g0, g1⟩ := hst.cells
    have HST := hid hst
    clear hst
    have hz := HST.out.cells2
    obtain ⟨z0, z1, z2, z3, z4, z5, z6⟩ := hz
    go_wp2_with fail
    refine (HWR.out p4 r4 wz HST.out.rd).mono ?_
    rintro e wy ⟨rfl, rfl⟩
    cases r4 with
    | false =>
      have hI : rdIs l p r = false := by unfold rdIs; rw [HRAW.out]; rfl
      go_wp2_with fail
      have hfin := HST.out.fin (.int .i64 0) (.int .i64 0) (.int .i64 0) (.int .i64 0) (.int .i64 0) (.string { data := #[] }) (.string { data := #[] })
      refine bodyPost_ret (results_tb rfl _ _ _ _ _ _ rfl rfl hfin.1 rfl) rfl ⟨?_, ⟨_, _, hfin.2.1, ?_⟩, hfin.2.2⟩
      · unfold rdTx
        rw [hI, if_neg (by decide)]
        rfl
      · rw [hI]
        intro h
        cases h
    | true =>
      go_wp2_with fail
      refine (txCheck_any ⟨(a1 : Int), (a2 : Int), 3, 0, 0, k4, []⟩ wz (show k4.length ≤ 1000000 by omega) (Nat.zero_le _)).mono ?_
      rintro e wy ⟨rfl, hb⟩
      have hst := HST.out.below hb
      clear hb HST c0 c1 c2 c3 c4 c5 c6 g0 g1 z0 z1 z2 z3 z4 z5 z6
      obtain ⟨⟨c0, c1, c2, c3, c4, c5, c6⟩, g0, g1⟩ := hst.cells
      have HST := hid hst
      clear hst
      have hz := HST.out.cells2
      obtain ⟨z0, z1, z2, z3, z4, z5, z6⟩ := hz
      obtain ⟨m, HM⟩ : ∃ m : Bool, Hid (mayT ⟨(a1 : Int), (a2 : Int), 3, 0, 0, k4, []⟩ = m) := ⟨_, hid rfl⟩
      rw [HM.out]
      have hI : rdIs l p r = m := by unfold rdIs; rw [HRAW.out]; exact HM.out
      cases m with
      | false =>
        go_wp2_with fail
        have hfin := HST.out.fin (.int .i64 0) (.int .i64 0) (.int .i64 0) (.int .i64 0) (.int .i64 0) (.string { data := #[] }) (.string { data := #[] })
        refine bodyPost_ret (results_tb rfl _ _ _ _ _ _ rfl rfl hfin.1 rfl) rfl ⟨?_, ⟨_, _, hfin.2.1, ?_⟩, hfin.2.2⟩
        · unfold rdTx
          rw [hI, if_neg (by decide)]
          rfl
        · rw [hI]
          intro h
          cases h
      | true =>
        go_wp2_with fail
        have hfin := HST.out.fin (.int .i64 (a1 : Int)) (.int .i64 (a2 : Int)) (.int .i64 3) (.int .i64 0) (.int .i64 0) (.string (sb k4)) (.string { data := #[] })
        refine bodyPost_ret (results_tb rfl _ _ _ _ _ _ rfl rfl hfin.1 rfl) rfl ⟨?_, ⟨_, _, hfin.2.1, ?_⟩, hfin.2.2⟩
        · unfold rdTx
          rw [hI, if_pos rfl, HRAW.out]
          rfl
        · rw [HRAW.out]
          intro _
          exact ⟨rfl, rfl⟩
end Go.Proofs.YtekfkfpfnhoblaaDoor

/-
  What tx's functions tell: txLess_ok, txPut_ok, txRead_ok.
-/

/-
  block's functions: which blocks may be that are not the first one, Check.
-/
namespace Go.Proofs.YtekfkfpfnhoblaaDoor
set_option maxRecDepth 20000
open Go.RowKit
attribute [local go_sem ↓] exec_load_tx exec_load_bk

theorem bkWithin_any (n m : Int) (w : World) : Calls Tryd.prog 43 #[.int .i64 n, .int .i64 m] w fun e w' => e = .returned (.bool (decide (1 ≤ n) && decide (n ≤ m))) ∧ w = w' := by
  go_enter Tryd.func43, Tryd.ntmps43
  go_wp2_with fail
  all_goals
    go_ret
    refine ⟨congrArg (fun b => Ending.returned (Value.bool b)) ?_, rfl⟩
  all_goals grind

theorem bkWrong_any (t : TxM) (w : World) (hk : t.key.length ≤ 1000000) (hv : t.val.length ≤ 1000000) :
    Calls Tryd.prog 45 #[txv t] w fun e w' => e = .returned (.bool (!mayT t)) ∧ Below w.heap.size w w' := by
  have HCK := hid (fun w => txCheck_any t w hk hv)
  obtain ⟨m, HM⟩ : ∃ m : Bool, Hid (mayT t = m) := ⟨_, hid rfl⟩
  rw [HM.out] at HCK ⊢
  have hb0 : Below w.heap.size w (w.alloc (.cells (tcl t).toArray 45)) := (Below.refl _ _).alloc (Nat.le_refl _) _
  have l0 := loadTx_mid (w := w.alloc (.cells (tcl t).toArray 45)) (g := w.heap.size) (o := 0) (t := t) (fun j u hu => by
    rw [Nat.zero_add, cell_blk (heap_alloc_new w _) j]
    simpa using hu)
  obtain ⟨X, HX⟩ : ∃ C : Array Value, Hid ((tcl t).toArray = C) := ⟨_, hid rfl⟩
  rw [txv_tcl, HX.out] at l0 HCK ⊢
  rw [HX.out] at hb0
  clear hk hv
  go_enter Tryd.func45, Tryd.ntmps45
  go_wp2_with fail
  refine (HCK.out _).mono ?_
  rintro e w1 ⟨rfl, hb1⟩
  cases m
  all_goals
    go_wp2_with fail
    go_ret
    exact ⟨rfl, hb0.trans (hb1.mono hb0.size)⟩

set_option maxHeartbeats 1600000 in
theorem indexWrong_any (v : Value) (L : List TxM) (w0 : World) (hv : Txs w0 v L) (hlk : ∀ t ∈ L, t.key.length ≤ 1000000 ∧ t.val.length ≤ 1000000) :
    Calls Tryd.prog 65 #[v, .func (.func 45) #[] #[]] w0 fun e w' => ∃ k : Int, e = .returned (.int .i64 k) ∧ decide (0 ≤ k) = !L.all mayT ∧ Below w0.heap.size w0 w' := by
  obtain ⟨A, c, rfl⟩ := hv.shape
  obtain ⟨n, HN⟩ : ∃ n : Nat, Hid (L.length = n) := ⟨_, hid rfl⟩
  have hlen := hv.len
  unfold maxLen at hlen
  rw [HN.out] at hv hlen ⊢
  have HT := hid hv
  have HLK := hid hlk
  clear hv hlk
  go_enter Tryd.func65, Tryd.ntmps65
  go_wp2_with fail
  go_loopw [8] (fun si wr => ∃ i : Nat, i ≤ n ∧ si = .int .i64 i ∧ Hid (∀ j (h : j < L.length), j < i → mayT L[j] = true) ∧ Below w0.heap.size w0 wr) (fun si _ => n - (intOf si).toNat)
  case atStart => exact ⟨0, Nat.zero_le _, rfl, hid (fun j _ h => absurd h (by omega)), Below.refl _ _⟩
  case round =>
    obtain ⟨i, hi, rfl, HB, hbr⟩ := hrel
    by_cases hlt : i < n
    · have hil : i < L.length := by rw [HN.out]; exact hlt
      obtain ⟨ba, oa, rfl, hba, hcla⟩ := (HT.out.below hbr).at_.2.2.2 (by omega)
      have hI : (i : Int) < (n : Int) := by omega
      have l1 : loadTx (.pointer (some ⟨ba, oa + i * 7, none⟩)) wr = .ok (.value (txv L[i])) wr := loadTx_mid (hcla i hil)
      have HW : Hid (∀ W, Calls Tryd.prog 45 #[txv L[i]] W fun e w' => e = .returned (.bool (!mayT L[i])) ∧ Below W.heap.size W w') := hid (fun W => bkWrong_any _ W (HLK.out _ (List.getElem_mem hil)).1 (HLK.out _ (List.getElem_mem hil)).2)
      obtain ⟨X, HX⟩ : ∃ C : Array Value, Hid ((tcl L[i]).toArray = C) := ⟨_, hid rfl⟩
      obtain ⟨m, HM⟩ : ∃ q : Bool, Hid (mayT L[i] = q) := ⟨_, hid rfl⟩
      rw [txv_tcl, HX.out] at l1
      rw [txv_tcl, HX.out, HM.out] at HW
      clear hcla
      go_wp2_with fail
      refine (HW.out wr).mono ?_
      rintro e w2 ⟨rfl, hb2⟩
      have hbr2 := hbr.trans (hb2.mono hbr.size)
      clear l1
      cases m with
      | false =>
        go_wp2_with fail
        go_ret
        refine ⟨_, rfl, ?_, hbr2⟩
        have : L.all mayT = false := by
          rw [List.all_eq_false]
          exact ⟨_, List.getElem_mem hil, by simp [HM.out]⟩
        rw [this]
        exact decide_eq_true (by omega)
      | true =>
        go_wp2_with fail
        go_roundw
        case rel =>
          refine ⟨i + 1, by omega, by go_num, hid (fun j h hj => ?_), hbr2⟩
          by_cases hji : j < i
          · exact HB.out j h hji
          · obtain rfl : j = i := by omega
            exact HM.out
        case measure => simp [intOf]; omega
    · obtain rfl : i = n := by omega
      go_wp2_with fail
      go_ret
      refine ⟨_, rfl, ?_, hbr⟩
      have : L.all mayT = true := by
        rw [List.all_eq_true]
        intro t ht
        obtain ⟨j, hj, rfl⟩ := List.getElem_of_mem ht
        exact HB.out j hj (by have := HN.out; omega)
      rw [this]
      rfl

theorem containsWrong_any (v : Value) (L : List TxM) (w0 : World) (hv : Txs w0 v L) (hlk : ∀ t ∈ L, t.key.length ≤ 1000000 ∧ t.val.length ≤ 1000000) :
    Calls Tryd.prog 44 #[v, .func (.func 45) #[] #[]] w0 fun e w' => e = .returned (.bool (!L.all mayT)) ∧ Below w0.heap.size w0 w' := by
  have HI := hid (indexWrong_any v L w0 hv hlk)
  obtain ⟨A, c, rfl⟩ := hv.shape
  obtain ⟨m, HM⟩ : ∃ q : Bool, Hid ((!L.all mayT) = q) := ⟨_, hid rfl⟩
  rw [HM.out] at HI ⊢
  clear hv hlk
  go_enter Tryd.func44, Tryd.ntmps44
  go_wp2_with fail
  refine HI.out.mono ?_
  rintro e w1 ⟨k, rfl, hk, hb1⟩
  clear HM HI
  subst hk
  go_wp2_with fail
  all_goals
    go_ret
    exact ⟨rfl, hb1⟩

set_option maxHeartbeats 1600000 in
theorem bkIsLater_ok (v : Value) (b : BkM) (w : World) (hv : BkV w v b) (hlk : lightK b) :
    Calls Tryd.prog 25 #[v] w fun e w' => e = .returned (.bool (b.txs.all mayT && numsK b)) ∧ Below w.heap.size w w' := by
  obtain ⟨s, rfl, hp, ht⟩ := hv
  have hb0 : Below w.heap.size w (w.alloc (.cells (bkc b s) 26)) := (Below.refl _ _).alloc (Nat.le_refl _) _
  have hA := BoxK.new w b s
  have ht0 := ht.below hb0
  obtain ⟨A, c, rfl⟩ := ht.shape
  obtain ⟨L, HL⟩ : ∃ n : Nat, Hid (b.txs.length = n) := ⟨_, hid rfl⟩
  obtain ⟨C, HC⟩ : ∃ C : Array Value, Hid (bkc b (.slice A b.txs.length c) = C) := ⟨_, hid rfl⟩
  rw [HC.out]
  rw [HC.out] at hA hb0 ht0
  rw [HL.out] at hA ht0
  obtain ⟨ans, HAN⟩ : ∃ q : Bool, Hid ((b.txs.all mayT && numsK b) = q) := ⟨_, hid rfl⟩
  rw [HAN.out]
  clear ht
  go_enter Tryd.func25, Tryd.ntmps25
  go_upto_region 1 with (fail)
  generalize (w.alloc (.cells C 26)) = w0 at *
  obtain ⟨k1, k2, k3, k4⟩ := hA.cells hp
  clear hA
  obtain ⟨q1, HQ1⟩ : ∃ q : Bool, Hid ((decide (1 ≤ b.vi) && decide (b.vi ≤ 1099511627776)) = q) := ⟨_, hid rfl⟩
  obtain ⟨q2, HQ2⟩ : ∃ q : Bool, Hid ((decide (1 ≤ b.he) && decide (b.he ≤ 1099511627776)) = q) := ⟨_, hid rfl⟩
  obtain ⟨q3, HQ3⟩ : ∃ q : Bool, Hid ((decide (1 ≤ b.bo) && decide (b.bo ≤ 21)) = q) := ⟨_, hid rfl⟩
  obtain ⟨q4, HQ4⟩ : ∃ q : Bool, Hid (decide (L ≤ 8) = q) := ⟨_, hid rfl⟩
  obtain ⟨q5, HQ5⟩ : ∃ q : Bool, Hid (b.txs.all mayT = q) := ⟨_, hid rfl⟩
  have HN : Hid (ans = (q1 && q2 && q3 && (q4 && q5))) := hid (by
    rw [← HAN.out, ← HQ1.out, ← HQ2.out, ← HQ3.out, ← HQ4.out, ← HQ5.out, ← HL.out]
    unfold numsK
    ac_rfl)
  have HW1 := hid (bkWithin_any b.vi 1099511627776 w0)
  have HW2 := hid (bkWithin_any b.he 1099511627776 w0)
  have HW3 := hid (bkWithin_any b.bo 21 w0)
  have HCF := hid (containsWrong_any _ _ w0 ht0 hlk)
  rw [HQ1.out] at HW1
  rw [HQ2.out] at HW2
  rw [HQ3.out] at HW3
  rw [HQ5.out] at HCF
  clear ht0 hlk
  go_wp2_with fail
  refine HW1.out.mono ?_
  rintro e w1 ⟨rfl, rfl⟩
  clear k1
  cases q1 with
  | false =>
    obtain rfl : ans = false := HN.out
    go_wp2_with fail
    go_ret
    exact ⟨rfl, hb0⟩
  | true =>
    go_wp2_with fail
    refine HW2.out.mono ?_
    rintro e w1 ⟨rfl, rfl⟩
    clear k2
    cases q2 with
    | false =>
      obtain rfl : ans = false := HN.out
      go_wp2_with fail
      go_ret
      exact ⟨rfl, hb0⟩
    | true =>
      go_wp2_with fail
      refine HW3.out.mono ?_
      rintro e w1 ⟨rfl, rfl⟩
      clear k3
      cases q3 with
      | false =>
        obtain rfl : ans = false := HN.out
        go_wp2_with fail
        go_ret
        exact ⟨rfl, hb0⟩
      | true =>
        cases q4 with
        | false =>
          obtain rfl : ans = false := HN.out
          have hi : ¬ (L : Int) ≤ 8 := by have := of_decide_eq_false HQ4.out; omega
          go_wp2_with fail
          go_ret
          exact ⟨rfl, hb0⟩
        | true =>
          have hi : (L : Int) ≤ 8 := by have := of_decide_eq_true HQ4.out; omega
          go_wp2_with fail
          refine HCF.out.mono ?_
          rintro e w1 ⟨rfl, hb1⟩
          have e : ans = q5 := by rw [HN.out]; simp
          subst e
          cases ans
          all_goals
            go_wp2_with fail
            go_ret
            exact ⟨rfl, hb0.trans (hb1.mono hb0.size)⟩

set_option maxHeartbeats 1600000 in
theorem bkCheck_ok : BkCheckOk := by
  intro v b w hv hlk
  have HV := hid (fun W (h : Below w.heap.size w W) => hv.below h)
  obtain ⟨s, rfl, hp, ht⟩ := hv
  obtain ⟨C, HC⟩ : ∃ C : Array Value, Hid (bkc b s = C) := ⟨_, hid rfl⟩
  rw [HC.out] at HV ⊢
  have HSZ : Hid (C.size = 36) := hid (by rw [← HC.out]; exact bkc_size _ hp)
  have hr0 := heap_alloc_new w (.cells C 26)
  have hb0 : Below w.heap.size w (w.alloc (.cells C 26)) := (Below.refl _ _).alloc (Nat.le_refl _) _
  obtain ⟨f, HF⟩ : ∃ q : Bool, Hid (sameK b bkZ = q) := ⟨_, hid rfl⟩
  obtain ⟨g, HG⟩ : ∃ q : Bool, Hid ((b.txs.all mayT && numsK b) = q) := ⟨_, hid rfl⟩
  have HMK : Hid (mayK b = (f || g)) := hid (by unfold mayK; rw [HF.out, HG.out])
  have HIF : Hid (∀ W, Below w.heap.size w W → Calls Tryd.prog 24 #[.agg C] W fun e w' => e = .returned (.bool f) ∧ Below W.heap.size W w') := hid (fun W h => by
    have := bkIsFirst_ok _ b W (HV.out W h)
    rw [HF.out] at this
    exact this)
  have HIL : Hid (∀ W, Below w.heap.size w W → Calls Tryd.prog 25 #[.agg C] W fun e w' => e = .returned (.bool g) ∧ Below W.heap.size W w') := hid (fun W h => by
    have := bkIsLater_ok _ b W (HV.out W h) hlk
    rw [HG.out] at this
    exact this)
  rw [HMK.out]
  clear ht
  go_enter Tryd.func10, Tryd.ntmps10
  go_upto_region 1 with (fail)
  generalize (w.alloc (.cells C 26)) = w0 at *
  have hl0 := lt_of_block hr0
  have HLD : Hid (∀ W : World, Below w0.heap.size w0 W → loadK (.pointer (some ⟨w.heap.size, 0, none⟩)) W = .ok (.value (.agg C)) W) := hid (fun W h => loadK_row ((h.block _ hl0).trans hr0) HSZ.out)
  have l0 := HLD.out w0 (Below.refl _ _)
  clear hr0 hl0
  go_wp2_with fail
  refine (HIF.out w0 hb0).mono ?_
  rintro e w1 ⟨rfl, hb1⟩
  have hB1 := hb0.trans (hb1.mono hb0.size)
  have l1 := HLD.out w1 hb1
  clear l0
  cases f with
  | true =>
    clear l1
    go_wp2_with fail
    go_ret
    exact ⟨rfl, hB1⟩
  | false =>
    go_wp2_with fail
    refine (HIL.out w1 hB1).mono ?_
    rintro e w2 ⟨rfl, hb2⟩
    clear l1
    cases g
    all_goals
      go_wp2_with fail
      go_ret
      exact ⟨rfl, hB1.trans (hb2.mono hB1.size)⟩
end Go.Proofs.YtekfkfpfnhoblaaDoor
