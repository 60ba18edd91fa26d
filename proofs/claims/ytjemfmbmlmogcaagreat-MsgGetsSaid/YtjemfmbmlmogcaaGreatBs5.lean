/-
  TxRefRead TxCodeKey: what each of them says stands at its head.
-/
import Derived.BigRegion
import Derived.Deep.DeepCutAuto
import Derived.Test.YtjemfmbmlmogcaaGreatBs4
namespace Go.Proofs.YtjemfmbmlmogcaaGreat
set_option maxRecDepth 20000
open Go.RowKit
theorem under_rd1 : Tryz.prog.underlying 83 = some (.struct (Tryz.prog.fieldsOf 83)) := by kernel_rfl
theorem size_rd1 : (Tryz.prog.info? 83).map (·.size) = some 3 := by kernel_rfl
theorem under_tx : Tryz.prog.underlying 36 = some (.struct (Tryz.prog.fieldsOf 36)) := by kernel_rfl
theorem size_tx : (Tryz.prog.info? 36).map (·.size) = some 7 := by kernel_rfl
theorem results_rt {fn : Func} {p q s : Tmp} (h : fn.results = #[.cell p 83, .cell q 36, .tmp s]) (tmps : Array Value) (w : World) (g1 g2 : Nat) (t1 t2 : TypeId) (xs ys : Array Value) (v : Value)
    (hp : tmps.getD p undef = .pointer (some ⟨g1, 0, none⟩)) (hq : tmps.getD q undef = .pointer (some ⟨g2, 0, none⟩)) (hv : tmps.getD s undef = v) (h1 : w.heap[g1]? = some (.cells xs t1 (0, 0))) (h2 : w.heap[g2]? = some (.cells ys t2 (0, 0))) (hx : xs.size = 3) (hy : ys.size = 7) :
    (results fn tmps).run Tryz.prog w = .ok (.tuple #[.agg xs, .agg ys, v]) w := by
  have hp' : tmps[p]?.getD undef = .pointer (some ⟨g1, 0, none⟩) := by simpa using hp
  have hq' : tmps[q]?.getD undef = .pointer (some ⟨g2, 0, none⟩) := by simpa using hq
  have hv' : tmps[s]?.getD undef = v := by simpa using hv
  have r1 := run_loadVar_row (P := Tryz.prog) w g1 t1 83 xs (0, 0) _ h1 under_rd1 rfl (by rw [size_rd1, hx])
  have r2 := run_loadVar_row (P := Tryz.prog) w g2 t2 36 ys (0, 0) _ h2 under_tx rfl (by rw [size_tx, hy])
  simp [results, h, hp', hq', hv', asAddr, r1, r2]
theorem run_sb {w : World} {v : Value} {l : List UInt8} (hv : Byt w v l) : (convert 41 9 v).run Tryz.prog w = .ok (.string (sb l)) w := by
  obtain ⟨A, c, rfl, h1, h2, hr⟩ := hv
  by_cases h0 : 0 < l.length
  · obtain ⟨b, off, rfl, _, hc⟩ := hr h0
    exact run_convert_bytes_back w _ _ 5 _ _ l under_bytes (by kernel_rfl) under_string (fun j hj => by rw [addr_add]; exact hc j hj)
  · obtain rfl : l = [] := List.eq_nil_of_length_eq_zero (by omega)
    rw [run_convert_bytes_string w _ _ 5 _ _ _ under_bytes (by kernel_rfl) under_string]
    cases A <;> simp [Conv.bytesToString, loadCells] <;> rfl
theorem drew_at {w : World} {i : Nat} {o : Option Obj} (h : w.heap[i]? = o) : w.drew.heap[i]? = o := h
theorem RdSt.alloc {w0 w : World} {x0 x1 x2 : Value} {t : Array Value} (h : RdSt w0 w x0 x1 x2 t) (o : Obj) : RdSt w0 (w.alloc o) x0 x1 x2 t := h.below ((Below.refl _ _).alloc (Nat.le_refl _) o)
theorem own_far {B g : Nat} {w : World} {v : Value} {l : List UInt8} (h : Own B w v l) (hg : g < B) : v.ownBlock ≠ some g := fun e => by
  have := (World.ownsRow.lt h g e).1
  omega
theorem RdSt.fin {w0 w : World} {x0 x1 x2 : Value} {t : Array Value} (h : RdSt w0 w x0 x1 x2 t) (y0 y1 y2 u0 u1 u2 u3 u4 u5 u6 : Value) :
    ((((((((((w.setCell ⟨w0.heap.size + 1, 0, none⟩ y0).setCell ⟨w0.heap.size + 1, 1, none⟩ y1).setCell ⟨w0.heap.size + 1, 2, none⟩ y2).setCell ⟨w0.heap.size + 1 + 1, 0, none⟩ u0).setCell ⟨w0.heap.size + 1 + 1, 1, none⟩ u1).setCell ⟨w0.heap.size + 1 + 1, 2, none⟩ u2).setCell ⟨w0.heap.size + 1 + 1, 3, none⟩ u3).setCell ⟨w0.heap.size + 1 + 1, 4, none⟩ u4).setCell ⟨w0.heap.size + 1 + 1, 5, none⟩ u5).setCell ⟨w0.heap.size + 1 + 1, 6, none⟩ u6).heap[w0.heap.size + 1]? = some (.cells #[y0, y1, y2] 83 (0, 0)) ∧
    ((((((((((w.setCell ⟨w0.heap.size + 1, 0, none⟩ y0).setCell ⟨w0.heap.size + 1, 1, none⟩ y1).setCell ⟨w0.heap.size + 1, 2, none⟩ y2).setCell ⟨w0.heap.size + 1 + 1, 0, none⟩ u0).setCell ⟨w0.heap.size + 1 + 1, 1, none⟩ u1).setCell ⟨w0.heap.size + 1 + 1, 2, none⟩ u2).setCell ⟨w0.heap.size + 1 + 1, 3, none⟩ u3).setCell ⟨w0.heap.size + 1 + 1, 4, none⟩ u4).setCell ⟨w0.heap.size + 1 + 1, 5, none⟩ u5).setCell ⟨w0.heap.size + 1 + 1, 6, none⟩ u6).heap[w0.heap.size + 1 + 1]? = some (.cells #[u0, u1, u2, u3, u4, u5, u6] 36 (0, 0)) := by
  have a1 := set_blk (set_blk (set_blk h.b1 0 y0) 1 y1) 2 y2
  have a2 := blk_other (blk_other (blk_other h.b2 y0 (i := 0) (b := w0.heap.size + 1) (by omega)) y1 (i := 1) (b := w0.heap.size + 1) (by omega)) y2 (i := 2) (b := w0.heap.size + 1) (by omega)
  exact ⟨blk_other (blk_other (blk_other (blk_other (blk_other (blk_other (blk_other a1 u0 (by omega)) u1 (by omega)) u2 (by omega)) u3 (by omega)) u4 (by omega)) u5 (by omega)) u6 (by omega),
    set_blk (set_blk (set_blk (set_blk (set_blk (set_blk (set_blk a2 0 u0) 1 u1) 2 u2) 3 u3) 4 u4) 5 u5) 6 u6⟩
set_option maxHeartbeats 6400000 in
theorem refTx_any (A : Option Addr) (c p : Nat) (r : Bool) (l : List UInt8) (w : World) (hv : Byt w (.slice A l.length c) l) (hp : p ≤ l.length) (hl : l.length ≤ 1000000) :
    Calls Tryz.prog 49 #[rv A l.length c p (!r)] w fun e w' => e = .returned (.tuple #[rv A l.length c (rdRaw l p r).2.1 (!(rdRaw l p r).2.2), txv (rdTx l p r), .bool (rdIs l p r)]) ∧ Below w.heap.size w w' := by
  have HU := hid (fun p r (hp : p ≤ l.length) m (h1 : -9223372036854775808 ≤ m) (h2 : m ≤ 9223372036854775807) (w' : World) (hb : Below w.heap.size w w') => refUpto_any A c p r l m w' (hv.below hb) hp (by omega) h1 h2)
  have HT := hid (fun p r (hp : p ≤ l.length) (w' : World) (hb : Below w.heap.size w w') => refText_any A c p r l w' (hv.below hb) hp (by omega))
  clear hv
  unfold rv
  have hst0 := RdSt.new w (.slice A l.length c) (.int .i64 (p : Int)) (.bool (!r))
  unfold zeroTx at hst0
  go_enter Tryz.func49, Tryz.ntmps49
  go_wp2_with fail
  obtain ⟨a1, p1, r1, HA1⟩ : ∃ x q s, Hid (rdUpto 40 l p r = (x, q, s)) := ⟨_, _, _, hid rfl⟩
  have hp1 : p1 ≤ l.length := by have := rdUpto_pl (m := 40) (r := r) hp; rw [HA1.out] at this; exact this
  have hm1 : a1 ≤ 40 := by have := rdUpto_le (m := 40) (l := l) (p := p) (r := r); rw [show ((40 : Nat) : Int) = 40 from rfl, HA1.out] at this; exact this
  have C := HU.out p r hp 40 (by omega) (by omega) _ (hst0).bel
  rw [HA1.out] at C
  refine C.mono ?_
  clear C
  rintro e w1 ⟨rfl, hb⟩
  have hst : RdSt w w1 (.slice A l.length c) (.int .i64 (p : Int)) (.bool (!r)) #[.int .i64 0, .int .i64 0, .int .i64 0, .int .i64 0, .int .i64 0, .string { data := #[] }, .string { data := #[] }] := (hst0).below hb
  clear hb hst0
  obtain ⟨⟨c00, c01, c02⟩, ⟨c30, c31, c32, c33, c34, c35, c36⟩, g0, g1, g2, g3⟩ := hst.cells
  have HST := hid hst
  clear hst
  unfold rv
  go_wp2_with fail
  obtain ⟨a2, p2, r2, HA2⟩ : ∃ x q s, Hid (rdUpto 1099511627776 l p1 r1 = (x, q, s)) := ⟨_, _, _, hid rfl⟩
  have hp2 : p2 ≤ l.length := by have := rdUpto_pl (m := 1099511627776) (r := r1) hp1; rw [HA2.out] at this; exact this
  have hm2 : a2 ≤ 1099511627776 := by have := rdUpto_le (m := 1099511627776) (l := l) (p := p1) (r := r1); rw [show ((1099511627776 : Nat) : Int) = 1099511627776 from rfl, HA2.out] at this; exact this
  have C := HU.out p1 r1 hp1 1099511627776 (by omega) (by omega) _ ((HST.out.put (.slice A l.length c) (.int .i64 (p1 : Int)) (.bool (!r1))).tx 0 (.int .i64 (a1 : Int))).bel
  rw [HA2.out] at C
  refine C.mono ?_
  clear C
  rintro e w2 ⟨rfl, hb⟩
  have hst : RdSt w w2 (.slice A l.length c) (.int .i64 (p1 : Int)) (.bool (!r1)) #[.int .i64 (a1 : Int), .int .i64 0, .int .i64 0, .int .i64 0, .int .i64 0, .string { data := #[] }, .string { data := #[] }] := ((HST.out.put (.slice A l.length c) (.int .i64 (p1 : Int)) (.bool (!r1))).tx 0 (.int .i64 (a1 : Int))).below hb
  clear hb HST c00 c01 c02 c30 c31 c32 c33 c34 c35 c36 g0 g1 g2 g3
  obtain ⟨⟨c00, c01, c02⟩, ⟨c30, c31, c32, c33, c34, c35, c36⟩, g0, g1, g2, g3⟩ := hst.cells
  have HST := hid hst
  clear hst
  unfold rv
  go_wp2_with fail
  obtain ⟨a3, p3, r3, HA3⟩ : ∃ x q s, Hid (rdUpto 3 l p2 r2 = (x, q, s)) := ⟨_, _, _, hid rfl⟩
  have hp3 : p3 ≤ l.length := by have := rdUpto_pl (m := 3) (r := r2) hp2; rw [HA3.out] at this; exact this
  have hm3 : a3 ≤ 3 := by have := rdUpto_le (m := 3) (l := l) (p := p2) (r := r2); rw [show ((3 : Nat) : Int) = 3 from rfl, HA3.out] at this; exact this
  have C := HU.out p2 r2 hp2 3 (by omega) (by omega) _ ((HST.out.put (.slice A l.length c) (.int .i64 (p2 : Int)) (.bool (!r2))).tx 1 (.int .i64 (a2 : Int))).bel
  rw [HA3.out] at C
  refine C.mono ?_
  clear C
  rintro e w3 ⟨rfl, hb⟩
  have hst : RdSt w w3 (.slice A l.length c) (.int .i64 (p2 : Int)) (.bool (!r2)) #[.int .i64 (a1 : Int), .int .i64 (a2 : Int), .int .i64 0, .int .i64 0, .int .i64 0, .string { data := #[] }, .string { data := #[] }] := ((HST.out.put (.slice A l.length c) (.int .i64 (p2 : Int)) (.bool (!r2))).tx 1 (.int .i64 (a2 : Int))).below hb
  clear hb HST c00 c01 c02 c30 c31 c32 c33 c34 c35 c36 g0 g1 g2 g3
  obtain ⟨⟨c00, c01, c02⟩, ⟨c30, c31, c32, c33, c34, c35, c36⟩, g0, g1, g2, g3⟩ := hst.cells
  have HST := hid hst
  clear hst
  unfold rv
  obtain ha3 | ha3 | ha3 | ha3 : a3 = 0 ∨ a3 = 1 ∨ a3 = 2 ∨ a3 = 3 := by omega
  all_goals subst ha3
  · skip
    clear hm3
    have HRAW : Hid (rdRaw l p r = (⟨(a1 : Int), (a2 : Int), 0, 0, 0, [], []⟩, p3, r3)) := hid (by unfold rdRaw rdTail; simp [HA1.out, HA2.out, HA3.out])
    go_upto_region 16 with (fail)
    have hst : RdSt w ((((w3.setCell ⟨w.heap.size, 0, none⟩ (.slice A l.length c)).setCell ⟨w.heap.size, 1, none⟩ (.int .i64 (p3 : Int))).setCell ⟨w.heap.size, 2, none⟩ (.bool (!r3))).setCell ⟨w.heap.size + 1 + 1 + 1, 2, none⟩ (.int .i64 0)) (.slice A l.length c) (.int .i64 (p3 : Int)) (.bool (!r3)) #[.int .i64 (a1 : Int), .int .i64 (a2 : Int), .int .i64 0, .int .i64 0, .int .i64 0, .string { data := #[] }, .string { data := #[] }] := (HST.out.put (.slice A l.length c) (.int .i64 (p3 : Int)) (.bool (!r3))).tx 2 (.int .i64 0)
    generalize ((((w3.setCell ⟨w.heap.size, 0, none⟩ (.slice A l.length c)).setCell ⟨w.heap.size, 1, none⟩ (.int .i64 (p3 : Int))).setCell ⟨w.heap.size, 2, none⟩ (.bool (!r3))).setCell ⟨w.heap.size + 1 + 1 + 1, 2, none⟩ (.int .i64 0)) = wz at hst ⊢
    clear HST c00 c01 c02 c30 c31 c32 c33 c34 c35 c36 g0 g1 g2 g3
    obtain ⟨⟨c00, c01, c02⟩, ⟨c30, c31, c32, c33, c34, c35, c36⟩, g0, g1, g2, g3⟩ := hst.cells
    obtain ⟨⟨c10, c11, c12⟩, ⟨c20, c21, c22, c23, c24, c25, c26⟩⟩ := hst.cells2
    have HST := hid hst
    clear hst
    cases r3 with
    | false =>
      have hI : rdIs l p r = false := by unfold rdIs; rw [HRAW.out]; rfl
      go_wp2_with fail
      have hfin := HST.out.fin (.slice A l.length c) (.int .i64 (p3 : Int)) (.bool (!false)) (.int .i64 0) (.int .i64 0) (.int .i64 0) (.int .i64 0) (.int .i64 0) (.string { data := #[] }) (.string { data := #[] })
      refine bodyPost_ret (results_rt rfl _ _ _ _ _ _ _ _ _ rfl rfl rfl hfin.1 hfin.2 rfl rfl) rfl ⟨?_, ?_⟩
      · unfold rdTx
        rw [hI, if_neg (by decide), HRAW.out]
        rfl
      · have hb := HST.out.bel
        clear hfin c00 c01 c02 c30 c31 c32 c33 c34 c35 c36 c10 c11 c12 c20 c21 c22 c23 c24 c25 c26 g0 g1 g2 g3
        go_grown
    | true =>
      go_wp2_with fail
      refine (refMay_any ⟨(a1 : Int), (a2 : Int), 0, 0, 0, [], []⟩ wz (Nat.zero_le _) (Nat.zero_le _)).mono ?_
      rintro e wy ⟨rfl, hb⟩
      have hst := HST.out.below hb
      clear hb HST c00 c01 c02 c30 c31 c32 c33 c34 c35 c36 c10 c11 c12 c20 c21 c22 c23 c24 c25 c26 g0 g1 g2 g3
      obtain ⟨⟨c00, c01, c02⟩, ⟨c30, c31, c32, c33, c34, c35, c36⟩, g0, g1, g2, g3⟩ := hst.cells
      obtain ⟨⟨c10, c11, c12⟩, ⟨c20, c21, c22, c23, c24, c25, c26⟩⟩ := hst.cells2
      have HST := hid hst
      clear hst
      obtain ⟨m, HM⟩ : ∃ m : Bool, Hid (mayT ⟨(a1 : Int), (a2 : Int), 0, 0, 0, [], []⟩ = m) := ⟨_, hid rfl⟩
      rw [HM.out]
      have hI : rdIs l p r = m := by unfold rdIs; rw [HRAW.out]; exact HM.out
      cases m with
      | false =>
        go_wp2_with fail
        have hfin := HST.out.fin (.slice A l.length c) (.int .i64 (p3 : Int)) (.bool (!true)) (.int .i64 0) (.int .i64 0) (.int .i64 0) (.int .i64 0) (.int .i64 0) (.string { data := #[] }) (.string { data := #[] })
        refine bodyPost_ret (results_rt rfl _ _ _ _ _ _ _ _ _ rfl rfl rfl hfin.1 hfin.2 rfl rfl) rfl ⟨?_, ?_⟩
        · unfold rdTx
          rw [hI, if_neg (by decide), HRAW.out]
          rfl
        · have hb := HST.out.bel
          clear hfin c00 c01 c02 c30 c31 c32 c33 c34 c35 c36 c10 c11 c12 c20 c21 c22 c23 c24 c25 c26 g0 g1 g2 g3
          go_grown
      | true =>
        go_wp2_with fail
        have hfin := HST.out.fin (.slice A l.length c) (.int .i64 (p3 : Int)) (.bool (!true)) (.int .i64 (a1 : Int)) (.int .i64 (a2 : Int)) (.int .i64 0) (.int .i64 0) (.int .i64 0) (.string { data := #[] }) (.string { data := #[] })
        go_region
        go_wp2_with fail
        refine bodyPost_ret (results_rt rfl _ _ _ _ _ _ _ _ _ rfl rfl rfl (drew_at hfin.1) (drew_at hfin.2) rfl rfl) rfl ⟨?_, ?_⟩
        · unfold rdTx
          rw [hI, if_pos (by decide), HRAW.out]
          rfl
        · have hb := HST.out.bel
          clear hfin c00 c01 c02 c30 c31 c32 c33 c34 c35 c36 c10 c11 c12 c20 c21 c22 c23 c24 c25 c26 g0 g1 g2 g3
          go_grown
  · skip
    clear hm3
    go_wp2_with fail
    obtain ⟨a4, p4, r4, HA4⟩ : ∃ x q s, Hid (rdUpto 40 l p3 r3 = (x, q, s)) := ⟨_, _, _, hid rfl⟩
    have hp4 : p4 ≤ l.length := by have := rdUpto_pl (m := 40) (r := r3) hp3; rw [HA4.out] at this; exact this
    have hm4 : a4 ≤ 40 := by have := rdUpto_le (m := 40) (l := l) (p := p3) (r := r3); rw [show ((40 : Nat) : Int) = 40 from rfl, HA4.out] at this; exact this
    have C := HU.out p3 r3 hp3 40 (by omega) (by omega) _ ((HST.out.put (.slice A l.length c) (.int .i64 (p3 : Int)) (.bool (!r3))).tx 2 (.int .i64 1)).bel
    rw [HA4.out] at C
    refine C.mono ?_
    clear C
    rintro e w4 ⟨rfl, hb⟩
    have hst : RdSt w w4 (.slice A l.length c) (.int .i64 (p3 : Int)) (.bool (!r3)) #[.int .i64 (a1 : Int), .int .i64 (a2 : Int), .int .i64 1, .int .i64 0, .int .i64 0, .string { data := #[] }, .string { data := #[] }] := ((HST.out.put (.slice A l.length c) (.int .i64 (p3 : Int)) (.bool (!r3))).tx 2 (.int .i64 1)).below hb
    clear hb HST c00 c01 c02 c30 c31 c32 c33 c34 c35 c36 g0 g1 g2 g3
    obtain ⟨⟨c00, c01, c02⟩, ⟨c30, c31, c32, c33, c34, c35, c36⟩, g0, g1, g2, g3⟩ := hst.cells
    have HST := hid hst
    clear hst
    unfold rv
    go_wp2_with fail
    obtain ⟨a5, p5, r5, HA5⟩ : ∃ x q s, Hid (rdUpto 1099511627776 l p4 r4 = (x, q, s)) := ⟨_, _, _, hid rfl⟩
    have hp5 : p5 ≤ l.length := by have := rdUpto_pl (m := 1099511627776) (r := r4) hp4; rw [HA5.out] at this; exact this
    have hm5 : a5 ≤ 1099511627776 := by have := rdUpto_le (m := 1099511627776) (l := l) (p := p4) (r := r4); rw [show ((1099511627776 : Nat) : Int) = 1099511627776 from rfl, HA5.out] at this; exact this
    have C := HU.out p4 r4 hp4 1099511627776 (by omega) (by omega) _ ((HST.out.put (.slice A l.length c) (.int .i64 (p4 : Int)) (.bool (!r4))).tx 3 (.int .i64 (a4 : Int))).bel
    rw [HA5.out] at C
    refine C.mono ?_
    clear C
    rintro e w5 ⟨rfl, hb⟩
    have hst : RdSt w w5 (.slice A l.length c) (.int .i64 (p4 : Int)) (.bool (!r4)) #[.int .i64 (a1 : Int), .int .i64 (a2 : Int), .int .i64 1, .int .i64 (a4 : Int), .int .i64 0, .string { data := #[] }, .string { data := #[] }] := ((HST.out.put (.slice A l.length c) (.int .i64 (p4 : Int)) (.bool (!r4))).tx 3 (.int .i64 (a4 : Int))).below hb
    clear hb HST c00 c01 c02 c30 c31 c32 c33 c34 c35 c36 g0 g1 g2 g3
    obtain ⟨⟨c00, c01, c02⟩, ⟨c30, c31, c32, c33, c34, c35, c36⟩, g0, g1, g2, g3⟩ := hst.cells
    have HST := hid hst
    clear hst
    unfold rv
    have HRAW : Hid (rdRaw l p r = (⟨(a1 : Int), (a2 : Int), 1, (a4 : Int), (a5 : Int), [], []⟩, p5, r5)) := hid (by unfold rdRaw rdTail; simp [HA1.out, HA2.out, HA3.out, HA4.out, HA5.out])
    go_upto_region 16 with (fail)
    have hst : RdSt w ((((w5.setCell ⟨w.heap.size, 0, none⟩ (.slice A l.length c)).setCell ⟨w.heap.size, 1, none⟩ (.int .i64 (p5 : Int))).setCell ⟨w.heap.size, 2, none⟩ (.bool (!r5))).setCell ⟨w.heap.size + 1 + 1 + 1, 4, none⟩ (.int .i64 (a5 : Int))) (.slice A l.length c) (.int .i64 (p5 : Int)) (.bool (!r5)) #[.int .i64 (a1 : Int), .int .i64 (a2 : Int), .int .i64 1, .int .i64 (a4 : Int), .int .i64 (a5 : Int), .string { data := #[] }, .string { data := #[] }] := (HST.out.put (.slice A l.length c) (.int .i64 (p5 : Int)) (.bool (!r5))).tx 4 (.int .i64 (a5 : Int))
    generalize ((((w5.setCell ⟨w.heap.size, 0, none⟩ (.slice A l.length c)).setCell ⟨w.heap.size, 1, none⟩ (.int .i64 (p5 : Int))).setCell ⟨w.heap.size, 2, none⟩ (.bool (!r5))).setCell ⟨w.heap.size + 1 + 1 + 1, 4, none⟩ (.int .i64 (a5 : Int))) = wz at hst ⊢
    clear HST c00 c01 c02 c30 c31 c32 c33 c34 c35 c36 g0 g1 g2 g3
    obtain ⟨⟨c00, c01, c02⟩, ⟨c30, c31, c32, c33, c34, c35, c36⟩, g0, g1, g2, g3⟩ := hst.cells
    obtain ⟨⟨c10, c11, c12⟩, ⟨c20, c21, c22, c23, c24, c25, c26⟩⟩ := hst.cells2
    have HST := hid hst
    clear hst
    cases r5 with
    | false =>
      have hI : rdIs l p r = false := by unfold rdIs; rw [HRAW.out]; rfl
      go_wp2_with fail
      have hfin := HST.out.fin (.slice A l.length c) (.int .i64 (p5 : Int)) (.bool (!false)) (.int .i64 0) (.int .i64 0) (.int .i64 0) (.int .i64 0) (.int .i64 0) (.string { data := #[] }) (.string { data := #[] })
      refine bodyPost_ret (results_rt rfl _ _ _ _ _ _ _ _ _ rfl rfl rfl hfin.1 hfin.2 rfl rfl) rfl ⟨?_, ?_⟩
      · unfold rdTx
        rw [hI, if_neg (by decide), HRAW.out]
        rfl
      · have hb := HST.out.bel
        clear hfin c00 c01 c02 c30 c31 c32 c33 c34 c35 c36 c10 c11 c12 c20 c21 c22 c23 c24 c25 c26 g0 g1 g2 g3
        go_grown
    | true =>
      go_wp2_with fail
      refine (refMay_any ⟨(a1 : Int), (a2 : Int), 1, (a4 : Int), (a5 : Int), [], []⟩ wz (Nat.zero_le _) (Nat.zero_le _)).mono ?_
      rintro e wy ⟨rfl, hb⟩
      have hst := HST.out.below hb
      clear hb HST c00 c01 c02 c30 c31 c32 c33 c34 c35 c36 c10 c11 c12 c20 c21 c22 c23 c24 c25 c26 g0 g1 g2 g3
      obtain ⟨⟨c00, c01, c02⟩, ⟨c30, c31, c32, c33, c34, c35, c36⟩, g0, g1, g2, g3⟩ := hst.cells
      obtain ⟨⟨c10, c11, c12⟩, ⟨c20, c21, c22, c23, c24, c25, c26⟩⟩ := hst.cells2
      have HST := hid hst
      clear hst
      obtain ⟨m, HM⟩ : ∃ m : Bool, Hid (mayT ⟨(a1 : Int), (a2 : Int), 1, (a4 : Int), (a5 : Int), [], []⟩ = m) := ⟨_, hid rfl⟩
      rw [HM.out]
      have hI : rdIs l p r = m := by unfold rdIs; rw [HRAW.out]; exact HM.out
      cases m with
      | false =>
        go_wp2_with fail
        have hfin := HST.out.fin (.slice A l.length c) (.int .i64 (p5 : Int)) (.bool (!true)) (.int .i64 0) (.int .i64 0) (.int .i64 0) (.int .i64 0) (.int .i64 0) (.string { data := #[] }) (.string { data := #[] })
        refine bodyPost_ret (results_rt rfl _ _ _ _ _ _ _ _ _ rfl rfl rfl hfin.1 hfin.2 rfl rfl) rfl ⟨?_, ?_⟩
        · unfold rdTx
          rw [hI, if_neg (by decide), HRAW.out]
          rfl
        · have hb := HST.out.bel
          clear hfin c00 c01 c02 c30 c31 c32 c33 c34 c35 c36 c10 c11 c12 c20 c21 c22 c23 c24 c25 c26 g0 g1 g2 g3
          go_grown
      | true =>
        go_wp2_with fail
        have hfin := HST.out.fin (.slice A l.length c) (.int .i64 (p5 : Int)) (.bool (!true)) (.int .i64 (a1 : Int)) (.int .i64 (a2 : Int)) (.int .i64 1) (.int .i64 (a4 : Int)) (.int .i64 (a5 : Int)) (.string { data := #[] }) (.string { data := #[] })
        go_region
        go_wp2_with fail
        refine bodyPost_ret (results_rt rfl _ _ _ _ _ _ _ _ _ rfl rfl rfl (drew_at hfin.1) (drew_at hfin.2) rfl rfl) rfl ⟨?_, ?_⟩
        · unfold rdTx
          rw [hI, if_pos (by decide), HRAW.out]
          rfl
        · have hb := HST.out.bel
          clear hfin c00 c01 c02 c30 c31 c32 c33 c34 c35 c36 c10 c11 c12 c20 c21 c22 c23 c24 c25 c26 g0 g1 g2 g3
          go_grown
  · skip
    clear hm3
    go_wp2_with fail
    obtain ⟨k4, p4, r4, HA4⟩ : ∃ x q s, Hid (rdText l p3 r3 = (x, q, s)) := ⟨_, _, _, hid rfl⟩
    have hp4 : p4 ≤ l.length := by have := (rdText_pl (r := r3) hp3).1; rw [HA4.out] at this; exact this
    have HK4 : Hid (k4.length ≤ 65536) := hid (by have := (rdText_pl (r := r3) hp3).2; rw [HA4.out] at this; exact this)
    have C := HT.out p3 r3 hp3 _ ((HST.out.put (.slice A l.length c) (.int .i64 (p3 : Int)) (.bool (!r3))).tx 2 (.int .i64 2)).bel
    rw [HA4.out] at C
    refine C.mono ?_
    clear C
    rintro e w4 ⟨v4, rfl, ho4, hb⟩
    have hB4 := Nat.lt_of_le_of_lt (show w.heap.size ≤ w.heap.size + 1 + 1 + 1 by omega) ((HST.out.put (.slice A l.length c) (.int .i64 (p3 : Int)) (.bool (!r3))).tx 2 (.int .i64 2)).lt
    have hst : RdSt w w4 (.slice A l.length c) (.int .i64 (p3 : Int)) (.bool (!r3)) #[.int .i64 (a1 : Int), .int .i64 (a2 : Int), .int .i64 2, .int .i64 0, .int .i64 0, .string { data := #[] }, .string { data := #[] }] := ((HST.out.put (.slice A l.length c) (.int .i64 (p3 : Int)) (.bool (!r3))).tx 2 (.int .i64 2)).below hb
    clear hb HST c00 c01 c02 c30 c31 c32 c33 c34 c35 c36 g0 g1 g2 g3
    obtain ⟨⟨c00, c01, c02⟩, ⟨c30, c31, c32, c33, c34, c35, c36⟩, g0, g1, g2, g3⟩ := hst.cells
    have HST := hid hst
    clear hst
    have hcv4 := run_sb ho4.byt
    unfold rv
    go_upto_region 10 with (fail)
    have hoq := ho4.alloc (.cells #[.slice A l.length c, .int .i64 (p4 : Int), .bool (!r4)] 83)
    have hq := heap_alloc_new w4 (.cells #[.slice A l.length c, .int .i64 (p4 : Int), .bool (!r4)] 83)
    clear ho4 hcv4
    have hst : RdSt w (w4.alloc (.cells #[.slice A l.length c, .int .i64 (p4 : Int), .bool (!r4)] 83)) (.slice A l.length c) (.int .i64 (p3 : Int)) (.bool (!r3)) #[.int .i64 (a1 : Int), .int .i64 (a2 : Int), .int .i64 2, .int .i64 0, .int .i64 0, .string { data := #[] }, .string { data := #[] }] := HST.out.alloc (.cells #[.slice A l.length c, .int .i64 (p4 : Int), .bool (!r4)] 83)
    generalize (w4.alloc (.cells #[.slice A l.length c, .int .i64 (p4 : Int), .bool (!r4)] 83)) = wq4 at *
    clear HST c00 c01 c02 c30 c31 c32 c33 c34 c35 c36 g0 g1 g2 g3
    have d0 := cell_blk hq 0
    have d1 := cell_blk hq 1
    have d2 := cell_blk hq 2
    simp at d0 d1 d2
    clear hq
    obtain ⟨⟨c00, c01, c02⟩, ⟨c30, c31, c32, c33, c34, c35, c36⟩, g0, g1, g2, g3⟩ := hst.cells
    have HST := hid hst
    clear hst
    go_upto_region 11 with (fail)
    have hby4 : Byt (((wq4.setCell ⟨w.heap.size, 0, none⟩ (.slice A l.length c)).setCell ⟨w.heap.size, 1, none⟩ (.int .i64 (p4 : Int))).setCell ⟨w.heap.size, 2, none⟩ (.bool (!r4))) v4 k4 := (((hoq.set (own_far hoq hB4) 0 (.slice A l.length c)).set (own_far hoq hB4) 1 (.int .i64 (p4 : Int))).set (own_far hoq hB4) 2 (.bool (!r4))).byt
    clear hoq d0 d1 d2
    have hst : RdSt w (((wq4.setCell ⟨w.heap.size, 0, none⟩ (.slice A l.length c)).setCell ⟨w.heap.size, 1, none⟩ (.int .i64 (p4 : Int))).setCell ⟨w.heap.size, 2, none⟩ (.bool (!r4))) (.slice A l.length c) (.int .i64 (p4 : Int)) (.bool (!r4)) #[.int .i64 (a1 : Int), .int .i64 (a2 : Int), .int .i64 2, .int .i64 0, .int .i64 0, .string { data := #[] }, .string { data := #[] }] := HST.out.put (.slice A l.length c) (.int .i64 (p4 : Int)) (.bool (!r4))
    generalize (((wq4.setCell ⟨w.heap.size, 0, none⟩ (.slice A l.length c)).setCell ⟨w.heap.size, 1, none⟩ (.int .i64 (p4 : Int))).setCell ⟨w.heap.size, 2, none⟩ (.bool (!r4))) = wa at *
    clear HST c00 c01 c02 c30 c31 c32 c33 c34 c35 c36 g0 g1 g2 g3
    obtain ⟨⟨c00, c01, c02⟩, ⟨c30, c31, c32, c33, c34, c35, c36⟩, g0, g1, g2, g3⟩ := hst.cells
    have HST := hid hst
    clear hst
    have hcv4 := run_sb hby4
    clear hby4
    go_wp2_with fail
    obtain ⟨k5, p5, r5, HA5⟩ : ∃ x q s, Hid (rdText l p4 r4 = (x, q, s)) := ⟨_, _, _, hid rfl⟩
    have hp5 : p5 ≤ l.length := by have := (rdText_pl (r := r4) hp4).1; rw [HA5.out] at this; exact this
    have HK5 : Hid (k5.length ≤ 65536) := hid (by have := (rdText_pl (r := r4) hp4).2; rw [HA5.out] at this; exact this)
    have C := HT.out p4 r4 hp4 _ (HST.out.tx 5 (.string (sb k4))).bel
    rw [HA5.out] at C
    refine C.mono ?_
    clear C
    rintro e w5 ⟨v5, rfl, ho5, hb⟩
    have hB5 := Nat.lt_of_le_of_lt (show w.heap.size ≤ w.heap.size + 1 + 1 + 1 by omega) (HST.out.tx 5 (.string (sb k4))).lt
    have hst : RdSt w w5 (.slice A l.length c) (.int .i64 (p4 : Int)) (.bool (!r4)) #[.int .i64 (a1 : Int), .int .i64 (a2 : Int), .int .i64 2, .int .i64 0, .int .i64 0, .string (sb k4), .string { data := #[] }] := (HST.out.tx 5 (.string (sb k4))).below hb
    clear hb HST c00 c01 c02 c30 c31 c32 c33 c34 c35 c36 g0 g1 g2 g3
    obtain ⟨⟨c00, c01, c02⟩, ⟨c30, c31, c32, c33, c34, c35, c36⟩, g0, g1, g2, g3⟩ := hst.cells
    have HST := hid hst
    clear hst
    have hcv5 := run_sb ho5.byt
    unfold rv
    go_upto_region 14 with (fail)
    have hoq := ho5.alloc (.cells #[.slice A l.length c, .int .i64 (p5 : Int), .bool (!r5)] 83)
    have hq := heap_alloc_new w5 (.cells #[.slice A l.length c, .int .i64 (p5 : Int), .bool (!r5)] 83)
    clear ho5 hcv5
    have hst : RdSt w (w5.alloc (.cells #[.slice A l.length c, .int .i64 (p5 : Int), .bool (!r5)] 83)) (.slice A l.length c) (.int .i64 (p4 : Int)) (.bool (!r4)) #[.int .i64 (a1 : Int), .int .i64 (a2 : Int), .int .i64 2, .int .i64 0, .int .i64 0, .string (sb k4), .string { data := #[] }] := HST.out.alloc (.cells #[.slice A l.length c, .int .i64 (p5 : Int), .bool (!r5)] 83)
    generalize (w5.alloc (.cells #[.slice A l.length c, .int .i64 (p5 : Int), .bool (!r5)] 83)) = wq5 at *
    clear HST c00 c01 c02 c30 c31 c32 c33 c34 c35 c36 g0 g1 g2 g3
    have d0 := cell_blk hq 0
    have d1 := cell_blk hq 1
    have d2 := cell_blk hq 2
    simp at d0 d1 d2
    clear hq
    obtain ⟨⟨c00, c01, c02⟩, ⟨c30, c31, c32, c33, c34, c35, c36⟩, g0, g1, g2, g3⟩ := hst.cells
    have HST := hid hst
    clear hst
    go_upto_region 15 with (fail)
    have hby5 : Byt (((wq5.setCell ⟨w.heap.size, 0, none⟩ (.slice A l.length c)).setCell ⟨w.heap.size, 1, none⟩ (.int .i64 (p5 : Int))).setCell ⟨w.heap.size, 2, none⟩ (.bool (!r5))) v5 k5 := (((hoq.set (own_far hoq hB5) 0 (.slice A l.length c)).set (own_far hoq hB5) 1 (.int .i64 (p5 : Int))).set (own_far hoq hB5) 2 (.bool (!r5))).byt
    clear hoq d0 d1 d2
    have hst : RdSt w (((wq5.setCell ⟨w.heap.size, 0, none⟩ (.slice A l.length c)).setCell ⟨w.heap.size, 1, none⟩ (.int .i64 (p5 : Int))).setCell ⟨w.heap.size, 2, none⟩ (.bool (!r5))) (.slice A l.length c) (.int .i64 (p5 : Int)) (.bool (!r5)) #[.int .i64 (a1 : Int), .int .i64 (a2 : Int), .int .i64 2, .int .i64 0, .int .i64 0, .string (sb k4), .string { data := #[] }] := HST.out.put (.slice A l.length c) (.int .i64 (p5 : Int)) (.bool (!r5))
    generalize (((wq5.setCell ⟨w.heap.size, 0, none⟩ (.slice A l.length c)).setCell ⟨w.heap.size, 1, none⟩ (.int .i64 (p5 : Int))).setCell ⟨w.heap.size, 2, none⟩ (.bool (!r5))) = wb at *
    clear HST c00 c01 c02 c30 c31 c32 c33 c34 c35 c36 g0 g1 g2 g3
    obtain ⟨⟨c00, c01, c02⟩, ⟨c30, c31, c32, c33, c34, c35, c36⟩, g0, g1, g2, g3⟩ := hst.cells
    have HST := hid hst
    clear hst
    have hcv5 := run_sb hby5
    clear hby5
    have HRAW : Hid (rdRaw l p r = (⟨(a1 : Int), (a2 : Int), 2, 0, 0, k4, k5⟩, p5, r5)) := hid (by unfold rdRaw rdTail; simp [HA1.out, HA2.out, HA3.out, HA4.out, HA5.out])
    go_upto_region 16 with (fail)
    have hst : RdSt w (wb.setCell ⟨w.heap.size + 1 + 1 + 1, 6, none⟩ (.string (sb k5))) (.slice A l.length c) (.int .i64 (p5 : Int)) (.bool (!r5)) #[.int .i64 (a1 : Int), .int .i64 (a2 : Int), .int .i64 2, .int .i64 0, .int .i64 0, .string (sb k4), .string (sb k5)] := HST.out.tx 6 (.string (sb k5))
    generalize (wb.setCell ⟨w.heap.size + 1 + 1 + 1, 6, none⟩ (.string (sb k5))) = wz at *
    clear HST c00 c01 c02 c30 c31 c32 c33 c34 c35 c36 g0 g1 g2 g3
    obtain ⟨⟨c00, c01, c02⟩, ⟨c30, c31, c32, c33, c34, c35, c36⟩, g0, g1, g2, g3⟩ := hst.cells
    obtain ⟨⟨c10, c11, c12⟩, ⟨c20, c21, c22, c23, c24, c25, c26⟩⟩ := hst.cells2
    have HST := hid hst
    clear hst
    cases r5 with
    | false =>
      have hI : rdIs l p r = false := by unfold rdIs; rw [HRAW.out]; rfl
      go_wp2_with fail
      have hfin := HST.out.fin (.slice A l.length c) (.int .i64 (p5 : Int)) (.bool (!false)) (.int .i64 0) (.int .i64 0) (.int .i64 0) (.int .i64 0) (.int .i64 0) (.string { data := #[] }) (.string { data := #[] })
      refine bodyPost_ret (results_rt rfl _ _ _ _ _ _ _ _ _ rfl rfl rfl hfin.1 hfin.2 rfl rfl) rfl ⟨?_, ?_⟩
      · unfold rdTx
        rw [hI, if_neg (by decide), HRAW.out]
        rfl
      · have hb := HST.out.bel
        clear hfin c00 c01 c02 c30 c31 c32 c33 c34 c35 c36 c10 c11 c12 c20 c21 c22 c23 c24 c25 c26 g0 g1 g2 g3
        go_grown
    | true =>
      go_wp2_with fail
      refine (refMay_any ⟨(a1 : Int), (a2 : Int), 2, 0, 0, k4, k5⟩ wz (Nat.le_trans HK4.out (by decide)) (Nat.le_trans HK5.out (by decide))).mono ?_
      rintro e wy ⟨rfl, hb⟩
      have hst := HST.out.below hb
      clear hb HST c00 c01 c02 c30 c31 c32 c33 c34 c35 c36 c10 c11 c12 c20 c21 c22 c23 c24 c25 c26 g0 g1 g2 g3
      obtain ⟨⟨c00, c01, c02⟩, ⟨c30, c31, c32, c33, c34, c35, c36⟩, g0, g1, g2, g3⟩ := hst.cells
      obtain ⟨⟨c10, c11, c12⟩, ⟨c20, c21, c22, c23, c24, c25, c26⟩⟩ := hst.cells2
      have HST := hid hst
      clear hst
      obtain ⟨m, HM⟩ : ∃ m : Bool, Hid (mayT ⟨(a1 : Int), (a2 : Int), 2, 0, 0, k4, k5⟩ = m) := ⟨_, hid rfl⟩
      rw [HM.out]
      have hI : rdIs l p r = m := by unfold rdIs; rw [HRAW.out]; exact HM.out
      cases m with
      | false =>
        go_wp2_with fail
        have hfin := HST.out.fin (.slice A l.length c) (.int .i64 (p5 : Int)) (.bool (!true)) (.int .i64 0) (.int .i64 0) (.int .i64 0) (.int .i64 0) (.int .i64 0) (.string { data := #[] }) (.string { data := #[] })
        refine bodyPost_ret (results_rt rfl _ _ _ _ _ _ _ _ _ rfl rfl rfl hfin.1 hfin.2 rfl rfl) rfl ⟨?_, ?_⟩
        · unfold rdTx
          rw [hI, if_neg (by decide), HRAW.out]
          rfl
        · have hb := HST.out.bel
          clear hfin c00 c01 c02 c30 c31 c32 c33 c34 c35 c36 c10 c11 c12 c20 c21 c22 c23 c24 c25 c26 g0 g1 g2 g3
          go_grown
      | true =>
        go_wp2_with fail
        have hfin := HST.out.fin (.slice A l.length c) (.int .i64 (p5 : Int)) (.bool (!true)) (.int .i64 (a1 : Int)) (.int .i64 (a2 : Int)) (.int .i64 2) (.int .i64 0) (.int .i64 0) (.string (sb k4)) (.string (sb k5))
        go_region
        go_wp2_with fail
        refine bodyPost_ret (results_rt rfl _ _ _ _ _ _ _ _ _ rfl rfl rfl (drew_at hfin.1) (drew_at hfin.2) rfl rfl) rfl ⟨?_, ?_⟩
        · unfold rdTx
          rw [hI, if_pos (by decide), HRAW.out]
          rfl
        · have hb := HST.out.bel
          clear hfin c00 c01 c02 c30 c31 c32 c33 c34 c35 c36 c10 c11 c12 c20 c21 c22 c23 c24 c25 c26 g0 g1 g2 g3
          go_grown
  · skip
    clear hm3
    go_wp2_with fail
    obtain ⟨k4, p4, r4, HA4⟩ : ∃ x q s, Hid (rdText l p3 r3 = (x, q, s)) := ⟨_, _, _, hid rfl⟩
    have hp4 : p4 ≤ l.length := by have := (rdText_pl (r := r3) hp3).1; rw [HA4.out] at this; exact this
    have HK4 : Hid (k4.length ≤ 65536) := hid (by have := (rdText_pl (r := r3) hp3).2; rw [HA4.out] at this; exact this)
    have C := HT.out p3 r3 hp3 _ ((HST.out.put (.slice A l.length c) (.int .i64 (p3 : Int)) (.bool (!r3))).tx 2 (.int .i64 3)).bel
    rw [HA4.out] at C
    refine C.mono ?_
    clear C
    rintro e w4 ⟨v4, rfl, ho4, hb⟩
    have hB4 := Nat.lt_of_le_of_lt (show w.heap.size ≤ w.heap.size + 1 + 1 + 1 by omega) ((HST.out.put (.slice A l.length c) (.int .i64 (p3 : Int)) (.bool (!r3))).tx 2 (.int .i64 3)).lt
    have hst : RdSt w w4 (.slice A l.length c) (.int .i64 (p3 : Int)) (.bool (!r3)) #[.int .i64 (a1 : Int), .int .i64 (a2 : Int), .int .i64 3, .int .i64 0, .int .i64 0, .string { data := #[] }, .string { data := #[] }] := ((HST.out.put (.slice A l.length c) (.int .i64 (p3 : Int)) (.bool (!r3))).tx 2 (.int .i64 3)).below hb
    clear hb HST c00 c01 c02 c30 c31 c32 c33 c34 c35 c36 g0 g1 g2 g3
    obtain ⟨⟨c00, c01, c02⟩, ⟨c30, c31, c32, c33, c34, c35, c36⟩, g0, g1, g2, g3⟩ := hst.cells
    have HST := hid hst
    clear hst
    have hcv4 := run_sb ho4.byt
    unfold rv
    go_upto_region 10 with (fail)
    have hoq := ho4.alloc (.cells #[.slice A l.length c, .int .i64 (p4 : Int), .bool (!r4)] 83)
    have hq := heap_alloc_new w4 (.cells #[.slice A l.length c, .int .i64 (p4 : Int), .bool (!r4)] 83)
    clear ho4 hcv4
    have hst : RdSt w (w4.alloc (.cells #[.slice A l.length c, .int .i64 (p4 : Int), .bool (!r4)] 83)) (.slice A l.length c) (.int .i64 (p3 : Int)) (.bool (!r3)) #[.int .i64 (a1 : Int), .int .i64 (a2 : Int), .int .i64 3, .int .i64 0, .int .i64 0, .string { data := #[] }, .string { data := #[] }] := HST.out.alloc (.cells #[.slice A l.length c, .int .i64 (p4 : Int), .bool (!r4)] 83)
    generalize (w4.alloc (.cells #[.slice A l.length c, .int .i64 (p4 : Int), .bool (!r4)] 83)) = wq4 at *
    clear HST c00 c01 c02 c30 c31 c32 c33 c34 c35 c36 g0 g1 g2 g3
    have d0 := cell_blk hq 0
    have d1 := cell_blk hq 1
    have d2 := cell_blk hq 2
    simp at d0 d1 d2
    clear hq
    obtain ⟨⟨c00, c01, c02⟩, ⟨c30, c31, c32, c33, c34, c35, c36⟩, g0, g1, g2, g3⟩ := hst.cells
    have HST := hid hst
    clear hst
    go_upto_region 11 with (fail)
    have hby4 : Byt (((wq4.setCell ⟨w.heap.size, 0, none⟩ (.slice A l.length c)).setCell ⟨w.heap.size, 1, none⟩ (.int .i64 (p4 : Int))).setCell ⟨w.heap.size, 2, none⟩ (.bool (!r4))) v4 k4 := (((hoq.set (own_far hoq hB4) 0 (.slice A l.length c)).set (own_far hoq hB4) 1 (.int .i64 (p4 : Int))).set (own_far hoq hB4) 2 (.bool (!r4))).byt
    clear hoq d0 d1 d2
    have hst : RdSt w (((wq4.setCell ⟨w.heap.size, 0, none⟩ (.slice A l.length c)).setCell ⟨w.heap.size, 1, none⟩ (.int .i64 (p4 : Int))).setCell ⟨w.heap.size, 2, none⟩ (.bool (!r4))) (.slice A l.length c) (.int .i64 (p4 : Int)) (.bool (!r4)) #[.int .i64 (a1 : Int), .int .i64 (a2 : Int), .int .i64 3, .int .i64 0, .int .i64 0, .string { data := #[] }, .string { data := #[] }] := HST.out.put (.slice A l.length c) (.int .i64 (p4 : Int)) (.bool (!r4))
    generalize (((wq4.setCell ⟨w.heap.size, 0, none⟩ (.slice A l.length c)).setCell ⟨w.heap.size, 1, none⟩ (.int .i64 (p4 : Int))).setCell ⟨w.heap.size, 2, none⟩ (.bool (!r4))) = wa at *
    clear HST c00 c01 c02 c30 c31 c32 c33 c34 c35 c36 g0 g1 g2 g3
    obtain ⟨⟨c00, c01, c02⟩, ⟨c30, c31, c32, c33, c34, c35, c36⟩, g0, g1, g2, g3⟩ := hst.cells
    have HST := hid hst
    clear hst
    have hcv4 := run_sb hby4
    clear hby4
    have HRAW : Hid (rdRaw l p r = (⟨(a1 : Int), (a2 : Int), 3, 0, 0, k4, []⟩, p4, r4)) := hid (by unfold rdRaw rdTail; simp [HA1.out, HA2.out, HA3.out, HA4.out])
    go_upto_region 16 with (fail)
    have hst : RdSt w (wa.setCell ⟨w.heap.size + 1 + 1 + 1, 5, none⟩ (.string (sb k4))) (.slice A l.length c) (.int .i64 (p4 : Int)) (.bool (!r4)) #[.int .i64 (a1 : Int), .int .i64 (a2 : Int), .int .i64 3, .int .i64 0, .int .i64 0, .string (sb k4), .string { data := #[] }] := HST.out.tx 5 (.string (sb k4))
    generalize (wa.setCell ⟨w.heap.size + 1 + 1 + 1, 5, none⟩ (.string (sb k4))) = wz at *
    clear HST c00 c01 c02 c30 c31 c32 c33 c34 c35 c36 g0 g1 g2 g3
    obtain ⟨⟨c00, c01, c02⟩, ⟨c30, c31, c32, c33, c34, c35, c36⟩, g0, g1, g2, g3⟩ := hst.cells
    obtain ⟨⟨c10, c11, c12⟩, ⟨c20, c21, c22, c23, c24, c25, c26⟩⟩ := hst.cells2
    have HST := hid hst
    clear hst
    cases r4 with
    | false =>
      have hI : rdIs l p r = false := by unfold rdIs; rw [HRAW.out]; rfl
      go_wp2_with fail
      have hfin := HST.out.fin (.slice A l.length c) (.int .i64 (p4 : Int)) (.bool (!false)) (.int .i64 0) (.int .i64 0) (.int .i64 0) (.int .i64 0) (.int .i64 0) (.string { data := #[] }) (.string { data := #[] })
      refine bodyPost_ret (results_rt rfl _ _ _ _ _ _ _ _ _ rfl rfl rfl hfin.1 hfin.2 rfl rfl) rfl ⟨?_, ?_⟩
      · unfold rdTx
        rw [hI, if_neg (by decide), HRAW.out]
        rfl
      · have hb := HST.out.bel
        clear hfin c00 c01 c02 c30 c31 c32 c33 c34 c35 c36 c10 c11 c12 c20 c21 c22 c23 c24 c25 c26 g0 g1 g2 g3
        go_grown
    | true =>
      go_wp2_with fail
      refine (refMay_any ⟨(a1 : Int), (a2 : Int), 3, 0, 0, k4, []⟩ wz (Nat.le_trans HK4.out (by decide)) (Nat.zero_le _)).mono ?_
      rintro e wy ⟨rfl, hb⟩
      have hst := HST.out.below hb
      clear hb HST c00 c01 c02 c30 c31 c32 c33 c34 c35 c36 c10 c11 c12 c20 c21 c22 c23 c24 c25 c26 g0 g1 g2 g3
      obtain ⟨⟨c00, c01, c02⟩, ⟨c30, c31, c32, c33, c34, c35, c36⟩, g0, g1, g2, g3⟩ := hst.cells
      obtain ⟨⟨c10, c11, c12⟩, ⟨c20, c21, c22, c23, c24, c25, c26⟩⟩ := hst.cells2
      have HST := hid hst
      clear hst
      obtain ⟨m, HM⟩ : ∃ m : Bool, Hid (mayT ⟨(a1 : Int), (a2 : Int), 3, 0, 0, k4, []⟩ = m) := ⟨_, hid rfl⟩
      rw [HM.out]
      have hI : rdIs l p r = m := by unfold rdIs; rw [HRAW.out]; exact HM.out
      cases m with
      | false =>
        go_wp2_with fail
        have hfin := HST.out.fin (.slice A l.length c) (.int .i64 (p4 : Int)) (.bool (!true)) (.int .i64 0) (.int .i64 0) (.int .i64 0) (.int .i64 0) (.int .i64 0) (.string { data := #[] }) (.string { data := #[] })
        refine bodyPost_ret (results_rt rfl _ _ _ _ _ _ _ _ _ rfl rfl rfl hfin.1 hfin.2 rfl rfl) rfl ⟨?_, ?_⟩
        · unfold rdTx
          rw [hI, if_neg (by decide), HRAW.out]
          rfl
        · have hb := HST.out.bel
          clear hfin c00 c01 c02 c30 c31 c32 c33 c34 c35 c36 c10 c11 c12 c20 c21 c22 c23 c24 c25 c26 g0 g1 g2 g3
          go_grown
      | true =>
        go_wp2_with fail
        have hfin := HST.out.fin (.slice A l.length c) (.int .i64 (p4 : Int)) (.bool (!true)) (.int .i64 (a1 : Int)) (.int .i64 (a2 : Int)) (.int .i64 3) (.int .i64 0) (.int .i64 0) (.string (sb k4)) (.string { data := #[] })
        go_region
        go_wp2_with fail
        refine bodyPost_ret (results_rt rfl _ _ _ _ _ _ _ _ _ rfl rfl rfl (drew_at hfin.1) (drew_at hfin.2) rfl rfl) rfl ⟨?_, ?_⟩
        · unfold rdTx
          rw [hI, if_pos (by decide), HRAW.out]
          rfl
        · have hb := HST.out.bel
          clear hfin c00 c01 c02 c30 c31 c32 c33 c34 c35 c36 c10 c11 c12 c20 c21 c22 c23 c24 c25 c26 g0 g1 g2 g3
          go_grown
end Go.Proofs.YtjemfmbmlmogcaaGreat
namespace Go.Proofs.YtjemfmbmlmogcaaGreat
set_option maxRecDepth 20000
open Go.RowKit
theorem account_any (n : Int) (w : World) : Calls Tryz.prog 101 #[.int .i64 n] w fun e w' => e = .returned (.bool (decide (1 ≤ n) && decide (n ≤ 40))) ∧ w = w' := by
  go_enter Tryz.func101, Tryz.ntmps101
  go_wp2_with fail
  all_goals
    go_ret
    refine ⟨congrArg (fun b => Ending.returned (Value.bool b)) ?_, rfl⟩
  all_goals grind
set_option maxHeartbeats 1600000 in
theorem keyText_any (l : List UInt8) (w : World) (hs : l.length ≤ 1000000) :
    Calls Tryz.prog 117 #[.string (sb l)] w fun e w' => e = .returned (.bool (keyOk l)) ∧ w = w' := by
  have hsz := sb_size l
  obtain ⟨L, HL⟩ : ∃ L : Nat, Hid (l.length = L) := ⟨_, hid rfl⟩
  rw [HL.out] at hsz hs
  obtain ⟨s, HS⟩ : ∃ s : ByteArray, Hid (sb l = s) := ⟨_, hid rfl⟩
  rw [HS.out] at hsz ⊢
  by_cases h1 : 1 ≤ L
  · by_cases h2 : L ≤ 16
    · have h1i : ¬ (L : Int) < 1 := by omega
      have h2i : ¬ (16 : Int) < (L : Int) := by omega
      go_enter Tryz.func117, Tryz.ntmps117
      go_wp2_with fail
      go_loop [15, 3, 4] (fun si _ _ => ∃ i : Nat, i ≤ L ∧ si = .int .i64 (i : Int) ∧ Hid (∀ j, j < i → keyCh (l.getD j 0) = true)) (fun si _ _ => L - (intOf si).toNat)
      case atStart => exact ⟨0, Nat.zero_le _, rfl, hid (fun j hj => absurd hj (Nat.not_lt_zero _))⟩
      case round =>
        obtain ⟨i, hi, rfl, HD⟩ := hrel
        by_cases hlt : i < L
        · have hiL : (i : Int) < (L : Int) := by omega
          have hil : i < l.length := by rw [HL.out]; exact hlt
          obtain ⟨y, HY⟩ : ∃ y : Int, Hid (((l.getD i 0).toNat : Int) = y) := ⟨_, hid rfl⟩
          have i0 : ∀ w : World, (Instr.index 9 (.string s) (.int .i64 (i : Int))).run Tryz.prog w = .ok (.int .u8 y) w := fun w => by
            rw [← HS.out]
            exact str_index l i hil _ rfl HY.out w
          have hr : 0 ≤ y ∧ y ≤ 255 := by have := byte_lt (l.getD i 0); rw [HY.out] at this; exact this
          have HNO : ∀ (_ : keyCh (l.getD i 0) = false), Hid (keyOk l = false) := fun h => hid (keyOk_no hil h)
          have HYES : ∀ (_ : keyCh (l.getD i 0) = true), Hid (∀ j, j < i + 1 → keyCh (l.getD j 0) = true) := fun h => hid (fun j hj => by
            rcases Nat.lt_or_ge j i with h2 | h2
            · exact HD.out j h2
            · obtain rfl : j = i := by omega
              exact h)
          obtain ⟨hk, g1, g2⟩ | ⟨hk, g1, g2, g3⟩ | ⟨hk, g1⟩ | ⟨hk, g1, g2⟩ | ⟨hk, g1⟩ := keyB_cases (l.getD i 0) y HY.out
          · have HY2 := HYES hk
            have k1 : ¬ y < 97 := by omega
            have k2 : ¬ 122 < y := by omega
            clear HNO HYES hk HD
            go_wp2_with fail
            go_round
            case rel => exact ⟨i + 1, by omega, by go_num, HY2⟩
            case measure => simp [intOf]; omega
          · have HY2 := HYES hk
            have k1 : y < 97 := by omega
            have k3 : ¬ y < 48 := by omega
            have k4 : ¬ 57 < y := by omega
            clear HNO HYES hk HD
            go_wp2_with fail
            go_round
            case rel => exact ⟨i + 1, by omega, by go_num, HY2⟩
            case measure => simp [intOf]; omega
          · have HN2 := HNO hk
            clear HNO HYES hk HD
            have k1 : ¬ y < 97 := by omega
            have k2 : 122 < y := by omega
            have k3 : ¬ y < 48 := by omega
            have k4 : 57 < y := by omega
            go_wp2_with fail
            go_ret
            exact ⟨by rw [HN2.out]; rfl, rfl⟩
          · have HN2 := HNO hk
            clear HNO HYES hk HD
            have k1 : y < 97 := by omega
            have k3 : ¬ y < 48 := by omega
            go_wp2_with fail
            go_ret
            exact ⟨by rw [HN2.out]; rfl, rfl⟩
          · have HN2 := HNO hk
            clear HNO HYES hk HD
            have k1 : y < 97 := by omega
            go_wp2_with fail
            go_ret
            exact ⟨by rw [HN2.out]; rfl, rfl⟩
        · have hiL : ¬ (i : Int) < (L : Int) := by omega
          obtain rfl : i = L := by omega
          have HK := hid (keyOk_yes (l := l) (by rw [HL.out]; exact HD.out))
          clear HD
          go_wp2_with fail
          go_ret
          exact ⟨by rw [HK.out, HL.out, decide_eq_true h1, decide_eq_true h2]; rfl, rfl⟩
    · have h1i : ¬ (L : Int) < 1 := by omega
      have h2i : (16 : Int) < (L : Int) := by omega
      have HN : Hid (keyOk l = false) := hid (by unfold keyOk; rw [HL.out, decide_eq_false h2, Bool.and_false, Bool.and_false])
      go_enter Tryz.func117, Tryz.ntmps117
      go_wp2_with fail
      go_ret
      exact ⟨by rw [HN.out]; rfl, rfl⟩
  · have h1i : (L : Int) < 1 := by omega
    have HN : Hid (keyOk l = false) := hid (by unfold keyOk; rw [HL.out, decide_eq_false h1, Bool.false_and, Bool.and_false])
    go_enter Tryz.func117, Tryz.ntmps117
    go_wp2_with fail
    go_ret
    exact ⟨by rw [HN.out]; rfl, rfl⟩
def kindT (t : TxM) : Bool :=
  if t.ki = 1 then decide (1 ≤ t.to) && decide (t.to ≤ 40) && decide (0 ≤ t.am) && decide (t.am ≤ 1099511627776) && decide (t.key = []) && decide (t.val = []) else
  if t.ki = 2 then decide (t.to = 0) && decide (t.am = 0) && keyOk t.key && decide (t.val.length ≤ 200) else
  if t.ki = 3 then decide (t.to = 0) && decide (t.am = 0) && keyOk t.key && decide (t.val = []) else false
set_option maxHeartbeats 6400000 in
theorem ofKind_any (t : TxM) (w : World) (hk : t.key.length ≤ 1000000) (hv : t.val.length ≤ 1000000) :
    Calls Tryz.prog 102 #[txv t] w fun e w' => e = .returned (.bool (kindT t)) ∧ Below w.heap.size w w' := by
  obtain ⟨fr, no, ki, tu, am, key, val⟩ := t
  simp only at hk hv
  have HK := hid hk
  have hvs := sb_size val
  have hke := sb_empty key
  have hve := sb_empty val
  clear hk hv
  unfold txv
  simp only
  obtain ⟨s, HS⟩ : ∃ s : ByteArray, Hid (sb key = s) := ⟨_, hid rfl⟩
  obtain ⟨u, HU⟩ : ∃ s : ByteArray, Hid (sb val = s) := ⟨_, hid rfl⟩
  obtain ⟨n, HN⟩ : ∃ n : Nat, Hid (val.length = n) := ⟨_, hid rfl⟩
  rw [HS.out] at hke ⊢
  rw [HU.out] at hve hvs ⊢
  rw [HN.out] at hvs
  obtain ⟨m, HM⟩ : ∃ m : Bool, Hid (kindT ⟨fr, no, ki, tu, am, key, val⟩ = m) := ⟨_, hid rfl⟩
  rw [HM.out]
  obtain ⟨ke, HKE⟩ : ∃ b : Bool, Hid (decide (key = []) = b) := ⟨_, hid rfl⟩
  obtain ⟨ve, HVE⟩ : ∃ b : Bool, Hid (decide (val = []) = b) := ⟨_, hid rfl⟩
  rw [HKE.out] at hke
  rw [HVE.out] at hve
  go_enter Tryz.func102, Tryz.ntmps102
  go_wp2_with fail
  all_goals first
    | (have C := fun w => keyText_any key w HK.out
       rw [HS.out] at C
       refine (C _).mono ?_
       clear C
       rintro e w1 ⟨rfl, rfl⟩
       obtain ⟨ko, HKO⟩ : ∃ b : Bool, Hid (keyOk key = b) := ⟨_, hid rfl⟩
       rw [HKO.out]
       have hko := HKO.out
       go_wp2_with fail)
    | (refine (account_any tu _).mono ?_
       rintro e w1 ⟨rfl, rfl⟩
       obtain ⟨ao, HAO⟩ : ∃ b : Bool, Hid ((decide (1 ≤ tu) && decide (tu ≤ 40)) = b) := ⟨_, hid rfl⟩
       rw [HAO.out]
       have hao := HAO.out
       go_wp2_with fail)
    | skip
  all_goals
    go_ret
    refine ⟨?_, (Below.refl _ _).alloc (Nat.le_refl _) _⟩
    refine congrArg (fun b => Ending.returned (Value.bool b)) ?_
    rw [← HM.out]
    clear HM HS HU HK
    unfold kindT
    simp only [HKE.out, HVE.out, HN.out]
  all_goals grind
end Go.Proofs.YtjemfmbmlmogcaaGreat
