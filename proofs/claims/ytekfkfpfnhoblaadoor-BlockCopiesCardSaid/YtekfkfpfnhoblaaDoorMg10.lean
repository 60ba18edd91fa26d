/-
  TxRefRead BkRd BkOwn: what each of them says stands at its head.
-/
import Derived.Test.YtekfkfpfnhoblaaDoorMg4
import Derived.BigRegion
import Derived.Deep.DeepCutAuto
import Derived.Test.YtekfkfpfnhoblaaDoorMg9
import Derived.Test.YtekfkfpfnhoblaaDoorMg5
/-
  tithingref06.Read: the transaction that bytes begin with.
-/
namespace Go.Proofs.YtekfkfpfnhoblaaDoor
set_option maxRecDepth 20000
open Go.RowKit

theorem under_rd1 : Tryd.prog.underlying 61 = some (.struct (Tryd.prog.fieldsOf 61)) := by kernel_rfl
theorem size_rd1 : (Tryd.prog.info? 61).map (·.size) = some 3 := by kernel_rfl
theorem under_tx : Tryd.prog.underlying 45 = some (.struct (Tryd.prog.fieldsOf 45)) := by kernel_rfl
theorem size_tx : (Tryd.prog.info? 45).map (·.size) = some 7 := by kernel_rfl
/-- Two results that lie in memory, and one that doesn't. -/
theorem results_rt {fn : Func} {p q s : Tmp} (h : fn.results = #[.cell p 61, .cell q 45, .tmp s]) (tmps : Array Value) (w : World) (g1 g2 : Nat) (t1 t2 : TypeId) (xs ys : Array Value) (v : Value)
    (hp : tmps.getD p undef = .pointer (some ⟨g1, 0, none⟩)) (hq : tmps.getD q undef = .pointer (some ⟨g2, 0, none⟩)) (hv : tmps.getD s undef = v) (h1 : w.heap[g1]? = some (.cells xs t1 (0, 0))) (h2 : w.heap[g2]? = some (.cells ys t2 (0, 0))) (hx : xs.size = 3) (hy : ys.size = 7) :
    (results fn tmps).run Tryd.prog w = .ok (.tuple #[.agg xs, .agg ys, v]) w := by
  have hp' : tmps[p]?.getD undef = .pointer (some ⟨g1, 0, none⟩) := by simpa using hp
  have hq' : tmps[q]?.getD undef = .pointer (some ⟨g2, 0, none⟩) := by simpa using hq
  have hv' : tmps[s]?.getD undef = v := by simpa using hv
  have r1 := run_loadVar_row (P := Tryd.prog) w g1 t1 61 xs (0, 0) _ h1 under_rd1 rfl (by rw [size_rd1, hx])
  have r2 := run_loadVar_row (P := Tryd.prog) w g2 t2 45 ys (0, 0) _ h2 under_tx rfl (by rw [size_tx, hy])
  simp [results, h, hp', hq', hv', asAddr, r1, r2]
theorem run_sb {w : World} {v : Value} {l : List UInt8} (hv : Byt w v l) : (convert 29 9 v).run Tryd.prog w = .ok (.string (sb l)) w := by
  obtain ⟨A, c, rfl, h1, h2, hr⟩ := hv
  by_cases h0 : 0 < l.length
  · obtain ⟨b, off, rfl, _, hc⟩ := hr h0
    exact run_convert_bytes_back w _ _ 5 _ _ l under_bytes (by kernel_rfl) under_string (fun j hj => by rw [addr_add]; exact hc j hj)
  · obtain rfl : l = [] := List.eq_nil_of_length_eq_zero (by omega)
    rw [run_convert_bytes_string w _ _ 5 _ _ _ under_bytes (by kernel_rfl) under_string]
    cases A <;> simp [Conv.bytesToString, loadCells] <;> rfl
theorem drew_at {w : World} {i : Nat} {o : Option Obj} (h : w.heap[i]? = o) : w.drew.heap[i]? = o := h
theorem RdSt.alloc {w0 w : World} {x0 x1 x2 : Value} {t : Array Value} (h : RdSt w0 w x0 x1 x2 t) (o : Obj) : RdSt w0 (w.alloc o) x0 x1 x2 t := h.below ((Below.refl _ _).alloc (Nat.le_refl _) o)
theorem own_far {B g : Nat} {w : World} {v : Value} {l : List UInt8} (h : Own B w v l) (hg : g < B) : v.ownBlock ≠ some g := fun e => by
  have := (World.ownsRow.lt h g e).1
  omega
/-- The results, once they are laid. -/
theorem RdSt.fin {w0 w : World} {x0 x1 x2 : Value} {t : Array Value} (h : RdSt w0 w x0 x1 x2 t) (y0 y1 y2 u0 u1 u2 u3 u4 u5 u6 : Value) :
    ((((((((((w.setCell ⟨w0.heap.size + 1, 0, none⟩ y0).setCell ⟨w0.heap.size + 1, 1, none⟩ y1).setCell ⟨w0.heap.size + 1, 2, none⟩ y2).setCell ⟨w0.heap.size + 1 + 1, 0, none⟩ u0).setCell ⟨w0.heap.size + 1 + 1, 1, none⟩ u1).setCell ⟨w0.heap.size + 1 + 1, 2, none⟩ u2).setCell ⟨w0.heap.size + 1 + 1, 3, none⟩ u3).setCell ⟨w0.heap.size + 1 + 1, 4, none⟩ u4).setCell ⟨w0.heap.size + 1 + 1, 5, none⟩ u5).setCell ⟨w0.heap.size + 1 + 1, 6, none⟩ u6).heap[w0.heap.size + 1]? = some (.cells #[y0, y1, y2] 61 (0, 0)) ∧
    ((((((((((w.setCell ⟨w0.heap.size + 1, 0, none⟩ y0).setCell ⟨w0.heap.size + 1, 1, none⟩ y1).setCell ⟨w0.heap.size + 1, 2, none⟩ y2).setCell ⟨w0.heap.size + 1 + 1, 0, none⟩ u0).setCell ⟨w0.heap.size + 1 + 1, 1, none⟩ u1).setCell ⟨w0.heap.size + 1 + 1, 2, none⟩ u2).setCell ⟨w0.heap.size + 1 + 1, 3, none⟩ u3).setCell ⟨w0.heap.size + 1 + 1, 4, none⟩ u4).setCell ⟨w0.heap.size + 1 + 1, 5, none⟩ u5).setCell ⟨w0.heap.size + 1 + 1, 6, none⟩ u6).heap[w0.heap.size + 1 + 1]? = some (.cells #[u0, u1, u2, u3, u4, u5, u6] 45 (0, 0)) := by
  have a1 := set_blk (set_blk (set_blk h.b1 0 y0) 1 y1) 2 y2
  have a2 := blk_other (blk_other (blk_other h.b2 y0 (i := 0) (b := w0.heap.size + 1) (by omega)) y1 (i := 1) (b := w0.heap.size + 1) (by omega)) y2 (i := 2) (b := w0.heap.size + 1) (by omega)
  exact ⟨blk_other (blk_other (blk_other (blk_other (blk_other (blk_other (blk_other a1 u0 (by omega)) u1 (by omega)) u2 (by omega)) u3 (by omega)) u4 (by omega)) u5 (by omega)) u6 (by omega),
    set_blk (set_blk (set_blk (set_blk (set_blk (set_blk (set_blk a2 0 u0) 1 u1) 2 u2) 3 u3) 4 u4) 5 u5) 6 u6⟩

set_option maxHeartbeats 6400000 in
theorem refTx_any (A : Option Addr) (c p : Nat) (r : Bool) (l : List UInt8) (w : World) (hv : Byt w (.slice A l.length c) l) (hp : p ≤ l.length) (hl : l.length ≤ 1000000) :
    Calls Tryd.prog 38 #[rv A l.length c p (!r)] w fun e w' => e = .returned (.tuple #[rv A l.length c (rdRaw l p r).2.1 (!(rdRaw l p r).2.2), txv (rdTx l p r), .bool (rdIs l p r)]) ∧ Below w.heap.size w w' := by
  have HU := hid (fun p r (hp : p ≤ l.length) m (h1 : -9223372036854775808 ≤ m) (h2 : m ≤ 9223372036854775807) (w' : World) (hb : Below w.heap.size w w') => refUpto_any A c p r l m w' (hv.below hb) hp (by omega) h1 h2)
  have HT := hid (fun p r (hp : p ≤ l.length) (w' : World) (hb : Below w.heap.size w w') => refText_any A c p r l w' (hv.below hb) hp (by omega))
  clear hv
  unfold rv
  have hst0 := RdSt.new w (.slice A l.length c) (.int .i64 (p : Int)) (.bool (!r))
  unfold zeroTx at hst0
  go_enter Tryd.func38, Tryd.ntmps38
  go_wp2_with fail
  obtain ⟨a1, p1, r1, HA1⟩ : ∃ x q s, Hid (rdUpto 40 l p r = (x, q, s)) := ⟨_, _, _, hid rfl⟩
  have hp1 : p1 ≤ l.length := by have := rdUpto_pl (m := 40) (r := r) hp; rw [HA1.out] at this; exact this
  have hm1 : a1 ≤ 40 := by have := rdUpto_le (m := 40) (l := l) (p := p) (r := r); rw [show ((40 : Nat) : Int) = 40 from rfl, HA1.out] at this; exact this
  have C := HU.out p r hp 40 (by omega) (by omega) _ (hst0).bel
  rw [HA1.out] at C
  refine C.mono ?_
  clear C
  rintro e w1 ⟨rfl, hb⟩
  have hst : RdSt w w1 (.slice A l.length c) (.int .i64 (p : Int)) (.bool (!r)) #[.int .i64 0, .int .i64 0, .int .i64 0, .int .i64 0, .int .i64 0, .string { data := #[] }, .string { data := #[] }] := (hst0).below hb
  clear hb hst0
  obtain ⟨⟨c00, c01, c02⟩, ⟨c30, c31, c32, c33, c34, c35, c36⟩, g0, g1, g2, g3⟩ := hst.cells
  have HST := hid hst
  clear hst
  unfold rv
  go_wp2_with fail
  obtain ⟨a2, p2, r2, HA2⟩ : ∃ x q s, Hid (rdUpto 1099511627776 l p1 r1 = (x, q, s)) := ⟨_, _, _, hid rfl⟩
  have hp2 : p2 ≤ l.length := by have := rdUpto_pl (m := 1099511627776) (r := r1) hp1; rw [HA2.out] at this; exact this
  have hm2 : a2 ≤ 1099511627776 := by have := rdUpto_le (m := 1099511627776) (l := l) (p := p1) (r := r1); rw [show ((1099511627776 : Nat) : Int) = 1099511627776 from rfl, HA2.out] at this; exact this
  have C := HU.out p1 r1 hp1 1099511627776 (by omega) (by omega) _ ((HST.out.put (.slice A l.length c) (.int .i64 (p1 : Int)) (.bool (!r1))).tx 0 (.int .i64 (a1 : Int))).bel
  rw [HA2.out] at C
  refine C.mono ?_
  clear C
  rintro e w2 ⟨rfl, hb⟩
  have hst : RdSt w w2 (.slice A l.length c) (.int .i64 (p1 : Int)) (.bool (!r1)) #[.int .i64 (a1 : Int), .int .i64 0, .int .i64 0, .int .i64 0, .int .i64 0, .string { data := #[] }, .string { data := #[] }] := ((HST.out.put (.slice A l.length c) (.int .i64 (p1 : Int)) (.bool (!r1))).tx 0 (.int .i64 (a1 : Int))).below hb
  clear hb HST c00 c01 c02 c30 c31 c32 c33 c34 c35 c36 g0 g1 g2 g3
  obtain ⟨⟨c00, c01, c02⟩, ⟨c30, c31, c32, c33, c34, c35, c36⟩, g0, g1, g2, g3⟩ := hst.cells
  have HST := hid hst
  clear hst
  unfold rv
  go_wp2_with fail
  obtain ⟨a3, p3, r3, HA3⟩ : ∃ x q s, Hid (rdUpto 3 l p2 r2 = (x, q, s)) := ⟨_, _, _, hid rfl⟩
  have hp3 : p3 ≤ l.length := by have := rdUpto_pl (m := 3) (r := r2) hp2; rw [HA3.out] at this; exact this
  have hm3 : a3 ≤ 3 := by have := rdUpto_le (m := 3) (l := l) (p := p2) (r := r2); rw [show ((3 : Nat) : Int) = 3 from rfl, HA3.out] at this; exact this
  have C := HU.out p2 r2 hp2 3 (by omega) (by omega) _ ((HST.out.put (.slice A l.length c) (.int .i64 (p2 : Int)) (.bool (!r2))).tx 1 (.int .i64 (a2 : Int))).bel
  rw [HA3.out] at C
  refine C.mono ?_
  clear C
  rintro e w3 ⟨rfl, hb⟩
  have hst : RdSt w w3 (.slice A l.length c) (.int .i64 (p2 : Int)) (.bool (!r2)) #[.int .i64 (a1 : Int), .int .i64 (a2 : Int), .int .i64 0, .int .i64 0, .int .i64 0, .string { data := #[] }, .string { data := #[] }] := ((HST.out.put (.slice A l.length c) (.int .i64 (p2 : Int)) (.bool (!r2))).tx 1 (.int .i64 (a2 : Int))).below hb
  clear hb HST c00 c01 c02 c30 c31 c32 c33 c34 c35 c36 g0 g1 g2 g3
  obtain ⟨⟨c00, c01, c02⟩, ⟨c30, c31, c32, c33, c34, c35, c36⟩, g0, g1, g2, g3⟩ := hst.cells
  have HST := hid hst
  clear hst
  unfold rv
  obtain ha3 | ha3 | ha3 | ha3 : a3 = 0 ∨ a3 = 1 ∨ a3 = 2 ∨ a3 = 3 := by omega
  all_goals subst ha3
  · skip
    clear hm3
    have HRAW : Hid (rdRaw l p r = (⟨(a1 : Int), (a2 : Int), 0, 0, 0, [], []⟩, p3, r3)) := hid (by unfold rdRaw rdTail; simp [HA1.out, HA2.out, HA3.out])
    go_upto_region 16 with (fail)
    have hst : RdSt w ((((w3.setCell ⟨w.heap.size, 0, none⟩ (.slice A l.length c)).setCell ⟨w.heap.size, 1, none⟩ (.int .i64 (p3 : Int))).setCell ⟨w.heap.size, 2, none⟩ (.bool (!r3))).setCell ⟨w.heap.size + 1 + 1 + 1, 2, none⟩ (.int .i64 0)) (.slice A l.length c) (.int .i64 (p3 : Int)) (.bool (!r3)) #[.int .i64 (a1 : Int), .int .i64 (a2 : Int), .int .i64 0, .int .i64 0, .int .i64 0, .string { data := #[] }, .string { data := #[] }] := (HST.out.put (.slice A l.length c) (.int .i64 (p3 : Int)) (.bool (!r3))).tx 2 (.int .i64 0)
    generalize ((((w3.setCell ⟨w.heap.size, 0, none⟩ (.slice A l.length c)).setCell ⟨w.heap.size, 1, none⟩ (.int .i64 (p3 : Int))).setCell ⟨w.heap.size, 2, none⟩ (.bool (!r3))).setCell ⟨w.heap.size + 1 + 1 + 1, 2, none⟩ (.int .i64 0)) = wz at hst ⊢
    clear HST c00 c01 c02 c30 c31 c32 c33 c34 c35 c36 g0 g1 g2 g3
    obtain ⟨⟨c00, c01, c02⟩, ⟨c30, c31, c32, c33, c34, c35, c36⟩, g0, g1, g2, g3⟩ := hst.cells
    obtain ⟨⟨c10, c11, c12⟩, ⟨c20, c21, c22, c23, c24, c25, c26⟩⟩ := hst.cells2
    have HST := hid hst
    clear hst
    cases r3 with
    | false =>
      have hI : rdIs l p r = false := by unfold rdIs; rw [HRAW.out]; rfl
      go_wp2_with fail
      have hfin := HST.out.fin (.slice A l.length c) (.int .i64 (p3 : Int)) (.bool (!false)) (.int .i64 0) (.int .i64 0) (.int .i64 0) (.int .i64 0) (.int .i64 0) (.string { data := #[] }) (.string { data := #[] })
      refine bodyPost_ret (results_rt rfl _ _ _ _ _ _ _ _ _ rfl rfl rfl hfin.1 hfin.2 rfl rfl) rfl ⟨?_, ?_⟩
      · unfold rdTx
        rw [hI, if_neg (by decide), HRAW.out]
        rfl
      · have hb := HST.out.bel
        clear hfin c00 c01 c02 c30 c31 c32 c33 c34 c35 c36 c10 c11 c12 c20 c21 c22 c23 c24 c25 c26 g0 g1 g2 g3
        go_grown
    | true =>
      go_wp2_with fail
      refine (refMay_any ⟨(a1 : Int), (a2 : Int), 0, 0, 0, [], []⟩ wz (Nat.zero_le _) (Nat.zero_le _)).mono ?_
      rintro e wy ⟨rfl, hb⟩
      have hst := HST.out.below hb
      clear hb HST c00 c01 c02 c30 c31 c32 c33 c34 c35 c36 c10 c11 c12 c20 c21 c22 c23 c24 c25 c26 g0 g1 g2 g3
      obtain ⟨⟨c00, c01, c02⟩, ⟨c30, c31, c32, c33, c34, c35, c36⟩, g0, g1, g2, g3⟩ := hst.cells
      obtain ⟨⟨c10, c11, c12⟩, ⟨c20, c21, c22, c23, c24, c25, c26⟩⟩ := hst.cells2
      have HST := hid hst
      clear hst
      obtain ⟨m, HM⟩ : ∃ m : Bool, Hid (mayT ⟨(a1 : Int), (a2 : Int), 0, 0, 0, [], []⟩ = m) := ⟨_, hid rfl⟩
      rw [HM.out]
      have hI : rdIs l p r = m := by unfold rdIs; rw [HRAW.out]; exact HM.out
      cases m with
      | false =>
        go_wp2_with fail
        have hfin := HST.out.fin (.slice A l.length c) (.int .i64 (p3 : Int)) (.bool (!true)) (.int .i64 0) (.int .i64 0) (.int .i64 0) (.int .i64 0) (.int .i64 0) (.string { data := #[] }) (.string { data := #[] })
        refine bodyPost_ret (results_rt rfl _ _ _ _ _ _ _ _ _ rfl rfl rfl hfin.1 hfin.2 rfl rfl) rfl ⟨?_, ?_⟩
        · unfold rdTx
          rw [hI, if_neg (by decide), HRAW.out]
          rfl
        · have hb := HST.out.bel
          clear hfin c00 c01 c02 c30 c31 c32 c33 c34 c35 c36 c10 c11 c12 c20 c21 c22 c23 c24 c25 c26 g0 g1 g2 g3
          go_grown
      | true =>
        go_wp2_with fail
        have hfin := HST.out.fin (.slice A l.length c) (.int .i64 (p3 : Int)) (.bool (!true)) (.int .i64 (a1 : Int)) (.int .i64 (a2 : Int)) (.int .i64 0) (.int .i64 0) (.int .i64 0) (.string { data := #[] }) (.string { data := #[] })
        go_region
        go_wp2_with fail
        refine bodyPost_ret (results_rt rfl _ _ _ _ _ _ _ _ _ rfl rfl rfl (drew_at hfin.1) (drew_at hfin.2) rfl rfl) rfl ⟨?_, ?_⟩
        · unfold rdTx
          rw [hI, if_pos (by decide), HRAW.out]
          rfl
        · have hb := HST.out.bel
          clear hfin c00 c01 c02 c30 c31 c32 c33 c34 c35 c36 c10 c11 c12 c20 c21 c22 c23 c24 c25 c26 g0 g1 g2 g3
          go_grown
  · skip
    clear hm3
    go_wp2_with fail
    obtain ⟨a4, p4, r4, HA4⟩ : ∃ x q s, Hid (rdUpto 40 l p3 r3 = (x, q, s)) := ⟨_, _, _, hid rfl⟩
    have hp4 : p4 ≤ l.length := by have := rdUpto_pl (m := 40) (r := r3) hp3; rw [HA4.out] at this; exact this
    have hm4 : a4 ≤ 40 := by have := rdUpto_le (m := 40) (l := l) (p := p3) (r := r3); rw [show ((40 : Nat) : Int) = 40 from rfl, HA4.out] at this; exact this
    have C := HU.out p3 r3 hp3 40 (by omega) (by omega) _ ((HST.out.put (.slice A l.length c) (.int .i64 (p3 : Int)) (.bool (!r3))).tx 2 (.int .i64 1)).bel
    rw [HA4.out] at C
    refine C.mono ?_
    clear C
    rintro e w4 ⟨rfl, hb⟩
    have hst : RdSt w w4 (.slice A l.length c) (.int .i64 (p3 : Int)) (.bool (!r3)) #[.int .i64 (a1 : Int), .int .i64 (a2 : Int), .int .i64 1, .int .i64 0, .int .i64 0, .string { data := #[] }, .string { data := #[] }] := ((HST.out.put (.slice A l.length c) (.int .i64 (p3 : Int)) (.bool (!r3))).tx 2 (.int .i64 1)).below hb
    clear hb HST c00 c01 c02 c30 c31 c32 c33 c34 c35 c36 g0 g1 g2 g3
    obtain ⟨⟨c00, c01, c02⟩, ⟨c30, c31, c32, c33, c34, c35, c36⟩, g0, g1, g2, g3⟩ := hst.cells
    have HST := hid hst
    clear hst
    unfold rv
    go_wp2_with fail
    obtain ⟨a5, p5, r5, HA5⟩ : ∃ x q s, Hid (rdUpto 1099511627776 l p4 r4 = (x, q, s)) := ⟨_, _, _, hid rfl⟩
    have hp5 : p5 ≤ l.length := by have := rdUpto_pl (m := 1099511627776) (r := r4) hp4; rw [HA5.out] at this; exact this
    have hm5 : a5 ≤ 1099511627776 := by have := rdUpto_le (m := 1099511627776) (l := l) (p := p4) (r := r4); rw [show ((1099511627776 : Nat) : Int) = 1099511627776 from rfl, HA5.out] at this; exact this
    have C := HU.out p4 r4 hp4 1099511627776 (by omega) (by omega) _ ((HST.out.put (.slice A l.length c) (.int .i64 (p4 : Int)) (.bool (!r4))).tx 3 (.int .i64 (a4 : Int))).bel
    rw [HA5.out] at C
    refine C.mono ?_
    clear C
    rintro e w5 ⟨rfl, hb⟩
    have hst : RdSt w w5 (.slice A l.length c) (.int .i64 (p4 : Int)) (.bool (!r4)) #[.int .i64 (a1 : Int), .int .i64 (a2 : Int), .int .i64 1, .int .i64 (a4 : Int), .int .i64 0, .string { data := #[] }, .string { data := #[] }] := ((HST.out.put (.slice A l.length c) (.int .i64 (p4 : Int)) (.bool (!r4))).tx 3 (.int .i64 (a4 : Int))).below hb
    clear hb HST c00 c01 c02 c30 c31 c32 c33 c34 c35 c36 g0 g1 g2 g3
    obtain ⟨⟨c00, c01, c02⟩, ⟨c30, c31, c32, c33, c34, c35, c36⟩, g0, g1, g2, g3⟩ := hst.cells
    have HST := hid hst
    clear hst
    unfold rv
    have HRAW : Hid (rdRaw l p r = (⟨(a1 : Int), (a2 : Int), 1, (a4 : Int), (a5 : Int), [], []⟩, p5, r5)) := hid (by unfold rdRaw rdTail; simp [HA1.out, HA2.out, HA3.out, HA4.out, HA5.out])
    go_upto_region 16 with (fail)
    have hst : RdSt w ((((w5.setCell ⟨w.heap.size, 0, none⟩ (.slice A l.length c)).setCell ⟨w.heap.size, 1, none⟩ (.int .i64 (p5 : Int))).setCell ⟨w.heap.size, 2, none⟩ (.bool (!r5))).setCell ⟨w.heap.size + 1 + 1 + 1, 4, none⟩ (.int .i64 (a5 : Int))) (.slice A l.length c) (.int .i64 (p5 : Int)) (.bool (!r5)) #[.int .i64 (a1 : Int), .int .i64 (a2 : Int), .int .i64 1, .int .i64 (a4 : Int), .int .i64 (a5 : Int), .string { data := #[] }, .string { data := #[] }] := (HST.out.put (.slice A l.length c) (.int .i64 (p5 : Int)) (.bool (!r5))).tx 4 (.int .i64 (a5 : Int))
    generalize ((((w5.setCell ⟨w.heap.size, 0, none⟩ (.slice A l.length c)).setCell ⟨w.heap.size, 1, none⟩ (.int .i64 (p5 : Int))).setCell ⟨w.heap.size, 2, none⟩ (.bool (!r5))).setCell ⟨w.heap.size + 1 + 1 + 1, 4, none⟩ (.int .i64 (a5 : Int))) = wz at hst ⊢
    clear HST c00 c01 c02 c30 c31 c32 c33 c34 c35 c36 g0 g1 g2 g3
    obtain ⟨⟨c00, c01, c02⟩, ⟨c30, c31, c32, c33, c34, c35, c36⟩, g0, g1, g2, g3⟩ := hst.cells
    obtain ⟨⟨c10, c11, c12⟩, ⟨c20, c21, c22, c23, c24, c25, c26⟩⟩ := hst.cells2
    have HST := hid hst
    clear hst
    cases r5 with
    | false =>
      have hI : rdIs l p r = false := by unfold rdIs; rw [HRAW.out]; rfl
      go_wp2_with fail
      have hfin := HST.out.fin (.slice A l.length c) (.int .i64 (p5 : Int)) (.bool (!false)) (.int .i64 0) (.int .i64 0) (.int .i64 0) (.int .i64 0) (.int .i64 0) (.string { data := #[] }) (.string { data := #[] })
      refine bodyPost_ret (results_rt rfl _ _ _ _ _ _ _ _ _ rfl rfl rfl hfin.1 hfin.2 rfl rfl) rfl ⟨?_, ?_⟩
      · unfold rdTx
        rw [hI, if_neg (by decide), HRAW.out]
        rfl
      · have hb := HST.out.bel
        clear hfin c00 c01 c02 c30 c31 c32 c33 c34 c35 c36 c10 c11 c12 c20 c21 c22 c23 c24 c25 c26 g0 g1 g2 g3
        go_grown
    | true =>
      go_wp2_with fail
      refine (refMay_any ⟨(a1 : Int), (a2 : Int), 1, (a4 : Int), (a5 : Int), [], []⟩ wz (Nat.zero_le _) (Nat.zero_le _)).mono ?_
      rintro e wy ⟨rfl, hb⟩
      have hst := HST.out.below hb
      clear hb HST c00 c01 c02 c30 c31 c32 c33 c34 c35 c36 c10 c11 c12 c20 c21 c22 c23 c24 c25 c26 g0 g1 g2 g3
      obtain ⟨⟨c00, c01, c02⟩, ⟨c30, c31, c32, c33, c34, c35, c36⟩, g0, g1, g2, g3⟩ := hst.cells
      obtain ⟨⟨c10, c11, c12⟩, ⟨c20, c21, c22, c23, c24, c25, c26⟩⟩ := hst.cells2
      have HST := hid hst
      clear hst
      obtain ⟨m, HM⟩ : ∃ m : Bool, Hid (mayT ⟨(a1 : Int), (a2 : Int), 1, (a4 : Int), (a5 : Int), [], []⟩ = m) := ⟨_, hid rfl⟩
      rw [HM.out]
      have hI : rdIs l p r = m := by unfold rdIs; rw [HRAW.out]; exact HM.out
      cases m with
      | false =>
        go_wp2_with fail
        have hfin := HST.out.fin (.slice A l.length c) (.int .i64 (p5 : Int)) (.bool (!true)) (.int .i64 0) (.int .i64 0) (.int .i64 0) (.int .i64 0) (.int .i64 0) (.string { data := #[] }) (.string { data := #[] })
        refine bodyPost_ret (results_rt rfl _ _ _ _ _ _ _ _ _ rfl rfl rfl hfin.1 hfin.2 rfl rfl) rfl ⟨?_, ?_⟩
        · unfold rdTx
          rw [hI, if_neg (by decide), HRAW.out]
          rfl
        · have hb := HST.out.bel
          clear hfin c00 c01 c02 c30 c31 c32 c33 c34 c35 c36 c10 c11 c12 c20 c21 c22 c23 c24 c25 c26 g0 g1 g2 g3
          go_grown
      | true =>
        go_wp2_with fail
        have hfin := HST.out.fin (.slice A l.length c) (.int .i64 (p5 : Int)) (.bool (!true)) (.int .i64 (a1 : Int)) (.int .i64 (a2 : Int)) (.int .i64 1) (.int .i64 (a4 : Int)) (.int .i64 (a5 : Int)) (.string { data := #[] }) (.string { data := #[] })
        go_region
        go_wp2_with fail
        refine bodyPost_ret (results_rt rfl _ _ _ _ _ _ _ _ _ rfl rfl rfl (drew_at hfin.1) (drew_at hfin.2) rfl rfl) rfl ⟨?_, ?_⟩
        · unfold rdTx
          rw [hI, if_pos (by decide), HRAW.out]
          rfl
        · have hb := HST.out.bel
          clear hfin c00 c01 c02 c30 c31 c32 c33 c34 c35 c36 c10 c11 c12 c20 c21 c22 c23 c24 c25 c26 g0 g1 g2 g3
          go_grown
  · skip
    clear hm3
    go_wp2_with fail
    obtain ⟨k4, p4, r4, HA4⟩ : ∃ x q s, Hid (rdText l p3 r3 = (x, q, s)) := ⟨_, _, _, hid rfl⟩
    have hp4 : p4 ≤ l.length := by have := (rdText_pl (r := r3) hp3).1; rw [HA4.out] at this; exact this
    have HK4 : Hid (k4.length ≤ 65536) := hid (by have := (rdText_pl (r := r3) hp3).2; rw [HA4.out] at this; exact this)
    have C := HT.out p3 r3 hp3 _ ((HST.out.put (.slice A l.length c) (.int .i64 (p3 : Int)) (.bool (!r3))).tx 2 (.int .i64 2)).bel
    rw [HA4.out] at C
    refine C.mono ?_
    clear C
    rintro e w4 ⟨v4, rfl, ho4, hb⟩
    have hB4 := Nat.lt_of_le_of_lt (show w.heap.size ≤ w.heap.size + 1 + 1 + 1 by omega) ((HST.out.put (.slice A l.length c) (.int .i64 (p3 : Int)) (.bool (!r3))).tx 2 (.int .i64 2)).lt
    have hst : RdSt w w4 (.slice A l.length c) (.int .i64 (p3 : Int)) (.bool (!r3)) #[.int .i64 (a1 : Int), .int .i64 (a2 : Int), .int .i64 2, .int .i64 0, .int .i64 0, .string { data := #[] }, .string { data := #[] }] := ((HST.out.put (.slice A l.length c) (.int .i64 (p3 : Int)) (.bool (!r3))).tx 2 (.int .i64 2)).below hb
    clear hb HST c00 c01 c02 c30 c31 c32 c33 c34 c35 c36 g0 g1 g2 g3
    obtain ⟨⟨c00, c01, c02⟩, ⟨c30, c31, c32, c33, c34, c35, c36⟩, g0, g1, g2, g3⟩ := hst.cells
    have HST := hid hst
    clear hst
    have hcv4 := run_sb ho4.byt
    unfold rv
    go_upto_region 10 with (fail)
    have hoq := ho4.alloc (.cells #[.slice A l.length c, .int .i64 (p4 : Int), .bool (!r4)] 61)
    have hq := heap_alloc_new w4 (.cells #[.slice A l.length c, .int .i64 (p4 : Int), .bool (!r4)] 61)
    clear ho4 hcv4
    have hst : RdSt w (w4.alloc (.cells #[.slice A l.length c, .int .i64 (p4 : Int), .bool (!r4)] 61)) (.slice A l.length c) (.int .i64 (p3 : Int)) (.bool (!r3)) #[.int .i64 (a1 : Int), .int .i64 (a2 : Int), .int .i64 2, .int .i64 0, .int .i64 0, .string { data := #[] }, .string { data := #[] }] := HST.out.alloc (.cells #[.slice A l.length c, .int .i64 (p4 : Int), .bool (!r4)] 61)
    generalize (w4.alloc (.cells #[.slice A l.length c, .int .i64 (p4 : Int), .bool (!r4)] 61)) = wq4 at *
    clear HST c00 c01 c02 c30 c31 c32 c33 c34 c35 c36 g0 g1 g2 g3
    have d0 := cell_blk hq 0
    have d1 := cell_blk hq 1
    have d2 := cell_blk hq 2
    simp at d0 d1 d2
    clear hq
    obtain ⟨⟨c00, c01, c02⟩, ⟨c30, c31, c32, c33, c34, c35, c36⟩, g0, g1, g2, g3⟩ := hst.cells
    have HST := hid hst
    clear hst
    go_upto_region 11 with (fail)
    have hby4 : Byt (((wq4.setCell ⟨w.heap.size, 0, none⟩ (.slice A l.length c)).setCell ⟨w.heap.size, 1, none⟩ (.int .i64 (p4 : Int))).setCell ⟨w.heap.size, 2, none⟩ (.bool (!r4))) v4 k4 := (((hoq.set (own_far hoq hB4) 0 (.slice A l.length c)).set (own_far hoq hB4) 1 (.int .i64 (p4 : Int))).set (own_far hoq hB4) 2 (.bool (!r4))).byt
    clear hoq d0 d1 d2
    have hst : RdSt w (((wq4.setCell ⟨w.heap.size, 0, none⟩ (.slice A l.length c)).setCell ⟨w.heap.size, 1, none⟩ (.int .i64 (p4 : Int))).setCell ⟨w.heap.size, 2, none⟩ (.bool (!r4))) (.slice A l.length c) (.int .i64 (p4 : Int)) (.bool (!r4)) #[.int .i64 (a1 : Int), .int .i64 (a2 : Int), .int .i64 2, .int .i64 0, .int .i64 0, .string { data := #[] }, .string { data := #[] }] := HST.out.put (.slice A l.length c) (.int .i64 (p4 : Int)) (.bool (!r4))
    generalize (((wq4.setCell ⟨w.heap.size, 0, none⟩ (.slice A l.length c)).setCell ⟨w.heap.size, 1, none⟩ (.int .i64 (p4 : Int))).setCell ⟨w.heap.size, 2, none⟩ (.bool (!r4))) = wa at *
    clear HST c00 c01 c02 c30 c31 c32 c33 c34 c35 c36 g0 g1 g2 g3
    obtain ⟨⟨c00, c01, c02⟩, ⟨c30, c31, c32, c33, c34, c35, c36⟩, g0, g1, g2, g3⟩ := hst.cells
    have HST := hid hst
    clear hst
    have hcv4 := run_sb hby4
    clear hby4
    go_wp2_with fail
    obtain ⟨k5, p5, r5, HA5⟩ : ∃ x q s, Hid (rdText l p4 r4 = (x, q, s)) := ⟨_, _, _, hid rfl⟩
    have hp5 : p5 ≤ l.length := by have := (rdText_pl (r := r4) hp4).1; rw [HA5.out] at this; exact this
    have HK5 : Hid (k5.length ≤ 65536) := hid (by have := (rdText_pl (r := r4) hp4).2; rw [HA5.out] at this; exact this)
    have C := HT.out p4 r4 hp4 _ (HST.out.tx 5 (.string (sb k4))).bel
    rw [HA5.out] at C
    refine C.mono ?_
    clear C
    rintro e w5 ⟨v5, rfl, ho5, hb⟩
    have hB5 := Nat.lt_of_le_of_lt (show w.heap.size ≤ w.heap.size + 1 + 1 + 1 by omega) (HST.out.tx 5 (.string (sb k4))).lt
    have hst : RdSt w w5 (.slice A l.length c) (.int .i64 (p4 : Int)) (.bool (!r4)) #[.int .i64 (a1 : Int), .int .i64 (a2 : Int), .int .i64 2, .int .i64 0, .int .i64 0, .string (sb k4), .string { data := #[] }] := (HST.out.tx 5 (.string (sb k4))).below hb
    clear hb HST c00 c01 c02 c30 c31 c32 c33 c34 c35 c36 g0 g1 g2 g3
    obtain ⟨⟨c00, c01, c02⟩, ⟨c30, c31, c32, c33, c34, c35, c36⟩, g0, g1, g2, g3⟩ := hst.cells
    have HST := hid hst
    clear hst
    have hcv5 := run_sb ho5.byt
    unfold rv
    go_upto_region 14 with (fail)
    have hoq := ho5.alloc (.cells #[.slice A l.length c, .int .i64 (p5 : Int), .bool (!r5)] 61)
    have hq := heap_alloc_new w5 (.cells #[.slice A l.length c, .int .i64 (p5 : Int), .bool (!r5)] 61)
    clear ho5 hcv5
    have hst : RdSt w (w5.alloc (.cells #[.slice A l.length c, .int .i64 (p5 : Int), .bool (!r5)] 61)) (.slice A l.length c) (.int .i64 (p4 : Int)) (.bool (!r4)) #[.int .i64 (a1 : Int), .int .i64 (a2 : Int), .int .i64 2, .int .i64 0, .int .i64 0, .string (sb k4), .string { data := #[] }] := HST.out.alloc (.cells #[.slice A l.length c, .int .i64 (p5 : Int), .bool (!r5)] 61)
    generalize (w5.alloc (.cells #[.slice A l.length c, .int .i64 (p5 : Int), .bool (!r5)] 61)) = wq5 at *
    clear HST c00 c01 c02 c30 c31 c32 c33 c34 c35 c36 g0 g1 g2 g3
    have d0 := cell_blk hq 0
    have d1 := cell_blk hq 1
    have d2 := cell_blk hq 2
    simp at d0 d1 d2
    clear hq
    obtain ⟨⟨c00, c01, c02⟩, ⟨c30, c31, c32, c33, c34, c35, c36⟩, g0, g1, g2, g3⟩ := hst.cells
    have HST := hid hst
    clear hst
    go_upto_region 15 with (fail)
    have hby5 : Byt (((wq5.setCell ⟨w.heap.size, 0, none⟩ (.slice A l.length c)).setCell ⟨w.heap.size, 1, none⟩ (.int .i64 (p5 : Int))).setCell ⟨w.heap.size, 2, none⟩ (.bool (!r5))) v5 k5 := (((hoq.set (own_far hoq hB5) 0 (.slice A l.length c)).set (own_far hoq hB5) 1 (.int .i64 (p5 : Int))).set (own_far hoq hB5) 2 (.bool (!r5))).byt
    clear hoq d0 d1 d2
    have hst : RdSt w (((wq5.setCell ⟨w.heap.size, 0, none⟩ (.slice A l.length c)).setCell ⟨w.heap.size, 1, none⟩ (.int .i64 (p5 : Int))).setCell ⟨w.heap.size, 2, none⟩ (.bool (!r5))) (.slice A l.length c) (.int .i64 (p5 : Int)) (.bool (!r5)) #[.int .i64 (a1 : Int), .int .i64 (a2 : Int), .int .i64 2, .int .i64 0, .int .i64 0, .string (sb k4), .string { data := #[] }] := HST.out.put (.slice A l.length c) (.int .i64 (p5 : Int)) (.bool (!r5))
    generalize (((wq5.setCell ⟨w.heap.size, 0, none⟩ (.slice A l.length c)).setCell ⟨w.heap.size, 1, none⟩ (.int .i64 (p5 : Int))).setCell ⟨w.heap.size, 2, none⟩ (.bool (!r5))) = wb at *
    clear HST c00 c01 c02 c30 c31 c32 c33 c34 c35 c36 g0 g1 g2 g3
    obtain ⟨⟨c00, c01, c02⟩, ⟨c30, c31, c32, c33, c34, c35, c36⟩, g0, g1, g2, g3⟩ := hst.cells
    have HST := hid hst
    clear hst
    have hcv5 := run_sb hby5
    clear hby5
    have HRAW : Hid (rdRaw l p r = (⟨(a1 : Int), (a2 : Int), 2, 0, 0, k4, k5⟩, p5, r5)) := hid (by unfold rdRaw rdTail; simp [HA1.out, HA2.out, HA3.out, HA4.out, HA5.out])
    go_upto_region 16 with (fail)
    have hst : RdSt w (wb.setCell ⟨w.heap.size + 1 + 1 + 1, 6, none⟩ (.string (sb k5))) (.slice A l.length c) (.int .i64 (p5 : Int)) (.bool (!r5)) #[.int .i64 (a1 : Int), .int .i64 (a2 : Int), .int .i64 2, .int .i64 0, .int .i64 0, .string (sb k4), .string (sb k5)] := HST.out.tx 6 (.string (sb k5))
    generalize (wb.setCell ⟨w.heap.size + 1 + 1 + 1, 6, none⟩ (.string (sb k5))) = wz at *
    clear HST c00 c01 c02 c30 c31 c32 c33 c34 c35 c36 g0 g1 g2 g3
    obtain ⟨⟨c00, c01, c02⟩, ⟨c30, c31, c32, c33, c34, c35, c36⟩, g0, g1, g2, g3⟩ := hst.cells
    obtain ⟨⟨c10, c11, c12⟩, ⟨c20, c21, c22, c23, c24, c25, c26⟩⟩ := hst.cells2
    have HST := hid hst
    clear hst
    cases r5 with
    | false =>
      have hI : rdIs l p r = false := by unfold rdIs; rw [HRAW.out]; rfl
      go_wp2_with fail
      have hfin := HST.out.fin (.slice A l.length c) (.int .i64 (p5 : Int)) (.bool (!false)) (.int .i64 0) (.int .i64 0) (.int .i64 0) (.int .i64 0) (.int .i64 0) (.string { data := #[] }) (.string { data := #[] })
      refine bodyPost_ret (results_rt rfl _ _ _ _ _ _ _ _ _ rfl rfl rfl hfin.1 hfin.2 rfl rfl) rfl ⟨?_, ?_⟩
      · unfold rdTx
        rw [hI, if_neg (by decide), HRAW.out]
        rfl
      · have hb := HST.out.bel
        clear hfin c00 c01 c02 c30 c31 c32 c33 c34 c35 c36 c10 c11 c12 c20 c21 c22 c23 c24 c25 c26 g0 g1 g2 g3
        go_grown
    | true =>
      go_wp2_with fail
      refine (refMay_any ⟨(a1 : Int), (a2 : Int), 2, 0, 0, k4, k5⟩ wz (Nat.le_trans HK4.out (by decide)) (Nat.le_trans HK5.out (by decide))).mono ?_
      rintro e wy ⟨rfl, hb⟩
      have hst := HST.out.below hb
      clear hb HST c00 c01 c02 c30 c31 c32 c33 c34 c35 c36 c10 c11 c12 c20 c21 c22 c23 c24 c25 c26 g0 g1 g2 g3
      obtain ⟨⟨c00, c01, c02⟩, ⟨c30, c31, c32, c33, c34, c35, c36⟩, g0, g1, g2, g3⟩ := hst.cells
      obtain ⟨⟨c10, c11, c12⟩, ⟨c20, c21, c22, c23, c24, c25, c26⟩⟩ := hst.cells2
      have HST := hid hst
      clear hst
      obtain ⟨m, HM⟩ : ∃ m : Bool, Hid (mayT ⟨(a1 : Int), (a2 : Int), 2, 0, 0, k4, k5⟩ = m) := ⟨_, hid rfl⟩
      rw [HM.out]
      have hI : rdIs l p r = m := by unfold rdIs; rw [HRAW.out]; exact HM.out
      cases m with
      | false =>
        go_wp2_with fail
        have hfin := HST.out.fin (.slice A l.length c) (.int .i64 (p5 : Int)) (.bool (!true)) (.int .i64 0) (.int .i64 0) (.int .i64 0) (.int .i64 0) (.int .i64 0) (.string { data := #[] }) (.string { data := #[] })
        refine bodyPost_ret (results_rt rfl _ _ _ _ _ _ _ _ _ rfl rfl rfl hfin.1 hfin.2 rfl rfl) rfl ⟨?_, ?_⟩
        · unfold rdTx
          rw [hI, if_neg (by decide), HRAW.out]
          rfl
        · have hb := HST.out.bel
          clear hfin c00 c01 c02 c30 c31 c32 c33 c34 c35 c36 c10 c11 c12 c20 c21 c22 c23 c24 c25 c26 g0 g1 g2 g3
          go_grown
      | true =>
        go_wp2_with fail
        have hfin := HST.out.fin (.slice A l.length c) (.int .i64 (p5 : Int)) (.bool (!true)) (.int .i64 (a1 : Int)) (.int .i64 (a2 : Int)) (.int .i64 2) (.int .i64 0) (.int .i64 0) (.string (sb k4)) (.string (sb k5))
        go_region
        go_wp2_with fail
        refine bodyPost_ret (results_rt rfl _ _ _ _ _ _ _ _ _ rfl rfl rfl (drew_at hfin.1) (drew_at hfin.2) rfl rfl) rfl ⟨?_, ?_⟩
        · unfold rdTx
          rw [hI, if_pos (by decide), HRAW.out]
          rfl
        · have hb := HST.out.bel
          clear hfin c00 c01 c02 c30 c31 c32 c33 c34 c35 c36 c10 c11 c12 c20 c21 c22 c23 c24 c25 c26 g0 g1 g2 g3
          go_grown
  · skip
    clear hm3
    go_wp2_with fail
    obtain ⟨k4, p4, r4, HA4⟩ : ∃ x q s, Hid (rdText l p3 r3 = (x, q, s)) := ⟨_, _, _, hid rfl⟩
    have hp4 : p4 ≤ l.length := by have := (rdText_pl (r := r3) hp3).1; rw [HA4.out] at this; exact this
    have HK4 : Hid (k4.length ≤ 65536) := hid (by have := (rdText_pl (r := r3) hp3).2; rw [HA4.out] at this; exact this)
    have C := HT.out p3 r3 hp3 _ ((HST.out.put (.slice A l.length c) (.int .i64 (p3 : Int)) (.bool (!r3))).tx 2 (.int .i64 3)).bel
    rw [HA4.out] at C
    refine C.mono ?_
    clear C
    rintro e w4 ⟨v4, rfl, ho4, hb⟩
    have hB4 := Nat.lt_of_le_of_lt (show w.heap.size ≤ w.heap.size + 1 + 1 + 1 by omega) ((HST.out.put (.slice A l.length c) (.int .i64 (p3 : Int)) (.bool (!r3))).tx 2 (.int .i64 3)).lt
    have hst : RdSt w w4 (.slice A l.length c) (.int .i64 (p3 : Int)) (.bool (!r3)) #[.int .i64 (a1 : Int), .int .i64 (a2 : Int), .int .i64 3, .int .i64 0, .int .i64 0, .string { data := #[] }, .string { data := #[] }] := ((HST.out.put (.slice A l.length c) (.int .i64 (p3 : Int)) (.bool (!r3))).tx 2 (.int .i64 3)).below hb
    clear hb HST c00 c01 c02 c30 c31 c32 c33 c34 c35 c36 g0 g1 g2 g3
    obtain ⟨⟨c00, c01, c02⟩, ⟨c30, c31, c32, c33, c34, c35, c36⟩, g0, g1, g2, g3⟩ := hst.cells
    have HST := hid hst
    clear hst
    have hcv4 := run_sb ho4.byt
    unfold rv
    go_upto_region 10 with (fail)
    have hoq := ho4.alloc (.cells #[.slice A l.length c, .int .i64 (p4 : Int), .bool (!r4)] 61)
    have hq := heap_alloc_new w4 (.cells #[.slice A l.length c, .int .i64 (p4 : Int), .bool (!r4)] 61)
    clear ho4 hcv4
    have hst : RdSt w (w4.alloc (.cells #[.slice A l.length c, .int .i64 (p4 : Int), .bool (!r4)] 61)) (.slice A l.length c) (.int .i64 (p3 : Int)) (.bool (!r3)) #[.int .i64 (a1 : Int), .int .i64 (a2 : Int), .int .i64 3, .int .i64 0, .int .i64 0, .string { data := #[] }, .string { data := #[] }] := HST.out.alloc (.cells #[.slice A l.length c, .int .i64 (p4 : Int), .bool (!r4)] 61)
    generalize (w4.alloc (.cells #[.slice A l.length c, .int .i64 (p4 : Int), .bool (!r4)] 61)) = wq4 at *
    clear HST c00 c01 c02 c30 c31 c32 c33 c34 c35 c36 g0 g1 g2 g3
    have d0 := cell_blk hq 0
    have d1 := cell_blk hq 1
    have d2 := cell_blk hq 2
    simp at d0 d1 d2
    clear hq
    obtain ⟨⟨c00, c01, c02⟩, ⟨c30, c31, c32, c33, c34, c35, c36⟩, g0, g1, g2, g3⟩ := hst.cells
    have HST := hid hst
    clear hst
    go_upto_region 11 with (fail)
    have hby4 : Byt (((wq4.setCell ⟨w.heap.size, 0, none⟩ (.slice A l.length c)).setCell ⟨w.heap.size, 1, none⟩ (.int .i64 (p4 : Int))).setCell ⟨w.heap.size, 2, none⟩ (.bool (!r4))) v4 k4 := (((hoq.set (own_far hoq hB4) 0 (.slice A l.length c)).set (own_far hoq hB4) 1 (.int .i64 (p4 : Int))).set (own_far hoq hB4) 2 (.bool (!r4))).byt
    clear hoq d0 d1 d2
    have hst : RdSt w (((wq4.setCell ⟨w.heap.size, 0, none⟩ (.slice A l.length c)).setCell ⟨w.heap.size, 1, none⟩ (.int .i64 (p4 : Int))).setCell ⟨w.heap.size, 2, none⟩ (.bool (!r4))) (.slice A l.length c) (.int .i64 (p4 : Int)) (.bool (!r4)) #[.int .i64 (a1 : Int), .int .i64 (a2 : Int), .int .i64 3, .int .i64 0, .int .i64 0, .string { data := #[] }, .string { data := #[] }] := HST.out.put (.slice A l.length c) (.int .i64 (p4 : Int)) (.bool (!r4))
    generalize (((wq4.setCell ⟨w.heap.size, 0, none⟩ (.slice A l.length c)).setCell ⟨w.heap.size, 1, none⟩ (.int .i64 (p4 : Int))).setCell ⟨w.heap.size, 2, none⟩ (.bool (!r4))) = wa at *
    clear HST c00 c01 c02 c30 c31 c32 c33 c34 c35 c36 g0 g1 g2 g3
    obtain ⟨⟨c00, c01, c02⟩, ⟨c30, c31, c32, c33, c34, c35, c36⟩, g0, g1, g2, g3⟩ := hst.cells
    have HST := hid hst
    clear hst
    have hcv4 := run_sb hby4
    clear hby4
    have HRAW : Hid (rdRaw l p r = (⟨(a1 : Int), (a2 : Int), 3, 0, 0, k4, []⟩, p4, r4)) := hid (by unfold rdRaw rdTail; simp [HA1.out, HA2.out, HA3.out, HA4.out])
    go_upto_region 16 with (fail)
    have hst : RdSt w (wa.setCell ⟨w.heap.size + 1 + 1 + 1, 5, none⟩ (.string (sb k4))) (.slice A l.length c) (.int .i64 (p4 : Int)) (.bool (!r4)) #[.int .i64 (a1 : Int), .int .i64 (a2 : Int), .int .i64 3, .int .i64 0, .int .i64 0, .string (sb k4), .string { data := #[] }] := HST.out.tx 5 (.string (sb k4))
    generalize (wa.setCell ⟨w.heap.size + 1 + 1 + 1, 5, none⟩ (.string (sb k4))) = wz at *
    clear HST c00 c01 c02 c30 c31 c32 c33 c34 c35 c36 g0 g1 g2 g3
    obtain ⟨⟨c00, c01, c02⟩, ⟨c30, c31, c32, c33, c34, c35, c36⟩, g0, g1, g2, g3⟩ := hst.cells
    obtain ⟨⟨c10, c11, c12⟩, ⟨c20, c21, c22, c23, c24, c25, c26⟩⟩ := hst.cells2
    have HST := hid hst
    clear hst
    cases r4 with
    | false =>
      have hI : rdIs l p r = false := by unfold rdIs; rw [HRAW.out]; rfl
      go_wp2_with fail
      have hfin := HST.out.fin (.slice A l.length c) (.int .i64 (p4 : Int)) (.bool (!false)) (.int .i64 0) (.int .i64 0) (.int .i64 0) (.int .i64 0) (.int .i64 0) (.string { data := #[] }) (.string { data := #[] })
      refine bodyPost_ret (results_rt rfl _ _ _ _ _ _ _ _ _ rfl rfl rfl hfin.1 hfin.2 rfl rfl) rfl ⟨?_, ?_⟩
      · unfold rdTx
        rw [hI, if_neg (by decide), HRAW.out]
        rfl
      · have hb := HST.out.bel
        clear hfin c00 c01 c02 c30 c31 c32 c33 c34 c35 c36 c10 c11 c12 c20 c21 c22 c23 c24 c25 c26 g0 g1 g2 g3
        go_grown
    | true =>
      go_wp2_with fail
      refine (refMay_any ⟨(a1 : Int), (a2 : Int), 3, 0, 0, k4, []⟩ wz (Nat.le_trans HK4.out (by decide)) (Nat.zero_le _)).mono ?_
      rintro e wy ⟨rfl, hb⟩
      have hst := HST.out.below hb
      clear hb HST c00 c01 c02 c30 c31 c32 c33 c34 c35 c36 c10 c11 c12 c20 c21 c22 c23 c24 c25 c26 g0 g1 g2 g3
      obtain ⟨⟨c00, c01, c02⟩, ⟨c30, c31, c32, c33, c34, c35, c36⟩, g0, g1, g2, g3⟩ := hst.cells
      obtain ⟨⟨c10, c11, c12⟩, ⟨c20, c21, c22, c23, c24, c25, c26⟩⟩ := hst.cells2
      have HST := hid hst
      clear hst
      obtain ⟨m, HM⟩ : ∃ m : Bool, Hid (mayT ⟨(a1 : Int), (a2 : Int), 3, 0, 0, k4, []⟩ = m) := ⟨_, hid rfl⟩
      rw [HM.out]
      have hI : rdIs l p r = m := by unfold rdIs; rw [HRAW.out]; exact HM.out
      cases m with
      | false =>
        go_wp2_with fail
        have hfin := HST.out.fin (.slice A l.length c) (.int .i64 (p4 : Int)) (.bool (!true)) (.int .i64 0) (.int .i64 0) (.int .i64 0) (.int .i64 0) (.int .i64 0) (.string { data := #[] }) (.string { data := #[] })
        refine bodyPost_ret (results_rt rfl _ _ _ _ _ _ _ _ _ rfl rfl rfl hfin.1 hfin.2 rfl rfl) rfl ⟨?_, ?_⟩
        · unfold rdTx
          rw [hI, if_neg (by decide), HRAW.out]
          rfl
        · have hb := HST.out.bel
          clear hfin c00 c01 c02 c30 c31 c32 c33 c34 c35 c36 c10 c11 c12 c20 c21 c22 c23 c24 c25 c26 g0 g1 g2 g3
          go_grown
      | true =>
        go_wp2_with fail
        have hfin := HST.out.fin (.slice A l.length c) (.int .i64 (p4 : Int)) (.bool (!true)) (.int .i64 (a1 : Int)) (.int .i64 (a2 : Int)) (.int .i64 3) (.int .i64 0) (.int .i64 0) (.string (sb k4)) (.string { data := #[] })
        go_region
        go_wp2_with fail
        refine bodyPost_ret (results_rt rfl _ _ _ _ _ _ _ _ _ rfl rfl rfl (drew_at hfin.1) (drew_at hfin.2) rfl rfl) rfl ⟨?_, ?_⟩
        · unfold rdTx
          rw [hI, if_pos (by decide), HRAW.out]
          rfl
        · have hb := HST.out.bel
          clear hfin c00 c01 c02 c30 c31 c32 c33 c34 c35 c36 c10 c11 c12 c20 c21 c22 c23 c24 c25 c26 g0 g1 g2 g3
          go_grown
end Go.Proofs.YtekfkfpfnhoblaaDoor

/-
  What tithingref07.Get has in memory while it reads: the result yet nought, the block, the reader. And the laws of a block's variable: how it is laid, stored whole, and its parent stored.
-/
namespace Go.Proofs.YtekfkfpfnhoblaaDoor
set_option maxRecDepth 20000
open Go.RowKit

theorem bkc_par (b : BkM) (s : Value) (h : List UInt8) (hp : b.par.length = h.length) : putAt (bkc b s) 0 (bcells h) = bkc { b with par := h } s := by
  have := putAt_mid (bcells h) [] (bcells b.par) [.int .i64 b.vi, .int .i64 b.he, .int .i64 b.bo, s] (by simp [bcells, hp])
  exact this

/-- A hash is stored into a block's parent. -/
theorem wpList_store_par {ops : Array Oper} {rest : List Oper} {o : Oper} {a : Act} {w : World} {Q : Exit → Act → World → Prop} (hgd : o.guard = none) (x y : Operand) (ho : o.op = .store 23 x y)
    {g : Nat} {b : BkM} {s : Value} {h : List UInt8} (hx : a.eval x = .pointer (some ⟨g, 0, none⟩)) (hy : a.eval y = .agg (hcells h)) (hg : BoxK w g b s) (hp : b.par.length = 32) (hl : h.length = 32)
    (hh : ∀ w', w.grownBy w' (some g) → BoxK w' g { b with par := h } s → w'.heap.size = w.heap.size → wpList Tryd.prog ops Q rest (a.put o.dst undef) w') : wpList Tryd.prog ops Q (o :: rest) a w := by
  refine wpList_store_mid hgd _ x y ho (b := g) (o := 0) (cells := hcells h) hx hy (fun j hj => ⟨?_, hg.free _⟩) (by rw [size_hash, hcells_size, hl]) (hcells_one _) ?_
  · rw [hcells_size] at hj
    rw [cell_blk hg]
    simp [bkc_size s hp]
    omega
  · rw [hcells_list]
    refine hh _ (grown_setCells g _ _ _) ?_ (setCells_size g _ _ _)
    have := setCells_row (bcells h) 0 w (bkc b s) hg
    rw [bkc_par b s h (by rw [hp, hl])] at this
    exact this

/-- A variable for a block. -/
noncomputable def allocK (w : World) : Result Next := Sem.run Tryd.prog (execOp (fun _ => undef) { dst := none, op := .alloc 26, type := 0, pos := "", after := #[], guard := none }) w
theorem exec_alloc_bk (r : Operand → Value) (dst : Option Tmp) (ty : TypeId) (pos : String) (after : Array Edge) (guard : Option (Nat × Bool)) (w : World) :
    Sem.run Tryd.prog (execOp r { dst := dst, op := .alloc 26, type := ty, pos := pos, after := after, guard := guard }) w = allocK w := rfl
theorem allocK_eq (w : World) : allocK w = .ok (.value (.pointer (some ⟨w.heap.size, 0, none⟩))) (w.alloc (.cells (bkc bkZ (.slice none 0 0)) 26)) := by
  unfold allocK execOp
  simp only [Sem.run_bind, Instr.alloc, run_zero_bk, newVar, newRow, run_newObj_alloc, Sem.run_pure, Result.andThen_ok, Value.cells]
noncomputable def storeK (p v : Value) (w : World) : Result Next := Sem.run Tryd.prog (execOp (fun x => match x with
  | .tmp 0 => p
  | _ => v) { dst := none, op := .store 26 (.tmp 0) (.tmp 1), type := 0, pos := "", after := #[], guard := none }) w
theorem exec_store_bk (r : Operand → Value) (x y : Operand) (dst : Option Tmp) (ty : TypeId) (pos : String) (after : Array Edge) (guard : Option (Nat × Bool)) (w : World) :
    Sem.run Tryd.prog (execOp r { dst := dst, op := .store 26 x y, type := ty, pos := pos, after := after, guard := guard }) w = storeK (r x) (r y) w := rfl
/-- The world behind a store of a whole block: kept whole. -/
def setK (w : World) (g : Nat) (C : Array Value) : World := w.setRow g C
theorem bkc_one {w : World} {b : BkM} {s : Value} (h : Txs w s b.txs) : (bkc b s).all (·.oneCell') = true := by
  obtain ⟨A, c, rfl, _⟩ := h
  unfold bkc
  refine all_oneCell_toArray ?_
  intro u hu
  rcases List.mem_append.1 hu with hu | hu
  · exact bcells_one _ u hu
  · simp only [List.mem_cons, List.not_mem_nil, or_false] at hu
    obtain rfl | rfl | rfl | rfl := hu <;> rfl
theorem storeK_eq {w : World} {g : Nat} {t : TypeId} {C0 C : Array Value} (hg : w.heap[g]? = some (.cells C0 t (0, 0))) (h0 : C0.size = 36) (hC : C.size = 36) (h1 : C.all (·.oneCell') = true) :
    storeK (.pointer (some ⟨g, 0, none⟩)) (.agg C) w = .ok .skip (setK w g C) := by
  have := run_storeVar_row (P := Tryd.prog) w g t 26 C0 C hg (by rw [size_bk, hC]) (by rw [h0, hC]) h1
  unfold storeK execOp
  simp only [Instr.storeAt, Instr.sureAddr, Sem.run_bind, Sem.run_pure, Result.andThen_ok, this]
  rfl
theorem setK_other (w : World) {g k : Nat} (C : Array Value) (hk : k ≠ g) : (setK w g C).heap[k]? = w.heap[k]? := setRow_other w g k _ hk
theorem setK_same {w : World} {g : Nat} {t : TypeId} {C0 C : Array Value} (hg : w.heap[g]? = some (.cells C0 t (0, 0))) : (setK w g C).heap[g]? = some (.cells C t (0, 0)) := setRow_heap w g _ _ t _ hg
theorem setK_size (w : World) (g : Nat) (C : Array Value) : (setK w g C).heap.size = w.heap.size := by simp [setK]
theorem setK_below {B g : Nat} {a w : World} {C : Array Value} (hb : Below B a w) (hg : B ≤ g) : Below B a (setK w g C) := below_setRow hb hg _

theorem setK_self {w : World} {g : Nat} {t : TypeId} {C : Array Value} {fr : Nat × Nat} (hg : w.heap[g]? = some (.cells C t fr)) : setK w g C = w := by
  have e : ∀ f : Obj → Obj, f (.cells C t fr) = .cells C t fr → w.heap.modify g f = w.heap := by
    intro f hf
    apply Array.ext_getElem?
    intro k
    rw [Array.getElem?_modify]
    by_cases h : g = k
    · subst h
      rw [if_pos rfl, hg]
      simp [hf]
    · rw [if_neg h]
  unfold setK World.setRow
  rw [e _ rfl]

/-- Blocks B, B + 1, B + 2: the result yet nought, the block, the reader. -/
structure GtSt (w0 w : World) (x0 x1 x2 : Value) (b : BkM) (s : Value) : Prop where
  bel : Below w0.heap.size w0 w
  b0 : BoxK w w0.heap.size bkZ (.slice none 0 0)
  b1 : BoxK w (w0.heap.size + 1) b s
  b2 : w.heap[w0.heap.size + 1 + 1]? = some (.cells #[x0, x1, x2] 61 (0, 0))
section
variable {w0 w w' : World} {x0 x1 x2 : Value} {b : BkM} {s : Value}
theorem GtSt.lt (h : GtSt w0 w x0 x1 x2 b s) : w0.heap.size + 1 + 1 < w.heap.size := lt_of_block h.b2
theorem GtSt.keep (h : GtSt w0 w x0 x1 x2 b s) (hb : Below (w0.heap.size + 3) w w') : GtSt w0 w' x0 x1 x2 b s :=
  ⟨h.bel.trans (hb.mono (by omega)), (hb.block _ (by omega)).trans h.b0, (hb.block _ (by omega)).trans h.b1, (hb.block _ (by omega)).trans h.b2⟩
theorem GtSt.below (h : GtSt w0 w x0 x1 x2 b s) (hb : Below w.heap.size w w') : GtSt w0 w' x0 x1 x2 b s := h.keep (hb.mono (by have := h.lt; omega))
theorem GtSt.new (w : World) (x0 x1 x2 : Value) :
    GtSt w (((w.alloc (.cells (bkc bkZ (.slice none 0 0)) 26)).alloc (.cells (bkc bkZ (.slice none 0 0)) 26)).alloc (.cells #[x0, x1, x2] 61)) x0 x1 x2 bkZ (.slice none 0 0) := by
  refine ⟨(((Below.refl _ _).alloc (Nat.le_refl _) _).alloc (by simp) _).alloc (by simp <;> omega) _, ?_, ?_, ?_⟩
  · exact (Below.heap_alloc _ _ _ (by simp <;> omega)).trans (heap1 w _ _)
  · exact (Below.heap_alloc _ _ _ (by simp)).trans (heap2 w _ _)
  · have := heap2 (w.alloc (.cells (bkc bkZ (.slice none 0 0)) 26)) (.cells (bkc bkZ (.slice none 0 0)) 26) (.cells #[x0, x1, x2] 61)
    rwa [show (w.alloc (.cells (bkc bkZ (.slice none 0 0)) 26)).heap.size = w.heap.size + 1 from by simp] at this
theorem GtSt.put (h : GtSt w0 w x0 x1 x2 b s) (y0 y1 y2 : Value) :
    GtSt w0 (((w.setCell ⟨w0.heap.size + 1 + 1, 0, none⟩ y0).setCell ⟨w0.heap.size + 1 + 1, 1, none⟩ y1).setCell ⟨w0.heap.size + 1 + 1, 2, none⟩ y2) y0 y1 y2 b s := by
  refine ⟨((h.bel.setCell (by simp only; omega) _).setCell (by simp only; omega) _).setCell (by simp only; omega) _, ?_, ?_, ?_⟩
  · exact blk_other (blk_other (blk_other h.b0 y0 (by omega)) y1 (by omega)) y2 (by omega)
  · exact blk_other (blk_other (blk_other h.b1 y0 (by omega)) y1 (by omega)) y2 (by omega)
  · exact set_blk (set_blk (set_blk h.b2 0 y0) 1 y1) 2 y2
theorem GtSt.par (h : GtSt w0 w x0 x1 x2 b s) {p : List UInt8} (hg : w.grownBy w' (some (w0.heap.size + 1))) (hb : BoxK w' (w0.heap.size + 1) { b with par := p } s) : GtSt w0 w' x0 x1 x2 { b with par := p } s := by
  have hlt := h.lt
  refine ⟨h.bel.grown hg h.bel.size (fun k hk => by injection hk with hk; omega), ?_, hb, ?_⟩
  · exact (hg.block _ (by omega) (fun e => by injection e with e; omega)).trans h.b0
  · exact (hg.block _ (by omega) (fun e => by injection e with e; omega)).trans h.b2
theorem bkc_set {v : Value} (hp : b.par.length = 32) (i : Nat) : (bkc b s).setIfInBounds (32 + i) v = (bcells b.par ++ [.int .i64 b.vi, .int .i64 b.he, .int .i64 b.bo, s].set i v).toArray := by
  have hl : (bcells b.par).length = 32 := by rw [bcells_length, hp]
  unfold bkc
  rw [List.setIfInBounds_toArray, List.set_append_right _ _ (by omega), hl, Nat.add_sub_cancel_left]
theorem GtSt.cell (h : GtSt w0 w x0 x1 x2 b s) (hp : b.par.length = 32) {b' : BkM} {s' v : Value} (i : Nat) (e : (bcells b.par ++ [.int .i64 b.vi, .int .i64 b.he, .int .i64 b.bo, s].set i v).toArray = bkc b' s') :
    GtSt w0 (w.setCell ⟨w0.heap.size + 1, 32 + i, none⟩ v) x0 x1 x2 b' s' := by
  refine ⟨h.bel.setCell (by simp only; omega) _, blk_other h.b0 _ (by omega), ?_, blk_other h.b2 _ (by omega)⟩
  have := set_blk h.b1 (32 + i) v
  rw [bkc_set hp, e] at this
  exact this
/-- The cells, and that none is fixed. -/
theorem GtSt.cells (h : GtSt w0 w x0 x1 x2 b s) (hp : b.par.length = 32) :
    (w.cell? ⟨w0.heap.size + 1 + 1, 0, none⟩ = some x0 ∧ w.cell? ⟨w0.heap.size + 1 + 1, 1, none⟩ = some x1 ∧ w.cell? ⟨w0.heap.size + 1 + 1, 2, none⟩ = some x2) ∧
    (w.cell? ⟨w0.heap.size + 1, 32, none⟩ = some (.int .i64 b.vi) ∧ w.cell? ⟨w0.heap.size + 1, 33, none⟩ = some (.int .i64 b.he) ∧ w.cell? ⟨w0.heap.size + 1, 34, none⟩ = some (.int .i64 b.bo) ∧ w.cell? ⟨w0.heap.size + 1, 35, none⟩ = some s) ∧
    (∀ i, w.frozen? ⟨w0.heap.size + 1, i, none⟩ = false) ∧ (∀ i, w.frozen? ⟨w0.heap.size + 1 + 1, i, none⟩ = false) :=
  ⟨⟨cell_blk h.b2 0, cell_blk h.b2 1, cell_blk h.b2 2⟩, h.b1.cells hp, h.b1.free, free_blk h.b2⟩
end
end Go.Proofs.YtekfkfpfnhoblaaDoor

/-
  A row of the call's own that holds transactions; an append onto it.
-/
namespace Go.Proofs.YtekfkfpfnhoblaaDoor
set_option maxRecDepth 20000
open Go.RowKit

def tcls (L : List TxM) : List Value := (L.map tcl).flatten
theorem tcls_length (L : List TxM) : (tcls L).length = L.length * 7 := by
  induction L with
  | nil => rfl
  | cons t L ih =>
    unfold tcls at ih ⊢
    simp only [List.map_cons, List.flatten_cons, List.length_append, List.length_cons, ih, tcl_length]
    omega
theorem tcls_append (L M : List TxM) : tcls (L ++ M) = tcls L ++ tcls M := by simp [tcls]
theorem tcl_one (t : TxM) : ∀ u ∈ tcl t, u.oneCell' = true := by
  intro u hu
  unfold tcl at hu
  simp only [List.mem_cons, List.not_mem_nil, or_false] at hu
  obtain rfl | rfl | rfl | rfl | rfl | rfl | rfl := hu <;> rfl
theorem tcls_one (L : List TxM) : ∀ u ∈ tcls L, u.oneCell' = true := by
  intro u hu
  obtain ⟨l, hl, hu⟩ := List.mem_flatten.1 hu
  obtain ⟨t, _, rfl⟩ := List.mem_map.1 hl
  exact tcl_one t u hu
/-- The cells of transaction j stand from 7 j on. -/
theorem tcls_at (L : List TxM) (j : Nat) (hj : j < L.length) (k : Nat) (hk : k < 7) : (tcls L)[j * 7 + k]? = (tcl L[j])[k]? := by
  induction L generalizing j with
  | nil => simp at hj
  | cons t L ih =>
    have e : tcls (t :: L) = tcl t ++ tcls L := by simp [tcls]
    rw [e]
    cases j with
    | zero =>
      rw [Nat.zero_mul, Nat.zero_add, List.getElem?_append_left (by rw [tcl_length]; exact hk)]
      rfl
    | succ j =>
      rw [List.getElem?_append_right (by rw [tcl_length]; omega), tcl_length, show (j + 1) * 7 + k - 7 = j * 7 + k from by omega]
      exact ih j (by simpa using hj)
theorem tcls_get (L : List TxM) (i : Nat) (u : Value) (h : (tcls L)[i]? = some u) : ∃ (hj : i / 7 < L.length), (tcl L[i / 7])[i % 7]? = some u := by
  have hi := (List.getElem?_eq_some_iff.1 h).1
  rw [tcls_length] at hi
  have hj : i / 7 < L.length := by omega
  refine ⟨hj, ?_⟩
  have := tcls_at L (i / 7) hj (i % 7) (Nat.mod_lt _ (by omega))
  rw [show i / 7 * 7 + i % 7 = i from by omega, h] at this
  exact this.symm

/-- The value is a slice of the call's own, from block B on, that holds the transactions L. -/
def OwnT (B : Nat) (w : World) (v : Value) (L : List TxM) : Prop := w.ownsRow B 45 7 v L.length (tcls L)
section
variable {w w' : World} {v : Value} {L : List TxM} {B : Nat}
theorem OwnT.nil (B : Nat) (w : World) : OwnT B w (.slice none 0 0) [] := World.ownsRow_nil _ _ _ _
theorem OwnT.txs (h : OwnT B w v L) : Txs w v L := by
  rcases h.2 with ⟨rfl, h0⟩ | ⟨g, cap, cur, rfl, _, hh, hn, hm, hs, ht⟩
  · have : L = [] := List.eq_nil_of_length_eq_zero h0
    subst this
    exact Txs.nil w
  · refine ⟨_, cap, rfl, hn, hm, fun _ => ⟨g, 0, rfl, lt_of_block hh, fun j hj k u hu => ?_⟩⟩
    have hk : k < 7 := by have := (List.getElem?_eq_some_iff.1 hu).1; rw [tcl_length] at this; exact this
    rw [Nat.zero_add, cell_of_row w g _ _ _ (0, 0) hh, ← Array.getElem?_toList]
    have e := tcls_at L j hj k hk
    rw [hu, ← ht, List.getElem?_take_of_lt (by omega)] at e
    exact e
theorem OwnT.more (h : OwnT B w v L) {B' : Nat} (hB : B' ≤ B) : OwnT B' w v L := by
  refine ⟨h.1, ?_⟩
  rcases h.2 with h0 | ⟨g, cap, cur, e, hg, r⟩
  · exact .inl h0
  · exact .inr ⟨g, cap, cur, e, by omega, r⟩
theorem OwnT.keep (h : OwnT B w v L) (hk : ∀ b, b < w.heap.size → v.ownBlock = some b → w'.heap[b]? = w.heap[b]?) : OwnT B w' v L := by
  refine ⟨h.1, ?_⟩
  rcases h.2 with h0 | ⟨g, cap, cur, rfl, hg, hh, r⟩
  · exact .inl h0
  · exact .inr ⟨g, cap, cur, rfl, hg, (hk g (lt_of_block hh) rfl).trans hh, r⟩
theorem OwnT.below (h : OwnT B w v L) (hb : Below w.heap.size w w') : OwnT B w' v L := h.keep fun b hlt _ => hb.block b hlt
theorem OwnT.far (h : OwnT B w v L) {g : Nat} (hg : w.grownBy w' (some g)) (hB : g < B) : OwnT B w' v L := h.keep fun b hlt e => hg.block b hlt (fun e' => by
  have := (World.ownsRow.lt h b e).1
  injection e' with e'
  omega)
theorem OwnT.set (h : OwnT B w v L) {g : Nat} (hB : g < B) (i : Nat) (u : Value) : OwnT B (w.setCell ⟨g, i, none⟩ u) v L := h.keep fun b _ e => Below.heap_setCell w _ u b (fun e' => by
  have := (World.ownsRow.lt h b e).1
  simp only at e'
  omega)
end
theorem fresh0_ownT (w : World) : OwnT w.heap.size (w.alloc (.cells #[] 45)) (.slice (some ⟨w.heap.size, 0, none⟩) 0 0) [] := World.ownsRow_made w #[] 0 (Nat.le_refl _) (Nat.zero_le _) rfl
theorem txs_one (w : World) (t : TxM) (C : Array Value) (h : (tcl t).toArray = C) : Txs (w.alloc (.cells C 45)) (.slice (some ⟨w.heap.size, 0, none⟩) 1 1) [t] := by
  subst h
  refine ⟨_, 1, rfl, Nat.le_refl _, by unfold maxLen; omega, fun _ => ⟨w.heap.size, 0, rfl, by simp, fun j hj k u hu => ?_⟩⟩
  obtain rfl : j = 0 := by simpa using hj
  rw [Nat.zero_mul, Nat.zero_add, cell_blk (heap_alloc_new w _) k]
  simpa using hu

theorem info_tx7 : (Tryd.prog.info? 45).map (fun i => (i.zero, i.size, i.bytes)) = some (some (.agg #[.int .i64 0, .int .i64 0, .int .i64 0, .int .i64 0, .int .i64 0, .string ⟨#[]⟩, .string ⟨#[]⟩]), 7, 72) := by kernel_rfl
theorem under_txsl : Tryd.prog.underlying 24 = some (.slice 45) := by kernel_rfl
theorem run_append_tx {w : World} {B : Nat} {v x : Value} {l m : List TxM} (ty : TypeId) (hv : OwnT B w v l) (hx : Txs w x m) (hs : l.length + m.length ≤ 1000000000) (hB : B ≤ w.heap.size) :
    ∃ v' w', (Builtin.append_ #[24, 24] ty #[v, x]).run Tryd.prog w = .ok v' w' ∧ OwnT B w' v' (l ++ m) ∧ w.grownBy w' v.ownBlock ∧ (v'.ownBlock = v.ownBlock ∨ v'.ownBlock = some w.heap.size) := by
  obtain ⟨i0, hi, hz0, hz1, hz2⟩ := info_parts info_tx7
  obtain ⟨A, c, rfl, hmc, hcm, hr⟩ := hx
  have hlm : (l ++ m).length = l.length + m.length := by simp
  rcases A with _ | ad
  · have h0 : m = [] := by
      rcases m with _ | ⟨x, m⟩
      · rfl
      · obtain ⟨_, _, h, _⟩ := hr (by simp)
        cases h
    subst h0
    refine ⟨v, w, ?_, by rw [List.append_nil]; exact hv, World.grownBy.refl w _, .inl rfl⟩
    rcases hv.2 with ⟨rfl, h0⟩ | ⟨g, cap, cur, rfl, _, _, hnc, _⟩
    · simp [Builtin.append_, run_underlying under_txsl, sizeOf, typeInfo, hi, Builtin.lenOf, Builtin.firstCells]
    · simp [Builtin.append_, run_underlying under_txsl, sizeOf, typeInfo, hi, Builtin.lenOf, Builtin.firstCells, hnc, storeCells]
  · have hcells : ∀ j u, (tcls m)[j]? = some u → w.cell? (ad.add j) = some u := by
      intro j u hu
      obtain ⟨hj, hu'⟩ := tcls_get m j u hu
      obtain ⟨b, off, e, _, hc⟩ := hr (by omega)
      injection e with e
      subst e
      rw [addr_add]
      have := hc (j / 7) hj (j % 7) u hu'
      rw [show off + j / 7 * 7 + j % 7 = off + j from by omega] at this
      exact this
    obtain ⟨v', w', hrun, h2, h3, _, h5⟩ := run_append_own_at (P := Tryd.prog) w B 24 ty 45 i0 _ 7 72 under_txsl hi hz0 hz1 hz2 rfl (by omega) v l.length (tcls l) hv ad m.length c (tcls m) (tcls_length m) hcells (tcls_one m) (by unfold maxLen; omega) (by omega) hB
    refine ⟨v', w', hrun, ?_, h3, h5⟩
    unfold OwnT
    rw [hlm, tcls_append]
    exact h2
theorem wp_append_tx {o : Oper} {a : Act} {K : Act → World → Prop} {Q : Exit → Act → World → Prop} {w : World} (s y : Operand)
    (ho : o.op = .call { callee := .builtin .append, args := #[s, y], argTypes := #[24, 24] })
    {B : Nat} {v x : Value} {l m : List TxM} (hes : a.eval s = v) (hey : a.eval y = x) (hv : OwnT B w v l) (hx : Txs w x m) (hs : l.length + m.length ≤ 1000000000) (hB : B ≤ w.heap.size)
    (h : ∀ v' w', OwnT B w' v' (l ++ m) → w.grownBy w' v.ownBlock → (v'.ownBlock = v.ownBlock ∨ v'.ownBlock = some w.heap.size) → K (a.put o.dst v') w') : o.wp Tryd.prog a w K Q := by
  obtain ⟨v', w', hrun, h2, h3, h4⟩ := run_append_tx (w := w) o.type hv hx hs hB
  unfold Oper.wp execOp
  simp only [ho, resolve, invoke, builtin, Sem.run_bind, Sem.run_pure, Result.andThen_ok, List.map_toArray, List.map_cons, List.map_nil, hes, hey, hrun]
  exact h v' w' h2 h3 h4
theorem wpList_append_tx {ops : Array Oper} {rest : List Oper} {o : Oper} {a : Act} {Q : Exit → Act → World → Prop} {w : World} (hgd : o.guard = none) (s y : Operand)
    (ho : o.op = .call { callee := .builtin .append, args := #[s, y], argTypes := #[24, 24] })
    {B : Nat} {v x : Value} {l m : List TxM} (hes : a.eval s = v) (hey : a.eval y = x) (hv : OwnT B w v l) (hx : Txs w x m) (hs : l.length + m.length ≤ 1000000000) (hB : B ≤ w.heap.size)
    (h : ∀ v' w', OwnT B w' v' (l ++ m) → w.grownBy w' v.ownBlock → (v'.ownBlock = v.ownBlock ∨ v'.ownBlock = some w.heap.size) → wpList Tryd.prog ops Q rest (a.put o.dst v') w') : wpList Tryd.prog ops Q (o :: rest) a w :=
  wpList_plain hgd fun _ hK => wp_append_tx s y ho hes hey hv hx hs hB fun v' w' h2 h3 h4 => hK _ _ (h v' w' h2 h3 h4)
end Go.Proofs.YtekfkfpfnhoblaaDoor
