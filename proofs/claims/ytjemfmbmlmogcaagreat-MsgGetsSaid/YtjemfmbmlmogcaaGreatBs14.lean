/-
  AtCodeRead: what each of them says stands at its head.
-/
import Derived.Test.YtjemfmbmlmogcaaGreatBs13
import Derived.Test.YtjemfmbmlmogcaaGreatBs3
import Derived.Test.YtjemfmbmlmogcaaGreatBs1
namespace Go.Proofs.YtjemfmbmlmogcaaGreat
set_option maxRecDepth 20000
open Go.RowKit
attribute [local go_sem ↓] exec_load_att exec_alloc_att exec_store_att exec_build_att exec_load_hash
structure RaSt (w0 w : World) (g : Nat) (l : List UInt8) (p : Nat) (r : Bool) (a : AtM) : Prop where
  lt : g < w0.heap.size
  gr : w0.grownBy w (some g)
  rd : Rdr w g l p r
  b0 : BoxA w w0.heap.size atZ
  b1 : BoxA w (w0.heap.size + 1) a
section
variable {w0 w w' : World} {g : Nat} {l : List UInt8} {p : Nat} {r : Bool} {a : AtM}
theorem raGrown_set {w0 w : World} {row : Option Nat} (h : w0.grownBy w row) (a : Addr) (u : Value) (ha : w0.heap.size ≤ a.block) : w0.grownBy (w.setCell a u) row :=
  ⟨h.os, h.tape, h.output, by simpa using h.size, fun k hk hr => (Below.heap_setCell w a u k (fun e => by omega)).trans (h.block k hk hr)⟩
theorem raGrown_past {w0 w w' : World} {row : Option Nat} {k : Nat} (h : w0.grownBy w row) (hg : w.grownBy w' (some k)) (hk : w0.heap.size ≤ k) : w0.grownBy w' row :=
  ⟨hg.os.trans h.os, hg.tape.trans h.tape, hg.output.trans h.output, Nat.le_trans h.size hg.size, fun j hj hne => (hg.block j (Nat.lt_of_lt_of_le hj h.size) (fun e => by injection e with e; omega)).trans (h.block j hj hne)⟩
theorem RaSt.new (h : Rdr w0 g l p r) : RaSt w0 ((w0.alloc (.cells (atc atZ) 25)).alloc (.cells (atc atZ) 25)) g l p r atZ := by
  have hb : Below w0.heap.size w0 ((w0.alloc (.cells (atc atZ) 25)).alloc (.cells (atc atZ) 25)) := ((Below.refl _ _).alloc (Nat.le_refl _) _).alloc (by simp) _
  exact ⟨h.lt, grown_of_below hb _, h.below hb, heap1 w0 _ _, heap_alloc2_new w0 _ _⟩
theorem RaSt.grow (h : RaSt w0 w g l p r a) {p' : Nat} {r' : Bool} (hr : Rdr w' g l p' r') (hg : w.grownBy w' (some g)) : RaSt w0 w' g l p' r' a := by
  have h0 := h.b0.lt
  have h1 := h.b1.lt
  have hlt := h.lt
  exact ⟨hlt, h.gr.trans hg, hr, (hg.block _ h0 (fun e => by injection e with e; omega)).trans h.b0, (hg.block _ h1 (fun e => by injection e with e; omega)).trans h.b1⟩
theorem RaSt.below (h : RaSt w0 w g l p r a) (hb : Below w.heap.size w w') : RaSt w0 w' g l p r a := h.grow (h.rd.below hb) (grown_of_below hb _)
theorem RaSt.cell (h : RaSt w0 w g l p r a) {b : AtM} {v : Value} (i : Nat) (e : (atc a).setIfInBounds i v = atc b) : RaSt w0 (w.setCell ⟨w0.heap.size + 1, i, none⟩ v) g l p r b := by
  have hlt := h.lt
  refine ⟨hlt, raGrown_set h.gr _ _ (Nat.le_succ _), h.rd.apart (grown_set _ _ _ _) h.b1 (by decide) (by omega), blk_other h.b0 _ (by omega), ?_⟩
  have := set_blk h.b1 i v
  rw [e] at this
  exact this
theorem RaSt.att (h : RaSt w0 w g l p r a) {b : AtM} (hg : w.grownBy w' (some (w0.heap.size + 1))) (hb : BoxA w' (w0.heap.size + 1) b) : RaSt w0 w' g l p r b := by
  have hlt := h.lt
  exact ⟨hlt, raGrown_past h.gr hg (Nat.le_succ _), h.rd.apart hg h.b1 (by decide) (by omega), (hg.block _ h.b0.lt (fun e => by injection e with e; omega)).trans h.b0, hb⟩
theorem RaSt.cells (h : RaSt w0 w g l p r a) (ho : a.Ok) :
    (w.cell? ⟨w0.heap.size + 1, 0, none⟩ = some (.int .i64 a.bo) ∧ w.cell? ⟨w0.heap.size + 1, 1, none⟩ = some (.int .i64 a.ki) ∧ w.cell? ⟨w0.heap.size + 1, 2, none⟩ = some (.int .i64 a.vi) ∧ w.cell? ⟨w0.heap.size + 1, 3, none⟩ = some (.int .i64 a.ph) ∧ w.cell? ⟨w0.heap.size + 1, 36, none⟩ = some (.int .i64 a.pv)) ∧
    (∀ i, w.frozen? ⟨w0.heap.size + 1, i, none⟩ = false) :=
  ⟨⟨h.b1.cells.1, h.b1.cells.2.1, h.b1.cells.2.2.1, h.b1.cells.2.2.2, h.b1.pv ho⟩, h.b1.free⟩
theorem results_ab {fn : Func} {q s : Tmp} (h : fn.results = #[.cell q 25, .tmp s]) (tmps : Array Value) (w : World) (g2 : Nat) (t2 : TypeId) (ys : Array Value) (v : Value)
    (hq : tmps.getD q undef = .pointer (some ⟨g2, 0, none⟩)) (hv : tmps.getD s undef = v) (h2 : w.heap[g2]? = some (.cells ys t2 (0, 0))) (hy : ys.size = 101) :
    (results fn tmps).run Tryz.prog w = .ok (.tuple #[.agg ys, v]) w := by
  have hq' : tmps[q]?.getD undef = .pointer (some ⟨g2, 0, none⟩) := by simpa using hq
  have hv' : tmps[s]?.getD undef = v := by simpa using hv
  have r2 := run_loadVar_row (P := Tryz.prog) w g2 t2 25 ys (0, 0) _ h2 under_att rfl (by rw [size_att, hy])
  simp [results, h, hq', hv', asAddr, r2]
theorem RaSt.fin (h : RaSt w0 w g l p r a) (C : Array Value) : (setAtt w w0.heap.size C).heap[w0.heap.size]? = some (.cells C 25 (0, 0)) ∧ Rdr (setAtt w w0.heap.size C) g l p r ∧ w0.grownBy (setAtt w w0.heap.size C) (some g) := by
  have hlt := h.lt
  have hg : w.grownBy (setAtt w w0.heap.size C) (some w0.heap.size) := by
    refine ⟨rfl, rfl, rfl, ?_, fun k hk hne => setAtt_other w C (fun e => hne (by rw [e]))⟩
    unfold setAtt
    simp
  exact ⟨setAtt_same h.b0, h.rd.apart hg h.b0 (by decide) (by omega), raGrown_past h.gr hg (Nat.le_refl _)⟩
end
def RaPost (w : World) (g : Nat) (l : List UInt8) (p : Nat) (r : Bool) (e : Ending) (w' : World) : Prop :=
  e = .returned (.tuple #[.agg (atc (atOf l p r)), .bool (atIs l p r)]) ∧ (∃ p' r', Rdr w' g l p' r' ∧ (atIs l p r = true → p' = (rawA l p r).2.1 ∧ r' = true)) ∧ w.grownBy w' (some g)
theorem raPost_no {w w' : World} {g p q : Nat} {l : List UInt8} {r s : Bool} (h : atIs l p r = false) (hr : Rdr w' g l q s) (hg : w.grownBy w' (some g)) : RaPost w g l p r (.returned (.tuple #[.agg (atc atZ), .bool false])) w' := by
  refine ⟨?_, ⟨_, _, hr, fun h2 => ?_⟩, hg⟩
  · unfold atOf
    rw [h, if_neg (by decide)]
  · rw [h] at h2
    cases h2
theorem raPost_yes {w w' : World} {g p q : Nat} {l : List UInt8} {r : Bool} {a : AtM} (h : atIs l p r = true) (e : rawA l p r = (a, q, true)) (hr : Rdr w' g l q true) (hg : w.grownBy w' (some g)) : RaPost w g l p r (.returned (.tuple #[.agg (atc a), .bool true])) w' := by
  refine ⟨?_, ⟨_, _, hr, fun _ => ?_⟩, hg⟩
  · unfold atOf
    rw [h, if_pos rfl, e]
  · rw [e]
    exact ⟨rfl, rfl⟩
set_option maxHeartbeats 6400000 in
theorem atRead_any (g : Nat) (l : List UInt8) (p : Nat) (r : Bool) (w : World) (hr : Rdr w g l p r) (hl : l.length ≤ 1000000) :
    Calls Tryz.prog 74 #[.pointer (some ⟨g, 0, none⟩)] w (RaPost w g l p r) := by
  have HU := hid (fun p r W (h : Rdr W g l p r) m (h1 : -9223372036854775808 ≤ m) (h2 : m ≤ 9223372036854775807) => upto_any g l p r m W h (by omega) h1 h2)
  have HH := hid (fun p r W (h : Rdr W g l p r) => rhash_any g l p r W h (by omega))
  have HWR := hid (fun p r W (h : Rdr W g l p r) => wrong_any g l p r W h)
  obtain ⟨Z, HZ⟩ : ∃ C : Array Value, Hid (atc atZ = C) := ⟨_, hid rfl⟩
  have hbz : ∀ W, buildAtt W = .ok (.value (.agg Z)) W := fun W => by rw [← HZ.out]; exact buildAtt_eq W
  have hal : ∀ W, allocAtt W = .ok (.value (.pointer (some ⟨W.heap.size, 0, none⟩))) (W.alloc (.cells Z 25)) := fun W => by rw [← HZ.out]; exact allocAtt_eq W
  have HSZ : Hid (Z.size = 101) := hid (by rw [← HZ.out]; exact atc_size atZ_ok)
  have HZ1 : Hid (Z.all (·.oneCell') = true) := hid (by rw [← HZ.out]; exact atc_one _)
  have hst := RaSt.new hr
  rw [HZ.out] at hst
  have HBZ := hid hbz
  have hsz : (w.alloc (.cells Z 25)).heap.size = w.heap.size + 1 := by simp
  clear hr hl hbz
  go_enter Tryz.func74, Tryz.ntmps74
  go_upto_region 2 with (fail)
  generalize ((w.alloc (.cells Z 25)).alloc (.cells Z 25)) = w0 at *
  clear hal
  try rw [hsz]
  clear hsz
  obtain ⟨⟨k0, k1, k2, k3, k5⟩, g1⟩ := hst.cells ⟨rfl, rfl, rfl⟩
  have HST := hid hst
  clear hst
  go_wp2_with fail
  obtain ⟨a1, p1, r1, HA1⟩ : ∃ x q s, Hid (rdUpto 21 l p r = (x, q, s)) := ⟨_, _, _, hid rfl⟩
  have hm1 : a1 ≤ 21 := by have := rdUpto_le (m := 21) (l := l) (p := p) (r := r); rw [show ((21 : Nat) : Int) = 21 from rfl, HA1.out] at this; exact this
  have C := HU.out p r _ (HST.out).rd 21 (by omega) (by omega)
  rw [HA1.out] at C
  refine C.mono ?_
  clear C
  rintro e w1 ⟨rfl, hrd, hgr⟩
  have hst : RaSt w w1 g l p1 r1 ⟨0, 0, 0, 0, z32, 0, z32, z32⟩ := (HST.out).grow hrd hgr
  clear hrd hgr HST k0 k1 k2 k3 k5 g1
  obtain ⟨⟨k0, k1, k2, k3, k5⟩, g1⟩ := hst.cells ⟨rfl, rfl, rfl⟩
  have HST := hid hst
  clear hst
  go_wp2_with fail
  obtain ⟨a2, p2, r2, HA2⟩ : ∃ x q s, Hid (rdUpto 3 l p1 r1 = (x, q, s)) := ⟨_, _, _, hid rfl⟩
  have hm2 : a2 ≤ 3 := by have := rdUpto_le (m := 3) (l := l) (p := p1) (r := r1); rw [show ((3 : Nat) : Int) = 3 from rfl, HA2.out] at this; exact this
  have C := HU.out p1 r1 _ ((HST.out.cell (b := ⟨(a1 : Int), 0, 0, 0, z32, 0, z32, z32⟩) (v := .int .i64 (a1 : Int)) 0 rfl)).rd 3 (by omega) (by omega)
  rw [HA2.out] at C
  refine C.mono ?_
  clear C
  rintro e w2 ⟨rfl, hrd, hgr⟩
  have hst : RaSt w w2 g l p2 r2 ⟨(a1 : Int), 0, 0, 0, z32, 0, z32, z32⟩ := ((HST.out.cell (b := ⟨(a1 : Int), 0, 0, 0, z32, 0, z32, z32⟩) (v := .int .i64 (a1 : Int)) 0 rfl)).grow hrd hgr
  clear hrd hgr HST k0 k1 k2 k3 k5 g1
  obtain ⟨⟨k0, k1, k2, k3, k5⟩, g1⟩ := hst.cells ⟨rfl, rfl, rfl⟩
  have HST := hid hst
  clear hst
  go_wp2_with fail
  obtain ⟨a3, p3, r3, HA3⟩ : ∃ x q s, Hid (rdUpto 1099511627776 l p2 r2 = (x, q, s)) := ⟨_, _, _, hid rfl⟩
  have hm3 : a3 ≤ 1099511627776 := by have := rdUpto_le (m := 1099511627776) (l := l) (p := p2) (r := r2); rw [show ((1099511627776 : Nat) : Int) = 1099511627776 from rfl, HA3.out] at this; exact this
  have C := HU.out p2 r2 _ ((HST.out.cell (b := ⟨(a1 : Int), (a2 : Int), 0, 0, z32, 0, z32, z32⟩) (v := .int .i64 (a2 : Int)) 1 rfl)).rd 1099511627776 (by omega) (by omega)
  rw [HA3.out] at C
  refine C.mono ?_
  clear C
  rintro e w3 ⟨rfl, hrd, hgr⟩
  have hst : RaSt w w3 g l p3 r3 ⟨(a1 : Int), (a2 : Int), 0, 0, z32, 0, z32, z32⟩ := ((HST.out.cell (b := ⟨(a1 : Int), (a2 : Int), 0, 0, z32, 0, z32, z32⟩) (v := .int .i64 (a2 : Int)) 1 rfl)).grow hrd hgr
  clear hrd hgr HST k0 k1 k2 k3 k5 g1
  obtain ⟨⟨k0, k1, k2, k3, k5⟩, g1⟩ := hst.cells ⟨rfl, rfl, rfl⟩
  have HST := hid hst
  clear hst
  go_wp2_with fail
  obtain ⟨a4, p4, r4, HA4⟩ : ∃ x q s, Hid (rdUpto 3 l p3 r3 = (x, q, s)) := ⟨_, _, _, hid rfl⟩
  have hm4 : a4 ≤ 3 := by have := rdUpto_le (m := 3) (l := l) (p := p3) (r := r3); rw [show ((3 : Nat) : Int) = 3 from rfl, HA4.out] at this; exact this
  have C := HU.out p3 r3 _ ((HST.out.cell (b := ⟨(a1 : Int), (a2 : Int), (a3 : Int), 0, z32, 0, z32, z32⟩) (v := .int .i64 (a3 : Int)) 2 rfl)).rd 3 (by omega) (by omega)
  rw [HA4.out] at C
  refine C.mono ?_
  clear C
  rintro e w4 ⟨rfl, hrd, hgr⟩
  have hst : RaSt w w4 g l p4 r4 ⟨(a1 : Int), (a2 : Int), (a3 : Int), 0, z32, 0, z32, z32⟩ := ((HST.out.cell (b := ⟨(a1 : Int), (a2 : Int), (a3 : Int), 0, z32, 0, z32, z32⟩) (v := .int .i64 (a3 : Int)) 2 rfl)).grow hrd hgr
  clear hrd hgr HST k0 k1 k2 k3 k5 g1
  obtain ⟨⟨k0, k1, k2, k3, k5⟩, g1⟩ := hst.cells ⟨rfl, rfl, rfl⟩
  have HST := hid hst
  clear hst
  go_wp2_with fail
  obtain ⟨h5, p5, r5, HA5⟩ : ∃ x q s, Hid (rdHash l p4 r4 = (x, q, s)) := ⟨_, _, _, hid rfl⟩
  have HL5 : Hid (h5.length = 32) := hid (by have := rdHash_32 l p4 r4; rw [HA5.out] at this; exact this)
  have C := HH.out p4 r4 _ ((HST.out.cell (b := ⟨(a1 : Int), (a2 : Int), (a3 : Int), (a4 : Int), z32, 0, z32, z32⟩) (v := .int .i64 (a4 : Int)) 3 rfl)).rd
  rw [HA5.out] at C
  refine C.mono ?_
  clear C
  rintro e w5 ⟨rfl, hrd, hgr⟩
  have hst : RaSt w w5 g l p5 r5 ⟨(a1 : Int), (a2 : Int), (a3 : Int), (a4 : Int), z32, 0, z32, z32⟩ := ((HST.out.cell (b := ⟨(a1 : Int), (a2 : Int), (a3 : Int), (a4 : Int), z32, 0, z32, z32⟩) (v := .int .i64 (a4 : Int)) 3 rfl)).grow hrd hgr
  clear hrd hgr HST k0 k1 k2 k3 k5 g1
  have HST0 := hid hst
  clear hst
  simp only
  go_wp2_with (refine wpList_store_ha rfl _ _ rfl rfl rfl HST0.out.b1 ⟨rfl, rfl, rfl⟩ HL5.out ?_; intro v5 hg5 hA5 hs5; have HST := hid (HST0.out.att (b := ⟨(a1 : Int), (a2 : Int), (a3 : Int), (a4 : Int), h5, 0, z32, z32⟩) hg5 hA5); obtain ⟨⟨k0, k1, k2, k3, k5⟩, g1⟩ := HST.out.cells ⟨HL5.out, rfl, rfl⟩; clear hg5 hA5 hs5 HST0)
  obtain ⟨a6, p6, r6, HA6⟩ : ∃ x q s, Hid (rdUpto 1099511627776 l p5 r5 = (x, q, s)) := ⟨_, _, _, hid rfl⟩
  have hm6 : a6 ≤ 1099511627776 := by have := rdUpto_le (m := 1099511627776) (l := l) (p := p5) (r := r5); rw [show ((1099511627776 : Nat) : Int) = 1099511627776 from rfl, HA6.out] at this; exact this
  have C := HU.out p5 r5 _ (HST.out).rd 1099511627776 (by omega) (by omega)
  rw [HA6.out] at C
  refine C.mono ?_
  clear C
  rintro e w6 ⟨rfl, hrd, hgr⟩
  have hst : RaSt w w6 g l p6 r6 ⟨(a1 : Int), (a2 : Int), (a3 : Int), (a4 : Int), h5, 0, z32, z32⟩ := (HST.out).grow hrd hgr
  clear hrd hgr HST k0 k1 k2 k3 k5 g1
  obtain ⟨⟨k0, k1, k2, k3, k5⟩, g1⟩ := hst.cells ⟨HL5.out, rfl, rfl⟩
  have HST := hid hst
  clear hst
  go_wp2_with fail
  obtain ⟨h7, p7, r7, HA7⟩ : ∃ x q s, Hid (rdHash l p6 r6 = (x, q, s)) := ⟨_, _, _, hid rfl⟩
  have HL7 : Hid (h7.length = 32) := hid (by have := rdHash_32 l p6 r6; rw [HA7.out] at this; exact this)
  have C := HH.out p6 r6 _ ((HST.out.cell (b := ⟨(a1 : Int), (a2 : Int), (a3 : Int), (a4 : Int), h5, (a6 : Int), z32, z32⟩) (v := .int .i64 (a6 : Int)) 36 (atc_pv (a := ⟨(a1 : Int), (a2 : Int), (a3 : Int), (a4 : Int), h5, 0, z32, z32⟩) ⟨HL5.out, rfl, rfl⟩ (a6 : Int)))).rd
  rw [HA7.out] at C
  refine C.mono ?_
  clear C
  rintro e w7 ⟨rfl, hrd, hgr⟩
  have hst : RaSt w w7 g l p7 r7 ⟨(a1 : Int), (a2 : Int), (a3 : Int), (a4 : Int), h5, (a6 : Int), z32, z32⟩ := ((HST.out.cell (b := ⟨(a1 : Int), (a2 : Int), (a3 : Int), (a4 : Int), h5, (a6 : Int), z32, z32⟩) (v := .int .i64 (a6 : Int)) 36 (atc_pv (a := ⟨(a1 : Int), (a2 : Int), (a3 : Int), (a4 : Int), h5, 0, z32, z32⟩) ⟨HL5.out, rfl, rfl⟩ (a6 : Int)))).grow hrd hgr
  clear hrd hgr HST k0 k1 k2 k3 k5 g1
  have HST0 := hid hst
  clear hst
  simp only
  go_wp2_with (refine wpList_store_pa rfl _ _ rfl rfl rfl HST0.out.b1 ⟨HL5.out, rfl, rfl⟩ HL7.out ?_; intro v7 hg7 hA7 hs7; have HST := hid (HST0.out.att (b := ⟨(a1 : Int), (a2 : Int), (a3 : Int), (a4 : Int), h5, (a6 : Int), h7, z32⟩) hg7 hA7); obtain ⟨⟨k0, k1, k2, k3, k5⟩, g1⟩ := HST.out.cells ⟨HL5.out, HL7.out, rfl⟩; clear hg7 hA7 hs7 HST0)
  obtain ⟨h8, p8, r8, HA8⟩ : ∃ x q s, Hid (rdHash l p7 r7 = (x, q, s)) := ⟨_, _, _, hid rfl⟩
  have HL8 : Hid (h8.length = 32) := hid (by have := rdHash_32 l p7 r7; rw [HA8.out] at this; exact this)
  have C := HH.out p7 r7 _ (HST.out).rd
  rw [HA8.out] at C
  refine C.mono ?_
  clear C
  rintro e w8 ⟨rfl, hrd, hgr⟩
  have hst : RaSt w w8 g l p8 r8 ⟨(a1 : Int), (a2 : Int), (a3 : Int), (a4 : Int), h5, (a6 : Int), h7, z32⟩ := (HST.out).grow hrd hgr
  clear hrd hgr HST k0 k1 k2 k3 k5 g1
  have HST0 := hid hst
  clear hst
  simp only
  go_wp2_with (refine wpList_store_tag rfl _ _ rfl rfl rfl HST0.out.b1 ⟨HL5.out, HL7.out, rfl⟩ HL8.out ?_; intro v8 hg8 hA8 hs8; have HST := hid (HST0.out.att (b := ⟨(a1 : Int), (a2 : Int), (a3 : Int), (a4 : Int), h5, (a6 : Int), h7, h8⟩) hg8 hA8); obtain ⟨⟨k0, k1, k2, k3, k5⟩, g1⟩ := HST.out.cells ⟨HL5.out, HL7.out, HL8.out⟩; clear hg8 hA8 hs8 HST0)
  obtain ⟨a, HAA⟩ : ∃ a : AtM, Hid ((⟨(a1 : Int), (a2 : Int), (a3 : Int), (a4 : Int), h5, (a6 : Int), h7, h8⟩ : AtM) = a) := ⟨_, hid rfl⟩
  have HOK : Hid a.Ok := hid (by rw [← HAA.out]; exact ⟨HL5.out, HL7.out, HL8.out⟩)
  have HRAW : Hid (rawA l p r = (a, p8, r8)) := hid (by unfold rawA; simp only [HA1.out, HA2.out, HA3.out, HA4.out, HA5.out, HA6.out, HA7.out, HA8.out]; rw [← HAA.out])
  have hst := HST.out
  rw [HAA.out] at hst
  have HST9 := hid hst
  clear hst HST HA1 HA2 HA3 HA4 HA5 HA6 HA7 HA8 HH HU k0 k1 k2 k3 k5 g1 HAA HL5 HL7 HL8 hm1 hm2 hm3 hm4 hm6
  refine (HWR.out p8 r8 v8 HST9.out.rd).mono ?_
  rintro e wy ⟨rfl, rfl⟩
  obtain ⟨CA, HCA⟩ : ∃ C : Array Value, Hid (atc a = C) := ⟨_, hid rfl⟩
  have HCK : Hid (∀ W, Calls Tryz.prog 66 #[.agg CA] W fun e w' => e = .returned (.int .i64 (if mayA a = true then 0 else 1)) ∧ Below W.heap.size W w') := hid (fun W => by
    have := atCheck_ok a W HOK.out
    rw [HCA.out] at this
    exact this)
  obtain ⟨m, HM⟩ : ∃ m : Bool, Hid (mayA a = m) := ⟨_, hid rfl⟩
  have HI : Hid (atIs l p r = (r8 && m)) := hid (by unfold atIs; rw [HRAW.out, HM.out])
  rw [HM.out] at HCK
  have HCS : Hid (CA.size = 101 ∧ CA.all (·.oneCell') = true) := hid (by rw [← HCA.out]; exact ⟨atc_size HOK.out, atc_one _⟩)
  have HLD : Hid (∀ W, RaSt w W g l p8 r8 a → loadAtt (.pointer (some ⟨w.heap.size + 1, 0, none⟩)) W = .ok (.value (.agg CA)) W ∧ storeAtt (.pointer (some ⟨w.heap.size, 0, none⟩)) (.agg CA) W = .ok .skip (setAtt W w.heap.size CA) ∧ storeAtt (.pointer (some ⟨w.heap.size, 0, none⟩)) (.agg Z) W = .ok .skip (setAtt W w.heap.size Z)) := hid (fun W h => by
    have h1 := loadAtt_eq h.b1 HOK.out
    rw [HCA.out] at h1
    have h2 := h.b0
    unfold BoxA at h2
    rw [HZ.out] at h2
    exact ⟨h1, storeAtt_eq h2 HSZ.out HCS.out.1 HCS.out.2, storeAtt_eq h2 HSZ.out HSZ.out HZ1.out⟩)
  have hbz := HBZ.out
  obtain ⟨l9, _, s9⟩ := HLD.out v8 HST9.out
  cases r8 with
  | false =>
    have HIS : Hid (atIs l p r = false) := hid (by rw [HI.out]; rfl)
    have HF := hid (HST9.out.fin Z)
    clear l9
    go_wp2_with fail
    refine bodyPost_ret (results_ab rfl _ _ _ _ _ _ rfl rfl HF.out.1 HSZ.out) rfl ?_
    rw [← HZ.out] at HF ⊢
    exact raPost_no HIS.out HF.out.2.1 HF.out.2.2
  | true =>
    clear s9
    go_wp2_with fail
    refine (HCK.out v8).mono ?_
    rintro e w9 ⟨rfl, hb9⟩
    have HSTA := hid (HST9.out.below hb9)
    obtain ⟨l10, t10, s10⟩ := HLD.out w9 HSTA.out
    clear l9 hb9
    cases m with
    | false =>
      have HIS : Hid (atIs l p r = false) := hid (by rw [HI.out]; rfl)
      have HF := hid (HSTA.out.fin Z)
      clear l10 t10
      simp only [Bool.false_eq_true, if_false]
      go_wp2_with fail
      refine bodyPost_ret (results_ab rfl _ _ _ _ _ _ rfl rfl HF.out.1 HSZ.out) rfl ?_
      rw [← HZ.out] at HF ⊢
      exact raPost_no HIS.out HF.out.2.1 HF.out.2.2
    | true =>
      have HIS : Hid (atIs l p r = true) := hid (by rw [HI.out]; rfl)
      have HF := hid (HSTA.out.fin CA)
      clear s10 hbz
      simp only [if_true]
      go_wp2_with fail
      refine bodyPost_ret (results_ab rfl _ _ _ _ _ _ rfl rfl HF.out.1 HCS.out.1) rfl ?_
      rw [← HCA.out] at HF ⊢
      exact raPost_yes HIS.out HRAW.out HF.out.2.1 HF.out.2.2
theorem atRead_ok : AtReadOk := fun g l p r w hr hl => atRead_any g l p r w hr hl
end Go.Proofs.YtjemfmbmlmogcaaGreat
