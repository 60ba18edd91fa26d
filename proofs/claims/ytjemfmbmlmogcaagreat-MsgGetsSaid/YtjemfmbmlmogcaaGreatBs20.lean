/-
  CtCodeRead: what each of them says stands at its head.
-/
import Derived.BigQuiet
import Derived.Deep.DeepCutAuto
import Derived.Deep.QuietTactic
import Derived.LoopTactic
import Derived.Outline
import Derived.Test.YtjemfmbmlmogcaaGreatBs19
import Derived.Test.YtjemfmbmlmogcaaGreatBs18
import Derived.Test.YtjemfmbmlmogcaaGreatBs3
import Derived.Test.YtjemfmbmlmogcaaGreatBs1
namespace Go.Proofs.YtjemfmbmlmogcaaGreat
set_option maxRecDepth 20000
open Go.RowKit
attribute [local go_sem ↓] exec_load_ct exec_alloc_ct exec_store_ct exec_build_ct exec_build_sg2 exec_slice_sg
theorem rcGrown_set {w0 w : World} {row : Option Nat} (h : w0.grownBy w row) (a : Addr) (u : Value) (ha : w0.heap.size ≤ a.block) : w0.grownBy (w.setCell a u) row :=
  ⟨h.os, h.tape, h.output, by simpa using h.size, fun k hk hr => (Below.heap_setCell w a u k (fun e => by omega)).trans (h.block k hk hr)⟩
theorem rcGrown_past {w0 w w' : World} {row : Option Nat} {k : Nat} (h : w0.grownBy w row) (hg : w.grownBy w' (some k)) (hk : w0.heap.size ≤ k) : w0.grownBy w' row :=
  ⟨hg.os.trans h.os, hg.tape.trans h.tape, hg.output.trans h.output, Nat.le_trans h.size hg.size, fun j hj hne => (hg.block j (Nat.lt_of_lt_of_le hj h.size) (fun e => by injection e with e; omega)).trans (h.block j hj hne)⟩
theorem rcRdr_grow {w w' : World} {g B : Nat} {l : List UInt8} {p : Nat} {r : Bool} {s : Value} {ts : List SgM} (h : Rdr w g l p r) (ho : OwnE scl 33 111 B w s ts) (hgB : g < B) (hg : w.grownBy w' s.ownBlock) : Rdr w' g l p r := by
  rcases ho.2 with ⟨rfl, _⟩ | ⟨k, cap, cur, rfl, hk, hh, _⟩
  · exact h.below ((Below.refl _ _).grown hg (Nat.le_refl _) (fun k hk => by cases hk))
  · exact h.apart (k := k) hg hh (by decide) (by omega)
structure RcSt (w0 w : World) (g : Nat) (l : List UInt8) (p : Nat) (r : Bool) (a : AtM) (s : Value) : Prop where
  lt : g < w0.heap.size
  gr : w0.grownBy w (some g)
  rd : Rdr w g l p r
  b0 : BoxC w w0.heap.size ctZ (.slice none 0 0)
  b1 : BoxC w (w0.heap.size + 1) ⟨a, []⟩ s
section
variable {w0 w w' : World} {g : Nat} {l : List UInt8} {p : Nat} {r : Bool} {a : AtM} {s : Value}
theorem RcSt.new (h : Rdr w0 g l p r) : RcSt w0 ((w0.alloc (.cells (ctc ctZ (.slice none 0 0)) 28)).alloc (.cells (ctc ctZ (.slice none 0 0)) 28)) g l p r atZ (.slice none 0 0) := by
  have hb : Below w0.heap.size w0 ((w0.alloc (.cells (ctc ctZ (.slice none 0 0)) 28)).alloc (.cells (ctc ctZ (.slice none 0 0)) 28)) := ((Below.refl _ _).alloc (Nat.le_refl _) _).alloc (by simp) _
  exact ⟨h.lt, grown_of_below hb _, h.below hb, heap1 w0 _ _, heap_alloc2_new w0 _ _⟩
theorem RcSt.grow (h : RcSt w0 w g l p r a s) {p' : Nat} {r' : Bool} (hr : Rdr w' g l p' r') (hg : w.grownBy w' (some g)) : RcSt w0 w' g l p' r' a s := by
  have h0 := h.b0.lt
  have h1 := h.b1.lt
  have hlt := h.lt
  exact ⟨hlt, h.gr.trans hg, hr, (hg.block _ h0 (fun e => by injection e with e; omega)).trans h.b0, (hg.block _ h1 (fun e => by injection e with e; omega)).trans h.b1⟩
theorem RcSt.below (h : RcSt w0 w g l p r a s) (hb : Below w.heap.size w w') : RcSt w0 w' g l p r a s := h.grow (h.rd.below hb) (grown_of_below hb _)
theorem RcSt.cell (h : RcSt w0 w g l p r a s) (ho : a.Ok) {b : AtM} {v : Value} (i : Nat) (hi : i < 101) (e : (atc a).setIfInBounds i v = atc b) : RcSt w0 (w.setCell ⟨w0.heap.size + 1, i, none⟩ v) g l p r b s := by
  have hlt := h.lt
  refine ⟨hlt, rcGrown_set h.gr _ _ (Nat.le_succ _), h.rd.apart (grown_set _ _ _ _) h.b1 (by decide) (by omega), blk_other h.b0 _ (by omega), ?_⟩
  have := set_blk h.b1 i v
  unfold atc at e
  rw [List.setIfInBounds_toArray] at e
  have e' : (atl a).set i v = atl b := by simpa using e
  unfold ctc at this
  rw [List.setIfInBounds_toArray, List.set_append_left _ _ (by rw [atl_length ho]; exact hi), e'] at this
  exact this
theorem RcSt.sig (h : RcSt w0 w g l p r a s) (ho : a.Ok) (v : Value) : RcSt w0 (w.setCell ⟨w0.heap.size + 1, 101, none⟩ v) g l p r a v := by
  have hlt := h.lt
  refine ⟨hlt, rcGrown_set h.gr _ _ (Nat.le_succ _), h.rd.apart (grown_set _ _ _ _) h.b1 (by decide) (by omega), blk_other h.b0 _ (by omega), ?_⟩
  have := set_blk h.b1 101 v
  unfold ctc at this
  rw [List.setIfInBounds_toArray, List.set_append_right _ _ (by rw [atl_length ho]; omega), atl_length ho] at this
  exact this
theorem RcSt.att (h : RcSt w0 w g l p r a s) {b : AtM} (hg : w.grownBy w' (some (w0.heap.size + 1))) (hb : BoxC w' (w0.heap.size + 1) ⟨b, []⟩ s) : RcSt w0 w' g l p r b s := by
  have hlt := h.lt
  exact ⟨hlt, rcGrown_past h.gr hg (Nat.le_succ _), h.rd.apart hg h.b1 (by decide) (by omega), (hg.block _ h.b0.lt (fun e => by injection e with e; omega)).trans h.b0, hb⟩
theorem RcSt.app (h : RcSt w0 w g l p r a s) {ts : List SgM} (ho : OwnE scl 33 111 (w0.heap.size + 2) w s ts) (hg : w.grownBy w' s.ownBlock) : RcSt w0 w' g l p r a s := by
  have hlt := h.lt
  have h0 := h.b0.lt
  have h1 := h.b1.lt
  have hne : ∀ k, k ≤ w0.heap.size + 1 → some k ≠ s.ownBlock := fun k hk e => by
    have := (World.ownsRow.lt ho k e.symm).1
    omega
  refine ⟨hlt, ?_, rcRdr_grow h.rd ho (by omega) hg, (hg.block _ h0 (hne _ (by omega))).trans h.b0, (hg.block _ h1 (hne _ (Nat.le_refl _))).trans h.b1⟩
  have hgr := h.gr
  exact ⟨hg.os.trans hgr.os, hg.tape.trans hgr.tape, hg.output.trans hgr.output, Nat.le_trans hgr.size hg.size, fun k hk hne' => (hg.block k (Nat.lt_of_lt_of_le hk hgr.size) (hne k (by omega))).trans (hgr.block k hk hne')⟩
theorem RcSt.cells (h : RcSt w0 w g l p r a s) (ho : a.Ok) :
    (w.cell? ⟨w0.heap.size + 1, 1, none⟩ = some (.int .i64 a.ki) ∧ w.cell? ⟨w0.heap.size + 1, 2, none⟩ = some (.int .i64 a.vi) ∧ w.cell? ⟨w0.heap.size + 1, 3, none⟩ = some (.int .i64 a.ph) ∧ w.cell? ⟨w0.heap.size + 1, 36, none⟩ = some (.int .i64 a.pv)) ∧
    (∀ i, w.frozen? ⟨w0.heap.size + 1, i, none⟩ = false) := by
  have K : ∀ i v, (atl a)[i]? = some v → w.cell? ⟨w0.heap.size + 1, i, none⟩ = some v := fun i v hv => by
    have := h.b1.att i v hv
    rwa [Nat.zero_add] at this
  refine ⟨⟨K 1 _ rfl, K 2 _ rfl, K 3 _ rfl, K 36 _ ?_⟩, h.b1.free⟩
  rw [atl_pv, List.getElem?_append_right (by simp only [List.length_append, bcells_length, ho.ha, List.length_cons, List.length_nil]; omega)]
  simp only [List.length_append, bcells_length, ho.ha, List.length_cons, List.length_nil]
  rfl
theorem RcSt.sigs (h : RcSt w0 w g l p r a s) (ho : a.Ok) : w.cell? ⟨w0.heap.size + 1, 101, none⟩ = some s ∧ (∀ i, w.frozen? ⟨w0.heap.size + 1, i, none⟩ = false) := ⟨h.b1.sigs ho, h.b1.free⟩
theorem RcSt.fin (h : RcSt w0 w g l p r a s) (C : Array Value) : (setCt w w0.heap.size C).heap[w0.heap.size]? = some (.cells C 28 (0, 0)) ∧ Rdr (setCt w w0.heap.size C) g l p r ∧ w0.grownBy (setCt w w0.heap.size C) (some g) := by
  have hlt := h.lt
  have hg : w.grownBy (setCt w w0.heap.size C) (some w0.heap.size) := by
    refine ⟨rfl, rfl, rfl, ?_, fun k hk hne => setCt_other w C (fun e => hne (by rw [e]))⟩
    unfold setCt
    simp
  exact ⟨setCt_same h.b0, h.rd.apart hg h.b0 (by decide) (by omega), rcGrown_past h.gr hg (Nat.le_refl _)⟩
end
def RcPost (w : World) (g : Nat) (l : List UInt8) (p : Nat) (r : Bool) (e : Ending) (w' : World) : Prop :=
  ∃ x, e = .returned (.tuple #[x, .bool (ctIs l p r)]) ∧ CtN w.heap.size w' x (ctOf l p r) ∧ (∃ p' r', Rdr w' g l p' r' ∧ (ctIs l p r = true → p' = (rawC l p r).2.1 ∧ r' = true)) ∧ w.grownBy w' (some g)
theorem rcPost_no {w w' : World} {g p q : Nat} {l : List UInt8} {r s : Bool} (h : ctIs l p r = false) (hr : Rdr w' g l q s) (hg : w.grownBy w' (some g)) : RcPost w g l p r (.returned (.tuple #[.agg (ctc ctZ (.slice none 0 0)), .bool false])) w' := by
  refine ⟨_, by rw [h], ?_, ⟨_, _, hr, fun h2 => ?_⟩, hg⟩
  · unfold ctOf
    rw [h, if_neg (by decide)]
    exact ⟨_, rfl, ctZ_ok, OwnE.nil _ _⟩
  · rw [h] at h2
    cases h2
theorem rcPost_yes {w w' : World} {g p q : Nat} {l : List UInt8} {r : Bool} {c : CtM} {s : Value} (h : ctIs l p r = true) (e : rawC l p r = (c, q, true)) (ho : c.Ok) (hs : OwnE scl 33 111 w.heap.size w' s c.sg) (hr : Rdr w' g l q true) (hg : w.grownBy w' (some g)) : RcPost w g l p r (.returned (.tuple #[.agg (ctc c s), .bool true])) w' := by
  refine ⟨_, by rw [h], ?_, ⟨_, _, hr, fun _ => ?_⟩, hg⟩
  · unfold ctOf
    rw [h, if_pos rfl, e]
    exact ⟨_, rfl, ho, hs⟩
  · rw [e]
    exact ⟨rfl, rfl⟩
set_option maxHeartbeats 12800000 in
theorem ctRead_any (g : Nat) (l : List UInt8) (p : Nat) (r : Bool) (w : World) (hr : Rdr w g l p r) (hl : l.length ≤ 1000000) :
    Calls Tryz.prog 75 #[.pointer (some ⟨g, 0, none⟩)] w (RcPost w g l p r) := by
  have HU := hid (fun p r W (h : Rdr W g l p r) m (h1 : -9223372036854775808 ≤ m) (h2 : m ≤ 9223372036854775807) => upto_any g l p r m W h (by omega) h1 h2)
  have HH := hid (fun p r W (h : Rdr W g l p r) => rhash_any g l p r W h (by omega))
  have HWR := hid (fun p r W (h : Rdr W g l p r) => wrong_any g l p r W h)
  obtain ⟨Z, HZ⟩ : ∃ C : Array Value, Hid (ctc ctZ (.slice none 0 0) = C) := ⟨_, hid rfl⟩
  have hbz : ∀ W, buildCt W = .ok (.value (.agg Z)) W := fun W => by rw [← HZ.out]; exact buildCt_eq W
  have hal : ∀ W, allocCt W = .ok (.value (.pointer (some ⟨W.heap.size, 0, none⟩))) (W.alloc (.cells Z 28)) := fun W => by rw [← HZ.out]; exact allocCt_eq W
  have HSZ : Hid (Z.size = 102) := hid (by rw [← HZ.out]; exact ctc_size _ atZ_ok)
  have HZ1 : Hid (Z.all (·.oneCell') = true) := hid (by rw [← HZ.out]; exact ctc_one (w := w) (c := ctZ) (Els.nil w))
  have hst := RcSt.new hr
  rw [HZ.out] at hst
  have HBZ := hid hbz
  have hsz : (w.alloc (.cells Z 28)).heap.size = w.heap.size + 1 := by simp
  clear hr hl hbz
  go_enter Tryz.func75, Tryz.ntmps75
  go_upto_region 2 with (fail)
  generalize ((w.alloc (.cells Z 28)).alloc (.cells Z 28)) = w0 at *
  clear hal
  try rw [hsz]
  clear hsz
  obtain ⟨⟨k1, k2, k3, k5⟩, g1⟩ := hst.cells ⟨rfl, rfl, rfl⟩
  have HST := hid hst
  clear hst
  go_wp2_with fail
  obtain ⟨a1, p1, r1, HA1⟩ : ∃ x q s, Hid (rdUpto 3 l p r = (x, q, s)) := ⟨_, _, _, hid rfl⟩
  have hm1 : a1 ≤ 3 := by have := rdUpto_le (m := 3) (l := l) (p := p) (r := r); rw [show ((3 : Nat) : Int) = 3 from rfl, HA1.out] at this; exact this
  have C := HU.out p r _ (HST.out).rd 3 (by omega) (by omega)
  rw [HA1.out] at C
  refine C.mono ?_
  clear C
  rintro e w1 ⟨rfl, hrd, hgr⟩
  have hst : RcSt w w1 g l p1 r1 ⟨0, 0, 0, 0, z32, 0, z32, z32⟩ (.slice none 0 0) := (HST.out).grow hrd hgr
  clear hrd hgr HST k1 k2 k3 k5 g1
  obtain ⟨⟨k1, k2, k3, k5⟩, g1⟩ := hst.cells ⟨rfl, rfl, rfl⟩
  have HST := hid hst
  clear hst
  go_wp2_with fail
  obtain ⟨a2, p2, r2, HA2⟩ : ∃ x q s, Hid (rdUpto 1099511627776 l p1 r1 = (x, q, s)) := ⟨_, _, _, hid rfl⟩
  have hm2 : a2 ≤ 1099511627776 := by have := rdUpto_le (m := 1099511627776) (l := l) (p := p1) (r := r1); rw [show ((1099511627776 : Nat) : Int) = 1099511627776 from rfl, HA2.out] at this; exact this
  have C := HU.out p1 r1 _ ((HST.out.cell ⟨rfl, rfl, rfl⟩ (b := ⟨0, (a1 : Int), 0, 0, z32, 0, z32, z32⟩) (v := .int .i64 (a1 : Int)) 1 (by omega) rfl)).rd 1099511627776 (by omega) (by omega)
  rw [HA2.out] at C
  refine C.mono ?_
  clear C
  rintro e w2 ⟨rfl, hrd, hgr⟩
  have hst : RcSt w w2 g l p2 r2 ⟨0, (a1 : Int), 0, 0, z32, 0, z32, z32⟩ (.slice none 0 0) := ((HST.out.cell ⟨rfl, rfl, rfl⟩ (b := ⟨0, (a1 : Int), 0, 0, z32, 0, z32, z32⟩) (v := .int .i64 (a1 : Int)) 1 (by omega) rfl)).grow hrd hgr
  clear hrd hgr HST k1 k2 k3 k5 g1
  obtain ⟨⟨k1, k2, k3, k5⟩, g1⟩ := hst.cells ⟨rfl, rfl, rfl⟩
  have HST := hid hst
  clear hst
  go_wp2_with fail
  obtain ⟨a3, p3, r3, HA3⟩ : ∃ x q s, Hid (rdUpto 3 l p2 r2 = (x, q, s)) := ⟨_, _, _, hid rfl⟩
  have hm3 : a3 ≤ 3 := by have := rdUpto_le (m := 3) (l := l) (p := p2) (r := r2); rw [show ((3 : Nat) : Int) = 3 from rfl, HA3.out] at this; exact this
  have C := HU.out p2 r2 _ ((HST.out.cell ⟨rfl, rfl, rfl⟩ (b := ⟨0, (a1 : Int), (a2 : Int), 0, z32, 0, z32, z32⟩) (v := .int .i64 (a2 : Int)) 2 (by omega) rfl)).rd 3 (by omega) (by omega)
  rw [HA3.out] at C
  refine C.mono ?_
  clear C
  rintro e w3 ⟨rfl, hrd, hgr⟩
  have hst : RcSt w w3 g l p3 r3 ⟨0, (a1 : Int), (a2 : Int), 0, z32, 0, z32, z32⟩ (.slice none 0 0) := ((HST.out.cell ⟨rfl, rfl, rfl⟩ (b := ⟨0, (a1 : Int), (a2 : Int), 0, z32, 0, z32, z32⟩) (v := .int .i64 (a2 : Int)) 2 (by omega) rfl)).grow hrd hgr
  clear hrd hgr HST k1 k2 k3 k5 g1
  obtain ⟨⟨k1, k2, k3, k5⟩, g1⟩ := hst.cells ⟨rfl, rfl, rfl⟩
  have HST := hid hst
  clear hst
  go_wp2_with fail
  obtain ⟨h4, p4, r4, HA4⟩ : ∃ x q s, Hid (rdHash l p3 r3 = (x, q, s)) := ⟨_, _, _, hid rfl⟩
  have HL4 : Hid (h4.length = 32) := hid (by have := rdHash_32 l p3 r3; rw [HA4.out] at this; exact this)
  have C := HH.out p3 r3 _ ((HST.out.cell ⟨rfl, rfl, rfl⟩ (b := ⟨0, (a1 : Int), (a2 : Int), (a3 : Int), z32, 0, z32, z32⟩) (v := .int .i64 (a3 : Int)) 3 (by omega) rfl)).rd
  rw [HA4.out] at C
  refine C.mono ?_
  clear C
  rintro e w4 ⟨rfl, hrd, hgr⟩
  have hst : RcSt w w4 g l p4 r4 ⟨0, (a1 : Int), (a2 : Int), (a3 : Int), z32, 0, z32, z32⟩ (.slice none 0 0) := ((HST.out.cell ⟨rfl, rfl, rfl⟩ (b := ⟨0, (a1 : Int), (a2 : Int), (a3 : Int), z32, 0, z32, z32⟩) (v := .int .i64 (a3 : Int)) 3 (by omega) rfl)).grow hrd hgr
  clear hrd hgr HST k1 k2 k3 k5 g1
  have HST0 := hid hst
  clear hst
  simp only
  go_wp2_with (refine wpList_store_cha rfl _ _ rfl rfl rfl HST0.out.b1 ⟨rfl, rfl, rfl⟩ HL4.out ?_; intro v4 hg4 hA4 hs4; have HST := hid (HST0.out.att (b := ⟨0, (a1 : Int), (a2 : Int), (a3 : Int), h4, 0, z32, z32⟩) hg4 hA4); obtain ⟨⟨k1, k2, k3, k5⟩, g1⟩ := HST.out.cells ⟨HL4.out, rfl, rfl⟩; clear hg4 hA4 hs4 HST0)
  obtain ⟨a5, p5, r5, HA5⟩ : ∃ x q s, Hid (rdUpto 1099511627776 l p4 r4 = (x, q, s)) := ⟨_, _, _, hid rfl⟩
  have hm5 : a5 ≤ 1099511627776 := by have := rdUpto_le (m := 1099511627776) (l := l) (p := p4) (r := r4); rw [show ((1099511627776 : Nat) : Int) = 1099511627776 from rfl, HA5.out] at this; exact this
  have C := HU.out p4 r4 _ (HST.out).rd 1099511627776 (by omega) (by omega)
  rw [HA5.out] at C
  refine C.mono ?_
  clear C
  rintro e w5 ⟨rfl, hrd, hgr⟩
  have hst : RcSt w w5 g l p5 r5 ⟨0, (a1 : Int), (a2 : Int), (a3 : Int), h4, 0, z32, z32⟩ (.slice none 0 0) := (HST.out).grow hrd hgr
  clear hrd hgr HST k1 k2 k3 k5 g1
  obtain ⟨⟨k1, k2, k3, k5⟩, g1⟩ := hst.cells ⟨HL4.out, rfl, rfl⟩
  have HST := hid hst
  clear hst
  go_wp2_with fail
  obtain ⟨h6, p6, r6, HA6⟩ : ∃ x q s, Hid (rdHash l p5 r5 = (x, q, s)) := ⟨_, _, _, hid rfl⟩
  have HL6 : Hid (h6.length = 32) := hid (by have := rdHash_32 l p5 r5; rw [HA6.out] at this; exact this)
  have C := HH.out p5 r5 _ ((HST.out.cell ⟨HL4.out, rfl, rfl⟩ (b := ⟨0, (a1 : Int), (a2 : Int), (a3 : Int), h4, (a5 : Int), z32, z32⟩) (v := .int .i64 (a5 : Int)) 36 (by omega) (atc_pv (a := ⟨0, (a1 : Int), (a2 : Int), (a3 : Int), h4, 0, z32, z32⟩) ⟨HL4.out, rfl, rfl⟩ (a5 : Int)))).rd
  rw [HA6.out] at C
  refine C.mono ?_
  clear C
  rintro e w6 ⟨rfl, hrd, hgr⟩
  have hst : RcSt w w6 g l p6 r6 ⟨0, (a1 : Int), (a2 : Int), (a3 : Int), h4, (a5 : Int), z32, z32⟩ (.slice none 0 0) := ((HST.out.cell ⟨HL4.out, rfl, rfl⟩ (b := ⟨0, (a1 : Int), (a2 : Int), (a3 : Int), h4, (a5 : Int), z32, z32⟩) (v := .int .i64 (a5 : Int)) 36 (by omega) (atc_pv (a := ⟨0, (a1 : Int), (a2 : Int), (a3 : Int), h4, 0, z32, z32⟩) ⟨HL4.out, rfl, rfl⟩ (a5 : Int)))).grow hrd hgr
  clear hrd hgr HST k1 k2 k3 k5 g1
  have HST0 := hid hst
  clear hst
  simp only
  go_wp2_with (refine wpList_store_cpa rfl _ _ rfl rfl rfl HST0.out.b1 ⟨HL4.out, rfl, rfl⟩ HL6.out ?_; intro v6 hg6 hA6 hs6; have HST := hid (HST0.out.att (b := ⟨0, (a1 : Int), (a2 : Int), (a3 : Int), h4, (a5 : Int), h6, z32⟩) hg6 hA6); obtain ⟨⟨k1, k2, k3, k5⟩, g1⟩ := HST.out.cells ⟨HL4.out, HL6.out, rfl⟩; clear hg6 hA6 hs6 HST0)
  obtain ⟨a, HAA⟩ : ∃ a : AtM, Hid ((⟨0, (a1 : Int), (a2 : Int), (a3 : Int), h4, (a5 : Int), h6, z32⟩ : AtM) = a) := ⟨_, hid rfl⟩
  have HOK : Hid a.Ok := hid (by rw [← HAA.out]; exact ⟨HL4.out, HL6.out, rfl⟩)
  have hst := HST.out
  rw [HAA.out] at hst
  have HSTA := hid hst
  clear hst HST k1 k2 k3 k5 g1
  obtain ⟨L, p7, r7, HA7⟩ : ∃ x q s, Hid (rdUpto 21 l p6 r6 = (x, q, s)) := ⟨_, _, _, hid rfl⟩
  have hm7 : L ≤ 21 := by have := rdUpto_le (m := 21) (l := l) (p := p6) (r := r6); rw [show ((21 : Nat) : Int) = 21 from rfl, HA7.out] at this; exact this
  have C := HU.out p6 r6 _ HSTA.out.rd 21 (by omega) (by omega)
  rw [HA7.out] at C
  refine C.mono ?_
  clear C
  rintro e w7 ⟨rfl, hrd, hgr⟩
  have HST7 : Hid (RcSt w w7 g l p7 r7 a (.slice none 0 0)) := hid (HSTA.out.grow hrd hgr)
  have HRAW : Hid (∀ S q s, rdSigs l p7 r7 L = (S, q, s) → rawC l p r = (⟨a, S⟩, q, s)) := hid (fun S q s h => by
    unfold rawC
    simp only [HA1.out, HA2.out, HA3.out, HA4.out, HA5.out, HA6.out, HA7.out, h]
    rw [← HAA.out])
  have HM7 := hid hm7
  clear hrd hgr HSTA HA1 HA2 HA3 HA4 HA5 HA6 HAA HL4 HL6 hm1 hm2 hm3 hm5
  simp only
  go_wp2_with fail
  go_loopw [32] (fun si wr => ∃ (k : Nat) (s : Value), k ≤ L ∧ si = .int .i64 k ∧ RcSt w wr g l (rdSigs l p7 r7 k).2.1 (rdSigs l p7 r7 k).2.2 a s ∧ OwnE scl 33 111 (w.heap.size + 2) wr s (rdSigs l p7 r7 k).1) (fun si _ => L - (intOf si).toNat)
  case atStart => exact ⟨0, _, Nat.zero_le _, rfl, HST7.out, OwnE.nil _ _⟩
  case round =>
    clear HST7
    obtain ⟨k, s, hk, rfl, hst, how⟩ := hrel
    have HLN : Hid ((rdSigs l p7 r7 k).1.length = k) := hid (rdSigs_len l p7 r7 k)
    have HSO : Hid (∀ x ∈ (rdSigs l p7 r7 k).1, x.Ok) := hid (rdSigs_ok l p7 r7 k)
    obtain ⟨SL, pk, rk, HRS⟩ : ∃ x q s, Hid (rdSigs l p7 r7 k = (x, q, s)) := ⟨_, _, _, hid rfl⟩
    rw [HRS.out] at hst how HLN HSO
    simp only at hst how HLN HSO
    obtain ⟨SA, SC, rfl⟩ := how.shape
    obtain ⟨sn, HSN⟩ : ∃ x : Nat, Hid (SL.length = x) := ⟨_, hid rfl⟩
    rw [HSN.out] at hst how
    have HST := hid hst
    have HOW := hid how
    clear hst how
    by_cases hlt : k < L
    · have hI : (k : Int) < (L : Int) := by omega
      have HLT := hid hlt
      clear hlt hk
      obtain ⟨x8, p8, r8, HA8⟩ : ∃ x q s, Hid (rdUpto 21 l pk rk = (x, q, s)) := ⟨_, _, _, hid rfl⟩
      obtain ⟨h9, p9, r9, HA9⟩ : ∃ x q s, Hid (rdHash l p8 r8 = (x, q, s)) := ⟨_, _, _, hid rfl⟩
      have HL9 : Hid (h9.length = 32) := hid (by have := rdHash_32 l p8 r8; rw [HA9.out] at this; exact this)
      have HNX : Hid (rdSigs l p7 r7 (k + 1) = (SL ++ [⟨(x8 : Int), h9⟩], p9, r9)) := hid (by unfold rdSigs; simp only [HRS.out, HA8.out, HA9.out])
      go_wp2_with fail
      have C := HU.out pk rk _ HST.out.rd 21 (by omega) (by omega)
      rw [HA8.out] at C
      refine C.mono ?_
      clear C
      rintro e w8 ⟨rfl, hrd, hgr⟩
      have hst8 : RcSt w w8 g l p8 r8 a (.slice SA sn SC) := HST.out.grow hrd hgr
      have how8 := HOW.out.far hgr (by have := hst8.lt; omega)
      simp only
      go_upto_region 11 with (fail)
      have hbd : Below w8.heap.size w8 w8.drew := (Below.refl _ _).drew
      have HST8 := hid (hst8.below hbd)
      have HOW8 := hid (how8.below hbd)
      clear hrd hgr hst8 how8
      obtain ⟨TC, HTC⟩ : ∃ C : Array Value, Hid (hcells h9 = C) := ⟨_, hid rfl⟩
      obtain ⟨G, HG⟩ : ∃ C : Array Value, Hid (sgc ⟨(x8 : Int), h9⟩ = C) := ⟨_, hid rfl⟩
      have hbs : ∀ W, buildSg2 (.int .i64 (x8 : Int)) (.agg TC) W = .ok (.value (.agg G)) W := fun W => by rw [← HG.out, ← HTC.out]; exact buildSg2_eq (x8 : Int) h9 HL9.out W
      have hsl : ∀ W, sliceSg (.agg G) W = .ok (.value (.slice (some ⟨W.heap.size, 0, none⟩) 1 1)) (W.alloc (.cells G 111)) := fun W => by rw [← HG.out]; exact sliceSg_eq ⟨(x8 : Int), h9⟩ HL9.out W
      have HSGK : Hid (∀ u ∈ [(⟨(x8 : Int), h9⟩ : SgM)], u.Ok) := hid (fun u hu => by obtain rfl := List.mem_singleton.1 hu; exact HL9.out)
      have HCC : Hid (∀ W, Rdr W g l p8 r8 → Calls Tryz.prog 79 #[.pointer (some ⟨g, 0, none⟩)] W fun e w' => e = .returned (.agg TC) ∧ Rdr w' g l p9 r9 ∧ W.grownBy w' (some g)) := hid (fun W h => by
        have C := HH.out p8 r8 W h
        rw [HA9.out] at C
        rw [← HTC.out]
        exact C)
      obtain ⟨c8, f8⟩ := HST8.out.sigs HOK.out
      refine wp_region_held_drew (S := fun W => W.frozen? ⟨w.heap.size + 1, 101, none⟩ = false) (by kernel_rfl) (f8 _) (fun hHeld => ?_)
      refine' tk (i := 0) (v := _) rfl ?_ ?_
      rotate_left
      · (intro W hW; (try dsimp only at hW); go_simp; first | done | with_reducible rfl)
      try simp only [lay]
      refine' tk (i := 2) (v := _) rfl ?_ ?_
      rotate_left
      · (intro W hW; (try dsimp only at hW); go_simp; first | done | with_reducible rfl)
      try simp only [lay]
      refine' tk (i := 3) (v := _) rfl ?_ ?_
      rotate_left
      · (intro W hW; (try dsimp only at hW); go_simp; first | done | with_reducible rfl)
      try simp only [lay]
      refine pair_on (i := 1) (j := 4) rfl rfl (by kernel_rfl) (by rfl) (by rfl) (fun K hK => ?_) (fun K hK => ?_)
      · go_simp
        refine hK.out _ _ (f8 _) (fun hHeld => ?_)
        clear hK K
        try simp only [lay]
        refine call_on (i := 4) rfl (by kernel_rfl) (by rfl) (fun K hK => ?_)
        go_simp
        refine (HCC.out w8.drew HST8.out.rd).mono ?_
        rintro e w9 ⟨rfl, hrd9, hgr9⟩
        have hst9 := HST8.out.grow hrd9 hgr9
        have how9 := HOW8.out.far hgr9 (by have := hst9.lt; omega)
        refine hK.out _ _ (((hst9.sigs HOK.out).2 _)) (fun hHeld => ?_)
        clear hK K
        try simp only [lay]
        refine' tk (i := 5) (v := _) rfl ?_ ?_
        rotate_left
        · (intro W hW; (try dsimp only at hW); go_simp; first | done | with_reducible rfl)
        try simp only [lay]
        have hbA : Below w9.heap.size w9 (w9.alloc (.cells G 111)) := (Below.refl _ _).alloc (Nat.le_refl _) _
        have HSTA := hid (hst9.below hbA)
        have HOWA := hid (how9.below hbA)
        have HELA : Hid (Els scl 33 (w9.alloc (.cells G 111)) (.slice (some ⟨w9.heap.size, 0, none⟩) 1 1) [(⟨(x8 : Int), h9⟩ : SgM)]) := hid (els_one w9 (⟨(x8 : Int), h9⟩ : SgM) G 111 HG.out)
        have HSZA : Hid (w.heap.size + 2 ≤ (w9.alloc (.cells G 111)).heap.size) := hid (by have := HSTA.out.b1.lt; omega)
        refine call_on (i := 6) rfl (by kernel_rfl) (by rfl) (fun K hK => ?_)
        go_simp
        refine hK.out _ _ (((HSTA.out.sigs HOK.out).2 _)) (fun hHeld => ?_)
        clear hK K
        try simp only [lay]
        refine call_on (i := 7) rfl (by kernel_rfl) (by rfl) (fun K hK => ?_)
        refine eltSg.wp_append (.tmp 37) (.tmp 42) rfl rfl rfl HSGK.out HOWA.out HELA.out (by have h1 := HLN.out; have h2 := HLT.out; have h3 := HM7.out; show SL.length + 1 ≤ 1000000; omega) HSZA.out ?_
        intro v10 w10 ho10 hg10 hv10
        have hs10 := HSTA.out.app HOWA.out hg10
        obtain ⟨A9, n9, c9', rfl⟩ : ∃ A n c, v10 = .slice A n c := (by obtain ⟨A, c, e⟩ := ho10.shape; exact ⟨_, _, _, e⟩)
        refine hK.out _ _ ((hs10.sigs HOK.out).2 _) (fun hHeld => ?_)
        clear hK K
        try simp only [lay]
        refine' tk (i := 8) (v := _) rfl ?_ ?_
        rotate_left
        · (intro W hW; (try dsimp only at hW); go_simp; first | done | with_reducible rfl)
        try simp only [lay]
        obtain ⟨c10, f10⟩ := hs10.sigs HOK.out
        have hs11 := hs10.sig HOK.out (.slice A9 n9 c9')
        have ho11 := ho10.set (g := w.heap.size + 1) (by omega) 101 (.slice A9 n9 c9')
        refine call_on (i := 9) rfl (by kernel_rfl) (by rfl) (fun K hK => ?_)
        go_simp
        refine hK.out _ _ ((hs11.sigs HOK.out).2 _) (fun hHeld => ?_)
        clear hK K
        try simp only [lay]
        refine wpAnyH_done (by kernel_rfl) ?_ _
        have HS11 := hid hs11
        have HO11 := hid ho11
        clear hHeld hs10 c10 f10 hs11 ho11 hg10 hv10 ho10 hst9 how9 hrd9 hgr9 hbA hbd hbs hsl c8 f8
        go_wp2_with fail
        go_roundw
        case rel =>
          refine ⟨k + 1, .slice A9 n9 c9', by have := HLT.out; omega, by go_num, ?_⟩
          rw [HNX.out]
          exact ⟨HS11.out, HO11.out⟩
        case measure => have := HLT.out; simp [intOf]; omega
      · go_simp
        refine (HCC.out w8.drew HST8.out.rd).mono ?_
        rintro e w9 ⟨rfl, hrd9, hgr9⟩
        have hst9 := HST8.out.grow hrd9 hgr9
        have how9 := HOW8.out.far hgr9 (by have := hst9.lt; omega)
        refine hK.out _ _ (((hst9.sigs HOK.out).2 _)) (fun hHeld => ?_)
        clear hK K
        try simp only [lay]
        refine' tk (i := 5) (v := _) rfl ?_ ?_
        rotate_left
        · (intro W hW; (try dsimp only at hW); go_simp; first | done | with_reducible rfl)
        try simp only [lay]
        have hbA : Below w9.heap.size w9 (w9.alloc (.cells G 111)) := (Below.refl _ _).alloc (Nat.le_refl _) _
        have HSTA := hid (hst9.below hbA)
        have HOWA := hid (how9.below hbA)
        have HELA : Hid (Els scl 33 (w9.alloc (.cells G 111)) (.slice (some ⟨w9.heap.size, 0, none⟩) 1 1) [(⟨(x8 : Int), h9⟩ : SgM)]) := hid (els_one w9 (⟨(x8 : Int), h9⟩ : SgM) G 111 HG.out)
        have HSZA : Hid (w.heap.size + 2 ≤ (w9.alloc (.cells G 111)).heap.size) := hid (by have := HSTA.out.b1.lt; omega)
        obtain ⟨c9, f9⟩ := hst9.sigs HOK.out
        obtain ⟨cA, fA⟩ := HSTA.out.sigs HOK.out
        refine pair_on (i := 1) (j := 6) rfl rfl (by kernel_rfl) (by rfl) (by rfl) (fun K hK => ?_) (fun K hK => ?_)
        · go_simp
          refine hK.out _ _ (f9 _) (fun hHeld => ?_)
          clear hK K
          try simp only [lay]
          refine call_on (i := 6) rfl (by kernel_rfl) (by rfl) (fun K hK => ?_)
          go_simp
          refine hK.out _ _ (fA _) (fun hHeld => ?_)
          clear hK K
          try simp only [lay]
          clear c9 f9 cA fA
          refine call_on (i := 7) rfl (by kernel_rfl) (by rfl) (fun K hK => ?_)
          refine eltSg.wp_append (.tmp 37) (.tmp 42) rfl rfl rfl HSGK.out HOWA.out HELA.out (by have h1 := HLN.out; have h2 := HLT.out; have h3 := HM7.out; show SL.length + 1 ≤ 1000000; omega) HSZA.out ?_
          intro v10 w10 ho10 hg10 hv10
          have hs10 := HSTA.out.app HOWA.out hg10
          obtain ⟨A9, n9, c9', rfl⟩ : ∃ A n c, v10 = .slice A n c := (by obtain ⟨A, c, e⟩ := ho10.shape; exact ⟨_, _, _, e⟩)
          refine hK.out _ _ ((hs10.sigs HOK.out).2 _) (fun hHeld => ?_)
          clear hK K
          try simp only [lay]
          refine' tk (i := 8) (v := _) rfl ?_ ?_
          rotate_left
          · (intro W hW; (try dsimp only at hW); go_simp; first | done | with_reducible rfl)
          try simp only [lay]
          obtain ⟨c10, f10⟩ := hs10.sigs HOK.out
          have hs11 := hs10.sig HOK.out (.slice A9 n9 c9')
          have ho11 := ho10.set (g := w.heap.size + 1) (by omega) 101 (.slice A9 n9 c9')
          refine call_on (i := 9) rfl (by kernel_rfl) (by rfl) (fun K hK => ?_)
          go_simp
          refine hK.out _ _ ((hs11.sigs HOK.out).2 _) (fun hHeld => ?_)
          clear hK K
          try simp only [lay]
          refine wpAnyH_done (by kernel_rfl) ?_ _
          have HS11 := hid hs11
          have HO11 := hid ho11
          clear hHeld hs10 c10 f10 hs11 ho11 hg10 hv10 ho10 hst9 how9 hrd9 hgr9 hbA hbd hbs hsl c8 f8
          go_wp2_with fail
          go_roundw
          case rel =>
            refine ⟨k + 1, .slice A9 n9 c9', by have := HLT.out; omega, by go_num, ?_⟩
            rw [HNX.out]
            exact ⟨HS11.out, HO11.out⟩
          case measure => have := HLT.out; simp [intOf]; omega
        · go_simp
          refine hK.out _ _ (fA _) (fun hHeld => ?_)
          clear hK K
          try simp only [lay]
          refine call_on (i := 1) rfl (by kernel_rfl) (by rfl) (fun K hK => ?_)
          go_simp
          refine hK.out _ _ (fA _) (fun hHeld => ?_)
          clear hK K
          try simp only [lay]
          clear c9 f9 cA fA
          refine call_on (i := 7) rfl (by kernel_rfl) (by rfl) (fun K hK => ?_)
          refine eltSg.wp_append (.tmp 37) (.tmp 42) rfl rfl rfl HSGK.out HOWA.out HELA.out (by have h1 := HLN.out; have h2 := HLT.out; have h3 := HM7.out; show SL.length + 1 ≤ 1000000; omega) HSZA.out ?_
          intro v10 w10 ho10 hg10 hv10
          have hs10 := HSTA.out.app HOWA.out hg10
          obtain ⟨A9, n9, c9', rfl⟩ : ∃ A n c, v10 = .slice A n c := (by obtain ⟨A, c, e⟩ := ho10.shape; exact ⟨_, _, _, e⟩)
          refine hK.out _ _ ((hs10.sigs HOK.out).2 _) (fun hHeld => ?_)
          clear hK K
          try simp only [lay]
          refine' tk (i := 8) (v := _) rfl ?_ ?_
          rotate_left
          · (intro W hW; (try dsimp only at hW); go_simp; first | done | with_reducible rfl)
          try simp only [lay]
          obtain ⟨c10, f10⟩ := hs10.sigs HOK.out
          have hs11 := hs10.sig HOK.out (.slice A9 n9 c9')
          have ho11 := ho10.set (g := w.heap.size + 1) (by omega) 101 (.slice A9 n9 c9')
          refine call_on (i := 9) rfl (by kernel_rfl) (by rfl) (fun K hK => ?_)
          go_simp
          refine hK.out _ _ ((hs11.sigs HOK.out).2 _) (fun hHeld => ?_)
          clear hK K
          try simp only [lay]
          refine wpAnyH_done (by kernel_rfl) ?_ _
          have HS11 := hid hs11
          have HO11 := hid ho11
          clear hHeld hs10 c10 f10 hs11 ho11 hg10 hv10 ho10 hst9 how9 hrd9 hgr9 hbA hbd hbs hsl c8 f8
          go_wp2_with fail
          go_roundw
          case rel =>
            refine ⟨k + 1, .slice A9 n9 c9', by have := HLT.out; omega, by go_num, ?_⟩
            rw [HNX.out]
            exact ⟨HS11.out, HO11.out⟩
          case measure => have := HLT.out; simp [intOf]; omega
    · obtain rfl : k = L := by omega
      have HRAW2 := hid (HRAW.out SL pk rk HRS.out)
      have HLE := hid (show SL.length ≤ 1000 by have := HLN.out; have := HM7.out; omega)
      clear hlt hk HRAW
      go_wp2_with fail
      refine (HWR.out pk rk wr HST.out.rd).mono ?_
      rintro e wy ⟨rfl, rfl⟩
      have HOC : Hid (CtM.Ok ⟨a, SL⟩) := hid ⟨HOK.out, HSO.out⟩
      obtain ⟨CC, HCC⟩ : ∃ C : Array Value, Hid (ctc ⟨a, SL⟩ (.slice SA sn SC) = C) := ⟨_, hid rfl⟩
      obtain ⟨m, HM⟩ : ∃ m : Bool, Hid (mayC ⟨a, SL⟩ = m) := ⟨_, hid rfl⟩
      have HI : Hid (ctIs l p r = (rk && m)) := hid (by unfold ctIs; rw [HRAW2.out, HM.out])
      have HEL := hid (HOW.out.els eltSg HSO.out)
      have HCS : Hid (CC.size = 102 ∧ CC.all (·.oneCell') = true) := hid (by rw [← HCC.out]; exact ⟨ctc_size (c := ⟨a, SL⟩) _ HOK.out, ctc_one (c := ⟨a, SL⟩) HEL.out⟩)
      have HCK : Hid (∀ W, Below wr.heap.size wr W → Calls Tryz.prog 90 #[.agg CC] W fun e w' => e = .returned (.bool m) ∧ Below W.heap.size W w') := hid (fun W h => by
        have := ctFits_any (.agg CC) ⟨a, SL⟩ W ⟨_, by rw [← HCC.out], HOC.out, HEL.out.below h⟩ HLE.out
        rw [HM.out] at this
        exact this)
      have HLD : Hid (∀ W, RcSt w W g l pk rk a (.slice SA sn SC) → loadCt (.pointer (some ⟨w.heap.size + 1, 0, none⟩)) W = .ok (.value (.agg CC)) W ∧ storeCt (.pointer (some ⟨w.heap.size, 0, none⟩)) (.agg CC) W = .ok .skip (setCt W w.heap.size CC) ∧ storeCt (.pointer (some ⟨w.heap.size, 0, none⟩)) (.agg Z) W = .ok .skip (setCt W w.heap.size Z)) := hid (fun W h => by
        have h1 := h.b1
        unfold BoxC at h1
        have h1' : W.heap[w.heap.size + 1]? = some (.cells CC 28 (0, 0)) := by rw [← HCC.out]; exact h1
        have h2 := h.b0
        unfold BoxC at h2
        rw [HZ.out] at h2
        exact ⟨loadCt_row h1' HCS.out.1, storeCt_eq h2 HSZ.out HCS.out.1 HCS.out.2, storeCt_eq h2 HSZ.out HSZ.out HZ1.out⟩)
      have hbz := HBZ.out
      obtain ⟨l9, _, s9⟩ := HLD.out wr HST.out
      cases rk with
      | false =>
        have HIS : Hid (ctIs l p r = false) := hid (by rw [HI.out]; rfl)
        have HF := hid (HST.out.fin Z)
        clear l9
        go_wp2_with fail
        refine bodyPost_ret (results_cb rfl _ _ _ _ _ _ rfl rfl HF.out.1 HSZ.out) rfl ?_
        rw [← HZ.out] at HF ⊢
        exact rcPost_no HIS.out HF.out.2.1 HF.out.2.2
      | true =>
        clear s9
        go_wp2_with fail
        refine (HCK.out wr (Below.refl _ _)).mono ?_
        rintro e wz ⟨rfl, hb9⟩
        have HSTZ := hid (HST.out.below hb9)
        have HOWZ := hid (HOW.out.below hb9)
        obtain ⟨l10, t10, s10⟩ := HLD.out wz HSTZ.out
        clear l9 hb9
        cases m with
        | false =>
          have HIS : Hid (ctIs l p r = false) := hid (by rw [HI.out]; rfl)
          have HF := hid (HSTZ.out.fin Z)
          clear l10 t10
          go_wp2_with fail
          refine bodyPost_ret (results_cb rfl _ _ _ _ _ _ rfl rfl HF.out.1 HSZ.out) rfl ?_
          rw [← HZ.out] at HF ⊢
          exact rcPost_no HIS.out HF.out.2.1 HF.out.2.2
        | true =>
          have HIS : Hid (ctIs l p r = true) := hid (by rw [HI.out]; rfl)
          have HF := hid (HSTZ.out.fin CC)
          have HOF := hid (HOWZ.out.row (g := w.heap.size) (C := CC) (by omega))
          clear s10 hbz
          go_wp2_with fail
          refine bodyPost_ret (results_cb rfl _ _ _ _ _ _ rfl rfl HF.out.1 HCS.out.1) rfl ?_
          rw [← HCC.out] at HF HOF ⊢
          exact rcPost_yes (c := ⟨a, SL⟩) HIS.out HRAW2.out HOC.out (HOF.out.more (by omega)) HF.out.2.1 HF.out.2.2
end Go.Proofs.YtjemfmbmlmogcaaGreat
