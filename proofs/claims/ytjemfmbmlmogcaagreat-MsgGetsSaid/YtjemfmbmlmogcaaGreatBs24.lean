/-
  AcCodeRead: what each of them says stands at its head.
-/
import Derived.BigQuiet
import Derived.Deep.DeepCutAuto
import Derived.Deep.QuietTactic
import Derived.LoopTactic
import Derived.Outline
import Derived.Test.YtjemfmbmlmogcaaGreatBs23
import Derived.Test.YtjemfmbmlmogcaaGreatBs22
import Derived.Test.YtjemfmbmlmogcaaGreatBs3
import Derived.Test.YtjemfmbmlmogcaaGreatBs1
namespace Go.Proofs.YtjemfmbmlmogcaaGreat
set_option maxRecDepth 20000
open Go.RowKit
attribute [local go_sem ↓] exec_load_ax exec_alloc_ax exec_store_ax exec_build_ax
theorem rxGrown_set {w0 w : World} {row : Option Nat} (h : w0.grownBy w row) (a : Addr) (u : Value) (ha : w0.heap.size ≤ a.block) : w0.grownBy (w.setCell a u) row :=
  ⟨h.os, h.tape, h.output, by simpa using h.size, fun k hk hr => (Below.heap_setCell w a u k (fun e => by omega)).trans (h.block k hk hr)⟩
theorem rxGrown_past {w0 w w' : World} {row : Option Nat} {k : Nat} (h : w0.grownBy w row) (hg : w.grownBy w' (some k)) (hk : w0.heap.size ≤ k) : w0.grownBy w' row :=
  ⟨hg.os.trans h.os, hg.tape.trans h.tape, hg.output.trans h.output, Nat.le_trans h.size hg.size, fun j hj hne => (hg.block j (Nat.lt_of_lt_of_le hj h.size) (fun e => by injection e with e; omega)).trans (h.block j hj hne)⟩
theorem rxRdr_grow {w w' : World} {g B : Nat} {l : List UInt8} {p : Nat} {r : Bool} {s : Value} {ts : List Int} (h : Rdr w g l p r) (ho : OwnE icl 1 3 B w s ts) (hgB : g < B) (hg : w.grownBy w' s.ownBlock) : Rdr w' g l p r := by
  rcases ho.2 with ⟨rfl, _⟩ | ⟨k, cap, cur, rfl, hk, hh, _⟩
  · exact h.below ((Below.refl _ _).grown hg (Nat.le_refl _) (fun k hk => by cases hk))
  · exact h.apart (k := k) hg hh (by decide) (by omega)
structure RxSt (w0 w : World) (g : Nat) (l : List UInt8) (p : Nat) (r : Bool) (a : AcM) (s : Value) : Prop where
  lt : g < w0.heap.size
  gr : w0.grownBy w (some g)
  rd : Rdr w g l p r
  b0 : BoxX w w0.heap.size acZ (.slice none 0 0)
  b1 : BoxX w (w0.heap.size + 1) a s
section
variable {w0 w w' : World} {g : Nat} {l : List UInt8} {p : Nat} {r : Bool} {a : AcM} {s : Value}
theorem RxSt.new (h : Rdr w0 g l p r) : RxSt w0 ((w0.alloc (.cells (axc acZ (.slice none 0 0)) 31)).alloc (.cells (axc acZ (.slice none 0 0)) 31)) g l p r acZ (.slice none 0 0) := by
  have hb : Below w0.heap.size w0 ((w0.alloc (.cells (axc acZ (.slice none 0 0)) 31)).alloc (.cells (axc acZ (.slice none 0 0)) 31)) := ((Below.refl _ _).alloc (Nat.le_refl _) _).alloc (by simp) _
  exact ⟨h.lt, grown_of_below hb _, h.below hb, heap1 w0 _ _, heap_alloc2_new w0 _ _⟩
theorem RxSt.grow (h : RxSt w0 w g l p r a s) {p' : Nat} {r' : Bool} (hr : Rdr w' g l p' r') (hg : w.grownBy w' (some g)) : RxSt w0 w' g l p' r' a s := by
  have h0 := h.b0.lt
  have h1 := h.b1.lt
  have hlt := h.lt
  exact ⟨hlt, h.gr.trans hg, hr, (hg.block _ h0 (fun e => by injection e with e; omega)).trans h.b0, (hg.block _ h1 (fun e => by injection e with e; omega)).trans h.b1⟩
theorem RxSt.below (h : RxSt w0 w g l p r a s) (hb : Below w.heap.size w w') : RxSt w0 w' g l p r a s := h.grow (h.rd.below hb) (grown_of_below hb _)
theorem RxSt.cell (h : RxSt w0 w g l p r a s) {b : AcM} {v t : Value} (i : Nat) (e : (axc a s).setIfInBounds i v = axc b t) : RxSt w0 (w.setCell ⟨w0.heap.size + 1, i, none⟩ v) g l p r b t := by
  have hlt := h.lt
  refine ⟨hlt, rxGrown_set h.gr _ _ (Nat.le_succ _), h.rd.apart (grown_set _ _ _ _) h.b1 (by decide) (by omega), blk_other h.b0 _ (by omega), ?_⟩
  have := set_blk h.b1 i v
  rw [e] at this
  exact this
theorem RxSt.att (h : RxSt w0 w g l p r a s) {b : AcM} (hg : w.grownBy w' (some (w0.heap.size + 1))) (hb : BoxX w' (w0.heap.size + 1) b s) : RxSt w0 w' g l p r b s := by
  have hlt := h.lt
  exact ⟨hlt, rxGrown_past h.gr hg (Nat.le_succ _), h.rd.apart hg h.b1 (by decide) (by omega), (hg.block _ h.b0.lt (fun e => by injection e with e; omega)).trans h.b0, hb⟩
theorem RxSt.app (h : RxSt w0 w g l p r a s) {ts : List Int} (ho : OwnE icl 1 3 (w0.heap.size + 2) w s ts) (hg : w.grownBy w' s.ownBlock) : RxSt w0 w' g l p r a s := by
  have hlt := h.lt
  have h0 := h.b0.lt
  have h1 := h.b1.lt
  have hne : ∀ k, k ≤ w0.heap.size + 1 → some k ≠ s.ownBlock := fun k hk e => by
    have := (World.ownsRow.lt ho k e.symm).1
    omega
  refine ⟨hlt, ?_, rxRdr_grow h.rd ho (by omega) hg, (hg.block _ h0 (hne _ (by omega))).trans h.b0, (hg.block _ h1 (hne _ (Nat.le_refl _))).trans h.b1⟩
  have hgr := h.gr
  exact ⟨hg.os.trans hgr.os, hg.tape.trans hgr.tape, hg.output.trans hgr.output, Nat.le_trans hgr.size hg.size, fun k hk hne' => (hg.block k (Nat.lt_of_lt_of_le hk hgr.size) (hne k (by omega))).trans (hgr.block k hk hne')⟩
theorem RxSt.cells (h : RxSt w0 w g l p r a s) (ho : a.Ok) :
    (w.cell? ⟨w0.heap.size + 1, 0, none⟩ = some (.int .i64 a.bo) ∧ w.cell? ⟨w0.heap.size + 1, 1, none⟩ = some (.int .i64 a.vi) ∧ w.cell? ⟨w0.heap.size + 1, 2, none⟩ = some (.int .i64 a.pv) ∧ w.cell? ⟨w0.heap.size + 1, 35, none⟩ = some s) ∧
    (∀ i, w.frozen? ⟨w0.heap.size + 1, i, none⟩ = false) := ⟨⟨h.b1.ints.1, h.b1.ints.2.1, h.b1.ints.2.2, h.b1.fr ho⟩, h.b1.free⟩
theorem RxSt.frs (h : RxSt w0 w g l p r a s) (ho : a.Ok) : w.cell? ⟨w0.heap.size + 1, 35, none⟩ = some s ∧ (∀ i, w.frozen? ⟨w0.heap.size + 1, i, none⟩ = false) := ⟨h.b1.fr ho, h.b1.free⟩
theorem RxSt.fin (h : RxSt w0 w g l p r a s) (C : Array Value) : (setAx w w0.heap.size C).heap[w0.heap.size]? = some (.cells C 31 (0, 0)) ∧ Rdr (setAx w w0.heap.size C) g l p r ∧ w0.grownBy (setAx w w0.heap.size C) (some g) := by
  have hlt := h.lt
  have hg : w.grownBy (setAx w w0.heap.size C) (some w0.heap.size) := by
    refine ⟨rfl, rfl, rfl, ?_, fun k hk hne => setAx_other w C (fun e => hne (by rw [e]))⟩
    unfold setAx
    simp
  exact ⟨setAx_same h.b0, h.rd.apart hg h.b0 (by decide) (by omega), rxGrown_past h.gr hg (Nat.le_refl _)⟩
end
theorem RxSt.refr {w0 w : World} {g : Nat} {l : List UInt8} {p : Nat} {r : Bool} {a : AcM} {s : Value} (h : RxSt w0 w g l p r a s) (f : List Int) : RxSt w0 w g l p r { a with fr := f } s := ⟨h.lt, h.gr, h.rd, h.b0, h.b1⟩
def RxPost (w : World) (g : Nat) (l : List UInt8) (p : Nat) (r : Bool) (e : Ending) (w' : World) : Prop :=
  ∃ x, e = .returned (.tuple #[x, .bool (acIs l p r)]) ∧ AcN w.heap.size w' x (acOf l p r) ∧ (∃ p' r', Rdr w' g l p' r' ∧ (acIs l p r = true → p' = (rawX l p r).2.1 ∧ r' = true)) ∧ w.grownBy w' (some g)
theorem rxPost_no {w w' : World} {g p q : Nat} {l : List UInt8} {r s : Bool} (h : acIs l p r = false) (hr : Rdr w' g l q s) (hg : w.grownBy w' (some g)) : RxPost w g l p r (.returned (.tuple #[.agg (axc acZ (.slice none 0 0)), .bool false])) w' := by
  refine ⟨_, by rw [h], ?_, ⟨_, _, hr, fun h2 => ?_⟩, hg⟩
  · unfold acOf
    rw [h, if_neg (by decide)]
    exact ⟨_, rfl, acZ_ok, OwnE.nil _ _⟩
  · rw [h] at h2
    cases h2
theorem rxPost_yes {w w' : World} {g p q : Nat} {l : List UInt8} {r : Bool} {c : AcM} {s : Value} (h : acIs l p r = true) (e : rawX l p r = (c, q, true)) (ho : c.Ok) (hs : OwnE icl 1 3 w.heap.size w' s c.fr) (hr : Rdr w' g l q true) (hg : w.grownBy w' (some g)) : RxPost w g l p r (.returned (.tuple #[.agg (axc c s), .bool true])) w' := by
  refine ⟨_, by rw [h], ?_, ⟨_, _, hr, fun _ => ?_⟩, hg⟩
  · unfold acOf
    rw [h, if_pos rfl, e]
    exact ⟨_, rfl, ho, hs⟩
  · rw [e]
    exact ⟨rfl, rfl⟩
set_option maxHeartbeats 12800000 in
theorem acRead_any (g : Nat) (l : List UInt8) (p : Nat) (r : Bool) (w : World) (hr : Rdr w g l p r) (hl : l.length ≤ 1000000) :
    Calls Tryz.prog 78 #[.pointer (some ⟨g, 0, none⟩)] w (RxPost w g l p r) := by
  have HU := hid (fun p r W (h : Rdr W g l p r) m (h1 : -9223372036854775808 ≤ m) (h2 : m ≤ 9223372036854775807) => upto_any g l p r m W h (by omega) h1 h2)
  have HH := hid (fun p r W (h : Rdr W g l p r) => rhash_any g l p r W h (by omega))
  have HWR := hid (fun p r W (h : Rdr W g l p r) => wrong_any g l p r W h)
  obtain ⟨Z, HZ⟩ : ∃ C : Array Value, Hid (axc acZ (.slice none 0 0) = C) := ⟨_, hid rfl⟩
  have hbz : ∀ W, buildAx W = .ok (.value (.agg Z)) W := fun W => by rw [← HZ.out]; exact buildAx_eq W
  have hal : ∀ W, allocAx W = .ok (.value (.pointer (some ⟨W.heap.size, 0, none⟩))) (W.alloc (.cells Z 31)) := fun W => by rw [← HZ.out]; exact allocAx_eq W
  have HSZ : Hid (Z.size = 68) := hid (by rw [← HZ.out]; exact axc_size _ acZ_ok)
  have HZ1 : Hid (Z.all (·.oneCell') = true) := hid (by rw [← HZ.out]; exact axc_one (w := w) (a := acZ) (Els.nil w))
  have hst := RxSt.new hr
  rw [HZ.out] at hst
  have HBZ := hid hbz
  have hsz : (w.alloc (.cells Z 31)).heap.size = w.heap.size + 1 := by simp
  clear hr hl hbz
  go_enter Tryz.func78, Tryz.ntmps78
  go_upto_region 2 with (fail)
  generalize ((w.alloc (.cells Z 31)).alloc (.cells Z 31)) = w0 at *
  clear hal
  try rw [hsz]
  clear hsz
  obtain ⟨⟨k1, k2, k3, k5⟩, g1⟩ := hst.cells acZ_ok
  have HST := hid hst
  clear hst
  go_wp2_with fail
  obtain ⟨a1, p1, r1, HA1⟩ : ∃ x q s, Hid (rdUpto 21 l p r = (x, q, s)) := ⟨_, _, _, hid rfl⟩
  have hm1 : a1 ≤ 21 := by have := rdUpto_le (m := 21) (l := l) (p := p) (r := r); rw [show ((21 : Nat) : Int) = 21 from rfl, HA1.out] at this; exact this
  have C := HU.out p r _ (HST.out).rd 21 (by omega) (by omega)
  rw [HA1.out] at C
  refine C.mono ?_
  clear C
  rintro e w1 ⟨rfl, hrd, hgr⟩
  have hst : RxSt w w1 g l p1 r1 ⟨0, 0, 0, z32, [], z32⟩ (.slice none 0 0) := (HST.out).grow hrd hgr
  clear hrd hgr HST k1 k2 k3 k5 g1
  obtain ⟨⟨k1, k2, k3, k5⟩, g1⟩ := hst.cells ⟨rfl, rfl⟩
  have HST := hid hst
  clear hst
  go_wp2_with fail
  obtain ⟨a2, p2, r2, HA2⟩ : ∃ x q s, Hid (rdUpto 1099511627776 l p1 r1 = (x, q, s)) := ⟨_, _, _, hid rfl⟩
  have hm2 : a2 ≤ 1099511627776 := by have := rdUpto_le (m := 1099511627776) (l := l) (p := p1) (r := r1); rw [show ((1099511627776 : Nat) : Int) = 1099511627776 from rfl, HA2.out] at this; exact this
  have C := HU.out p1 r1 _ ((HST.out.cell (b := ⟨(a1 : Int), 0, 0, z32, [], z32⟩) (t := (.slice none 0 0)) (v := .int .i64 (a1 : Int)) 0 rfl)).rd 1099511627776 (by omega) (by omega)
  rw [HA2.out] at C
  refine C.mono ?_
  clear C
  rintro e w2 ⟨rfl, hrd, hgr⟩
  have hst : RxSt w w2 g l p2 r2 ⟨(a1 : Int), 0, 0, z32, [], z32⟩ (.slice none 0 0) := ((HST.out.cell (b := ⟨(a1 : Int), 0, 0, z32, [], z32⟩) (t := (.slice none 0 0)) (v := .int .i64 (a1 : Int)) 0 rfl)).grow hrd hgr
  clear hrd hgr HST k1 k2 k3 k5 g1
  obtain ⟨⟨k1, k2, k3, k5⟩, g1⟩ := hst.cells ⟨rfl, rfl⟩
  have HST := hid hst
  clear hst
  go_wp2_with fail
  obtain ⟨a3, p3, r3, HA3⟩ : ∃ x q s, Hid (rdUpto 1099511627776 l p2 r2 = (x, q, s)) := ⟨_, _, _, hid rfl⟩
  have hm3 : a3 ≤ 1099511627776 := by have := rdUpto_le (m := 1099511627776) (l := l) (p := p2) (r := r2); rw [show ((1099511627776 : Nat) : Int) = 1099511627776 from rfl, HA3.out] at this; exact this
  have C := HU.out p2 r2 _ ((HST.out.cell (b := ⟨(a1 : Int), (a2 : Int), 0, z32, [], z32⟩) (t := (.slice none 0 0)) (v := .int .i64 (a2 : Int)) 1 rfl)).rd 1099511627776 (by omega) (by omega)
  rw [HA3.out] at C
  refine C.mono ?_
  clear C
  rintro e w3 ⟨rfl, hrd, hgr⟩
  have hst : RxSt w w3 g l p3 r3 ⟨(a1 : Int), (a2 : Int), 0, z32, [], z32⟩ (.slice none 0 0) := ((HST.out.cell (b := ⟨(a1 : Int), (a2 : Int), 0, z32, [], z32⟩) (t := (.slice none 0 0)) (v := .int .i64 (a2 : Int)) 1 rfl)).grow hrd hgr
  clear hrd hgr HST k1 k2 k3 k5 g1
  obtain ⟨⟨k1, k2, k3, k5⟩, g1⟩ := hst.cells ⟨rfl, rfl⟩
  have HST := hid hst
  clear hst
  go_wp2_with fail
  obtain ⟨h4, p4, r4, HA4⟩ : ∃ x q s, Hid (rdHash l p3 r3 = (x, q, s)) := ⟨_, _, _, hid rfl⟩
  have HL4 : Hid (h4.length = 32) := hid (by have := rdHash_32 l p3 r3; rw [HA4.out] at this; exact this)
  have C := HH.out p3 r3 _ ((HST.out.cell (b := ⟨(a1 : Int), (a2 : Int), (a3 : Int), z32, [], z32⟩) (t := (.slice none 0 0)) (v := .int .i64 (a3 : Int)) 2 rfl)).rd
  rw [HA4.out] at C
  refine C.mono ?_
  clear C
  rintro e w4 ⟨rfl, hrd, hgr⟩
  have hst : RxSt w w4 g l p4 r4 ⟨(a1 : Int), (a2 : Int), (a3 : Int), z32, [], z32⟩ (.slice none 0 0) := ((HST.out.cell (b := ⟨(a1 : Int), (a2 : Int), (a3 : Int), z32, [], z32⟩) (t := (.slice none 0 0)) (v := .int .i64 (a3 : Int)) 2 rfl)).grow hrd hgr
  clear hrd hgr HST k1 k2 k3 k5 g1
  have HST0 := hid hst
  clear hst
  simp only
  go_wp2_with (refine wpList_store_xpa rfl _ _ rfl rfl rfl HST0.out.b1 ⟨rfl, rfl⟩ HL4.out ?_; intro v4 hg4 hA4 hs4; have HST := hid (HST0.out.att (b := ⟨(a1 : Int), (a2 : Int), (a3 : Int), h4, [], z32⟩) hg4 hA4); obtain ⟨⟨k1, k2, k3, k5⟩, g1⟩ := HST.out.cells ⟨HL4.out, rfl⟩; clear hg4 hA4 hs4 HST0)
  obtain ⟨a, HAA⟩ : ∃ a : AcM, Hid ((⟨(a1 : Int), (a2 : Int), (a3 : Int), h4, [], z32⟩ : AcM) = a) := ⟨_, hid rfl⟩
  have HOK : Hid a.Ok := hid (by rw [← HAA.out]; exact ⟨HL4.out, rfl⟩)
  have hst := HST.out
  rw [HAA.out] at hst
  have HSTA := hid hst
  clear hst HST k1 k2 k3 k5 g1
  obtain ⟨L, p7, r7, HA7⟩ : ∃ x q s, Hid (rdUpto 21 l p4 r4 = (x, q, s)) := ⟨_, _, _, hid rfl⟩
  have hm7 : L ≤ 21 := by have := rdUpto_le (m := 21) (l := l) (p := p4) (r := r4); rw [show ((21 : Nat) : Int) = 21 from rfl, HA7.out] at this; exact this
  have C := HU.out p4 r4 _ HSTA.out.rd 21 (by omega) (by omega)
  rw [HA7.out] at C
  refine C.mono ?_
  clear C
  rintro e w7 ⟨rfl, hrd, hgr⟩
  have HST7 : Hid (RxSt w w7 g l p7 r7 a (.slice none 0 0)) := hid (HSTA.out.grow hrd hgr)
  have HRAW : Hid (∀ S q s t q2 s2, rdFrs l p7 r7 L = (S, q, s) → rdHash l q s = (t, q2, s2) → rawX l p r = ({ { a with fr := S } with tg := t }, q2, s2)) := hid (fun S q s t q2 s2 h h2 => by
    unfold rawX
    simp only [HA1.out, HA2.out, HA3.out, HA4.out, HA7.out, h, h2]
    rw [← HAA.out])
  have HM7 := hid hm7
  clear hrd hgr HSTA HA1 HA2 HA3 HA4 HAA HL4 hm1 hm2 hm3
  simp only
  go_wp2_with fail
  go_loopw [19] (fun si wr => ∃ (k : Nat) (s : Value), k ≤ L ∧ si = .int .i64 k ∧ RxSt w wr g l (rdFrs l p7 r7 k).2.1 (rdFrs l p7 r7 k).2.2 a s ∧ OwnE icl 1 3 (w.heap.size + 2) wr s (rdFrs l p7 r7 k).1) (fun si _ => L - (intOf si).toNat)
  case atStart => exact ⟨0, _, Nat.zero_le _, rfl, HST7.out, OwnE.nil _ _⟩
  case round =>
    clear HST7
    obtain ⟨k, s, hk, rfl, hst, how⟩ := hrel
    have HLN : Hid ((rdFrs l p7 r7 k).1.length = k) := hid (rdFrs_len l p7 r7 k)
    obtain ⟨SL, pk, rk, HRS⟩ : ∃ x q s, Hid (rdFrs l p7 r7 k = (x, q, s)) := ⟨_, _, _, hid rfl⟩
    rw [HRS.out] at hst how HLN
    simp only at hst how HLN
    obtain ⟨SA, SC, rfl⟩ := how.shape
    obtain ⟨sn, HSN⟩ : ∃ x : Nat, Hid (SL.length = x) := ⟨_, hid rfl⟩
    rw [HSN.out] at hst how
    have HST := hid hst
    have HOW := hid how
    clear hst how
    by_cases hlt : k < L
    · have hI : (k : Int) < (L : Int) := by omega
      have HLT := hid hlt
      clear hlt hk
      obtain ⟨x8, p8, r8, HA8⟩ : ∃ x q s, Hid (rdUpto 21 l pk rk = (x, q, s)) := ⟨_, _, _, hid rfl⟩
      have HNX : Hid (rdFrs l p7 r7 (k + 1) = (SL ++ [(x8 : Int)], p8, r8)) := hid (by unfold rdFrs; simp only [HRS.out, HA8.out])
      go_upto_region 8 with (fail)
      have hbd : Below wr.heap.size wr wr.drew := (Below.refl _ _).drew
      have HSTD := hid (HST.out.below hbd)
      have HOWD := hid (HOW.out.below hbd)
      have HCC : Hid (∀ W, Rdr W g l pk rk → Calls Tryz.prog 73 #[.pointer (some ⟨g, 0, none⟩), .int .i64 21] W fun e w' => e = .returned (.int .i64 (x8 : Int)) ∧ Rdr w' g l p8 r8 ∧ W.grownBy w' (some g)) := hid (fun W h => by
        have C := HU.out pk rk W h 21 (by omega) (by omega)
        rw [HA8.out] at C
        exact C)
      obtain ⟨c8, f8⟩ := HSTD.out.frs HOK.out
      refine wp_region_held_drew (S := fun W => W.frozen? ⟨w.heap.size + 1, 35, none⟩ = false) (by kernel_rfl) (f8 _) (fun hHeld => ?_)
      refine' tk (i := 0) (v := _) rfl ?_ ?_
      rotate_left
      · (intro W hW; (try dsimp only at hW); go_simp; first | done | with_reducible rfl)
      try simp only [lay]
      refine' tk (i := 2) (v := _) rfl ?_ ?_
      rotate_left
      · (intro W hW; (try dsimp only at hW); go_simp; first | done | with_reducible rfl)
      try simp only [lay]
      refine pair_on (i := 1) (j := 3) rfl rfl (by kernel_rfl) (by rfl) (by rfl) (fun K hK => ?_) (fun K hK => ?_)
      · go_simp
        refine hK.out _ _ (f8 _) (fun hHeld => ?_)
        clear hK K
        try simp only [lay]
        refine call_on (i := 3) rfl (by kernel_rfl) (by rfl) (fun K hK => ?_)
        go_simp
        refine (HCC.out wr.drew HSTD.out.rd).mono ?_
        rintro e w9 ⟨rfl, hrd9, hgr9⟩
        have hst9 := HSTD.out.grow hrd9 hgr9
        have how9 := HOWD.out.far hgr9 (by have := hst9.lt; omega)
        refine hK.out _ _ (((hst9.frs HOK.out).2 _)) (fun hHeld => ?_)
        clear hK K
        try simp only [lay]
        have hbA : Below w9.heap.size w9 (w9.alloc (.cells #[.int .i64 (x8 : Int)] 3)) := (Below.refl _ _).alloc (Nat.le_refl _) _
        have HSTA := hid (hst9.below hbA)
        have HOWA := hid (how9.below hbA)
        have HELA : Hid (Els icl 1 (w9.alloc (.cells #[.int .i64 (x8 : Int)] 3)) (.slice (some ⟨w9.heap.size, 0, none⟩) 1 1) [(x8 : Int)]) := hid (els_one w9 (x8 : Int) #[.int .i64 (x8 : Int)] 3 rfl)
        have HSZA : Hid (w.heap.size + 2 ≤ (w9.alloc (.cells #[.int .i64 (x8 : Int)] 3)).heap.size) := hid (by have := HSTA.out.b1.lt; omega)
        refine call_on (i := 4) rfl (by kernel_rfl) (by rfl) (fun K hK => ?_)
        go_simp
        refine hK.out _ _ (((HSTA.out.frs HOK.out).2 _)) (fun hHeld => ?_)
        clear hK K
        try simp only [lay]
        refine call_on (i := 5) rfl (by kernel_rfl) (by rfl) (fun K hK => ?_)
        refine eltIc.wp_append (.tmp 22) (.tmp 25) rfl rfl rfl (fun _ _ => trivial) HOWA.out HELA.out (by have h1 := HLN.out; have h2 := HLT.out; have h3 := HM7.out; show SL.length + 1 ≤ 1000000; omega) HSZA.out ?_
        intro v10 w10 ho10 hg10 hv10
        have hs10 := HSTA.out.app HOWA.out hg10
        obtain ⟨A9, n9, c9', rfl⟩ : ∃ A n c, v10 = .slice A n c := (by obtain ⟨A, c, e⟩ := ho10.shape; exact ⟨_, _, _, e⟩)
        refine hK.out _ _ ((hs10.frs HOK.out).2 _) (fun hHeld => ?_)
        clear hK K
        try simp only [lay]
        refine' tk (i := 6) (v := _) rfl ?_ ?_
        rotate_left
        · (intro W hW; (try dsimp only at hW); go_simp; first | done | with_reducible rfl)
        try simp only [lay]
        obtain ⟨c10, f10⟩ := hs10.frs HOK.out
        have hs11 := hs10.cell (b := a) (v := .slice A9 n9 c9') (t := .slice A9 n9 c9') 35 (axc_fr a _ _ HOK.out)
        have ho11 := ho10.set (g := w.heap.size + 1) (by omega) 35 (.slice A9 n9 c9')
        refine call_on (i := 7) rfl (by kernel_rfl) (by rfl) (fun K hK => ?_)
        go_simp
        refine hK.out _ _ ((hs11.frs HOK.out).2 _) (fun hHeld => ?_)
        clear hK K
        try simp only [lay]
        refine wpAnyH_done (by kernel_rfl) ?_ _
        have HS11 := hid hs11
        have HO11 := hid ho11
        clear hHeld hs10 c10 f10 hs11 ho11 hg10 hv10 ho10 hst9 how9 hrd9 hgr9 hbA hbd c8 f8
        go_wp2_with fail
        go_roundw
        case rel =>
          refine ⟨k + 1, .slice A9 n9 c9', by have := HLT.out; omega, by go_num, ?_⟩
          rw [HNX.out]
          exact ⟨HS11.out, HO11.out⟩
        case measure => have := HLT.out; simp [intOf]; omega
      · go_simp
        refine (HCC.out wr.drew HSTD.out.rd).mono ?_
        rintro e w9 ⟨rfl, hrd9, hgr9⟩
        have hst9 := HSTD.out.grow hrd9 hgr9
        have how9 := HOWD.out.far hgr9 (by have := hst9.lt; omega)
        refine hK.out _ _ (((hst9.frs HOK.out).2 _)) (fun hHeld => ?_)
        clear hK K
        try simp only [lay]
        have hbA : Below w9.heap.size w9 (w9.alloc (.cells #[.int .i64 (x8 : Int)] 3)) := (Below.refl _ _).alloc (Nat.le_refl _) _
        have HSTA := hid (hst9.below hbA)
        have HOWA := hid (how9.below hbA)
        have HELA : Hid (Els icl 1 (w9.alloc (.cells #[.int .i64 (x8 : Int)] 3)) (.slice (some ⟨w9.heap.size, 0, none⟩) 1 1) [(x8 : Int)]) := hid (els_one w9 (x8 : Int) #[.int .i64 (x8 : Int)] 3 rfl)
        have HSZA : Hid (w.heap.size + 2 ≤ (w9.alloc (.cells #[.int .i64 (x8 : Int)] 3)).heap.size) := hid (by have := HSTA.out.b1.lt; omega)
        obtain ⟨c9, f9⟩ := hst9.frs HOK.out
        obtain ⟨cA, fA⟩ := HSTA.out.frs HOK.out
        refine pair_on (i := 1) (j := 4) rfl rfl (by kernel_rfl) (by rfl) (by rfl) (fun K hK => ?_) (fun K hK => ?_)
        · go_simp
          refine hK.out _ _ (f9 _) (fun hHeld => ?_)
          clear hK K
          try simp only [lay]
          refine call_on (i := 4) rfl (by kernel_rfl) (by rfl) (fun K hK => ?_)
          go_simp
          refine hK.out _ _ (fA _) (fun hHeld => ?_)
          clear hK K
          try simp only [lay]
          clear c9 f9 cA fA
          refine call_on (i := 5) rfl (by kernel_rfl) (by rfl) (fun K hK => ?_)
          refine eltIc.wp_append (.tmp 22) (.tmp 25) rfl rfl rfl (fun _ _ => trivial) HOWA.out HELA.out (by have h1 := HLN.out; have h2 := HLT.out; have h3 := HM7.out; show SL.length + 1 ≤ 1000000; omega) HSZA.out ?_
          intro v10 w10 ho10 hg10 hv10
          have hs10 := HSTA.out.app HOWA.out hg10
          obtain ⟨A9, n9, c9', rfl⟩ : ∃ A n c, v10 = .slice A n c := (by obtain ⟨A, c, e⟩ := ho10.shape; exact ⟨_, _, _, e⟩)
          refine hK.out _ _ ((hs10.frs HOK.out).2 _) (fun hHeld => ?_)
          clear hK K
          try simp only [lay]
          refine' tk (i := 6) (v := _) rfl ?_ ?_
          rotate_left
          · (intro W hW; (try dsimp only at hW); go_simp; first | done | with_reducible rfl)
          try simp only [lay]
          obtain ⟨c10, f10⟩ := hs10.frs HOK.out
          have hs11 := hs10.cell (b := a) (v := .slice A9 n9 c9') (t := .slice A9 n9 c9') 35 (axc_fr a _ _ HOK.out)
          have ho11 := ho10.set (g := w.heap.size + 1) (by omega) 35 (.slice A9 n9 c9')
          refine call_on (i := 7) rfl (by kernel_rfl) (by rfl) (fun K hK => ?_)
          go_simp
          refine hK.out _ _ ((hs11.frs HOK.out).2 _) (fun hHeld => ?_)
          clear hK K
          try simp only [lay]
          refine wpAnyH_done (by kernel_rfl) ?_ _
          have HS11 := hid hs11
          have HO11 := hid ho11
          clear hHeld hs10 c10 f10 hs11 ho11 hg10 hv10 ho10 hst9 how9 hrd9 hgr9 hbA hbd c8 f8
          go_wp2_with fail
          go_roundw
          case rel =>
            refine ⟨k + 1, .slice A9 n9 c9', by have := HLT.out; omega, by go_num, ?_⟩
            rw [HNX.out]
            exact ⟨HS11.out, HO11.out⟩
          case measure => have := HLT.out; simp [intOf]; omega
        · go_simp
          refine hK.out _ _ (fA _) (fun hHeld => ?_)
          clear hK K
          try simp only [lay]
          refine call_on (i := 1) rfl (by kernel_rfl) (by rfl) (fun K hK => ?_)
          go_simp
          refine hK.out _ _ (fA _) (fun hHeld => ?_)
          clear hK K
          try simp only [lay]
          clear c9 f9 cA fA
          refine call_on (i := 5) rfl (by kernel_rfl) (by rfl) (fun K hK => ?_)
          refine eltIc.wp_append (.tmp 22) (.tmp 25) rfl rfl rfl (fun _ _ => trivial) HOWA.out HELA.out (by have h1 := HLN.out; have h2 := HLT.out; have h3 := HM7.out; show SL.length + 1 ≤ 1000000; omega) HSZA.out ?_
          intro v10 w10 ho10 hg10 hv10
          have hs10 := HSTA.out.app HOWA.out hg10
          obtain ⟨A9, n9, c9', rfl⟩ : ∃ A n c, v10 = .slice A n c := (by obtain ⟨A, c, e⟩ := ho10.shape; exact ⟨_, _, _, e⟩)
          refine hK.out _ _ ((hs10.frs HOK.out).2 _) (fun hHeld => ?_)
          clear hK K
          try simp only [lay]
          refine' tk (i := 6) (v := _) rfl ?_ ?_
          rotate_left
          · (intro W hW; (try dsimp only at hW); go_simp; first | done | with_reducible rfl)
          try simp only [lay]
          obtain ⟨c10, f10⟩ := hs10.frs HOK.out
          have hs11 := hs10.cell (b := a) (v := .slice A9 n9 c9') (t := .slice A9 n9 c9') 35 (axc_fr a _ _ HOK.out)
          have ho11 := ho10.set (g := w.heap.size + 1) (by omega) 35 (.slice A9 n9 c9')
          refine call_on (i := 7) rfl (by kernel_rfl) (by rfl) (fun K hK => ?_)
          go_simp
          refine hK.out _ _ ((hs11.frs HOK.out).2 _) (fun hHeld => ?_)
          clear hK K
          try simp only [lay]
          refine wpAnyH_done (by kernel_rfl) ?_ _
          have HS11 := hid hs11
          have HO11 := hid ho11
          clear hHeld hs10 c10 f10 hs11 ho11 hg10 hv10 ho10 hst9 how9 hrd9 hgr9 hbA hbd c8 f8
          go_wp2_with fail
          go_roundw
          case rel =>
            refine ⟨k + 1, .slice A9 n9 c9', by have := HLT.out; omega, by go_num, ?_⟩
            rw [HNX.out]
            exact ⟨HS11.out, HO11.out⟩
          case measure => have := HLT.out; simp [intOf]; omega
    · obtain rfl : k = L := by omega
      obtain ⟨t, pt, rt, HAT⟩ : ∃ x q s, Hid (rdHash l pk rk = (x, q, s)) := ⟨_, _, _, hid rfl⟩
      have HTL : Hid (t.length = 32) := hid (by have := rdHash_32 l pk rk; rw [HAT.out] at this; exact this)
      have HRAW2 := hid (HRAW.out SL pk rk t pt rt HRS.out HAT.out)
      have HLE := hid (show SL.length ≤ 1000 by have := HLN.out; have := HM7.out; omega)
      clear hlt hk HRAW
      go_wp2_with fail
      have C := HH.out pk rk wr HST.out.rd
      rw [HAT.out] at C
      refine C.mono ?_
      clear C
      rintro e wt ⟨rfl, hrdt, hgrt⟩
      have HSTT := hid (HST.out.grow hrdt hgrt)
      have HOWT := hid (HOW.out.far hgrt (by have := HST.out.lt; omega))
      clear hrdt hgrt
      simp only
      go_upto_region 11 with (refine wpList_store_xtg (h := t) rfl _ _ rfl rfl rfl HSTT.out.b1 HOK.out HTL.out ?_; intro wu hgu hAu hsu)
      have HSTU := hid ((HSTT.out.att (b := { a with tg := t }) hgu hAu).refr SL)
      have HOWU : Hid (OwnE icl 1 3 (w.heap.size + 2) wu (.slice SA sn SC) SL) := hid (HOWT.out.far hgu (by omega))
      obtain ⟨c, HCM⟩ : ∃ c : AcM, Hid (({ { a with fr := SL } with tg := t } : AcM) = c) := ⟨_, hid rfl⟩
      have HST3 : Hid (RxSt w wu g l pt rt c (.slice SA sn SC)) := hid (by rw [← HCM.out]; exact HSTU.out)
      have HOC : Hid c.Ok := hid (by rw [← HCM.out]; exact ⟨HOK.out.pa, HTL.out⟩)
      have HCF : Hid (c.fr = SL) := hid (by rw [← HCM.out])
      rw [HCM.out] at HRAW2
      clear hgu hAu hsu HSTU HSTT HOWT
      obtain ⟨CC, HCC⟩ : ∃ C : Array Value, Hid (axc c (.slice SA sn SC) = C) := ⟨_, hid rfl⟩
      obtain ⟨m, HM⟩ : ∃ m : Bool, Hid (mayX c = m) := ⟨_, hid rfl⟩
      have HI : Hid (acIs l p r = (rt && m)) := hid (by unfold acIs; rw [HRAW2.out, HM.out])
      have HEL := hid (HOWU.out.els eltIc (fun _ _ => trivial))
      have HCS : Hid (CC.size = 68 ∧ CC.all (·.oneCell') = true) := hid (by rw [← HCC.out]; exact ⟨axc_size _ HOC.out, axc_one (w := wu) (a := c) (by rw [HCF.out]; exact HEL.out)⟩)
      have HCK : Hid (∀ W, Below wu.heap.size wu W → Calls Tryz.prog 93 #[.agg CC] W fun e w' => e = .returned (.bool m) ∧ Below W.heap.size W w') := hid (fun W h => by
        have := acFits_any (.agg CC) c W ⟨_, by rw [← HCC.out], HOC.out, by rw [HCF.out]; exact HEL.out.below h⟩ (by rw [HCF.out]; exact HLE.out)
        rw [HM.out] at this
        exact this)
      have HLD : Hid (∀ W, RxSt w W g l pt rt c (.slice SA sn SC) → loadAx (.pointer (some ⟨w.heap.size + 1, 0, none⟩)) W = .ok (.value (.agg CC)) W ∧ storeAx (.pointer (some ⟨w.heap.size, 0, none⟩)) (.agg CC) W = .ok .skip (setAx W w.heap.size CC) ∧ storeAx (.pointer (some ⟨w.heap.size, 0, none⟩)) (.agg Z) W = .ok .skip (setAx W w.heap.size Z)) := hid (fun W h => by
        have h1 := h.b1
        unfold BoxX at h1
        have h1' : W.heap[w.heap.size + 1]? = some (.cells CC 31 (0, 0)) := by rw [← HCC.out]; exact h1
        have h2 := h.b0
        unfold BoxX at h2
        rw [HZ.out] at h2
        exact ⟨loadAx_row h1' HCS.out.1, storeAx_eq h2 HSZ.out HCS.out.1 HCS.out.2, storeAx_eq h2 HSZ.out HSZ.out HZ1.out⟩)
      have hbz := HBZ.out
      go_wp2_with fail
      refine (HWR.out pt rt wu HST3.out.rd).mono ?_
      rintro e wy ⟨rfl, rfl⟩
      obtain ⟨l9, _, s9⟩ := HLD.out wu HST3.out
      cases rt with
      | false =>
        have HIS : Hid (acIs l p r = false) := hid (by rw [HI.out]; rfl)
        have HF := hid (HST3.out.fin Z)
        clear l9
        go_wp2_with fail
        refine bodyPost_ret (results_xb rfl _ _ _ _ _ _ rfl rfl HF.out.1 HSZ.out) rfl ?_
        rw [← HZ.out] at HF ⊢
        exact rxPost_no HIS.out HF.out.2.1 HF.out.2.2
      | true =>
        clear s9
        go_wp2_with fail
        refine (HCK.out wu (Below.refl _ _)).mono ?_
        rintro e wz ⟨rfl, hb9⟩
        have HSTZ := hid (HST3.out.below hb9)
        have HOWZ := hid (HOWU.out.below hb9)
        obtain ⟨l10, t10, s10⟩ := HLD.out wz HSTZ.out
        clear l9 hb9
        cases m with
        | false =>
          have HIS : Hid (acIs l p r = false) := hid (by rw [HI.out]; rfl)
          have HF := hid (HSTZ.out.fin Z)
          clear l10 t10
          go_wp2_with fail
          refine bodyPost_ret (results_xb rfl _ _ _ _ _ _ rfl rfl HF.out.1 HSZ.out) rfl ?_
          rw [← HZ.out] at HF ⊢
          exact rxPost_no HIS.out HF.out.2.1 HF.out.2.2
        | true =>
          have HIS : Hid (acIs l p r = true) := hid (by rw [HI.out]; rfl)
          have HF := hid (HSTZ.out.fin CC)
          have HOF := hid (HOWZ.out.row (g := w.heap.size) (C := CC) (by omega))
          clear s10 hbz
          go_wp2_with fail
          refine bodyPost_ret (results_xb rfl _ _ _ _ _ _ rfl rfl HF.out.1 HCS.out.1) rfl ?_
          rw [← HCC.out] at HF HOF ⊢
          exact rxPost_yes HIS.out HRAW2.out HOC.out (by rw [HCF.out]; exact HOF.out.more (by omega)) HF.out.2.1 HF.out.2.2
end Go.Proofs.YtjemfmbmlmogcaaGreat
