/-
  blob.read: the seal that is read next. Printed with gensecode.py.
-/
import Derived.Test.YtifkkpfiejiojaaDoorSeCodeMay
import Derived.Test.YtifkkpfiejiojaaDoorSeRd
namespace Go.Proofs.YtifkkpfiejiojaaDoor
set_option maxRecDepth 20000
open Go.RowKit
attribute [local go_sem ↓] exec_load_se exec_alloc_se exec_store_se exec_load_hash
def readS (l : List UInt8) (p : Nat) (r : Bool) : SeM × Nat × Bool :=
  let b := rdUpto 1099511627776 l p r
  let c := rdUpto 3 l b.2.1 b.2.2
  let d := rdUpto 1099511627776 l c.2.1 c.2.2
  let e := rdHash l d.2.1 d.2.2
  (⟨b.1, c.1, d.1, e.1⟩, e.2)
theorem rawB_read (l : List UInt8) : rawB l = ((((rdUpto 1099511627776 l 0 true).1 : Nat) : Int), (readS l (rdUpto 1099511627776 l 0 true).2.1 (rdUpto 1099511627776 l 0 true).2.2).1, (rdHash l (readS l (rdUpto 1099511627776 l 0 true).2.1 (rdUpto 1099511627776 l 0 true).2.2).2.1 (readS l (rdUpto 1099511627776 l 0 true).2.1 (rdUpto 1099511627776 l 0 true).2.2).2.2)) := rfl
theorem readS_ok (l : List UInt8) (p : Nat) (r : Bool) : (readS l p r).1.Ok := rdHash_32 _ _ _
structure RsSt (w0 w : World) (g : Nat) (l : List UInt8) (p : Nat) (r : Bool) (a : SeM) : Prop where
  lt : g < w0.heap.size
  gr : w0.grownBy w (some g)
  rd : Rdr w g l p r
  b0 : BoxSe w w0.heap.size seZ
  b1 : BoxSe w (w0.heap.size + 1) a
section
variable {w0 w w' : World} {g : Nat} {l : List UInt8} {p : Nat} {r : Bool} {a : SeM}
theorem seGrown_set {w0 w : World} {row : Option Nat} (h : w0.grownBy w row) (a : Addr) (u : Value) (ha : w0.heap.size ≤ a.block) : w0.grownBy (w.setCell a u) row :=
  ⟨h.os, h.tape, h.output, by simpa using h.size, fun k hk hr => (Below.heap_setCell w a u k (fun e => by omega)).trans (h.block k hk hr)⟩
theorem seGrown_past {w0 w w' : World} {row : Option Nat} {k : Nat} (h : w0.grownBy w row) (hg : w.grownBy w' (some k)) (hk : w0.heap.size ≤ k) : w0.grownBy w' row :=
  ⟨hg.os.trans h.os, hg.tape.trans h.tape, hg.output.trans h.output, Nat.le_trans h.size hg.size, fun j hj hne => (hg.block j (Nat.lt_of_lt_of_le hj h.size) (fun e => by injection e with e; omega)).trans (h.block j hj hne)⟩
theorem RsSt.new (h : Rdr w0 g l p r) : RsSt w0 ((w0.alloc (.cells (sec seZ) 25)).alloc (.cells (sec seZ) 25)) g l p r seZ := by
  have hb : Below w0.heap.size w0 ((w0.alloc (.cells (sec seZ) 25)).alloc (.cells (sec seZ) 25)) := ((Below.refl _ _).alloc (Nat.le_refl _) _).alloc (by simp) _
  exact ⟨h.lt, grown_of_below hb _, h.below hb, heap1 w0 _ _, heap2 w0 _ _⟩
theorem RsSt.grow (h : RsSt w0 w g l p r a) {p' : Nat} {r' : Bool} (hr : Rdr w' g l p' r') (hg : w.grownBy w' (some g)) : RsSt w0 w' g l p' r' a := by
  have h0 := h.b0.lt
  have h1 := h.b1.lt
  have hlt := h.lt
  exact ⟨hlt, h.gr.trans hg, hr, (hg.block _ h0 (fun e => by injection e with e; omega)).trans h.b0, (hg.block _ h1 (fun e => by injection e with e; omega)).trans h.b1⟩
theorem RsSt.cell (h : RsSt w0 w g l p r a) {b : SeM} {v : Value} (i : Nat) (e : (sec a).setIfInBounds i v = sec b) : RsSt w0 (w.setCell ⟨w0.heap.size + 1, i, none⟩ v) g l p r b := by
  have hlt := h.lt
  refine ⟨hlt, seGrown_set h.gr _ _ (Nat.le_succ _), h.rd.apart (grown_set _ _ _ _) h.b1 (by decide) (by omega), blk_other h.b0 _ (by omega), ?_⟩
  have := set_blk h.b1 i v
  rw [e] at this
  exact this
theorem RsSt.se (h : RsSt w0 w g l p r a) {b : SeM} (hg : w.grownBy w' (some (w0.heap.size + 1))) (hb : BoxSe w' (w0.heap.size + 1) b) : RsSt w0 w' g l p r b := by
  have hlt := h.lt
  exact ⟨hlt, seGrown_past h.gr hg (Nat.le_succ _), h.rd.apart hg h.b1 (by decide) (by omega), (hg.block _ h.b0.lt (fun e => by injection e with e; omega)).trans h.b0, hb⟩
theorem RsSt.cells (h : RsSt w0 w g l p r a) :
    (w.cell? ⟨w0.heap.size + 1, 0, none⟩ = some (.int .i64 a.vi) ∧ w.cell? ⟨w0.heap.size + 1, 1, none⟩ = some (.int .i64 a.ph) ∧ w.cell? ⟨w0.heap.size + 1, 2, none⟩ = some (.int .i64 a.pv)) ∧
    (∀ i, w.frozen? ⟨w0.heap.size + 1, i, none⟩ = false) := ⟨h.b1.cells, h.b1.free⟩
theorem RsSt.fin (h : RsSt w0 w g l p r a) (C : Array Value) : (setSe w w0.heap.size C).heap[w0.heap.size]? = some (.cells C 25 (0, 0)) ∧ Rdr (setSe w w0.heap.size C) g l p r ∧ w0.grownBy (setSe w w0.heap.size C) (some g) := by
  have hlt := h.lt
  have hg : w.grownBy (setSe w w0.heap.size C) (some w0.heap.size) := by
    refine ⟨rfl, rfl, rfl, ?_, fun k hk hne => setSe_other w C (fun e => hne (by rw [e]))⟩
    unfold setSe
    simp
  exact ⟨setSe_same h.b0, h.rd.apart hg h.b0 (by decide) (by omega), seGrown_past h.gr hg (Nat.le_refl _)⟩
end
set_option maxHeartbeats 6400000 in
theorem seread_any (g : Nat) (l : List UInt8) (p : Nat) (r : Bool) (w : World) (hr : Rdr w g l p r) (hl : l.length ≤ 1000000) :
    Calls Tryd.prog 23 #[.pointer (some ⟨g, 0, none⟩)] w fun e w' => e = .returned (.agg (sec (readS l p r).1)) ∧ Rdr w' g l (readS l p r).2.1 (readS l p r).2.2 ∧ w.grownBy w' (some g) := by
  have HU := hid (fun p r W (h : Rdr W g l p r) m (h1 : -9223372036854775808 ≤ m) (h2 : m ≤ 9223372036854775807) => upto_any g l p r m W h (by omega) h1 h2)
  have HH := hid (fun p r W (h : Rdr W g l p r) => rhash_any g l p r W h (by omega))
  obtain ⟨Z, HZ⟩ : ∃ C : Array Value, Hid (sec seZ = C) := ⟨_, hid rfl⟩
  have hal : ∀ W, allocSe W = .ok (.value (.pointer (some ⟨W.heap.size, 0, none⟩))) (W.alloc (.cells Z 25)) := fun W => by rw [← HZ.out]; exact allocSe_eq W
  have HSZ : Hid (Z.size = 35) := hid (by rw [← HZ.out]; exact sec_size seZ_ok)
  obtain ⟨RS, HRS⟩ : ∃ x : SeM × Nat × Bool, Hid (readS l p r = x) := ⟨_, hid rfl⟩
  rw [HRS.out]
  have hst := RsSt.new hr
  rw [HZ.out] at hst
  have hsz : (w.alloc (.cells Z 25)).heap.size = w.heap.size + 1 := by simp
  clear hr hl
  go_enter Tryd.func23, Tryd.ntmps23
  go_upto_region 2 with (fail)
  generalize ((w.alloc (.cells Z 25)).alloc (.cells Z 25)) = w0 at *
  clear hal
  try rw [hsz]
  clear hsz
  obtain ⟨⟨k0, k1, k2⟩, g1⟩ := hst.cells
  have HST := hid hst
  clear hst
  go_wp2_with fail
  obtain ⟨a1, p1, r1, HA1⟩ : ∃ x q s, Hid (rdUpto 1099511627776 l p r = (x, q, s)) := ⟨_, _, _, hid rfl⟩
  have hm1 : a1 ≤ 1099511627776 := by have := rdUpto_le (m := 1099511627776) (l := l) (p := p) (r := r); rw [show ((1099511627776 : Nat) : Int) = 1099511627776 from rfl, HA1.out] at this; exact this
  have C := HU.out p r _ (HST.out).rd 1099511627776 (by omega) (by omega)
  rw [HA1.out] at C
  refine C.mono ?_
  clear C
  rintro e w1 ⟨rfl, hrd, hgr⟩
  have hst : RsSt w w1 g l p1 r1 ⟨0, 0, 0, z32⟩ := (HST.out).grow hrd hgr
  clear hrd hgr HST k0 k1 k2 g1
  obtain ⟨⟨k0, k1, k2⟩, g1⟩ := hst.cells
  have HST := hid hst
  clear hst
  go_wp2_with fail
  obtain ⟨a2, p2, r2, HA2⟩ : ∃ x q s, Hid (rdUpto 3 l p1 r1 = (x, q, s)) := ⟨_, _, _, hid rfl⟩
  have hm2 : a2 ≤ 3 := by have := rdUpto_le (m := 3) (l := l) (p := p1) (r := r1); rw [show ((3 : Nat) : Int) = 3 from rfl, HA2.out] at this; exact this
  have C := HU.out p1 r1 _ ((HST.out.cell (b := ⟨(a1 : Int), 0, 0, z32⟩) (v := .int .i64 (a1 : Int)) 0 rfl)).rd 3 (by omega) (by omega)
  rw [HA2.out] at C
  refine C.mono ?_
  clear C
  rintro e w2 ⟨rfl, hrd, hgr⟩
  have hst : RsSt w w2 g l p2 r2 ⟨(a1 : Int), 0, 0, z32⟩ := ((HST.out.cell (b := ⟨(a1 : Int), 0, 0, z32⟩) (v := .int .i64 (a1 : Int)) 0 rfl)).grow hrd hgr
  clear hrd hgr HST k0 k1 k2 g1
  obtain ⟨⟨k0, k1, k2⟩, g1⟩ := hst.cells
  have HST := hid hst
  clear hst
  go_wp2_with fail
  obtain ⟨a3, p3, r3, HA3⟩ : ∃ x q s, Hid (rdUpto 1099511627776 l p2 r2 = (x, q, s)) := ⟨_, _, _, hid rfl⟩
  have hm3 : a3 ≤ 1099511627776 := by have := rdUpto_le (m := 1099511627776) (l := l) (p := p2) (r := r2); rw [show ((1099511627776 : Nat) : Int) = 1099511627776 from rfl, HA3.out] at this; exact this
  have C := HU.out p2 r2 _ ((HST.out.cell (b := ⟨(a1 : Int), (a2 : Int), 0, z32⟩) (v := .int .i64 (a2 : Int)) 1 rfl)).rd 1099511627776 (by omega) (by omega)
  rw [HA3.out] at C
  refine C.mono ?_
  clear C
  rintro e w3 ⟨rfl, hrd, hgr⟩
  have hst : RsSt w w3 g l p3 r3 ⟨(a1 : Int), (a2 : Int), 0, z32⟩ := ((HST.out.cell (b := ⟨(a1 : Int), (a2 : Int), 0, z32⟩) (v := .int .i64 (a2 : Int)) 1 rfl)).grow hrd hgr
  clear hrd hgr HST k0 k1 k2 g1
  obtain ⟨⟨k0, k1, k2⟩, g1⟩ := hst.cells
  have HST := hid hst
  clear hst
  go_wp2_with fail
  obtain ⟨h4, p4, r4, HA4⟩ : ∃ x q s, Hid (rdHash l p3 r3 = (x, q, s)) := ⟨_, _, _, hid rfl⟩
  have HL4 : Hid (h4.length = 32) := hid (by have := rdHash_32 l p3 r3; rw [HA4.out] at this; exact this)
  have C := HH.out p3 r3 _ ((HST.out.cell (b := ⟨(a1 : Int), (a2 : Int), (a3 : Int), z32⟩) (v := .int .i64 (a3 : Int)) 2 rfl)).rd
  rw [HA4.out] at C
  refine C.mono ?_
  clear C
  rintro e w4 ⟨rfl, hrd, hgr⟩
  have hst : RsSt w w4 g l p4 r4 ⟨(a1 : Int), (a2 : Int), (a3 : Int), z32⟩ := ((HST.out.cell (b := ⟨(a1 : Int), (a2 : Int), (a3 : Int), z32⟩) (v := .int .i64 (a3 : Int)) 2 rfl)).grow hrd hgr
  clear hrd hgr HST k0 k1 k2 g1
  have HST0 := hid hst
  clear hst
  simp only
  obtain ⟨a, HAA⟩ : ∃ a : SeM, Hid ((⟨(a1 : Int), (a2 : Int), (a3 : Int), h4⟩ : SeM) = a) := ⟨_, hid rfl⟩
  have HOK : Hid a.Ok := hid (by rw [← HAA.out]; exact HL4.out)
  have HRAW : Hid (readS l p r = (a, p4, r4)) := hid (by unfold readS; simp only [HA1.out, HA2.out, HA3.out, HA4.out]; rw [← HAA.out])
  have HE : Hid (RS = (a, p4, r4)) := hid (HRS.out.symm.trans HRAW.out)
  go_upto_region 6 with (refine wpList_store_seh rfl _ _ rfl rfl rfl HST0.out.b1 rfl HL4.out ?_; intro v4 hg4 hA4 hs4; have hst := HST0.out.se (b := ⟨(a1 : Int), (a2 : Int), (a3 : Int), h4⟩) hg4 hA4; clear hg4 hA4 hs4 HST0)
  rw [HAA.out] at hst
  have HST9 := hid hst
  clear hst HA1 HA2 HA3 HA4 HH HU HAA HL4 hm1 hm2 hm3
  obtain ⟨CA, HCA⟩ : ∃ C : Array Value, Hid (sec a = C) := ⟨_, hid rfl⟩
  have HCS : Hid (CA.size = 35 ∧ CA.all (·.oneCell') = true) := hid (by rw [← HCA.out]; exact ⟨sec_size HOK.out, sec_one _⟩)
  have l9 := loadSe_eq HST9.out.b1 HOK.out
  have s9 : storeSe (.pointer (some ⟨w.heap.size, 0, none⟩)) (.agg CA) v4 = .ok .skip (setSe v4 w.heap.size CA) := by
    have h2 := HST9.out.b0
    unfold BoxSe at h2
    rw [HZ.out] at h2
    exact storeSe_eq h2 HSZ.out HCS.out.1 HCS.out.2
  have HF := hid (HST9.out.fin CA)
  rw [HCA.out] at l9
  go_wp2_with fail
  refine bodyPost_ret (results_cell_row rfl _ _ _ _ _ (0, 0) _ rfl HF.out.1 under_se rfl (by rw [size_se, HCS.out.1])) rfl ?_
  rw [HE.out]
  exact ⟨by rw [← HCA.out], HF.out.2.1, HF.out.2.2⟩
end Go.Proofs.YtifkkpfiejiojaaDoor
