/-
  BkCodeRead BkCodeGet: what each of them says stands at its head.
-/
import Derived.Test.YtjemfmbmlmogcaaGreatBs10
import Derived.Test.YtjemfmbmlmogcaaGreatBs9
import Derived.Test.YtjemfmbmlmogcaaGreatBs8
namespace Go.Proofs.YtjemfmbmlmogcaaGreat
set_option maxRecDepth 20000
open Go.RowKit
theorem fold_putAt : ∀ (vs : List Value) (k : Nat) (C : Array Value), (vs.zipIdx k).foldl (fun cs x => cs.setIfInBounds x.2 x.1) C = putAt C k vs
  | [], _, _ => rfl
  | v :: r, k, C => by
    simp only [List.zipIdx_cons, List.foldl_cons]
    exact fold_putAt r (k + 1) _
noncomputable def buildKH (v : Value) (w : World) : Result Next := Sem.run Tryz.prog (execOp (fun _ => v) { dst := none, op := .build 34 #[(0, .tmp 0)], type := 0, pos := "", after := #[], guard := none }) w
theorem exec_build_bkh (r : Operand → Value) (x : Operand) (dst : Option Tmp) (ty : TypeId) (pos : String) (after : Array Edge) (guard : Option (Nat × Bool)) (w : World) :
    Sem.run Tryz.prog (execOp r { dst := dst, op := .build 34 #[(0, x)], type := ty, pos := pos, after := after, guard := guard }) w = buildKH (r x) w := by
  unfold buildKH execOp
  simp
theorem buildKH_eq (h : List UInt8) (h32 : h.length = 32) (w : World) : buildKH (.agg (hcells h)) w = .ok (.value (.agg (bkc ⟨h, 0, 0, 0, []⟩ (.slice none 0 0)))) w := by
  have hsz : (hcells h).size = 32 := by rw [hcells_size, h32]
  unfold buildKH
  go_simp
  have e : (hcells h).zipIdx = ((bcells h).zipIdx).toArray := by simp [hcells]
  rw [e, List.foldl_toArray' _ _ _ (by simp [bcells_length, h32]), fold_putAt]
  exact bkc_par bkZ (.slice none 0 0) h (by rw [bkZ_par, h32])
attribute [local go_sem ↓] exec_load_tx exec_load_bk exec_build_bk exec_build_bkh exec_alloc_bk exec_store_bk
def readB (l : List UInt8) : BkM := match rdTxs l (rdHd l).p (rdHd l).r (rdHd l).n with
  | none => bkZ
  | some x => ⟨(rdHd l).par, (rdHd l).vi, (rdHd l).he, (rdHd l).bo, x.1⟩
def readIs (l : List UInt8) : Bool := (rdTxs l (rdHd l).p (rdHd l).r (rdHd l).n).isSome
theorem Rdr.grow {w w' : World} {g B : Nat} {l : List UInt8} {p : Nat} {r : Bool} {s : Value} {ts : List TxM} (h : Rdr w g l p r) (ho : OwnT B w s ts) (hgB : g < B) (hg : w.grownBy w' s.ownBlock) : Rdr w' g l p r := by
  rcases ho.2 with ⟨rfl, _⟩ | ⟨k, cap, cur, rfl, hk, hh, _⟩
  · exact h.below ((Below.refl _ _).grown hg (Nat.le_refl _) (fun k hk => by cases hk))
  · exact h.apart (k := k) hg hh (by decide) (by omega)
structure RkSt (w0 w : World) (g h : Nat) (l : List UInt8) (p : Nat) (r : Bool) (b : BkM) (s : Value) : Prop where
  lt : g < w0.heap.size
  gr : w0.grownBy w (some g)
  rd : Rdr w g l p r
  b0 : BoxK w w0.heap.size bkZ (.slice none 0 0)
  hh : w0.heap.size < h
  b1 : BoxK w h b s
section
variable {w0 w w' : World} {g h : Nat} {l : List UInt8} {p : Nat} {r : Bool} {b : BkM} {s : Value}
theorem RkSt.hlt (H : RkSt w0 w g h l p r b s) : h < w.heap.size := lt_of_block H.b1
theorem RkSt.grow (H : RkSt w0 w g h l p r b s) {p' : Nat} {r' : Bool} (hr : Rdr w' g l p' r') (hg : w.grownBy w' (some g)) : RkSt w0 w' g h l p' r' b s := by
  have h0 := lt_of_block H.b0
  have h1 := H.hlt
  have hlt := H.lt
  have hh := H.hh
  exact ⟨hlt, H.gr.trans hg, hr, (hg.block _ h0 (fun e => by injection e with e; omega)).trans H.b0, hh, (hg.block _ h1 (fun e => by injection e with e; omega)).trans H.b1⟩
theorem RkSt.below (H : RkSt w0 w g h l p r b s) (hb : Below w.heap.size w w') : RkSt w0 w' g h l p r b s := H.grow (H.rd.below hb) (grown_of_below hb _)
theorem RkSt.cell (H : RkSt w0 w g h l p r b s) (hp : b.par.length = 32) {b' : BkM} {s' v : Value} (i : Nat) (e : (bcells b.par ++ [.int .i64 b.vi, .int .i64 b.he, .int .i64 b.bo, s].set i v).toArray = bkc b' s') :
    RkSt w0 (w.setCell ⟨h, 32 + i, none⟩ v) g h l p r b' s' := by
  have hlt := H.lt
  have hh := H.hh
  refine ⟨hlt, grown_setNew H.gr _ _ (by simp only; omega), H.rd.apart (grown_set _ _ _ _) H.b1 (by decide) (by omega), blk_other H.b0 _ (by omega), hh, ?_⟩
  have := set_blk H.b1 (32 + i) v
  rw [bkc_set hp, e] at this
  exact this
theorem RkSt.app (H : RkSt w0 w g h l p r b s) {ts : List TxM} (ho : OwnT (h + 1) w s ts) (hg : w.grownBy w' s.ownBlock) : RkSt w0 w' g h l p r b s := by
  have hlt := H.lt
  have hh := H.hh
  have hh1 := H.hlt
  have h0 := lt_of_block H.b0
  have hne : ∀ k, k ≤ h → some k ≠ s.ownBlock := fun k hk e => by
    have := (World.ownsRow.lt ho k e.symm).1
    omega
  refine ⟨hlt, ?_, H.rd.grow ho (by omega) hg, (hg.block _ h0 (hne _ (by omega))).trans H.b0, hh, (hg.block _ hh1 (hne _ (Nat.le_refl _))).trans H.b1⟩
  have hgr := H.gr
  exact ⟨hg.os.trans hgr.os, hg.tape.trans hgr.tape, hg.output.trans hgr.output, Nat.le_trans hgr.size hg.size, fun k hk hne' => (hg.block k (Nat.lt_of_lt_of_le hk hgr.size) (hne k (by omega))).trans (hgr.block k hk hne')⟩
theorem RkSt.cells (H : RkSt w0 w g h l p r b s) (hp : b.par.length = 32) :
    (w.cell? ⟨h, 32, none⟩ = some (.int .i64 b.vi) ∧ w.cell? ⟨h, 33, none⟩ = some (.int .i64 b.he) ∧ w.cell? ⟨h, 34, none⟩ = some (.int .i64 b.bo) ∧ w.cell? ⟨h, 35, none⟩ = some s) ∧ (∀ i, w.frozen? ⟨h, i, none⟩ = false) :=
  ⟨H.b1.cells hp, H.b1.free⟩
end
def ReadPost (w : World) (g : Nat) (l : List UInt8) (e : Ending) (w' : World) : Prop :=
  ∃ x, e = .returned (.tuple #[x, .bool (readIs l)]) ∧ BkNew w.heap.size w' x (readB l) ∧ (∃ q r, Rdr w' g l q r ∧ ∀ y, rdTxs l (rdHd l).p (rdHd l).r (rdHd l).n = some y → q = y.2.1 ∧ r = y.2.2) ∧ w.grownBy w' (some g)
theorem readPost_no {w w' : World} {g q : Nat} {r : Bool} {l : List UInt8} (hn : rdTxs l (rdHd l).p (rdHd l).r (rdHd l).n = none) (hr : Rdr w' g l q r) (hg : w.grownBy w' (some g)) :
    ReadPost w g l (.returned (.tuple #[.agg (bkc bkZ (.slice none 0 0)), .bool false])) w' := by
  refine ⟨_, by unfold readIs; rw [hn]; rfl, ?_, ⟨q, r, hr, fun y hy => by rw [hn] at hy; cases hy⟩, hg⟩
  unfold readB
  rw [hn]
  exact ⟨_, rfl, bkZ_par, Txs.nil w', fun h => absurd h (by simp [bkZ])⟩
theorem readPost_yes {w w' : World} {g q : Nat} {r : Bool} {l : List UInt8} {b : BkM} {s : Value} {ts : List TxM} (hn : rdTxs l (rdHd l).p (rdHd l).r (rdHd l).n = some (ts, q, r)) (hb : b = ⟨(rdHd l).par, (rdHd l).vi, (rdHd l).he, (rdHd l).bo, ts⟩)
    (hp : b.par.length = 32) (ht : OwnT w.heap.size w' s b.txs) (hr : Rdr w' g l q r) (hg : w.grownBy w' (some g)) : ReadPost w g l (.returned (.tuple #[.agg (bkc b s), .bool true])) w' := by
  refine ⟨_, by unfold readIs; rw [hn]; rfl, ?_, ⟨q, r, hr, fun y hy => by rw [hn] at hy; injection hy with hy; subst hy; exact ⟨rfl, rfl⟩⟩, hg⟩
  unfold readB
  rw [hn]
  simp only
  rw [← hb]
  exact ⟨_, rfl, hp, ht.txs, fun _ => ht⟩
theorem BkNew.fin {B g : Nat} {w w' : World} {x : Value} {b : BkM} {C : Array Value} (h : BkNew B w x b) (hb : Below w.heap.size w w') (hg : g < B) : BkV (setK w' g C) x b := by
  obtain ⟨s, rfl, hp, ht, ho⟩ := h
  refine ⟨s, rfl, hp, ?_⟩
  by_cases h0 : 0 < b.txs.length
  · exact (((ho h0).below hb).setK hg).txs
  · obtain ⟨A, c, e, h1, h2, h3⟩ := ht
    exact ⟨A, c, e, h1, h2, fun h => absurd h h0⟩
set_option maxHeartbeats 6400000 in
theorem bkRead_any (g : Nat) (l : List UInt8) (w : World) (hr : Rdr w g l 0 true) (hl : l.length ≤ 1000000) :
    Calls Tryz.prog 105 #[.pointer (some ⟨g, 0, none⟩)] w (ReadPost w g l) := by
  have HH := hid (fun p r W (h : Rdr W g l p r) => rhash_any g l p r W h (by omega))
  have HU := hid (fun p r W (h : Rdr W g l p r) m (h1 : -9223372036854775808 ≤ m) (h2 : m ≤ 9223372036854775807) => upto_any g l p r m W h (by omega) h1 h2)
  have HT : Hid (∀ p r W, Rdr W g l p r → Calls Tryz.prog 80 #[.pointer (some ⟨g, 0, none⟩)] W fun e w' => e = .returned (.tuple #[txv (rdTx l p r), .bool (rdIs l p r)]) ∧ (∃ p' r', Rdr w' g l p' r' ∧ (rdIs l p r = true → p' = (rdRaw l p r).2.1 ∧ r' = true)) ∧ W.grownBy w' (some g)) := hid (fun p r W h => txRead_ok g l p r W h hl)
  obtain ⟨Z, HZ⟩ : ∃ C : Array Value, Hid (bkc bkZ (.slice none 0 0) = C) := ⟨_, hid rfl⟩
  have HBZ : Hid (∀ W, buildK W = .ok (.value (.agg Z)) W) := hid (fun W => by rw [← HZ.out]; exact buildK_eq W)
  have HAL : Hid (∀ W, allocK W = .ok (.value (.pointer (some ⟨W.heap.size, 0, none⟩))) (W.alloc (.cells Z 34))) := hid (fun W => by rw [← HZ.out]; exact allocK_eq W)
  have HSZ : Hid (Z.size = 36) := hid (by rw [← HZ.out]; exact bkc_size _ bkZ_par)
  have HZ1 : Hid (Z.all (·.oneCell') = true) := hid (by rw [← HZ.out]; exact bkc_one (w := w) (b := bkZ) (Txs.nil w))
  have hb0 : Below w.heap.size w (w.alloc (.cells Z 34)) := (Below.refl _ _).alloc (Nat.le_refl _) _
  have hrz := heap_alloc_new w (.cells Z 34)
  have hrd0 := hr.below hb0
  have HGL := hid hr.lt
  have hal := HAL.out
  clear hr
  go_enter Tryz.func105, Tryz.ntmps105
  go_upto_region 1 with (fail)
  have HGR0 := hid (grown_of_below hb0 (some g))
  generalize (w.alloc (.cells Z 34)) = w0 at *
  clear hb0 hal
  go_wp2_with fail
  obtain ⟨h0, p0, r0, HA0⟩ : ∃ x q s, Hid (rdHash l 0 true = (x, q, s)) := ⟨_, _, _, hid rfl⟩
  have hh0 : h0.length = 32 := by have := rdHash_32 l 0 true; rw [HA0.out] at this; exact this
  have C := HH.out 0 true w0 hrd0
  rw [HA0.out] at C
  refine C.mono ?_
  clear C
  rintro e wh ⟨rfl, hrd, hgr⟩
  simp only at hrd
  have hzl := lt_of_block hrz
  have hrz1 := (hgr.block _ hzl (fun e => by injection e with e; have := HGL.out; omega)).trans hrz
  have hbh := buildKH_eq h0 hh0 wh
  obtain ⟨Y, HY⟩ : ∃ C : Array Value, Hid (bkc ⟨h0, 0, 0, 0, []⟩ (.slice none 0 0) = C) := ⟨_, hid rfl⟩
  have hy36 : Y.size = 36 := by rw [← HY.out]; exact bkc_size (b := ⟨h0, 0, 0, 0, []⟩) _ hh0
  have hy1 : Y.all (·.oneCell') = true := by rw [← HY.out]; exact bkc_one (w := w) (b := ⟨h0, 0, 0, 0, []⟩) (Txs.nil w)
  rw [HY.out] at hbh
  have hs1 : storeK (.pointer (some ⟨wh.heap.size, 0, none⟩)) (.agg Y) (wh.alloc (.cells Z 34)) = .ok .skip (wh.alloc (.cells Y 34)) := by
    rw [storeK_eq (heap_alloc_new wh _) HSZ.out hy36 hy1, setK_alloc]
  have hbn : Below wh.heap.size wh (wh.alloc (.cells Y 34)) := (Below.refl _ _).alloc (Nat.le_refl _) _
  have hst1 : RkSt w (wh.alloc (.cells Y 34)) g wh.heap.size l p0 r0 ⟨h0, 0, 0, 0, []⟩ (.slice none 0 0) := by
    refine ⟨HGL.out, (HGR0.out.trans hgr).trans (grown_of_below hbn _), hrd.below hbn, ?_, lt_of_block hrz1, ?_⟩
    · unfold BoxK
      rw [HZ.out]
      exact (hbn.block _ (lt_of_block hrz1)).trans hrz1
    · unfold BoxK
      rw [HY.out]
      exact heap_alloc_new wh _
  have HST := hid hst1
  have HH0 := hid hh0
  have hal := HAL.out
  clear hst1 hbn hrd hgr hrz hrz1 hzl hy36 hy1 hrd0 hh0
  go_upto_region 2 with (fail)
  generalize (wh.alloc (.cells Y 34)) = w1 at *
  clear hs1 hbh hal
  obtain ⟨⟨c0, c1, c2, c3⟩, g1⟩ := HST.out.cells HH0.out
  go_wp2_with fail
  obtain ⟨a1, p1, r1, HA1⟩ : ∃ x q s, Hid (rdUpto 1099511627776 l p0 r0 = (x, q, s)) := ⟨_, _, _, hid rfl⟩
  have hm1 : a1 ≤ 1099511627776 := by have := rdUpto_le (m := 1099511627776) (l := l) (p := p0) (r := r0); rw [show ((1099511627776 : Nat) : Int) = 1099511627776 from rfl, HA1.out] at this; exact this
  have C := HU.out p0 r0 _ (HST.out).rd 1099511627776 (by omega) (by omega)
  rw [HA1.out] at C
  refine C.mono ?_
  clear C
  rintro e w2 ⟨rfl, hrd, hgr⟩
  have hst : RkSt w w2 g wh.heap.size l p1 r1 ⟨h0, 0, 0, 0, []⟩ (.slice none 0 0) := (HST.out).grow hrd hgr
  clear hrd hgr HST c0 c1 c2 c3 g1
  obtain ⟨⟨c0, c1, c2, c3⟩, g1⟩ := hst.cells HH0.out
  have HST := hid hst
  clear hst
  go_wp2_with fail
  obtain ⟨a2, p2, r2, HA2⟩ : ∃ x q s, Hid (rdUpto 1099511627776 l p1 r1 = (x, q, s)) := ⟨_, _, _, hid rfl⟩
  have hm2 : a2 ≤ 1099511627776 := by have := rdUpto_le (m := 1099511627776) (l := l) (p := p1) (r := r1); rw [show ((1099511627776 : Nat) : Int) = 1099511627776 from rfl, HA2.out] at this; exact this
  have C := HU.out p1 r1 _ (HST.out.cell HH0.out (b' := ⟨h0, (a1 : Int), 0, 0, []⟩) (s' := .slice none 0 0) (v := .int .i64 (a1 : Int)) 0 rfl).rd 1099511627776 (by omega) (by omega)
  rw [HA2.out] at C
  refine C.mono ?_
  clear C
  rintro e w3 ⟨rfl, hrd, hgr⟩
  have hst : RkSt w w3 g wh.heap.size l p2 r2 ⟨h0, (a1 : Int), 0, 0, []⟩ (.slice none 0 0) := (HST.out.cell HH0.out (b' := ⟨h0, (a1 : Int), 0, 0, []⟩) (s' := .slice none 0 0) (v := .int .i64 (a1 : Int)) 0 rfl).grow hrd hgr
  clear hrd hgr HST c0 c1 c2 c3 g1
  obtain ⟨⟨c0, c1, c2, c3⟩, g1⟩ := hst.cells HH0.out
  have HST := hid hst
  clear hst
  go_wp2_with fail
  obtain ⟨a3, p3, r3, HA3⟩ : ∃ x q s, Hid (rdUpto 21 l p2 r2 = (x, q, s)) := ⟨_, _, _, hid rfl⟩
  have hm3 : a3 ≤ 21 := by have := rdUpto_le (m := 21) (l := l) (p := p2) (r := r2); rw [show ((21 : Nat) : Int) = 21 from rfl, HA3.out] at this; exact this
  have C := HU.out p2 r2 _ (HST.out.cell HH0.out (b' := ⟨h0, (a1 : Int), (a2 : Int), 0, []⟩) (s' := .slice none 0 0) (v := .int .i64 (a2 : Int)) 1 rfl).rd 21 (by omega) (by omega)
  rw [HA3.out] at C
  refine C.mono ?_
  clear C
  rintro e w4 ⟨rfl, hrd, hgr⟩
  have hst : RkSt w w4 g wh.heap.size l p3 r3 ⟨h0, (a1 : Int), (a2 : Int), 0, []⟩ (.slice none 0 0) := (HST.out.cell HH0.out (b' := ⟨h0, (a1 : Int), (a2 : Int), 0, []⟩) (s' := .slice none 0 0) (v := .int .i64 (a2 : Int)) 1 rfl).grow hrd hgr
  clear hrd hgr HST c0 c1 c2 c3 g1
  obtain ⟨⟨c0, c1, c2, c3⟩, g1⟩ := hst.cells HH0.out
  have HST := hid hst
  clear hst
  go_wp2_with fail
  obtain ⟨a4, p4, r4, HA4⟩ : ∃ x q s, Hid (rdUpto 8 l p3 r3 = (x, q, s)) := ⟨_, _, _, hid rfl⟩
  have hm4 : a4 ≤ 8 := by have := rdUpto_le (m := 8) (l := l) (p := p3) (r := r3); rw [show ((8 : Nat) : Int) = 8 from rfl, HA4.out] at this; exact this
  have C := HU.out p3 r3 _ (HST.out.cell HH0.out (b' := ⟨h0, (a1 : Int), (a2 : Int), (a3 : Int), []⟩) (s' := .slice none 0 0) (v := .int .i64 (a3 : Int)) 2 rfl).rd 8 (by omega) (by omega)
  rw [HA4.out] at C
  refine C.mono ?_
  clear C
  rintro e w5 ⟨rfl, hrd, hgr⟩
  have hst : RkSt w w5 g wh.heap.size l p4 r4 ⟨h0, (a1 : Int), (a2 : Int), (a3 : Int), []⟩ (.slice none 0 0) := (HST.out.cell HH0.out (b' := ⟨h0, (a1 : Int), (a2 : Int), (a3 : Int), []⟩) (s' := .slice none 0 0) (v := .int .i64 (a3 : Int)) 2 rfl).grow hrd hgr
  clear hrd hgr HST c0 c1 c2 c3 g1
  obtain ⟨⟨c0, c1, c2, c3⟩, g1⟩ := hst.cells HH0.out
  have HST := hid hst
  clear hst
  have HD : Hid (rdHd l = ⟨h0, (a1 : Int), (a2 : Int), (a3 : Int), a4, p4, r4⟩) := hid (by unfold rdHd; simp only [HA0.out, HA1.out, HA2.out, HA3.out, HA4.out])
  obtain ⟨hd, HHD⟩ : ∃ d : Nat, Hid (wh.heap.size = d) := ⟨_, hid rfl⟩
  rw [HHD.out] at c0 c1 c2 c3 g1 HST
  have hst5 := HST.out
  go_wp2_with fail
  rw [HHD.out]
  clear HH HU HA0 HA1 HA2 HA3 HA4 c0 c1 c2 c3 g1 HST HY
  go_loopw [21] (fun si wr => ∃ (i : Nat) (ts : List TxM) (q : Nat) (r : Bool) (s : Value), i ≤ a4 ∧ si = .int .i64 i ∧ Hid (rdTxs l p4 r4 i = some (ts, q, r)) ∧ RkSt w wr g hd l q r ⟨h0, (a1 : Int), (a2 : Int), (a3 : Int), ts⟩ s ∧ OwnT (hd + 1) wr s ts) (fun si _ => a4 - (intOf si).toNat)
  case atStart => exact ⟨0, [], p4, r4, .slice none 0 0, Nat.zero_le _, rfl, hid rfl, hst5, OwnT.nil _ _⟩
  case round =>
    clear hst5
    obtain ⟨i, ts, q, r, s, hi, rfl, HR, hst, how⟩ := hrel
    have HST := hid hst
    have HOW := hid how
    clear hst how
    by_cases hlt : i < a4
    · have hI : (i : Int) < (a4 : Int) := by omega
      go_wp2_with fail
      have C := HT.out q r _ HST.out.rd
      obtain ⟨t, HTT⟩ : ∃ x, Hid (rdTx l q r = x) := ⟨_, hid rfl⟩
      obtain ⟨ok, HOK⟩ : ∃ x, Hid (rdIs l q r = x) := ⟨_, hid rfl⟩
      rw [HTT.out, HOK.out] at C
      refine C.mono ?_
      clear C
      rintro e w7 ⟨rfl, ⟨q', r', hrd, hqr⟩, hgr⟩
      have HQR := hid hqr
      have hst7 := HST.out.grow hrd hgr
      have how7 := HOW.out.far hgr (by have := HST.out.lt; have := HST.out.hh; omega)
      unfold txv
      have htx := heap_alloc_new w7 (.cells #[.int .i64 t.fr, .int .i64 t.no, .int .i64 t.ki, .int .i64 t.to, .int .i64 t.am, .string (sb t.key), .string (sb t.val)] 36)
      have hb8 : Below w7.heap.size w7 (w7.alloc (.cells #[.int .i64 t.fr, .int .i64 t.no, .int .i64 t.ki, .int .i64 t.to, .int .i64 t.am, .string (sb t.key), .string (sb t.val)] 36)) := (Below.refl _ _).alloc (Nat.le_refl _) _
      have hst8 := hst7.below hb8
      have how8 := how7.below hb8
      clear hb8 hrd hqr hgr HST HOW hst7 how7
      go_upto_region 8 with (fail)
      generalize (w7.alloc (.cells #[.int .i64 t.fr, .int .i64 t.no, .int .i64 t.ki, .int .i64 t.to, .int .i64 t.am, .string (sb t.key), .string (sb t.val)] 36)) = w8 at *
      cases ok with
      | false =>
        have hbz := HBZ.out
        have hs0 : storeK (.pointer (some ⟨w.heap.size, 0, none⟩)) (.agg Z) w8 = .ok .skip w8 := by
          have hg := hst8.b0
          unfold BoxK at hg
          rw [HZ.out] at hg
          rw [storeK_eq hg HSZ.out HSZ.out HZ1.out, setK_self hg]
        have HST8 := hid hst8
        have HN : Hid (rdTxs l (rdHd l).p (rdHd l).r (rdHd l).n = none) := hid (by
          rw [HD.out]
          simp only
          rw [rdTxs_none (rdTxs_stop HR.out HOK.out) a4 (by omega)])
        clear hst8 how8 htx hi
        go_wp2_with fail
        have hg := HST8.out.b0
        unfold BoxK at hg
        refine bodyPost_ret (results_kb rfl _ _ _ _ _ _ rfl rfl hg (bkc_size _ bkZ_par)) rfl ?_
        exact readPost_no HN.out HST8.out.rd HST8.out.gr
      | true =>
        obtain ⟨⟨c0, c1, c2, c3⟩, g1⟩ := hst8.cells HH0.out
        have l8 := loadTx_eq htx rfl
        have HST8 := hid hst8
        have HOW8 := hid how8
        have hlen : ts.length + [t].length ≤ 1000000000 := by
          have := rdTxs_len HR.out
          simp only at this
          simp only [List.length_cons, List.length_nil]
          omega
        have HTO : Hid (Txs (w8.alloc (.cells #[.int .i64 t.fr, .int .i64 t.no, .int .i64 t.ki, .int .i64 t.to, .int .i64 t.am, .string (sb t.key), .string (sb t.val)] 36)) (.slice (some ⟨w8.heap.size, 0, none⟩) 1 1) [t]) := hid (txs_one w8 t #[.int .i64 t.fr, .int .i64 t.no, .int .i64 t.ki, .int .i64 t.to, .int .i64 t.am, .string (sb t.key), .string (sb t.val)] rfl)
        have HB9 : Hid (hd + 1 ≤ (w8.alloc (.cells #[.int .i64 t.fr, .int .i64 t.no, .int .i64 t.ki, .int .i64 t.to, .int .i64 t.am, .string (sb t.key), .string (sb t.val)] 36)).heap.size) := hid (by have := hst8.hlt; simp; omega)
        have HST9 : Hid (RkSt w (w8.alloc (.cells #[.int .i64 t.fr, .int .i64 t.no, .int .i64 t.ki, .int .i64 t.to, .int .i64 t.am, .string (sb t.key), .string (sb t.val)] 36)) g hd l q' r' ⟨h0, (a1 : Int), (a2 : Int), (a3 : Int), ts⟩ s) := hid (hst8.below ((Below.refl _ _).alloc (Nat.le_refl _) _))
        clear hst8 how8 htx
        go_wp2_with (at_builtin; refine wpList_append_tx rfl (.tmp 32) (.tmp 34) rfl rfl rfl (HOW8.out.alloc _) HTO.out hlen HB9.out ?_; intro v9 w9 ho9 hg9 hv9; have HST10 := hid (HST9.out.app (HOW8.out.alloc _) hg9); obtain ⟨⟨d0, d1, d2, d3⟩, f1⟩ := HST10.out.cells HH0.out; clear hg9 hv9; obtain ⟨A9, n9, c9, rfl⟩ := ho9.shape3)
        obtain ⟨HQ', HR'⟩ := HQR.out rfl
        go_roundw
        case rel =>
          refine ⟨i + 1, ts ++ [t], q', r', .slice A9 n9 c9, by omega, by go_num, hid ?_, ?_, ?_⟩
          · rw [rdTxs_succ HR.out HOK.out, HTT.out, HQ', HR']
          · exact HST10.out.cell HH0.out (b' := ⟨h0, (a1 : Int), (a2 : Int), (a3 : Int), ts ++ [t]⟩) (s' := .slice A9 n9 c9) (v := .slice A9 n9 c9) 3 rfl
          · exact ho9.set (by omega) _ _
        case measure => simp [intOf]; omega
    · have E4 := hid (show i = a4 by omega)
      have hI : ¬ (i : Int) < (a4 : Int) := by omega
      have HN : Hid (rdTxs l (rdHd l).p (rdHd l).r (rdHd l).n = some (ts, q, r)) := hid (by
        rw [HD.out]
        simp only
        rw [← E4.out]
        exact HR.out)
      obtain ⟨SA, SN, SC, rfl⟩ := HOW.out.shape3
      obtain ⟨b, HBE⟩ : ∃ b : BkM, Hid ((⟨h0, (a1 : Int), (a2 : Int), (a3 : Int), ts⟩ : BkM) = b) := ⟨_, hid rfl⟩
      have HBP : Hid (b.par.length = 32) := hid (by rw [← HBE.out]; exact HH0.out)
      have HBT : Hid (b.txs = ts) := hid (by rw [← HBE.out])
      have HBD : Hid (b = ⟨(rdHd l).par, (rdHd l).vi, (rdHd l).he, (rdHd l).bo, ts⟩) := hid (by rw [← HBE.out, HD.out])
      rw [HBE.out] at HST
      obtain ⟨CB, HCB⟩ : ∃ C : Array Value, Hid (bkc b (.slice SA SN SC) = C) := ⟨_, hid rfl⟩
      have hC36 : CB.size = 36 := by rw [← HCB.out]; exact bkc_size _ HBP.out
      have hC1 : CB.all (·.oneCell') = true := by rw [← HCB.out]; exact bkc_one (by rw [HBT.out]; exact HOW.out.txs)
      have l9 : loadK (.pointer (some ⟨hd, 0, none⟩)) wr = .ok (.value (.agg CB)) wr := by
        have := loadK_eq HST.out.b1 HBP.out
        rw [HCB.out] at this
        exact this
      have hs9 := storeK_eq (C := CB) HST.out.b0 (bkc_size _ bkZ_par) hC36 hC1
      have HG := hid (setK_same (C := CB) HST.out.b0)
      have HC36 := hid hC36
      have HOW3 := hid (HOW.out.setK (g := w.heap.size) (C := CB) (by have := HST.out.hh; omega))
      have HRD3 : Hid (Rdr (setK wr w.heap.size CB) g l q r) := hid (HST.out.rd.keep fun k hk hh => by
        refine setK_other wr CB ?_
        rcases hh with e | ⟨v, hv, hvb⟩
        · have := HST.out.lt
          omega
        · intro e
          subst e
          exact own_ne hv HST.out.b0 (by decide) hvb)
      have HGR3 : Hid (w.grownBy (setK wr w.heap.size CB) (some g)) := hid (by
        have hgr := HST.out.gr
        refine ⟨hgr.os, hgr.tape, hgr.output, by rw [setK_size]; exact hgr.size, fun k hk hne => (setK_other wr CB (by omega)).trans (hgr.block k hk hne)⟩)
      clear hC36 hC1 hi hlt
      go_wp2_with fail
      refine bodyPost_ret (results_kb rfl _ _ _ _ _ _ rfl rfl HG.out HC36.out) rfl ?_
      rw [← HCB.out] at HRD3 HGR3 HOW3 ⊢
      exact readPost_yes HN.out HBD.out HBP.out (by rw [HBT.out]; exact HOW3.out.more (by have := HST.out.hh; omega)) HRD3.out HGR3.out
end Go.Proofs.YtjemfmbmlmogcaaGreat
namespace Go.Proofs.YtjemfmbmlmogcaaGreat
set_option maxRecDepth 20000
open Go.RowKit
attribute [local go_sem ↓] exec_load_bk exec_build_bk exec_alloc_bk exec_store_bk
theorem getK_none {l : List UInt8} (h : rdTxs l (rdHd l).p (rdHd l).r (rdHd l).n = none) : getK l = none := by
  unfold getK
  rw [h]
theorem getK_done {l : List UInt8} {x : List TxM × Nat × Bool} (h : rdTxs l (rdHd l).p (rdHd l).r (rdHd l).n = some x) (hr : x.2.2 = true) (he : x.2.1 = l.length) (hm : mayK ⟨(rdHd l).par, (rdHd l).vi, (rdHd l).he, (rdHd l).bo, x.1⟩ = true) :
    getK l = some ⟨(rdHd l).par, (rdHd l).vi, (rdHd l).he, (rdHd l).bo, x.1⟩ := by
  have hb := getK_end h hr he
  unfold getK
  rw [h]
  simp only
  rw [if_pos ⟨hr, hm, hb⟩]
theorem getK_may {l : List UInt8} {x : List TxM × Nat × Bool} (h : rdTxs l (rdHd l).p (rdHd l).r (rdHd l).n = some x) (hm : mayK ⟨(rdHd l).par, (rdHd l).vi, (rdHd l).he, (rdHd l).bo, x.1⟩ = false) : getK l = none := by
  unfold getK
  rw [h]
  simp only
  rw [if_neg (fun h => by rw [hm] at h; exact absurd h.2.1 (by decide))]
theorem getK_not {l : List UInt8} {x : List TxM × Nat × Bool} (h : rdTxs l (rdHd l).p (rdHd l).r (rdHd l).n = some x) (hn : ¬ (x.2.2 = true ∧ x.2.1 = l.length)) : getK l = none := by
  cases hg : getK l with
  | none => rfl
  | some b =>
    exfalso
    apply hn
    have hp := getK_par hg
    obtain ⟨hm, hb⟩ := getK_so hg
    obtain ⟨e1, e2⟩ := hd_back hp hm
    rw [hb] at e1 e2
    rw [e1] at h
    simp only at h
    rw [rdTxs_back b.txs _ (mayK_all hm).1 e2 _ (Nat.le_refl _)] at h
    injection h with h
    subst h
    refine ⟨rfl, ?_⟩
    rw [← hb]
    unfold bytesK
    simp only [List.take_length, List.length_append]
    omega
theorem BkNew.finN {B B' g : Nat} {w w' : World} {x : Value} {b : BkM} {C : Array Value} (h : BkNew B w x b) (hb : Below w.heap.size w w') (hg : g < B) (hB : B' ≤ B) : BkNew B' (setK w' g C) x b := by
  obtain ⟨s, rfl, hp, ht, ho⟩ := h
  refine ⟨s, rfl, hp, ?_, fun h0 => (((ho h0).below hb).setK hg).more hB⟩
  by_cases h0 : 0 < b.txs.length
  · exact (((ho h0).below hb).setK hg).txs
  · obtain ⟨A, c, e, h1, h2, h3⟩ := ht
    exact ⟨A, c, e, h1, h2, fun h => absurd h h0⟩
set_option maxHeartbeats 6400000 in
theorem bkGet_any (v : Value) (l : List UInt8) (w : World) (hv : Byt w v l) (hl : l.length ≤ 1000000) :
    Calls Tryz.prog 76 #[v] w fun e w' => ∃ x, e = .returned (.tuple #[x, .int .i64 (if isK l = true then 0 else 2)]) ∧ BkNew w.heap.size w' x (gotK l) ∧ Below w.heap.size w w' := by
  obtain ⟨ok, HOK⟩ : ∃ q : Bool, Hid (readIs l = q) := ⟨_, hid rfl⟩
  have HRE : Hid (∀ g W, Rdr W g l 0 true → Calls Tryz.prog 105 #[.pointer (some ⟨g, 0, none⟩)] W fun e w' => ∃ x, e = .returned (.tuple #[x, .bool ok]) ∧ BkNew W.heap.size w' x (readB l) ∧ (∃ q r, Rdr w' g l q r ∧ ∀ y, rdTxs l (rdHd l).p (rdHd l).r (rdHd l).n = some y → q = y.2.1 ∧ r = y.2.2) ∧ W.grownBy w' (some g)) := hid (fun g W h => by
    have := bkRead_any g l W h hl
    unfold ReadPost at this
    rw [HOK.out] at this
    exact this)
  have HDN := hid (fun g p r W (h : Rdr W g l p r) => done_any g l p r W h (by omega))
  obtain ⟨er, HER⟩ : ∃ n : Int, Hid ((if isK l = true then (0 : Int) else 2) = n) := ⟨_, hid rfl⟩
  rw [HER.out]
  obtain ⟨Z, HZ⟩ : ∃ C : Array Value, Hid (bkc bkZ (.slice none 0 0) = C) := ⟨_, hid rfl⟩
  have HBZ : Hid (∀ W, buildK W = .ok (.value (.agg Z)) W) := hid (fun W => by rw [← HZ.out]; exact buildK_eq W)
  have HAL : Hid (∀ W, allocK W = .ok (.value (.pointer (some ⟨W.heap.size, 0, none⟩))) (W.alloc (.cells Z 34))) := hid (fun W => by rw [← HZ.out]; exact allocK_eq W)
  have HSZ : Hid (Z.size = 36) := hid (by rw [← HZ.out]; exact bkc_size _ bkZ_par)
  have HZ1 : Hid (Z.all (·.oneCell') = true) := hid (by rw [← HZ.out]; exact bkc_one (w := w) (b := bkZ) (Txs.nil w))
  have hb0 : Below w.heap.size w (w.alloc (.cells Z 34)) := (Below.refl _ _).alloc (Nat.le_refl _) _
  have hrz := heap_alloc_new w (.cells Z 34)
  have hv0 := hv.below hb0
  have hal := HAL.out
  have HNO : Hid (getK l = none → ∀ W : World, W.heap[w.heap.size]? = some (.cells Z 34 (0, 0)) → Below w.heap.size w W → er = 2 ∧ storeK (.pointer (some ⟨w.heap.size, 0, none⟩)) (.agg Z) W = .ok .skip W ∧ BkNew w.heap.size W (.agg Z) (gotK l)) := hid (fun hn W hg _ => by
    refine ⟨?_, by rw [storeK_eq hg HSZ.out HSZ.out HZ1.out, setK_self hg], ?_⟩
    · rw [← HER.out]
      unfold isK
      rw [hn]
      rfl
    · unfold gotK
      rw [hn]
      exact ⟨.slice none 0 0, by rw [← HZ.out]; rfl, bkZ_par, Txs.nil _, fun _ => OwnT.nil _ _⟩)
  clear hv
  go_enter Tryz.func76, Tryz.ntmps76
  go_upto_region 1 with (fail)
  generalize (w.alloc (.cells Z 34)) = w0 at *
  clear hal
  have hzl := lt_of_block hrz
  go_wp2_with fail
  refine (read_any v l w0 hv0 (by omega)).mono ?_
  rintro e w1 ⟨g, rfl, hgl, hrd, hb1⟩
  have hB1 := hb0.trans (hb1.mono hb0.size)
  have hr1 := (hb1.block _ hzl).trans hrz
  go_wp2_with fail
  refine (HRE.out g w1 hrd).mono ?_
  rintro e w2 ⟨x, rfl, hx2, ⟨q, r, hrd2, hqr⟩, hgr2⟩
  have hB2 : Below w.heap.size w w2 := hB1.grown hgr2 hB1.size (fun k hk => by injection hk with hk; have := hb0.size; omega)
  have hr2 := (hgr2.block _ (lt_of_block hr1) (fun e => by injection e with e; omega)).trans hr1
  have HQR := hid hqr
  have HN2 := hid (fun w' g C (h1 : Below w2.heap.size w2 w') (h2 : g < w1.heap.size) => hx2.finN (B' := w.heap.size) (C := C) h1 h2 (by have := hB1.size; omega))
  obtain ⟨X, rfl, hX36, hX1, hXs, hXl⟩ := told_var hx2.bk
  have HXL := hid hXl
  have HX1 := hid hX1
  have HX36 := hid hX36
  have hal := HAL.out
  have hs2 := hXs Z HSZ.out
  have hbn : Below w2.heap.size w2 (w2.alloc (.cells X 34)) := (Below.refl _ _).alloc (Nat.le_refl _) _
  have hB3 := hB2.trans (hbn.mono hB2.size)
  have HB23 := hid (fun W (h : Below (w2.alloc (.cells X 34)).heap.size (w2.alloc (.cells X 34)) W) => hbn.trans (h.mono hbn.size))
  have HL1 := hid (lt_of_block hr1)
  have hrd3 := hrd2.below hbn
  have hr3 := (hbn.block _ (lt_of_block hr2)).trans hr2
  clear hXs hXl hx2 hX36 hX1 hgr2 hqr hrd2 hb1 hrd hr1 hB1 hv0 hb0 hrz hbn hgl hr2 hB2
  go_upto_region 3 with (fail)
  generalize w2.alloc (.cells X 34) = w3 at *
  clear hs2 hal
  have HR3 := hid hr3
  have HB3 := hid hB3
  have HZL := hid hzl
  clear hr3 hB3 hzl
  cases ok with
  | false =>
    have HN : Hid (getK l = none) := hid (getK_none (by
      have := HOK.out
      unfold readIs at this
      simpa using this))
    obtain ⟨rfl, hs, hbv⟩ := HNO.out HN.out w3 HR3.out HB3.out
    have hbz := HBZ.out
    have HBV := hid hbv
    clear hbv
    go_wp2_with fail
    refine bodyPost_ret (results_kb rfl _ _ _ _ _ _ rfl rfl HR3.out HSZ.out) rfl ?_
    exact ⟨_, rfl, HBV.out, HB3.out⟩
  | true =>
    obtain ⟨y, HY⟩ : ∃ y, Hid (rdTxs l (rdHd l).p (rdHd l).r (rdHd l).n = some y) := by
      have := HOK.out
      unfold readIs at this
      exact Option.isSome_iff_exists.1 this
    obtain ⟨rfl, rfl⟩ := HQR.out y HY.out
    obtain ⟨d, HDD⟩ : ∃ d : Bool, Hid ((y.2.2 && decide (y.2.1 = l.length)) = d) := ⟨_, hid rfl⟩
    have HRB : Hid (readB l = ⟨(rdHd l).par, (rdHd l).vi, (rdHd l).he, (rdHd l).bo, y.1⟩) := hid (by unfold readB; rw [HY.out])
    go_wp2_with fail
    have C := HDN.out g _ _ w3 hrd3
    rw [HDD.out] at C
    refine C.mono ?_
    clear C
    rintro e w4 ⟨rfl, k4, rfl⟩
    have hbd : Below w3.heap.size w3 (w3.drewN k4) := below_drewN (Below.refl _ _) k4
    have hr4 : (w3.drewN k4).heap[w.heap.size]? = some (.cells Z 34 (0, 0)) := HR3.out
    have hB4 := below_drewN HB3.out k4
    have hx4 := HXL.out _ hbd
    have HR4 := hid hr4
    have HB4 := hid hB4
    have HBD := hid hbd
    clear hr4 hB4 hbd hrd3
    generalize w3.drewN k4 = w4 at *
    cases d with
    | false =>
      have HN : Hid (getK l = none) := hid (getK_not HY.out (fun h => by
        have := HDD.out
        rw [h.1, h.2, decide_eq_true rfl] at this
        cases this))
      obtain ⟨rfl, hs, hbv⟩ := HNO.out HN.out w4 HR4.out HB4.out
      have hbz := HBZ.out
      have HBV := hid hbv
      clear hbv hx4
      go_wp2_with fail
      refine bodyPost_ret (results_kb rfl _ _ _ _ _ _ rfl rfl HR4.out HSZ.out) rfl ?_
      exact ⟨_, rfl, HBV.out, HB4.out⟩
    | true =>
      have hd := HDD.out
      rw [Bool.and_eq_true] at hd
      have HD1 := hid hd.1
      have HD2 := hid (of_decide_eq_true hd.2)
      have HLK : Hid (lightK (readB l)) := hid (by
        rw [HRB.out]
        exact light_of_may (rdTxs_so HY.out HD1.out).2.1)
      obtain ⟨m, HM⟩ : ∃ m : Bool, Hid (mayK (readB l) = m) := ⟨_, hid rfl⟩
      have HCK := hid (bkCheck_ok _ (readB l) w4 hx4.2 HLK.out)
      rw [HM.out] at HCK
      have l4 := hx4.1
      clear hx4 hd
      go_wp2_with fail
      refine HCK.out.mono ?_
      rintro e w5 ⟨rfl, hb5⟩
      have HB5 := hid (HB4.out.trans (hb5.mono HB4.out.size))
      have HR5 := hid ((hb5.block _ (lt_of_block HR4.out)).trans HR4.out)
      have HB35 := hid (HBD.out.trans (hb5.mono HBD.out.size))
      have hx5 := HXL.out w5 HB35.out
      clear l4 hb5
      cases m with
      | false =>
        have HN : Hid (getK l = none) := hid (getK_may HY.out (by rw [← HRB.out]; exact HM.out))
        obtain ⟨rfl, hs, hbv⟩ := HNO.out HN.out w5 HR5.out HB5.out
        have hbz := HBZ.out
        have HBV := hid hbv
        clear hbv hx5
        go_wp2_with fail
        refine bodyPost_ret (results_kb rfl _ _ _ _ _ _ rfl rfl HR5.out HSZ.out) rfl ?_
        exact ⟨_, rfl, HBV.out, HB5.out⟩
      | true =>
        have hget := getK_done HY.out HD1.out HD2.out (by rw [← HRB.out]; exact HM.out)
        rw [← HRB.out] at hget
        have HGK : Hid (gotK l = readB l) := hid (by unfold gotK; rw [hget]; rfl)
        obtain rfl : er = 0 := by
          rw [← HER.out]
          unfold isK
          rw [hget]
          rfl
        have l5 := hx5.1
        have hs5 := storeK_eq (C := X) HR5.out HSZ.out HX36.out HX1.out
        have HG := hid (setK_same (C := X) HR5.out)
        have HB6 := hid (setK_below (C := X) HB5.out (Nat.le_refl _))
        have HRZ := hid (lt_of_block HR5.out)
        clear hx5 hget
        go_wp2_with fail
        refine bodyPost_ret (results_kb rfl _ _ _ _ _ _ rfl rfl HG.out HX36.out) rfl ?_
        refine ⟨_, rfl, ?_, HB6.out⟩
        rw [HGK.out]
        exact HN2.out _ _ _ (HB23.out _ HB35.out) HL1.out
end Go.Proofs.YtjemfmbmlmogcaaGreat
