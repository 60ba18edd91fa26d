/-
  BkPure BkBytes Fc Sched Run: what each of them says stands at its head.
-/
import Derived.Test.YtjemfmbmlmogcaaGreatBs4
import Derived.BigQuiet
import Derived.Deep.DeepCutAuto
import Derived.Deep.QuietTactic
import Derived.LoopTactic
import Derived.Outline
import Derived.Test.YtjemfmbmlmogcaaGreatBs2
import Derived.Test.YtjemfmbmlmogcaaGreatBs1
import Derived.ChangeKeysEq
import Derived.Deep.MidRow
import Derived.Laws.CopyOwn
import Derived.Laws.Rows
import Derived.Laws.StructEq
import Derived.Laws.Tables
import Derived.BigRegion
import Derived.IntWalk
import Derived.Laws.Bits64
import Derived.Laws.BitsAllLaws
import Derived.RegionTactic
import Derived.StillTailTactics
import Derived.WalkLawsBesides
namespace Go.Proofs.YtjemfmbmlmogcaaGreat
set_option maxRecDepth 20000
structure BkM where
  par : List UInt8
  vi : Int
  he : Int
  bo : Int
  txs : List TxM
def bkZ : BkM := ⟨List.replicate 32 0, 0, 0, 0, []⟩
noncomputable def sameK (a b : BkM) : Bool := @decide (a = b) (Classical.propDecidable _)
theorem sameK_self (a : BkM) : sameK a a = true := by unfold sameK; exact @decide_eq_true _ (Classical.propDecidable _) rfl
theorem sameK_iff {a b : BkM} : sameK a b = true ↔ a = b := by unfold sameK; exact @decide_eq_true_iff _ (Classical.propDecidable _)
theorem sameK_no {a b : BkM} (h : a ≠ b) : sameK a b = false := by unfold sameK; exact @decide_eq_false _ (Classical.propDecidable _) h
def numsK (b : BkM) : Bool := decide (1 ≤ b.vi) && decide (b.vi ≤ 1099511627776) && decide (1 ≤ b.he) && decide (b.he ≤ 1099511627776) && decide (1 ≤ b.bo) && decide (b.bo ≤ 21) && decide (b.txs.length ≤ 8)
noncomputable def mayK (b : BkM) : Bool := sameK b bkZ || (b.txs.all mayT && numsK b)
def bytesK (b : BkM) : List UInt8 :=
  b.par ++ (dg b.vi.toNat ++ (dg b.he.toNat ++ (dg b.bo.toNat ++ (dg b.txs.length ++ (b.txs.map bytesT).flatten))))
theorem mayK_first : mayK bkZ = true := by unfold mayK; rw [sameK_self]; rfl
theorem mayK_of {b : BkM} (h : mayK b = true) : b = bkZ ∨ (b.txs.all mayT = true ∧ 1 ≤ b.vi ∧ b.vi ≤ 1099511627776 ∧ 1 ≤ b.he ∧ b.he ≤ 1099511627776 ∧ 1 ≤ b.bo ∧ b.bo ≤ 21 ∧ b.txs.length ≤ 8) := by
  unfold mayK numsK at h
  rw [Bool.or_eq_true] at h
  rcases h with h | h
  · exact .inl (sameK_iff.1 h)
  · right
    simp only [Bool.and_eq_true, decide_eq_true_eq] at h
    obtain ⟨h0, ⟨⟨⟨⟨⟨h1, h2⟩, h3⟩, h4⟩, h5⟩, h6⟩, h7⟩ := h
    exact ⟨h0, h1, h2, h3, h4, h5, h6, h7⟩
theorem mayK_all {b : BkM} (h : mayK b = true) : (∀ t ∈ b.txs, mayT t = true) ∧ 0 ≤ b.vi ∧ b.vi ≤ 1099511627776 ∧ 0 ≤ b.he ∧ b.he ≤ 1099511627776 ∧ 0 ≤ b.bo ∧ b.bo ≤ 21 ∧ b.txs.length ≤ 8 := by
  rcases mayK_of h with rfl | ⟨h0, h⟩
  · refine ⟨fun t ht => absurd ht (by simp [bkZ]), ?_⟩
    simp [bkZ]
  · exact ⟨fun t ht => List.all_eq_true.1 h0 t ht, by omega, by omega, by omega, by omega, by omega, by omega, h.2.2.2.2.2.2⟩
def rdTxs (l : List UInt8) (p : Nat) (r : Bool) : Nat → Option (List TxM × Nat × Bool)
  | 0 => some ([], p, r)
  | k + 1 => match rdTxs l p r k with
    | none => none
    | some x => if rdIs l x.2.1 x.2.2 = true then some (x.1 ++ [rdTx l x.2.1 x.2.2], (rdRaw l x.2.1 x.2.2).2.1, true) else none
theorem rdTxs_len {l : List UInt8} {p : Nat} {r : Bool} : ∀ {k : Nat} {x : List TxM × Nat × Bool}, rdTxs l p r k = some x → x.1.length = k
  | 0, x, h => by cases h; rfl
  | k + 1, x, h => by
    unfold rdTxs at h
    split at h
    · cases h
    · rename_i y hy
      have := rdTxs_len hy
      split at h
      · cases h
        simp [this]
      · cases h
theorem rdTxs_none {l : List UInt8} {p : Nat} {r : Bool} {k : Nat} (h : rdTxs l p r k = none) : ∀ m, k ≤ m → rdTxs l p r m = none
  | 0, hm => by obtain rfl : k = 0 := by omega
                exact h
  | m + 1, hm => by
    by_cases e : k = m + 1
    · rw [← e]; exact h
    · unfold rdTxs
      rw [rdTxs_none h m (by omega)]
theorem rdTxs_back {L r : List UInt8} : ∀ (ts : List TxM) (p : Nat), (∀ t ∈ ts, mayT t = true) → L.drop p = (ts.map bytesT).flatten ++ r →
    ∀ k, k ≤ ts.length → rdTxs L p true k = some (ts.take k, p + ((ts.take k).map bytesT).flatten.length, true) := by
  intro ts p hm h k
  induction k with
  | zero => intro _; simp [rdTxs]
  | succ k ih =>
    intro hk
    have hlt : k < ts.length := by omega
    unfold rdTxs
    rw [ih (by omega)]
    have e1 : ts = ts.take k ++ (ts[k] :: ts.drop (k + 1)) := by
      rw [← List.drop_eq_getElem_cons hlt, List.take_append_drop]
    have hd : L.drop (p + ((ts.take k).map bytesT).flatten.length) = bytesT ts[k] ++ (((ts.drop (k + 1)).map bytesT).flatten ++ r) := by
      have h' := h
      rw [e1] at h'
      simp only [List.map_append, List.map_cons, List.flatten_append, List.flatten_cons, List.append_assoc] at h'
      exact drop_more h'
    obtain ⟨i1, i2, i3⟩ := rdTx_back (hm _ (List.getElem_mem hlt)) hd
    simp only [i1, i2, i3, ↓reduceIte]
    rw [List.take_succ_eq_append_getElem hlt]
    simp only [List.map_append, List.map_cons, List.map_nil, List.flatten_append, List.flatten_cons, List.flatten_nil, List.append_nil, List.length_append, Nat.add_assoc]
theorem rdTxs_so {L : List UInt8} {p : Nat} {r : Bool} : ∀ {k : Nat} {x : List TxM × Nat × Bool}, rdTxs L p r k = some x →
    x.2.2 = true → r = true ∧ (∀ t ∈ x.1, mayT t = true) ∧ x.2.1 = p + (x.1.map bytesT).flatten.length ∧ ∃ y, L.drop p = (x.1.map bytesT).flatten ++ y := by
  intro k
  induction k with
  | zero => intro x h hr; cases h; exact ⟨hr, fun t ht => absurd ht (by simp), by simp, L.drop p, by simp⟩
  | succ k ih =>
    intro x h hr
    unfold rdTxs at h
    split at h
    · cases h
    · rename_i y hy
      split at h
      · rename_i hi
        cases h
        obtain ⟨j1, j2, j3, z, j4⟩ := rdTx_so hi
        obtain ⟨i1, i2, i3, u, i4⟩ := ih hy j1
        have hz := drop_more i4
        rw [← i3, j4] at hz
        refine ⟨i1, fun t ht => ?_, ?_, z, ?_⟩
        · rcases List.mem_append.1 ht with ht | ht
          · exact i2 t ht
          · rw [List.mem_singleton.1 ht]; exact j2
        · simp only [List.map_append, List.map_cons, List.map_nil, List.flatten_append, List.flatten_cons, List.flatten_nil, List.append_nil, List.length_append]
          omega
        · rw [i4, ← hz]
          simp
      · cases h
theorem rdHash_32 (l : List UInt8) (p : Nat) (r : Bool) : (rdHash l p r).1.length = 32 := by
  unfold rdHash
  split
  · simp
  · split
    · simp; omega
    · simp
theorem rdHash_so {L h : List UInt8} {p q : Nat} {r : Bool} (e : rdHash L p r = (h, q, true)) : r = true ∧ h.length = 32 ∧ q = p + h.length ∧ ∃ x, L.drop p = h ++ x := by
  have h32 := rdHash_32 L p r
  rw [e] at h32
  simp only at h32
  unfold rdHash at e
  split at e
  · cases e
  · rename_i hr
    split at e
    · cases e
      refine ⟨by simpa using hr, h32, by omega, L.drop (p + 32), ?_⟩
      rw [← List.drop_drop, List.take_append_drop]
    · cases e
structure HdM where
  par : List UInt8
  vi : Int
  he : Int
  bo : Int
  n : Nat
  p : Nat
  r : Bool
def rdHd (l : List UInt8) : HdM :=
  let a := rdHash l 0 true
  let b := rdUpto 1099511627776 l a.2.1 a.2.2
  let c := rdUpto 1099511627776 l b.2.1 b.2.2
  let d := rdUpto 21 l c.2.1 c.2.2
  let e := rdUpto 8 l d.2.1 d.2.2
  ⟨a.1, b.1, c.1, d.1, e.1, e.2.1, e.2.2⟩
noncomputable def getK (l : List UInt8) : Option BkM :=
  match rdTxs l (rdHd l).p (rdHd l).r (rdHd l).n with
  | none => none
  | some x => if x.2.2 = true ∧ mayK ⟨(rdHd l).par, (rdHd l).vi, (rdHd l).he, (rdHd l).bo, x.1⟩ = true ∧ bytesK ⟨(rdHd l).par, (rdHd l).vi, (rdHd l).he, (rdHd l).bo, x.1⟩ = l
    then some ⟨(rdHd l).par, (rdHd l).vi, (rdHd l).he, (rdHd l).bo, x.1⟩ else none
theorem getK_so {l : List UInt8} {b : BkM} (h : getK l = some b) : mayK b = true ∧ bytesK b = l := by
  unfold getK at h
  split at h
  · cases h
  · split at h
    · rename_i hc
      cases h
      exact hc.2
    · cases h
theorem hd_back {b : BkM} (hp : b.par.length = 32) (hm : mayK b = true) :
    rdHd (bytesK b) = ⟨b.par, b.vi, b.he, b.bo, b.txs.length, 32 + (dg b.vi.toNat).length + (dg b.he.toNat).length + (dg b.bo.toNat).length + (dg b.txs.length).length, true⟩ ∧
      (bytesK b).drop (32 + (dg b.vi.toNat).length + (dg b.he.toNat).length + (dg b.bo.toNat).length + (dg b.txs.length).length) = (b.txs.map bytesT).flatten ++ [] := by
  obtain ⟨_, h1, h2, h3, h4, h5, h6, h7⟩ := mayK_all hm
  obtain ⟨par, vi, he, bo, txs⟩ := b
  simp only at hp h1 h2 h3 h4 h5 h6 h7 ⊢
  obtain ⟨v, rfl⟩ := nat_of (i := vi) h1
  obtain ⟨e, rfl⟩ := nat_of (i := he) h3
  obtain ⟨o, rfl⟩ := nat_of (i := bo) h5
  have d0 : (bytesK ⟨par, (v : Int), (e : Int), (o : Int), txs⟩).drop 0 = par ++ (dg v ++ (dg e ++ (dg o ++ (dg txs.length ++ (txs.map bytesT).flatten)))) := by
    unfold bytesK
    simp only [List.drop_zero, Int.toNat_natCast]
  have d1 := drop_more d0
  rw [hp, Nat.zero_add] at d1
  have d2 := drop_more d1
  have d3 := drop_more d2
  have d4 := drop_more d3
  have d5 := drop_more d4
  unfold rdHd
  simp only [Int.toNat_natCast, rdHash_at d0 hp, Nat.zero_add, rdUpto_at (m := 1099511627776) d1 (by omega) (by omega), rdUpto_at (m := 1099511627776) d2 (by omega) (by omega),
    rdUpto_at (m := 21) d3 (by omega) (by omega), rdUpto_at (m := 8) d4 (by omega) (by omega)]
  refine ⟨trivial, ?_⟩
  rw [List.append_nil]
  exact d5
theorem getK_back {b : BkM} (hp : b.par.length = 32) (hm : mayK b = true) : getK (bytesK b) = some b := by
  obtain ⟨e1, e2⟩ := hd_back hp hm
  unfold getK
  rw [e1]
  simp only
  rw [rdTxs_back b.txs _ (mayK_all hm).1 e2 _ (Nat.le_refl _), List.take_of_length_le (Nat.le_refl _)]
  simp only
  rw [if_pos ⟨trivial, hm, trivial⟩]
theorem getK_par {l : List UInt8} {b : BkM} (h : getK l = some b) : b.par.length = 32 := by
  unfold getK at h
  split at h
  · cases h
  · split at h
    · cases h
      unfold rdHd
      simp only
      exact rdHash_32 l 0 true
    · cases h
theorem getK_end {l : List UInt8} {x : List TxM × Nat × Bool} (h : rdTxs l (rdHd l).p (rdHd l).r (rdHd l).n = some x) (hr : x.2.2 = true) (he : x.2.1 = l.length) :
    bytesK ⟨(rdHd l).par, (rdHd l).vi, (rdHd l).he, (rdHd l).bo, x.1⟩ = l := by
  have hlen := rdTxs_len h
  obtain ⟨i1, i2, i3, z, i4⟩ := rdTxs_so h hr
  rw [i3] at he
  unfold rdHd at i1 i4 he hlen ⊢
  obtain ⟨a, p1, r1, ha⟩ : ∃ x q s, rdHash l 0 true = (x, q, s) := ⟨_, _, _, rfl⟩
  obtain ⟨b, p2, r2, hb⟩ : ∃ x q s, rdUpto 1099511627776 l p1 r1 = (x, q, s) := ⟨_, _, _, rfl⟩
  obtain ⟨c, p3, r3, hc⟩ : ∃ x q s, rdUpto 1099511627776 l p2 r2 = (x, q, s) := ⟨_, _, _, rfl⟩
  obtain ⟨d, p4, r4, hd⟩ : ∃ x q s, rdUpto 21 l p3 r3 = (x, q, s) := ⟨_, _, _, rfl⟩
  obtain ⟨e, p5, r5, hf⟩ : ∃ x q s, rdUpto 8 l p4 r4 = (x, q, s) := ⟨_, _, _, rfl⟩
  simp only [ha, hb, hc, hd, hf] at i1 i4 he hlen ⊢
  subst i1
  obtain ⟨rfl, _, _, q5, y5, hy5⟩ := rdUpto_so hf
  obtain ⟨rfl, _, _, q4, y4, hy4⟩ := rdUpto_so hd
  obtain ⟨rfl, _, _, q3, y3, hy3⟩ := rdUpto_so hc
  obtain ⟨rfl, _, _, q2, y2, hy2⟩ := rdUpto_so hb
  obtain ⟨_, _, q1, y1, hy1⟩ := rdHash_so ha
  have z1 := drop_more hy1
  rw [← q1] at z1
  have z2 := drop_more hy2
  have z3 := drop_more hy3
  have z4 := drop_more hy4
  have z5 := drop_more hy5
  have z6 := drop_more i4
  rw [hy2] at z1
  rw [← q2, hy3] at z2
  rw [← q3, hy4] at z3
  rw [← q4, hy5] at z4
  rw [← q5, i4] at z5
  rw [he, List.drop_eq_nil_of_le (Nat.le_refl _)] at z6
  rw [List.drop_zero] at hy1
  unfold bytesK
  simp only [Int.toNat_natCast]
  rw [hy1, ← z1, ← z2, ← z3, ← z4, ← z5, ← z6, hlen]
  simp
end Go.Proofs.YtjemfmbmlmogcaaGreat
namespace Go.Proofs.YtjemfmbmlmogcaaGreat
set_option maxRecDepth 20000
open Go.RowKit
theorem byt_pair (w : World) (x y : Int) (c d : UInt8) (hx : x = (c.toNat : Int)) (hy : y = (d.toNat : Int)) : Byt (w.alloc (.cells #[.int .u8 x, .int .u8 y] 5)) (.slice (some ⟨w.heap.size, 0, none⟩) 2 2) [c, d] := by
  subst hx hy
  refine ⟨_, 2, rfl, Nat.le_refl _, by unfold maxLen; omega, fun _ => ⟨w.heap.size, 0, rfl, by simp, fun j hj => ?_⟩⟩
  rw [Nat.zero_add, cell_blk (heap_alloc_new w _) j]
  match j, hj with
  | 0, _ => rfl
  | 1, _ => rfl
set_option maxHeartbeats 1600000 in
theorem refBytes7_any (h : List UInt8) (w : World) (h32 : h.length = 32) :
    Calls Tryz.prog 40 #[.agg (hcells h)] w fun e w' => ∃ x, e = .returned x ∧ Own w.heap.size w' x h ∧ Below w.heap.size w w' := by
  have hr0 := heap_alloc_new w (.cells (hcells h) 23)
  have hb0 : Below w.heap.size w (w.alloc (.cells (hcells h) 23)) := (Below.refl _ _).alloc (Nat.le_refl _) _
  obtain ⟨C, HC⟩ : ∃ C : Array Value, Hid (hcells h = C) := ⟨_, hid rfl⟩
  rw [HC.out] at hr0 hb0 ⊢
  go_enter Tryz.func40, Tryz.ntmps40
  go_upto_region 1 with (fail)
  generalize (w.alloc (.cells C 23)) = w0 at *
  have hl0 := lt_of_block hr0
  have HR0 := hid hr0
  have hfo := fresh0_own w0
  have hfb : Below w0.heap.size w0 (w0.alloc (.cells #[] 5)) := (Below.refl _ _).alloc (Nat.le_refl _) _
  have hs0 := hb0.size
  clear hr0
  go_wp2_with fail
  go_loopw [3, 4] (fun out si wr => ∃ i : Nat, i ≤ 32 ∧ si = .int .i64 i ∧ Own w0.heap.size wr out (h.take i) ∧ Below w0.heap.size w0 wr) (fun _ si _ => 32 - (intOf si).toNat)
  case atStart => exact ⟨0, by omega, rfl, by rw [List.take_zero]; exact hfo, hfb⟩
  case round =>
    obtain ⟨i, hi, rfl, hown, hB⟩ := hrel
    have hlen : (h.take i).length ≤ 32 := by simp only [List.length_take]; omega
    by_cases hlt2 : i < 32
    · have hih : i < h.length := by omega
      have hc : wr.cell? ⟨w.heap.size, i, none⟩ = some (bcell h[i]) := by
        have := cell_blk ((hB.block _ hl0).trans HR0.out) i
        rw [this, ← HC.out]
        exact hcells_get h i hih
      obtain ⟨x, hx0, hx1, HX⟩ : ∃ x : Int, 0 ≤ x ∧ x ≤ 255 ∧ Hid (x = (h[i].toNat : Int)) := ⟨_, (byte_lt h[i]).1, (byte_lt h[i]).2, rfl⟩
      unfold bcell at hc
      rw [← HX.out] at hc
      have hi32 : (i : Int) < 32 := by omega
      have hbs := hB.size
      clear hfo hfb
      go_wp2_with (at_builtin; refine wpList_append_byt rfl (.tmp 10) (.tmp 14) rfl rfl rfl (hown.alloc _) (byt_one _ _ h[i] HX.out) (by rw [List.length_singleton]; omega) (by simp; omega) ?_; intro v7 w7 hown7 hg7 _)
      have hnew : h.take i ++ [h[i]] = h.take (i + 1) := by rw [← List.take_succ_eq_append_getElem hih]
      rw [hnew] at hown7
      have hB7 : Below w0.heap.size w0 w7 := (hB.alloc hbs _).grown hg7 (by simp; omega) (fun q hq => (World.ownsRow.lt hown q hq).1)
      clear hnew hg7
      go_roundw
      case rel => exact ⟨i + 1, by omega, by go_num, hown7, hB7⟩
      case measure => simp [intOf]; omega
    · obtain rfl : i = 32 := by omega
      go_wp2
      go_ret
      rw [List.take_of_length_le (by omega)] at hown
      exact ⟨_, rfl, hown.more (by omega), hb0.trans (hB.mono (by omega))⟩
end Go.Proofs.YtjemfmbmlmogcaaGreat
namespace Go.Proofs.YtjemfmbmlmogcaaGreat
set_option maxRecDepth 20000
open Go.RowKit
def wv (x : UInt32) : Int := (x.toNat : Int)
def wc (x : UInt32) : Value := .int .u32 (wv x)
def fcells (n : Nat) (f : Nat → Value) : Array Value := Array.ofFn (fun i : Fin n => f i.val)
theorem fcells_get {n i : Nat} (f : Nat → Value) (h : i < n) : (fcells n f)[i]? = some (f i) := by simp [fcells, h]
section
variable {w w' : World} {g n : Nat} {f f' : Nat → Value} {t : TypeId}
theorem setCells_size (g : Nat) : ∀ (vs : List Value) (o : Nat) (w : World), (w.setCells g o vs).heap.size = w.heap.size
  | [], _, _ => rfl
  | _ :: r, o, _ => (setCells_size g r (o + 1) _).trans (by simp [World.setCell])
theorem grown_setCell (w : World) (g i : Nat) (u : Value) : w.grownBy (w.setCell ⟨g, i, none⟩ u) (some g) :=
  ⟨rfl, rfl, rfl, by simp [World.setCell], fun k _ hk => heap_setCell_other w _ k u (fun e => hk (by rw [e]))⟩
theorem grown_setCells (g : Nat) : ∀ (vs : List Value) (o : Nat) (w : World), w.grownBy (w.setCells g o vs) (some g)
  | [], _, w => World.grownBy.refl w _
  | v :: r, o, w => (grown_setCell w g o v).trans (grown_setCells g r (o + 1) _)
theorem below_into {B : Nat} {a w w' : World} (hb : Below B a w) {g : Nat} (hg : B ≤ g) (h : w.grownBy w' (some g)) (hs : B ≤ w.heap.size) : Below B a w' := hb.grown h hs (fun k hk => by injection hk; omega)
end
structure ArrT (T E : TypeId) (n : Nat) (z : Value) : Prop where
  zero : (Tryz.prog.info? T).bind (·.zero) = some (.agg (fcells n fun _ => z))
  size : (Tryz.prog.info? T).map (·.size) = some n
  under : Tryz.prog.underlying T = some (.array n E)
  esize : (Tryz.prog.info? E).map (·.size) = some 1
  plain : Tryz.prog.plainKey E = true
  ecells : Tryz.prog.cellsOf E = 1
  zone : z.oneCell' = true
section
variable {T E : TypeId} {n : Nat} {z : Value}
theorem ArrT.run_zero (H : ArrT T E n z) (w : World) : (zeroValue T).run Tryz.prog w = .ok (.agg (fcells n fun _ => z)) w := by
  have h := H.zero
  cases hq : Tryz.prog.info? T with
  | none => rw [hq] at h; cases h
  | some i =>
    rw [hq] at h
    have hz : i.zero = some (.agg (fcells n fun _ => z)) := h
    simp [zeroValue, typeInfo, hq, hz]
theorem ArrT.run_esize (H : ArrT T E n z) (w : World) : (sizeOf E).run Tryz.prog w = .ok 1 w := by
  have h := H.esize
  cases hq : Tryz.prog.info? E with
  | none => rw [hq] at h; cases h
  | some i =>
    rw [hq] at h
    have hz : i.size = 1 := by simpa using h
    simp [sizeOf, typeInfo, hq, hz]
theorem ArrT.run_index (H : ArrT T E n z) (f : Nat → Value) {i : Nat} (hi : i < n) (w : World) : (Instr.index T (.agg (fcells n f)) (.int .i64 (i : Int))).run Tryz.prog w = .ok (f i) w := by
  have h := run_part_plain (P := Tryz.prog) w H.plain (fcells_get f hi)
  simp [Instr.index, asIntOf, Sem.run_bind, run_underlying H.under, H.run_esize, h, hi]
end
end Go.Proofs.YtjemfmbmlmogcaaGreat
namespace Go.Proofs.YtjemfmbmlmogcaaGreat
set_option maxRecDepth 20000
open Go.RowKit
def part (W : Nat → UInt32) (i j : Nat) : Value := if j < i then wc (W j) else wc 0
end Go.Proofs.YtjemfmbmlmogcaaGreat
namespace Go.Proofs.YtjemfmbmlmogcaaGreat
set_option maxRecDepth 20000
open Go.RowKit
def more (b : Nat → UInt8) (r : List UInt8) (q k j : Nat) : UInt8 := if q ≤ j ∧ j < q + k then r.getD (j - q) 0 else b j
end Go.Proofs.YtjemfmbmlmogcaaGreat
