/-
  A vault in memory: its seven cells, its counter, its slots' bytes; what stays when only its blocks are turned.
-/
import Derived.Test.YtghophbabbaleaaGreatDoorBs14
import Derived.Test.YtghophbabbaleaaGreatDoorVaPure
namespace Go.Proofs.YtghophbabbaleaaGreatDoor
set_option maxRecDepth 20000
open Go.RowKit
theorem qnil_bytes : ∀ (w : World) (a : Option Addr) (n c : Nat), (binOp .eql 29 (.slice a n c) (.slice none 0 0)).run Tryz.prog w = .ok (.bool a.isNone) w := fun w a n c => Lib.run_eql_slice_nil w _ _ a n c 0 0 under_bytes
theorem under_two : Tryz.prog.underlying 30 = some (.array 2 29) := by kernel_rfl
theorem idx_two (x y : Value) (w : World) : (Instr.index 30 (.agg #[x, y]) (.int .i64 0)).run Tryz.prog w = .ok x w ∧ (Instr.index 30 (.agg #[x, y]) (.int .i64 1)).run Tryz.prog w = .ok y w := by
  constructor
  · simp [Instr.index, asIntOf, Sem.run_bind, run_underlying under_two, Go.part, isAgg, run_underlying under_bytes]
  · simp [Instr.index, asIntOf, Sem.run_bind, run_underlying under_two, Go.part, isAgg, run_underlying under_bytes]
structure Bys (w : World) (v : Value) (l : List UInt8) : Prop where
  byt : Byt w v l
  ty : l ≠ [] → ∀ k, v.ownBlock = some k → ∃ C, w.heap[k]? = some (.cells C 5 (0, 0))
theorem Bys.shape {w : World} {v : Value} {l : List UInt8} (h : Bys w v l) : ∃ A c, v = .slice A l.length c := h.byt.shape
theorem Bys.nil (w : World) : Bys w (.slice none 0 0) [] := ⟨Byt.nil w, fun h => absurd rfl h⟩
theorem Own.bys {w : World} {B : Nat} {v : Value} {l : List UInt8} (h : Own B w v l) : Bys w v l := by
  refine ⟨h.byt, fun _ k e => ?_⟩
  rcases h.2 with ⟨rfl, _⟩ | ⟨g, cap, cur, rfl, _, hh, _⟩
  · cases e
  · obtain rfl : g = k := by injection e
    exact ⟨_, hh⟩
theorem Bys.away {w w' : World} {v : Value} {l : List UInt8} (h : Bys w v l) (hs : w.heap.size ≤ w'.heap.size)
    (hk : ∀ (k : Nat) (C : Array Value), w.heap[k]? = some (Obj.cells C 5 (0, 0)) → w'.heap[k]? = w.heap[k]?) : Bys w' v l := by
  obtain ⟨⟨A, c, rfl, h1, h2, h3⟩, hn⟩ := h
  by_cases hl : l = []
  · subst hl
    exact ⟨⟨A, c, rfl, h1, h2, RdB.nil _ _⟩, fun h => absurd rfl h⟩
  · obtain ⟨b, off, rfl, hb, hc⟩ := h3 (List.length_pos_iff.2 hl)
    obtain ⟨C, hC⟩ := hn hl b rfl
    have e := hk b C hC
    refine ⟨⟨_, c, rfl, h1, h2, fun _ => ⟨b, off, rfl, by omega, fun j hj => (World.cell?_of_block e).trans (hc j hj)⟩⟩, fun h k hk2 => ?_⟩
    obtain rfl : b = k := by injection hk2
    exact ⟨C, e.trans hC⟩
theorem Bys.below {w w' : World} {v : Value} {l : List UInt8} (h : Bys w v l) (hb : Below w.heap.size w w') : Bys w' v l := h.away hb.size (fun k _ hk => hb.block k (lt_of_block hk))
theorem Bys.drewN {w : World} {v : Value} {l : List UInt8} (h : Bys w v l) (n : Nat) : Bys (w.drewN n) v l := ⟨h.byt.drewN n, h.ty⟩
theorem blk_ne {w : World} {b a : Nat} {C D : Array Value} {T U : TypeId} (h : w.heap[b]? = some (.cells C T (0, 0))) (k : w.heap[a]? = some (.cells D U (0, 0))) (hT : T ≠ U) : b ≠ a := by
  rintro rfl
  have := h.symm.trans k
  injection this with e
  injection e with _ e _
  exact hT e
def vac (i : Int) (v0 v1 : Value) (c : Nat) (left : Int) (dead : Bool) (vt : Value) : Array Value :=
  #[.int .i64 i, v0, v1, .pointer (some ⟨c, 0, none⟩), .int .i64 left, .bool dead, vt]
structure VltE (w : World) (b c a : Nat) (V : VaM) (v0 v1 vt : Value) : Prop where
  p : w.heap[b]? = some (.cells (vac V.i v0 v1 c V.left V.dead vt) 78 (0, 0))
  k : Ctr w c a V.n
  y0 : Bys w v0 V.s0
  y1 : Bys w v1 V.s1
  yt : Bys w vt V.torn
  nt : V.torn = [] → vt = .slice none 0 0
def Vlt (w : World) (b c a : Nat) (V : VaM) : Prop := ∃ v0 v1 vt, VltE w b c a V v0 v1 vt
structure Turn (b a : Nat) (w w' : World) : Prop where
  os : w'.os = w.os
  tape : w'.tape = w.tape
  output : w'.output = w.output
  size : w.heap.size ≤ w'.heap.size
  block : ∀ k, k < w.heap.size → k ≠ b → k ≠ a → w'.heap[k]? = w.heap[k]?
theorem Turn.refl (b a : Nat) (w : World) : Turn b a w w := ⟨rfl, rfl, rfl, Nat.le_refl _, fun _ _ _ _ => rfl⟩
theorem Turn.trans {b a : Nat} {x y z : World} (h : Turn b a x y) (k : Turn b a y z) : Turn b a x z :=
  ⟨k.os.trans h.os, k.tape.trans h.tape, k.output.trans h.output, Nat.le_trans h.size k.size, fun i h1 h2 h3 => (k.block i (Nat.lt_of_lt_of_le h1 h.size) h2 h3).trans (h.block i h1 h2 h3)⟩
theorem Turn.of {b a : Nat} {w w' : World} (h : Below w.heap.size w w') : Turn b a w w' := ⟨h.os, h.tape, h.output, h.size, fun k hk _ _ => h.block k hk⟩
theorem Turn.below {b a B : Nat} {w0 w w' : World} (h : Turn b a w w') (h0 : Below B w0 w) (hb : B ≤ b) (ha : B ≤ a) (hB : B ≤ w.heap.size) : Below B w0 w' :=
  h0.trans ⟨h.os, h.tape, h.output, h.size, fun k hk => h.block k (Nat.lt_of_lt_of_le hk hB) (by omega) (by omega)⟩
theorem Turn.setB {b a : Nat} {w w' : World} (h : Turn b a w w') (i : Nat) (u : Value) : Turn b a w (w'.setCell ⟨b, i, none⟩ u) :=
  h.trans ⟨rfl, rfl, rfl, by simp [World.setCell], fun k _ h2 _ => Below.heap_setCell _ _ _ _ h2⟩
theorem Turn.setA {b a : Nat} {w w' : World} (h : Turn b a w w') (i : Nat) (u : Value) : Turn b a w (w'.setCell ⟨a, i, none⟩ u) :=
  h.trans ⟨rfl, rfl, rfl, by simp [World.setCell], fun k _ _ h3 => Below.heap_setCell _ _ _ _ h3⟩
theorem Turn.then {b a : Nat} {w w' w2 : World} (h : Turn b a w w') (k : Below w'.heap.size w' w2) : Turn b a w w2 := h.trans (Turn.of k)
theorem byt_away {w w' : World} {v : Value} {l : List UInt8} (h : Byt w v l) (hs : w.heap.size ≤ w'.heap.size) (S : Nat → Prop)
    (hS : ∀ k, S k → ∀ i c, w.cell? ⟨k, i, none⟩ ≠ some (bcell c)) (hk : ∀ k, k < w.heap.size → ¬ S k → w'.heap[k]? = w.heap[k]?) : Byt w' v l := by
  obtain ⟨A, c, rfl, h1, h2, h3⟩ := h
  refine ⟨A, c, rfl, h1, h2, fun hl => ?_⟩
  obtain ⟨b, off, e, hb, hc⟩ := h3 hl
  refine ⟨b, off, e, by omega, fun j hj => ?_⟩
  have hn : ¬ S b := fun hs => hS b hs _ _ (hc 0 hl)
  exact (World.cell?_of_block (hk b hb hn)).trans (hc j hj)
section
variable {w w' : World} {b c a : Nat} {V : VaM} {v0 v1 vt : Value}
theorem VltE.nob (h : VltE w b c a V v0 v1 vt) (i : Nat) (x : UInt8) : w.cell? ⟨b, i, none⟩ ≠ some (bcell x) := by
  rw [coBlk_cell h.p]
  obtain ⟨A0, c0, r0⟩ := h.y0.shape
  obtain ⟨A1, c1, r1⟩ := h.y1.shape
  obtain ⟨A2, c2, r2⟩ := h.yt.shape
  subst r0 r1 r2
  unfold vac bcell
  match i with
  | 0 => simp
  | 1 => simp
  | 2 => simp
  | 3 => simp
  | 4 => simp
  | 5 => simp
  | 6 => simp
  | i + 7 => simp
theorem VltE.noa (h : VltE w b c a V v0 v1 vt) (i : Nat) (x : UInt8) : w.cell? ⟨a, i, none⟩ ≠ some (bcell x) := by
  rw [coBlk_cell h.k.q]
  unfold bcell
  match i with
  | 0 => simp
  | i + 1 => simp
theorem VltE.turned (h : VltE w b c a V v0 v1 vt) {v : Value} {l : List UInt8} (hv : Byt w v l) (ht : Turn b a w w') : Byt w' v l :=
  byt_away hv ht.size (fun k => k = b ∨ k = a) (fun k hk => by rcases hk with rfl | rfl; exact h.nob; exact h.noa) (fun k hk hn => ht.block k hk (fun e => hn (.inl e)) (fun e => hn (.inr e)))
theorem VltE.turnedS (h : VltE w b c a V v0 v1 vt) {v : Value} {l : List UInt8} (hv : Bys w v l) (ht : Turn b a w w') : Bys w' v l :=
  hv.away ht.size (fun k _ hk => ht.block k (lt_of_block hk) (blk_ne hk h.p (by decide)) (blk_ne hk h.k.q (by decide)))
theorem Vlt.turned (h : Vlt w b c a V) {v : Value} {l : List UInt8} (hv : Byt w v l) (ht : Turn b a w w') : Byt w' v l := by
  obtain ⟨v0, v1, vt, h⟩ := h
  exact h.turned hv ht
theorem VltE.lt (h : VltE w b c a V v0 v1 vt) : b < w.heap.size := lt_of_block h.p
theorem VltE.ltc (h : VltE w b c a V v0 v1 vt) : c < w.heap.size := lt_of_block h.k.p
theorem VltE.lta (h : VltE w b c a V v0 v1 vt) : a < w.heap.size := lt_of_block h.k.q
theorem ty_ne1 : 78 ≠ 115 := by decide
theorem ty_ne2 : 78 ≠ 132 := by decide
theorem ty_ne3 : 78 ≠ 40 := by decide
theorem ty_ne4 : 132 ≠ 40 := by decide
theorem VltE.bc (h : VltE w b c a V v0 v1 vt) : b ≠ c := blk_ne h.p h.k.p ty_ne1
theorem VltE.ba (h : VltE w b c a V v0 v1 vt) : b ≠ a := blk_ne h.p h.k.q ty_ne2
theorem VltE.box (h : VltE w b c a V v0 v1 vt) {g : Nat} {s : SeM} (hx : BoxSe w g s) (ht : Turn b a w w') : BoxSe w' g s := by
  have h1 : g ≠ b := (blk_ne h.p hx ty_ne3).symm
  have h2 : g ≠ a := (blk_ne h.k.q hx ty_ne4).symm
  exact (ht.block g (lt_of_block hx) h1 h2).trans hx
theorem Vlt.box (h : Vlt w b c a V) {g : Nat} {C : Array Value} (hx : w.heap[g]? = some (.cells C 40 (0, 0))) (ht : Turn b a w w') : w'.heap[g]? = some (.cells C 40 (0, 0)) := by
  obtain ⟨v0, v1, vt, h⟩ := h
  have h1 : g ≠ b := (blk_ne h.p hx ty_ne3).symm
  have h2 : g ≠ a := (blk_ne h.k.q hx ty_ne4).symm
  exact (ht.block g (lt_of_block hx) h1 h2).trans hx
theorem VltE.below (h : VltE w b c a V v0 v1 vt) (hb : Below w.heap.size w w') : VltE w' b c a V v0 v1 vt :=
  ⟨(hb.block b h.lt).trans h.p, h.k.below hb h.ltc h.lta, h.y0.below hb, h.y1.below hb, h.yt.below hb, h.nt⟩
theorem Vlt.below (h : Vlt w b c a V) (hb : Below w.heap.size w w') : Vlt w' b c a V := by
  obtain ⟨v0, v1, vt, h⟩ := h
  exact ⟨v0, v1, vt, h.below hb⟩
theorem VltE.alloc (h : VltE w b c a V v0 v1 vt) (o : Obj) : VltE (w.alloc o) b c a V v0 v1 vt := h.below ((Below.refl _ _).alloc (Nat.le_refl _) o)
theorem VltE.cells (h : VltE w b c a V v0 v1 vt) : w.cell? ⟨b, 0, none⟩ = some (.int .i64 V.i) ∧ w.cell? ⟨b, 1, none⟩ = some v0 ∧ w.cell? ⟨b, 2, none⟩ = some v1 ∧ w.cell? ⟨b, 3, none⟩ = some (.pointer (some ⟨c, 0, none⟩))
    ∧ w.cell? ⟨b, 4, none⟩ = some (.int .i64 V.left) ∧ w.cell? ⟨b, 5, none⟩ = some (.bool V.dead) ∧ w.cell? ⟨b, 6, none⟩ = some vt := by
  simp only [coBlk_cell h.p]
  exact ⟨rfl, rfl, rfl, rfl, rfl, rfl, rfl⟩
theorem VltE.free (h : VltE w b c a V v0 v1 vt) (i : Nat) : w.frozen? ⟨b, i, none⟩ = false := coBlk_free h.p i
theorem VltE.set (h : VltE w b c a V v0 v1 vt) {i : Nat} {u : Value} {V' : VaM} {u0 u1 ut : Value} (hc : (vac V.i v0 v1 c V.left V.dead vt).setIfInBounds i u = vac V'.i u0 u1 c V'.left V'.dead ut) (hn : V'.n = V.n)
    (h0 : Bys w u0 V'.s0) (h1 : Bys w u1 V'.s1) (h2 : Bys w ut V'.torn) (h3 : V'.torn = [] → ut = .slice none 0 0) : VltE (w.setCell ⟨b, i, none⟩ u) b c a V' u0 u1 ut := by
  have ht : Turn b a w (w.setCell ⟨b, i, none⟩ u) := (Turn.refl b a w).setB i u
  refine ⟨?_, ?_, h.turnedS h0 ht, h.turnedS h1 ht, h.turnedS h2 ht, h3⟩
  · rw [heapA_set w h.p, hc]
  · rw [hn]
    exact ⟨(Below.heap_setCell _ _ _ _ h.bc.symm).trans h.k.p, (Below.heap_setCell _ _ _ _ h.ba.symm).trans h.k.q⟩
theorem VltE.setLeft (h : VltE w b c a V v0 v1 vt) (x : Int) : VltE (w.setCell ⟨b, 4, none⟩ (.int .i64 x)) b c a { V with left := x } v0 v1 vt := h.set rfl rfl h.y0 h.y1 h.yt h.nt
theorem VltE.setDead (h : VltE w b c a V v0 v1 vt) (x : Bool) : VltE (w.setCell ⟨b, 5, none⟩ (.bool x)) b c a { V with dead := x } v0 v1 vt := h.set rfl rfl h.y0 h.y1 h.yt h.nt
theorem VltE.setTorn (h : VltE w b c a V v0 v1 vt) {x : Value} {l : List UInt8} (hx : Bys w x l) (hn : l = [] → x = .slice none 0 0) : VltE (w.setCell ⟨b, 6, none⟩ x) b c a { V with torn := l } v0 v1 x := h.set rfl rfl h.y0 h.y1 hx hn
theorem VltE.setSlot (h : VltE w b c a V v0 v1 vt) {k : Int} (hk : k = 0 ∨ k = 1) {x : Value} {l : List UInt8} (hx : Bys w x l) : Vlt (w.setCell ⟨b, 1 + k.toNat, none⟩ x) b c a (putV V k l) := by
  rcases hk with rfl | rfl
  · exact ⟨x, v1, vt, h.set rfl rfl hx h.y1 h.yt h.nt⟩
  · exact ⟨v0, x, vt, h.set rfl rfl h.y0 hx h.yt h.nt⟩
theorem VltE.setZero (h : VltE w b c a V v0 v1 vt) {x : Value} {l : List UInt8} (hx : Bys w x l) : VltE (w.setCell ⟨b, 1, none⟩ x) b c a (putV V 0 l) x v1 vt := h.set rfl rfl hx h.y1 h.yt h.nt
theorem VltE.setOne (h : VltE w b c a V v0 v1 vt) {x : Value} {l : List UInt8} (hx : Bys w x l) : VltE (w.setCell ⟨b, 2, none⟩ x) b c a (putV V 1 l) v0 x vt := h.set rfl rfl h.y0 hx h.yt h.nt
theorem VltE.up (h : VltE w b c a V v0 v1 vt) (m : Int) : VltE (w.setCell ⟨a, 0, none⟩ (.int .i64 m)) b c a { V with n := m } v0 v1 vt := by
  have ht : Turn b a w (w.setCell ⟨a, 0, none⟩ (.int .i64 m)) := (Turn.refl b a w).setA 0 _
  exact ⟨(Below.heap_setCell _ _ _ _ h.ba).trans h.p, h.k.set m, h.turnedS h.y0 ht, h.turnedS h.y1 ht, h.turnedS h.yt ht, h.nt⟩
end
theorem Vlt.setSe {w : World} {b c a g : Nat} {V : VaM} {C0 : Array Value} (h : Vlt w b c a V) (hg : w.heap[g]? = some (.cells C0 40 (0, 0))) (C : Array Value) : Vlt (setSe w g C) b c a V := by
  obtain ⟨v0, v1, vt, h⟩ := h
  have hs : w.heap.size ≤ (Go.Proofs.YtghophbabbaleaaGreatDoor.setSe w g C).heap.size := by unfold Go.Proofs.YtghophbabbaleaaGreatDoor.setSe; simp
  have hk : ∀ (k : Nat) (D : Array Value), w.heap[k]? = some (Obj.cells D 5 (0, 0)) → (Go.Proofs.YtghophbabbaleaaGreatDoor.setSe w g C).heap[k]? = w.heap[k]? := fun k _ h => setSe_other w C (blk_ne h hg (by decide))
  have h1 : b ≠ g := blk_ne h.p hg ty_ne3
  have h2 : a ≠ g := blk_ne h.k.q hg ty_ne4
  have h3 : c ≠ g := blk_ne h.k.p hg (by decide)
  exact ⟨v0, v1, vt, (setSe_other w C h1).trans h.p, ⟨(setSe_other w C h3).trans h.k.p, (setSe_other w C h2).trans h.k.q⟩,
    h.y0.away hs hk, h.y1.away hs hk, h.yt.away hs hk, h.nt⟩
theorem Vlt.kept {w w' : World} {b c a : Nat} {V : VaM} (h : Vlt w b c a V) (hs : w.heap.size ≤ w'.heap.size)
    (hk : ∀ (k : Nat) (C : Array Value) (T : TypeId), w.heap[k]? = some (Obj.cells C T (0, 0)) → T = 5 ∨ T = 78 ∨ T = 115 ∨ T = 132 → w'.heap[k]? = w.heap[k]?) : Vlt w' b c a V := by
  obtain ⟨v0, v1, vt, h⟩ := h
  have hu : ∀ (k : Nat) (C : Array Value), w.heap[k]? = some (Obj.cells C 5 (0, 0)) → w'.heap[k]? = w.heap[k]? := fun k C h => hk k C _ h (.inl rfl)
  exact ⟨v0, v1, vt, (hk _ _ _ h.p (.inr (.inl rfl))).trans h.p, ⟨(hk _ _ _ h.k.p (.inr (.inr (.inl rfl)))).trans h.k.p, (hk _ _ _ h.k.q (.inr (.inr (.inr rfl)))).trans h.k.q⟩,
    h.y0.away hs hu, h.y1.away hs hu, h.yt.away hs hu, h.nt⟩
theorem Vlt.other {w w' : World} {b c a g : Nat} {V : VaM} {C : Array Value} {T : TypeId} (h : Vlt w b c a V) (hx : w.heap[g]? = some (.cells C T (0, 0))) (h1 : 78 ≠ T) (h2 : 132 ≠ T) (ht : Turn b a w w') : w'.heap[g]? = some (.cells C T (0, 0)) := by
  obtain ⟨v0, v1, vt, h⟩ := h
  exact (ht.block g (lt_of_block hx) (blk_ne h.p hx h1).symm (blk_ne h.k.q hx h2).symm).trans hx
def NoVlt (w : World) (v : Value) : Prop := v = .pointer none ∨ ∃ b, v = .pointer (some ⟨b, 0, none⟩) ∧ w.heap[b]? = some (.cells #[.int .i64 0, .slice none 0 0, .slice none 0 0, .pointer none, .int .i64 0, .bool false, .slice none 0 0] 78 (0, 0))
theorem NoVlt.below {w w' : World} {v : Value} (h : NoVlt w v) (hb : Below w.heap.size w w') : NoVlt w' v := by
  rcases h with h | ⟨b, h, hc⟩
  · exact .inl h
  · exact .inr ⟨b, h, (hb.block b (lt_of_block hc)).trans hc⟩
end Go.Proofs.YtghophbabbaleaaGreatDoor
