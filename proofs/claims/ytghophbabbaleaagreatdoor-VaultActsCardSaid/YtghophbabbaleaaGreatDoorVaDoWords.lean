/-
  tithinglaw14.Do: what an act tells is as it must be. Printed with genvacts.py.
-/
import Derived.Test.YtghophbabbaleaaGreatDoorVaAct
import Derived.Test.YtghophbabbaleaaGreatDoorVaCodeTear
import Derived.Test.YtghophbabbaleaaGreatDoorVaRvCrash
import Derived.Test.YtghophbabbaleaaGreatDoorVaRvLoad
namespace Go.Proofs.YtghophbabbaleaaGreatDoor
set_option maxRecDepth 20000
open Go.RowKit
attribute [local go_sem ↓] exec_load_rv exec_alloc_rv exec_store_rv exec_load_se exec_alloc_se exec_store_se exec_eq_se
theorem tmod2 (m : Int) : m.tmod 2 = -1 ∨ m.tmod 2 = 0 ∨ m.tmod 2 = 1 := by
  rcases Int.le_total 0 m with h | h
  · rw [Int.tmod_eq_emod_of_nonneg h]
    omega
  · have e : m.tmod 2 = -((-m).tmod 2) := by rw [Int.neg_tmod]; omega
    rw [e, Int.tmod_eq_emod_of_nonneg (by omega)]
    omega
def VbOk (b a : Nat) (w : World) (v : Value) : Prop := ∃ lb : List UInt8, (∀ W, Turn b a w W → Byt W v lb) ∧ lb.length ≤ 1200
structure OldM where
  A0 : Option Addr
  c0 : Nat
  l0 : List UInt8
  A1 : Option Addr
  c1 : Nat
  l1 : List UInt8
def ocl (o : OldM) : List Value := [.slice o.A0 o.l0.length o.c0, .slice o.A1 o.l1.length o.c1]
def OldOk (w : World) (o : OldM) : Prop := Bys w (.slice o.A0 o.l0.length o.c0) o.l0 ∧ Bys w (.slice o.A1 o.l1.length o.c1) o.l1 ∧ o.l0.length ≤ 1000 ∧ o.l1.length ≤ 1000
def DoPost (b c a : Nat) (w : World) (e : Ending) (w' : World) : Prop := ∃ V' C', e = .returned (.tuple #[.agg C', .bool true]) ∧ Vlt w' b c a V' ∧ V'.Good ∧ RvC w' C' V' ∧ Turn b a w w'
structure DoSt (w W : World) (b c a g : Nat) (V Vr : VaM) (C AX : Array Value) : Prop where
  v : Vlt W b c a V
  r5 : W.heap[g]? = some (.cells C 32 (0, 0))
  r6 : W.heap[g + 1]? = some (.cells AX 42 (0, 0))
  r8 : W.heap[g + 2]? = some (.cells rvZ 32 (0, 0))
  rc : RvC W C Vr
  t : Turn b a w W
theorem rv_seven : ∀ T : TypeId, (T = 5 ∨ T = 78 ∨ T = 115 ∨ T = 132) → T ≠ 32 := by
  intro T h
  rcases h with rfl | rfl | rfl | rfl <;> decide
section
variable {w W W' : World} {b c a g : Nat} {V V' Vr : VaM} {C C' AX : Array Value}
theorem DoSt.below (h : DoSt w W b c a g V Vr C AX) (hb : Below W.heap.size W W') : DoSt w W' b c a g V Vr C AX :=
  ⟨h.v.below hb, (hb.block _ (lt_of_block h.r5)).trans h.r5, (hb.block _ (lt_of_block h.r6)).trans h.r6, (hb.block _ (lt_of_block h.r8)).trans h.r8, h.rc.below hb, h.t.then hb⟩
theorem DoSt.turn (h : DoSt w W b c a g V Vr C AX) (ht : Turn b a W W') (hv : Vlt W' b c a V') : DoSt w W' b c a g V' Vr C AX :=
  ⟨hv, h.v.other h.r5 (by decide) (by decide) ht, h.v.other h.r6 (by decide) (by decide) ht, h.v.other h.r8 (by decide) (by decide) ht, h.v.turnedR h.rc ht, h.t.trans ht⟩
theorem Turn.set (h : Turn b a w W) (hg : w.heap.size ≤ g) (i : Nat) (u : Value) : Turn b a w (W.setCell ⟨g, i, none⟩ u) :=
  ⟨h.os, h.tape, h.output, by simpa [World.setCell] using h.size, fun k h1 h2 h3 => (Below.heap_setCell _ _ _ _ (by show k ≠ g; omega)).trans (h.block k h1 h2 h3)⟩
theorem DoSt.set (h : DoSt w W b c a g V Vr C AX) (hg : w.heap.size ≤ g) {i : Nat} {u : Value} {Vr' : VaM} (hc : W.heap[g]? = some (.cells C 32 (0, 0)) → (W.setCell ⟨g, i, none⟩ u).heap[g]? = some (.cells C' 32 (0, 0))) (hr : RvC W C' Vr') : DoSt w (W.setCell ⟨g, i, none⟩ u) b c a g V Vr' C' AX := by
  have hs : W.heap.size ≤ (W.setCell ⟨g, i, none⟩ u).heap.size := by simp [World.setCell]
  refine ⟨h.v.kept hs (fun k D T hk hT => Below.heap_setCell _ _ _ _ (blk_ne hk h.r5 (rv_seven T hT))), hc h.r5, (Below.heap_setCell _ _ _ _ (by show g + 1 ≠ g; omega)).trans h.r6, (Below.heap_setCell _ _ _ _ (by show g + 2 ≠ g; omega)).trans h.r8, hr.away hs (fun k D hk => Below.heap_setCell _ _ _ _ (blk_ne hk h.r5 (by decide))), h.t.set hg i u⟩
theorem DoSt.fin (h : DoSt w W b c a g V Vr C AX) (hg : w.heap.size ≤ g) (hC : RvC W C' V) :
    storeRv (.pointer (some ⟨g + 2, 0, none⟩)) (.agg C') W = .ok .skip (setSe W (g + 2) C') ∧ (setSe W (g + 2) C').heap[g + 2]? = some (.cells C' 32 (0, 0)) ∧ Vlt (setSe W (g + 2) C') b c a V ∧ RvC (setSe W (g + 2) C') C' V ∧ Turn b a w (setSe W (g + 2) C') := by
  have hb := setSe_below (C := C') (Below.refl 0 W) (Nat.zero_le (g + 2))
  refine ⟨storeRv_eq h.r8 rfl hC.size hC.one, setSe_same h.r8, h.v.kept hb.size (fun k D T hk hT => setSe_other W _ (blk_ne hk h.r8 (rv_seven T hT))), hC.setSe h.r8, ?_⟩
  exact ⟨hb.os.trans h.t.os, hb.tape.trans h.t.tape, hb.output.trans h.t.output, Nat.le_trans h.t.size hb.size, fun k h1 h2 h3 => (setSe_other W _ (by omega)).trans (h.t.block k h1 h2 h3)⟩
theorem DoSt.ld5 (h : DoSt w W b c a g V Vr C AX) : loadRv (.pointer (some ⟨g, 0, none⟩)) W = .ok (.value (.agg C)) W := loadRv_row h.r5 h.rc.size
end
end Go.Proofs.YtghophbabbaleaaGreatDoor
