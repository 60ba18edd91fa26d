/-
  VaultActs: both slots ahead of each act, as elements; what stands between two acts. Printed with genvwalk.py.
-/
import Derived.Test.YtghophbabbaleaaGreatDoorVaAwake
import Derived.Test.YtghophbabbaleaaGreatDoorVaDoWords
import Derived.Test.YtghophbabbaleaaGreatDoorVaLike
namespace Go.Proofs.YtghophbabbaleaaGreatDoor
set_option maxRecDepth 20000
open Go.RowKit
noncomputable def loadTw (v : Value) (w : World) : Result Next := Sem.run Tryz.prog (execOp (fun _ => v) { dst := none, op := .load 30 (.tmp 0), type := 0, pos := "", after := #[], guard := none }) w
theorem exec_load_tw (r : Operand → Value) (x : Operand) (dst : Option Tmp) (ty : TypeId) (pos : String) (after : Array Edge) (guard : Option (Nat × Bool)) (w : World) :
    Sem.run Tryz.prog (execOp r { dst := dst, op := .load 30 x, type := ty, pos := pos, after := after, guard := guard }) w = loadTw (r x) w := rfl
theorem size_tw : (Tryz.prog.info? 30).map (·.size) = some 2 := by kernel_rfl
theorem loadTw_mid {w : World} {g o : Nat} {x y : Value} (hr : w.rangeAt g o [x, y]) : loadTw (.pointer (some ⟨g, o, none⟩)) w = .ok (.value (.agg #[x, y])) w := by
  have := run_loadAt_mid (P := Tryz.prog) w g o 30 [x, y] _ hr under_two rfl (by rw [size_tw]; rfl)
  unfold loadTw execOp
  simp only [Sem.run_bind, this, Result.andThen_ok, Sem.run_pure]
theorem info_tw : (Tryz.prog.info? 30).map (fun i => (i.zero, i.size, decide (i.bytes ≤ 100000))) = some (some (.agg #[.slice none 0 0, .slice none 0 0]), 2, true) := by kernel_rfl
theorem eltO : Elt ocl (fun _ => True) 2 30 34 := by
  refine ⟨by omega, fun _ _ => rfl, fun a u hu => ?_, by kernel_rfl, by kernel_rfl, ?_⟩
  · unfold ocl at hu
    simp only [List.mem_cons, List.not_mem_nil, or_false] at hu
    rcases hu with rfl | rfl <;> rfl
  obtain ⟨i, hi, h⟩ := Option.map_eq_some_iff.1 info_tw
  injection h with h1 h
  injection h with h2 h3
  exact ⟨i, _, hi, h1, h2, of_decide_eq_true h3, rfl⟩
theorem OldOk.away {w w' : World} {o : OldM} (h : OldOk w o) (hs : w.heap.size ≤ w'.heap.size) (hk : ∀ (k : Nat) (C : Array Value), w.heap[k]? = some (Obj.cells C 5 (0, 0)) → w'.heap[k]? = w.heap[k]?) : OldOk w' o := ⟨h.1.away hs hk, h.2.1.away hs hk, h.2.2⟩
theorem own_blk {α : Type} {ec : α → List Value} {n B k : Nat} {T : TypeId} {w : World} {v : Value} {L : List α} (h : OwnE ec n T B w v L) (e : v.ownBlock = some k) : ∃ C, w.heap[k]? = some (.cells C T (0, 0)) := by
  rcases h.2 with ⟨rfl, _⟩ | ⟨g, cap, cur, rfl, _, hh, _⟩
  · cases e
  · obtain rfl : g = k := by injection e
    exact ⟨_, hh⟩
structure VxFix (w : World) (b a g9 : Nat) : Prop where
  b : w.heap.size ≤ b
  a : w.heap.size ≤ a
  h9 : w.heap.size ≤ g9
structure VxSt (w W : World) (b c a g9 : Nat) (V : VaM) (D C : Array Value) (x : Value) (Ls : List OldM) : Prop where
  v : Vlt W b c a V
  g : V.Good
  r9 : W.heap[g9]? = some (.cells D 32 (0, 0))
  ds : D.size = 8
  rc : RvC W C V
  ow : OwnE ocl 2 30 w.heap.size W x Ls
  ok : ∀ o ∈ Ls, OldOk W o
  bel : Below w.heap.size w W
section
variable {w W W' : World} {b c a g9 : Nat} {V V' : VaM} {D C C' : Array Value} {x x' : Value} {Ls : List OldM} {od : OldM}
theorem VxSt.below (h : VxSt w W b c a g9 V D C x Ls) (hb : Below W.heap.size W W') : VxSt w W' b c a g9 V D C x Ls :=
  ⟨h.v.below hb, h.g, (hb.block _ (lt_of_block h.r9)).trans h.r9, h.ds, h.rc.below hb, h.ow.below hb, fun o ho => (h.ok o ho).away hb.size (fun k _ hk => hb.block k (lt_of_block hk)), h.bel.trans (hb.mono h.bel.size)⟩
theorem VxSt.turn (h : VxSt w W b c a g9 V D C x Ls) (F : VxFix w b a g9) (ht : Turn b a W W') (hv : Vlt W' b c a V') (hg : V'.Good) (hC : RvC W' C' V') : VxSt w W' b c a g9 V' D C' x Ls := by
  refine ⟨hv, hg, h.v.other h.r9 (by decide) (by decide) ht, h.ds, hC, h.ow.keep (fun k hk e => ?_), fun o ho => ?_, ht.below h.bel F.b F.a h.bel.size⟩
  · obtain ⟨R, hR⟩ := own_blk h.ow e
    exact (h.v.other hR (by decide) (by decide) ht).trans hR.symm
  · have := h.ok o ho
    exact ⟨h.v.turnedB this.1 ht, h.v.turnedB this.2.1 ht, this.2.2⟩
theorem rv_eight : ∀ T : TypeId, (T = 5 ∨ T = 78 ∨ T = 115 ∨ T = 132) → T ≠ 30 := by
  intro T h
  rcases h with rfl | rfl | rfl | rfl <;> decide
theorem VxSt.grow (h : VxSt w W b c a g9 V D C x Ls) (hg : W.grownBy W' x.ownBlock) (ho : OwnE ocl 2 30 w.heap.size W' x' (Ls ++ [od])) (hok : OldOk W od) : VxSt w W' b c a g9 V D C x' (Ls ++ [od]) := by
  have hb : Below w.heap.size w W' := h.bel.grown hg h.bel.size (fun k hk => (World.ownsRow.lt h.ow k hk).1)
  have hk : ∀ (k : Nat) (C : Array Value) (T : TypeId), W.heap[k]? = some (Obj.cells C T (0, 0)) → T ≠ 30 → W'.heap[k]? = W.heap[k]? := fun k C T hk hT => hg.block k (lt_of_block hk) (fun e => by
    obtain ⟨R, hR⟩ := own_blk h.ow e.symm
    exact blk_ne hk hR hT rfl)
  refine ⟨h.v.kept hg.size (fun k C T h1 h2 => hk k C T h1 (rv_eight T h2)), h.g, (hk _ _ _ h.r9 (by decide)).trans h.r9, h.ds, h.rc.away hg.size (fun k C h1 => hk k C _ h1 (by decide)), ho, fun o hm => ?_, hb⟩
  rcases List.mem_append.1 hm with hm | hm
  · exact (h.ok o hm).away hg.size (fun k C h1 => hk k C _ h1 (by decide))
  · obtain rfl : o = od := by simpa using hm
    exact hok.away hg.size (fun k C h1 => hk k C _ h1 (by decide))
theorem VxSt.fin (h : VxSt w W b c a g9 V D C x Ls) (F : VxFix w b a g9) : VxSt w (setSe W g9 C) b c a g9 V C C x Ls := by
  have hb := setSe_below (C := C) (Below.refl 0 W) (Nat.zero_le g9)
  refine ⟨h.v.kept hb.size (fun k D T hk hT => setSe_other W _ (blk_ne hk h.r9 (rv_seven T hT))), h.g, setSe_same h.r9, h.rc.size, h.rc.setSe h.r9, h.ow.keep (fun k hk e => ?_), fun o ho => (h.ok o ho).away hb.size (fun k _ hk => setSe_other W _ (blk_ne hk h.r9 (by decide))), setSe_below h.bel F.h9⟩
  obtain ⟨R, hR⟩ := own_blk h.ow e
  exact setSe_other W _ (blk_ne hR h.r9 (by decide))
theorem VxSt.other (h : VxSt w W b c a g9 V D C x Ls) {gx : Nat} {Z X : Array Value} (hx : W.heap[gx]? = some (.cells Z 32 (0, 0))) (hn : gx ≠ g9) (hB : w.heap.size ≤ gx) : VxSt w (setSe W gx X) b c a g9 V D C x Ls := by
  have hb := setSe_below (C := X) (Below.refl 0 W) (Nat.zero_le gx)
  refine ⟨h.v.kept hb.size (fun k D T hk hT => setSe_other W _ (blk_ne hk hx (rv_seven T hT))), h.g, (setSe_other W _ hn.symm).trans h.r9, h.ds, h.rc.setSe hx, h.ow.keep (fun k hk e => ?_), fun o ho => (h.ok o ho).away hb.size (fun k _ hk => setSe_other W _ (blk_ne hk hx (by decide))), setSe_below h.bel hB⟩
  obtain ⟨R, hR⟩ := own_blk h.ow e
  exact setSe_other W _ (blk_ne hR hx (by decide))
theorem VxSt.st9 (h : VxSt w W b c a g9 V D C x Ls) : storeRv (.pointer (some ⟨g9, 0, none⟩)) (.agg C) W = .ok .skip (setSe W g9 C) := storeRv_eq h.r9 h.ds h.rc.size h.rc.one
theorem VxSt.ld9 (h : VxSt w W b c a g9 V C C x Ls) : loadRv (.pointer (some ⟨g9, 0, none⟩)) W = .ok (.value (.agg C)) W := loadRv_row h.r9 h.rc.size
theorem VxSt.two (h : VxSt w W b c a g9 V C C x Ls) : ∃ od : OldM, OldOk W od ∧ loadTw (.pointer (some ⟨g9, 1, none⟩)) W = .ok (.value (.agg (ocl od).toArray)) W := by
  obtain ⟨v0, v1, vh, wh, hCC, h0, h1, _, _⟩ := h.rc
  have hr := h.r9
  rw [hCC] at hr
  obtain ⟨A0, c0, rfl⟩ := h0.shape
  obtain ⟨A1, c1, rfl⟩ := h1.shape
  refine ⟨⟨A0, c0, V.s0, A1, c1, V.s1⟩, ⟨h0, h1, h.g.l0, h.g.l1⟩, loadTw_mid (fun j u hu => ?_)⟩
  have hc := rv_cell hr
  match j with
  | 0 => exact hc.2.1.trans hu
  | 1 => exact hc.2.2.1.trans hu
  | j + 2 => simp at hu
end
def VxRel (w W : World) (b c a g9 : Nat) (x : Value) (k : Nat) : Prop := ∃ V C Ls, VxSt w W b c a g9 V C C x Ls ∧ Ls.length = k
def VxMid (w W : World) (b c a g9 : Nat) (x : Value) (k : Nat) (s12 s13 : Value) : Prop := ∃ gx V D C Ls, s12 = .pointer (some ⟨gx, 0, none⟩) ∧ s13 = .bool true ∧ W.heap[gx]? = some (.cells C 32 (0, 0)) ∧ VxSt w W b c a g9 V D C x Ls ∧ Ls.length = k
theorem vx_meas {N k : Nat} (h : k < N) (hw : wrap64 ((k : Int) + 1) = (k : Int) + 1) : N - (intOf (Value.int IntKind.i64 (wrap64 ((k : Int) + 1)))).toNat < N - (intOf (Value.int IntKind.i64 (k : Int))).toNat := by
  rw [hw]
  simp only [intOf]
  omega
end Go.Proofs.YtghophbabbaleaaGreatDoor
