/-
  Consts MacSpec Zeros BkHash BkRd BkGet: what each of them says stands at its head.
-/
import Derived.Lib.SlBytesConst
import Derived.Test.YtjemfmbmlmogcaaGreatBs1
import Derived.Deep.RegionWith
import Derived.Test.YtjemfmbmlmogcaaGreatBs6
import Derived.Lib.AppendZerosOnto
import Derived.ArgAppend
import Derived.Test.YtjemfmbmlmogcaaGreatBs7
import Derived.Test.YtjemfmbmlmogcaaGreatBs5
namespace Go.Proofs.YtjemfmbmlmogcaaGreat
set_option maxRecDepth 20000
open Go.RowKit
theorem heap1 (w : World) (o o2 : Obj) : ((w.alloc o).alloc o2).heap[w.heap.size]? = some o := by
  rw [Below.heap_alloc _ _ _ (by simp)]
  exact heap_alloc_new w o
theorem heap2 (w : World) (o o2 : Obj) : ((w.alloc o).alloc o2).heap[w.heap.size + 1]? = some o2 := by
  have := heap_alloc_new (w.alloc o) o2
  rw [show (w.alloc o).heap.size = w.heap.size + 1 from by simp] at this
  exact this
end Go.Proofs.YtjemfmbmlmogcaaGreat
namespace Go.Proofs.YtjemfmbmlmogcaaGreat
set_option maxRecDepth 20000
def hl (n : Nat) (f : Nat → UInt8) : List UInt8 := (List.range n).map f
end Go.Proofs.YtjemfmbmlmogcaaGreat
namespace Go.Proofs.YtjemfmbmlmogcaaGreat
set_option maxRecDepth 20000
open Go.RowKit
theorem zeros_cells (v : Value) (n : Nat) : Builtin.zeroCells #[v] n = (List.replicate n v).toArray := by
  apply Array.ext
  · simp [Builtin.zeroCells]
  · intro i h1 h2
    simp [Builtin.zeroCells, Nat.mod_one]
theorem bcells_zeros (n : Nat) : bcells (List.replicate n 0) = List.replicate n (.int .u8 0) := by
  simp [bcells, bcell]
theorem wrap0 : IntKind.i64.wrap 0 = 0 := rfl
theorem under_int : Tryz.prog.underlying 3 = some (.int .i64) := by kernel_rfl
theorem run_append_zeros_byt {w : World} {B : Nat} {v : Value} {l : List UInt8} (k : Nat) (ty : TypeId) (hv : Own B w v l) (hs : l.length + k ≤ 140737488355328) (hB : B ≤ w.heap.size) :
    ∃ v' w', (Builtin.append_ #[41, 3] ty #[v, .int .i64 (k : Int)]).run Tryz.prog w = .ok v' w' ∧ Own B w' v' (l ++ List.replicate k 0) ∧ w.grownBy w' v.ownBlock ∧ (v'.ownBlock = v.ownBlock ∨ v'.ownBlock = some w.heap.size) := by
  obtain ⟨i0, hi, hz0, hz1, hz2⟩ := info_parts info_u8
  have hlk : (l ++ List.replicate k 0).length = l.length + k := by simp
  have hw : IntKind.i64.wrap (k : Int) = k := by rw [IntKind.wrap_i64]; omega
  have hneg : ¬ ((k : Int) < 0) := by omega
  have h48k : ¬ (281474976710656 < (k : Int)) := by omega
  have fresh : ∀ (old k : Nat) {l : List UInt8}, l.length + k ≤ 140737488355328 → 0 < k → ∀ row : Option Nat,
      Own B (w.drew.alloc (.cells ((bcells l).toArray ++ Builtin.zeroCells (Value.int IntKind.u8 0).cells k ++ Builtin.zeroCells (Value.int IntKind.u8 0).cells (grownCap w (l.length + k) old 5 - (l.length + k))) 5)) (.slice (some ⟨w.heap.size, 0, none⟩) (l.length + k) (grownCap w (l.length + k) old 5)) (l ++ List.replicate k 0) ∧
      w.grownBy (w.drew.alloc (.cells ((bcells l).toArray ++ Builtin.zeroCells (Value.int IntKind.u8 0).cells k ++ Builtin.zeroCells (Value.int IntKind.u8 0).cells (grownCap w (l.length + k) old 5 - (l.length + k))) 5)) row := by
    intro old k l hlk2 hk row
    have hge := grownCap_ge w (l.length + k) old 5
    have hcm : grownCap w (l.length + k) old 5 ≤ maxLen := grownCap_le_maxLen w (l.length + k) old 5 (by unfold maxLen; omega)
    have hz : (Value.int IntKind.u8 0).cells = #[.int .u8 0] := rfl
    have hl2 : (l ++ List.replicate k 0 : List UInt8).length = l.length + k := by simp
    refine ⟨⟨by rw [bcells_length, Nat.mul_one], .inr ⟨w.heap.size, _, _, by rw [hl2], hB, heap_alloc_new w.drew _, by rw [hl2]; exact hge, hcm, ?_, ?_⟩⟩, ⟨rfl, rfl, rfl, by simp, fun q hq _ => Below.heap_alloc w.drew _ q hq⟩⟩
    · rw [hz, zeros_cells, zeros_cells]
      simp [bcells]
      omega
    · rw [hz, zeros_cells, zeros_cells, hl2, bcells_append, bcells_zeros]
      simp only [Array.toList_append, Nat.mul_one]
      apply List.take_left'
      simp [bcells]
  rcases hv.2 with ⟨rfl, h0⟩ | ⟨g, cap, cur, rfl, hbg, hg, hnc, hcm, hcs, htake⟩
  · have hl : l = [] := List.eq_nil_of_length_eq_zero h0
    subst hl
    by_cases hk : k = 0
    · subst hk
      refine ⟨.slice none 0 0, w, ?_, Own.nil B w, World.grownBy.refl w _, .inl rfl⟩
      simp [Builtin.append_, run_underlying under_bytes, run_underlying under_int, sizeOf, typeInfo, hi, asInt, asIntOf, wrap0]
    · have hr := Lib.run_append_nil_zeros (P := Tryz.prog) w 41 3 ty 5 i0 (.int .u8 0) .i64 .i64 under_bytes under_int hi hz0 k (by omega) (by omega) (by omega) (by rw [hz2]; omega)
      obtain ⟨h1, h2⟩ := fresh 0 k (by simp; omega) (by omega) (Value.slice none 0 0).ownBlock (l := [])
      have e : (bcells ([] : List UInt8)).toArray = #[] := rfl
      rw [e] at h1 h2
      simp only [List.length_nil, Nat.zero_add, Array.empty_append] at h1 h2
      exact ⟨_, _, hr, h1, h2, .inr rfl⟩
  · by_cases hk : k = 0
    · subst hk
      refine ⟨_, w, ?_, by rw [List.replicate_zero, List.append_nil]; exact hv, World.grownBy.refl w _, .inl rfl⟩
      simp [Builtin.append_, run_underlying under_bytes, run_underlying under_int, sizeOf, typeInfo, hi, asInt, asIntOf, wrap0, hnc, storeCells]
    · by_cases hroom : l.length + k ≤ cap
      · have hfit : l.length + 0 + (List.replicate k (Value.int IntKind.u8 0)).length ≤ cur.size := by
          rw [List.length_replicate, hcs]
          omega
        have hst := run_storeCells_at Tryz.prog g l.length 5 (List.replicate k (Value.int IntKind.u8 0)) 0 cur w hg hfit (fun u hu => by rw [List.eq_of_mem_replicate hu]; rfl)
        simp only [Nat.add_zero] at hst
        rw [List.length_replicate] at hst
        obtain ⟨N, hN⟩ : ∃ N : Array Value, (cur.toList.take l.length ++ List.replicate k (Value.int IntKind.u8 0) ++ cur.toList.drop (l.length + k)).toArray = N := ⟨_, rfl⟩
        rw [hN] at hst
        have hrun : (Builtin.append_ #[41, 3] ty #[.slice (some ⟨g, 0, none⟩) l.length cap, .int .i64 (k : Int)]).run Tryz.prog w = .ok (.slice (some ⟨g, 0, none⟩) (l.length + k) cap) (w.setRow g N) := by
          simp [Builtin.append_, run_underlying under_bytes, run_underlying under_int, sizeOf, typeInfo, zeroValue, hi, hz0, hz1, hz2, asInt, asIntOf, hw, hneg, hk, h48k, hroom, Value.cells, zeros_cells, Addr.add_lit, hst]
        refine ⟨_, _, hrun, ⟨by rw [bcells_length, Nat.mul_one], .inr ⟨g, cap, N, by rw [hlk], hbg, setRow_heap w g cur N 5 _ hg, by rw [hlk]; exact hroom, hcm, ?_, ?_⟩⟩, ⟨rfl, rfl, rfl, by simp, fun q _ hq => setRow_other w g q _ (fun e => hq (by simp [Value.ownBlock, e]))⟩, .inl rfl⟩
        · rw [← hN]
          simp
          omega
        · have ht : cur.toList.take l.length = bcells l := by rw [← htake, Nat.mul_one]
          rw [← hN, hlk, bcells_append, bcells_zeros, ht]
          simp only [Nat.mul_one]
          apply List.take_left'
          simp [bcells]
      · have hold : (Builtin.firstCells i0.size l.length (.slice (some ⟨g, 0, none⟩) l.length cap)).run Tryz.prog w.drew = .ok (bcells l).toArray w.drew := by
          rw [hz1]
          exact run_firstCells_some (P := Tryz.prog) w.drew 1 l.length ⟨g, 0, none⟩ l.length cap (bcells l) (by simp [bcells]) (fun j u hu => World.ownsRow.cells hv (g := g) rfl j u hu)
        have hr := Lib.run_append_grow_zeros (P := Tryz.prog) w 41 3 ty 5 i0 (.int .u8 0) .i64 .i64 under_bytes under_int hi hz0 (some ⟨g, 0, none⟩) l.length cap (bcells l) hold k (by omega) (by omega) (by omega) (by omega) (by rw [hz2]; omega) (by rw [hz2]; exact growslice_fits (by omega) (by omega))
        obtain ⟨h1, h2⟩ := fresh cap k (by omega) (by omega) (Value.slice (some ⟨g, 0, none⟩) l.length cap).ownBlock (l := l)
        exact ⟨_, _, hr, h1, h2, .inr rfl⟩
end Go.Proofs.YtjemfmbmlmogcaaGreat
namespace Go.Proofs.YtjemfmbmlmogcaaGreat
set_option maxRecDepth 20000
open Go.RowKit
attribute [local go_sem ↓] exec_load_bk
theorem bytesK_len {b : BkM} (hp : b.par.length = 32) (hm : mayK b = true) : (bytesK b).length ≤ 3000 := by
  obtain ⟨hall, h1, h2, h3, h4, h5, h6, h7⟩ := mayK_all hm
  have hf := flat_len b.txs hall
  have e1 := dg_len10 (n := b.vi.toNat) (by omega)
  have e2 := dg_len10 (n := b.he.toNat) (by omega)
  have e3 := dg_len10 (n := b.bo.toNat) (by omega)
  have e4 := dg_len10 (n := b.txs.length) (by omega)
  unfold bytesK
  simp only [List.length_append]
  omega
end Go.Proofs.YtjemfmbmlmogcaaGreat
namespace Go.Proofs.YtjemfmbmlmogcaaGreat
set_option maxRecDepth 20000
open Go.RowKit
theorem bkc_par (b : BkM) (s : Value) (h : List UInt8) (hp : b.par.length = h.length) : putAt (bkc b s) 0 (bcells h) = bkc { b with par := h } s := by
  have := putAt_mid (bcells h) [] (bcells b.par) [.int .i64 b.vi, .int .i64 b.he, .int .i64 b.bo, s] (by simp [bcells, hp])
  exact this
theorem wpList_store_par {ops : Array Oper} {rest : List Oper} {o : Oper} {a : Act} {w : World} {Q : Exit → Act → World → Prop} (hgd : o.guard = none) (x y : Operand) (ho : o.op = .store 23 x y)
    {g : Nat} {b : BkM} {s : Value} {h : List UInt8} (hx : a.eval x = .pointer (some ⟨g, 0, none⟩)) (hy : a.eval y = .agg (hcells h)) (hg : BoxK w g b s) (hp : b.par.length = 32) (hl : h.length = 32)
    (hh : ∀ w', w.grownBy w' (some g) → BoxK w' g { b with par := h } s → w'.heap.size = w.heap.size → wpList Tryz.prog ops Q rest (a.put o.dst undef) w') : wpList Tryz.prog ops Q (o :: rest) a w := by
  refine wpList_store_mid hgd _ x y ho (b := g) (o := 0) (cells := hcells h) hx hy (fun j hj => ⟨?_, hg.free _⟩) (by rw [size_hash, hcells_size, hl]) (hcells_one _) ?_
  · rw [hcells_size] at hj
    rw [cell_blk hg]
    simp [bkc_size s hp]
    omega
  · rw [hcells_list]
    refine hh _ (grown_setCells g _ _ _) ?_ (setCells_size g _ _ _)
    have := setCells_row (bcells h) 0 w (bkc b s) hg
    rw [bkc_par b s h (by rw [hp, hl])] at this
    exact this
noncomputable def allocK (w : World) : Result Next := Sem.run Tryz.prog (execOp (fun _ => undef) { dst := none, op := .alloc 34, type := 0, pos := "", after := #[], guard := none }) w
theorem exec_alloc_bk (r : Operand → Value) (dst : Option Tmp) (ty : TypeId) (pos : String) (after : Array Edge) (guard : Option (Nat × Bool)) (w : World) :
    Sem.run Tryz.prog (execOp r { dst := dst, op := .alloc 34, type := ty, pos := pos, after := after, guard := guard }) w = allocK w := rfl
theorem allocK_eq (w : World) : allocK w = .ok (.value (.pointer (some ⟨w.heap.size, 0, none⟩))) (w.alloc (.cells (bkc bkZ (.slice none 0 0)) 34)) := by
  unfold allocK execOp
  simp only [Sem.run_bind, Instr.alloc, run_zero_bk, newVar, newRow, run_newObj_alloc, Sem.run_pure, Result.andThen_ok, Value.cells]
noncomputable def storeK (p v : Value) (w : World) : Result Next := Sem.run Tryz.prog (execOp (fun x => match x with
  | .tmp 0 => p
  | _ => v) { dst := none, op := .store 34 (.tmp 0) (.tmp 1), type := 0, pos := "", after := #[], guard := none }) w
theorem exec_store_bk (r : Operand → Value) (x y : Operand) (dst : Option Tmp) (ty : TypeId) (pos : String) (after : Array Edge) (guard : Option (Nat × Bool)) (w : World) :
    Sem.run Tryz.prog (execOp r { dst := dst, op := .store 34 x y, type := ty, pos := pos, after := after, guard := guard }) w = storeK (r x) (r y) w := rfl
def setK (w : World) (g : Nat) (C : Array Value) : World := w.setRow g C
theorem bkc_one {w : World} {b : BkM} {s : Value} (h : Txs w s b.txs) : (bkc b s).all (·.oneCell') = true := by
  obtain ⟨A, c, rfl, _⟩ := h
  unfold bkc
  refine all_oneCell_toArray ?_
  intro u hu
  rcases List.mem_append.1 hu with hu | hu
  · exact bcells_one _ u hu
  · simp only [List.mem_cons, List.not_mem_nil, or_false] at hu
    obtain rfl | rfl | rfl | rfl := hu <;> rfl
theorem storeK_eq {w : World} {g : Nat} {t : TypeId} {C0 C : Array Value} (hg : w.heap[g]? = some (.cells C0 t (0, 0))) (h0 : C0.size = 36) (hC : C.size = 36) (h1 : C.all (·.oneCell') = true) :
    storeK (.pointer (some ⟨g, 0, none⟩)) (.agg C) w = .ok .skip (setK w g C) := by
  have := run_storeVar_row (P := Tryz.prog) w g t 34 C0 C hg (by rw [size_bk, hC]) (by rw [h0, hC]) h1
  unfold storeK execOp
  simp only [Instr.storeAt, Instr.sureAddr, Sem.run_bind, Sem.run_pure, Result.andThen_ok, this]
  rfl
theorem setK_other (w : World) {g k : Nat} (C : Array Value) (hk : k ≠ g) : (setK w g C).heap[k]? = w.heap[k]? := setRow_other w g k _ hk
theorem setK_same {w : World} {g : Nat} {t : TypeId} {C0 C : Array Value} (hg : w.heap[g]? = some (.cells C0 t (0, 0))) : (setK w g C).heap[g]? = some (.cells C t (0, 0)) := setRow_heap w g _ _ t _ hg
theorem setK_size (w : World) (g : Nat) (C : Array Value) : (setK w g C).heap.size = w.heap.size := by simp [setK]
theorem setK_below {B g : Nat} {a w : World} {C : Array Value} (hb : Below B a w) (hg : B ≤ g) : Below B a (setK w g C) := below_setRow hb hg _
theorem setK_self {w : World} {g : Nat} {t : TypeId} {C : Array Value} {fr : Nat × Nat} (hg : w.heap[g]? = some (.cells C t fr)) : setK w g C = w := by
  have e : ∀ f : Obj → Obj, f (.cells C t fr) = .cells C t fr → w.heap.modify g f = w.heap := by
    intro f hf
    apply Array.ext_getElem?
    intro k
    rw [Array.getElem?_modify]
    by_cases h : g = k
    · subst h
      rw [if_pos rfl, hg]
      simp [hf]
    · rw [if_neg h]
  unfold setK World.setRow
  rw [e _ rfl]
structure GtSt (w0 w : World) (x0 x1 x2 : Value) (b : BkM) (s : Value) : Prop where
  bel : Below w0.heap.size w0 w
  b0 : BoxK w w0.heap.size bkZ (.slice none 0 0)
  b1 : BoxK w (w0.heap.size + 1) b s
  b2 : w.heap[w0.heap.size + 1 + 1]? = some (.cells #[x0, x1, x2] 83 (0, 0))
section
variable {w0 w w' : World} {x0 x1 x2 : Value} {b : BkM} {s : Value}
theorem GtSt.lt (h : GtSt w0 w x0 x1 x2 b s) : w0.heap.size + 1 + 1 < w.heap.size := lt_of_block h.b2
theorem GtSt.keep (h : GtSt w0 w x0 x1 x2 b s) (hb : Below (w0.heap.size + 3) w w') : GtSt w0 w' x0 x1 x2 b s :=
  ⟨h.bel.trans (hb.mono (by omega)), (hb.block _ (by omega)).trans h.b0, (hb.block _ (by omega)).trans h.b1, (hb.block _ (by omega)).trans h.b2⟩
theorem GtSt.below (h : GtSt w0 w x0 x1 x2 b s) (hb : Below w.heap.size w w') : GtSt w0 w' x0 x1 x2 b s := h.keep (hb.mono (by have := h.lt; omega))
theorem GtSt.new (w : World) (x0 x1 x2 : Value) :
    GtSt w (((w.alloc (.cells (bkc bkZ (.slice none 0 0)) 34)).alloc (.cells (bkc bkZ (.slice none 0 0)) 34)).alloc (.cells #[x0, x1, x2] 83)) x0 x1 x2 bkZ (.slice none 0 0) := by
  refine ⟨(((Below.refl _ _).alloc (Nat.le_refl _) _).alloc (by simp) _).alloc (by simp <;> omega) _, ?_, ?_, ?_⟩
  · exact (Below.heap_alloc _ _ _ (by simp <;> omega)).trans (heap1 w _ _)
  · exact (Below.heap_alloc _ _ _ (by simp)).trans (heap2 w _ _)
  · have := heap2 (w.alloc (.cells (bkc bkZ (.slice none 0 0)) 34)) (.cells (bkc bkZ (.slice none 0 0)) 34) (.cells #[x0, x1, x2] 83)
    rwa [show (w.alloc (.cells (bkc bkZ (.slice none 0 0)) 34)).heap.size = w.heap.size + 1 from by simp] at this
theorem GtSt.put (h : GtSt w0 w x0 x1 x2 b s) (y0 y1 y2 : Value) :
    GtSt w0 (((w.setCell ⟨w0.heap.size + 1 + 1, 0, none⟩ y0).setCell ⟨w0.heap.size + 1 + 1, 1, none⟩ y1).setCell ⟨w0.heap.size + 1 + 1, 2, none⟩ y2) y0 y1 y2 b s := by
  refine ⟨((h.bel.setCell (by simp only; omega) _).setCell (by simp only; omega) _).setCell (by simp only; omega) _, ?_, ?_, ?_⟩
  · exact blk_other (blk_other (blk_other h.b0 y0 (by omega)) y1 (by omega)) y2 (by omega)
  · exact blk_other (blk_other (blk_other h.b1 y0 (by omega)) y1 (by omega)) y2 (by omega)
  · exact set_blk (set_blk (set_blk h.b2 0 y0) 1 y1) 2 y2
theorem GtSt.par (h : GtSt w0 w x0 x1 x2 b s) {p : List UInt8} (hg : w.grownBy w' (some (w0.heap.size + 1))) (hb : BoxK w' (w0.heap.size + 1) { b with par := p } s) : GtSt w0 w' x0 x1 x2 { b with par := p } s := by
  have hlt := h.lt
  refine ⟨h.bel.grown hg h.bel.size (fun k hk => by injection hk with hk; omega), ?_, hb, ?_⟩
  · exact (hg.block _ (by omega) (fun e => by injection e with e; omega)).trans h.b0
  · exact (hg.block _ (by omega) (fun e => by injection e with e; omega)).trans h.b2
theorem bkc_set {v : Value} (hp : b.par.length = 32) (i : Nat) : (bkc b s).setIfInBounds (32 + i) v = (bcells b.par ++ [.int .i64 b.vi, .int .i64 b.he, .int .i64 b.bo, s].set i v).toArray := by
  have hl : (bcells b.par).length = 32 := by rw [bcells_length, hp]
  unfold bkc
  rw [List.setIfInBounds_toArray, List.set_append_right _ _ (by omega), hl, Nat.add_sub_cancel_left]
theorem GtSt.cell (h : GtSt w0 w x0 x1 x2 b s) (hp : b.par.length = 32) {b' : BkM} {s' v : Value} (i : Nat) (e : (bcells b.par ++ [.int .i64 b.vi, .int .i64 b.he, .int .i64 b.bo, s].set i v).toArray = bkc b' s') :
    GtSt w0 (w.setCell ⟨w0.heap.size + 1, 32 + i, none⟩ v) x0 x1 x2 b' s' := by
  refine ⟨h.bel.setCell (by simp only; omega) _, blk_other h.b0 _ (by omega), ?_, blk_other h.b2 _ (by omega)⟩
  have := set_blk h.b1 (32 + i) v
  rw [bkc_set hp, e] at this
  exact this
theorem GtSt.cells (h : GtSt w0 w x0 x1 x2 b s) (hp : b.par.length = 32) :
    (w.cell? ⟨w0.heap.size + 1 + 1, 0, none⟩ = some x0 ∧ w.cell? ⟨w0.heap.size + 1 + 1, 1, none⟩ = some x1 ∧ w.cell? ⟨w0.heap.size + 1 + 1, 2, none⟩ = some x2) ∧
    (w.cell? ⟨w0.heap.size + 1, 32, none⟩ = some (.int .i64 b.vi) ∧ w.cell? ⟨w0.heap.size + 1, 33, none⟩ = some (.int .i64 b.he) ∧ w.cell? ⟨w0.heap.size + 1, 34, none⟩ = some (.int .i64 b.bo) ∧ w.cell? ⟨w0.heap.size + 1, 35, none⟩ = some s) ∧
    (∀ i, w.frozen? ⟨w0.heap.size + 1, i, none⟩ = false) ∧ (∀ i, w.frozen? ⟨w0.heap.size + 1 + 1, i, none⟩ = false) :=
  ⟨⟨cell_blk h.b2 0, cell_blk h.b2 1, cell_blk h.b2 2⟩, h.b1.cells hp, h.b1.free, free_blk h.b2⟩
end
end Go.Proofs.YtjemfmbmlmogcaaGreat
namespace Go.Proofs.YtjemfmbmlmogcaaGreat
set_option maxRecDepth 20000
open Go.RowKit
attribute [local go_sem ↓] exec_load_tx exec_load_bk exec_build_bk exec_alloc_bk exec_store_bk
noncomputable def gotK (l : List UInt8) : BkM := (getK l).getD bkZ
noncomputable def isK (l : List UInt8) : Bool := (getK l).isSome
theorem rdHash_pl {l : List UInt8} {p : Nat} {r : Bool} (hp : p ≤ l.length) : (rdHash l p r).2.1 ≤ l.length := by
  unfold rdHash
  split
  · exact hp
  · split
    · assumption
    · exact hp
def BkN (B : Nat) (w : World) (v : Value) (b : BkM) : Prop := ∃ s, v = .agg (bkc b s) ∧ b.par.length = 32 ∧ OwnT B w s b.txs
def GetPostN (w : World) (l : List UInt8) (e : Ending) (w' : World) : Prop := ∃ x, e = .returned (.tuple #[x, .bool (isK l)]) ∧ BkN w.heap.size w' x (gotK l) ∧ Below w.heap.size w w'
theorem results_kb {fn : Func} {p q : Tmp} (h : fn.results = #[.cell p 34, .tmp q]) (tmps : Array Value) (w : World) (g : Nat) (t : TypeId) (xs : Array Value) (v : Value)
    (hp : tmps.getD p undef = .pointer (some ⟨g, 0, none⟩)) (hv : tmps.getD q undef = v) (h1 : w.heap[g]? = some (.cells xs t (0, 0))) (hx : xs.size = 36) : (results fn tmps).run Tryz.prog w = .ok (.tuple #[.agg xs, v]) w := by
  have hp' : tmps[p]?.getD undef = .pointer (some ⟨g, 0, none⟩) := by simpa using hp
  have hv' : tmps[q]?.getD undef = v := by simpa using hv
  have r1 := run_loadVar_row (P := Tryz.prog) w g t 34 xs (0, 0) _ h1 under_bk rfl (by rw [size_bk, hx])
  simp [results, h, hp', hv', asAddr, r1]
theorem getPost_no {w w' : World} {l : List UInt8} (hn : getK l = none) (hb : Below w.heap.size w w') : GetPostN w l (.returned (.tuple #[.agg (bkc bkZ (.slice none 0 0)), .bool false])) w' := by
  refine ⟨_, by unfold isK; rw [hn]; rfl, ?_, hb⟩
  unfold gotK
  rw [hn]
  exact ⟨_, rfl, bkZ_par, OwnT.nil _ _⟩
theorem getPost_yes {w w' : World} {l : List UInt8} {b : BkM} {s : Value} (hn : getK l = some b) (hp : b.par.length = 32) (ht : OwnT w.heap.size w' s b.txs) (hb : Below w.heap.size w w') : GetPostN w l (.returned (.tuple #[.agg (bkc b s), .bool true])) w' := by
  refine ⟨_, by unfold isK; rw [hn]; rfl, ?_, hb⟩
  unfold gotK
  rw [hn]
  exact ⟨_, rfl, hp, ht⟩
theorem rdTxs_succ {l : List UInt8} {p q i : Nat} {r r' : Bool} {ts : List TxM} (h : rdTxs l p r i = some (ts, q, r')) (ok : rdIs l q r' = true) : rdTxs l p r (i + 1) = some (ts ++ [rdTx l q r'], (rdRaw l q r').2.1, true) := by
  unfold rdTxs
  rw [h]
  simp only
  rw [if_pos ok]
theorem rdTxs_stop {l : List UInt8} {p q i : Nat} {r r' : Bool} {ts : List TxM} (h : rdTxs l p r i = some (ts, q, r')) (ok : rdIs l q r' = false) : rdTxs l p r (i + 1) = none := by
  unfold rdTxs
  rw [h]
  simp only
  rw [if_neg (by rw [ok]; decide)]
theorem rdIs_pl {l : List UInt8} {q : Nat} {r : Bool} (ok : rdIs l q r = true) : (rdRaw l q r).2.1 ≤ l.length := by
  obtain ⟨_, hm, hq, x, hx⟩ := rdTx_so ok
  have hpos : 0 < (bytesT (rdTx l q r)).length := by
    unfold bytesT
    rw [List.length_append]
    have := dg_pos (rdTx l q r).fr.toNat
    omega
  have := drop_len hx hpos
  omega
theorem light_of_may {b : BkM} (h : ∀ t ∈ b.txs, mayT t = true) : lightK b := fun t ht => by
  obtain ⟨_, _, h3⟩ := mayT_iff (h t ht)
  rcases h3 with ⟨_, _, _, hk, hv⟩ | ⟨_, _, _, hk, hv⟩ | ⟨_, _, _, hk, hv⟩
  · simp [hk, hv]
  · exact ⟨by have := keyOk_len hk; omega, by omega⟩
  · exact ⟨by have := keyOk_len hk; omega, by simp [hv]⟩
theorem GtSt.grow {w0 w w' : World} {x0 x1 x2 s : Value} {b : BkM} {ts : List TxM} (h : GtSt w0 w x0 x1 x2 b s) (ho : OwnT (w0.heap.size + 3) w s ts) (hg : w.grownBy w' s.ownBlock) : GtSt w0 w' x0 x1 x2 b s :=
  h.keep ((Below.refl _ _).grown hg (by have := h.lt; omega) (fun k hk => (World.ownsRow.lt ho k hk).1))
theorem OwnT.alloc {B : Nat} {w : World} {v : Value} {L : List TxM} (h : OwnT B w v L) (o : Obj) : OwnT B (w.alloc o) v L := h.below ((Below.refl _ _).alloc (Nat.le_refl _) o)
theorem OwnT.shape3 {B : Nat} {w : World} {v : Value} {L : List TxM} (h : OwnT B w v L) : ∃ A n c, v = .slice A n c := by
  obtain ⟨A, c, e⟩ := h.txs.shape
  exact ⟨A, _, c, e⟩
theorem OwnT.setK {B g : Nat} {w : World} {v : Value} {L : List TxM} {C : Array Value} (h : OwnT B w v L) (hg : g < B) : OwnT B (setK w g C) v L := h.keep fun b _ e => setK_other w C (fun e' => by
  have := (World.ownsRow.lt h b e).1
  omega)
theorem GtSt.alloc {w0 w : World} {x0 x1 x2 s : Value} {b : BkM} (h : GtSt w0 w x0 x1 x2 b s) (o : Obj) : GtSt w0 (w.alloc o) x0 x1 x2 b s := h.below ((Below.refl _ _).alloc (Nat.le_refl _) o)
set_option maxHeartbeats 6400000 in
theorem refGet7_new (v : Value) (l : List UInt8) (w : World) (hv : Byt w v l) (hl : l.length ≤ 1000000) :
    Calls Tryz.prog 52 #[v] w (GetPostN w l) := by
  obtain ⟨A, c, rfl⟩ := hv.shape
  have HH := hid (fun p r (hp : p ≤ l.length) (w' : World) (hb : Below w.heap.size w w') => refHash_any A c p r l w' (hv.below hb) hp (by omega))
  have HU := hid (fun p r (hp : p ≤ l.length) m (h1 : -9223372036854775808 ≤ m) (h2 : m ≤ 9223372036854775807) (w' : World) (hb : Below w.heap.size w w') => refUpto_any A c p r l m w' (hv.below hb) hp (by omega) h1 h2)
  have HT := hid (fun p r (hp : p ≤ l.length) (w' : World) (hb : Below w.heap.size w w') => refTx_any A c p r l w' (hv.below hb) hp hl)
  have HSM := hid (fun u L (w' : World) (hb : Below w.heap.size w w') (hu : Byt w' u L) => same_any u (.slice A l.length c) L l w' hu (hv.below hb))
  obtain ⟨Z, HZ⟩ : ∃ C : Array Value, Hid (bkc bkZ (.slice none 0 0) = C) := ⟨_, hid rfl⟩
  have hbz : ∀ W, buildK W = .ok (.value (.agg Z)) W := fun W => by rw [← HZ.out]; exact buildK_eq W
  have hal : ∀ W, allocK W = .ok (.value (.pointer (some ⟨W.heap.size, 0, none⟩))) (W.alloc (.cells Z 34)) := fun W => by rw [← HZ.out]; exact allocK_eq W
  have hsz : Z.size = 36 := by rw [← HZ.out]; exact bkc_size _ bkZ_par
  have hz1 : Z.all (·.oneCell') = true := by rw [← HZ.out]; exact bkc_one (w := w) (b := bkZ) (Txs.nil w)
  have hs0 : storeK (.pointer (some ⟨w.heap.size + 1, 0, none⟩)) (.agg Z) ((w.alloc (.cells Z 34)).alloc (.cells Z 34)) = .ok .skip ((w.alloc (.cells Z 34)).alloc (.cells Z 34)) := by
    have hg := heap2 w (.cells Z 34) (.cells Z 34)
    rw [storeK_eq hg hsz hsz hz1, setK_self hg]
  have HSZ := hid hsz
  have HZ1 := hid hz1
  have hst0 := GtSt.new w (.slice A l.length c) (.int .i64 0) (.bool false)
  rw [HZ.out] at hst0
  clear hv hsz hz1
  go_enter Tryz.func52, Tryz.ntmps52
  go_wp2_with fail
  obtain ⟨h0, p0, r0, HA0⟩ : ∃ x q s, Hid (rdHash l 0 true = (x, q, s)) := ⟨_, _, _, hid rfl⟩
  have hp0 : p0 ≤ l.length := by have := rdHash_pl (l := l) (p := 0) (r := true) (Nat.zero_le _); rw [HA0.out] at this; exact this
  have hh0 : h0.length = 32 := by have := rdHash_32 l 0 true; rw [HA0.out] at this; exact this
  have C := HH.out 0 true (Nat.zero_le _) _ hst0.bel
  rw [HA0.out] at C
  refine C.mono ?_
  clear C
  rintro e w1 ⟨rfl, hb⟩
  have hst := hst0.below hb
  clear hb hst0
  obtain ⟨⟨c20, c21, c22⟩, ⟨c10, c11, c12, c13⟩, g1, g2⟩ := hst.cells bkZ_par
  have HST := hid hst
  have HH0 := hid hh0
  have HBZ := hid hbz
  clear hst hs0 hbz hal hh0
  unfold rv
  go_wp2_with (refine wpList_store_par rfl _ _ rfl rfl rfl (HST.out.put (.slice A l.length c) (.int .i64 (p0 : Int)) (.bool (!r0))).b1 bkZ_par HH0.out ?_; intro wP hgP hbP hsP; have HSP : Hid (GtSt w wP (.slice A l.length c) (.int .i64 (p0 : Int)) (.bool (!r0)) ⟨h0, 0, 0, 0, []⟩ (.slice none 0 0)) := hid ((HST.out.put (.slice A l.length c) (.int .i64 (p0 : Int)) (.bool (!r0))).par hgP hbP); obtain ⟨⟨d20, d21, d22⟩, ⟨d10, d11, d12, d13⟩, f1, f2⟩ := HSP.out.cells HH0.out; clear hgP hbP hsP)
  clear HST c20 c21 c22 c10 c11 c12 c13 g1 g2
  obtain ⟨a1, p1, r1, HA1⟩ : ∃ x q s, Hid (rdUpto 1099511627776 l p0 r0 = (x, q, s)) := ⟨_, _, _, hid rfl⟩
  have hp1 : p1 ≤ l.length := by have := rdUpto_pl (m := 1099511627776) (r := r0) hp0; rw [HA1.out] at this; exact this
  have hm1 : a1 ≤ 1099511627776 := by have := rdUpto_le (m := 1099511627776) (l := l) (p := p0) (r := r0); rw [show ((1099511627776 : Nat) : Int) = 1099511627776 from rfl, HA1.out] at this; exact this
  have C := HU.out p0 r0 hp0 1099511627776 (by omega) (by omega) _ (HSP.out).bel
  rw [HA1.out] at C
  refine C.mono ?_
  clear C
  rintro e w2 ⟨rfl, hb⟩
  have hst : GtSt w w2 (.slice A l.length c) (.int .i64 (p0 : Int)) (.bool (!r0)) ⟨h0, 0, 0, 0, []⟩ (.slice none 0 0) := (HSP.out).below hb
  clear hb HSP d20 d21 d22 d10 d11 d12 d13 f1 f2
  obtain ⟨⟨c20, c21, c22⟩, ⟨c10, c11, c12, c13⟩, g1, g2⟩ := hst.cells HH0.out
  have HST := hid hst
  clear hst
  unfold rv
  go_wp2_with fail
  obtain ⟨a2, p2, r2, HA2⟩ : ∃ x q s, Hid (rdUpto 1099511627776 l p1 r1 = (x, q, s)) := ⟨_, _, _, hid rfl⟩
  have hp2 : p2 ≤ l.length := by have := rdUpto_pl (m := 1099511627776) (r := r1) hp1; rw [HA2.out] at this; exact this
  have hm2 : a2 ≤ 1099511627776 := by have := rdUpto_le (m := 1099511627776) (l := l) (p := p1) (r := r1); rw [show ((1099511627776 : Nat) : Int) = 1099511627776 from rfl, HA2.out] at this; exact this
  have C := HU.out p1 r1 hp1 1099511627776 (by omega) (by omega) _ ((HST.out.put (.slice A l.length c) (.int .i64 (p1 : Int)) (.bool (!r1))).cell HH0.out (b' := ⟨h0, (a1 : Int), 0, 0, []⟩) (s' := .slice none 0 0) (v := .int .i64 (a1 : Int)) 0 rfl).bel
  rw [HA2.out] at C
  refine C.mono ?_
  clear C
  rintro e w3 ⟨rfl, hb⟩
  have hst : GtSt w w3 (.slice A l.length c) (.int .i64 (p1 : Int)) (.bool (!r1)) ⟨h0, (a1 : Int), 0, 0, []⟩ (.slice none 0 0) := ((HST.out.put (.slice A l.length c) (.int .i64 (p1 : Int)) (.bool (!r1))).cell HH0.out (b' := ⟨h0, (a1 : Int), 0, 0, []⟩) (s' := .slice none 0 0) (v := .int .i64 (a1 : Int)) 0 rfl).below hb
  clear hb HST c20 c21 c22 c10 c11 c12 c13 g1 g2
  obtain ⟨⟨c20, c21, c22⟩, ⟨c10, c11, c12, c13⟩, g1, g2⟩ := hst.cells HH0.out
  have HST := hid hst
  clear hst
  unfold rv
  go_wp2_with fail
  obtain ⟨a3, p3, r3, HA3⟩ : ∃ x q s, Hid (rdUpto 21 l p2 r2 = (x, q, s)) := ⟨_, _, _, hid rfl⟩
  have hp3 : p3 ≤ l.length := by have := rdUpto_pl (m := 21) (r := r2) hp2; rw [HA3.out] at this; exact this
  have hm3 : a3 ≤ 21 := by have := rdUpto_le (m := 21) (l := l) (p := p2) (r := r2); rw [show ((21 : Nat) : Int) = 21 from rfl, HA3.out] at this; exact this
  have C := HU.out p2 r2 hp2 21 (by omega) (by omega) _ ((HST.out.put (.slice A l.length c) (.int .i64 (p2 : Int)) (.bool (!r2))).cell HH0.out (b' := ⟨h0, (a1 : Int), (a2 : Int), 0, []⟩) (s' := .slice none 0 0) (v := .int .i64 (a2 : Int)) 1 rfl).bel
  rw [HA3.out] at C
  refine C.mono ?_
  clear C
  rintro e w4 ⟨rfl, hb⟩
  have hst : GtSt w w4 (.slice A l.length c) (.int .i64 (p2 : Int)) (.bool (!r2)) ⟨h0, (a1 : Int), (a2 : Int), 0, []⟩ (.slice none 0 0) := ((HST.out.put (.slice A l.length c) (.int .i64 (p2 : Int)) (.bool (!r2))).cell HH0.out (b' := ⟨h0, (a1 : Int), (a2 : Int), 0, []⟩) (s' := .slice none 0 0) (v := .int .i64 (a2 : Int)) 1 rfl).below hb
  clear hb HST c20 c21 c22 c10 c11 c12 c13 g1 g2
  obtain ⟨⟨c20, c21, c22⟩, ⟨c10, c11, c12, c13⟩, g1, g2⟩ := hst.cells HH0.out
  have HST := hid hst
  clear hst
  unfold rv
  go_wp2_with fail
  obtain ⟨a4, p4, r4, HA4⟩ : ∃ x q s, Hid (rdUpto 8 l p3 r3 = (x, q, s)) := ⟨_, _, _, hid rfl⟩
  have hp4 : p4 ≤ l.length := by have := rdUpto_pl (m := 8) (r := r3) hp3; rw [HA4.out] at this; exact this
  have hm4 : a4 ≤ 8 := by have := rdUpto_le (m := 8) (l := l) (p := p3) (r := r3); rw [show ((8 : Nat) : Int) = 8 from rfl, HA4.out] at this; exact this
  have C := HU.out p3 r3 hp3 8 (by omega) (by omega) _ ((HST.out.put (.slice A l.length c) (.int .i64 (p3 : Int)) (.bool (!r3))).cell HH0.out (b' := ⟨h0, (a1 : Int), (a2 : Int), (a3 : Int), []⟩) (s' := .slice none 0 0) (v := .int .i64 (a3 : Int)) 2 rfl).bel
  rw [HA4.out] at C
  refine C.mono ?_
  clear C
  rintro e w5 ⟨rfl, hb⟩
  have hst : GtSt w w5 (.slice A l.length c) (.int .i64 (p3 : Int)) (.bool (!r3)) ⟨h0, (a1 : Int), (a2 : Int), (a3 : Int), []⟩ (.slice none 0 0) := ((HST.out.put (.slice A l.length c) (.int .i64 (p3 : Int)) (.bool (!r3))).cell HH0.out (b' := ⟨h0, (a1 : Int), (a2 : Int), (a3 : Int), []⟩) (s' := .slice none 0 0) (v := .int .i64 (a3 : Int)) 2 rfl).below hb
  clear hb HST c20 c21 c22 c10 c11 c12 c13 g1 g2
  obtain ⟨⟨c20, c21, c22⟩, ⟨c10, c11, c12, c13⟩, g1, g2⟩ := hst.cells HH0.out
  have HST := hid hst
  clear hst
  unfold rv
  have hst4 : GtSt w (((w5.setCell ⟨w.heap.size + 1 + 1, 0, none⟩ (.slice A l.length c)).setCell ⟨w.heap.size + 1 + 1, 1, none⟩ (.int .i64 (p4 : Int))).setCell ⟨w.heap.size + 1 + 1, 2, none⟩ (.bool (!r4))) (.slice A l.length c) (.int .i64 (p4 : Int)) (.bool (!r4)) ⟨h0, (a1 : Int), (a2 : Int), (a3 : Int), []⟩ (.slice none 0 0) := HST.out.put (.slice A l.length c) (.int .i64 (p4 : Int)) (.bool (!r4))
  have HD : Hid (rdHd l = ⟨h0, (a1 : Int), (a2 : Int), (a3 : Int), a4, p4, r4⟩) := hid (by unfold rdHd; simp only [HA0.out, HA1.out, HA2.out, HA3.out, HA4.out])
  go_wp2_with fail
  generalize (((w5.setCell ⟨w.heap.size + 1 + 1, 0, none⟩ (.slice A l.length c)).setCell ⟨w.heap.size + 1 + 1, 1, none⟩ (.int .i64 (p4 : Int))).setCell ⟨w.heap.size + 1 + 1, 2, none⟩ (.bool (!r4))) = w6 at hst4 ⊢
  clear HST c20 c21 c22 c10 c11 c12 c13 g1 g2 HH HU HA0 HA1 HA2 HA3 HA4 hp0 hp1 hp2 hp3
  go_loopw [7] (fun si wr => ∃ (i : Nat) (ts : List TxM) (q : Nat) (r : Bool) (s : Value), i ≤ a4 ∧ si = .int .i64 i ∧ Hid (rdTxs l p4 r4 i = some (ts, q, r)) ∧ q ≤ l.length ∧ GtSt w wr (.slice A l.length c) (.int .i64 (q : Int)) (.bool (!r)) ⟨h0, (a1 : Int), (a2 : Int), (a3 : Int), ts⟩ s ∧ OwnT (w.heap.size + 3) wr s ts) (fun si _ => a4 - (intOf si).toNat)
  case atStart => exact ⟨0, [], p4, r4, .slice none 0 0, Nat.zero_le _, rfl, hid rfl, hp4, hst4, OwnT.nil _ _⟩
  case round =>
    obtain ⟨i, ts, q, r, s, hi, rfl, HR, hq, hst, how⟩ := hrel
    clear hst4
    have HST := hid hst
    have HOW := hid how
    obtain ⟨⟨c20, c21, c22⟩, ⟨c10, c11, c12, c13⟩, g1, g2⟩ := hst.cells HH0.out
    clear hst how
    by_cases hlt : i < a4
    · have hI : (i : Int) < (a4 : Int) := by omega
      go_wp2_with fail
      have C := HT.out q r hq _ HST.out.bel
      obtain ⟨q', HQ'⟩ : ∃ x, Hid ((rdRaw l q r).2.1 = x) := ⟨_, hid rfl⟩
      obtain ⟨r', HR'⟩ : ∃ x, Hid ((rdRaw l q r).2.2 = x) := ⟨_, hid rfl⟩
      obtain ⟨t, HTT⟩ : ∃ x, Hid (rdTx l q r = x) := ⟨_, hid rfl⟩
      obtain ⟨ok, HOK⟩ : ∃ x, Hid (rdIs l q r = x) := ⟨_, hid rfl⟩
      rw [HQ'.out, HR'.out, HTT.out, HOK.out] at C
      refine C.mono ?_
      clear C
      rintro e w7 ⟨rfl, hb⟩
      unfold rv txv
      clear c20 c21 c22 c10 c11 c12 c13 g1 g2
      obtain ⟨CR, HCR⟩ : ∃ C : Array Value, Hid (#[.slice A l.length c, .int .i64 (q' : Int), .bool (!r')] = C) := ⟨_, hid rfl⟩
      obtain ⟨CT, HCT⟩ : ∃ C : Array Value, Hid (#[.int .i64 t.fr, .int .i64 t.no, .int .i64 t.ki, .int .i64 t.to, .int .i64 t.am, .string (sb t.key), .string (sb t.val)] = C) := ⟨_, hid rfl⟩
      have hrd := heap1 w7 (.cells CR 83) (.cells CT 36)
      have htx := heap2 w7 (.cells CR 83) (.cells CT 36)
      have hb8 : Below w7.heap.size w7 ((w7.alloc (.cells CR 83)).alloc (.cells CT 36)) := ((Below.refl _ _).alloc (Nat.le_refl _) _).alloc (by simp) _
      have hst8 := (HST.out.below hb).below hb8
      have how8 := (HOW.out.below hb).below hb8
      rw [← HCR.out, ← HCT.out] at hrd htx hst8 how8
      have hlt7 := (HST.out.below hb).lt
      clear hb8 HCR HCT CR CT hb HST HOW
      go_upto_region 13 with (fail)
      generalize ((w7.alloc (.cells #[.slice A l.length c, .int .i64 (q' : Int), .bool (!r')] 83)).alloc (.cells #[.int .i64 t.fr, .int .i64 t.no, .int .i64 t.ki, .int .i64 t.to, .int .i64 t.am, .string (sb t.key), .string (sb t.val)] 36)) = w8 at *
      cases ok with
      | false =>
        have hbz := HBZ.out
        have hs0 : storeK (.pointer (some ⟨w.heap.size, 0, none⟩)) (.agg Z) w8 = .ok .skip w8 := by
          have hg := hst8.b0
          unfold BoxK at hg
          rw [HZ.out] at hg
          rw [storeK_eq hg HSZ.out HSZ.out HZ1.out, setK_self hg]
        have HB0 := hid hst8.b0
        have HBE := hid hst8.bel
        have HN : Hid (getK l = none) := hid (by
          unfold getK
          rw [HD.out]
          simp only
          rw [rdTxs_none (rdTxs_stop HR.out HOK.out) a4 (by omega)])
        clear hst8 how8 hrd htx hi
        go_wp2_with fail
        have hg := HB0.out
        unfold BoxK at hg
        refine bodyPost_ret (results_kb rfl _ _ _ _ _ _ rfl rfl hg (bkc_size _ bkZ_par)) rfl ?_
        exact getPost_no HN.out HBE.out
      | true =>
        obtain ⟨⟨c20, c21, c22⟩, ⟨c10, c11, c12, c13⟩, g1, g2⟩ := hst8.cells HH0.out
        have e0 := cell_blk hrd 0
        have e1 := cell_blk hrd 1
        have e2 := cell_blk hrd 2
        simp at e0 e1 e2
        have HST9 := hid (hst8.put (.slice A l.length c) (.int .i64 (q' : Int)) (.bool (!r')))
        have HOW9 := hid (((how8.set (g := w.heap.size + 1 + 1) (by omega) 0 (.slice A l.length c)).set (g := w.heap.size + 1 + 1) (by omega) 1 (.int .i64 (q' : Int))).set (g := w.heap.size + 1 + 1) (by omega) 2 (.bool (!r')))
        have htx9 := blk_other (blk_other (blk_other htx (.slice A l.length c) (i := 0) (b := w.heap.size + 1 + 1) (by omega)) (.int .i64 (q' : Int)) (i := 1) (b := w.heap.size + 1 + 1) (by omega)) (.bool (!r')) (i := 2) (b := w.heap.size + 1 + 1) (by omega)
        have l9 := loadTx_eq htx9 rfl
        have hlen : ts.length + [t].length ≤ 1000000000 := by
          have := rdTxs_len HR.out
          simp only at this
          simp only [List.length_cons, List.length_nil]
          omega
        have HTO : Hid (Txs ((((w8.setCell ⟨w.heap.size + 1 + 1, 0, none⟩ (.slice A l.length c)).setCell ⟨w.heap.size + 1 + 1, 1, none⟩ (.int .i64 (q' : Int))).setCell ⟨w.heap.size + 1 + 1, 2, none⟩ (.bool (!r'))).alloc (.cells #[.int .i64 t.fr, .int .i64 t.no, .int .i64 t.ki, .int .i64 t.to, .int .i64 t.am, .string (sb t.key), .string (sb t.val)] 36)) (.slice (some ⟨w8.heap.size, 0, none⟩) 1 1) [t]) := hid (by
          have := txs_one (((w8.setCell ⟨w.heap.size + 1 + 1, 0, none⟩ (.slice A l.length c)).setCell ⟨w.heap.size + 1 + 1, 1, none⟩ (.int .i64 (q' : Int))).setCell ⟨w.heap.size + 1 + 1, 2, none⟩ (.bool (!r'))) t #[.int .i64 t.fr, .int .i64 t.no, .int .i64 t.ki, .int .i64 t.to, .int .i64 t.am, .string (sb t.key), .string (sb t.val)] rfl
          rw [show (((w8.setCell ⟨w.heap.size + 1 + 1, 0, none⟩ (.slice A l.length c)).setCell ⟨w.heap.size + 1 + 1, 1, none⟩ (.int .i64 (q' : Int))).setCell ⟨w.heap.size + 1 + 1, 2, none⟩ (.bool (!r'))).heap.size = w8.heap.size from by simp] at this
          exact this)
        clear hst8 how8 hrd htx htx9
        go_wp2_with (at_builtin; refine wpList_append_tx rfl (.tmp 59) (.tmp 61) rfl rfl rfl (HOW9.out.alloc _) HTO.out hlen (HST9.out.alloc _).lt ?_; intro v9 w9 ho9 hg9 hv9; have HST10 := hid ((HST9.out.alloc _).grow (HOW9.out.alloc _) hg9); obtain ⟨⟨d20, d21, d22⟩, ⟨d10, d11, d12, d13⟩, f1, f2⟩ := HST10.out.cells HH0.out; clear hg9 hv9; obtain ⟨A9, n9, c9, rfl⟩ := ho9.shape3)
        have HRT : Hid (r' = true) := hid (by rw [← HR'.out]; exact (rdIs_iff HOK.out).1)
        go_roundw
        case rel =>
          refine ⟨i + 1, ts ++ [t], q', r', .slice A9 n9 c9, by omega, by go_num, hid ?_, ?_, ?_, ?_⟩
          · rw [rdTxs_succ HR.out HOK.out, HTT.out, HQ'.out, HRT.out]
          · rw [← HQ'.out]; exact rdIs_pl HOK.out
          · exact HST10.out.cell HH0.out (b' := ⟨h0, (a1 : Int), (a2 : Int), (a3 : Int), ts ++ [t]⟩) (s' := .slice A9 n9 c9) (v := .slice A9 n9 c9) 3 rfl
          · exact ho9.set (by omega) _ _
        case measure => simp [intOf]; omega
    · obtain rfl : i = a4 := by omega
      obtain ⟨SA, SN, SC, rfl⟩ := HOW.out.shape3
      cases r with
      | false =>
        have HN : Hid (getK l = none) := hid (by
          unfold getK
          rw [HD.out]
          simp only
          rw [HR.out]
          simp only
          rw [if_neg (by simp)])
        have hbz := HBZ.out
        have hs0 : storeK (.pointer (some ⟨w.heap.size, 0, none⟩)) (.agg Z) wr = .ok .skip wr := by
          have hg := HST.out.b0
          unfold BoxK at hg
          rw [HZ.out] at hg
          rw [storeK_eq hg HSZ.out HSZ.out HZ1.out, setK_self hg]
        clear hi hlt
        go_wp2_with fail
        have hg := HST.out.b0
        unfold BoxK at hg
        refine bodyPost_ret (results_kb rfl _ _ _ _ _ _ rfl rfl hg (bkc_size _ bkZ_par)) rfl ?_
        exact getPost_no HN.out HST.out.bel
      | true =>
        have hms := rdTxs_so HR.out rfl
        have HMS := hid hms.2.1
        obtain ⟨b, HBE⟩ : ∃ b : BkM, Hid ((⟨h0, (a1 : Int), (a2 : Int), (a3 : Int), ts⟩ : BkM) = b) := ⟨_, hid rfl⟩
        have HGK : Hid (getK l = if mayK b = true ∧ bytesK b = l then some b else none) := hid (by
          unfold getK
          rw [HD.out]
          simp only
          rw [HR.out]
          simp only
          rw [HBE.out]
          by_cases h : mayK b = true ∧ bytesK b = l
          · rw [if_pos h, if_pos ⟨trivial, h⟩]
          · rw [if_neg h, if_neg (fun h' => h h'.2)])
        rw [HBE.out] at HST
        have HLK : Hid (lightK b) := hid (light_of_may (by rw [← HBE.out]; exact HMS.out))
        have HBP : Hid (b.par.length = 32) := hid (by rw [← HBE.out]; exact HH0.out)
        have HBT : Hid (b.txs = ts) := hid (by rw [← HBE.out])
        have HBV : Hid (∀ W, Below wr.heap.size wr W → BkV W (.agg (bkc b (.slice SA SN SC))) b) := hid (fun W h => ⟨_, rfl, HBP.out, by rw [HBT.out]; exact HOW.out.txs.below h⟩)
        have HOT : Hid (∀ W, Below wr.heap.size wr W → OwnT (w.heap.size + 3) W (.slice SA SN SC) ts) := hid (fun W h => HOW.out.below h)
        obtain ⟨CB, HCB⟩ : ∃ C : Array Value, Hid (bkc b (.slice SA SN SC) = C) := ⟨_, hid rfl⟩
        obtain ⟨m, HM⟩ : ∃ q : Bool, Hid (mayK b = q) := ⟨_, hid rfl⟩
        have HMA : Hid (∀ W, Below wr.heap.size wr W → Calls Tryz.prog 22 #[.agg CB] W fun e w' => e = .returned (.bool m) ∧ Below W.heap.size W w') := hid (fun W h => by
          have := refMay7_any _ b W (HBV.out W h) HLK.out
          rw [HCB.out, HM.out] at this
          exact this)
        have HPT : Hid (mayK b = true → ∀ W, Below wr.heap.size wr W → Calls Tryz.prog 44 #[.agg CB] W fun e w' => ∃ x, e = .returned x ∧ Own W.heap.size w' x (bytesK b) ∧ Below W.heap.size W w') := hid (fun hm W h => by
          have := refPut7_any _ b W (HBV.out W h) hm
          rw [HCB.out] at this
          exact this)
        have HLD : Hid (∀ W, Below wr.heap.size wr W → loadK (.pointer (some ⟨w.heap.size + 1, 0, none⟩)) W = .ok (.value (.agg CB)) W) := hid (fun W h => by
          have := loadK_eq (HST.out.below h).b1 HBP.out
          rw [HCB.out] at this
          exact this)
        have l0 := HLD.out wr (Below.refl _ _)
        clear hms hi hlt HOW
        go_wp2_with fail
        refine (HMA.out wr (Below.refl _ _)).mono ?_
        rintro e w2 ⟨rfl, hb2⟩
        have HS2 := hid (HST.out.below hb2)
        have l2 := HLD.out w2 hb2
        clear l0 c20 c21 c22 c10 c11 c12 c13 g1 g2
        cases m with
        | false =>
          have HN : Hid (getK l = none) := hid (by rw [HGK.out, if_neg (by rw [HM.out]; simp)])
          have hbz := HBZ.out
          have hs0 : storeK (.pointer (some ⟨w.heap.size, 0, none⟩)) (.agg Z) w2 = .ok .skip w2 := by
            have hg := HS2.out.b0
            unfold BoxK at hg
            rw [HZ.out] at hg
            rw [storeK_eq hg HSZ.out HSZ.out HZ1.out, setK_self hg]
          clear l2
          go_wp2_with fail
          have hg := HS2.out.b0
          unfold BoxK at hg
          refine bodyPost_ret (results_kb rfl _ _ _ _ _ _ rfl rfl hg (bkc_size _ bkZ_par)) rfl ?_
          exact getPost_no HN.out HS2.out.bel
        | true =>
          go_wp2_with fail
          refine (HPT.out HM.out w2 hb2).mono ?_
          rintro e w3 ⟨x, rfl, ho3, hb3⟩
          have hb3' := hb2.trans (hb3.mono hb2.size)
          have HS3 := hid (HST.out.below hb3')
          have HB3 := hid hb3'
          clear l2 hb3 hb2
          go_wp2_with fail
          refine (HSM.out x (bytesK b) w3 HS3.out.bel ho3.byt).mono ?_
          rintro e w4 ⟨rfl, k, rfl⟩
          obtain ⟨eq, HEQ⟩ : ∃ q : Bool, Hid (decide (bytesK b = l) = q) := ⟨_, hid rfl⟩
          rw [HEQ.out]
          have hbd := below_drewN (Below.refl w3.heap.size w3) k
          have HS4 := hid (HS3.out.below hbd)
          have HB4 := hid (HB3.out.trans (hbd.mono HB3.out.size))
          clear hbd ho3 hb3'
          generalize w3.drewN k = w4 at *
          cases eq with
          | false =>
            have HN : Hid (getK l = none) := hid (by rw [HGK.out, if_neg (fun h => of_decide_eq_false HEQ.out h.2)])
            have hbz := HBZ.out
            have hs0 : storeK (.pointer (some ⟨w.heap.size, 0, none⟩)) (.agg Z) w4 = .ok .skip w4 := by
              have hg := HS4.out.b0
              unfold BoxK at hg
              rw [HZ.out] at hg
              rw [storeK_eq hg HSZ.out HSZ.out HZ1.out, setK_self hg]
            go_wp2_with fail
            have hg := HS4.out.b0
            unfold BoxK at hg
            refine bodyPost_ret (results_kb rfl _ _ _ _ _ _ rfl rfl hg (bkc_size _ bkZ_par)) rfl ?_
            exact getPost_no HN.out HS4.out.bel
          | true =>
            have HY : Hid (getK l = some b) := hid (by rw [HGK.out, if_pos ⟨HM.out, of_decide_eq_true HEQ.out⟩])
            have l4 := HLD.out w4 HB4.out
            have hg := HS4.out.b0
            have HTX := hid (HBV.out w4 HB4.out)
            have hC36 : CB.size = 36 := by rw [← HCB.out]; exact bkc_size _ HBP.out
            have hs0 : storeK (.pointer (some ⟨w.heap.size, 0, none⟩)) (.agg CB) w4 = .ok .skip (setK w4 w.heap.size CB) := by
              refine storeK_eq hg (bkc_size _ bkZ_par) hC36 ?_
              rw [← HCB.out]
              obtain ⟨s', e', _, ht'⟩ := HTX.out
              have e2 : s' = .slice SA SN SC := by
                have h1 := (bkc_tail (b := b) (s := s') HBP.out).2.2.2
                have h2 := (bkc_tail (b := b) (s := .slice SA SN SC) HBP.out).2.2.2
                injection e' with e'
                rw [e', h1] at h2
                injection h2
              rw [e2] at ht'
              exact bkc_one ht'
            have HG := hid hg
            have HC36 := hid hC36
            clear hg hC36
            go_wp2_with fail
            refine bodyPost_ret (results_kb rfl _ _ _ _ _ _ rfl rfl (setK_same HG.out) HC36.out) rfl ?_
            have hbl := setK_below (C := CB) HS4.out.bel (Nat.le_refl _)
            rw [← HCB.out] at hbl ⊢
            refine getPost_yes HY.out HBP.out ?_ hbl
            rw [HBT.out]
            exact ((HOT.out w4 HB4.out).setK (by omega)).more (by omega)
end Go.Proofs.YtjemfmbmlmogcaaGreat
