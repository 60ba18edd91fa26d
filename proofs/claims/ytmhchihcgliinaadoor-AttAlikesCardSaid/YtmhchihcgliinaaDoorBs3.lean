/-
  RefHash Fc HashMid AtWords AtMay StrBytes BkBytes AtTagged Quorum: what each of them says stands at its head.
-/
import Derived.Test.YtmhchihcgliinaaDoorBs2
import Derived.BigRegion
import Derived.RegionTactic
import Derived.Great.BuildSlice
import Derived.Test.YtmhchihcgliinaaDoorBs1
import Derived.Laws.Rows
import Derived.Laws.Tables
import Derived.Laws.CopyOwn
import Derived.Deep.MidRow
import Derived.ChangeKeysEq
import Derived.Laws.StructEq
import Derived.Deep.RegionHeld3
import Derived.Outline
import Derived.Deep.DeepCutAuto
import Derived.Laws.IdiomStrings
import Derived.LoopTactic
import Derived.Deep.QuietTactic
import Derived.BigQuiet
import Derived.Test.YtmhchihcgliinaaDoorRows
/-
  The document's answer for what is read of a hash: tithingref01.ReadHash.
-/
namespace Go.Proofs.YtmhchihcgliinaaDoor
set_option maxRecDepth 20000
open Go.RowKit

/-- What a load, a store of a hash comes to: kept whole. -/
noncomputable def loadH (v : Value) (w : World) : Result Next := Sem.run Tryd.prog (execOp (fun _ => v) { dst := none, op := .load 23 (.tmp 0), type := 0, pos := "", after := #[], guard := none }) w
theorem exec_load_hash (r : Operand → Value) (x : Operand) (dst : Option Tmp) (ty : TypeId) (pos : String) (after : Array Edge) (guard : Option (Nat × Bool)) (w : World) :
    Sem.run Tryd.prog (execOp r { dst := dst, op := .load 23 x, type := ty, pos := pos, after := after, guard := guard }) w = loadH (r x) w := rfl
noncomputable def storeH (p v : Value) (w : World) : Result Next := Sem.run Tryd.prog (execOp (fun x => match x with
  | .tmp 0 => p
  | _ => v) { dst := none, op := .store 23 (.tmp 0) (.tmp 1), type := 0, pos := "", after := #[], guard := none }) w
theorem exec_store_hash (r : Operand → Value) (x y : Operand) (dst : Option Tmp) (ty : TypeId) (pos : String) (after : Array Edge) (guard : Option (Nat × Bool)) (w : World) :
    Sem.run Tryd.prog (execOp r { dst := dst, op := .store 23 x y, type := ty, pos := pos, after := after, guard := guard }) w = storeH (r x) (r y) w := rfl
/-- The world behind a store of a hash: kept whole. -/
def setH (w : World) (g : Nat) (h : List UInt8) : World := w.setRow g (hcells h)

theorem loadH_eq {w : World} {g : Nat} {t : TypeId} {h : List UInt8} (hg : w.heap[g]? = some (.cells (hcells h) t (0, 0))) (hl : h.length = 32) : loadH (.pointer (some ⟨g, 0, none⟩)) w = .ok (.value (.agg (hcells h))) w := by
  have := run_loadVar_row (P := Tryd.prog) w g t 23 (hcells h) (0, 0) _ hg under_hash rfl (by rw [size_hash, hcells_size, hl])
  unfold loadH execOp
  simp only [Instr.loadAt, Instr.sureAddr, Sem.run_bind, Sem.run_pure, Result.andThen_ok, this]
theorem storeH_eq {w : World} {g : Nat} {t : TypeId} {h h' : List UInt8} (hg : w.heap[g]? = some (.cells (hcells h) t (0, 0))) (hl : h.length = 32) (hl' : h'.length = 32) :
    storeH (.pointer (some ⟨g, 0, none⟩)) (.agg (hcells h')) w = .ok .skip (setH w g h') := by
  have := run_storeVar_row (P := Tryd.prog) w g t 23 (hcells h) (hcells h') hg (by rw [size_hash, hcells_size, hl']) (by rw [hcells_size, hcells_size, hl, hl']) (hcells_one _)
  unfold storeH execOp
  simp only [Instr.storeAt, Instr.sureAddr, Sem.run_bind, Sem.run_pure, Result.andThen_ok, this]
  rfl
theorem setH_other (w : World) {g k : Nat} (h : List UInt8) (hk : k ≠ g) : (setH w g h).heap[k]? = w.heap[k]? := setRow_other w g k _ hk
theorem setH_same {w : World} {g : Nat} {t : TypeId} {cs : Array Value} {h : List UInt8} (hg : w.heap[g]? = some (.cells cs t (0, 0))) : (setH w g h).heap[g]? = some (.cells (hcells h) t (0, 0)) := setRow_heap w g _ _ t _ hg
theorem setH_size (w : World) (g : Nat) (h : List UInt8) : (setH w g h).heap.size = w.heap.size := by simp [setH]
theorem setH_below {B g : Nat} {a w : World} {h : List UInt8} (hb : Below B a w) (hg : B ≤ g) : Below B a (setH w g h) := below_setRow hb hg _

theorem under_ref : Tryd.prog.underlying 39 = some (.struct (Tryd.prog.fieldsOf 39)) := by kernel_rfl
theorem size_ref : (Tryd.prog.info? 39).map (·.size) = some 3 := by kernel_rfl

/-- Two results that lie in memory: a reader and a hash. -/
theorem results_two {fn : Func} {p q : Tmp} (h : fn.results = #[.cell p 39, .cell q 23]) (tmps : Array Value) (w : World) (g1 g2 : Nat) (t1 t2 : TypeId) (a b c : Value) (hh : List UInt8)
    (hp : tmps.getD p undef = .pointer (some ⟨g1, 0, none⟩)) (hq : tmps.getD q undef = .pointer (some ⟨g2, 0, none⟩)) (h1 : w.heap[g1]? = some (.cells #[a, b, c] t1 (0, 0))) (h2 : w.heap[g2]? = some (.cells (hcells hh) t2 (0, 0))) (hl : hh.length = 32) :
    (results fn tmps).run Tryd.prog w = .ok (.tuple #[.agg #[a, b, c], .agg (hcells hh)]) w := by
  have hp' : tmps[p]?.getD undef = .pointer (some ⟨g1, 0, none⟩) := by simpa using hp
  have hq' : tmps[q]?.getD undef = .pointer (some ⟨g2, 0, none⟩) := by simpa using hq
  have r1 := run_loadVar_row (P := Tryd.prog) w g1 t1 39 #[a, b, c] (0, 0) _ h1 under_ref rfl (by rw [size_ref]; rfl)
  have r2 := run_loadVar_row (P := Tryd.prog) w g2 t2 23 (hcells hh) (0, 0) _ h2 under_hash rfl (by rw [size_hash, hcells_size, hl])
  simp [results, h, hp', hq', asAddr, r1, r2]

/-- What is said of a reading of a hash. -/
def RefHash (w : World) (A : Option Addr) (c : Nat) (l : List UInt8) (res : List UInt8 × Nat × Bool) (e : Ending) (w' : World) : Prop :=
  e = .returned (.tuple #[rv A l.length c res.2.1 (!res.2.2), .agg (hcells res.1)]) ∧ Below w.heap.size w w'

/-- Blocks of two hashes, of which the second is stored into the first. -/
def Good (g2 g3 : Nat) (hh : List UInt8) (w : World) : Prop := w.heap[g2]? = some (.cells (hcells nought) 23 (0, 0)) ∧ w.heap[g3]? = some (.cells (hcells hh) 23 (0, 0))
theorem Good.drew {g2 g3 : Nat} {hh : List UInt8} {w : World} (h : Good g2 g3 hh w) : Good g2 g3 hh w.drew := h
theorem Good.set {g2 g3 g : Nat} {hh : List UInt8} {w : World} (h : Good g2 g3 hh w) (h2 : g2 ≠ g) (h3 : g3 ≠ g) (i : Nat) (u : Value) : Good g2 g3 hh (w.setCell ⟨g, i, none⟩ u) :=
  ⟨(heap_setCell_other _ _ _ _ h2).trans h.1, (heap_setCell_other _ _ _ _ h3).trans h.2⟩

theorem ne_some {a b : Nat} (h : a ≠ b) : some a ≠ some b := fun e => h (Option.some.inj e)

/-- The four blocks that a reading of a hash begins with. -/
theorem four_size (w : World) (o1 o2 o3 o4 : Obj) : ((((w.alloc o1).alloc o2).alloc o3).alloc o4).heap.size = w.heap.size + 4 := by simp
theorem four_0 (w : World) (o1 o2 o3 o4 : Obj) : ((((w.alloc o1).alloc o2).alloc o3).alloc o4).heap[w.heap.size]? = some o1 := by
  rw [Below.heap_alloc _ _ _ (by simp; omega), Below.heap_alloc _ _ _ (by simp; omega), Below.heap_alloc _ _ _ (by simp)]
  exact heap_alloc_new w o1
theorem four_1 (w : World) (o1 o2 o3 o4 : Obj) : ((((w.alloc o1).alloc o2).alloc o3).alloc o4).heap[w.heap.size + 1]? = some o2 := by
  rw [Below.heap_alloc _ _ _ (by simp), Below.heap_alloc _ _ _ (by simp)]
  have := heap_alloc_new (w.alloc o1) o2
  simpa using this
theorem four_2 (w : World) (o1 o2 o3 o4 : Obj) : ((((w.alloc o1).alloc o2).alloc o3).alloc o4).heap[w.heap.size + 1 + 1]? = some o3 := by
  rw [Below.heap_alloc _ _ _ (by simp)]
  have := heap_alloc_new ((w.alloc o1).alloc o2) o3
  simpa using this
theorem four_3 (w : World) (o1 o2 o3 o4 : Obj) : ((((w.alloc o1).alloc o2).alloc o3).alloc o4).heap[w.heap.size + 1 + 1 + 1]? = some o4 := by
  have := heap_alloc_new (((w.alloc o1).alloc o2).alloc o3) o4
  simpa using this
theorem four_below (w : World) (o1 o2 o3 o4 : Obj) : Below w.heap.size w ((((w.alloc o1).alloc o2).alloc o3).alloc o4) :=
  ((((Below.refl _ _).alloc (Nat.le_refl _) _).alloc (by simp) _).alloc (by simp; omega) _).alloc (by simp; omega) _

/-- What stands behind the beginning of a reading of a hash. -/
structure Begun (w w5 : World) (C0 : Array Value) : Prop where
  below : Below w.heap.size w w5
  b0 : w5.heap[w.heap.size]? = some (.cells C0 39 (0, 0))
  b1 : w5.heap[w.heap.size + 1]? = some (.cells #[.slice none 0 0, .int .i64 0, .bool false] 39 (0, 0))
  b2 : w5.heap[w.heap.size + 1 + 1]? = some (.cells (hcells nought) 23 (0, 0))
  b3 : w5.heap[w.heap.size + 1 + 1 + 1]? = some (.cells (hcells nought) 23 (0, 0))
theorem begun {w w5 : World} {C0 : Array Value}
    (hg5 : ((((w.alloc (.cells C0 39)).alloc (.cells #[.slice none 0 0, .int .i64 0, .bool false] 39)).alloc (.cells (hcells nought) 23)).alloc (.cells (hcells nought) 23)).grownBy w5 (some (((w.alloc (.cells C0 39)).alloc (.cells #[.slice none 0 0, .int .i64 0, .bool false] 39)).alloc (.cells (hcells nought) 23)).heap.size))
    (H5 : Hid (w5.heap[(((w.alloc (.cells C0 39)).alloc (.cells #[.slice none 0 0, .int .i64 0, .bool false] 39)).alloc (.cells (hcells nought) 23)).heap.size]? = some (.cells (hcells nought) 23 (0, 0)))) : Begun w w5 C0 := by
  have hs3 : (((w.alloc (.cells C0 39)).alloc (.cells #[.slice none 0 0, .int .i64 0, .bool false] 39)).alloc (.cells (hcells nought) 23)).heap.size = w.heap.size + 1 + 1 + 1 := by simp
  have h5 := H5.out
  rw [hs3] at hg5 h5
  have hs4 := four_size w (.cells C0 39) (.cells #[.slice none 0 0, .int .i64 0, .bool false] 39) (.cells (hcells nought) 23) (.cells (hcells nought) 23)
  refine ⟨(four_below _ _ _ _ _).grown hg5 (by rw [hs4]; omega) (fun q hq => by have := Option.some.inj hq; omega), ?_, ?_, ?_, h5⟩
  · exact (hg5.block _ (by rw [hs4]; omega) (ne_some (by omega))).trans (four_0 _ _ _ _ _)
  · exact (hg5.block _ (by rw [hs4]; omega) (ne_some (by omega))).trans (four_1 _ _ _ _ _)
  · exact (hg5.block _ (by rw [hs4]; omega) (ne_some (by omega))).trans (four_2 _ _ _ _ _)

/-- The end of a reading of a hash: what has been stored into the two results is handed back. -/
theorem refHash_end {w w6 : World} {A : Option Addr} {c p : Nat} {wr : Bool} {l hh : List UInt8} {C1 : Array Value} {a : Act} (h1 : w6.heap[w.heap.size + 1]? = some (.cells C1 39 (0, 0))) (_hs : w.heap.size ≤ w6.heap.size)
    (hc : C1.size = 3) (h2 : w6.heap[w.heap.size + 1 + 1]? = some (.cells (hcells nought) 23 (0, 0))) (hl : hh.length = 32) (hb : Below w.heap.size w w6)
    (hp : a.tmps.getD 2 undef = .pointer (some ⟨w.heap.size + 1, 0, none⟩)) (hq : a.tmps.getD 3 undef = .pointer (some ⟨w.heap.size + 1 + 1, 0, none⟩)) (hd : a.defers = []) :
    bodyPost Tryd.prog Tryd.f29 (RefHash w A c l (hh, p, !wr)) .ret a
      (setH (((w6.setCell ⟨w.heap.size + 1, 0, none⟩ (.slice A l.length c)).setCell ⟨w.heap.size + 1, 1, none⟩ (.int .i64 (p : Int))).setCell ⟨w.heap.size + 1, 2, none⟩ (.bool wr)).drew (w.heap.size + 1 + 1) hh) := by
  have e1 : (setH (((w6.setCell ⟨w.heap.size + 1, 0, none⟩ (.slice A l.length c)).setCell ⟨w.heap.size + 1, 1, none⟩ (.int .i64 (p : Int))).setCell ⟨w.heap.size + 1, 2, none⟩ (.bool wr)).drew (w.heap.size + 1 + 1) hh).heap[w.heap.size + 1]? = some (.cells #[.slice A l.length c, .int .i64 (p : Int), .bool wr] 39 (0, 0)) := by
    rw [setH_other _ _ (by omega)]
    have := set_blk (set_blk (set_blk h1 0 (.slice A l.length c)) 1 (.int .i64 (p : Int))) 2 (.bool wr)
    have e : ((C1.setIfInBounds 0 (.slice A l.length c)).setIfInBounds 1 (.int .i64 (p : Int))).setIfInBounds 2 (.bool wr) = #[.slice A l.length c, .int .i64 (p : Int), .bool wr] := by
      match C1, hc with
      | ⟨[a, b, c]⟩, _ => rfl
    rw [e] at this
    exact this
  have h2' : (((w6.setCell ⟨w.heap.size + 1, 0, none⟩ (.slice A l.length c)).setCell ⟨w.heap.size + 1, 1, none⟩ (.int .i64 (p : Int))).setCell ⟨w.heap.size + 1, 2, none⟩ (.bool wr)).drew.heap[w.heap.size + 1 + 1]? = some (.cells (hcells nought) 23 (0, 0)) :=
    (heap_setCell_other _ _ _ _ (by simp)).trans ((heap_setCell_other _ _ _ _ (by simp)).trans ((heap_setCell_other _ _ _ _ (by simp)).trans h2))
  refine bodyPost_ret (results_two rfl _ _ _ _ _ _ _ _ _ hh hp hq e1 (setH_same h2') hl) hd ⟨by unfold rv; simp, ?_⟩
  exact setH_below (Below.drew (((hb.setCell (by simp) _).setCell (by simp) _).setCell (by simp) _)) (by omega)

attribute [local go_sem ↓] exec_load_hash exec_store_hash

set_option maxHeartbeats 3200000 in
theorem refHash_wrong (A : Option Addr) (c p : Nat) (l : List UInt8) (w : World) :
    Calls Tryd.prog 29 #[.agg #[.slice A l.length c, .int .i64 (p : Int), .bool true]] w (RefHash w A c l (nought, p, false)) := by
  go_enter Tryd.func29, Tryd.ntmps29
  go_wp2_with (first
    | (refine wpList_alloc_hash rfl rfl ?_)
    | (refine wpList_store_hash (h := nought) (h' := nought) rfl _ _ rfl rfl rfl (heap_alloc_new _ _) nought_length nought_length ?_; intro w5 hg5 H5 hs5; have BG := begun hg5 H5; clear hg5 H5 hs5; have j0 := cell_blk BG.b0 0; have j1 := cell_blk BG.b0 1; have j2 := cell_blk BG.b0 2; have fj2 := free_blk BG.b0 2; have i0 := cell_blk BG.b1 0; have i1 := cell_blk BG.b1 1; have i2 := cell_blk BG.b1 2; have g0 := free_blk BG.b1 0; have g1 := free_blk BG.b1 1; have g2 := free_blk BG.b1 2; simp at j0 j1 j2 i0 i1 i2))
  have hb6 : Below w.heap.size w (w5.setCell ⟨w.heap.size, 2, none⟩ (.bool true)) := BG.below.setCell (Nat.le_refl _) _
  have G6 : Good (w.heap.size + 1 + 1) (w.heap.size + 1 + 1 + 1) nought (w5.setCell ⟨w.heap.size, 2, none⟩ (.bool true)) := Good.set ⟨BG.b2, BG.b3⟩ (by omega) (by omega) _ _
  have B6 : (w5.setCell ⟨w.heap.size, 2, none⟩ (.bool true)).heap[w.heap.size + 1]? = _ := (heap_setCell_other _ _ _ _ (by simp)).trans BG.b1
  have A6 := set_blk BG.b0 2 (.bool true)
  generalize w5.setCell ⟨w.heap.size, 2, none⟩ (.bool true) = w6 at *
  clear j0 j1 j2 fj2 i0 i1 i2 g0 g1 g2
  have j0 := cell_blk A6 0
  have j1 := cell_blk A6 1
  have j2 := cell_blk A6 2
  have i0 := cell_blk B6 0
  have i1 := cell_blk B6 1
  have i2 := cell_blk B6 2
  have g0 := free_blk B6 0
  have g1 := free_blk B6 1
  have g2 := free_blk B6 2
  simp at j0 j1 j2 i0 i1 i2
  have HA6 := hid A6
  have HB6 := hid B6
  have HBG := hid BG
  have r1 : ∀ w' : World, Good (w.heap.size + 1 + 1) (w.heap.size + 1 + 1 + 1) nought w' → loadH (.pointer (some ⟨w.heap.size + 1 + 1 + 1, 0, none⟩)) w' = .ok (.value (.agg (hcells nought))) w' := fun w' h => loadH_eq h.2 nought_length
  have r2 : ∀ w' : World, Good (w.heap.size + 1 + 1) (w.heap.size + 1 + 1 + 1) nought w' → storeH (.pointer (some ⟨w.heap.size + 1 + 1, 0, none⟩)) (.agg (hcells nought)) w' = .ok .skip (setH w' (w.heap.size + 1 + 1) nought) := fun w' h => storeH_eq h.1 nought_length nought_length
  have r3 : ∀ (w' : World) (i : Nat) (u : Value), Good (w.heap.size + 1 + 1) (w.heap.size + 1 + 1 + 1) nought w' → Good (w.heap.size + 1 + 1) (w.heap.size + 1 + 1 + 1) nought (w'.setCell ⟨w.heap.size + 1, i, none⟩ u) := fun w' i u h => h.set (by omega) (by omega) i u
  have r4 : ∀ w' : World, Good (w.heap.size + 1 + 1) (w.heap.size + 1 + 1 + 1) nought w' → Good (w.heap.size + 1 + 1) (w.heap.size + 1 + 1 + 1) nought w'.drew := fun w' h => h
  have r5 : ∀ (w' : World) (j : Nat), (setH w' (w.heap.size + 1 + 1) nought).cell? ⟨w.heap.size + 1, j, none⟩ = w'.cell? ⟨w.heap.size + 1, j, none⟩ := fun w' j => World.cell?_of_block (setH_other w' nought (by simp))
  have r6 : ∀ (w' : World) (j : Nat), (setH w' (w.heap.size + 1 + 1) nought).frozen? ⟨w.heap.size + 1, j, none⟩ = w'.frozen? ⟨w.heap.size + 1, j, none⟩ := fun w' j => World.frozen?_of_block (setH_other w' nought (by simp))
  have W7 := r2 _ (r4 _ (r3 _ 2 (.bool true) (r3 _ 1 (.int .i64 (p : Int)) (r3 _ 0 (.slice A l.length c) G6))))
  have W6 := r2 _ (r4 _ G6)
  have L6 := r1 _ (r4 _ G6)
  have L7 := r1 _ (r4 _ (r3 _ 2 (.bool true) (r3 _ 1 (.int .i64 (p : Int)) (r3 _ 0 (.slice A l.length c) G6))))
  have r7 : ∀ (w' : World) (j : Nat), (setH w' (w.heap.size + 1 + 1) nought).cell? ⟨w.heap.size, j, none⟩ = w'.cell? ⟨w.heap.size, j, none⟩ := fun w' j => World.cell?_of_block (setH_other w' nought (by simp; omega))
  clear A6 B6 BG r1 r2 r3 r4
  go_region
  all_goals clear r5 r6 r7 W6 W7 L6 L7
  go_wp2_with fail
  exact refHash_end (wr := true) HB6.out hb6.size rfl G6.1 nought_length hb6 rfl rfl rfl

set_option maxHeartbeats 3200000 in
theorem refHash_short (A : Option Addr) (c p : Nat) (l : List UInt8) (w : World) (_hl : l.length ≤ 1099511627776) (hp : p ≤ l.length) (ht : (l.length : Int) - (p : Int) < 32) :
    Calls Tryd.prog 29 #[.agg #[.slice A l.length c, .int .i64 (p : Int), .bool false]] w (RefHash w A c l (nought, p, false)) := by
  go_enter Tryd.func29, Tryd.ntmps29
  go_wp2_with (first
    | (refine wpList_alloc_hash rfl rfl ?_)
    | (refine wpList_store_hash (h := nought) (h' := nought) rfl _ _ rfl rfl rfl (heap_alloc_new _ _) nought_length nought_length ?_; intro w5 hg5 H5 hs5; have BG := begun hg5 H5; clear hg5 H5 hs5; have j0 := cell_blk BG.b0 0; have j1 := cell_blk BG.b0 1; have j2 := cell_blk BG.b0 2; have fj2 := free_blk BG.b0 2; have i0 := cell_blk BG.b1 0; have i1 := cell_blk BG.b1 1; have i2 := cell_blk BG.b1 2; have g0 := free_blk BG.b1 0; have g1 := free_blk BG.b1 1; have g2 := free_blk BG.b1 2; simp at j0 j1 j2 i0 i1 i2))
  have hb6 : Below w.heap.size w (w5.setCell ⟨w.heap.size, 2, none⟩ (.bool true)) := BG.below.setCell (Nat.le_refl _) _
  have G6 : Good (w.heap.size + 1 + 1) (w.heap.size + 1 + 1 + 1) nought (w5.setCell ⟨w.heap.size, 2, none⟩ (.bool true)) := Good.set ⟨BG.b2, BG.b3⟩ (by omega) (by omega) _ _
  have B6 : (w5.setCell ⟨w.heap.size, 2, none⟩ (.bool true)).heap[w.heap.size + 1]? = _ := (heap_setCell_other _ _ _ _ (by simp)).trans BG.b1
  have A6 := set_blk BG.b0 2 (.bool true)
  generalize w5.setCell ⟨w.heap.size, 2, none⟩ (.bool true) = w6 at *
  clear j0 j1 j2 fj2 i0 i1 i2 g0 g1 g2
  have j0 := cell_blk A6 0
  have j1 := cell_blk A6 1
  have j2 := cell_blk A6 2
  have i0 := cell_blk B6 0
  have i1 := cell_blk B6 1
  have i2 := cell_blk B6 2
  have g0 := free_blk B6 0
  have g1 := free_blk B6 1
  have g2 := free_blk B6 2
  simp at j0 j1 j2 i0 i1 i2
  have HA6 := hid A6
  have HB6 := hid B6
  have HBG := hid BG
  have r1 : ∀ w' : World, Good (w.heap.size + 1 + 1) (w.heap.size + 1 + 1 + 1) nought w' → loadH (.pointer (some ⟨w.heap.size + 1 + 1 + 1, 0, none⟩)) w' = .ok (.value (.agg (hcells nought))) w' := fun w' h => loadH_eq h.2 nought_length
  have r2 : ∀ w' : World, Good (w.heap.size + 1 + 1) (w.heap.size + 1 + 1 + 1) nought w' → storeH (.pointer (some ⟨w.heap.size + 1 + 1, 0, none⟩)) (.agg (hcells nought)) w' = .ok .skip (setH w' (w.heap.size + 1 + 1) nought) := fun w' h => storeH_eq h.1 nought_length nought_length
  have r3 : ∀ (w' : World) (i : Nat) (u : Value), Good (w.heap.size + 1 + 1) (w.heap.size + 1 + 1 + 1) nought w' → Good (w.heap.size + 1 + 1) (w.heap.size + 1 + 1 + 1) nought (w'.setCell ⟨w.heap.size + 1, i, none⟩ u) := fun w' i u h => h.set (by omega) (by omega) i u
  have r4 : ∀ w' : World, Good (w.heap.size + 1 + 1) (w.heap.size + 1 + 1 + 1) nought w' → Good (w.heap.size + 1 + 1) (w.heap.size + 1 + 1 + 1) nought w'.drew := fun w' h => h
  have r5 : ∀ (w' : World) (j : Nat), (setH w' (w.heap.size + 1 + 1) nought).cell? ⟨w.heap.size + 1, j, none⟩ = w'.cell? ⟨w.heap.size + 1, j, none⟩ := fun w' j => World.cell?_of_block (setH_other w' nought (by simp))
  have r6 : ∀ (w' : World) (j : Nat), (setH w' (w.heap.size + 1 + 1) nought).frozen? ⟨w.heap.size + 1, j, none⟩ = w'.frozen? ⟨w.heap.size + 1, j, none⟩ := fun w' j => World.frozen?_of_block (setH_other w' nought (by simp))
  have W7 := r2 _ (r4 _ (r3 _ 2 (.bool true) (r3 _ 1 (.int .i64 (p : Int)) (r3 _ 0 (.slice A l.length c) G6))))
  have W6 := r2 _ (r4 _ G6)
  have L6 := r1 _ (r4 _ G6)
  have L7 := r1 _ (r4 _ (r3 _ 2 (.bool true) (r3 _ 1 (.int .i64 (p : Int)) (r3 _ 0 (.slice A l.length c) G6))))
  have r7 : ∀ (w' : World) (j : Nat), (setH w' (w.heap.size + 1 + 1) nought).cell? ⟨w.heap.size, j, none⟩ = w'.cell? ⟨w.heap.size, j, none⟩ := fun w' j => World.cell?_of_block (setH_other w' nought (by simp; omega))
  clear A6 B6 BG r1 r2 r3 r4
  go_region
  all_goals clear r5 r6 r7 W6 W7 L6 L7
  go_wp2_with fail
  exact refHash_end (wr := true) HB6.out hb6.size rfl G6.1 nought_length hb6 rfl rfl rfl

/-- What has been copied of a hash behind i rounds. -/
def partH (l : List UInt8) (p i : Nat) : List UInt8 := (l.drop p).take i ++ List.replicate (32 - i) 0
theorem partH_len {l : List UInt8} {p i : Nat} (hi : i ≤ 32) (hp : p + 32 ≤ l.length) : (partH l p i).length = 32 := by
  simp [partH]
  omega
theorem partH_set {l : List UInt8} {p i : Nat} (hi : i < 32) (hp : p + 32 ≤ l.length) : (hcells (partH l p i)).setIfInBounds i (bcell (l[p + i]'(by omega))) = hcells (partH l p (i + 1)) := by
  have hL : (bcells ((l.drop p).take i)).length = i := by rw [bcells_length, List.length_take, List.length_drop]; omega
  have e1 : partH l p i = (l.drop p).take i ++ (0 :: List.replicate (32 - (i + 1)) 0) := by
    unfold partH
    rw [show 32 - i = 32 - (i + 1) + 1 from by omega, List.replicate_succ]
  have e2 : partH l p (i + 1) = (l.drop p).take i ++ ((l[p + i]'(by omega)) :: List.replicate (32 - (i + 1)) 0) := by
    unfold partH
    have hid : i < (l.drop p).length := by rw [List.length_drop]; omega
    rw [List.take_succ_eq_append_getElem hid, List.getElem_drop, List.append_assoc]
    rfl
  rw [e1, e2]
  unfold hcells
  rw [List.setIfInBounds_toArray]
  congr 1
  rw [bcells_append, bcells_append, List.set_append, if_neg (by omega), hL, Nat.sub_self]
  rfl

set_option maxHeartbeats 3200000 in
theorem refHash_good (A : Option Addr) (c p : Nat) (l : List UInt8) (w : World) (hv : Byt w (.slice A l.length c) l) (hl : l.length ≤ 1099511627776) (hp : p + 32 ≤ l.length) :
    Calls Tryd.prog 29 #[.agg #[.slice A l.length c, .int .i64 (p : Int), .bool false]] w (RefHash w A c l ((l.drop p).take 32, p + 32, true)) := by
  obtain ⟨_, hlc, hcm, hr⟩ := hv.at_
  unfold maxLen at hcm
  obtain ⟨b, off, rfl, hblt, hcell⟩ := hr (by omega)
  have HC := hid hcell
  have ht : ¬ (l.length : Int) - (p : Int) < 32 := by omega
  clear hcell hr hv
  go_enter Tryd.func29, Tryd.ntmps29
  go_wp2_with (first
    | (refine wpList_alloc_hash rfl rfl ?_)
    | (refine wpList_store_hash (h := nought) (h' := nought) rfl _ _ rfl rfl rfl (heap_alloc_new _ _) nought_length nought_length ?_; intro w5 hg5 H5 hs5; have BG := begun hg5 H5; clear hg5 H5 hs5; have j0 := cell_blk BG.b0 0; have j1 := cell_blk BG.b0 1; have j2 := cell_blk BG.b0 2; simp at j0 j1 j2))
  have HBG := hid BG
  clear j0 j1 j2 BG
  go_loopw [5] (fun si wr => ∃ i : Nat, i ≤ 32 ∧ si = .int .i64 i ∧ Below w.heap.size w wr ∧ Hid (wr.heap[w.heap.size]? = some (.cells #[.slice (some ⟨b, off, none⟩) l.length c, .int .i64 (p : Int), .bool false] 39 (0, 0))) ∧ Hid (wr.heap[w.heap.size + 1]? = some (.cells #[.slice none 0 0, .int .i64 0, .bool false] 39 (0, 0))) ∧ Hid (wr.heap[w.heap.size + 1 + 1]? = some (.cells (hcells nought) 23 (0, 0))) ∧ Hid (wr.heap[w.heap.size + 1 + 1 + 1]? = some (.cells (hcells (partH l p i)) 23 (0, 0)))) (fun si _ => 32 - (intOf si).toNat)
  case atStart => exact ⟨0, by omega, rfl, HBG.out.below, hid HBG.out.b0, hid HBG.out.b1, hid HBG.out.b2, hid HBG.out.b3⟩
  case round =>
    obtain ⟨i, hi, rfl, hbw, Z0, Z1, Z2, Z3⟩ := hrel
    have j0 := cell_blk Z0.out 0
    have j1 := cell_blk Z0.out 1
    have j2 := cell_blk Z0.out 2
    simp at j0 j1 j2
    by_cases hlt : i < 32
    · have hil : p + i < l.length := by omega
      have hcl := (hbw.cell (p := ⟨b, off + (p + i), none⟩) hblt).trans (HC.out (p + i) hil)
      obtain ⟨x, hx0, hx1, HX⟩ : ∃ x : Int, 0 ≤ x ∧ x ≤ 255 ∧ Hid ((l[p + i].toNat : Int) = x) := ⟨_, (byte_lt l[p + i]).1, (byte_lt l[p + i]).2, hid rfl⟩
      unfold bcell at hcl
      rw [HX.out] at hcl
      have hph := partH_len (l := l) (p := p) (i := i) hi hp
      have k3 := cell_blk Z3.out i
      rw [hcells_get _ i (by omega)] at k3
      have f3 := free_blk Z3.out i
      have hi32 : (i : Int) < 32 := by omega
      have hpi : (p : Int) + (i : Int) < (l.length : Int) := by omega
      have Y3 := set_blk Z3.out i (.int .u8 x)
      have hset := partH_set (l := l) (p := p) hlt hp
      unfold bcell at hset
      rw [HX.out] at hset
      rw [hset] at Y3
      have Y0 := (heap_setCell_other wr ⟨w.heap.size + 1 + 1 + 1, i, none⟩ w.heap.size (.int .u8 x) (by first | (simp; done) | (simp; omega))).trans Z0.out
      have Y1 := (heap_setCell_other wr ⟨w.heap.size + 1 + 1 + 1, i, none⟩ (w.heap.size + 1) (.int .u8 x) (by first | (simp; done) | (simp; omega))).trans Z1.out
      have Y2 := (heap_setCell_other wr ⟨w.heap.size + 1 + 1 + 1, i, none⟩ (w.heap.size + 1 + 1) (.int .u8 x) (by first | (simp; done) | (simp; omega))).trans Z2.out
      have hbY : Below w.heap.size w (wr.setCell ⟨w.heap.size + 1 + 1 + 1, i, none⟩ (.int .u8 x)) := hbw.setCell (by simp; omega) _
      have X0 := hid Y0
      have X1 := hid Y1
      have X2 := hid Y2
      have X3 := hid Y3
      clear hset Y0 Y1 Y2 Y3
      go_wp2_with fail
      go_roundw
      case rel => exact ⟨i + 1, by omega, by go_num, hbY, X0, X1, X2, X3⟩
      case measure => simp [intOf]; omega
    · obtain rfl : i = 32 := by omega
      have f1 := free_blk Z0.out 1
      have hpart : partH l p 32 = (l.drop p).take 32 := by simp [partH]
      have hlen32 : ((l.drop p).take 32).length = 32 := by rw [List.length_take, List.length_drop]; omega
      have hq : IntKind.i64.wrap ((p : Int) + 32) = (p : Int) + 32 := IntWalk.i64_in _ (by omega)
      have hb6 : Below w.heap.size w (wr.setCell ⟨w.heap.size, 1, none⟩ (.int .i64 ((p : Int) + 32))) := hbw.setCell (Nat.le_refl _) _
      have Z3' := Z3.out
      rw [hpart] at Z3'
      have G6 : Good (w.heap.size + 1 + 1) (w.heap.size + 1 + 1 + 1) ((l.drop p).take 32) (wr.setCell ⟨w.heap.size, 1, none⟩ (.int .i64 ((p : Int) + 32))) := Good.set ⟨Z2.out, Z3'⟩ (by omega) (by omega) _ _
      have B6 : (wr.setCell ⟨w.heap.size, 1, none⟩ (.int .i64 ((p : Int) + 32))).heap[w.heap.size + 1]? = _ := (heap_setCell_other _ _ _ _ (by simp)).trans Z1.out
      have A6 := set_blk Z0.out 1 (.int .i64 ((p : Int) + 32))
      obtain ⟨HH, HHE⟩ : ∃ HH : List UInt8, Hid ((l.drop p).take 32 = HH) := ⟨_, hid rfl⟩
      rw [HHE.out] at G6 hlen32
      have HB6 := hid B6
      have HA6 := hid A6
      clear Z3' B6 A6
      go_wp2_with fail
      generalize wr.setCell ⟨w.heap.size, 1, none⟩ (.int .i64 ((p : Int) + 32)) = w6 at *
      clear j0 j1 j2 f1
      have j0 := cell_blk HA6.out 0
      have j1 := cell_blk HA6.out 1
      have j2 := cell_blk HA6.out 2
      have i0 := cell_blk HB6.out 0
      have i1 := cell_blk HB6.out 1
      have i2 := cell_blk HB6.out 2
      have g0 := free_blk HB6.out 0
      have g1 := free_blk HB6.out 1
      have g2 := free_blk HB6.out 2
      simp at j0 j1 j2 i0 i1 i2
      have r1 : ∀ w' : World, Good (w.heap.size + 1 + 1) (w.heap.size + 1 + 1 + 1) HH w' → loadH (.pointer (some ⟨w.heap.size + 1 + 1 + 1, 0, none⟩)) w' = .ok (.value (.agg (hcells HH))) w' := fun w' h => loadH_eq h.2 hlen32
      have r2 : ∀ w' : World, Good (w.heap.size + 1 + 1) (w.heap.size + 1 + 1 + 1) HH w' → storeH (.pointer (some ⟨w.heap.size + 1 + 1, 0, none⟩)) (.agg (hcells HH)) w' = .ok .skip (setH w' (w.heap.size + 1 + 1) HH) := fun w' h => storeH_eq h.1 nought_length hlen32
      have r3 : ∀ (w' : World) (i : Nat) (u : Value), Good (w.heap.size + 1 + 1) (w.heap.size + 1 + 1 + 1) HH w' → Good (w.heap.size + 1 + 1) (w.heap.size + 1 + 1 + 1) HH (w'.setCell ⟨w.heap.size + 1, i, none⟩ u) := fun w' i u h => h.set (by omega) (by omega) i u
      have r4 : ∀ w' : World, Good (w.heap.size + 1 + 1) (w.heap.size + 1 + 1 + 1) HH w' → Good (w.heap.size + 1 + 1) (w.heap.size + 1 + 1 + 1) HH w'.drew := fun w' h => h
      have r5 : ∀ (w' : World) (j : Nat), (setH w' (w.heap.size + 1 + 1) HH).cell? ⟨w.heap.size + 1, j, none⟩ = w'.cell? ⟨w.heap.size + 1, j, none⟩ := fun w' j => World.cell?_of_block (setH_other w' HH (by simp))
      have r6 : ∀ (w' : World) (j : Nat), (setH w' (w.heap.size + 1 + 1) HH).frozen? ⟨w.heap.size + 1, j, none⟩ = w'.frozen? ⟨w.heap.size + 1, j, none⟩ := fun w' j => World.frozen?_of_block (setH_other w' HH (by simp))
      have r7 : ∀ (w' : World) (j : Nat), (setH w' (w.heap.size + 1 + 1) HH).cell? ⟨w.heap.size, j, none⟩ = w'.cell? ⟨w.heap.size, j, none⟩ := fun w' j => World.cell?_of_block (setH_other w' HH (by simp; omega))
      have W7 := r2 _ (r4 _ (r3 _ 2 (.bool false) (r3 _ 1 (.int .i64 ((p : Int) + 32)) (r3 _ 0 (.slice (some ⟨b, off, none⟩) l.length c) G6))))
      have W6 := r2 _ (r4 _ G6)
      have L6 := r1 _ (r4 _ G6)
      have L7 := r1 _ (r4 _ (r3 _ 2 (.bool false) (r3 _ 1 (.int .i64 ((p : Int) + 32)) (r3 _ 0 (.slice (some ⟨b, off, none⟩) l.length c) G6))))
      clear r1 r2 r3 r4
      go_region
      clear r5 r6 r7 W6 W7 L6 L7
      go_wp2_with fail
      rw [HHE.out]
      have e32 : (p : Int) + 32 = ((p + 32 : Nat) : Int) := by omega
      rw [e32]
      exact refHash_end (wr := false) HB6.out hb6.size rfl G6.1 hlen32 hb6 rfl rfl rfl

theorem refHash_any (A : Option Addr) (c p : Nat) (r : Bool) (l : List UInt8) (w : World) (hv : Byt w (.slice A l.length c) l) (hp : p ≤ l.length) (hl : l.length ≤ 1099511627776) :
    Calls Tryd.prog 29 #[.agg #[.slice A l.length c, .int .i64 (p : Int), .bool (!r)]] w (RefHash w A c l (rdHash l p r)) := by
  cases r with
  | false =>
    have e : rdHash l p false = (nought, p, false) := by simp [rdHash, nought]
    rw [e]
    exact refHash_wrong A c p l w
  | true =>
    by_cases hfit : p + 32 ≤ l.length
    · have e : rdHash l p true = ((l.drop p).take 32, p + 32, true) := by simp [rdHash, hfit]
      rw [e]
      exact refHash_good A c p l w hv hl hfit
    · have e : rdHash l p true = (nought, p, false) := by simp [rdHash, hfit, nought]
      rw [e]
      exact refHash_short A c p l w hl hp (by omega)
end Go.Proofs.YtmhchihcgliinaaDoor

/-
  Arrays in memory and as values: n cells, of which the j-th is f j. Words of 32 bits. Laws for the walk; no function of the program.
-/
namespace Go.Proofs.YtmhchihcgliinaaDoor
set_option maxRecDepth 20000
open Go.RowKit

/-- A word's number, and its cell. -/
def wv (x : UInt32) : Int := (x.toNat : Int)
def wc (x : UInt32) : Value := .int .u32 (wv x)
theorem wv_lt (x : UInt32) : 0 ≤ wv x ∧ wv x ≤ 4294967295 := by
  have := x.toNat_lt
  unfold wv
  omega
theorem wv_inj {x y : UInt32} (h : wv x = wv y) : x = y := UInt32.toNat_inj.1 (by unfold wv at h; omega)

/-- n cells, of which the j-th is f j. -/
def fcells (n : Nat) (f : Nat → Value) : Array Value := Array.ofFn (fun i : Fin n => f i.val)
theorem fcells_size (n : Nat) (f : Nat → Value) : (fcells n f).size = n := by simp [fcells]
theorem fcells_get {n i : Nat} (f : Nat → Value) (h : i < n) : (fcells n f)[i]? = some (f i) := by simp [fcells, h]
theorem fcells_out {n i : Nat} (f : Nat → Value) (h : ¬ i < n) : (fcells n f)[i]? = none := by simp [fcells]; omega
theorem fcells_congr {n : Nat} {f g : Nat → Value} (h : ∀ i, i < n → f i = g i) : fcells n f = fcells n g := by
  apply Array.ext (by simp [fcells])
  intro i hi _
  simp [fcells] at hi ⊢
  exact h i hi
theorem fcells_set {n i : Nat} (f : Nat → Value) (v : Value) (h : i < n) : (fcells n f).setIfInBounds i v = fcells n (fun j => if j = i then v else f j) := by
  apply Array.ext_getElem?
  intro j
  by_cases hj : j < n
  · rw [fcells_get _ hj, Array.getElem?_setIfInBounds]
    by_cases e : i = j
    · subst e
      rw [if_pos rfl, if_pos (by rw [fcells_size]; exact h), if_pos rfl]
    · rw [if_neg e, fcells_get _ hj, if_neg (fun h => e h.symm)]
  · rw [fcells_out _ hj, Array.getElem?_setIfInBounds, if_neg (by omega), fcells_out _ hj]
theorem fcells_one {n : Nat} {f : Nat → Value} (h : ∀ i, i < n → (f i).oneCell' = true) : (fcells n f).all (·.oneCell') = true := by
  rw [Array.all_eq_true_iff_forall_mem]
  intro v hv
  simp only [fcells, Array.mem_ofFn] at hv
  obtain ⟨i, rfl⟩ := hv
  exact h i i.2
theorem fcells_list (n : Nat) (f : Nat → Value) (i : Nat) : (fcells n f).toList[i]? = if i < n then some (f i) else none := by
  rw [Array.getElem?_toList]
  split
  · exact fcells_get f ‹_›
  · exact fcells_out f ‹_›
theorem fcells_of {cs : Array Value} {n : Nat} (h : cs.size = n) : cs = fcells n (fun j => cs.getD j undef) := by
  subst h
  apply Array.ext_getElem?
  intro j
  by_cases hj : j < cs.size
  · rw [fcells_get _ hj]
    simp [hj]
  · rw [fcells_out _ hj]
    simp; omega

/-- Block g has n cells, of which the j-th is f j. -/
def Blk (w : World) (g n : Nat) (f : Nat → Value) (t : TypeId) : Prop := w.heap[g]? = some (.cells (fcells n f) t (0, 0))

section
variable {w w' : World} {g n : Nat} {f f' : Nat → Value} {t : TypeId}
theorem Blk.lt (h : Blk w g n f t) : g < w.heap.size := lt_of_block h
theorem Blk.cell (h : Blk w g n f t) {i : Nat} (hi : i < n) : w.cell? ⟨g, i, none⟩ = some (f i) := (cell_of_row w g i _ t (0, 0) h).trans (fcells_get f hi)
theorem Blk.free (h : Blk w g n f t) (i : Nat) : w.frozen? ⟨g, i, none⟩ = false := frozen_of_row w g i _ t h
theorem Blk.congr (h : Blk w g n f t) (e : ∀ i, i < n → f i = f' i) : Blk w g n f' t := by
  unfold Blk at h ⊢
  rw [h, fcells_congr e]
theorem Blk.set (h : Blk w g n f t) {i : Nat} (hi : i < n) (v : Value) : Blk (w.setCell ⟨g, i, none⟩ v) g n (fun j => if j = i then v else f j) t := by
  unfold Blk
  rw [heap_setCell_same w g i _ t v h, fcells_set f v hi]
theorem Blk.apart (h : Blk w g n f t) {k : Nat} (i : Nat) (v : Value) (hk : g ≠ k) : Blk (w.setCell ⟨k, i, none⟩ v) g n f t := (heap_setCell_other w _ g v hk).trans h
theorem Blk.below {B : Nat} (h : Blk w g n f t) (hb : Below B w w') (hg : g < B) : Blk w' g n f t := (hb.block g hg).trans h
theorem Blk.keep (h : Blk w g n f t) (hb : Below w.heap.size w w') : Blk w' g n f t := h.below hb h.lt
theorem Blk.grown (h : Blk w g n f t) {row : Option Nat} (hg : w.grownBy w' row) (hr : row ≠ some g) : Blk w' g n f t := (hg.block g h.lt (fun e => hr e.symm)).trans h
theorem Blk.drew (h : Blk w g n f t) : Blk w.drew g n f t := h
theorem Blk.drewN (h : Blk w g n f t) (k : Nat) : Blk (w.drewN k) g n f t := h
theorem Blk.alloc (h : Blk w g n f t) (o : Obj) : Blk (w.alloc o) g n f t := (Below.heap_alloc w o g h.lt).trans h
theorem Blk.new (w : World) (n : Nat) (f : Nat → Value) (t : TypeId) : Blk (w.alloc (.cells (fcells n f) t)) w.heap.size n f t := heap_alloc_new w _
theorem Blk.range (h : Blk w g n f t) {o m : Nat} {f' : Nat → Value} (ho : o + m ≤ n) (e : ∀ j, j < m → f (o + j) = f' j) : w.rangeAt g o (fcells m f').toList := fun j v hv => by
  rw [fcells_list] at hv
  split at hv
  · rename_i hj
    injection hv with hv
    rw [h.cell (by omega), e j hj, hv]
  · cases hv
theorem Blk.there (h : Blk w g n f t) {o m : Nat} (ho : o + m ≤ n) : w.there g o m := fun j hj => ⟨by rw [h.cell (by omega)]; rfl, h.free _⟩
theorem setCells_blk : ∀ (vs : List Value) (o : Nat) (w : World) (f : Nat → Value), Blk w g n f t → o + vs.length ≤ n → Blk (w.setCells g o vs) g n (fun j => if o ≤ j ∧ j < o + vs.length then vs.getD (j - o) undef else f j) t
  | [], o, w, f, h, _ => h.congr fun i _ => by rw [if_neg (by simp)]
  | v :: r, o, w, f, h, ho => by
    have hl : (v :: r).length = r.length + 1 := rfl
    refine (setCells_blk r (o + 1) _ _ (h.set (i := o) (by omega) v) (by omega)).congr fun i _ => ?_
    by_cases h1 : o + 1 ≤ i ∧ i < o + 1 + r.length
    · rw [if_pos h1, if_pos (by omega), show i - o = (i - (o + 1)) + 1 from by omega]
      rfl
    · rw [if_neg h1]
      by_cases h2 : i = o
      · subst h2
        rw [if_pos rfl, if_pos (by omega), Nat.sub_self]
        rfl
      · rw [if_neg h2, if_neg (by omega)]
theorem setCells_other (g : Nat) : ∀ (vs : List Value) (o : Nat) (w : World) (k : Nat), k ≠ g → (w.setCells g o vs).heap[k]? = w.heap[k]?
  | [], _, _, _, _ => rfl
  | _ :: r, o, _, k, hk => (setCells_other g r (o + 1) _ k hk).trans (heap_setCell_other _ _ _ _ hk)
theorem setCells_size (g : Nat) : ∀ (vs : List Value) (o : Nat) (w : World), (w.setCells g o vs).heap.size = w.heap.size
  | [], _, _ => rfl
  | _ :: r, o, _ => (setCells_size g r (o + 1) _).trans (by simp [World.setCell])
theorem grown_setCell (w : World) (g i : Nat) (u : Value) : w.grownBy (w.setCell ⟨g, i, none⟩ u) (some g) :=
  ⟨rfl, rfl, rfl, by simp [World.setCell], fun k _ hk => heap_setCell_other w _ k u (fun e => hk (by rw [e]))⟩
theorem grown_setCells (g : Nat) : ∀ (vs : List Value) (o : Nat) (w : World), w.grownBy (w.setCells g o vs) (some g)
  | [], _, w => World.grownBy.refl w _
  | v :: r, o, w => (grown_setCell w g o v).trans (grown_setCells g r (o + 1) _)
theorem grown_below {w w' : World} (h : Below w.heap.size w w') (row : Option Nat) : w.grownBy w' row := ⟨h.os, h.tape, h.output, h.size, fun k hk _ => h.block k hk⟩
theorem grown_drewF {a b : World} {row : Option Nat} (h : a.grownBy b row) (n : Nat) : a.grownBy (b.drewN n) row := ⟨h.os, h.tape, h.output, h.size, h.block⟩
theorem below_set {B : Nat} {a w : World} (hb : Below B a w) {g : Nat} (hg : B ≤ g) (i : Nat) (u : Value) : Below B a (w.setCell ⟨g, i, none⟩ u) := hb.setCell hg u
/-- What is written into a block of the call's own leaves all that was. -/
theorem below_into {B : Nat} {a w w' : World} (hb : Below B a w) {g : Nat} (hg : B ≤ g) (h : w.grownBy w' (some g)) (hs : B ≤ w.heap.size) : Below B a w' := hb.grown h hs (fun k hk => by injection hk; omega)
end

/-- What is known of a type of arrays of one-cell elements. -/
structure ArrT (T E : TypeId) (n : Nat) (z : Value) : Prop where
  zero : (Tryd.prog.info? T).bind (·.zero) = some (.agg (fcells n fun _ => z))
  size : (Tryd.prog.info? T).map (·.size) = some n
  under : Tryd.prog.underlying T = some (.array n E)
  esize : (Tryd.prog.info? E).map (·.size) = some 1
  plain : Tryd.prog.plainKey E = true
  ecells : Tryd.prog.cellsOf E = 1
  zone : z.oneCell' = true

theorem arrS : ArrT 83 82 8 (wc 0) := ⟨by kernel_rfl, by kernel_rfl, by kernel_rfl, by kernel_rfl, by kernel_rfl, by kernel_rfl, rfl⟩
theorem arrW : ArrT 90 82 64 (wc 0) := ⟨by kernel_rfl, by kernel_rfl, by kernel_rfl, by kernel_rfl, by kernel_rfl, by kernel_rfl, rfl⟩
theorem arrB : ArrT 78 5 64 (bcell 0) := ⟨by kernel_rfl, by kernel_rfl, by kernel_rfl, by kernel_rfl, by kernel_rfl, by kernel_rfl, rfl⟩
theorem arrH : ArrT 23 5 32 (bcell 0) := ⟨by kernel_rfl, by kernel_rfl, by kernel_rfl, by kernel_rfl, by kernel_rfl, by kernel_rfl, rfl⟩

section
variable {T E : TypeId} {n : Nat} {z : Value}
theorem ArrT.run_zero (H : ArrT T E n z) (w : World) : (zeroValue T).run Tryd.prog w = .ok (.agg (fcells n fun _ => z)) w := by
  have h := H.zero
  cases hq : Tryd.prog.info? T with
  | none => rw [hq] at h; cases h
  | some i =>
    rw [hq] at h
    have hz : i.zero = some (.agg (fcells n fun _ => z)) := h
    simp [zeroValue, typeInfo, hq, hz]
theorem ArrT.run_esize (H : ArrT T E n z) (w : World) : (sizeOf E).run Tryd.prog w = .ok 1 w := by
  have h := H.esize
  cases hq : Tryd.prog.info? E with
  | none => rw [hq] at h; cases h
  | some i =>
    rw [hq] at h
    have hz : i.size = 1 := by simpa using h
    simp [sizeOf, typeInfo, hq, hz]

theorem wpList_alloc_arr (H : ArrT T E n z) {ops : Array Oper} {rest : List Oper} {o : Oper} {a : Act} {w : World} {Q : Exit → Act → World → Prop} (hgd : o.guard = none) (ho : o.op = .alloc T)
    (h : wpList Tryd.prog ops Q rest (a.put o.dst (.pointer (some ⟨w.heap.size, 0, none⟩))) (w.alloc (.cells (fcells n fun _ => z) T))) : wpList Tryd.prog ops Q (o :: rest) a w :=
  wpList_plain hgd fun _ hK => by
    unfold Oper.wp execOp
    simp only [ho, Sem.run_bind, Instr.alloc, H.run_zero, newVar, newRow, run_newObj_alloc, Sem.run_pure, Result.andThen_ok, Value.cells]
    exact hK _ _ h

theorem wpList_zero_arr (H : ArrT T E n z) {ops : Array Oper} {rest : List Oper} {o : Oper} {a : Act} {w : World} {Q : Exit → Act → World → Prop} (hgd : o.guard = none) (ho : o.op = .build T #[])
    (h : wpList Tryd.prog ops Q rest (a.put o.dst (.agg (fcells n fun _ => z))) w) : wpList Tryd.prog ops Q (o :: rest) a w :=
  wpList_plain hgd fun _ hK => by
    have e : (Instr.build T #[]).run Tryd.prog w = .ok (.agg (fcells n fun _ => z)) w := by
      simp [Instr.build, Sem.run_bind, H.run_zero, run_underlying H.under, H.run_esize, Instr.fill, Value.cells]
    unfold Oper.wp execOp
    simp only [ho, Sem.run_bind, List.map_toArray, List.map_nil, e, Sem.run_pure, Result.andThen_ok]
    exact hK _ _ h

theorem wpList_load_arr (H : ArrT T E n z) {ops : Array Oper} {rest : List Oper} {o : Oper} {a : Act} {w : World} {Q : Exit → Act → World → Prop} (hgd : o.guard = none) (x : Operand) (ho : o.op = .load T x)
    {g : Nat} {t : TypeId} {f : Nat → Value} (hx : a.eval x = .pointer (some ⟨g, 0, none⟩)) (hg : Blk w g n f t)
    (hh : wpList Tryd.prog ops Q rest (a.put o.dst (.agg (fcells n f))) w) : wpList Tryd.prog ops Q (o :: rest) a w :=
  wpList_load_row hgd _ x ho g hx t (fcells n f) (0, 0) _ hg H.under rfl (by rw [H.size, fcells_size]) hh

theorem wpList_store_arr (H : ArrT T E n z) {ops : Array Oper} {rest : List Oper} {o : Oper} {a : Act} {w : World} {Q : Exit → Act → World → Prop} (hgd : o.guard = none) (x y : Operand) (ho : o.op = .store T x y)
    {g : Nat} {t : TypeId} {f f' : Nat → Value} (hx : a.eval x = .pointer (some ⟨g, 0, none⟩)) (hy : a.eval y = .agg (fcells n f')) (hg : Blk w g n f t) (h1 : ∀ i, i < n → (f' i).oneCell' = true)
    (hh : ∀ w', w.grownBy w' (some g) → Blk w' g n f' t → w'.heap.size = w.heap.size → wpList Tryd.prog ops Q rest (a.put o.dst undef) w') : wpList Tryd.prog ops Q (o :: rest) a w :=
  wpList_store_row hgd _ x y ho g (fcells n f') hx hy t (fcells n f) hg (by rw [H.size, fcells_size]) (by rw [fcells_size, fcells_size]) (fcells_one h1)
    (hh _ ⟨rfl, rfl, rfl, by simp, fun k _ hk => setRow_other w g k _ (fun e => hk (by simp [e]))⟩ (setRow_heap w g _ _ t _ hg) (by simp))

theorem ArrT.load_mid (H : ArrT T E n z) {w : World} {g N o : Nat} {f f' : Nat → Value} {t : TypeId} (hg : Blk w g N f t) (ho : o + n ≤ N) (e : ∀ j, j < n → f (o + j) = f' j) :
    (Instr.loadAt T (.pointer (some ⟨g, o, none⟩))).run Tryd.prog w = .ok (.agg (fcells n f')) w := by
  have := run_loadAt_mid (P := Tryd.prog) w g o T (fcells n f').toList _ (hg.range ho e) H.under rfl (by rw [H.size, Array.length_toList, fcells_size])
  rw [Array.toArray_toList] at this
  exact this
theorem ArrT.store_mid (H : ArrT T E n z) {w : World} {g N o : Nat} {f f' : Nat → Value} {t : TypeId} (hg : Blk w g N f t) (ho : o + n ≤ N) (h1 : ∀ i, i < n → (f' i).oneCell' = true) :
    ∃ w', (Instr.storeAt T (.pointer (some ⟨g, o, none⟩)) (.agg (fcells n f'))).run Tryd.prog w = .ok () w' ∧ w.grownBy w' (some g) ∧ Blk w' g N (fun j => if o ≤ j ∧ j < o + n then f' (j - o) else f j) t ∧ w'.heap.size = w.heap.size := by
  refine ⟨_, run_storeAt_mid (P := Tryd.prog) w g o T (fcells n f') (hg.there (by rw [fcells_size]; exact ho)) (by rw [H.size, fcells_size]) (fcells_one h1), grown_setCells g _ _ _, ?_, setCells_size g _ _ _⟩
  have hl : (fcells n f').toList.length = n := by rw [Array.length_toList, fcells_size]
  refine (setCells_blk _ _ _ _ hg (by rw [hl]; exact ho)).congr fun i _ => ?_
  rw [hl]
  by_cases h : o ≤ i ∧ i < o + n
  · rw [if_pos h, if_pos h, List.getD_eq_getElem?_getD, fcells_list, if_pos (by omega)]
    rfl
  · rw [if_neg h, if_neg h]

theorem ArrT.run_index (H : ArrT T E n z) (f : Nat → Value) {i : Nat} (hi : i < n) (w : World) : (Instr.index T (.agg (fcells n f)) (.int .i64 (i : Int))).run Tryd.prog w = .ok (f i) w := by
  have h := run_part_plain (P := Tryd.prog) w H.plain (fcells_get f hi)
  simp [Instr.index, asIntOf, Sem.run_bind, run_underlying H.under, H.run_esize, h, hi]

/-- An array is the same as itself. -/
theorem ArrT.eq_self (H : ArrT T E n z) {k : IntKind} (hu : Tryd.prog.underlying E = some (.int k)) {f : Nat → Value} {a : Nat → Int} (hf : ∀ i, i < n → f i = .int k (a i)) (w : World) :
    (Op.equalIn 10000 T (.agg (fcells n f)) (.agg (fcells n f))).run Tryd.prog w = .ok true w := by
  have hs := H.esize
  cases hi : Tryd.prog.info? E with
  | none => rw [hi] at hs; cases hs
  | some i0 =>
    rw [run_equalIn_array w 9999 _ _ H.under hi, H.ecells]
    have all : ∀ is : List Nat, (∀ i ∈ is, i < n) → (Op.eqItems 9999 E 1 (fcells n f) (fcells n f) is).run Tryd.prog w = .ok true w := by
      intro is
      induction is with
      | nil => intro _; simp [Op.eqItems]
      | cons i is ih =>
        intro h
        have hin := h i (by simp)
        have ih' := ih (fun j hj => h j (List.mem_cons_of_mem _ hj))
        have pa := run_part_plain (P := Tryd.prog) w H.plain (fcells_get f hin)
        rw [hf i hin] at pa
        have pe := run_equalIn_int (P := Tryd.prog) w 9998 E k k (a i) (a i) hu
        simp only [Op.eqItems, Sem.run_bind, Nat.mul_one, pa, pe, Result.andThen_ok]
        simp [ih']
    exact all _ (fun i h => List.mem_range.1 h)
end

/-- A result that lies in memory: an array. -/
theorem ArrT.result {T E : TypeId} {n : Nat} {z : Value} (H : ArrT T E n z) {fn : Func} {p : Tmp} (h : fn.results = #[.cell p T]) (tmps : Array Value) (w : World) {g : Nat} {t : TypeId} {f : Nat → Value}
    (hp : tmps.getD p undef = .pointer (some ⟨g, 0, none⟩)) (hg : Blk w g n f t) : (results fn tmps).run Tryd.prog w = .ok (.agg (fcells n f)) w :=
  results_cell_row h tmps w g t (fcells n f) (0, 0) _ hp hg H.under rfl (by rw [H.size, fcells_size])
end Go.Proofs.YtmhchihcgliinaaDoor

/-
  A hash that lies amid a row: a load of it.
-/
namespace Go.Proofs.YtmhchihcgliinaaDoor
set_option maxRecDepth 20000
open Go.RowKit

/-- A load of a hash out of a row. -/
theorem loadH_mid {w : World} {g o : Nat} {h : List UInt8} (hr : w.rangeAt g o (bcells h)) (hl : h.length = 32) : loadH (.pointer (some ⟨g, o, none⟩)) w = .ok (.value (.agg (hcells h))) w := by
  have := run_loadAt_mid (P := Tryd.prog) w g o 23 (bcells h) _ hr under_hash rfl (by rw [size_hash, bcells_length, hl])
  unfold loadH execOp
  simp only [Sem.run_bind, this, Result.andThen_ok, Sem.run_pure]
  rfl
/-! A hash that is stored amid a row. -/
def putAt (C : Array Value) (o : Nat) : List Value → Array Value
  | [] => C
  | v :: r => putAt (C.setIfInBounds o v) (o + 1) r
theorem setCells_row {g : Nat} {t : TypeId} : ∀ (vs : List Value) (o : Nat) (w : World) (C : Array Value), w.heap[g]? = some (.cells C t (0, 0)) → (w.setCells g o vs).heap[g]? = some (.cells (putAt C o vs) t (0, 0))
  | [], _, _, _, h => h
  | v :: r, o, w, C, h => setCells_row r (o + 1) (w.setCell ⟨g, o, none⟩ v) (C.setIfInBounds o v) (set_blk h o v)
theorem putAt_mid : ∀ (vs pre old post : List Value), old.length = vs.length → putAt (pre ++ (old ++ post)).toArray pre.length vs = (pre ++ (vs ++ post)).toArray
  | [], pre, old, post, h => by
    obtain rfl : old = [] := List.eq_nil_of_length_eq_zero h
    rfl
  | v :: r, pre, o :: old, post, h => by
    have e : (pre ++ (o :: old ++ post)).toArray.setIfInBounds pre.length v = ((pre ++ [v]) ++ (old ++ post)).toArray := by
      simp
    have e2 : pre.length + 1 = (pre ++ [v]).length := by simp
    unfold putAt
    rw [e, e2, putAt_mid r (pre ++ [v]) old post (by simpa using h)]
    simp
  | _ :: _, _, [], _, h => by cases h
theorem wpList_store_midh {ops : Array Oper} {rest : List Oper} {o : Oper} {a : Act} {w : World} {Q : Exit → Act → World → Prop} (hgd : o.guard = none) (x y : Operand) (ho : o.op = .store 23 x y)
    {g k : Nat} {t : TypeId} {pre old post : List Value} {h : List UInt8} (hx : a.eval x = .pointer (some ⟨g, k, none⟩)) (hy : a.eval y = .agg (hcells h)) (hg : w.heap[g]? = some (.cells (pre ++ (old ++ post)).toArray t (0, 0))) (hk : k = pre.length) (hold : old.length = 32) (hl : h.length = 32)
    (hh : ∀ w', w.grownBy w' (some g) → w'.heap[g]? = some (.cells (pre ++ (bcells h ++ post)).toArray t (0, 0)) → w'.heap.size = w.heap.size → wpList Tryd.prog ops Q rest (a.put o.dst undef) w') : wpList Tryd.prog ops Q (o :: rest) a w := by
  subst hk
  refine wpList_store_mid hgd _ x y ho (b := g) (o := pre.length) (cells := hcells h) hx hy (fun j hj => ⟨?_, free_blk hg _⟩) (by rw [size_hash, hcells_size, hl]) (hcells_one _) ?_
  · rw [hcells_size, hl] at hj
    rw [cell_blk hg, List.getElem?_toArray, List.getElem?_append_right (by omega), Nat.add_sub_cancel_left, List.getElem?_append_left (by omega), List.getElem?_eq_getElem (by omega)]
    rfl
  · rw [hcells_list]
    refine hh _ (grown_setCells g _ _ _) ?_ (setCells_size g _ _ _)
    have := setCells_row (bcells h) pre.length w _ hg
    rw [putAt_mid (bcells h) pre old post (by rw [bcells_length, hl, hold])] at this
    exact this
end Go.Proofs.YtmhchihcgliinaaDoor

/-
  Attestations in memory: their cells, a boxed one, loads and stores of a whole one.
-/
namespace Go.Proofs.YtmhchihcgliinaaDoor
set_option maxRecDepth 20000
open Go.RowKit

/-- An attestation's cells. -/
def atl (a : AtM) : List Value := [.int .i64 a.bo, .int .i64 a.ki, .int .i64 a.vi, .int .i64 a.ph] ++ (bcells a.ha ++ ([.int .i64 a.pv] ++ (bcells a.pa ++ bcells a.tg)))
def atc (a : AtM) : Array Value := (atl a).toArray
theorem atl_length {a : AtM} (h : a.Ok) : (atl a).length = 101 := by
  have := h.ha
  have := h.pa
  have := h.tg
  unfold atl
  simp only [List.length_append, bcells_length, List.length_cons, List.length_nil]
  omega
theorem atc_size {a : AtM} (h : a.Ok) : (atc a).size = 101 := by
  unfold atc
  rw [List.size_toArray, atl_length h]
/-- An attestation is boxed in g. -/
def BoxA (w : World) (g : Nat) (a : AtM) : Prop := w.heap[g]? = some (.cells (atc a) 25 (0, 0))
section
variable {w w' : World} {g : Nat} {a : AtM}
theorem BoxA.new (w : World) (a : AtM) : BoxA (w.alloc (.cells (atc a) 25)) w.heap.size a := heap_alloc_new w _
theorem BoxA.lt (h : BoxA w g a) : g < w.heap.size := lt_of_block h
theorem BoxA.below {B : Nat} (h : BoxA w g a) (hb : Below B w w') (hg : g < B) : BoxA w' g a := (hb.block g hg).trans h
theorem BoxA.keep (h : BoxA w g a) (hb : Below w.heap.size w w') : BoxA w' g a := h.below hb h.lt
theorem BoxA.free (h : BoxA w g a) (i : Nat) : w.frozen? ⟨g, i, none⟩ = false := free_blk h i
theorem BoxA.cell (h : BoxA w g a) (i : Nat) : w.cell? ⟨g, i, none⟩ = (atl a)[i]? := by
  rw [cell_blk h i]
  unfold atc
  rw [List.getElem?_toArray]
theorem BoxA.cells (h : BoxA w g a) : w.cell? ⟨g, 0, none⟩ = some (.int .i64 a.bo) ∧ w.cell? ⟨g, 1, none⟩ = some (.int .i64 a.ki) ∧ w.cell? ⟨g, 2, none⟩ = some (.int .i64 a.vi) ∧ w.cell? ⟨g, 3, none⟩ = some (.int .i64 a.ph) :=
  ⟨h.cell 0, h.cell 1, h.cell 2, h.cell 3⟩
theorem BoxA.range0 (h : BoxA w g a) {pre l post : List Value} (e : atl a = pre ++ (l ++ post)) : w.rangeAt g pre.length l := fun j u hu => by
  rw [h.cell, e, List.getElem?_append_right (by omega), Nat.add_sub_cancel_left, List.getElem?_append_left (List.getElem?_eq_some_iff.1 hu).1]
  exact hu
theorem BoxA.pv (h : BoxA w g a) (ho : a.Ok) : w.cell? ⟨g, 36, none⟩ = some (.int .i64 a.pv) := by
  have := h.range0 (pre := [.int .i64 a.bo, .int .i64 a.ki, .int .i64 a.vi, .int .i64 a.ph] ++ bcells a.ha) (l := [.int .i64 a.pv]) (post := bcells a.pa ++ bcells a.tg) (by unfold atl; simp only [List.append_assoc]) 0 _ rfl
  rw [List.length_append, bcells_length, ho.ha] at this
  exact this
theorem BoxA.hash (h : BoxA w g a) : w.rangeAt g 4 (bcells a.ha) := h.range0 (pre := [.int .i64 a.bo, .int .i64 a.ki, .int .i64 a.vi, .int .i64 a.ph]) rfl
theorem BoxA.phash (h : BoxA w g a) (ho : a.Ok) : w.rangeAt g 37 (bcells a.pa) := by
  have := h.range0 (pre := [.int .i64 a.bo, .int .i64 a.ki, .int .i64 a.vi, .int .i64 a.ph] ++ (bcells a.ha ++ [.int .i64 a.pv])) (l := bcells a.pa) (post := bcells a.tg) (by unfold atl; simp only [List.append_assoc])
  rw [List.length_append, List.length_append, bcells_length, ho.ha] at this
  exact this
theorem BoxA.tag (h : BoxA w g a) (ho : a.Ok) : w.rangeAt g 69 (bcells a.tg) := by
  have := h.range0 (pre := [.int .i64 a.bo, .int .i64 a.ki, .int .i64 a.vi, .int .i64 a.ph] ++ (bcells a.ha ++ ([.int .i64 a.pv] ++ bcells a.pa))) (l := bcells a.tg) (post := []) (by unfold atl; simp only [List.append_assoc, List.append_nil])
  rw [List.length_append, List.length_append, List.length_append, bcells_length, bcells_length, ho.ha, ho.pa] at this
  exact this
end

/-- A load of a whole attestation: kept whole. -/
noncomputable def loadAtt (v : Value) (w : World) : Result Next := Sem.run Tryd.prog (execOp (fun _ => v) { dst := none, op := .load 25 (.tmp 0), type := 0, pos := "", after := #[], guard := none }) w
theorem exec_load_att (r : Operand → Value) (x : Operand) (dst : Option Tmp) (ty : TypeId) (pos : String) (after : Array Edge) (guard : Option (Nat × Bool)) (w : World) :
    Sem.run Tryd.prog (execOp r { dst := dst, op := .load 25 x, type := ty, pos := pos, after := after, guard := guard }) w = loadAtt (r x) w := rfl
theorem under_att : Tryd.prog.underlying 25 = some (.struct (Tryd.prog.fieldsOf 25)) := by kernel_rfl
theorem size_att : (Tryd.prog.info? 25).map (·.size) = some 101 := by kernel_rfl
theorem loadAtt_row {w : World} {g : Nat} {C : Array Value} {T : TypeId} (h : w.heap[g]? = some (.cells C T (0, 0))) (hs : C.size = 101) : loadAtt (.pointer (some ⟨g, 0, none⟩)) w = .ok (.value (.agg C)) w := by
  have := run_loadAt_mid (P := Tryd.prog) w g 0 25 C.toList _ (fun j v hj => by rw [Nat.zero_add, cell_blk h j]; simpa using hj) under_att rfl (by rw [size_att]; simp [hs])
  simp only [Array.toArray_toList] at this
  unfold loadAtt execOp
  simp only [Sem.run_bind, this, Result.andThen_ok, Sem.run_pure]
theorem loadAtt_eq {w : World} {g : Nat} {a : AtM} (h : BoxA w g a) (ho : a.Ok) : loadAtt (.pointer (some ⟨g, 0, none⟩)) w = .ok (.value (.agg (atc a))) w := loadAtt_row h (atc_size ho)
theorem atl_one (a : AtM) : ∀ u ∈ atl a, u.oneCell' = true := by
  intro u hu
  unfold atl at hu
  simp only [List.mem_append, List.mem_cons, List.not_mem_nil, or_false] at hu
  rcases hu with (rfl | rfl | rfl | rfl) | hu | rfl | hu | hu
  · rfl
  · rfl
  · rfl
  · rfl
  · exact bcells_one _ u hu
  · rfl
  · exact bcells_one _ u hu
  · exact bcells_one _ u hu
theorem atc_one (a : AtM) : (atc a).all (·.oneCell') = true := all_oneCell_toArray (atl_one a)
theorem zero_att : (Tryd.prog.info? 25).bind (·.zero) = some (.agg (atc atZ)) := by kernel_rfl
theorem run_zero_att (w : World) : (zeroValue 25).run Tryd.prog w = .ok (.agg (atc atZ)) w := by
  have h := zero_att
  cases hq : Tryd.prog.info? 25 with
  | none => rw [hq] at h; cases h
  | some i =>
    rw [hq] at h
    have hz : i.zero = some (.agg (atc atZ)) := h
    simp [zeroValue, typeInfo, hq, hz]
/-- The attestation that has nothing. -/
noncomputable def buildAtt (w : World) : Result Next := Sem.run Tryd.prog (execOp (fun _ => undef) { dst := none, op := .build 25 #[], type := 0, pos := "", after := #[], guard := none }) w
theorem exec_build_att (r : Operand → Value) (dst : Option Tmp) (ty : TypeId) (pos : String) (after : Array Edge) (guard : Option (Nat × Bool)) (w : World) :
    Sem.run Tryd.prog (execOp r { dst := dst, op := .build 25 #[], type := ty, pos := pos, after := after, guard := guard }) w = buildAtt w := by
  unfold buildAtt execOp
  simp
theorem buildAtt_eq (w : World) : buildAtt w = .ok (.value (.agg (atc atZ))) w := by
  unfold buildAtt
  go_simp
  rfl
/-- A variable for an attestation. -/
noncomputable def allocAtt (w : World) : Result Next := Sem.run Tryd.prog (execOp (fun _ => undef) { dst := none, op := .alloc 25, type := 0, pos := "", after := #[], guard := none }) w
theorem exec_alloc_att (r : Operand → Value) (dst : Option Tmp) (ty : TypeId) (pos : String) (after : Array Edge) (guard : Option (Nat × Bool)) (w : World) :
    Sem.run Tryd.prog (execOp r { dst := dst, op := .alloc 25, type := ty, pos := pos, after := after, guard := guard }) w = allocAtt w := rfl
theorem allocAtt_eq (w : World) : allocAtt w = .ok (.value (.pointer (some ⟨w.heap.size, 0, none⟩))) (w.alloc (.cells (atc atZ) 25)) := by
  unfold allocAtt execOp
  simp only [Sem.run_bind, Instr.alloc, run_zero_att, newVar, newRow, run_newObj_alloc, Sem.run_pure, Result.andThen_ok, Value.cells]
noncomputable def storeAtt (p v : Value) (w : World) : Result Next := Sem.run Tryd.prog (execOp (fun x => match x with
  | .tmp 0 => p
  | _ => v) { dst := none, op := .store 25 (.tmp 0) (.tmp 1), type := 0, pos := "", after := #[], guard := none }) w
theorem exec_store_att (r : Operand → Value) (x y : Operand) (dst : Option Tmp) (ty : TypeId) (pos : String) (after : Array Edge) (guard : Option (Nat × Bool)) (w : World) :
    Sem.run Tryd.prog (execOp r { dst := dst, op := .store 25 x y, type := ty, pos := pos, after := after, guard := guard }) w = storeAtt (r x) (r y) w := rfl
/-- The world behind a store of a whole attestation: kept whole. -/
def setAtt (w : World) (g : Nat) (C : Array Value) : World := w.setRow g C
theorem storeAtt_eq {w : World} {g : Nat} {t : TypeId} {C0 C : Array Value} (hg : w.heap[g]? = some (.cells C0 t (0, 0))) (h0 : C0.size = 101) (hC : C.size = 101) (h1 : C.all (·.oneCell') = true) :
    storeAtt (.pointer (some ⟨g, 0, none⟩)) (.agg C) w = .ok .skip (setAtt w g C) := by
  have := run_storeVar_row (P := Tryd.prog) w g t 25 C0 C hg (by rw [size_att, hC]) (by rw [h0, hC]) h1
  unfold storeAtt execOp
  simp only [Instr.storeAt, Instr.sureAddr, Sem.run_bind, Sem.run_pure, Result.andThen_ok, this]
  rfl
theorem setAtt_other (w : World) {g k : Nat} (C : Array Value) (hk : k ≠ g) : (setAtt w g C).heap[k]? = w.heap[k]? := setRow_other w g k _ hk
theorem setAtt_same {w : World} {g : Nat} {t : TypeId} {C0 C : Array Value} (hg : w.heap[g]? = some (.cells C0 t (0, 0))) : (setAtt w g C).heap[g]? = some (.cells C t (0, 0)) := setRow_heap w g _ _ t _ hg
theorem setAtt_below {B g : Nat} {a w : World} {C : Array Value} (hb : Below B a w) (hg : B ≤ g) : Below B a (setAtt w g C) := below_setRow hb hg _
theorem atl_tag (a : AtM) : atl a = ([.int .i64 a.bo, .int .i64 a.ki, .int .i64 a.vi, .int .i64 a.ph] ++ (bcells a.ha ++ ([.int .i64 a.pv] ++ bcells a.pa))) ++ (bcells a.tg ++ []) := by
  unfold atl
  simp only [List.append_assoc, List.append_nil]
/-- The tag is stored into an attestation's variable. -/
theorem wpList_store_tag {ops : Array Oper} {rest : List Oper} {o : Oper} {ac : Act} {w : World} {Q : Exit → Act → World → Prop} (hgd : o.guard = none) (x y : Operand) (ho : o.op = .store 23 x y)
    {g : Nat} {a : AtM} {h : List UInt8} (hx : ac.eval x = .pointer (some ⟨g, 69, none⟩)) (hy : ac.eval y = .agg (hcells h)) (hg : BoxA w g a) (hok : a.Ok) (hl : h.length = 32)
    (hh : ∀ w', w.grownBy w' (some g) → BoxA w' g { a with tg := h } → w'.heap.size = w.heap.size → wpList Tryd.prog ops Q rest (ac.put o.dst undef) w') : wpList Tryd.prog ops Q (o :: rest) ac w := by
  unfold BoxA atc at hg
  rw [atl_tag] at hg
  refine wpList_store_midh hgd x y ho hx hy hg (by simp only [List.length_append, bcells_length, hok.ha, hok.pa, List.length_cons, List.length_nil]) (by rw [bcells_length, hok.tg]) hl (fun w' h1 h2 h3 => hh w' h1 ?_ h3)
  unfold BoxA atc
  rw [atl_tag]
  exact h2
end Go.Proofs.YtmhchihcgliinaaDoor

/-
  The document's answer for which attestations there may be, and which are alike: tithingref08.May, tithingref08.Alike.
-/
namespace Go.Proofs.YtmhchihcgliinaaDoor
set_option maxRecDepth 20000
open Go.RowKit
attribute [local go_sem ↓] exec_load_hash

set_option maxHeartbeats 3200000 in
theorem refMay8_any (a : AtM) (w : World) (ho : a.Ok) :
    Calls Tryd.prog 8 #[.agg (atc a)] w fun e w' => e = .returned (.bool (mayA a)) ∧ Below w.heap.size w w' := by
  have hb0 : Below w.heap.size w (w.alloc (.cells (atc a) 25)) := (Below.refl _ _).alloc (Nat.le_refl _) _
  have hA := BoxA.new w a
  obtain ⟨C, HC⟩ : ∃ C : Array Value, Hid (atc a = C) := ⟨_, hid rfl⟩
  obtain ⟨q, HQ⟩ : ∃ q : Bool, Hid (mayA a = q) := ⟨_, hid rfl⟩
  rw [HC.out] at hb0 hA ⊢
  rw [HQ.out]
  go_enter Tryd.func8, Tryd.ntmps8
  go_upto_region 1 with (fail)
  generalize (w.alloc (.cells C 25)) = w0 at *
  obtain ⟨k0, k1, k2, k3⟩ := hA.cells
  have k5 := hA.pv ho
  clear hA HC ho
  obtain ⟨bo, ki, vi, ph, ha, pv, pa, tg⟩ := a
  simp only at k0 k1 k2 k3 k5
  go_wp2_with fail
  all_goals
    go_ret
    refine ⟨?_, hb0⟩
    refine congrArg (fun b => Ending.returned (Value.bool b)) ?_
    rw [← HQ.out]
    unfold mayA
    simp only
  all_goals grind

end Go.Proofs.YtmhchihcgliinaaDoor

/-
  A text's bytes in new memory: the conversion of a string. No function of the program.
-/
namespace Go.Proofs.YtmhchihcgliinaaDoor
set_option maxRecDepth 20000
open Go.RowKit

theorem al_le (w : World) (o : Obj) : w.heap.size ≤ (w.alloc o).heap.size := by simp
/-- An empty row in a new block. -/
theorem fresh0_own (w : World) : Own w.heap.size (w.alloc (.cells #[] 5)) (.slice (some ⟨w.heap.size, 0, none⟩) 0 0) [] := World.ownsRow_made w #[] 0 (Nat.le_refl _) (Nat.zero_le _) rfl
theorem fresh0_below {w w2 : World} (hg : (w.alloc (.cells #[] 5)).grownBy w2 (Value.slice (some ⟨w.heap.size, 0, none⟩) 0 0).ownBlock) : Below w.heap.size w w2 :=
  ((Below.refl _ _).alloc (Nat.le_refl _) _).grown hg (by simp) (fun k hk => (World.ownsRow.lt (fresh0_own w) k hk).1)
theorem run_bs (l : List UInt8) (w : World) (hl : l.length ≤ maxLen) : ∃ v w', (convert 9 26 (.string (sb l))).run Tryd.prog w = .ok v w' ∧ Byt w' v l ∧ Below w.heap.size w w' := by
  refine ⟨_, _, run_bytes_of_string w 9 26 5 (sb l) under_string under_bytes (by kernel_rfl), ?_, ((Below.refl _ _).drew).alloc (Nat.le_refl _) _⟩
  rw [sb_size]
  refine ⟨_, _, rfl, grownCap_ge _ _ _ _, grownCap_le_maxLen _ _ _ _ hl, fun h0 => ⟨w.heap.size, 0, rfl, by simp, fun j hj => ?_⟩⟩
  have hb := heap_alloc_new w.drew (.cells (bytesRow (sb l) (grownCap w l.length 0 5)) 5 ((bytesRow (sb l) (grownCap w l.length 0 5)).size, (bytesRow (sb l) (grownCap w l.length 0 5)).size + 1))
  rw [Nat.zero_add]
  refine (cell_of_row _ _ _ _ _ _ hb).trans ?_
  unfold bytesRow
  rw [Array.getElem?_append_left (by simp [sb]; exact hj)]
  simp [sb, hj, bcell]
end Go.Proofs.YtmhchihcgliinaaDoor

/-
  A hash's bytes: tithingref07.Bytes. Two bytes in a block of their own.
-/
namespace Go.Proofs.YtmhchihcgliinaaDoor
set_option maxRecDepth 20000
open Go.RowKit

theorem byt_pair (w : World) (x y : Int) (c d : UInt8) (hx : x = (c.toNat : Int)) (hy : y = (d.toNat : Int)) : Byt (w.alloc (.cells #[.int .u8 x, .int .u8 y] 5)) (.slice (some ⟨w.heap.size, 0, none⟩) 2 2) [c, d] := by
  subst hx hy
  refine ⟨_, 2, rfl, Nat.le_refl _, by unfold maxLen; omega, fun _ => ⟨w.heap.size, 0, rfl, by simp, fun j hj => ?_⟩⟩
  rw [Nat.zero_add, cell_blk (heap_alloc_new w _) j]
  match j, hj with
  | 0, _ => rfl
  | 1, _ => rfl

set_option maxHeartbeats 1600000 in
theorem refBytes7_any (h : List UInt8) (w : World) (h32 : h.length = 32) :
    Calls Tryd.prog 23 #[.agg (hcells h)] w fun e w' => ∃ x, e = .returned x ∧ Own w.heap.size w' x h ∧ Below w.heap.size w w' := by
  have hr0 := heap_alloc_new w (.cells (hcells h) 23)
  have hb0 : Below w.heap.size w (w.alloc (.cells (hcells h) 23)) := (Below.refl _ _).alloc (Nat.le_refl _) _
  obtain ⟨C, HC⟩ : ∃ C : Array Value, Hid (hcells h = C) := ⟨_, hid rfl⟩
  rw [HC.out] at hr0 hb0 ⊢
  go_enter Tryd.func23, Tryd.ntmps23
  go_upto_region 1 with (fail)
  generalize (w.alloc (.cells C 23)) = w0 at *
  have hl0 := lt_of_block hr0
  have HR0 := hid hr0
  have hfo := fresh0_own w0
  have hfb : Below w0.heap.size w0 (w0.alloc (.cells #[] 5)) := (Below.refl _ _).alloc (Nat.le_refl _) _
  have hs0 := hb0.size
  clear hr0
  go_wp2_with fail
  go_loopw [3, 4] (fun out si wr => ∃ i : Nat, i ≤ 32 ∧ si = .int .i64 i ∧ Own w0.heap.size wr out (h.take i) ∧ Below w0.heap.size w0 wr) (fun _ si _ => 32 - (intOf si).toNat)
  case atStart => exact ⟨0, by omega, rfl, by rw [List.take_zero]; exact hfo, hfb⟩
  case round =>
    obtain ⟨i, hi, rfl, hown, hB⟩ := hrel
    have hlen : (h.take i).length ≤ 32 := by simp only [List.length_take]; omega
    by_cases hlt2 : i < 32
    · have hih : i < h.length := by omega
      have hc : wr.cell? ⟨w.heap.size, i, none⟩ = some (bcell h[i]) := by
        have := cell_blk ((hB.block _ hl0).trans HR0.out) i
        rw [this, ← HC.out]
        exact hcells_get h i hih
      obtain ⟨x, hx0, hx1, HX⟩ : ∃ x : Int, 0 ≤ x ∧ x ≤ 255 ∧ Hid (x = (h[i].toNat : Int)) := ⟨_, (byte_lt h[i]).1, (byte_lt h[i]).2, rfl⟩
      unfold bcell at hc
      rw [← HX.out] at hc
      have hi32 : (i : Int) < 32 := by omega
      have hbs := hB.size
      clear hfo hfb
      go_wp2_with (at_builtin; refine wpList_append_byt rfl (.tmp 10) (.tmp 14) rfl rfl rfl (hown.alloc _) (byt_one _ _ h[i] HX.out) (by rw [List.length_singleton]; omega) (by simp; omega) ?_; intro v7 w7 hown7 hg7 _)
      have hnew : h.take i ++ [h[i]] = h.take (i + 1) := by rw [← List.take_succ_eq_append_getElem hih]
      rw [hnew] at hown7
      have hB7 : Below w0.heap.size w0 w7 := (hB.alloc hbs _).grown hg7 (by simp; omega) (fun q hq => (World.ownsRow.lt hown q hq).1)
      clear hnew hg7
      go_roundw
      case rel => exact ⟨i + 1, by omega, by go_num, hown7, hB7⟩
      case measure => simp [intOf]; omega
    · obtain rfl : i = 32 := by omega
      go_wp2
      go_ret
      rw [List.take_of_length_le (by omega)] at hown
      exact ⟨_, rfl, hown.more (by omega), hb0.trans (hB.mono (by omega))⟩
end Go.Proofs.YtmhchihcgliinaaDoor

/-
  The document's answer for what is tagged: tithingref08.Tagged.
-/
namespace Go.Proofs.YtmhchihcgliinaaDoor
set_option maxRecDepth 20000
open Go.RowKit
attribute [local go_sem ↓] exec_load_hash

theorem one_own (w : World) (n : Nat) (h : n < 256) : Own w.heap.size (w.alloc (.cells #[.int .u8 (n : Int)] 5)) (.slice (some ⟨w.heap.size, 0, none⟩) 1 1) [UInt8.ofNat n] :=
  own_of_blk (l := [UInt8.ofNat n]) (by
    have e : (n : Int) = ((UInt8.ofNat n).toNat : Int) := by rw [UInt8.toNat_ofNat']; omega
    rw [e]
    exact heap_alloc_new w _) (Nat.le_refl _) rfl (by unfold maxLen; omega)

theorem refBytes7_arr (h : List UInt8) (w : World) (h32 : h.length = 32) :
    Calls Tryd.prog 23 #[.agg (bcells h).toArray] w fun e w' => ∃ x, e = .returned x ∧ Own w.heap.size w' x h ∧ Below w.heap.size w w' := refBytes7_any h w h32
/-- A row that was made behind another one's world is not that one's: an append onto the elder leaves it. -/
theorem own_past {B : Nat} {w5 wa w7 w8 : World} {v5 v7 : Value} {P l : List UInt8} (h5 : Own B w5 v5 P) (ha : w5.heap.size ≤ wa.heap.size) (h7 : Own wa.heap.size w7 v7 l) (hg : w7.grownBy w8 v5.ownBlock) : Byt w8 v7 l :=
  (h7.keep fun b hlt e => hg.block b hlt (fun e' => by
    have h1 := (World.ownsRow.lt h7 b e).1
    have h2 := (World.ownsRow.lt h5 b e'.symm).2
    omega)).byt

set_option maxHeartbeats 6400000 in
theorem refTagged_of (a : AtM) (w : World) (ho : a.Ok) (hm : 1 ≤ a.ki ∧ a.ki ≤ 3 ∧ a.ph = a.ki ∧ 1 ≤ a.vi ∧ a.vi ≤ 1099511627776 ∧ 0 ≤ a.pv ∧ a.pv ≤ a.vi) :
    Calls Tryd.prog 22 #[.agg (atc a)] w fun e w' => ∃ x, e = .returned x ∧ Own w.heap.size w' x (taggedA a) ∧ Below w.heap.size w w' := by
  obtain ⟨h3, h4, h5, h6, h7, h8, h9⟩ := hm
  have hb0 : Below w.heap.size w (w.alloc (.cells (atc a) 25)) := (Below.refl _ _).alloc (Nat.le_refl _) _
  have hA := BoxA.new w a
  obtain ⟨C, HC⟩ : ∃ C : Array Value, Hid (atc a = C) := ⟨_, hid rfl⟩
  obtain ⟨O, HO⟩ : ∃ O : List UInt8, Hid (taggedA a = O) := ⟨_, hid rfl⟩
  rw [HC.out] at hb0 hA ⊢
  rw [HO.out]
  have HOK := hid ho
  have HA := hid hA
  have hlA := hA.lt
  clear hA ho HC
  obtain ⟨bo, ki, vi, ph, ha, pv, pa, tg⟩ := a
  simp only at h3 h4 h5 h6 h7 h8 h9
  obtain ⟨k, rfl⟩ := nat_of (i := ki) (by omega)
  obtain ⟨v, rfl⟩ := nat_of (i := vi) (by omega)
  obtain ⟨p, rfl⟩ := nat_of (i := ph) (by omega)
  obtain ⟨q, rfl⟩ := nat_of (i := pv) (by omega)
  have hk1 : IntKind.u8.wrap (k : Int) = (k : Int) := by rw [IntKind.wrap_u8']; omega
  have hp1 : IntKind.u8.wrap (p : Int) = (p : Int) := by rw [IntKind.wrap_u8']; omega
  have hv1 : IntKind.u64.wrap (v : Int) = (v : Int) := wrap_u64 _ (by omega) (by omega)
  have hq1 : IntKind.u64.wrap (q : Int) = (q : Int) := wrap_u64 _ (by omega) (by omega)
  have HNV := hid (fun w => refnum_any (v : Int) w (by omega) (by omega))
  have HNQ := hid (fun w => refnum_any (q : Int) w (by omega) (by omega))
  have HLV := hid (dg_len10 (n := v) (by omega))
  have HLQ := hid (dg_len10 (n := q) (by omega))
  have HDK : Hid (dg k = [UInt8.ofNat k]) := hid (dg_small (by omega))
  have HDP : Hid (dg p = [UInt8.ofNat p]) := hid (dg_small (by omega))
  have HYK := hid (fun w => one_own w k (by omega))
  have HYP := hid (fun w => one_own w p (by omega))
  have HBH := hid (fun w => refBytes7_arr ha w HOK.out.ha)
  have HBP := hid (fun w => refBytes7_any pa w HOK.out.pa)
  clear h3 h4 h5 h6 h7 h8 h9
  go_enter Tryd.func22, Tryd.ntmps22
  go_upto_region 1 with (fail)
  generalize (w.alloc (.cells C 25)) = w0 at *
  have HX : Hid (∀ W : World, Below w0.heap.size w0 W → W.cell? ⟨w.heap.size, 1, none⟩ = some (.int .i64 (k : Int)) ∧ W.cell? ⟨w.heap.size, 2, none⟩ = some (.int .i64 (v : Int)) ∧ W.cell? ⟨w.heap.size, 3, none⟩ = some (.int .i64 (p : Int)) ∧ W.cell? ⟨w.heap.size, 36, none⟩ = some (.int .i64 (q : Int)) ∧ W.rangeAt w.heap.size 4 (bcells ha) ∧ W.rangeAt w.heap.size 37 (bcells pa)) := hid (fun W h => by
    have hW := HA.out.below h hlA
    exact ⟨hW.cells.2.1, hW.cells.2.2.1, hW.cells.2.2.2, hW.pv HOK.out, hW.hash, hW.phash HOK.out⟩)
  have hbd : Below w0.heap.size w0 w0.drew := (Below.refl _ _).drew
  have hs0 := hb0.size
  have hbA : Below w0.heap.size w0 (w0.alloc (.cells #[.int .u8 (k : Int)] 5)).drew := ((Below.refl _ _).alloc (Nat.le_refl _) _).drew
  have hoA : Own w0.heap.size (w0.alloc (.cells #[.int .u8 (k : Int)] 5)).drew (.slice (some ⟨w0.heap.size, 0, none⟩) 1 1) [UInt8.ofNat k] := HYK.out w0
  have HA1 := hid hbA
  have HA2 := hid hoA
  clear hbA hoA
  clear HA hlA
  go_region_held3 (fun W => W.cell? ⟨w.heap.size, 1, none⟩ = some (.int .i64 (k : Int)) ∧ W.cell? ⟨w.heap.size, 2, none⟩ = some (.int .i64 (v : Int)))
    (first
      | (refine ⟨(HX.out _ hbd).1, (HX.out _ hbd).2.1⟩)
      | (refine ⟨(HX.out _ hb5).1, (HX.out _ hb5).2.1⟩)
      | (refine ⟨(HX.out _ hb4).1, (HX.out _ hb4).2.1⟩)
      | (refine ⟨(HX.out _ HA1.out).1, (HX.out _ HA1.out).2.1⟩)
      | (refine ⟨(HX.out _ (hb4.alloc hb4.size _)).1, (HX.out _ (hb4.alloc hb4.size _)).2.1⟩)
      | fail)
    (first
      | (refine step_append_byt (by rfl) (.tmp 7) (.tmp 11) (by rfl) (by rfl) (by rfl) (HA2.out.below hb4') ho4.byt (by have := HLV.out; simp only [List.length_cons, List.length_nil, Int.toNat_natCast]; omega) hb4.size ?_; intro v5 w5 ho5 hg5 _; have hb5 := hb4.grown hg5 hb4.size (fun q hq => (World.ownsRow.lt (HA2.out.below hb4') q hq).1); clear hg5)
      | (refine step_append_byt (by rfl) (.tmp 7) (.tmp 11) (by rfl) (by rfl) (by rfl) ((HYK.out w4).more hb4.size) (ho4.byt.alloc _) (by have := HLV.out; simp only [List.length_cons, List.length_nil, Int.toNat_natCast]; omega) (Nat.le_trans hb4.size (al_le _ _)) ?_; intro v5 w5 ho5 hg5 _; have hb5 := (hb4.alloc hb4.size _).grown hg5 (Nat.le_trans hb4.size (al_le _ _)) (fun q hq => (World.ownsRow.lt ((HYK.out w4).more hb4.size) q hq).1); clear hg5)
      | (go_at_call 37; (with_reducible refine (HNV.out (w0.alloc (.cells #[.int .u8 (k : Int)] 5)).drew).mono ?_); rintro e w4 ⟨v4, rfl, ho4, hb4'⟩; have hb4 := HA1.out.trans (hb4'.mono HA1.out.size))
      | (go_at_call 37; (with_reducible refine (HNV.out w0.drew).mono ?_); rintro e w4 ⟨v4, rfl, ho4, hb4'⟩; have hb4 := hbd.trans hb4')
      | fail)
  all_goals
    rw [Int.toNat_natCast] at ho4 ho5
    have ho5' : Own w0.heap.size w5 v5 ([UInt8.ofNat k] ++ dg v) := ho5
    clear ho4 ho5 hb4 hb4'
    obtain ⟨P, HP⟩ : ∃ P : List UInt8, Hid ([UInt8.ofNat k] ++ dg v = P) := ⟨_, hid rfl⟩
    have HPL : Hid (P.length ≤ 11) := hid (by rw [← HP.out, List.length_append]; have := HLV.out; simp only [List.length_cons, List.length_nil]; omega)
    rw [HP.out] at ho5'
    have hbd5 : Below w0.heap.size w0 w5.drew := hb5.drew
    have hz5 := hb5.size
    have hbB : Below w5.heap.size w5 (w5.alloc (.cells #[.int .u8 (p : Int)] 5)).drew := ((Below.refl _ _).alloc (Nat.le_refl _) _).drew
    have hyB : Byt (w5.alloc (.cells #[.int .u8 (p : Int)] 5)).drew (.slice (some ⟨w5.heap.size, 0, none⟩) 1 1) [UInt8.ofNat p] := (HYP.out w5).byt
    have HB1 := hid hbB
    have HB2 := hid hyB
    have HB3 := hid (hb5.trans (hbB.mono hb5.size))
    have hd5 : Below w5.heap.size w5 w5.drew := (Below.refl _ _).drew
    have hu := under_hash
    have hsz : (Tryd.prog.info? 23).map (·.size) = some (bcells ha).length := by rw [size_hash, bcells_length, HOK.out.ha]
    clear hbB hyB
    go_upto_region 2 with (fail)
    go_region_held3 (fun W => W.cell? ⟨w.heap.size, 3, none⟩ = some (.int .i64 (p : Int)) ∧ W.rangeAt w.heap.size 4 (bcells ha))
      (first
        | (refine ⟨(HX.out _ hbd5).2.2.1, (HX.out _ hbd5).2.2.2.2.1⟩)
        | (refine ⟨(HX.out _ hb8).2.2.1, (HX.out _ hb8).2.2.2.2.1⟩)
        | (refine ⟨(HX.out _ hb7).2.2.1, (HX.out _ hb7).2.2.2.2.1⟩)
        | (refine ⟨(HX.out _ hb6).2.2.1, (HX.out _ hb6).2.2.2.2.1⟩)
        | (refine ⟨(HX.out _ HB3.out).2.2.1, (HX.out _ HB3.out).2.2.2.2.1⟩)
        | (refine ⟨(HX.out _ (hb7.alloc hb7.size _)).2.2.1, (HX.out _ (hb7.alloc hb7.size _)).2.2.2.2.1⟩)
        | fail)
      (first
        | (refine step_append_byt (by rfl) (.tmp 18) (.tmp 21) (by rfl) (by rfl) (by rfl) (ho6.below hb7') ho7.byt (by rw [List.length_append]; have := HPL.out; have := HOK.out.ha; simp only [List.length_cons, List.length_nil] at *; omega) hb7.size ?_; intro v8 w8 ho8 hg8 _; have hb8 := hb7.grown hg8 hb7.size (fun q hq => (World.ownsRow.lt (ho6.below hb7') q hq).1); clear hg8)
        | (refine step_append_byt (by rfl) (.tmp 18) (.tmp 21) (by rfl) (by rfl) (by rfl) ho6 hy7 (by rw [List.length_append]; have := HPL.out; have := HOK.out.ha; simp only [List.length_cons, List.length_nil] at *; omega) hb6.size ?_; intro v8 w8 ho8 hg8 _; have hb8 := hb6.grown hg8 hb6.size (fun q hq => (World.ownsRow.lt ho6 q hq).1); clear hg8)
        | (refine step_append_byt (by rfl) (.tmp 13) (.tmp 17) (by rfl) (by rfl) (by rfl) (ho5'.below HB1.out) HB2.out (by have := HPL.out; simp only [List.length_cons, List.length_nil]; omega) HB3.out.size ?_; intro v6 w6 ho6 hg6 _; have hb6 := HB3.out.grown hg6 HB3.out.size (fun q hq => (World.ownsRow.lt (ho5'.below HB1.out) q hq).1); clear hg6)
        | (refine step_append_byt (by rfl) (.tmp 13) (.tmp 17) (by rfl) (by rfl) (by rfl) ((ho5'.below HB1.out).below hb7') (HB2.out.below hb7') (by have := HPL.out; simp only [List.length_cons, List.length_nil]; omega) hb7.size ?_; intro v6 w6 ho6 hg6 _; have hb6 := hb7.grown hg6 hb7.size (fun q hq => (World.ownsRow.lt ((ho5'.below HB1.out).below hb7') q hq).1); have hy7 := own_past ho5' HB1.out.size ho7 hg6; clear hg6)
        | (refine step_append_byt (by rfl) (.tmp 13) (.tmp 17) (by rfl) (by rfl) (by rfl) (((ho5'.below hd5).below hb7').alloc _) (HYP.out w7).byt (by have := HPL.out; simp only [List.length_cons, List.length_nil]; omega) (Nat.le_trans hb7.size (al_le _ _)) ?_; intro v6 w6 ho6 hg6 _; have hb6 := (hb7.alloc hb7.size _).grown hg6 (Nat.le_trans hb7.size (al_le _ _)) (fun q hq => (World.ownsRow.lt (((ho5'.below hd5).below hb7').alloc _) q hq).1); have hy7 := own_past ho5' hd5.size (ho7.alloc _) hg6; clear hg6)
        | (go_at_call 23; (with_reducible refine (HBH.out w6).mono ?_); rintro e w7 ⟨v7, rfl, ho7, hb7'⟩; have hb7 := hb6.trans (hb7'.mono hb6.size))
        | (go_at_call 23; (with_reducible refine (HBH.out (w5.alloc (.cells #[.int .u8 (p : Int)] 5)).drew).mono ?_); rintro e w7 ⟨v7, rfl, ho7, hb7'⟩; have hb7 := HB3.out.trans (hb7'.mono HB3.out.size))
        | (go_at_call 23; (with_reducible refine (HBH.out w5.drew).mono ?_); rintro e w7 ⟨v7, rfl, ho7, hb7'⟩; have hb7 := hbd5.trans (hb7'.mono hbd5.size))
        | fail)
  all_goals
    have ho8' : Own w0.heap.size w8 v8 (P ++ [UInt8.ofNat p] ++ ha) := ho8
    obtain ⟨M, HM⟩ : ∃ M : List UInt8, Hid (P ++ [UInt8.ofNat p] ++ ha = M) := ⟨_, hid rfl⟩
    have HML : Hid (M.length ≤ 44) := hid (by rw [← HM.out, List.length_append, List.length_append]; have := HPL.out; have := HOK.out.ha; simp only [List.length_cons, List.length_nil] at *; omega)
    rw [HM.out] at ho8'
    have k8 := (HX.out _ hb8).2.2.2.1
    clear ho5' ho6 ho7 ho8 hb6 hb7 hb7' hbd5 hz5 hd5 hu hsz HB1 HB2 HB3 hbd
    (try clear hy7)
    go_wp2_with fail
    refine (HNQ.out w8).mono ?_
    rintro e w9 ⟨v9, rfl, ho9, hb9'⟩
    rw [Int.toNat_natCast] at ho9
    have hb9 := hb8.trans (hb9'.mono hb8.size)
    have ho89 := ho8'.below hb9'
    have hl9 : M.length + (dg q).length ≤ 140737488355328 := by have := HML.out; have := HLQ.out; omega
    clear k8
    go_wp2_with (at_builtin; refine wpList_append_byt rfl (.tmp 23) (.tmp 27) rfl rfl rfl ho89 ho9.byt hl9 hb9.size ?_; intro v10 w10 ho10 hg10 hv10; have hb10 := hb9.grown hg10 hb9.size (fun q hq => (World.ownsRow.lt ho89 q hq).1); have l10 := loadH_mid (HX.out _ hb10).2.2.2.2.2 HOK.out.pa; clear hg10 hv10)
    refine (HBP.out w10).mono ?_
    rintro e w11 ⟨v11, rfl, ho11, hb11'⟩
    have hb11 := hb10.trans (hb11'.mono hb10.size)
    have ho1011 := ho10.below hb11'
    have hl11 : (M ++ dg q).length + pa.length ≤ 140737488355328 := by rw [List.length_append]; have := HML.out; have := HLQ.out; have := HOK.out.pa; simp only at this; omega
    clear l10
    go_wp2_with (at_builtin; refine wpList_append_byt rfl (.tmp 29) (.tmp 32) rfl rfl rfl ho1011 ho11.byt hl11 hb11.size ?_; intro v12 w12 ho12 hg12 hv12; have hb12 := hb11.grown hg12 hb11.size (fun q hq => (World.ownsRow.lt ho1011 q hq).1); clear hg12 hv12)
    go_ret
    refine ⟨v12, rfl, ?_, hb0.trans (hb12.mono hs0)⟩
    have e : M ++ dg q ++ pa = O := by
      rw [← HO.out, ← HM.out, ← HP.out]
      unfold taggedA
      simp only [Int.toNat_natCast, HDK.out, HDP.out, List.append_assoc]
    rw [e] at ho12
    exact ho12.more hs0
theorem refTagged_any (a : AtM) (w : World) (ho : a.Ok) (hm : mayA a = true) :
    Calls Tryd.prog 22 #[.agg (atc a)] w fun e w' => ∃ x, e = .returned x ∧ Own w.heap.size w' x (taggedA a) ∧ Below w.heap.size w w' := by
  obtain ⟨_, _, h3, h4, h5, h6, h7, h8, h9⟩ := mayA_iff hm
  exact refTagged_of a w ho ⟨h3, h4, h5, h6, h7, h8, h9⟩
end Go.Proofs.YtmhchihcgliinaaDoor

/-
  Two lists of unlike numbers of 1 to n, each more than half as long, have a number in common. Plain mathematics; no function of the program.
-/
namespace Go.Proofs.YtmhchihcgliinaaDoor
set_option maxRecDepth 20000

/-- Unlike numbers of 1 to n are at most n. -/
theorem unlike_le : ∀ (n : Nat) (l : List Int), l.Nodup → (∀ x ∈ l, 1 ≤ x ∧ x ≤ (n : Int)) → l.length ≤ n
  | 0, l, _, h => by
    rcases l with _ | ⟨x, l⟩
    · exact Nat.le_refl _
    · have := h x (by simp)
      omega
  | n + 1, l, hd, h => by
    by_cases hm : ((n + 1 : Nat) : Int) ∈ l
    · have hl := List.length_erase_of_mem hm
      have ih := unlike_le n (l.erase ((n + 1 : Nat) : Int)) (hd.erase _) (fun x hx => by
        have h1 := h x (List.mem_of_mem_erase hx)
        have h2 : x ≠ ((n + 1 : Nat) : Int) := fun e => by
          rw [e] at hx
          exact (List.Nodup.not_mem_erase hd) hx
        omega)
      have hp : 0 < l.length := List.length_pos_of_mem hm
      omega
    · have ih := unlike_le n l hd (fun x hx => by
        have h1 := h x hx
        have h2 : x ≠ ((n + 1 : Nat) : Int) := fun e => hm (by rw [← e]; exact hx)
        omega)
      omega
/-- The lists meet. -/
theorem lists_meet {n : Nat} {a b : List Int} (ha : a.Nodup) (hb : b.Nodup) (ra : ∀ x ∈ a, 1 ≤ x ∧ x ≤ (n : Int)) (rb : ∀ x ∈ b, 1 ≤ x ∧ x ≤ (n : Int)) (h : n < a.length + b.length) : ∃ x, x ∈ a ∧ x ∈ b := by
  by_cases hx : ∃ x, x ∈ a ∧ x ∈ b
  · exact hx
  · have hd : (a ++ b).Nodup := List.nodup_append.2 ⟨ha, hb, fun x hxa y hyb e => hx ⟨x, hxa, by rw [e]; exact hyb⟩⟩
    have := unlike_le n (a ++ b) hd (fun x hx => by
      rcases List.mem_append.1 hx with h | h
      · exact ra x h
      · exact rb x h)
    rw [List.length_append] at this
    omega

/-- What the law's 'parts' tells: are the first i numbers of 1 to n, and unlike? -/
def partsI (l : List Int) (n : Int) (i : Nat) : Bool := decide ((∀ x ∈ l.take i, 1 ≤ x ∧ x ≤ n) ∧ (l.take i).Nodup)
def partsB (l : List Int) (n : Int) : Bool := decide (l.length ≤ 30) && partsI l n l.length
theorem partsB_ok {l : List Int} {n : Int} (h : partsB l n = true) : (∀ x ∈ l, 1 ≤ x ∧ x ≤ n) ∧ l.Nodup := by
  unfold partsB partsI at h
  rw [Bool.and_eq_true, decide_eq_true_eq, decide_eq_true_eq, List.take_length] at h
  exact h.2
theorem partsI_zero (l : List Int) (n : Int) : partsI l n 0 = true := by
  unfold partsI
  simp
/-- The quorum of n. -/
def quoS (n : Int) : Nat := if 1 ≤ n ∧ n ≤ 21 ∧ n % 2 = 1 then (n / 2).toNat + 1 else 0
theorem quo_meet {n : Int} {a b : List Int} (h0 : quoS n ≠ 0) (ha : partsB a n = true) (hb : partsB b n = true) (la : a.length = quoS n) (lb : b.length = quoS n) : ∃ x, x ∈ a ∧ x ∈ b := by
  unfold quoS at h0 la lb
  by_cases h : 1 ≤ n ∧ n ≤ 21 ∧ n % 2 = 1
  · rw [if_pos h] at la lb
    obtain ⟨m, rfl⟩ : ∃ m : Nat, n = (m : Int) := ⟨n.toNat, by omega⟩
    exact lists_meet (n := m) (partsB_ok ha).2 (partsB_ok hb).2 (partsB_ok ha).1 (partsB_ok hb).1 (by rw [la, lb]; omega)
  · rw [if_neg h] at h0
    exact absurd rfl h0
end Go.Proofs.YtmhchihcgliinaaDoor
