/-
  The document's answer for what is read of a hash: tithingref01.ReadHash.
-/
import Derived.Test.YtggonealcpbonaaRefText
import Derived.Test.YtggonealcpbonaaArr
import Derived.Test.YtggonealcpbonaaHash
import Derived.BigRegion
import Derived.RegionTactic
import Derived.Great.BuildSlice
namespace Go.Proofs.Ytggonealcpbonaa
open Go.RowKit

/-- What a load, a store of a hash comes to: kept whole. -/
noncomputable def loadH (v : Value) (w : World) : Result Next := Sem.run Try.prog (execOp (fun _ => v) { dst := none, op := .load 25 (.tmp 0), type := 0, pos := "", after := #[], guard := none }) w
theorem exec_load_hash (r : Operand → Value) (x : Operand) (dst : Option Tmp) (ty : TypeId) (pos : String) (after : Array Edge) (guard : Option (Nat × Bool)) (w : World) :
    Sem.run Try.prog (execOp r { dst := dst, op := .load 25 x, type := ty, pos := pos, after := after, guard := guard }) w = loadH (r x) w := rfl
noncomputable def storeH (p v : Value) (w : World) : Result Next := Sem.run Try.prog (execOp (fun x => match x with
  | .tmp 0 => p
  | _ => v) { dst := none, op := .store 25 (.tmp 0) (.tmp 1), type := 0, pos := "", after := #[], guard := none }) w
theorem exec_store_hash (r : Operand → Value) (x y : Operand) (dst : Option Tmp) (ty : TypeId) (pos : String) (after : Array Edge) (guard : Option (Nat × Bool)) (w : World) :
    Sem.run Try.prog (execOp r { dst := dst, op := .store 25 x y, type := ty, pos := pos, after := after, guard := guard }) w = storeH (r x) (r y) w := rfl
/-- The world behind a store of a hash: kept whole. -/
def setH (w : World) (g : Nat) (h : List UInt8) : World := w.setRow g (hcells h)

theorem loadH_eq {w : World} {g : Nat} {t : TypeId} {h : List UInt8} (hg : w.heap[g]? = some (.cells (hcells h) t (0, 0))) (hl : h.length = 32) : loadH (.pointer (some ⟨g, 0, none⟩)) w = .ok (.value (.agg (hcells h))) w := by
  have := run_loadVar_row (P := Try.prog) w g t 25 (hcells h) (0, 0) _ hg under_hash rfl (by rw [size_hash, hcells_size, hl])
  unfold loadH execOp
  simp only [Instr.loadAt, Instr.sureAddr, Sem.run_bind, Sem.run_pure, Result.andThen_ok, this]
theorem storeH_eq {w : World} {g : Nat} {t : TypeId} {h h' : List UInt8} (hg : w.heap[g]? = some (.cells (hcells h) t (0, 0))) (hl : h.length = 32) (hl' : h'.length = 32) :
    storeH (.pointer (some ⟨g, 0, none⟩)) (.agg (hcells h')) w = .ok .skip (setH w g h') := by
  have := run_storeVar_row (P := Try.prog) w g t 25 (hcells h) (hcells h') hg (by rw [size_hash, hcells_size, hl']) (by rw [hcells_size, hcells_size, hl, hl']) (hcells_one _)
  unfold storeH execOp
  simp only [Instr.storeAt, Instr.sureAddr, Sem.run_bind, Sem.run_pure, Result.andThen_ok, this]
  rfl
theorem setH_other (w : World) {g k : Nat} (h : List UInt8) (hk : k ≠ g) : (setH w g h).heap[k]? = w.heap[k]? := setRow_other w g k _ hk
theorem setH_same {w : World} {g : Nat} {t : TypeId} {cs : Array Value} {h : List UInt8} (hg : w.heap[g]? = some (.cells cs t (0, 0))) : (setH w g h).heap[g]? = some (.cells (hcells h) t (0, 0)) := setRow_heap w g _ _ t _ hg
theorem setH_size (w : World) (g : Nat) (h : List UInt8) : (setH w g h).heap.size = w.heap.size := by simp [setH]
theorem setH_below {B g : Nat} {a w : World} {h : List UInt8} (hb : Below B a w) (hg : B ≤ g) : Below B a (setH w g h) := below_setRow hb hg _

theorem under_ref : Try.prog.underlying 39 = some (.struct (Try.prog.fieldsOf 39)) := by kernel_rfl
theorem size_ref : (Try.prog.info? 39).map (·.size) = some 3 := by kernel_rfl

/-- Two results that lie in memory: a reader and a hash. -/
theorem results_two {fn : Func} {p q : Tmp} (h : fn.results = #[.cell p 39, .cell q 25]) (tmps : Array Value) (w : World) (g1 g2 : Nat) (t1 t2 : TypeId) (a b c : Value) (hh : List UInt8)
    (hp : tmps.getD p undef = .pointer (some ⟨g1, 0, none⟩)) (hq : tmps.getD q undef = .pointer (some ⟨g2, 0, none⟩)) (h1 : w.heap[g1]? = some (.cells #[a, b, c] t1 (0, 0))) (h2 : w.heap[g2]? = some (.cells (hcells hh) t2 (0, 0))) (hl : hh.length = 32) :
    (results fn tmps).run Try.prog w = .ok (.tuple #[.agg #[a, b, c], .agg (hcells hh)]) w := by
  have hp' : tmps[p]?.getD undef = .pointer (some ⟨g1, 0, none⟩) := by simpa using hp
  have hq' : tmps[q]?.getD undef = .pointer (some ⟨g2, 0, none⟩) := by simpa using hq
  have r1 := run_loadVar_row (P := Try.prog) w g1 t1 39 #[a, b, c] (0, 0) _ h1 under_ref rfl (by rw [size_ref]; rfl)
  have r2 := run_loadVar_row (P := Try.prog) w g2 t2 25 (hcells hh) (0, 0) _ h2 under_hash rfl (by rw [size_hash, hcells_size, hl])
  simp [results, h, hp', hq', asAddr, r1, r2]

/-- What is said of a reading of a hash. -/
def RefHash (w : World) (A : Option Addr) (c : Nat) (l : List UInt8) (res : List UInt8 × Nat × Bool) (e : Ending) (w' : World) : Prop :=
  e = .returned (.tuple #[rv A l.length c res.2.1 (!res.2.2), .agg (hcells res.1)]) ∧ Below w.heap.size w w'

/-- Blocks of two hashes, of which the second is stored into the first. -/
def Good (g2 g3 : Nat) (hh : List UInt8) (w : World) : Prop := w.heap[g2]? = some (.cells (hcells nought) 25 (0, 0)) ∧ w.heap[g3]? = some (.cells (hcells hh) 25 (0, 0))
theorem Good.drew {g2 g3 : Nat} {hh : List UInt8} {w : World} (h : Good g2 g3 hh w) : Good g2 g3 hh w.drew := h
theorem Good.set {g2 g3 g : Nat} {hh : List UInt8} {w : World} (h : Good g2 g3 hh w) (h2 : g2 ≠ g) (h3 : g3 ≠ g) (i : Nat) (u : Value) : Good g2 g3 hh (w.setCell ⟨g, i, none⟩ u) :=
  ⟨(heap_setCell_other _ _ _ _ h2).trans h.1, (heap_setCell_other _ _ _ _ h3).trans h.2⟩

theorem ne_some {a b : Nat} (h : a ≠ b) : some a ≠ some b := fun e => h (Option.some.inj e)

/-- The four blocks that a reading of a hash begins with. -/
theorem four_size (w : World) (o1 o2 o3 o4 : Obj) : ((((w.alloc o1).alloc o2).alloc o3).alloc o4).heap.size = w.heap.size + 4 := by simp
theorem four_0 (w : World) (o1 o2 o3 o4 : Obj) : ((((w.alloc o1).alloc o2).alloc o3).alloc o4).heap[w.heap.size]? = some o1 := by
  rw [Below.heap_alloc _ _ _ (by simp; omega), Below.heap_alloc _ _ _ (by simp; omega), Below.heap_alloc _ _ _ (by simp)]
  exact heap_alloc_new w o1
theorem four_1 (w : World) (o1 o2 o3 o4 : Obj) : ((((w.alloc o1).alloc o2).alloc o3).alloc o4).heap[w.heap.size + 1]? = some o2 := by
  rw [Below.heap_alloc _ _ _ (by simp), Below.heap_alloc _ _ _ (by simp)]
  have := heap_alloc_new (w.alloc o1) o2
  simpa using this
theorem four_2 (w : World) (o1 o2 o3 o4 : Obj) : ((((w.alloc o1).alloc o2).alloc o3).alloc o4).heap[w.heap.size + 1 + 1]? = some o3 := by
  rw [Below.heap_alloc _ _ _ (by simp)]
  have := heap_alloc_new ((w.alloc o1).alloc o2) o3
  simpa using this
theorem four_3 (w : World) (o1 o2 o3 o4 : Obj) : ((((w.alloc o1).alloc o2).alloc o3).alloc o4).heap[w.heap.size + 1 + 1 + 1]? = some o4 := by
  have := heap_alloc_new (((w.alloc o1).alloc o2).alloc o3) o4
  simpa using this
theorem four_below (w : World) (o1 o2 o3 o4 : Obj) : Below w.heap.size w ((((w.alloc o1).alloc o2).alloc o3).alloc o4) :=
  ((((Below.refl _ _).alloc (Nat.le_refl _) _).alloc (by simp) _).alloc (by simp; omega) _).alloc (by simp; omega) _

/-- What stands behind the beginning of a reading of a hash. -/
structure Begun (w w5 : World) (C0 : Array Value) : Prop where
  below : Below w.heap.size w w5
  b0 : w5.heap[w.heap.size]? = some (.cells C0 39 (0, 0))
  b1 : w5.heap[w.heap.size + 1]? = some (.cells #[.slice none 0 0, .int .i64 0, .bool false] 39 (0, 0))
  b2 : w5.heap[w.heap.size + 1 + 1]? = some (.cells (hcells nought) 25 (0, 0))
  b3 : w5.heap[w.heap.size + 1 + 1 + 1]? = some (.cells (hcells nought) 25 (0, 0))
theorem begun {w w5 : World} {C0 : Array Value}
    (hg5 : ((((w.alloc (.cells C0 39)).alloc (.cells #[.slice none 0 0, .int .i64 0, .bool false] 39)).alloc (.cells (hcells nought) 25)).alloc (.cells (hcells nought) 25)).grownBy w5 (some (((w.alloc (.cells C0 39)).alloc (.cells #[.slice none 0 0, .int .i64 0, .bool false] 39)).alloc (.cells (hcells nought) 25)).heap.size))
    (H5 : Hid (w5.heap[(((w.alloc (.cells C0 39)).alloc (.cells #[.slice none 0 0, .int .i64 0, .bool false] 39)).alloc (.cells (hcells nought) 25)).heap.size]? = some (.cells (hcells nought) 25 (0, 0)))) : Begun w w5 C0 := by
  have hs3 : (((w.alloc (.cells C0 39)).alloc (.cells #[.slice none 0 0, .int .i64 0, .bool false] 39)).alloc (.cells (hcells nought) 25)).heap.size = w.heap.size + 1 + 1 + 1 := by simp
  have h5 := H5.out
  rw [hs3] at hg5 h5
  have hs4 := four_size w (.cells C0 39) (.cells #[.slice none 0 0, .int .i64 0, .bool false] 39) (.cells (hcells nought) 25) (.cells (hcells nought) 25)
  refine ⟨(four_below _ _ _ _ _).grown hg5 (by rw [hs4]; omega) (fun q hq => by have := Option.some.inj hq; omega), ?_, ?_, ?_, h5⟩
  · exact (hg5.block _ (by rw [hs4]; omega) (ne_some (by omega))).trans (four_0 _ _ _ _ _)
  · exact (hg5.block _ (by rw [hs4]; omega) (ne_some (by omega))).trans (four_1 _ _ _ _ _)
  · exact (hg5.block _ (by rw [hs4]; omega) (ne_some (by omega))).trans (four_2 _ _ _ _ _)

/-- The end of a reading of a hash: what has been stored into the two results is handed back. -/
theorem refHash_end {w w6 : World} {A : Option Addr} {c p : Nat} {wr : Bool} {l hh : List UInt8} {C1 : Array Value} {a : Act} (h1 : w6.heap[w.heap.size + 1]? = some (.cells C1 39 (0, 0))) (_hs : w.heap.size ≤ w6.heap.size)
    (hc : C1.size = 3) (h2 : w6.heap[w.heap.size + 1 + 1]? = some (.cells (hcells nought) 25 (0, 0))) (hl : hh.length = 32) (hb : Below w.heap.size w w6)
    (hp : a.tmps.getD 2 undef = .pointer (some ⟨w.heap.size + 1, 0, none⟩)) (hq : a.tmps.getD 3 undef = .pointer (some ⟨w.heap.size + 1 + 1, 0, none⟩)) (hd : a.defers = []) :
    bodyPost Try.prog Try.f18 (RefHash w A c l (hh, p, !wr)) .ret a
      (setH (((w6.setCell ⟨w.heap.size + 1, 0, none⟩ (.slice A l.length c)).setCell ⟨w.heap.size + 1, 1, none⟩ (.int .i64 (p : Int))).setCell ⟨w.heap.size + 1, 2, none⟩ (.bool wr)).drew (w.heap.size + 1 + 1) hh) := by
  have e1 : (setH (((w6.setCell ⟨w.heap.size + 1, 0, none⟩ (.slice A l.length c)).setCell ⟨w.heap.size + 1, 1, none⟩ (.int .i64 (p : Int))).setCell ⟨w.heap.size + 1, 2, none⟩ (.bool wr)).drew (w.heap.size + 1 + 1) hh).heap[w.heap.size + 1]? = some (.cells #[.slice A l.length c, .int .i64 (p : Int), .bool wr] 39 (0, 0)) := by
    rw [setH_other _ _ (by omega)]
    have := set_blk (set_blk (set_blk h1 0 (.slice A l.length c)) 1 (.int .i64 (p : Int))) 2 (.bool wr)
    have e : ((C1.setIfInBounds 0 (.slice A l.length c)).setIfInBounds 1 (.int .i64 (p : Int))).setIfInBounds 2 (.bool wr) = #[.slice A l.length c, .int .i64 (p : Int), .bool wr] := by
      match C1, hc with
      | ⟨[a, b, c]⟩, _ => rfl
    rw [e] at this
    exact this
  have h2' : (((w6.setCell ⟨w.heap.size + 1, 0, none⟩ (.slice A l.length c)).setCell ⟨w.heap.size + 1, 1, none⟩ (.int .i64 (p : Int))).setCell ⟨w.heap.size + 1, 2, none⟩ (.bool wr)).drew.heap[w.heap.size + 1 + 1]? = some (.cells (hcells nought) 25 (0, 0)) :=
    (heap_setCell_other _ _ _ _ (by simp)).trans ((heap_setCell_other _ _ _ _ (by simp)).trans ((heap_setCell_other _ _ _ _ (by simp)).trans h2))
  refine bodyPost_ret (results_two rfl _ _ _ _ _ _ _ _ _ hh hp hq e1 (setH_same h2') hl) hd ⟨by unfold rv; simp, ?_⟩
  exact setH_below (Below.drew (((hb.setCell (by simp) _).setCell (by simp) _).setCell (by simp) _)) (by omega)

attribute [local go_sem ↓] exec_load_hash exec_store_hash

set_option maxHeartbeats 3200000 in
theorem refHash_wrong (A : Option Addr) (c p : Nat) (l : List UInt8) (w : World) :
    Calls Try.prog 18 #[.agg #[.slice A l.length c, .int .i64 (p : Int), .bool true]] w (RefHash w A c l (nought, p, false)) := by
  go_enter Try.func18, Try.ntmps18
  go_wp2_with (first
    | (refine wpList_alloc_hash rfl rfl ?_)
    | (refine wpList_store_hash (h := nought) (h' := nought) rfl _ _ rfl rfl rfl (heap_alloc_new _ _) nought_length nought_length ?_; intro w5 hg5 H5 hs5; have BG := begun hg5 H5; clear hg5 H5 hs5; have j0 := cell_blk BG.b0 0; have j1 := cell_blk BG.b0 1; have j2 := cell_blk BG.b0 2; have fj2 := free_blk BG.b0 2; have i0 := cell_blk BG.b1 0; have i1 := cell_blk BG.b1 1; have i2 := cell_blk BG.b1 2; have g0 := free_blk BG.b1 0; have g1 := free_blk BG.b1 1; have g2 := free_blk BG.b1 2; simp at j0 j1 j2 i0 i1 i2))
  have hb6 : Below w.heap.size w (w5.setCell ⟨w.heap.size, 2, none⟩ (.bool true)) := BG.below.setCell (Nat.le_refl _) _
  have G6 : Good (w.heap.size + 1 + 1) (w.heap.size + 1 + 1 + 1) nought (w5.setCell ⟨w.heap.size, 2, none⟩ (.bool true)) := Good.set ⟨BG.b2, BG.b3⟩ (by omega) (by omega) _ _
  have B6 : (w5.setCell ⟨w.heap.size, 2, none⟩ (.bool true)).heap[w.heap.size + 1]? = _ := (heap_setCell_other _ _ _ _ (by simp)).trans BG.b1
  have A6 := set_blk BG.b0 2 (.bool true)
  generalize w5.setCell ⟨w.heap.size, 2, none⟩ (.bool true) = w6 at *
  clear j0 j1 j2 fj2 i0 i1 i2 g0 g1 g2
  have j0 := cell_blk A6 0
  have j1 := cell_blk A6 1
  have j2 := cell_blk A6 2
  have i0 := cell_blk B6 0
  have i1 := cell_blk B6 1
  have i2 := cell_blk B6 2
  have g0 := free_blk B6 0
  have g1 := free_blk B6 1
  have g2 := free_blk B6 2
  simp at j0 j1 j2 i0 i1 i2
  have HA6 := hid A6
  have HB6 := hid B6
  have HBG := hid BG
  have r1 : ∀ w' : World, Good (w.heap.size + 1 + 1) (w.heap.size + 1 + 1 + 1) nought w' → loadH (.pointer (some ⟨w.heap.size + 1 + 1 + 1, 0, none⟩)) w' = .ok (.value (.agg (hcells nought))) w' := fun w' h => loadH_eq h.2 nought_length
  have r2 : ∀ w' : World, Good (w.heap.size + 1 + 1) (w.heap.size + 1 + 1 + 1) nought w' → storeH (.pointer (some ⟨w.heap.size + 1 + 1, 0, none⟩)) (.agg (hcells nought)) w' = .ok .skip (setH w' (w.heap.size + 1 + 1) nought) := fun w' h => storeH_eq h.1 nought_length nought_length
  have r3 : ∀ (w' : World) (i : Nat) (u : Value), Good (w.heap.size + 1 + 1) (w.heap.size + 1 + 1 + 1) nought w' → Good (w.heap.size + 1 + 1) (w.heap.size + 1 + 1 + 1) nought (w'.setCell ⟨w.heap.size + 1, i, none⟩ u) := fun w' i u h => h.set (by omega) (by omega) i u
  have r4 : ∀ w' : World, Good (w.heap.size + 1 + 1) (w.heap.size + 1 + 1 + 1) nought w' → Good (w.heap.size + 1 + 1) (w.heap.size + 1 + 1 + 1) nought w'.drew := fun w' h => h
  have r5 : ∀ (w' : World) (j : Nat), (setH w' (w.heap.size + 1 + 1) nought).cell? ⟨w.heap.size + 1, j, none⟩ = w'.cell? ⟨w.heap.size + 1, j, none⟩ := fun w' j => World.cell?_of_block (setH_other w' nought (by simp))
  have r6 : ∀ (w' : World) (j : Nat), (setH w' (w.heap.size + 1 + 1) nought).frozen? ⟨w.heap.size + 1, j, none⟩ = w'.frozen? ⟨w.heap.size + 1, j, none⟩ := fun w' j => World.frozen?_of_block (setH_other w' nought (by simp))
  have W7 := r2 _ (r4 _ (r3 _ 2 (.bool true) (r3 _ 1 (.int .i64 (p : Int)) (r3 _ 0 (.slice A l.length c) G6))))
  have W6 := r2 _ (r4 _ G6)
  have L6 := r1 _ (r4 _ G6)
  have L7 := r1 _ (r4 _ (r3 _ 2 (.bool true) (r3 _ 1 (.int .i64 (p : Int)) (r3 _ 0 (.slice A l.length c) G6))))
  have r7 : ∀ (w' : World) (j : Nat), (setH w' (w.heap.size + 1 + 1) nought).cell? ⟨w.heap.size, j, none⟩ = w'.cell? ⟨w.heap.size, j, none⟩ := fun w' j => World.cell?_of_block (setH_other w' nought (by simp; omega))
  clear A6 B6 BG r1 r2 r3 r4
  go_region
  all_goals clear r5 r6 r7 W6 W7 L6 L7
  go_wp2_with fail
  exact refHash_end (wr := true) HB6.out hb6.size rfl G6.1 nought_length hb6 rfl rfl rfl

set_option maxHeartbeats 3200000 in
theorem refHash_short (A : Option Addr) (c p : Nat) (l : List UInt8) (w : World) (_hl : l.length ≤ 1099511627776) (hp : p ≤ l.length) (ht : (l.length : Int) - (p : Int) < 32) :
    Calls Try.prog 18 #[.agg #[.slice A l.length c, .int .i64 (p : Int), .bool false]] w (RefHash w A c l (nought, p, false)) := by
  go_enter Try.func18, Try.ntmps18
  go_wp2_with (first
    | (refine wpList_alloc_hash rfl rfl ?_)
    | (refine wpList_store_hash (h := nought) (h' := nought) rfl _ _ rfl rfl rfl (heap_alloc_new _ _) nought_length nought_length ?_; intro w5 hg5 H5 hs5; have BG := begun hg5 H5; clear hg5 H5 hs5; have j0 := cell_blk BG.b0 0; have j1 := cell_blk BG.b0 1; have j2 := cell_blk BG.b0 2; have fj2 := free_blk BG.b0 2; have i0 := cell_blk BG.b1 0; have i1 := cell_blk BG.b1 1; have i2 := cell_blk BG.b1 2; have g0 := free_blk BG.b1 0; have g1 := free_blk BG.b1 1; have g2 := free_blk BG.b1 2; simp at j0 j1 j2 i0 i1 i2))
  have hb6 : Below w.heap.size w (w5.setCell ⟨w.heap.size, 2, none⟩ (.bool true)) := BG.below.setCell (Nat.le_refl _) _
  have G6 : Good (w.heap.size + 1 + 1) (w.heap.size + 1 + 1 + 1) nought (w5.setCell ⟨w.heap.size, 2, none⟩ (.bool true)) := Good.set ⟨BG.b2, BG.b3⟩ (by omega) (by omega) _ _
  have B6 : (w5.setCell ⟨w.heap.size, 2, none⟩ (.bool true)).heap[w.heap.size + 1]? = _ := (heap_setCell_other _ _ _ _ (by simp)).trans BG.b1
  have A6 := set_blk BG.b0 2 (.bool true)
  generalize w5.setCell ⟨w.heap.size, 2, none⟩ (.bool true) = w6 at *
  clear j0 j1 j2 fj2 i0 i1 i2 g0 g1 g2
  have j0 := cell_blk A6 0
  have j1 := cell_blk A6 1
  have j2 := cell_blk A6 2
  have i0 := cell_blk B6 0
  have i1 := cell_blk B6 1
  have i2 := cell_blk B6 2
  have g0 := free_blk B6 0
  have g1 := free_blk B6 1
  have g2 := free_blk B6 2
  simp at j0 j1 j2 i0 i1 i2
  have HA6 := hid A6
  have HB6 := hid B6
  have HBG := hid BG
  have r1 : ∀ w' : World, Good (w.heap.size + 1 + 1) (w.heap.size + 1 + 1 + 1) nought w' → loadH (.pointer (some ⟨w.heap.size + 1 + 1 + 1, 0, none⟩)) w' = .ok (.value (.agg (hcells nought))) w' := fun w' h => loadH_eq h.2 nought_length
  have r2 : ∀ w' : World, Good (w.heap.size + 1 + 1) (w.heap.size + 1 + 1 + 1) nought w' → storeH (.pointer (some ⟨w.heap.size + 1 + 1, 0, none⟩)) (.agg (hcells nought)) w' = .ok .skip (setH w' (w.heap.size + 1 + 1) nought) := fun w' h => storeH_eq h.1 nought_length nought_length
  have r3 : ∀ (w' : World) (i : Nat) (u : Value), Good (w.heap.size + 1 + 1) (w.heap.size + 1 + 1 + 1) nought w' → Good (w.heap.size + 1 + 1) (w.heap.size + 1 + 1 + 1) nought (w'.setCell ⟨w.heap.size + 1, i, none⟩ u) := fun w' i u h => h.set (by omega) (by omega) i u
  have r4 : ∀ w' : World, Good (w.heap.size + 1 + 1) (w.heap.size + 1 + 1 + 1) nought w' → Good (w.heap.size + 1 + 1) (w.heap.size + 1 + 1 + 1) nought w'.drew := fun w' h => h
  have r5 : ∀ (w' : World) (j : Nat), (setH w' (w.heap.size + 1 + 1) nought).cell? ⟨w.heap.size + 1, j, none⟩ = w'.cell? ⟨w.heap.size + 1, j, none⟩ := fun w' j => World.cell?_of_block (setH_other w' nought (by simp))
  have r6 : ∀ (w' : World) (j : Nat), (setH w' (w.heap.size + 1 + 1) nought).frozen? ⟨w.heap.size + 1, j, none⟩ = w'.frozen? ⟨w.heap.size + 1, j, none⟩ := fun w' j => World.frozen?_of_block (setH_other w' nought (by simp))
  have W7 := r2 _ (r4 _ (r3 _ 2 (.bool true) (r3 _ 1 (.int .i64 (p : Int)) (r3 _ 0 (.slice A l.length c) G6))))
  have W6 := r2 _ (r4 _ G6)
  have L6 := r1 _ (r4 _ G6)
  have L7 := r1 _ (r4 _ (r3 _ 2 (.bool true) (r3 _ 1 (.int .i64 (p : Int)) (r3 _ 0 (.slice A l.length c) G6))))
  have r7 : ∀ (w' : World) (j : Nat), (setH w' (w.heap.size + 1 + 1) nought).cell? ⟨w.heap.size, j, none⟩ = w'.cell? ⟨w.heap.size, j, none⟩ := fun w' j => World.cell?_of_block (setH_other w' nought (by simp; omega))
  clear A6 B6 BG r1 r2 r3 r4
  go_region
  all_goals clear r5 r6 r7 W6 W7 L6 L7
  go_wp2_with fail
  exact refHash_end (wr := true) HB6.out hb6.size rfl G6.1 nought_length hb6 rfl rfl rfl

/-- What has been copied of a hash behind i rounds. -/
def partH (l : List UInt8) (p i : Nat) : List UInt8 := (l.drop p).take i ++ List.replicate (32 - i) 0
theorem partH_len {l : List UInt8} {p i : Nat} (hi : i ≤ 32) (hp : p + 32 ≤ l.length) : (partH l p i).length = 32 := by
  simp [partH]
  omega
theorem partH_set {l : List UInt8} {p i : Nat} (hi : i < 32) (hp : p + 32 ≤ l.length) : (hcells (partH l p i)).setIfInBounds i (bcell (l[p + i]'(by omega))) = hcells (partH l p (i + 1)) := by
  have hL : (bcells ((l.drop p).take i)).length = i := by rw [bcells_length, List.length_take, List.length_drop]; omega
  have e1 : partH l p i = (l.drop p).take i ++ (0 :: List.replicate (32 - (i + 1)) 0) := by
    unfold partH
    rw [show 32 - i = 32 - (i + 1) + 1 from by omega, List.replicate_succ]
  have e2 : partH l p (i + 1) = (l.drop p).take i ++ ((l[p + i]'(by omega)) :: List.replicate (32 - (i + 1)) 0) := by
    unfold partH
    have hid : i < (l.drop p).length := by rw [List.length_drop]; omega
    rw [List.take_succ_eq_append_getElem hid, List.getElem_drop, List.append_assoc]
    rfl
  rw [e1, e2]
  unfold hcells
  rw [List.setIfInBounds_toArray]
  congr 1
  rw [bcells_append, bcells_append, List.set_append, if_neg (by omega), hL, Nat.sub_self]
  rfl

set_option maxHeartbeats 3200000 in
theorem refHash_good (A : Option Addr) (c p : Nat) (l : List UInt8) (w : World) (hv : Byt w (.slice A l.length c) l) (hl : l.length ≤ 1099511627776) (hp : p + 32 ≤ l.length) :
    Calls Try.prog 18 #[.agg #[.slice A l.length c, .int .i64 (p : Int), .bool false]] w (RefHash w A c l ((l.drop p).take 32, p + 32, true)) := by
  obtain ⟨_, hlc, hcm, hr⟩ := hv.at_
  unfold maxLen at hcm
  obtain ⟨b, off, rfl, hblt, hcell⟩ := hr (by omega)
  have HC := hid hcell
  have ht : ¬ (l.length : Int) - (p : Int) < 32 := by omega
  clear hcell hr hv
  go_enter Try.func18, Try.ntmps18
  go_wp2_with (first
    | (refine wpList_alloc_hash rfl rfl ?_)
    | (refine wpList_store_hash (h := nought) (h' := nought) rfl _ _ rfl rfl rfl (heap_alloc_new _ _) nought_length nought_length ?_; intro w5 hg5 H5 hs5; have BG := begun hg5 H5; clear hg5 H5 hs5; have j0 := cell_blk BG.b0 0; have j1 := cell_blk BG.b0 1; have j2 := cell_blk BG.b0 2; simp at j0 j1 j2))
  have HBG := hid BG
  clear j0 j1 j2 BG
  go_loopw [5] (fun si wr => ∃ i : Nat, i ≤ 32 ∧ si = .int .i64 i ∧ Below w.heap.size w wr ∧ Hid (wr.heap[w.heap.size]? = some (.cells #[.slice (some ⟨b, off, none⟩) l.length c, .int .i64 (p : Int), .bool false] 39 (0, 0))) ∧ Hid (wr.heap[w.heap.size + 1]? = some (.cells #[.slice none 0 0, .int .i64 0, .bool false] 39 (0, 0))) ∧ Hid (wr.heap[w.heap.size + 1 + 1]? = some (.cells (hcells nought) 25 (0, 0))) ∧ Hid (wr.heap[w.heap.size + 1 + 1 + 1]? = some (.cells (hcells (partH l p i)) 25 (0, 0)))) (fun si _ => 32 - (intOf si).toNat)
  case atStart => exact ⟨0, by omega, rfl, HBG.out.below, hid HBG.out.b0, hid HBG.out.b1, hid HBG.out.b2, hid HBG.out.b3⟩
  case round =>
    obtain ⟨i, hi, rfl, hbw, Z0, Z1, Z2, Z3⟩ := hrel
    have j0 := cell_blk Z0.out 0
    have j1 := cell_blk Z0.out 1
    have j2 := cell_blk Z0.out 2
    simp at j0 j1 j2
    by_cases hlt : i < 32
    · have hil : p + i < l.length := by omega
      have hcl := (hbw.cell (p := ⟨b, off + (p + i), none⟩) hblt).trans (HC.out (p + i) hil)
      obtain ⟨x, hx0, hx1, HX⟩ : ∃ x : Int, 0 ≤ x ∧ x ≤ 255 ∧ Hid ((l[p + i].toNat : Int) = x) := ⟨_, (byte_lt l[p + i]).1, (byte_lt l[p + i]).2, hid rfl⟩
      unfold bcell at hcl
      rw [HX.out] at hcl
      have hph := partH_len (l := l) (p := p) (i := i) hi hp
      have k3 := cell_blk Z3.out i
      rw [hcells_get _ i (by omega)] at k3
      have f3 := free_blk Z3.out i
      have hi32 : (i : Int) < 32 := by omega
      have hpi : (p : Int) + (i : Int) < (l.length : Int) := by omega
      have Y3 := set_blk Z3.out i (.int .u8 x)
      have hset := partH_set (l := l) (p := p) hlt hp
      unfold bcell at hset
      rw [HX.out] at hset
      rw [hset] at Y3
      have Y0 := (heap_setCell_other wr ⟨w.heap.size + 1 + 1 + 1, i, none⟩ w.heap.size (.int .u8 x) (by first | (simp; done) | (simp; omega))).trans Z0.out
      have Y1 := (heap_setCell_other wr ⟨w.heap.size + 1 + 1 + 1, i, none⟩ (w.heap.size + 1) (.int .u8 x) (by first | (simp; done) | (simp; omega))).trans Z1.out
      have Y2 := (heap_setCell_other wr ⟨w.heap.size + 1 + 1 + 1, i, none⟩ (w.heap.size + 1 + 1) (.int .u8 x) (by first | (simp; done) | (simp; omega))).trans Z2.out
      have hbY : Below w.heap.size w (wr.setCell ⟨w.heap.size + 1 + 1 + 1, i, none⟩ (.int .u8 x)) := hbw.setCell (by simp; omega) _
      have X0 := hid Y0
      have X1 := hid Y1
      have X2 := hid Y2
      have X3 := hid Y3
      clear hset Y0 Y1 Y2 Y3
      go_wp2_with fail
      go_roundw
      case rel => exact ⟨i + 1, by omega, by go_num, hbY, X0, X1, X2, X3⟩
      case measure => simp [intOf]; omega
    · obtain rfl : i = 32 := by omega
      have f1 := free_blk Z0.out 1
      have hpart : partH l p 32 = (l.drop p).take 32 := by simp [partH]
      have hlen32 : ((l.drop p).take 32).length = 32 := by rw [List.length_take, List.length_drop]; omega
      have hq : IntKind.i64.wrap ((p : Int) + 32) = (p : Int) + 32 := IntWalk.i64_in _ (by omega)
      have hb6 : Below w.heap.size w (wr.setCell ⟨w.heap.size, 1, none⟩ (.int .i64 ((p : Int) + 32))) := hbw.setCell (Nat.le_refl _) _
      have Z3' := Z3.out
      rw [hpart] at Z3'
      have G6 : Good (w.heap.size + 1 + 1) (w.heap.size + 1 + 1 + 1) ((l.drop p).take 32) (wr.setCell ⟨w.heap.size, 1, none⟩ (.int .i64 ((p : Int) + 32))) := Good.set ⟨Z2.out, Z3'⟩ (by omega) (by omega) _ _
      have B6 : (wr.setCell ⟨w.heap.size, 1, none⟩ (.int .i64 ((p : Int) + 32))).heap[w.heap.size + 1]? = _ := (heap_setCell_other _ _ _ _ (by simp)).trans Z1.out
      have A6 := set_blk Z0.out 1 (.int .i64 ((p : Int) + 32))
      obtain ⟨HH, HHE⟩ : ∃ HH : List UInt8, Hid ((l.drop p).take 32 = HH) := ⟨_, hid rfl⟩
      rw [HHE.out] at G6 hlen32
      have HB6 := hid B6
      have HA6 := hid A6
      clear Z3' B6 A6
      go_wp2_with fail
      generalize wr.setCell ⟨w.heap.size, 1, none⟩ (.int .i64 ((p : Int) + 32)) = w6 at *
      clear j0 j1 j2 f1
      have j0 := cell_blk HA6.out 0
      have j1 := cell_blk HA6.out 1
      have j2 := cell_blk HA6.out 2
      have i0 := cell_blk HB6.out 0
      have i1 := cell_blk HB6.out 1
      have i2 := cell_blk HB6.out 2
      have g0 := free_blk HB6.out 0
      have g1 := free_blk HB6.out 1
      have g2 := free_blk HB6.out 2
      simp at j0 j1 j2 i0 i1 i2
      have r1 : ∀ w' : World, Good (w.heap.size + 1 + 1) (w.heap.size + 1 + 1 + 1) HH w' → loadH (.pointer (some ⟨w.heap.size + 1 + 1 + 1, 0, none⟩)) w' = .ok (.value (.agg (hcells HH))) w' := fun w' h => loadH_eq h.2 hlen32
      have r2 : ∀ w' : World, Good (w.heap.size + 1 + 1) (w.heap.size + 1 + 1 + 1) HH w' → storeH (.pointer (some ⟨w.heap.size + 1 + 1, 0, none⟩)) (.agg (hcells HH)) w' = .ok .skip (setH w' (w.heap.size + 1 + 1) HH) := fun w' h => storeH_eq h.1 nought_length hlen32
      have r3 : ∀ (w' : World) (i : Nat) (u : Value), Good (w.heap.size + 1 + 1) (w.heap.size + 1 + 1 + 1) HH w' → Good (w.heap.size + 1 + 1) (w.heap.size + 1 + 1 + 1) HH (w'.setCell ⟨w.heap.size + 1, i, none⟩ u) := fun w' i u h => h.set (by omega) (by omega) i u
      have r4 : ∀ w' : World, Good (w.heap.size + 1 + 1) (w.heap.size + 1 + 1 + 1) HH w' → Good (w.heap.size + 1 + 1) (w.heap.size + 1 + 1 + 1) HH w'.drew := fun w' h => h
      have r5 : ∀ (w' : World) (j : Nat), (setH w' (w.heap.size + 1 + 1) HH).cell? ⟨w.heap.size + 1, j, none⟩ = w'.cell? ⟨w.heap.size + 1, j, none⟩ := fun w' j => World.cell?_of_block (setH_other w' HH (by simp))
      have r6 : ∀ (w' : World) (j : Nat), (setH w' (w.heap.size + 1 + 1) HH).frozen? ⟨w.heap.size + 1, j, none⟩ = w'.frozen? ⟨w.heap.size + 1, j, none⟩ := fun w' j => World.frozen?_of_block (setH_other w' HH (by simp))
      have r7 : ∀ (w' : World) (j : Nat), (setH w' (w.heap.size + 1 + 1) HH).cell? ⟨w.heap.size, j, none⟩ = w'.cell? ⟨w.heap.size, j, none⟩ := fun w' j => World.cell?_of_block (setH_other w' HH (by simp; omega))
      have W7 := r2 _ (r4 _ (r3 _ 2 (.bool false) (r3 _ 1 (.int .i64 ((p : Int) + 32)) (r3 _ 0 (.slice (some ⟨b, off, none⟩) l.length c) G6))))
      have W6 := r2 _ (r4 _ G6)
      have L6 := r1 _ (r4 _ G6)
      have L7 := r1 _ (r4 _ (r3 _ 2 (.bool false) (r3 _ 1 (.int .i64 ((p : Int) + 32)) (r3 _ 0 (.slice (some ⟨b, off, none⟩) l.length c) G6))))
      clear r1 r2 r3 r4
      go_region
      clear r5 r6 r7 W6 W7 L6 L7
      go_wp2_with fail
      rw [HHE.out]
      have e32 : (p : Int) + 32 = ((p + 32 : Nat) : Int) := by omega
      rw [e32]
      exact refHash_end (wr := false) HB6.out hb6.size rfl G6.1 hlen32 hb6 rfl rfl rfl

theorem refHash_any (A : Option Addr) (c p : Nat) (r : Bool) (l : List UInt8) (w : World) (hv : Byt w (.slice A l.length c) l) (hp : p ≤ l.length) (hl : l.length ≤ 1099511627776) :
    Calls Try.prog 18 #[.agg #[.slice A l.length c, .int .i64 (p : Int), .bool (!r)]] w (RefHash w A c l (rdHash l p r)) := by
  cases r with
  | false =>
    have e : rdHash l p false = (nought, p, false) := by simp [rdHash, nought]
    rw [e]
    exact refHash_wrong A c p l w
  | true =>
    by_cases hfit : p + 32 ≤ l.length
    · have e : rdHash l p true = ((l.drop p).take 32, p + 32, true) := by simp [rdHash, hfit]
      rw [e]
      exact refHash_good A c p l w hv hl hfit
    · have e : rdHash l p true = (nought, p, false) := by simp [rdHash, hfit, nought]
      rw [e]
      exact refHash_short A c p l w hl hp (by omega)
end Go.Proofs.Ytggonealcpbonaa
