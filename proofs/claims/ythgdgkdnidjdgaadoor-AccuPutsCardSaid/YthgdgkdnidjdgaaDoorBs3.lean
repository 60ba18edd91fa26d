/-
  Fc HashMid AtWords AtMay StrBytes BkBytes AtTagged Quorum Spec Bits Sched Turn: what each of them says stands at its head.
-/
import Derived.Test.YthgdgkdnidjdgaaDoorBs1
import Derived.Laws.Rows
import Derived.Laws.Tables
import Derived.Laws.CopyOwn
import Derived.Deep.MidRow
import Derived.ChangeKeysEq
import Derived.Laws.StructEq
import Derived.Test.YthgdgkdnidjdgaaDoorBs2
import Derived.Deep.RegionHeld3
import Derived.Outline
import Derived.Deep.DeepCutAuto
import Derived.Laws.IdiomStrings
import Derived.LoopTactic
import Derived.Deep.QuietTactic
import Derived.BigQuiet
import Derived.Test.YthgdgkdnidjdgaaDoorRows
import Derived.Laws.BitsAllLaws
import Derived.Laws.Bits64
import Derived.WalkLawsBesides
import Derived.IntWalk
import Derived.StillTailTactics
import Derived.RegionTactic
import Derived.BigRegion
/-
  Arrays in memory and as values: n cells, of which the j-th is f j. Words of 32 bits. Laws for the walk; no function of the program.
-/
namespace Go.Proofs.YthgdgkdnidjdgaaDoor
set_option maxRecDepth 20000
open Go.RowKit

/-- A word's number, and its cell. -/
def wv (x : UInt32) : Int := (x.toNat : Int)
def wc (x : UInt32) : Value := .int .u32 (wv x)
theorem wv_lt (x : UInt32) : 0 ≤ wv x ∧ wv x ≤ 4294967295 := by
  have := x.toNat_lt
  unfold wv
  omega
theorem wv_inj {x y : UInt32} (h : wv x = wv y) : x = y := UInt32.toNat_inj.1 (by unfold wv at h; omega)

/-- n cells, of which the j-th is f j. -/
def fcells (n : Nat) (f : Nat → Value) : Array Value := Array.ofFn (fun i : Fin n => f i.val)
theorem fcells_size (n : Nat) (f : Nat → Value) : (fcells n f).size = n := by simp [fcells]
theorem fcells_get {n i : Nat} (f : Nat → Value) (h : i < n) : (fcells n f)[i]? = some (f i) := by simp [fcells, h]
theorem fcells_out {n i : Nat} (f : Nat → Value) (h : ¬ i < n) : (fcells n f)[i]? = none := by simp [fcells]; omega
theorem fcells_congr {n : Nat} {f g : Nat → Value} (h : ∀ i, i < n → f i = g i) : fcells n f = fcells n g := by
  apply Array.ext (by simp [fcells])
  intro i hi _
  simp [fcells] at hi ⊢
  exact h i hi
theorem fcells_set {n i : Nat} (f : Nat → Value) (v : Value) (h : i < n) : (fcells n f).setIfInBounds i v = fcells n (fun j => if j = i then v else f j) := by
  apply Array.ext_getElem?
  intro j
  by_cases hj : j < n
  · rw [fcells_get _ hj, Array.getElem?_setIfInBounds]
    by_cases e : i = j
    · subst e
      rw [if_pos rfl, if_pos (by rw [fcells_size]; exact h), if_pos rfl]
    · rw [if_neg e, fcells_get _ hj, if_neg (fun h => e h.symm)]
  · rw [fcells_out _ hj, Array.getElem?_setIfInBounds, if_neg (by omega), fcells_out _ hj]
theorem fcells_one {n : Nat} {f : Nat → Value} (h : ∀ i, i < n → (f i).oneCell' = true) : (fcells n f).all (·.oneCell') = true := by
  rw [Array.all_eq_true_iff_forall_mem]
  intro v hv
  simp only [fcells, Array.mem_ofFn] at hv
  obtain ⟨i, rfl⟩ := hv
  exact h i i.2
theorem fcells_list (n : Nat) (f : Nat → Value) (i : Nat) : (fcells n f).toList[i]? = if i < n then some (f i) else none := by
  rw [Array.getElem?_toList]
  split
  · exact fcells_get f ‹_›
  · exact fcells_out f ‹_›
theorem fcells_of {cs : Array Value} {n : Nat} (h : cs.size = n) : cs = fcells n (fun j => cs.getD j undef) := by
  subst h
  apply Array.ext_getElem?
  intro j
  by_cases hj : j < cs.size
  · rw [fcells_get _ hj]
    simp [hj]
  · rw [fcells_out _ hj]
    simp; omega

/-- Block g has n cells, of which the j-th is f j. -/
def Blk (w : World) (g n : Nat) (f : Nat → Value) (t : TypeId) : Prop := w.heap[g]? = some (.cells (fcells n f) t (0, 0))

section
variable {w w' : World} {g n : Nat} {f f' : Nat → Value} {t : TypeId}
theorem Blk.lt (h : Blk w g n f t) : g < w.heap.size := lt_of_block h
theorem Blk.cell (h : Blk w g n f t) {i : Nat} (hi : i < n) : w.cell? ⟨g, i, none⟩ = some (f i) := (cell_of_row w g i _ t (0, 0) h).trans (fcells_get f hi)
theorem Blk.free (h : Blk w g n f t) (i : Nat) : w.frozen? ⟨g, i, none⟩ = false := frozen_of_row w g i _ t h
theorem Blk.congr (h : Blk w g n f t) (e : ∀ i, i < n → f i = f' i) : Blk w g n f' t := by
  unfold Blk at h ⊢
  rw [h, fcells_congr e]
theorem Blk.set (h : Blk w g n f t) {i : Nat} (hi : i < n) (v : Value) : Blk (w.setCell ⟨g, i, none⟩ v) g n (fun j => if j = i then v else f j) t := by
  unfold Blk
  rw [heap_setCell_same w g i _ t v h, fcells_set f v hi]
theorem Blk.apart (h : Blk w g n f t) {k : Nat} (i : Nat) (v : Value) (hk : g ≠ k) : Blk (w.setCell ⟨k, i, none⟩ v) g n f t := (heap_setCell_other w _ g v hk).trans h
theorem Blk.below {B : Nat} (h : Blk w g n f t) (hb : Below B w w') (hg : g < B) : Blk w' g n f t := (hb.block g hg).trans h
theorem Blk.keep (h : Blk w g n f t) (hb : Below w.heap.size w w') : Blk w' g n f t := h.below hb h.lt
theorem Blk.grown (h : Blk w g n f t) {row : Option Nat} (hg : w.grownBy w' row) (hr : row ≠ some g) : Blk w' g n f t := (hg.block g h.lt (fun e => hr e.symm)).trans h
theorem Blk.drew (h : Blk w g n f t) : Blk w.drew g n f t := h
theorem Blk.drewN (h : Blk w g n f t) (k : Nat) : Blk (w.drewN k) g n f t := h
theorem Blk.alloc (h : Blk w g n f t) (o : Obj) : Blk (w.alloc o) g n f t := (Below.heap_alloc w o g h.lt).trans h
theorem Blk.new (w : World) (n : Nat) (f : Nat → Value) (t : TypeId) : Blk (w.alloc (.cells (fcells n f) t)) w.heap.size n f t := heap_alloc_new w _
theorem Blk.range (h : Blk w g n f t) {o m : Nat} {f' : Nat → Value} (ho : o + m ≤ n) (e : ∀ j, j < m → f (o + j) = f' j) : w.rangeAt g o (fcells m f').toList := fun j v hv => by
  rw [fcells_list] at hv
  split at hv
  · rename_i hj
    injection hv with hv
    rw [h.cell (by omega), e j hj, hv]
  · cases hv
theorem Blk.there (h : Blk w g n f t) {o m : Nat} (ho : o + m ≤ n) : w.there g o m := fun j hj => ⟨by rw [h.cell (by omega)]; rfl, h.free _⟩
theorem setCells_blk : ∀ (vs : List Value) (o : Nat) (w : World) (f : Nat → Value), Blk w g n f t → o + vs.length ≤ n → Blk (w.setCells g o vs) g n (fun j => if o ≤ j ∧ j < o + vs.length then vs.getD (j - o) undef else f j) t
  | [], o, w, f, h, _ => h.congr fun i _ => by rw [if_neg (by simp)]
  | v :: r, o, w, f, h, ho => by
    have hl : (v :: r).length = r.length + 1 := rfl
    refine (setCells_blk r (o + 1) _ _ (h.set (i := o) (by omega) v) (by omega)).congr fun i _ => ?_
    by_cases h1 : o + 1 ≤ i ∧ i < o + 1 + r.length
    · rw [if_pos h1, if_pos (by omega), show i - o = (i - (o + 1)) + 1 from by omega]
      rfl
    · rw [if_neg h1]
      by_cases h2 : i = o
      · subst h2
        rw [if_pos rfl, if_pos (by omega), Nat.sub_self]
        rfl
      · rw [if_neg h2, if_neg (by omega)]
theorem setCells_other (g : Nat) : ∀ (vs : List Value) (o : Nat) (w : World) (k : Nat), k ≠ g → (w.setCells g o vs).heap[k]? = w.heap[k]?
  | [], _, _, _, _ => rfl
  | _ :: r, o, _, k, hk => (setCells_other g r (o + 1) _ k hk).trans (heap_setCell_other _ _ _ _ hk)
theorem setCells_size (g : Nat) : ∀ (vs : List Value) (o : Nat) (w : World), (w.setCells g o vs).heap.size = w.heap.size
  | [], _, _ => rfl
  | _ :: r, o, _ => (setCells_size g r (o + 1) _).trans (by simp [World.setCell])
theorem grown_setCell (w : World) (g i : Nat) (u : Value) : w.grownBy (w.setCell ⟨g, i, none⟩ u) (some g) :=
  ⟨rfl, rfl, rfl, by simp [World.setCell], fun k _ hk => heap_setCell_other w _ k u (fun e => hk (by rw [e]))⟩
theorem grown_setCells (g : Nat) : ∀ (vs : List Value) (o : Nat) (w : World), w.grownBy (w.setCells g o vs) (some g)
  | [], _, w => World.grownBy.refl w _
  | v :: r, o, w => (grown_setCell w g o v).trans (grown_setCells g r (o + 1) _)
theorem grown_below {w w' : World} (h : Below w.heap.size w w') (row : Option Nat) : w.grownBy w' row := ⟨h.os, h.tape, h.output, h.size, fun k hk _ => h.block k hk⟩
theorem grown_drewF {a b : World} {row : Option Nat} (h : a.grownBy b row) (n : Nat) : a.grownBy (b.drewN n) row := ⟨h.os, h.tape, h.output, h.size, h.block⟩
theorem below_set {B : Nat} {a w : World} (hb : Below B a w) {g : Nat} (hg : B ≤ g) (i : Nat) (u : Value) : Below B a (w.setCell ⟨g, i, none⟩ u) := hb.setCell hg u
/-- What is written into a block of the call's own leaves all that was. -/
theorem below_into {B : Nat} {a w w' : World} (hb : Below B a w) {g : Nat} (hg : B ≤ g) (h : w.grownBy w' (some g)) (hs : B ≤ w.heap.size) : Below B a w' := hb.grown h hs (fun k hk => by injection hk; omega)
end

/-- What is known of a type of arrays of one-cell elements. -/
structure ArrT (T E : TypeId) (n : Nat) (z : Value) : Prop where
  zero : (Tryd.prog.info? T).bind (·.zero) = some (.agg (fcells n fun _ => z))
  size : (Tryd.prog.info? T).map (·.size) = some n
  under : Tryd.prog.underlying T = some (.array n E)
  esize : (Tryd.prog.info? E).map (·.size) = some 1
  plain : Tryd.prog.plainKey E = true
  ecells : Tryd.prog.cellsOf E = 1
  zone : z.oneCell' = true

theorem arrS : ArrT 103 102 8 (wc 0) := ⟨by kernel_rfl, by kernel_rfl, by kernel_rfl, by kernel_rfl, by kernel_rfl, by kernel_rfl, rfl⟩
theorem arrW : ArrT 113 102 64 (wc 0) := ⟨by kernel_rfl, by kernel_rfl, by kernel_rfl, by kernel_rfl, by kernel_rfl, by kernel_rfl, rfl⟩
theorem arrB : ArrT 96 5 64 (bcell 0) := ⟨by kernel_rfl, by kernel_rfl, by kernel_rfl, by kernel_rfl, by kernel_rfl, by kernel_rfl, rfl⟩
theorem arrH : ArrT 27 5 32 (bcell 0) := ⟨by kernel_rfl, by kernel_rfl, by kernel_rfl, by kernel_rfl, by kernel_rfl, by kernel_rfl, rfl⟩

section
variable {T E : TypeId} {n : Nat} {z : Value}
theorem ArrT.run_zero (H : ArrT T E n z) (w : World) : (zeroValue T).run Tryd.prog w = .ok (.agg (fcells n fun _ => z)) w := by
  have h := H.zero
  cases hq : Tryd.prog.info? T with
  | none => rw [hq] at h; cases h
  | some i =>
    rw [hq] at h
    have hz : i.zero = some (.agg (fcells n fun _ => z)) := h
    simp [zeroValue, typeInfo, hq, hz]
theorem ArrT.run_esize (H : ArrT T E n z) (w : World) : (sizeOf E).run Tryd.prog w = .ok 1 w := by
  have h := H.esize
  cases hq : Tryd.prog.info? E with
  | none => rw [hq] at h; cases h
  | some i =>
    rw [hq] at h
    have hz : i.size = 1 := by simpa using h
    simp [sizeOf, typeInfo, hq, hz]

theorem wpList_alloc_arr (H : ArrT T E n z) {ops : Array Oper} {rest : List Oper} {o : Oper} {a : Act} {w : World} {Q : Exit → Act → World → Prop} (hgd : o.guard = none) (ho : o.op = .alloc T)
    (h : wpList Tryd.prog ops Q rest (a.put o.dst (.pointer (some ⟨w.heap.size, 0, none⟩))) (w.alloc (.cells (fcells n fun _ => z) T))) : wpList Tryd.prog ops Q (o :: rest) a w :=
  wpList_plain hgd fun _ hK => by
    unfold Oper.wp execOp
    simp only [ho, Sem.run_bind, Instr.alloc, H.run_zero, newVar, newRow, run_newObj_alloc, Sem.run_pure, Result.andThen_ok, Value.cells]
    exact hK _ _ h

theorem wpList_zero_arr (H : ArrT T E n z) {ops : Array Oper} {rest : List Oper} {o : Oper} {a : Act} {w : World} {Q : Exit → Act → World → Prop} (hgd : o.guard = none) (ho : o.op = .build T #[])
    (h : wpList Tryd.prog ops Q rest (a.put o.dst (.agg (fcells n fun _ => z))) w) : wpList Tryd.prog ops Q (o :: rest) a w :=
  wpList_plain hgd fun _ hK => by
    have e : (Instr.build T #[]).run Tryd.prog w = .ok (.agg (fcells n fun _ => z)) w := by
      simp [Instr.build, Sem.run_bind, H.run_zero, run_underlying H.under, H.run_esize, Instr.fill, Value.cells]
    unfold Oper.wp execOp
    simp only [ho, Sem.run_bind, List.map_toArray, List.map_nil, e, Sem.run_pure, Result.andThen_ok]
    exact hK _ _ h

theorem wpList_load_arr (H : ArrT T E n z) {ops : Array Oper} {rest : List Oper} {o : Oper} {a : Act} {w : World} {Q : Exit → Act → World → Prop} (hgd : o.guard = none) (x : Operand) (ho : o.op = .load T x)
    {g : Nat} {t : TypeId} {f : Nat → Value} (hx : a.eval x = .pointer (some ⟨g, 0, none⟩)) (hg : Blk w g n f t)
    (hh : wpList Tryd.prog ops Q rest (a.put o.dst (.agg (fcells n f))) w) : wpList Tryd.prog ops Q (o :: rest) a w :=
  wpList_load_row hgd _ x ho g hx t (fcells n f) (0, 0) _ hg H.under rfl (by rw [H.size, fcells_size]) hh

theorem wpList_store_arr (H : ArrT T E n z) {ops : Array Oper} {rest : List Oper} {o : Oper} {a : Act} {w : World} {Q : Exit → Act → World → Prop} (hgd : o.guard = none) (x y : Operand) (ho : o.op = .store T x y)
    {g : Nat} {t : TypeId} {f f' : Nat → Value} (hx : a.eval x = .pointer (some ⟨g, 0, none⟩)) (hy : a.eval y = .agg (fcells n f')) (hg : Blk w g n f t) (h1 : ∀ i, i < n → (f' i).oneCell' = true)
    (hh : ∀ w', w.grownBy w' (some g) → Blk w' g n f' t → w'.heap.size = w.heap.size → wpList Tryd.prog ops Q rest (a.put o.dst undef) w') : wpList Tryd.prog ops Q (o :: rest) a w :=
  wpList_store_row hgd _ x y ho g (fcells n f') hx hy t (fcells n f) hg (by rw [H.size, fcells_size]) (by rw [fcells_size, fcells_size]) (fcells_one h1)
    (hh _ ⟨rfl, rfl, rfl, by simp, fun k _ hk => setRow_other w g k _ (fun e => hk (by simp [e]))⟩ (setRow_heap w g _ _ t _ hg) (by simp))

theorem ArrT.load_mid (H : ArrT T E n z) {w : World} {g N o : Nat} {f f' : Nat → Value} {t : TypeId} (hg : Blk w g N f t) (ho : o + n ≤ N) (e : ∀ j, j < n → f (o + j) = f' j) :
    (Instr.loadAt T (.pointer (some ⟨g, o, none⟩))).run Tryd.prog w = .ok (.agg (fcells n f')) w := by
  have := run_loadAt_mid (P := Tryd.prog) w g o T (fcells n f').toList _ (hg.range ho e) H.under rfl (by rw [H.size, Array.length_toList, fcells_size])
  rw [Array.toArray_toList] at this
  exact this
theorem ArrT.store_mid (H : ArrT T E n z) {w : World} {g N o : Nat} {f f' : Nat → Value} {t : TypeId} (hg : Blk w g N f t) (ho : o + n ≤ N) (h1 : ∀ i, i < n → (f' i).oneCell' = true) :
    ∃ w', (Instr.storeAt T (.pointer (some ⟨g, o, none⟩)) (.agg (fcells n f'))).run Tryd.prog w = .ok () w' ∧ w.grownBy w' (some g) ∧ Blk w' g N (fun j => if o ≤ j ∧ j < o + n then f' (j - o) else f j) t ∧ w'.heap.size = w.heap.size := by
  refine ⟨_, run_storeAt_mid (P := Tryd.prog) w g o T (fcells n f') (hg.there (by rw [fcells_size]; exact ho)) (by rw [H.size, fcells_size]) (fcells_one h1), grown_setCells g _ _ _, ?_, setCells_size g _ _ _⟩
  have hl : (fcells n f').toList.length = n := by rw [Array.length_toList, fcells_size]
  refine (setCells_blk _ _ _ _ hg (by rw [hl]; exact ho)).congr fun i _ => ?_
  rw [hl]
  by_cases h : o ≤ i ∧ i < o + n
  · rw [if_pos h, if_pos h, List.getD_eq_getElem?_getD, fcells_list, if_pos (by omega)]
    rfl
  · rw [if_neg h, if_neg h]

theorem ArrT.run_index (H : ArrT T E n z) (f : Nat → Value) {i : Nat} (hi : i < n) (w : World) : (Instr.index T (.agg (fcells n f)) (.int .i64 (i : Int))).run Tryd.prog w = .ok (f i) w := by
  have h := run_part_plain (P := Tryd.prog) w H.plain (fcells_get f hi)
  simp [Instr.index, asIntOf, Sem.run_bind, run_underlying H.under, H.run_esize, h, hi]

/-- An array is the same as itself. -/
theorem ArrT.eq_self (H : ArrT T E n z) {k : IntKind} (hu : Tryd.prog.underlying E = some (.int k)) {f : Nat → Value} {a : Nat → Int} (hf : ∀ i, i < n → f i = .int k (a i)) (w : World) :
    (Op.equalIn 10000 T (.agg (fcells n f)) (.agg (fcells n f))).run Tryd.prog w = .ok true w := by
  have hs := H.esize
  cases hi : Tryd.prog.info? E with
  | none => rw [hi] at hs; cases hs
  | some i0 =>
    rw [run_equalIn_array w 9999 _ _ H.under hi, H.ecells]
    have all : ∀ is : List Nat, (∀ i ∈ is, i < n) → (Op.eqItems 9999 E 1 (fcells n f) (fcells n f) is).run Tryd.prog w = .ok true w := by
      intro is
      induction is with
      | nil => intro _; simp [Op.eqItems]
      | cons i is ih =>
        intro h
        have hin := h i (by simp)
        have ih' := ih (fun j hj => h j (List.mem_cons_of_mem _ hj))
        have pa := run_part_plain (P := Tryd.prog) w H.plain (fcells_get f hin)
        rw [hf i hin] at pa
        have pe := run_equalIn_int (P := Tryd.prog) w 9998 E k k (a i) (a i) hu
        simp only [Op.eqItems, Sem.run_bind, Nat.mul_one, pa, pe, Result.andThen_ok]
        simp [ih']
    exact all _ (fun i h => List.mem_range.1 h)
end

/-- A result that lies in memory: an array. -/
theorem ArrT.result {T E : TypeId} {n : Nat} {z : Value} (H : ArrT T E n z) {fn : Func} {p : Tmp} (h : fn.results = #[.cell p T]) (tmps : Array Value) (w : World) {g : Nat} {t : TypeId} {f : Nat → Value}
    (hp : tmps.getD p undef = .pointer (some ⟨g, 0, none⟩)) (hg : Blk w g n f t) : (results fn tmps).run Tryd.prog w = .ok (.agg (fcells n f)) w :=
  results_cell_row h tmps w g t (fcells n f) (0, 0) _ hp hg H.under rfl (by rw [H.size, fcells_size])
end Go.Proofs.YthgdgkdnidjdgaaDoor

/-
  A hash that lies amid a row: a load of it.
-/
namespace Go.Proofs.YthgdgkdnidjdgaaDoor
set_option maxRecDepth 20000
open Go.RowKit

/-- A load of a hash out of a row. -/
theorem loadH_mid {w : World} {g o : Nat} {h : List UInt8} (hr : w.rangeAt g o (bcells h)) (hl : h.length = 32) : loadH (.pointer (some ⟨g, o, none⟩)) w = .ok (.value (.agg (hcells h))) w := by
  have := run_loadAt_mid (P := Tryd.prog) w g o 27 (bcells h) _ hr under_hash rfl (by rw [size_hash, bcells_length, hl])
  unfold loadH execOp
  simp only [Sem.run_bind, this, Result.andThen_ok, Sem.run_pure]
  rfl
/-! A hash that is stored amid a row. -/
def putAt (C : Array Value) (o : Nat) : List Value → Array Value
  | [] => C
  | v :: r => putAt (C.setIfInBounds o v) (o + 1) r
theorem setCells_row {g : Nat} {t : TypeId} : ∀ (vs : List Value) (o : Nat) (w : World) (C : Array Value), w.heap[g]? = some (.cells C t (0, 0)) → (w.setCells g o vs).heap[g]? = some (.cells (putAt C o vs) t (0, 0))
  | [], _, _, _, h => h
  | v :: r, o, w, C, h => setCells_row r (o + 1) (w.setCell ⟨g, o, none⟩ v) (C.setIfInBounds o v) (set_blk h o v)
theorem putAt_mid : ∀ (vs pre old post : List Value), old.length = vs.length → putAt (pre ++ (old ++ post)).toArray pre.length vs = (pre ++ (vs ++ post)).toArray
  | [], pre, old, post, h => by
    obtain rfl : old = [] := List.eq_nil_of_length_eq_zero h
    rfl
  | v :: r, pre, o :: old, post, h => by
    have e : (pre ++ (o :: old ++ post)).toArray.setIfInBounds pre.length v = ((pre ++ [v]) ++ (old ++ post)).toArray := by
      simp
    have e2 : pre.length + 1 = (pre ++ [v]).length := by simp
    unfold putAt
    rw [e, e2, putAt_mid r (pre ++ [v]) old post (by simpa using h)]
    simp
  | _ :: _, _, [], _, h => by cases h
theorem wpList_store_midh {ops : Array Oper} {rest : List Oper} {o : Oper} {a : Act} {w : World} {Q : Exit → Act → World → Prop} (hgd : o.guard = none) (x y : Operand) (ho : o.op = .store 27 x y)
    {g k : Nat} {t : TypeId} {pre old post : List Value} {h : List UInt8} (hx : a.eval x = .pointer (some ⟨g, k, none⟩)) (hy : a.eval y = .agg (hcells h)) (hg : w.heap[g]? = some (.cells (pre ++ (old ++ post)).toArray t (0, 0))) (hk : k = pre.length) (hold : old.length = 32) (hl : h.length = 32)
    (hh : ∀ w', w.grownBy w' (some g) → w'.heap[g]? = some (.cells (pre ++ (bcells h ++ post)).toArray t (0, 0)) → w'.heap.size = w.heap.size → wpList Tryd.prog ops Q rest (a.put o.dst undef) w') : wpList Tryd.prog ops Q (o :: rest) a w := by
  subst hk
  refine wpList_store_mid hgd _ x y ho (b := g) (o := pre.length) (cells := hcells h) hx hy (fun j hj => ⟨?_, free_blk hg _⟩) (by rw [size_hash, hcells_size, hl]) (hcells_one _) ?_
  · rw [hcells_size, hl] at hj
    rw [cell_blk hg, List.getElem?_toArray, List.getElem?_append_right (by omega), Nat.add_sub_cancel_left, List.getElem?_append_left (by omega), List.getElem?_eq_getElem (by omega)]
    rfl
  · rw [hcells_list]
    refine hh _ (grown_setCells g _ _ _) ?_ (setCells_size g _ _ _)
    have := setCells_row (bcells h) pre.length w _ hg
    rw [putAt_mid (bcells h) pre old post (by rw [bcells_length, hl, hold])] at this
    exact this
end Go.Proofs.YthgdgkdnidjdgaaDoor

/-
  Attestations in memory: their cells, a boxed one, loads and stores of a whole one.
-/
namespace Go.Proofs.YthgdgkdnidjdgaaDoor
set_option maxRecDepth 20000
open Go.RowKit

/-- An attestation's cells. -/
def atl (a : AtM) : List Value := [.int .i64 a.bo, .int .i64 a.ki, .int .i64 a.vi, .int .i64 a.ph] ++ (bcells a.ha ++ ([.int .i64 a.pv] ++ (bcells a.pa ++ bcells a.tg)))
def atc (a : AtM) : Array Value := (atl a).toArray
theorem atl_length {a : AtM} (h : a.Ok) : (atl a).length = 101 := by
  have := h.ha
  have := h.pa
  have := h.tg
  unfold atl
  simp only [List.length_append, bcells_length, List.length_cons, List.length_nil]
  omega
theorem atc_size {a : AtM} (h : a.Ok) : (atc a).size = 101 := by
  unfold atc
  rw [List.size_toArray, atl_length h]
/-- An attestation is boxed in g. -/
def BoxA (w : World) (g : Nat) (a : AtM) : Prop := w.heap[g]? = some (.cells (atc a) 36 (0, 0))
section
variable {w w' : World} {g : Nat} {a : AtM}
theorem BoxA.new (w : World) (a : AtM) : BoxA (w.alloc (.cells (atc a) 36)) w.heap.size a := heap_alloc_new w _
theorem BoxA.lt (h : BoxA w g a) : g < w.heap.size := lt_of_block h
theorem BoxA.below {B : Nat} (h : BoxA w g a) (hb : Below B w w') (hg : g < B) : BoxA w' g a := (hb.block g hg).trans h
theorem BoxA.keep (h : BoxA w g a) (hb : Below w.heap.size w w') : BoxA w' g a := h.below hb h.lt
theorem BoxA.free (h : BoxA w g a) (i : Nat) : w.frozen? ⟨g, i, none⟩ = false := free_blk h i
theorem BoxA.cell (h : BoxA w g a) (i : Nat) : w.cell? ⟨g, i, none⟩ = (atl a)[i]? := by
  rw [cell_blk h i]
  unfold atc
  rw [List.getElem?_toArray]
theorem BoxA.cells (h : BoxA w g a) : w.cell? ⟨g, 0, none⟩ = some (.int .i64 a.bo) ∧ w.cell? ⟨g, 1, none⟩ = some (.int .i64 a.ki) ∧ w.cell? ⟨g, 2, none⟩ = some (.int .i64 a.vi) ∧ w.cell? ⟨g, 3, none⟩ = some (.int .i64 a.ph) :=
  ⟨h.cell 0, h.cell 1, h.cell 2, h.cell 3⟩
theorem BoxA.range0 (h : BoxA w g a) {pre l post : List Value} (e : atl a = pre ++ (l ++ post)) : w.rangeAt g pre.length l := fun j u hu => by
  rw [h.cell, e, List.getElem?_append_right (by omega), Nat.add_sub_cancel_left, List.getElem?_append_left (List.getElem?_eq_some_iff.1 hu).1]
  exact hu
theorem BoxA.pv (h : BoxA w g a) (ho : a.Ok) : w.cell? ⟨g, 36, none⟩ = some (.int .i64 a.pv) := by
  have := h.range0 (pre := [.int .i64 a.bo, .int .i64 a.ki, .int .i64 a.vi, .int .i64 a.ph] ++ bcells a.ha) (l := [.int .i64 a.pv]) (post := bcells a.pa ++ bcells a.tg) (by unfold atl; simp only [List.append_assoc]) 0 _ rfl
  rw [List.length_append, bcells_length, ho.ha] at this
  exact this
theorem BoxA.hash (h : BoxA w g a) : w.rangeAt g 4 (bcells a.ha) := h.range0 (pre := [.int .i64 a.bo, .int .i64 a.ki, .int .i64 a.vi, .int .i64 a.ph]) rfl
theorem BoxA.phash (h : BoxA w g a) (ho : a.Ok) : w.rangeAt g 37 (bcells a.pa) := by
  have := h.range0 (pre := [.int .i64 a.bo, .int .i64 a.ki, .int .i64 a.vi, .int .i64 a.ph] ++ (bcells a.ha ++ [.int .i64 a.pv])) (l := bcells a.pa) (post := bcells a.tg) (by unfold atl; simp only [List.append_assoc])
  rw [List.length_append, List.length_append, bcells_length, ho.ha] at this
  exact this
theorem BoxA.tag (h : BoxA w g a) (ho : a.Ok) : w.rangeAt g 69 (bcells a.tg) := by
  have := h.range0 (pre := [.int .i64 a.bo, .int .i64 a.ki, .int .i64 a.vi, .int .i64 a.ph] ++ (bcells a.ha ++ ([.int .i64 a.pv] ++ bcells a.pa))) (l := bcells a.tg) (post := []) (by unfold atl; simp only [List.append_assoc, List.append_nil])
  rw [List.length_append, List.length_append, List.length_append, bcells_length, bcells_length, ho.ha, ho.pa] at this
  exact this
end

/-- A load of a whole attestation: kept whole. -/
noncomputable def loadAtt (v : Value) (w : World) : Result Next := Sem.run Tryd.prog (execOp (fun _ => v) { dst := none, op := .load 36 (.tmp 0), type := 0, pos := "", after := #[], guard := none }) w
theorem exec_load_att (r : Operand → Value) (x : Operand) (dst : Option Tmp) (ty : TypeId) (pos : String) (after : Array Edge) (guard : Option (Nat × Bool)) (w : World) :
    Sem.run Tryd.prog (execOp r { dst := dst, op := .load 36 x, type := ty, pos := pos, after := after, guard := guard }) w = loadAtt (r x) w := rfl
theorem under_att : Tryd.prog.underlying 36 = some (.struct (Tryd.prog.fieldsOf 36)) := by kernel_rfl
theorem size_att : (Tryd.prog.info? 36).map (·.size) = some 101 := by kernel_rfl
theorem loadAtt_row {w : World} {g : Nat} {C : Array Value} {T : TypeId} (h : w.heap[g]? = some (.cells C T (0, 0))) (hs : C.size = 101) : loadAtt (.pointer (some ⟨g, 0, none⟩)) w = .ok (.value (.agg C)) w := by
  have := run_loadAt_mid (P := Tryd.prog) w g 0 36 C.toList _ (fun j v hj => by rw [Nat.zero_add, cell_blk h j]; simpa using hj) under_att rfl (by rw [size_att]; simp [hs])
  simp only [Array.toArray_toList] at this
  unfold loadAtt execOp
  simp only [Sem.run_bind, this, Result.andThen_ok, Sem.run_pure]
theorem loadAtt_eq {w : World} {g : Nat} {a : AtM} (h : BoxA w g a) (ho : a.Ok) : loadAtt (.pointer (some ⟨g, 0, none⟩)) w = .ok (.value (.agg (atc a))) w := loadAtt_row h (atc_size ho)
theorem atl_one (a : AtM) : ∀ u ∈ atl a, u.oneCell' = true := by
  intro u hu
  unfold atl at hu
  simp only [List.mem_append, List.mem_cons, List.not_mem_nil, or_false] at hu
  rcases hu with (rfl | rfl | rfl | rfl) | hu | rfl | hu | hu
  · rfl
  · rfl
  · rfl
  · rfl
  · exact bcells_one _ u hu
  · rfl
  · exact bcells_one _ u hu
  · exact bcells_one _ u hu
theorem atc_one (a : AtM) : (atc a).all (·.oneCell') = true := all_oneCell_toArray (atl_one a)
theorem zero_att : (Tryd.prog.info? 36).bind (·.zero) = some (.agg (atc atZ)) := by kernel_rfl
theorem run_zero_att (w : World) : (zeroValue 36).run Tryd.prog w = .ok (.agg (atc atZ)) w := by
  have h := zero_att
  cases hq : Tryd.prog.info? 36 with
  | none => rw [hq] at h; cases h
  | some i =>
    rw [hq] at h
    have hz : i.zero = some (.agg (atc atZ)) := h
    simp [zeroValue, typeInfo, hq, hz]
/-- The attestation that has nothing. -/
noncomputable def buildAtt (w : World) : Result Next := Sem.run Tryd.prog (execOp (fun _ => undef) { dst := none, op := .build 36 #[], type := 0, pos := "", after := #[], guard := none }) w
theorem exec_build_att (r : Operand → Value) (dst : Option Tmp) (ty : TypeId) (pos : String) (after : Array Edge) (guard : Option (Nat × Bool)) (w : World) :
    Sem.run Tryd.prog (execOp r { dst := dst, op := .build 36 #[], type := ty, pos := pos, after := after, guard := guard }) w = buildAtt w := by
  unfold buildAtt execOp
  simp
theorem buildAtt_eq (w : World) : buildAtt w = .ok (.value (.agg (atc atZ))) w := by
  unfold buildAtt
  go_simp
  rfl
/-- A variable for an attestation. -/
noncomputable def allocAtt (w : World) : Result Next := Sem.run Tryd.prog (execOp (fun _ => undef) { dst := none, op := .alloc 36, type := 0, pos := "", after := #[], guard := none }) w
theorem exec_alloc_att (r : Operand → Value) (dst : Option Tmp) (ty : TypeId) (pos : String) (after : Array Edge) (guard : Option (Nat × Bool)) (w : World) :
    Sem.run Tryd.prog (execOp r { dst := dst, op := .alloc 36, type := ty, pos := pos, after := after, guard := guard }) w = allocAtt w := rfl
theorem allocAtt_eq (w : World) : allocAtt w = .ok (.value (.pointer (some ⟨w.heap.size, 0, none⟩))) (w.alloc (.cells (atc atZ) 36)) := by
  unfold allocAtt execOp
  simp only [Sem.run_bind, Instr.alloc, run_zero_att, newVar, newRow, run_newObj_alloc, Sem.run_pure, Result.andThen_ok, Value.cells]
noncomputable def storeAtt (p v : Value) (w : World) : Result Next := Sem.run Tryd.prog (execOp (fun x => match x with
  | .tmp 0 => p
  | _ => v) { dst := none, op := .store 36 (.tmp 0) (.tmp 1), type := 0, pos := "", after := #[], guard := none }) w
theorem exec_store_att (r : Operand → Value) (x y : Operand) (dst : Option Tmp) (ty : TypeId) (pos : String) (after : Array Edge) (guard : Option (Nat × Bool)) (w : World) :
    Sem.run Tryd.prog (execOp r { dst := dst, op := .store 36 x y, type := ty, pos := pos, after := after, guard := guard }) w = storeAtt (r x) (r y) w := rfl
/-- The world behind a store of a whole attestation: kept whole. -/
def setAtt (w : World) (g : Nat) (C : Array Value) : World := w.setRow g C
theorem storeAtt_eq {w : World} {g : Nat} {t : TypeId} {C0 C : Array Value} (hg : w.heap[g]? = some (.cells C0 t (0, 0))) (h0 : C0.size = 101) (hC : C.size = 101) (h1 : C.all (·.oneCell') = true) :
    storeAtt (.pointer (some ⟨g, 0, none⟩)) (.agg C) w = .ok .skip (setAtt w g C) := by
  have := run_storeVar_row (P := Tryd.prog) w g t 36 C0 C hg (by rw [size_att, hC]) (by rw [h0, hC]) h1
  unfold storeAtt execOp
  simp only [Instr.storeAt, Instr.sureAddr, Sem.run_bind, Sem.run_pure, Result.andThen_ok, this]
  rfl
theorem setAtt_other (w : World) {g k : Nat} (C : Array Value) (hk : k ≠ g) : (setAtt w g C).heap[k]? = w.heap[k]? := setRow_other w g k _ hk
theorem setAtt_same {w : World} {g : Nat} {t : TypeId} {C0 C : Array Value} (hg : w.heap[g]? = some (.cells C0 t (0, 0))) : (setAtt w g C).heap[g]? = some (.cells C t (0, 0)) := setRow_heap w g _ _ t _ hg
theorem setAtt_below {B g : Nat} {a w : World} {C : Array Value} (hb : Below B a w) (hg : B ≤ g) : Below B a (setAtt w g C) := below_setRow hb hg _
theorem atl_tag (a : AtM) : atl a = ([.int .i64 a.bo, .int .i64 a.ki, .int .i64 a.vi, .int .i64 a.ph] ++ (bcells a.ha ++ ([.int .i64 a.pv] ++ bcells a.pa))) ++ (bcells a.tg ++ []) := by
  unfold atl
  simp only [List.append_assoc, List.append_nil]
/-- The tag is stored into an attestation's variable. -/
theorem wpList_store_tag {ops : Array Oper} {rest : List Oper} {o : Oper} {ac : Act} {w : World} {Q : Exit → Act → World → Prop} (hgd : o.guard = none) (x y : Operand) (ho : o.op = .store 27 x y)
    {g : Nat} {a : AtM} {h : List UInt8} (hx : ac.eval x = .pointer (some ⟨g, 69, none⟩)) (hy : ac.eval y = .agg (hcells h)) (hg : BoxA w g a) (hok : a.Ok) (hl : h.length = 32)
    (hh : ∀ w', w.grownBy w' (some g) → BoxA w' g { a with tg := h } → w'.heap.size = w.heap.size → wpList Tryd.prog ops Q rest (ac.put o.dst undef) w') : wpList Tryd.prog ops Q (o :: rest) ac w := by
  unfold BoxA atc at hg
  rw [atl_tag] at hg
  refine wpList_store_midh hgd x y ho hx hy hg (by simp only [List.length_append, bcells_length, hok.ha, hok.pa, List.length_cons, List.length_nil]) (by rw [bcells_length, hok.tg]) hl (fun w' h1 h2 h3 => hh w' h1 ?_ h3)
  unfold BoxA atc
  rw [atl_tag]
  exact h2
end Go.Proofs.YthgdgkdnidjdgaaDoor

/-
  The document's answer for which attestations there may be, and which are alike: tithingref08.May, tithingref08.Alike.
-/
namespace Go.Proofs.YthgdgkdnidjdgaaDoor
set_option maxRecDepth 20000
open Go.RowKit
attribute [local go_sem ↓] exec_load_hash

set_option maxHeartbeats 3200000 in
theorem refMay8_any (a : AtM) (w : World) (ho : a.Ok) :
    Calls Tryd.prog 55 #[.agg (atc a)] w fun e w' => e = .returned (.bool (mayA a)) ∧ Below w.heap.size w w' := by
  have hb0 : Below w.heap.size w (w.alloc (.cells (atc a) 36)) := (Below.refl _ _).alloc (Nat.le_refl _) _
  have hA := BoxA.new w a
  obtain ⟨C, HC⟩ : ∃ C : Array Value, Hid (atc a = C) := ⟨_, hid rfl⟩
  obtain ⟨q, HQ⟩ : ∃ q : Bool, Hid (mayA a = q) := ⟨_, hid rfl⟩
  rw [HC.out] at hb0 hA ⊢
  rw [HQ.out]
  go_enter Tryd.func55, Tryd.ntmps55
  go_upto_region 1 with (fail)
  generalize (w.alloc (.cells C 36)) = w0 at *
  obtain ⟨k0, k1, k2, k3⟩ := hA.cells
  have k5 := hA.pv ho
  clear hA HC ho
  obtain ⟨bo, ki, vi, ph, ha, pv, pa, tg⟩ := a
  simp only at k0 k1 k2 k3 k5
  go_wp2_with fail
  all_goals
    go_ret
    refine ⟨?_, hb0⟩
    refine congrArg (fun b => Ending.returned (Value.bool b)) ?_
    rw [← HQ.out]
    unfold mayA
    simp only
  all_goals grind

end Go.Proofs.YthgdgkdnidjdgaaDoor

/-
  A text's bytes in new memory: the conversion of a string. No function of the program.
-/
namespace Go.Proofs.YthgdgkdnidjdgaaDoor
set_option maxRecDepth 20000
open Go.RowKit

theorem al_le (w : World) (o : Obj) : w.heap.size ≤ (w.alloc o).heap.size := by simp
/-- An empty row in a new block. -/
theorem fresh0_own (w : World) : Own w.heap.size (w.alloc (.cells #[] 5)) (.slice (some ⟨w.heap.size, 0, none⟩) 0 0) [] := World.ownsRow_made w #[] 0 (Nat.le_refl _) (Nat.zero_le _) rfl
theorem fresh0_below {w w2 : World} (hg : (w.alloc (.cells #[] 5)).grownBy w2 (Value.slice (some ⟨w.heap.size, 0, none⟩) 0 0).ownBlock) : Below w.heap.size w w2 :=
  ((Below.refl _ _).alloc (Nat.le_refl _) _).grown hg (by simp) (fun k hk => (World.ownsRow.lt (fresh0_own w) k hk).1)
theorem run_bs (l : List UInt8) (w : World) (hl : l.length ≤ maxLen) : ∃ v w', (convert 9 40 (.string (sb l))).run Tryd.prog w = .ok v w' ∧ Byt w' v l ∧ Below w.heap.size w w' := by
  refine ⟨_, _, run_bytes_of_string w 9 40 5 (sb l) under_string under_bytes (by kernel_rfl), ?_, ((Below.refl _ _).drew).alloc (Nat.le_refl _) _⟩
  rw [sb_size]
  refine ⟨_, _, rfl, grownCap_ge _ _ _ _, grownCap_le_maxLen _ _ _ _ hl, fun h0 => ⟨w.heap.size, 0, rfl, by simp, fun j hj => ?_⟩⟩
  have hb := heap_alloc_new w.drew (.cells (bytesRow (sb l) (grownCap w l.length 0 5)) 5 ((bytesRow (sb l) (grownCap w l.length 0 5)).size, (bytesRow (sb l) (grownCap w l.length 0 5)).size + 1))
  rw [Nat.zero_add]
  refine (cell_of_row _ _ _ _ _ _ hb).trans ?_
  unfold bytesRow
  rw [Array.getElem?_append_left (by simp [sb]; exact hj)]
  simp [sb, hj, bcell]
end Go.Proofs.YthgdgkdnidjdgaaDoor

/-
  A hash's bytes: tithingref07.Bytes. Two bytes in a block of their own.
-/
namespace Go.Proofs.YthgdgkdnidjdgaaDoor
set_option maxRecDepth 20000
open Go.RowKit

theorem byt_pair (w : World) (x y : Int) (c d : UInt8) (hx : x = (c.toNat : Int)) (hy : y = (d.toNat : Int)) : Byt (w.alloc (.cells #[.int .u8 x, .int .u8 y] 5)) (.slice (some ⟨w.heap.size, 0, none⟩) 2 2) [c, d] := by
  subst hx hy
  refine ⟨_, 2, rfl, Nat.le_refl _, by unfold maxLen; omega, fun _ => ⟨w.heap.size, 0, rfl, by simp, fun j hj => ?_⟩⟩
  rw [Nat.zero_add, cell_blk (heap_alloc_new w _) j]
  match j, hj with
  | 0, _ => rfl
  | 1, _ => rfl

set_option maxHeartbeats 1600000 in
theorem refBytes7_any (h : List UInt8) (w : World) (h32 : h.length = 32) :
    Calls Tryd.prog 45 #[.agg (hcells h)] w fun e w' => ∃ x, e = .returned x ∧ Own w.heap.size w' x h ∧ Below w.heap.size w w' := by
  have hr0 := heap_alloc_new w (.cells (hcells h) 27)
  have hb0 : Below w.heap.size w (w.alloc (.cells (hcells h) 27)) := (Below.refl _ _).alloc (Nat.le_refl _) _
  obtain ⟨C, HC⟩ : ∃ C : Array Value, Hid (hcells h = C) := ⟨_, hid rfl⟩
  rw [HC.out] at hr0 hb0 ⊢
  go_enter Tryd.func45, Tryd.ntmps45
  go_upto_region 1 with (fail)
  generalize (w.alloc (.cells C 27)) = w0 at *
  have hl0 := lt_of_block hr0
  have HR0 := hid hr0
  have hfo := fresh0_own w0
  have hfb : Below w0.heap.size w0 (w0.alloc (.cells #[] 5)) := (Below.refl _ _).alloc (Nat.le_refl _) _
  have hs0 := hb0.size
  clear hr0
  go_wp2_with fail
  go_loopw [3, 4] (fun out si wr => ∃ i : Nat, i ≤ 32 ∧ si = .int .i64 i ∧ Own w0.heap.size wr out (h.take i) ∧ Below w0.heap.size w0 wr) (fun _ si _ => 32 - (intOf si).toNat)
  case atStart => exact ⟨0, by omega, rfl, by rw [List.take_zero]; exact hfo, hfb⟩
  case round =>
    obtain ⟨i, hi, rfl, hown, hB⟩ := hrel
    have hlen : (h.take i).length ≤ 32 := by simp only [List.length_take]; omega
    by_cases hlt2 : i < 32
    · have hih : i < h.length := by omega
      have hc : wr.cell? ⟨w.heap.size, i, none⟩ = some (bcell h[i]) := by
        have := cell_blk ((hB.block _ hl0).trans HR0.out) i
        rw [this, ← HC.out]
        exact hcells_get h i hih
      obtain ⟨x, hx0, hx1, HX⟩ : ∃ x : Int, 0 ≤ x ∧ x ≤ 255 ∧ Hid (x = (h[i].toNat : Int)) := ⟨_, (byte_lt h[i]).1, (byte_lt h[i]).2, rfl⟩
      unfold bcell at hc
      rw [← HX.out] at hc
      have hi32 : (i : Int) < 32 := by omega
      have hbs := hB.size
      clear hfo hfb
      go_wp2_with (at_builtin; refine wpList_append_byt rfl (.tmp 10) (.tmp 14) rfl rfl rfl (hown.alloc _) (byt_one _ _ h[i] HX.out) (by rw [List.length_singleton]; omega) (by simp; omega) ?_; intro v7 w7 hown7 hg7 _)
      have hnew : h.take i ++ [h[i]] = h.take (i + 1) := by rw [← List.take_succ_eq_append_getElem hih]
      rw [hnew] at hown7
      have hB7 : Below w0.heap.size w0 w7 := (hB.alloc hbs _).grown hg7 (by simp; omega) (fun q hq => (World.ownsRow.lt hown q hq).1)
      clear hnew hg7
      go_roundw
      case rel => exact ⟨i + 1, by omega, by go_num, hown7, hB7⟩
      case measure => simp [intOf]; omega
    · obtain rfl : i = 32 := by omega
      go_wp2
      go_ret
      rw [List.take_of_length_le (by omega)] at hown
      exact ⟨_, rfl, hown.more (by omega), hb0.trans (hB.mono (by omega))⟩
end Go.Proofs.YthgdgkdnidjdgaaDoor

/-
  The document's answer for what is tagged: tithingref08.Tagged.
-/
namespace Go.Proofs.YthgdgkdnidjdgaaDoor
set_option maxRecDepth 20000
open Go.RowKit
attribute [local go_sem ↓] exec_load_hash

theorem one_own (w : World) (n : Nat) (h : n < 256) : Own w.heap.size (w.alloc (.cells #[.int .u8 (n : Int)] 5)) (.slice (some ⟨w.heap.size, 0, none⟩) 1 1) [UInt8.ofNat n] :=
  own_of_blk (l := [UInt8.ofNat n]) (by
    have e : (n : Int) = ((UInt8.ofNat n).toNat : Int) := by rw [UInt8.toNat_ofNat']; omega
    rw [e]
    exact heap_alloc_new w _) (Nat.le_refl _) rfl (by unfold maxLen; omega)

theorem refBytes7_arr (h : List UInt8) (w : World) (h32 : h.length = 32) :
    Calls Tryd.prog 45 #[.agg (bcells h).toArray] w fun e w' => ∃ x, e = .returned x ∧ Own w.heap.size w' x h ∧ Below w.heap.size w w' := refBytes7_any h w h32
/-- A row that was made behind another one's world is not that one's: an append onto the elder leaves it. -/
theorem own_past {B : Nat} {w5 wa w7 w8 : World} {v5 v7 : Value} {P l : List UInt8} (h5 : Own B w5 v5 P) (ha : w5.heap.size ≤ wa.heap.size) (h7 : Own wa.heap.size w7 v7 l) (hg : w7.grownBy w8 v5.ownBlock) : Byt w8 v7 l :=
  (h7.keep fun b hlt e => hg.block b hlt (fun e' => by
    have h1 := (World.ownsRow.lt h7 b e).1
    have h2 := (World.ownsRow.lt h5 b e'.symm).2
    omega)).byt

set_option maxHeartbeats 6400000 in
theorem refTagged_of (a : AtM) (w : World) (ho : a.Ok) (hm : 1 ≤ a.ki ∧ a.ki ≤ 3 ∧ a.ph = a.ki ∧ 1 ≤ a.vi ∧ a.vi ≤ 1099511627776 ∧ 0 ≤ a.pv ∧ a.pv ≤ a.vi) :
    Calls Tryd.prog 71 #[.agg (atc a)] w fun e w' => ∃ x, e = .returned x ∧ Own w.heap.size w' x (taggedA a) ∧ Below w.heap.size w w' := by
  obtain ⟨h3, h4, h5, h6, h7, h8, h9⟩ := hm
  have hb0 : Below w.heap.size w (w.alloc (.cells (atc a) 36)) := (Below.refl _ _).alloc (Nat.le_refl _) _
  have hA := BoxA.new w a
  obtain ⟨C, HC⟩ : ∃ C : Array Value, Hid (atc a = C) := ⟨_, hid rfl⟩
  obtain ⟨O, HO⟩ : ∃ O : List UInt8, Hid (taggedA a = O) := ⟨_, hid rfl⟩
  rw [HC.out] at hb0 hA ⊢
  rw [HO.out]
  have HOK := hid ho
  have HA := hid hA
  have hlA := hA.lt
  clear hA ho HC
  obtain ⟨bo, ki, vi, ph, ha, pv, pa, tg⟩ := a
  simp only at h3 h4 h5 h6 h7 h8 h9
  obtain ⟨k, rfl⟩ := nat_of (i := ki) (by omega)
  obtain ⟨v, rfl⟩ := nat_of (i := vi) (by omega)
  obtain ⟨p, rfl⟩ := nat_of (i := ph) (by omega)
  obtain ⟨q, rfl⟩ := nat_of (i := pv) (by omega)
  have hk1 : IntKind.u8.wrap (k : Int) = (k : Int) := by rw [IntKind.wrap_u8']; omega
  have hp1 : IntKind.u8.wrap (p : Int) = (p : Int) := by rw [IntKind.wrap_u8']; omega
  have hv1 : IntKind.u64.wrap (v : Int) = (v : Int) := wrap_u64 _ (by omega) (by omega)
  have hq1 : IntKind.u64.wrap (q : Int) = (q : Int) := wrap_u64 _ (by omega) (by omega)
  have HNV := hid (fun w => refnum_any (v : Int) w (by omega) (by omega))
  have HNQ := hid (fun w => refnum_any (q : Int) w (by omega) (by omega))
  have HLV := hid (dg_len10 (n := v) (by omega))
  have HLQ := hid (dg_len10 (n := q) (by omega))
  have HDK : Hid (dg k = [UInt8.ofNat k]) := hid (dg_small (by omega))
  have HDP : Hid (dg p = [UInt8.ofNat p]) := hid (dg_small (by omega))
  have HYK := hid (fun w => one_own w k (by omega))
  have HYP := hid (fun w => one_own w p (by omega))
  have HBH := hid (fun w => refBytes7_arr ha w HOK.out.ha)
  have HBP := hid (fun w => refBytes7_any pa w HOK.out.pa)
  clear h3 h4 h5 h6 h7 h8 h9
  go_enter Tryd.func71, Tryd.ntmps71
  go_upto_region 1 with (fail)
  generalize (w.alloc (.cells C 36)) = w0 at *
  have HX : Hid (∀ W : World, Below w0.heap.size w0 W → W.cell? ⟨w.heap.size, 1, none⟩ = some (.int .i64 (k : Int)) ∧ W.cell? ⟨w.heap.size, 2, none⟩ = some (.int .i64 (v : Int)) ∧ W.cell? ⟨w.heap.size, 3, none⟩ = some (.int .i64 (p : Int)) ∧ W.cell? ⟨w.heap.size, 36, none⟩ = some (.int .i64 (q : Int)) ∧ W.rangeAt w.heap.size 4 (bcells ha) ∧ W.rangeAt w.heap.size 37 (bcells pa)) := hid (fun W h => by
    have hW := HA.out.below h hlA
    exact ⟨hW.cells.2.1, hW.cells.2.2.1, hW.cells.2.2.2, hW.pv HOK.out, hW.hash, hW.phash HOK.out⟩)
  have hbd : Below w0.heap.size w0 w0.drew := (Below.refl _ _).drew
  have hs0 := hb0.size
  have hbA : Below w0.heap.size w0 (w0.alloc (.cells #[.int .u8 (k : Int)] 5)).drew := ((Below.refl _ _).alloc (Nat.le_refl _) _).drew
  have hoA : Own w0.heap.size (w0.alloc (.cells #[.int .u8 (k : Int)] 5)).drew (.slice (some ⟨w0.heap.size, 0, none⟩) 1 1) [UInt8.ofNat k] := HYK.out w0
  have HA1 := hid hbA
  have HA2 := hid hoA
  clear hbA hoA
  clear HA hlA
  go_region_held3 (fun W => W.cell? ⟨w.heap.size, 1, none⟩ = some (.int .i64 (k : Int)) ∧ W.cell? ⟨w.heap.size, 2, none⟩ = some (.int .i64 (v : Int)))
    (first
      | (refine ⟨(HX.out _ hbd).1, (HX.out _ hbd).2.1⟩)
      | (refine ⟨(HX.out _ hb5).1, (HX.out _ hb5).2.1⟩)
      | (refine ⟨(HX.out _ hb4).1, (HX.out _ hb4).2.1⟩)
      | (refine ⟨(HX.out _ HA1.out).1, (HX.out _ HA1.out).2.1⟩)
      | (refine ⟨(HX.out _ (hb4.alloc hb4.size _)).1, (HX.out _ (hb4.alloc hb4.size _)).2.1⟩)
      | fail)
    (first
      | (refine step_append_byt (by rfl) (.tmp 7) (.tmp 11) (by rfl) (by rfl) (by rfl) (HA2.out.below hb4') ho4.byt (by have := HLV.out; simp only [List.length_cons, List.length_nil, Int.toNat_natCast]; omega) hb4.size ?_; intro v5 w5 ho5 hg5 _; have hb5 := hb4.grown hg5 hb4.size (fun q hq => (World.ownsRow.lt (HA2.out.below hb4') q hq).1); clear hg5)
      | (refine step_append_byt (by rfl) (.tmp 7) (.tmp 11) (by rfl) (by rfl) (by rfl) ((HYK.out w4).more hb4.size) (ho4.byt.alloc _) (by have := HLV.out; simp only [List.length_cons, List.length_nil, Int.toNat_natCast]; omega) (Nat.le_trans hb4.size (al_le _ _)) ?_; intro v5 w5 ho5 hg5 _; have hb5 := (hb4.alloc hb4.size _).grown hg5 (Nat.le_trans hb4.size (al_le _ _)) (fun q hq => (World.ownsRow.lt ((HYK.out w4).more hb4.size) q hq).1); clear hg5)
      | (go_at_call 65; (with_reducible refine (HNV.out (w0.alloc (.cells #[.int .u8 (k : Int)] 5)).drew).mono ?_); rintro e w4 ⟨v4, rfl, ho4, hb4'⟩; have hb4 := HA1.out.trans (hb4'.mono HA1.out.size))
      | (go_at_call 65; (with_reducible refine (HNV.out w0.drew).mono ?_); rintro e w4 ⟨v4, rfl, ho4, hb4'⟩; have hb4 := hbd.trans hb4')
      | fail)
  all_goals
    rw [Int.toNat_natCast] at ho4 ho5
    have ho5' : Own w0.heap.size w5 v5 ([UInt8.ofNat k] ++ dg v) := ho5
    clear ho4 ho5 hb4 hb4'
    obtain ⟨P, HP⟩ : ∃ P : List UInt8, Hid ([UInt8.ofNat k] ++ dg v = P) := ⟨_, hid rfl⟩
    have HPL : Hid (P.length ≤ 11) := hid (by rw [← HP.out, List.length_append]; have := HLV.out; simp only [List.length_cons, List.length_nil]; omega)
    rw [HP.out] at ho5'
    have hbd5 : Below w0.heap.size w0 w5.drew := hb5.drew
    have hz5 := hb5.size
    have hbB : Below w5.heap.size w5 (w5.alloc (.cells #[.int .u8 (p : Int)] 5)).drew := ((Below.refl _ _).alloc (Nat.le_refl _) _).drew
    have hyB : Byt (w5.alloc (.cells #[.int .u8 (p : Int)] 5)).drew (.slice (some ⟨w5.heap.size, 0, none⟩) 1 1) [UInt8.ofNat p] := (HYP.out w5).byt
    have HB1 := hid hbB
    have HB2 := hid hyB
    have HB3 := hid (hb5.trans (hbB.mono hb5.size))
    have hd5 : Below w5.heap.size w5 w5.drew := (Below.refl _ _).drew
    have hu := under_hash
    have hsz : (Tryd.prog.info? 27).map (·.size) = some (bcells ha).length := by rw [size_hash, bcells_length, HOK.out.ha]
    clear hbB hyB
    go_upto_region 2 with (fail)
    go_region_held3 (fun W => W.cell? ⟨w.heap.size, 3, none⟩ = some (.int .i64 (p : Int)) ∧ W.rangeAt w.heap.size 4 (bcells ha))
      (first
        | (refine ⟨(HX.out _ hbd5).2.2.1, (HX.out _ hbd5).2.2.2.2.1⟩)
        | (refine ⟨(HX.out _ hb8).2.2.1, (HX.out _ hb8).2.2.2.2.1⟩)
        | (refine ⟨(HX.out _ hb7).2.2.1, (HX.out _ hb7).2.2.2.2.1⟩)
        | (refine ⟨(HX.out _ hb6).2.2.1, (HX.out _ hb6).2.2.2.2.1⟩)
        | (refine ⟨(HX.out _ HB3.out).2.2.1, (HX.out _ HB3.out).2.2.2.2.1⟩)
        | (refine ⟨(HX.out _ (hb7.alloc hb7.size _)).2.2.1, (HX.out _ (hb7.alloc hb7.size _)).2.2.2.2.1⟩)
        | fail)
      (first
        | (refine step_append_byt (by rfl) (.tmp 18) (.tmp 21) (by rfl) (by rfl) (by rfl) (ho6.below hb7') ho7.byt (by rw [List.length_append]; have := HPL.out; have := HOK.out.ha; simp only [List.length_cons, List.length_nil] at *; omega) hb7.size ?_; intro v8 w8 ho8 hg8 _; have hb8 := hb7.grown hg8 hb7.size (fun q hq => (World.ownsRow.lt (ho6.below hb7') q hq).1); clear hg8)
        | (refine step_append_byt (by rfl) (.tmp 18) (.tmp 21) (by rfl) (by rfl) (by rfl) ho6 hy7 (by rw [List.length_append]; have := HPL.out; have := HOK.out.ha; simp only [List.length_cons, List.length_nil] at *; omega) hb6.size ?_; intro v8 w8 ho8 hg8 _; have hb8 := hb6.grown hg8 hb6.size (fun q hq => (World.ownsRow.lt ho6 q hq).1); clear hg8)
        | (refine step_append_byt (by rfl) (.tmp 13) (.tmp 17) (by rfl) (by rfl) (by rfl) (ho5'.below HB1.out) HB2.out (by have := HPL.out; simp only [List.length_cons, List.length_nil]; omega) HB3.out.size ?_; intro v6 w6 ho6 hg6 _; have hb6 := HB3.out.grown hg6 HB3.out.size (fun q hq => (World.ownsRow.lt (ho5'.below HB1.out) q hq).1); clear hg6)
        | (refine step_append_byt (by rfl) (.tmp 13) (.tmp 17) (by rfl) (by rfl) (by rfl) ((ho5'.below HB1.out).below hb7') (HB2.out.below hb7') (by have := HPL.out; simp only [List.length_cons, List.length_nil]; omega) hb7.size ?_; intro v6 w6 ho6 hg6 _; have hb6 := hb7.grown hg6 hb7.size (fun q hq => (World.ownsRow.lt ((ho5'.below HB1.out).below hb7') q hq).1); have hy7 := own_past ho5' HB1.out.size ho7 hg6; clear hg6)
        | (refine step_append_byt (by rfl) (.tmp 13) (.tmp 17) (by rfl) (by rfl) (by rfl) (((ho5'.below hd5).below hb7').alloc _) (HYP.out w7).byt (by have := HPL.out; simp only [List.length_cons, List.length_nil]; omega) (Nat.le_trans hb7.size (al_le _ _)) ?_; intro v6 w6 ho6 hg6 _; have hb6 := (hb7.alloc hb7.size _).grown hg6 (Nat.le_trans hb7.size (al_le _ _)) (fun q hq => (World.ownsRow.lt (((ho5'.below hd5).below hb7').alloc _) q hq).1); have hy7 := own_past ho5' hd5.size (ho7.alloc _) hg6; clear hg6)
        | (go_at_call 45; (with_reducible refine (HBH.out w6).mono ?_); rintro e w7 ⟨v7, rfl, ho7, hb7'⟩; have hb7 := hb6.trans (hb7'.mono hb6.size))
        | (go_at_call 45; (with_reducible refine (HBH.out (w5.alloc (.cells #[.int .u8 (p : Int)] 5)).drew).mono ?_); rintro e w7 ⟨v7, rfl, ho7, hb7'⟩; have hb7 := HB3.out.trans (hb7'.mono HB3.out.size))
        | (go_at_call 45; (with_reducible refine (HBH.out w5.drew).mono ?_); rintro e w7 ⟨v7, rfl, ho7, hb7'⟩; have hb7 := hbd5.trans (hb7'.mono hbd5.size))
        | fail)
  all_goals
    have ho8' : Own w0.heap.size w8 v8 (P ++ [UInt8.ofNat p] ++ ha) := ho8
    obtain ⟨M, HM⟩ : ∃ M : List UInt8, Hid (P ++ [UInt8.ofNat p] ++ ha = M) := ⟨_, hid rfl⟩
    have HML : Hid (M.length ≤ 44) := hid (by rw [← HM.out, List.length_append, List.length_append]; have := HPL.out; have := HOK.out.ha; simp only [List.length_cons, List.length_nil] at *; omega)
    rw [HM.out] at ho8'
    have k8 := (HX.out _ hb8).2.2.2.1
    clear ho5' ho6 ho7 ho8 hb6 hb7 hb7' hbd5 hz5 hd5 hu hsz HB1 HB2 HB3 hbd
    (try clear hy7)
    go_wp2_with fail
    refine (HNQ.out w8).mono ?_
    rintro e w9 ⟨v9, rfl, ho9, hb9'⟩
    rw [Int.toNat_natCast] at ho9
    have hb9 := hb8.trans (hb9'.mono hb8.size)
    have ho89 := ho8'.below hb9'
    have hl9 : M.length + (dg q).length ≤ 140737488355328 := by have := HML.out; have := HLQ.out; omega
    clear k8
    go_wp2_with (at_builtin; refine wpList_append_byt rfl (.tmp 23) (.tmp 27) rfl rfl rfl ho89 ho9.byt hl9 hb9.size ?_; intro v10 w10 ho10 hg10 hv10; have hb10 := hb9.grown hg10 hb9.size (fun q hq => (World.ownsRow.lt ho89 q hq).1); have l10 := loadH_mid (HX.out _ hb10).2.2.2.2.2 HOK.out.pa; clear hg10 hv10)
    refine (HBP.out w10).mono ?_
    rintro e w11 ⟨v11, rfl, ho11, hb11'⟩
    have hb11 := hb10.trans (hb11'.mono hb10.size)
    have ho1011 := ho10.below hb11'
    have hl11 : (M ++ dg q).length + pa.length ≤ 140737488355328 := by rw [List.length_append]; have := HML.out; have := HLQ.out; have := HOK.out.pa; simp only at this; omega
    clear l10
    go_wp2_with (at_builtin; refine wpList_append_byt rfl (.tmp 29) (.tmp 32) rfl rfl rfl ho1011 ho11.byt hl11 hb11.size ?_; intro v12 w12 ho12 hg12 hv12; have hb12 := hb11.grown hg12 hb11.size (fun q hq => (World.ownsRow.lt ho1011 q hq).1); clear hg12 hv12)
    go_ret
    refine ⟨v12, rfl, ?_, hb0.trans (hb12.mono hs0)⟩
    have e : M ++ dg q ++ pa = O := by
      rw [← HO.out, ← HM.out, ← HP.out]
      unfold taggedA
      simp only [Int.toNat_natCast, HDK.out, HDP.out, List.append_assoc]
    rw [e] at ho12
    exact ho12.more hs0
theorem refTagged_any (a : AtM) (w : World) (ho : a.Ok) (hm : mayA a = true) :
    Calls Tryd.prog 71 #[.agg (atc a)] w fun e w' => ∃ x, e = .returned x ∧ Own w.heap.size w' x (taggedA a) ∧ Below w.heap.size w w' := by
  obtain ⟨_, _, h3, h4, h5, h6, h7, h8, h9⟩ := mayA_iff hm
  exact refTagged_of a w ho ⟨h3, h4, h5, h6, h7, h8, h9⟩
end Go.Proofs.YthgdgkdnidjdgaaDoor

/-
  Two lists of unlike numbers of 1 to n, each more than half as long, have a number in common. Plain mathematics; no function of the program.
-/
namespace Go.Proofs.YthgdgkdnidjdgaaDoor
set_option maxRecDepth 20000

/-- Unlike numbers of 1 to n are at most n. -/
theorem unlike_le : ∀ (n : Nat) (l : List Int), l.Nodup → (∀ x ∈ l, 1 ≤ x ∧ x ≤ (n : Int)) → l.length ≤ n
  | 0, l, _, h => by
    rcases l with _ | ⟨x, l⟩
    · exact Nat.le_refl _
    · have := h x (by simp)
      omega
  | n + 1, l, hd, h => by
    by_cases hm : ((n + 1 : Nat) : Int) ∈ l
    · have hl := List.length_erase_of_mem hm
      have ih := unlike_le n (l.erase ((n + 1 : Nat) : Int)) (hd.erase _) (fun x hx => by
        have h1 := h x (List.mem_of_mem_erase hx)
        have h2 : x ≠ ((n + 1 : Nat) : Int) := fun e => by
          rw [e] at hx
          exact (List.Nodup.not_mem_erase hd) hx
        omega)
      have hp : 0 < l.length := List.length_pos_of_mem hm
      omega
    · have ih := unlike_le n l hd (fun x hx => by
        have h1 := h x hx
        have h2 : x ≠ ((n + 1 : Nat) : Int) := fun e => hm (by rw [← e]; exact hx)
        omega)
      omega
/-- The lists meet. -/
theorem lists_meet {n : Nat} {a b : List Int} (ha : a.Nodup) (hb : b.Nodup) (ra : ∀ x ∈ a, 1 ≤ x ∧ x ≤ (n : Int)) (rb : ∀ x ∈ b, 1 ≤ x ∧ x ≤ (n : Int)) (h : n < a.length + b.length) : ∃ x, x ∈ a ∧ x ∈ b := by
  by_cases hx : ∃ x, x ∈ a ∧ x ∈ b
  · exact hx
  · have hd : (a ++ b).Nodup := List.nodup_append.2 ⟨ha, hb, fun x hxa y hyb e => hx ⟨x, hxa, by rw [e]; exact hyb⟩⟩
    have := unlike_le n (a ++ b) hd (fun x hx => by
      rcases List.mem_append.1 hx with h | h
      · exact ra x h
      · exact rb x h)
    rw [List.length_append] at this
    omega

/-- What the law's 'parts' tells: are the first i numbers of 1 to n, and unlike? -/
def partsI (l : List Int) (n : Int) (i : Nat) : Bool := decide ((∀ x ∈ l.take i, 1 ≤ x ∧ x ≤ n) ∧ (l.take i).Nodup)
def partsB (l : List Int) (n : Int) : Bool := decide (l.length ≤ 30) && partsI l n l.length
theorem partsB_ok {l : List Int} {n : Int} (h : partsB l n = true) : (∀ x ∈ l, 1 ≤ x ∧ x ≤ n) ∧ l.Nodup := by
  unfold partsB partsI at h
  rw [Bool.and_eq_true, decide_eq_true_eq, decide_eq_true_eq, List.take_length] at h
  exact h.2
theorem partsI_zero (l : List Int) (n : Int) : partsI l n 0 = true := by
  unfold partsI
  simp
/-- The quorum of n. -/
def quoS (n : Int) : Nat := if 1 ≤ n ∧ n ≤ 21 ∧ n % 2 = 1 then (n / 2).toNat + 1 else 0
theorem quo_meet {n : Int} {a b : List Int} (h0 : quoS n ≠ 0) (ha : partsB a n = true) (hb : partsB b n = true) (la : a.length = quoS n) (lb : b.length = quoS n) : ∃ x, x ∈ a ∧ x ∈ b := by
  unfold quoS at h0 la lb
  by_cases h : 1 ≤ n ∧ n ≤ 21 ∧ n % 2 = 1
  · rw [if_pos h] at la lb
    obtain ⟨m, rfl⟩ : ∃ m : Nat, n = (m : Int) := ⟨n.toNat, by omega⟩
    exact lists_meet (n := m) (partsB_ok ha).2 (partsB_ok hb).2 (partsB_ok ha).1 (partsB_ok hb).1 (by rw [la, lb]; omega)
  · rw [if_neg h] at h0
    exact absurd rfl h0
end Go.Proofs.YthgdgkdnidjdgaaDoor

/-
  Sums of 256 bits, as plain functions on words and bytes. No function of the program.
-/
namespace Go.Proofs.YthgdgkdnidjdgaaDoor
set_option maxRecDepth 20000

/-- A word that is turned to the right, and one that is shifted. -/
def rr (x : UInt32) (n : Nat) : UInt32 := UInt32.ofNat (x.toNat / 2 ^ n + x.toNat % 2 ^ n * 2 ^ (32 - n))
def sr (x : UInt32) (n : Nat) : UInt32 := UInt32.ofNat (x.toNat / 2 ^ n)
def sm0 (x : UInt32) : UInt32 := rr x 7 ^^^ rr x 18 ^^^ sr x 3
def sm1 (x : UInt32) : UInt32 := rr x 17 ^^^ rr x 19 ^^^ sr x 10
def bg0 (x : UInt32) : UInt32 := rr x 2 ^^^ rr x 13 ^^^ rr x 22
def bg1 (x : UInt32) : UInt32 := rr x 6 ^^^ rr x 11 ^^^ rr x 25
def chc (x y z : UInt32) : UInt32 := (x &&& y) ||| (~~~x &&& z)
def maj (x y z : UInt32) : UInt32 := (x &&& y) ||| (x &&& z) ||| (y &&& z)

def kl : List UInt32 := [
  0x428a2f98, 0x71374491, 0xb5c0fbcf, 0xe9b5dba5, 0x3956c25b, 0x59f111f1, 0x923f82a4, 0xab1c5ed5,
  0xd807aa98, 0x12835b01, 0x243185be, 0x550c7dc3, 0x72be5d74, 0x80deb1fe, 0x9bdc06a7, 0xc19bf174,
  0xe49b69c1, 0xefbe4786, 0x0fc19dc6, 0x240ca1cc, 0x2de92c6f, 0x4a7484aa, 0x5cb0a9dc, 0x76f988da,
  0x983e5152, 0xa831c66d, 0xb00327c8, 0xbf597fc7, 0xc6e00bf3, 0xd5a79147, 0x06ca6351, 0x14292967,
  0x27b70a85, 0x2e1b2138, 0x4d2c6dfc, 0x53380d13, 0x650a7354, 0x766a0abb, 0x81c2c92e, 0x92722c85,
  0xa2bfe8a1, 0xa81a664b, 0xc24b8b70, 0xc76c51a3, 0xd192e819, 0xd6990624, 0xf40e3585, 0x106aa070,
  0x19a4c116, 0x1e376c08, 0x2748774c, 0x34b0bcb5, 0x391c0cb3, 0x4ed8aa4a, 0x5b9cca4f, 0x682e6ff3,
  0x748f82ee, 0x78a5636f, 0x84c87814, 0x8cc70208, 0x90befffa, 0xa4506ceb, 0xbef9a3f7, 0xc67178f2]
/-- The constants. -/
def kc (i : Nat) : UInt32 := kl.getD i 0

/-- A word of a block: four bytes, the highest first. -/
def four (a b c d : UInt8) : UInt32 := UInt32.ofNat (a.toNat * 16777216 + b.toNat * 65536 + c.toNat * 256 + d.toNat)
def wordB (b : Nat → UInt8) (i : Nat) : UInt32 := four (b (4 * i)) (b (4 * i + 1)) (b (4 * i + 2)) (b (4 * i + 3))
/-- The first n words that a block makes. -/
def sched (b : Nat → UInt8) : Nat → List UInt32
  | 0 => []
  | n + 1 => sched b n ++ [if n < 16 then wordB b n else sm1 ((sched b n).getD (n - 2) 0) + (sched b n).getD (n - 7) 0 + sm0 ((sched b n).getD (n - 15) 0) + (sched b n).getD (n - 16) 0]
def wd (b : Nat → UInt8) (i : Nat) : UInt32 := (sched b 64).getD i 0
theorem sched_length (b : Nat → UInt8) : ∀ n, (sched b n).length = n
  | 0 => rfl
  | n + 1 => by simp [sched, sched_length b n]
theorem sched_pre (b : Nat → UInt8) (i : Nat) : ∀ n, i < n → (sched b n).getD i 0 = (sched b (i + 1)).getD i 0
  | 0, h => absurd h (by omega)
  | n + 1, h => by
    by_cases e : i = n
    · subst e; rfl
    · have hi : i < n := by omega
      rw [← sched_pre b i n hi]
      have hl := sched_length b n
      simp only [sched, List.getD_eq_getElem?_getD]
      rw [List.getElem?_append_left (by omega)]
theorem sched_at (b : Nat → UInt8) {i n : Nat} (h : i < n) (h2 : n ≤ 64) : (sched b n).getD i 0 = wd b i := by
  unfold wd
  rw [sched_pre b i n h, sched_pre b i 64 (by omega)]
theorem wd_at (b : Nat → UInt8) {i : Nat} (h : i < 64) : wd b i = if i < 16 then wordB b i else sm1 ((sched b i).getD (i - 2) 0) + (sched b i).getD (i - 7) 0 + sm0 ((sched b i).getD (i - 15) 0) + (sched b i).getD (i - 16) 0 := by
  have e := sched_length b i
  unfold wd
  rw [sched_pre b i 64 h]
  simp only [sched, List.getD_eq_getElem?_getD]
  rw [List.getElem?_append_right (by omega), e, Nat.sub_self]
  rfl
theorem wd_low (b : Nat → UInt8) {i : Nat} (h : i < 16) : wd b i = wordB b i := by rw [wd_at b (by omega), if_pos h]
theorem wd_high (b : Nat → UInt8) {i : Nat} (h : 16 ≤ i) (h2 : i < 64) : wd b i = sm1 (wd b (i - 2)) + wd b (i - 7) + sm0 (wd b (i - 15)) + wd b (i - 16) := by
  rw [wd_at b h2, if_neg (by omega), sched_at b (by omega) (by omega), sched_at b (by omega) (by omega), sched_at b (by omega) (by omega), sched_at b (by omega) (by omega)]
theorem wd_congr {b b' : Nat → UInt8} (h : ∀ j, j < 64 → b j = b' j) : ∀ i, i < 64 → wd b i = wd b' i := by
  intro i
  induction i using Nat.strongRecOn with
  | _ i ih =>
    intro hi
    by_cases h16 : i < 16
    · rw [wd_low b h16, wd_low b' h16]
      unfold wordB
      rw [h _ (by omega), h _ (by omega), h _ (by omega), h _ (by omega)]
    · rw [wd_high b (by omega) hi, wd_high b' (by omega) hi, ih _ (by omega) (by omega), ih _ (by omega) (by omega), ih _ (by omega) (by omega), ih _ (by omega) (by omega)]

/-- A state. -/
structure St where
  a : UInt32
  b : UInt32
  c : UInt32
  d : UInt32
  e : UInt32
  f : UInt32
  g : UInt32
  h : UInt32
def St.at_ (v : St) (i : Nat) : UInt32 := [v.a, v.b, v.c, v.d, v.e, v.f, v.g, v.h].getD i 0
def St.of (s : Nat → UInt32) : St := ⟨s 0, s 1, s 2, s 3, s 4, s 5, s 6, s 7⟩
def rnd (k w : UInt32) (v : St) : St :=
  ⟨v.h + bg1 v.e + chc v.e v.f v.g + k + w + (bg0 v.a + maj v.a v.b v.c), v.a, v.b, v.c, v.d + (v.h + bg1 v.e + chc v.e v.f v.g + k + w), v.e, v.f, v.g⟩
def rnds (w : Nat → UInt32) : Nat → St → St
  | 0, v => v
  | n + 1, v => rnd (kc n) (w n) (rnds w n v)
/-- The state behind a block. -/
def turnS (s : Nat → UInt32) (b : Nat → UInt8) (i : Nat) : UInt32 := s i + (rnds (wd b) 64 (St.of s)).at_ i
theorem rnds_congr {w w' : Nat → UInt32} {v : St} : ∀ n, (∀ i, i < n → w i = w' i) → rnds w n v = rnds w' n v
  | 0, _ => rfl
  | n + 1, h => by
    unfold rnds
    rw [h n (by omega), rnds_congr n (fun i hi => h i (by omega))]
theorem turnS_congr {s s' : Nat → UInt32} {b b' : Nat → UInt8} (hs : ∀ i, i < 8 → s i = s' i) (hb : ∀ j, j < 64 → b j = b' j) (i : Nat) (hi : i < 8) : turnS s b i = turnS s' b' i := by
  have e : St.of s = St.of s' := by
    unfold St.of
    rw [hs 0 (by omega), hs 1 (by omega), hs 2 (by omega), hs 3 (by omega), hs 4 (by omega), hs 5 (by omega), hs 6 (by omega), hs 7 (by omega)]
  unfold turnS
  rw [e, hs i hi, rnds_congr 64 (wd_congr hb)]

def sl : List UInt32 := [0x6a09e667, 0xbb67ae85, 0x3c6ef372, 0xa54ff53a, 0x510e527f, 0x9b05688c, 0x1f83d9ab, 0x5be0cd19]
/-- The first state. -/
def start (i : Nat) : UInt32 := sl.getD i 0
/-- The state behind the first n blocks of a text. -/
def absb (l : List UInt8) : Nat → Nat → UInt32
  | 0 => start
  | n + 1 => turnS (absb l n) (fun j => l.getD (64 * n + j) 0)
theorem absb_congr {l m : List UInt8} : ∀ n, (∀ j, j < 64 * n → l.getD j 0 = m.getD j 0) → ∀ i, i < 8 → absb l n i = absb m n i
  | 0, _, _, _ => rfl
  | n + 1, h, i, hi => turnS_congr (absb_congr n fun j hj => h j (by omega)) (fun j hj => h _ (by omega)) i hi
theorem getD_left {l m : List UInt8} {j : Nat} (h : j < l.length) : (l ++ m).getD j 0 = l.getD j 0 := by
  simp only [List.getD_eq_getElem?_getD]
  rw [List.getElem?_append_left h]
theorem getD_right {l m : List UInt8} {j : Nat} : (l ++ m).getD (l.length + j) 0 = m.getD j 0 := by
  simp only [List.getD_eq_getElem?_getD]
  rw [List.getElem?_append_right (by omega), Nat.add_sub_cancel_left]
theorem absb_left {l m : List UInt8} {n : Nat} (h : 64 * n ≤ l.length) (i : Nat) (hi : i < 8) : absb (l ++ m) n i = absb l n i :=
  absb_congr n (fun _ hj => getD_left (by omega)) i hi

/-- The first k bytes of eight, the highest first. -/
def be8 (m : Nat) : Nat → List UInt8
  | 0 => []
  | k + 1 => be8 m k ++ [UInt8.ofNat (m / 2 ^ (56 - 8 * k))]
theorem be8_length (m : Nat) : ∀ k, (be8 m k).length = k
  | 0 => rfl
  | k + 1 => by simp [be8, be8_length m k]
/-- How many noughts fill a text of n bytes. -/
def noughts (n : Nat) : Nat := (64 - (n + 9) % 64) % 64
/-- What stands behind a text of n bytes when it is filled. -/
def tailS (n : Nat) : List UInt8 := 128 :: List.replicate (noughts n) 0 ++ be8 (n * 8) 8
def fillS (l : List UInt8) : List UInt8 := l ++ tailS l.length
theorem tailS_length (n : Nat) : (tailS n).length = noughts n + 9 := by
  simp [tailS, be8_length]
theorem noughts_le (n : Nat) : noughts n ≤ 63 := by unfold noughts; omega
theorem noughts_mod (n : Nat) : (n + (noughts n + 9)) % 64 = 0 := by unfold noughts; omega
theorem fillS_length (l : List UInt8) : (fillS l).length = l.length + (noughts l.length + 9) := by simp [fillS, tailS_length]
theorem fillS_mod (l : List UInt8) : (fillS l).length % 64 = 0 := by rw [fillS_length]; exact noughts_mod _
/-- The sum of a text. -/
def byteOf (x : UInt32) (j : Nat) : UInt8 := UInt8.ofNat (x.toNat / 2 ^ (24 - 8 * j))
def sumS (l : List UInt8) (i : Nat) : UInt8 := byteOf (absb (fillS l) ((fillS l).length / 64) (i / 4)) (i % 4)

/-- A digit, and a hash in digits. -/
def dgt (n : Nat) : UInt8 := if n < 10 then UInt8.ofNat (48 + n) else UInt8.ofNat (87 + n)
def hexS (h : Nat → UInt8) : Nat → List UInt8
  | 0 => []
  | n + 1 => hexS h n ++ [dgt ((h n).toNat / 16), dgt ((h n).toNat % 16)]
theorem hexS_length (h : Nat → UInt8) : ∀ n, (hexS h n).length = 2 * n
  | 0 => rfl
  | n + 1 => by
    simp [hexS, hexS_length h n]
    omega
theorem hexS_congr {h h' : Nat → UInt8} : ∀ n, (∀ i, i < n → h i = h' i) → hexS h n = hexS h' n
  | 0, _ => rfl
  | n + 1, e => by
    unfold hexS
    rw [e n (by omega), hexS_congr n (fun i hi => e i (by omega))]
end Go.Proofs.YthgdgkdnidjdgaaDoor

/-
  Words: what sha's small functions tell.
-/
namespace Go.Proofs.YthgdgkdnidjdgaaDoor
set_option maxRecDepth 20000
open Go.RowKit

theorem rot_and (n : Nat) (h0 : 1 ≤ n) (h1 : n ≤ 31) : bits BinOp.and IntKind.u64 (IntKind.u64.wrap (-(n : Int))) 31 = ((32 - n : Nat) : Int) := by
  have e : IntKind.u64.wrap (-(n : Int)) = ((18446744073709551616 - n : Nat) : Int) := by
    simp [IntKind.wrap, IntKind.signed, IntKind.bits]
    omega
  rw [e, show (31 : Int) = ((31 : Nat) : Int) from rfl, u64_and_nat _ _ (by omega) (by omega), nat_mask5]
  congr 1
  omega
theorem ret_u32 {a b : Int} (h : a = b) : Ending.returned (.int .u32 a) = Ending.returned (.int .u32 b) := by rw [h]
theorem wv_and (x y : UInt32) : bits BinOp.and IntKind.u32 (wv x) (wv y) = wv (x &&& y) := by
  have := x.toNat_lt
  have := y.toNat_lt
  unfold wv
  rw [u32_and_nat _ _ (by omega) (by omega), UInt32.toNat_and]
theorem wv_or (x y : UInt32) : bits BinOp.or IntKind.u32 (wv x) (wv y) = wv (x ||| y) := by
  have := x.toNat_lt
  have := y.toNat_lt
  unfold wv
  rw [u32_or_nat _ _ (by omega) (by omega), UInt32.toNat_or]
theorem wv_xor (x y : UInt32) : bits BinOp.xor IntKind.u32 (wv x) (wv y) = wv (x ^^^ y) := by
  have := x.toNat_lt
  have := y.toNat_lt
  unfold wv
  rw [u32_xor_nat _ _ (by omega) (by omega), UInt32.toNat_xor]
theorem wv_add (x y : UInt32) : (wv x + wv y) % 4294967296 = wv (x + y) := by
  unfold wv
  rw [UInt32.toNat_add]
  omega
theorem wv_not (x : UInt32) : 4294967295 - wv x = wv (~~~x) := by
  have := x.toNat_lt
  have e : UInt32.size = 4294967296 := rfl
  unfold wv
  rw [UInt32.toNat_not, e]
  omega
theorem wv_max (x : UInt32) : bits BinOp.xor IntKind.u32 IntKind.u32.max (wv x) = wv (~~~x) := by
  have e : IntKind.u32.max = wv 4294967295 := rfl
  rw [e, wv_xor]
  congr 1
theorem wv_of (n : Nat) (h : n < 4294967296) : wv (UInt32.ofNat n) = (n : Int) := by
  unfold wv
  rw [UInt32.toNat_ofNat', Nat.mod_eq_of_lt h]
theorem wv_sr (x : UInt32) (n : Nat) : wv x / 2 ^ n = wv (sr x n) := by
  have := x.toNat_lt
  have h := Nat.div_le_self x.toNat (2 ^ n)
  unfold sr
  rw [wv_of _ (by omega)]
  unfold wv
  simp
theorem rr_lt (x : UInt32) (n : Nat) (h0 : 1 ≤ n) (h1 : n ≤ 31) : x.toNat / 2 ^ n + x.toNat % 2 ^ n * 2 ^ (32 - n) < 4294967296 ∧ x.toNat / 2 ^ n < 2 ^ (32 - n) := by
  have hx := x.toNat_lt
  have e : (2 : Nat) ^ n * 2 ^ (32 - n) = 4294967296 := by rw [← Nat.pow_add, show n + (32 - n) = 32 from by omega]
  have hq : x.toNat / 2 ^ n < 2 ^ (32 - n) := (Nat.div_lt_iff_lt_mul (Nat.pow_pos (by omega))).2 (by rw [Nat.mul_comm, e]; omega)
  have hr := Nat.mod_lt x.toNat (Nat.pow_pos (n := n) (show 0 < 2 by omega))
  refine ⟨?_, hq⟩
  generalize x.toNat / 2 ^ n = q at *
  generalize x.toNat % 2 ^ n = r at *
  generalize (2 : Nat) ^ n = A at *
  generalize (2 : Nat) ^ (32 - n) = B at *
  have : (r + 1) * B ≤ A * B := Nat.mul_le_mul_right _ hr
  rw [Nat.add_mul] at this
  omega
theorem rot_eq (x : UInt32) (n : Nat) (h0 : 1 ≤ n) (h1 : n ≤ 31) : bits BinOp.or IntKind.u32 (wv x * 2 ^ (32 - n) % 4294967296) (wv x / 2 ^ (32 - (32 - n))) = wv (rr x n) := by
  obtain ⟨hlt, hq⟩ := rr_lt x n h0 h1
  unfold rr
  rw [wv_of _ hlt, show 32 - (32 - n) = n from by omega]
  unfold wv
  have e : (2 : Nat) ^ n * 2 ^ (32 - n) = 4294967296 := by rw [← Nat.pow_add, show n + (32 - n) = 32 from by omega]
  have hm : x.toNat * 2 ^ (32 - n) % 4294967296 = x.toNat % 2 ^ n * 2 ^ (32 - n) := by
    rw [← e, Nat.mul_mod_mul_right]
  have e1 : (x.toNat : Int) * 2 ^ (32 - n) % 4294967296 = ((x.toNat % 2 ^ n * 2 ^ (32 - n) : Nat) : Int) := by
    rw [← hm]
    simp
  have e2 : (x.toNat : Int) / 2 ^ n = ((x.toNat / 2 ^ n : Nat) : Int) := by simp
  rw [e1, e2, u32_or_nat _ _ (by omega) (by omega), nat_join (32 - n) _ _ (Nat.mul_mod_left _ _) hq, Nat.add_comm]

set_option maxHeartbeats 800000 in
theorem rotl_any (x : UInt32) (n : Nat) (h0 : 1 ≤ n) (h1 : n ≤ 31) (w : World) : Calls Tryd.prog 94 #[wc x, .int .i64 (-(n : Int))] w fun e w' => e = .returned (wc (rr x n)) ∧ w = w' := by
  have HS := rot_and n h0 h1
  obtain ⟨b0, b1⟩ := wv_lt x
  unfold wc
  go_enter Tryd.func94, Tryd.ntmps94
  go_wp2
  go_ret
  exact ⟨ret_u32 (rot_eq x n h0 h1), rfl⟩

theorem right_any (x : UInt32) (n : Nat) (h0 : 1 ≤ n) (h1 : n ≤ 31) (w : World) : Calls Tryd.prog 93 #[wc x, .int .i64 (n : Int)] w fun e w' => e = .returned (wc (rr x n)) ∧ w = w' := by
  have C := rotl_any x n h0 h1 w
  unfold wc at C ⊢
  go_enter Tryd.func93, Tryd.ntmps93
  go_wp2_with fail
  refine C.mono ?_
  rintro e w' ⟨rfl, rfl⟩
  go_wp2_with fail
  go_ret
  exact ⟨rfl, rfl⟩

theorem sm0_any (x : UInt32) (w : World) : Calls Tryd.prog 92 #[wc x] w fun e w' => e = .returned (wc (sm0 x)) ∧ w = w' := by
  have C1 := right_any x 7 (by omega) (by omega) w
  have C2 := right_any x 18 (by omega) (by omega) w
  obtain ⟨b0, b1⟩ := wv_lt x
  unfold wc at C1 C2 ⊢
  go_enter Tryd.func92, Tryd.ntmps92
  go_wp2_with fail
  refine C1.mono ?_
  rintro e w' ⟨rfl, rfl⟩
  go_wp2_with fail
  refine C2.mono ?_
  rintro e w' ⟨rfl, rfl⟩
  go_wp2_with fail
  go_ret
  refine ⟨ret_u32 ?_, rfl⟩
  rw [wv_xor, show wv x / 8 = wv (sr x 3) from wv_sr x 3, wv_xor]
  rfl
theorem sm1_any (x : UInt32) (w : World) : Calls Tryd.prog 91 #[wc x] w fun e w' => e = .returned (wc (sm1 x)) ∧ w = w' := by
  have C1 := right_any x 17 (by omega) (by omega) w
  have C2 := right_any x 19 (by omega) (by omega) w
  obtain ⟨b0, b1⟩ := wv_lt x
  unfold wc at C1 C2 ⊢
  go_enter Tryd.func91, Tryd.ntmps91
  go_wp2_with fail
  refine C1.mono ?_
  rintro e w' ⟨rfl, rfl⟩
  go_wp2_with fail
  refine C2.mono ?_
  rintro e w' ⟨rfl, rfl⟩
  go_wp2_with fail
  go_ret
  refine ⟨ret_u32 ?_, rfl⟩
  rw [wv_xor, show wv x / 1024 = wv (sr x 10) from wv_sr x 10, wv_xor]
  rfl
theorem bg0_any (x : UInt32) (w : World) : Calls Tryd.prog 87 #[wc x] w fun e w' => e = .returned (wc (bg0 x)) ∧ w = w' := by
  have C1 := right_any x 2 (by omega) (by omega) w
  have C2 := right_any x 13 (by omega) (by omega) w
  have C3 := right_any x 22 (by omega) (by omega) w
  unfold wc at C1 C2 C3 ⊢
  go_enter Tryd.func87, Tryd.ntmps87
  go_wp2_with fail
  refine C1.mono ?_
  rintro e w' ⟨rfl, rfl⟩
  go_wp2_with fail
  refine C2.mono ?_
  rintro e w' ⟨rfl, rfl⟩
  go_wp2_with fail
  refine C3.mono ?_
  rintro e w' ⟨rfl, rfl⟩
  go_wp2_with fail
  go_ret
  refine ⟨ret_u32 ?_, rfl⟩
  rw [wv_xor, wv_xor]
  rfl
theorem bg1_any (x : UInt32) (w : World) : Calls Tryd.prog 85 #[wc x] w fun e w' => e = .returned (wc (bg1 x)) ∧ w = w' := by
  have C1 := right_any x 6 (by omega) (by omega) w
  have C2 := right_any x 11 (by omega) (by omega) w
  have C3 := right_any x 25 (by omega) (by omega) w
  unfold wc at C1 C2 C3 ⊢
  go_enter Tryd.func85, Tryd.ntmps85
  go_wp2_with fail
  refine C1.mono ?_
  rintro e w' ⟨rfl, rfl⟩
  go_wp2_with fail
  refine C2.mono ?_
  rintro e w' ⟨rfl, rfl⟩
  go_wp2_with fail
  refine C3.mono ?_
  rintro e w' ⟨rfl, rfl⟩
  go_wp2_with fail
  go_ret
  refine ⟨ret_u32 ?_, rfl⟩
  rw [wv_xor, wv_xor]
  rfl
theorem chc_any (x y z : UInt32) (w : World) : Calls Tryd.prog 86 #[wc x, wc y, wc z] w fun e w' => e = .returned (wc (chc x y z)) ∧ w = w' := by
  obtain ⟨b0, b1⟩ := wv_lt x
  unfold wc
  go_enter Tryd.func86, Tryd.ntmps86
  go_wp2
  go_ret
  refine ⟨ret_u32 ?_, rfl⟩
  rw [wv_max, wv_and, wv_and, wv_or]
  rfl
theorem maj_any (x y z : UInt32) (w : World) : Calls Tryd.prog 88 #[wc x, wc y, wc z] w fun e w' => e = .returned (wc (maj x y z)) ∧ w = w' := by
  unfold wc
  go_enter Tryd.func88, Tryd.ntmps88
  go_wp2
  go_ret
  refine ⟨ret_u32 ?_, rfl⟩
  rw [wv_and, wv_and, wv_and, wv_or, wv_or]
  rfl
end Go.Proofs.YthgdgkdnidjdgaaDoor

/-
  sha.words gives the 64 words that a block makes.
-/
namespace Go.Proofs.YthgdgkdnidjdgaaDoor
set_option maxRecDepth 20000
open Go.RowKit

/-- The words that have been made behind i rounds. -/
def part (W : Nat → UInt32) (i j : Nat) : Value := if j < i then wc (W j) else wc 0

theorem part_set (W : Nat → UInt32) (i j : Nat) : (if j = i then wc (W i) else part W i j) = part W (i + 1) j := by
  unfold part
  by_cases h : j = i
  · subst h
    rw [if_pos rfl, if_pos (by omega)]
  · rw [if_neg h]
    by_cases h2 : j < i
    · rw [if_pos h2, if_pos (by omega)]
    · rw [if_neg h2, if_neg (by omega)]
theorem u32_wrap (n : Nat) (h : n < 4294967296) : IntKind.u32.wrap (n : Int) = (n : Int) := by
  rw [IntKind.wrap_u32']
  omega
theorem four_or (a b c d : UInt8) : bits BinOp.or IntKind.u32 (bits BinOp.or IntKind.u32 (bits BinOp.or IntKind.u32 (IntKind.u32.wrap (IntKind.u32.wrap (a.toNat : Int) * 16777216)) (IntKind.u32.wrap (IntKind.u32.wrap (b.toNat : Int) * 65536))) (IntKind.u32.wrap (IntKind.u32.wrap (c.toNat : Int) * 256))) (IntKind.u32.wrap (d.toNat : Int)) = wv (four a b c d) := by
  have ha := a.toNat_lt
  have hb := b.toNat_lt
  have hc := c.toNat_lt
  have hd := d.toNat_lt
  unfold four
  generalize a.toNat = A at *
  generalize b.toNat = B at *
  generalize c.toNat = C at *
  generalize d.toNat = D at *
  have e1 : IntKind.u32.wrap (IntKind.u32.wrap (A : Int) * 16777216) = ((A * 16777216 : Nat) : Int) := by rw [u32_wrap A (by omega), show (A : Int) * 16777216 = ((A * 16777216 : Nat) : Int) by omega, u32_wrap _ (by omega)]
  have e2 : IntKind.u32.wrap (IntKind.u32.wrap (B : Int) * 65536) = ((B * 65536 : Nat) : Int) := by rw [u32_wrap B (by omega), show (B : Int) * 65536 = ((B * 65536 : Nat) : Int) by omega, u32_wrap _ (by omega)]
  have e3 : IntKind.u32.wrap (IntKind.u32.wrap (C : Int) * 256) = ((C * 256 : Nat) : Int) := by rw [u32_wrap C (by omega), show (C : Int) * 256 = ((C * 256 : Nat) : Int) by omega, u32_wrap _ (by omega)]
  rw [e1, e2, e3, u32_wrap D (by omega), wv_of _ (by omega)]
  rw [u32_or_nat _ _ (by omega) (by omega), nat_join 24 _ _ (by omega) (by omega), u32_or_nat _ _ (by omega) (by omega), nat_join 16 _ _ (by omega) (by omega), u32_or_nat _ _ (by omega) (by omega), nat_join 8 _ _ (by omega) (by omega)]

theorem wv_sum4 (a b c d : UInt32) : (wv a + wv b + wv c + wv d) % 4294967296 = wv (a + b + c + d) := by
  rw [← wv_add (a + b + c) d, ← wv_add (a + b) c, ← wv_add a b]
  omega
theorem wv_wadd (x y : UInt32) : IntKind.u32.wrap (wv x + wv y) = wv (x + y) := by rw [IntKind.wrap_u32', wv_add]
theorem sm1_still (x : UInt32) (w : World) : Calls Tryd.prog 91 #[.int .u32 (wv x)] w fun e w' => e = .returned (.int .u32 (wv (sm1 x))) ∧ w' = w := (sm1_any x w).mono fun _ _ ⟨h, h2⟩ => ⟨h, h2.symm⟩
theorem sm0_still (x : UInt32) (w : World) : Calls Tryd.prog 92 #[.int .u32 (wv x)] w fun e w' => e = .returned (.int .u32 (wv (sm0 x))) ∧ w' = w := (sm0_any x w).mono fun _ _ ⟨h, h2⟩ => ⟨h, h2.symm⟩

set_option maxHeartbeats 1600000 in
theorem words_any (b : Nat → UInt8) (g : Nat) (t : TypeId) (w : World) (hg : Blk w g 64 (fun j => bcell (b j)) t) :
    Calls Tryd.prog 84 #[.pointer (some ⟨g, 0, none⟩)] w fun e w' => e = .returned (.agg (fcells 64 fun j => wc (wd b j))) ∧ Below w.heap.size w w' := by
  have hlt := hg.lt
  go_enter Tryd.func84, Tryd.ntmps84
  go_wp2_with (refine wpList_alloc_arr arrW rfl rfl ?_)
  have hG2 : Blk ((w.alloc (.cells (fcells 64 fun _ => wc 0) 113)).alloc (.cells (fcells 64 fun _ => wc 0) 113)) w.heap.size 64 (fun _ => wc 0) 113 := (Blk.new w 64 (fun _ => wc 0) 113).alloc _
  have hG3 : Blk ((w.alloc (.cells (fcells 64 fun _ => wc 0) 113)).alloc (.cells (fcells 64 fun _ => wc 0) 113)) (w.heap.size + 1) 64 (fun _ => wc 0) 113 := heap_alloc2_new w _ _
  have hbw0 : Below w.heap.size w ((w.alloc (.cells (fcells 64 fun _ => wc 0) 113)).alloc (.cells (fcells 64 fun _ => wc 0) 113)) := ((Below.refl _ _).alloc (Nat.le_refl _) _).alloc (by simp) _
  generalize ((w.alloc (.cells (fcells 64 fun _ => wc 0) 113)).alloc (.cells (fcells 64 fun _ => wc 0) 113)) = w0 at *
  go_wp2
  go_loopw [6] (fun si wr => ∃ i : Nat, i ≤ 16 ∧ si = .int .i64 i ∧ Below w.heap.size w wr ∧ Blk wr w.heap.size 64 (fun _ => wc 0) 113 ∧ Blk wr (w.heap.size + 1) 64 (part (wd b) i) 113) (fun si _ => 16 - (intOf si).toNat)
  case atStart => exact ⟨0, by omega, rfl, hbw0, hG2, hG3.congr fun i _ => by simp [part]⟩
  case round =>
    obtain ⟨i, hi, rfl, hbw, hA, hB⟩ := hrel
    by_cases hlt2 : i < 16
    · have hgr := hg.keep hbw
      obtain ⟨J, HJ⟩ : ∃ J : Nat, Hid (4 * i = J) := ⟨_, hid rfl⟩
      have hJ : J + 3 < 64 := by have := HJ.out; omega
      have c0 := hgr.cell (i := J) (by omega)
      have c1 := hgr.cell (i := J + 1) (by omega)
      have c2 := hgr.cell (i := J + 2) (by omega)
      have c3 := hgr.cell (i := J + 3) (by omega)
      have q0 : IntKind.i64.wrap (4 * (i : Int)) = (J : Int) := by rw [IntWalk.i64_in _ (by omega)]; have := HJ.out; omega
      have q1 : IntKind.i64.wrap ((J : Int) + 1) = (J : Int) + 1 := IntWalk.i64_in _ (by omega)
      have q2 : IntKind.i64.wrap ((J : Int) + 2) = (J : Int) + 2 := IntWalk.i64_in _ (by omega)
      have q3 : IntKind.i64.wrap ((J : Int) + 3) = (J : Int) + 3 := IntWalk.i64_in _ (by omega)
      have r1 : ((J : Int) + 1).toNat = J + 1 := by omega
      have r2 : ((J : Int) + 2).toNat = J + 2 := by omega
      have r3 : ((J : Int) + 3).toNat = J + 3 := by omega
      have s0 : (J : Int) < 64 := by omega
      have s1 : (J : Int) + 1 < 64 := by omega
      have s2 : (J : Int) + 2 < 64 := by omega
      have s3 : (J : Int) + 3 < 64 := by omega
      have u1 : 0 ≤ (J : Int) + 1 := by omega
      have u2 : 0 ≤ (J : Int) + 2 := by omega
      have u3 : 0 ≤ (J : Int) + 3 := by omega
      unfold bcell at c0 c1 c2 c3
      have k3 := hB.cell (i := i) (by omega)
      have f3 := hB.free i
      have hi16 : (i : Int) < 16 := by omega
      go_wp2_with fail
      go_still_tail 38, (by kernel_rfl)
      rw [four_or]
      change wpList _ _ _ _ _ wr.drew
      clear q0 q1 q2 q3 r1 r2 r3
      go_wp2_with fail
      go_roundw
      case rel =>
        refine ⟨i + 1, by omega, by go_num, (hbw.drew).setCell (by simp) _, hA.drew.apart _ _ (by simp), ((hB.drew).set (i := i) (by omega) _).congr fun j _ => ?_⟩
        rw [← part_set, wd_low b hlt2]
        unfold wordB
        rw [HJ.out]
        rfl
      case measure => simp [intOf]; omega
    · have HB16 : Hid (Blk wr (w.heap.size + 1) 64 (part (wd b) 16) 113) := by
        have e : i = 16 := by omega
        rw [← e]
        exact hid hB
      obtain ⟨m, rfl⟩ : ∃ m : Nat, i = m := ⟨i, rfl⟩
      go_wp2_with fail
      go_loopw [5] (fun si wr => ∃ i : Nat, 16 ≤ i ∧ i ≤ 64 ∧ si = .int .i64 i ∧ Below w.heap.size w wr ∧ Blk wr w.heap.size 64 (fun _ => wc 0) 113 ∧ Blk wr (w.heap.size + 1) 64 (part (wd b) i) 113) (fun si _ => 64 - (intOf si).toNat)
      case atStart => exact ⟨16, by omega, by omega, rfl, hbw, hA, HB16.out⟩
      case round =>
        clear hA hB hbw HB16
        obtain ⟨i, hi0, hi, rfl, hbw, hA, hB⟩ := hrel
        by_cases hlt2 : i < 64
        · obtain ⟨a2, H2⟩ : ∃ a2 : Nat, Hid (a2 + 2 = i) := ⟨i - 2, hid (by omega)⟩
          obtain ⟨a7, H7⟩ : ∃ a7 : Nat, Hid (a7 + 7 = i) := ⟨i - 7, hid (by omega)⟩
          obtain ⟨a15, H15⟩ : ∃ a15 : Nat, Hid (a15 + 15 = i) := ⟨i - 15, hid (by omega)⟩
          obtain ⟨a16, H16⟩ : ∃ a16 : Nat, Hid (a16 + 16 = i) := ⟨i - 16, hid (by omega)⟩
          have b2 : a2 < 64 := by have := H2.out; omega
          have b7 : a7 < 64 := by have := H7.out; omega
          have b15 : a15 < 64 := by have := H15.out; omega
          have b16 : a16 < 64 := by have := H16.out; omega
          have q2 : IntKind.i64.wrap ((i : Int) - 2) = (a2 : Int) := by rw [IntWalk.i64_in _ (by omega)]; have := H2.out; omega
          have q7 : IntKind.i64.wrap ((i : Int) - 7) = (a7 : Int) := by rw [IntWalk.i64_in _ (by omega)]; have := H7.out; omega
          have q15 : IntKind.i64.wrap ((i : Int) - 15) = (a15 : Int) := by rw [IntWalk.i64_in _ (by omega)]; have := H15.out; omega
          have q16 : IntKind.i64.wrap ((i : Int) - 16) = (a16 : Int) := by rw [IntWalk.i64_in _ (by omega)]; have := H16.out; omega
          have c2 := hB.cell (i := a2) (by omega)
          have c7 := hB.cell (i := a7) (by omega)
          have c15 := hB.cell (i := a15) (by omega)
          have c16 := hB.cell (i := a16) (by omega)
          have e2 : part (wd b) i a2 = .int .u32 (wv (wd b a2)) := if_pos (by have := H2.out; omega)
          have e7 : part (wd b) i a7 = .int .u32 (wv (wd b a7)) := if_pos (by have := H7.out; omega)
          have e15 : part (wd b) i a15 = .int .u32 (wv (wd b a15)) := if_pos (by have := H15.out; omega)
          have e16 : part (wd b) i a16 = .int .u32 (wv (wd b a16)) := if_pos (by have := H16.out; omega)
          rw [e2] at c2
          rw [e7] at c7
          rw [e15] at c15
          rw [e16] at c16
          have k3 := hB.cell (i := i) (by omega)
          have f3 := hB.free i
          have hi64 : (i : Int) < 64 := by omega
          have l2 : (a2 : Int) < 64 := by omega
          have l7 : (a7 : Int) < 64 := by omega
          have l15 : (a15 : Int) < 64 := by omega
          have l16 : (a16 : Int) < 64 := by omega
          clear e2 e7 e15 e16
          go_wp2_with fail
          refine wp_region_still_tail 22 (by kernel_rfl) (by kernel_rfl) ?_
          simp only [List.take_succ_cons, List.take_zero, List.drop_succ_cons, List.drop_zero]
          repeat still_step
          still_call (sm1_still _ _)
          repeat still_step
          still_call (sm0_still _ _)
          repeat still_step
          refine wpStill_nil ?_
          change wpList _ _ _ _ _ wr.drew
          clear q2 q7 q15 q16
          go_wp2_with fail
          go_roundw
          case rel =>
            refine ⟨i + 1, by omega, by omega, by go_num, (hbw.drew).setCell (by simp) _, hA.drew.apart _ _ (by simp), ((hB.drew).set (i := i) (by omega) _).congr fun j _ => ?_⟩
            rw [← part_set, wd_high b hi0 hlt2, show i - 2 = a2 from by have := H2.out; omega, show i - 7 = a7 from by have := H7.out; omega, show i - 15 = a15 from by have := H15.out; omega, show i - 16 = a16 from by have := H16.out; omega]
            rw [wv_sum4]
            rfl
          case measure => simp [intOf]; omega
        · obtain rfl : i = 64 := by omega
          have hB2 : Blk wr (w.heap.size + 1) 64 (fun j => wc (wd b j)) 113 := hB.congr fun j hj => if_pos hj
          go_wp2_with (first
            | (refine wpList_load_arr arrW rfl _ rfl rfl hB2 ?_)
            | (refine wpList_store_arr arrW rfl _ _ rfl rfl rfl hA (fun _ _ => rfl) ?_; intro w9 hg9 hA9 hs9))
          refine bodyPost_ret (arrW.result rfl _ _ rfl hA9) rfl ⟨rfl, ?_⟩
          exact below_into hbw (g := w.heap.size) (Nat.le_refl _) hg9 hbw.size
end Go.Proofs.YthgdgkdnidjdgaaDoor

/-
  sha.Turn gives the state behind a block.
-/
namespace Go.Proofs.YthgdgkdnidjdgaaDoor
set_option maxRecDepth 20000
open Go.RowKit

/-- A variable of the package's holds the constants. -/
def Kst (g : Nat) (w : World) : Prop := g < w.heap.size ∧ ∀ j, j < 64 → w.cell? ⟨g, j, none⟩ = some (.int .u32 (wv (kc j)))
theorem Kst.below {g : Nat} {w w' : World} (h : Kst g w) (hb : Below w.heap.size w w') : Kst g w' :=
  ⟨Nat.lt_of_lt_of_le h.1 hb.size, fun j hj => (hb.cell (p := ⟨g, j, none⟩) h.1).trans (h.2 j hj)⟩
theorem Kst.grown {g : Nat} {w w' : World} (h : Kst g w) {row : Option Nat} (hg : w.grownBy w' row) (hr : row ≠ some g) : Kst g w' :=
  ⟨Nat.lt_of_lt_of_le h.1 hg.size, fun j hj => (World.cell?_of_block (hg.block g h.1 (fun e => hr e.symm))).trans (h.2 j hj)⟩

theorem bg1_still (x : UInt32) (w : World) : Calls Tryd.prog 85 #[.int .u32 (wv x)] w fun e w' => e = .returned (.int .u32 (wv (bg1 x))) ∧ w' = w := (bg1_any x w).mono fun _ _ ⟨h, h2⟩ => ⟨h, h2.symm⟩
theorem chc_still (x y z : UInt32) (w : World) : Calls Tryd.prog 86 #[.int .u32 (wv x), .int .u32 (wv y), .int .u32 (wv z)] w fun e w' => e = .returned (.int .u32 (wv (chc x y z))) ∧ w' = w := (chc_any x y z w).mono fun _ _ ⟨h, h2⟩ => ⟨h, h2.symm⟩
theorem bg0_same (x : UInt32) (w : World) : Calls Tryd.prog 87 #[.int .u32 (wv x)] w fun e w' => e = .returned (.int .u32 (wv (bg0 x))) ∧ w = w' := bg0_any x w
theorem maj_same (x y z : UInt32) (w : World) : Calls Tryd.prog 88 #[.int .u32 (wv x), .int .u32 (wv y), .int .u32 (wv z)] w fun e w' => e = .returned (.int .u32 (wv (maj x y z))) ∧ w = w' := maj_any x y z w

theorem wv_sum5 (a b c d e : UInt32) : (wv a + wv b + wv c + wv d + wv e) % 4294967296 = wv (a + b + c + d + e) := by
  rw [← wv_add (a + b + c + d) e, ← wv_sum4]
  omega

theorem quiet2 {P : Program} {f : FuncId} {args : Array Value} {w : World} {n m : Nat} {v : Value}
    (h : Calls P f args (w.drewN (n + m)) fun e w' => e = .returned v ∧ w' = w.drewN (n + m)) : Calls P f args (w.drewN (n + m)) fun e w'' => e = .returned v ∧ ∃ k, w'' = w.drewN (n + k) :=
  h.mono fun _ _ ⟨he, hm⟩ => ⟨he, m, hm⟩

/-- Eight words as they are built. -/
def eight (v : Nat → Value) : Array Value := #[v 0, v 1, v 2, v 3, v 4, v 5, v 6, v 7]
theorem eight_eq (v : Nat → Value) : eight v = fcells 8 v := rfl

set_option maxHeartbeats 3200000 in
set_option maxRecDepth 100000 in
theorem turn_any (s : Nat → UInt32) (b : Nat → UInt8) (w : World) (hK : Kst 0 w) :
    Calls Tryd.prog 81 #[.agg (fcells 8 fun j => wc (s j)), .agg (fcells 64 fun j => bcell (b j))] w fun e w' => e = .returned (.agg (fcells 8 fun j => wc (turnS s b j))) ∧ Below w.heap.size w w' := by
  have h1 := hK.1
  go_enter Tryd.func81, Tryd.ntmps81
  go_wp2_with (refine wpList_alloc_arr arrS rfl rfl ?_)
  have hA : Blk (((w.alloc (.cells (fcells 8 fun j => wc (s j)) 103)).alloc (.cells (fcells 64 fun j => bcell (b j)) 96)).alloc (.cells (fcells 8 fun _ => wc 0) 103)) w.heap.size 8 (fun j => wc (s j)) 103 := ((Blk.new w _ _ _).alloc _).alloc _
  have hB : Blk (((w.alloc (.cells (fcells 8 fun j => wc (s j)) 103)).alloc (.cells (fcells 64 fun j => bcell (b j)) 96)).alloc (.cells (fcells 8 fun _ => wc 0) 103)) (w.heap.size + 1) 64 (fun j => bcell (b j)) 96 := Blk.alloc (heap_alloc2_new w _ _) _
  have hC : Blk (((w.alloc (.cells (fcells 8 fun j => wc (s j)) 103)).alloc (.cells (fcells 64 fun j => bcell (b j)) 96)).alloc (.cells (fcells 8 fun _ => wc 0) 103)) (w.heap.size + 1 + 1) 8 (fun _ => wc 0) 103 := by
    have := Blk.new ((w.alloc (.cells (fcells 8 fun j => wc (s j)) 103)).alloc (.cells (fcells 64 fun j => bcell (b j)) 96)) 8 (fun _ => wc 0) 103
    simpa using this
  have hbw : Below w.heap.size w (((w.alloc (.cells (fcells 8 fun j => wc (s j)) 103)).alloc (.cells (fcells 64 fun j => bcell (b j)) 96)).alloc (.cells (fcells 8 fun _ => wc 0) 103)) := (((Below.refl _ _).alloc (Nat.le_refl _) _).alloc (by simp) _).alloc (by simp; omega) _
  have hsz : (((w.alloc (.cells (fcells 8 fun j => wc (s j)) 103)).alloc (.cells (fcells 64 fun j => bcell (b j)) 96)).alloc (.cells (fcells 8 fun _ => wc 0) 103)).heap.size = w.heap.size + 3 := by simp
  have hp : ((w.alloc (.cells (fcells 8 fun j => wc (s j)) 103)).alloc (.cells (fcells 64 fun j => bcell (b j)) 96)).heap.size = w.heap.size + 1 + 1 := by simp
  rw [hp]
  clear hp
  generalize (((w.alloc (.cells (fcells 8 fun j => wc (s j)) 103)).alloc (.cells (fcells 64 fun j => bcell (b j)) 96)).alloc (.cells (fcells 8 fun _ => wc 0) 103)) = w0 at *
  have Hsz := hid hsz
  clear hsz
  have hl0 := hA.cell (i := 0) (by omega)
  have hl1 := hA.cell (i := 1) (by omega)
  have hl2 := hA.cell (i := 2) (by omega)
  have hl3 := hA.cell (i := 3) (by omega)
  have hl4 := hA.cell (i := 4) (by omega)
  have hl5 := hA.cell (i := 5) (by omega)
  have hl6 := hA.cell (i := 6) (by omega)
  have hl7 := hA.cell (i := 7) (by omega)
  unfold wc at hl0 hl1 hl2 hl3 hl4 hl5 hl6 hl7
  go_wp2
  go_quiet (fail)
  go_wp2_with fail
  have hq0 : Below w.heap.size w (w0.drewN nq) := below_drewN hbw _
  refine (words_any b (w.heap.size + 1) _ (w0.drewN nq) (hB.drewN _)).mono ?_
  rintro e w1 ⟨rfl, hb1⟩
  obtain ⟨WA, HWA⟩ : ∃ WA : Value, Hid (Value.agg (fcells 64 fun j => wc (wd b j)) = WA) := ⟨_, hid rfl⟩
  rw [HWA.out]
  have hidx : ∀ (i : Nat), i < 64 → ∀ w, (Instr.index 113 WA (.int .i64 (i : Int))).run Tryd.prog w = .ok (.int .u32 (wv (wd b i))) w := fun i hi w => by
    rw [← HWA.out]
    exact arrW.run_index _ hi w
  have hbw1 : Below w.heap.size w w1 := hq0.trans (hb1.mono (by show w.heap.size ≤ w0.heap.size; have := Hsz.out; omega))
  have hA1 : Blk w1 w.heap.size 8 (fun j => wc (s j)) 103 := Blk.keep (w := w0.drewN nq) hA hb1
  have hC1 : Blk w1 (w.heap.size + 1 + 1) 8 (fun _ => wc 0) 103 := Blk.keep (w := w0.drewN nq) hC hb1
  have hK1 := hK.below hbw1
  clear hl0 hl1 hl2 hl3 hl4 hl5 hl6 hl7 hq0 hb1 hA hB hC hbw Hsz
  go_wp2_with fail
  go_loopw [5, 6, 7, 8, 9, 10, 11, 12, 34] (fun a0 a1 a2 a3 a4 a5 a6 a7 si wr => ∃ (i : Nat) (xa xb xc xd xe xf xg xh : UInt32), i ≤ 64 ∧ si = .int .i64 i ∧ Hid (rnds (wd b) i (St.of s) = ⟨xa, xb, xc, xd, xe, xf, xg, xh⟩) ∧ a0 = .int .u32 (wv xa) ∧ a1 = .int .u32 (wv xb) ∧ a2 = .int .u32 (wv xc) ∧ a3 = .int .u32 (wv xd) ∧ a4 = .int .u32 (wv xe) ∧ a5 = .int .u32 (wv xf) ∧ a6 = .int .u32 (wv xg) ∧ a7 = .int .u32 (wv xh) ∧ ∃ n, wr = w1.drewN n) (fun _ _ _ _ _ _ _ _ si _ => 64 - (intOf si).toNat)
  case atStart => exact ⟨0, s 0, s 1, s 2, s 3, s 4, s 5, s 6, s 7, by omega, rfl, hid rfl, rfl, rfl, rfl, rfl, rfl, rfl, rfl, rfl, 0, rfl⟩
  case round =>
    obtain ⟨i, xa, xb, xc, xd, xe, xf, xg, xh, hi, rfl, HV, rfl, rfl, rfl, rfl, rfl, rfl, rfl, rfl, n, rfl⟩ := hrel
    by_cases hlt : i < 64
    · have hx := hidx i hlt
      have hk := hK1.2 i hlt
      have hi64 : (i : Int) < 64 := by omega
      have h11 := hK1.1
      clear hidx
      go_wp2_with fail
      go_quiet ((first
        | (go_at_call 85; exact quiet2 (bg1_still _ _))
        | (go_at_call 86; exact quiet2 (chc_still _ _ _ _))))
      go_wp2_with (first
        | (go_at_call 87; refine (bg0_same _ _).mono ?_; rintro e w' ⟨rfl, rfl⟩)
        | (go_at_call 88; refine (maj_same _ _ _ _).mono ?_; rintro e w' ⟨rfl, rfl⟩))
      go_roundw
      case rel =>
        exact ⟨i + 1, (xh + bg1 xe + chc xe xf xg + kc i + wd b i) + (bg0 xa + maj xa xb xc), xa, xb, xc, xd + (xh + bg1 xe + chc xe xf xg + kc i + wd b i), xe, xf, xg, by omega, by go_num, hid (by unfold rnds; rw [HV.out]; rfl), by rw [wv_sum5, wv_add, wv_add], rfl, rfl, rfl, by rw [wv_sum5, wv_add], rfl, rfl, rfl, n + nq, rfl⟩
      case measure => simp [intOf]; omega
    · have HI := hid (show i = 64 by omega)
      have hge : ¬ (i : Int) < 64 := by omega
      have hl0 := hA1.cell (i := 0) (by omega)
      have hl1 := hA1.cell (i := 1) (by omega)
      have hl2 := hA1.cell (i := 2) (by omega)
      have hl3 := hA1.cell (i := 3) (by omega)
      have hl4 := hA1.cell (i := 4) (by omega)
      have hl5 := hA1.cell (i := 5) (by omega)
      have hl6 := hA1.cell (i := 6) (by omega)
      have hl7 := hA1.cell (i := 7) (by omega)
      unfold wc at hl0 hl1 hl2 hl3 hl4 hl5 hl6 hl7
      have hltA := hA1.lt
      clear hidx
      go_wp2_with (refine wpList_store_arr arrS (f' := fun j => .int .u32 ([(wv (s 0) + wv xa) % 4294967296, (wv (s 1) + wv xb) % 4294967296, (wv (s 2) + wv xc) % 4294967296, (wv (s 3) + wv xd) % 4294967296, (wv (s 4) + wv xe) % 4294967296, (wv (s 5) + wv xf) % 4294967296, (wv (s 6) + wv xg) % 4294967296, (wv (s 7) + wv xh) % 4294967296].getD j 0)) rfl _ _ rfl rfl rfl (hC1.drewN n) (fun _ _ => rfl) ?_; intro w9 hg9 hC9 hs9)
      have hres : ∀ j, j < 8 → Value.int .u32 ([(wv (s 0) + wv xa) % 4294967296, (wv (s 1) + wv xb) % 4294967296, (wv (s 2) + wv xc) % 4294967296, (wv (s 3) + wv xd) % 4294967296, (wv (s 4) + wv xe) % 4294967296, (wv (s 5) + wv xf) % 4294967296, (wv (s 6) + wv xg) % 4294967296, (wv (s 7) + wv xh) % 4294967296].getD j 0) = wc (turnS s b j) := by
        have hv := HV.out
        rw [HI.out] at hv
        intro j hj
        unfold turnS
        rw [hv]
        obtain rfl | rfl | rfl | rfl | rfl | rfl | rfl | rfl : j = 0 ∨ j = 1 ∨ j = 2 ∨ j = 3 ∨ j = 4 ∨ j = 5 ∨ j = 6 ∨ j = 7 := by omega
        all_goals exact congrArg (Value.int .u32) (wv_add _ _)
      refine bodyPost_ret (arrS.result rfl _ _ rfl (hC9.congr hres)) rfl ⟨rfl, ?_⟩
      exact below_into (below_drewN hbw1 n) (by omega) hg9 (by show w.heap.size ≤ w1.heap.size; omega)
end Go.Proofs.YthgdgkdnidjdgaaDoor
