/-
  Arrays in memory and as values: n cells, of which the j-th is f j. Words of 32 bits. Laws for the walk; no function of the program.
-/
import Derived.Test.YtakigopjbbhjkaaDoorAppend
import Derived.Laws.Rows
import Derived.Laws.Tables
import Derived.Laws.CopyOwn
import Derived.Deep.MidRow
import Derived.ChangeKeysEq
import Derived.Laws.StructEq
namespace Go.Proofs.YtakigopjbbhjkaaDoor
open Go.RowKit

/-- A word's number, and its cell. -/
def wv (x : UInt32) : Int := (x.toNat : Int)
def wc (x : UInt32) : Value := .int .u32 (wv x)
theorem wv_lt (x : UInt32) : 0 ≤ wv x ∧ wv x ≤ 4294967295 := by
  have := x.toNat_lt
  unfold wv
  omega
theorem wv_inj {x y : UInt32} (h : wv x = wv y) : x = y := UInt32.toNat_inj.1 (by unfold wv at h; omega)

/-- n cells, of which the j-th is f j. -/
def fcells (n : Nat) (f : Nat → Value) : Array Value := Array.ofFn (fun i : Fin n => f i.val)
theorem fcells_size (n : Nat) (f : Nat → Value) : (fcells n f).size = n := by simp [fcells]
theorem fcells_get {n i : Nat} (f : Nat → Value) (h : i < n) : (fcells n f)[i]? = some (f i) := by simp [fcells, h]
theorem fcells_out {n i : Nat} (f : Nat → Value) (h : ¬ i < n) : (fcells n f)[i]? = none := by simp [fcells]; omega
theorem fcells_congr {n : Nat} {f g : Nat → Value} (h : ∀ i, i < n → f i = g i) : fcells n f = fcells n g := by
  apply Array.ext (by simp [fcells])
  intro i hi _
  simp [fcells] at hi ⊢
  exact h i hi
theorem fcells_set {n i : Nat} (f : Nat → Value) (v : Value) (h : i < n) : (fcells n f).setIfInBounds i v = fcells n (fun j => if j = i then v else f j) := by
  apply Array.ext_getElem?
  intro j
  by_cases hj : j < n
  · rw [fcells_get _ hj, Array.getElem?_setIfInBounds]
    by_cases e : i = j
    · subst e
      rw [if_pos rfl, if_pos (by rw [fcells_size]; exact h), if_pos rfl]
    · rw [if_neg e, fcells_get _ hj, if_neg (fun h => e h.symm)]
  · rw [fcells_out _ hj, Array.getElem?_setIfInBounds, if_neg (by omega), fcells_out _ hj]
theorem fcells_one {n : Nat} {f : Nat → Value} (h : ∀ i, i < n → (f i).oneCell' = true) : (fcells n f).all (·.oneCell') = true := by
  rw [Array.all_eq_true_iff_forall_mem]
  intro v hv
  simp only [fcells, Array.mem_ofFn] at hv
  obtain ⟨i, rfl⟩ := hv
  exact h i i.2
theorem fcells_list (n : Nat) (f : Nat → Value) (i : Nat) : (fcells n f).toList[i]? = if i < n then some (f i) else none := by
  rw [Array.getElem?_toList]
  split
  · exact fcells_get f ‹_›
  · exact fcells_out f ‹_›
theorem fcells_of {cs : Array Value} {n : Nat} (h : cs.size = n) : cs = fcells n (fun j => cs.getD j undef) := by
  subst h
  apply Array.ext_getElem?
  intro j
  by_cases hj : j < cs.size
  · rw [fcells_get _ hj]
    simp [hj]
  · rw [fcells_out _ hj]
    simp; omega

/-- Block g has n cells, of which the j-th is f j. -/
def Blk (w : World) (g n : Nat) (f : Nat → Value) (t : TypeId) : Prop := w.heap[g]? = some (.cells (fcells n f) t (0, 0))

section
variable {w w' : World} {g n : Nat} {f f' : Nat → Value} {t : TypeId}
theorem Blk.lt (h : Blk w g n f t) : g < w.heap.size := lt_of_block h
theorem Blk.cell (h : Blk w g n f t) {i : Nat} (hi : i < n) : w.cell? ⟨g, i, none⟩ = some (f i) := (cell_of_row w g i _ t (0, 0) h).trans (fcells_get f hi)
theorem Blk.free (h : Blk w g n f t) (i : Nat) : w.frozen? ⟨g, i, none⟩ = false := frozen_of_row w g i _ t h
theorem Blk.congr (h : Blk w g n f t) (e : ∀ i, i < n → f i = f' i) : Blk w g n f' t := by
  unfold Blk at h ⊢
  rw [h, fcells_congr e]
theorem Blk.set (h : Blk w g n f t) {i : Nat} (hi : i < n) (v : Value) : Blk (w.setCell ⟨g, i, none⟩ v) g n (fun j => if j = i then v else f j) t := by
  unfold Blk
  rw [heap_setCell_same w g i _ t v h, fcells_set f v hi]
theorem Blk.apart (h : Blk w g n f t) {k : Nat} (i : Nat) (v : Value) (hk : g ≠ k) : Blk (w.setCell ⟨k, i, none⟩ v) g n f t := (heap_setCell_other w _ g v hk).trans h
theorem Blk.below {B : Nat} (h : Blk w g n f t) (hb : Below B w w') (hg : g < B) : Blk w' g n f t := (hb.block g hg).trans h
theorem Blk.keep (h : Blk w g n f t) (hb : Below w.heap.size w w') : Blk w' g n f t := h.below hb h.lt
theorem Blk.grown (h : Blk w g n f t) {row : Option Nat} (hg : w.grownBy w' row) (hr : row ≠ some g) : Blk w' g n f t := (hg.block g h.lt (fun e => hr e.symm)).trans h
theorem Blk.drew (h : Blk w g n f t) : Blk w.drew g n f t := h
theorem Blk.drewN (h : Blk w g n f t) (k : Nat) : Blk (w.drewN k) g n f t := h
theorem Blk.alloc (h : Blk w g n f t) (o : Obj) : Blk (w.alloc o) g n f t := (Below.heap_alloc w o g h.lt).trans h
theorem Blk.new (w : World) (n : Nat) (f : Nat → Value) (t : TypeId) : Blk (w.alloc (.cells (fcells n f) t)) w.heap.size n f t := heap_alloc_new w _
theorem Blk.range (h : Blk w g n f t) {o m : Nat} {f' : Nat → Value} (ho : o + m ≤ n) (e : ∀ j, j < m → f (o + j) = f' j) : w.rangeAt g o (fcells m f').toList := fun j v hv => by
  rw [fcells_list] at hv
  split at hv
  · rename_i hj
    injection hv with hv
    rw [h.cell (by omega), e j hj, hv]
  · cases hv
theorem Blk.there (h : Blk w g n f t) {o m : Nat} (ho : o + m ≤ n) : w.there g o m := fun j hj => ⟨by rw [h.cell (by omega)]; rfl, h.free _⟩
theorem setCells_blk : ∀ (vs : List Value) (o : Nat) (w : World) (f : Nat → Value), Blk w g n f t → o + vs.length ≤ n → Blk (w.setCells g o vs) g n (fun j => if o ≤ j ∧ j < o + vs.length then vs.getD (j - o) undef else f j) t
  | [], o, w, f, h, _ => h.congr fun i _ => by rw [if_neg (by simp)]
  | v :: r, o, w, f, h, ho => by
    have hl : (v :: r).length = r.length + 1 := rfl
    refine (setCells_blk r (o + 1) _ _ (h.set (i := o) (by omega) v) (by omega)).congr fun i _ => ?_
    by_cases h1 : o + 1 ≤ i ∧ i < o + 1 + r.length
    · rw [if_pos h1, if_pos (by omega), show i - o = (i - (o + 1)) + 1 from by omega]
      rfl
    · rw [if_neg h1]
      by_cases h2 : i = o
      · subst h2
        rw [if_pos rfl, if_pos (by omega), Nat.sub_self]
        rfl
      · rw [if_neg h2, if_neg (by omega)]
theorem setCells_other (g : Nat) : ∀ (vs : List Value) (o : Nat) (w : World) (k : Nat), k ≠ g → (w.setCells g o vs).heap[k]? = w.heap[k]?
  | [], _, _, _, _ => rfl
  | _ :: r, o, _, k, hk => (setCells_other g r (o + 1) _ k hk).trans (heap_setCell_other _ _ _ _ hk)
theorem setCells_size (g : Nat) : ∀ (vs : List Value) (o : Nat) (w : World), (w.setCells g o vs).heap.size = w.heap.size
  | [], _, _ => rfl
  | _ :: r, o, _ => (setCells_size g r (o + 1) _).trans (by simp [World.setCell])
theorem grown_setCell (w : World) (g i : Nat) (u : Value) : w.grownBy (w.setCell ⟨g, i, none⟩ u) (some g) :=
  ⟨rfl, rfl, rfl, by simp [World.setCell], fun k _ hk => heap_setCell_other w _ k u (fun e => hk (by rw [e]))⟩
theorem grown_setCells (g : Nat) : ∀ (vs : List Value) (o : Nat) (w : World), w.grownBy (w.setCells g o vs) (some g)
  | [], _, w => World.grownBy.refl w _
  | v :: r, o, w => (grown_setCell w g o v).trans (grown_setCells g r (o + 1) _)
theorem grown_below {w w' : World} (h : Below w.heap.size w w') (row : Option Nat) : w.grownBy w' row := ⟨h.os, h.tape, h.output, h.size, fun k hk _ => h.block k hk⟩
theorem grown_drewN {a b : World} {row : Option Nat} (h : a.grownBy b row) (n : Nat) : a.grownBy (b.drewN n) row := ⟨h.os, h.tape, h.output, h.size, h.block⟩
theorem below_set {B : Nat} {a w : World} (hb : Below B a w) {g : Nat} (hg : B ≤ g) (i : Nat) (u : Value) : Below B a (w.setCell ⟨g, i, none⟩ u) := hb.setCell hg u
/-- What is written into a block of the call's own leaves all that was. -/
theorem below_into {B : Nat} {a w w' : World} (hb : Below B a w) {g : Nat} (hg : B ≤ g) (h : w.grownBy w' (some g)) (hs : B ≤ w.heap.size) : Below B a w' := hb.grown h hs (fun k hk => by injection hk; omega)
end

/-- What is known of a type of arrays of one-cell elements. -/
structure ArrT (T E : TypeId) (n : Nat) (z : Value) : Prop where
  zero : (Tryd.prog.info? T).bind (·.zero) = some (.agg (fcells n fun _ => z))
  size : (Tryd.prog.info? T).map (·.size) = some n
  under : Tryd.prog.underlying T = some (.array n E)
  esize : (Tryd.prog.info? E).map (·.size) = some 1
  plain : Tryd.prog.plainKey E = true
  ecells : Tryd.prog.cellsOf E = 1
  zone : z.oneCell' = true

theorem arrS : ArrT 49 48 8 (wc 0) := ⟨by kernel_rfl, by kernel_rfl, by kernel_rfl, by kernel_rfl, by kernel_rfl, by kernel_rfl, rfl⟩
theorem arrW : ArrT 60 48 64 (wc 0) := ⟨by kernel_rfl, by kernel_rfl, by kernel_rfl, by kernel_rfl, by kernel_rfl, by kernel_rfl, rfl⟩
theorem arrB : ArrT 45 5 64 (bcell 0) := ⟨by kernel_rfl, by kernel_rfl, by kernel_rfl, by kernel_rfl, by kernel_rfl, by kernel_rfl, rfl⟩
theorem arrH : ArrT 23 5 32 (bcell 0) := ⟨by kernel_rfl, by kernel_rfl, by kernel_rfl, by kernel_rfl, by kernel_rfl, by kernel_rfl, rfl⟩

section
variable {T E : TypeId} {n : Nat} {z : Value}
theorem ArrT.run_zero (H : ArrT T E n z) (w : World) : (zeroValue T).run Tryd.prog w = .ok (.agg (fcells n fun _ => z)) w := by
  have h := H.zero
  cases hq : Tryd.prog.info? T with
  | none => rw [hq] at h; cases h
  | some i =>
    rw [hq] at h
    have hz : i.zero = some (.agg (fcells n fun _ => z)) := h
    simp [zeroValue, typeInfo, hq, hz]
theorem ArrT.run_esize (H : ArrT T E n z) (w : World) : (sizeOf E).run Tryd.prog w = .ok 1 w := by
  have h := H.esize
  cases hq : Tryd.prog.info? E with
  | none => rw [hq] at h; cases h
  | some i =>
    rw [hq] at h
    have hz : i.size = 1 := by simpa using h
    simp [sizeOf, typeInfo, hq, hz]

theorem wpList_alloc_arr (H : ArrT T E n z) {ops : Array Oper} {rest : List Oper} {o : Oper} {a : Act} {w : World} {Q : Exit → Act → World → Prop} (hgd : o.guard = none) (ho : o.op = .alloc T)
    (h : wpList Tryd.prog ops Q rest (a.put o.dst (.pointer (some ⟨w.heap.size, 0, none⟩))) (w.alloc (.cells (fcells n fun _ => z) T))) : wpList Tryd.prog ops Q (o :: rest) a w :=
  wpList_plain hgd fun _ hK => by
    unfold Oper.wp execOp
    simp only [ho, Sem.run_bind, Instr.alloc, H.run_zero, newVar, newRow, run_newObj_alloc, Sem.run_pure, Result.andThen_ok, Value.cells]
    exact hK _ _ h

theorem wpList_zero_arr (H : ArrT T E n z) {ops : Array Oper} {rest : List Oper} {o : Oper} {a : Act} {w : World} {Q : Exit → Act → World → Prop} (hgd : o.guard = none) (ho : o.op = .build T #[])
    (h : wpList Tryd.prog ops Q rest (a.put o.dst (.agg (fcells n fun _ => z))) w) : wpList Tryd.prog ops Q (o :: rest) a w :=
  wpList_plain hgd fun _ hK => by
    have e : (Instr.build T #[]).run Tryd.prog w = .ok (.agg (fcells n fun _ => z)) w := by
      simp [Instr.build, Sem.run_bind, H.run_zero, run_underlying H.under, H.run_esize, Instr.fill, Value.cells]
    unfold Oper.wp execOp
    simp only [ho, Sem.run_bind, List.map_toArray, List.map_nil, e, Sem.run_pure, Result.andThen_ok]
    exact hK _ _ h

theorem wpList_load_arr (H : ArrT T E n z) {ops : Array Oper} {rest : List Oper} {o : Oper} {a : Act} {w : World} {Q : Exit → Act → World → Prop} (hgd : o.guard = none) (x : Operand) (ho : o.op = .load T x)
    {g : Nat} {t : TypeId} {f : Nat → Value} (hx : a.eval x = .pointer (some ⟨g, 0, none⟩)) (hg : Blk w g n f t)
    (hh : wpList Tryd.prog ops Q rest (a.put o.dst (.agg (fcells n f))) w) : wpList Tryd.prog ops Q (o :: rest) a w :=
  wpList_load_row hgd _ x ho g hx t (fcells n f) (0, 0) _ hg H.under rfl (by rw [H.size, fcells_size]) hh

theorem wpList_store_arr (H : ArrT T E n z) {ops : Array Oper} {rest : List Oper} {o : Oper} {a : Act} {w : World} {Q : Exit → Act → World → Prop} (hgd : o.guard = none) (x y : Operand) (ho : o.op = .store T x y)
    {g : Nat} {t : TypeId} {f f' : Nat → Value} (hx : a.eval x = .pointer (some ⟨g, 0, none⟩)) (hy : a.eval y = .agg (fcells n f')) (hg : Blk w g n f t) (h1 : ∀ i, i < n → (f' i).oneCell' = true)
    (hh : ∀ w', w.grownBy w' (some g) → Blk w' g n f' t → w'.heap.size = w.heap.size → wpList Tryd.prog ops Q rest (a.put o.dst undef) w') : wpList Tryd.prog ops Q (o :: rest) a w :=
  wpList_store_row hgd _ x y ho g (fcells n f') hx hy t (fcells n f) hg (by rw [H.size, fcells_size]) (by rw [fcells_size, fcells_size]) (fcells_one h1)
    (hh _ ⟨rfl, rfl, rfl, by simp, fun k _ hk => setRow_other w g k _ (fun e => hk (by simp [e]))⟩ (setRow_heap w g _ _ t _ hg) (by simp))

theorem ArrT.load_mid (H : ArrT T E n z) {w : World} {g N o : Nat} {f f' : Nat → Value} {t : TypeId} (hg : Blk w g N f t) (ho : o + n ≤ N) (e : ∀ j, j < n → f (o + j) = f' j) :
    (Instr.loadAt T (.pointer (some ⟨g, o, none⟩))).run Tryd.prog w = .ok (.agg (fcells n f')) w := by
  have := run_loadAt_mid (P := Tryd.prog) w g o T (fcells n f').toList _ (hg.range ho e) H.under rfl (by rw [H.size, Array.length_toList, fcells_size])
  rw [Array.toArray_toList] at this
  exact this
theorem ArrT.store_mid (H : ArrT T E n z) {w : World} {g N o : Nat} {f f' : Nat → Value} {t : TypeId} (hg : Blk w g N f t) (ho : o + n ≤ N) (h1 : ∀ i, i < n → (f' i).oneCell' = true) :
    ∃ w', (Instr.storeAt T (.pointer (some ⟨g, o, none⟩)) (.agg (fcells n f'))).run Tryd.prog w = .ok () w' ∧ w.grownBy w' (some g) ∧ Blk w' g N (fun j => if o ≤ j ∧ j < o + n then f' (j - o) else f j) t ∧ w'.heap.size = w.heap.size := by
  refine ⟨_, run_storeAt_mid (P := Tryd.prog) w g o T (fcells n f') (hg.there (by rw [fcells_size]; exact ho)) (by rw [H.size, fcells_size]) (fcells_one h1), grown_setCells g _ _ _, ?_, setCells_size g _ _ _⟩
  have hl : (fcells n f').toList.length = n := by rw [Array.length_toList, fcells_size]
  refine (setCells_blk _ _ _ _ hg (by rw [hl]; exact ho)).congr fun i _ => ?_
  rw [hl]
  by_cases h : o ≤ i ∧ i < o + n
  · rw [if_pos h, if_pos h, List.getD_eq_getElem?_getD, fcells_list, if_pos (by omega)]
    rfl
  · rw [if_neg h, if_neg h]

theorem ArrT.run_index (H : ArrT T E n z) (f : Nat → Value) {i : Nat} (hi : i < n) (w : World) : (Instr.index T (.agg (fcells n f)) (.int .i64 (i : Int))).run Tryd.prog w = .ok (f i) w := by
  have h := run_part_plain (P := Tryd.prog) w H.plain (fcells_get f hi)
  simp [Instr.index, asIntOf, Sem.run_bind, run_underlying H.under, H.run_esize, h, hi]

/-- An array is the same as itself. -/
theorem ArrT.eq_self (H : ArrT T E n z) {k : IntKind} (hu : Tryd.prog.underlying E = some (.int k)) {f : Nat → Value} {a : Nat → Int} (hf : ∀ i, i < n → f i = .int k (a i)) (w : World) :
    (Op.equalIn 10000 T (.agg (fcells n f)) (.agg (fcells n f))).run Tryd.prog w = .ok true w := by
  have hs := H.esize
  cases hi : Tryd.prog.info? E with
  | none => rw [hi] at hs; cases hs
  | some i0 =>
    rw [run_equalIn_array w 9999 _ _ H.under hi, H.ecells]
    have all : ∀ is : List Nat, (∀ i ∈ is, i < n) → (Op.eqItems 9999 E 1 (fcells n f) (fcells n f) is).run Tryd.prog w = .ok true w := by
      intro is
      induction is with
      | nil => intro _; simp [Op.eqItems]
      | cons i is ih =>
        intro h
        have hin := h i (by simp)
        have ih' := ih (fun j hj => h j (List.mem_cons_of_mem _ hj))
        have pa := run_part_plain (P := Tryd.prog) w H.plain (fcells_get f hin)
        rw [hf i hin] at pa
        have pe := run_equalIn_int (P := Tryd.prog) w 9998 E k k (a i) (a i) hu
        simp only [Op.eqItems, Sem.run_bind, Nat.mul_one, pa, pe, Result.andThen_ok]
        simp [ih']
    exact all _ (fun i h => List.mem_range.1 h)
end

/-- A result that lies in memory: an array. -/
theorem ArrT.result {T E : TypeId} {n : Nat} {z : Value} (H : ArrT T E n z) {fn : Func} {p : Tmp} (h : fn.results = #[.cell p T]) (tmps : Array Value) (w : World) {g : Nat} {t : TypeId} {f : Nat → Value}
    (hp : tmps.getD p undef = .pointer (some ⟨g, 0, none⟩)) (hg : Blk w g n f t) : (results fn tmps).run Tryd.prog w = .ok (.agg (fcells n f)) w :=
  results_cell_row h tmps w g t (fcells n f) (0, 0) _ hp hg H.under rfl (by rw [H.size, fcells_size])
end Go.Proofs.YtakigopjbbhjkaaDoor
