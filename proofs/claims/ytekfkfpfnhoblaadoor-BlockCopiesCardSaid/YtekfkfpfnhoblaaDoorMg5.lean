/-
  Fc HashMid BkWords BkSame BkMay StrBytes: what each of them says stands at its head.
-/
import Derived.Test.YtekfkfpfnhoblaaDoorMg1
import Derived.Laws.Rows
import Derived.Laws.Tables
import Derived.Laws.CopyOwn
import Derived.Deep.MidRow
import Derived.ChangeKeysEq
import Derived.Laws.StructEq
import Derived.Test.YtekfkfpfnhoblaaDoorMg4
import Derived.Deep.RegionHeld3
import Derived.Test.YtekfkfpfnhoblaaDoorMg2
import Derived.LoopTactic
import Derived.Outline
import Derived.Deep.QuietTactic
import Derived.BigQuiet
import Derived.Deep.DeepCutAuto
import Derived.Laws.IdiomStrings
/-
  Arrays in memory and as values: n cells, of which the j-th is f j. Words of 32 bits. Laws for the walk; no function of the program.
-/
namespace Go.Proofs.YtekfkfpfnhoblaaDoor
set_option maxRecDepth 20000
open Go.RowKit

/-- A word's number, and its cell. -/
def wv (x : UInt32) : Int := (x.toNat : Int)
def wc (x : UInt32) : Value := .int .u32 (wv x)
theorem wv_lt (x : UInt32) : 0 ≤ wv x ∧ wv x ≤ 4294967295 := by
  have := x.toNat_lt
  unfold wv
  omega
theorem wv_inj {x y : UInt32} (h : wv x = wv y) : x = y := UInt32.toNat_inj.1 (by unfold wv at h; omega)

/-- n cells, of which the j-th is f j. -/
def fcells (n : Nat) (f : Nat → Value) : Array Value := Array.ofFn (fun i : Fin n => f i.val)
theorem fcells_size (n : Nat) (f : Nat → Value) : (fcells n f).size = n := by simp [fcells]
theorem fcells_get {n i : Nat} (f : Nat → Value) (h : i < n) : (fcells n f)[i]? = some (f i) := by simp [fcells, h]
theorem fcells_out {n i : Nat} (f : Nat → Value) (h : ¬ i < n) : (fcells n f)[i]? = none := by simp [fcells]; omega
theorem fcells_congr {n : Nat} {f g : Nat → Value} (h : ∀ i, i < n → f i = g i) : fcells n f = fcells n g := by
  apply Array.ext (by simp [fcells])
  intro i hi _
  simp [fcells] at hi ⊢
  exact h i hi
theorem fcells_set {n i : Nat} (f : Nat → Value) (v : Value) (h : i < n) : (fcells n f).setIfInBounds i v = fcells n (fun j => if j = i then v else f j) := by
  apply Array.ext_getElem?
  intro j
  by_cases hj : j < n
  · rw [fcells_get _ hj, Array.getElem?_setIfInBounds]
    by_cases e : i = j
    · subst e
      rw [if_pos rfl, if_pos (by rw [fcells_size]; exact h), if_pos rfl]
    · rw [if_neg e, fcells_get _ hj, if_neg (fun h => e h.symm)]
  · rw [fcells_out _ hj, Array.getElem?_setIfInBounds, if_neg (by omega), fcells_out _ hj]
theorem fcells_one {n : Nat} {f : Nat → Value} (h : ∀ i, i < n → (f i).oneCell' = true) : (fcells n f).all (·.oneCell') = true := by
  rw [Array.all_eq_true_iff_forall_mem]
  intro v hv
  simp only [fcells, Array.mem_ofFn] at hv
  obtain ⟨i, rfl⟩ := hv
  exact h i i.2
theorem fcells_list (n : Nat) (f : Nat → Value) (i : Nat) : (fcells n f).toList[i]? = if i < n then some (f i) else none := by
  rw [Array.getElem?_toList]
  split
  · exact fcells_get f ‹_›
  · exact fcells_out f ‹_›
theorem fcells_of {cs : Array Value} {n : Nat} (h : cs.size = n) : cs = fcells n (fun j => cs.getD j undef) := by
  subst h
  apply Array.ext_getElem?
  intro j
  by_cases hj : j < cs.size
  · rw [fcells_get _ hj]
    simp [hj]
  · rw [fcells_out _ hj]
    simp; omega

/-- Block g has n cells, of which the j-th is f j. -/
def Blk (w : World) (g n : Nat) (f : Nat → Value) (t : TypeId) : Prop := w.heap[g]? = some (.cells (fcells n f) t (0, 0))

section
variable {w w' : World} {g n : Nat} {f f' : Nat → Value} {t : TypeId}
theorem Blk.lt (h : Blk w g n f t) : g < w.heap.size := lt_of_block h
theorem Blk.cell (h : Blk w g n f t) {i : Nat} (hi : i < n) : w.cell? ⟨g, i, none⟩ = some (f i) := (cell_of_row w g i _ t (0, 0) h).trans (fcells_get f hi)
theorem Blk.free (h : Blk w g n f t) (i : Nat) : w.frozen? ⟨g, i, none⟩ = false := frozen_of_row w g i _ t h
theorem Blk.congr (h : Blk w g n f t) (e : ∀ i, i < n → f i = f' i) : Blk w g n f' t := by
  unfold Blk at h ⊢
  rw [h, fcells_congr e]
theorem Blk.set (h : Blk w g n f t) {i : Nat} (hi : i < n) (v : Value) : Blk (w.setCell ⟨g, i, none⟩ v) g n (fun j => if j = i then v else f j) t := by
  unfold Blk
  rw [heap_setCell_same w g i _ t v h, fcells_set f v hi]
theorem Blk.apart (h : Blk w g n f t) {k : Nat} (i : Nat) (v : Value) (hk : g ≠ k) : Blk (w.setCell ⟨k, i, none⟩ v) g n f t := (heap_setCell_other w _ g v hk).trans h
theorem Blk.below {B : Nat} (h : Blk w g n f t) (hb : Below B w w') (hg : g < B) : Blk w' g n f t := (hb.block g hg).trans h
theorem Blk.keep (h : Blk w g n f t) (hb : Below w.heap.size w w') : Blk w' g n f t := h.below hb h.lt
theorem Blk.grown (h : Blk w g n f t) {row : Option Nat} (hg : w.grownBy w' row) (hr : row ≠ some g) : Blk w' g n f t := (hg.block g h.lt (fun e => hr e.symm)).trans h
theorem Blk.drew (h : Blk w g n f t) : Blk w.drew g n f t := h
theorem Blk.drewN (h : Blk w g n f t) (k : Nat) : Blk (w.drewN k) g n f t := h
theorem Blk.alloc (h : Blk w g n f t) (o : Obj) : Blk (w.alloc o) g n f t := (Below.heap_alloc w o g h.lt).trans h
theorem Blk.new (w : World) (n : Nat) (f : Nat → Value) (t : TypeId) : Blk (w.alloc (.cells (fcells n f) t)) w.heap.size n f t := heap_alloc_new w _
theorem Blk.range (h : Blk w g n f t) {o m : Nat} {f' : Nat → Value} (ho : o + m ≤ n) (e : ∀ j, j < m → f (o + j) = f' j) : w.rangeAt g o (fcells m f').toList := fun j v hv => by
  rw [fcells_list] at hv
  split at hv
  · rename_i hj
    injection hv with hv
    rw [h.cell (by omega), e j hj, hv]
  · cases hv
theorem Blk.there (h : Blk w g n f t) {o m : Nat} (ho : o + m ≤ n) : w.there g o m := fun j hj => ⟨by rw [h.cell (by omega)]; rfl, h.free _⟩
theorem setCells_blk : ∀ (vs : List Value) (o : Nat) (w : World) (f : Nat → Value), Blk w g n f t → o + vs.length ≤ n → Blk (w.setCells g o vs) g n (fun j => if o ≤ j ∧ j < o + vs.length then vs.getD (j - o) undef else f j) t
  | [], o, w, f, h, _ => h.congr fun i _ => by rw [if_neg (by simp)]
  | v :: r, o, w, f, h, ho => by
    have hl : (v :: r).length = r.length + 1 := rfl
    refine (setCells_blk r (o + 1) _ _ (h.set (i := o) (by omega) v) (by omega)).congr fun i _ => ?_
    by_cases h1 : o + 1 ≤ i ∧ i < o + 1 + r.length
    · rw [if_pos h1, if_pos (by omega), show i - o = (i - (o + 1)) + 1 from by omega]
      rfl
    · rw [if_neg h1]
      by_cases h2 : i = o
      · subst h2
        rw [if_pos rfl, if_pos (by omega), Nat.sub_self]
        rfl
      · rw [if_neg h2, if_neg (by omega)]
theorem setCells_other (g : Nat) : ∀ (vs : List Value) (o : Nat) (w : World) (k : Nat), k ≠ g → (w.setCells g o vs).heap[k]? = w.heap[k]?
  | [], _, _, _, _ => rfl
  | _ :: r, o, _, k, hk => (setCells_other g r (o + 1) _ k hk).trans (heap_setCell_other _ _ _ _ hk)
theorem setCells_size (g : Nat) : ∀ (vs : List Value) (o : Nat) (w : World), (w.setCells g o vs).heap.size = w.heap.size
  | [], _, _ => rfl
  | _ :: r, o, _ => (setCells_size g r (o + 1) _).trans (by simp [World.setCell])
theorem grown_setCell (w : World) (g i : Nat) (u : Value) : w.grownBy (w.setCell ⟨g, i, none⟩ u) (some g) :=
  ⟨rfl, rfl, rfl, by simp [World.setCell], fun k _ hk => heap_setCell_other w _ k u (fun e => hk (by rw [e]))⟩
theorem grown_setCells (g : Nat) : ∀ (vs : List Value) (o : Nat) (w : World), w.grownBy (w.setCells g o vs) (some g)
  | [], _, w => World.grownBy.refl w _
  | v :: r, o, w => (grown_setCell w g o v).trans (grown_setCells g r (o + 1) _)
theorem grown_below {w w' : World} (h : Below w.heap.size w w') (row : Option Nat) : w.grownBy w' row := ⟨h.os, h.tape, h.output, h.size, fun k hk _ => h.block k hk⟩
theorem grown_drewF {a b : World} {row : Option Nat} (h : a.grownBy b row) (n : Nat) : a.grownBy (b.drewN n) row := ⟨h.os, h.tape, h.output, h.size, h.block⟩
theorem below_set {B : Nat} {a w : World} (hb : Below B a w) {g : Nat} (hg : B ≤ g) (i : Nat) (u : Value) : Below B a (w.setCell ⟨g, i, none⟩ u) := hb.setCell hg u
/-- What is written into a block of the call's own leaves all that was. -/
theorem below_into {B : Nat} {a w w' : World} (hb : Below B a w) {g : Nat} (hg : B ≤ g) (h : w.grownBy w' (some g)) (hs : B ≤ w.heap.size) : Below B a w' := hb.grown h hs (fun k hk => by injection hk; omega)
end

/-- What is known of a type of arrays of one-cell elements. -/
structure ArrT (T E : TypeId) (n : Nat) (z : Value) : Prop where
  zero : (Tryd.prog.info? T).bind (·.zero) = some (.agg (fcells n fun _ => z))
  size : (Tryd.prog.info? T).map (·.size) = some n
  under : Tryd.prog.underlying T = some (.array n E)
  esize : (Tryd.prog.info? E).map (·.size) = some 1
  plain : Tryd.prog.plainKey E = true
  ecells : Tryd.prog.cellsOf E = 1
  zone : z.oneCell' = true

theorem arrS : ArrT 77 76 8 (wc 0) := ⟨by kernel_rfl, by kernel_rfl, by kernel_rfl, by kernel_rfl, by kernel_rfl, by kernel_rfl, rfl⟩
theorem arrW : ArrT 103 76 64 (wc 0) := ⟨by kernel_rfl, by kernel_rfl, by kernel_rfl, by kernel_rfl, by kernel_rfl, by kernel_rfl, rfl⟩
theorem arrB : ArrT 79 5 64 (bcell 0) := ⟨by kernel_rfl, by kernel_rfl, by kernel_rfl, by kernel_rfl, by kernel_rfl, by kernel_rfl, rfl⟩
theorem arrH : ArrT 23 5 32 (bcell 0) := ⟨by kernel_rfl, by kernel_rfl, by kernel_rfl, by kernel_rfl, by kernel_rfl, by kernel_rfl, rfl⟩

section
variable {T E : TypeId} {n : Nat} {z : Value}
theorem ArrT.run_zero (H : ArrT T E n z) (w : World) : (zeroValue T).run Tryd.prog w = .ok (.agg (fcells n fun _ => z)) w := by
  have h := H.zero
  cases hq : Tryd.prog.info? T with
  | none => rw [hq] at h; cases h
  | some i =>
    rw [hq] at h
    have hz : i.zero = some (.agg (fcells n fun _ => z)) := h
    simp [zeroValue, typeInfo, hq, hz]
theorem ArrT.run_esize (H : ArrT T E n z) (w : World) : (sizeOf E).run Tryd.prog w = .ok 1 w := by
  have h := H.esize
  cases hq : Tryd.prog.info? E with
  | none => rw [hq] at h; cases h
  | some i =>
    rw [hq] at h
    have hz : i.size = 1 := by simpa using h
    simp [sizeOf, typeInfo, hq, hz]

theorem wpList_alloc_arr (H : ArrT T E n z) {ops : Array Oper} {rest : List Oper} {o : Oper} {a : Act} {w : World} {Q : Exit → Act → World → Prop} (hgd : o.guard = none) (ho : o.op = .alloc T)
    (h : wpList Tryd.prog ops Q rest (a.put o.dst (.pointer (some ⟨w.heap.size, 0, none⟩))) (w.alloc (.cells (fcells n fun _ => z) T))) : wpList Tryd.prog ops Q (o :: rest) a w :=
  wpList_plain hgd fun _ hK => by
    unfold Oper.wp execOp
    simp only [ho, Sem.run_bind, Instr.alloc, H.run_zero, newVar, newRow, run_newObj_alloc, Sem.run_pure, Result.andThen_ok, Value.cells]
    exact hK _ _ h

theorem wpList_zero_arr (H : ArrT T E n z) {ops : Array Oper} {rest : List Oper} {o : Oper} {a : Act} {w : World} {Q : Exit → Act → World → Prop} (hgd : o.guard = none) (ho : o.op = .build T #[])
    (h : wpList Tryd.prog ops Q rest (a.put o.dst (.agg (fcells n fun _ => z))) w) : wpList Tryd.prog ops Q (o :: rest) a w :=
  wpList_plain hgd fun _ hK => by
    have e : (Instr.build T #[]).run Tryd.prog w = .ok (.agg (fcells n fun _ => z)) w := by
      simp [Instr.build, Sem.run_bind, H.run_zero, run_underlying H.under, H.run_esize, Instr.fill, Value.cells]
    unfold Oper.wp execOp
    simp only [ho, Sem.run_bind, List.map_toArray, List.map_nil, e, Sem.run_pure, Result.andThen_ok]
    exact hK _ _ h

theorem wpList_load_arr (H : ArrT T E n z) {ops : Array Oper} {rest : List Oper} {o : Oper} {a : Act} {w : World} {Q : Exit → Act → World → Prop} (hgd : o.guard = none) (x : Operand) (ho : o.op = .load T x)
    {g : Nat} {t : TypeId} {f : Nat → Value} (hx : a.eval x = .pointer (some ⟨g, 0, none⟩)) (hg : Blk w g n f t)
    (hh : wpList Tryd.prog ops Q rest (a.put o.dst (.agg (fcells n f))) w) : wpList Tryd.prog ops Q (o :: rest) a w :=
  wpList_load_row hgd _ x ho g hx t (fcells n f) (0, 0) _ hg H.under rfl (by rw [H.size, fcells_size]) hh

theorem wpList_store_arr (H : ArrT T E n z) {ops : Array Oper} {rest : List Oper} {o : Oper} {a : Act} {w : World} {Q : Exit → Act → World → Prop} (hgd : o.guard = none) (x y : Operand) (ho : o.op = .store T x y)
    {g : Nat} {t : TypeId} {f f' : Nat → Value} (hx : a.eval x = .pointer (some ⟨g, 0, none⟩)) (hy : a.eval y = .agg (fcells n f')) (hg : Blk w g n f t) (h1 : ∀ i, i < n → (f' i).oneCell' = true)
    (hh : ∀ w', w.grownBy w' (some g) → Blk w' g n f' t → w'.heap.size = w.heap.size → wpList Tryd.prog ops Q rest (a.put o.dst undef) w') : wpList Tryd.prog ops Q (o :: rest) a w :=
  wpList_store_row hgd _ x y ho g (fcells n f') hx hy t (fcells n f) hg (by rw [H.size, fcells_size]) (by rw [fcells_size, fcells_size]) (fcells_one h1)
    (hh _ ⟨rfl, rfl, rfl, by simp, fun k _ hk => setRow_other w g k _ (fun e => hk (by simp [e]))⟩ (setRow_heap w g _ _ t _ hg) (by simp))

theorem ArrT.load_mid (H : ArrT T E n z) {w : World} {g N o : Nat} {f f' : Nat → Value} {t : TypeId} (hg : Blk w g N f t) (ho : o + n ≤ N) (e : ∀ j, j < n → f (o + j) = f' j) :
    (Instr.loadAt T (.pointer (some ⟨g, o, none⟩))).run Tryd.prog w = .ok (.agg (fcells n f')) w := by
  have := run_loadAt_mid (P := Tryd.prog) w g o T (fcells n f').toList _ (hg.range ho e) H.under rfl (by rw [H.size, Array.length_toList, fcells_size])
  rw [Array.toArray_toList] at this
  exact this
theorem ArrT.store_mid (H : ArrT T E n z) {w : World} {g N o : Nat} {f f' : Nat → Value} {t : TypeId} (hg : Blk w g N f t) (ho : o + n ≤ N) (h1 : ∀ i, i < n → (f' i).oneCell' = true) :
    ∃ w', (Instr.storeAt T (.pointer (some ⟨g, o, none⟩)) (.agg (fcells n f'))).run Tryd.prog w = .ok () w' ∧ w.grownBy w' (some g) ∧ Blk w' g N (fun j => if o ≤ j ∧ j < o + n then f' (j - o) else f j) t ∧ w'.heap.size = w.heap.size := by
  refine ⟨_, run_storeAt_mid (P := Tryd.prog) w g o T (fcells n f') (hg.there (by rw [fcells_size]; exact ho)) (by rw [H.size, fcells_size]) (fcells_one h1), grown_setCells g _ _ _, ?_, setCells_size g _ _ _⟩
  have hl : (fcells n f').toList.length = n := by rw [Array.length_toList, fcells_size]
  refine (setCells_blk _ _ _ _ hg (by rw [hl]; exact ho)).congr fun i _ => ?_
  rw [hl]
  by_cases h : o ≤ i ∧ i < o + n
  · rw [if_pos h, if_pos h, List.getD_eq_getElem?_getD, fcells_list, if_pos (by omega)]
    rfl
  · rw [if_neg h, if_neg h]

theorem ArrT.run_index (H : ArrT T E n z) (f : Nat → Value) {i : Nat} (hi : i < n) (w : World) : (Instr.index T (.agg (fcells n f)) (.int .i64 (i : Int))).run Tryd.prog w = .ok (f i) w := by
  have h := run_part_plain (P := Tryd.prog) w H.plain (fcells_get f hi)
  simp [Instr.index, asIntOf, Sem.run_bind, run_underlying H.under, H.run_esize, h, hi]

/-- An array is the same as itself. -/
theorem ArrT.eq_self (H : ArrT T E n z) {k : IntKind} (hu : Tryd.prog.underlying E = some (.int k)) {f : Nat → Value} {a : Nat → Int} (hf : ∀ i, i < n → f i = .int k (a i)) (w : World) :
    (Op.equalIn 10000 T (.agg (fcells n f)) (.agg (fcells n f))).run Tryd.prog w = .ok true w := by
  have hs := H.esize
  cases hi : Tryd.prog.info? E with
  | none => rw [hi] at hs; cases hs
  | some i0 =>
    rw [run_equalIn_array w 9999 _ _ H.under hi, H.ecells]
    have all : ∀ is : List Nat, (∀ i ∈ is, i < n) → (Op.eqItems 9999 E 1 (fcells n f) (fcells n f) is).run Tryd.prog w = .ok true w := by
      intro is
      induction is with
      | nil => intro _; simp [Op.eqItems]
      | cons i is ih =>
        intro h
        have hin := h i (by simp)
        have ih' := ih (fun j hj => h j (List.mem_cons_of_mem _ hj))
        have pa := run_part_plain (P := Tryd.prog) w H.plain (fcells_get f hin)
        rw [hf i hin] at pa
        have pe := run_equalIn_int (P := Tryd.prog) w 9998 E k k (a i) (a i) hu
        simp only [Op.eqItems, Sem.run_bind, Nat.mul_one, pa, pe, Result.andThen_ok]
        simp [ih']
    exact all _ (fun i h => List.mem_range.1 h)
end

/-- A result that lies in memory: an array. -/
theorem ArrT.result {T E : TypeId} {n : Nat} {z : Value} (H : ArrT T E n z) {fn : Func} {p : Tmp} (h : fn.results = #[.cell p T]) (tmps : Array Value) (w : World) {g : Nat} {t : TypeId} {f : Nat → Value}
    (hp : tmps.getD p undef = .pointer (some ⟨g, 0, none⟩)) (hg : Blk w g n f t) : (results fn tmps).run Tryd.prog w = .ok (.agg (fcells n f)) w :=
  results_cell_row h tmps w g t (fcells n f) (0, 0) _ hp hg H.under rfl (by rw [H.size, fcells_size])
end Go.Proofs.YtekfkfpfnhoblaaDoor

/-
  A hash that lies amid a row: a load of it.
-/
namespace Go.Proofs.YtekfkfpfnhoblaaDoor
set_option maxRecDepth 20000
open Go.RowKit

/-- A load of a hash out of a row. -/
theorem loadH_mid {w : World} {g o : Nat} {h : List UInt8} (hr : w.rangeAt g o (bcells h)) (hl : h.length = 32) : loadH (.pointer (some ⟨g, o, none⟩)) w = .ok (.value (.agg (hcells h))) w := by
  have := run_loadAt_mid (P := Tryd.prog) w g o 23 (bcells h) _ hr under_hash rfl (by rw [size_hash, bcells_length, hl])
  unfold loadH execOp
  simp only [Sem.run_bind, this, Result.andThen_ok, Sem.run_pure]
  rfl
/-! A hash that is stored amid a row. -/
def putAt (C : Array Value) (o : Nat) : List Value → Array Value
  | [] => C
  | v :: r => putAt (C.setIfInBounds o v) (o + 1) r
theorem setCells_row {g : Nat} {t : TypeId} : ∀ (vs : List Value) (o : Nat) (w : World) (C : Array Value), w.heap[g]? = some (.cells C t (0, 0)) → (w.setCells g o vs).heap[g]? = some (.cells (putAt C o vs) t (0, 0))
  | [], _, _, _, h => h
  | v :: r, o, w, C, h => setCells_row r (o + 1) (w.setCell ⟨g, o, none⟩ v) (C.setIfInBounds o v) (set_blk h o v)
theorem putAt_mid : ∀ (vs pre old post : List Value), old.length = vs.length → putAt (pre ++ (old ++ post)).toArray pre.length vs = (pre ++ (vs ++ post)).toArray
  | [], pre, old, post, h => by
    obtain rfl : old = [] := List.eq_nil_of_length_eq_zero h
    rfl
  | v :: r, pre, o :: old, post, h => by
    have e : (pre ++ (o :: old ++ post)).toArray.setIfInBounds pre.length v = ((pre ++ [v]) ++ (old ++ post)).toArray := by
      simp
    have e2 : pre.length + 1 = (pre ++ [v]).length := by simp
    unfold putAt
    rw [e, e2, putAt_mid r (pre ++ [v]) old post (by simpa using h)]
    simp
  | _ :: _, _, [], _, h => by cases h
theorem wpList_store_midh {ops : Array Oper} {rest : List Oper} {o : Oper} {a : Act} {w : World} {Q : Exit → Act → World → Prop} (hgd : o.guard = none) (x y : Operand) (ho : o.op = .store 23 x y)
    {g k : Nat} {t : TypeId} {pre old post : List Value} {h : List UInt8} (hx : a.eval x = .pointer (some ⟨g, k, none⟩)) (hy : a.eval y = .agg (hcells h)) (hg : w.heap[g]? = some (.cells (pre ++ (old ++ post)).toArray t (0, 0))) (hk : k = pre.length) (hold : old.length = 32) (hl : h.length = 32)
    (hh : ∀ w', w.grownBy w' (some g) → w'.heap[g]? = some (.cells (pre ++ (bcells h ++ post)).toArray t (0, 0)) → w'.heap.size = w.heap.size → wpList Tryd.prog ops Q rest (a.put o.dst undef) w') : wpList Tryd.prog ops Q (o :: rest) a w := by
  subst hk
  refine wpList_store_mid hgd _ x y ho (b := g) (o := pre.length) (cells := hcells h) hx hy (fun j hj => ⟨?_, free_blk hg _⟩) (by rw [size_hash, hcells_size, hl]) (hcells_one _) ?_
  · rw [hcells_size, hl] at hj
    rw [cell_blk hg, List.getElem?_toArray, List.getElem?_append_right (by omega), Nat.add_sub_cancel_left, List.getElem?_append_left (by omega), List.getElem?_eq_getElem (by omega)]
    rfl
  · rw [hcells_list]
    refine hh _ (grown_setCells g _ _ _) ?_ (setCells_size g _ _ _)
    have := setCells_row (bcells h) pre.length w _ hg
    rw [putAt_mid (bcells h) pre old post (by rw [bcells_length, hl, hold])] at this
    exact this
end Go.Proofs.YtekfkfpfnhoblaaDoor

/-
  Blocks and lists of transactions in memory: what a slice reads as, a boxed block's cells, loads of a whole one; '==' of transactions.
-/
namespace Go.Proofs.YtekfkfpfnhoblaaDoor
set_option maxRecDepth 20000
open Go.RowKit

/-- A transaction's cells. -/
def tcl (t : TxM) : List Value := [.int .i64 t.fr, .int .i64 t.no, .int .i64 t.ki, .int .i64 t.to, .int .i64 t.am, .string (sb t.key), .string (sb t.val)]
theorem txv_tcl (t : TxM) : txv t = .agg (tcl t).toArray := rfl
theorem tcl_length (t : TxM) : (tcl t).length = 7 := rfl

/-- From address A on the transactions L lie. -/
def TxsA (w : World) (A : Option Addr) (L : List TxM) : Prop :=
  0 < L.length → ∃ b off, A = some ⟨b, off, none⟩ ∧ b < w.heap.size ∧ ∀ j (h : j < L.length), w.rangeAt b (off + j * 7) (tcl L[j])
/-- The value is a slice that reads as the transactions L. -/
def Txs (w : World) (v : Value) (L : List TxM) : Prop := ∃ A c, v = .slice A L.length c ∧ L.length ≤ c ∧ c ≤ maxLen ∧ TxsA w A L
section
variable {w w' : World} {A : Option Addr} {v : Value} {L : List TxM}
theorem range_keep {b o : Nat} {l : List Value} (h : w.rangeAt b o l) (hk : w'.heap[b]? = w.heap[b]?) : w'.rangeAt b o l := fun j u hu => (World.cell?_of_block hk).trans (h j u hu)
theorem TxsA.nil (w : World) (A : Option Addr) : TxsA w A [] := fun h => absurd h (by simp)
theorem TxsA.below (h : TxsA w A L) (hb : Below w.heap.size w w') : TxsA w' A L := fun hl => by
  obtain ⟨b, off, e, hlt, hc⟩ := h hl
  exact ⟨b, off, e, Nat.lt_of_lt_of_le hlt hb.size, fun j hj => range_keep (hc j hj) (hb.block b hlt)⟩
theorem Txs.nil (w : World) : Txs w (.slice none 0 0) [] := ⟨none, 0, rfl, Nat.le_refl _, Nat.zero_le _, TxsA.nil _ _⟩
theorem Txs.below (h : Txs w v L) (hb : Below w.heap.size w w') : Txs w' v L := by
  obtain ⟨A, c, rfl, h1, h2, h3⟩ := h
  exact ⟨A, c, rfl, h1, h2, h3.below hb⟩
theorem Txs.len (h : Txs w v L) : L.length ≤ maxLen := by
  obtain ⟨_, _, _, h1, h2, _⟩ := h
  omega
theorem Txs.shape (h : Txs w v L) : ∃ A c, v = .slice A L.length c := by
  obtain ⟨A, c, e, _⟩ := h
  exact ⟨A, c, e⟩
theorem Txs.at_ {n c : Nat} (h : Txs w (.slice A n c) L) : n = L.length ∧ L.length ≤ c ∧ c ≤ maxLen ∧ TxsA w A L := by
  obtain ⟨A', c', e, h1, h2, h3⟩ := h
  injection e with e1 e2 e3
  subst e1 e2 e3
  exact ⟨rfl, h1, h2, h3⟩
end

/-- A block's cells: its transactions are the slice s. -/
def bkc (b : BkM) (s : Value) : Array Value := (bcells b.par ++ [.int .i64 b.vi, .int .i64 b.he, .int .i64 b.bo, s]).toArray
theorem bkc_size {b : BkM} (s : Value) (h : b.par.length = 32) : (bkc b s).size = 36 := by simp [bkc, bcells, h]
/-- The value is a block. -/
def BkV (w : World) (v : Value) (b : BkM) : Prop := ∃ s, v = .agg (bkc b s) ∧ b.par.length = 32 ∧ Txs w s b.txs
theorem BkV.below {w w' : World} {v : Value} {b : BkM} (h : BkV w v b) (hb : Below w.heap.size w w') : BkV w' v b := by
  obtain ⟨s, rfl, h1, h2⟩ := h
  exact ⟨s, rfl, h1, h2.below hb⟩

/-- A block is boxed in g. -/
def BoxK (w : World) (g : Nat) (b : BkM) (s : Value) : Prop := w.heap[g]? = some (.cells (bkc b s) 26 (0, 0))
section
variable {w w' : World} {g : Nat} {b : BkM} {s : Value}
theorem BoxK.new (w : World) (b : BkM) (s : Value) : BoxK (w.alloc (.cells (bkc b s) 26)) w.heap.size b s := heap_alloc_new w _
theorem BoxK.two (w : World) (o : Obj) (b : BkM) (s : Value) : BoxK ((w.alloc o).alloc (.cells (bkc b s) 26)) (w.heap.size + 1) b s := by
  have := BoxK.new (w.alloc o) b s
  rwa [show (w.alloc o).heap.size = w.heap.size + 1 from by simp] at this
theorem BoxK.lt (h : BoxK w g b s) : g < w.heap.size := lt_of_block h
theorem BoxK.keep (h : BoxK w g b s) (hk : w'.heap[g]? = w.heap[g]?) : BoxK w' g b s := hk.trans h
theorem BoxK.below {B : Nat} (h : BoxK w g b s) (hb : Below B w w') (hg : g < B) : BoxK w' g b s := (hb.block g hg).trans h
theorem bkc_tail (h : b.par.length = 32) : (bkc b s)[32]? = some (.int .i64 b.vi) ∧ (bkc b s)[33]? = some (.int .i64 b.he) ∧ (bkc b s)[34]? = some (.int .i64 b.bo) ∧ (bkc b s)[35]? = some s := by
  have hb : (bcells b.par).length = 32 := by rw [bcells_length, h]
  unfold bkc
  simp only [List.getElem?_toArray]
  refine ⟨?_, ?_, ?_, ?_⟩ <;> rw [List.getElem?_append_right (by omega), hb] <;> rfl
theorem BoxK.cells (h : BoxK w g b s) (h32 : b.par.length = 32) : w.cell? ⟨g, 32, none⟩ = some (.int .i64 b.vi) ∧ w.cell? ⟨g, 33, none⟩ = some (.int .i64 b.he) ∧ w.cell? ⟨g, 34, none⟩ = some (.int .i64 b.bo) ∧ w.cell? ⟨g, 35, none⟩ = some s := by
  obtain ⟨k1, k2, k3, k4⟩ := bkc_tail (s := s) h32
  exact ⟨(cell_of_row w g 32 _ _ (0, 0) h).trans k1, (cell_of_row w g 33 _ _ (0, 0) h).trans k2, (cell_of_row w g 34 _ _ (0, 0) h).trans k3, (cell_of_row w g 35 _ _ (0, 0) h).trans k4⟩
theorem BoxK.free (h : BoxK w g b s) (i : Nat) : w.frozen? ⟨g, i, none⟩ = false := by
  unfold BoxK at h
  simp [World.frozen?, h]
theorem BoxK.range (h : BoxK w g b s) : w.rangeAt g 0 (bcells b.par) := fun j u hu => by
  rw [Nat.zero_add, cell_of_row w g j _ _ (0, 0) h]
  unfold bkc
  rw [List.getElem?_toArray, List.getElem?_append_left (List.getElem?_eq_some_iff.1 hu).1]
  exact hu
end

/-- A load of a transaction out of a row. -/
theorem loadTx_mid {w : World} {g o : Nat} {t : TxM} (hr : w.rangeAt g o (tcl t)) : loadTx (.pointer (some ⟨g, o, none⟩)) w = .ok (.value (txv t)) w := by
  have := run_loadAt_mid (P := Tryd.prog) w g o 45 (tcl t) _ hr under_txs rfl (by rw [show (Tryd.prog.info? 45).map (·.size) = some 7 from by kernel_rfl, tcl_length])
  unfold loadTx execOp
  simp only [Sem.run_bind, this, Result.andThen_ok, Sem.run_pure]
  rfl
/-- A load of a whole block: kept whole. -/
noncomputable def loadK (v : Value) (w : World) : Result Next := Sem.run Tryd.prog (execOp (fun _ => v) { dst := none, op := .load 26 (.tmp 0), type := 0, pos := "", after := #[], guard := none }) w
theorem exec_load_bk (r : Operand → Value) (x : Operand) (dst : Option Tmp) (ty : TypeId) (pos : String) (after : Array Edge) (guard : Option (Nat × Bool)) (w : World) :
    Sem.run Tryd.prog (execOp r { dst := dst, op := .load 26 x, type := ty, pos := pos, after := after, guard := guard }) w = loadK (r x) w := rfl
theorem under_bk : Tryd.prog.underlying 26 = some (.struct (Tryd.prog.fieldsOf 26)) := by kernel_rfl
theorem size_bk : (Tryd.prog.info? 26).map (·.size) = some 36 := by kernel_rfl
theorem loadK_row {w : World} {g : Nat} {C : Array Value} {T : TypeId} (h : w.heap[g]? = some (.cells C T (0, 0))) (hs : C.size = 36) : loadK (.pointer (some ⟨g, 0, none⟩)) w = .ok (.value (.agg C)) w := by
  have := run_loadAt_mid (P := Tryd.prog) w g 0 26 C.toList _ (fun j v hj => by rw [Nat.zero_add, cell_blk h j]; simpa using hj) under_bk rfl (by rw [size_bk]; simp [hs])
  simp only [Array.toArray_toList] at this
  unfold loadK execOp
  simp only [Sem.run_bind, this, Result.andThen_ok, Sem.run_pure]
theorem loadK_eq {w : World} {g : Nat} {b : BkM} {s : Value} (h : BoxK w g b s) (h32 : b.par.length = 32) : loadK (.pointer (some ⟨g, 0, none⟩)) w = .ok (.value (.agg (bkc b s))) w := loadK_row h (bkc_size s h32)
/-- The block that has nothing. -/
noncomputable def buildK (w : World) : Result Next := Sem.run Tryd.prog (execOp (fun _ => undef) { dst := none, op := .build 26 #[], type := 0, pos := "", after := #[], guard := none }) w
theorem exec_build_bk (r : Operand → Value) (dst : Option Tmp) (ty : TypeId) (pos : String) (after : Array Edge) (guard : Option (Nat × Bool)) (w : World) :
    Sem.run Tryd.prog (execOp r { dst := dst, op := .build 26 #[], type := ty, pos := pos, after := after, guard := guard }) w = buildK w := by
  unfold buildK execOp
  simp
theorem zero_bk : (Tryd.prog.info? 26).bind (·.zero) = some (.agg (bkc bkZ (.slice none 0 0))) := by kernel_rfl
theorem run_zero_bk (w : World) : (zeroValue 26).run Tryd.prog w = .ok (.agg (bkc bkZ (.slice none 0 0))) w := by
  have h := zero_bk
  cases hq : Tryd.prog.info? 26 with
  | none => rw [hq] at h; cases h
  | some i =>
    rw [hq] at h
    have hz : i.zero = some (.agg (bkc bkZ (.slice none 0 0))) := h
    simp [zeroValue, typeInfo, hq, hz]
theorem buildK_eq (w : World) : buildK w = .ok (.value (.agg (bkc bkZ (.slice none 0 0)))) w := by
  unfold buildK
  go_simp
  rfl
theorem bkZ_par : bkZ.par.length = 32 := by simp [bkZ]
/-- '==' of transactions. -/
theorem eq_tx2 (a b : TxM) (w : World) : (Op.equalIn 10000 45 (txv a) (txv b)).run Tryd.prog w = .ok (decide (a = b)) w := by
  obtain ⟨a1, a2, a3, a4, a5, a6, a7⟩ := a
  obtain ⟨b1, b2, b3, b4, b5, b6, b7⟩ := b
  unfold txv
  go_simp
  simp only [sb_toList]
  (repeat' split) <;> simp_all
end Go.Proofs.YtekfkfpfnhoblaaDoor

/-
  The document's answer for which blocks are alike: tithingref07.Same.
-/
namespace Go.Proofs.YtekfkfpfnhoblaaDoor
set_option maxRecDepth 20000
open Go.RowKit
attribute [local go_sem ↓] exec_load_tx exec_load_hash

set_option maxHeartbeats 1600000 in
theorem refSame7_any (va vb : Value) (a b : BkM) (w : World) (hva : BkV w va a) (hvb : BkV w vb b) :
    Calls Tryd.prog 14 #[va, vb] w fun e w' => e = .returned (.bool (sameK a b)) ∧ Below w.heap.size w w' := by
  obtain ⟨sa, rfl, hpa, hta⟩ := hva
  obtain ⟨sb, rfl, hpb, htb⟩ := hvb
  have hb0 : Below w.heap.size w ((w.alloc (.cells (bkc a sa) 26)).alloc (.cells (bkc b sb) 26)) := ((Below.refl _ _).alloc (Nat.le_refl _) _).alloc (by simp) _
  have hA : BoxK ((w.alloc (.cells (bkc a sa) 26)).alloc (.cells (bkc b sb) 26)) w.heap.size a sa := (Below.heap_alloc _ _ _ (by simp)).trans (heap_alloc_new w _)
  have hB : BoxK ((w.alloc (.cells (bkc a sa) 26)).alloc (.cells (bkc b sb) 26)) (w.heap.size + 1) b sb := BoxK.two w _ b sb
  have hta0 := hta.below hb0
  have htb0 := htb.below hb0
  obtain ⟨AA, ca, rfl⟩ := hta.shape
  obtain ⟨AB, cb, rfl⟩ := htb.shape
  obtain ⟨CA, HCA⟩ : ∃ C : Array Value, Hid (bkc a (.slice AA a.txs.length ca) = C) := ⟨_, hid rfl⟩
  obtain ⟨CB, HCB⟩ : ∃ C : Array Value, Hid (bkc b (.slice AB b.txs.length cb) = C) := ⟨_, hid rfl⟩
  rw [HCA.out, HCB.out] at hA hB hb0 hta0 htb0 ⊢
  obtain ⟨ans, HAN⟩ : ∃ q : Bool, Hid (sameK a b = q) := ⟨_, hid rfl⟩
  rw [HAN.out]
  go_enter Tryd.func14, Tryd.ntmps14
  go_upto_region 1 with (fail)
  generalize ((w.alloc (.cells CA 26)).alloc (.cells CB 26)) = w0 at *
  clear HCA HCB hta htb
  obtain ⟨a1, a2, a3, a4⟩ := hA.cells hpa
  obtain ⟨b1, b2, b3, b4⟩ := hB.cells hpb
  have la := loadH_mid hA.range hpa
  have lb := loadH_mid hB.range hpb
  have heq := eq_hash a.par b.par hpa hpb w0
  clear hA hB
  obtain ⟨q, HQ⟩ : ∃ q : Bool, Hid (decide (a.par = b.par) = q) := ⟨_, hid rfl⟩
  rw [HQ.out] at heq
  obtain ⟨HA, HHA⟩ : ∃ C : Array Value, Hid (hcells a.par = C) := ⟨_, hid rfl⟩
  obtain ⟨HB, HHB⟩ : ∃ C : Array Value, Hid (hcells b.par = C) := ⟨_, hid rfl⟩
  rw [HHA.out] at la heq
  rw [HHB.out] at lb heq
  clear HHA HHB
  obtain ⟨LA, HLA⟩ : ∃ n : Nat, Hid (a.txs.length = n) := ⟨_, hid rfl⟩
  obtain ⟨LB, HLB⟩ : ∃ n : Nat, Hid (b.txs.length = n) := ⟨_, hid rfl⟩
  rw [HLA.out] at a4 hta0
  rw [HLB.out] at b4 htb0
  have hlena := hta0.len
  have hlenb := htb0.len
  rw [HLA.out] at hlena
  rw [HLB.out] at hlenb
  unfold maxLen at hlena hlenb
  obtain ⟨pa, va, ha, oa, ta⟩ := a
  obtain ⟨pb, vb, hh, ob, tb⟩ := b
  simp only at a1 a2 a3 a4 b1 b2 b3 b4 hta0 htb0 HQ HLA HLB hpa hpb
  have hway : (q = false) ∨ (q = true ∧ va ≠ vb) ∨ (q = true ∧ va = vb ∧ ha ≠ hh) ∨ (q = true ∧ va = vb ∧ ha = hh ∧ oa ≠ ob) ∨ (q = true ∧ va = vb ∧ ha = hh ∧ oa = ob ∧ LA ≠ LB) ∨ (q = true ∧ va = vb ∧ ha = hh ∧ oa = ob ∧ LA = LB) := by
    cases q
    · exact .inl rfl
    · right
      by_cases e1 : va = vb
      · right
        by_cases e2 : ha = hh
        · right
          by_cases e3 : oa = ob
          · right
            by_cases e4 : LA = LB
            · exact .inr ⟨rfl, e1, e2, e3, e4⟩
            · exact .inl ⟨rfl, e1, e2, e3, e4⟩
          · exact .inl ⟨rfl, e1, e2, e3⟩
        · exact .inl ⟨rfl, e1, e2⟩
      · exact .inl ⟨rfl, e1⟩
  obtain rfl | ⟨rfl, e1⟩ | ⟨rfl, rfl, e2⟩ | ⟨rfl, rfl, rfl, e3⟩ | ⟨rfl, rfl, rfl, rfl, e4⟩ | ⟨rfl, rfl, rfl, rfl, rfl⟩ := hway
  · obtain rfl : ans = false := by
      rw [← HAN.out]
      exact sameK_no (fun e => by injection e with e _; exact of_decide_eq_false HQ.out e)
    go_wp2_with fail
    go_ret
    exact ⟨rfl, hb0⟩
  · obtain rfl : ans = false := by
      rw [← HAN.out]
      exact sameK_no (fun e => by injection e with _ e _; exact e1 e)
    have t1 : (va != vb) = true := by simpa using e1
    clear e1
    go_wp2_with fail
    go_ret
    exact ⟨rfl, hb0⟩
  · obtain rfl : ans = false := by
      rw [← HAN.out]
      exact sameK_no (fun e => by injection e with _ _ e _; exact e2 e)
    have t1 : (va != va) = false := by simp
    have t2 : (ha != hh) = true := by simpa using e2
    clear e2
    go_wp2_with fail
    go_ret
    exact ⟨rfl, hb0⟩
  · obtain rfl : ans = false := by
      rw [← HAN.out]
      exact sameK_no (fun e => by injection e with _ _ _ e _; exact e3 e)
    have t1 : (va != va) = false := by simp
    have t2 : (ha != ha) = false := by simp
    have t3 : (oa != ob) = true := by simpa using e3
    clear e3
    go_wp2_with fail
    go_ret
    exact ⟨rfl, hb0⟩
  · obtain rfl : ans = false := by
      rw [← HAN.out]
      exact sameK_no (fun e => by injection e with _ _ _ _ e; rw [e] at HLA; exact e4 (HLA.out.symm.trans HLB.out))
    have t1 : (va != va) = false := by simp
    have t2 : (ha != ha) = false := by simp
    have t3 : (oa != oa) = false := by simp
    have t4 : ((LA : Int) != (LB : Int)) = true := by simp; omega
    clear e4
    go_wp2_with fail
    go_ret
    exact ⟨rfl, hb0⟩
  · have t1 : (va != va) = false := by simp
    have t2 : (ha != ha) = false := by simp
    have t3 : (oa != oa) = false := by simp
    have t4 : ((LA : Int) != (LA : Int)) = false := by simp
    go_wp2_with fail
    clear t1 t2 t3 t4 heq la lb a1 a2 a3 b1 b2 b3
    obtain ⟨_, hca1, hca2, hra⟩ := hta0.at_
    obtain ⟨_, hcb1, hcb2, hrb⟩ := htb0.at_
    rw [HLA.out] at hca1
    rw [HLB.out] at hcb1
    unfold maxLen at hca2 hcb2
    have HRA := hid hra
    have HRB := hid hrb
    clear hra hrb hta0 htb0
    go_loopw [5] (fun si wr => ∃ i : Nat, i ≤ LA ∧ si = .int .i64 i ∧ Hid (∀ j (h : j < ta.length) (h2 : j < tb.length), j < i → ta[j] = tb[j]) ∧ ∃ n, wr = w0.drewN n) (fun si _ => LA - (intOf si).toNat)
    case atStart => exact ⟨0, Nat.zero_le _, rfl, hid (fun j _ _ h => absurd h (by omega)), 0, rfl⟩
    case round =>
      obtain ⟨i, hi, rfl, HB, n, rfl⟩ := hrel
      by_cases hlt : i < LA
      · have hil : i < ta.length := by rw [HLA.out]; exact hlt
        have him : i < tb.length := by rw [HLB.out]; exact hlt
        obtain ⟨ba, oa', rfl, hba, hcla⟩ := HRA.out (by omega)
        obtain ⟨bb, ob', rfl, hbb, hclb⟩ := HRB.out (by omega)
        have l1 : ∀ k, loadTx (.pointer (some ⟨ba, oa' + i * 7, none⟩)) (w0.drewN k) = .ok (.value (txv ta[i])) (w0.drewN k) := fun k => loadTx_mid (hcla i hil)
        have l2 : ∀ k, loadTx (.pointer (some ⟨bb, ob' + i * 7, none⟩)) (w0.drewN k) = .ok (.value (txv tb[i])) (w0.drewN k) := fun k => loadTx_mid (hclb i him)
        have hI : (i : Int) < (LA : Int) := by omega
        have eqt : ∀ W, (Op.equalIn 10000 45 (txv ta[i]) (txv tb[i])).run Tryd.prog W = .ok (decide (ta[i] = tb[i])) W := fun W => eq_tx2 _ _ W
        clear hcla hclb
        obtain ⟨X, HX⟩ : ∃ C : Array Value, Hid ((tcl ta[i]).toArray = C) := ⟨_, hid rfl⟩
        obtain ⟨Y, HY⟩ : ∃ C : Array Value, Hid ((tcl tb[i]).toArray = C) := ⟨_, hid rfl⟩
        rw [txv_tcl, HX.out] at l1 eqt
        rw [txv_tcl, HY.out] at l2 eqt
        by_cases hxy : ta[i] = tb[i]
        · rw [decide_eq_true hxy] at eqt
          go_wp2_with fail
          go_quiet (fail)
          go_wp2
          go_roundw
          case rel =>
            refine ⟨i + 1, by omega, by go_num, hid (fun j h h2 hj => ?_), _, rfl⟩
            by_cases hji : j < i
            · exact HB.out j h h2 hji
            · obtain rfl : j = i := by omega
              exact hxy
          case measure => simp [intOf]; omega
        · rw [decide_eq_false hxy] at eqt
          go_wp2_with fail
          go_quiet (fail)
          go_wp2
          go_ret
          have e : ans = false := by
            rw [← HAN.out]
            exact sameK_no (fun e => by injection e with _ _ _ _ e; subst e; exact hxy rfl)
          subst e
          exact ⟨rfl, below_drewN (below_drewN hb0 _) _⟩
      · obtain rfl : i = LA := by omega
        go_wp2
        go_ret
        have e : ans = true := by
          rw [← HAN.out]
          refine sameK_iff.2 ?_
          have hp : pa = pb := of_decide_eq_true HQ.out
          have ht : ta = tb := List.ext_getElem (by rw [HLA.out, HLB.out]) fun j h h2 => HB.out j h h2 (by have := HLA.out; omega)
          rw [hp, ht]
        subst e
        exact ⟨rfl, below_drewN hb0 n⟩
end Go.Proofs.YtekfkfpfnhoblaaDoor

/-
  The document's answer for which blocks there may be: tithingref07.May.
-/
namespace Go.Proofs.YtekfkfpfnhoblaaDoor
set_option maxRecDepth 20000
open Go.RowKit
attribute [local go_sem ↓] exec_load_tx exec_load_bk exec_build_bk

/-- No text of a block's transactions is too long. -/
def lightK (b : BkM) : Prop := ∀ t ∈ b.txs, t.key.length ≤ 1000000 ∧ t.val.length ≤ 1000000
theorem mayK_no {b : BkM} (hs : sameK b bkZ = false) {i : Nat} (hi : i < b.txs.length) (h : mayT b.txs[i] = false) : mayK b = false := by
  have ha : b.txs.all mayT = false := by
    rw [List.all_eq_false]
    exact ⟨_, List.getElem_mem hi, by simp [h]⟩
  unfold mayK
  rw [hs, ha]
  rfl
theorem mayK_rest {b : BkM} (hs : sameK b bkZ = false) (h : ∀ j (hj : j < b.txs.length), mayT b.txs[j] = true) : mayK b = numsK b := by
  have ha : b.txs.all mayT = true := by
    rw [List.all_eq_true]
    intro t ht
    obtain ⟨j, hj, rfl⟩ := List.getElem_of_mem ht
    exact h j hj
  unfold mayK
  rw [hs, ha]
  rfl

set_option maxHeartbeats 1600000 in
theorem refMay7_any (v : Value) (b : BkM) (w : World) (hv : BkV w v b) (hlk : lightK b) :
    Calls Tryd.prog 9 #[v] w fun e w' => e = .returned (.bool (mayK b)) ∧ Below w.heap.size w w' := by
  have HV := hid hv
  obtain ⟨s, rfl, hp, ht⟩ := hv
  have hb0 : Below w.heap.size w (w.alloc (.cells (bkc b s) 26)) := (Below.refl _ _).alloc (Nat.le_refl _) _
  have hA := BoxK.new w b s
  have ht0 := ht.below hb0
  obtain ⟨A, c, rfl⟩ := ht.shape
  obtain ⟨C, HC⟩ : ∃ C : Array Value, Hid (bkc b (.slice A b.txs.length c) = C) := ⟨_, hid rfl⟩
  have HSM : Hid (∀ W, Below w.heap.size w W → Calls Tryd.prog 14 #[.agg C, .agg (bkc bkZ (.slice none 0 0))] W fun e w' => e = .returned (.bool (sameK b bkZ)) ∧ Below W.heap.size W w') := hid (fun W h => by
    have := HV.out.below h
    rw [HC.out] at this
    exact refSame7_any _ _ b bkZ W this ⟨_, rfl, bkZ_par, Txs.nil W⟩)
  obtain ⟨Z, HZ⟩ : ∃ C : Array Value, Hid (bkc bkZ (.slice none 0 0) = C) := ⟨_, hid rfl⟩
  obtain ⟨ans, HAN⟩ : ∃ q : Bool, Hid (mayK b = q) := ⟨_, hid rfl⟩
  obtain ⟨sm, HS⟩ : ∃ q : Bool, Hid (sameK b bkZ = q) := ⟨_, hid rfl⟩
  rw [HZ.out, HS.out] at HSM
  have HLD : Hid (∀ W : World, BoxK W w.heap.size b (.slice A b.txs.length c) → loadK (.pointer (some ⟨w.heap.size, 0, none⟩)) W = .ok (.value (.agg C)) W) := hid (fun W h => by
    have := loadK_eq h hp
    rw [HC.out] at this
    exact this)
  have hbz : ∀ W, buildK W = .ok (.value (.agg Z)) W := fun W => by rw [← HZ.out]; exact buildK_eq W
  rw [HAN.out, HC.out]
  rw [HC.out] at hA hb0 ht0
  clear ht HV
  go_enter Tryd.func9, Tryd.ntmps9
  go_upto_region 1 with (fail)
  generalize (w.alloc (.cells C 26)) = w0 at *
  have hl0 := hA.lt
  have l0 := HLD.out w0 hA
  go_wp2_with fail
  refine (HSM.out w0 hb0).mono ?_
  rintro e w1 ⟨rfl, hb1⟩
  clear l0 hbz HZ HSM
  have hB1 := hb0.trans (hb1.mono hb0.size)
  have hA1 := hA.below hb1 hl0
  have ht1 := ht0.below hb1
  clear hA ht0
  cases sm with
  | true =>
    go_wp2_with fail
    go_ret
    have e : ans = true := by
      rw [← HAN.out]
      unfold mayK
      rw [HS.out]
      rfl
    subst e
    exact ⟨rfl, hB1⟩
  | false =>
    go_wp2_with fail
    obtain ⟨L, HL⟩ : ∃ n : Nat, Hid (b.txs.length = n) := ⟨_, hid rfl⟩
    have HA1 := hid hA1
    have HT1 := hid ht1
    have hlen := ht1.len
    rw [HL.out] at hlen
    unfold maxLen at hlen
    have hl1 := hA1.lt
    clear hA1 ht1 hl0
    rw [HL.out] at HA1 HT1
    go_loopw [3] (fun si wr => ∃ i : Nat, i ≤ L ∧ si = .int .i64 i ∧ Hid (∀ j (h : j < b.txs.length), j < i → mayT b.txs[j] = true) ∧ Below w1.heap.size w1 wr) (fun si _ => L - (intOf si).toNat)
    case atStart => exact ⟨0, Nat.zero_le _, rfl, hid (fun j _ h => absurd h (by omega)), Below.refl _ _⟩
    case round =>
      obtain ⟨i, hi, rfl, HB, hbr⟩ := hrel
      have hBr := hB1.trans (hbr.mono hB1.size)
      have hAr := HA1.out.below hbr hl1
      obtain ⟨k1, k2, k3, k4⟩ := hAr.cells hp
      clear hAr
      by_cases hlt : i < L
      · have hil : i < b.txs.length := by rw [HL.out]; exact hlt
        obtain ⟨_, hc1, hc2, hra⟩ := (HT1.out.below hbr).at_
        obtain ⟨ba, oa, rfl, hba, hcla⟩ := hra (by omega)
        have hI : (i : Int) < (L : Int) := by omega
        have l1 : loadTx (.pointer (some ⟨ba, oa + i * 7, none⟩)) wr = .ok (.value (txv b.txs[i])) wr := loadTx_mid (hcla i hil)
        have hkl := hlk _ (List.getElem_mem hil)
        have HMT : Hid (∀ W, Calls Tryd.prog 23 #[txv b.txs[i]] W fun e w' => e = .returned (.bool (mayT b.txs[i])) ∧ Below W.heap.size W w') := hid (fun W => refMay_any _ W hkl.1 hkl.2)
        obtain ⟨X, HX⟩ : ∃ C : Array Value, Hid ((tcl b.txs[i]).toArray = C) := ⟨_, hid rfl⟩
        obtain ⟨m, HM⟩ : ∃ q : Bool, Hid (mayT b.txs[i] = q) := ⟨_, hid rfl⟩
        rw [txv_tcl, HX.out] at l1
        rw [txv_tcl, HX.out, HM.out] at HMT
        clear hcla hkl hc1 hc2 k1 k2 k3
        go_wp2_with fail
        refine (HMT.out wr).mono ?_
        rintro e w2 ⟨rfl, hb2⟩
        have hbr2 := hbr.trans (hb2.mono hbr.size)
        have hB2 := hBr.trans (hb2.mono hBr.size)
        clear l1 k4
        cases m with
        | false =>
          go_wp2_with fail
          go_ret
          have e : ans = false := by
            rw [← HAN.out]
            exact mayK_no HS.out hil HM.out
          subst e
          exact ⟨rfl, hB2⟩
        | true =>
          go_wp2_with fail
          go_roundw
          case rel =>
            refine ⟨i + 1, by omega, by go_num, hid (fun j h hj => ?_), hbr2⟩
            by_cases hji : j < i
            · exact HB.out j h hji
            · obtain rfl : j = i := by omega
              exact HM.out
          case measure => simp [intOf]; omega
      · obtain rfl : i = L := by omega
        have HNK : Hid (ans = numsK b) := hid (by
          rw [← HAN.out]
          exact mayK_rest HS.out (fun j hj => HB.out j hj (by have := HL.out; omega)))
        clear HB
        obtain ⟨par, vi, he, bo, txs⟩ := b
        simp only at k1 k2 k3 HL
        go_wp2_with fail
        all_goals
          go_ret
          refine ⟨?_, hBr⟩
          refine congrArg (fun b => Ending.returned (Value.bool b)) ?_
          rw [HNK.out]
          unfold numsK
          simp only [HL.out]
        all_goals grind
end Go.Proofs.YtekfkfpfnhoblaaDoor

/-
  A text's bytes in new memory: the conversion of a string. No function of the program.
-/
namespace Go.Proofs.YtekfkfpfnhoblaaDoor
set_option maxRecDepth 20000
open Go.RowKit

theorem al_le (w : World) (o : Obj) : w.heap.size ≤ (w.alloc o).heap.size := by simp
/-- An empty row in a new block. -/
theorem fresh0_own (w : World) : Own w.heap.size (w.alloc (.cells #[] 5)) (.slice (some ⟨w.heap.size, 0, none⟩) 0 0) [] := World.ownsRow_made w #[] 0 (Nat.le_refl _) (Nat.zero_le _) rfl
theorem fresh0_below {w w2 : World} (hg : (w.alloc (.cells #[] 5)).grownBy w2 (Value.slice (some ⟨w.heap.size, 0, none⟩) 0 0).ownBlock) : Below w.heap.size w w2 :=
  ((Below.refl _ _).alloc (Nat.le_refl _) _).grown hg (by simp) (fun k hk => (World.ownsRow.lt (fresh0_own w) k hk).1)
theorem run_bs (l : List UInt8) (w : World) (hl : l.length ≤ maxLen) : ∃ v w', (convert 9 29 (.string (sb l))).run Tryd.prog w = .ok v w' ∧ Byt w' v l ∧ Below w.heap.size w w' := by
  refine ⟨_, _, run_bytes_of_string w 9 29 5 (sb l) under_string under_bytes (by kernel_rfl), ?_, ((Below.refl _ _).drew).alloc (Nat.le_refl _) _⟩
  rw [sb_size]
  refine ⟨_, _, rfl, grownCap_ge _ _ _ _, grownCap_le_maxLen _ _ _ _ hl, fun h0 => ⟨w.heap.size, 0, rfl, by simp, fun j hj => ?_⟩⟩
  have hb := heap_alloc_new w.drew (.cells (bytesRow (sb l) (grownCap w l.length 0 5)) 5 ((bytesRow (sb l) (grownCap w l.length 0 5)).size, (bytesRow (sb l) (grownCap w l.length 0 5)).size + 1))
  rw [Nat.zero_add]
  refine (cell_of_row _ _ _ _ _ _ hb).trans ?_
  unfold bytesRow
  rw [Array.getElem?_append_left (by simp [sb]; exact hj)]
  simp [sb, hj, bcell]
end Go.Proofs.YtekfkfpfnhoblaaDoor
