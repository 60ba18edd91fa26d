/-
  Slices of bytes cut in three ways, each kept whole under a name; the sum of one, two and three parts. And arrays that are the same.
-/
import Derived.Test.YtakigopjbbhjkaaDoorOfOne
namespace Go.Proofs.YtakigopjbbhjkaaDoor
open Go.RowKit

/-- What cutting comes to: kept whole. -/
noncomputable def cutH (v h : Value) (w : World) : Result Next := Sem.run Tryd.prog (execOp (fun o => match o with | .tmp 0 => v | _ => h) { dst := none, op := .slice 26 (.tmp 0) none (some (.tmp 1)) none, type := 0, pos := "", after := #[], guard := none }) w
noncomputable def cutL (v l : Value) (w : World) : Result Next := Sem.run Tryd.prog (execOp (fun o => match o with | .tmp 0 => v | _ => l) { dst := none, op := .slice 26 (.tmp 0) (some (.tmp 1)) none none, type := 0, pos := "", after := #[], guard := none }) w
noncomputable def cutLH (v l h : Value) (w : World) : Result Next := Sem.run Tryd.prog (execOp (fun o => match o with | .tmp 0 => v | .tmp 1 => l | _ => h) { dst := none, op := .slice 26 (.tmp 0) (some (.tmp 1)) (some (.tmp 2)) none, type := 0, pos := "", after := #[], guard := none }) w
theorem exec_cutH (r : Operand → Value) (x h : Operand) (dst : Option Tmp) (ty : TypeId) (pos : String) (after : Array Edge) (guard : Option (Nat × Bool)) (w : World) :
    Sem.run Tryd.prog (execOp r { dst := dst, op := .slice 26 x none (some h) none, type := ty, pos := pos, after := after, guard := guard }) w = cutH (r x) (r h) w := rfl
theorem exec_cutL (r : Operand → Value) (x l : Operand) (dst : Option Tmp) (ty : TypeId) (pos : String) (after : Array Edge) (guard : Option (Nat × Bool)) (w : World) :
    Sem.run Tryd.prog (execOp r { dst := dst, op := .slice 26 x (some l) none none, type := ty, pos := pos, after := after, guard := guard }) w = cutL (r x) (r l) w := rfl
theorem exec_cutLH (r : Operand → Value) (x l h : Operand) (dst : Option Tmp) (ty : TypeId) (pos : String) (after : Array Edge) (guard : Option (Nat × Bool)) (w : World) :
    Sem.run Tryd.prog (execOp r { dst := dst, op := .slice 26 x (some l) (some h) none, type := ty, pos := pos, after := after, guard := guard }) w = cutLH (r x) (r l) (r h) w := rfl

/-- A type's number under a name: a load of a long array that stands several times in one region is then told by an equation. -/
def tyHide (T : TypeId) (_ : Nat) : TypeId := T
theorem exec_load_hide (T : TypeId) (k : Nat) (r : Operand → Value) (x : Operand) (dst : Option Tmp) (ty : TypeId) (pos : String) (after : Array Edge) (guard : Option (Nat × Bool)) (w : World) :
    Sem.run Tryd.prog (execOp r { dst := dst, op := .load (tyHide T k) x, type := ty, pos := pos, after := after, guard := guard }) w = loadA (tyHide T k) (r x) w := rfl
theorem tyHide_load {T : TypeId} {k : Nat} (h : T = k) (x : Operand) : Op.load k x = Op.load (tyHide T k) x := by
  unfold tyHide
  rw [h]
theorem loadA_hide {T k : TypeId} {E : TypeId} {n : Nat} {z : Value} (h : T = k) (H : ArrT k E n z) {w : World} {g N o : Nat} {f f' : Nat → Value} {t : TypeId} (hg : Blk w g N f t) (ho : o + n ≤ N) (e : ∀ j, j < n → f (o + j) = f' j) :
    loadA (tyHide T k) (.pointer (some ⟨g, o, none⟩)) w = .ok (.value (.agg (fcells n f'))) w := by
  unfold tyHide
  rw [h]
  exact loadA_eq H hg ho e

/-- Bytes from i on, up to k. -/
theorem RdB.sub {w : World} {A : Option Addr} {l : List UInt8} (h : RdB w A l) (i k c : Nat) (hik : i ≤ k) (hk : k ≤ l.length) (hc : l.length ≤ c) : RdB w (if c = i then A else A.map (·.add i)) ((l.drop i).take (k - i)) := fun h0 => by
  rw [List.length_take, List.length_drop] at h0
  obtain ⟨b, off, rfl, hb, hcl⟩ := h (by omega)
  rw [if_neg (by omega)]
  refine ⟨b, off + i, by rw [Option.map_some, addr_add], hb, fun j hj => ?_⟩
  rw [List.length_take, List.length_drop] at hj
  rw [Nat.add_assoc, hcl (i + j) (by omega), List.getElem_take, List.getElem_drop]
theorem sub_length {l : List UInt8} {i k : Nat} (hk : k ≤ l.length) : ((l.drop i).take (k - i)).length = k - i := by
  rw [List.length_take, List.length_drop]
  omega

theorem cut_lh (A : Option Addr) (c L i k : Nat) (hik : i ≤ k) (hk : k ≤ L) (hc : L ≤ c) : ∃ A' c', (∀ w, cutLH (.slice A L c) (.int .i64 (i : Int)) (.int .i64 (k : Int)) w = .ok (.value (.slice A' (k - i) c')) w) ∧ ∀ w l, l.length = L → Byt w (.slice A L c) l → Byt w (.slice A' (k - i) c') ((l.drop i).take (k - i)) := by
  refine ⟨if c = i then A else A.map (·.add i), c - i, fun w => ?_, fun w l hl hv => ?_⟩
  · obtain ⟨i0, hi, hz0, hz1, hz2⟩ := info_parts info_u8
    have hk4 : k ≤ c := by omega
    unfold cutLH execOp
    simp [Instr.sliceAt, Instr.slice, run_underlying under_bytes, Instr.sliceBounds, Instr.sliceBound, asIntOf, sizeOf, typeInfo, hi, hz1, hik, hk4, Sem.run_bind]
  · obtain ⟨_, h1, h2, h3⟩ := hv.at_
    have hs := sub_length (l := l) (i := i) (k := k) (by omega)
    exact ⟨_, _, by rw [hs], by omega, by omega, h3.sub i k c hik (by omega) (by omega)⟩
theorem cut_h (A : Option Addr) (c L k : Nat) (hk : k ≤ L) (hc : L ≤ c) : ∃ A' c', (∀ w, cutH (.slice A L c) (.int .i64 (k : Int)) w = .ok (.value (.slice A' k c')) w) ∧ ∀ w l, l.length = L → Byt w (.slice A L c) l → Byt w (.slice A' k c') (l.take k) := by
  refine ⟨if c = 0 then A else A.map (·.add 0), c, fun w => ?_, fun w l hl hv => ?_⟩
  · obtain ⟨i0, hi, hz0, hz1, hz2⟩ := info_parts info_u8
    have hk4 : k ≤ c := by omega
    unfold cutH execOp
    simp [Instr.sliceAt, Instr.slice, run_underlying under_bytes, Instr.sliceBounds, Instr.sliceBound, asIntOf, sizeOf, typeInfo, hi, hk4, Sem.run_bind]
  · obtain ⟨_, h1, h2, h3⟩ := hv.at_
    have hs := sub_length (l := l) (i := 0) (k := k) (by omega)
    have h4 := h3.sub 0 k c (Nat.zero_le _) (by omega) (by omega)
    rw [List.drop_zero, Nat.sub_zero] at h4 hs
    exact ⟨_, _, by rw [hs], by omega, by omega, h4⟩
theorem cut_l (A : Option Addr) (c L i : Nat) (hi : i ≤ L) (hc : L ≤ c) : ∃ A' c', (∀ w, cutL (.slice A L c) (.int .i64 (i : Int)) w = .ok (.value (.slice A' (L - i) c')) w) ∧ ∀ w l, l.length = L → Byt w (.slice A L c) l → Byt w (.slice A' (L - i) c') (l.drop i) := by
  refine ⟨if c = i then A else A.map (·.add i), c - i, fun w => ?_, fun w l hl hv => ?_⟩
  · obtain ⟨i0, hi0, hz0, hz1, hz2⟩ := info_parts info_u8
    unfold cutL execOp
    simp [Instr.sliceAt, Instr.slice, run_underlying under_bytes, Instr.sliceBounds, Instr.sliceBound, asIntOf, sizeOf, typeInfo, hi0, hz1, hi, Sem.run_bind]
  · obtain ⟨_, h1, h2, h3⟩ := hv.at_
    have hs := sub_length (l := l) (i := i) (k := l.length) (by omega)
    have h4 := h3.sub i l.length c (by omega) (by omega) (by omega)
    have e : (l.drop i).take (l.length - i) = l.drop i := List.take_of_length_le (by rw [List.length_drop]; omega)
    rw [e] at h4 hs
    exact ⟨_, _, by rw [hs, hl], by omega, by omega, h4⟩

/-- The sum of two parts, and of three, that lie in a block. -/
theorem of_two (v0 v1 : Value) (l0 l1 : List UInt8) (gp c : Nat) (w : World) (hg : gp < w.heap.size) (h0 : w.cell? ⟨gp, 0, none⟩ = some v0) (h1 : w.cell? ⟨gp, 1, none⟩ = some v1) (b0 : Byt w v0 l0) (b1 : Byt w v1 l1)
    {l : List UInt8} (hl : l0 ++ l1 = l) (hs : l.length ≤ 1000000) (hK : Kst 1 w) :
    Calls Tryd.prog 17 #[.slice (some ⟨gp, 0, none⟩) 2 c] w fun e w' => e = .returned (.agg (fcells 32 fun j => bcell (sumS l j))) ∧ Below w.heap.size w w' := by
  have e : ([l0, l1] : List (List UInt8)).flatten = l := by simp [hl]
  have h := of_any [l0, l1] (fun j => if j = 0 then v0 else v1) gp 2 c w rfl hg (fun j hj => by
    obtain rfl | rfl : j = 0 ∨ j = 1 := by omega
    · exact h0
    · exact h1) (fun j hj => by
    have hj2 : j < 2 := hj
    obtain rfl | rfl : j = 0 ∨ j = 1 := by omega
    · exact b0
    · exact b1) (by rw [e]; omega) (by omega) hK
  rw [e] at h
  exact h
theorem of_three (v0 v1 v2 : Value) (l0 l1 l2 : List UInt8) (gp c : Nat) (w : World) (hg : gp < w.heap.size) (h0 : w.cell? ⟨gp, 0, none⟩ = some v0) (h1 : w.cell? ⟨gp, 1, none⟩ = some v1) (h2 : w.cell? ⟨gp, 2, none⟩ = some v2) (b0 : Byt w v0 l0) (b1 : Byt w v1 l1) (b2 : Byt w v2 l2)
    {l : List UInt8} (hl : l0 ++ (l1 ++ l2) = l) (hs : l.length ≤ 1000000) (hK : Kst 1 w) :
    Calls Tryd.prog 17 #[.slice (some ⟨gp, 0, none⟩) 3 c] w fun e w' => e = .returned (.agg (fcells 32 fun j => bcell (sumS l j))) ∧ Below w.heap.size w w' := by
  have e : ([l0, l1, l2] : List (List UInt8)).flatten = l := by simp [hl]
  have h := of_any [l0, l1, l2] (fun j => if j = 0 then v0 else if j = 1 then v1 else v2) gp 3 c w rfl hg (fun j hj => by
    obtain rfl | rfl | rfl : j = 0 ∨ j = 1 ∨ j = 2 := by omega
    · exact h0
    · exact h1
    · exact h2) (fun j hj => by
    have hj2 : j < 3 := hj
    obtain rfl | rfl | rfl : j = 0 ∨ j = 1 ∨ j = 2 := by omega
    · exact b0
    · exact b1
    · exact b2) (by rw [e]; omega) (by omega) hK
  rw [e] at h
  exact h

/-- A list in a new block: its block and its cells. -/
theorem new_cell (w : World) (C : Array Value) (T : TypeId) (i : Nat) (v : Value) (h : C[i]? = some v) : (w.alloc (.cells C T)).cell? ⟨w.heap.size, i, none⟩ = some v := by
  rw [cell_of_row _ _ _ _ _ (0, 0) (heap_alloc_new w _)]
  exact h
theorem new_cell_drew (w : World) (C : Array Value) (T : TypeId) (i : Nat) (v : Value) (h : C[i]? = some v) : (w.alloc (.cells C T)).drew.cell? ⟨w.heap.size, i, none⟩ = some v := new_cell w C T i v h
theorem cut_three (l : List UInt8) {i k : Nat} (hik : i ≤ k) : l.take i ++ ((l.drop i).take (k - i) ++ l.drop k) = l := by
  have e : l.drop k = (l.drop i).drop (k - i) := by rw [List.drop_drop]; congr 1; omega
  rw [e, List.take_append_drop, List.take_append_drop]

theorem hash_same (D : Array Value) (f : Nat → UInt8) (h : fcells 32 (fun j => bcell (f j)) = D) (w : World) : (Op.equalIn 10000 23 (.agg D) (.agg D)).run Tryd.prog w = .ok true w := by
  subst h
  exact arrH.eq_self (k := .u8) (by kernel_rfl) (a := fun i => ((f i).toNat : Int)) (fun _ _ => rfl) w
end Go.Proofs.YtakigopjbbhjkaaDoor
