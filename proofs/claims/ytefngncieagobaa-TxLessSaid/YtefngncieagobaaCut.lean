/-
  Slices of bytes cut in three ways, each kept whole under a name. No function of the program.
-/
import Derived.Test.YtefngncieagobaaAppend
namespace Go.Proofs.Ytefngncieagobaa
open Go.RowKit

/-- What cutting comes to: kept whole. -/
noncomputable def cutH (v h : Value) (w : World) : Result Next := Sem.run Try.prog (execOp (fun o => match o with | .tmp 0 => v | _ => h) { dst := none, op := .slice 22 (.tmp 0) none (some (.tmp 1)) none, type := 0, pos := "", after := #[], guard := none }) w
noncomputable def cutL (v l : Value) (w : World) : Result Next := Sem.run Try.prog (execOp (fun o => match o with | .tmp 0 => v | _ => l) { dst := none, op := .slice 22 (.tmp 0) (some (.tmp 1)) none none, type := 0, pos := "", after := #[], guard := none }) w
noncomputable def cutLH (v l h : Value) (w : World) : Result Next := Sem.run Try.prog (execOp (fun o => match o with | .tmp 0 => v | .tmp 1 => l | _ => h) { dst := none, op := .slice 22 (.tmp 0) (some (.tmp 1)) (some (.tmp 2)) none, type := 0, pos := "", after := #[], guard := none }) w
theorem exec_cutH (r : Operand → Value) (x h : Operand) (dst : Option Tmp) (ty : TypeId) (pos : String) (after : Array Edge) (guard : Option (Nat × Bool)) (w : World) :
    Sem.run Try.prog (execOp r { dst := dst, op := .slice 22 x none (some h) none, type := ty, pos := pos, after := after, guard := guard }) w = cutH (r x) (r h) w := rfl
theorem exec_cutL (r : Operand → Value) (x l : Operand) (dst : Option Tmp) (ty : TypeId) (pos : String) (after : Array Edge) (guard : Option (Nat × Bool)) (w : World) :
    Sem.run Try.prog (execOp r { dst := dst, op := .slice 22 x (some l) none none, type := ty, pos := pos, after := after, guard := guard }) w = cutL (r x) (r l) w := rfl
theorem exec_cutLH (r : Operand → Value) (x l h : Operand) (dst : Option Tmp) (ty : TypeId) (pos : String) (after : Array Edge) (guard : Option (Nat × Bool)) (w : World) :
    Sem.run Try.prog (execOp r { dst := dst, op := .slice 22 x (some l) (some h) none, type := ty, pos := pos, after := after, guard := guard }) w = cutLH (r x) (r l) (r h) w := rfl

/-- Bytes from i on, up to k. -/
theorem RdB.sub {w : World} {A : Option Addr} {l : List UInt8} (h : RdB w A l) (i k c : Nat) (hik : i ≤ k) (hk : k ≤ l.length) (hc : l.length ≤ c) : RdB w (if c = i then A else A.map (·.add i)) ((l.drop i).take (k - i)) := fun h0 => by
  rw [List.length_take, List.length_drop] at h0
  obtain ⟨b, off, rfl, hb, hcl⟩ := h (by omega)
  rw [if_neg (by omega)]
  refine ⟨b, off + i, by rw [Option.map_some, addr_add], hb, fun j hj => ?_⟩
  rw [List.length_take, List.length_drop] at hj
  rw [Nat.add_assoc, hcl (i + j) (by omega), List.getElem_take, List.getElem_drop]
theorem sub_length {l : List UInt8} {i k : Nat} (hk : k ≤ l.length) : ((l.drop i).take (k - i)).length = k - i := by
  rw [List.length_take, List.length_drop]
  omega

theorem cut_lh (A : Option Addr) (c L i k : Nat) (hik : i ≤ k) (hk : k ≤ L) (hc : L ≤ c) : ∃ A' c', (∀ w, cutLH (.slice A L c) (.int .i64 (i : Int)) (.int .i64 (k : Int)) w = .ok (.value (.slice A' (k - i) c')) w) ∧ ∀ w l, l.length = L → Byt w (.slice A L c) l → Byt w (.slice A' (k - i) c') ((l.drop i).take (k - i)) := by
  refine ⟨if c = i then A else A.map (·.add i), c - i, fun w => ?_, fun w l hl hv => ?_⟩
  · obtain ⟨i0, hi, hz0, hz1, hz2⟩ := info_parts info_u8
    have hk4 : k ≤ c := by omega
    unfold cutLH execOp
    simp [Instr.sliceAt, Instr.slice, run_underlying under_bytes, Instr.sliceBounds, Instr.sliceBound, asIntOf, sizeOf, typeInfo, hi, hz1, hik, hk4, Sem.run_bind]
  · obtain ⟨_, h1, h2, h3⟩ := hv.at_
    have hs := sub_length (l := l) (i := i) (k := k) (by omega)
    exact ⟨_, _, by rw [hs], by omega, by omega, h3.sub i k c hik (by omega) (by omega)⟩
theorem cut_h (A : Option Addr) (c L k : Nat) (hk : k ≤ L) (hc : L ≤ c) : ∃ A' c', (∀ w, cutH (.slice A L c) (.int .i64 (k : Int)) w = .ok (.value (.slice A' k c')) w) ∧ ∀ w l, l.length = L → Byt w (.slice A L c) l → Byt w (.slice A' k c') (l.take k) := by
  refine ⟨if c = 0 then A else A.map (·.add 0), c, fun w => ?_, fun w l hl hv => ?_⟩
  · obtain ⟨i0, hi, hz0, hz1, hz2⟩ := info_parts info_u8
    have hk4 : k ≤ c := by omega
    unfold cutH execOp
    simp [Instr.sliceAt, Instr.slice, run_underlying under_bytes, Instr.sliceBounds, Instr.sliceBound, asIntOf, sizeOf, typeInfo, hi, hk4, Sem.run_bind]
  · obtain ⟨_, h1, h2, h3⟩ := hv.at_
    have hs := sub_length (l := l) (i := 0) (k := k) (by omega)
    have h4 := h3.sub 0 k c (Nat.zero_le _) (by omega) (by omega)
    rw [List.drop_zero, Nat.sub_zero] at h4 hs
    exact ⟨_, _, by rw [hs], by omega, by omega, h4⟩
theorem cut_l (A : Option Addr) (c L i : Nat) (hi : i ≤ L) (hc : L ≤ c) : ∃ A' c', (∀ w, cutL (.slice A L c) (.int .i64 (i : Int)) w = .ok (.value (.slice A' (L - i) c')) w) ∧ ∀ w l, l.length = L → Byt w (.slice A L c) l → Byt w (.slice A' (L - i) c') (l.drop i) := by
  refine ⟨if c = i then A else A.map (·.add i), c - i, fun w => ?_, fun w l hl hv => ?_⟩
  · obtain ⟨i0, hi0, hz0, hz1, hz2⟩ := info_parts info_u8
    unfold cutL execOp
    simp [Instr.sliceAt, Instr.slice, run_underlying under_bytes, Instr.sliceBounds, Instr.sliceBound, asIntOf, sizeOf, typeInfo, hi0, hz1, hi, Sem.run_bind]
  · obtain ⟨_, h1, h2, h3⟩ := hv.at_
    have hs := sub_length (l := l) (i := i) (k := l.length) (by omega)
    have h4 := h3.sub i l.length c (by omega) (by omega) (by omega)
    have e : (l.drop i).take (l.length - i) = l.drop i := List.take_of_length_le (by rw [List.length_drop]; omega)
    rw [e] at h4 hs
    exact ⟨_, _, by rw [hs, hl], by omega, by omega, h4⟩

/-- A list in a new block: its block and its cells. -/
theorem new_cell (w : World) (C : Array Value) (T : TypeId) (i : Nat) (v : Value) (h : C[i]? = some v) : (w.alloc (.cells C T)).cell? ⟨w.heap.size, i, none⟩ = some v := by
  rw [cell_of_row _ _ _ _ _ (0, 0) (heap_alloc_new w _)]
  exact h
theorem new_cell_drew (w : World) (C : Array Value) (T : TypeId) (i : Nat) (v : Value) (h : C[i]? = some v) : (w.alloc (.cells C T)).drew.cell? ⟨w.heap.size, i, none⟩ = some v := new_cell w C T i v h
theorem cut_three (l : List UInt8) {i k : Nat} (hik : i ≤ k) : l.take i ++ ((l.drop i).take (k - i) ++ l.drop k) = l := by
  have e : l.drop k = (l.drop i).drop (k - i) := by rw [List.drop_drop]; congr 1; omega
  rw [e, List.take_append_drop, List.take_append_drop]

end Go.Proofs.Ytefngncieagobaa
