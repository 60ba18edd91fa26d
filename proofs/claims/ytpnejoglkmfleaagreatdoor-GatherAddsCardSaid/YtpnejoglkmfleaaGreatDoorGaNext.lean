/-
  A range over a gatherer's map: its start, its step.
-/
import Derived.Test.YtpnejoglkmfleaaGreatDoorGaMem
namespace Go.Proofs.YtpnejoglkmfleaaGreatDoor
set_option maxRecDepth 20000
open Go.RowKit
section
variable {w : World} {r m c : Nat} {P : List (AtM × Nat)} {seen : Array Nat}
theorem range_any (hq : w.heap[m]? = some (mapG P c)) : (Instr.range 53 (.map (some m))).run Tryz.prog w = .ok (.pointer (some ⟨w.heap.size, 0, none⟩)) (w.alloc (.mapIter (some m) c #[] c)) := by
  simp only [Instr.range, Sem.run_bind, run_underlying under_gm, Result.andThen_ok, MapKept.run_getObj_map hq, Sem.run_pure, run_newObj_alloc]
theorem memG_left {e : MapEntry} (h : e ∈ (leftOf (P.map entG).toArray seen).toList) : ∃ p ∈ P, e = entG p ∧ p.2 ∉ seen := by
  unfold leftOf at h
  rw [Array.toList_filter, List.mem_filter, List.toList_toArray] at h
  obtain ⟨h1, h2⟩ := h
  obtain ⟨p, hp, rfl⟩ := List.mem_map.1 h1
  refine ⟨p, hp, rfl, fun hm => ?_⟩
  simp [entG, hm] at h2
theorem noneG_left (h : (leftOf (P.map entG).toArray seen).size = 0) : ∀ p ∈ P, p.2 ∈ seen := by
  intro p hp
  have h0 : (leftOf (P.map entG).toArray seen).toList = [] := List.eq_nil_of_length_eq_zero (by simpa using h)
  unfold leftOf at h0
  rw [Array.toList_filter, List.toList_toArray, List.filter_eq_nil_iff] at h0
  have := h0 (entG p) (List.mem_map_of_mem hp)
  simpa [entG] using this
theorem next_any (hr : w.heap[r]? = some (.mapIter (some m) c seen c)) (hq : w.heap[m]? = some (mapG P c)) (hnd : (P.map (·.2)).Nodup) (hlt : ∀ p ∈ P, p.2 < c) :
    ((∀ p ∈ P, p.2 ∈ seen) ∧ ∀ ty, (Instr.next (.pointer (some ⟨r, 0, none⟩)) false ty).run Tryz.prog w = .ok (.tuple #[.bool false]) w) ∨
    ∃ p ∈ P, p.2 ∉ seen ∧ ∃ w2 : World, (∀ ty, (Instr.next (.pointer (some ⟨r, 0, none⟩)) false ty).run Tryz.prog w = .ok (.tuple #[.bool true, kv p.1.vi p.1.ki p.1.bo, .agg (atc p.1)]) w2) ∧
      w2.heap[r]? = some (.mapIter (some m) c (seen.push p.2) c) ∧ w2.heap[m]? = some (mapG P c) ∧ w.grownBy w2 (some r) ∧ w2.heap.size = w.heap.size ∧
      (Instr.entry (.pointer (some ⟨r, 0, none⟩))).run Tryz.prog w2 = .ok (.tuple #[kv p.1.vi p.1.ki p.1.bo, .agg (atc p.1)]) w2 := by
  have hold : ∀ x ∈ (P.map entG).toArray.toList, x.born < c := fun x hx => by
    rw [List.toList_toArray] at hx
    obtain ⟨p, hp, rfl⟩ := List.mem_map.1 hx
    exact hlt p hp
  have hborn : ((P.map entG).toArray.toList.map (·.born)).Nodup := by
    rw [List.toList_toArray, List.map_map]
    exact hnd
  have hty : ∀ ty, Instr.next (.pointer (some ⟨r, 0, none⟩)) false ty = Instr.next (.pointer (some ⟨r, 0, none⟩)) false 0 := fun _ => rfl
  rcases run_next_at (P := Tryz.prog) w 0 r m c c seen _ c hr hq hold (Nat.le_refl _) with ⟨h0, hrun⟩ | ⟨e, he, w1, hw1, hrun⟩
  · exact .inl ⟨noneG_left h0, fun ty => by rw [hty]; exact hrun⟩
  · obtain ⟨p, hp, rfl, hn⟩ := memG_left he
    have hrm : r ≠ m := by
      rintro rfl
      have := hr.symm.trans hq
      cases this
    have k1 : w1.heap = w.heap := by rcases hw1 with rfl | rfl <;> rfl
    have k2 : w1.os = w.os ∧ w1.tape = w.tape ∧ w1.output = w.output := by rcases hw1 with rfl | rfl <;> exact ⟨rfl, rfl, rfl⟩
    have hlr : r < w.heap.size := (Array.getElem?_eq_some_iff.1 hr).1
    have a1 : (ChangeMaps.setBlock w1 r (.mapIter (some m) c (seen.push (entG p).born) c)).heap[r]? = some (.mapIter (some m) c (seen.push p.2) c) := by
      show (w1.heap.setIfInBounds r _)[r]? = _
      rw [Array.getElem?_setIfInBounds, if_pos rfl, if_pos (by rw [k1]; exact hlr)]
      rfl
    have a2 : (ChangeMaps.setBlock w1 r (.mapIter (some m) c (seen.push (entG p).born) c)).heap[m]? = some (mapG P c) := by
      show (w1.heap.setIfInBounds r _)[m]? = _
      rw [Array.getElem?_setIfInBounds, if_neg hrm, k1]
      exact hq
    refine .inr ⟨p, hp, hn, _, fun ty => by rw [hty]; exact hrun, a1, a2, ⟨k2.1, k2.2.1, k2.2.2, ?_, fun k _ hk => ?_⟩, ?_, ?_⟩
    · show w.heap.size ≤ (w1.heap.setIfInBounds r _).size
      rw [Array.size_setIfInBounds, k1]
      exact Nat.le_refl _
    · show (w1.heap.setIfInBounds r _)[k]? = _
      rw [Array.getElem?_setIfInBounds, if_neg (fun e => hk (by rw [e])), k1]
    · show (w1.heap.setIfInBounds r _).size = _
      rw [Array.size_setIfInBounds, k1]
    · exact run_entry_at (P := Tryz.prog) _ r m c seen _ c (entG p) a1 a2 (by rw [List.toList_toArray]; exact List.mem_map_of_mem hp) hborn
end
end Go.Proofs.YtpnejoglkmfleaaGreatDoor
