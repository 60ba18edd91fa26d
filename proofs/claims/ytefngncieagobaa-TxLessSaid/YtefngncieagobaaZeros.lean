/-
  'append(b, make([]byte, k)...)' onto a row of the call's own: as laws for the walk.
-/
import Derived.Test.YtefngncieagobaaAppend
import Derived.Lib.AppendZerosOnto
namespace Go.Proofs.Ytefngncieagobaa
open Go.RowKit

theorem zeros_cells (v : Value) (n : Nat) : Builtin.zeroCells #[v] n = (List.replicate n v).toArray := by
  apply Array.ext
  · simp [Builtin.zeroCells]
  · intro i h1 h2
    simp [Builtin.zeroCells, Nat.mod_one]
theorem bcells_zeros (n : Nat) : bcells (List.replicate n 0) = List.replicate n (.int .u8 0) := by
  simp [bcells, bcell]
theorem wrap0 : IntKind.i64.wrap 0 = 0 := rfl
theorem under_int : Try.prog.underlying 3 = some (.int .i64) := by kernel_rfl

theorem run_append_zeros_byt {w : World} {B : Nat} {v : Value} {l : List UInt8} (k : Nat) (ty : TypeId) (hv : Own B w v l) (hs : l.length + k ≤ 140737488355328) (hB : B ≤ w.heap.size) :
    ∃ v' w', (Builtin.append_ #[22, 3] ty #[v, .int .i64 (k : Int)]).run Try.prog w = .ok v' w' ∧ Own B w' v' (l ++ List.replicate k 0) ∧ w.grownBy w' v.ownBlock ∧ (v'.ownBlock = v.ownBlock ∨ v'.ownBlock = some w.heap.size) := by
  obtain ⟨i0, hi, hz0, hz1, hz2⟩ := info_parts info_u8
  have hlk : (l ++ List.replicate k 0).length = l.length + k := by simp
  have hw : IntKind.i64.wrap (k : Int) = k := by rw [IntKind.wrap_i64]; omega
  have hneg : ¬ ((k : Int) < 0) := by omega
  have h48k : ¬ (281474976710656 < (k : Int)) := by omega
  have fresh : ∀ (old k : Nat) {l : List UInt8}, l.length + k ≤ 140737488355328 → 0 < k → ∀ row : Option Nat,
      Own B (w.drew.alloc (.cells ((bcells l).toArray ++ Builtin.zeroCells (Value.int IntKind.u8 0).cells k ++ Builtin.zeroCells (Value.int IntKind.u8 0).cells (grownCap w (l.length + k) old 5 - (l.length + k))) 5)) (.slice (some ⟨w.heap.size, 0, none⟩) (l.length + k) (grownCap w (l.length + k) old 5)) (l ++ List.replicate k 0) ∧
      w.grownBy (w.drew.alloc (.cells ((bcells l).toArray ++ Builtin.zeroCells (Value.int IntKind.u8 0).cells k ++ Builtin.zeroCells (Value.int IntKind.u8 0).cells (grownCap w (l.length + k) old 5 - (l.length + k))) 5)) row := by
    intro old k l hlk2 hk row
    have hge := grownCap_ge w (l.length + k) old 5
    have hcm : grownCap w (l.length + k) old 5 ≤ maxLen := grownCap_le_maxLen w (l.length + k) old 5 (by unfold maxLen; omega)
    have hz : (Value.int IntKind.u8 0).cells = #[.int .u8 0] := rfl
    have hl2 : (l ++ List.replicate k 0 : List UInt8).length = l.length + k := by simp
    refine ⟨⟨by rw [bcells_length, Nat.mul_one], .inr ⟨w.heap.size, _, _, by rw [hl2], hB, heap_alloc_new w.drew _, by rw [hl2]; exact hge, hcm, ?_, ?_⟩⟩, ⟨rfl, rfl, rfl, by simp, fun q hq _ => Below.heap_alloc w.drew _ q hq⟩⟩
    · rw [hz, zeros_cells, zeros_cells]
      simp [bcells]
      omega
    · rw [hz, zeros_cells, zeros_cells, hl2, bcells_append, bcells_zeros]
      simp only [Array.toList_append, Nat.mul_one]
      apply List.take_left'
      simp [bcells]
  rcases hv.2 with ⟨rfl, h0⟩ | ⟨g, cap, cur, rfl, hbg, hg, hnc, hcm, hcs, htake⟩
  · have hl : l = [] := List.eq_nil_of_length_eq_zero h0
    subst hl
    by_cases hk : k = 0
    · subst hk
      refine ⟨.slice none 0 0, w, ?_, Own.nil B w, World.grownBy.refl w _, .inl rfl⟩
      simp [Builtin.append_, run_underlying under_bytes, run_underlying under_int, sizeOf, typeInfo, hi, asInt, asIntOf, wrap0]
    · have hr := Lib.run_append_nil_zeros (P := Try.prog) w 22 3 ty 5 i0 (.int .u8 0) .i64 .i64 under_bytes under_int hi hz0 k (by omega) (by omega) (by omega) (by rw [hz2]; omega)
      obtain ⟨h1, h2⟩ := fresh 0 k (by simp; omega) (by omega) (Value.slice none 0 0).ownBlock (l := [])
      have e : (bcells ([] : List UInt8)).toArray = #[] := rfl
      rw [e] at h1 h2
      simp only [List.length_nil, Nat.zero_add, Array.empty_append] at h1 h2
      exact ⟨_, _, hr, h1, h2, .inr rfl⟩
  · by_cases hk : k = 0
    · subst hk
      refine ⟨_, w, ?_, by rw [List.replicate_zero, List.append_nil]; exact hv, World.grownBy.refl w _, .inl rfl⟩
      simp [Builtin.append_, run_underlying under_bytes, run_underlying under_int, sizeOf, typeInfo, hi, asInt, asIntOf, wrap0, hnc, storeCells]
    · by_cases hroom : l.length + k ≤ cap
      · have hfit : l.length + 0 + (List.replicate k (Value.int IntKind.u8 0)).length ≤ cur.size := by
          rw [List.length_replicate, hcs]
          omega
        have hst := run_storeCells_at Try.prog g l.length 5 (List.replicate k (Value.int IntKind.u8 0)) 0 cur w hg hfit (fun u hu => by rw [List.eq_of_mem_replicate hu]; rfl)
        simp only [Nat.add_zero] at hst
        rw [List.length_replicate] at hst
        obtain ⟨N, hN⟩ : ∃ N : Array Value, (cur.toList.take l.length ++ List.replicate k (Value.int IntKind.u8 0) ++ cur.toList.drop (l.length + k)).toArray = N := ⟨_, rfl⟩
        rw [hN] at hst
        have hrun : (Builtin.append_ #[22, 3] ty #[.slice (some ⟨g, 0, none⟩) l.length cap, .int .i64 (k : Int)]).run Try.prog w = .ok (.slice (some ⟨g, 0, none⟩) (l.length + k) cap) (w.setRow g N) := by
          simp [Builtin.append_, run_underlying under_bytes, run_underlying under_int, sizeOf, typeInfo, zeroValue, hi, hz0, hz1, hz2, asInt, asIntOf, hw, hneg, hk, h48k, hroom, Value.cells, zeros_cells, Addr.add_lit, hst]
        refine ⟨_, _, hrun, ⟨by rw [bcells_length, Nat.mul_one], .inr ⟨g, cap, N, by rw [hlk], hbg, setRow_heap w g cur N 5 _ hg, by rw [hlk]; exact hroom, hcm, ?_, ?_⟩⟩, ⟨rfl, rfl, rfl, by simp, fun q _ hq => setRow_other w g q _ (fun e => hq (by simp [Value.ownBlock, e]))⟩, .inl rfl⟩
        · rw [← hN]
          simp
          omega
        · have ht : cur.toList.take l.length = bcells l := by rw [← htake, Nat.mul_one]
          rw [← hN, hlk, bcells_append, bcells_zeros, ht]
          simp only [Nat.mul_one]
          apply List.take_left'
          simp [bcells]
      · have hold : (Builtin.firstCells i0.size l.length (.slice (some ⟨g, 0, none⟩) l.length cap)).run Try.prog w.drew = .ok (bcells l).toArray w.drew := by
          rw [hz1]
          exact run_firstCells_some (P := Try.prog) w.drew 1 l.length ⟨g, 0, none⟩ l.length cap (bcells l) (by simp [bcells]) (fun j u hu => World.ownsRow.cells hv (g := g) rfl j u hu)
        have hr := Lib.run_append_grow_zeros (P := Try.prog) w 22 3 ty 5 i0 (.int .u8 0) .i64 .i64 under_bytes under_int hi hz0 (some ⟨g, 0, none⟩) l.length cap (bcells l) hold k (by omega) (by omega) (by omega) (by omega) (by rw [hz2]; omega) (by rw [hz2]; exact growslice_fits (by omega) (by omega))
        obtain ⟨h1, h2⟩ := fresh cap k (by omega) (by omega) (Value.slice (some ⟨g, 0, none⟩) l.length cap).ownBlock (l := l)
        exact ⟨_, _, hr, h1, h2, .inr rfl⟩

theorem step_append_zeros {ops : Array Oper} {o : Oper} {a : Act} {K : Act → World → Prop} {Q : Exit → Act → World → Prop} {E : Prop} {w : World} (hgd : o.guard = none) (s y : Operand)
    (ho : o.op = .call { callee := .builtin .append, args := #[s, y], argTypes := #[22, 3] })
    {B : Nat} {v : Value} {l : List UInt8} {k : Nat} (hes : a.eval s = v) (hey : a.eval y = .int .i64 (k : Int)) (hv : Own B w v l) (hs : l.length + k ≤ 140737488355328) (hB : B ≤ w.heap.size)
    (h : ∀ v' w', Own B w' v' (l ++ List.replicate k 0) → w.grownBy w' v.ownBlock → (v'.ownBlock = v.ownBlock ∨ v'.ownBlock = some w.heap.size) → K (a.put o.dst v') w') :
    if Region.wanted o (yielded ops a.tmps) = true then Oper.wp Try.prog o a w K Q else E := by
  have hw : Region.wanted o (yielded ops a.tmps) = true := by simp [Region.wanted, hgd]
  rw [if_pos hw]
  obtain ⟨v', w', hrun, h2, h3, h4⟩ := run_append_zeros_byt k o.type hv hs hB
  exact Lib.wp_append_run w s y _ _ ho _ _ hes hey v' w' hrun (h v' w' h2 h3 h4)
end Go.Proofs.Ytefngncieagobaa
