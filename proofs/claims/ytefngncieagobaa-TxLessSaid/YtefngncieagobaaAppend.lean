/-
  An append of bytes onto a row of the call's own, whatever the source: as a law for the walk. And make of bytes.
-/
import Derived.Test.YtefngncieagobaaWords
import Derived.RegionTactic
import Derived.Deep.RegionLaw
namespace Go.Proofs.Ytefngncieagobaa
open Go.RowKit

theorem info_u8 : (Try.prog.info? 5).map (fun i => (i.zero, i.size, i.bytes)) = some (some (.int .u8 0), 1, 1) := by kernel_rfl
theorem under_bytes : Try.prog.underlying 22 = some (.slice 5) := by kernel_rfl

theorem addr_add (b off j : Nat) : (⟨b, off, none⟩ : Addr).add j = ⟨b, off + j, none⟩ := by
  unfold Addr.add
  split <;> simp_all

theorem run_append_byt {w : World} {B : Nat} {v x : Value} {l m : List UInt8} (ty : TypeId) (hv : Own B w v l) (hx : Byt w x m) (hs : l.length + m.length ≤ 140737488355328) (hB : B ≤ w.heap.size) :
    ∃ v' w', (Builtin.append_ #[22, 22] ty #[v, x]).run Try.prog w = .ok v' w' ∧ Own B w' v' (l ++ m) ∧ w.grownBy w' v.ownBlock ∧ (v'.ownBlock = v.ownBlock ∨ v'.ownBlock = some w.heap.size) := by
  obtain ⟨i0, hi, hz0, hz1, hz2⟩ := info_parts info_u8
  obtain ⟨A, c, rfl, hmc, hcm, hr⟩ := hx
  have hlm : (l ++ m).length = l.length + m.length := by simp
  rcases A with _ | ad
  · have h0 : m = [] := by
      rcases m with _ | ⟨x, m⟩
      · rfl
      · obtain ⟨_, _, h, _⟩ := hr (by simp)
        cases h
    subst h0
    refine ⟨v, w, ?_, by rw [List.append_nil]; exact hv, World.grownBy.refl w _, .inl rfl⟩
    rcases hv.2 with ⟨rfl, h0⟩ | ⟨g, cap, cur, rfl, _, _, hnc, _⟩
    · simp [Builtin.append_, run_underlying under_bytes, sizeOf, typeInfo, hi, Builtin.lenOf, Builtin.firstCells]
    · simp [Builtin.append_, run_underlying under_bytes, sizeOf, typeInfo, hi, Builtin.lenOf, Builtin.firstCells, hnc, storeCells]
  · have hcells : ∀ j u, (bcells m)[j]? = some u → w.cell? (ad.add j) = some u := by
      intro j u hu
      obtain ⟨hj, rfl⟩ := bcells_get m j u hu
      obtain ⟨b, off, e, _, hc⟩ := hr (by omega)
      injection e with e
      subst e
      rw [addr_add]
      exact hc j hj
    obtain ⟨v', w', hrun, h2, h3, _, h5⟩ := run_append_own_at (P := Try.prog) w B 22 ty 5 i0 (.int .u8 0) 1 1 under_bytes hi hz0 hz1 hz2 rfl (by omega) v l.length (bcells l) hv ad m.length c (bcells m) (by simp [bcells]) hcells (bcells_one m) (by unfold maxLen; omega) (by omega) hB
    refine ⟨v', w', hrun, ?_, h3, h5⟩
    unfold Own
    rw [hlm, bcells_append]
    exact h2

theorem wp_append_byt {o : Oper} {a : Act} {K : Act → World → Prop} {Q : Exit → Act → World → Prop} {w : World} (s y : Operand)
    (ho : o.op = .call { callee := .builtin .append, args := #[s, y], argTypes := #[22, 22] })
    {B : Nat} {v x : Value} {l m : List UInt8} (hes : a.eval s = v) (hey : a.eval y = x) (hv : Own B w v l) (hx : Byt w x m) (hs : l.length + m.length ≤ 140737488355328) (hB : B ≤ w.heap.size)
    (h : ∀ v' w', Own B w' v' (l ++ m) → w.grownBy w' v.ownBlock → (v'.ownBlock = v.ownBlock ∨ v'.ownBlock = some w.heap.size) → K (a.put o.dst v') w') : o.wp Try.prog a w K Q := by
  obtain ⟨v', w', hrun, h2, h3, h4⟩ := run_append_byt o.type hv hx hs hB
  unfold Oper.wp execOp
  simp only [ho, resolve, invoke, builtin, Sem.run_bind, Sem.run_pure, Result.andThen_ok, List.map_toArray, List.map_cons, List.map_nil, hes, hey, hrun]
  exact h v' w' h2 h3 h4

theorem wpList_append_byt {ops : Array Oper} {rest : List Oper} {o : Oper} {a : Act} {Q : Exit → Act → World → Prop} {w : World} (hgd : o.guard = none) (s y : Operand)
    (ho : o.op = .call { callee := .builtin .append, args := #[s, y], argTypes := #[22, 22] })
    {B : Nat} {v x : Value} {l m : List UInt8} (hes : a.eval s = v) (hey : a.eval y = x) (hv : Own B w v l) (hx : Byt w x m) (hs : l.length + m.length ≤ 140737488355328) (hB : B ≤ w.heap.size)
    (h : ∀ v' w', Own B w' v' (l ++ m) → w.grownBy w' v.ownBlock → (v'.ownBlock = v.ownBlock ∨ v'.ownBlock = some w.heap.size) → wpList Try.prog ops Q rest (a.put o.dst v') w') :
    wpList Try.prog ops Q (o :: rest) a w :=
  wpList_plain hgd fun _ hK => wp_append_byt s y ho hes hey hv hx hs hB fun v' w' h2 h3 h4 => hK _ _ (h v' w' h2 h3 h4)

theorem step_append_byt {ops : Array Oper} {o : Oper} {a : Act} {K : Act → World → Prop} {Q : Exit → Act → World → Prop} {E : Prop} {w : World} (hgd : o.guard = none) (s y : Operand)
    (ho : o.op = .call { callee := .builtin .append, args := #[s, y], argTypes := #[22, 22] })
    {B : Nat} {v x : Value} {l m : List UInt8} (hes : a.eval s = v) (hey : a.eval y = x) (hv : Own B w v l) (hx : Byt w x m) (hs : l.length + m.length ≤ 140737488355328) (hB : B ≤ w.heap.size)
    (h : ∀ v' w', Own B w' v' (l ++ m) → w.grownBy w' v.ownBlock → (v'.ownBlock = v.ownBlock ∨ v'.ownBlock = some w.heap.size) → K (a.put o.dst v') w') :
    if Region.wanted o (yielded ops a.tmps) = true then Oper.wp Try.prog o a w K Q else E := by
  have hw : Region.wanted o (yielded ops a.tmps) = true := by simp [Region.wanted, hgd]
  rw [if_pos hw]
  exact wp_append_byt s y ho hes hey hv hx hs hB h

/-- One byte in a block of its own, as 'append(out, x)' lays it. -/
theorem byt_one (w : World) (x : Int) (c : UInt8) (hx : x = (c.toNat : Int)) : Byt (w.alloc (.cells #[.int .u8 x] 5)) (.slice (some ⟨w.heap.size, 0, none⟩) 1 1) [c] := by
  subst hx
  refine ⟨_, 1, rfl, Nat.le_refl _, by unfold maxLen; omega, fun _ => ⟨w.heap.size, 0, rfl, by simp, fun j hj => ?_⟩⟩
  obtain rfl : j = 0 := by simpa using hj
  have := cell_one_new w (.int .u8 (c.toNat : Int)) 5 0 _ rfl
  rw [addr_add] at this
  exact this

theorem Own.alloc {w : World} {B : Nat} {v : Value} {l : List UInt8} (h : Own B w v l) (o : Obj) : Own B (w.alloc o) v l := World.ownsRow.alloc h o
theorem Own.drewN {w : World} {B : Nat} {v : Value} {l : List UInt8} (h : Own B w v l) (n : Nat) : Own B (w.drewN n) v l := h
theorem Own.grows {w w' : World} {B : Nat} {v v' : Value} {l : List UInt8} {w0 : World} (h : Own B w v l) (hb : Below B w0 w) (hB : B ≤ w.heap.size) (hg : w.grownBy w' v'.ownBlock) (hv : v'.ownBlock = v.ownBlock) : Below B w0 w' :=
  hb.grown hg hB fun k hk => (World.ownsRow.lt h k (by rw [← hv]; exact hk)).1
end Go.Proofs.Ytefngncieagobaa
