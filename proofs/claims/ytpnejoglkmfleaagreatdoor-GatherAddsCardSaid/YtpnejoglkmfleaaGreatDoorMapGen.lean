/-
  Maps whose keys are structs or arrays, entry by entry: look-up, store of a new key, delete and len as equations.
-/
import Derived.MapKept
import Derived.Test.YtpnejoglkmfleaaGreatDoorBsX
namespace Go.Proofs.YtpnejoglkmfleaaGreatDoor
set_option maxRecDepth 20000
open Go.RowKit
def findQ (q : Value → Bool) : List MapEntry → Nat → Option (Nat × Value)
  | [], _ => none
  | e :: es, i => if q e.key = true then some (i, e.val) else findQ q es (i + 1)
section
variable {P : Program} {MT KT ET : TypeId} {kind : TypeDesc} {k z v : Value} {q : Value → Bool} {r clock : Nat} {w : World} {es : Array MapEntry}
theorem run_findAsking : ∀ (es : List MapEntry) (i : Nat) (w : World), (∀ e ∈ es, ∀ W, (Op.equal KT k e.key).run P W = .ok (q e.key) W) → (Instr.findAsking KT k es i).run P w = .ok (findQ q es i) w
  | [], i, w, _ => by simp [Instr.findAsking, findQ]
  | e :: es, i, w, h => by
    have h0 := h e (by simp) w
    unfold Instr.findAsking findQ
    simp only [Sem.run_bind, h0, Result.andThen_ok]
    by_cases hq : q e.key = true
    · simp [hq]
    · rw [if_neg hq, if_neg hq]
      exact run_findAsking es (i + 1) w (fun e he => h e (List.mem_cons_of_mem _ he))
theorem run_findKey (hu : P.underlying KT = some kind) (hn : ∀ u, Instr.sameNow kind k u = none) (l : List MapEntry) (w : World) (h : ∀ e ∈ l, ∀ W, (Op.equal KT k e.key).run P W = .ok (q e.key) W) : (Instr.findKey KT k l).run P w = .ok (findQ q l 0) w := by
  unfold Instr.findKey
  simp only [Sem.run_bind, run_underlying hu, Result.andThen_ok]
  cases l with
  | nil => simp [Instr.findNow, findQ]
  | cons e l =>
    have : Instr.findNow kind k (e :: l) 0 = none := by
      unfold Instr.findNow
      rw [hn]
    rw [this]
    exact run_findAsking (e :: l) 0 w h
theorem run_lookup_q (hm : P.underlying MT = some (.map KT ET)) (hu : P.underlying KT = some kind) (hn : ∀ u, Instr.sameNow kind k u = none) (hck : ∀ b W, (Instr.checkKey b 10000 KT k).run P W = .ok () W) (hz : ∀ W, (zeroValue ET).run P W = .ok z W)
    (hr : w.heap[r]? = some (.map es clock)) (h : ∀ e ∈ es.toList, ∀ W, (Op.equal KT k e.key).run P W = .ok (q e.key) W) :
    (Instr.lookup MT (.map (some r)) k true).run P w = .ok (match findQ q es.toList 0 with | some (_, v) => .tuple #[v, .bool true] | none => .tuple #[z, .bool false]) w := by
  unfold Instr.lookup
  simp only [Sem.run_bind, run_underlying hm, Result.andThen_ok, Go.MapKept.run_getObj_map hr, Sem.run_pure, hck]
  rw [run_findKey hu hn es.toList w h]
  cases findQ q es.toList 0 with
  | none => simp [hz]
  | some p => simp
theorem run_mapUpdate_q (hm : P.underlying MT = some (.map KT ET)) (hu : P.underlying KT = some kind) (hn : ∀ u, Instr.sameNow kind k u = none) (hck : ∀ b W, (Instr.checkKey b 10000 KT k).run P W = .ok () W)
    (hr : w.heap[r]? = some (.map es clock)) (h : ∀ e ∈ es.toList, ∀ W, (Op.equal KT k e.key).run P W = .ok (q e.key) W) (h0 : findQ q es.toList 0 = none) :
    (Instr.mapUpdate MT (.map (some r)) k v).run P w = .ok () { w with heap := w.heap.setIfInBounds r (.map (es.push { key := k, val := v, born := clock }) (clock + 1)) } := by
  unfold Instr.mapUpdate
  simp only [Sem.run_bind, run_underlying hm, Result.andThen_ok, Go.MapKept.run_getObj_map hr, hck, run_findKey hu hn es.toList w h, h0]
  exact Go.MapKept.run_setObj_map _ hr
theorem run_delete_q (hm : P.underlying MT = some (.map KT ET)) (hu : P.underlying KT = some kind) (hn : ∀ u, Instr.sameNow kind k u = none) (hck : ∀ b W, (Instr.checkKey b 10000 KT k).run P W = .ok () W) (A : Array TypeId) (hA : A[0]? = some MT) (T : TypeId)
    (hr : w.heap[r]? = some (.map es clock)) (h : ∀ e ∈ es.toList, ∀ W, (Op.equal KT k e.key).run P W = .ok (q e.key) W) :
    (Builtin.delete_ A T #[.map (some r), k]).run P w = .ok (.tuple #[]) { w with heap := w.heap.setIfInBounds r (match findQ q es.toList 0 with | some (i, _) => .map (es.eraseIdxIfInBounds i) clock | none => .map es clock) } := by
  unfold Builtin.delete_
  simp only [hA, List.getElem?_toArray, List.getElem?_cons_zero, List.getElem?_cons_succ, Sem.run_bind, run_underlying hm, Result.andThen_ok, Go.MapKept.run_getObj_map hr, hck, run_findKey hu hn es.toList w h]
  cases findQ q es.toList 0 with
  | none => simp [Go.MapKept.run_setObj_map _ hr]
  | some p => simp [Go.MapKept.run_setObj_map _ hr]
end
theorem findQ_none {q : Value → Bool} : ∀ {l : List MapEntry} {i : Nat}, findQ q l i = none ↔ ∀ e ∈ l, q e.key = false
  | [], _ => by simp [findQ]
  | e :: l, i => by
    unfold findQ
    by_cases h : q e.key = true
    · rw [if_pos h]
      simp [h]
    · rw [if_neg h, findQ_none]
      simp [h]
theorem findQ_some {q : Value → Bool} : ∀ {l : List MapEntry} {i j : Nat} {v : Value}, findQ q l i = some (j, v) → ∃ n, j = i + n ∧ ∃ h : n < l.length, q l[n].key = true ∧ l[n].val = v
  | [], _, _, _, h => by simp [findQ] at h
  | e :: l, i, j, v, h => by
    unfold findQ at h
    split at h
    · rename_i hq
      injection h with h
      injection h with h1 h2
      exact ⟨0, by omega, by simp, hq, h2⟩
    · obtain ⟨n, h1, h2, h3, h4⟩ := findQ_some h
      exact ⟨n + 1, by omega, by simpa using h2, h3, h4⟩
end Go.Proofs.YtpnejoglkmfleaaGreatDoor
