/-
  att.Alike: whether all but who, and the tag, is the same.
-/
import Derived.Test.YtmhchihcgliinaaDoorAtOk
import Derived.Test.YtmhchihcgliinaaDoorBs6
namespace Go.Proofs.YtmhchihcgliinaaDoor
set_option maxRecDepth 20000
open Go.RowKit
/-- '==' of whole attestations: kept whole. -/
noncomputable def eqAtt (u v : Value) (w : World) : Result Next := Sem.run Tryd.prog (execOp (fun x => match x with
  | .tmp 0 => u
  | _ => v) { dst := none, op := .binOp .eql 25 (.tmp 0) (.tmp 1) 25, type := 0, pos := "", after := #[], guard := none }) w
theorem exec_eq_att (r : Operand → Value) (i j : Tmp) (dst : Option Tmp) (ty : TypeId) (pos : String) (after : Array Edge) (guard : Option (Nat × Bool)) (w : World) :
    Sem.run Tryd.prog (execOp r { dst := dst, op := .binOp .eql 25 (.tmp i) (.tmp j) 25, type := ty, pos := pos, after := after, guard := guard }) w = eqAtt (r (.tmp i)) (r (.tmp j)) w := rfl
theorem eqAtt_eq {C D : Array Value} {q : Bool} (heq : ∀ W, (Op.equalIn 10000 25 (.agg C) (.agg D)).run Tryd.prog W = .ok q W) (w : World) : eqAtt (.agg C) (.agg D) w = .ok (.value (.bool q)) w := by
  unfold eqAtt
  go_simp
attribute [local go_sem ↓] exec_load_att exec_load_hash exec_eq_att

set_option maxHeartbeats 3200000 in
theorem atAlike_ok : AtAlikeOk := by
  intro a b w ho hp
  obtain ⟨a1, HA1⟩ : ∃ x : AtM, Hid ({ a with bo := b.bo } = x) := ⟨_, hid rfl⟩
  obtain ⟨x, HXX⟩ : ∃ x : AtM, Hid ({ a1 with tg := b.tg } = x) := ⟨_, hid rfl⟩
  have ho1 : a1.Ok := by rw [← HA1.out]; exact ⟨ho.ha, ho.pa, ho.tg⟩
  have hox : x.Ok := by rw [← HXX.out]; exact ⟨ho1.ha, ho1.pa, hp.tg⟩
  obtain ⟨q, HQ⟩ : ∃ q : Bool, Hid (decide (x = b) = q) := ⟨_, hid rfl⟩
  have HR : Hid (alikeA a b = q) := hid (by
    rw [← HQ.out, ← HXX.out, ← HA1.out, Bool.eq_iff_iff, alikeA_iff, decide_eq_true_eq]
    obtain ⟨p1, p2, p3, p4, p5, p6, p7, p8⟩ := a
    obtain ⟨q1, q2, q3, q4, q5, q6, q7, q8⟩ := b
    simp)
  have HEQ : Hid (∀ W, (Op.equalIn 10000 25 (.agg (atc x)) (.agg (atc b))).run Tryd.prog W = .ok q W) := hid (fun W => by
    have := eq_att x b hox hp W
    rw [HQ.out] at this
    exact this)
  have hb0 : Below w.heap.size w ((w.alloc (.cells (atc a) 25)).alloc (.cells (atc b) 25)) := ((Below.refl _ _).alloc (Nat.le_refl _) _).alloc (by simp) _
  have hA : BoxA ((w.alloc (.cells (atc a) 25)).alloc (.cells (atc b) 25)) w.heap.size a := (Below.heap_alloc _ _ _ (by simp)).trans (heap_alloc_new w _)
  have hB : BoxA ((w.alloc (.cells (atc a) 25)).alloc (.cells (atc b) 25)) (w.heap.size + 1) b := by
    have := BoxA.new (w.alloc (.cells (atc a) 25)) b
    rwa [show (w.alloc (.cells (atc a) 25)).heap.size = w.heap.size + 1 from by simp] at this
  have HTB : Hid (∀ W : World, BoxA W (w.heap.size + 1) b → W.cell? ⟨w.heap.size + 1, 0, none⟩ = some (.int .i64 b.bo) ∧ loadH (.pointer (some ⟨w.heap.size + 1, 69, none⟩)) W = .ok (.value (.agg (hcells b.tg))) W) := hid (fun W h => ⟨h.cells.1, loadH_mid (h.tag hp) hp.tg⟩)
  have HBC : Hid (∀ W : World, BoxA W (w.heap.size + 1) b → loadAtt (.pointer (some ⟨w.heap.size + 1, 0, none⟩)) W = .ok (.value (.agg (atc b))) W) := hid (fun W h => loadAtt_eq h hp)
  have HXC : Hid (∀ W : World, BoxA W w.heap.size x → loadAtt (.pointer (some ⟨w.heap.size, 0, none⟩)) W = .ok (.value (.agg (atc x))) W) := hid (fun W h => loadAtt_eq h hox)
  obtain ⟨C, HC⟩ : ∃ C : Array Value, Hid (atc a = C) := ⟨_, hid rfl⟩
  obtain ⟨D, HD⟩ : ∃ C : Array Value, Hid (atc b = C) := ⟨_, hid rfl⟩
  obtain ⟨X, HX⟩ : ∃ C : Array Value, Hid (atc x = C) := ⟨_, hid rfl⟩
  obtain ⟨T, HT⟩ : ∃ C : Array Value, Hid (hcells b.tg = C) := ⟨_, hid rfl⟩
  have HSB : Hid ((atc a).setIfInBounds 0 (.int .i64 b.bo) = atc a1) := hid (by rw [← HA1.out]; rfl)
  rw [HC.out, HD.out] at hb0 hA hB ⊢
  rw [HX.out, HD.out] at HEQ
  rw [HD.out] at HBC
  rw [HX.out] at HXC
  rw [HT.out] at HTB
  rw [HR.out]
  have HO1 := hid ho1
  have HTL : Hid (b.tg.length = 32) := hid hp.tg
  clear ho hp ho1 hox HR HQ
  go_enter Tryd.func15, Tryd.ntmps15
  go_upto_region 1 with (fail)
  generalize ((w.alloc (.cells C 25)).alloc (.cells D 25)) = w0 at *
  have hbd : Below w0.heap.size w0 w0.drew := (Below.refl _ _).drew
  have HB0 := hid hb0
  have HA := hid hA
  have HB := hid hB
  clear hA hB hb0
  refine wp_region_held_drew (S := fun W => W.cell? ⟨w.heap.size + 1, 0, none⟩ = some (.int .i64 b.bo) ∧ loadH (.pointer (some ⟨w.heap.size + 1, 69, none⟩)) W = .ok (.value (.agg T)) W) (by kernel_rfl) (HTB.out _ (HB.out.keep hbd)) (fun hHeld => ?_)
  refine' take_on (i := 0) (v := _) rfl (by kernel_rfl) (by kernel_rfl) (by kernel_rfl) (fun _ _ _ h => h) (by rfl) ?_ (by assumption) ?_
  rotate_left
  · (intro W hW; (try dsimp only at hW); go_simp; first | done | with_reducible rfl)
  try simp only [Act.put, List.setIfInBounds_toArray, List.set_cons_zero, List.set_cons_succ]
  refine' take_on (i := 1) (v := _) rfl (by kernel_rfl) (by kernel_rfl) (by kernel_rfl) (fun _ _ _ h => h) (by rfl) ?_ (by assumption) ?_
  rotate_left
  · (intro W hW; (try dsimp only at hW); obtain ⟨hW1, hW2⟩ := hW; go_simp; first | done | with_reducible rfl)
  try simp only [Act.put, List.setIfInBounds_toArray, List.set_cons_zero, List.set_cons_succ]
  refine' take_on (i := 2) (v := _) rfl (by kernel_rfl) (by kernel_rfl) (by kernel_rfl) (fun _ _ _ h => h) (by rfl) ?_ (by assumption) ?_
  rotate_left
  · (intro W hW; (try dsimp only at hW); go_simp; first | done | with_reducible rfl)
  try simp only [Act.put, List.setIfInBounds_toArray, List.set_cons_zero, List.set_cons_succ]
  refine' take_on (i := 3) (v := _) rfl (by kernel_rfl) (by kernel_rfl) (by kernel_rfl) (fun _ _ _ h => h) (by rfl) (fun W hW => hW.2) (by assumption) ?_
  try simp only [Act.put, List.setIfInBounds_toArray, List.set_cons_zero, List.set_cons_succ]
  refine' take_on (i := 4) (v := _) rfl (by kernel_rfl) (by kernel_rfl) (by kernel_rfl) (fun _ _ _ h => h) (by rfl) ?_ (by assumption) ?_
  rotate_left
  · (intro W hW; (try dsimp only at hW); go_simp; first | done | with_reducible rfl)
  try simp only [Act.put, List.setIfInBounds_toArray, List.set_cons_zero, List.set_cons_succ]
  have k1 := HA.out.free 0
  have k2 := HA.out.cells.1
  have hA2 : BoxA ((w0.setCell ⟨w.heap.size, 0, none⟩ (.int .i64 b.bo)).drew) w.heap.size a1 := by
    have := set_blk HA.out 0 (.int .i64 b.bo)
    rw [HSB.out] at this
    exact this
  have hB2 : BoxA ((w0.setCell ⟨w.heap.size, 0, none⟩ (.int .i64 b.bo)).drew) (w.heap.size + 1) b := blk_other HB.out _ (by omega)
  have hb2 : Below w.heap.size w ((w0.setCell ⟨w.heap.size, 0, none⟩ (.int .i64 b.bo)).drew) := (HB0.out.setCell (Nat.le_refl _) _).drew
  refine call_on (i := 5) rfl (by kernel_rfl) (by rfl) (fun K hK => ?_)
  go_simp
  refine hK.out _ _ (HTB.out _ hB2) (fun hHeld => ?_)
  clear hK K
  try simp only [Act.put, List.setIfInBounds_toArray, List.set_cons_zero, List.set_cons_succ]
  clear k1 k2
  generalize ((w0.setCell ⟨w.heap.size, 0, none⟩ (.int .i64 b.bo)).drew) = w2 at *
  refine' take_on (i := 6) (v := _) rfl (by kernel_rfl) (by kernel_rfl) (by kernel_rfl) (fun _ _ _ h => h) (by rfl) ?_ (by assumption) ?_
  rotate_left
  · (intro W hW; (try dsimp only at hW); go_simp; first | done | with_reducible rfl)
  try simp only [Act.put, List.setIfInBounds_toArray, List.set_cons_zero, List.set_cons_succ]
  refine call_on (i := 7) rfl (by kernel_rfl) (by rfl) (fun K hK => ?_)
  refine wp_store_tag _ _ rfl rfl (by rw [HT.out]; rfl) hA2 HO1.out HTL.out ?_
  intro w3 hg3 hA3 hs3
  rw [HXX.out] at hA3
  have hB3 : BoxA w3 (w.heap.size + 1) b := (hg3.block _ hB2.lt (fun e => by injection e with e; omega)).trans hB2
  have hb3 : Below w.heap.size w w3 := below_into hb2 (Nat.le_refl _) hg3 hb2.size
  refine hK.out _ _ (HTB.out _ hB3) (fun hHeld => ?_)
  clear hK K
  try simp only [Act.put]
  refine wpAnyH_done (by kernel_rfl) ?_ _
  have l1 := HXC.out w3 hA3
  have l2 := HBC.out w3 hB3
  have e3 := eqAtt_eq HEQ.out w3
  go_wp2_with fail
  go_ret
  exact ⟨rfl, hb3⟩
end Go.Proofs.YtmhchihcgliinaaDoor
