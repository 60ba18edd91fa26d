/-
  sha.Fill gives a text that is filled.
-/
import Derived.Test.YtgcagidkeacheaaDoorFill
namespace Go.Proofs.YtgcagidkeacheaaDoor
open Go.RowKit

theorem keep_new {w w' : World} {B N : Nat} {v v' : Value} {l : List UInt8} (h : Own B w v l) (h1 : ∀ k, v.ownBlock = some k → k < N) (hg : w.grownBy w' v'.ownBlock) (h2 : ∀ k, v'.ownBlock = some k → N ≤ k) : Own B w' v l :=
  h.keep fun b hb e => hg.block b hb (fun e2 => by
    have := h1 b e
    have := h2 b e2.symm
    omega)

set_option maxHeartbeats 1600000 in
theorem fill_any (v : Value) (l : List UInt8) (w : World) (hv : Byt w v l) (hs : l.length ≤ 1000000) :
    Calls Tryd.prog 12 #[v] w fun e w' => ∃ x, e = .returned x ∧ Own w.heap.size w' x (fillS l) ∧ Below w.heap.size w w' := by
  obtain ⟨i0, hi, hz0, hz1, hz2⟩ := info_parts info_u8
  obtain ⟨A, c, rfl⟩ := hv.shape
  obtain ⟨L, HL⟩ : ∃ L : Nat, Hid (l.length = L) := ⟨_, hid rfl⟩
  have hcc := hv.at_.2.1
  have hcm := hv.at_.2.2.1
  unfold maxLen at hcm
  rw [HL.out] at hs hv hcc ⊢
  have hnl := noughts_le L
  go_enter Tryd.func12, Tryd.ntmps12
  go_wp2_with fail
  refine (filling_any L _ (by omega)).mono ?_
  rintro e w1 ⟨v1, rfl, hown1, hb1⟩
  obtain ⟨A1, c1, rfl⟩ := hown1.byt.shape
  have hf1 := tailS_length L
  obtain ⟨M, HM⟩ : ∃ M : Nat, Hid ((tailS L).length = M) := ⟨_, hid rfl⟩
  have hM : M ≤ 100 := by have := HM.out; omega
  rw [HM.out] at hown1 ⊢
  clear hf1
  have hv1 := hv.below hb1
  have hs1 := hb1.size
  have hb2 : i0.bytes * (L + M) ≤ 281474976710656 := by rw [hz2]; omega
  have hb3 : L + M ≤ maxLen := by unfold maxLen; omega
  go_wp2_with (at_make; refine wpList_make_own _ rfl _ _ 22 rfl w1.heap.size 5 i0 (.int .u8 0) 1 under_bytes hi hz0 hz1 _ _ _ (L + M) rfl rfl (by simp) hb2 hb3 (Nat.le_refl _) ?_)
  intro w2 hown2 hgrow2
  have hb2' : Below w.heap.size w w2 := hb1.grown hgrow2 hs1 (fun k h => by cases h)
  have hv2 : Own w1.heap.size w2 (.slice (some ⟨w1.heap.size, 0, none⟩) 0 (L + M)) [] := hown2
  have hs2 := hgrow2.size
  have hx1 : Byt w2 (.slice A L c) l := hv1.keep hs2 fun b hb _ => hgrow2.block b hb (by simp)
  have hx2 : Own w.heap.size w2 (.slice A1 M c1) (tailS L) := hown1.keep fun b hb _ => hgrow2.block b hb (by simp)
  clear hown2 hgrow2 hz0 hz1 hz2 hi hb2 hb3
  have hn2 : ∀ k, (Value.slice (some ⟨w1.heap.size, 0, none⟩) 0 (L + M)).ownBlock = some k → w1.heap.size ≤ k := fun k hk => by
    simp [Value.ownBlock] at hk
    omega
  have hn1 : ∀ k, (Value.slice A1 M c1).ownBlock = some k → k < w1.heap.size := fun k hk => (World.ownsRow.lt hown1 k hk).2
  have hr1 : ([] : List UInt8).length + l.length ≤ 140737488355328 := by rw [HL.out]; simp; omega
  have hr2 : ([] ++ l : List UInt8).length + (tailS L).length ≤ 140737488355328 := by rw [HM.out, List.nil_append, HL.out]; omega
  clear hown1 hv1 hb1 hv
  go_wp2_with (first
    | (at_builtin; refine wpList_append_byt rfl (.tmp 15) (.tmp 16) rfl rfl rfl hv2 hx1 hr1 hs2 ?_; intro v3 w3 hown3 hg3 hv3; have hx3 := keep_new hx2 hn1 hg3 hn2; have hs3 := hg3.size; have hs4 := Nat.le_trans hs2 hs3)
    | (at_builtin; refine wpList_append_byt rfl (.tmp 18) (.tmp 19) rfl rfl rfl hown3 hx3.byt hr2 hs4 ?_; intro v4 w4 hown4 hg4 hv4))
  go_ret
  have hb3' : Below w.heap.size w w3 := hb2'.grown hg3 (by omega) (fun k hk => by have := hn2 k hk; omega)
  refine ⟨_, rfl, ?_, hb3'.grown hg4 (by omega) (fun k hk => by have := (World.ownsRow.lt hown3 k hk).1; omega)⟩
  have e : fillS l = [] ++ l ++ tailS L := by rw [← HL.out]; rfl
  rw [e]
  exact hown4.more hs1
end Go.Proofs.YtgcagidkeacheaaDoor
