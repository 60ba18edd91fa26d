/-
  The law's small example of a quorum and a tag returns true.
-/
import Derived.Test.YtakigopjbbhjkaaDoorKParts
import Derived.Test.YtakigopjbbhjkaaDoorKeySums
namespace Go.Proofs.YtakigopjbbhjkaaDoor
open Go.RowKit

theorem tag2_is : tagF 2 7 [1, 2] = macS key2H tagText := by
  have h1 : nodeB 2 = true := by decide
  rw [tagF_yes h1, keyF_yes h1]
  have h2 : hl 32 (sumS (keyText 2)) = key2H := key2_sum
  rw [h2]
  rfl
theorem tag2_not : sameB (tagF 2 7 [1, 2]) (fun _ => 0) = false := by
  rw [tag2_is]
  exact decide_eq_false tag2_some
theorem check2_is : checkB 2 7 (tagF 2 7 [1, 2]) [1, 2] = true := by
  unfold checkB
  rw [sameB_self]
  rfl

/-- The worlds of the example's calls. -/
def tagW (w : World) : World := ((w.alloc (.cells #[.int .u8 1] 5)).alloc (.cells #[.int .u8 2] 5)).alloc (.cells #[.slice (some ⟨w.heap.size, 0, none⟩) 1 1, .slice (some ⟨w.heap.size + 1, 0, none⟩) 1 1] 26)
theorem tag_world (w : World) : Below w.heap.size w (tagW w) ∧ w.heap.size + 1 + 1 < (tagW w).heap.size ∧ Byt (tagW w) (.slice (some ⟨w.heap.size, 0, none⟩) 1 1) [1] ∧ Byt (tagW w) (.slice (some ⟨w.heap.size + 1, 0, none⟩) 1 1) [2]
    ∧ (tagW w).cell? ⟨w.heap.size + 1 + 1, 0, none⟩ = some (.slice (some ⟨w.heap.size, 0, none⟩) 1 1) ∧ (tagW w).cell? ⟨w.heap.size + 1 + 1, 1, none⟩ = some (.slice (some ⟨w.heap.size + 1, 0, none⟩) 1 1) := by
  unfold tagW
  refine ⟨?_, by simp, ?_, ?_, ?_, ?_⟩
  · exact (((Below.refl _ _).alloc (Nat.le_refl _) _).alloc (by simp) _).alloc (by simp; omega) _
  · refine byt_row (l := [1]) (m := (0, 0)) (T := 5) ?_ (by show 1 ≤ maxLen; unfold maxLen; omega)
    rw [Below.heap_alloc _ _ _ (by simp; omega), heap1]
    rfl
  · refine byt_row (l := [2]) (m := (0, 0)) (T := 5) ?_ (by show 1 ≤ maxLen; unfold maxLen; omega)
    rw [Below.heap_alloc _ _ _ (by simp), heap2]
    rfl
  all_goals
    rw [cell_of_row _ _ _ _ _ (0, 0) (show (_ : World).heap[w.heap.size + 1 + 1]? = some (.cells #[.slice (some ⟨w.heap.size, 0, none⟩) 1 1, .slice (some ⟨w.heap.size + 1, 0, none⟩) 1 1] 26) from by simpa using heap_alloc_new ((w.alloc (.cells #[.int .u8 1] 5)).alloc (.cells #[.int .u8 2] 5)) (.cells #[.slice (some ⟨w.heap.size, 0, none⟩) 1 1, .slice (some ⟨w.heap.size + 1, 0, none⟩) 1 1] 26))]
    rfl
def chkW (w : World) : World := (w.alloc (.cells #[.int .u8 1, .int .u8 2] 5)).alloc (.cells #[.slice (some ⟨w.heap.size, 0, none⟩) 2 2] 26)
theorem chk_world (w : World) : Below w.heap.size w (chkW w) ∧ w.heap.size + 1 < (chkW w).heap.size ∧ Byt (chkW w) (.slice (some ⟨w.heap.size, 0, none⟩) 2 2) [1, 2] ∧ (chkW w).cell? ⟨w.heap.size + 1, 0, none⟩ = some (.slice (some ⟨w.heap.size, 0, none⟩) 2 2) := by
  unfold chkW
  refine ⟨((Below.refl _ _).alloc (Nat.le_refl _) _).alloc (by simp) _, by simp, ?_, ?_⟩
  · refine byt_row (l := [1, 2]) (m := (0, 0)) (T := 5) ?_ (by show 2 ≤ maxLen; unfold maxLen; omega)
    rw [heap1]
    rfl
  · rw [cell_of_row _ _ _ _ _ (0, 0) (heap2 w _ _)]
    rfl

attribute [local go_sem ↓] exec_load_hide

set_option maxHeartbeats 1600000 in
theorem keysAwake_any (w : World) (hK : Kst 1 w) : Calls Tryd.prog 5 #[] w fun e w' => e = .returned (.bool true) ∧ Below w.heap.size w w' := by
  obtain ⟨T, HTT⟩ : ∃ T : TypeId, Hid (T = 23) := ⟨_, hid rfl⟩
  have hL := tyHide_load HTT.out
  go_enter Tryd.func5, Tryd.ntmps5
  simp only [hL]
  clear hL
  go_wp2_with fail
  obtain ⟨hb1, hz1, ba, bb, c0, c1⟩ := tag_world w
  change Calls _ _ _ (tagW w) _
  generalize tagW w = w1 at *
  refine (tag_two 2 7 _ _ [1] [2] (w.heap.size + 1 + 1) 2 w1 hz1 c0 c1 ba bb (l := [1, 2]) rfl (by decide) (hK.below hb1)).mono ?_
  rintro e w2 ⟨rfl, hb2⟩
  have hb2' := hb1.trans (hb2.mono hb1.size)
  clear hb1 hz1 ba bb c0 c1 hb2
  have N1 := tag2_not
  have N2 := check2_is
  obtain ⟨τ, HT⟩ : ∃ t : Nat → UInt8, Hid (tagF 2 7 [1, 2] = t) := ⟨_, hid rfl⟩
  rw [HT.out] at N1 N2 ⊢
  have HN2 := hid N2
  have hne0 : ∀ w', (Op.equalIn 10000 23 (.agg (fcells 32 fun j => bcell (τ j))) (.agg (fcells 32 fun _ => bcell 0))).run Tryd.prog w' = .ok false w' := fun w' => by
    have := hash_eq τ (fun _ => 0) w'
    rw [N1] at this
    exact this
  have CQ : ∀ w', Calls Tryd.prog 12 #[.int .i64 5] w' fun e w'' => e = .returned (.int .i64 3) ∧ w' = w'' := fun w' => quorum_any 5 w' rfl
  have HCQ := hid CQ
  clear N1 N2 CQ
  obtain ⟨D, HD⟩ : ∃ D : Array Value, Hid (fcells 32 (fun j => bcell (τ j)) = D) := ⟨_, hid rfl⟩
  have hne : ∀ w', (Op.equalIn 10000 23 (.agg D) (.agg #[.int .u8 0, .int .u8 0, .int .u8 0, .int .u8 0, .int .u8 0, .int .u8 0, .int .u8 0, .int .u8 0, .int .u8 0, .int .u8 0, .int .u8 0, .int .u8 0, .int .u8 0, .int .u8 0, .int .u8 0, .int .u8 0, .int .u8 0, .int .u8 0, .int .u8 0, .int .u8 0, .int .u8 0, .int .u8 0, .int .u8 0, .int .u8 0, .int .u8 0, .int .u8 0, .int .u8 0, .int .u8 0, .int .u8 0, .int .u8 0, .int .u8 0, .int .u8 0])).run Tryd.prog w' = .ok false w' := fun w' => by
    rw [← HD.out]
    exact hne0 w'
  clear hne0
  have hlT : ∀ w' : World, Blk w' w2.heap.size 32 (fun j => bcell (τ j)) 23 → loadA (tyHide T 23) (.pointer (some ⟨w2.heap.size, 0, none⟩)) w' = .ok (.value (.agg D)) w' := fun w' h => by
    rw [← HD.out]
    exact loadA_hide (o := 0) HTT.out arrH h (by omega) (fun j _ => by rw [Nat.zero_add])
  go_wp2_with (first
    | (refine wpList_alloc_arr arrH rfl rfl ?_)
    | (refine wpList_store_arr arrH rfl (.tmp 1) (.tmp 5) rfl rfl rfl (Blk.new w2 32 (fun _ => bcell 0) 23) (fun _ _ => rfl) ?_; intro w3 hg3 hT3 hs3; have hb3 := (hb2'.alloc hb2'.size (.cells (fcells 32 fun _ => bcell 0) 23)).grown hg3 (by have := hb2'.size; simp; omega) (fun k hk => by injection hk; have := hb2'.size; omega); clear hg3 hs3; have hl3 := hlT w3 hT3)
    | (go_at_call 12; refine (HCQ.out _).mono ?_; rintro e w4 ⟨rfl, rfl⟩))
  obtain ⟨hbc, hzc, bc, cc⟩ := chk_world w3
  change Calls _ _ _ (chkW w3) _
  generalize chkW w3 = w4 at *
  have hb4 := hb3.trans (hbc.mono hb3.size)
  have CC := check_one 2 7 τ _ [1, 2] (w3.heap.size + 1) 1 w4 hzc cc bc (by decide) (hK.below hb4)
  rw [HN2.out, HD.out] at CC
  refine CC.mono ?_
  clear CC
  rintro e w5 ⟨rfl, hb5⟩
  have hT5 := (hT3.keep hbc).keep hb5
  have hb5' := hb4.trans (hb5.mono hb4.size)
  have hl5 := hlT w5 hT5
  clear hT3 hl3 hbc hzc bc cc hb3 hb4 hb5 hlT
  go_wp2_with fail
  go_ret
  exact ⟨rfl, hb5'⟩
end Go.Proofs.YtakigopjbbhjkaaDoor
