/-
  The document's answer for a new vault, and for a step: tithingref14.New, tithingref14.step.
-/
import Derived.Test.YtghophbabbaleaaGreatDoorVaRvWords
namespace Go.Proofs.YtghophbabbaleaaGreatDoor
set_option maxRecDepth 20000
open Go.RowKit
attribute [local go_sem ↓] exec_load_rv exec_alloc_rv exec_store_rv
theorem refNew14_any (i n : Int) (w : World) : Calls Tryz.prog 9 #[.int .i64 i, .int .i64 n] w fun e w' => e = .returned (.agg (rvc (newV i n) (.slice none 0 0) (.slice none 0 0) (.slice none 0 0) 0)) ∧ Below w.heap.size w w' := by
  have hal := allocRv_eq w
  have hst := rv_var w (Z := rvZ) (S := rvc (newV i n) (.slice none 0 0) (.slice none 0 0) (.slice none 0 0) 0) rfl rfl (rvc_one ..)
  have HR := hid (heap_alloc_new w (.cells (rvc (newV i n) (.slice none 0 0) (.slice none 0 0) (.slice none 0 0) 0) 32))
  have HB := hid ((Below.refl w.heap.size w).alloc (Nat.le_refl _) (.cells (rvc (newV i n) (.slice none 0 0) (.slice none 0 0) (.slice none 0 0) 0) 32))
  unfold rvc newV at hst
  simp only at hst
  go_enter Tryz.func9, Tryz.ntmps9
  go_wp2_with fail
  try simp only [Exit.inBlock, Exit.then]
  refine bodyPost_ret (results_rv1 rfl _ _ _ _ _ rfl HR.out rfl) rfl ⟨rfl, HB.out⟩
set_option maxHeartbeats 1600000 in
theorem refStep14_any (V : VaM) (v0 v1 vh : Value) (wh : Int) (w : World) (hl : -1 ≤ V.left) (hm : V.left ≤ 9223372036854775807) (ho : ∀ V', (rvc V' v0 v1 vh wh).all (·.oneCell') = true) :
    Calls Tryz.prog 51 #[.agg (rvc V v0 v1 vh wh)] w fun e w' => e = .returned (.tuple #[.agg (rvc (stepV V) v0 v1 vh wh), .bool (stepB V)]) ∧ Below w.heap.size w w' := by
  have hr0 : BoxRv (w.alloc (.cells (rvc V v0 v1 vh wh) 32)) w.heap.size V v0 v1 vh wh := heap_alloc_new w _
  have hb0 : Below w.heap.size w (w.alloc (.cells (rvc V v0 v1 vh wh) 32)) := (Below.refl _ _).alloc (Nat.le_refl _) _
  obtain ⟨D, HD⟩ : ∃ C : Array Value, Hid (rvc V v0 v1 vh wh = C) := ⟨_, hid rfl⟩
  obtain ⟨D2, HD2⟩ : ∃ C : Array Value, Hid (rvc (stepV V) v0 v1 vh wh = C) := ⟨_, hid rfl⟩
  have hal := allocRv_eq (w.alloc (.cells D 32))
  rw [HD.out] at hr0 hb0 ⊢
  rw [HD2.out]
  have hb1 : Below w.heap.size w ((w.alloc (.cells D 32)).alloc (.cells rvZ 32)) := hb0.alloc hb0.size _
  have HR0 := hid (hr0.below ((Below.refl _ _).alloc (Nat.le_refl _) (.cells rvZ 32)))
  have HR1 := hid (heap_alloc_new (w.alloc (.cells D 32)) (.cells rvZ 32))
  have HB1 := hid hb1
  have hsz : (w.alloc (.cells D 32)).heap.size = w.heap.size + 1 := by simp
  rw [hsz] at HR1 hal
  have HSV : Hid (stepV V = if V.left = 0 then { V with dead := true } else if V.left < 0 then V else { V with left := V.left - 1 }) := hid rfl
  have HSB : Hid (stepB V = !decide (V.left = 0)) := hid rfl
  obtain ⟨sb, HS⟩ : ∃ q : Bool, Hid (stepB V = q) := ⟨_, hid rfl⟩
  rw [HS.out] at HSB ⊢
  clear hr0 hb0 hb1 hsz
  go_enter Tryz.func51, Tryz.ntmps51
  go_upto_region 1 with (fail)
  clear hal
  generalize ((w.alloc (.cells D 32)).alloc (.cells rvZ 32)) = w1 at *
  have HFR := hid (HR0.out.free 5)
  have HF4 := hid (HR0.out.free 4)
  obtain ⟨_, _, _, _, h4, h5, _, _⟩ := HR0.out.cells
  by_cases e0 : V.left = 0
  · obtain rfl : sb = false := by rw [HSB.out, decide_eq_true e0]; rfl
    have HR2 := hid (HR0.out.set (i := 5) (u := .bool true) (V' := { V with dead := true }) (u0 := v0) (u1 := v1) (uh := vh) (k := wh) rfl)
    have hld := HR2.out.ld
    obtain ⟨h1, h2, h3⟩ := rv_end (C := rvc { V with dead := true } v0 v1 vh wh) (HB1.out.setCell (p := ⟨w.heap.size, 5, none⟩) (Nat.le_refl _) (.bool true)) ((Below.heap_setCell _ ⟨w.heap.size, 5, none⟩ _ (w.heap.size + 1) (by show w.heap.size + 1 ≠ w.heap.size; omega)).trans HR1.out) (Nat.le_succ _) rfl rfl (ho _)
    have H2 := hid h2
    have H3 := hid h3
    have f5 := HFR.out
    clear h2 h3
    obtain ⟨D3, HD3⟩ : ∃ C : Array Value, Hid (rvc { V with dead := true } v0 v1 vh wh = C) := ⟨_, hid rfl⟩
    have HZ3 : Hid (D3.size = 8) := hid (by rw [← HD3.out]; rfl)
    obtain rfl : D2 = D3 := by rw [← HD2.out, ← HD3.out, HSV.out, if_pos e0]
    rw [HD3.out] at hld h1 H2 H3
    rw [e0] at h4
    clear e0
    go_wp2_with fail
    try simp only [Exit.inBlock, Exit.then]
    refine bodyPost_ret (results_rv2 rfl _ _ _ _ _ _ rfl rfl H2.out HZ3.out) rfl ⟨rfl, H3.out⟩
  · obtain rfl : sb = true := by rw [HSB.out, decide_eq_false e0]; rfl
    by_cases e1 : V.left < 0
    · have hld := HR0.out.ld
      obtain rfl : D = D2 := by rw [← HD2.out, ← HD.out, HSV.out, if_neg e0, if_pos e1]
      obtain ⟨h1, h2, h3⟩ := rv_end (C := rvc V v0 v1 vh wh) HB1.out HR1.out (Nat.le_succ _) rfl rfl (ho _)
      have H2 := hid h2
      have H3 := hid h3
      clear h2 h3
      rw [HD.out] at hld h1 H2 H3
      have HZ3 : Hid (D.size = 8) := hid (by rw [← HD.out]; rfl)
      have e2 : ¬ (0 : Int) < V.left := by omega
      clear hl hm
      go_wp2_with fail
      try simp only [Exit.inBlock, Exit.then]
      refine bodyPost_ret (results_rv2 rfl _ _ _ _ _ _ rfl rfl H2.out HZ3.out) rfl ⟨rfl, H3.out⟩
    · have HR2 := hid (HR0.out.set (i := 4) (u := .int .i64 (V.left - 1)) (V' := { V with left := V.left - 1 }) (u0 := v0) (u1 := v1) (uh := vh) (k := wh) rfl)
      have hld := HR2.out.ld
      obtain ⟨h1, h2, h3⟩ := rv_end (C := rvc { V with left := V.left - 1 } v0 v1 vh wh) (HB1.out.setCell (p := ⟨w.heap.size, 4, none⟩) (Nat.le_refl _) (.int .i64 (V.left - 1))) ((Below.heap_setCell _ ⟨w.heap.size, 4, none⟩ _ (w.heap.size + 1) (by show w.heap.size + 1 ≠ w.heap.size; omega)).trans HR1.out) (Nat.le_succ _) rfl rfl (ho _)
      have H2 := hid h2
      have H3 := hid h3
      have f4 := HF4.out
      clear h2 h3
      obtain ⟨D3, HD3⟩ : ∃ C : Array Value, Hid (rvc { V with left := V.left - 1 } v0 v1 vh wh = C) := ⟨_, hid rfl⟩
      have HZ3 : Hid (D3.size = 8) := hid (by rw [← HD3.out]; rfl)
      have hw : IntKind.i64.wrap (V.left - 1) = V.left - 1 := by rw [IntKind.wrap_i64]; omega
      obtain rfl : D2 = D3 := by rw [← HD2.out, ← HD3.out, HSV.out, if_neg e0, if_neg e1]
      rw [HD3.out] at hld h1 H2 H3
      have e2 : (0 : Int) < V.left := by omega
      clear hl hm e1
      generalize V.left = left at *
      go_wp2_with fail
      try simp only [Exit.inBlock, Exit.then]
      refine bodyPost_ret (results_rv2 rfl _ _ _ _ _ _ rfl rfl H2.out HZ3.out) rfl ⟨rfl, H3.out⟩
end Go.Proofs.YtghophbabbaleaaGreatDoor
