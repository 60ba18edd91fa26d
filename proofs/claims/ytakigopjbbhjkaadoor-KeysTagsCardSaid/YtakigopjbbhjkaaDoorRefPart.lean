/-
  tithingref04.Key gives a part's key.
-/
import Derived.Test.YtakigopjbbhjkaaDoorKey
import Derived.Test.YtakigopjbbhjkaaDoorRefOf
import Derived.ArgAppend
namespace Go.Proofs.YtakigopjbbhjkaaDoor
open Go.RowKit

theorem byt_cells {w : World} {a : Addr} {n c : Nat} {l : List UInt8} (h : Byt w (.slice (some a) n c) l) : ∀ j u, (bcells l)[j]? = some u → w.cell? (a.add j) = some u := fun j u hu => by
  obtain ⟨hj, rfl⟩ := bcells_get l j u hu
  obtain ⟨b, off, e, _, hc⟩ := h.at_.2.2.2 (by omega)
  injection e with e
  subst e
  rw [addr_add]
  exact hc j hj

/-- The world ahead of the append of a part's number. -/
def key2W (w : World) (n : Nat) : World := (w.alloc (.cells #[.int .u8 116, .int .u8 105, .int .u8 116, .int .u8 104, .int .u8 105, .int .u8 110, .int .u8 103, .int .u8 32, .int .u8 107, .int .u8 101, .int .u8 121, .int .u8 32] 5 (12, 13))).alloc (.cells #[.int .u8 (n : Int)] 5)
theorem key2_world (w : World) (n : Nat) (hn : n ≤ 21) : Below w.heap.size w (key2W w n) ∧ w.heap.size + 1 < (key2W w n).heap.size ∧ (∀ b, some (⟨w.heap.size, 0, none⟩ : Addr) = some b → ∀ j u, (bcells aheadL)[j]? = some u → (key2W w n).cell? (b.add j) = some u) ∧ ∀ j u, (bcells [UInt8.ofNat n])[j]? = some u → (key2W w n).cell? ((⟨w.heap.size + 1, 0, none⟩ : Addr).add j) = some u := by
  unfold key2W
  refine ⟨?_, by simp, ?_, ?_⟩
  · exact ((Below.refl _ _).alloc (Nat.le_refl _) _).alloc (by simp) _
  · intro b hb
    injection hb with hb
    subst hb
    refine byt_cells (n := 12) (c := 12) (byt_row (l := aheadL) (m := (12, 13)) (T := 5) ?_ (by decide))
    rw [heap1]
    rfl
  · refine byt_cells (n := 1) (c := 1) (byt_row (l := [UInt8.ofNat n]) (m := (0, 0)) (T := 5) ?_ (by show 1 ≤ maxLen; unfold maxLen; omega))
    rw [heap2]
    rw [ofNat_small hn]
    rfl

set_option maxHeartbeats 1600000 in
theorem refPart_any (i : Int) (w : World) (hK : Kst 0 w) : Calls Tryd.prog 9 #[.int .i64 i] w fun e w' => e = .returned (.agg (fcells 32 fun j => bcell (keyF i j))) ∧ Below w.heap.size w w' := by
  have hb0 : Below w.heap.size w (w.alloc (.cells (fcells 32 fun _ => bcell 0) 23)) := (Below.refl _ _).alloc (Nat.le_refl _) _
  have hR0 : Blk (w.alloc (.cells (fcells 32 fun _ => bcell 0) 23)) w.heap.size 32 (fun _ => bcell 0) 23 := Blk.new w _ _ _
  cases hn : nodeB i
  · rw [keyF_no hn]
    have hno : ¬ (1 ≤ i ∧ i ≤ 21) := by
      unfold nodeB at hn
      exact of_decide_eq_false hn
    clear hn
    by_cases h1 : i < 1
    · clear hno
      go_enter Tryd.func9, Tryd.ntmps9
      go_wp2_with (first
        | (refine wpList_alloc_arr arrH rfl rfl ?_)
        | (refine wpList_zero_arr arrH rfl rfl ?_)
        | (refine wpList_store_arr arrH rfl _ _ rfl rfl rfl hR0 (fun _ _ => rfl) ?_; intro w9 hg9 hA9 hs9))
      refine bodyPost_ret (arrH.result rfl _ _ rfl hA9) rfl ⟨rfl, ?_⟩
      exact below_into hb0 (g := w.heap.size) (by omega) hg9 hb0.size
    · have h2 : 21 < i := by omega
      clear hno
      go_enter Tryd.func9, Tryd.ntmps9
      go_wp2_with (first
        | (refine wpList_alloc_arr arrH rfl rfl ?_)
        | (refine wpList_zero_arr arrH rfl rfl ?_)
        | (refine wpList_store_arr arrH rfl _ _ rfl rfl rfl hR0 (fun _ _ => rfl) ?_; intro w9 hg9 hA9 hs9))
      refine bodyPost_ret (arrH.result rfl _ _ rfl hA9) rfl ⟨rfl, ?_⟩
      exact below_into hb0 (g := w.heap.size) (by omega) hg9 hb0.size
  · rw [keyF_yes hn]
    obtain ⟨n, rfl, h1, h2⟩ := node_nat hn
    have h1i : ¬ (n : Int) < 1 := by omega
    have h2i : ¬ 21 < (n : Int) := by omega
    clear hn
    have HB0 := hid hb0
    have HR0 := hid hR0
    clear hb0 hR0
    generalize hw0 : w.alloc (.cells (fcells 32 fun _ => bcell 0) 23) = w0 at *
    obtain ⟨hb1, hz1, co, cn⟩ := key2_world w0 n h2
    have HW1 : Hid (key2W w0 n = (w0.alloc (.cells #[.int .u8 116, .int .u8 105, .int .u8 116, .int .u8 104, .int .u8 105, .int .u8 110, .int .u8 103, .int .u8 32, .int .u8 107, .int .u8 101, .int .u8 121, .int .u8 32] 5 (12, 13))).alloc (.cells #[.int .u8 (n : Int)] 5)) := hid rfl
    have HB1 := hid hb1
    have HCO := hid co
    have HCN := hid cn
    clear hb1 hz1 co cn
    have HW0 := hid hw0
    clear hw0
    obtain ⟨i0, hi, hz0, hz1, hz2⟩ := info_parts info_u8
    have kc := conv1
    go_enter Tryd.func9, Tryd.ntmps9
    go_wp2_with (first
      | (refine wpList_alloc_arr arrH rfl rfl ?_; rw [HW0.out])
      | (at_builtin; refine wpList_append_grows (key2W w0 n) rfl (.tmp 11) (.tmp 14) 26 rfl 5 i0 (.int .u8 0) 1 1 under_bytes hi hz0 hz1 hz2 rfl (by decide) (some ⟨w0.heap.size, 0, none⟩) 12 12 (bcells aheadL) rfl (by simp) rfl HCO.out ⟨w0.heap.size + 1, 0, none⟩ 1 1 (bcells [UInt8.ofNat n]) rfl rfl HCN.out (bcells_one _) (by decide) (by unfold maxLen; omega) (by decide) ?_; intro v3 w3 hown3 hg3))
    have hown : Own (key2W w0 n).heap.size w3 v3 (aheadL ++ [UInt8.ofNat n]) := by
      unfold Own
      rw [bcells_append]
      exact hown3
    have hb3 : Below w.heap.size w w3 := (HB0.out.trans (HB1.out.mono HB0.out.size)).grown hg3 (by have h1 := HB0.out.size; have h2 := HB1.out.size; omega) (fun k hk => by cases hk)
    have hR3 := (HR0.out.keep HB1.out).grown hg3 (fun e => by cases e)
    have hK3 := hK.below hb3
    clear hown3 hg3 kc hi hz0 hz1 hz2
    refine (refOf_any v3 _ w3 hown.byt (by show 13 ≤ 1000000; omega) hK3).mono ?_
    rintro e w4 ⟨rfl, hb4⟩
    have hR4 := hR3.keep hb4
    have hb4' := hb3.trans (hb4.mono hb3.size)
    clear hown hb3 hR3 hK3 hb4
    go_wp2_with (refine wpList_store_arr arrH rfl _ _ rfl rfl rfl hR4 (fun _ _ => rfl) ?_; intro w9 hg9 hA9 hs9)
    refine bodyPost_ret (arrH.result rfl _ _ rfl hA9) rfl ⟨rfl, ?_⟩
    exact below_into hb4' (g := w.heap.size) (by omega) hg9 hb4'.size
end Go.Proofs.YtakigopjbbhjkaaDoor
