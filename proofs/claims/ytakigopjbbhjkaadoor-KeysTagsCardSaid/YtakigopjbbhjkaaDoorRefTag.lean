/-
  tithingref04.Tag gives the tag of bytes.
-/
import Derived.Test.YtakigopjbbhjkaaDoorRefPart
import Derived.Test.YtakigopjbbhjkaaDoorRefMac
import Derived.Test.YtakigopjbbhjkaaDoorTag
import Derived.Test.YtakigopjbbhjkaaDoorArr
namespace Go.Proofs.YtakigopjbbhjkaaDoor
open Go.RowKit

set_option maxHeartbeats 3200000 in
theorem refTag_any (i : Int) (d : UInt8) (v : Value) (text : List UInt8) (w : World) (hv : Byt w v text) (hs : text.length ≤ 90000) (hK : Kst 0 w) :
    Calls Tryd.prog 7 #[.int .i64 i, .int .u8 (d.toNat : Int), v] w fun e w' => e = .returned (.agg (fcells 32 fun j => bcell (tagF i d text j))) ∧ Below w.heap.size w w' := by
  have hb0 : Below w.heap.size w (w.alloc (.cells (fcells 32 fun _ => bcell 0) 23)) := (Below.refl _ _).alloc (Nat.le_refl _) _
  have hR0 : Blk (w.alloc (.cells (fcells 32 fun _ => bcell 0) 23)) w.heap.size 32 (fun _ => bcell 0) 23 := Blk.new w _ _ _
  cases hn : nodeB i
  · rw [tagF_no hn]
    have hno : ¬ (1 ≤ i ∧ i ≤ 21) := by
      unfold nodeB at hn
      exact of_decide_eq_false hn
    clear hn hv
    by_cases h1 : i < 1
    · clear hno
      go_enter Tryd.func7, Tryd.ntmps7
      go_wp2_with (first
        | (refine wpList_alloc_arr arrH rfl rfl ?_)
        | (refine wpList_zero_arr arrH rfl rfl ?_)
        | (refine wpList_store_arr arrH rfl _ _ rfl rfl rfl hR0 (fun _ _ => rfl) ?_; intro w9 hg9 hA9 hs9))
      refine bodyPost_ret (arrH.result rfl _ _ rfl hA9) rfl ⟨rfl, ?_⟩
      exact below_into hb0 (g := w.heap.size) (by omega) hg9 hb0.size
    · have h2 : 21 < i := by omega
      clear hno
      go_enter Tryd.func7, Tryd.ntmps7
      go_wp2_with (first
        | (refine wpList_alloc_arr arrH rfl rfl ?_)
        | (refine wpList_zero_arr arrH rfl rfl ?_)
        | (refine wpList_store_arr arrH rfl _ _ rfl rfl rfl hR0 (fun _ _ => rfl) ?_; intro w9 hg9 hA9 hs9))
      refine bodyPost_ret (arrH.result rfl _ _ rfl hA9) rfl ⟨rfl, ?_⟩
      exact below_into hb0 (g := w.heap.size) (by omega) hg9 hb0.size
  · rw [tagF_yes hn]
    have h1i : ¬ i < 1 := by
      unfold nodeB at hn
      have := of_decide_eq_true hn
      omega
    have h2i : ¬ 21 < i := by
      unfold nodeB at hn
      have := of_decide_eq_true hn
      omega
    have HV := hid hv
    clear hn hv
    obtain ⟨x, HX⟩ : ∃ x : Int, Hid ((d.toNat : Int) = x) := ⟨_, hid rfl⟩
    rw [HX.out]
    go_enter Tryd.func7, Tryd.ntmps7
    go_wp2_with (refine wpList_alloc_arr arrH rfl rfl ?_)
    generalize w.alloc (.cells (fcells 32 fun _ => bcell 0) 23) = w0 at *
    refine (refPart_any i w0 (hK.below hb0)).mono ?_
    rintro e w1 ⟨rfl, hb1⟩
    have hR1 := hR0.keep hb1
    have hb1' := hb0.trans (hb1.mono hb0.size)
    clear hb0 hR0 hb1
    obtain ⟨σ, HS⟩ : ∃ f : Nat → UInt8, Hid (keyF i = f) := ⟨_, hid rfl⟩
    rw [HS.out]
    go_wp2_with (first
      | (refine wpList_alloc_arr arrH rfl rfl ?_)
      | (refine wpList_store_arr arrH rfl (.tmp 7) (.tmp 18) rfl rfl rfl (Blk.new w1 32 (fun _ => bcell 0) 23) (fun _ _ => rfl) ?_; intro w2 hg2 hH2 hs2; obtain ⟨hR2, hb2, hK2⟩ := tag_begun hR1 hb1' hg2 hH2; clear hg2 hs2))
    have hRK : w.heap.size < w1.heap.size := hR1.lt
    have hR3 : Blk (w2.alloc (.cells #[] 5)) w.heap.size 32 (fun _ => bcell 0) 23 := hR2.alloc _
    have hH3 : Blk (w2.alloc (.cells #[] 5)) w1.heap.size 32 (fun j => bcell (σ j)) 23 := hH2.alloc _
    have hb3 : Below w.heap.size w (w2.alloc (.cells #[] 5)) := hb2.alloc hb2.size _
    have ho3 : Own (w1.heap.size + 1) (w2.alloc (.cells #[] 5)) (.slice (some ⟨w2.heap.size, 0, none⟩) 0 0) [] := World.ownsRow_made w2 #[] 0 (by omega) (Nat.zero_le _) rfl
    obtain ⟨K, HKK⟩ : ∃ K : Nat, Hid (w1.heap.size = K) := ⟨_, hid rfl⟩
    obtain ⟨R, HR⟩ : ∃ R : Nat, Hid (w.heap.size = R) := ⟨_, hid rfl⟩
    rw [HKK.out] at hH3 hRK ho3 ⊢
    rw [HR.out] at hR3 hb3 hRK ⊢
    clear hR1 hb1' hR2 hH2 hb2 hK2
    go_loopw [8, 9] (fun v8 si wr => ∃ j : Nat, j ≤ 32 ∧ si = .int .i64 (j : Int) ∧ Below R w wr ∧ Blk wr R 32 (fun _ => bcell 0) 23 ∧ Blk wr K 32 (fun j => bcell (σ j)) 23 ∧ Own (K + 1) wr v8 (hl j σ)) (fun _ si _ => 32 - (intOf si).toNat)
    case atStart => exact ⟨0, Nat.zero_le _, rfl, hb3, hR3, hH3, ho3⟩
    case round =>
      clear hb3 hR3 hH3 ho3
      obtain ⟨j, hj, rfl, hbw, hRw, hHw, how⟩ := hrel
      have hKlt := hHw.lt
      by_cases hlt : j < 32
      · have hj32 : (j : Int) < 32 := by omega
        have kb := hHw.cell (i := j) hlt
        obtain ⟨y, HY⟩ : ∃ y : Int, Hid (((σ j).toNat : Int) = y) := ⟨_, hid rfl⟩
        unfold bcell at kb
        rw [HY.out] at kb
        have hl1 : (hl j σ).length + ([σ j] : List UInt8).length ≤ 140737488355328 := by rw [hl_length, List.length_singleton]; omega
        have hs1' : K + 1 ≤ (wr.alloc (.cells #[.int .u8 y] 5)).heap.size := by simp; omega
        go_wp2_with (at_builtin; refine wpList_append_byt rfl (.tmp 24) (.tmp 28) rfl rfl rfl (how.alloc _) (byt_one _ _ (σ j) HY.out.symm) hl1 hs1' ?_; intro v6 w6 hown6 hg6 hv6)
        have hs6 := hg6.size
        have hb6 : Below R w w6 := (hbw.alloc (by omega) _).grown hg6 (by simp; omega) (fun k hk => by have := (World.ownsRow.lt how k hk).1; omega)
        have hR6 := (hRw.alloc (.cells #[.int .u8 y] 5)).grown hg6 (fun e => by have := (World.ownsRow.lt how R e).1; omega)
        have hH6 := (hHw.alloc (.cells #[.int .u8 y] 5)).grown hg6 (fun e => by have := (World.ownsRow.lt how K e).1; omega)
        rw [← hl_succ j σ] at hown6
        clear hg6 hv6 hs6 hl1 hs1'
        go_roundw
        case rel => exact ⟨j + 1, by omega, by go_num, hb6, hR6, hH6, hown6⟩
        case measure => simp [intOf]; omega
      · have hj32 : ¬ (j : Int) < 32 := by omega
        obtain rfl : j = 32 := by omega
        have hl1 : ([d] : List UInt8).length + text.length ≤ 140737488355328 := by rw [List.length_singleton]; omega
        have hs1' : K + 1 ≤ (wr.alloc (.cells #[.int .u8 x] 5)).heap.size := by simp; omega
        have hvt : Byt wr v text := HV.out.below (by rw [HR.out]; exact hbw)
        have hod : Own (K + 1) (wr.alloc (.cells #[.int .u8 x] 5)) (.slice (some ⟨wr.heap.size, 0, none⟩) 1 1) [d] := own_of_blk (by rw [heap_alloc_new, ← HX.out]; rfl) (by omega) rfl (by unfold maxLen; omega)
        go_wp2_with (at_builtin; refine wpList_append_byt rfl (.tmp 32) (.tmp 33) rfl rfl rfl hod (hvt.alloc _) hl1 hs1' ?_; intro v6 w6 hown6 hg6 hv6)
        have hs6 := hg6.size
        have hb6 : Below R w w6 := (hbw.alloc (by omega) _).grown hg6 (by simp; omega) (fun k hk => by have := (World.ownsRow.lt hod k hk).1; omega)
        have hR6 := (hRw.alloc (.cells #[.int .u8 x] 5)).grown hg6 (fun e => by have := (World.ownsRow.lt hod R e).1; omega)
        have ho6 : Own (K + 1) w6 u8 (hl 32 σ) := (how.alloc (.cells #[.int .u8 x] 5)).keep fun b hb e => hg6.block b hb (fun e2 => by
          have h1 := (World.ownsRow.lt how b e).2
          have e3 := Option.some.inj (show some b = some wr.heap.size from e2)
          omega)
        have hb6' : Below w.heap.size w w6 := by rw [HR.out]; exact hb6
        refine (refMac_any u8 v6 (hl 32 σ) (d :: text) w6 ho6.byt hown6.byt (by rw [hl_length]; omega) (by rw [List.length_cons]; omega) (hK.below hb6')).mono ?_
        rintro e w7 ⟨rfl, hb7⟩
        have hR7 := hR6.keep hb7
        have hb7' := hb6.trans (hb7.mono (by have := hb6.size; omega))
        clear hg6 hv6 hs6 hl1 hs1' hown6 ho6 hod hvt hb6 hb6' hR6 hb7 hbw hRw hHw how
        go_wp2_with (refine wpList_store_arr arrH rfl _ _ rfl rfl rfl hR7 (fun _ _ => rfl) ?_; intro w9 hg9 hA9 hs9)
        refine bodyPost_ret (arrH.result rfl _ _ rfl hA9) rfl ⟨by rw [HS.out], ?_⟩
        rw [HR.out]
        exact below_into hb7' (g := R) (by omega) hg9 (by have := hb7'.size; have := HR.out; omega)
end Go.Proofs.YtakigopjbbhjkaaDoor
