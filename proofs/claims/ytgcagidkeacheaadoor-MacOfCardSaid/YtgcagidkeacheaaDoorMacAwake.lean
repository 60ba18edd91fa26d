/-
  The law's small example of a sum with a key returns true.
-/
import Derived.Test.YtgcagidkeacheaaDoorMacParts
import Derived.Test.YtgcagidkeacheaaDoorJefe
import Derived.Test.YtgcagidkeacheaaDoorRefHexs
import Derived.Test.YtgcagidkeacheaaDoorConsts
namespace Go.Proofs.YtgcagidkeacheaaDoor
open Go.RowKit

/-- The world of the example's call. -/
def jefeW (w : World) : World := (((w.alloc (.cells #[.int .u8 74, .int .u8 101, .int .u8 102, .int .u8 101] 5 (4, 5))).alloc (.cells #[.int .u8 119, .int .u8 104, .int .u8 97, .int .u8 116, .int .u8 32, .int .u8 100, .int .u8 111, .int .u8 32, .int .u8 121, .int .u8 97, .int .u8 32, .int .u8 119, .int .u8 97, .int .u8 110, .int .u8 116, .int .u8 32] 5 (16, 17))).alloc (.cells #[.int .u8 102, .int .u8 111, .int .u8 114, .int .u8 32, .int .u8 110, .int .u8 111, .int .u8 116, .int .u8 104, .int .u8 105, .int .u8 110, .int .u8 103, .int .u8 63] 5 (12, 13))).alloc (.cells #[.slice (some ⟨w.heap.size + 1, 0, none⟩) 16 16, .slice (some ⟨w.heap.size + 1 + 1, 0, none⟩) 12 12] 22)
theorem jefe_world (w : World) : Below w.heap.size w (jefeW w) ∧ (jefeW w).heap.size = w.heap.size + 4 ∧ Byt (jefeW w) (.slice (some ⟨w.heap.size, 0, none⟩) 4 4) jefeKey ∧ Byt (jefeW w) (.slice (some ⟨w.heap.size + 1, 0, none⟩) 16 16) [119, 104, 97, 116, 32, 100, 111, 32, 121, 97, 32, 119, 97, 110, 116, 32] ∧ Byt (jefeW w) (.slice (some ⟨w.heap.size + 1 + 1, 0, none⟩) 12 12) [102, 111, 114, 32, 110, 111, 116, 104, 105, 110, 103, 63]
    ∧ (jefeW w).cell? ⟨w.heap.size + 1 + 1 + 1, 0, none⟩ = some (.slice (some ⟨w.heap.size + 1, 0, none⟩) 16 16) ∧ (jefeW w).cell? ⟨w.heap.size + 1 + 1 + 1, 1, none⟩ = some (.slice (some ⟨w.heap.size + 1 + 1, 0, none⟩) 12 12) := by
  unfold jefeW
  refine ⟨?_, by simp, ?_, ?_, ?_, ?_, ?_⟩
  · exact ((((Below.refl _ _).alloc (Nat.le_refl _) _).alloc (by simp) _).alloc (by simp; omega) _).alloc (by simp; omega) _
  · refine byt_row (l := jefeKey) (m := (4, 5)) (T := 5) ?_ (by decide)
    rw [Below.heap_alloc _ _ _ (by simp; omega), Below.heap_alloc _ _ _ (by simp; omega), heap1]
    rfl
  · refine byt_row (l := [119, 104, 97, 116, 32, 100, 111, 32, 121, 97, 32, 119, 97, 110, 116, 32]) (m := (16, 17)) (T := 5) ?_ (by decide)
    rw [Below.heap_alloc _ _ _ (by simp), Below.heap_alloc _ _ _ (by simp), heap2]
    rfl
  · refine byt_row (l := [102, 111, 114, 32, 110, 111, 116, 104, 105, 110, 103, 63]) (m := (12, 13)) (T := 5) ?_ (by decide)
    rw [Below.heap_alloc _ _ _ (by simp)]
    have := heap2 (w.alloc (.cells #[.int .u8 74, .int .u8 101, .int .u8 102, .int .u8 101] 5 (4, 5))) (.cells #[.int .u8 119, .int .u8 104, .int .u8 97, .int .u8 116, .int .u8 32, .int .u8 100, .int .u8 111, .int .u8 32, .int .u8 121, .int .u8 97, .int .u8 32, .int .u8 119, .int .u8 97, .int .u8 110, .int .u8 116, .int .u8 32] 5 (16, 17)) (.cells #[.int .u8 102, .int .u8 111, .int .u8 114, .int .u8 32, .int .u8 110, .int .u8 111, .int .u8 116, .int .u8 104, .int .u8 105, .int .u8 110, .int .u8 103, .int .u8 63] 5 (12, 13))
    rw [show (w.alloc (.cells #[.int .u8 74, .int .u8 101, .int .u8 102, .int .u8 101] 5 (4, 5))).heap.size = w.heap.size + 1 from by simp] at this
    exact this
  all_goals
    rw [cell_of_row _ _ _ _ _ (0, 0) (show (_ : World).heap[w.heap.size + 1 + 1 + 1]? = some (.cells #[.slice (some ⟨w.heap.size + 1, 0, none⟩) 16 16, .slice (some ⟨w.heap.size + 1 + 1, 0, none⟩) 12 12] 22) from by simpa using heap_alloc_new (((w.alloc (.cells #[.int .u8 74, .int .u8 101, .int .u8 102, .int .u8 101] 5 (4, 5))).alloc (.cells #[.int .u8 119, .int .u8 104, .int .u8 97, .int .u8 116, .int .u8 32, .int .u8 100, .int .u8 111, .int .u8 32, .int .u8 121, .int .u8 97, .int .u8 32, .int .u8 119, .int .u8 97, .int .u8 110, .int .u8 116, .int .u8 32] 5 (16, 17))).alloc (.cells #[.int .u8 102, .int .u8 111, .int .u8 114, .int .u8 32, .int .u8 110, .int .u8 111, .int .u8 116, .int .u8 104, .int .u8 105, .int .u8 110, .int .u8 103, .int .u8 63] 5 (12, 13))) (.cells #[.slice (some ⟨w.heap.size + 1, 0, none⟩) 16 16, .slice (some ⟨w.heap.size + 1 + 1, 0, none⟩) 12 12] 22))]
    rfl

set_option maxHeartbeats 1600000 in
theorem macAwake_any (w : World) (hK : Kst 1 w) : Calls Tryd.prog 18 #[] w fun e w' => e = .returned (.bool true) ∧ Below w.heap.size w w' := by
  have k1 := conv1
  have k2 := conv2
  have k3 := conv3
  go_enter Tryd.func18, Tryd.ntmps18
  go_wp2_with fail
  clear k1 k2 k3
  obtain ⟨hb4, hz4, hj, hw, hf, c0, c1⟩ := jefe_world w
  change Calls _ _ _ (jefeW w) _
  generalize jefeW w = w4 at *
  refine (macOf_two _ jefeKey _ _ _ _ (w.heap.size + 1 + 1 + 1) 2 w4 hj (by decide) (by omega) c0 c1 hw hf (l := jefeText) rfl (by decide) (hK.below hb4)).mono ?_
  rintro e w5 ⟨rfl, hb5⟩
  have hb5' := hb4.trans (hb5.mono (by omega))
  clear hj hw hf c0 c1 hb4 hb5 hz4
  obtain ⟨σ, HS⟩ : ∃ f : Nat → UInt8, Hid (macS jefeKey jefeText = f) := ⟨_, hid rfl⟩
  have CH := refHex_any (macS jefeKey jefeText)
  rw [jefe_hex] at CH
  simp only [HS.out] at CH ⊢
  have HCH := hid CH
  clear CH
  go_wp2_with (first
    | (refine wpList_alloc_arr arrH rfl rfl ?_)
    | (refine wpList_store_arr arrH rfl _ _ rfl rfl rfl (Blk.new w5 32 (fun _ => bcell 0) 26) (fun _ _ => rfl) ?_; intro w6 hg6 hA6 hs6)
    | (refine wpList_load_arr arrH rfl _ rfl rfl hA6 ?_))
  have hb6 := (hb5'.alloc hb5'.size (.cells (fcells 32 fun _ => bcell 0) 26)).grown hg6 (by have := hb5'.size; simp; omega) (fun k hk => by injection hk; have := hb5'.size; omega)
  refine (HCH.out w6).mono ?_
  rintro e w7 ⟨rfl, hb7⟩
  have hb7' := hb6.trans (hb7.mono hb6.size)
  have hds : (⟨jefeDigits.toArray⟩ : ByteArray) = ⟨#[53, 98, 100, 99, 99, 49, 52, 54, 98, 102, 54, 48, 55, 53, 52, 101, 54, 97, 48, 52, 50, 52, 50, 54, 48, 56, 57, 53, 55, 53, 99, 55, 53, 97, 48, 48, 51, 102, 48, 56, 57, 100, 50, 55, 51, 57, 56, 51, 57, 100, 101, 99, 53, 56, 98, 57, 54, 52, 101, 99, 51, 56, 52, 51]⟩ := rfl
  rw [hds]
  clear hds
  go_wp2_with fail
  go_ret
  exact ⟨rfl, hb7'⟩
end Go.Proofs.YtgcagidkeacheaaDoor
