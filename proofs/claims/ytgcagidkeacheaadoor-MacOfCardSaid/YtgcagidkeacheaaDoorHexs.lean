/-
  Hashes in digits: sha.Hex, sha.worth.
-/
import Derived.Test.YtgcagidkeacheaaDoorRun
namespace Go.Proofs.YtgcagidkeacheaaDoor
open Go.RowKit

theorem under_str : Tryd.prog.underlying 9 = some .string := by kernel_rfl
theorem dgt_at (m : Nat) (hm : m < 16) : (⟨#[48, 49, 50, 51, 52, 53, 54, 55, 56, 57, 97, 98, 99, 100, 101, 102]⟩ : ByteArray)[m]? = some (dgt m) := by
  have h : ∀ m : Fin 16, (⟨#[48, 49, 50, 51, 52, 53, 54, 55, 56, 57, 97, 98, 99, 100, 101, 102]⟩ : ByteArray)[m.val]? = some (dgt m.val) := by decide +kernel
  exact h ⟨m, hm⟩
theorem idx_digit (m : Nat) (hm : m < 16) (w : World) : (Instr.index 9 (.string ⟨#[48, 49, 50, 51, 52, 53, 54, 55, 56, 57, 97, 98, 99, 100, 101, 102]⟩) (.int .u8 (m : Int))).run Tryd.prog w = .ok (.int .u8 ((dgt m).toNat : Int)) w := by
  simp [Instr.index, asIntOf, run_underlying under_str, dgt_at m hm]
theorem byt_two (w : World) (x y : Int) (c d : UInt8) (hx : x = (c.toNat : Int)) (hy : y = (d.toNat : Int)) : Byt (w.alloc (.cells #[.int .u8 x, .int .u8 y] 5)) (.slice (some ⟨w.heap.size, 0, none⟩) 2 2) [c, d] := by
  subst hx hy
  refine ⟨_, 2, rfl, Nat.le_refl _, by unfold maxLen; omega, fun _ => ⟨w.heap.size, 0, rfl, by simp, fun j hj => ?_⟩⟩
  have hb := heap_alloc_new w (.cells #[.int .u8 (c.toNat : Int), .int .u8 (d.toNat : Int)] 5)
  rw [cell_of_row _ _ _ _ _ (0, 0) hb, Nat.zero_add]
  have hj2 : j < 2 := hj
  obtain rfl | rfl : j = 0 ∨ j = 1 := by omega
  all_goals rfl
theorem Byt.drew {w : World} {v : Value} {l : List UInt8} (h : Byt w v l) : Byt w.drew v l := h
theorem Own.drew {w : World} {B : Nat} {v : Value} {l : List UInt8} (h : Own B w v l) : Own B w.drew v l := h
theorem run_string_byt {w : World} {v : Value} {l : List UInt8} (hv : Byt w v l) : (convert 22 9 v).run Tryd.prog w = .ok (.string ⟨l.toArray⟩) w := by
  obtain ⟨A, c, rfl, h1, h2, hr⟩ := hv
  by_cases h0 : 0 < l.length
  · obtain ⟨b, off, rfl, _, hc⟩ := hr h0
    exact run_convert_bytes_back w _ _ 5 _ _ l under_bytes (by kernel_rfl) under_str (fun j hj => by rw [addr_add]; exact hc j hj)
  · obtain rfl : l = [] := List.eq_nil_of_length_eq_zero (by omega)
    rw [run_convert_bytes_string w _ _ 5 _ _ _ under_bytes (by kernel_rfl) under_str]
    cases A <;> simp [Conv.bytesToString, loadCells] <;> rfl
theorem and15 (x : Int) (h0 : 0 ≤ x) (h1 : x ≤ 255) : bits BinOp.and IntKind.u8 x 15 = x % 16 := by
  obtain ⟨n, rfl⟩ := Int.eq_ofNat_of_zero_le h0
  have h : ∀ n : Fin 256, bits BinOp.and IntKind.u8 ((n.val : Nat) : Int) 15 = ((n.val : Nat) : Int) % 16 := by decide +kernel
  exact h ⟨n, by omega⟩

set_option maxHeartbeats 1600000 in
theorem hex_any (h : Nat → UInt8) (w : World) :
    Calls Tryd.prog 24 #[.agg (fcells 32 fun j => bcell (h j))] w fun e w' => e = .returned (.string ⟨(hexS h 32).toArray⟩) ∧ Below w.heap.size w w' := by
  obtain ⟨i0, hi, hz0, hz1, hz2⟩ := info_parts info_u8
  have hb2 : i0.bytes * 64 ≤ 281474976710656 := by rw [hz2]; omega
  have hb3 : 64 ≤ maxLen := by unfold maxLen; omega
  have hA : Blk (w.alloc (.cells (fcells 32 fun j => bcell (h j)) 26)) w.heap.size 32 (fun j => bcell (h j)) 26 := Blk.new w _ _ _
  have hbw0 : Below w.heap.size w (w.alloc (.cells (fcells 32 fun j => bcell (h j)) 26)) := (Below.refl _ _).alloc (Nat.le_refl _) _
  go_enter Tryd.func24, Tryd.ntmps24
  go_wp2_with (at_make; refine wpList_make_own _ rfl _ _ 22 rfl (w.heap.size + 1) 5 i0 (.int .u8 0) 1 under_bytes hi hz0 hz1 _ _ _ 64 rfl rfl rfl hb2 hb3 (by simp) ?_)
  intro w0 hown0 hgrow0
  have hb0 : Below w.heap.size w w0 := hbw0.grown hgrow0 (by simp) (fun k h => by cases h)
  have hv0 : Own (w.heap.size + 1) w0 (.slice (some ⟨w.heap.size + 1, 0, none⟩) 0 64) (hexS h 0) := hown0
  have hA0 : Blk w0 w.heap.size 32 (fun j => bcell (h j)) 26 := hA.grown hgrow0 (by simp)
  clear hown0 hgrow0 hz0 hz1 hz2 hi hb2 hb3 hA hbw0
  have hs0 : w.heap.size < w0.heap.size := hA0.lt
  try go_frame
  go_wp2_with (refine wpList_load_arr arrH rfl _ rfl rfl hA0 ?_)
  obtain ⟨HA, HHA⟩ : ∃ HA : Value, Hid (Value.agg (fcells 32 fun j => bcell (h j)) = HA) := ⟨_, hid rfl⟩
  rw [HHA.out]
  have hidx : ∀ (i : Nat), i < 32 → ∀ w, (Instr.index 26 HA (.int .i64 (i : Int))).run Tryd.prog w = .ok (bcell (h i)) w := fun i hi w => by
    rw [← HHA.out]
    exact arrH.run_index _ hi w
  go_loopw [3, 8] (fun v si wr => ∃ (i m : Nat) (A : Option Addr) (c : Nat), i ≤ 32 ∧ Hid (m = 2 * i) ∧ si = .int .i64 i ∧ v = .slice A m c ∧ Hid (Own (w.heap.size + 1) wr (.slice A m c) (hexS h i)) ∧ Below w.heap.size w wr ∧ w.heap.size < wr.heap.size) (fun _ si _ => 32 - (intOf si).toNat)
  case atStart => exact ⟨0, 0, _, _, by omega, hid rfl, rfl, rfl, hid hv0, hb0, hs0⟩
  case round =>
    clear hv0 hb0 hs0 hA0
    obtain ⟨i, m, A, c, hi, HM, rfl, rfl, HO, hbw, hsw⟩ := hrel
    have hm : m ≤ 64 := by have := HM.out; omega
    by_cases hlt : i < 32
    · have hx := hidx i hlt
      have hi32 : (i : Int) < 32 := by omega
      unfold bcell at hx
      obtain ⟨y, hy0, hy1, HY⟩ : ∃ y : Int, 0 ≤ y ∧ y ≤ 255 ∧ Hid (((h i).toNat : Int) = y) := ⟨_, (byte_lt (h i)).1, (byte_lt (h i)).2, hid rfl⟩
      rw [HY.out] at hx
      clear hidx
      obtain ⟨U, HU⟩ : ∃ U : Nat, Hid ((h i).toNat / 16 = U) := ⟨_, hid rfl⟩
      obtain ⟨V, HV⟩ : ∃ V : Nat, Hid ((h i).toNat % 16 = V) := ⟨_, hid rfl⟩
      have hU : U < 16 := by have := HU.out; have := (byte_lt (h i)).2; omega
      have hV : V < 16 := by have := HV.out; omega
      have q1 : y / 16 = (U : Int) := by have := HU.out; have := HY.out; omega
      have q2 : bits BinOp.and IntKind.u8 y 15 = (V : Int) := by rw [and15 y hy0 hy1]; have := HV.out; have := HY.out; omega
      have p1 := idx_digit U hU
      have p2 := idx_digit V hV
      have hlen : (hexS h i).length + [dgt U, dgt V].length ≤ 140737488355328 := by rw [hexS_length]; simp; omega
      go_wp2_with fail
      go_region_law (refine step_append_byt rfl (.tmp 11) (.tmp 18) rfl rfl rfl (HO.out.alloc _).drew (byt_two _ _ _ _ _ rfl rfl).drew hlen (by simp; omega) ?_; intro v2 w2 hown2 hg2 _)
      all_goals
        have hb2 : Below w.heap.size w w2 := ((hbw.alloc (by omega) _).drew).grown hg2 (by simp; omega) (fun k hk => by have := (World.ownsRow.lt HO.out k hk).1; omega)
        have hsz2 := hg2.size
        have hl : hexS h i ++ [dgt U, dgt V] = hexS h (i + 1) := by
          rw [← HU.out, ← HV.out]
          rfl
        rw [hl] at hown2
        obtain ⟨A2, c2, rfl⟩ := hown2.byt.shape
        have hl2 : (hexS h (i + 1)).length = m + 2 := by rw [hexS_length]; have := HM.out; omega
        rw [hl2] at hown2 ⊢
        have HO2 := hid hown2
        clear hl hl2 hown2 hg2 q1 q2 p1 p2
        go_wp2_with fail
        go_roundw
        case rel => exact ⟨i + 1, m + 2, A2, c2, by omega, hid (by have := HM.out; omega), by go_num, rfl, HO2, hb2, by simp at hsz2; omega⟩
        case measure => simp [intOf]; omega
    · have hi32 : ¬ (i : Int) < 32 := by omega
      clear hidx
      have e : i = 32 := by omega
      subst e
      have hst := run_string_byt HO.out.byt
      go_wp2_with fail
      go_ret
      exact ⟨rfl, hbw⟩
end Go.Proofs.YtgcagidkeacheaaDoor
