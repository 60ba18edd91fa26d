/-
  The document's answers for hashes in digits: tithingref02.Hex, tithingref02.Unhex.
-/
import Derived.Test.YtgcagidkeacheaaDoorHexs
namespace Go.Proofs.YtgcagidkeacheaaDoor
open Go.RowKit

theorem slice_digit (m : Nat) (hm : m < 16) (w : World) : (Instr.slice 9 (.string ⟨#[48, 49, 50, 51, 52, 53, 54, 55, 56, 57, 97, 98, 99, 100, 101, 102]⟩) (some (.int .u8 (m : Int))) (some (.int .u8 ((m : Int) + 1))) none).run Tryd.prog w = .ok (.string ⟨#[dgt m]⟩) w := by
  have h1 : (m : Int) ≤ (m : Int) + 1 := by omega
  have h2 : 0 ≤ (m : Int) + 1 := by omega
  have h3 : ((m : Int) + 1).toNat = m + 1 := by omega
  have h4 : (m : Int) + 1 ≤ 16 := by omega
  have he : ∀ m : Fin 16, (⟨#[48, 49, 50, 51, 52, 53, 54, 55, 56, 57, 97, 98, 99, 100, 101, 102]⟩ : ByteArray).extract m.val (m.val + 1) = ⟨#[dgt m.val]⟩ := by decide +kernel
  have he2 := he ⟨m, hm⟩
  simp only at he2
  have hs : (⟨#[48, 49, 50, 51, 52, 53, 54, 55, 56, 57, 97, 98, 99, 100, 101, 102]⟩ : ByteArray).size = 16 := rfl
  have h5 : (0 : Int) ≤ (m : Int) ∧ (m : Int) ≤ ((m + 1 : Nat) : Int) := by omega
  have h6 : 0 ≤ (m : Int) + 1 ∧ (m : Int) + 1 ≤ ((16 : Nat) : Int) := by omega
  simp only [Instr.slice, run_underlying under_str, Sem.run_bind, Result.andThen_ok, Instr.sliceBounds, Instr.sliceBound, asIntOf, Sem.run_pure, hs, h3, h5, h6, and_self, ↓reduceIte, Option.isSome_none, Bool.false_eq_true, Int.toNat_natCast, he2]

set_option maxHeartbeats 1600000 in
theorem refHex_any (h : Nat → UInt8) (w : World) :
    Calls Tryd.prog 36 #[.agg (fcells 32 fun j => bcell (h j))] w fun e w' => e = .returned (.string ⟨(hexS h 32).toArray⟩) ∧ Below w.heap.size w w' := by
  have hA : Blk (w.alloc (.cells (fcells 32 fun j => bcell (h j)) 26)) w.heap.size 32 (fun j => bcell (h j)) 26 := Blk.new w _ _ _
  have hbw0 : Below w.heap.size w (w.alloc (.cells (fcells 32 fun j => bcell (h j)) 26)) := (Below.refl _ _).alloc (Nat.le_refl _) _
  go_enter Tryd.func36, Tryd.ntmps36
  go_wp2_with fail
  generalize (w.alloc (.cells (fcells 32 fun j => bcell (h j)) 26)) = w0 at *
  go_loopw [4, 5] (fun st si wr => ∃ i : Nat, i ≤ 32 ∧ si = .int .i64 i ∧ st = .string ⟨(hexS h i).toArray⟩ ∧ ∃ n, wr = w0.drewN n) (fun _ si _ => 32 - (intOf si).toNat)
  case atStart => exact ⟨0, by omega, rfl, rfl, 0, rfl⟩
  case round =>
    obtain ⟨i, hi, rfl, rfl, n, rfl⟩ := hrel
    by_cases hlt : i < 32
    · have hi32 : (i : Int) < 32 := by omega
      have ck := hA.cell (i := i) hlt
      unfold bcell at ck
      have hltA := hA.lt
      obtain ⟨y, hy0, hy1, HY⟩ : ∃ y : Int, 0 ≤ y ∧ y ≤ 255 ∧ Hid (((h i).toNat : Int) = y) := ⟨_, (byte_lt (h i)).1, (byte_lt (h i)).2, hid rfl⟩
      rw [HY.out] at ck
      obtain ⟨U, HU⟩ : ∃ U : Nat, Hid ((h i).toNat / 16 = U) := ⟨_, hid rfl⟩
      obtain ⟨V, HV⟩ : ∃ V : Nat, Hid ((h i).toNat % 16 = V) := ⟨_, hid rfl⟩
      have hU : U < 16 := by have := HU.out; have := (byte_lt (h i)).2; omega
      have hV : V < 16 := by have := HV.out; omega
      have q1 : y / 16 = (U : Int) := by have := HU.out; have := HY.out; omega
      have q2 : y % 16 = (V : Int) := by have := HV.out; have := HY.out; omega
      have q3 : y.tdiv 16 = (U : Int) := by rw [Int.tdiv_eq_ediv_of_nonneg hy0, q1]
      have q4 : y.tmod 16 = (V : Int) := by rw [Int.tmod_eq_emod_of_nonneg hy0, q2]
      have q5 : IntKind.u8.wrap ((U : Int) + 1) = (U : Int) + 1 := by rw [IntKind.wrap_u8']; omega
      have q6 : IntKind.u8.wrap ((V : Int) + 1) = (V : Int) + 1 := by rw [IntKind.wrap_u8']; omega
      have q7 : IntKind.u8.wrap (U : Int) = (U : Int) := by rw [IntKind.wrap_u8']; omega
      have q8 : IntKind.u8.wrap (V : Int) = (V : Int) := by rw [IntKind.wrap_u8']; omega
      have p1 := slice_digit U hU
      have p2 := slice_digit V hV
      obtain ⟨S, HS⟩ : ∃ S : ByteArray, Hid ((⟨(hexS h i).toArray⟩ : ByteArray) = S) := ⟨_, hid rfl⟩
      obtain ⟨S1, HS1⟩ : ∃ S : ByteArray, Hid ((⟨(hexS h i ++ [dgt U]).toArray⟩ : ByteArray) = S) := ⟨_, hid rfl⟩
      obtain ⟨S2, HS2⟩ : ∃ S : ByteArray, Hid ((⟨(hexS h (i + 1)).toArray⟩ : ByteArray) = S) := ⟨_, hid rfl⟩
      have hl := hexS_length h i
      have a1 : ∀ w : World, (Op.stringOp .add S ⟨#[dgt U]⟩).run Tryd.prog w = .ok (.string S1) w := fun w => by
        rw [← HS.out, ← HS1.out]
        exact run_string_add_lists w (hexS h i) [dgt U] (by omega) (by simp)
      have a2 : ∀ w : World, (Op.stringOp .add S1 ⟨#[dgt V]⟩).run Tryd.prog w = .ok (.string S2) w := fun w => by
        rw [← HS1.out, ← HS2.out]
        have e : hexS h (i + 1) = hexS h i ++ [dgt U] ++ [dgt V] := by
          rw [← HU.out, ← HV.out]
          simp [hexS]
        rw [e]
        exact run_string_add_lists w (hexS h i ++ [dgt U]) [dgt V] (by simp; omega) (by simp)
      rw [HS.out]
      go_wp2_with fail
      go_quiet (fail)
      clear q1 q2 q3 q4 q5 q6 q7 q8 p1 p2 a1 a2
      go_wp2_with fail
      go_roundw
      case rel => exact ⟨i + 1, by omega, by go_num, by rw [HS2.out], n + nq, rfl⟩
      case measure => simp [intOf]; omega
    · have hi32 : ¬ (i : Int) < 32 := by omega
      go_wp2_with fail
      go_ret
      have e : i = 32 := by omega
      subst e
      exact ⟨rfl, below_drewN hbw0 n⟩
end Go.Proofs.YtgcagidkeacheaaDoor
