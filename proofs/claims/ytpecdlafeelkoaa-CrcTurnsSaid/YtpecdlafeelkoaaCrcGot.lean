/-
  Which record bytes begin with, said by their check; a slice cut with three indexes.
-/
import Derived.Test.YtpecdlafeelkoaaCrcTurn
namespace Go.Proofs.Ytpecdlafeelkoaa
open Go.RowKit

theorem take4 {l : List UInt8} (h : 4 ≤ l.length) : l.take 4 = [l.getD 0 0, l.getD 1 0, l.getD 2 0, l.getD 3 0] := by
  match l, h with
  | a :: b :: c :: d :: r, _ => rfl
theorem byte_of {n : Nat} {x : UInt8} (h : n = x.toNat) : UInt8.ofNat n = x := by
  rw [h, UInt8.ofNat_toNat]
theorem fourL_num {l : List UInt8} (h : 4 ≤ l.length) : fourL (numL l) = l.take 4 := by
  rw [take4 h]
  have h0 := (l.getD 0 0).toNat_lt
  have h1 := (l.getD 1 0).toNat_lt
  have h2 := (l.getD 2 0).toNat_lt
  have h3 := (l.getD 3 0).toNat_lt
  unfold fourL
  rw [byte_of (x := l.getD 0 0) (by unfold numL; omega), byte_of (x := l.getD 1 0) (by unfold numL; omega), byte_of (x := l.getD 2 0) (by unfold numL; omega), byte_of (x := l.getD 3 0) (by unfold numL; omega)]
theorem got_iff {l : List UInt8} (hl : 8 + numL l ≤ l.length) : recS (inL l) = l.take (8 + numL l) ↔ (crcS (l.take 4 ++ inL l)).toNat = numL ((l.drop 4).take 4) := by
  have hil : (inL l).length = numL l := by unfold inL; rw [List.length_take, List.length_drop]; omega
  have hd4 : ((l.drop 4).take 4).length = 4 := by rw [List.length_take, List.length_drop]; omega
  have e : l.take (8 + numL l) = l.take 4 ++ ((l.drop 4).take 4 ++ inL l) := by
    unfold inL
    rw [show 8 + numL l = 4 + (4 + numL l) from by omega, List.take_add, List.take_add, List.drop_drop]
  have hf : fourL (inL l).length = l.take 4 := by rw [hil, fourL_num (by omega)]
  have hn4 : fourL (numL ((l.drop 4).take 4)) = (l.drop 4).take 4 := by
    rw [fourL_num (by rw [hd4]; omega), List.take_of_length_le (by rw [hd4]; omega)]
  unfold recS
  rw [e, hf]
  constructor
  · intro h
    have h2 := (List.append_inj (List.append_cancel_left h) (by rw [fourL_length, hd4])).1
    rw [← hn4] at h2
    exact fourL_inj (Nat.le_of_lt_succ (BitVec.isLt _)) (numL_lt _) h2
  · intro h
    rw [h, hn4]

noncomputable def cutLHM (v l h m : Value) (w : World) : Result Next := Sem.run Try.prog (execOp (fun o => match o with | .tmp 0 => v | .tmp 1 => l | .tmp 2 => h | _ => m) { dst := none, op := .slice 22 (.tmp 0) (some (.tmp 1)) (some (.tmp 2)) (some (.tmp 3)), type := 0, pos := "", after := #[], guard := none }) w
theorem exec_cutLHM (r : Operand → Value) (x l h m : Operand) (dst : Option Tmp) (ty : TypeId) (pos : String) (after : Array Edge) (guard : Option (Nat × Bool)) (w : World) :
    Sem.run Try.prog (execOp r { dst := dst, op := .slice 22 x (some l) (some h) (some m), type := ty, pos := pos, after := after, guard := guard }) w = cutLHM (r x) (r l) (r h) (r m) w := rfl
theorem cut_lhm (A : Option Addr) (c L i k : Nat) (hik : i < k) (hk : k ≤ L) (hc : L ≤ c) : ∃ A', (∀ w, cutLHM (.slice A L c) (.int .i64 (i : Int)) (.int .i64 (k : Int)) (.int .i64 (k : Int)) w = .ok (.value (.slice A' (k - i) (k - i))) w) ∧ ∀ w l, l.length = L → Byt w (.slice A L c) l → Byt w (.slice A' (k - i) (k - i)) ((l.drop i).take (k - i)) := by
  refine ⟨if k = i then A else A.map (·.add i), fun w => ?_, fun w l hl hv => ?_⟩
  · obtain ⟨i0, hi, hz0, hz1, hz2⟩ := info_parts info_u8
    have hk4 : k ≤ c := by omega
    have hik2 : i ≤ k := by omega
    have hne : ¬ k = i := by omega
    unfold cutLHM execOp
    simp [Instr.sliceAt, Instr.slice, run_underlying under_bytes, Instr.sliceBounds, Instr.sliceBound, asIntOf, sizeOf, typeInfo, hi, hz1, hik2, hk4, hne, Sem.run_bind]
  · obtain ⟨_, h1, h2, h3⟩ := hv.at_
    have hs := sub_length (l := l) (i := i) (k := k) (by omega)
    have h4 := h3.sub i k (k + 1 + l.length) (by omega) (by omega) (by omega)
    rw [if_neg (by omega)] at h4
    rw [if_neg (by omega)]
    exact ⟨_, k - i, by rw [hs], by rw [hs]; exact Nat.le_refl _, by omega, h4⟩
end Go.Proofs.Ytpecdlafeelkoaa
