/-
  Parts of a slice of attestations: l[k:], l[:k].
-/
import Derived.Test.YtpnejoglkmfleaaGreatDoorBsX
namespace Go.Proofs.YtpnejoglkmfleaaGreatDoor
set_option maxRecDepth 20000
open Go.RowKit
noncomputable def cutAtH (v h : Value) (w : World) : Result Next := Sem.run Tryz.prog (execOp (fun o => match o with | .tmp 0 => v | _ => h) { dst := none, op := .slice 22 (.tmp 0) none (some (.tmp 1)) none, type := 0, pos := "", after := #[], guard := none }) w
noncomputable def cutAtL (v l : Value) (w : World) : Result Next := Sem.run Tryz.prog (execOp (fun o => match o with | .tmp 0 => v | _ => l) { dst := none, op := .slice 22 (.tmp 0) (some (.tmp 1)) none none, type := 0, pos := "", after := #[], guard := none }) w
theorem exec_cut_ath (r : Operand → Value) (x h : Operand) (dst : Option Tmp) (ty : TypeId) (pos : String) (after : Array Edge) (guard : Option (Nat × Bool)) (w : World) :
    Sem.run Tryz.prog (execOp r { dst := dst, op := .slice 22 x none (some h) none, type := ty, pos := pos, after := after, guard := guard }) w = cutAtH (r x) (r h) w := rfl
theorem exec_cut_atl (r : Operand → Value) (x l : Operand) (dst : Option Tmp) (ty : TypeId) (pos : String) (after : Array Edge) (guard : Option (Nat × Bool)) (w : World) :
    Sem.run Tryz.prog (execOp r { dst := dst, op := .slice 22 x (some l) none none, type := ty, pos := pos, after := after, guard := guard }) w = cutAtL (r x) (r l) w := rfl
theorem ElsA.sub {w : World} {A : Option Addr} {l : List AtM} (h : ElsA atl 101 w A l) (i k c : Nat) (hik : i ≤ k) (hk : k ≤ l.length) (hc : l.length ≤ c) : ElsA atl 101 w (if c = i then A else A.map (·.add (i * 101))) ((l.drop i).take (k - i)) := fun h0 => by
  rw [List.length_take, List.length_drop] at h0
  obtain ⟨b, off, rfl, hb, hcl⟩ := h (by omega)
  rw [if_neg (by omega)]
  refine ⟨b, off + i * 101, by rw [Option.map_some, addr_add], hb, fun j hj => ?_⟩
  rw [List.length_take, List.length_drop] at hj
  have := hcl (i + j) (by omega)
  rw [List.getElem_take, List.getElem_drop]
  rw [show off + i * 101 + j * 101 = off + (i + j) * 101 from by rw [Nat.add_mul]; omega]
  exact this
theorem els_sub_length {l : List AtM} {i k : Nat} (hk : k ≤ l.length) : ((l.drop i).take (k - i)).length = k - i := by
  rw [List.length_take, List.length_drop]
  omega
theorem cut_ath (A : Option Addr) (c L k : Nat) (hk : k ≤ L) (hc : L ≤ c) : ∃ A' c', (∀ w, cutAtH (.slice A L c) (.int .i64 (k : Int)) w = .ok (.value (.slice A' k c')) w) ∧ ∀ w l, l.length = L → Els atl 101 w (.slice A L c) l → Els atl 101 w (.slice A' k c') (l.take k) := by
  refine ⟨if c = 0 then A else A.map (·.add (0 * 101)), c, fun w => ?_, fun w l hl hv => ?_⟩
  · obtain ⟨i0, z, hi, hz0, hz1, hz2, _⟩ := eltAt.info
    have hk4 : k ≤ c := by omega
    unfold cutAtH execOp
    simp [Instr.sliceAt, Instr.slice, run_underlying eltAt.under, Instr.sliceBounds, Instr.sliceBound, asIntOf, sizeOf, typeInfo, hi, hk4, Sem.run_bind]
  · obtain ⟨_, h1, h2, h3⟩ := hv.at_
    have hs := els_sub_length (l := l) (i := 0) (k := k) (by omega)
    have h4 := h3.sub 0 k c (Nat.zero_le _) (by omega) (by omega)
    rw [List.drop_zero, Nat.sub_zero] at h4 hs
    exact ⟨_, _, by rw [hs], by omega, by omega, h4⟩
theorem cut_atl (A : Option Addr) (c L i : Nat) (hi : i ≤ L) (hc : L ≤ c) : ∃ A' c', (∀ w, cutAtL (.slice A L c) (.int .i64 (i : Int)) w = .ok (.value (.slice A' (L - i) c')) w) ∧ ∀ w l, l.length = L → Els atl 101 w (.slice A L c) l → Els atl 101 w (.slice A' (L - i) c') (l.drop i) := by
  refine ⟨if c = i then A else A.map (·.add (i * 101)), c - i, fun w => ?_, fun w l hl hv => ?_⟩
  · obtain ⟨i0, z, hi0, hz0, hz1, hz2, _⟩ := eltAt.info
    unfold cutAtL execOp
    simp [Instr.sliceAt, Instr.slice, run_underlying eltAt.under, Instr.sliceBounds, Instr.sliceBound, asIntOf, sizeOf, typeInfo, hi0, hz1, hi, Sem.run_bind]
  · obtain ⟨_, h1, h2, h3⟩ := hv.at_
    have hs := els_sub_length (l := l) (i := i) (k := l.length) (by omega)
    have h4 := h3.sub i l.length c (by omega) (by omega) (by omega)
    have e : (l.drop i).take (l.length - i) = l.drop i := List.take_of_length_le (by rw [List.length_drop]; omega)
    rw [e] at h4 hs
    exact ⟨_, _, by rw [hs, hl], by omega, by omega, h4⟩
end Go.Proofs.YtpnejoglkmfleaaGreatDoor
