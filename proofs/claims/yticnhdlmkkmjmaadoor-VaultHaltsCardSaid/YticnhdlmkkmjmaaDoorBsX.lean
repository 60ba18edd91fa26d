/-
  What the groups lack.
-/
import Derived.Test.YticnhdlmkkmjmaaDoorBs1
import Derived.Test.YticnhdlmkkmjmaaDoorBs2
import Derived.Test.YticnhdlmkkmjmaaDoorBs3
import Derived.Test.YticnhdlmkkmjmaaDoorBs4
import Derived.Test.YticnhdlmkkmjmaaDoorBs5
import Derived.Test.YticnhdlmkkmjmaaDoorBs6
import Derived.Test.YticnhdlmkkmjmaaDoorBs7
import Derived.Test.YticnhdlmkkmjmaaDoorBs8
import Derived.Test.YticnhdlmkkmjmaaDoorBs9
import Derived.Test.YticnhdlmkkmjmaaDoorBs10
import Derived.Test.YticnhdlmkkmjmaaDoorBs11
import Derived.Test.YticnhdlmkkmjmaaDoorBs12
import Derived.Test.YticnhdlmkkmjmaaDoorBs13
import Derived.Test.YticnhdlmkkmjmaaDoorBs14
import Derived.ProofKit
import Derived.OpenShut
import Derived.ShutString
import Derived.ChangeOld
import Derived.Deep.Slices
import Derived.ChangeArms
import Derived.Laws.IdiomStrings
namespace Go.Proofs.YticnhdlmkkmjmaaDoor
set_option maxRecDepth 20000
open Go.RowKit
noncomputable def cutH (v h : Value) (w : World) : Result Next := Sem.run Tryd.prog (execOp (fun o => match o with | .tmp 0 => v | _ => h) { dst := none, op := .slice 33 (.tmp 0) none (some (.tmp 1)) none, type := 0, pos := "", after := #[], guard := none }) w
noncomputable def cutL (v l : Value) (w : World) : Result Next := Sem.run Tryd.prog (execOp (fun o => match o with | .tmp 0 => v | _ => l) { dst := none, op := .slice 33 (.tmp 0) (some (.tmp 1)) none none, type := 0, pos := "", after := #[], guard := none }) w
theorem exec_cutH (r : Operand → Value) (x h : Operand) (dst : Option Tmp) (ty : TypeId) (pos : String) (after : Array Edge) (guard : Option (Nat × Bool)) (w : World) :
    Sem.run Tryd.prog (execOp r { dst := dst, op := .slice 33 x none (some h) none, type := ty, pos := pos, after := after, guard := guard }) w = cutH (r x) (r h) w := rfl
theorem exec_cutL (r : Operand → Value) (x l : Operand) (dst : Option Tmp) (ty : TypeId) (pos : String) (after : Array Edge) (guard : Option (Nat × Bool)) (w : World) :
    Sem.run Tryd.prog (execOp r { dst := dst, op := .slice 33 x (some l) none none, type := ty, pos := pos, after := after, guard := guard }) w = cutL (r x) (r l) w := rfl
theorem RdB.sub {w : World} {A : Option Addr} {l : List UInt8} (h : RdB w A l) (i k c : Nat) (hik : i ≤ k) (hk : k ≤ l.length) (hc : l.length ≤ c) : RdB w (if c = i then A else A.map (·.add i)) ((l.drop i).take (k - i)) := fun h0 => by
  rw [List.length_take, List.length_drop] at h0
  obtain ⟨b, off, rfl, hb, hcl⟩ := h (by omega)
  rw [if_neg (by omega)]
  refine ⟨b, off + i, by rw [Option.map_some, addr_add], hb, fun j hj => ?_⟩
  rw [List.length_take, List.length_drop] at hj
  rw [Nat.add_assoc, hcl (i + j) (by omega), List.getElem_take, List.getElem_drop]
theorem sub_length {l : List UInt8} {i k : Nat} (hk : k ≤ l.length) : ((l.drop i).take (k - i)).length = k - i := by
  rw [List.length_take, List.length_drop]
  omega
theorem cut_h (A : Option Addr) (c L k : Nat) (hk : k ≤ L) (hc : L ≤ c) : ∃ A' c', (∀ w, cutH (.slice A L c) (.int .i64 (k : Int)) w = .ok (.value (.slice A' k c')) w) ∧ ∀ w l, l.length = L → Byt w (.slice A L c) l → Byt w (.slice A' k c') (l.take k) := by
  refine ⟨if c = 0 then A else A.map (·.add 0), c, fun w => ?_, fun w l hl hv => ?_⟩
  · obtain ⟨i0, hi, hz0, hz1, hz2⟩ := info_parts info_u8
    have hk4 : k ≤ c := by omega
    unfold cutH execOp
    simp [Instr.sliceAt, Instr.slice, run_underlying under_bytes, Instr.sliceBounds, Instr.sliceBound, asIntOf, sizeOf, typeInfo, hi, hk4, Sem.run_bind]
  · obtain ⟨_, h1, h2, h3⟩ := hv.at_
    have hs := sub_length (l := l) (i := 0) (k := k) (by omega)
    have h4 := h3.sub 0 k c (Nat.zero_le _) (by omega) (by omega)
    rw [List.drop_zero, Nat.sub_zero] at h4 hs
    exact ⟨_, _, by rw [hs], by omega, by omega, h4⟩
theorem cut_l (A : Option Addr) (c L i : Nat) (hi : i ≤ L) (hc : L ≤ c) : ∃ A' c', (∀ w, cutL (.slice A L c) (.int .i64 (i : Int)) w = .ok (.value (.slice A' (L - i) c')) w) ∧ ∀ w l, l.length = L → Byt w (.slice A L c) l → Byt w (.slice A' (L - i) c') (l.drop i) := by
  refine ⟨if c = i then A else A.map (·.add i), c - i, fun w => ?_, fun w l hl hv => ?_⟩
  · obtain ⟨i0, hi0, hz0, hz1, hz2⟩ := info_parts info_u8
    unfold cutL execOp
    simp [Instr.sliceAt, Instr.slice, run_underlying under_bytes, Instr.sliceBounds, Instr.sliceBound, asIntOf, sizeOf, typeInfo, hi0, hz1, hi, Sem.run_bind]
  · obtain ⟨_, h1, h2, h3⟩ := hv.at_
    have hs := sub_length (l := l) (i := i) (k := l.length) (by omega)
    have h4 := h3.sub i l.length c (by omega) (by omega) (by omega)
    have e : (l.drop i).take (l.length - i) = l.drop i := List.take_of_length_le (by rw [List.length_drop]; omega)
    rw [e] at h4 hs
    exact ⟨_, _, by rw [hs, hl], by omega, by omega, h4⟩
end Go.Proofs.YticnhdlmkkmjmaaDoor
namespace Go.Proofs.YticnhdlmkkmjmaaDoor
set_option maxRecDepth 20000
open Go.ChangeShapes Go.WideShapes Go.ChangeAt Go.RowKit
theorem ownKnob_none : ownKnob Tryd.prog.godebug = none := by kernel_rfl
theorem laidOut : laidOutB Tryd.prog = true := by kernel_rfl
end Go.Proofs.YticnhdlmkkmjmaaDoor
namespace Go.Proofs.YticnhdlmkkmjmaaDoor
set_option maxRecDepth 20000
open Go.ChangeShapes Go.WideShapes Go.ChangeAt Go.RowKit Go.Deep
section
variable {H : Type} {enc : TypeId × Value → H} {w : World} {base : Nat} {spare : Nat → Bool} {held : Bool} {fuel : Nat} {cs : List Value} {x : DataW H × List MemPlace}
theorem trod_bytes (h : DataW.trod enc Tryd.prog w base spare held fuel 33 cs = some x) : ∃ v l, cs = [v] ∧ Byt w v l := by
  rcases open_ints Tryd.underlying33 Tryd.underlying5 (by kernel_rfl) h with ⟨rfl, _⟩ | ⟨a, len, cap, zs, rfl, _, hl, hm, hz, _, hcell, hwz⟩
  · exact ⟨_, [], rfl, Byt.nil w⟩
  · have hlz : len ≤ zs.length := by rw [hz]; split <;> omega
    have hlen : ((zs.take len).map fun n => UInt8.ofNat n.toNat).length = len := by simp; omega
    refine ⟨_, (zs.take len).map fun n => UInt8.ofNat n.toNat, rfl, some a, cap, by rw [hlen], by omega, hm, fun h0 => ?_⟩
    rw [hlen] at h0
    obtain ⟨b, off, spot⟩ := a
    have hc := hcell 0 (by omega)
    have hspot : spot = none := by simpa [Addr.add] using World.cell?_spot hc
    subst hspot
    refine ⟨b, off, rfl, ?_, fun j hj => ?_⟩
    · have := World.block_lt_of_cell? w _ hc
      rw [addr_add] at this
      exact this
    · rw [hlen] at hj
      have hjz : j < zs.length := by omega
      have := hcell j hjz
      rw [addr_add] at this
      rw [this]
      have hw := hwz zs[j] (List.getElem_mem hjz)
      have hr : 0 ≤ zs[j] ∧ zs[j] ≤ 255 := by simpa [Lit.wf, IntKind.min, IntKind.max, IntKind.signed, IntKind.bits] using hw
      have e : zs.getD j 0 = zs[j] := by simp [hjz]
      rw [e]
      unfold bcell
      congr 2
      simp only [List.getElem_map, List.getElem_take]
      rw [UInt8.toNat_ofNat']
      omega
end
end Go.Proofs.YticnhdlmkkmjmaaDoor
namespace Go.Proofs.YticnhdlmkkmjmaaDoor
set_option maxRecDepth 20000
open Go.RowKit
theorem fresh0_below {w w2 : World} (hg : (w.alloc (.cells #[] 5)).grownBy w2 (Value.slice (some ⟨w.heap.size, 0, none⟩) 0 0).ownBlock) : Below w.heap.size w w2 :=
  ((Below.refl _ _).alloc (Nat.le_refl _) _).grown hg (by simp) (fun k hk => (World.ownsRow.lt (fresh0_own w) k hk).1)
end Go.Proofs.YticnhdlmkkmjmaaDoor
