/-
  Words Plain Append First Join Digits Put Reader Number: what each of them says stands at its head.
-/
import Derived.Below
import Derived.Deep.AppendLies
import Derived.Deep.Draws
import Derived.Laws.AppendOwnNone
import Derived.Laws.OwnMore
import Derived.Maps.AppendAt
import Derived.OwnWalk
import Derived.Test.YtghophbabbaleaaGreatDoorRows
import Derived.WalkKit
import Derived.WalkSpells
import Derived.Deep.RegionLaw
import Derived.RegionTactic
import Derived.Laws.Bits64
import Derived.Laws.BitsAllLaws
import Derived.LoopTactic
import Derived.Outline
import Derived.WalkLawsBesides
import Derived.BigQuiet
import Derived.Deep.QuietTactic
import Derived.LaidEqlPtr
namespace Go.Proofs.YtghophbabbaleaaGreatDoor
set_option maxRecDepth 20000
open Go.RowKit
theorem hid {p : Prop} (h : p) : Hid p := h
def bcell (c : UInt8) : Value := .int .u8 (c.toNat : Int)
def bcells (l : List UInt8) : List Value := l.map bcell
theorem bcells_length (l : List UInt8) : (bcells l).length = l.length := by simp [bcells]
theorem bcells_append (l m : List UInt8) : bcells (l ++ m) = bcells l ++ bcells m := by simp [bcells]
theorem bcells_one (l : List UInt8) : ∀ u ∈ bcells l, u.oneCell' = true := by
  intro u hu
  obtain ⟨c, _, rfl⟩ := List.mem_map.1 hu
  rfl
theorem bcells_get (l : List UInt8) (j : Nat) (u : Value) (h : (bcells l)[j]? = some u) : ∃ hj : j < l.length, u = bcell l[j] := by
  have hj : j < l.length := by
    have := (List.getElem?_eq_some_iff.1 h).1
    simpa [bcells] using this
  refine ⟨hj, ?_⟩
  simp [bcells, hj] at h
  exact h.symm
theorem byte_lt (c : UInt8) : (0 : Int) ≤ (c.toNat : Int) ∧ (c.toNat : Int) ≤ 255 := by
  have := c.toNat_lt
  omega
def RdB (w : World) (A : Option Addr) (l : List UInt8) : Prop :=
  0 < l.length → ∃ b off, A = some ⟨b, off, none⟩ ∧ b < w.heap.size ∧ ∀ j (h : j < l.length), w.cell? ⟨b, off + j, none⟩ = some (bcell l[j])
def Byt (w : World) (v : Value) (l : List UInt8) : Prop := ∃ A c, v = .slice A l.length c ∧ l.length ≤ c ∧ c ≤ maxLen ∧ RdB w A l
def Own (B : Nat) (w : World) (v : Value) (l : List UInt8) : Prop := w.ownsRow B 5 1 v l.length (bcells l)
section
variable {w w' : World} {A : Option Addr} {v : Value} {l : List UInt8} {B : Nat}
theorem RdB.nil (w : World) (A : Option Addr) : RdB w A [] := fun h => absurd h (by simp)
theorem RdB.keep (h : RdB w A l) (hs : w.heap.size ≤ w'.heap.size) (hk : ∀ b off, A = some ⟨b, off, none⟩ → b < w.heap.size → w'.heap[b]? = w.heap[b]?) : RdB w' A l := fun hl => by
  obtain ⟨b, off, e, hb, hc⟩ := h hl
  exact ⟨b, off, e, by omega, fun j hj => (World.cell?_of_block (hk b off e hb)).trans (hc j hj)⟩
theorem RdB.below (h : RdB w A l) (hb : Below w.heap.size w w') : RdB w' A l := h.keep hb.size fun b _ _ hlt => hb.block b hlt
theorem Byt.keep (h : Byt w v l) (hs : w.heap.size ≤ w'.heap.size) (hk : ∀ b, b < w.heap.size → v.ownBlock = some b → w'.heap[b]? = w.heap[b]?) : Byt w' v l := by
  obtain ⟨A, c, rfl, h1, h2, h3⟩ := h
  exact ⟨A, c, rfl, h1, h2, h3.keep hs fun b off e hlt => hk b hlt (by subst e; rfl)⟩
theorem Byt.below (h : Byt w v l) (hb : Below w.heap.size w w') : Byt w' v l := h.keep hb.size fun b hlt _ => hb.block b hlt
theorem Byt.nil (w : World) : Byt w (.slice none 0 0) [] := ⟨none, 0, rfl, Nat.le_refl _, Nat.zero_le _, RdB.nil _ _⟩
theorem Byt.len (h : Byt w v l) : l.length ≤ maxLen := by
  obtain ⟨_, _, _, h1, h2, _⟩ := h
  omega
theorem Own.nil (B : Nat) (w : World) : Own B w (.slice none 0 0) [] := World.ownsRow_nil _ _ _ _
theorem Own.byt (h : Own B w v l) : Byt w v l := by
  rcases h.2 with ⟨rfl, h0⟩ | ⟨g, cap, cur, rfl, _, hh, hn, hm, hs, ht⟩
  · have : l = [] := List.eq_nil_of_length_eq_zero h0
    subst this
    exact Byt.nil w
  · refine ⟨_, cap, rfl, hn, hm, fun _ => ⟨g, 0, rfl, lt_of_block hh, fun j hj => ?_⟩⟩
    rw [Nat.zero_add, World.ownsRow.cellAt h j (by omega)]
    simp [bcells, hj]
theorem Own.more (h : Own B w v l) {B' : Nat} (hB : B' ≤ B) : Own B' w v l := by
  refine ⟨h.1, ?_⟩
  rcases h.2 with h0 | ⟨g, cap, cur, e, hg, r⟩
  · exact .inl h0
  · exact .inr ⟨g, cap, cur, e, by omega, r⟩
theorem Own.keep (h : Own B w v l) (hk : ∀ b, b < w.heap.size → v.ownBlock = some b → w'.heap[b]? = w.heap[b]?) : Own B w' v l := by
  refine ⟨h.1, ?_⟩
  rcases h.2 with h0 | ⟨g, cap, cur, rfl, hg, hh, r⟩
  · exact .inl h0
  · exact .inr ⟨g, cap, cur, rfl, hg, (hk g (lt_of_block hh) rfl).trans hh, r⟩
theorem Own.below (h : Own B w v l) (hb : Below w.heap.size w w') : Own B w' v l := h.keep fun b hlt _ => hb.block b hlt
end
theorem Byt.shape {w : World} {v : Value} {l : List UInt8} (h : Byt w v l) : ∃ A c, v = .slice A l.length c := by
  obtain ⟨A, c, e, _⟩ := h
  exact ⟨A, c, e⟩
theorem Byt.at_ {w : World} {A : Option Addr} {n c : Nat} {l : List UInt8} (h : Byt w (.slice A n c) l) : n = l.length ∧ l.length ≤ c ∧ c ≤ maxLen ∧ RdB w A l := by
  obtain ⟨A', c', e, h1, h2, h3⟩ := h
  injection e with e1 e2 e3
  subst e1 e2 e3
  exact ⟨rfl, h1, h2, h3⟩
theorem Byt.alloc {w : World} {v : Value} {l : List UInt8} (h : Byt w v l) (o : Obj) : Byt (w.alloc o) v l := h.below ((Below.refl _ _).alloc (Nat.le_refl _) o)
theorem Byt.drewN {w : World} {v : Value} {l : List UInt8} (h : Byt w v l) (n : Nat) : Byt (w.drewN n) v l := h
theorem below_drewN {B : Nat} {a w : World} (h : Below B a w) (n : Nat) : Below B a (w.drewN n) := ⟨h.os, h.tape, h.output, h.size, h.block⟩
end Go.Proofs.YtghophbabbaleaaGreatDoor
namespace Go.Proofs.YtghophbabbaleaaGreatDoor
set_option maxRecDepth 20000
def dg (n : Nat) : List UInt8 := if n < 128 then [UInt8.ofNat n] else UInt8.ofNat (128 + n % 128) :: dg (n / 128)
termination_by n
decreasing_by omega
theorem dg_small {n : Nat} (h : n < 128) : dg n = [UInt8.ofNat n] := by rw [dg, if_pos h]
theorem dg_big {n : Nat} (h : ¬ n < 128) : dg n = UInt8.ofNat (128 + n % 128) :: dg (n / 128) := by rw [dg, if_neg h]
theorem dg_len (k : Nat) : ∀ n, n < 128 ^ (k + 1) → (dg n).length ≤ k + 1 := by
  induction k with
  | zero =>
    intro n h
    rw [dg_small (by simpa using h)]
    simp
  | succ k ih =>
    intro n h
    by_cases h1 : n < 128
    · rw [dg_small h1]; simp
    · rw [dg_big h1]
      have := ih (n / 128) (by rw [Nat.pow_succ] at h; exact Nat.div_lt_of_lt_mul (by rw [Nat.mul_comm]; exact h))
      simp
      omega
theorem dg_len10 {n : Nat} (h : n < 18446744073709551616) : (dg n).length ≤ 10 := dg_len 9 n (by omega)
theorem dg_pos (n : Nat) : 0 < (dg n).length := by
  by_cases h : n < 128
  · rw [dg_small h]; simp
  · rw [dg_big h]; simp
theorem dg_get (n : Nat) : ∀ j (h : j < (dg n).length),
    (j + 1 < (dg n).length → ((dg n)[j]).toNat = 128 + n / 128 ^ j % 128) ∧ (j + 1 = (dg n).length → ((dg n)[j]).toNat = n / 128 ^ j ∧ n / 128 ^ j < 128 ∧ (0 < j → 0 < n / 128 ^ j)) := by
  induction n using Nat.strongRecOn with
  | _ n ih =>
    intro j h
    by_cases hn : n < 128
    · have hl : (dg n).length = 1 := by rw [dg_small hn]; rfl
      obtain rfl : j = 0 := by omega
      refine ⟨fun h1 => by omega, fun _ => ?_⟩
      have e : (dg n)[0] = UInt8.ofNat n := by simp [dg_small hn]
      rw [e, UInt8.toNat_ofNat']
      simp
      omega
    · have hl : (dg n).length = (dg (n / 128)).length + 1 := by rw [dg_big hn]; rfl
      have hp := dg_pos (n / 128)
      rcases j with _ | j
      · refine ⟨fun _ => ?_, fun h1 => by omega⟩
        have e : (dg n)[0] = UInt8.ofNat (128 + n % 128) := by simp [dg_big hn]
        rw [e, UInt8.toNat_ofNat']
        simp
        omega
      · have e : (dg n)[j + 1] = (dg (n / 128))[j]'(by omega) := by simp [dg_big hn]
        have := ih (n / 128) (by omega) j (by omega)
        have hq : n / 128 ^ (j + 1) = n / 128 / 128 ^ j := by rw [Nat.pow_succ, Nat.mul_comm, Nat.div_div_eq_div_mul]
        rw [e, hq]
        refine ⟨fun h1 => this.1 (by omega), fun h1 => ?_⟩
        obtain ⟨a, b, c⟩ := this.2 (by omega)
        refine ⟨a, b, fun _ => ?_⟩
        rcases Nat.eq_zero_or_pos j with h0 | h0
        · subst h0
          simp
          omega
        · exact c h0
def low (n i : Nat) : Nat := n % 128 ^ i
theorem low_zero (n : Nat) : low n 0 = 0 := by simp [low, Nat.mod_one]
theorem low_lt (n i : Nat) : low n i < 128 ^ i := Nat.mod_lt _ (Nat.pow_pos (by omega))
theorem low_succ (n i : Nat) : low n (i + 1) = low n i + (n / 128 ^ i % 128) * 128 ^ i := by
  unfold low
  rw [Nat.pow_succ, Nat.mod_mul, Nat.mul_comm]
theorem low_all (n i : Nat) (h : n < 128 ^ i) : low n i = n := Nat.mod_eq_of_lt h
def val : List UInt8 → Nat
  | [] => 0
  | c :: l => c.toNat % 128 + 128 * val l
theorem val_lt (l : List UInt8) : val l < 128 ^ l.length := by
  induction l with
  | nil => simp [val]
  | cons c l ih =>
    simp only [val, List.length_cons, Nat.pow_succ]
    have := Nat.mod_lt c.toNat (show 128 > 0 by omega)
    omega
theorem val_snoc (l : List UInt8) (c : UInt8) : val (l ++ [c]) = val l + c.toNat % 128 * 128 ^ l.length := by
  induction l with
  | nil => simp [val]
  | cons x l ih =>
    simp only [List.cons_append, val, ih, List.length_cons, Nat.pow_succ]
    rw [Nat.mul_add, ← Nat.mul_assoc, Nat.mul_comm 128 (c.toNat % 128), Nat.mul_assoc, Nat.mul_comm 128 (128 ^ l.length)]
    omega
theorem val_64 (l : List UInt8) (c : UInt8) (hl : l.length ≤ 9) (hc : c.toNat < 128) (h9 : l.length = 9 → c.toNat ≤ 1) : val (l ++ [c]) < 18446744073709551616 := by
  rw [val_snoc]
  have h := val_lt l
  have e9 : (128 : Nat) ^ 9 = 9223372036854775808 := by decide
  by_cases h8 : l.length = 9
  · have := h9 h8
    rw [h8, e9] at h
    rw [h8, e9, Nat.mod_eq_of_lt hc]
    omega
  · have hp : (128 : Nat) ^ l.length ≤ 128 ^ 8 := Nat.pow_le_pow_right (by omega) (by omega)
    have e8 : (128 : Nat) ^ 8 = 72057594037927936 := by decide
    rw [e8] at hp
    have : c.toNat % 128 * 128 ^ l.length ≤ 127 * 72057594037927936 := Nat.mul_le_mul (by omega) hp
    omega
theorem dg_val (l : List UInt8) (c : UInt8) (h : ∀ x ∈ l, 128 ≤ x.toNat) (hc : c.toNat < 128) (h0 : l ≠ [] → 0 < c.toNat) : dg (val (l ++ [c])) = l ++ [c] ∧ (l ≠ [] → 0 < val (l ++ [c])) := by
  induction l with
  | nil =>
    refine ⟨?_, fun h => absurd rfl h⟩
    simp only [List.nil_append, val]
    rw [dg_small (by omega)]
    congr 1
    apply UInt8.toNat_inj.1
    rw [UInt8.toNat_ofNat']
    omega
  | cons x l ih =>
    have hx := h x (by simp)
    have hxl := x.toNat_lt
    have hv : 0 < val (l ++ [c]) := by
      rcases l with _ | ⟨y, l⟩
      · have := h0 (by simp)
        simp only [List.nil_append, val]
        omega
      · exact (ih (fun z hz => h z (List.mem_cons_of_mem _ hz)) (fun _ => h0 (by simp))).2 (by simp)
    have := (ih (fun z hz => h z (List.mem_cons_of_mem _ hz)) (fun _ => h0 (by simp))).1
    simp only [List.cons_append, val]
    refine ⟨?_, fun _ => by omega⟩
    rw [dg_big (by omega), show (x.toNat % 128 + 128 * val (l ++ [c])) / 128 = val (l ++ [c]) from by omega, this]
    congr 1
    apply UInt8.toNat_inj.1
    rw [UInt8.toNat_ofNat']
    omega
def raw : List UInt8 → Option Nat
  | [] => none
  | c :: l => if c.toNat < 128 then some c.toNat else (raw l).map fun n => c.toNat % 128 + 128 * n
theorem raw_dg (n : Nat) : ∀ t, raw (dg n ++ t) = some n := by
  induction n using Nat.strongRecOn with
  | _ n ih =>
    intro t
    by_cases hn : n < 128
    · have e : (UInt8.ofNat n).toNat = n := by rw [UInt8.toNat_ofNat']; omega
      simp [dg_small hn, raw, e, hn]
    · have e : (UInt8.ofNat (128 + n % 128)).toNat = 128 + n % 128 := by rw [UInt8.toNat_ofNat']; omega
      rw [dg_big hn, List.cons_append]
      simp only [raw, e]
      rw [if_neg (by omega), ih (n / 128) (by omega) t]
      simp
      omega
def frst (l : List UInt8) : Option Nat :=
  match raw l with
  | some n => if n < 18446744073709551616 ∧ (dg n).isPrefixOf l = true then some n else none
  | none => none
theorem frst_some {l : List UInt8} {n : Nat} (h : frst l = some n) : n < 18446744073709551616 ∧ dg n <+: l := by
  unfold frst at h
  split at h
  · split at h
    · injection h with h
      subst h
      rename_i hh
      exact ⟨hh.1, List.isPrefixOf_iff_prefix.1 hh.2⟩
    · cases h
  · cases h
theorem frst_eq {l : List UInt8} {n : Nat} (hn : n < 18446744073709551616) (h : dg n <+: l) : frst l = some n := by
  obtain ⟨t, rfl⟩ := h
  unfold frst
  rw [raw_dg]
  simp only
  rw [if_pos ⟨hn, List.isPrefixOf_iff_prefix.2 (List.prefix_append _ _)⟩]
theorem frst_none {l : List UInt8} (h : frst l = none) : ∀ n, n < 18446744073709551616 → ¬ dg n <+: l := fun n hn hp => by
  rw [frst_eq hn hp] at h
  cases h
def rdNum (most : Nat) (l : List UInt8) (p : Nat) (r : Bool) : Nat × Nat × Bool :=
  if r = false then (0, p, false) else
    match frst (l.drop p) with
    | some n => if n ≤ most then (n, p + (dg n).length, true) else (0, p, false)
    | none => (0, p, false)
def rdHash (l : List UInt8) (p : Nat) (r : Bool) : List UInt8 × Nat × Bool :=
  if r = false then (List.replicate 32 0, p, false) else
    if p + 32 ≤ l.length then ((l.drop p).take 32, p + 32, true) else (List.replicate 32 0, p, false)
theorem rdNum_bad (most : Nat) (l : List UInt8) (p : Nat) : rdNum most l p false = (0, p, false) := by simp [rdNum]
theorem rdNum_yes {most : Nat} {l : List UInt8} {p n : Nat} (h : frst (l.drop p) = some n) (hm : n ≤ most) : rdNum most l p true = (n, p + (dg n).length, true) := by simp [rdNum, h, hm]
theorem rdNum_big {most : Nat} {l : List UInt8} {p n : Nat} (h : frst (l.drop p) = some n) (hm : ¬ n ≤ most) : rdNum most l p true = (0, p, false) := by simp [rdNum, h, hm]
theorem rdNum_no {most : Nat} {l : List UInt8} {p : Nat} (h : frst (l.drop p) = none) : rdNum most l p true = (0, p, false) := by simp [rdNum, h]
theorem drop_more {L a r : List UInt8} {p : Nat} (h : L.drop p = a ++ r) : L.drop (p + a.length) = r := by
  rw [← List.drop_drop, h, List.drop_left]
theorem drop_len {L a r : List UInt8} {p : Nat} (h : L.drop p = a ++ r) (ha : 0 < a.length) : p + a.length + r.length = L.length := by
  have := congrArg List.length h
  simp at this
  omega
theorem rdHash_at {L r hh : List UInt8} {p : Nat} (h : L.drop p = hh ++ r) (hl : hh.length = 32) : rdHash L p true = (hh, p + 32, true) := by
  have h3 := drop_len h (by omega)
  unfold rdHash
  rw [if_neg (by simp), if_pos (by omega), h, List.take_left' hl]
end Go.Proofs.YtghophbabbaleaaGreatDoor
namespace Go.Proofs.YtghophbabbaleaaGreatDoor
set_option maxRecDepth 20000
open Go.RowKit
theorem info_u8 : (Tryz.prog.info? 5).map (fun i => (i.zero, i.size, i.bytes)) = some (some (.int .u8 0), 1, 1) := by kernel_rfl
theorem under_bytes : Tryz.prog.underlying 29 = some (.slice 5) := by kernel_rfl
theorem addr_add (b off j : Nat) : (⟨b, off, none⟩ : Addr).add j = ⟨b, off + j, none⟩ := by
  unfold Addr.add
  split <;> simp_all
theorem run_append_byt {w : World} {B : Nat} {v x : Value} {l m : List UInt8} (ty : TypeId) (hv : Own B w v l) (hx : Byt w x m) (hs : l.length + m.length ≤ 140737488355328) (hB : B ≤ w.heap.size) :
    ∃ v' w', (Builtin.append_ #[29, 29] ty #[v, x]).run Tryz.prog w = .ok v' w' ∧ Own B w' v' (l ++ m) ∧ w.grownBy w' v.ownBlock ∧ (v'.ownBlock = v.ownBlock ∨ v'.ownBlock = some w.heap.size) := by
  obtain ⟨i0, hi, hz0, hz1, hz2⟩ := info_parts info_u8
  obtain ⟨A, c, rfl, hmc, hcm, hr⟩ := hx
  have hlm : (l ++ m).length = l.length + m.length := by simp
  rcases A with _ | ad
  · have h0 : m = [] := by
      rcases m with _ | ⟨x, m⟩
      · rfl
      · obtain ⟨_, _, h, _⟩ := hr (by simp)
        cases h
    subst h0
    refine ⟨v, w, ?_, by rw [List.append_nil]; exact hv, World.grownBy.refl w _, .inl rfl⟩
    rcases hv.2 with ⟨rfl, h0⟩ | ⟨g, cap, cur, rfl, _, _, hnc, _⟩
    · simp [Builtin.append_, run_underlying under_bytes, sizeOf, typeInfo, hi, Builtin.lenOf, Builtin.firstCells]
    · simp [Builtin.append_, run_underlying under_bytes, sizeOf, typeInfo, hi, Builtin.lenOf, Builtin.firstCells, hnc, storeCells]
  · have hcells : ∀ j u, (bcells m)[j]? = some u → w.cell? (ad.add j) = some u := by
      intro j u hu
      obtain ⟨hj, rfl⟩ := bcells_get m j u hu
      obtain ⟨b, off, e, _, hc⟩ := hr (by omega)
      injection e with e
      subst e
      rw [addr_add]
      exact hc j hj
    obtain ⟨v', w', hrun, h2, h3, _, h5⟩ := run_append_own_at (P := Tryz.prog) w B 29 ty 5 i0 (.int .u8 0) 1 1 under_bytes hi hz0 hz1 hz2 rfl (by omega) v l.length (bcells l) hv ad m.length c (bcells m) (by simp [bcells]) hcells (bcells_one m) (by unfold maxLen; omega) (by omega) hB
    refine ⟨v', w', hrun, ?_, h3, h5⟩
    unfold Own
    rw [hlm, bcells_append]
    exact h2
theorem wp_append_byt {o : Oper} {a : Act} {K : Act → World → Prop} {Q : Exit → Act → World → Prop} {w : World} (s y : Operand)
    (ho : o.op = .call { callee := .builtin .append, args := #[s, y], argTypes := #[29, 29] })
    {B : Nat} {v x : Value} {l m : List UInt8} (hes : a.eval s = v) (hey : a.eval y = x) (hv : Own B w v l) (hx : Byt w x m) (hs : l.length + m.length ≤ 140737488355328) (hB : B ≤ w.heap.size)
    (h : ∀ v' w', Own B w' v' (l ++ m) → w.grownBy w' v.ownBlock → (v'.ownBlock = v.ownBlock ∨ v'.ownBlock = some w.heap.size) → K (a.put o.dst v') w') : o.wp Tryz.prog a w K Q := by
  obtain ⟨v', w', hrun, h2, h3, h4⟩ := run_append_byt o.type hv hx hs hB
  unfold Oper.wp execOp
  simp only [ho, resolve, invoke, builtin, Sem.run_bind, Sem.run_pure, Result.andThen_ok, List.map_toArray, List.map_cons, List.map_nil, hes, hey, hrun]
  exact h v' w' h2 h3 h4
theorem wpList_append_byt {ops : Array Oper} {rest : List Oper} {o : Oper} {a : Act} {Q : Exit → Act → World → Prop} {w : World} (hgd : o.guard = none) (s y : Operand)
    (ho : o.op = .call { callee := .builtin .append, args := #[s, y], argTypes := #[29, 29] })
    {B : Nat} {v x : Value} {l m : List UInt8} (hes : a.eval s = v) (hey : a.eval y = x) (hv : Own B w v l) (hx : Byt w x m) (hs : l.length + m.length ≤ 140737488355328) (hB : B ≤ w.heap.size)
    (h : ∀ v' w', Own B w' v' (l ++ m) → w.grownBy w' v.ownBlock → (v'.ownBlock = v.ownBlock ∨ v'.ownBlock = some w.heap.size) → wpList Tryz.prog ops Q rest (a.put o.dst v') w') :
    wpList Tryz.prog ops Q (o :: rest) a w :=
  wpList_plain hgd fun _ hK => wp_append_byt s y ho hes hey hv hx hs hB fun v' w' h2 h3 h4 => hK _ _ (h v' w' h2 h3 h4)
theorem step_append_byt {ops : Array Oper} {o : Oper} {a : Act} {K : Act → World → Prop} {Q : Exit → Act → World → Prop} {E : Prop} {w : World} (hgd : o.guard = none) (s y : Operand)
    (ho : o.op = .call { callee := .builtin .append, args := #[s, y], argTypes := #[29, 29] })
    {B : Nat} {v x : Value} {l m : List UInt8} (hes : a.eval s = v) (hey : a.eval y = x) (hv : Own B w v l) (hx : Byt w x m) (hs : l.length + m.length ≤ 140737488355328) (hB : B ≤ w.heap.size)
    (h : ∀ v' w', Own B w' v' (l ++ m) → w.grownBy w' v.ownBlock → (v'.ownBlock = v.ownBlock ∨ v'.ownBlock = some w.heap.size) → K (a.put o.dst v') w') :
    if Region.wanted o (yielded ops a.tmps) = true then Oper.wp Tryz.prog o a w K Q else E := by
  have hw : Region.wanted o (yielded ops a.tmps) = true := by simp [Region.wanted, hgd]
  rw [if_pos hw]
  exact wp_append_byt s y ho hes hey hv hx hs hB h
theorem byt_one (w : World) (x : Int) (c : UInt8) (hx : x = (c.toNat : Int)) : Byt (w.alloc (.cells #[.int .u8 x] 5)) (.slice (some ⟨w.heap.size, 0, none⟩) 1 1) [c] := by
  subst hx
  refine ⟨_, 1, rfl, Nat.le_refl _, by unfold maxLen; omega, fun _ => ⟨w.heap.size, 0, rfl, by simp, fun j hj => ?_⟩⟩
  obtain rfl : j = 0 := by simpa using hj
  have := cell_one_new w (.int .u8 (c.toNat : Int)) 5 0 _ rfl
  rw [addr_add] at this
  exact this
theorem Own.alloc {w : World} {B : Nat} {v : Value} {l : List UInt8} (h : Own B w v l) (o : Obj) : Own B (w.alloc o) v l := World.ownsRow.alloc h o
theorem Own.drewN {w : World} {B : Nat} {v : Value} {l : List UInt8} (h : Own B w v l) (n : Nat) : Own B (w.drewN n) v l := h
end Go.Proofs.YtghophbabbaleaaGreatDoor
namespace Go.Proofs.YtghophbabbaleaaGreatDoor
set_option maxRecDepth 20000
open Go.RowKit
theorem and127 (x : Int) (h0 : 0 ≤ x) (h1 : x ≤ 255) : bits BinOp.and IntKind.u8 x 127 = x % 128 := by
  obtain ⟨n, rfl⟩ := Int.eq_ofNat_of_zero_le h0
  have h : ∀ n : Fin 256, bits BinOp.and IntKind.u8 ((n.val : Nat) : Int) 127 = ((n.val : Nat) : Int) % 128 := by decide +kernel
  exact h ⟨n, by omega⟩
theorem wrap_u64 (x : Int) (h0 : 0 ≤ x) (h1 : x < 18446744073709551616) : IntKind.u64.wrap x = x := by
  simp [IntKind.wrap, IntKind.signed, IntKind.bits]
  omega
theorem pow7 (i : Nat) : 128 ^ i = 2 ^ (7 * i) := by rw [Nat.pow_mul]
theorem or_step (n i : Nat) (x : Int) (hn : n < 18446744073709551616) (h0 : 0 ≤ x) (h1 : x ≤ 255) (hx : x % 128 = ((n / 128 ^ i % 128 : Nat) : Int)) :
    bits BinOp.or IntKind.u64 (low n i : Int) (IntKind.u64.wrap (IntKind.u64.wrap (bits BinOp.and IntKind.u8 x 127) * 2 ^ (7 * i))) = (low n (i + 1) : Int) := by
  have hd : n / 128 ^ i % 128 < 128 := Nat.mod_lt _ (by omega)
  have hle : low n i + n / 128 ^ i % 128 * 128 ^ i ≤ n := by
    rw [← low_succ]
    exact Nat.mod_le _ _
  rw [and127 x h0 h1, hx, wrap_u64 ((n / 128 ^ i % 128 : Nat) : Int) (by omega) (by omega), low_succ]
  generalize n / 128 ^ i % 128 = d at *
  have e : (d : Int) * 2 ^ (7 * i) = ((d * 128 ^ i : Nat) : Int) := by rw [pow7]; simp
  rw [e, wrap_u64 _ (by omega) (by omega), u64_or_nat _ _ (by omega) (by omega)]
  congr 1
  have hl := low_lt n i
  rw [pow7] at hl ⊢
  rw [Nat.or_comm, Nat.mul_comm, ← Nat.two_pow_add_eq_or_of_lt hl, Nat.add_comm]
theorem ret2_eq {a b c d : Int} (h1 : a = b) (h2 : c = d) : Ending.returned (.tuple #[.int .u64 a, .int .i64 c]) = Ending.returned (.tuple #[.int .u64 b, .int .i64 d]) := by rw [h1, h2]
set_option maxHeartbeats 1600000 in
theorem first_yes (v : Value) (l : List UInt8) (n : Nat) (w : World) (hv : Byt w v l) (hn : n < 18446744073709551616) (hp : dg n <+: l) :
    Calls Tryz.prog 156 #[v] w fun e w' => e = .returned (.tuple #[.int .u64 (n : Int), .int .i64 ((dg n).length : Int)]) ∧ w = w' := by
  obtain ⟨A, c, rfl⟩ := hv.shape
  obtain ⟨_, hc1, hc2, hr⟩ := hv.at_
  have hk := dg_len10 hn
  have hkp := dg_pos n
  have hkl := hp.length_le
  obtain ⟨b, off, rfl, hb, hcell⟩ := hr (by omega)
  unfold maxLen at hc2
  obtain ⟨k, HK⟩ : ∃ k : Nat, Hid ((dg n).length = k) := ⟨_, rfl⟩
  rw [HK.out] at hk hkp hkl ⊢
  have hget : ∀ i (h : i < k), (i + 1 < k → (l[i]'(by omega)).toNat = 128 + n / 128 ^ i % 128) ∧ (i + 1 = k → (l[i]'(by omega)).toNat = n / 128 ^ i ∧ n / 128 ^ i < 128 ∧ (0 < i → 0 < n / 128 ^ i)) := by
    intro i h
    have hik : i < (dg n).length := by rw [HK.out]; exact h
    have e : l[i]'(by omega) = (dg n)[i] := (hp.getElem hik).symm
    have := dg_get n i hik
    rw [HK.out] at this
    rw [e]
    exact this
  have hend : n / 128 ^ (k - 1) < 128 := ((hget (k - 1) (by omega)).2 (by omega)).2.1
  have hlowk : low n k = n := by
    refine low_all n k ?_
    have e : k = k - 1 + 1 := by omega
    rw [e, Nat.pow_succ, Nat.mul_comm]
    have := Nat.pow_pos (n := k - 1) (show 0 < 128 by omega)
    exact (Nat.div_lt_iff_lt_mul this).1 hend
  have h9 : ∀ i, i = 9 → n / 128 ^ i ≤ 1 := by
    intro i hi
    subst hi
    have : (128 : Nat) ^ 9 = 9223372036854775808 := by decide
    rw [this]
    omega
  obtain ⟨L, HL⟩ : ∃ L : Nat, Hid (l.length = L) := ⟨_, rfl⟩
  have hkL : k ≤ L := by rw [← HL.out]; exact hkl
  rw [HL.out]
  have HW := hid hlowk
  clear hlowk hend hp
  go_enter Tryz.func156, Tryz.ntmps156
  go_wp2
  go_loop [4, 5] (fun sa si => ∃ i : Nat, i < k ∧ si = .int .i64 i ∧ sa = .int .u64 (low n i : Int)) (fun _ si => 10 - (intOf si).toNat)
  case atStart => exact ⟨0, by omega, rfl, by rw [low_zero]; rfl⟩
  case round =>
    obtain ⟨i, hi, rfl, rfl⟩ := hrel
    have hil : i < l.length := by omega
    have hiL : i < L := by omega
    have hc := hcell i hil
    have hx := hget i hi
    obtain ⟨x, hx0, hx1, HX⟩ : ∃ x : Int, 0 ≤ x ∧ x ≤ 255 ∧ Hid ((l[i].toNat : Int) = x) := ⟨_, (byte_lt l[i]).1, (byte_lt l[i]).2, rfl⟩
    unfold bcell at hc
    rw [HX.out] at hc
    have hi10 : (i : Int) < 10 := by omega
    by_cases hlast : i + 1 < k
    · have hx2 := hx.1 hlast
      have hx3 : 128 ≤ x := by rw [← HX.out]; omega
      have hx4 : x % 128 = ((n / 128 ^ i % 128 : Nat) : Int) := by rw [← HX.out]; omega
      have HS := hid (or_step n i x hn hx0 hx1 hx4)
      clear hx hx2 hx4 hget hcell h9
      go_wp2
      go_round
      case rel => exact ⟨i + 1, hlast, by go_num, by rw [HS.out]⟩
      case measure => simp [intOf]; omega
    · obtain ⟨hx2, hx5, hx6⟩ := hx.2 (by omega)
      have hx3 : x < 128 := by rw [← HX.out]; omega
      have hx4 : x % 128 = ((n / 128 ^ i % 128 : Nat) : Int) := by rw [← HX.out]; omega
      have HS := hid (or_step n i x hn hx0 hx1 hx4)
      have hik : i + 1 = k := by omega
      have hx7 : 0 < i → 0 < x := fun h => by have := hx6 h; rw [← HX.out]; omega
      have h1 : i = 9 → x ≤ 1 := by
        intro e
        have := h9 i e
        rw [← HX.out]
        omega
      clear hx hx2 hx4 hx5 hx6 hget hcell h9
      have HK1 := hid hik
      clear hik
      go_wp2
      all_goals first
        | (exfalso; have := hx7 (by assumption); omega)
        | (try (have e0 : x = 0 := by assumption
                subst e0)
           go_ret2
           exact ⟨ret2_eq (HS.out.trans (by rw [HK1.out, HW.out])) (by have := HK1.out; omega), rfl⟩)
set_option maxHeartbeats 1600000 in
theorem first_no (v : Value) (l : List UInt8) (w : World) (hv : Byt w v l) (hp : ∀ n, n < 18446744073709551616 → ¬ dg n <+: l) :
    Calls Tryz.prog 156 #[v] w fun e w' => e = .returned (.tuple #[.int .u64 0, .int .i64 0]) ∧ w = w' := by
  obtain ⟨A, c, rfl⟩ := hv.shape
  obtain ⟨_, hc1, hc2, hr⟩ := hv.at_
  unfold maxLen at hc2
  by_cases hl : l.length = 0
  · rw [hl]
    go_enter Tryz.func156, Tryz.ntmps156
    go_wp2
    refine wp_loop_rounds 1 ?_
    rw [rounds_succ]
    go_wp2
    go_ret2
    exact ⟨rfl, rfl⟩
  obtain ⟨b, off, rfl, hb, hcell⟩ := hr (by omega)
  have hgood : ∀ i (h : i < l.length), i < 10 → (∀ j (hj : j < i), 128 ≤ (l[j]'(by omega)).toNat) → (l[i].toNat < 128) → (0 < i → 0 < l[i].toNat) → (i = 9 → l[i].toNat ≤ 1) → False := by
    intro i h hi hj hlt h0 h9
    obtain ⟨e, _⟩ := dg_val (l.take i) l[i] (fun x hx => by
      obtain ⟨j, hjl, rfl⟩ := List.getElem_of_mem hx
      rw [List.getElem_take]
      exact hj j (by simp at hjl; omega)) hlt (fun hne => h0 (by
        rcases Nat.eq_zero_or_pos i with h | h
        · subst h; simp at hne
        · exact h))
    rw [← List.take_succ_eq_append_getElem h] at e
    have e1 := List.take_succ_eq_append_getElem h
    refine hp _ ?_ (by rw [e]; exact List.take_prefix _ _)
    rw [e1]
    exact val_64 _ _ (by simp; omega) hlt (fun h => h9 (by simp at h; omega))
  obtain ⟨L, HL⟩ : ∃ L : Nat, Hid (l.length = L) := ⟨_, rfl⟩
  have hL0 : 0 < L := by have := HL.out; omega
  rw [HL.out] at hc1 ⊢
  have HG := hid hgood
  clear hgood hp hl
  go_enter Tryz.func156, Tryz.ntmps156
  go_wp2
  go_loop [4, 5] (fun sa si => ∃ (i : Nat) (a : Int), i ≤ L ∧ i ≤ 10 ∧ si = .int .i64 i ∧ sa = .int .u64 a ∧ Hid (∀ j (hj : j < i) (hl : j < l.length), 128 ≤ (l[j]).toNat)) (fun _ si => 10 - (intOf si).toNat)
  case atStart => exact ⟨0, 0, by omega, by omega, rfl, rfl, hid (fun j hj => by omega)⟩
  case round =>
    obtain ⟨i, a, hi, hi10, rfl, rfl, HB⟩ := hrel
    by_cases hin : i < L ∧ i < 10
    · obtain ⟨hiL, hi9⟩ := hin
      have hil : i < l.length := by rw [HL.out]; exact hiL
      have hc := hcell i hil
      obtain ⟨x, hx0, hx1, HX⟩ : ∃ x : Int, 0 ≤ x ∧ x ≤ 255 ∧ Hid ((l[i].toNat : Int) = x) := ⟨_, (byte_lt l[i]).1, (byte_lt l[i]).2, rfl⟩
      unfold bcell at hc
      rw [HX.out] at hc
      have hi10' : (i : Int) < 10 := by omega
      clear hcell
      by_cases hbig : 128 ≤ x
      · go_wp2
        go_round
        case rel =>
          refine ⟨i + 1, _, by omega, by omega, by go_num, rfl, hid (fun j hj hjl => ?_)⟩
          by_cases hji : j < i
          · exact HB.out j hji hjl
          · obtain rfl : j = i := by omega
            have := HX.out
            omega
        case measure => simp [intOf]; omega
      · have hno : ¬ ((0 < i → 0 < x) ∧ (i = 9 → x ≤ 1)) := fun hh => HG.out i hil (by omega) (fun j hj => HB.out j hj _) (by have := HX.out; omega) (fun h0 => by have := HX.out; have := hh.1 h0; omega) (fun h9 => by have := HX.out; have := hh.2 h9; omega)
        have HN := hid hno
        clear hno
        go_wp2
        all_goals first
          | (go_ret2; exact ⟨rfl, rfl⟩)
          | (exfalso; refine HN.out ⟨fun _ => ?_, fun _ => ?_⟩ <;> omega)
    · by_cases hiL : i < L
      · obtain rfl : i = 10 := by omega
        go_wp2
        go_ret2
        exact ⟨rfl, rfl⟩
      · go_wp2
        go_ret2
        exact ⟨rfl, rfl⟩
end Go.Proofs.YtghophbabbaleaaGreatDoor
namespace Go.Proofs.YtghophbabbaleaaGreatDoor
set_option maxRecDepth 20000
open Go.RowKit
def tot (ls : List (List UInt8)) (k : Nat) : Nat := (ls.take k).flatten.length
theorem tot_zero (ls : List (List UInt8)) : tot ls 0 = 0 := by simp [tot]
theorem tot_succ (ls : List (List UInt8)) (k : Nat) (h : k < ls.length) : tot ls (k + 1) = tot ls k + ls[k].length := by
  unfold tot
  rw [List.take_succ_eq_append_getElem h, List.flatten_append, List.length_append]
  simp
theorem take_flat (ls : List (List UInt8)) (k : Nat) (h : k < ls.length) : (ls.take k).flatten ++ ls[k] = (ls.take (k + 1)).flatten := by
  rw [List.take_succ_eq_append_getElem h, List.flatten_append, List.flatten_singleton]
theorem tot_le (ls : List (List UInt8)) (k : Nat) : tot ls k ≤ ls.flatten.length := by
  unfold tot
  have := congrArg (fun l => l.flatten.length) (List.take_append_drop k ls)
  simp only [List.flatten_append, List.length_append] at this
  omega
set_option maxHeartbeats 1600000 in
theorem join_any (ls : List (List UInt8)) (vs : Nat → Value) (g n c : Nat) (w : World) (hn : ls.length = n) (hg : g < w.heap.size) (hc : ∀ j, j < n → w.cell? ⟨g, j, none⟩ = some (vs j))
    (hv : ∀ j (h : j < ls.length), Byt w (vs j) ls[j]) (hs : ls.flatten.length ≤ 1099511627776) (hn2 : n ≤ 1000) :
    Calls Tryz.prog 122 #[.slice (some ⟨g, 0, none⟩) n c] w fun e w' => ∃ v, e = .returned v ∧ Own w.heap.size w' v ls.flatten ∧ Below w.heap.size w w' := by
  obtain ⟨i0, hi, hz0, hz1, hz2⟩ := info_parts info_u8
  go_enter Tryz.func122, Tryz.ntmps122
  have Hn := hid hn
  clear hn
  go_wp2
  go_loop [3, 11] (fun sz ix => ∃ k : Nat, k ≤ n ∧ ix = .int .i64 k ∧ sz = .int .i64 (tot ls k)) (fun _ ix => n - (intOf ix).toNat)
  case atStart => exact ⟨0, Nat.zero_le _, rfl, by rw [tot_zero]; rfl⟩
  case round =>
    obtain ⟨k, hk, rfl, rfl⟩ := hrel
    have htk := tot_le ls k
    by_cases hlt : k < n
    · have hlt' : k < ls.length := by rw [Hn.out]; exact hlt
      have hck := hc k hlt
      obtain ⟨A, cp, hvk, _⟩ := hv k hlt'
      have hts := tot_succ ls k hlt'
      have htk1 := tot_le ls (k + 1)
      have hb : tot ls k + ls[k].length ≤ 1099511627776 := by omega
      rw [hvk] at hck
      have HT := hid hts
      clear hts hvk hc hv
      go_wp2
      go_round
      case rel => exact ⟨k + 1, by omega, by go_num, by rw [HT.out]; go_num⟩
      case measure => simp [intOf]; omega
    · obtain rfl : k = n := by omega
      have hb2 : i0.bytes * tot ls k ≤ 281474976710656 := by rw [hz2]; omega
      have hb3 : tot ls k ≤ maxLen := by unfold maxLen; omega
      go_wp2_with (at_make; refine wpList_make_own _ rfl _ _ 29 rfl w.heap.size 5 i0 (.int .u8 0) 1 under_bytes hi hz0 hz1 _ _ _ (tot ls k) rfl rfl rfl hb2 hb3 (Nat.le_refl _) ?_)
      intro w0 hown0 hgrow0
      have hb0 : Below w.heap.size w w0 := (Below.refl _ _).grown hgrow0 (Nat.le_refl _) (fun k h => by cases h)
      have hv0 : Own w.heap.size w0 (.slice (some ⟨w.heap.size, 0, none⟩) 0 (tot ls k)) [] := hown0
      clear hown0 hgrow0
      go_wp2
      go_loopw [6, 24] (fun out ix wr => ∃ j : Nat, j ≤ k ∧ ix = .int .i64 j ∧ Own w.heap.size wr out (ls.take j).flatten ∧ Below w.heap.size w wr) (fun _ ix _ => k - (intOf ix).toNat)
      case atStart => exact ⟨0, Nat.zero_le _, rfl, by simpa using hv0, hb0⟩
      case round =>
        obtain ⟨j, hj, rfl, hown, hbw⟩ := hrel
        by_cases hlt2 : j < k
        · have hlt' : j < ls.length := by rw [Hn.out]; exact hlt2
          have hcj : wr.cell? ⟨g, j, none⟩ = some (vs j) := (hbw.cell (p := ⟨g, j, none⟩) hg).trans (hc j hlt2)
          have hvj := (hv j hlt').below hbw
          have hsum : (ls.take j).flatten.length + ls[j].length ≤ 140737488355328 := by
            have := tot_succ ls j hlt'
            have := tot_le ls (j + 1)
            unfold tot at *
            omega
          have hbs := hbw.size
          go_wp2_with (at_builtin; refine wpList_append_byt rfl (.tmp 28) (.tmp 29) rfl rfl rfl hown hvj hsum hbs ?_; intro v1 w1 hown1 hg1 _)
          have hfl : (ls.take j).flatten ++ ls[j] = (ls.take (j + 1)).flatten := take_flat ls j hlt'
          have hb1 : Below w.heap.size w w1 := hbw.grown hg1 hbs (fun k hk => (World.ownsRow.lt hown k hk).1)
          rw [hfl] at hown1
          clear hfl hg1
          go_roundw
          case rel => exact ⟨j + 1, by omega, by go_num, hown1, hb1⟩
          case measure => simp [intOf]; omega
        · obtain rfl : j = k := by omega
          go_wp2
          go_ret
          refine ⟨_, rfl, ?_, hbw⟩
          have e : ls.take j = ls := by rw [← Hn.out]; exact List.take_length
          rw [e] at hown
          exact hown
end Go.Proofs.YtghophbabbaleaaGreatDoor
namespace Go.Proofs.YtghophbabbaleaaGreatDoor
set_option maxRecDepth 20000
open Go.RowKit
theorem or128 (k : Int) (h0 : 0 ≤ k) (h1 : k < 256) : bits BinOp.or IntKind.u8 k 128 = 128 + k % 128 := by
  obtain ⟨n, rfl⟩ := Int.eq_ofNat_of_zero_le h0
  have h : ∀ n : Fin 256, bits BinOp.or IntKind.u8 ((n.val : Nat) : Int) 128 = 128 + ((n.val : Nat) : Int) % 128 := by decide +kernel
  exact h ⟨n, by omega⟩
set_option maxHeartbeats 800000 in
theorem digits_any (n : Int) (w : World) (h0 : 0 ≤ n) (h1 : n < 18446744073709551616) :
    Calls Tryz.prog 152 #[.int .u64 n] w fun e w' => ∃ v, e = .returned v ∧ Own w.heap.size w' v (dg n.toNat) ∧ Below w.heap.size w w' := by
  obtain ⟨i0, hi, hz0, hz1, hz2⟩ := info_parts info_u8
  have hL := dg_len10 (n := n.toNat) (by omega)
  go_enter Tryz.func152, Tryz.ntmps152
  go_wp2_with (at_make; refine wpList_make_own _ rfl _ _ 29 rfl w.heap.size 5 i0 (.int .u8 0) 1 under_bytes hi hz0 hz1 _ _ _ 10 rfl rfl (by omega) ?b2 ?b3 (Nat.le_refl _) ?_)
  case b2 => rw [hz2]; omega
  case b3 => unfold maxLen; omega
  intro w0 hown0 hgrow0
  have hb0 : Below w.heap.size w w0 := (Below.refl _ _).grown hgrow0 (Nat.le_refl _) (fun k h => by cases h)
  have hv0 : Own w.heap.size w0 (.slice (some ⟨w.heap.size, 0, none⟩) 0 10) [] := hown0
  clear hown0 hgrow0
  go_wp2
  go_loopw [0, 3] (fun sn out wr => ∃ (m : Int) (acc : List UInt8), 0 ≤ m ∧ m < 18446744073709551616 ∧ sn = .int .u64 m ∧ Own w.heap.size wr out acc ∧ Hid (acc ++ dg m.toNat = dg n.toNat) ∧ acc.length ≤ 10 ∧ Below w.heap.size w wr)
    (fun sn _ _ => (intOf sn).toNat)
  case atStart => exact ⟨n, [], h0, h1, rfl, hv0, by simp [Hid], by simp, hb0⟩
  case round =>
    obtain ⟨m, acc, hm0, hm1, rfl, hown, heq, hal, hb⟩ := hrel
    by_cases hlt : m < 128
    · have hq : m = ((UInt8.ofNat m.toNat).toNat : Int) := by rw [UInt8.toNat_ofNat']; omega
      have hql : acc.length + [UInt8.ofNat m.toNat].length ≤ 140737488355328 := by simp; omega
      have hbs := hb.size
      have HQ := hid hq
      clear hq
      go_wp2_with (at_builtin; refine wpList_append_byt rfl (.tmp 15) (.tmp 18) rfl rfl rfl (hown.alloc _) (byt_one _ _ (UInt8.ofNat m.toNat) HQ.out) hql (by simp; omega) ?_; intro v1 w1 hown1 hg1 _)
      go_ret
      rw [dg_small (by omega)] at heq
      rw [heq.out] at hown1
      exact ⟨v1, rfl, hown1, (hb.alloc hbs _).grown hg1 (by simp; omega) (fun k hk => (World.ownsRow.lt hown k hk).1)⟩
    · have hq : bits BinOp.or IntKind.u8 (m % 256) 128 = ((UInt8.ofNat (128 + m.toNat % 128)).toNat : Int) := by
        rw [or128 _ (by omega) (by omega), UInt8.toNat_ofNat']; omega
      have hql : acc.length + [UInt8.ofNat (128 + m.toNat % 128)].length ≤ 140737488355328 := by simp; omega
      have hbs := hb.size
      have HQ := hid hq
      clear hq
      have hge : 128 ≤ m := by omega
      go_wp2_with (at_builtin; refine wpList_append_byt rfl (.tmp 7) (.tmp 11) rfl rfl rfl (hown.alloc _) (byt_one _ _ (UInt8.ofNat (128 + m.toNat % 128)) HQ.out) hql (by simp; omega) ?_; intro v1 w1 hown1 hg1 _)
      have hlen : (acc ++ [UInt8.ofNat (128 + m.toNat % 128)]).length ≤ 10 ∧ acc ++ [UInt8.ofNat (128 + m.toNat % 128)] ++ dg (m / 128).toNat = dg n.toNat := by
        have h2 := heq.out
        rw [dg_big (n := m.toNat) (by omega)] at h2
        have e : m.toNat / 128 = (m / 128).toNat := by omega
        rw [e] at h2
        have h3 := congrArg List.length h2
        have h4 := dg_pos (m / 128).toNat
        simp at h3
        exact ⟨by simp; omega, by simpa using h2⟩
      go_roundw
      case rel => exact ⟨m / 128, _, by omega, by omega, rfl, hown1, hid hlen.2, hlen.1, (hb.alloc hbs _).grown hg1 (by simp; omega) (fun k hk => (World.ownsRow.lt hown k hk).1)⟩
      case measure => simp [intOf]; omega
end Go.Proofs.YtghophbabbaleaaGreatDoor
namespace Go.Proofs.YtghophbabbaleaaGreatDoor
set_option maxRecDepth 20000
open Go.RowKit
theorem join1 (u : Value) (l : List UInt8) (g c : Nat) (w : World) (hg : g < w.heap.size) (c0 : w.cell? ⟨g, 0, none⟩ = some u) (hu : Byt w u l) (hs : l.length ≤ 1099511627776) :
    Calls Tryz.prog 122 #[.slice (some ⟨g, 0, none⟩) 1 c] w fun e w' => ∃ v, e = .returned v ∧ Own w.heap.size w' v l ∧ Below w.heap.size w w' := by
  have h := join_any [l] (fun _ => u) g 1 c w rfl hg (fun j hj => by
    match j, hj with
    | 0, _ => exact c0) (fun j hj => by
    match j, hj with
    | 0, _ => exact hu) (by simpa using hs) (by omega)
  simpa using h
theorem join2 (u v : Value) (l m : List UInt8) (g c : Nat) (w : World) (hg : g < w.heap.size) (c0 : w.cell? ⟨g, 0, none⟩ = some u) (c1 : w.cell? ⟨g, 1, none⟩ = some v) (hu : Byt w u l) (hv : Byt w v m) (hs : l.length + m.length ≤ 1099511627776) :
    Calls Tryz.prog 122 #[.slice (some ⟨g, 0, none⟩) 2 c] w fun e w' => ∃ x, e = .returned x ∧ Own w.heap.size w' x (l ++ m) ∧ Below w.heap.size w w' := by
  have h := join_any [l, m] (fun j => if j = 0 then u else v) g 2 c w rfl hg (fun j hj => by
    match j, hj with
    | 0, _ => exact c0
    | 1, _ => exact c1) (fun j hj => by
    match j, hj with
    | 0, _ => exact hu
    | 1, _ => exact hv) (by simpa using hs) (by omega)
  simpa using h
set_option maxHeartbeats 800000 in
theorem num_any (v : Value) (l : List UInt8) (n : Int) (w : World) (hv : Byt w v l) (h0 : 0 ≤ n) (h1 : n < 18446744073709551616) (hs : l.length ≤ 1099511627000) :
    Calls Tryz.prog 116 #[v, .int .u64 n] w fun e w' => ∃ x, e = .returned x ∧ Own w.heap.size w' x (l ++ dg n.toNat) ∧ Below w.heap.size w w' := by
  have hL := dg_len10 (n := n.toNat) (by omega)
  obtain ⟨A, c, rfl⟩ := hv.shape
  go_enter Tryz.func116, Tryz.ntmps116
  go_wp2_with fail
  refine (digits_any n w h0 h1).mono ?_
  rintro e w1 ⟨v1, rfl, hown1, hb1⟩
  have hbs := hb1.size
  obtain ⟨A1, c1, rfl⟩ := hown1.byt.shape
  go_wp2_with fail
  refine (join2 _ _ l (dg n.toNat) w1.heap.size 2 (w1.alloc (.cells #[.slice A l.length c, .slice A1 (dg n.toNat).length c1] 29)) (by simp) (by simp) (by simp) ((hv.below hb1).alloc _) (hown1.byt.alloc _) (by omega)).mono ?_
  rintro e w2 ⟨x, rfl, hown2, hb2⟩
  go_wp2_with fail
  go_ret
  exact ⟨x, rfl, hown2.more (by simp; omega), hb1.trans ((Below.alloc (Below.refl _ _) hbs _).trans (hb2.mono (by simp; omega)))⟩
end Go.Proofs.YtghophbabbaleaaGreatDoor
namespace Go.Proofs.YtghophbabbaleaaGreatDoor
set_option maxRecDepth 20000
open Go.RowKit
theorem cell_blk {w : World} {g : Nat} {cs : Array Value} {t : TypeId} (h : w.heap[g]? = some (.cells cs t (0, 0))) (i : Nat) : w.cell? ⟨g, i, none⟩ = cs[i]? := cell_of_row w g i cs t (0, 0) h
theorem free_blk {w : World} {g : Nat} {cs : Array Value} {t : TypeId} (h : w.heap[g]? = some (.cells cs t (0, 0))) (i : Nat) : w.frozen? ⟨g, i, none⟩ = false := by simp [World.frozen?, h]
theorem set_blk {w : World} {g : Nat} {cs : Array Value} {t : TypeId} (h : w.heap[g]? = some (.cells cs t (0, 0))) (i : Nat) (u : Value) : (w.setCell ⟨g, i, none⟩ u).heap[g]? = some (.cells (cs.setIfInBounds i u) t (0, 0)) := by
  simp [World.setCell, Array.getElem?_modify, h]
structure Rdr (w : World) (g : Nat) (l : List UInt8) (p : Nat) (r : Bool) : Prop where
  ex : ∃ A c, Own 0 w (.slice A l.length c) l ∧ w.heap[g]? = some (.cells #[.slice A l.length c, .int .i64 (p : Int), .bool r] 167 (0, 0))
  le : p ≤ l.length
section
variable {w w' : World} {g : Nat} {l : List UInt8} {p : Nat} {r : Bool}
theorem own_ne {B : Nat} {v : Value} {m : List UInt8} {cs : Array Value} {t : TypeId} (h : Own B w v m) (hg : w.heap[g]? = some (.cells cs t (0, 0))) (ht : 5 ≠ t) : v.ownBlock ≠ some g := by
  rcases h.2 with ⟨rfl, _⟩ | ⟨g', cap, cur, rfl, _, hh, _⟩
  · simp [Value.ownBlock]
  · intro he
    obtain rfl : g' = g := by simpa [Value.ownBlock] using he
    rw [hh] at hg
    injection hg with hg
    injection hg with _ h2
    exact ht h2
theorem Rdr.keep (h : Rdr w g l p r) (hk : ∀ b, b < w.heap.size → (b = g ∨ ∃ v, Own 0 w v l ∧ v.ownBlock = some b) → w'.heap[b]? = w.heap[b]?) : Rdr w' g l p r := by
  obtain ⟨⟨A, c, h1, h2⟩, h3⟩ := h
  exact ⟨⟨A, c, h1.keep fun b hb e => hk b hb (.inr ⟨_, h1, e⟩), (hk g (lt_of_block h2) (.inl rfl)).trans h2⟩, h3⟩
theorem Rdr.below (h : Rdr w g l p r) (hb : Below w.heap.size w w') : Rdr w' g l p r := h.keep fun b hlt _ => hb.block b hlt
theorem Rdr.apart {k : Nat} {cs : Array Value} {t : TypeId} (h : Rdr w g l p r) (hg : w.grownBy w' (some k)) (hk : w.heap[k]? = some (.cells cs t (0, 0))) (ht : 5 ≠ t) (hne : g ≠ k) : Rdr w' g l p r := h.keep fun b hlt hh => by
  refine hg.block b hlt fun e => ?_
  injection e with e
  rcases hh with e2 | ⟨v, hv, hvb⟩
  · exact hne (e2.symm.trans e)
  · subst e
    exact own_ne hv hk ht hvb
theorem Rdr.lt (h : Rdr w g l p r) : g < w.heap.size := by
  obtain ⟨_, _, _, h2⟩ := h.ex
  exact lt_of_block h2
theorem Rdr.drewN (h : Rdr w g l p r) (n : Nat) : Rdr (w.drewN n) g l p r := ⟨h.ex, h.le⟩
theorem Rdr.turn (h : Rdr w g l p r) (p' : Nat) (hp : p' ≤ l.length) : Rdr (w.setCell ⟨g, 1, none⟩ (.int .i64 (p' : Int))) g l p' r := by
  obtain ⟨A, c, h1, h2⟩ := h.ex
  exact ⟨⟨A, c, ownsRow_setCell_other h1 (own_ne h1 h2 (by decide)) _, by rw [set_blk h2]; rfl⟩, hp⟩
theorem Rdr.spoil (h : Rdr w g l p r) : Rdr (w.setCell ⟨g, 2, none⟩ (.bool false)) g l p false := by
  obtain ⟨A, c, h1, h2⟩ := h.ex
  exact ⟨⟨A, c, ownsRow_setCell_other h1 (own_ne h1 h2 (by decide)) _, by rw [set_blk h2]; rfl⟩, h.le⟩
theorem grown_set (w : World) (g i : Nat) (u : Value) : w.grownBy (w.setCell ⟨g, i, none⟩ u) (some g) :=
  ⟨rfl, rfl, rfl, by simp [World.setCell], fun k _ hk => Below.heap_setCell w _ u k (fun e => hk (by rw [e]))⟩
theorem grown_of_below {w w' : World} (h : Below w.heap.size w w') (row : Option Nat) : w.grownBy w' row := ⟨h.os, h.tape, h.output, h.size, fun k hk _ => h.block k hk⟩
theorem grown_drewN {a b : World} {row : Option Nat} (h : a.grownBy b row) (n : Nat) : a.grownBy (b.drewN n) row := ⟨h.os, h.tape, h.output, h.size, h.block⟩
end
set_option maxHeartbeats 800000 in
theorem read_any (v : Value) (l : List UInt8) (w : World) (hv : Byt w v l) (hs : l.length ≤ 1099511627776) :
    Calls Tryz.prog 79 #[v] w fun e w' => ∃ g, e = .returned (.pointer (some ⟨g, 0, none⟩)) ∧ w.heap.size ≤ g ∧ Rdr w' g l 0 true ∧ Below w.heap.size w w' := by
  obtain ⟨A, c, rfl⟩ := hv.shape
  go_enter Tryz.func79, Tryz.ntmps79
  go_wp2_with fail
  refine (join1 _ l w.heap.size 1 (w.alloc (.cells #[.slice A l.length c] 29)) (by simp) (by simp) (hv.alloc _) hs).mono ?_
  rintro e w1 ⟨v1, rfl, hown1, hb1⟩
  have hbs := hb1.size
  obtain ⟨A1, c1, rfl⟩ := hown1.byt.shape
  go_wp2_with fail
  go_ret
  simp at hbs
  refine ⟨_, rfl, by omega, ⟨⟨A1, c1, (hown1.more (Nat.zero_le _)).alloc _, heap_alloc_new w1 _⟩, Nat.zero_le _⟩, ?_⟩
  exact ((Below.alloc (Below.refl _ _) (Nat.le_refl _) _).trans (hb1.mono (by simp))).alloc (by omega) _
theorem wrong_any (g : Nat) (l : List UInt8) (p : Nat) (r : Bool) (w : World) (hr : Rdr w g l p r) :
    Calls Tryz.prog 125 #[.pointer (some ⟨g, 0, none⟩)] w fun e w' => e = .returned (.bool (!r)) ∧ w = w' := by
  obtain ⟨A, c, h1, h2⟩ := hr.ex
  have c2 := cell_blk h2 2
  simp at c2
  clear h1 h2 hr
  go_enter Tryz.func125, Tryz.ntmps125
  go_wp2
  go_ret
  exact ⟨rfl, rfl⟩
theorem left_any (g : Nat) (l : List UInt8) (p : Nat) (r : Bool) (w : World) (hr : Rdr w g l p r) (hl : l.length ≤ 1099511627776) :
    Calls Tryz.prog 126 #[.pointer (some ⟨g, 0, none⟩)] w fun e w' => e = .returned (.int .i64 ((l.length : Int) - (p : Int))) ∧ ∃ n, w' = w.drewN n := by
  obtain ⟨A, c, h1, h2⟩ := hr.ex
  have hp := hr.le
  have c0 := cell_blk h2 0
  have c1 := cell_blk h2 1
  simp at c0 c1
  clear h1 h2 hr
  go_enter Tryz.func126, Tryz.ntmps126
  go_wp2
  go_quiet (fail)
  go_wp2
  go_ret
  exact ⟨rfl, _, rfl⟩
theorem fail_any (g : Nat) (l : List UInt8) (p : Nat) (r : Bool) (w : World) (hr : Rdr w g l p r) :
    Calls Tryz.prog 123 #[.pointer (some ⟨g, 0, none⟩)] w fun e w' => e = .returned (.tuple #[]) ∧ w.setCell ⟨g, 2, none⟩ (.bool false) = w' := by
  obtain ⟨A, c, h1, h2⟩ := hr.ex
  have c2 := cell_blk h2 2
  have f2 := free_blk h2 2
  simp at c2
  clear h1 h2 hr
  go_enter Tryz.func123, Tryz.ntmps123
  go_wp2
  go_end0
  exact ⟨rfl, rfl⟩
end Go.Proofs.YtghophbabbaleaaGreatDoor
namespace Go.Proofs.YtghophbabbaleaaGreatDoor
set_option maxRecDepth 20000
open Go.RowKit
theorem Byt.cut {w : World} {A : Option Addr} {l : List UInt8} {c p : Nat} (h : Byt w (.slice A l.length c) l) (hp : p ≤ l.length) :
    Byt w (.slice (if c = p then A else A.map (·.add p)) (l.length - p) (c - p)) (l.drop p) := by
  obtain ⟨_, h1, h2, h3⟩ := h.at_
  refine ⟨_, c - p, by rw [List.length_drop], by rw [List.length_drop]; omega, by omega, fun hl => ?_⟩
  rw [List.length_drop] at hl
  obtain ⟨b, off, rfl, hb, hc⟩ := h3 (by omega)
  rw [if_neg (by omega)]
  refine ⟨b, off + p, by rw [Option.map_some, addr_add], hb, fun j hj => ?_⟩
  rw [List.length_drop] at hj
  rw [Nat.add_assoc, hc (p + j) (by omega), List.getElem_drop]
set_option maxHeartbeats 1600000 in
theorem number_any (g : Nat) (l : List UInt8) (p : Nat) (r : Bool) (most : Nat) (w : World) (hr : Rdr w g l p r) (hl : l.length ≤ 1099511627776) (_hm : most < 18446744073709551616) :
    Calls Tryz.prog 124 #[.pointer (some ⟨g, 0, none⟩), .int .u64 (most : Int)] w fun e w' =>
      e = .returned (.int .u64 ((rdNum most l p r).1 : Int)) ∧ Rdr w' g l (rdNum most l p r).2.1 (rdNum most l p r).2.2 ∧ w.grownBy w' (some g) := by
  cases r with
  | false =>
    have e : rdNum most l p false = (0, p, false) := rdNum_bad _ _ _
    rw [e]
    go_enter Tryz.func124, Tryz.ntmps124
    go_wp2_with fail
    refine (wrong_any g l p false w hr).mono ?_
    rintro e w' ⟨rfl, rfl⟩
    go_wp2_with fail
    go_ret
    exact ⟨rfl, hr, World.grownBy.refl _ _⟩
  | true =>
    obtain ⟨A, c, h1, h2⟩ := hr.ex
    have hp := hr.le
    have hby := (Own.byt h1).cut hp
    have c0 := cell_blk h2 0
    have c1 := cell_blk h2 1
    have f1 := free_blk h2 1
    simp at c0 c1
    clear h1 h2
    cases hf : frst (l.drop p) with
    | none =>
      have e : rdNum most l p true = (0, p, false) := rdNum_no hf
      rw [e]
      have hno := frst_none hf
      clear hf e
      go_enter Tryz.func124, Tryz.ntmps124
      go_wp2_with fail
      refine (wrong_any g l p true w hr).mono ?_
      rintro e w' ⟨rfl, rfl⟩
      go_wp2_with fail
      go_quiet ((go_at_call 156; exact Calls.quiet_of_same ((first_no _ _ _ (hby.drewN _) hno).mono fun _ _ h => ⟨h.1, h.2.symm⟩)))
      go_wp2_with fail
      all_goals
        refine (fail_any g l p true _ (hr.drewN _)).mono ?_
        rintro e w' ⟨rfl, rfl⟩
        go_wp2_with fail
        go_ret
        exact ⟨rfl, (hr.drewN _).spoil, (grown_drewN (World.grownBy.refl _ _) _).trans (grown_set _ g 2 _)⟩
    | some n =>
      obtain ⟨hn, hpre⟩ := frst_some hf
      have hk := dg_len10 hn
      have hk1 := dg_pos n
      have hpl := hpre.length_le
      rw [List.length_drop] at hpl
      have hz : (((dg n).length : Int) == 0) = false := by rw [beq_eq_false_iff_ne]; omega
      by_cases hle : n ≤ most
      · have e : rdNum most l p true = (n, p + (dg n).length, true) := rdNum_yes hf hle
        rw [e]
        clear hf e
        go_enter Tryz.func124, Tryz.ntmps124
        go_wp2_with fail
        refine (wrong_any g l p true w hr).mono ?_
        rintro e w' ⟨rfl, rfl⟩
        go_wp2_with fail
        go_quiet ((go_at_call 156; exact Calls.quiet_of_same ((first_yes _ _ n _ (hby.drewN _) hn hpre).mono fun _ _ h => ⟨h.1, h.2.symm⟩)))
        go_wp2_with fail
        all_goals
          go_ret
          have ht := (hr.drewN nq).turn (p + (dg n).length) (by omega)
          rw [Int.natCast_add] at ht
          exact ⟨rfl, ht, (grown_drewN (World.grownBy.refl _ _) _).trans (grown_set _ g 1 _)⟩
      · have e : rdNum most l p true = (0, p, false) := rdNum_big hf hle
        rw [e]
        clear hf e
        go_enter Tryz.func124, Tryz.ntmps124
        go_wp2_with fail
        refine (wrong_any g l p true w hr).mono ?_
        rintro e w' ⟨rfl, rfl⟩
        go_wp2_with fail
        go_quiet ((go_at_call 156; exact Calls.quiet_of_same ((first_yes _ _ n _ (hby.drewN _) hn hpre).mono fun _ _ h => ⟨h.1, h.2.symm⟩)))
        go_wp2_with fail
        all_goals
          refine (fail_any g l p true _ (hr.drewN _)).mono ?_
          rintro e w' ⟨rfl, rfl⟩
          go_wp2_with fail
          go_ret
          exact ⟨rfl, (hr.drewN _).spoil, (grown_drewN (World.grownBy.refl _ _) _).trans (grown_set _ g 2 _)⟩
def rdUpto (most : Int) (l : List UInt8) (p : Nat) (r : Bool) : Nat × Nat × Bool := if most < 0 then (0, p, false) else rdNum most.toNat l p r
theorem rdNum_le {most : Nat} {l : List UInt8} {p : Nat} {r : Bool} : (rdNum most l p r).1 ≤ most := by
  unfold rdNum
  split
  · exact Nat.zero_le _
  · split
    · split
      · assumption
      · exact Nat.zero_le _
    · exact Nat.zero_le _
theorem upto_any (g : Nat) (l : List UInt8) (p : Nat) (r : Bool) (most : Int) (w : World) (hr : Rdr w g l p r) (hl : l.length ≤ 1099511627776) (hm0 : -9223372036854775808 ≤ most) (hm1 : most ≤ 9223372036854775807) :
    Calls Tryz.prog 80 #[.pointer (some ⟨g, 0, none⟩), .int .i64 most] w fun e w' =>
      e = .returned (.int .i64 ((rdUpto most l p r).1 : Int)) ∧ Rdr w' g l (rdUpto most l p r).2.1 (rdUpto most l p r).2.2 ∧ w.grownBy w' (some g) := by
  by_cases hneg : most < 0
  · have e : rdUpto most l p r = (0, p, false) := by simp [rdUpto, hneg]
    rw [e]
    go_enter Tryz.func80, Tryz.ntmps80
    go_wp2_with fail
    refine (fail_any g l p r w hr).mono ?_
    rintro e w' ⟨rfl, rfl⟩
    go_wp2_with fail
    go_ret
    exact ⟨rfl, hr.spoil, grown_set _ g 2 _⟩
  · have e : rdUpto most l p r = rdNum most.toNat l p r := by simp [rdUpto, hneg]
    rw [e]
    obtain ⟨m, rfl⟩ := Int.eq_ofNat_of_zero_le (show 0 ≤ most by omega)
    rw [Int.toNat_natCast]
    have hle := rdNum_le (most := m) (l := l) (p := p) (r := r)
    go_enter Tryz.func80, Tryz.ntmps80
    go_wp2_with fail
    refine (number_any g l p r m w hr hl (by omega)).mono ?_
    rintro e w' ⟨rfl, h1, h2⟩
    go_wp2_with fail
    go_ret
    exact ⟨rfl, h1, h2⟩
theorem done_any (g : Nat) (l : List UInt8) (p : Nat) (r : Bool) (w : World) (hr : Rdr w g l p r) (hl : l.length ≤ 1099511627776) :
    Calls Tryz.prog 83 #[.pointer (some ⟨g, 0, none⟩)] w fun e w' => e = .returned (.bool (r && decide (p = l.length))) ∧ ∃ n, w' = w.drewN n := by
  cases r with
  | false =>
    go_enter Tryz.func83, Tryz.ntmps83
    go_wp2_with fail
    refine (wrong_any g l p false w hr).mono ?_
    rintro e w' ⟨rfl, rfl⟩
    go_wp2_with fail
    go_ret
    exact ⟨rfl, 0, rfl⟩
  | true =>
    go_enter Tryz.func83, Tryz.ntmps83
    go_wp2_with fail
    refine (wrong_any g l p true w hr).mono ?_
    rintro e w' ⟨rfl, rfl⟩
    go_wp2_with fail
    refine (left_any g l p true w hr hl).mono ?_
    rintro e w' ⟨rfl, n, rfl⟩
    go_wp2_with fail
    go_ret
    refine ⟨?_, n, rfl⟩
    have e : (((l.length : Int) - (p : Int) == 0) : Bool) = decide (p = l.length) := by
      rw [Bool.eq_iff_iff]
      simp
      omega
    rw [e]
    rfl
end Go.Proofs.YtghophbabbaleaaGreatDoor
