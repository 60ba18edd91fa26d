/-
  The reference's Quorum; the law's 'parts' tells whether numbers are unlike parts of so many.
-/
import Derived.Test.YtakigopjbbhjkaaDoorNode
import Derived.Test.YtakigopjbbhjkaaDoorRow
import Derived.Deep.QuietTactic
import Derived.BigQuiet
namespace Go.Proofs.YtakigopjbbhjkaaDoor
open Go.RowKit

set_option maxHeartbeats 1600000 in
theorem refQuorum_any (n : Int) (w : World) : Calls Tryd.prog 13 #[.int .i64 n] w fun e w' => e = .returned (.int .i64 (quoS n : Int)) ∧ w = w' := by
  go_enter Tryd.func13, Tryd.ntmps13
  go_wp2_with fail
  go_loopw [3] (fun si wr => ∃ f : Nat, f ≤ 11 ∧ si = .int .i64 (f : Int) ∧ Hid (w = wr) ∧ Hid (∀ k : Nat, k < f → n ≠ 2 * (k : Int) + 1)) (fun si _ => 11 - (intOf si).toNat)
  case atStart => exact ⟨0, Nat.zero_le _, rfl, hid rfl, hid fun k hk => absurd hk (by omega)⟩
  case round =>
    obtain ⟨f, hf, rfl, HW, HNE⟩ := hrel
    by_cases hlt : f ≤ 10
    · have h10 : (f : Int) ≤ 10 := by omega
      by_cases he : n = 2 * (f : Int) + 1
      · have HE := hid he
        have hq : (n == 2 * (f : Int) + 1) = true := by rw [he]; exact beq_self_eq_true _
        clear he
        go_wp2_with fail
        go_ret
        refine ⟨ret_i64 ?_, HW.out⟩
        have := HE.out
        unfold quoS
        rw [if_pos (by omega)]
        omega
      · have HE := hid he
        have hq : (n == 2 * (f : Int) + 1) = false := by rw [beq_eq_false_iff_ne]; exact he
        clear he
        go_wp2_with fail
        go_roundw
        case rel =>
          refine ⟨f + 1, by omega, by go_num, HW, hid fun k hk => ?_⟩
          by_cases h : k < f
          · exact HNE.out k h
          · obtain rfl : k = f := by omega
            exact HE.out
        case measure => simp [intOf]; omega
    · have h10 : ¬ (f : Int) ≤ 10 := by omega
      go_wp2_with fail
      go_ret
      refine ⟨ret_i64 ?_, HW.out⟩
      unfold quoS
      rw [if_neg fun h => HNE.out (n / 2).toNat (by omega) (by omega)]
      rfl

/-- The value is a slice that reads as the integers l. -/
def Ints (w : World) (v : Value) (l : List Int) : Prop := ∃ A c, v = .slice A l.length c ∧ (0 < l.length → ∃ b off, A = some ⟨b, off, none⟩ ∧ ∀ j, j < l.length → w.cell? ⟨b, off + j, none⟩ = some (.int .i64 (l.getD j 0)))
theorem row_ints {w : World} {a : Option Addr} {len cap : Nat} {zs : List Int} (h : IsRow .i64 w a len cap zs) : ∃ l : List Int, l.length = len ∧ Ints w (.slice a len cap) l := by
  rcases h with ⟨rfl, rfl, rfl, rfl⟩ | ⟨x, rfl, hl, hm, hz, hcell, hwz⟩
  · exact ⟨[], rfl, none, 0, rfl, fun h => absurd h (by simp)⟩
  · have hlen : (zs.take len).length = len := by simp; omega
    refine ⟨zs.take len, hlen, some x, cap, by rw [hlen], fun h0 => ?_⟩
    rw [hlen] at h0
    obtain ⟨b, off, spot⟩ := x
    have hc := hcell 0 (by omega)
    have hspot : spot = none := by simpa [Addr.add] using World.cell?_spot hc
    subst hspot
    refine ⟨b, off, rfl, fun j hj => ?_⟩
    rw [hlen] at hj
    have := hcell j (by omega)
    rw [addr_add] at this
    rw [this, List.getD_eq_getElem?_getD, List.getD_eq_getElem?_getD, List.getElem?_take_of_lt hj]

/-- The first i numbers are of 1 to n, and unlike. -/
def partsP (l : List Int) (n : Int) (i : Nat) : Prop := ∀ j, j < i → (1 ≤ l.getD j 0 ∧ l.getD j 0 ≤ n) ∧ ∀ k, k < j → l.getD k 0 ≠ l.getD j 0
noncomputable def partsT (l : List Int) (n : Int) : Bool := @decide (l.length ≤ 30 ∧ partsP l n l.length) (Classical.propDecidable _)
theorem partsT_true {l : List Int} {n : Int} : partsT l n = true ↔ l.length ≤ 30 ∧ partsP l n l.length := by
  unfold partsT
  exact @decide_eq_true_iff _ (Classical.propDecidable _)
theorem partsT_false {l : List Int} {n : Int} (h : ¬ (l.length ≤ 30 ∧ partsP l n l.length)) : partsT l n = false := by
  unfold partsT
  exact @decide_eq_false _ (Classical.propDecidable _) h
theorem partsP_all {l : List Int} {n : Int} (h : partsP l n l.length) : (∀ x ∈ l, 1 ≤ x ∧ x ≤ n) ∧ l.Nodup := by
  constructor
  · intro x hx
    obtain ⟨j, hj, rfl⟩ := List.getElem_of_mem hx
    have := (h j hj).1
    rwa [List.getD_eq_getElem?_getD, List.getElem?_eq_getElem hj] at this
  · rw [List.nodup_iff_pairwise_ne, List.pairwise_iff_getElem]
    intro i j hi hj hij
    have := (h j hj).2 i hij
    rwa [List.getD_eq_getElem?_getD, List.getD_eq_getElem?_getD, List.getElem?_eq_getElem hi, List.getElem?_eq_getElem hj] at this
theorem parts_meet {n : Int} {a b : List Int} (h0 : quoS n ≠ 0) (ha : partsT a n = true) (hb : partsT b n = true) (la : a.length = quoS n) (lb : b.length = quoS n) : ∃ i k, i < a.length ∧ k < b.length ∧ a.getD i 0 = b.getD k 0 := by
  have ha := partsP_all (partsT_true.1 ha).2
  have hb := partsP_all (partsT_true.1 hb).2
  unfold quoS at h0 la lb
  by_cases h : 1 ≤ n ∧ n ≤ 21 ∧ n % 2 = 1
  · rw [if_pos h] at la lb
    obtain ⟨m, rfl⟩ : ∃ m : Nat, n = (m : Int) := ⟨n.toNat, by omega⟩
    obtain ⟨x, hxa, hxb⟩ := lists_meet (n := m) ha.2 hb.2 ha.1 hb.1 (by rw [la, lb]; omega)
    obtain ⟨i, hi, hia⟩ := List.getElem_of_mem hxa
    obtain ⟨k, hk, hkb⟩ := List.getElem_of_mem hxb
    refine ⟨i, k, hi, hk, ?_⟩
    rw [List.getD_eq_getElem?_getD, List.getD_eq_getElem?_getD, List.getElem?_eq_getElem hi, List.getElem?_eq_getElem hk, Option.getD_some, Option.getD_some, hia, hkb]
  · rw [if_neg h] at h0
    exact absurd rfl h0

set_option maxHeartbeats 1600000 in
theorem parts_any (v : Value) (l : List Int) (n : Int) (w : World) (hv : Ints w v l) : Calls Tryd.prog 14 #[v, .int .i64 n] w fun e w' => e = .returned (.bool (partsT l n)) ∧ ∃ m, w' = w.drewN m := by
  obtain ⟨A, c, rfl, hr⟩ := hv
  obtain ⟨L, HL⟩ : ∃ L : Nat, Hid (l.length = L) := ⟨_, hid rfl⟩
  rw [HL.out] at hr ⊢
  have HR := hid hr
  clear hr
  by_cases hlong : 30 < L
  · have h30 : (30 : Int) < (L : Int) := by omega
    go_enter Tryd.func14, Tryd.ntmps14
    go_wp2_with fail
    go_ret
    refine ⟨ret_boolK (partsT_false fun h => ?_).symm, 0, rfl⟩
    have := h.1
    rw [HL.out] at this
    omega
  have h30 : ¬ (30 : Int) < (L : Int) := by omega
  go_enter Tryd.func14, Tryd.ntmps14
  go_wp2_with fail
  go_loopw [5] (fun si wr => ∃ i m : Nat, i ≤ L ∧ si = .int .i64 (i : Int) ∧ wr = w.drewN m ∧ Hid (partsP l n i)) (fun si _ => L - (intOf si).toNat)
  case atStart => exact ⟨0, 0, Nat.zero_le _, rfl, rfl, hid fun j hj => absurd hj (by omega)⟩
  case round =>
    obtain ⟨i, m, hi, rfl, rfl, HP⟩ := hrel
    by_cases hlt : i < L
    · have hiL : (i : Int) < (L : Int) := by omega
      obtain ⟨b, off, rfl, hcl⟩ := HR.out (by omega)
      have k1 := hcl i hlt
      have HC := hid hcl
      clear hcl
      obtain ⟨x, HX⟩ : ∃ x : Int, Hid (l.getD i 0 = x) := ⟨_, hid rfl⟩
      rw [HX.out] at k1
      by_cases hx1 : x < 1
      · go_wp2_with fail
        go_ret
        refine ⟨ret_boolK (partsT_false fun h => ?_).symm, m, rfl⟩
        have := (h.2 i (by rw [HL.out]; exact hlt)).1
        rw [HX.out] at this
        omega
      by_cases hx2 : n < x
      · go_wp2_with fail
        go_ret
        refine ⟨ret_boolK (partsT_false fun h => ?_).symm, m, rfl⟩
        have := (h.2 i (by rw [HL.out]; exact hlt)).1
        rw [HX.out] at this
        omega
      go_wp2_with fail
      go_loopw [6] (fun sk wr => ∃ k m : Nat, k ≤ i ∧ sk = .int .i64 (k : Int) ∧ wr = w.drewN m ∧ Hid (∀ j, j < k → l.getD j 0 ≠ l.getD i 0)) (fun sk _ => i - (intOf sk).toNat)
      case atStart => exact ⟨0, m, Nat.zero_le _, rfl, rfl, hid fun j hj => absurd hj (by omega)⟩
      case round =>
        obtain ⟨k, m2, hk, rfl, rfl, HK⟩ := hrel
        by_cases hlt2 : k < i
        · have hki : (k : Int) < (i : Int) := by omega
          have hkL : (k : Int) < (L : Int) := by omega
          have k2 := HC.out k (by omega)
          obtain ⟨y, HY⟩ : ∃ y : Int, Hid (l.getD k 0 = y) := ⟨_, hid rfl⟩
          rw [HY.out] at k2
          by_cases he : y = x
          · have HE := hid he
            have hq : (y == x) = true := by rw [he]; exact beq_self_eq_true x
            clear he
            go_wp2_with fail
            go_quiet (fail)
            go_wp2_with fail
            go_ret
            refine ⟨ret_boolK (partsT_false fun h => ?_).symm, _, World.drewN_drewN _ _ _⟩
            exact (h.2 i (by rw [HL.out]; exact hlt)).2 k hlt2 (by rw [HX.out, HY.out, HE.out])
          · have HE := hid he
            have hq : (y == x) = false := by rw [beq_eq_false_iff_ne]; exact he
            clear he
            go_wp2_with fail
            go_quiet (fail)
            go_wp2_with fail
            go_roundw
            case rel =>
              refine ⟨k + 1, _, by omega, by go_num, rfl, hid fun j hj => ?_⟩
              by_cases h : j < k
              · exact HK.out j h
              · obtain rfl : j = k := by omega
                rw [HX.out, HY.out]
                exact HE.out
            case measure => simp [intOf]; omega
        · have hki : ¬ (k : Int) < (i : Int) := by omega
          have ek : k = i := by omega
          have HEK := hid ek
          clear ek
          go_wp2_with fail
          go_roundw
          case rel =>
            refine ⟨i + 1, m2, by omega, by go_num, rfl, hid fun j hj => ?_⟩
            by_cases h : j < i
            · exact HP.out j h
            · obtain rfl : j = i := by omega
              refine ⟨by rw [HX.out]; omega, fun q hq => HK.out q (by rw [HEK.out]; exact hq)⟩
          case measure => simp [intOf]; omega
    · have hiL : ¬ (i : Int) < (L : Int) := by omega
      go_wp2_with fail
      go_ret
      refine ⟨ret_boolK (partsT_true.2 ⟨by rw [HL.out]; omega, ?_⟩).symm, m, rfl⟩
      have : l.length = i := by rw [HL.out]; omega
      rw [this]
      exact HP.out
end Go.Proofs.YtakigopjbbhjkaaDoor
