/-
  The law of quorums: two lists of unlike parts, each as many as the quorum, have a part in common.
-/
import Derived.Test.YtakigopjbbhjkaaDoorKAwake
import Derived.Test.YtakigopjbbhjkaaDoorParts
import Derived.Deep.QuietTactic
import Derived.BigQuiet
namespace Go.Proofs.YtakigopjbbhjkaaDoor
open Go.RowKit

set_option maxHeartbeats 3200000 in
theorem lawKeysMeet_any (n : Int) (va : Value) (a : List Int) (vb : Value) (b : List Int) (w : World) (hw : (Lit.int .i64 n).wf = true) (ha : Ints w va a) (hb : Ints w vb b) (hK : Kst 1 w) :
    Calls Tryd.prog 4 #[.int .i64 n, va, vb] w fun e w' => e = .returned (.bool true) ∧ Below w.heap.size w w' := by
  have CQ := quorum_any n w hw
  have CA := parts_any va a n w ha
  have CB := fun m => parts_any vb b n (w.drewN m) hb
  have hmeet := @parts_meet n a b
  obtain ⟨q, HQ⟩ : ∃ q : Nat, Hid (quoS n = q) := ⟨_, hid rfl⟩
  obtain ⟨pa, HPA⟩ : ∃ q : Bool, Hid (partsT a n = q) := ⟨_, hid rfl⟩
  obtain ⟨pb, HPB⟩ : ∃ q : Bool, Hid (partsT b n = q) := ⟨_, hid rfl⟩
  rw [HQ.out] at CQ hmeet
  rw [HPA.out] at CA hmeet
  rw [HPB.out] at hmeet
  simp only [HPB.out] at CB
  have HCQ := hid CQ
  have HCA := hid CA
  have HCB := hid CB
  have HM := hid hmeet
  have HA := hid ha
  have HB := hid hb
  have HW := hid hw
  obtain ⟨A, ca, rfl, ra⟩ := ha
  obtain ⟨B, cb, rfl, rb⟩ := hb
  obtain ⟨La, HLA⟩ : ∃ L : Nat, Hid (a.length = L) := ⟨_, hid rfl⟩
  obtain ⟨Lb, HLB⟩ : ∃ L : Nat, Hid (b.length = L) := ⟨_, hid rfl⟩
  rw [HLA.out] at HCA ra ⊢
  rw [HLB.out] at HCB rb ⊢
  rw [HLA.out, HLB.out] at HM
  have HRA := hid ra
  have HRB := hid rb
  clear CQ CA CB hmeet hw ra rb HA HB
  by_cases hq : q = 0
  · subst hq
    go_enter Tryd.func4, Tryd.ntmps4
    go_wp2_with fail
    refine HCQ.out.mono ?_
    rintro e w1 ⟨rfl, rfl⟩
    go_wp2_with fail
    refine (keysAwake_any w hK).mono ?_
    rintro e w2 ⟨rfl, hb2⟩
    go_wp2_with fail
    go_ret
    exact ⟨rfl, hb2⟩
  have hq0 : ¬ (q : Int) = 0 := by omega
  have HQ0 := hid hq
  clear hq
  cases pa
  · go_enter Tryd.func4, Tryd.ntmps4
    go_wp2_with fail
    refine HCQ.out.mono ?_
    rintro e w1 ⟨rfl, rfl⟩
    go_wp2_with fail
    refine HCA.out.mono ?_
    rintro e w1 ⟨rfl, m, rfl⟩
    go_wp2_with fail
    refine (keysAwake_any (w.drewN _) (hK.below (below_drewN (Below.refl _ _) _))).mono ?_
    rintro e w2 ⟨rfl, hb2⟩
    go_wp2_with fail
    go_ret
    exact ⟨rfl, (below_drewN (Below.refl _ _) _).trans hb2⟩
  cases pb
  · go_enter Tryd.func4, Tryd.ntmps4
    go_wp2_with fail
    refine HCQ.out.mono ?_
    rintro e w1 ⟨rfl, rfl⟩
    go_wp2_with fail
    refine HCA.out.mono ?_
    rintro e w1 ⟨rfl, m, rfl⟩
    go_wp2_with fail
    refine (HCB.out m).mono ?_
    rintro e w1 ⟨rfl, m2, rfl⟩
    go_wp2_with fail
    refine (keysAwake_any (w.drewN _) (hK.below (below_drewN (Below.refl _ _) _))).mono ?_
    rintro e w2 ⟨rfl, hb2⟩
    go_wp2_with fail
    go_ret
    exact ⟨rfl, (below_drewN (Below.refl _ _) _).trans hb2⟩
  by_cases hla : ¬ La = q
  · have hla2 : ¬ (La : Int) = (q : Int) := by omega
    clear hla
    go_enter Tryd.func4, Tryd.ntmps4
    go_wp2_with fail
    refine HCQ.out.mono ?_
    rintro e w1 ⟨rfl, rfl⟩
    go_wp2_with fail
    refine HCA.out.mono ?_
    rintro e w1 ⟨rfl, m, rfl⟩
    go_wp2_with fail
    refine (HCB.out m).mono ?_
    rintro e w1 ⟨rfl, m2, rfl⟩
    go_wp2_with fail
    refine (keysAwake_any (w.drewN _) (hK.below (below_drewN (Below.refl _ _) _))).mono ?_
    rintro e w2 ⟨rfl, hb2⟩
    go_wp2_with fail
    go_ret
    exact ⟨rfl, (below_drewN (Below.refl _ _) _).trans hb2⟩
  replace hla := Decidable.not_not.1 hla
  by_cases hlb : ¬ Lb = q
  · subst hla
    have hlb2 : ¬ (Lb : Int) = (La : Int) := by omega
    have hlb3 : ((Lb : Int) != (La : Int)) = true := by rw [bne_iff_ne]; exact hlb2
    have hla0 : ((La : Int) == 0) = false := by rw [beq_eq_false_iff_ne]; exact hq0
    clear hlb hlb2
    go_enter Tryd.func4, Tryd.ntmps4
    go_wp2_with fail
    refine HCQ.out.mono ?_
    rintro e w1 ⟨rfl, rfl⟩
    go_wp2_with fail
    refine HCA.out.mono ?_
    rintro e w1 ⟨rfl, m, rfl⟩
    go_wp2_with fail
    refine (HCB.out m).mono ?_
    rintro e w1 ⟨rfl, m2, rfl⟩
    go_wp2_with fail
    refine (keysAwake_any (w.drewN _) (hK.below (below_drewN (Below.refl _ _) _))).mono ?_
    rintro e w2 ⟨rfl, hb2⟩
    go_wp2_with fail
    go_ret
    exact ⟨rfl, (below_drewN (Below.refl _ _) _).trans hb2⟩
  replace hlb := Decidable.not_not.1 hlb
  subst hla
  subst hlb
  have hmm := HM.out HQ0.out rfl rfl rfl rfl
  have HMM := hid hmm
  clear hmm HM
  have h30 : a.length ≤ 30 := (partsT_true.1 HPA.out).1
  rw [HLA.out] at h30
  go_enter Tryd.func4, Tryd.ntmps4
  go_wp2_with fail
  refine HCQ.out.mono ?_
  rintro e w1 ⟨rfl, rfl⟩
  go_wp2_with fail
  refine HCA.out.mono ?_
  rintro e w1 ⟨rfl, m, rfl⟩
  go_wp2_with fail
  refine (HCB.out m).mono ?_
  rintro e w1 ⟨rfl, m2, rfl⟩
  go_wp2_with fail
  go_loopw [8] (fun si wr => ∃ i m : Nat, i ≤ Lb ∧ si = .int .i64 (i : Int) ∧ wr = w.drewN m ∧ Hid (∀ j k, j < i → k < Lb → a.getD j 0 ≠ b.getD k 0)) (fun si _ => Lb - (intOf si).toNat)
  case atStart => exact ⟨0, _, Nat.zero_le _, rfl, rfl, hid fun j k hj _ => absurd hj (by omega)⟩
  case round =>
    obtain ⟨i, m3, hi, rfl, rfl, HI⟩ := hrel
    by_cases hlt : i < Lb
    · have hiL : (i : Int) < (Lb : Int) := by omega
      obtain ⟨ba, oa, rfl, cla⟩ := HRA.out (by omega)
      obtain ⟨bb, ob, rfl, clb⟩ := HRB.out (by omega)
      have k1 := cla i hlt
      have HCLB := hid clb
      clear cla clb
      obtain ⟨x, HX⟩ : ∃ x : Int, Hid (a.getD i 0 = x) := ⟨_, hid rfl⟩
      rw [HX.out] at k1
      go_wp2_with fail
      go_loopw [9] (fun sk wr => ∃ k m : Nat, k ≤ Lb ∧ sk = .int .i64 (k : Int) ∧ wr = w.drewN m ∧ Hid (∀ j, j < k → x ≠ b.getD j 0)) (fun sk _ => Lb - (intOf sk).toNat)
      case atStart => exact ⟨0, _, Nat.zero_le _, rfl, rfl, hid fun j hj => absurd hj (by omega)⟩
      case round =>
        obtain ⟨k, m4, hk, rfl, rfl, HK⟩ := hrel
        by_cases hlt2 : k < Lb
        · have hkL : (k : Int) < (Lb : Int) := by omega
          have k2 := HCLB.out k hlt2
          obtain ⟨y, HY⟩ : ∃ y : Int, Hid (b.getD k 0 = y) := ⟨_, hid rfl⟩
          rw [HY.out] at k2
          by_cases he : x = y
          · have hq : (x == y) = true := by rw [he]; exact beq_self_eq_true y
            clear he
            go_wp2_with fail
            go_quiet (fail)
            go_wp2_with fail
            refine (keysAwake_any (w.drewN _) (hK.below (below_drewN (Below.refl _ _) _))).mono ?_
            rintro e w2 ⟨rfl, hb2⟩
            go_wp2_with fail
            go_ret
            exact ⟨rfl, (below_drewN (Below.refl _ _) _).trans hb2⟩
          · have HE := hid he
            have hq : (x == y) = false := by rw [beq_eq_false_iff_ne]; exact he
            clear he
            go_wp2_with fail
            go_quiet (fail)
            go_wp2_with fail
            go_roundw
            case rel =>
              refine ⟨k + 1, _, by omega, by go_num, rfl, hid fun j hj => ?_⟩
              by_cases h : j < k
              · exact HK.out j h
              · obtain rfl : j = k := by omega
                rw [HY.out]
                exact HE.out
            case measure => simp [intOf]; omega
        · have hkL : ¬ (k : Int) < (Lb : Int) := by omega
          have HEK := hid (show k = Lb by omega)
          go_wp2_with fail
          go_roundw
          case rel =>
            refine ⟨i + 1, _, by omega, by go_num, rfl, hid fun j k' hj hk' => ?_⟩
            by_cases h : j < i
            · exact HI.out j k' h hk'
            · obtain rfl : j = i := by omega
              rw [HX.out]
              exact HK.out k' (by rw [HEK.out]; exact hk')
          case measure => simp [intOf]; omega
    · obtain ⟨i2, k2, h1, h2, h3⟩ := HMM.out
      exact absurd h3 (HI.out i2 k2 (by omega) h2)
end Go.Proofs.YtakigopjbbhjkaaDoor
