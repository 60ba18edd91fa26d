/-
  What octet's readers read: a number, one up to a most, whether all is done.
-/
import Derived.Test.YtefngncieagobaaReader
namespace Go.Proofs.Ytefngncieagobaa
open Go.RowKit

theorem Byt.cut {w : World} {A : Option Addr} {l : List UInt8} {c p : Nat} (h : Byt w (.slice A l.length c) l) (hp : p ≤ l.length) :
    Byt w (.slice (if c = p then A else A.map (·.add p)) (l.length - p) (c - p)) (l.drop p) := by
  obtain ⟨_, h1, h2, h3⟩ := h.at_
  refine ⟨_, c - p, by rw [List.length_drop], by rw [List.length_drop]; omega, by omega, fun hl => ?_⟩
  rw [List.length_drop] at hl
  obtain ⟨b, off, rfl, hb, hc⟩ := h3 (by omega)
  rw [if_neg (by omega)]
  refine ⟨b, off + p, by rw [Option.map_some, addr_add], hb, fun j hj => ?_⟩
  rw [List.length_drop] at hj
  rw [Nat.add_assoc, hc (p + j) (by omega), List.getElem_drop]

theorem ret_u64 {a b : Int} (h : a = b) : Ending.returned (.int .u64 a) = Ending.returned (.int .u64 b) := by rw [h]

set_option maxHeartbeats 1600000 in
theorem number_any (g : Nat) (l : List UInt8) (p : Nat) (r : Bool) (most : Nat) (w : World) (hr : Rdr w g l p r) (hl : l.length ≤ 1099511627776) (_hm : most < 18446744073709551616) :
    Calls Try.prog 24 #[.pointer (some ⟨g, 0, none⟩), .int .u64 (most : Int)] w fun e w' =>
      e = .returned (.int .u64 ((rdNum most l p r).1 : Int)) ∧ Rdr w' g l (rdNum most l p r).2.1 (rdNum most l p r).2.2 ∧ w.grownBy w' (some g) := by
  cases r with
  | false =>
    have e : rdNum most l p false = (0, p, false) := rdNum_bad _ _ _
    rw [e]
    go_enter Try.func24, Try.ntmps24
    go_wp2_with fail
    refine (wrong_any g l p false w hr).mono ?_
    rintro e w' ⟨rfl, rfl⟩
    go_wp2_with fail
    go_ret
    exact ⟨rfl, hr, World.grownBy.refl _ _⟩
  | true =>
    obtain ⟨A, c, h1, h2⟩ := hr.ex
    have hp := hr.le
    have hby := (Own.byt h1).cut hp
    have c0 := cell_blk h2 0
    have c1 := cell_blk h2 1
    have f1 := free_blk h2 1
    simp at c0 c1
    clear h1 h2
    cases hf : frst (l.drop p) with
    | none =>
      have e : rdNum most l p true = (0, p, false) := rdNum_no hf
      rw [e]
      have hno := frst_none hf
      clear hf e
      go_enter Try.func24, Try.ntmps24
      go_wp2_with fail
      refine (wrong_any g l p true w hr).mono ?_
      rintro e w' ⟨rfl, rfl⟩
      go_wp2_with fail
      go_quiet ((go_at_call 25; exact Calls.quiet_of_same ((first_no _ _ _ (hby.drewN _) hno).mono fun _ _ h => ⟨h.1, h.2.symm⟩)))
      go_wp2_with fail
      all_goals
        refine (fail_any g l p true _ (hr.drewN _)).mono ?_
        rintro e w' ⟨rfl, rfl⟩
        go_wp2_with fail
        go_ret
        exact ⟨rfl, (hr.drewN _).spoil, (grown_drewN (World.grownBy.refl _ _) _).trans (grown_set _ g 2 _)⟩
    | some n =>
      obtain ⟨hn, hpre⟩ := frst_some hf
      have hk := dg_len10 hn
      have hk1 := dg_pos n
      have hpl := hpre.length_le
      rw [List.length_drop] at hpl
      have hz : (((dg n).length : Int) == 0) = false := by rw [beq_eq_false_iff_ne]; omega
      by_cases hle : n ≤ most
      · have e : rdNum most l p true = (n, p + (dg n).length, true) := rdNum_yes hf hle
        rw [e]
        clear hf e
        go_enter Try.func24, Try.ntmps24
        go_wp2_with fail
        refine (wrong_any g l p true w hr).mono ?_
        rintro e w' ⟨rfl, rfl⟩
        go_wp2_with fail
        go_quiet ((go_at_call 25; exact Calls.quiet_of_same ((first_yes _ _ n _ (hby.drewN _) hn hpre).mono fun _ _ h => ⟨h.1, h.2.symm⟩)))
        go_wp2_with fail
        all_goals
          go_ret
          have ht := (hr.drewN nq).turn (p + (dg n).length) (by omega)
          rw [Int.natCast_add] at ht
          exact ⟨rfl, ht, (grown_drewN (World.grownBy.refl _ _) _).trans (grown_set _ g 1 _)⟩
      · have e : rdNum most l p true = (0, p, false) := rdNum_big hf hle
        rw [e]
        clear hf e
        go_enter Try.func24, Try.ntmps24
        go_wp2_with fail
        refine (wrong_any g l p true w hr).mono ?_
        rintro e w' ⟨rfl, rfl⟩
        go_wp2_with fail
        go_quiet ((go_at_call 25; exact Calls.quiet_of_same ((first_yes _ _ n _ (hby.drewN _) hn hpre).mono fun _ _ h => ⟨h.1, h.2.symm⟩)))
        go_wp2_with fail
        all_goals
          refine (fail_any g l p true _ (hr.drewN _)).mono ?_
          rintro e w' ⟨rfl, rfl⟩
          go_wp2_with fail
          go_ret
          exact ⟨rfl, (hr.drewN _).spoil, (grown_drewN (World.grownBy.refl _ _) _).trans (grown_set _ g 2 _)⟩

theorem number_nil (m : Int) (w : World) : Calls Try.prog 24 #[.pointer none, .int .u64 m] w fun e w' => e = .returned (.int .u64 0) ∧ w = w' := by
  go_enter Try.func24, Try.ntmps24
  go_wp2_with fail
  refine (wrong_nil w).mono ?_
  rintro e w' ⟨rfl, rfl⟩
  go_wp2_with fail
  go_ret
  exact ⟨rfl, rfl⟩

/-- What is read up to a most. -/
def rdUpto (most : Int) (l : List UInt8) (p : Nat) (r : Bool) : Nat × Nat × Bool := if most < 0 then (0, p, false) else rdNum most.toNat l p r
theorem rdNum_le {most : Nat} {l : List UInt8} {p : Nat} {r : Bool} : (rdNum most l p r).1 ≤ most := by
  unfold rdNum
  split
  · exact Nat.zero_le _
  · split
    · split
      · assumption
      · exact Nat.zero_le _
    · exact Nat.zero_le _

theorem upto_any (g : Nat) (l : List UInt8) (p : Nat) (r : Bool) (most : Int) (w : World) (hr : Rdr w g l p r) (hl : l.length ≤ 1099511627776) (hm0 : -9223372036854775808 ≤ most) (hm1 : most ≤ 9223372036854775807) :
    Calls Try.prog 14 #[.pointer (some ⟨g, 0, none⟩), .int .i64 most] w fun e w' =>
      e = .returned (.int .i64 ((rdUpto most l p r).1 : Int)) ∧ Rdr w' g l (rdUpto most l p r).2.1 (rdUpto most l p r).2.2 ∧ w.grownBy w' (some g) := by
  by_cases hneg : most < 0
  · have e : rdUpto most l p r = (0, p, false) := by simp [rdUpto, hneg]
    rw [e]
    go_enter Try.func14, Try.ntmps14
    go_wp2_with fail
    refine (fail_any g l p r w hr).mono ?_
    rintro e w' ⟨rfl, rfl⟩
    go_wp2_with fail
    go_ret
    exact ⟨rfl, hr.spoil, grown_set _ g 2 _⟩
  · have e : rdUpto most l p r = rdNum most.toNat l p r := by simp [rdUpto, hneg]
    rw [e]
    obtain ⟨m, rfl⟩ := Int.eq_ofNat_of_zero_le (show 0 ≤ most by omega)
    rw [Int.toNat_natCast]
    have hle := rdNum_le (most := m) (l := l) (p := p) (r := r)
    go_enter Try.func14, Try.ntmps14
    go_wp2_with fail
    refine (number_any g l p r m w hr hl (by omega)).mono ?_
    rintro e w' ⟨rfl, h1, h2⟩
    go_wp2_with fail
    go_ret
    exact ⟨rfl, h1, h2⟩
theorem upto_nil (most : Int) (w : World) (hm0 : 0 ≤ most) (hm1 : most ≤ 9223372036854775807) : Calls Try.prog 14 #[.pointer none, .int .i64 most] w fun e w' => e = .returned (.int .i64 0) ∧ w = w' := by
  go_enter Try.func14, Try.ntmps14
  go_wp2_with fail
  refine (number_nil _ w).mono ?_
  rintro e w' ⟨rfl, rfl⟩
  go_wp2_with fail
  go_ret
  exact ⟨rfl, rfl⟩

end Go.Proofs.Ytefngncieagobaa
