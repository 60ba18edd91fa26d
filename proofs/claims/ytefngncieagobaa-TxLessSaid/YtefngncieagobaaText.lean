/-
  What octet's readers read of a text.
-/
import Derived.Test.YtefngncieagobaaNumber
import Derived.StillTailTactics
namespace Go.Proofs.Ytefngncieagobaa
open Go.RowKit

theorem Byt.mid {w : World} {A : Option Addr} {l : List UInt8} {c q n : Nat} (h : Byt w (.slice A l.length c) l) (hq : q + n ≤ l.length) :
    Byt w (.slice (if c = q then A else A.map (·.add q)) n (c - q)) ((l.drop q).take n) := by
  obtain ⟨_, h1, h2, h3⟩ := h.at_
  have hlen : ((l.drop q).take n).length = n := by rw [List.length_take, List.length_drop]; omega
  refine ⟨_, c - q, by rw [hlen], by rw [hlen]; omega, by omega, fun hl => ?_⟩
  rw [hlen] at hl
  obtain ⟨b, off, rfl, hb, hc⟩ := h3 (by omega)
  rw [if_neg (by omega)]
  refine ⟨b, off + q, by rw [Option.map_some, addr_add], hb, fun j hj => ?_⟩
  rw [hlen] at hj
  rw [Nat.add_assoc, hc (q + j) (by omega), List.getElem_take, List.getElem_drop]

theorem rtext_nil (w : World) : Calls Try.prog 15 #[.pointer none] w fun e w' => e = .returned (.slice none 0 0) ∧ w = w' := by
  go_enter Try.func15, Try.ntmps15
  go_wp2_with fail
  refine (wrong_nil w).mono ?_
  rintro e w' ⟨rfl, rfl⟩
  go_wp2_with fail
  go_ret
  exact ⟨rfl, rfl⟩

/-- What a reading of a text leaves. -/
def TextRead (w : World) (g : Nat) (l : List UInt8) (res : List UInt8 × Nat × Bool) (e : Ending) (w' : World) : Prop :=
  ∃ v, e = .returned v ∧ Own w.heap.size w' v res.1 ∧ Rdr w' g l res.2.1 res.2.2 ∧ w.grownBy w' (some g)

theorem textRead_none {w w' : World} {g p : Nat} {l : List UInt8} (hr : Rdr w' g l p false) (hg : w.grownBy w' (some g)) : TextRead w g l ([], p, false) (.returned (.slice none 0 0)) w' :=
  ⟨_, rfl, Own.nil _ _, hr, hg⟩

set_option maxHeartbeats 3200000 in
theorem rtext_any (g : Nat) (l : List UInt8) (p : Nat) (r : Bool) (w : World) (hr : Rdr w g l p r) (hl : l.length ≤ 1099511627776) :
    Calls Try.prog 15 #[.pointer (some ⟨g, 0, none⟩)] w (TextRead w g l (rdText l p r)) := by
  cases r with
  | false =>
    rw [rdText_bad]
    go_enter Try.func15, Try.ntmps15
    go_wp2_with fail
    refine (wrong_any g l p false w hr).mono ?_
    rintro e w' ⟨rfl, rfl⟩
    go_wp2_with fail
    go_ret
    exact textRead_none hr (World.grownBy.refl _ _)
  | true =>
    obtain ⟨A, c, h1, h2⟩ := hr.ex
    have hp := hr.le
    have hby := (Own.byt h1).cut hp
    have c0 := cell_blk h2 0
    have c1 := cell_blk h2 1
    have f1 := free_blk h2 1
    simp at c0 c1
    cases hf : frst (l.drop p) with
    | none =>
      rw [rdText_no hf]
      have hno := frst_none hf
      clear hf
      go_enter Try.func15, Try.ntmps15
      go_wp2_with fail
      refine (wrong_any g l p true w hr).mono ?_
      rintro e w' ⟨rfl, rfl⟩
      go_wp2_with fail
      go_quiet ((go_at_call 25; exact Calls.quiet_of_same ((first_no _ _ _ (hby.drewN _) hno).mono fun _ _ h => ⟨h.1, h.2.symm⟩)))
      go_wp2_with fail
      all_goals
        refine (fail_any g l p true _ (hr.drewN _)).mono ?_
        rintro e w' ⟨rfl, rfl⟩
        go_wp2_with fail
        go_ret
        exact textRead_none (hr.drewN _).spoil ((grown_drewN (World.grownBy.refl _ _) _).trans (grown_set _ g 2 _))
    | some n =>
      obtain ⟨hn, hpre⟩ := frst_some hf
      have hk := dg_len10 hn
      have hk1 := dg_pos n
      have hpl := hpre.length_le
      rw [List.length_drop] at hpl
      have hz : (((dg n).length : Int) == 0) = false := by rw [beq_eq_false_iff_ne]; omega
      have hlc := (Own.byt h1).at_.2.1
      have hcm := (Own.byt h1).at_.2.2.1
      have hcp : ¬ c = p := by omega
      rw [if_neg hcp] at hby
      by_cases hle : n ≤ 65536
      · by_cases hfit : p + (dg n).length + n ≤ l.length
        · rw [rdText_yes hf hle hfit]
          clear hf
          have ht : ¬ ((l.length : Int) - (p : Int) - ((dg n).length : Int) < (n : Int)) := by omega
          go_enter Try.func15, Try.ntmps15
          go_wp2_with fail
          refine (wrong_any g l p true w hr).mono ?_
          rintro e w' ⟨rfl, rfl⟩
          go_wp2_with fail
          go_quiet ((go_at_call 25; exact Calls.quiet_of_same ((first_yes _ _ n _ (hby.drewN _) hn hpre).mono fun _ _ h => ⟨h.1, h.2.symm⟩)))
          go_wp2_with fail
          all_goals
            refine (left_any g l p true _ (hr.drewN _) hl).mono ?_
            rintro e w' ⟨rfl, m, rfl⟩
            go_wp2_with fail
          have hR := (hr.drewN (nq + m)).turn (p + (dg n).length + n) hfit
          have hG := (grown_drewN (World.grownBy.refl w (some g)) (nq + m)).trans (grown_set _ g 1 (.int .i64 ((p + (dg n).length + n : Nat) : Int)))
          have h1' := own_turn (w := w.drewN (nq + m)) h1 h2 1 (.int .i64 ((p + (dg n).length + n : Nat) : Int))
          have h2' := set_blk (w := w.drewN (nq + m)) h2 1 (.int .i64 ((p + (dg n).length + n : Nat) : Int))
          rw [Int.natCast_add, Int.natCast_add] at hR hG h1' h2'
          generalize (w.drewN (nq + m)).setCell ⟨g, 1, none⟩ (.int .i64 ((p : Int) + ((dg n).length : Int) + (n : Int))) = w2 at *
          have d0 := cell_blk h2' 0
          have d1 := cell_blk h2' 1
          simp at d0 d1
          have hmid := h1'.byt.mid (q := p + (dg n).length) (n := n) hfit
          have hfl : ((l.drop (p + (dg n).length)).take n).length ≤ 1099511627776 := by rw [List.length_take]; omega
          obtain ⟨X, HX⟩ : ∃ X, Hid ((if c = p + (dg n).length then A else Option.map (fun x => x.add (p + (dg n).length)) A) = X) := ⟨_, rfl⟩
          rw [HX.out] at hmid
          have eX := HX.out
          have s1 : 0 ≤ (p : Int) + ((dg n).length : Int) + (n : Int) := by omega
          have s2 : (p : Int) + ((dg n).length : Int) + (n : Int) ≤ (c : Int) := by omega
          have s3 : 0 ≤ (p : Int) + ((dg n).length : Int) := by omega
          have s4 : (p : Int) + ((dg n).length : Int) ≤ (p : Int) + ((dg n).length : Int) + (n : Int) := by omega
          have s5 : ((p : Int) + ((dg n).length : Int)).toNat = p + (dg n).length := by omega
          have s6 : ((p : Int) + ((dg n).length : Int) + (n : Int)).toNat = p + (dg n).length + n := by omega
          have hg2 := hR.lt
          have hgs := hG.size
          clear c0 c1 h1' h2'
          go_still_tail 10, (by kernel_rfl)
          clear s1 s2 s3 s4 s5 s6 eX
          change wpList _ _ _ _ _ w2.drew
          have hmid' : Byt w2.drew _ _ := hmid
          have hR' : Rdr w2.drew g _ _ _ := hR.drewN 1
          have hG' : w.grownBy w2.drew (some g) := grown_drewN hG 1
          have hgs' : w.heap.size ≤ w2.drew.heap.size := hgs
          generalize w2.drew = w3 at *
          go_wp2_with fail
          refine (join1 _ _ w3.heap.size 1 (w3.alloc (.cells #[.slice X n (c - (p + (dg n).length))] 22)) (by simp) (by simp) (hmid'.alloc _) hfl).mono ?_
          rintro e w4 ⟨v4, rfl, hown4, hb4⟩
          go_wp2_with fail
          go_ret
          have hb5 : Below w3.heap.size w3 w4 := (Below.alloc (Below.refl _ _) (Nat.le_refl _) _).trans (hb4.mono (by simp))
          refine ⟨v4, rfl, hown4.more (by simp; omega), ?_, ?_⟩
          · exact hR'.below hb5
          · exact hG'.trans ⟨hb5.os, hb5.tape, hb5.output, hb5.size, fun k hk _ => hb5.block k hk⟩
        · rw [rdText_big hf (fun h => hfit h.2)]
          clear hf
          have ht : (l.length : Int) - (p : Int) - ((dg n).length : Int) < (n : Int) := by omega
          go_enter Try.func15, Try.ntmps15
          go_wp2_with fail
          refine (wrong_any g l p true w hr).mono ?_
          rintro e w' ⟨rfl, rfl⟩
          go_wp2_with fail
          go_quiet ((go_at_call 25; exact Calls.quiet_of_same ((first_yes _ _ n _ (hby.drewN _) hn hpre).mono fun _ _ h => ⟨h.1, h.2.symm⟩)))
          go_wp2_with fail
          all_goals
            refine (left_any g l p true _ (hr.drewN _) hl).mono ?_
            rintro e w' ⟨rfl, m, rfl⟩
            go_wp2_with fail
            refine (fail_any g l p true _ (hr.drewN _)).mono ?_
            rintro e w' ⟨rfl, rfl⟩
            go_wp2_with fail
            go_ret
            exact textRead_none (hr.drewN _).spoil ((grown_drewN (World.grownBy.refl _ _) _).trans (grown_set _ g 2 _))
      · rw [rdText_big hf (fun h => hle h.1)]
        clear hf
        have ht : (65536 : Int) < (n : Int) := by omega
        go_enter Try.func15, Try.ntmps15
        go_wp2_with fail
        refine (wrong_any g l p true w hr).mono ?_
        rintro e w' ⟨rfl, rfl⟩
        go_wp2_with fail
        go_quiet ((go_at_call 25; exact Calls.quiet_of_same ((first_yes _ _ n _ (hby.drewN _) hn hpre).mono fun _ _ h => ⟨h.1, h.2.symm⟩)))
        go_wp2_with fail
        all_goals
          refine (fail_any g l p true _ (hr.drewN _)).mono ?_
          rintro e w' ⟨rfl, rfl⟩
          go_wp2_with fail
          go_ret
          exact textRead_none (hr.drewN _).spoil ((grown_drewN (World.grownBy.refl _ _) _).trans (grown_set _ g 2 _))
end Go.Proofs.Ytefngncieagobaa
