/-
  Number TxPure TxBack BkPure TxKey TxMay Arr: what each of them says stands at its head.
-/
import Derived.Test.YtekfkfpfnhoblaaDoorMg1
import Derived.LoopTactic
import Derived.Outline
import Derived.Laws.Rows
import Derived.Laws.Tables
import Derived.Laws.CopyOwn
import Derived.Deep.MidRow
import Derived.ChangeKeysEq
import Derived.Laws.StructEq
/-
  What octet's readers read: a number, one up to a most, whether all is done.
-/
namespace Go.Proofs.YtekfkfpfnhoblaaDoor
set_option maxRecDepth 20000
open Go.RowKit

theorem Byt.cut {w : World} {A : Option Addr} {l : List UInt8} {c p : Nat} (h : Byt w (.slice A l.length c) l) (hp : p ≤ l.length) :
    Byt w (.slice (if c = p then A else A.map (·.add p)) (l.length - p) (c - p)) (l.drop p) := by
  obtain ⟨_, h1, h2, h3⟩ := h.at_
  refine ⟨_, c - p, by rw [List.length_drop], by rw [List.length_drop]; omega, by omega, fun hl => ?_⟩
  rw [List.length_drop] at hl
  obtain ⟨b, off, rfl, hb, hc⟩ := h3 (by omega)
  rw [if_neg (by omega)]
  refine ⟨b, off + p, by rw [Option.map_some, addr_add], hb, fun j hj => ?_⟩
  rw [List.length_drop] at hj
  rw [Nat.add_assoc, hc (p + j) (by omega), List.getElem_drop]

theorem ret_u64 {a b : Int} (h : a = b) : Ending.returned (.int .u64 a) = Ending.returned (.int .u64 b) := by rw [h]

set_option maxHeartbeats 1600000 in
theorem number_any (g : Nat) (l : List UInt8) (p : Nat) (r : Bool) (most : Nat) (w : World) (hr : Rdr w g l p r) (hl : l.length ≤ 1099511627776) (_hm : most < 18446744073709551616) :
    Calls Tryd.prog 70 #[.pointer (some ⟨g, 0, none⟩), .int .u64 (most : Int)] w fun e w' =>
      e = .returned (.int .u64 ((rdNum most l p r).1 : Int)) ∧ Rdr w' g l (rdNum most l p r).2.1 (rdNum most l p r).2.2 ∧ w.grownBy w' (some g) := by
  cases r with
  | false =>
    have e : rdNum most l p false = (0, p, false) := rdNum_bad _ _ _
    rw [e]
    go_enter Tryd.func70, Tryd.ntmps70
    go_wp2_with fail
    refine (wrong_any g l p false w hr).mono ?_
    rintro e w' ⟨rfl, rfl⟩
    go_wp2_with fail
    go_ret
    exact ⟨rfl, hr, World.grownBy.refl _ _⟩
  | true =>
    obtain ⟨A, c, h1, h2⟩ := hr.ex
    have hp := hr.le
    have hby := (Own.byt h1).cut hp
    have c0 := cell_blk h2 0
    have c1 := cell_blk h2 1
    have f1 := free_blk h2 1
    simp at c0 c1
    clear h1 h2
    cases hf : frst (l.drop p) with
    | none =>
      have e : rdNum most l p true = (0, p, false) := rdNum_no hf
      rw [e]
      have hno := frst_none hf
      clear hf e
      go_enter Tryd.func70, Tryd.ntmps70
      go_wp2_with fail
      refine (wrong_any g l p true w hr).mono ?_
      rintro e w' ⟨rfl, rfl⟩
      go_wp2_with fail
      go_quiet ((go_at_call 82; exact Calls.quiet_of_same ((first_no _ _ _ (hby.drewN _) hno).mono fun _ _ h => ⟨h.1, h.2.symm⟩)))
      go_wp2_with fail
      all_goals
        refine (fail_any g l p true _ (hr.drewN _)).mono ?_
        rintro e w' ⟨rfl, rfl⟩
        go_wp2_with fail
        go_ret
        exact ⟨rfl, (hr.drewN _).spoil, (grown_drewN (World.grownBy.refl _ _) _).trans (grown_set _ g 2 _)⟩
    | some n =>
      obtain ⟨hn, hpre⟩ := frst_some hf
      have hk := dg_len10 hn
      have hk1 := dg_pos n
      have hpl := hpre.length_le
      rw [List.length_drop] at hpl
      have hz : (((dg n).length : Int) == 0) = false := by rw [beq_eq_false_iff_ne]; omega
      by_cases hle : n ≤ most
      · have e : rdNum most l p true = (n, p + (dg n).length, true) := rdNum_yes hf hle
        rw [e]
        clear hf e
        go_enter Tryd.func70, Tryd.ntmps70
        go_wp2_with fail
        refine (wrong_any g l p true w hr).mono ?_
        rintro e w' ⟨rfl, rfl⟩
        go_wp2_with fail
        go_quiet ((go_at_call 82; exact Calls.quiet_of_same ((first_yes _ _ n _ (hby.drewN _) hn hpre).mono fun _ _ h => ⟨h.1, h.2.symm⟩)))
        go_wp2_with fail
        all_goals
          go_ret
          have ht := (hr.drewN nq).turn (p + (dg n).length) (by omega)
          rw [Int.natCast_add] at ht
          exact ⟨rfl, ht, (grown_drewN (World.grownBy.refl _ _) _).trans (grown_set _ g 1 _)⟩
      · have e : rdNum most l p true = (0, p, false) := rdNum_big hf hle
        rw [e]
        clear hf e
        go_enter Tryd.func70, Tryd.ntmps70
        go_wp2_with fail
        refine (wrong_any g l p true w hr).mono ?_
        rintro e w' ⟨rfl, rfl⟩
        go_wp2_with fail
        go_quiet ((go_at_call 82; exact Calls.quiet_of_same ((first_yes _ _ n _ (hby.drewN _) hn hpre).mono fun _ _ h => ⟨h.1, h.2.symm⟩)))
        go_wp2_with fail
        all_goals
          refine (fail_any g l p true _ (hr.drewN _)).mono ?_
          rintro e w' ⟨rfl, rfl⟩
          go_wp2_with fail
          go_ret
          exact ⟨rfl, (hr.drewN _).spoil, (grown_drewN (World.grownBy.refl _ _) _).trans (grown_set _ g 2 _)⟩

theorem number_nil (m : Int) (w : World) : Calls Tryd.prog 70 #[.pointer none, .int .u64 m] w fun e w' => e = .returned (.int .u64 0) ∧ w = w' := by
  go_enter Tryd.func70, Tryd.ntmps70
  go_wp2_with fail
  refine (wrong_nil w).mono ?_
  rintro e w' ⟨rfl, rfl⟩
  go_wp2_with fail
  go_ret
  exact ⟨rfl, rfl⟩

/-- What is read up to a most. -/
def rdUpto (most : Int) (l : List UInt8) (p : Nat) (r : Bool) : Nat × Nat × Bool := if most < 0 then (0, p, false) else rdNum most.toNat l p r
theorem rdNum_le {most : Nat} {l : List UInt8} {p : Nat} {r : Bool} : (rdNum most l p r).1 ≤ most := by
  unfold rdNum
  split
  · exact Nat.zero_le _
  · split
    · split
      · assumption
      · exact Nat.zero_le _
    · exact Nat.zero_le _

theorem upto_any (g : Nat) (l : List UInt8) (p : Nat) (r : Bool) (most : Int) (w : World) (hr : Rdr w g l p r) (hl : l.length ≤ 1099511627776) (hm0 : -9223372036854775808 ≤ most) (hm1 : most ≤ 9223372036854775807) :
    Calls Tryd.prog 54 #[.pointer (some ⟨g, 0, none⟩), .int .i64 most] w fun e w' =>
      e = .returned (.int .i64 ((rdUpto most l p r).1 : Int)) ∧ Rdr w' g l (rdUpto most l p r).2.1 (rdUpto most l p r).2.2 ∧ w.grownBy w' (some g) := by
  by_cases hneg : most < 0
  · have e : rdUpto most l p r = (0, p, false) := by simp [rdUpto, hneg]
    rw [e]
    go_enter Tryd.func54, Tryd.ntmps54
    go_wp2_with fail
    refine (fail_any g l p r w hr).mono ?_
    rintro e w' ⟨rfl, rfl⟩
    go_wp2_with fail
    go_ret
    exact ⟨rfl, hr.spoil, grown_set _ g 2 _⟩
  · have e : rdUpto most l p r = rdNum most.toNat l p r := by simp [rdUpto, hneg]
    rw [e]
    obtain ⟨m, rfl⟩ := Int.eq_ofNat_of_zero_le (show 0 ≤ most by omega)
    rw [Int.toNat_natCast]
    have hle := rdNum_le (most := m) (l := l) (p := p) (r := r)
    go_enter Tryd.func54, Tryd.ntmps54
    go_wp2_with fail
    refine (number_any g l p r m w hr hl (by omega)).mono ?_
    rintro e w' ⟨rfl, h1, h2⟩
    go_wp2_with fail
    go_ret
    exact ⟨rfl, h1, h2⟩
theorem upto_nil (most : Int) (w : World) (hm0 : 0 ≤ most) (hm1 : most ≤ 9223372036854775807) : Calls Tryd.prog 54 #[.pointer none, .int .i64 most] w fun e w' => e = .returned (.int .i64 0) ∧ w = w' := by
  go_enter Tryd.func54, Tryd.ntmps54
  go_wp2_with fail
  refine (number_nil _ w).mono ?_
  rintro e w' ⟨rfl, rfl⟩
  go_wp2_with fail
  go_ret
  exact ⟨rfl, rfl⟩

theorem done_any (g : Nat) (l : List UInt8) (p : Nat) (r : Bool) (w : World) (hr : Rdr w g l p r) (hl : l.length ≤ 1099511627776) :
    Calls Tryd.prog 32 #[.pointer (some ⟨g, 0, none⟩)] w fun e w' => e = .returned (.bool (r && decide (p = l.length))) ∧ ∃ n, w' = w.drewN n := by
  cases r with
  | false =>
    go_enter Tryd.func32, Tryd.ntmps32
    go_wp2_with fail
    refine (wrong_any g l p false w hr).mono ?_
    rintro e w' ⟨rfl, rfl⟩
    go_wp2_with fail
    go_ret
    exact ⟨rfl, 0, rfl⟩
  | true =>
    go_enter Tryd.func32, Tryd.ntmps32
    go_wp2_with fail
    refine (wrong_any g l p true w hr).mono ?_
    rintro e w' ⟨rfl, rfl⟩
    go_wp2_with fail
    refine (left_any g l p true w hr hl).mono ?_
    rintro e w' ⟨rfl, n, rfl⟩
    go_wp2_with fail
    go_ret
    refine ⟨?_, n, rfl⟩
    have e : (((l.length : Int) - (p : Int) == 0) : Bool) = decide (p = l.length) := by
      rw [Bool.eq_iff_iff]
      simp
      omega
    rw [e]
    rfl
theorem done_nil (w : World) : Calls Tryd.prog 32 #[.pointer none] w fun e w' => e = .returned (.bool false) ∧ w = w' := by
  go_enter Tryd.func32, Tryd.ntmps32
  go_wp2_with fail
  refine (wrong_nil w).mono ?_
  rintro e w' ⟨rfl, rfl⟩
  go_wp2_with fail
  go_ret
  exact ⟨rfl, rfl⟩
end Go.Proofs.YtekfkfpfnhoblaaDoor

/-
  Transactions as plain data: which may be, their bytes, which one bytes begin with. No function of the program.
-/
namespace Go.Proofs.YtekfkfpfnhoblaaDoor
set_option maxRecDepth 20000

/-- A key's byte: a to z, 0 to 9. -/
def keyCh (c : UInt8) : Bool := (decide (97 ≤ c.toNat) && decide (c.toNat ≤ 122)) || (decide (48 ≤ c.toNat) && decide (c.toNat ≤ 57))
def keyOk (l : List UInt8) : Bool := l.all keyCh && (decide (1 ≤ l.length) && decide (l.length ≤ 16))

/-- A transaction. -/
structure TxM where
  fr : Int
  no : Int
  ki : Int
  to : Int
  am : Int
  key : List UInt8
  val : List UInt8
  deriving DecidableEq
def txv (t : TxM) : Go.Value := .agg #[.int .i64 t.fr, .int .i64 t.no, .int .i64 t.ki, .int .i64 t.to, .int .i64 t.am, .string (sb t.key), .string (sb t.val)]
def txZ : TxM := ⟨0, 0, 0, 0, 0, [], []⟩

/-- May it be? -/
def mayT (t : TxM) : Bool :=
  if t.fr < 1 ∨ 40 < t.fr ∨ t.no < 1 ∨ 1099511627776 < t.no then false else
  if t.ki = 1 then decide (1 ≤ t.to) && decide (t.to ≤ 40) && decide (0 ≤ t.am) && decide (t.am ≤ 1099511627776) && decide (t.key = []) && decide (t.val = []) else
  if t.ki = 2 then decide (t.to = 0) && decide (t.am = 0) && keyOk t.key && decide (t.val.length ≤ 200) else
  if t.ki = 3 then decide (t.to = 0) && decide (t.am = 0) && keyOk t.key && decide (t.val = []) else false

/-- Its bytes. -/
def bytesT (t : TxM) : List UInt8 :=
  dg t.fr.toNat ++ (dg t.no.toNat ++ (dg t.ki.toNat ++ (if t.ki = 1 then dg t.to.toNat ++ dg t.am.toNat else if t.ki = 2 then tx t.key ++ tx t.val else tx t.key)))

/-- What is read behind the kind. -/
def rdTail (l : List UInt8) (f n k p : Nat) (r : Bool) : TxM × Nat × Bool :=
  if k = 1 then (⟨f, n, k, (rdUpto 40 l p r).1, (rdUpto 1099511627776 l (rdUpto 40 l p r).2.1 (rdUpto 40 l p r).2.2).1, [], []⟩, (rdUpto 1099511627776 l (rdUpto 40 l p r).2.1 (rdUpto 40 l p r).2.2).2) else
  if k = 2 then (⟨f, n, k, 0, 0, (rdText l p r).1, (rdText l (rdText l p r).2.1 (rdText l p r).2.2).1⟩, (rdText l (rdText l p r).2.1 (rdText l p r).2.2).2) else
  if k = 3 then (⟨f, n, k, 0, 0, (rdText l p r).1, []⟩, (rdText l p r).2) else (⟨f, n, k, 0, 0, [], []⟩, p, r)
/-- What is read from a place on, whether it may be or not. -/
def rdRaw (l : List UInt8) (p : Nat) (r : Bool) : TxM × Nat × Bool :=
  let a := rdUpto 40 l p r
  let b := rdUpto 1099511627776 l a.2.1 a.2.2
  let c := rdUpto 3 l b.2.1 b.2.2
  rdTail l a.1 b.1 c.1 c.2.1 c.2.2
/-- Is there one? -/
def rdIs (l : List UInt8) (p : Nat) (r : Bool) : Bool := (rdRaw l p r).2.2 && mayT (rdRaw l p r).1
/-- Which one. -/
def rdTx (l : List UInt8) (p : Nat) (r : Bool) : TxM := if rdIs l p r = true then (rdRaw l p r).1 else txZ

theorem rdUpto_bad (m : Int) (l : List UInt8) (p : Nat) : rdUpto m l p false = (0, p, false) := by
  unfold rdUpto
  split
  · rfl
  · exact rdNum_bad _ _ _
theorem rdUpto_at {L r : List UInt8} {p n : Nat} {m : Int} (h : L.drop p = dg n ++ r) (hm : (n : Int) ≤ m) (hn : n < 18446744073709551616) : rdUpto m L p true = (n, p + (dg n).length, true) := by
  unfold rdUpto
  rw [if_neg (by omega), rdNum_yes (frst_eq hn ⟨r, h.symm⟩) (by omega)]
/-- What was read was written just so. -/
theorem rdUpto_so {L : List UInt8} {p n q : Nat} {r : Bool} {m : Int} (h : rdUpto m L p r = (n, q, true)) : r = true ∧ n < 18446744073709551616 ∧ (n : Int) ≤ m ∧ q = p + (dg n).length ∧ ∃ x, L.drop p = dg n ++ x := by
  unfold rdUpto at h
  split at h
  · cases h
  · cases r with
    | false => rw [rdNum_bad] at h; cases h
    | true =>
      cases hf : frst (L.drop p) with
      | none => rw [rdNum_no hf] at h; cases h
      | some k =>
        by_cases hk : k ≤ m.toNat
        · rw [rdNum_yes hf hk] at h
          cases h
          obtain ⟨h1, x, hx⟩ := frst_some hf
          exact ⟨rfl, h1, by omega, rfl, x, hx.symm⟩
        · rw [rdNum_big hf hk] at h; cases h
theorem rdText_so {L t : List UInt8} {p q : Nat} {r : Bool} (h : rdText L p r = (t, q, true)) : r = true ∧ t.length ≤ 65536 ∧ q = p + (tx t).length ∧ ∃ x, L.drop p = tx t ++ x := by
  cases r with
  | false => rw [rdText_bad] at h; cases h
  | true =>
    cases hf : frst (L.drop p) with
    | none => rw [rdText_no hf] at h; cases h
    | some k =>
      by_cases hk : k ≤ 65536 ∧ p + (dg k).length + k ≤ L.length
      · rw [rdText_yes hf hk.1 hk.2] at h
        obtain ⟨h1, x, hx⟩ := frst_some hf
        have hd := drop_more hx.symm
        injection h with ha hb
        injection hb with hb _
        have hl : t.length = k := by rw [← ha, List.length_take, List.length_drop]; omega
        subst ha
        refine ⟨rfl, by omega, ?_, x.drop k, ?_⟩
        · rw [tx_len, hl]; omega
        · unfold tx
          rw [hl, ← hx, List.append_assoc, hd, List.take_append_drop]
      · rw [rdText_big hf hk] at h; cases h
end Go.Proofs.YtekfkfpfnhoblaaDoor

/-
  What is put is read; what is read was written just so: transactions, as plain data. No function of the program.
-/
namespace Go.Proofs.YtekfkfpfnhoblaaDoor
set_option maxRecDepth 20000

theorem mayT_iff {t : TxM} (h : mayT t = true) : (1 ≤ t.fr ∧ t.fr ≤ 40) ∧ (1 ≤ t.no ∧ t.no ≤ 1099511627776) ∧
    ((t.ki = 1 ∧ (1 ≤ t.to ∧ t.to ≤ 40) ∧ (0 ≤ t.am ∧ t.am ≤ 1099511627776) ∧ t.key = [] ∧ t.val = []) ∨ (t.ki = 2 ∧ t.to = 0 ∧ t.am = 0 ∧ keyOk t.key = true ∧ t.val.length ≤ 200) ∨ (t.ki = 3 ∧ t.to = 0 ∧ t.am = 0 ∧ keyOk t.key = true ∧ t.val = [])) := by
  unfold mayT at h
  split at h
  · cases h
  · refine ⟨by omega, by omega, ?_⟩
    split at h
    · rename_i hk
      simp only [Bool.and_eq_true, decide_eq_true_eq] at h
      exact .inl ⟨hk, ⟨h.1.1.1.1.1, h.1.1.1.1.2⟩, ⟨h.1.1.1.2, h.1.1.2⟩, h.1.2, h.2⟩
    · split at h
      · rename_i hk
        simp only [Bool.and_eq_true, decide_eq_true_eq] at h
        exact .inr (.inl ⟨hk, h.1.1.1, h.1.1.2, h.1.2, h.2⟩)
      · split at h
        · rename_i hk
          simp only [Bool.and_eq_true, decide_eq_true_eq] at h
          exact .inr (.inr ⟨hk, h.1.1.1, h.1.1.2, h.1.2, h.2⟩)
        · cases h
theorem keyOk_len {l : List UInt8} (h : keyOk l = true) : 1 ≤ l.length ∧ l.length ≤ 16 := by
  unfold keyOk at h
  simp only [Bool.and_eq_true, decide_eq_true_eq] at h
  exact h.2
theorem nat_of {i : Int} (h : 0 ≤ i) : ∃ n : Nat, i = (n : Int) := ⟨i.toNat, by omega⟩
theorem bytesT_len {t : TxM} (h : mayT t = true) : (bytesT t).length ≤ 300 := by
  obtain ⟨h1, h2, h3⟩ := mayT_iff h
  have l1 := dg_len 0 t.fr.toNat (by omega)
  have l2 := dg_len10 (n := t.no.toNat) (by omega)
  have l3 := dg_len 0 t.ki.toNat (by rcases h3 with h | h | h <;> rw [h.1] <;> decide)
  unfold bytesT
  rw [List.length_append, List.length_append, List.length_append]
  rcases h3 with ⟨hk, ha, hb, _⟩ | ⟨hk, _, _, hk1, hv⟩ | ⟨hk, _, _, hk1, _⟩
  · have l4 := dg_len 0 t.to.toNat (by omega)
    have l5 := dg_len10 (n := t.am.toNat) (by omega)
    rw [if_pos hk, List.length_append]
    omega
  · have := keyOk_len hk1
    have l4 := dg_len10 (n := t.key.length) (by omega)
    have l5 := dg_len10 (n := t.val.length) (by omega)
    rw [if_neg (by rw [hk]; decide), if_pos hk, List.length_append, tx_len, tx_len]
    omega
  · have := keyOk_len hk1
    have l4 := dg_len10 (n := t.key.length) (by omega)
    rw [if_neg (by rw [hk]; decide), if_neg (by rw [hk]; decide), tx_len]
    omega

theorem bytesT_one (a b d e : Nat) (x y : List UInt8) : bytesT ⟨(a : Int), (b : Int), ((1 : Nat) : Int), (d : Int), (e : Int), x, y⟩ = dg a ++ (dg b ++ (dg 1 ++ (dg d ++ dg e))) := by
  unfold bytesT
  rw [if_pos (show ((1 : Nat) : Int) = 1 from rfl)]
  simp only [Int.toNat_natCast]
theorem bytesT_two (a b : Nat) (d e : Int) (x y : List UInt8) : bytesT ⟨(a : Int), (b : Int), ((2 : Nat) : Int), d, e, x, y⟩ = dg a ++ (dg b ++ (dg 2 ++ (tx x ++ tx y))) := by
  unfold bytesT
  rw [if_neg (show ¬ ((2 : Nat) : Int) = 1 by omega), if_pos (show ((2 : Nat) : Int) = 2 from rfl)]
  simp only [Int.toNat_natCast]
theorem bytesT_three (a b : Nat) (d e : Int) (x y : List UInt8) : bytesT ⟨(a : Int), (b : Int), ((3 : Nat) : Int), d, e, x, y⟩ = dg a ++ (dg b ++ (dg 3 ++ tx x)) := by
  unfold bytesT
  rw [if_neg (show ¬ ((3 : Nat) : Int) = 1 by omega), if_neg (show ¬ ((3 : Nat) : Int) = 2 by omega)]
  simp only [Int.toNat_natCast]

/-- What is put is read. -/
theorem rdRaw_back {t : TxM} {L r : List UInt8} {p : Nat} (hm : mayT t = true) (h : L.drop p = bytesT t ++ r) : rdRaw L p true = (t, p + (bytesT t).length, true) := by
  obtain ⟨h1, h2, h3⟩ := mayT_iff hm
  obtain ⟨fr, no, ki, to, am, key, val⟩ := t
  obtain ⟨a, rfl⟩ := nat_of (i := fr) (by have := h1.1; simp only at this; omega)
  obtain ⟨b, rfl⟩ := nat_of (i := no) (by have := h2.1; simp only at this; omega)
  obtain ⟨c, rfl⟩ := nat_of (i := ki) (by simp only at h3; omega)
  simp only at h1 h2 h3
  unfold bytesT at h ⊢
  simp only [Int.toNat_natCast, List.append_assoc] at h ⊢
  have d1 := drop_more h
  have d2 := drop_more d1
  have d3 := drop_more d2
  unfold rdRaw
  simp only [rdUpto_at (m := 40) h (by omega) (by omega), rdUpto_at (m := 1099511627776) d1 (by omega) (by omega), rdUpto_at (m := 3) d2 (by omega) (by omega)]
  unfold rdTail
  rcases h3 with ⟨hk, ha, hb, rfl, rfl⟩ | ⟨hk, rfl, rfl, hk1, hv⟩ | ⟨hk, rfl, rfl, hk1, rfl⟩
  · obtain ⟨d, rfl⟩ := nat_of (i := to) (by omega)
    obtain ⟨e, rfl⟩ := nat_of (i := am) (by omega)
    obtain rfl : c = 1 := by omega
    simp only [Int.toNat_natCast, ↓reduceIte, List.append_assoc, Int.cast_ofNat_Int] at d3 ⊢
    have d4 := drop_more d3
    simp only [rdUpto_at (m := 40) d3 (by omega) (by omega), rdUpto_at (m := 1099511627776) d4 (by omega) (by omega)]
    simp [Nat.add_assoc]
  · have hkl := keyOk_len hk1
    obtain rfl : c = 2 := by omega
    rw [if_neg (by decide), if_pos (by decide), List.append_assoc] at d3
    have d4 := drop_more d3
    simp only [rdText_at d3 (by omega), rdText_at d4 (by omega)]
    simp [Nat.add_assoc]
  · have hkl := keyOk_len hk1
    obtain rfl : c = 3 := by omega
    rw [if_neg (by decide), if_neg (by decide)] at d3
    simp only [rdText_at d3 (by omega)]
    simp [Nat.add_assoc]

/-- What is read was written just so. -/
theorem rdRaw_so {L : List UInt8} {p : Nat} {r : Bool} (h : (rdRaw L p r).2.2 = true) (hm : mayT (rdRaw L p r).1 = true) :
    r = true ∧ (rdRaw L p r).2.1 = p + (bytesT (rdRaw L p r).1).length ∧ ∃ x, L.drop p = bytesT (rdRaw L p r).1 ++ x := by
  unfold rdRaw at h hm ⊢
  obtain ⟨a, p1, r1, ha⟩ : ∃ x q s, rdUpto 40 L p r = (x, q, s) := ⟨_, _, _, rfl⟩
  obtain ⟨b, p2, r2, hb⟩ : ∃ x q s, rdUpto 1099511627776 L p1 r1 = (x, q, s) := ⟨_, _, _, rfl⟩
  obtain ⟨c, p3, r3, hc⟩ : ∃ x q s, rdUpto 3 L p2 r2 = (x, q, s) := ⟨_, _, _, rfl⟩
  simp only [ha, hb, hc] at h hm ⊢
  have key : ∀ x3, r3 = true → L.drop p3 = x3 → r = true ∧ p3 = p + ((dg a).length + ((dg b).length + (dg c).length)) ∧ L.drop p = dg a ++ (dg b ++ (dg c ++ x3)) := by
    intro x3 hr3 hx3
    subst hr3
    obtain ⟨rfl, _, _, e3, y3, hy3⟩ := rdUpto_so hc
    obtain ⟨rfl, _, _, e2, y2, hy2⟩ := rdUpto_so hb
    obtain ⟨rfl, _, _, e1, y1, hy1⟩ := rdUpto_so ha
    have z1 := drop_more hy1
    have z2 := drop_more hy2
    have z3 := drop_more hy3
    rw [← e1] at z1
    rw [← e2] at z2
    rw [← e3] at z3
    refine ⟨rfl, by omega, ?_⟩
    rw [hy1, ← z1, hy2, ← z2, hy3, ← z3, hx3]
  unfold rdTail at h hm ⊢
  split at h
  · rename_i hk
    subst hk
    rw [if_pos rfl] at hm
    rw [if_pos rfl]
    obtain ⟨d, p4, r4, hd⟩ : ∃ x q s, rdUpto 40 L p3 r3 = (x, q, s) := ⟨_, _, _, rfl⟩
    obtain ⟨e, p5, r5, he⟩ : ∃ x q s, rdUpto 1099511627776 L p4 r4 = (x, q, s) := ⟨_, _, _, rfl⟩
    simp only [hd, he] at h hm ⊢
    subst h
    obtain ⟨rfl, _, _, e5, y5, hy5⟩ := rdUpto_so he
    obtain ⟨rfl, _, _, e4, y4, hy4⟩ := rdUpto_so hd
    have z4 := drop_more hy4
    rw [← e4, hy5] at z4
    obtain ⟨k1, k2, k3⟩ := key _ rfl hy4
    rw [← z4] at k3
    refine ⟨k1, ?_, y5, ?_⟩
    · rw [bytesT_one]
      simp only [List.length_append]
      omega
    · rw [bytesT_one]
      simp only [List.append_assoc]
      exact k3
  · rename_i hk
    rw [if_neg hk] at hm
    rw [if_neg hk]
    split at h
    · rename_i hk2
      subst hk2
      rw [if_pos rfl] at hm
      rw [if_pos rfl]
      obtain ⟨d, p4, r4, hd⟩ : ∃ x q s, rdText L p3 r3 = (x, q, s) := ⟨_, _, _, rfl⟩
      obtain ⟨e, p5, r5, he⟩ : ∃ x q s, rdText L p4 r4 = (x, q, s) := ⟨_, _, _, rfl⟩
      simp only [hd, he] at h hm ⊢
      subst h
      obtain ⟨rfl, _, e5, y5, hy5⟩ := rdText_so he
      obtain ⟨rfl, _, e4, y4, hy4⟩ := rdText_so hd
      have z4 := drop_more hy4
      rw [← e4, hy5] at z4
      obtain ⟨k1, k2, k3⟩ := key _ rfl hy4
      rw [← z4] at k3
      refine ⟨k1, ?_, y5, ?_⟩
      · rw [bytesT_two]
        simp only [List.length_append]
        omega
      · rw [bytesT_two]
        simp only [List.append_assoc]
        exact k3
    · rename_i hk2
      rw [if_neg hk2] at hm
      rw [if_neg hk2]
      split at h
      · rename_i hk3
        subst hk3
        rw [if_pos rfl] at hm
        rw [if_pos rfl]
        obtain ⟨d, p4, r4, hd⟩ : ∃ x q s, rdText L p3 r3 = (x, q, s) := ⟨_, _, _, rfl⟩
        simp only [hd] at h hm ⊢
        subst h
        obtain ⟨rfl, _, e4, y4, hy4⟩ := rdText_so hd
        obtain ⟨k1, k2, k3⟩ := key _ rfl hy4
        refine ⟨k1, ?_, y4, ?_⟩
        · rw [bytesT_three]
          simp only [List.length_append]
          omega
        · rw [bytesT_three]
          simp only [List.append_assoc]
          exact k3
      · rename_i hk3
        rw [if_neg hk3] at hm
        exfalso
        obtain ⟨_, _, h3⟩ := mayT_iff hm
        simp only at h3
        omega

theorem rdTx_back {t : TxM} {L r : List UInt8} {p : Nat} (hm : mayT t = true) (h : L.drop p = bytesT t ++ r) : rdIs L p true = true ∧ rdTx L p true = t ∧ (rdRaw L p true).2.1 = p + (bytesT t).length := by
  have e := rdRaw_back hm h
  have hi : rdIs L p true = true := by unfold rdIs; rw [e, hm]; rfl
  exact ⟨hi, by unfold rdTx; rw [if_pos hi, e], by rw [e]⟩
theorem rdIs_iff {L : List UInt8} {p : Nat} {r : Bool} (h : rdIs L p r = true) : (rdRaw L p r).2.2 = true ∧ mayT (rdRaw L p r).1 = true := by
  unfold rdIs at h
  rwa [Bool.and_eq_true] at h
theorem rdTx_so {L : List UInt8} {p : Nat} {r : Bool} (h : rdIs L p r = true) : r = true ∧ mayT (rdTx L p r) = true ∧ (rdRaw L p r).2.1 = p + (bytesT (rdTx L p r)).length ∧ ∃ x, L.drop p = bytesT (rdTx L p r) ++ x := by
  obtain ⟨h1, h2⟩ := rdIs_iff h
  obtain ⟨k1, k2, k3⟩ := rdRaw_so h1 h2
  unfold rdTx
  rw [if_pos h]
  exact ⟨k1, h2, k2, k3⟩
end Go.Proofs.YtekfkfpfnhoblaaDoor

/-
  Blocks as plain data: which may be, their bytes, which one bytes are. No function of the program.
-/
namespace Go.Proofs.YtekfkfpfnhoblaaDoor
set_option maxRecDepth 20000

/-- A block. -/
structure BkM where
  par : List UInt8
  vi : Int
  he : Int
  bo : Int
  txs : List TxM
/-- The first block. -/
def bkZ : BkM := ⟨List.replicate 32 0, 0, 0, 0, []⟩
/-- Are blocks alike? -/
noncomputable def sameK (a b : BkM) : Bool := @decide (a = b) (Classical.propDecidable _)
theorem sameK_self (a : BkM) : sameK a a = true := by unfold sameK; exact @decide_eq_true _ (Classical.propDecidable _) rfl
theorem sameK_iff {a b : BkM} : sameK a b = true ↔ a = b := by unfold sameK; exact @decide_eq_true_iff _ (Classical.propDecidable _)
theorem sameK_no {a b : BkM} (h : a ≠ b) : sameK a b = false := by unfold sameK; exact @decide_eq_false _ (Classical.propDecidable _) h

/-- Has it what a block behind the first one has? -/
def numsK (b : BkM) : Bool := decide (1 ≤ b.vi) && decide (b.vi ≤ 1099511627776) && decide (1 ≤ b.he) && decide (b.he ≤ 1099511627776) && decide (1 ≤ b.bo) && decide (b.bo ≤ 21) && decide (b.txs.length ≤ 8)
/-- May it be? -/
noncomputable def mayK (b : BkM) : Bool := sameK b bkZ || (b.txs.all mayT && numsK b)
/-- Its bytes. -/
def bytesK (b : BkM) : List UInt8 :=
  b.par ++ (dg b.vi.toNat ++ (dg b.he.toNat ++ (dg b.bo.toNat ++ (dg b.txs.length ++ (b.txs.map bytesT).flatten))))

theorem mayK_first : mayK bkZ = true := by unfold mayK; rw [sameK_self]; rfl
theorem mayK_of {b : BkM} (h : mayK b = true) : b = bkZ ∨ (b.txs.all mayT = true ∧ 1 ≤ b.vi ∧ b.vi ≤ 1099511627776 ∧ 1 ≤ b.he ∧ b.he ≤ 1099511627776 ∧ 1 ≤ b.bo ∧ b.bo ≤ 21 ∧ b.txs.length ≤ 8) := by
  unfold mayK numsK at h
  rw [Bool.or_eq_true] at h
  rcases h with h | h
  · exact .inl (sameK_iff.1 h)
  · right
    simp only [Bool.and_eq_true, decide_eq_true_eq] at h
    obtain ⟨h0, ⟨⟨⟨⟨⟨h1, h2⟩, h3⟩, h4⟩, h5⟩, h6⟩, h7⟩ := h
    exact ⟨h0, h1, h2, h3, h4, h5, h6, h7⟩
theorem mayK_all {b : BkM} (h : mayK b = true) : (∀ t ∈ b.txs, mayT t = true) ∧ 0 ≤ b.vi ∧ b.vi ≤ 1099511627776 ∧ 0 ≤ b.he ∧ b.he ≤ 1099511627776 ∧ 0 ≤ b.bo ∧ b.bo ≤ 21 ∧ b.txs.length ≤ 8 := by
  rcases mayK_of h with rfl | ⟨h0, h⟩
  · refine ⟨fun t ht => absurd ht (by simp [bkZ]), ?_⟩
    simp [bkZ]
  · exact ⟨fun t ht => List.all_eq_true.1 h0 t ht, by omega, by omega, by omega, by omega, by omega, by omega, h.2.2.2.2.2.2⟩

/-- So many transactions read from a place on; where the next one is read. -/
def rdTxs (l : List UInt8) (p : Nat) (r : Bool) : Nat → Option (List TxM × Nat × Bool)
  | 0 => some ([], p, r)
  | k + 1 => match rdTxs l p r k with
    | none => none
    | some x => if rdIs l x.2.1 x.2.2 = true then some (x.1 ++ [rdTx l x.2.1 x.2.2], (rdRaw l x.2.1 x.2.2).2.1, true) else none
theorem rdTxs_len {l : List UInt8} {p : Nat} {r : Bool} : ∀ {k : Nat} {x : List TxM × Nat × Bool}, rdTxs l p r k = some x → x.1.length = k
  | 0, x, h => by cases h; rfl
  | k + 1, x, h => by
    unfold rdTxs at h
    split at h
    · cases h
    · rename_i y hy
      have := rdTxs_len hy
      split at h
      · cases h
        simp [this]
      · cases h
theorem rdTxs_none {l : List UInt8} {p : Nat} {r : Bool} {k : Nat} (h : rdTxs l p r k = none) : ∀ m, k ≤ m → rdTxs l p r m = none
  | 0, hm => by obtain rfl : k = 0 := by omega
                exact h
  | m + 1, hm => by
    by_cases e : k = m + 1
    · rw [← e]; exact h
    · unfold rdTxs
      rw [rdTxs_none h m (by omega)]
/-- What was put is read. -/
theorem rdTxs_back {L r : List UInt8} : ∀ (ts : List TxM) (p : Nat), (∀ t ∈ ts, mayT t = true) → L.drop p = (ts.map bytesT).flatten ++ r →
    ∀ k, k ≤ ts.length → rdTxs L p true k = some (ts.take k, p + ((ts.take k).map bytesT).flatten.length, true) := by
  intro ts p hm h k
  induction k with
  | zero => intro _; simp [rdTxs]
  | succ k ih =>
    intro hk
    have hlt : k < ts.length := by omega
    unfold rdTxs
    rw [ih (by omega)]
    have e1 : ts = ts.take k ++ (ts[k] :: ts.drop (k + 1)) := by
      rw [← List.drop_eq_getElem_cons hlt, List.take_append_drop]
    have hd : L.drop (p + ((ts.take k).map bytesT).flatten.length) = bytesT ts[k] ++ (((ts.drop (k + 1)).map bytesT).flatten ++ r) := by
      have h' := h
      rw [e1] at h'
      simp only [List.map_append, List.map_cons, List.flatten_append, List.flatten_cons, List.append_assoc] at h'
      exact drop_more h'
    obtain ⟨i1, i2, i3⟩ := rdTx_back (hm _ (List.getElem_mem hlt)) hd
    simp only [i1, i2, i3, ↓reduceIte]
    rw [List.take_succ_eq_append_getElem hlt]
    simp only [List.map_append, List.map_cons, List.map_nil, List.flatten_append, List.flatten_cons, List.flatten_nil, List.append_nil, List.length_append, Nat.add_assoc]
/-- What is read was written just so. -/
theorem rdTxs_so {L : List UInt8} {p : Nat} {r : Bool} : ∀ {k : Nat} {x : List TxM × Nat × Bool}, rdTxs L p r k = some x →
    x.2.2 = true → r = true ∧ (∀ t ∈ x.1, mayT t = true) ∧ x.2.1 = p + (x.1.map bytesT).flatten.length ∧ ∃ y, L.drop p = (x.1.map bytesT).flatten ++ y := by
  intro k
  induction k with
  | zero => intro x h hr; cases h; exact ⟨hr, fun t ht => absurd ht (by simp), by simp, L.drop p, by simp⟩
  | succ k ih =>
    intro x h hr
    unfold rdTxs at h
    split at h
    · cases h
    · rename_i y hy
      split at h
      · rename_i hi
        cases h
        obtain ⟨j1, j2, j3, z, j4⟩ := rdTx_so hi
        obtain ⟨i1, i2, i3, u, i4⟩ := ih hy j1
        have hz := drop_more i4
        rw [← i3, j4] at hz
        refine ⟨i1, fun t ht => ?_, ?_, z, ?_⟩
        · rcases List.mem_append.1 ht with ht | ht
          · exact i2 t ht
          · rw [List.mem_singleton.1 ht]; exact j2
        · simp only [List.map_append, List.map_cons, List.map_nil, List.flatten_append, List.flatten_cons, List.flatten_nil, List.append_nil, List.length_append]
          omega
        · rw [i4, ← hz]
          simp
      · cases h

theorem rdHash_32 (l : List UInt8) (p : Nat) (r : Bool) : (rdHash l p r).1.length = 32 := by
  unfold rdHash
  split
  · simp
  · split
    · simp; omega
    · simp
theorem rdHash_so {L h : List UInt8} {p q : Nat} {r : Bool} (e : rdHash L p r = (h, q, true)) : r = true ∧ h.length = 32 ∧ q = p + h.length ∧ ∃ x, L.drop p = h ++ x := by
  have h32 := rdHash_32 L p r
  rw [e] at h32
  simp only at h32
  unfold rdHash at e
  split at e
  · cases e
  · rename_i hr
    split at e
    · cases e
      refine ⟨by simpa using hr, h32, by omega, L.drop (p + 32), ?_⟩
      rw [← List.drop_drop, List.take_append_drop]
    · cases e

/-- What a block begins with. -/
structure HdM where
  par : List UInt8
  vi : Int
  he : Int
  bo : Int
  n : Nat
  p : Nat
  r : Bool
def rdHd (l : List UInt8) : HdM :=
  let a := rdHash l 0 true
  let b := rdUpto 1099511627776 l a.2.1 a.2.2
  let c := rdUpto 1099511627776 l b.2.1 b.2.2
  let d := rdUpto 21 l c.2.1 c.2.2
  let e := rdUpto 8 l d.2.1 d.2.2
  ⟨a.1, b.1, c.1, d.1, e.1, e.2.1, e.2.2⟩
/-- The block whose bytes they are. -/
noncomputable def getK (l : List UInt8) : Option BkM :=
  match rdTxs l (rdHd l).p (rdHd l).r (rdHd l).n with
  | none => none
  | some x => if x.2.2 = true ∧ mayK ⟨(rdHd l).par, (rdHd l).vi, (rdHd l).he, (rdHd l).bo, x.1⟩ = true ∧ bytesK ⟨(rdHd l).par, (rdHd l).vi, (rdHd l).he, (rdHd l).bo, x.1⟩ = l
    then some ⟨(rdHd l).par, (rdHd l).vi, (rdHd l).he, (rdHd l).bo, x.1⟩ else none

theorem getK_so {l : List UInt8} {b : BkM} (h : getK l = some b) : mayK b = true ∧ bytesK b = l := by
  unfold getK at h
  split at h
  · cases h
  · split at h
    · rename_i hc
      cases h
      exact hc.2
    · cases h
theorem hd_back {b : BkM} (hp : b.par.length = 32) (hm : mayK b = true) :
    rdHd (bytesK b) = ⟨b.par, b.vi, b.he, b.bo, b.txs.length, 32 + (dg b.vi.toNat).length + (dg b.he.toNat).length + (dg b.bo.toNat).length + (dg b.txs.length).length, true⟩ ∧
      (bytesK b).drop (32 + (dg b.vi.toNat).length + (dg b.he.toNat).length + (dg b.bo.toNat).length + (dg b.txs.length).length) = (b.txs.map bytesT).flatten ++ [] := by
  obtain ⟨_, h1, h2, h3, h4, h5, h6, h7⟩ := mayK_all hm
  obtain ⟨par, vi, he, bo, txs⟩ := b
  simp only at hp h1 h2 h3 h4 h5 h6 h7 ⊢
  obtain ⟨v, rfl⟩ := nat_of (i := vi) h1
  obtain ⟨e, rfl⟩ := nat_of (i := he) h3
  obtain ⟨o, rfl⟩ := nat_of (i := bo) h5
  have d0 : (bytesK ⟨par, (v : Int), (e : Int), (o : Int), txs⟩).drop 0 = par ++ (dg v ++ (dg e ++ (dg o ++ (dg txs.length ++ (txs.map bytesT).flatten)))) := by
    unfold bytesK
    simp only [List.drop_zero, Int.toNat_natCast]
  have d1 := drop_more d0
  rw [hp, Nat.zero_add] at d1
  have d2 := drop_more d1
  have d3 := drop_more d2
  have d4 := drop_more d3
  have d5 := drop_more d4
  unfold rdHd
  simp only [Int.toNat_natCast, rdHash_at d0 hp, Nat.zero_add, rdUpto_at (m := 1099511627776) d1 (by omega) (by omega), rdUpto_at (m := 1099511627776) d2 (by omega) (by omega),
    rdUpto_at (m := 21) d3 (by omega) (by omega), rdUpto_at (m := 8) d4 (by omega) (by omega)]
  refine ⟨trivial, ?_⟩
  rw [List.append_nil]
  exact d5
theorem getK_back {b : BkM} (hp : b.par.length = 32) (hm : mayK b = true) : getK (bytesK b) = some b := by
  obtain ⟨e1, e2⟩ := hd_back hp hm
  unfold getK
  rw [e1]
  simp only
  rw [rdTxs_back b.txs _ (mayK_all hm).1 e2 _ (Nat.le_refl _), List.take_of_length_le (Nat.le_refl _)]
  simp only
  rw [if_pos ⟨trivial, hm, trivial⟩]
/-- A hash that is read has 32 bytes. -/
theorem getK_par {l : List UInt8} {b : BkM} (h : getK l = some b) : b.par.length = 32 := by
  unfold getK at h
  split at h
  · cases h
  · split at h
    · cases h
      unfold rdHd
      simp only
      exact rdHash_32 l 0 true
    · cases h
/-- What was read to the end was written just so: no look at the bytes is wanted. -/
theorem getK_end {l : List UInt8} {x : List TxM × Nat × Bool} (h : rdTxs l (rdHd l).p (rdHd l).r (rdHd l).n = some x) (hr : x.2.2 = true) (he : x.2.1 = l.length) :
    bytesK ⟨(rdHd l).par, (rdHd l).vi, (rdHd l).he, (rdHd l).bo, x.1⟩ = l := by
  have hlen := rdTxs_len h
  obtain ⟨i1, i2, i3, z, i4⟩ := rdTxs_so h hr
  rw [i3] at he
  unfold rdHd at i1 i4 he hlen ⊢
  obtain ⟨a, p1, r1, ha⟩ : ∃ x q s, rdHash l 0 true = (x, q, s) := ⟨_, _, _, rfl⟩
  obtain ⟨b, p2, r2, hb⟩ : ∃ x q s, rdUpto 1099511627776 l p1 r1 = (x, q, s) := ⟨_, _, _, rfl⟩
  obtain ⟨c, p3, r3, hc⟩ : ∃ x q s, rdUpto 1099511627776 l p2 r2 = (x, q, s) := ⟨_, _, _, rfl⟩
  obtain ⟨d, p4, r4, hd⟩ : ∃ x q s, rdUpto 21 l p3 r3 = (x, q, s) := ⟨_, _, _, rfl⟩
  obtain ⟨e, p5, r5, hf⟩ : ∃ x q s, rdUpto 8 l p4 r4 = (x, q, s) := ⟨_, _, _, rfl⟩
  simp only [ha, hb, hc, hd, hf] at i1 i4 he hlen ⊢
  subst i1
  obtain ⟨rfl, _, _, q5, y5, hy5⟩ := rdUpto_so hf
  obtain ⟨rfl, _, _, q4, y4, hy4⟩ := rdUpto_so hd
  obtain ⟨rfl, _, _, q3, y3, hy3⟩ := rdUpto_so hc
  obtain ⟨rfl, _, _, q2, y2, hy2⟩ := rdUpto_so hb
  obtain ⟨_, _, q1, y1, hy1⟩ := rdHash_so ha
  have z1 := drop_more hy1
  rw [← q1] at z1
  have z2 := drop_more hy2
  have z3 := drop_more hy3
  have z4 := drop_more hy4
  have z5 := drop_more hy5
  have z6 := drop_more i4
  rw [hy2] at z1
  rw [← q2, hy3] at z2
  rw [← q3, hy4] at z3
  rw [← q4, hy5] at z4
  rw [← q5, i4] at z5
  rw [he, List.drop_eq_nil_of_le (Nat.le_refl _)] at z6
  rw [List.drop_zero] at hy1
  unfold bytesK
  simp only [Int.toNat_natCast]
  rw [hy1, ← z1, ← z2, ← z3, ← z4, ← z5, ← z6, hlen]
  simp
end Go.Proofs.YtekfkfpfnhoblaaDoor

/-
  tithingref06.Key and tithingref06.May: which keys and transactions there may be.
-/
namespace Go.Proofs.YtekfkfpfnhoblaaDoor
set_option maxRecDepth 20000
open Go.RowKit

theorem keyB_cases (c : UInt8) (y : Int) (hy : ((c.toNat : Nat) : Int) = y) : (keyCh c = true ∧ 97 ≤ y ∧ y ≤ 122) ∨ (keyCh c = true ∧ ¬ 97 ≤ y ∧ 48 ≤ y ∧ y ≤ 57) ∨ (keyCh c = false ∧ 122 < y) ∨ (keyCh c = false ∧ ¬ 97 ≤ y ∧ 57 < y) ∨ (keyCh c = false ∧ y < 48) := by
  subst hy
  unfold keyCh
  by_cases h1 : 97 ≤ c.toNat
  · by_cases h2 : c.toNat ≤ 122
    · exact .inl ⟨by simp [h1, h2], by omega, by omega⟩
    · exact .inr (.inr (.inl ⟨by simp [h2]; omega, by omega⟩))
  · by_cases h3 : 48 ≤ c.toNat
    · by_cases h4 : c.toNat ≤ 57
      · exact .inr (.inl ⟨by simp [h3, h4], by omega, by omega, by omega⟩)
      · exact .inr (.inr (.inr (.inl ⟨by simp [h1, h4], by omega, by omega⟩)))
    · exact .inr (.inr (.inr (.inr ⟨by simp [h1, h3], by omega⟩)))
theorem keyOk_no {l : List UInt8} {j : Nat} (hj : j < l.length) (h : keyCh (l.getD j 0) = false) : keyOk l = false := by
  unfold keyOk
  have hm : l.getD j 0 ∈ l := by rw [List.getD_eq_getElem?_getD, List.getElem?_eq_getElem hj]; exact List.getElem_mem hj
  have : l.all keyCh = false := by
    rw [Bool.eq_false_iff]
    intro ha
    rw [List.all_eq_true.1 ha _ hm] at h
    cases h
  rw [this, Bool.false_and]
theorem keyOk_yes {l : List UInt8} (h : ∀ j, j < l.length → keyCh (l.getD j 0) = true) : keyOk l = (decide (1 ≤ l.length) && decide (l.length ≤ 16)) := by
  unfold keyOk
  have : l.all keyCh = true := by
    rw [List.all_eq_true]
    intro c hc
    obtain ⟨j, hj, rfl⟩ := List.getElem_of_mem hc
    have := h j hj
    rwa [List.getD_eq_getElem?_getD, List.getElem?_eq_getElem hj] at this
  rw [this, Bool.true_and]

set_option maxHeartbeats 1600000 in
theorem refKey6_any (l : List UInt8) (w : World) (hs : l.length ≤ 1000000) :
    Calls Tryd.prog 42 #[.string (sb l)] w fun e w' => e = .returned (.bool (keyOk l)) ∧ w = w' := by
  have hsz := sb_size l
  obtain ⟨L, HL⟩ : ∃ L : Nat, Hid (l.length = L) := ⟨_, hid rfl⟩
  rw [HL.out] at hsz hs
  obtain ⟨s, HS⟩ : ∃ s : ByteArray, Hid (sb l = s) := ⟨_, hid rfl⟩
  rw [HS.out] at hsz ⊢
  go_enter Tryd.func42, Tryd.ntmps42
  go_wp2_with fail
  go_loopw [3] (fun si wr => ∃ i : Nat, i ≤ L ∧ si = .int .i64 (i : Int) ∧ Hid (∀ j, j < i → keyCh (l.getD j 0) = true) ∧ Hid (w = wr)) (fun si _ => L - (intOf si).toNat)
  case atStart => exact ⟨0, Nat.zero_le _, rfl, hid (fun j hj => absurd hj (Nat.not_lt_zero _)), hid rfl⟩
  case round =>
    obtain ⟨i, hi, rfl, HD, HW⟩ := hrel
    obtain rfl := HW.out
    clear HW
    by_cases hlt : i < L
    · have hiL : (i : Int) < (L : Int) := by omega
      have hil : i < l.length := by rw [HL.out]; exact hlt
      obtain ⟨y, HY⟩ : ∃ y : Int, Hid (((l.getD i 0).toNat : Int) = y) := ⟨_, hid rfl⟩
      have i0 : ∀ w : World, (Instr.index 9 (.string s) (.int .i64 (i : Int))).run Tryd.prog w = .ok (.int .u8 y) w := fun w => by
        rw [← HS.out]
        exact str_index l i hil _ rfl HY.out w
      have hr : 0 ≤ y ∧ y ≤ 255 := by have := byte_lt (l.getD i 0); rw [HY.out] at this; exact this
      have HNO : ∀ (_ : keyCh (l.getD i 0) = false), Hid (keyOk l = false) := fun h => hid (keyOk_no hil h)
      have HYES : ∀ (_ : keyCh (l.getD i 0) = true), Hid (∀ j, j < i + 1 → keyCh (l.getD j 0) = true) := fun h => hid (fun j hj => by
        rcases Nat.lt_or_ge j i with h2 | h2
        · exact HD.out j h2
        · obtain rfl : j = i := by omega
          exact h)
      obtain ⟨hk, h1, h2⟩ | ⟨hk, h1, h2, h3⟩ | ⟨hk, h1⟩ | ⟨hk, h1, h2⟩ | ⟨hk, h1⟩ := keyB_cases (l.getD i 0) y HY.out
      · have HY2 := HYES hk
        clear HNO HYES hk HD
        go_wp2_with fail
        go_roundw
        case rel => exact ⟨i + 1, by omega, by go_num, HY2, (by first | exact hid rfl | exact hid trivial)⟩
        case measure => simp [intOf]; omega
      · have HY2 := HYES hk
        clear HNO HYES hk HD
        go_wp2_with fail
        go_roundw
        case rel => exact ⟨i + 1, by omega, by go_num, HY2, (by first | exact hid rfl | exact hid trivial)⟩
        case measure => simp [intOf]; omega
      · have HN2 := HNO hk
        clear HNO HYES hk HD
        have h2 : 97 ≤ y := by omega
        have h3 : 48 ≤ y := by omega
        have h4 : ¬ y ≤ 57 := by omega
        have h5 : ¬ y ≤ 122 := by omega
        go_wp2_with fail
        go_ret
        exact ⟨by rw [HN2.out]; rfl, rfl⟩
      · have HN2 := HNO hk
        clear HNO HYES hk HD
        have h3 : 48 ≤ y := by omega
        have h4 : ¬ y ≤ 57 := by omega
        go_wp2_with fail
        go_ret
        exact ⟨by rw [HN2.out]; rfl, rfl⟩
      · have HN2 := HNO hk
        clear HNO HYES hk HD
        have h2 : ¬ 97 ≤ y := by omega
        have h3 : ¬ 48 ≤ y := by omega
        go_wp2_with fail
        go_ret
        exact ⟨by rw [HN2.out]; rfl, rfl⟩
    · have hiL : ¬ (i : Int) < (L : Int) := by omega
      obtain rfl : i = L := by omega
      have HK := hid (keyOk_yes (l := l) (by rw [HL.out]; exact HD.out))
      clear HD
      by_cases h1 : 1 ≤ i
      · have h1i : 1 ≤ (i : Int) := by omega
        by_cases h2 : i ≤ 16
        · have h2i : (i : Int) ≤ 16 := by omega
          go_wp2_with fail
          go_ret
          exact ⟨by rw [HK.out, HL.out, decide_eq_true h1, decide_eq_true h2]; rfl, rfl⟩
        · have h2i : ¬ (i : Int) ≤ 16 := by omega
          go_wp2_with fail
          go_ret
          exact ⟨by rw [HK.out, HL.out, decide_eq_true h1, decide_eq_false h2]; rfl, rfl⟩
      · have h1i : ¬ 1 ≤ (i : Int) := by omega
        go_wp2_with fail
        go_ret
        exact ⟨by rw [HK.out, HL.out, decide_eq_false h1]; rfl, rfl⟩
end Go.Proofs.YtekfkfpfnhoblaaDoor

/-
  tithingref06.May: which transactions there may be.
-/
namespace Go.Proofs.YtekfkfpfnhoblaaDoor
set_option maxRecDepth 20000
open Go.RowKit

set_option maxHeartbeats 6400000 in
theorem refMay_any (t : TxM) (w : World) (hk : t.key.length ≤ 1000000) (hv : t.val.length ≤ 1000000) :
    Calls Tryd.prog 23 #[txv t] w fun e w' => e = .returned (.bool (mayT t)) ∧ Below w.heap.size w w' := by
  obtain ⟨fr, no, ki, to, am, key, val⟩ := t
  simp only at hk hv
  have HK := hid hk
  have hvs := sb_size val
  have hke := sb_empty key
  have hve := sb_empty val
  clear hk hv
  unfold txv
  simp only
  obtain ⟨s, HS⟩ : ∃ s : ByteArray, Hid (sb key = s) := ⟨_, hid rfl⟩
  obtain ⟨u, HU⟩ : ∃ s : ByteArray, Hid (sb val = s) := ⟨_, hid rfl⟩
  obtain ⟨n, HN⟩ : ∃ n : Nat, Hid (val.length = n) := ⟨_, hid rfl⟩
  rw [HS.out] at hke ⊢
  rw [HU.out] at hve hvs ⊢
  rw [HN.out] at hvs
  obtain ⟨m, HM⟩ : ∃ m : Bool, Hid (mayT ⟨fr, no, ki, to, am, key, val⟩ = m) := ⟨_, hid rfl⟩
  rw [HM.out]
  obtain ⟨ke, HKE⟩ : ∃ b : Bool, Hid (decide (key = []) = b) := ⟨_, hid rfl⟩
  obtain ⟨ve, HVE⟩ : ∃ b : Bool, Hid (decide (val = []) = b) := ⟨_, hid rfl⟩
  rw [HKE.out] at hke
  rw [HVE.out] at hve
  go_enter Tryd.func23, Tryd.ntmps23
  go_wp2_with fail
  all_goals first
    | (have C := fun w => refKey6_any key w HK.out
       rw [HS.out] at C
       refine (C _).mono ?_
       clear C
       rintro e w1 ⟨rfl, rfl⟩
       obtain ⟨ko, HKO⟩ : ∃ b : Bool, Hid (keyOk key = b) := ⟨_, hid rfl⟩
       rw [HKO.out]
       have hko := HKO.out
       go_wp2_with fail)
    | skip
  all_goals
    go_ret
    refine ⟨?_, (Below.refl _ _).alloc (Nat.le_refl _) _⟩
    refine congrArg (fun b => Ending.returned (Value.bool b)) ?_
    rw [← HM.out]
    clear HM HS HU HK
    unfold mayT
    simp only [HKE.out, HVE.out, HN.out]
  all_goals grind
end Go.Proofs.YtekfkfpfnhoblaaDoor

/-
  A hash is an array of 32 bytes: how such a variable is laid, read and written whole; how bytes are copied into a row. Laws for the walk.
-/
namespace Go.Proofs.YtekfkfpfnhoblaaDoor
set_option maxRecDepth 20000
open Go.RowKit

/-- A hash's cells. -/
def hcells (h : List UInt8) : Array Value := (bcells h).toArray
/-- Noughts. -/
def nought : List UInt8 := List.replicate 32 0
theorem nought_length : nought.length = 32 := by simp [nought]
theorem hcells_size (h : List UInt8) : (hcells h).size = h.length := by simp [hcells, bcells]
theorem hcells_list (h : List UInt8) : (hcells h).toList = bcells h := by simp [hcells]
theorem hcells_one (h : List UInt8) : (hcells h).all (·.oneCell') = true := all_oneCell_toArray (bcells_one h)

theorem zero_hash : (Tryd.prog.info? 23).bind (·.zero) = some (.agg (hcells nought)) := by kernel_rfl
theorem size_hash : (Tryd.prog.info? 23).map (·.size) = some 32 := by kernel_rfl
theorem under_hash : Tryd.prog.underlying 23 = some (.array 32 5) := by kernel_rfl

theorem run_zero_hash (w : World) : (zeroValue 23).run Tryd.prog w = .ok (.agg (hcells nought)) w := by
  have h := zero_hash
  cases hq : Tryd.prog.info? 23 with
  | none => rw [hq] at h; cases h
  | some i =>
    rw [hq] at h
    have hz : i.zero = some (.agg (hcells nought)) := h
    simp [zeroValue, typeInfo, hq, hz]

theorem wpList_alloc_hash {ops : Array Oper} {rest : List Oper} {o : Oper} {a : Act} {w : World} {Q : Exit → Act → World → Prop} (hgd : o.guard = none) (ho : o.op = .alloc 23)
    (h : wpList Tryd.prog ops Q rest (a.put o.dst (.pointer (some ⟨w.heap.size, 0, none⟩))) (w.alloc (.cells (hcells nought) 23))) : wpList Tryd.prog ops Q (o :: rest) a w :=
  wpList_plain hgd fun _ hK => by
    unfold Oper.wp execOp
    simp only [ho, Sem.run_bind, Instr.alloc, run_zero_hash, newVar, newRow, run_newObj_alloc, Sem.run_pure, Result.andThen_ok, Value.cells]
    exact hK _ _ h

theorem wpList_load_hash {ops : Array Oper} {rest : List Oper} {o : Oper} {a : Act} {w : World} {Q : Exit → Act → World → Prop} (hgd : o.guard = none) (x : Operand) (ho : o.op = .load 23 x)
    {g : Nat} {t : TypeId} {h : List UInt8} (hx : a.eval x = .pointer (some ⟨g, 0, none⟩)) (hg : w.heap[g]? = some (.cells (hcells h) t (0, 0))) (hl : h.length = 32)
    (hh : wpList Tryd.prog ops Q rest (a.put o.dst (.agg (hcells h))) w) : wpList Tryd.prog ops Q (o :: rest) a w :=
  wpList_load_row hgd _ x ho g hx t (hcells h) (0, 0) _ hg under_hash rfl (by rw [size_hash, hcells_size, hl]) hh

theorem wpList_store_hash {ops : Array Oper} {rest : List Oper} {o : Oper} {a : Act} {w : World} {Q : Exit → Act → World → Prop} (hgd : o.guard = none) (x y : Operand) (ho : o.op = .store 23 x y)
    {g : Nat} {t : TypeId} {h h' : List UInt8} (hx : a.eval x = .pointer (some ⟨g, 0, none⟩)) (hy : a.eval y = .agg (hcells h')) (hg : w.heap[g]? = some (.cells (hcells h) t (0, 0))) (hl : h.length = 32) (hl' : h'.length = 32)
    (hh : ∀ w', w.grownBy w' (some g) → Hid (w'.heap[g]? = some (.cells (hcells h') t (0, 0))) → w'.heap.size = w.heap.size → wpList Tryd.prog ops Q rest (a.put o.dst undef) w') : wpList Tryd.prog ops Q (o :: rest) a w :=
  wpList_store_row hgd _ x y ho g (hcells h') hx hy t (hcells h) hg (by rw [size_hash, hcells_size, hl']) (by rw [hcells_size, hcells_size, hl, hl']) (hcells_one _)
    (hh _ ⟨rfl, rfl, rfl, by simp, fun k _ hk => setRow_other w g k _ (fun e => hk (by simp [e]))⟩ (setRow_heap w g _ _ t _ hg) (by simp))

/-- copy of bytes into a row that is known whole. -/
theorem wpList_copy_byt {ops : Array Oper} {rest : List Oper} {o : Oper} {a : Act} {w : World} {Q : Exit → Act → World → Prop} (hgd : o.guard = none) (d s : Operand)
    (ho : o.op = .call { callee := .builtin .copy, args := #[d, s], argTypes := #[29, 29] })
    {dp : Option Addr} {dLen dCap : Nat} {v : Value} {m : List UInt8} (hd : a.eval d = .slice dp dLen dCap) (hs : a.eval s = v) (hv : Byt w v m)
    {g off : Nat} {cur : List UInt8} {t : TypeId} (hg : w.heap[g]? = some (.cells (hcells cur) t (0, 0))) {k : Nat} (hk : k = Nat.min m.length dLen)
    (hdp : 0 < k → dp = some ⟨g, off, none⟩) (hfit : off + k ≤ cur.length)
    (h : ∀ w', w.grownBy w' (some g) → Hid (w'.heap[g]? = some (.cells (hcells (splice cur off (m.take k))) t (0, 0))) → w'.heap.size = w.heap.size → wpList Tryd.prog ops Q rest (a.put o.dst (goInt k)) w') :
    wpList Tryd.prog ops Q (o :: rest) a w := by
  obtain ⟨A, c, rfl, h1, h2, hr⟩ := hv
  have hsz : (Tryd.prog.info? 5).map (·.size) = some 1 := by kernel_rfl
  have hkm : k ≤ m.length := by rw [hk]; exact Nat.min_le_left _ _
  by_cases h0 : k = 0
  · subst h0
    refine wpList_copy_nothing hgd d s _ _ ho 5 under_bytes hsz dp A dLen dCap m.length c hd hs (by omega) ?_
    refine h w (World.grownBy.refl _ _) ?_ rfl
    have e : splice cur off (m.take 0) = cur := by simp [splice]
    rw [e]
    exact hid hg
  · obtain rfl := hdp (by omega)
    obtain ⟨b, off2, rfl, hb, hc⟩ := hr (by omega)
    have hlen : (bcells (m.take k)).length = k := by simp [bcells]; omega
    have hrow : (hcells cur).toList.take off ++ (bcells (m.take k) ++ (hcells cur).toList.drop (off + (bcells (m.take k)).length)) = bcells (splice cur off (m.take k)) := by
      rw [hlen, hcells_list]
      have : (m.take k).length = k := by simp; omega
      simp [splice, bcells, List.map_take, List.map_drop, this]
    refine wpList_copy_own hgd d s _ _ ho 5 under_bytes hsz g off dLen dCap ⟨b, off2, none⟩ m.length c hd hs (hcells cur) t hg (bcells (m.take k)) (by rw [hlen, hk]) ?_ (by rw [hlen, hcells_size]; exact hfit) (bcells_one _) ?_
    · intro j u hu
      obtain ⟨hj, rfl⟩ := bcells_get _ j u hu
      rw [addr_add]
      have hjm : j < m.length := by simp at hj; omega
      rw [hc j hjm, List.getElem_take]
    · rw [hrow, hlen]
      exact h _ ⟨rfl, rfl, rfl, by simp, fun q _ hq => setRow_other w g q _ (fun e => hq (by simp [e]))⟩ (setRow_heap w g _ _ t _ hg) (by simp)

theorem hcells_get (h : List UInt8) (i : Nat) (hi : i < h.length) : (hcells h)[i]? = some (bcell h[i]) := by simp [hcells, bcells, hi]

/-- Two hashes are the same where all their bytes are. -/
theorem eqItems_bytes (d : Nat) (a b : List UInt8) (w : World) : ∀ is : List Nat, (∀ i ∈ is, i < a.length ∧ i < b.length) →
    (Op.eqItems (d + 1) 5 (Tryd.prog.cellsOf 5) (hcells a) (hcells b) is).run Tryd.prog w = .ok (is.all fun i => decide (a[i]? = b[i]?)) w := by
  have hc : Tryd.prog.cellsOf 5 = 1 := by kernel_rfl
  have hp : Tryd.prog.plainKey 5 = true := by kernel_rfl
  have hu : Tryd.prog.underlying 5 = some (.int .u8) := by kernel_rfl
  rw [hc]
  intro is
  induction is with
  | nil => intro _; simp [Op.eqItems]
  | cons i is ih =>
    intro h
    obtain ⟨hi, hj⟩ := h i (by simp)
    have ih' := ih (fun j hj => h j (List.mem_cons_of_mem _ hj))
    have pa := run_part_plain (P := Tryd.prog) w hp (hcells_get a i hi)
    have pb := run_part_plain (P := Tryd.prog) w hp (hcells_get b i hj)
    have pe := run_equalIn_int (P := Tryd.prog) w d 5 .u8 .u8 (a[i].toNat : Int) (b[i].toNat : Int) hu
    unfold bcell at pa pb
    simp only [Op.eqItems, Sem.run_bind, Nat.mul_one, pa, pb, pe, Result.andThen_ok]
    by_cases e : a[i] = b[i]
    · simp [ih', hi, hj, e]
    · have e1 : ((a[i].toNat : Int) == (b[i].toNat : Int)) = false := by
        rw [beq_eq_false_iff_ne]
        intro h
        exact e (UInt8.toNat_inj.1 (by omega))
      simp [e1, hi, hj, e]
theorem eq_hash (a b : List UInt8) (ha : a.length = 32) (hb : b.length = 32) (w : World) : (Op.equalIn 10000 23 (.agg (hcells a)) (.agg (hcells b))).run Tryd.prog w = .ok (decide (a = b)) w := by
  obtain ⟨i0, hi, _⟩ := info_parts info_u8
  rw [run_equalIn_array w 9999 (hcells a) (hcells b) under_hash hi, eqItems_bytes 9998 a b w _ (fun i h => by have := List.mem_range.1 h; omega)]
  congr 1
  rw [Bool.eq_iff_iff]
  simp only [List.all_eq_true, List.mem_range, decide_eq_true_eq]
  constructor
  · intro h
    apply List.ext_getElem?
    intro i
    by_cases h32 : i < 32
    · exact h i h32
    · rw [List.getElem?_eq_none (by omega), List.getElem?_eq_none (by omega)]
  · rintro rfl i _
    rfl

/-- A row of the call's own that has no spare room is a block that is known whole. -/
theorem own_full {B n : Nat} {w : World} {A : Option Addr} {l : List UInt8} (h : Own B w (.slice A n n) l) (hn : 0 < n) : ∃ g, A = some ⟨g, 0, none⟩ ∧ B ≤ g ∧ w.heap[g]? = some (.cells (hcells l) 5 (0, 0)) := by
  rcases h.2 with ⟨e, _⟩ | ⟨g, cap, cur, e, hg, hh, hnc, _, hs, ht⟩
  · injection e with _ e; omega
  · injection e with e1 e2 e3
    refine ⟨g, e1, hg, ?_⟩
    rw [hh]
    have hl : cur.toList = bcells l := by
      rw [← ht, List.take_of_length_le]
      rw [Array.length_toList, hs]
      omega
    have : cur = hcells l := by
      apply Array.ext'
      rw [hl, hcells_list]
    rw [this]
/-- A block of bytes is a row of the call's own. -/
theorem own_of_blk {B g n : Nat} {w : World} {l : List UInt8} (hg : w.heap[g]? = some (.cells (hcells l) 5 (0, 0))) (hB : B ≤ g) (hn : n = l.length) (hm : n ≤ maxLen) : Own B w (.slice (some ⟨g, 0, none⟩) n n) l := by
  subst hn
  refine ⟨by simp [bcells], .inr ⟨g, l.length, hcells l, rfl, hB, hg, Nat.le_refl _, hm, by rw [hcells_size, Nat.mul_one], ?_⟩⟩
  rw [hcells_list, Nat.mul_one, List.take_of_length_le (by simp [bcells])]
/-- .. and reads as those bytes, whatever its type. -/
theorem byt_of_blk {g n : Nat} {w : World} {l : List UInt8} {t : TypeId} (hg : w.heap[g]? = some (.cells (hcells l) t (0, 0))) (hn : n = l.length) (hm : n ≤ maxLen) : Byt w (.slice (some ⟨g, 0, none⟩) n n) l := by
  subst hn
  refine ⟨_, _, rfl, Nat.le_refl _, hm, fun _ => ⟨g, 0, rfl, lt_of_block hg, fun j hj => ?_⟩⟩
  rw [Nat.zero_add, cell_of_row w g j _ t (0, 0) hg, hcells_get l j hj]
theorem splice_head (Z l : List UInt8) : splice Z 0 l = l ++ Z.drop l.length := by simp [splice]
theorem splice_two (Z l m : List UInt8) (h : Z.length = l.length + m.length) : splice (splice Z 0 l) l.length m = l ++ m := by
  have e : (Z.drop l.length).drop m.length = [] := by rw [List.drop_drop]; exact List.drop_eq_nil_of_le (by omega)
  rw [splice_head Z l]
  simp only [splice, List.take_left', List.drop_append]
  rw [List.drop_eq_nil_of_le (by omega), List.nil_append, show l.length + m.length - l.length = m.length from by omega, e, List.append_nil]

/-- copy of bytes into a row that is known whole: as an equation of runs. -/
theorem run_copy_byt {w : World} {dp : Option Addr} {dLen dCap : Nat} {v : Value} {m : List UInt8} (ty : TypeId) (hv : Byt w v m)
    {g off : Nat} {cur : List UInt8} {t : TypeId} (hg : w.heap[g]? = some (.cells (hcells cur) t (0, 0))) {k : Nat} (hk : k = Nat.min m.length dLen) (h0 : 0 < k)
    (hdp : dp = some ⟨g, off, none⟩) (hfit : off + k ≤ cur.length) :
    ∃ w', (Builtin.copy_ #[29, 29] ty #[.slice dp dLen dCap, v]).run Tryd.prog w = .ok (.int .i64 (k : Int)) w' ∧ w.grownBy w' (some g) ∧ w'.heap[g]? = some (.cells (hcells (splice cur off (m.take k))) t (0, 0)) ∧ w'.heap.size = w.heap.size := by
  obtain ⟨A, c, rfl, h1, h2, hr⟩ := hv
  have hsz : (Tryd.prog.info? 5).map (·.size) = some 1 := by kernel_rfl
  have hkm : k ≤ m.length := by rw [hk]; exact Nat.min_le_left _ _
  subst hdp
  obtain ⟨b, off2, rfl, hb, hc⟩ := hr (by omega)
  have hlen : (bcells (m.take k)).length = k := by simp [bcells]; omega
  have hrow : (hcells cur).toList.take off ++ bcells (m.take k) ++ (hcells cur).toList.drop (off + (bcells (m.take k)).length) = bcells (splice cur off (m.take k)) := by
    rw [hlen, hcells_list]
    have : (m.take k).length = k := by simp; omega
    simp [splice, bcells, List.map_take, List.map_drop, this]
  have hrun := run_copy_row (P := Tryd.prog) w 29 29 ty 5 g off dLen dCap ⟨b, off2, none⟩ m.length c (hcells cur) t (bcells (m.take k)) under_bytes hsz hg (by rw [hlen, hk]) (fun j u hu => by
    obtain ⟨hj, rfl⟩ := bcells_get _ j u hu
    rw [addr_add]
    have hjm : j < m.length := by simp at hj; omega
    rw [hc j hjm, List.getElem_take]) (by rw [hlen, hcells_size]; exact hfit) (bcells_one _)
  rw [hrow, hlen] at hrun
  exact ⟨_, hrun, ⟨rfl, rfl, rfl, by simp, fun q _ hq => setRow_other w g q _ (fun e => hq (by simp [e]))⟩, setRow_heap w g _ _ t _ hg, by simp⟩
end Go.Proofs.YtekfkfpfnhoblaaDoor
