/-
  Transactions as plain data: which may be, their bytes, which one bytes begin with. No function of the program.
-/
import Derived.Test.YtefngncieagobaaStr
import Derived.Test.YtefngncieagobaaPlain
import Derived.Test.YtefngncieagobaaNumber
namespace Go.Proofs.Ytefngncieagobaa

/-- A key's byte: a to z, 0 to 9. -/
def keyB (c : UInt8) : Bool := (decide (97 ≤ c.toNat) && decide (c.toNat ≤ 122)) || (decide (48 ≤ c.toNat) && decide (c.toNat ≤ 57))
def keyOk (l : List UInt8) : Bool := l.all keyB && (decide (1 ≤ l.length) && decide (l.length ≤ 16))

/-- A transaction. -/
structure TxM where
  fr : Int
  no : Int
  ki : Int
  to : Int
  am : Int
  key : List UInt8
  val : List UInt8
def txv (t : TxM) : Go.Value := .agg #[.int .i64 t.fr, .int .i64 t.no, .int .i64 t.ki, .int .i64 t.to, .int .i64 t.am, .string (sb t.key), .string (sb t.val)]
def txZ : TxM := ⟨0, 0, 0, 0, 0, [], []⟩

/-- May it be? -/
def mayT (t : TxM) : Bool :=
  if t.fr < 1 ∨ 40 < t.fr ∨ t.no < 1 ∨ 1099511627776 < t.no then false else
  if t.ki = 1 then decide (1 ≤ t.to) && decide (t.to ≤ 40) && decide (0 ≤ t.am) && decide (t.am ≤ 1099511627776) && decide (t.key = []) && decide (t.val = []) else
  if t.ki = 2 then decide (t.to = 0) && decide (t.am = 0) && keyOk t.key && decide (t.val.length ≤ 200) else
  if t.ki = 3 then decide (t.to = 0) && decide (t.am = 0) && keyOk t.key && decide (t.val = []) else false

/-- Its bytes. -/
def bytesT (t : TxM) : List UInt8 :=
  dg t.fr.toNat ++ (dg t.no.toNat ++ (dg t.ki.toNat ++ (if t.ki = 1 then dg t.to.toNat ++ dg t.am.toNat else if t.ki = 2 then tx t.key ++ tx t.val else tx t.key)))

/-- What is read behind the kind. -/
def rdTail (l : List UInt8) (f n k p : Nat) (r : Bool) : TxM × Nat × Bool :=
  if k = 1 then (⟨f, n, k, (rdUpto 40 l p r).1, (rdUpto 1099511627776 l (rdUpto 40 l p r).2.1 (rdUpto 40 l p r).2.2).1, [], []⟩, (rdUpto 1099511627776 l (rdUpto 40 l p r).2.1 (rdUpto 40 l p r).2.2).2) else
  if k = 2 then (⟨f, n, k, 0, 0, (rdText l p r).1, (rdText l (rdText l p r).2.1 (rdText l p r).2.2).1⟩, (rdText l (rdText l p r).2.1 (rdText l p r).2.2).2) else
  if k = 3 then (⟨f, n, k, 0, 0, (rdText l p r).1, []⟩, (rdText l p r).2) else (⟨f, n, k, 0, 0, [], []⟩, p, r)
/-- What is read from a place on, whether it may be or not. -/
def rdRaw (l : List UInt8) (p : Nat) (r : Bool) : TxM × Nat × Bool :=
  let a := rdUpto 40 l p r
  let b := rdUpto 1099511627776 l a.2.1 a.2.2
  let c := rdUpto 3 l b.2.1 b.2.2
  rdTail l a.1 b.1 c.1 c.2.1 c.2.2
/-- Is there one? -/
def rdIs (l : List UInt8) (p : Nat) (r : Bool) : Bool := (rdRaw l p r).2.2 && mayT (rdRaw l p r).1
/-- Which one. -/
def rdTx (l : List UInt8) (p : Nat) (r : Bool) : TxM := if rdIs l p r = true then (rdRaw l p r).1 else txZ

theorem rdUpto_bad (m : Int) (l : List UInt8) (p : Nat) : rdUpto m l p false = (0, p, false) := by
  unfold rdUpto
  split
  · rfl
  · exact rdNum_bad _ _ _
theorem rdUpto_at {L r : List UInt8} {p n : Nat} {m : Int} (h : L.drop p = dg n ++ r) (hm : (n : Int) ≤ m) (hn : n < 18446744073709551616) : rdUpto m L p true = (n, p + (dg n).length, true) := by
  unfold rdUpto
  rw [if_neg (by omega), rdNum_yes (frst_eq hn ⟨r, h.symm⟩) (by omega)]
/-- What was read was written just so. -/
theorem rdUpto_so {L : List UInt8} {p n q : Nat} {r : Bool} {m : Int} (h : rdUpto m L p r = (n, q, true)) : r = true ∧ n < 18446744073709551616 ∧ (n : Int) ≤ m ∧ q = p + (dg n).length ∧ ∃ x, L.drop p = dg n ++ x := by
  unfold rdUpto at h
  split at h
  · cases h
  · cases r with
    | false => rw [rdNum_bad] at h; cases h
    | true =>
      cases hf : frst (L.drop p) with
      | none => rw [rdNum_no hf] at h; cases h
      | some k =>
        by_cases hk : k ≤ m.toNat
        · rw [rdNum_yes hf hk] at h
          cases h
          obtain ⟨h1, x, hx⟩ := frst_some hf
          exact ⟨rfl, h1, by omega, rfl, x, hx.symm⟩
        · rw [rdNum_big hf hk] at h; cases h
theorem rdText_so {L t : List UInt8} {p q : Nat} {r : Bool} (h : rdText L p r = (t, q, true)) : r = true ∧ t.length ≤ 65536 ∧ q = p + (tx t).length ∧ ∃ x, L.drop p = tx t ++ x := by
  cases r with
  | false => rw [rdText_bad] at h; cases h
  | true =>
    cases hf : frst (L.drop p) with
    | none => rw [rdText_no hf] at h; cases h
    | some k =>
      by_cases hk : k ≤ 65536 ∧ p + (dg k).length + k ≤ L.length
      · rw [rdText_yes hf hk.1 hk.2] at h
        obtain ⟨h1, x, hx⟩ := frst_some hf
        have hd := drop_more hx.symm
        injection h with ha hb
        injection hb with hb _
        have hl : t.length = k := by rw [← ha, List.length_take, List.length_drop]; omega
        subst ha
        refine ⟨rfl, by omega, ?_, x.drop k, ?_⟩
        · rw [tx_len, hl]; omega
        · unfold tx
          rw [hl, ← hx, List.append_assoc, hd, List.take_append_drop]
      · rw [rdText_big hf hk] at h; cases h
end Go.Proofs.Ytefngncieagobaa
