/-
  What is put is read; what is read was written just so: transactions, as plain data. No function of the program.
-/
import Derived.Test.YtefngncieagobaaTxPure
namespace Go.Proofs.Ytefngncieagobaa

theorem mayT_iff {t : TxM} (h : mayT t = true) : (1 ≤ t.fr ∧ t.fr ≤ 40) ∧ (1 ≤ t.no ∧ t.no ≤ 1099511627776) ∧
    ((t.ki = 1 ∧ (1 ≤ t.to ∧ t.to ≤ 40) ∧ (0 ≤ t.am ∧ t.am ≤ 1099511627776) ∧ t.key = [] ∧ t.val = []) ∨ (t.ki = 2 ∧ t.to = 0 ∧ t.am = 0 ∧ keyOk t.key = true ∧ t.val.length ≤ 200) ∨ (t.ki = 3 ∧ t.to = 0 ∧ t.am = 0 ∧ keyOk t.key = true ∧ t.val = [])) := by
  unfold mayT at h
  split at h
  · cases h
  · refine ⟨by omega, by omega, ?_⟩
    split at h
    · rename_i hk
      simp only [Bool.and_eq_true, decide_eq_true_eq] at h
      exact .inl ⟨hk, ⟨h.1.1.1.1.1, h.1.1.1.1.2⟩, ⟨h.1.1.1.2, h.1.1.2⟩, h.1.2, h.2⟩
    · split at h
      · rename_i hk
        simp only [Bool.and_eq_true, decide_eq_true_eq] at h
        exact .inr (.inl ⟨hk, h.1.1.1, h.1.1.2, h.1.2, h.2⟩)
      · split at h
        · rename_i hk
          simp only [Bool.and_eq_true, decide_eq_true_eq] at h
          exact .inr (.inr ⟨hk, h.1.1.1, h.1.1.2, h.1.2, h.2⟩)
        · cases h
theorem keyOk_len {l : List UInt8} (h : keyOk l = true) : 1 ≤ l.length ∧ l.length ≤ 16 := by
  unfold keyOk at h
  simp only [Bool.and_eq_true, decide_eq_true_eq] at h
  exact h.2
theorem nat_of {i : Int} (h : 0 ≤ i) : ∃ n : Nat, i = (n : Int) := ⟨i.toNat, by omega⟩
theorem bytesT_len {t : TxM} (h : mayT t = true) : (bytesT t).length ≤ 300 := by
  obtain ⟨h1, h2, h3⟩ := mayT_iff h
  have l1 := dg_len 0 t.fr.toNat (by omega)
  have l2 := dg_len10 (n := t.no.toNat) (by omega)
  have l3 := dg_len 0 t.ki.toNat (by rcases h3 with h | h | h <;> rw [h.1] <;> decide)
  unfold bytesT
  rw [List.length_append, List.length_append, List.length_append]
  rcases h3 with ⟨hk, ha, hb, _⟩ | ⟨hk, _, _, hk1, hv⟩ | ⟨hk, _, _, hk1, _⟩
  · have l4 := dg_len 0 t.to.toNat (by omega)
    have l5 := dg_len10 (n := t.am.toNat) (by omega)
    rw [if_pos hk, List.length_append]
    omega
  · have := keyOk_len hk1
    have l4 := dg_len10 (n := t.key.length) (by omega)
    have l5 := dg_len10 (n := t.val.length) (by omega)
    rw [if_neg (by rw [hk]; decide), if_pos hk, List.length_append, tx_len, tx_len]
    omega
  · have := keyOk_len hk1
    have l4 := dg_len10 (n := t.key.length) (by omega)
    rw [if_neg (by rw [hk]; decide), if_neg (by rw [hk]; decide), tx_len]
    omega

theorem bytesT_one (a b d e : Nat) (x y : List UInt8) : bytesT ⟨(a : Int), (b : Int), ((1 : Nat) : Int), (d : Int), (e : Int), x, y⟩ = dg a ++ (dg b ++ (dg 1 ++ (dg d ++ dg e))) := by
  unfold bytesT
  rw [if_pos (show ((1 : Nat) : Int) = 1 from rfl)]
  simp only [Int.toNat_natCast]
theorem bytesT_two (a b : Nat) (d e : Int) (x y : List UInt8) : bytesT ⟨(a : Int), (b : Int), ((2 : Nat) : Int), d, e, x, y⟩ = dg a ++ (dg b ++ (dg 2 ++ (tx x ++ tx y))) := by
  unfold bytesT
  rw [if_neg (show ¬ ((2 : Nat) : Int) = 1 by omega), if_pos (show ((2 : Nat) : Int) = 2 from rfl)]
  simp only [Int.toNat_natCast]
theorem bytesT_three (a b : Nat) (d e : Int) (x y : List UInt8) : bytesT ⟨(a : Int), (b : Int), ((3 : Nat) : Int), d, e, x, y⟩ = dg a ++ (dg b ++ (dg 3 ++ tx x)) := by
  unfold bytesT
  rw [if_neg (show ¬ ((3 : Nat) : Int) = 1 by omega), if_neg (show ¬ ((3 : Nat) : Int) = 2 by omega)]
  simp only [Int.toNat_natCast]

/-- What is put is read. -/
theorem rdRaw_back {t : TxM} {L r : List UInt8} {p : Nat} (hm : mayT t = true) (h : L.drop p = bytesT t ++ r) : rdRaw L p true = (t, p + (bytesT t).length, true) := by
  obtain ⟨h1, h2, h3⟩ := mayT_iff hm
  obtain ⟨fr, no, ki, to, am, key, val⟩ := t
  obtain ⟨a, rfl⟩ := nat_of (i := fr) (by have := h1.1; simp only at this; omega)
  obtain ⟨b, rfl⟩ := nat_of (i := no) (by have := h2.1; simp only at this; omega)
  obtain ⟨c, rfl⟩ := nat_of (i := ki) (by simp only at h3; omega)
  simp only at h1 h2 h3
  unfold bytesT at h ⊢
  simp only [Int.toNat_natCast, List.append_assoc] at h ⊢
  have d1 := drop_more h
  have d2 := drop_more d1
  have d3 := drop_more d2
  unfold rdRaw
  simp only [rdUpto_at (m := 40) h (by omega) (by omega), rdUpto_at (m := 1099511627776) d1 (by omega) (by omega), rdUpto_at (m := 3) d2 (by omega) (by omega)]
  unfold rdTail
  rcases h3 with ⟨hk, ha, hb, rfl, rfl⟩ | ⟨hk, rfl, rfl, hk1, hv⟩ | ⟨hk, rfl, rfl, hk1, rfl⟩
  · obtain ⟨d, rfl⟩ := nat_of (i := to) (by omega)
    obtain ⟨e, rfl⟩ := nat_of (i := am) (by omega)
    obtain rfl : c = 1 := by omega
    simp only [Int.toNat_natCast, ↓reduceIte, List.append_assoc, Int.cast_ofNat_Int] at d3 ⊢
    have d4 := drop_more d3
    simp only [rdUpto_at (m := 40) d3 (by omega) (by omega), rdUpto_at (m := 1099511627776) d4 (by omega) (by omega)]
    simp [Nat.add_assoc]
  · have hkl := keyOk_len hk1
    obtain rfl : c = 2 := by omega
    rw [if_neg (by decide), if_pos (by decide), List.append_assoc] at d3
    have d4 := drop_more d3
    simp only [rdText_at d3 (by omega), rdText_at d4 (by omega)]
    simp [Nat.add_assoc]
  · have hkl := keyOk_len hk1
    obtain rfl : c = 3 := by omega
    rw [if_neg (by decide), if_neg (by decide)] at d3
    simp only [rdText_at d3 (by omega)]
    simp [Nat.add_assoc]

/-- What is read was written just so. -/
theorem rdRaw_so {L : List UInt8} {p : Nat} {r : Bool} (h : (rdRaw L p r).2.2 = true) (hm : mayT (rdRaw L p r).1 = true) :
    r = true ∧ (rdRaw L p r).2.1 = p + (bytesT (rdRaw L p r).1).length ∧ ∃ x, L.drop p = bytesT (rdRaw L p r).1 ++ x := by
  unfold rdRaw at h hm ⊢
  obtain ⟨a, p1, r1, ha⟩ : ∃ x q s, rdUpto 40 L p r = (x, q, s) := ⟨_, _, _, rfl⟩
  obtain ⟨b, p2, r2, hb⟩ : ∃ x q s, rdUpto 1099511627776 L p1 r1 = (x, q, s) := ⟨_, _, _, rfl⟩
  obtain ⟨c, p3, r3, hc⟩ : ∃ x q s, rdUpto 3 L p2 r2 = (x, q, s) := ⟨_, _, _, rfl⟩
  simp only [ha, hb, hc] at h hm ⊢
  have key : ∀ x3, r3 = true → L.drop p3 = x3 → r = true ∧ p3 = p + ((dg a).length + ((dg b).length + (dg c).length)) ∧ L.drop p = dg a ++ (dg b ++ (dg c ++ x3)) := by
    intro x3 hr3 hx3
    subst hr3
    obtain ⟨rfl, _, _, e3, y3, hy3⟩ := rdUpto_so hc
    obtain ⟨rfl, _, _, e2, y2, hy2⟩ := rdUpto_so hb
    obtain ⟨rfl, _, _, e1, y1, hy1⟩ := rdUpto_so ha
    have z1 := drop_more hy1
    have z2 := drop_more hy2
    have z3 := drop_more hy3
    rw [← e1] at z1
    rw [← e2] at z2
    rw [← e3] at z3
    refine ⟨rfl, by omega, ?_⟩
    rw [hy1, ← z1, hy2, ← z2, hy3, ← z3, hx3]
  unfold rdTail at h hm ⊢
  split at h
  · rename_i hk
    subst hk
    rw [if_pos rfl] at hm
    rw [if_pos rfl]
    obtain ⟨d, p4, r4, hd⟩ : ∃ x q s, rdUpto 40 L p3 r3 = (x, q, s) := ⟨_, _, _, rfl⟩
    obtain ⟨e, p5, r5, he⟩ : ∃ x q s, rdUpto 1099511627776 L p4 r4 = (x, q, s) := ⟨_, _, _, rfl⟩
    simp only [hd, he] at h hm ⊢
    subst h
    obtain ⟨rfl, _, _, e5, y5, hy5⟩ := rdUpto_so he
    obtain ⟨rfl, _, _, e4, y4, hy4⟩ := rdUpto_so hd
    have z4 := drop_more hy4
    rw [← e4, hy5] at z4
    obtain ⟨k1, k2, k3⟩ := key _ rfl hy4
    rw [← z4] at k3
    refine ⟨k1, ?_, y5, ?_⟩
    · rw [bytesT_one]
      simp only [List.length_append]
      omega
    · rw [bytesT_one]
      simp only [List.append_assoc]
      exact k3
  · rename_i hk
    rw [if_neg hk] at hm
    rw [if_neg hk]
    split at h
    · rename_i hk2
      subst hk2
      rw [if_pos rfl] at hm
      rw [if_pos rfl]
      obtain ⟨d, p4, r4, hd⟩ : ∃ x q s, rdText L p3 r3 = (x, q, s) := ⟨_, _, _, rfl⟩
      obtain ⟨e, p5, r5, he⟩ : ∃ x q s, rdText L p4 r4 = (x, q, s) := ⟨_, _, _, rfl⟩
      simp only [hd, he] at h hm ⊢
      subst h
      obtain ⟨rfl, _, e5, y5, hy5⟩ := rdText_so he
      obtain ⟨rfl, _, e4, y4, hy4⟩ := rdText_so hd
      have z4 := drop_more hy4
      rw [← e4, hy5] at z4
      obtain ⟨k1, k2, k3⟩ := key _ rfl hy4
      rw [← z4] at k3
      refine ⟨k1, ?_, y5, ?_⟩
      · rw [bytesT_two]
        simp only [List.length_append]
        omega
      · rw [bytesT_two]
        simp only [List.append_assoc]
        exact k3
    · rename_i hk2
      rw [if_neg hk2] at hm
      rw [if_neg hk2]
      split at h
      · rename_i hk3
        subst hk3
        rw [if_pos rfl] at hm
        rw [if_pos rfl]
        obtain ⟨d, p4, r4, hd⟩ : ∃ x q s, rdText L p3 r3 = (x, q, s) := ⟨_, _, _, rfl⟩
        simp only [hd] at h hm ⊢
        subst h
        obtain ⟨rfl, _, e4, y4, hy4⟩ := rdText_so hd
        obtain ⟨k1, k2, k3⟩ := key _ rfl hy4
        refine ⟨k1, ?_, y4, ?_⟩
        · rw [bytesT_three]
          simp only [List.length_append]
          omega
        · rw [bytesT_three]
          simp only [List.append_assoc]
          exact k3
      · rename_i hk3
        rw [if_neg hk3] at hm
        exfalso
        obtain ⟨_, _, h3⟩ := mayT_iff hm
        simp only at h3
        omega

theorem rdTx_back {t : TxM} {L r : List UInt8} {p : Nat} (hm : mayT t = true) (h : L.drop p = bytesT t ++ r) : rdIs L p true = true ∧ rdTx L p true = t ∧ (rdRaw L p true).2.1 = p + (bytesT t).length := by
  have e := rdRaw_back hm h
  have hi : rdIs L p true = true := by unfold rdIs; rw [e, hm]; rfl
  exact ⟨hi, by unfold rdTx; rw [if_pos hi, e], by rw [e]⟩
theorem rdIs_iff {L : List UInt8} {p : Nat} {r : Bool} (h : rdIs L p r = true) : (rdRaw L p r).2.2 = true ∧ mayT (rdRaw L p r).1 = true := by
  unfold rdIs at h
  rwa [Bool.and_eq_true] at h
theorem rdTx_so {L : List UInt8} {p : Nat} {r : Bool} (h : rdIs L p r = true) : r = true ∧ mayT (rdTx L p r) = true ∧ (rdRaw L p r).2.1 = p + (bytesT (rdTx L p r)).length ∧ ∃ x, L.drop p = bytesT (rdTx L p r) ++ x := by
  obtain ⟨h1, h2⟩ := rdIs_iff h
  obtain ⟨k1, k2, k3⟩ := rdRaw_so h1 h2
  unfold rdTx
  rw [if_pos h]
  exact ⟨k1, h2, k2, k3⟩
end Go.Proofs.Ytefngncieagobaa
