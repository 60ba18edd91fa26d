/-
  The law of turned bits, from what crc.Record and crc.Next tell.
-/
import Derived.Test.YtpecdlafeelkoaaCrcTurn
import Derived.Test.YtpecdlafeelkoaaCrcParts
namespace Go.Proofs.Ytpecdlafeelkoaa
open Go.RowKit

/-- What crc.Record tells. -/
def RecordOk : Prop := ∀ (v : Value) (l : List UInt8) (w : World), Byt w v l → 1 ≤ l.length → l.length ≤ 65536 →
  Calls Try.prog 9 #[v] w fun e w' => ∃ x, e = .returned (.tuple #[x, .int .i64 0]) ∧ Own w.heap.size w' x (recS l) ∧ Below w.heap.size w w'
/-- What crc.Next tells: how many bytes the record has, and the error's number. -/
def nextK (l : List UInt8) : Nat := if nextN l = 1 then 8 + numL l else 0
def nextE (l : List UInt8) : Nat := if nextN l = 1 then 0 else if nextN l = 0 then 2 else 3
def NextOk : Prop := ∀ (v : Value) (l : List UInt8) (w : World), Byt w v l → l.length ≤ 900000 →
  Calls Try.prog 10 #[v] w fun e w' => ∃ x, e = .returned (.tuple #[x, .int .i64 (nextK l : Int), .int .i64 (nextE l : Int)]) ∧ Byt w' x (nextB l) ∧ Below w.heap.size w w'

theorem set_app (p c : List UInt8) (j : Nat) (x : UInt8) (h : p.length ≤ j) : (p ++ c).set j x = p ++ c.set (j - p.length) x := by
  rw [List.set_append_right _ _ h]
theorem bcells_set (l : List UInt8) (j : Nat) (x : UInt8) : (bcells l).set j (bcell x) = bcells (l.set j x) := by
  unfold bcells
  rw [List.map_set]

theorem flip_val (y : UInt8) {m : Nat} (hm : m ≤ 7) : bits BinOp.xor IntKind.u8 (y.toNat : Int) ((2 : Int) ^ m % 256) = ((y ^^^ UInt8.ofNat (2 ^ m)).toNat : Int) := by
  have h := pow_small hm
  have e : (2 : Int) ^ m % 256 = ((2 ^ m : Nat) : Int) := by
    rw [Int.natCast_pow]
    have h2 : ((2 ^ m : Nat) : Int) < 256 := by omega
    rw [Int.natCast_pow] at h2
    have h3 : (0 : Int) ≤ ((2 : Nat) : Int) ^ m := by rw [← Int.natCast_pow]; exact Int.natCast_nonneg _
    exact Int.emod_eq_of_lt h3 h2
  have := y.toNat_lt
  rw [e, u8_xor_nat _ _ (by omega) h, UInt8.toNat_xor, UInt8.toNat_ofNat', Nat.mod_eq_of_lt h]
theorem nextE_turned {l : List UInt8} {t : Bool} (h : nextN l = if t = true then 0 else 1) : (nextE l : Int) = if t = true then 2 else 0 := by
  unfold nextE
  rw [h]
  cases t <;> rfl

set_option maxHeartbeats 1600000 in
theorem lawCrcTurns_any (hRec : RecordOk) (hNext : NextOk) (v1 : Value) (l : List UInt8) (at' bt : Nat) (w : World) (hv1 : Byt w v1 l) (hat : at' ≤ 65535) (hbt : bt ≤ 4294967295) :
    Calls Try.prog 5 #[v1, .int .u16 (at' : Int), .int .u32 (bt : Int)] w fun e w' => e = .returned (.bool true) ∧ Below w.heap.size w w' := by
  have HRC := hid hRec
  have HNX := hid hNext
  clear hRec hNext
  obtain ⟨A1, c1, rfl⟩ := hv1.shape
  obtain ⟨_, hc1, hm1, hr1⟩ := hv1.at_
  unfold maxLen at hm1
  obtain ⟨L, HL⟩ : ∃ L : Nat, Hid (l.length = L) := ⟨_, hid rfl⟩
  have HV1 := hid hv1
  rw [HL.out] at hc1 ⊢
  clear hv1 hr1
  by_cases h0 : L = 0
  · subst h0
    go_enter Try.func5, Try.ntmps5
    go_wp2_with fail
    refine (crcAwake_any w).mono ?_
    rintro e w' ⟨rfl, hb⟩
    go_wp2_with fail
    go_ret
    exact ⟨rfl, hb⟩
  have h0b : ((L : Int) == 0) = false := by rw [beq_eq_false_iff_ne]; omega
  have HL0 := hid h0
  clear h0
  by_cases hlong : 1000 < L
  · have hq : (1000 : Int) < (L : Int) := by omega
    go_enter Try.func5, Try.ntmps5
    go_wp2_with fail
    refine (crcAwake_any w).mono ?_
    rintro e w' ⟨rfl, hb⟩
    go_wp2_with fail
    go_ret
    exact ⟨rfl, hb⟩
  have hq : ¬ (1000 : Int) < (L : Int) := by omega
  have hL1 : 1 ≤ L := by have := HL0.out; omega
  obtain ⟨f, hf⟩ : ∃ f : Nat, at' % (8 * L) = f := ⟨_, rfl⟩
  have hfL : f < 8 * L := by rw [← hf]; exact Nat.mod_lt _ (by omega)
  have ef : (at' : Int) % (8 * (L : Int)) = (f : Int) := by rw [← hf]; exact (Int.natCast_emod at' (8 * L)).symm
  clear hf
  obtain ⟨R, HR⟩ : ∃ R : Nat, Hid (L + 8 = R) := ⟨_, hid rfl⟩
  have hLR : (L : Int) + 8 = (R : Int) := by have := HR.out; omega
  go_enter Try.func5, Try.ntmps5
  go_wp2_with fail
  have C := HRC.out _ l w HV1.out (by rw [HL.out]; exact hL1) (by rw [HL.out]; omega)
  rw [HL.out] at C
  refine C.mono ?_
  clear C
  rintro e w1 ⟨x, rfl, hox, hb1⟩
  obtain ⟨A, c, rfl⟩ := hox.byt.shape
  obtain ⟨p, HP⟩ : ∃ p : List UInt8, Hid (fourL L ++ fourL (crcS (fourL L ++ l)).toNat = p) := ⟨_, hid rfl⟩
  have HPL : Hid (p.length = 8) := hid (by rw [← HP.out, List.length_append, fourL_length, fourL_length])
  have hrp : recS l = p ++ l := by
    unfold recS
    rw [HL.out, ← HP.out, List.append_assoc]
  rw [hrp] at hox ⊢
  have hlen : (p ++ l).length = R := by rw [List.length_append, HPL.out, HL.out]; have := HR.out; omega
  rw [hlen] at hox ⊢
  obtain ⟨g, rfl⟩ : ∃ g, A = some ⟨g, 0, none⟩ := by
    rcases hox.2 with ⟨e, _⟩ | ⟨g, cap, cur, e, _⟩
    · injection e with _ e; have := HR.out; omega
    · injection e with e1
      exact ⟨g, e1⟩
  have hRc := hox.byt.at_.2.1
  rw [hlen] at hRc
  have HOX := hid hox
  clear hox hrp hlen
  go_wp2_with fail
  go_loopw [10, 11] (fun st si wr => ∃ (i : Nat) (t : Bool) (d : List UInt8), i ≤ 32 ∧ Hid (d.length = L) ∧ si = .int .i64 (i : Int) ∧ st = .bool t ∧ Below w.heap.size w wr ∧ Hid (Own w.heap.size wr (.slice (some ⟨g, 0, none⟩) R c) (p ++ d)) ∧ Hid (TurnedAt l d f i bt) ∧ Hid (t = true ↔ ∃ j, j < i ∧ bt.testBit j = true)) (fun _ si _ => 32 - (intOf si).toNat)
  case atStart => exact ⟨0, false, l, Nat.zero_le _, HL, rfl, rfl, hb1, HOX, hid (turned_zero l f bt), hid (by simp)⟩
  case round =>
    clear hb1 HOX
    obtain ⟨i, t, d, hi, HD, rfl, rfl, hbw, HO, HT, HTB⟩ := hrel
    by_cases hlt : i < 32
    · have hi32 : (i : Int) < 32 := by omega
      by_cases hin : f + i < 8 * L
      · have hini : (f : Int) + (i : Int) < 8 * (L : Int) := by omega
        obtain ⟨s, HS⟩ : ∃ s : Nat, Hid (bt / 2 ^ i = s) := ⟨_, hid rfl⟩
        have hdiv : (bt : Int) / 2 ^ i = (s : Int) := by rw [← HS.out, Int.natCast_ediv, Int.natCast_pow]; rfl
        have hs : s ≤ 4294967295 := by rw [← HS.out]; exact Nat.le_trans (Nat.div_le_self _ _) hbt
        have HTB2 : Hid (bt.testBit i = decide (s % 2 = 1)) := hid (by rw [Nat.testBit_eq_decide_div_mod_eq, HS.out])
        obtain ⟨b, HB⟩ : ∃ b : Nat, Hid (s % 2 = b) := ⟨_, hid rfl⟩
        have hsb : (s : Int) % 2 = (b : Int) := by have := HB.out; omega
        have hb2 : b ≤ 1 := by have := HB.out; omega
        by_cases hbit : b = 1
        · have hbi : ((b : Int) == 1) = true := by rw [beq_iff_eq]; omega
          obtain ⟨kq, HKQ⟩ : ∃ kq : Nat, Hid ((f + i) / 8 = kq) := ⟨_, hid rfl⟩
          have hkL : kq < L := by have := HKQ.out; omega
          obtain ⟨y, HY⟩ : ∃ y : UInt8, Hid (d.getD kq 0 = y) := ⟨_, hid rfl⟩
          have hlenD : (p ++ d).length = R := by rw [List.length_append, HPL.out, HD.out]; have := HR.out; omega
          have hO : wr.ownsRow w.heap.size 5 1 (.slice (some ⟨g, 0, none⟩) R c) R (bcells (p ++ d)) := by
            have h := HO.out
            unfold Own at h
            rw [hlenD] at h
            exact h
          have HOR := hid hO
          have HLD := hid hlenD
          clear hO hlenD
          have hcell : wr.cell? ⟨g, 8 + (f + i) / 8, none⟩ = some (bcell y) := by
            rw [World.ownsRow.cellAt HOR.out _ (by rw [HKQ.out]; have := HR.out; omega), HKQ.out, bcells, List.getElem?_map, List.getElem?_append_right (by rw [HPL.out]; omega), HPL.out, Nat.add_sub_cancel_left, ← HY.out, List.getD_eq_getElem?_getD, List.getElem?_eq_getElem (by rw [HD.out]; exact hkL)]
            rfl
          have hfree : wr.frozen? ⟨g, 8 + (f + i) / 8, none⟩ = false := World.ownsRow.frozenAt HOR.out _
          unfold bcell at hcell
          obtain ⟨z, HZ⟩ : ∃ z : Int, Hid ((y.toNat : Int) = z) := ⟨_, hid rfl⟩
          rw [HZ.out] at hcell
          go_wp2_with fail
          go_roundw
          case rel =>
            have hyz : bits BinOp.xor IntKind.u8 z ((2 : Int) ^ (7 - (f + i) % 8) % 256) = ((y ^^^ UInt8.ofNat (2 ^ (7 - (f + i) % 8))).toNat : Int) := by rw [← HZ.out]; exact flip_val y (by omega)
            have HYB : Hid (bt.testBit i = true) := hid (by rw [HTB2.out, HB.out]; exact decide_eq_true hbit)
            rw [hyz]
            have hst := World.ownsRow.stored HOR.out (8 + (f + i) / 8) (bcell (y ^^^ UInt8.ofNat (2 ^ (7 - (f + i) % 8))))
            refine ⟨i + 1, true, flipL d (f + i), by omega, hid (by rw [flipL_length]; exact HD.out), by go_num, rfl, hbw.grown hst.2 hbw.size (fun k hk => (World.ownsRow.lt HOR.out k hk).1), hid ?_, hid (turned_yes HT.out HYB.out (by rw [HKQ.out, HD.out]; exact hkL)), hid ⟨fun _ => ⟨i, by omega, HYB.out⟩, fun _ => rfl⟩⟩
            have e : (bcells (p ++ d)).set (8 + (f + i) / 8) (bcell (y ^^^ UInt8.ofNat (2 ^ (7 - (f + i) % 8)))) = bcells (p ++ flipL d (f + i)) := by
              rw [bcells_set, set_app _ _ _ _ (by rw [HPL.out]; omega), HPL.out, Nat.add_sub_cancel_left]
              unfold flipL
              rw [HKQ.out, HY.out]
            have h1 := hst.1
            rw [e] at h1
            have hlenF : (p ++ flipL d (f + i)).length = R := by rw [List.length_append, HPL.out, flipL_length, HD.out]; have := HR.out; omega
            unfold Own
            rw [hlenF]
            exact h1
          case measure => simp [intOf]; omega
        · have hbi : ((b : Int) == 1) = false := by rw [beq_eq_false_iff_ne]; omega
          have HNB : Hid (bt.testBit i = false) := hid (by rw [HTB2.out, HB.out]; exact decide_eq_false hbit)
          go_wp2_with fail
          go_roundw
          case rel =>
            refine ⟨i + 1, t, d, by omega, HD, by go_num, rfl, hbw, HO, hid (turned_no HT.out HNB.out), hid (HTB.out.trans ⟨fun ⟨j, h1, h2⟩ => ⟨j, by omega, h2⟩, fun ⟨j, h1, h2⟩ => ⟨j, ?_, h2⟩⟩)⟩
            by_cases e : j = i
            · rw [e, HNB.out] at h2
              cases h2
            · omega
          case measure => simp [intOf]; omega
      · have hini : ¬ (f : Int) + (i : Int) < 8 * (L : Int) := by omega
        have C := HNX.out _ (p ++ d) wr HO.out.byt (by rw [List.length_append, HPL.out, HD.out]; omega)
        have hnn : nextN (p ++ d) = if t = true then 0 else 1 := by
          have h := next_turned (l := l) (c := d) (f := f) (i := i) (bits := bt) (by rw [HL.out]; exact hL1) (by rw [HL.out]; omega) (by rw [HD.out, HL.out]) hi HT.out HTB.out
          rw [HL.out, ← List.append_assoc, HP.out] at h
          exact h
        rw [nextE_turned hnn] at C
        have HC := hid C
        clear C hnn
        cases t
        all_goals
          go_wp2_with fail
          refine HC.out.mono ?_
          rintro e w9 ⟨x9, rfl, hx9, hb9⟩
          have hB9 := hbw.trans (hb9.mono hbw.size)
          go_wp2_with fail
          refine (crcAwake_any w9).mono ?_
          rintro e w10 ⟨rfl, hb10⟩
          go_wp2_with fail
          go_ret
          exact ⟨rfl, hB9.trans (hb10.mono hB9.size)⟩
    · have hi32 : ¬ (i : Int) < 32 := by omega
      have C := HNX.out _ (p ++ d) wr HO.out.byt (by rw [List.length_append, HPL.out, HD.out]; omega)
      have hnn : nextN (p ++ d) = if t = true then 0 else 1 := by
        have h := next_turned (l := l) (c := d) (f := f) (i := i) (bits := bt) (by rw [HL.out]; exact hL1) (by rw [HL.out]; omega) (by rw [HD.out, HL.out]) hi HT.out HTB.out
        rw [HL.out, ← List.append_assoc, HP.out] at h
        exact h
      rw [nextE_turned hnn] at C
      have HC := hid C
      clear C hnn
      cases t
      all_goals
        go_wp2_with fail
        refine HC.out.mono ?_
        rintro e w9 ⟨x9, rfl, hx9, hb9⟩
        have hB9 := hbw.trans (hb9.mono hbw.size)
        go_wp2_with fail
        refine (crcAwake_any w9).mono ?_
        rintro e w10 ⟨rfl, hb10⟩
        go_wp2_with fail
        go_ret
        exact ⟨rfl, hB9.trans (hb10.mono hB9.size)⟩
end Go.Proofs.Ytpecdlafeelkoaa
