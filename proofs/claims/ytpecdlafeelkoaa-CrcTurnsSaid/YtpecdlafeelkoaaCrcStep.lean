/-
  crc.turn and crc.Of: the check of parts.
-/
import Derived.Test.YtpecdlafeelkoaaCrcRef
namespace Go.Proofs.Ytpecdlafeelkoaa
open Go.RowKit

theorem crTn_succ (r : BitVec 32) (n : Nat) : crTn (n + 1) r = crT (crTn n r) := rfl

set_option maxHeartbeats 1600000 in
theorem turn_any (s : BitVec 32) (w : World) :
    Calls Try.prog 14 #[.int .u32 (s.toNat : Int)] w fun e w' => e = .returned (.int .u32 ((crTn 8 s).toNat : Int)) ∧ w = w' := by
  obtain ⟨q, HQ⟩ : ∃ q : Nat, Hid (s.toNat = q) := ⟨_, hid rfl⟩
  have hq : q ≤ 4294967295 := by rw [← HQ.out]; exact Nat.le_of_lt_succ s.isLt
  rw [HQ.out]
  go_enter Try.func14, Try.ntmps14
  go_wp2_with fail
  have hq0 : Hid (q = (crTn 0 s).toNat) := hid HQ.out.symm
  clear hq
  go_loopw [0, 4] (fun sr si wr => ∃ i m : Nat, i ≤ 8 ∧ si = .int .i64 (i : Int) ∧ sr = .int .u32 (m : Int) ∧ Hid (m = (crTn i s).toNat) ∧ Hid (w = wr)) (fun _ si _ => 8 - (intOf si).toNat)
  case atStart => exact ⟨0, q, Nat.zero_le _, rfl, rfl, hq0, hid rfl⟩
  case round =>
    obtain ⟨i, m, hi, rfl, rfl, HM, HW⟩ := hrel
    have hm : m ≤ 4294967295 := by rw [HM.out]; exact Nat.le_of_lt_succ (BitVec.isLt _)
    by_cases hlt : i < 8
    · have hi8 : (i : Int) < 8 := by omega
      have hcr := crT_nat (crTn i s)
      rw [← HM.out, ← crTn_succ] at hcr
      have HCR := hid hcr
      clear hcr
      by_cases hbig : 2147483648 ≤ m
      · have hsh : (m : Int) / 2147483648 = 1 := by omega
        obtain ⟨d, HD⟩ : ∃ d : Nat, Hid (2 * m - 4294967296 = d) := ⟨_, hid rfl⟩
        have hd : d ≤ 4294967295 := by have := HD.out; omega
        have hwr : IntKind.u32.wrap ((m : Int) * 2) = (d : Int) := by
          rw [IntKind.wrap_u32']
          have := HD.out
          omega
        obtain ⟨u, HU⟩ : ∃ u : Nat, Hid (d ^^^ 2168537515 = u) := ⟨_, hid rfl⟩
        have hx : bits BinOp.xor IntKind.u32 (d : Int) 2168537515 = (u : Int) := by
          rw [← HU.out]
          exact u32_xor_nat _ 2168537515 (by omega) (by decide)
        have HB := hid hbig
        clear hbig
        go_wp2_with fail
        go_roundw
        case rel => exact ⟨i + 1, u, by omega, by go_num, rfl, hid (by rw [HCR.out, if_pos HB.out, HD.out, HU.out]), HW⟩
        case measure => simp [intOf]; omega
      · have hsh : (m : Int) / 2147483648 = 0 := by omega
        obtain ⟨d, HD⟩ : ∃ d : Nat, Hid (2 * m = d) := ⟨_, hid rfl⟩
        have hwr : IntKind.u32.wrap ((m : Int) * 2) = (d : Int) := by
          rw [IntKind.wrap_u32']
          have := HD.out
          omega
        have hwr2 : (m : Int) * 2 = (d : Int) := by have := HD.out; omega
        have HB := hid hbig
        clear hbig
        go_wp2_with fail
        go_roundw
        case rel => exact ⟨i + 1, d, by omega, by go_num, rfl, hid (by rw [HCR.out, if_neg HB.out, HD.out]), HW⟩
        case measure => simp [intOf]; omega
    · have hi8 : ¬ (i : Int) < 8 := by omega
      obtain rfl : i = 8 := by omega
      go_wp2_with fail
      go_ret
      exact ⟨by rw [← HM.out]; rfl, HW.out⟩

/-- The check behind so many bytes. -/
theorem foldl_take (l : List UInt8) (r : BitVec 32) {j : Nat} (hj : j < l.length) : (l.take (j + 1)).foldl crN r = crN ((l.take j).foldl crN r) l[j] := by
  rw [List.take_succ_eq_append_getElem hj, List.foldl_append]
  rfl

set_option maxHeartbeats 1600000 in
theorem crcOf_any (ls : List (List UInt8)) (vs : Nat → Value) (gp n c : Nat) (w : World) (hn : ls.length = n) (_hg : gp < w.heap.size)
    (hc : ∀ j, j < n → w.cell? ⟨gp, j, none⟩ = some (vs j)) (hv : ∀ j (h : j < ls.length), Byt w (vs j) ls[j]) (hs : ls.flatten.length ≤ 1000000000) (hn2 : n ≤ 1000) :
    Calls Try.prog 8 #[.slice (some ⟨gp, 0, none⟩) n c] w fun e w' => e = .returned (.int .u32 ((crcS ls.flatten).toNat : Int)) ∧ Below w.heap.size w w' := by
  have HC := hid hc
  have HV := hid hv
  have HN := hid hn
  clear hc hv hn
  go_enter Try.func8, Try.ntmps8
  go_wp2_with fail
  go_loopw [3, 10] (fun sr si wr => ∃ i m : Nat, i ≤ n ∧ si = .int .i64 (i : Int) ∧ sr = .int .u32 (m : Int) ∧ Hid (m = (crcS (ls.take i).flatten).toNat) ∧ Hid (w = wr)) (fun _ si _ => n - (intOf si).toNat)
  case atStart => exact ⟨0, 0, Nat.zero_le _, rfl, rfl, hid (by rw [List.take_zero]; rfl), hid rfl⟩
  case round =>
    obtain ⟨i, m, hi, rfl, rfl, HM, HW⟩ := hrel
    obtain rfl := HW.out
    clear HW
    by_cases hlt : i < n
    · have hin : (i : Int) < (n : Int) := by omega
      have hil : i < ls.length := by rw [HN.out]; exact hlt
      have k1 := HC.out i hlt
      have hb := HV.out i hil
      have hlen : ls[i].length ≤ 1000000000 := by
        have h1 := congrArg (fun l => l.flatten.length) (List.take_append_drop i ls)
        rw [List.drop_eq_getElem_cons hil] at h1
        simp only [List.flatten_append, List.flatten_cons, List.length_append] at h1
        omega
      have hfl : (ls.take (i + 1)).flatten = (ls.take i).flatten ++ ls[i] := by rw [List.take_succ_eq_append_getElem hil, List.flatten_append, List.flatten_singleton]
      have HFL := hid hfl
      clear hfl
      obtain ⟨l, HL⟩ : ∃ l : List UInt8, Hid (ls[i] = l) := ⟨_, hid rfl⟩
      rw [HL.out] at hb hlen
      obtain ⟨B, cb', hvb⟩ := hb.shape
      rw [hvb] at k1 hb
      obtain ⟨L, HLL⟩ : ∃ L : Nat, Hid (l.length = L) := ⟨_, hid rfl⟩
      rw [HLL.out] at k1 hb hlen
      have HB := hid hb
      clear hb hvb
      go_wp2_with fail
      go_loopw [3, 16] (fun sr sj wr => ∃ (j m : Nat), j ≤ L ∧ sj = .int .i64 (j : Int) ∧ sr = .int .u32 (m : Int) ∧ Hid (m = ((l.take j).foldl crN (crcS (ls.take i).flatten)).toNat) ∧ Hid (w = wr)) (fun _ sj _ => L - (intOf sj).toNat)
      case atStart => exact ⟨0, m, Nat.zero_le _, rfl, rfl, hid (by rw [List.take_zero]; exact HM.out), hid rfl⟩
      case round =>
        obtain ⟨j, m2, hj, rfl, rfl, HM2, HW⟩ := hrel
        obtain rfl := HW.out
        clear HW
        by_cases hlt2 : j < L
        · have hjL : (j : Int) < (L : Int) := by omega
          have hjl : j < l.length := by rw [HLL.out]; exact hlt2
          obtain ⟨b, off, rfl, _, hcl⟩ := HB.out.at_.2.2.2 (by omega)
          have k2 := hcl j hjl
          clear hcl
          unfold bcell at k2
          obtain ⟨y, HY⟩ : ∃ y : Nat, Hid (l[j].toNat = y) := ⟨_, hid rfl⟩
          have hy : y ≤ 255 := by have := l[j].toNat_lt; have := HY.out; omega
          obtain ⟨m3, HM3⟩ : ∃ y : Nat, Hid (((l.take (j + 1)).foldl crN (crcS (ls.take i).flatten)).toNat = y) := ⟨_, hid rfl⟩
          obtain ⟨q, HQ⟩ : ∃ q : Nat, Hid (((l.take j).foldl crN (crcS (ls.take i).flatten) ^^^ BitVec.ofNat 32 (l[j].toNat * 16777216)).toNat = q) := ⟨_, hid rfl⟩
          have hm2 : m2 ≤ 4294967295 := by rw [HM2.out]; exact Nat.le_of_lt_succ (BitVec.isLt _)
          have hx : bits BinOp.xor IntKind.u32 (m2 : Int) ((y : Int) * 16777216) = (q : Int) := by
            have e : (y : Int) * 16777216 = ((y * 16777216 : Nat) : Int) := by omega
            rw [e, ← HQ.out, BitVec.toNat_xor, BitVec.toNat_ofNat, ← HM2.out, HY.out, Nat.mod_eq_of_lt (by omega)]
            exact u32_xor_nat _ _ (by omega) (by omega)
          have CS := turn_any ((l.take j).foldl crN (crcS (ls.take i).flatten) ^^^ BitVec.ofNat 32 (l[j].toNat * 16777216)) w
          rw [HQ.out] at CS
          have hcn : crTn 8 ((l.take j).foldl crN (crcS (ls.take i).flatten) ^^^ BitVec.ofNat 32 (l[j].toNat * 16777216)) = crN ((l.take j).foldl crN (crcS (ls.take i).flatten)) l[j] := rfl
          rw [hcn, ← foldl_take l _ hjl, HM3.out] at CS
          rw [HY.out] at k2
          have HCS := hid CS
          clear CS hcn hm2
          go_wp2_with fail
          refine HCS.out.mono ?_
          rintro e w1 ⟨rfl, rfl⟩
          go_wp2_with fail
          go_roundw
          case rel => exact ⟨j + 1, m3, by omega, by go_num, rfl, hid HM3.out.symm, (by first | exact hid rfl | exact hid trivial)⟩
          case measure => simp [intOf]; omega
        · have hjL : ¬ (j : Int) < (L : Int) := by omega
          have hj2 : l.take j = l := List.take_of_length_le (by rw [HLL.out]; omega)
          rw [hj2] at HM2
          clear hj2
          go_wp2_with fail
          go_roundw
          case rel => exact ⟨i + 1, m2, by omega, by go_num, rfl, hid (by rw [HM2.out, HFL.out, HL.out]; unfold crcS; rw [List.foldl_append]), (by first | exact hid rfl | exact hid trivial)⟩
          case measure => simp [intOf]; omega
    · have hin : ¬ (i : Int) < (n : Int) := by omega
      have hi2 : ls.take i = ls := List.take_of_length_le (by rw [HN.out]; omega)
      rw [hi2] at HM
      clear hi2
      go_wp2_with fail
      go_ret
      exact ⟨by rw [← HM.out]; rfl, Below.refl _ _⟩
end Go.Proofs.Ytpecdlafeelkoaa
