/-
  tithingref05.Of gives the check of bytes.
-/
import Derived.Test.YtpecdlafeelkoaaAppend
import Derived.Test.YtpecdlafeelkoaaCrcBits
import Derived.Test.YtpecdlafeelkoaaCrcNat
import Derived.LoopTactic
import Derived.Outline
import Derived.Laws.BitsAllLaws
namespace Go.Proofs.Ytpecdlafeelkoaa
open Go.RowKit

/-- Bytes in a block of their own. -/
theorem byt_new (w : World) (l : List UInt8) {C : Array Value} (hC : C = (bcells l).toArray) (hm : l.length ≤ maxLen) : Byt (w.alloc (.cells C 5)) (.slice (some ⟨w.heap.size, 0, none⟩) l.length l.length) l := by
  subst hC
  refine ⟨_, _, rfl, Nat.le_refl _, hm, fun _ => ⟨w.heap.size, 0, rfl, by simp, fun j hj => ?_⟩⟩
  rw [Nat.zero_add, cell_of_row _ _ _ _ _ (0, 0) (heap_alloc_new w _)]
  simp [bcells, hj]

theorem alloc_le (w : World) (o : Obj) : w.heap.size ≤ (w.alloc o).heap.size := by simp

theorem gf_take (c : UInt8) (r : BitVec 32) {j : Nat} (hj : j < 8) : gf ((cb c).take (j + 1)) r = crG (gf ((cb c).take j) r) (c.toNat.testBit (7 - j)) := by
  have h : (cb c).take (j + 1) = (cb c).take j ++ [c.toNat.testBit (7 - j)] := by
    rw [List.take_add_one]
    congr 1
    simp [cb, hj]
  rw [h, gf_append]
  rfl
theorem gf_all (c : UInt8) (r : BitVec 32) {j : Nat} (hj : ¬ j < 8) : gf ((cb c).take j) r = gf (cb c) r := by
  rw [List.take_of_length_le (by rw [cb_length]; omega)]
theorem gf_bytes (l : List UInt8) {i : Nat} (hi : i < l.length) : gf (bitsOf (l.take (i + 1))) 0#32 = gf (cb l[i]) (gf (bitsOf (l.take i)) 0#32) := by
  rw [List.take_add_one, List.getElem?_eq_getElem hi, bitsOf_append, gf_append]
  show gf (bitsOf [l[i]]) _ = _
  simp [bitsOf]

set_option maxHeartbeats 1600000 in
theorem refCrc_any (v : Value) (l : List UInt8) (w : World) (hv : Byt w v l) (hs : l.length ≤ 1000000) :
    Calls Try.prog 7 #[v] w fun e w' => e = .returned (.int .u32 ((crcS l).toNat : Int)) ∧ Below w.heap.size w w' := by
  have ho0 : Own w.heap.size (w.alloc (.cells #[] 5)) (.slice (some ⟨w.heap.size, 0, none⟩) 0 0) [] := World.ownsRow_made w #[] 0 (Nat.le_refl _) (Nat.zero_le _) rfl
  have hl1 : ([] : List UInt8).length + l.length ≤ 140737488355328 := by rw [List.length_nil]; omega
  have hs1 : w.heap.size ≤ (w.alloc (.cells #[] 5)).heap.size := by simp
  have hl2 : l.length + ([0, 0, 0, 0] : List UInt8).length ≤ 140737488355328 := by show l.length + 4 ≤ _; omega
  go_enter Try.func7, Try.ntmps7
  go_wp2_with (first
    | (at_builtin; refine wpList_append_byt rfl (.tmp 7) (.tmp 8) rfl rfl rfl ho0 (hv.alloc _) hl1 hs1 ?_; intro v9 w9 hown9 hg9 hv9; simp only [List.nil_append] at hown9; have hs9 := Nat.le_trans hs1 hg9.size; have hs9' := Nat.le_trans hs9 (alloc_le w9 (.cells #[.int .u8 0, .int .u8 0, .int .u8 0, .int .u8 0] 5)))
    | (at_builtin; refine wpList_append_byt rfl (.tmp 9) (.tmp 10) rfl rfl rfl (hown9.alloc _) (byt_new w9 [0, 0, 0, 0] rfl (by decide)) hl2 hs9' ?_; intro v11 w11 hown11 hg11 hv11))
  obtain ⟨A, HA⟩ : ∃ all : List UInt8, Hid (l ++ [0, 0, 0, 0] = all) := ⟨_, hid rfl⟩
  rw [HA.out] at hown11
  have hb9 : Below w.heap.size w w9 := ((Below.refl _ _).alloc (Nat.le_refl _) _).grown hg9 hs1 (fun k hk => (World.ownsRow.lt ho0 k hk).1)
  have hb11 : Below w.heap.size w w11 := (hb9.alloc hs9 _).grown hg11 hs9' (fun k hk => (World.ownsRow.lt hown9 k hk).1)
  have hby := hown11.byt
  obtain ⟨B, c, rfl⟩ := hby.shape
  obtain ⟨L, HL⟩ : ∃ L : Nat, Hid (A.length = L) := ⟨_, hid rfl⟩
  have hLs : L ≤ 1000004 := by
    rw [← HL.out, ← HA.out, List.length_append]
    show l.length + 4 ≤ _
    omega
  rw [HL.out] at hby ⊢
  have HBY := hid hby
  have HB11 := hid hb11
  clear hby hb9 hb11 hown9 hown11 hg9 hg11 hv9 hv11 hs1 hs9 hs9' hl1 hl2 ho0 hs
  go_loopw [3, 5] (fun sr si wr => ∃ i : Nat, i ≤ L ∧ si = .int .i64 (i : Int) ∧ sr = .int .u64 ((gf (bitsOf (A.take i)) 0#32).toNat : Int) ∧ Hid (w11 = wr)) (fun _ si _ => L - (intOf si).toNat)
  case atStart => exact ⟨0, Nat.zero_le _, rfl, rfl, hid rfl⟩
  case round =>
    obtain ⟨i, hi, rfl, rfl, HW⟩ := hrel
    obtain rfl := HW.out
    by_cases hlt : i < L
    · have hiL : (i : Int) < (L : Int) := by omega
      have hil : i < A.length := by rw [HL.out]; exact hlt
      obtain ⟨b, off, rfl, _, hcl⟩ := HBY.out.at_.2.2.2 (by rw [HL.out]; omega)
      have k1 := hcl i hil
      have HG := hid (gf_bytes A hil)
      clear hcl
      obtain ⟨x, HX⟩ : ∃ x : UInt8, Hid (A[i] = x) := ⟨_, hid rfl⟩
      obtain ⟨R, HR⟩ : ∃ R : BitVec 32, Hid (gf (bitsOf (A.take i)) 0#32 = R) := ⟨_, hid rfl⟩
      rw [HX.out] at k1
      rw [HR.out]
      unfold bcell at k1
      obtain ⟨y, HY⟩ : ∃ y : Nat, Hid (x.toNat = y) := ⟨_, hid rfl⟩
      have hy : y ≤ 255 := by have := x.toNat_lt; have := HY.out; omega
      rw [HY.out] at k1
      go_wp2_with fail
      go_loopw [3, 6] (fun sr sk wr => ∃ (j : Nat) (z : Int), j ≤ 8 ∧ z + (j : Int) = 7 ∧ sk = .int .i64 z ∧ sr = .int .u64 ((gf ((cb x).take j) R).toNat : Int) ∧ Hid (w11 = wr)) (fun _ sk _ => (intOf sk + 1).toNat)
      case atStart => exact ⟨0, 7, by omega, by omega, rfl, rfl, hid rfl⟩
      case round =>
        obtain ⟨j, z, hj, hz, rfl, rfl, HW⟩ := hrel
        obtain rfl := HW.out
        obtain ⟨r, Hr⟩ : ∃ r : BitVec 32, Hid (gf ((cb x).take j) R = r) := ⟨_, hid rfl⟩
        rw [Hr.out]
        obtain ⟨n, HN⟩ : ∃ n : Nat, Hid (r.toNat = n) := ⟨_, hid rfl⟩
        have hn : n ≤ 4294967295 := by rw [← HN.out]; exact Nat.le_of_lt_succ r.isLt
        rw [HN.out]
        by_cases hlt2 : j < 8
        · obtain ⟨m, hm⟩ : ∃ m : Nat, z = (m : Int) := ⟨z.toNat, by omega⟩
          subst hm
          have hm8 : (m : Int) < 8 := by omega
          have HM := hid (show 7 - j = m by omega)
          have HZ := hid hz
          clear hz
          obtain ⟨s, HSS⟩ : ∃ s : Nat, Hid (y / 2 ^ m = s) := ⟨_, hid rfl⟩
          have hs : s ≤ 255 := by rw [← HSS.out]; exact Nat.le_trans (Nat.div_le_self _ _) hy
          have hdiv : (y : Int) / 2 ^ m = (s : Int) := by rw [← HSS.out, Int.natCast_ediv, Int.natCast_pow]; rfl
          have hbit : (x.toNat.testBit (7 - j)).toNat = s % 2 := by rw [HM.out, HY.out, Nat.toNat_testBit, HSS.out]
          have hcr := crG_nat r (x.toNat.testBit (7 - j))
          rw [HN.out, hbit] at hcr
          have HCR := hid hcr
          clear hbit hcr
          by_cases hbig : 4294967296 ≤ 2 * n + s % 2
          · have hq : (4294967296 : Int) ≤ (n : Int) * 2 + (s : Int) % 2 := by omega
            obtain ⟨u, HU⟩ : ∃ u : Nat, Hid ((2 * n + s % 2 - 4294967296) ^^^ 2168537515 = u) := ⟨_, hid rfl⟩
            have hx : bits BinOp.xor IntKind.u64 ((n : Int) * 2 + (s : Int) % 2 - 4294967296) 2168537515 = (u : Int) := by
              have e : (n : Int) * 2 + (s : Int) % 2 - 4294967296 = ((2 * n + s % 2 - 4294967296 : Nat) : Int) := by omega
              rw [e, ← HU.out]
              exact u64_xor_nat _ 2168537515 (by omega) (by decide)
            have HB := hid hbig
            clear hbig
            go_wp2_with fail
            go_roundw
            case rel =>
              refine ⟨j + 1, (m : Int) - 1, by omega, by have := HM.out; omega, rfl, ?_, (by first | exact hid rfl | exact hid trivial)⟩
              rw [gf_take x R hlt2, Hr.out, HCR.out, if_pos HB.out, HU.out]
            case measure => simp [intOf]
          · have hq : ¬ (4294967296 : Int) ≤ (n : Int) * 2 + (s : Int) % 2 := by omega
            have HB := hid hbig
            clear hbig
            go_wp2_with fail
            go_roundw
            case rel =>
              refine ⟨j + 1, (m : Int) - 1, by omega, by have := HM.out; omega, rfl, ?_, (by first | exact hid rfl | exact hid trivial)⟩
              rw [gf_take x R hlt2, Hr.out, HCR.out, if_neg HB.out, Int.natCast_add, Int.natCast_mul, Int.natCast_emod, Int.mul_comm]
              rfl
            case measure => simp [intOf]
        · have hz0 : ¬ 0 ≤ z := by omega
          have ej := gf_all x R hlt2
          rw [Hr.out] at ej
          have HE := hid ej
          clear ej hz
          go_wp2_with fail
          go_roundw
          case rel => exact ⟨i + 1, by omega, by go_num, by rw [HG.out, HR.out, HX.out, ← HE.out, HN.out], (by first | exact hid rfl | exact hid trivial)⟩
          case measure => simp [intOf]; omega
    · have hiL : ¬ (i : Int) < (L : Int) := by omega
      have HE : Hid (gf (bitsOf (A.take i)) 0#32 = crcS l) := hid (by
        rw [List.take_of_length_le (by rw [HL.out]; omega), ← HA.out, bitsOf_append, gf_append, crcS_eq]
        show gf (bitsOf [0, 0, 0, 0]) _ = _
        have : bitsOf [0, 0, 0, 0] = List.replicate 32 false := by decide
        rw [this, gf_falses])
      obtain ⟨n, HN⟩ : ∃ n : Nat, Hid ((gf (bitsOf (A.take i)) 0#32).toNat = n) := ⟨_, hid rfl⟩
      have hn : n ≤ 4294967295 := by rw [← HN.out]; exact Nat.le_of_lt_succ (BitVec.isLt _)
      rw [HN.out]
      go_wp2_with fail
      go_ret
      exact ⟨by rw [← HE.out, HN.out]; rfl, HB11.out⟩
end Go.Proofs.Ytpecdlafeelkoaa
