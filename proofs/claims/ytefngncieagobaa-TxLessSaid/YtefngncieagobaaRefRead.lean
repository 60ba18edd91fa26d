/-
  The document's answer for what is read of a number: tithingref01.ReadNum.
-/
import Derived.Test.YtefngncieagobaaRefs
import Derived.Test.YtefngncieagobaaSame
import Derived.Test.YtefngncieagobaaFirst
import Derived.Test.YtefngncieagobaaText
import Derived.Deep.RegionHeld3
import Derived.Handy
namespace Go.Proofs.Ytefngncieagobaa
open Go.RowKit

theorem u64_range (x : Int) : 0 ≤ IntKind.u64.wrap x ∧ IntKind.u64.wrap x < 18446744073709551616 := by
  simp [IntKind.wrap, IntKind.signed, IntKind.bits]
  omega

/-- The document's reader by value. -/
def rv (A : Option Addr) (n c : Nat) (p : Nat) (wrong : Bool) : Value := .agg #[.slice A n c, .int .i64 (p : Int), .bool wrong]

/-- What is said of a reading of a number. -/
def RefNum (w : World) (A : Option Addr) (c : Nat) (l : List UInt8) (res : Nat × Nat × Bool) (e : Ending) (w' : World) : Prop :=
  e = .returned (.tuple #[rv A l.length c res.2.1 (!res.2.2), .int .u64 (res.1 : Int)]) ∧ Below w.heap.size w w'

set_option maxHeartbeats 3200000 in
theorem refReadNum_bad (A : Option Addr) (c p : Nat) (l : List UInt8) (w : World) :
    Calls Try.prog 28 #[.agg #[.slice A l.length c, .int .i64 (p : Int), .bool true]] w (RefNum w A c l (0, p, false)) := by
  go_enter Try.func28, Try.ntmps28
  go_wp2_with fail
  refine bodyPost_ret (v := .tuple #[.agg #[.slice A l.length c, .int .i64 (p : Int), .bool true], .int .u64 0]) (by simp [results, Try.results28, go_sem]) rfl ⟨rfl, ?_⟩
  go_grown

/-- Powers of 128, kept whole. -/
def p128 (i : Nat) : Nat := 128 ^ i
theorem p128_zero : p128 0 = 1 := rfl
theorem p128_le {i : Nat} (h : i ≤ 8) : p128 i ≤ 72057594037927936 := by
  have e8 : (128 : Nat) ^ 8 = 72057594037927936 := by decide
  unfold p128
  rw [← e8]
  exact Nat.pow_le_pow_right (by omega) h
theorem p128_step {i : Nat} (h : i ≤ 8) : IntKind.u64.wrap ((p128 i : Int) * 128) = (p128 (i + 1) : Int) := by
  have h1 := p128_le h
  have e : p128 (i + 1) = p128 i * 128 := by simp [p128, Nat.pow_succ]
  rw [wrap_u64 _ (by omega) (by omega), e]
  omega
theorem sum_step (n i : Nat) (x : Int) (hn : n < 18446744073709551616) (hx : x % 128 = ((n / 128 ^ i % 128 : Nat) : Int)) :
    IntKind.u64.wrap ((low n i : Int) + IntKind.u64.wrap (x % 128 * (p128 i : Int))) = (low n (i + 1) : Int) := by
  have hle : low n i + n / 128 ^ i % 128 * 128 ^ i ≤ n := by
    rw [← low_succ]
    exact Nat.mod_le _ _
  rw [hx, low_succ]
  unfold p128
  generalize n / 128 ^ i % 128 = d at *
  have e : (d : Int) * ((128 ^ i : Nat) : Int) = ((d * 128 ^ i : Nat) : Int) := by rw [Int.natCast_mul]
  rw [e, wrap_u64 ((d * 128 ^ i : Nat) : Int) (by omega) (by omega), wrap_u64 _ (by omega) (by omega)]
  omega

set_option maxHeartbeats 3200000 in
theorem refReadNum_yes (A : Option Addr) (c p n : Nat) (l : List UInt8) (w : World) (hv : Byt w (.slice A l.length c) l) (hp : p ≤ l.length) (hl : l.length ≤ 1099511627776) (hf : frst (l.drop p) = some n) :
    Calls Try.prog 28 #[.agg #[.slice A l.length c, .int .i64 (p : Int), .bool false]] w (RefNum w A c l (n, p + (dg n).length, true)) := by
  obtain ⟨hn, hpre⟩ := frst_some hf
  have hk := dg_len10 hn
  have hkp := dg_pos n
  have hkl := hpre.length_le
  rw [List.length_drop] at hkl
  obtain ⟨_, hlc, hcm, hr⟩ := hv.at_
  unfold maxLen at hcm
  obtain ⟨b, off, rfl, hb, hcell⟩ := hr (by omega)
  obtain ⟨k, HK⟩ : ∃ k : Nat, Hid ((dg n).length = k) := ⟨_, hid rfl⟩
  rw [HK.out] at hk hkp hkl ⊢
  have hget : ∀ i (h : i < k), (i + 1 < k → (l[p + i]'(by omega)).toNat = 128 + n / 128 ^ i % 128) ∧ (i + 1 = k → (l[p + i]'(by omega)).toNat = n / 128 ^ i ∧ n / 128 ^ i < 128) := by
    intro i h
    have hik : i < (dg n).length := by rw [HK.out]; exact h
    have e : l[p + i]'(by omega) = (dg n)[i] := by
      rw [hpre.getElem hik, List.getElem_drop]
    have := dg_get n i hik
    rw [HK.out] at this
    rw [e]
    exact ⟨this.1, fun h => ⟨(this.2 h).1, (this.2 h).2.1⟩⟩
  have HG := hid hget
  have HC := hid hcell
  have HP := hid hpre
  have HF := hid hf
  have HV := hid hv
  clear hget hcell hpre hf hr hv
  go_enter Try.func28, Try.ntmps28
  go_wp2_with fail
  go_loop [4, 5, 6] (fun sa su si => ∃ i : Nat, i < k ∧ si = .int .i64 i ∧ sa = .int .u64 (low n i : Int) ∧ su = .int .u64 (p128 i : Int)) (fun _ _ si => 10 - (intOf si).toNat)
  case atStart => exact ⟨0, by omega, rfl, by rw [low_zero]; rfl, rfl⟩
  case round =>
    obtain ⟨i, hi, rfl, rfl, rfl⟩ := hrel
    have hil : p + i < l.length := by omega
    have hcl := HC.out (p + i) hil
    have hx := HG.out i hi
    obtain ⟨x, hx0, hx1, HX⟩ : ∃ x : Int, 0 ≤ x ∧ x ≤ 255 ∧ Hid ((l[p + i].toNat : Int) = x) := ⟨_, (byte_lt l[p + i]).1, (byte_lt l[p + i]).2, hid rfl⟩
    unfold bcell at hcl
    rw [HX.out] at hcl
    have hi10 : (i : Int) < 10 := by omega
    have hpi : (p : Int) + (i : Int) < (l.length : Int) := by omega
    by_cases hlast : i + 1 < k
    · have hx2 := hx.1 hlast
      have hx3 : 128 ≤ x := by rw [← HX.out]; omega
      have HS := hid (sum_step n i x hn (by rw [← HX.out]; omega))
      have HU := hid (p128_step (i := i) (by omega))
      clear hx hx2
      go_wp2_with fail
      go_round
      case rel => exact ⟨i + 1, hlast, by go_num, by rw [HS.out], by rw [HU.out]⟩
      case measure => simp [intOf]; omega
    · obtain ⟨hx2, hx5⟩ := hx.2 (by omega)
      have hx3 : x < 128 := by rw [← HX.out]; omega
      have hik : i + 1 = k := by omega
      have hlow : low n k = n := by
        refine low_all n k ?_
        rw [← hik, Nat.pow_succ, Nat.mul_comm]
        have := Nat.pow_pos (n := i) (show 0 < 128 by omega)
        exact (Nat.div_lt_iff_lt_mul this).1 hx5
      have hsum := sum_step n i x hn (by rw [← HX.out]; omega)
      rw [hik, hlow] at hsum
      have HS := hid hsum
      have HIK := hid hik
      have W1 : IntKind.i64.wrap ((p : Int) + (i : Int)) = (p : Int) + (i : Int) := IntWalk.i64_in _ (by omega)
      have W2 : IntKind.i64.wrap ((p : Int) + (i : Int) + 1) = (p : Int) + (i : Int) + 1 := IntWalk.i64_in _ (by omega)
      have T1 : ((p : Int) + (i : Int) + 1).toNat = p + i + 1 := by omega
      have s1 : 0 ≤ (p : Int) + (i : Int) + 1 := by omega
      have s2 : (p : Int) + (i : Int) + 1 ≤ (c : Int) := by omega
      have s3 : (p : Int) ≤ (p : Int) + (i : Int) + 1 := by omega
      have hcp : ¬ c = p := by omega
      have hR := u64_range ((low n i : Int) + IntKind.u64.wrap (x % 128 * (p128 i : Int)))
      have hcut : dg n = (l.drop p).take k := by
        have := List.prefix_iff_eq_take.1 HP.out
        rw [HK.out] at this
        exact this
      have HD := hid hcut
      have HBY : Hid (∀ w' : World, Below w.heap.size w w' → Byt w' (.slice (some ⟨b, off + p, none⟩) (p + i + 1 - p) (c - p)) ((l.drop p).take k)) := hid (fun w' hb' => by
        have := (HV.out.below hb').mid (q := p) (n := k) (by omega)
        rw [if_neg hcp, Option.map_some, addr_add] at this
        rw [show p + i + 1 - p = k from by omega]
        exact this)
      clear hx hx2 hx5 hlow hsum hik hcut
      go_wp2_with fail
      obtain ⟨N, HN⟩ : ∃ N : Int, Hid (IntKind.u64.wrap ((low n i : Int) + IntKind.u64.wrap (x % 128 * (p128 i : Int))) = N) := ⟨_, hid rfl⟩
      rw [HN.out] at hR ⊢
      have hNn : Hid (N = (n : Int)) := hid (HN.out.symm.trans HS.out)
      have hbw : Below w.heap.size w ((w.alloc (.cells #[.slice (some ⟨b, off, none⟩) l.length c, .int .i64 (p : Int), .bool false] 31)).alloc (.cells #[.slice none 0 0, .int .i64 0, .bool false] 31)) := ((Below.refl _ _).alloc (Nat.le_refl _) _).alloc (by simp) _
      have hX0 := heap_alloc2_old w (.cells #[.slice (some ⟨b, off, none⟩) l.length c, .int .i64 (p : Int), .bool false] 31) (.cells #[.slice none 0 0, .int .i64 0, .bool false] 31)
      have hX1 := heap_alloc2_new w (.cells #[.slice (some ⟨b, off, none⟩) l.length c, .int .i64 (p : Int), .bool false] 31) (.cells #[.slice none 0 0, .int .i64 0, .bool false] 31)
      generalize ((w.alloc (.cells #[.slice (some ⟨b, off, none⟩) l.length c, .int .i64 (p : Int), .bool false] 31)).alloc (.cells #[.slice none 0 0, .int .i64 0, .bool false] 31)) = w0 at *
      have k0 := cell_blk hX0 0
      have k1 := cell_blk hX0 1
      simp at k0 k1
      have hlt0 := lt_of_block hX0
      have H0 := hid hX0
      have H1 := hid hX1
      clear hX0 hX1
      have hd0 : Below w0.heap.size w0 w0.drew := (Below.refl _ _).drew
      go_region_held3 (fun w' => w'.cell? ⟨w.heap.size, 0, none⟩ = some (.slice (some ⟨b, off, none⟩) l.length c) ∧ w'.cell? ⟨w.heap.size, 1, none⟩ = some (.int .i64 (p : Int)))
        (first
          | (refine ⟨k0, k1⟩)
          | (refine ⟨(hB4.cell (p := ⟨w.heap.size, 0, none⟩) hlt0).trans k0, (hB4.cell (p := ⟨w.heap.size, 1, none⟩) hlt0).trans k1⟩)
          | (refine ⟨(hB3.cell (p := ⟨w.heap.size, 0, none⟩) hlt0).trans k0, (hB3.cell (p := ⟨w.heap.size, 1, none⟩) hlt0).trans k1⟩)
          | fail)
        (first
          | (go_at_call 34; refine (refnum_any N _ hR.1 hR.2).mono ?_; rintro e w3 ⟨v3, rfl, hown3, hb3⟩; rw [hNn.out, Int.toNat_natCast, HD.out] at hown3; have hB3 : Below w0.heap.size w0 w3 := hd0.trans hb3)
          | (go_at_call 10; refine (same_yes _ _ _ _ hown3.byt (HBY.out _ (hbw.trans (hB3.mono hbw.size)))).mono ?_; rintro e w' ⟨rfl, n5, rfl⟩; have hB4 : Below w0.heap.size w0 (w3.drewN n5) := below_drewN hB3 n5)
          | fail)
      have G0 := (hB4.block _ hlt0).trans H0.out
      have hlt1 := lt_of_block H1.out
      have G1 := (hB4.block _ hlt1).trans H1.out
      have hbw4 : Below w.heap.size w (w3.drewN n5) := hbw.trans (hB4.mono hbw.size)
      generalize w3.drewN n5 = w5 at *
      have j0 := cell_blk G0 0
      have j1 := cell_blk G0 1
      have j2 := cell_blk G0 2
      have f1 := free_blk G0 1
      have i0 := cell_blk G1 0
      have i1 := cell_blk G1 1
      have i2 := cell_blk G1 2
      have g0 := free_blk G1 0
      have g1 := free_blk G1 1
      have g2 := free_blk G1 2
      simp at j0 j1 j2 i0 i1 i2
      clear k0 k1 hB3 hB4 hown3 hb3 G0 G1
      go_wp2_with fail
      refine bodyPost_ret (v := .tuple #[.agg #[.slice (some ⟨b, off, none⟩) l.length c, .int .i64 ((p : Int) + (i : Int) + 1), .bool false], .int .u64 N]) (by simp [results, Try.results28, go_sem, i0, i1, i2]) rfl ⟨?_, ?_⟩
      · rw [hNn.out, ← HIK.out]
        unfold rv
        simp only [Bool.not_true, Int.natCast_add, Int.natCast_one, Int.add_assoc]
      · go_grown

theorem same_no (u v : Value) (l m : List UInt8) (w : World) (hu : Byt w u l) (hv : Byt w v m) (hne : l ≠ m) :
    Calls Try.prog 10 #[u, v] w fun e w' => e = .returned (.bool false) ∧ ∃ n, w' = w.drewN n := by
  have h := same_any u v l m w hu hv
  rw [decide_eq_false hne] at h
  exact h

set_option maxHeartbeats 3200000 in
theorem refReadNum_no (A : Option Addr) (c p : Nat) (l : List UInt8) (w : World) (hv : Byt w (.slice A l.length c) l) (hp : p ≤ l.length) (hl : l.length ≤ 1099511627776) (hf : frst (l.drop p) = none) :
    Calls Try.prog 28 #[.agg #[.slice A l.length c, .int .i64 (p : Int), .bool false]] w (RefNum w A c l (0, p, false)) := by
  have hno := frst_none hf
  obtain ⟨_, hlc, hcm, hr⟩ := hv.at_
  unfold maxLen at hcm
  have HR := hid hr
  have HN0 := hid hno
  have HV := hid hv
  have hbw : Below w.heap.size w ((w.alloc (.cells #[.slice A l.length c, .int .i64 (p : Int), .bool false] 31)).alloc (.cells #[.slice none 0 0, .int .i64 0, .bool false] 31)) := ((Below.refl _ _).alloc (Nat.le_refl _) _).alloc (by simp) _
  have hX0 := heap_alloc2_old w (.cells #[.slice A l.length c, .int .i64 (p : Int), .bool false] 31) (.cells #[.slice none 0 0, .int .i64 0, .bool false] 31)
  have hX1 := heap_alloc2_new w (.cells #[.slice A l.length c, .int .i64 (p : Int), .bool false] 31) (.cells #[.slice none 0 0, .int .i64 0, .bool false] 31)
  have Hbw := hid hbw
  have HX0 := hid hX0
  have HX1 := hid hX1
  clear hno hf hr hv hbw hX0 hX1
  go_enter Try.func28, Try.ntmps28
  go_wp2_with fail
  go_loop [4, 5, 6] (fun sa su si => ∃ (i : Nat) (a u : Int), i ≤ 10 ∧ p + i ≤ l.length ∧ si = .int .i64 i ∧ sa = .int .u64 a ∧ su = .int .u64 u) (fun _ _ si => 10 - (intOf si).toNat)
  case atStart => exact ⟨0, 0, 1, by omega, by omega, rfl, rfl, rfl⟩
  case round =>
    obtain ⟨i, a, u, hi, hpi, rfl, rfl, rfl⟩ := hrel
    by_cases hin : i < 10 ∧ p + i < l.length
    · obtain ⟨hi10', hil⟩ := hin
      obtain ⟨b, off, rfl, hb, hcell⟩ := HR.out (by omega)
      have hcl := hcell (p + i) hil
      obtain ⟨x, hx0, hx1, HX⟩ : ∃ x : Int, 0 ≤ x ∧ x ≤ 255 ∧ Hid ((l[p + i].toNat : Int) = x) := ⟨_, (byte_lt l[p + i]).1, (byte_lt l[p + i]).2, hid rfl⟩
      unfold bcell at hcl
      rw [HX.out] at hcl
      have hi10 : (i : Int) < 10 := by omega
      have hpi2 : (p : Int) + (i : Int) < (l.length : Int) := by omega
      clear hcell
      by_cases hbig : 128 ≤ x
      · go_wp2_with fail
        go_round
        case rel => exact ⟨i + 1, _, _, by omega, by omega, by go_num, rfl, rfl⟩
        case measure => simp [intOf]; omega
      · have hx3 : x < 128 := by omega
        have W1 : IntKind.i64.wrap ((p : Int) + (i : Int)) = (p : Int) + (i : Int) := IntWalk.i64_in _ (by omega)
        have W2 : IntKind.i64.wrap ((p : Int) + (i : Int) + 1) = (p : Int) + (i : Int) + 1 := IntWalk.i64_in _ (by omega)
        have T1 : ((p : Int) + (i : Int) + 1).toNat = p + i + 1 := by omega
        have s1 : 0 ≤ (p : Int) + (i : Int) + 1 := by omega
        have s2 : (p : Int) + (i : Int) + 1 ≤ (c : Int) := by omega
        have s3 : (p : Int) ≤ (p : Int) + (i : Int) + 1 := by omega
        have hcp : ¬ c = p := by omega
        have hR := u64_range (a + IntKind.u64.wrap (x % 128 * u))
        have HBY : Hid (∀ w' : World, Below w.heap.size w w' → Byt w' (.slice (some ⟨b, off + p, none⟩) (p + i + 1 - p) (c - p)) ((l.drop p).take (i + 1))) := hid (fun w' hb' => by
          have := (HV.out.below hb').mid (q := p) (n := i + 1) (by omega)
          rw [if_neg hcp, Option.map_some, addr_add] at this
          rw [show p + i + 1 - p = i + 1 from by omega]
          exact this)
        go_wp2_with fail
        obtain ⟨N, HN⟩ : ∃ N : Int, Hid (IntKind.u64.wrap (a + IntKind.u64.wrap (x % 128 * u)) = N) := ⟨_, hid rfl⟩
        rw [HN.out] at hR ⊢
        have HNE : Hid (dg N.toNat ≠ (l.drop p).take (i + 1)) := hid (fun e => HN0.out N.toNat (by omega) (by rw [e]; exact List.take_prefix _ _))
        have hbw := Hbw.out
        have hX0 := HX0.out
        have hX1 := HX1.out
        generalize ((w.alloc (.cells #[.slice (some ⟨b, off, none⟩) l.length c, .int .i64 (p : Int), .bool false] 31)).alloc (.cells #[.slice none 0 0, .int .i64 0, .bool false] 31)) = w0 at *
        have k0 := cell_blk hX0 0
        have k1 := cell_blk hX0 1
        simp at k0 k1
        have hlt0 := lt_of_block hX0
        have H0 := hid hX0
        have H1 := hid hX1
        clear hX0 hX1 HX0 HX1 Hbw
        have hd0 : Below w0.heap.size w0 w0.drew := (Below.refl _ _).drew
        go_region_held3 (fun w' => w'.cell? ⟨w.heap.size, 0, none⟩ = some (.slice (some ⟨b, off, none⟩) l.length c) ∧ w'.cell? ⟨w.heap.size, 1, none⟩ = some (.int .i64 (p : Int)))
          (first
            | (refine ⟨k0, k1⟩)
            | (refine ⟨(hB4.cell (p := ⟨w.heap.size, 0, none⟩) hlt0).trans k0, (hB4.cell (p := ⟨w.heap.size, 1, none⟩) hlt0).trans k1⟩)
            | (refine ⟨(hB3.cell (p := ⟨w.heap.size, 0, none⟩) hlt0).trans k0, (hB3.cell (p := ⟨w.heap.size, 1, none⟩) hlt0).trans k1⟩)
            | fail)
          (first
            | (go_at_call 34; refine (refnum_any N _ hR.1 hR.2).mono ?_; rintro e w3 ⟨v3, rfl, hown3, hb3⟩; have hB3 : Below w0.heap.size w0 w3 := hd0.trans hb3)
            | (go_at_call 10; refine (same_no _ _ _ _ _ hown3.byt (HBY.out _ (hbw.trans (hB3.mono hbw.size))) HNE.out).mono ?_; rintro e w' ⟨rfl, n5, rfl⟩; have hB4 : Below w0.heap.size w0 (w3.drewN n5) := below_drewN hB3 n5)
            | fail)
        have G0 := (hB4.block _ hlt0).trans H0.out
        have hlt1 := lt_of_block H1.out
        have G1 := (hB4.block _ hlt1).trans H1.out
        have hbw4 : Below w.heap.size w (w3.drewN n5) := hbw.trans (hB4.mono hbw.size)
        generalize w3.drewN n5 = w5 at *
        have j0 := cell_blk G0 0
        have j1 := cell_blk G0 1
        have j2 := cell_blk G0 2
        have f2 := free_blk G0 2
        have i0 := cell_blk G1 0
        have i1 := cell_blk G1 1
        have i2 := cell_blk G1 2
        have g0 := free_blk G1 0
        have g1 := free_blk G1 1
        have g2 := free_blk G1 2
        simp at j0 j1 j2 i0 i1 i2
        clear k0 k1 hB3 hB4 hown3 hb3 G0 G1
        go_wp2_with fail
        refine bodyPost_ret (v := .tuple #[.agg #[.slice (some ⟨b, off, none⟩) l.length c, .int .i64 (p : Int), .bool true], .int .u64 0]) (by simp [results, Try.results28, go_sem, i0, i1, i2]) rfl ⟨rfl, ?_⟩
        go_grown
    · have hbw := Hbw.out
      by_cases hi10 : i < 10
      · have hpe : ¬ (p : Int) + (i : Int) < (l.length : Int) := by omega
        go_wp2_with fail
        refine bodyPost_ret (v := .tuple #[.agg #[.slice A l.length c, .int .i64 (p : Int), .bool true], .int .u64 0]) (by simp [results, Try.results28, go_sem]) rfl ⟨rfl, ?_⟩
        go_grown
      · obtain rfl : i = 10 := by omega
        go_wp2_with fail
        refine bodyPost_ret (v := .tuple #[.agg #[.slice A l.length c, .int .i64 (p : Int), .bool true], .int .u64 0]) (by simp [results, Try.results28, go_sem]) rfl ⟨rfl, ?_⟩
        go_grown

theorem refReadNum_any (A : Option Addr) (c p : Nat) (r : Bool) (l : List UInt8) (w : World) (hv : Byt w (.slice A l.length c) l) (hp : p ≤ l.length) (hl : l.length ≤ 1099511627776) :
    Calls Try.prog 28 #[.agg #[.slice A l.length c, .int .i64 (p : Int), .bool (!r)]] w (RefNum w A c l (rdNum 18446744073709551615 l p r)) := by
  cases r with
  | false => rw [rdNum_bad]; exact refReadNum_bad A c p l w
  | true =>
    cases hf : frst (l.drop p) with
    | none => rw [rdNum_no hf]; exact refReadNum_no A c p l w hv hp hl hf
    | some n => rw [rdNum_yes hf (by have := (frst_some hf).1; omega)]; exact refReadNum_yes A c p n l w hv hp hl hf
end Go.Proofs.Ytefngncieagobaa
