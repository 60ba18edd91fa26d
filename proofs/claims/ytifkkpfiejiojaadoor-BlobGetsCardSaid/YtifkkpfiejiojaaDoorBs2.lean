/-
  RefRead RefUpto RefText Hash RefHash Take Row Puts: what each of them says stands at its head.
-/
import Derived.Deep.RegionHeld3
import Derived.Handy
import Derived.Test.YtifkkpfiejiojaaDoorBs1
import Derived.BigRegion
import Derived.Great.BuildSlice
import Derived.ChangeOld
import Derived.OpenShut
import Derived.ProofKit
import Derived.ShutString
import Derived.ChangeArms
import Derived.Deep.Slices
namespace Go.Proofs.YtifkkpfiejiojaaDoor
set_option maxRecDepth 20000
open Go.RowKit
theorem u64_range (x : Int) : 0 ≤ IntKind.u64.wrap x ∧ IntKind.u64.wrap x < 18446744073709551616 := by
  simp [IntKind.wrap, IntKind.signed, IntKind.bits]
  omega
def rv (A : Option Addr) (n c : Nat) (p : Nat) (wrong : Bool) : Value := .agg #[.slice A n c, .int .i64 (p : Int), .bool wrong]
def RefNum (w : World) (A : Option Addr) (c : Nat) (l : List UInt8) (res : Nat × Nat × Bool) (e : Ending) (w' : World) : Prop :=
  e = .returned (.tuple #[rv A l.length c res.2.1 (!res.2.2), .int .u64 (res.1 : Int)]) ∧ Below w.heap.size w w'
set_option maxHeartbeats 3200000 in
theorem refReadNum_bad (A : Option Addr) (c p : Nat) (l : List UInt8) (w : World) :
    Calls Tryd.prog 47 #[.agg #[.slice A l.length c, .int .i64 (p : Int), .bool true]] w (RefNum w A c l (0, p, false)) := by
  go_enter Tryd.func47, Tryd.ntmps47
  go_wp2_with fail
  refine bodyPost_ret (v := .tuple #[.agg #[.slice A l.length c, .int .i64 (p : Int), .bool true], .int .u64 0]) (by simp [results, Tryd.results47, go_sem]) rfl ⟨rfl, ?_⟩
  go_grown
def p128 (i : Nat) : Nat := 128 ^ i
theorem p128_le {i : Nat} (h : i ≤ 8) : p128 i ≤ 72057594037927936 := by
  have e8 : (128 : Nat) ^ 8 = 72057594037927936 := by decide
  unfold p128
  rw [← e8]
  exact Nat.pow_le_pow_right (by omega) h
theorem p128_step {i : Nat} (h : i ≤ 8) : IntKind.u64.wrap ((p128 i : Int) * 128) = (p128 (i + 1) : Int) := by
  have h1 := p128_le h
  have e : p128 (i + 1) = p128 i * 128 := by simp [p128, Nat.pow_succ]
  rw [wrap_u64 _ (by omega) (by omega), e]
  omega
theorem sum_step (n i : Nat) (x : Int) (hn : n < 18446744073709551616) (hx : x % 128 = ((n / 128 ^ i % 128 : Nat) : Int)) :
    IntKind.u64.wrap ((low n i : Int) + IntKind.u64.wrap (x % 128 * (p128 i : Int))) = (low n (i + 1) : Int) := by
  have hle : low n i + n / 128 ^ i % 128 * 128 ^ i ≤ n := by
    rw [← low_succ]
    exact Nat.mod_le _ _
  rw [hx, low_succ]
  unfold p128
  generalize n / 128 ^ i % 128 = d at *
  have e : (d : Int) * ((128 ^ i : Nat) : Int) = ((d * 128 ^ i : Nat) : Int) := by rw [Int.natCast_mul]
  rw [e, wrap_u64 ((d * 128 ^ i : Nat) : Int) (by omega) (by omega), wrap_u64 _ (by omega) (by omega)]
  omega
set_option maxHeartbeats 3200000 in
theorem refReadNum_yes (A : Option Addr) (c p n : Nat) (l : List UInt8) (w : World) (hv : Byt w (.slice A l.length c) l) (hp : p ≤ l.length) (hl : l.length ≤ 1099511627776) (hf : frst (l.drop p) = some n) :
    Calls Tryd.prog 47 #[.agg #[.slice A l.length c, .int .i64 (p : Int), .bool false]] w (RefNum w A c l (n, p + (dg n).length, true)) := by
  obtain ⟨hn, hpre⟩ := frst_some hf
  have hk := dg_len10 hn
  have hkp := dg_pos n
  have hkl := hpre.length_le
  rw [List.length_drop] at hkl
  obtain ⟨_, hlc, hcm, hr⟩ := hv.at_
  unfold maxLen at hcm
  obtain ⟨b, off, rfl, hb, hcell⟩ := hr (by omega)
  obtain ⟨k, HK⟩ : ∃ k : Nat, Hid ((dg n).length = k) := ⟨_, hid rfl⟩
  rw [HK.out] at hk hkp hkl ⊢
  have hget : ∀ i (h : i < k), (i + 1 < k → (l[p + i]'(by omega)).toNat = 128 + n / 128 ^ i % 128) ∧ (i + 1 = k → (l[p + i]'(by omega)).toNat = n / 128 ^ i ∧ n / 128 ^ i < 128) := by
    intro i h
    have hik : i < (dg n).length := by rw [HK.out]; exact h
    have e : l[p + i]'(by omega) = (dg n)[i] := by
      rw [hpre.getElem hik, List.getElem_drop]
    have := dg_get n i hik
    rw [HK.out] at this
    rw [e]
    exact ⟨this.1, fun h => ⟨(this.2 h).1, (this.2 h).2.1⟩⟩
  have HG := hid hget
  have HC := hid hcell
  have HP := hid hpre
  have HF := hid hf
  have HV := hid hv
  clear hget hcell hpre hf hr hv
  go_enter Tryd.func47, Tryd.ntmps47
  go_wp2_with fail
  go_loop [4, 5, 6] (fun sa su si => ∃ i : Nat, i < k ∧ si = .int .i64 i ∧ sa = .int .u64 (low n i : Int) ∧ su = .int .u64 (p128 i : Int)) (fun _ _ si => 10 - (intOf si).toNat)
  case atStart => exact ⟨0, by omega, rfl, by rw [low_zero]; rfl, rfl⟩
  case round =>
    obtain ⟨i, hi, rfl, rfl, rfl⟩ := hrel
    have hil : p + i < l.length := by omega
    have hcl := HC.out (p + i) hil
    have hx := HG.out i hi
    obtain ⟨x, hx0, hx1, HX⟩ : ∃ x : Int, 0 ≤ x ∧ x ≤ 255 ∧ Hid ((l[p + i].toNat : Int) = x) := ⟨_, (byte_lt l[p + i]).1, (byte_lt l[p + i]).2, hid rfl⟩
    unfold bcell at hcl
    rw [HX.out] at hcl
    have hi10 : (i : Int) < 10 := by omega
    have hpi : (p : Int) + (i : Int) < (l.length : Int) := by omega
    by_cases hlast : i + 1 < k
    · have hx2 := hx.1 hlast
      have hx3 : 128 ≤ x := by rw [← HX.out]; omega
      have HS := hid (sum_step n i x hn (by rw [← HX.out]; omega))
      have HU := hid (p128_step (i := i) (by omega))
      clear hx hx2
      go_wp2_with fail
      go_round
      case rel => exact ⟨i + 1, hlast, by go_num, by rw [HS.out], by rw [HU.out]⟩
      case measure => simp [intOf]; omega
    · obtain ⟨hx2, hx5⟩ := hx.2 (by omega)
      have hx3 : x < 128 := by rw [← HX.out]; omega
      have hik : i + 1 = k := by omega
      have hlow : low n k = n := by
        refine low_all n k ?_
        rw [← hik, Nat.pow_succ, Nat.mul_comm]
        have := Nat.pow_pos (n := i) (show 0 < 128 by omega)
        exact (Nat.div_lt_iff_lt_mul this).1 hx5
      have hsum := sum_step n i x hn (by rw [← HX.out]; omega)
      rw [hik, hlow] at hsum
      have HS := hid hsum
      have HIK := hid hik
      have W1 : IntKind.i64.wrap ((p : Int) + (i : Int)) = (p : Int) + (i : Int) := IntWalk.i64_in _ (by omega)
      have W2 : IntKind.i64.wrap ((p : Int) + (i : Int) + 1) = (p : Int) + (i : Int) + 1 := IntWalk.i64_in _ (by omega)
      have T1 : ((p : Int) + (i : Int) + 1).toNat = p + i + 1 := by omega
      have s1 : 0 ≤ (p : Int) + (i : Int) + 1 := by omega
      have s2 : (p : Int) + (i : Int) + 1 ≤ (c : Int) := by omega
      have s3 : (p : Int) ≤ (p : Int) + (i : Int) + 1 := by omega
      have hcp : ¬ c = p := by omega
      have hR := u64_range ((low n i : Int) + IntKind.u64.wrap (x % 128 * (p128 i : Int)))
      have hcut : dg n = (l.drop p).take k := by
        have := List.prefix_iff_eq_take.1 HP.out
        rw [HK.out] at this
        exact this
      have HD := hid hcut
      have HBY : Hid (∀ w' : World, Below w.heap.size w w' → Byt w' (.slice (some ⟨b, off + p, none⟩) (p + i + 1 - p) (c - p)) ((l.drop p).take k)) := hid (fun w' hb' => by
        have := (HV.out.below hb').mid (q := p) (n := k) (by omega)
        rw [if_neg hcp, Option.map_some, addr_add] at this
        rw [show p + i + 1 - p = k from by omega]
        exact this)
      clear hx hx2 hx5 hlow hsum hik hcut
      go_wp2_with fail
      obtain ⟨N, HN⟩ : ∃ N : Int, Hid (IntKind.u64.wrap ((low n i : Int) + IntKind.u64.wrap (x % 128 * (p128 i : Int))) = N) := ⟨_, hid rfl⟩
      rw [HN.out] at hR ⊢
      have hNn : Hid (N = (n : Int)) := hid (HN.out.symm.trans HS.out)
      have hbw : Below w.heap.size w ((w.alloc (.cells #[.slice (some ⟨b, off, none⟩) l.length c, .int .i64 (p : Int), .bool false] 54)).alloc (.cells #[.slice none 0 0, .int .i64 0, .bool false] 54)) := ((Below.refl _ _).alloc (Nat.le_refl _) _).alloc (by simp) _
      have hX0 := heap_alloc2_old w (.cells #[.slice (some ⟨b, off, none⟩) l.length c, .int .i64 (p : Int), .bool false] 54) (.cells #[.slice none 0 0, .int .i64 0, .bool false] 54)
      have hX1 := heap_alloc2_new w (.cells #[.slice (some ⟨b, off, none⟩) l.length c, .int .i64 (p : Int), .bool false] 54) (.cells #[.slice none 0 0, .int .i64 0, .bool false] 54)
      generalize ((w.alloc (.cells #[.slice (some ⟨b, off, none⟩) l.length c, .int .i64 (p : Int), .bool false] 54)).alloc (.cells #[.slice none 0 0, .int .i64 0, .bool false] 54)) = w0 at *
      have k0 := cell_blk hX0 0
      have k1 := cell_blk hX0 1
      simp at k0 k1
      have hlt0 := lt_of_block hX0
      have H0 := hid hX0
      have H1 := hid hX1
      clear hX0 hX1
      have hd0 : Below w0.heap.size w0 w0.drew := (Below.refl _ _).drew
      go_region_held3 (fun w' => w'.cell? ⟨w.heap.size, 0, none⟩ = some (.slice (some ⟨b, off, none⟩) l.length c) ∧ w'.cell? ⟨w.heap.size, 1, none⟩ = some (.int .i64 (p : Int)))
        (first
          | (refine ⟨k0, k1⟩)
          | (refine ⟨(hB4.cell (p := ⟨w.heap.size, 0, none⟩) hlt0).trans k0, (hB4.cell (p := ⟨w.heap.size, 1, none⟩) hlt0).trans k1⟩)
          | (refine ⟨(hB3.cell (p := ⟨w.heap.size, 0, none⟩) hlt0).trans k0, (hB3.cell (p := ⟨w.heap.size, 1, none⟩) hlt0).trans k1⟩)
          | fail)
        (first
          | (go_at_call 44; refine (refnum_any N _ hR.1 hR.2).mono ?_; rintro e w3 ⟨v3, rfl, hown3, hb3⟩; rw [hNn.out, Int.toNat_natCast, HD.out] at hown3; have hB3 : Below w0.heap.size w0 w3 := hd0.trans hb3)
          | (go_at_call 12; refine (same_yes _ _ _ _ hown3.byt (HBY.out _ (hbw.trans (hB3.mono hbw.size)))).mono ?_; rintro e w' ⟨rfl, n5, rfl⟩; have hB4 : Below w0.heap.size w0 (w3.drewN n5) := below_drewN hB3 n5)
          | fail)
      have G0 := (hB4.block _ hlt0).trans H0.out
      have hlt1 := lt_of_block H1.out
      have G1 := (hB4.block _ hlt1).trans H1.out
      have hbw4 : Below w.heap.size w (w3.drewN n5) := hbw.trans (hB4.mono hbw.size)
      generalize w3.drewN n5 = w5 at *
      have j0 := cell_blk G0 0
      have j1 := cell_blk G0 1
      have j2 := cell_blk G0 2
      have f1 := free_blk G0 1
      have i0 := cell_blk G1 0
      have i1 := cell_blk G1 1
      have i2 := cell_blk G1 2
      have g0 := free_blk G1 0
      have g1 := free_blk G1 1
      have g2 := free_blk G1 2
      simp at j0 j1 j2 i0 i1 i2
      clear k0 k1 hB3 hB4 hown3 hb3 G0 G1
      go_wp2_with fail
      refine bodyPost_ret (v := .tuple #[.agg #[.slice (some ⟨b, off, none⟩) l.length c, .int .i64 ((p : Int) + (i : Int) + 1), .bool false], .int .u64 N]) (by simp [results, Tryd.results47, go_sem, i0, i1, i2]) rfl ⟨?_, ?_⟩
      · rw [hNn.out, ← HIK.out]
        unfold rv
        simp only [Bool.not_true, Int.natCast_add, Int.natCast_one, Int.add_assoc]
      · go_grown
theorem same_no (u v : Value) (l m : List UInt8) (w : World) (hu : Byt w u l) (hv : Byt w v m) (hne : l ≠ m) :
    Calls Tryd.prog 12 #[u, v] w fun e w' => e = .returned (.bool false) ∧ ∃ n, w' = w.drewN n := by
  have h := same_any u v l m w hu hv
  rw [decide_eq_false hne] at h
  exact h
set_option maxHeartbeats 3200000 in
theorem refReadNum_no (A : Option Addr) (c p : Nat) (l : List UInt8) (w : World) (hv : Byt w (.slice A l.length c) l) (hp : p ≤ l.length) (hl : l.length ≤ 1099511627776) (hf : frst (l.drop p) = none) :
    Calls Tryd.prog 47 #[.agg #[.slice A l.length c, .int .i64 (p : Int), .bool false]] w (RefNum w A c l (0, p, false)) := by
  have hno := frst_none hf
  obtain ⟨_, hlc, hcm, hr⟩ := hv.at_
  unfold maxLen at hcm
  have HR := hid hr
  have HN0 := hid hno
  have HV := hid hv
  have hbw : Below w.heap.size w ((w.alloc (.cells #[.slice A l.length c, .int .i64 (p : Int), .bool false] 54)).alloc (.cells #[.slice none 0 0, .int .i64 0, .bool false] 54)) := ((Below.refl _ _).alloc (Nat.le_refl _) _).alloc (by simp) _
  have hX0 := heap_alloc2_old w (.cells #[.slice A l.length c, .int .i64 (p : Int), .bool false] 54) (.cells #[.slice none 0 0, .int .i64 0, .bool false] 54)
  have hX1 := heap_alloc2_new w (.cells #[.slice A l.length c, .int .i64 (p : Int), .bool false] 54) (.cells #[.slice none 0 0, .int .i64 0, .bool false] 54)
  have Hbw := hid hbw
  have HX0 := hid hX0
  have HX1 := hid hX1
  clear hno hf hr hv hbw hX0 hX1
  go_enter Tryd.func47, Tryd.ntmps47
  go_wp2_with fail
  go_loop [4, 5, 6] (fun sa su si => ∃ (i : Nat) (a u : Int), i ≤ 10 ∧ p + i ≤ l.length ∧ si = .int .i64 i ∧ sa = .int .u64 a ∧ su = .int .u64 u) (fun _ _ si => 10 - (intOf si).toNat)
  case atStart => exact ⟨0, 0, 1, by omega, by omega, rfl, rfl, rfl⟩
  case round =>
    obtain ⟨i, a, u, hi, hpi, rfl, rfl, rfl⟩ := hrel
    by_cases hin : i < 10 ∧ p + i < l.length
    · obtain ⟨hi10', hil⟩ := hin
      obtain ⟨b, off, rfl, hb, hcell⟩ := HR.out (by omega)
      have hcl := hcell (p + i) hil
      obtain ⟨x, hx0, hx1, HX⟩ : ∃ x : Int, 0 ≤ x ∧ x ≤ 255 ∧ Hid ((l[p + i].toNat : Int) = x) := ⟨_, (byte_lt l[p + i]).1, (byte_lt l[p + i]).2, hid rfl⟩
      unfold bcell at hcl
      rw [HX.out] at hcl
      have hi10 : (i : Int) < 10 := by omega
      have hpi2 : (p : Int) + (i : Int) < (l.length : Int) := by omega
      clear hcell
      by_cases hbig : 128 ≤ x
      · go_wp2_with fail
        go_round
        case rel => exact ⟨i + 1, _, _, by omega, by omega, by go_num, rfl, rfl⟩
        case measure => simp [intOf]; omega
      · have hx3 : x < 128 := by omega
        have W1 : IntKind.i64.wrap ((p : Int) + (i : Int)) = (p : Int) + (i : Int) := IntWalk.i64_in _ (by omega)
        have W2 : IntKind.i64.wrap ((p : Int) + (i : Int) + 1) = (p : Int) + (i : Int) + 1 := IntWalk.i64_in _ (by omega)
        have T1 : ((p : Int) + (i : Int) + 1).toNat = p + i + 1 := by omega
        have s1 : 0 ≤ (p : Int) + (i : Int) + 1 := by omega
        have s2 : (p : Int) + (i : Int) + 1 ≤ (c : Int) := by omega
        have s3 : (p : Int) ≤ (p : Int) + (i : Int) + 1 := by omega
        have hcp : ¬ c = p := by omega
        have hR := u64_range (a + IntKind.u64.wrap (x % 128 * u))
        have HBY : Hid (∀ w' : World, Below w.heap.size w w' → Byt w' (.slice (some ⟨b, off + p, none⟩) (p + i + 1 - p) (c - p)) ((l.drop p).take (i + 1))) := hid (fun w' hb' => by
          have := (HV.out.below hb').mid (q := p) (n := i + 1) (by omega)
          rw [if_neg hcp, Option.map_some, addr_add] at this
          rw [show p + i + 1 - p = i + 1 from by omega]
          exact this)
        go_wp2_with fail
        obtain ⟨N, HN⟩ : ∃ N : Int, Hid (IntKind.u64.wrap (a + IntKind.u64.wrap (x % 128 * u)) = N) := ⟨_, hid rfl⟩
        rw [HN.out] at hR ⊢
        have HNE : Hid (dg N.toNat ≠ (l.drop p).take (i + 1)) := hid (fun e => HN0.out N.toNat (by omega) (by rw [e]; exact List.take_prefix _ _))
        have hbw := Hbw.out
        have hX0 := HX0.out
        have hX1 := HX1.out
        generalize ((w.alloc (.cells #[.slice (some ⟨b, off, none⟩) l.length c, .int .i64 (p : Int), .bool false] 54)).alloc (.cells #[.slice none 0 0, .int .i64 0, .bool false] 54)) = w0 at *
        have k0 := cell_blk hX0 0
        have k1 := cell_blk hX0 1
        simp at k0 k1
        have hlt0 := lt_of_block hX0
        have H0 := hid hX0
        have H1 := hid hX1
        clear hX0 hX1 HX0 HX1 Hbw
        have hd0 : Below w0.heap.size w0 w0.drew := (Below.refl _ _).drew
        go_region_held3 (fun w' => w'.cell? ⟨w.heap.size, 0, none⟩ = some (.slice (some ⟨b, off, none⟩) l.length c) ∧ w'.cell? ⟨w.heap.size, 1, none⟩ = some (.int .i64 (p : Int)))
          (first
            | (refine ⟨k0, k1⟩)
            | (refine ⟨(hB4.cell (p := ⟨w.heap.size, 0, none⟩) hlt0).trans k0, (hB4.cell (p := ⟨w.heap.size, 1, none⟩) hlt0).trans k1⟩)
            | (refine ⟨(hB3.cell (p := ⟨w.heap.size, 0, none⟩) hlt0).trans k0, (hB3.cell (p := ⟨w.heap.size, 1, none⟩) hlt0).trans k1⟩)
            | fail)
          (first
            | (go_at_call 44; refine (refnum_any N _ hR.1 hR.2).mono ?_; rintro e w3 ⟨v3, rfl, hown3, hb3⟩; have hB3 : Below w0.heap.size w0 w3 := hd0.trans hb3)
            | (go_at_call 12; refine (same_no _ _ _ _ _ hown3.byt (HBY.out _ (hbw.trans (hB3.mono hbw.size))) HNE.out).mono ?_; rintro e w' ⟨rfl, n5, rfl⟩; have hB4 : Below w0.heap.size w0 (w3.drewN n5) := below_drewN hB3 n5)
            | fail)
        have G0 := (hB4.block _ hlt0).trans H0.out
        have hlt1 := lt_of_block H1.out
        have G1 := (hB4.block _ hlt1).trans H1.out
        have hbw4 : Below w.heap.size w (w3.drewN n5) := hbw.trans (hB4.mono hbw.size)
        generalize w3.drewN n5 = w5 at *
        have j0 := cell_blk G0 0
        have j1 := cell_blk G0 1
        have j2 := cell_blk G0 2
        have f2 := free_blk G0 2
        have i0 := cell_blk G1 0
        have i1 := cell_blk G1 1
        have i2 := cell_blk G1 2
        have g0 := free_blk G1 0
        have g1 := free_blk G1 1
        have g2 := free_blk G1 2
        simp at j0 j1 j2 i0 i1 i2
        clear k0 k1 hB3 hB4 hown3 hb3 G0 G1
        go_wp2_with fail
        refine bodyPost_ret (v := .tuple #[.agg #[.slice (some ⟨b, off, none⟩) l.length c, .int .i64 (p : Int), .bool true], .int .u64 0]) (by simp [results, Tryd.results47, go_sem, i0, i1, i2]) rfl ⟨rfl, ?_⟩
        go_grown
    · have hbw := Hbw.out
      by_cases hi10 : i < 10
      · have hpe : ¬ (p : Int) + (i : Int) < (l.length : Int) := by omega
        go_wp2_with fail
        refine bodyPost_ret (v := .tuple #[.agg #[.slice A l.length c, .int .i64 (p : Int), .bool true], .int .u64 0]) (by simp [results, Tryd.results47, go_sem]) rfl ⟨rfl, ?_⟩
        go_grown
      · obtain rfl : i = 10 := by omega
        go_wp2_with fail
        refine bodyPost_ret (v := .tuple #[.agg #[.slice A l.length c, .int .i64 (p : Int), .bool true], .int .u64 0]) (by simp [results, Tryd.results47, go_sem]) rfl ⟨rfl, ?_⟩
        go_grown
theorem refReadNum_any (A : Option Addr) (c p : Nat) (r : Bool) (l : List UInt8) (w : World) (hv : Byt w (.slice A l.length c) l) (hp : p ≤ l.length) (hl : l.length ≤ 1099511627776) :
    Calls Tryd.prog 47 #[.agg #[.slice A l.length c, .int .i64 (p : Int), .bool (!r)]] w (RefNum w A c l (rdNum 18446744073709551615 l p r)) := by
  cases r with
  | false => rw [rdNum_bad]; exact refReadNum_bad A c p l w
  | true =>
    cases hf : frst (l.drop p) with
    | none => rw [rdNum_no hf]; exact refReadNum_no A c p l w hv hp hl hf
    | some n => rw [rdNum_yes hf (by have := (frst_some hf).1; omega)]; exact refReadNum_yes A c p n l w hv hp hl hf
end Go.Proofs.YtifkkpfiejiojaaDoor
namespace Go.Proofs.YtifkkpfiejiojaaDoor
set_option maxRecDepth 20000
open Go.RowKit
def RefUpto (w : World) (A : Option Addr) (c : Nat) (l : List UInt8) (res : Nat × Nat × Bool) (e : Ending) (w' : World) : Prop :=
  e = .returned (.tuple #[rv A l.length c res.2.1 (!res.2.2), .int .i64 (res.1 : Int)]) ∧ Below w.heap.size w w'
set_option maxHeartbeats 3200000 in
theorem refUpto_bad (A : Option Addr) (c p : Nat) (r : Bool) (l : List UInt8) (most : Int) (w : World) (hv : Byt w (.slice A l.length c) l) (hp : p ≤ l.length) (hl : l.length ≤ 1099511627776)
    (n p' : Nat) (r' : Bool) (hrd : rdNum 18446744073709551615 l p r = (n, p', r')) (hm0 : -9223372036854775808 ≤ most) (hm1 : most ≤ 9223372036854775807)
    (hbad : r' = false ∨ (r' = true ∧ most < 0) ∨ (r' = true ∧ 0 ≤ most ∧ most < (n : Int))) (_hn : n < 18446744073709551616) :
    Calls Tryd.prog 30 #[.agg #[.slice A l.length c, .int .i64 (p : Int), .bool (!r)], .int .i64 most] w (RefUpto w A c l (0, p, false)) := by
  have HRD := hid hrd
  have hbw : Below w.heap.size w ((w.alloc (.cells #[.slice A l.length c, .int .i64 (p : Int), .bool (!r)] 54)).alloc (.cells #[.slice none 0 0, .int .i64 0, .bool false] 54)) := ((Below.refl _ _).alloc (Nat.le_refl _) _).alloc (by simp) _
  have hX0 := heap_alloc2_old w (.cells #[.slice A l.length c, .int .i64 (p : Int), .bool (!r)] 54) (.cells #[.slice none 0 0, .int .i64 0, .bool false] 54)
  have hX1 := heap_alloc2_new w (.cells #[.slice A l.length c, .int .i64 (p : Int), .bool (!r)] 54) (.cells #[.slice none 0 0, .int .i64 0, .bool false] 54)
  have hv0 := hv.below hbw
  have hlt : w.heap.size + 1 < ((w.alloc (.cells #[.slice A l.length c, .int .i64 (p : Int), .bool (!r)] 54)).alloc (.cells #[.slice none 0 0, .int .i64 0, .bool false] 54)).heap.size := by simp
  have Hbw := hid hbw
  have HX0 := hid hX0
  have HX1 := hid hX1
  clear hrd hX0 hX1 hbw
  go_enter Tryd.func30, Tryd.ntmps30
  go_wp2_with fail
  generalize ((w.alloc (.cells #[.slice A l.length c, .int .i64 (p : Int), .bool (!r)] 54)).alloc (.cells #[.slice none 0 0, .int .i64 0, .bool false] 54)) = w0 at *
  have C := refReadNum_any A c p r l w0 hv0 hp hl
  rw [HRD.out] at C
  refine C.mono ?_
  clear C
  rintro e w1 ⟨rfl, hb1⟩
  unfold rv
  have G0 := (hb1.block _ (by omega)).trans HX0.out
  have G1 := (hb1.block _ (by omega)).trans HX1.out
  have hbw1 : Below w.heap.size w w1 := Hbw.out.trans (hb1.mono (by omega))
  have hs1 := hb1.size
  have j0 := cell_blk G0 0
  have j1 := cell_blk G0 1
  have j2 := cell_blk G0 2
  have f2 := free_blk G0 2
  have i0 := cell_blk G1 0
  have i1 := cell_blk G1 1
  have i2 := cell_blk G1 2
  have g0 := free_blk G1 0
  have g1 := free_blk G1 1
  have g2 := free_blk G1 2
  simp at j0 j1 j2 i0 i1 i2
  have hl0 : w.heap.size < w1.heap.size := by omega
  have hl1 : w.heap.size + 1 < w1.heap.size := by omega
  clear G0 G1 hb1 hv0 HX0 HX1 Hbw hv
  rcases hbad with hb | ⟨rfl, hneg⟩ | ⟨rfl, hpos, hbig⟩
  · subst hb
    go_wp2_with fail
    refine bodyPost_ret (v := .tuple #[.agg #[.slice A l.length c, .int .i64 (p : Int), .bool true], .int .i64 0]) (by simp [results, Tryd.results30, go_sem, i0, i1, i2, hl1]) rfl ⟨rfl, ?_⟩
    go_grown
  · go_wp2_with fail
    refine bodyPost_ret (v := .tuple #[.agg #[.slice A l.length c, .int .i64 (p : Int), .bool true], .int .i64 0]) (by simp [results, Tryd.results30, go_sem, i0, i1, i2, hl1]) rfl ⟨rfl, ?_⟩
    go_grown
  · have hnn : ¬ most < 0 := by omega
    go_wp2_with fail
    refine bodyPost_ret (v := .tuple #[.agg #[.slice A l.length c, .int .i64 (p : Int), .bool true], .int .i64 0]) (by simp [results, Tryd.results30, go_sem, i0, i1, i2, hl1]) rfl ⟨rfl, ?_⟩
    go_grown
set_option maxHeartbeats 3200000 in
theorem refUpto_yes (A : Option Addr) (c p : Nat) (r : Bool) (l : List UInt8) (most : Int) (w : World) (hv : Byt w (.slice A l.length c) l) (hp : p ≤ l.length) (hl : l.length ≤ 1099511627776)
    (n p' : Nat) (hrd : rdNum 18446744073709551615 l p r = (n, p', true)) (hm1 : most ≤ 9223372036854775807) (hle : (n : Int) ≤ most) :
    Calls Tryd.prog 30 #[.agg #[.slice A l.length c, .int .i64 (p : Int), .bool (!r)], .int .i64 most] w (RefUpto w A c l (n, p', true)) := by
  have HRD := hid hrd
  have hbw : Below w.heap.size w ((w.alloc (.cells #[.slice A l.length c, .int .i64 (p : Int), .bool (!r)] 54)).alloc (.cells #[.slice none 0 0, .int .i64 0, .bool false] 54)) := ((Below.refl _ _).alloc (Nat.le_refl _) _).alloc (by simp) _
  have hX1 := heap_alloc2_new w (.cells #[.slice A l.length c, .int .i64 (p : Int), .bool (!r)] 54) (.cells #[.slice none 0 0, .int .i64 0, .bool false] 54)
  have hv0 := hv.below hbw
  have hlt : w.heap.size + 1 < ((w.alloc (.cells #[.slice A l.length c, .int .i64 (p : Int), .bool (!r)] 54)).alloc (.cells #[.slice none 0 0, .int .i64 0, .bool false] 54)).heap.size := by simp
  have Hbw := hid hbw
  have HX1 := hid hX1
  have h0 : 0 ≤ most := by omega
  clear hrd hX1 hbw
  go_enter Tryd.func30, Tryd.ntmps30
  go_wp2_with fail
  generalize ((w.alloc (.cells #[.slice A l.length c, .int .i64 (p : Int), .bool (!r)] 54)).alloc (.cells #[.slice none 0 0, .int .i64 0, .bool false] 54)) = w0 at *
  have C := refReadNum_any A c p r l w0 hv0 hp hl
  rw [HRD.out] at C
  refine C.mono ?_
  clear C
  rintro e w1 ⟨rfl, hb1⟩
  unfold rv
  have G1 := (hb1.block _ (by omega)).trans HX1.out
  have hbw1 : Below w.heap.size w w1 := Hbw.out.trans (hb1.mono (by omega))
  have hs1 := hb1.size
  have i0 := cell_blk G1 0
  have i1 := cell_blk G1 1
  have i2 := cell_blk G1 2
  have g0 := free_blk G1 0
  have g1 := free_blk G1 1
  have g2 := free_blk G1 2
  simp at i0 i1 i2
  have hl1 : w.heap.size + 1 < w1.heap.size := by omega
  have hnn : ¬ most < 0 := by omega
  have hnb : ¬ most < (n : Int) := by omega
  clear G1 hb1 hv0 HX1 Hbw hv
  go_wp2_with fail
  refine bodyPost_ret (v := .tuple #[.agg #[.slice A l.length c, .int .i64 (p' : Int), .bool false], .int .i64 (n : Int)]) (by simp [results, Tryd.results30, go_sem, i0, i1, i2, hl1]) rfl ⟨rfl, ?_⟩
  go_grown
theorem refUpto_any (A : Option Addr) (c p : Nat) (r : Bool) (l : List UInt8) (most : Int) (w : World) (hv : Byt w (.slice A l.length c) l) (hp : p ≤ l.length) (hl : l.length ≤ 1099511627776)
    (hm0 : -9223372036854775808 ≤ most) (hm1 : most ≤ 9223372036854775807) :
    Calls Tryd.prog 30 #[.agg #[.slice A l.length c, .int .i64 (p : Int), .bool (!r)], .int .i64 most] w (RefUpto w A c l (rdUpto most l p r)) := by
  cases r with
  | false =>
    have e : rdUpto most l p false = (0, p, false) := by unfold rdUpto; split; rfl; exact rdNum_bad _ _ _
    rw [e]
    exact refUpto_bad A c p false l most w hv hp hl 0 p false (rdNum_bad _ _ _) hm0 hm1 (.inl rfl) (by omega)
  | true =>
    cases hf : frst (l.drop p) with
    | none =>
      have e : rdUpto most l p true = (0, p, false) := by unfold rdUpto; split; rfl; exact rdNum_no hf
      rw [e]
      exact refUpto_bad A c p true l most w hv hp hl 0 p false (rdNum_no hf) hm0 hm1 (.inl rfl) (by omega)
    | some n =>
      have hn := (frst_some hf).1
      have hrd : rdNum 18446744073709551615 l p true = (n, p + (dg n).length, true) := rdNum_yes hf (by omega)
      by_cases hneg : most < 0
      · have e : rdUpto most l p true = (0, p, false) := by unfold rdUpto; rw [if_pos hneg]
        rw [e]
        exact refUpto_bad A c p true l most w hv hp hl n _ true hrd hm0 hm1 (.inr (.inl ⟨rfl, hneg⟩)) hn
      · by_cases hle : n ≤ most.toNat
        · have e : rdUpto most l p true = (n, p + (dg n).length, true) := by unfold rdUpto; rw [if_neg hneg, rdNum_yes hf hle]
          rw [e]
          exact refUpto_yes A c p true l most w hv hp hl n _ hrd hm1 (by omega)
        · have e : rdUpto most l p true = (0, p, false) := by unfold rdUpto; rw [if_neg hneg, rdNum_big hf hle]
          rw [e]
          exact refUpto_bad A c p true l most w hv hp hl n _ true hrd hm0 hm1 (.inr (.inr ⟨rfl, by omega, by omega⟩)) hn
end Go.Proofs.YtifkkpfiejiojaaDoor
namespace Go.Proofs.YtifkkpfiejiojaaDoor
set_option maxRecDepth 20000
open Go.RowKit
theorem Own.set {B g : Nat} {w : World} {v : Value} {l : List UInt8} (h : Own B w v l) (hne : v.ownBlock ≠ some g) (i : Nat) (u : Value) : Own B (w.setCell ⟨g, i, none⟩ u) v l := ownsRow_setCell_other h hne u
end Go.Proofs.YtifkkpfiejiojaaDoor
namespace Go.Proofs.YtifkkpfiejiojaaDoor
set_option maxRecDepth 20000
open Go.RowKit
set_option maxHeartbeats 1600000 in
theorem hash_any (v : Value) (l h : List UInt8) (w : World) (hv : Byt w v l) (hs : l.length ≤ 1099511000000) (hh : h.length = 32) :
    Calls Tryd.prog 33 #[v, .agg (hcells h)] w fun e w' => ∃ x, e = .returned x ∧ Own w.heap.size w' x (l ++ h) ∧ Below w.heap.size w w' := by
  obtain ⟨i0, hi, hz0, hz1, hz2⟩ := info_parts info_u8
  obtain ⟨A, c, rfl⟩ := hv.shape
  have hb2 : i0.bytes * (l.length + 32) ≤ 281474976710656 := by rw [hz2]; omega
  have hb3 : l.length + 32 ≤ maxLen := by unfold maxLen; omega
  go_enter Tryd.func33, Tryd.ntmps33
  go_wp2_with (at_make; refine wpList_make_full _ rfl _ _ 27 rfl w.heap.size 5 i0 (.int .u8 0) 1 under_bytes hi hz0 hz1 _ _ _ _ (l.length + 32) rfl rfl (by simp) (by simp) hb2 hb3 (by simp) ?_)
  intro w1 hown1 hg1
  have hz : (madeCells #[Value.int IntKind.u8 0] (l.length + 32)).toList = bcells (List.replicate (l.length + 32) 0) := by
    rw [toList_madeCells_one]
    simp [bcells, bcell]
  have hown : Own (w.heap.size + 1) w1 (.slice (some ⟨w.heap.size + 1, 0, none⟩) (l.length + 32) (l.length + 32)) (List.replicate (l.length + 32) 0) := by
    unfold Own
    rw [List.length_replicate, ← hz]
    refine ⟨hown1.1, ?_⟩
    rcases hown1.2 with ⟨e, _⟩ | ⟨g, cap, cur, e, _, r⟩
    · injection e with e; cases e
    · refine .inr ⟨g, cap, cur, e, ?_, r⟩
      injection e with e
      injection e with e
      injection e with e
      omega
  obtain ⟨g, eg, _, hG⟩ := own_full hown (by omega)
  injection eg with eg
  injection eg with eg
  subst eg
  have hH : w1.heap[w.heap.size]? = some (.cells (hcells h) 23 (0, 0)) := (hg1.block _ (by simp) (by simp)).trans (heap_alloc_new w _)
  have hbw1 : Below w.heap.size w w1 := ((Below.refl _ _).alloc (Nat.le_refl _) _).grown hg1 (by simp) (fun k hk => by cases hk)
  have hv1 := hv.below hbw1
  have hmin := hid (show l.length = Nat.min l.length (l.length + 32) from (Nat.min_eq_left (by omega)).symm)
  clear hz hown hown1 hg1
  go_wp2_with (refine wpList_copy_byt rfl (.tmp 10) (.tmp 11) rfl rfl rfl hv1 hG hmin.out (fun _ => rfl) (by simp) ?_)
  intro w2 hg2 H2 hs2
  have hH2 : w2.heap[w.heap.size]? = some (.cells (hcells h) 23 (0, 0)) := (hg2.block _ (lt_of_block hH) (by simp)).trans hH
  have hbw2 : Below w.heap.size w w2 := hbw1.grown hg2 hbw1.size (fun k hk => by injection hk; omega)
  have hby : Byt w2 (.slice (some ⟨w.heap.size, 0, none⟩) 32 32) h := byt_of_blk hH2 hh.symm (by unfold maxLen; omega)
  have hmin2 := hid (show 32 = Nat.min h.length 32 by rw [hh]; rfl)
  have hne : ¬ (l.length + 32 = l.length) := by omega
  have q1 : (l.length : Int) ≤ (l.length : Int) + 32 := by omega
  clear hmin hv1 hG hH hg2
  go_wp2_with fail
  go_still_tail 5, (by kernel_rfl)
  change wpList _ _ _ _ _ w2.drew
  have H3 : Hid (w2.drew.heap[w.heap.size + 1]? = _) := H2
  have hby3 : Byt w2.drew _ _ := hby
  have hbw3 : Below w.heap.size w w2.drew := hbw2.drew
  have hs3 : w2.drew.heap.size = w1.heap.size := hs2
  generalize w2.drew = w3 at *
  go_wp2_with (refine wpList_copy_byt rfl (.tmp 16) (.tmp 17) rfl rfl rfl hby3 H3.out hmin2.out (fun _ => rfl) (by simp [splice]) ?_)
  intro w4 hg4 H4 hs4
  have hbw4 : Below w.heap.size w w4 := hbw3.grown hg4 hbw3.size (fun k hk => by injection hk; omega)
  go_wp2_with fail
  go_ret
  have hrow : splice (splice (List.replicate (l.length + 32) 0) 0 l) l.length (h.take 32) = l ++ h := by
    rw [List.take_of_length_le (by omega), splice_two _ l h (by simp; omega)]
  refine ⟨_, rfl, ?_, hbw4⟩
  have H5 := H4.out
  first
    | rw [hrow] at H5
    | (rw [show splice (splice (List.replicate (l.length + 32) 0) 0 l) l.length h = l ++ h from by rw [splice_two _ l h (by simp; omega)]] at H5)
  exact own_of_blk H5 (by omega) (by simp; omega) (by unfold maxLen; omega)
set_option maxHeartbeats 3200000 in
theorem rhash_any (g : Nat) (l : List UInt8) (p : Nat) (r : Bool) (w : World) (hr : Rdr w g l p r) (hl : l.length ≤ 1099511627776) :
    Calls Tryd.prog 24 #[.pointer (some ⟨g, 0, none⟩)] w fun e w' => e = .returned (.agg (hcells (rdHash l p r).1)) ∧ Rdr w' g l (rdHash l p r).2.1 (rdHash l p r).2.2 ∧ w.grownBy w' (some g) := by
  have hlt := hr.lt
  have hr0 : Rdr ((w.alloc (.cells (hcells nought) 23)).alloc (.cells (hcells nought) 23)) g l p r := hr.below (((Below.refl _ _).alloc (Nat.le_refl _) _).alloc (by simp) _)
  have hg0 : w.grownBy ((w.alloc (.cells (hcells nought) 23)).alloc (.cells (hcells nought) 23)) (some g) := (World.grownBy_alloc w _ _).trans (World.grownBy_alloc _ _ _)
  cases r with
  | false =>
    have e : rdHash l p false = (nought, p, false) := by simp [rdHash, nought]
    rw [e]
    go_enter Tryd.func24, Tryd.ntmps24
    go_wp2_with (refine wpList_alloc_hash rfl rfl ?_)
    refine (wrong_any g l p false _ hr0).mono ?_
    rintro e w' ⟨rfl, rfl⟩
    go_wp2_with (first
      | (refine wpList_load_hash rfl _ rfl rfl (heap_alloc2_new _ _ _) nought_length ?_)
      | (refine wpList_store_hash rfl _ _ rfl rfl rfl (heap_alloc2_old _ _ _) nought_length nought_length ?_; intro w2 hg2 H2 hs2))
    refine bodyPost_ret (results_cell_row rfl _ _ w.heap.size _ (hcells nought) (0, 0) _ rfl H2.out under_hash rfl (by rw [size_hash, hcells_size, nought_length])) rfl ⟨rfl, ?_, ?_⟩
    · exact hr.below ((((Below.refl _ _).alloc (Nat.le_refl _) _).alloc (by simp) _).grown hg2 (by simp; omega) (fun k hk => by injection hk; omega))
    · exact grown_of_below ((((Below.refl _ _).alloc (Nat.le_refl _) _).alloc (by simp) _).grown hg2 (by simp; omega) (fun k hk => by injection hk; omega)) _
  | true =>
    by_cases hfit : p + 32 ≤ l.length
    · have e : rdHash l p true = ((l.drop p).take 32, p + 32, true) := by simp [rdHash, hfit]
      rw [e]
      obtain ⟨A, c, h1, h2⟩ := hr0.ex
      have c0 := cell_blk h2 0
      have c1 := cell_blk h2 1
      simp at c0 c1
      have hlc := (Own.byt h1).at_.2.1
      have hcp : ¬ c = p := by omega
      have ht : ¬ ((l.length : Int) - (p : Int) < 32) := by omega
      have q1 : (p : Int) ≤ (l.length : Int) := by omega
      have hHn := heap_alloc2_new w (.cells (hcells nought) 23) (.cells (hcells nought) 23)
      have hRn := heap_alloc2_old w (.cells (hcells nought) 23) (.cells (hcells nought) 23)
      have hbw : Below w.heap.size w ((w.alloc (.cells (hcells nought) 23)).alloc (.cells (hcells nought) 23)) := ((Below.refl _ _).alloc (Nat.le_refl _) _).alloc (by simp) _
      go_enter Tryd.func24, Tryd.ntmps24
      go_wp2_with (refine wpList_alloc_hash rfl rfl ?_)
      generalize ((w.alloc (.cells (hcells nought) 23)).alloc (.cells (hcells nought) 23)) = w0 at *
      refine (wrong_any g l p true _ hr0).mono ?_
      rintro e w' ⟨rfl, rfl⟩
      go_wp2_with fail
      refine (left_any g l p true _ hr0 hl).mono ?_
      rintro e w' ⟨rfl, n, rfl⟩
      go_wp2_with fail
      have hcut : Byt (w0.drewN (n + 1)) (.slice (A.map (·.add p)) (l.length - p) (c - p)) (l.drop p) := by
        have := (Own.byt h1).cut hr0.le
        rw [if_neg hcp] at this
        exact this.drewN _
      have hdl : (l.drop p).length = l.length - p := List.length_drop
      obtain ⟨w6, hrun, hG6, hH6, hs6⟩ := run_copy_byt (w := (w0.drewN (n + 1))) (dp := some ⟨w.heap.size + 1, 0, none⟩) (dLen := 32) (dCap := 32) 3 hcut (cur := nought) hHn (k := 32) (by rw [hdl]; exact (Nat.min_eq_right (by omega)).symm) (by omega) rfl (by rw [nought_length]; omega)
      have hR5 : Rdr (w0.drewN (n + 1)) g l p true := hr0.drewN (n + 1)
      have hR6 : Rdr w6 g l p true := hR5.apart hG6 hHn (by decide) (by omega)
      obtain ⟨A6, c6, _, h26⟩ := hR6.ex
      have d1 := cell_blk h26 1
      have e1 := free_blk h26 1
      simp at d1
      have HdR := hid hRn
      have HdH := hid hH6
      have HL := hid hdl
      clear hRn hH6 hdl h1 h2 hcut hHn h26 hs6
      have hgr : w0.grownBy w6 (some (w.heap.size + 1)) := (grown_drewN (World.grownBy.refl _ _) (n + 1)).trans hG6
      have hlen0 := hr0.lt
      have hR7 := hR6.turn (p + 32) hfit
      rw [Int.natCast_add] at hR7
      have hlen32 : ((l.drop p).take 32).length = 32 := by rw [List.length_take, List.length_drop]; omega
      have hs6 : nought.drop ((l.drop p).take 32).length = [] := List.drop_eq_nil_of_le (by rw [hlen32, nought_length]; omega)
      have hs7 : splice nought 0 ((l.drop p).take 32) = (l.drop p).take 32 := by rw [splice_head, hs6, List.append_nil]
      clear hs6
      have hw7 : w6.heap[w.heap.size]? = some (.cells (hcells nought) 23 (0, 0)) := (hgr.block _ (lt_of_block HdR.out) (by simp)).trans HdR.out
      have H7 : Hid ((w6.setCell ⟨g, 1, none⟩ (.int .i64 ((p : Int) + 32))).heap[w.heap.size]? = some (.cells (hcells nought) 23 (0, 0))) := (heap_setCell_other _ _ _ _ (by simp; omega)).trans hw7
      have H8 : Hid ((w6.setCell ⟨g, 1, none⟩ (.int .i64 ((p : Int) + 32))).heap[w.heap.size + 1]? = some (.cells (hcells ((l.drop p).take 32)) 23 (0, 0))) := (heap_setCell_other _ _ _ _ (by simp; omega)).trans (by rw [← hs7]; exact HdH.out)
      have hG8 : w.grownBy (w6.setCell ⟨g, 1, none⟩ (.int .i64 ((p : Int) + 32))) (some g) := (grown_of_below (hbw.grown hgr hbw.size (fun k hk => by injection hk; omega)) _).trans (grown_set _ g 1 _)
      have hs8 := hG8.size
      clear hs7 hw7 HdR HdH hR6 hG6 hgr hR5 hr0 hbw hg0 hr
      go_region
      generalize w6.setCell ⟨g, 1, none⟩ (.int .i64 ((p : Int) + 32)) = w8 at *
      go_wp2_with (first
        | (refine wpList_load_hash rfl _ rfl rfl H8.out hlen32 ?_)
        | (refine wpList_store_hash rfl _ _ rfl rfl rfl H7.out nought_length hlen32 ?_; intro w9 hg9 H9 hs9))
      refine bodyPost_ret (results_cell_row rfl _ _ w.heap.size _ _ (0, 0) _ rfl H9.out under_hash rfl (by rw [size_hash, hcells_size, hlen32])) rfl ⟨rfl, ?_, ?_⟩
      · exact hR7.apart hg9 H7.out (by decide) (by omega)
      · exact ⟨hg9.os.trans hG8.os, hg9.tape.trans hG8.tape, hg9.output.trans hG8.output, Nat.le_trans hG8.size hg9.size, fun k hk hne => (hg9.block k (by omega) (fun e => by injection e; omega)).trans (hG8.block k hk hne)⟩
    · have e : rdHash l p true = (nought, p, false) := by simp [rdHash, hfit, nought]
      rw [e]
      have hp := hr.le
      have ht : (l.length : Int) - (p : Int) < 32 := by omega
      have hHn := heap_alloc2_new w (.cells (hcells nought) 23) (.cells (hcells nought) 23)
      have hRn := heap_alloc2_old w (.cells (hcells nought) 23) (.cells (hcells nought) 23)
      have hbw : Below w.heap.size w ((w.alloc (.cells (hcells nought) 23)).alloc (.cells (hcells nought) 23)) := ((Below.refl _ _).alloc (Nat.le_refl _) _).alloc (by simp) _
      go_enter Tryd.func24, Tryd.ntmps24
      go_wp2_with (refine wpList_alloc_hash rfl rfl ?_)
      generalize ((w.alloc (.cells (hcells nought) 23)).alloc (.cells (hcells nought) 23)) = w0 at *
      have HdR := hid hRn
      have HdH := hid hHn
      clear hRn hHn
      refine (wrong_any g l p true _ hr0).mono ?_
      rintro e w' ⟨rfl, rfl⟩
      go_wp2_with fail
      refine (left_any g l p true _ hr0 hl).mono ?_
      rintro e w' ⟨rfl, n, rfl⟩
      go_wp2_with fail
      refine (fail_any g l p true _ (hr0.drewN _)).mono ?_
      rintro e w' ⟨rfl, rfl⟩
      have hR7 := (hr0.drewN n).spoil
      have H7 : Hid (((w0.drewN n).setCell ⟨g, 2, none⟩ (.bool false)).heap[w.heap.size]? = some (.cells (hcells nought) 23 (0, 0))) := (heap_setCell_other _ _ _ _ (by simp; omega)).trans HdR.out
      have H8 : Hid (((w0.drewN n).setCell ⟨g, 2, none⟩ (.bool false)).heap[w.heap.size + 1]? = some (.cells (hcells nought) 23 (0, 0))) := (heap_setCell_other _ _ _ _ (by simp; omega)).trans HdH.out
      have hG8 : w.grownBy ((w0.drewN n).setCell ⟨g, 2, none⟩ (.bool false)) (some g) := (grown_of_below (below_drewN hbw n) _).trans (grown_set _ g 2 _)
      have hs8 := hG8.size
      clear hr0 hbw hg0 hr
      generalize (w0.drewN n).setCell ⟨g, 2, none⟩ (.bool false) = w8 at *
      go_wp2_with (first
        | (refine wpList_load_hash rfl _ rfl rfl H8.out nought_length ?_)
        | (refine wpList_store_hash rfl _ _ rfl rfl rfl H7.out nought_length nought_length ?_; intro w9 hg9 H9 hs9))
      refine bodyPost_ret (results_cell_row rfl _ _ w.heap.size _ _ (0, 0) _ rfl H9.out under_hash rfl (by rw [size_hash, hcells_size, nought_length])) rfl ⟨rfl, ?_, ?_⟩
      · exact hR7.apart hg9 H7.out (by decide) (by omega)
      · exact ⟨hg9.os.trans hG8.os, hg9.tape.trans hG8.tape, hg9.output.trans hG8.output, Nat.le_trans hG8.size hg9.size, fun k hk hne => (hg9.block k (by omega) (fun e => by injection e; omega)).trans (hG8.block k hk hne)⟩
end Go.Proofs.YtifkkpfiejiojaaDoor
namespace Go.Proofs.YtifkkpfiejiojaaDoor
set_option maxRecDepth 20000
open Go.RowKit
noncomputable def loadH (v : Value) (w : World) : Result Next := Sem.run Tryd.prog (execOp (fun _ => v) { dst := none, op := .load 23 (.tmp 0), type := 0, pos := "", after := #[], guard := none }) w
theorem exec_load_hash (r : Operand → Value) (x : Operand) (dst : Option Tmp) (ty : TypeId) (pos : String) (after : Array Edge) (guard : Option (Nat × Bool)) (w : World) :
    Sem.run Tryd.prog (execOp r { dst := dst, op := .load 23 x, type := ty, pos := pos, after := after, guard := guard }) w = loadH (r x) w := rfl
noncomputable def storeH (p v : Value) (w : World) : Result Next := Sem.run Tryd.prog (execOp (fun x => match x with
  | .tmp 0 => p
  | _ => v) { dst := none, op := .store 23 (.tmp 0) (.tmp 1), type := 0, pos := "", after := #[], guard := none }) w
theorem exec_store_hash (r : Operand → Value) (x y : Operand) (dst : Option Tmp) (ty : TypeId) (pos : String) (after : Array Edge) (guard : Option (Nat × Bool)) (w : World) :
    Sem.run Tryd.prog (execOp r { dst := dst, op := .store 23 x y, type := ty, pos := pos, after := after, guard := guard }) w = storeH (r x) (r y) w := rfl
def setH (w : World) (g : Nat) (h : List UInt8) : World := w.setRow g (hcells h)
theorem loadH_eq {w : World} {g : Nat} {t : TypeId} {h : List UInt8} (hg : w.heap[g]? = some (.cells (hcells h) t (0, 0))) (hl : h.length = 32) : loadH (.pointer (some ⟨g, 0, none⟩)) w = .ok (.value (.agg (hcells h))) w := by
  have := run_loadVar_row (P := Tryd.prog) w g t 23 (hcells h) (0, 0) _ hg under_hash rfl (by rw [size_hash, hcells_size, hl])
  unfold loadH execOp
  simp only [Instr.loadAt, Instr.sureAddr, Sem.run_bind, Sem.run_pure, Result.andThen_ok, this]
theorem storeH_eq {w : World} {g : Nat} {t : TypeId} {h h' : List UInt8} (hg : w.heap[g]? = some (.cells (hcells h) t (0, 0))) (hl : h.length = 32) (hl' : h'.length = 32) :
    storeH (.pointer (some ⟨g, 0, none⟩)) (.agg (hcells h')) w = .ok .skip (setH w g h') := by
  have := run_storeVar_row (P := Tryd.prog) w g t 23 (hcells h) (hcells h') hg (by rw [size_hash, hcells_size, hl']) (by rw [hcells_size, hcells_size, hl, hl']) (hcells_one _)
  unfold storeH execOp
  simp only [Instr.storeAt, Instr.sureAddr, Sem.run_bind, Sem.run_pure, Result.andThen_ok, this]
  rfl
theorem setH_other (w : World) {g k : Nat} (h : List UInt8) (hk : k ≠ g) : (setH w g h).heap[k]? = w.heap[k]? := setRow_other w g k _ hk
theorem setH_same {w : World} {g : Nat} {t : TypeId} {cs : Array Value} {h : List UInt8} (hg : w.heap[g]? = some (.cells cs t (0, 0))) : (setH w g h).heap[g]? = some (.cells (hcells h) t (0, 0)) := setRow_heap w g _ _ t _ hg
theorem setH_below {B g : Nat} {a w : World} {h : List UInt8} (hb : Below B a w) (hg : B ≤ g) : Below B a (setH w g h) := below_setRow hb hg _
theorem under_ref : Tryd.prog.underlying 54 = some (.struct (Tryd.prog.fieldsOf 54)) := by kernel_rfl
theorem size_ref : (Tryd.prog.info? 54).map (·.size) = some 3 := by kernel_rfl
theorem results_two {fn : Func} {p q : Tmp} (h : fn.results = #[.cell p 54, .cell q 23]) (tmps : Array Value) (w : World) (g1 g2 : Nat) (t1 t2 : TypeId) (a b c : Value) (hh : List UInt8)
    (hp : tmps.getD p undef = .pointer (some ⟨g1, 0, none⟩)) (hq : tmps.getD q undef = .pointer (some ⟨g2, 0, none⟩)) (h1 : w.heap[g1]? = some (.cells #[a, b, c] t1 (0, 0))) (h2 : w.heap[g2]? = some (.cells (hcells hh) t2 (0, 0))) (hl : hh.length = 32) :
    (results fn tmps).run Tryd.prog w = .ok (.tuple #[.agg #[a, b, c], .agg (hcells hh)]) w := by
  have hp' : tmps[p]?.getD undef = .pointer (some ⟨g1, 0, none⟩) := by simpa using hp
  have hq' : tmps[q]?.getD undef = .pointer (some ⟨g2, 0, none⟩) := by simpa using hq
  have r1 := run_loadVar_row (P := Tryd.prog) w g1 t1 54 #[a, b, c] (0, 0) _ h1 under_ref rfl (by rw [size_ref]; rfl)
  have r2 := run_loadVar_row (P := Tryd.prog) w g2 t2 23 (hcells hh) (0, 0) _ h2 under_hash rfl (by rw [size_hash, hcells_size, hl])
  simp [results, h, hp', hq', asAddr, r1, r2]
def RefHash (w : World) (A : Option Addr) (c : Nat) (l : List UInt8) (res : List UInt8 × Nat × Bool) (e : Ending) (w' : World) : Prop :=
  e = .returned (.tuple #[rv A l.length c res.2.1 (!res.2.2), .agg (hcells res.1)]) ∧ Below w.heap.size w w'
def Good (g2 g3 : Nat) (hh : List UInt8) (w : World) : Prop := w.heap[g2]? = some (.cells (hcells nought) 23 (0, 0)) ∧ w.heap[g3]? = some (.cells (hcells hh) 23 (0, 0))
theorem Good.drew {g2 g3 : Nat} {hh : List UInt8} {w : World} (h : Good g2 g3 hh w) : Good g2 g3 hh w.drew := h
theorem Good.set {g2 g3 g : Nat} {hh : List UInt8} {w : World} (h : Good g2 g3 hh w) (h2 : g2 ≠ g) (h3 : g3 ≠ g) (i : Nat) (u : Value) : Good g2 g3 hh (w.setCell ⟨g, i, none⟩ u) :=
  ⟨(heap_setCell_other _ _ _ _ h2).trans h.1, (heap_setCell_other _ _ _ _ h3).trans h.2⟩
theorem ne_some {a b : Nat} (h : a ≠ b) : some a ≠ some b := fun e => h (Option.some.inj e)
theorem four_size (w : World) (o1 o2 o3 o4 : Obj) : ((((w.alloc o1).alloc o2).alloc o3).alloc o4).heap.size = w.heap.size + 4 := by simp
theorem four_0 (w : World) (o1 o2 o3 o4 : Obj) : ((((w.alloc o1).alloc o2).alloc o3).alloc o4).heap[w.heap.size]? = some o1 := by
  rw [Below.heap_alloc _ _ _ (by simp; omega), Below.heap_alloc _ _ _ (by simp; omega), Below.heap_alloc _ _ _ (by simp)]
  exact heap_alloc_new w o1
theorem four_1 (w : World) (o1 o2 o3 o4 : Obj) : ((((w.alloc o1).alloc o2).alloc o3).alloc o4).heap[w.heap.size + 1]? = some o2 := by
  rw [Below.heap_alloc _ _ _ (by simp), Below.heap_alloc _ _ _ (by simp)]
  have := heap_alloc_new (w.alloc o1) o2
  simpa using this
theorem four_2 (w : World) (o1 o2 o3 o4 : Obj) : ((((w.alloc o1).alloc o2).alloc o3).alloc o4).heap[w.heap.size + 1 + 1]? = some o3 := by
  rw [Below.heap_alloc _ _ _ (by simp)]
  have := heap_alloc_new ((w.alloc o1).alloc o2) o3
  simpa using this
theorem four_below (w : World) (o1 o2 o3 o4 : Obj) : Below w.heap.size w ((((w.alloc o1).alloc o2).alloc o3).alloc o4) :=
  ((((Below.refl _ _).alloc (Nat.le_refl _) _).alloc (by simp) _).alloc (by simp; omega) _).alloc (by simp; omega) _
structure Begun (w w5 : World) (C0 : Array Value) : Prop where
  below : Below w.heap.size w w5
  b0 : w5.heap[w.heap.size]? = some (.cells C0 54 (0, 0))
  b1 : w5.heap[w.heap.size + 1]? = some (.cells #[.slice none 0 0, .int .i64 0, .bool false] 54 (0, 0))
  b2 : w5.heap[w.heap.size + 1 + 1]? = some (.cells (hcells nought) 23 (0, 0))
  b3 : w5.heap[w.heap.size + 1 + 1 + 1]? = some (.cells (hcells nought) 23 (0, 0))
theorem begun {w w5 : World} {C0 : Array Value}
    (hg5 : ((((w.alloc (.cells C0 54)).alloc (.cells #[.slice none 0 0, .int .i64 0, .bool false] 54)).alloc (.cells (hcells nought) 23)).alloc (.cells (hcells nought) 23)).grownBy w5 (some (((w.alloc (.cells C0 54)).alloc (.cells #[.slice none 0 0, .int .i64 0, .bool false] 54)).alloc (.cells (hcells nought) 23)).heap.size))
    (H5 : Hid (w5.heap[(((w.alloc (.cells C0 54)).alloc (.cells #[.slice none 0 0, .int .i64 0, .bool false] 54)).alloc (.cells (hcells nought) 23)).heap.size]? = some (.cells (hcells nought) 23 (0, 0)))) : Begun w w5 C0 := by
  have hs3 : (((w.alloc (.cells C0 54)).alloc (.cells #[.slice none 0 0, .int .i64 0, .bool false] 54)).alloc (.cells (hcells nought) 23)).heap.size = w.heap.size + 1 + 1 + 1 := by simp
  have h5 := H5.out
  rw [hs3] at hg5 h5
  have hs4 := four_size w (.cells C0 54) (.cells #[.slice none 0 0, .int .i64 0, .bool false] 54) (.cells (hcells nought) 23) (.cells (hcells nought) 23)
  refine ⟨(four_below _ _ _ _ _).grown hg5 (by rw [hs4]; omega) (fun q hq => by have := Option.some.inj hq; omega), ?_, ?_, ?_, h5⟩
  · exact (hg5.block _ (by rw [hs4]; omega) (ne_some (by omega))).trans (four_0 _ _ _ _ _)
  · exact (hg5.block _ (by rw [hs4]; omega) (ne_some (by omega))).trans (four_1 _ _ _ _ _)
  · exact (hg5.block _ (by rw [hs4]; omega) (ne_some (by omega))).trans (four_2 _ _ _ _ _)
theorem refHash_end {w w6 : World} {A : Option Addr} {c p : Nat} {wr : Bool} {l hh : List UInt8} {C1 : Array Value} {a : Act} (h1 : w6.heap[w.heap.size + 1]? = some (.cells C1 54 (0, 0))) (_hs : w.heap.size ≤ w6.heap.size)
    (hc : C1.size = 3) (h2 : w6.heap[w.heap.size + 1 + 1]? = some (.cells (hcells nought) 23 (0, 0))) (hl : hh.length = 32) (hb : Below w.heap.size w w6)
    (hp : a.tmps.getD 2 undef = .pointer (some ⟨w.heap.size + 1, 0, none⟩)) (hq : a.tmps.getD 3 undef = .pointer (some ⟨w.heap.size + 1 + 1, 0, none⟩)) (hd : a.defers = []) :
    bodyPost Tryd.prog Tryd.f31 (RefHash w A c l (hh, p, !wr)) .ret a
      (setH (((w6.setCell ⟨w.heap.size + 1, 0, none⟩ (.slice A l.length c)).setCell ⟨w.heap.size + 1, 1, none⟩ (.int .i64 (p : Int))).setCell ⟨w.heap.size + 1, 2, none⟩ (.bool wr)).drew (w.heap.size + 1 + 1) hh) := by
  have e1 : (setH (((w6.setCell ⟨w.heap.size + 1, 0, none⟩ (.slice A l.length c)).setCell ⟨w.heap.size + 1, 1, none⟩ (.int .i64 (p : Int))).setCell ⟨w.heap.size + 1, 2, none⟩ (.bool wr)).drew (w.heap.size + 1 + 1) hh).heap[w.heap.size + 1]? = some (.cells #[.slice A l.length c, .int .i64 (p : Int), .bool wr] 54 (0, 0)) := by
    rw [setH_other _ _ (by omega)]
    have := set_blk (set_blk (set_blk h1 0 (.slice A l.length c)) 1 (.int .i64 (p : Int))) 2 (.bool wr)
    have e : ((C1.setIfInBounds 0 (.slice A l.length c)).setIfInBounds 1 (.int .i64 (p : Int))).setIfInBounds 2 (.bool wr) = #[.slice A l.length c, .int .i64 (p : Int), .bool wr] := by
      match C1, hc with
      | ⟨[a, b, c]⟩, _ => rfl
    rw [e] at this
    exact this
  have h2' : (((w6.setCell ⟨w.heap.size + 1, 0, none⟩ (.slice A l.length c)).setCell ⟨w.heap.size + 1, 1, none⟩ (.int .i64 (p : Int))).setCell ⟨w.heap.size + 1, 2, none⟩ (.bool wr)).drew.heap[w.heap.size + 1 + 1]? = some (.cells (hcells nought) 23 (0, 0)) :=
    (heap_setCell_other _ _ _ _ (by simp)).trans ((heap_setCell_other _ _ _ _ (by simp)).trans ((heap_setCell_other _ _ _ _ (by simp)).trans h2))
  refine bodyPost_ret (results_two rfl _ _ _ _ _ _ _ _ _ hh hp hq e1 (setH_same h2') hl) hd ⟨by unfold rv; simp, ?_⟩
  exact setH_below (Below.drew (((hb.setCell (by simp) _).setCell (by simp) _).setCell (by simp) _)) (by omega)
attribute [local go_sem ↓] exec_load_hash exec_store_hash
set_option maxHeartbeats 3200000 in
theorem refHash_wrong (A : Option Addr) (c p : Nat) (l : List UInt8) (w : World) :
    Calls Tryd.prog 31 #[.agg #[.slice A l.length c, .int .i64 (p : Int), .bool true]] w (RefHash w A c l (nought, p, false)) := by
  go_enter Tryd.func31, Tryd.ntmps31
  go_wp2_with (first
    | (refine wpList_alloc_hash rfl rfl ?_)
    | (refine wpList_store_hash (h := nought) (h' := nought) rfl _ _ rfl rfl rfl (heap_alloc_new _ _) nought_length nought_length ?_; intro w5 hg5 H5 hs5; have BG := begun hg5 H5; clear hg5 H5 hs5; have j0 := cell_blk BG.b0 0; have j1 := cell_blk BG.b0 1; have j2 := cell_blk BG.b0 2; have fj2 := free_blk BG.b0 2; have i0 := cell_blk BG.b1 0; have i1 := cell_blk BG.b1 1; have i2 := cell_blk BG.b1 2; have g0 := free_blk BG.b1 0; have g1 := free_blk BG.b1 1; have g2 := free_blk BG.b1 2; simp at j0 j1 j2 i0 i1 i2))
  have hb6 : Below w.heap.size w (w5.setCell ⟨w.heap.size, 2, none⟩ (.bool true)) := BG.below.setCell (Nat.le_refl _) _
  have G6 : Good (w.heap.size + 1 + 1) (w.heap.size + 1 + 1 + 1) nought (w5.setCell ⟨w.heap.size, 2, none⟩ (.bool true)) := Good.set ⟨BG.b2, BG.b3⟩ (by omega) (by omega) _ _
  have B6 : (w5.setCell ⟨w.heap.size, 2, none⟩ (.bool true)).heap[w.heap.size + 1]? = _ := (heap_setCell_other _ _ _ _ (by simp)).trans BG.b1
  have A6 := set_blk BG.b0 2 (.bool true)
  generalize w5.setCell ⟨w.heap.size, 2, none⟩ (.bool true) = w6 at *
  clear j0 j1 j2 fj2 i0 i1 i2 g0 g1 g2
  have j0 := cell_blk A6 0
  have j1 := cell_blk A6 1
  have j2 := cell_blk A6 2
  have i0 := cell_blk B6 0
  have i1 := cell_blk B6 1
  have i2 := cell_blk B6 2
  have g0 := free_blk B6 0
  have g1 := free_blk B6 1
  have g2 := free_blk B6 2
  simp at j0 j1 j2 i0 i1 i2
  have HA6 := hid A6
  have HB6 := hid B6
  have HBG := hid BG
  have r1 : ∀ w' : World, Good (w.heap.size + 1 + 1) (w.heap.size + 1 + 1 + 1) nought w' → loadH (.pointer (some ⟨w.heap.size + 1 + 1 + 1, 0, none⟩)) w' = .ok (.value (.agg (hcells nought))) w' := fun w' h => loadH_eq h.2 nought_length
  have r2 : ∀ w' : World, Good (w.heap.size + 1 + 1) (w.heap.size + 1 + 1 + 1) nought w' → storeH (.pointer (some ⟨w.heap.size + 1 + 1, 0, none⟩)) (.agg (hcells nought)) w' = .ok .skip (setH w' (w.heap.size + 1 + 1) nought) := fun w' h => storeH_eq h.1 nought_length nought_length
  have r3 : ∀ (w' : World) (i : Nat) (u : Value), Good (w.heap.size + 1 + 1) (w.heap.size + 1 + 1 + 1) nought w' → Good (w.heap.size + 1 + 1) (w.heap.size + 1 + 1 + 1) nought (w'.setCell ⟨w.heap.size + 1, i, none⟩ u) := fun w' i u h => h.set (by omega) (by omega) i u
  have r4 : ∀ w' : World, Good (w.heap.size + 1 + 1) (w.heap.size + 1 + 1 + 1) nought w' → Good (w.heap.size + 1 + 1) (w.heap.size + 1 + 1 + 1) nought w'.drew := fun w' h => h
  have r5 : ∀ (w' : World) (j : Nat), (setH w' (w.heap.size + 1 + 1) nought).cell? ⟨w.heap.size + 1, j, none⟩ = w'.cell? ⟨w.heap.size + 1, j, none⟩ := fun w' j => World.cell?_of_block (setH_other w' nought (by simp))
  have r6 : ∀ (w' : World) (j : Nat), (setH w' (w.heap.size + 1 + 1) nought).frozen? ⟨w.heap.size + 1, j, none⟩ = w'.frozen? ⟨w.heap.size + 1, j, none⟩ := fun w' j => World.frozen?_of_block (setH_other w' nought (by simp))
  have W7 := r2 _ (r4 _ (r3 _ 2 (.bool true) (r3 _ 1 (.int .i64 (p : Int)) (r3 _ 0 (.slice A l.length c) G6))))
  have W6 := r2 _ (r4 _ G6)
  have L6 := r1 _ (r4 _ G6)
  have L7 := r1 _ (r4 _ (r3 _ 2 (.bool true) (r3 _ 1 (.int .i64 (p : Int)) (r3 _ 0 (.slice A l.length c) G6))))
  have r7 : ∀ (w' : World) (j : Nat), (setH w' (w.heap.size + 1 + 1) nought).cell? ⟨w.heap.size, j, none⟩ = w'.cell? ⟨w.heap.size, j, none⟩ := fun w' j => World.cell?_of_block (setH_other w' nought (by simp; omega))
  clear A6 B6 BG r1 r2 r3 r4
  go_region
  all_goals clear r5 r6 r7 W6 W7 L6 L7
  go_wp2_with fail
  exact refHash_end (wr := true) HB6.out hb6.size rfl G6.1 nought_length hb6 rfl rfl rfl
set_option maxHeartbeats 3200000 in
theorem refHash_short (A : Option Addr) (c p : Nat) (l : List UInt8) (w : World) (_hl : l.length ≤ 1099511627776) (hp : p ≤ l.length) (ht : (l.length : Int) - (p : Int) < 32) :
    Calls Tryd.prog 31 #[.agg #[.slice A l.length c, .int .i64 (p : Int), .bool false]] w (RefHash w A c l (nought, p, false)) := by
  go_enter Tryd.func31, Tryd.ntmps31
  go_wp2_with (first
    | (refine wpList_alloc_hash rfl rfl ?_)
    | (refine wpList_store_hash (h := nought) (h' := nought) rfl _ _ rfl rfl rfl (heap_alloc_new _ _) nought_length nought_length ?_; intro w5 hg5 H5 hs5; have BG := begun hg5 H5; clear hg5 H5 hs5; have j0 := cell_blk BG.b0 0; have j1 := cell_blk BG.b0 1; have j2 := cell_blk BG.b0 2; have fj2 := free_blk BG.b0 2; have i0 := cell_blk BG.b1 0; have i1 := cell_blk BG.b1 1; have i2 := cell_blk BG.b1 2; have g0 := free_blk BG.b1 0; have g1 := free_blk BG.b1 1; have g2 := free_blk BG.b1 2; simp at j0 j1 j2 i0 i1 i2))
  have hb6 : Below w.heap.size w (w5.setCell ⟨w.heap.size, 2, none⟩ (.bool true)) := BG.below.setCell (Nat.le_refl _) _
  have G6 : Good (w.heap.size + 1 + 1) (w.heap.size + 1 + 1 + 1) nought (w5.setCell ⟨w.heap.size, 2, none⟩ (.bool true)) := Good.set ⟨BG.b2, BG.b3⟩ (by omega) (by omega) _ _
  have B6 : (w5.setCell ⟨w.heap.size, 2, none⟩ (.bool true)).heap[w.heap.size + 1]? = _ := (heap_setCell_other _ _ _ _ (by simp)).trans BG.b1
  have A6 := set_blk BG.b0 2 (.bool true)
  generalize w5.setCell ⟨w.heap.size, 2, none⟩ (.bool true) = w6 at *
  clear j0 j1 j2 fj2 i0 i1 i2 g0 g1 g2
  have j0 := cell_blk A6 0
  have j1 := cell_blk A6 1
  have j2 := cell_blk A6 2
  have i0 := cell_blk B6 0
  have i1 := cell_blk B6 1
  have i2 := cell_blk B6 2
  have g0 := free_blk B6 0
  have g1 := free_blk B6 1
  have g2 := free_blk B6 2
  simp at j0 j1 j2 i0 i1 i2
  have HA6 := hid A6
  have HB6 := hid B6
  have HBG := hid BG
  have r1 : ∀ w' : World, Good (w.heap.size + 1 + 1) (w.heap.size + 1 + 1 + 1) nought w' → loadH (.pointer (some ⟨w.heap.size + 1 + 1 + 1, 0, none⟩)) w' = .ok (.value (.agg (hcells nought))) w' := fun w' h => loadH_eq h.2 nought_length
  have r2 : ∀ w' : World, Good (w.heap.size + 1 + 1) (w.heap.size + 1 + 1 + 1) nought w' → storeH (.pointer (some ⟨w.heap.size + 1 + 1, 0, none⟩)) (.agg (hcells nought)) w' = .ok .skip (setH w' (w.heap.size + 1 + 1) nought) := fun w' h => storeH_eq h.1 nought_length nought_length
  have r3 : ∀ (w' : World) (i : Nat) (u : Value), Good (w.heap.size + 1 + 1) (w.heap.size + 1 + 1 + 1) nought w' → Good (w.heap.size + 1 + 1) (w.heap.size + 1 + 1 + 1) nought (w'.setCell ⟨w.heap.size + 1, i, none⟩ u) := fun w' i u h => h.set (by omega) (by omega) i u
  have r4 : ∀ w' : World, Good (w.heap.size + 1 + 1) (w.heap.size + 1 + 1 + 1) nought w' → Good (w.heap.size + 1 + 1) (w.heap.size + 1 + 1 + 1) nought w'.drew := fun w' h => h
  have r5 : ∀ (w' : World) (j : Nat), (setH w' (w.heap.size + 1 + 1) nought).cell? ⟨w.heap.size + 1, j, none⟩ = w'.cell? ⟨w.heap.size + 1, j, none⟩ := fun w' j => World.cell?_of_block (setH_other w' nought (by simp))
  have r6 : ∀ (w' : World) (j : Nat), (setH w' (w.heap.size + 1 + 1) nought).frozen? ⟨w.heap.size + 1, j, none⟩ = w'.frozen? ⟨w.heap.size + 1, j, none⟩ := fun w' j => World.frozen?_of_block (setH_other w' nought (by simp))
  have W7 := r2 _ (r4 _ (r3 _ 2 (.bool true) (r3 _ 1 (.int .i64 (p : Int)) (r3 _ 0 (.slice A l.length c) G6))))
  have W6 := r2 _ (r4 _ G6)
  have L6 := r1 _ (r4 _ G6)
  have L7 := r1 _ (r4 _ (r3 _ 2 (.bool true) (r3 _ 1 (.int .i64 (p : Int)) (r3 _ 0 (.slice A l.length c) G6))))
  have r7 : ∀ (w' : World) (j : Nat), (setH w' (w.heap.size + 1 + 1) nought).cell? ⟨w.heap.size, j, none⟩ = w'.cell? ⟨w.heap.size, j, none⟩ := fun w' j => World.cell?_of_block (setH_other w' nought (by simp; omega))
  clear A6 B6 BG r1 r2 r3 r4
  go_region
  all_goals clear r5 r6 r7 W6 W7 L6 L7
  go_wp2_with fail
  exact refHash_end (wr := true) HB6.out hb6.size rfl G6.1 nought_length hb6 rfl rfl rfl
def partH (l : List UInt8) (p i : Nat) : List UInt8 := (l.drop p).take i ++ List.replicate (32 - i) 0
theorem partH_len {l : List UInt8} {p i : Nat} (hi : i ≤ 32) (hp : p + 32 ≤ l.length) : (partH l p i).length = 32 := by
  simp [partH]
  omega
theorem partH_set {l : List UInt8} {p i : Nat} (hi : i < 32) (hp : p + 32 ≤ l.length) : (hcells (partH l p i)).setIfInBounds i (bcell (l[p + i]'(by omega))) = hcells (partH l p (i + 1)) := by
  have hL : (bcells ((l.drop p).take i)).length = i := by rw [bcells_length, List.length_take, List.length_drop]; omega
  have e1 : partH l p i = (l.drop p).take i ++ (0 :: List.replicate (32 - (i + 1)) 0) := by
    unfold partH
    rw [show 32 - i = 32 - (i + 1) + 1 from by omega, List.replicate_succ]
  have e2 : partH l p (i + 1) = (l.drop p).take i ++ ((l[p + i]'(by omega)) :: List.replicate (32 - (i + 1)) 0) := by
    unfold partH
    have hid : i < (l.drop p).length := by rw [List.length_drop]; omega
    rw [List.take_succ_eq_append_getElem hid, List.getElem_drop, List.append_assoc]
    rfl
  rw [e1, e2]
  unfold hcells
  rw [List.setIfInBounds_toArray]
  congr 1
  rw [bcells_append, bcells_append, List.set_append, if_neg (by omega), hL, Nat.sub_self]
  rfl
set_option maxHeartbeats 3200000 in
theorem refHash_good (A : Option Addr) (c p : Nat) (l : List UInt8) (w : World) (hv : Byt w (.slice A l.length c) l) (hl : l.length ≤ 1099511627776) (hp : p + 32 ≤ l.length) :
    Calls Tryd.prog 31 #[.agg #[.slice A l.length c, .int .i64 (p : Int), .bool false]] w (RefHash w A c l ((l.drop p).take 32, p + 32, true)) := by
  obtain ⟨_, hlc, hcm, hr⟩ := hv.at_
  unfold maxLen at hcm
  obtain ⟨b, off, rfl, hblt, hcell⟩ := hr (by omega)
  have HC := hid hcell
  have ht : ¬ (l.length : Int) - (p : Int) < 32 := by omega
  clear hcell hr hv
  go_enter Tryd.func31, Tryd.ntmps31
  go_wp2_with (first
    | (refine wpList_alloc_hash rfl rfl ?_)
    | (refine wpList_store_hash (h := nought) (h' := nought) rfl _ _ rfl rfl rfl (heap_alloc_new _ _) nought_length nought_length ?_; intro w5 hg5 H5 hs5; have BG := begun hg5 H5; clear hg5 H5 hs5; have j0 := cell_blk BG.b0 0; have j1 := cell_blk BG.b0 1; have j2 := cell_blk BG.b0 2; simp at j0 j1 j2))
  have HBG := hid BG
  clear j0 j1 j2 BG
  go_loopw [5] (fun si wr => ∃ i : Nat, i ≤ 32 ∧ si = .int .i64 i ∧ Below w.heap.size w wr ∧ Hid (wr.heap[w.heap.size]? = some (.cells #[.slice (some ⟨b, off, none⟩) l.length c, .int .i64 (p : Int), .bool false] 54 (0, 0))) ∧ Hid (wr.heap[w.heap.size + 1]? = some (.cells #[.slice none 0 0, .int .i64 0, .bool false] 54 (0, 0))) ∧ Hid (wr.heap[w.heap.size + 1 + 1]? = some (.cells (hcells nought) 23 (0, 0))) ∧ Hid (wr.heap[w.heap.size + 1 + 1 + 1]? = some (.cells (hcells (partH l p i)) 23 (0, 0)))) (fun si _ => 32 - (intOf si).toNat)
  case atStart => exact ⟨0, by omega, rfl, HBG.out.below, hid HBG.out.b0, hid HBG.out.b1, hid HBG.out.b2, hid HBG.out.b3⟩
  case round =>
    obtain ⟨i, hi, rfl, hbw, Z0, Z1, Z2, Z3⟩ := hrel
    have j0 := cell_blk Z0.out 0
    have j1 := cell_blk Z0.out 1
    have j2 := cell_blk Z0.out 2
    simp at j0 j1 j2
    by_cases hlt : i < 32
    · have hil : p + i < l.length := by omega
      have hcl := (hbw.cell (p := ⟨b, off + (p + i), none⟩) hblt).trans (HC.out (p + i) hil)
      obtain ⟨x, hx0, hx1, HX⟩ : ∃ x : Int, 0 ≤ x ∧ x ≤ 255 ∧ Hid ((l[p + i].toNat : Int) = x) := ⟨_, (byte_lt l[p + i]).1, (byte_lt l[p + i]).2, hid rfl⟩
      unfold bcell at hcl
      rw [HX.out] at hcl
      have hph := partH_len (l := l) (p := p) (i := i) hi hp
      have k3 := cell_blk Z3.out i
      rw [hcells_get _ i (by omega)] at k3
      have f3 := free_blk Z3.out i
      have hi32 : (i : Int) < 32 := by omega
      have hpi : (p : Int) + (i : Int) < (l.length : Int) := by omega
      have Y3 := set_blk Z3.out i (.int .u8 x)
      have hset := partH_set (l := l) (p := p) hlt hp
      unfold bcell at hset
      rw [HX.out] at hset
      rw [hset] at Y3
      have Y0 := (heap_setCell_other wr ⟨w.heap.size + 1 + 1 + 1, i, none⟩ w.heap.size (.int .u8 x) (by first | (simp; done) | (simp; omega))).trans Z0.out
      have Y1 := (heap_setCell_other wr ⟨w.heap.size + 1 + 1 + 1, i, none⟩ (w.heap.size + 1) (.int .u8 x) (by first | (simp; done) | (simp; omega))).trans Z1.out
      have Y2 := (heap_setCell_other wr ⟨w.heap.size + 1 + 1 + 1, i, none⟩ (w.heap.size + 1 + 1) (.int .u8 x) (by first | (simp; done) | (simp; omega))).trans Z2.out
      have hbY : Below w.heap.size w (wr.setCell ⟨w.heap.size + 1 + 1 + 1, i, none⟩ (.int .u8 x)) := hbw.setCell (by simp; omega) _
      have X0 := hid Y0
      have X1 := hid Y1
      have X2 := hid Y2
      have X3 := hid Y3
      clear hset Y0 Y1 Y2 Y3
      go_wp2_with fail
      go_roundw
      case rel => exact ⟨i + 1, by omega, by go_num, hbY, X0, X1, X2, X3⟩
      case measure => simp [intOf]; omega
    · obtain rfl : i = 32 := by omega
      have f1 := free_blk Z0.out 1
      have hpart : partH l p 32 = (l.drop p).take 32 := by simp [partH]
      have hlen32 : ((l.drop p).take 32).length = 32 := by rw [List.length_take, List.length_drop]; omega
      have hq : IntKind.i64.wrap ((p : Int) + 32) = (p : Int) + 32 := IntWalk.i64_in _ (by omega)
      have hb6 : Below w.heap.size w (wr.setCell ⟨w.heap.size, 1, none⟩ (.int .i64 ((p : Int) + 32))) := hbw.setCell (Nat.le_refl _) _
      have Z3' := Z3.out
      rw [hpart] at Z3'
      have G6 : Good (w.heap.size + 1 + 1) (w.heap.size + 1 + 1 + 1) ((l.drop p).take 32) (wr.setCell ⟨w.heap.size, 1, none⟩ (.int .i64 ((p : Int) + 32))) := Good.set ⟨Z2.out, Z3'⟩ (by omega) (by omega) _ _
      have B6 : (wr.setCell ⟨w.heap.size, 1, none⟩ (.int .i64 ((p : Int) + 32))).heap[w.heap.size + 1]? = _ := (heap_setCell_other _ _ _ _ (by simp)).trans Z1.out
      have A6 := set_blk Z0.out 1 (.int .i64 ((p : Int) + 32))
      obtain ⟨HH, HHE⟩ : ∃ HH : List UInt8, Hid ((l.drop p).take 32 = HH) := ⟨_, hid rfl⟩
      rw [HHE.out] at G6 hlen32
      have HB6 := hid B6
      have HA6 := hid A6
      clear Z3' B6 A6
      go_wp2_with fail
      generalize wr.setCell ⟨w.heap.size, 1, none⟩ (.int .i64 ((p : Int) + 32)) = w6 at *
      clear j0 j1 j2 f1
      have j0 := cell_blk HA6.out 0
      have j1 := cell_blk HA6.out 1
      have j2 := cell_blk HA6.out 2
      have i0 := cell_blk HB6.out 0
      have i1 := cell_blk HB6.out 1
      have i2 := cell_blk HB6.out 2
      have g0 := free_blk HB6.out 0
      have g1 := free_blk HB6.out 1
      have g2 := free_blk HB6.out 2
      simp at j0 j1 j2 i0 i1 i2
      have r1 : ∀ w' : World, Good (w.heap.size + 1 + 1) (w.heap.size + 1 + 1 + 1) HH w' → loadH (.pointer (some ⟨w.heap.size + 1 + 1 + 1, 0, none⟩)) w' = .ok (.value (.agg (hcells HH))) w' := fun w' h => loadH_eq h.2 hlen32
      have r2 : ∀ w' : World, Good (w.heap.size + 1 + 1) (w.heap.size + 1 + 1 + 1) HH w' → storeH (.pointer (some ⟨w.heap.size + 1 + 1, 0, none⟩)) (.agg (hcells HH)) w' = .ok .skip (setH w' (w.heap.size + 1 + 1) HH) := fun w' h => storeH_eq h.1 nought_length hlen32
      have r3 : ∀ (w' : World) (i : Nat) (u : Value), Good (w.heap.size + 1 + 1) (w.heap.size + 1 + 1 + 1) HH w' → Good (w.heap.size + 1 + 1) (w.heap.size + 1 + 1 + 1) HH (w'.setCell ⟨w.heap.size + 1, i, none⟩ u) := fun w' i u h => h.set (by omega) (by omega) i u
      have r4 : ∀ w' : World, Good (w.heap.size + 1 + 1) (w.heap.size + 1 + 1 + 1) HH w' → Good (w.heap.size + 1 + 1) (w.heap.size + 1 + 1 + 1) HH w'.drew := fun w' h => h
      have r5 : ∀ (w' : World) (j : Nat), (setH w' (w.heap.size + 1 + 1) HH).cell? ⟨w.heap.size + 1, j, none⟩ = w'.cell? ⟨w.heap.size + 1, j, none⟩ := fun w' j => World.cell?_of_block (setH_other w' HH (by simp))
      have r6 : ∀ (w' : World) (j : Nat), (setH w' (w.heap.size + 1 + 1) HH).frozen? ⟨w.heap.size + 1, j, none⟩ = w'.frozen? ⟨w.heap.size + 1, j, none⟩ := fun w' j => World.frozen?_of_block (setH_other w' HH (by simp))
      have r7 : ∀ (w' : World) (j : Nat), (setH w' (w.heap.size + 1 + 1) HH).cell? ⟨w.heap.size, j, none⟩ = w'.cell? ⟨w.heap.size, j, none⟩ := fun w' j => World.cell?_of_block (setH_other w' HH (by simp; omega))
      have W7 := r2 _ (r4 _ (r3 _ 2 (.bool false) (r3 _ 1 (.int .i64 ((p : Int) + 32)) (r3 _ 0 (.slice (some ⟨b, off, none⟩) l.length c) G6))))
      have W6 := r2 _ (r4 _ G6)
      have L6 := r1 _ (r4 _ G6)
      have L7 := r1 _ (r4 _ (r3 _ 2 (.bool false) (r3 _ 1 (.int .i64 ((p : Int) + 32)) (r3 _ 0 (.slice (some ⟨b, off, none⟩) l.length c) G6))))
      clear r1 r2 r3 r4
      go_region
      clear r5 r6 r7 W6 W7 L6 L7
      go_wp2_with fail
      rw [HHE.out]
      have e32 : (p : Int) + 32 = ((p + 32 : Nat) : Int) := by omega
      rw [e32]
      exact refHash_end (wr := false) HB6.out hb6.size rfl G6.1 hlen32 hb6 rfl rfl rfl
theorem refHash_any (A : Option Addr) (c p : Nat) (r : Bool) (l : List UInt8) (w : World) (hv : Byt w (.slice A l.length c) l) (hp : p ≤ l.length) (hl : l.length ≤ 1099511627776) :
    Calls Tryd.prog 31 #[.agg #[.slice A l.length c, .int .i64 (p : Int), .bool (!r)]] w (RefHash w A c l (rdHash l p r)) := by
  cases r with
  | false =>
    have e : rdHash l p false = (nought, p, false) := by simp [rdHash, nought]
    rw [e]
    exact refHash_wrong A c p l w
  | true =>
    by_cases hfit : p + 32 ≤ l.length
    · have e : rdHash l p true = ((l.drop p).take 32, p + 32, true) := by simp [rdHash, hfit]
      rw [e]
      exact refHash_good A c p l w hv hl hfit
    · have e : rdHash l p true = (nought, p, false) := by simp [rdHash, hfit, nought]
      rw [e]
      exact refHash_short A c p l w hl hp (by omega)
end Go.Proofs.YtifkkpfiejiojaaDoor
namespace Go.Proofs.YtifkkpfiejiojaaDoor
set_option maxRecDepth 20000
open Go.RowKit
theorem take_off {P : Program} {md : Region.Mode} {l : List Oper} {Q : Exit → Act → World → Prop} {S : World → Prop} {i : Nat} {oi : Oper} {fuel : Nat} {listed : Array Bool} {a : Act} {w : World} (hi : l[i]? = some oi)
    (hs : Region.noSelect l.toArray = true) (hf : Region.free md l.toArray listed i = true) (hr : (Region.ready md l.toArray listed).contains i = true) (hQ : ∀ c a w, Q (.panic c) (a.put oi.dst undef) w → Q (.panic c) a w)
    (hw : Region.wanted oi (yielded l.toArray a.tmps) = false) (hS : S w) (h : wpAnyH P md l.toArray Q S fuel (listed.setIfInBounds i true) (a.put oi.dst undef) w) : wpAnyH P md l.toArray Q S (fuel + 1) listed a w :=
  wpAnyH_take (by simpa using hi) hs hf hr hQ (Or.inr ⟨hw, rfl⟩) hS h
theorem take_on {P : Program} {md : Region.Mode} {l : List Oper} {Q : Exit → Act → World → Prop} {S : World → Prop} {i : Nat} {oi : Oper} {v : Value} {fuel : Nat} {listed : Array Bool} {a : Act} {w : World} (hi : l[i]? = some oi)
    (hs : Region.noSelect l.toArray = true) (hf : Region.free md l.toArray listed i = true) (hr : (Region.ready md l.toArray listed).contains i = true) (hQ : ∀ c a w, Q (.panic c) (a.put oi.dst v) w → Q (.panic c) a w)
    (hw : Region.wanted oi (yielded l.toArray a.tmps) = true) (hv : ∀ w, S w → (execOp a.eval oi).run P w = .ok (.value v) w) (hS : S w) (h : wpAnyH P md l.toArray Q S fuel (listed.setIfInBounds i true) (a.put oi.dst v) w) : wpAnyH P md l.toArray Q S (fuel + 1) listed a w :=
  wpAnyH_take (by simpa using hi) hs hf hr hQ (Or.inl ⟨hw, hv⟩) hS h
theorem call_on {P : Program} {md : Region.Mode} {l : List Oper} {Q : Exit → Act → World → Prop} {S : World → Prop} {i : Nat} {oi : Oper} {fuel : Nat} {listed : Array Bool} {a : Act} {w : World} (hi : l[i]? = some oi)
    (hr : Region.ready md l.toArray listed = [i]) (hw : Region.wanted oi (yielded l.toArray a.tmps) = true)
    (h : ∀ K' : Act → World → Prop, Shut (∀ a w, S w → (S w → wpAnyH P md l.toArray Q S fuel (listed.setIfInBounds i true) a w) → K' a w) → Oper.wp P oi a w K' Q) : wpAnyH P md l.toArray Q S (fuel + 1) listed a w :=
  wpAnyH_ready hr (by simp) (AllReadyH.cons (by simpa using hi) (fun K hK => by rw [if_pos hw]; exact h K hK) AllReadyH.nil)
theorem tk {P : Program} {md : Region.Mode} {l : List Oper} {Q : Exit → Act → World → Prop} {S : World → Prop} {i : Nat} {oi : Oper} {v : Value} {fuel : Nat} {listed : Array Bool} {a : Act} {w : World} (hi : l[i]? = some oi)
    (hv : ∀ w, S w → (execOp a.eval oi).run P w = .ok (.value v) w) (h : wpAnyH P md l.toArray Q S fuel (listed.setIfInBounds i true) (a.put oi.dst v) w) (hS : S w := by assumption)
    (hs : Region.noSelect l.toArray = true := by kernel_rfl) (hf : Region.free md l.toArray listed i = true := by kernel_rfl) (hr : (Region.ready md l.toArray listed).contains i = true := by kernel_rfl) (hQ : ∀ c a w, Q (.panic c) (a.put oi.dst v) w → Q (.panic c) a w := by exact fun _ _ _ h => h)
    (hw : Region.wanted oi (yielded l.toArray a.tmps) = true := by rfl) : wpAnyH P md l.toArray Q S (fuel + 1) listed a w := take_on hi hs hf hr hQ hw hv hS h
theorem tf {P : Program} {md : Region.Mode} {l : List Oper} {Q : Exit → Act → World → Prop} {S : World → Prop} {i : Nat} {oi : Oper} {fuel : Nat} {listed : Array Bool} {a : Act} {w : World} (hi : l[i]? = some oi)
    (h : wpAnyH P md l.toArray Q S fuel (listed.setIfInBounds i true) (a.put oi.dst undef) w) (hS : S w := by assumption)
    (hs : Region.noSelect l.toArray = true := by kernel_rfl) (hf : Region.free md l.toArray listed i = true := by kernel_rfl) (hr : (Region.ready md l.toArray listed).contains i = true := by kernel_rfl) (hQ : ∀ c a w, Q (.panic c) (a.put oi.dst undef) w → Q (.panic c) a w := by exact fun _ _ _ h => h)
    (hw : Region.wanted oi (yielded l.toArray a.tmps) = false := by rfl) : wpAnyH P md l.toArray Q S (fuel + 1) listed a w := take_off hi hs hf hr hQ hw hS h
theorem lay : (∀ (a : Act) (v : Value), a.put none v = a) ∧ (∀ (a : Act) (t : Tmp) (v : Value), a.put (some t) v = { a with tmps := a.tmps.setIfInBounds t v }) ∧ (∀ (l : List Value) (i : Nat) (v : Value), l.toArray.setIfInBounds i v = (l.set i v).toArray) ∧ (∀ (l : List Bool) (i : Nat) (v : Bool), l.toArray.setIfInBounds i v = (l.set i v).toArray)
    ∧ (∀ (a b : Value) (l : List Value), (a :: l).set 0 b = b :: l) ∧ (∀ (a b : Bool) (l : List Bool), (a :: l).set 0 b = b :: l) ∧ (∀ (a b : Value) (l : List Value) (i : Nat), (a :: l).set (i + 1) b = a :: l.set i b) ∧ (∀ (a b : Bool) (l : List Bool) (i : Nat), (a :: l).set (i + 1) b = a :: l.set i b) :=
  ⟨fun _ _ => rfl, fun _ _ _ => rfl, fun _ _ _ => List.setIfInBounds_toArray .., fun _ _ _ => List.setIfInBounds_toArray .., fun _ _ _ => rfl, fun _ _ _ => rfl, fun _ _ _ _ => rfl, fun _ _ _ _ => rfl⟩
end Go.Proofs.YtifkkpfiejiojaaDoor
namespace Go.Proofs.YtifkkpfiejiojaaDoor
set_option maxRecDepth 20000
open Go.ChangeShapes Go.WideShapes Go.ChangeAt Go.RowKit
theorem ownKnob_none : ownKnob Tryd.prog.godebug = none := by kernel_rfl
theorem laidOut : laidOutB Tryd.prog = true := by kernel_rfl
def IsRow (k : IntKind) (w : World) (a : Option Addr) (len cap : Nat) (zs : List Int) : Prop :=
  (a = none ∧ len = 0 ∧ cap = 0 ∧ zs = []) ∨
  ∃ x, a = some x ∧ len ≤ cap ∧ cap ≤ maxLen ∧ zs.length = cap ∧ (∀ i, i < zs.length → w.cell? (x.add i) = some (.int k (zs.getD i 0))) ∧ ∀ n ∈ zs, (Lit.int k n).wf = true
theorem row_byt {w : World} {a : Option Addr} {len cap : Nat} {zs : List Int} (h : IsRow .u8 w a len cap zs) : ∃ l : List UInt8, l.length = len ∧ Byt w (.slice a len cap) l := by
  rcases h with ⟨rfl, rfl, rfl, rfl⟩ | ⟨x, rfl, hl, hm, hz, hcell, hwz⟩
  · exact ⟨[], rfl, Byt.nil w⟩
  · have hlen : ((zs.take len).map fun n => UInt8.ofNat n.toNat).length = len := by simp; omega
    refine ⟨(zs.take len).map fun n => UInt8.ofNat n.toNat, hlen, some x, cap, by rw [hlen], by omega, hm, fun h0 => ?_⟩
    rw [hlen] at h0
    obtain ⟨b, off, spot⟩ := x
    have hc := hcell 0 (by omega)
    have hspot : spot = none := by simpa [Addr.add] using World.cell?_spot hc
    subst hspot
    refine ⟨b, off, rfl, ?_, fun j hj => ?_⟩
    · have := World.block_lt_of_cell? w _ hc
      rw [addr_add] at this
      exact this
    · rw [hlen] at hj
      have hjz : j < zs.length := by omega
      have := hcell j hjz
      rw [addr_add] at this
      rw [this]
      have hw := hwz zs[j] (List.getElem_mem hjz)
      have hr : 0 ≤ zs[j] ∧ zs[j] ≤ 255 := by simpa [Lit.wf, IntKind.min, IntKind.max, IntKind.signed, IntKind.bits] using hw
      have e : zs.getD j 0 = zs[j] := by simp [hjz]
      rw [e]
      unfold bcell
      congr 2
      simp only [List.getElem_map, List.getElem_take]
      rw [UInt8.toNat_ofNat']
      omega
end Go.Proofs.YtifkkpfiejiojaaDoor
namespace Go.Proofs.YtifkkpfiejiojaaDoor
set_option maxRecDepth 20000
open Go.ChangeShapes Go.WideShapes Go.ChangeAt Go.RowKit Go.Deep
section
variable {H : Type} {enc : TypeId × Value → H} {w : World} {base : Nat} {spare : Nat → Bool} {held : Bool} {fuel : Nat} {cs : List Value} {x : DataW H × List MemPlace}
theorem trod_byte (h : DataW.trod enc Tryd.prog w base spare held fuel 5 cs = some x) : ∃ c : UInt8, cs = [bcell c] := by
  obtain ⟨n, rfl, _, hw⟩ := DataW.trod_int Tryd.underlying5 h
  have hr : 0 ≤ n ∧ n ≤ 255 := by simpa [Lit.wf, IntKind.min, IntKind.max, IntKind.signed, IntKind.bits] using hw
  refine ⟨UInt8.ofNat n.toNat, ?_⟩
  unfold bcell
  rw [UInt8.toNat_ofNat']
  congr 2
  omega
theorem trod_hash (h : DataW.trod enc Tryd.prog w base spare held fuel 23 cs = some x) : ∃ l : List UInt8, l.length = 32 ∧ cs = bcells l := by
  have hc : Tryd.prog.cellsOf 5 = 1 := by kernel_rfl
  have hc2 : Tryd.prog.cellsOf 23 = 32 := by kernel_rfl
  obtain ⟨xs, m, _, _, hlen, hxl, hi⟩ := DataW.trod_array under_hash h
  rw [hc2] at hlen
  rw [hc] at hi
  have hb : ∀ i, i < 32 → ∃ c : UInt8, cs[i]? = some (bcell c) := by
    intro i hi32
    have h1 := hi i hi32
    rw [List.getElem?_eq_getElem (by omega)] at h1
    obtain ⟨c, hcs⟩ := trod_byte h1
    refine ⟨c, ?_⟩
    have h2 := congrArg (fun l => l[0]?) hcs
    simpa [List.getElem?_take, List.getElem?_drop] using h2
  refine ⟨cs.map fun v => match v with | .int _ n => UInt8.ofNat n.toNat | _ => 0, by simpa using hlen, ?_⟩
  apply List.ext_getElem?
  intro i
  by_cases h32 : i < 32
  · obtain ⟨c, hci⟩ := hb i h32
    have hlt : i < cs.length := by omega
    rw [hci]
    rw [List.getElem?_eq_getElem hlt] at hci
    injection hci with hci
    simp only [bcells, List.map_map, List.getElem?_map, List.getElem?_eq_getElem hlt, Option.map_some, hci, Function.comp]
    simp [bcell]
  · rw [List.getElem?_eq_none (by omega), List.getElem?_eq_none (by simp [bcells]; omega)]
end
end Go.Proofs.YtifkkpfiejiojaaDoor
