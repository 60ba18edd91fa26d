/-
  The document's answer for which hash digits are: tithingref02.Unhex.
-/
import Derived.Test.YtoeemiknbogdpaaDoorRefHexs
namespace Go.Proofs.YtoeemiknbogdpaaDoor
open Go.RowKit

/-- What a byte is taken for, digit or not. -/
def cvi (y : Int) : Int := (if 97 ≤ y then y - 87 else (y - 48) % 256) % 16
def cv (y : Int) : Nat := (cvi y).toNat
theorem cvi_lt (y : Int) : 0 ≤ cvi y ∧ cvi y ≤ 15 := by
  unfold cvi
  split <;> omega
/-- What has been made behind n bytes. -/
def acc (l : List UInt8) : Nat → Nat → UInt8
  | 0, _ => 0
  | n + 1, j => if j = n / 2 then UInt8.ofNat ((acc l n j).toNat * 16 + cv (yv l n)) else acc l n j
theorem acc_succ (l : List UInt8) (n j : Nat) : acc l (n + 1) j = if j = n / 2 then UInt8.ofNat ((acc l n j).toNat * 16 + cv (yv l n)) else acc l n j := rfl
theorem cv_dv {y : Int} (h : dk y = true) : (cv y : Int) = dv y := by
  unfold dk at h
  rw [Bool.or_eq_true, decide_eq_true_iff, decide_eq_true_iff] at h
  have := cvi_lt y
  unfold cv
  rw [Int.toNat_of_nonneg this.1]
  unfold cvi dv
  rcases h with h | h
  · rw [if_neg (by omega), if_pos h]
    omega
  · rw [if_pos h.1, if_neg (by omega), if_pos h]
    omega
theorem acc_low (l : List UInt8) : ∀ n j, n ≤ 2 * j → acc l n j = 0
  | 0, _, _ => rfl
  | n + 1, j, h => by
    unfold acc
    rw [if_neg (by omega)]
    exact acc_low l n j (by omega)
theorem acc_mid (l : List UInt8) (j : Nat) : acc l (2 * j + 1) j = UInt8.ofNat (cv (yv l (2 * j))) := by
  unfold acc
  rw [if_pos (by omega), acc_low l (2 * j) j (by omega)]
  simp
theorem acc_high (l : List UInt8) (j : Nat) : ∀ n, 2 * j + 2 ≤ n → acc l n j = UInt8.ofNat ((UInt8.ofNat (cv (yv l (2 * j)))).toNat * 16 + cv (yv l (2 * j + 1)))
  | 0, h => by omega
  | n + 1, h => by
    unfold acc
    by_cases e : n = 2 * j + 1
    · rw [if_pos (by omega), e, acc_mid]
    · rw [if_neg (by omega)]
      exact acc_high l j n (by omega)
theorem cv_le (y : Int) : cv y ≤ 15 := by
  have := cvi_lt y
  unfold cv
  omega
theorem acc_val {l : List UInt8} {n j : Nat} (h : 2 * j + 2 ≤ n) (h0 : dk (yv l (2 * j)) = true) (h1 : dk (yv l (2 * j + 1)) = true) : acc l n j = val2 l j := by
  have e0 := cv_dv h0
  have e1 := cv_dv h1
  have l0 := cv_le (yv l (2 * j))
  rw [acc_high l j n h, UInt8.toNat_ofNat', Nat.mod_eq_of_lt (by omega)]
  unfold val2
  congr 2
  · omega
  · omega
theorem okB_spec {l : List UInt8} (h : okB l = true) : l.length = 64 ∧ ∀ j, j < 64 → dk (yv l j) = true := by
  unfold okB at h
  rw [Bool.and_eq_true, decide_eq_true_iff] at h
  refine ⟨h.1, fun j hj => ?_⟩
  have hj2 : j < l.length := by omega
  have := List.all_eq_true.1 h.2 l[j] (List.getElem_mem hj2)
  unfold yv
  rw [List.getD_eq_getElem?_getD, List.getElem?_eq_getElem hj2]
  exact this
theorem dgt_dv {y : Int} {c : UInt8} (hc : (c.toNat : Int) = y) (h : dk y = true) : dgt (dv y).toNat = c := by
  unfold dk at h
  rw [Bool.or_eq_true, decide_eq_true_iff, decide_eq_true_iff] at h
  apply UInt8.toNat_inj.1
  unfold dgt dv
  rcases h with h | h
  · rw [if_pos h, if_pos (by omega), UInt8.toNat_ofNat']
    omega
  · rw [if_neg (by omega), if_pos h, if_neg (by omega), UInt8.toNat_ofNat']
    omega
theorem hex_back {l : List UInt8} (hl : l.length = 64) (h : ∀ j, j < 64 → dk (yv l j) = true) : ∀ n, n ≤ 32 → hexS (val2 l) n = l.take (2 * n)
  | 0, _ => by simp [hexS]
  | n + 1, hn => by
    have h0 := h (2 * n) (by omega)
    have h1 := h (2 * n + 1) (by omega)
    have b0 := dv_lt (yv l (2 * n))
    have b1 := dv_lt (yv l (2 * n + 1))
    have hv : (val2 l n).toNat = (dv (yv l (2 * n))).toNat * 16 + (dv (yv l (2 * n + 1))).toNat := by
      unfold val2
      rw [UInt8.toNat_ofNat']
      omega
    have g0 : 2 * n < l.length := by omega
    have g1 : 2 * n + 1 < l.length := by omega
    have y0 : (l[2 * n].toNat : Int) = yv l (2 * n) := by
      unfold yv
      rw [List.getD_eq_getElem?_getD, List.getElem?_eq_getElem g0]
      rfl
    have y1 : (l[2 * n + 1].toNat : Int) = yv l (2 * n + 1) := by
      unfold yv
      rw [List.getD_eq_getElem?_getD, List.getElem?_eq_getElem g1]
      rfl
    unfold hexS
    rw [hex_back hl h n (by omega), hv, show ((dv (yv l (2 * n))).toNat * 16 + (dv (yv l (2 * n + 1))).toNat) / 16 = (dv (yv l (2 * n))).toNat from by omega, show ((dv (yv l (2 * n))).toNat * 16 + (dv (yv l (2 * n + 1))).toNat) % 16 = (dv (yv l (2 * n + 1))).toNat from by omega,
      dgt_dv y0 h0, dgt_dv y1 h1, show 2 * (n + 1) = 2 * n + 1 + 1 from by omega, List.take_succ_eq_append_getElem g1, List.take_succ_eq_append_getElem g0, List.append_assoc]
    rfl
theorem dk_dgt (m : Nat) (h : m < 16) : dk ((dgt m).toNat : Int) = true := by
  have h2 : ∀ m : Fin 16, dk ((dgt m.val).toNat : Int) = true := by decide +kernel
  exact h2 ⟨m, h⟩
theorem hex_digits (h : Nat → UInt8) : ∀ n, ∀ c ∈ hexS h n, dk (c.toNat : Int) = true
  | 0, c, hc => by simp [hexS] at hc
  | n + 1, c, hc => by
    unfold hexS at hc
    rw [List.mem_append] at hc
    have := (byte_lt (h n)).2
    rcases hc with hc | hc
    · exact hex_digits h n c hc
    · simp at hc
      rcases hc with rfl | rfl
      · exact dk_dgt _ (by omega)
      · exact dk_dgt _ (by omega)
theorem acc_hex (l : List UInt8) : (hexS (acc l (min 64 l.length)) 32 == l) = okB l := by
  cases h : okB l with
  | true =>
    obtain ⟨hl, hd⟩ := okB_spec h
    rw [beq_iff_eq, hexS_congr 32 (h' := val2 l) (fun i hi => acc_val (by rw [hl]; show 2 * i + 2 ≤ 64; omega) (hd _ (by omega)) (hd _ (by omega))), hex_back hl hd 32 (by omega)]
    exact List.take_of_length_le (by omega)
  | false =>
    rw [beq_eq_false_iff_ne]
    intro e
    have hl : l.length = 64 := by rw [← e, hexS_length]
    have : okB l = true := by
      unfold okB
      rw [Bool.and_eq_true]
      refine ⟨decide_eq_true hl, List.all_eq_true.2 fun c hc => ?_⟩
      rw [← e] at hc
      exact hex_digits _ 32 c hc
    rw [h] at this
    cases this
theorem acc_unh {l : List UInt8} (h : okB l = true) (j : Nat) (hj : j < 32) : acc l (min 64 l.length) j = unh l j := by
  obtain ⟨hl, hd⟩ := okB_spec h
  rw [unh_ok h, acc_val (by rw [hl]; show 2 * j + 2 ≤ 64; omega) (hd _ (by omega)) (hd _ (by omega))]

set_option maxHeartbeats 1600000 in
theorem refUnhex_any (s : ByteArray) (w : World) (hs : s.size ≤ 1000000) :
    Calls Tryd.prog 19 #[.string s] w fun e w' => e = .returned (.tuple #[.agg (fcells 32 fun j => bcell (unh s.data.toList j)), .bool (okB s.data.toList)]) ∧ Below w.heap.size w w' := by
  obtain ⟨l, Hl⟩ : ∃ l : List UInt8, Hid (s.data.toList = l) := ⟨_, hid rfl⟩
  have hsz : s.size = l.length := by rw [← Hl.out]; simp
  have hget : ∀ j, j < l.length → s[j]? = some (l.getD j 0) := fun j hj => by
    have hj2 : j < s.size := by omega
    rw [← Hl.out]
    simp [List.getD_eq_getElem?_getD, hj2]
    rfl
  have hacc := acc_hex l
  rw [Hl.out]
  have htl : s.toList = l := by rw [ByteArray.toList_eq, Hl.out]
  obtain ⟨N, HN⟩ : ∃ N : Nat, Hid (min 64 l.length = N) := ⟨_, hid rfl⟩
  have hN1 : N ≤ 64 := by have := HN.out; omega
  have hN2 : N ≤ s.size := by have := HN.out; omega
  have hN3 : N = 64 ∨ N = s.size := by have := HN.out; omega
  rw [HN.out] at hacc
  have HACC := hid hacc
  have HG := hid hget
  have HSZ := hid hsz
  have HTL := hid htl
  clear hget hacc hsz htl
  have hb0 : Below w.heap.size w ((w.alloc (.cells (fcells 32 fun _ => bcell 0) 26)).alloc (.cells (fcells 32 fun _ => bcell 0) 26)) := ((Below.refl _ _).alloc (Nat.le_refl _) _).alloc (by simp) _
  have hR0 : Blk ((w.alloc (.cells (fcells 32 fun _ => bcell 0) 26)).alloc (.cells (fcells 32 fun _ => bcell 0) 26)) w.heap.size 32 (fun _ => bcell 0) 26 := (Blk.new w _ _ _).alloc _
  have hz0 : ((w.alloc (.cells (fcells 32 fun _ => bcell 0) 26)).alloc (.cells (fcells 32 fun _ => bcell 0) 26)).heap.size = w.heap.size + 2 := by simp
  have HZ := hid hz0
  clear hz0
  go_enter Tryd.func19, Tryd.ntmps19
  go_wp2_with (first
    | (refine wpList_alloc_arr arrH rfl rfl ?_)
    | (refine wpList_zero_arr arrH rfl rfl ?_)
    | (refine wpList_store_arr arrH rfl _ _ rfl rfl rfl (Blk.new _ 32 (fun _ => bcell 0) 26) (fun _ _ => rfl) ?_; intro w1 hg1 hH1 hs1))
  have hp : (w.alloc (.cells (fcells 32 fun _ => bcell 0) 26)).heap.size = w.heap.size + 1 := by simp
  rw [hp] at hH1 hg1
  clear hp
  have hR1 := hR0.grown hg1 (fun e => by have := Option.some.inj e; omega)
  have hb1 := below_into hb0 (by omega) hg1 hb0.size
  clear hb0 hR0 hg1 hs1 HZ
  try go_frame
  go_wp2_with fail
  go_loopw [5] (fun si wr => ∃ i : Nat, i ≤ N ∧ si = .int .i64 i ∧ Below w.heap.size w wr ∧ Blk wr w.heap.size 32 (fun _ => bcell 0) 26 ∧ Blk wr (w.heap.size + 1) 32 (fun j => bcell (acc l i j)) 26) (fun si _ => 64 - (intOf si).toNat)
  case atStart => exact ⟨0, Nat.zero_le _, rfl, hb1, hR1, hH1⟩
  case round =>
    clear hb1 hR1 hH1
    obtain ⟨i, hi, rfl, hbw, hR, hH⟩ := hrel
    have hltH := hH.lt
    by_cases hlt : i < N
    · have hi64 : (i : Int) < 64 := by omega
      have hisz : (i : Int) < (s.size : Int) := by omega
      obtain ⟨J, HJ⟩ : ∃ J : Nat, Hid (i / 2 = J) := ⟨_, hid rfl⟩
      have hJ : J < 32 := by have := HJ.out; omega
      have hJ2 : (J : Int) < 32 := by omega
      have qJ : (i : Int) / 2 = (J : Int) := by have := HJ.out; omega
      have ck := hH.cell (i := J) hJ
      have fk := hH.free J
      unfold bcell at ck
      obtain ⟨x, hx0, hx1, X⟩ : ∃ x : Int, 0 ≤ x ∧ x ≤ 255 ∧ Hid (((acc l i J).toNat : Int) = x) := ⟨_, (byte_lt _).1, (byte_lt _).2, hid rfl⟩
      rw [X.out] at ck
      obtain ⟨y, hy0, hy1, Y⟩ : ∃ y : Int, 0 ≤ y ∧ y ≤ 255 ∧ Hid (yv l i = y) := ⟨_, (yv_lt _ _).1, (yv_lt _ _).2, hid rfl⟩
      have i0 : ∀ w : World, (Instr.index 9 (.string s) (.int .i64 (i : Int))).run Tryd.prog w = .ok (.int .u8 y) w := fun w => by
        have h := HG.out i (by have := HSZ.out; omega)
        simp only [Instr.index, asIntOf, Sem.run_bind, run_underlying under_str, Sem.run_pure, Result.andThen_ok, Int.natCast_nonneg, ↓reduceIte, Int.toNat_natCast, h]
        exact congrArg (fun v => Result.ok v w) (u8_ext Y.out)
      have hcv : ((cv y : Nat) : Int) = cvi y := by
        unfold cv
        exact Int.toNat_of_nonneg (cvi_lt y).1
      have HCV := hid hcv
      clear hcv
      by_cases h97 : 97 ≤ y
      · have HC2 : Hid (cvi y = (y - 87) % 16) := hid (by unfold cvi; rw [if_pos h97])
        go_wp2_with fail
        go_roundw
        case rel =>
          refine ⟨i + 1, by omega, by go_num, below_set hbw (g := w.heap.size + 1) (by omega) _ _, hR.apart _ _ (by simp), (hH.set (i := J) hJ _).congr fun q _ => ?_⟩
          rw [acc_succ]
          by_cases hq : q = J
          · subst hq
            rw [if_pos rfl, if_pos HJ.out.symm]
            refine u8_ext ?_
            rw [u8_ofNat, Y.out]
            have := HCV.out
            have := HC2.out
            have := X.out
            omega
          · rw [if_neg hq, if_neg (by have := HJ.out; omega)]
        case measure => simp [intOf]; omega
      · have HC2 : Hid (cvi y = (y - 48) % 256 % 16) := hid (by unfold cvi; rw [if_neg h97])
        go_wp2_with fail
        go_roundw
        case rel =>
          refine ⟨i + 1, by omega, by go_num, below_set hbw (g := w.heap.size + 1) (by omega) _ _, hR.apart _ _ (by simp), (hH.set (i := J) hJ _).congr fun q _ => ?_⟩
          rw [acc_succ]
          by_cases hq : q = J
          · subst hq
            rw [if_pos rfl, if_pos HJ.out.symm]
            refine u8_ext ?_
            rw [u8_ofNat, Y.out]
            have := HCV.out
            have := HC2.out
            have := X.out
            omega
          · rw [if_neg hq, if_neg (by have := HJ.out; omega)]
        case measure => simp [intOf]; omega
    · have hiN : i = N := by omega
      have hHN : Blk wr (w.heap.size + 1) 32 (fun j => bcell (acc l N j)) 26 := by rw [← hiN]; exact hH
      have hstop : ¬ (i : Int) < 64 ∨ ((i : Int) < 64 ∧ ¬ (i : Int) < (s.size : Int)) := by omega
      obtain ⟨HF, HHF⟩ : ∃ f : Nat → UInt8, Hid ((fun j => acc l N j) = f) := ⟨_, hid rfl⟩
      have hacc2 := HACC.out
      have hHF : Blk wr (w.heap.size + 1) 32 (fun j => bcell (HF j)) 26 := by rw [← HHF.out]; exact hHN
      have hacc3 : (hexS HF 32 == s.toList) = okB l := by rw [← HHF.out, HTL.out]; exact hacc2
      obtain ⟨X, HX⟩ : ∃ X : List UInt8, Hid (hexS HF 32 = X) := ⟨_, hid rfl⟩
      rw [HX.out] at hacc3
      have CH := refHex_any HF wr
      rw [HX.out] at CH
      clear hHN hacc2 hH hiN hlt hi
      have HA3 := hid hacc3
      clear hacc3
      cases hk : okB l with
      | true =>
        have b1 : (X == s.toList) = true := HA3.out.trans hk
        have b2 : (X != s.toList) = false := by rw [bne, b1]; rfl
        have HK := hid hk
        clear hk
        have hun : ∀ j, j < 32 → bcell (HF j) = bcell (unh l j) := fun j hj => by rw [← HHF.out]; show bcell (acc l N j) = _; rw [← HN.out, acc_unh HK.out j hj]
        have HUN := hid hun
        clear hun
        rcases hstop with hst | ⟨hst, hst2⟩
        all_goals
          go_wp2_with (first
            | (refine wpList_load_arr arrH rfl _ rfl rfl hHF ?_)
            | (go_at_call 21; refine CH.mono ?_; rintro e w5 ⟨rfl, hb5⟩; have hHF5 := hHF.keep hb5; have hR5 := hR.keep hb5; have hbw5 := hbw.trans (hb5.mono hbw.size))
            | (refine wpList_load_arr arrH rfl _ rfl rfl hHF5 ?_)
            | (refine wpList_store_arr arrH rfl _ _ rfl rfl rfl hR5 (fun _ _ => rfl) ?_; intro w9 hg9 hA9 hs9))
          refine bodyPost_ret (result_pair (v := .bool true) rfl _ _ rfl rfl hA9) rfl ⟨ret_pair HUN.out HK.out.symm, below_into hbw5 (Nat.le_refl _) hg9 hbw5.size⟩
      | false =>
        have b1 : (X == s.toList) = false := HA3.out.trans hk
        have b2 : (X != s.toList) = true := by rw [bne, b1]; rfl
        have HK := hid hk
        clear hk
        rcases hstop with hst | ⟨hst, hst2⟩
        all_goals
          go_wp2_with (first
            | (refine wpList_load_arr arrH rfl _ rfl rfl hHF ?_)
            | (go_at_call 21; refine CH.mono ?_; rintro e w5 ⟨rfl, hb5⟩; have hR5 := hR.keep hb5; have hbw5 := hbw.trans (hb5.mono hbw.size))
            | (refine wpList_zero_arr arrH rfl rfl ?_)
            | (refine wpList_store_arr arrH rfl _ _ rfl rfl rfl hR5 (fun _ _ => rfl) ?_; intro w9 hg9 hA9 hs9))
          refine bodyPost_ret (result_pair (v := .bool false) rfl _ _ rfl rfl hA9) rfl ⟨ret_pair (fun j _ => by rw [unh_no HK.out]) HK.out.symm, below_into hbw5 (Nat.le_refl _) hg9 hbw5.size⟩
end Go.Proofs.YtoeemiknbogdpaaDoor
