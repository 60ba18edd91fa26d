/-
  TxReads: which transaction any bytes begin with: the law's walk, from what tx.Put and tx.Read tell.
-/
import Derived.Test.YtefngncieagobaaTxOk
import Derived.Test.YtefngncieagobaaTxRefRead
import Derived.Test.YtefngncieagobaaTxLessWalk
import Derived.Test.YtefngncieagobaaCut
import Derived.Test.YtefngncieagobaaConsts
import Derived.Deep.RegionHeld3
import Derived.Test.YtefngncieagobaaHide
import Derived.StillTailTactics
namespace Go.Proofs.Ytefngncieagobaa
open Go.RowKit
attribute [local go_sem ↓] exec_load_tx exec_cutH

set_option maxHeartbeats 3200000 in
theorem lawTxReads_any (hPut : TxPutOk) (hRead : TxReadOk) (v : Value) (l : List UInt8) (w : World) (hv : Byt w v l) :
    Calls Try.prog 3 #[v] w fun e w' => e = .returned (.bool true) ∧ Below w.heap.size w w' := by
  have HPT := hid hPut
  have HRD := hid hRead
  have HAW := hid (fun w => txAwake_any hPut hRead w)
  clear hPut hRead
  have hvm := hv.len
  unfold maxLen at hvm
  obtain ⟨A, c, rfl⟩ := hv.shape
  obtain ⟨_, hcap, _, _⟩ := hv.at_
  obtain ⟨L, HL⟩ : ∃ L : Nat, Hid (l.length = L) := ⟨_, hid rfl⟩
  have HV := hid hv
  rw [HL.out] at hvm hcap ⊢
  clear hv
  by_cases h6 : 600 < L
  · have h6i : (600 : Int) < (L : Int) := by omega
    go_enter Try.func3, Try.ntmps3
    go_wp2_with fail
    refine (HAW.out _).mono ?_
    rintro e w1 ⟨rfl, hb⟩
    go_wp2_with fail
    go_ret
    exact ⟨rfl, hb⟩
  have h6i : ¬ (600 : Int) < (L : Int) := by omega
  have HVW : Hid (∀ W : World, Below w.heap.size w W → Byt W (.slice A L c) l) := hid (fun W h => by have := HV.out.below h; rw [HL.out] at this; exact this)
  have HRF : Hid (∀ W : World, Below w.heap.size w W → Calls Try.prog 8 #[.agg #[.slice A L c, .int .i64 0, .bool false]] W fun e w' => e = .returned (.tuple #[.agg #[.slice A L c, .int .i64 ((rdRaw l 0 true).2.1 : Int), .bool (!(rdRaw l 0 true).2.2)], txv (rdTx l 0 true), .bool (rdIs l 0 true)]) ∧ Below W.heap.size W w') := hid (fun W h => by
    have C := refTx_any A c 0 true l W (HV.out.below h) (Nat.zero_le _) (by rw [HL.out]; omega)
    unfold rv at C
    rw [HL.out] at C
    exact C)
  obtain ⟨I, HI⟩ : ∃ I : Bool, Hid (rdIs l 0 true = I) := ⟨_, hid rfl⟩
  obtain ⟨T, HT⟩ : ∃ T : TxM, Hid (rdTx l 0 true = T) := ⟨_, hid rfl⟩
  obtain ⟨P, HP⟩ : ∃ P : Nat, Hid ((rdRaw l 0 true).2.1 = P) := ⟨_, hid rfl⟩
  obtain ⟨R, HR⟩ : ∃ R : Bool, Hid ((rdRaw l 0 true).2.2 = R) := ⟨_, hid rfl⟩
  have hRF := HRF.out
  rw [HI.out, HT.out, HP.out, HR.out] at hRF
  have HRF2 := hid hRF
  clear hRF HRF
  have HRD0 : Hid (∀ (g : Nat) (w : World), Rdr w g l 0 true → Calls Try.prog 7 #[.pointer (some ⟨g, 0, none⟩)] w fun e w' => e = .returned (.tuple #[txv T, .bool I]) ∧ (∃ p' r', Rdr w' g l p' r' ∧ (I = true → p' = P ∧ r' = true)) ∧ w.grownBy w' (some g)) := hid (fun g w hr => by
    have C := HRD.out g l 0 true w hr (by rw [HL.out]; omega)
    rw [HT.out, HI.out, HP.out] at C
    exact C)
  clear HRD
  obtain ⟨fr, no, ki, tu, am, key, val⟩ := T
  unfold txv at HRF2 HRD0
  simp only at HRF2 HRD0
  go_enter Try.func3, Try.ntmps3
  go_wp2_with fail
  refine (read_any _ _ w (HVW.out w (Below.refl _ _)) (by rw [HL.out]; omega)).mono ?_
  rintro e w1 ⟨g, rfl, hg, hr1, hb1⟩
  go_wp2_with fail
  refine (HRD0.out g w1 hr1).mono ?_
  rintro e w2 ⟨rfl, ⟨p', r', hr2, hpr⟩, hg2⟩
  have hb2 : Below w.heap.size w w2 := hb1.grown hg2 hb1.size (fun k hk => by injection hk with hk; omega)
  have HPR := hid hpr
  have hl2 := hr2.lt
  clear hg2 hr1 hb1 HRD0 hpr
  go_wp2_with fail
  generalize hW : (w2.alloc (.cells #[.int .i64 fr, .int .i64 no, .int .i64 ki, .int .i64 tu, .int .i64 am, .string (sb key), .string (sb val)] 27)) = w3
  have hn3 : w3.heap[w2.heap.size]? = some (.cells #[.int .i64 fr, .int .i64 no, .int .i64 ki, .int .i64 tu, .int .i64 am, .string (sb key), .string (sb val)] 27 (0, 0)) := by rw [← hW]; exact heap_alloc_new _ _
  have hb3' : Below w2.heap.size w2 w3 := by rw [← hW]; exact (Below.refl _ _).alloc (Nat.le_refl _) _
  have hb3 := hb2.trans (hb3'.mono hb2.size)
  have hr3 := hr2.below hb3'
  have hl3 := lt_of_block hn3
  clear hW hb2 hr2 hb3'
  refine (HRF2.out w3 hb3).mono ?_
  rintro e w4 ⟨rfl, hb4'⟩
  have hb4 := hb3.trans (hb4'.mono hb3.size)
  have hr4 := hr3.below hb4'
  have hn4 := (hb4'.block _ hl3).trans hn3
  have hl4 := Nat.lt_of_lt_of_le hl3 hb4'.size
  clear hb3 hr3 hn3 hb4' hl3 HRF2
  go_upto_region 6 with (fail)
  have hst0 : Below w4.heap.size w4 ((w4.alloc (.cells #[.slice A L c, .int .i64 (P : Int), .bool (!R)] 31)).alloc (.cells #[.int .i64 fr, .int .i64 no, .int .i64 ki, .int .i64 tu, .int .i64 am, .string (sb key), .string (sb val)] 27)) := ((Below.refl _ _).alloc (Nat.le_refl _) _).alloc (by simp) _
  have n6 := heap1 w4 (.cells #[.slice A L c, .int .i64 (P : Int), .bool (!R)] 31) (.cells #[.int .i64 fr, .int .i64 no, .int .i64 ki, .int .i64 tu, .int .i64 am, .string (sb key), .string (sb val)] 27)
  have n7 := heap_alloc2_new w4 (.cells #[.slice A L c, .int .i64 (P : Int), .bool (!R)] 31) (.cells #[.int .i64 fr, .int .i64 no, .int .i64 ki, .int .i64 tu, .int .i64 am, .string (sb key), .string (sb val)] 27)
  generalize ((w4.alloc (.cells #[.slice A L c, .int .i64 (P : Int), .bool (!R)] 31)).alloc (.cells #[.int .i64 fr, .int .i64 no, .int .i64 ki, .int .i64 tu, .int .i64 am, .string (sb key), .string (sb val)] 27)) = w5 at *
  have hB5 := hb4.trans (hst0.mono hb4.size)
  have hr5 := hr4.below hst0
  have hn5 := (hst0.block _ hl4).trans hn4
  have hl5 := Nat.lt_of_lt_of_le hl4 hst0.size
  have hl6 := lt_of_block n6
  clear hst0 hb4 hr4 hn4 hl4
  have la := loadTx_eq hn5 rfl
  have l7 := loadTx_eq n7 rfl
  have hld : ∀ w' : World, w'.heap[w2.heap.size]? = some (.cells #[.int .i64 fr, .int .i64 no, .int .i64 ki, .int .i64 tu, .int .i64 am, .string (sb key), .string (sb val)] 27 (0, 0)) → loadTx (.pointer (some ⟨w2.heap.size, 0, none⟩)) w' = .ok (.value (.agg #[.int .i64 fr, .int .i64 no, .int .i64 ki, .int .i64 tu, .int .i64 am, .string (sb key), .string (sb val)])) w' := fun w' h => loadTx_eq h rfl
  have i61 := cell_blk n6 1
  simp at i61
  clear n7
  cases I with
  | false =>
    go_upto_region 8 with (fail)
    clear la l7 hld i61 hn5 n6 hr5 HPR hl5 hl6
    refine wp_region_still_tail 22 (by kernel_rfl) ?hB ?_
    case hB => exact of_decide_eq_true (by decide +kernel)
    simp only [List.take_succ_cons, List.take_zero, List.drop_succ_cons, List.drop_zero]
    iterate 3 still_step
    iterate 9 ((with_reducible refine wpStill_step ?_); intro K hK; go_simp; (with_reducible refine hK _ ?_); clear hK K)
    iterate 7 ((with_reducible refine wpStill_step ?_); intro K hK; go_simp; rw [if_neg (by intro h; cases h)]; (with_reducible refine hK _ ?_); clear hK K)
    iterate 3 ((with_reducible refine wpStill_step ?_); intro K hK; go_simp; (with_reducible refine hK _ ?_); clear hK K)
    refine wpStill_nil ?_
    change wpList _ _ _ _ _ w5.drew
    go_wp2_with fail
    refine (HAW.out _).mono ?_
    rintro e w9 ⟨rfl, hb9⟩
    have hb9' := (show Below w5.heap.size w5 w5.drew from (Below.refl _ _).drew).trans hb9
    have hB9 := hB5.trans (hb9'.mono hB5.size)
    go_wp2_with fail
    go_ret
    exact ⟨rfl, hB9⟩
  | true =>
    obtain ⟨hpp, hrr⟩ := HPR.out rfl
    rw [hpp, hrr] at hr5
    have hle := hr5.le
    rw [HL.out] at hle
    obtain ⟨_, hmay, hpl, x, hx⟩ := rdTx_so HI.out
    rw [HT.out] at hmay hpl hx
    rw [HP.out, Nat.zero_add] at hpl
    rw [List.drop_zero] at hx
    have HTK : Hid (bytesT ⟨fr, no, ki, tu, am, key, val⟩ = l.take P) := hid (by rw [hx, hpl, List.take_left])
    have HPU : Hid (putT [] ⟨fr, no, ki, tu, am, key, val⟩ = l.take P) := hid (by unfold putT; rw [if_pos hmay, List.nil_append, HTK.out])
    have HLT : Hid (lightT ⟨fr, no, ki, tu, am, key, val⟩) := hid (by
      obtain ⟨_, _, h3⟩ := mayT_iff hmay
      unfold lightT
      simp only at h3 ⊢
      rcases h3 with ⟨_, _, _, rfl, rfl⟩ | ⟨_, _, _, hk, hv⟩ | ⟨_, _, _, hk, rfl⟩
      · simp
      · have := keyOk_len hk
        omega
      · have := keyOk_len hk
        simp
        omega)
    obtain ⟨A4, c4, r4, p4⟩ := cut_h A c L P hle hcap
    have HP4 : Hid (∀ W : World, Below w.heap.size w W → Byt W (.slice A4 P c4) (l.take P)) := hid (fun W h => p4 W l HL.out (HVW.out W h))
    have hwr : IntKind.i64.wrap ((L : Int) - (P : Int)) = (L : Int) - (P : Int) := IntWalk.i64_in _ (by omega)
    clear hx hpl p4 HPR hmay
    go_wp2_with fail
    have hleft := left_any g l P true w5 hr5 (by rw [HL.out]; omega)
    rw [HL.out] at hleft
    have HLF := hid (fun (w' : World) (hr : Rdr w' g l P true) => left_any g l P true w' hr (by rw [HL.out]; omega))
    have hLF := HLF.out
    rw [HL.out] at hLF
    have HLF2 := hid hLF
    clear hLF HLF hleft
    have hbd : Below w5.heap.size w5 w5.drew := (Below.refl _ _).drew
    obtain ⟨C, HC⟩ : ∃ C : Array Value, Hid (#[.int .i64 fr, .int .i64 no, .int .i64 ki, .int .i64 tu, .int .i64 am, .string (sb key), .string (sb val)] = C) := ⟨_, hid rfl⟩
    rw [HC.out] at hn5 hld
    have hS5 : w5.cell? ⟨w4.heap.size, 1, none⟩ = some (.int .i64 (P : Int)) ∧ w5.heap[w2.heap.size]? = some (.cells C 27 (0, 0)) := ⟨i61, hn5⟩
    have HSB : Hid (∀ W : World, Below w5.heap.size w5 W → W.cell? ⟨w4.heap.size, 1, none⟩ = some (.int .i64 (P : Int)) ∧ W.heap[w2.heap.size]? = some (.cells C 27 (0, 0))) := hid (fun W h => ⟨(World.cell?_of_block (h.block _ hl6)).trans hS5.1, (h.block _ hl5).trans hS5.2⟩)
    have HPT2 : Hid (∀ W : World, Calls Try.prog 11 #[.slice none 0 0, .agg C] W fun e w' => ∃ x, e = .returned x ∧ Byt w' x (l.take P) ∧ Below W.heap.size W w') := hid (fun W => by
      have := HPT.out (.slice none 0 0) [] ⟨fr, no, ki, tu, am, key, val⟩ W (Byt.nil W) (by decide) HLT.out
      rw [HPU.out] at this
      rw [← HC.out]
      exact this)
    clear la l7 i61 hn5 hS5
    go_region_held3 (fun w' => w'.cell? ⟨w4.heap.size, 1, none⟩ = some (.int .i64 (P : Int)) ∧ w'.heap[w2.heap.size]? = some (.cells C 27 (0, 0)))
      (first
        | (refine HSB.out _ hbd)
        | (refine HSB.out _ (below_drewN (Below.refl _ _) _))
        | (refine HSB.out _ hb9')
        | (refine HSB.out _ hb8)
        | (refine HSB.out _ hb7)
        | (refine HSB.out _ hb6)
        | fail)
      (first
        | (go_at_call 9; refine (HLF2.out _ (hr5.below hbd)).mono ?_; rintro e w6 ⟨rfl, k6, rfl⟩; have hb6 := below_drewN (Below.refl w5.heap.size w5) (1 + k6))
        | (go_at_call 11; (with_reducible refine (HPT2.out _).mono ?_); rintro e w7 ⟨v7, rfl, hv7, hb7'⟩; have hb7 := hb6.trans (hb7'.mono hb6.size))
        | (go_at_call 10; refine (same_yes _ _ _ _ hv7 (HP4.out _ (hB5.trans (hb7.mono hB5.size)))).mono ?_; rintro e w8 ⟨rfl, k8, rfl⟩; have hb8 := below_drewN hb7 k8)
        | (go_at_call 5; refine (HAW.out _).mono ?_; rintro e w9 ⟨rfl, hb9⟩; have hb9' := hb8.trans (hb9.mono hb8.size); have hB9 := hB5.trans (hb9'.mono hB5.size))
        | fail)
    all_goals
      go_wp2_with fail
      go_ret
      exact ⟨rfl, hB9⟩
end Go.Proofs.Ytefngncieagobaa
