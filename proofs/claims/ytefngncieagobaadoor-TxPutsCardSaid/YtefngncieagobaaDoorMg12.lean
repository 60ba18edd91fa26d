/-
  TxPutsWalk TxCodeId Row TxArg TxPutsLaw Tables Args: what each of them says stands at its head.
-/
import Derived.Test.YtefngncieagobaaDoorMg11
import Derived.Test.YtefngncieagobaaDoorMg3
import Derived.Deep.RegionHeld3
import Derived.Deep.DeepCutAuto
import Derived.Test.YtefngncieagobaaDoorMg6
import Derived.Test.YtefngncieagobaaDoorMg1
import Derived.ProofKit
import Derived.OpenShut
import Derived.ShutString
import Derived.ChangeOld
import Derived.Test.YtefngncieagobaaDoorMg2
import Derived.ChangeArms
import Derived.Test.YtefngncieagobaaDoorMg8
import Derived.Lib.LaidTab
import Derived.MakeChecks
import Derived.LaidMore
import Derived.Stop.Joined
import Derived.Stop.LaidErr
/-
  TxPuts: which transactions there may be, their bytes and ids, and that what is put is read: the law's walk, from what tx's functions tell.
-/
namespace Go.Proofs.YtefngncieagobaaDoor
open Go.RowKit
attribute [local go_sem ↓] exec_load_tx

def TxCheckOk : Prop := ∀ (t : TxM) (w : World), lightT t → Calls Tryd.prog 8 #[txv t] w fun e w' => e = .returned (.int .i64 (if mayT t = true then 0 else 1)) ∧ Below w.heap.size w w'
def TxIdOk : Prop := ∀ (t : TxM) (w : World), lightT t → Kst 1 w → Calls Tryd.prog 9 #[txv t] w fun e w' => e = .returned (.agg (fcells 32 fun j => bcell (idT t j))) ∧ Below w.heap.size w w'
theorem eq_tx (t : TxM) (w : World) : (Op.equalIn 10000 23 (txv t) (txv t)).run Tryd.prog w = .ok true w := by
  unfold txv
  go_simp
def litT (t : TxM) : Bool := decide (t.key.length ≤ 100) && decide (t.val.length ≤ 400)

set_option maxHeartbeats 1600000 in
theorem light6_any (t : TxM) (w : World) (hk : t.key.length ≤ maxLen) (hv : t.val.length ≤ maxLen) :
    Calls Tryd.prog 4 #[txv t] w fun e w' => e = .returned (.bool (litT t)) ∧ Below w.heap.size w w' := by
  obtain ⟨fr, no, ki, tu, am, key, val⟩ := t
  simp only at hk hv
  unfold maxLen at hk hv
  have hks := sb_size key
  have hvs := sb_size val
  unfold txv
  simp only
  obtain ⟨s, HS⟩ : ∃ s : ByteArray, Hid (sb key = s) := ⟨_, hid rfl⟩
  obtain ⟨u, HU⟩ : ∃ s : ByteArray, Hid (sb val = s) := ⟨_, hid rfl⟩
  obtain ⟨n, HN⟩ : ∃ n : Nat, Hid (key.length = n) := ⟨_, hid rfl⟩
  obtain ⟨m, HM⟩ : ∃ n : Nat, Hid (val.length = n) := ⟨_, hid rfl⟩
  rw [HS.out] at hks ⊢
  rw [HU.out] at hvs ⊢
  rw [HN.out] at hks hk
  rw [HM.out] at hvs hv
  obtain ⟨q, HQ⟩ : ∃ b : Bool, Hid (litT ⟨fr, no, ki, tu, am, key, val⟩ = b) := ⟨_, hid rfl⟩
  rw [HQ.out]
  go_enter Tryd.func4, Tryd.ntmps4
  go_wp2_with fail
  all_goals
    go_ret
    refine ⟨?_, (Below.refl _ _).alloc (Nat.le_refl _) _⟩
    refine congrArg (fun b => Ending.returned (Value.bool b)) ?_
    rw [← HQ.out]
    unfold litT
    simp only [HN.out, HM.out]
  all_goals grind

set_option maxHeartbeats 6400000 in
theorem lawTxPuts_any (hPut : TxPutOk) (hRead : TxReadOk) (hCheck : TxCheckOk) (hId : TxIdOk) (t : TxM) (va : Value) (la : List UInt8) (vm : Value) (lm : List UInt8) (w : World) (hva : Byt w va la) (hvm : Byt w vm lm)
    (hk : t.key.length ≤ maxLen) (hv : t.val.length ≤ maxLen) (hK1 : Kst 1 w) (hK0 : Kst 0 w) :
    Calls Tryd.prog 3 #[txv t, va, vm] w fun e w' => e = .returned (.bool true) ∧ Below w.heap.size w w' := by
  have HAW := hid (fun w => txAwake_any hPut hRead w)
  have HLI := hid (fun w => light6_any t w hk hv)
  clear hk hv
  have ham := hva.len
  have hmm := hvm.len
  unfold maxLen at ham hmm
  obtain ⟨A1, c1, rfl⟩ := hva.shape
  obtain ⟨A2, c2, rfl⟩ := hvm.shape
  obtain ⟨L1, HL1⟩ : ∃ L : Nat, Hid (la.length = L) := ⟨_, hid rfl⟩
  obtain ⟨L2, HL2⟩ : ∃ L : Nat, Hid (lm.length = L) := ⟨_, hid rfl⟩
  have HV1 : Hid (∀ W : World, Below w.heap.size w W → Byt W (.slice A1 L1 c1) la) := hid (fun W h => by have := hva.below h; rw [HL1.out] at this; exact this)
  have HV2 : Hid (∀ W : World, Below w.heap.size w W → Byt W (.slice A2 L2 c2) lm) := hid (fun W h => by have := hvm.below h; rw [HL2.out] at this; exact this)
  have HKA := hid (fun W (h : Below w.heap.size w W) => (show Kst 0 W from hK0.below h))
  have HKB := hid (fun W (h : Below w.heap.size w W) => (show Kst 1 W from hK1.below h))
  rw [HL1.out, HL2.out]
  rw [HL1.out] at ham
  rw [HL2.out] at hmm
  clear hva hvm hK0 hK1
  have hr0 := heap_alloc_new w (.cells #[.int .i64 t.fr, .int .i64 t.no, .int .i64 t.ki, .int .i64 t.to, .int .i64 t.am, .string (sb t.key), .string (sb t.val)] 23)
  have hb0 : Below w.heap.size w (w.alloc (.cells #[.int .i64 t.fr, .int .i64 t.no, .int .i64 t.ki, .int .i64 t.to, .int .i64 t.am, .string (sb t.key), .string (sb t.val)] 23)) := (Below.refl _ _).alloc (Nat.le_refl _) _
  obtain ⟨q, HQ⟩ : ∃ b : Bool, Hid (litT t = b) := ⟨_, hid rfl⟩
  have HTX : Hid (txv t = .agg #[.int .i64 t.fr, .int .i64 t.no, .int .i64 t.ki, .int .i64 t.to, .int .i64 t.am, .string (sb t.key), .string (sb t.val)]) := hid rfl
  rw [HTX.out]
  go_enter Tryd.func3, Tryd.ntmps3
  go_upto_region 1 with (fail)
  generalize (w.alloc (.cells #[.int .i64 t.fr, .int .i64 t.no, .int .i64 t.ki, .int .i64 t.to, .int .i64 t.am, .string (sb t.key), .string (sb t.val)] 23)) = w0 at *
  have hl0 := lt_of_block hr0
  obtain ⟨C, HC⟩ : ∃ C : Array Value, Hid (#[.int .i64 t.fr, .int .i64 t.no, .int .i64 t.ki, .int .i64 t.to, .int .i64 t.am, .string (sb t.key), .string (sb t.val)] = C) := ⟨_, hid rfl⟩
  rw [HC.out] at hr0 HTX ⊢
  have HCS : Hid (C.size = 7) := hid (by rw [← HC.out]; rfl)
  have HRW : Hid (∀ W : World, Below w0.heap.size w0 W → W.heap[w.heap.size]? = some (.cells C 23 (0, 0))) := hid (fun W h => (h.block _ hl0).trans hr0)
  have HLD : Hid (∀ W : World, Below w0.heap.size w0 W → loadTx (.pointer (some ⟨w.heap.size, 0, none⟩)) W = .ok (.value (.agg C)) W) := hid (fun W h => loadTx_eq (HRW.out W h) HCS.out)
  have l0 := HLD.out w0 (Below.refl _ _)
  clear hr0 hl0
  go_wp2_with fail
  have CL := HLI.out w0
  rw [HTX.out, HQ.out] at CL
  refine CL.mono ?_
  clear CL HLI
  rintro e w1 ⟨rfl, hb1⟩
  have hB1 := hb0.trans (hb1.mono hb0.size)
  have l1 := HLD.out w1 hb1
  clear l0
  by_cases hok : q = true ∧ L1 ≤ 200 ∧ L2 ≤ 200
  · obtain ⟨rfl, hL1, hL2⟩ := hok
    have h1i : ¬ (200 : Int) < (L1 : Int) := by omega
    have h2i : ¬ (200 : Int) < (L2 : Int) := by omega
    go_wp2_with fail
    obtain ⟨m, HM⟩ : ∃ b : Bool, Hid (mayT t = b) := ⟨_, hid rfl⟩
    have HLT : Hid (t.key.length ≤ 100 ∧ t.val.length ≤ 400) := hid (by have := HQ.out; unfold litT at this; simpa using this)
    have HLG : Hid (lightT t) := hid (by have := HLT.out; unfold lightT; omega)
    have HMA : Hid (∀ W, Calls Tryd.prog 6 #[.agg C] W fun e w' => e = .returned (.bool m) ∧ Below W.heap.size W w') := hid (fun W => by
      have := refMay_any t W (by have := HLT.out; omega) (by have := HLT.out; omega)
      rw [HTX.out, HM.out] at this
      exact this)
    have HPT : Hid (∀ W, Below w.heap.size w W → Calls Tryd.prog 7 #[.slice A1 L1 c1, .agg C] W fun e w' => ∃ x, e = .returned x ∧ Byt w' x (putT la t) ∧ Below W.heap.size W w') := hid (fun W h => by
      have := hPut (.slice A1 L1 c1) la t W (HV1.out W h) (by rw [HL1.out]; omega) HLG.out
      rw [HTX.out] at this
      exact this)
    have HCK : Hid (∀ W, Calls Tryd.prog 8 #[.agg C] W fun e w' => e = .returned (.int .i64 (if m = true then 0 else 1)) ∧ Below W.heap.size W w') := hid (fun W => by
      have := hCheck t W HLG.out
      rw [HTX.out, HM.out] at this
      exact this)
    obtain ⟨D, HD⟩ : ∃ D : Array Value, Hid (fcells 32 (fun j => bcell (idT t j)) = D) := ⟨_, hid rfl⟩
    have HID : Hid (∀ W, Below w.heap.size w W → Calls Tryd.prog 9 #[.agg C] W fun e w' => e = .returned (.agg D) ∧ Below W.heap.size W w') := hid (fun W h => by
      have := hId t W HLG.out (HKB.out W h)
      rw [HTX.out, HD.out] at this
      exact this)
    have HRI : Hid (∀ W, Below w.heap.size w W → Calls Tryd.prog 10 #[.agg C] W fun e w' => e = .returned (.agg D) ∧ Below W.heap.size W w') := hid (fun W h => by
      have := refId6_any t W (by have := HLT.out; omega) (by have := HLT.out; omega) (HKA.out W h)
      rw [HTX.out, HD.out] at this
      exact this)
    have heq := hash_same D (idT t) HD.out
    clear h1i h2i l1
    refine (HMA.out w1).mono ?_
    rintro e w2 ⟨rfl, hb2⟩
    have hb2' := hb1.trans (hb2.mono hb1.size)
    have hB2 := hB1.trans (hb2.mono hB1.size)
    have l2 := HLD.out w2 hb2'
    clear hb2 hb1
    go_wp2_with fail
    refine (HPT.out w2 hB2).mono ?_
    rintro e w3 ⟨v3, rfl, hv3, hb3⟩
    have hb3' := hb2'.trans (hb3.mono hb2'.size)
    have hB3 := hB2.trans (hb3.mono hB2.size)
    clear hb3 hb2' l2 HPT HMA
    obtain ⟨B3, c3, rfl⟩ := hv3.shape
    go_upto_region 5 with (fail)
    have hbd : Below w3.heap.size w3 w3.drew := (Below.refl _ _).drew
    have hld : ∀ W : World, W.heap[w.heap.size]? = some (.cells C 23 (0, 0)) → loadTx (.pointer (some ⟨w.heap.size, 0, none⟩)) W = .ok (.value (.agg C)) W := fun W h => loadTx_eq h HCS.out
    have HS : Hid (∀ W : World, Below w3.heap.size w3 W → W.heap[w.heap.size]? = some (.cells C 23 (0, 0))) := hid (fun W h => HRW.out W (hb3'.trans (h.mono hb3'.size)))
    cases m with
    | false =>
      have hpu : putT la t = la := by unfold putT; rw [if_neg (by rw [HM.out]; decide)]
      rw [hpu] at hv3 ⊢
      clear hpu
      go_region_held3 (fun W => W.heap[w.heap.size]? = some (.cells C 23 (0, 0)))
        (first
          | (refine HS.out _ hbd)
          | (refine HS.out _ hb7)
          | (refine HS.out _ hb6)
          | (refine HS.out _ hb5)
          | (refine HS.out _ hb4)
          | fail)
        (first
          | (go_at_call 10; (with_reducible refine (HRI.out _ (hB3.trans (hb6.mono hB3.size))).mono ?_); rintro e w7 ⟨rfl, hb7'⟩; have hb7 := hb6.trans (hb7'.mono hb6.size))
          | (go_at_call 9; (with_reducible refine (HID.out _ (hB3.trans (hb5.mono hB3.size))).mono ?_); rintro e w6 ⟨rfl, hb6'⟩; have hb6 := hb5.trans (hb6'.mono hb5.size))
          | (go_at_call 8; (with_reducible refine (HCK.out w4).mono ?_); rintro e w5 ⟨rfl, hb5'⟩; have hb5 := hb4.trans (hb5'.mono hb4.size))
          | (go_at_call 8; (with_reducible refine (HCK.out w3.drew).mono ?_); rintro e w4 ⟨rfl, hb4'⟩; have hb4 := hbd.trans hb4')
          | fail)
      have hB7 := hB3.trans (hb7.mono hB3.size)
      have hv7 := hv3.below hb7
      go_wp2_with fail
      refine (same_yes _ _ la w7 hv7 (HV1.out _ hB7)).mono ?_
      rintro e w8 ⟨rfl, k8, rfl⟩
      have hB8 := below_drewN hB7 k8
      go_wp2_with fail
      refine (HAW.out _).mono ?_
      rintro e w9 ⟨rfl, hb9⟩
      have hB9 := hB8.trans (hb9.mono hB8.size)
      go_wp2_with fail
      go_ret
      exact ⟨rfl, hB9⟩
    | true =>
      obtain ⟨O, HO⟩ : ∃ O : List UInt8, Hid (bytesT t = O) := ⟨_, hid rfl⟩
      have HOL : Hid (O.length ≤ 300) := hid (by rw [← HO.out]; exact bytesT_len HM.out)
      have hpu : putT la t = la ++ O := by unfold putT; rw [if_pos HM.out, HO.out]
      rw [hpu] at hv3 ⊢
      clear hpu
      have HBY : Hid (∀ W, Calls Tryd.prog 12 #[.agg C] W fun e w' => ∃ x, e = .returned x ∧ Own W.heap.size w' x O ∧ Below W.heap.size W w') := hid (fun W => by
        have := refBytes_any t W HM.out
        rw [HTX.out, HO.out] at this
        exact this)
      have HEQ : Hid (∀ W, (Op.equalIn 10000 23 (.agg C) (.agg C)).run Tryd.prog W = .ok true W) := hid (fun W => by
        have := eq_tx t W
        rw [HTX.out] at this
        exact this)
      have HRR : Hid (∀ (g : Nat) (W : World), Rdr W g (O ++ lm) 0 true → Calls Tryd.prog 14 #[.pointer (some ⟨g, 0, none⟩)] W fun e w' => e = .returned (.tuple #[.agg C, .bool true]) ∧ Rdr w' g (O ++ lm) O.length true ∧ W.grownBy w' (some g)) := hid (fun g W hr => by
        have hbk := rdTx_back (t := t) (L := O ++ lm) (r := lm) (p := 0) HM.out (by rw [HO.out]; rfl)
        rw [HO.out, Nat.zero_add] at hbk
        have C := hRead g (O ++ lm) 0 true W hr (by rw [List.length_append, HL2.out]; have := HOL.out; omega)
        rw [hbk.1, hbk.2.1, hbk.2.2, HTX.out] at C
        refine C.mono ?_
        rintro e w' ⟨rfl, ⟨p', r', hr', hpr⟩, hg⟩
        obtain ⟨rfl, rfl⟩ := hpr rfl
        exact ⟨rfl, hr', hg⟩)
      go_region_held3 (fun W => W.heap[w.heap.size]? = some (.cells C 23 (0, 0)))
        (first
          | (refine HS.out _ hbd)
          | (refine HS.out _ hb7)
          | (refine HS.out _ hb6)
          | (refine HS.out _ hb5)
          | (refine HS.out _ hb4)
          | fail)
        (first
          | (go_at_call 10; (with_reducible refine (HRI.out _ (hB3.trans (hb6.mono hB3.size))).mono ?_); rintro e w7 ⟨rfl, hb7'⟩; have hb7 := hb6.trans (hb7'.mono hb6.size))
          | (go_at_call 9; (with_reducible refine (HID.out _ (hB3.trans (hb5.mono hB3.size))).mono ?_); rintro e w6 ⟨rfl, hb6'⟩; have hb6 := hb5.trans (hb6'.mono hb5.size))
          | (go_at_call 8; (with_reducible refine (HCK.out w4).mono ?_); rintro e w5 ⟨rfl, hb5'⟩; have hb5 := hb4.trans (hb5'.mono hb4.size))
          | (go_at_call 8; (with_reducible refine (HCK.out w3.drew).mono ?_); rintro e w4 ⟨rfl, hb4'⟩; have hb4 := hbd.trans hb4')
          | fail)
      have hB7 := hB3.trans (hb7.mono hB3.size)
      have hv7 := hv3.below hb7
      have l7 := HLD.out w7 (hb3'.trans (hb7.mono hb3'.size))
      go_wp2_with fail
      refine (HBY.out w7).mono ?_
      rintro e w8 ⟨x8, rfl, ho8, hb8⟩
      have hB8 := hB7.trans (hb8.mono hB7.size)
      have hb8' := (hb3'.trans (hb7.mono hb3'.size)).trans (hb8.mono (Nat.le_trans hb3'.size hb7.size))
      have hv8 := hv7.below hb8
      have hby8 := ho8.byt
      obtain ⟨A8, c8, rfl⟩ := hby8.shape
      clear l7 hb3' hb7 hb8 hv3 hv7 ho8 hB7
      have hl9 : ([] : List UInt8).length + O.length ≤ 140737488355328 := by have := HOL.out; simp only [List.length_nil]; omega
      have HL10 : Hid (O.length + lm.length ≤ 140737488355328) := hid (by have := HOL.out; have := HL2.out; omega)
      obtain ⟨ol, HOLN⟩ : ∃ n : Nat, Hid (O.length = n) := ⟨_, hid rfl⟩
      rw [HOLN.out] at hby8 hl9 ⊢
      have HBY8 := hid hby8
      clear hby8
      go_wp2_with (first
        | (at_builtin; refine wpList_append_byt rfl (.tmp 62) (.tmp 63) rfl rfl rfl (fresh0_own w8) (HBY8.out.below ((Below.refl _ _).alloc (Nat.le_refl _) _)) (by rw [HOLN.out]; exact hl9) (al_le w8 _) ?_; intro v9 w9 ho9 hg9 hv9; simp only [List.nil_append] at ho9; have hb9 := fresh0_below hg9; have hB9 := hB8.trans (hb9.mono hB8.size); clear hg9 hv9)
        | (at_builtin; refine wpList_append_byt rfl (.tmp 64) (.tmp 65) rfl rfl rfl ho9 (HV2.out _ hB9) HL10.out hb9.size ?_; intro v10 w10 ho10 hg10 hv10; have hb10 := hb9.grown hg10 hb9.size (fun q hq => (World.ownsRow.lt ho9 q hq).1); have hB10 := hB8.trans (hb10.mono hB8.size); clear hg10 hv10))
      refine (read_any v10 (O ++ lm) w10 ho10.byt (by rw [List.length_append, HL2.out]; have := HOL.out; omega)).mono ?_
      rintro e w11 ⟨g, rfl, hg, hr11, hb11⟩
      have hs8 := hb10.size
      clear ho9 hb9 hB9 ho10 hl9
      go_wp2_with fail
      have C11 := HRR.out g w11 hr11
      rw [← HC.out] at C11
      refine C11.mono ?_
      clear C11
      rintro e w12 ⟨rfl, hr12, hg12⟩
      have hb12 : Below w8.heap.size w8 w12 := (hb10.trans (hb11.mono hb10.size)).grown hg12 (Nat.le_trans hb10.size hb11.size) (fun k hk => by injection hk with hk; omega)
      have hB12 := hB8.trans (hb12.mono hB8.size)
      clear hg12 hr11 hb11 hb10 hB10 hg hs8
      have hr13 := hr12.below ((Below.refl w12.heap.size w12).alloc (Nat.le_refl _) (.cells #[.int .i64 t.fr, .int .i64 t.no, .int .i64 t.ki, .int .i64 t.to, .int .i64 t.am, .string (sb t.key), .string (sb t.val)] 23))
      have hb13 : Below w8.heap.size w8 (w12.alloc (.cells #[.int .i64 t.fr, .int .i64 t.no, .int .i64 t.ki, .int .i64 t.to, .int .i64 t.am, .string (sb t.key), .string (sb t.val)] 23)) := hb12.alloc hb12.size _
      have hn13 := heap_alloc_new w12 (.cells #[.int .i64 t.fr, .int .i64 t.no, .int .i64 t.ki, .int .i64 t.to, .int .i64 t.am, .string (sb t.key), .string (sb t.val)] 23)
      go_upto_region 12 with (fail)
      generalize (w12.alloc (.cells #[.int .i64 t.fr, .int .i64 t.no, .int .i64 t.ki, .int .i64 t.to, .int .i64 t.am, .string (sb t.key), .string (sb t.val)] 23)) = w13 at *
      rw [HC.out] at hn13
      have hl13 := lt_of_block hn13
      have hB13 := hB8.trans (hb13.mono hB8.size)
      have hby13 := HBY8.out.below hb13
      have hv13 := hv8.below hb13
      have HLD2 : Hid (∀ W : World, Below w13.heap.size w13 W → loadTx (.pointer (some ⟨w12.heap.size, 0, none⟩)) W = .ok (.value (.agg C)) W ∧ loadTx (.pointer (some ⟨w.heap.size, 0, none⟩)) W = .ok (.value (.agg C)) W ∧ Rdr W g (O ++ lm) O.length true) := hid (fun W h =>
        ⟨loadTx_eq ((h.block _ hl13).trans hn13) HCS.out, HLD.out W ((hb8'.trans (hb13.mono hb8'.size)).trans (h.mono (Nat.le_trans hb8'.size hb13.size))), hr13.below h⟩)
      have HLF : Hid (∀ W : World, Rdr W g (O ++ lm) O.length true → Calls Tryd.prog 15 #[.pointer (some ⟨g, 0, none⟩)] W fun e w' => e = .returned (.int .i64 (L2 : Int)) ∧ ∃ n, w' = W.drewN n) := hid (fun W hr => by
        have C := left_any g (O ++ lm) O.length true W hr (by rw [List.length_append, HL2.out]; have := HOL.out; omega)
        rw [show (((O ++ lm).length : Nat) : Int) - ((O.length : Nat) : Int) = (L2 : Int) from by rw [List.length_append, HL2.out]; omega] at C
        exact C)
      clear hn13 hl13 hr13 hb12 hB12 hr12 hv8 hB8 hb8'
      have hl14 : ([] : List UInt8).length + la.length ≤ 140737488355328 := by rw [HL1.out]; simp only [List.length_nil]; omega
      have HL15 : Hid (la.length + O.length ≤ 140737488355328) := hid (by have := HOL.out; have := HL1.out; omega)
      go_wp2_with (first
        | (at_builtin; refine wpList_append_byt rfl (.tmp 74) (.tmp 75) rfl rfl rfl (fresh0_own w13) (HV1.out _ (hB13.alloc hB13.size _)) hl14 (al_le w13 _) ?_; intro v14 w14 ho14 hg14 hv14; simp only [List.nil_append] at ho14; have hb14 := fresh0_below hg14; clear hg14 hv14)
        | (at_builtin; refine wpList_append_byt rfl (.tmp 76) (.tmp 77) rfl rfl rfl ho14 (hby13.below hb14) HL15.out hb14.size ?_; intro v15 w15 ho15 hg15 hv15; have hb15 := hb14.grown hg15 hb14.size (fun q hq => (World.ownsRow.lt ho14 q hq).1); clear hg15 hv15))
      have hv15' : Byt w15 (.slice B3 (la.length + ol) c3) (la ++ O) := by have := hv13.below hb15; rw [List.length_append, HOLN.out] at this; exact this
      refine (same_yes (.slice B3 (la.length + ol) c3) _ (la ++ O) w15 hv15' ho15.byt).mono ?_
      rintro e w16 ⟨rfl, k16, hw16⟩
      have hb16 : Below w13.heap.size w13 w16 := by rw [hw16]; exact below_drewN hb15 k16
      clear hw16 ho15 ho14 hb14 hb15
      obtain ⟨m1, m2, hr16⟩ := HLD2.out w16 hb16
      have heqT := HEQ.out
      go_wp2_with fail
      refine (HLF.out w16 hr16).mono ?_
      rintro e w17 ⟨rfl, k17, hw17⟩
      have hb17 : Below w13.heap.size w13 w17 := by rw [hw17]; exact below_drewN hb16 k17
      have hB17 := hB13.trans (hb17.mono hB13.size)
      clear hw17 m1 m2 hr16 heqT
      go_wp2_with fail
      refine (HAW.out w17).mono ?_
      rintro e w18 ⟨rfl, hb18⟩
      have hB18 := hB17.trans (hb18.mono hB17.size)
      go_wp2_with fail
      go_ret
      exact ⟨rfl, hB18⟩
  · have hway : (q = false) ∨ (q = true ∧ 200 < L1) ∨ (q = true ∧ ¬ 200 < L1 ∧ 200 < L2) := by
      cases q
      · exact .inl rfl
      · right
        by_cases h : 200 < L1
        · exact .inl ⟨rfl, h⟩
        · refine .inr ⟨rfl, h, ?_⟩
          simp at hok
          omega
    clear hok l1
    obtain rfl | ⟨rfl, h1⟩ | ⟨rfl, h1, h2⟩ := hway
    · go_wp2_with fail
      refine (HAW.out w1).mono ?_
      rintro e w2 ⟨rfl, hb2⟩
      go_wp2_with fail
      go_ret
      exact ⟨rfl, hB1.trans (hb2.mono hB1.size)⟩
    · have h1i : (200 : Int) < (L1 : Int) := by omega
      go_wp2_with fail
      refine (HAW.out w1).mono ?_
      rintro e w2 ⟨rfl, hb2⟩
      go_wp2_with fail
      go_ret
      exact ⟨rfl, hB1.trans (hb2.mono hB1.size)⟩
    · have h1i : ¬ (200 : Int) < (L1 : Int) := by omega
      have h2i : (200 : Int) < (L2 : Int) := by omega
      go_wp2_with fail
      refine (HAW.out w1).mono ?_
      rintro e w2 ⟨rfl, hb2⟩
      go_wp2_with fail
      go_ret
      exact ⟨rfl, hB1.trans (hb2.mono hB1.size)⟩
end Go.Proofs.YtefngncieagobaaDoor

/-
  What tx.Check and tx.Id tell.
-/
namespace Go.Proofs.YtefngncieagobaaDoor
open Go.RowKit
attribute [local go_sem ↓] exec_load_tx

theorem txCheck_ok : TxCheckOk := fun t w h => txCheck_any t w (by have := h.1; omega) (by have := h.2; omega)

set_option maxHeartbeats 3200000 in
theorem txId_ok : TxIdOk := by
  intro t w ht hK
  obtain ⟨m, HM⟩ : ∃ m : Bool, Hid (mayT t = m) := ⟨_, hid rfl⟩
  have HMA := hid (fun w => txCheck_any t w (by have := ht.1; omega) (by have := ht.2; omega))
  obtain ⟨D, HD⟩ : ∃ D : Nat → Value, Hid ((fun j => bcell (idT t j)) = D) := ⟨_, hid rfl⟩
  have hD1 : ∀ i, i < 32 → (D i).oneCell' = true := by rw [← HD.out]; intro i _; rfl
  have HDI : ∀ b : Bool, Hid (mayT t = b) → Hid (D = fun j => if b = true then bcell (sumS (bytesT t) j) else bcell 0) := fun b hb => hid (by
    rw [← HD.out]
    unfold idT
    rw [hb.out]
    cases b <;> rfl)
  have HDM := HDI m HM
  clear HDI
  rw [HD.out]
  obtain ⟨C, hC, hCs, hCe⟩ := tx_agg t
  have hr0 := heap1 w (.cells C 23) (.cells (fcells 32 fun _ => bcell 0) 31)
  have hH0 : Blk ((w.alloc (.cells C 23)).alloc (.cells (fcells 32 fun _ => bcell 0) 31)) (w.heap.size + 1) 32 (fun _ => bcell 0) 31 := heap2 w (.cells C 23) _
  have hb0 : Below w.heap.size w ((w.alloc (.cells C 23)).alloc (.cells (fcells 32 fun _ => bcell 0) 31)) := ((Below.refl _ _).alloc (Nat.le_refl _) _).alloc (by simp) _
  have HKB := hid (fun W (h : Below w.heap.size w W) => (show Kst 1 W from hK.below h))
  have HBY := hid (fun w (h : mayT t = true) => txown_any t w h)
  rw [hCe] at hr0 hH0 hb0
  unfold txv
  clear hC hK ht hCe
  go_enter Tryd.func9, Tryd.ntmps9
  go_upto_region 1 with (refine wpList_alloc_arr arrH rfl rfl ?_)
  generalize ((w.alloc (.cells #[.int .i64 t.fr, .int .i64 t.no, .int .i64 t.ki, .int .i64 t.to, .int .i64 t.am, .string (sb t.key), .string (sb t.val)] 23)).alloc (.cells (fcells 32 fun _ => bcell 0) 31)) = w0 at *
  have hl0 := lt_of_block hr0
  have hld : ∀ W : World, Below w0.heap.size w0 W → loadTx (.pointer (some ⟨w.heap.size, 0, none⟩)) W = .ok (.value (.agg #[.int .i64 t.fr, .int .i64 t.no, .int .i64 t.ki, .int .i64 t.to, .int .i64 t.am, .string (sb t.key), .string (sb t.val)])) W := fun W h => loadTx_eq ((h.block _ hl0).trans hr0) rfl
  have HLD := hid hld
  have l0 := hld w0 (Below.refl _ _)
  clear hld
  go_wp2_with fail
  refine (HMA.out w0).mono ?_
  rintro e w1 ⟨rfl, hb1⟩
  rw [HM.out]
  have hH1 := hH0.keep hb1
  have hB1 := hb0.trans (hb1.mono hb0.size)
  have l1 := HLD.out w1 hb1
  clear hr0 hl0 l0 hH0
  cases m with
  | false =>
    clear l1
    go_wp2_with (first
      | (refine wpList_zero_arr arrH rfl rfl ?_)
      | (refine wpList_store_arr arrH rfl _ _ rfl rfl rfl hH1 (fun _ _ => rfl) ?_; intro wA hgA hAA hsA))
    refine bodyPost_ret (arrH.result rfl _ _ rfl hAA) rfl ⟨by rw [HDM.out]; rfl, ?_⟩
    exact below_into hB1 (Nat.le_succ _) hgA hB1.size
  | true =>
    go_wp2_with fail
    refine (HBY.out w1 HM.out).mono ?_
    rintro e w2 ⟨x, rfl, ho2, hb2⟩
    have hH2 := hH1.keep hb2
    have hB2 := hB1.trans (hb2.mono hB1.size)
    have hlen : (bytesT t).length ≤ 1000000 := Nat.le_trans (bytesT_len HM.out) (by decide)
    clear l1 hH1
    have hx2 := ho2.byt
    obtain ⟨A2, c2, rfl⟩ := hx2.shape
    have hbA : Below w2.heap.size w2 (w2.alloc (.cells #[.slice A2 (bytesT t).length c2] 24)) := (Below.refl _ _).alloc (Nat.le_refl _) _
    have hB2A := hB2.trans (hbA.mono hB2.size)
    have hH2A := hH2.keep hbA
    go_wp2_with fail
    refine (of_one (.slice A2 (bytesT t).length c2) (bytesT t) w2.heap.size _ (w2.alloc (.cells #[.slice A2 (bytesT t).length c2] 24)) (by simp) (by simp) (hx2.alloc _) hlen (HKB.out _ hB2A)).mono ?_
    rintro e w3 ⟨rfl, hb3⟩
    have hH3 := hH2A.keep hb3
    have hB3 := hB2A.trans (hb3.mono hB2A.size)
    clear hH2 ho2 hH2A hx2
    go_wp2_with (refine wpList_store_arr arrH rfl _ _ rfl rfl rfl hH3 (fun _ _ => rfl) ?_; intro wA hgA hAA hsA)
    refine bodyPost_ret (arrH.result rfl _ _ rfl hAA) rfl ⟨by rw [HDM.out]; rfl, ?_⟩
    exact below_into hB3 (Nat.le_succ _) hgA hB3.size
end Go.Proofs.YtefngncieagobaaDoor

/-
  A slice of bytes that came in reads as bytes.
-/
namespace Go.Proofs.YtefngncieagobaaDoor
open Go.ChangeShapes Go.WideShapes Go.ChangeAt Go.RowKit

theorem ownKnob_none : ownKnob Tryd.prog.godebug = none := by kernel_rfl
theorem laidOut : laidOutB Tryd.prog = true := by kernel_rfl

/-- What is known of a slice of integers that came in. -/
def IsRow (k : IntKind) (w : World) (a : Option Addr) (len cap : Nat) (zs : List Int) : Prop :=
  (a = none ∧ len = 0 ∧ cap = 0 ∧ zs = []) ∨
  ∃ x, a = some x ∧ len ≤ cap ∧ cap ≤ maxLen ∧ zs.length = cap ∧ (∀ i, i < zs.length → w.cell? (x.add i) = some (.int k (zs.getD i 0))) ∧ ∀ n ∈ zs, (Lit.int k n).wf = true

theorem row_byt {w : World} {a : Option Addr} {len cap : Nat} {zs : List Int} (h : IsRow .u8 w a len cap zs) : ∃ l : List UInt8, l.length = len ∧ Byt w (.slice a len cap) l := by
  rcases h with ⟨rfl, rfl, rfl, rfl⟩ | ⟨x, rfl, hl, hm, hz, hcell, hwz⟩
  · exact ⟨[], rfl, Byt.nil w⟩
  · have hlen : ((zs.take len).map fun n => UInt8.ofNat n.toNat).length = len := by simp; omega
    refine ⟨(zs.take len).map fun n => UInt8.ofNat n.toNat, hlen, some x, cap, by rw [hlen], by omega, hm, fun h0 => ?_⟩
    rw [hlen] at h0
    obtain ⟨b, off, spot⟩ := x
    have hc := hcell 0 (by omega)
    have hspot : spot = none := by simpa [Addr.add] using World.cell?_spot hc
    subst hspot
    refine ⟨b, off, rfl, ?_, fun j hj => ?_⟩
    · have := World.block_lt_of_cell? w _ hc
      rw [addr_add] at this
      exact this
    · rw [hlen] at hj
      have hjz : j < zs.length := by omega
      have := hcell j hjz
      rw [addr_add] at this
      rw [this]
      have hw := hwz zs[j] (List.getElem_mem hjz)
      have hr : 0 ≤ zs[j] ∧ zs[j] ≤ 255 := by simpa [Lit.wf, IntKind.min, IntKind.max, IntKind.signed, IntKind.bits] using hw
      have e : zs.getD j 0 = zs[j] := by simp [hjz]
      rw [e]
      unfold bcell
      congr 2
      simp only [List.getElem_map, List.getElem_take]
      rw [UInt8.toNat_ofNat']
      omega
end Go.Proofs.YtefngncieagobaaDoor

/-
  A transaction, as it came in by value.
-/
namespace Go.Proofs.YtefngncieagobaaDoor
open Go.ChangeShapes Go.WideShapes Go.ChangeAt Go.RowKit

theorem fields_tx : ∃ f0 f1 f2 f3 f4 f5 f6 : Field, Tryd.prog.underlying 23 = some (.struct #[f0, f1, f2, f3, f4, f5, f6]) ∧ (f0.type, f0.offset) = (3, 0) ∧ (f1.type, f1.offset) = (3, 1) ∧ (f2.type, f2.offset) = (3, 2)
    ∧ (f3.type, f3.offset) = (3, 3) ∧ (f4.type, f4.offset) = (3, 4) ∧ (f5.type, f5.offset) = (9, 5) ∧ (f6.type, f6.offset) = (9, 6) :=
  ⟨_, _, _, _, _, _, _, Tryd.underlying23, rfl, rfl, rfl, rfl, rfl, rfl, rfl⟩
theorem cell_of_part {cs : List Value} {o : Nat} {v : Value} (e : (cs.drop o).take 1 = [v]) : cs[o]? = some v := by
  have h1 := congrArg (fun l => l[0]?) e
  simp only [List.getElem?_take_of_lt (show 0 < 1 by omega), List.getElem?_drop, Nat.add_zero] at h1
  exact h1

theorem trod_tx {H : Type} {enc : TypeId × Value → H} {w : World} {base : Nat} {spare : Nat → Bool} {held : Bool} {fuel : Nat} {cs : List Value} {x : DataW H × List MemPlace}
    (h : DataW.trod enc Tryd.prog w base spare held fuel 23 cs = some x) : ∃ t : TxM, (t.key.length ≤ maxLen ∧ t.val.length ≤ maxLen) ∧ cs = (#[.int .i64 t.fr, .int .i64 t.no, .int .i64 t.ki, .int .i64 t.to, .int .i64 t.am, .string (sb t.key), .string (sb t.val)] : Array Value).toList := by
  obtain ⟨f0, f1, f2, f3, f4, f5, f6, hu, e0, e1, e2, e3, e4, e5, e6⟩ := fields_tx
  injection e0 with t0 o0
  injection e1 with t1 o1
  injection e2 with t2 o2
  injection e3 with t3 o3
  injection e4 with t4 o4
  injection e5 with t5 o5
  injection e6 with t6 o6
  obtain ⟨xs, m, _, _, hlen, hxl, hf⟩ := DataW.trod_struct hu h
  have hc : Tryd.prog.cellsOf 23 = 7 := by kernel_rfl
  have hci : Tryd.prog.cellsOf 3 = 1 := by kernel_rfl
  have hcs : Tryd.prog.cellsOf 9 = 1 := by kernel_rfl
  rw [hc] at hlen
  have hx : xs.length = 7 := hxl
  have g0 := hf 0 f0 rfl
  have g1 := hf 1 f1 rfl
  have g2 := hf 2 f2 rfl
  have g3 := hf 3 f3 rfl
  have g4 := hf 4 f4 rfl
  have g5 := hf 5 f5 rfl
  have g6 := hf 6 f6 rfl
  rw [t0, o0, hci, List.getElem?_eq_getElem (by omega)] at g0
  rw [t1, o1, hci, List.getElem?_eq_getElem (by omega)] at g1
  rw [t2, o2, hci, List.getElem?_eq_getElem (by omega)] at g2
  rw [t3, o3, hci, List.getElem?_eq_getElem (by omega)] at g3
  rw [t4, o4, hci, List.getElem?_eq_getElem (by omega)] at g4
  rw [t5, o5, hcs, List.getElem?_eq_getElem (by omega)] at g5
  rw [t6, o6, hcs, List.getElem?_eq_getElem (by omega)] at g6
  obtain ⟨n0, c0, _, _⟩ := DataW.trod_int Tryd.underlying3 g0
  obtain ⟨n1, c1, _, _⟩ := DataW.trod_int Tryd.underlying3 g1
  obtain ⟨n2, c2, _, _⟩ := DataW.trod_int Tryd.underlying3 g2
  obtain ⟨n3, c3, _, _⟩ := DataW.trod_int Tryd.underlying3 g3
  obtain ⟨n4, c4, _, _⟩ := DataW.trod_int Tryd.underlying3 g4
  obtain ⟨s5, c5, _, h5⟩ := DataW.trod_string Tryd.underlying9 g5
  obtain ⟨s6, c6, _, h6⟩ := DataW.trod_string Tryd.underlying9 g6
  refine ⟨⟨n0, n1, n2, n3, n4, bs s5, bs s6⟩, ⟨by simpa [bs] using h5, by simpa [bs] using h6⟩, ?_⟩
  have d0 := cell_of_part c0
  have d1 := cell_of_part c1
  have d2 := cell_of_part c2
  have d3 := cell_of_part c3
  have d4 := cell_of_part c4
  have d5 := cell_of_part c5
  have d6 := cell_of_part c6
  rw [sb_bs, sb_bs]
  apply List.ext_getElem?
  intro i
  match i with
  | 0 => exact d0
  | 1 => exact d1
  | 2 => exact d2
  | 3 => exact d3
  | 4 => exact d4
  | 5 => exact d5
  | 6 => exact d6
  | i + 7 => rw [List.getElem?_eq_none (by omega)]; rfl
end Go.Proofs.YtefngncieagobaaDoor

/-
  The law of puts, from what tx's functions tell (XTxCode, XTxCodeId).
-/
namespace Go.Proofs.YtefngncieagobaaDoor
open Go.RowKit

theorem lawTxPuts_all (t : TxM) (va : Value) (la : List UInt8) (vm : Value) (lm : List UInt8) (w : World) (ht : t.key.length ≤ maxLen ∧ t.val.length ≤ maxLen) (hva : Byt w va la) (hvm : Byt w vm lm) (hK1 : Kst 1 w) (hK0 : Kst 0 w) :
    Calls Tryd.prog 3 #[txv t, va, vm] w fun e w' => e = .returned (.bool true) ∧ Below w.heap.size w w' := lawTxPuts_any txPut_ok txRead_ok txCheck_ok txId_ok t va la vm lm w hva hvm ht.1 ht.2 hK1 hK0
end Go.Proofs.YtefngncieagobaaDoor

/-
  What the listed variables hold when the call begins: the constants.
-/
namespace Go.Proofs.YtefngncieagobaaDoor
open Go.ChangeShapes Go.WideShapes Go.ChangeAt Go.RowKit

def kz : List Int := kl.map wv
theorem laid_sha : (Rows.laid_tithing_sha_constants : DataW Unit) = Lib.tabData .u32 kz := by kernel_rfl
theorem kz_at {i : Nat} (h : i < 64) : kz.getD i 0 = wv (kc i) := by
  have hl : kl.length = 64 := rfl
  unfold kz kc
  simp [List.getD_eq_getElem?_getD, hl, h]
theorem gSha : Tryd.prog.globalNamed "tithing/sha.constants" = some 1 := by kernel_rfl
theorem tSha : (Tryd.prog.globals[1]?).map (·.type) = some 70 := by kernel_rfl
theorem gRef : Tryd.prog.globalNamed "tithing/tithingref02.constants" = some 0 := by kernel_rfl
theorem tRef : (Tryd.prog.globals[0]?).map (·.type) = some 70 := by kernel_rfl
theorem kst_of {name : String} {g : Nat} {W : World} {rest : List (String × DataW Unit)} (hg : Tryd.prog.globalNamed name = some g) (ht : (Tryd.prog.globals[g]?).map (·.type) = some 70)
    (h : laidMet Tryd.prog ((name, Lib.tabData .u32 kz) :: rest) W) : Kst g W := by
  have hT := Lib.tabIs_of_head hg ht Tryd.underlying70 Tryd.underlying56 (by kernel_rfl) (by kernel_rfl) h
  have hc : ∀ j, j < 64 → W.cell? ⟨g, j, none⟩ = some (.int .u32 (wv (kc j))) := fun j hj => by
    rw [hT.cell hg j (by simp [kz]; exact hj), kz_at hj]
  exact ⟨World.block_lt_of_cell? W _ (hc 0 (by omega)), hc⟩
theorem one_met {W : World} (h : laidMetH Tryd.prog [("tithing/sha.constants", Rows.laid_tithing_sha_constants)] W) : Kst 1 W := by
  rw [MakeChecks.laidMetH_plain _ _ _ (by kernel_rfl), laid_sha] at h
  exact kst_of gSha tSha h
theorem door_one (os : Os) (args : Array Value) : laidMetH Tryd.prog [("tithing/sha.constants", Rows.laid_tithing_sha_constants)] ((World.doorLaid Tryd.prog 400 os).forCall (fun _ _ => 0) ⟨#[], args, []⟩).memory :=
  laidMetH_of_parts3 (fuel := 8) (laidMet_of_run' 8 (by kernel_rfl) (by kernel_rfl)) (by kernel_rfl) (by kernel_rfl)
end Go.Proofs.YtefngncieagobaaDoor

/-
  Arrays that came in by value: what is known of their cells.
-/
namespace Go.Proofs.YtefngncieagobaaDoor
open Go.ChangeShapes Go.WideShapes Go.ChangeAt Go.RowKit

theorem laid_ref : (Rows.laid_tithing_tithingref02_constants : DataW Unit) = Lib.tabData .u32 kz := by kernel_rfl
theorem okWide_arr' {P : Program} {w : World} {r : Reach} {base : Nat} {v : Value} {t e : TypeId} {n : Nat} (ht : P.underlying t = some (.array n e)) (h : Value.okWide P w r base t v) : ∃ cs, v = .agg cs ∧ cs.size = P.cellsOf t := by
  cases v <;> simp [Value.okWide, ht] at h
  exact ⟨_, rfl, h.1⟩

theorem open_arr {H : Type} {enc : TypeId × Value → H} {w : World} {base : Nat} {spare : Nat → Bool} {held : Bool} {fuel : Nat} {t e : TypeId} {n : Nat} {k : IntKind} {cs : List Value} {x : DataW H × List MemPlace}
    (ht : Tryd.prog.underlying t = some (.array n e)) (he : Tryd.prog.underlying e = some (.int k)) (hce : Tryd.prog.cellsOf e = 1) (hct : Tryd.prog.cellsOf t = n)
    (h : DataW.trod enc Tryd.prog w base spare held fuel t cs = some x) : cs.length = n ∧ ∀ i, i < n → ∃ z, cs[i]? = some (.int k z) ∧ (Lit.int k z).wf = true := by
  obtain ⟨xs, m, _, _, hl, hn, hel⟩ := DataW.trod_array ht h
  rw [hct] at hl
  refine ⟨hl, fun i hi => ?_⟩
  have h1 := hel i hi
  rw [hce, Nat.mul_one, List.getElem?_eq_getElem (by omega : i < xs.length)] at h1
  obtain ⟨z, e1, e2, e3⟩ := DataW.trod_int he h1
  refine ⟨z, ?_, ?_⟩
  · have hi2 : i < cs.length := by omega
    have : (cs.drop i).take 1 = [cs[i]] := by
      rw [List.drop_eq_getElem_cons hi2]
      rfl
    rw [this] at e1
    rw [List.getElem?_eq_getElem hi2]
    injection e1 with e1 _
    rw [e1]
  · exact e3

def zof : Option Value → Nat
  | some (.int _ z) => z.toNat
  | _ => 0
theorem bytes_of {cs : List Value} {n : Nat} (hl : cs.length = n) (h : ∀ i, i < n → ∃ z, cs[i]? = some (.int .u8 z) ∧ (Lit.int .u8 z).wf = true) : ∃ f : Nat → UInt8, cs = (fcells n fun j => bcell (f j)).toList := by
  refine ⟨fun i => UInt8.ofNat (zof cs[i]?), ?_⟩
  apply List.ext_getElem?
  intro i
  rw [fcells_list]
  by_cases hi : i < n
  · obtain ⟨z, e, hw⟩ := h i hi
    have hr : 0 ≤ z ∧ z ≤ 255 := by simpa [Lit.wf, IntKind.min, IntKind.max, IntKind.signed, IntKind.bits] using hw
    rw [if_pos hi, e]
    have ez : zof cs[i]? = z.toNat := by rw [e]; rfl
    show some (Value.int .u8 z) = some (.int .u8 ((UInt8.ofNat (zof cs[i]?)).toNat : Int))
    rw [ez, UInt8.toNat_ofNat', show ((z.toNat % 2 ^ 8 : Nat) : Int) = z from by omega]
  · rw [if_neg hi, List.getElem?_eq_none (by omega)]
theorem words_of {cs : List Value} {n : Nat} (hl : cs.length = n) (h : ∀ i, i < n → ∃ z, cs[i]? = some (.int .u32 z) ∧ (Lit.int .u32 z).wf = true) : ∃ f : Nat → UInt32, cs = (fcells n fun j => wc (f j)).toList := by
  refine ⟨fun i => UInt32.ofNat (zof cs[i]?), ?_⟩
  apply List.ext_getElem?
  intro i
  rw [fcells_list]
  by_cases hi : i < n
  · obtain ⟨z, e, hw⟩ := h i hi
    have hr : 0 ≤ z ∧ z ≤ 4294967295 := by simpa [Lit.wf, IntKind.min, IntKind.max, IntKind.signed, IntKind.bits] using hw
    rw [if_pos hi, e]
    have ez : zof cs[i]? = z.toNat := by rw [e]; rfl
    show some (Value.int .u32 z) = some (.int .u32 (wv (UInt32.ofNat (zof cs[i]?))))
    rw [ez, wv_of _ (by omega), show ((z.toNat : Nat) : Int) = z from by omega]
  · rw [if_neg hi, List.getElem?_eq_none (by omega)]
theorem laid_tail {P : Program} {x : String × DataW Unit} {r : List (String × DataW Unit)} {w : World} (h : laidMet P (x :: r) w) : laidMet P r w := laidMet.tail h
theorem two_met {W : World} (h : laidMetH Tryd.prog [("tithing/sha.constants", Rows.laid_tithing_sha_constants), ("tithing/tithingref02.constants", Rows.laid_tithing_tithingref02_constants)] W) : Kst 1 W ∧ Kst 0 W := by
  rw [MakeChecks.laidMetH_plain _ _ _ (by kernel_rfl), laid_sha, laid_ref] at h
  exact ⟨kst_of gSha tSha h, kst_of gRef tRef (laid_tail h)⟩
theorem door_two (os : Os) (args : Array Value) : laidMetH Tryd.prog [("tithing/sha.constants", Rows.laid_tithing_sha_constants), ("tithing/tithingref02.constants", Rows.laid_tithing_tithingref02_constants)] ((World.doorLaid Tryd.prog 400 os).forCall (fun _ _ => 0) ⟨#[], args, []⟩).memory :=
  laidMetH_of_parts3 (fuel := 8) (laidMet_of_run' 8 (by kernel_rfl) (by kernel_rfl)) (by kernel_rfl) (by kernel_rfl)
end Go.Proofs.YtefngncieagobaaDoor
