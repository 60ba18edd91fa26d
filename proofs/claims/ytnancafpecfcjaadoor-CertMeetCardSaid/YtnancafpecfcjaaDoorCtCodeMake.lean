/-
  cert.Make: the certificate of attestations.
-/
import Derived.Test.YtnancafpecfcjaaDoorCtCodeWith
import Derived.Test.YtnancafpecfcjaaDoorCtCodeFirst
import Derived.Test.YtnancafpecfcjaaDoorCtMk
import Derived.Test.YtnancafpecfcjaaDoorBs7
import Derived.Test.YtnancafpecfcjaaDoorBs4
import Derived.Test.YtnancafpecfcjaaDoorBs6
import Derived.LoopTactic
import Derived.Outline
import Derived.Deep.QuietTactic
import Derived.BigQuiet
import Derived.Deep.DeepCutAuto
namespace Go.Proofs.YtnancafpecfcjaaDoor
set_option maxRecDepth 20000
open Go.RowKit

/-- A certificate of an attestation and signatures, built whole. -/
noncomputable def buildCt2 (u v : Value) (w : World) : Result Next := Sem.run Tryd.prog (execOp (fun x => match x with
  | .tmp 0 => u
  | _ => v) { dst := none, op := .build 30 #[(0, .tmp 0), (1, .tmp 1)], type := 0, pos := "", after := #[], guard := none }) w
theorem exec_build_ct2 (r : Operand → Value) (x y : Operand) (dst : Option Tmp) (ty : TypeId) (pos : String) (after : Array Edge) (guard : Option (Nat × Bool)) (w : World) :
    Sem.run Tryd.prog (execOp r { dst := dst, op := .build 30 #[(0, x), (1, y)], type := ty, pos := pos, after := after, guard := guard }) w = buildCt2 (r x) (r y) w := by
  unfold buildCt2 execOp
  simp
theorem buildCt2_eq (a : AtM) (ho : a.Ok) (A : Option Addr) (n c : Nat) (w : World) : buildCt2 (.agg (atc a)) (.slice A n c) w = .ok (.value (.agg (ctc ⟨a, []⟩ (.slice A n c)))) w := by
  have hsz : (atc a).size = 101 := atc_size ho
  have e0 : (atc a).zipIdx = ((atl a).zipIdx).toArray := by unfold atc; simp
  unfold buildCt2
  go_simp
  have e := putAt_mid (atl a) [] (atl atZ) [.slice none 0 0] (by rw [atl_length ho, atl_length atZ_ok])
  simp only [List.nil_append, List.length_nil] at e
  rw [← fold_putSg] at e
  have e' : List.foldl (fun (cs : Array Value) (x : Value × Nat) => cs.setIfInBounds x.2 x.1) Tryd.zeroCells30 (atl a).zipIdx = (atl a ++ [Value.slice none 0 0]).toArray := e
  rw [e', if_neg (by simp [atl_length ho])]
  simp only [Sem.run_pure, Result.andThen_ok]
  unfold ctc
  rw [List.setIfInBounds_toArray, List.set_append_right _ _ (by rw [atl_length ho]; omega), atl_length ho]
  rfl
theorem ctAtt_var (w : World) {Z S : Array Value} (hZ : Z.size = 101) (hS : S.size = 101) (h1 : S.all (·.oneCell') = true) :
    storeAtt (.pointer (some ⟨w.heap.size, 0, none⟩)) (.agg S) (w.alloc (.cells Z 27)) = .ok .skip (w.alloc (.cells S 27)) := by
  rw [storeAtt_eq (heap_alloc_new w _) hZ hS h1]
  exact congrArg (fun W => Result.ok Next.skip W) (setCt_alloc w _ Z S)
theorem sigsC_cap {l : List AtM} {q N : Nat} (h : ∀ a ∈ l, a.bo ≤ (N : Int)) : ∀ m, N ≤ m → sigsC l q m = sigsC l q N := by
  intro m hm
  induction m with
  | zero => rw [show N = 0 from by omega]
  | succ m ih =>
    by_cases e : N = m + 1
    · rw [e]
    · rw [sigsC_lack (fun j hj => by have := h _ (List.getElem_mem hj); omega)]
      exact ih (by omega)
attribute [local go_sem ↓] exec_load_att exec_alloc_att exec_store_att exec_alloc_ct exec_store_ct exec_build_ct exec_build_ct2 exec_build_sg

set_option maxHeartbeats 12800000 in
theorem ctMake_any (n : Int) (v : Value) (l : List AtM) (w : World) (hwn : (Lit.int .i64 n).wf = true) (hv : Els atl 101 w v l) (hok : ∀ a ∈ l, a.Ok) (hlen : l.length ≤ 1000) (hK : Kst 0 w) :
    Calls Tryd.prog 8 #[.int .i64 n, v] w (MkPost n l w) := by
  have HFS := hid (fun q W (h : Below w.heap.size w W) hq => ctFirst_any v l q W (hv.below h) hok hlen hq)
  obtain ⟨A, kk, rfl⟩ := hv.shape
  obtain ⟨L, HL⟩ : ∃ n : Nat, Hid (l.length = n) := ⟨_, hid rfl⟩
  obtain ⟨q, HQ⟩ : ∃ q : Nat, Hid (quoS n = q) := ⟨_, hid rfl⟩
  rw [HL.out] at hv hlen HFS ⊢
  have HV := hid hv
  have HOK := hid hok
  have HKB := hid (fun W (h : Below w.heap.size w W) => (show Kst 0 W from hK.below h))
  have HQU : Hid (∀ W, Calls Tryd.prog 24 #[.int .i64 n] W fun e w' => e = .returned (.int .i64 (q : Int)) ∧ W = w') := hid (fun W => by
    have := quorum_any n W hwn
    rw [HQ.out] at this
    exact this)
  have HRT : Hid (∀ a ∈ l, ∀ W, Below w.heap.size w W → Calls Tryd.prog 25 #[.agg (atc a)] W fun e w' => e = .returned (.bool (rightA a)) ∧ Below W.heap.size W w') := hid (fun a ha W h => atRight_ok a W (HOK.out a ha) (HKB.out W h))
  have HAL : Hid (∀ a ∈ l, ∀ b ∈ l, ∀ W, Calls Tryd.prog 26 #[.agg (atc a), .agg (atc b)] W fun e w' => e = .returned (.bool (alikeA a b)) ∧ Below W.heap.size W w') := hid (fun a ha b hb W => atAlike_ok a b W (HOK.out a ha) (HOK.out b hb))
  obtain ⟨Z, HZ⟩ : ∃ C : Array Value, Hid (ctc ctZ (.slice none 0 0) = C) := ⟨_, hid rfl⟩
  obtain ⟨ZA, HZA⟩ : ∃ C : Array Value, Hid (atc atZ = C) := ⟨_, hid rfl⟩
  have hbz : ∀ W, buildCt W = .ok (.value (.agg Z)) W := fun W => by rw [← HZ.out]; exact buildCt_eq W
  have hal : ∀ W, allocCt W = .ok (.value (.pointer (some ⟨W.heap.size, 0, none⟩))) (W.alloc (.cells Z 30)) := fun W => by rw [← HZ.out]; exact allocCt_eq W
  have HALA : Hid (∀ W, allocAtt W = .ok (.value (.pointer (some ⟨W.heap.size, 0, none⟩))) (W.alloc (.cells ZA 27))) := hid (fun W => by rw [← HZA.out]; exact allocAtt_eq W)
  have HSZA : Hid (ZA.size = 101) := hid (by rw [← HZA.out]; exact atc_size atZ_ok)
  have HSZ : Hid (Z.size = 102) := hid (by rw [← HZ.out]; exact ctc_size _ atZ_ok)
  have HZ1 : Hid (Z.all (·.oneCell') = true) := hid (by rw [← HZ.out]; exact ctc_one (w := w) (c := ctZ) (Els.nil w))
  have hb0 : Below w.heap.size w (w.alloc (.cells Z 30)) := (Below.refl _ _).alloc (Nat.le_refl _) _
  have hr0 := heap_alloc_new w (.cells Z 30)
  have HZF : Hid (∀ W : World, W.heap[w.heap.size]? = some (.cells Z 30 (0, 0)) → storeCt (.pointer (some ⟨w.heap.size, 0, none⟩)) (.agg Z) W = .ok .skip W) := hid (fun W h => by rw [storeCt_eq h HSZ.out HSZ.out HZ1.out, setCt_self h])
  clear hv hok hK hwn
  go_enter Tryd.func8, Tryd.ntmps8
  go_upto_region 1 with (fail)
  generalize (w.alloc (.cells Z 30)) = w0 at *
  have HR0 := hid hr0
  have HB0 := hid hb0
  have hz0 := HZF.out w0 hr0
  clear hr0 hb0 hal
  go_wp2_with fail
  refine (HQU.out w0).mono ?_
  rintro e w1 ⟨rfl, rfl⟩
  by_cases hq : q = 0
  · subst hq
    have HM := hid (makeC_arg (l := l) (.inl HQ.out))
    go_wp2_with fail
    refine bodyPost_ret (results_cb rfl _ _ _ _ _ _ rfl rfl HR0.out HSZ.out) rfl ?_
    rw [← HZ.out]
    exact mkPost_no HM.out HB0.out
  have hq1 : ((q : Int) == 0) = false := by simpa using hq
  by_cases hL : L = 0
  · subst hL
    have HM := hid (makeC_arg (n := n) (l := l) (.inr (List.eq_nil_of_length_eq_zero HL.out)))
    go_wp2_with fail
    refine bodyPost_ret (results_cb rfl _ _ _ _ _ _ rfl rfl HR0.out HSZ.out) rfl ?_
    rw [← HZ.out]
    exact mkPost_no HM.out HB0.out
  have hL1 : ((L : Int) == 0) = false := by simpa using hL
  have HLP : Hid (0 < l.length) := hid (by rw [HL.out]; omega)
  have HQN : Hid (quoS n ≠ 0) := hid (by rw [HQ.out]; exact hq)
  obtain ⟨g, og, rfl, hg, hcl⟩ := HV.out.at_.2.2.2 HLP.out
  have HE : Hid (∀ j (h : j < l.length) W, Below w.heap.size w W → loadAtt (.pointer (some ⟨g, og + j * 101, none⟩)) W = .ok (.value (.agg (atc l[j]))) W) := hid (fun j h W hb => loadAtt_in (range_kept (hcl j h) (hb.block g hg)) (HOK.out _ (List.getElem_mem h)))
  obtain ⟨a0, HA0⟩ : ∃ a : AtM, Hid (l[0]'HLP.out = a) := ⟨_, hid rfl⟩
  have HM0 : Hid (a0 ∈ l) := hid (by rw [← HA0.out]; exact List.getElem_mem _)
  have HCO : Hid (l = a0 :: l.tail) := hid (by
    have := HA0.out
    have hp := HLP.out
    cases hl : l with
    | nil => rw [hl] at hp; simp at hp
    | cons a r => subst hl; simp only [List.getElem_cons_zero] at this; rw [this]; rfl)
  have HO0 := hid (HOK.out a0 HM0.out)
  obtain ⟨X0, HX0⟩ : ∃ C : Array Value, Hid (atc a0 = C) := ⟨_, hid rfl⟩
  have HE0 : Hid (∀ W, Below w.heap.size w W → loadAtt (.pointer (some ⟨g, og, none⟩)) W = .ok (.value (.agg X0)) W) := hid (fun W h => by
    have h2 := HE.out 0 HLP.out W h
    rw [HA0.out, Nat.zero_mul, Nat.add_zero, HX0.out] at h2
    exact h2)
  clear hcl hg HV
  go_wp2_with fail
  clear hz0 hq1 hL1
  go_loopw [24] (fun si wr => ∃ i : Nat, i ≤ L ∧ si = .int .i64 i ∧ Hid (∀ j (h : j < l.length), j < i → (rightA l[j] && decide (l[j].bo ≤ n)) = true) ∧ Below w0.heap.size w0 wr) (fun si _ => L - (intOf si).toNat)
  case atStart => exact ⟨0, Nat.zero_le _, rfl, hid (fun j _ h => absurd h (by omega)), Below.refl _ _⟩
  case round =>
    obtain ⟨i, hi, rfl, HD, hbr⟩ := hrel
    have HBR := hid (HB0.out.trans (hbr.mono HB0.out.size))
    have HRR := hid ((hbr.block _ (lt_of_block HR0.out)).trans HR0.out)
    by_cases hlt : i < L
    · have hil : i < l.length := by rw [HL.out]; exact hlt
      have hI : (i : Int) < (L : Int) := by omega
      have hM := List.getElem_mem hil
      obtain ⟨X, HX⟩ : ∃ C : Array Value, Hid (atc l[i] = C) := ⟨_, hid rfl⟩
      obtain ⟨m, HMM⟩ : ∃ m : Bool, Hid (rightA l[i] = m) := ⟨_, hid rfl⟩
      obtain ⟨bo, HBO⟩ : ∃ b : Int, Hid (l[i].bo = b) := ⟨_, hid rfl⟩
      have HR2 : Hid (∀ W, Below w.heap.size w W → Calls Tryd.prog 25 #[.agg X] W fun e w' => e = .returned (.bool m) ∧ Below W.heap.size W w') := hid (fun W h => by
        have := HRT.out _ hM W h
        rw [HX.out, HMM.out] at this
        exact this)
      have HXS : Hid (X.size = 101 ∧ X.all (·.oneCell') = true) := hid (by rw [← HX.out]; exact ⟨atc_size (HOK.out _ hM), atc_one _⟩)
      have HC0 : Hid (∀ (W : World) (g : Nat), W.heap[g]? = some (.cells X 27 (0, 0)) → W.cell? ⟨g, 0, none⟩ = some (.int .i64 bo) ∧ loadAtt (.pointer (some ⟨g, 0, none⟩)) W = .ok (.value (.agg X)) W) := hid (fun W g h => by
        refine ⟨?_, loadAtt_row h HXS.out.1⟩
        rw [← HX.out] at h
        rw [← HBO.out]
        exact BoxA.cell (a := l[i]) h 0)
      have HYES : Hid (bo ≤ n → m = true → ∀ j (h : j < l.length), j < i + 1 → (rightA l[j] && decide (l[j].bo ≤ n)) = true) := hid (fun h1 h2 j h hj => by
        by_cases hji : j < i
        · exact HD.out j h hji
        · obtain rfl : j = i := by omega
          rw [HMM.out, HBO.out, h2, decide_eq_true h1]
          rfl)
      have HNO : Hid (n < bo ∨ m = false → makeC n l = (ctZ, 7)) := hid (fun h => makeC_tag HQN.out HCO.out (by
        rw [List.all_eq_false]
        refine ⟨_, hM, ?_⟩
        rw [HMM.out, HBO.out]
        rcases h with h | h
        · rw [decide_eq_false (by omega), Bool.and_false]
          decide
        · rw [h, Bool.false_and]
          decide))
      have l1 := HE.out i hil wr HBR.out
      rw [HX.out] at l1
      have hst := ctAtt_var wr HSZA.out HXS.out.1 HXS.out.2
      have hal1 := HALA.out wr
      clear hM
      go_upto_region 7 with (fail)
      have hr1 := heap_alloc_new wr (.cells X 27)
      have hba : Below wr.heap.size wr (wr.alloc (.cells X 27)) := (Below.refl _ _).alloc (Nat.le_refl _) _
      have hb1 := hbr.trans (hba.mono hbr.size)
      obtain ⟨c1, l2⟩ := HC0.out _ _ hr1
      have HR1 := hid ((hba.block _ (lt_of_block HRR.out)).trans HRR.out)
      clear l1 hst hr1 hal1 hba
      generalize (wr.alloc (.cells X 27)) = w1 at *
      have HB1 := hid (HB0.out.trans (hb1.mono HB0.out.size))
      by_cases h1 : n < bo
      · have HM := hid (HNO.out (.inl h1))
        have hz1 := HZF.out w1 HR1.out
        clear l2
        go_wp2_with fail
        refine bodyPost_ret (results_cb rfl _ _ _ _ _ _ rfl rfl HR1.out HSZ.out) rfl ?_
        rw [← HZ.out]
        exact mkPost_no HM.out HB1.out
      · have HH1 := hid (show bo ≤ n by omega)
        go_wp2_with fail
        refine (HR2.out w1 HB1.out).mono ?_
        rintro e w2 ⟨rfl, hb2⟩
        have HB2 := hid (HB1.out.trans (hb2.mono HB1.out.size))
        have HB20 := hid (hb1.trans (hb2.mono hb1.size))
        have HR22 := hid ((hb2.block _ (lt_of_block HR1.out)).trans HR1.out)
        clear l2 c1 hb2 hb1
        cases m with
        | false =>
          have HM := hid (HNO.out (.inr rfl))
          have hz2 := HZF.out w2 HR22.out
          go_wp2_with fail
          refine bodyPost_ret (results_cb rfl _ _ _ _ _ _ rfl rfl HR22.out HSZ.out) rfl ?_
          rw [← HZ.out]
          exact mkPost_no HM.out HB2.out
        | true =>
          have HM2 := hid (HYES.out HH1.out rfl)
          clear HYES HNO
          go_wp2_with fail
          go_roundw
          case rel => exact ⟨i + 1, by omega, by go_num, hid HM2.out, HB20.out⟩
          case measure => simp [intOf]; omega
    · have HIL := hid (show i = L by omega)
      have hI : ¬ (i : Int) < (L : Int) := by omega
      have HALL : Hid ((l.all fun a => rightA a && decide (a.bo ≤ n)) = true) := hid (by
        rw [List.all_eq_true]
        intro a ha
        obtain ⟨j, hj, rfl⟩ := List.getElem_of_mem ha
        exact HD.out j hj (by have := HL.out; have := HIL.out; omega))
      clear HD hlt
      go_wp2_with fail
      clear hI
      go_loopw [41] (fun si wr => ∃ i : Nat, i ≤ L ∧ si = .int .i64 i ∧ Hid (∀ j (h : j < l.length), j < i → alikeA l[j] a0 = true) ∧ Below w0.heap.size w0 wr) (fun si _ => L - (intOf si).toNat)
      case atStart => exact ⟨0, Nat.zero_le _, rfl, hid (fun j _ h => absurd h (by omega)), hbr⟩
      case round =>
        clear hbr HBR HRR HIL
        obtain ⟨i, hi, rfl, HD, hbr⟩ := hrel
        have HBR := hid (HB0.out.trans (hbr.mono HB0.out.size))
        have HRR := hid ((hbr.block _ (lt_of_block HR0.out)).trans HR0.out)
        by_cases hlt : i < L
        · have hil : i < l.length := by rw [HL.out]; exact hlt
          have hI : (i : Int) < (L : Int) := by omega
          have hM := List.getElem_mem hil
          obtain ⟨X, HX⟩ : ∃ C : Array Value, Hid (atc l[i] = C) := ⟨_, hid rfl⟩
          obtain ⟨m, HMM⟩ : ∃ m : Bool, Hid (alikeA l[i] a0 = m) := ⟨_, hid rfl⟩
          have HA3 : Hid (∀ W, Calls Tryd.prog 26 #[.agg X, .agg X0] W fun e w' => e = .returned (.bool m) ∧ Below W.heap.size W w') := hid (fun W => by
            have := HAL.out _ hM _ HM0.out W
            rw [HX.out, HX0.out, HMM.out] at this
            exact this)
          have HXS : Hid (X.size = 101 ∧ X.all (·.oneCell') = true) := hid (by rw [← HX.out]; exact ⟨atc_size (HOK.out _ hM), atc_one _⟩)
          have HYES : Hid (m = true → ∀ j (h : j < l.length), j < i + 1 → alikeA l[j] a0 = true) := hid (fun h2 j h hj => by
            by_cases hji : j < i
            · exact HD.out j h hji
            · obtain rfl : j = i := by omega
              rw [HMM.out, h2])
          have HNO : Hid (m = false → makeC n l = (ctZ, 1)) := hid (fun h => makeC_alike HQN.out HCO.out HALL.out (by
            rw [List.all_eq_false]
            exact ⟨_, hM, by rw [HMM.out, h]; decide⟩))
          have l1 := HE.out i hil wr HBR.out
          rw [HX.out] at l1
          have hst := ctAtt_var wr HSZA.out HXS.out.1 HXS.out.2
          have hal1 := HALA.out wr
          clear hM
          go_upto_region 13 with (fail)
          have hr1 := heap_alloc_new wr (.cells X 27)
          have hba : Below wr.heap.size wr (wr.alloc (.cells X 27)) := (Below.refl _ _).alloc (Nat.le_refl _) _
          have hb1 := hbr.trans (hba.mono hbr.size)
          have HR1 := hid ((hba.block _ (lt_of_block HRR.out)).trans HRR.out)
          obtain ⟨vb, HVB⟩ : ∃ k : Nat, Hid (wr.heap.size = k) := ⟨_, hid rfl⟩
          rw [HVB.out] at hr1 ⊢
          clear l1 hst hal1 hba
          generalize (wr.alloc (.cells X 27)) = w1 at *
          have HB1 := hid (HB0.out.trans (hb1.mono HB0.out.size))
          have HX1 : Hid (∀ W, Below w1.heap.size w1 W → loadAtt (.pointer (some ⟨vb, 0, none⟩)) W = .ok (.value (.agg X)) W ∧ loadAtt (.pointer (some ⟨g, og, none⟩)) W = .ok (.value (.agg X0)) W) := hid (fun W h => ⟨loadAtt_row ((h.block _ (lt_of_block hr1)).trans hr1) HXS.out.1, HE0.out W (HB1.out.trans (h.mono HB1.out.size))⟩)
          have h0L : (0 : Int) < (L : Int) := by omega
          have h0N : 0 < L := by omega
          have hbd : Below w1.heap.size w1 w1.drew := (Below.refl _ _).drew
          refine wp_region_held_drew (S := fun W => loadAtt (.pointer (some ⟨vb, 0, none⟩)) W = .ok (.value (.agg X)) W ∧ loadAtt (.pointer (some ⟨g, og, none⟩)) W = .ok (.value (.agg X0)) W) (by kernel_rfl) (HX1.out _ hbd) (fun hHeld => ?_)
          refine' take_on (i := 0) (v := _) rfl (by kernel_rfl) (by kernel_rfl) (by kernel_rfl) (fun _ _ _ h => h) (by rfl) (fun W hW => hW.1) (by assumption) ?_
          try simp only [Act.put, List.setIfInBounds_toArray, List.set_cons_zero, List.set_cons_succ]
          refine' take_on (i := 1) (v := _) rfl (by kernel_rfl) (by kernel_rfl) (by kernel_rfl) (fun _ _ _ h => h) (by rfl) ?_ (by assumption) ?_
          rotate_left
          · (intro W hW; (try dsimp only at hW); go_simp; first | done | with_reducible rfl)
          try simp only [Act.put, List.setIfInBounds_toArray, List.set_cons_zero, List.set_cons_succ]
          refine' take_on (i := 2) (v := _) rfl (by kernel_rfl) (by kernel_rfl) (by kernel_rfl) (fun _ _ _ h => h) (by rfl) ?_ (by assumption) ?_
          rotate_left
          · (intro W hW; (try dsimp only at hW); go_simp; first | done | with_reducible rfl)
          try simp only [Act.put, List.setIfInBounds_toArray, List.set_cons_zero, List.set_cons_succ]
          refine' take_on (i := 3) (v := _) rfl (by kernel_rfl) (by kernel_rfl) (by kernel_rfl) (fun _ _ _ h => h) (by rfl) (fun W hW => hW.2) (by assumption) ?_
          try simp only [Act.put, List.setIfInBounds_toArray, List.set_cons_zero, List.set_cons_succ]
          refine call_on (i := 4) rfl (by kernel_rfl) (by rfl) (fun K hK => ?_)
          go_simp
          refine (HA3.out w1.drew).mono ?_
          rintro e w6 ⟨rfl, hb6'⟩
          have hb6 := hbd.trans hb6'
          refine hK.out _ _ (HX1.out _ hb6) (fun hHeld => ?_)
          clear hK K
          try simp only [Act.put, List.setIfInBounds_toArray, List.set_cons_zero, List.set_cons_succ]
          refine' take_on (i := 5) (v := _) rfl (by kernel_rfl) (by kernel_rfl) (by kernel_rfl) (fun _ _ _ h => h) (by rfl) ?_ (by assumption) ?_
          rotate_left
          · (intro W hW; (try dsimp only at hW); go_simp; first | done | with_reducible rfl)
          try simp only [Act.put, List.setIfInBounds_toArray, List.set_cons_zero, List.set_cons_succ]
          refine wpAnyH_done (by kernel_rfl) ?_ _
          have HB6 := hid (HB1.out.trans (hb6.mono HB1.out.size))
          have HB60 := hid (hb1.trans (hb6.mono hb1.size))
          have HR6 := hid ((hb6.block _ (lt_of_block HR1.out)).trans HR1.out)
          clear hHeld hb6 hb6' hbd hb1 hr1
          cases m with
          | false =>
            have HM := hid (HNO.out rfl)
            have hz6 := HZF.out w6 HR6.out
            go_wp2_with fail
            refine bodyPost_ret (results_cb rfl _ _ _ _ _ _ rfl rfl HR6.out HSZ.out) rfl ?_
            rw [← HZ.out]
            exact mkPost_no HM.out HB6.out
          | true =>
            have HM2 := hid (HYES.out rfl)
            clear HYES HNO
            go_wp2_with fail
            go_roundw
            case rel => exact ⟨i + 1, by omega, by go_num, hid HM2.out, HB60.out⟩
            case measure => simp [intOf]; omega
        · have HIL := hid (show i = L by omega)
          have hI : ¬ (i : Int) < (L : Int) := by omega
          have HAL2 : Hid ((l.all fun a => alikeA a a0) = true) := hid (by
            rw [List.all_eq_true]
            intro a ha
            obtain ⟨j, hj, rfl⟩ := List.getElem_of_mem ha
            exact HD.out j hj (by have := HL.out; have := HIL.out; omega))
          have HQ21 : Hid (q ≤ 21) := hid (by
            have h := quoS_top HQN.out
            rw [← HQ.out]
            unfold quoS
            split <;> omega)
          have HCAP : Hid (sigsC l (quoS n) n.toNat = sigsC l q 21) := hid (by
            have h := quoS_top HQN.out
            rw [HQ.out]
            refine (sigsC_cap (N := n.toNat) (fun a ha => ?_) 21 (by omega)).symm
            have := List.all_eq_true.1 HALL.out a ha
            rw [Bool.and_eq_true, decide_eq_true_eq] at this
            omega)
          clear HD hlt
          go_wp2_with fail
          refine (HFS.out q wr HBR.out HQ21.out).mono ?_
          rintro e w7 ⟨x7, rfl, how, hb7⟩
          clear hI
          have HB7 := hid (HBR.out.trans (hb7.mono HBR.out.size))
          have HR7 := hid ((hb7.block _ (lt_of_block HRR.out)).trans HRR.out)
          have HLT := hid (lt_of_block HRR.out)
          have HSG : Hid (∀ x ∈ sigsC l q 21, x.Ok) := hid (fun x hx => by
            obtain ⟨a, ha, _, e⟩ := sigsC_mem _ _ _ x hx
            show x.tg.length = 32
            rw [← e]
            exact (HOK.out a ha).tg)
          obtain ⟨SL, HSL⟩ : ∃ x : List SgM, Hid (sigsC l q 21 = x) := ⟨_, hid rfl⟩
          rw [HSL.out] at how HSG HCAP
          obtain ⟨SA, SC, rfl⟩ := how.shape
          obtain ⟨sn, HSN⟩ : ∃ x : Nat, Hid (SL.length = x) := ⟨_, hid rfl⟩
          rw [HSN.out] at how ⊢
          have HOW := hid how
          clear how hb7
          by_cases hfew : sn < q
          · have HM := hid (makeC_few HQN.out HCO.out HALL.out HAL2.out (by rw [HCAP.out, HQ.out, HSN.out]; exact hfew))
            have hz7 := HZF.out w7 HR7.out
            have hf2 : (sn : Int) < (q : Int) := by omega
            clear hfew
            go_wp2_with fail
            refine bodyPost_ret (results_cb rfl _ _ _ _ _ _ rfl rfl HR7.out HSZ.out) rfl ?_
            rw [← HZ.out]
            exact mkPost_no HM.out HB7.out
          · have HM := hid (makeC_done HQN.out HCO.out HALL.out HAL2.out (by rw [HCAP.out, HQ.out, HSN.out]; exact hfew))
            have hf2 : ¬ (sn : Int) < (q : Int) := by omega
            obtain ⟨a2, HA2⟩ : ∃ a : AtM, Hid (withC a0 ⟨0, z32⟩ = a) := ⟨_, hid rfl⟩
            have HO2 : Hid a2.Ok := hid (by rw [← HA2.out]; exact withC_ok HO0.out (by show z32.length = 32; simp [z32]))
            have HWI := hid (fun W => ctWith_any a0 sgZ W HO0.out sgZ_ok)
            obtain ⟨S0, HS0⟩ : ∃ C : Array Value, Hid (sgc sgZ = C) := ⟨_, hid rfl⟩
            obtain ⟨X2, HX2⟩ : ∃ C : Array Value, Hid (atc a2 = C) := ⟨_, hid rfl⟩
            rw [show withC a0 sgZ = withC a0 ⟨0, z32⟩ from rfl, HA2.out, HX2.out, HX0.out, HS0.out] at HWI
            obtain ⟨CC, HCC⟩ : ∃ C : Array Value, Hid (ctc ⟨a2, []⟩ (.slice SA sn SC) = C) := ⟨_, hid rfl⟩
            have hbs : ∀ W, buildSg W = .ok (.value (.agg S0)) W := fun W => by rw [← HS0.out]; exact buildSg_eq W
            have hb2 : ∀ W, buildCt2 (.agg X2) (.slice SA sn SC) W = .ok (.value (.agg CC)) W := fun W => by rw [← HX2.out, ← HCC.out]; exact buildCt2_eq a2 HO2.out SA sn SC W
            have HC2S : Hid (CC.size = 102 ∧ CC.all (·.oneCell') = true) := hid (by
              rw [← HCC.out]
              refine ⟨ctc_size (c := ⟨a2, []⟩) _ HO2.out, ?_⟩
              have h := HOW.out.els eltSg HSG.out
              exact ctc_one (c := ⟨a2, SL⟩) h)
            have l7 := HE0.out w7 HB7.out
            have h0L : (0 : Int) < (L : Int) := by omega
            have h0N : 0 < L := by omega
            clear hfew
            go_upto_region 19 with (fail)
            go_wp2_with fail
            refine (HWI.out w7).mono ?_
            rintro e w8 ⟨rfl, hb8⟩
            have hr8 := (hb8.block _ (lt_of_block HR7.out)).trans HR7.out
            have HB8 := hid (HB7.out.trans (hb8.mono HB7.out.size))
            have hsr := storeCt_eq hr8 HSZ.out HC2S.out.1 HC2S.out.2
            have HSS := hid (setCt_same (C := CC) hr8)
            have HOW2 := hid ((HOW.out.below hb8).row (g := w.heap.size) (C := CC) HLT.out)
            have HBF := hid (setCt_below (C := CC) HB8.out (Nat.le_refl w.heap.size))
            clear l7 hb8 hr8 hf2
            go_wp2_with fail
            refine bodyPost_ret (results_cb rfl _ _ _ _ _ _ rfl rfl HSS.out HC2S.out.1) rfl ?_
            rw [← HCC.out] at HOW2 HBF ⊢
            rw [HA2.out, HCAP.out] at HM
            exact mkPost_yes (c := ⟨a2, SL⟩) HM.out ⟨HO2.out, HSG.out⟩ (HOW2.out.els eltSg HSG.out) HBF.out

theorem ctMake_ok : CtMakeOk := fun n v l w hn hv ho hl hK => ctMake_any n v l w hn hv ho hl hK
end Go.Proofs.YtnancafpecfcjaaDoor
