/-
  VaultKeeps: as long as no slot is swapped, what is loaded behind crashes is what was kept last: the law's walk.
-/
import Derived.Deep.CutBlock
import Derived.Test.YticnhdlmkkmjmaaDoorVaAct
import Derived.Test.YticnhdlmkkmjmaaDoorVaAwake
import Derived.Test.YticnhdlmkkmjmaaDoorVaCodeTear
namespace Go.Proofs.YticnhdlmkkmjmaaDoor
set_option maxRecDepth 20000
open Go.RowKit
attribute [local go_sem ↓] exec_load_se exec_alloc_se exec_store_se exec_build_se exec_ne_se exec_eq_se exec_load_ac exec_alloc_ac exec_store_ac
structure KpFix (w : World) (b a g7 g8 : Nat) : Prop where
  b : w.heap.size ≤ b
  a : w.heap.size ≤ a
  h7 : w.heap.size ≤ g7
  h8 : w.heap.size ≤ g8
  ne : g7 ≠ g8
structure KpSt (w W : World) (b c a g7 g8 : Nat) (V : VaM) (kept tried : SeM) : Prop where
  v : Vlt W b c a V
  g : V.Good
  b7 : BoxSe W g7 kept
  b8 : BoxSe W g8 tried
  k : kept.Ok
  t : tried.Ok
  bel : Below w.heap.size w W
theorem Vlt.other {w w' : World} {b c a g : Nat} {V : VaM} {C : Array Value} {T : TypeId} (h : Vlt w b c a V) (hx : w.heap[g]? = some (.cells C T (0, 0))) (h1 : 48 ≠ T) (h2 : 93 ≠ T) (ht : Turn b a w w') : w'.heap[g]? = some (.cells C T (0, 0)) := by
  obtain ⟨v0, v1, vt, h⟩ := h
  exact (ht.block g (lt_of_block hx) (blk_ne h.p hx h1).symm (blk_ne h.k.q hx h2).symm).trans hx
section
variable {w W W' : World} {b c a g7 g8 : Nat} {V V' : VaM} {kept tried : SeM}
theorem KpSt.below (h : KpSt w W b c a g7 g8 V kept tried) (hb : Below W.heap.size W W') : KpSt w W' b c a g7 g8 V kept tried :=
  ⟨h.v.below hb, h.g, h.b7.keep hb, h.b8.keep hb, h.k, h.t, h.bel.trans (hb.mono h.bel.size)⟩
theorem KpSt.turn (h : KpSt w W b c a g7 g8 V kept tried) (F : KpFix w b a g7 g8) (ht : Turn b a W W') (hv : Vlt W' b c a V') (hg : V'.Good) : KpSt w W' b c a g7 g8 V' kept tried :=
  ⟨hv, hg, h.v.box h.b7 ht, h.v.box h.b8 ht, h.k, h.t, ht.below h.bel F.b F.a h.bel.size⟩
theorem KpSt.seven (h : KpSt w W b c a g7 g8 V kept tried) (F : KpFix w b a g7 g8) {s : SeM} (hs : s.Ok) : KpSt w (setSe W g7 (sec s)) b c a g7 g8 V s tried :=
  ⟨h.v.setSe h.b7 _, h.g, setSe_same h.b7, (setSe_other W _ F.ne.symm).trans h.b8, hs, h.t, setSe_below h.bel F.h7⟩
theorem KpSt.eight (h : KpSt w W b c a g7 g8 V kept tried) (F : KpFix w b a g7 g8) {s : SeM} (hs : s.Ok) : KpSt w (setSe W g8 (sec s)) b c a g7 g8 V kept s :=
  ⟨h.v.setSe h.b8 _, h.g, (setSe_other W _ F.ne).trans h.b7, setSe_same h.b8, h.k, hs, setSe_below h.bel F.h8⟩
theorem KpSt.ld7 (h : KpSt w W b c a g7 g8 V kept tried) : loadSe (.pointer (some ⟨g7, 0, none⟩)) W = .ok (.value (.agg (sec kept))) W := loadSe_eq h.b7 h.k
theorem KpSt.ld8 (h : KpSt w W b c a g7 g8 V kept tried) : loadSe (.pointer (some ⟨g8, 0, none⟩)) W = .ok (.value (.agg (sec tried))) W := loadSe_eq h.b8 h.t
theorem KpSt.st7 (h : KpSt w W b c a g7 g8 V kept tried) {s : SeM} (hs : s.Ok) : storeSe (.pointer (some ⟨g7, 0, none⟩)) (.agg (sec s)) W = .ok .skip (setSe W g7 (sec s)) := storeSe_eq h.b7 (sec_size h.k) (sec_size hs) (sec_one s)
theorem KpSt.st8 (h : KpSt w W b c a g7 g8 V kept tried) {s : SeM} (hs : s.Ok) : storeSe (.pointer (some ⟨g8, 0, none⟩)) (.agg (sec s)) W = .ok .skip (setSe W g8 (sec s)) := storeSe_eq h.b8 (sec_size h.t) (sec_size hs) (sec_one s)
end
def KpRel (w W : World) (b c a g7 g8 : Nat) : Prop := ∃ V kept tried, KpSt w W b c a g7 g8 V kept tried ∧ KeptV V kept
theorem neSe_self (s : SeM) (hs : s.Ok) (W : World) : neSe (.agg (sec s)) (.agg (sec s)) W = .ok (.value (.bool false)) W := by
  have := neSe_eq s s hs hs W
  rw [decide_eq_true rfl] at this
  exact this
theorem int_le {n : Int} (h : (Lit.int .i64 n).wf = true) : n ≤ 9223372036854775807 := by
  have : -9223372036854775808 ≤ n ∧ n ≤ 9223372036854775807 := by simpa [Lit.wf, IntKind.min, IntKind.max, IntKind.signed, IntKind.bits] using h
  exact this.2
theorem kp_meas {N k : Nat} (h : k < N) (hw : wrap64 ((k : Int) + 1) = (k : Int) + 1) : N - (intOf (Value.int IntKind.i64 (wrap64 ((k : Int) + 1)))).toNat < N - (intOf (Value.int IntKind.i64 (k : Int))).toNat := by
  rw [hw]
  simp only [intOf]
  omega
set_option maxHeartbeats 25600000 in
theorem lawVaultKeeps_any (i : Int) (v : Value) (L : List ActM) (w : World) (_ : (Lit.int .i64 i).wf = true) (hv : Els acl 40 w v L) (ho : ∀ x ∈ L, ActOk w x) (hK : Kst 1 w) :
    Calls Tryd.prog 3 #[.int .i64 i, v] w fun e w' => e = .returned (.bool true) ∧ Below w.heap.size w w' := by
  have HAW : Hid (∀ W, Below w.heap.size w W → Calls Tryd.prog 6 #[] W fun e w' => e = .returned (.bool true) ∧ Below W.heap.size W w') := hid (fun W hb => vaAwake_any W (hK.below hb))
  have HLT := hid (light14_any v L w hv ho)
  have HKK := hid hK
  obtain ⟨A, d, rfl⟩ := hv.shape
  have hr := hv.at_.2.2.2
  have hmx := hv.len
  unfold maxLen at hmx
  obtain ⟨N, HN⟩ : ∃ q : Nat, Hid (L.length = q) := ⟨_, hid rfl⟩
  have HCEL : Hid (∀ k (h : k < L.length), ∃ b off, A = some ⟨b, off, none⟩ ∧ ∀ W, Below w.heap.size w W → loadAc (.pointer (some ⟨b, off + k * 40, none⟩)) W = .ok (.value (.agg (acc L[k]))) W) := hid (fun k hk => by
    obtain ⟨b, off, e, hb, hc⟩ := hr (by omega)
    exact ⟨b, off, e, fun W hW => loadAc_mid (range_kept (hc k hk) (hW.block b hb)) (ho _ (List.getElem_mem hk)).1⟩)
  have HOK : Hid (∀ k (h : k < L.length), L[k].s.Ok ∧ L[k].n ≤ 9223372036854775807) := hid (fun k hk => ⟨(ho _ (List.getElem_mem hk)).1, int_le (ho _ (List.getElem_mem hk)).2.1.1⟩)
  rw [HN.out] at HLT hmx ⊢
  have HMX := hid hmx
  obtain ⟨Z, HZ⟩ : ∃ C : Array Value, Hid (sec seZ = C) := ⟨_, hid rfl⟩
  have HZS : Hid (Z.size = 35 ∧ Z.all (·.oneCell') = true) := hid (by rw [← HZ.out]; exact ⟨sec_size seZ_ok, sec_one _⟩)
  have HAL : Hid (∀ W, allocSe W = .ok (.value (.pointer (some ⟨W.heap.size, 0, none⟩))) (W.alloc (.cells Z 32))) := hid (fun W => by rw [← HZ.out]; exact allocSe_eq W)
  have HBZ : Hid (∀ W, buildSe W = .ok (.value (.agg Z)) W) := hid (fun W => by rw [← HZ.out]; exact buildSe_eq W)
  obtain ⟨AZ, HAZ⟩ : ∃ C : Array Value, Hid (acc actZ = C) := ⟨_, hid rfl⟩
  have HAZS : Hid (AZ.size = 40) := hid (by rw [← HAZ.out]; exact acc_size seZ_ok)
  have HALA : Hid (∀ W, allocAc W = .ok (.value (.pointer (some ⟨W.heap.size, 0, none⟩))) (W.alloc (.cells AZ 35))) := hid (fun W => by rw [← HAZ.out]; exact allocAc_eq W)
  clear hv ho hr hK hmx
  go_enter Tryd.func3, Tryd.ntmps3
  go_wp2_with fail
  refine HLT.out.mono ?_
  rintro e w1 ⟨q, rfl, hq, rfl⟩
  clear hq
  have HFIN : Hid (∀ W, Below w.heap.size w W → Calls Tryd.prog 6 #[] W fun e w' => e = .returned (.bool true) ∧ Below w.heap.size w w') := hid (fun W hb => (HAW.out W hb).mono fun _ _ ⟨h1, h2⟩ => ⟨h1, hb.trans (h2.mono hb.size)⟩)
  have HREF := hid (Below.refl w.heap.size w)
  cases q with
  | false =>
    go_wp2_with fail
    refine (HFIN.out w HREF.out).mono ?_
    rintro e w2 ⟨rfl, hb2⟩
    go_wp2_with fail
    go_ret
    exact ⟨rfl, hb2⟩
  | true =>
  by_cases p2 : i < 1
  · go_wp2_with fail
    refine (HFIN.out w HREF.out).mono ?_
    rintro e w2 ⟨rfl, hb2⟩
    go_wp2_with fail
    go_ret
    exact ⟨rfl, hb2⟩
  by_cases p3 : 21 < i
  · go_wp2_with fail
    refine (HFIN.out w HREF.out).mono ?_
    rintro e w2 ⟨rfl, hb2⟩
    go_wp2_with fail
    go_ret
    exact ⟨rfl, hb2⟩
  have HND : Hid (nodeB i = true) := hid (by unfold nodeB; rw [decide_eq_true_eq]; omega)
  have HNW := hid (vNew_yes i 0 w HND.out (by decide) (by decide))
  go_upto_region 3 with (fail)
  clear p2 p3
  go_wp2_with fail
  refine HNW.out.mono ?_
  rintro e w1 ⟨b, c, a, rfl, h1, hbb, hba, hb1⟩
  have hal := HAL.out
  have hbz := HBZ.out
  have hs1 := se_var w1 HZS.out.1 HZS.out.1 HZS.out.2
  have hb12 : Below w1.heap.size w1 (w1.alloc (.cells Z 32)) := (Below.refl _ _).alloc (Nat.le_refl _) _
  have HV2 := hid (h1.below hb12)
  have HB2 := hid (hb1.trans (hb12.mono hb1.size))
  have hr2 := heap_alloc_new w1 (.cells Z 32)
  have HR2 := hid hr2
  have HS1 := hid hb1.size
  have HS2 := hid (lt_of_block hr2)
  clear hb12 h1 hr2 hb1
  go_upto_region 7 with (fail)
  clear hs1
  generalize (w1.alloc (.cells Z 32)) = w2 at *
  generalize w1.heap.size = g7 at *
  have hs2 := se_var w2 HZS.out.1 HZS.out.1 HZS.out.2
  have hb23 : Below w2.heap.size w2 (w2.alloc (.cells Z 32)) := (Below.refl _ _).alloc (Nat.le_refl _) _
  have HST : Hid (KpRel w (w2.alloc (.cells Z 32)) b c a g7 w2.heap.size) := hid ⟨newV i 0, seZ, seZ, ⟨HV2.out.below hb23, newV_good HND.out (by decide) (by decide), by
    unfold BoxSe
    rw [HZ.out]
    exact (hb23.block _ HS2.out).trans HR2.out, by
    unfold BoxSe
    rw [HZ.out]
    exact heap_alloc_new w2 _, seZ_ok, seZ_ok, HB2.out.trans (hb23.mono HB2.out.size)⟩, kept_new i⟩
  have HFX : Hid (KpFix w b a g7 w2.heap.size) := hid ⟨hbb, hba, HS1.out, HB2.out.size, by have := HS2.out; omega⟩
  clear hb23 hbb hba HV2 HB2 HR2 HS1 HS2
  go_upto_region 8 with (fail)
  clear hs2 hal hbz
  generalize (w2.alloc (.cells Z 32)) = w3 at *
  generalize w2.heap.size = g8 at *
  go_wp2_with fail
  go_loopw [9] (fun si wr => ∃ k : Nat, k ≤ N ∧ si = .int .i64 k ∧ Hid (KpRel w wr b c a g7 g8)) (fun si _ => N - (intOf si).toNat)
  case atStart => exact ⟨0, Nat.zero_le _, rfl, HST⟩
  case round =>
    obtain ⟨k, hk, rfl, HREL⟩ := hrel
    by_cases hlt : k < N
    · have hlt' : (k : Int) < (N : Int) := by omega
      have hkL : k < L.length := by rw [HN.out]; exact hlt
      obtain ⟨b0, off, rfl, hld⟩ := HCEL.out k hkL
      have HKO := hid (HOK.out k hkL)
      obtain ⟨V, kept, tried, hS, hKV⟩ := HREL.out
      have hl0 := hld wr hS.bel
      generalize L[k] = x at *
      obtain ⟨AX, HAX⟩ : ∃ C : Array Value, Hid (acc x = C) := ⟨_, hid rfl⟩
      have HAXS : Hid (AX.size = 40 ∧ AX.all (·.oneCell') = true) := hid (by rw [← HAX.out]; exact ⟨acc_size HKO.out.1, acc_one _⟩)
      rw [HAX.out] at hl0
      have hala := HALA.out
      have hsx := ac_var wr HAZS.out HAXS.out.1 HAXS.out.2
      have hbx : Below wr.heap.size wr (wr.alloc (.cells AX 35)) := (Below.refl _ _).alloc (Nat.le_refl _) _
      have hrx := heap_alloc_new wr (.cells AX 35)
      have HSX := hid (hS.below hbx)
      have HKV := hid hKV
      have HHK := hid (show k < N from hlt)
      have HWI : Hid (wrap64 ((k : Int) + 1) = (k : Int) + 1) := hid (by have := HMX.out; unfold wrap64; omega)
      have HRX := hid hrx
      clear hS hKV hbx hrx hld hkL HREL hlt hk
      go_upto_region 12 with (fail)
      clear hl0 hala hsx
      generalize (wr.alloc (.cells AX 35)) = wx at *
      generalize wr.heap.size = gx at *
      have HACT : Hid (∀ W, W.heap[gx]? = some (.cells AX 35 (0, 0)) → W.cell? ⟨gx, 0, none⟩ = some (.int .i64 x.act) ∧ W.cell? ⟨gx, 36, none⟩ = some (.int .i64 x.n) ∧ loadSe (.pointer (some ⟨gx, 1, none⟩)) W = .ok (.value (.agg (sec x.s))) W) := hid (fun W h => by
        rw [← HAX.out] at h
        have h2 : BoxAc W gx x := h
        exact ⟨(h2.cells HKO.out.1).1, (h2.cells HKO.out.1).2.1, h2.sealed HKO.out.1⟩)
      obtain ⟨x0, x36, xs⟩ := HACT.out wx HRX.out
      generalize x.act = act at *
      go_upto_block 2 with (fail)
      go_cut [] (fun wy => Hid (KpRel w wy b c a g7 g8))
      case first =>
        by_cases d0 : act = 0
        · as_aux_lemma =>
            subst d0
            have HKP := hid (vKeep_any HSX.out.v HSX.out.g x.s HKO.out.1 (HKK.out.below HSX.out.bel))
            have HKA := hid (HKV.out.keep HSX.out.g HKO.out.1)
            have HGK := hid (keepV_good (s := x.s) HSX.out.g HKO.out.1)
            obtain ⟨E1, HE1⟩ : ∃ q : Int, Hid (keepE V x.s = q) := ⟨_, hid rfl⟩
            obtain ⟨V1, HV1⟩ : ∃ q : VaM, Hid (keepV V x.s = q) := ⟨_, hid rfl⟩
            obtain ⟨SC, HSC⟩ : ∃ C : Array Value, Hid (sec x.s = C) := ⟨_, hid rfl⟩
            rw [HE1.out, HV1.out, HSC.out] at HKP
            rw [HE1.out, HV1.out] at HKA
            rw [HV1.out] at HGK
            rw [HSC.out] at xs HACT
            clear HE1 HV1 x36
            go_wp2_with fail
            refine HKP.out.mono ?_
            rintro e w4 ⟨rfl, h4, t4⟩
            have hS4 := HSX.out.turn HFX.out t4 h4 HGK.out
            have HR4 := hid (HSX.out.v.other HRX.out (by decide) (by decide) t4)
            have HS4 := hid hS4
            obtain ⟨_, _, y4⟩ := HACT.out w4 HR4.out
            clear h4 t4 xs x0 hS4
            by_cases e0 : E1 = 0
            · subst e0
              have hst := HS4.out.st7 HKO.out.1
              have HF := hid (show KpRel w (setSe w4 g7 (sec x.s)) b c a g7 g8 from ⟨V1, x.s, tried, HS4.out.seven HFX.out HKO.out.1, by have := HKA.out; rw [if_pos rfl] at this; exact this⟩)
              rw [HSC.out] at hst HF
              go_wp2_with fail
              go_meet
              case rel => exact HF
            · have HKB : Hid (KeptV V1 kept) := hid (by have := HKA.out; rw [if_neg e0] at this; exact this)
              by_cases e6 : E1 = 6
              · subst e6
                obtain ⟨m, HM⟩ : ∃ q : Bool, Hid (mayS x.s = q) := ⟨_, hid rfl⟩
                have HMY : Hid (∀ W, Calls Tryd.prog 9 #[.agg SC] W fun e w' => e = .returned (.bool m) ∧ Below W.heap.size W w') := hid (fun W => by
                  have := refMay13_any x.s W HKO.out.1
                  rw [HSC.out, HM.out] at this
                  exact this)
                clear e0
                go_wp2_with fail
                refine (HMY.out w4).mono ?_
                rintro e w5 ⟨rfl, hb5⟩
                have HS5 := hid (HS4.out.below hb5)
                have HR5 := hid ((hb5.block _ (lt_of_block HR4.out)).trans HR4.out)
                clear y4 hb5
                have HF5 := hid (show KpRel w w5 b c a g7 g8 from ⟨V1, kept, tried, HS5.out, HKB.out⟩)
                cases m with
                | false =>
                  go_wp2_with fail
                  go_meet
                  case rel => exact HF5
                | true =>
                  obtain ⟨_, _, y5⟩ := HACT.out w5 HR5.out
                  have l8 := HS5.out.ld8
                  obtain ⟨TC, HTC⟩ : ∃ C : Array Value, Hid (sec tried = C) := ⟨_, hid rfl⟩
                  obtain ⟨q, HQ⟩ : ∃ q : Bool, Hid (decide (tried = seZ) = q) := ⟨_, hid rfl⟩
                  have heq : ∀ W, eqSe (.agg TC) (.agg Z) W = .ok (.value (.bool q)) W := fun W => by
                    have := eqSe_eq tried seZ HS5.out.t seZ_ok W
                    rw [HTC.out, HZ.out, HQ.out] at this
                    exact this
                  rw [HTC.out] at l8
                  have hbz := HBZ.out
                  cases q with
                  | false =>
                    go_wp2_with fail
                    go_meet
                    case rel => exact HF5
                  | true =>
                    have hst := HS5.out.st8 HKO.out.1
                    have HF := hid (show KpRel w (setSe w5 g8 (sec x.s)) b c a g7 g8 from ⟨V1, kept, x.s, HS5.out.eight HFX.out HKO.out.1, HKB.out⟩)
                    rw [HSC.out] at hst HF
                    go_wp2_with fail
                    go_meet
                    case rel => exact HF
              · have HF := hid (show KpRel w w4 b c a g7 g8 from ⟨V1, kept, tried, HS4.out, HKB.out⟩)
                clear y4
                go_wp2_with fail
                go_meet
                case rel => exact HF
        by_cases d4 : act = 4
        · as_aux_lemma =>
            subst d4
            have HKP : Hid (Calls Tryd.prog 10 #[.pointer (some ⟨b, 0, none⟩), .int .i64 x.n] wx fun e w' => e = .returned (.tuple #[]) ∧ Vlt w' b c a (armV V x.n) ∧ Turn b a wx w') := hid (by
              obtain ⟨v0, v1, vt, hv⟩ := HSX.out.v
              exact (vArm_any hv x.n).mono fun _ _ ⟨h1, h2, h3⟩ => ⟨h1, ⟨_, _, _, h2⟩, h3⟩)
            have HGK := hid (armV_good HSX.out.g HKO.out.2)
            clear d0 xs
            go_wp2_with fail
            refine HKP.out.mono ?_
            rintro e w4 ⟨rfl, h4, t4⟩
            have HF := hid (show KpRel w w4 b c a g7 g8 from ⟨_, kept, tried, HSX.out.turn HFX.out t4 h4 HGK.out, HKV.out.armed x.n⟩)
            clear h4 t4 x0 x36
            go_wp2_with fail
            go_meet
            case rel => exact HF
        by_cases d5 : act = 5
        · as_aux_lemma =>
            subst d5
            have HKP := hid (vCrash_any HSX.out.v HSX.out.g x.n)
            have HGK := hid (crashV_good HSX.out.g x.n)
            have HKC := hid (HKV.out.crash x.n)
            obtain ⟨q1, q2⟩ := HKC.out.loads HGK.out rfl
            have HLD : Hid (∀ W, Below w.heap.size w W → Vlt W b c a (crashV V x.n) → Calls Tryd.prog 12 #[.pointer (some ⟨b, 0, none⟩)] W fun e w' => e = .returned (.tuple #[.agg (sec kept), .int .i64 0]) ∧ Below W.heap.size W w') := hid (fun W hb hv => by
              have := vLoad_any hv HGK.out (HKK.out.below hb)
              rw [q1, q2] at this
              exact this)
            obtain ⟨KC, HKCC⟩ : ∃ C : Array Value, Hid (sec kept = C) := ⟨_, hid rfl⟩
            have HKS : Hid (KC.size = 35 ∧ KC.all (·.oneCell') = true) := hid (by rw [← HKCC.out]; exact ⟨sec_size HSX.out.k, sec_one _⟩)
            have HNE : Hid (∀ W, neSe (.agg KC) (.agg KC) W = .ok (.value (.bool false)) W) := hid (fun W => by
              have := neSe_self kept HSX.out.k W
              rw [HKCC.out] at this
              exact this)
            rw [HKCC.out] at HLD
            clear d0 d4 xs q1 q2
            go_wp2_with fail
            refine HKP.out.mono ?_
            rintro e w4 ⟨rfl, h4, t4⟩
            have hS4 := HSX.out.turn HFX.out t4 h4 HGK.out
            have HS4 := hid hS4
            clear h4 t4 x0 x36 hS4
            go_wp2_with fail
            refine (HLD.out w4 HS4.out.bel HS4.out.v).mono ?_
            rintro e w5 ⟨rfl, hb5⟩
            have hal := HAL.out
            have hs5 := se_var w5 HZS.out.1 HKS.out.1 HKS.out.2
            have hb6 : Below w4.heap.size w4 (w5.alloc (.cells KC 32)) := hb5.alloc hb5.size _
            have HS6 := hid (HS4.out.below hb6)
            have HR6 := hid (heap_alloc_new w5 (.cells KC 32))
            have HNG := hid (show w5.heap.size ≠ g7 from by have := lt_of_block HS4.out.b7; have := hb5.size; omega)
            clear hb5 hb6
            go_upto_region 24 with (fail)
            clear hal hs5
            generalize (w5.alloc (.cells KC 32)) = w6 at *
            generalize w5.heap.size = g6 at *
            have l6 := loadSe_row HR6.out HKS.out.1
            have l7 := HS6.out.ld7
            rw [HKCC.out] at l7
            have hne := HNE.out
            have hbz := HBZ.out
            have hst := HS6.out.st7 HSX.out.k
            have hst8 := (HS6.out.seven HFX.out HSX.out.k).st8 seZ_ok
            have HF := hid (show KpRel w (setSe (setSe w6 g7 (sec kept)) g8 (sec seZ)) b c a g7 g8 from ⟨_, kept, seZ, (HS6.out.seven HFX.out HSX.out.k).eight HFX.out seZ_ok, HKC.out⟩)
            rw [HKCC.out] at hst hst8 HF
            rw [HZ.out] at hst8 HF
            go_wp2_with fail
            go_meet
            case rel => exact HF
        · as_aux_lemma =>
            have HF := hid (show KpRel w wx b c a g7 g8 from ⟨V, kept, tried, HSX.out, HKV.out⟩)
            clear xs x0 x36
            go_wp2_with fail
            go_meet
            case rel => exact HF
      case rest =>
        obtain ⟨V2, kept2, tried2, hS2, hK2⟩ := hcut.out
        have HS2 := hid hS2
        have HK2 := hid hK2
        clear hS2 hK2 hcut x0 x36 xs HACT HSX HKV HRX HAX HAXS HKO
        obtain ⟨LE, HLE⟩ : ∃ q : Int, Hid (loadE V2 = q) := ⟨_, hid rfl⟩
        obtain ⟨LS, HLS⟩ : ∃ C : Array Value, Hid (sec (loadS V2) = C) := ⟨_, hid rfl⟩
        have HLSS : Hid (LS.size = 35 ∧ LS.all (·.oneCell') = true) := hid (by rw [← HLS.out]; exact ⟨sec_size (loadS_ok _), sec_one _⟩)
        have HLD : Hid (Calls Tryd.prog 12 #[.pointer (some ⟨b, 0, none⟩)] wc fun e w' => e = .returned (.tuple #[.agg LS, .int .i64 LE]) ∧ Below wc.heap.size wc w') := hid (by
          have := vLoad_any HS2.out.v HS2.out.g (HKK.out.below HS2.out.bel)
          rw [HLE.out, HLS.out] at this
          exact this)
        have HDD : Hid (∀ W, Vlt W b c a V2 → Calls Tryd.prog 13 #[.pointer (some ⟨b, 0, none⟩)] W fun e w' => e = .returned (.bool V2.dead) ∧ W = w') := hid (fun W ⟨_, _, _, h⟩ => vDead_any h)
        obtain ⟨KC, HKCC⟩ : ∃ C : Array Value, Hid (sec kept2 = C) := ⟨_, hid rfl⟩
        have HNE : Hid (∀ W, neSe (.agg KC) (.agg KC) W = .ok (.value (.bool false)) W) := hid (fun W => by
          have := neSe_self kept2 HS2.out.k W
          rw [HKCC.out] at this
          exact this)
        have HA1 : Hid (V2.dead = true → LE = 6) := hid (fun hd => by rw [← HLE.out]; exact (load_dead hd).1)
        have HA2 : Hid (V2.dead = false → LE = 0 ∧ LS = KC) := hid (fun hd => by
          obtain ⟨q1, q2⟩ := HK2.out.loads HS2.out.g hd
          rw [← HLE.out, ← HLS.out, ← HKCC.out, q1, q2]
          exact ⟨rfl, rfl⟩)
        obtain ⟨dd, hdd⟩ : ∃ q : Bool, V2.dead = q := ⟨_, rfl⟩
        rw [hdd] at HDD HA1 HA2
        clear HLE HLS hdd
        go_wp2_with fail
        refine HLD.out.mono ?_
        rintro e w5 ⟨rfl, hb5⟩
        have hal := HAL.out
        have hs5 := se_var w5 HZS.out.1 HLSS.out.1 HLSS.out.2
        have hb6 : Below wc.heap.size wc (w5.alloc (.cells LS 32)) := hb5.alloc hb5.size _
        have HS6 := hid (HS2.out.below hb6)
        have HR6 := hid (heap_alloc_new w5 (.cells LS 32))
        have HF := hid (show KpRel w (w5.alloc (.cells LS 32)) b c a g7 g8 from ⟨V2, kept2, tried2, HS6.out, HK2.out⟩)
        clear hb5 hb6
        go_upto_region 29 with (fail)
        clear hal hs5
        generalize (w5.alloc (.cells LS 32)) = w6 at *
        generalize w5.heap.size = g6 at *
        go_wp2_with fail
        refine (HDD.out w6 HS6.out.v).mono ?_
        rintro e w7 ⟨rfl, rfl⟩
        cases dd with
        | true =>
         as_aux_lemma =>
          obtain rfl := HA1.out rfl
          go_wp2_with fail
          refine (HDD.out w6 HS6.out.v).mono ?_
          rintro e w7 ⟨rfl, rfl⟩
          have hwi := HWI.out
          go_wp2_with fail
          go_roundw
          case rel => exact ⟨k + 1, by have := HHK.out; omega, by go_num, HF⟩
          case measure => exact kp_meas HHK.out hwi
        | false =>
         as_aux_lemma =>
          obtain ⟨rfl, rfl⟩ := HA2.out rfl
          have l6 := loadSe_row HR6.out HLSS.out.1
          have l7 := HS6.out.ld7
          rw [HKCC.out] at l7
          have hne := HNE.out
          go_wp2_with fail
          refine (HDD.out w6 HS6.out.v).mono ?_
          rintro e w7 ⟨rfl, rfl⟩
          have hwi := HWI.out
          go_wp2_with fail
          go_roundw
          case rel => exact ⟨k + 1, by have := HHK.out; omega, by go_num, HF⟩
          case measure => exact kp_meas HHK.out hwi
    · have hlt' : ¬ (k : Int) < (N : Int) := by omega
      obtain ⟨V, kept, tried, hS, hKV⟩ := HREL.out
      have HBE := hid hS.bel
      clear hS hKV HREL hlt hk
      go_wp2_with fail
      refine (HFIN.out wr HBE.out).mono ?_
      rintro e w4 ⟨rfl, hb4⟩
      go_wp2_with fail
      go_ret
      exact ⟨rfl, hb4⟩
end Go.Proofs.YticnhdlmkkmjmaaDoor
