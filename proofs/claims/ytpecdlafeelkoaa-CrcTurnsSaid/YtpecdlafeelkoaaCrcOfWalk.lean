/-
  The law of checks: any bytes, in any parts; of two exclusive-ored the exclusive or.
-/
import Derived.Test.YtpecdlafeelkoaaCrcParts
import Derived.Test.YtpecdlafeelkoaaCrcFour
import Derived.Test.YtpecdlafeelkoaaCut
import Derived.Deep.RegionHeld3
import Derived.StillTailTactics
namespace Go.Proofs.Ytpecdlafeelkoaa
open Go.RowKit

theorem new_cell2 (w : World) (o : Obj) (C : Array Value) (T : TypeId) (i : Nat) (v : Value) (h : C[i]? = some v) : ((w.alloc o).alloc (.cells C T)).cell? ⟨w.heap.size + 1, i, none⟩ = some v := by
  have := new_cell (w.alloc o) C T i v h
  rw [show (w.alloc o).heap.size = w.heap.size + 1 from by simp] at this
  exact this
theorem old_cell (w : World) (o : Obj) (C : Array Value) (T : TypeId) (i : Nat) (v : Value) (h : C[i]? = some v) : ((w.alloc (.cells C T)).alloc o).cell? ⟨w.heap.size, i, none⟩ = some v :=
  (((Below.refl (w.alloc (.cells C T)).heap.size (w.alloc (.cells C T))).alloc (Nat.le_refl _) o).cell (p := ⟨w.heap.size, i, none⟩) (by simp)).trans (new_cell w C T i v h)
theorem lt_al (w : World) (o : Obj) : w.heap.size < (w.alloc o).heap.size := by simp
theorem lt_al2 (w : World) (o o2 : Obj) : w.heap.size < ((w.alloc o).alloc o2).heap.size := by simp; omega
theorem lt_al3 (w : World) (o o2 : Obj) : w.heap.size + 1 < ((w.alloc o).alloc o2).heap.size := by simp
theorem below_al2 {B : Nat} {w w1 : World} (h : Below B w w1) (hs : B ≤ w1.heap.size) (o o2 : Obj) : Below B w ((w1.alloc o).alloc o2) := (h.alloc hs o).alloc (Nat.le_trans hs (alloc_le w1 o)) o2
theorem xor_get (l m : List UInt8) {i : Nat} (h1 : i < l.length) (h2 : i < m.length) : (xorL l m).take (i + 1) = (xorL l m).take i ++ [l[i] ^^^ m[i]] := by
  have hx : i < (xorL l m).length := by unfold xorL; rw [List.length_zipWith]; omega
  rw [List.take_succ_eq_append_getElem hx]
  congr 2
  simp [xorL]
theorem bv_xorU (x y : UInt8) : bits BinOp.xor IntKind.u8 (x.toNat : Int) (y.toNat : Int) = ((x ^^^ y).toNat : Int) := by
  have := x.toNat_lt
  have := y.toNat_lt
  rw [u8_xor_nat _ _ (by omega) (by omega), UInt8.toNat_xor]

attribute [local go_sem ↓] exec_cutH exec_cutL

set_option maxHeartbeats 3200000 in
theorem lawCrcOf_any (v1 : Value) (l : List UInt8) (v2 : Value) (m : List UInt8) (at' : Nat) (w : World) (hv1 : Byt w v1 l) (hv2 : Byt w v2 m) (hat : at' ≤ 65535) :
    Calls Try.prog 3 #[v1, v2, .int .u16 (at' : Int)] w fun e w' => e = .returned (.bool true) ∧ Below w.heap.size w w' := by
  obtain ⟨A1, c1, rfl⟩ := hv1.shape
  obtain ⟨A2, c2, rfl⟩ := hv2.shape
  obtain ⟨_, hc1, hm1, hr1⟩ := hv1.at_
  obtain ⟨_, hc2, hm2, hr2⟩ := hv2.at_
  unfold maxLen at hm1 hm2
  obtain ⟨L, HL⟩ : ∃ L : Nat, Hid (l.length = L) := ⟨_, hid rfl⟩
  obtain ⟨M, HM⟩ : ∃ L : Nat, Hid (m.length = L) := ⟨_, hid rfl⟩
  rw [HL.out] at hv1 hc1 ⊢
  rw [HM.out] at hv2 hc2 ⊢
  have HV1 := hid hv1
  have HV2 := hid hv2
  have HR1 := hid hr1
  have HR2 := hid hr2
  clear hv1 hv2 hr1 hr2
  by_cases hlong : 1000 < L
  · have hq : (1000 : Int) < (L : Int) := by omega
    go_enter Try.func3, Try.ntmps3
    go_wp2_with fail
    refine (crcAwake_any w).mono ?_
    rintro e w' ⟨rfl, hb⟩
    go_wp2_with fail
    go_ret
    exact ⟨rfl, hb⟩
  have hq : ¬ (1000 : Int) < (L : Int) := by omega
  by_cases hshort : M < L
  · have hq2 : (M : Int) < (L : Int) := by omega
    go_enter Try.func3, Try.ntmps3
    go_wp2_with fail
    refine (crcAwake_any w).mono ?_
    rintro e w' ⟨rfl, hb⟩
    go_wp2_with fail
    go_ret
    exact ⟨rfl, hb⟩
  have hq2 : ¬ (M : Int) < (L : Int) := by omega
  by_cases hlong2 : 2000 < M
  · have hq3 : (2000 : Int) < (M : Int) := by omega
    go_enter Try.func3, Try.ntmps3
    go_wp2_with fail
    refine (crcAwake_any w).mono ?_
    rintro e w' ⟨rfl, hb⟩
    go_wp2_with fail
    go_ret
    exact ⟨rfl, hb⟩
  have hq3 : ¬ (2000 : Int) < (M : Int) := by omega
  obtain ⟨k, hk⟩ : ∃ k : Nat, at' % (L + 1) = k := ⟨_, rfl⟩
  have hkL : k ≤ L := by have := Nat.mod_lt at' (show 0 < L + 1 by omega); omega
  have ek : (at' : Int) % ((L : Int) + 1) = (k : Int) := by rw [← hk]; exact (Int.natCast_emod at' (L + 1)).symm
  clear hk
  obtain ⟨A3, c3, r3, p3⟩ := cut_h A1 c1 L k hkL hc1
  obtain ⟨A4, c4, r4, p4⟩ := cut_l A1 c1 L k hkL hc1
  obtain ⟨A5, c5, r5, p5⟩ := cut_h A2 c2 M L (by omega) hc2
  have P3 := hid p3
  have P4 := hid p4
  have P5 := hid p5
  clear p3 p4 p5
  have HS1 := hid (show l.length ≤ 1000000 by rw [HL.out]; omega)
  have hml : (m.take L).length = l.length := by rw [List.length_take, HL.out, HM.out]; omega
  have HML := hid hml
  clear hml
  obtain ⟨X, HX⟩ : ∃ X : List UInt8, Hid (xorL l (m.take L) = X) := ⟨_, hid rfl⟩
  have HXL : Hid (X.length = L) := hid (by rw [← HX.out]; unfold xorL; rw [List.length_zipWith, HML.out, HL.out]; omega)
  have ho0 := fresh_own w
  have hb0 : Below w.heap.size w (w.alloc (.cells #[] 5)) := (Below.refl _ _).alloc (Nat.le_refl _) _
  go_enter Try.func3, Try.ntmps3
  go_wp2_with fail
  go_loopw [8, 9] (fun v8 si wr => ∃ i : Nat, i ≤ L ∧ si = .int .i64 (i : Int) ∧ Below w.heap.size w wr ∧ Own w.heap.size wr v8 (X.take i)) (fun _ si _ => L - (intOf si).toNat)
  case atStart => exact ⟨0, Nat.zero_le _, rfl, hb0, ho0⟩
  case round =>
    clear hb0 ho0
    obtain ⟨i, hi, rfl, hbw, how⟩ := hrel
    by_cases hlt : i < L
    · have hiL : (i : Int) < (L : Int) := by omega
      have hiM : (i : Int) < (M : Int) := by omega
      have h1l : i < l.length := by rw [HL.out]; exact hlt
      have h2l : i < m.length := by rw [HM.out]; omega
      obtain ⟨b1, o1, rfl, hlt1, cl1⟩ := HR1.out (by omega)
      obtain ⟨b2, o2, rfl, hlt2, cl2⟩ := HR2.out (by omega)
      have k1 := cl1 i h1l
      have k2 := cl2 i h2l
      clear cl1 cl2
      unfold bcell at k1 k2
      have hx := bv_xorU l[i] m[i]
      have hxt := xor_get l (m.take L) h1l (by rw [HML.out]; exact h1l)
      rw [HX.out, List.getElem_take] at hxt
      have HXT := hid hxt
      clear hxt
      obtain ⟨x, HXX⟩ : ∃ y : Int, Hid ((l[i].toNat : Int) = y) := ⟨_, hid rfl⟩
      obtain ⟨y, HYY⟩ : ∃ y : Int, Hid ((m[i].toNat : Int) = y) := ⟨_, hid rfl⟩
      obtain ⟨z, HZZ⟩ : ∃ y : Int, Hid (((l[i] ^^^ m[i]).toNat : Int) = y) := ⟨_, hid rfl⟩
      rw [HXX.out] at k1 hx
      rw [HYY.out] at k2 hx
      rw [HZZ.out] at hx
      have hl1 : (X.take i).length + ([l[i] ^^^ m[i]] : List UInt8).length ≤ 140737488355328 := by rw [List.length_take, HXL.out, List.length_singleton]; omega
      have hsw := hbw.size
      go_wp2_with fail
      have HSC : Hid (∀ W : World, Below w.heap.size w W → W.cell? ⟨b1, o1 + i, none⟩ = some (.int .u8 x) ∧ W.cell? ⟨b2, o2 + i, none⟩ = some (.int .u8 y)) := hid (fun W hb => ⟨(hb.cell (p := ⟨b1, o1 + i, none⟩) hlt1).trans k1, (hb.cell (p := ⟨b2, o2 + i, none⟩) hlt2).trans k2⟩)
      have hbd := hbw.drew
      have hba : Below w.heap.size w (wr.drew.alloc (.cells #[.int .u8 z] 5)) := hbd.alloc hsw _
      have hsa := Nat.le_trans hsw (alloc_le wr.drew (.cells #[.int .u8 z] 5))
      clear k1 k2
      go_region_held3 (fun W => W.cell? ⟨b1, o1 + i, none⟩ = some (.int .u8 x) ∧ W.cell? ⟨b2, o2 + i, none⟩ = some (.int .u8 y))
        (first | exact HSC.out _ hbd | exact HSC.out _ hba | exact HSC.out _ hb6 | fail)
        (first
          | (refine step_append_byt rfl (.tmp 40) (.tmp 50) rfl rfl rfl (Own.alloc (w := wr.drew) how _) (byt_one wr.drew z (l[i] ^^^ m[i]) HZZ.out.symm) hl1 hsa ?_; intro v6 w6 hown6 hg6 hv6; have hb6 : Below w.heap.size w w6 := hba.grown hg6 hsa (fun k hk => (World.ownsRow.lt how k hk).1))
          | fail)
      go_wp2_with fail
      rw [← HXT.out] at hown6
      clear hg6 hv6 hl1 hx
      go_roundw
      case rel => exact ⟨i + 1, by omega, by go_num, hb6, hown6⟩
      case measure => simp [intOf]; omega
    · have hiL : ¬ (i : Int) < (L : Int) := by omega
      obtain rfl : L = i := by omega
      have hXt : X.take L = X := List.take_of_length_le (by rw [HXL.out]; exact Nat.le_refl _)
      rw [hXt] at how
      obtain ⟨A8, c8, e8⟩ := how.byt.shape
      rw [HXL.out] at e8
      subst e8
      have HOW := hid how
      clear hXt how hlt
      go_wp2_with fail
      refine (refCrc_any _ l wr (by have := HV1.out.below hbw; exact this) HS1.out).mono ?_
      rintro e w2 ⟨rfl, hb2⟩
      have hbw2 := hbw.trans (hb2.mono hbw.size)
      have hby : Byt w2 (.slice A8 L c8) X := HOW.out.byt.below hb2
      obtain ⟨q, HQ⟩ : ∃ q : Nat, Hid ((crcS l).toNat = q) := ⟨_, hid rfl⟩
      obtain ⟨qx, HQX⟩ : ∃ q : Nat, Hid ((crcS X).toNat = q) := ⟨_, hid rfl⟩
      obtain ⟨qm, HQM⟩ : ∃ q : Nat, Hid ((crcS (m.take L)).toNat = q) := ⟨_, hid rfl⟩
      have hxq : bits BinOp.xor IntKind.u32 (q : Int) (qm : Int) = (qx : Int) := by
        rw [← HQ.out, ← HQM.out, ← HQX.out, ← HX.out, crcS_xor _ _ HML.out.symm, BitVec.toNat_xor]
        exact u32_xor_nat _ _ (BitVec.isLt _) (BitVec.isLt _)
      rw [HQ.out]
      have HC1 : Hid (∀ (W : World) (gp : Nat), Below w2.heap.size w2 W → gp < W.heap.size → W.cell? ⟨gp, 0, none⟩ = some (.slice A1 L c1) → Calls Try.prog 8 #[.slice (some ⟨gp, 0, none⟩) 1 1] W fun e w' => e = .returned (.int .u32 (q : Int)) ∧ Below W.heap.size W w') := hid (fun W gp hb hg h0 => by
        have C := crcOf_one _ l gp 1 W hg h0 (HV1.out.below (hbw2.trans (hb.mono hbw2.size))) HS1.out
        rw [HQ.out] at C
        exact C)
      have HC2 : Hid (∀ (W : World) (gp : Nat), Below w2.heap.size w2 W → gp < W.heap.size → W.cell? ⟨gp, 0, none⟩ = some (.slice A3 k c3) → W.cell? ⟨gp, 1, none⟩ = some (.slice A4 (L - k) c4) → Calls Try.prog 8 #[.slice (some ⟨gp, 0, none⟩) 2 2] W fun e w' => e = .returned (.int .u32 (q : Int)) ∧ Below W.heap.size W w') := hid (fun W gp hb hg h0 h1 => by
        have hv := HV1.out.below (hbw2.trans (hb.mono hbw2.size))
        have C := crcOf_two _ _ _ _ gp 2 W hg h0 h1 (P3.out W l HL.out hv) (P4.out W l HL.out hv) (List.take_append_drop k l) HS1.out
        rw [HQ.out] at C
        exact C)
      have HCX : Hid (∀ (W : World) (gp : Nat), Below w2.heap.size w2 W → gp < W.heap.size → W.cell? ⟨gp, 0, none⟩ = some (.slice A8 L c8) → Calls Try.prog 8 #[.slice (some ⟨gp, 0, none⟩) 1 1] W fun e w' => e = .returned (.int .u32 (qx : Int)) ∧ Below W.heap.size W w') := hid (fun W gp hb hg h0 => by
        have C := crcOf_one _ X gp 1 W hg h0 (hby.below hb) (by rw [HXL.out]; omega)
        rw [HQX.out] at C
        exact C)
      have HCM : Hid (∀ (W : World) (gp : Nat), Below w2.heap.size w2 W → gp < W.heap.size → W.cell? ⟨gp, 0, none⟩ = some (.slice A5 L c5) → Calls Try.prog 8 #[.slice (some ⟨gp, 0, none⟩) 1 1] W fun e w' => e = .returned (.int .u32 (qm : Int)) ∧ Below W.heap.size W w') := hid (fun W gp hb hg h0 => by
        have C := crcOf_one _ (m.take L) gp 1 W hg h0 (P5.out W m HM.out (HV2.out.below (hbw2.trans (hb.mono hbw2.size)))) (by rw [HML.out, HL.out]; omega)
        rw [HQM.out] at C
        exact C)
      have hB0 : Below w2.heap.size w2 (w2.alloc (.cells #[.slice A1 L c1] 22)).drew := ((Below.refl _ _).alloc (Nat.le_refl _) _).drew
      have HN1 := hid (new_cell_drew w2 #[.slice A1 L c1] 22 0 _ rfl)
      clear P3 P4 P5 hby
      go_wp2_with fail
      go_region_held3 (fun _ => True) (trivial)
        (first
          | (go_at_call 6; refine (crcAwake_any w8).mono ?_; rintro e w9 ⟨rfl, hb9⟩; have hB9 := hB8.trans (hb9.mono hB8.size))
          | (go_at_call 8; (with_reducible refine (HCM.out _ _ ?_ ?_ ?_).mono ?_); (first | (with_reducible exact hB7.alloc hB7.size _) | (with_reducible exact hB7)); (first | (with_reducible exact lt_al w7 _) | (with_reducible exact hs81) | (with_reducible exact hs82)); (first | ((with_reducible refine new_cell w7 _ _ 0 _ ?_); rfl) | (with_reducible exact hc81) | (with_reducible exact hc82)); rintro e w8 ⟨rfl, hb8⟩; (first | (with_reducible have hB8 := (hB7.alloc hB7.size _).trans (hb8.mono (Nat.le_trans hB7.size (alloc_le w7 _)))) | (with_reducible have hB8 := hB7.trans (hb8.mono hB7.size))))
          | (go_at_call 8; (with_reducible refine (HCX.out _ _ ?_ ?_ ?_).mono ?_); (first | (with_reducible exact hB6.alloc hB6.size _) | (with_reducible exact below_al2 hB6 hB6.size _ _)); (first | (with_reducible exact lt_al w6 _) | (with_reducible exact lt_al2 w6 _ _) | (with_reducible exact lt_al3 w6 _ _)); (first | ((with_reducible refine new_cell w6 _ _ 0 _ ?_); rfl) | ((with_reducible refine old_cell w6 _ _ _ 0 _ ?_); rfl) | ((with_reducible refine new_cell2 w6 _ _ _ 0 _ ?_); rfl)); rintro e w7 ⟨rfl, hb7⟩; (first | (with_reducible have hB7 := (hB6.alloc hB6.size _).trans (hb7.mono (Nat.le_trans hB6.size (alloc_le w6 _)))) | (with_reducible have hB7 := (below_al2 hB6 hB6.size _ _).trans (hb7.mono (below_al2 hB6 hB6.size _ _).size))); (try (with_reducible have hs82 := Nat.lt_of_lt_of_le (lt_al2 w6 _ _) hb7.size)); (try (with_reducible have hs81 := Nat.lt_of_lt_of_le (lt_al3 w6 _ _) hb7.size)); (try (with_reducible have hc81 := hb7.cell (p := ⟨w6.heap.size + 1, 0, none⟩) (lt_al3 w6 _ _))); (try (rw [new_cell2 w6 (.cells #[.slice A8 L c8] 22) #[.slice A5 L c5] 22 0 (.slice A5 L c5) rfl] at hc81)); (try (with_reducible have hc82 := hb7.cell (p := ⟨w6.heap.size, 0, none⟩) (lt_al2 w6 _ _))); (try (rw [old_cell w6 (.cells #[.slice A8 L c8] 22) #[.slice A5 L c5] 22 0 (.slice A5 L c5) rfl] at hc82)))
          | (go_at_call 8; have hB56 : Below w2.heap.size w2 (w5.alloc (.cells #[.slice A3 k c3, .slice A4 (L - k) c4] 22)) := hB5.alloc hB5.size _; have C := HC2.out _ w5.heap.size hB56 (lt_al w5 _) (new_cell w5 _ _ 0 _ rfl) (new_cell w5 _ _ 1 _ rfl); (with_reducible refine C.mono ?_); clear C; rintro e w6 ⟨rfl, hb6⟩; have hB6 := hB56.trans (hb6.mono hB56.size))
          | (go_at_call 8; have C := HC1.out _ w2.heap.size hB0 (lt_al w2 _) HN1.out; (with_reducible refine C.mono ?_); clear C; rintro e w5 ⟨rfl, hb5⟩; have hB5 := hB0.trans (hb5.mono hB0.size))
          | fail)
      all_goals
        go_wp2_with fail
        go_ret
        exact ⟨rfl, hbw2.trans (hB9.mono hbw2.size)⟩
end Go.Proofs.Ytpecdlafeelkoaa
