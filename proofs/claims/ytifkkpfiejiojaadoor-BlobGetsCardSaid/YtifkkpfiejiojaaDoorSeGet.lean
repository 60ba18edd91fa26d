/-
  tithingref13.Get: the version and the seal of a blob. Printed with genseget.py.
-/
import Derived.Test.YtifkkpfiejiojaaDoorSePut
import Derived.Test.YtifkkpfiejiojaaDoorSeRd
namespace Go.Proofs.YtifkkpfiejiojaaDoor
set_option maxRecDepth 20000
open Go.RowKit
attribute [local go_sem ↓] exec_load_se exec_alloc_se exec_store_se exec_build_se
set_option maxHeartbeats 6400000 in
theorem refGet13_any (i : Int) (v : Value) (l : List UInt8) (w : World) (hv : Byt w v l) (hl : l.length ≤ 1000000) (hK : Kst 0 w) :
    Calls Tryd.prog 14 #[.int .i64 i, v] w fun e w' => e = .returned (.tuple #[.int .i64 (getB i l).1, .agg (sec (getB i l).2.1), .int .i64 (getB i l).2.2]) ∧ Below w.heap.size w w' := by
  obtain ⟨A, c, rfl⟩ := hv.shape
  have HH := hid (fun p r (hp : p ≤ l.length) (w' : World) (hb : Below w.heap.size w w') => refHash_any A c p r l w' (hv.below hb) hp (by omega))
  have HU := hid (fun p r (hp : p ≤ l.length) m (h1 : -9223372036854775808 ≤ m) (h2 : m ≤ 9223372036854775807) (w' : World) (hb : Below w.heap.size w w') => refUpto_any A c p r l m w' (hv.below hb) hp (by omega) h1 h2)
  have HSM := hid (fun u L (w' : World) (hb : Below w.heap.size w w') (hu : Byt w' u L) => same_any u (.slice A l.length c) L l w' hu (hv.below hb))
  have HKB := hid (fun W (h : Below w.heap.size w W) => (show Kst 0 W from hK.below h))
  obtain ⟨Z, HZ⟩ : ∃ C : Array Value, Hid (sec seZ = C) := ⟨_, hid rfl⟩
  have hbz : ∀ W, buildSe W = .ok (.value (.agg Z)) W := fun W => by rw [← HZ.out]; exact buildSe_eq W
  have hal : ∀ W, allocSe W = .ok (.value (.pointer (some ⟨W.heap.size, 0, none⟩))) (W.alloc (.cells Z 25)) := fun W => by rw [← HZ.out]; exact allocSe_eq W
  have hsz : Z.size = 35 := by rw [← HZ.out]; exact sec_size seZ_ok
  have hz1 : Z.all (·.oneCell') = true := by rw [← HZ.out]; exact sec_one _
  have hs0 : storeSe (.pointer (some ⟨w.heap.size + 1, 0, none⟩)) (.agg Z) ((w.alloc (.cells Z 25)).alloc (.cells Z 25)) = .ok .skip ((w.alloc (.cells Z 25)).alloc (.cells Z 25)) := by
    have hg := heap2 w (.cells Z 25) (.cells Z 25)
    rw [storeSe_eq hg hsz hsz hz1, setSe_self hg]
  have HSZ := hid hsz
  have HZ1 := hid hz1
  have HBZ := hid hbz
  have hst0 := GsSt.new w (.slice A l.length c) (.int .i64 0) (.bool false)
  rw [HZ.out] at hst0
  clear hv hsz hz1 hK
  go_enter Tryd.func14, Tryd.ntmps14
  go_wp2_with fail
  obtain ⟨a1, p1, r1, HA1⟩ : ∃ x q s, Hid (rdUpto 1099511627776 l 0 true = (x, q, s)) := ⟨_, _, _, hid rfl⟩
  have hp1 : p1 ≤ l.length := by have := rdUpto_pl (m := 1099511627776) (r := true) (p := 0) (l := l) (Nat.zero_le _); rw [HA1.out] at this; exact this
  have C := HU.out 0 true (Nat.zero_le _) 1099511627776 (by omega) (by omega) _ (hst0).bel
  rw [HA1.out] at C
  refine C.mono ?_
  clear C
  rintro e w1 ⟨rfl, hb⟩
  have hst : GsSt w w1 (.slice A l.length c) (.int .i64 0) (.bool false) ⟨0, 0, 0, z32⟩ := (hst0).below hb
  clear hb hst0 hs0 hbz hal
  obtain ⟨⟨c0, c1, c2⟩, ⟨k0, k1, k2⟩, g0, g3⟩ := hst.cells
  have HST := hid hst
  clear hst
  unfold rv
  go_wp2_with fail
  obtain ⟨a2, p2, r2, HA2⟩ : ∃ x q s, Hid (rdUpto 1099511627776 l p1 r1 = (x, q, s)) := ⟨_, _, _, hid rfl⟩
  have hp2 : p2 ≤ l.length := by have := rdUpto_pl (m := 1099511627776) (r := r1) (p := p1) (l := l) hp1; rw [HA2.out] at this; exact this
  have C := HU.out p1 r1 hp1 1099511627776 (by omega) (by omega) _ ((HST.out.put (.slice A l.length c) (.int .i64 (p1 : Int)) (.bool (!r1)))).bel
  rw [HA2.out] at C
  refine C.mono ?_
  clear C
  rintro e w2 ⟨rfl, hb⟩
  have hst : GsSt w w2 (.slice A l.length c) (.int .i64 (p1 : Int)) (.bool (!r1)) ⟨0, 0, 0, z32⟩ := ((HST.out.put (.slice A l.length c) (.int .i64 (p1 : Int)) (.bool (!r1)))).below hb
  clear hb HST c0 c1 c2 k0 k1 k2 g0 g3
  obtain ⟨⟨c0, c1, c2⟩, ⟨k0, k1, k2⟩, g0, g3⟩ := hst.cells
  have HST := hid hst
  clear hst
  unfold rv
  go_wp2_with fail
  obtain ⟨a3, p3, r3, HA3⟩ : ∃ x q s, Hid (rdUpto 3 l p2 r2 = (x, q, s)) := ⟨_, _, _, hid rfl⟩
  have hp3 : p3 ≤ l.length := by have := rdUpto_pl (m := 3) (r := r2) (p := p2) (l := l) hp2; rw [HA3.out] at this; exact this
  have C := HU.out p2 r2 hp2 3 (by omega) (by omega) _ (((HST.out.put (.slice A l.length c) (.int .i64 (p2 : Int)) (.bool (!r2))).cell (b := ⟨(a2 : Int), 0, 0, z32⟩) (v := .int .i64 (a2 : Int)) 0 rfl)).bel
  rw [HA3.out] at C
  refine C.mono ?_
  clear C
  rintro e w3 ⟨rfl, hb⟩
  have hst : GsSt w w3 (.slice A l.length c) (.int .i64 (p2 : Int)) (.bool (!r2)) ⟨(a2 : Int), 0, 0, z32⟩ := (((HST.out.put (.slice A l.length c) (.int .i64 (p2 : Int)) (.bool (!r2))).cell (b := ⟨(a2 : Int), 0, 0, z32⟩) (v := .int .i64 (a2 : Int)) 0 rfl)).below hb
  clear hb HST c0 c1 c2 k0 k1 k2 g0 g3
  obtain ⟨⟨c0, c1, c2⟩, ⟨k0, k1, k2⟩, g0, g3⟩ := hst.cells
  have HST := hid hst
  clear hst
  unfold rv
  go_wp2_with fail
  obtain ⟨a4, p4, r4, HA4⟩ : ∃ x q s, Hid (rdUpto 1099511627776 l p3 r3 = (x, q, s)) := ⟨_, _, _, hid rfl⟩
  have hp4 : p4 ≤ l.length := by have := rdUpto_pl (m := 1099511627776) (r := r3) (p := p3) (l := l) hp3; rw [HA4.out] at this; exact this
  have C := HU.out p3 r3 hp3 1099511627776 (by omega) (by omega) _ (((HST.out.put (.slice A l.length c) (.int .i64 (p3 : Int)) (.bool (!r3))).cell (b := ⟨(a2 : Int), (a3 : Int), 0, z32⟩) (v := .int .i64 (a3 : Int)) 1 rfl)).bel
  rw [HA4.out] at C
  refine C.mono ?_
  clear C
  rintro e w4 ⟨rfl, hb⟩
  have hst : GsSt w w4 (.slice A l.length c) (.int .i64 (p3 : Int)) (.bool (!r3)) ⟨(a2 : Int), (a3 : Int), 0, z32⟩ := (((HST.out.put (.slice A l.length c) (.int .i64 (p3 : Int)) (.bool (!r3))).cell (b := ⟨(a2 : Int), (a3 : Int), 0, z32⟩) (v := .int .i64 (a3 : Int)) 1 rfl)).below hb
  clear hb HST c0 c1 c2 k0 k1 k2 g0 g3
  obtain ⟨⟨c0, c1, c2⟩, ⟨k0, k1, k2⟩, g0, g3⟩ := hst.cells
  have HST := hid hst
  clear hst
  unfold rv
  go_wp2_with fail
  obtain ⟨h5, p5, r5, HA5⟩ : ∃ x q s, Hid (rdHash l p4 r4 = (x, q, s)) := ⟨_, _, _, hid rfl⟩
  have hp5 : p5 ≤ l.length := by have := rdHash_plS (l := l) (p := p4) (r := r4) hp4; rw [HA5.out] at this; exact this
  have HL5 : Hid (h5.length = 32) := hid (by have := rdHash_32 l p4 r4; rw [HA5.out] at this; exact this)
  have C := HH.out p4 r4 hp4 _ (((HST.out.put (.slice A l.length c) (.int .i64 (p4 : Int)) (.bool (!r4))).cell (b := ⟨(a2 : Int), (a3 : Int), (a4 : Int), z32⟩) (v := .int .i64 (a4 : Int)) 2 rfl)).bel
  rw [HA5.out] at C
  refine C.mono ?_
  clear C
  rintro e w5 ⟨rfl, hb⟩
  have hst : GsSt w w5 (.slice A l.length c) (.int .i64 (p4 : Int)) (.bool (!r4)) ⟨(a2 : Int), (a3 : Int), (a4 : Int), z32⟩ := (((HST.out.put (.slice A l.length c) (.int .i64 (p4 : Int)) (.bool (!r4))).cell (b := ⟨(a2 : Int), (a3 : Int), (a4 : Int), z32⟩) (v := .int .i64 (a4 : Int)) 2 rfl)).below hb
  clear hb HST c0 c1 c2 k0 k1 k2 g0 g3
  obtain ⟨⟨c0, c1, c2⟩, ⟨k0, k1, k2⟩, g0, g3⟩ := hst.cells
  have HST := hid hst
  clear hst
  unfold rv
  go_wp2_with (refine wpList_store_seh rfl _ _ rfl rfl rfl (HST.out.put (.slice A l.length c) (.int .i64 (p5 : Int)) (.bool (!r5))).b1 rfl HL5.out ?_; intro wP hgP hbP hsP; have HSP : Hid (GsSt w wP (.slice A l.length c) (.int .i64 (p5 : Int)) (.bool (!r5)) ⟨(a2 : Int), (a3 : Int), (a4 : Int), h5⟩) := hid ((HST.out.put (.slice A l.length c) (.int .i64 (p5 : Int)) (.bool (!r5))).se hgP hbP); obtain ⟨⟨d0, d1, d2⟩, ⟨e0, e1, e2⟩, f0, f3⟩ := HSP.out.cells; clear hgP hbP hsP)
  clear HST c0 c1 c2 k0 k1 k2 g0 g3
  obtain ⟨h6, p6, r6, HA6⟩ : ∃ x q s, Hid (rdHash l p5 r5 = (x, q, s)) := ⟨_, _, _, hid rfl⟩
  have hp6 : p6 ≤ l.length := by have := rdHash_plS (l := l) (p := p5) (r := r5) hp5; rw [HA6.out] at this; exact this
  have HL6 : Hid (h6.length = 32) := hid (by have := rdHash_32 l p5 r5; rw [HA6.out] at this; exact this)
  have C := HH.out p5 r5 hp5 _ (HSP.out).bel
  rw [HA6.out] at C
  refine C.mono ?_
  clear C
  rintro e w6 ⟨rfl, hb⟩
  have hst : GsSt w w6 (.slice A l.length c) (.int .i64 (p5 : Int)) (.bool (!r5)) ⟨(a2 : Int), (a3 : Int), (a4 : Int), h5⟩ := (HSP.out).below hb
  clear hb HSP d0 d1 d2 e0 e1 e2 f0 f3
  obtain ⟨⟨c0, c1, c2⟩, ⟨k0, k1, k2⟩, g0, g3⟩ := hst.cells
  have HST := hid hst
  clear hst
  unfold rv
  obtain ⟨a, HAT⟩ : ∃ a : SeM, Hid ((⟨(a2 : Int), (a3 : Int), (a4 : Int), h5⟩ : SeM) = a) := ⟨_, hid rfl⟩
  have HOK : Hid a.Ok := hid (by rw [← HAT.out]; exact HL5.out)
  have HRAW : Hid (rawB l = ((a1 : Int), a, h6, p6, r6)) := hid (by rw [← HAT.out]; unfold rawB; simp only [HA1.out, HA2.out, HA3.out, HA4.out, HA5.out, HA6.out])
  have hst := (HST.out.put (.slice A l.length c) (.int .i64 (p6 : Int)) (.bool (!r6)))
  rw [HAT.out] at hst
  go_upto_region 10 with (fail)
  obtain ⟨wP, HWP⟩ : ∃ W, Hid (((w6.setCell ⟨w.heap.size + 1 + 1, 0, none⟩ (.slice A l.length c)).setCell ⟨w.heap.size + 1 + 1, 1, none⟩ (.int .i64 (p6 : Int))).setCell ⟨w.heap.size + 1 + 1, 2, none⟩ (.bool (!r6)) = W) := ⟨_, hid rfl⟩
  rw [HWP.out] at hst ⊢
  have HSP := hid hst
  clear HST c0 c1 c2 k0 k1 k2 g0 g3 HA1 HA2 HA3 HA4 HA5 HA6 HAT HWP hst
  have HZB : Hid (∀ W {y0 y1 y2 : Value} {b : SeM}, GsSt w W y0 y1 y2 b → W.heap[w.heap.size]? = some (.cells Z 25 (0, 0))) := hid (fun W _ _ _ _ h => by have := h.b0; unfold BoxSe at this; rwa [HZ.out] at this)
  have HZS : Hid (∀ W {y0 y1 y2 : Value} {b : SeM}, GsSt w W y0 y1 y2 b → storeSe (.pointer (some ⟨w.heap.size, 0, none⟩)) (.agg Z) W = .ok .skip W) := hid (fun W _ _ _ _ h => by
    have hg := HZB.out W h
    rw [storeSe_eq hg HSZ.out HSZ.out HZ1.out, setSe_self hg])
  obtain ⟨⟨c0, c1, c2⟩, _, _, _⟩ := HSP.out.cells
  cases r6 with
  | false =>
    have HF := HZB.out _ (HSP.out)
    have hbz := HBZ.out
    have hsf : storeSe (.pointer (some ⟨w.heap.size, 0, none⟩)) (.agg Z) _ = _ := HZS.out _ (HSP.out)
    go_wp2_with fail
    refine bodyPost_ret (results_se rfl _ _ _ _ _ _ _ rfl rfl rfl HF HSZ.out) rfl ⟨?_, (HSP.out).bel⟩
    rw [getB_text (i := i) (by rw [textB_raw HRAW.out]; rfl), ← HZ.out]
    all_goals rfl
  | true =>
    by_cases hpl : p6 = l.length
    · have hd : ((p6 : Int) != (l.length : Int)) = false := by simp [hpl]
      have HPL := hid hpl
      clear hpl
      by_cases hv1 : (a1 : Int) < 1
      · have HV1 := hid hv1
        have HF := HZB.out _ (HSP.out)
        have hbz := HBZ.out
        have hsf : storeSe (.pointer (some ⟨w.heap.size, 0, none⟩)) (.agg Z) _ = _ := HZS.out _ (HSP.out)
        go_wp2_with fail
        refine bodyPost_ret (results_se rfl _ _ _ _ _ _ _ rfl rfl rfl HF HSZ.out) rfl ⟨?_, (HSP.out).bel⟩
        rw [getB_text (i := i) (by rw [textB_raw HRAW.out]; have := HV1.out; simp; omega), ← HZ.out]
        all_goals rfl
      · obtain ⟨CA, HCA⟩ : ∃ C : Array Value, Hid (sec a = C) := ⟨_, hid rfl⟩
        obtain ⟨m, HM⟩ : ∃ q : Bool, Hid (mayS a = q) := ⟨_, hid rfl⟩
        have HMA : Hid (∀ W, Calls Tryd.prog 6 #[.agg CA] W fun e w' => e = .returned (.bool m) ∧ Below W.heap.size W w') := hid (fun W => by
          have := refMay13_any a W HOK.out
          rw [HCA.out, HM.out] at this
          exact this)
        have HLD : Hid (∀ W, BoxSe W (w.heap.size + 1) a → loadSe (.pointer (some ⟨w.heap.size + 1, 0, none⟩)) W = .ok (.value (.agg CA)) W) := hid (fun W h => by
          have := loadSe_eq h HOK.out
          rw [HCA.out] at this
          exact this)
        have l0 := HLD.out wP HSP.out.b1
        go_wp2_with fail
        refine (HMA.out wP).mono ?_
        rintro e w7 ⟨rfl, hb7⟩
        have HS7 := hid (HSP.out.below hb7)
        have HV1 := hid hv1
        clear l0 hb7 c0 c1 c2 hd hv1
        cases m with
        | false =>
          have HF := HZB.out _ (HS7.out)
          have hbz := HBZ.out
          have hsf : storeSe (.pointer (some ⟨w.heap.size, 0, none⟩)) (.agg Z) _ = _ := HZS.out _ (HS7.out)
          go_wp2_with fail
          refine bodyPost_ret (results_se rfl _ _ _ _ _ _ _ rfl rfl rfl HF HSZ.out) rfl ⟨?_, (HS7.out).bel⟩
          rw [getB_text (i := i) (by rw [textB_raw HRAW.out]; rw [HM.out]; simp), ← HZ.out]
          all_goals rfl
        | true =>
          have HTX : Hid (textB l = true) := hid (by rw [textB_raw HRAW.out, HM.out]; have := HPL.out; have := HV1.out; simp; omega)
          have hnode : nodeB i = decide (1 ≤ i ∧ i ≤ 21) := rfl
          by_cases hi1 : i < 1
          · have HNO : Hid (nodeB i = false) := hid (by rw [hnode]; simp; omega)
            clear hnode
            have HF := HZB.out _ (HS7.out)
            have hbz := HBZ.out
            have hsf : storeSe (.pointer (some ⟨w.heap.size, 0, none⟩)) (.agg Z) _ = _ := HZS.out _ (HS7.out)
            go_wp2_with fail
            refine bodyPost_ret (results_se rfl _ _ _ _ _ _ _ rfl rfl rfl HF HSZ.out) rfl ⟨?_, (HS7.out).bel⟩
            rw [getB_tag HTX.out (by rw [HNO.out]; rintro ⟨h, _⟩; cases h), ← HZ.out]
            all_goals rfl
          by_cases hi2 : 21 < i
          · have HNO : Hid (nodeB i = false) := hid (by rw [hnode]; simp; omega)
            clear hnode
            have HF := HZB.out _ (HS7.out)
            have hbz := HBZ.out
            have hsf : storeSe (.pointer (some ⟨w.heap.size, 0, none⟩)) (.agg Z) _ = _ := HZS.out _ (HS7.out)
            go_wp2_with fail
            refine bodyPost_ret (results_se rfl _ _ _ _ _ _ _ rfl rfl rfl HF HSZ.out) rfl ⟨?_, (HS7.out).bel⟩
            rw [getB_tag HTX.out (by rw [HNO.out]; rintro ⟨h, _⟩; cases h), ← HZ.out]
            all_goals rfl
          have HYE : Hid (nodeB i = true) := hid (by rw [hnode]; simp; omega)
          have HVB : Hid (versB (a1 : Int) = true) := hid (by have := (textB_so HTX.out).2.1; rw [HRAW.out] at this; exact this)
          have HPT : Hid (∀ W, Below w.heap.size w W → Calls Tryd.prog 13 #[.int .i64 i, .int .i64 (a1 : Int), .agg CA] W fun e w' => ∃ x, e = .returned x ∧ Own W.heap.size w' x (blobS i (a1 : Int) a) ∧ Below W.heap.size W w') := hid (fun W h => by
            have := refPut13_any i (a1 : Int) a W HOK.out HVB.out HM.out (HKB.out W h)
            rw [HCA.out] at this
            exact this)
          have HEQ := hid (textB_eq i HTX.out)
          rw [HRAW.out] at HEQ
          obtain ⟨BL, HBL⟩ : ∃ L : List UInt8, Hid (blobS i (a1 : Int) a = L) := ⟨_, hid rfl⟩
          rw [HBL.out] at HPT
          simp only [HBL.out] at HEQ
          have l0 := HLD.out w7 HS7.out.b1
          clear hnode
          go_wp2_with fail
          refine (HPT.out w7 HS7.out.bel).mono ?_
          rintro e w8 ⟨x8, rfl, ho8, hb8⟩
          have HS8 := hid (HS7.out.below hb8)
          clear l0 hb8
          go_wp2_with fail
          refine (HSM.out _ BL w8 HS8.out.bel ho8.byt).mono ?_
          rintro e w9 ⟨rfl, n9, rfl⟩
          have HS9 := hid (HS8.out.below (below_drewN (Below.refl _ _) n9))
          obtain ⟨d, HD⟩ : ∃ d : Bool, Hid (decide (BL = l) = d) := ⟨_, hid rfl⟩
          rw [HD.out]
          generalize w8.drewN n9 = wQ at *
          clear ho8
          cases d with
          | false =>
            have HF := HZB.out _ (HS9.out)
            have hbz := HBZ.out
            have hsf : storeSe (.pointer (some ⟨w.heap.size, 0, none⟩)) (.agg Z) _ = _ := HZS.out _ (HS9.out)
            go_wp2_with fail
            refine bodyPost_ret (results_se rfl _ _ _ _ _ _ _ rfl rfl rfl HF HSZ.out) rfl ⟨?_, (HS9.out).bel⟩
            rw [getB_tag HTX.out (by rw [HRAW.out]; rintro ⟨_, h⟩; exact (of_decide_eq_false HD.out) (HEQ.out.2 h)), ← HZ.out]
            all_goals rfl
          | true =>
            go_upto_region 14 with (fail)
            have HXR : Hid (∀ W : World, BoxSe W (w.heap.size + 1) a → loadSe (.pointer (some ⟨w.heap.size + 1, 0, none⟩)) W = .ok (.value (.agg CA)) W) := HLD
            have HCS : Hid (CA.size = 35 ∧ CA.all (·.oneCell') = true) := hid (by rw [← HCA.out]; exact ⟨sec_size HOK.out, sec_one _⟩)
            have HB0 := hid (HZB.out _ HS9.out)
            have HB1 := hid HS9.out.b1
            have HBE := hid HS9.out.bel
            have HLT := hid HS9.out.lt
            refine wp_region_held_drew (S := fun W => loadSe (.pointer (some ⟨w.heap.size + 1, 0, none⟩)) W = .ok (.value (.agg CA)) W) (by kernel_rfl) (HXR.out wQ.drew HB1.out) (fun hHeld => ?_)
            refine' tk (i := 0) (v := _) rfl ?_ ?_
            rotate_left
            · (intro W hW; (try dsimp only at hW); go_simp; first | done | with_reducible rfl)
            try simp only [lay]
            refine' tk (i := 1) (v := _) rfl (fun W hW => hW) ?_
            try simp only [lay]
            refine' tk (i := 2) (v := _) rfl ?_ ?_
            rotate_left
            · (intro W hW; (try dsimp only at hW); go_simp; first | done | with_reducible rfl)
            try simp only [lay]
            refine call_on (i := 3) rfl (by kernel_rfl) (by rfl) (fun K hK => ?_)
            refine wp_store_se (w := wQ.drew) (C := CA) _ _ rfl rfl rfl HB0.out HCS.out.1 HSZ.out HCS.out.2 ?_
            intro wa hga hra hsa
            have h1 : BoxSe wa (w.heap.size + 1) a := (hga.block _ (by show _ < wQ.heap.size; have := HLT.out; omega) (fun e => by injection e with e; omega)).trans HB1.out
            have hBB : Below w.heap.size w wa := below_into (HBE.out.drew) (Nat.le_refl _) hga (by show _ ≤ wQ.heap.size; have := HLT.out; omega)
            refine hK.out _ _ (HXR.out wa h1) (fun hHeld => ?_)
            clear hK K
            try simp only [lay]
            refine' tk (i := 4) (v := _) rfl ?_ ?_
            rotate_left
            · (intro W hW; (try dsimp only at hW); go_simp; first | done | with_reducible rfl)
            try simp only [lay]
            refine wpAnyH_done (by kernel_rfl) ?_ _
            clear hHeld
            go_wp2_with fail
            refine bodyPost_ret (results_se rfl _ _ _ _ _ _ _ rfl rfl rfl hra HCS.out.1) rfl ⟨?_, hBB⟩
            rw [getB_yes HTX.out ⟨HYE.out, by rw [HRAW.out]; exact HEQ.out.1 (of_decide_eq_true HD.out)⟩, HRAW.out, HCA.out]
            all_goals rfl
    · have hd : ((p6 : Int) != (l.length : Int)) = true := bne_iff_ne.2 (by omega)
      have HPL := hid hpl
      clear hpl
      have HF := HZB.out _ (HSP.out)
      have hbz := HBZ.out
      have hsf : storeSe (.pointer (some ⟨w.heap.size, 0, none⟩)) (.agg Z) _ = _ := HZS.out _ (HSP.out)
      go_wp2_with fail
      refine bodyPost_ret (results_se rfl _ _ _ _ _ _ _ rfl rfl rfl HF HSZ.out) rfl ⟨?_, (HSP.out).bel⟩
      rw [getB_text (i := i) (by rw [textB_raw HRAW.out]; have := HPL.out; simp [this]), ← HZ.out]
      all_goals rfl
end Go.Proofs.YtifkkpfiejiojaaDoor
