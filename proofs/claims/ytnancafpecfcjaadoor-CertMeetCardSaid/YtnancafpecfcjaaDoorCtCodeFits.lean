/-
  cert.fits: whether a certificate has bytes.
-/
import Derived.Test.YtnancafpecfcjaaDoorCtCodeWith
import Derived.Test.YtnancafpecfcjaaDoorCtCodeRise
import Derived.Test.YtnancafpecfcjaaDoorBs11
namespace Go.Proofs.YtnancafpecfcjaaDoor
set_option maxRecDepth 20000
open Go.RowKit
attribute [local go_sem ↓] exec_load_att exec_load_ct exec_build_sg1 exec_load_hash exec_build_hash

set_option maxHeartbeats 1600000 in
theorem ctFits_any (v : Value) (c : CtM) (w : World) (hv : CtV w v c) (hl : c.sg.length ≤ 1000) :
    Calls Tryd.prog 32 #[v] w fun e w' => e = .returned (.bool (mayC c)) ∧ Below w.heap.size w w' := by
  obtain ⟨s, rfl, ho, ht⟩ := hv
  have hb0 : Below w.heap.size w (w.alloc (.cells (ctc c s) 30)) := (Below.refl _ _).alloc (Nat.le_refl _) _
  have hr0 := heap_alloc_new w (.cells (ctc c s) 30)
  obtain ⟨A, k, rfl⟩ := ht.shape
  have HT := hid (fun W (h : Below w.heap.size w W) => ht.below h)
  have HLL := hid hl
  have HSO := hid ho.sg
  obtain ⟨L, HL⟩ : ∃ n : Nat, Hid (c.sg.length = n) := ⟨_, hid rfl⟩
  rw [HL.out] at hr0 hb0 HT ⊢
  obtain ⟨C, HC⟩ : ∃ C : Array Value, Hid (ctc c (.slice A L k) = C) := ⟨_, hid rfl⟩
  rw [HC.out] at hr0 hb0 ⊢
  obtain ⟨ans, HAN⟩ : ∃ q : Bool, Hid (mayC c = q) := ⟨_, hid rfl⟩
  obtain ⟨n, HN⟩ : ∃ n : Int, Hid (c.att.bo = n) := ⟨_, hid rfl⟩
  obtain ⟨q1, HQ1⟩ : ∃ q : Bool, Hid (decide (c.att.tg = z32) = q) := ⟨_, hid rfl⟩
  obtain ⟨m, HM⟩ : ∃ q : Bool, Hid (mayA (withC c.att ⟨1, z32⟩) = q) := ⟨_, hid rfl⟩
  obtain ⟨r, HR⟩ : ∃ q : Bool, Hid ((decide (0 < c.sg.length) && risesB 21 0 c.sg) = q) := ⟨_, hid rfl⟩
  have HMC : Hid (ans = ((decide (n = 0) && q1) && (m && r))) := hid (by rw [← HAN.out]; unfold mayC bareC; rw [HN.out, HQ1.out, HM.out, HR.out])
  rw [HAN.out]
  have hw1 : (withC c.att ⟨1, z32⟩).Ok := withC_ok ho.att rfl
  have HWI : Hid (∀ W, Calls Tryd.prog 28 #[.agg (atc c.att), .agg (sgc ⟨1, z32⟩)] W fun e w' => e = .returned (.agg (atc (withC c.att ⟨1, z32⟩))) ∧ Below W.heap.size W w') := hid (fun W => ctWith_any c.att ⟨1, z32⟩ W ho.att rfl)
  have HMA : Hid (∀ W, Calls Tryd.prog 48 #[.agg (atc (withC c.att ⟨1, z32⟩))] W fun e w' => e = .returned (.int .i64 (if m = true then 0 else 1)) ∧ Below W.heap.size W w') := hid (fun W => by
    have := atCheck_ok _ W hw1
    rw [HM.out] at this
    exact this)
  have HRI : Hid (∀ W, Below w.heap.size w W → Calls Tryd.prog 56 #[.slice A L k] W fun e w' => e = .returned (.bool r) ∧ Below W.heap.size W w') := hid (fun W h => by
    have := ctRise_any (.slice A L k) c.sg W (HT.out W h) HSO.out HLL.out
    rw [HR.out] at this
    exact this)
  obtain ⟨G, HG⟩ : ∃ C : Array Value, Hid (atc c.att = C) := ⟨_, hid rfl⟩
  obtain ⟨S, HS⟩ : ∃ C : Array Value, Hid (sgc ⟨1, z32⟩ = C) := ⟨_, hid rfl⟩
  obtain ⟨X, HX⟩ : ∃ C : Array Value, Hid (atc (withC c.att ⟨1, z32⟩) = C) := ⟨_, hid rfl⟩
  rw [HG.out, HS.out, HX.out] at HWI
  rw [HX.out] at HMA
  obtain ⟨T, HTT⟩ : ∃ C : Array Value, Hid (hcells c.att.tg = C) := ⟨_, hid rfl⟩
  obtain ⟨O, HO⟩ : ∃ C : Array Value, Hid (hcells z32 = C) := ⟨_, hid rfl⟩
  have HLD : Hid (∀ W : World, W.heap[w.heap.size]? = some (.cells C 30 (0, 0)) → (W.cell? ⟨w.heap.size, 0, none⟩ = some (.int .i64 n) ∧ loadH (.pointer (some ⟨w.heap.size, 69, none⟩)) W = .ok (.value (.agg T)) W) ∧ loadAtt (.pointer (some ⟨w.heap.size, 0, none⟩)) W = .ok (.value (.agg G)) W ∧ W.cell? ⟨w.heap.size, 101, none⟩ = some (.slice A L k)) := hid (fun W h => by
    rw [← HC.out] at h
    have hBC : BoxC W w.heap.size c (.slice A L k) := h
    have k0 := hBC.bo
    have k1 := loadH_mid (hBC.tag ho.att) ho.att.tg
    rw [HN.out] at k0
    rw [HTT.out] at k1
    refine ⟨⟨k0, k1⟩, ?_, hBC.sigs ho.att⟩
    rw [← HG.out]
    exact loadAtt_in hBC.att ho.att)
  have heq := fun W => eq_hash c.att.tg z32 ho.att.tg rfl W
  rw [HQ1.out, HTT.out, HO.out] at heq
  have hbz : ∀ W, buildH W = .ok (.value (.agg O)) W := fun W => by rw [← HO.out, buildH_eq, fcells_nought]; rfl
  clear ho ht hw1 hl
  go_enter Tryd.func32, Tryd.ntmps32
  go_upto_region 1 with (fail)
  generalize (w.alloc (.cells C 30)) = w0 at *
  have hl0 := lt_of_block hr0
  have HF := hid (fun W (h : Below w0.heap.size w0 W) => HLD.out W ((h.block _ hl0).trans hr0))
  obtain ⟨⟨k0, k1⟩, la, c0⟩ := HF.out w0 (Below.refl _ _)
  clear hr0 hl0
  by_cases h0 : n = 0
  · subst h0
    cases q1 with
    | false =>
      obtain rfl : ans = false := by rw [HMC.out]; rfl
      clear la c0
      go_wp2_with fail
      go_ret
      exact ⟨rfl, hb0⟩
    | true =>
      have HMC2 : Hid (ans = (m && r)) := hid (by rw [HMC.out]; rfl)
      go_upto_region 3 with (fail)
      clear k0 k1 c0 heq hbz
      go_wp2_with fail
      rw [HS.out]
      refine (HWI.out w0).mono ?_
      rintro e w2 ⟨rfl, hb2⟩
      have hB2 := hb0.trans (hb2.mono hb0.size)
      clear la
      go_wp2_with fail
      refine (HMA.out w2).mono ?_
      rintro e w3 ⟨rfl, hb3'⟩
      have hb3 := hb2.trans (hb3'.mono hb2.size)
      have hB3 := hB2.trans (hb3'.mono hB2.size)
      clear hb2 hb3' hB2
      cases m with
      | false =>
        obtain rfl : ans = false := HMC2.out
        simp only [Bool.false_eq_true, if_false]
        go_wp2_with fail
        go_ret
        exact ⟨rfl, hB3⟩
      | true =>
        have c3 := (HF.out w3 hb3).2.2
        simp only [if_true]
        go_wp2_with fail
        refine (HRI.out w3 hB3).mono ?_
        rintro e w4 ⟨rfl, hb4⟩
        have hB4 := hB3.trans (hb4.mono hB3.size)
        obtain rfl : ans = r := HMC2.out
        clear c3
        go_wp2_with fail
        go_ret
        exact ⟨rfl, hB4⟩
  · have h1 : (n != 0) = true := by simpa using h0
    obtain rfl : ans = false := by rw [HMC.out, decide_eq_false h0]; rfl
    clear h0 k1 la c0 heq hbz
    go_wp2_with fail
    go_ret
    exact ⟨rfl, hb0⟩
end Go.Proofs.YtnancafpecfcjaaDoor
