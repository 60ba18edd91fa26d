/-
  accu.tagged: what is tagged of an accumulation.
-/
import Derived.Test.YthgdgkdnidjdgaaDoorAcCodeRise
import Derived.Test.YthgdgkdnidjdgaaDoorAcTagged
import Derived.Test.YthgdgkdnidjdgaaDoorBs2
namespace Go.Proofs.YthgdgkdnidjdgaaDoor
set_option maxRecDepth 20000
open Go.RowKit
attribute [local go_sem ↓] exec_load_hash

set_option maxHeartbeats 6400000 in
theorem acTagged_any (v : Value) (a : AcM) (w : World) (hv : AcV w v a) (hm : mayX a = true) :
    Calls Tryd.prog 29 #[v] w fun e w' => ∃ x, e = .returned x ∧ Own w.heap.size w' x (taggedX a) ∧ Below w.heap.size w w' := by
  obtain ⟨s, rfl, ho, ht⟩ := hv
  obtain ⟨_, h1, h2, h3, h4, h5, h6, h7⟩ := mayX_iff.1 hm
  obtain ⟨hfr, hl21⟩ := mayX_fr hm
  have HFR := hid hfr
  have hb0 : Below w.heap.size w (w.alloc (.cells (axc a s) 30)) := (Below.refl _ _).alloc (Nat.le_refl _) _
  have hX := BoxX.new w a s
  have ht0 := ht.below hb0
  obtain ⟨A, k, rfl⟩ := ht.shape
  obtain ⟨l, HFL⟩ : ∃ l : List Int, Hid (a.fr = l) := ⟨_, hid rfl⟩
  have HO2 : Hid (taggedX a = dg a.vi.toNat ++ (dg a.pv.toNat ++ (a.pa ++ (dg l.length ++ frB l)))) := hid (by rw [← HFL.out]; rfl)
  rw [HFL.out] at hX hb0 ht0 hl21 HFR ⊢
  obtain ⟨L, HL⟩ : ∃ n : Nat, Hid (l.length = n) := ⟨_, hid rfl⟩
  rw [HL.out] at hX hb0 ht0 hl21 HO2 ⊢
  obtain ⟨C, HC⟩ : ∃ C : Array Value, Hid (axc a (.slice A L k) = C) := ⟨_, hid rfl⟩
  obtain ⟨O, HO⟩ : ∃ O : List UInt8, Hid (taggedX a = O) := ⟨_, hid rfl⟩
  rw [HC.out] at hX hb0 ht0 ⊢
  rw [HO.out] at HO2 ⊢
  have HL21 := hid hl21
  have HOK := hid ho
  obtain ⟨vn, HVV⟩ : ∃ v : Nat, Hid (a.vi = (v : Int)) := ⟨a.vi.toNat, hid (by omega)⟩
  obtain ⟨qn, HQQ⟩ : ∃ v : Nat, Hid (a.pv = (v : Int)) := ⟨a.pv.toNat, hid (by omega)⟩
  rw [HVV.out, HQQ.out] at HO2
  simp only [Int.toNat_natCast] at HO2
  have HB : Hid (vn < 9223372036854775808 ∧ qn < 9223372036854775808) := hid (by have := HVV.out; have := HQQ.out; omega)
  have HLV := hid (dg_len10 (n := vn) (by have := HVV.out; omega))
  have HLQ := hid (dg_len10 (n := qn) (by have := HQQ.out; omega))
  have HLN := hid (dg_len10 (n := L) (by omega))
  have HHL := hid ho.pa
  have HLD : Hid (∀ W : World, W.heap[w.heap.size]? = some (.cells C 30 (0, 0)) → W.cell? ⟨w.heap.size, 1, none⟩ = some (.int .i64 (vn : Int)) ∧ W.cell? ⟨w.heap.size, 2, none⟩ = some (.int .i64 (qn : Int)) ∧ loadH (.pointer (some ⟨w.heap.size, 3, none⟩)) W = .ok (.value (.agg (hcells a.pa))) W ∧ W.cell? ⟨w.heap.size, 35, none⟩ = some (.slice A L k)) := hid (fun W h => by
    rw [← HC.out] at h
    have hB : BoxX W w.heap.size a (.slice A L k) := h
    rw [← HVV.out, ← HQQ.out]
    exact ⟨hB.ints.2.1, hB.ints.2.2, loadH_mid hB.pa HOK.out.pa, hB.fr HOK.out⟩)
  have hr0 : (w.alloc (.cells C 30)).heap[w.heap.size]? = some (.cells C 30 (0, 0)) := heap_alloc_new w _
  clear ho ht hm hl21 hfr h1 h2 h3 h4 h5 h6 h7 HO HC hX
  go_enter Tryd.func29, Tryd.ntmps29
  go_upto_region 1 with (fail)
  generalize (w.alloc (.cells C 30)) = w0 at *
  have hlr := lt_of_block hr0
  have HX := hid (fun W (h : Below w0.heap.size w0 W) => HLD.out W ((h.block _ hlr).trans hr0))
  have HTX := hid (fun W (h : Below w0.heap.size w0 W) => ht0.below h)
  have HB0 := hid hb0
  clear hr0 hlr ht0 hb0
  have d1 := (HX.out w0 (Below.refl _ _)).1
  go_wp2_with fail
  refine (acnum_any _ [] (vn : Int) w0 (Byt.nil _) (by omega) (by have := HB.out; omega) (by decide)).mono ?_
  rintro e w1 ⟨v1, rfl, ho1, hb1⟩
  rw [Int.toNat_natCast, List.nil_append] at ho1
  have d2 := (HX.out w1 hb1).2.1
  clear d1
  go_wp2_with fail
  refine (acnum_any _ _ (qn : Int) w1 ho1.byt (by omega) (by have := HB.out; omega) (by have := HLV.out; omega)).mono ?_
  rintro e w2 ⟨v2, rfl, ho2, hb2'⟩
  have hb2 := hb1.trans (hb2'.mono hb1.size)
  rw [Int.toNat_natCast] at ho2
  have d4 := (HX.out w2 hb2).2.2.1
  clear d2 hb2'
  go_wp2_with fail
  refine (hash_any _ _ a.pa w2 ho2.byt (by simp only [List.length_append]; have := HLV.out; have := HLQ.out; omega) HHL.out).mono ?_
  rintro e w4 ⟨v4, rfl, ho4, hb4'⟩
  have hb4 := hb2.trans (hb4'.mono hb2.size)
  have d7 := (HX.out w4 hb4).2.2.2
  clear d4 hb4'
  go_wp2_with fail
  refine (acnum_any _ _ (L : Int) w4 ho4.byt (by omega) (by have := HL21.out; omega) (by simp only [List.length_append]; have := HLV.out; have := HLQ.out; have := HHL.out; omega)).mono ?_
  rintro e w7 ⟨v7, rfl, ho7, hb7'⟩
  have hb7 := hb4.trans (hb7'.mono hb4.size)
  rw [Int.toNat_natCast] at ho7
  have d8 := (HX.out w7 hb7).2.2.2
  have HZB := hid hb4.size
  clear d7 hb7' ho1 ho2 ho4 hb1 hb2 hb4
  obtain ⟨P, HP⟩ : ∃ P : List UInt8, Hid (dg vn ++ dg qn ++ a.pa ++ dg L = P) := ⟨_, hid rfl⟩
  have HPL : Hid (P.length ≤ 150) := hid (by rw [← HP.out]; simp only [List.length_append]; have := HLV.out; have := HLQ.out; have := HLN.out; have := HHL.out; omega)
  rw [HP.out] at ho7
  have ho7' := ho7.more HZB.out
  clear ho7
  go_wp2_with fail
  clear d8
  go_loopw [3, 25] (fun out si wr => ∃ i : Nat, i ≤ L ∧ si = .int .i64 i ∧ Own w0.heap.size wr out (P ++ frB (l.take i)) ∧ Below w0.heap.size w0 wr) (fun _ si _ => L - (intOf si).toNat)
  case atStart => exact ⟨0, Nat.zero_le _, rfl, by rw [List.take_zero]; show Own _ _ _ (P ++ []); rw [List.append_nil]; exact ho7', hb7⟩
  case round =>
    obtain ⟨i, hi, rfl, hown, hB⟩ := hrel
    clear ho7' hb7
    by_cases hlt : i < L
    · have hil : i < l.length := by rw [HL.out]; exact hlt
      obtain ⟨g, o, rfl, hg, hcl⟩ := (HTX.out wr hB).at_.2.2.2 (by omega)
      have hsi := HFR.out _ (List.getElem_mem hil)
      have HNEW := hid (frB_snoc l i hil)
      have HFL : Hid ((frB (l.take i)).length ≤ 21) := hid (by
        rw [frB_len _ (fun x hx => HFR.out x (List.mem_of_mem_take hx)), List.length_take]
        have := HL21.out
        omega)
      have l1 : wr.cell? ⟨g, o + i, none⟩ = some (.int .i64 l[i]) := by
        have := hcl i hil 0 _ rfl
        rwa [Nat.mul_one, Nat.add_zero] at this
      obtain ⟨n, HNN⟩ : ∃ n : Nat, Hid (l[i] = (n : Int)) := ⟨(l[i]).toNat, hid (by omega)⟩
      have HN21 : Hid (n ≤ 21) := hid (by have := HNN.out; omega)
      have HNL := hid (dg_len10 (n := n) (by have := HN21.out; omega))
      rw [HNN.out] at l1 HNEW
      rw [Int.toNat_natCast] at HNEW
      obtain ⟨Q, HQ⟩ : ∃ Q : List UInt8, Hid (P ++ frB (l.take i) = Q) := ⟨_, hid rfl⟩
      have HQL : Hid (Q.length ≤ 1000) := hid (by rw [← HQ.out, List.length_append]; have := HPL.out; have := HFL.out; omega)
      rw [HQ.out] at hown
      have hI : (i : Int) < (L : Int) := by omega
      obtain ⟨QA, QC, e⟩ := hown.byt.shape
      obtain ⟨qq, HQQL⟩ : ∃ n : Nat, Hid (Q.length = n) := ⟨_, hid rfl⟩
      rw [HQQL.out] at e
      subst e
      have HLT := hid hlt
      clear hcl hg hsi
      go_wp2_with fail
      refine (acnum_any _ Q (n : Int) wr hown.byt (by omega) (by have := HN21.out; omega) (by have := HQL.out; omega)).mono ?_
      rintro e w2 ⟨v2, rfl, ho2, hb2⟩
      rw [Int.toNat_natCast] at ho2
      have HO3 : Hid (Own w0.heap.size w2 v2 (P ++ frB (l.take (i + 1)))) := hid (by
        rw [HNEW.out, ← List.append_assoc, HQ.out]
        exact ho2.more hB.size)
      have HB3 := hid (hB.trans (hb2.mono hB.size))
      have HWI : Hid (wrap64 ((i : Int) + 1) = ((i + 1 : Nat) : Int)) := hid (by have h1 := HLT.out; have h2 := HL21.out; unfold wrap64; omega)
      clear ho2 hb2 l1 hown
      go_wp2_with fail
      go_roundw
      case rel => exact ⟨i + 1, by have := HLT.out; omega, by first | rw [HWI.out] | go_num, HO3.out, HB3.out⟩
      case measure =>
        have h1 := HLT.out
        have hw := HWI.out
        (try simp only [hw]); simp [intOf]; omega
    · obtain rfl : i = L := by omega
      have htk : l.take i = l := List.take_of_length_le (by rw [HL.out]; exact Nat.le_refl _)
      rw [htk, ← HP.out] at hown
      simp only [List.append_assoc] at hown
      rw [← HO2.out] at hown
      clear htk
      go_wp2_with fail
      go_ret
      exact ⟨_, rfl, hown.more HB0.out.size, HB0.out.trans (hB.mono HB0.out.size)⟩
end Go.Proofs.YthgdgkdnidjdgaaDoor
