/-
  att.number, att.tagged: what is tagged.
-/
import Derived.Test.YtmhchihcgliinaaDoorAtOk
import Derived.Test.YtmhchihcgliinaaDoorBs2
import Derived.Test.YtmhchihcgliinaaDoorBs1
namespace Go.Proofs.YtmhchihcgliinaaDoor
set_option maxRecDepth 20000
open Go.RowKit
attribute [local go_sem ↓] exec_load_hash

theorem atnum_any (v : Value) (l : List UInt8) (n : Int) (w : World) (hv : Byt w v l) (h0 : 0 ≤ n) (h1 : n < 9223372036854775808) (hs : l.length ≤ 1099511627000) :
    Calls Tryd.prog 20 #[v, .int .i64 n] w fun e w' => ∃ x, e = .returned x ∧ Own w.heap.size w' x (l ++ dg n.toNat) ∧ Below w.heap.size w w' := by
  have hw : IntKind.u64.wrap n = n := wrap_u64 _ (by omega) (by omega)
  go_enter Tryd.func20, Tryd.ntmps20
  go_wp2_with fail
  refine (num_any v l n w hv h0 (by omega) hs).mono ?_
  rintro e w1 ⟨v1, rfl, ho1, hb1⟩
  go_wp2_with fail
  go_ret
  exact ⟨_, rfl, ho1, hb1⟩

set_option maxHeartbeats 3200000 in
theorem attagged_any (a : AtM) (w : World) (ho : a.Ok) (hm : mayA a = true) :
    Calls Tryd.prog 21 #[.agg (atc a)] w fun e w' => ∃ x, e = .returned x ∧ Own w.heap.size w' x (taggedA a) ∧ Below w.heap.size w w' := by
  obtain ⟨h1, h2, h3, h4, h5, h6, h7, h8, h9⟩ := mayA_iff hm
  have hb0 : Below w.heap.size w (w.alloc (.cells (atc a) 25)) := (Below.refl _ _).alloc (Nat.le_refl _) _
  have hA := BoxA.new w a
  obtain ⟨C, HC⟩ : ∃ C : Array Value, Hid (atc a = C) := ⟨_, hid rfl⟩
  obtain ⟨O, HO⟩ : ∃ O : List UInt8, Hid (taggedA a = O) := ⟨_, hid rfl⟩
  rw [HC.out] at hb0 hA ⊢
  rw [HO.out]
  have HOK := hid ho
  have HA := hid hA
  clear hA HC hm ho
  obtain ⟨bo, ki, vi, ph, ha, pv, pa, tg⟩ := a
  simp only at h1 h2 h3 h4 h5 h6 h7 h8 h9
  obtain ⟨k, rfl⟩ := nat_of (i := ki) (by omega)
  obtain ⟨v, rfl⟩ := nat_of (i := vi) (by omega)
  obtain ⟨p, rfl⟩ := nat_of (i := ph) (by omega)
  obtain ⟨q, rfl⟩ := nat_of (i := pv) (by omega)
  have HLK := hid (dg_len10 (n := k) (by omega))
  have HLV := hid (dg_len10 (n := v) (by omega))
  have HLP := hid (dg_len10 (n := p) (by omega))
  have HLQ := hid (dg_len10 (n := q) (by omega))
  have HB : Hid (k < 9223372036854775808 ∧ v < 9223372036854775808 ∧ p < 9223372036854775808 ∧ q < 9223372036854775808) := hid (by omega)
  have hha : ha.length = 32 := HOK.out.ha
  have hpa : pa.length = 32 := HOK.out.pa
  have HHL := hid (show ha.length = 32 ∧ pa.length = 32 from ⟨hha, hpa⟩)
  have HO2 : Hid (O = dg k ++ (dg v ++ (dg p ++ (ha ++ (dg q ++ pa))))) := hid (by rw [← HO.out]; unfold taggedA; simp)
  clear h1 h2 h3 h4 h5 h6 h7 h8 h9 hha hpa HO
  go_enter Tryd.func21, Tryd.ntmps21
  go_upto_region 1 with (fail)
  generalize (w.alloc (.cells C 25)) = w0 at *
  have HX : Hid (∀ W : World, Below w0.heap.size w0 W → W.cell? ⟨w.heap.size, 1, none⟩ = some (.int .i64 (k : Int)) ∧ W.cell? ⟨w.heap.size, 2, none⟩ = some (.int .i64 (v : Int)) ∧ W.cell? ⟨w.heap.size, 3, none⟩ = some (.int .i64 (p : Int)) ∧ W.cell? ⟨w.heap.size, 36, none⟩ = some (.int .i64 (q : Int)) ∧ loadH (.pointer (some ⟨w.heap.size, 4, none⟩)) W = .ok (.value (.agg (hcells ha))) W ∧ loadH (.pointer (some ⟨w.heap.size, 37, none⟩)) W = .ok (.value (.agg (hcells pa))) W) := hid (fun W h => by
    have hW := HA.out.keep h
    exact ⟨hW.cells.2.1, hW.cells.2.2.1, hW.cells.2.2.2, hW.pv HOK.out, loadH_mid hW.hash HOK.out.ha, loadH_mid (hW.phash HOK.out) HOK.out.pa⟩)
  have HB0 := hid hb0
  have d1 := (HX.out w0 (Below.refl _ _)).1
  clear HA hb0
  go_wp2_with fail
  refine (atnum_any _ [] (k : Int) w0 (Byt.nil _) (by omega) (by have := HB.out; omega) (by decide)).mono ?_
  rintro e w1 ⟨v1, rfl, ho1, hb1⟩
  rw [Int.toNat_natCast, List.nil_append] at ho1
  have d2 := (HX.out w1 hb1).2.1
  clear d1
  go_wp2_with fail
  refine (atnum_any _ _ (v : Int) w1 ho1.byt (by omega) (by have := HB.out; omega) (by have := HLK.out; omega)).mono ?_
  rintro e w2 ⟨v2, rfl, ho2, hb2'⟩
  have hb2 := hb1.trans (hb2'.mono hb1.size)
  rw [Int.toNat_natCast] at ho2
  have d3 := (HX.out w2 hb2).2.2.1
  clear d2 hb2'
  go_wp2_with fail
  refine (atnum_any _ _ (p : Int) w2 ho2.byt (by omega) (by have := HB.out; omega) (by rw [List.length_append]; have := HLK.out; have := HLV.out; omega)).mono ?_
  rintro e w3 ⟨v3, rfl, ho3, hb3'⟩
  have hb3 := hb2.trans (hb3'.mono hb2.size)
  rw [Int.toNat_natCast] at ho3
  have d4 := (HX.out w3 hb3).2.2.2.2.1
  clear d3 hb3'
  go_wp2_with fail
  refine (hash_any _ _ ha w3 ho3.byt (by simp only [List.length_append]; have := HLK.out; have := HLV.out; have := HLP.out; omega) HHL.out.1).mono ?_
  rintro e w4 ⟨v4, rfl, ho4, hb4'⟩
  have hb4 := hb3.trans (hb4'.mono hb3.size)
  have d5 := (HX.out w4 hb4).2.2.2.1
  clear d4 hb4'
  go_wp2_with fail
  refine (atnum_any _ _ (q : Int) w4 ho4.byt (by omega) (by have := HB.out; omega) (by simp only [List.length_append]; have := HLK.out; have := HLV.out; have := HLP.out; have := HHL.out.1; omega)).mono ?_
  rintro e w5 ⟨v5, rfl, ho5, hb5'⟩
  have hb5 := hb4.trans (hb5'.mono hb4.size)
  rw [Int.toNat_natCast] at ho5
  have d6 := (HX.out w5 hb5).2.2.2.2.2
  clear d5 hb5'
  go_wp2_with fail
  refine (hash_any _ _ pa w5 ho5.byt (by simp only [List.length_append]; have := HLK.out; have := HLV.out; have := HLP.out; have := HLQ.out; have := HHL.out.1; omega) HHL.out.2).mono ?_
  rintro e w6 ⟨v6, rfl, ho6, hb6'⟩
  have hb6 := hb5.trans (hb6'.mono hb5.size)
  clear d6
  go_wp2_with fail
  go_ret
  refine ⟨v6, rfl, ?_, HB0.out.trans (hb6.mono HB0.out.size)⟩
  rw [HO2.out]
  simp only [List.append_assoc] at ho6
  exact ho6.more (by have := HB0.out.size; have := hb5.size; omega)
end Go.Proofs.YtmhchihcgliinaaDoor
