/-
  BlobGets: what any part gets of any bytes: the law's walk, from what blob's functions tell. Printed with genselaws.py.
-/
import Derived.Test.YtifkkpfiejiojaaDoorSeAwake
import Derived.Test.YtifkkpfiejiojaaDoorSeGet
namespace Go.Proofs.YtifkkpfiejiojaaDoor
set_option maxRecDepth 20000
open Go.RowKit
attribute [local go_sem ↓] exec_load_se exec_alloc_se exec_store_se exec_eq_se
set_option maxHeartbeats 6400000 in
theorem lawBlobGets_any (hG : SeGetOk) (hA : ∀ w, Kst 1 w → Calls Tryd.prog 10 #[] w fun e w' => e = .returned (.bool true) ∧ Below w.heap.size w w')
    (i : Int) (v : Value) (l : List UInt8) (w : World) (hi : (Lit.int .i64 i).wf = true) (hv : Byt w v l) (hK : Kst 1 w) (hK2 : Kst 0 w) :
    Calls Tryd.prog 4 #[.int .i64 i, v] w fun e w' => e = .returned (.bool true) ∧ Below w.heap.size w w' := by
  have HA : Hid (∀ W, Below w.heap.size w W → Calls Tryd.prog 10 #[] W fun e w' => e = .returned (.bool true) ∧ Below W.heap.size W w') := hid (fun W h => hA W (hK.below h))
  have HK2 := hid (fun W (h : Below w.heap.size w W) => (show Kst 0 W from hK2.below h))
  have hm := hv.len
  unfold maxLen at hm
  obtain ⟨A1, c1, rfl⟩ := hv.shape
  obtain ⟨L, HL⟩ : ∃ n : Nat, Hid (l.length = n) := ⟨_, hid rfl⟩
  rw [HL.out] at hv hm ⊢
  have HV := hid (fun W (h : Below w.heap.size w W) => hv.below h)
  go_enter Tryd.func4, Tryd.ntmps4
  by_cases h1 : (300 : Int) < (L : Int)
  · clear hv hm
    go_wp2_with fail
    refine (HA.out w (Below.refl _ _)).mono ?_
    rintro e w1 ⟨rfl, hb1⟩
    go_wp2_with fail
    go_ret
    exact ⟨rfl, hb1⟩
  · obtain ⟨n, HN⟩ : ∃ x : Int, Hid ((getB i l).1 = x) := ⟨_, hid rfl⟩
    obtain ⟨s, HS⟩ : ∃ x : SeM, Hid ((getB i l).2.1 = x) := ⟨_, hid rfl⟩
    obtain ⟨er, HE⟩ : ∃ x : Int, Hid ((getB i l).2.2 = x) := ⟨_, hid rfl⟩
    have hok : s.Ok := by rw [← HS.out]; exact getB_ok i l
    obtain ⟨S, HSC⟩ : ∃ C : Array Value, Hid (sec s = C) := ⟨_, hid rfl⟩
    obtain ⟨Z, HZ⟩ : ∃ C : Array Value, Hid (sec seZ = C) := ⟨_, hid rfl⟩
    have hl3 : l.length ≤ 1000000 := by rw [HL.out]; omega
    have HGT : Hid (∀ W, Below w.heap.size w W → Calls Tryd.prog 11 #[.int .i64 i, .slice A1 L c1] W fun e w' => e = .returned (.tuple #[.int .i64 n, .agg S, .int .i64 er]) ∧ Below W.heap.size W w') := hid (fun W h => by
      have := hG i _ l W hi (HV.out W h) hl3 (hK.below h)
      rw [HN.out, HS.out, HE.out, HSC.out] at this
      exact this)
    have HGR : Hid (∀ W, Below w.heap.size w W → Calls Tryd.prog 14 #[.int .i64 i, .slice A1 L c1] W fun e w' => e = .returned (.tuple #[.int .i64 n, .agg S, .int .i64 er]) ∧ Below W.heap.size W w') := hid (fun W h => by
      have := refGet13_any i _ l W (HV.out W h) hl3 (HK2.out W h)
      rw [HN.out, HS.out, HE.out, HSC.out] at this
      exact this)
    have HAL : Hid (∀ W, allocSe W = .ok (.value (.pointer (some ⟨W.heap.size, 0, none⟩))) (W.alloc (.cells Z 25))) := hid (fun W => by rw [← HZ.out]; exact allocSe_eq W)
    have HZS : Hid (Z.size = 35) := hid (by rw [← HZ.out]; exact sec_size seZ_ok)
    have HSS : Hid (S.size = 35) := hid (by rw [← HSC.out]; exact sec_size hok)
    have HS1 : Hid (S.all (·.oneCell') = true) := hid (by rw [← HSC.out]; exact sec_one _)
    have HEQ : Hid (∀ W, eqSe (.agg S) (.agg S) W = .ok (.value (.bool true)) W) := hid (fun W => by
      have := eqSe_eq s s hok hok W
      rw [HSC.out, decide_eq_true rfl] at this
      exact this)
    clear hG hA hi hv hm hK hK2 hl3 hok HL
    go_wp2_with fail
    refine (HGT.out w (Below.refl _ _)).mono ?_
    rintro e w1 ⟨rfl, hb1⟩
    have hal := HAL.out
    have hs1 := se_var w1 HZS.out HSS.out HS1.out
    have hr1 := heap_alloc_new w1 (.cells S 25)
    have hb2 : Below w.heap.size w (w1.alloc (.cells S 25)) := hb1.alloc hb1.size _
    clear hb1
    go_upto_region 4 with (fail)
    generalize w1.alloc (.cells S 25) = w2 at *
    clear hal hs1
    go_wp2_with fail
    refine (HGR.out w2 hb2).mono ?_
    rintro e w3 ⟨rfl, hb3⟩
    have hal := HAL.out
    have hs3 := se_var w3 HZS.out HSS.out HS1.out
    have hr3 := heap_alloc_new w3 (.cells S 25)
    have hr2 := (Below.heap_alloc w3 (.cells S 25) _ (by have := hb3.size; have := lt_of_block hr1; omega)).trans ((hb3.block _ (lt_of_block hr1)).trans hr1)
    have hb4 : Below w.heap.size w (w3.alloc (.cells S 25)) := (hb2.trans (hb3.mono hb2.size)).alloc (Nat.le_trans hb2.size hb3.size) _
    clear hb3 hr1
    go_upto_region 5 with (fail)
    generalize w3.alloc (.cells S 25) = w4 at *
    have l2 := loadSe_row hr2 HSS.out
    have l4 := loadSe_row hr3 HSS.out
    have heq := HEQ.out
    clear hal hs3 hr2 hr3
    go_wp2_with fail
    refine (HA.out w4 hb4).mono ?_
    rintro e w5 ⟨rfl, hb5⟩
    go_wp2_with fail
    go_ret
    exact ⟨rfl, hb4.trans (hb5.mono hb4.size)⟩
end Go.Proofs.YtifkkpfiejiojaaDoor
