/-
  The laws' small example returns true, from what blob's functions tell. Printed with genselaws.py.
-/
import Derived.Test.YtifkkpfiejiojaaDoorSeExample
import Derived.Test.YtifkkpfiejiojaaDoorSeRd
namespace Go.Proofs.YtifkkpfiejiojaaDoor
set_option maxRecDepth 20000
open Go.RowKit
theorem setSe_alloc (w : World) (T : TypeId) (C0 C : Array Value) : setSe (w.alloc (.cells C0 T)) w.heap.size C = w.alloc (.cells C T) := by
  have hm : ∀ (a : Array Obj) (x : Obj) (f : Obj → Obj), (a.push x).modify a.size f = a.push (f x) := by
    intro a x f
    apply Array.ext_getElem?
    intro k
    rw [Array.getElem?_modify]
    by_cases h : a.size = k
    · subst h
      simp
    · rw [if_neg h, Array.getElem?_push, Array.getElem?_push]
      rw [if_neg (fun e => h e.symm), if_neg (fun e => h e.symm)]
  unfold setSe World.setRow World.alloc
  simp only [hm]
theorem se_var (w : World) {Z S : Array Value} (hZ : Z.size = 35) (hS : S.size = 35) (h1 : S.all (·.oneCell') = true) :
    storeSe (.pointer (some ⟨w.heap.size, 0, none⟩)) (.agg S) (w.alloc (.cells Z 25)) = .ok .skip (w.alloc (.cells S 25)) := by
  rw [storeSe_eq (heap_alloc_new w _) hZ hS h1, setSe_alloc]
attribute [local go_sem ↓] exec_alloc_se exec_store_se exec_build_se
set_option maxHeartbeats 3200000 in
theorem seAwake_any (hP : SePutOk) (hG : SeGetOk) (w : World) (hK : Kst 1 w) : Calls Tryd.prog 10 #[] w fun e w' => e = .returned (.bool true) ∧ Below w.heap.size w w' := by
  obtain ⟨B, HB⟩ : ∃ l : List UInt8, Hid (blobS 2 1 seZ = l) := ⟨_, hid rfl⟩
  obtain ⟨Z, HZ⟩ : ∃ C : Array Value, Hid (sec seZ = C) := ⟨_, hid rfl⟩
  have HBL : Hid (B.length = 68) := hid (by rw [← HB.out]; exact exS_len)
  have HPU : Hid (∀ W, Below w.heap.size w W → Calls Tryd.prog 5 #[.int .i64 2, .int .i64 1, .agg Z] W fun e w' => ∃ x, e = .returned (.tuple #[x, .int .i64 0]) ∧ Byt w' x B ∧ Below W.heap.size W w') := hid (fun W h => by
    have := hP 2 1 seZ W (by decide) (by decide) seZ_ok (hK.below h)
    rw [exS_put, if_pos rfl, if_pos rfl, HB.out, HZ.out] at this
    exact this)
  have HG2 : Hid (∀ v W, Below w.heap.size w W → Byt W v B → Calls Tryd.prog 11 #[.int .i64 2, v] W fun e w' => e = .returned (.tuple #[.int .i64 1, .agg Z, .int .i64 0]) ∧ Below W.heap.size W w') := hid (fun v W h hb => by
    have := hG 2 v B W (by decide) hb (by rw [HBL.out]; decide) (hK.below h)
    rw [← HB.out, exS_get2, HZ.out] at this
    exact this)
  have HG3 : Hid (∀ v W, Below w.heap.size w W → Byt W v B → Calls Tryd.prog 11 #[.int .i64 3, v] W fun e w' => e = .returned (.tuple #[.int .i64 0, .agg Z, .int .i64 7]) ∧ Below W.heap.size W w') := hid (fun v W h hb => by
    have := hG 3 v B W (by decide) hb (by rw [HBL.out]; decide) (hK.below h)
    rw [← HB.out, exS_get3, HZ.out] at this
    exact this)
  have hbz : ∀ W, buildSe W = .ok (.value (.agg Z)) W := fun W => by rw [← HZ.out]; exact buildSe_eq W
  have HAL : Hid (∀ W, allocSe W = .ok (.value (.pointer (some ⟨W.heap.size, 0, none⟩))) (W.alloc (.cells Z 25))) := hid (fun W => by rw [← HZ.out]; exact allocSe_eq W)
  have HZS : Hid (Z.size = 35) := hid (by rw [← HZ.out]; exact sec_size seZ_ok)
  have HZ1 : Hid (Z.all (·.oneCell') = true) := hid (by rw [← HZ.out]; exact sec_one _)
  go_enter Tryd.func10, Tryd.ntmps10
  go_wp2_with fail
  refine (HPU.out w (Below.refl _ _)).mono ?_
  rintro e w1 ⟨v1, rfl, hy1, hb1⟩
  obtain ⟨A1, c1, rfl⟩ := hy1.shape
  rw [HBL.out] at hy1 ⊢
  clear hbz
  go_wp2_with fail
  refine (HG2.out _ w1 hb1 hy1).mono ?_
  rintro e w2 ⟨rfl, hb2'⟩
  have hal := HAL.out
  have hs2 := se_var w2 HZS.out HZS.out HZ1.out
  have hb2 := hb1.trans (hb2'.mono hb1.size)
  have hy2 := (hy1.below hb2').alloc (.cells Z 25)
  have hb3 : Below w.heap.size w (w2.alloc (.cells Z 25)) := hb2.alloc hb2.size _
  clear hb2' hy1
  go_upto_region 3 with (fail)
  generalize w2.alloc (.cells Z 25) = w3 at *
  clear hal hs2
  go_wp2_with fail
  refine (HG3.out _ w3 hb3 hy2).mono ?_
  rintro e w4 ⟨rfl, hb4'⟩
  have hal := HAL.out
  have hs4 := se_var w4 HZS.out HZS.out HZ1.out
  have hb4 := hb3.trans (hb4'.mono hb3.size)
  have hb5 : Below w.heap.size w (w4.alloc (.cells Z 25)) := hb4.alloc hb4.size _
  clear hb4' hy2
  go_upto_region 4 with (fail)
  generalize w4.alloc (.cells Z 25) = w5 at *
  clear hal hs4
  go_wp2_with fail
  go_ret
  exact ⟨rfl, hb5⟩
end Go.Proofs.YtifkkpfiejiojaaDoor
