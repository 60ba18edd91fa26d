/-
  The laws' small example returns true, from what att's functions tell.
-/
import Derived.Test.YtmhchihcgliinaaDoorAtExample
namespace Go.Proofs.YtmhchihcgliinaaDoor
set_option maxRecDepth 20000
open Go.RowKit

theorem setAtt_alloc (w : World) (T : TypeId) (C0 C : Array Value) : setAtt (w.alloc (.cells C0 T)) w.heap.size C = w.alloc (.cells C T) := by
  have hm : ∀ (a : Array Obj) (x : Obj) (f : Obj → Obj), (a.push x).modify a.size f = a.push (f x) := by
    intro a x f
    apply Array.ext_getElem?
    intro k
    rw [Array.getElem?_modify]
    by_cases h : a.size = k
    · subst h
      simp
    · rw [if_neg h, Array.getElem?_push, Array.getElem?_push]
      rw [if_neg (fun e => h e.symm), if_neg (fun e => h e.symm)]
  unfold setAtt World.setRow World.alloc
  simp only [hm]
/-- A variable for an attestation, and what is told stored into it. -/
theorem att_var (w : World) {Z S : Array Value} (hZ : Z.size = 101) (hS : S.size = 101) (h1 : S.all (·.oneCell') = true) :
    storeAtt (.pointer (some ⟨w.heap.size, 0, none⟩)) (.agg S) (w.alloc (.cells Z 25)) = .ok .skip (w.alloc (.cells S 25)) := by
  rw [storeAtt_eq (heap_alloc_new w _) hZ hS h1, setAtt_alloc]
theorem atc_bo (a : AtM) (n : Int) : (atc a).setIfInBounds 0 (.int .i64 n) = atc { a with bo := n } := by
  unfold atc atl
  rw [List.setIfInBounds_toArray]
  rfl
/-- The small example's attestation, built. -/
noncomputable def buildEx (w : World) : Result Next := Sem.run Tryd.prog (execOp (fun _ => .int .i64 1) { dst := none, op := .build 25 #[(0, .const (.int .i64 2)), (1, .const (.int .i64 1)), (2, .const (.int .i64 3)), (3, .const (.int .i64 1)), (5, .const (.int .i64 2))], type := 0, pos := "", after := #[], guard := none }) w
theorem buildEx_run (w : World) : (Instr.build 25 #[(0, .int .i64 2), (1, .int .i64 1), (2, .int .i64 3), (3, .int .i64 1), (5, .int .i64 2)]).run Tryd.prog w = .ok (.agg (atc exA)) w := by
  go_simp
  rfl
theorem exec_build_ex (a : Act) (dst : Option Tmp) (ty : TypeId) (pos : String) (after : Array Edge) (guard : Option (Nat × Bool)) (w : World) :
    Sem.run Tryd.prog (execOp a.eval { dst := dst, op := .build 25 #[(0, .const (.int .i64 2)), (1, .const (.int .i64 1)), (2, .const (.int .i64 3)), (3, .const (.int .i64 1)), (5, .const (.int .i64 2))], type := ty, pos := pos, after := after, guard := guard }) w = .ok (.value (.agg (atc exA))) w := by
  unfold execOp
  simp [Act.eval, buildEx_run]
attribute [local go_sem ↓] exec_load_att exec_alloc_att exec_store_att exec_build_ex

set_option maxHeartbeats 3200000 in
theorem atAwake_any (hS : AtSignOk) (hR : AtRightOk) (hL : AtAlikeOk) (w : World) (hK : Kst 0 w) : Calls Tryd.prog 6 #[] w fun e w' => e = .returned (.bool true) ∧ Below w.heap.size w w' := by
  have ho := signA_ok exA_ok
  have HSI : Hid (∀ W, Below w.heap.size w W → Calls Tryd.prog 16 #[.agg (atc exA)] W fun e w' => e = .returned (.agg (atc (signA exA))) ∧ Below W.heap.size W w') := hid (fun W h => by
    exact hS exA W exA_ok exA_may (hK.below h))
  have HRA : Hid (∀ W, Below w.heap.size w W → Calls Tryd.prog 17 #[.agg (atc (signA exA))] W fun e w' => e = .returned (.bool true) ∧ Below W.heap.size W w') := hid (fun W h => by
    have := hR (signA exA) W ho (hK.below h)
    rw [right_sign exA_may] at this
    exact this)
  have HRB : Hid (∀ W, Below w.heap.size w W → Calls Tryd.prog 17 #[.agg (atc exB)] W fun e w' => e = .returned (.bool false) ∧ Below W.heap.size W w') := hid (fun W h => by
    have := hR exB W exB_ok (hK.below h)
    rw [exB_not] at this
    exact this)
  have HLI : Hid (∀ W, Calls Tryd.prog 15 #[.agg (atc (signA exA)), .agg (atc exB)] W fun e w' => e = .returned (.bool true) ∧ Below W.heap.size W w') := hid (fun W => by
    have := hL (signA exA) exB W ho exB_ok
    rw [exB_alike] at this
    exact this)
  obtain ⟨X, HX⟩ : ∃ C : Array Value, Hid (atc exA = C) := ⟨_, hid rfl⟩
  obtain ⟨S, HS⟩ : ∃ C : Array Value, Hid (atc (signA exA) = C) := ⟨_, hid rfl⟩
  obtain ⟨Y, HY⟩ : ∃ C : Array Value, Hid (atc exB = C) := ⟨_, hid rfl⟩
  obtain ⟨Z, HZ⟩ : ∃ C : Array Value, Hid (atc atZ = C) := ⟨_, hid rfl⟩
  have hal : ∀ W, allocAtt W = .ok (.value (.pointer (some ⟨W.heap.size, 0, none⟩))) (W.alloc (.cells Z 25)) := fun W => by rw [← HZ.out]; exact allocAtt_eq W
  have HZS : Hid (Z.size = 101) := hid (by rw [← HZ.out]; exact atc_size atZ_ok)
  have HSS : Hid (S.size = 101) := hid (by rw [← HS.out]; exact atc_size ho)
  have HYS : Hid (Y.size = 101) := hid (by rw [← HY.out]; exact atc_size exB_ok)
  have HS1 : Hid (S.all (·.oneCell') = true) := hid (by rw [← HS.out]; exact atc_one _)
  have HSY : Hid (S.setIfInBounds 0 (.int .i64 3) = Y) := hid (by rw [← HS.out, ← HY.out]; exact atc_bo _ 3)
  have HS0 : Hid (S[0]? = some (.int .i64 2)) := hid (by rw [← HS.out]; rfl)
  rw [HX.out, HS.out] at HSI
  rw [HS.out] at HRA
  rw [HY.out] at HRB
  rw [HS.out, HY.out] at HLI
  clear ho
  go_enter Tryd.func6, Tryd.ntmps6
  go_wp2_with fail
  rw [HX.out]
  refine (HSI.out w (Below.refl _ _)).mono ?_
  rintro e w1 ⟨rfl, hb1⟩
  have hs1 := att_var w1 HZS.out HSS.out HS1.out
  have hr1 := heap_alloc_new w1 (.cells S 25)
  have l1 := loadAtt_row hr1 HSS.out
  have hs2 := att_var (w1.alloc (.cells S 25)) HZS.out HSS.out HS1.out
  rw [show (w1.alloc (.cells S 25)).heap.size = w1.heap.size + 1 from by simp] at hs2
  have hr3 := heap2 w1 (.cells S 25) (.cells S 25)
  have hf3 := free_blk hr3 0
  have hc3 := (cell_blk hr3 0).trans HS0.out
  have hr2' := heap1 w1 (.cells S 25) (.cells Y 25)
  have hr3' := heap2 w1 (.cells S 25) (.cells Y 25)
  have hb3 : Below w.heap.size w ((w1.alloc (.cells S 25)).alloc (.cells Y 25)) := (hb1.alloc hb1.size _).alloc (by have := hb1.size; simp; omega) _
  clear hr1 hr3
  go_upto_region 4 with (fail)
  rw [HSY.out]
  generalize ((w1.alloc (.cells S 25)).alloc (.cells Y 25)) = w3 at *
  clear hs1 l1 hs2 hf3 hc3 hal
  have hl3 := lt_of_block hr3'
  have HLD := hid (fun W (h : Below w3.heap.size w3 W) => (⟨loadAtt_row ((h.block _ (by omega)).trans hr2') HSS.out, loadAtt_row ((h.block _ hl3).trans hr3') HYS.out⟩ : loadAtt (.pointer (some ⟨w1.heap.size, 0, none⟩)) W = .ok (.value (.agg S)) W ∧ loadAtt (.pointer (some ⟨w1.heap.size + 1, 0, none⟩)) W = .ok (.value (.agg Y)) W))
  obtain ⟨la, lb⟩ := HLD.out w3 (Below.refl _ _)
  clear hr2' hr3'
  go_wp2_with fail
  refine (HRA.out w3 hb3).mono ?_
  rintro e w4 ⟨rfl, hb4⟩
  have hB4 := hb3.trans (hb4.mono hb3.size)
  clear la lb
  obtain ⟨la, lb⟩ := HLD.out w4 hb4
  go_wp2_with fail
  refine (HRB.out w4 hB4).mono ?_
  rintro e w5 ⟨rfl, hb5⟩
  have hb5' := hb4.trans (hb5.mono hb4.size)
  have hB5 := hB4.trans (hb5.mono hB4.size)
  clear la lb
  obtain ⟨la, lb⟩ := HLD.out w5 hb5'
  go_wp2_with fail
  refine (HLI.out w5).mono ?_
  rintro e w6 ⟨rfl, hb6⟩
  clear la lb
  go_wp2_with fail
  go_ret
  exact ⟨rfl, hB5.trans (hb6.mono hB5.size)⟩
end Go.Proofs.YtmhchihcgliinaaDoor
