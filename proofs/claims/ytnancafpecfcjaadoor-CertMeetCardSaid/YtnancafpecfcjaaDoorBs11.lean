/-
  CtRises CtMay CtRd CtSlice CtBytes: what each of them says stands at its head.
-/
import Derived.Test.YtnancafpecfcjaaDoorBs10
import Derived.Test.YtnancafpecfcjaaDoorBs6
import Derived.LoopTactic
import Derived.Outline
import Derived.Deep.DeepCutAuto
import Derived.Test.YtnancafpecfcjaaDoorBs3
import Derived.Deep.RegionHeld3
/-
  The document's answer for whether signers rise: tithingref09.rises. Printed with genrises.py.
-/
namespace Go.Proofs.YtnancafpecfcjaaDoor
set_option maxRecDepth 20000
open Go.RowKit

set_option maxHeartbeats 3200000 in
theorem refRises9_any (v : Value) (l : List SgM) (top : Int) (w : World) (hv : Els scl 33 w v l) :
    Calls Tryd.prog 33 #[v, .int .i64 top] w fun e w' => e = .returned (.bool (risesB top 0 l)) ∧ Below w.heap.size w w' := by
  obtain ⟨A, c, rfl⟩ := hv.shape
  obtain ⟨L, HL⟩ : ∃ n : Nat, Hid (l.length = n) := ⟨_, hid rfl⟩
  obtain ⟨ans, HAN⟩ : ∃ q : Bool, Hid (risesB top 0 l = q) := ⟨_, hid rfl⟩
  have hlen := hv.len
  unfold maxLen at hlen
  have hc1 := hv.at_.2.1
  have hc2 := hv.at_.2.2.1
  rw [HL.out] at hv hlen hc1 ⊢
  rw [HAN.out]
  unfold maxLen at hc2
  have HV := hid (fun W (h : Below w.heap.size w W) => hv.below h)
  clear hv
  go_enter Tryd.func33, Tryd.ntmps33
  go_wp2_with fail
  go_loopw [5] (fun si wr => ∃ (i : Nat) (last : Int), i ≤ L ∧ si = .int .i64 i ∧ 0 ≤ last ∧ Hid (ans = risesB top last (l.drop i)) ∧ ((i = 0 ∧ last = 0) ∨ (∃ k, i = k + 1 ∧ ∃ h : k < l.length, l[k].bo = last)) ∧ Below w.heap.size w wr) (fun si _ => L - (intOf si).toNat)
  case atStart => exact ⟨0, 0, Nat.zero_le _, rfl, Int.le_refl _, hid (by rw [List.drop_zero]; exact HAN.out.symm), .inl ⟨rfl, rfl⟩, Below.refl _ _⟩
  case round =>
    obtain ⟨i, last, hi, rfl, hlast, HR, hpre, hbr⟩ := hrel
    by_cases hlt : i < L
    · have hil : i < l.length := by rw [HL.out]; exact hlt
      obtain ⟨g, o, rfl, hg, hcl⟩ := (HV.out wr hbr).at_.2.2.2 (by omega)
      have HST : Hid (ans = ((decide (last < l[i].bo) && decide (l[i].bo ≤ top)) && risesB top l[i].bo (l.drop (i + 1)))) := hid (by
        rw [HR.out, List.drop_eq_getElem_cons hil]
        rfl)
      obtain ⟨b, HBB⟩ : ∃ b : Int, Hid (l[i].bo = b) := ⟨_, hid rfl⟩
      have hc : wr.drew.cell? ⟨g, o + i * 33, none⟩ = some (.int .i64 b) := by rw [← HBB.out]; exact (sg_range (hcl i hil)).1
      rw [HBB.out] at HST
      have hI : (i : Int) < (L : Int) := by omega
      have hbd := hbr.drew
      by_cases h1 : b < 1
      · obtain rfl : ans = false := by rw [HST.out, decide_eq_false (by omega)]; rfl
        clear hcl
        go_upto_region 4 with (fail)
        refine wp_region_held_drew (S := fun W => W.cell? ⟨g, o + i * 33, none⟩ = some (.int .i64 b)) (by kernel_rfl) hc (fun hHeld => ?_)
        refine' take_on (i := 0) (v := _) rfl (by kernel_rfl) (by kernel_rfl) (by kernel_rfl) (fun _ _ _ h => h) (by rfl) ?_ (by assumption) ?_
        rotate_left
        · (intro W hW; (try dsimp only at hW); go_simp; first | done | with_reducible rfl)
        try simp only [Act.put, List.setIfInBounds_toArray, List.set_cons_zero, List.set_cons_succ]
        refine' take_on (i := 1) (v := _) rfl (by kernel_rfl) (by kernel_rfl) (by kernel_rfl) (fun _ _ _ h => h) (by rfl) ?_ (by assumption) ?_
        rotate_left
        · (intro W hW; (try dsimp only at hW); go_simp; first | done | with_reducible rfl)
        try simp only [Act.put, List.setIfInBounds_toArray, List.set_cons_zero, List.set_cons_succ]
        refine' take_on (i := 2) (v := _) rfl (by kernel_rfl) (by kernel_rfl) (by kernel_rfl) (fun _ _ _ h => h) (by rfl) ?_ (by assumption) ?_
        rotate_left
        · (intro W hW; (try dsimp only at hW); go_simp; first | done | with_reducible rfl)
        try simp only [Act.put, List.setIfInBounds_toArray, List.set_cons_zero, List.set_cons_succ]
        refine' take_on (i := 3) (v := _) rfl (by kernel_rfl) (by kernel_rfl) (by kernel_rfl) (fun _ _ _ h => h) (by rfl) ?_ (by assumption) ?_
        rotate_left
        · (intro W hW; (try dsimp only at hW); go_simp; first | done | with_reducible rfl)
        try simp only [Act.put, List.setIfInBounds_toArray, List.set_cons_zero, List.set_cons_succ]
        refine' take_on (i := 4) (v := _) rfl (by kernel_rfl) (by kernel_rfl) (by kernel_rfl) (fun _ _ _ h => h) (by rfl) ?_ (by assumption) ?_
        rotate_left
        · (intro W hW; (try dsimp only at hW); go_simp; first | done | with_reducible rfl)
        try simp only [Act.put, List.setIfInBounds_toArray, List.set_cons_zero, List.set_cons_succ]
        refine' take_on (i := 5) (v := _) rfl (by kernel_rfl) (by kernel_rfl) (by kernel_rfl) (fun _ _ _ h => h) (by rfl) ?_ (by assumption) ?_
        rotate_left
        · (intro W hW; (try dsimp only at hW); go_simp; first | done | with_reducible rfl)
        try simp only [Act.put, List.setIfInBounds_toArray, List.set_cons_zero, List.set_cons_succ]
        refine' take_on (i := 6) (v := _) rfl (by kernel_rfl) (by kernel_rfl) (by kernel_rfl) (fun _ _ _ h => h) (by rfl) ?_ (by assumption) ?_
        rotate_left
        · (intro W hW; (try dsimp only at hW); go_simp; first | done | with_reducible rfl)
        try simp only [Act.put, List.setIfInBounds_toArray, List.set_cons_zero, List.set_cons_succ]
        refine take_off (i := 7) rfl (by kernel_rfl) (by kernel_rfl) (by kernel_rfl) (fun _ _ _ h => h) (by rfl) (by assumption) ?_
        try simp only [Act.put, List.setIfInBounds_toArray, List.set_cons_zero, List.set_cons_succ]
        refine take_off (i := 8) rfl (by kernel_rfl) (by kernel_rfl) (by kernel_rfl) (fun _ _ _ h => h) (by rfl) (by assumption) ?_
        try simp only [Act.put, List.setIfInBounds_toArray, List.set_cons_zero, List.set_cons_succ]
        refine take_off (i := 9) rfl (by kernel_rfl) (by kernel_rfl) (by kernel_rfl) (fun _ _ _ h => h) (by rfl) (by assumption) ?_
        try simp only [Act.put, List.setIfInBounds_toArray, List.set_cons_zero, List.set_cons_succ]
        refine take_off (i := 10) rfl (by kernel_rfl) (by kernel_rfl) (by kernel_rfl) (fun _ _ _ h => h) (by rfl) (by assumption) ?_
        try simp only [Act.put, List.setIfInBounds_toArray, List.set_cons_zero, List.set_cons_succ]
        refine take_off (i := 11) rfl (by kernel_rfl) (by kernel_rfl) (by kernel_rfl) (fun _ _ _ h => h) (by rfl) (by assumption) ?_
        try simp only [Act.put, List.setIfInBounds_toArray, List.set_cons_zero, List.set_cons_succ]
        refine take_off (i := 12) rfl (by kernel_rfl) (by kernel_rfl) (by kernel_rfl) (fun _ _ _ h => h) (by rfl) (by assumption) ?_
        try simp only [Act.put, List.setIfInBounds_toArray, List.set_cons_zero, List.set_cons_succ]
        refine take_off (i := 13) rfl (by kernel_rfl) (by kernel_rfl) (by kernel_rfl) (fun _ _ _ h => h) (by rfl) (by assumption) ?_
        try simp only [Act.put, List.setIfInBounds_toArray, List.set_cons_zero, List.set_cons_succ]
        refine' take_on (i := 14) (v := _) rfl (by kernel_rfl) (by kernel_rfl) (by kernel_rfl) (fun _ _ _ h => h) (by rfl) ?_ (by assumption) ?_
        rotate_left
        · (intro W hW; (try dsimp only at hW); go_simp; first | done | with_reducible rfl)
        try simp only [Act.put, List.setIfInBounds_toArray, List.set_cons_zero, List.set_cons_succ]
        refine' take_on (i := 15) (v := _) rfl (by kernel_rfl) (by kernel_rfl) (by kernel_rfl) (fun _ _ _ h => h) (by rfl) ?_ (by assumption) ?_
        rotate_left
        · (intro W hW; (try dsimp only at hW); go_simp; first | done | with_reducible rfl)
        try simp only [Act.put, List.setIfInBounds_toArray, List.set_cons_zero, List.set_cons_succ]
        refine take_off (i := 16) rfl (by kernel_rfl) (by kernel_rfl) (by kernel_rfl) (fun _ _ _ h => h) (by rfl) (by assumption) ?_
        try simp only [Act.put, List.setIfInBounds_toArray, List.set_cons_zero, List.set_cons_succ]
        refine take_off (i := 17) rfl (by kernel_rfl) (by kernel_rfl) (by kernel_rfl) (fun _ _ _ h => h) (by rfl) (by assumption) ?_
        try simp only [Act.put, List.setIfInBounds_toArray, List.set_cons_zero, List.set_cons_succ]
        refine take_off (i := 18) rfl (by kernel_rfl) (by kernel_rfl) (by kernel_rfl) (fun _ _ _ h => h) (by rfl) (by assumption) ?_
        try simp only [Act.put, List.setIfInBounds_toArray, List.set_cons_zero, List.set_cons_succ]
        refine take_off (i := 19) rfl (by kernel_rfl) (by kernel_rfl) (by kernel_rfl) (fun _ _ _ h => h) (by rfl) (by assumption) ?_
        try simp only [Act.put, List.setIfInBounds_toArray, List.set_cons_zero, List.set_cons_succ]
        refine take_off (i := 20) rfl (by kernel_rfl) (by kernel_rfl) (by kernel_rfl) (fun _ _ _ h => h) (by rfl) (by assumption) ?_
        try simp only [Act.put, List.setIfInBounds_toArray, List.set_cons_zero, List.set_cons_succ]
        refine take_off (i := 21) rfl (by kernel_rfl) (by kernel_rfl) (by kernel_rfl) (fun _ _ _ h => h) (by rfl) (by assumption) ?_
        try simp only [Act.put, List.setIfInBounds_toArray, List.set_cons_zero, List.set_cons_succ]
        refine take_off (i := 22) rfl (by kernel_rfl) (by kernel_rfl) (by kernel_rfl) (fun _ _ _ h => h) (by rfl) (by assumption) ?_
        try simp only [Act.put, List.setIfInBounds_toArray, List.set_cons_zero, List.set_cons_succ]
        refine take_off (i := 23) rfl (by kernel_rfl) (by kernel_rfl) (by kernel_rfl) (fun _ _ _ h => h) (by rfl) (by assumption) ?_
        try simp only [Act.put, List.setIfInBounds_toArray, List.set_cons_zero, List.set_cons_succ]
        refine take_off (i := 24) rfl (by kernel_rfl) (by kernel_rfl) (by kernel_rfl) (fun _ _ _ h => h) (by rfl) (by assumption) ?_
        try simp only [Act.put, List.setIfInBounds_toArray, List.set_cons_zero, List.set_cons_succ]
        refine take_off (i := 25) rfl (by kernel_rfl) (by kernel_rfl) (by kernel_rfl) (fun _ _ _ h => h) (by rfl) (by assumption) ?_
        try simp only [Act.put, List.setIfInBounds_toArray, List.set_cons_zero, List.set_cons_succ]
        refine take_off (i := 26) rfl (by kernel_rfl) (by kernel_rfl) (by kernel_rfl) (fun _ _ _ h => h) (by rfl) (by assumption) ?_
        try simp only [Act.put, List.setIfInBounds_toArray, List.set_cons_zero, List.set_cons_succ]
        refine take_off (i := 27) rfl (by kernel_rfl) (by kernel_rfl) (by kernel_rfl) (fun _ _ _ h => h) (by rfl) (by assumption) ?_
        try simp only [Act.put, List.setIfInBounds_toArray, List.set_cons_zero, List.set_cons_succ]
        refine take_off (i := 28) rfl (by kernel_rfl) (by kernel_rfl) (by kernel_rfl) (fun _ _ _ h => h) (by rfl) (by assumption) ?_
        try simp only [Act.put, List.setIfInBounds_toArray, List.set_cons_zero, List.set_cons_succ]
        refine take_off (i := 29) rfl (by kernel_rfl) (by kernel_rfl) (by kernel_rfl) (fun _ _ _ h => h) (by rfl) (by assumption) ?_
        try simp only [Act.put, List.setIfInBounds_toArray, List.set_cons_zero, List.set_cons_succ]
        refine take_off (i := 30) rfl (by kernel_rfl) (by kernel_rfl) (by kernel_rfl) (fun _ _ _ h => h) (by rfl) (by assumption) ?_
        try simp only [Act.put, List.setIfInBounds_toArray, List.set_cons_zero, List.set_cons_succ]
        refine take_off (i := 31) rfl (by kernel_rfl) (by kernel_rfl) (by kernel_rfl) (fun _ _ _ h => h) (by rfl) (by assumption) ?_
        try simp only [Act.put, List.setIfInBounds_toArray, List.set_cons_zero, List.set_cons_succ]
        refine' take_on (i := 32) (v := _) rfl (by kernel_rfl) (by kernel_rfl) (by kernel_rfl) (fun _ _ _ h => h) (by rfl) ?_ (by assumption) ?_
        rotate_left
        · (intro W hW; (try dsimp only at hW); go_simp; first | done | with_reducible rfl)
        try simp only [Act.put, List.setIfInBounds_toArray, List.set_cons_zero, List.set_cons_succ]
        refine wpAnyH_done (by kernel_rfl) ?_ _
        go_wp2_with fail
        go_ret
        exact ⟨rfl, hbd⟩
      · by_cases h2 : top < b
        · obtain rfl : ans = false := by rw [HST.out, decide_eq_false (show ¬ b ≤ top by omega), Bool.and_false]; rfl
          clear hcl
          go_upto_region 4 with (fail)
          refine wp_region_held_drew (S := fun W => W.cell? ⟨g, o + i * 33, none⟩ = some (.int .i64 b)) (by kernel_rfl) hc (fun hHeld => ?_)
          refine' take_on (i := 0) (v := _) rfl (by kernel_rfl) (by kernel_rfl) (by kernel_rfl) (fun _ _ _ h => h) (by rfl) ?_ (by assumption) ?_
          rotate_left
          · (intro W hW; (try dsimp only at hW); go_simp; first | done | with_reducible rfl)
          try simp only [Act.put, List.setIfInBounds_toArray, List.set_cons_zero, List.set_cons_succ]
          refine' take_on (i := 1) (v := _) rfl (by kernel_rfl) (by kernel_rfl) (by kernel_rfl) (fun _ _ _ h => h) (by rfl) ?_ (by assumption) ?_
          rotate_left
          · (intro W hW; (try dsimp only at hW); go_simp; first | done | with_reducible rfl)
          try simp only [Act.put, List.setIfInBounds_toArray, List.set_cons_zero, List.set_cons_succ]
          refine' take_on (i := 2) (v := _) rfl (by kernel_rfl) (by kernel_rfl) (by kernel_rfl) (fun _ _ _ h => h) (by rfl) ?_ (by assumption) ?_
          rotate_left
          · (intro W hW; (try dsimp only at hW); go_simp; first | done | with_reducible rfl)
          try simp only [Act.put, List.setIfInBounds_toArray, List.set_cons_zero, List.set_cons_succ]
          refine' take_on (i := 3) (v := _) rfl (by kernel_rfl) (by kernel_rfl) (by kernel_rfl) (fun _ _ _ h => h) (by rfl) ?_ (by assumption) ?_
          rotate_left
          · (intro W hW; (try dsimp only at hW); go_simp; first | done | with_reducible rfl)
          try simp only [Act.put, List.setIfInBounds_toArray, List.set_cons_zero, List.set_cons_succ]
          refine' take_on (i := 4) (v := _) rfl (by kernel_rfl) (by kernel_rfl) (by kernel_rfl) (fun _ _ _ h => h) (by rfl) ?_ (by assumption) ?_
          rotate_left
          · (intro W hW; (try dsimp only at hW); go_simp; first | done | with_reducible rfl)
          try simp only [Act.put, List.setIfInBounds_toArray, List.set_cons_zero, List.set_cons_succ]
          refine' take_on (i := 5) (v := _) rfl (by kernel_rfl) (by kernel_rfl) (by kernel_rfl) (fun _ _ _ h => h) (by rfl) ?_ (by assumption) ?_
          rotate_left
          · (intro W hW; (try dsimp only at hW); go_simp; first | done | with_reducible rfl)
          try simp only [Act.put, List.setIfInBounds_toArray, List.set_cons_zero, List.set_cons_succ]
          refine' take_on (i := 6) (v := _) rfl (by kernel_rfl) (by kernel_rfl) (by kernel_rfl) (fun _ _ _ h => h) (by rfl) ?_ (by assumption) ?_
          rotate_left
          · (intro W hW; (try dsimp only at hW); go_simp; first | done | with_reducible rfl)
          try simp only [Act.put, List.setIfInBounds_toArray, List.set_cons_zero, List.set_cons_succ]
          refine' take_on (i := 7) (v := _) rfl (by kernel_rfl) (by kernel_rfl) (by kernel_rfl) (fun _ _ _ h => h) (by rfl) ?_ (by assumption) ?_
          rotate_left
          · (intro W hW; (try dsimp only at hW); go_simp; first | done | with_reducible rfl)
          try simp only [Act.put, List.setIfInBounds_toArray, List.set_cons_zero, List.set_cons_succ]
          refine' take_on (i := 8) (v := _) rfl (by kernel_rfl) (by kernel_rfl) (by kernel_rfl) (fun _ _ _ h => h) (by rfl) ?_ (by assumption) ?_
          rotate_left
          · (intro W hW; (try dsimp only at hW); go_simp; first | done | with_reducible rfl)
          try simp only [Act.put, List.setIfInBounds_toArray, List.set_cons_zero, List.set_cons_succ]
          refine' take_on (i := 9) (v := _) rfl (by kernel_rfl) (by kernel_rfl) (by kernel_rfl) (fun _ _ _ h => h) (by rfl) ?_ (by assumption) ?_
          rotate_left
          · (intro W hW; (try dsimp only at hW); go_simp; first | done | with_reducible rfl)
          try simp only [Act.put, List.setIfInBounds_toArray, List.set_cons_zero, List.set_cons_succ]
          refine' take_on (i := 10) (v := _) rfl (by kernel_rfl) (by kernel_rfl) (by kernel_rfl) (fun _ _ _ h => h) (by rfl) ?_ (by assumption) ?_
          rotate_left
          · (intro W hW; (try dsimp only at hW); go_simp; first | done | with_reducible rfl)
          try simp only [Act.put, List.setIfInBounds_toArray, List.set_cons_zero, List.set_cons_succ]
          refine' take_on (i := 11) (v := _) rfl (by kernel_rfl) (by kernel_rfl) (by kernel_rfl) (fun _ _ _ h => h) (by rfl) ?_ (by assumption) ?_
          rotate_left
          · (intro W hW; (try dsimp only at hW); go_simp; first | done | with_reducible rfl)
          try simp only [Act.put, List.setIfInBounds_toArray, List.set_cons_zero, List.set_cons_succ]
          refine' take_on (i := 12) (v := _) rfl (by kernel_rfl) (by kernel_rfl) (by kernel_rfl) (fun _ _ _ h => h) (by rfl) ?_ (by assumption) ?_
          rotate_left
          · (intro W hW; (try dsimp only at hW); go_simp; first | done | with_reducible rfl)
          try simp only [Act.put, List.setIfInBounds_toArray, List.set_cons_zero, List.set_cons_succ]
          refine' take_on (i := 13) (v := _) rfl (by kernel_rfl) (by kernel_rfl) (by kernel_rfl) (fun _ _ _ h => h) (by rfl) ?_ (by assumption) ?_
          rotate_left
          · (intro W hW; (try dsimp only at hW); go_simp; first | done | with_reducible rfl)
          try simp only [Act.put, List.setIfInBounds_toArray, List.set_cons_zero, List.set_cons_succ]
          refine' take_on (i := 14) (v := _) rfl (by kernel_rfl) (by kernel_rfl) (by kernel_rfl) (fun _ _ _ h => h) (by rfl) ?_ (by assumption) ?_
          rotate_left
          · (intro W hW; (try dsimp only at hW); go_simp; first | done | with_reducible rfl)
          try simp only [Act.put, List.setIfInBounds_toArray, List.set_cons_zero, List.set_cons_succ]
          refine' take_on (i := 15) (v := _) rfl (by kernel_rfl) (by kernel_rfl) (by kernel_rfl) (fun _ _ _ h => h) (by rfl) ?_ (by assumption) ?_
          rotate_left
          · (intro W hW; (try dsimp only at hW); go_simp; first | done | with_reducible rfl)
          try simp only [Act.put, List.setIfInBounds_toArray, List.set_cons_zero, List.set_cons_succ]
          refine take_off (i := 16) rfl (by kernel_rfl) (by kernel_rfl) (by kernel_rfl) (fun _ _ _ h => h) (by rfl) (by assumption) ?_
          try simp only [Act.put, List.setIfInBounds_toArray, List.set_cons_zero, List.set_cons_succ]
          refine take_off (i := 17) rfl (by kernel_rfl) (by kernel_rfl) (by kernel_rfl) (fun _ _ _ h => h) (by rfl) (by assumption) ?_
          try simp only [Act.put, List.setIfInBounds_toArray, List.set_cons_zero, List.set_cons_succ]
          refine take_off (i := 18) rfl (by kernel_rfl) (by kernel_rfl) (by kernel_rfl) (fun _ _ _ h => h) (by rfl) (by assumption) ?_
          try simp only [Act.put, List.setIfInBounds_toArray, List.set_cons_zero, List.set_cons_succ]
          refine take_off (i := 19) rfl (by kernel_rfl) (by kernel_rfl) (by kernel_rfl) (fun _ _ _ h => h) (by rfl) (by assumption) ?_
          try simp only [Act.put, List.setIfInBounds_toArray, List.set_cons_zero, List.set_cons_succ]
          refine take_off (i := 20) rfl (by kernel_rfl) (by kernel_rfl) (by kernel_rfl) (fun _ _ _ h => h) (by rfl) (by assumption) ?_
          try simp only [Act.put, List.setIfInBounds_toArray, List.set_cons_zero, List.set_cons_succ]
          refine take_off (i := 21) rfl (by kernel_rfl) (by kernel_rfl) (by kernel_rfl) (fun _ _ _ h => h) (by rfl) (by assumption) ?_
          try simp only [Act.put, List.setIfInBounds_toArray, List.set_cons_zero, List.set_cons_succ]
          refine take_off (i := 22) rfl (by kernel_rfl) (by kernel_rfl) (by kernel_rfl) (fun _ _ _ h => h) (by rfl) (by assumption) ?_
          try simp only [Act.put, List.setIfInBounds_toArray, List.set_cons_zero, List.set_cons_succ]
          refine take_off (i := 23) rfl (by kernel_rfl) (by kernel_rfl) (by kernel_rfl) (fun _ _ _ h => h) (by rfl) (by assumption) ?_
          try simp only [Act.put, List.setIfInBounds_toArray, List.set_cons_zero, List.set_cons_succ]
          refine take_off (i := 24) rfl (by kernel_rfl) (by kernel_rfl) (by kernel_rfl) (fun _ _ _ h => h) (by rfl) (by assumption) ?_
          try simp only [Act.put, List.setIfInBounds_toArray, List.set_cons_zero, List.set_cons_succ]
          refine take_off (i := 25) rfl (by kernel_rfl) (by kernel_rfl) (by kernel_rfl) (fun _ _ _ h => h) (by rfl) (by assumption) ?_
          try simp only [Act.put, List.setIfInBounds_toArray, List.set_cons_zero, List.set_cons_succ]
          refine take_off (i := 26) rfl (by kernel_rfl) (by kernel_rfl) (by kernel_rfl) (fun _ _ _ h => h) (by rfl) (by assumption) ?_
          try simp only [Act.put, List.setIfInBounds_toArray, List.set_cons_zero, List.set_cons_succ]
          refine take_off (i := 27) rfl (by kernel_rfl) (by kernel_rfl) (by kernel_rfl) (fun _ _ _ h => h) (by rfl) (by assumption) ?_
          try simp only [Act.put, List.setIfInBounds_toArray, List.set_cons_zero, List.set_cons_succ]
          refine take_off (i := 28) rfl (by kernel_rfl) (by kernel_rfl) (by kernel_rfl) (fun _ _ _ h => h) (by rfl) (by assumption) ?_
          try simp only [Act.put, List.setIfInBounds_toArray, List.set_cons_zero, List.set_cons_succ]
          refine take_off (i := 29) rfl (by kernel_rfl) (by kernel_rfl) (by kernel_rfl) (fun _ _ _ h => h) (by rfl) (by assumption) ?_
          try simp only [Act.put, List.setIfInBounds_toArray, List.set_cons_zero, List.set_cons_succ]
          refine take_off (i := 30) rfl (by kernel_rfl) (by kernel_rfl) (by kernel_rfl) (fun _ _ _ h => h) (by rfl) (by assumption) ?_
          try simp only [Act.put, List.setIfInBounds_toArray, List.set_cons_zero, List.set_cons_succ]
          refine take_off (i := 31) rfl (by kernel_rfl) (by kernel_rfl) (by kernel_rfl) (fun _ _ _ h => h) (by rfl) (by assumption) ?_
          try simp only [Act.put, List.setIfInBounds_toArray, List.set_cons_zero, List.set_cons_succ]
          refine' take_on (i := 32) (v := _) rfl (by kernel_rfl) (by kernel_rfl) (by kernel_rfl) (fun _ _ _ h => h) (by rfl) ?_ (by assumption) ?_
          rotate_left
          · (intro W hW; (try dsimp only at hW); go_simp; first | done | with_reducible rfl)
          try simp only [Act.put, List.setIfInBounds_toArray, List.set_cons_zero, List.set_cons_succ]
          refine wpAnyH_done (by kernel_rfl) ?_ _
          go_wp2_with fail
          go_ret
          exact ⟨rfl, hbd⟩
        · rcases hpre with ⟨rfl, rfl⟩ | ⟨k, rfl, hk, rfl⟩
          · clear hcl
            rw [Nat.zero_mul, Nat.add_zero] at hc
            go_upto_region 4 with (fail)
            refine wp_region_held_drew (S := fun W => W.cell? ⟨g, o, none⟩ = some (.int .i64 b)) (by kernel_rfl) hc (fun hHeld => ?_)
            refine' take_on (i := 0) (v := _) rfl (by kernel_rfl) (by kernel_rfl) (by kernel_rfl) (fun _ _ _ h => h) (by rfl) ?_ (by assumption) ?_
            rotate_left
            · (intro W hW; (try dsimp only at hW); go_simp; first | done | with_reducible rfl)
            try simp only [Act.put, List.setIfInBounds_toArray, List.set_cons_zero, List.set_cons_succ]
            refine' take_on (i := 1) (v := _) rfl (by kernel_rfl) (by kernel_rfl) (by kernel_rfl) (fun _ _ _ h => h) (by rfl) ?_ (by assumption) ?_
            rotate_left
            · (intro W hW; (try dsimp only at hW); go_simp; first | done | with_reducible rfl)
            try simp only [Act.put, List.setIfInBounds_toArray, List.set_cons_zero, List.set_cons_succ]
            refine' take_on (i := 2) (v := _) rfl (by kernel_rfl) (by kernel_rfl) (by kernel_rfl) (fun _ _ _ h => h) (by rfl) ?_ (by assumption) ?_
            rotate_left
            · (intro W hW; (try dsimp only at hW); go_simp; first | done | with_reducible rfl)
            try simp only [Act.put, List.setIfInBounds_toArray, List.set_cons_zero, List.set_cons_succ]
            refine' take_on (i := 3) (v := _) rfl (by kernel_rfl) (by kernel_rfl) (by kernel_rfl) (fun _ _ _ h => h) (by rfl) ?_ (by assumption) ?_
            rotate_left
            · (intro W hW; (try dsimp only at hW); go_simp; first | done | with_reducible rfl)
            try simp only [Act.put, List.setIfInBounds_toArray, List.set_cons_zero, List.set_cons_succ]
            refine' take_on (i := 4) (v := _) rfl (by kernel_rfl) (by kernel_rfl) (by kernel_rfl) (fun _ _ _ h => h) (by rfl) ?_ (by assumption) ?_
            rotate_left
            · (intro W hW; (try dsimp only at hW); go_simp; first | done | with_reducible rfl)
            try simp only [Act.put, List.setIfInBounds_toArray, List.set_cons_zero, List.set_cons_succ]
            refine' take_on (i := 5) (v := _) rfl (by kernel_rfl) (by kernel_rfl) (by kernel_rfl) (fun _ _ _ h => h) (by rfl) ?_ (by assumption) ?_
            rotate_left
            · (intro W hW; (try dsimp only at hW); go_simp; first | done | with_reducible rfl)
            try simp only [Act.put, List.setIfInBounds_toArray, List.set_cons_zero, List.set_cons_succ]
            refine' take_on (i := 6) (v := _) rfl (by kernel_rfl) (by kernel_rfl) (by kernel_rfl) (fun _ _ _ h => h) (by rfl) ?_ (by assumption) ?_
            rotate_left
            · (intro W hW; (try dsimp only at hW); go_simp; first | done | with_reducible rfl)
            try simp only [Act.put, List.setIfInBounds_toArray, List.set_cons_zero, List.set_cons_succ]
            refine' take_on (i := 7) (v := _) rfl (by kernel_rfl) (by kernel_rfl) (by kernel_rfl) (fun _ _ _ h => h) (by rfl) ?_ (by assumption) ?_
            rotate_left
            · (intro W hW; (try dsimp only at hW); go_simp; first | done | with_reducible rfl)
            try simp only [Act.put, List.setIfInBounds_toArray, List.set_cons_zero, List.set_cons_succ]
            refine' take_on (i := 8) (v := _) rfl (by kernel_rfl) (by kernel_rfl) (by kernel_rfl) (fun _ _ _ h => h) (by rfl) ?_ (by assumption) ?_
            rotate_left
            · (intro W hW; (try dsimp only at hW); go_simp; first | done | with_reducible rfl)
            try simp only [Act.put, List.setIfInBounds_toArray, List.set_cons_zero, List.set_cons_succ]
            refine' take_on (i := 9) (v := _) rfl (by kernel_rfl) (by kernel_rfl) (by kernel_rfl) (fun _ _ _ h => h) (by rfl) ?_ (by assumption) ?_
            rotate_left
            · (intro W hW; (try dsimp only at hW); go_simp; first | done | with_reducible rfl)
            try simp only [Act.put, List.setIfInBounds_toArray, List.set_cons_zero, List.set_cons_succ]
            refine' take_on (i := 10) (v := _) rfl (by kernel_rfl) (by kernel_rfl) (by kernel_rfl) (fun _ _ _ h => h) (by rfl) ?_ (by assumption) ?_
            rotate_left
            · (intro W hW; (try dsimp only at hW); go_simp; first | done | with_reducible rfl)
            try simp only [Act.put, List.setIfInBounds_toArray, List.set_cons_zero, List.set_cons_succ]
            refine' take_on (i := 11) (v := _) rfl (by kernel_rfl) (by kernel_rfl) (by kernel_rfl) (fun _ _ _ h => h) (by rfl) ?_ (by assumption) ?_
            rotate_left
            · (intro W hW; (try dsimp only at hW); go_simp; first | done | with_reducible rfl)
            try simp only [Act.put, List.setIfInBounds_toArray, List.set_cons_zero, List.set_cons_succ]
            refine' take_on (i := 12) (v := _) rfl (by kernel_rfl) (by kernel_rfl) (by kernel_rfl) (fun _ _ _ h => h) (by rfl) ?_ (by assumption) ?_
            rotate_left
            · (intro W hW; (try dsimp only at hW); go_simp; first | done | with_reducible rfl)
            try simp only [Act.put, List.setIfInBounds_toArray, List.set_cons_zero, List.set_cons_succ]
            refine' take_on (i := 13) (v := _) rfl (by kernel_rfl) (by kernel_rfl) (by kernel_rfl) (fun _ _ _ h => h) (by rfl) ?_ (by assumption) ?_
            rotate_left
            · (intro W hW; (try dsimp only at hW); go_simp; first | done | with_reducible rfl)
            try simp only [Act.put, List.setIfInBounds_toArray, List.set_cons_zero, List.set_cons_succ]
            refine' take_on (i := 14) (v := _) rfl (by kernel_rfl) (by kernel_rfl) (by kernel_rfl) (fun _ _ _ h => h) (by rfl) ?_ (by assumption) ?_
            rotate_left
            · (intro W hW; (try dsimp only at hW); go_simp; first | done | with_reducible rfl)
            try simp only [Act.put, List.setIfInBounds_toArray, List.set_cons_zero, List.set_cons_succ]
            refine' take_on (i := 15) (v := _) rfl (by kernel_rfl) (by kernel_rfl) (by kernel_rfl) (fun _ _ _ h => h) (by rfl) ?_ (by assumption) ?_
            rotate_left
            · (intro W hW; (try dsimp only at hW); go_simp; first | done | with_reducible rfl)
            try simp only [Act.put, List.setIfInBounds_toArray, List.set_cons_zero, List.set_cons_succ]
            refine' take_on (i := 16) (v := _) rfl (by kernel_rfl) (by kernel_rfl) (by kernel_rfl) (fun _ _ _ h => h) (by rfl) ?_ (by assumption) ?_
            rotate_left
            · (intro W hW; (try dsimp only at hW); go_simp; first | done | with_reducible rfl)
            try simp only [Act.put, List.setIfInBounds_toArray, List.set_cons_zero, List.set_cons_succ]
            refine' take_on (i := 17) (v := _) rfl (by kernel_rfl) (by kernel_rfl) (by kernel_rfl) (fun _ _ _ h => h) (by rfl) ?_ (by assumption) ?_
            rotate_left
            · (intro W hW; (try dsimp only at hW); go_simp; first | done | with_reducible rfl)
            try simp only [Act.put, List.setIfInBounds_toArray, List.set_cons_zero, List.set_cons_succ]
            refine' take_on (i := 18) (v := _) rfl (by kernel_rfl) (by kernel_rfl) (by kernel_rfl) (fun _ _ _ h => h) (by rfl) ?_ (by assumption) ?_
            rotate_left
            · (intro W hW; (try dsimp only at hW); go_simp; first | done | with_reducible rfl)
            try simp only [Act.put, List.setIfInBounds_toArray, List.set_cons_zero, List.set_cons_succ]
            refine take_off (i := 19) rfl (by kernel_rfl) (by kernel_rfl) (by kernel_rfl) (fun _ _ _ h => h) (by rfl) (by assumption) ?_
            try simp only [Act.put, List.setIfInBounds_toArray, List.set_cons_zero, List.set_cons_succ]
            refine take_off (i := 20) rfl (by kernel_rfl) (by kernel_rfl) (by kernel_rfl) (fun _ _ _ h => h) (by rfl) (by assumption) ?_
            try simp only [Act.put, List.setIfInBounds_toArray, List.set_cons_zero, List.set_cons_succ]
            refine take_off (i := 21) rfl (by kernel_rfl) (by kernel_rfl) (by kernel_rfl) (fun _ _ _ h => h) (by rfl) (by assumption) ?_
            try simp only [Act.put, List.setIfInBounds_toArray, List.set_cons_zero, List.set_cons_succ]
            refine take_off (i := 22) rfl (by kernel_rfl) (by kernel_rfl) (by kernel_rfl) (fun _ _ _ h => h) (by rfl) (by assumption) ?_
            try simp only [Act.put, List.setIfInBounds_toArray, List.set_cons_zero, List.set_cons_succ]
            refine take_off (i := 23) rfl (by kernel_rfl) (by kernel_rfl) (by kernel_rfl) (fun _ _ _ h => h) (by rfl) (by assumption) ?_
            try simp only [Act.put, List.setIfInBounds_toArray, List.set_cons_zero, List.set_cons_succ]
            refine take_off (i := 24) rfl (by kernel_rfl) (by kernel_rfl) (by kernel_rfl) (fun _ _ _ h => h) (by rfl) (by assumption) ?_
            try simp only [Act.put, List.setIfInBounds_toArray, List.set_cons_zero, List.set_cons_succ]
            refine take_off (i := 25) rfl (by kernel_rfl) (by kernel_rfl) (by kernel_rfl) (fun _ _ _ h => h) (by rfl) (by assumption) ?_
            try simp only [Act.put, List.setIfInBounds_toArray, List.set_cons_zero, List.set_cons_succ]
            refine take_off (i := 26) rfl (by kernel_rfl) (by kernel_rfl) (by kernel_rfl) (fun _ _ _ h => h) (by rfl) (by assumption) ?_
            try simp only [Act.put, List.setIfInBounds_toArray, List.set_cons_zero, List.set_cons_succ]
            refine take_off (i := 27) rfl (by kernel_rfl) (by kernel_rfl) (by kernel_rfl) (fun _ _ _ h => h) (by rfl) (by assumption) ?_
            try simp only [Act.put, List.setIfInBounds_toArray, List.set_cons_zero, List.set_cons_succ]
            refine take_off (i := 28) rfl (by kernel_rfl) (by kernel_rfl) (by kernel_rfl) (fun _ _ _ h => h) (by rfl) (by assumption) ?_
            try simp only [Act.put, List.setIfInBounds_toArray, List.set_cons_zero, List.set_cons_succ]
            refine take_off (i := 29) rfl (by kernel_rfl) (by kernel_rfl) (by kernel_rfl) (fun _ _ _ h => h) (by rfl) (by assumption) ?_
            try simp only [Act.put, List.setIfInBounds_toArray, List.set_cons_zero, List.set_cons_succ]
            refine take_off (i := 30) rfl (by kernel_rfl) (by kernel_rfl) (by kernel_rfl) (fun _ _ _ h => h) (by rfl) (by assumption) ?_
            try simp only [Act.put, List.setIfInBounds_toArray, List.set_cons_zero, List.set_cons_succ]
            refine' take_on (i := 31) (v := _) rfl (by kernel_rfl) (by kernel_rfl) (by kernel_rfl) (fun _ _ _ h => h) (by rfl) ?_ (by assumption) ?_
            rotate_left
            · (intro W hW; (try dsimp only at hW); go_simp; first | done | with_reducible rfl)
            try simp only [Act.put, List.setIfInBounds_toArray, List.set_cons_zero, List.set_cons_succ]
            refine' take_on (i := 32) (v := _) rfl (by kernel_rfl) (by kernel_rfl) (by kernel_rfl) (fun _ _ _ h => h) (by rfl) ?_ (by assumption) ?_
            rotate_left
            · (intro W hW; (try dsimp only at hW); go_simp; first | done | with_reducible rfl)
            try simp only [Act.put, List.setIfInBounds_toArray, List.set_cons_zero, List.set_cons_succ]
            refine wpAnyH_done (by kernel_rfl) ?_ _
            go_wp2_with fail
            go_roundw
            case rel => exact ⟨0 + 1, b, by omega, by go_num, by omega, hid (by rw [HST.out, decide_eq_true (by omega), decide_eq_true (by omega)]; simp), .inr ⟨0, rfl, hil, HBB.out⟩, hbd⟩
            case measure => simp [intOf]; omega
          · obtain ⟨p, HPP⟩ : ∃ p : Int, Hid (l[k].bo = p) := ⟨_, hid rfl⟩
            have hd : wr.drew.cell? ⟨g, o + k * 33, none⟩ = some (.int .i64 p) := by rw [← HPP.out]; exact (sg_range (hcl k hk)).1
            rw [HPP.out] at HST hlast
            have hkL : (k : Int) < (L : Int) := by omega
            have hk1 : (0 : Int) < ((k + 1 : Nat) : Int) := by omega
            have hwk : IntKind.i64.wrap (((k + 1 : Nat) : Int) - 1) = (k : Int) := by rw [IntKind.wrap_i64]; omega
            have hk2 : (0 : Int) < (k : Int) + 1 := by omega
            have hk0 : (0 : Int) ≤ (k : Int) + 1 := by omega
            have hI2 : (k : Int) + 1 < (L : Int) := by omega
            have hwk2 : IntKind.i64.wrap ((k : Int) + 1 - 1) = (k : Int) := by rw [IntKind.wrap_i64]; omega
            have hwk3 : IntKind.i64.wrap (k : Int) = (k : Int) := by rw [IntKind.wrap_i64]; omega
            by_cases h3 : p < b
            · have h3' : ¬ b ≤ p := by omega
              clear hcl
              go_upto_region 4 with (fail)
              refine wp_region_held_drew (S := fun W => W.cell? ⟨g, o + (k + 1) * 33, none⟩ = some (.int .i64 b) ∧ W.cell? ⟨g, o + k * 33, none⟩ = some (.int .i64 p)) (by kernel_rfl) ⟨hc, hd⟩ (fun hHeld => ?_)
              refine' take_on (i := 0) (v := _) rfl (by kernel_rfl) (by kernel_rfl) (by kernel_rfl) (fun _ _ _ h => h) (by rfl) ?_ (by assumption) ?_
              rotate_left
              · (intro W hW; (try dsimp only at hW); go_simp; first | done | with_reducible rfl)
              try simp only [Act.put, List.setIfInBounds_toArray, List.set_cons_zero, List.set_cons_succ]
              refine' take_on (i := 1) (v := _) rfl (by kernel_rfl) (by kernel_rfl) (by kernel_rfl) (fun _ _ _ h => h) (by rfl) ?_ (by assumption) ?_
              rotate_left
              · (intro W hW; (try dsimp only at hW); go_simp; first | done | with_reducible rfl)
              try simp only [Act.put, List.setIfInBounds_toArray, List.set_cons_zero, List.set_cons_succ]
              refine' take_on (i := 2) (v := _) rfl (by kernel_rfl) (by kernel_rfl) (by kernel_rfl) (fun _ _ _ h => h) (by rfl) ?_ (by assumption) ?_
              rotate_left
              · (intro W hW; (try dsimp only at hW); go_simp; first | done | with_reducible rfl)
              try simp only [Act.put, List.setIfInBounds_toArray, List.set_cons_zero, List.set_cons_succ]
              refine' take_on (i := 3) (v := _) rfl (by kernel_rfl) (by kernel_rfl) (by kernel_rfl) (fun _ _ _ h => h) (by rfl) ?_ (by assumption) ?_
              rotate_left
              · (intro W hW; (try dsimp only at hW); go_simp; first | done | with_reducible rfl)
              try simp only [Act.put, List.setIfInBounds_toArray, List.set_cons_zero, List.set_cons_succ]
              refine' take_on (i := 4) (v := _) rfl (by kernel_rfl) (by kernel_rfl) (by kernel_rfl) (fun _ _ _ h => h) (by rfl) ?_ (by assumption) ?_
              rotate_left
              · (intro W hW; (try dsimp only at hW); go_simp; first | done | with_reducible rfl)
              try simp only [Act.put, List.setIfInBounds_toArray, List.set_cons_zero, List.set_cons_succ]
              refine' take_on (i := 5) (v := _) rfl (by kernel_rfl) (by kernel_rfl) (by kernel_rfl) (fun _ _ _ h => h) (by rfl) ?_ (by assumption) ?_
              rotate_left
              · (intro W hW; (try dsimp only at hW); go_simp; first | done | with_reducible rfl)
              try simp only [Act.put, List.setIfInBounds_toArray, List.set_cons_zero, List.set_cons_succ]
              refine' take_on (i := 6) (v := _) rfl (by kernel_rfl) (by kernel_rfl) (by kernel_rfl) (fun _ _ _ h => h) (by rfl) ?_ (by assumption) ?_
              rotate_left
              · (intro W hW; (try dsimp only at hW); go_simp; first | done | with_reducible rfl)
              try simp only [Act.put, List.setIfInBounds_toArray, List.set_cons_zero, List.set_cons_succ]
              refine' take_on (i := 7) (v := _) rfl (by kernel_rfl) (by kernel_rfl) (by kernel_rfl) (fun _ _ _ h => h) (by rfl) ?_ (by assumption) ?_
              rotate_left
              · (intro W hW; (try dsimp only at hW); go_simp; first | done | with_reducible rfl)
              try simp only [Act.put, List.setIfInBounds_toArray, List.set_cons_zero, List.set_cons_succ]
              refine' take_on (i := 8) (v := _) rfl (by kernel_rfl) (by kernel_rfl) (by kernel_rfl) (fun _ _ _ h => h) (by rfl) ?_ (by assumption) ?_
              rotate_left
              · (intro W hW; (try dsimp only at hW); go_simp; first | done | with_reducible rfl)
              try simp only [Act.put, List.setIfInBounds_toArray, List.set_cons_zero, List.set_cons_succ]
              refine' take_on (i := 9) (v := _) rfl (by kernel_rfl) (by kernel_rfl) (by kernel_rfl) (fun _ _ _ h => h) (by rfl) ?_ (by assumption) ?_
              rotate_left
              · (intro W hW; (try dsimp only at hW); go_simp; first | done | with_reducible rfl)
              try simp only [Act.put, List.setIfInBounds_toArray, List.set_cons_zero, List.set_cons_succ]
              refine' take_on (i := 10) (v := _) rfl (by kernel_rfl) (by kernel_rfl) (by kernel_rfl) (fun _ _ _ h => h) (by rfl) ?_ (by assumption) ?_
              rotate_left
              · (intro W hW; (try dsimp only at hW); go_simp; first | done | with_reducible rfl)
              try simp only [Act.put, List.setIfInBounds_toArray, List.set_cons_zero, List.set_cons_succ]
              refine' take_on (i := 11) (v := _) rfl (by kernel_rfl) (by kernel_rfl) (by kernel_rfl) (fun _ _ _ h => h) (by rfl) ?_ (by assumption) ?_
              rotate_left
              · (intro W hW; (try dsimp only at hW); go_simp; first | done | with_reducible rfl)
              try simp only [Act.put, List.setIfInBounds_toArray, List.set_cons_zero, List.set_cons_succ]
              refine' take_on (i := 12) (v := _) rfl (by kernel_rfl) (by kernel_rfl) (by kernel_rfl) (fun _ _ _ h => h) (by rfl) ?_ (by assumption) ?_
              rotate_left
              · (intro W hW; (try dsimp only at hW); go_simp; first | done | with_reducible rfl)
              try simp only [Act.put, List.setIfInBounds_toArray, List.set_cons_zero, List.set_cons_succ]
              refine' take_on (i := 13) (v := _) rfl (by kernel_rfl) (by kernel_rfl) (by kernel_rfl) (fun _ _ _ h => h) (by rfl) ?_ (by assumption) ?_
              rotate_left
              · (intro W hW; (try dsimp only at hW); go_simp; first | done | with_reducible rfl)
              try simp only [Act.put, List.setIfInBounds_toArray, List.set_cons_zero, List.set_cons_succ]
              refine' take_on (i := 14) (v := _) rfl (by kernel_rfl) (by kernel_rfl) (by kernel_rfl) (fun _ _ _ h => h) (by rfl) ?_ (by assumption) ?_
              rotate_left
              · (intro W hW; (try dsimp only at hW); go_simp; first | done | with_reducible rfl)
              try simp only [Act.put, List.setIfInBounds_toArray, List.set_cons_zero, List.set_cons_succ]
              refine' take_on (i := 15) (v := _) rfl (by kernel_rfl) (by kernel_rfl) (by kernel_rfl) (fun _ _ _ h => h) (by rfl) ?_ (by assumption) ?_
              rotate_left
              · (intro W hW; (try dsimp only at hW); go_simp; first | done | with_reducible rfl)
              try simp only [Act.put, List.setIfInBounds_toArray, List.set_cons_zero, List.set_cons_succ]
              refine' take_on (i := 16) (v := _) rfl (by kernel_rfl) (by kernel_rfl) (by kernel_rfl) (fun _ _ _ h => h) (by rfl) ?_ (by assumption) ?_
              rotate_left
              · (intro W hW; (try dsimp only at hW); go_simp; first | done | with_reducible rfl)
              try simp only [Act.put, List.setIfInBounds_toArray, List.set_cons_zero, List.set_cons_succ]
              refine' take_on (i := 17) (v := _) rfl (by kernel_rfl) (by kernel_rfl) (by kernel_rfl) (fun _ _ _ h => h) (by rfl) ?_ (by assumption) ?_
              rotate_left
              · (intro W hW; (try dsimp only at hW); go_simp; first | done | with_reducible rfl)
              try simp only [Act.put, List.setIfInBounds_toArray, List.set_cons_zero, List.set_cons_succ]
              refine' take_on (i := 18) (v := _) rfl (by kernel_rfl) (by kernel_rfl) (by kernel_rfl) (fun _ _ _ h => h) (by rfl) ?_ (by assumption) ?_
              rotate_left
              · (intro W hW; (try dsimp only at hW); go_simp; first | done | with_reducible rfl)
              try simp only [Act.put, List.setIfInBounds_toArray, List.set_cons_zero, List.set_cons_succ]
              refine' take_on (i := 19) (v := _) rfl (by kernel_rfl) (by kernel_rfl) (by kernel_rfl) (fun _ _ _ h => h) (by rfl) ?_ (by assumption) ?_
              rotate_left
              · (intro W hW; (try dsimp only at hW); go_simp; first | done | with_reducible rfl)
              try simp only [Act.put, List.setIfInBounds_toArray, List.set_cons_zero, List.set_cons_succ]
              refine' take_on (i := 20) (v := _) rfl (by kernel_rfl) (by kernel_rfl) (by kernel_rfl) (fun _ _ _ h => h) (by rfl) ?_ (by assumption) ?_
              rotate_left
              · (intro W hW; (try dsimp only at hW); go_simp; first | done | with_reducible rfl)
              try simp only [Act.put, List.setIfInBounds_toArray, List.set_cons_zero, List.set_cons_succ]
              refine' take_on (i := 21) (v := _) rfl (by kernel_rfl) (by kernel_rfl) (by kernel_rfl) (fun _ _ _ h => h) (by rfl) ?_ (by assumption) ?_
              rotate_left
              · (intro W hW; (try dsimp only at hW); go_simp; first | done | with_reducible rfl)
              try simp only [Act.put, List.setIfInBounds_toArray, List.set_cons_zero, List.set_cons_succ]
              refine' take_on (i := 22) (v := _) rfl (by kernel_rfl) (by kernel_rfl) (by kernel_rfl) (fun _ _ _ h => h) (by rfl) ?_ (by assumption) ?_
              rotate_left
              · (intro W hW; (try dsimp only at hW); go_simp; first | done | with_reducible rfl)
              try simp only [Act.put, List.setIfInBounds_toArray, List.set_cons_zero, List.set_cons_succ]
              refine' take_on (i := 23) (v := _) rfl (by kernel_rfl) (by kernel_rfl) (by kernel_rfl) (fun _ _ _ h => h) (by rfl) ?_ (by assumption) ?_
              rotate_left
              · (intro W hW; (try dsimp only at hW); go_simp; first | done | with_reducible rfl)
              try simp only [Act.put, List.setIfInBounds_toArray, List.set_cons_zero, List.set_cons_succ]
              refine' take_on (i := 24) (v := _) rfl (by kernel_rfl) (by kernel_rfl) (by kernel_rfl) (fun _ _ _ h => h) (by rfl) ?_ (by assumption) ?_
              rotate_left
              · (intro W hW; (try dsimp only at hW); go_simp; first | done | with_reducible rfl)
              try simp only [Act.put, List.setIfInBounds_toArray, List.set_cons_zero, List.set_cons_succ]
              refine' take_on (i := 25) (v := _) rfl (by kernel_rfl) (by kernel_rfl) (by kernel_rfl) (fun _ _ _ h => h) (by rfl) ?_ (by assumption) ?_
              rotate_left
              · (intro W hW; (try dsimp only at hW); go_simp; first | done | with_reducible rfl)
              try simp only [Act.put, List.setIfInBounds_toArray, List.set_cons_zero, List.set_cons_succ]
              refine' take_on (i := 26) (v := _) rfl (by kernel_rfl) (by kernel_rfl) (by kernel_rfl) (fun _ _ _ h => h) (by rfl) ?_ (by assumption) ?_
              rotate_left
              · (intro W hW; (try dsimp only at hW); go_simp; first | done | with_reducible rfl)
              try simp only [Act.put, List.setIfInBounds_toArray, List.set_cons_zero, List.set_cons_succ]
              refine' take_on (i := 27) (v := _) rfl (by kernel_rfl) (by kernel_rfl) (by kernel_rfl) (fun _ _ _ h => h) (by rfl) ?_ (by assumption) ?_
              rotate_left
              · (intro W hW; (try dsimp only at hW); go_simp; first | done | with_reducible rfl)
              try simp only [Act.put, List.setIfInBounds_toArray, List.set_cons_zero, List.set_cons_succ]
              refine' take_on (i := 28) (v := _) rfl (by kernel_rfl) (by kernel_rfl) (by kernel_rfl) (fun _ _ _ h => h) (by rfl) ?_ (by assumption) ?_
              rotate_left
              · (intro W hW; (try dsimp only at hW); go_simp; first | done | with_reducible rfl)
              try simp only [Act.put, List.setIfInBounds_toArray, List.set_cons_zero, List.set_cons_succ]
              refine' take_on (i := 29) (v := _) rfl (by kernel_rfl) (by kernel_rfl) (by kernel_rfl) (fun _ _ _ h => h) (by rfl) ?_ (by assumption) ?_
              rotate_left
              · (intro W hW; (try dsimp only at hW); go_simp; first | done | with_reducible rfl)
              try simp only [Act.put, List.setIfInBounds_toArray, List.set_cons_zero, List.set_cons_succ]
              refine' take_on (i := 30) (v := _) rfl (by kernel_rfl) (by kernel_rfl) (by kernel_rfl) (fun _ _ _ h => h) (by rfl) ?_ (by assumption) ?_
              rotate_left
              · (intro W hW; (try dsimp only at hW); go_simp; first | done | with_reducible rfl)
              try simp only [Act.put, List.setIfInBounds_toArray, List.set_cons_zero, List.set_cons_succ]
              refine' take_on (i := 31) (v := _) rfl (by kernel_rfl) (by kernel_rfl) (by kernel_rfl) (fun _ _ _ h => h) (by rfl) ?_ (by assumption) ?_
              rotate_left
              · (intro W hW; (try dsimp only at hW); go_simp; first | done | with_reducible rfl)
              try simp only [Act.put, List.setIfInBounds_toArray, List.set_cons_zero, List.set_cons_succ]
              refine' take_on (i := 32) (v := _) rfl (by kernel_rfl) (by kernel_rfl) (by kernel_rfl) (fun _ _ _ h => h) (by rfl) ?_ (by assumption) ?_
              rotate_left
              · (intro W hW; (try dsimp only at hW); go_simp; first | done | with_reducible rfl)
              try simp only [Act.put, List.setIfInBounds_toArray, List.set_cons_zero, List.set_cons_succ]
              refine wpAnyH_done (by kernel_rfl) ?_ _
              go_wp2_with fail
              go_roundw
              case rel => exact ⟨k + 1 + 1, b, by omega, by go_num, by omega, hid (by rw [HST.out, decide_eq_true h3, decide_eq_true (by omega)]; simp), .inr ⟨k + 1, rfl, hil, HBB.out⟩, hbd⟩
              case measure => simp [intOf]; omega
            · have h3' : b ≤ p := by omega
              obtain rfl : ans = false := by rw [HST.out, decide_eq_false h3]; rfl
              clear hcl
              go_upto_region 4 with (fail)
              refine wp_region_held_drew (S := fun W => W.cell? ⟨g, o + (k + 1) * 33, none⟩ = some (.int .i64 b) ∧ W.cell? ⟨g, o + k * 33, none⟩ = some (.int .i64 p)) (by kernel_rfl) ⟨hc, hd⟩ (fun hHeld => ?_)
              refine' take_on (i := 0) (v := _) rfl (by kernel_rfl) (by kernel_rfl) (by kernel_rfl) (fun _ _ _ h => h) (by rfl) ?_ (by assumption) ?_
              rotate_left
              · (intro W hW; (try dsimp only at hW); go_simp; first | done | with_reducible rfl)
              try simp only [Act.put, List.setIfInBounds_toArray, List.set_cons_zero, List.set_cons_succ]
              refine' take_on (i := 1) (v := _) rfl (by kernel_rfl) (by kernel_rfl) (by kernel_rfl) (fun _ _ _ h => h) (by rfl) ?_ (by assumption) ?_
              rotate_left
              · (intro W hW; (try dsimp only at hW); go_simp; first | done | with_reducible rfl)
              try simp only [Act.put, List.setIfInBounds_toArray, List.set_cons_zero, List.set_cons_succ]
              refine' take_on (i := 2) (v := _) rfl (by kernel_rfl) (by kernel_rfl) (by kernel_rfl) (fun _ _ _ h => h) (by rfl) ?_ (by assumption) ?_
              rotate_left
              · (intro W hW; (try dsimp only at hW); go_simp; first | done | with_reducible rfl)
              try simp only [Act.put, List.setIfInBounds_toArray, List.set_cons_zero, List.set_cons_succ]
              refine' take_on (i := 3) (v := _) rfl (by kernel_rfl) (by kernel_rfl) (by kernel_rfl) (fun _ _ _ h => h) (by rfl) ?_ (by assumption) ?_
              rotate_left
              · (intro W hW; (try dsimp only at hW); go_simp; first | done | with_reducible rfl)
              try simp only [Act.put, List.setIfInBounds_toArray, List.set_cons_zero, List.set_cons_succ]
              refine' take_on (i := 4) (v := _) rfl (by kernel_rfl) (by kernel_rfl) (by kernel_rfl) (fun _ _ _ h => h) (by rfl) ?_ (by assumption) ?_
              rotate_left
              · (intro W hW; (try dsimp only at hW); go_simp; first | done | with_reducible rfl)
              try simp only [Act.put, List.setIfInBounds_toArray, List.set_cons_zero, List.set_cons_succ]
              refine' take_on (i := 5) (v := _) rfl (by kernel_rfl) (by kernel_rfl) (by kernel_rfl) (fun _ _ _ h => h) (by rfl) ?_ (by assumption) ?_
              rotate_left
              · (intro W hW; (try dsimp only at hW); go_simp; first | done | with_reducible rfl)
              try simp only [Act.put, List.setIfInBounds_toArray, List.set_cons_zero, List.set_cons_succ]
              refine' take_on (i := 6) (v := _) rfl (by kernel_rfl) (by kernel_rfl) (by kernel_rfl) (fun _ _ _ h => h) (by rfl) ?_ (by assumption) ?_
              rotate_left
              · (intro W hW; (try dsimp only at hW); go_simp; first | done | with_reducible rfl)
              try simp only [Act.put, List.setIfInBounds_toArray, List.set_cons_zero, List.set_cons_succ]
              refine' take_on (i := 7) (v := _) rfl (by kernel_rfl) (by kernel_rfl) (by kernel_rfl) (fun _ _ _ h => h) (by rfl) ?_ (by assumption) ?_
              rotate_left
              · (intro W hW; (try dsimp only at hW); go_simp; first | done | with_reducible rfl)
              try simp only [Act.put, List.setIfInBounds_toArray, List.set_cons_zero, List.set_cons_succ]
              refine' take_on (i := 8) (v := _) rfl (by kernel_rfl) (by kernel_rfl) (by kernel_rfl) (fun _ _ _ h => h) (by rfl) ?_ (by assumption) ?_
              rotate_left
              · (intro W hW; (try dsimp only at hW); go_simp; first | done | with_reducible rfl)
              try simp only [Act.put, List.setIfInBounds_toArray, List.set_cons_zero, List.set_cons_succ]
              refine' take_on (i := 9) (v := _) rfl (by kernel_rfl) (by kernel_rfl) (by kernel_rfl) (fun _ _ _ h => h) (by rfl) ?_ (by assumption) ?_
              rotate_left
              · (intro W hW; (try dsimp only at hW); go_simp; first | done | with_reducible rfl)
              try simp only [Act.put, List.setIfInBounds_toArray, List.set_cons_zero, List.set_cons_succ]
              refine' take_on (i := 10) (v := _) rfl (by kernel_rfl) (by kernel_rfl) (by kernel_rfl) (fun _ _ _ h => h) (by rfl) ?_ (by assumption) ?_
              rotate_left
              · (intro W hW; (try dsimp only at hW); go_simp; first | done | with_reducible rfl)
              try simp only [Act.put, List.setIfInBounds_toArray, List.set_cons_zero, List.set_cons_succ]
              refine' take_on (i := 11) (v := _) rfl (by kernel_rfl) (by kernel_rfl) (by kernel_rfl) (fun _ _ _ h => h) (by rfl) ?_ (by assumption) ?_
              rotate_left
              · (intro W hW; (try dsimp only at hW); go_simp; first | done | with_reducible rfl)
              try simp only [Act.put, List.setIfInBounds_toArray, List.set_cons_zero, List.set_cons_succ]
              refine' take_on (i := 12) (v := _) rfl (by kernel_rfl) (by kernel_rfl) (by kernel_rfl) (fun _ _ _ h => h) (by rfl) ?_ (by assumption) ?_
              rotate_left
              · (intro W hW; (try dsimp only at hW); go_simp; first | done | with_reducible rfl)
              try simp only [Act.put, List.setIfInBounds_toArray, List.set_cons_zero, List.set_cons_succ]
              refine' take_on (i := 13) (v := _) rfl (by kernel_rfl) (by kernel_rfl) (by kernel_rfl) (fun _ _ _ h => h) (by rfl) ?_ (by assumption) ?_
              rotate_left
              · (intro W hW; (try dsimp only at hW); go_simp; first | done | with_reducible rfl)
              try simp only [Act.put, List.setIfInBounds_toArray, List.set_cons_zero, List.set_cons_succ]
              refine' take_on (i := 14) (v := _) rfl (by kernel_rfl) (by kernel_rfl) (by kernel_rfl) (fun _ _ _ h => h) (by rfl) ?_ (by assumption) ?_
              rotate_left
              · (intro W hW; (try dsimp only at hW); go_simp; first | done | with_reducible rfl)
              try simp only [Act.put, List.setIfInBounds_toArray, List.set_cons_zero, List.set_cons_succ]
              refine' take_on (i := 15) (v := _) rfl (by kernel_rfl) (by kernel_rfl) (by kernel_rfl) (fun _ _ _ h => h) (by rfl) ?_ (by assumption) ?_
              rotate_left
              · (intro W hW; (try dsimp only at hW); go_simp; first | done | with_reducible rfl)
              try simp only [Act.put, List.setIfInBounds_toArray, List.set_cons_zero, List.set_cons_succ]
              refine' take_on (i := 16) (v := _) rfl (by kernel_rfl) (by kernel_rfl) (by kernel_rfl) (fun _ _ _ h => h) (by rfl) ?_ (by assumption) ?_
              rotate_left
              · (intro W hW; (try dsimp only at hW); go_simp; first | done | with_reducible rfl)
              try simp only [Act.put, List.setIfInBounds_toArray, List.set_cons_zero, List.set_cons_succ]
              refine' take_on (i := 17) (v := _) rfl (by kernel_rfl) (by kernel_rfl) (by kernel_rfl) (fun _ _ _ h => h) (by rfl) ?_ (by assumption) ?_
              rotate_left
              · (intro W hW; (try dsimp only at hW); go_simp; first | done | with_reducible rfl)
              try simp only [Act.put, List.setIfInBounds_toArray, List.set_cons_zero, List.set_cons_succ]
              refine' take_on (i := 18) (v := _) rfl (by kernel_rfl) (by kernel_rfl) (by kernel_rfl) (fun _ _ _ h => h) (by rfl) ?_ (by assumption) ?_
              rotate_left
              · (intro W hW; (try dsimp only at hW); go_simp; first | done | with_reducible rfl)
              try simp only [Act.put, List.setIfInBounds_toArray, List.set_cons_zero, List.set_cons_succ]
              refine' take_on (i := 19) (v := _) rfl (by kernel_rfl) (by kernel_rfl) (by kernel_rfl) (fun _ _ _ h => h) (by rfl) ?_ (by assumption) ?_
              rotate_left
              · (intro W hW; (try dsimp only at hW); go_simp; first | done | with_reducible rfl)
              try simp only [Act.put, List.setIfInBounds_toArray, List.set_cons_zero, List.set_cons_succ]
              refine' take_on (i := 20) (v := _) rfl (by kernel_rfl) (by kernel_rfl) (by kernel_rfl) (fun _ _ _ h => h) (by rfl) ?_ (by assumption) ?_
              rotate_left
              · (intro W hW; (try dsimp only at hW); go_simp; first | done | with_reducible rfl)
              try simp only [Act.put, List.setIfInBounds_toArray, List.set_cons_zero, List.set_cons_succ]
              refine' take_on (i := 21) (v := _) rfl (by kernel_rfl) (by kernel_rfl) (by kernel_rfl) (fun _ _ _ h => h) (by rfl) ?_ (by assumption) ?_
              rotate_left
              · (intro W hW; (try dsimp only at hW); go_simp; first | done | with_reducible rfl)
              try simp only [Act.put, List.setIfInBounds_toArray, List.set_cons_zero, List.set_cons_succ]
              refine' take_on (i := 22) (v := _) rfl (by kernel_rfl) (by kernel_rfl) (by kernel_rfl) (fun _ _ _ h => h) (by rfl) ?_ (by assumption) ?_
              rotate_left
              · (intro W hW; (try dsimp only at hW); go_simp; first | done | with_reducible rfl)
              try simp only [Act.put, List.setIfInBounds_toArray, List.set_cons_zero, List.set_cons_succ]
              refine' take_on (i := 23) (v := _) rfl (by kernel_rfl) (by kernel_rfl) (by kernel_rfl) (fun _ _ _ h => h) (by rfl) ?_ (by assumption) ?_
              rotate_left
              · (intro W hW; (try dsimp only at hW); go_simp; first | done | with_reducible rfl)
              try simp only [Act.put, List.setIfInBounds_toArray, List.set_cons_zero, List.set_cons_succ]
              refine' take_on (i := 24) (v := _) rfl (by kernel_rfl) (by kernel_rfl) (by kernel_rfl) (fun _ _ _ h => h) (by rfl) ?_ (by assumption) ?_
              rotate_left
              · (intro W hW; (try dsimp only at hW); go_simp; first | done | with_reducible rfl)
              try simp only [Act.put, List.setIfInBounds_toArray, List.set_cons_zero, List.set_cons_succ]
              refine' take_on (i := 25) (v := _) rfl (by kernel_rfl) (by kernel_rfl) (by kernel_rfl) (fun _ _ _ h => h) (by rfl) ?_ (by assumption) ?_
              rotate_left
              · (intro W hW; (try dsimp only at hW); go_simp; first | done | with_reducible rfl)
              try simp only [Act.put, List.setIfInBounds_toArray, List.set_cons_zero, List.set_cons_succ]
              refine' take_on (i := 26) (v := _) rfl (by kernel_rfl) (by kernel_rfl) (by kernel_rfl) (fun _ _ _ h => h) (by rfl) ?_ (by assumption) ?_
              rotate_left
              · (intro W hW; (try dsimp only at hW); go_simp; first | done | with_reducible rfl)
              try simp only [Act.put, List.setIfInBounds_toArray, List.set_cons_zero, List.set_cons_succ]
              refine' take_on (i := 27) (v := _) rfl (by kernel_rfl) (by kernel_rfl) (by kernel_rfl) (fun _ _ _ h => h) (by rfl) ?_ (by assumption) ?_
              rotate_left
              · (intro W hW; (try dsimp only at hW); go_simp; first | done | with_reducible rfl)
              try simp only [Act.put, List.setIfInBounds_toArray, List.set_cons_zero, List.set_cons_succ]
              refine' take_on (i := 28) (v := _) rfl (by kernel_rfl) (by kernel_rfl) (by kernel_rfl) (fun _ _ _ h => h) (by rfl) ?_ (by assumption) ?_
              rotate_left
              · (intro W hW; (try dsimp only at hW); go_simp; first | done | with_reducible rfl)
              try simp only [Act.put, List.setIfInBounds_toArray, List.set_cons_zero, List.set_cons_succ]
              refine' take_on (i := 29) (v := _) rfl (by kernel_rfl) (by kernel_rfl) (by kernel_rfl) (fun _ _ _ h => h) (by rfl) ?_ (by assumption) ?_
              rotate_left
              · (intro W hW; (try dsimp only at hW); go_simp; first | done | with_reducible rfl)
              try simp only [Act.put, List.setIfInBounds_toArray, List.set_cons_zero, List.set_cons_succ]
              refine' take_on (i := 30) (v := _) rfl (by kernel_rfl) (by kernel_rfl) (by kernel_rfl) (fun _ _ _ h => h) (by rfl) ?_ (by assumption) ?_
              rotate_left
              · (intro W hW; (try dsimp only at hW); go_simp; first | done | with_reducible rfl)
              try simp only [Act.put, List.setIfInBounds_toArray, List.set_cons_zero, List.set_cons_succ]
              refine' take_on (i := 31) (v := _) rfl (by kernel_rfl) (by kernel_rfl) (by kernel_rfl) (fun _ _ _ h => h) (by rfl) ?_ (by assumption) ?_
              rotate_left
              · (intro W hW; (try dsimp only at hW); go_simp; first | done | with_reducible rfl)
              try simp only [Act.put, List.setIfInBounds_toArray, List.set_cons_zero, List.set_cons_succ]
              refine' take_on (i := 32) (v := _) rfl (by kernel_rfl) (by kernel_rfl) (by kernel_rfl) (fun _ _ _ h => h) (by rfl) ?_ (by assumption) ?_
              rotate_left
              · (intro W hW; (try dsimp only at hW); go_simp; first | done | with_reducible rfl)
              try simp only [Act.put, List.setIfInBounds_toArray, List.set_cons_zero, List.set_cons_succ]
              refine wpAnyH_done (by kernel_rfl) ?_ _
              go_wp2_with fail
              go_ret
              exact ⟨rfl, hbd⟩
    · obtain rfl : i = L := by omega
      obtain rfl : ans = true := by rw [HR.out, List.drop_eq_nil_of_le (by rw [HL.out]; exact Nat.le_refl _)]; rfl
      go_wp2
      go_ret
      exact ⟨rfl, hbr⟩
end Go.Proofs.YtnancafpecfcjaaDoor

/-
  The document's answers for which certificates have bytes: tithingref09.May.
-/
namespace Go.Proofs.YtnancafpecfcjaaDoor
set_option maxRecDepth 20000
open Go.RowKit

/-- A signature of part 1, built. -/
theorem buildSg1_run (w : World) : (Instr.build 63 #[(0, .int .i64 1)]).run Tryd.prog w = .ok (.agg (sgc ⟨1, z32⟩)) w := by
  go_simp
  rfl
theorem exec_build_sg1 (a : Act) (dst : Option Tmp) (ty : TypeId) (pos : String) (after : Array Edge) (guard : Option (Nat × Bool)) (w : World) :
    Sem.run Tryd.prog (execOp a.eval { dst := dst, op := .build 63 #[(0, .const (.int .i64 1))], type := ty, pos := pos, after := after, guard := guard }) w = .ok (.value (.agg (sgc ⟨1, z32⟩))) w := by
  unfold execOp
  simp [Act.eval, buildSg1_run]
attribute [local go_sem ↓] exec_load_att exec_load_ct exec_build_sg1 exec_load_sg

set_option maxHeartbeats 600000 in
theorem refMay9_any (v : Value) (c : CtM) (w : World) (hv : CtV w v c) :
    Calls Tryd.prog 20 #[v] w fun e w' => e = .returned (.bool (mayC c)) ∧ Below w.heap.size w w' := by
  have HV := hid (fun W (h : Below w.heap.size w W) => hv.below h)
  obtain ⟨s, rfl, ho, ht⟩ := hv
  have hb0 : Below w.heap.size w (w.alloc (.cells (ctc c s) 30)) := (Below.refl _ _).alloc (Nat.le_refl _) _
  have hA := BoxC.new w c s
  obtain ⟨A, k, rfl⟩ := ht.shape
  have HT := hid (fun W (h : Below w.heap.size w W) => ht.below h)
  obtain ⟨L, HL⟩ : ∃ n : Nat, Hid (c.sg.length = n) := ⟨_, hid rfl⟩
  rw [HL.out] at hA hb0 HV HT ⊢
  obtain ⟨C, HC⟩ : ∃ C : Array Value, Hid (ctc c (.slice A L k) = C) := ⟨_, hid rfl⟩
  obtain ⟨b, HB⟩ : ∃ q : Bool, Hid (bareC c = q) := ⟨_, hid rfl⟩
  obtain ⟨m, HM⟩ : ∃ q : Bool, Hid (mayA (withC c.att ⟨1, z32⟩) = q) := ⟨_, hid rfl⟩
  obtain ⟨z, HZ⟩ : ∃ q : Bool, Hid (decide (0 < L) = q) := ⟨_, hid rfl⟩
  obtain ⟨r, HR⟩ : ∃ q : Bool, Hid (risesB 21 0 c.sg = q) := ⟨_, hid rfl⟩
  have HMC : Hid (mayC c = (b && (m && (z && r)))) := hid (by unfold mayC; rw [HB.out, HM.out, HL.out, HZ.out, HR.out])
  rw [HC.out] at hA hb0 HV ⊢
  rw [HMC.out]
  have hw1 : (withC c.att ⟨1, z32⟩).Ok := withC_ok ho.att rfl
  have HBA : Hid (∀ W, Below w.heap.size w W → Calls Tryd.prog 34 #[.agg C] W fun e w' => e = .returned (.bool b) ∧ Below W.heap.size W w') := hid (fun W h => by
    have := refBare9_any _ c W (HV.out W h)
    rw [HB.out] at this
    exact this)
  have HWI : Hid (∀ W, Calls Tryd.prog 35 #[.agg (atc c.att), .agg (sgc ⟨1, z32⟩)] W fun e w' => e = .returned (.agg (atc (withC c.att ⟨1, z32⟩))) ∧ Below W.heap.size W w') := hid (fun W => refWith9_any c.att ⟨1, z32⟩ W ho.att rfl)
  have HMA : Hid (∀ W, Calls Tryd.prog 45 #[.agg (atc (withC c.att ⟨1, z32⟩))] W fun e w' => e = .returned (.bool m) ∧ Below W.heap.size W w') := hid (fun W => by
    have := refMay8_any _ W hw1
    rw [HM.out] at this
    exact this)
  have HRI : Hid (∀ W, Below w.heap.size w W → Calls Tryd.prog 33 #[.slice A L k, .int .i64 21] W fun e w' => e = .returned (.bool r) ∧ Below W.heap.size W w') := hid (fun W h => by
    have := refRises9_any (.slice A L k) c.sg 21 W (HT.out W h)
    rw [HR.out] at this
    exact this)
  obtain ⟨G, HG⟩ : ∃ C : Array Value, Hid (atc c.att = C) := ⟨_, hid rfl⟩
  obtain ⟨S, HS⟩ : ∃ C : Array Value, Hid (sgc ⟨1, z32⟩ = C) := ⟨_, hid rfl⟩
  obtain ⟨X, HX⟩ : ∃ C : Array Value, Hid (atc (withC c.att ⟨1, z32⟩) = C) := ⟨_, hid rfl⟩
  rw [HG.out, HS.out, HX.out] at HWI
  rw [HX.out] at HMA
  have HLD : Hid (∀ W : World, W.heap[w.heap.size]? = some (.cells C 30 (0, 0)) → loadCt (.pointer (some ⟨w.heap.size, 0, none⟩)) W = .ok (.value (.agg C)) W ∧ loadAtt (.pointer (some ⟨w.heap.size, 0, none⟩)) W = .ok (.value (.agg G)) W ∧ W.cell? ⟨w.heap.size, 101, none⟩ = some (.slice A L k)) := hid (fun W h => by
    have h2 := h
    rw [← HC.out] at h2
    have hBC : BoxC W w.heap.size c (.slice A L k) := h2
    refine ⟨loadCt_row h (by rw [← HC.out]; exact ctc_size _ ho.att), ?_, hBC.sigs ho.att⟩
    rw [← HG.out]
    exact loadAtt_in hBC.att ho.att)
  have hr0 : (w.alloc (.cells C 30)).heap[w.heap.size]? = some (.cells C 30 (0, 0)) := heap_alloc_new w _
  clear hA ho ht hw1
  go_enter Tryd.func20, Tryd.ntmps20
  go_upto_region 1 with (fail)
  generalize (w.alloc (.cells C 30)) = w0 at *
  have hl0 := lt_of_block hr0
  have HF := hid (fun W (h : Below w0.heap.size w0 W) => HLD.out W ((h.block _ hl0).trans hr0))
  have l0 := (HF.out w0 (Below.refl _ _)).1
  clear hr0 hl0
  go_wp2_with fail
  refine (HBA.out w0 hb0).mono ?_
  rintro e w1 ⟨rfl, hb1⟩
  have hB1 := hb0.trans (hb1.mono hb0.size)
  clear l0
  cases b with
  | false =>
    go_wp2_with fail
    go_ret
    exact ⟨rfl, hB1⟩
  | true =>
    have l1 := (HF.out w1 hb1).2.1
    go_wp2_with fail
    rw [HS.out]
    refine (HWI.out w1).mono ?_
    rintro e w2 ⟨rfl, hb2'⟩
    have hb2 := hb1.trans (hb2'.mono hb1.size)
    have hB2 := hB1.trans (hb2'.mono hB1.size)
    clear l1
    go_wp2_with fail
    refine (HMA.out w2).mono ?_
    rintro e w3 ⟨rfl, hb3'⟩
    have hb3 := hb2.trans (hb3'.mono hb2.size)
    have hB3 := hB2.trans (hb3'.mono hB2.size)
    clear hb2 hb2' hb3' hB2
    cases m with
    | false =>
      go_wp2_with fail
      go_ret
      exact ⟨rfl, hB3⟩
    | true =>
      have c3 := (HF.out w3 hb3).2.2
      cases z with
      | false =>
        have hi : ¬ (0 : Int) < (L : Int) := by have := of_decide_eq_false HZ.out; omega
        go_wp2_with fail
        go_ret
        exact ⟨rfl, hB3⟩
      | true =>
        have hi : (0 : Int) < (L : Int) := by have := of_decide_eq_true HZ.out; omega
        go_wp2_with fail
        refine (HRI.out w3 hB3).mono ?_
        rintro e w4 ⟨rfl, hb4⟩
        have hB4 := hB3.trans (hb4.mono hB3.size)
        clear c3
        go_wp2_with fail
        go_ret
        exact ⟨rfl, hB4⟩

end Go.Proofs.YtnancafpecfcjaaDoor

/-
  What tithingref09.Read has in memory while it reads: the reader, the results yet nought, the certificate. A signature's variable: kept whole.
-/
namespace Go.Proofs.YtnancafpecfcjaaDoor
set_option maxRecDepth 20000
open Go.RowKit

/-- The signature that is nought. -/
noncomputable def buildSg (w : World) : Result Next := Sem.run Tryd.prog (execOp (fun _ => undef) { dst := none, op := .build 63 #[], type := 0, pos := "", after := #[], guard := none }) w
theorem exec_build_sg (r : Operand → Value) (dst : Option Tmp) (ty : TypeId) (pos : String) (after : Array Edge) (guard : Option (Nat × Bool)) (w : World) :
    Sem.run Tryd.prog (execOp r { dst := dst, op := .build 63 #[], type := ty, pos := pos, after := after, guard := guard }) w = buildSg w := by
  unfold buildSg execOp
  simp
theorem buildSg_eq (w : World) : buildSg w = .ok (.value (.agg (sgc sgZ))) w := by
  unfold buildSg
  go_simp
  rfl
/-- A variable for a signature. -/
noncomputable def allocSg (w : World) : Result Next := Sem.run Tryd.prog (execOp (fun _ => undef) { dst := none, op := .alloc 63, type := 0, pos := "", after := #[], guard := none }) w
theorem exec_alloc_sg (r : Operand → Value) (dst : Option Tmp) (ty : TypeId) (pos : String) (after : Array Edge) (guard : Option (Nat × Bool)) (w : World) :
    Sem.run Tryd.prog (execOp r { dst := dst, op := .alloc 63, type := ty, pos := pos, after := after, guard := guard }) w = allocSg w := rfl
theorem zero_sg : (Tryd.prog.info? 63).bind (·.zero) = some (.agg (sgc sgZ)) := by kernel_rfl
theorem run_zero_sg (w : World) : (zeroValue 63).run Tryd.prog w = .ok (.agg (sgc sgZ)) w := by
  have h := zero_sg
  cases hq : Tryd.prog.info? 63 with
  | none => rw [hq] at h; cases h
  | some i =>
    rw [hq] at h
    have hz : i.zero = some (.agg (sgc sgZ)) := h
    simp [zeroValue, typeInfo, hq, hz]
theorem allocSg_eq (w : World) : allocSg w = .ok (.value (.pointer (some ⟨w.heap.size, 0, none⟩))) (w.alloc (.cells (sgc sgZ) 63)) := by
  unfold allocSg execOp
  simp only [Sem.run_bind, Instr.alloc, run_zero_sg, newVar, newRow, run_newObj_alloc, Sem.run_pure, Result.andThen_ok, Value.cells]
noncomputable def storeSg (p v : Value) (w : World) : Result Next := Sem.run Tryd.prog (execOp (fun x => match x with
  | .tmp 0 => p
  | _ => v) { dst := none, op := .store 63 (.tmp 0) (.tmp 1), type := 0, pos := "", after := #[], guard := none }) w
theorem exec_store_sg (r : Operand → Value) (x y : Operand) (dst : Option Tmp) (ty : TypeId) (pos : String) (after : Array Edge) (guard : Option (Nat × Bool)) (w : World) :
    Sem.run Tryd.prog (execOp r { dst := dst, op := .store 63 x y, type := ty, pos := pos, after := after, guard := guard }) w = storeSg (r x) (r y) w := rfl
/-- A variable for a signature, and what is told stored into it. -/
theorem sg_var (w : World) {Z S : Array Value} (hZ : Z.size = 33) (hS : S.size = 33) (h1 : S.all (·.oneCell') = true) :
    storeSg (.pointer (some ⟨w.heap.size, 0, none⟩)) (.agg S) (w.alloc (.cells Z 63)) = .ok .skip (w.alloc (.cells S 63)) := by
  have := run_storeVar_row (P := Tryd.prog) (w.alloc (.cells Z 63)) w.heap.size 63 63 Z S (heap_alloc_new w _) (by rw [size_sg, hS]) (by rw [hZ, hS]) h1
  unfold storeSg execOp
  simp only [Instr.storeAt, Instr.sureAddr, Sem.run_bind, Sem.run_pure, Result.andThen_ok, this]
  rw [show (w.alloc (.cells Z 63)).setRow w.heap.size S = w.alloc (.cells S 63) from setCt_alloc w _ Z S]
theorem sgc_by (n m : Int) (t : List UInt8) : (sgc ⟨m, t⟩).setIfInBounds 0 (.int .i64 n) = sgc ⟨n, t⟩ := by
  unfold sgc scl
  rw [List.setIfInBounds_toArray]
  rfl

/-- Blocks B .. B + 3: the reader, the results yet nought, the certificate. -/
structure CtSt (w0 w : World) (x0 x1 x2 : Value) (a : AtM) (s : Value) : Prop where
  bel : Below w0.heap.size w0 w
  b0 : w.heap[w0.heap.size]? = some (.cells #[x0, x1, x2] 46 (0, 0))
  b1 : w.heap[w0.heap.size + 1]? = some (.cells #[.slice none 0 0, .int .i64 0, .bool false] 46 (0, 0))
  b2 : BoxC w (w0.heap.size + 1 + 1) ctZ (.slice none 0 0)
  b3 : BoxC w (w0.heap.size + 1 + 1 + 1) ⟨a, []⟩ s
section
variable {w0 w w' : World} {x0 x1 x2 s : Value} {a : AtM}
theorem CtSt.lt (h : CtSt w0 w x0 x1 x2 a s) : w0.heap.size + 1 + 1 + 1 < w.heap.size := lt_of_block h.b3
theorem CtSt.below (h : CtSt w0 w x0 x1 x2 a s) (hb : Below w.heap.size w w') : CtSt w0 w' x0 x1 x2 a s := by
  have hlt := h.lt
  exact ⟨h.bel.trans (hb.mono h.bel.size), (hb.block _ (by omega)).trans h.b0, (hb.block _ (by omega)).trans h.b1, (hb.block _ (by omega)).trans h.b2, (hb.block _ hlt).trans h.b3⟩
theorem CtSt.new (w : World) (x0 x1 x2 : Value) :
    CtSt w ((((w.alloc (.cells #[x0, x1, x2] 46)).alloc (.cells #[.slice none 0 0, .int .i64 0, .bool false] 46)).alloc (.cells (ctc ctZ (.slice none 0 0)) 30)).alloc (.cells (ctc ctZ (.slice none 0 0)) 30)) x0 x1 x2 atZ (.slice none 0 0) :=
  ⟨four_below _ _ _ _ _, four_0 _ _ _ _ _, four_1 _ _ _ _ _, four_2 _ _ _ _ _, four_3 _ _ _ _ _⟩
theorem CtSt.put (h : CtSt w0 w x0 x1 x2 a s) (y0 y1 y2 : Value) :
    CtSt w0 (((w.setCell ⟨w0.heap.size, 0, none⟩ y0).setCell ⟨w0.heap.size, 1, none⟩ y1).setCell ⟨w0.heap.size, 2, none⟩ y2) y0 y1 y2 a s := by
  refine ⟨((h.bel.setCell (Nat.le_refl _) _).setCell (Nat.le_refl _) _).setCell (Nat.le_refl _) _, ?_, ?_, ?_, ?_⟩
  · exact set_blk (set_blk (set_blk h.b0 0 y0) 1 y1) 2 y2
  · exact blk_other (blk_other (blk_other h.b1 y0 (by omega)) y1 (by omega)) y2 (by omega)
  · exact blk_other (blk_other (blk_other h.b2 y0 (by omega)) y1 (by omega)) y2 (by omega)
  · exact blk_other (blk_other (blk_other h.b3 y0 (by omega)) y1 (by omega)) y2 (by omega)
theorem CtSt.cell (h : CtSt w0 w x0 x1 x2 a s) (ho : a.Ok) {b : AtM} {v : Value} (i : Nat) (hi : i < 101) (e : (atc a).setIfInBounds i v = atc b) : CtSt w0 (w.setCell ⟨w0.heap.size + 1 + 1 + 1, i, none⟩ v) x0 x1 x2 b s := by
  refine ⟨h.bel.setCell (by simp only; omega) _, blk_other h.b0 _ (by omega), blk_other h.b1 _ (by omega), blk_other h.b2 _ (by omega), ?_⟩
  have := set_blk h.b3 i v
  unfold atc at e
  rw [List.setIfInBounds_toArray] at e
  have e' : (atl a).set i v = atl b := by simpa using e
  unfold ctc at this
  rw [List.setIfInBounds_toArray, List.set_append_left _ _ (by rw [atl_length ho]; exact hi), e'] at this
  exact this
theorem CtSt.sig (h : CtSt w0 w x0 x1 x2 a s) (ho : a.Ok) (v : Value) : CtSt w0 (w.setCell ⟨w0.heap.size + 1 + 1 + 1, 101, none⟩ v) x0 x1 x2 a v := by
  refine ⟨h.bel.setCell (by simp only; omega) _, blk_other h.b0 _ (by omega), blk_other h.b1 _ (by omega), blk_other h.b2 _ (by omega), ?_⟩
  have := set_blk h.b3 101 v
  unfold ctc at this
  rw [List.setIfInBounds_toArray, List.set_append_right _ _ (by rw [atl_length ho]; omega), atl_length ho] at this
  exact this
theorem CtSt.far (h : CtSt w0 w x0 x1 x2 a s) {g : Nat} (hg : w0.heap.size + 1 + 1 + 1 < g) (i : Nat) (v : Value) : CtSt w0 (w.setCell ⟨g, i, none⟩ v) x0 x1 x2 a s :=
  ⟨h.bel.setCell (by simp only; omega) _, blk_other h.b0 _ (by omega), blk_other h.b1 _ (by omega), blk_other h.b2 _ (by omega), blk_other h.b3 _ (by omega)⟩
theorem CtSt.grown (h : CtSt w0 w x0 x1 x2 a s) {g : Option Nat} (hg : w.grownBy w' g) (hB : ∀ k, g = some k → w0.heap.size + 1 + 1 + 1 < k) : CtSt w0 w' x0 x1 x2 a s := by
  have hlt := h.lt
  refine ⟨h.bel.grown hg h.bel.size (fun k hk => by have := hB k hk; omega), ?_, ?_, ?_, ?_⟩
  · exact (hg.block _ (by omega) (fun e => by have := hB _ e.symm; omega)).trans h.b0
  · exact (hg.block _ (by omega) (fun e => by have := hB _ e.symm; omega)).trans h.b1
  · exact (hg.block _ (by omega) (fun e => by have := hB _ e.symm; omega)).trans h.b2
  · exact (hg.block _ hlt (fun e => by have := hB _ e.symm; omega)).trans h.b3
theorem CtSt.att (h : CtSt w0 w x0 x1 x2 a s) {b : AtM} {v : Value} (hg : w.grownBy w' (some (w0.heap.size + 1 + 1 + 1))) (hb : BoxC w' (w0.heap.size + 1 + 1 + 1) ⟨b, []⟩ v) : CtSt w0 w' x0 x1 x2 b v := by
  have hlt := h.lt
  refine ⟨h.bel.grown hg h.bel.size (fun k hk => by injection hk with hk; omega), ?_, ?_, ?_, hb⟩
  · exact (hg.block _ (by omega) (fun e => by injection e with e; omega)).trans h.b0
  · exact (hg.block _ (by omega) (fun e => by injection e with e; omega)).trans h.b1
  · exact (hg.block _ (by omega) (fun e => by injection e with e; omega)).trans h.b2
/-- The cells, and that none is fixed. -/
theorem CtSt.cells (h : CtSt w0 w x0 x1 x2 a s) (ho : a.Ok) :
    (w.cell? ⟨w0.heap.size, 0, none⟩ = some x0 ∧ w.cell? ⟨w0.heap.size, 1, none⟩ = some x1 ∧ w.cell? ⟨w0.heap.size, 2, none⟩ = some x2) ∧
    (w.cell? ⟨w0.heap.size + 1 + 1 + 1, 1, none⟩ = some (.int .i64 a.ki) ∧ w.cell? ⟨w0.heap.size + 1 + 1 + 1, 2, none⟩ = some (.int .i64 a.vi) ∧ w.cell? ⟨w0.heap.size + 1 + 1 + 1, 3, none⟩ = some (.int .i64 a.ph) ∧ w.cell? ⟨w0.heap.size + 1 + 1 + 1, 36, none⟩ = some (.int .i64 a.pv) ∧ w.cell? ⟨w0.heap.size + 1 + 1 + 1, 101, none⟩ = some s) ∧
    (∀ i, w.frozen? ⟨w0.heap.size, i, none⟩ = false) ∧ (∀ i, w.frozen? ⟨w0.heap.size + 1 + 1 + 1, i, none⟩ = false) := by
  have K : ∀ i v, (atl a)[i]? = some v → w.cell? ⟨w0.heap.size + 1 + 1 + 1, i, none⟩ = some v := fun i v hv => by
    have := h.b3.att i v hv
    rwa [Nat.zero_add] at this
  refine ⟨⟨cell_blk h.b0 0, cell_blk h.b0 1, cell_blk h.b0 2⟩, ⟨K 1 _ rfl, K 2 _ rfl, K 3 _ rfl, K 36 _ ?_, h.b3.sigs ho⟩, free_blk h.b0, h.b3.free⟩
  rw [atl_pv, List.getElem?_append_right (by simp only [List.length_append, bcells_length, ho.ha, List.length_cons, List.length_nil]; omega)]
  simp only [List.length_append, bcells_length, ho.ha, List.length_cons, List.length_nil]
  rfl
end
theorem atl_pas (a : AtM) (s : Value) : atl a ++ [s] = ([.int .i64 a.bo, .int .i64 a.ki, .int .i64 a.vi, .int .i64 a.ph] ++ (bcells a.ha ++ [.int .i64 a.pv])) ++ (bcells a.pa ++ (bcells a.tg ++ [s])) := by
  rw [atl_pa]
  simp only [List.append_assoc]
section
variable {ops : Array Oper} {rest : List Oper} {o : Oper} {ac : Act} {w : World} {Q : Exit → Act → World → Prop}
theorem wpList_store_cha (hgd : o.guard = none) (x y : Operand) (ho : o.op = .store 25 x y)
    {g : Nat} {a : AtM} {s : Value} {h : List UInt8} (hx : ac.eval x = .pointer (some ⟨g, 4, none⟩)) (hy : ac.eval y = .agg (hcells h)) (hg : BoxC w g ⟨a, []⟩ s) (hok : a.Ok) (hl : h.length = 32)
    (hh : ∀ w', w.grownBy w' (some g) → BoxC w' g ⟨{ a with ha := h }, []⟩ s → w'.heap.size = w.heap.size → wpList Tryd.prog ops Q rest (ac.put o.dst undef) w') : wpList Tryd.prog ops Q (o :: rest) ac w := by
  unfold BoxC ctc at hg
  rw [atl_ha, List.append_assoc, List.append_assoc] at hg
  refine wpList_store_midh hgd x y ho hx hy hg rfl (by rw [bcells_length, hok.ha]) hl (fun w' h1 h2 h3 => hh w' h1 ?_ h3)
  unfold BoxC ctc
  rw [atl_ha, List.append_assoc, List.append_assoc]
  exact h2
theorem wpList_store_cpa (hgd : o.guard = none) (x y : Operand) (ho : o.op = .store 25 x y)
    {g : Nat} {a : AtM} {s : Value} {h : List UInt8} (hx : ac.eval x = .pointer (some ⟨g, 37, none⟩)) (hy : ac.eval y = .agg (hcells h)) (hg : BoxC w g ⟨a, []⟩ s) (hok : a.Ok) (hl : h.length = 32)
    (hh : ∀ w', w.grownBy w' (some g) → BoxC w' g ⟨{ a with pa := h }, []⟩ s → w'.heap.size = w.heap.size → wpList Tryd.prog ops Q rest (ac.put o.dst undef) w') : wpList Tryd.prog ops Q (o :: rest) ac w := by
  unfold BoxC ctc at hg
  rw [atl_pas] at hg
  refine wpList_store_midh hgd x y ho hx hy hg (by simp only [List.length_append, bcells_length, hok.ha, List.length_cons, List.length_nil]) (by rw [bcells_length, hok.pa]) hl (fun w' h1 h2 h3 => hh w' h1 ?_ h3)
  unfold BoxC ctc
  rw [atl_pas]
  exact h2
end
end Go.Proofs.YtnancafpecfcjaaDoor

/-
  A slice of one signature: kept whole.
-/
namespace Go.Proofs.YtnancafpecfcjaaDoor
set_option maxRecDepth 20000
open Go.RowKit

noncomputable def sliceSg (v : Value) (w : World) : Result Next := Sem.run Tryd.prog (execOp (fun _ => v) { dst := none, op := .buildSlice 28 1 #[(0, .tmp 0)], type := 0, pos := "", after := #[], guard := none }) w
theorem exec_slice_sg (r : Operand → Value) (x : Operand) (dst : Option Tmp) (ty : TypeId) (pos : String) (after : Array Edge) (guard : Option (Nat × Bool)) (w : World) :
    Sem.run Tryd.prog (execOp r { dst := dst, op := .buildSlice 28 1 #[(0, x)], type := ty, pos := pos, after := after, guard := guard }) w = sliceSg (r x) w := by
  unfold sliceSg execOp
  simp
theorem sliceSg_eq (s : SgM) (hs : s.Ok) (w : World) : sliceSg (.agg (sgc s)) w = .ok (.value (.slice (some ⟨w.heap.size, 0, none⟩) 1 1)) (w.alloc (.cells (sgc s) 63)) := by
  have hsz : (sgc s).size = 33 := sgc_size hs
  have e0 : (sgc s).zipIdx = ((scl s).zipIdx).toArray := by unfold sgc; simp
  unfold sliceSg
  go_simp
  have e := putAt_mid (scl s) [] (scl sgZ) [] (by rw [scl_length hs, scl_length sgZ_ok])
  simp only [List.nil_append, List.append_nil, List.length_nil] at e
  rw [← fold_putSg] at e
  exact congrArg (fun C => w.alloc (.cells C 63)) e
end Go.Proofs.YtnancafpecfcjaaDoor

/-
  The document's answer for a certificate's bytes: tithingref09.Bytes.
-/
namespace Go.Proofs.YtnancafpecfcjaaDoor
set_option maxRecDepth 20000
open Go.RowKit
attribute [local go_sem ↓] exec_load_att

theorem bytesG_len {s : SgM} (ho : s.Ok) (h1 : 1 ≤ s.bo) (h2 : s.bo ≤ 21) : (bytesG s).length = 33 := by
  unfold bytesG
  rw [dg_small (by omega), List.length_append, ho]
  rfl
theorem flatG_len (l : List SgM) (h : ∀ s ∈ l, s.Ok ∧ 1 ≤ s.bo ∧ s.bo ≤ 21) : (l.map bytesG).flatten.length = l.length * 33 := by
  induction l with
  | nil => rfl
  | cons s l ih =>
    have h1 := h s (by simp)
    rw [List.map_cons, List.flatten_cons, List.length_append, ih (fun x hx => h x (List.mem_cons_of_mem _ hx)), bytesG_len h1.1 h1.2.1 h1.2.2, List.length_cons]
    omega
theorem flatG_snoc (l : List SgM) (i : Nat) (h : i < l.length) : ((l.take (i + 1)).map bytesG).flatten = ((l.take i).map bytesG).flatten ++ bytesG l[i] := by
  rw [List.take_succ_eq_append_getElem h]
  simp only [List.map_append, List.map_cons, List.map_nil, List.flatten_append, List.flatten_cons, List.flatten_nil, List.append_nil]
theorem mayC_all {c : CtM} (hm : mayC c = true) : bareC c = true ∧ (1 ≤ c.att.ki ∧ c.att.ki ≤ 3 ∧ c.att.ph = c.att.ki ∧ 1 ≤ c.att.vi ∧ c.att.vi ≤ 1099511627776 ∧ 0 ≤ c.att.pv ∧ c.att.pv ≤ c.att.vi) ∧ 0 < c.sg.length ∧ c.sg.length ≤ 21 ∧ ∀ s ∈ c.sg, 1 ≤ s.bo ∧ s.bo ≤ 21 := by
  unfold mayC at hm
  simp only [Bool.and_eq_true, decide_eq_true_eq] at hm
  obtain ⟨hb, ha, hl, hr⟩ := hm
  obtain ⟨_, _, h3, h4, h5, h6, h7, h8, h9⟩ := mayA_iff ha
  exact ⟨hb, ⟨h3, h4, h5, h6, h7, h8, h9⟩, hl, risesB_len (top := 21) hr, fun s hs => by have := risesB_mem hr s hs; omega⟩
theorem bytesC_len {c : CtM} (ho : c.Ok) (hm : mayC c = true) : (bytesC c).length ≤ 1000 := by
  obtain ⟨_, ⟨h3, h4, h5, h6, h7, h8, h9⟩, _, hl, hs⟩ := mayC_all hm
  have e1 := dg_len10 (n := c.att.ki.toNat) (by omega)
  have e2 := dg_len10 (n := c.att.vi.toNat) (by omega)
  have e3 := dg_len10 (n := c.att.ph.toNat) (by omega)
  have e4 := dg_len10 (n := c.att.pv.toNat) (by omega)
  have e5 := dg_len10 (n := c.sg.length) (by omega)
  have e6 := flatG_len c.sg (fun s h => ⟨ho.sg s h, hs s h⟩)
  have := ho.att.ha
  have := ho.att.pa
  unfold bytesC taggedA
  simp only [List.length_append]
  omega

set_option maxHeartbeats 1600000 in
theorem refBytes9_any (v : Value) (c : CtM) (w : World) (hv : CtV w v c) (hm : mayC c = true) :
    Calls Tryd.prog 22 #[v] w fun e w' => ∃ x, e = .returned x ∧ Own w.heap.size w' x (bytesC c) ∧ Below w.heap.size w w' := by
  obtain ⟨s, rfl, ho, ht⟩ := hv
  obtain ⟨_, hat, hl0', hl21, hsg⟩ := mayC_all hm
  have HAL : Hid (∀ s ∈ c.sg, s.Ok ∧ (1 : Int) ≤ s.bo ∧ s.bo ≤ 21) := hid (fun s hs => ⟨ho.sg s hs, hsg s hs⟩)
  have hb0 : Below w.heap.size w (w.alloc (.cells (ctc c s) 30)) := (Below.refl _ _).alloc (Nat.le_refl _) _
  have hr0 := heap_alloc_new w (.cells (ctc c s) 30)
  have ht0 := ht.below hb0
  obtain ⟨A, k, rfl⟩ := ht.shape
  obtain ⟨L, HL⟩ : ∃ n : Nat, Hid (c.sg.length = n) := ⟨_, hid rfl⟩
  rw [HL.out] at hr0 hb0 ht0 hl21 ⊢
  obtain ⟨C, HC⟩ : ∃ C : Array Value, Hid (ctc c (.slice A L k) = C) := ⟨_, hid rfl⟩
  obtain ⟨O, HO⟩ : ∃ O : List UInt8, Hid (bytesC c = O) := ⟨_, hid rfl⟩
  obtain ⟨T, HT⟩ : ∃ O : List UInt8, Hid (taggedA c.att = O) := ⟨_, hid rfl⟩
  have HTL : Hid (T.length ≤ 110) := hid (by
    obtain ⟨h3, h4, h5, h6, h7, h8, h9⟩ := hat
    have e1 := dg_len10 (n := c.att.ki.toNat) (by omega)
    have e2 := dg_len10 (n := c.att.vi.toNat) (by omega)
    have e3 := dg_len10 (n := c.att.ph.toNat) (by omega)
    have e4 := dg_len10 (n := c.att.pv.toNat) (by omega)
    have := ho.att.ha
    have := ho.att.pa
    rw [← HT.out]
    unfold taggedA
    simp only [List.length_append]
    omega)
  rw [HC.out] at hr0 hb0 ht0 ⊢
  rw [HO.out]
  have HAO := hid ho.att
  have HTG := hid (fun W => refTagged_of c.att W ho.att hat)
  rw [HT.out] at HTG
  obtain ⟨G, HG⟩ : ∃ C : Array Value, Hid (atc c.att = C) := ⟨_, hid rfl⟩
  rw [HG.out] at HTG
  have HLD : Hid (∀ W : World, W.heap[w.heap.size]? = some (.cells C 30 (0, 0)) → loadAtt (.pointer (some ⟨w.heap.size, 0, none⟩)) W = .ok (.value (.agg G)) W ∧ W.cell? ⟨w.heap.size, 101, none⟩ = some (.slice A L k)) := hid (fun W h => by
    rw [← HC.out] at h
    have hBC : BoxC W w.heap.size c (.slice A L k) := h
    rw [← HG.out]
    exact ⟨loadAtt_in hBC.att HAO.out, hBC.sigs HAO.out⟩)
  have hLw : IntKind.u8.wrap (L : Int) = (L : Int) := by rw [IntKind.wrap_u8']; omega
  have HYL := hid (fun w => one_own w L (by omega))
  have HDL : Hid (dg L = [UInt8.ofNat L]) := hid (dg_small (by omega))
  have HL21 := hid hl21
  clear ho ht hm hat hl0' hl21 hsg
  go_enter Tryd.func22, Tryd.ntmps22
  go_upto_region 1 with (fail)
  generalize (w.alloc (.cells C 30)) = w0 at *
  have hlr := lt_of_block hr0
  have HX := hid (fun W (h : Below w0.heap.size w0 W) => HLD.out W ((h.block _ hlr).trans hr0))
  have HTX := hid (fun W (h : Below w0.heap.size w0 W) => ht0.below h)
  have hbd : Below w0.heap.size w0 w0.drew := (Below.refl _ _).drew
  have hs0 := hb0.size
  have HA1 : Hid (Below w0.heap.size w0 (w0.alloc (.cells #[.int .u8 (L : Int)] 5)).drew) := hid (((Below.refl _ _).alloc (Nat.le_refl _) _).drew)
  have HA2 : Hid (Byt (w0.alloc (.cells #[.int .u8 (L : Int)] 5)).drew (.slice (some ⟨w0.heap.size, 0, none⟩) 1 1) [UInt8.ofNat L]) := hid (HYL.out w0).byt
  clear hr0 hlr ht0
  go_region_held3 (fun W => loadAtt (.pointer (some ⟨w.heap.size, 0, none⟩)) W = .ok (.value (.agg G)) W ∧ W.cell? ⟨w.heap.size, 101, none⟩ = some (.slice A L k))
    (first
      | (refine HX.out _ hbd)
      | (refine HX.out _ hb5)
      | (refine HX.out _ hb4)
      | (refine HX.out _ HA1.out)
      | (refine HX.out _ (hb4.alloc hb4.size _))
      | fail)
    (first
      | (refine step_append_byt (by rfl) (.tmp 7) (.tmp 12) (by rfl) (by rfl) (by rfl) (ho4.more HA1.out.size) (HA2.out.below hb4') (by have := HTL.out; simp only [List.length_cons, List.length_nil]; omega) hb4.size ?_; intro v5 w5 ho5 hg5 _; have hb5 := hb4.grown hg5 hb4.size (fun q hq => Nat.le_trans HA1.out.size (World.ownsRow.lt ho4 q hq).1); clear hg5)
      | (refine step_append_byt (by rfl) (.tmp 7) (.tmp 12) (by rfl) (by rfl) (by rfl) (ho4.alloc _) (HYL.out w4).byt (by have := HTL.out; simp only [List.length_cons, List.length_nil]; omega) (Nat.le_trans hb4.size (al_le _ _)) ?_; intro v5 w5 ho5 hg5 _; have hb5 := (hb4.alloc hb4.size _).grown hg5 (Nat.le_trans hb4.size (al_le _ _)) (fun q hq => (World.ownsRow.lt ho4 q hq).1); clear hg5)
      | (go_at_call 46; (with_reducible refine (HTG.out (w0.alloc (.cells #[.int .u8 (L : Int)] 5)).drew).mono ?_); rintro e w4 ⟨v4, rfl, ho4, hb4'⟩; have hb4 := HA1.out.trans (hb4'.mono HA1.out.size))
      | (go_at_call 46; (with_reducible refine (HTG.out w0.drew).mono ?_); rintro e w4 ⟨v4, rfl, ho4, hb4'⟩; have hb4 := hbd.trans hb4')
      | fail)
  all_goals
    have ho5' : Own w0.heap.size w5 v5 (T ++ [UInt8.ofNat L]) := ho5
    clear ho4 ho5 hb4 hb4'
    obtain ⟨P, HP⟩ : ∃ P : List UInt8, Hid (T ++ [UInt8.ofNat L] = P) := ⟨_, hid rfl⟩
    have HPL : Hid (P.length ≤ 111) := hid (by rw [← HP.out, List.length_append]; have := HTL.out; simp only [List.length_cons, List.length_nil]; omega)
    rw [HP.out] at ho5'
    have HLI : Hid (L ≤ 9223372036854775807) := hid (by have := HL21.out; omega)
    clear hbd hLw
    go_wp2_with fail
    go_loopw [3, 4] (fun out si wr => ∃ i : Nat, i ≤ L ∧ si = .int .i64 i ∧ Own w0.heap.size wr out (P ++ ((c.sg.take i).map bytesG).flatten) ∧ Below w0.heap.size w0 wr) (fun _ si _ => L - (intOf si).toNat)
    case atStart => exact ⟨0, Nat.zero_le _, rfl, by rw [List.take_zero, List.map_nil, List.flatten_nil, List.append_nil]; exact ho5', hb5⟩
    case round =>
      obtain ⟨i, hi, rfl, hown, hB⟩ := hrel
      clear ho5' hb5
      by_cases hlt : i < L
      · have hil : i < c.sg.length := by rw [HL.out]; exact hlt
        obtain ⟨g, o, rfl, hg, _⟩ := (HTX.out wr hB).at_.2.2.2 (by omega)
        have hsi := HAL.out _ (List.getElem_mem hil)
        have HNEW := hid (flatG_snoc c.sg i hil)
        have HFL : Hid (((c.sg.take i).map bytesG).flatten.length ≤ 693) := hid (by
          have := flatG_len (c.sg.take i) (fun s hs => HAL.out s (List.mem_of_mem_take hs))
          rw [List.length_take] at this
          have := HL21.out
          omega)
        obtain ⟨⟨b, tg⟩, HSI⟩ : ∃ s, Hid (c.sg[i] = s) := ⟨_, hid rfl⟩
        rw [HSI.out] at hsi HNEW
        obtain ⟨hs1, hs2, hs3⟩ := hsi
        simp only at hs2 hs3
        have HG32 : Hid (tg.length = 32) := hid hs1
        obtain ⟨n, rfl⟩ := nat_of (i := b) (by omega)
        have HBG : Hid (bytesG ⟨(n : Int), tg⟩ = [UInt8.ofNat n] ++ tg) := hid (by
          unfold bytesG
          rw [Int.toNat_natCast, dg_small (by omega)])
        have hbw : IntKind.u8.wrap (n : Int) = (n : Int) := by rw [IntKind.wrap_u8']; omega
        have HYP := hid (fun w => one_own w n (by omega))
        have HBH := hid (fun w => refBytes7_arr tg w HG32.out)
        have HS : Hid (∀ W, Below w0.heap.size w0 W → (W.cell? ⟨w.heap.size, 101, none⟩ = some (.slice (some ⟨g, o, none⟩) L k) ∧ W.cell? ⟨g, o + i * 33, none⟩ = some (.int .i64 (n : Int)) ∧ W.rangeAt g (o + i * 33 + 1) (bcells tg))) := hid (fun W h => by
          obtain ⟨g', o', e, _, hcl⟩ := (HTX.out W h).at_.2.2.2 (by omega)
          injection e with e
          injection e with e1 e2 _
          subst e1 e2
          have := sg_range (hcl i hil)
          rw [HSI.out] at this
          exact ⟨(HX.out W h).2, this.1, this.2⟩)
        obtain ⟨Q, HQ⟩ : ∃ Q : List UInt8, Hid (P ++ ((c.sg.take i).map bytesG).flatten = Q) := ⟨_, hid rfl⟩
        have HQL : Hid (Q.length ≤ 1000) := hid (by rw [← HQ.out, List.length_append]; have := HPL.out; have := HFL.out; omega)
        rw [HQ.out] at hown
        have hI : (i : Int) < (L : Int) := by omega
        have hbr : Below w0.heap.size w0 wr.drew := hB.drew
        have hzr := hB.size
        have hbB : Below wr.heap.size wr (wr.alloc (.cells #[.int .u8 (n : Int)] 5)).drew := ((Below.refl _ _).alloc (Nat.le_refl _) _).drew
        have hyB : Byt (wr.alloc (.cells #[.int .u8 (n : Int)] 5)).drew (.slice (some ⟨wr.heap.size, 0, none⟩) 1 1) [UInt8.ofNat n] := (HYP.out wr).byt
        have HB1 := hid hbB
        have HB2 := hid hyB
        have HB3 := hid (hB.trans (hbB.mono hB.size))
        have hdr : Below wr.heap.size wr wr.drew := (Below.refl _ _).drew
        have hu := under_hash
        have hsz : (Tryd.prog.info? 25).map (·.size) = some (bcells tg).length := by rw [size_hash, bcells_length, HG32.out]
        have c0 := (HX.out wr hB).2
        clear hbB hyB hs1 hs2 hs3 hg
        go_upto_region 5 with (fail)
        clear c0
        go_region_held3 (fun W => W.cell? ⟨w.heap.size, 101, none⟩ = some (.slice (some ⟨g, o, none⟩) L k) ∧ W.cell? ⟨g, o + i * 33, none⟩ = some (.int .i64 (n : Int)) ∧ W.rangeAt g (o + i * 33 + 1) (bcells tg))
          (first
            | (refine HS.out _ hbr)
            | (refine HS.out _ hb8)
            | (refine HS.out _ hb7)
            | (refine HS.out _ hb6)
            | (refine HS.out _ HB3.out)
            | (refine HS.out _ (hb7.alloc hb7.size _))
            | fail)
          (first
            | (refine step_append_byt (by rfl) (.tmp 30) (.tmp 37) (by rfl) (by rfl) (by rfl) (ho6.below hb7') ho7.byt (by rw [List.length_append]; have := HQL.out; have := HG32.out; simp only [List.length_cons, List.length_nil] at *; omega) hb7.size ?_; intro v8 w8 ho8 hg8 _; have hb8 := hb7.grown hg8 hb7.size (fun q hq => (World.ownsRow.lt (ho6.below hb7') q hq).1); clear hg8)
            | (refine step_append_byt (by rfl) (.tmp 30) (.tmp 37) (by rfl) (by rfl) (by rfl) ho6 hy7 (by rw [List.length_append]; have := HQL.out; have := HG32.out; simp only [List.length_cons, List.length_nil] at *; omega) hb6.size ?_; intro v8 w8 ho8 hg8 _; have hb8 := hb6.grown hg8 hb6.size (fun q hq => (World.ownsRow.lt ho6 q hq).1); clear hg8)
            | (refine step_append_byt (by rfl) (.tmp 21) (.tmp 29) (by rfl) (by rfl) (by rfl) (hown.below HB1.out) HB2.out (by have := HQL.out; simp only [List.length_cons, List.length_nil]; omega) HB3.out.size ?_; intro v6 w6 ho6 hg6 _; have hb6 := HB3.out.grown hg6 HB3.out.size (fun q hq => (World.ownsRow.lt (hown.below HB1.out) q hq).1); clear hg6)
            | (refine step_append_byt (by rfl) (.tmp 21) (.tmp 29) (by rfl) (by rfl) (by rfl) ((hown.below HB1.out).below hb7') (HB2.out.below hb7') (by have := HQL.out; simp only [List.length_cons, List.length_nil]; omega) hb7.size ?_; intro v6 w6 ho6 hg6 _; have hb6 := hb7.grown hg6 hb7.size (fun q hq => (World.ownsRow.lt ((hown.below HB1.out).below hb7') q hq).1); have hy7 := own_past hown HB1.out.size ho7 hg6; clear hg6)
            | (refine step_append_byt (by rfl) (.tmp 21) (.tmp 29) (by rfl) (by rfl) (by rfl) (((hown.below hdr).below hb7').alloc _) (HYP.out w7).byt (by have := HQL.out; simp only [List.length_cons, List.length_nil]; omega) (Nat.le_trans hb7.size (al_le _ _)) ?_; intro v6 w6 ho6 hg6 _; have hb6 := (hb7.alloc hb7.size _).grown hg6 (Nat.le_trans hb7.size (al_le _ _)) (fun q hq => (World.ownsRow.lt (((hown.below hdr).below hb7').alloc _) q hq).1); have hy7 := own_past hown hdr.size (ho7.alloc _) hg6; clear hg6)
            | (go_at_call 47; (with_reducible refine (HBH.out w6).mono ?_); rintro e w7 ⟨v7, rfl, ho7, hb7'⟩; have hb7 := hb6.trans (hb7'.mono hb6.size))
            | (go_at_call 47; (with_reducible refine (HBH.out (wr.alloc (.cells #[.int .u8 (n : Int)] 5)).drew).mono ?_); rintro e w7 ⟨v7, rfl, ho7, hb7'⟩; have hb7 := HB3.out.trans (hb7'.mono HB3.out.size))
            | (go_at_call 47; (with_reducible refine (HBH.out wr.drew).mono ?_); rintro e w7 ⟨v7, rfl, ho7, hb7'⟩; have hb7 := hbr.trans (hb7'.mono hbr.size))
            | fail)
        all_goals
          have ho8' : Own w0.heap.size w8 v8 (P ++ ((c.sg.take (i + 1)).map bytesG).flatten) := by
            have e : Q ++ [UInt8.ofNat n] ++ tg = P ++ ((c.sg.take (i + 1)).map bytesG).flatten := by
              rw [HNEW.out, ← HQ.out, HBG.out]
              simp only [List.append_assoc]
            rw [← e]
            exact ho8
          clear hown ho6 ho7 ho8 hb6 hb7 hb7' hbr hzr hdr hu hsz HB1 HB2 HB3 hbw
          (try clear hy7)
          have HLT : Hid (i < L) := hid (by have := hil; rw [HL.out] at this; exact this)
          have HWI : Hid (wrap64 ((i : Int) + 1) = ((i + 1 : Nat) : Int)) := hid (by have h1 := HLT.out; have h2 := HL21.out; unfold wrap64; omega)
          go_wp2_with fail
          go_roundw
          case rel => exact ⟨i + 1, by have := HLT.out; omega, by rw [HWI.out], ho8', hb8⟩
          case measure =>
            have h1 := HLT.out
            have hw := HWI.out
            simp only [hw]; simp [intOf]; omega
      · have E4 := hid (show i = L by omega)
        have hI : ¬ (i : Int) < (L : Int) := by omega
        have c0 := (HX.out wr hB).2
        go_wp2_with fail
        go_ret
        refine ⟨_, rfl, ?_, hb0.trans (hB.mono hs0)⟩
        rw [E4.out, List.take_of_length_le (by rw [HL.out]; exact Nat.le_refl _)] at hown
        have e : P ++ (c.sg.map bytesG).flatten = O := by
          rw [← HO.out, ← HP.out]
          unfold bytesC
          rw [HT.out, HL.out, HDL.out, List.append_assoc]
        rw [e] at hown
        exact hown.more hs0
end Go.Proofs.YtnancafpecfcjaaDoor
