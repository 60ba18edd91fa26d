/-
  CtRises CtMay CtRd CtSlice: what each of them says stands at its head.
-/
import Derived.Deep.DeepCutAuto
import Derived.LoopTactic
import Derived.Outline
import Derived.Test.YtjemfmbmlmogcaaGreatBs16
import Derived.Test.YtjemfmbmlmogcaaGreatBs3
import Derived.Test.YtjemfmbmlmogcaaGreatBs12
import Derived.Test.YtjemfmbmlmogcaaGreatBs13
namespace Go.Proofs.YtjemfmbmlmogcaaGreat
set_option maxRecDepth 20000
open Go.RowKit
set_option maxHeartbeats 3200000 in
theorem refRises9_any (v : Value) (l : List SgM) (top : Int) (w : World) (hv : Els scl 33 w v l) :
    Calls Tryz.prog 64 #[v, .int .i64 top] w fun e w' => e = .returned (.bool (risesB top 0 l)) ∧ Below w.heap.size w w' := by
  obtain ⟨A, c, rfl⟩ := hv.shape
  obtain ⟨L, HL⟩ : ∃ n : Nat, Hid (l.length = n) := ⟨_, hid rfl⟩
  obtain ⟨ans, HAN⟩ : ∃ q : Bool, Hid (risesB top 0 l = q) := ⟨_, hid rfl⟩
  have hlen := hv.len
  unfold maxLen at hlen
  have hc1 := hv.at_.2.1
  have hc2 := hv.at_.2.2.1
  rw [HL.out] at hv hlen hc1 ⊢
  rw [HAN.out]
  unfold maxLen at hc2
  have HV := hid (fun W (h : Below w.heap.size w W) => hv.below h)
  clear hv
  go_enter Tryz.func64, Tryz.ntmps64
  go_wp2_with fail
  go_loopw [5] (fun si wr => ∃ (i : Nat) (last : Int), i ≤ L ∧ si = .int .i64 i ∧ 0 ≤ last ∧ Hid (ans = risesB top last (l.drop i)) ∧ ((i = 0 ∧ last = 0) ∨ (∃ k, i = k + 1 ∧ ∃ h : k < l.length, l[k].bo = last)) ∧ Below w.heap.size w wr) (fun si _ => L - (intOf si).toNat)
  case atStart => exact ⟨0, 0, Nat.zero_le _, rfl, Int.le_refl _, hid (by rw [List.drop_zero]; exact HAN.out.symm), .inl ⟨rfl, rfl⟩, Below.refl _ _⟩
  case round =>
    obtain ⟨i, last, hi, rfl, hlast, HR, hpre, hbr⟩ := hrel
    by_cases hlt : i < L
    · have hil : i < l.length := by rw [HL.out]; exact hlt
      obtain ⟨g, o, rfl, hg, hcl⟩ := (HV.out wr hbr).at_.2.2.2 (by omega)
      have HST : Hid (ans = ((decide (last < l[i].bo) && decide (l[i].bo ≤ top)) && risesB top l[i].bo (l.drop (i + 1)))) := hid (by
        rw [HR.out, List.drop_eq_getElem_cons hil]
        rfl)
      obtain ⟨b, HBB⟩ : ∃ b : Int, Hid (l[i].bo = b) := ⟨_, hid rfl⟩
      have hc : wr.drew.cell? ⟨g, o + i * 33, none⟩ = some (.int .i64 b) := by rw [← HBB.out]; exact (sg_range (hcl i hil)).1
      rw [HBB.out] at HST
      have hI : (i : Int) < (L : Int) := by omega
      have hbd := hbr.drew
      by_cases h1 : b < 1
      · obtain rfl : ans = false := by rw [HST.out, decide_eq_false (by omega)]; rfl
        clear hcl
        go_upto_region 4 with (fail)
        refine wp_region_held_drew (S := fun W => W.cell? ⟨g, o + i * 33, none⟩ = some (.int .i64 b)) (by kernel_rfl) hc (fun hHeld => ?_)
        refine' tk (i := 0) (v := _) rfl ?_ ?_
        rotate_left
        · (intro W hW; (try dsimp only at hW); go_simp; first | done | with_reducible rfl)
        try simp only [lay]
        refine' tk (i := 1) (v := _) rfl ?_ ?_
        rotate_left
        · (intro W hW; (try dsimp only at hW); go_simp; first | done | with_reducible rfl)
        try simp only [lay]
        refine' tk (i := 2) (v := _) rfl ?_ ?_
        rotate_left
        · (intro W hW; (try dsimp only at hW); go_simp; first | done | with_reducible rfl)
        try simp only [lay]
        refine' tk (i := 3) (v := _) rfl ?_ ?_
        rotate_left
        · (intro W hW; (try dsimp only at hW); go_simp; first | done | with_reducible rfl)
        try simp only [lay]
        refine' tk (i := 4) (v := _) rfl ?_ ?_
        rotate_left
        · (intro W hW; (try dsimp only at hW); go_simp; first | done | with_reducible rfl)
        try simp only [lay]
        refine' tk (i := 5) (v := _) rfl ?_ ?_
        rotate_left
        · (intro W hW; (try dsimp only at hW); go_simp; first | done | with_reducible rfl)
        try simp only [lay]
        refine' tk (i := 6) (v := _) rfl ?_ ?_
        rotate_left
        · (intro W hW; (try dsimp only at hW); go_simp; first | done | with_reducible rfl)
        try simp only [lay]
        refine tf (i := 7) rfl ?_
        try simp only [lay]
        refine tf (i := 8) rfl ?_
        try simp only [lay]
        refine tf (i := 9) rfl ?_
        try simp only [lay]
        refine tf (i := 10) rfl ?_
        try simp only [lay]
        refine tf (i := 11) rfl ?_
        try simp only [lay]
        refine tf (i := 12) rfl ?_
        try simp only [lay]
        refine tf (i := 13) rfl ?_
        try simp only [lay]
        refine' tk (i := 14) (v := _) rfl ?_ ?_
        rotate_left
        · (intro W hW; (try dsimp only at hW); go_simp; first | done | with_reducible rfl)
        try simp only [lay]
        refine' tk (i := 15) (v := _) rfl ?_ ?_
        rotate_left
        · (intro W hW; (try dsimp only at hW); go_simp; first | done | with_reducible rfl)
        try simp only [lay]
        refine tf (i := 16) rfl ?_
        try simp only [lay]
        refine tf (i := 17) rfl ?_
        try simp only [lay]
        refine tf (i := 18) rfl ?_
        try simp only [lay]
        refine tf (i := 19) rfl ?_
        try simp only [lay]
        refine tf (i := 20) rfl ?_
        try simp only [lay]
        refine tf (i := 21) rfl ?_
        try simp only [lay]
        refine tf (i := 22) rfl ?_
        try simp only [lay]
        refine tf (i := 23) rfl ?_
        try simp only [lay]
        refine tf (i := 24) rfl ?_
        try simp only [lay]
        refine tf (i := 25) rfl ?_
        try simp only [lay]
        refine tf (i := 26) rfl ?_
        try simp only [lay]
        refine tf (i := 27) rfl ?_
        try simp only [lay]
        refine tf (i := 28) rfl ?_
        try simp only [lay]
        refine tf (i := 29) rfl ?_
        try simp only [lay]
        refine tf (i := 30) rfl ?_
        try simp only [lay]
        refine tf (i := 31) rfl ?_
        try simp only [lay]
        refine' tk (i := 32) (v := _) rfl ?_ ?_
        rotate_left
        · (intro W hW; (try dsimp only at hW); go_simp; first | done | with_reducible rfl)
        try simp only [lay]
        refine wpAnyH_done (by kernel_rfl) ?_ _
        go_wp2_with fail
        go_ret
        exact ⟨rfl, hbd⟩
      · by_cases h2 : top < b
        · obtain rfl : ans = false := by rw [HST.out, decide_eq_false (show ¬ b ≤ top by omega), Bool.and_false]; rfl
          clear hcl
          go_upto_region 4 with (fail)
          refine wp_region_held_drew (S := fun W => W.cell? ⟨g, o + i * 33, none⟩ = some (.int .i64 b)) (by kernel_rfl) hc (fun hHeld => ?_)
          refine' tk (i := 0) (v := _) rfl ?_ ?_
          rotate_left
          · (intro W hW; (try dsimp only at hW); go_simp; first | done | with_reducible rfl)
          try simp only [lay]
          refine' tk (i := 1) (v := _) rfl ?_ ?_
          rotate_left
          · (intro W hW; (try dsimp only at hW); go_simp; first | done | with_reducible rfl)
          try simp only [lay]
          refine' tk (i := 2) (v := _) rfl ?_ ?_
          rotate_left
          · (intro W hW; (try dsimp only at hW); go_simp; first | done | with_reducible rfl)
          try simp only [lay]
          refine' tk (i := 3) (v := _) rfl ?_ ?_
          rotate_left
          · (intro W hW; (try dsimp only at hW); go_simp; first | done | with_reducible rfl)
          try simp only [lay]
          refine' tk (i := 4) (v := _) rfl ?_ ?_
          rotate_left
          · (intro W hW; (try dsimp only at hW); go_simp; first | done | with_reducible rfl)
          try simp only [lay]
          refine' tk (i := 5) (v := _) rfl ?_ ?_
          rotate_left
          · (intro W hW; (try dsimp only at hW); go_simp; first | done | with_reducible rfl)
          try simp only [lay]
          refine' tk (i := 6) (v := _) rfl ?_ ?_
          rotate_left
          · (intro W hW; (try dsimp only at hW); go_simp; first | done | with_reducible rfl)
          try simp only [lay]
          refine' tk (i := 7) (v := _) rfl ?_ ?_
          rotate_left
          · (intro W hW; (try dsimp only at hW); go_simp; first | done | with_reducible rfl)
          try simp only [lay]
          refine' tk (i := 8) (v := _) rfl ?_ ?_
          rotate_left
          · (intro W hW; (try dsimp only at hW); go_simp; first | done | with_reducible rfl)
          try simp only [lay]
          refine' tk (i := 9) (v := _) rfl ?_ ?_
          rotate_left
          · (intro W hW; (try dsimp only at hW); go_simp; first | done | with_reducible rfl)
          try simp only [lay]
          refine' tk (i := 10) (v := _) rfl ?_ ?_
          rotate_left
          · (intro W hW; (try dsimp only at hW); go_simp; first | done | with_reducible rfl)
          try simp only [lay]
          refine' tk (i := 11) (v := _) rfl ?_ ?_
          rotate_left
          · (intro W hW; (try dsimp only at hW); go_simp; first | done | with_reducible rfl)
          try simp only [lay]
          refine' tk (i := 12) (v := _) rfl ?_ ?_
          rotate_left
          · (intro W hW; (try dsimp only at hW); go_simp; first | done | with_reducible rfl)
          try simp only [lay]
          refine' tk (i := 13) (v := _) rfl ?_ ?_
          rotate_left
          · (intro W hW; (try dsimp only at hW); go_simp; first | done | with_reducible rfl)
          try simp only [lay]
          refine' tk (i := 14) (v := _) rfl ?_ ?_
          rotate_left
          · (intro W hW; (try dsimp only at hW); go_simp; first | done | with_reducible rfl)
          try simp only [lay]
          refine' tk (i := 15) (v := _) rfl ?_ ?_
          rotate_left
          · (intro W hW; (try dsimp only at hW); go_simp; first | done | with_reducible rfl)
          try simp only [lay]
          refine tf (i := 16) rfl ?_
          try simp only [lay]
          refine tf (i := 17) rfl ?_
          try simp only [lay]
          refine tf (i := 18) rfl ?_
          try simp only [lay]
          refine tf (i := 19) rfl ?_
          try simp only [lay]
          refine tf (i := 20) rfl ?_
          try simp only [lay]
          refine tf (i := 21) rfl ?_
          try simp only [lay]
          refine tf (i := 22) rfl ?_
          try simp only [lay]
          refine tf (i := 23) rfl ?_
          try simp only [lay]
          refine tf (i := 24) rfl ?_
          try simp only [lay]
          refine tf (i := 25) rfl ?_
          try simp only [lay]
          refine tf (i := 26) rfl ?_
          try simp only [lay]
          refine tf (i := 27) rfl ?_
          try simp only [lay]
          refine tf (i := 28) rfl ?_
          try simp only [lay]
          refine tf (i := 29) rfl ?_
          try simp only [lay]
          refine tf (i := 30) rfl ?_
          try simp only [lay]
          refine tf (i := 31) rfl ?_
          try simp only [lay]
          refine' tk (i := 32) (v := _) rfl ?_ ?_
          rotate_left
          · (intro W hW; (try dsimp only at hW); go_simp; first | done | with_reducible rfl)
          try simp only [lay]
          refine wpAnyH_done (by kernel_rfl) ?_ _
          go_wp2_with fail
          go_ret
          exact ⟨rfl, hbd⟩
        · rcases hpre with ⟨rfl, rfl⟩ | ⟨k, rfl, hk, rfl⟩
          · clear hcl
            rw [Nat.zero_mul, Nat.add_zero] at hc
            go_upto_region 4 with (fail)
            refine wp_region_held_drew (S := fun W => W.cell? ⟨g, o, none⟩ = some (.int .i64 b)) (by kernel_rfl) hc (fun hHeld => ?_)
            refine' tk (i := 0) (v := _) rfl ?_ ?_
            rotate_left
            · (intro W hW; (try dsimp only at hW); go_simp; first | done | with_reducible rfl)
            try simp only [lay]
            refine' tk (i := 1) (v := _) rfl ?_ ?_
            rotate_left
            · (intro W hW; (try dsimp only at hW); go_simp; first | done | with_reducible rfl)
            try simp only [lay]
            refine' tk (i := 2) (v := _) rfl ?_ ?_
            rotate_left
            · (intro W hW; (try dsimp only at hW); go_simp; first | done | with_reducible rfl)
            try simp only [lay]
            refine' tk (i := 3) (v := _) rfl ?_ ?_
            rotate_left
            · (intro W hW; (try dsimp only at hW); go_simp; first | done | with_reducible rfl)
            try simp only [lay]
            refine' tk (i := 4) (v := _) rfl ?_ ?_
            rotate_left
            · (intro W hW; (try dsimp only at hW); go_simp; first | done | with_reducible rfl)
            try simp only [lay]
            refine' tk (i := 5) (v := _) rfl ?_ ?_
            rotate_left
            · (intro W hW; (try dsimp only at hW); go_simp; first | done | with_reducible rfl)
            try simp only [lay]
            refine' tk (i := 6) (v := _) rfl ?_ ?_
            rotate_left
            · (intro W hW; (try dsimp only at hW); go_simp; first | done | with_reducible rfl)
            try simp only [lay]
            refine' tk (i := 7) (v := _) rfl ?_ ?_
            rotate_left
            · (intro W hW; (try dsimp only at hW); go_simp; first | done | with_reducible rfl)
            try simp only [lay]
            refine' tk (i := 8) (v := _) rfl ?_ ?_
            rotate_left
            · (intro W hW; (try dsimp only at hW); go_simp; first | done | with_reducible rfl)
            try simp only [lay]
            refine' tk (i := 9) (v := _) rfl ?_ ?_
            rotate_left
            · (intro W hW; (try dsimp only at hW); go_simp; first | done | with_reducible rfl)
            try simp only [lay]
            refine' tk (i := 10) (v := _) rfl ?_ ?_
            rotate_left
            · (intro W hW; (try dsimp only at hW); go_simp; first | done | with_reducible rfl)
            try simp only [lay]
            refine' tk (i := 11) (v := _) rfl ?_ ?_
            rotate_left
            · (intro W hW; (try dsimp only at hW); go_simp; first | done | with_reducible rfl)
            try simp only [lay]
            refine' tk (i := 12) (v := _) rfl ?_ ?_
            rotate_left
            · (intro W hW; (try dsimp only at hW); go_simp; first | done | with_reducible rfl)
            try simp only [lay]
            refine' tk (i := 13) (v := _) rfl ?_ ?_
            rotate_left
            · (intro W hW; (try dsimp only at hW); go_simp; first | done | with_reducible rfl)
            try simp only [lay]
            refine' tk (i := 14) (v := _) rfl ?_ ?_
            rotate_left
            · (intro W hW; (try dsimp only at hW); go_simp; first | done | with_reducible rfl)
            try simp only [lay]
            refine' tk (i := 15) (v := _) rfl ?_ ?_
            rotate_left
            · (intro W hW; (try dsimp only at hW); go_simp; first | done | with_reducible rfl)
            try simp only [lay]
            refine' tk (i := 16) (v := _) rfl ?_ ?_
            rotate_left
            · (intro W hW; (try dsimp only at hW); go_simp; first | done | with_reducible rfl)
            try simp only [lay]
            refine' tk (i := 17) (v := _) rfl ?_ ?_
            rotate_left
            · (intro W hW; (try dsimp only at hW); go_simp; first | done | with_reducible rfl)
            try simp only [lay]
            refine' tk (i := 18) (v := _) rfl ?_ ?_
            rotate_left
            · (intro W hW; (try dsimp only at hW); go_simp; first | done | with_reducible rfl)
            try simp only [lay]
            refine tf (i := 19) rfl ?_
            try simp only [lay]
            refine tf (i := 20) rfl ?_
            try simp only [lay]
            refine tf (i := 21) rfl ?_
            try simp only [lay]
            refine tf (i := 22) rfl ?_
            try simp only [lay]
            refine tf (i := 23) rfl ?_
            try simp only [lay]
            refine tf (i := 24) rfl ?_
            try simp only [lay]
            refine tf (i := 25) rfl ?_
            try simp only [lay]
            refine tf (i := 26) rfl ?_
            try simp only [lay]
            refine tf (i := 27) rfl ?_
            try simp only [lay]
            refine tf (i := 28) rfl ?_
            try simp only [lay]
            refine tf (i := 29) rfl ?_
            try simp only [lay]
            refine tf (i := 30) rfl ?_
            try simp only [lay]
            refine' tk (i := 31) (v := _) rfl ?_ ?_
            rotate_left
            · (intro W hW; (try dsimp only at hW); go_simp; first | done | with_reducible rfl)
            try simp only [lay]
            refine' tk (i := 32) (v := _) rfl ?_ ?_
            rotate_left
            · (intro W hW; (try dsimp only at hW); go_simp; first | done | with_reducible rfl)
            try simp only [lay]
            refine wpAnyH_done (by kernel_rfl) ?_ _
            go_wp2_with fail
            go_roundw
            case rel => exact ⟨0 + 1, b, by omega, by go_num, by omega, hid (by rw [HST.out, decide_eq_true (by omega), decide_eq_true (by omega)]; simp), .inr ⟨0, rfl, hil, HBB.out⟩, hbd⟩
            case measure => simp [intOf]; omega
          · obtain ⟨p, HPP⟩ : ∃ p : Int, Hid (l[k].bo = p) := ⟨_, hid rfl⟩
            have hd : wr.drew.cell? ⟨g, o + k * 33, none⟩ = some (.int .i64 p) := by rw [← HPP.out]; exact (sg_range (hcl k hk)).1
            rw [HPP.out] at HST hlast
            have hkL : (k : Int) < (L : Int) := by omega
            have hk1 : (0 : Int) < ((k + 1 : Nat) : Int) := by omega
            have hwk : IntKind.i64.wrap (((k + 1 : Nat) : Int) - 1) = (k : Int) := by rw [IntKind.wrap_i64]; omega
            have hk2 : (0 : Int) < (k : Int) + 1 := by omega
            have hk0 : (0 : Int) ≤ (k : Int) + 1 := by omega
            have hI2 : (k : Int) + 1 < (L : Int) := by omega
            have hwk2 : IntKind.i64.wrap ((k : Int) + 1 - 1) = (k : Int) := by rw [IntKind.wrap_i64]; omega
            have hwk3 : IntKind.i64.wrap (k : Int) = (k : Int) := by rw [IntKind.wrap_i64]; omega
            by_cases h3 : p < b
            · have h3' : ¬ b ≤ p := by omega
              clear hcl
              go_upto_region 4 with (fail)
              refine wp_region_held_drew (S := fun W => W.cell? ⟨g, o + (k + 1) * 33, none⟩ = some (.int .i64 b) ∧ W.cell? ⟨g, o + k * 33, none⟩ = some (.int .i64 p)) (by kernel_rfl) ⟨hc, hd⟩ (fun hHeld => ?_)
              refine' tk (i := 0) (v := _) rfl ?_ ?_
              rotate_left
              · (intro W hW; (try dsimp only at hW); go_simp; first | done | with_reducible rfl)
              try simp only [lay]
              refine' tk (i := 1) (v := _) rfl ?_ ?_
              rotate_left
              · (intro W hW; (try dsimp only at hW); go_simp; first | done | with_reducible rfl)
              try simp only [lay]
              refine' tk (i := 2) (v := _) rfl ?_ ?_
              rotate_left
              · (intro W hW; (try dsimp only at hW); go_simp; first | done | with_reducible rfl)
              try simp only [lay]
              refine' tk (i := 3) (v := _) rfl ?_ ?_
              rotate_left
              · (intro W hW; (try dsimp only at hW); go_simp; first | done | with_reducible rfl)
              try simp only [lay]
              refine' tk (i := 4) (v := _) rfl ?_ ?_
              rotate_left
              · (intro W hW; (try dsimp only at hW); go_simp; first | done | with_reducible rfl)
              try simp only [lay]
              refine' tk (i := 5) (v := _) rfl ?_ ?_
              rotate_left
              · (intro W hW; (try dsimp only at hW); go_simp; first | done | with_reducible rfl)
              try simp only [lay]
              refine' tk (i := 6) (v := _) rfl ?_ ?_
              rotate_left
              · (intro W hW; (try dsimp only at hW); go_simp; first | done | with_reducible rfl)
              try simp only [lay]
              refine' tk (i := 7) (v := _) rfl ?_ ?_
              rotate_left
              · (intro W hW; (try dsimp only at hW); go_simp; first | done | with_reducible rfl)
              try simp only [lay]
              refine' tk (i := 8) (v := _) rfl ?_ ?_
              rotate_left
              · (intro W hW; (try dsimp only at hW); go_simp; first | done | with_reducible rfl)
              try simp only [lay]
              refine' tk (i := 9) (v := _) rfl ?_ ?_
              rotate_left
              · (intro W hW; (try dsimp only at hW); go_simp; first | done | with_reducible rfl)
              try simp only [lay]
              refine' tk (i := 10) (v := _) rfl ?_ ?_
              rotate_left
              · (intro W hW; (try dsimp only at hW); go_simp; first | done | with_reducible rfl)
              try simp only [lay]
              refine' tk (i := 11) (v := _) rfl ?_ ?_
              rotate_left
              · (intro W hW; (try dsimp only at hW); go_simp; first | done | with_reducible rfl)
              try simp only [lay]
              refine' tk (i := 12) (v := _) rfl ?_ ?_
              rotate_left
              · (intro W hW; (try dsimp only at hW); go_simp; first | done | with_reducible rfl)
              try simp only [lay]
              refine' tk (i := 13) (v := _) rfl ?_ ?_
              rotate_left
              · (intro W hW; (try dsimp only at hW); go_simp; first | done | with_reducible rfl)
              try simp only [lay]
              refine' tk (i := 14) (v := _) rfl ?_ ?_
              rotate_left
              · (intro W hW; (try dsimp only at hW); go_simp; first | done | with_reducible rfl)
              try simp only [lay]
              refine' tk (i := 15) (v := _) rfl ?_ ?_
              rotate_left
              · (intro W hW; (try dsimp only at hW); go_simp; first | done | with_reducible rfl)
              try simp only [lay]
              refine' tk (i := 16) (v := _) rfl ?_ ?_
              rotate_left
              · (intro W hW; (try dsimp only at hW); go_simp; first | done | with_reducible rfl)
              try simp only [lay]
              refine' tk (i := 17) (v := _) rfl ?_ ?_
              rotate_left
              · (intro W hW; (try dsimp only at hW); go_simp; first | done | with_reducible rfl)
              try simp only [lay]
              refine' tk (i := 18) (v := _) rfl ?_ ?_
              rotate_left
              · (intro W hW; (try dsimp only at hW); go_simp; first | done | with_reducible rfl)
              try simp only [lay]
              refine' tk (i := 19) (v := _) rfl ?_ ?_
              rotate_left
              · (intro W hW; (try dsimp only at hW); go_simp; first | done | with_reducible rfl)
              try simp only [lay]
              refine' tk (i := 20) (v := _) rfl ?_ ?_
              rotate_left
              · (intro W hW; (try dsimp only at hW); go_simp; first | done | with_reducible rfl)
              try simp only [lay]
              refine' tk (i := 21) (v := _) rfl ?_ ?_
              rotate_left
              · (intro W hW; (try dsimp only at hW); go_simp; first | done | with_reducible rfl)
              try simp only [lay]
              refine' tk (i := 22) (v := _) rfl ?_ ?_
              rotate_left
              · (intro W hW; (try dsimp only at hW); go_simp; first | done | with_reducible rfl)
              try simp only [lay]
              refine' tk (i := 23) (v := _) rfl ?_ ?_
              rotate_left
              · (intro W hW; (try dsimp only at hW); go_simp; first | done | with_reducible rfl)
              try simp only [lay]
              refine' tk (i := 24) (v := _) rfl ?_ ?_
              rotate_left
              · (intro W hW; (try dsimp only at hW); go_simp; first | done | with_reducible rfl)
              try simp only [lay]
              refine' tk (i := 25) (v := _) rfl ?_ ?_
              rotate_left
              · (intro W hW; (try dsimp only at hW); go_simp; first | done | with_reducible rfl)
              try simp only [lay]
              refine' tk (i := 26) (v := _) rfl ?_ ?_
              rotate_left
              · (intro W hW; (try dsimp only at hW); go_simp; first | done | with_reducible rfl)
              try simp only [lay]
              refine' tk (i := 27) (v := _) rfl ?_ ?_
              rotate_left
              · (intro W hW; (try dsimp only at hW); go_simp; first | done | with_reducible rfl)
              try simp only [lay]
              refine' tk (i := 28) (v := _) rfl ?_ ?_
              rotate_left
              · (intro W hW; (try dsimp only at hW); go_simp; first | done | with_reducible rfl)
              try simp only [lay]
              refine' tk (i := 29) (v := _) rfl ?_ ?_
              rotate_left
              · (intro W hW; (try dsimp only at hW); go_simp; first | done | with_reducible rfl)
              try simp only [lay]
              refine' tk (i := 30) (v := _) rfl ?_ ?_
              rotate_left
              · (intro W hW; (try dsimp only at hW); go_simp; first | done | with_reducible rfl)
              try simp only [lay]
              refine' tk (i := 31) (v := _) rfl ?_ ?_
              rotate_left
              · (intro W hW; (try dsimp only at hW); go_simp; first | done | with_reducible rfl)
              try simp only [lay]
              refine' tk (i := 32) (v := _) rfl ?_ ?_
              rotate_left
              · (intro W hW; (try dsimp only at hW); go_simp; first | done | with_reducible rfl)
              try simp only [lay]
              refine wpAnyH_done (by kernel_rfl) ?_ _
              go_wp2_with fail
              go_roundw
              case rel => exact ⟨k + 1 + 1, b, by omega, by go_num, by omega, hid (by rw [HST.out, decide_eq_true h3, decide_eq_true (by omega)]; simp), .inr ⟨k + 1, rfl, hil, HBB.out⟩, hbd⟩
              case measure => simp [intOf]; omega
            · have h3' : b ≤ p := by omega
              obtain rfl : ans = false := by rw [HST.out, decide_eq_false h3]; rfl
              clear hcl
              go_upto_region 4 with (fail)
              refine wp_region_held_drew (S := fun W => W.cell? ⟨g, o + (k + 1) * 33, none⟩ = some (.int .i64 b) ∧ W.cell? ⟨g, o + k * 33, none⟩ = some (.int .i64 p)) (by kernel_rfl) ⟨hc, hd⟩ (fun hHeld => ?_)
              refine' tk (i := 0) (v := _) rfl ?_ ?_
              rotate_left
              · (intro W hW; (try dsimp only at hW); go_simp; first | done | with_reducible rfl)
              try simp only [lay]
              refine' tk (i := 1) (v := _) rfl ?_ ?_
              rotate_left
              · (intro W hW; (try dsimp only at hW); go_simp; first | done | with_reducible rfl)
              try simp only [lay]
              refine' tk (i := 2) (v := _) rfl ?_ ?_
              rotate_left
              · (intro W hW; (try dsimp only at hW); go_simp; first | done | with_reducible rfl)
              try simp only [lay]
              refine' tk (i := 3) (v := _) rfl ?_ ?_
              rotate_left
              · (intro W hW; (try dsimp only at hW); go_simp; first | done | with_reducible rfl)
              try simp only [lay]
              refine' tk (i := 4) (v := _) rfl ?_ ?_
              rotate_left
              · (intro W hW; (try dsimp only at hW); go_simp; first | done | with_reducible rfl)
              try simp only [lay]
              refine' tk (i := 5) (v := _) rfl ?_ ?_
              rotate_left
              · (intro W hW; (try dsimp only at hW); go_simp; first | done | with_reducible rfl)
              try simp only [lay]
              refine' tk (i := 6) (v := _) rfl ?_ ?_
              rotate_left
              · (intro W hW; (try dsimp only at hW); go_simp; first | done | with_reducible rfl)
              try simp only [lay]
              refine' tk (i := 7) (v := _) rfl ?_ ?_
              rotate_left
              · (intro W hW; (try dsimp only at hW); go_simp; first | done | with_reducible rfl)
              try simp only [lay]
              refine' tk (i := 8) (v := _) rfl ?_ ?_
              rotate_left
              · (intro W hW; (try dsimp only at hW); go_simp; first | done | with_reducible rfl)
              try simp only [lay]
              refine' tk (i := 9) (v := _) rfl ?_ ?_
              rotate_left
              · (intro W hW; (try dsimp only at hW); go_simp; first | done | with_reducible rfl)
              try simp only [lay]
              refine' tk (i := 10) (v := _) rfl ?_ ?_
              rotate_left
              · (intro W hW; (try dsimp only at hW); go_simp; first | done | with_reducible rfl)
              try simp only [lay]
              refine' tk (i := 11) (v := _) rfl ?_ ?_
              rotate_left
              · (intro W hW; (try dsimp only at hW); go_simp; first | done | with_reducible rfl)
              try simp only [lay]
              refine' tk (i := 12) (v := _) rfl ?_ ?_
              rotate_left
              · (intro W hW; (try dsimp only at hW); go_simp; first | done | with_reducible rfl)
              try simp only [lay]
              refine' tk (i := 13) (v := _) rfl ?_ ?_
              rotate_left
              · (intro W hW; (try dsimp only at hW); go_simp; first | done | with_reducible rfl)
              try simp only [lay]
              refine' tk (i := 14) (v := _) rfl ?_ ?_
              rotate_left
              · (intro W hW; (try dsimp only at hW); go_simp; first | done | with_reducible rfl)
              try simp only [lay]
              refine' tk (i := 15) (v := _) rfl ?_ ?_
              rotate_left
              · (intro W hW; (try dsimp only at hW); go_simp; first | done | with_reducible rfl)
              try simp only [lay]
              refine' tk (i := 16) (v := _) rfl ?_ ?_
              rotate_left
              · (intro W hW; (try dsimp only at hW); go_simp; first | done | with_reducible rfl)
              try simp only [lay]
              refine' tk (i := 17) (v := _) rfl ?_ ?_
              rotate_left
              · (intro W hW; (try dsimp only at hW); go_simp; first | done | with_reducible rfl)
              try simp only [lay]
              refine' tk (i := 18) (v := _) rfl ?_ ?_
              rotate_left
              · (intro W hW; (try dsimp only at hW); go_simp; first | done | with_reducible rfl)
              try simp only [lay]
              refine' tk (i := 19) (v := _) rfl ?_ ?_
              rotate_left
              · (intro W hW; (try dsimp only at hW); go_simp; first | done | with_reducible rfl)
              try simp only [lay]
              refine' tk (i := 20) (v := _) rfl ?_ ?_
              rotate_left
              · (intro W hW; (try dsimp only at hW); go_simp; first | done | with_reducible rfl)
              try simp only [lay]
              refine' tk (i := 21) (v := _) rfl ?_ ?_
              rotate_left
              · (intro W hW; (try dsimp only at hW); go_simp; first | done | with_reducible rfl)
              try simp only [lay]
              refine' tk (i := 22) (v := _) rfl ?_ ?_
              rotate_left
              · (intro W hW; (try dsimp only at hW); go_simp; first | done | with_reducible rfl)
              try simp only [lay]
              refine' tk (i := 23) (v := _) rfl ?_ ?_
              rotate_left
              · (intro W hW; (try dsimp only at hW); go_simp; first | done | with_reducible rfl)
              try simp only [lay]
              refine' tk (i := 24) (v := _) rfl ?_ ?_
              rotate_left
              · (intro W hW; (try dsimp only at hW); go_simp; first | done | with_reducible rfl)
              try simp only [lay]
              refine' tk (i := 25) (v := _) rfl ?_ ?_
              rotate_left
              · (intro W hW; (try dsimp only at hW); go_simp; first | done | with_reducible rfl)
              try simp only [lay]
              refine' tk (i := 26) (v := _) rfl ?_ ?_
              rotate_left
              · (intro W hW; (try dsimp only at hW); go_simp; first | done | with_reducible rfl)
              try simp only [lay]
              refine' tk (i := 27) (v := _) rfl ?_ ?_
              rotate_left
              · (intro W hW; (try dsimp only at hW); go_simp; first | done | with_reducible rfl)
              try simp only [lay]
              refine' tk (i := 28) (v := _) rfl ?_ ?_
              rotate_left
              · (intro W hW; (try dsimp only at hW); go_simp; first | done | with_reducible rfl)
              try simp only [lay]
              refine' tk (i := 29) (v := _) rfl ?_ ?_
              rotate_left
              · (intro W hW; (try dsimp only at hW); go_simp; first | done | with_reducible rfl)
              try simp only [lay]
              refine' tk (i := 30) (v := _) rfl ?_ ?_
              rotate_left
              · (intro W hW; (try dsimp only at hW); go_simp; first | done | with_reducible rfl)
              try simp only [lay]
              refine' tk (i := 31) (v := _) rfl ?_ ?_
              rotate_left
              · (intro W hW; (try dsimp only at hW); go_simp; first | done | with_reducible rfl)
              try simp only [lay]
              refine' tk (i := 32) (v := _) rfl ?_ ?_
              rotate_left
              · (intro W hW; (try dsimp only at hW); go_simp; first | done | with_reducible rfl)
              try simp only [lay]
              refine wpAnyH_done (by kernel_rfl) ?_ _
              go_wp2_with fail
              go_ret
              exact ⟨rfl, hbd⟩
    · obtain rfl : i = L := by omega
      obtain rfl : ans = true := by rw [HR.out, List.drop_eq_nil_of_le (by rw [HL.out]; exact Nat.le_refl _)]; rfl
      go_wp2
      go_ret
      exact ⟨rfl, hbr⟩
end Go.Proofs.YtjemfmbmlmogcaaGreat
namespace Go.Proofs.YtjemfmbmlmogcaaGreat
set_option maxRecDepth 20000
open Go.RowKit
theorem buildSg1_run (w : World) : (Instr.build 111 #[(0, .int .i64 1)]).run Tryz.prog w = .ok (.agg (sgc ⟨1, z32⟩)) w := by
  go_simp
  rfl
theorem exec_build_sg1 (a : Act) (dst : Option Tmp) (ty : TypeId) (pos : String) (after : Array Edge) (guard : Option (Nat × Bool)) (w : World) :
    Sem.run Tryz.prog (execOp a.eval { dst := dst, op := .build 111 #[(0, .const (.int .i64 1))], type := ty, pos := pos, after := after, guard := guard }) w = .ok (.value (.agg (sgc ⟨1, z32⟩))) w := by
  unfold execOp
  simp [Act.eval, buildSg1_run]
attribute [local go_sem ↓] exec_load_att exec_load_ct exec_build_sg1 exec_load_sg
set_option maxHeartbeats 600000 in
theorem refMay9_any (v : Value) (c : CtM) (w : World) (hv : CtV w v c) :
    Calls Tryz.prog 24 #[v] w fun e w' => e = .returned (.bool (mayC c)) ∧ Below w.heap.size w w' := by
  have HV := hid (fun W (h : Below w.heap.size w W) => hv.below h)
  obtain ⟨s, rfl, ho, ht⟩ := hv
  have hb0 : Below w.heap.size w (w.alloc (.cells (ctc c s) 28)) := (Below.refl _ _).alloc (Nat.le_refl _) _
  have hA := BoxC.new w c s
  obtain ⟨A, k, rfl⟩ := ht.shape
  have HT := hid (fun W (h : Below w.heap.size w W) => ht.below h)
  obtain ⟨L, HL⟩ : ∃ n : Nat, Hid (c.sg.length = n) := ⟨_, hid rfl⟩
  rw [HL.out] at hA hb0 HV HT ⊢
  obtain ⟨C, HC⟩ : ∃ C : Array Value, Hid (ctc c (.slice A L k) = C) := ⟨_, hid rfl⟩
  obtain ⟨b, HB⟩ : ∃ q : Bool, Hid (bareC c = q) := ⟨_, hid rfl⟩
  obtain ⟨m, HM⟩ : ∃ q : Bool, Hid (mayA (withC c.att ⟨1, z32⟩) = q) := ⟨_, hid rfl⟩
  obtain ⟨z, HZ⟩ : ∃ q : Bool, Hid (decide (0 < L) = q) := ⟨_, hid rfl⟩
  obtain ⟨r, HR⟩ : ∃ q : Bool, Hid (risesB 21 0 c.sg = q) := ⟨_, hid rfl⟩
  have HMC : Hid (mayC c = (b && (m && (z && r)))) := hid (by unfold mayC; rw [HB.out, HM.out, HL.out, HZ.out, HR.out])
  rw [HC.out] at hA hb0 HV ⊢
  rw [HMC.out]
  have hw1 : (withC c.att ⟨1, z32⟩).Ok := withC_ok ho.att rfl
  have HBA : Hid (∀ W, Below w.heap.size w W → Calls Tryz.prog 62 #[.agg C] W fun e w' => e = .returned (.bool b) ∧ Below W.heap.size W w') := hid (fun W h => by
    have := refBare9_any _ c W (HV.out W h)
    rw [HB.out] at this
    exact this)
  have HWI : Hid (∀ W, Calls Tryz.prog 63 #[.agg (atc c.att), .agg (sgc ⟨1, z32⟩)] W fun e w' => e = .returned (.agg (atc (withC c.att ⟨1, z32⟩))) ∧ Below W.heap.size W w') := hid (fun W => refWith9_any c.att ⟨1, z32⟩ W ho.att rfl)
  have HMA : Hid (∀ W, Calls Tryz.prog 21 #[.agg (atc (withC c.att ⟨1, z32⟩))] W fun e w' => e = .returned (.bool m) ∧ Below W.heap.size W w') := hid (fun W => by
    have := refMay8_any _ W hw1
    rw [HM.out] at this
    exact this)
  have HRI : Hid (∀ W, Below w.heap.size w W → Calls Tryz.prog 64 #[.slice A L k, .int .i64 21] W fun e w' => e = .returned (.bool r) ∧ Below W.heap.size W w') := hid (fun W h => by
    have := refRises9_any (.slice A L k) c.sg 21 W (HT.out W h)
    rw [HR.out] at this
    exact this)
  obtain ⟨G, HG⟩ : ∃ C : Array Value, Hid (atc c.att = C) := ⟨_, hid rfl⟩
  obtain ⟨S, HS⟩ : ∃ C : Array Value, Hid (sgc ⟨1, z32⟩ = C) := ⟨_, hid rfl⟩
  obtain ⟨X, HX⟩ : ∃ C : Array Value, Hid (atc (withC c.att ⟨1, z32⟩) = C) := ⟨_, hid rfl⟩
  rw [HG.out, HS.out, HX.out] at HWI
  rw [HX.out] at HMA
  have HLD : Hid (∀ W : World, W.heap[w.heap.size]? = some (.cells C 28 (0, 0)) → loadCt (.pointer (some ⟨w.heap.size, 0, none⟩)) W = .ok (.value (.agg C)) W ∧ loadAtt (.pointer (some ⟨w.heap.size, 0, none⟩)) W = .ok (.value (.agg G)) W ∧ W.cell? ⟨w.heap.size, 101, none⟩ = some (.slice A L k)) := hid (fun W h => by
    have h2 := h
    rw [← HC.out] at h2
    have hBC : BoxC W w.heap.size c (.slice A L k) := h2
    refine ⟨loadCt_row h (by rw [← HC.out]; exact ctc_size _ ho.att), ?_, hBC.sigs ho.att⟩
    rw [← HG.out]
    exact loadAtt_in hBC.att ho.att)
  have hr0 : (w.alloc (.cells C 28)).heap[w.heap.size]? = some (.cells C 28 (0, 0)) := heap_alloc_new w _
  clear hA ho ht hw1
  go_enter Tryz.func24, Tryz.ntmps24
  go_upto_region 1 with (fail)
  generalize (w.alloc (.cells C 28)) = w0 at *
  have hl0 := lt_of_block hr0
  have HF := hid (fun W (h : Below w0.heap.size w0 W) => HLD.out W ((h.block _ hl0).trans hr0))
  have l0 := (HF.out w0 (Below.refl _ _)).1
  clear hr0 hl0
  go_wp2_with fail
  refine (HBA.out w0 hb0).mono ?_
  rintro e w1 ⟨rfl, hb1⟩
  have hB1 := hb0.trans (hb1.mono hb0.size)
  clear l0
  cases b with
  | false =>
    go_wp2_with fail
    go_ret
    exact ⟨rfl, hB1⟩
  | true =>
    have l1 := (HF.out w1 hb1).2.1
    go_wp2_with fail
    rw [HS.out]
    refine (HWI.out w1).mono ?_
    rintro e w2 ⟨rfl, hb2'⟩
    have hb2 := hb1.trans (hb2'.mono hb1.size)
    have hB2 := hB1.trans (hb2'.mono hB1.size)
    clear l1
    go_wp2_with fail
    refine (HMA.out w2).mono ?_
    rintro e w3 ⟨rfl, hb3'⟩
    have hb3 := hb2.trans (hb3'.mono hb2.size)
    have hB3 := hB2.trans (hb3'.mono hB2.size)
    clear hb2 hb2' hb3' hB2
    cases m with
    | false =>
      go_wp2_with fail
      go_ret
      exact ⟨rfl, hB3⟩
    | true =>
      have c3 := (HF.out w3 hb3).2.2
      cases z with
      | false =>
        have hi : ¬ (0 : Int) < (L : Int) := by have := of_decide_eq_false HZ.out; omega
        go_wp2_with fail
        go_ret
        exact ⟨rfl, hB3⟩
      | true =>
        have hi : (0 : Int) < (L : Int) := by have := of_decide_eq_true HZ.out; omega
        go_wp2_with fail
        refine (HRI.out w3 hB3).mono ?_
        rintro e w4 ⟨rfl, hb4⟩
        have hB4 := hB3.trans (hb4.mono hB3.size)
        clear c3
        go_wp2_with fail
        go_ret
        exact ⟨rfl, hB4⟩
end Go.Proofs.YtjemfmbmlmogcaaGreat
namespace Go.Proofs.YtjemfmbmlmogcaaGreat
set_option maxRecDepth 20000
open Go.RowKit
noncomputable def buildSg (w : World) : Result Next := Sem.run Tryz.prog (execOp (fun _ => undef) { dst := none, op := .build 111 #[], type := 0, pos := "", after := #[], guard := none }) w
theorem exec_build_sg (r : Operand → Value) (dst : Option Tmp) (ty : TypeId) (pos : String) (after : Array Edge) (guard : Option (Nat × Bool)) (w : World) :
    Sem.run Tryz.prog (execOp r { dst := dst, op := .build 111 #[], type := ty, pos := pos, after := after, guard := guard }) w = buildSg w := by
  unfold buildSg execOp
  simp
theorem buildSg_eq (w : World) : buildSg w = .ok (.value (.agg (sgc sgZ))) w := by
  unfold buildSg
  go_simp
  rfl
noncomputable def allocSg (w : World) : Result Next := Sem.run Tryz.prog (execOp (fun _ => undef) { dst := none, op := .alloc 111, type := 0, pos := "", after := #[], guard := none }) w
theorem exec_alloc_sg (r : Operand → Value) (dst : Option Tmp) (ty : TypeId) (pos : String) (after : Array Edge) (guard : Option (Nat × Bool)) (w : World) :
    Sem.run Tryz.prog (execOp r { dst := dst, op := .alloc 111, type := ty, pos := pos, after := after, guard := guard }) w = allocSg w := rfl
theorem zero_sg : (Tryz.prog.info? 111).bind (·.zero) = some (.agg (sgc sgZ)) := by kernel_rfl
theorem run_zero_sg (w : World) : (zeroValue 111).run Tryz.prog w = .ok (.agg (sgc sgZ)) w := by
  have h := zero_sg
  cases hq : Tryz.prog.info? 111 with
  | none => rw [hq] at h; cases h
  | some i =>
    rw [hq] at h
    have hz : i.zero = some (.agg (sgc sgZ)) := h
    simp [zeroValue, typeInfo, hq, hz]
theorem allocSg_eq (w : World) : allocSg w = .ok (.value (.pointer (some ⟨w.heap.size, 0, none⟩))) (w.alloc (.cells (sgc sgZ) 111)) := by
  unfold allocSg execOp
  simp only [Sem.run_bind, Instr.alloc, run_zero_sg, newVar, newRow, run_newObj_alloc, Sem.run_pure, Result.andThen_ok, Value.cells]
noncomputable def storeSg (p v : Value) (w : World) : Result Next := Sem.run Tryz.prog (execOp (fun x => match x with
  | .tmp 0 => p
  | _ => v) { dst := none, op := .store 111 (.tmp 0) (.tmp 1), type := 0, pos := "", after := #[], guard := none }) w
theorem exec_store_sg (r : Operand → Value) (x y : Operand) (dst : Option Tmp) (ty : TypeId) (pos : String) (after : Array Edge) (guard : Option (Nat × Bool)) (w : World) :
    Sem.run Tryz.prog (execOp r { dst := dst, op := .store 111 x y, type := ty, pos := pos, after := after, guard := guard }) w = storeSg (r x) (r y) w := rfl
theorem sg_var (w : World) {Z S : Array Value} (hZ : Z.size = 33) (hS : S.size = 33) (h1 : S.all (·.oneCell') = true) :
    storeSg (.pointer (some ⟨w.heap.size, 0, none⟩)) (.agg S) (w.alloc (.cells Z 111)) = .ok .skip (w.alloc (.cells S 111)) := by
  have := run_storeVar_row (P := Tryz.prog) (w.alloc (.cells Z 111)) w.heap.size 111 111 Z S (heap_alloc_new w _) (by rw [size_sg, hS]) (by rw [hZ, hS]) h1
  unfold storeSg execOp
  simp only [Instr.storeAt, Instr.sureAddr, Sem.run_bind, Sem.run_pure, Result.andThen_ok, this]
  rw [show (w.alloc (.cells Z 111)).setRow w.heap.size S = w.alloc (.cells S 111) from setCt_alloc w _ Z S]
theorem sgc_by (n m : Int) (t : List UInt8) : (sgc ⟨m, t⟩).setIfInBounds 0 (.int .i64 n) = sgc ⟨n, t⟩ := by
  unfold sgc scl
  rw [List.setIfInBounds_toArray]
  rfl
structure CtSt (w0 w : World) (x0 x1 x2 : Value) (a : AtM) (s : Value) : Prop where
  bel : Below w0.heap.size w0 w
  b0 : w.heap[w0.heap.size]? = some (.cells #[x0, x1, x2] 83 (0, 0))
  b1 : w.heap[w0.heap.size + 1]? = some (.cells #[.slice none 0 0, .int .i64 0, .bool false] 83 (0, 0))
  b2 : BoxC w (w0.heap.size + 1 + 1) ctZ (.slice none 0 0)
  b3 : BoxC w (w0.heap.size + 1 + 1 + 1) ⟨a, []⟩ s
section
variable {w0 w w' : World} {x0 x1 x2 s : Value} {a : AtM}
theorem CtSt.lt (h : CtSt w0 w x0 x1 x2 a s) : w0.heap.size + 1 + 1 + 1 < w.heap.size := lt_of_block h.b3
theorem CtSt.below (h : CtSt w0 w x0 x1 x2 a s) (hb : Below w.heap.size w w') : CtSt w0 w' x0 x1 x2 a s := by
  have hlt := h.lt
  exact ⟨h.bel.trans (hb.mono h.bel.size), (hb.block _ (by omega)).trans h.b0, (hb.block _ (by omega)).trans h.b1, (hb.block _ (by omega)).trans h.b2, (hb.block _ hlt).trans h.b3⟩
theorem CtSt.new (w : World) (x0 x1 x2 : Value) :
    CtSt w ((((w.alloc (.cells #[x0, x1, x2] 83)).alloc (.cells #[.slice none 0 0, .int .i64 0, .bool false] 83)).alloc (.cells (ctc ctZ (.slice none 0 0)) 28)).alloc (.cells (ctc ctZ (.slice none 0 0)) 28)) x0 x1 x2 atZ (.slice none 0 0) :=
  ⟨four_below _ _ _ _ _, four_0 _ _ _ _ _, four_1 _ _ _ _ _, four_2 _ _ _ _ _, four_3 _ _ _ _ _⟩
theorem CtSt.put (h : CtSt w0 w x0 x1 x2 a s) (y0 y1 y2 : Value) :
    CtSt w0 (((w.setCell ⟨w0.heap.size, 0, none⟩ y0).setCell ⟨w0.heap.size, 1, none⟩ y1).setCell ⟨w0.heap.size, 2, none⟩ y2) y0 y1 y2 a s := by
  refine ⟨((h.bel.setCell (Nat.le_refl _) _).setCell (Nat.le_refl _) _).setCell (Nat.le_refl _) _, ?_, ?_, ?_, ?_⟩
  · exact set_blk (set_blk (set_blk h.b0 0 y0) 1 y1) 2 y2
  · exact blk_other (blk_other (blk_other h.b1 y0 (by omega)) y1 (by omega)) y2 (by omega)
  · exact blk_other (blk_other (blk_other h.b2 y0 (by omega)) y1 (by omega)) y2 (by omega)
  · exact blk_other (blk_other (blk_other h.b3 y0 (by omega)) y1 (by omega)) y2 (by omega)
theorem CtSt.cell (h : CtSt w0 w x0 x1 x2 a s) (ho : a.Ok) {b : AtM} {v : Value} (i : Nat) (hi : i < 101) (e : (atc a).setIfInBounds i v = atc b) : CtSt w0 (w.setCell ⟨w0.heap.size + 1 + 1 + 1, i, none⟩ v) x0 x1 x2 b s := by
  refine ⟨h.bel.setCell (by simp only; omega) _, blk_other h.b0 _ (by omega), blk_other h.b1 _ (by omega), blk_other h.b2 _ (by omega), ?_⟩
  have := set_blk h.b3 i v
  unfold atc at e
  rw [List.setIfInBounds_toArray] at e
  have e' : (atl a).set i v = atl b := by simpa using e
  unfold ctc at this
  rw [List.setIfInBounds_toArray, List.set_append_left _ _ (by rw [atl_length ho]; exact hi), e'] at this
  exact this
theorem CtSt.sig (h : CtSt w0 w x0 x1 x2 a s) (ho : a.Ok) (v : Value) : CtSt w0 (w.setCell ⟨w0.heap.size + 1 + 1 + 1, 101, none⟩ v) x0 x1 x2 a v := by
  refine ⟨h.bel.setCell (by simp only; omega) _, blk_other h.b0 _ (by omega), blk_other h.b1 _ (by omega), blk_other h.b2 _ (by omega), ?_⟩
  have := set_blk h.b3 101 v
  unfold ctc at this
  rw [List.setIfInBounds_toArray, List.set_append_right _ _ (by rw [atl_length ho]; omega), atl_length ho] at this
  exact this
theorem CtSt.far (h : CtSt w0 w x0 x1 x2 a s) {g : Nat} (hg : w0.heap.size + 1 + 1 + 1 < g) (i : Nat) (v : Value) : CtSt w0 (w.setCell ⟨g, i, none⟩ v) x0 x1 x2 a s :=
  ⟨h.bel.setCell (by simp only; omega) _, blk_other h.b0 _ (by omega), blk_other h.b1 _ (by omega), blk_other h.b2 _ (by omega), blk_other h.b3 _ (by omega)⟩
theorem CtSt.grown (h : CtSt w0 w x0 x1 x2 a s) {g : Option Nat} (hg : w.grownBy w' g) (hB : ∀ k, g = some k → w0.heap.size + 1 + 1 + 1 < k) : CtSt w0 w' x0 x1 x2 a s := by
  have hlt := h.lt
  refine ⟨h.bel.grown hg h.bel.size (fun k hk => by have := hB k hk; omega), ?_, ?_, ?_, ?_⟩
  · exact (hg.block _ (by omega) (fun e => by have := hB _ e.symm; omega)).trans h.b0
  · exact (hg.block _ (by omega) (fun e => by have := hB _ e.symm; omega)).trans h.b1
  · exact (hg.block _ (by omega) (fun e => by have := hB _ e.symm; omega)).trans h.b2
  · exact (hg.block _ hlt (fun e => by have := hB _ e.symm; omega)).trans h.b3
theorem CtSt.att (h : CtSt w0 w x0 x1 x2 a s) {b : AtM} {v : Value} (hg : w.grownBy w' (some (w0.heap.size + 1 + 1 + 1))) (hb : BoxC w' (w0.heap.size + 1 + 1 + 1) ⟨b, []⟩ v) : CtSt w0 w' x0 x1 x2 b v := by
  have hlt := h.lt
  refine ⟨h.bel.grown hg h.bel.size (fun k hk => by injection hk with hk; omega), ?_, ?_, ?_, hb⟩
  · exact (hg.block _ (by omega) (fun e => by injection e with e; omega)).trans h.b0
  · exact (hg.block _ (by omega) (fun e => by injection e with e; omega)).trans h.b1
  · exact (hg.block _ (by omega) (fun e => by injection e with e; omega)).trans h.b2
theorem CtSt.cells (h : CtSt w0 w x0 x1 x2 a s) (ho : a.Ok) :
    (w.cell? ⟨w0.heap.size, 0, none⟩ = some x0 ∧ w.cell? ⟨w0.heap.size, 1, none⟩ = some x1 ∧ w.cell? ⟨w0.heap.size, 2, none⟩ = some x2) ∧
    (w.cell? ⟨w0.heap.size + 1 + 1 + 1, 1, none⟩ = some (.int .i64 a.ki) ∧ w.cell? ⟨w0.heap.size + 1 + 1 + 1, 2, none⟩ = some (.int .i64 a.vi) ∧ w.cell? ⟨w0.heap.size + 1 + 1 + 1, 3, none⟩ = some (.int .i64 a.ph) ∧ w.cell? ⟨w0.heap.size + 1 + 1 + 1, 36, none⟩ = some (.int .i64 a.pv) ∧ w.cell? ⟨w0.heap.size + 1 + 1 + 1, 101, none⟩ = some s) ∧
    (∀ i, w.frozen? ⟨w0.heap.size, i, none⟩ = false) ∧ (∀ i, w.frozen? ⟨w0.heap.size + 1 + 1 + 1, i, none⟩ = false) := by
  have K : ∀ i v, (atl a)[i]? = some v → w.cell? ⟨w0.heap.size + 1 + 1 + 1, i, none⟩ = some v := fun i v hv => by
    have := h.b3.att i v hv
    rwa [Nat.zero_add] at this
  refine ⟨⟨cell_blk h.b0 0, cell_blk h.b0 1, cell_blk h.b0 2⟩, ⟨K 1 _ rfl, K 2 _ rfl, K 3 _ rfl, K 36 _ ?_, h.b3.sigs ho⟩, free_blk h.b0, h.b3.free⟩
  rw [atl_pv, List.getElem?_append_right (by simp only [List.length_append, bcells_length, ho.ha, List.length_cons, List.length_nil]; omega)]
  simp only [List.length_append, bcells_length, ho.ha, List.length_cons, List.length_nil]
  rfl
end
theorem atl_pas (a : AtM) (s : Value) : atl a ++ [s] = ([.int .i64 a.bo, .int .i64 a.ki, .int .i64 a.vi, .int .i64 a.ph] ++ (bcells a.ha ++ [.int .i64 a.pv])) ++ (bcells a.pa ++ (bcells a.tg ++ [s])) := by
  rw [atl_pa]
  simp only [List.append_assoc]
section
variable {ops : Array Oper} {rest : List Oper} {o : Oper} {ac : Act} {w : World} {Q : Exit → Act → World → Prop}
theorem wpList_store_cha (hgd : o.guard = none) (x y : Operand) (ho : o.op = .store 23 x y)
    {g : Nat} {a : AtM} {s : Value} {h : List UInt8} (hx : ac.eval x = .pointer (some ⟨g, 4, none⟩)) (hy : ac.eval y = .agg (hcells h)) (hg : BoxC w g ⟨a, []⟩ s) (hok : a.Ok) (hl : h.length = 32)
    (hh : ∀ w', w.grownBy w' (some g) → BoxC w' g ⟨{ a with ha := h }, []⟩ s → w'.heap.size = w.heap.size → wpList Tryz.prog ops Q rest (ac.put o.dst undef) w') : wpList Tryz.prog ops Q (o :: rest) ac w := by
  unfold BoxC ctc at hg
  rw [atl_ha, List.append_assoc, List.append_assoc] at hg
  refine wpList_store_midh hgd x y ho hx hy hg rfl (by rw [bcells_length, hok.ha]) hl (fun w' h1 h2 h3 => hh w' h1 ?_ h3)
  unfold BoxC ctc
  rw [atl_ha, List.append_assoc, List.append_assoc]
  exact h2
theorem wpList_store_cpa (hgd : o.guard = none) (x y : Operand) (ho : o.op = .store 23 x y)
    {g : Nat} {a : AtM} {s : Value} {h : List UInt8} (hx : ac.eval x = .pointer (some ⟨g, 37, none⟩)) (hy : ac.eval y = .agg (hcells h)) (hg : BoxC w g ⟨a, []⟩ s) (hok : a.Ok) (hl : h.length = 32)
    (hh : ∀ w', w.grownBy w' (some g) → BoxC w' g ⟨{ a with pa := h }, []⟩ s → w'.heap.size = w.heap.size → wpList Tryz.prog ops Q rest (ac.put o.dst undef) w') : wpList Tryz.prog ops Q (o :: rest) ac w := by
  unfold BoxC ctc at hg
  rw [atl_pas] at hg
  refine wpList_store_midh hgd x y ho hx hy hg (by simp only [List.length_append, bcells_length, hok.ha, List.length_cons, List.length_nil]) (by rw [bcells_length, hok.pa]) hl (fun w' h1 h2 h3 => hh w' h1 ?_ h3)
  unfold BoxC ctc
  rw [atl_pas]
  exact h2
end
end Go.Proofs.YtjemfmbmlmogcaaGreat
namespace Go.Proofs.YtjemfmbmlmogcaaGreat
set_option maxRecDepth 20000
open Go.RowKit
noncomputable def sliceSg (v : Value) (w : World) : Result Next := Sem.run Tryz.prog (execOp (fun _ => v) { dst := none, op := .buildSlice 26 1 #[(0, .tmp 0)], type := 0, pos := "", after := #[], guard := none }) w
theorem exec_slice_sg (r : Operand → Value) (x : Operand) (dst : Option Tmp) (ty : TypeId) (pos : String) (after : Array Edge) (guard : Option (Nat × Bool)) (w : World) :
    Sem.run Tryz.prog (execOp r { dst := dst, op := .buildSlice 26 1 #[(0, x)], type := ty, pos := pos, after := after, guard := guard }) w = sliceSg (r x) w := by
  unfold sliceSg execOp
  simp
theorem sliceSg_eq (s : SgM) (hs : s.Ok) (w : World) : sliceSg (.agg (sgc s)) w = .ok (.value (.slice (some ⟨w.heap.size, 0, none⟩) 1 1)) (w.alloc (.cells (sgc s) 111)) := by
  have hsz : (sgc s).size = 33 := sgc_size hs
  have e0 : (sgc s).zipIdx = ((scl s).zipIdx).toArray := by unfold sgc; simp
  unfold sliceSg
  go_simp
  have e := putAt_mid (scl s) [] (scl sgZ) [] (by rw [scl_length hs, scl_length sgZ_ok])
  simp only [List.nil_append, List.append_nil, List.length_nil] at e
  rw [← fold_putSg] at e
  exact congrArg (fun C => w.alloc (.cells C 111)) e
end Go.Proofs.YtjemfmbmlmogcaaGreat
