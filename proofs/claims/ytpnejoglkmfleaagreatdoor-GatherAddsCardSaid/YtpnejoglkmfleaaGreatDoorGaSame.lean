/-
  tithingref16.Same. (Printed with genga.py within XGaRef, cut off by hand.)
-/
import Derived.Deep.CutBlock
import Derived.Test.YtpnejoglkmfleaaGreatDoorGaWords
namespace Go.Proofs.YtpnejoglkmfleaaGreatDoor
set_option maxRecDepth 20000
open Go.RowKit
attribute [local go_sem ↓] exec_load_att exec_ne_att
set_option maxHeartbeats 6400000 in
theorem refSame16_any (va vb : Value) (L M : List AtM) (w : World) (ha : Els atl 101 w va L) (hb : Els atl 101 w vb M) (hoL : ∀ a ∈ L, a.Ok) (hoM : ∀ a ∈ M, a.Ok) :
    Calls Tryz.prog 12 #[va, vb] w fun e w' => e = .returned (.bool (decide (L = M))) ∧ Below w.heap.size w w' := by
  obtain ⟨A, c, rfl⟩ := ha.shape
  obtain ⟨B, d, rfl⟩ := hb.shape
  have HA : Hid (∀ j (h : j < L.length), ∃ b off, A = some ⟨b, off, none⟩ ∧ ∀ W, Below w.heap.size w W → ElG W b (off + j * 101) L[j]) := hid (fun j h => elG_at ha hoL h)
  have HB : Hid (∀ j (h : j < M.length), ∃ b off, B = some ⟨b, off, none⟩ ∧ ∀ W, Below w.heap.size w W → ElG W b (off + j * 101) M[j]) := hid (fun j h => elG_at hb hoM h)
  have HO := hid (And.intro hoL hoM)
  have hmx := ha.len
  unfold maxLen at hmx
  have HMX := hid hmx
  obtain ⟨N, HN⟩ : ∃ n : Nat, Hid (L.length = n) := ⟨_, hid rfl⟩
  obtain ⟨N2, HN2⟩ : ∃ n : Nat, Hid (M.length = n) := ⟨_, hid rfl⟩
  rw [HN.out] at HMX ⊢
  rw [HN2.out]
  clear ha hb hoL hoM hmx
  go_enter Tryz.func12, Tryz.ntmps12
  by_cases p : N = N2
  · have HEN : Hid (L.length = M.length) := hid (by rw [HN.out, HN2.out]; exact p)
    subst p
    have hnn : (N == N) = true := by simp
    go_wp2_with fail
    go_loopw [5] (fun si wr => ∃ i : Nat, i ≤ N ∧ si = .int .i64 i ∧ Hid (L.take i = M.take i ∧ Below w.heap.size w wr)) (fun si _ => N - (intOf si).toNat)
    case atStart => exact ⟨0, Nat.zero_le _, rfl, hid ⟨rfl, Below.refl _ _⟩⟩
    case round =>
      obtain ⟨i, hi, rfl, HT⟩ := hrel
      by_cases hlt : i < N
      · have hlt' : (i : Int) < (N : Int) := by omega
        have hi1 : i < L.length := by rw [HN.out]; exact hlt
        have hi2 : i < M.length := by rw [← HEN.out]; exact hi1
        obtain ⟨b1, o1, rfl, h1⟩ := HA.out i hi1
        obtain ⟨b2, o2, rfl, h2⟩ := HB.out i hi2
        have HBD := hid (HT.out.2.drew)
        have l1 := (h1 _ HBD.out).ld
        have l2 := (h2 _ HBD.out).ld
        have HNX : Hid (decide (L[i] = M[i]) = true → L.take (i + 1) = M.take (i + 1)) := hid (fun e => by
          rw [List.take_succ_eq_append_getElem hi1, List.take_succ_eq_append_getElem hi2, HT.out.1, of_decide_eq_true e])
        have HNO : Hid (decide (L[i] = M[i]) = false → decide (L = M) = false) := hid (fun e => decide_eq_false (fun h => of_decide_eq_false e (by subst h; rfl)))
        have hne : ∀ W, neAtt (.agg (atc L[i])) (.agg (atc M[i])) W = .ok (.value (.bool (!decide (L[i] = M[i])))) W := fun W => neAtt_eq _ _ (HO.out.1 _ (List.getElem_mem hi1)) (HO.out.2 _ (List.getElem_mem hi2)) W
        obtain ⟨q, HQ⟩ : ∃ q : Bool, Hid (decide (L[i] = M[i]) = q) := ⟨_, hid rfl⟩
        obtain ⟨C, HC⟩ : ∃ C : Array Value, Hid (atc L[i] = C) := ⟨_, hid rfl⟩
        obtain ⟨D, HD⟩ : ∃ C : Array Value, Hid (atc M[i] = C) := ⟨_, hid rfl⟩
        rw [HC.out] at l1 hne
        rw [HD.out] at l2 hne
        rw [HQ.out] at hne HNX HNO
        have HHK := hid (show i < N from hlt)
        have HWI : Hid (wrap64 ((i : Int) + 1) = (i : Int) + 1) := hid (by have := HMX.out; unfold wrap64; omega)
        clear h1 h2 hlt hi
        go_upto_region 6 with (fail)
        refine wp_region_held_drew (S := fun W => loadAtt (.pointer (some ⟨b1, o1 + i * 101, none⟩)) W = .ok (.value (.agg C)) W ∧ loadAtt (.pointer (some ⟨b2, o2 + i * 101, none⟩)) W = .ok (.value (.agg D)) W) (by kernel_rfl) ⟨l1, l2⟩ (fun hHeld => ?_)
        refine' tk (i := 0) (v := _) rfl ?_ ?_
        rotate_left
        · (intro W hW; (try dsimp only at hW); go_simp; first | done | with_reducible rfl)
        try simp only [lay]
        refine' tk (i := 1) (v := _) rfl ?_ ?_
        rotate_left
        · (intro W hW; (try dsimp only at hW); go_simp; first | done | with_reducible rfl)
        try simp only [lay]
        refine' tk (i := 2) (v := _) rfl ?_ ?_
        rotate_left
        · (intro W hW; (try dsimp only at hW); go_simp; first | done | with_reducible rfl)
        try simp only [lay]
        refine' tk (i := 3) (v := _) rfl ?_ ?_
        rotate_left
        · (intro W hW; (try dsimp only at hW); obtain ⟨hW1, hW2⟩ := hW; go_simp; first | done | with_reducible rfl)
        try simp only [lay]
        refine' tk (i := 4) (v := _) rfl ?_ ?_
        rotate_left
        · (intro W hW; (try dsimp only at hW); go_simp; first | done | with_reducible rfl)
        try simp only [lay]
        refine' tk (i := 5) (v := _) rfl ?_ ?_
        rotate_left
        · (intro W hW; (try dsimp only at hW); go_simp; first | done | with_reducible rfl)
        try simp only [lay]
        refine' tk (i := 6) (v := _) rfl ?_ ?_
        rotate_left
        · (intro W hW; (try dsimp only at hW); go_simp; first | done | with_reducible rfl)
        try simp only [lay]
        refine' tk (i := 7) (v := _) rfl ?_ ?_
        rotate_left
        · (intro W hW; (try dsimp only at hW); obtain ⟨hW1, hW2⟩ := hW; go_simp; first | done | with_reducible rfl)
        try simp only [lay]
        refine' tk (i := 8) (v := _) rfl ?_ ?_
        rotate_left
        · (intro W hW; (try dsimp only at hW); go_simp; first | done | with_reducible rfl)
        try simp only [lay]
        refine wpAnyH_done (by kernel_rfl) ?_ _
        clear hHeld l1 l2 hne
        cases q with
        | false =>
          have HF := hid (HNO.out rfl)
          go_wp2_with fail
          go_ret
          exact ⟨by rw [HF.out]; rfl, HBD.out⟩
        | true =>
          have HT2 := hid (And.intro (HNX.out rfl) HBD.out)
          have hwi := HWI.out
          go_wp2_with fail
          go_roundw
          case rel => exact ⟨i + 1, HHK.out, by first | go_num | (rw [HWI.out]; rfl), HT2⟩
          case measure => exact ga_meas HHK.out hwi
      · have hlt' : ¬ (i : Int) < (N : Int) := by omega
        have HE : Hid (decide (L = M) = true) := hid (decide_eq_true (by
          have := HT.out.1
          rwa [List.take_of_length_le (by rw [HN.out]; omega), List.take_of_length_le (by rw [← HEN.out, HN.out]; omega)] at this))
        have HBW := hid HT.out.2
        clear HT hlt hi
        go_wp2_with fail
        go_ret
        exact ⟨by rw [HE.out]; rfl, HBW.out⟩
  · have HF : Hid (decide (L = M) = false) := hid (decide_eq_false (fun h => p (by rw [← HN.out, ← HN2.out, h])))
    have hne : ¬ (N : Int) = (N2 : Int) := by omega
    go_wp2_with fail
    go_ret
    exact ⟨by rw [HF.out]; rfl, Below.refl _ _⟩
end Go.Proofs.YtpnejoglkmfleaaGreatDoor
