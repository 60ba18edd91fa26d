/-
  tithingref02.mul multiplies numbers of digits.
-/
import Derived.Test.YtgcagidkeacheaaDoorThird
import Derived.Test.YtgcagidkeacheaaDoorBits
import Derived.LoopTactic
import Derived.Outline
import Derived.Deep.QuietTactic
import Derived.BigQuiet
import Derived.StillTailTactics
import Derived.IntWalk
namespace Go.Proofs.YtgcagidkeacheaaDoor
open Go.RowKit

/-- A number's cell. -/
def uc (n : Nat) : Value := .int .u64 (n : Int)

set_option maxHeartbeats 3200000 in
theorem mul_any (a b : Nat → Nat) (ga gb na nb N ca cb : Nat) (w : World) (hN : na + nb + 1 = N) (hN2 : N ≤ 20) (hna : 0 < na) (hnb : 0 < nb) (hga : ga < w.heap.size) (hgb : gb < w.heap.size)
    (ha : ∀ j, j < na → w.cell? ⟨ga, j, none⟩ = some (uc (a j))) (hb : ∀ j, j < nb → w.cell? ⟨gb, j, none⟩ = some (uc (b j))) (a16 : ∀ j, a j ≤ 65535) (b16 : ∀ j, b j ≤ 65535)
    (hmk : ∀ w, (Instr.makeSlice 33 (.int .i64 (N : Int)) (.int .i64 (N : Int))).run Tryd.prog w = .ok (.slice (some ⟨w.heap.size, 0, none⟩) N N) (w.alloc (.cells (fcells N fun _ => uc 0) 41))) :
    Calls Tryd.prog 41 #[.slice (some ⟨ga, 0, none⟩) na ca, .slice (some ⟨gb, 0, none⟩) nb cb] w fun e w' => e = .returned (.slice (some ⟨w.heap.size, 0, none⟩) N N) ∧ Blk w' w.heap.size N (fun j => uc (mulS a b na nb j)) 41 ∧ Below w.heap.size w w' := by
  have HA := hid ha
  have HB := hid hb
  have HA16 := hid a16
  have HB16 := hid b16
  have eN : (na : Int) + (nb : Int) + 1 = (N : Int) := by omega
  clear ha hb a16 b16
  go_enter Tryd.func41, Tryd.ntmps41
  go_wp2_with fail
  have hB0 : Blk (w.alloc (.cells (fcells N fun _ => uc 0) 41)) w.heap.size N (fun j => uc (pout a b nb 0 j)) 41 := Blk.new w N _ _
  have hb0 : Below w.heap.size w (w.alloc (.cells (fcells N fun _ => uc 0) 41)) := (Below.refl _ _).alloc (Nat.le_refl _) _
  obtain ⟨G, HG⟩ : ∃ G : Nat, Hid (w.heap.size = G) := ⟨_, hid rfl⟩
  rw [HG.out] at hB0 hb0 hga hgb ⊢
  generalize w.alloc (.cells (fcells N fun _ => uc 0) 41) = w0 at *
  clear eN hmk
  go_loopw [6] (fun si wr => ∃ i : Nat, i ≤ na ∧ si = .int .i64 i ∧ Below G w wr ∧ Blk wr G N (fun j => uc (pout a b nb i j)) 41) (fun si _ => na - (intOf si).toNat)
  case atStart => exact ⟨0, Nat.zero_le _, rfl, hb0, hB0⟩
  case round =>
    clear hB0 hb0
    obtain ⟨i, hi, rfl, hbw, hB⟩ := hrel
    by_cases hlt : i < na
    · have hin : (i : Int) < (na : Int) := by omega
      obtain ⟨wo, rfl⟩ : ∃ wo : World, wo = wr := ⟨_, rfl⟩
      go_wp2_with fail
      go_loopw [7] (fun sk wr => ∃ k : Nat, k ≤ nb ∧ sk = .int .i64 k ∧ Below G w wr ∧ Blk wr G N (fun j => uc (pin a b i (pout a b nb i) k j)) 41) (fun sk _ => nb - (intOf sk).toNat)
      case atStart => exact ⟨0, Nat.zero_le _, rfl, hbw, hB⟩
      case round =>
        clear hbw hB
        obtain ⟨k, hk, rfl, hbw, hB⟩ := hrel
        by_cases hlt2 : k < nb
        · have hkn : (k : Int) < (nb : Int) := by omega
          obtain ⟨m, HM⟩ : ∃ m : Nat, Hid (i + k = m) := ⟨_, hid rfl⟩
          have hmN : m < N := by have := HM.out; omega
          have hmN2 : (m : Int) < (N : Int) := by omega
          obtain ⟨x, HX⟩ : ∃ x : Nat, Hid (a i = x) := ⟨_, hid rfl⟩
          obtain ⟨y, HY⟩ : ∃ y : Nat, Hid (b k = y) := ⟨_, hid rfl⟩
          obtain ⟨z, HZ⟩ : ∃ z : Nat, Hid (pin a b i (pout a b nb i) k m = z) := ⟨_, hid rfl⟩
          have cx := (hbw.cell (p := ⟨ga, i, none⟩) hga).trans (HA.out i hlt)
          have cy := (hbw.cell (p := ⟨gb, k, none⟩) hgb).trans (HB.out k hlt2)
          have cz := hB.cell (i := m) hmN
          have fz := hB.free m
          simp only [HX.out, HY.out, HZ.out] at cx cy cz
          unfold uc at cx cy cz
          have hxy := mul16 (x := x) (y := y) (by rw [← HX.out]; exact HA16.out i) (by rw [← HY.out]; exact HB16.out k)
          have hz : z ≤ 85896724500 := by
            rw [← HZ.out]
            exact Nat.le_trans (pin_le (M := 4294836225) a b nb (fun i j => mul16 (HA16.out i) (HB16.out j)) i k m) (Nat.le_trans (Nat.mul_le_mul_right _ (show i + 1 ≤ 20 by omega)) (by decide))
          obtain ⟨p, HP⟩ : ∃ p : Nat, Hid (x * y = p) := ⟨_, hid rfl⟩
          rw [HP.out] at hxy
          obtain ⟨s, HS⟩ : ∃ s : Nat, Hid (z + p = s) := ⟨_, hid rfl⟩
          have q1 : IntKind.i64.wrap ((i : Int) + (k : Int)) = (m : Int) := by rw [IntWalk.i64_in _ (by omega)]; have := HM.out; omega
          have q2 : IntKind.u64.wrap ((x : Int) * (y : Int)) = (p : Int) := by
            have e : (x : Int) * (y : Int) = (p : Int) := by rw [← HP.out]; exact (Int.natCast_mul x y).symm
            rw [e, IntWalk.u64_in _ (by omega)]
          have q3 : IntKind.u64.wrap ((z : Int) + (p : Int)) = (s : Int) := by rw [IntWalk.u64_in _ (by omega)]; have := HS.out; omega
          clear hxy hz
          go_wp2_with fail
          go_still_tail 21, (by kernel_rfl)
          change wpList _ _ _ _ _ wr.drew
          clear q1 q2 q3
          go_wp2_with fail
          go_roundw
          case rel =>
            refine ⟨k + 1, by omega, by go_num, below_set (hbw.drew) (g := G) (Nat.le_refl _) _ _, (hB.drew.set (i := m) hmN _).congr fun j _ => ?_⟩
            show (if j = m then _ else uc (pin a b i (pout a b nb i) k j)) = uc (if j = i + k then pin a b i (pout a b nb i) k (i + k) + a i * b k else pin a b i (pout a b nb i) k j)
            rw [HM.out, HZ.out, HX.out, HY.out, HP.out, HS.out]
            split <;> rfl
          case measure => simp [intOf]; omega
        · have hkn : ¬ (k : Int) < (nb : Int) := by omega
          have ek : k = nb := by omega
          go_wp2_with fail
          go_roundw
          case rel => exact ⟨i + 1, by omega, by go_num, hbw, by rw [ek] at hB; exact hB⟩
          case measure => simp [intOf]; omega
    · have hin : ¬ (i : Int) < (na : Int) := by omega
      have hB2 : Blk wr G N (fun j => uc (car (pout a b nb na) 0 j)) 41 := by
        have e : i = na := by omega
        rw [e] at hB
        exact hB
      obtain ⟨F, HF⟩ : ∃ F : Nat → Nat, Hid (pout a b nb na = F) := ⟨_, hid rfl⟩
      have hFle : ∀ j, F j ≤ 85896724500 := fun j => by
        rw [← HF.out]
        exact Nat.le_trans (pout_le (M := 4294836225) a b nb (fun i j => mul16 (HA16.out i) (HB16.out j)) j na) (Nat.le_trans (Nat.mul_le_mul_right _ (show na ≤ 20 by omega)) (by decide))
      have HFL := hid hFle
      rw [HF.out] at hB2
      clear hB hFle
      obtain ⟨wo, rfl⟩ : ∃ wo : World, wo = wr := ⟨_, rfl⟩
      go_wp2_with fail
      go_loopw [8] (fun si wr => ∃ i : Nat, i < N ∧ si = .int .i64 i ∧ Below G w wr ∧ Blk wr G N (fun j => uc (car F i j)) 41) (fun si _ => N - (intOf si).toNat)
      case atStart => exact ⟨0, by omega, rfl, hbw, hB2⟩
      case round =>
        clear hbw hB2
        obtain ⟨i, hi, rfl, hbw, hB⟩ := hrel
        obtain ⟨i1, HI⟩ : ∃ i1 : Nat, Hid (i + 1 = i1) := ⟨_, hid rfl⟩
        by_cases hlt : i1 < N
        · obtain ⟨z0, HZ0⟩ : ∃ z : Nat, Hid (car F i i = z) := ⟨_, hid rfl⟩
          obtain ⟨z1, HZ1⟩ : ∃ z : Nat, Hid (car F i i1 = z) := ⟨_, hid rfl⟩
          have c0 := hB.cell (i := i) hi
          have c1 := hB.cell (i := i1) hlt
          have f0 := hB.free i
          have f1 := hB.free i1
          simp only [HZ0.out, HZ1.out] at c0 c1
          unfold uc at c0 c1
          have hz0 : z0 ≤ 171793449000 := by
            have := car_at F _ HFL.out i
            rw [HZ0.out] at this
            omega
          have hz1 : z1 ≤ 85896724500 := by
            have h1 := car_high F i1 i (by have := HI.out; omega)
            rw [HZ1.out] at h1
            have := HFL.out i1
            omega
          obtain ⟨d, HD⟩ : ∃ d : Nat, Hid (z0 / 65536 = d) := ⟨_, hid rfl⟩
          have hd : d ≤ z0 := by have := HD.out; omega
          obtain ⟨s, HS⟩ : ∃ s : Nat, Hid (z1 + d = s) := ⟨_, hid rfl⟩
          obtain ⟨r, HR⟩ : ∃ r : Nat, Hid (z0 % 65536 = r) := ⟨_, hid rfl⟩
          have hne : i ≠ i1 := by have := HI.out; omega
          have hne2 : i1 ≠ i := by have := HI.out; omega
          have hi1 : (i : Int) + 1 = (i1 : Int) := by have := HI.out; omega
          have hlt2 : (i1 : Int) < (N : Int) := by omega
          have hlt3 : (i : Int) < (N : Int) := by omega
          have q1 : IntKind.i64.wrap (i1 : Int) = (i1 : Int) := by rw [IntWalk.i64_in _ (by omega)]
          have q2 : (z0 : Int) / 65536 = (d : Int) := by have := HD.out; omega
          have q5 : IntKind.u64.wrap (d : Int) = (d : Int) := IntWalk.u64_in _ (by omega)
          have q3 : IntKind.u64.wrap ((z1 : Int) + (d : Int)) = (s : Int) := by rw [IntWalk.u64_in _ (by omega)]; have := HS.out; omega
          have q4 : (z0 : Int) % 65536 = (r : Int) := by have := HR.out; omega
          clear hz1 hd
          go_wp2_with fail
          go_still_tail 15, (by kernel_rfl)
          change wpList _ _ _ _ _ wr.drew
          clear q1 q2 q3 q5
          go_wp2_with fail
          go_roundw
          case rel =>
            refine ⟨i1, hlt, by go_num, below_set (below_set (hbw.drew) (g := G) (Nat.le_refl _) _ _) (g := G) (Nat.le_refl _) _ _, ((hB.drew.set (i := i1) hlt _).set (i := i) hi _).congr fun j _ => ?_⟩
            rw [← HI.out] at HZ1 ⊢
            show (if j = i then _ else if j = i + 1 then _ else uc (car F i j)) = uc (if j = i then car F i i % 65536 else if j = i + 1 then car F i (i + 1) + car F i i / 65536 else car F i j)
            rw [HZ0.out, HZ1.out, HD.out, HS.out, HR.out]
            split
            · rfl
            · split <;> rfl
          case measure => simp [intOf]; have := HI.out; omega
        · have hi1 : (i : Int) + 1 = (i1 : Int) := by have := HI.out; omega
          have hlt2 : ¬ (i1 : Int) < (N : Int) := by omega
          have ei : i = na + nb := by have := HI.out; omega
          go_wp2_with fail
          go_ret
          rw [ei, ← HF.out] at hB
          exact ⟨by rw [HG.out]; rfl, by rw [HG.out]; exact hB, by rw [HG.out]; exact hbw⟩
theorem mk7 : ∀ w : World, (Instr.makeSlice 33 (.int .i64 ((7 : Nat) : Int)) (.int .i64 ((7 : Nat) : Int))).run Tryd.prog w = .ok (.slice (some ⟨w.heap.size, 0, none⟩) 7 7) (w.alloc (.cells (fcells 7 fun _ => uc 0) 41)) := fun _ => by kernel_rfl
theorem mk11 : ∀ w : World, (Instr.makeSlice 33 (.int .i64 ((11 : Nat) : Int)) (.int .i64 ((11 : Nat) : Int))).run Tryd.prog w = .ok (.slice (some ⟨w.heap.size, 0, none⟩) 11 11) (w.alloc (.cells (fcells 11 fun _ => uc 0) 41)) := fun _ => by kernel_rfl
end Go.Proofs.YtgcagidkeacheaaDoor
