/-
  tithingref02.Primes gives the first 64 primes.
-/
import Derived.Test.YtgcagidkeacheaaDoorConst
import Derived.OwnWalk
namespace Go.Proofs.YtgcagidkeacheaaDoor
open Go.RowKit

theorem info_u64 : (Tryd.prog.info? 41).map (fun i => (i.zero, i.size, i.bytes)) = some (some (.int .u64 0), 1, 8) := by kernel_rfl
theorem under_u64s : Tryd.prog.underlying 33 = some (.slice 41) := by kernel_rfl
/-- A row of the call's own that holds numbers. -/
def OwnU (B : Nat) (w : World) (v : Value) (l : List Nat) : Prop := w.ownsRow B 41 1 v l.length (l.map uc)
theorem OwnU.shape {B : Nat} {w : World} {v : Value} {l : List Nat} (h : OwnU B w v l) : ∃ A c, v = .slice A l.length c ∧ (0 < l.length → ∃ b, A = some ⟨b, 0, none⟩ ∧ B ≤ b ∧ b < w.heap.size ∧ ∀ j, j < l.length → w.cell? ⟨b, j, none⟩ = some (uc (l.getD j 0))) := by
  rcases h.2 with ⟨rfl, h0⟩ | ⟨g, cap, cur, rfl, hg, hh, hn, hm, hs, ht⟩
  · exact ⟨none, 0, by rw [h0], fun h => absurd h (by omega)⟩
  · refine ⟨_, cap, rfl, fun _ => ⟨g, rfl, hg, lt_of_block hh, fun j hj => ?_⟩⟩
    rw [World.ownsRow.cellAt h j (by omega)]
    simp [hj]
theorem one_num (w : World) (n : Nat) : ∀ j u, ([.int .u64 (n : Int)] : List Value)[j]? = some u → (w.alloc (.cells #[.int .u64 (n : Int)] 41)).cell? ((⟨w.heap.size, 0, none⟩ : Addr).add j) = some u := fun j u h => by
  have hj : j < 1 := (List.getElem?_eq_some_iff.1 h).1
  obtain rfl : j = 0 := by omega
  have e := cell_one_new w (.int .u64 (n : Int)) 41 0 u (by simpa using h)
  exact e

def PrimesAt (w : World) (e : Ending) (w' : World) : Prop := ∃ b c, e = .returned (.slice (some ⟨b, 0, none⟩) 64 c) ∧ b < w'.heap.size ∧ (∀ j, j < 64 → w'.cell? ⟨b, j, none⟩ = some (uc (pl.getD j 0))) ∧ Below w.heap.size w w'

set_option maxHeartbeats 3200000 in
theorem primes_any (w : World) : Calls Tryd.prog 10 #[] w (PrimesAt w) := by
  obtain ⟨i0, hi, hz0, hz1, hz2⟩ := info_parts info_u64
  have hb0 : Below w.heap.size w (w.alloc (.cells #[] 41)) := (Below.refl _ _).alloc (Nat.le_refl _) _
  have ho0 : OwnU w.heap.size (w.alloc (.cells #[] 41)) (.slice (some ⟨w.heap.size, 0, none⟩) 0 0) [] := World.ownsRow_made w #[] 0 (Nat.le_refl _) (Nat.zero_le _) rfl
  go_enter Tryd.func10, Tryd.ntmps10
  go_wp2_with fail
  go_loopw [1, 2] (fun s1 s2 wr => ∃ n m : Nat, 2 ≤ n ∧ n ≤ 312 ∧ m ≤ 64 ∧ Hid (cnt n = m) ∧ s2 = .int .u64 (n : Int) ∧ OwnU w.heap.size wr s1 (pl.take m) ∧ Below w.heap.size w wr) (fun _ s2 _ => 312 - (intOf s2).toNat)
  case atStart => exact ⟨2, 0, by omega, by omega, by omega, hid (by decide +kernel), rfl, ho0, hb0⟩
  case round =>
    clear ho0 hb0
    obtain ⟨n, m, hn2, hn, hm, HC, rfl, hown, hbw⟩ := hrel
    obtain ⟨A, c, rfl, hsh⟩ := hown.shape
    have hlen : (pl.take m).length = m := by rw [List.length_take, pl_length]; omega
    rw [hlen] at hsh hown ⊢
    by_cases hlt : m < 64
    · have hm64 : (m : Int) < 64 := by omega
      have hn3 : n < 312 := by
        by_cases e : n = 312
        · have h1 := HC.out
          rw [e, cnt_end] at h1
          omega
        · omega
      have hst := cnt_step ⟨n, hn3⟩ hn2
      simp only [HC.out] at hst
      have HST := hid hst
      clear hst
      go_wp2_with fail
      have hn64 : (n : Int) ≤ 312 := by omega
      go_loop [3, 4] (fun s3 s4 => ∃ i : Nat, i ≤ m ∧ s4 = .int .i64 (i : Int) ∧ s3 = .bool (prm n i)) (fun _ s4 => m - (intOf s4).toNat)
      case atStart => exact ⟨0, Nat.zero_le _, rfl, rfl⟩
      case round =>
        obtain ⟨i, him, rfl, rfl⟩ := hrel
        by_cases hlt2 : i < m
        · obtain ⟨b, rfl, _, hbl, hcl⟩ := hsh (by omega)
          have c1 := hcl i hlt2
          have hpl := pl_le ⟨i, by omega⟩
          have hs := prm_succ n i (by omega)
          have eg : (pl.take m).getD i 0 = pl.getD i 0 := by
            simp only [List.getD_eq_getElem?_getD]
            rw [List.getElem?_take_of_lt hlt2]
          rw [eg] at c1
          simp only at hpl
          obtain ⟨q, HQ⟩ : ∃ q : Nat, Hid (pl.getD i 0 = q) := ⟨_, hid rfl⟩
          rw [HQ.out] at c1 hpl hs
          unfold uc at c1
          obtain ⟨ρ, HR⟩ : ∃ ρ : Nat, Hid (n % q = ρ) := ⟨_, hid rfl⟩
          have q1 : (n : Int) % (q : Int) = (ρ : Int) := by rw [← HR.out]; exact (Int.natCast_emod n q).symm
          have hq0 : 0 < (q : Int) := by omega
          have hq1 : (q : Int) ≠ 0 := by omega
          have him2 : (i : Int) < (m : Int) := by omega
          rw [HR.out] at hs
          obtain ⟨t, HT⟩ : ∃ t : Bool, Hid (prm n i = t) := ⟨_, hid rfl⟩
          rw [HT.out] at hs ⊢
          have HS := hid hs
          clear hs hcl hsh hpl
          cases t
          · go_wp2_with fail
            go_round
            case rel => exact ⟨i + 1, by omega, by go_num, by rw [HS.out]; rfl⟩
            case measure => simp [intOf]; omega
          · by_cases hz : ρ = 0
            · subst hz
              go_wp2_with fail
              go_round
              case rel => exact ⟨i + 1, by omega, by go_num, by rw [HS.out]; rfl⟩
              case measure => simp [intOf]; omega
            · have t1 : ((ρ : Int) != 0) = true := by simp; omega
              have t2 : (ρ != 0) = true := by simp; omega
              rw [t2] at HS
              clear t2 hz
              go_wp2_with fail
              go_round
              case rel => exact ⟨i + 1, by omega, by go_num, by rw [HS.out]; rfl⟩
              case measure => simp [intOf]; omega
        · have him2 : ¬ (i : Int) < (m : Int) := by omega
          obtain rfl : i = m := by omega
          have hlen1 : ∀ q : Nat, pl.getD i 0 = q → pl.take (i + 1) = pl.take i ++ [q] := fun q e => by
            have hl : i < pl.length := hlt
            rw [List.take_succ_eq_append_getElem hl, ← e, List.getD_eq_getElem?_getD, List.getElem?_eq_getElem hl]
            rfl
          have HL1 := hid hlen1
          have hlen2 := hlen
          clear hlen1 hsh
          obtain ⟨t, HT⟩ : ∃ t : Bool, Hid (prm n i = t) := ⟨_, hid rfl⟩
          rw [HT.out]
          cases t
          · have e1 := HST.out.2.2 HT.out
            go_wp2_with fail
            go_roundw
            case rel => exact ⟨n + 1, i, by omega, by omega, by omega, hid e1, by go_num, hown, hbw⟩
            case measure => simp [intOf]; omega
          · obtain ⟨e1, e2⟩ := HST.out.2.1 HT.out
            have E1 := hid e1
            have E2 := hid (HL1.out n e2)
            clear e1 e2
            have hbs := hbw.size
            have hw1 := hown.alloc (.cells #[.int .u64 (n : Int)] 41)
            have hon := one_num wr n
            go_wp2_with (at_builtin; refine wpList_append_own _ rfl (.tmp 28) (.tmp 30) 33 rfl w.heap.size 41 i0 (.int .u64 0) 1 8 under_u64s hi hz0 hz1 hz2 rfl (by decide) _ _ _ rfl hw1 ⟨wr.heap.size, 0, none⟩ 1 1 [.int .u64 (n : Int)] rfl rfl hon (by simp [Value.oneCell']) (by rw [hlen2]; unfold maxLen; omega) (by rw [hlen2]; omega) (by simp; omega) ?_; intro v' w1 hown1 hg1 _)
            have hnew : OwnU w.heap.size w1 v' (pl.take (i + 1)) := by
              rw [E2.out]
              unfold OwnU
              rw [List.length_append, List.map_append]
              exact hown1
            have hbw1 : Below w.heap.size w w1 := (hbw.alloc hbs _).grown hg1 (by simp; omega) (fun k hk => (World.ownsRow.lt hown k hk).1)
            clear hown1 hg1 hw1 hon
            go_roundw
            case rel => exact ⟨n + 1, i + 1, by omega, by omega, by omega, E1, by go_num, hnew, hbw1⟩
            case measure => simp [intOf]; omega
    · have hm64 : ¬ (m : Int) < 64 := by omega
      obtain rfl : m = 64 := by omega
      obtain ⟨b, rfl, _, hbl, hcl⟩ := hsh (by omega)
      have hcl2 := hid hcl
      clear hcl hsh
      go_wp2_with fail
      go_ret
      exact ⟨b, c, rfl, hbl, hcl2.out, hbw⟩
end Go.Proofs.YtgcagidkeacheaaDoor
