/-
  The law's own bytes of a number, a text and a hash.
-/
import Derived.Test.YtggonealcpbonaaRefs
import Derived.Test.YtggonealcpbonaaPuts
import Derived.Deep.RegionHeld3
namespace Go.Proofs.Ytggonealcpbonaa
open Go.RowKit

set_option maxRecDepth 100000 in
set_option maxHeartbeats 3200000 in
theorem bytes_any (d : PutD) (w : World) (hd : d.Ok w) (ht : d.t.length ≤ 65536) :
    Calls Try.prog 12 #[.agg d.cells.toArray] w fun e w' => ∃ x, e = .returned x ∧ Own w.heap.size w' x d.enc ∧ Below w.heap.size w w' := by
  have hn := hd.n
  have hh := hd.h
  have hvt := hd.v
  obtain ⟨T, tc, et⟩ := hvt.shape
  obtain ⟨C, HC⟩ : ∃ C : Array Value, Hid (d.cells.toArray = C) := ⟨_, hid rfl⟩
  rw [HC.out]
  rw [et] at hvt
  have hbw0 : Below w.heap.size w (w.alloc (.cells C 27)) := (Below.refl _ _).alloc (Nat.le_refl _) _
  have hran : (w.alloc (.cells C 27)).rangeAt w.heap.size 0 d.cells := fun j u hu => by
    rw [Nat.zero_add, cell_of_row _ _ _ _ _ (0, 0) (heap_alloc_new w _), ← HC.out]
    simpa using hu
  obtain ⟨k0, k1, k2⟩ := PutD.at_ hran
  rw [et] at k1
  rw [Nat.zero_add] at k1 k2
  have hvt0 := hvt.below hbw0
  have hL := dg_len10 hn
  have hL2 := dg_len10 (n := d.t.length) (by omega)
  have htx := tx_len d.t
  clear hran et
  go_enter Try.func12, Try.ntmps12
  go_wp2_with fail
  generalize hW0 : w.alloc (.cells C 27) = w0 at *
  have hlt : w.heap.size < w0.heap.size := by rw [← hW0]; simp
  clear hW0
  have hw00 : Below w0.heap.size w0 w0.drew := (Below.refl _ _).drew
  go_region_held3 (fun w' => w'.cell? ⟨w.heap.size, 0, none⟩ = some (.int .u64 (d.n : Int)) ∧ w'.cell? ⟨w.heap.size, 1, none⟩ = some (.slice T d.t.length tc) ∧ w'.rangeAt w.heap.size 2 (bcells d.h) ∧ Byt w' (.slice T d.t.length tc) d.t)
    (first
      | (refine ⟨k0, k1, k2, hvt0⟩)
      | (refine ⟨(hB5.cell (p := ⟨w.heap.size, 0, none⟩) hlt).trans k0, (hB5.cell (p := ⟨w.heap.size, 1, none⟩) hlt).trans k1, range_below k2 hB5 hlt, hvt0.below hB5⟩)
      | (refine ⟨(hB4.cell (p := ⟨w.heap.size, 0, none⟩) hlt).trans k0, (hB4.cell (p := ⟨w.heap.size, 1, none⟩) hlt).trans k1, range_below k2 hB4 hlt, hvt0.below hB4⟩)
      | (refine ⟨(hB3.cell (p := ⟨w.heap.size, 0, none⟩) hlt).trans k0, (hB3.cell (p := ⟨w.heap.size, 1, none⟩) hlt).trans k1, range_below k2 hB3 hlt, hvt0.below hB3⟩)
      | fail)
    (first
      | (refine step_append_byt (by rfl) (.tmp 7) (.tmp 10) (by rfl) (by rfl) (by rfl) (hown3.below hb4) hown4.byt (by omega) (by have := hB4.size; simp; omega) ?_; intro v5 w5 hown5 hg5 _; have hB5 : Below w0.heap.size w0 w5 := hB4.grown hg5 hB4.size (fun q hq => (World.ownsRow.lt hown3 q hq).1))
      | (go_at_call 27; refine (refnum_any _ _ (by omega) (by omega)).mono ?_; rintro e w3 ⟨v3, rfl, hown3, hb3⟩; rw [Int.toNat_natCast] at hown3; have hB3 : Below w0.heap.size w0 w3 := hw00.trans hb3)
      | (go_at_call 28; refine (reftext_any _ d.t _ (hvt0.below hB3) (by omega)).mono ?_; rintro e w4 ⟨v4, rfl, hown4, hb4⟩; have hB4 : Below w0.heap.size w0 w4 := hB3.trans (hb4.mono hB3.size))
      | fail)
  have hown6 : Own w0.heap.size w5 v5 (dg d.n ++ tx d.t) := hown5
  clear hown5 hown3 hown4 hb3 hb4 hB3 hB4 hg5 hw00 k0 k1 hvt0 hvt
  go_wp2
  go_loopw [3, 4] (fun out si wr => ∃ i : Nat, i ≤ 32 ∧ si = .int .i64 i ∧ Own w0.heap.size wr out (dg d.n ++ tx d.t ++ d.h.take i) ∧ Below w0.heap.size w0 wr) (fun _ si _ => 32 - (intOf si).toNat)
  case atStart => exact ⟨0, by omega, rfl, by rw [List.take_zero, List.append_nil]; exact hown6, hB5⟩
  case round =>
    obtain ⟨i, hi, rfl, hown, hB⟩ := hrel
    have hlen : (dg d.n ++ tx d.t ++ d.h.take i).length ≤ 70000 := by
      simp only [List.length_append, List.length_take]
      omega
    by_cases hlt2 : i < 32
    · have hih : i < d.h.length := by omega
      have hc : wr.cell? ⟨w.heap.size, 2 + i, none⟩ = some (bcell d.h[i]) := (hB.cell (p := ⟨w.heap.size, 2 + i, none⟩) hlt).trans (k2 i _ (by simp [bcells, hih]))
      obtain ⟨x, hx0, hx1, HX⟩ : ∃ x : Int, 0 ≤ x ∧ x ≤ 255 ∧ Hid (x = (d.h[i].toNat : Int)) := ⟨_, (byte_lt d.h[i]).1, (byte_lt d.h[i]).2, rfl⟩
      unfold bcell at hc
      rw [← HX.out] at hc
      have hi32 : (i : Int) < 32 := by omega
      have hbs := hB.size
      go_wp2_with (at_builtin; refine wpList_append_byt rfl (.tmp 16) (.tmp 21) rfl rfl rfl (hown.alloc _) (byt_one _ _ d.h[i] HX.out) (by rw [List.length_singleton]; omega) (by simp; omega) ?_; intro v7 w7 hown7 hg7 _)
      have hnew : dg d.n ++ tx d.t ++ d.h.take i ++ [d.h[i]] = dg d.n ++ tx d.t ++ d.h.take (i + 1) := by rw [List.append_assoc, ← List.take_succ_eq_append_getElem hih]
      rw [hnew] at hown7
      have hB7 : Below w0.heap.size w0 w7 := (hB.alloc hbs _).grown hg7 (by simp; omega) (fun q hq => (World.ownsRow.lt hown q hq).1)
      clear hnew hg7
      go_roundw
      case rel => exact ⟨i + 1, by omega, by go_num, hown7, hB7⟩
      case measure => simp [intOf]; omega
    · obtain rfl : i = 32 := by omega
      go_wp2
      go_ret
      rw [List.take_of_length_le (by omega), List.append_assoc] at hown
      exact ⟨_, rfl, hown.more (by omega), hbw0.trans (hB.mono (by omega))⟩
end Go.Proofs.Ytggonealcpbonaa
