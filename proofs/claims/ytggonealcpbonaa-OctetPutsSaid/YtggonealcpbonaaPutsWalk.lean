/-
  The law of putting: any number, text and hash behind any bytes.
-/
import Derived.Test.YtggonealcpbonaaAwake
import Derived.Test.YtggonealcpbonaaHash
import Derived.Test.YtggonealcpbonaaBytes
namespace Go.Proofs.Ytggonealcpbonaa
open Go.RowKit

/-- What a load of a number, a text and a hash comes to: kept whole. -/
noncomputable def loadPut (v : Value) (w : World) : Result Next := Sem.run Try.prog (execOp (fun _ => v) { dst := none, op := .load 27 (.tmp 0), type := 0, pos := "", after := #[], guard := none }) w
theorem exec_load_put (r : Operand → Value) (x : Operand) (dst : Option Tmp) (ty : TypeId) (pos : String) (after : Array Edge) (guard : Option (Nat × Bool)) (w : World) :
    Sem.run Try.prog (execOp r { dst := dst, op := .load 27 x, type := ty, pos := pos, after := after, guard := guard }) w = loadPut (r x) w := rfl
theorem loadPut_eq {w : World} {b : Nat} {C : Array Value} (h : w.rangeAt b 0 C.toList) (hs : C.size = 34) : loadPut (.pointer (some ⟨b, 0, none⟩)) w = .ok (.value (.agg C)) w := by
  obtain ⟨f0, f1, f2, hu, _⟩ := under_put
  have := run_loadAt_mid (P := Try.prog) w b 0 27 C.toList _ h hu rfl (by rw [show (Try.prog.info? 27).map (·.size) = some 34 from by kernel_rfl]; simp [hs])
  simp only [Array.toArray_toList] at this
  unfold loadPut execOp
  simp only [Sem.run_bind, this, Result.andThen_ok, Sem.run_pure]
attribute [local go_sem ↓] exec_load_put

set_option maxRecDepth 100000 in
set_option maxHeartbeats 3200000 in
theorem puts_any (v : Value) (l : List UInt8) (d : PutD) (w : World) (hv : Byt w v l) (hd : d.Ok w) :
    Calls Try.prog 3 #[v, .agg d.cells.toArray] w fun e w' => e = .returned (.bool true) ∧ Below w.heap.size w w' := by
  have hvm := hv.len
  have htm := hd.v.len
  unfold maxLen at hvm htm
  obtain ⟨A, c, rfl⟩ := hv.shape
  have hn := hd.n
  have hh := hd.h
  have hvt := hd.v
  obtain ⟨T, tc, et⟩ := hvt.shape
  obtain ⟨C, HC⟩ : ∃ C : Array Value, Hid (d.cells.toArray = C) := ⟨_, hid rfl⟩
  rw [HC.out]
  rw [et] at hvt
  have hbw0 : Below w.heap.size w (w.alloc (.cells C 27)) := (Below.refl _ _).alloc (Nat.le_refl _) _
  have hran : (w.alloc (.cells C 27)).rangeAt w.heap.size 0 d.cells := fun j u hu => by
    rw [Nat.zero_add, cell_of_row _ _ _ _ _ (0, 0) (heap_alloc_new w _), ← HC.out]
    simpa using hu
  obtain ⟨k0, k1, k2⟩ := PutD.at_ hran
  rw [et] at k1
  rw [Nat.zero_add] at k1 k2
  have hvt0 := hvt.below hbw0
  have hv0 := hv.below hbw0
  have hL := dg_len10 hn
  by_cases hlong : 500 < l.length
  · clear k0 k1 k2
    go_enter Try.func3, Try.ntmps3
    go_wp2_with fail
    refine (awake_any _).mono ?_
    rintro e w' ⟨rfl, hb⟩
    go_wp2_with fail
    go_ret
    exact ⟨rfl, hbw0.trans (hb.mono (by simp))⟩
  · by_cases hlong2 : 500 < d.t.length
    · have hq : ¬ (500 : Int) < (l.length : Int) := by omega
      clear k0 k2
      go_enter Try.func3, Try.ntmps3
      go_wp2_with fail
      refine (awake_any _).mono ?_
      rintro e w' ⟨rfl, hb⟩
      go_wp2_with fail
      go_ret
      exact ⟨rfl, hbw0.trans (hb.mono (by simp))⟩
    · have hq : ¬ (500 : Int) < (l.length : Int) := by omega
      have hq2 : ¬ (500 : Int) < (d.t.length : Int) := by omega
      have hL2 := dg_len10 (n := d.t.length) (by omega)
      have htx := tx_len d.t
      have hu := under_hash
      have hsz : (Try.prog.info? 25).map (·.size) = some (bcells d.h).length := by rw [size_hash, bcells_length, hh]
      go_enter Try.func3, Try.ntmps3
      go_wp2_with fail
      generalize hW0 : w.alloc (.cells C 27) = w0 at *
      have hlt : w.heap.size < w0.heap.size := by rw [← hW0]; simp
      clear hW0
      have hw00 : Below w0.heap.size w0 w0.drew := (Below.refl _ _).drew
      go_region_held3 (fun w' => w'.cell? ⟨w.heap.size, 0, none⟩ = some (.int .u64 (d.n : Int)) ∧ w'.cell? ⟨w.heap.size, 1, none⟩ = some (.slice T d.t.length tc) ∧ w'.rangeAt w.heap.size 2 (bcells d.h) ∧ Byt w' (.slice T d.t.length tc) d.t)
        (first
          | (refine ⟨k0, k1, k2, hvt0⟩)
          | (refine ⟨(hB5.cell (p := ⟨w.heap.size, 0, none⟩) hlt).trans k0, (hB5.cell (p := ⟨w.heap.size, 1, none⟩) hlt).trans k1, range_below k2 hB5 hlt, hvt0.below hB5⟩)
          | (refine ⟨(hB4.cell (p := ⟨w.heap.size, 0, none⟩) hlt).trans k0, (hB4.cell (p := ⟨w.heap.size, 1, none⟩) hlt).trans k1, range_below k2 hB4 hlt, hvt0.below hB4⟩)
          | (refine ⟨(hB3.cell (p := ⟨w.heap.size, 0, none⟩) hlt).trans k0, (hB3.cell (p := ⟨w.heap.size, 1, none⟩) hlt).trans k1, range_below k2 hB3 hlt, hvt0.below hB3⟩)
          | fail)
        (first
          | (go_at_call 10; refine (num_any _ l _ _ (hv0.drewN 1) (by omega) (by omega) (by omega)).mono ?_; rintro e w3 ⟨v3, rfl, hown3, hb3⟩; have hB3 : Below w0.heap.size w0 w3 := hw00.trans hb3)
          | (go_at_call 9; refine (text_any _ _ _ _ _ hown3.byt (hvt0.below hB3) (by simp; omega) (by omega)).mono ?_; rintro e w4 ⟨v4, rfl, hown4, hb4⟩; have hB4 : Below w0.heap.size w0 w4 := hB3.trans (hb4.mono hB3.size))
          | (go_at_call 8; refine (hash_any _ _ d.h _ hown4.byt (by simp [tx]; omega) hh).mono ?_; rintro e w5 ⟨v5, rfl, hown5, hb5⟩; have hB5 : Below w0.heap.size w0 w5 := hB4.trans (hb5.mono hB4.size))
          | fail)
      have hbyt5 : Byt w5 v5 (l ++ d.enc) := by
        have := hown5.byt
        rw [Int.toNat_natCast, List.append_assoc, List.append_assoc] at this
        exact this
      have hv5 := hv0.below hB5
      have hvt5 := hvt0.below hB5
      have hran5 := range_below hran hB5 hlt
      have hbw5 := hbw0.trans (hB5.mono (by omega))
      have hlt5 : w.heap.size < w5.heap.size := by have := hB5.size; omega
      have hd5 : d.Ok w5 := ⟨hn, by rw [et]; exact hvt5, hh⟩
      clear hown5 hown3 hown4 hb3 hb4 hb5 hB3 hB4 hB5 hw00 k0 k1 k2 hvt0 hvt hv0 hran hbw0 hu hsz
      have hsz34 : C.size = 34 := by rw [← HC.out]; simp [PutD.cells, bcells, hh]
      have hP5 : w5.rangeAt w.heap.size 0 C.toList := by rw [← HC.out]; exact hran5
      have hld : ∀ w' : World, w'.rangeAt w.heap.size 0 C.toList → loadPut (.pointer (some ⟨w.heap.size, 0, none⟩)) w' = .ok (.value (.agg C)) w' := fun w' h => loadPut_eq h hsz34
      clear hsz34 hran5
      have hB1 : Below w5.heap.size w5 (w5.alloc (.cells #[] 5)).drew := ((Below.refl _ _).alloc (Nat.le_refl _) _).drew
      have ho1 : Own w5.heap.size (w5.alloc (.cells #[] 5)).drew (.slice (some ⟨w5.heap.size, 0, none⟩) 0 0) [] := World.ownsRow_made w5 #[] 0 (Nat.le_refl _) (Nat.zero_le _) rfl
      have hel : d.enc.length ≤ 1000 := by
        unfold PutD.enc
        simp only [List.length_append]
        omega
      go_wp2_with fail
      go_region_held3 (fun w' => w'.rangeAt w.heap.size 0 C.toList ∧ Byt w' (.slice A l.length c) l ∧ Byt w' v5 (l ++ d.enc) ∧ Below w5.heap.size w5 w')
        (first
          | (refine ⟨hP5, hv5, hbyt5, (Below.refl _ _).drew⟩)
          | (refine ⟨range_below hP5 hB6 hlt5, hv5.below hB6, hbyt5.below hB6, hB6⟩)
          | (refine ⟨range_below hP5 hB5 hlt5, hv5.below hB5, hbyt5.below hB5, hB5⟩)
          | (refine ⟨range_below hP5 hB4 hlt5, hv5.below hB4, hbyt5.below hB4, hB4⟩)
          | (refine ⟨range_below hP5 hB3 hlt5, hv5.below hB3, hbyt5.below hB3, hB3⟩)
          | (refine ⟨range_below hP5 hB2 hlt5, hv5.below hB2, hbyt5.below hB2, hB2⟩)
          | (refine ⟨range_below hP5 hB1 hlt5, hv5.below hB1, hbyt5.below hB1, hB1⟩)
          | fail)
        (first
          | (refine step_append_byt (by rfl) (.tmp 27) (.tmp 28) (by rfl) (by rfl) (by rfl) ho1 (hv5.below hB1) (by simp; omega) hB1.size ?_; intro v2 w2 hown2 hg2 _; have hB2 : Below w5.heap.size w5 w2 := hB1.grown hg2 hB1.size (fun q hq => (World.ownsRow.lt ho1 q hq).1))
          | (go_at_call 12; have CB := bytes_any d w2 ⟨hd5.n, hd5.v.below hB2, hd5.h⟩ (by omega); rw [HC.out] at CB; refine CB.mono ?_; clear CB; rintro e w3 ⟨v3, rfl, hown3, hb3⟩; have hB3 : Below w5.heap.size w5 w3 := hB2.trans (hb3.mono hB2.size))
          | (refine step_append_byt (by rfl) (.tmp 29) (.tmp 31) (by rfl) (by rfl) (by rfl) (hown2.below hb3) hown3.byt (by simp; omega) hB3.size ?_; intro v4 w4 hown4 hg4 _; have hB4 : Below w5.heap.size w5 w4 := hB3.grown hg4 hB3.size (fun q hq => (World.ownsRow.lt hown2 q hq).1))
          | (go_at_call 11; refine (same_yes _ _ (l ++ d.enc) _ (hbyt5.below hB4) hown4.byt).mono ?_; rintro e w' ⟨rfl, n5, rfl⟩; have hB5 : Below w5.heap.size w5 (w4.drewN n5) := below_drewN hB4 n5)
          | (go_at_call 7; refine (awake_any _).mono ?_; rintro e w6 ⟨rfl, hb6⟩; have hB6 : Below w5.heap.size w5 w6 := hB5.trans (hb6.mono hB5.size))
          | fail)
      go_wp2_with fail
      go_ret
      exact ⟨rfl, hbw5.trans (hB6.mono (by omega))⟩
end Go.Proofs.Ytggonealcpbonaa
