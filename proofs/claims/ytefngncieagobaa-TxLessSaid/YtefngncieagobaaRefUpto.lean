/-
  The document's answers for what is read of a number up to a most, and of a text.
-/
import Derived.Test.YtefngncieagobaaRefRead
namespace Go.Proofs.Ytefngncieagobaa
open Go.RowKit

/-- What is said of a reading of a number up to a most. -/
def RefUpto (w : World) (A : Option Addr) (c : Nat) (l : List UInt8) (res : Nat × Nat × Bool) (e : Ending) (w' : World) : Prop :=
  e = .returned (.tuple #[rv A l.length c res.2.1 (!res.2.2), .int .i64 (res.1 : Int)]) ∧ Below w.heap.size w w'

set_option maxHeartbeats 3200000 in
theorem refUpto_bad (A : Option Addr) (c p : Nat) (r : Bool) (l : List UInt8) (most : Int) (w : World) (hv : Byt w (.slice A l.length c) l) (hp : p ≤ l.length) (hl : l.length ≤ 1099511627776)
    (n p' : Nat) (r' : Bool) (hrd : rdNum 18446744073709551615 l p r = (n, p', r')) (hm0 : -9223372036854775808 ≤ most) (hm1 : most ≤ 9223372036854775807)
    (hbad : r' = false ∨ (r' = true ∧ most < 0) ∨ (r' = true ∧ 0 ≤ most ∧ most < (n : Int))) (_hn : n < 18446744073709551616) :
    Calls Try.prog 18 #[.agg #[.slice A l.length c, .int .i64 (p : Int), .bool (!r)], .int .i64 most] w (RefUpto w A c l (0, p, false)) := by
  have HRD := hid hrd
  have hbw : Below w.heap.size w ((w.alloc (.cells #[.slice A l.length c, .int .i64 (p : Int), .bool (!r)] 31)).alloc (.cells #[.slice none 0 0, .int .i64 0, .bool false] 31)) := ((Below.refl _ _).alloc (Nat.le_refl _) _).alloc (by simp) _
  have hX0 := heap_alloc2_old w (.cells #[.slice A l.length c, .int .i64 (p : Int), .bool (!r)] 31) (.cells #[.slice none 0 0, .int .i64 0, .bool false] 31)
  have hX1 := heap_alloc2_new w (.cells #[.slice A l.length c, .int .i64 (p : Int), .bool (!r)] 31) (.cells #[.slice none 0 0, .int .i64 0, .bool false] 31)
  have hv0 := hv.below hbw
  have hlt : w.heap.size + 1 < ((w.alloc (.cells #[.slice A l.length c, .int .i64 (p : Int), .bool (!r)] 31)).alloc (.cells #[.slice none 0 0, .int .i64 0, .bool false] 31)).heap.size := by simp
  have Hbw := hid hbw
  have HX0 := hid hX0
  have HX1 := hid hX1
  clear hrd hX0 hX1 hbw
  go_enter Try.func18, Try.ntmps18
  go_wp2_with fail
  generalize ((w.alloc (.cells #[.slice A l.length c, .int .i64 (p : Int), .bool (!r)] 31)).alloc (.cells #[.slice none 0 0, .int .i64 0, .bool false] 31)) = w0 at *
  have C := refReadNum_any A c p r l w0 hv0 hp hl
  rw [HRD.out] at C
  refine C.mono ?_
  clear C
  rintro e w1 ⟨rfl, hb1⟩
  unfold rv
  have G0 := (hb1.block _ (by omega)).trans HX0.out
  have G1 := (hb1.block _ (by omega)).trans HX1.out
  have hbw1 : Below w.heap.size w w1 := Hbw.out.trans (hb1.mono (by omega))
  have hs1 := hb1.size
  have j0 := cell_blk G0 0
  have j1 := cell_blk G0 1
  have j2 := cell_blk G0 2
  have f2 := free_blk G0 2
  have i0 := cell_blk G1 0
  have i1 := cell_blk G1 1
  have i2 := cell_blk G1 2
  have g0 := free_blk G1 0
  have g1 := free_blk G1 1
  have g2 := free_blk G1 2
  simp at j0 j1 j2 i0 i1 i2
  have hl0 : w.heap.size < w1.heap.size := by omega
  have hl1 : w.heap.size + 1 < w1.heap.size := by omega
  clear G0 G1 hb1 hv0 HX0 HX1 Hbw hv
  rcases hbad with hb | ⟨rfl, hneg⟩ | ⟨rfl, hpos, hbig⟩
  · subst hb
    go_wp2_with fail
    refine bodyPost_ret (v := .tuple #[.agg #[.slice A l.length c, .int .i64 (p : Int), .bool true], .int .i64 0]) (by simp [results, Try.results18, go_sem, i0, i1, i2, hl1]) rfl ⟨rfl, ?_⟩
    go_grown
  · go_wp2_with fail
    refine bodyPost_ret (v := .tuple #[.agg #[.slice A l.length c, .int .i64 (p : Int), .bool true], .int .i64 0]) (by simp [results, Try.results18, go_sem, i0, i1, i2, hl1]) rfl ⟨rfl, ?_⟩
    go_grown
  · have hnn : ¬ most < 0 := by omega
    go_wp2_with fail
    refine bodyPost_ret (v := .tuple #[.agg #[.slice A l.length c, .int .i64 (p : Int), .bool true], .int .i64 0]) (by simp [results, Try.results18, go_sem, i0, i1, i2, hl1]) rfl ⟨rfl, ?_⟩
    go_grown

set_option maxHeartbeats 3200000 in
theorem refUpto_yes (A : Option Addr) (c p : Nat) (r : Bool) (l : List UInt8) (most : Int) (w : World) (hv : Byt w (.slice A l.length c) l) (hp : p ≤ l.length) (hl : l.length ≤ 1099511627776)
    (n p' : Nat) (hrd : rdNum 18446744073709551615 l p r = (n, p', true)) (hm1 : most ≤ 9223372036854775807) (hle : (n : Int) ≤ most) :
    Calls Try.prog 18 #[.agg #[.slice A l.length c, .int .i64 (p : Int), .bool (!r)], .int .i64 most] w (RefUpto w A c l (n, p', true)) := by
  have HRD := hid hrd
  have hbw : Below w.heap.size w ((w.alloc (.cells #[.slice A l.length c, .int .i64 (p : Int), .bool (!r)] 31)).alloc (.cells #[.slice none 0 0, .int .i64 0, .bool false] 31)) := ((Below.refl _ _).alloc (Nat.le_refl _) _).alloc (by simp) _
  have hX1 := heap_alloc2_new w (.cells #[.slice A l.length c, .int .i64 (p : Int), .bool (!r)] 31) (.cells #[.slice none 0 0, .int .i64 0, .bool false] 31)
  have hv0 := hv.below hbw
  have hlt : w.heap.size + 1 < ((w.alloc (.cells #[.slice A l.length c, .int .i64 (p : Int), .bool (!r)] 31)).alloc (.cells #[.slice none 0 0, .int .i64 0, .bool false] 31)).heap.size := by simp
  have Hbw := hid hbw
  have HX1 := hid hX1
  have h0 : 0 ≤ most := by omega
  clear hrd hX1 hbw
  go_enter Try.func18, Try.ntmps18
  go_wp2_with fail
  generalize ((w.alloc (.cells #[.slice A l.length c, .int .i64 (p : Int), .bool (!r)] 31)).alloc (.cells #[.slice none 0 0, .int .i64 0, .bool false] 31)) = w0 at *
  have C := refReadNum_any A c p r l w0 hv0 hp hl
  rw [HRD.out] at C
  refine C.mono ?_
  clear C
  rintro e w1 ⟨rfl, hb1⟩
  unfold rv
  have G1 := (hb1.block _ (by omega)).trans HX1.out
  have hbw1 : Below w.heap.size w w1 := Hbw.out.trans (hb1.mono (by omega))
  have hs1 := hb1.size
  have i0 := cell_blk G1 0
  have i1 := cell_blk G1 1
  have i2 := cell_blk G1 2
  have g0 := free_blk G1 0
  have g1 := free_blk G1 1
  have g2 := free_blk G1 2
  simp at i0 i1 i2
  have hl1 : w.heap.size + 1 < w1.heap.size := by omega
  have hnn : ¬ most < 0 := by omega
  have hnb : ¬ most < (n : Int) := by omega
  clear G1 hb1 hv0 HX1 Hbw hv
  go_wp2_with fail
  refine bodyPost_ret (v := .tuple #[.agg #[.slice A l.length c, .int .i64 (p' : Int), .bool false], .int .i64 (n : Int)]) (by simp [results, Try.results18, go_sem, i0, i1, i2, hl1]) rfl ⟨rfl, ?_⟩
  go_grown

theorem refUpto_any (A : Option Addr) (c p : Nat) (r : Bool) (l : List UInt8) (most : Int) (w : World) (hv : Byt w (.slice A l.length c) l) (hp : p ≤ l.length) (hl : l.length ≤ 1099511627776)
    (hm0 : -9223372036854775808 ≤ most) (hm1 : most ≤ 9223372036854775807) :
    Calls Try.prog 18 #[.agg #[.slice A l.length c, .int .i64 (p : Int), .bool (!r)], .int .i64 most] w (RefUpto w A c l (rdUpto most l p r)) := by
  cases r with
  | false =>
    have e : rdUpto most l p false = (0, p, false) := by unfold rdUpto; split; rfl; exact rdNum_bad _ _ _
    rw [e]
    exact refUpto_bad A c p false l most w hv hp hl 0 p false (rdNum_bad _ _ _) hm0 hm1 (.inl rfl) (by omega)
  | true =>
    cases hf : frst (l.drop p) with
    | none =>
      have e : rdUpto most l p true = (0, p, false) := by unfold rdUpto; split; rfl; exact rdNum_no hf
      rw [e]
      exact refUpto_bad A c p true l most w hv hp hl 0 p false (rdNum_no hf) hm0 hm1 (.inl rfl) (by omega)
    | some n =>
      have hn := (frst_some hf).1
      have hrd : rdNum 18446744073709551615 l p true = (n, p + (dg n).length, true) := rdNum_yes hf (by omega)
      by_cases hneg : most < 0
      · have e : rdUpto most l p true = (0, p, false) := by unfold rdUpto; rw [if_pos hneg]
        rw [e]
        exact refUpto_bad A c p true l most w hv hp hl n _ true hrd hm0 hm1 (.inr (.inl ⟨rfl, hneg⟩)) hn
      · by_cases hle : n ≤ most.toNat
        · have e : rdUpto most l p true = (n, p + (dg n).length, true) := by unfold rdUpto; rw [if_neg hneg, rdNum_yes hf hle]
          rw [e]
          exact refUpto_yes A c p true l most w hv hp hl n _ hrd hm1 (by omega)
        · have e : rdUpto most l p true = (0, p, false) := by unfold rdUpto; rw [if_neg hneg, rdNum_big hf hle]
          rw [e]
          exact refUpto_bad A c p true l most w hv hp hl n _ true hrd hm0 hm1 (.inr (.inr ⟨rfl, by omega, by omega⟩)) hn
end Go.Proofs.Ytefngncieagobaa
