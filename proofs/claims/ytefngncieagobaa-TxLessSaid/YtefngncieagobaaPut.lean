/-
  octet.Num, octet.Text give the bytes with a number's, a text's behind, in a row of their own.
-/
import Derived.Test.YtefngncieagobaaJoin
import Derived.Test.YtefngncieagobaaDigits
namespace Go.Proofs.Ytefngncieagobaa
open Go.RowKit

theorem join1 (u : Value) (l : List UInt8) (g c : Nat) (w : World) (hg : g < w.heap.size) (c0 : w.cell? ⟨g, 0, none⟩ = some u) (hu : Byt w u l) (hs : l.length ≤ 1099511627776) :
    Calls Try.prog 13 #[.slice (some ⟨g, 0, none⟩) 1 c] w fun e w' => ∃ v, e = .returned v ∧ Own w.heap.size w' v l ∧ Below w.heap.size w w' := by
  have h := join_any [l] (fun _ => u) g 1 c w rfl hg (fun j hj => by
    match j, hj with
    | 0, _ => exact c0) (fun j hj => by
    match j, hj with
    | 0, _ => exact hu) (by simpa using hs) (by omega)
  simpa using h
theorem join2 (u v : Value) (l m : List UInt8) (g c : Nat) (w : World) (hg : g < w.heap.size) (c0 : w.cell? ⟨g, 0, none⟩ = some u) (c1 : w.cell? ⟨g, 1, none⟩ = some v) (hu : Byt w u l) (hv : Byt w v m) (hs : l.length + m.length ≤ 1099511627776) :
    Calls Try.prog 13 #[.slice (some ⟨g, 0, none⟩) 2 c] w fun e w' => ∃ x, e = .returned x ∧ Own w.heap.size w' x (l ++ m) ∧ Below w.heap.size w w' := by
  have h := join_any [l, m] (fun j => if j = 0 then u else v) g 2 c w rfl hg (fun j hj => by
    match j, hj with
    | 0, _ => exact c0
    | 1, _ => exact c1) (fun j hj => by
    match j, hj with
    | 0, _ => exact hu
    | 1, _ => exact hv) (by simpa using hs) (by omega)
  simpa using h
theorem join3 (u v x : Value) (l m n : List UInt8) (g c : Nat) (w : World) (hg : g < w.heap.size) (c0 : w.cell? ⟨g, 0, none⟩ = some u) (c1 : w.cell? ⟨g, 1, none⟩ = some v) (c2 : w.cell? ⟨g, 2, none⟩ = some x)
    (hu : Byt w u l) (hv : Byt w v m) (hx : Byt w x n) (hs : l.length + (m.length + n.length) ≤ 1099511627776) :
    Calls Try.prog 13 #[.slice (some ⟨g, 0, none⟩) 3 c] w fun e w' => ∃ y, e = .returned y ∧ Own w.heap.size w' y (l ++ (m ++ n)) ∧ Below w.heap.size w w' := by
  have h := join_any [l, m, n] (fun j => if j = 0 then u else if j = 1 then v else x) g 3 c w rfl hg (fun j hj => by
    match j, hj with
    | 0, _ => exact c0
    | 1, _ => exact c1
    | 2, _ => exact c2) (fun j hj => by
    match j, hj with
    | 0, _ => exact hu
    | 1, _ => exact hv
    | 2, _ => exact hx) (by simpa using hs) (by omega)
  simpa using h


set_option maxHeartbeats 800000 in
theorem num_any (v : Value) (l : List UInt8) (n : Int) (w : World) (hv : Byt w v l) (h0 : 0 ≤ n) (h1 : n < 18446744073709551616) (hs : l.length ≤ 1099511627000) :
    Calls Try.prog 35 #[v, .int .u64 n] w fun e w' => ∃ x, e = .returned x ∧ Own w.heap.size w' x (l ++ dg n.toNat) ∧ Below w.heap.size w w' := by
  have hL := dg_len10 (n := n.toNat) (by omega)
  obtain ⟨A, c, rfl⟩ := hv.shape
  go_enter Try.func35, Try.ntmps35
  go_wp2_with fail
  refine (digits_any n w h0 h1).mono ?_
  rintro e w1 ⟨v1, rfl, hown1, hb1⟩
  have hbs := hb1.size
  obtain ⟨A1, c1, rfl⟩ := hown1.byt.shape
  go_wp2_with fail
  refine (join2 _ _ l (dg n.toNat) w1.heap.size 2 (w1.alloc (.cells #[.slice A l.length c, .slice A1 (dg n.toNat).length c1] 22)) (by simp) (by simp) (by simp) ((hv.below hb1).alloc _) (hown1.byt.alloc _) (by omega)).mono ?_
  rintro e w2 ⟨x, rfl, hown2, hb2⟩
  go_wp2_with fail
  go_ret
  exact ⟨x, rfl, hown2.more (by simp; omega), hb1.trans ((Below.alloc (Below.refl _ _) hbs _).trans (hb2.mono (by simp; omega)))⟩

/-- A text that is not too long: its bytes; one that is: those of its beginning. -/
def cutText (t : List UInt8) : List UInt8 := t.take 65536

set_option maxHeartbeats 800000 in
theorem text_any (v u : Value) (l t : List UInt8) (w : World) (hv : Byt w v l) (hu : Byt w u t) (hs : l.length ≤ 1099511000000) (ht : t.length ≤ 65536) :
    Calls Try.prog 32 #[v, u] w fun e w' => ∃ x, e = .returned x ∧ Own w.heap.size w' x (l ++ tx t) ∧ Below w.heap.size w w' := by
  have hL := dg_len10 (n := t.length) (by omega)
  obtain ⟨A, c, rfl⟩ := hv.shape
  obtain ⟨B, d, rfl, hd, hd2, hrd⟩ := hu
  have hu1 : Byt w (.slice B t.length d) t := ⟨B, d, rfl, hd, hd2, hrd⟩
  go_enter Try.func32, Try.ntmps32
  go_wp2_with fail
  refine (digits_any (t.length : Int) w (by omega) (by omega)).mono ?_
  rintro e w1 ⟨v1, rfl, hown1, hb1⟩
  rw [Int.toNat_natCast] at hown1
  have hbs := hb1.size
  obtain ⟨A1, c1, rfl⟩ := hown1.byt.shape
  go_wp2_with fail
  refine (join3 _ _ _ l (dg t.length) t w1.heap.size 3 (w1.alloc (.cells #[.slice A l.length c, .slice A1 (dg t.length).length c1, .slice B t.length d] 22)) (by simp) (by simp) (by simp) (by simp) ((hv.below hb1).alloc _) (hown1.byt.alloc _) ((hu1.below hb1).alloc _) (by omega)).mono ?_
  rintro e w2 ⟨x, rfl, hown2, hb2⟩
  go_wp2_with fail
  go_ret
  exact ⟨x, rfl, hown2.more (by simp; omega), hb1.trans ((Below.alloc (Below.refl _ _) hbs _).trans (hb2.mono (by simp; omega)))⟩
end Go.Proofs.Ytefngncieagobaa
