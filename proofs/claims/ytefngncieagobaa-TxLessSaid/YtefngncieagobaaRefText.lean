/-
  The document's answer for what is read of a text: tithingref01.ReadText.
-/
import Derived.Test.YtefngncieagobaaRefUpto
namespace Go.Proofs.Ytefngncieagobaa
open Go.RowKit

theorem Own.set {B g : Nat} {w : World} {v : Value} {l : List UInt8} (h : Own B w v l) (hne : v.ownBlock ≠ some g) (i : Nat) (u : Value) : Own B (w.setCell ⟨g, i, none⟩ u) v l := ownsRow_setCell_other h hne u

/-- What is said of a reading of a text. -/
def RefText (w : World) (A : Option Addr) (c : Nat) (l : List UInt8) (res : List UInt8 × Nat × Bool) (e : Ending) (w' : World) : Prop :=
  ∃ v, e = .returned (.tuple #[rv A l.length c res.2.1 (!res.2.2), v]) ∧ Own w.heap.size w' v res.1 ∧ Below w.heap.size w w'

set_option maxHeartbeats 3200000 in
theorem refText_bad (A : Option Addr) (c p : Nat) (r : Bool) (l : List UInt8) (w : World) (hv : Byt w (.slice A l.length c) l) (hp : p ≤ l.length) (hl : l.length ≤ 1099511627776)
    (n p' : Nat) (r' : Bool) (hrd : rdUpto 65536 l p r = (n, p', r')) (hp' : p' ≤ l.length) (hbad : r' = false ∨ (r' = true ∧ (l.length : Int) - (p' : Int) < (n : Int))) :
    Calls Try.prog 19 #[.agg #[.slice A l.length c, .int .i64 (p : Int), .bool (!r)]] w (RefText w A c l ([], p, false)) := by
  have HRD := hid hrd
  have hbw : Below w.heap.size w ((w.alloc (.cells #[.slice A l.length c, .int .i64 (p : Int), .bool (!r)] 31)).alloc (.cells #[.slice none 0 0, .int .i64 0, .bool false] 31)) := ((Below.refl _ _).alloc (Nat.le_refl _) _).alloc (by simp) _
  have hX0 := heap_alloc2_old w (.cells #[.slice A l.length c, .int .i64 (p : Int), .bool (!r)] 31) (.cells #[.slice none 0 0, .int .i64 0, .bool false] 31)
  have hX1 := heap_alloc2_new w (.cells #[.slice A l.length c, .int .i64 (p : Int), .bool (!r)] 31) (.cells #[.slice none 0 0, .int .i64 0, .bool false] 31)
  have hv0 := hv.below hbw
  have hlt : w.heap.size + 1 < ((w.alloc (.cells #[.slice A l.length c, .int .i64 (p : Int), .bool (!r)] 31)).alloc (.cells #[.slice none 0 0, .int .i64 0, .bool false] 31)).heap.size := by simp
  have Hbw := hid hbw
  have HX0 := hid hX0
  have HX1 := hid hX1
  clear hrd hX0 hX1 hbw
  go_enter Try.func19, Try.ntmps19
  go_wp2_with fail
  generalize ((w.alloc (.cells #[.slice A l.length c, .int .i64 (p : Int), .bool (!r)] 31)).alloc (.cells #[.slice none 0 0, .int .i64 0, .bool false] 31)) = w0 at *
  have C := refUpto_any A c p r l 65536 w0 hv0 hp hl (by omega) (by omega)
  rw [HRD.out] at C
  refine C.mono ?_
  clear C
  rintro e w1 ⟨rfl, hb1⟩
  unfold rv
  have G0 := (hb1.block _ (by omega)).trans HX0.out
  have G1 := (hb1.block _ (by omega)).trans HX1.out
  have hbw1 : Below w.heap.size w w1 := Hbw.out.trans (hb1.mono (by omega))
  have hs1 := hb1.size
  have j0 := cell_blk G0 0
  have j1 := cell_blk G0 1
  have j2 := cell_blk G0 2
  have f2 := free_blk G0 2
  have i0 := cell_blk G1 0
  have i1 := cell_blk G1 1
  have i2 := cell_blk G1 2
  have g0 := free_blk G1 0
  have g1 := free_blk G1 1
  have g2 := free_blk G1 2
  simp at j0 j1 j2 i0 i1 i2
  have hl0 : w.heap.size < w1.heap.size := by omega
  have hl1 : w.heap.size + 1 < w1.heap.size := by omega
  clear G0 G1 hb1 hv0 HX0 HX1 Hbw hv
  rcases hbad with hb | ⟨rfl, hbig⟩
  · subst hb
    go_wp2_with fail
    refine bodyPost_ret (v := .tuple #[.agg #[.slice A l.length c, .int .i64 (p : Int), .bool true], .slice none 0 0]) (by simp [results, Try.results19, go_sem, i0, i1, i2, hl1]) rfl ⟨_, rfl, Own.nil _ _, ?_⟩
    go_grown
  · go_wp2_with fail
    refine bodyPost_ret (v := .tuple #[.agg #[.slice A l.length c, .int .i64 (p : Int), .bool true], .slice none 0 0]) (by simp [results, Try.results19, go_sem, i0, i1, i2, hl1]) rfl ⟨_, rfl, Own.nil _ _, ?_⟩
    go_grown

set_option maxHeartbeats 3200000 in
theorem refText_yes (A : Option Addr) (c p : Nat) (r : Bool) (l : List UInt8) (w : World) (hv : Byt w (.slice A l.length c) l) (hp : p ≤ l.length) (hl : l.length ≤ 1099511627776)
    (n p' : Nat) (hrd : rdUpto 65536 l p r = (n, p', true)) (hle : p' + n ≤ l.length) :
    Calls Try.prog 19 #[.agg #[.slice A l.length c, .int .i64 (p : Int), .bool (!r)]] w (RefText w A c l ((l.drop p').take n, p' + n, true)) := by
  have HRD := hid hrd
  have hbw : Below w.heap.size w ((w.alloc (.cells #[.slice A l.length c, .int .i64 (p : Int), .bool (!r)] 31)).alloc (.cells #[.slice none 0 0, .int .i64 0, .bool false] 31)) := ((Below.refl _ _).alloc (Nat.le_refl _) _).alloc (by simp) _
  have hX1 := heap_alloc2_new w (.cells #[.slice A l.length c, .int .i64 (p : Int), .bool (!r)] 31) (.cells #[.slice none 0 0, .int .i64 0, .bool false] 31)
  have hv0 := hv.below hbw
  have hlt : w.heap.size + 1 < ((w.alloc (.cells #[.slice A l.length c, .int .i64 (p : Int), .bool (!r)] 31)).alloc (.cells #[.slice none 0 0, .int .i64 0, .bool false] 31)).heap.size := by simp
  have Hbw := hid hbw
  have HX1 := hid hX1
  have hlc := hv.at_.2.1
  have hcm := hv.at_.2.2.1
  unfold maxLen at hcm
  clear hrd hX1 hbw
  go_enter Try.func19, Try.ntmps19
  go_wp2_with fail
  generalize ((w.alloc (.cells #[.slice A l.length c, .int .i64 (p : Int), .bool (!r)] 31)).alloc (.cells #[.slice none 0 0, .int .i64 0, .bool false] 31)) = w0 at *
  have C := refUpto_any A c p r l 65536 w0 hv0 hp hl (by omega) (by omega)
  rw [HRD.out] at C
  refine C.mono ?_
  clear C
  rintro e w1 ⟨rfl, hb1⟩
  unfold rv
  have G1 := (hb1.block _ (by omega)).trans HX1.out
  have hbw1 : Below w.heap.size w w1 := Hbw.out.trans (hb1.mono (by omega))
  have hs1 := hb1.size
  have hl1 : w.heap.size + 1 < w1.heap.size := by omega
  have hmid := (hv.below hbw1).mid hle
  have hmidl : ((l.drop p').take n).length = n := by rw [List.length_take, List.length_drop]; omega
  have hnb : ¬ (l.length : Int) - (p' : Int) < (n : Int) := by omega
  obtain ⟨X, HX⟩ : ∃ X, Hid ((if c = p' then A else Option.map (fun x => x.add p') A) = X) := ⟨_, hid rfl⟩
  rw [HX.out] at hmid
  have eX := HX.out
  have s1 : 0 ≤ (p' : Int) + (n : Int) := by omega
  have s2 : (p' : Int) + (n : Int) ≤ (c : Int) := by omega
  have s3 : (p' : Int) ≤ (p' : Int) + (n : Int) := by omega
  have s4 : ((p' : Int) + (n : Int)).toNat = p' + n := by omega
  have H1 := hid G1
  have HM := hid hmidl
  have hmid2 : Byt ((w1.alloc (.cells #[.slice A l.length c, .int .i64 (p' : Int), .bool false] 31)).alloc (.cells #[] 5)) (.slice X n (c - p')) ((l.drop p').take n) := (hmid.alloc _).alloc _
  have ho : Own w.heap.size ((w1.alloc (.cells #[.slice A l.length c, .int .i64 (p' : Int), .bool false] 31)).alloc (.cells #[] 5)) (.slice (some ⟨w1.heap.size + 1, 0, none⟩) 0 0) [] := by
    have := World.ownsRow_made (base := w.heap.size) (e := 5) (size := 1) (w1.alloc (.cells #[.slice A l.length c, .int .i64 (p' : Int), .bool false] 31)) #[] 0 (by simp; omega) (Nat.zero_le _) rfl
    rw [World.size_alloc] at this
    exact this
  have hbw2 : Below w.heap.size w ((w1.alloc (.cells #[.slice A l.length c, .int .i64 (p' : Int), .bool false] 31)).alloc (.cells #[] 5)) := (hbw1.alloc (by omega) _).alloc (by simp; omega) _
  have HX2 := hid ((Below.heap_alloc (w1.alloc (.cells #[.slice A l.length c, .int .i64 (p' : Int), .bool false] 31)) (.cells #[] 5) w1.heap.size (by simp)).trans (heap_alloc_new w1 _))
  have HG2 := hid ((Below.heap_alloc (w1.alloc (.cells #[.slice A l.length c, .int .i64 (p' : Int), .bool false] 31)) (.cells #[] 5) (w.heap.size + 1) (by simp; omega)).trans ((Below.heap_alloc w1 _ (w.heap.size + 1) hl1).trans H1.out))
  have hnl : ([] : List UInt8).length + ((l.drop p').take n).length ≤ 140737488355328 := by rw [hmidl]; simp; omega
  clear G1 hb1 hv0 HX1 Hbw hv hmid hmidl
  go_wp2_with (at_builtin; refine wpList_append_byt rfl (.tmp 26) (.tmp 35) rfl rfl rfl ho hmid2 hnl hbw2.size ?_; intro v3 w3 hown3 hg3' _; have hg3 : World.grownBy _ w3 (some (w1.heap.size + 1)) := hg3'; have x3 := (hg3.block w1.heap.size (by simp; omega) (by simp)).trans HX2.out; have y3 := (hg3.block (w.heap.size + 1) (by simp; omega) (by simp; omega)).trans HG2.out; have x0 := cell_blk x3 0; have x1 := cell_blk x3 1; have x2 := cell_blk x3 2; have xf := free_blk x3 1; have i0 := cell_blk y3 0; have i1 := cell_blk y3 1; have i2 := cell_blk y3 2; have g0 := free_blk y3 0; have g1 := free_blk y3 1; have g2 := free_blk y3 2; simp at x0 x1 x2 i0 i1 i2; have hb3 : Below w.heap.size w w3 := hbw2.grown hg3 hbw2.size (fun q hq => by injection hq; omega); have hl3 : w1.heap.size ≠ w.heap.size + 1 := by omega)
  have n1 : v3.ownBlock ≠ some w1.heap.size := own_ne hown3 x3 (by decide)
  have n2 : v3.ownBlock ≠ some (w.heap.size + 1) := own_ne hown3 y3 (by decide)
  refine bodyPost_ret (v := .tuple #[.agg #[.slice A l.length c, .int .i64 ((p' : Int) + (n : Int)), .bool false], v3]) (by simp [results, Try.results19, go_sem, i0, i1, i2]) rfl ⟨v3, by unfold rv; simp only [Bool.not_true, Int.natCast_add], ?_, ?_⟩
  · rw [List.nil_append] at hown3
    exact (((hown3.set n1 _ _).set n2 _ _).set n2 _ _).set n2 _ _
  · go_grown

theorem refText_any (A : Option Addr) (c p : Nat) (r : Bool) (l : List UInt8) (w : World) (hv : Byt w (.slice A l.length c) l) (hp : p ≤ l.length) (hl : l.length ≤ 1099511627776) :
    Calls Try.prog 19 #[.agg #[.slice A l.length c, .int .i64 (p : Int), .bool (!r)]] w (RefText w A c l (rdText l p r)) := by
  cases r with
  | false =>
    rw [rdText_bad]
    exact refText_bad A c p false l w hv hp hl 0 p false (by unfold rdUpto; rw [if_neg (by omega)]; exact rdNum_bad _ _ _) hp (.inl rfl)
  | true =>
    cases hf : frst (l.drop p) with
    | none =>
      rw [rdText_no hf]
      exact refText_bad A c p true l w hv hp hl 0 p false (by unfold rdUpto; rw [if_neg (by omega)]; exact rdNum_no hf) hp (.inl rfl)
    | some n =>
      have hpl := (frst_some hf).2.length_le
      have hkp := dg_pos n
      rw [List.length_drop] at hpl
      by_cases hle : n ≤ 65536
      · have hrd : rdUpto 65536 l p true = (n, p + (dg n).length, true) := by unfold rdUpto; rw [if_neg (by omega)]; exact rdNum_yes hf (by omega)
        by_cases hfit : p + (dg n).length + n ≤ l.length
        · rw [rdText_yes hf hle hfit]
          exact refText_yes A c p true l w hv hp hl n _ hrd hfit
        · rw [rdText_big hf (fun h => hfit h.2)]
          exact refText_bad A c p true l w hv hp hl n _ true hrd (by omega) (.inr ⟨rfl, by omega⟩)
      · rw [rdText_big hf (fun h => hle h.1)]
        exact refText_bad A c p true l w hv hp hl 0 p false (by unfold rdUpto; rw [if_neg (by omega)]; exact rdNum_big hf (by omega)) hp (.inl rfl)
end Go.Proofs.Ytefngncieagobaa
