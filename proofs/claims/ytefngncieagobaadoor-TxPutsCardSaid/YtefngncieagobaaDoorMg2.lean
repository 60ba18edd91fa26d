/-
  Digits Put Reader Number TxPure TxBack: what each of them says stands at its head.
-/
import Derived.Test.YtefngncieagobaaDoorMg1
import Derived.LoopTactic
import Derived.Outline
import Derived.Deep.QuietTactic
import Derived.BigQuiet
import Derived.RegionTactic
import Derived.LaidEqlPtr
/-
  octet.digits gives a number's bytes, in a row of its own.
-/
namespace Go.Proofs.YtefngncieagobaaDoor
open Go.RowKit

theorem or128 (k : Int) (h0 : 0 ≤ k) (h1 : k < 256) : bits BinOp.or IntKind.u8 k 128 = 128 + k % 128 := by
  obtain ⟨n, rfl⟩ := Int.eq_ofNat_of_zero_le h0
  have h : ∀ n : Fin 256, bits BinOp.or IntKind.u8 ((n.val : Nat) : Int) 128 = 128 + ((n.val : Nat) : Int) % 128 := by decide +kernel
  exact h ⟨n, by omega⟩

set_option maxHeartbeats 800000 in
theorem digits_any (n : Int) (w : World) (h0 : 0 ≤ n) (h1 : n < 18446744073709551616) :
    Calls Tryd.prog 42 #[.int .u64 n] w fun e w' => ∃ v, e = .returned v ∧ Own w.heap.size w' v (dg n.toNat) ∧ Below w.heap.size w w' := by
  obtain ⟨i0, hi, hz0, hz1, hz2⟩ := info_parts info_u8
  have hL := dg_len10 (n := n.toNat) (by omega)
  go_enter Tryd.func42, Tryd.ntmps42
  go_wp2_with (at_make; refine wpList_make_own _ rfl _ _ 24 rfl w.heap.size 5 i0 (.int .u8 0) 1 under_bytes hi hz0 hz1 _ _ _ 10 rfl rfl (by omega) ?b2 ?b3 (Nat.le_refl _) ?_)
  case b2 => rw [hz2]; omega
  case b3 => unfold maxLen; omega
  intro w0 hown0 hgrow0
  have hb0 : Below w.heap.size w w0 := (Below.refl _ _).grown hgrow0 (Nat.le_refl _) (fun k h => by cases h)
  have hv0 : Own w.heap.size w0 (.slice (some ⟨w.heap.size, 0, none⟩) 0 10) [] := hown0
  clear hown0 hgrow0
  go_wp2
  go_loopw [0, 3] (fun sn out wr => ∃ (m : Int) (acc : List UInt8), 0 ≤ m ∧ m < 18446744073709551616 ∧ sn = .int .u64 m ∧ Own w.heap.size wr out acc ∧ Hid (acc ++ dg m.toNat = dg n.toNat) ∧ acc.length ≤ 10 ∧ Below w.heap.size w wr)
    (fun sn _ _ => (intOf sn).toNat)
  case atStart => exact ⟨n, [], h0, h1, rfl, hv0, by simp [Hid], by simp, hb0⟩
  case round =>
    obtain ⟨m, acc, hm0, hm1, rfl, hown, heq, hal, hb⟩ := hrel
    by_cases hlt : m < 128
    · have hq : m = ((UInt8.ofNat m.toNat).toNat : Int) := by rw [UInt8.toNat_ofNat']; omega
      have hql : acc.length + [UInt8.ofNat m.toNat].length ≤ 140737488355328 := by simp; omega
      have hbs := hb.size
      have HQ := hid hq
      clear hq
      go_wp2_with (at_builtin; refine wpList_append_byt rfl (.tmp 15) (.tmp 18) rfl rfl rfl (hown.alloc _) (byt_one _ _ (UInt8.ofNat m.toNat) HQ.out) hql (by simp; omega) ?_; intro v1 w1 hown1 hg1 _)
      go_ret
      rw [dg_small (by omega)] at heq
      rw [heq.out] at hown1
      exact ⟨v1, rfl, hown1, (hb.alloc hbs _).grown hg1 (by simp; omega) (fun k hk => (World.ownsRow.lt hown k hk).1)⟩
    · have hq : bits BinOp.or IntKind.u8 (m % 256) 128 = ((UInt8.ofNat (128 + m.toNat % 128)).toNat : Int) := by
        rw [or128 _ (by omega) (by omega), UInt8.toNat_ofNat']; omega
      have hql : acc.length + [UInt8.ofNat (128 + m.toNat % 128)].length ≤ 140737488355328 := by simp; omega
      have hbs := hb.size
      have HQ := hid hq
      clear hq
      have hge : 128 ≤ m := by omega
      go_wp2_with (at_builtin; refine wpList_append_byt rfl (.tmp 7) (.tmp 11) rfl rfl rfl (hown.alloc _) (byt_one _ _ (UInt8.ofNat (128 + m.toNat % 128)) HQ.out) hql (by simp; omega) ?_; intro v1 w1 hown1 hg1 _)
      have hlen : (acc ++ [UInt8.ofNat (128 + m.toNat % 128)]).length ≤ 10 ∧ acc ++ [UInt8.ofNat (128 + m.toNat % 128)] ++ dg (m / 128).toNat = dg n.toNat := by
        have h2 := heq.out
        rw [dg_big (n := m.toNat) (by omega)] at h2
        have e : m.toNat / 128 = (m / 128).toNat := by omega
        rw [e] at h2
        have h3 := congrArg List.length h2
        have h4 := dg_pos (m / 128).toNat
        simp at h3
        exact ⟨by simp; omega, by simpa using h2⟩
      go_roundw
      case rel => exact ⟨m / 128, _, by omega, by omega, rfl, hown1, hid hlen.2, hlen.1, (hb.alloc hbs _).grown hg1 (by simp; omega) (fun k hk => (World.ownsRow.lt hown k hk).1)⟩
      case measure => simp [intOf]; omega
end Go.Proofs.YtefngncieagobaaDoor

/-
  octet.Num, octet.Text give the bytes with a number's, a text's behind, in a row of their own.
-/
namespace Go.Proofs.YtefngncieagobaaDoor
open Go.RowKit

theorem join1 (u : Value) (l : List UInt8) (g c : Nat) (w : World) (hg : g < w.heap.size) (c0 : w.cell? ⟨g, 0, none⟩ = some u) (hu : Byt w u l) (hs : l.length ≤ 1099511627776) :
    Calls Tryd.prog 25 #[.slice (some ⟨g, 0, none⟩) 1 c] w fun e w' => ∃ v, e = .returned v ∧ Own w.heap.size w' v l ∧ Below w.heap.size w w' := by
  have h := join_any [l] (fun _ => u) g 1 c w rfl hg (fun j hj => by
    match j, hj with
    | 0, _ => exact c0) (fun j hj => by
    match j, hj with
    | 0, _ => exact hu) (by simpa using hs) (by omega)
  simpa using h
theorem join2 (u v : Value) (l m : List UInt8) (g c : Nat) (w : World) (hg : g < w.heap.size) (c0 : w.cell? ⟨g, 0, none⟩ = some u) (c1 : w.cell? ⟨g, 1, none⟩ = some v) (hu : Byt w u l) (hv : Byt w v m) (hs : l.length + m.length ≤ 1099511627776) :
    Calls Tryd.prog 25 #[.slice (some ⟨g, 0, none⟩) 2 c] w fun e w' => ∃ x, e = .returned x ∧ Own w.heap.size w' x (l ++ m) ∧ Below w.heap.size w w' := by
  have h := join_any [l, m] (fun j => if j = 0 then u else v) g 2 c w rfl hg (fun j hj => by
    match j, hj with
    | 0, _ => exact c0
    | 1, _ => exact c1) (fun j hj => by
    match j, hj with
    | 0, _ => exact hu
    | 1, _ => exact hv) (by simpa using hs) (by omega)
  simpa using h
theorem join3 (u v x : Value) (l m n : List UInt8) (g c : Nat) (w : World) (hg : g < w.heap.size) (c0 : w.cell? ⟨g, 0, none⟩ = some u) (c1 : w.cell? ⟨g, 1, none⟩ = some v) (c2 : w.cell? ⟨g, 2, none⟩ = some x)
    (hu : Byt w u l) (hv : Byt w v m) (hx : Byt w x n) (hs : l.length + (m.length + n.length) ≤ 1099511627776) :
    Calls Tryd.prog 25 #[.slice (some ⟨g, 0, none⟩) 3 c] w fun e w' => ∃ y, e = .returned y ∧ Own w.heap.size w' y (l ++ (m ++ n)) ∧ Below w.heap.size w w' := by
  have h := join_any [l, m, n] (fun j => if j = 0 then u else if j = 1 then v else x) g 3 c w rfl hg (fun j hj => by
    match j, hj with
    | 0, _ => exact c0
    | 1, _ => exact c1
    | 2, _ => exact c2) (fun j hj => by
    match j, hj with
    | 0, _ => exact hu
    | 1, _ => exact hv
    | 2, _ => exact hx) (by simpa using hs) (by omega)
  simpa using h


set_option maxHeartbeats 800000 in
theorem num_any (v : Value) (l : List UInt8) (n : Int) (w : World) (hv : Byt w v l) (h0 : 0 ≤ n) (h1 : n < 18446744073709551616) (hs : l.length ≤ 1099511627000) :
    Calls Tryd.prog 41 #[v, .int .u64 n] w fun e w' => ∃ x, e = .returned x ∧ Own w.heap.size w' x (l ++ dg n.toNat) ∧ Below w.heap.size w w' := by
  have hL := dg_len10 (n := n.toNat) (by omega)
  obtain ⟨A, c, rfl⟩ := hv.shape
  go_enter Tryd.func41, Tryd.ntmps41
  go_wp2_with fail
  refine (digits_any n w h0 h1).mono ?_
  rintro e w1 ⟨v1, rfl, hown1, hb1⟩
  have hbs := hb1.size
  obtain ⟨A1, c1, rfl⟩ := hown1.byt.shape
  go_wp2_with fail
  refine (join2 _ _ l (dg n.toNat) w1.heap.size 2 (w1.alloc (.cells #[.slice A l.length c, .slice A1 (dg n.toNat).length c1] 24)) (by simp) (by simp) (by simp) ((hv.below hb1).alloc _) (hown1.byt.alloc _) (by omega)).mono ?_
  rintro e w2 ⟨x, rfl, hown2, hb2⟩
  go_wp2_with fail
  go_ret
  exact ⟨x, rfl, hown2.more (by simp; omega), hb1.trans ((Below.alloc (Below.refl _ _) hbs _).trans (hb2.mono (by simp; omega)))⟩

/-- A text that is not too long: its bytes; one that is: those of its beginning. -/
def cutText (t : List UInt8) : List UInt8 := t.take 65536

set_option maxHeartbeats 800000 in
theorem text_any (v u : Value) (l t : List UInt8) (w : World) (hv : Byt w v l) (hu : Byt w u t) (hs : l.length ≤ 1099511000000) (ht : t.length ≤ 65536) :
    Calls Tryd.prog 31 #[v, u] w fun e w' => ∃ x, e = .returned x ∧ Own w.heap.size w' x (l ++ tx t) ∧ Below w.heap.size w w' := by
  have hL := dg_len10 (n := t.length) (by omega)
  obtain ⟨A, c, rfl⟩ := hv.shape
  obtain ⟨B, d, rfl, hd, hd2, hrd⟩ := hu
  have hu1 : Byt w (.slice B t.length d) t := ⟨B, d, rfl, hd, hd2, hrd⟩
  go_enter Tryd.func31, Tryd.ntmps31
  go_wp2_with fail
  refine (digits_any (t.length : Int) w (by omega) (by omega)).mono ?_
  rintro e w1 ⟨v1, rfl, hown1, hb1⟩
  rw [Int.toNat_natCast] at hown1
  have hbs := hb1.size
  obtain ⟨A1, c1, rfl⟩ := hown1.byt.shape
  go_wp2_with fail
  refine (join3 _ _ _ l (dg t.length) t w1.heap.size 3 (w1.alloc (.cells #[.slice A l.length c, .slice A1 (dg t.length).length c1, .slice B t.length d] 24)) (by simp) (by simp) (by simp) (by simp) ((hv.below hb1).alloc _) (hown1.byt.alloc _) ((hu1.below hb1).alloc _) (by omega)).mono ?_
  rintro e w2 ⟨x, rfl, hown2, hb2⟩
  go_wp2_with fail
  go_ret
  exact ⟨x, rfl, hown2.more (by simp; omega), hb1.trans ((Below.alloc (Below.refl _ _) hbs _).trans (hb2.mono (by simp; omega)))⟩
end Go.Proofs.YtefngncieagobaaDoor

/-
  octet.Reader in memory: what Read makes, and what Wrong, Left, Done, fail tell of it and leave.
-/
namespace Go.Proofs.YtefngncieagobaaDoor
open Go.RowKit

theorem cell_blk {w : World} {g : Nat} {cs : Array Value} {t : TypeId} (h : w.heap[g]? = some (.cells cs t (0, 0))) (i : Nat) : w.cell? ⟨g, i, none⟩ = cs[i]? := cell_of_row w g i cs t (0, 0) h
theorem free_blk {w : World} {g : Nat} {cs : Array Value} {t : TypeId} (h : w.heap[g]? = some (.cells cs t (0, 0))) (i : Nat) : w.frozen? ⟨g, i, none⟩ = false := by simp [World.frozen?, h]
theorem set_blk {w : World} {g : Nat} {cs : Array Value} {t : TypeId} (h : w.heap[g]? = some (.cells cs t (0, 0))) (i : Nat) (u : Value) : (w.setCell ⟨g, i, none⟩ u).heap[g]? = some (.cells (cs.setIfInBounds i u) t (0, 0)) := by
  simp [World.setCell, Array.getElem?_modify, h]

/-- Block g is a reader of the bytes l, at place p, right or not. -/
structure Rdr (w : World) (g : Nat) (l : List UInt8) (p : Nat) (r : Bool) : Prop where
  ex : ∃ A c, Own 0 w (.slice A l.length c) l ∧ w.heap[g]? = some (.cells #[.slice A l.length c, .int .i64 (p : Int), .bool r] 50 (0, 0))
  le : p ≤ l.length

section
variable {w w' : World} {g : Nat} {l : List UInt8} {p : Nat} {r : Bool}
theorem own_ne {B : Nat} {v : Value} {m : List UInt8} {cs : Array Value} {t : TypeId} (h : Own B w v m) (hg : w.heap[g]? = some (.cells cs t (0, 0))) (ht : 5 ≠ t) : v.ownBlock ≠ some g := by
  rcases h.2 with ⟨rfl, _⟩ | ⟨g', cap, cur, rfl, _, hh, _⟩
  · simp [Value.ownBlock]
  · intro he
    obtain rfl : g' = g := by simpa [Value.ownBlock] using he
    rw [hh] at hg
    injection hg with hg
    injection hg with _ h2
    exact ht h2
theorem Rdr.keep (h : Rdr w g l p r) (hk : ∀ b, b < w.heap.size → (b = g ∨ ∃ v, Own 0 w v l ∧ v.ownBlock = some b) → w'.heap[b]? = w.heap[b]?) : Rdr w' g l p r := by
  obtain ⟨⟨A, c, h1, h2⟩, h3⟩ := h
  exact ⟨⟨A, c, h1.keep fun b hb e => hk b hb (.inr ⟨_, h1, e⟩), (hk g (lt_of_block h2) (.inl rfl)).trans h2⟩, h3⟩
theorem Rdr.below (h : Rdr w g l p r) (hb : Below w.heap.size w w') : Rdr w' g l p r := h.keep fun b hlt _ => hb.block b hlt
/-- What another reader's method leaves. -/
theorem Rdr.far {g' : Nat} {l' : List UInt8} {p' : Nat} {r' : Bool} (h : Rdr w g l p r) (h' : Rdr w g' l' p' r') (hne : g ≠ g') (hg : w.grownBy w' (some g')) : Rdr w' g l p r := h.keep fun b hlt hh => by
  refine hg.block b hlt fun e => ?_
  injection e with e
  rcases hh with e2 | ⟨v, hv, hvb⟩
  · exact hne (e2.symm.trans e)
  · obtain ⟨_, _, _, h2⟩ := h'.ex
    subst e
    exact own_ne hv h2 (by decide) hvb
/-- What a write into a block leaves that is neither the reader's nor a row of bytes. -/
theorem Rdr.apart {k : Nat} {cs : Array Value} {t : TypeId} (h : Rdr w g l p r) (hg : w.grownBy w' (some k)) (hk : w.heap[k]? = some (.cells cs t (0, 0))) (ht : 5 ≠ t) (hne : g ≠ k) : Rdr w' g l p r := h.keep fun b hlt hh => by
  refine hg.block b hlt fun e => ?_
  injection e with e
  rcases hh with e2 | ⟨v, hv, hvb⟩
  · exact hne (e2.symm.trans e)
  · subst e
    exact own_ne hv hk ht hvb
theorem Rdr.lt (h : Rdr w g l p r) : g < w.heap.size := by
  obtain ⟨_, _, _, h2⟩ := h.ex
  exact lt_of_block h2
theorem Rdr.drewN (h : Rdr w g l p r) (n : Nat) : Rdr (w.drewN n) g l p r := ⟨h.ex, h.le⟩
theorem own_turn {v : Value} {cs : Array Value} (h1 : Own 0 w v l) (h2 : w.heap[g]? = some (.cells cs 50 (0, 0))) (i : Nat) (u : Value) : Own 0 (w.setCell ⟨g, i, none⟩ u) v l :=
  ownsRow_setCell_other h1 (own_ne h1 h2 (by decide)) _
theorem Rdr.turn (h : Rdr w g l p r) (p' : Nat) (hp : p' ≤ l.length) : Rdr (w.setCell ⟨g, 1, none⟩ (.int .i64 (p' : Int))) g l p' r := by
  obtain ⟨A, c, h1, h2⟩ := h.ex
  exact ⟨⟨A, c, ownsRow_setCell_other h1 (own_ne h1 h2 (by decide)) _, by rw [set_blk h2]; rfl⟩, hp⟩
theorem Rdr.spoil (h : Rdr w g l p r) : Rdr (w.setCell ⟨g, 2, none⟩ (.bool false)) g l p false := by
  obtain ⟨A, c, h1, h2⟩ := h.ex
  exact ⟨⟨A, c, ownsRow_setCell_other h1 (own_ne h1 h2 (by decide)) _, by rw [set_blk h2]; rfl⟩, h.le⟩
theorem grown_set (w : World) (g i : Nat) (u : Value) : w.grownBy (w.setCell ⟨g, i, none⟩ u) (some g) :=
  ⟨rfl, rfl, rfl, by simp [World.setCell], fun k _ hk => Below.heap_setCell w _ u k (fun e => hk (by rw [e]))⟩
theorem grown_of_below {w w' : World} (h : Below w.heap.size w w') (row : Option Nat) : w.grownBy w' row := ⟨h.os, h.tape, h.output, h.size, fun k hk _ => h.block k hk⟩
theorem grown_drewN {a b : World} {row : Option Nat} (h : a.grownBy b row) (n : Nat) : a.grownBy (b.drewN n) row := ⟨h.os, h.tape, h.output, h.size, h.block⟩
end

set_option maxHeartbeats 800000 in
theorem read_any (v : Value) (l : List UInt8) (w : World) (hv : Byt w v l) (hs : l.length ≤ 1099511627776) :
    Calls Tryd.prog 13 #[v] w fun e w' => ∃ g, e = .returned (.pointer (some ⟨g, 0, none⟩)) ∧ w.heap.size ≤ g ∧ Rdr w' g l 0 true ∧ Below w.heap.size w w' := by
  obtain ⟨A, c, rfl⟩ := hv.shape
  go_enter Tryd.func13, Tryd.ntmps13
  go_wp2_with fail
  refine (join1 _ l w.heap.size 1 (w.alloc (.cells #[.slice A l.length c] 24)) (by simp) (by simp) (hv.alloc _) hs).mono ?_
  rintro e w1 ⟨v1, rfl, hown1, hb1⟩
  have hbs := hb1.size
  obtain ⟨A1, c1, rfl⟩ := hown1.byt.shape
  go_wp2_with fail
  go_ret
  simp at hbs
  refine ⟨_, rfl, by omega, ⟨⟨A1, c1, (hown1.more (Nat.zero_le _)).alloc _, heap_alloc_new w1 _⟩, Nat.zero_le _⟩, ?_⟩
  exact ((Below.alloc (Below.refl _ _) (Nat.le_refl _) _).trans (hb1.mono (by simp))).alloc (by omega) _

theorem wrong_any (g : Nat) (l : List UInt8) (p : Nat) (r : Bool) (w : World) (hr : Rdr w g l p r) :
    Calls Tryd.prog 28 #[.pointer (some ⟨g, 0, none⟩)] w fun e w' => e = .returned (.bool (!r)) ∧ w = w' := by
  obtain ⟨A, c, h1, h2⟩ := hr.ex
  have c2 := cell_blk h2 2
  simp at c2
  clear h1 h2 hr
  go_enter Tryd.func28, Tryd.ntmps28
  go_wp2
  go_ret
  exact ⟨rfl, rfl⟩
theorem wrong_nil (w : World) : Calls Tryd.prog 28 #[.pointer none] w fun e w' => e = .returned (.bool true) ∧ w = w' := by
  go_enter Tryd.func28, Tryd.ntmps28
  go_wp2
  go_ret
  exact ⟨rfl, rfl⟩
theorem left_any (g : Nat) (l : List UInt8) (p : Nat) (r : Bool) (w : World) (hr : Rdr w g l p r) (hl : l.length ≤ 1099511627776) :
    Calls Tryd.prog 15 #[.pointer (some ⟨g, 0, none⟩)] w fun e w' => e = .returned (.int .i64 ((l.length : Int) - (p : Int))) ∧ ∃ n, w' = w.drewN n := by
  obtain ⟨A, c, h1, h2⟩ := hr.ex
  have hp := hr.le
  have c0 := cell_blk h2 0
  have c1 := cell_blk h2 1
  simp at c0 c1
  clear h1 h2 hr
  go_enter Tryd.func15, Tryd.ntmps15
  go_wp2
  go_quiet (fail)
  go_wp2
  go_ret
  exact ⟨rfl, _, rfl⟩
theorem left_nil (w : World) : Calls Tryd.prog 15 #[.pointer none] w fun e w' => e = .returned (.int .i64 0) ∧ w = w' := by
  go_enter Tryd.func15, Tryd.ntmps15
  go_wp2
  go_ret
  exact ⟨rfl, rfl⟩
theorem fail_any (g : Nat) (l : List UInt8) (p : Nat) (r : Bool) (w : World) (hr : Rdr w g l p r) :
    Calls Tryd.prog 38 #[.pointer (some ⟨g, 0, none⟩)] w fun e w' => e = .returned (.tuple #[]) ∧ w.setCell ⟨g, 2, none⟩ (.bool false) = w' := by
  obtain ⟨A, c, h1, h2⟩ := hr.ex
  have c2 := cell_blk h2 2
  have f2 := free_blk h2 2
  simp at c2
  clear h1 h2 hr
  go_enter Tryd.func38, Tryd.ntmps38
  go_wp2
  go_end0
  exact ⟨rfl, rfl⟩
theorem fail_nil (w : World) : Calls Tryd.prog 38 #[.pointer none] w fun e w' => e = .returned (.tuple #[]) ∧ w = w' := by
  go_enter Tryd.func38, Tryd.ntmps38
  go_wp2
  go_end0
  exact ⟨rfl, rfl⟩
end Go.Proofs.YtefngncieagobaaDoor

/-
  What octet's readers read: a number, one up to a most, whether all is done.
-/
namespace Go.Proofs.YtefngncieagobaaDoor
open Go.RowKit

theorem Byt.cut {w : World} {A : Option Addr} {l : List UInt8} {c p : Nat} (h : Byt w (.slice A l.length c) l) (hp : p ≤ l.length) :
    Byt w (.slice (if c = p then A else A.map (·.add p)) (l.length - p) (c - p)) (l.drop p) := by
  obtain ⟨_, h1, h2, h3⟩ := h.at_
  refine ⟨_, c - p, by rw [List.length_drop], by rw [List.length_drop]; omega, by omega, fun hl => ?_⟩
  rw [List.length_drop] at hl
  obtain ⟨b, off, rfl, hb, hc⟩ := h3 (by omega)
  rw [if_neg (by omega)]
  refine ⟨b, off + p, by rw [Option.map_some, addr_add], hb, fun j hj => ?_⟩
  rw [List.length_drop] at hj
  rw [Nat.add_assoc, hc (p + j) (by omega), List.getElem_drop]

theorem ret_u64 {a b : Int} (h : a = b) : Ending.returned (.int .u64 a) = Ending.returned (.int .u64 b) := by rw [h]

set_option maxHeartbeats 1600000 in
theorem number_any (g : Nat) (l : List UInt8) (p : Nat) (r : Bool) (most : Nat) (w : World) (hr : Rdr w g l p r) (hl : l.length ≤ 1099511627776) (_hm : most < 18446744073709551616) :
    Calls Tryd.prog 39 #[.pointer (some ⟨g, 0, none⟩), .int .u64 (most : Int)] w fun e w' =>
      e = .returned (.int .u64 ((rdNum most l p r).1 : Int)) ∧ Rdr w' g l (rdNum most l p r).2.1 (rdNum most l p r).2.2 ∧ w.grownBy w' (some g) := by
  cases r with
  | false =>
    have e : rdNum most l p false = (0, p, false) := rdNum_bad _ _ _
    rw [e]
    go_enter Tryd.func39, Tryd.ntmps39
    go_wp2_with fail
    refine (wrong_any g l p false w hr).mono ?_
    rintro e w' ⟨rfl, rfl⟩
    go_wp2_with fail
    go_ret
    exact ⟨rfl, hr, World.grownBy.refl _ _⟩
  | true =>
    obtain ⟨A, c, h1, h2⟩ := hr.ex
    have hp := hr.le
    have hby := (Own.byt h1).cut hp
    have c0 := cell_blk h2 0
    have c1 := cell_blk h2 1
    have f1 := free_blk h2 1
    simp at c0 c1
    clear h1 h2
    cases hf : frst (l.drop p) with
    | none =>
      have e : rdNum most l p true = (0, p, false) := rdNum_no hf
      rw [e]
      have hno := frst_none hf
      clear hf e
      go_enter Tryd.func39, Tryd.ntmps39
      go_wp2_with fail
      refine (wrong_any g l p true w hr).mono ?_
      rintro e w' ⟨rfl, rfl⟩
      go_wp2_with fail
      go_quiet ((go_at_call 40; exact Calls.quiet_of_same ((first_no _ _ _ (hby.drewN _) hno).mono fun _ _ h => ⟨h.1, h.2.symm⟩)))
      go_wp2_with fail
      all_goals
        refine (fail_any g l p true _ (hr.drewN _)).mono ?_
        rintro e w' ⟨rfl, rfl⟩
        go_wp2_with fail
        go_ret
        exact ⟨rfl, (hr.drewN _).spoil, (grown_drewN (World.grownBy.refl _ _) _).trans (grown_set _ g 2 _)⟩
    | some n =>
      obtain ⟨hn, hpre⟩ := frst_some hf
      have hk := dg_len10 hn
      have hk1 := dg_pos n
      have hpl := hpre.length_le
      rw [List.length_drop] at hpl
      have hz : (((dg n).length : Int) == 0) = false := by rw [beq_eq_false_iff_ne]; omega
      by_cases hle : n ≤ most
      · have e : rdNum most l p true = (n, p + (dg n).length, true) := rdNum_yes hf hle
        rw [e]
        clear hf e
        go_enter Tryd.func39, Tryd.ntmps39
        go_wp2_with fail
        refine (wrong_any g l p true w hr).mono ?_
        rintro e w' ⟨rfl, rfl⟩
        go_wp2_with fail
        go_quiet ((go_at_call 40; exact Calls.quiet_of_same ((first_yes _ _ n _ (hby.drewN _) hn hpre).mono fun _ _ h => ⟨h.1, h.2.symm⟩)))
        go_wp2_with fail
        all_goals
          go_ret
          have ht := (hr.drewN nq).turn (p + (dg n).length) (by omega)
          rw [Int.natCast_add] at ht
          exact ⟨rfl, ht, (grown_drewN (World.grownBy.refl _ _) _).trans (grown_set _ g 1 _)⟩
      · have e : rdNum most l p true = (0, p, false) := rdNum_big hf hle
        rw [e]
        clear hf e
        go_enter Tryd.func39, Tryd.ntmps39
        go_wp2_with fail
        refine (wrong_any g l p true w hr).mono ?_
        rintro e w' ⟨rfl, rfl⟩
        go_wp2_with fail
        go_quiet ((go_at_call 40; exact Calls.quiet_of_same ((first_yes _ _ n _ (hby.drewN _) hn hpre).mono fun _ _ h => ⟨h.1, h.2.symm⟩)))
        go_wp2_with fail
        all_goals
          refine (fail_any g l p true _ (hr.drewN _)).mono ?_
          rintro e w' ⟨rfl, rfl⟩
          go_wp2_with fail
          go_ret
          exact ⟨rfl, (hr.drewN _).spoil, (grown_drewN (World.grownBy.refl _ _) _).trans (grown_set _ g 2 _)⟩

theorem number_nil (m : Int) (w : World) : Calls Tryd.prog 39 #[.pointer none, .int .u64 m] w fun e w' => e = .returned (.int .u64 0) ∧ w = w' := by
  go_enter Tryd.func39, Tryd.ntmps39
  go_wp2_with fail
  refine (wrong_nil w).mono ?_
  rintro e w' ⟨rfl, rfl⟩
  go_wp2_with fail
  go_ret
  exact ⟨rfl, rfl⟩

/-- What is read up to a most. -/
def rdUpto (most : Int) (l : List UInt8) (p : Nat) (r : Bool) : Nat × Nat × Bool := if most < 0 then (0, p, false) else rdNum most.toNat l p r
theorem rdNum_le {most : Nat} {l : List UInt8} {p : Nat} {r : Bool} : (rdNum most l p r).1 ≤ most := by
  unfold rdNum
  split
  · exact Nat.zero_le _
  · split
    · split
      · assumption
      · exact Nat.zero_le _
    · exact Nat.zero_le _

theorem upto_any (g : Nat) (l : List UInt8) (p : Nat) (r : Bool) (most : Int) (w : World) (hr : Rdr w g l p r) (hl : l.length ≤ 1099511627776) (hm0 : -9223372036854775808 ≤ most) (hm1 : most ≤ 9223372036854775807) :
    Calls Tryd.prog 26 #[.pointer (some ⟨g, 0, none⟩), .int .i64 most] w fun e w' =>
      e = .returned (.int .i64 ((rdUpto most l p r).1 : Int)) ∧ Rdr w' g l (rdUpto most l p r).2.1 (rdUpto most l p r).2.2 ∧ w.grownBy w' (some g) := by
  by_cases hneg : most < 0
  · have e : rdUpto most l p r = (0, p, false) := by simp [rdUpto, hneg]
    rw [e]
    go_enter Tryd.func26, Tryd.ntmps26
    go_wp2_with fail
    refine (fail_any g l p r w hr).mono ?_
    rintro e w' ⟨rfl, rfl⟩
    go_wp2_with fail
    go_ret
    exact ⟨rfl, hr.spoil, grown_set _ g 2 _⟩
  · have e : rdUpto most l p r = rdNum most.toNat l p r := by simp [rdUpto, hneg]
    rw [e]
    obtain ⟨m, rfl⟩ := Int.eq_ofNat_of_zero_le (show 0 ≤ most by omega)
    rw [Int.toNat_natCast]
    have hle := rdNum_le (most := m) (l := l) (p := p) (r := r)
    go_enter Tryd.func26, Tryd.ntmps26
    go_wp2_with fail
    refine (number_any g l p r m w hr hl (by omega)).mono ?_
    rintro e w' ⟨rfl, h1, h2⟩
    go_wp2_with fail
    go_ret
    exact ⟨rfl, h1, h2⟩
theorem upto_nil (most : Int) (w : World) (hm0 : 0 ≤ most) (hm1 : most ≤ 9223372036854775807) : Calls Tryd.prog 26 #[.pointer none, .int .i64 most] w fun e w' => e = .returned (.int .i64 0) ∧ w = w' := by
  go_enter Tryd.func26, Tryd.ntmps26
  go_wp2_with fail
  refine (number_nil _ w).mono ?_
  rintro e w' ⟨rfl, rfl⟩
  go_wp2_with fail
  go_ret
  exact ⟨rfl, rfl⟩

end Go.Proofs.YtefngncieagobaaDoor

/-
  Transactions as plain data: which may be, their bytes, which one bytes begin with. No function of the program.
-/
namespace Go.Proofs.YtefngncieagobaaDoor

/-- A key's byte: a to z, 0 to 9. -/
def keyB (c : UInt8) : Bool := (decide (97 ≤ c.toNat) && decide (c.toNat ≤ 122)) || (decide (48 ≤ c.toNat) && decide (c.toNat ≤ 57))
def keyOk (l : List UInt8) : Bool := l.all keyB && (decide (1 ≤ l.length) && decide (l.length ≤ 16))

/-- A transaction. -/
structure TxM where
  fr : Int
  no : Int
  ki : Int
  to : Int
  am : Int
  key : List UInt8
  val : List UInt8
def txv (t : TxM) : Go.Value := .agg #[.int .i64 t.fr, .int .i64 t.no, .int .i64 t.ki, .int .i64 t.to, .int .i64 t.am, .string (sb t.key), .string (sb t.val)]
def txZ : TxM := ⟨0, 0, 0, 0, 0, [], []⟩

/-- May it be? -/
def mayT (t : TxM) : Bool :=
  if t.fr < 1 ∨ 40 < t.fr ∨ t.no < 1 ∨ 1099511627776 < t.no then false else
  if t.ki = 1 then decide (1 ≤ t.to) && decide (t.to ≤ 40) && decide (0 ≤ t.am) && decide (t.am ≤ 1099511627776) && decide (t.key = []) && decide (t.val = []) else
  if t.ki = 2 then decide (t.to = 0) && decide (t.am = 0) && keyOk t.key && decide (t.val.length ≤ 200) else
  if t.ki = 3 then decide (t.to = 0) && decide (t.am = 0) && keyOk t.key && decide (t.val = []) else false

/-- Its bytes. -/
def bytesT (t : TxM) : List UInt8 :=
  dg t.fr.toNat ++ (dg t.no.toNat ++ (dg t.ki.toNat ++ (if t.ki = 1 then dg t.to.toNat ++ dg t.am.toNat else if t.ki = 2 then tx t.key ++ tx t.val else tx t.key)))

/-- What is read behind the kind. -/
def rdTail (l : List UInt8) (f n k p : Nat) (r : Bool) : TxM × Nat × Bool :=
  if k = 1 then (⟨f, n, k, (rdUpto 40 l p r).1, (rdUpto 1099511627776 l (rdUpto 40 l p r).2.1 (rdUpto 40 l p r).2.2).1, [], []⟩, (rdUpto 1099511627776 l (rdUpto 40 l p r).2.1 (rdUpto 40 l p r).2.2).2) else
  if k = 2 then (⟨f, n, k, 0, 0, (rdText l p r).1, (rdText l (rdText l p r).2.1 (rdText l p r).2.2).1⟩, (rdText l (rdText l p r).2.1 (rdText l p r).2.2).2) else
  if k = 3 then (⟨f, n, k, 0, 0, (rdText l p r).1, []⟩, (rdText l p r).2) else (⟨f, n, k, 0, 0, [], []⟩, p, r)
/-- What is read from a place on, whether it may be or not. -/
def rdRaw (l : List UInt8) (p : Nat) (r : Bool) : TxM × Nat × Bool :=
  let a := rdUpto 40 l p r
  let b := rdUpto 1099511627776 l a.2.1 a.2.2
  let c := rdUpto 3 l b.2.1 b.2.2
  rdTail l a.1 b.1 c.1 c.2.1 c.2.2
/-- Is there one? -/
def rdIs (l : List UInt8) (p : Nat) (r : Bool) : Bool := (rdRaw l p r).2.2 && mayT (rdRaw l p r).1
/-- Which one. -/
def rdTx (l : List UInt8) (p : Nat) (r : Bool) : TxM := if rdIs l p r = true then (rdRaw l p r).1 else txZ

theorem rdUpto_bad (m : Int) (l : List UInt8) (p : Nat) : rdUpto m l p false = (0, p, false) := by
  unfold rdUpto
  split
  · rfl
  · exact rdNum_bad _ _ _
theorem rdUpto_at {L r : List UInt8} {p n : Nat} {m : Int} (h : L.drop p = dg n ++ r) (hm : (n : Int) ≤ m) (hn : n < 18446744073709551616) : rdUpto m L p true = (n, p + (dg n).length, true) := by
  unfold rdUpto
  rw [if_neg (by omega), rdNum_yes (frst_eq hn ⟨r, h.symm⟩) (by omega)]
/-- What was read was written just so. -/
theorem rdUpto_so {L : List UInt8} {p n q : Nat} {r : Bool} {m : Int} (h : rdUpto m L p r = (n, q, true)) : r = true ∧ n < 18446744073709551616 ∧ (n : Int) ≤ m ∧ q = p + (dg n).length ∧ ∃ x, L.drop p = dg n ++ x := by
  unfold rdUpto at h
  split at h
  · cases h
  · cases r with
    | false => rw [rdNum_bad] at h; cases h
    | true =>
      cases hf : frst (L.drop p) with
      | none => rw [rdNum_no hf] at h; cases h
      | some k =>
        by_cases hk : k ≤ m.toNat
        · rw [rdNum_yes hf hk] at h
          cases h
          obtain ⟨h1, x, hx⟩ := frst_some hf
          exact ⟨rfl, h1, by omega, rfl, x, hx.symm⟩
        · rw [rdNum_big hf hk] at h; cases h
theorem rdText_so {L t : List UInt8} {p q : Nat} {r : Bool} (h : rdText L p r = (t, q, true)) : r = true ∧ t.length ≤ 65536 ∧ q = p + (tx t).length ∧ ∃ x, L.drop p = tx t ++ x := by
  cases r with
  | false => rw [rdText_bad] at h; cases h
  | true =>
    cases hf : frst (L.drop p) with
    | none => rw [rdText_no hf] at h; cases h
    | some k =>
      by_cases hk : k ≤ 65536 ∧ p + (dg k).length + k ≤ L.length
      · rw [rdText_yes hf hk.1 hk.2] at h
        obtain ⟨h1, x, hx⟩ := frst_some hf
        have hd := drop_more hx.symm
        injection h with ha hb
        injection hb with hb _
        have hl : t.length = k := by rw [← ha, List.length_take, List.length_drop]; omega
        subst ha
        refine ⟨rfl, by omega, ?_, x.drop k, ?_⟩
        · rw [tx_len, hl]; omega
        · unfold tx
          rw [hl, ← hx, List.append_assoc, hd, List.take_append_drop]
      · rw [rdText_big hf hk] at h; cases h
end Go.Proofs.YtefngncieagobaaDoor

/-
  What is put is read; what is read was written just so: transactions, as plain data. No function of the program.
-/
namespace Go.Proofs.YtefngncieagobaaDoor

theorem mayT_iff {t : TxM} (h : mayT t = true) : (1 ≤ t.fr ∧ t.fr ≤ 40) ∧ (1 ≤ t.no ∧ t.no ≤ 1099511627776) ∧
    ((t.ki = 1 ∧ (1 ≤ t.to ∧ t.to ≤ 40) ∧ (0 ≤ t.am ∧ t.am ≤ 1099511627776) ∧ t.key = [] ∧ t.val = []) ∨ (t.ki = 2 ∧ t.to = 0 ∧ t.am = 0 ∧ keyOk t.key = true ∧ t.val.length ≤ 200) ∨ (t.ki = 3 ∧ t.to = 0 ∧ t.am = 0 ∧ keyOk t.key = true ∧ t.val = [])) := by
  unfold mayT at h
  split at h
  · cases h
  · refine ⟨by omega, by omega, ?_⟩
    split at h
    · rename_i hk
      simp only [Bool.and_eq_true, decide_eq_true_eq] at h
      exact .inl ⟨hk, ⟨h.1.1.1.1.1, h.1.1.1.1.2⟩, ⟨h.1.1.1.2, h.1.1.2⟩, h.1.2, h.2⟩
    · split at h
      · rename_i hk
        simp only [Bool.and_eq_true, decide_eq_true_eq] at h
        exact .inr (.inl ⟨hk, h.1.1.1, h.1.1.2, h.1.2, h.2⟩)
      · split at h
        · rename_i hk
          simp only [Bool.and_eq_true, decide_eq_true_eq] at h
          exact .inr (.inr ⟨hk, h.1.1.1, h.1.1.2, h.1.2, h.2⟩)
        · cases h
theorem keyOk_len {l : List UInt8} (h : keyOk l = true) : 1 ≤ l.length ∧ l.length ≤ 16 := by
  unfold keyOk at h
  simp only [Bool.and_eq_true, decide_eq_true_eq] at h
  exact h.2
theorem nat_of {i : Int} (h : 0 ≤ i) : ∃ n : Nat, i = (n : Int) := ⟨i.toNat, by omega⟩
theorem bytesT_len {t : TxM} (h : mayT t = true) : (bytesT t).length ≤ 300 := by
  obtain ⟨h1, h2, h3⟩ := mayT_iff h
  have l1 := dg_len 0 t.fr.toNat (by omega)
  have l2 := dg_len10 (n := t.no.toNat) (by omega)
  have l3 := dg_len 0 t.ki.toNat (by rcases h3 with h | h | h <;> rw [h.1] <;> decide)
  unfold bytesT
  rw [List.length_append, List.length_append, List.length_append]
  rcases h3 with ⟨hk, ha, hb, _⟩ | ⟨hk, _, _, hk1, hv⟩ | ⟨hk, _, _, hk1, _⟩
  · have l4 := dg_len 0 t.to.toNat (by omega)
    have l5 := dg_len10 (n := t.am.toNat) (by omega)
    rw [if_pos hk, List.length_append]
    omega
  · have := keyOk_len hk1
    have l4 := dg_len10 (n := t.key.length) (by omega)
    have l5 := dg_len10 (n := t.val.length) (by omega)
    rw [if_neg (by rw [hk]; decide), if_pos hk, List.length_append, tx_len, tx_len]
    omega
  · have := keyOk_len hk1
    have l4 := dg_len10 (n := t.key.length) (by omega)
    rw [if_neg (by rw [hk]; decide), if_neg (by rw [hk]; decide), tx_len]
    omega

theorem bytesT_one (a b d e : Nat) (x y : List UInt8) : bytesT ⟨(a : Int), (b : Int), ((1 : Nat) : Int), (d : Int), (e : Int), x, y⟩ = dg a ++ (dg b ++ (dg 1 ++ (dg d ++ dg e))) := by
  unfold bytesT
  rw [if_pos (show ((1 : Nat) : Int) = 1 from rfl)]
  simp only [Int.toNat_natCast]
theorem bytesT_two (a b : Nat) (d e : Int) (x y : List UInt8) : bytesT ⟨(a : Int), (b : Int), ((2 : Nat) : Int), d, e, x, y⟩ = dg a ++ (dg b ++ (dg 2 ++ (tx x ++ tx y))) := by
  unfold bytesT
  rw [if_neg (show ¬ ((2 : Nat) : Int) = 1 by omega), if_pos (show ((2 : Nat) : Int) = 2 from rfl)]
  simp only [Int.toNat_natCast]
theorem bytesT_three (a b : Nat) (d e : Int) (x y : List UInt8) : bytesT ⟨(a : Int), (b : Int), ((3 : Nat) : Int), d, e, x, y⟩ = dg a ++ (dg b ++ (dg 3 ++ tx x)) := by
  unfold bytesT
  rw [if_neg (show ¬ ((3 : Nat) : Int) = 1 by omega), if_neg (show ¬ ((3 : Nat) : Int) = 2 by omega)]
  simp only [Int.toNat_natCast]

/-- What is put is read. -/
theorem rdRaw_back {t : TxM} {L r : List UInt8} {p : Nat} (hm : mayT t = true) (h : L.drop p = bytesT t ++ r) : rdRaw L p true = (t, p + (bytesT t).length, true) := by
  obtain ⟨h1, h2, h3⟩ := mayT_iff hm
  obtain ⟨fr, no, ki, to, am, key, val⟩ := t
  obtain ⟨a, rfl⟩ := nat_of (i := fr) (by have := h1.1; simp only at this; omega)
  obtain ⟨b, rfl⟩ := nat_of (i := no) (by have := h2.1; simp only at this; omega)
  obtain ⟨c, rfl⟩ := nat_of (i := ki) (by simp only at h3; omega)
  simp only at h1 h2 h3
  unfold bytesT at h ⊢
  simp only [Int.toNat_natCast, List.append_assoc] at h ⊢
  have d1 := drop_more h
  have d2 := drop_more d1
  have d3 := drop_more d2
  unfold rdRaw
  simp only [rdUpto_at (m := 40) h (by omega) (by omega), rdUpto_at (m := 1099511627776) d1 (by omega) (by omega), rdUpto_at (m := 3) d2 (by omega) (by omega)]
  unfold rdTail
  rcases h3 with ⟨hk, ha, hb, rfl, rfl⟩ | ⟨hk, rfl, rfl, hk1, hv⟩ | ⟨hk, rfl, rfl, hk1, rfl⟩
  · obtain ⟨d, rfl⟩ := nat_of (i := to) (by omega)
    obtain ⟨e, rfl⟩ := nat_of (i := am) (by omega)
    obtain rfl : c = 1 := by omega
    simp only [Int.toNat_natCast, ↓reduceIte, List.append_assoc, Int.cast_ofNat_Int] at d3 ⊢
    have d4 := drop_more d3
    simp only [rdUpto_at (m := 40) d3 (by omega) (by omega), rdUpto_at (m := 1099511627776) d4 (by omega) (by omega)]
    simp [Nat.add_assoc]
  · have hkl := keyOk_len hk1
    obtain rfl : c = 2 := by omega
    rw [if_neg (by decide), if_pos (by decide), List.append_assoc] at d3
    have d4 := drop_more d3
    simp only [rdText_at d3 (by omega), rdText_at d4 (by omega)]
    simp [Nat.add_assoc]
  · have hkl := keyOk_len hk1
    obtain rfl : c = 3 := by omega
    rw [if_neg (by decide), if_neg (by decide)] at d3
    simp only [rdText_at d3 (by omega)]
    simp [Nat.add_assoc]

/-- What is read was written just so. -/
theorem rdRaw_so {L : List UInt8} {p : Nat} {r : Bool} (h : (rdRaw L p r).2.2 = true) (hm : mayT (rdRaw L p r).1 = true) :
    r = true ∧ (rdRaw L p r).2.1 = p + (bytesT (rdRaw L p r).1).length ∧ ∃ x, L.drop p = bytesT (rdRaw L p r).1 ++ x := by
  unfold rdRaw at h hm ⊢
  obtain ⟨a, p1, r1, ha⟩ : ∃ x q s, rdUpto 40 L p r = (x, q, s) := ⟨_, _, _, rfl⟩
  obtain ⟨b, p2, r2, hb⟩ : ∃ x q s, rdUpto 1099511627776 L p1 r1 = (x, q, s) := ⟨_, _, _, rfl⟩
  obtain ⟨c, p3, r3, hc⟩ : ∃ x q s, rdUpto 3 L p2 r2 = (x, q, s) := ⟨_, _, _, rfl⟩
  simp only [ha, hb, hc] at h hm ⊢
  have key : ∀ x3, r3 = true → L.drop p3 = x3 → r = true ∧ p3 = p + ((dg a).length + ((dg b).length + (dg c).length)) ∧ L.drop p = dg a ++ (dg b ++ (dg c ++ x3)) := by
    intro x3 hr3 hx3
    subst hr3
    obtain ⟨rfl, _, _, e3, y3, hy3⟩ := rdUpto_so hc
    obtain ⟨rfl, _, _, e2, y2, hy2⟩ := rdUpto_so hb
    obtain ⟨rfl, _, _, e1, y1, hy1⟩ := rdUpto_so ha
    have z1 := drop_more hy1
    have z2 := drop_more hy2
    have z3 := drop_more hy3
    rw [← e1] at z1
    rw [← e2] at z2
    rw [← e3] at z3
    refine ⟨rfl, by omega, ?_⟩
    rw [hy1, ← z1, hy2, ← z2, hy3, ← z3, hx3]
  unfold rdTail at h hm ⊢
  split at h
  · rename_i hk
    subst hk
    rw [if_pos rfl] at hm
    rw [if_pos rfl]
    obtain ⟨d, p4, r4, hd⟩ : ∃ x q s, rdUpto 40 L p3 r3 = (x, q, s) := ⟨_, _, _, rfl⟩
    obtain ⟨e, p5, r5, he⟩ : ∃ x q s, rdUpto 1099511627776 L p4 r4 = (x, q, s) := ⟨_, _, _, rfl⟩
    simp only [hd, he] at h hm ⊢
    subst h
    obtain ⟨rfl, _, _, e5, y5, hy5⟩ := rdUpto_so he
    obtain ⟨rfl, _, _, e4, y4, hy4⟩ := rdUpto_so hd
    have z4 := drop_more hy4
    rw [← e4, hy5] at z4
    obtain ⟨k1, k2, k3⟩ := key _ rfl hy4
    rw [← z4] at k3
    refine ⟨k1, ?_, y5, ?_⟩
    · rw [bytesT_one]
      simp only [List.length_append]
      omega
    · rw [bytesT_one]
      simp only [List.append_assoc]
      exact k3
  · rename_i hk
    rw [if_neg hk] at hm
    rw [if_neg hk]
    split at h
    · rename_i hk2
      subst hk2
      rw [if_pos rfl] at hm
      rw [if_pos rfl]
      obtain ⟨d, p4, r4, hd⟩ : ∃ x q s, rdText L p3 r3 = (x, q, s) := ⟨_, _, _, rfl⟩
      obtain ⟨e, p5, r5, he⟩ : ∃ x q s, rdText L p4 r4 = (x, q, s) := ⟨_, _, _, rfl⟩
      simp only [hd, he] at h hm ⊢
      subst h
      obtain ⟨rfl, _, e5, y5, hy5⟩ := rdText_so he
      obtain ⟨rfl, _, e4, y4, hy4⟩ := rdText_so hd
      have z4 := drop_more hy4
      rw [← e4, hy5] at z4
      obtain ⟨k1, k2, k3⟩ := key _ rfl hy4
      rw [← z4] at k3
      refine ⟨k1, ?_, y5, ?_⟩
      · rw [bytesT_two]
        simp only [List.length_append]
        omega
      · rw [bytesT_two]
        simp only [List.append_assoc]
        exact k3
    · rename_i hk2
      rw [if_neg hk2] at hm
      rw [if_neg hk2]
      split at h
      · rename_i hk3
        subst hk3
        rw [if_pos rfl] at hm
        rw [if_pos rfl]
        obtain ⟨d, p4, r4, hd⟩ : ∃ x q s, rdText L p3 r3 = (x, q, s) := ⟨_, _, _, rfl⟩
        simp only [hd] at h hm ⊢
        subst h
        obtain ⟨rfl, _, e4, y4, hy4⟩ := rdText_so hd
        obtain ⟨k1, k2, k3⟩ := key _ rfl hy4
        refine ⟨k1, ?_, y4, ?_⟩
        · rw [bytesT_three]
          simp only [List.length_append]
          omega
        · rw [bytesT_three]
          simp only [List.append_assoc]
          exact k3
      · rename_i hk3
        rw [if_neg hk3] at hm
        exfalso
        obtain ⟨_, _, h3⟩ := mayT_iff hm
        simp only at h3
        omega

theorem rdTx_back {t : TxM} {L r : List UInt8} {p : Nat} (hm : mayT t = true) (h : L.drop p = bytesT t ++ r) : rdIs L p true = true ∧ rdTx L p true = t ∧ (rdRaw L p true).2.1 = p + (bytesT t).length := by
  have e := rdRaw_back hm h
  have hi : rdIs L p true = true := by unfold rdIs; rw [e, hm]; rfl
  exact ⟨hi, by unfold rdTx; rw [if_pos hi, e], by rw [e]⟩
theorem rdIs_iff {L : List UInt8} {p : Nat} {r : Bool} (h : rdIs L p r = true) : (rdRaw L p r).2.2 = true ∧ mayT (rdRaw L p r).1 = true := by
  unfold rdIs at h
  rwa [Bool.and_eq_true] at h
theorem rdTx_so {L : List UInt8} {p : Nat} {r : Bool} (h : rdIs L p r = true) : r = true ∧ mayT (rdTx L p r) = true ∧ (rdRaw L p r).2.1 = p + (bytesT (rdTx L p r)).length ∧ ∃ x, L.drop p = bytesT (rdTx L p r) ++ x := by
  obtain ⟨h1, h2⟩ := rdIs_iff h
  obtain ⟨k1, k2, k3⟩ := rdRaw_so h1 h2
  unfold rdTx
  rw [if_pos h]
  exact ⟨k1, h2, k2, k3⟩
end Go.Proofs.YtefngncieagobaaDoor
