/-
  The law of what is read of any bytes.
-/
import Derived.Test.YtggonealcpbonaaAwake
import Derived.Test.YtggonealcpbonaaRefHash
import Derived.Test.YtggonealcpbonaaRow
namespace Go.Proofs.Ytggonealcpbonaa
open Go.RowKit

/-- The document's reader, in block X. -/
def RefIn (w : World) (X : Nat) (A : Option Addr) (n c p : Nat) (wr : Bool) : Prop := w.heap[X]? = some (.cells #[.slice A n c, .int .i64 (p : Int), .bool wr] 39 (0, 0))
theorem RefIn.below {w w' : World} {X n c p : Nat} {A : Option Addr} {wr : Bool} (h : RefIn w X A n c p wr) (hb : Below w.heap.size w w') : RefIn w' X A n c p wr := (hb.block X (lt_of_block h)).trans h
theorem RefIn.far {w w' : World} {X n c p g : Nat} {A : Option Addr} {wr : Bool} (h : RefIn w X A n c p wr) (hg : w.grownBy w' (some g)) (hne : X ≠ g) : RefIn w' X A n c p wr := (hg.block X (lt_of_block h) (ne_some hne)).trans h

/-- The document's reader is written anew, and a block of its own is laid. -/
theorem rewritten {w w3 : World} {X n c p g pr : Nat} {A : Option Addr} {wr r : Bool} {l : List UInt8} (h : RefIn w3 X A n c p wr) (hr : Rdr w3 g l pr r) (hne : g ≠ X) (hb : Below w.heap.size w w3) (hX : w.heap.size ≤ X) (p' : Nat) (wr' : Bool) (o : Obj) :
    RefIn ((((w3.setCell ⟨X, 0, none⟩ (.slice A n c)).setCell ⟨X, 1, none⟩ (.int .i64 (p' : Int))).setCell ⟨X, 2, none⟩ (.bool wr')).alloc o) X A n c p' wr' ∧
    Rdr ((((w3.setCell ⟨X, 0, none⟩ (.slice A n c)).setCell ⟨X, 1, none⟩ (.int .i64 (p' : Int))).setCell ⟨X, 2, none⟩ (.bool wr')).alloc o) g l pr r ∧
    Below w.heap.size w ((((w3.setCell ⟨X, 0, none⟩ (.slice A n c)).setCell ⟨X, 1, none⟩ (.int .i64 (p' : Int))).setCell ⟨X, 2, none⟩ (.bool wr')).alloc o) := by
  unfold RefIn at *
  have a1 := set_blk h 0 (.slice A n c)
  have a2 := set_blk a1 1 (.int .i64 (p' : Int))
  have a3 := set_blk a2 2 (.bool wr')
  have r1 := hr.apart (grown_set w3 X 0 (.slice A n c)) h (by decide) hne
  have r2 := r1.apart (grown_set _ X 1 (.int .i64 (p' : Int))) a1 (by decide) hne
  have r3 := r2.apart (grown_set _ X 2 (.bool wr')) a2 (by decide) hne
  have b3 := ((hb.setCell (p := ⟨X, 0, none⟩) hX (.slice A n c)).setCell (p := ⟨X, 1, none⟩) hX (.int .i64 (p' : Int))).setCell (p := ⟨X, 2, none⟩) hX (.bool wr')
  exact ⟨(Below.heap_alloc _ _ _ (lt_of_block a3)).trans a3, r3.below ((Below.refl _ _).alloc (Nat.le_refl _) _), b3.alloc b3.size _⟩

theorem rewritten0 {w w3 : World} {X n c p g pr : Nat} {A : Option Addr} {wr r : Bool} {l : List UInt8} (h : RefIn w3 X A n c p wr) (hr : Rdr w3 g l pr r) (hne : g ≠ X) (hb : Below w.heap.size w w3) (hX : w.heap.size ≤ X) (p' : Nat) (wr' : Bool) :
    RefIn (((w3.setCell ⟨X, 0, none⟩ (.slice A n c)).setCell ⟨X, 1, none⟩ (.int .i64 (p' : Int))).setCell ⟨X, 2, none⟩ (.bool wr')) X A n c p' wr' ∧
    Rdr (((w3.setCell ⟨X, 0, none⟩ (.slice A n c)).setCell ⟨X, 1, none⟩ (.int .i64 (p' : Int))).setCell ⟨X, 2, none⟩ (.bool wr')) g l pr r ∧
    Below w.heap.size w (((w3.setCell ⟨X, 0, none⟩ (.slice A n c)).setCell ⟨X, 1, none⟩ (.int .i64 (p' : Int))).setCell ⟨X, 2, none⟩ (.bool wr')) := by
  unfold RefIn at *
  have a1 := set_blk h 0 (.slice A n c)
  have a2 := set_blk a1 1 (.int .i64 (p' : Int))
  have a3 := set_blk a2 2 (.bool wr')
  have r1 := hr.apart (grown_set w3 X 0 (.slice A n c)) h (by decide) hne
  have r2 := r1.apart (grown_set _ X 1 (.int .i64 (p' : Int))) a1 (by decide) hne
  have r3 := r2.apart (grown_set _ X 2 (.bool wr')) a2 (by decide) hne
  exact ⟨a3, r3, ((hb.setCell (p := ⟨X, 0, none⟩) hX (.slice A n c)).setCell (p := ⟨X, 1, none⟩) hX (.int .i64 (p' : Int))).setCell (p := ⟨X, 2, none⟩) hX (.bool wr')⟩
/-- What stands behind the reading of a hash. -/
structure HashIn (w w3 w4 : World) (X : Nat) (A : Option Addr) (n c p : Nat) (wr : Bool) (g : Nat) (l : List UInt8) (pr : Nat) (r : Bool) (C : Array Value) (hh : List UInt8) : Prop where
  x : RefIn w4 X A n c p wr
  rd : Rdr w4 g l pr r
  below : Below w.heap.size w w4
  t13 : w4.heap[w3.heap.size]? = some (.cells C 39 (0, 0))
  t14 : w4.heap[w3.heap.size + 1]? = some (.cells (hcells hh) 25 (0, 0))
theorem hashIn {w w3 w4 : World} {X n c p g pr k : Nat} {A : Option Addr} {wr r : Bool} {l hh : List UInt8} {C : Array Value} (y : RefIn w3 X A n c p wr) (hr : Rdr w3 g l pr r) (hb : Below w.heap.size w w3) (hk : k = w3.heap.size + 1)
    (hg : ((w3.alloc (.cells C 39)).alloc (.cells (hcells nought) 25)).grownBy w4 (some k)) (H : Hid (w4.heap[k]? = some (.cells (hcells hh) 25 (0, 0)))) : HashIn w w3 w4 X A n c p wr g l pr r C hh := by
  subst hk
  have hb3 : Below w3.heap.size w3 ((w3.alloc (.cells C 39)).alloc (.cells (hcells nought) 25)) := ((Below.refl _ _).alloc (Nat.le_refl _) _).alloc (by simp) _
  have hb4 : Below w3.heap.size w3 w4 := hb3.grown hg hb3.size (fun q hq => by have := Option.some.inj hq; omega)
  exact ⟨y.below hb4, hr.below hb4, hb.trans (hb4.mono hb.size), (hg.block _ (by simp; omega) (ne_some (by omega))).trans (heap_alloc2_old _ _ _), H.out⟩
theorem done_yes (g : Nat) (l : List UInt8) (p : Nat) (w : World) (hr : Rdr w g l p true) (hl : l.length ≤ 1099511627776) (hp : p = l.length) :
    Calls Try.prog 24 #[.pointer (some ⟨g, 0, none⟩)] w fun e w' => e = .returned (.bool true) ∧ ∃ n, w' = w.drewN n := by
  have h := done_any g l p true w hr hl
  rw [show (true && decide (p = l.length)) = true from by simp [hp]] at h
  exact h
theorem done_not (g : Nat) (l : List UInt8) (p : Nat) (w : World) (hr : Rdr w g l p true) (hl : l.length ≤ 1099511627776) (hp : ¬ p = l.length) :
    Calls Try.prog 24 #[.pointer (some ⟨g, 0, none⟩)] w fun e w' => e = .returned (.bool false) ∧ ∃ n, w' = w.drewN n := by
  have h := done_any g l p true w hr hl
  rw [show (true && decide (p = l.length)) = false from by simp [hp]] at h
  exact h
theorem own_rewritten {B : Nat} {w3 : World} {X n c p : Nat} {A : Option Addr} {wr : Bool} {v : Value} {t : List UInt8} (h : Own B w3 v t) (y : RefIn w3 X A n c p wr) (p' : Nat) (wr' : Bool) (o : Obj) :
    Own B ((((w3.setCell ⟨X, 0, none⟩ (.slice A n c)).setCell ⟨X, 1, none⟩ (.int .i64 (p' : Int))).setCell ⟨X, 2, none⟩ (.bool wr')).alloc o) v t := by
  have hne : v.ownBlock ≠ some X := own_ne h y (by decide)
  exact (((h.set hne 0 _).set hne 1 _).set hne 2 _).alloc o
theorem own_far {B : Nat} {w w' : World} {v : Value} {t l : List UInt8} {g p : Nat} {r : Bool} (h : Own B w v t) (hr : Rdr w g l p r) (hg : w.grownBy w' (some g)) : Own B w' v t := h.keep fun b hlt hb => hg.block b hlt (by
  obtain ⟨_, _, _, h2⟩ := hr.ex
  rw [← hb]
  exact own_ne h h2 (by decide))

set_option maxRecDepth 100000 in
set_option maxHeartbeats 6400000 in
theorem reads_any (v : Value) (l : List UInt8) (A2 : Option Addr) (n2 c2 : Nat) (zs : List Int) (w : World) (hv : Byt w v l) (hz : IsRow .i64 w A2 n2 c2 zs) :
    Calls Try.prog 4 #[v, .slice A2 n2 c2] w fun e w' => e = .returned (.bool true) ∧ Below w.heap.size w w' := by
  have hvm := hv.len
  unfold maxLen at hvm
  obtain ⟨A, c, rfl⟩ := hv.shape
  have hlc := hv.at_.2.1
  have hcm := hv.at_.2.2.1
  unfold maxLen at hcm
  have hn2 : n2 ≤ 9223372036854775807 := by
    rcases hz with ⟨_, rfl, _⟩ | ⟨_, _, h1, h2, _⟩
    · omega
    · unfold maxLen at h2; omega
  by_cases hlong : 2000 < l.length
  · go_enter Try.func4, Try.ntmps4
    go_wp2_with fail
    refine (awake_any w).mono ?_
    rintro e w' ⟨rfl, hb⟩
    go_wp2_with fail
    go_ret
    exact ⟨rfl, hb⟩
  by_cases hlong2 : 40 < n2
  · have hq : ¬ (2000 : Int) < (l.length : Int) := by omega
    go_enter Try.func4, Try.ntmps4
    go_wp2_with fail
    refine (awake_any w).mono ?_
    rintro e w' ⟨rfl, hb⟩
    go_wp2_with fail
    go_ret
    exact ⟨rfl, hb⟩
  have hl2 : l.length ≤ 1099511627776 := by omega
  have HV := hid hv
  have hq1 : ¬ (2000 : Int) < (l.length : Int) := by omega
  have hq2 : ¬ (40 : Int) < (n2 : Int) := by omega
  have hcellz : ∀ i, i < n2 → ∃ b off, A2 = some ⟨b, off, none⟩ ∧ b < w.heap.size ∧ w.cell? ⟨b, off + i, none⟩ = some (.int .i64 (zs.getD i 0)) ∧ -9223372036854775808 ≤ zs.getD i 0 ∧ zs.getD i 0 ≤ 9223372036854775807 := by
    intro i hi
    rcases hz with ⟨_, rfl, _⟩ | ⟨x, rfl, h1, h2, h3, hc, hw⟩
    · omega
    · obtain ⟨b, off, spot⟩ := x
      have hci := hc i (by omega)
      have hspot : spot = none := by simpa [Addr.add] using World.cell?_spot (hc 0 (by omega))
      subst hspot
      rw [addr_add] at hci
      have hil : i < zs.length := by omega
      have hw1 := hw zs[i] (List.getElem_mem hil)
      have hr : -9223372036854775808 ≤ zs[i] ∧ zs[i] ≤ 9223372036854775807 := by simpa [Lit.wf, IntKind.min, IntKind.max, IntKind.signed, IntKind.bits] using hw1
      refine ⟨b, off, rfl, World.block_lt_of_cell? w _ hci, hci, ?_, ?_⟩
      · rw [show zs.getD i 0 = zs[i] by simp [hil]]; exact hr.1
      · rw [show zs.getD i 0 = zs[i] by simp [hil]]; exact hr.2
  have HZ := hid hcellz
  clear hcellz hz hv
  go_enter Try.func4, Try.ntmps4
  go_wp2_with fail
  refine (read_any _ l w HV.out hl2).mono ?_
  rintro e w1 ⟨g, rfl, hg, hr1, hb1⟩
  have hlt1 := hr1.lt
  have hs1 := hb1.size
  go_wp2_with fail
  have hX0 : RefIn (w1.alloc (.cells #[.slice A l.length c, .int .i64 0, .bool false] 39)) w1.heap.size A l.length c 0 false := heap_alloc_new w1 _
  have hr2 : Rdr (w1.alloc (.cells #[.slice A l.length c, .int .i64 0, .bool false] 39)) g l 0 true := hr1.below ((Below.refl _ _).alloc (Nat.le_refl _) _)
  have hb2 : Below w.heap.size w (w1.alloc (.cells #[.slice A l.length c, .int .i64 0, .bool false] 39)) := hb1.alloc hs1 _
  have hXg : w1.heap.size ≠ g := by omega
  have hXw : w.heap.size ≤ w1.heap.size := hs1
  have hgw : w.heap.size ≤ g := hg
  generalize w1.alloc (.cells #[.slice A l.length c, .int .i64 0, .bool false] 39) = w2 at *
  generalize w1.heap.size = X at *
  clear hr1 hb1 hlt1 hg hs1
  go_loopw [7] (fun si wq => ∃ (i p : Nat) (r : Bool), i ≤ n2 ∧ si = .int .i64 i ∧ Rdr wq g l p r ∧ Hid (RefIn wq X A l.length c p (!r)) ∧ Below w.heap.size w wq) (fun si _ => n2 - (intOf si).toNat)
  case atStart => exact ⟨0, 0, true, Nat.zero_le _, rfl, hr2, hid hX0, hb2⟩
  case round =>
    obtain ⟨i, p, r, hi, rfl, hr, HX, hbq⟩ := hrel
    clear hX0 hr2 hb2
    by_cases hlt : i < n2
    · obtain ⟨b2, off2, rfl, hb2lt, hcz, hq0, hq3⟩ := HZ.out i hlt
      have hcq : wr.cell? ⟨b2, off2 + i, none⟩ = some (.int .i64 (zs.getD i 0)) := (hbq.cell (p := ⟨b2, off2 + i, none⟩) hb2lt).trans hcz
      have hi2 : (i : Int) < (n2 : Int) := by omega
      obtain ⟨q, HQ⟩ : ∃ q : Int, Hid (zs.getD i 0 = q) := ⟨_, hid rfl⟩
      rw [HQ.out] at hcq hq0 hq3
      have hp := hr.le
      have hltX := lt_of_block HX.out
      have hgl := hr.lt
      have hvq : Byt wr (.slice A l.length c) l := HV.out.below hbq
      have hsq := hbq.size
      have x0 := cell_blk HX.out 0
      have x1 := cell_blk HX.out 1
      have x2 := cell_blk HX.out 2
      simp at x0 x1 x2
      clear hcz
      by_cases q0 : q = 0
      · subst q0
        obtain ⟨n, p', r', E1⟩ : ∃ n p' r', rdNum 18446744073709551615 l p r = (n, p', r') := ⟨_, _, _, rfl⟩
        have HE := hid E1
        clear E1
        go_wp2_with fail
        have C := refReadNum_any A c p r l wr hvq hp hl2
        rw [HE.out] at C
        refine C.mono ?_
        clear C
        rintro e w3 ⟨rfl, hb3⟩
        unfold rv
        have y : RefIn w3 X A l.length c p (!r) := HX.out.below hb3
        have y0 := cell_blk y 0
        have y1 := cell_blk y 1
        have y2 := cell_blk y 2
        have yf0 := free_blk y 0
        have yf1 := free_blk y 1
        have yf2 := free_blk y 2
        simp at y0 y1 y2
        have hX3 : X < w3.heap.size := by have := hb3.size; omega
        obtain ⟨R1, R2, R3⟩ := rewritten y (hr.below hb3) hXg.symm (hbq.trans (hb3.mono hsq)) hXw p' (!r') (.cells #[.slice A l.length c, .int .i64 (p' : Int), .bool (!r')] 39)
        have HR1 := hid R1
        have HY := hid y
        clear R1 y
        go_wp2_with fail
        have C := rnum_any g l p r _ R2 hl2
        rw [HE.out] at C
        refine C.mono ?_
        clear C
        rintro e w6 ⟨rfl, hr6, hG6⟩
        have HX6 := hid (HR1.out.far hG6 hXg)
        have hb6 : Below w.heap.size w w6 := R3.grown hG6 R3.size (fun k hk => by injection hk; omega)
        clear y0 y1 y2 yf0 yf1 yf2 HY HR1 R2 R3 hG6 hb3 hcq x0 x1 x2 hvq HX hr
        have hp' := hr6.le
        have z1 := cell_blk HX6.out 1
        have z2 := cell_blk HX6.out 2
        simp at z1 z2
        have d1 : ((l.length : Int) - (p' : Int) != (l.length : Int) - (p' : Int)) = false := by simp
        cases r' with
        | false =>
          go_wp2_with fail
          go_quiet (first
            | (go_at_call 22; exact Calls.quiet_of (left_any g l p' false _ (hr6.drewN _) hl2))
            | (go_at_call 23; exact Calls.quiet_of_same ((wrong_any g l p' false _ (hr6.drewN _)).mono fun _ _ h => ⟨h.1, h.2.symm⟩))
            | (go_at_call 24; exact Calls.quiet_of (done_any g l p' false _ (hr6.drewN _) hl2)))
          go_wp2_with fail
          go_roundw
          case rel => exact ⟨i + 1, p', false, by omega, by go_num, hr6.drewN _, hid HX6.out, below_drewN hb6 _⟩
          case measure => simp [intOf]; omega
        | true =>
          by_cases hpe : p' = l.length
          · have d2 : ((p' : Int) == (l.length : Int)) = true := by rw [beq_iff_eq]; omega
            have HPE := hid hpe
            clear hpe
            go_wp2_with fail
            go_quiet (first
              | (go_at_call 22; exact Calls.quiet_of (left_any g l p' true _ (hr6.drewN _) hl2))
              | (go_at_call 23; exact Calls.quiet_of_same ((wrong_any g l p' true _ (hr6.drewN _)).mono fun _ _ h => ⟨h.1, h.2.symm⟩))
              | (go_at_call 24; exact Calls.quiet_of (done_yes g l p' _ (hr6.drewN _) hl2 HPE.out)))
            go_wp2_with fail
            go_roundw
            case rel => exact ⟨i + 1, p', true, by omega, by go_num, hr6.drewN _, hid HX6.out, below_drewN hb6 _⟩
            case measure => simp [intOf]; omega
          · have d2 : ((p' : Int) == (l.length : Int)) = false := by rw [beq_eq_false_iff_ne]; omega
            have HPE := hid hpe
            clear hpe
            go_wp2_with fail
            go_quiet (first
              | (go_at_call 22; exact Calls.quiet_of (left_any g l p' true _ (hr6.drewN _) hl2))
              | (go_at_call 23; exact Calls.quiet_of_same ((wrong_any g l p' true _ (hr6.drewN _)).mono fun _ _ h => ⟨h.1, h.2.symm⟩))
              | (go_at_call 24; exact Calls.quiet_of (done_not g l p' _ (hr6.drewN _) hl2 HPE.out)))
            go_wp2_with fail
            go_roundw
            case rel => exact ⟨i + 1, p', true, by omega, by go_num, hr6.drewN _, hid HX6.out, below_drewN hb6 _⟩
            case measure => simp [intOf]; omega
      by_cases q1 : q = 1
      · subst q1
        obtain ⟨t, p', r', E1⟩ : ∃ t p' r', rdText l p r = (t, p', r') := ⟨_, _, _, rfl⟩
        have HE := hid E1
        clear E1
        go_wp2_with fail
        have C := refText_any A c p r l wr hvq hp hl2
        rw [HE.out] at C
        refine C.mono ?_
        clear C
        rintro e w3 ⟨v3, rfl, hown3, hb3⟩
        unfold rv
        have y : RefIn w3 X A l.length c p (!r) := HX.out.below hb3
        have y0 := cell_blk y 0
        have y1 := cell_blk y 1
        have y2 := cell_blk y 2
        have yf0 := free_blk y 0
        have yf1 := free_blk y 1
        have yf2 := free_blk y 2
        simp at y0 y1 y2
        have hX3 : X < w3.heap.size := by have := hb3.size; omega
        obtain ⟨R1, R2, R3⟩ := rewritten y (hr.below hb3) hXg.symm (hbq.trans (hb3.mono hsq)) hXw p' (!r') (.cells #[.slice A l.length c, .int .i64 (p' : Int), .bool (!r')] 39)
        have HR1 := hid R1
        have HY := hid y
        have O4 := own_rewritten hown3 y p' (!r') (.cells #[.slice A l.length c, .int .i64 (p' : Int), .bool (!r')] 39)
        clear R1 y
        go_wp2_with fail
        have C := rtext_any g l p r _ R2 hl2
        rw [HE.out] at C
        refine C.mono ?_
        clear C
        rintro e w5 ⟨v5, rfl, hown5, hr5, hG5⟩
        have O5 := own_far O4 R2 hG5
        go_wp2_with fail
        refine (same_yes _ _ t _ hown5.byt O5.byt).mono ?_
        rintro e w' ⟨rfl, n5, rfl⟩
        have hr6 := hr5.drewN n5
        have HX6a : RefIn w5 X A l.length c p' (!r') := HR1.out.far hG5 hXg
        have HX6 := @hid (RefIn (w5.drewN n5) X A l.length c p' (!r')) HX6a
        clear HX6a
        have hb6 : Below w.heap.size w (w5.drewN n5) := below_drewN (R3.grown hG5 R3.size (fun k hk => by injection hk; omega)) n5
        generalize w5.drewN n5 = w6 at *
        clear y0 y1 y2 yf0 yf1 yf2 HY HR1 R2 R3 hG5 hr5 hown5 O5 O4 hown3 hb3 hcq x0 x1 x2 hvq HX hr
        have hp' := hr6.le
        have z1 := cell_blk HX6.out 1
        have z2 := cell_blk HX6.out 2
        simp at z1 z2
        have d1 : ((l.length : Int) - (p' : Int) != (l.length : Int) - (p' : Int)) = false := by simp
        cases r' with
        | false =>
          go_wp2_with fail
          go_quiet (first
            | (go_at_call 22; exact Calls.quiet_of (left_any g l p' false _ (hr6.drewN _) hl2))
            | (go_at_call 23; exact Calls.quiet_of_same ((wrong_any g l p' false _ (hr6.drewN _)).mono fun _ _ h => ⟨h.1, h.2.symm⟩))
            | (go_at_call 24; exact Calls.quiet_of (done_any g l p' false _ (hr6.drewN _) hl2)))
          go_wp2_with fail
          go_roundw
          case rel => exact ⟨i + 1, p', false, by omega, by go_num, hr6.drewN _, hid HX6.out, below_drewN hb6 _⟩
          case measure => simp [intOf]; omega
        | true =>
          by_cases hpe : p' = l.length
          · have d2 : ((p' : Int) == (l.length : Int)) = true := by rw [beq_iff_eq]; omega
            have HPE := hid hpe
            clear hpe
            go_wp2_with fail
            go_quiet (first
              | (go_at_call 22; exact Calls.quiet_of (left_any g l p' true _ (hr6.drewN _) hl2))
              | (go_at_call 23; exact Calls.quiet_of_same ((wrong_any g l p' true _ (hr6.drewN _)).mono fun _ _ h => ⟨h.1, h.2.symm⟩))
              | (go_at_call 24; exact Calls.quiet_of (done_yes g l p' _ (hr6.drewN _) hl2 HPE.out)))
            go_wp2_with fail
            go_roundw
            case rel => exact ⟨i + 1, p', true, by omega, by go_num, hr6.drewN _, hid HX6.out, below_drewN hb6 _⟩
            case measure => simp [intOf]; omega
          · have d2 : ((p' : Int) == (l.length : Int)) = false := by rw [beq_eq_false_iff_ne]; omega
            have HPE := hid hpe
            clear hpe
            go_wp2_with fail
            go_quiet (first
              | (go_at_call 22; exact Calls.quiet_of (left_any g l p' true _ (hr6.drewN _) hl2))
              | (go_at_call 23; exact Calls.quiet_of_same ((wrong_any g l p' true _ (hr6.drewN _)).mono fun _ _ h => ⟨h.1, h.2.symm⟩))
              | (go_at_call 24; exact Calls.quiet_of (done_not g l p' _ (hr6.drewN _) hl2 HPE.out)))
            go_wp2_with fail
            go_roundw
            case rel => exact ⟨i + 1, p', true, by omega, by go_num, hr6.drewN _, hid HX6.out, below_drewN hb6 _⟩
            case measure => simp [intOf]; omega
      by_cases q2 : q = 2
      · subst q2
        obtain ⟨hh, p', r', E1⟩ : ∃ hh p' r', rdHash l p r = (hh, p', r') := ⟨_, _, _, rfl⟩
        have hhl : hh.length = 32 := by
          have := rdHash_len l p r
          rw [E1] at this
          exact this
        have HE := hid E1
        clear E1
        go_wp2_with fail
        have C := refHash_any A c p r l wr hvq hp hl2
        rw [HE.out] at C
        refine C.mono ?_
        clear C
        rintro e w3 ⟨rfl, hb3⟩
        unfold rv
        have y : RefIn w3 X A l.length c p (!r) := HX.out.below hb3
        have hX3 : X < w3.heap.size := by have := hb3.size; omega
        have hg3 : g < w3.heap.size := by have := hb3.size; omega
        go_wp2_with (first
          | (refine wpList_alloc_hash rfl rfl ?_)
          | (refine wpList_store_hash (h := nought) (h' := hh) rfl _ _ rfl rfl rfl (heap_alloc2_new _ _ _) nought_length hhl ?_; intro w4 hg4 H4 hs4; have HI := hid (hashIn y (hr.below hb3) (hbq.trans (hb3.mono hsq)) (by simp) hg4 H4); clear hg4 H4 hs4; have y0 := cell_blk HI.out.x 0; have y1 := cell_blk HI.out.x 1; have y2 := cell_blk HI.out.x 2; have yf0 := free_blk HI.out.x 0; have yf1 := free_blk HI.out.x 1; have yf2 := free_blk HI.out.x 2; have t0 := cell_blk HI.out.t13 0; have t1 := cell_blk HI.out.t13 1; have t2 := cell_blk HI.out.t13 2; simp at y0 y1 y2 t0 t1 t2)
          | (refine wpList_store_hash (h := nought) (h' := hh) rfl _ _ rfl rfl rfl (heap_alloc_new _ _) nought_length hhl ?_; intro w4 hg4 H4 hs4; have HI := hid (hashIn y (hr.below hb3) (hbq.trans (hb3.mono hsq)) (by simp) hg4 H4); clear hg4 H4 hs4; have y0 := cell_blk HI.out.x 0; have y1 := cell_blk HI.out.x 1; have y2 := cell_blk HI.out.x 2; have yf0 := free_blk HI.out.x 0; have yf1 := free_blk HI.out.x 1; have yf2 := free_blk HI.out.x 2; have t0 := cell_blk HI.out.t13 0; have t1 := cell_blk HI.out.t13 1; have t2 := cell_blk HI.out.t13 2; simp at y0 y1 y2 t0 t1 t2))
        obtain ⟨R1, R2, R3⟩ := rewritten0 HI.out.x HI.out.rd hXg.symm HI.out.below hXw p' (!r')
        have T14 : (((w4.setCell ⟨X, 0, none⟩ (.slice A l.length c)).setCell ⟨X, 1, none⟩ (.int .i64 (p' : Int))).setCell ⟨X, 2, none⟩ (.bool (!r'))).heap[w3.heap.size + 1]? = some (.cells (hcells hh) 25 (0, 0)) :=
          (heap_setCell_other _ _ _ _ (by show w3.heap.size + 1 ≠ X; omega)).trans ((heap_setCell_other _ _ _ _ (by show w3.heap.size + 1 ≠ X; omega)).trans ((heap_setCell_other _ _ _ _ (by show w3.heap.size + 1 ≠ X; omega)).trans HI.out.t14))
        clear y0 y1 y2 yf0 yf1 yf2 t0 t1 t2
        generalize (((w4.setCell ⟨X, 0, none⟩ (.slice A l.length c)).setCell ⟨X, 1, none⟩ (.int .i64 (p' : Int))).setCell ⟨X, 2, none⟩ (.bool (!r'))) = w5 at *
        have hk : w5.rangeAt (w3.heap.size + 1) 0 (bcells hh) := fun j u hu => by
          rw [Nat.zero_add, cell_of_row _ _ _ _ _ (0, 0) T14]
          simpa [hcells] using hu
        have hu := under_hash
        have hsz : (Try.prog.info? 25).map (·.size) = some (bcells hh).length := by rw [size_hash, bcells_length, hhl]
        have heq : ∀ w' : World, (Op.equalIn 10000 25 (.agg (hcells hh)) (.agg (bcells hh).toArray)).run Try.prog w' = .ok true w' := fun w' => by
          have := eq_hash hh hh hhl hhl w'
          rw [decide_eq_true rfl] at this
          exact this
        have HR1 := hid R1
        have HHI := hid HI
        clear R1 T14 y HI
        go_region_held3 (fun w' => w'.rangeAt (w3.heap.size + 1) 0 (bcells hh))
          (first
            | (exact hk6)
            | (exact hk)
            | fail)
          (first
            | (go_at_call 19; have C := rhash_any g l p r _ (R2.drewN 1) hl2; rw [HE.out] at C; refine C.mono ?_; clear C; rintro e w6 ⟨rfl, hr6, hG6a⟩; have hG6 : w5.grownBy w6 (some g) := ⟨hG6a.os, hG6a.tape, hG6a.output, hG6a.size, hG6a.block⟩; clear hG6a; have hk6 : w6.rangeAt (w3.heap.size + 1) 0 (bcells hh) := fun j u hu => hG6.cell (hk j u hu) (ne_some (show w3.heap.size + 1 ≠ g by omega)))
            | fail)
        have HX6 := hid (HR1.out.far hG6 hXg)
        have hb6 : Below w.heap.size w w6 := R3.grown hG6 R3.size (fun k hk => by injection hk; omega)
        clear HHI HR1 R2 R3 hG6 hb3 hcq x0 x1 x2 hvq HX hr hk hk6 heq hu hsz
        have hp' := hr6.le
        have z1 := cell_blk HX6.out 1
        have z2 := cell_blk HX6.out 2
        simp at z1 z2
        have d1 : ((l.length : Int) - (p' : Int) != (l.length : Int) - (p' : Int)) = false := by simp
        cases r' with
        | false =>
          go_wp2_with fail
          go_quiet (first
            | (go_at_call 22; exact Calls.quiet_of (left_any g l p' false _ (hr6.drewN _) hl2))
            | (go_at_call 23; exact Calls.quiet_of_same ((wrong_any g l p' false _ (hr6.drewN _)).mono fun _ _ h => ⟨h.1, h.2.symm⟩))
            | (go_at_call 24; exact Calls.quiet_of (done_any g l p' false _ (hr6.drewN _) hl2)))
          go_wp2_with fail
          go_roundw
          case rel => exact ⟨i + 1, p', false, by omega, by go_num, hr6.drewN _, hid HX6.out, below_drewN hb6 _⟩
          case measure => simp [intOf]; omega
        | true =>
          by_cases hpe : p' = l.length
          · have d2 : ((p' : Int) == (l.length : Int)) = true := by rw [beq_iff_eq]; omega
            have HPE := hid hpe
            clear hpe
            go_wp2_with fail
            go_quiet (first
              | (go_at_call 22; exact Calls.quiet_of (left_any g l p' true _ (hr6.drewN _) hl2))
              | (go_at_call 23; exact Calls.quiet_of_same ((wrong_any g l p' true _ (hr6.drewN _)).mono fun _ _ h => ⟨h.1, h.2.symm⟩))
              | (go_at_call 24; exact Calls.quiet_of (done_yes g l p' _ (hr6.drewN _) hl2 HPE.out)))
            go_wp2_with fail
            go_roundw
            case rel => exact ⟨i + 1, p', true, by omega, by go_num, hr6.drewN _, hid HX6.out, below_drewN hb6 _⟩
            case measure => simp [intOf]; omega
          · have d2 : ((p' : Int) == (l.length : Int)) = false := by rw [beq_eq_false_iff_ne]; omega
            have HPE := hid hpe
            clear hpe
            go_wp2_with fail
            go_quiet (first
              | (go_at_call 22; exact Calls.quiet_of (left_any g l p' true _ (hr6.drewN _) hl2))
              | (go_at_call 23; exact Calls.quiet_of_same ((wrong_any g l p' true _ (hr6.drewN _)).mono fun _ _ h => ⟨h.1, h.2.symm⟩))
              | (go_at_call 24; exact Calls.quiet_of (done_not g l p' _ (hr6.drewN _) hl2 HPE.out)))
            go_wp2_with fail
            go_roundw
            case rel => exact ⟨i + 1, p', true, by omega, by go_num, hr6.drewN _, hid HX6.out, below_drewN hb6 _⟩
            case measure => simp [intOf]; omega
      by_cases q3 : 3 ≤ q
      · have w1 : IntKind.i64.wrap (q - 3) = q - 3 := IntWalk.i64_in _ (by omega)
        obtain ⟨n, p', r', E1⟩ : ∃ n p' r', rdUpto (q - 3) l p r = (n, p', r') := ⟨_, _, _, rfl⟩
        have HE := hid E1
        clear E1
        go_wp2_with fail
        have C := refUpto_any A c p r l (q - 3) wr hvq hp hl2 (by omega) (by omega)
        rw [HE.out] at C
        refine C.mono ?_
        clear C
        rintro e w3 ⟨rfl, hb3⟩
        unfold rv
        have y : RefIn w3 X A l.length c p (!r) := HX.out.below hb3
        have y0 := cell_blk y 0
        have y1 := cell_blk y 1
        have y2 := cell_blk y 2
        have yf0 := free_blk y 0
        have yf1 := free_blk y 1
        have yf2 := free_blk y 2
        simp at y0 y1 y2
        have hX3 : X < w3.heap.size := by have := hb3.size; omega
        obtain ⟨R1, R2, R3⟩ := rewritten y (hr.below hb3) hXg.symm (hbq.trans (hb3.mono hsq)) hXw p' (!r') (.cells #[.slice A l.length c, .int .i64 (p' : Int), .bool (!r')] 39)
        have HR1 := hid R1
        have HY := hid y
        clear R1 y
        go_wp2_with fail
        have C := upto_any g l p r (q - 3) _ R2 hl2 (by omega) (by omega)
        rw [HE.out] at C
        refine C.mono ?_
        clear C
        rintro e w6 ⟨rfl, hr6, hG6⟩
        have HX6 := hid (HR1.out.far hG6 hXg)
        have hb6 : Below w.heap.size w w6 := R3.grown hG6 R3.size (fun k hk => by injection hk; omega)
        clear y0 y1 y2 yf0 yf1 yf2 HY HR1 R2 R3 hG6 hb3 hcq x0 x1 x2 hvq HX hr
        have hp' := hr6.le
        have z1 := cell_blk HX6.out 1
        have z2 := cell_blk HX6.out 2
        simp at z1 z2
        have d1 : ((l.length : Int) - (p' : Int) != (l.length : Int) - (p' : Int)) = false := by simp
        cases r' with
        | false =>
          go_wp2_with fail
          go_quiet (first
            | (go_at_call 22; exact Calls.quiet_of (left_any g l p' false _ (hr6.drewN _) hl2))
            | (go_at_call 23; exact Calls.quiet_of_same ((wrong_any g l p' false _ (hr6.drewN _)).mono fun _ _ h => ⟨h.1, h.2.symm⟩))
            | (go_at_call 24; exact Calls.quiet_of (done_any g l p' false _ (hr6.drewN _) hl2)))
          go_wp2_with fail
          go_roundw
          case rel => exact ⟨i + 1, p', false, by omega, by go_num, hr6.drewN _, hid HX6.out, below_drewN hb6 _⟩
          case measure => simp [intOf]; omega
        | true =>
          by_cases hpe : p' = l.length
          · have d2 : ((p' : Int) == (l.length : Int)) = true := by rw [beq_iff_eq]; omega
            have HPE := hid hpe
            clear hpe
            go_wp2_with fail
            go_quiet (first
              | (go_at_call 22; exact Calls.quiet_of (left_any g l p' true _ (hr6.drewN _) hl2))
              | (go_at_call 23; exact Calls.quiet_of_same ((wrong_any g l p' true _ (hr6.drewN _)).mono fun _ _ h => ⟨h.1, h.2.symm⟩))
              | (go_at_call 24; exact Calls.quiet_of (done_yes g l p' _ (hr6.drewN _) hl2 HPE.out)))
            go_wp2_with fail
            go_roundw
            case rel => exact ⟨i + 1, p', true, by omega, by go_num, hr6.drewN _, hid HX6.out, below_drewN hb6 _⟩
            case measure => simp [intOf]; omega
          · have d2 : ((p' : Int) == (l.length : Int)) = false := by rw [beq_eq_false_iff_ne]; omega
            have HPE := hid hpe
            clear hpe
            go_wp2_with fail
            go_quiet (first
              | (go_at_call 22; exact Calls.quiet_of (left_any g l p' true _ (hr6.drewN _) hl2))
              | (go_at_call 23; exact Calls.quiet_of_same ((wrong_any g l p' true _ (hr6.drewN _)).mono fun _ _ h => ⟨h.1, h.2.symm⟩))
              | (go_at_call 24; exact Calls.quiet_of (done_not g l p' _ (hr6.drewN _) hl2 HPE.out)))
            go_wp2_with fail
            go_roundw
            case rel => exact ⟨i + 1, p', true, by omega, by go_num, hr6.drewN _, hid HX6.out, below_drewN hb6 _⟩
            case measure => simp [intOf]; omega
      · have qn : q < 0 := by omega
        obtain ⟨n, p', r', E1⟩ : ∃ n p' r', rdUpto q l p r = (n, p', r') := ⟨_, _, _, rfl⟩
        have HE := hid E1
        clear E1
        go_wp2_with fail
        have C := refUpto_any A c p r l q wr hvq hp hl2 (by omega) (by omega)
        rw [HE.out] at C
        refine C.mono ?_
        clear C
        rintro e w3 ⟨rfl, hb3⟩
        unfold rv
        have y : RefIn w3 X A l.length c p (!r) := HX.out.below hb3
        have y0 := cell_blk y 0
        have y1 := cell_blk y 1
        have y2 := cell_blk y 2
        have yf0 := free_blk y 0
        have yf1 := free_blk y 1
        have yf2 := free_blk y 2
        simp at y0 y1 y2
        have hX3 : X < w3.heap.size := by have := hb3.size; omega
        obtain ⟨R1, R2, R3⟩ := rewritten y (hr.below hb3) hXg.symm (hbq.trans (hb3.mono hsq)) hXw p' (!r') (.cells #[.slice A l.length c, .int .i64 (p' : Int), .bool (!r')] 39)
        have HR1 := hid R1
        have HY := hid y
        clear R1 y
        go_wp2_with fail
        have C := upto_any g l p r q _ R2 hl2 (by omega) (by omega)
        rw [HE.out] at C
        refine C.mono ?_
        clear C
        rintro e w6 ⟨rfl, hr6, hG6⟩
        have HX6 := hid (HR1.out.far hG6 hXg)
        have hb6 : Below w.heap.size w w6 := R3.grown hG6 R3.size (fun k hk => by injection hk; omega)
        clear y0 y1 y2 yf0 yf1 yf2 HY HR1 R2 R3 hG6 hb3 hcq x0 x1 x2 hvq HX hr
        have hp' := hr6.le
        have z1 := cell_blk HX6.out 1
        have z2 := cell_blk HX6.out 2
        simp at z1 z2
        have d1 : ((l.length : Int) - (p' : Int) != (l.length : Int) - (p' : Int)) = false := by simp
        cases r' with
        | false =>
          go_wp2_with fail
          go_quiet (first
            | (go_at_call 22; exact Calls.quiet_of (left_any g l p' false _ (hr6.drewN _) hl2))
            | (go_at_call 23; exact Calls.quiet_of_same ((wrong_any g l p' false _ (hr6.drewN _)).mono fun _ _ h => ⟨h.1, h.2.symm⟩))
            | (go_at_call 24; exact Calls.quiet_of (done_any g l p' false _ (hr6.drewN _) hl2)))
          go_wp2_with fail
          go_roundw
          case rel => exact ⟨i + 1, p', false, by omega, by go_num, hr6.drewN _, hid HX6.out, below_drewN hb6 _⟩
          case measure => simp [intOf]; omega
        | true =>
          by_cases hpe : p' = l.length
          · have d2 : ((p' : Int) == (l.length : Int)) = true := by rw [beq_iff_eq]; omega
            have HPE := hid hpe
            clear hpe
            go_wp2_with fail
            go_quiet (first
              | (go_at_call 22; exact Calls.quiet_of (left_any g l p' true _ (hr6.drewN _) hl2))
              | (go_at_call 23; exact Calls.quiet_of_same ((wrong_any g l p' true _ (hr6.drewN _)).mono fun _ _ h => ⟨h.1, h.2.symm⟩))
              | (go_at_call 24; exact Calls.quiet_of (done_yes g l p' _ (hr6.drewN _) hl2 HPE.out)))
            go_wp2_with fail
            go_roundw
            case rel => exact ⟨i + 1, p', true, by omega, by go_num, hr6.drewN _, hid HX6.out, below_drewN hb6 _⟩
            case measure => simp [intOf]; omega
          · have d2 : ((p' : Int) == (l.length : Int)) = false := by rw [beq_eq_false_iff_ne]; omega
            have HPE := hid hpe
            clear hpe
            go_wp2_with fail
            go_quiet (first
              | (go_at_call 22; exact Calls.quiet_of (left_any g l p' true _ (hr6.drewN _) hl2))
              | (go_at_call 23; exact Calls.quiet_of_same ((wrong_any g l p' true _ (hr6.drewN _)).mono fun _ _ h => ⟨h.1, h.2.symm⟩))
              | (go_at_call 24; exact Calls.quiet_of (done_not g l p' _ (hr6.drewN _) hl2 HPE.out)))
            go_wp2_with fail
            go_roundw
            case rel => exact ⟨i + 1, p', true, by omega, by go_num, hr6.drewN _, hid HX6.out, below_drewN hb6 _⟩
            case measure => simp [intOf]; omega
    · obtain rfl : i = n2 := by omega
      go_wp2_with fail
      refine (awake_any _).mono ?_
      rintro e w' ⟨rfl, hba⟩
      go_wp2_with fail
      go_ret
      exact ⟨rfl, hbq.trans (hba.mono hbq.size)⟩
end Go.Proofs.Ytggonealcpbonaa
