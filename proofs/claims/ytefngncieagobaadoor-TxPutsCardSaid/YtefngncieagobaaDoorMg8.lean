/-
  Sched Turn Run: what each of them says stands at its head.
-/
import Derived.Test.YtefngncieagobaaDoorMg7
import Derived.StillTailTactics
import Derived.RegionTactic
import Derived.BigRegion
import Derived.Deep.QuietTactic
import Derived.BigQuiet
/-
  sha.words gives the 64 words that a block makes.
-/
namespace Go.Proofs.YtefngncieagobaaDoor
open Go.RowKit

/-- The words that have been made behind i rounds. -/
def part (W : Nat → UInt32) (i j : Nat) : Value := if j < i then wc (W j) else wc 0

theorem part_set (W : Nat → UInt32) (i j : Nat) : (if j = i then wc (W i) else part W i j) = part W (i + 1) j := by
  unfold part
  by_cases h : j = i
  · subst h
    rw [if_pos rfl, if_pos (by omega)]
  · rw [if_neg h]
    by_cases h2 : j < i
    · rw [if_pos h2, if_pos (by omega)]
    · rw [if_neg h2, if_neg (by omega)]
theorem u32_wrap (n : Nat) (h : n < 4294967296) : IntKind.u32.wrap (n : Int) = (n : Int) := by
  rw [IntKind.wrap_u32']
  omega
theorem four_or (a b c d : UInt8) : bits BinOp.or IntKind.u32 (bits BinOp.or IntKind.u32 (bits BinOp.or IntKind.u32 (IntKind.u32.wrap (IntKind.u32.wrap (a.toNat : Int) * 16777216)) (IntKind.u32.wrap (IntKind.u32.wrap (b.toNat : Int) * 65536))) (IntKind.u32.wrap (IntKind.u32.wrap (c.toNat : Int) * 256))) (IntKind.u32.wrap (d.toNat : Int)) = wv (four a b c d) := by
  have ha := a.toNat_lt
  have hb := b.toNat_lt
  have hc := c.toNat_lt
  have hd := d.toNat_lt
  unfold four
  generalize a.toNat = A at *
  generalize b.toNat = B at *
  generalize c.toNat = C at *
  generalize d.toNat = D at *
  have e1 : IntKind.u32.wrap (IntKind.u32.wrap (A : Int) * 16777216) = ((A * 16777216 : Nat) : Int) := by rw [u32_wrap A (by omega), show (A : Int) * 16777216 = ((A * 16777216 : Nat) : Int) by omega, u32_wrap _ (by omega)]
  have e2 : IntKind.u32.wrap (IntKind.u32.wrap (B : Int) * 65536) = ((B * 65536 : Nat) : Int) := by rw [u32_wrap B (by omega), show (B : Int) * 65536 = ((B * 65536 : Nat) : Int) by omega, u32_wrap _ (by omega)]
  have e3 : IntKind.u32.wrap (IntKind.u32.wrap (C : Int) * 256) = ((C * 256 : Nat) : Int) := by rw [u32_wrap C (by omega), show (C : Int) * 256 = ((C * 256 : Nat) : Int) by omega, u32_wrap _ (by omega)]
  rw [e1, e2, e3, u32_wrap D (by omega), wv_of _ (by omega)]
  rw [u32_or_nat _ _ (by omega) (by omega), nat_join 24 _ _ (by omega) (by omega), u32_or_nat _ _ (by omega) (by omega), nat_join 16 _ _ (by omega) (by omega), u32_or_nat _ _ (by omega) (by omega), nat_join 8 _ _ (by omega) (by omega)]

theorem wv_sum4 (a b c d : UInt32) : (wv a + wv b + wv c + wv d) % 4294967296 = wv (a + b + c + d) := by
  rw [← wv_add (a + b + c) d, ← wv_add (a + b) c, ← wv_add a b]
  omega
theorem wv_wadd (x y : UInt32) : IntKind.u32.wrap (wv x + wv y) = wv (x + y) := by rw [IntKind.wrap_u32', wv_add]
theorem sm1_still (x : UInt32) (w : World) : Calls Tryd.prog 51 #[.int .u32 (wv x)] w fun e w' => e = .returned (.int .u32 (wv (sm1 x))) ∧ w' = w := (sm1_any x w).mono fun _ _ ⟨h, h2⟩ => ⟨h, h2.symm⟩
theorem sm0_still (x : UInt32) (w : World) : Calls Tryd.prog 52 #[.int .u32 (wv x)] w fun e w' => e = .returned (.int .u32 (wv (sm0 x))) ∧ w' = w := (sm0_any x w).mono fun _ _ ⟨h, h2⟩ => ⟨h, h2.symm⟩

set_option maxHeartbeats 1600000 in
theorem words_any (b : Nat → UInt8) (g : Nat) (t : TypeId) (w : World) (hg : Blk w g 64 (fun j => bcell (b j)) t) :
    Calls Tryd.prog 46 #[.pointer (some ⟨g, 0, none⟩)] w fun e w' => e = .returned (.agg (fcells 64 fun j => wc (wd b j))) ∧ Below w.heap.size w w' := by
  have hlt := hg.lt
  go_enter Tryd.func46, Tryd.ntmps46
  go_wp2_with (refine wpList_alloc_arr arrW rfl rfl ?_)
  have hG2 : Blk ((w.alloc (.cells (fcells 64 fun _ => wc 0) 70)).alloc (.cells (fcells 64 fun _ => wc 0) 70)) w.heap.size 64 (fun _ => wc 0) 70 := (Blk.new w 64 (fun _ => wc 0) 70).alloc _
  have hG3 : Blk ((w.alloc (.cells (fcells 64 fun _ => wc 0) 70)).alloc (.cells (fcells 64 fun _ => wc 0) 70)) (w.heap.size + 1) 64 (fun _ => wc 0) 70 := heap_alloc2_new w _ _
  have hbw0 : Below w.heap.size w ((w.alloc (.cells (fcells 64 fun _ => wc 0) 70)).alloc (.cells (fcells 64 fun _ => wc 0) 70)) := ((Below.refl _ _).alloc (Nat.le_refl _) _).alloc (by simp) _
  generalize ((w.alloc (.cells (fcells 64 fun _ => wc 0) 70)).alloc (.cells (fcells 64 fun _ => wc 0) 70)) = w0 at *
  go_wp2
  go_loopw [6] (fun si wr => ∃ i : Nat, i ≤ 16 ∧ si = .int .i64 i ∧ Below w.heap.size w wr ∧ Blk wr w.heap.size 64 (fun _ => wc 0) 70 ∧ Blk wr (w.heap.size + 1) 64 (part (wd b) i) 70) (fun si _ => 16 - (intOf si).toNat)
  case atStart => exact ⟨0, by omega, rfl, hbw0, hG2, hG3.congr fun i _ => by simp [part]⟩
  case round =>
    obtain ⟨i, hi, rfl, hbw, hA, hB⟩ := hrel
    by_cases hlt2 : i < 16
    · have hgr := hg.keep hbw
      obtain ⟨J, HJ⟩ : ∃ J : Nat, Hid (4 * i = J) := ⟨_, hid rfl⟩
      have hJ : J + 3 < 64 := by have := HJ.out; omega
      have c0 := hgr.cell (i := J) (by omega)
      have c1 := hgr.cell (i := J + 1) (by omega)
      have c2 := hgr.cell (i := J + 2) (by omega)
      have c3 := hgr.cell (i := J + 3) (by omega)
      have q0 : IntKind.i64.wrap (4 * (i : Int)) = (J : Int) := by rw [IntWalk.i64_in _ (by omega)]; have := HJ.out; omega
      have q1 : IntKind.i64.wrap ((J : Int) + 1) = (J : Int) + 1 := IntWalk.i64_in _ (by omega)
      have q2 : IntKind.i64.wrap ((J : Int) + 2) = (J : Int) + 2 := IntWalk.i64_in _ (by omega)
      have q3 : IntKind.i64.wrap ((J : Int) + 3) = (J : Int) + 3 := IntWalk.i64_in _ (by omega)
      have r1 : ((J : Int) + 1).toNat = J + 1 := by omega
      have r2 : ((J : Int) + 2).toNat = J + 2 := by omega
      have r3 : ((J : Int) + 3).toNat = J + 3 := by omega
      have s0 : (J : Int) < 64 := by omega
      have s1 : (J : Int) + 1 < 64 := by omega
      have s2 : (J : Int) + 2 < 64 := by omega
      have s3 : (J : Int) + 3 < 64 := by omega
      have u1 : 0 ≤ (J : Int) + 1 := by omega
      have u2 : 0 ≤ (J : Int) + 2 := by omega
      have u3 : 0 ≤ (J : Int) + 3 := by omega
      unfold bcell at c0 c1 c2 c3
      have k3 := hB.cell (i := i) (by omega)
      have f3 := hB.free i
      have hi16 : (i : Int) < 16 := by omega
      go_wp2_with fail
      go_still_tail 38, (by kernel_rfl)
      rw [four_or]
      change wpList _ _ _ _ _ wr.drew
      clear q0 q1 q2 q3 r1 r2 r3
      go_wp2_with fail
      go_roundw
      case rel =>
        refine ⟨i + 1, by omega, by go_num, (hbw.drew).setCell (by simp) _, hA.drew.apart _ _ (by simp), ((hB.drew).set (i := i) (by omega) _).congr fun j _ => ?_⟩
        rw [← part_set, wd_low b hlt2]
        unfold wordB
        rw [HJ.out]
        rfl
      case measure => simp [intOf]; omega
    · have HB16 : Hid (Blk wr (w.heap.size + 1) 64 (part (wd b) 16) 70) := by
        have e : i = 16 := by omega
        rw [← e]
        exact hid hB
      obtain ⟨m, rfl⟩ : ∃ m : Nat, i = m := ⟨i, rfl⟩
      go_wp2_with fail
      go_loopw [5] (fun si wr => ∃ i : Nat, 16 ≤ i ∧ i ≤ 64 ∧ si = .int .i64 i ∧ Below w.heap.size w wr ∧ Blk wr w.heap.size 64 (fun _ => wc 0) 70 ∧ Blk wr (w.heap.size + 1) 64 (part (wd b) i) 70) (fun si _ => 64 - (intOf si).toNat)
      case atStart => exact ⟨16, by omega, by omega, rfl, hbw, hA, HB16.out⟩
      case round =>
        clear hA hB hbw HB16
        obtain ⟨i, hi0, hi, rfl, hbw, hA, hB⟩ := hrel
        by_cases hlt2 : i < 64
        · obtain ⟨a2, H2⟩ : ∃ a2 : Nat, Hid (a2 + 2 = i) := ⟨i - 2, hid (by omega)⟩
          obtain ⟨a7, H7⟩ : ∃ a7 : Nat, Hid (a7 + 7 = i) := ⟨i - 7, hid (by omega)⟩
          obtain ⟨a15, H15⟩ : ∃ a15 : Nat, Hid (a15 + 15 = i) := ⟨i - 15, hid (by omega)⟩
          obtain ⟨a16, H16⟩ : ∃ a16 : Nat, Hid (a16 + 16 = i) := ⟨i - 16, hid (by omega)⟩
          have b2 : a2 < 64 := by have := H2.out; omega
          have b7 : a7 < 64 := by have := H7.out; omega
          have b15 : a15 < 64 := by have := H15.out; omega
          have b16 : a16 < 64 := by have := H16.out; omega
          have q2 : IntKind.i64.wrap ((i : Int) - 2) = (a2 : Int) := by rw [IntWalk.i64_in _ (by omega)]; have := H2.out; omega
          have q7 : IntKind.i64.wrap ((i : Int) - 7) = (a7 : Int) := by rw [IntWalk.i64_in _ (by omega)]; have := H7.out; omega
          have q15 : IntKind.i64.wrap ((i : Int) - 15) = (a15 : Int) := by rw [IntWalk.i64_in _ (by omega)]; have := H15.out; omega
          have q16 : IntKind.i64.wrap ((i : Int) - 16) = (a16 : Int) := by rw [IntWalk.i64_in _ (by omega)]; have := H16.out; omega
          have c2 := hB.cell (i := a2) (by omega)
          have c7 := hB.cell (i := a7) (by omega)
          have c15 := hB.cell (i := a15) (by omega)
          have c16 := hB.cell (i := a16) (by omega)
          have e2 : part (wd b) i a2 = .int .u32 (wv (wd b a2)) := if_pos (by have := H2.out; omega)
          have e7 : part (wd b) i a7 = .int .u32 (wv (wd b a7)) := if_pos (by have := H7.out; omega)
          have e15 : part (wd b) i a15 = .int .u32 (wv (wd b a15)) := if_pos (by have := H15.out; omega)
          have e16 : part (wd b) i a16 = .int .u32 (wv (wd b a16)) := if_pos (by have := H16.out; omega)
          rw [e2] at c2
          rw [e7] at c7
          rw [e15] at c15
          rw [e16] at c16
          have k3 := hB.cell (i := i) (by omega)
          have f3 := hB.free i
          have hi64 : (i : Int) < 64 := by omega
          have l2 : (a2 : Int) < 64 := by omega
          have l7 : (a7 : Int) < 64 := by omega
          have l15 : (a15 : Int) < 64 := by omega
          have l16 : (a16 : Int) < 64 := by omega
          clear e2 e7 e15 e16
          go_wp2_with fail
          refine wp_region_still_tail 22 (by kernel_rfl) (by kernel_rfl) ?_
          simp only [List.take_succ_cons, List.take_zero, List.drop_succ_cons, List.drop_zero]
          repeat still_step
          still_call (sm1_still _ _)
          repeat still_step
          still_call (sm0_still _ _)
          repeat still_step
          refine wpStill_nil ?_
          change wpList _ _ _ _ _ wr.drew
          clear q2 q7 q15 q16
          go_wp2_with fail
          go_roundw
          case rel =>
            refine ⟨i + 1, by omega, by omega, by go_num, (hbw.drew).setCell (by simp) _, hA.drew.apart _ _ (by simp), ((hB.drew).set (i := i) (by omega) _).congr fun j _ => ?_⟩
            rw [← part_set, wd_high b hi0 hlt2, show i - 2 = a2 from by have := H2.out; omega, show i - 7 = a7 from by have := H7.out; omega, show i - 15 = a15 from by have := H15.out; omega, show i - 16 = a16 from by have := H16.out; omega]
            rw [wv_sum4]
            rfl
          case measure => simp [intOf]; omega
        · obtain rfl : i = 64 := by omega
          have hB2 : Blk wr (w.heap.size + 1) 64 (fun j => wc (wd b j)) 70 := hB.congr fun j hj => if_pos hj
          go_wp2_with (first
            | (refine wpList_load_arr arrW rfl _ rfl rfl hB2 ?_)
            | (refine wpList_store_arr arrW rfl _ _ rfl rfl rfl hA (fun _ _ => rfl) ?_; intro w9 hg9 hA9 hs9))
          refine bodyPost_ret (arrW.result rfl _ _ rfl hA9) rfl ⟨rfl, ?_⟩
          exact below_into hbw (g := w.heap.size) (Nat.le_refl _) hg9 hbw.size
end Go.Proofs.YtefngncieagobaaDoor

/-
  sha.Turn gives the state behind a block.
-/
namespace Go.Proofs.YtefngncieagobaaDoor
open Go.RowKit

/-- A variable of the package's holds the constants. -/
def Kst (g : Nat) (w : World) : Prop := g < w.heap.size ∧ ∀ j, j < 64 → w.cell? ⟨g, j, none⟩ = some (.int .u32 (wv (kc j)))
theorem Kst.below {g : Nat} {w w' : World} (h : Kst g w) (hb : Below w.heap.size w w') : Kst g w' :=
  ⟨Nat.lt_of_lt_of_le h.1 hb.size, fun j hj => (hb.cell (p := ⟨g, j, none⟩) h.1).trans (h.2 j hj)⟩
theorem Kst.grown {g : Nat} {w w' : World} (h : Kst g w) {row : Option Nat} (hg : w.grownBy w' row) (hr : row ≠ some g) : Kst g w' :=
  ⟨Nat.lt_of_lt_of_le h.1 hg.size, fun j hj => (World.cell?_of_block (hg.block g h.1 (fun e => hr e.symm))).trans (h.2 j hj)⟩

theorem bg1_still (x : UInt32) (w : World) : Calls Tryd.prog 47 #[.int .u32 (wv x)] w fun e w' => e = .returned (.int .u32 (wv (bg1 x))) ∧ w' = w := (bg1_any x w).mono fun _ _ ⟨h, h2⟩ => ⟨h, h2.symm⟩
theorem chc_still (x y z : UInt32) (w : World) : Calls Tryd.prog 48 #[.int .u32 (wv x), .int .u32 (wv y), .int .u32 (wv z)] w fun e w' => e = .returned (.int .u32 (wv (chc x y z))) ∧ w' = w := (chc_any x y z w).mono fun _ _ ⟨h, h2⟩ => ⟨h, h2.symm⟩
theorem bg0_same (x : UInt32) (w : World) : Calls Tryd.prog 49 #[.int .u32 (wv x)] w fun e w' => e = .returned (.int .u32 (wv (bg0 x))) ∧ w = w' := bg0_any x w
theorem maj_same (x y z : UInt32) (w : World) : Calls Tryd.prog 50 #[.int .u32 (wv x), .int .u32 (wv y), .int .u32 (wv z)] w fun e w' => e = .returned (.int .u32 (wv (maj x y z))) ∧ w = w' := maj_any x y z w

theorem wv_sum5 (a b c d e : UInt32) : (wv a + wv b + wv c + wv d + wv e) % 4294967296 = wv (a + b + c + d + e) := by
  rw [← wv_add (a + b + c + d) e, ← wv_sum4]
  omega

theorem quiet2 {P : Program} {f : FuncId} {args : Array Value} {w : World} {n m : Nat} {v : Value}
    (h : Calls P f args (w.drewN (n + m)) fun e w' => e = .returned v ∧ w' = w.drewN (n + m)) : Calls P f args (w.drewN (n + m)) fun e w'' => e = .returned v ∧ ∃ k, w'' = w.drewN (n + k) :=
  h.mono fun _ _ ⟨he, hm⟩ => ⟨he, m, hm⟩

/-- Eight words as they are built. -/
def eight (v : Nat → Value) : Array Value := #[v 0, v 1, v 2, v 3, v 4, v 5, v 6, v 7]
theorem eight_eq (v : Nat → Value) : eight v = fcells 8 v := rfl

set_option maxHeartbeats 3200000 in
set_option maxRecDepth 100000 in
theorem turn_any (s : Nat → UInt32) (b : Nat → UInt8) (w : World) (hK : Kst 1 w) :
    Calls Tryd.prog 43 #[.agg (fcells 8 fun j => wc (s j)), .agg (fcells 64 fun j => bcell (b j))] w fun e w' => e = .returned (.agg (fcells 8 fun j => wc (turnS s b j))) ∧ Below w.heap.size w w' := by
  have h1 := hK.1
  go_enter Tryd.func43, Tryd.ntmps43
  go_wp2_with (refine wpList_alloc_arr arrS rfl rfl ?_)
  have hA : Blk (((w.alloc (.cells (fcells 8 fun j => wc (s j)) 57)).alloc (.cells (fcells 64 fun j => bcell (b j)) 59)).alloc (.cells (fcells 8 fun _ => wc 0) 57)) w.heap.size 8 (fun j => wc (s j)) 57 := ((Blk.new w _ _ _).alloc _).alloc _
  have hB : Blk (((w.alloc (.cells (fcells 8 fun j => wc (s j)) 57)).alloc (.cells (fcells 64 fun j => bcell (b j)) 59)).alloc (.cells (fcells 8 fun _ => wc 0) 57)) (w.heap.size + 1) 64 (fun j => bcell (b j)) 59 := Blk.alloc (heap_alloc2_new w _ _) _
  have hC : Blk (((w.alloc (.cells (fcells 8 fun j => wc (s j)) 57)).alloc (.cells (fcells 64 fun j => bcell (b j)) 59)).alloc (.cells (fcells 8 fun _ => wc 0) 57)) (w.heap.size + 1 + 1) 8 (fun _ => wc 0) 57 := by
    have := Blk.new ((w.alloc (.cells (fcells 8 fun j => wc (s j)) 57)).alloc (.cells (fcells 64 fun j => bcell (b j)) 59)) 8 (fun _ => wc 0) 57
    simpa using this
  have hbw : Below w.heap.size w (((w.alloc (.cells (fcells 8 fun j => wc (s j)) 57)).alloc (.cells (fcells 64 fun j => bcell (b j)) 59)).alloc (.cells (fcells 8 fun _ => wc 0) 57)) := (((Below.refl _ _).alloc (Nat.le_refl _) _).alloc (by simp) _).alloc (by simp; omega) _
  have hsz : (((w.alloc (.cells (fcells 8 fun j => wc (s j)) 57)).alloc (.cells (fcells 64 fun j => bcell (b j)) 59)).alloc (.cells (fcells 8 fun _ => wc 0) 57)).heap.size = w.heap.size + 3 := by simp
  have hp : ((w.alloc (.cells (fcells 8 fun j => wc (s j)) 57)).alloc (.cells (fcells 64 fun j => bcell (b j)) 59)).heap.size = w.heap.size + 1 + 1 := by simp
  rw [hp]
  clear hp
  generalize (((w.alloc (.cells (fcells 8 fun j => wc (s j)) 57)).alloc (.cells (fcells 64 fun j => bcell (b j)) 59)).alloc (.cells (fcells 8 fun _ => wc 0) 57)) = w0 at *
  have Hsz := hid hsz
  clear hsz
  have hl0 := hA.cell (i := 0) (by omega)
  have hl1 := hA.cell (i := 1) (by omega)
  have hl2 := hA.cell (i := 2) (by omega)
  have hl3 := hA.cell (i := 3) (by omega)
  have hl4 := hA.cell (i := 4) (by omega)
  have hl5 := hA.cell (i := 5) (by omega)
  have hl6 := hA.cell (i := 6) (by omega)
  have hl7 := hA.cell (i := 7) (by omega)
  unfold wc at hl0 hl1 hl2 hl3 hl4 hl5 hl6 hl7
  go_wp2
  go_quiet (fail)
  go_wp2_with fail
  have hq0 : Below w.heap.size w (w0.drewN nq) := below_drewN hbw _
  refine (words_any b (w.heap.size + 1) _ (w0.drewN nq) (hB.drewN _)).mono ?_
  rintro e w1 ⟨rfl, hb1⟩
  obtain ⟨WA, HWA⟩ : ∃ WA : Value, Hid (Value.agg (fcells 64 fun j => wc (wd b j)) = WA) := ⟨_, hid rfl⟩
  rw [HWA.out]
  have hidx : ∀ (i : Nat), i < 64 → ∀ w, (Instr.index 70 WA (.int .i64 (i : Int))).run Tryd.prog w = .ok (.int .u32 (wv (wd b i))) w := fun i hi w => by
    rw [← HWA.out]
    exact arrW.run_index _ hi w
  have hbw1 : Below w.heap.size w w1 := hq0.trans (hb1.mono (by show w.heap.size ≤ w0.heap.size; have := Hsz.out; omega))
  have hA1 : Blk w1 w.heap.size 8 (fun j => wc (s j)) 57 := Blk.keep (w := w0.drewN nq) hA hb1
  have hC1 : Blk w1 (w.heap.size + 1 + 1) 8 (fun _ => wc 0) 57 := Blk.keep (w := w0.drewN nq) hC hb1
  have hK1 := hK.below hbw1
  clear hl0 hl1 hl2 hl3 hl4 hl5 hl6 hl7 hq0 hb1 hA hB hC hbw Hsz
  go_wp2_with fail
  go_loopw [5, 6, 7, 8, 9, 10, 11, 12, 34] (fun a0 a1 a2 a3 a4 a5 a6 a7 si wr => ∃ (i : Nat) (xa xb xc xd xe xf xg xh : UInt32), i ≤ 64 ∧ si = .int .i64 i ∧ Hid (rnds (wd b) i (St.of s) = ⟨xa, xb, xc, xd, xe, xf, xg, xh⟩) ∧ a0 = .int .u32 (wv xa) ∧ a1 = .int .u32 (wv xb) ∧ a2 = .int .u32 (wv xc) ∧ a3 = .int .u32 (wv xd) ∧ a4 = .int .u32 (wv xe) ∧ a5 = .int .u32 (wv xf) ∧ a6 = .int .u32 (wv xg) ∧ a7 = .int .u32 (wv xh) ∧ ∃ n, wr = w1.drewN n) (fun _ _ _ _ _ _ _ _ si _ => 64 - (intOf si).toNat)
  case atStart => exact ⟨0, s 0, s 1, s 2, s 3, s 4, s 5, s 6, s 7, by omega, rfl, hid rfl, rfl, rfl, rfl, rfl, rfl, rfl, rfl, rfl, 0, rfl⟩
  case round =>
    obtain ⟨i, xa, xb, xc, xd, xe, xf, xg, xh, hi, rfl, HV, rfl, rfl, rfl, rfl, rfl, rfl, rfl, rfl, n, rfl⟩ := hrel
    by_cases hlt : i < 64
    · have hx := hidx i hlt
      have hk := hK1.2 i hlt
      have hi64 : (i : Int) < 64 := by omega
      have h11 := hK1.1
      clear hidx
      go_wp2_with fail
      go_quiet ((first
        | (go_at_call 47; exact quiet2 (bg1_still _ _))
        | (go_at_call 48; exact quiet2 (chc_still _ _ _ _))))
      go_wp2_with (first
        | (go_at_call 49; refine (bg0_same _ _).mono ?_; rintro e w' ⟨rfl, rfl⟩)
        | (go_at_call 50; refine (maj_same _ _ _ _).mono ?_; rintro e w' ⟨rfl, rfl⟩))
      go_roundw
      case rel =>
        exact ⟨i + 1, (xh + bg1 xe + chc xe xf xg + kc i + wd b i) + (bg0 xa + maj xa xb xc), xa, xb, xc, xd + (xh + bg1 xe + chc xe xf xg + kc i + wd b i), xe, xf, xg, by omega, by go_num, hid (by unfold rnds; rw [HV.out]; rfl), by rw [wv_sum5, wv_add, wv_add], rfl, rfl, rfl, by rw [wv_sum5, wv_add], rfl, rfl, rfl, n + nq, rfl⟩
      case measure => simp [intOf]; omega
    · have HI := hid (show i = 64 by omega)
      have hge : ¬ (i : Int) < 64 := by omega
      have hl0 := hA1.cell (i := 0) (by omega)
      have hl1 := hA1.cell (i := 1) (by omega)
      have hl2 := hA1.cell (i := 2) (by omega)
      have hl3 := hA1.cell (i := 3) (by omega)
      have hl4 := hA1.cell (i := 4) (by omega)
      have hl5 := hA1.cell (i := 5) (by omega)
      have hl6 := hA1.cell (i := 6) (by omega)
      have hl7 := hA1.cell (i := 7) (by omega)
      unfold wc at hl0 hl1 hl2 hl3 hl4 hl5 hl6 hl7
      have hltA := hA1.lt
      clear hidx
      go_wp2_with (refine wpList_store_arr arrS (f' := fun j => .int .u32 ([(wv (s 0) + wv xa) % 4294967296, (wv (s 1) + wv xb) % 4294967296, (wv (s 2) + wv xc) % 4294967296, (wv (s 3) + wv xd) % 4294967296, (wv (s 4) + wv xe) % 4294967296, (wv (s 5) + wv xf) % 4294967296, (wv (s 6) + wv xg) % 4294967296, (wv (s 7) + wv xh) % 4294967296].getD j 0)) rfl _ _ rfl rfl rfl (hC1.drewN n) (fun _ _ => rfl) ?_; intro w9 hg9 hC9 hs9)
      have hres : ∀ j, j < 8 → Value.int .u32 ([(wv (s 0) + wv xa) % 4294967296, (wv (s 1) + wv xb) % 4294967296, (wv (s 2) + wv xc) % 4294967296, (wv (s 3) + wv xd) % 4294967296, (wv (s 4) + wv xe) % 4294967296, (wv (s 5) + wv xf) % 4294967296, (wv (s 6) + wv xg) % 4294967296, (wv (s 7) + wv xh) % 4294967296].getD j 0) = wc (turnS s b j) := by
        have hv := HV.out
        rw [HI.out] at hv
        intro j hj
        unfold turnS
        rw [hv]
        obtain rfl | rfl | rfl | rfl | rfl | rfl | rfl | rfl : j = 0 ∨ j = 1 ∨ j = 2 ∨ j = 3 ∨ j = 4 ∨ j = 5 ∨ j = 6 ∨ j = 7 := by omega
        all_goals exact congrArg (Value.int .u32) (wv_add _ _)
      refine bodyPost_ret (arrS.result rfl _ _ rfl (hC9.congr hres)) rfl ⟨rfl, ?_⟩
      exact below_into (below_drewN hbw1 n) (by omega) hg9 (by show w.heap.size ≤ w1.heap.size; omega)
end Go.Proofs.YtefngncieagobaaDoor

/-
  A sum under way, in memory; sha's put goes on with bytes.
-/
namespace Go.Proofs.YtefngncieagobaaDoor
open Go.RowKit

/-- The cells of a sum under way: the state, the block, how many bytes there were. -/
def runf (s : Nat → UInt32) (b : Nat → UInt8) (n : Nat) (j : Nat) : Value := if j < 8 then wc (s j) else if j < 72 then bcell (b (j - 8)) else .int .u64 (n : Int)

/-- Block g is the sum under way of the bytes l. -/
def Run (w : World) (g : Nat) (l : List UInt8) : Prop :=
  ∃ b : Nat → UInt8, Blk w g 73 (runf (absb l (l.length / 64)) b l.length) 61 ∧ ∀ j, j < l.length % 64 → b j = l.getD (64 * (l.length / 64) + j) 0

theorem Run.lt {w : World} {g : Nat} {l : List UInt8} (h : Run w g l) : g < w.heap.size := by
  obtain ⟨b, hb, _⟩ := h
  exact hb.lt
theorem Run.grown {w w' : World} {g : Nat} {l : List UInt8} (h : Run w g l) {row : Option Nat} (hg : w.grownBy w' row) (hr : row ≠ some g) : Run w' g l := by
  obtain ⟨b, hb, h2⟩ := h
  exact ⟨b, hb.grown hg hr, h2⟩
theorem Run.keep {w w' : World} {g : Nat} {l : List UInt8} (h : Run w g l) (hb : Below w.heap.size w w') : Run w' g l := h.grown (grown_below hb none) (by simp)

theorem Byt.cut {w : World} {A : Option Addr} {l : List UInt8} {c p : Nat} (h : Byt w (.slice A l.length c) l) (hp : p ≤ l.length) :
    Byt w (.slice (if c = p then A else A.map (·.add p)) (l.length - p) (c - p)) (l.drop p) := by
  obtain ⟨_, h1, h2, h3⟩ := h.at_
  refine ⟨_, c - p, by rw [List.length_drop], by rw [List.length_drop]; omega, by omega, fun hl => ?_⟩
  rw [List.length_drop] at hl
  obtain ⟨b, off, rfl, hb, hc⟩ := h3 (by omega)
  rw [if_neg (by omega)]
  refine ⟨b, off + p, by rw [Option.map_some, addr_add], hb, fun j hj => ?_⟩
  rw [List.length_drop] at hj
  rw [Nat.add_assoc, hc (p + j) (by omega), List.getElem_drop]
/-- Where a cut slice lies. -/
theorem cut_own {A : Option Addr} {n c m d p : Nat} : (Value.slice (if c = p then A else A.map (·.add p)) m d).ownBlock = (Value.slice A n c).ownBlock ∨ (Value.slice (if c = p then A else A.map (·.add p)) m d).ownBlock = none := by
  by_cases h : c = p
  · rw [if_pos h]
    cases A <;> simp [Value.ownBlock]
  · rw [if_neg h]
    rcases A with _ | ⟨b, o, sp⟩
    · simp [Value.ownBlock]
    · cases sp <;> (simp [Value.ownBlock, Addr.add]; split <;> rfl)

/-- 'b[k:]' at bytes. -/
theorem wpList_cut {ops : Array Oper} {rest : List Oper} {o : Oper} {a : Act} {w : World} {Q : Exit → Act → World → Prop} (hgd : o.guard = none) (x y : Operand) (ho : o.op = .slice 24 x (some y) none none)
    {A : Option Addr} {c k : Nat} {l : List UInt8} (hx : a.eval x = .slice A l.length c) (hy : a.eval y = .int .i64 (k : Int)) (hv : Byt w (.slice A l.length c) l) (hk : k ≤ l.length)
    (h : ∀ A' c', Byt w (.slice A' (l.length - k) c') (l.drop k) → (∀ g, (Value.slice A l.length c).ownBlock ≠ some g → (Value.slice A' (l.length - k) c').ownBlock ≠ some g) → wpList Tryd.prog ops Q rest (a.put o.dst (.slice A' (l.length - k) c')) w) :
    wpList Tryd.prog ops Q (o :: rest) a w := by
  obtain ⟨i0, hi, hz0, hz1, hz2⟩ := info_parts info_u8
  have hrun : (Instr.sliceAt 24 (.slice A l.length c) (some (.int .i64 (k : Int))) none none).run Tryd.prog w = .ok (.slice (if c = k then A else A.map (·.add k)) (l.length - k) (c - k)) w := by
    have hk2 : (k : Int) ≤ (l.length : Int) := by omega
    simp [Instr.sliceAt, Instr.slice, run_underlying under_bytes, Instr.sliceBounds, Instr.sliceBound, asIntOf, sizeOf, typeInfo, hi, hz1, hk]
  refine wpList_plain hgd fun _ hK => ?_
  unfold Oper.wp execOp
  simp only [ho, Option.map_some, Option.map_none, hx, hy, Sem.run_bind, hrun, Result.andThen_ok, Sem.run_pure]
  refine hK _ _ (h _ _ (hv.cut hk) fun g hg => ?_)
  rcases cut_own (A := A) (n := l.length) (c := c) (m := l.length - k) (d := c - k) (p := k) with e | e
  · rw [e]; exact hg
  · rw [e]; simp

/-- copy of bytes into a block that is known whole: as an equation of runs. -/
theorem run_copy_blk {w : World} {v : Value} {m : List UInt8} (ty : TypeId) (hv : Byt w v m) {g off N dLen dCap : Nat} {F : Nat → Value} {t : TypeId} (hg : Blk w g N F t) {k : Nat} (hk : k = Nat.min m.length dLen) (h0 : 0 < k) (hfit : off + k ≤ N) :
    ∃ w', (Builtin.copy_ #[24, 24] ty #[.slice (some ⟨g, off, none⟩) dLen dCap, v]).run Tryd.prog w = .ok (.int .i64 (k : Int)) w' ∧ w.grownBy w' (some g) ∧ Blk w' g N (fun j => if off ≤ j ∧ j < off + k then bcell (m.getD (j - off) 0) else F j) t ∧ w'.heap.size = w.heap.size := by
  obtain ⟨A, c, rfl, h1, h2, hr⟩ := hv
  have hsz : (Tryd.prog.info? 5).map (·.size) = some 1 := by kernel_rfl
  have hkm : k ≤ m.length := by rw [hk]; exact Nat.min_le_left _ _
  obtain ⟨b, off2, rfl, hb, hc⟩ := hr (by omega)
  have hlen : (bcells (m.take k)).length = k := by simp [bcells]; omega
  have hrun := run_copy_row (P := Tryd.prog) w 24 24 ty 5 g off dLen dCap ⟨b, off2, none⟩ m.length c (fcells N F) t (bcells (m.take k)) under_bytes hsz hg (by rw [hlen, hk]) (fun j u hu => by
    obtain ⟨hj, rfl⟩ := bcells_get _ j u hu
    rw [addr_add]
    have hjm : j < m.length := by simp at hj; omega
    rw [hc j hjm, List.getElem_take]) (by rw [hlen, fcells_size]; exact hfit) (bcells_one _)
  have hrow : ((fcells N F).toList.take off ++ bcells (m.take k) ++ (fcells N F).toList.drop (off + (bcells (m.take k)).length)).toArray = fcells N (fun j => if off ≤ j ∧ j < off + k then bcell (m.getD (j - off) 0) else F j) := by
    apply Array.ext_getElem?
    intro j
    rw [hlen, List.getElem?_toArray]
    have ht : ((fcells N F).toList.take off).length = off := by rw [List.length_take, Array.length_toList, fcells_size]; omega
    by_cases hj : j < N
    · rw [fcells_get _ hj]
      by_cases h3 : j < off
      · rw [if_neg (by omega), List.append_assoc, List.getElem?_append_left (by omega), List.getElem?_take_of_lt h3, fcells_list, if_pos hj]
      · by_cases h4 : j < off + k
        · rw [if_pos (by omega), List.append_assoc, List.getElem?_append_right (by omega), ht, List.getElem?_append_left (by omega)]
          have hjm : j - off < m.length := by omega
          simp [bcells, List.getElem?_take_of_lt (show j - off < k by omega), hjm]
        · rw [if_neg (by omega), List.getElem?_append_right (by rw [List.length_append, ht, hlen]; omega), List.length_append, ht, hlen, List.getElem?_drop, fcells_list, if_pos (by omega)]
          rw [show off + k + (j - (off + k)) = j from by omega]
    · rw [fcells_out _ hj, List.getElem?_eq_none]
      simp [fcells_size, bcells]
      omega
  rw [hrow, hlen] at hrun
  exact ⟨_, hrun, ⟨rfl, rfl, rfl, by simp, fun q _ hq => setRow_other w g q _ (fun e => hq (by simp [e]))⟩, setRow_heap w g _ _ t _ hg, by simp⟩

theorem wpList_copy_blk {ops : Array Oper} {rest : List Oper} {o : Oper} {a : Act} {w : World} {Q : Exit → Act → World → Prop} (hgd : o.guard = none) (d s : Operand)
    (ho : o.op = .call { callee := .builtin .copy, args := #[d, s], argTypes := #[24, 24] })
    {g off N dLen dCap : Nat} {v : Value} {m : List UInt8} {F : Nat → Value} {t : TypeId} (hd : a.eval d = .slice (some ⟨g, off, none⟩) dLen dCap) (hs : a.eval s = v) (hv : Byt w v m) (hg : Blk w g N F t)
    {k : Nat} (hk : k = Nat.min m.length dLen) (h0 : 0 < k) (hfit : off + k ≤ N)
    (h : ∀ w', w.grownBy w' (some g) → Blk w' g N (fun j => if off ≤ j ∧ j < off + k then bcell (m.getD (j - off) 0) else F j) t → w'.heap.size = w.heap.size → wpList Tryd.prog ops Q rest (a.put o.dst (.int .i64 (k : Int))) w') :
    wpList Tryd.prog ops Q (o :: rest) a w := by
  obtain ⟨w', hrun, h1, h2, h3⟩ := run_copy_blk o.type (dLen := dLen) (dCap := dCap) hv hg hk h0 hfit
  refine wpList_plain hgd fun _ hK => ?_
  unfold Oper.wp
  simp [execOp, ho, resolve, invoke, builtin, hd, hs, hrun, Result.andThen]
  exact hK _ _ (h w' h1 h2 h3)

/-- What k bytes more in the block are. -/
def more (b : Nat → UInt8) (r : List UInt8) (q k j : Nat) : UInt8 := if q ≤ j ∧ j < q + k then r.getD (j - q) 0 else b j
theorem more_eq {b : Nat → UInt8} {l r : List UInt8} {T q k : Nat} (hT : l.length = T) (hq : T % 64 = q) (hb : ∀ j, j < q → b j = l.getD (64 * (T / 64) + j) 0) (j : Nat) (hj : j < q + k) :
    more b r q k j = (l ++ r.take k).getD (64 * (T / 64) + j) 0 := by
  unfold more
  by_cases h : j < q
  · rw [if_neg (by omega), hb j h, getD_left (by omega)]
  · rw [if_pos (by omega), show 64 * (T / 64) + j = l.length + (j - q) from by omega, getD_right]
    simp only [List.getD_eq_getElem?_getD]
    rw [List.getElem?_take_of_lt (by omega)]
theorem run_part {w : World} {g T q k : Nat} {b : Nat → UInt8} {l r : List UInt8} (hT : l.length = T) (hq : T % 64 = q) (hk : k ≤ r.length) (hb : ∀ j, j < q → b j = l.getD (64 * (T / 64) + j) 0) (hqk : q + k < 64)
    (hB : Blk w g 73 (runf (absb l (T / 64)) (more b r q k) (T + k)) 61) : Run w g (l ++ r.take k) := by
  have hl : (l ++ r.take k).length = T + k := by rw [List.length_append, List.length_take, hT]; omega
  have hd : (T + k) / 64 = T / 64 := by omega
  have hm : (T + k) % 64 = q + k := by omega
  refine ⟨more b r q k, ?_, fun j hj => ?_⟩
  · rw [hl, hd]
    refine hB.congr fun i _ => ?_
    unfold runf
    by_cases h8 : i < 8
    · rw [if_pos h8, if_pos h8, absb_left (by omega) i h8]
    · rw [if_neg h8, if_neg h8]
  · rw [hl, hm] at hj
    rw [hl, hd]
    exact more_eq hT hq hb j hj
theorem run_full {w : World} {g T q k : Nat} {b : Nat → UInt8} {l r : List UInt8} (hT : l.length = T) (hq : T % 64 = q) (hk : k ≤ r.length) (hb : ∀ j, j < q → b j = l.getD (64 * (T / 64) + j) 0) (hqk : q + k = 64)
    (hB : Blk w g 73 (runf (turnS (absb l (T / 64)) (more b r q k)) (more b r q k) (T + k)) 61) : Run w g (l ++ r.take k) := by
  have hl : (l ++ r.take k).length = T + k := by rw [List.length_append, List.length_take, hT]; omega
  have hd : (T + k) / 64 = T / 64 + 1 := by omega
  have hm : (T + k) % 64 = 0 := by omega
  refine ⟨more b r q k, ?_, fun j hj => ?_⟩
  · rw [hl, hd]
    refine hB.congr fun i _ => ?_
    unfold runf
    by_cases h8 : i < 8
    · rw [if_pos h8, if_pos h8]
      congr 1
      refine turnS_congr (fun i hi => (absb_left (by omega) i hi).symm) (fun j hj => more_eq hT hq hb j (by omega)) i h8
    · rw [if_neg h8, if_neg h8]
  · rw [hl, hm] at hj
    omega

theorem wp_load_arr {T E : TypeId} {n : Nat} {z : Value} (H : ArrT T E n z) {o : Oper} {a : Act} {w : World} {K : Act → World → Prop} {Q : Exit → Act → World → Prop} (x : Operand) (ho : o.op = .load T x)
    {g N off : Nat} {f f' : Nat → Value} {t : TypeId} (hx : a.eval x = .pointer (some ⟨g, off, none⟩)) (hg : Blk w g N f t) (hN : off + n ≤ N) (e : ∀ j, j < n → f (off + j) = f' j)
    (h : K (a.put o.dst (.agg (fcells n f'))) w) : o.wp Tryd.prog a w K Q := by
  unfold Oper.wp execOp
  simp only [ho, hx, Sem.run_bind, H.load_mid hg hN e, Sem.run_pure, Result.andThen_ok]
  exact h
/-- Bytes that are there lie in a block that is there. -/
theorem byt_block {w : World} {v : Value} {l : List UInt8} (h : Byt w v l) (h0 : 0 < l.length) {g : Nat} (hg : w.heap.size ≤ g) : v.ownBlock ≠ some g := by
  obtain ⟨A, c, rfl, _, _, hr⟩ := h
  obtain ⟨b, off, rfl, hb, _⟩ := hr h0
  intro e
  have : b = g := by simpa [Value.ownBlock] using e
  omega
theorem wpList_load_arr_mid {T E : TypeId} {n : Nat} {z : Value} (H : ArrT T E n z) {ops : Array Oper} {rest : List Oper} {o : Oper} {a : Act} {w : World} {Q : Exit → Act → World → Prop} (hgd : o.guard = none) (x : Operand) (ho : o.op = .load T x)
    {g N off : Nat} {f f' : Nat → Value} {t : TypeId} (hx : a.eval x = .pointer (some ⟨g, off, none⟩)) (hg : Blk w g N f t) (hN : off + n ≤ N) (e : ∀ j, j < n → f (off + j) = f' j)
    (h : wpList Tryd.prog ops Q rest (a.put o.dst (.agg (fcells n f'))) w) : wpList Tryd.prog ops Q (o :: rest) a w :=
  wpList_plain hgd fun _ hK => wp_load_arr H x ho hx hg hN e (hK _ _ h)
/-- A new variable of a type whose zero value is known. -/
theorem wpList_alloc_cells {T : TypeId} {cs : Array Value} (hz : (Tryd.prog.info? T).bind (·.zero) = some (.agg cs)) {ops : Array Oper} {rest : List Oper} {o : Oper} {a : Act} {w : World} {Q : Exit → Act → World → Prop} (hgd : o.guard = none) (ho : o.op = .alloc T)
    (h : wpList Tryd.prog ops Q rest (a.put o.dst (.pointer (some ⟨w.heap.size, 0, none⟩))) (w.alloc (.cells cs T))) : wpList Tryd.prog ops Q (o :: rest) a w :=
  wpList_plain hgd fun _ hK => by
    have hr : (zeroValue T).run Tryd.prog w = .ok (.agg cs) w := by
      cases hq : Tryd.prog.info? T with
      | none => rw [hq] at hz; cases hz
      | some i =>
        rw [hq] at hz
        have hz' : i.zero = some (.agg cs) := hz
        simp [zeroValue, typeInfo, hq, hz']
    unfold Oper.wp execOp
    simp only [ho, Sem.run_bind, Instr.alloc, hr, newVar, newRow, run_newObj_alloc, Sem.run_pure, Result.andThen_ok, Value.cells]
    exact hK _ _ h

/-- What a load of an array, a store comes to: kept whole. -/
noncomputable def loadA (T : TypeId) (v : Value) (w : World) : Result Next := Sem.run Tryd.prog (execOp (fun _ => v) { dst := none, op := .load T (.tmp 0), type := 0, pos := "", after := #[], guard := none }) w
noncomputable def storeA (T : TypeId) (p v : Value) (w : World) : Result Next := Sem.run Tryd.prog (execOp (fun x => match x with
  | .tmp 0 => p
  | _ => v) { dst := none, op := .store T (.tmp 0) (.tmp 1), type := 0, pos := "", after := #[], guard := none }) w
theorem exec_load_S (r : Operand → Value) (x : Operand) (dst : Option Tmp) (ty : TypeId) (pos : String) (after : Array Edge) (guard : Option (Nat × Bool)) (w : World) :
    Sem.run Tryd.prog (execOp r { dst := dst, op := .load 57 x, type := ty, pos := pos, after := after, guard := guard }) w = loadA 57 (r x) w := rfl
theorem exec_load_B (r : Operand → Value) (x : Operand) (dst : Option Tmp) (ty : TypeId) (pos : String) (after : Array Edge) (guard : Option (Nat × Bool)) (w : World) :
    Sem.run Tryd.prog (execOp r { dst := dst, op := .load 59 x, type := ty, pos := pos, after := after, guard := guard }) w = loadA 59 (r x) w := rfl
theorem exec_load_H (r : Operand → Value) (x : Operand) (dst : Option Tmp) (ty : TypeId) (pos : String) (after : Array Edge) (guard : Option (Nat × Bool)) (w : World) :
    Sem.run Tryd.prog (execOp r { dst := dst, op := .load 31 x, type := ty, pos := pos, after := after, guard := guard }) w = loadA 31 (r x) w := rfl
theorem exec_load_W (r : Operand → Value) (x : Operand) (dst : Option Tmp) (ty : TypeId) (pos : String) (after : Array Edge) (guard : Option (Nat × Bool)) (w : World) :
    Sem.run Tryd.prog (execOp r { dst := dst, op := .load 70 x, type := ty, pos := pos, after := after, guard := guard }) w = loadA 70 (r x) w := rfl
theorem exec_store_S (r : Operand → Value) (x y : Operand) (dst : Option Tmp) (ty : TypeId) (pos : String) (after : Array Edge) (guard : Option (Nat × Bool)) (w : World) :
    Sem.run Tryd.prog (execOp r { dst := dst, op := .store 57 x y, type := ty, pos := pos, after := after, guard := guard }) w = storeA 57 (r x) (r y) w := rfl
theorem exec_store_H (r : Operand → Value) (x y : Operand) (dst : Option Tmp) (ty : TypeId) (pos : String) (after : Array Edge) (guard : Option (Nat × Bool)) (w : World) :
    Sem.run Tryd.prog (execOp r { dst := dst, op := .store 31 x y, type := ty, pos := pos, after := after, guard := guard }) w = storeA 31 (r x) (r y) w := rfl
theorem loadA_eq {T E : TypeId} {n : Nat} {z : Value} (H : ArrT T E n z) {w : World} {g N o : Nat} {f f' : Nat → Value} {t : TypeId} (hg : Blk w g N f t) (ho : o + n ≤ N) (e : ∀ j, j < n → f (o + j) = f' j) :
    loadA T (.pointer (some ⟨g, o, none⟩)) w = .ok (.value (.agg (fcells n f'))) w := by
  have := H.load_mid hg ho e
  unfold loadA execOp
  simp only [Sem.run_bind, this, Result.andThen_ok, Sem.run_pure]
theorem storeA_eq {T E : TypeId} {n : Nat} {z : Value} (H : ArrT T E n z) {w : World} {g N o : Nat} {f f' : Nat → Value} {t : TypeId} (hg : Blk w g N f t) (ho : o + n ≤ N) (h1 : ∀ i, i < n → (f' i).oneCell' = true) :
    ∃ w', storeA T (.pointer (some ⟨g, o, none⟩)) (.agg (fcells n f')) w = .ok .skip w' ∧ w.grownBy w' (some g) ∧ Blk w' g N (fun j => if o ≤ j ∧ j < o + n then f' (j - o) else f j) t ∧ w'.heap.size = w.heap.size := by
  obtain ⟨w', hr, h2, h3, h4⟩ := H.store_mid hg ho h1
  refine ⟨w', ?_, h2, h3, h4⟩
  unfold storeA execOp
  simp only [Sem.run_bind, hr, Result.andThen_ok, Sem.run_pure]
theorem wpList_store_mid_arr {T E : TypeId} {n : Nat} {z : Value} (H : ArrT T E n z) {ops : Array Oper} {rest : List Oper} {o : Oper} {a : Act} {w : World} {Q : Exit → Act → World → Prop} (hgd : o.guard = none) (x y : Operand) (ho : o.op = .store T x y)
    {g N off : Nat} {t : TypeId} {f f' : Nat → Value} (hx : a.eval x = .pointer (some ⟨g, off, none⟩)) (hy : a.eval y = .agg (fcells n f')) (hg : Blk w g N f t) (hN : off + n ≤ N) (h1 : ∀ i, i < n → (f' i).oneCell' = true)
    (hh : ∀ w', w.grownBy w' (some g) → Blk w' g N (fun j => if off ≤ j ∧ j < off + n then f' (j - off) else f j) t → w'.heap.size = w.heap.size → wpList Tryd.prog ops Q rest (a.put o.dst undef) w') : wpList Tryd.prog ops Q (o :: rest) a w := by
  obtain ⟨w', hr, h2, h3, h4⟩ := H.store_mid hg hN h1
  refine wpList_plain hgd fun _ hK => ?_
  unfold Oper.wp execOp
  simp only [ho, hx, hy, Sem.run_bind, hr, Result.andThen_ok, Sem.run_pure]
  exact hK _ _ (hh w' h2 h3 h4)
end Go.Proofs.YtefngncieagobaaDoor
