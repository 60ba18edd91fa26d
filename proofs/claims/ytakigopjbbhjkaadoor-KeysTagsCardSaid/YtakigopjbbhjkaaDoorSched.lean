/-
  sha.words gives the 64 words that a block makes.
-/
import Derived.Test.YtakigopjbbhjkaaDoorBits
import Derived.StillTailTactics
import Derived.RegionTactic
import Derived.BigRegion
import Derived.Deep.QuietTactic
import Derived.BigQuiet
namespace Go.Proofs.YtakigopjbbhjkaaDoor
open Go.RowKit

/-- The words that have been made behind i rounds. -/
def part (W : Nat → UInt32) (i j : Nat) : Value := if j < i then wc (W j) else wc 0

theorem part_set (W : Nat → UInt32) (i j : Nat) : (if j = i then wc (W i) else part W i j) = part W (i + 1) j := by
  unfold part
  by_cases h : j = i
  · subst h
    rw [if_pos rfl, if_pos (by omega)]
  · rw [if_neg h]
    by_cases h2 : j < i
    · rw [if_pos h2, if_pos (by omega)]
    · rw [if_neg h2, if_neg (by omega)]
theorem u32_wrap (n : Nat) (h : n < 4294967296) : IntKind.u32.wrap (n : Int) = (n : Int) := by
  rw [IntKind.wrap_u32']
  omega
theorem four_or (a b c d : UInt8) : bits BinOp.or IntKind.u32 (bits BinOp.or IntKind.u32 (bits BinOp.or IntKind.u32 (IntKind.u32.wrap (IntKind.u32.wrap (a.toNat : Int) * 16777216)) (IntKind.u32.wrap (IntKind.u32.wrap (b.toNat : Int) * 65536))) (IntKind.u32.wrap (IntKind.u32.wrap (c.toNat : Int) * 256))) (IntKind.u32.wrap (d.toNat : Int)) = wv (four a b c d) := by
  have ha := a.toNat_lt
  have hb := b.toNat_lt
  have hc := c.toNat_lt
  have hd := d.toNat_lt
  unfold four
  generalize a.toNat = A at *
  generalize b.toNat = B at *
  generalize c.toNat = C at *
  generalize d.toNat = D at *
  have e1 : IntKind.u32.wrap (IntKind.u32.wrap (A : Int) * 16777216) = ((A * 16777216 : Nat) : Int) := by rw [u32_wrap A (by omega), show (A : Int) * 16777216 = ((A * 16777216 : Nat) : Int) by omega, u32_wrap _ (by omega)]
  have e2 : IntKind.u32.wrap (IntKind.u32.wrap (B : Int) * 65536) = ((B * 65536 : Nat) : Int) := by rw [u32_wrap B (by omega), show (B : Int) * 65536 = ((B * 65536 : Nat) : Int) by omega, u32_wrap _ (by omega)]
  have e3 : IntKind.u32.wrap (IntKind.u32.wrap (C : Int) * 256) = ((C * 256 : Nat) : Int) := by rw [u32_wrap C (by omega), show (C : Int) * 256 = ((C * 256 : Nat) : Int) by omega, u32_wrap _ (by omega)]
  rw [e1, e2, e3, u32_wrap D (by omega), wv_of _ (by omega)]
  rw [u32_or_nat _ _ (by omega) (by omega), nat_join 24 _ _ (by omega) (by omega), u32_or_nat _ _ (by omega) (by omega), nat_join 16 _ _ (by omega) (by omega), u32_or_nat _ _ (by omega) (by omega), nat_join 8 _ _ (by omega) (by omega)]

theorem wv_sum4 (a b c d : UInt32) : (wv a + wv b + wv c + wv d) % 4294967296 = wv (a + b + c + d) := by
  rw [← wv_add (a + b + c) d, ← wv_add (a + b) c, ← wv_add a b]
  omega
theorem wv_wadd (x y : UInt32) : IntKind.u32.wrap (wv x + wv y) = wv (x + y) := by rw [IntKind.wrap_u32', wv_add]
theorem sm1_still (x : UInt32) (w : World) : Calls Tryd.prog 36 #[.int .u32 (wv x)] w fun e w' => e = .returned (.int .u32 (wv (sm1 x))) ∧ w' = w := (sm1_any x w).mono fun _ _ ⟨h, h2⟩ => ⟨h, h2.symm⟩
theorem sm0_still (x : UInt32) (w : World) : Calls Tryd.prog 37 #[.int .u32 (wv x)] w fun e w' => e = .returned (.int .u32 (wv (sm0 x))) ∧ w' = w := (sm0_any x w).mono fun _ _ ⟨h, h2⟩ => ⟨h, h2.symm⟩

set_option maxHeartbeats 1600000 in
theorem words_any (b : Nat → UInt8) (g : Nat) (t : TypeId) (w : World) (hg : Blk w g 64 (fun j => bcell (b j)) t) :
    Calls Tryd.prog 31 #[.pointer (some ⟨g, 0, none⟩)] w fun e w' => e = .returned (.agg (fcells 64 fun j => wc (wd b j))) ∧ Below w.heap.size w w' := by
  have hlt := hg.lt
  go_enter Tryd.func31, Tryd.ntmps31
  go_wp2_with (refine wpList_alloc_arr arrW rfl rfl ?_)
  have hG2 : Blk ((w.alloc (.cells (fcells 64 fun _ => wc 0) 60)).alloc (.cells (fcells 64 fun _ => wc 0) 60)) w.heap.size 64 (fun _ => wc 0) 60 := (Blk.new w 64 (fun _ => wc 0) 60).alloc _
  have hG3 : Blk ((w.alloc (.cells (fcells 64 fun _ => wc 0) 60)).alloc (.cells (fcells 64 fun _ => wc 0) 60)) (w.heap.size + 1) 64 (fun _ => wc 0) 60 := heap_alloc2_new w _ _
  have hbw0 : Below w.heap.size w ((w.alloc (.cells (fcells 64 fun _ => wc 0) 60)).alloc (.cells (fcells 64 fun _ => wc 0) 60)) := ((Below.refl _ _).alloc (Nat.le_refl _) _).alloc (by simp) _
  generalize ((w.alloc (.cells (fcells 64 fun _ => wc 0) 60)).alloc (.cells (fcells 64 fun _ => wc 0) 60)) = w0 at *
  go_wp2
  go_loopw [6] (fun si wr => ∃ i : Nat, i ≤ 16 ∧ si = .int .i64 i ∧ Below w.heap.size w wr ∧ Blk wr w.heap.size 64 (fun _ => wc 0) 60 ∧ Blk wr (w.heap.size + 1) 64 (part (wd b) i) 60) (fun si _ => 16 - (intOf si).toNat)
  case atStart => exact ⟨0, by omega, rfl, hbw0, hG2, hG3.congr fun i _ => by simp [part]⟩
  case round =>
    obtain ⟨i, hi, rfl, hbw, hA, hB⟩ := hrel
    by_cases hlt2 : i < 16
    · have hgr := hg.keep hbw
      obtain ⟨J, HJ⟩ : ∃ J : Nat, Hid (4 * i = J) := ⟨_, hid rfl⟩
      have hJ : J + 3 < 64 := by have := HJ.out; omega
      have c0 := hgr.cell (i := J) (by omega)
      have c1 := hgr.cell (i := J + 1) (by omega)
      have c2 := hgr.cell (i := J + 2) (by omega)
      have c3 := hgr.cell (i := J + 3) (by omega)
      have q0 : IntKind.i64.wrap (4 * (i : Int)) = (J : Int) := by rw [IntWalk.i64_in _ (by omega)]; have := HJ.out; omega
      have q1 : IntKind.i64.wrap ((J : Int) + 1) = (J : Int) + 1 := IntWalk.i64_in _ (by omega)
      have q2 : IntKind.i64.wrap ((J : Int) + 2) = (J : Int) + 2 := IntWalk.i64_in _ (by omega)
      have q3 : IntKind.i64.wrap ((J : Int) + 3) = (J : Int) + 3 := IntWalk.i64_in _ (by omega)
      have r1 : ((J : Int) + 1).toNat = J + 1 := by omega
      have r2 : ((J : Int) + 2).toNat = J + 2 := by omega
      have r3 : ((J : Int) + 3).toNat = J + 3 := by omega
      have s0 : (J : Int) < 64 := by omega
      have s1 : (J : Int) + 1 < 64 := by omega
      have s2 : (J : Int) + 2 < 64 := by omega
      have s3 : (J : Int) + 3 < 64 := by omega
      have u1 : 0 ≤ (J : Int) + 1 := by omega
      have u2 : 0 ≤ (J : Int) + 2 := by omega
      have u3 : 0 ≤ (J : Int) + 3 := by omega
      unfold bcell at c0 c1 c2 c3
      have k3 := hB.cell (i := i) (by omega)
      have f3 := hB.free i
      have hi16 : (i : Int) < 16 := by omega
      go_wp2_with fail
      go_still_tail 38, (by kernel_rfl)
      rw [four_or]
      change wpList _ _ _ _ _ wr.drew
      clear q0 q1 q2 q3 r1 r2 r3
      go_wp2_with fail
      go_roundw
      case rel =>
        refine ⟨i + 1, by omega, by go_num, (hbw.drew).setCell (by simp) _, hA.drew.apart _ _ (by simp), ((hB.drew).set (i := i) (by omega) _).congr fun j _ => ?_⟩
        rw [← part_set, wd_low b hlt2]
        unfold wordB
        rw [HJ.out]
        rfl
      case measure => simp [intOf]; omega
    · have HB16 : Hid (Blk wr (w.heap.size + 1) 64 (part (wd b) 16) 60) := by
        have e : i = 16 := by omega
        rw [← e]
        exact hid hB
      obtain ⟨m, rfl⟩ : ∃ m : Nat, i = m := ⟨i, rfl⟩
      go_wp2_with fail
      go_loopw [5] (fun si wr => ∃ i : Nat, 16 ≤ i ∧ i ≤ 64 ∧ si = .int .i64 i ∧ Below w.heap.size w wr ∧ Blk wr w.heap.size 64 (fun _ => wc 0) 60 ∧ Blk wr (w.heap.size + 1) 64 (part (wd b) i) 60) (fun si _ => 64 - (intOf si).toNat)
      case atStart => exact ⟨16, by omega, by omega, rfl, hbw, hA, HB16.out⟩
      case round =>
        clear hA hB hbw HB16
        obtain ⟨i, hi0, hi, rfl, hbw, hA, hB⟩ := hrel
        by_cases hlt2 : i < 64
        · obtain ⟨a2, H2⟩ : ∃ a2 : Nat, Hid (a2 + 2 = i) := ⟨i - 2, hid (by omega)⟩
          obtain ⟨a7, H7⟩ : ∃ a7 : Nat, Hid (a7 + 7 = i) := ⟨i - 7, hid (by omega)⟩
          obtain ⟨a15, H15⟩ : ∃ a15 : Nat, Hid (a15 + 15 = i) := ⟨i - 15, hid (by omega)⟩
          obtain ⟨a16, H16⟩ : ∃ a16 : Nat, Hid (a16 + 16 = i) := ⟨i - 16, hid (by omega)⟩
          have b2 : a2 < 64 := by have := H2.out; omega
          have b7 : a7 < 64 := by have := H7.out; omega
          have b15 : a15 < 64 := by have := H15.out; omega
          have b16 : a16 < 64 := by have := H16.out; omega
          have q2 : IntKind.i64.wrap ((i : Int) - 2) = (a2 : Int) := by rw [IntWalk.i64_in _ (by omega)]; have := H2.out; omega
          have q7 : IntKind.i64.wrap ((i : Int) - 7) = (a7 : Int) := by rw [IntWalk.i64_in _ (by omega)]; have := H7.out; omega
          have q15 : IntKind.i64.wrap ((i : Int) - 15) = (a15 : Int) := by rw [IntWalk.i64_in _ (by omega)]; have := H15.out; omega
          have q16 : IntKind.i64.wrap ((i : Int) - 16) = (a16 : Int) := by rw [IntWalk.i64_in _ (by omega)]; have := H16.out; omega
          have c2 := hB.cell (i := a2) (by omega)
          have c7 := hB.cell (i := a7) (by omega)
          have c15 := hB.cell (i := a15) (by omega)
          have c16 := hB.cell (i := a16) (by omega)
          have e2 : part (wd b) i a2 = .int .u32 (wv (wd b a2)) := if_pos (by have := H2.out; omega)
          have e7 : part (wd b) i a7 = .int .u32 (wv (wd b a7)) := if_pos (by have := H7.out; omega)
          have e15 : part (wd b) i a15 = .int .u32 (wv (wd b a15)) := if_pos (by have := H15.out; omega)
          have e16 : part (wd b) i a16 = .int .u32 (wv (wd b a16)) := if_pos (by have := H16.out; omega)
          rw [e2] at c2
          rw [e7] at c7
          rw [e15] at c15
          rw [e16] at c16
          have k3 := hB.cell (i := i) (by omega)
          have f3 := hB.free i
          have hi64 : (i : Int) < 64 := by omega
          have l2 : (a2 : Int) < 64 := by omega
          have l7 : (a7 : Int) < 64 := by omega
          have l15 : (a15 : Int) < 64 := by omega
          have l16 : (a16 : Int) < 64 := by omega
          clear e2 e7 e15 e16
          go_wp2_with fail
          refine wp_region_still_tail 22 (by kernel_rfl) (by kernel_rfl) ?_
          simp only [List.take_succ_cons, List.take_zero, List.drop_succ_cons, List.drop_zero]
          repeat still_step
          still_call (sm1_still _ _)
          repeat still_step
          still_call (sm0_still _ _)
          repeat still_step
          refine wpStill_nil ?_
          change wpList _ _ _ _ _ wr.drew
          clear q2 q7 q15 q16
          go_wp2_with fail
          go_roundw
          case rel =>
            refine ⟨i + 1, by omega, by omega, by go_num, (hbw.drew).setCell (by simp) _, hA.drew.apart _ _ (by simp), ((hB.drew).set (i := i) (by omega) _).congr fun j _ => ?_⟩
            rw [← part_set, wd_high b hi0 hlt2, show i - 2 = a2 from by have := H2.out; omega, show i - 7 = a7 from by have := H7.out; omega, show i - 15 = a15 from by have := H15.out; omega, show i - 16 = a16 from by have := H16.out; omega]
            rw [wv_sum4]
            rfl
          case measure => simp [intOf]; omega
        · obtain rfl : i = 64 := by omega
          have hB2 : Blk wr (w.heap.size + 1) 64 (fun j => wc (wd b j)) 60 := hB.congr fun j hj => if_pos hj
          go_wp2_with (first
            | (refine wpList_load_arr arrW rfl _ rfl rfl hB2 ?_)
            | (refine wpList_store_arr arrW rfl _ _ rfl rfl rfl hA (fun _ _ => rfl) ?_; intro w9 hg9 hA9 hs9))
          refine bodyPost_ret (arrW.result rfl _ _ rfl hA9) rfl ⟨rfl, ?_⟩
          exact below_into hbw (g := w.heap.size) (Nat.le_refl _) hg9 hbw.size
end Go.Proofs.YtakigopjbbhjkaaDoor
