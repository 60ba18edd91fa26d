/-
  The law's small example returns true.
-/
import Derived.Test.YtggonealcpbonaaNumber
import Derived.Test.YtggonealcpbonaaSame
namespace Go.Proofs.Ytggonealcpbonaa
open Go.RowKit

theorem dg300 : dg 300 = [172, 2] := by
  rw [dg_big (by omega), dg_small (by omega)]
  rfl

theorem frst300 : frst ([172, 2] : List UInt8) = some 300 := frst_eq (by omega) (by rw [dg300]; exact List.prefix_refl _)

set_option maxHeartbeats 1600000 in
theorem awake_any (w : World) : Calls Try.prog 7 #[] w fun e w' => e = .returned (.bool true) ∧ Below w.heap.size w w' := by
  go_enter Try.func7, Try.ntmps7
  go_wp2_with fail
  refine (num_any _ [] 300 w (Byt.nil w) (by omega) (by omega) (by simp)).mono ?_
  rintro e w1 ⟨v1, rfl, hown1, hb1⟩
  rw [show (300 : Int).toNat = 300 from rfl, dg300, List.nil_append] at hown1
  obtain ⟨A1, c1, rfl⟩ := hown1.byt.shape
  obtain ⟨_, _, _, hr1⟩ := hown1.byt.at_
  obtain ⟨b, off, rfl, hb, hcell⟩ := hr1 (by simp)
  have k0 := hcell 0 (by simp)
  have k1 := hcell 1 (by simp)
  simp [bcell] at k0 k1
  clear hcell hr1
  go_wp2_with fail
  refine (read_any _ _ w1 hown1.byt (by simp)).mono ?_
  rintro e w2 ⟨g, rfl, hg, hrd, hb2⟩
  have k0' : w2.cell? ⟨b, off, none⟩ = some (Value.int IntKind.u8 172) := (hb2.cell (p := ⟨b, off, none⟩) hb).trans k0
  have k1' : w2.cell? ⟨b, off + 1, none⟩ = some (Value.int IntKind.u8 2) := (hb2.cell (p := ⟨b, off + 1, none⟩) hb).trans k1
  clear k0 k1
  go_wp2_with fail
  refine (rnum_any g _ 0 true w2 hrd (by simp)).mono ?_
  have e0 : rdNum 18446744073709551615 ([172, 2] : List UInt8) 0 true = (300, 2, true) := by
    rw [rdNum_yes (n := 300) (by rw [List.drop_zero]; exact frst300) (by omega), dg300]
    rfl
  rw [e0]
  rintro e w3 ⟨rfl, hr3, hg3⟩
  go_wp2_with fail
  refine (done_any g _ 2 true w3 hr3 (by simp)).mono ?_
  rintro e w4 ⟨rfl, n, rfl⟩
  go_wp2_with fail
  go_ret
  refine ⟨rfl, ?_⟩
  have hbs := hb1.size
  exact ⟨hg3.os.trans (hb2.os.trans hb1.os), hg3.tape.trans (hb2.tape.trans hb1.tape), hg3.output.trans (hb2.output.trans hb1.output), by have := hb2.size; have := hg3.size; simp [World.drewN]; omega, fun k hk => (hg3.block k (by have := hb2.size; omega) (fun e => by injection e; omega)).trans ((hb2.block k (by omega)).trans (hb1.block k hk))⟩
end Go.Proofs.Ytggonealcpbonaa
