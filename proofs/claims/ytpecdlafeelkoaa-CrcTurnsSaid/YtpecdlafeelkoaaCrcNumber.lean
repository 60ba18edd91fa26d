/-
  crc.number.
-/
import Derived.Test.YtpecdlafeelkoaaCrcRecord
namespace Go.Proofs.Ytpecdlafeelkoaa
open Go.RowKit

theorem or_add {a b : Nat} (k : Nat) (hk : k ≤ 32) (ha : 2 ^ k * a < 4294967296) (hb : b < 2 ^ k) {x y z : Int} (hx : x = ((2 ^ k * a : Nat) : Int)) (hy : y = (b : Int)) (hz : z = ((2 ^ k * a + b : Nat) : Int)) : bits BinOp.or IntKind.u32 x y = z := by
  have hb2 : b < 4294967296 := Nat.lt_of_lt_of_le hb (by have := Nat.pow_le_pow_right (show 0 < 2 by omega) hk; exact this)
  rw [hx, hy, hz, u32_or_nat _ _ ha hb2, Nat.two_pow_add_eq_or_of_lt hb]

set_option maxHeartbeats 1600000 in
theorem number_any (v : Value) (l : List UInt8) (w : World) (hv : Byt w v l) (h4 : 4 ≤ l.length) :
    Calls Try.prog 17 #[v] w fun e w' => e = .returned (.int .u32 (numL l : Int)) ∧ ∃ k, w' = w.drewN k := by
  obtain ⟨A, c, rfl⟩ := hv.shape
  obtain ⟨_, hc, hm, hr⟩ := hv.at_
  unfold maxLen at hm
  obtain ⟨L, HL⟩ : ∃ L : Nat, Hid (l.length = L) := ⟨_, hid rfl⟩
  rw [HL.out] at hc h4 ⊢
  clear hv
  obtain ⟨b, off, rfl, _, hcl⟩ := hr (by rw [HL.out]; omega)
  have hcl2 : ∀ j, j < L → w.cell? ⟨b, off + j, none⟩ = some (.int .u8 ((l.getD j 0).toNat : Int)) := fun j hj => by
    have hjl : j < l.length := by rw [HL.out]; exact hj
    rw [hcl j hjl, List.getD_eq_getElem?_getD, List.getElem?_eq_getElem hjl]
    rfl
  have k0 := hcl2 0 (by omega)
  have k1 := hcl2 1 (by omega)
  have k2 := hcl2 2 (by omega)
  have k3 := hcl2 3 (by omega)
  clear hcl hcl2 hr
  obtain ⟨b0, H0⟩ : ∃ x : Nat, Hid ((l.getD 0 0).toNat = x) := ⟨_, hid rfl⟩
  obtain ⟨b1, H1⟩ : ∃ x : Nat, Hid ((l.getD 1 0).toNat = x) := ⟨_, hid rfl⟩
  obtain ⟨b2, H2⟩ : ∃ x : Nat, Hid ((l.getD 2 0).toNat = x) := ⟨_, hid rfl⟩
  obtain ⟨b3, H3⟩ : ∃ x : Nat, Hid ((l.getD 3 0).toNat = x) := ⟨_, hid rfl⟩
  have g0 : b0 ≤ 255 := by have := (l.getD 0 0).toNat_lt; have := H0.out; omega
  have g1 : b1 ≤ 255 := by have := (l.getD 1 0).toNat_lt; have := H1.out; omega
  have g2 : b2 ≤ 255 := by have := (l.getD 2 0).toNat_lt; have := H2.out; omega
  have g3 : b3 ≤ 255 := by have := (l.getD 3 0).toNat_lt; have := H3.out; omega
  rw [H0.out] at k0
  rw [H1.out] at k1
  rw [H2.out] at k2
  rw [H3.out] at k3
  rw [Nat.add_zero] at k0
  obtain ⟨n1, N1⟩ : ∃ n : Nat, Hid (b0 * 16777216 + b1 * 65536 = n) := ⟨_, hid rfl⟩
  obtain ⟨n2, N2⟩ : ∃ n : Nat, Hid (n1 + b2 * 256 = n) := ⟨_, hid rfl⟩
  obtain ⟨n3, N3⟩ : ∃ n : Nat, Hid (n2 + b3 = n) := ⟨_, hid rfl⟩
  have o1 : bits BinOp.or IntKind.u32 ((b0 : Int) * 16777216) ((b1 : Int) * 65536) = (n1 : Int) := or_add (a := b0) (b := b1 * 65536) 24 (by decide) (by omega) (by omega) (by omega) (by omega) (by have := N1.out; omega)
  have o2 : bits BinOp.or IntKind.u32 (n1 : Int) ((b2 : Int) * 256) = (n2 : Int) := or_add (a := b0 * 256 + b1) (b := b2 * 256) 16 (by decide) (by omega) (by omega) (by have := N1.out; omega) (by omega) (by have := N1.out; have := N2.out; omega)
  have o3 : bits BinOp.or IntKind.u32 (n2 : Int) (b3 : Int) = (n3 : Int) := or_add (a := (b0 * 256 + b1) * 256 + b2) (b := b3) 8 (by decide) (by omega) (by omega) (by have := N1.out; have := N2.out; omega) rfl (by have := N1.out; have := N2.out; have := N3.out; omega)
  have HN : Hid (numL l = n3) := hid (by unfold numL; rw [H0.out, H1.out, H2.out, H3.out, N1.out, N2.out, N3.out])
  rw [HN.out]
  go_enter Try.func17, Try.ntmps17
  go_wp2_with fail
  go_quiet (fail)
  go_wp2_with fail
  go_ret
  exact ⟨rfl, _, rfl⟩
end Go.Proofs.Ytpecdlafeelkoaa
