/-
  sha's put goes on with bytes.
-/
import Derived.Test.YtakigopjbbhjkaaDoorRun
import Derived.Deep.RegionWith
namespace Go.Proofs.YtakigopjbbhjkaaDoor
open Go.RowKit

def slen : Value → Nat
  | .slice _ n _ => n
  | _ => 0

attribute [local go_sem ↓] exec_load_S exec_load_B exec_store_S

set_option maxHeartbeats 3200000 in
theorem put_any (g : Nat) (t l : List UInt8) (v : Value) (w : World) (hK : Kst 1 w) (hgK : g ≠ 1) (hr : Run w g t) (hv : Byt w v l) (hne : 0 < l.length → v.ownBlock ≠ some g) (hs : t.length + l.length ≤ 1099511627776) :
    Calls Tryd.prog 24 #[.pointer (some ⟨g, 0, none⟩), v] w fun e w' => e = .returned (.tuple #[]) ∧ Run w' g (t ++ l) ∧ w.grownBy w' (some g) := by
  obtain ⟨A, c, rfl⟩ := hv.shape
  go_enter Tryd.func24, Tryd.ntmps24
  go_wp2
  go_loopw [1] (fun vb wr => ∃ (d r : List UInt8) (A' : Option Addr) (c' : Nat), Hid (l = d ++ r) ∧ vb = .slice A' r.length c' ∧ Byt wr (.slice A' r.length c') r ∧ Hid (0 < r.length → (Value.slice A' r.length c').ownBlock ≠ some g) ∧ Run wr g (t ++ d) ∧ w.grownBy wr (some g)) (fun vb _ => slen vb)
  case atStart => exact ⟨[], l, A, c, hid rfl, rfl, hv, hid hne, by rw [List.append_nil]; exact hr, World.grownBy.refl _ _⟩
  case round =>
    clear hv hne hr
    obtain ⟨d, r, A', c', HL, rfl, hv, hnE, hr, hgr⟩ := hrel
    have hKr := hK.grown hgr (fun e => hgK (Option.some.inj e))
    have hll : l.length = d.length + r.length := by rw [HL.out, List.length_append]
    by_cases h0 : r.length = 0
    · have h00 : ¬ (0 : Int) < (r.length : Int) := by omega
      have HR := hid (List.eq_nil_of_length_eq_zero h0)
      have HE := hid h0
      clear h0
      go_wp2_with fail
      go_end0
      have e : l = d := by rw [HL.out, HR.out, List.append_nil]
      rw [e]
      exact ⟨rfl, hr, hgr⟩
    · have h00 : (0 : Int) < (r.length : Int) := by omega
      have hne := hid (hnE.out (by omega))
      have hltg := hr.lt
      obtain ⟨T, HT⟩ : ∃ T : Nat, Hid ((t ++ d).length = T) := ⟨_, hid rfl⟩
      have hTs : T + r.length ≤ 1099511627776 := by have := HT.out; rw [List.length_append] at this; omega
      obtain ⟨b, hB, hb⟩ := hr
      rw [HT.out] at hB hb
      obtain ⟨q, Hq⟩ : ∃ q : Nat, Hid (T % 64 = q) := ⟨_, hid rfl⟩
      rw [Hq.out] at hb
      have hq64 : q < 64 := by have := Hq.out; omega
      have k72 : wr.cell? ⟨g, 72, none⟩ = some (.int .u64 (T : Int)) := hB.cell (i := 72) (by omega)
      have q1 : (T : Int).tmod 64 = (q : Int) := by rw [Int.tmod_eq_emod_of_nonneg (by omega)]; have := Hq.out; omega
      have q2 : (T : Int) % 64 = (q : Int) := by have := Hq.out; omega
      have q3 : (q : Int) ≤ 64 := by omega
      have q4 : ¬ (64 = q) := by omega
      obtain ⟨k, Hk⟩ : ∃ k : Nat, Hid (Nat.min r.length (64 - q) = k) := ⟨_, hid rfl⟩
      have hk1 : k ≤ r.length := by rw [← Hk.out]; exact Nat.min_le_left _ _
      have hk2 : k ≤ 64 - q := by rw [← Hk.out]; exact Nat.min_le_right _ _
      have hk0 : 0 < k := by rw [← Hk.out]; exact Nat.lt_min.2 ⟨by omega, by omega⟩
      go_wp2_with fail
      go_still_tail 10, (by kernel_rfl)
      change wpList _ _ _ _ _ wr.drew
      refine wpList_copy_blk (k := k) rfl (.tmp 16) (.tmp 17) rfl rfl rfl (w := wr.drew) hv hB.drew Hk.out.symm hk0 (by omega) ?_
      intro w4 hg4 hB4 hs4
      have hB5 : Blk w4 g 73 (runf (absb (t ++ d) (T / 64)) (more b r q k) T) 53 := hB4.congr fun i _ => by
        unfold runf more
        by_cases h8 : i < 8
        · rw [if_pos h8, if_pos h8, if_neg (by omega)]
        · by_cases h72 : i < 72
          · rw [if_neg h8, if_neg h8, if_pos h72, if_pos h72]
            by_cases hin : 8 + q ≤ i ∧ i < 8 + q + k
            · rw [if_pos hin, if_pos (by omega), show i - (8 + q) = i - 8 - q from by omega]
            · rw [if_neg hin, if_neg (by omega)]
          · rw [if_neg h8, if_neg h8, if_neg h72, if_neg h72, if_neg (by omega)]
      have hv4 : Byt w4 (.slice A' r.length c') r := Byt.keep (w := wr.drew) hv hg4.size fun b hb e => hg4.block b hb (fun e2 => hne.out (by rw [e, e2]))
      have hgr4 : w.grownBy w4 (some g) := (grown_drewN hgr 1).trans hg4
      have c72 : w4.cell? ⟨g, 72, none⟩ = some (.int .u64 (T : Int)) := hB5.cell (i := 72) (by omega)
      have f72 := hB5.free 72
      have hK4 := hK.grown hgr4 (fun e => hgK (Option.some.inj e))
      have hk3 : (k : Int) ≤ (r.length : Int) := by omega
      have hcc := hv4.at_.2.1
      have hq5 : T + k < 18446744073709551616 := by omega
      have hlt4 := hB5.lt
      clear hB4 k72 q1 q2 q3 q4 hB hv
      by_cases hz : (T + k) % 64 = 0
      · have hz1 : ((T : Int) + (k : Int)) % 64 = 0 := by omega
        have hset := (hB5.set (i := 72) (by omega) (.int .u64 ((T : Int) + (k : Int)))).congr (f' := runf (absb (t ++ d) (T / 64)) (more b r q k) (T + k)) fun i _ => by
          unfold runf
          by_cases h8 : i < 8
          · rw [if_neg (by omega), if_pos h8, if_pos h8]
          · by_cases h72 : i < 72
            · rw [if_neg (by omega), if_neg h8, if_neg h8, if_pos h72, if_pos h72]
            · rw [if_pos (by omega), if_neg h8, if_neg h72]
              simp
        have hgr5 : w.grownBy (w4.setCell ⟨g, 72, none⟩ (.int .u64 ((T : Int) + (k : Int)))) (some g) := hgr4.trans (grown_setCell _ _ _ _)
        have hlt5 := hset.lt
        go_wp2_with (refine wpList_cut rfl (.tmp 19) (.tmp 20) rfl rfl rfl hv4 hk1 ?_; intro A5 c5 hv5 hne5)
        have hv6 : Byt (w4.setCell ⟨g, 72, none⟩ (.int .u64 ((T : Int) + (k : Int)))) (.slice A5 (r.length - k) c5) (r.drop k) := hv5.keep (by simp [World.setCell]) fun b hb e => heap_setCell_other _ _ _ _ (fun e2 => hne5 g hne.out (by rw [e, e2]))
        generalize w4.setCell ⟨g, 72, none⟩ (.int .u64 ((T : Int) + (k : Int))) = w5 at *
        have hK5 := hK.grown hgr5 (fun e => hgK (Option.some.inj e))
        clear hB5 c72 f72 hK4 hv4 hv5 hlt4
        have e1 : ∀ j, j < 8 → runf (absb (t ++ d) (T / 64)) (more b r q k) (T + k) (0 + j) = wc (absb (t ++ d) (T / 64) j) := fun j hj => by unfold runf; rw [Nat.zero_add, if_pos hj]
        have e2 : ∀ j, j < 64 → runf (absb (t ++ d) (T / 64)) (more b r q k) (T + k) (8 + j) = bcell (more b r q k j) := fun j hj => by unfold runf; rw [if_neg (by omega), if_pos (by omega), Nat.add_sub_cancel_left]
        have l3 := loadA_eq (w := w5.drew) arrS hset (by omega) e1
        have l4 := loadA_eq (w := w5.drew) arrB hset (by omega) e2
        go_region_law (go_simp; go_at_call 28; refine (turn_any _ _ _ (show Kst 1 w5.drew from hK5)).mono ?_; rintro e w6 ⟨rfl, hb6⟩; have hset6 : Blk w6 g 73 (runf (absb (t ++ d) (T / 64)) (more b r q k) (T + k)) 53 := Blk.keep (w := w5.drew) hset hb6; obtain ⟨w7, hs7, hg7, hB7, _⟩ := storeA_eq (f' := fun j => wc (turnS (absb (t ++ d) (T / 64)) (more b r q k) j)) arrS hset6 (o := 0) (by omega) (fun _ _ => rfl))
        all_goals
          have hgr6 : w.grownBy w6 (some g) := (grown_drewN hgr5 1).trans (grown_below hb6 _)
          have hv7 : Byt w6 (.slice A5 (r.length - k) c5) (r.drop k) := Byt.below (w := w5.drew) hv6 hb6
          have hB8 : Blk w7 g 73 (runf (turnS (absb (t ++ d) (T / 64)) (more b r q k)) (more b r q k) (T + k)) 53 := hB7.congr fun i _ => by
            unfold runf
            by_cases h8 : i < 8
            · rw [if_pos (by omega), if_pos h8, Nat.sub_zero]
            · rw [if_neg (by omega), if_neg h8, if_neg h8]
          have hv8 : Byt w7 (.slice A5 (r.length - k) c5) (r.drop k) := hv7.keep hg7.size fun b hb e => hg7.block b hb (fun e2 => hne5 g hne.out (by rw [e, e2]))
          clear l3 l4 e1 e2
          go_wp2_with fail
          go_roundw
          case rel =>
            refine ⟨d ++ r.take k, r.drop k, A5, c5, hid (by rw [HL.out, List.append_assoc, List.take_append_drop]), by rw [List.length_drop], by rw [List.length_drop]; exact hv8, hid (fun _ => by rw [List.length_drop]; exact hne5 g hne.out), ?_, hgr6.trans hg7⟩
            rw [← List.append_assoc]
            exact run_full HT.out Hq.out hk1 hb (by have := Hq.out; omega) hB8
          case measure => show r.length - k < r.length; omega
      · have hz1 : (((T : Int) + (k : Int)) % 64 == 0) = false := by rw [beq_eq_false_iff_ne]; omega
        have hset := (hB5.set (i := 72) (by omega) (.int .u64 ((T : Int) + (k : Int)))).congr (f' := runf (absb (t ++ d) (T / 64)) (more b r q k) (T + k)) fun i _ => by
          unfold runf
          by_cases h8 : i < 8
          · rw [if_neg (by omega), if_pos h8, if_pos h8]
          · by_cases h72 : i < 72
            · rw [if_neg (by omega), if_neg h8, if_neg h8, if_pos h72, if_pos h72]
            · rw [if_pos (by omega), if_neg h8, if_neg h72]
              simp
        go_wp2_with (refine wpList_cut rfl (.tmp 19) (.tmp 20) rfl rfl rfl hv4 hk1 ?_; intro A5 c5 hv5 hne5)
        go_roundw
        case rel =>
          refine ⟨d ++ r.take k, r.drop k, A5, c5, hid (by rw [HL.out, List.append_assoc, List.take_append_drop]), by rw [List.length_drop], ?_, hid (fun _ => by rw [List.length_drop]; exact hne5 g hne.out), ?_, hgr4.trans (grown_setCell _ _ _ _)⟩
          · rw [List.length_drop]
            exact hv5.keep (by simp [World.setCell]) fun b hb e => heap_setCell_other _ _ _ _ (fun e2 => hne5 g hne.out (by rw [e, e2]))
          · rw [← List.append_assoc]
            exact run_part HT.out Hq.out hk1 hb (by have := Hq.out; omega) hset
        case measure => show r.length - k < r.length; omega
end Go.Proofs.YtakigopjbbhjkaaDoor
