/-
  How texts are filled: sha.filling, sha.Fill; the first state.
-/
import Derived.Test.YtakigopjbbhjkaaDoorRun
namespace Go.Proofs.YtakigopjbbhjkaaDoor
open Go.RowKit

def slen2 : Value → Nat
  | .slice _ n _ => n
  | _ => 0
theorem u8_ofNat (m : Nat) : ((UInt8.ofNat m).toNat : Int) = (m : Int) % 256 := by
  rw [UInt8.toNat_ofNat']
  omega

set_option maxHeartbeats 1600000 in
theorem filling_any (n : Nat) (w : World) (hn : n ≤ 1099511627776) :
    Calls Tryd.prog 25 #[.int .u64 (n : Int)] w fun e w' => ∃ v, e = .returned v ∧ Own w.heap.size w' v (tailS n) ∧ Below w.heap.size w w' := by
  obtain ⟨i0, hi, hz0, hz1, hz2⟩ := info_parts info_u8
  have hb2 : i0.bytes * 73 ≤ 281474976710656 := by rw [hz2]; omega
  have hb3 : 73 ≤ maxLen := by unfold maxLen; omega
  have hnl := noughts_le n
  go_enter Tryd.func25, Tryd.ntmps25
  go_wp2_with (at_make; refine wpList_make_own _ rfl _ _ 26 rfl w.heap.size 5 i0 (.int .u8 0) 1 under_bytes hi hz0 hz1 _ _ _ 73 rfl rfl rfl hb2 hb3 (Nat.le_refl _) ?_)
  intro w0 hown0 hgrow0
  have hb0 : Below w.heap.size w w0 := (Below.refl _ _).grown hgrow0 (Nat.le_refl _) (fun k h => by cases h)
  have hv0 : Own w.heap.size w0 (.slice (some ⟨w.heap.size, 0, none⟩) 0 73) [] := hown0
  have hs0 := hb0.size
  clear hown0 hgrow0 hz0 hz1 hz2 hi hb2 hb3
  go_wp2_with (at_builtin; refine wpList_append_byt rfl (.tmp 6) (.tmp 7) rfl rfl rfl (hv0.alloc _) (byt_one _ _ 128 rfl) (by simp) (by simp; omega) ?_; intro v1 w1 hown1 hg1 _)
  have hb1 : Below w.heap.size w w1 := (hb0.alloc hs0 _).grown hg1 (by simp; omega) (fun k hk => (World.ownsRow.lt hv0 k hk).1)
  rw [List.nil_append] at hown1
  obtain ⟨A1, c1, rfl⟩ := hown1.byt.shape
  have hl1 : ([128] : List UInt8).length = 1 := rfl
  rw [hl1] at hown1 ⊢
  clear hg1 hl1
  try go_frame
  go_wp2_with fail
  go_loopw [3] (fun v wr => ∃ (z m : Nat) (A : Option Addr) (c : Nat), z ≤ noughts n ∧ Hid (m = z + 1) ∧ v = .slice A m c ∧ Hid (Own w.heap.size wr (.slice A m c) (128 :: List.replicate z 0)) ∧ Below w.heap.size w wr) (fun v _ => 100 - slen2 v)
  case atStart => exact ⟨0, 1, A1, c1, Nat.zero_le _, hid rfl, rfl, hid hown1, hb1⟩
  case round =>
    clear hown1 hb1 hv0 hb0 hs0
    obtain ⟨z, m, A, c, hz, HM, rfl, HO, hbw⟩ := hrel
    have hbs := hbw.size
    have hm : m ≤ 100 := by have := HM.out; omega
    by_cases hlt : z < noughts n
    · have ht : (((n : Int) + (m : Int) + 8) % 64 != 0) = true := by
        rw [bne_iff_ne]
        have := HM.out
        unfold noughts at hlt
        omega
      go_wp2_with (at_builtin; refine wpList_append_byt rfl (.tmp 17) (.tmp 18) rfl rfl rfl (HO.out.alloc _) (byt_one _ _ 0 rfl) (by simp; omega) (by simp; omega) ?_; intro v2 w2 hown2 hg2 _)
      have hb2 : Below w.heap.size w w2 := (hbw.alloc hbs _).grown hg2 (by simp; omega) (fun k hk => (World.ownsRow.lt HO.out k hk).1)
      have hl : (128 :: List.replicate z 0 : List UInt8) ++ [0] = 128 :: List.replicate (z + 1) 0 := by
        rw [List.replicate_succ', List.cons_append]
      rw [hl] at hown2
      clear hl hg2
      obtain ⟨A2, c2, rfl⟩ := hown2.byt.shape
      have hl2 : (128 :: List.replicate (z + 1) 0 : List UInt8).length = m + 1 := by simp; have := HM.out; omega
      rw [hl2] at hown2 ⊢
      have HO2 := hid hown2
      clear hl2 hown2
      try go_frame
      go_roundw
      case rel => exact ⟨z + 1, m + 1, A2, c2, by omega, hid (by have := HM.out; omega), rfl, HO2, hb2⟩
      case measure => show 100 - (m + 1) < 100 - m; have := HM.out; omega
    · have ht : (((n : Int) + (m : Int) + 8) % 64 != 0) = false := by
        rw [bne_eq_false_iff_eq]
        have := HM.out
        unfold noughts at hlt hz
        omega
      have HO3 : Hid (Own w.heap.size wr (.slice A m c) (128 :: List.replicate (noughts n) 0 ++ be8 (n * 8) 0)) := by
        have e : z = noughts n := by omega
        have := HO.out
        rw [e] at this
        have e2 : (128 :: List.replicate (noughts n) 0 ++ be8 (n * 8) 0 : List UInt8) = 128 :: List.replicate (noughts n) 0 := by simp [be8]
        rw [e2]
        exact hid this
      obtain ⟨wo, rfl⟩ : ∃ wo : World, wo = wr := ⟨_, rfl⟩
      go_wp2_with fail
      go_loopw [3, 4] (fun v s wr => ∃ (k : Nat) (x : Int) (A : Option Addr) (m c : Nat), k ≤ 8 ∧ Hid (x = 56 - 8 * (k : Int)) ∧ s = .int .i64 x ∧ v = .slice A m c ∧ m ≤ 120 ∧ Hid (Own w.heap.size wr (.slice A m c) (128 :: List.replicate (noughts n) 0 ++ be8 (n * 8) k)) ∧ Below w.heap.size w wr) (fun _ s _ => (intOf s + 8).toNat)
      case atStart => exact ⟨0, 56, A, m, c, by omega, hid (by omega), rfl, rfl, by omega, HO3, hbw⟩
      case round =>
        clear HO HO3 hbw hbs
        obtain ⟨k, x, A, m, c, hk, HX, rfl, rfl, hm, HO, hbw⟩ := hrel
        have hbs := hbw.size
        have hx1 : x ≤ 56 := by have := HX.out; omega
        have hx2 : -8 ≤ x := by have := HX.out; omega
        by_cases hlt2 : k < 8
        · have hx0 : 0 ≤ x := by have := HX.out; omega
          have hml : m = (128 :: List.replicate (noughts n) 0 ++ be8 (n * 8) k : List UInt8).length := HO.out.byt.at_.1
          have HML := hid hml
          clear hml
          have hq : (n : Int) * 8 / 2 ^ x.toNat % 256 = ((UInt8.ofNat (n * 8 / 2 ^ (56 - 8 * k))).toNat : Int) := by
            rw [u8_ofNat, show x.toNat = 56 - 8 * k from by have := HX.out; omega]
            simp
          have HQ := hid hq
          have hlen : (128 :: List.replicate (noughts n) 0 ++ be8 (n * 8) k : List UInt8).length + [UInt8.ofNat (n * 8 / 2 ^ (56 - 8 * k))].length ≤ 140737488355328 := by rw [← HML.out, List.length_singleton]; omega
          clear hq
          go_wp2_with (at_builtin; refine wpList_append_byt rfl (.tmp 24) (.tmp 30) rfl rfl rfl (HO.out.alloc _) (byt_one _ _ _ HQ.out) hlen (by simp; omega) ?_; intro v2 w2 hown2 hg2 _)
          have hb2 : Below w.heap.size w w2 := (hbw.alloc hbs _).grown hg2 (by simp; omega) (fun k hk => (World.ownsRow.lt HO.out k hk).1)
          have hl : (128 :: List.replicate (noughts n) 0 ++ be8 (n * 8) k : List UInt8) ++ [UInt8.ofNat (n * 8 / 2 ^ (56 - 8 * k))] = 128 :: List.replicate (noughts n) 0 ++ be8 (n * 8) (k + 1) := by
            rw [List.append_assoc]
            rfl
          rw [hl] at hown2
          clear hl hg2
          obtain ⟨A2, c2, rfl⟩ := hown2.byt.shape
          have hl2 : (128 :: List.replicate (noughts n) 0 ++ be8 (n * 8) (k + 1) : List UInt8).length = m + 1 := by
            have := HML.out
            simp only [List.length_append, List.length_cons, List.length_replicate, be8_length] at this ⊢
            omega
          have hml2 : m + 1 ≤ 120 := by
            have := HML.out
            simp only [List.length_append, List.length_cons, List.length_replicate, be8_length] at this
            omega
          rw [hl2] at hown2 ⊢
          have HO2 := hid hown2
          clear hl2 hown2
          go_roundw
          case rel => exact ⟨k + 1, x - 8, A2, m + 1, c2, by omega, hid (by have := HX.out; omega), rfl, rfl, hml2, HO2, hb2⟩
          case measure => simp [intOf]; omega
        · have hx0 : x < 0 := by have := HX.out; omega
          go_wp2_with fail
          go_ret
          have e : k = 8 := by omega
          subst e
          exact ⟨_, rfl, HO.out, hbw⟩

theorem start_any (w : World) : Calls Tryd.prog 23 #[] w fun e w' => e = .returned (.agg (fcells 8 fun j => wc (start j))) ∧ Below w.heap.size w w' := by
  go_enter Tryd.func23, Tryd.ntmps23
  go_wp2_with (first
    | (refine wpList_alloc_arr arrS rfl rfl ?_)
    | (refine wpList_store_arr arrS (f' := fun j => wc (start j)) rfl _ _ rfl rfl rfl (Blk.new w 8 (fun _ => wc 0) 49) (fun _ _ => rfl) ?_; intro w9 hg9 hC9 hs9))
  refine bodyPost_ret (arrS.result rfl _ _ rfl hC9) rfl ⟨rfl, ?_⟩
  exact below_into ((Below.refl _ _).alloc (Nat.le_refl _) _) (Nat.le_refl _) hg9 (by simp)
end Go.Proofs.YtakigopjbbhjkaaDoor
