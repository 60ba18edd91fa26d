/-
  tithingref02.Fill gives a text that is filled.
-/
import Derived.Test.YtakigopjbbhjkaaDoorKeepN
namespace Go.Proofs.YtakigopjbbhjkaaDoor
open Go.RowKit

theorem byt_eight (w : World) (c0 c1 c2 c3 c4 c5 c6 c7 : UInt8) (x0 x1 x2 x3 x4 x5 x6 x7 : Int) (h0 : x0 = (c0.toNat : Int)) (h1 : x1 = (c1.toNat : Int)) (h2 : x2 = (c2.toNat : Int)) (h3 : x3 = (c3.toNat : Int)) (h4 : x4 = (c4.toNat : Int)) (h5 : x5 = (c5.toNat : Int)) (h6 : x6 = (c6.toNat : Int)) (h7 : x7 = (c7.toNat : Int)) : Byt (w.alloc (.cells #[.int .u8 x0, .int .u8 x1, .int .u8 x2, .int .u8 x3, .int .u8 x4, .int .u8 x5, .int .u8 x6, .int .u8 x7] 5)) (.slice (some ⟨w.heap.size, 0, none⟩) 8 8) [c0, c1, c2, c3, c4, c5, c6, c7] := by
  subst h0 h1 h2 h3 h4 h5 h6 h7
  refine ⟨_, 8, rfl, Nat.le_refl _, by unfold maxLen; omega, fun _ => ⟨w.heap.size, 0, rfl, by simp, fun j hj => ?_⟩⟩
  have B := (Blk.new w 8 (fun j => bcell ([c0, c1, c2, c3, c4, c5, c6, c7].getD j 0)) 5).cell (i := j) hj
  have e : (fcells 8 fun j => bcell ([c0, c1, c2, c3, c4, c5, c6, c7].getD j 0)) = #[.int .u8 (c0.toNat : Int), .int .u8 (c1.toNat : Int), .int .u8 (c2.toNat : Int), .int .u8 (c3.toNat : Int), .int .u8 (c4.toNat : Int), .int .u8 (c5.toNat : Int), .int .u8 (c6.toNat : Int), .int .u8 (c7.toNat : Int)] := rfl
  rw [e] at B
  obtain rfl | rfl | rfl | rfl | rfl | rfl | rfl | rfl : j = 0 ∨ j = 1 ∨ j = 2 ∨ j = 3 ∨ j = 4 ∨ j = 5 ∨ j = 6 ∨ j = 7 := by simp at hj; omega
  all_goals first | exact B | (rw [addr_add]; exact B) | (simp [Addr.add] at B ⊢; exact B) | simpa using B
theorem be8_list (m : Nat) : be8 m 8 = [UInt8.ofNat (m / 72057594037927936), UInt8.ofNat (m / 281474976710656), UInt8.ofNat (m / 1099511627776), UInt8.ofNat (m / 4294967296), UInt8.ofNat (m / 16777216), UInt8.ofNat (m / 65536), UInt8.ofNat (m / 256), UInt8.ofNat m] := by simp [be8]

set_option maxHeartbeats 3200000 in
theorem refFill_any (v : Value) (l : List UInt8) (w : World) (hv : Byt w v l) (hs : l.length ≤ 1000000) :
    Calls Tryd.prog 26 #[v] w fun e w' => ∃ x, e = .returned x ∧ Own w.heap.size w' x (fillS l) ∧ Below w.heap.size w w' := by
  obtain ⟨A, c, rfl⟩ := hv.shape
  obtain ⟨L, HL⟩ : ∃ L : Nat, Hid (l.length = L) := ⟨_, hid rfl⟩
  rw [HL.out] at hs hv ⊢
  have hnl := noughts_le L
  go_enter Tryd.func26, Tryd.ntmps26
  have hown0 : Own w.heap.size (w.alloc (.cells #[] 5)) (.slice (some ⟨w.heap.size, 0, none⟩) 0 0) [] :=
    ⟨by simp [bcells], .inr ⟨w.heap.size, 0, #[], rfl, Nat.le_refl _, by rw [heap_alloc_new], Nat.le_refl _, by unfold maxLen; omega, rfl, by simp [bcells]⟩⟩
  have hb0 : Below w.heap.size w (w.alloc (.cells #[] 5)) := (Below.refl _ _).alloc (Nat.le_refl _) _
  have hv0 := hv.below hb0
  have hs0 := hb0.size
  have hr1 : ([] : List UInt8).length + l.length ≤ 140737488355328 := by rw [HL.out]; simp; omega
  have hr2 : ([] ++ l : List UInt8).length + ([128] : List UInt8).length ≤ 140737488355328 := by rw [List.nil_append, HL.out, List.length_singleton]; omega
  go_wp2_with (first
    | (at_builtin; refine wpList_append_byt rfl (.tmp 5) (.tmp 6) rfl rfl rfl hown0 hv0 hr1 hs0 ?_; intro v1 w1 hown1 hg1 hv1; have hb1 : Below w.heap.size w w1 := hb0.grown hg1 hs0 (fun k hk => (World.ownsRow.lt hown0 k hk).1); have hs1 := hb1.size; have hs2 : w.heap.size ≤ (w1.alloc (.cells #[.int .u8 128] 5)).heap.size := by simp; omega)
    | (at_builtin; refine wpList_append_byt rfl (.tmp 7) (.tmp 8) rfl rfl rfl (hown1.alloc _) (byt_one _ _ 128 rfl) hr2 hs2 ?_; intro v2 w2 hown2 hg2 hv2))
  have hb2 : Below w.heap.size w w2 := (hb1.alloc hs1 _).grown hg2 hs2 (fun k hk => (World.ownsRow.lt hown1 k hk).1)
  have e2 : ([] ++ l ++ [128] : List UInt8) = l ++ 128 :: List.replicate 0 0 := by simp
  rw [e2] at hown2
  obtain ⟨A2, c2, rfl⟩ := hown2.byt.shape
  have hl2 : (l ++ 128 :: List.replicate 0 0 : List UInt8).length = L + 1 := by simp; exact HL.out
  rw [hl2] at hown2 ⊢
  clear hg2 hl2 e2 hg1 hown1 hb1 hs1 hs2 hown0 hb0 hv0 hs0 hr1 hr2 hv2 hv1
  try go_frame
  go_wp2_with fail
  go_loopw [3] (fun v wr => ∃ (z m : Nat) (A : Option Addr) (c : Nat), z ≤ noughts L ∧ Hid (m = L + z + 1) ∧ v = .slice A m c ∧ Hid (Own w.heap.size wr (.slice A m c) (l ++ 128 :: List.replicate z 0)) ∧ Below w.heap.size w wr) (fun v _ => L + 100 - slen2 v)
  case atStart => exact ⟨0, L + 1, A2, c2, Nat.zero_le _, hid rfl, rfl, hid hown2, hb2⟩
  case round =>
    clear hown2 hb2
    obtain ⟨z, m, A3, c3, hz, HM, rfl, HO, hbw⟩ := hrel
    have hbs := hbw.size
    have hm : m ≤ L + 100 := by have := HM.out; omega
    have hlen : (l ++ 128 :: List.replicate z 0 : List UInt8).length + ([0] : List UInt8).length ≤ 140737488355328 := by
      simp
      have := HL.out
      omega
    by_cases hlt : z < noughts L
    · have ht : ((m : Int) % 64 != 56) = true := by
        rw [bne_iff_ne]
        have := HM.out
        unfold noughts at hlt
        omega
      go_wp2_with (at_builtin; refine wpList_append_byt rfl (.tmp 14) (.tmp 15) rfl rfl rfl (HO.out.alloc _) (byt_one _ _ 0 rfl) hlen (by simp; omega) ?_; intro v4 w4 hown4 hg4 _)
      have hb4 : Below w.heap.size w w4 := (hbw.alloc hbs _).grown hg4 (by simp; omega) (fun k hk => (World.ownsRow.lt HO.out k hk).1)
      have hl : (l ++ 128 :: List.replicate z 0 : List UInt8) ++ [0] = l ++ 128 :: List.replicate (z + 1) 0 := by
        rw [List.replicate_succ', List.append_assoc, List.cons_append]
      rw [hl] at hown4
      clear hl hg4
      obtain ⟨A4, c4, rfl⟩ := hown4.byt.shape
      have hl4 : (l ++ 128 :: List.replicate (z + 1) 0 : List UInt8).length = m + 1 := by simp; have := HM.out; have := HL.out; omega
      rw [hl4] at hown4 ⊢
      have HO4 := hid hown4
      clear hl4 hown4 hlen
      try go_frame
      go_roundw
      case rel => exact ⟨z + 1, m + 1, A4, c4, by omega, hid (by have := HM.out; omega), rfl, HO4, hb4⟩
      case measure => show L + 100 - (m + 1) < L + 100 - m; have := HM.out; omega
    · have ht : ((m : Int) % 64 != 56) = false := by
        rw [bne_eq_false_iff_eq]
        have := HM.out
        unfold noughts at hlt hz
        omega
      have HO3 : Hid (Own w.heap.size wr (.slice A3 m c3) (l ++ 128 :: List.replicate (noughts L) 0)) := by
        have e : z = noughts L := by omega
        have := HO.out
        rw [e] at this
        exact hid this
      clear HO hlen
      have Q0 : Hid ((L : Int) * 8 / 72057594037927936 = ((UInt8.ofNat (L * 8 / 72057594037927936)).toNat : Int)) := hid (by rw [u8_ofNat]; omega)
      have Q1 : Hid ((L : Int) * 8 / 281474976710656 = ((UInt8.ofNat (L * 8 / 281474976710656)).toNat : Int)) := hid (by rw [u8_ofNat]; omega)
      have Q2 : Hid ((L : Int) * 8 / 1099511627776 = ((UInt8.ofNat (L * 8 / 1099511627776)).toNat : Int)) := hid (by rw [u8_ofNat]; omega)
      have Q3 : Hid ((L : Int) * 8 / 4294967296 = ((UInt8.ofNat (L * 8 / 4294967296)).toNat : Int)) := hid (by rw [u8_ofNat]; omega)
      have Q4 : Hid ((L : Int) * 8 / 16777216 = ((UInt8.ofNat (L * 8 / 16777216)).toNat : Int)) := hid (by rw [u8_ofNat]; omega)
      have Q5 : Hid ((L : Int) * 8 / 65536 = ((UInt8.ofNat (L * 8 / 65536)).toNat : Int)) := hid (by rw [u8_ofNat]; omega)
      have Q6 : Hid ((L : Int) * 8 / 256 % 256 = ((UInt8.ofNat (L * 8 / 256)).toNat : Int)) := hid (by rw [u8_ofNat]; omega)
      have Q7 : Hid ((L : Int) * 8 % 256 = ((UInt8.ofNat (L * 8)).toNat : Int)) := hid (by rw [u8_ofNat]; omega)
      have hlen5 : (l ++ 128 :: List.replicate (noughts L) 0 : List UInt8).length + (be8 (L * 8) 8).length ≤ 140737488355328 := by
        rw [be8_length]
        simp
        have := HL.out
        omega
      have he : ∀ w' : World, Byt (w'.alloc (.cells #[.int .u8 ((L : Int) * 8 / 72057594037927936), .int .u8 ((L : Int) * 8 / 281474976710656), .int .u8 ((L : Int) * 8 / 1099511627776), .int .u8 ((L : Int) * 8 / 4294967296), .int .u8 ((L : Int) * 8 / 16777216), .int .u8 ((L : Int) * 8 / 65536), .int .u8 ((L : Int) * 8 / 256 % 256), .int .u8 ((L : Int) * 8 % 256)] 5)) (.slice (some ⟨w'.heap.size, 0, none⟩) 8 8) (be8 (L * 8) 8) := fun w' => by
        rw [be8_list]
        exact byt_eight w' _ _ _ _ _ _ _ _ _ _ _ _ _ _ _ _ Q0.out Q1.out Q2.out Q3.out Q4.out Q5.out Q6.out Q7.out
      clear Q0 Q1 Q2 Q3 Q4 Q5 Q6 Q7
      have HE := hid he
      clear he
      go_wp2_with (at_builtin; refine wpList_append_byt rfl (.tmp 21) (.tmp 45) rfl rfl rfl (HO3.out.alloc _) (HE.out _) hlen5 (by simp; omega) ?_; intro v5 w5 hown5 hg5 _)
      go_ret
      have e : fillS l = l ++ 128 :: List.replicate (noughts L) 0 ++ be8 (L * 8) 8 := by
        rw [← HL.out, List.append_assoc]
        rfl
      rw [e]
      exact ⟨_, rfl, hown5, (hbw.alloc hbs _).grown hg5 (by simp; omega) (fun k hk => (World.ownsRow.lt HO3.out k hk).1)⟩
end Go.Proofs.YtakigopjbbhjkaaDoor
