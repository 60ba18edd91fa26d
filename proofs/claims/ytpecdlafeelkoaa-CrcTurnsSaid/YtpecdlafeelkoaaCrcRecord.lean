/-
  crc.put and crc.Record.
-/
import Derived.Test.YtpecdlafeelkoaaCrcTurnsWalk
import Derived.Test.YtpecdlafeelkoaaCrcRecordsWalk
import Derived.Test.YtpecdlafeelkoaaCrcOfWalk
namespace Go.Proofs.Ytpecdlafeelkoaa
open Go.RowKit

set_option maxHeartbeats 1600000 in
theorem crcPut_any (B : Nat) (v : Value) (l : List UInt8) (n : Nat) (w : World) (hv : Own B w v l) (hB : B ≤ w.heap.size) (hl : l.length ≤ 1000000) (hn : n ≤ 4294967295) :
    Calls Try.prog 15 #[v, .int .u32 (n : Int)] w fun e w' => ∃ x, e = .returned x ∧ Own B w' x (l ++ fourL n) ∧ Below B w w' := by
  obtain ⟨q0, H0⟩ : ∃ q : Nat, Hid (n / 16777216 = q) := ⟨_, hid rfl⟩
  obtain ⟨q1, H1⟩ : ∃ q : Nat, Hid (n / 65536 = q) := ⟨_, hid rfl⟩
  obtain ⟨q2, H2⟩ : ∃ q : Nat, Hid (n / 256 = q) := ⟨_, hid rfl⟩
  obtain ⟨r1, K1⟩ : ∃ q : Nat, Hid (n / 65536 % 256 = q) := ⟨_, hid rfl⟩
  obtain ⟨r2, K2⟩ : ∃ q : Nat, Hid (n / 256 % 256 = q) := ⟨_, hid rfl⟩
  obtain ⟨r3, K3⟩ : ∃ q : Nat, Hid (n % 256 = q) := ⟨_, hid rfl⟩
  have e0 : (n : Int) / 16777216 = (q0 : Int) := by have := H0.out; omega
  have e1 : (n : Int) / 65536 = (q1 : Int) := by have := H1.out; omega
  have e2 : (n : Int) / 256 = (q2 : Int) := by have := H2.out; omega
  have w0 : IntKind.u8.wrap (q0 : Int) = (q0 : Int) := by rw [IntKind.wrap_u8']; have := H0.out; omega
  have w1 : IntKind.u8.wrap (q1 : Int) = (r1 : Int) := by rw [IntKind.wrap_u8']; have := H1.out; have := K1.out; omega
  have w2 : IntKind.u8.wrap (q2 : Int) = (r2 : Int) := by rw [IntKind.wrap_u8']; have := H2.out; have := K2.out; omega
  have w3 : IntKind.u8.wrap (n : Int) = (r3 : Int) := by rw [IntKind.wrap_u8']; have := K3.out; omega
  have hC : #[Value.int .u8 (q0 : Int), .int .u8 (r1 : Int), .int .u8 (r2 : Int), .int .u8 (r3 : Int)] = (bcells (fourL n)).toArray := by
    show _ = #[bcell (UInt8.ofNat (n / 16777216)), bcell (UInt8.ofNat (n / 65536 % 256)), bcell (UInt8.ofNat (n / 256 % 256)), bcell (UInt8.ofNat (n % 256))]
    unfold bcell
    rw [← byte_nat (by omega), ← byte_nat (by omega), ← byte_nat (by omega), ← byte_nat (by omega), H0.out, K1.out, K2.out, K3.out]
  have hby : Byt (w.alloc (.cells #[Value.int .u8 (q0 : Int), .int .u8 (r1 : Int), .int .u8 (r2 : Int), .int .u8 (r3 : Int)] 5)) (.slice (some ⟨w.heap.size, 0, none⟩) 4 4) (fourL n) := (own_new w (fourL n) hC (by show 4 ≤ maxLen; unfold maxLen; omega)).byt
  have hlf : l.length + (fourL n).length ≤ 140737488355328 := by rw [fourL_length]; omega
  have HB := hid hby
  obtain ⟨F, HF⟩ : ∃ F : List UInt8, Hid (fourL n = F) := ⟨_, hid rfl⟩
  rw [HF.out] at HB hlf ⊢
  clear hC hby hl hn
  go_enter Try.func15, Try.ntmps15
  go_wp2_with (at_builtin; go_loud (refine wpList_append_byt rfl (.tmp 5) (.tmp 17) rfl rfl rfl (hv.alloc _) HB.out hlf (Nat.le_trans hB (alloc_le w _)) ?_; intro v2 w2 hown2 hg2 hv2; have hb2 := ((Below.refl B w).alloc hB _).grown hg2 (Nat.le_trans hB (alloc_le w _)) (fun k hk => (World.ownsRow.lt hv k hk).1); clear hg2 hv2))
  go_ret
  exact ⟨v2, rfl, hown2, hb2⟩

set_option maxHeartbeats 1600000 in
theorem record_none : RecordNone := fun v w hv => by
  obtain ⟨A, c, rfl⟩ := hv.shape
  go_enter Try.func9, Try.ntmps9
  go_wp2_with fail
  go_ret2
  exact ⟨_, rfl, Byt.nil _, Below.refl _ _⟩

set_option maxHeartbeats 1600000 in
theorem record_ok : RecordOk := fun v l w hv h0 h1 => by
  obtain ⟨A, c, rfl⟩ := hv.shape
  obtain ⟨L, HL⟩ : ∃ L : Nat, Hid (l.length = L) := ⟨_, hid rfl⟩
  have HV := hid hv
  rw [HL.out] at h0 h1 ⊢
  clear hv
  have HVW : Hid (∀ W : World, Below w.heap.size w W → Byt W (.slice A L c) l) := hid (fun W h => by have := HV.out.below h; rw [HL.out] at this; exact this)
  obtain ⟨F, HF⟩ : ∃ F : List UInt8, Hid (fourL L = F) := ⟨_, hid rfl⟩
  have HFL : Hid (F.length = 4) := hid (by rw [← HF.out]; rfl)
  obtain ⟨i0, hi, hz0, hz1, hz2⟩ := info_parts info_u8
  have hm2 : i0.bytes * (8 + L) ≤ 281474976710656 := by rw [hz2]; omega
  have hm3 : 8 + L ≤ maxLen := by unfold maxLen; omega
  have hL32 : IntKind.u32.wrap (L : Int) = (L : Int) := by rw [IntKind.wrap_u32']; omega
  go_enter Try.func9, Try.ntmps9
  go_wp2_with (at_make; refine wpList_make_own _ rfl _ _ 22 rfl w.heap.size 5 i0 (.int .u8 0) 1 under_bytes hi hz0 hz1 _ _ _ (8 + L) rfl rfl (by simp) hm2 hm3 (Nat.le_refl _) ?_; intro w2 hown2 hg2; have ho2 : Own w.heap.size w2 (.slice (some ⟨w.heap.size, 0, none⟩) 0 (8 + L)) [] := hown2; have hb2 : Below w.heap.size w w2 := (Below.refl _ _).grown hg2 (Nat.le_refl _) (fun k h => by cases h); clear hown2 hg2)
  have C := crcPut_any w.heap.size _ [] L w2 ho2 hb2.size (by decide) (by omega)
  rw [HF.out, List.nil_append] at C
  refine C.mono ?_
  clear C hm2 hm3
  rintro e w3 ⟨v3, rfl, ho3, hb3'⟩
  have hb3 := hb2.trans hb3'
  clear hb3' hb2 ho2
  obtain ⟨A3, c3, rfl⟩ := ho3.byt.shape
  have hby3 := ho3.byt
  rw [HFL.out] at ho3 hby3 ⊢
  have HB3 := hid hby3
  have HO3 := hid ho3
  clear hby3 ho3
  go_wp2_with fail
  have hbl : Below w.heap.size w (w3.alloc (.cells #[.slice A3 4 c3, .slice A L c] 22)) := hb3.alloc hb3.size _
  have hb3l : Below w3.heap.size w3 (w3.alloc (.cells #[.slice A3 4 c3, .slice A L c] 22)) := (Below.refl _ _).alloc (Nat.le_refl _) _
  have C := crcOf_two _ _ F l w3.heap.size 2 _ (lt_al w3 _) (new_cell w3 _ _ 0 _ rfl) (new_cell w3 _ _ 1 _ rfl) (HB3.out.below hb3l) (HVW.out _ hbl) (l := F ++ l) rfl (by rw [List.length_append, HFL.out, HL.out]; omega)
  obtain ⟨q, HQ⟩ : ∃ q : Nat, Hid ((crcS (F ++ l)).toNat = q) := ⟨_, hid rfl⟩
  have hq : q ≤ 4294967295 := by rw [← HQ.out]; exact Nat.le_of_lt_succ (BitVec.isLt _)
  rw [HQ.out] at C
  refine C.mono ?_
  clear C
  rintro e w4 ⟨rfl, hb4⟩
  have hB4 := hbl.trans (hb4.mono hbl.size)
  have ho4 : Own w.heap.size w4 (.slice A3 4 c3) F := (HO3.out.alloc _).below hb4
  clear hbl hb3l hb4 hb3
  go_wp2_with fail
  refine (crcPut_any w.heap.size _ F q w4 ho4 hB4.size (by rw [HFL.out]; decide) hq).mono ?_
  rintro e w5 ⟨v5, rfl, ho5, hb5⟩
  have hB5 := hB4.trans hb5
  have HL6 := hid (show (F ++ fourL q).length + l.length ≤ 140737488355328 by rw [List.length_append, HFL.out, fourL_length, HL.out]; omega)
  clear hb5 hB4 ho4
  go_wp2_with (at_builtin; refine wpList_append_byt rfl (.tmp 28) (.tmp 29) rfl rfl rfl ho5 (HVW.out _ hB5) HL6.out hB5.size ?_; intro v7 w7 hown7 hg7 hv7; have hB7 := hB5.grown hg7 hB5.size (fun k hk => (World.ownsRow.lt ho5 k hk).1); clear hg7)
  go_ret2
  refine ⟨v7, rfl, ?_, hB7⟩
  unfold recS
  rw [HL.out, HF.out, HQ.out, ← List.append_assoc]
  exact hown7
end Go.Proofs.Ytpecdlafeelkoaa
