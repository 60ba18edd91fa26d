/-
  tithingref05.four and tithingref05.Record.
-/
import Derived.Test.YtpecdlafeelkoaaCrcRef
namespace Go.Proofs.Ytpecdlafeelkoaa
open Go.RowKit

/-- A number's four bytes, the highest first. -/
def fourL (n : Nat) : List UInt8 := [UInt8.ofNat (n / 16777216), UInt8.ofNat (n / 65536 % 256), UInt8.ofNat (n / 256 % 256), UInt8.ofNat (n % 256)]
theorem fourL_length (n : Nat) : (fourL n).length = 4 := rfl
/-- The record of bytes. -/
def recS (l : List UInt8) : List UInt8 := fourL l.length ++ (fourL (crcS (fourL l.length ++ l)).toNat ++ l)
theorem recS_length (l : List UInt8) : (recS l).length = 8 + l.length := by
  unfold recS
  rw [List.length_append, List.length_append, fourL_length, fourL_length]
  omega
theorem byte_nat {n : Nat} (h : n < 256) : (n : Int) = ((UInt8.ofNat n).toNat : Int) := by
  rw [UInt8.toNat_ofNat']
  omega
/-- A row of bytes in a new block is the call's own. -/
theorem own_new (w : World) (l : List UInt8) {C : Array Value} (hC : C = (bcells l).toArray) (hm : l.length ≤ maxLen) : Own w.heap.size (w.alloc (.cells C 5)) (.slice (some ⟨w.heap.size, 0, none⟩) l.length l.length) l := by
  subst hC
  refine ⟨by simp [bcells], .inr ⟨w.heap.size, l.length, (bcells l).toArray, rfl, Nat.le_refl _, heap_alloc_new w _, Nat.le_refl _, hm, by simp [bcells], ?_⟩⟩
  rw [Nat.mul_one, List.take_of_length_le (by simp [bcells])]

set_option maxHeartbeats 1600000 in
theorem refFour_any (n : Nat) (w : World) (hn : n ≤ 4294967295) :
    Calls Try.prog 18 #[.int .u32 (n : Int)] w fun e w' => ∃ v, e = .returned v ∧ Own w.heap.size w' v (fourL n) ∧ Below w.heap.size w w' := by
  go_enter Try.func18, Try.ntmps18
  go_wp2_with fail
  go_ret
  refine ⟨_, rfl, own_new w (fourL n) ?_ (by show 4 ≤ maxLen; unfold maxLen; omega), (Below.refl _ _).alloc (Nat.le_refl _) _⟩
  show _ = #[bcell (UInt8.ofNat (n / 16777216)), bcell (UInt8.ofNat (n / 65536 % 256)), bcell (UInt8.ofNat (n / 256 % 256)), bcell (UInt8.ofNat (n % 256))]
  unfold bcell
  rw [← byte_nat (by omega), ← byte_nat (by omega), ← byte_nat (by omega), ← byte_nat (by omega)]
  rfl

/-- An empty row in a new block. -/
theorem fresh_own (w : World) : Own w.heap.size (w.alloc (.cells #[] 5)) (.slice (some ⟨w.heap.size, 0, none⟩) 0 0) [] := World.ownsRow_made w #[] 0 (Nat.le_refl _) (Nat.zero_le _) rfl
theorem fresh_below {w w2 : World} (hg : (w.alloc (.cells #[] 5)).grownBy w2 (Value.slice (some ⟨w.heap.size, 0, none⟩) 0 0).ownBlock) : Below w.heap.size w w2 :=
  ((Below.refl _ _).alloc (Nat.le_refl _) _).grown hg (by simp) (fun k hk => (World.ownsRow.lt (fresh_own w) k hk).1)
/-- What is appended to a row that began behind another leaves that one. -/
theorem Own.apart {B C : Nat} {w w' : World} {v u : Value} {l m : List UInt8} (h : Own B w v l) (hv : ∀ k, v.ownBlock = some k → k < C) (hu : Own C w u m) (hg : w.grownBy w' u.ownBlock) : Own B w' v l :=
  h.keep fun b hb e => hg.block b hb (fun e2 => by
    have h1 := hv b e
    have h2 := (World.ownsRow.lt hu b e2.symm).1
    omega)

set_option maxHeartbeats 1600000 in
theorem refRecord_any (v : Value) (l : List UInt8) (w : World) (hv : Byt w v l) (hs : l.length ≤ 900000) :
    Calls Try.prog 13 #[v] w fun e w' => ∃ x, e = .returned x ∧ Own w.heap.size w' x (recS l) ∧ Below w.heap.size w w' := by
  obtain ⟨A, c, rfl⟩ := hv.shape
  have HS := hid hs
  have hl0 : ([] : List UInt8).length + (fourL l.length).length ≤ 140737488355328 := by rw [fourL_length, List.length_nil]; omega
  have HL1 := hid (show (fourL l.length).length + l.length ≤ 140737488355328 by rw [fourL_length]; omega)
  have HLF := hid (show (fourL l.length ++ l).length ≤ 1000000 by rw [List.length_append, fourL_length]; omega)
  obtain ⟨L, HL⟩ : ∃ L : Nat, Hid (l.length = L) := ⟨_, hid rfl⟩
  have hL : L ≤ 900000 := by rw [← HL.out]; exact hs
  obtain ⟨F, HF⟩ : ∃ F : List UInt8, Hid (fourL L = F) := ⟨_, hid rfl⟩
  rw [HL.out, HF.out] at hl0
  have HL1' : Hid (F.length + l.length ≤ 140737488355328) := hid (by have := HL1.out; rw [HL.out, HF.out] at this; rw [HL.out]; exact this)
  have HLF' : Hid ((F ++ l).length ≤ 1000000) := hid (by have := HLF.out; rw [HL.out, HF.out] at this; exact this)
  rw [HL.out] at hv ⊢
  have HV := hid hv
  clear HL1 HLF hs hv
  go_enter Try.func13, Try.ntmps13
  go_wp2_with fail
  have C := refFour_any L w (by omega)
  rw [HF.out] at C
  refine C.mono ?_
  clear C
  rintro e w1 ⟨v3, rfl, ho3, hb1⟩
  go_wp2_with (first
    | (at_builtin; refine wpList_append_byt rfl (.tmp 8) (.tmp 9) rfl rfl rfl (fresh_own w1) (ho3.byt.alloc _) hl0 (alloc_le w1 _) ?_; intro v10 w10 hown10 hg10 hv10; simp only [List.nil_append] at hown10; have hb10 := fresh_below hg10; clear hg10)
    | (at_builtin; refine wpList_append_byt rfl (.tmp 11) (.tmp 12) rfl rfl rfl (fresh_own w10) ((ho3.byt.below hb10).alloc _) hl0 (alloc_le w10 _) ?_; intro v13 w13 hown13 hg13 hv13; simp only [List.nil_append] at hown13; have hb13 := fresh_below hg13; have hown10' := hown10.below hb13; clear hg13)
    | (at_builtin; refine wpList_append_byt rfl (.tmp 13) (.tmp 14) rfl rfl rfl hown13 (HV.out.below (hb1.trans ((hb10.mono hb1.size).trans (hb13.mono (Nat.le_trans hb1.size hb10.size))))) HL1'.out hb13.size ?_; intro v15 w15 hown15 hg15 hv15; have hown10'' := hown10'.apart (fun k hk => (World.ownsRow.lt hown10 k hk).2) hown13 hg15; have hb15 := hb13.grown hg15 hb13.size (fun k hk => (World.ownsRow.lt hown13 k hk).1); clear hg15))
  refine (refCrc_any v15 (F ++ l) w15 hown15.byt HLF'.out).mono ?_
  rintro e w16 ⟨rfl, hb16⟩
  have ho10 := hown10''.below hb16
  have hB16 : Below w.heap.size w w16 := hb1.trans ((hb10.mono hb1.size).trans ((hb15.mono (Nat.le_trans hb1.size hb10.size)).trans (hb16.mono (Nat.le_trans hb1.size (Nat.le_trans hb10.size hb15.size)))))
  have hs1 := hb1.size
  have hs16 : w1.heap.size ≤ w16.heap.size := Nat.le_trans hb10.size (Nat.le_trans hb15.size hb16.size)
  obtain ⟨q, HQ⟩ : ∃ q : Nat, Hid ((crcS (F ++ l)).toNat = q) := ⟨_, hid rfl⟩
  have hq : q ≤ 4294967295 := by rw [← HQ.out]; exact Nat.le_of_lt_succ (BitVec.isLt _)
  rw [HQ.out]
  have hl4 := hl0
  clear hown10 hown10' hown10'' hown13 hown15 hb10 hb13 hb15 hb16 hv10 hv13 hv15 ho3
  go_wp2_with fail
  refine (refFour_any q w16 hq).mono ?_
  rintro e w17 ⟨v17, rfl, ho17, hb17⟩
  have ho10' := ho10.below hb17
  have hs17 : w1.heap.size ≤ w17.heap.size := Nat.le_trans hs16 hb17.size
  have hB17 := hB16.trans (hb17.mono hB16.size)
  have hl5 : F.length + (fourL q).length ≤ 140737488355328 := by
    have : F.length = 4 := by rw [← HF.out]; rfl
    rw [this]
    show 4 + 4 ≤ _
    omega
  have HL6 := hid (show (F ++ fourL q).length + l.length ≤ 140737488355328 by
    have h4 : F.length = 4 := by rw [← HF.out]; rfl
    have := HS.out
    rw [List.length_append, h4, fourL_length]
    omega)
  have HL6' := HL6
  rw [HL.out] at HL6'
  go_wp2_with (first
    | (at_builtin; refine wpList_append_byt rfl (.tmp 10) (.tmp 17) rfl rfl rfl ho10' ho17.byt hl5 hs17 ?_; intro v18 w18 hown18 hg18 hv18; have hB18 := hB17.grown hg18 hB17.size (fun k hk => Nat.le_trans hs1 (World.ownsRow.lt ho10' k hk).1); have hs18 := Nat.le_trans hs17 hg18.size; clear hg18)
    | (at_builtin; refine wpList_append_byt rfl (.tmp 18) (.tmp 19) rfl rfl rfl hown18 (HV.out.below hB18) HL6.out hs18 ?_; intro v20 w20 hown20 hg20 hv20; have hB20 := hB18.grown hg20 hB18.size (fun k hk => Nat.le_trans hs1 (World.ownsRow.lt hown18 k hk).1); clear hg20))
  go_ret
  refine ⟨v20, rfl, ?_, hB20⟩
  unfold recS
  rw [HL.out, HF.out, HQ.out, ← List.append_assoc]
  exact hown20.more hs1
end Go.Proofs.Ytpecdlafeelkoaa
