/-
  The law of turns: any state behind any block, any text that is filled, and that the constants are third roots'.
-/
import Derived.Test.YtgcagidkeacheaaDoorPrimes
import Derived.Test.YtgcagidkeacheaaDoorCuts
import Derived.Test.YtgcagidkeacheaaDoorRefTurn
import Derived.Test.YtgcagidkeacheaaDoorRefFill
import Derived.Test.YtgcagidkeacheaaDoorShaAwake
import Derived.Test.YtgcagidkeacheaaDoorSame
import Derived.Deep.RegionHeld3
namespace Go.Proofs.YtgcagidkeacheaaDoor
open Go.RowKit

theorem wpList_load_cells {T E : TypeId} {n : Nat} {z : Value} (H : ArrT T E n z) {ops : Array Oper} {rest : List Oper} {o : Oper} {a : Act} {w : World} {Q : Exit → Act → World → Prop} (hgd : o.guard = none) (x : Operand) (ho : o.op = .load T x)
    {g : Nat} {f : Nat → Value} (hx : a.eval x = .pointer (some ⟨g, 0, none⟩)) (hg : ∀ j, j < n → w.cell? ⟨g, j, none⟩ = some (f j))
    (hh : wpList Tryd.prog ops Q rest (a.put o.dst (.agg (fcells n f))) w) : wpList Tryd.prog ops Q (o :: rest) a w :=
  wpList_plain hgd fun _ hK => by
    have hr : w.rangeAt g 0 (fcells n f).toList := fun j v hv => by
      rw [fcells_list] at hv
      split at hv
      · injection hv with hv
        rw [Nat.zero_add, hg j ‹_›, hv]
      · cases hv
    have := run_loadAt_mid (P := Tryd.prog) w g 0 T (fcells n f).toList _ hr H.under rfl (by rw [H.size, Array.length_toList, fcells_size])
    rw [Array.toArray_toList] at this
    unfold Oper.wp execOp
    simp only [ho, hx, Sem.run_bind, this, Result.andThen_ok, Sem.run_pure]
    exact hK _ _ hh

theorem consts_any (w : World) (hK : Kst 0 w) : Calls Tryd.prog 11 #[] w fun e w' => e = .returned (.agg (fcells 64 fun j => wc (kc j))) ∧ Below w.heap.size w w' := by
  have hc : ∀ j, j < 64 → (w.alloc (.cells (fcells 64 fun _ => wc 0) 35)).cell? ⟨0, j, none⟩ = some (wc (kc j)) := (hK.below ((Below.refl _ _).alloc (Nat.le_refl _) _)).2
  have HC := hid hc
  have hb1 : Below w.heap.size w (w.alloc (.cells (fcells 64 fun _ => wc 0) 35)) := (Below.refl _ _).alloc (Nat.le_refl _) _
  clear hc
  go_enter Tryd.func11, Tryd.ntmps11
  go_wp2_with (first
    | (refine wpList_alloc_arr arrW rfl rfl ?_)
    | (refine wpList_load_cells arrW rfl _ rfl rfl HC.out ?_)
    | (refine wpList_store_arr arrW rfl _ _ rfl rfl rfl (Blk.new w 64 (fun _ => wc 0) 35) (fun _ _ => rfl) ?_; intro w1 hg1 hA1 hs1))
  refine bodyPost_ret (arrW.result rfl _ _ rfl hA1) rfl ⟨rfl, ?_⟩
  exact below_into hb1 (g := w.heap.size) (Nat.le_refl _) hg1 hb1.size

attribute [local go_sem ↓] exec_load_S exec_load_hide

set_option maxRecDepth 100000 in
set_option maxHeartbeats 3200000 in
theorem shaTurns_any (s : Nat → UInt32) (b : Nat → UInt8) (v : Value) (l : List UInt8) (w : World) (hv : Byt w v l) (hK : Kst 1 w) (hK0 : Kst 0 w) :
    Calls Tryd.prog 4 #[.agg (fcells 8 fun j => wc (s j)), .agg (fcells 64 fun j => bcell (b j)), v] w fun e w' => e = .returned (.bool true) ∧ Below w.heap.size w w' := by
  obtain ⟨A, c, rfl⟩ := hv.shape
  have hcc := hv.at_.2.1
  have hcm := hv.at_.2.2.1
  unfold maxLen at hcm
  have hb0 : Below w.heap.size w ((w.alloc (.cells (fcells 8 fun j => wc (s j)) 31)).alloc (.cells (fcells 64 fun j => bcell (b j)) 32)) := ((Below.refl _ _).alloc (Nat.le_refl _) _).alloc (by simp) _
  have hS0 : Blk ((w.alloc (.cells (fcells 8 fun j => wc (s j)) 31)).alloc (.cells (fcells 64 fun j => bcell (b j)) 32)) w.heap.size 8 (fun j => wc (s j)) 31 := (Blk.new w _ _ _).alloc _
  have hT0 : Blk ((w.alloc (.cells (fcells 8 fun j => wc (s j)) 31)).alloc (.cells (fcells 64 fun j => bcell (b j)) 32)) (w.heap.size + 1) 64 (fun j => bcell (b j)) 32 := by
    have := Blk.new (w.alloc (.cells (fcells 8 fun j => wc (s j)) 31)) 64 (fun j => bcell (b j)) 32
    simpa using this
  have HS0 := hid hS0
  have HT0 := hid hT0
  clear hS0 hT0
  by_cases hlong : 1000 < l.length
  · go_enter Tryd.func4, Tryd.ntmps4
    go_wp2_with fail
    refine (awake_any _ (hK.below hb0)).mono ?_
    rintro e w' ⟨rfl, hb⟩
    go_wp2_with fail
    go_ret
    exact ⟨rfl, hb0.trans (hb.mono hb0.size)⟩
  · obtain ⟨L, HL⟩ : ∃ L : Nat, Hid (l.length = L) := ⟨_, hid rfl⟩
    have HS := hid (show l.length ≤ 1000000 by omega)
    rw [HL.out] at hlong hcc hv ⊢
    have hq : ¬ (1000 : Int) < (L : Int) := by omega
    go_enter Tryd.func4, Tryd.ntmps4
    go_wp2_with fail
    generalize (w.alloc (.cells (fcells 8 fun j => wc (s j)) 31)).alloc (.cells (fcells 64 fun j => bcell (b j)) 32) = w0 at *
    refine (primes_any w0).mono ?_
    rintro e w1 ⟨P, pc, rfl, hP, hPc, hb1⟩
    have hb1' := hb0.trans (hb1.mono hb0.size)
    have hS1 := HS0.out.keep hb1
    have hT1 := HT0.out.keep hb1
    have HP1 := hid hPc
    clear hPc hb1 hb0
    go_wp2_with fail
    refine (consts_any w1 (hK0.below hb1')).mono ?_
    rintro e w2 ⟨rfl, hb2⟩
    have hS2 := hS1.keep hb2
    have hT2 := hT1.keep hb2
    have HP2 := hid (fun j hj => (hb2.cell (p := ⟨P, j, none⟩) hP).trans (HP1.out j hj) : ∀ j, j < 64 → w2.cell? ⟨P, j, none⟩ = some (uc (pl.getD j 0)))
    have hP2 : P < w2.heap.size := by have := hb2.size; omega
    have hb2' := hb1'.trans (hb2.mono hb1'.size)
    clear hb2 hb1' hS1 hT1 hP HP1
    obtain ⟨s0, HS0'⟩ : ∃ x : UInt32, Hid (s 0 = x) := ⟨_, hid rfl⟩
    obtain ⟨k, HK⟩ : ∃ k : Nat, Hid (s0.toNat % 64 = k) := ⟨_, hid rfl⟩
    have hk64 : k < 64 := by have := HK.out; omega
    have qk : wv s0 % 64 = (k : Int) := by unfold wv; have := HK.out; omega
    have qw := wv_lt s0
    go_wp2_with (first
      | (refine wpList_alloc_arr arrW rfl rfl ?_)
      | (refine wpList_store_arr arrW rfl _ _ rfl rfl rfl (Blk.new w2 64 (fun _ => wc 0) 35) (fun _ _ => rfl) ?_; intro w3 hg3 hC3 hs3; have hS3 := (hS2.alloc (.cells (fcells 64 fun _ => wc 0) 35)).grown hg3 (fun e => by have := Option.some.inj e; have := hS2.lt; omega); have c0 := hS3.cell (i := 0) (by omega); rw [HS0'.out] at c0; unfold wc at c0))
    have hT3 := (hT2.alloc (.cells (fcells 64 fun _ => wc 0) 35)).grown hg3 (fun e => by have := Option.some.inj e; have := hT2.lt; omega)
    have hb3' := (hb2'.alloc hb2'.size (.cells (fcells 64 fun _ => wc 0) 35)).grown hg3 (by have := hb2'.size; simp; omega) (fun k hk => by injection hk; have := hb2'.size; omega)
    obtain ⟨q, HQ⟩ : ∃ q : Nat, Hid (pl.getD k 0 = q) := ⟨_, hid rfl⟩
    have hPk : w3.cell? ⟨P, k, none⟩ = some (.int .u64 (q : Int)) := by
      have h1 := HP2.out k hk64
      rw [HQ.out] at h1
      have h2 : (w2.alloc (.cells (fcells 64 fun _ => wc 0) 35)).heap[P]? = w2.heap[P]? := Below.heap_alloc _ _ _ hP2
      rw [World.cell?_of_block ((hg3.block P (by simp; omega) (fun e => by have := Option.some.inj e; omega)).trans h2)]
      exact h1
    have hP3 : P < w3.heap.size := by rw [hs3]; simp; omega
    have hv3 := hv.below hb3'
    have hCk := hC3.cell (i := k) hk64
    have hG2 := hC3.lt
    obtain ⟨GC, HGC⟩ : ∃ g : Nat, Hid (w2.heap.size = g) := ⟨_, hid rfl⟩
    rw [HGC.out] at hCk hG2 ⊢
    clear hg3 hC3 hs3 hS2 hT2 hb2' HP2 hP2 c0 qk qw
    refine (fill_any _ l w3 hv3 HS.out).mono ?_
    rintro e w4 ⟨v4, rfl, hown4, hb4⟩
    have hS4 := hS3.keep hb4
    have hT4 := hT3.keep hb4
    have hb4' := hb3'.trans (hb4.mono hb3'.size)
    have hP4 := (hb4.cell (p := ⟨P, k, none⟩) hP3).trans hPk
    have hC4 := (hb4.cell (p := ⟨GC, k, none⟩) hG2).trans hCk
    have hPl : P < w4.heap.size := by have := hb4.size; omega
    have hGl : GC < w4.heap.size := by have := hb4.size; omega
    have hv4 := hv3.below hb4
    have hf4 := hown4.byt
    obtain ⟨A4, c4, rfl⟩ := hf4.shape
    obtain ⟨F, HF⟩ : ∃ F : Nat, Hid ((fillS l).length = F) := ⟨_, hid rfl⟩
    have hF1 := fillS_mod l
    have hF0 := fillS_length l
    have hnl := noughts_le l.length
    rw [HF.out] at hf4 hF1 hF0 ⊢
    have hF2 : (F : Int) ≤ 2000 := by have := HS.out; have := HL.out; omega
    have qF : (F : Int) % 64 = 0 := by omega
    have qF2 : (F : Int).tmod 64 = 0 := by rw [Int.tmod_eq_emod_of_nonneg (by omega)]; exact qF
    clear hS3 hT3 hb3' hPk hv3 hCk hG2 hb4 hown4 hF1 hF0 hnl hP3 hv
    have hk2 : (k : Int) < 64 := by omega
    go_wp2_with fail
    obtain ⟨κ, HKA⟩ : ∃ κ : Int, Hid (wv (kc k) = κ) := ⟨_, hid rfl⟩
    have hC5 : w4.cell? ⟨GC, k, none⟩ = some (.int .u32 κ) := by rw [hC4, ← HKA.out]; rfl
    have CK := const_any q
    rw [show ((rt q 36 % 4294967296 : Nat) : Int) = κ from by rw [← HKA.out, ← HQ.out, roots ⟨k, hk64⟩]; rfl] at CK
    have HCK := hid fun w => CK w (by rw [← HQ.out]; have := (pl_le ⟨k, hk64⟩).2; simp only at this; omega)
    obtain ⟨DB, HDB⟩ : ∃ DB : Array Value, Hid (fcells 64 (fun j => bcell (b j)) = DB) := ⟨_, hid rfl⟩
    obtain ⟨D, HD⟩ : ∃ D : Array Value, Hid (fcells 8 (fun j => wc (s j)) = D) := ⟨_, hid rfl⟩
    obtain ⟨E, HE⟩ : ∃ E : Array Value, Hid (fcells 8 (fun j => wc (turnS s b j)) = E) := ⟨_, hid rfl⟩
    have TA := turn_any s b
    have TB := refTurn_any s b
    rw [HDB.out, HD.out, HE.out] at TA TB
    have HTA := hid TA
    have HTB := hid TB
    have heq : ∀ w' : World, (Op.equalIn 10000 31 (.agg E) (.agg E)).run Tryd.prog w' = .ok true w' := fun w' => by
      rw [← HE.out]
      exact arrS.eq_self (k := .u32) (by kernel_rfl) (a := fun i => wv (turnS s b i)) (fun _ _ => rfl) w'
    have hld : ∀ w' : World, Blk w' w.heap.size 8 (fun j => wc (s j)) 31 → loadA 31 (.pointer (some ⟨w.heap.size, 0, none⟩)) w' = .ok (.value (.agg D)) w' := fun w' h => by
      rw [← HD.out]
      exact loadA_eq (o := 0) arrS h (by omega) (fun j _ => by rw [Nat.zero_add])
    obtain ⟨T, HT⟩ : ∃ T : TypeId, Hid (T = 32) := ⟨_, hid rfl⟩
    have hL := tyHide_load HT.out
    simp only [hL]
    clear hL
    have hldT : ∀ w' : World, Blk w' (w.heap.size + 1) 64 (fun j => bcell (b j)) 32 → loadA (tyHide T 32) (.pointer (some ⟨w.heap.size + 1, 0, none⟩)) w' = .ok (.value (.agg DB)) w' := fun w' h => by
      rw [← HDB.out]
      exact loadA_hide (o := 0) HT.out arrB h (by omega) (fun j _ => by rw [Nat.zero_add])
    clear TA TB CK hC4 qF
    have hB0 : Below w4.heap.size w4 w4.drew := (Below.refl _ _).drew
    go_region_held3 (fun w' => Blk w' w.heap.size 8 (fun j => wc (s j)) 31 ∧ Blk w' (w.heap.size + 1) 64 (fun j => bcell (b j)) 32 ∧ w'.cell? ⟨GC, k, none⟩ = some (.int .u32 κ) ∧ w'.cell? ⟨P, k, none⟩ = some (.int .u64 (q : Int)))
      (first
        | (refine ⟨hS4, hT4, hC5, hP4⟩)
        | (refine ⟨hS4.keep hB6, hT4.keep hB6, (hB6.cell (p := ⟨GC, k, none⟩) hGl).trans hC5, (hB6.cell (p := ⟨P, k, none⟩) hPl).trans hP4⟩)
        | (refine ⟨hS4.keep hB5, hT4.keep hB5, (hB5.cell (p := ⟨GC, k, none⟩) hGl).trans hC5, (hB5.cell (p := ⟨P, k, none⟩) hPl).trans hP4⟩)
        | (refine ⟨hS4.keep hB4, hT4.keep hB4, (hB4.cell (p := ⟨GC, k, none⟩) hGl).trans hC5, (hB4.cell (p := ⟨P, k, none⟩) hPl).trans hP4⟩)
        | (refine ⟨hS4.keep hB3, hT4.keep hB3, (hB3.cell (p := ⟨GC, k, none⟩) hGl).trans hC5, (hB3.cell (p := ⟨P, k, none⟩) hPl).trans hP4⟩)
        | (refine ⟨hS4.keep hB2, hT4.keep hB2, (hB2.cell (p := ⟨GC, k, none⟩) hGl).trans hC5, (hB2.cell (p := ⟨P, k, none⟩) hPl).trans hP4⟩)
        | (refine ⟨hS4.keep hB1, hT4.keep hB1, (hB1.cell (p := ⟨GC, k, none⟩) hGl).trans hC5, (hB1.cell (p := ⟨P, k, none⟩) hPl).trans hP4⟩)
        | fail)
      (first
        | (go_at_call 7; refine (awake_any _ ((hK.below hb4').below hB5)).mono ?_; rintro e w10 ⟨rfl, hb10⟩; have hB6 : Below w4.heap.size w4 w10 := hB5.trans (hb10.mono hB5.size))
        | (go_at_call 17; refine (HCK.out _).mono ?_; rintro e w9 ⟨rfl, hb9⟩; have hB5 : Below w4.heap.size w4 w9 := hB4.trans (hb9.mono hB4.size))
        | (go_at_call 15; refine (same_yes _ _ (fillS l) _ (hf4.below hB3) hown7.byt).mono ?_; rintro e w' ⟨rfl, n8, rfl⟩; have hB4 : Below w4.heap.size w4 (w7.drewN n8) := below_drewN hB3 n8)
        | (go_at_call 16; refine (refFill_any _ l _ (hv4.below hB2) HS.out).mono ?_; rintro e w7 ⟨v7, rfl, hown7, hb7⟩; have hB3 : Below w4.heap.size w4 w7 := hB2.trans (hb7.mono hB2.size))
        | (go_at_call 14; refine (HTB.out _ ((hK0.below hb4').below hB1)).mono ?_; rintro e w6 ⟨rfl, hb6⟩; have hB2 : Below w4.heap.size w4 w6 := hB1.trans (hb6.mono hB1.size))
        | (go_at_call 13; refine (HTA.out _ ((hK.below hb4').below hB0)).mono ?_; rintro e w5 ⟨rfl, hb5⟩; have hB1 : Below w4.heap.size w4 w5 := hB0.trans (hb5.mono hB0.size))
        | fail)
    go_wp2_with fail
    go_ret
    exact ⟨rfl, hb4'.trans (hB6.mono hb4'.size)⟩
end Go.Proofs.YtgcagidkeacheaaDoor
