/-
  mac.Block gives a key's block.
-/
import Derived.Test.YtakigopjbbhjkaaDoorMacSpec
import Derived.Laws.IdiomCopy
import Derived.Deep.QuietTactic
import Derived.BigQuiet
import Derived.StillTailTactics
namespace Go.Proofs.YtakigopjbbhjkaaDoor
open Go.RowKit

theorem keyB_long {key : List UInt8} (h : 64 < key.length) (j : Nat) : keyB key j = if j < 32 then sumS key j else 0 := if_pos h
theorem keyB_short {key : List UInt8} (h : ¬ 64 < key.length) (j : Nat) : keyB key j = key.getD j 0 := if_neg h

theorem keyB_cells {key : List UInt8} (h : ¬ 64 < key.length) {w : World} {g : Nat} {t : TypeId} (hB : Blk w g 64 (fun j => if 0 ≤ j ∧ j < 0 + key.length then bcell (key.getD (j - 0) 0) else bcell 0) t) : Blk w g 64 (fun j => bcell (keyB key j)) t := hB.congr fun j _ => by
  rw [keyB_short h]
  by_cases h : j < key.length
  · rw [if_pos (by omega), Nat.sub_zero]
  · rw [if_neg (by omega), List.getD_eq_getElem?_getD, List.getElem?_eq_none (by omega)]
    rfl
theorem wpList_copy_none {ops : Array Oper} {rest : List Oper} {o : Oper} {a : Act} {w : World} {Q : Exit → Act → World → Prop} (hgd : o.guard = none) (d s : Operand)
    (ho : o.op = .call { callee := .builtin .copy, args := #[d, s], argTypes := #[26, 26] })
    {D A : Option Addr} {dLen dCap n c : Nat} (hd : a.eval d = .slice D dLen dCap) (hs : a.eval s = .slice A n c) (hn : Nat.min n dLen = 0)
    (h : wpList Tryd.prog ops Q rest (a.put o.dst (goInt 0)) w) : wpList Tryd.prog ops Q (o :: rest) a w := by
  have hrun := run_copy_none (P := Tryd.prog) w 26 26 o.type 5 D A dLen dCap n c under_bytes (by kernel_rfl) hn
  refine wpList_plain hgd fun _ hK => ?_
  unfold Oper.wp
  simp [execOp, ho, resolve, invoke, builtin, hd, hs, hrun, Result.andThen]
  exact hK _ _ h

set_option maxHeartbeats 1600000 in
theorem keyBlock_any (v : Value) (key : List UInt8) (w : World) (hv : Byt w v key) (hs : key.length ≤ 1000000) (hK : Kst 1 w) :
    Calls Tryd.prog 20 #[v] w fun e w' => e = .returned (.agg (fcells 64 fun j => bcell (keyB key j))) ∧ Below w.heap.size w w' := by
  obtain ⟨A, c, rfl⟩ := hv.shape
  have hcc := hv.at_.2.1
  have hcm := hv.at_.2.2.1
  unfold maxLen at hcm
  have hR0 : Blk ((w.alloc (.cells (fcells 64 fun _ => bcell 0) 45)).alloc (.cells (fcells 64 fun _ => bcell 0) 45)) w.heap.size 64 (fun _ => bcell 0) 45 := (Blk.new w _ _ _).alloc _
  have hB0 : Blk ((w.alloc (.cells (fcells 64 fun _ => bcell 0) 45)).alloc (.cells (fcells 64 fun _ => bcell 0) 45)) (w.heap.size + 1) 64 (fun _ => bcell 0) 45 := by
    have := Blk.new (w.alloc (.cells (fcells 64 fun _ => bcell 0) 45)) 64 (fun _ => bcell 0) 45
    simpa using this
  have hb0 : Below w.heap.size w ((w.alloc (.cells (fcells 64 fun _ => bcell 0) 45)).alloc (.cells (fcells 64 fun _ => bcell 0) 45)) := ((Below.refl _ _).alloc (Nat.le_refl _) _).alloc (by simp) _
  have HZ0 := hid (show ((w.alloc (.cells (fcells 64 fun _ => bcell 0) 45)).alloc (.cells (fcells 64 fun _ => bcell 0) 45)).heap.size = w.heap.size + 1 + 1 by simp)
  have HR0 := hid hR0
  have HB0 := hid hB0
  have HKE := hid hs
  clear hR0 hB0
  by_cases hlong : 64 < key.length
  · have hq : (64 : Int) < (key.length : Int) := by omega
    go_enter Tryd.func20, Tryd.ntmps20
    go_wp2_with (refine wpList_alloc_arr arrB rfl rfl ?_)
    generalize (w.alloc (.cells (fcells 64 fun _ => bcell 0) 45)).alloc (.cells (fcells 64 fun _ => bcell 0) 45) = w0 at *
    have hb1 : Below w.heap.size w (w0.alloc (.cells #[.slice A key.length c] 26)) := hb0.alloc hb0.size _
    have hnc := new_cell w0 #[.slice A key.length c] 26 0 _ rfl
    rw [HZ0.out] at hnc
    refine (of_one (.slice A key.length c) key (w.heap.size + 1 + 1) 1 _ (by simp [HZ0.out]) hnc (hv.below hb1) HKE.out (hK.below hb1)).mono ?_
    rintro e w1 ⟨rfl, hb2⟩
    have hR1 : Blk w1 w.heap.size 64 (fun _ => bcell 0) 45 := Blk.keep (HR0.out.alloc _) hb2
    have hB1 : Blk w1 (w.heap.size + 1) 64 (fun _ => bcell 0) 45 := Blk.keep (HB0.out.alloc _) hb2
    have hb1' := hb1.trans (hb2.mono hb1.size)
    clear hb1 hb2 hb0 HR0 HB0 hnc HZ0
    go_wp2_with (first
      | (refine wpList_alloc_arr arrH rfl rfl ?_)
      | (refine wpList_store_arr arrH rfl _ _ rfl rfl rfl (Blk.new w1 32 (fun _ => bcell 0) 23) (fun _ _ => rfl) ?_; intro w2 hg2 hH2 hs2))
    have hR2 := (hR1.alloc (.cells (fcells 32 fun _ => bcell 0) 23)).grown hg2 (fun e => by have := Option.some.inj e; have := hR1.lt; omega)
    have hB2 := (hB1.alloc (.cells (fcells 32 fun _ => bcell 0) 23)).grown hg2 (fun e => by have := Option.some.inj e; have := hB1.lt; omega)
    have hb2' := (hb1'.alloc hb1'.size (.cells (fcells 32 fun _ => bcell 0) 23)).grown hg2 (by have := hb1'.size; simp; omega) (fun k hk => by injection hk; have := hb1'.size; omega)
    have hv2 := byt_blk hH2 (by unfold maxLen; omega)
    obtain ⟨H, HH⟩ : ∃ H : Nat, Hid (w1.heap.size = H) := ⟨_, hid rfl⟩
    rw [HH.out] at hv2 ⊢
    clear hR1 hB1 hb1' hg2 hH2 hs2
    go_still_tail 2, (by kernel_rfl)
    change wpList _ _ _ _ _ w2.drew
    refine wpList_copy_blk (k := 32) rfl (.tmp 11) (.tmp 12) rfl rfl rfl (w := w2.drew) hv2 hB2.drew (by rw [hl_length]; rfl) (by omega) (by omega) ?_
    intro w4 hg4 hB4 hs4
    have hB5 : Blk w4 (w.heap.size + 1) 64 (fun j => bcell (keyB key j)) 45 := hB4.congr fun j hj => by
      rw [keyB_long hlong]
      by_cases h : j < 32
      · rw [if_pos (by omega), if_pos h, Nat.sub_zero, hl_getD _ _ h]
      · rw [if_neg (by omega), if_neg h]
    have hR4 : Blk w4 w.heap.size 64 (fun _ => bcell 0) 45 := Blk.grown (w := w2.drew) hR2 hg4 (fun e => by have := Option.some.inj e; omega)
    have hb4' : Below w.heap.size w w4 := below_into (w := w2.drew) hb2'.drew (g := w.heap.size + 1) (by omega) hg4 hb2'.size
    clear hB4 hg4 hs4 hR2 hB2 hb2' hv2
    go_wp2_with (first
      | (refine wpList_load_arr arrB rfl _ rfl rfl hB5 ?_)
      | (refine wpList_store_arr arrB rfl _ _ rfl rfl rfl hR4 (fun _ _ => rfl) ?_; intro w9 hg9 hA9 hs9))
    refine bodyPost_ret (arrB.result rfl _ _ rfl hA9) rfl ⟨rfl, ?_⟩
    exact below_into hb4' (g := w.heap.size) (by omega) hg9 hb4'.size
  · have hq : ¬ (64 : Int) < (key.length : Int) := by omega
    by_cases h0 : key.length = 0
    · have hnil : key = [] := List.eq_nil_of_length_eq_zero h0
      have HN := hid hnil
      have hB5 : Blk ((w.alloc (.cells (fcells 64 fun _ => bcell 0) 45)).alloc (.cells (fcells 64 fun _ => bcell 0) 45)) (w.heap.size + 1) 64 (fun j => bcell (keyB key j)) 45 := HB0.out.congr fun j hj => by
        rw [keyB_short hlong, hnil]
        rfl
      have HB5 := hid hB5
      have hmin : Nat.min key.length 64 = 0 := by rw [h0]; rfl
      have HM := hid hmin
      clear hnil hB5 hmin h0 hq hlong
      have hq : ¬ (64 : Int) < (key.length : Int) := by rw [HN.out]; decide
      go_enter Tryd.func20, Tryd.ntmps20
      go_wp2_with (first
        | (refine wpList_alloc_arr arrB rfl rfl ?_)
        | (refine wpList_copy_none rfl (.tmp 15) (.tmp 16) rfl rfl rfl HM.out ?_)
        | (refine wpList_load_arr arrB rfl _ rfl rfl HB5.out ?_)
        | (refine wpList_store_arr arrB rfl _ _ rfl rfl rfl HR0.out (fun _ _ => rfl) ?_; intro w9 hg9 hA9 hs9))
      refine bodyPost_ret (arrB.result rfl _ _ rfl hA9) rfl ⟨rfl, ?_⟩
      exact below_into hb0 (g := w.heap.size) (by omega) hg9 hb0.size
    · have hm : key.length ≤ 64 := by omega
      have hmin : key.length = Nat.min key.length 64 := (Nat.min_eq_left hm).symm
      have HM := hid hmin
      have HP := hid (show 0 < key.length by omega)
      have HL := hid hm
      have HV := hid (hv.below hb0)
      have HQ := hid hlong
      clear hmin hm h0 hv hlong
      go_enter Tryd.func20, Tryd.ntmps20
      go_wp2_with (first
        | (refine wpList_alloc_arr arrB rfl rfl ?_)
        | (refine wpList_copy_blk (k := key.length) rfl (.tmp 15) (.tmp 16) rfl rfl rfl HV.out HB0.out HM.out HP.out (by have := HL.out; omega) ?_; intro w4 hg4 hB4 hs4; have hB5 := keyB_cells HQ.out hB4; have hR4 := HR0.out.grown hg4 (fun e => by have := Option.some.inj e; omega))
        | (refine wpList_load_arr arrB rfl _ rfl rfl hB5 ?_)
        | (refine wpList_store_arr arrB rfl _ _ rfl rfl rfl hR4 (fun _ _ => rfl) ?_; intro w9 hg9 hA9 hs9))
      have hb4' := below_into hb0 (g := w.heap.size + 1) (by omega) hg4 hb0.size
      refine bodyPost_ret (arrB.result rfl _ _ rfl hA9) rfl ⟨rfl, ?_⟩
      exact below_into hb4' (g := w.heap.size) (by omega) hg9 hb4'.size
end Go.Proofs.YtakigopjbbhjkaaDoor
