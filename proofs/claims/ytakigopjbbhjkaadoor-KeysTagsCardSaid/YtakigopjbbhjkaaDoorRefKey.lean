/-
  tithingref03.Block gives a key's block.
-/
import Derived.Test.YtakigopjbbhjkaaDoorKeyBlock
import Derived.Test.YtakigopjbbhjkaaDoorRefOf
namespace Go.Proofs.YtakigopjbbhjkaaDoor
open Go.RowKit

/-- What of a block has been written behind i bytes. -/
theorem upto_set (f : Nat → UInt8) (i j : Nat) (v : Value) (hv : v = bcell (f i)) : (if j = i then v else bcell (if j < i then f j else 0)) = bcell (if j < i + 1 then f j else 0) := by
  by_cases e : j = i
  · subst e
    rw [if_pos rfl, if_pos (by omega), hv]
  · rw [if_neg e]
    by_cases h : j < i
    · rw [if_pos h, if_pos (by omega)]
    · rw [if_neg h, if_neg (by omega)]

theorem two_blocks {w w1 : World}
    (hg1 : ((w.alloc (.cells (fcells 64 fun _ => bcell 0) 45)).alloc (.cells (fcells 64 fun _ => bcell 0) 45)).grownBy w1 (some (w.alloc (.cells (fcells 64 fun _ => bcell 0) 45)).heap.size))
    (hB1 : Blk w1 (w.alloc (.cells (fcells 64 fun _ => bcell 0) 45)).heap.size 64 (fun _ => bcell 0) 45)
    (hs1 : w1.heap.size = ((w.alloc (.cells (fcells 64 fun _ => bcell 0) 45)).alloc (.cells (fcells 64 fun _ => bcell 0) 45)).heap.size) :
    Blk w1 w.heap.size 64 (fun _ => bcell 0) 45 ∧ Blk w1 (w.heap.size + 1) 64 (fun _ => bcell 0) 45 ∧ Below w.heap.size w w1 ∧ w1.heap.size = w.heap.size + 1 + 1 := by
  have e : (w.alloc (.cells (fcells 64 fun _ => bcell 0) 45)).heap.size = w.heap.size + 1 := by simp
  rw [e] at hg1 hB1
  refine ⟨((Blk.new w _ _ _).alloc _).grown hg1 (fun e => by have := Option.some.inj e; omega), hB1, ?_, by rw [hs1]; simp⟩
  exact below_into (((Below.refl _ _).alloc (Nat.le_refl _) _).alloc (by simp) _) (g := w.heap.size + 1) (by omega) hg1 (by simp; omega)

set_option maxHeartbeats 3200000 in
theorem refKey_any (v : Value) (key : List UInt8) (w : World) (hv : Byt w v key) (hs : key.length ≤ 1000000) (hK : Kst 0 w) :
    Calls Tryd.prog 22 #[v] w fun e w' => e = .returned (.agg (fcells 64 fun j => bcell (keyB key j))) ∧ Below w.heap.size w w' := by
  obtain ⟨A, c, rfl⟩ := hv.shape
  have hcc := hv.at_.2.1
  have hcm := hv.at_.2.2.1
  unfold maxLen at hcm
  have HKE := hid hs
  go_enter Tryd.func22, Tryd.ntmps22
  by_cases hlong : 64 < key.length
  · have hq : (64 : Int) < (key.length : Int) := by omega
    go_wp2_with (first
      | (refine wpList_alloc_arr arrB rfl rfl ?_)
      | (refine wpList_zero_arr arrB rfl rfl ?_)
      | (refine wpList_store_arr arrB rfl _ _ rfl rfl rfl (Blk.new _ 64 (fun _ => bcell 0) 45) (fun _ _ => rfl) ?_; intro w1 hg1 hB1 hs1))
    obtain ⟨hR, hB, hb, hz⟩ := two_blocks hg1 hB1 hs1
    clear hg1 hB1 hs1
    have HZ := hid hz
    clear hz
    refine (refOf_any _ key w1 (hv.below hb) HKE.out (hK.below hb)).mono ?_
    rintro e w2 ⟨rfl, hb2⟩
    have hR2 := hR.keep hb2
    have hB2 := hB.keep hb2
    have hb2' := hb.trans (hb2.mono hb.size)
    clear hR hB hb hb2
    go_wp2_with (first
      | (refine wpList_alloc_arr arrH rfl rfl ?_)
      | (refine wpList_store_arr arrH rfl _ _ rfl rfl rfl (Blk.new w2 32 (fun _ => bcell 0) 23) (fun _ _ => rfl) ?_; intro w3 hg3 hH3 hs3))
    have hR3 := (hR2.alloc (.cells (fcells 32 fun _ => bcell 0) 23)).grown hg3 (fun e => by have := Option.some.inj e; have := hR2.lt; omega)
    have hB3 := (hB2.alloc (.cells (fcells 32 fun _ => bcell 0) 23)).grown hg3 (fun e => by have := Option.some.inj e; have := hB2.lt; omega)
    have hb3 := (hb2'.alloc hb2'.size (.cells (fcells 32 fun _ => bcell 0) 23)).grown hg3 (by have := hb2'.size; simp; omega) (fun k hk => by injection hk; have := hb2'.size; omega)
    have hBlt := hB2.lt
    obtain ⟨H, HH⟩ : ∃ H : Nat, Hid (w2.heap.size = H) := ⟨_, hid rfl⟩
    obtain ⟨G, HG⟩ : ∃ G : Nat, Hid (w.heap.size = G) := ⟨_, hid rfl⟩
    rw [HH.out] at hH3 hBlt ⊢
    rw [HG.out] at hR3 hB3 hb3 hBlt ⊢
    have hs4 := hb3.size
    have hB4 : Blk w3 (G + 1) 64 (fun j => bcell (if j < 0 then keyB key j else 0)) 45 := hB3.congr fun j _ => by rw [if_neg (by omega)]
    clear hR2 hB2 hb2' hg3 hs3 hB3
    go_wp2_with fail
    go_loopw [5] (fun si wr => ∃ i : Nat, i ≤ 32 ∧ si = .int .i64 (i : Int) ∧ Below G w wr ∧ Blk wr H 32 (fun j => bcell (sumS key j)) 23 ∧ Blk wr G 64 (fun _ => bcell 0) 45 ∧ Blk wr (G + 1) 64 (fun j => bcell (if j < i then keyB key j else 0)) 45) (fun si _ => 32 - (intOf si).toNat)
    case atStart => exact ⟨0, Nat.zero_le _, rfl, hb3, hH3, hR3, hB4⟩
    case round =>
      clear hb3 hH3 hR3 hB4
      obtain ⟨i, hi, rfl, hbw, hH, hR, hB⟩ := hrel
      by_cases hlt : i < 32
      · have hi32 : (i : Int) < 32 := by omega
        have hi64 : (i : Int) < 64 := by omega
        have k1 := hH.cell (i := i) hlt
        have k2 := hB.cell (i := i) (by omega)
        have f2 := hB.free i
        have ek : bcell (sumS key i) = bcell (keyB key i) := by rw [keyB_long hlong, if_pos hlt]
        unfold bcell at k1
        have EK := hid ek
        clear ek
        go_wp2_with fail
        go_roundw
        case rel =>
          refine ⟨i + 1, by omega, by go_num, below_set hbw (g := G + 1) (by omega) _ _, hH.apart _ _ (by omega), hR.apart _ _ (by omega), (hB.set (i := i) (by omega) _).congr fun j _ => ?_⟩
          exact upto_set (keyB key) i j _ EK.out
        case measure => simp [intOf]; omega
      · have hi32 : ¬ (i : Int) < 32 := by omega
        have hB2 : Blk wr (G + 1) 64 (fun j => bcell (keyB key j)) 45 := hB.congr fun j hj => by
          by_cases h : j < i
          · rw [if_pos h]
          · rw [if_neg h, keyB_long hlong, if_neg (by omega)]
        clear hB
        go_wp2_with (first
          | (refine wpList_load_arr arrB rfl _ rfl rfl hB2 ?_)
          | (refine wpList_store_arr arrB rfl _ _ rfl rfl rfl hR (fun _ _ => rfl) ?_; intro w9 hg9 hA9 hs9))
        refine bodyPost_ret (arrB.result rfl _ _ rfl hA9) rfl ⟨rfl, ?_⟩
        rw [HG.out]
        exact below_into hbw (g := G) (by omega) hg9 (by have := hbw.size; have := HG.out; omega)
  · have hq : ¬ (64 : Int) < (key.length : Int) := by omega
    obtain ⟨L, HL⟩ : ∃ L : Nat, Hid (key.length = L) := ⟨_, hid rfl⟩
    rw [HL.out] at hq hcc hv ⊢
    have hL64 : L ≤ 64 := by omega
    go_wp2_with (first
      | (refine wpList_alloc_arr arrB rfl rfl ?_)
      | (refine wpList_zero_arr arrB rfl rfl ?_)
      | (refine wpList_store_arr arrB rfl _ _ rfl rfl rfl (Blk.new _ 64 (fun _ => bcell 0) 45) (fun _ _ => rfl) ?_; intro w1 hg1 hB1 hs1))
    obtain ⟨hR, hB, hb, hz⟩ := two_blocks hg1 hB1 hs1
    clear hg1 hB1 hs1
    have HZ := hid hz
    clear hz
    obtain ⟨G, HG⟩ : ∃ G : Nat, Hid (w.heap.size = G) := ⟨_, hid rfl⟩
    have HV := hid hv
    rw [HG.out] at hR hB hb ⊢
    have hB4 : Blk w1 (G + 1) 64 (fun j => bcell (if j < 0 then keyB key j else 0)) 45 := hB.congr fun j _ => by rw [if_neg (by omega)]
    clear hB hv
    go_wp2_with fail
    go_loopw [6] (fun si wr => ∃ i : Nat, i ≤ L ∧ si = .int .i64 (i : Int) ∧ Below G w wr ∧ Blk wr G 64 (fun _ => bcell 0) 45 ∧ Blk wr (G + 1) 64 (fun j => bcell (if j < i then keyB key j else 0)) 45) (fun si _ => L - (intOf si).toNat)
    case atStart => exact ⟨0, Nat.zero_le _, rfl, hb, hR, hB4⟩
    case round =>
      clear hb hR hB4
      obtain ⟨i, hi, rfl, hbw, hR, hB⟩ := hrel
      by_cases hlt : i < L
      · have hi64 : (i : Int) < 64 := by omega
        have hiL : (i : Int) < (L : Int) := by omega
        have hv2 : Byt wr (.slice A L c) key := HV.out.below (by rw [HG.out]; exact hbw)
        obtain ⟨b, off, rfl, hbl, hcl⟩ := hv2.at_.2.2.2 (by have := HL.out; omega)
        have hiL2 : i < key.length := by have := HL.out; omega
        have k1 := hcl i hiL2
        have k2 := hB.cell (i := i) (by omega)
        have f2 := hB.free i
        have ek : bcell key[i] = bcell (keyB key i) := by rw [keyB_short hlong, List.getD_eq_getElem?_getD, List.getElem?_eq_getElem hiL2]; rfl
        unfold bcell at k1
        have EK := hid ek
        clear ek hcl
        go_wp2_with fail
        go_roundw
        case rel =>
          refine ⟨i + 1, by omega, by go_num, below_set hbw (g := G + 1) (by omega) _ _, hR.apart _ _ (by omega), (hB.set (i := i) (by omega) _).congr fun j _ => ?_⟩
          exact upto_set (keyB key) i j _ EK.out
        case measure => simp [intOf]; omega
      · have hiL : ¬ (i : Int) < (L : Int) := by omega
        have hB2 : Blk wr (G + 1) 64 (fun j => bcell (keyB key j)) 45 := hB.congr fun j hj => by
          by_cases h : j < i
          · rw [if_pos h]
          · rw [if_neg h, keyB_short hlong, List.getD_eq_getElem?_getD, List.getElem?_eq_none (by have := HL.out; omega)]
            rfl
        clear hB
        go_wp2_with (first
          | (refine wpList_load_arr arrB rfl _ rfl rfl hB2 ?_)
          | (refine wpList_store_arr arrB rfl _ _ rfl rfl rfl hR (fun _ _ => rfl) ?_; intro w9 hg9 hA9 hs9))
        refine bodyPost_ret (arrB.result rfl _ _ rfl hA9) rfl ⟨rfl, ?_⟩
        rw [HG.out]
        exact below_into hbw (g := G) (by omega) hg9 (by have := hbw.size; have := HG.out; omega)
end Go.Proofs.YtakigopjbbhjkaaDoor
