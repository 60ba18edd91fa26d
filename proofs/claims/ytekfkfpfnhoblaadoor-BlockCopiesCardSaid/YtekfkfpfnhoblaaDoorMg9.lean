/-
  RefOf Consts BkHash: what each of them says stands at its head.
-/
import Derived.Test.YtekfkfpfnhoblaaDoorMg7
import Derived.Test.YtekfkfpfnhoblaaDoorMg8
import Derived.Test.YtekfkfpfnhoblaaDoorMg1
import Derived.Lib.SlBytesConst
import Derived.Test.YtekfkfpfnhoblaaDoorMg6
import Derived.ArgAppend
/-
  tithingref02.Of gives the sum of a text.
-/
namespace Go.Proofs.YtekfkfpfnhoblaaDoor
set_option maxRecDepth 20000
open Go.RowKit

theorem grown_of_below2 {w w' : World} (h : Below w.heap.size w w') (row : Option Nat) : w.grownBy w' row := ⟨h.os, h.tape, h.output, h.size, fun k hk _ => h.block k hk⟩

set_option maxHeartbeats 3200000 in
theorem refOf_any (v : Value) (l : List UInt8) (w : World) (hv : Byt w v l) (hs : l.length ≤ 1000000) (hK : Kst 0 w) :
    Calls Tryd.prog 27 #[v] w fun e w' => e = .returned (.agg (fcells 32 fun j => bcell (sumS l j))) ∧ Below w.heap.size w w' := by
  obtain ⟨A, c, rfl⟩ := hv.shape
  obtain ⟨L, HL⟩ : ∃ L : Nat, Hid (l.length = L) := ⟨_, hid rfl⟩
  rw [HL.out] at hs hv ⊢
  go_enter Tryd.func27, Tryd.ntmps27
  go_wp2_with (first
    | (refine wpList_alloc_arr arrH rfl rfl ?_)
    | (refine wpList_build_eight rfl rfl _ _ _ _ _ _ _ _ rfl rfl rfl rfl rfl rfl rfl rfl ?_)
    | (refine wpList_alloc_arr arrS rfl rfl ?_)
    | (refine wpList_store_arr arrS (f' := fun j => wc (start j)) rfl _ _ rfl rfl rfl (Blk.new _ 8 (fun _ => wc 0) 77) (fun _ _ => rfl) ?_; intro w1 hg1 hS1 hs1))
  have hb1 : Below w.heap.size w w1 := (((Below.refl _ _).alloc (Nat.le_refl _) (.cells (fcells 32 fun _ => bcell 0) 23)).alloc (by simp) (.cells (fcells 8 fun _ => wc 0) 77)).grown hg1 (by simp; omega) (fun k hk => by injection hk; simp at *; omega)
  have hH1 : Blk w1 w.heap.size 32 (fun _ => bcell 0) 23 := ((Blk.new w 32 (fun _ => bcell 0) 23).alloc _).grown hg1 (by simp)
  have hv1 := hv.below hb1
  have hs1' := hb1.size
  clear hg1 hs1
  go_wp2_with fail
  refine (refFill_any _ l w1 hv1 (by rw [HL.out]; omega)).mono ?_
  rintro e w2 ⟨v2, rfl, hown2, hb2⟩
  obtain ⟨A2, c2, rfl⟩ := hown2.byt.shape
  obtain ⟨F, HF⟩ : ∃ F : Nat, Hid ((fillS l).length = F) := ⟨_, hid rfl⟩
  have hF0 := fillS_length l
  have hF1 := fillS_mod l
  have hnl := noughts_le l.length
  rw [HF.out] at hown2 hF0 hF1 ⊢
  rw [HL.out] at hF0 hnl
  obtain ⟨P, HP⟩ : ∃ P : Nat, Hid (F = 64 * P) := ⟨F / 64, hid (by omega)⟩
  have hF2 : F ≤ 1000100 := by omega
  clear hF0 hF1 hnl
  obtain ⟨S, HS⟩ : ∃ S : Nat, Hid (w.heap.size + 1 = S) := ⟨_, hid rfl⟩
  have hS0 : Blk w1 (w.heap.size + 1) 8 (fun j => wc (start j)) 77 := by simpa using hS1
  rw [HS.out] at hS0 ⊢
  have hSw1 := hS0.lt
  have hSw : w.heap.size < S := by have := HS.out; omega
  have hS2 : Blk w2 S 8 (fun j => wc (absb (fillS l) 0 j)) 77 := hS0.keep hb2
  have hH2 := hH1.keep hb2
  have hbw2 := hb1.trans (hb2.mono hs1')
  have hs2 := hb2.size
  have hv2 := hown2.byt
  have hne : (Value.slice A2 F c2).ownBlock ≠ some S := fun e => by have := (World.ownsRow.lt hown2 S e).1; omega
  have hS2w : S < w2.heap.size := by omega
  have HH := hid hH2
  have HK := hid hK
  clear hS1 hS0 hH1 hv1 hb1 hb2 hown2 hH2 hv hK
  try go_frame
  go_wp2_with fail
  go_loopw [5] (fun si wr => ∃ i k : Nat, k ≤ P ∧ Hid (i = 64 * k) ∧ si = .int .i64 i ∧ w2.grownBy wr (some S) ∧ Blk wr S 8 (fun j => wc (absb (fillS l) k j)) 77) (fun si _ => F - (intOf si).toNat)
  case atStart => exact ⟨0, 0, Nat.zero_le _, hid rfl, rfl, grown_of_below2 (Below.refl _ _) _, hS2⟩
  case round =>
    clear hS2
    obtain ⟨i, k, hk, HI, rfl, hgr, hS⟩ := hrel
    have hltS := hS.lt
    have hgs := hgr.size
    by_cases hlt : k < P
    · have hiF : (i : Int) < (F : Int) := by have := HI.out; have := HP.out; omega
      have hvr : Byt wr (.slice A2 F c2) (fillS l) := hv2.keep hgs fun b hb e => hgr.block b hb (fun e2 => hne (by rw [e, e2]))
      have hc1 := hvr.at_.2.1
      have hr := hvr.at_.2.2.2
      rw [HF.out] at hc1
      obtain ⟨b, off, rfl, hb2, hcell⟩ := hr (by rw [HF.out]; omega)
      have HC := hid hcell
      clear hr hcell
      obtain ⟨wo, rfl⟩ : ∃ wo : World, wo = wr := ⟨_, rfl⟩
      go_wp2_with (first
        | (refine wpList_zero_arr arrB rfl rfl ?_)
        | (refine wpList_alloc_arr arrB rfl rfl ?_)
        | (refine wpList_store_arr arrB rfl _ _ rfl rfl rfl (Blk.new wo 64 (fun _ => bcell 0) 79) (fun _ _ => rfl) ?_; intro w4 hg4 hB4 hs4))
      obtain ⟨B, HB⟩ : ∃ B : Nat, Hid (wo.heap.size = B) := ⟨_, hid rfl⟩
      have hS4 : Blk w4 S 8 (fun j => wc (absb (fillS l) k j)) 77 := (hS.alloc _).grown hg4 (by simp; omega)
      have hbB4 : Below wo.heap.size wo w4 := ((Below.refl _ _).alloc (Nat.le_refl _) _).grown hg4 (by simp) (fun k hk => by injection hk; omega)
      have hbB1 : b < B := by have := HB.out; omega
      rw [HB.out] at hB4 hltS hbB4 ⊢
      clear hg4 hs4
      go_wp2_with fail
      go_loopw [7] (fun sm wr => ∃ m : Nat, m ≤ 64 ∧ sm = .int .i64 m ∧ Below B wo wr ∧ Blk wr B 64 (partB (blockOf (fillS l) k) m) 79) (fun sm _ => 64 - (intOf sm).toNat)
      case atStart => exact ⟨0, by omega, rfl, hbB4, hB4.congr fun i _ => by simp [partB]⟩
      case round =>
        clear hbB4 hS4 hB4
        obtain ⟨m, hm, rfl, hbB, hB⟩ := hrel
        have hltB := hB.lt
        by_cases hlt2 : m < 64
        · have hm64 : (m : Int) < 64 := by omega
          have hif : i + m < F := by have := HI.out; have := HP.out; omega
          have hif2 : (i : Int) + (m : Int) < (F : Int) := by omega
          have hlf : i + m < (fillS l).length := by rw [HF.out]; exact hif
          have ck := (hbB.cell (p := ⟨b, off + (i + m), none⟩) hbB1).trans (HC.out (i + m) hlf)
          have kb := hB.cell (i := m) (by omega)
          have fb := hB.free m
          have hval : bcell (fillS l)[i + m] = bcell (blockOf (fillS l) k m) := by
            unfold blockOf
            rw [← HI.out, List.getD_eq_getElem?_getD, List.getElem?_eq_getElem hlf]
            rfl
          have HV := hid hval
          unfold bcell at ck
          clear hval
          go_wp2_with fail
          go_roundw
          case rel =>
            refine ⟨m + 1, by omega, by go_num, below_set hbB (g := B) (Nat.le_refl _) _ _, (hB.set (i := m) (by omega) _).congr fun q _ => ?_⟩
            rw [← partB_set, ← HV.out]
            rfl
          case measure => simp [intOf]; omega
        · have hm64 : ¬ (m : Int) < 64 := by omega
          have hB2 : Blk wr B 64 (fun j => bcell (blockOf (fillS l) k j)) 79 := hB.congr fun q hq => if_pos (by omega)
          have hSr := hS.below hbB hltS
          have hgr2 : w2.grownBy wr (some S) := hgr.trans (grown_of_below2 (by rw [HB.out]; exact hbB) _)
          have hbw : Below w.heap.size w wr := hbw2.grown hgr2 hbw2.size (fun k hk => by injection hk; omega)
          have hKr := HK.out.below hbw
          go_wp2_with (first
            | (refine wpList_load_arr arrS rfl _ rfl rfl hSr ?_)
            | (refine wpList_load_arr arrB rfl _ rfl rfl hB2 ?_))
          refine (refTurn_any _ _ wr hKr).mono ?_
          rintro e w6 ⟨rfl, hb6⟩
          have hS6 := hSr.keep hb6
          have hg6 : w2.grownBy w6 (some S) := hgr2.trans (grown_of_below2 hb6 _)
          go_wp2_with (refine wpList_store_arr arrS rfl _ _ rfl rfl rfl hS6 (fun _ _ => rfl) ?_; intro w7 hg7 hS7 hs7)
          go_roundw
          case rel => exact ⟨i + 64, k + 1, by omega, hid (by have := HI.out; omega), by go_num, hg6.trans hg7, hS7⟩
          case measure => simp [intOf]; omega
    · have hiF : ¬ (i : Int) < (F : Int) := by have := HI.out; have := HP.out; omega
      have ekP : k = P := by omega
      have hS' : Blk wr S 8 (fun j => wc (absb (fillS l) P j)) 77 := by rw [← ekP]; exact hS
      have hbw : Below w.heap.size w wr := hbw2.grown hgr hbw2.size (fun k hk => by injection hk; omega)
      have hH : Blk wr w.heap.size 32 (fun _ => bcell 0) 23 := HH.out.grown hgr (fun e => by have := Option.some.inj e; omega)
      clear hS
      obtain ⟨wo, rfl⟩ : ∃ wo : World, wo = wr := ⟨_, rfl⟩
      go_wp2_with (first
        | (refine wpList_zero_arr arrH rfl rfl ?_)
        | (refine wpList_alloc_arr arrH rfl rfl ?_)
        | (refine wpList_store_arr arrH rfl _ _ rfl rfl rfl (Blk.new wo 32 (fun _ => bcell 0) 23) (fun _ _ => rfl) ?_; intro w8 hg8 hQ8 hs8))
      obtain ⟨Q, HQ⟩ : ∃ Q : Nat, Hid (wo.heap.size = Q) := ⟨_, hid rfl⟩
      have hbQ8 : Below wo.heap.size wo w8 := ((Below.refl _ _).alloc (Nat.le_refl _) _).grown hg8 (by simp) (fun k hk => by injection hk; omega)
      have hltH := hH.lt
      rw [HQ.out] at hQ8 hltS hbQ8 hltH ⊢
      clear hg8 hs8
      go_wp2_with fail
      go_loopw [9] (fun si wr => ∃ i : Nat, i ≤ 32 ∧ si = .int .i64 i ∧ Below Q wo wr ∧ Blk wr Q 32 (partB (sumS l) i) 23) (fun si _ => 32 - (intOf si).toNat)
      case atStart => exact ⟨0, by omega, rfl, hbQ8, hQ8.congr fun i _ => by simp [partB]⟩
      case round =>
        clear hbQ8 hQ8
        obtain ⟨j, hj, rfl, hbQ, hQ⟩ := hrel
        have hltQ := hQ.lt
        by_cases hlt2 : j < 32
        · have hj32 : (j : Int) < 32 := by omega
          have cs := (hS'.below hbQ hltS).cell (i := j / 4) (by omega)
          have kc := hQ.cell (i := j) (by omega)
          have fc := hQ.free j
          unfold wc at cs
          have t1 : Int.tdiv (j : Int) 4 = ((j / 4 : Nat) : Int) := by rw [Int.tdiv_eq_ediv_of_nonneg (by omega)]; omega
          have t2 : Int.tmod (j : Int) 4 = ((j % 4 : Nat) : Int) := by rw [Int.tmod_eq_emod_of_nonneg (by omega)]; omega
          have hval : Value.int .u8 (wv (absb (fillS l) P (j / 4)) / 2 ^ (24 - 8 * (j % 4)) % 256) = bcell (sumS l j) := by
            unfold sumS
            rw [show (fillS l).length / 64 = P from by have := HF.out; have := HP.out; omega]
            unfold bcell byteOf
            rw [u8_ofNat]
            unfold wv
            simp
          have HV := hid hval
          clear hval
          go_wp2_with fail
          go_roundw
          case rel =>
            refine ⟨j + 1, by omega, by go_num, below_set hbQ (g := Q) (Nat.le_refl _) _ _, (hQ.set (i := j) (by omega) _).congr fun q _ => ?_⟩
            rw [HV.out, ← partB_set]
          case measure => simp [intOf]; omega
        · have hj32 : ¬ (j : Int) < 32 := by omega
          have hQ2 : Blk wr Q 32 (fun j => bcell (sumS l j)) 23 := hQ.congr fun q hq => if_pos (by omega)
          have hH2 := hH.below hbQ hltH
          have hbw3 : Below w.heap.size w wr := hbw.trans (hbQ.mono (by omega))
          go_wp2_with (first
            | (refine wpList_load_arr arrH rfl _ rfl rfl hQ2 ?_)
            | (refine wpList_store_arr arrH rfl _ _ rfl rfl rfl hH2 (fun _ _ => rfl) ?_; intro w9 hg9 hC9 hs9))
          refine bodyPost_ret (arrH.result rfl _ _ rfl hC9) rfl ⟨rfl, ?_⟩
          exact below_into hbw3 (Nat.le_refl _) hg9 hbw3.size
end Go.Proofs.YtekfkfpfnhoblaaDoor

/-
  Constant texts as bytes: '[]byte("..")' one behind the other, and what lies in such a block.
-/
namespace Go.Proofs.YtekfkfpfnhoblaaDoor
set_option maxRecDepth 20000
open Go.RowKit

theorem conv1 (w : World) (C : Array Value) (n c : Nat) : (convert 29 29 (.slice (some ⟨w.heap.size, 0, none⟩) n c)).run Tryd.prog (w.alloc (.cells C 5)) = .ok (.slice (some ⟨w.heap.size, 0, none⟩) n c) (w.alloc (.cells C 5 (C.size, C.size + 1))) :=
  Lib.run_convert_bytes_const (P := Tryd.prog) w 29 5 C n c under_bytes (by kernel_rfl)
theorem conv2 (w : World) (o : Obj) (C : Array Value) (n c : Nat) : (convert 29 29 (.slice (some ⟨w.heap.size + 1, 0, none⟩) n c)).run Tryd.prog ((w.alloc o).alloc (.cells C 5)) = .ok (.slice (some ⟨w.heap.size + 1, 0, none⟩) n c) ((w.alloc o).alloc (.cells C 5 (C.size, C.size + 1))) := by
  have := conv1 (w.alloc o) C n c
  rw [show (w.alloc o).heap.size = w.heap.size + 1 from by simp] at this
  exact this
theorem conv3 (w : World) (o o2 : Obj) (C : Array Value) (n c : Nat) : (convert 29 29 (.slice (some ⟨w.heap.size + 1 + 1, 0, none⟩) n c)).run Tryd.prog (((w.alloc o).alloc o2).alloc (.cells C 5)) = .ok (.slice (some ⟨w.heap.size + 1 + 1, 0, none⟩) n c) (((w.alloc o).alloc o2).alloc (.cells C 5 (C.size, C.size + 1))) := by
  have := conv1 ((w.alloc o).alloc o2) C n c
  rw [show ((w.alloc o).alloc o2).heap.size = w.heap.size + 1 + 1 from by simp] at this
  exact this
/-- A block that holds bytes reads as them. -/
theorem byt_row {w : World} {g : Nat} {l : List UInt8} {T : TypeId} {m : Nat × Nat} (h : w.heap[g]? = some (.cells (bcells l).toArray T m)) (hm : l.length ≤ maxLen) : Byt w (.slice (some ⟨g, 0, none⟩) l.length l.length) l :=
  ⟨_, l.length, rfl, Nat.le_refl _, hm, fun _ => ⟨g, 0, rfl, lt_of_block h, fun j hj => by
    rw [Nat.zero_add, cell_of_row _ _ _ _ _ _ h]
    simp [bcells, hj]⟩⟩
theorem heap1 (w : World) (o o2 : Obj) : ((w.alloc o).alloc o2).heap[w.heap.size]? = some o := by
  rw [Below.heap_alloc _ _ _ (by simp)]
  exact heap_alloc_new w o
theorem heap2 (w : World) (o o2 : Obj) : ((w.alloc o).alloc o2).heap[w.heap.size + 1]? = some o2 := by
  have := heap_alloc_new (w.alloc o) o2
  rw [show (w.alloc o).heap.size = w.heap.size + 1 from by simp] at this
  exact this
end Go.Proofs.YtekfkfpfnhoblaaDoor

/-
  The document's answer for a block's hash: tithingref07.Hash.
-/
namespace Go.Proofs.YtekfkfpfnhoblaaDoor
set_option maxRecDepth 20000
open Go.RowKit
attribute [local go_sem ↓] exec_load_bk

/-- The word that a block's hash begins with. -/
def wordK : List UInt8 := [98, 108, 111, 99, 107]
theorem word_byt (w : World) : Byt (w.alloc (.cells #[.int .u8 98, .int .u8 108, .int .u8 111, .int .u8 99, .int .u8 107] 5 (5, 6))) (.slice (some ⟨w.heap.size, 0, none⟩) 5 5) wordK :=
  byt_row (l := wordK) (heap_alloc_new w _) (by decide)
theorem cells_byt {w : World} {a : Addr} {n c : Nat} {l : List UInt8} (h : Byt w (.slice (some a) n c) l) : ∀ j u, (bcells l)[j]? = some u → w.cell? (a.add j) = some u := fun j u hu => by
  obtain ⟨hj, rfl⟩ := bcells_get l j u hu
  obtain ⟨b, off, e, _, hc⟩ := h.at_.2.2.2 (by omega)
  injection e with e
  subst e
  rw [addr_add]
  exact hc j hj
/-- A block's hash: nought, if it may not be, and of the first one. -/
noncomputable def hashK (b : BkM) (j : Nat) : UInt8 := if mayK b = true ∧ b.vi ≠ 0 then sumS (wordK ++ bytesK b) j else 0
theorem bytesK_len {b : BkM} (hp : b.par.length = 32) (hm : mayK b = true) : (bytesK b).length ≤ 3000 := by
  obtain ⟨hall, h1, h2, h3, h4, h5, h6, h7⟩ := mayK_all hm
  have hf := flat_len b.txs hall
  have e1 := dg_len10 (n := b.vi.toNat) (by omega)
  have e2 := dg_len10 (n := b.he.toNat) (by omega)
  have e3 := dg_len10 (n := b.bo.toNat) (by omega)
  have e4 := dg_len10 (n := b.txs.length) (by omega)
  unfold bytesK
  simp only [List.length_append]
  omega
theorem bytesK_pos {b : BkM} (hp : b.par.length = 32) : 0 < (bytesK b).length := by
  unfold bytesK
  simp only [List.length_append]
  omega

set_option maxHeartbeats 3200000 in
theorem refHash7_any (v : Value) (b : BkM) (w : World) (hv : BkV w v b) (hlk : lightK b) (hK : Kst 0 w) :
    Calls Tryd.prog 12 #[v] w fun e w' => e = .returned (.agg (fcells 32 fun j => bcell (hashK b j))) ∧ Below w.heap.size w w' := by
  have HV := hid hv
  obtain ⟨s, rfl, hp, ht⟩ := hv
  obtain ⟨A, c, rfl⟩ := ht.shape
  obtain ⟨C, HC⟩ : ∃ C : Array Value, Hid (bkc b (.slice A b.txs.length c) = C) := ⟨_, hid rfl⟩
  obtain ⟨D, HD⟩ : ∃ D : Nat → Value, Hid ((fun j => bcell (hashK b j)) = D) := ⟨_, hid rfl⟩
  have hD1 : ∀ i, i < 32 → (D i).oneCell' = true := by rw [← HD.out]; intro i _; rfl
  have hr0 := heap1 w (.cells C 26) (.cells (fcells 32 fun _ => bcell 0) 23)
  have hH0 : Blk ((w.alloc (.cells C 26)).alloc (.cells (fcells 32 fun _ => bcell 0) 23)) (w.heap.size + 1) 32 (fun _ => bcell 0) 23 := heap2 w (.cells C 26) _
  have hb0 : Below w.heap.size w ((w.alloc (.cells C 26)).alloc (.cells (fcells 32 fun _ => bcell 0) 23)) := ((Below.refl _ _).alloc (Nat.le_refl _) _).alloc (by simp) _
  have HKB := hid (fun W (h : Below w.heap.size w W) => (show Kst 0 W from hK.below h))
  have HMA : Hid (∀ W, Below w.heap.size w W → Calls Tryd.prog 9 #[.agg C] W fun e w' => e = .returned (.bool (mayK b)) ∧ Below W.heap.size W w') := hid (fun W h => by
    have := HV.out.below h
    rw [HC.out] at this
    exact refMay7_any _ b W this hlk)
  have HPT : Hid (mayK b = true → ∀ W, Below w.heap.size w W → Calls Tryd.prog 18 #[.agg C] W fun e w' => ∃ x, e = .returned x ∧ Own W.heap.size w' x (bytesK b) ∧ Below W.heap.size W w') := hid (fun hm W h => by
    have := HV.out.below h
    rw [HC.out] at this
    exact refPut7_any _ b W this hm)
  have HBX : Hid (∀ W : World, W.heap[w.heap.size]? = some (.cells C 26 (0, 0)) → W.cell? ⟨w.heap.size, 32, none⟩ = some (.int .i64 b.vi) ∧ loadK (.pointer (some ⟨w.heap.size, 0, none⟩)) W = .ok (.value (.agg C)) W) := hid (fun W h => by
    rw [← HC.out] at h ⊢
    exact ⟨(BoxK.cells (g := w.heap.size) (b := b) (s := .slice A b.txs.length c) h hp).1, loadK_eq h hp⟩)
  have HBL : Hid (mayK b = true → (bytesK b).length ≤ 3000) := hid (fun hm => bytesK_len hp hm)
  obtain ⟨m, HM⟩ : ∃ m : Bool, Hid (mayK b = m) := ⟨_, hid rfl⟩
  rw [HM.out] at HMA
  have HWO := hid word_byt
  have HPP := hid (bytesK_pos hp)
  rw [HC.out, HD.out]
  obtain ⟨n, HN⟩ : ∃ n : Int, Hid (b.vi = n) := ⟨_, hid rfl⟩
  rw [HN.out] at HBX
  clear HV ht hK hlk
  go_enter Tryd.func12, Tryd.ntmps12
  go_upto_region 1 with (refine wpList_alloc_arr arrH rfl rfl ?_)
  generalize ((w.alloc (.cells C 26)).alloc (.cells (fcells 32 fun _ => bcell 0) 23)) = w0 at *
  have hl0 := lt_of_block hr0
  have HR0 := hid hr0
  have l0 := (HBX.out w0 hr0).2
  clear hr0
  go_wp2_with fail
  refine (HMA.out w0 hb0).mono ?_
  rintro e w1 ⟨rfl, hb1⟩
  have hH1 := hH0.keep hb1
  have hB1 := hb0.trans (hb1.mono hb0.size)
  obtain ⟨k1, l1⟩ := HBX.out w1 ((hb1.block _ hl0).trans HR0.out)
  clear l0 hH0
  by_cases hgo : m = true ∧ n ≠ 0
  · obtain ⟨rfl, hn⟩ := hgo
    have hn0 : (n == 0) = false := by simpa using hn
    have HDM : Hid (D = fun j => bcell (sumS (wordK ++ bytesK b) j)) := hid (by
      rw [← HD.out]
      funext j
      unfold hashK
      rw [if_pos ⟨HM.out, by rw [HN.out]; exact hn⟩])
    clear hn
    have how := HWO.out w1
    have hb1w : Below w1.heap.size w1 (w1.alloc (.cells #[.int .u8 98, .int .u8 108, .int .u8 111, .int .u8 99, .int .u8 107] 5 (5, 6))) := (Below.refl _ _).alloc (Nat.le_refl _) _
    have l2 := (HBX.out _ ((hb1w.block _ (Nat.lt_of_lt_of_le hl0 hb1.size)).trans ((hb1.block _ hl0).trans HR0.out))).2
    have hcv := Go.Lib.run_convert_bytes_const (P := Tryd.prog) w1 29 5 #[.int .u8 98, .int .u8 108, .int .u8 111, .int .u8 99, .int .u8 107] 5 5 under_bytes Tryd.underlying5
    go_wp2_with fail
    have hBw := hB1.trans (hb1w.mono hB1.size)
    refine (HPT.out HM.out _ hBw).mono ?_
    rintro e w2 ⟨x, rfl, ho2, hb2⟩
    have hb2' := hb1w.trans (hb2.mono hb1w.size)
    have hB2 := hB1.trans (hb2'.mono hB1.size)
    have hH2 := hH1.keep hb2'
    have hlen : wordK.length + (bytesK b).length ≤ 140737488355328 := by have := HBL.out HM.out; simp only [wordK, List.length_cons, List.length_nil]; omega
    have hby2 := ho2.byt
    obtain ⟨A2, c2, rfl⟩ := hby2.shape
    obtain ⟨b2, o2, rfl, _, _⟩ := hby2.at_.2.2.2 HPP.out
    have HCO := hid (cells_byt (how.below hb2))
    have HCN := hid (cells_byt hby2)
    obtain ⟨O, HO⟩ : ∃ O : List UInt8, Hid (bytesK b = O) := ⟨_, hid rfl⟩
    have HOL : Hid (O.length ≤ 3000) := hid (by rw [← HO.out]; exact HBL.out HM.out)
    have HOP : Hid (0 < O.length) := hid (by rw [← HO.out]; exact HPP.out)
    rw [HO.out] at HCN HDM ⊢
    obtain ⟨xl, HXL⟩ : ∃ n : Nat, Hid (O.length = n) := ⟨_, hid rfl⟩
    have HB2 := hid hB2
    have HH2 := hid hH2
    have HLE := hid hb2'.size
    have HL1 := hid hb1.size
    have HL0 := hid hb0.size
    obtain ⟨i0, hi, hz0, hz1, hz2⟩ := info_parts info_u8
    rw [HXL.out]
    clear l1 l2 k1 hb2 how hb1w hBw hH1 hn0 hcv hlen hby2 ho2 hH2 hB2 hb2' hB1 hb1 hb0
    go_wp2_with (at_builtin; refine wpList_append_grows w2 rfl (.tmp 13) (.tmp 15) 29 rfl 5 i0 (.int .u8 0) 1 1 under_bytes hi hz0 hz1 hz2 rfl (by decide) (some ⟨w1.heap.size, 0, none⟩) 5 5 (bcells wordK) rfl (by simp) rfl (fun b hb => by injection hb with hb; subst hb; exact HCO.out) ⟨b2, o2, none⟩ xl c2 (bcells O) rfl (by rw [bcells_length, HXL.out, Nat.mul_one]) HCN.out (bcells_one _) (by have := HOP.out; have := HXL.out; omega) (by have := HOL.out; have := HXL.out; unfold maxLen; omega) (by have := HOL.out; have := HXL.out; omega) ?_; intro v3 w3 hown3 hg3)
    have hown : Own w2.heap.size w3 v3 (wordK ++ O) := by
      unfold Own
      rw [bcells_append, List.length_append, HXL.out]
      exact hown3
    have hb3 : Below w.heap.size w w3 := HB2.out.grown hg3 HB2.out.size (fun k hk => by cases hk)
    have hR3 := HH2.out.grown hg3 (fun e => by cases e)
    have hK3 := HKB.out _ hb3
    clear hown3 hg3 hi hz0 hz1 hz2
    refine (refOf_any v3 _ w3 hown.byt (by rw [List.length_append]; have := HOL.out; simp only [wordK, List.length_cons, List.length_nil]; omega) hK3).mono ?_
    rintro e w4 ⟨rfl, hb4⟩
    have hR4 := hR3.keep hb4
    have hb4' := hb3.trans (hb4.mono hb3.size)
    clear hown hb3 hR3 hK3 hb4
    go_wp2_with (refine wpList_store_arr arrH rfl _ _ rfl rfl rfl hR4 (fun _ _ => rfl) ?_; intro w9 hg9 hA9 hs9)
    refine bodyPost_ret (arrH.result rfl _ _ rfl hA9) rfl ⟨by rw [HDM.out], ?_⟩
    exact below_into hb4' (Nat.le_succ _) hg9 hb4'.size
  · have HDM : Hid (D = fun _ => bcell 0) := hid (by
      rw [← HD.out]
      funext j
      unfold hashK
      rw [if_neg (by rw [HM.out, HN.out]; exact hgo)])
    have hway : m = false ∨ (m = true ∧ n = 0) := by
      cases m
      · exact .inl rfl
      · right
        refine ⟨rfl, ?_⟩
        by_cases h : n = 0
        · exact h
        · exact absurd ⟨rfl, h⟩ hgo
    clear hgo l1
    obtain rfl | ⟨rfl, rfl⟩ := hway
    · go_wp2_with (first
        | (refine wpList_zero_arr arrH rfl rfl ?_)
        | (refine wpList_store_arr arrH rfl _ _ rfl rfl rfl hH1 (fun _ _ => rfl) ?_; intro wA hgA hAA hsA))
      refine bodyPost_ret (arrH.result rfl _ _ rfl hAA) rfl ⟨by rw [HDM.out], ?_⟩
      exact below_into hB1 (Nat.le_succ _) hgA hB1.size
    · go_wp2_with (first
        | (refine wpList_zero_arr arrH rfl rfl ?_)
        | (refine wpList_store_arr arrH rfl _ _ rfl rfl rfl hH1 (fun _ _ => rfl) ?_; intro wA hgA hAA hsA))
      refine bodyPost_ret (arrH.result rfl _ _ rfl hAA) rfl ⟨by rw [HDM.out], ?_⟩
      exact below_into hB1 (Nat.le_succ _) hgA hB1.size
end Go.Proofs.YtekfkfpfnhoblaaDoor
