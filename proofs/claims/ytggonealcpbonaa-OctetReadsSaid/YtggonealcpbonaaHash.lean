/-
  octet.Hash puts a hash's bytes behind others; octet's readers read a hash.
-/
import Derived.Test.YtggonealcpbonaaNumber
import Derived.Test.YtggonealcpbonaaArr
import Derived.StillTailTactics
import Derived.RegionTactic
import Derived.BigRegion
namespace Go.Proofs.Ytggonealcpbonaa
open Go.RowKit

set_option maxHeartbeats 1600000 in
theorem rhash_nil (w : World) : Calls Try.prog 19 #[.pointer none] w fun e w' => e = .returned (.agg (hcells nought)) ∧ Below w.heap.size w w' := by
  go_enter Try.func19, Try.ntmps19
  go_wp2_with (refine wpList_alloc_hash rfl rfl ?_)
  refine (wrong_nil _).mono ?_
  rintro e w' ⟨rfl, rfl⟩
  go_wp2_with (first
    | (refine wpList_load_hash rfl _ rfl rfl (heap_alloc2_new _ _ _) nought_length ?_)
    | (refine wpList_store_hash rfl _ _ rfl rfl rfl (heap_alloc2_old _ _ _) nought_length nought_length ?_; intro w2 hg2 H2 hs2))
  refine bodyPost_ret (results_cell_row rfl _ _ w.heap.size _ (hcells nought) (0, 0) _ rfl H2.out under_hash rfl (by rw [size_hash, hcells_size, nought_length])) rfl ⟨rfl, ?_⟩
  exact (((Below.refl _ _).alloc (Nat.le_refl _) _).alloc (by simp) _).grown hg2 (by simp; omega) (fun k hk => by injection hk; omega)

set_option maxHeartbeats 1600000 in
theorem hash_any (v : Value) (l h : List UInt8) (w : World) (hv : Byt w v l) (hs : l.length ≤ 1099511000000) (hh : h.length = 32) :
    Calls Try.prog 8 #[v, .agg (hcells h)] w fun e w' => ∃ x, e = .returned x ∧ Own w.heap.size w' x (l ++ h) ∧ Below w.heap.size w w' := by
  obtain ⟨i0, hi, hz0, hz1, hz2⟩ := info_parts info_u8
  obtain ⟨A, c, rfl⟩ := hv.shape
  have hb2 : i0.bytes * (l.length + 32) ≤ 281474976710656 := by rw [hz2]; omega
  have hb3 : l.length + 32 ≤ maxLen := by unfold maxLen; omega
  go_enter Try.func8, Try.ntmps8
  go_wp2_with (at_make; refine wpList_make_full _ rfl _ _ 22 rfl w.heap.size 5 i0 (.int .u8 0) 1 under_bytes hi hz0 hz1 _ _ _ _ (l.length + 32) rfl rfl (by simp) (by simp) hb2 hb3 (by simp) ?_)
  intro w1 hown1 hg1
  have hz : (madeCells #[Value.int IntKind.u8 0] (l.length + 32)).toList = bcells (List.replicate (l.length + 32) 0) := by
    rw [toList_madeCells_one]
    simp [bcells, bcell]
  have hown : Own (w.heap.size + 1) w1 (.slice (some ⟨w.heap.size + 1, 0, none⟩) (l.length + 32) (l.length + 32)) (List.replicate (l.length + 32) 0) := by
    unfold Own
    rw [List.length_replicate, ← hz]
    refine ⟨hown1.1, ?_⟩
    rcases hown1.2 with ⟨e, _⟩ | ⟨g, cap, cur, e, _, r⟩
    · injection e with e; cases e
    · refine .inr ⟨g, cap, cur, e, ?_, r⟩
      injection e with e
      injection e with e
      injection e with e
      omega
  obtain ⟨g, eg, _, hG⟩ := own_full hown (by omega)
  injection eg with eg
  injection eg with eg
  subst eg
  have hH : w1.heap[w.heap.size]? = some (.cells (hcells h) 25 (0, 0)) := (hg1.block _ (by simp) (by simp)).trans (heap_alloc_new w _)
  have hbw1 : Below w.heap.size w w1 := ((Below.refl _ _).alloc (Nat.le_refl _) _).grown hg1 (by simp) (fun k hk => by cases hk)
  have hv1 := hv.below hbw1
  have hmin := hid (show l.length = Nat.min l.length (l.length + 32) from (Nat.min_eq_left (by omega)).symm)
  clear hz hown hown1 hg1
  go_wp2_with (refine wpList_copy_byt rfl (.tmp 10) (.tmp 11) rfl rfl rfl hv1 hG hmin.out (fun _ => rfl) (by simp) ?_)
  intro w2 hg2 H2 hs2
  have hH2 : w2.heap[w.heap.size]? = some (.cells (hcells h) 25 (0, 0)) := (hg2.block _ (lt_of_block hH) (by simp)).trans hH
  have hbw2 : Below w.heap.size w w2 := hbw1.grown hg2 hbw1.size (fun k hk => by injection hk; omega)
  have hby : Byt w2 (.slice (some ⟨w.heap.size, 0, none⟩) 32 32) h := byt_of_blk hH2 hh.symm (by unfold maxLen; omega)
  have hmin2 := hid (show 32 = Nat.min h.length 32 by rw [hh]; rfl)
  have hne : ¬ (l.length + 32 = l.length) := by omega
  have q1 : (l.length : Int) ≤ (l.length : Int) + 32 := by omega
  clear hmin hv1 hG hH hg2
  go_wp2_with fail
  go_still_tail 5, (by kernel_rfl)
  change wpList _ _ _ _ _ w2.drew
  have H3 : Hid (w2.drew.heap[w.heap.size + 1]? = _) := H2
  have hby3 : Byt w2.drew _ _ := hby
  have hbw3 : Below w.heap.size w w2.drew := hbw2.drew
  have hs3 : w2.drew.heap.size = w1.heap.size := hs2
  generalize w2.drew = w3 at *
  go_wp2_with (refine wpList_copy_byt rfl (.tmp 16) (.tmp 17) rfl rfl rfl hby3 H3.out hmin2.out (fun _ => rfl) (by simp [splice]) ?_)
  intro w4 hg4 H4 hs4
  have hbw4 : Below w.heap.size w w4 := hbw3.grown hg4 hbw3.size (fun k hk => by injection hk; omega)
  go_wp2_with fail
  go_ret
  have hrow : splice (splice (List.replicate (l.length + 32) 0) 0 l) l.length (h.take 32) = l ++ h := by
    rw [List.take_of_length_le (by omega), splice_two _ l h (by simp; omega)]
  refine ⟨_, rfl, ?_, hbw4⟩
  have H5 := H4.out
  first
    | rw [hrow] at H5
    | (rw [show splice (splice (List.replicate (l.length + 32) 0) 0 l) l.length h = l ++ h from by rw [splice_two _ l h (by simp; omega)]] at H5)
  exact own_of_blk H5 (by omega) (by simp; omega) (by unfold maxLen; omega)

theorem rdHash_len (l : List UInt8) (p : Nat) (r : Bool) : (rdHash l p r).1.length = 32 := by
  unfold rdHash
  split
  · simp
  · split
    · simp; omega
    · simp

set_option maxHeartbeats 3200000 in
theorem rhash_any (g : Nat) (l : List UInt8) (p : Nat) (r : Bool) (w : World) (hr : Rdr w g l p r) (hl : l.length ≤ 1099511627776) :
    Calls Try.prog 19 #[.pointer (some ⟨g, 0, none⟩)] w fun e w' => e = .returned (.agg (hcells (rdHash l p r).1)) ∧ Rdr w' g l (rdHash l p r).2.1 (rdHash l p r).2.2 ∧ w.grownBy w' (some g) := by
  have hlt := hr.lt
  have hr0 : Rdr ((w.alloc (.cells (hcells nought) 25)).alloc (.cells (hcells nought) 25)) g l p r := hr.below (((Below.refl _ _).alloc (Nat.le_refl _) _).alloc (by simp) _)
  have hg0 : w.grownBy ((w.alloc (.cells (hcells nought) 25)).alloc (.cells (hcells nought) 25)) (some g) := (World.grownBy_alloc w _ _).trans (World.grownBy_alloc _ _ _)
  cases r with
  | false =>
    have e : rdHash l p false = (nought, p, false) := by simp [rdHash, nought]
    rw [e]
    go_enter Try.func19, Try.ntmps19
    go_wp2_with (refine wpList_alloc_hash rfl rfl ?_)
    refine (wrong_any g l p false _ hr0).mono ?_
    rintro e w' ⟨rfl, rfl⟩
    go_wp2_with (first
      | (refine wpList_load_hash rfl _ rfl rfl (heap_alloc2_new _ _ _) nought_length ?_)
      | (refine wpList_store_hash rfl _ _ rfl rfl rfl (heap_alloc2_old _ _ _) nought_length nought_length ?_; intro w2 hg2 H2 hs2))
    refine bodyPost_ret (results_cell_row rfl _ _ w.heap.size _ (hcells nought) (0, 0) _ rfl H2.out under_hash rfl (by rw [size_hash, hcells_size, nought_length])) rfl ⟨rfl, ?_, ?_⟩
    · exact hr.below ((((Below.refl _ _).alloc (Nat.le_refl _) _).alloc (by simp) _).grown hg2 (by simp; omega) (fun k hk => by injection hk; omega))
    · exact grown_of_below ((((Below.refl _ _).alloc (Nat.le_refl _) _).alloc (by simp) _).grown hg2 (by simp; omega) (fun k hk => by injection hk; omega)) _
  | true =>
    by_cases hfit : p + 32 ≤ l.length
    · have e : rdHash l p true = ((l.drop p).take 32, p + 32, true) := by simp [rdHash, hfit]
      rw [e]
      obtain ⟨A, c, h1, h2⟩ := hr0.ex
      have c0 := cell_blk h2 0
      have c1 := cell_blk h2 1
      simp at c0 c1
      have hlc := (Own.byt h1).at_.2.1
      have hcp : ¬ c = p := by omega
      have ht : ¬ ((l.length : Int) - (p : Int) < 32) := by omega
      have q1 : (p : Int) ≤ (l.length : Int) := by omega
      have hHn := heap_alloc2_new w (.cells (hcells nought) 25) (.cells (hcells nought) 25)
      have hRn := heap_alloc2_old w (.cells (hcells nought) 25) (.cells (hcells nought) 25)
      have hbw : Below w.heap.size w ((w.alloc (.cells (hcells nought) 25)).alloc (.cells (hcells nought) 25)) := ((Below.refl _ _).alloc (Nat.le_refl _) _).alloc (by simp) _
      go_enter Try.func19, Try.ntmps19
      go_wp2_with (refine wpList_alloc_hash rfl rfl ?_)
      generalize ((w.alloc (.cells (hcells nought) 25)).alloc (.cells (hcells nought) 25)) = w0 at *
      refine (wrong_any g l p true _ hr0).mono ?_
      rintro e w' ⟨rfl, rfl⟩
      go_wp2_with fail
      refine (left_any g l p true _ hr0 hl).mono ?_
      rintro e w' ⟨rfl, n, rfl⟩
      go_wp2_with fail
      have hcut : Byt (w0.drewN (n + 1)) (.slice (A.map (·.add p)) (l.length - p) (c - p)) (l.drop p) := by
        have := (Own.byt h1).cut hr0.le
        rw [if_neg hcp] at this
        exact this.drewN _
      have hdl : (l.drop p).length = l.length - p := List.length_drop
      obtain ⟨w6, hrun, hG6, hH6, hs6⟩ := run_copy_byt (w := (w0.drewN (n + 1))) (dp := some ⟨w.heap.size + 1, 0, none⟩) (dLen := 32) (dCap := 32) 3 hcut (cur := nought) hHn (k := 32) (by rw [hdl]; exact (Nat.min_eq_right (by omega)).symm) (by omega) rfl (by rw [nought_length]; omega)
      have hR5 : Rdr (w0.drewN (n + 1)) g l p true := hr0.drewN (n + 1)
      have hR6 : Rdr w6 g l p true := hR5.apart hG6 hHn (by decide) (by omega)
      obtain ⟨A6, c6, _, h26⟩ := hR6.ex
      have d1 := cell_blk h26 1
      have e1 := free_blk h26 1
      simp at d1
      have HdR := hid hRn
      have HdH := hid hH6
      have HL := hid hdl
      clear hRn hH6 hdl h1 h2 hcut hHn h26 hs6
      have hgr : w0.grownBy w6 (some (w.heap.size + 1)) := (grown_drewN (World.grownBy.refl _ _) (n + 1)).trans hG6
      have hlen0 := hr0.lt
      have hR7 := hR6.turn (p + 32) hfit
      rw [Int.natCast_add] at hR7
      have hlen32 : ((l.drop p).take 32).length = 32 := by rw [List.length_take, List.length_drop]; omega
      have hs6 : nought.drop ((l.drop p).take 32).length = [] := List.drop_eq_nil_of_le (by rw [hlen32, nought_length]; omega)
      have hs7 : splice nought 0 ((l.drop p).take 32) = (l.drop p).take 32 := by rw [splice_head, hs6, List.append_nil]
      clear hs6
      have hw7 : w6.heap[w.heap.size]? = some (.cells (hcells nought) 25 (0, 0)) := (hgr.block _ (lt_of_block HdR.out) (by simp)).trans HdR.out
      have H7 : Hid ((w6.setCell ⟨g, 1, none⟩ (.int .i64 ((p : Int) + 32))).heap[w.heap.size]? = some (.cells (hcells nought) 25 (0, 0))) := (heap_setCell_other _ _ _ _ (by simp; omega)).trans hw7
      have H8 : Hid ((w6.setCell ⟨g, 1, none⟩ (.int .i64 ((p : Int) + 32))).heap[w.heap.size + 1]? = some (.cells (hcells ((l.drop p).take 32)) 25 (0, 0))) := (heap_setCell_other _ _ _ _ (by simp; omega)).trans (by rw [← hs7]; exact HdH.out)
      have hG8 : w.grownBy (w6.setCell ⟨g, 1, none⟩ (.int .i64 ((p : Int) + 32))) (some g) := (grown_of_below (hbw.grown hgr hbw.size (fun k hk => by injection hk; omega)) _).trans (grown_set _ g 1 _)
      have hs8 := hG8.size
      clear hs7 hw7 HdR HdH hR6 hG6 hgr hR5 hr0 hbw hg0 hr
      go_region
      generalize w6.setCell ⟨g, 1, none⟩ (.int .i64 ((p : Int) + 32)) = w8 at *
      go_wp2_with (first
        | (refine wpList_load_hash rfl _ rfl rfl H8.out hlen32 ?_)
        | (refine wpList_store_hash rfl _ _ rfl rfl rfl H7.out nought_length hlen32 ?_; intro w9 hg9 H9 hs9))
      refine bodyPost_ret (results_cell_row rfl _ _ w.heap.size _ _ (0, 0) _ rfl H9.out under_hash rfl (by rw [size_hash, hcells_size, hlen32])) rfl ⟨rfl, ?_, ?_⟩
      · exact hR7.apart hg9 H7.out (by decide) (by omega)
      · exact ⟨hg9.os.trans hG8.os, hg9.tape.trans hG8.tape, hg9.output.trans hG8.output, Nat.le_trans hG8.size hg9.size, fun k hk hne => (hg9.block k (by omega) (fun e => by injection e; omega)).trans (hG8.block k hk hne)⟩
    · have e : rdHash l p true = (nought, p, false) := by simp [rdHash, hfit, nought]
      rw [e]
      have hp := hr.le
      have ht : (l.length : Int) - (p : Int) < 32 := by omega
      have hHn := heap_alloc2_new w (.cells (hcells nought) 25) (.cells (hcells nought) 25)
      have hRn := heap_alloc2_old w (.cells (hcells nought) 25) (.cells (hcells nought) 25)
      have hbw : Below w.heap.size w ((w.alloc (.cells (hcells nought) 25)).alloc (.cells (hcells nought) 25)) := ((Below.refl _ _).alloc (Nat.le_refl _) _).alloc (by simp) _
      go_enter Try.func19, Try.ntmps19
      go_wp2_with (refine wpList_alloc_hash rfl rfl ?_)
      generalize ((w.alloc (.cells (hcells nought) 25)).alloc (.cells (hcells nought) 25)) = w0 at *
      have HdR := hid hRn
      have HdH := hid hHn
      clear hRn hHn
      refine (wrong_any g l p true _ hr0).mono ?_
      rintro e w' ⟨rfl, rfl⟩
      go_wp2_with fail
      refine (left_any g l p true _ hr0 hl).mono ?_
      rintro e w' ⟨rfl, n, rfl⟩
      go_wp2_with fail
      refine (fail_any g l p true _ (hr0.drewN _)).mono ?_
      rintro e w' ⟨rfl, rfl⟩
      have hR7 := (hr0.drewN n).spoil
      have H7 : Hid (((w0.drewN n).setCell ⟨g, 2, none⟩ (.bool false)).heap[w.heap.size]? = some (.cells (hcells nought) 25 (0, 0))) := (heap_setCell_other _ _ _ _ (by simp; omega)).trans HdR.out
      have H8 : Hid (((w0.drewN n).setCell ⟨g, 2, none⟩ (.bool false)).heap[w.heap.size + 1]? = some (.cells (hcells nought) 25 (0, 0))) := (heap_setCell_other _ _ _ _ (by simp; omega)).trans HdH.out
      have hG8 : w.grownBy ((w0.drewN n).setCell ⟨g, 2, none⟩ (.bool false)) (some g) := (grown_of_below (below_drewN hbw n) _).trans (grown_set _ g 2 _)
      have hs8 := hG8.size
      clear hr0 hbw hg0 hr
      generalize (w0.drewN n).setCell ⟨g, 2, none⟩ (.bool false) = w8 at *
      go_wp2_with (first
        | (refine wpList_load_hash rfl _ rfl rfl H8.out nought_length ?_)
        | (refine wpList_store_hash rfl _ _ rfl rfl rfl H7.out nought_length nought_length ?_; intro w9 hg9 H9 hs9))
      refine bodyPost_ret (results_cell_row rfl _ _ w.heap.size _ _ (0, 0) _ rfl H9.out under_hash rfl (by rw [size_hash, hcells_size, nought_length])) rfl ⟨rfl, ?_, ?_⟩
      · exact hR7.apart hg9 H7.out (by decide) (by omega)
      · exact ⟨hg9.os.trans hG8.os, hg9.tape.trans hG8.tape, hg9.output.trans hG8.output, Nat.le_trans hG8.size hg9.size, fun k hk hne => (hg9.block k (by omega) (fun e => by injection e; omega)).trans (hG8.block k hk hne)⟩
end Go.Proofs.Ytggonealcpbonaa
