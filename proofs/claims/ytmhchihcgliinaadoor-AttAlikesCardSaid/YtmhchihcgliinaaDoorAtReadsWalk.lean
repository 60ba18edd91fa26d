/-
  AttReads: which attestation any bytes begin with, if one: the law's walk, from what att's functions tell. Printed with genreads.py.
-/
import Derived.Test.YtmhchihcgliinaaDoorAtAwake
import Derived.Test.YtmhchihcgliinaaDoorBs2
import Derived.Test.YtmhchihcgliinaaDoorBs6
namespace Go.Proofs.YtmhchihcgliinaaDoor
set_option maxRecDepth 20000
open Go.RowKit
attribute [local go_sem ↓] exec_load_att exec_alloc_att exec_store_att

set_option maxHeartbeats 6400000 in
theorem lawAttReads_any (hD : AtReadOk) (hA : ∀ w, Kst 0 w → Calls Tryd.prog 6 #[] w fun e w' => e = .returned (.bool true) ∧ Below w.heap.size w w')
    (v : Value) (l : List UInt8) (w : World) (hv : Byt w v l) (hK : Kst 0 w) : Calls Tryd.prog 4 #[v] w fun e w' => e = .returned (.bool true) ∧ Below w.heap.size w w' := by
  have HA : Hid (∀ W, Below w.heap.size w W → Calls Tryd.prog 6 #[] W fun e w' => e = .returned (.bool true) ∧ Below W.heap.size W w') := hid (fun W h => hA W (hK.below h))
  have hlen := hv.len
  unfold maxLen at hlen
  obtain ⟨A, c, rfl⟩ := hv.shape
  obtain ⟨L, HL⟩ : ∃ n : Nat, Hid (l.length = n) := ⟨_, hid rfl⟩
  have HV : Hid (∀ W : World, Below w.heap.size w W → Byt W (.slice A l.length c) l) := hid (fun W h => hv.below h)
  obtain ⟨Z, HZ⟩ : ∃ C : Array Value, Hid (atc atZ = C) := ⟨_, hid rfl⟩
  have HAL : Hid (∀ W, allocAtt W = .ok (.value (.pointer (some ⟨W.heap.size, 0, none⟩))) (W.alloc (.cells Z 25))) := hid (fun W => by rw [← HZ.out]; exact allocAtt_eq W)
  have HZS : Hid (Z.size = 101) := hid (by rw [← HZ.out]; exact atc_size atZ_ok)
  have HRE := hid (fun W (h : Below w.heap.size w W) (hl : l.length ≤ 1000000) => refRead8_any A c 0 true l W (HV.out W h) (Nat.zero_le _) hl)
  obtain ⟨ok, HOK⟩ : ∃ q : Bool, Hid (atIs l 0 true = q) := ⟨_, hid rfl⟩
  obtain ⟨S, HS⟩ : ∃ C : Array Value, Hid (atc (atOf l 0 true) = C) := ⟨_, hid rfl⟩
  have HSS : Hid (S.size = 101) := hid (by rw [← HS.out]; exact atc_size (atOf_ok l 0 true))
  have HS1 : Hid (S.all (·.oneCell') = true) := hid (by rw [← HS.out]; exact atc_one _)
  obtain ⟨p, HP⟩ : ∃ n : Nat, Hid ((rawA l 0 true).2.1 = n) := ⟨_, hid rfl⟩
  obtain ⟨wr, HWR⟩ : ∃ q : Bool, Hid ((!(rawA l 0 true).2.2) = q) := ⟨_, hid rfl⟩
  have HEQ : Hid (∀ W, (Op.equalIn 10000 25 (.agg S) (.agg S)).run Tryd.prog W = .ok true W) := hid (fun W => by
    have := eq_att (atOf l 0 true) (atOf l 0 true) (atOf_ok l 0 true) (atOf_ok l 0 true) W
    rw [HS.out, decide_eq_true rfl] at this
    exact this)
  have HDD := hid (fun g W (h : Rdr W g l 0 true) (hl : l.length ≤ 1000000) => hD g l 0 true W h hl)
  rw [HS.out, HOK.out, HP.out] at HDD
  rw [HS.out, HOK.out, HP.out, HWR.out, HL.out] at HRE
  rw [HL.out] at hlen ⊢
  clear hD hA hv hK
  by_cases hL : L ≤ 500
  · have hi : ¬ (500 : Int) < (L : Int) := by omega
    have HL6 : Hid (l.length ≤ 1000000) := hid (by rw [HL.out]; omega)
    go_enter Tryd.func4, Tryd.ntmps4
    go_wp2_with fail
    have C := read_any (.slice A l.length c) l w (HV.out w (Below.refl _ _)) (by have := HL6.out; omega)
    rw [HL.out] at C
    refine C.mono ?_
    clear C
    rintro e w1 ⟨g, rfl, hgl, hrd, hb1⟩
    go_wp2_with fail
    refine (HDD.out g w1 hrd HL6.out).mono ?_
    rintro e w2 ⟨rfl, ⟨p', r', hrd2, hpr⟩, hgr⟩
    have hB2 : Below w.heap.size w w2 := hb1.grown hgr hb1.size (fun k hk => by injection hk with hk; omega)
    have HPR := hid hpr
    have hal := HAL.out
    have hs2 := att_var w2 HZS.out HSS.out HS1.out
    have hr2 := heap_alloc_new w2 (.cells S 25)
    have hbn : Below w2.heap.size w2 (w2.alloc (.cells S 25)) := (Below.refl _ _).alloc (Nat.le_refl _) _
    have hB3 := hB2.trans (hbn.mono hB2.size)
    have hrd3 := hrd2.below hbn
    clear hpr hrd hgr hrd2 hbn hb1 hgl hi
    go_upto_region 5 with (fail)
    generalize w2.alloc (.cells S 25) = w3 at *
    have hl3 := lt_of_block hr2
    clear hs2
    go_wp2_with fail
    refine (HRE.out w3 hB3 (by have := HL6.out; rw [HL.out] at this; exact this)).mono ?_
    rintro e w4 ⟨rfl, hb4⟩
    unfold rv
    have hB4 := hB3.trans (hb4.mono hB3.size)
    have hr4 := (hb4.block _ hl3).trans hr2
    have hrd4 := hrd3.below hb4
    have hs4 := att_var (w4.alloc (.cells #[.slice A L c, .int .i64 (p : Int), .bool wr] 39)) HZS.out HSS.out HS1.out
    rw [show (w4.alloc (.cells #[.slice A L c, .int .i64 (p : Int), .bool wr] 39)).heap.size = w4.heap.size + 1 from by simp] at hs4
    have hq0 := heap1 w4 (.cells #[.slice A L c, .int .i64 (p : Int), .bool wr] 39) (.cells S 25)
    have hq1 := heap2 w4 (.cells #[.slice A L c, .int .i64 (p : Int), .bool wr] 39) (.cells S 25)
    have hbn : Below w4.heap.size w4 ((w4.alloc (.cells #[.slice A L c, .int .i64 (p : Int), .bool wr] 39)).alloc (.cells S 25)) := ((Below.refl _ _).alloc (Nat.le_refl _) _).alloc (by simp) _
    have hB5 := hB4.trans (hbn.mono hB4.size)
    have hrd5 := hrd4.below hbn
    have hr5 := (hbn.block _ (lt_of_block hr4)).trans hr4
    have hl4 := lt_of_block hr4
    clear hrd3 hrd4 hr2 hr4 hbn hB2 hB3 hb4 hl3
    go_upto_region 6 with (fail)
    generalize ((w4.alloc (.cells #[.slice A L c, .int .i64 (p : Int), .bool wr] 39)).alloc (.cells S 25)) = w5 at *
    clear hs4 hal
    have hlq := lt_of_block hq1
    have HX : Hid (∀ W, Below w5.heap.size w5 W → (W.heap[w2.heap.size]? = some (.cells S 25 (0, 0)) ∧ W.heap[w4.heap.size + 1]? = some (.cells S 25 (0, 0)) ∧ W.cell? ⟨w4.heap.size, 1, none⟩ = some (.int .i64 (p : Int)))) := hid (fun W h =>
      ⟨(h.block _ (by omega)).trans hr5, (h.block _ hlq).trans hq1, cell_blk ((h.block _ (by omega)).trans hq0) 1⟩)
    have HBW := hid (fun W (h : Below w5.heap.size w5 W) => hB5.trans (h.mono hB5.size))
    have HRW := hid (fun W (h : Below w5.heap.size w5 W) => hrd5.below h)
    have hbd : Below w5.heap.size w5 w5.drew := (Below.refl _ _).drew
    have hL2 : ¬ (L : Int) < 0 := by omega
    clear hr5 hq0 hq1 hlq hrd5 hB4 hl4
    refine wp_region_held_drew (S := fun W => W.heap[w2.heap.size]? = some (.cells S 25 (0, 0)) ∧ W.heap[w4.heap.size + 1]? = some (.cells S 25 (0, 0)) ∧ W.cell? ⟨w4.heap.size, 1, none⟩ = some (.int .i64 (p : Int))) (by kernel_rfl) (HX.out _ hbd) (fun hHeld => ?_)
    cases ok with
    | false =>
      refine' take_on (i := 0) (v := _) rfl (by kernel_rfl) (by kernel_rfl) (by kernel_rfl) (fun _ _ _ h => h) (by rfl) ?_ (by assumption) ?_
      rotate_left
      · (intro W hW; (try dsimp only at hW); go_simp; first | done | with_reducible rfl)
      try simp only [Act.put, List.setIfInBounds_toArray, List.set_cons_zero, List.set_cons_succ]
      refine' take_on (i := 1) (v := _) rfl (by kernel_rfl) (by kernel_rfl) (by kernel_rfl) (fun _ _ _ h => h) (by rfl) ?_ (by assumption) ?_
      rotate_left
      · (intro W hW; (try dsimp only at hW); go_simp; first | done | with_reducible rfl)
      try simp only [Act.put, List.setIfInBounds_toArray, List.set_cons_zero, List.set_cons_succ]
      refine' take_on (i := 2) (v := _) rfl (by kernel_rfl) (by kernel_rfl) (by kernel_rfl) (fun _ _ _ h => h) (by rfl) ?_ (by assumption) ?_
      rotate_left
      · (intro W hW; (try dsimp only at hW); go_simp; first | done | with_reducible rfl)
      try simp only [Act.put, List.setIfInBounds_toArray, List.set_cons_zero, List.set_cons_succ]
      refine' take_on (i := 3) (v := _) rfl (by kernel_rfl) (by kernel_rfl) (by kernel_rfl) (fun _ _ _ h => h) (by rfl) ?_ (by assumption) ?_
      rotate_left
      · (intro W hW; (try dsimp only at hW); go_simp; first | done | with_reducible rfl)
      try simp only [Act.put, List.setIfInBounds_toArray, List.set_cons_zero, List.set_cons_succ]
      refine' take_on (i := 4) (v := _) rfl (by kernel_rfl) (by kernel_rfl) (by kernel_rfl) (fun _ _ _ h => h) (by rfl) (fun W hW => loadAtt_row hW.1 HSS.out) (by assumption) ?_
      try simp only [Act.put, List.setIfInBounds_toArray, List.set_cons_zero, List.set_cons_succ]
      refine' take_on (i := 5) (v := _) rfl (by kernel_rfl) (by kernel_rfl) (by kernel_rfl) (fun _ _ _ h => h) (by rfl) (fun W hW => loadAtt_row hW.2.1 HSS.out) (by assumption) ?_
      try simp only [Act.put, List.setIfInBounds_toArray, List.set_cons_zero, List.set_cons_succ]
      have heq := HEQ.out
      refine' take_on (i := 6) (v := _) rfl (by kernel_rfl) (by kernel_rfl) (by kernel_rfl) (fun _ _ _ h => h) (by rfl) ?_ (by assumption) ?_
      rotate_left
      · (intro W hW; (try dsimp only at hW); go_simp; first | done | with_reducible rfl)
      try simp only [Act.put, List.setIfInBounds_toArray, List.set_cons_zero, List.set_cons_succ]
      clear heq
      refine' take_on (i := 7) (v := _) rfl (by kernel_rfl) (by kernel_rfl) (by kernel_rfl) (fun _ _ _ h => h) (by rfl) ?_ (by assumption) ?_
      rotate_left
      · (intro W hW; (try dsimp only at hW); go_simp; first | done | with_reducible rfl)
      try simp only [Act.put, List.setIfInBounds_toArray, List.set_cons_zero, List.set_cons_succ]
      refine' take_on (i := 8) (v := _) rfl (by kernel_rfl) (by kernel_rfl) (by kernel_rfl) (fun _ _ _ h => h) (by rfl) ?_ (by assumption) ?_
      rotate_left
      · (intro W hW; (try dsimp only at hW); go_simp; first | done | with_reducible rfl)
      try simp only [Act.put, List.setIfInBounds_toArray, List.set_cons_zero, List.set_cons_succ]
      refine' take_on (i := 9) (v := _) rfl (by kernel_rfl) (by kernel_rfl) (by kernel_rfl) (fun _ _ _ h => h) (by rfl) ?_ (by assumption) ?_
      rotate_left
      · (intro W hW; (try dsimp only at hW); go_simp; first | done | with_reducible rfl)
      try simp only [Act.put, List.setIfInBounds_toArray, List.set_cons_zero, List.set_cons_succ]
      refine' take_on (i := 10) (v := _) rfl (by kernel_rfl) (by kernel_rfl) (by kernel_rfl) (fun _ _ _ h => h) (by rfl) ?_ (by assumption) ?_
      rotate_left
      · (intro W hW; (try dsimp only at hW); go_simp; first | done | with_reducible rfl)
      try simp only [Act.put, List.setIfInBounds_toArray, List.set_cons_zero, List.set_cons_succ]
      refine' take_on (i := 11) (v := _) rfl (by kernel_rfl) (by kernel_rfl) (by kernel_rfl) (fun _ _ _ h => h) (by rfl) ?_ (by assumption) ?_
      rotate_left
      · (intro W hW; (try dsimp only at hW); go_simp; first | done | with_reducible rfl)
      try simp only [Act.put, List.setIfInBounds_toArray, List.set_cons_zero, List.set_cons_succ]
      refine take_off (i := 12) rfl (by kernel_rfl) (by kernel_rfl) (by kernel_rfl) (fun _ _ _ h => h) (by rfl) (by assumption) ?_
      try simp only [Act.put, List.setIfInBounds_toArray, List.set_cons_zero, List.set_cons_succ]
      refine take_off (i := 13) rfl (by kernel_rfl) (by kernel_rfl) (by kernel_rfl) (fun _ _ _ h => h) (by rfl) (by assumption) ?_
      try simp only [Act.put, List.setIfInBounds_toArray, List.set_cons_zero, List.set_cons_succ]
      refine take_off (i := 14) rfl (by kernel_rfl) (by kernel_rfl) (by kernel_rfl) (fun _ _ _ h => h) (by rfl) (by assumption) ?_
      try simp only [Act.put, List.setIfInBounds_toArray, List.set_cons_zero, List.set_cons_succ]
      refine take_off (i := 15) rfl (by kernel_rfl) (by kernel_rfl) (by kernel_rfl) (fun _ _ _ h => h) (by rfl) (by assumption) ?_
      try simp only [Act.put, List.setIfInBounds_toArray, List.set_cons_zero, List.set_cons_succ]
      refine take_off (i := 16) rfl (by kernel_rfl) (by kernel_rfl) (by kernel_rfl) (fun _ _ _ h => h) (by rfl) (by assumption) ?_
      try simp only [Act.put, List.setIfInBounds_toArray, List.set_cons_zero, List.set_cons_succ]
      refine take_off (i := 17) rfl (by kernel_rfl) (by kernel_rfl) (by kernel_rfl) (fun _ _ _ h => h) (by rfl) (by assumption) ?_
      try simp only [Act.put, List.setIfInBounds_toArray, List.set_cons_zero, List.set_cons_succ]
      refine take_off (i := 18) rfl (by kernel_rfl) (by kernel_rfl) (by kernel_rfl) (fun _ _ _ h => h) (by rfl) (by assumption) ?_
      try simp only [Act.put, List.setIfInBounds_toArray, List.set_cons_zero, List.set_cons_succ]
      refine take_off (i := 19) rfl (by kernel_rfl) (by kernel_rfl) (by kernel_rfl) (fun _ _ _ h => h) (by rfl) (by assumption) ?_
      try simp only [Act.put, List.setIfInBounds_toArray, List.set_cons_zero, List.set_cons_succ]
      refine' take_on (i := 20) (v := _) rfl (by kernel_rfl) (by kernel_rfl) (by kernel_rfl) (fun _ _ _ h => h) (by rfl) ?_ (by assumption) ?_
      rotate_left
      · (intro W hW; (try dsimp only at hW); go_simp; first | done | with_reducible rfl)
      try simp only [Act.put, List.setIfInBounds_toArray, List.set_cons_zero, List.set_cons_succ]
      refine' take_on (i := 21) (v := _) rfl (by kernel_rfl) (by kernel_rfl) (by kernel_rfl) (fun _ _ _ h => h) (by rfl) ?_ (by assumption) ?_
      rotate_left
      · (intro W hW; (try dsimp only at hW); go_simp; first | done | with_reducible rfl)
      try simp only [Act.put, List.setIfInBounds_toArray, List.set_cons_zero, List.set_cons_succ]
      refine' take_on (i := 22) (v := _) rfl (by kernel_rfl) (by kernel_rfl) (by kernel_rfl) (fun _ _ _ h => h) (by rfl) ?_ (by assumption) ?_
      rotate_left
      · (intro W hW; (try dsimp only at hW); go_simp; first | done | with_reducible rfl)
      try simp only [Act.put, List.setIfInBounds_toArray, List.set_cons_zero, List.set_cons_succ]
      refine call_on (i := 23) rfl (by kernel_rfl) (by rfl) (fun K hK => ?_)
      go_simp
      refine (HA.out _ (HBW.out _ hbd)).mono ?_
      rintro e w6 ⟨rfl, hb6⟩
      have hB6 := hbd.trans (hb6.mono hbd.size)
      refine hK.out _ _ (HX.out _ hB6) (fun hHeld => ?_)
      clear hK K
      try simp only [Act.put, List.setIfInBounds_toArray, List.set_cons_zero, List.set_cons_succ]
      refine' take_on (i := 24) (v := _) rfl (by kernel_rfl) (by kernel_rfl) (by kernel_rfl) (fun _ _ _ h => h) (by rfl) ?_ (by assumption) ?_
      rotate_left
      · (intro W hW; (try dsimp only at hW); go_simp; first | done | with_reducible rfl)
      try simp only [Act.put, List.setIfInBounds_toArray, List.set_cons_zero, List.set_cons_succ]
      refine' take_on (i := 25) (v := _) rfl (by kernel_rfl) (by kernel_rfl) (by kernel_rfl) (fun _ _ _ h => h) (by rfl) ?_ (by assumption) ?_
      rotate_left
      · (intro W hW; (try dsimp only at hW); go_simp; first | done | with_reducible rfl)
      try simp only [Act.put, List.setIfInBounds_toArray, List.set_cons_zero, List.set_cons_succ]
      refine wpAnyH_done (by kernel_rfl) ?_ _
      go_wp2_with fail
      go_ret
      exact ⟨rfl, HBW.out _ hB6⟩
    | true =>
      obtain ⟨e1, e2⟩ := HPR.out rfl
      have HRX : Hid (∀ W, Below w5.heap.size w5 W → Rdr W g l p true) := hid (fun W h => by have := HRW.out W h; rw [e1, e2] at this; exact this)
      clear e1 e2 HRW
      refine' take_on (i := 0) (v := _) rfl (by kernel_rfl) (by kernel_rfl) (by kernel_rfl) (fun _ _ _ h => h) (by rfl) ?_ (by assumption) ?_
      rotate_left
      · (intro W hW; (try dsimp only at hW); go_simp; first | done | with_reducible rfl)
      try simp only [Act.put, List.setIfInBounds_toArray, List.set_cons_zero, List.set_cons_succ]
      refine' take_on (i := 1) (v := _) rfl (by kernel_rfl) (by kernel_rfl) (by kernel_rfl) (fun _ _ _ h => h) (by rfl) ?_ (by assumption) ?_
      rotate_left
      · (intro W hW; (try dsimp only at hW); go_simp; first | done | with_reducible rfl)
      try simp only [Act.put, List.setIfInBounds_toArray, List.set_cons_zero, List.set_cons_succ]
      refine' take_on (i := 2) (v := _) rfl (by kernel_rfl) (by kernel_rfl) (by kernel_rfl) (fun _ _ _ h => h) (by rfl) ?_ (by assumption) ?_
      rotate_left
      · (intro W hW; (try dsimp only at hW); go_simp; first | done | with_reducible rfl)
      try simp only [Act.put, List.setIfInBounds_toArray, List.set_cons_zero, List.set_cons_succ]
      refine' take_on (i := 3) (v := _) rfl (by kernel_rfl) (by kernel_rfl) (by kernel_rfl) (fun _ _ _ h => h) (by rfl) ?_ (by assumption) ?_
      rotate_left
      · (intro W hW; (try dsimp only at hW); go_simp; first | done | with_reducible rfl)
      try simp only [Act.put, List.setIfInBounds_toArray, List.set_cons_zero, List.set_cons_succ]
      refine' take_on (i := 4) (v := _) rfl (by kernel_rfl) (by kernel_rfl) (by kernel_rfl) (fun _ _ _ h => h) (by rfl) (fun W hW => loadAtt_row hW.1 HSS.out) (by assumption) ?_
      try simp only [Act.put, List.setIfInBounds_toArray, List.set_cons_zero, List.set_cons_succ]
      refine' take_on (i := 5) (v := _) rfl (by kernel_rfl) (by kernel_rfl) (by kernel_rfl) (fun _ _ _ h => h) (by rfl) (fun W hW => loadAtt_row hW.2.1 HSS.out) (by assumption) ?_
      try simp only [Act.put, List.setIfInBounds_toArray, List.set_cons_zero, List.set_cons_succ]
      have heq := HEQ.out
      refine' take_on (i := 6) (v := _) rfl (by kernel_rfl) (by kernel_rfl) (by kernel_rfl) (fun _ _ _ h => h) (by rfl) ?_ (by assumption) ?_
      rotate_left
      · (intro W hW; (try dsimp only at hW); go_simp; first | done | with_reducible rfl)
      try simp only [Act.put, List.setIfInBounds_toArray, List.set_cons_zero, List.set_cons_succ]
      clear heq
      refine' take_on (i := 7) (v := _) rfl (by kernel_rfl) (by kernel_rfl) (by kernel_rfl) (fun _ _ _ h => h) (by rfl) ?_ (by assumption) ?_
      rotate_left
      · (intro W hW; (try dsimp only at hW); go_simp; first | done | with_reducible rfl)
      try simp only [Act.put, List.setIfInBounds_toArray, List.set_cons_zero, List.set_cons_succ]
      refine' take_on (i := 8) (v := _) rfl (by kernel_rfl) (by kernel_rfl) (by kernel_rfl) (fun _ _ _ h => h) (by rfl) ?_ (by assumption) ?_
      rotate_left
      · (intro W hW; (try dsimp only at hW); go_simp; first | done | with_reducible rfl)
      try simp only [Act.put, List.setIfInBounds_toArray, List.set_cons_zero, List.set_cons_succ]
      refine' take_on (i := 9) (v := _) rfl (by kernel_rfl) (by kernel_rfl) (by kernel_rfl) (fun _ _ _ h => h) (by rfl) ?_ (by assumption) ?_
      rotate_left
      · (intro W hW; (try dsimp only at hW); go_simp; first | done | with_reducible rfl)
      try simp only [Act.put, List.setIfInBounds_toArray, List.set_cons_zero, List.set_cons_succ]
      refine' take_on (i := 10) (v := _) rfl (by kernel_rfl) (by kernel_rfl) (by kernel_rfl) (fun _ _ _ h => h) (by rfl) ?_ (by assumption) ?_
      rotate_left
      · (intro W hW; (try dsimp only at hW); go_simp; first | done | with_reducible rfl)
      try simp only [Act.put, List.setIfInBounds_toArray, List.set_cons_zero, List.set_cons_succ]
      refine' take_on (i := 11) (v := _) rfl (by kernel_rfl) (by kernel_rfl) (by kernel_rfl) (fun _ _ _ h => h) (by rfl) ?_ (by assumption) ?_
      rotate_left
      · (intro W hW; (try dsimp only at hW); go_simp; first | done | with_reducible rfl)
      try simp only [Act.put, List.setIfInBounds_toArray, List.set_cons_zero, List.set_cons_succ]
      refine' take_on (i := 12) (v := _) rfl (by kernel_rfl) (by kernel_rfl) (by kernel_rfl) (fun _ _ _ h => h) (by rfl) ?_ (by assumption) ?_
      rotate_left
      · (intro W hW; (try dsimp only at hW); go_simp; first | done | with_reducible rfl)
      try simp only [Act.put, List.setIfInBounds_toArray, List.set_cons_zero, List.set_cons_succ]
      refine' take_on (i := 14) (v := _) rfl (by kernel_rfl) (by kernel_rfl) (by kernel_rfl) (fun _ _ _ h => h) (by rfl) ?_ (by assumption) ?_
      rotate_left
      · (intro W hW; (try dsimp only at hW); go_simp; first | done | with_reducible rfl)
      try simp only [Act.put, List.setIfInBounds_toArray, List.set_cons_zero, List.set_cons_succ]
      refine' take_on (i := 15) (v := _) rfl (by kernel_rfl) (by kernel_rfl) (by kernel_rfl) (fun _ _ _ h => h) (by rfl) ?_ (by assumption) ?_
      rotate_left
      · (intro W hW; (try dsimp only at hW); go_simp; first | done | with_reducible rfl)
      try simp only [Act.put, List.setIfInBounds_toArray, List.set_cons_zero, List.set_cons_succ]
      refine' take_on (i := 16) (v := _) rfl (by kernel_rfl) (by kernel_rfl) (by kernel_rfl) (fun _ _ _ h => h) (by rfl) ?_ (by assumption) ?_
      rotate_left
      · (intro W hW; (try dsimp only at hW); go_simp; first | done | with_reducible rfl)
      try simp only [Act.put, List.setIfInBounds_toArray, List.set_cons_zero, List.set_cons_succ]
      refine' take_on (i := 17) (v := _) rfl (by kernel_rfl) (by kernel_rfl) (by kernel_rfl) (fun _ _ _ h => h) (by rfl) ?_ (by assumption) ?_
      rotate_left
      · (intro W hW; (try dsimp only at hW); go_simp; first | done | with_reducible rfl)
      try simp only [Act.put, List.setIfInBounds_toArray, List.set_cons_zero, List.set_cons_succ]
      have hwp : IntKind.i64.wrap ((L : Int) - (p : Int)) = (L : Int) - (p : Int) := by have := (HRX.out _ hbd).le; rw [HL.out] at this; rw [IntKind.wrap_i64]; omega
      refine' take_on (i := 18) (v := _) rfl (by kernel_rfl) (by kernel_rfl) (by kernel_rfl) (fun _ _ _ h => h) (by rfl) ?_ (by assumption) ?_
      rotate_left
      · (intro W hW; (try dsimp only at hW); go_simp; first | done | with_reducible rfl)
      try simp only [Act.put, List.setIfInBounds_toArray, List.set_cons_zero, List.set_cons_succ]
      clear hwp
      refine call_on (i := 13) rfl (by kernel_rfl) (by rfl) (fun K hK => ?_)
      go_simp
      have C := left_any g l p true w5.drew (HRX.out _ hbd) (by have := HL6.out; omega)
      rw [HL.out] at C
      refine C.mono ?_
      clear C
      rintro e w6 ⟨rfl, n6, hw6⟩
      have hb6 : Below w5.heap.size w5 w6 := by rw [hw6]; exact below_drewN hbd n6
      clear hw6
      refine hK.out _ _ (HX.out _ hb6) (fun hHeld => ?_)
      clear hK K
      try simp only [Act.put, List.setIfInBounds_toArray, List.set_cons_zero, List.set_cons_succ]
      refine' take_on (i := 19) (v := _) rfl (by kernel_rfl) (by kernel_rfl) (by kernel_rfl) (fun _ _ _ h => h) (by rfl) ?_ (by assumption) ?_
      rotate_left
      · (intro W hW; (try dsimp only at hW); go_simp; first | done | with_reducible rfl)
      try simp only [Act.put, List.setIfInBounds_toArray, List.set_cons_zero, List.set_cons_succ]
      refine' take_on (i := 20) (v := _) rfl (by kernel_rfl) (by kernel_rfl) (by kernel_rfl) (fun _ _ _ h => h) (by rfl) ?_ (by assumption) ?_
      rotate_left
      · (intro W hW; (try dsimp only at hW); go_simp; first | done | with_reducible rfl)
      try simp only [Act.put, List.setIfInBounds_toArray, List.set_cons_zero, List.set_cons_succ]
      refine' take_on (i := 21) (v := _) rfl (by kernel_rfl) (by kernel_rfl) (by kernel_rfl) (fun _ _ _ h => h) (by rfl) ?_ (by assumption) ?_
      rotate_left
      · (intro W hW; (try dsimp only at hW); go_simp; first | done | with_reducible rfl)
      try simp only [Act.put, List.setIfInBounds_toArray, List.set_cons_zero, List.set_cons_succ]
      refine' take_on (i := 22) (v := _) rfl (by kernel_rfl) (by kernel_rfl) (by kernel_rfl) (fun _ _ _ h => h) (by rfl) ?_ (by assumption) ?_
      rotate_left
      · (intro W hW; (try dsimp only at hW); go_simp; first | done | with_reducible rfl)
      try simp only [Act.put, List.setIfInBounds_toArray, List.set_cons_zero, List.set_cons_succ]
      refine call_on (i := 23) rfl (by kernel_rfl) (by rfl) (fun K hK => ?_)
      go_simp
      refine (HA.out _ (HBW.out _ hb6)).mono ?_
      rintro e w7 ⟨rfl, hb7⟩
      have hB7 := hb6.trans (hb7.mono hb6.size)
      refine hK.out _ _ (HX.out _ hB7) (fun hHeld => ?_)
      clear hK K
      try simp only [Act.put, List.setIfInBounds_toArray, List.set_cons_zero, List.set_cons_succ]
      refine' take_on (i := 24) (v := _) rfl (by kernel_rfl) (by kernel_rfl) (by kernel_rfl) (fun _ _ _ h => h) (by rfl) ?_ (by assumption) ?_
      rotate_left
      · (intro W hW; (try dsimp only at hW); go_simp; first | done | with_reducible rfl)
      try simp only [Act.put, List.setIfInBounds_toArray, List.set_cons_zero, List.set_cons_succ]
      refine' take_on (i := 25) (v := _) rfl (by kernel_rfl) (by kernel_rfl) (by kernel_rfl) (fun _ _ _ h => h) (by rfl) ?_ (by assumption) ?_
      rotate_left
      · (intro W hW; (try dsimp only at hW); go_simp; first | done | with_reducible rfl)
      try simp only [Act.put, List.setIfInBounds_toArray, List.set_cons_zero, List.set_cons_succ]
      refine wpAnyH_done (by kernel_rfl) ?_ _
      go_wp2_with fail
      go_ret
      exact ⟨rfl, HBW.out _ hB7⟩
  · have hi : (500 : Int) < (L : Int) := by omega
    go_enter Tryd.func4, Tryd.ntmps4
    go_wp2_with fail
    refine (HA.out w (Below.refl _ _)).mono ?_
    rintro e w1 ⟨rfl, hb1⟩
    go_wp2_with fail
    go_ret
    exact ⟨rfl, hb1⟩
end Go.Proofs.YtmhchihcgliinaaDoor
