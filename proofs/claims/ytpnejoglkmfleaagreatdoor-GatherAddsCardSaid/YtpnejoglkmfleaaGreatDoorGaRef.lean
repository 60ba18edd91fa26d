/-
  tithingref16.ahead, Same, Those, Drop. Printed with genga.py.
-/
import Derived.Test.YtpnejoglkmfleaaGreatDoorGaSame
namespace Go.Proofs.YtpnejoglkmfleaaGreatDoor
set_option maxRecDepth 20000
open Go.RowKit
attribute [local go_sem ↓] exec_load_gv exec_alloc_gv exec_store_gv exec_load_att exec_alloc_att exec_store_att exec_ne_att exec_slice_at1
set_option maxHeartbeats 3200000 in
theorem refAhead16_any (a b : AtM) (w : World) :
    Calls Tryz.prog 21 #[.agg (atc a), .agg (atc b)] w fun e w' => e = .returned (.bool (aheadA a b)) ∧ Below w.heap.size w w' := by
  have hb0 : Below w.heap.size w ((w.alloc (.cells (atc a) 36)).alloc (.cells (atc b) 36)) := ((Below.refl _ _).alloc (Nat.le_refl _) _).alloc (by simp) _
  have hA : BoxA ((w.alloc (.cells (atc a) 36)).alloc (.cells (atc b) 36)) w.heap.size a := (Below.heap_alloc _ _ _ (by simp)).trans (heap_alloc_new w _)
  have hB : BoxA ((w.alloc (.cells (atc a) 36)).alloc (.cells (atc b) 36)) (w.heap.size + 1) b := by
    have := BoxA.new (w.alloc (.cells (atc a) 36)) b
    rwa [show (w.alloc (.cells (atc a) 36)).heap.size = w.heap.size + 1 from by simp] at this
  obtain ⟨C, HC⟩ : ∃ C : Array Value, Hid (atc a = C) := ⟨_, hid rfl⟩
  obtain ⟨D, HD⟩ : ∃ C : Array Value, Hid (atc b = C) := ⟨_, hid rfl⟩
  obtain ⟨q, HQ⟩ : ∃ q : Bool, Hid (aheadA a b = q) := ⟨_, hid rfl⟩
  rw [HC.out, HD.out] at hb0 hA hB ⊢
  rw [HQ.out]
  go_enter Tryz.func21, Tryz.ntmps21
  go_upto_region 1 with (fail)
  generalize ((w.alloc (.cells C 36)).alloc (.cells D 36)) = w0 at *
  obtain ⟨k0, k1, k2, _⟩ := hA.cells
  obtain ⟨j0, j1, j2, _⟩ := hB.cells
  have HM : Hid (q = if a.vi = b.vi then (if a.ki = b.ki then decide (a.bo < b.bo) else decide (a.ki < b.ki)) else decide (a.vi < b.vi)) := hid (by rw [← HQ.out]; rfl)
  clear hA hB HC HD HQ
  obtain ⟨bo, ki, vi, _, _, _, _, _⟩ := a
  obtain ⟨bo', ki', vi', _, _, _, _, _⟩ := b
  simp only at k0 k1 k2 j0 j1 j2 HM
  go_wp2_with fail
  all_goals
    go_ret
    refine ⟨?_, hb0⟩
    refine congrArg (fun b => Ending.returned (Value.bool b)) ?_
    rw [HM.out]
  all_goals grind
set_option maxHeartbeats 6400000 in
theorem refThose16_any (n : Int) (s : Value) (L : List AtM) (k v : Int) (w : World) (hs : Els atl 101 w s L) (ho : ∀ a ∈ L, a.Ok) (hl : L.length ≤ 1000) :
    Calls Tryz.prog 14 #[.agg #[.int .i64 n, s], .int .i64 k, .int .i64 v] w fun e w' => ∃ x, e = .returned x ∧ OwnE atl 101 36 w.heap.size w' x (thoseG L k v) ∧ Below w.heap.size w w' := by
  obtain ⟨A, c, rfl⟩ := hs.shape
  have HA : Hid (∀ j (h : j < L.length), ∃ b off, A = some ⟨b, off, none⟩ ∧ ∀ W, Below w.heap.size w W → ElG W b (off + j * 101) L[j]) := hid (fun j h => elG_at hs ho h)
  have HO := hid ho
  obtain ⟨N, HN⟩ : ∃ n : Nat, Hid (L.length = n) := ⟨_, hid rfl⟩
  rw [HN.out] at hl ⊢
  have HLN := hid hl
  have hr := heap_alloc_new w (.cells #[.int .i64 n, .slice A N c] 30)
  have HB0 : Hid (Below w.heap.size w (w.alloc (.cells #[.int .i64 n, .slice A N c] 30))) := hid ((Below.refl _ _).alloc (Nat.le_refl _) _)
  have HR := hid hr
  clear hs ho hl hr
  go_enter Tryz.func14, Tryz.ntmps14
  go_upto_region 1 with (fail)
  generalize (w.alloc (.cells #[.int .i64 n, .slice A N c] 30)) = wz at *
  have HBW : Hid (∀ W, Below wz.heap.size wz W → Below w.heap.size w W ∧ W.cell? ⟨w.heap.size, 1, none⟩ = some (.slice A N c)) := hid (fun W h => ⟨HB0.out.trans (h.mono HB0.out.size), cell_blk ((h.block _ (lt_of_block HR.out)).trans HR.out) 1⟩)
  have HF0 := hid (FlSt.fresh wz)
  go_upto_region 2 with (fail)
  generalize (wz.alloc (.cells #[] 36)) = w1 at *
  generalize wz.heap.size = g1 at HF0 ⊢
  go_wp2_with fail
  go_loopw [7, 8] (fun s7 s8 wr => ∃ (i : Nat) (A7 : Option Addr) (n7 c7 : Nat), i ≤ N ∧ s8 = .int .i64 i ∧ s7 = .slice A7 n7 c7 ∧ Hid (FlSt wz wr (.slice A7 n7 c7) (thoseG (L.take i) k v))) (fun _ s8 _ => N - (intOf s8).toNat)
  case atStart => exact ⟨0, _, _, _, Nat.zero_le _, rfl, rfl, HF0⟩
  case round =>
    obtain ⟨i, A7, n7, c7, hi, rfl, rfl, HT⟩ := hrel
    obtain ⟨_, k1⟩ := HBW.out wr HT.out.bel
    by_cases hlt : i < N
    · have hlt' : (i : Int) < (N : Int) := by omega
      have hiL : i < L.length := by rw [HN.out]; exact hlt
      obtain ⟨b1, o1, rfl, h1⟩ := HA.out i hiL
      obtain ⟨_, c1, c2, l1⟩ := h1 wr (HBW.out wr HT.out.bel).1
      have HYES : Hid (L[i].ki = k → L[i].vi = v → thoseG (L.take (i + 1)) k v = thoseG (L.take i) k v ++ [L[i]]) := hid (fun e1 e2 => filter_take_yes _ hiL (by rw [decide_eq_true e1, decide_eq_true e2]; rfl))
      have HNO : Hid (¬ (L[i].ki = k ∧ L[i].vi = v) → thoseG (L.take (i + 1)) k v = thoseG (L.take i) k v) := hid (fun e => filter_take_no _ hiL (by
        rw [Bool.eq_false_iff]
        intro h
        simp only [Bool.and_eq_true, decide_eq_true_eq] at h
        exact e h))
      have HXO := hid (HO.out _ (List.getElem_mem hiL))
      have HML : Hid ((thoseG (L.take i) k v).length ≤ 1000) := hid (Nat.le_trans (filter_take_len L i _) (by have := HLN.out; omega))
      generalize L[i] = x at *
      obtain ⟨M, HM⟩ : ∃ q : List AtM, Hid (thoseG (L.take i) k v = q) := ⟨_, hid rfl⟩
      rw [HM.out] at HT HYES HNO HML
      have HHK := hid (show i < N from hlt)
      have HWI : Hid (wrap64 ((i : Int) + 1) = (i : Int) + 1) := hid (by have := HLN.out; unfold wrap64; omega)
      have hwi := HWI.out
      obtain ⟨ki, HKI⟩ : ∃ q : Int, Hid (x.ki = q) := ⟨_, hid rfl⟩
      obtain ⟨vi, HVI⟩ : ∃ q : Int, Hid (x.vi = q) := ⟨_, hid rfl⟩
      rw [HKI.out] at c1 HYES HNO
      rw [HVI.out] at c2 HYES HNO
      obtain ⟨G, HG⟩ : ∃ C : Array Value, Hid (atc x = C) := ⟨_, hid rfl⟩
      rw [HG.out] at l1
      have hsl : ∀ W, sliceAt1 (.agg G) W = .ok (.value (.slice (some ⟨W.heap.size, 0, none⟩) 1 1)) (W.alloc (.cells G 36)) := fun W => by rw [← HG.out]; exact sliceAt1_eq x HXO.out W
      clear h1 hiL hlt hi
      by_cases p1 : ki = k
      · by_cases p2 : vi = v
        · have HE := hid (HYES.out p1 p2)
          have HSGK : Hid (∀ u ∈ [x], u.Ok) := hid (fun u hu => by obtain rfl := List.mem_singleton.1 hu; exact HXO.out)
          have HS4 := hid (HT.out.below ((Below.refl wr.heap.size wr).alloc (Nat.le_refl _) (.cells G 36)))
          have HEL : Hid (Els atl 101 (wr.alloc (.cells G 36)) (.slice (some ⟨wr.heap.size, 0, none⟩) 1 1) [x]) := hid (els_one wr x G 36 HG.out)
          have HLN2 : Hid (M.length + [x].length ≤ 1000000) := hid (by have := HML.out; simp only [List.length_cons, List.length_nil]; omega)
          subst p1 p2
          go_upto_region 6 with (fail)
          clear c1 c2
          go_wp2_with (at_builtin; go_loud (refine eltAt.wpList_append rfl (.tmp 35) (.tmp 41) rfl rfl rfl HSGK.out HS4.out.own HEL.out HLN2.out HS4.out.bel.size ?_; intro v5 w5 ho5 hg5 hv5; have HS5 := hid (HS4.out.app ho5 hg5); obtain ⟨A5, n5, c5, rfl⟩ : ∃ A n c, v5 = .slice A n c := (by obtain ⟨A, c, e⟩ := ho5.shape; exact ⟨_, _, _, e⟩); clear ho5 hg5 hv5 l1 k1))
          go_roundw
          case rel => exact ⟨i + 1, _, _, _, HHK.out, by first | go_num | (rw [HWI.out]; rfl), rfl, by rw [HE.out]; exact HS5⟩
          case measure => exact ga_meas HHK.out hwi
        · have HE := hid (HNO.out (fun h => p2 h.2))
          subst p1
          go_wp2_with fail
          go_roundw
          case rel => exact ⟨i + 1, _, _, _, HHK.out, by first | go_num | (rw [HWI.out]; rfl), rfl, by rw [HE.out]; exact HT⟩
          case measure => exact ga_meas HHK.out hwi
      · have HE := hid (HNO.out (fun h => p1 h.1))
        go_wp2_with fail
        go_roundw
        case rel => exact ⟨i + 1, _, _, _, HHK.out, by first | go_num | (rw [HWI.out]; rfl), rfl, by rw [HE.out]; exact HT⟩
        case measure => exact ga_meas HHK.out hwi
    · have hlt' : ¬ (i : Int) < (N : Int) := by omega
      have HE : Hid (thoseG (L.take i) k v = thoseG L k v) := hid (by rw [List.take_of_length_le (by rw [HN.out]; omega)])
      rw [HE.out] at HT
      clear hlt hi
      go_wp2_with fail
      go_ret
      exact ⟨_, rfl, HT.out.own.more HB0.out.size, (HBW.out wr HT.out.bel).1⟩
set_option maxHeartbeats 6400000 in
theorem refDrop16_any (n : Int) (s : Value) (L : List AtM) (v : Int) (w : World) (hs : Els atl 101 w s L) (ho : ∀ a ∈ L, a.Ok) (hl : L.length ≤ 1000) :
    Calls Tryz.prog 17 #[.agg #[.int .i64 n, s], .int .i64 v] w fun e w' => ∃ x, e = .returned (.agg #[.int .i64 n, x]) ∧ Els atl 101 w' x (dropG L v) ∧ Below w.heap.size w w' := by
  obtain ⟨A, c, rfl⟩ := hs.shape
  have HA : Hid (∀ j (h : j < L.length), ∃ b off, A = some ⟨b, off, none⟩ ∧ ∀ W, Below w.heap.size w W → ElG W b (off + j * 101) L[j]) := hid (fun j h => elG_at hs ho h)
  have HO := hid ho
  obtain ⟨N, HN⟩ : ∃ n : Nat, Hid (L.length = n) := ⟨_, hid rfl⟩
  rw [HN.out] at hl ⊢
  have HLN := hid hl
  have hr := heap_alloc_new w (.cells #[.int .i64 n, .slice A N c] 30)
  have hal : allocGv (w.alloc (.cells #[.int .i64 n, .slice A N c] 30)) = .ok (.value (.pointer (some ⟨w.heap.size + 1, 0, none⟩))) ((w.alloc (.cells #[.int .i64 n, .slice A N c] 30)).alloc (.cells gvZ 30)) := by
    have := allocGv_eq (w.alloc (.cells #[.int .i64 n, .slice A N c] 30))
    rwa [show (w.alloc (.cells #[.int .i64 n, .slice A N c] 30)).heap.size = w.heap.size + 1 from by simp] at this
  have hr2 := heap_alloc_new (w.alloc (.cells #[.int .i64 n, .slice A N c] 30)) (.cells gvZ 30)
  rw [show (w.alloc (.cells #[.int .i64 n, .slice A N c] 30)).heap.size = w.heap.size + 1 from by simp] at hr2
  have HB0 : Hid (Below w.heap.size w ((w.alloc (.cells #[.int .i64 n, .slice A N c] 30)).alloc (.cells gvZ 30))) := hid (((Below.refl _ _).alloc (Nat.le_refl _) _).alloc (by simp) _)
  have HR := hid ((Below.heap_alloc (w.alloc (.cells #[.int .i64 n, .slice A N c] 30)) (.cells gvZ 30) _ (lt_of_block hr)).trans hr)
  have HR2 := hid hr2
  clear hs ho hl hr hr2
  go_enter Tryz.func17, Tryz.ntmps17
  go_upto_region 1 with (fail)
  clear hal
  generalize ((w.alloc (.cells #[.int .i64 n, .slice A N c] 30)).alloc (.cells gvZ 30)) = wz at *
  have HBW : Hid (∀ W, Below wz.heap.size wz W → Below w.heap.size w W ∧ W.cell? ⟨w.heap.size, 1, none⟩ = some (.slice A N c)) := hid (fun W h => ⟨HB0.out.trans (h.mono HB0.out.size), cell_blk ((h.block _ (lt_of_block HR.out)).trans HR.out) 1⟩)
  have HF0 := hid (FlSt.fresh wz)
  go_upto_region 2 with (fail)
  generalize (wz.alloc (.cells #[] 36)) = w1 at *
  generalize wz.heap.size = g1 at HF0 ⊢
  go_wp2_with fail
  go_loopw [5, 6] (fun s7 s8 wr => ∃ (i : Nat) (A7 : Option Addr) (n7 c7 : Nat), i ≤ N ∧ s8 = .int .i64 i ∧ s7 = .slice A7 n7 c7 ∧ Hid (FlSt wz wr (.slice A7 n7 c7) (dropG (L.take i) v))) (fun _ s8 _ => N - (intOf s8).toNat)
  case atStart => exact ⟨0, _, _, _, Nat.zero_le _, rfl, rfl, HF0⟩
  case round =>
    obtain ⟨i, A7, n7, c7, hi, rfl, rfl, HT⟩ := hrel
    obtain ⟨_, k1⟩ := HBW.out wr HT.out.bel
    by_cases hlt : i < N
    · have hlt' : (i : Int) < (N : Int) := by omega
      have hiL : i < L.length := by rw [HN.out]; exact hlt
      obtain ⟨b1, o1, rfl, h1⟩ := HA.out i hiL
      obtain ⟨_, _, c2, l1⟩ := h1 wr (HBW.out wr HT.out.bel).1
      have HYES : Hid (v ≤ L[i].vi → dropG (L.take (i + 1)) v = dropG (L.take i) v ++ [L[i]]) := hid (fun e1 => filter_take_yes _ hiL (decide_eq_true e1))
      have HNO : Hid (¬ v ≤ L[i].vi → dropG (L.take (i + 1)) v = dropG (L.take i) v) := hid (fun e => filter_take_no _ hiL (decide_eq_false e))
      have HXO := hid (HO.out _ (List.getElem_mem hiL))
      have HML : Hid ((dropG (L.take i) v).length ≤ 1000) := hid (Nat.le_trans (filter_take_len L i _) (by have := HLN.out; omega))
      generalize L[i] = x at *
      obtain ⟨M, HM⟩ : ∃ q : List AtM, Hid (dropG (L.take i) v = q) := ⟨_, hid rfl⟩
      rw [HM.out] at HT HYES HNO HML
      have HHK := hid (show i < N from hlt)
      have HWI : Hid (wrap64 ((i : Int) + 1) = (i : Int) + 1) := hid (by have := HLN.out; unfold wrap64; omega)
      have hwi := HWI.out
      obtain ⟨vi, HVI⟩ : ∃ q : Int, Hid (x.vi = q) := ⟨_, hid rfl⟩
      rw [HVI.out] at c2 HYES HNO
      obtain ⟨G, HG⟩ : ∃ C : Array Value, Hid (atc x = C) := ⟨_, hid rfl⟩
      rw [HG.out] at l1
      have hsl : ∀ W, sliceAt1 (.agg G) W = .ok (.value (.slice (some ⟨W.heap.size, 0, none⟩) 1 1)) (W.alloc (.cells G 36)) := fun W => by rw [← HG.out]; exact sliceAt1_eq x HXO.out W
      clear h1 hiL hlt hi
      by_cases p2 : v ≤ vi
      · have HE := hid (HYES.out p2)
        have HSGK : Hid (∀ u ∈ [x], u.Ok) := hid (fun u hu => by obtain rfl := List.mem_singleton.1 hu; exact HXO.out)
        have HS4 := hid (HT.out.below ((Below.refl wr.heap.size wr).alloc (Nat.le_refl _) (.cells G 36)))
        have HEL : Hid (Els atl 101 (wr.alloc (.cells G 36)) (.slice (some ⟨wr.heap.size, 0, none⟩) 1 1) [x]) := hid (els_one wr x G 36 HG.out)
        have HLN2 : Hid (M.length + [x].length ≤ 1000000) := hid (by have := HML.out; simp only [List.length_cons, List.length_nil]; omega)
        go_upto_region 6 with (fail)
        clear c2 p2
        go_wp2_with (at_builtin; go_loud (refine eltAt.wpList_append rfl (.tmp 23) (.tmp 29) rfl rfl rfl HSGK.out HS4.out.own HEL.out HLN2.out HS4.out.bel.size ?_; intro v5 w5 ho5 hg5 hv5; have HS5 := hid (HS4.out.app ho5 hg5); obtain ⟨A5, n5, c5, rfl⟩ : ∃ A n c, v5 = .slice A n c := (by obtain ⟨A, c, e⟩ := ho5.shape; exact ⟨_, _, _, e⟩); clear ho5 hg5 hv5 l1 k1))
        go_roundw
        case rel => exact ⟨i + 1, _, _, _, HHK.out, by first | go_num | (rw [HWI.out]; rfl), rfl, by rw [HE.out]; exact HS5⟩
        case measure => exact ga_meas HHK.out hwi
      · have HE := hid (HNO.out p2)
        go_wp2_with fail
        go_roundw
        case rel => exact ⟨i + 1, _, _, _, HHK.out, by first | go_num | (rw [HWI.out]; rfl), rfl, by rw [HE.out]; exact HT⟩
        case measure => exact ga_meas HHK.out hwi
    · have hlt' : ¬ (i : Int) < (N : Int) := by omega
      have HE : Hid (dropG (L.take i) v = dropG L v) := hid (by rw [List.take_of_length_le (by rw [HN.out]; omega)])
      rw [HE.out] at HT
      have HRW := hid ((HT.out.bel.block _ (lt_of_block HR.out)).trans HR.out)
      have HRW2 := hid ((HT.out.bel.block _ (lt_of_block HR2.out)).trans HR2.out)
      have f1 := free_blk HRW.out 1
      have HRX : Hid ((wr.setCell ⟨w.heap.size, 1, none⟩ (.slice A7 n7 c7)).heap[w.heap.size]? = some (.cells #[.int .i64 n, .slice A7 n7 c7] 30 (0, 0))) := hid (by rw [ga_setIn wr HRW.out]; rfl)
      have HRX2 : Hid ((wr.setCell ⟨w.heap.size, 1, none⟩ (.slice A7 n7 c7)).heap[w.heap.size + 1]? = some (.cells gvZ 30 (0, 0))) := hid ((Below.heap_setCell _ _ _ _ (by show w.heap.size + 1 ≠ w.heap.size; omega)).trans HRW2.out)
      have HWZ : Hid (w.heap.size + 1 < wz.heap.size) := hid (lt_of_block HR2.out)
      have HEX := hid (HT.out.own.set (g := w.heap.size) (by have := HWZ.out; omega) 1 (.slice A7 n7 c7))
      have HBX := hid ((HBW.out wr HT.out.bel).1.setCell (p := ⟨w.heap.size, 1, none⟩) (Nat.le_refl _) (.slice A7 n7 c7))
      clear hlt hi
      go_upto_region 8 with (fail)
      clear k1 f1 hlt'
      generalize (wr.setCell ⟨w.heap.size, 1, none⟩ (.slice A7 n7 c7)) = w5 at *
      have hld := loadGv_row HRX.out rfl
      have hst := storeGv_eq HRX2.out rfl rfl (gv_one n A7 n7 c7)
      have HRW5 := hid (setAtt_same (C := #[.int .i64 n, .slice A7 n7 c7]) HRX2.out)
      have HBW5 := hid (setAtt_below (C := #[.int .i64 n, .slice A7 n7 c7]) HBX.out (show w.heap.size ≤ w.heap.size + 1 by omega))
      have HEL5 : Hid (Els atl 101 (setAtt w5 (w.heap.size + 1) #[.int .i64 n, .slice A7 n7 c7]) (.slice A7 n7 c7) (dropG L v)) := hid ((HEX.out.row (g := w.heap.size + 1) HWZ.out).els eltAt (fun a ha => HO.out a ((List.mem_filter.1 ha).1)))
      go_wp2_with fail
      try simp only [Exit.inBlock, Exit.then]
      refine bodyPost_ret (results_gv1 rfl _ _ _ _ _ rfl HRW5.out rfl) rfl ⟨_, rfl, HEL5.out, HBW5.out⟩
end Go.Proofs.YtpnejoglkmfleaaGreatDoor
