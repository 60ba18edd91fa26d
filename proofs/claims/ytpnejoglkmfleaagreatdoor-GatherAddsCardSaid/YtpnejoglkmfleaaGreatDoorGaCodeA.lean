/-
  A gatherer's made, New, of, News. Printed with gengc.py.
-/
import Derived.Test.YtpnejoglkmfleaaGreatDoorGaMem
import Derived.Test.YtpnejoglkmfleaaGreatDoorGaPureB
import Derived.Test.YtpnejoglkmfleaaGreatDoorGaWords
namespace Go.Proofs.YtpnejoglkmfleaaGreatDoor
set_option maxRecDepth 20000
open Go.RowKit
attribute [local go_sem ↓] exec_load_att exec_alloc_att exec_store_att exec_slice_at1
section
variable {w : World} {b m : Nat} {n : Int} {P : List (AtM × Nat)} {c : Nat} {L : List AtM}
theorem gMade_yes (h : GthE w b m n P c) (hn : 0 < n) : Calls Tryz.prog 22 #[.pointer (some ⟨b, 0, none⟩)] w fun e w' => e = .returned (.bool true) ∧ w = w' := by
  obtain ⟨c0, _⟩ := h.cells
  clear h
  go_enter Tryz.func22, Tryz.ntmps22
  go_wp2
  go_ret
  exact ⟨rfl, rfl⟩
theorem gMade_none (w : World) : Calls Tryz.prog 22 #[.pointer none] w fun e w' => e = .returned (.bool false) ∧ w = w' := by
  go_enter Tryz.func22, Tryz.ntmps22
  go_wp2
  go_ret
  exact ⟨rfl, rfl⟩
theorem gMade_no {v : Value} (h : NoGth w v) : Calls Tryz.prog 22 #[v] w fun e w' => e = .returned (.bool false) ∧ w = w' := by
  rcases h with rfl | ⟨b, rfl, hc⟩
  · exact gMade_none w
  · have c0 : w.cell? ⟨b, 0, none⟩ = some (.int .i64 0) := cell_blk hc 0
    clear hc
    go_enter Tryz.func22, Tryz.ntmps22
    go_wp2
    go_ret
    exact ⟨rfl, rfl⟩
end
theorem gNew_no (n : Int) (w : World) (hwn : (Lit.int .i64 n).wf = true) (h : quoS n = 0) : Calls Tryz.prog 5 #[.int .i64 n] w fun e w' => e = .returned (.tuple #[.pointer none, .int .i64 1]) ∧ w = w' := by
  have HQ := hid (quorum_any n w hwn)
  rw [h] at HQ
  clear h hwn
  go_enter Tryz.func5, Tryz.ntmps5
  go_wp2_with fail
  refine HQ.out.mono ?_
  rintro e w1 ⟨rfl, rfl⟩
  go_wp2_with fail
  go_ret2
  exact ⟨rfl, rfl⟩
theorem gNew_yes (n : Int) (w : World) (hwn : (Lit.int .i64 n).wf = true) (h : quoS n ≠ 0) : Calls Tryz.prog 5 #[.int .i64 n] w fun e w' => ∃ b m, e = .returned (.tuple #[.pointer (some ⟨b, 0, none⟩), .int .i64 0]) ∧ Gth w' b m n [] ∧ Below w.heap.size w w' ∧ w.heap.size ≤ b ∧ w.heap.size ≤ m := by
  have HQ := hid (quorum_any n w hwn)
  obtain ⟨q, hq⟩ : ∃ q, quoS n = q := ⟨_, rfl⟩
  rw [hq] at HQ h
  have hz : ¬ (q : Int) = 0 := by omega
  clear h hwn hq
  have hmm := @run_makeMap Tryz.prog
  have HM : Hid (GthE ((w.alloc (.map #[] 0)).alloc (.cells #[.int .i64 n, .map (some w.heap.size)] 55)) (w.heap.size + 1) w.heap.size n [] 0) := hid ⟨by
    have := heap_alloc_new (w.alloc (.map #[] 0)) (.cells #[.int .i64 n, .map (some w.heap.size)] 55)
    rwa [show (w.alloc (.map #[] 0)).heap.size = w.heap.size + 1 from by simp] at this, (Below.heap_alloc _ _ _ (by simp)).trans (heap_alloc_new w _), by simp, fun p h => absurd h (by simp)⟩
  have HB : Hid (Below w.heap.size w ((w.alloc (.map #[] 0)).alloc (.cells #[.int .i64 n, .map (some w.heap.size)] 55))) := hid (((Below.refl _ _).alloc (Nat.le_refl _) _).alloc (by simp) _)
  go_enter Tryz.func5, Tryz.ntmps5
  go_wp2_with fail
  refine HQ.out.mono ?_
  rintro e w1 ⟨rfl, rfl⟩
  go_wp2_with fail
  go_ret2
  exact ⟨_, _, rfl, ⟨[], 0, HM.out, List.Perm.refl _⟩, HB.out, by simp, Nat.le_refl _⟩
theorem okG_bo {n : Int} {a : AtM} (h : okG n a = true) : 1 ≤ a.bo ∧ a.bo ≤ n := by
  unfold okG rightA at h
  rw [Bool.and_eq_true, Bool.and_eq_true] at h
  exact ⟨(mayA_iff h.1.1).1, of_decide_eq_true h.2⟩
theorem getG_those {L : List AtM} {v k y : Int} {a : AtM} (h : getG L v k y = some a) : a ∈ thoseG L k v ∧ a.bo = y := by
  obtain ⟨h1, h2, h3, h4⟩ := getG_some h
  exact ⟨those_mem.2 ⟨h1, h3, h2⟩, h4⟩
set_option maxHeartbeats 6400000 in
theorem gOf_any {w : World} {b m : Nat} {n : Int} {L : List AtM} (h : Gth w b m n L) (g : OkG n L) (k v : Int) :
    Calls Tryz.prog 24 #[.pointer (some ⟨b, 0, none⟩), .int .i64 k, .int .i64 v] w fun e w' => ∃ x, e = .returned x ∧ OwnE atl 101 36 w.heap.size w' x (thoseG L k v) ∧ Below w.heap.size w w' := by
  obtain ⟨P, c, h, hp⟩ := h
  obtain ⟨hn1, hn2, _⟩ := quoS_range g.quo
  have HM := hid (gMade_yes h (by omega))
  have HT : Hid (∀ W, Below w.heap.size w W → W.cell? ⟨b, 0, none⟩ = some (.int .i64 n) ∧ W.cell? ⟨b, 1, none⟩ = some (.map (some m)) ∧ ∀ i : Int, (Instr.lookup 53 (.map (some m)) (.agg #[.int .i64 v, .int .i64 k, .int .i64 i]) true).run Tryz.prog W = .ok (lookV (getG L v k i)) W) := hid (fun W hW => ⟨(h.below hW).cells.1, (h.below hW).cells.2, fun i => gaLook_any (h.below hW) hp g.sort v k i⟩)
  have HR := hid (those_rise g.sort k v)
  have HOK := hid (fun a (ha : a ∈ L) => g.ok a ha)
  have HBO := hid (fun a (ha : a ∈ thoseG L k v) => okG_bo (g.good a (those_mem.1 ha).1))
  have HL : Hid ((thoseG L k v).length ≤ 200) := hid (Nat.le_trans (List.length_filter_le _ _) g.len)
  obtain ⟨N, rfl⟩ : ∃ N : Nat, n = (N : Int) := ⟨n.toNat, by omega⟩
  obtain ⟨ZA, HZA⟩ : ∃ C : Array Value, Hid (atc atZ = C) := ⟨_, hid rfl⟩
  have HALA : Hid (∀ W, allocAtt W = .ok (.value (.pointer (some ⟨W.heap.size, 0, none⟩))) (W.alloc (.cells ZA 36))) := hid (fun W => by rw [← HZA.out]; exact allocAtt_eq W)
  have HSZA : Hid (ZA.size = 101) := hid (by rw [← HZA.out]; exact atc_size atZ_ok)
  have HN := hid (And.intro hn1 hn2)
  clear h hp g hn1 hn2
  go_enter Tryz.func24, Tryz.ntmps24
  go_wp2_with fail
  refine HM.out.mono ?_
  rintro e w1 ⟨rfl, rfl⟩
  go_wp2_with fail
  go_loopw [7, 8] (fun s7 s8 wr => ∃ (i : Nat) (A7 : Option Addr) (n7 c7 : Nat), 1 ≤ i ∧ i ≤ N + 1 ∧ s8 = .int .i64 i ∧ s7 = .slice A7 n7 c7 ∧ Hid (FlSt w wr (.slice A7 n7 c7) (lowG (thoseG L k v) i))) (fun _ s8 _ => N + 1 - (intOf s8).toNat)
  case atStart => exact ⟨1, none, 0, 0, Nat.le_refl _, by omega, rfl, rfl, hid ⟨by rw [show ((1 : Nat) : Int) = 1 from rfl, lowG_start (fun a ha => (HBO.out a ha).1)]; exact OwnE.nil _ _, Below.refl _ _⟩⟩
  case round =>
    obtain ⟨i, A7, n7, c7, hi1, hi, rfl, rfl, HF⟩ := hrel
    obtain ⟨k0, k1, hlk⟩ := HT.out wr HF.out.bel
    by_cases hlt : i ≤ N
    · have hlt' : (i : Int) ≤ (N : Int) := by omega
      have hlk1 := hlk (i : Int)
      have HHK := hid (show i ≤ N from hlt)
      have HWI : Hid (wrap64 ((i : Int) + 1) = (i : Int) + 1) := hid (by have := HN.out; unfold wrap64; omega)
      have hwi := HWI.out
      have hal := HALA.out wr
      have HML : Hid ((lowG (thoseG L k v) i).length ≤ 200) := hid (Nat.le_trans (List.length_filter_le _ _) HL.out)
      clear hlk hlt hi
      cases hg : getG L v k (i : Int) with
      | none =>
        have HE : Hid (lowG (thoseG L k v) ((i : Int) + 1) = lowG (thoseG L k v) i) := hid (lowG_none (fun a ha e => getG_none.1 hg a (those_mem.1 ha).1 ⟨(those_mem.1 ha).2.2, (those_mem.1 ha).2.1, e⟩))
        rw [hg] at hlk1
        unfold lookV at hlk1
        simp only at hlk1
        rw [HZA.out] at hlk1
        have hst : storeAtt (.pointer (some ⟨wr.heap.size, 0, none⟩)) (.agg ZA) (wr.alloc (.cells ZA 36)) = .ok .skip (wr.alloc (.cells ZA 36)) := by
          rw [storeAtt_eq (heap_alloc_new wr _) HSZA.out HSZA.out (by rw [← HZA.out]; exact atc_one _)]
          exact congrArg (fun W => Result.ok Next.skip W) (setCt_alloc wr _ _ ZA)
        have HF2 := hid (HF.out.below ((Below.refl wr.heap.size wr).alloc (Nat.le_refl _) (.cells ZA 36)))
        clear hg
        go_wp2_with fail
        go_roundw
        case rel => exact ⟨i + 1, _, _, _, by omega, by have := HHK.out; omega, by first | go_num | (rw [HWI.out]; rfl), rfl, by rw [show ((i + 1 : Nat) : Int) = (i : Int) + 1 from by omega, HE.out]; exact HF2⟩
        case measure => rw [hwi]; simp only [intOf]; have := HHK.out; omega
      | some a =>
        obtain ⟨hm1, hm2⟩ := getG_those hg
        have HE : Hid (lowG (thoseG L k v) ((i : Int) + 1) = lowG (thoseG L k v) i ++ [a]) := hid (lowG_some HR.out hm1 hm2)
        have HXO := hid (HOK.out a (those_mem.1 hm1).1)
        rw [hg] at hlk1
        unfold lookV at hlk1
        simp only at hlk1
        obtain ⟨G, HG⟩ : ∃ C : Array Value, Hid (atc a = C) := ⟨_, hid rfl⟩
        have HGS : Hid (G.size = 101 ∧ G.all (·.oneCell') = true) := hid (by rw [← HG.out]; exact ⟨atc_size HXO.out, atc_one _⟩)
        rw [HG.out] at hlk1
        have hst : storeAtt (.pointer (some ⟨wr.heap.size, 0, none⟩)) (.agg G) (wr.alloc (.cells ZA 36)) = .ok .skip (wr.alloc (.cells G 36)) := by
          rw [storeAtt_eq (heap_alloc_new wr _) HSZA.out HGS.out.1 HGS.out.2]
          exact congrArg (fun W => Result.ok Next.skip W) (setCt_alloc wr _ _ G)
        obtain ⟨M, HMq⟩ : ∃ q : List AtM, Hid (lowG (thoseG L k v) i = q) := ⟨_, hid rfl⟩
        rw [HMq.out] at HF HE HML
        clear hg hm1 hm2
        go_upto_region 8 with (fail)
        have hr1 := heap_alloc_new wr (.cells G 36)
        have HF2 := hid (HF.out.below ((Below.refl wr.heap.size wr).alloc (Nat.le_refl _) (.cells G 36)))
        clear hlk1 hst hal k0 k1
        generalize (wr.alloc (.cells G 36)) = w2 at *
        have hld : loadAtt (.pointer (some ⟨wr.heap.size, 0, none⟩)) w2 = .ok (.value (.agg G)) w2 := loadAtt_row hr1 HGS.out.1
        generalize wr.heap.size = gx at *
        have hsl : sliceAt1 (.agg G) w2 = .ok (.value (.slice (some ⟨w2.heap.size, 0, none⟩) 1 1)) (w2.alloc (.cells G 36)) := by rw [← HG.out]; exact sliceAt1_eq a HXO.out w2
        have HSGK : Hid (∀ u ∈ [a], u.Ok) := hid (fun u hu => by obtain rfl := List.mem_singleton.1 hu; exact HXO.out)
        have HS4 := hid (HF2.out.below ((Below.refl w2.heap.size w2).alloc (Nat.le_refl _) (.cells G 36)))
        have HEL : Hid (Els atl 101 (w2.alloc (.cells G 36)) (.slice (some ⟨w2.heap.size, 0, none⟩) 1 1) [a]) := hid (els_one w2 a G 36 HG.out)
        have HLN2 : Hid (M.length + [a].length ≤ 1000000) := hid (by have := HML.out; simp only [List.length_cons, List.length_nil]; omega)
        clear hr1
        go_wp2_with (at_builtin; go_loud (refine eltAt.wpList_append rfl (.tmp 35) (.tmp 37) rfl rfl rfl HSGK.out HS4.out.own HEL.out HLN2.out HS4.out.bel.size ?_; intro v5 w5 ho5 hg5 hv5; have HS5 := hid (HS4.out.app ho5 hg5); obtain ⟨A5, n5, c5, rfl⟩ : ∃ A n c, v5 = .slice A n c := (by obtain ⟨A, c, e⟩ := ho5.shape; exact ⟨_, _, _, e⟩); clear ho5 hg5 hv5 hld hsl))
        go_roundw
        case rel => exact ⟨i + 1, _, _, _, by omega, by have := HHK.out; omega, by first | go_num | (rw [HWI.out]; rfl), rfl, by rw [show ((i + 1 : Nat) : Int) = (i : Int) + 1 from by omega, HE.out]; exact HS5⟩
        case measure => rw [hwi]; simp only [intOf]; have := HHK.out; omega
    · have hlt' : ¬ (i : Int) ≤ (N : Int) := by omega
      have HE : Hid (lowG (thoseG L k v) i = thoseG L k v) := hid (lowG_all (fun a ha => by have := (HBO.out a ha).2; omega))
      rw [HE.out] at HF
      clear hlt hi hlk
      go_wp2_with fail
      go_ret
      exact ⟨_, rfl, HF.out.own, HF.out.bel⟩
theorem gOf_no {w : World} {v0 : Value} (h : NoGth w v0) (k v : Int) : Calls Tryz.prog 24 #[v0, .int .i64 k, .int .i64 v] w fun e w' => e = .returned (.slice none 0 0) ∧ w = w' := by
  have HM := hid (gMade_no h)
  clear h
  go_enter Tryz.func24, Tryz.ntmps24
  go_wp2_with fail
  refine HM.out.mono ?_
  rintro e w1 ⟨rfl, rfl⟩
  go_wp2_with fail
  go_ret
  exact ⟨rfl, rfl⟩
theorem gNews_any {w : World} {b m : Nat} {n : Int} {L : List AtM} (h : Gth w b m n L) (g : OkG n L) (v : Int) :
    Calls Tryz.prog 13 #[.pointer (some ⟨b, 0, none⟩), .int .i64 v] w fun e w' => ∃ x, e = .returned x ∧ OwnE atl 101 36 w.heap.size w' x (thoseG L 1 v) ∧ Below w.heap.size w w' := by
  have HO := hid (gOf_any h g 1 v)
  clear h g
  go_enter Tryz.func13, Tryz.ntmps13
  go_wp2_with fail
  refine HO.out.mono ?_
  rintro e w1 ⟨x, rfl, ho, hb⟩
  go_wp2_with fail
  go_ret
  exact ⟨x, rfl, ho, hb⟩
theorem gNews_no {w : World} {v0 : Value} (h : NoGth w v0) (v : Int) : Calls Tryz.prog 13 #[v0, .int .i64 v] w fun e w' => e = .returned (.slice none 0 0) ∧ w = w' := by
  have HO := hid (gOf_no h 1 v)
  clear h
  go_enter Tryz.func13, Tryz.ntmps13
  go_wp2_with fail
  refine HO.out.mono ?_
  rintro e w1 ⟨rfl, rfl⟩
  go_wp2_with fail
  go_ret
  exact ⟨rfl, rfl⟩
end Go.Proofs.YtpnejoglkmfleaaGreatDoor
