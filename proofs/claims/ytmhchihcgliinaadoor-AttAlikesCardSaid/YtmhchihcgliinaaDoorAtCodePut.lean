/-
  att.Put: bytes with an attestation's behind.
-/
import Derived.Test.YtmhchihcgliinaaDoorAtCodeMay
import Derived.Test.YtmhchihcgliinaaDoorAtCodeTagged
import Derived.Test.YtmhchihcgliinaaDoorBs7
namespace Go.Proofs.YtmhchihcgliinaaDoor
set_option maxRecDepth 20000
open Go.RowKit
attribute [local go_sem ↓] exec_load_att

theorem concat4 (u v x y : Value) (l m n o : List UInt8) (g c : Nat) (w : World) (hg : g < w.heap.size) (c0 : w.cell? ⟨g, 0, none⟩ = some u) (c1 : w.cell? ⟨g, 1, none⟩ = some v) (c2 : w.cell? ⟨g, 2, none⟩ = some x) (c3 : w.cell? ⟨g, 3, none⟩ = some y)
    (hu : Byt w u l) (hv : Byt w v m) (hx : Byt w x n) (hy : Byt w y o) {L : List UInt8} (hL : l ++ (m ++ (n ++ o)) = L) (hs : L.length ≤ 1099511627776) :
    Calls Tryd.prog 19 #[.slice (some ⟨g, 0, none⟩) 4 c] w fun e w' => ∃ x, e = .returned x ∧ Own w.heap.size w' x L ∧ Below w.heap.size w w' := by
  have e : ([l, m, n, o] : List (List UInt8)).flatten = L := by rw [← hL]; simp
  have h := concat_any [l, m, n, o] (fun j => if j = 0 then u else if j = 1 then v else if j = 2 then x else y) g 4 c w rfl hg (fun j hj => by
    match j, hj with
    | 0, _ => exact c0
    | 1, _ => exact c1
    | 2, _ => exact c2
    | 3, _ => exact c3) (fun j hj => by
    match j, hj with
    | 0, _ => exact hu
    | 1, _ => exact hv
    | 2, _ => exact hx
    | 3, _ => exact hy) (by rw [e]; exact hs) (by omega)
  rw [e] at h
  exact h
theorem byt_range {w : World} {g o n : Nat} {l : List UInt8} (h : w.rangeAt g o (bcells l)) (hg : g < w.heap.size) (hn : l.length = n) (hm : n ≤ maxLen) : Byt w (.slice (some ⟨g, o, none⟩) n n) l := by
  subst hn
  refine ⟨_, _, rfl, Nat.le_refl _, hm, fun _ => ⟨g, o, rfl, hg, fun j hj => ?_⟩⟩
  exact h j _ (by simp [bcells, hj])

set_option maxHeartbeats 3200000 in
theorem atPut_ok : AtPutOk := by
  intro v l a w hv hl ho
  obtain ⟨m, HM⟩ : ∃ m : Bool, Hid (mayA a = m) := ⟨_, hid rfl⟩
  have HPT : Hid (putA l a = if m = true then l ++ bytesA a else l) := hid (by unfold putA; rw [HM.out])
  have HMA : Hid (∀ W, Calls Tryd.prog 18 #[.agg (atc a)] W fun e w' => e = .returned (.int .i64 (if m = true then 0 else 1)) ∧ Below W.heap.size W w') := hid (fun W => by
    have := atCheck_ok a W ho
    rw [HM.out] at this
    exact this)
  have HTD : Hid (m = true → ∀ W, Calls Tryd.prog 21 #[.agg (atc a)] W fun e w' => ∃ x, e = .returned x ∧ Own W.heap.size w' x (taggedA a) ∧ Below W.heap.size W w') := hid (fun h W => attagged_any a W ho (HM.out.trans h))
  have HNU : Hid (m = true → ∀ W, Calls Tryd.prog 20 #[.slice none 0 0, .int .i64 a.bo] W fun e w' => ∃ x, e = .returned x ∧ Own W.heap.size w' x (dg a.bo.toNat) ∧ Below W.heap.size W w') := hid (fun h W => by
    obtain ⟨j1, j2, _⟩ := mayA_iff (HM.out.trans h)
    have := atnum_any (.slice none 0 0) [] a.bo W (Byt.nil _) (by omega) (by omega) (by decide)
    simpa using this)
  have HLEN : Hid (m = true → (bytesA a).length ≤ 150) := hid (fun h => bytesA_len ho (HM.out.trans h))
  obtain ⟨L, HL⟩ : ∃ x : List UInt8, Hid (taggedA a = x) := ⟨_, hid rfl⟩
  obtain ⟨U, HU⟩ : ∃ x : List UInt8, Hid (dg a.bo.toNat = x) := ⟨_, hid rfl⟩
  have HBY : Hid (bytesA a = U ++ (L ++ a.tg)) := hid (by unfold bytesA; rw [HL.out, HU.out])
  have hb0 : Below w.heap.size w (w.alloc (.cells (atc a) 25)) := (Below.refl _ _).alloc (Nat.le_refl _) _
  have hA := BoxA.new w a
  obtain ⟨C, HC⟩ : ∃ C : Array Value, Hid (atc a = C) := ⟨_, hid rfl⟩
  rw [HL.out, HC.out] at HTD
  rw [HU.out] at HNU
  rw [HC.out] at HMA hb0 hA
  rw [HC.out]
  have HTL : Hid (a.tg.length = 32) := hid ho.tg
  have HX : Hid (∀ W : World, BoxA W w.heap.size a → W.cell? ⟨w.heap.size, 0, none⟩ = some (.int .i64 a.bo) ∧ loadAtt (.pointer (some ⟨w.heap.size, 0, none⟩)) W = .ok (.value (.agg C)) W) := hid (fun W h => by
    have h1 := loadAtt_eq h ho
    rw [HC.out] at h1
    exact ⟨h.cells.1, h1⟩)
  have HTG : Hid (∀ W : World, BoxA W w.heap.size a → W.rangeAt w.heap.size 69 (bcells a.tg)) := hid (fun W h => h.tag ho)
  have hv0 := hv.below hb0
  have HL0 := hid hl
  clear ho HL HU hv hl
  go_enter Tryd.func7, Tryd.ntmps7
  go_upto_region 1 with (fail)
  generalize (w.alloc (.cells C 25)) = w0 at *
  have l0 := (HX.out w0 hA).2
  have HA := hid hA
  have HV := hid hv0
  clear hA hv0
  go_wp2_with fail
  refine (HMA.out w0).mono ?_
  rintro e w1 ⟨rfl, hb1⟩
  have hv1 := HV.out.below hb1
  have HA1 := hid (HA.out.keep hb1)
  have HB1 := hid (hb0.trans (hb1.mono hb0.size))
  obtain ⟨A, c, rfl⟩ := hv1.shape
  clear l0 HA HV hb0 hb1
  cases m with
  | false =>
    simp only [Bool.false_eq_true, if_false]
    go_wp2_with fail
    refine (concat1 _ l w1.heap.size _ (w1.alloc (.cells #[.slice A l.length c] 26)) (by simp) (by simp) (hv1.alloc _) (by have := HL0.out; omega)).mono ?_
    rintro e w2 ⟨x, rfl, ho2, hb2⟩
    go_wp2_with fail
    go_ret
    refine ⟨x, rfl, by rw [HPT.out]; exact ho2.byt, ?_⟩
    exact (HB1.out.alloc HB1.out.size _).trans (hb2.mono (by have := HB1.out.size; simp; omega))
  | true =>
    simp only [if_true]
    go_upto_region 3 with (fail)
    have HXW : Hid (∀ W, Below w1.heap.size w1 W → W.cell? ⟨w.heap.size, 0, none⟩ = some (.int .i64 a.bo) ∧ loadAtt (.pointer (some ⟨w.heap.size, 0, none⟩)) W = .ok (.value (.agg C)) W) := hid (fun W h => HX.out W (HA1.out.keep h))
    have hbd : Below w1.heap.size w1 w1.drew := (Below.refl _ _).drew
    refine wp_region_held_drew (S := fun W => W.cell? ⟨w.heap.size, 0, none⟩ = some (.int .i64 a.bo) ∧ loadAtt (.pointer (some ⟨w.heap.size, 0, none⟩)) W = .ok (.value (.agg C)) W) (by kernel_rfl) (HXW.out _ hbd) (fun hHeld => ?_)
    refine' take_on (i := 0) (v := _) rfl (by kernel_rfl) (by kernel_rfl) (by kernel_rfl) (fun _ _ _ h => h) (by rfl) ?_ (by assumption) ?_
    rotate_left
    · (intro W hW; (try dsimp only at hW); go_simp; first | done | with_reducible rfl)
    try simp only [Act.put, List.setIfInBounds_toArray, List.set_cons_zero, List.set_cons_succ]
    refine' take_on (i := 1) (v := _) rfl (by kernel_rfl) (by kernel_rfl) (by kernel_rfl) (fun _ _ _ h => h) (by rfl) ?_ (by assumption) ?_
    rotate_left
    · (intro W hW; (try dsimp only at hW); go_simp; first | done | with_reducible rfl)
    try simp only [Act.put, List.setIfInBounds_toArray, List.set_cons_zero, List.set_cons_succ]
    refine' take_on (i := 2) (v := _) rfl (by kernel_rfl) (by kernel_rfl) (by kernel_rfl) (fun _ _ _ h => h) (by rfl) ?_ (by assumption) ?_
    rotate_left
    · (intro W hW; (try dsimp only at hW); obtain ⟨hW1, hW2⟩ := hW; go_simp; first | done | with_reducible rfl)
    try simp only [Act.put, List.setIfInBounds_toArray, List.set_cons_zero, List.set_cons_succ]
    refine' take_on (i := 4) (v := _) rfl (by kernel_rfl) (by kernel_rfl) (by kernel_rfl) (fun _ _ _ h => h) (by rfl) (fun W hW => hW.2) (by assumption) ?_
    try simp only [Act.put, List.setIfInBounds_toArray, List.set_cons_zero, List.set_cons_succ]
    refine' take_on (i := 6) (v := _) rfl (by kernel_rfl) (by kernel_rfl) (by kernel_rfl) (fun _ _ _ h => h) (by rfl) ?_ (by assumption) ?_
    rotate_left
    · (intro W hW; (try dsimp only at hW); go_simp; first | done | with_reducible rfl)
    try simp only [Act.put, List.setIfInBounds_toArray, List.set_cons_zero, List.set_cons_succ]
    refine' take_on (i := 7) (v := _) rfl (by kernel_rfl) (by kernel_rfl) (by kernel_rfl) (fun _ _ _ h => h) (by rfl) ?_ (by assumption) ?_
    rotate_left
    · (intro W hW; (try dsimp only at hW); go_simp; first | done | with_reducible rfl)
    try simp only [Act.put, List.setIfInBounds_toArray, List.set_cons_zero, List.set_cons_succ]
    refine call_on (i := 3) rfl (by kernel_rfl) (by rfl) (fun K hK => ?_)
    go_simp
    refine (HNU.out rfl w1.drew).mono ?_
    rintro e w2 ⟨v2, rfl, ho2, hb2'⟩
    have hb2 := hbd.trans hb2'
    obtain ⟨A2, c2, rfl⟩ := ho2.byt.shape
    refine hK.out _ _ (HXW.out _ hb2) (fun hHeld => ?_)
    clear hK K
    try simp only [Act.put, List.setIfInBounds_toArray, List.set_cons_zero, List.set_cons_succ]
    refine call_on (i := 5) rfl (by kernel_rfl) (by rfl) (fun K hK => ?_)
    go_simp
    refine (HTD.out rfl w2).mono ?_
    rintro e w3 ⟨v3, rfl, ho3, hb3'⟩
    have hb3 := hb2.trans (hb3'.mono hb2.size)
    have hv3 := ho3.byt
    obtain ⟨A3, c3, rfl⟩ := hv3.shape
    have hu3 := ho2.byt.below hb3'
    have hl3 := hv1.below hb3
    have hg3 := byt_range (HTG.out w3 (HA1.out.keep hb3)) (HA1.out.keep hb3).lt HTL.out (by unfold maxLen; omega)
    refine hK.out _ _ (HXW.out _ hb3) (fun hHeld => ?_)
    clear hK K
    try simp only [Act.put, List.setIfInBounds_toArray, List.set_cons_zero, List.set_cons_succ]
    have hb4 : Below w1.heap.size w1 (w3.alloc (.cells #[.slice A l.length c, .slice A2 U.length c2, .slice A3 L.length c3, .slice (some ⟨w.heap.size, 69, none⟩) 32 32] 26)) := hb3.alloc hb3.size _
    refine call_on (i := 8) rfl (by kernel_rfl) (by rfl) (fun K hK => ?_)
    go_simp
    refine hK.out _ _ (HXW.out _ hb4) (fun hHeld => ?_)
    clear hK K
    try simp only [Act.put, List.setIfInBounds_toArray, List.set_cons_zero, List.set_cons_succ]
    refine call_on (i := 9) rfl (by kernel_rfl) (by rfl) (fun K hK => ?_)
    go_simp
    refine (concat4 _ _ _ _ l U L a.tg w3.heap.size 4 (w3.alloc (.cells #[.slice A l.length c, .slice A2 U.length c2, .slice A3 L.length c3, .slice (some ⟨w.heap.size, 69, none⟩) 32 32] 26)) (by simp) (by simp) (by simp) (by simp) (by simp) (hl3.alloc _) (hu3.alloc _) (hv3.alloc _) (hg3.alloc _) (L := l ++ bytesA a) (by rw [HBY.out]) (by have := HL0.out; have := HLEN.out rfl; rw [List.length_append]; omega)).mono ?_
    rintro e w5 ⟨x5, rfl, ho5, hb5'⟩
    have hb5 := hb4.trans (hb5'.mono hb4.size)
    refine hK.out _ _ (HXW.out _ hb5) (fun hHeld => ?_)
    clear hK K
    try simp only [Act.put, List.setIfInBounds_toArray, List.set_cons_zero, List.set_cons_succ]
    refine' take_on (i := 10) (v := _) rfl (by kernel_rfl) (by kernel_rfl) (by kernel_rfl) (fun _ _ _ h => h) (by rfl) ?_ (by assumption) ?_
    rotate_left
    · (intro W hW; (try dsimp only at hW); go_simp; first | done | with_reducible rfl)
    try simp only [Act.put, List.setIfInBounds_toArray, List.set_cons_zero, List.set_cons_succ]
    refine wpAnyH_done (by kernel_rfl) ?_ _
    go_wp2_with fail
    go_ret
    exact ⟨x5, rfl, by rw [HPT.out]; exact ho5.byt, HB1.out.trans (hb5.mono HB1.out.size)⟩
end Go.Proofs.YtmhchihcgliinaaDoor
