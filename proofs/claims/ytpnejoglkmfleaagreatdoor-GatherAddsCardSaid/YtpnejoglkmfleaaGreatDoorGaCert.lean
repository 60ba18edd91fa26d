/-
  tithingref16.Cert: the certificate of those that agree. Printed with genga.py.
-/
import Derived.Test.YtpnejoglkmfleaaGreatDoorGaRef
namespace Go.Proofs.YtpnejoglkmfleaaGreatDoor
set_option maxRecDepth 20000
open Go.RowKit
attribute [local go_sem ↓] exec_load_gv exec_alloc_gv exec_store_gv exec_load_att exec_alloc_att exec_store_att exec_ne_att exec_slice_at1 exec_load_ct exec_alloc_ct exec_store_ct exec_build_ct
theorem results_gc {fn : Func} {q s : Tmp} (h : fn.results = #[.cell q 40, .tmp s]) (tmps : Array Value) (w : World) (g2 : Nat) (t2 : TypeId) (ys : Array Value) (v : Value)
    (hq : tmps.getD q undef = .pointer (some ⟨g2, 0, none⟩)) (hv : tmps.getD s undef = v) (h2 : w.heap[g2]? = some (.cells ys t2 (0, 0))) (hy : ys.size = 102) :
    (results fn tmps).run Tryz.prog w = .ok (.tuple #[.agg ys, v]) w := by
  have hq' : tmps[q]?.getD undef = .pointer (some ⟨g2, 0, none⟩) := by simpa using hq
  have hv' : tmps[s]?.getD undef = v := by simpa using hv
  have r2 := run_loadVar_row (P := Tryz.prog) w g2 t2 40 ys (0, 0) _ h2 under_ct rfl (by rw [size_ct, hy])
  simp [results, h, hq', hv', asAddr, r2]
def agrG (n : Int) (T : List AtM) (a : AtM) : Bool := decide ((makeC n (T.filter (alikeA a))).2 = 0)
theorem certG_no {n : Int} {L : List AtM} {k v : Int} (h : ∀ a ∈ thoseG L k v, agrG n (thoseG L k v) a = false) : certG n L k v = (ctZ, false) := by
  unfold certG
  have : (thoseG L k v).find? (fun a => decide ((makeC n ((thoseG L k v).filter (alikeA a))).2 = 0)) = none := by
    rw [List.find?_eq_none]
    intro a ha
    have := h a ha
    unfold agrG at this
    rw [this]
    decide
  rw [this]
theorem certG_yes {n : Int} {L : List AtM} {k v : Int} {i : Nat} (hi : i < (thoseG L k v).length) (h0 : ∀ j (h : j < (thoseG L k v).length), j < i → agrG n (thoseG L k v) (thoseG L k v)[j] = false) (h1 : agrG n (thoseG L k v) (thoseG L k v)[i] = true) : certG n L k v = ((makeC n ((thoseG L k v).filter (alikeA (thoseG L k v)[i]))).1, true) := by
  unfold certG
  have : (thoseG L k v).find? (fun a => decide ((makeC n ((thoseG L k v).filter (alikeA a))).2 = 0)) = some (thoseG L k v)[i] := by
    rw [List.find?_eq_some_iff_getElem]
    exact ⟨h1, i, hi, rfl, fun j hj => by
      have := h0 j (by omega) hj
      unfold agrG at this
      rw [this]
      decide⟩
  rw [this]
set_option maxHeartbeats 12800000 in
theorem refCert16_new (n : Int) (s : Value) (L : List AtM) (k v : Int) (w : World) (hs : Els atl 101 w s L) (ho : ∀ a ∈ L, a.Ok) (hl : L.length ≤ 1000) (hK : Kst 1 w) :
    Calls Tryz.prog 10 #[.agg #[.int .i64 n, s], .int .i64 k, .int .i64 v] w fun e w' => ∃ s, e = .returned (.tuple #[.agg (ctc (certG n L k v).1 s), .bool (certG n L k v).2]) ∧ (certG n L k v).1.Ok ∧ OwnE scl 33 66 w.heap.size w' s (certG n L k v).1.sg ∧ Below w.heap.size w w' := by
  have HTH : Hid (∀ W, Below w.heap.size w W → Calls Tryz.prog 14 #[.agg #[.int .i64 n, s], .int .i64 k, .int .i64 v] W fun e w' => ∃ x, e = .returned x ∧ OwnE atl 101 36 W.heap.size w' x (thoseG L k v) ∧ Below W.heap.size W w') := hid (fun W h => refThose16_any n s L k v W (hs.below h) ho hl)
  have HKK := hid hK
  obtain ⟨A, c, rfl⟩ := hs.shape
  have HTO : Hid (∀ a ∈ thoseG L k v, a.Ok) := hid (fun a ha => ho a ((List.mem_filter.1 ha).1))
  have HTL : Hid ((thoseG L k v).length ≤ 1000) := hid (Nat.le_trans (List.length_filter_le _ _) hl)
  have HCN : Hid ((∀ a ∈ thoseG L k v, agrG n (thoseG L k v) a = false) → certG n L k v = (ctZ, false)) := hid certG_no
  have HCY : Hid (∀ i (hi : i < (thoseG L k v).length), (∀ j (h : j < (thoseG L k v).length), j < i → agrG n (thoseG L k v) (thoseG L k v)[j] = false) → agrG n (thoseG L k v) (thoseG L k v)[i] = true → certG n L k v = ((makeC n ((thoseG L k v).filter (alikeA (thoseG L k v)[i]))).1, true)) := hid (fun i hi h0 h1 => certG_yes hi h0 h1)
  obtain ⟨Tq, HT⟩ : ∃ q : List AtM, Hid (thoseG L k v = q) := ⟨_, hid rfl⟩
  obtain ⟨cg, HCG⟩ : ∃ q : CtM × Bool, Hid (certG n L k v = q) := ⟨_, hid rfl⟩
  have HCY2 : Hid (∀ i (hi : i < Tq.length), (∀ j (h : j < Tq.length), j < i → agrG n Tq Tq[j] = false) → agrG n Tq Tq[i] = true → cg = ((makeC n (Tq.filter (alikeA Tq[i]))).1, true)) := hid (by
    have h1 := HT.out
    have h2 := HCG.out
    have h := HCY.out
    subst h1
    rw [h2] at h
    exact h)
  rw [HT.out] at HTH HTO HTL HCN
  rw [HCG.out] at HCN ⊢
  obtain ⟨N, HN⟩ : ∃ n : Nat, Hid (L.length = n) := ⟨_, hid rfl⟩
  obtain ⟨NT, HNT⟩ : ∃ n : Nat, Hid (Tq.length = n) := ⟨_, hid rfl⟩
  rw [HN.out] at HTH ⊢
  rw [HNT.out] at HTL
  obtain ⟨Z, HZ⟩ : ∃ C : Array Value, Hid (ctc ctZ (.slice none 0 0) = C) := ⟨_, hid rfl⟩
  have HZS : Hid (Z.size = 102 ∧ Z.all (·.oneCell') = true) := hid (by rw [← HZ.out]; exact ⟨ctc_size _ ctZ_ok.att, ctc_one (c := ctZ) (w := w) (Els.nil w)⟩)
  have HAL : Hid (∀ W, allocCt W = .ok (.value (.pointer (some ⟨W.heap.size, 0, none⟩))) (W.alloc (.cells Z 40))) := hid (fun W => by rw [← HZ.out]; exact allocCt_eq W)
  have HBZ : Hid (∀ W, buildCt W = .ok (.value (.agg Z)) W) := hid (fun W => by rw [← HZ.out]; exact buildCt_eq W)
  have hr := heap_alloc_new w (.cells #[.int .i64 n, .slice A N c] 30)
  have hal : allocCt (w.alloc (.cells #[.int .i64 n, .slice A N c] 30)) = .ok (.value (.pointer (some ⟨w.heap.size + 1, 0, none⟩))) ((w.alloc (.cells #[.int .i64 n, .slice A N c] 30)).alloc (.cells Z 40)) := by
    have := HAL.out (w.alloc (.cells #[.int .i64 n, .slice A N c] 30))
    rwa [show (w.alloc (.cells #[.int .i64 n, .slice A N c] 30)).heap.size = w.heap.size + 1 from by simp] at this
  have hr2 := heap_alloc_new (w.alloc (.cells #[.int .i64 n, .slice A N c] 30)) (.cells Z 40)
  rw [show (w.alloc (.cells #[.int .i64 n, .slice A N c] 30)).heap.size = w.heap.size + 1 from by simp] at hr2
  have HB0 : Hid (Below w.heap.size w ((w.alloc (.cells #[.int .i64 n, .slice A N c] 30)).alloc (.cells Z 40))) := hid (((Below.refl _ _).alloc (Nat.le_refl _) _).alloc (by simp) _)
  have HR := hid ((Below.heap_alloc (w.alloc (.cells #[.int .i64 n, .slice A N c] 30)) (.cells Z 40) _ (lt_of_block hr)).trans hr)
  have HR2 := hid hr2
  clear hs ho hl hK hr hr2 HT HCG HCY
  go_enter Tryz.func10, Tryz.ntmps10
  go_upto_region 1 with (fail)
  clear hal
  generalize ((w.alloc (.cells #[.int .i64 n, .slice A N c] 30)).alloc (.cells Z 40)) = wz at *
  have hld := loadGv_row HR.out rfl
  go_wp2_with fail
  refine (HTH.out wz HB0.out).mono ?_
  rintro e w1 ⟨x8, rfl, ho8, hb1⟩
  obtain ⟨A8, c8, rfl⟩ := ho8.shape
  have HE8 := hid (ho8.els eltAt HTO.out)
  have HX1 := hid hb1
  rw [HNT.out] at HE8 ⊢
  clear ho8 hb1 hld
  have HA8 : Hid (∀ j (h : j < Tq.length), ∃ b off, A8 = some ⟨b, off, none⟩ ∧ ∀ W, Below w1.heap.size w1 W → ElG W b (off + j * 101) Tq[j]) := hid (fun j h => elG_at HE8.out HTO.out h)
  have HRW : Hid (∀ W, Below wz.heap.size wz W → Below w.heap.size w W ∧ W.cell? ⟨w.heap.size, 0, none⟩ = some (.int .i64 n) ∧ W.heap[w.heap.size + 1]? = some (.cells Z 40 (0, 0))) := hid (fun W h => ⟨HB0.out.trans (h.mono HB0.out.size), cell_blk ((h.block _ (lt_of_block HR.out)).trans HR.out) 0, (h.block _ (lt_of_block HR2.out)).trans HR2.out⟩)
  have HWZ : Hid (w.heap.size + 1 < w1.heap.size) := hid (Nat.lt_of_lt_of_le (lt_of_block HR2.out) HX1.out.size)
  go_wp2_with fail
  go_loopw [9] (fun s9 wr => ∃ i : Nat, i ≤ NT ∧ s9 = .int .i64 i ∧ Hid ((∀ j (h : j < Tq.length), j < i → agrG n Tq Tq[j] = false) ∧ Below w1.heap.size w1 wr)) (fun s9 _ => NT - (intOf s9).toNat)
  case atStart => exact ⟨0, Nat.zero_le _, rfl, hid ⟨fun j _ h => absurd h (by omega), Below.refl _ _⟩⟩
  case round =>
    obtain ⟨i, hi, rfl, HREL⟩ := hrel
    obtain ⟨wo, rfl⟩ : ∃ q : World, q = wr := ⟨wr, rfl⟩
    by_cases hlt : i < NT
    · have hlt' : (i : Int) < (NT : Int) := by omega
      have HIL : Hid (i < Tq.length) := hid (by rw [HNT.out]; exact hlt)
      obtain ⟨b1, o1, rfl, h1⟩ := HA8.out i HIL.out
      have H1 := hid h1
      have HXO := hid (HTO.out _ (List.getElem_mem HIL.out))
      have HYI := hid (HCY2.out i HIL.out HREL.out.1)
      have HNI : Hid (agrG n Tq Tq[i] = false → ∀ j (h : j < Tq.length), j < i + 1 → agrG n Tq Tq[j] = false) := hid (fun e j h hj => by
        by_cases hji : j = i
        · subst hji
          exact e
        · exact HREL.out.1 j h (by omega))
      generalize Tq[i] = x at *
      have HHK := hid (show i < NT from hlt)
      have HWI : Hid (wrap64 ((i : Int) + 1) = (i : Int) + 1) := hid (by have := HTL.out; unfold wrap64; omega)
      have HBR := hid HREL.out.2
      have HF0 := hid (FlSt.fresh wo)
      clear h1 hlt hi HREL
      go_upto_region 6 with (fail)
      have HLR : Hid (w1.heap.size ≤ wo.heap.size) := hid HBR.out.size
      generalize (wo.alloc (.cells #[] 36)) = w2 at *
      generalize hg2 : wo.heap.size = g2 at HF0 ⊢
      clear hg2
      go_wp2_with fail
      go_loopw [10, 11] (fun s10 s11 wr => ∃ (k2 : Nat) (A7 : Option Addr) (n7 c7 : Nat), k2 ≤ NT ∧ s11 = .int .i64 k2 ∧ s10 = .slice A7 n7 c7 ∧ Hid (FlSt wo wr (.slice A7 n7 c7) ((Tq.take k2).filter (alikeA x)))) (fun _ s11 _ => NT - (intOf s11).toNat)
      case atStart => exact ⟨0, _, _, _, Nat.zero_le _, rfl, rfl, HF0⟩
      case round =>
        obtain ⟨k2, A7, n7, c7, hk2, rfl, rfl, HFL⟩ := hrel
        have HBQ : Hid (Below w1.heap.size w1 wr) := hid (HBR.out.trans (HFL.out.bel.mono HLR.out))
        by_cases hlt2 : k2 < NT
        · have hlt2' : (k2 : Int) < (NT : Int) := by omega
          have hkL : k2 < Tq.length := by rw [HNT.out]; exact hlt2
          have hb2 : ∀ W, Below w1.heap.size w1 W → ElG W b1 (o1 + k2 * 101) Tq[k2] := fun W hW => by
            obtain ⟨b', o', e, h⟩ := HA8.out k2 hkL
            injection e with e
            injection e with e1 e2 _
            subst e1 e2
            exact h W hW
          have HYES : Hid (alikeA x Tq[k2] = true → (Tq.take (k2 + 1)).filter (alikeA x) = (Tq.take k2).filter (alikeA x) ++ [Tq[k2]]) := hid (fun e => filter_take_yes _ hkL e)
          have HNO : Hid (alikeA x Tq[k2] = false → (Tq.take (k2 + 1)).filter (alikeA x) = (Tq.take k2).filter (alikeA x)) := hid (fun e => filter_take_no _ hkL e)
          have HYO := hid (HTO.out _ (List.getElem_mem hkL))
          have HML : Hid (((Tq.take k2).filter (alikeA x)).length ≤ 1000) := hid (Nat.le_trans (filter_take_len Tq k2 _) (by have := HTL.out; omega))
          have H2 := hid hb2
          generalize Tq[k2] = y at *
          obtain ⟨M, HM⟩ : ∃ q : List AtM, Hid ((Tq.take k2).filter (alikeA x) = q) := ⟨_, hid rfl⟩
          rw [HM.out] at HFL HYES HNO HML
          have HHK2 := hid (show k2 < NT from hlt2)
          have HWI2 : Hid (wrap64 ((k2 : Int) + 1) = (k2 : Int) + 1) := hid (by have := HTL.out; unfold wrap64; omega)
          have hwi2 := HWI2.out
          obtain ⟨q, HQ⟩ : ∃ q : Bool, Hid (alikeA x y = q) := ⟨_, hid rfl⟩
          have HAK : Hid (∀ W, Calls Tryz.prog 27 #[.agg (atc x), .agg (atc y)] W fun e w' => e = .returned (.bool (alikeA x y)) ∧ Below W.heap.size W w') := hid (fun W => refAlike_any x y W HXO.out HYO.out)
          rw [HQ.out] at HYES HNO HAK
          obtain ⟨F, HF⟩ : ∃ C : Array Value, Hid (atc x = C) := ⟨_, hid rfl⟩
          obtain ⟨G, HG⟩ : ∃ C : Array Value, Hid (atc y = C) := ⟨_, hid rfl⟩
          have HLD : Hid (∀ W, Below w1.heap.size w1 W → loadAtt (.pointer (some ⟨b1, o1 + i * 101, none⟩)) W = .ok (.value (.agg F)) W ∧ loadAtt (.pointer (some ⟨b1, o1 + k2 * 101, none⟩)) W = .ok (.value (.agg G)) W) := hid (fun W h => by
            have e1 := (H1.out W h).ld
            have e2 := (H2.out W h).ld
            rw [HF.out] at e1
            rw [HG.out] at e2
            exact ⟨e1, e2⟩)
          rw [HF.out, HG.out] at HAK
          have hsl : ∀ W, sliceAt1 (.agg G) W = .ok (.value (.slice (some ⟨W.heap.size, 0, none⟩) 1 1)) (W.alloc (.cells G 36)) := fun W => by rw [← HG.out]; exact sliceAt1_eq y HYO.out W
          clear hb2 hkL hlt2 hk2
          go_upto_region 9 with (fail)
          have HBD := hid (HBQ.out.drew)
          have HFD := hid (HFL.out.below ((Below.refl wr.heap.size wr).drew))
          refine wp_region_held_drew (S := fun W => loadAtt (.pointer (some ⟨b1, o1 + i * 101, none⟩)) W = .ok (.value (.agg F)) W ∧ loadAtt (.pointer (some ⟨b1, o1 + k2 * 101, none⟩)) W = .ok (.value (.agg G)) W) (by kernel_rfl) (HLD.out _ HBD.out) (fun hHeld => ?_)
          refine' tk (i := 0) (v := _) rfl ?_ ?_
          rotate_left
          · (intro W hW; (try dsimp only at hW); go_simp; first | done | with_reducible rfl)
          try simp only [lay]
          refine' tk (i := 1) (v := _) rfl ?_ ?_
          rotate_left
          · (intro W hW; (try dsimp only at hW); go_simp; first | done | with_reducible rfl)
          try simp only [lay]
          refine' tk (i := 2) (v := _) rfl ?_ ?_
          rotate_left
          · (intro W hW; (try dsimp only at hW); go_simp; first | done | with_reducible rfl)
          try simp only [lay]
          refine' tk (i := 3) (v := _) rfl ?_ ?_
          rotate_left
          · (intro W hW; (try dsimp only at hW); obtain ⟨hW1, hW2⟩ := hW; go_simp; first | done | with_reducible rfl)
          try simp only [lay]
          refine' tk (i := 4) (v := _) rfl ?_ ?_
          rotate_left
          · (intro W hW; (try dsimp only at hW); go_simp; first | done | with_reducible rfl)
          try simp only [lay]
          refine' tk (i := 5) (v := _) rfl ?_ ?_
          rotate_left
          · (intro W hW; (try dsimp only at hW); go_simp; first | done | with_reducible rfl)
          try simp only [lay]
          refine' tk (i := 6) (v := _) rfl ?_ ?_
          rotate_left
          · (intro W hW; (try dsimp only at hW); go_simp; first | done | with_reducible rfl)
          try simp only [lay]
          refine' tk (i := 7) (v := _) rfl ?_ ?_
          rotate_left
          · (intro W hW; (try dsimp only at hW); obtain ⟨hW1, hW2⟩ := hW; go_simp; first | done | with_reducible rfl)
          try simp only [lay]
          refine call_on (i := 8) rfl (by kernel_rfl) (by rfl) (fun K hK => ?_)
          go_simp
          refine (HAK.out wr.drew).mono ?_
          rintro e w5 ⟨rfl, hb5⟩
          have HF5 := hid (HFD.out.below hb5)
          have HB5 := hid (HBD.out.trans (hb5.mono HBD.out.size))
          clear hb5
          refine hK.out _ _ (HLD.out _ HB5.out) (fun hHeld => ?_)
          clear hK K
          try simp only [lay]
          refine wpAnyH_done (by kernel_rfl) ?_ _
          clear hHeld
          cases q with
          | true =>
            have HE := hid (HYES.out rfl)
            have l5 := (HLD.out w5 HB5.out).2
            have HSGK : Hid (∀ u ∈ [y], u.Ok) := hid (fun u hu => by obtain rfl := List.mem_singleton.1 hu; exact HYO.out)
            have HS6 := hid (HF5.out.below ((Below.refl w5.heap.size w5).alloc (Nat.le_refl _) (.cells G 36)))
            have HEL : Hid (Els atl 101 (w5.alloc (.cells G 36)) (.slice (some ⟨w5.heap.size, 0, none⟩) 1 1) [y]) := hid (els_one w5 y G 36 HG.out)
            have HLN2 : Hid (M.length + [y].length ≤ 1000000) := hid (by have := HML.out; simp only [List.length_cons, List.length_nil]; omega)
            go_upto_region 10 with (fail)
            go_wp2_with (at_builtin; go_loud (refine eltAt.wpList_append rfl (.tmp 40) (.tmp 45) rfl rfl rfl HSGK.out HS6.out.own HEL.out HLN2.out HS6.out.bel.size ?_; intro v7 w7 ho7 hg7 hv7; have HS7 := hid (HS6.out.app ho7 hg7); obtain ⟨A9, n9, c9, rfl⟩ : ∃ A n c, v7 = .slice A n c := (by obtain ⟨A, c, e⟩ := ho7.shape; exact ⟨_, _, _, e⟩); clear ho7 hg7 hv7 l5))
            go_roundw
            case rel => exact ⟨k2 + 1, _, _, _, HHK2.out, by first | go_num | (rw [HWI2.out]; rfl), rfl, by rw [HE.out]; exact HS7⟩
            case measure => exact ga_meas HHK2.out hwi2
          | false =>
            have HE := hid (HNO.out rfl)
            clear hsl
            go_wp2_with fail
            go_roundw
            case rel => exact ⟨k2 + 1, _, _, _, HHK2.out, by first | go_num | (rw [HWI2.out]; rfl), rfl, by rw [HE.out]; exact HF5⟩
            case measure => exact ga_meas HHK2.out hwi2
        · have hlt2' : ¬ (k2 : Int) < (NT : Int) := by omega
          have HE : Hid ((Tq.take k2).filter (alikeA x) = Tq.filter (alikeA x)) := hid (by rw [List.take_of_length_le (by rw [HNT.out]; omega)])
          rw [HE.out] at HFL
          have HEA := hid (HFL.out.own.els eltAt (fun a ha => HTO.out a ((List.mem_filter.1 ha).1)))
          have HMK := hid (refMake9_new n _ (Tq.filter (alikeA x)) wr HEA.out (fun a ha => HTO.out a ((List.mem_filter.1 ha).1)) (Nat.le_trans (List.length_filter_le _ _) (by rw [HNT.out]; exact HTL.out)) (HKK.out.below (HRW.out _ (HX1.out.trans (HBQ.out.mono HX1.out.size))).1))
          have HAG : Hid (agrG n Tq x = decide ((makeC n (Tq.filter (alikeA x))).2 = 0)) := hid rfl
          have k0 := (HRW.out _ (HX1.out.trans (HBQ.out.mono HX1.out.size))).2.1
          obtain ⟨mk, HMKQ⟩ : ∃ q : CtM × Int, Hid (makeC n (Tq.filter (alikeA x)) = q) := ⟨_, hid rfl⟩
          unfold MkPostN at HMK
          rw [HMKQ.out] at HMK HAG HYI
          clear hlt2 hk2
          go_upto_region 11 with (fail)
          clear hlt2'
          go_wp2_with fail
          refine HMK.out.mono ?_
          rintro e w6 ⟨sc, rfl, hco, hso, hb6⟩
          have HBX := hid (HBQ.out.trans (hb6.mono HBQ.out.size))
          have HCO := hid hco
          have HSC := hid (hso.els eltSg hco.sg)
          have HSO := hid hso
          obtain ⟨mc, HMC⟩ : ∃ q : Array Value, Hid (ctc mk.1 sc = q) := ⟨_, hid rfl⟩
          obtain ⟨me, HME⟩ : ∃ q : Int, Hid (mk.2 = q) := ⟨_, hid rfl⟩
          have HMS : Hid (mc.size = 102 ∧ mc.all (·.oneCell') = true) := hid (by rw [← HMC.out]; exact ⟨ctc_size _ hco.att, ctc_one HSC.out⟩)
          rw [HMC.out, HME.out]
          rw [HME.out] at HAG
          have hal := HAL.out
          have hsv := ct_var w6 HZS.out.1 HMS.out.1 HMS.out.2
          have hbv : Below w6.heap.size w6 (w6.alloc (.cells mc 40)) := (Below.refl _ _).alloc (Nat.le_refl _) _
          have HR7 := hid (heap_alloc_new w6 (.cells mc 40))
          have HB7 := hid (HBX.out.trans (hbv.mono HBX.out.size))
          have HSO7 := hid (HSO.out.below hbv)
          clear hco hso hb6 hbv k0
          go_upto_region 12 with (fail)
          clear hal hsv
          have HWQ : Hid (w.heap.size + 1 < wr.heap.size) := hid (Nat.lt_of_lt_of_le HWZ.out HBQ.out.size)
          generalize (w6.alloc (.cells mc 40)) = w7 at *
          generalize w6.heap.size = g7 at *
          by_cases e0 : me = 0
          · have HCE : Hid (cg = (mk.1, true)) := hid (HYI.out (by rw [HAG.out, e0]; rfl))
            subst e0
            obtain ⟨_, _, hr6⟩ := HRW.out _ (HX1.out.trans (HB7.out.mono HX1.out.size))
            have hld := loadCt_row HR7.out HMS.out.1
            have hst := storeCt_eq hr6 HZS.out.1 HMS.out.1 HMS.out.2
            have HRF := hid (setCt_same (C := mc) hr6)
            have HBF := hid (setCt_below (C := mc) (HRW.out _ (HX1.out.trans (HB7.out.mono HX1.out.size))).1 (show w.heap.size ≤ w.heap.size + 1 by omega))
            have HSF := hid (HSO7.out.row (g := w.heap.size + 1) (C := mc) HWQ.out)
            clear hr6
            go_wp2_with fail
            try simp only [Exit.inBlock, Exit.then]
            refine bodyPost_ret (results_gc rfl _ _ _ _ _ _ rfl rfl HRF.out HMS.out.1) rfl ?_
            rw [HCE.out]
            exact ⟨sc, by rw [HMC.out]; rfl, HCO.out, HSF.out.more (Nat.le_trans (Nat.le_succ _) (Nat.le_of_lt HWQ.out)), HBF.out⟩
          · have HNI2 := hid (HNI.out (by rw [HAG.out]; exact decide_eq_false e0))
            have hwi := HWI.out
            go_wp2_with fail
            go_roundw
            case rel => exact ⟨i + 1, HHK.out, by first | go_num | (rw [HWI.out]; rfl), hid ⟨HNI2.out, HB7.out⟩⟩
            case measure => exact ga_meas HHK.out hwi
    · have hlt' : ¬ (i : Int) < (NT : Int) := by omega
      have HCE : Hid (cg = (ctZ, false)) := hid (HCN.out (fun a ha => by
        obtain ⟨j, hj, rfl⟩ := List.getElem_of_mem ha
        exact HREL.out.1 j hj (by have := HNT.out; omega)))
      obtain ⟨hbw, _, hr6⟩ := HRW.out _ (HX1.out.trans (HREL.out.2.mono HX1.out.size))
      have hbz := HBZ.out
      have hst := storeCt_eq hr6 HZS.out.1 HZS.out.1 HZS.out.2
      have HRF := hid (setCt_same (C := Z) hr6)
      have HBF := hid (setCt_below (C := Z) hbw (show w.heap.size ≤ w.heap.size + 1 by omega))
      clear hlt hi hr6 hbw HREL
      go_wp2_with fail
      try simp only [Exit.inBlock, Exit.then]
      refine bodyPost_ret (results_gc rfl _ _ _ _ _ _ rfl rfl HRF.out HZS.out.1) rfl ?_
      rw [HCE.out]
      exact ⟨.slice none 0 0, by rw [HZ.out]; rfl, ctZ_ok, OwnE.nil _ _, HBF.out⟩
theorem refCert16_any (n : Int) (s : Value) (L : List AtM) (k v : Int) (w : World) (hs : Els atl 101 w s L) (ho : ∀ a ∈ L, a.Ok) (hl : L.length ≤ 1000) (hK : Kst 1 w) :
    Calls Tryz.prog 10 #[.agg #[.int .i64 n, s], .int .i64 k, .int .i64 v] w fun e w' => ∃ x, e = .returned (.tuple #[x, .bool (certG n L k v).2]) ∧ CtV w' x (certG n L k v).1 ∧ Below w.heap.size w w' :=
  (refCert16_new n s L k v w hs ho hl hK).mono fun _ _ ⟨_, h1, h2, h3, h4⟩ => ⟨_, h1, ⟨_, rfl, h2, h3.els eltSg h2.sg⟩, h4⟩
end Go.Proofs.YtpnejoglkmfleaaGreatDoor
