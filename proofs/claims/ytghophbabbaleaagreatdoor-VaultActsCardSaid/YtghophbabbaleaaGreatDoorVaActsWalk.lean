/-
  VaultActs: what any acts tell, and leave: the law's walk. Printed with genvwalk.py.
-/
import Derived.Test.YtghophbabbaleaaGreatDoorVaActsWords
import Derived.Test.YtghophbabbaleaaGreatDoorVaDo
namespace Go.Proofs.YtghophbabbaleaaGreatDoor
set_option maxRecDepth 20000
open Go.RowKit
attribute [local go_sem ↓] exec_load_rv exec_alloc_rv exec_store_rv exec_load_ac exec_load_tw
set_option maxHeartbeats 25600000 in
theorem lawVaultActs_any (i n : Int) (v : Value) (L : List ActM) (w : World) (hv : Els acl 40 w v L) (ho : ∀ x ∈ L, ActOk w x) (hK : Kst 1 w) (hK2 : Kst 0 w) :
    Calls Tryz.prog 3 #[.int .i64 i, .int .i64 n, v] w fun e w' => e = .returned (.bool true) ∧ Below w.heap.size w w' := by
  have HFIN : Hid (∀ W, Below w.heap.size w W → Calls Tryz.prog 7 #[] W fun e w' => e = .returned (.bool true) ∧ Below w.heap.size w w') := hid (fun W hb => (vaAwake_any W (hK.below hb)).mono fun _ _ ⟨h1, h2⟩ => ⟨h1, hb.trans (h2.mono hb.size)⟩)
  have HLT := hid (light14_any v L w hv ho)
  have HKK := hid (And.intro hK hK2)
  obtain ⟨A, d, rfl⟩ := hv.shape
  have hr := hv.at_.2.2.2
  have hmx := hv.len
  unfold maxLen at hmx
  obtain ⟨N, HN⟩ : ∃ q : Nat, Hid (L.length = q) := ⟨_, hid rfl⟩
  have HCEL : Hid (∀ k (h : k < L.length), ∃ b off, A = some ⟨b, off, none⟩ ∧ ∀ W, Below w.heap.size w W → loadAc (.pointer (some ⟨b, off + k * 40, none⟩)) W = .ok (.value (.agg (acc L[k]))) W) := hid (fun k hk => by
    obtain ⟨b, off, e, hb, hc⟩ := hr (by omega)
    exact ⟨b, off, e, fun W hW => loadAc_mid (range_kept (hc k hk) (hW.block b hb)) (ho _ (List.getElem_mem hk)).1⟩)
  have HOK : Hid (∀ k (h : k < L.length), ActOk w L[k]) := hid (fun k hk => ho _ (List.getElem_mem hk))
  rw [HN.out] at HLT hmx ⊢
  have HMX := hid hmx
  clear hv ho hr hK hK2 hmx
  go_enter Tryz.func3, Tryz.ntmps3
  go_wp2_with fail
  refine HLT.out.mono ?_
  rintro e w1 ⟨q, rfl, hq, rfl⟩
  have HREF := hid (Below.refl w.heap.size w)
  cases q with
  | false =>
    clear hq
    go_wp2_with fail
    refine (HFIN.out w HREF.out).mono ?_
    rintro e w2 ⟨rfl, hb2⟩
    go_wp2_with fail
    go_ret
    exact ⟨rfl, hb2⟩
  | true =>
  have HLA := hid (hq rfl)
  clear hq
  by_cases p : nodeB i = true ∧ 0 ≤ n ∧ n ≤ 1099511627776
  · obtain ⟨p0, p1, p2⟩ := p
    have HNW := hid (vNew_yes i n w p0 p1 p2)
    have HNG := hid (newV_good p0 p1 p2)
    have p3 : ¬ i < 1 ∧ ¬ 21 < i := by
      unfold nodeB at p0
      rw [decide_eq_true_eq] at p0
      omega
    obtain ⟨p3, p4⟩ := p3
    have p5 : ¬ n < 0 := by omega
    have p6 : ¬ 1099511627776 < n := by omega
    clear p0 p1 p2
    go_upto_region 3 with (fail)
    go_wp2_with fail
    refine HNW.out.mono ?_
    rintro e w1 ⟨b, c, a, rfl, h1, hbb, hba, hb1⟩
    have HV1 := hid h1
    have HFB := hid (And.intro hbb hba)
    have HB1 := hid hb1
    clear h1 hbb hba hb1
    go_upto_region 8 with (fail)
    clear p3 p4 p5 p6
    go_wp2_with fail
    refine (refNew14_any i n w1).mono ?_
    rintro e w2 ⟨rfl, hb2⟩
    obtain ⟨C0, HC0⟩ : ∃ q : Array Value, Hid (rvc (newV i n) (.slice none 0 0) (.slice none 0 0) (.slice none 0 0) 0 = q) := ⟨_, hid rfl⟩
    have HRC : Hid (∀ W, RvC W C0 (newV i n)) := hid (fun W => ⟨_, _, _, _, HC0.out.symm, Bys.nil W, Bys.nil W, Bys.nil W, fun h => absurd rfl h⟩)
    rw [HC0.out]
    have hal := allocRv_eq w2
    have hsv := rv_var w2 (Z := rvZ) rfl (HRC.out w2).size (HRC.out w2).one
    have hb3 := hb2.alloc hb2.size (.cells C0 32)
    have hr3 := heap_alloc_new w2 (.cells C0 32)
    have HV3 := hid (HV1.out.below hb3)
    have HR3 := hid hr3
    have HB3 := hid (HB1.out.trans (hb3.mono HB1.out.size))
    have HS2 := hid (show w.heap.size ≤ w2.heap.size from Nat.le_trans HB1.out.size hb2.size)
    clear hb2 hb3 hr3
    go_upto_region 9 with (fail)
    clear hal hsv
    generalize (w2.alloc (.cells C0 32)) = w3 at *
    generalize w2.heap.size = g9 at *
    have HFX : Hid (VxFix w b a g9) := hid ⟨HFB.out.1, HFB.out.2, HS2.out⟩
    have HST : Hid (VxRel w (w3.alloc (.cells #[] 30)) b c a g9 (.slice (some ⟨w3.heap.size, 0, none⟩) 0 0) 0) := hid (by
      have hb4 : Below w3.heap.size w3 (w3.alloc (.cells #[] 30)) := (Below.refl _ _).alloc (Nat.le_refl _) _
      have ho : OwnE ocl 2 30 w3.heap.size (w3.alloc (.cells #[] 30)) (.slice (some ⟨w3.heap.size, 0, none⟩) 0 0) [] := World.ownsRow_made w3 #[] 0 (Nat.le_refl _) (Nat.zero_le _) rfl
      exact ⟨newV i n, C0, [], ⟨HV3.out.below hb4, HNG.out, (hb4.block _ (lt_of_block HR3.out)).trans HR3.out, (HRC.out w).size, HRC.out _, ho.more HB3.out.size, fun o h => by simp at h, HB3.out.trans (hb4.mono HB3.out.size)⟩, rfl⟩)
    clear HV1 HFB HB1 HV3 HR3 HB3 HS2 HNG HNW
    go_upto_region 10 with (fail)
    generalize (w3.alloc (.cells #[] 30)) = w4 at *
    generalize w3.heap.size = g10 at *
    go_wp2_with fail
    go_loopw [10, 11] (fun s10 s11 wr => ∃ (k : Nat) (A10 : Option Addr) (n10 c10 : Nat), k ≤ N ∧ s11 = .int .i64 k ∧ s10 = .slice A10 n10 c10 ∧ Hid (VxRel w wr b c a g9 (.slice A10 n10 c10) k)) (fun _ s11 _ => N - (intOf s11).toNat)
    case atStart => exact ⟨0, _, _, _, Nat.zero_le _, rfl, rfl, HST⟩
    case round =>
      obtain ⟨k, A10, n10, c10, hk, rfl, rfl, HREL⟩ := hrel
      by_cases hlt : k < N
      · have hlt' : (k : Int) < (N : Int) := by omega
        have hkL : k < L.length := by rw [HN.out]; exact hlt
        obtain ⟨b0, off, rfl, hld⟩ := HCEL.out k hkL
        have HKO := hid (HOK.out k hkL)
        have HXL := hid (HLA.out.2 k hkL)
        have HKN := hid (show k ≤ 40 from by have := HLA.out.1; omega)
        obtain ⟨V, C, Ls, hS, hLs⟩ := HREL.out
        have HLD := hid hld
        generalize L[k] = x at *
        obtain ⟨AX, HAX⟩ : ∃ C : Array Value, Hid (acc x = C) := ⟨_, hid rfl⟩
        rw [HAX.out] at HLD
        have HHK := hid (show k < N from hlt)
        have HWI : Hid (wrap64 ((k : Int) + 1) = (k : Int) + 1) := hid (by have := HMX.out; unfold wrap64; omega)
        obtain ⟨od, hod, hl2a⟩ := hS.two
        have HOD := hid hod
        have hl2 : loadTw (.pointer (some ⟨g9, 1, none⟩)) wr = .ok (.value (.agg #[.slice od.A0 od.l0.length od.c0, .slice od.A1 od.l1.length od.c1])) wr := hl2a
        clear hl2a
        have HSS := hid hS
        have HLS := hid hLs
        have HSA := hid (hS.below ((Below.refl wr.heap.size wr).alloc (Nat.le_refl _) (.cells #[.slice od.A0 od.l0.length od.c0, .slice od.A1 od.l1.length od.c1] 30)))
        have HELA : Hid (Els ocl 2 (wr.alloc (.cells #[.slice od.A0 od.l0.length od.c0, .slice od.A1 od.l1.length od.c1] 30)) (.slice (some ⟨wr.heap.size, 0, none⟩) 1 1) [od]) := hid (els_one wr od #[.slice od.A0 od.l0.length od.c0, .slice od.A1 od.l1.length od.c1] 30 rfl)
        have HODA : Hid (OldOk (wr.alloc (.cells #[.slice od.A0 od.l0.length od.c0, .slice od.A1 od.l1.length od.c1] 30)) od) := hid (HOD.out.away (by simp) (fun k _ hk => Below.heap_alloc _ _ _ (lt_of_block hk)))
        have HLN : Hid (Ls.length + 1 ≤ 1000000) := hid (by rw [HLS.out]; have := HKN.out; omega)
        have HSZ : Hid (w.heap.size ≤ (wr.alloc (.cells #[.slice od.A0 od.l0.length od.c0, .slice od.A1 od.l1.length od.c1] 30)).heap.size) := hid HSA.out.bel.size
        clear hS hod hLs hld hkL HREL hlt hk
        go_upto_region 14 with (at_builtin; go_loud (refine eltO.wpList_append (x := .slice (some ⟨wr.heap.size, 0, none⟩) 1 1) (m := [od]) rfl (.tmp 63) (.tmp 66) rfl rfl rfl (fun _ _ => trivial) HSA.out.ow HELA.out HLN.out HSZ.out ?_; intro v5 w5 ho5 hg5 hv5; have HS5 := hid (HSA.out.grow hg5 ho5 HODA.out); obtain ⟨A5, n5, c5, rfl⟩ : ∃ A n c, v5 = .slice A n c := (by obtain ⟨A, c, e⟩ := ho5.shape; exact ⟨_, _, _, e⟩); clear ho5 hg5 hv5))
        have HL5 : Hid ((Ls ++ [od]).length = k + 1) := hid (by rw [List.length_append, HLS.out]; rfl)
        clear hl2 HSS HSA HELA HODA HSZ HOD HLS HLN
        generalize Ls ++ [od] = L5 at *
        go_cut [12, 13] (fun s12 s13 wy => Hid (VxMid w wy b c a g9 (.slice A5 n5 c5) (k + 1) s12 s13))
        case first =>
          have hbd : Below w5.heap.size w5 w5.drew := (Below.refl _ _).drew
          have HSd := hid (HS5.out.below hbd)
          have hal := allocRv_eq
          have HDO : Hid (∀ W, VxSt w W b c a g9 V C C (.slice A5 n5 c5) L5 → Calls Tryz.prog 10 #[.pointer (some ⟨b, 0, none⟩), .agg C, .agg AX, .slice A5 n5 c5] W (DoPost b c a W)) := hid (fun W h => by
            have := do14_any V C x _ L5 W h.v h.g h.rc ⟨HKO.out.1, HKO.out.2.1, HKO.out.2.2.below h.bel⟩ HXL.out (h.ow.els eltO (fun _ _ => trivial)) h.ok (fun W' t => ⟨HKK.out.1.below (t.below h.bel HFX.out.b HFX.out.a h.bel.size), HKK.out.2.below (t.below h.bel HFX.out.b HFX.out.a h.bel.size)⟩)
            rwa [HAX.out] at this)
          have HKP : Hid (∀ W V6 C6, VxSt w W b c a g9 V6 C C6 (.slice A5 n5 c5) L5 → loadRv (.pointer (some ⟨g9, 0, none⟩)) W = .ok (.value (.agg C)) W ∧ loadAc (.pointer (some ⟨b0, off + k * 40, none⟩)) W = .ok (.value (.agg AX)) W) := hid (fun W V6 C6 h => ⟨loadRv_row h.r9 h.ds, HLD.out W h.bel⟩)
          refine wp_region_held_drew (S := fun W => loadRv (.pointer (some ⟨g9, 0, none⟩)) W = .ok (.value (.agg C)) W ∧ loadAc (.pointer (some ⟨b0, off + k * 40, none⟩)) W = .ok (.value (.agg AX)) W) (by kernel_rfl) (HKP.out _ _ _ HSd.out) (fun hHeld => ?_)
          refine' tk (i := 0) (v := _) rfl ?_ ?_
          rotate_left
          · (intro W hW; (try dsimp only at hW); go_simp; first | done | with_reducible rfl)
          try simp only [lay]
          refine' tk (i := 1) (v := _) rfl ?_ ?_
          rotate_left
          · (intro W hW; (try dsimp only at hW); obtain ⟨hW1, hW2⟩ := hW; go_simp; first | done | with_reducible rfl)
          try simp only [lay]
          refine' tk (i := 2) (v := _) rfl ?_ ?_
          rotate_left
          · (intro W hW; (try dsimp only at hW); go_simp; first | done | with_reducible rfl)
          try simp only [lay]
          refine' tk (i := 3) (v := _) rfl ?_ ?_
          rotate_left
          · (intro W hW; (try dsimp only at hW); go_simp; first | done | with_reducible rfl)
          try simp only [lay]
          refine' tk (i := 4) (v := _) rfl ?_ ?_
          rotate_left
          · (intro W hW; (try dsimp only at hW); go_simp; first | done | with_reducible rfl)
          try simp only [lay]
          refine' tk (i := 5) (v := _) rfl ?_ ?_
          rotate_left
          · (intro W hW; (try dsimp only at hW); obtain ⟨hW1, hW2⟩ := hW; go_simp; first | done | with_reducible rfl)
          try simp only [lay]
          refine' tk (i := 6) (v := _) rfl ?_ ?_
          rotate_left
          · (intro W hW; (try dsimp only at hW); go_simp; first | done | with_reducible rfl)
          try simp only [lay]
          refine pair_on (i := 7) (j := 11) rfl rfl (by kernel_rfl) (by rfl) (by rfl) (fun K hK => ?_) (fun K hK => ?_)
          · go_simp
            refine (HDO.out _ HSd.out).mono ?_
            rintro e w6 ⟨V6, C6, rfl, h6, g6, hC6, t6⟩
            have HS6 := hid (HSd.out.turn HFX.out t6 h6 g6 hC6)
            refine hK.out _ _ (HKP.out _ _ _ HS6.out) (fun hHeld => ?_)
            clear hK K
            try simp only [lay]
            refine' tk (i := 8) (v := _) rfl ?_ ?_
            rotate_left
            · (intro W hW; (try dsimp only at hW); go_simp; first | done | with_reducible rfl)
            try simp only [lay]
            refine' tk (i := 9) (v := _) rfl ?_ ?_
            rotate_left
            · (intro W hW; (try dsimp only at hW); go_simp; first | done | with_reducible rfl)
            try simp only [lay]
            refine' tk (i := 10) (v := _) rfl ?_ ?_
            rotate_left
            · (intro W hW; (try dsimp only at hW); go_simp; first | done | with_reducible rfl)
            try simp only [lay]
            have HSA := hid (HS6.out.below ((Below.refl w6.heap.size w6).alloc (Nat.le_refl _) (.cells rvZ 32)))
            have HSB := hid (HS6.out.below ((Below.refl w6.heap.size w6).alloc (Nat.le_refl _) (.cells C6 32)))
            have hsv := rv_var w6 (Z := rvZ) rfl HS6.out.rc.size HS6.out.rc.one
            refine call_on (i := 11) rfl (by kernel_rfl) (by rfl) (fun K hK => ?_)
            go_simp
            refine hK.out _ _ (HKP.out _ _ _ HSA.out) (fun hHeld => ?_)
            clear hK K
            try simp only [lay]
            refine call_on (i := 12) rfl (by kernel_rfl) (by rfl) (fun K hK => ?_)
            go_simp
            refine hK.out _ _ (HKP.out _ _ _ HSB.out) (fun hHeld => ?_)
            clear hK K
            try simp only [lay]
            refine' tk (i := 13) (v := _) rfl ?_ ?_
            rotate_left
            · (intro W hW; (try dsimp only at hW); go_simp; first | done | with_reducible rfl)
            try simp only [lay]
            refine wpAnyH_done (by kernel_rfl) ?_ _
            clear hHeld
            have HRX := hid (heap_alloc_new w6 (.cells C6 32))
            clear hsv hal hbd h6 g6 hC6 t6
            go_wp2_with fail
            go_meet
            case rel => exact hid ⟨_, V6, C, C6, L5, rfl, rfl, HRX.out, HSB.out, HL5.out⟩
          · go_simp
            have HSA := hid (HSd.out.below ((Below.refl w5.drew.heap.size w5.drew).alloc (Nat.le_refl _) (.cells rvZ 32)))
            have HRA := hid (show (w5.drew.alloc (.cells rvZ 32)).heap[w5.heap.size]? = some (.cells rvZ 32 (0, 0)) from heap_alloc_new w5.drew (.cells rvZ 32))
            have HGX := hid (show w.heap.size ≤ w5.heap.size ∧ w5.heap.size ≠ g9 from ⟨HSd.out.bel.size, Nat.ne_of_gt (lt_of_block HSd.out.r9)⟩)
            refine hK.out _ _ (HKP.out _ _ _ HSA.out) (fun hHeld => ?_)
            clear hK K
            try simp only [lay]
            refine call_on (i := 7) rfl (by kernel_rfl) (by rfl) (fun K hK => ?_)
            go_simp
            refine (HDO.out _ HSA.out).mono ?_
            rintro e w6 ⟨V6, C6, rfl, h6, g6, hC6, t6⟩
            have HS6 := hid (HSA.out.turn HFX.out t6 h6 g6 hC6)
            have HR6 := hid (HSA.out.v.other HRA.out (by decide) (by decide) t6)
            refine hK.out _ _ (HKP.out _ _ _ HS6.out) (fun hHeld => ?_)
            clear hK K
            try simp only [lay]
            refine' tk (i := 8) (v := _) rfl ?_ ?_
            rotate_left
            · (intro W hW; (try dsimp only at hW); go_simp; first | done | with_reducible rfl)
            try simp only [lay]
            refine' tk (i := 9) (v := _) rfl ?_ ?_
            rotate_left
            · (intro W hW; (try dsimp only at hW); go_simp; first | done | with_reducible rfl)
            try simp only [lay]
            refine' tk (i := 10) (v := _) rfl ?_ ?_
            rotate_left
            · (intro W hW; (try dsimp only at hW); go_simp; first | done | with_reducible rfl)
            try simp only [lay]
            have hsv : storeRv (.pointer (some ⟨w5.heap.size, 0, none⟩)) (.agg C6) w6 = .ok .skip (setSe w6 w5.heap.size C6) := storeRv_eq HR6.out rfl HS6.out.rc.size HS6.out.rc.one
            have HSB := hid (HS6.out.other HR6.out HGX.out.2 HGX.out.1 (X := C6))
            refine call_on (i := 12) rfl (by kernel_rfl) (by rfl) (fun K hK => ?_)
            go_simp
            refine hK.out _ _ (HKP.out _ _ _ HSB.out) (fun hHeld => ?_)
            clear hK K
            try simp only [lay]
            refine' tk (i := 13) (v := _) rfl ?_ ?_
            rotate_left
            · (intro W hW; (try dsimp only at hW); go_simp; first | done | with_reducible rfl)
            try simp only [lay]
            refine wpAnyH_done (by kernel_rfl) ?_ _
            clear hHeld
            have HRX := hid (setSe_same (C := C6) HR6.out)
            clear hsv hal hbd h6 g6 hC6 t6
            go_wp2_with fail
            go_meet
            case rel => exact hid ⟨_, V6, C, C6, L5, rfl, rfl, HRX.out, HSB.out, HL5.out⟩
        case rest =>
          obtain ⟨gx, V6, D6, C6, L6, rfl, rfl, hrx, hS6, hL6⟩ := hcut.out
          have hlx := loadRv_row hrx hS6.rc.size
          have hst := hS6.st9
          have HS7 := hid (hS6.fin HFX.out)
          have HL7 := hid hL6
          have HLK := hid (like14_any V6 C6 _ HS7.out.v HS7.out.g HS7.out.rc)
          have hl9 := HS7.out.ld9
          clear hrx hS6 hL6 hcut
          go_wp2_with fail
          refine HLK.out.mono ?_
          rintro e w8 ⟨rfl, hb8⟩
          have HS8 := hid (HS7.out.below hb8)
          clear hb8 hlx hst hl9
          go_wp2_with fail
          go_roundw
          case rel => exact ⟨k + 1, _, _, _, HHK.out, by rw [HWI.out]; rfl, rfl, hid ⟨_, _, _, HS8.out, HL7.out⟩⟩
          case measure => exact vx_meas HHK.out HWI.out
      · have hI : ¬ (k : Int) < (N : Int) := by omega
        have HBL : Hid (Below w.heap.size w wr) := hid (by
          obtain ⟨V, C, Ls, hS, _⟩ := HREL.out
          exact hS.bel)
        clear HREL hlt hk
        go_wp2_with fail
        refine (HFIN.out wr HBL.out).mono ?_
        rintro e w2 ⟨rfl, hb2⟩
        go_wp2_with fail
        go_ret
        exact ⟨rfl, hb2⟩
  · have HNW := hid (vNew_no i n w (by
      by_cases h1 : n < 0
      · exact .inr (.inl h1)
      by_cases h2 : 1099511627776 < n
      · exact .inr (.inr h2)
      refine .inl ?_
      by_cases h3 : nodeB i = true
      · exact absurd ⟨h3, by omega, by omega⟩ p
      · simpa using h3))
    have HP : Hid (i < 1 ∨ 21 < i ∨ n < 0 ∨ 1099511627776 < n) := hid (by
      by_cases h1 : n < 0
      · exact .inr (.inr (.inl h1))
      by_cases h2 : 1099511627776 < n
      · exact .inr (.inr (.inr h2))
      by_cases h3 : nodeB i = true
      · exact absurd ⟨h3, by omega, by omega⟩ p
      · unfold nodeB at h3
        rw [decide_eq_true_eq] at h3
        omega)
    clear p
    go_upto_region 3 with (fail)
    go_wp2_with fail
    refine HNW.out.mono ?_
    rintro e w1 ⟨rfl, rfl⟩
    go_upto_region 4 with (fail)
    by_cases p0 : i < 1
    · go_wp2_with fail
      refine (HFIN.out w HREF.out).mono ?_
      rintro e w2 ⟨rfl, hb2⟩
      go_wp2_with fail
      go_ret
      exact ⟨rfl, hb2⟩
    by_cases p1 : 21 < i
    · go_wp2_with fail
      refine (HFIN.out w HREF.out).mono ?_
      rintro e w2 ⟨rfl, hb2⟩
      go_wp2_with fail
      go_ret
      exact ⟨rfl, hb2⟩
    by_cases p2 : n < 0
    · go_wp2_with fail
      refine (HFIN.out w HREF.out).mono ?_
      rintro e w2 ⟨rfl, hb2⟩
      go_wp2_with fail
      go_ret
      exact ⟨rfl, hb2⟩
    by_cases p3 : 1099511627776 < n
    · go_wp2_with fail
      refine (HFIN.out w HREF.out).mono ?_
      rintro e w2 ⟨rfl, hb2⟩
      go_wp2_with fail
      go_ret
      exact ⟨rfl, hb2⟩
    exact absurd HP.out (by omega)
end Go.Proofs.YtghophbabbaleaaGreatDoor
