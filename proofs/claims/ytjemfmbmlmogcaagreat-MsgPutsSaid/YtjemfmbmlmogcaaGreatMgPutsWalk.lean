/-
  tithinglaw11.MsgPuts returns true, from what msg's functions must tell. Printed with genmputsw.py.
-/
import Derived.BigQuiet
import Derived.Deep.QuietTactic
import Derived.Outline
import Derived.Test.YtjemfmbmlmogcaaGreatBs27
import Derived.Test.YtjemfmbmlmogcaaGreatMgLight
import Derived.Test.YtjemfmbmlmogcaaGreatBs26
import Derived.Test.YtjemfmbmlmogcaaGreatBs2
import Derived.Test.YtjemfmbmlmogcaaGreatBs3
namespace Go.Proofs.YtjemfmbmlmogcaaGreat
set_option maxRecDepth 20000
open Go.RowKit
attribute [local go_sem ↓] exec_load_mg exec_alloc_mg exec_store_mg
set_option maxHeartbeats 6400000 in
theorem lawMsgPuts_any (hCheck : MgCheckOk) (hPut : MgPutOk) (hGet : MgGetOk) (hSame : MgSameOk) (va : Value) (a : MgM) (vb : Value) (b : MgM) (w : World) (hva : MgV w va a) (hvb : MgV w vb b) (hza : sizedM a) (hzb : sizedM b) :
    Calls Tryz.prog 3 #[va, vb] w fun e w' => e = .returned (.bool true) ∧ Below w.heap.size w w' := by
  have HVA := hid (fun W (h : Below w.heap.size w W) => hva.below h)
  have HVB := hid (fun W (h : Below w.heap.size w W) => hvb.below h)
  obtain ⟨a1, a2, a3, rfl, hoa, ea1, ea2, ea3⟩ := hva
  obtain ⟨b1, b2, b3, rfl, hob, eb1, eb2, eb3⟩ := hvb
  have HSZ : Hid ((mgc a a1 a2 a3).size = 349 ∧ (mgc b b1 b2 b3).size = 349) := hid ⟨mgc_size _ _ _ hoa, mgc_size _ _ _ hob⟩
  obtain ⟨CA, HCA⟩ : ∃ C : Array Value, Hid (mgc a a1 a2 a3 = C) := ⟨_, hid rfl⟩
  obtain ⟨CB, HCB⟩ : ∃ C : Array Value, Hid (mgc b b1 b2 b3 = C) := ⟨_, hid rfl⟩
  rw [HCA.out] at HVA HSZ ⊢
  rw [HCB.out] at HVB HSZ ⊢
  have hb0 : Below w.heap.size w ((w.alloc (.cells CA 38)).alloc (.cells CB 38)) := ((Below.refl _ _).alloc (Nat.le_refl _) _).alloc (by simp) _
  have hA : ((w.alloc (.cells CA 38)).alloc (.cells CB 38)).heap[w.heap.size]? = some (.cells CA 38 (0, 0)) := heap1 w _ _
  have hB : ((w.alloc (.cells CA 38)).alloc (.cells CB 38)).heap[w.heap.size + 1]? = some (.cells CB 38 (0, 0)) := heap2 w _ _
  have HLA := hid (fun W (h : Below w.heap.size w W) => light11_any (.agg CA) a W (HVA.out W h) hza)
  have HLB := hid (fun W (h : Below w.heap.size w W) => light11_any (.agg CB) b W (HVB.out W h) hzb)
  have HAW := hid (fun W => mgAwake_any hPut hGet W)
  have HCK := hid (fun W (h : Below w.heap.size w W) hl => hCheck (.agg CA) a W (HVA.out W h) hl)
  have HPU := hid (fun W (h : Below w.heap.size w W) hl => hPut (.agg CA) a W (HVA.out W h) hl)
  have HGE := hid hGet
  have HSM := hid hSame
  obtain ⟨la, HQA⟩ : ∃ q : Bool, Hid (litM a = q) := ⟨_, hid rfl⟩
  obtain ⟨lb, HQB⟩ : ∃ q : Bool, Hid (litM b = q) := ⟨_, hid rfl⟩
  obtain ⟨m, HM⟩ : ∃ q : Bool, Hid (mayM a = q) := ⟨_, hid rfl⟩
  rw [HQA.out] at HLA
  rw [HQB.out] at HLB
  have HOA := hid hoa
  clear hoa ea1 ea2 ea3 hob eb1 eb2 eb3 hza hzb hCheck hPut hGet hSame
  go_enter Tryz.func3, Tryz.ntmps3
  go_upto_region 1 with (fail)
  generalize ((w.alloc (.cells CA 38)).alloc (.cells CB 38)) = w0 at *
  have hla := lt_of_block hA
  have hlb := lt_of_block hB
  have HLD : Hid (∀ W, Below w0.heap.size w0 W → loadMg (.pointer (some ⟨w.heap.size, 0, none⟩)) W = .ok (.value (.agg CA)) W ∧ loadMg (.pointer (some ⟨w.heap.size + 1, 0, none⟩)) W = .ok (.value (.agg CB)) W) := hid (fun W h => ⟨loadMg_row ((h.block _ hla).trans hA) HSZ.out.1, loadMg_row ((h.block _ hlb).trans hB) HSZ.out.2⟩)
  have HB0 := hid hb0
  clear hA hB hla hlb hb0
  obtain ⟨l1, l2⟩ := HLD.out w0 (Below.refl _ _)
  go_wp2_with fail
  refine (HLA.out w0 HB0.out).mono ?_
  rintro e w1 ⟨rfl, hb1⟩
  have HB1 := hid hb1
  have HBW1 := hid (HB0.out.trans (hb1.mono HB0.out.size))
  clear l1 l2 hb1
  cases la with
  | false =>
    go_wp2_with fail
    refine (HAW.out w1).mono ?_
    rintro e w2 ⟨rfl, hb2⟩
    go_wp2_with fail
    go_ret
    exact ⟨rfl, HBW1.out.trans (hb2.mono HBW1.out.size)⟩
  | true =>
    obtain ⟨l1, l2⟩ := HLD.out w1 HB1.out
    go_wp2_with fail
    refine (HLB.out w1 HBW1.out).mono ?_
    rintro e w2 ⟨rfl, hb2⟩
    have HB2 := hid (HB1.out.trans (hb2.mono HB1.out.size))
    have HBW2 := hid (HBW1.out.trans (hb2.mono HBW1.out.size))
    clear l1 l2 hb2
    cases lb with
    | false =>
      go_wp2_with fail
      refine (HAW.out w2).mono ?_
      rintro e w3 ⟨rfl, hb3⟩
      go_wp2_with fail
      go_ret
      exact ⟨rfl, HBW2.out.trans (hb3.mono HBW2.out.size)⟩
    | true =>
      have HIA := hid (litM_lim HQA.out)
      have HIB := hid (litM_lim HQB.out)
      obtain ⟨l1, l2⟩ := HLD.out w2 HB2.out
      have HP := hid (HPU.out w2 HBW2.out HIA.out)
      rw [HM.out] at HP
      obtain ⟨ec, HEC⟩ : ∃ k : Int, Hid ((if m = true then (0 : Int) else 1) = k) := ⟨_, hid rfl⟩
      obtain ⟨PL, HPL⟩ : ∃ l : List UInt8, Hid ((if m = true then bytesM a else []) = l) := ⟨_, hid rfl⟩
      rw [HEC.out, HPL.out] at HP
      go_wp2_with fail
      refine HP.out.mono ?_
      rintro e w3 ⟨x3, rfl, hx3, hb3⟩
      have HB3 := hid (HB2.out.trans (hb3.mono HB2.out.size))
      have HBW3 := hid (HBW2.out.trans (hb3.mono HBW2.out.size))
      clear l1 l2 hb3 HP
      obtain ⟨l1, l2⟩ := HLD.out w3 HB3.out
      have HMY := hid (refMay11_any (.agg CA) a w3 (HVA.out w3 HBW3.out) HIA.out.kk HIA.out.tt)
      rw [HM.out] at HMY
      have HX3 := hid hx3
      clear hx3
      go_wp2_with fail
      refine HMY.out.mono ?_
      rintro e w4 ⟨rfl, hb4⟩
      have HB4 := hid (HB3.out.trans (hb4.mono HB3.out.size))
      have HBW4 := hid (HBW3.out.trans (hb4.mono HBW3.out.size))
      have HX4 := hid (HX3.out.below hb4)
      clear l1 l2 hb4 HMY HX3
      go_upto_region 5 with (fail)
      have hbd : Below w4.heap.size w4 w4.drew := (Below.refl _ _).drew
      have HB5 := hid (HB4.out.trans (hbd.mono HB4.out.size))
      have HBW5 := hid (HBW4.out.trans (hbd.mono HBW4.out.size))
      have HX5 := hid (HX4.out.below hbd)
      obtain ⟨q, HQ⟩ : ∃ q : Bool, Hid (sameM a b = q) := ⟨_, hid rfl⟩
      have hqq : (q != q) = false := by simp
      have hmm : (m != m) = false := by simp
      have HCA2 := hid (fun W (h : Below w.heap.size w W) => HCK.out W h HIA.out)
      have HS1 := hid (fun W (h : Below w.heap.size w W) => HSM.out (.agg CA) (.agg CB) a b W (HVA.out W h) (HVB.out W h) HIA.out HIB.out)
      have HS2 := hid (fun W (h : Below w.heap.size w W) => refSame11_any (.agg CA) (.agg CB) a b W (HVA.out W h) (HVB.out W h))
      have HS3 := hid (fun W (h : Below w.heap.size w W) => HSM.out (.agg CA) (.agg CA) a a W (HVA.out W h) (HVA.out W h) HIA.out HIA.out)
      have HS4 := hid (fun W x c1 c2 c3 (h : Below w.heap.size w W) (hx : MgV W (.agg (mgc x c1 c2 c3)) x) => refSame11_any (.agg (mgc x c1 c2 c3)) (.agg CA) x a W hx (HVA.out W h))
      rw [HQ.out] at HS1 HS2
      rw [sameM_self] at HS3
      rw [HM.out, HEC.out] at HCA2
      clear HCK HSM HPU HLA HLB
      refine wp_region_held_drew (S := fun W => loadMg (.pointer (some ⟨w.heap.size, 0, none⟩)) W = .ok (.value (.agg CA)) W ∧ loadMg (.pointer (some ⟨w.heap.size + 1, 0, none⟩)) W = .ok (.value (.agg CB)) W) (by kernel_rfl) (HLD.out _ HB5.out) (fun hHeld => ?_)
      cases m with
      | false =>
        obtain rfl : ec = 1 := HEC.out.symm
        obtain rfl : PL = [] := HPL.out.symm
        refine' tk (i := 0) (v := _) rfl (fun W hW => hW.1) ?_
        try simp only [lay]
        refine' tk (i := 3) (v := _) rfl ?_ ?_
        rotate_left
        · (intro W hW; (try dsimp only at hW); go_simp; first | done | with_reducible rfl)
        try simp only [lay]
        refine call_on (i := 1) rfl (by kernel_rfl) (by rfl) (fun K hK => ?_)
        go_simp
        refine (HCA2.out w4.drew HBW5.out).mono ?_
        rintro e w6 ⟨rfl, hb6⟩
        have HB6 := hid (HB5.out.trans (hb6.mono HB5.out.size))
        have HBW6 := hid (HBW5.out.trans (hb6.mono HBW5.out.size))
        have HX6 := hid (HX5.out.below hb6)
        refine hK.out _ _ (HLD.out _ HB6.out) (fun hHeld => ?_)
        clear hK K
        try simp only [lay]
        clear hb6
        refine' tk (i := 2) (v := _) rfl ?_ ?_
        rotate_left
        · (intro W hW; (try dsimp only at hW); go_simp; first | done | with_reducible rfl)
        try simp only [lay]
        refine' tk (i := 4) (v := _) rfl ?_ ?_
        rotate_left
        · (intro W hW; (try dsimp only at hW); go_simp; first | done | with_reducible rfl)
        try simp only [lay]
        refine' tk (i := 5) (v := _) rfl ?_ ?_
        rotate_left
        · (intro W hW; (try dsimp only at hW); go_simp; first | done | with_reducible rfl)
        try simp only [lay]
        refine' tk (i := 6) (v := _) rfl (fun W hW => hW.1) ?_
        try simp only [lay]
        refine' tk (i := 7) (v := _) rfl (fun W hW => hW.2) ?_
        try simp only [lay]
        refine' tk (i := 9) (v := _) rfl (fun W hW => hW.1) ?_
        try simp only [lay]
        refine' tk (i := 10) (v := _) rfl (fun W hW => hW.2) ?_
        try simp only [lay]
        refine call_on (i := 8) rfl (by kernel_rfl) (by rfl) (fun K hK => ?_)
        go_simp
        refine (HS1.out w6 HBW6.out).mono ?_
        rintro e w7 ⟨rfl, hb7⟩
        have HB7 := hid (HB6.out.trans (hb7.mono HB6.out.size))
        have HBW7 := hid (HBW6.out.trans (hb7.mono HBW6.out.size))
        have HX7 := hid (HX6.out.below hb7)
        refine hK.out _ _ (HLD.out _ HB7.out) (fun hHeld => ?_)
        clear hK K
        try simp only [lay]
        clear hb7
        refine call_on (i := 11) rfl (by kernel_rfl) (by rfl) (fun K hK => ?_)
        go_simp
        refine (HS2.out w7 HBW7.out).mono ?_
        rintro e w8 ⟨rfl, hb8⟩
        have HB8 := hid (HB7.out.trans (hb8.mono HB7.out.size))
        have HBW8 := hid (HBW7.out.trans (hb8.mono HBW7.out.size))
        have HX8 := hid (HX7.out.below hb8)
        refine hK.out _ _ (HLD.out _ HB8.out) (fun hHeld => ?_)
        clear hK K
        try simp only [lay]
        clear hb8
        refine' tk (i := 12) (v := _) rfl ?_ ?_
        rotate_left
        · (intro W hW; (try dsimp only at hW); go_simp; first | done | with_reducible rfl)
        try simp only [lay]
        refine' tk (i := 13) (v := _) rfl ?_ ?_
        rotate_left
        · (intro W hW; (try dsimp only at hW); go_simp; first | done | with_reducible rfl)
        try simp only [lay]
        refine' tk (i := 14) (v := _) rfl ?_ ?_
        rotate_left
        · (intro W hW; (try dsimp only at hW); go_simp; first | done | with_reducible rfl)
        try simp only [lay]
        refine' tk (i := 15) (v := _) rfl (fun W hW => hW.1) ?_
        try simp only [lay]
        refine' tk (i := 16) (v := _) rfl (fun W hW => hW.1) ?_
        try simp only [lay]
        refine call_on (i := 17) rfl (by kernel_rfl) (by rfl) (fun K hK => ?_)
        go_simp
        refine (HS3.out w8 HBW8.out).mono ?_
        rintro e w9 ⟨rfl, hb9⟩
        have HB9 := hid (HB8.out.trans (hb9.mono HB8.out.size))
        have HBW9 := hid (HBW8.out.trans (hb9.mono HBW8.out.size))
        have HX9 := hid (HX8.out.below hb9)
        refine hK.out _ _ (HLD.out _ HB9.out) (fun hHeld => ?_)
        clear hK K
        try simp only [lay]
        clear hb9
        refine' tk (i := 18) (v := _) rfl ?_ ?_
        rotate_left
        · (intro W hW; (try dsimp only at hW); go_simp; first | done | with_reducible rfl)
        try simp only [lay]
        refine' tk (i := 19) (v := _) rfl ?_ ?_
        rotate_left
        · (intro W hW; (try dsimp only at hW); go_simp; first | done | with_reducible rfl)
        try simp only [lay]
        refine wpAnyH_done (by kernel_rfl) ?_ _
        obtain ⟨A9, c9, rfl⟩ := HX9.out.shape
        clear hHeld hbd hqq hmm
        go_wp2_with fail
        refine (HAW.out w9).mono ?_
        rintro e w10 ⟨rfl, hb10⟩
        go_wp2_with fail
        go_ret
        exact ⟨rfl, HBW9.out.trans (hb10.mono HBW9.out.size)⟩
      | true =>
        obtain rfl : ec = 0 := HEC.out.symm
        obtain rfl : PL = bytesM a := HPL.out.symm
        refine' tk (i := 0) (v := _) rfl (fun W hW => hW.1) ?_
        try simp only [lay]
        refine' tk (i := 3) (v := _) rfl ?_ ?_
        rotate_left
        · (intro W hW; (try dsimp only at hW); go_simp; first | done | with_reducible rfl)
        try simp only [lay]
        refine call_on (i := 1) rfl (by kernel_rfl) (by rfl) (fun K hK => ?_)
        go_simp
        refine (HCA2.out w4.drew HBW5.out).mono ?_
        rintro e w6 ⟨rfl, hb6⟩
        have HB6 := hid (HB5.out.trans (hb6.mono HB5.out.size))
        have HBW6 := hid (HBW5.out.trans (hb6.mono HBW5.out.size))
        have HX6 := hid (HX5.out.below hb6)
        refine hK.out _ _ (HLD.out _ HB6.out) (fun hHeld => ?_)
        clear hK K
        try simp only [lay]
        clear hb6
        refine' tk (i := 2) (v := _) rfl ?_ ?_
        rotate_left
        · (intro W hW; (try dsimp only at hW); go_simp; first | done | with_reducible rfl)
        try simp only [lay]
        refine' tk (i := 4) (v := _) rfl ?_ ?_
        rotate_left
        · (intro W hW; (try dsimp only at hW); go_simp; first | done | with_reducible rfl)
        try simp only [lay]
        refine' tk (i := 5) (v := _) rfl ?_ ?_
        rotate_left
        · (intro W hW; (try dsimp only at hW); go_simp; first | done | with_reducible rfl)
        try simp only [lay]
        refine' tk (i := 6) (v := _) rfl (fun W hW => hW.1) ?_
        try simp only [lay]
        refine' tk (i := 7) (v := _) rfl (fun W hW => hW.2) ?_
        try simp only [lay]
        refine' tk (i := 9) (v := _) rfl (fun W hW => hW.1) ?_
        try simp only [lay]
        refine' tk (i := 10) (v := _) rfl (fun W hW => hW.2) ?_
        try simp only [lay]
        refine call_on (i := 8) rfl (by kernel_rfl) (by rfl) (fun K hK => ?_)
        go_simp
        refine (HS1.out w6 HBW6.out).mono ?_
        rintro e w7 ⟨rfl, hb7⟩
        have HB7 := hid (HB6.out.trans (hb7.mono HB6.out.size))
        have HBW7 := hid (HBW6.out.trans (hb7.mono HBW6.out.size))
        have HX7 := hid (HX6.out.below hb7)
        refine hK.out _ _ (HLD.out _ HB7.out) (fun hHeld => ?_)
        clear hK K
        try simp only [lay]
        clear hb7
        refine call_on (i := 11) rfl (by kernel_rfl) (by rfl) (fun K hK => ?_)
        go_simp
        refine (HS2.out w7 HBW7.out).mono ?_
        rintro e w8 ⟨rfl, hb8⟩
        have HB8 := hid (HB7.out.trans (hb8.mono HB7.out.size))
        have HBW8 := hid (HBW7.out.trans (hb8.mono HBW7.out.size))
        have HX8 := hid (HX7.out.below hb8)
        refine hK.out _ _ (HLD.out _ HB8.out) (fun hHeld => ?_)
        clear hK K
        try simp only [lay]
        clear hb8
        refine' tk (i := 12) (v := _) rfl ?_ ?_
        rotate_left
        · (intro W hW; (try dsimp only at hW); go_simp; first | done | with_reducible rfl)
        try simp only [lay]
        refine' tk (i := 13) (v := _) rfl ?_ ?_
        rotate_left
        · (intro W hW; (try dsimp only at hW); go_simp; first | done | with_reducible rfl)
        try simp only [lay]
        refine' tk (i := 14) (v := _) rfl ?_ ?_
        rotate_left
        · (intro W hW; (try dsimp only at hW); go_simp; first | done | with_reducible rfl)
        try simp only [lay]
        refine' tk (i := 15) (v := _) rfl (fun W hW => hW.1) ?_
        try simp only [lay]
        refine' tk (i := 16) (v := _) rfl (fun W hW => hW.1) ?_
        try simp only [lay]
        refine call_on (i := 17) rfl (by kernel_rfl) (by rfl) (fun K hK => ?_)
        go_simp
        refine (HS3.out w8 HBW8.out).mono ?_
        rintro e w9 ⟨rfl, hb9⟩
        have HB9 := hid (HB8.out.trans (hb9.mono HB8.out.size))
        have HBW9 := hid (HBW8.out.trans (hb9.mono HBW8.out.size))
        have HX9 := hid (HX8.out.below hb9)
        refine hK.out _ _ (HLD.out _ HB9.out) (fun hHeld => ?_)
        clear hK K
        try simp only [lay]
        clear hb9
        refine' tk (i := 18) (v := _) rfl ?_ ?_
        rotate_left
        · (intro W hW; (try dsimp only at hW); go_simp; first | done | with_reducible rfl)
        try simp only [lay]
        refine' tk (i := 19) (v := _) rfl ?_ ?_
        rotate_left
        · (intro W hW; (try dsimp only at hW); go_simp; first | done | with_reducible rfl)
        try simp only [lay]
        refine wpAnyH_done (by kernel_rfl) ?_ _
        clear hHeld hbd hqq hmm HX4 HX5 HX6 HX7 HX8 HCA2 HS1 HS2 HS3 HB0 HB1 HB2 HB3 HB4 HB5 HB6 HB7 HB8 HBW1 HBW2 HBW3 HBW4 HBW5 HBW6 HBW7 HBW8
        have HBK := hid (mgIs_back HOA.out HM.out)
        obtain ⟨L, HL⟩ : ∃ l : List UInt8, Hid (bytesM a = l) := ⟨_, hid rfl⟩
        have HLL : Hid (L.length ≤ 1000000) := hid (by rw [← HL.out]; exact bytesM_len HOA.out HM.out)
        have HBY := hid (fun W (h : Below w.heap.size w W) => refBytes11_any (.agg CA) a W (HVA.out W h) HM.out)
        rw [HL.out] at HX9 HBK HBY
        have HG := hid (HGE.out x3 L w9 HX9.out HLL.out)
        rw [HBK.out.1, HBK.out.2, if_pos rfl] at HG
        obtain ⟨A9, c9, rfl⟩ := HX9.out.shape
        obtain ⟨LL, HLN⟩ : ∃ n : Nat, Hid (L.length = n) := ⟨_, hid rfl⟩
        rw [HLN.out] at HX9 HG ⊢
        obtain ⟨Z, HZ⟩ : ∃ C : Array Value, Hid (mgc mgZ (.slice none 0 0) (.slice none 0 0) (.slice none 0 0) = C) := ⟨_, hid rfl⟩
        have HZS : Hid (Z.size = 349) := hid (by rw [← HZ.out]; exact mgc_size _ _ _ mgZ_ok)
        have HAL : Hid (∀ W, allocMg W = .ok (.value (.pointer (some ⟨W.heap.size, 0, none⟩))) (W.alloc (.cells Z 38))) := hid (fun W => by rw [← HZ.out]; exact allocMg_eq W)
        go_wp2_with fail
        refine HG.out.mono ?_
        rintro e w10 ⟨x10, rfl, hx10, hb10⟩
        have HB10 := hid (HB9.out.trans (hb10.mono HB9.out.size))
        have HBW10 := hid (HBW9.out.trans (hb10.mono HBW9.out.size))
        have HX10 := hid (HX9.out.below hb10)
        obtain ⟨t1, t2, t3, rfl, ho2, e1, e2, e3⟩ := hx10
        have HS : Hid ((mgc a t1 t2 t3).size = 349 ∧ (mgc a t1 t2 t3).all (·.oneCell') = true) := hid ⟨mgc_size _ _ _ ho2, mgc_one e1 e2 e3⟩
        have HMV := hid (fun W (h : Below w10.heap.size w10 W) => (show MgV W (.agg (mgc a t1 t2 t3)) a from ⟨_, _, _, rfl, ho2, e1.below h, e2.below h, e3.below h⟩))
        have HS5 := hid (fun W (h : Below w.heap.size w W) (h2 : Below w10.heap.size w10 W) => HS4.out W a t1 t2 t3 h (HMV.out W h2))
        rw [sameM_self] at HS5
        obtain ⟨X, HX⟩ : ∃ C : Array Value, Hid (mgc a t1 t2 t3 = C) := ⟨_, hid rfl⟩
        rw [HX.out] at HS HS5 ⊢
        have hst := mg_var w10 HZS.out HS.out.1 HS.out.2
        have hal := HAL.out w10
        clear ho2 e1 e2 e3 hb10 HMV HS4
        go_upto_region 10 with (fail)
        have hba : Below w10.heap.size w10 (w10.alloc (.cells X 38)) := (Below.refl _ _).alloc (Nat.le_refl _) _
        have hrx : (w10.alloc (.cells X 38)).heap[w10.heap.size]? = some (.cells X 38 (0, 0)) := heap_alloc_new w10 _
        have HB11 := hid (HB10.out.trans (hba.mono HB10.out.size))
        have HBW11 := hid (HBW10.out.trans (hba.mono HBW10.out.size))
        have HX11 := hid (HX10.out.below hba)
        have HBA := hid hba
        clear hst hal hba
        obtain ⟨vb, HVBK⟩ : ∃ k : Nat, Hid (w10.heap.size = k) := ⟨_, hid rfl⟩
        rw [HVBK.out] at hrx ⊢
        generalize (w10.alloc (.cells X 38)) = w11 at *
        have HLX : Hid (∀ W, Below w11.heap.size w11 W → loadMg (.pointer (some ⟨vb, 0, none⟩)) W = .ok (.value (.agg X)) W) := hid (fun W h => loadMg_row ((h.block _ (lt_of_block hrx)).trans hrx) HS.out.1)
        obtain ⟨l1, _⟩ := HLD.out w11 HB11.out
        clear hrx
        go_wp2_with fail
        refine (HBY.out w11 HBW11.out).mono ?_
        rintro e w12 ⟨x12, rfl, ho12, hb12⟩
        have HB12 := hid (HB11.out.trans (hb12.mono HB11.out.size))
        have HBW12 := hid (HBW11.out.trans (hb12.mono HBW11.out.size))
        have HX12 := hid (HX11.out.below hb12)
        have HY12 := hid ho12.byt
        have HBX12 := hid hb12
        clear l1 ho12 hb12
        obtain ⟨A12, n12, c12, rfl⟩ : ∃ A n c, x12 = .slice A n c := (by obtain ⟨A, c, e⟩ := HY12.out.shape; exact ⟨_, _, _, e⟩)
        go_wp2_with fail
        refine (same_yes _ _ L w12 HX12.out HY12.out).mono ?_
        rintro e w13 ⟨rfl, k13, hw13⟩
        have HBX13 : Hid (Below w11.heap.size w11 w13) := hid (by rw [hw13]; exact below_drewN HBX12.out k13)
        have HB13 := hid (HB11.out.trans (HBX13.out.mono HB11.out.size))
        have HBW13 := hid (HBW11.out.trans (HBX13.out.mono HBW11.out.size))
        clear hw13
        obtain ⟨l1, _⟩ := HLD.out w13 HB13.out
        have l3 := HLX.out w13 HBX13.out
        have HS6 := hid (HS5.out w13 HBW13.out (HBA.out.trans (HBX13.out.mono HBA.out.size)))
        go_wp2_with fail
        refine HS6.out.mono ?_
        rintro e w14 ⟨rfl, hb14⟩
        have HBW14 := hid (HBW13.out.trans (hb14.mono HBW13.out.size))
        clear l1 l3 hb14
        go_wp2_with fail
        refine (HAW.out w14).mono ?_
        rintro e w15 ⟨rfl, hb15⟩
        go_wp2_with fail
        go_ret
        exact ⟨rfl, HBW14.out.trans (hb15.mono HBW14.out.size)⟩
end Go.Proofs.YtjemfmbmlmogcaaGreat
