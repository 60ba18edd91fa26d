/-
  The document's answer for Crash: tithingref14.Crash. Printed with genvref.py.
-/
import Derived.Deep.CutBlock
import Derived.Test.YtghophbabbaleaaGreatDoorVaRvKeep
namespace Go.Proofs.YtghophbabbaleaaGreatDoor
set_option maxRecDepth 20000
open Go.RowKit
attribute [local go_sem ↓] exec_load_rv exec_alloc_rv exec_store_rv
def tornAt (t own : List UInt8) (i : Nat) : List UInt8 := t.take i ++ own.drop i
theorem tornAt_zero (t own : List UInt8) : tornAt t own 0 = own := rfl
theorem tornAt_len {t own : List UInt8} {i : Nat} (h : i ≤ t.length) : (tornAt t own i).length = max i own.length := by
  unfold tornAt
  rw [List.length_append, List.length_take, List.length_drop]
  omega
theorem tornAt_set {t own : List UInt8} {i : Nat} (h : i < t.length) (h2 : i < own.length) : (tornAt t own i).set i t[i] = tornAt t own (i + 1) := by
  unfold tornAt
  apply List.ext_getElem?
  intro j
  rw [List.getElem?_set]
  have hl1 : (t.take i).length = i := by rw [List.length_take]; omega
  have hl2 : (t.take (i + 1)).length = i + 1 := by rw [List.length_take]; omega
  have hl3 : (t.take i ++ own.drop i).length = max i own.length := by rw [List.length_append, hl1, List.length_drop]; omega
  by_cases e : i = j
  · subst e
    rw [if_pos rfl, hl3, if_pos (by omega), List.getElem?_append_left (by omega), List.getElem?_take_of_lt (by omega), List.getElem?_eq_getElem h]
  · rw [if_neg e]
    by_cases hj : j < i
    · rw [List.getElem?_append_left (by omega), List.getElem?_append_left (by omega), List.getElem?_take_of_lt hj, List.getElem?_take_of_lt (by omega)]
    · rw [List.getElem?_append_right (by omega), List.getElem?_append_right (by omega), hl1, hl2, List.getElem?_drop, List.getElem?_drop]
      congr 1
      omega
theorem tornAt_add {t own : List UInt8} {i : Nat} (h : i < t.length) (h2 : own.length ≤ i) : tornAt t own i ++ [t[i]] = tornAt t own (i + 1) := by
  unfold tornAt
  rw [List.drop_of_length_le h2, List.drop_of_length_le (by omega), List.append_nil, List.append_nil, List.take_append_getElem h]
theorem tornAt_end {t own : List UInt8} {i : Nat} {m : Int} (h : i ≤ t.length) (h2 : i = min m.toNat t.length) : tornAt t own i = tearL t own m := by
  unfold tornAt tearL
  have e1 : t.take i = t.take m.toNat := by
    by_cases hm : m.toNat ≤ t.length
    · rw [h2, Nat.min_eq_left hm]
    · rw [h2, Nat.min_eq_right (by omega), List.take_length, List.take_of_length_le (by omega)]
  rw [← e1]
  congr 1
  have : (t.take i).length = i := by rw [List.length_take]; omega
  rw [this]
theorem own_set {B : Nat} {w : World} {g n c : Nat} {l : List UInt8} (h : Own B w (.slice (some ⟨g, 0, none⟩) n c) l) (hn : n = l.length) {i : Nat} (x : UInt8) :
    Own B (w.setCell ⟨g, i, none⟩ (bcell x)) (.slice (some ⟨g, 0, none⟩) n c) (l.set i x) := by
  subst hn
  have := (World.ownsRow.stored h i (bcell x)).1
  have e : (bcells l).set i (bcell x) = bcells (l.set i x) := by unfold bcells; rw [List.map_set]
  rw [e] at this
  unfold Own
  rw [List.length_set]
  exact this
def RcPost14 (V : VaM) (w : World) (e : Ending) (w' : World) : Prop := ∃ C, e = .returned (.agg C) ∧ RvC w' C V ∧ Below w.heap.size w w'
theorem crash_none {V : VaM} (h : V.torn = []) (m : Int) : crashV V m = { V with torn := [], dead := false, left := -1 } := by
  unfold crashV tearV
  rw [if_pos h, ← h]
theorem crash_some {V : VaM} (h : ¬ V.torn = []) (m : Int) : crashV V m = { putV V (placeV V) (tearL V.torn (slotV V (placeV V)) m) with torn := [], dead := false, left := -1 } := by
  unfold crashV tearV
  rw [if_neg h]
theorem rc_meas {i L : Nat} (h : i < L) (_ : i ≤ L) : L - (intOf (Value.int IntKind.i64 ((i : Int) + 1))).toNat < L - (intOf (Value.int IntKind.i64 (i : Int))).toNat := by
  simp only [intOf]
  omega
set_option maxHeartbeats 12800000 in
theorem refCrash14_any (V : VaM) (C : Array Value) (m : Int) (w : World) (hC : RvC w C V) (g : V.Good) : Calls Tryz.prog 29 #[.agg C, .int .i64 m] w (RcPost14 (crashV V m) w) := by
  obtain ⟨v0, v1, vh, wh, rfl, hy0, hy1, hyh, hwh⟩ := hC
  have HY : Hid (∀ W, Below w.heap.size w W → Bys W v0 V.s0 ∧ Bys W v1 V.s1 ∧ Bys W vh V.torn) := hid (fun W hb => ⟨hy0.below hb, hy1.below hb, hyh.below hb⟩)
  have HWH := hid hwh
  have HG := hid g
  have hr0 : BoxRv (w.alloc (.cells (rvc V v0 v1 vh wh) 32)) w.heap.size V v0 v1 vh wh := heap_alloc_new w _
  have hb0 : Below w.heap.size w (w.alloc (.cells (rvc V v0 v1 vh wh) 32)) := (Below.refl _ _).alloc (Nat.le_refl _) _
  obtain ⟨D, HD⟩ : ∃ x : Array Value, Hid (rvc V v0 v1 vh wh = x) := ⟨_, hid rfl⟩
  rw [HD.out] at hr0 hb0 ⊢
  have hal := allocRv_eq (w.alloc (.cells D 32))
  have hb1 : Below (w.alloc (.cells D 32)).heap.size (w.alloc (.cells D 32)) ((w.alloc (.cells D 32)).alloc (.cells rvZ 32)) := (Below.refl _ _).alloc (Nat.le_refl _) _
  have HB0 := hid (hr0.below hb1)
  have HBZ := hid (hb0.trans (hb1.mono hb0.size))
  have hr1 := heap_alloc_new (w.alloc (.cells D 32)) (.cells rvZ 32)
  have hsz : (w.alloc (.cells D 32)).heap.size = w.heap.size + 1 := by simp
  rw [hsz] at hr1 hal
  have HR1 := hid hr1
  have HYZ := hid (HY.out _ HBZ.out)
  obtain ⟨A2, d2, r2⟩ := hyh.shape
  subst r2
  obtain ⟨L, HL⟩ : ∃ q : Nat, Hid (V.torn.length = q) := ⟨_, hid rfl⟩
  have HSL : Hid ((∃ A d, v0 = .slice A V.s0.length d) ∧ (∃ A d, v1 = .slice A V.s1.length d)) := hid ⟨hy0.shape, hy1.shape⟩
  rw [HL.out] at HY HB0 HYZ HD
  clear hy0 hy1 hyh hwh g hr0 hb0 hb1 hr1 hsz
  go_enter Tryz.func29, Tryz.ntmps29
  go_upto_region 1 with (fail)
  clear hal
  generalize ((w.alloc (.cells D 32)).alloc (.cells rvZ 32)) = wz at *
  by_cases ht : V.torn = []
  · have hL : L = 0 := by rw [← HL.out, ht]; rfl
    subst hL
    obtain ⟨_, _, _, _, _, _, k6, _⟩ := HB0.out.cells
    go_upto_region 10 with (fail)
    clear k6
    have HR1W := HR1
    have HE1 := hid (HB0.out.set (i := 6) (u := .slice none 0 0) (V' := { V with torn := [] }) (u0 := v0) (u1 := v1) (uh := .slice none 0 0) (k := wh) rfl)
    have HE2 := hid (HE1.out.set (i := 5) (u := .bool false) (V' := { V with torn := [], dead := false }) (u0 := v0) (u1 := v1) (uh := .slice none 0 0) (k := wh) rfl)
    have HE3 := hid (HE2.out.set (i := 4) (u := .int .i64 (-1)) (V' := { V with torn := [], dead := false, left := -1 }) (u0 := v0) (u1 := v1) (uh := .slice none 0 0) (k := wh) rfl)
    have HBE : Hid (Below w.heap.size w (((wz.setCell ⟨w.heap.size, 6, none⟩ (.slice none 0 0)).setCell ⟨w.heap.size, 5, none⟩ (.bool false)).setCell ⟨w.heap.size, 4, none⟩ (.int .i64 (-1)))) := hid (((HBZ.out.setCell (p := ⟨w.heap.size, 6, none⟩) (Nat.le_refl _) _).setCell (p := ⟨w.heap.size, 5, none⟩) (Nat.le_refl _) _).setCell (p := ⟨w.heap.size, 4, none⟩) (Nat.le_refl _) _)
    have HRE : Hid ((((wz.setCell ⟨w.heap.size, 6, none⟩ (.slice none 0 0)).setCell ⟨w.heap.size, 5, none⟩ (.bool false)).setCell ⟨w.heap.size, 4, none⟩ (.int .i64 (-1))).heap[w.heap.size + 1]? = some (.cells rvZ 32 (0, 0))) := hid (by
      rw [Below.heap_setCell _ _ _ _ (by show w.heap.size + 1 ≠ w.heap.size; omega), Below.heap_setCell _ _ _ _ (by show w.heap.size + 1 ≠ w.heap.size; omega), Below.heap_setCell _ _ _ _ (by show w.heap.size + 1 ≠ w.heap.size; omega)]
      exact HR1W.out)
    have HAW : Hid (∀ W i u x v l, W.heap[w.heap.size]? = some (.cells x 32 (0, 0)) → Bys W v l → Bys (W.setCell ⟨w.heap.size, i, none⟩ u) v l) := hid (fun W i u x v l h hv => hv.away (by simp [World.setCell]) (fun k _ hk => Below.heap_setCell _ _ _ _ (blk_ne hk h (by decide))))
    have HTR : Hid (∀ v l, Bys wz v l → Bys (((wz.setCell ⟨w.heap.size, 6, none⟩ (.slice none 0 0)).setCell ⟨w.heap.size, 5, none⟩ (.bool false)).setCell ⟨w.heap.size, 4, none⟩ (.int .i64 (-1))) v l) := hid (fun v l h => HAW.out _ _ _ _ _ _ HE2.out (HAW.out _ _ _ _ _ _ HE1.out (HAW.out _ _ _ _ _ _ HB0.out h)))
    have HCF : Hid (RvC (((wz.setCell ⟨w.heap.size, 6, none⟩ (.slice none 0 0)).setCell ⟨w.heap.size, 5, none⟩ (.bool false)).setCell ⟨w.heap.size, 4, none⟩ (.int .i64 (-1))) (rvc { V with torn := [], dead := false, left := -1 } v0 v1 (.slice none 0 0) wh) { V with torn := [], dead := false, left := -1 }) := hid ⟨_, _, _, _, rfl, HTR.out _ _ HYZ.out.1, HTR.out _ _ HYZ.out.2.1, Bys.nil _, fun h => absurd rfl h⟩
    obtain ⟨h1, h2, h3⟩ := rv_end (C := rvc { V with torn := [], dead := false, left := -1 } v0 v1 (.slice none 0 0) wh) HBE.out HRE.out (Nat.le_succ _) rfl rfl HCF.out.one
    have H2 := hid h2
    have H3 := hid h3
    have H4 := hid (HCF.out.setSe (D := rvc { V with torn := [], dead := false, left := -1 } v0 v1 (.slice none 0 0) wh) HRE.out)
    clear h2 h3
    have hld := HE3.out.ld
    have f6 := HB0.out.free 6
    have f5 := HE1.out.free 5
    have f4 := HE2.out.free 4
    obtain ⟨_, _, _, _, _, _, k6, _⟩ := HB0.out.cells
    obtain ⟨_, _, _, _, _, k5, _, _⟩ := HE1.out.cells
    obtain ⟨_, _, _, _, k4, _, _, _⟩ := HE2.out.cells
    obtain ⟨D9, HD9⟩ : ∃ q : Array Value, Hid (rvc { V with torn := [], dead := false, left := -1 } v0 v1 (.slice none 0 0) wh = q) := ⟨_, hid rfl⟩
    have HD9S : Hid (D9.size = 8) := hid (by rw [← HD9.out]; rfl)
    rw [HD9.out] at hld h1 H2 H3 H4
    go_wp2_with fail
    try simp only [Exit.inBlock, Exit.then]
    refine bodyPost_ret (results_rv1 rfl _ _ _ _ _ rfl H2.out HD9S.out) rfl ⟨_, rfl, ?_, H3.out⟩
    rw [crash_none ht m]
    exact H4.out
  · have hL : 0 < L := by rw [← HL.out]; exact List.length_pos_iff.2 ht
    have hL' : (0 : Int) < (L : Int) := by omega
    have HW2 := hid (HWH.out ht)
    have HPT := hid (placeV_two V)
    have HT := hid ht
    obtain ⟨b6, o6, rfl, hb6, hc6⟩ := HYZ.out.2.2.byt.at_.2.2.2 (List.length_pos_iff.2 ht)
    have HC6 : Hid (∀ W, Below wz.heap.size wz W → ∀ j (h : j < V.torn.length), W.cell? ⟨b6, o6 + j, none⟩ = some (bcell V.torn[j])) := hid (fun W hb j h => (hb.cell (p := ⟨b6, o6 + j, none⟩) hb6).trans (hc6 j h))
    obtain ⟨⟨A0, d0, rfl⟩, A1, d1, rfl⟩ := HSL.out
    have HLT : Hid (L ≤ 1000) := hid (by rw [← HL.out]; exact HG.out.lt)
    obtain ⟨_, k1, k2, _, _, _, k6, k7⟩ := HB0.out.cells
    clear ht hb6 hc6 hL
    obtain ⟨p, HP⟩ : ∃ q : Int, Hid (placeV V = q) := ⟨_, hid rfl⟩
    have hww : wh = p := HW2.out.trans HP.out
    subst hww
    have hpp : wh = 0 ∨ wh = 1 := by have := HPT.out; rw [HP.out] at this; exact this
    rcases hpp with rfl | rfl
    · have HPE : Hid (placeV V = 0) := HP
      have hs2 : ([] : List UInt8).length + V.s0.length ≤ 140737488355328 := by have := HG.out.l0; simp only [List.length_nil]; omega
      have HVV := hid (HYZ.out.1.byt.alloc (.cells #[] 5))
      have HSN : Hid (V.s0.length ≤ 1000) := hid HG.out.l0
      obtain ⟨N, HN⟩ : ∃ q : Nat, Hid (V.s0.length = q) := ⟨_, hid rfl⟩
      rw [HN.out] at HVV k1 HB0 HYZ HY
      obtain ⟨_, j1, j2, _, _, _, j6, j7⟩ := (HB0.out.below ((Below.refl wz.heap.size wz).alloc (Nat.le_refl _) (.cells #[] 5))).cells
      go_wp2_with (at_builtin; refine wpList_append_byt rfl (.tmp 11) (.tmp 16) rfl rfl rfl (fresh0_own wz) HVV.out hs2 (al_le wz _) ?_; intro v3 w3 ho3 hg3 hv3; simp only [List.nil_append] at ho3; have hb3 := fresh0_below hg3; clear hg3 hv3)
      have HO3 := hid ho3
      have HB3 := hid hb3
      clear ho3 hb3 hs2 k1 k2 k6 k7 j1 j2 j6 j7
      go_loopw [5, 6] (fun so si wr => ∃ i : Nat, i ≤ L ∧ i ≤ m.toNat ∧ si = .int .i64 i ∧ Hid (Own wz.heap.size wr so (tornAt V.torn V.s0 i)) ∧ Hid (Below wz.heap.size wz wr)) (fun _ si _ => L - (intOf si).toNat)
      case atStart => exact ⟨0, Nat.zero_le _, Nat.zero_le _, rfl, hid (by rw [tornAt_zero]; exact HO3.out), HB3⟩
      case round =>
        obtain ⟨i, hi, him, rfl, HOW, HBW⟩ := hrel
        obtain ⟨_, k1, k2, _, _, _, k6, k7⟩ := (HB0.out.below HBW.out).cells
        have HIM := hid him
        have HIL := hid hi
        by_cases h1 : (i : Int) < m
        · by_cases h2 : (i : Int) < (L : Int)
          · have hiL : i < V.torn.length := by rw [HL.out]; omega
            have hcb := HC6.out _ HBW.out i hiL
            have hlen := tornAt_len (own := V.s0) (Nat.le_of_lt hiL)
            rw [HN.out] at hlen
            have HH1 := hid (show i < m.toNat ∧ i < L from ⟨by omega, by omega⟩)
            have hiN : (i : Int) + 1 ≤ 1000 := by have := HLT.out; omega
            obtain ⟨x, HX⟩ : ∃ q : Int, Hid ((V.torn[i].toNat : Int) = q) := ⟨_, hid rfl⟩
            have hx := byte_lt V.torn[i]
            unfold bcell at hcb
            rw [HX.out] at hcb hx
            have HFIN : Hid (∀ W so, Own wz.heap.size W so (tornAt V.torn V.s0 (i + 1)) → Below wz.heap.size wz W → ∃ j : Nat, j ≤ L ∧ j ≤ m.toNat ∧ (Value.int .i64 ((i : Int) + 1)) = .int .i64 j ∧ Hid (Own wz.heap.size W so (tornAt V.torn V.s0 j)) ∧ Hid (Below wz.heap.size wz W)) := hid (fun W so h1 h2 => ⟨i + 1, by have := HH1.out; omega, by have := HH1.out; omega, rfl, h1, h2⟩)
            clear hi him
            by_cases h3 : i < N
            · obtain ⟨Ao, co, ro⟩ := HOW.out.byt.shape
              obtain ⟨lo, HLO⟩ : ∃ q : Nat, Hid ((tornAt V.torn V.s0 i).length = q) := ⟨_, hid rfl⟩
              rw [HLO.out] at ro
              subst ro
              have hlo : lo = N := by rw [← HLO.out, hlen]; omega
              subst hlo
              have h3' : (i : Int) < (lo : Int) := by omega
              obtain ⟨go, rfl, hrow⟩ : ∃ go, Ao = some ⟨go, 0, none⟩ ∧ wz.heap.size ≤ go := by
                rcases HOW.out.2 with ⟨e, h0⟩ | ⟨go, cap, cur, e, hg, _⟩
                · rw [hlen] at h0
                  omega
                · cases e
                  exact ⟨go, rfl, hg⟩
              obtain ⟨y, hcell⟩ : ∃ y : Int, wr.cell? ⟨go, i, none⟩ = some (.int .u8 y) := by
                obtain ⟨b', o', e, _, hc⟩ := HOW.out.byt.at_.2.2.2 (by rw [hlen]; omega)
                injection e with e
                injection e with e1 e2 _
                subst e1 e2
                have := hc i (by rw [hlen]; omega)
                rw [Nat.zero_add] at this
                exact ⟨_, this⟩
              have hfro : wr.frozen? ⟨go, i, none⟩ = false := World.ownsRow.frozenAt (by have := HOW.out; unfold Own at this; rw [hlen, show max i lo = lo by omega] at this; exact this) i
              have HS := hid (own_set HOW.out (by rw [hlen]; omega) (i := i) V.torn[i])
              rw [tornAt_set hiL (by rw [HN.out]; exact h3)] at HS
              have HBS := hid (HBW.out.setCell (p := ⟨go, i, none⟩) hrow (bcell V.torn[i]))
              unfold bcell at HS HBS
              rw [HX.out] at HS HBS
              have HFF := hid (HFIN.out _ _ HS.out HBS.out)
              clear hlen h3 hrow HX
              go_wp2
              go_roundw
              case rel => exact HFF.out
              case measure => exact rc_meas HH1.out.2 HIL.out
            · obtain ⟨Ao, co, ro⟩ := HOW.out.byt.shape
              obtain ⟨lo, HLO⟩ : ∃ q : Nat, Hid ((tornAt V.torn V.s0 i).length = q) := ⟨_, hid rfl⟩
              rw [HLO.out] at ro
              subst ro
              have hlo : lo = i := by rw [← HLO.out, hlen]; omega
              subst hlo
              have h3' : ¬ (lo : Int) < (lo : Int) := by omega
              have hs4 : (tornAt V.torn V.s0 lo).length + [V.torn[lo]].length ≤ 140737488355328 := by rw [hlen]; have := HLT.out; have := HSN.out; simp only [List.length_cons, List.length_nil]; omega
              have HONE := hid (byt_one wr x V.torn[lo] HX.out.symm)
              have HOA := hid (HOW.out.alloc (.cells #[.int .u8 x] 5))
              have HADD := hid (tornAt_add hiL (own := V.s0) (by rw [HN.out]; omega))
              have HSZ := hid (show wz.heap.size ≤ (wr.alloc (.cells #[.int .u8 x] 5)).heap.size from Nat.le_trans HBW.out.size (al_le _ _))
              have HBA := hid (HBW.out.alloc HBW.out.size (.cells #[.int .u8 x] 5))
              have HH2 := hid (show lo < L from HH1.out.2)
              clear hlen h3
              go_wp2_with (at_builtin; refine wpList_append_byt rfl (.tmp 42) (.tmp 48) rfl rfl rfl HOA.out HONE.out hs4 HSZ.out ?_; intro v4 w4 ho4 hg4 hv4; rw [HADD.out] at ho4; have hb4 := HBA.out.grown hg4 HSZ.out (fun k hk => (World.ownsRow.lt HOA.out k hk).1); clear hg4 hv4)
              have HFF := hid (HFIN.out _ _ ho4 hb4)
              clear ho4 hb4
              go_roundw
              case rel => exact HFF.out
              case measure => exact rc_meas HH2.out HIL.out
          · have hiL : L = i := by omega
            subst hiL
            have HTE := hid (tornAt_end (own := V.s0) (m := m) (Nat.le_of_eq HL.out.symm) (by rw [HL.out]; omega))
            rw [HTE.out] at HOW
            clear hi him
            obtain ⟨Ao, co, ro⟩ := HOW.out.byt.shape
            obtain ⟨lo, HLO⟩ : ∃ q : Nat, Hid ((tearL V.torn V.s0 m).length = q) := ⟨_, hid rfl⟩
            rw [HLO.out] at ro
            subst ro
            have HBX := hid ((HB0.out.below HBW.out).set (i := 1) (u := .slice Ao lo co) (V' := putV V 0 (tearL V.torn V.s0 m)) (u0 := (.slice Ao lo co)) (u1 := (.slice A1 V.s1.length d1)) (uh := (.slice (some ⟨b6, o6, none⟩) L d2)) (k := 0) rfl)
            have fS := (HB0.out.below HBW.out).free 1
            have HWB := hid ((HBZ.out.trans (HBW.out.mono HBZ.out.size)).setCell (p := ⟨w.heap.size, 1, none⟩) (Nat.le_refl _) (.slice Ao lo co))
            have HR1W : Hid ((wr.setCell ⟨w.heap.size, 1, none⟩ (.slice Ao lo co)).heap[w.heap.size + 1]? = some (.cells rvZ 32 (0, 0))) := hid (by
              rw [Below.heap_setCell _ _ _ _ (by show w.heap.size + 1 ≠ w.heap.size; omega)]
              exact (HBW.out.block _ (lt_of_block HR1.out)).trans HR1.out)
            have HAV : Hid (∀ v l, Bys wr v l → Bys (wr.setCell ⟨w.heap.size, 1, none⟩ (.slice Ao lo co)) v l) := hid (fun v l hv => hv.away (by simp [World.setCell]) (fun k _ hk => Below.heap_setCell _ _ _ _ (blk_ne hk (HB0.out.below HBW.out) (by decide))))
            have HYF := hid (HY.out _ (HBZ.out.trans (HBW.out.mono HBZ.out.size)))
            have HYS := hid (HAV.out _ _ HOW.out.bys)
            have HYO := hid (HAV.out _ _ HYF.out.2.1)
            go_upto_region 10 with (fail)
            clear k1 k2 k6 k7 fS
            generalize (wr.setCell ⟨w.heap.size, 1, none⟩ (.slice Ao lo co)) = wt at *
            have HE1 := hid (HBX.out.set (i := 6) (u := .slice none 0 0) (V' := { putV V 0 (tearL V.torn V.s0 m) with torn := [] }) (u0 := (.slice Ao lo co)) (u1 := (.slice A1 V.s1.length d1)) (uh := .slice none 0 0) (k := 0) rfl)
            have HE2 := hid (HE1.out.set (i := 5) (u := .bool false) (V' := { putV V 0 (tearL V.torn V.s0 m) with torn := [], dead := false }) (u0 := (.slice Ao lo co)) (u1 := (.slice A1 V.s1.length d1)) (uh := .slice none 0 0) (k := 0) rfl)
            have HE3 := hid (HE2.out.set (i := 4) (u := .int .i64 (-1)) (V' := { putV V 0 (tearL V.torn V.s0 m) with torn := [], dead := false, left := -1 }) (u0 := (.slice Ao lo co)) (u1 := (.slice A1 V.s1.length d1)) (uh := .slice none 0 0) (k := 0) rfl)
            have HBE : Hid (Below w.heap.size w (((wt.setCell ⟨w.heap.size, 6, none⟩ (.slice none 0 0)).setCell ⟨w.heap.size, 5, none⟩ (.bool false)).setCell ⟨w.heap.size, 4, none⟩ (.int .i64 (-1)))) := hid (((HWB.out.setCell (p := ⟨w.heap.size, 6, none⟩) (Nat.le_refl _) _).setCell (p := ⟨w.heap.size, 5, none⟩) (Nat.le_refl _) _).setCell (p := ⟨w.heap.size, 4, none⟩) (Nat.le_refl _) _)
            have HRE : Hid ((((wt.setCell ⟨w.heap.size, 6, none⟩ (.slice none 0 0)).setCell ⟨w.heap.size, 5, none⟩ (.bool false)).setCell ⟨w.heap.size, 4, none⟩ (.int .i64 (-1))).heap[w.heap.size + 1]? = some (.cells rvZ 32 (0, 0))) := hid (by
              rw [Below.heap_setCell _ _ _ _ (by show w.heap.size + 1 ≠ w.heap.size; omega), Below.heap_setCell _ _ _ _ (by show w.heap.size + 1 ≠ w.heap.size; omega), Below.heap_setCell _ _ _ _ (by show w.heap.size + 1 ≠ w.heap.size; omega)]
              exact HR1W.out)
            have HAW : Hid (∀ W i u x v l, W.heap[w.heap.size]? = some (.cells x 32 (0, 0)) → Bys W v l → Bys (W.setCell ⟨w.heap.size, i, none⟩ u) v l) := hid (fun W i u x v l h hv => hv.away (by simp [World.setCell]) (fun k _ hk => Below.heap_setCell _ _ _ _ (blk_ne hk h (by decide))))
            have HTR : Hid (∀ v l, Bys wt v l → Bys (((wt.setCell ⟨w.heap.size, 6, none⟩ (.slice none 0 0)).setCell ⟨w.heap.size, 5, none⟩ (.bool false)).setCell ⟨w.heap.size, 4, none⟩ (.int .i64 (-1))) v l) := hid (fun v l h => HAW.out _ _ _ _ _ _ HE2.out (HAW.out _ _ _ _ _ _ HE1.out (HAW.out _ _ _ _ _ _ HBX.out h)))
            have HCF : Hid (RvC (((wt.setCell ⟨w.heap.size, 6, none⟩ (.slice none 0 0)).setCell ⟨w.heap.size, 5, none⟩ (.bool false)).setCell ⟨w.heap.size, 4, none⟩ (.int .i64 (-1))) (rvc { putV V 0 (tearL V.torn V.s0 m) with torn := [], dead := false, left := -1 } (.slice Ao lo co) (.slice A1 V.s1.length d1) (.slice none 0 0) 0) { putV V 0 (tearL V.torn V.s0 m) with torn := [], dead := false, left := -1 }) := hid ⟨_, _, _, _, rfl, HTR.out _ _ HYS.out, HTR.out _ _ HYO.out, Bys.nil _, fun h => absurd rfl h⟩
            obtain ⟨h1, h2, h3⟩ := rv_end (C := rvc { putV V 0 (tearL V.torn V.s0 m) with torn := [], dead := false, left := -1 } (.slice Ao lo co) (.slice A1 V.s1.length d1) (.slice none 0 0) 0) HBE.out HRE.out (Nat.le_succ _) rfl rfl HCF.out.one
            have H2 := hid h2
            have H3 := hid h3
            have H4 := hid (HCF.out.setSe (D := rvc { putV V 0 (tearL V.torn V.s0 m) with torn := [], dead := false, left := -1 } (.slice Ao lo co) (.slice A1 V.s1.length d1) (.slice none 0 0) 0) HRE.out)
            clear h2 h3
            have hld := HE3.out.ld
            have f6 := HBX.out.free 6
            have f5 := HE1.out.free 5
            have f4 := HE2.out.free 4
            obtain ⟨_, _, _, _, _, _, k6, _⟩ := HBX.out.cells
            obtain ⟨_, _, _, _, _, k5, _, _⟩ := HE1.out.cells
            obtain ⟨_, _, _, _, k4, _, _, _⟩ := HE2.out.cells
            obtain ⟨D9, HD9⟩ : ∃ q : Array Value, Hid (rvc { putV V 0 (tearL V.torn V.s0 m) with torn := [], dead := false, left := -1 } (.slice Ao lo co) (.slice A1 V.s1.length d1) (.slice none 0 0) 0 = q) := ⟨_, hid rfl⟩
            have HD9S : Hid (D9.size = 8) := hid (by rw [← HD9.out]; rfl)
            rw [HD9.out] at hld h1 H2 H3 H4
            go_wp2_with fail
            try simp only [Exit.inBlock, Exit.then]
            refine bodyPost_ret (results_rv1 rfl _ _ _ _ _ rfl H2.out HD9S.out) rfl ⟨_, rfl, ?_, H3.out⟩
            rw [crash_some HT.out m, HPE.out]
            exact H4.out
        · have hiM : i = m.toNat := by omega
          have HTE := hid (tornAt_end (own := V.s0) (m := m) (by rw [HL.out]; exact HIL.out) (by rw [HL.out]; have := HIL.out; omega))
          rw [HTE.out] at HOW
          clear hi him hiM
          obtain ⟨Ao, co, ro⟩ := HOW.out.byt.shape
          obtain ⟨lo, HLO⟩ : ∃ q : Nat, Hid ((tearL V.torn V.s0 m).length = q) := ⟨_, hid rfl⟩
          rw [HLO.out] at ro
          subst ro
          have HBX := hid ((HB0.out.below HBW.out).set (i := 1) (u := .slice Ao lo co) (V' := putV V 0 (tearL V.torn V.s0 m)) (u0 := (.slice Ao lo co)) (u1 := (.slice A1 V.s1.length d1)) (uh := (.slice (some ⟨b6, o6, none⟩) L d2)) (k := 0) rfl)
          have fS := (HB0.out.below HBW.out).free 1
          have HWB := hid ((HBZ.out.trans (HBW.out.mono HBZ.out.size)).setCell (p := ⟨w.heap.size, 1, none⟩) (Nat.le_refl _) (.slice Ao lo co))
          have HR1W : Hid ((wr.setCell ⟨w.heap.size, 1, none⟩ (.slice Ao lo co)).heap[w.heap.size + 1]? = some (.cells rvZ 32 (0, 0))) := hid (by
            rw [Below.heap_setCell _ _ _ _ (by show w.heap.size + 1 ≠ w.heap.size; omega)]
            exact (HBW.out.block _ (lt_of_block HR1.out)).trans HR1.out)
          have HAV : Hid (∀ v l, Bys wr v l → Bys (wr.setCell ⟨w.heap.size, 1, none⟩ (.slice Ao lo co)) v l) := hid (fun v l hv => hv.away (by simp [World.setCell]) (fun k _ hk => Below.heap_setCell _ _ _ _ (blk_ne hk (HB0.out.below HBW.out) (by decide))))
          have HYF := hid (HY.out _ (HBZ.out.trans (HBW.out.mono HBZ.out.size)))
          have HYS := hid (HAV.out _ _ HOW.out.bys)
          have HYO := hid (HAV.out _ _ HYF.out.2.1)
          go_upto_region 10 with (fail)
          clear k1 k2 k6 k7 fS
          generalize (wr.setCell ⟨w.heap.size, 1, none⟩ (.slice Ao lo co)) = wt at *
          have HE1 := hid (HBX.out.set (i := 6) (u := .slice none 0 0) (V' := { putV V 0 (tearL V.torn V.s0 m) with torn := [] }) (u0 := (.slice Ao lo co)) (u1 := (.slice A1 V.s1.length d1)) (uh := .slice none 0 0) (k := 0) rfl)
          have HE2 := hid (HE1.out.set (i := 5) (u := .bool false) (V' := { putV V 0 (tearL V.torn V.s0 m) with torn := [], dead := false }) (u0 := (.slice Ao lo co)) (u1 := (.slice A1 V.s1.length d1)) (uh := .slice none 0 0) (k := 0) rfl)
          have HE3 := hid (HE2.out.set (i := 4) (u := .int .i64 (-1)) (V' := { putV V 0 (tearL V.torn V.s0 m) with torn := [], dead := false, left := -1 }) (u0 := (.slice Ao lo co)) (u1 := (.slice A1 V.s1.length d1)) (uh := .slice none 0 0) (k := 0) rfl)
          have HBE : Hid (Below w.heap.size w (((wt.setCell ⟨w.heap.size, 6, none⟩ (.slice none 0 0)).setCell ⟨w.heap.size, 5, none⟩ (.bool false)).setCell ⟨w.heap.size, 4, none⟩ (.int .i64 (-1)))) := hid (((HWB.out.setCell (p := ⟨w.heap.size, 6, none⟩) (Nat.le_refl _) _).setCell (p := ⟨w.heap.size, 5, none⟩) (Nat.le_refl _) _).setCell (p := ⟨w.heap.size, 4, none⟩) (Nat.le_refl _) _)
          have HRE : Hid ((((wt.setCell ⟨w.heap.size, 6, none⟩ (.slice none 0 0)).setCell ⟨w.heap.size, 5, none⟩ (.bool false)).setCell ⟨w.heap.size, 4, none⟩ (.int .i64 (-1))).heap[w.heap.size + 1]? = some (.cells rvZ 32 (0, 0))) := hid (by
            rw [Below.heap_setCell _ _ _ _ (by show w.heap.size + 1 ≠ w.heap.size; omega), Below.heap_setCell _ _ _ _ (by show w.heap.size + 1 ≠ w.heap.size; omega), Below.heap_setCell _ _ _ _ (by show w.heap.size + 1 ≠ w.heap.size; omega)]
            exact HR1W.out)
          have HAW : Hid (∀ W i u x v l, W.heap[w.heap.size]? = some (.cells x 32 (0, 0)) → Bys W v l → Bys (W.setCell ⟨w.heap.size, i, none⟩ u) v l) := hid (fun W i u x v l h hv => hv.away (by simp [World.setCell]) (fun k _ hk => Below.heap_setCell _ _ _ _ (blk_ne hk h (by decide))))
          have HTR : Hid (∀ v l, Bys wt v l → Bys (((wt.setCell ⟨w.heap.size, 6, none⟩ (.slice none 0 0)).setCell ⟨w.heap.size, 5, none⟩ (.bool false)).setCell ⟨w.heap.size, 4, none⟩ (.int .i64 (-1))) v l) := hid (fun v l h => HAW.out _ _ _ _ _ _ HE2.out (HAW.out _ _ _ _ _ _ HE1.out (HAW.out _ _ _ _ _ _ HBX.out h)))
          have HCF : Hid (RvC (((wt.setCell ⟨w.heap.size, 6, none⟩ (.slice none 0 0)).setCell ⟨w.heap.size, 5, none⟩ (.bool false)).setCell ⟨w.heap.size, 4, none⟩ (.int .i64 (-1))) (rvc { putV V 0 (tearL V.torn V.s0 m) with torn := [], dead := false, left := -1 } (.slice Ao lo co) (.slice A1 V.s1.length d1) (.slice none 0 0) 0) { putV V 0 (tearL V.torn V.s0 m) with torn := [], dead := false, left := -1 }) := hid ⟨_, _, _, _, rfl, HTR.out _ _ HYS.out, HTR.out _ _ HYO.out, Bys.nil _, fun h => absurd rfl h⟩
          obtain ⟨h1, h2, h3⟩ := rv_end (C := rvc { putV V 0 (tearL V.torn V.s0 m) with torn := [], dead := false, left := -1 } (.slice Ao lo co) (.slice A1 V.s1.length d1) (.slice none 0 0) 0) HBE.out HRE.out (Nat.le_succ _) rfl rfl HCF.out.one
          have H2 := hid h2
          have H3 := hid h3
          have H4 := hid (HCF.out.setSe (D := rvc { putV V 0 (tearL V.torn V.s0 m) with torn := [], dead := false, left := -1 } (.slice Ao lo co) (.slice A1 V.s1.length d1) (.slice none 0 0) 0) HRE.out)
          clear h2 h3
          have hld := HE3.out.ld
          have f6 := HBX.out.free 6
          have f5 := HE1.out.free 5
          have f4 := HE2.out.free 4
          obtain ⟨_, _, _, _, _, _, k6, _⟩ := HBX.out.cells
          obtain ⟨_, _, _, _, _, k5, _, _⟩ := HE1.out.cells
          obtain ⟨_, _, _, _, k4, _, _, _⟩ := HE2.out.cells
          obtain ⟨D9, HD9⟩ : ∃ q : Array Value, Hid (rvc { putV V 0 (tearL V.torn V.s0 m) with torn := [], dead := false, left := -1 } (.slice Ao lo co) (.slice A1 V.s1.length d1) (.slice none 0 0) 0 = q) := ⟨_, hid rfl⟩
          have HD9S : Hid (D9.size = 8) := hid (by rw [← HD9.out]; rfl)
          rw [HD9.out] at hld h1 H2 H3 H4
          go_wp2_with fail
          try simp only [Exit.inBlock, Exit.then]
          refine bodyPost_ret (results_rv1 rfl _ _ _ _ _ rfl H2.out HD9S.out) rfl ⟨_, rfl, ?_, H3.out⟩
          rw [crash_some HT.out m, HPE.out]
          exact H4.out
    · have HPE : Hid (placeV V = 1) := HP
      have hs2 : ([] : List UInt8).length + V.s1.length ≤ 140737488355328 := by have := HG.out.l1; simp only [List.length_nil]; omega
      have HVV := hid (HYZ.out.2.1.byt.alloc (.cells #[] 5))
      have HSN : Hid (V.s1.length ≤ 1000) := hid HG.out.l1
      obtain ⟨N, HN⟩ : ∃ q : Nat, Hid (V.s1.length = q) := ⟨_, hid rfl⟩
      rw [HN.out] at HVV k2 HB0 HYZ HY
      obtain ⟨_, j1, j2, _, _, _, j6, j7⟩ := (HB0.out.below ((Below.refl wz.heap.size wz).alloc (Nat.le_refl _) (.cells #[] 5))).cells
      go_wp2_with (at_builtin; refine wpList_append_byt rfl (.tmp 11) (.tmp 16) rfl rfl rfl (fresh0_own wz) HVV.out hs2 (al_le wz _) ?_; intro v3 w3 ho3 hg3 hv3; simp only [List.nil_append] at ho3; have hb3 := fresh0_below hg3; clear hg3 hv3)
      have HO3 := hid ho3
      have HB3 := hid hb3
      clear ho3 hb3 hs2 k1 k2 k6 k7 j1 j2 j6 j7
      go_loopw [5, 6] (fun so si wr => ∃ i : Nat, i ≤ L ∧ i ≤ m.toNat ∧ si = .int .i64 i ∧ Hid (Own wz.heap.size wr so (tornAt V.torn V.s1 i)) ∧ Hid (Below wz.heap.size wz wr)) (fun _ si _ => L - (intOf si).toNat)
      case atStart => exact ⟨0, Nat.zero_le _, Nat.zero_le _, rfl, hid (by rw [tornAt_zero]; exact HO3.out), HB3⟩
      case round =>
        obtain ⟨i, hi, him, rfl, HOW, HBW⟩ := hrel
        obtain ⟨_, k1, k2, _, _, _, k6, k7⟩ := (HB0.out.below HBW.out).cells
        have HIM := hid him
        have HIL := hid hi
        by_cases h1 : (i : Int) < m
        · by_cases h2 : (i : Int) < (L : Int)
          · have hiL : i < V.torn.length := by rw [HL.out]; omega
            have hcb := HC6.out _ HBW.out i hiL
            have hlen := tornAt_len (own := V.s1) (Nat.le_of_lt hiL)
            rw [HN.out] at hlen
            have HH1 := hid (show i < m.toNat ∧ i < L from ⟨by omega, by omega⟩)
            have hiN : (i : Int) + 1 ≤ 1000 := by have := HLT.out; omega
            obtain ⟨x, HX⟩ : ∃ q : Int, Hid ((V.torn[i].toNat : Int) = q) := ⟨_, hid rfl⟩
            have hx := byte_lt V.torn[i]
            unfold bcell at hcb
            rw [HX.out] at hcb hx
            have HFIN : Hid (∀ W so, Own wz.heap.size W so (tornAt V.torn V.s1 (i + 1)) → Below wz.heap.size wz W → ∃ j : Nat, j ≤ L ∧ j ≤ m.toNat ∧ (Value.int .i64 ((i : Int) + 1)) = .int .i64 j ∧ Hid (Own wz.heap.size W so (tornAt V.torn V.s1 j)) ∧ Hid (Below wz.heap.size wz W)) := hid (fun W so h1 h2 => ⟨i + 1, by have := HH1.out; omega, by have := HH1.out; omega, rfl, h1, h2⟩)
            clear hi him
            by_cases h3 : i < N
            · obtain ⟨Ao, co, ro⟩ := HOW.out.byt.shape
              obtain ⟨lo, HLO⟩ : ∃ q : Nat, Hid ((tornAt V.torn V.s1 i).length = q) := ⟨_, hid rfl⟩
              rw [HLO.out] at ro
              subst ro
              have hlo : lo = N := by rw [← HLO.out, hlen]; omega
              subst hlo
              have h3' : (i : Int) < (lo : Int) := by omega
              obtain ⟨go, rfl, hrow⟩ : ∃ go, Ao = some ⟨go, 0, none⟩ ∧ wz.heap.size ≤ go := by
                rcases HOW.out.2 with ⟨e, h0⟩ | ⟨go, cap, cur, e, hg, _⟩
                · rw [hlen] at h0
                  omega
                · cases e
                  exact ⟨go, rfl, hg⟩
              obtain ⟨y, hcell⟩ : ∃ y : Int, wr.cell? ⟨go, i, none⟩ = some (.int .u8 y) := by
                obtain ⟨b', o', e, _, hc⟩ := HOW.out.byt.at_.2.2.2 (by rw [hlen]; omega)
                injection e with e
                injection e with e1 e2 _
                subst e1 e2
                have := hc i (by rw [hlen]; omega)
                rw [Nat.zero_add] at this
                exact ⟨_, this⟩
              have hfro : wr.frozen? ⟨go, i, none⟩ = false := World.ownsRow.frozenAt (by have := HOW.out; unfold Own at this; rw [hlen, show max i lo = lo by omega] at this; exact this) i
              have HS := hid (own_set HOW.out (by rw [hlen]; omega) (i := i) V.torn[i])
              rw [tornAt_set hiL (by rw [HN.out]; exact h3)] at HS
              have HBS := hid (HBW.out.setCell (p := ⟨go, i, none⟩) hrow (bcell V.torn[i]))
              unfold bcell at HS HBS
              rw [HX.out] at HS HBS
              have HFF := hid (HFIN.out _ _ HS.out HBS.out)
              clear hlen h3 hrow HX
              go_wp2
              go_roundw
              case rel => exact HFF.out
              case measure => exact rc_meas HH1.out.2 HIL.out
            · obtain ⟨Ao, co, ro⟩ := HOW.out.byt.shape
              obtain ⟨lo, HLO⟩ : ∃ q : Nat, Hid ((tornAt V.torn V.s1 i).length = q) := ⟨_, hid rfl⟩
              rw [HLO.out] at ro
              subst ro
              have hlo : lo = i := by rw [← HLO.out, hlen]; omega
              subst hlo
              have h3' : ¬ (lo : Int) < (lo : Int) := by omega
              have hs4 : (tornAt V.torn V.s1 lo).length + [V.torn[lo]].length ≤ 140737488355328 := by rw [hlen]; have := HLT.out; have := HSN.out; simp only [List.length_cons, List.length_nil]; omega
              have HONE := hid (byt_one wr x V.torn[lo] HX.out.symm)
              have HOA := hid (HOW.out.alloc (.cells #[.int .u8 x] 5))
              have HADD := hid (tornAt_add hiL (own := V.s1) (by rw [HN.out]; omega))
              have HSZ := hid (show wz.heap.size ≤ (wr.alloc (.cells #[.int .u8 x] 5)).heap.size from Nat.le_trans HBW.out.size (al_le _ _))
              have HBA := hid (HBW.out.alloc HBW.out.size (.cells #[.int .u8 x] 5))
              have HH2 := hid (show lo < L from HH1.out.2)
              clear hlen h3
              go_wp2_with (at_builtin; refine wpList_append_byt rfl (.tmp 42) (.tmp 48) rfl rfl rfl HOA.out HONE.out hs4 HSZ.out ?_; intro v4 w4 ho4 hg4 hv4; rw [HADD.out] at ho4; have hb4 := HBA.out.grown hg4 HSZ.out (fun k hk => (World.ownsRow.lt HOA.out k hk).1); clear hg4 hv4)
              have HFF := hid (HFIN.out _ _ ho4 hb4)
              clear ho4 hb4
              go_roundw
              case rel => exact HFF.out
              case measure => exact rc_meas HH2.out HIL.out
          · have hiL : L = i := by omega
            subst hiL
            have HTE := hid (tornAt_end (own := V.s1) (m := m) (Nat.le_of_eq HL.out.symm) (by rw [HL.out]; omega))
            rw [HTE.out] at HOW
            clear hi him
            obtain ⟨Ao, co, ro⟩ := HOW.out.byt.shape
            obtain ⟨lo, HLO⟩ : ∃ q : Nat, Hid ((tearL V.torn V.s1 m).length = q) := ⟨_, hid rfl⟩
            rw [HLO.out] at ro
            subst ro
            have HBX := hid ((HB0.out.below HBW.out).set (i := 2) (u := .slice Ao lo co) (V' := putV V 1 (tearL V.torn V.s1 m)) (u0 := (.slice A0 V.s0.length d0)) (u1 := (.slice Ao lo co)) (uh := (.slice (some ⟨b6, o6, none⟩) L d2)) (k := 1) rfl)
            have fS := (HB0.out.below HBW.out).free 2
            have HWB := hid ((HBZ.out.trans (HBW.out.mono HBZ.out.size)).setCell (p := ⟨w.heap.size, 2, none⟩) (Nat.le_refl _) (.slice Ao lo co))
            have HR1W : Hid ((wr.setCell ⟨w.heap.size, 2, none⟩ (.slice Ao lo co)).heap[w.heap.size + 1]? = some (.cells rvZ 32 (0, 0))) := hid (by
              rw [Below.heap_setCell _ _ _ _ (by show w.heap.size + 1 ≠ w.heap.size; omega)]
              exact (HBW.out.block _ (lt_of_block HR1.out)).trans HR1.out)
            have HAV : Hid (∀ v l, Bys wr v l → Bys (wr.setCell ⟨w.heap.size, 2, none⟩ (.slice Ao lo co)) v l) := hid (fun v l hv => hv.away (by simp [World.setCell]) (fun k _ hk => Below.heap_setCell _ _ _ _ (blk_ne hk (HB0.out.below HBW.out) (by decide))))
            have HYF := hid (HY.out _ (HBZ.out.trans (HBW.out.mono HBZ.out.size)))
            have HYS := hid (HAV.out _ _ HOW.out.bys)
            have HYO := hid (HAV.out _ _ HYF.out.1)
            go_upto_region 10 with (fail)
            clear k1 k2 k6 k7 fS
            generalize (wr.setCell ⟨w.heap.size, 2, none⟩ (.slice Ao lo co)) = wt at *
            have HE1 := hid (HBX.out.set (i := 6) (u := .slice none 0 0) (V' := { putV V 1 (tearL V.torn V.s1 m) with torn := [] }) (u0 := (.slice A0 V.s0.length d0)) (u1 := (.slice Ao lo co)) (uh := .slice none 0 0) (k := 1) rfl)
            have HE2 := hid (HE1.out.set (i := 5) (u := .bool false) (V' := { putV V 1 (tearL V.torn V.s1 m) with torn := [], dead := false }) (u0 := (.slice A0 V.s0.length d0)) (u1 := (.slice Ao lo co)) (uh := .slice none 0 0) (k := 1) rfl)
            have HE3 := hid (HE2.out.set (i := 4) (u := .int .i64 (-1)) (V' := { putV V 1 (tearL V.torn V.s1 m) with torn := [], dead := false, left := -1 }) (u0 := (.slice A0 V.s0.length d0)) (u1 := (.slice Ao lo co)) (uh := .slice none 0 0) (k := 1) rfl)
            have HBE : Hid (Below w.heap.size w (((wt.setCell ⟨w.heap.size, 6, none⟩ (.slice none 0 0)).setCell ⟨w.heap.size, 5, none⟩ (.bool false)).setCell ⟨w.heap.size, 4, none⟩ (.int .i64 (-1)))) := hid (((HWB.out.setCell (p := ⟨w.heap.size, 6, none⟩) (Nat.le_refl _) _).setCell (p := ⟨w.heap.size, 5, none⟩) (Nat.le_refl _) _).setCell (p := ⟨w.heap.size, 4, none⟩) (Nat.le_refl _) _)
            have HRE : Hid ((((wt.setCell ⟨w.heap.size, 6, none⟩ (.slice none 0 0)).setCell ⟨w.heap.size, 5, none⟩ (.bool false)).setCell ⟨w.heap.size, 4, none⟩ (.int .i64 (-1))).heap[w.heap.size + 1]? = some (.cells rvZ 32 (0, 0))) := hid (by
              rw [Below.heap_setCell _ _ _ _ (by show w.heap.size + 1 ≠ w.heap.size; omega), Below.heap_setCell _ _ _ _ (by show w.heap.size + 1 ≠ w.heap.size; omega), Below.heap_setCell _ _ _ _ (by show w.heap.size + 1 ≠ w.heap.size; omega)]
              exact HR1W.out)
            have HAW : Hid (∀ W i u x v l, W.heap[w.heap.size]? = some (.cells x 32 (0, 0)) → Bys W v l → Bys (W.setCell ⟨w.heap.size, i, none⟩ u) v l) := hid (fun W i u x v l h hv => hv.away (by simp [World.setCell]) (fun k _ hk => Below.heap_setCell _ _ _ _ (blk_ne hk h (by decide))))
            have HTR : Hid (∀ v l, Bys wt v l → Bys (((wt.setCell ⟨w.heap.size, 6, none⟩ (.slice none 0 0)).setCell ⟨w.heap.size, 5, none⟩ (.bool false)).setCell ⟨w.heap.size, 4, none⟩ (.int .i64 (-1))) v l) := hid (fun v l h => HAW.out _ _ _ _ _ _ HE2.out (HAW.out _ _ _ _ _ _ HE1.out (HAW.out _ _ _ _ _ _ HBX.out h)))
            have HCF : Hid (RvC (((wt.setCell ⟨w.heap.size, 6, none⟩ (.slice none 0 0)).setCell ⟨w.heap.size, 5, none⟩ (.bool false)).setCell ⟨w.heap.size, 4, none⟩ (.int .i64 (-1))) (rvc { putV V 1 (tearL V.torn V.s1 m) with torn := [], dead := false, left := -1 } (.slice A0 V.s0.length d0) (.slice Ao lo co) (.slice none 0 0) 1) { putV V 1 (tearL V.torn V.s1 m) with torn := [], dead := false, left := -1 }) := hid ⟨_, _, _, _, rfl, HTR.out _ _ HYO.out, HTR.out _ _ HYS.out, Bys.nil _, fun h => absurd rfl h⟩
            obtain ⟨h1, h2, h3⟩ := rv_end (C := rvc { putV V 1 (tearL V.torn V.s1 m) with torn := [], dead := false, left := -1 } (.slice A0 V.s0.length d0) (.slice Ao lo co) (.slice none 0 0) 1) HBE.out HRE.out (Nat.le_succ _) rfl rfl HCF.out.one
            have H2 := hid h2
            have H3 := hid h3
            have H4 := hid (HCF.out.setSe (D := rvc { putV V 1 (tearL V.torn V.s1 m) with torn := [], dead := false, left := -1 } (.slice A0 V.s0.length d0) (.slice Ao lo co) (.slice none 0 0) 1) HRE.out)
            clear h2 h3
            have hld := HE3.out.ld
            have f6 := HBX.out.free 6
            have f5 := HE1.out.free 5
            have f4 := HE2.out.free 4
            obtain ⟨_, _, _, _, _, _, k6, _⟩ := HBX.out.cells
            obtain ⟨_, _, _, _, _, k5, _, _⟩ := HE1.out.cells
            obtain ⟨_, _, _, _, k4, _, _, _⟩ := HE2.out.cells
            obtain ⟨D9, HD9⟩ : ∃ q : Array Value, Hid (rvc { putV V 1 (tearL V.torn V.s1 m) with torn := [], dead := false, left := -1 } (.slice A0 V.s0.length d0) (.slice Ao lo co) (.slice none 0 0) 1 = q) := ⟨_, hid rfl⟩
            have HD9S : Hid (D9.size = 8) := hid (by rw [← HD9.out]; rfl)
            rw [HD9.out] at hld h1 H2 H3 H4
            go_wp2_with fail
            try simp only [Exit.inBlock, Exit.then]
            refine bodyPost_ret (results_rv1 rfl _ _ _ _ _ rfl H2.out HD9S.out) rfl ⟨_, rfl, ?_, H3.out⟩
            rw [crash_some HT.out m, HPE.out]
            exact H4.out
        · have hiM : i = m.toNat := by omega
          have HTE := hid (tornAt_end (own := V.s1) (m := m) (by rw [HL.out]; exact HIL.out) (by rw [HL.out]; have := HIL.out; omega))
          rw [HTE.out] at HOW
          clear hi him hiM
          obtain ⟨Ao, co, ro⟩ := HOW.out.byt.shape
          obtain ⟨lo, HLO⟩ : ∃ q : Nat, Hid ((tearL V.torn V.s1 m).length = q) := ⟨_, hid rfl⟩
          rw [HLO.out] at ro
          subst ro
          have HBX := hid ((HB0.out.below HBW.out).set (i := 2) (u := .slice Ao lo co) (V' := putV V 1 (tearL V.torn V.s1 m)) (u0 := (.slice A0 V.s0.length d0)) (u1 := (.slice Ao lo co)) (uh := (.slice (some ⟨b6, o6, none⟩) L d2)) (k := 1) rfl)
          have fS := (HB0.out.below HBW.out).free 2
          have HWB := hid ((HBZ.out.trans (HBW.out.mono HBZ.out.size)).setCell (p := ⟨w.heap.size, 2, none⟩) (Nat.le_refl _) (.slice Ao lo co))
          have HR1W : Hid ((wr.setCell ⟨w.heap.size, 2, none⟩ (.slice Ao lo co)).heap[w.heap.size + 1]? = some (.cells rvZ 32 (0, 0))) := hid (by
            rw [Below.heap_setCell _ _ _ _ (by show w.heap.size + 1 ≠ w.heap.size; omega)]
            exact (HBW.out.block _ (lt_of_block HR1.out)).trans HR1.out)
          have HAV : Hid (∀ v l, Bys wr v l → Bys (wr.setCell ⟨w.heap.size, 2, none⟩ (.slice Ao lo co)) v l) := hid (fun v l hv => hv.away (by simp [World.setCell]) (fun k _ hk => Below.heap_setCell _ _ _ _ (blk_ne hk (HB0.out.below HBW.out) (by decide))))
          have HYF := hid (HY.out _ (HBZ.out.trans (HBW.out.mono HBZ.out.size)))
          have HYS := hid (HAV.out _ _ HOW.out.bys)
          have HYO := hid (HAV.out _ _ HYF.out.1)
          go_upto_region 10 with (fail)
          clear k1 k2 k6 k7 fS
          generalize (wr.setCell ⟨w.heap.size, 2, none⟩ (.slice Ao lo co)) = wt at *
          have HE1 := hid (HBX.out.set (i := 6) (u := .slice none 0 0) (V' := { putV V 1 (tearL V.torn V.s1 m) with torn := [] }) (u0 := (.slice A0 V.s0.length d0)) (u1 := (.slice Ao lo co)) (uh := .slice none 0 0) (k := 1) rfl)
          have HE2 := hid (HE1.out.set (i := 5) (u := .bool false) (V' := { putV V 1 (tearL V.torn V.s1 m) with torn := [], dead := false }) (u0 := (.slice A0 V.s0.length d0)) (u1 := (.slice Ao lo co)) (uh := .slice none 0 0) (k := 1) rfl)
          have HE3 := hid (HE2.out.set (i := 4) (u := .int .i64 (-1)) (V' := { putV V 1 (tearL V.torn V.s1 m) with torn := [], dead := false, left := -1 }) (u0 := (.slice A0 V.s0.length d0)) (u1 := (.slice Ao lo co)) (uh := .slice none 0 0) (k := 1) rfl)
          have HBE : Hid (Below w.heap.size w (((wt.setCell ⟨w.heap.size, 6, none⟩ (.slice none 0 0)).setCell ⟨w.heap.size, 5, none⟩ (.bool false)).setCell ⟨w.heap.size, 4, none⟩ (.int .i64 (-1)))) := hid (((HWB.out.setCell (p := ⟨w.heap.size, 6, none⟩) (Nat.le_refl _) _).setCell (p := ⟨w.heap.size, 5, none⟩) (Nat.le_refl _) _).setCell (p := ⟨w.heap.size, 4, none⟩) (Nat.le_refl _) _)
          have HRE : Hid ((((wt.setCell ⟨w.heap.size, 6, none⟩ (.slice none 0 0)).setCell ⟨w.heap.size, 5, none⟩ (.bool false)).setCell ⟨w.heap.size, 4, none⟩ (.int .i64 (-1))).heap[w.heap.size + 1]? = some (.cells rvZ 32 (0, 0))) := hid (by
            rw [Below.heap_setCell _ _ _ _ (by show w.heap.size + 1 ≠ w.heap.size; omega), Below.heap_setCell _ _ _ _ (by show w.heap.size + 1 ≠ w.heap.size; omega), Below.heap_setCell _ _ _ _ (by show w.heap.size + 1 ≠ w.heap.size; omega)]
            exact HR1W.out)
          have HAW : Hid (∀ W i u x v l, W.heap[w.heap.size]? = some (.cells x 32 (0, 0)) → Bys W v l → Bys (W.setCell ⟨w.heap.size, i, none⟩ u) v l) := hid (fun W i u x v l h hv => hv.away (by simp [World.setCell]) (fun k _ hk => Below.heap_setCell _ _ _ _ (blk_ne hk h (by decide))))
          have HTR : Hid (∀ v l, Bys wt v l → Bys (((wt.setCell ⟨w.heap.size, 6, none⟩ (.slice none 0 0)).setCell ⟨w.heap.size, 5, none⟩ (.bool false)).setCell ⟨w.heap.size, 4, none⟩ (.int .i64 (-1))) v l) := hid (fun v l h => HAW.out _ _ _ _ _ _ HE2.out (HAW.out _ _ _ _ _ _ HE1.out (HAW.out _ _ _ _ _ _ HBX.out h)))
          have HCF : Hid (RvC (((wt.setCell ⟨w.heap.size, 6, none⟩ (.slice none 0 0)).setCell ⟨w.heap.size, 5, none⟩ (.bool false)).setCell ⟨w.heap.size, 4, none⟩ (.int .i64 (-1))) (rvc { putV V 1 (tearL V.torn V.s1 m) with torn := [], dead := false, left := -1 } (.slice A0 V.s0.length d0) (.slice Ao lo co) (.slice none 0 0) 1) { putV V 1 (tearL V.torn V.s1 m) with torn := [], dead := false, left := -1 }) := hid ⟨_, _, _, _, rfl, HTR.out _ _ HYO.out, HTR.out _ _ HYS.out, Bys.nil _, fun h => absurd rfl h⟩
          obtain ⟨h1, h2, h3⟩ := rv_end (C := rvc { putV V 1 (tearL V.torn V.s1 m) with torn := [], dead := false, left := -1 } (.slice A0 V.s0.length d0) (.slice Ao lo co) (.slice none 0 0) 1) HBE.out HRE.out (Nat.le_succ _) rfl rfl HCF.out.one
          have H2 := hid h2
          have H3 := hid h3
          have H4 := hid (HCF.out.setSe (D := rvc { putV V 1 (tearL V.torn V.s1 m) with torn := [], dead := false, left := -1 } (.slice A0 V.s0.length d0) (.slice Ao lo co) (.slice none 0 0) 1) HRE.out)
          clear h2 h3
          have hld := HE3.out.ld
          have f6 := HBX.out.free 6
          have f5 := HE1.out.free 5
          have f4 := HE2.out.free 4
          obtain ⟨_, _, _, _, _, _, k6, _⟩ := HBX.out.cells
          obtain ⟨_, _, _, _, _, k5, _, _⟩ := HE1.out.cells
          obtain ⟨_, _, _, _, k4, _, _, _⟩ := HE2.out.cells
          obtain ⟨D9, HD9⟩ : ∃ q : Array Value, Hid (rvc { putV V 1 (tearL V.torn V.s1 m) with torn := [], dead := false, left := -1 } (.slice A0 V.s0.length d0) (.slice Ao lo co) (.slice none 0 0) 1 = q) := ⟨_, hid rfl⟩
          have HD9S : Hid (D9.size = 8) := hid (by rw [← HD9.out]; rfl)
          rw [HD9.out] at hld h1 H2 H3 H4
          go_wp2_with fail
          try simp only [Exit.inBlock, Exit.then]
          refine bodyPost_ret (results_rv1 rfl _ _ _ _ _ rfl H2.out HD9S.out) rfl ⟨_, rfl, ?_, H3.out⟩
          rw [crash_some HT.out m, HPE.out]
          exact H4.out
end Go.Proofs.YtghophbabbaleaaGreatDoor
