/-
  BkCodeSame TxCodeKey Zeros Concat TxCodePut: what each of them says stands at its head.
-/
import Derived.Test.YtekfkfpfnhoblaaDoorMg11
import Derived.Test.YtekfkfpfnhoblaaDoorMg4
import Derived.Test.YtekfkfpfnhoblaaDoorMg1
import Derived.Lib.AppendZerosOnto
import Derived.Test.YtekfkfpfnhoblaaDoorMg5
import Derived.Deep.RegionHeld3
import Derived.Deep.DeepCutAuto
/-
  block's functions: Same, First, whether a block is the first one.
-/
namespace Go.Proofs.YtekfkfpfnhoblaaDoor
set_option maxRecDepth 20000
open Go.RowKit
attribute [local go_sem ↓] exec_load_tx exec_load_hash

set_option maxHeartbeats 1600000 in
theorem equalT_any (va vb : Value) (ta tb : List TxM) (w0 : World) (hta : Txs w0 va ta) (htb : Txs w0 vb tb) :
    Calls Tryd.prog 28 #[va, vb] w0 fun e w' => e = .returned (.bool (decide (ta = tb))) ∧ Below w0.heap.size w0 w' := by
  obtain ⟨ans, HAN⟩ : ∃ q : Bool, Hid (decide (ta = tb) = q) := ⟨_, hid rfl⟩
  rw [HAN.out]
  obtain ⟨AA, ca, rfl⟩ := hta.shape
  obtain ⟨AB, cb, rfl⟩ := htb.shape
  obtain ⟨LA, HLA⟩ : ∃ n : Nat, Hid (ta.length = n) := ⟨_, hid rfl⟩
  obtain ⟨LB, HLB⟩ : ∃ n : Nat, Hid (tb.length = n) := ⟨_, hid rfl⟩
  have hlena := hta.len
  have hlenb := htb.len
  rw [HLA.out] at hta hlena ⊢
  rw [HLB.out] at htb hlenb ⊢
  unfold maxLen at hlena hlenb
  by_cases e4 : LA = LB
  · subst e4
    have t4 : ((LA : Int) != (LA : Int)) = false := by simp
    obtain ⟨_, hca1, hca2, hra⟩ := hta.at_
    obtain ⟨_, hcb1, hcb2, hrb⟩ := htb.at_
    rw [HLA.out] at hca1
    rw [HLB.out] at hcb1
    unfold maxLen at hca2 hcb2
    have HRA := hid hra
    have HRB := hid hrb
    clear hra hrb hta htb
    go_enter Tryd.func28, Tryd.ntmps28
    go_wp2_with fail
    clear t4
    go_loopw [13] (fun si wr => ∃ i : Nat, i ≤ LA ∧ si = .int .i64 i ∧ Hid (∀ j (h : j < ta.length) (h2 : j < tb.length), j < i → ta[j] = tb[j]) ∧ ∃ n, wr = w0.drewN n) (fun si _ => LA - (intOf si).toNat)
    case atStart => exact ⟨0, Nat.zero_le _, rfl, hid (fun j _ _ h => absurd h (by omega)), 0, rfl⟩
    case round =>
      obtain ⟨i, hi, rfl, HB, n, rfl⟩ := hrel
      by_cases hlt : i < LA
      · have hil : i < ta.length := by rw [HLA.out]; exact hlt
        have him : i < tb.length := by rw [HLB.out]; exact hlt
        obtain ⟨ba, oa', rfl, hba, hcla⟩ := HRA.out (by omega)
        obtain ⟨bb, ob', rfl, hbb, hclb⟩ := HRB.out (by omega)
        have l1 : ∀ k, loadTx (.pointer (some ⟨ba, oa' + i * 7, none⟩)) (w0.drewN k) = .ok (.value (txv ta[i])) (w0.drewN k) := fun k => loadTx_mid (hcla i hil)
        have l2 : ∀ k, loadTx (.pointer (some ⟨bb, ob' + i * 7, none⟩)) (w0.drewN k) = .ok (.value (txv tb[i])) (w0.drewN k) := fun k => loadTx_mid (hclb i him)
        have hI : (i : Int) < (LA : Int) := by omega
        have eqt : ∀ W, (Op.equalIn 10000 45 (txv ta[i]) (txv tb[i])).run Tryd.prog W = .ok (decide (ta[i] = tb[i])) W := fun W => eq_tx2 _ _ W
        clear hcla hclb
        obtain ⟨X, HX⟩ : ∃ C : Array Value, Hid ((tcl ta[i]).toArray = C) := ⟨_, hid rfl⟩
        obtain ⟨Y, HY⟩ : ∃ C : Array Value, Hid ((tcl tb[i]).toArray = C) := ⟨_, hid rfl⟩
        rw [txv_tcl, HX.out] at l1 eqt
        rw [txv_tcl, HY.out] at l2 eqt
        by_cases hxy : ta[i] = tb[i]
        · rw [decide_eq_true hxy] at eqt
          go_wp2_with fail
          go_quiet (fail)
          go_wp2
          go_roundw
          case rel =>
            refine ⟨i + 1, by omega, by go_num, hid (fun j h h2 hj => ?_), _, rfl⟩
            by_cases hji : j < i
            · exact HB.out j h h2 hji
            · obtain rfl : j = i := by omega
              exact hxy
          case measure => simp [intOf]; omega
        · rw [decide_eq_false hxy] at eqt
          go_wp2_with fail
          go_quiet (fail)
          go_wp2
          go_ret
          have e : ans = false := by
            rw [← HAN.out]
            exact decide_eq_false (fun e => by subst e; exact hxy rfl)
          subst e
          exact ⟨rfl, below_drewN (below_drewN (Below.refl _ _) _) _⟩
      · obtain rfl : i = LA := by omega
        go_wp2
        go_ret
        have e : ans = true := by
          rw [← HAN.out]
          exact decide_eq_true (List.ext_getElem (by rw [HLA.out, HLB.out]) fun j h h2 => HB.out j h h2 (by have := HLA.out; omega))
        subst e
        exact ⟨rfl, below_drewN (Below.refl _ _) n⟩
  · have t4 : ((LA : Int) != (LB : Int)) = true := by simp; omega
    obtain rfl : ans = false := by
      rw [← HAN.out]
      exact decide_eq_false (fun e => by rw [e] at HLA; exact e4 (HLA.out.symm.trans HLB.out))
    clear e4 hta htb
    go_enter Tryd.func28, Tryd.ntmps28
    go_wp2_with fail
    go_ret
    exact ⟨rfl, Below.refl _ _⟩

set_option maxHeartbeats 1600000 in
theorem bkSame_ok : BkSameOk := by
  intro va vb a b w hva hvb
  obtain ⟨sa, rfl, hpa, hta⟩ := hva
  obtain ⟨sb, rfl, hpb, htb⟩ := hvb
  have hb0 : Below w.heap.size w ((w.alloc (.cells (bkc a sa) 26)).alloc (.cells (bkc b sb) 26)) := ((Below.refl _ _).alloc (Nat.le_refl _) _).alloc (by simp) _
  have hA : BoxK ((w.alloc (.cells (bkc a sa) 26)).alloc (.cells (bkc b sb) 26)) w.heap.size a sa := (Below.heap_alloc _ _ _ (by simp)).trans (heap_alloc_new w _)
  have hB : BoxK ((w.alloc (.cells (bkc a sa) 26)).alloc (.cells (bkc b sb) 26)) (w.heap.size + 1) b sb := BoxK.two w _ b sb
  have hta0 := hta.below hb0
  have htb0 := htb.below hb0
  obtain ⟨CA, HCA⟩ : ∃ C : Array Value, Hid (bkc a sa = C) := ⟨_, hid rfl⟩
  obtain ⟨CB, HCB⟩ : ∃ C : Array Value, Hid (bkc b sb = C) := ⟨_, hid rfl⟩
  rw [HCA.out, HCB.out] at hA hB hb0 hta0 htb0 ⊢
  obtain ⟨ans, HAN⟩ : ∃ q : Bool, Hid (sameK a b = q) := ⟨_, hid rfl⟩
  rw [HAN.out]
  go_enter Tryd.func13, Tryd.ntmps13
  go_upto_region 1 with (fail)
  generalize ((w.alloc (.cells CA 26)).alloc (.cells CB 26)) = w0 at *
  clear HCA HCB hta htb
  obtain ⟨a1, a2, a3, a4⟩ := hA.cells hpa
  obtain ⟨b1, b2, b3, b4⟩ := hB.cells hpb
  have la := loadH_mid hA.range hpa
  have lb := loadH_mid hB.range hpb
  have heq := eq_hash a.par b.par hpa hpb w0
  clear hA hB
  obtain ⟨q, HQ⟩ : ∃ q : Bool, Hid (decide (a.par = b.par) = q) := ⟨_, hid rfl⟩
  rw [HQ.out] at heq
  obtain ⟨HA, HHA⟩ : ∃ C : Array Value, Hid (hcells a.par = C) := ⟨_, hid rfl⟩
  obtain ⟨HB, HHB⟩ : ∃ C : Array Value, Hid (hcells b.par = C) := ⟨_, hid rfl⟩
  rw [HHA.out] at la heq
  rw [HHB.out] at lb heq
  clear HHA HHB
  obtain ⟨pa, va, ha, oa, ta⟩ := a
  obtain ⟨pb, vb, hh, ob, tb⟩ := b
  simp only at a1 a2 a3 a4 b1 b2 b3 b4 hta0 htb0 HQ hpa hpb
  have hway : (q = false) ∨ (q = true ∧ va ≠ vb) ∨ (q = true ∧ va = vb ∧ ha ≠ hh) ∨ (q = true ∧ va = vb ∧ ha = hh ∧ oa ≠ ob) ∨ (q = true ∧ va = vb ∧ ha = hh ∧ oa = ob) := by
    cases q
    · exact .inl rfl
    · right
      by_cases e1 : va = vb
      · right
        by_cases e2 : ha = hh
        · right
          by_cases e3 : oa = ob
          · exact .inr ⟨rfl, e1, e2, e3⟩
          · exact .inl ⟨rfl, e1, e2, e3⟩
        · exact .inl ⟨rfl, e1, e2⟩
      · exact .inl ⟨rfl, e1⟩
  obtain rfl | ⟨rfl, e1⟩ | ⟨rfl, rfl, e2⟩ | ⟨rfl, rfl, rfl, e3⟩ | ⟨rfl, rfl, rfl, rfl⟩ := hway
  · obtain rfl : ans = false := by
      rw [← HAN.out]
      exact sameK_no (fun e => by injection e with e _; exact of_decide_eq_false HQ.out e)
    go_wp2_with fail
    go_ret
    exact ⟨rfl, hb0⟩
  · obtain rfl : ans = false := by
      rw [← HAN.out]
      exact sameK_no (fun e => by injection e with _ e _; exact e1 e)
    have t1 : (va == vb) = false := by simpa using e1
    clear e1
    go_wp2_with fail
    go_ret
    exact ⟨rfl, hb0⟩
  · obtain rfl : ans = false := by
      rw [← HAN.out]
      exact sameK_no (fun e => by injection e with _ _ e _; exact e2 e)
    have t1 : (va == va) = true := by simp
    have t2 : (ha == hh) = false := by simpa using e2
    clear e2
    go_wp2_with fail
    go_ret
    exact ⟨rfl, hb0⟩
  · obtain rfl : ans = false := by
      rw [← HAN.out]
      exact sameK_no (fun e => by injection e with _ _ _ e _; exact e3 e)
    have t1 : (va == va) = true := by simp
    have t2 : (ha == ha) = true := by simp
    have t3 : (oa == ob) = false := by simpa using e3
    clear e3
    go_wp2_with fail
    go_ret
    exact ⟨rfl, hb0⟩
  · have t1 : (va == va) = true := by simp
    have t2 : (ha == ha) = true := by simp
    have t3 : (oa == oa) = true := by simp
    obtain ⟨A, c, rfl⟩ := hta0.shape
    obtain ⟨A', c', rfl⟩ := htb0.shape
    go_wp2_with fail
    refine (equalT_any _ _ ta tb w0 hta0 htb0).mono ?_
    rintro e w1 ⟨rfl, hb1⟩
    clear t1 t2 t3 heq la lb a1 a2 a3 a4 b1 b2 b3 b4
    have e : decide (ta = tb) = ans := by
      rw [← HAN.out]
      have hp : pa = pb := of_decide_eq_true HQ.out
      subst hp
      by_cases h : ta = tb
      · subst h
        rw [sameK_self]
        exact decide_eq_true rfl
      · rw [sameK_no (fun e => by injection e with _ _ _ _ e; exact h e)]
        exact decide_eq_false h
    rw [e]
    go_wp2_with fail
    go_ret
    exact ⟨rfl, hb0.trans (hb1.mono hb0.size)⟩

theorem results_k1 {fn : Func} {p : Tmp} (h : fn.results = #[.cell p 26]) (tmps : Array Value) (w : World) (g : Nat) (t : TypeId) (xs : Array Value)
    (hp : tmps.getD p undef = .pointer (some ⟨g, 0, none⟩)) (h1 : w.heap[g]? = some (.cells xs t (0, 0))) (hx : xs.size = 36) : (results fn tmps).run Tryd.prog w = .ok (.agg xs) w :=
  results_cell_row h tmps w g t xs (0, 0) _ hp h1 under_bk rfl (by rw [size_bk, hx])
attribute [local go_sem ↓] exec_load_bk exec_build_bk exec_alloc_bk exec_store_bk

set_option maxHeartbeats 1600000 in
theorem bkFirst_ok : BkFirstOk := by
  intro w
  obtain ⟨Z, HZ⟩ : ∃ C : Array Value, Hid (bkc bkZ (.slice none 0 0) = C) := ⟨_, hid rfl⟩
  have hbz : ∀ W, buildK W = .ok (.value (.agg Z)) W := fun W => by rw [← HZ.out]; exact buildK_eq W
  have hal : ∀ W, allocK W = .ok (.value (.pointer (some ⟨W.heap.size, 0, none⟩))) (W.alloc (.cells Z 26)) := fun W => by rw [← HZ.out]; exact allocK_eq W
  have hsz : Z.size = 36 := by rw [← HZ.out]; exact bkc_size _ bkZ_par
  have hz1 : Z.all (·.oneCell') = true := by rw [← HZ.out]; exact bkc_one (w := w) (b := bkZ) (Txs.nil w)
  have hg := heap_alloc_new w (.cells Z 26)
  have hs0 : storeK (.pointer (some ⟨w.heap.size, 0, none⟩)) (.agg Z) (w.alloc (.cells Z 26)) = .ok .skip (w.alloc (.cells Z 26)) := by
    rw [storeK_eq hg hsz hsz hz1, setK_self hg]
  have HG := hid hg
  have HSZ := hid hsz
  clear hg hsz hz1
  go_enter Tryd.func21, Tryd.ntmps21
  go_wp2_with fail
  refine bodyPost_ret (results_k1 rfl _ _ _ _ _ rfl HG.out HSZ.out) rfl ⟨_, rfl, ?_, (Below.refl _ _).alloc (Nat.le_refl _) _⟩
  exact ⟨.slice none 0 0, by rw [HZ.out], bkZ_par, Txs.nil _⟩

set_option maxHeartbeats 1600000 in
theorem bkIsFirst_ok (v : Value) (b : BkM) (w : World) (hv : BkV w v b) :
    Calls Tryd.prog 24 #[v] w fun e w' => e = .returned (.bool (sameK b bkZ)) ∧ Below w.heap.size w w' := by
  have HV := hid (fun W (h : Below w.heap.size w W) => hv.below h)
  obtain ⟨s, rfl, hp, ht⟩ := hv
  obtain ⟨C, HC⟩ : ∃ C : Array Value, Hid (bkc b s = C) := ⟨_, hid rfl⟩
  rw [HC.out] at HV ⊢
  have HSZ : Hid (C.size = 36) := hid (by rw [← HC.out]; exact bkc_size _ hp)
  have hr0 := heap_alloc_new w (.cells C 26)
  have hb0 : Below w.heap.size w (w.alloc (.cells C 26)) := (Below.refl _ _).alloc (Nat.le_refl _) _
  have hldA : ∀ W : World, W.heap[w.heap.size]? = some (.cells C 26 (0, 0)) → loadK (.pointer (some ⟨w.heap.size, 0, none⟩)) W = .ok (.value (.agg C)) W := fun W h => loadK_row h HSZ.out
  obtain ⟨ans, HAN⟩ : ∃ q : Bool, Hid (sameK b bkZ = q) := ⟨_, hid rfl⟩
  have HSM : Hid (∀ x W, Below w.heap.size w W → BkV W x bkZ → Calls Tryd.prog 13 #[.agg C, x] W fun e w' => e = .returned (.bool ans) ∧ Below W.heap.size W w') := hid (fun x W h hx => by
    have := bkSame_ok _ x b bkZ W (HV.out W h) hx
    rw [HAN.out] at this
    exact this)
  rw [HAN.out]
  have HFI : Hid (∀ W : World, Calls Tryd.prog 21 #[] W fun e w' => ∃ x, e = .returned x ∧ BkV w' x bkZ ∧ Below W.heap.size W w') := hid (fun W => bkFirst_ok W)
  clear ht
  go_enter Tryd.func24, Tryd.ntmps24
  go_upto_region 1 with (fail)
  generalize (w.alloc (.cells C 26)) = w0 at *
  have hl0 := lt_of_block hr0
  have hbd : Below w0.heap.size w0 w0.drew := (Below.refl _ _).drew
  have HR : Hid (∀ W : World, Below w0.heap.size w0 W → W.heap[w.heap.size]? = some (.cells C 26 (0, 0))) := hid (fun W h => (h.block _ hl0).trans hr0)
  have HB : Hid (∀ W : World, Below w0.heap.size w0 W → Below w.heap.size w W) := hid (fun W h => hb0.trans (h.mono hb0.size))
  clear hr0 hl0
  go_region_held3 (fun W => W.heap[w.heap.size]? = some (.cells C 26 (0, 0)))
    (first
      | (refine HR.out _ hbd)
      | (refine HR.out _ hb2)
      | (refine HR.out _ hb1)
      | fail)
    (first
      | (go_at_call 13; (with_reducible refine (HSM.out x1 _ (HB.out _ hb1) hx1).mono ?_); rintro e w2 ⟨rfl, hb2'⟩; have hb2 := hb1.trans (hb2'.mono hb1.size))
      | (go_at_call 21; (with_reducible refine (HFI.out _).mono ?_); rintro e w1 ⟨x1, rfl, hx1, hb1'⟩; have hb1 := hbd.trans (hb1'.mono hbd.size))
      | fail)
  go_wp2_with fail
  go_ret
  exact ⟨rfl, HB.out _ hb2⟩
end Go.Proofs.YtekfkfpfnhoblaaDoor

/-
  tx.account, tx.key, tx.ofKind, tx.Check, tx.Less: which transactions there may be, which is ahead.
-/
namespace Go.Proofs.YtekfkfpfnhoblaaDoor
set_option maxRecDepth 20000
open Go.RowKit

theorem account_any (n : Int) (w : World) : Calls Tryd.prog 72 #[.int .i64 n] w fun e w' => e = .returned (.bool (decide (1 ≤ n) && decide (n ≤ 40))) ∧ w = w' := by
  go_enter Tryd.func72, Tryd.ntmps72
  go_wp2_with fail
  all_goals
    go_ret
    refine ⟨congrArg (fun b => Ending.returned (Value.bool b)) ?_, rfl⟩
  all_goals grind

set_option maxHeartbeats 1600000 in
theorem keyText_any (l : List UInt8) (w : World) (hs : l.length ≤ 1000000) :
    Calls Tryd.prog 83 #[.string (sb l)] w fun e w' => e = .returned (.bool (keyOk l)) ∧ w = w' := by
  have hsz := sb_size l
  obtain ⟨L, HL⟩ : ∃ L : Nat, Hid (l.length = L) := ⟨_, hid rfl⟩
  rw [HL.out] at hsz hs
  obtain ⟨s, HS⟩ : ∃ s : ByteArray, Hid (sb l = s) := ⟨_, hid rfl⟩
  rw [HS.out] at hsz ⊢
  by_cases h1 : 1 ≤ L
  · by_cases h2 : L ≤ 16
    · have h1i : ¬ (L : Int) < 1 := by omega
      have h2i : ¬ (16 : Int) < (L : Int) := by omega
      go_enter Tryd.func83, Tryd.ntmps83
      go_wp2_with fail
      go_loop [15, 3, 4] (fun si _ _ => ∃ i : Nat, i ≤ L ∧ si = .int .i64 (i : Int) ∧ Hid (∀ j, j < i → keyCh (l.getD j 0) = true)) (fun si _ _ => L - (intOf si).toNat)
      case atStart => exact ⟨0, Nat.zero_le _, rfl, hid (fun j hj => absurd hj (Nat.not_lt_zero _))⟩
      case round =>
        obtain ⟨i, hi, rfl, HD⟩ := hrel
        by_cases hlt : i < L
        · have hiL : (i : Int) < (L : Int) := by omega
          have hil : i < l.length := by rw [HL.out]; exact hlt
          obtain ⟨y, HY⟩ : ∃ y : Int, Hid (((l.getD i 0).toNat : Int) = y) := ⟨_, hid rfl⟩
          have i0 : ∀ w : World, (Instr.index 9 (.string s) (.int .i64 (i : Int))).run Tryd.prog w = .ok (.int .u8 y) w := fun w => by
            rw [← HS.out]
            exact str_index l i hil _ rfl HY.out w
          have hr : 0 ≤ y ∧ y ≤ 255 := by have := byte_lt (l.getD i 0); rw [HY.out] at this; exact this
          have HNO : ∀ (_ : keyCh (l.getD i 0) = false), Hid (keyOk l = false) := fun h => hid (keyOk_no hil h)
          have HYES : ∀ (_ : keyCh (l.getD i 0) = true), Hid (∀ j, j < i + 1 → keyCh (l.getD j 0) = true) := fun h => hid (fun j hj => by
            rcases Nat.lt_or_ge j i with h2 | h2
            · exact HD.out j h2
            · obtain rfl : j = i := by omega
              exact h)
          obtain ⟨hk, g1, g2⟩ | ⟨hk, g1, g2, g3⟩ | ⟨hk, g1⟩ | ⟨hk, g1, g2⟩ | ⟨hk, g1⟩ := keyB_cases (l.getD i 0) y HY.out
          · have HY2 := HYES hk
            have k1 : ¬ y < 97 := by omega
            have k2 : ¬ 122 < y := by omega
            clear HNO HYES hk HD
            go_wp2_with fail
            go_round
            case rel => exact ⟨i + 1, by omega, by go_num, HY2⟩
            case measure => simp [intOf]; omega
          · have HY2 := HYES hk
            have k1 : y < 97 := by omega
            have k3 : ¬ y < 48 := by omega
            have k4 : ¬ 57 < y := by omega
            clear HNO HYES hk HD
            go_wp2_with fail
            go_round
            case rel => exact ⟨i + 1, by omega, by go_num, HY2⟩
            case measure => simp [intOf]; omega
          · have HN2 := HNO hk
            clear HNO HYES hk HD
            have k1 : ¬ y < 97 := by omega
            have k2 : 122 < y := by omega
            have k3 : ¬ y < 48 := by omega
            have k4 : 57 < y := by omega
            go_wp2_with fail
            go_ret
            exact ⟨by rw [HN2.out]; rfl, rfl⟩
          · have HN2 := HNO hk
            clear HNO HYES hk HD
            have k1 : y < 97 := by omega
            have k3 : ¬ y < 48 := by omega
            go_wp2_with fail
            go_ret
            exact ⟨by rw [HN2.out]; rfl, rfl⟩
          · have HN2 := HNO hk
            clear HNO HYES hk HD
            have k1 : y < 97 := by omega
            go_wp2_with fail
            go_ret
            exact ⟨by rw [HN2.out]; rfl, rfl⟩
        · have hiL : ¬ (i : Int) < (L : Int) := by omega
          obtain rfl : i = L := by omega
          have HK := hid (keyOk_yes (l := l) (by rw [HL.out]; exact HD.out))
          clear HD
          go_wp2_with fail
          go_ret
          exact ⟨by rw [HK.out, HL.out, decide_eq_true h1, decide_eq_true h2]; rfl, rfl⟩
    · have h1i : ¬ (L : Int) < 1 := by omega
      have h2i : (16 : Int) < (L : Int) := by omega
      have HN : Hid (keyOk l = false) := hid (by unfold keyOk; rw [HL.out, decide_eq_false h2, Bool.and_false, Bool.and_false])
      go_enter Tryd.func83, Tryd.ntmps83
      go_wp2_with fail
      go_ret
      exact ⟨by rw [HN.out]; rfl, rfl⟩
  · have h1i : (L : Int) < 1 := by omega
    have HN : Hid (keyOk l = false) := hid (by unfold keyOk; rw [HL.out, decide_eq_false h1, Bool.false_and, Bool.and_false])
    go_enter Tryd.func83, Tryd.ntmps83
    go_wp2_with fail
    go_ret
    exact ⟨by rw [HN.out]; rfl, rfl⟩

/-- What a kind names, and nothing else. -/
def kindT (t : TxM) : Bool :=
  if t.ki = 1 then decide (1 ≤ t.to) && decide (t.to ≤ 40) && decide (0 ≤ t.am) && decide (t.am ≤ 1099511627776) && decide (t.key = []) && decide (t.val = []) else
  if t.ki = 2 then decide (t.to = 0) && decide (t.am = 0) && keyOk t.key && decide (t.val.length ≤ 200) else
  if t.ki = 3 then decide (t.to = 0) && decide (t.am = 0) && keyOk t.key && decide (t.val = []) else false

set_option maxHeartbeats 6400000 in
theorem ofKind_any (t : TxM) (w : World) (hk : t.key.length ≤ 1000000) (hv : t.val.length ≤ 1000000) :
    Calls Tryd.prog 73 #[txv t] w fun e w' => e = .returned (.bool (kindT t)) ∧ Below w.heap.size w w' := by
  obtain ⟨fr, no, ki, tu, am, key, val⟩ := t
  simp only at hk hv
  have HK := hid hk
  have hvs := sb_size val
  have hke := sb_empty key
  have hve := sb_empty val
  clear hk hv
  unfold txv
  simp only
  obtain ⟨s, HS⟩ : ∃ s : ByteArray, Hid (sb key = s) := ⟨_, hid rfl⟩
  obtain ⟨u, HU⟩ : ∃ s : ByteArray, Hid (sb val = s) := ⟨_, hid rfl⟩
  obtain ⟨n, HN⟩ : ∃ n : Nat, Hid (val.length = n) := ⟨_, hid rfl⟩
  rw [HS.out] at hke ⊢
  rw [HU.out] at hve hvs ⊢
  rw [HN.out] at hvs
  obtain ⟨m, HM⟩ : ∃ m : Bool, Hid (kindT ⟨fr, no, ki, tu, am, key, val⟩ = m) := ⟨_, hid rfl⟩
  rw [HM.out]
  obtain ⟨ke, HKE⟩ : ∃ b : Bool, Hid (decide (key = []) = b) := ⟨_, hid rfl⟩
  obtain ⟨ve, HVE⟩ : ∃ b : Bool, Hid (decide (val = []) = b) := ⟨_, hid rfl⟩
  rw [HKE.out] at hke
  rw [HVE.out] at hve
  go_enter Tryd.func73, Tryd.ntmps73
  go_wp2_with fail
  all_goals first
    | (have C := fun w => keyText_any key w HK.out
       rw [HS.out] at C
       refine (C _).mono ?_
       clear C
       rintro e w1 ⟨rfl, rfl⟩
       obtain ⟨ko, HKO⟩ : ∃ b : Bool, Hid (keyOk key = b) := ⟨_, hid rfl⟩
       rw [HKO.out]
       have hko := HKO.out
       go_wp2_with fail)
    | (refine (account_any tu _).mono ?_
       rintro e w1 ⟨rfl, rfl⟩
       obtain ⟨ao, HAO⟩ : ∃ b : Bool, Hid ((decide (1 ≤ tu) && decide (tu ≤ 40)) = b) := ⟨_, hid rfl⟩
       rw [HAO.out]
       have hao := HAO.out
       go_wp2_with fail)
    | skip
  all_goals
    go_ret
    refine ⟨?_, (Below.refl _ _).alloc (Nat.le_refl _) _⟩
    refine congrArg (fun b => Ending.returned (Value.bool b)) ?_
    rw [← HM.out]
    clear HM HS HU HK
    unfold kindT
    simp only [HKE.out, HVE.out, HN.out]
  all_goals grind

end Go.Proofs.YtekfkfpfnhoblaaDoor

/-
  'append(b, make([]byte, k)...)' onto a row of the call's own: as laws for the walk.
-/
namespace Go.Proofs.YtekfkfpfnhoblaaDoor
set_option maxRecDepth 20000
open Go.RowKit

theorem zeros_cells (v : Value) (n : Nat) : Builtin.zeroCells #[v] n = (List.replicate n v).toArray := by
  apply Array.ext
  · simp [Builtin.zeroCells]
  · intro i h1 h2
    simp [Builtin.zeroCells, Nat.mod_one]
theorem bcells_zeros (n : Nat) : bcells (List.replicate n 0) = List.replicate n (.int .u8 0) := by
  simp [bcells, bcell]
theorem wrap0 : IntKind.i64.wrap 0 = 0 := rfl
theorem under_int : Tryd.prog.underlying 3 = some (.int .i64) := by kernel_rfl

theorem run_append_zeros_byt {w : World} {B : Nat} {v : Value} {l : List UInt8} (k : Nat) (ty : TypeId) (hv : Own B w v l) (hs : l.length + k ≤ 140737488355328) (hB : B ≤ w.heap.size) :
    ∃ v' w', (Builtin.append_ #[29, 3] ty #[v, .int .i64 (k : Int)]).run Tryd.prog w = .ok v' w' ∧ Own B w' v' (l ++ List.replicate k 0) ∧ w.grownBy w' v.ownBlock ∧ (v'.ownBlock = v.ownBlock ∨ v'.ownBlock = some w.heap.size) := by
  obtain ⟨i0, hi, hz0, hz1, hz2⟩ := info_parts info_u8
  have hlk : (l ++ List.replicate k 0).length = l.length + k := by simp
  have hw : IntKind.i64.wrap (k : Int) = k := by rw [IntKind.wrap_i64]; omega
  have hneg : ¬ ((k : Int) < 0) := by omega
  have h48k : ¬ (281474976710656 < (k : Int)) := by omega
  have fresh : ∀ (old k : Nat) {l : List UInt8}, l.length + k ≤ 140737488355328 → 0 < k → ∀ row : Option Nat,
      Own B (w.drew.alloc (.cells ((bcells l).toArray ++ Builtin.zeroCells (Value.int IntKind.u8 0).cells k ++ Builtin.zeroCells (Value.int IntKind.u8 0).cells (grownCap w (l.length + k) old 5 - (l.length + k))) 5)) (.slice (some ⟨w.heap.size, 0, none⟩) (l.length + k) (grownCap w (l.length + k) old 5)) (l ++ List.replicate k 0) ∧
      w.grownBy (w.drew.alloc (.cells ((bcells l).toArray ++ Builtin.zeroCells (Value.int IntKind.u8 0).cells k ++ Builtin.zeroCells (Value.int IntKind.u8 0).cells (grownCap w (l.length + k) old 5 - (l.length + k))) 5)) row := by
    intro old k l hlk2 hk row
    have hge := grownCap_ge w (l.length + k) old 5
    have hcm : grownCap w (l.length + k) old 5 ≤ maxLen := grownCap_le_maxLen w (l.length + k) old 5 (by unfold maxLen; omega)
    have hz : (Value.int IntKind.u8 0).cells = #[.int .u8 0] := rfl
    have hl2 : (l ++ List.replicate k 0 : List UInt8).length = l.length + k := by simp
    refine ⟨⟨by rw [bcells_length, Nat.mul_one], .inr ⟨w.heap.size, _, _, by rw [hl2], hB, heap_alloc_new w.drew _, by rw [hl2]; exact hge, hcm, ?_, ?_⟩⟩, ⟨rfl, rfl, rfl, by simp, fun q hq _ => Below.heap_alloc w.drew _ q hq⟩⟩
    · rw [hz, zeros_cells, zeros_cells]
      simp [bcells]
      omega
    · rw [hz, zeros_cells, zeros_cells, hl2, bcells_append, bcells_zeros]
      simp only [Array.toList_append, Nat.mul_one]
      apply List.take_left'
      simp [bcells]
  rcases hv.2 with ⟨rfl, h0⟩ | ⟨g, cap, cur, rfl, hbg, hg, hnc, hcm, hcs, htake⟩
  · have hl : l = [] := List.eq_nil_of_length_eq_zero h0
    subst hl
    by_cases hk : k = 0
    · subst hk
      refine ⟨.slice none 0 0, w, ?_, Own.nil B w, World.grownBy.refl w _, .inl rfl⟩
      simp [Builtin.append_, run_underlying under_bytes, run_underlying under_int, sizeOf, typeInfo, hi, asInt, asIntOf, wrap0]
    · have hr := Lib.run_append_nil_zeros (P := Tryd.prog) w 29 3 ty 5 i0 (.int .u8 0) .i64 .i64 under_bytes under_int hi hz0 k (by omega) (by omega) (by omega) (by rw [hz2]; omega)
      obtain ⟨h1, h2⟩ := fresh 0 k (by simp; omega) (by omega) (Value.slice none 0 0).ownBlock (l := [])
      have e : (bcells ([] : List UInt8)).toArray = #[] := rfl
      rw [e] at h1 h2
      simp only [List.length_nil, Nat.zero_add, Array.empty_append] at h1 h2
      exact ⟨_, _, hr, h1, h2, .inr rfl⟩
  · by_cases hk : k = 0
    · subst hk
      refine ⟨_, w, ?_, by rw [List.replicate_zero, List.append_nil]; exact hv, World.grownBy.refl w _, .inl rfl⟩
      simp [Builtin.append_, run_underlying under_bytes, run_underlying under_int, sizeOf, typeInfo, hi, asInt, asIntOf, wrap0, hnc, storeCells]
    · by_cases hroom : l.length + k ≤ cap
      · have hfit : l.length + 0 + (List.replicate k (Value.int IntKind.u8 0)).length ≤ cur.size := by
          rw [List.length_replicate, hcs]
          omega
        have hst := run_storeCells_at Tryd.prog g l.length 5 (List.replicate k (Value.int IntKind.u8 0)) 0 cur w hg hfit (fun u hu => by rw [List.eq_of_mem_replicate hu]; rfl)
        simp only [Nat.add_zero] at hst
        rw [List.length_replicate] at hst
        obtain ⟨N, hN⟩ : ∃ N : Array Value, (cur.toList.take l.length ++ List.replicate k (Value.int IntKind.u8 0) ++ cur.toList.drop (l.length + k)).toArray = N := ⟨_, rfl⟩
        rw [hN] at hst
        have hrun : (Builtin.append_ #[29, 3] ty #[.slice (some ⟨g, 0, none⟩) l.length cap, .int .i64 (k : Int)]).run Tryd.prog w = .ok (.slice (some ⟨g, 0, none⟩) (l.length + k) cap) (w.setRow g N) := by
          simp [Builtin.append_, run_underlying under_bytes, run_underlying under_int, sizeOf, typeInfo, zeroValue, hi, hz0, hz1, hz2, asInt, asIntOf, hw, hneg, hk, h48k, hroom, Value.cells, zeros_cells, Addr.add_lit, hst]
        refine ⟨_, _, hrun, ⟨by rw [bcells_length, Nat.mul_one], .inr ⟨g, cap, N, by rw [hlk], hbg, setRow_heap w g cur N 5 _ hg, by rw [hlk]; exact hroom, hcm, ?_, ?_⟩⟩, ⟨rfl, rfl, rfl, by simp, fun q _ hq => setRow_other w g q _ (fun e => hq (by simp [Value.ownBlock, e]))⟩, .inl rfl⟩
        · rw [← hN]
          simp
          omega
        · have ht : cur.toList.take l.length = bcells l := by rw [← htake, Nat.mul_one]
          rw [← hN, hlk, bcells_append, bcells_zeros, ht]
          simp only [Nat.mul_one]
          apply List.take_left'
          simp [bcells]
      · have hold : (Builtin.firstCells i0.size l.length (.slice (some ⟨g, 0, none⟩) l.length cap)).run Tryd.prog w.drew = .ok (bcells l).toArray w.drew := by
          rw [hz1]
          exact run_firstCells_some (P := Tryd.prog) w.drew 1 l.length ⟨g, 0, none⟩ l.length cap (bcells l) (by simp [bcells]) (fun j u hu => World.ownsRow.cells hv (g := g) rfl j u hu)
        have hr := Lib.run_append_grow_zeros (P := Tryd.prog) w 29 3 ty 5 i0 (.int .u8 0) .i64 .i64 under_bytes under_int hi hz0 (some ⟨g, 0, none⟩) l.length cap (bcells l) hold k (by omega) (by omega) (by omega) (by omega) (by rw [hz2]; omega) (by rw [hz2]; exact growslice_fits (by omega) (by omega))
        obtain ⟨h1, h2⟩ := fresh cap k (by omega) (by omega) (Value.slice (some ⟨g, 0, none⟩) l.length cap).ownBlock (l := l)
        exact ⟨_, _, hr, h1, h2, .inr rfl⟩

theorem step_append_zeros {ops : Array Oper} {o : Oper} {a : Act} {K : Act → World → Prop} {Q : Exit → Act → World → Prop} {E : Prop} {w : World} (hgd : o.guard = none) (s y : Operand)
    (ho : o.op = .call { callee := .builtin .append, args := #[s, y], argTypes := #[29, 3] })
    {B : Nat} {v : Value} {l : List UInt8} {k : Nat} (hes : a.eval s = v) (hey : a.eval y = .int .i64 (k : Int)) (hv : Own B w v l) (hs : l.length + k ≤ 140737488355328) (hB : B ≤ w.heap.size)
    (h : ∀ v' w', Own B w' v' (l ++ List.replicate k 0) → w.grownBy w' v.ownBlock → (v'.ownBlock = v.ownBlock ∨ v'.ownBlock = some w.heap.size) → K (a.put o.dst v') w') :
    if Region.wanted o (yielded ops a.tmps) = true then Oper.wp Tryd.prog o a w K Q else E := by
  have hw : Region.wanted o (yielded ops a.tmps) = true := by simp [Region.wanted, hgd]
  rw [if_pos hw]
  obtain ⟨v', w', hrun, h2, h3, h4⟩ := run_append_zeros_byt k o.type hv hs hB
  exact Lib.wp_append_run w s y _ _ ho _ _ hes hey v' w' hrun (h v' w' h2 h3 h4)
end Go.Proofs.YtekfkfpfnhoblaaDoor

/-
  slices.Grow of nothing, slices.Concat of bytes: the parts' bytes, one behind the other, in a row of their own.
-/
namespace Go.Proofs.YtekfkfpfnhoblaaDoor
set_option maxRecDepth 20000
open Go.RowKit

theorem own_none {B : Nat} {w : World} {v : Value} {l : List UInt8} (h : Own B w v l) (A : Option Addr) (n c : Nat) (e : v = .slice A n c) : Own B w (.slice A 0 c) [] := by
  subst e
  refine ⟨rfl, ?_⟩
  rcases h.2 with ⟨e, _⟩ | ⟨g, cap, cur, e, hg, hh, hn, hm, hs, ht⟩
  · cases e
    exact .inl ⟨rfl, rfl⟩
  · cases e
    exact .inr ⟨g, c, cur, rfl, hg, hh, Nat.zero_le _, hm, hs, by simp [bcells]⟩

theorem wpList_append_zeros {ops : Array Oper} {rest : List Oper} {o : Oper} {a : Act} {Q : Exit → Act → World → Prop} {w : World} (hgd : o.guard = none) (s y : Operand)
    (ho : o.op = .call { callee := .builtin .append, args := #[s, y], argTypes := #[29, 3] })
    {B : Nat} {v : Value} {l : List UInt8} {k : Nat} (hes : a.eval s = v) (hey : a.eval y = .int .i64 (k : Int)) (hv : Own B w v l) (hs : l.length + k ≤ 140737488355328) (hB : B ≤ w.heap.size)
    (h : ∀ A c w', Own B w' (.slice A (l.length + k) c) (l ++ List.replicate k 0) → w.grownBy w' v.ownBlock → wpList Tryd.prog ops Q rest (a.put o.dst (.slice A (l.length + k) c)) w') :
    wpList Tryd.prog ops Q (o :: rest) a w := by
  obtain ⟨v', w', hrun, h2, h3, _⟩ := run_append_zeros_byt k o.type hv hs hB
  obtain ⟨A, c, rfl⟩ := h2.byt.shape
  have e : (l ++ List.replicate k (0 : UInt8)).length = l.length + k := by simp
  rw [e] at h2 hrun
  exact wpList_plain hgd fun _ hK => Lib.wp_append_run w s y _ _ ho _ _ hes hey _ w' hrun (hK _ _ (h A c w' h2 h3))

set_option maxHeartbeats 1600000 in
theorem grow_any (n : Nat) (w : World) (hn : n ≤ 140737488355328) :
    Calls Tryd.prog 74 #[.slice none 0 0, .int .i64 (n : Int)] w fun e w' => ∃ v, e = .returned v ∧ Own w.heap.size w' v [] ∧ Below w.heap.size w w' := by
  by_cases h0 : n = 0
  · subst h0
    go_enter Tryd.func74, Tryd.ntmps74
    go_wp2_with fail
    go_ret
    exact ⟨_, rfl, Own.nil _ _, Below.refl _ _⟩
  · have h1 : (0 : Int) < (n : Int) := by omega
    have h2 : ¬ (n : Int) < 0 := by omega
    have hn2 : ([] : List UInt8).length + n ≤ 140737488355328 := by simpa using hn
    go_enter Tryd.func74, Tryd.ntmps74
    go_wp2_with (at_builtin; refine wpList_append_zeros rfl (.tmp 20) (.tmp 21) rfl rfl rfl (Own.nil w.heap.size w) hn2 (Nat.le_refl _) ?_; intro A1 c1 w1 ho1 hg1; have hm1 := ho1.byt.at_.2.2.1; unfold maxLen at hm1)
    go_ret
    exact ⟨_, rfl, own_none ho1 _ _ _ rfl, (Below.refl _ _).grown hg1 (Nat.le_refl _) (fun k hk => by cases hk)⟩

set_option maxHeartbeats 1600000 in
theorem concat_any (ls : List (List UInt8)) (vs : Nat → Value) (g n c : Nat) (w : World) (hn : ls.length = n) (hg : g < w.heap.size) (hc : ∀ j, j < n → w.cell? ⟨g, j, none⟩ = some (vs j))
    (hv : ∀ j (h : j < ls.length), Byt w (vs j) ls[j]) (hs : ls.flatten.length ≤ 1099511627776) (hn2 : n ≤ 1000) :
    Calls Tryd.prog 63 #[.slice (some ⟨g, 0, none⟩) n c] w fun e w' => ∃ v, e = .returned v ∧ Own w.heap.size w' v ls.flatten ∧ Below w.heap.size w w' := by
  go_enter Tryd.func63, Tryd.ntmps63
  have Hn := hid hn
  clear hn
  go_wp2
  go_loop [3, 11] (fun sz ix => ∃ k : Nat, k ≤ n ∧ ix = .int .i64 k ∧ sz = .int .i64 (tot ls k)) (fun _ ix => n - (intOf ix).toNat)
  case atStart => exact ⟨0, Nat.zero_le _, rfl, by rw [tot_zero]; rfl⟩
  case round =>
    obtain ⟨k, hk, rfl, rfl⟩ := hrel
    have htk := tot_le ls k
    by_cases hlt : k < n
    · have hlt' : k < ls.length := by rw [Hn.out]; exact hlt
      have hck := hc k hlt
      obtain ⟨A, cp, hvk, _⟩ := hv k hlt'
      have hts := tot_succ ls k hlt'
      have htk1 := tot_le ls (k + 1)
      have hb : tot ls k + ls[k].length ≤ 1099511627776 := by omega
      have hnn : ¬ ((tot ls k : Int) + (ls[k].length : Int) < 0) := by omega
      rw [hvk] at hck
      have HT := hid hts
      clear hts hvk hc hv
      go_wp2
      go_round
      case rel => exact ⟨k + 1, by omega, by go_num, by rw [HT.out]; go_num⟩
      case measure => simp [intOf]; omega
    · obtain rfl : k = n := by omega
      have hb3 : tot ls k ≤ 140737488355328 := by omega
      go_wp2_with fail
      refine (grow_any _ w hb3).mono ?_
      rintro e w0 ⟨v0, rfl, hv0, hb0⟩
      go_wp2
      go_loopw [6, 27] (fun out ix wr => ∃ j : Nat, j ≤ k ∧ ix = .int .i64 j ∧ Own w.heap.size wr out (ls.take j).flatten ∧ Below w.heap.size w wr) (fun _ ix _ => k - (intOf ix).toNat)
      case atStart => exact ⟨0, Nat.zero_le _, rfl, by simpa using hv0, hb0⟩
      case round =>
        obtain ⟨j, hj, rfl, hown, hbw⟩ := hrel
        by_cases hlt2 : j < k
        · have hlt' : j < ls.length := by rw [Hn.out]; exact hlt2
          have hcj : wr.cell? ⟨g, j, none⟩ = some (vs j) := (hbw.cell (p := ⟨g, j, none⟩) hg).trans (hc j hlt2)
          have hvj := (hv j hlt').below hbw
          have hsum : (ls.take j).flatten.length + ls[j].length ≤ 140737488355328 := by
            have := tot_succ ls j hlt'
            have := tot_le ls (j + 1)
            unfold tot at *
            omega
          have hbs := hbw.size
          go_wp2_with (at_builtin; refine wpList_append_byt rfl (.tmp 31) (.tmp 32) rfl rfl rfl hown hvj hsum hbs ?_; intro v1 w1 hown1 hg1 _)
          have hfl : (ls.take j).flatten ++ ls[j] = (ls.take (j + 1)).flatten := take_flat ls j hlt'
          have hb1 : Below w.heap.size w w1 := hbw.grown hg1 hbs (fun k hk => (World.ownsRow.lt hown k hk).1)
          rw [hfl] at hown1
          clear hfl hg1
          go_roundw
          case rel => exact ⟨j + 1, by omega, by go_num, hown1, hb1⟩
          case measure => simp [intOf]; omega
        · obtain rfl : j = k := by omega
          go_wp2
          go_ret
          refine ⟨_, rfl, ?_, hbw⟩
          have e : ls.take j = ls := by rw [← Hn.out]; exact List.take_length
          rw [e] at hown
          exact hown

theorem concat1 (u : Value) (l : List UInt8) (g c : Nat) (w : World) (hg : g < w.heap.size) (c0 : w.cell? ⟨g, 0, none⟩ = some u) (hu : Byt w u l) (hs : l.length ≤ 1099511627776) :
    Calls Tryd.prog 63 #[.slice (some ⟨g, 0, none⟩) 1 c] w fun e w' => ∃ v, e = .returned v ∧ Own w.heap.size w' v l ∧ Below w.heap.size w w' := by
  have h := concat_any [l] (fun _ => u) g 1 c w rfl hg (fun j hj => by
    match j, hj with
    | 0, _ => exact c0) (fun j hj => by
    match j, hj with
    | 0, _ => exact hu) (by simpa using hs) (by omega)
  simpa using h
theorem concat2 (u v : Value) (l m : List UInt8) (g c : Nat) (w : World) (hg : g < w.heap.size) (c0 : w.cell? ⟨g, 0, none⟩ = some u) (c1 : w.cell? ⟨g, 1, none⟩ = some v) (hu : Byt w u l) (hv : Byt w v m) (hs : l.length + m.length ≤ 1099511627776) :
    Calls Tryd.prog 63 #[.slice (some ⟨g, 0, none⟩) 2 c] w fun e w' => ∃ x, e = .returned x ∧ Own w.heap.size w' x (l ++ m) ∧ Below w.heap.size w w' := by
  have h := concat_any [l, m] (fun j => if j = 0 then u else v) g 2 c w rfl hg (fun j hj => by
    match j, hj with
    | 0, _ => exact c0
    | 1, _ => exact c1) (fun j hj => by
    match j, hj with
    | 0, _ => exact hu
    | 1, _ => exact hv) (by simpa using hs) (by omega)
  simpa using h
end Go.Proofs.YtekfkfpfnhoblaaDoor

/-
  tx.Check, tx.own, tx.Put.
-/
namespace Go.Proofs.YtekfkfpfnhoblaaDoor
set_option maxRecDepth 20000
open Go.RowKit
attribute [local go_sem ↓] exec_load_tx

theorem mayT_parts (t : TxM) : mayT t = ((decide (1 ≤ t.fr) && decide (t.fr ≤ 40)) && decide (1 ≤ t.no) && decide (t.no ≤ 1099511627776) && kindT t) := by
  unfold mayT kindT
  grind

set_option maxHeartbeats 3200000 in
theorem txCheck_any (t : TxM) (w : World) (hk : t.key.length ≤ 1000000) (hv : t.val.length ≤ 1000000) :
    Calls Tryd.prog 62 #[txv t] w fun e w' => e = .returned (.int .i64 (if mayT t = true then 0 else 1)) ∧ Below w.heap.size w w' := by
  have HOF := hid (fun w => ofKind_any t w hk hv)
  clear hk hv
  obtain ⟨m, HM⟩ : ∃ m : Bool, Hid (mayT t = m) := ⟨_, hid rfl⟩
  have HMP := hid (mayT_parts t)
  rw [HM.out] at *
  obtain ⟨ko, HKO⟩ : ∃ b : Bool, Hid (kindT t = b) := ⟨_, hid rfl⟩
  have hr0 := heap_alloc_new w (.cells #[.int .i64 t.fr, .int .i64 t.no, .int .i64 t.ki, .int .i64 t.to, .int .i64 t.am, .string (sb t.key), .string (sb t.val)] 45)
  have hb0 : Below w.heap.size w (w.alloc (.cells #[.int .i64 t.fr, .int .i64 t.no, .int .i64 t.ki, .int .i64 t.to, .int .i64 t.am, .string (sb t.key), .string (sb t.val)] 45)) := (Below.refl _ _).alloc (Nat.le_refl _) _
  have hld := fun W h => loadTx_eq (w := W) (b := w.heap.size) (C := #[.int .i64 t.fr, .int .i64 t.no, .int .i64 t.ki, .int .i64 t.to, .int .i64 t.am, .string (sb t.key), .string (sb t.val)]) (T := 45) h rfl
  have l0 := hld _ hr0
  clear hld
  have HB0 := hid hb0
  have HC : Hid (_ ∧ _) := hid ⟨cell_blk hr0 0, cell_blk hr0 1⟩
  clear hb0 hr0
  unfold txv
  go_enter Tryd.func62, Tryd.ntmps62
  go_upto_region 1 with (fail)
  generalize (w.alloc (.cells #[.int .i64 t.fr, .int .i64 t.no, .int .i64 t.ki, .int .i64 t.to, .int .i64 t.am, .string (sb t.key), .string (sb t.val)] 45)) = w0 at *
  obtain ⟨c0, c1⟩ := HC.out
  go_wp2_with fail
  refine (account_any t.fr w0).mono ?_
  rintro e w1 ⟨rfl, rfl⟩
  obtain ⟨ao, HAO⟩ : ∃ b : Bool, Hid ((decide (1 ≤ t.fr) && decide (t.fr ≤ 40)) = b) := ⟨_, hid rfl⟩
  rw [HAO.out]
  have hao := HAO.out
  clear hao
  go_wp2_with fail
  all_goals first
    | (refine (HOF.out w0).mono ?_
       rintro e w1 ⟨rfl, hb1⟩
       rw [HKO.out]
       go_wp2_with fail)
    | skip
  all_goals
    go_ret
    refine ⟨?_, ?_⟩
    · refine congrArg (fun b => Ending.returned (Value.int IntKind.i64 b)) ?_
      have HX := HMP.out
      have h1 := HAO.out
      have h2 := HKO.out
      clear HMP HAO HKO HM HOF HB0 l0
      grind
    · first
        | exact HB0.out
        | exact HB0.out.trans (hb1.mono HB0.out.size)

theorem txnum_any (v : Value) (l : List UInt8) (n : Int) (w : World) (hv : Byt w v l) (h0 : 0 ≤ n) (h1 : n < 9223372036854775808) (hs : l.length ≤ 1099511627000) :
    Calls Tryd.prog 75 #[v, .int .i64 n] w fun e w' => ∃ x, e = .returned x ∧ Own w.heap.size w' x (l ++ dg n.toNat) ∧ Below w.heap.size w w' := by
  have hw : IntKind.u64.wrap n = n := wrap_u64 _ (by omega) (by omega)
  go_enter Tryd.func75, Tryd.ntmps75
  go_wp2_with fail
  refine (num_any v l n w hv h0 (by omega) hs).mono ?_
  rintro e w1 ⟨v1, rfl, ho1, hb1⟩
  go_wp2_with fail
  go_ret
  exact ⟨_, rfl, ho1, hb1⟩

set_option maxHeartbeats 3200000 in
theorem txown_any (t : TxM) (w : World) (hm : mayT t = true) :
    Calls Tryd.prog 64 #[txv t] w fun e w' => ∃ x, e = .returned x ∧ Own w.heap.size w' x (bytesT t) ∧ Below w.heap.size w w' := by
  obtain ⟨h1, h2, h3⟩ := mayT_iff hm
  obtain ⟨fr, no, ki, tu, am, key, val⟩ := t
  simp only at h1 h2 h3
  obtain ⟨a, rfl⟩ := nat_of (i := fr) (by omega)
  obtain ⟨b, rfl⟩ := nat_of (i := no) (by omega)
  obtain ⟨c, rfl⟩ := nat_of (i := ki) (by omega)
  have hc : c < 128 := by omega
  have hab : a < 9223372036854775808 ∧ b < 9223372036854775808 := by omega
  unfold txv
  simp only
  have hrow := fun (C : Array Value) => heap_alloc_new w (.cells C 45)
  have hnew := fun (C : Array Value) => (Below.refl w.heap.size w).alloc (Nat.le_refl _) (.cells C 45)
  have HLA := hid (dg_len10 (n := a) (by omega))
  have HLB := hid (dg_len10 (n := b) (by omega))
  have HLC := hid (dg_len10 (n := c) (by omega))
  obtain ⟨s, HS⟩ : ∃ s : ByteArray, Hid (sb key = s) := ⟨_, hid rfl⟩
  obtain ⟨u, HU⟩ : ∃ s : ByteArray, Hid (sb val = s) := ⟨_, hid rfl⟩
  rw [HS.out, HU.out]
  have hr0 := hrow #[.int .i64 (a : Int), .int .i64 (b : Int), .int .i64 (c : Int), .int .i64 tu, .int .i64 am, .string s, .string u]
  have hn0 := hnew #[.int .i64 (a : Int), .int .i64 (b : Int), .int .i64 (c : Int), .int .i64 tu, .int .i64 am, .string s, .string u]
  clear hrow hnew
  have H3 := hid h3
  have HAB := hid hab
  have HCC := hid hc
  clear h1 h2 h3 hab hc
  go_enter Tryd.func64, Tryd.ntmps64
  go_wp2_with fail
  have hsz0 : (w.alloc (.cells #[.int .i64 (a : Int), .int .i64 (b : Int), .int .i64 (c : Int), .int .i64 tu, .int .i64 am, .string s, .string u] 45)).heap.size = w.heap.size + 1 := by simp
  generalize (w.alloc (.cells #[.int .i64 (a : Int), .int .i64 (b : Int), .int .i64 (c : Int), .int .i64 tu, .int .i64 am, .string s, .string u] 45)) = w0 at *
  have hl0 := lt_of_block hr0
  have HC : Hid (∀ W : World, Below w0.heap.size w0 W → ∀ i, W.cell? ⟨w.heap.size, i, none⟩ = #[Value.int .i64 (a : Int), .int .i64 (b : Int), .int .i64 (c : Int), .int .i64 tu, .int .i64 am, .string s, .string u][i]?) := hid (fun W h i => cell_blk ((h.block _ hl0).trans hr0) i)
  clear hr0 hl0
  have HW : Hid (w0.heap.size = w.heap.size + 1) := hid hsz0
  clear hsz0
  refine (txnum_any _ [] (a : Int) w0 (Byt.nil _) (by omega) (by have := HAB.out; omega) (by decide)).mono ?_
  rintro e w1 ⟨v1, rfl, ho1, hb1⟩
  rw [Int.toNat_natCast, List.nil_append] at ho1
  have d1 := HC.out w1 hb1 1
  simp at d1
  go_wp2_with fail
  refine (txnum_any _ _ (b : Int) w1 ho1.byt (by omega) (by have := HAB.out; omega) (by have := HLA.out; omega)).mono ?_
  rintro e w2 ⟨v2, rfl, ho2, hb2'⟩
  have hb2 := hb1.trans (hb2'.mono hb1.size)
  rw [Int.toNat_natCast] at ho2
  have d2 := HC.out w2 hb2 2
  simp at d2
  clear d1
  go_wp2_with fail
  refine (txnum_any _ _ (c : Int) w2 ho2.byt (by omega) (by have := HCC.out; omega) (by rw [List.length_append]; have := HLA.out; have := HLB.out; omega)).mono ?_
  rintro e w3 ⟨v3, rfl, ho3, hb3'⟩
  have hb3 := hb2.trans (hb3'.mono hb2.size)
  rw [Int.toNat_natCast, List.append_assoc] at ho3
  have d2 := HC.out w3 hb3 2
  have d3 := HC.out w3 hb3 3
  have d5 := HC.out w3 hb3 5
  simp at d2 d3 d5
  obtain ⟨P, HP⟩ : ∃ P : List UInt8, Hid (dg a ++ (dg b ++ dg c) = P) := ⟨_, hid rfl⟩
  have HPL : Hid (P.length ≤ 30) := hid (by rw [← HP.out, List.length_append, List.length_append]; have := HLA.out; have := HLB.out; have := HLC.out; omega)
  rw [HP.out] at ho3
  have hv3 := ho3.byt
  clear ho1 ho2 ho3 hb2' hb3' hb1 hb2
  obtain ⟨hk, hto, ham, rfl, rfl⟩ | ⟨hk, rfl, rfl, hky, hvl⟩ | ⟨hk, rfl, rfl, hky, rfl⟩ := H3.out
  · obtain ⟨d, rfl⟩ := nat_of (i := tu) (by omega)
    obtain ⟨f, rfl⟩ := nat_of (i := am) (by omega)
    obtain rfl : c = 1 := by omega
    have hdf : d < 9223372036854775808 ∧ f < 9223372036854775808 := by omega
    have HDF := hid hdf
    have HLD := hid (dg_len10 (n := d) (by omega))
    clear hk hto ham hdf
    go_wp2_with fail
    refine (txnum_any _ _ (d : Int) w3 hv3 (by omega) (by have := HDF.out; omega) (by have := HPL.out; omega)).mono ?_
    rintro e w4 ⟨v4, rfl, ho4, hb4'⟩
    have hb4 := hb3.trans (hb4'.mono hb3.size)
    rw [Int.toNat_natCast] at ho4
    have e4 := HC.out w4 hb4 4
    simp at e4
    clear d2 d3 d5
    go_wp2_with fail
    refine (txnum_any _ _ (f : Int) w4 ho4.byt (by omega) (by have := HDF.out; omega) (by rw [List.length_append]; have := HPL.out; have := HLD.out; omega)).mono ?_
    rintro e w5 ⟨v5, rfl, ho5, hb5'⟩
    have hb5 := hb4.trans (hb5'.mono hb4.size)
    rw [Int.toNat_natCast] at ho5
    clear e4
    go_wp2_with fail
    go_ret
    refine ⟨v5, rfl, ?_, hn0.trans (hb5.mono hn0.size)⟩
    rw [bytesT_one]
    rw [← HP.out] at ho5
    simp only [List.append_assoc] at ho5
    exact ho5.more (by have := HW.out; have := hb4.size; omega)
  · have HKM := hid (show key.length ≤ maxLen by have := keyOk_len hky; unfold maxLen; omega)
    have HVM := hid (show val.length ≤ maxLen by unfold maxLen; omega)
    have HKL := hid (show key.length ≤ 16 by have := keyOk_len hky; omega)
    have HVL := hid hvl
    obtain rfl : c = 2 := by omega
    clear hk hky hvl
    obtain ⟨v4, w4, hcv4, hby4, hb4'⟩ := run_bs key w3 HKM.out
    rw [HS.out] at hcv4
    have hb4 := hb3.trans (hb4'.mono hb3.size)
    have hv34 := hv3.below hb4'
    go_wp2_with fail
    refine (text_any v3 v4 P key w4 hv34 hby4 (by have := HPL.out; omega) (by have := HKL.out; omega)).mono ?_
    rintro e w5 ⟨v5, rfl, ho5, hb5'⟩
    have hb5 := hb4.trans (hb5'.mono hb4.size)
    have e6 := HC.out w5 hb5 6
    simp at e6
    obtain ⟨v6, w6, hcv6, hby6, hb6'⟩ := run_bs val w5 HVM.out
    rw [HU.out] at hcv6
    have hb6 := hb5.trans (hb6'.mono hb5.size)
    have hv56 := ho5.byt.below hb6'
    clear hcv4 d2 d3 d5
    go_wp2_with fail
    refine (text_any v5 v6 (P ++ tx key) val w6 hv56 hby6 (by rw [List.length_append, tx_len]; have := HPL.out; have := HKL.out; have := dg_len10 (n := key.length) (by omega); omega) (by have := HVL.out; omega)).mono ?_
    rintro e w7 ⟨v7, rfl, ho7, hb7'⟩
    have hb7 := hb6.trans (hb7'.mono hb6.size)
    clear hcv6 e6
    go_wp2_with fail
    go_ret
    refine ⟨v7, rfl, ?_, hn0.trans (hb7.mono hn0.size)⟩
    rw [bytesT_two]
    rw [← HP.out] at ho7
    simp only [List.append_assoc] at ho7
    exact ho7.more (by have := HW.out; have := hb6.size; omega)
  · have HKM := hid (show key.length ≤ maxLen by have := keyOk_len hky; unfold maxLen; omega)
    have HKL := hid (show key.length ≤ 16 by have := keyOk_len hky; omega)
    obtain rfl : c = 3 := by omega
    clear hk hky
    obtain ⟨v4, w4, hcv4, hby4, hb4'⟩ := run_bs key w3 HKM.out
    rw [HS.out] at hcv4
    have hb4 := hb3.trans (hb4'.mono hb3.size)
    have hv34 := hv3.below hb4'
    go_wp2_with fail
    refine (text_any v3 v4 P key w4 hv34 hby4 (by have := HPL.out; omega) (by have := HKL.out; omega)).mono ?_
    rintro e w5 ⟨v5, rfl, ho5, hb5'⟩
    have hb5 := hb4.trans (hb5'.mono hb4.size)
    clear hcv4 d2 d3 d5
    go_wp2_with fail
    go_ret
    refine ⟨v5, rfl, ?_, hn0.trans (hb5.mono hn0.size)⟩
    rw [bytesT_three]
    rw [← HP.out] at ho5
    simp only [List.append_assoc] at ho5
    exact ho5.more (by have := HW.out; have := hb4.size; omega)

set_option maxHeartbeats 3200000 in
theorem txPut_ok : TxPutOk := by
  intro v l t w hv hl ht
  obtain ⟨hk, hw⟩ := ht
  have HCK := hid (fun w => txCheck_any t w (by omega) (by omega))
  obtain ⟨m, HM⟩ : ∃ m : Bool, Hid (mayT t = m) := ⟨_, hid rfl⟩
  have HOW := hid (fun w (h : mayT t = true) => txown_any t w h)
  have HL := hid hl
  clear hk hw hl
  have hr0 := heap_alloc_new w (.cells #[.int .i64 t.fr, .int .i64 t.no, .int .i64 t.ki, .int .i64 t.to, .int .i64 t.am, .string (sb t.key), .string (sb t.val)] 45)
  have hb0 : Below w.heap.size w (w.alloc (.cells #[.int .i64 t.fr, .int .i64 t.no, .int .i64 t.ki, .int .i64 t.to, .int .i64 t.am, .string (sb t.key), .string (sb t.val)] 45)) := (Below.refl _ _).alloc (Nat.le_refl _) _
  have HPT : Hid (putT l t = if m = true then l ++ bytesT t else l) := hid (by unfold putT; rw [HM.out])
  unfold txv
  go_enter Tryd.func41, Tryd.ntmps41
  go_upto_region 1 with (fail)
  generalize (w.alloc (.cells #[.int .i64 t.fr, .int .i64 t.no, .int .i64 t.ki, .int .i64 t.to, .int .i64 t.am, .string (sb t.key), .string (sb t.val)] 45)) = w0 at *
  have hl0 := lt_of_block hr0
  have HLD : Hid (∀ W : World, Below w0.heap.size w0 W → loadTx (.pointer (some ⟨w.heap.size, 0, none⟩)) W = .ok (.value (.agg #[.int .i64 t.fr, .int .i64 t.no, .int .i64 t.ki, .int .i64 t.to, .int .i64 t.am, .string (sb t.key), .string (sb t.val)])) W) := hid (fun W h => loadTx_eq ((h.block _ hl0).trans hr0) rfl)
  have l0 := HLD.out w0 (Below.refl _ _)
  clear hr0 hl0
  have hv0 := hv.below hb0
  have HB0 := hid hb0
  clear hb0 hv
  go_wp2_with fail
  refine (HCK.out w0).mono ?_
  rintro e w1 ⟨rfl, hb1⟩
  rw [HM.out]
  have hB1 := HB0.out.trans (hb1.mono HB0.out.size)
  have hv1 := hv0.below hb1
  cases m with
  | false =>
    obtain ⟨A, c, rfl⟩ := hv1.shape
    clear l0
    go_wp2_with fail
    refine (concat1 _ l w1.heap.size _ (w1.alloc (.cells #[.slice A l.length c] 29)) (by simp) (by simp) (hv1.alloc _) (by have := HL.out; omega)).mono ?_
    rintro e w2 ⟨x, rfl, ho2, hb2⟩
    go_wp2_with fail
    go_ret
    refine ⟨x, rfl, by rw [HPT.out]; exact ho2.byt, ?_⟩
    exact (hB1.alloc hB1.size _).trans (hb2.mono (by have := hB1.size; simp; omega))
  | true =>
    have l1 := HLD.out w1 hb1
    clear l0
    go_wp2_with fail
    refine (HOW.out w1 HM.out).mono ?_
    rintro e w2 ⟨x, rfl, ho2, hb2⟩
    have hB2 := hB1.trans (hb2.mono hB1.size)
    have hv2 := hv1.below hb2
    have hx2 := ho2.byt
    obtain ⟨A, c, rfl⟩ := hv2.shape
    obtain ⟨A2, c2, rfl⟩ := hx2.shape
    clear l1
    go_wp2_with fail
    have hlen : (bytesT t).length ≤ 1000000 := Nat.le_trans (bytesT_len HM.out) (by decide)
    refine (concat2 _ _ l (bytesT t) w2.heap.size _ (w2.alloc (.cells #[.slice A l.length c, .slice A2 (bytesT t).length c2] 29)) (by simp) (by simp) (by simp) (hv2.alloc _) (hx2.alloc _) (by have := HL.out; omega)).mono ?_
    rintro e w3 ⟨y, rfl, ho3, hb3⟩
    go_wp2_with fail
    go_ret
    refine ⟨y, rfl, by rw [HPT.out]; exact ho3.byt, ?_⟩
    exact (hB2.alloc hB2.size _).trans (hb3.mono (by have := hB2.size; simp; omega))
end Go.Proofs.YtekfkfpfnhoblaaDoor
