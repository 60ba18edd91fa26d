/-
  BkOk BkCodeSame BkCodeMay BkCodePut BkAwake BkGetsWalk: what each of them says stands at its head.
-/
import Derived.Test.YtjemfmbmlmogcaaGreatBs8
import Derived.Test.YtjemfmbmlmogcaaGreatBs9
import Derived.Deep.RegionWith
import Derived.Test.YtjemfmbmlmogcaaGreatBs1
import Derived.Test.YtjemfmbmlmogcaaGreatBs6
import Derived.BigQuiet
import Derived.Deep.QuietTactic
import Derived.LoopTactic
import Derived.Outline
import Derived.Test.YtjemfmbmlmogcaaGreatBs2
import Derived.Test.YtjemfmbmlmogcaaGreatBs7
namespace Go.Proofs.YtjemfmbmlmogcaaGreat
set_option maxRecDepth 20000
open Go.RowKit
attribute [local go_sem ↓] exec_load_tx
def litK (b : BkM) : Bool := decide (b.txs.length ≤ 20) && b.txs.all litT
theorem litK_len {b : BkM} (h : litK b = true) : b.txs.length ≤ 20 := by
  unfold litK at h
  rw [Bool.and_eq_true] at h
  exact of_decide_eq_true h.1
theorem litK_light {b : BkM} (h : litK b = true) : ∀ t ∈ b.txs, t.key.length ≤ 100 ∧ t.val.length ≤ 400 := by
  unfold litK at h
  rw [Bool.and_eq_true] at h
  intro t ht
  have := List.all_eq_true.1 h.2 t ht
  unfold litT at this
  simpa using this
theorem lightK_of {b : BkM} (h : litK b = true) : lightK b := fun t ht => by
  have := litK_light h t ht
  omega
def BkNew (B : Nat) (w : World) (x : Value) (b : BkM) : Prop := ∃ s, x = .agg (bkc b s) ∧ b.par.length = 32 ∧ Txs w s b.txs ∧ (0 < b.txs.length → OwnT B w s b.txs)
theorem BkNew.bk {B : Nat} {w : World} {x : Value} {b : BkM} (h : BkNew B w x b) : BkV w x b := by
  obtain ⟨s, rfl, h1, h2, _⟩ := h
  exact ⟨s, rfl, h1, h2⟩
def BkCheckOk : Prop := ∀ (v : Value) (b : BkM) (w : World), BkV w v b → lightK b → Calls Tryz.prog 67 #[v] w fun e w' => e = .returned (.int .i64 (if mayK b = true then 0 else 1)) ∧ Below w.heap.size w w'
def BkPutOk : Prop := ∀ (v : Value) (b : BkM) (w : World), BkV w v b → lightK b →
  Calls Tryz.prog 57 #[v] w fun e w' => ∃ x, e = .returned (.tuple #[x, .int .i64 (if mayK b = true then 0 else 1)]) ∧ Byt w' x (if mayK b = true then bytesK b else []) ∧ Below w.heap.size w w'
def BkFirstOk : Prop := ∀ (w : World), Calls Tryz.prog 68 #[] w fun e w' => ∃ x, e = .returned x ∧ BkV w' x bkZ ∧ Below w.heap.size w w'
def BkSameOk : Prop := ∀ (va vb : Value) (a b : BkM) (w : World), BkV w va a → BkV w vb b → Calls Tryz.prog 31 #[va, vb] w fun e w' => e = .returned (.bool (sameK a b)) ∧ Below w.heap.size w w'
set_option maxHeartbeats 1600000 in
theorem light7_any (v : Value) (b : BkM) (w : World) (hv : BkV w v b) (hlk : ∀ t ∈ b.txs, t.key.length ≤ maxLen ∧ t.val.length ≤ maxLen) :
    Calls Tryz.prog 16 #[v] w fun e w' => e = .returned (.bool (litK b)) ∧ Below w.heap.size w w' := by
  obtain ⟨s, rfl, hp, ht⟩ := hv
  have hb0 : Below w.heap.size w (w.alloc (.cells (bkc b s) 34)) := (Below.refl _ _).alloc (Nat.le_refl _) _
  have hA := BoxK.new w b s
  have ht0 := ht.below hb0
  obtain ⟨A, c, rfl⟩ := ht.shape
  obtain ⟨C, HC⟩ : ∃ C : Array Value, Hid (bkc b (.slice A b.txs.length c) = C) := ⟨_, hid rfl⟩
  obtain ⟨L, HL⟩ : ∃ n : Nat, Hid (b.txs.length = n) := ⟨_, hid rfl⟩
  obtain ⟨ans, HAN⟩ : ∃ q : Bool, Hid (litK b = q) := ⟨_, hid rfl⟩
  have hlen := ht.len
  rw [HL.out] at hlen
  unfold maxLen at hlen
  rw [HAN.out, HC.out]
  rw [HC.out] at hA hb0 ht0
  rw [HL.out] at hA ht0
  have HLK := hid hlk
  clear ht hlk
  go_enter Tryz.func16, Tryz.ntmps16
  go_upto_region 1 with (fail)
  generalize (w.alloc (.cells C 34)) = w0 at *
  have HA := hid hA
  have HT := hid ht0
  have hl0 := hA.lt
  clear hA ht0
  go_wp2_with fail
  go_loopw [3] (fun si wr => ∃ i : Nat, i ≤ L ∧ i ≤ 21 ∧ si = .int .i64 i ∧ Hid (∀ j (h : j < b.txs.length), j < i → litT b.txs[j] = true) ∧ Below w0.heap.size w0 wr) (fun si _ => L - (intOf si).toNat)
  case atStart => exact ⟨0, Nat.zero_le _, Nat.zero_le _, rfl, hid (fun j _ h => absurd h (by omega)), Below.refl _ _⟩
  case round =>
    obtain ⟨i, hi, hi21, rfl, HB, hbr⟩ := hrel
    have hBr := hb0.trans (hbr.mono hb0.size)
    have k4 := ((HA.out.below hbr hl0).cells hp).2.2.2
    by_cases hlt : i < L ∧ i ≤ 20
    · obtain ⟨hlt, h20⟩ := hlt
      have hil : i < b.txs.length := by rw [HL.out]; exact hlt
      obtain ⟨ba, oa, rfl, hba, hcla⟩ := (HT.out.below hbr).at_.2.2.2 (by omega)
      have hI : (i : Int) < (L : Int) := by omega
      have hJ : (i : Int) ≤ 20 := by omega
      have l1 : loadTx (.pointer (some ⟨ba, oa + i * 7, none⟩)) wr = .ok (.value (txv b.txs[i])) wr := loadTx_mid (hcla i hil)
      have HMT : Hid (∀ W, Calls Tryz.prog 17 #[txv b.txs[i]] W fun e w' => e = .returned (.bool (litT b.txs[i])) ∧ Below W.heap.size W w') := hid (fun W => light6_any _ W (HLK.out _ (List.getElem_mem hil)).1 (HLK.out _ (List.getElem_mem hil)).2)
      obtain ⟨X, HX⟩ : ∃ C : Array Value, Hid ((tcl b.txs[i]).toArray = C) := ⟨_, hid rfl⟩
      obtain ⟨m, HM⟩ : ∃ q : Bool, Hid (litT b.txs[i] = q) := ⟨_, hid rfl⟩
      rw [txv_tcl, HX.out] at l1
      rw [txv_tcl, HX.out, HM.out] at HMT
      clear hcla
      go_wp2_with fail
      refine (HMT.out wr).mono ?_
      rintro e w2 ⟨rfl, hb2⟩
      have hbr2 := hbr.trans (hb2.mono hbr.size)
      have hB2 := hBr.trans (hb2.mono hBr.size)
      clear l1 k4
      cases m with
      | false =>
        go_wp2_with fail
        go_ret
        have e : ans = false := by
          rw [← HAN.out]
          unfold litK
          have : b.txs.all litT = false := by
            rw [List.all_eq_false]
            exact ⟨_, List.getElem_mem hil, by simp [HM.out]⟩
          rw [this, Bool.and_false]
        subst e
        exact ⟨rfl, hB2⟩
      | true =>
        go_wp2_with fail
        go_roundw
        case rel =>
          refine ⟨i + 1, by omega, by omega, by go_num, hid (fun j h hj => ?_), hbr2⟩
          by_cases hji : j < i
          · exact HB.out j h hji
          · obtain rfl : j = i := by omega
            exact HM.out
        case measure => simp [intOf]; omega
    · have HE : Hid (ans = decide ((L : Int) ≤ 20)) := hid (by
        rw [← HAN.out]
        unfold litK
        rw [HL.out]
        by_cases h20 : L ≤ 20
        · have hiL : i = L := by omega
          have : b.txs.all litT = true := by
            rw [List.all_eq_true]
            intro t ht
            obtain ⟨j, hj, rfl⟩ := List.getElem_of_mem ht
            exact HB.out j hj (by have := HL.out; omega)
          rw [this, decide_eq_true h20, decide_eq_true (by omega)]
          rfl
        · rw [decide_eq_false h20, decide_eq_false (by omega)]
          rfl)
      clear HB
      by_cases hI : (i : Int) < (L : Int)
      · have hJ : ¬ (i : Int) ≤ 20 := by omega
        have h20 : ¬ (L : Int) ≤ 20 := by omega
        obtain rfl : ans = false := by rw [HE.out]; exact decide_eq_false h20
        clear hlt
        go_wp2_with fail
        go_ret
        exact ⟨rfl, hBr⟩
      · clear hlt
        by_cases h20 : (L : Int) ≤ 20
        · obtain rfl : ans = true := by rw [HE.out]; exact decide_eq_true h20
          go_wp2_with fail
          go_ret
          exact ⟨rfl, hBr⟩
        · obtain rfl : ans = false := by rw [HE.out]; exact decide_eq_false h20
          go_wp2_with fail
          go_ret
          exact ⟨rfl, hBr⟩
end Go.Proofs.YtjemfmbmlmogcaaGreat
namespace Go.Proofs.YtjemfmbmlmogcaaGreat
set_option maxRecDepth 20000
open Go.RowKit
attribute [local go_sem ↓] exec_load_tx exec_load_hash
set_option maxHeartbeats 1600000 in
theorem equalT_any (va vb : Value) (ta tb : List TxM) (w0 : World) (hta : Txs w0 va ta) (htb : Txs w0 vb tb) :
    Calls Tryz.prog 72 #[va, vb] w0 fun e w' => e = .returned (.bool (decide (ta = tb))) ∧ Below w0.heap.size w0 w' := by
  obtain ⟨ans, HAN⟩ : ∃ q : Bool, Hid (decide (ta = tb) = q) := ⟨_, hid rfl⟩
  rw [HAN.out]
  obtain ⟨AA, ca, rfl⟩ := hta.shape
  obtain ⟨AB, cb, rfl⟩ := htb.shape
  obtain ⟨LA, HLA⟩ : ∃ n : Nat, Hid (ta.length = n) := ⟨_, hid rfl⟩
  obtain ⟨LB, HLB⟩ : ∃ n : Nat, Hid (tb.length = n) := ⟨_, hid rfl⟩
  have hlena := hta.len
  have hlenb := htb.len
  rw [HLA.out] at hta hlena ⊢
  rw [HLB.out] at htb hlenb ⊢
  unfold maxLen at hlena hlenb
  by_cases e4 : LA = LB
  · subst e4
    have t4 : ((LA : Int) != (LA : Int)) = false := by simp
    obtain ⟨_, hca1, hca2, hra⟩ := hta.at_
    obtain ⟨_, hcb1, hcb2, hrb⟩ := htb.at_
    rw [HLA.out] at hca1
    rw [HLB.out] at hcb1
    unfold maxLen at hca2 hcb2
    have HRA := hid hra
    have HRB := hid hrb
    clear hra hrb hta htb
    go_enter Tryz.func72, Tryz.ntmps72
    go_wp2_with fail
    clear t4
    go_loopw [13] (fun si wr => ∃ i : Nat, i ≤ LA ∧ si = .int .i64 i ∧ Hid (∀ j (h : j < ta.length) (h2 : j < tb.length), j < i → ta[j] = tb[j]) ∧ ∃ n, wr = w0.drewN n) (fun si _ => LA - (intOf si).toNat)
    case atStart => exact ⟨0, Nat.zero_le _, rfl, hid (fun j _ _ h => absurd h (by omega)), 0, rfl⟩
    case round =>
      obtain ⟨i, hi, rfl, HB, n, rfl⟩ := hrel
      by_cases hlt : i < LA
      · have hil : i < ta.length := by rw [HLA.out]; exact hlt
        have him : i < tb.length := by rw [HLB.out]; exact hlt
        obtain ⟨ba, oa', rfl, hba, hcla⟩ := HRA.out (by omega)
        obtain ⟨bb, ob', rfl, hbb, hclb⟩ := HRB.out (by omega)
        have l1 : ∀ k, loadTx (.pointer (some ⟨ba, oa' + i * 7, none⟩)) (w0.drewN k) = .ok (.value (txv ta[i])) (w0.drewN k) := fun k => loadTx_mid (hcla i hil)
        have l2 : ∀ k, loadTx (.pointer (some ⟨bb, ob' + i * 7, none⟩)) (w0.drewN k) = .ok (.value (txv tb[i])) (w0.drewN k) := fun k => loadTx_mid (hclb i him)
        have hI : (i : Int) < (LA : Int) := by omega
        have eqt : ∀ W, (Op.equalIn 10000 36 (txv ta[i]) (txv tb[i])).run Tryz.prog W = .ok (decide (ta[i] = tb[i])) W := fun W => eq_tx2 _ _ W
        clear hcla hclb
        obtain ⟨X, HX⟩ : ∃ C : Array Value, Hid ((tcl ta[i]).toArray = C) := ⟨_, hid rfl⟩
        obtain ⟨Y, HY⟩ : ∃ C : Array Value, Hid ((tcl tb[i]).toArray = C) := ⟨_, hid rfl⟩
        rw [txv_tcl, HX.out] at l1 eqt
        rw [txv_tcl, HY.out] at l2 eqt
        by_cases hxy : ta[i] = tb[i]
        · rw [decide_eq_true hxy] at eqt
          go_wp2_with fail
          go_quiet (fail)
          go_wp2
          go_roundw
          case rel =>
            refine ⟨i + 1, by omega, by go_num, hid (fun j h h2 hj => ?_), _, rfl⟩
            by_cases hji : j < i
            · exact HB.out j h h2 hji
            · obtain rfl : j = i := by omega
              exact hxy
          case measure => simp [intOf]; omega
        · rw [decide_eq_false hxy] at eqt
          go_wp2_with fail
          go_quiet (fail)
          go_wp2
          go_ret
          have e : ans = false := by
            rw [← HAN.out]
            exact decide_eq_false (fun e => by subst e; exact hxy rfl)
          subst e
          exact ⟨rfl, below_drewN (below_drewN (Below.refl _ _) _) _⟩
      · obtain rfl : i = LA := by omega
        go_wp2
        go_ret
        have e : ans = true := by
          rw [← HAN.out]
          exact decide_eq_true (List.ext_getElem (by rw [HLA.out, HLB.out]) fun j h h2 => HB.out j h h2 (by have := HLA.out; omega))
        subst e
        exact ⟨rfl, below_drewN (Below.refl _ _) n⟩
  · have t4 : ((LA : Int) != (LB : Int)) = true := by simp; omega
    obtain rfl : ans = false := by
      rw [← HAN.out]
      exact decide_eq_false (fun e => by rw [e] at HLA; exact e4 (HLA.out.symm.trans HLB.out))
    clear e4 hta htb
    go_enter Tryz.func72, Tryz.ntmps72
    go_wp2_with fail
    go_ret
    exact ⟨rfl, Below.refl _ _⟩
set_option maxHeartbeats 1600000 in
theorem bkSame_ok : BkSameOk := by
  intro va vb a b w hva hvb
  obtain ⟨sa, rfl, hpa, hta⟩ := hva
  obtain ⟨sb, rfl, hpb, htb⟩ := hvb
  have hb0 : Below w.heap.size w ((w.alloc (.cells (bkc a sa) 34)).alloc (.cells (bkc b sb) 34)) := ((Below.refl _ _).alloc (Nat.le_refl _) _).alloc (by simp) _
  have hA : BoxK ((w.alloc (.cells (bkc a sa) 34)).alloc (.cells (bkc b sb) 34)) w.heap.size a sa := (Below.heap_alloc _ _ _ (by simp)).trans (heap_alloc_new w _)
  have hB : BoxK ((w.alloc (.cells (bkc a sa) 34)).alloc (.cells (bkc b sb) 34)) (w.heap.size + 1) b sb := BoxK.two w _ b sb
  have hta0 := hta.below hb0
  have htb0 := htb.below hb0
  obtain ⟨CA, HCA⟩ : ∃ C : Array Value, Hid (bkc a sa = C) := ⟨_, hid rfl⟩
  obtain ⟨CB, HCB⟩ : ∃ C : Array Value, Hid (bkc b sb = C) := ⟨_, hid rfl⟩
  rw [HCA.out, HCB.out] at hA hB hb0 hta0 htb0 ⊢
  obtain ⟨ans, HAN⟩ : ∃ q : Bool, Hid (sameK a b = q) := ⟨_, hid rfl⟩
  rw [HAN.out]
  go_enter Tryz.func31, Tryz.ntmps31
  go_upto_region 1 with (fail)
  generalize ((w.alloc (.cells CA 34)).alloc (.cells CB 34)) = w0 at *
  clear HCA HCB hta htb
  obtain ⟨a1, a2, a3, a4⟩ := hA.cells hpa
  obtain ⟨b1, b2, b3, b4⟩ := hB.cells hpb
  have la := loadH_mid hA.range hpa
  have lb := loadH_mid hB.range hpb
  have heq := eq_hash a.par b.par hpa hpb w0
  clear hA hB
  obtain ⟨q, HQ⟩ : ∃ q : Bool, Hid (decide (a.par = b.par) = q) := ⟨_, hid rfl⟩
  rw [HQ.out] at heq
  obtain ⟨HA, HHA⟩ : ∃ C : Array Value, Hid (hcells a.par = C) := ⟨_, hid rfl⟩
  obtain ⟨HB, HHB⟩ : ∃ C : Array Value, Hid (hcells b.par = C) := ⟨_, hid rfl⟩
  rw [HHA.out] at la heq
  rw [HHB.out] at lb heq
  clear HHA HHB
  obtain ⟨pa, va, ha, oa, ta⟩ := a
  obtain ⟨pb, vb, hh, ob, tb⟩ := b
  simp only at a1 a2 a3 a4 b1 b2 b3 b4 hta0 htb0 HQ hpa hpb
  have hway : (q = false) ∨ (q = true ∧ va ≠ vb) ∨ (q = true ∧ va = vb ∧ ha ≠ hh) ∨ (q = true ∧ va = vb ∧ ha = hh ∧ oa ≠ ob) ∨ (q = true ∧ va = vb ∧ ha = hh ∧ oa = ob) := by
    cases q
    · exact .inl rfl
    · right
      by_cases e1 : va = vb
      · right
        by_cases e2 : ha = hh
        · right
          by_cases e3 : oa = ob
          · exact .inr ⟨rfl, e1, e2, e3⟩
          · exact .inl ⟨rfl, e1, e2, e3⟩
        · exact .inl ⟨rfl, e1, e2⟩
      · exact .inl ⟨rfl, e1⟩
  obtain rfl | ⟨rfl, e1⟩ | ⟨rfl, rfl, e2⟩ | ⟨rfl, rfl, rfl, e3⟩ | ⟨rfl, rfl, rfl, rfl⟩ := hway
  · obtain rfl : ans = false := by
      rw [← HAN.out]
      exact sameK_no (fun e => by injection e with e _; exact of_decide_eq_false HQ.out e)
    go_wp2_with fail
    go_ret
    exact ⟨rfl, hb0⟩
  · obtain rfl : ans = false := by
      rw [← HAN.out]
      exact sameK_no (fun e => by injection e with _ e _; exact e1 e)
    have t1 : (va == vb) = false := by simpa using e1
    clear e1
    go_wp2_with fail
    go_ret
    exact ⟨rfl, hb0⟩
  · obtain rfl : ans = false := by
      rw [← HAN.out]
      exact sameK_no (fun e => by injection e with _ _ e _; exact e2 e)
    have t1 : (va == va) = true := by simp
    have t2 : (ha == hh) = false := by simpa using e2
    clear e2
    go_wp2_with fail
    go_ret
    exact ⟨rfl, hb0⟩
  · obtain rfl : ans = false := by
      rw [← HAN.out]
      exact sameK_no (fun e => by injection e with _ _ _ e _; exact e3 e)
    have t1 : (va == va) = true := by simp
    have t2 : (ha == ha) = true := by simp
    have t3 : (oa == ob) = false := by simpa using e3
    clear e3
    go_wp2_with fail
    go_ret
    exact ⟨rfl, hb0⟩
  · have t1 : (va == va) = true := by simp
    have t2 : (ha == ha) = true := by simp
    have t3 : (oa == oa) = true := by simp
    obtain ⟨A, c, rfl⟩ := hta0.shape
    obtain ⟨A', c', rfl⟩ := htb0.shape
    go_wp2_with fail
    refine (equalT_any _ _ ta tb w0 hta0 htb0).mono ?_
    rintro e w1 ⟨rfl, hb1⟩
    clear t1 t2 t3 heq la lb a1 a2 a3 a4 b1 b2 b3 b4
    have e : decide (ta = tb) = ans := by
      rw [← HAN.out]
      have hp : pa = pb := of_decide_eq_true HQ.out
      subst hp
      by_cases h : ta = tb
      · subst h
        rw [sameK_self]
        exact decide_eq_true rfl
      · rw [sameK_no (fun e => by injection e with _ _ _ _ e; exact h e)]
        exact decide_eq_false h
    rw [e]
    go_wp2_with fail
    go_ret
    exact ⟨rfl, hb0.trans (hb1.mono hb0.size)⟩
theorem results_k1 {fn : Func} {p : Tmp} (h : fn.results = #[.cell p 34]) (tmps : Array Value) (w : World) (g : Nat) (t : TypeId) (xs : Array Value)
    (hp : tmps.getD p undef = .pointer (some ⟨g, 0, none⟩)) (h1 : w.heap[g]? = some (.cells xs t (0, 0))) (hx : xs.size = 36) : (results fn tmps).run Tryz.prog w = .ok (.agg xs) w :=
  results_cell_row h tmps w g t xs (0, 0) _ hp h1 under_bk rfl (by rw [size_bk, hx])
attribute [local go_sem ↓] exec_load_bk exec_build_bk exec_alloc_bk exec_store_bk
set_option maxHeartbeats 1600000 in
theorem bkFirst_ok : BkFirstOk := by
  intro w
  obtain ⟨Z, HZ⟩ : ∃ C : Array Value, Hid (bkc bkZ (.slice none 0 0) = C) := ⟨_, hid rfl⟩
  have hbz : ∀ W, buildK W = .ok (.value (.agg Z)) W := fun W => by rw [← HZ.out]; exact buildK_eq W
  have hal : ∀ W, allocK W = .ok (.value (.pointer (some ⟨W.heap.size, 0, none⟩))) (W.alloc (.cells Z 34)) := fun W => by rw [← HZ.out]; exact allocK_eq W
  have hsz : Z.size = 36 := by rw [← HZ.out]; exact bkc_size _ bkZ_par
  have hz1 : Z.all (·.oneCell') = true := by rw [← HZ.out]; exact bkc_one (w := w) (b := bkZ) (Txs.nil w)
  have hg := heap_alloc_new w (.cells Z 34)
  have hs0 : storeK (.pointer (some ⟨w.heap.size, 0, none⟩)) (.agg Z) (w.alloc (.cells Z 34)) = .ok .skip (w.alloc (.cells Z 34)) := by
    rw [storeK_eq hg hsz hsz hz1, setK_self hg]
  have HG := hid hg
  have HSZ := hid hsz
  clear hg hsz hz1
  go_enter Tryz.func68, Tryz.ntmps68
  go_wp2_with fail
  refine bodyPost_ret (results_k1 rfl _ _ _ _ _ rfl HG.out HSZ.out) rfl ⟨_, rfl, ?_, (Below.refl _ _).alloc (Nat.le_refl _) _⟩
  exact ⟨.slice none 0 0, by rw [HZ.out], bkZ_par, Txs.nil _⟩
set_option maxHeartbeats 1600000 in
theorem bkIsFirst_ok (v : Value) (b : BkM) (w : World) (hv : BkV w v b) :
    Calls Tryz.prog 99 #[v] w fun e w' => e = .returned (.bool (sameK b bkZ)) ∧ Below w.heap.size w w' := by
  have HV := hid (fun W (h : Below w.heap.size w W) => hv.below h)
  obtain ⟨s, rfl, hp, ht⟩ := hv
  obtain ⟨C, HC⟩ : ∃ C : Array Value, Hid (bkc b s = C) := ⟨_, hid rfl⟩
  rw [HC.out] at HV ⊢
  have HSZ : Hid (C.size = 36) := hid (by rw [← HC.out]; exact bkc_size _ hp)
  have hr0 := heap_alloc_new w (.cells C 34)
  have hb0 : Below w.heap.size w (w.alloc (.cells C 34)) := (Below.refl _ _).alloc (Nat.le_refl _) _
  have hldA : ∀ W : World, W.heap[w.heap.size]? = some (.cells C 34 (0, 0)) → loadK (.pointer (some ⟨w.heap.size, 0, none⟩)) W = .ok (.value (.agg C)) W := fun W h => loadK_row h HSZ.out
  obtain ⟨ans, HAN⟩ : ∃ q : Bool, Hid (sameK b bkZ = q) := ⟨_, hid rfl⟩
  have HSM : Hid (∀ x W, Below w.heap.size w W → BkV W x bkZ → Calls Tryz.prog 31 #[.agg C, x] W fun e w' => e = .returned (.bool ans) ∧ Below W.heap.size W w') := hid (fun x W h hx => by
    have := bkSame_ok _ x b bkZ W (HV.out W h) hx
    rw [HAN.out] at this
    exact this)
  rw [HAN.out]
  have HFI : Hid (∀ W : World, Calls Tryz.prog 68 #[] W fun e w' => ∃ x, e = .returned x ∧ BkV w' x bkZ ∧ Below W.heap.size W w') := hid (fun W => bkFirst_ok W)
  clear ht
  go_enter Tryz.func99, Tryz.ntmps99
  go_upto_region 1 with (fail)
  generalize (w.alloc (.cells C 34)) = w0 at *
  have hl0 := lt_of_block hr0
  have hbd : Below w0.heap.size w0 w0.drew := (Below.refl _ _).drew
  have HR : Hid (∀ W : World, Below w0.heap.size w0 W → W.heap[w.heap.size]? = some (.cells C 34 (0, 0))) := hid (fun W h => (h.block _ hl0).trans hr0)
  have HB : Hid (∀ W : World, Below w0.heap.size w0 W → Below w.heap.size w W) := hid (fun W h => hb0.trans (h.mono hb0.size))
  clear hr0 hl0
  go_region_held3 (fun W => W.heap[w.heap.size]? = some (.cells C 34 (0, 0)))
    (first
      | (refine HR.out _ hbd)
      | (refine HR.out _ hb2)
      | (refine HR.out _ hb1)
      | fail)
    (first
      | (go_at_call 31; (with_reducible refine (HSM.out x1 _ (HB.out _ hb1) hx1).mono ?_); rintro e w2 ⟨rfl, hb2'⟩; have hb2 := hb1.trans (hb2'.mono hb1.size))
      | (go_at_call 68; (with_reducible refine (HFI.out _).mono ?_); rintro e w1 ⟨x1, rfl, hx1, hb1'⟩; have hb1 := hbd.trans (hb1'.mono hbd.size))
      | fail)
  go_wp2_with fail
  go_ret
  exact ⟨rfl, HB.out _ hb2⟩
end Go.Proofs.YtjemfmbmlmogcaaGreat
namespace Go.Proofs.YtjemfmbmlmogcaaGreat
set_option maxRecDepth 20000
open Go.RowKit
attribute [local go_sem ↓] exec_load_tx exec_load_bk
theorem bkWithin_any (n m : Int) (w : World) : Calls Tryz.prog 114 #[.int .i64 n, .int .i64 m] w fun e w' => e = .returned (.bool (decide (1 ≤ n) && decide (n ≤ m))) ∧ w = w' := by
  go_enter Tryz.func114, Tryz.ntmps114
  go_wp2_with fail
  all_goals
    go_ret
    refine ⟨congrArg (fun b => Ending.returned (Value.bool b)) ?_, rfl⟩
  all_goals grind
theorem bkWrong_any (t : TxM) (w : World) (hk : t.key.length ≤ 1000000) (hv : t.val.length ≤ 1000000) :
    Calls Tryz.prog 116 #[txv t] w fun e w' => e = .returned (.bool (!mayT t)) ∧ Below w.heap.size w w' := by
  have HCK := hid (fun w => txCheck_any t w hk hv)
  obtain ⟨m, HM⟩ : ∃ m : Bool, Hid (mayT t = m) := ⟨_, hid rfl⟩
  rw [HM.out] at HCK ⊢
  have hb0 : Below w.heap.size w (w.alloc (.cells (tcl t).toArray 36)) := (Below.refl _ _).alloc (Nat.le_refl _) _
  have l0 := loadTx_mid (w := w.alloc (.cells (tcl t).toArray 36)) (g := w.heap.size) (o := 0) (t := t) (fun j u hu => by
    rw [Nat.zero_add, cell_blk (heap_alloc_new w _) j]
    simpa using hu)
  obtain ⟨X, HX⟩ : ∃ C : Array Value, Hid ((tcl t).toArray = C) := ⟨_, hid rfl⟩
  rw [txv_tcl, HX.out] at l0 HCK ⊢
  rw [HX.out] at hb0
  clear hk hv
  go_enter Tryz.func116, Tryz.ntmps116
  go_wp2_with fail
  refine (HCK.out _).mono ?_
  rintro e w1 ⟨rfl, hb1⟩
  cases m
  all_goals
    go_wp2_with fail
    go_ret
    exact ⟨rfl, hb0.trans (hb1.mono hb0.size)⟩
set_option maxHeartbeats 1600000 in
theorem indexWrong_any (v : Value) (L : List TxM) (w0 : World) (hv : Txs w0 v L) (hlk : ∀ t ∈ L, t.key.length ≤ 1000000 ∧ t.val.length ≤ 1000000) :
    Calls Tryz.prog 118 #[v, .func (.func 116) #[] #[]] w0 fun e w' => ∃ k : Int, e = .returned (.int .i64 k) ∧ decide (0 ≤ k) = !L.all mayT ∧ Below w0.heap.size w0 w' := by
  obtain ⟨A, c, rfl⟩ := hv.shape
  obtain ⟨n, HN⟩ : ∃ n : Nat, Hid (L.length = n) := ⟨_, hid rfl⟩
  have hlen := hv.len
  unfold maxLen at hlen
  rw [HN.out] at hv hlen ⊢
  have HT := hid hv
  have HLK := hid hlk
  clear hv hlk
  go_enter Tryz.func118, Tryz.ntmps118
  go_wp2_with fail
  go_loopw [8] (fun si wr => ∃ i : Nat, i ≤ n ∧ si = .int .i64 i ∧ Hid (∀ j (h : j < L.length), j < i → mayT L[j] = true) ∧ Below w0.heap.size w0 wr) (fun si _ => n - (intOf si).toNat)
  case atStart => exact ⟨0, Nat.zero_le _, rfl, hid (fun j _ h => absurd h (by omega)), Below.refl _ _⟩
  case round =>
    obtain ⟨i, hi, rfl, HB, hbr⟩ := hrel
    by_cases hlt : i < n
    · have hil : i < L.length := by rw [HN.out]; exact hlt
      obtain ⟨ba, oa, rfl, hba, hcla⟩ := (HT.out.below hbr).at_.2.2.2 (by omega)
      have hI : (i : Int) < (n : Int) := by omega
      have l1 : loadTx (.pointer (some ⟨ba, oa + i * 7, none⟩)) wr = .ok (.value (txv L[i])) wr := loadTx_mid (hcla i hil)
      have HW : Hid (∀ W, Calls Tryz.prog 116 #[txv L[i]] W fun e w' => e = .returned (.bool (!mayT L[i])) ∧ Below W.heap.size W w') := hid (fun W => bkWrong_any _ W (HLK.out _ (List.getElem_mem hil)).1 (HLK.out _ (List.getElem_mem hil)).2)
      obtain ⟨X, HX⟩ : ∃ C : Array Value, Hid ((tcl L[i]).toArray = C) := ⟨_, hid rfl⟩
      obtain ⟨m, HM⟩ : ∃ q : Bool, Hid (mayT L[i] = q) := ⟨_, hid rfl⟩
      rw [txv_tcl, HX.out] at l1
      rw [txv_tcl, HX.out, HM.out] at HW
      clear hcla
      go_wp2_with fail
      refine (HW.out wr).mono ?_
      rintro e w2 ⟨rfl, hb2⟩
      have hbr2 := hbr.trans (hb2.mono hbr.size)
      clear l1
      cases m with
      | false =>
        go_wp2_with fail
        go_ret
        refine ⟨_, rfl, ?_, hbr2⟩
        have : L.all mayT = false := by
          rw [List.all_eq_false]
          exact ⟨_, List.getElem_mem hil, by simp [HM.out]⟩
        rw [this]
        exact decide_eq_true (by omega)
      | true =>
        go_wp2_with fail
        go_roundw
        case rel =>
          refine ⟨i + 1, by omega, by go_num, hid (fun j h hj => ?_), hbr2⟩
          by_cases hji : j < i
          · exact HB.out j h hji
          · obtain rfl : j = i := by omega
            exact HM.out
        case measure => simp [intOf]; omega
    · obtain rfl : i = n := by omega
      go_wp2_with fail
      go_ret
      refine ⟨_, rfl, ?_, hbr⟩
      have : L.all mayT = true := by
        rw [List.all_eq_true]
        intro t ht
        obtain ⟨j, hj, rfl⟩ := List.getElem_of_mem ht
        exact HB.out j hj (by have := HN.out; omega)
      rw [this]
      rfl
theorem containsWrong_any (v : Value) (L : List TxM) (w0 : World) (hv : Txs w0 v L) (hlk : ∀ t ∈ L, t.key.length ≤ 1000000 ∧ t.val.length ≤ 1000000) :
    Calls Tryz.prog 115 #[v, .func (.func 116) #[] #[]] w0 fun e w' => e = .returned (.bool (!L.all mayT)) ∧ Below w0.heap.size w0 w' := by
  have HI := hid (indexWrong_any v L w0 hv hlk)
  obtain ⟨A, c, rfl⟩ := hv.shape
  obtain ⟨m, HM⟩ : ∃ q : Bool, Hid ((!L.all mayT) = q) := ⟨_, hid rfl⟩
  rw [HM.out] at HI ⊢
  clear hv hlk
  go_enter Tryz.func115, Tryz.ntmps115
  go_wp2_with fail
  refine HI.out.mono ?_
  rintro e w1 ⟨k, rfl, hk, hb1⟩
  clear HM HI
  subst hk
  go_wp2_with fail
  all_goals
    go_ret
    exact ⟨rfl, hb1⟩
set_option maxHeartbeats 1600000 in
theorem bkIsLater_ok (v : Value) (b : BkM) (w : World) (hv : BkV w v b) (hlk : lightK b) :
    Calls Tryz.prog 100 #[v] w fun e w' => e = .returned (.bool (b.txs.all mayT && numsK b)) ∧ Below w.heap.size w w' := by
  obtain ⟨s, rfl, hp, ht⟩ := hv
  have hb0 : Below w.heap.size w (w.alloc (.cells (bkc b s) 34)) := (Below.refl _ _).alloc (Nat.le_refl _) _
  have hA := BoxK.new w b s
  have ht0 := ht.below hb0
  obtain ⟨A, c, rfl⟩ := ht.shape
  obtain ⟨L, HL⟩ : ∃ n : Nat, Hid (b.txs.length = n) := ⟨_, hid rfl⟩
  obtain ⟨C, HC⟩ : ∃ C : Array Value, Hid (bkc b (.slice A b.txs.length c) = C) := ⟨_, hid rfl⟩
  rw [HC.out]
  rw [HC.out] at hA hb0 ht0
  rw [HL.out] at hA ht0
  obtain ⟨ans, HAN⟩ : ∃ q : Bool, Hid ((b.txs.all mayT && numsK b) = q) := ⟨_, hid rfl⟩
  rw [HAN.out]
  clear ht
  go_enter Tryz.func100, Tryz.ntmps100
  go_upto_region 1 with (fail)
  generalize (w.alloc (.cells C 34)) = w0 at *
  obtain ⟨k1, k2, k3, k4⟩ := hA.cells hp
  clear hA
  obtain ⟨q1, HQ1⟩ : ∃ q : Bool, Hid ((decide (1 ≤ b.vi) && decide (b.vi ≤ 1099511627776)) = q) := ⟨_, hid rfl⟩
  obtain ⟨q2, HQ2⟩ : ∃ q : Bool, Hid ((decide (1 ≤ b.he) && decide (b.he ≤ 1099511627776)) = q) := ⟨_, hid rfl⟩
  obtain ⟨q3, HQ3⟩ : ∃ q : Bool, Hid ((decide (1 ≤ b.bo) && decide (b.bo ≤ 21)) = q) := ⟨_, hid rfl⟩
  obtain ⟨q4, HQ4⟩ : ∃ q : Bool, Hid (decide (L ≤ 8) = q) := ⟨_, hid rfl⟩
  obtain ⟨q5, HQ5⟩ : ∃ q : Bool, Hid (b.txs.all mayT = q) := ⟨_, hid rfl⟩
  have HN : Hid (ans = (q1 && q2 && q3 && (q4 && q5))) := hid (by
    rw [← HAN.out, ← HQ1.out, ← HQ2.out, ← HQ3.out, ← HQ4.out, ← HQ5.out, ← HL.out]
    unfold numsK
    ac_rfl)
  have HW1 := hid (bkWithin_any b.vi 1099511627776 w0)
  have HW2 := hid (bkWithin_any b.he 1099511627776 w0)
  have HW3 := hid (bkWithin_any b.bo 21 w0)
  have HCF := hid (containsWrong_any _ _ w0 ht0 hlk)
  rw [HQ1.out] at HW1
  rw [HQ2.out] at HW2
  rw [HQ3.out] at HW3
  rw [HQ5.out] at HCF
  clear ht0 hlk
  go_wp2_with fail
  refine HW1.out.mono ?_
  rintro e w1 ⟨rfl, rfl⟩
  clear k1
  cases q1 with
  | false =>
    obtain rfl : ans = false := HN.out
    go_wp2_with fail
    go_ret
    exact ⟨rfl, hb0⟩
  | true =>
    go_wp2_with fail
    refine HW2.out.mono ?_
    rintro e w1 ⟨rfl, rfl⟩
    clear k2
    cases q2 with
    | false =>
      obtain rfl : ans = false := HN.out
      go_wp2_with fail
      go_ret
      exact ⟨rfl, hb0⟩
    | true =>
      go_wp2_with fail
      refine HW3.out.mono ?_
      rintro e w1 ⟨rfl, rfl⟩
      clear k3
      cases q3 with
      | false =>
        obtain rfl : ans = false := HN.out
        go_wp2_with fail
        go_ret
        exact ⟨rfl, hb0⟩
      | true =>
        cases q4 with
        | false =>
          obtain rfl : ans = false := HN.out
          have hi : ¬ (L : Int) ≤ 8 := by have := of_decide_eq_false HQ4.out; omega
          go_wp2_with fail
          go_ret
          exact ⟨rfl, hb0⟩
        | true =>
          have hi : (L : Int) ≤ 8 := by have := of_decide_eq_true HQ4.out; omega
          go_wp2_with fail
          refine HCF.out.mono ?_
          rintro e w1 ⟨rfl, hb1⟩
          have e : ans = q5 := by rw [HN.out]; simp
          subst e
          cases ans
          all_goals
            go_wp2_with fail
            go_ret
            exact ⟨rfl, hb0.trans (hb1.mono hb0.size)⟩
set_option maxHeartbeats 1600000 in
theorem bkCheck_ok : BkCheckOk := by
  intro v b w hv hlk
  have HV := hid (fun W (h : Below w.heap.size w W) => hv.below h)
  obtain ⟨s, rfl, hp, ht⟩ := hv
  obtain ⟨C, HC⟩ : ∃ C : Array Value, Hid (bkc b s = C) := ⟨_, hid rfl⟩
  rw [HC.out] at HV ⊢
  have HSZ : Hid (C.size = 36) := hid (by rw [← HC.out]; exact bkc_size _ hp)
  have hr0 := heap_alloc_new w (.cells C 34)
  have hb0 : Below w.heap.size w (w.alloc (.cells C 34)) := (Below.refl _ _).alloc (Nat.le_refl _) _
  obtain ⟨f, HF⟩ : ∃ q : Bool, Hid (sameK b bkZ = q) := ⟨_, hid rfl⟩
  obtain ⟨g, HG⟩ : ∃ q : Bool, Hid ((b.txs.all mayT && numsK b) = q) := ⟨_, hid rfl⟩
  have HMK : Hid (mayK b = (f || g)) := hid (by unfold mayK; rw [HF.out, HG.out])
  have HIF : Hid (∀ W, Below w.heap.size w W → Calls Tryz.prog 99 #[.agg C] W fun e w' => e = .returned (.bool f) ∧ Below W.heap.size W w') := hid (fun W h => by
    have := bkIsFirst_ok _ b W (HV.out W h)
    rw [HF.out] at this
    exact this)
  have HIL : Hid (∀ W, Below w.heap.size w W → Calls Tryz.prog 100 #[.agg C] W fun e w' => e = .returned (.bool g) ∧ Below W.heap.size W w') := hid (fun W h => by
    have := bkIsLater_ok _ b W (HV.out W h) hlk
    rw [HG.out] at this
    exact this)
  rw [HMK.out]
  clear ht
  go_enter Tryz.func67, Tryz.ntmps67
  go_upto_region 1 with (fail)
  generalize (w.alloc (.cells C 34)) = w0 at *
  have hl0 := lt_of_block hr0
  have HLD : Hid (∀ W : World, Below w0.heap.size w0 W → loadK (.pointer (some ⟨w.heap.size, 0, none⟩)) W = .ok (.value (.agg C)) W) := hid (fun W h => loadK_row ((h.block _ hl0).trans hr0) HSZ.out)
  have l0 := HLD.out w0 (Below.refl _ _)
  clear hr0 hl0
  go_wp2_with fail
  refine (HIF.out w0 hb0).mono ?_
  rintro e w1 ⟨rfl, hb1⟩
  have hB1 := hb0.trans (hb1.mono hb0.size)
  have l1 := HLD.out w1 hb1
  clear l0
  cases f with
  | true =>
    clear l1
    go_wp2_with fail
    go_ret
    exact ⟨rfl, hB1⟩
  | false =>
    go_wp2_with fail
    refine (HIL.out w1 hB1).mono ?_
    rintro e w2 ⟨rfl, hb2⟩
    clear l1
    cases g
    all_goals
      go_wp2_with fail
      go_ret
      exact ⟨rfl, hB1.trans (hb2.mono hB1.size)⟩
end Go.Proofs.YtjemfmbmlmogcaaGreat
namespace Go.Proofs.YtjemfmbmlmogcaaGreat
set_option maxRecDepth 20000
open Go.RowKit
attribute [local go_sem ↓] exec_load_tx exec_load_hash
theorem arr4 : ArrT 148 3 4 (.int .i64 0) := ⟨by kernel_rfl, by kernel_rfl, by kernel_rfl, by kernel_rfl, by kernel_rfl, by kernel_rfl, rfl⟩
theorem wpList_build_four {ops : Array Oper} {rest : List Oper} {o : Oper} {a : Act} {w : World} {Q : Exit → Act → World → Prop} (hgd : o.guard = none) {x0 x1 x2 x3 : Operand} (ho : o.op = .build 148 #[(0, x0), (1, x1), (2, x2), (3, x3)])
    (v0 v1 v2 v3 : Int) (h0 : a.eval x0 = .int .i64 v0) (h1 : a.eval x1 = .int .i64 v1) (h2 : a.eval x2 = .int .i64 v2) (h3 : a.eval x3 = .int .i64 v3)
    (h : wpList Tryz.prog ops Q rest (a.put o.dst (.agg #[.int .i64 v0, .int .i64 v1, .int .i64 v2, .int .i64 v3])) w) : wpList Tryz.prog ops Q (o :: rest) a w :=
  wpList_plain hgd fun _ hK => by
    have e : (Instr.build 148 #[(0, .int .i64 v0), (1, .int .i64 v1), (2, .int .i64 v2), (3, .int .i64 v3)]).run Tryz.prog w = .ok (.agg #[.int .i64 v0, .int .i64 v1, .int .i64 v2, .int .i64 v3]) w := by
      have e2 : fcells 4 (fun _ => (.int .i64 0 : Value)) = #[.int .i64 0, .int .i64 0, .int .i64 0, .int .i64 0] := by kernel_rfl
      simp [Instr.build, Sem.run_bind, arr4.run_zero, run_underlying arr4.under, arr4.run_esize, Instr.fill, Value.cells, e2]
    unfold Oper.wp execOp
    simp only [ho, Sem.run_bind, List.map_toArray, List.map_cons, List.map_nil, h0, h1, h2, h3, e, Sem.run_pure, Result.andThen_ok]
    exact hK _ _ h
theorem four_index (M : List Nat) (p q o l : Nat) (hM : [p, q, o, l] = M) (i : Nat) (hi : i < M.length) (w : World) :
    (Instr.index 148 (.agg #[.int .i64 (p : Int), .int .i64 (q : Int), .int .i64 (o : Int), .int .i64 (l : Int)]) (.int .i64 (i : Int))).run Tryz.prog w = .ok (.int .i64 (M[i] : Int)) w := by
  subst hM
  have h4 : i < 4 := hi
  have e2 : (#[.int .i64 (p : Int), .int .i64 (q : Int), .int .i64 (o : Int), .int .i64 (l : Int)] : Array Value) = fcells 4 (fun j => .int .i64 (([p, q, o, l].getD j 0 : Nat) : Int)) := rfl
  rw [e2, arr4.run_index _ h4]
  simp [List.getD_eq_getElem?_getD, List.getElem?_eq_getElem hi]
theorem flat_dg (M : List Nat) (i : Nat) (h : i < M.length) : ((M.take (i + 1)).map dg).flatten = ((M.take i).map dg).flatten ++ dg M[i] := by
  rw [List.take_succ_eq_append_getElem h]
  simp only [List.map_append, List.map_cons, List.map_nil, List.flatten_append, List.flatten_cons, List.flatten_nil, List.append_nil]
theorem flat_dg_len (M : List Nat) (h : ∀ m ∈ M, m ≤ 1099511627776) (i : Nat) : ((M.take i).map dg).flatten.length ≤ M.length * 10 := by
  have : ∀ M : List Nat, (∀ m ∈ M, m ≤ 1099511627776) → (M.map dg).flatten.length ≤ M.length * 10 := by
    intro M
    induction M with
    | nil => intro _; simp
    | cons m M ih =>
      intro h
      have h1 := dg_len10 (n := m) (by have := h m (by simp); omega)
      have h2 := ih (fun x hx => h x (List.mem_cons_of_mem _ hx))
      simp only [List.map_cons, List.flatten_cons, List.length_append, List.length_cons]
      omega
  have h1 := this (M.take i) (fun m hm => h m (List.mem_of_mem_take hm))
  have h2 : (M.take i).length ≤ M.length := by simp only [List.length_take]; omega
  omega
set_option maxHeartbeats 3200000 in
theorem bkOwn_any (v : Value) (b : BkM) (w : World) (hv : BkV w v b) (hm : mayK b = true) :
    Calls Tryz.prog 92 #[v] w fun e w' => ∃ x, e = .returned x ∧ Byt w' x (bytesK b) ∧ Below w.heap.size w w' := by
  obtain ⟨s, rfl, hp, ht⟩ := hv
  obtain ⟨hall, h1, h2, h3, h4, h5, h6, h7⟩ := mayK_all hm
  have HALL := hid hall
  clear hall hm
  have hb0 : Below w.heap.size w (w.alloc (.cells (bkc b s) 34)) := (Below.refl _ _).alloc (Nat.le_refl _) _
  have hA := BoxK.new w b s
  have ht0 := ht.below hb0
  obtain ⟨A, c, rfl⟩ := ht.shape
  obtain ⟨L, HL⟩ : ∃ n : Nat, Hid (b.txs.length = n) := ⟨_, hid rfl⟩
  rw [HL.out] at h7
  obtain ⟨C, HC⟩ : ∃ C : Array Value, Hid (bkc b (.slice A b.txs.length c) = C) := ⟨_, hid rfl⟩
  obtain ⟨O, HO⟩ : ∃ O : List UInt8, Hid (bytesK b = O) := ⟨_, hid rfl⟩
  rw [HO.out]
  rw [HC.out] at hA hb0 ht0 ⊢
  rw [HL.out] at hA ht0 HC
  obtain ⟨par, vi, he, bo, txs⟩ := b
  simp only at h1 h2 h3 h4 h5 h6 hp HL HALL ht0
  obtain ⟨p, rfl⟩ := nat_of (i := vi) h1
  obtain ⟨q, rfl⟩ := nat_of (i := he) h3
  obtain ⟨o, rfl⟩ := nat_of (i := bo) h5
  obtain ⟨M, HM⟩ : ∃ M : List Nat, Hid ([p, q, o, L] = M) := ⟨_, hid rfl⟩
  have HML : Hid (M.length = 4) := hid (by rw [← HM.out]; rfl)
  have HMB : Hid (∀ m ∈ M, m ≤ 1099511627776) := hid (by
    rw [← HM.out]
    intro m hm
    simp only [List.mem_cons, List.not_mem_nil, or_false] at hm
    omega)
  have HIX : Hid (∀ i (h : i < M.length) w, (Instr.index 148 (.agg #[.int .i64 (p : Int), .int .i64 (q : Int), .int .i64 (o : Int), .int .i64 (L : Int)]) (.int .i64 (i : Int))).run Tryz.prog w = .ok (.int .i64 (M[i] : Int)) w) := hid (fun i h w => four_index M p q o L HM.out i h w)
  obtain ⟨D, HD⟩ : ∃ D : Array Value, Hid (#[.int .i64 (p : Int), .int .i64 (q : Int), .int .i64 (o : Int), .int .i64 (L : Int)] = D) := ⟨_, hid rfl⟩
  rw [HD.out] at HIX
  have HFL := hid (fun i => flat_dg_len M HMB.out i)
  have HHA := hid (fun w => hash_any (.slice none 0 0) [] par w (Byt.nil w) (by simp) hp)
  have HPL := hid hp
  clear ht
  go_enter Tryz.func92, Tryz.ntmps92
  go_upto_region 1 with (fail)
  generalize (w.alloc (.cells C 34)) = w0 at *
  have hl0 := hA.lt
  have HX : Hid (∀ W : World, Below w0.heap.size w0 W → W.rangeAt w.heap.size 0 (bcells par) ∧ W.cell? ⟨w.heap.size, 32, none⟩ = some (.int .i64 (p : Int)) ∧ W.cell? ⟨w.heap.size, 33, none⟩ = some (.int .i64 (q : Int)) ∧ W.cell? ⟨w.heap.size, 34, none⟩ = some (.int .i64 (o : Int)) ∧ W.cell? ⟨w.heap.size, 35, none⟩ = some (.slice A L c) ∧ Txs W (.slice A L c) txs) := hid (fun W h => by
    have hW := hA.below h hl0
    exact ⟨hW.range, (hW.cells HPL.out).1, (hW.cells HPL.out).2.1, (hW.cells HPL.out).2.2.1, (hW.cells HPL.out).2.2.2, ht0.below h⟩)
  have la := loadH_mid hA.range hp
  obtain ⟨HA, HHH⟩ : ∃ C : Array Value, Hid (hcells par = C) := ⟨_, hid rfl⟩
  rw [HHH.out] at la HHA
  have hs0 := hb0.size
  clear hA ht0 hp hl0
  go_wp2_with fail
  refine (HHA.out w0).mono ?_
  rintro e w1 ⟨x1, rfl, ho1, hb1⟩
  have hx1 := ho1.byt
  rw [List.nil_append] at hx1
  obtain ⟨_, k2, k3, k4, k5, _⟩ := HX.out w1 hb1
  clear la HHA ho1
  go_wp2_with (refine wpList_build_four rfl rfl _ _ _ _ rfl rfl rfl rfl ?_)
  rw [HD.out]
  clear k2 k3 k4 k5
  go_loopw [3, 21] (fun out si wr => ∃ i : Nat, i ≤ 4 ∧ si = .int .i64 i ∧ Byt wr out (par ++ ((M.take i).map dg).flatten) ∧ Below w0.heap.size w0 wr) (fun _ si _ => 4 - (intOf si).toNat)
  case atStart => exact ⟨0, by omega, rfl, by rw [List.take_zero, List.map_nil, List.flatten_nil, List.append_nil]; exact hx1, hb1⟩
  case round =>
    obtain ⟨i, hi, rfl, hown, hB⟩ := hrel
    by_cases hlt : i < 4
    · have hih : i < M.length := by rw [HML.out]; exact hlt
      have i0 := HIX.out i hih
      have hmi := HMB.out _ (List.getElem_mem hih)
      have HNEW := hid (flat_dg M i hih)
      obtain ⟨m, HMI⟩ : ∃ m : Nat, Hid (M[i] = m) := ⟨_, hid rfl⟩
      rw [HMI.out] at i0 hmi HNEW
      have hw1 : IntKind.u64.wrap (m : Int) = (m : Int) := wrap_u64 _ (by omega) (by omega)
      have hI : (i : Int) < 4 := by omega
      have hlen : (par ++ ((M.take i).map dg).flatten).length ≤ 1099511627000 := by rw [List.length_append]; have := HFL.out i; have := HML.out; have := HPL.out; omega
      have HNU := hid (fun v w (h : Byt w v (par ++ ((M.take i).map dg).flatten)) => num_any v _ (m : Int) w h (by omega) (by omega) hlen)
      clear hlen hmi
      go_wp2_with fail
      refine (HNU.out _ wr hown).mono ?_
      rintro e w9 ⟨v9, rfl, ho9, hb9'⟩
      have hb9 := hB.trans (hb9'.mono hB.size)
      have hx9 := ho9.byt
      rw [Int.toNat_natCast, List.append_assoc, ← HNEW.out] at hx9
      clear i0 hw1 ho9
      go_wp2_with fail
      go_roundw
      case rel => exact ⟨i + 1, by omega, by go_num, hx9, hb9⟩
      case measure => simp [intOf]; omega
    · have E4 := hid (show i = 4 by omega)
      have hI : ¬ (i : Int) < 4 := by omega
      rw [E4.out] at hown
      clear hx1 hb1
      obtain ⟨P, HP⟩ : ∃ P : List UInt8, Hid (par ++ ((M.take 4).map dg).flatten = P) := ⟨_, hid rfl⟩
      have HPL2 : Hid (P.length ≤ 72) := hid (by rw [← HP.out, List.length_append]; have := HFL.out 4; have := HML.out; have := HPL.out; omega)
      rw [HP.out] at hown
      have HTK : Hid (∀ i, i ≤ L → ((txs.take i).map bytesT).flatten.length ≤ i * 300) := hid (fun i hi => by
        have := flat_len (txs.take i) (fun t ht => HALL.out t (List.mem_of_mem_take ht))
        rw [List.length_take, HL.out, Nat.min_eq_left hi] at this
        exact this)
      have HPT : Hid (∀ v l t W, Byt W v l → l.length ≤ 1000000 → lightT t → Calls Tryz.prog 61 #[v, txv t] W fun e w' => ∃ x, e = .returned x ∧ Byt w' x (putT l t) ∧ Below W.heap.size W w') := hid (fun v l t W => txPut_ok v l t W)
      have k5 := (HX.out wr hB).2.2.2.2.1
      go_wp2_with fail
      clear k5
      go_loopw [3, 32] (fun out si w2 => ∃ i : Nat, i ≤ L ∧ si = .int .i64 i ∧ Byt w2 out (P ++ ((txs.take i).map bytesT).flatten) ∧ Below w0.heap.size w0 w2) (fun _ si _ => L - (intOf si).toNat)
      case atStart => exact ⟨0, by omega, rfl, by rw [List.take_zero, List.map_nil, List.flatten_nil, List.append_nil]; exact hown, hB⟩
      case round =>
        clear hown hB
        obtain ⟨i, hi, rfl, hown, hB⟩ := hrel
        by_cases hlt : i < L
        · have hih : i < txs.length := by rw [HL.out]; exact hlt
          obtain ⟨ba, oa, rfl, hba, hcla⟩ := (HX.out _ hB).2.2.2.2.2.at_.2.2.2 (by omega)
          have hI : (i : Int) < (L : Int) := by omega
          have l1 : loadTx (.pointer (some ⟨ba, oa + i * 7, none⟩)) wr = .ok (.value (txv txs[i])) wr := loadTx_mid (hcla i hih)
          have hmt := HALL.out _ (List.getElem_mem hih)
          have hbl := bytesT_len hmt
          have hlt6 : lightT txs[i] := by
            obtain ⟨_, _, h3⟩ := mayT_iff hmt
            unfold lightT
            rcases h3 with ⟨_, _, _, hk, hv⟩ | ⟨_, _, _, hk, hv⟩ | ⟨_, _, _, hk, hv⟩
            · simp [hk, hv]
            · exact ⟨by have := keyOk_len hk; omega, by omega⟩
            · exact ⟨by have := keyOk_len hk; omega, by simp [hv]⟩
          have HNEW : Hid (putT (P ++ ((txs.take i).map bytesT).flatten) txs[i] = P ++ ((txs.take (i + 1)).map bytesT).flatten) := hid (by
            unfold putT
            rw [if_pos hmt, flat_snoc txs i hih, List.append_assoc])
          have hfl := HTK.out i hi
          have hlen : (P ++ ((txs.take i).map bytesT).flatten).length ≤ 1000000 := by rw [List.length_append]; have := HPL2.out; omega
          obtain ⟨t, HTT⟩ : ∃ t : TxM, Hid (txs[i] = t) := ⟨_, hid rfl⟩
          rw [HTT.out] at l1 HNEW hlt6
          have HPU := hid (fun v W (h : Byt W v (P ++ ((txs.take i).map bytesT).flatten)) => HPT.out v _ t W h hlen hlt6)
          unfold txv at l1 HPU
          have hbn : Below wr.heap.size wr (wr.alloc (.cells #[.int .i64 t.fr, .int .i64 t.no, .int .i64 t.ki, .int .i64 t.to, .int .i64 t.am, .string (sb t.key), .string (sb t.val)] 36)) := (Below.refl _ _).alloc (Nat.le_refl _) _
          have hrn := heap_alloc_new wr (.cells #[.int .i64 t.fr, .int .i64 t.no, .int .i64 t.ki, .int .i64 t.to, .int .i64 t.am, .string (sb t.key), .string (sb t.val)] 36)
          clear hcla hbl hfl hmt hlen hlt6
          go_upto_region 10 with (fail)
          generalize (wr.alloc (.cells #[.int .i64 t.fr, .int .i64 t.no, .int .i64 t.ki, .int .i64 t.to, .int .i64 t.am, .string (sb t.key), .string (sb t.val)] 36)) = w8 at *
          have l8 := loadTx_eq hrn rfl
          have hB8 := hB.trans (hbn.mono hB.size)
          have hown8 := hown.below hbn
          clear l1 hrn
          go_wp2_with fail
          refine (HPU.out _ w8 hown8).mono ?_
          rintro e w9 ⟨v9, rfl, ho9, hb9'⟩
          have hb9 := hB8.trans (hb9'.mono hB8.size)
          rw [HNEW.out] at ho9
          clear l8
          go_wp2_with fail
          go_roundw
          case rel => exact ⟨i + 1, by omega, by go_num, ho9, hb9⟩
          case measure => simp [intOf]; omega
        · obtain rfl : i = L := by omega
          go_wp2
          go_ret
          rw [List.take_of_length_le (by rw [HL.out]; exact Nat.le_refl _)] at hown
          refine ⟨_, rfl, ?_, hb0.trans (hB.mono hs0)⟩
          have e : P ++ (txs.map bytesT).flatten = O := by
            rw [← HO.out, ← HP.out, ← HM.out]
            unfold bytesK
            simp only [Int.toNat_natCast, HL.out, List.append_assoc, List.take_succ_cons, List.take_zero, List.map_cons, List.map_nil, List.flatten_cons, List.flatten_nil, List.append_nil]
          rw [e] at hown
          exact hown
attribute [local go_sem ↓] exec_load_bk
set_option maxHeartbeats 1600000 in
theorem bkPut_ok : BkPutOk := by
  intro v b w hv hlk
  have HV := hid (fun W (h : Below w.heap.size w W) => hv.below h)
  obtain ⟨s, rfl, hp, ht⟩ := hv
  obtain ⟨C, HC⟩ : ∃ C : Array Value, Hid (bkc b s = C) := ⟨_, hid rfl⟩
  rw [HC.out] at HV ⊢
  have HSZ : Hid (C.size = 36) := hid (by rw [← HC.out]; exact bkc_size _ hp)
  have hr0 := heap_alloc_new w (.cells C 34)
  have hb0 : Below w.heap.size w (w.alloc (.cells C 34)) := (Below.refl _ _).alloc (Nat.le_refl _) _
  obtain ⟨m, HM⟩ : ∃ q : Bool, Hid (mayK b = q) := ⟨_, hid rfl⟩
  have HCK : Hid (∀ W, Below w.heap.size w W → Calls Tryz.prog 67 #[.agg C] W fun e w' => e = .returned (.int .i64 (if m = true then 0 else 1)) ∧ Below W.heap.size W w') := hid (fun W h => by
    have := bkCheck_ok _ b W (HV.out W h) hlk
    rw [HM.out] at this
    exact this)
  have HOW : Hid (mayK b = true → ∀ W, Below w.heap.size w W → Calls Tryz.prog 92 #[.agg C] W fun e w' => ∃ x, e = .returned x ∧ Byt w' x (bytesK b) ∧ Below W.heap.size W w') := hid (fun hm W h => bkOwn_any _ b W (HV.out W h) hm)
  rw [HM.out]
  clear ht
  go_enter Tryz.func57, Tryz.ntmps57
  go_upto_region 1 with (fail)
  generalize (w.alloc (.cells C 34)) = w0 at *
  have hl0 := lt_of_block hr0
  have HLD : Hid (∀ W : World, Below w0.heap.size w0 W → loadK (.pointer (some ⟨w.heap.size, 0, none⟩)) W = .ok (.value (.agg C)) W) := hid (fun W h => loadK_row ((h.block _ hl0).trans hr0) HSZ.out)
  have l0 := HLD.out w0 (Below.refl _ _)
  clear hr0 hl0
  go_wp2_with fail
  refine (HCK.out w0 hb0).mono ?_
  rintro e w1 ⟨rfl, hb1⟩
  have hB1 := hb0.trans (hb1.mono hb0.size)
  have l1 := HLD.out w1 hb1
  clear l0
  cases m with
  | false =>
    clear l1
    go_wp2_with fail
    go_ret2
    exact ⟨_, rfl, Byt.nil _, hB1⟩
  | true =>
    go_wp2_with fail
    refine (HOW.out HM.out w1 hB1).mono ?_
    rintro e w2 ⟨x, rfl, hx, hb2⟩
    clear l1
    go_wp2_with fail
    go_ret2
    exact ⟨x, rfl, hx, hB1.trans (hb2.mono hB1.size)⟩
end Go.Proofs.YtjemfmbmlmogcaaGreat
namespace Go.Proofs.YtjemfmbmlmogcaaGreat
set_option maxRecDepth 20000
open Go.RowKit
theorem setK_alloc (w : World) (T : TypeId) (C0 C : Array Value) : setK (w.alloc (.cells C0 T)) w.heap.size C = w.alloc (.cells C T) := by
  have hm : ∀ (a : Array Obj) (x : Obj) (f : Obj → Obj), (a.push x).modify a.size f = a.push (f x) := by
    intro a x f
    apply Array.ext_getElem?
    intro k
    rw [Array.getElem?_modify]
    by_cases h : a.size = k
    · subst h
      simp
    · rw [if_neg h, Array.getElem?_push, Array.getElem?_push]
      rw [if_neg (fun e => h e.symm), if_neg (fun e => h e.symm)]
  unfold setK World.setRow World.alloc
  simp only [hm]
attribute [local go_sem ↓] exec_load_bk exec_alloc_bk exec_store_bk exec_build_hash
end Go.Proofs.YtjemfmbmlmogcaaGreat
namespace Go.Proofs.YtjemfmbmlmogcaaGreat
set_option maxRecDepth 20000
open Go.RowKit
attribute [local go_sem ↓] exec_load_bk exec_alloc_bk exec_store_bk
theorem told_var {w : World} {x : Value} {b : BkM} (h : BkV w x b) : ∃ X : Array Value, x = .agg X ∧ X.size = 36 ∧ X.all (·.oneCell') = true ∧
    (∀ Z : Array Value, Z.size = 36 → storeK (.pointer (some ⟨w.heap.size, 0, none⟩)) (.agg X) (w.alloc (.cells Z 34)) = .ok .skip (w.alloc (.cells X 34))) ∧
    (∀ W, Below (w.alloc (.cells X 34)).heap.size (w.alloc (.cells X 34)) W → loadK (.pointer (some ⟨w.heap.size, 0, none⟩)) W = .ok (.value (.agg X)) W ∧ BkV W (.agg X) b) := by
  obtain ⟨s, rfl, hp, ht⟩ := h
  refine ⟨_, rfl, bkc_size s hp, bkc_one ht, fun Z hZ => ?_, fun W hW => ?_⟩
  · rw [storeK_eq (heap_alloc_new w _) hZ (bkc_size s hp) (bkc_one ht), setK_alloc]
  · have hrow := (BoxK.new w b s).below hW (by simp)
    exact ⟨loadK_eq hrow hp, s, rfl, hp, ht.below (((Below.refl _ _).alloc (Nat.le_refl _) _).trans (hW.mono (by simp)))⟩
end Go.Proofs.YtjemfmbmlmogcaaGreat
