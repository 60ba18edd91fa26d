/-
  TxLess: which of any two transactions is ahead: the law's walk, from what tx.Less, tx.Put and tx.Read tell.
-/
import Derived.Test.YtefngncieagobaaTxOk
import Derived.Deep.DeepCutAuto
namespace Go.Proofs.Ytefngncieagobaa
open Go.RowKit

def txc (t : TxM) : Array Value := #[.int .i64 t.fr, .int .i64 t.no, .int .i64 t.ki, .int .i64 t.to, .int .i64 t.am, .string (sb t.key), .string (sb t.val)]
theorem txv_agg (t : TxM) : txv t = .agg (txc t) := rfl
/-- Three transactions in memory. -/
structure Three (w0 w : World) (a b c : TxM) : Prop where
  bel : Below w0.heap.size w0 w
  b0 : w.heap[w0.heap.size]? = some (.cells (txc a) 27 (0, 0))
  b1 : w.heap[w0.heap.size + 1]? = some (.cells (txc b) 27 (0, 0))
  b2 : w.heap[w0.heap.size + 1 + 1]? = some (.cells (txc c) 27 (0, 0))
theorem Three.below {w0 w w' : World} {a b c : TxM} (h : Three w0 w a b c) (hb : Below w.heap.size w w') : Three w0 w' a b c := by
  have hlt := lt_of_block h.b2
  exact ⟨h.bel.trans (hb.mono h.bel.size), (hb.block _ (by omega)).trans h.b0, (hb.block _ (by omega)).trans h.b1, (hb.block _ hlt).trans h.b2⟩
theorem Three.new (w : World) (a b c : TxM) : Three w (((w.alloc (.cells (txc a) 27)).alloc (.cells (txc b) 27)).alloc (.cells (txc c) 27)) a b c := by
  refine ⟨(((Below.refl _ _).alloc (Nat.le_refl _) _).alloc (by simp) _).alloc (by simp <;> omega) _, ?_, ?_, ?_⟩
  · rw [Below.heap_alloc _ _ _ (by simp <;> omega), Below.heap_alloc _ _ _ (by simp), heap_alloc_new]
  · rw [Below.heap_alloc _ _ _ (by simp)]
    exact heap_alloc2_new w _ _
  · have := heap_alloc2_new (w.alloc (.cells (txc a) 27)) (.cells (txc b) 27) (.cells (txc c) 27)
    simpa using this
theorem Three.loads {w0 w : World} {a b c : TxM} (h : Three w0 w a b c) : loadTx (.pointer (some ⟨w0.heap.size, 0, none⟩)) w = .ok (.value (txv a)) w ∧ loadTx (.pointer (some ⟨w0.heap.size + 1, 0, none⟩)) w = .ok (.value (txv b)) w ∧ loadTx (.pointer (some ⟨w0.heap.size + 1 + 1, 0, none⟩)) w = .ok (.value (txv c)) w := ⟨loadTx_eq h.b0 rfl, loadTx_eq h.b1 rfl, loadTx_eq h.b2 rfl⟩
theorem lessT_self (a : TxM) : lessT a a = false := by unfold lessT; simp
theorem lessT_flip {a b : TxM} (h : lessT a b = true) : lessT b a = false := by unfold lessT at *; grind
theorem lessT_trans {a b c : TxM} (h : lessT a b = true) (h2 : lessT b c = true) : lessT a c = true := by unfold lessT at *; grind
attribute [local go_sem ↓] exec_load_tx

set_option maxHeartbeats 3200000 in
theorem lawTxLess_any (hLess : TxLessOk) (hPut : TxPutOk) (hRead : TxReadOk) (a b c : TxM) (w : World) :
    Calls Try.prog 4 #[txv a, txv b, txv c] w fun e w' => e = .returned (.bool true) ∧ Below w.heap.size w w' := by
  have HLS := hid hLess
  have HAW := hid (fun w => txAwake_any hPut hRead w)
  clear hLess hPut hRead
  have HSA := hid (lessT_self a)
  obtain ⟨va, HVA⟩ : ∃ v, Hid (txv a = v) := ⟨_, hid rfl⟩
  obtain ⟨vb, HVB⟩ : ∃ v, Hid (txv b = v) := ⟨_, hid rfl⟩
  obtain ⟨vc, HVC⟩ : ∃ v, Hid (txv c = v) := ⟨_, hid rfl⟩
  obtain ⟨q1, HQ1⟩ : ∃ q : Bool, Hid (lessT a b = q) := ⟨_, hid rfl⟩
  obtain ⟨q2, HQ2⟩ : ∃ q : Bool, Hid (lessT b c = q) := ⟨_, hid rfl⟩
  have hcases : (q1 = true ∧ a.fr < b.fr) ∨ (q1 = true ∧ ¬ a.fr < b.fr ∧ a.fr = b.fr ∧ a.no < b.no) ∨ (q1 = false ∧ ¬ a.fr < b.fr ∧ a.fr = b.fr ∧ ¬ a.no < b.no) ∨ (q1 = false ∧ ¬ a.fr < b.fr ∧ ¬ a.fr = b.fr) := by
    rw [← HQ1.out]
    unfold lessT
    grind
  have START : True := trivial
  obtain ⟨hq, h1⟩ | ⟨hq, h1, h2, h3⟩ | ⟨hq, h1, h2, h3⟩ | ⟨hq, h1, h2⟩ := hcases
  · subst hq
    rw [txv_agg a, txv_agg b, txv_agg c]
    unfold txc
    go_enter Try.func4, Try.ntmps4
    go_upto_region 2 with (fail)
    have hst : Three w (((w.alloc (.cells #[.int .i64 a.fr, .int .i64 a.no, .int .i64 a.ki, .int .i64 a.to, .int .i64 a.am, .string (sb a.key), .string (sb a.val)] 27)).alloc (.cells #[.int .i64 b.fr, .int .i64 b.no, .int .i64 b.ki, .int .i64 b.to, .int .i64 b.am, .string (sb b.key), .string (sb b.val)] 27)).alloc (.cells #[.int .i64 c.fr, .int .i64 c.no, .int .i64 c.ki, .int .i64 c.to, .int .i64 c.am, .string (sb c.key), .string (sb c.val)] 27)) a b c := Three.new w a b c
    generalize (((w.alloc (.cells #[.int .i64 a.fr, .int .i64 a.no, .int .i64 a.ki, .int .i64 a.to, .int .i64 a.am, .string (sb a.key), .string (sb a.val)] 27)).alloc (.cells #[.int .i64 b.fr, .int .i64 b.no, .int .i64 b.ki, .int .i64 b.to, .int .i64 b.am, .string (sb b.key), .string (sb b.val)] 27)).alloc (.cells #[.int .i64 c.fr, .int .i64 c.no, .int .i64 c.ki, .int .i64 c.to, .int .i64 c.am, .string (sb c.key), .string (sb c.val)] 27)) = w0 at hst ⊢
    obtain ⟨la, lb, lc⟩ := hst.loads
    rw [HVA.out] at la
    rw [HVB.out] at lb
    rw [HVC.out] at lc
    have HST := hid hst
    clear hst
    go_wp2_with fail
    have C := fun W => HLS.out a b W
    rw [HVA.out, HVB.out] at C
    rw [HQ1.out] at C
    refine (C _).mono ?_
    clear C
    rintro e w1 ⟨rfl, hb⟩
    have hst := HST.out.below hb
    clear hb HST la lb lc
    obtain ⟨la, lb, lc⟩ := hst.loads
    rw [HVA.out] at la
    rw [HVB.out] at lb
    rw [HVC.out] at lc
    have HST := hid hst
    clear hst
    go_wp2_with fail
    have C := fun W => HLS.out a a W
    rw [HVA.out] at C
    rw [HSA.out] at C
    refine (C _).mono ?_
    clear C
    rintro e w2 ⟨rfl, hb⟩
    have hst := HST.out.below hb
    clear hb HST la lb lc
    obtain ⟨la, lb, lc⟩ := hst.loads
    rw [HVA.out] at la
    rw [HVB.out] at lb
    rw [HVC.out] at lc
    have HST := hid hst
    clear hst
    go_wp2_with fail
    have C := fun W => HLS.out a b W
    rw [HVA.out, HVB.out] at C
    rw [HQ1.out] at C
    refine (C _).mono ?_
    clear C
    rintro e w3 ⟨rfl, hb⟩
    have hst := HST.out.below hb
    clear hb HST la lb lc
    obtain ⟨la, lb, lc⟩ := hst.loads
    rw [HVA.out] at la
    rw [HVB.out] at lb
    rw [HVC.out] at lc
    have HST := hid hst
    clear hst
    go_wp2_with fail
    have HBA := hid (lessT_flip HQ1.out)
    have C := fun W => HLS.out b a W
    rw [HVB.out, HVA.out] at C
    rw [HBA.out] at C
    refine (C _).mono ?_
    clear C
    rintro e w4 ⟨rfl, hb⟩
    have hst := HST.out.below hb
    clear hb HST la lb lc
    obtain ⟨la, lb, lc⟩ := hst.loads
    rw [HVA.out] at la
    rw [HVB.out] at lb
    rw [HVC.out] at lc
    have HST := hid hst
    clear hst
    go_wp2_with fail
    have C := fun W => HLS.out a b W
    rw [HVA.out, HVB.out] at C
    rw [HQ1.out] at C
    refine (C _).mono ?_
    clear C
    rintro e w5 ⟨rfl, hb⟩
    have hst := HST.out.below hb
    clear hb HST la lb lc
    obtain ⟨la, lb, lc⟩ := hst.loads
    rw [HVA.out] at la
    rw [HVB.out] at lb
    rw [HVC.out] at lc
    have HST := hid hst
    clear hst
    go_wp2_with fail
    cases q2 with
    | false =>
      have C := fun W => HLS.out b c W
      rw [HVB.out, HVC.out] at C
      rw [HQ2.out] at C
      refine (C _).mono ?_
      clear C
      rintro e w6 ⟨rfl, hb⟩
      have hst := HST.out.below hb
      clear hb HST la lb lc
      obtain ⟨la, lb, lc⟩ := hst.loads
      rw [HVA.out] at la
      rw [HVB.out] at lb
      rw [HVC.out] at lc
      have HST := hid hst
      clear hst
      go_wp2_with fail
      refine (HAW.out _).mono ?_
      rintro e w7 ⟨rfl, hb⟩
      have hB := HST.out.bel.trans (hb.mono HST.out.bel.size)
      clear hb HST la lb lc
      go_wp2_with fail
      go_ret
      exact ⟨rfl, hB⟩
    | true =>
      have C := fun W => HLS.out b c W
      rw [HVB.out, HVC.out] at C
      rw [HQ2.out] at C
      refine (C _).mono ?_
      clear C
      rintro e w6 ⟨rfl, hb⟩
      have hst := HST.out.below hb
      clear hb HST la lb lc
      obtain ⟨la, lb, lc⟩ := hst.loads
      rw [HVA.out] at la
      rw [HVB.out] at lb
      rw [HVC.out] at lc
      have HST := hid hst
      clear hst
      go_wp2_with fail
      have HAC := hid (lessT_trans HQ1.out HQ2.out)
      have C := fun W => HLS.out a c W
      rw [HVA.out, HVC.out] at C
      rw [HAC.out] at C
      refine (C _).mono ?_
      clear C
      rintro e w7 ⟨rfl, hb⟩
      have hst := HST.out.below hb
      clear hb HST la lb lc
      obtain ⟨la, lb, lc⟩ := hst.loads
      rw [HVA.out] at la
      rw [HVB.out] at lb
      rw [HVC.out] at lc
      have HST := hid hst
      clear hst
      go_wp2_with fail
      refine (HAW.out _).mono ?_
      rintro e w8 ⟨rfl, hb⟩
      have hB := HST.out.bel.trans (hb.mono HST.out.bel.size)
      clear hb HST la lb lc
      go_wp2_with fail
      go_ret
      exact ⟨rfl, hB⟩
  · subst hq
    have hbe : (a.fr == b.fr) = true := by rw [beq_iff_eq]; exact h2
    clear h2
    rw [txv_agg a, txv_agg b, txv_agg c]
    unfold txc
    go_enter Try.func4, Try.ntmps4
    go_upto_region 2 with (fail)
    have hst : Three w (((w.alloc (.cells #[.int .i64 a.fr, .int .i64 a.no, .int .i64 a.ki, .int .i64 a.to, .int .i64 a.am, .string (sb a.key), .string (sb a.val)] 27)).alloc (.cells #[.int .i64 b.fr, .int .i64 b.no, .int .i64 b.ki, .int .i64 b.to, .int .i64 b.am, .string (sb b.key), .string (sb b.val)] 27)).alloc (.cells #[.int .i64 c.fr, .int .i64 c.no, .int .i64 c.ki, .int .i64 c.to, .int .i64 c.am, .string (sb c.key), .string (sb c.val)] 27)) a b c := Three.new w a b c
    generalize (((w.alloc (.cells #[.int .i64 a.fr, .int .i64 a.no, .int .i64 a.ki, .int .i64 a.to, .int .i64 a.am, .string (sb a.key), .string (sb a.val)] 27)).alloc (.cells #[.int .i64 b.fr, .int .i64 b.no, .int .i64 b.ki, .int .i64 b.to, .int .i64 b.am, .string (sb b.key), .string (sb b.val)] 27)).alloc (.cells #[.int .i64 c.fr, .int .i64 c.no, .int .i64 c.ki, .int .i64 c.to, .int .i64 c.am, .string (sb c.key), .string (sb c.val)] 27)) = w0 at hst ⊢
    obtain ⟨la, lb, lc⟩ := hst.loads
    rw [HVA.out] at la
    rw [HVB.out] at lb
    rw [HVC.out] at lc
    have HST := hid hst
    clear hst
    go_wp2_with fail
    have C := fun W => HLS.out a b W
    rw [HVA.out, HVB.out] at C
    rw [HQ1.out] at C
    refine (C _).mono ?_
    clear C
    rintro e w1 ⟨rfl, hb⟩
    have hst := HST.out.below hb
    clear hb HST la lb lc
    obtain ⟨la, lb, lc⟩ := hst.loads
    rw [HVA.out] at la
    rw [HVB.out] at lb
    rw [HVC.out] at lc
    have HST := hid hst
    clear hst
    go_wp2_with fail
    have C := fun W => HLS.out a a W
    rw [HVA.out] at C
    rw [HSA.out] at C
    refine (C _).mono ?_
    clear C
    rintro e w2 ⟨rfl, hb⟩
    have hst := HST.out.below hb
    clear hb HST la lb lc
    obtain ⟨la, lb, lc⟩ := hst.loads
    rw [HVA.out] at la
    rw [HVB.out] at lb
    rw [HVC.out] at lc
    have HST := hid hst
    clear hst
    go_wp2_with fail
    have C := fun W => HLS.out a b W
    rw [HVA.out, HVB.out] at C
    rw [HQ1.out] at C
    refine (C _).mono ?_
    clear C
    rintro e w3 ⟨rfl, hb⟩
    have hst := HST.out.below hb
    clear hb HST la lb lc
    obtain ⟨la, lb, lc⟩ := hst.loads
    rw [HVA.out] at la
    rw [HVB.out] at lb
    rw [HVC.out] at lc
    have HST := hid hst
    clear hst
    go_wp2_with fail
    have HBA := hid (lessT_flip HQ1.out)
    have C := fun W => HLS.out b a W
    rw [HVB.out, HVA.out] at C
    rw [HBA.out] at C
    refine (C _).mono ?_
    clear C
    rintro e w4 ⟨rfl, hb⟩
    have hst := HST.out.below hb
    clear hb HST la lb lc
    obtain ⟨la, lb, lc⟩ := hst.loads
    rw [HVA.out] at la
    rw [HVB.out] at lb
    rw [HVC.out] at lc
    have HST := hid hst
    clear hst
    go_wp2_with fail
    have C := fun W => HLS.out a b W
    rw [HVA.out, HVB.out] at C
    rw [HQ1.out] at C
    refine (C _).mono ?_
    clear C
    rintro e w5 ⟨rfl, hb⟩
    have hst := HST.out.below hb
    clear hb HST la lb lc
    obtain ⟨la, lb, lc⟩ := hst.loads
    rw [HVA.out] at la
    rw [HVB.out] at lb
    rw [HVC.out] at lc
    have HST := hid hst
    clear hst
    go_wp2_with fail
    cases q2 with
    | false =>
      have C := fun W => HLS.out b c W
      rw [HVB.out, HVC.out] at C
      rw [HQ2.out] at C
      refine (C _).mono ?_
      clear C
      rintro e w6 ⟨rfl, hb⟩
      have hst := HST.out.below hb
      clear hb HST la lb lc
      obtain ⟨la, lb, lc⟩ := hst.loads
      rw [HVA.out] at la
      rw [HVB.out] at lb
      rw [HVC.out] at lc
      have HST := hid hst
      clear hst
      go_wp2_with fail
      refine (HAW.out _).mono ?_
      rintro e w7 ⟨rfl, hb⟩
      have hB := HST.out.bel.trans (hb.mono HST.out.bel.size)
      clear hb HST la lb lc
      go_wp2_with fail
      go_ret
      exact ⟨rfl, hB⟩
    | true =>
      have C := fun W => HLS.out b c W
      rw [HVB.out, HVC.out] at C
      rw [HQ2.out] at C
      refine (C _).mono ?_
      clear C
      rintro e w6 ⟨rfl, hb⟩
      have hst := HST.out.below hb
      clear hb HST la lb lc
      obtain ⟨la, lb, lc⟩ := hst.loads
      rw [HVA.out] at la
      rw [HVB.out] at lb
      rw [HVC.out] at lc
      have HST := hid hst
      clear hst
      go_wp2_with fail
      have HAC := hid (lessT_trans HQ1.out HQ2.out)
      have C := fun W => HLS.out a c W
      rw [HVA.out, HVC.out] at C
      rw [HAC.out] at C
      refine (C _).mono ?_
      clear C
      rintro e w7 ⟨rfl, hb⟩
      have hst := HST.out.below hb
      clear hb HST la lb lc
      obtain ⟨la, lb, lc⟩ := hst.loads
      rw [HVA.out] at la
      rw [HVB.out] at lb
      rw [HVC.out] at lc
      have HST := hid hst
      clear hst
      go_wp2_with fail
      refine (HAW.out _).mono ?_
      rintro e w8 ⟨rfl, hb⟩
      have hB := HST.out.bel.trans (hb.mono HST.out.bel.size)
      clear hb HST la lb lc
      go_wp2_with fail
      go_ret
      exact ⟨rfl, hB⟩
  · subst hq
    have hbe : (a.fr == b.fr) = true := by rw [beq_iff_eq]; exact h2
    clear h2
    rw [txv_agg a, txv_agg b, txv_agg c]
    unfold txc
    go_enter Try.func4, Try.ntmps4
    go_upto_region 2 with (fail)
    have hst : Three w (((w.alloc (.cells #[.int .i64 a.fr, .int .i64 a.no, .int .i64 a.ki, .int .i64 a.to, .int .i64 a.am, .string (sb a.key), .string (sb a.val)] 27)).alloc (.cells #[.int .i64 b.fr, .int .i64 b.no, .int .i64 b.ki, .int .i64 b.to, .int .i64 b.am, .string (sb b.key), .string (sb b.val)] 27)).alloc (.cells #[.int .i64 c.fr, .int .i64 c.no, .int .i64 c.ki, .int .i64 c.to, .int .i64 c.am, .string (sb c.key), .string (sb c.val)] 27)) a b c := Three.new w a b c
    generalize (((w.alloc (.cells #[.int .i64 a.fr, .int .i64 a.no, .int .i64 a.ki, .int .i64 a.to, .int .i64 a.am, .string (sb a.key), .string (sb a.val)] 27)).alloc (.cells #[.int .i64 b.fr, .int .i64 b.no, .int .i64 b.ki, .int .i64 b.to, .int .i64 b.am, .string (sb b.key), .string (sb b.val)] 27)).alloc (.cells #[.int .i64 c.fr, .int .i64 c.no, .int .i64 c.ki, .int .i64 c.to, .int .i64 c.am, .string (sb c.key), .string (sb c.val)] 27)) = w0 at hst ⊢
    obtain ⟨la, lb, lc⟩ := hst.loads
    rw [HVA.out] at la
    rw [HVB.out] at lb
    rw [HVC.out] at lc
    have HST := hid hst
    clear hst
    go_wp2_with fail
    have C := fun W => HLS.out a b W
    rw [HVA.out, HVB.out] at C
    rw [HQ1.out] at C
    refine (C _).mono ?_
    clear C
    rintro e w1 ⟨rfl, hb⟩
    have hst := HST.out.below hb
    clear hb HST la lb lc
    obtain ⟨la, lb, lc⟩ := hst.loads
    rw [HVA.out] at la
    rw [HVB.out] at lb
    rw [HVC.out] at lc
    have HST := hid hst
    clear hst
    go_wp2_with fail
    have C := fun W => HLS.out a a W
    rw [HVA.out] at C
    rw [HSA.out] at C
    refine (C _).mono ?_
    clear C
    rintro e w2 ⟨rfl, hb⟩
    have hst := HST.out.below hb
    clear hb HST la lb lc
    obtain ⟨la, lb, lc⟩ := hst.loads
    rw [HVA.out] at la
    rw [HVB.out] at lb
    rw [HVC.out] at lc
    have HST := hid hst
    clear hst
    go_wp2_with fail
    have C := fun W => HLS.out a b W
    rw [HVA.out, HVB.out] at C
    rw [HQ1.out] at C
    refine (C _).mono ?_
    clear C
    rintro e w3 ⟨rfl, hb⟩
    have hst := HST.out.below hb
    clear hb HST la lb lc
    obtain ⟨la, lb, lc⟩ := hst.loads
    rw [HVA.out] at la
    rw [HVB.out] at lb
    rw [HVC.out] at lc
    have HST := hid hst
    clear hst
    go_wp2_with fail
    have C := fun W => HLS.out a b W
    rw [HVA.out, HVB.out] at C
    rw [HQ1.out] at C
    refine (C _).mono ?_
    clear C
    rintro e w4 ⟨rfl, hb⟩
    have hst := HST.out.below hb
    clear hb HST la lb lc
    obtain ⟨la, lb, lc⟩ := hst.loads
    rw [HVA.out] at la
    rw [HVB.out] at lb
    rw [HVC.out] at lc
    have HST := hid hst
    clear hst
    go_wp2_with fail
    refine (HAW.out _).mono ?_
    rintro e w5 ⟨rfl, hb⟩
    have hB := HST.out.bel.trans (hb.mono HST.out.bel.size)
    clear hb HST la lb lc
    go_wp2_with fail
    go_ret
    exact ⟨rfl, hB⟩
  · subst hq
    have hbe : (a.fr == b.fr) = false := by rw [beq_eq_false_iff_ne]; exact h2
    rw [txv_agg a, txv_agg b, txv_agg c]
    unfold txc
    go_enter Try.func4, Try.ntmps4
    go_upto_region 2 with (fail)
    have hst : Three w (((w.alloc (.cells #[.int .i64 a.fr, .int .i64 a.no, .int .i64 a.ki, .int .i64 a.to, .int .i64 a.am, .string (sb a.key), .string (sb a.val)] 27)).alloc (.cells #[.int .i64 b.fr, .int .i64 b.no, .int .i64 b.ki, .int .i64 b.to, .int .i64 b.am, .string (sb b.key), .string (sb b.val)] 27)).alloc (.cells #[.int .i64 c.fr, .int .i64 c.no, .int .i64 c.ki, .int .i64 c.to, .int .i64 c.am, .string (sb c.key), .string (sb c.val)] 27)) a b c := Three.new w a b c
    generalize (((w.alloc (.cells #[.int .i64 a.fr, .int .i64 a.no, .int .i64 a.ki, .int .i64 a.to, .int .i64 a.am, .string (sb a.key), .string (sb a.val)] 27)).alloc (.cells #[.int .i64 b.fr, .int .i64 b.no, .int .i64 b.ki, .int .i64 b.to, .int .i64 b.am, .string (sb b.key), .string (sb b.val)] 27)).alloc (.cells #[.int .i64 c.fr, .int .i64 c.no, .int .i64 c.ki, .int .i64 c.to, .int .i64 c.am, .string (sb c.key), .string (sb c.val)] 27)) = w0 at hst ⊢
    obtain ⟨la, lb, lc⟩ := hst.loads
    rw [HVA.out] at la
    rw [HVB.out] at lb
    rw [HVC.out] at lc
    have HST := hid hst
    clear hst
    go_wp2_with fail
    have C := fun W => HLS.out a b W
    rw [HVA.out, HVB.out] at C
    rw [HQ1.out] at C
    refine (C _).mono ?_
    clear C
    rintro e w1 ⟨rfl, hb⟩
    have hst := HST.out.below hb
    clear hb HST la lb lc
    obtain ⟨la, lb, lc⟩ := hst.loads
    rw [HVA.out] at la
    rw [HVB.out] at lb
    rw [HVC.out] at lc
    have HST := hid hst
    clear hst
    go_wp2_with fail
    have C := fun W => HLS.out a a W
    rw [HVA.out] at C
    rw [HSA.out] at C
    refine (C _).mono ?_
    clear C
    rintro e w2 ⟨rfl, hb⟩
    have hst := HST.out.below hb
    clear hb HST la lb lc
    obtain ⟨la, lb, lc⟩ := hst.loads
    rw [HVA.out] at la
    rw [HVB.out] at lb
    rw [HVC.out] at lc
    have HST := hid hst
    clear hst
    go_wp2_with fail
    have C := fun W => HLS.out a b W
    rw [HVA.out, HVB.out] at C
    rw [HQ1.out] at C
    refine (C _).mono ?_
    clear C
    rintro e w3 ⟨rfl, hb⟩
    have hst := HST.out.below hb
    clear hb HST la lb lc
    obtain ⟨la, lb, lc⟩ := hst.loads
    rw [HVA.out] at la
    rw [HVB.out] at lb
    rw [HVC.out] at lc
    have HST := hid hst
    clear hst
    go_wp2_with fail
    have C := fun W => HLS.out a b W
    rw [HVA.out, HVB.out] at C
    rw [HQ1.out] at C
    refine (C _).mono ?_
    clear C
    rintro e w4 ⟨rfl, hb⟩
    have hst := HST.out.below hb
    clear hb HST la lb lc
    obtain ⟨la, lb, lc⟩ := hst.loads
    rw [HVA.out] at la
    rw [HVB.out] at lb
    rw [HVC.out] at lc
    have HST := hid hst
    clear hst
    go_wp2_with fail
    refine (HAW.out _).mono ?_
    rintro e w5 ⟨rfl, hb⟩
    have hB := HST.out.bel.trans (hb.mono HST.out.bel.size)
    clear hb HST la lb lc
    go_wp2_with fail
    go_ret
    exact ⟨rfl, hB⟩
end Go.Proofs.Ytefngncieagobaa
