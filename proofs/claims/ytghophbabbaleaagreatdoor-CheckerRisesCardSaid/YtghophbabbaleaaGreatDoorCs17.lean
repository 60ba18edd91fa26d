/-
  BkCodeMay BkCodePut BkArg: what each of them says stands at its head.
-/
import Derived.Test.YtghophbabbaleaaGreatDoorCs16
namespace Go.Proofs.YtghophbabbaleaaGreatDoor
set_option maxRecDepth 20000
open Go.RowKit
attribute [local go_sem ↓] exec_load_tx exec_load_bk
theorem bkWithin_any (n m : Int) (w : World) : Calls Tryz.prog 133 #[.int .i64 n, .int .i64 m] w fun e w' => e = .returned (.bool (decide (1 ≤ n) && decide (n ≤ m))) ∧ w = w' := by
  go_enter Tryz.func133, Tryz.ntmps133
  go_wp2_with fail
  all_goals
    go_ret
    refine ⟨congrArg (fun b => Ending.returned (Value.bool b)) ?_, rfl⟩
  all_goals grind
theorem bkWrong_any (t : TxM) (w : World) (hk : t.key.length ≤ 1000000) (hv : t.val.length ≤ 1000000) :
    Calls Tryz.prog 135 #[txv t] w fun e w' => e = .returned (.bool (!mayT t)) ∧ Below w.heap.size w w' := by
  have HCK := hid (fun w => txCheck_any t w hk hv)
  obtain ⟨m, HM⟩ : ∃ m : Bool, Hid (mayT t = m) := ⟨_, hid rfl⟩
  rw [HM.out] at HCK ⊢
  have hb0 : Below w.heap.size w (w.alloc (.cells (tcl t).toArray 102)) := (Below.refl _ _).alloc (Nat.le_refl _) _
  have l0 := loadTx_mid (w := w.alloc (.cells (tcl t).toArray 102)) (g := w.heap.size) (o := 0) (t := t) (fun j u hu => by
    rw [Nat.zero_add, cell_blk (heap_alloc_new w _) j]
    simpa using hu)
  obtain ⟨X, HX⟩ : ∃ C : Array Value, Hid ((tcl t).toArray = C) := ⟨_, hid rfl⟩
  rw [txv_tcl, HX.out] at l0 HCK ⊢
  rw [HX.out] at hb0
  clear hk hv
  go_enter Tryz.func135, Tryz.ntmps135
  go_wp2_with fail
  refine (HCK.out _).mono ?_
  rintro e w1 ⟨rfl, hb1⟩
  cases m
  all_goals
    go_wp2_with fail
    go_ret
    exact ⟨rfl, hb0.trans (hb1.mono hb0.size)⟩
set_option maxHeartbeats 1600000 in
theorem indexWrong_any (v : Value) (L : List TxM) (w0 : World) (hv : Txs w0 v L) (hlk : ∀ t ∈ L, t.key.length ≤ 1000000 ∧ t.val.length ≤ 1000000) :
    Calls Tryz.prog 158 #[v, .func (.func 135) #[] #[]] w0 fun e w' => ∃ k : Int, e = .returned (.int .i64 k) ∧ decide (0 ≤ k) = !L.all mayT ∧ Below w0.heap.size w0 w' := by
  obtain ⟨A, c, rfl⟩ := hv.shape
  obtain ⟨n, HN⟩ : ∃ n : Nat, Hid (L.length = n) := ⟨_, hid rfl⟩
  have hlen := hv.len
  unfold maxLen at hlen
  rw [HN.out] at hv hlen ⊢
  have HT := hid hv
  have HLK := hid hlk
  clear hv hlk
  go_enter Tryz.func158, Tryz.ntmps158
  go_wp2_with fail
  go_loopw [8] (fun si wr => ∃ i : Nat, i ≤ n ∧ si = .int .i64 i ∧ Hid (∀ j (h : j < L.length), j < i → mayT L[j] = true) ∧ Below w0.heap.size w0 wr) (fun si _ => n - (intOf si).toNat)
  case atStart => exact ⟨0, Nat.zero_le _, rfl, hid (fun j _ h => absurd h (by omega)), Below.refl _ _⟩
  case round =>
    obtain ⟨i, hi, rfl, HB, hbr⟩ := hrel
    by_cases hlt : i < n
    · have hil : i < L.length := by rw [HN.out]; exact hlt
      obtain ⟨ba, oa, rfl, hba, hcla⟩ := (HT.out.below hbr).at_.2.2.2 (by omega)
      have hI : (i : Int) < (n : Int) := by omega
      have l1 : loadTx (.pointer (some ⟨ba, oa + i * 7, none⟩)) wr = .ok (.value (txv L[i])) wr := loadTx_mid (hcla i hil)
      have HW : Hid (∀ W, Calls Tryz.prog 135 #[txv L[i]] W fun e w' => e = .returned (.bool (!mayT L[i])) ∧ Below W.heap.size W w') := hid (fun W => bkWrong_any _ W (HLK.out _ (List.getElem_mem hil)).1 (HLK.out _ (List.getElem_mem hil)).2)
      obtain ⟨X, HX⟩ : ∃ C : Array Value, Hid ((tcl L[i]).toArray = C) := ⟨_, hid rfl⟩
      obtain ⟨m, HM⟩ : ∃ q : Bool, Hid (mayT L[i] = q) := ⟨_, hid rfl⟩
      rw [txv_tcl, HX.out] at l1
      rw [txv_tcl, HX.out, HM.out] at HW
      clear hcla
      go_wp2_with fail
      refine (HW.out wr).mono ?_
      rintro e w2 ⟨rfl, hb2⟩
      have hbr2 := hbr.trans (hb2.mono hbr.size)
      clear l1
      cases m with
      | false =>
        go_wp2_with fail
        go_ret
        refine ⟨_, rfl, ?_, hbr2⟩
        have : L.all mayT = false := by
          rw [List.all_eq_false]
          exact ⟨_, List.getElem_mem hil, by simp [HM.out]⟩
        rw [this]
        exact decide_eq_true (by omega)
      | true =>
        go_wp2_with fail
        go_roundw
        case rel =>
          refine ⟨i + 1, by omega, by go_num, hid (fun j h hj => ?_), hbr2⟩
          by_cases hji : j < i
          · exact HB.out j h hji
          · obtain rfl : j = i := by omega
            exact HM.out
        case measure => simp [intOf]; omega
    · obtain rfl : i = n := by omega
      go_wp2_with fail
      go_ret
      refine ⟨_, rfl, ?_, hbr⟩
      have : L.all mayT = true := by
        rw [List.all_eq_true]
        intro t ht
        obtain ⟨j, hj, rfl⟩ := List.getElem_of_mem ht
        exact HB.out j hj (by have := HN.out; omega)
      rw [this]
      rfl
theorem containsWrong_any (v : Value) (L : List TxM) (w0 : World) (hv : Txs w0 v L) (hlk : ∀ t ∈ L, t.key.length ≤ 1000000 ∧ t.val.length ≤ 1000000) :
    Calls Tryz.prog 134 #[v, .func (.func 135) #[] #[]] w0 fun e w' => e = .returned (.bool (!L.all mayT)) ∧ Below w0.heap.size w0 w' := by
  have HI := hid (indexWrong_any v L w0 hv hlk)
  obtain ⟨A, c, rfl⟩ := hv.shape
  obtain ⟨m, HM⟩ : ∃ q : Bool, Hid ((!L.all mayT) = q) := ⟨_, hid rfl⟩
  rw [HM.out] at HI ⊢
  clear hv hlk
  go_enter Tryz.func134, Tryz.ntmps134
  go_wp2_with fail
  refine HI.out.mono ?_
  rintro e w1 ⟨k, rfl, hk, hb1⟩
  clear HM HI
  subst hk
  go_wp2_with fail
  all_goals
    go_ret
    exact ⟨rfl, hb1⟩
set_option maxHeartbeats 1600000 in
theorem bkIsLater_ok (v : Value) (b : BkM) (w : World) (hv : BkV w v b) (hlk : lightK b) :
    Calls Tryz.prog 93 #[v] w fun e w' => e = .returned (.bool (b.txs.all mayT && numsK b)) ∧ Below w.heap.size w w' := by
  obtain ⟨s, rfl, hp, ht⟩ := hv
  have hb0 : Below w.heap.size w (w.alloc (.cells (bkc b s) 47)) := (Below.refl _ _).alloc (Nat.le_refl _) _
  have hA := BoxK.new w b s
  have ht0 := ht.below hb0
  obtain ⟨A, c, rfl⟩ := ht.shape
  obtain ⟨L, HL⟩ : ∃ n : Nat, Hid (b.txs.length = n) := ⟨_, hid rfl⟩
  obtain ⟨C, HC⟩ : ∃ C : Array Value, Hid (bkc b (.slice A b.txs.length c) = C) := ⟨_, hid rfl⟩
  rw [HC.out]
  rw [HC.out] at hA hb0 ht0
  rw [HL.out] at hA ht0
  obtain ⟨ans, HAN⟩ : ∃ q : Bool, Hid ((b.txs.all mayT && numsK b) = q) := ⟨_, hid rfl⟩
  rw [HAN.out]
  clear ht
  go_enter Tryz.func93, Tryz.ntmps93
  go_upto_region 1 with (fail)
  generalize (w.alloc (.cells C 47)) = w0 at *
  obtain ⟨k1, k2, k3, k4⟩ := hA.cells hp
  clear hA
  obtain ⟨q1, HQ1⟩ : ∃ q : Bool, Hid ((decide (1 ≤ b.vi) && decide (b.vi ≤ 1099511627776)) = q) := ⟨_, hid rfl⟩
  obtain ⟨q2, HQ2⟩ : ∃ q : Bool, Hid ((decide (1 ≤ b.he) && decide (b.he ≤ 1099511627776)) = q) := ⟨_, hid rfl⟩
  obtain ⟨q3, HQ3⟩ : ∃ q : Bool, Hid ((decide (1 ≤ b.bo) && decide (b.bo ≤ 21)) = q) := ⟨_, hid rfl⟩
  obtain ⟨q4, HQ4⟩ : ∃ q : Bool, Hid (decide (L ≤ 8) = q) := ⟨_, hid rfl⟩
  obtain ⟨q5, HQ5⟩ : ∃ q : Bool, Hid (b.txs.all mayT = q) := ⟨_, hid rfl⟩
  have HN : Hid (ans = (q1 && q2 && q3 && (q4 && q5))) := hid (by
    rw [← HAN.out, ← HQ1.out, ← HQ2.out, ← HQ3.out, ← HQ4.out, ← HQ5.out, ← HL.out]
    unfold numsK
    ac_rfl)
  have HW1 := hid (bkWithin_any b.vi 1099511627776 w0)
  have HW2 := hid (bkWithin_any b.he 1099511627776 w0)
  have HW3 := hid (bkWithin_any b.bo 21 w0)
  have HCF := hid (containsWrong_any _ _ w0 ht0 hlk)
  rw [HQ1.out] at HW1
  rw [HQ2.out] at HW2
  rw [HQ3.out] at HW3
  rw [HQ5.out] at HCF
  clear ht0 hlk
  go_wp2_with fail
  refine HW1.out.mono ?_
  rintro e w1 ⟨rfl, rfl⟩
  clear k1
  cases q1 with
  | false =>
    obtain rfl : ans = false := HN.out
    go_wp2_with fail
    go_ret
    exact ⟨rfl, hb0⟩
  | true =>
    go_wp2_with fail
    refine HW2.out.mono ?_
    rintro e w1 ⟨rfl, rfl⟩
    clear k2
    cases q2 with
    | false =>
      obtain rfl : ans = false := HN.out
      go_wp2_with fail
      go_ret
      exact ⟨rfl, hb0⟩
    | true =>
      go_wp2_with fail
      refine HW3.out.mono ?_
      rintro e w1 ⟨rfl, rfl⟩
      clear k3
      cases q3 with
      | false =>
        obtain rfl : ans = false := HN.out
        go_wp2_with fail
        go_ret
        exact ⟨rfl, hb0⟩
      | true =>
        cases q4 with
        | false =>
          obtain rfl : ans = false := HN.out
          have hi : ¬ (L : Int) ≤ 8 := by have := of_decide_eq_false HQ4.out; omega
          go_wp2_with fail
          go_ret
          exact ⟨rfl, hb0⟩
        | true =>
          have hi : (L : Int) ≤ 8 := by have := of_decide_eq_true HQ4.out; omega
          go_wp2_with fail
          refine HCF.out.mono ?_
          rintro e w1 ⟨rfl, hb1⟩
          have e : ans = q5 := by rw [HN.out]; simp
          subst e
          cases ans
          all_goals
            go_wp2_with fail
            go_ret
            exact ⟨rfl, hb0.trans (hb1.mono hb0.size)⟩
set_option maxHeartbeats 1600000 in
theorem bkCheck_ok : BkCheckOk := by
  intro v b w hv hlk
  have HV := hid (fun W (h : Below w.heap.size w W) => hv.below h)
  obtain ⟨s, rfl, hp, ht⟩ := hv
  obtain ⟨C, HC⟩ : ∃ C : Array Value, Hid (bkc b s = C) := ⟨_, hid rfl⟩
  rw [HC.out] at HV ⊢
  have HSZ : Hid (C.size = 36) := hid (by rw [← HC.out]; exact bkc_size _ hp)
  have hr0 := heap_alloc_new w (.cells C 47)
  have hb0 : Below w.heap.size w (w.alloc (.cells C 47)) := (Below.refl _ _).alloc (Nat.le_refl _) _
  obtain ⟨f, HF⟩ : ∃ q : Bool, Hid (sameK b bkZ = q) := ⟨_, hid rfl⟩
  obtain ⟨g, HG⟩ : ∃ q : Bool, Hid ((b.txs.all mayT && numsK b) = q) := ⟨_, hid rfl⟩
  have HMK : Hid (mayK b = (f || g)) := hid (by unfold mayK; rw [HF.out, HG.out])
  have HIF : Hid (∀ W, Below w.heap.size w W → Calls Tryz.prog 92 #[.agg C] W fun e w' => e = .returned (.bool f) ∧ Below W.heap.size W w') := hid (fun W h => by
    have := bkIsFirst_ok _ b W (HV.out W h)
    rw [HF.out] at this
    exact this)
  have HIL : Hid (∀ W, Below w.heap.size w W → Calls Tryz.prog 93 #[.agg C] W fun e w' => e = .returned (.bool g) ∧ Below W.heap.size W w') := hid (fun W h => by
    have := bkIsLater_ok _ b W (HV.out W h) hlk
    rw [HG.out] at this
    exact this)
  rw [HMK.out]
  clear ht
  go_enter Tryz.func59, Tryz.ntmps59
  go_upto_region 1 with (fail)
  generalize (w.alloc (.cells C 47)) = w0 at *
  have hl0 := lt_of_block hr0
  have HLD : Hid (∀ W : World, Below w0.heap.size w0 W → loadK (.pointer (some ⟨w.heap.size, 0, none⟩)) W = .ok (.value (.agg C)) W) := hid (fun W h => loadK_row ((h.block _ hl0).trans hr0) HSZ.out)
  have l0 := HLD.out w0 (Below.refl _ _)
  clear hr0 hl0
  go_wp2_with fail
  refine (HIF.out w0 hb0).mono ?_
  rintro e w1 ⟨rfl, hb1⟩
  have hB1 := hb0.trans (hb1.mono hb0.size)
  have l1 := HLD.out w1 hb1
  clear l0
  cases f with
  | true =>
    clear l1
    go_wp2_with fail
    go_ret
    exact ⟨rfl, hB1⟩
  | false =>
    go_wp2_with fail
    refine (HIL.out w1 hB1).mono ?_
    rintro e w2 ⟨rfl, hb2⟩
    clear l1
    cases g
    all_goals
      go_wp2_with fail
      go_ret
      exact ⟨rfl, hB1.trans (hb2.mono hB1.size)⟩
end Go.Proofs.YtghophbabbaleaaGreatDoor
namespace Go.Proofs.YtghophbabbaleaaGreatDoor
set_option maxRecDepth 20000
open Go.RowKit
attribute [local go_sem ↓] exec_load_tx exec_load_hash
theorem arr4 : ArrT 157 3 4 (.int .i64 0) := ⟨by kernel_rfl, by kernel_rfl, by kernel_rfl, by kernel_rfl, by kernel_rfl, by kernel_rfl, rfl⟩
theorem wpList_build_four {ops : Array Oper} {rest : List Oper} {o : Oper} {a : Act} {w : World} {Q : Exit → Act → World → Prop} (hgd : o.guard = none) {x0 x1 x2 x3 : Operand} (ho : o.op = .build 157 #[(0, x0), (1, x1), (2, x2), (3, x3)])
    (v0 v1 v2 v3 : Int) (h0 : a.eval x0 = .int .i64 v0) (h1 : a.eval x1 = .int .i64 v1) (h2 : a.eval x2 = .int .i64 v2) (h3 : a.eval x3 = .int .i64 v3)
    (h : wpList Tryz.prog ops Q rest (a.put o.dst (.agg #[.int .i64 v0, .int .i64 v1, .int .i64 v2, .int .i64 v3])) w) : wpList Tryz.prog ops Q (o :: rest) a w :=
  wpList_plain hgd fun _ hK => by
    have e : (Instr.build 157 #[(0, .int .i64 v0), (1, .int .i64 v1), (2, .int .i64 v2), (3, .int .i64 v3)]).run Tryz.prog w = .ok (.agg #[.int .i64 v0, .int .i64 v1, .int .i64 v2, .int .i64 v3]) w := by
      have e2 : fcells 4 (fun _ => (.int .i64 0 : Value)) = #[.int .i64 0, .int .i64 0, .int .i64 0, .int .i64 0] := by kernel_rfl
      simp [Instr.build, Sem.run_bind, arr4.run_zero, run_underlying arr4.under, arr4.run_esize, Instr.fill, Value.cells, e2]
    unfold Oper.wp execOp
    simp only [ho, Sem.run_bind, List.map_toArray, List.map_cons, List.map_nil, h0, h1, h2, h3, e, Sem.run_pure, Result.andThen_ok]
    exact hK _ _ h
theorem bk_four_index (M : List Nat) (p q o l : Nat) (hM : [p, q, o, l] = M) (i : Nat) (hi : i < M.length) (w : World) :
    (Instr.index 157 (.agg #[.int .i64 (p : Int), .int .i64 (q : Int), .int .i64 (o : Int), .int .i64 (l : Int)]) (.int .i64 (i : Int))).run Tryz.prog w = .ok (.int .i64 (M[i] : Int)) w := by
  subst hM
  have h4 : i < 4 := hi
  have e2 : (#[.int .i64 (p : Int), .int .i64 (q : Int), .int .i64 (o : Int), .int .i64 (l : Int)] : Array Value) = fcells 4 (fun j => .int .i64 (([p, q, o, l].getD j 0 : Nat) : Int)) := rfl
  rw [e2, arr4.run_index _ h4]
  simp [List.getD_eq_getElem?_getD, List.getElem?_eq_getElem hi]
theorem flat_dg (M : List Nat) (i : Nat) (h : i < M.length) : ((M.take (i + 1)).map dg).flatten = ((M.take i).map dg).flatten ++ dg M[i] := by
  rw [List.take_succ_eq_append_getElem h]
  simp only [List.map_append, List.map_cons, List.map_nil, List.flatten_append, List.flatten_cons, List.flatten_nil, List.append_nil]
theorem flat_dg_len (M : List Nat) (h : ∀ m ∈ M, m ≤ 1099511627776) (i : Nat) : ((M.take i).map dg).flatten.length ≤ M.length * 10 := by
  have : ∀ M : List Nat, (∀ m ∈ M, m ≤ 1099511627776) → (M.map dg).flatten.length ≤ M.length * 10 := by
    intro M
    induction M with
    | nil => intro _; simp
    | cons m M ih =>
      intro h
      have h1 := dg_len10 (n := m) (by have := h m (by simp); omega)
      have h2 := ih (fun x hx => h x (List.mem_cons_of_mem _ hx))
      simp only [List.map_cons, List.flatten_cons, List.length_append, List.length_cons]
      omega
  have h1 := this (M.take i) (fun m hm => h m (List.mem_of_mem_take hm))
  have h2 : (M.take i).length ≤ M.length := by simp only [List.length_take]; omega
  omega
set_option maxHeartbeats 3200000 in
theorem bkOwn_any (v : Value) (b : BkM) (w : World) (hv : BkV w v b) (hm : mayK b = true) :
    Calls Tryz.prog 99 #[v] w fun e w' => ∃ x, e = .returned x ∧ Byt w' x (bytesK b) ∧ Below w.heap.size w w' := by
  obtain ⟨s, rfl, hp, ht⟩ := hv
  obtain ⟨hall, h1, h2, h3, h4, h5, h6, h7⟩ := mayK_all hm
  have HALL := hid hall
  clear hall hm
  have hb0 : Below w.heap.size w (w.alloc (.cells (bkc b s) 47)) := (Below.refl _ _).alloc (Nat.le_refl _) _
  have hA := BoxK.new w b s
  have ht0 := ht.below hb0
  obtain ⟨A, c, rfl⟩ := ht.shape
  obtain ⟨L, HL⟩ : ∃ n : Nat, Hid (b.txs.length = n) := ⟨_, hid rfl⟩
  rw [HL.out] at h7
  obtain ⟨C, HC⟩ : ∃ C : Array Value, Hid (bkc b (.slice A b.txs.length c) = C) := ⟨_, hid rfl⟩
  obtain ⟨O, HO⟩ : ∃ O : List UInt8, Hid (bytesK b = O) := ⟨_, hid rfl⟩
  rw [HO.out]
  rw [HC.out] at hA hb0 ht0 ⊢
  rw [HL.out] at hA ht0 HC
  obtain ⟨par, vi, he, bo, txs⟩ := b
  simp only at h1 h2 h3 h4 h5 h6 hp HL HALL ht0
  obtain ⟨p, rfl⟩ := nat_of (i := vi) h1
  obtain ⟨q, rfl⟩ := nat_of (i := he) h3
  obtain ⟨o, rfl⟩ := nat_of (i := bo) h5
  obtain ⟨M, HM⟩ : ∃ M : List Nat, Hid ([p, q, o, L] = M) := ⟨_, hid rfl⟩
  have HML : Hid (M.length = 4) := hid (by rw [← HM.out]; rfl)
  have HMB : Hid (∀ m ∈ M, m ≤ 1099511627776) := hid (by
    rw [← HM.out]
    intro m hm
    simp only [List.mem_cons, List.not_mem_nil, or_false] at hm
    omega)
  have HIX : Hid (∀ i (h : i < M.length) w, (Instr.index 157 (.agg #[.int .i64 (p : Int), .int .i64 (q : Int), .int .i64 (o : Int), .int .i64 (L : Int)]) (.int .i64 (i : Int))).run Tryz.prog w = .ok (.int .i64 (M[i] : Int)) w) := hid (fun i h w => bk_four_index M p q o L HM.out i h w)
  obtain ⟨D, HD⟩ : ∃ D : Array Value, Hid (#[.int .i64 (p : Int), .int .i64 (q : Int), .int .i64 (o : Int), .int .i64 (L : Int)] = D) := ⟨_, hid rfl⟩
  rw [HD.out] at HIX
  have HFL := hid (fun i => flat_dg_len M HMB.out i)
  have HHA := hid (fun w => hash_any (.slice none 0 0) [] par w (Byt.nil w) (by simp) hp)
  have HPL := hid hp
  clear ht
  go_enter Tryz.func99, Tryz.ntmps99
  go_upto_region 1 with (fail)
  generalize (w.alloc (.cells C 47)) = w0 at *
  have hl0 := hA.lt
  have HX : Hid (∀ W : World, Below w0.heap.size w0 W → W.rangeAt w.heap.size 0 (bcells par) ∧ W.cell? ⟨w.heap.size, 32, none⟩ = some (.int .i64 (p : Int)) ∧ W.cell? ⟨w.heap.size, 33, none⟩ = some (.int .i64 (q : Int)) ∧ W.cell? ⟨w.heap.size, 34, none⟩ = some (.int .i64 (o : Int)) ∧ W.cell? ⟨w.heap.size, 35, none⟩ = some (.slice A L c) ∧ Txs W (.slice A L c) txs) := hid (fun W h => by
    have hW := hA.below h hl0
    exact ⟨hW.range, (hW.cells HPL.out).1, (hW.cells HPL.out).2.1, (hW.cells HPL.out).2.2.1, (hW.cells HPL.out).2.2.2, ht0.below h⟩)
  have la := loadH_mid hA.range hp
  obtain ⟨HA, HHH⟩ : ∃ C : Array Value, Hid (hcells par = C) := ⟨_, hid rfl⟩
  rw [HHH.out] at la HHA
  have hs0 := hb0.size
  clear hA ht0 hp hl0
  go_wp2_with fail
  refine (HHA.out w0).mono ?_
  rintro e w1 ⟨x1, rfl, ho1, hb1⟩
  have hx1 := ho1.byt
  rw [List.nil_append] at hx1
  obtain ⟨_, k2, k3, k4, k5, _⟩ := HX.out w1 hb1
  clear la HHA ho1
  go_wp2_with (refine wpList_build_four rfl rfl _ _ _ _ rfl rfl rfl rfl ?_)
  rw [HD.out]
  clear k2 k3 k4 k5
  go_loopw [3, 21] (fun out si wr => ∃ i : Nat, i ≤ 4 ∧ si = .int .i64 i ∧ Byt wr out (par ++ ((M.take i).map dg).flatten) ∧ Below w0.heap.size w0 wr) (fun _ si _ => 4 - (intOf si).toNat)
  case atStart => exact ⟨0, by omega, rfl, by rw [List.take_zero, List.map_nil, List.flatten_nil, List.append_nil]; exact hx1, hb1⟩
  case round =>
    obtain ⟨i, hi, rfl, hown, hB⟩ := hrel
    by_cases hlt : i < 4
    · have hih : i < M.length := by rw [HML.out]; exact hlt
      have i0 := HIX.out i hih
      have hmi := HMB.out _ (List.getElem_mem hih)
      have HNEW := hid (flat_dg M i hih)
      obtain ⟨m, HMI⟩ : ∃ m : Nat, Hid (M[i] = m) := ⟨_, hid rfl⟩
      rw [HMI.out] at i0 hmi HNEW
      have hw1 : IntKind.u64.wrap (m : Int) = (m : Int) := wrap_u64 _ (by omega) (by omega)
      have hI : (i : Int) < 4 := by omega
      have hlen : (par ++ ((M.take i).map dg).flatten).length ≤ 1099511627000 := by rw [List.length_append]; have := HFL.out i; have := HML.out; have := HPL.out; omega
      have HNU := hid (fun v w (h : Byt w v (par ++ ((M.take i).map dg).flatten)) => num_any v _ (m : Int) w h (by omega) (by omega) hlen)
      clear hlen hmi
      go_wp2_with fail
      refine (HNU.out _ wr hown).mono ?_
      rintro e w9 ⟨v9, rfl, ho9, hb9'⟩
      have hb9 := hB.trans (hb9'.mono hB.size)
      have hx9 := ho9.byt
      rw [Int.toNat_natCast, List.append_assoc, ← HNEW.out] at hx9
      clear i0 hw1 ho9
      go_wp2_with fail
      go_roundw
      case rel => exact ⟨i + 1, by omega, by go_num, hx9, hb9⟩
      case measure => simp [intOf]; omega
    · have E4 := hid (show i = 4 by omega)
      have hI : ¬ (i : Int) < 4 := by omega
      rw [E4.out] at hown
      clear hx1 hb1
      obtain ⟨P, HP⟩ : ∃ P : List UInt8, Hid (par ++ ((M.take 4).map dg).flatten = P) := ⟨_, hid rfl⟩
      have HPL2 : Hid (P.length ≤ 72) := hid (by rw [← HP.out, List.length_append]; have := HFL.out 4; have := HML.out; have := HPL.out; omega)
      rw [HP.out] at hown
      have HTK : Hid (∀ i, i ≤ L → ((txs.take i).map bytesT).flatten.length ≤ i * 300) := hid (fun i hi => by
        have := flat_len (txs.take i) (fun t ht => HALL.out t (List.mem_of_mem_take ht))
        rw [List.length_take, HL.out, Nat.min_eq_left hi] at this
        exact this)
      have HPT : Hid (∀ v l t W, Byt W v l → l.length ≤ 1000000 → lightT t → Calls Tryz.prog 142 #[v, txv t] W fun e w' => ∃ x, e = .returned x ∧ Byt w' x (putT l t) ∧ Below W.heap.size W w') := hid (fun v l t W => txPut_ok v l t W)
      have k5 := (HX.out wr hB).2.2.2.2.1
      go_wp2_with fail
      clear k5
      go_loopw [3, 32] (fun out si w2 => ∃ i : Nat, i ≤ L ∧ si = .int .i64 i ∧ Byt w2 out (P ++ ((txs.take i).map bytesT).flatten) ∧ Below w0.heap.size w0 w2) (fun _ si _ => L - (intOf si).toNat)
      case atStart => exact ⟨0, by omega, rfl, by rw [List.take_zero, List.map_nil, List.flatten_nil, List.append_nil]; exact hown, hB⟩
      case round =>
        clear hown hB
        obtain ⟨i, hi, rfl, hown, hB⟩ := hrel
        by_cases hlt : i < L
        · have hih : i < txs.length := by rw [HL.out]; exact hlt
          obtain ⟨ba, oa, rfl, hba, hcla⟩ := (HX.out _ hB).2.2.2.2.2.at_.2.2.2 (by omega)
          have hI : (i : Int) < (L : Int) := by omega
          have l1 : loadTx (.pointer (some ⟨ba, oa + i * 7, none⟩)) wr = .ok (.value (txv txs[i])) wr := loadTx_mid (hcla i hih)
          have hmt := HALL.out _ (List.getElem_mem hih)
          have hbl := bytesT_len hmt
          have hlt6 : lightT txs[i] := by
            obtain ⟨_, _, h3⟩ := mayT_iff hmt
            unfold lightT
            rcases h3 with ⟨_, _, _, hk, hv⟩ | ⟨_, _, _, hk, hv⟩ | ⟨_, _, _, hk, hv⟩
            · simp [hk, hv]
            · exact ⟨by have := keyOk_len hk; omega, by omega⟩
            · exact ⟨by have := keyOk_len hk; omega, by simp [hv]⟩
          have HNEW : Hid (putT (P ++ ((txs.take i).map bytesT).flatten) txs[i] = P ++ ((txs.take (i + 1)).map bytesT).flatten) := hid (by
            unfold putT
            rw [if_pos hmt, flat_snoc txs i hih, List.append_assoc])
          have hfl := HTK.out i hi
          have hlen : (P ++ ((txs.take i).map bytesT).flatten).length ≤ 1000000 := by rw [List.length_append]; have := HPL2.out; omega
          obtain ⟨t, HTT⟩ : ∃ t : TxM, Hid (txs[i] = t) := ⟨_, hid rfl⟩
          rw [HTT.out] at l1 HNEW hlt6
          have HPU := hid (fun v W (h : Byt W v (P ++ ((txs.take i).map bytesT).flatten)) => HPT.out v _ t W h hlen hlt6)
          unfold txv at l1 HPU
          have hbn : Below wr.heap.size wr (wr.alloc (.cells #[.int .i64 t.fr, .int .i64 t.no, .int .i64 t.ki, .int .i64 t.to, .int .i64 t.am, .string (sb t.key), .string (sb t.val)] 102)) := (Below.refl _ _).alloc (Nat.le_refl _) _
          have hrn := heap_alloc_new wr (.cells #[.int .i64 t.fr, .int .i64 t.no, .int .i64 t.ki, .int .i64 t.to, .int .i64 t.am, .string (sb t.key), .string (sb t.val)] 102)
          clear hcla hbl hfl hmt hlen hlt6
          go_upto_region 10 with (fail)
          generalize (wr.alloc (.cells #[.int .i64 t.fr, .int .i64 t.no, .int .i64 t.ki, .int .i64 t.to, .int .i64 t.am, .string (sb t.key), .string (sb t.val)] 102)) = w8 at *
          have l8 := loadTx_eq hrn rfl
          have hB8 := hB.trans (hbn.mono hB.size)
          have hown8 := hown.below hbn
          clear l1 hrn
          go_wp2_with fail
          refine (HPU.out _ w8 hown8).mono ?_
          rintro e w9 ⟨v9, rfl, ho9, hb9'⟩
          have hb9 := hB8.trans (hb9'.mono hB8.size)
          rw [HNEW.out] at ho9
          clear l8
          go_wp2_with fail
          go_roundw
          case rel => exact ⟨i + 1, by omega, by go_num, ho9, hb9⟩
          case measure => simp [intOf]; omega
        · obtain rfl : i = L := by omega
          go_wp2
          go_ret
          rw [List.take_of_length_le (by rw [HL.out]; exact Nat.le_refl _)] at hown
          refine ⟨_, rfl, ?_, hb0.trans (hB.mono hs0)⟩
          have e : P ++ (txs.map bytesT).flatten = O := by
            rw [← HO.out, ← HP.out, ← HM.out]
            unfold bytesK
            simp only [Int.toNat_natCast, HL.out, List.append_assoc, List.take_succ_cons, List.take_zero, List.map_cons, List.map_nil, List.flatten_cons, List.flatten_nil, List.append_nil]
          rw [e] at hown
          exact hown
attribute [local go_sem ↓] exec_load_bk
theorem later_iff {b : BkM} : (b.txs.all mayT && numsK b) = true ↔ mayK b = true ∧ b.vi ≠ 0 := by
  constructor
  · intro h
    have hm : mayK b = true := by unfold mayK; rw [h, Bool.or_true]
    refine ⟨hm, ?_⟩
    unfold numsK at h
    simp only [Bool.and_eq_true, decide_eq_true_eq] at h
    omega
  · rintro ⟨hm, hn⟩
    rcases mayK_of hm with rfl | ⟨h0, h1, h2, h3, h4, h5, h6, h7⟩
    · exact absurd rfl hn
    · unfold numsK
      simp only [Bool.and_eq_true, decide_eq_true_eq]
      exact ⟨h0, ⟨⟨⟨⟨⟨h1, h2⟩, h3⟩, h4⟩, h5⟩, h6⟩, h7⟩
set_option maxHeartbeats 3200000 in
theorem bkHash_ok : BkHashOk := by
  intro v b w hv hlk hK
  have HV := hid (fun W (h : Below w.heap.size w W) => hv.below h)
  have HKB := hid (fun W (h : Below w.heap.size w W) => (show Kst 1 W from hK.below h))
  obtain ⟨s, rfl, hp, ht⟩ := hv
  obtain ⟨C, HC⟩ : ∃ C : Array Value, Hid (bkc b s = C) := ⟨_, hid rfl⟩
  rw [HC.out] at HV ⊢
  obtain ⟨D, HD⟩ : ∃ D : Nat → Value, Hid ((fun j => bcell (hashK b j)) = D) := ⟨_, hid rfl⟩
  have hD1 : ∀ i, i < 32 → (D i).oneCell' = true := by rw [← HD.out]; intro i _; rfl
  rw [HD.out]
  have HSZ : Hid (C.size = 36) := hid (by rw [← HC.out]; exact bkc_size _ hp)
  have hr0 := heap1 w (.cells C 47) (.cells (fcells 32 fun _ => bcell 0) 38)
  have hH0 : Blk ((w.alloc (.cells C 47)).alloc (.cells (fcells 32 fun _ => bcell 0) 38)) (w.heap.size + 1) 32 (fun _ => bcell 0) 38 := heap2 w (.cells C 47) _
  have hb0 : Below w.heap.size w ((w.alloc (.cells C 47)).alloc (.cells (fcells 32 fun _ => bcell 0) 38)) := ((Below.refl _ _).alloc (Nat.le_refl _) _).alloc (by simp) _
  obtain ⟨g, HG⟩ : ∃ q : Bool, Hid ((b.txs.all mayT && numsK b) = q) := ⟨_, hid rfl⟩
  have HIL : Hid (∀ W, Below w.heap.size w W → Calls Tryz.prog 93 #[.agg C] W fun e w' => e = .returned (.bool g) ∧ Below W.heap.size W w') := hid (fun W h => by
    have := bkIsLater_ok _ b W (HV.out W h) hlk
    rw [HG.out] at this
    exact this)
  have HOW : Hid (mayK b = true → ∀ W, Below w.heap.size w W → Calls Tryz.prog 99 #[.agg C] W fun e w' => ∃ x, e = .returned x ∧ Byt w' x (bytesK b) ∧ Below W.heap.size W w') := hid (fun hm W h => bkOwn_any _ b W (HV.out W h) hm)
  have HWO := hid word_byt
  have HPP := hid hp
  clear ht hK hlk
  go_enter Tryz.func63, Tryz.ntmps63
  go_upto_region 1 with (refine wpList_alloc_arr arrH rfl rfl ?_)
  generalize ((w.alloc (.cells C 47)).alloc (.cells (fcells 32 fun _ => bcell 0) 38)) = w0 at *
  have hl0 := lt_of_block hr0
  have HLD : Hid (∀ W : World, Below w0.heap.size w0 W → loadK (.pointer (some ⟨w.heap.size, 0, none⟩)) W = .ok (.value (.agg C)) W) := hid (fun W h => loadK_row ((h.block _ hl0).trans hr0) HSZ.out)
  have l0 := HLD.out w0 (Below.refl _ _)
  clear hr0 hl0
  go_wp2_with fail
  refine (HIL.out w0 hb0).mono ?_
  rintro e w1 ⟨rfl, hb1⟩
  have hH1 := hH0.keep hb1
  have hB1 := hb0.trans (hb1.mono hb0.size)
  clear l0 hH0
  cases g with
  | false =>
    have HDM : Hid (D = fun _ => bcell 0) := hid (by
      rw [← HD.out]
      funext j
      unfold hashK
      rw [if_neg (fun h => by have := later_iff.2 h; rw [HG.out] at this; cases this)])
    go_wp2_with (first
      | (refine wpList_zero_arr arrH rfl rfl ?_)
      | (refine wpList_store_arr arrH rfl _ _ rfl rfl rfl hH1 (fun _ _ => rfl) ?_; intro wA hgA hAA hsA))
    refine bodyPost_ret (arrH.result rfl _ _ rfl hAA) rfl ⟨by rw [HDM.out], ?_⟩
    exact below_into hB1 (Nat.le_succ _) hgA hB1.size
  | true =>
    obtain ⟨hmm, hnn⟩ := later_iff.1 HG.out
    have HMM := hid hmm
    have HDM : Hid (D = fun j => bcell (sumS (wordK ++ bytesK b) j)) := hid (by
      rw [← HD.out]
      funext j
      unfold hashK
      rw [if_pos ⟨hmm, hnn⟩])
    have HLEN : Hid ((bytesK b).length ≤ 3000) := hid (bytesK_len HPP.out hmm)
    clear hmm hnn
    have how := HWO.out w1
    have hb1w : Below w1.heap.size w1 (w1.alloc (.cells #[.int .u8 98, .int .u8 108, .int .u8 111, .int .u8 99, .int .u8 107] 5 (5, 6))) := (Below.refl _ _).alloc (Nat.le_refl _) _
    have hBw := hB1.trans (hb1w.mono hB1.size)
    have l2 := HLD.out _ (hb1.trans (hb1w.mono hb1.size))
    have hcv := Go.Lib.run_convert_bytes_const (P := Tryz.prog) w1 29 5 #[.int .u8 98, .int .u8 108, .int .u8 111, .int .u8 99, .int .u8 107] 5 5 under_bytes Tryz.underlying5
    go_wp2_with fail
    refine (HOW.out HMM.out _ hBw).mono ?_
    rintro e w2 ⟨x, rfl, hx2, hb2⟩
    have hb2' := hb1w.trans (hb2.mono hb1w.size)
    have hB2 := hB1.trans (hb2'.mono hB1.size)
    have hH2 := hH1.keep hb2'
    have how2 := how.below hb2
    obtain ⟨A2, c2, rfl⟩ := hx2.shape
    have hbA : Below w2.heap.size w2 (w2.alloc (.cells #[.slice (some ⟨w1.heap.size, 0, none⟩) 5 5, .slice A2 (bytesK b).length c2] 29)) := (Below.refl _ _).alloc (Nat.le_refl _) _
    have hB2A := hB2.trans (hbA.mono hB2.size)
    have hH2A := hH2.keep hbA
    have HC2 := hid (of_two (.slice (some ⟨w1.heap.size, 0, none⟩) 5 5) (.slice A2 (bytesK b).length c2) wordK (bytesK b) w2.heap.size 2 (w2.alloc (.cells #[.slice (some ⟨w1.heap.size, 0, none⟩) 5 5, .slice A2 (bytesK b).length c2] 29)) (by simp) (by simp) (by simp) (how2.alloc _) (hx2.alloc _) (l := wordK ++ bytesK b) rfl
      (by rw [List.length_append]; have := HLEN.out; simp only [wordK, List.length_cons, List.length_nil]; omega) (HKB.out _ hB2A))
    clear l2 hcv how how2 hb1w hBw hH1
    go_wp2_with fail
    refine HC2.out.mono ?_
    rintro e w3 ⟨rfl, hb3⟩
    have hH3 := hH2A.keep hb3
    have hB3 := hB2A.trans (hb3.mono hB2A.size)
    clear hH2 hH2A hx2 HC2
    go_wp2_with (refine wpList_store_arr arrH rfl _ _ rfl rfl rfl hH3 (fun _ _ => rfl) ?_; intro wA hgA hAA hsA)
    refine bodyPost_ret (arrH.result rfl _ _ rfl hAA) rfl ⟨by rw [HDM.out], ?_⟩
    exact below_into hB3 (Nat.le_succ _) hgA hB3.size
end Go.Proofs.YtghophbabbaleaaGreatDoor
namespace Go.Proofs.YtghophbabbaleaaGreatDoor
set_option maxRecDepth 20000
open Go.ChangeShapes Go.WideShapes Go.ChangeAt Go.RowKit Go.Deep
def sizedK (b : BkM) : Prop := ∀ t ∈ b.txs, t.key.length ≤ maxLen ∧ t.val.length ≤ maxLen
section
variable {H : Type} {enc : TypeId × Value → H} {w : World} {base : Nat} {spare : Nat → Bool} {held : Bool} {fuel : Nat} {cs : List Value} {x : DataW H × List MemPlace}
theorem trod_txs (h : DataW.trod enc Tryz.prog w base spare held fuel 45 cs = some x) : ∃ v L, cs = [v] ∧ Txs w v L ∧ ∀ t ∈ L, t.key.length ≤ maxLen ∧ t.val.length ≤ maxLen := by
  have hc : Tryz.prog.cellsOf 102 = 7 := by kernel_rfl
  rcases open_slice Tryz.underlying45 h with ⟨rfl, _⟩ | ⟨a, len, cap, m, n, D, Pl, rfl, _, hl, hm, hmm, _, hi⟩
  · exact ⟨_, [], rfl, ⟨none, 0, rfl, Nat.le_refl _, Nat.zero_le _, TxsA.nil _ _⟩, fun t ht => by cases ht⟩
  · have hlm : len ≤ m := by rw [hmm]; split <;> omega
    rw [hc] at hi
    have hex : ∀ i, ∃ t : TxM, (t.key.length ≤ maxLen ∧ t.val.length ≤ maxLen) ∧ (i < len → ∀ j u, (tcl t)[j]? = some u → w.cell? (a.add (i * 7 + j)) = some u) := by
      intro i
      by_cases hil : i < len
      · obtain ⟨cs', hcs, ht⟩ := hi i (by omega)
        obtain ⟨t, hb, rfl⟩ := trod_tx ht
        obtain ⟨_, hlen', hat⟩ := World.cells?_some hcs
        refine ⟨t, hb, fun _ j u hu => ?_⟩
        have hj : j < 7 := by
          have := (List.getElem?_eq_some_iff.1 hu).1
          rw [tcl_length] at this
          exact this
        rw [← Go.Deep.add_add, hat j hj]
        exact hu
      · exact ⟨txZ, ⟨Nat.zero_le _, Nat.zero_le _⟩, fun h => absurd h hil⟩
    refine ⟨_, (List.range len).map fun i => (hex i).choose, rfl, ⟨some a, cap, by simp, by simpa using hl, hm, fun h0 => ?_⟩, fun t ht => ?_⟩
    · have h0' : 0 < len := by simpa using h0
      obtain ⟨b, off, spot⟩ := a
      have hsp := (hex 0).choose_spec.2 h0' 0 _ rfl
      have hspot : spot = none := by simpa [Addr.add] using World.cell?_spot hsp
      subst hspot
      refine ⟨b, off, rfl, ?_, fun i hil => ?_⟩
      · have := World.block_lt_of_cell? w _ hsp
        rw [addr_add] at this
        exact this
      · have hil' : i < len := by simpa using hil
        simp only [List.getElem_map, List.getElem_range]
        intro j u hu
        have := (hex i).choose_spec.2 hil' j u hu
        rw [addr_add] at this
        rw [← this, Nat.add_assoc]
    · obtain ⟨i, _, rfl⟩ := List.mem_map.1 ht
      exact (hex i).choose_spec.1
theorem fields_bk : ∃ f0 f1 f2 f3 f4 : Field, Tryz.prog.underlying 47 = some (.struct #[f0, f1, f2, f3, f4]) ∧ (f0.type, f0.offset) = (38, 0) ∧ (f1.type, f1.offset) = (3, 32) ∧ (f2.type, f2.offset) = (3, 33)
    ∧ (f3.type, f3.offset) = (3, 34) ∧ (f4.type, f4.offset) = (45, 35) :=
  ⟨_, _, _, _, _, Tryz.underlying47, rfl, rfl, rfl, rfl, rfl⟩
theorem trod_bk (h : DataW.trod enc Tryz.prog w base spare held fuel 47 cs = some x) : ∃ b : BkM, BkV w (.agg cs.toArray) b ∧ sizedK b := by
  obtain ⟨f0, f1, f2, f3, f4, hu, e0, e1, e2, e3, e4⟩ := fields_bk
  injection e0 with t0 o0
  injection e1 with t1 o1
  injection e2 with t2 o2
  injection e3 with t3 o3
  injection e4 with t4 o4
  obtain ⟨xs, m, _, _, hlen, hxl, hf⟩ := DataW.trod_struct hu h
  have hc : Tryz.prog.cellsOf 47 = 36 := by kernel_rfl
  have hci : Tryz.prog.cellsOf 3 = 1 := by kernel_rfl
  have hch : Tryz.prog.cellsOf 38 = 32 := by kernel_rfl
  have hcs : Tryz.prog.cellsOf 45 = 1 := by kernel_rfl
  rw [hc] at hlen
  have hx : xs.length = 5 := hxl
  have g0 := hf 0 f0 rfl
  have g1 := hf 1 f1 rfl
  have g2 := hf 2 f2 rfl
  have g3 := hf 3 f3 rfl
  have g4 := hf 4 f4 rfl
  rw [t0, o0, hch, List.getElem?_eq_getElem (by omega)] at g0
  rw [t1, o1, hci, List.getElem?_eq_getElem (by omega)] at g1
  rw [t2, o2, hci, List.getElem?_eq_getElem (by omega)] at g2
  rw [t3, o3, hci, List.getElem?_eq_getElem (by omega)] at g3
  rw [t4, o4, hcs, List.getElem?_eq_getElem (by omega)] at g4
  obtain ⟨p, hp, c0⟩ := trod_hash g0
  obtain ⟨n1, c1, _, _⟩ := DataW.trod_int Tryz.underlying3 g1
  obtain ⟨n2, c2, _, _⟩ := DataW.trod_int Tryz.underlying3 g2
  obtain ⟨n3, c3, _, _⟩ := DataW.trod_int Tryz.underlying3 g3
  obtain ⟨v, L, c4, hL, hb⟩ := trod_txs g4
  refine ⟨⟨p, n1, n2, n3, L⟩, ⟨v, ?_, hp, hL⟩, hb⟩
  have d1 := cell_of_part c1
  have d2 := cell_of_part c2
  have d3 := cell_of_part c3
  have d4 := cell_of_part c4
  rw [List.drop_zero] at c0
  have e : cs = bcells p ++ [.int .i64 n1, .int .i64 n2, .int .i64 n3, v] := by
    apply List.ext_getElem?
    intro i
    by_cases h32 : i < 32
    · rw [List.getElem?_append_left (by rw [bcells_length, hp]; exact h32), ← c0, List.getElem?_take_of_lt h32]
    · rw [List.getElem?_append_right (by rw [bcells_length, hp]; omega), bcells_length, hp]
      match i, h32 with
      | 32, _ => exact d1
      | 33, _ => exact d2
      | 34, _ => exact d3
      | 35, _ => exact d4
      | i + 36, _ => rw [List.getElem?_eq_none (by omega), List.getElem?_eq_none (by simp <;> omega)]
  unfold bkc
  rw [e]
end
end Go.Proofs.YtghophbabbaleaaGreatDoor
