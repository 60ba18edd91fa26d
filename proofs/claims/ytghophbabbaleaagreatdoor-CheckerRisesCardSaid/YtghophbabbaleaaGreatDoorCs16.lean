/-
  BkWords BkSame BkMay BkPut BkHash BkRd BkOk BkCodeSame: what each of them says stands at its head.
-/
import Derived.Test.YtghophbabbaleaaGreatDoorCs8
import Derived.Test.YtghophbabbaleaaGreatDoorCs10
namespace Go.Proofs.YtghophbabbaleaaGreatDoor
set_option maxRecDepth 20000
open Go.RowKit
def tcl (t : TxM) : List Value := [.int .i64 t.fr, .int .i64 t.no, .int .i64 t.ki, .int .i64 t.to, .int .i64 t.am, .string (sb t.key), .string (sb t.val)]
theorem txv_tcl (t : TxM) : txv t = .agg (tcl t).toArray := rfl
theorem tcl_length (t : TxM) : (tcl t).length = 7 := rfl
def TxsA (w : World) (A : Option Addr) (L : List TxM) : Prop :=
  0 < L.length → ∃ b off, A = some ⟨b, off, none⟩ ∧ b < w.heap.size ∧ ∀ j (h : j < L.length), w.rangeAt b (off + j * 7) (tcl L[j])
def Txs (w : World) (v : Value) (L : List TxM) : Prop := ∃ A c, v = .slice A L.length c ∧ L.length ≤ c ∧ c ≤ maxLen ∧ TxsA w A L
section
variable {w w' : World} {A : Option Addr} {v : Value} {L : List TxM}
theorem range_keep {b o : Nat} {l : List Value} (h : w.rangeAt b o l) (hk : w'.heap[b]? = w.heap[b]?) : w'.rangeAt b o l := fun j u hu => (World.cell?_of_block hk).trans (h j u hu)
theorem TxsA.nil (w : World) (A : Option Addr) : TxsA w A [] := fun h => absurd h (by simp)
theorem TxsA.below (h : TxsA w A L) (hb : Below w.heap.size w w') : TxsA w' A L := fun hl => by
  obtain ⟨b, off, e, hlt, hc⟩ := h hl
  exact ⟨b, off, e, Nat.lt_of_lt_of_le hlt hb.size, fun j hj => range_keep (hc j hj) (hb.block b hlt)⟩
theorem Txs.nil (w : World) : Txs w (.slice none 0 0) [] := ⟨none, 0, rfl, Nat.le_refl _, Nat.zero_le _, TxsA.nil _ _⟩
theorem Txs.below (h : Txs w v L) (hb : Below w.heap.size w w') : Txs w' v L := by
  obtain ⟨A, c, rfl, h1, h2, h3⟩ := h
  exact ⟨A, c, rfl, h1, h2, h3.below hb⟩
theorem Txs.len (h : Txs w v L) : L.length ≤ maxLen := by
  obtain ⟨_, _, _, h1, h2, _⟩ := h
  omega
theorem Txs.shape (h : Txs w v L) : ∃ A c, v = .slice A L.length c := by
  obtain ⟨A, c, e, _⟩ := h
  exact ⟨A, c, e⟩
theorem Txs.at_ {n c : Nat} (h : Txs w (.slice A n c) L) : n = L.length ∧ L.length ≤ c ∧ c ≤ maxLen ∧ TxsA w A L := by
  obtain ⟨A', c', e, h1, h2, h3⟩ := h
  injection e with e1 e2 e3
  subst e1 e2 e3
  exact ⟨rfl, h1, h2, h3⟩
end
def bkc (b : BkM) (s : Value) : Array Value := (bcells b.par ++ [.int .i64 b.vi, .int .i64 b.he, .int .i64 b.bo, s]).toArray
theorem bkc_size {b : BkM} (s : Value) (h : b.par.length = 32) : (bkc b s).size = 36 := by simp [bkc, bcells, h]
def BkV (w : World) (v : Value) (b : BkM) : Prop := ∃ s, v = .agg (bkc b s) ∧ b.par.length = 32 ∧ Txs w s b.txs
theorem BkV.below {w w' : World} {v : Value} {b : BkM} (h : BkV w v b) (hb : Below w.heap.size w w') : BkV w' v b := by
  obtain ⟨s, rfl, h1, h2⟩ := h
  exact ⟨s, rfl, h1, h2.below hb⟩
def BoxK (w : World) (g : Nat) (b : BkM) (s : Value) : Prop := w.heap[g]? = some (.cells (bkc b s) 47 (0, 0))
section
variable {w w' : World} {g : Nat} {b : BkM} {s : Value}
theorem BoxK.new (w : World) (b : BkM) (s : Value) : BoxK (w.alloc (.cells (bkc b s) 47)) w.heap.size b s := heap_alloc_new w _
theorem BoxK.two (w : World) (o : Obj) (b : BkM) (s : Value) : BoxK ((w.alloc o).alloc (.cells (bkc b s) 47)) (w.heap.size + 1) b s := by
  have := BoxK.new (w.alloc o) b s
  rwa [show (w.alloc o).heap.size = w.heap.size + 1 from by simp] at this
theorem BoxK.lt (h : BoxK w g b s) : g < w.heap.size := lt_of_block h
theorem BoxK.keep (h : BoxK w g b s) (hk : w'.heap[g]? = w.heap[g]?) : BoxK w' g b s := hk.trans h
theorem BoxK.below {B : Nat} (h : BoxK w g b s) (hb : Below B w w') (hg : g < B) : BoxK w' g b s := (hb.block g hg).trans h
theorem bkc_tail (h : b.par.length = 32) : (bkc b s)[32]? = some (.int .i64 b.vi) ∧ (bkc b s)[33]? = some (.int .i64 b.he) ∧ (bkc b s)[34]? = some (.int .i64 b.bo) ∧ (bkc b s)[35]? = some s := by
  have hb : (bcells b.par).length = 32 := by rw [bcells_length, h]
  unfold bkc
  simp only [List.getElem?_toArray]
  refine ⟨?_, ?_, ?_, ?_⟩ <;> rw [List.getElem?_append_right (by omega), hb] <;> rfl
theorem BoxK.cells (h : BoxK w g b s) (h32 : b.par.length = 32) : w.cell? ⟨g, 32, none⟩ = some (.int .i64 b.vi) ∧ w.cell? ⟨g, 33, none⟩ = some (.int .i64 b.he) ∧ w.cell? ⟨g, 34, none⟩ = some (.int .i64 b.bo) ∧ w.cell? ⟨g, 35, none⟩ = some s := by
  obtain ⟨k1, k2, k3, k4⟩ := bkc_tail (s := s) h32
  exact ⟨(cell_of_row w g 32 _ _ (0, 0) h).trans k1, (cell_of_row w g 33 _ _ (0, 0) h).trans k2, (cell_of_row w g 34 _ _ (0, 0) h).trans k3, (cell_of_row w g 35 _ _ (0, 0) h).trans k4⟩
theorem BoxK.free (h : BoxK w g b s) (i : Nat) : w.frozen? ⟨g, i, none⟩ = false := by
  unfold BoxK at h
  simp [World.frozen?, h]
theorem BoxK.range (h : BoxK w g b s) : w.rangeAt g 0 (bcells b.par) := fun j u hu => by
  rw [Nat.zero_add, cell_of_row w g j _ _ (0, 0) h]
  unfold bkc
  rw [List.getElem?_toArray, List.getElem?_append_left (List.getElem?_eq_some_iff.1 hu).1]
  exact hu
end
theorem loadTx_mid {w : World} {g o : Nat} {t : TxM} (hr : w.rangeAt g o (tcl t)) : loadTx (.pointer (some ⟨g, o, none⟩)) w = .ok (.value (txv t)) w := by
  have := run_loadAt_mid (P := Tryz.prog) w g o 102 (tcl t) _ hr under_txs rfl (by rw [show (Tryz.prog.info? 102).map (·.size) = some 7 from by kernel_rfl, tcl_length])
  unfold loadTx execOp
  simp only [Sem.run_bind, this, Result.andThen_ok, Sem.run_pure]
  rfl
noncomputable def loadK (v : Value) (w : World) : Result Next := Sem.run Tryz.prog (execOp (fun _ => v) { dst := none, op := .load 47 (.tmp 0), type := 0, pos := "", after := #[], guard := none }) w
theorem exec_load_bk (r : Operand → Value) (x : Operand) (dst : Option Tmp) (ty : TypeId) (pos : String) (after : Array Edge) (guard : Option (Nat × Bool)) (w : World) :
    Sem.run Tryz.prog (execOp r { dst := dst, op := .load 47 x, type := ty, pos := pos, after := after, guard := guard }) w = loadK (r x) w := rfl
theorem under_bk : Tryz.prog.underlying 47 = some (.struct (Tryz.prog.fieldsOf 47)) := by kernel_rfl
theorem size_bk : (Tryz.prog.info? 47).map (·.size) = some 36 := by kernel_rfl
theorem loadK_row {w : World} {g : Nat} {C : Array Value} {T : TypeId} (h : w.heap[g]? = some (.cells C T (0, 0))) (hs : C.size = 36) : loadK (.pointer (some ⟨g, 0, none⟩)) w = .ok (.value (.agg C)) w := by
  have := run_loadAt_mid (P := Tryz.prog) w g 0 47 C.toList _ (fun j v hj => by rw [Nat.zero_add, cell_blk h j]; simpa using hj) under_bk rfl (by rw [size_bk]; simp [hs])
  simp only [Array.toArray_toList] at this
  unfold loadK execOp
  simp only [Sem.run_bind, this, Result.andThen_ok, Sem.run_pure]
theorem loadK_eq {w : World} {g : Nat} {b : BkM} {s : Value} (h : BoxK w g b s) (h32 : b.par.length = 32) : loadK (.pointer (some ⟨g, 0, none⟩)) w = .ok (.value (.agg (bkc b s))) w := loadK_row h (bkc_size s h32)
noncomputable def buildK (w : World) : Result Next := Sem.run Tryz.prog (execOp (fun _ => undef) { dst := none, op := .build 47 #[], type := 0, pos := "", after := #[], guard := none }) w
theorem exec_build_bk (r : Operand → Value) (dst : Option Tmp) (ty : TypeId) (pos : String) (after : Array Edge) (guard : Option (Nat × Bool)) (w : World) :
    Sem.run Tryz.prog (execOp r { dst := dst, op := .build 47 #[], type := ty, pos := pos, after := after, guard := guard }) w = buildK w := by
  unfold buildK execOp
  simp
theorem zero_bk : (Tryz.prog.info? 47).bind (·.zero) = some (.agg (bkc bkZ (.slice none 0 0))) := by kernel_rfl
theorem run_zero_bk (w : World) : (zeroValue 47).run Tryz.prog w = .ok (.agg (bkc bkZ (.slice none 0 0))) w := by
  have h := zero_bk
  cases hq : Tryz.prog.info? 47 with
  | none => rw [hq] at h; cases h
  | some i =>
    rw [hq] at h
    have hz : i.zero = some (.agg (bkc bkZ (.slice none 0 0))) := h
    simp [zeroValue, typeInfo, hq, hz]
theorem buildK_eq (w : World) : buildK w = .ok (.value (.agg (bkc bkZ (.slice none 0 0)))) w := by
  unfold buildK
  go_simp
  rfl
theorem bkZ_par : bkZ.par.length = 32 := by simp [bkZ]
theorem eq_tx2 (a b : TxM) (w : World) : (Op.equalIn 10000 102 (txv a) (txv b)).run Tryz.prog w = .ok (decide (a = b)) w := by
  obtain ⟨a1, a2, a3, a4, a5, a6, a7⟩ := a
  obtain ⟨b1, b2, b3, b4, b5, b6, b7⟩ := b
  unfold txv
  go_simp
  simp only [sb_toList]
  (repeat' split) <;> simp_all
end Go.Proofs.YtghophbabbaleaaGreatDoor
namespace Go.Proofs.YtghophbabbaleaaGreatDoor
set_option maxRecDepth 20000
open Go.RowKit
attribute [local go_sem ↓] exec_load_tx exec_load_hash
set_option maxHeartbeats 1600000 in
theorem refSame7_any (va vb : Value) (a b : BkM) (w : World) (hva : BkV w va a) (hvb : BkV w vb b) :
    Calls Tryz.prog 100 #[va, vb] w fun e w' => e = .returned (.bool (sameK a b)) ∧ Below w.heap.size w w' := by
  obtain ⟨sa, rfl, hpa, hta⟩ := hva
  obtain ⟨sb, rfl, hpb, htb⟩ := hvb
  have hb0 : Below w.heap.size w ((w.alloc (.cells (bkc a sa) 47)).alloc (.cells (bkc b sb) 47)) := ((Below.refl _ _).alloc (Nat.le_refl _) _).alloc (by simp) _
  have hA : BoxK ((w.alloc (.cells (bkc a sa) 47)).alloc (.cells (bkc b sb) 47)) w.heap.size a sa := (Below.heap_alloc _ _ _ (by simp)).trans (heap_alloc_new w _)
  have hB : BoxK ((w.alloc (.cells (bkc a sa) 47)).alloc (.cells (bkc b sb) 47)) (w.heap.size + 1) b sb := BoxK.two w _ b sb
  have hta0 := hta.below hb0
  have htb0 := htb.below hb0
  obtain ⟨AA, ca, rfl⟩ := hta.shape
  obtain ⟨AB, cb, rfl⟩ := htb.shape
  obtain ⟨CA, HCA⟩ : ∃ C : Array Value, Hid (bkc a (.slice AA a.txs.length ca) = C) := ⟨_, hid rfl⟩
  obtain ⟨CB, HCB⟩ : ∃ C : Array Value, Hid (bkc b (.slice AB b.txs.length cb) = C) := ⟨_, hid rfl⟩
  rw [HCA.out, HCB.out] at hA hB hb0 hta0 htb0 ⊢
  obtain ⟨ans, HAN⟩ : ∃ q : Bool, Hid (sameK a b = q) := ⟨_, hid rfl⟩
  rw [HAN.out]
  go_enter Tryz.func100, Tryz.ntmps100
  go_upto_region 1 with (fail)
  generalize ((w.alloc (.cells CA 47)).alloc (.cells CB 47)) = w0 at *
  clear HCA HCB hta htb
  obtain ⟨a1, a2, a3, a4⟩ := hA.cells hpa
  obtain ⟨b1, b2, b3, b4⟩ := hB.cells hpb
  have la := loadH_mid hA.range hpa
  have lb := loadH_mid hB.range hpb
  have heq := eq_hash a.par b.par hpa hpb w0
  clear hA hB
  obtain ⟨q, HQ⟩ : ∃ q : Bool, Hid (decide (a.par = b.par) = q) := ⟨_, hid rfl⟩
  rw [HQ.out] at heq
  obtain ⟨HA, HHA⟩ : ∃ C : Array Value, Hid (hcells a.par = C) := ⟨_, hid rfl⟩
  obtain ⟨HB, HHB⟩ : ∃ C : Array Value, Hid (hcells b.par = C) := ⟨_, hid rfl⟩
  rw [HHA.out] at la heq
  rw [HHB.out] at lb heq
  clear HHA HHB
  obtain ⟨LA, HLA⟩ : ∃ n : Nat, Hid (a.txs.length = n) := ⟨_, hid rfl⟩
  obtain ⟨LB, HLB⟩ : ∃ n : Nat, Hid (b.txs.length = n) := ⟨_, hid rfl⟩
  rw [HLA.out] at a4 hta0
  rw [HLB.out] at b4 htb0
  have hlena := hta0.len
  have hlenb := htb0.len
  rw [HLA.out] at hlena
  rw [HLB.out] at hlenb
  unfold maxLen at hlena hlenb
  obtain ⟨pa, va, ha, oa, ta⟩ := a
  obtain ⟨pb, vb, hh, ob, tb⟩ := b
  simp only at a1 a2 a3 a4 b1 b2 b3 b4 hta0 htb0 HQ HLA HLB hpa hpb
  have hway : (q = false) ∨ (q = true ∧ va ≠ vb) ∨ (q = true ∧ va = vb ∧ ha ≠ hh) ∨ (q = true ∧ va = vb ∧ ha = hh ∧ oa ≠ ob) ∨ (q = true ∧ va = vb ∧ ha = hh ∧ oa = ob ∧ LA ≠ LB) ∨ (q = true ∧ va = vb ∧ ha = hh ∧ oa = ob ∧ LA = LB) := by
    cases q
    · exact .inl rfl
    · right
      by_cases e1 : va = vb
      · right
        by_cases e2 : ha = hh
        · right
          by_cases e3 : oa = ob
          · right
            by_cases e4 : LA = LB
            · exact .inr ⟨rfl, e1, e2, e3, e4⟩
            · exact .inl ⟨rfl, e1, e2, e3, e4⟩
          · exact .inl ⟨rfl, e1, e2, e3⟩
        · exact .inl ⟨rfl, e1, e2⟩
      · exact .inl ⟨rfl, e1⟩
  obtain rfl | ⟨rfl, e1⟩ | ⟨rfl, rfl, e2⟩ | ⟨rfl, rfl, rfl, e3⟩ | ⟨rfl, rfl, rfl, rfl, e4⟩ | ⟨rfl, rfl, rfl, rfl, rfl⟩ := hway
  · obtain rfl : ans = false := by
      rw [← HAN.out]
      exact sameK_no (fun e => by injection e with e _; exact of_decide_eq_false HQ.out e)
    go_wp2_with fail
    go_ret
    exact ⟨rfl, hb0⟩
  · obtain rfl : ans = false := by
      rw [← HAN.out]
      exact sameK_no (fun e => by injection e with _ e _; exact e1 e)
    have t1 : (va != vb) = true := by simpa using e1
    clear e1
    go_wp2_with fail
    go_ret
    exact ⟨rfl, hb0⟩
  · obtain rfl : ans = false := by
      rw [← HAN.out]
      exact sameK_no (fun e => by injection e with _ _ e _; exact e2 e)
    have t1 : (va != va) = false := by simp
    have t2 : (ha != hh) = true := by simpa using e2
    clear e2
    go_wp2_with fail
    go_ret
    exact ⟨rfl, hb0⟩
  · obtain rfl : ans = false := by
      rw [← HAN.out]
      exact sameK_no (fun e => by injection e with _ _ _ e _; exact e3 e)
    have t1 : (va != va) = false := by simp
    have t2 : (ha != ha) = false := by simp
    have t3 : (oa != ob) = true := by simpa using e3
    clear e3
    go_wp2_with fail
    go_ret
    exact ⟨rfl, hb0⟩
  · obtain rfl : ans = false := by
      rw [← HAN.out]
      exact sameK_no (fun e => by injection e with _ _ _ _ e; rw [e] at HLA; exact e4 (HLA.out.symm.trans HLB.out))
    have t1 : (va != va) = false := by simp
    have t2 : (ha != ha) = false := by simp
    have t3 : (oa != oa) = false := by simp
    have t4 : ((LA : Int) != (LB : Int)) = true := by simp; omega
    clear e4
    go_wp2_with fail
    go_ret
    exact ⟨rfl, hb0⟩
  · have t1 : (va != va) = false := by simp
    have t2 : (ha != ha) = false := by simp
    have t3 : (oa != oa) = false := by simp
    have t4 : ((LA : Int) != (LA : Int)) = false := by simp
    go_wp2_with fail
    clear t1 t2 t3 t4 heq la lb a1 a2 a3 b1 b2 b3
    obtain ⟨_, hca1, hca2, hra⟩ := hta0.at_
    obtain ⟨_, hcb1, hcb2, hrb⟩ := htb0.at_
    rw [HLA.out] at hca1
    rw [HLB.out] at hcb1
    unfold maxLen at hca2 hcb2
    have HRA := hid hra
    have HRB := hid hrb
    clear hra hrb hta0 htb0
    go_loopw [5] (fun si wr => ∃ i : Nat, i ≤ LA ∧ si = .int .i64 i ∧ Hid (∀ j (h : j < ta.length) (h2 : j < tb.length), j < i → ta[j] = tb[j]) ∧ ∃ n, wr = w0.drewN n) (fun si _ => LA - (intOf si).toNat)
    case atStart => exact ⟨0, Nat.zero_le _, rfl, hid (fun j _ _ h => absurd h (by omega)), 0, rfl⟩
    case round =>
      obtain ⟨i, hi, rfl, HB, n, rfl⟩ := hrel
      by_cases hlt : i < LA
      · have hil : i < ta.length := by rw [HLA.out]; exact hlt
        have him : i < tb.length := by rw [HLB.out]; exact hlt
        obtain ⟨ba, oa', rfl, hba, hcla⟩ := HRA.out (by omega)
        obtain ⟨bb, ob', rfl, hbb, hclb⟩ := HRB.out (by omega)
        have l1 : ∀ k, loadTx (.pointer (some ⟨ba, oa' + i * 7, none⟩)) (w0.drewN k) = .ok (.value (txv ta[i])) (w0.drewN k) := fun k => loadTx_mid (hcla i hil)
        have l2 : ∀ k, loadTx (.pointer (some ⟨bb, ob' + i * 7, none⟩)) (w0.drewN k) = .ok (.value (txv tb[i])) (w0.drewN k) := fun k => loadTx_mid (hclb i him)
        have hI : (i : Int) < (LA : Int) := by omega
        have eqt : ∀ W, (Op.equalIn 10000 102 (txv ta[i]) (txv tb[i])).run Tryz.prog W = .ok (decide (ta[i] = tb[i])) W := fun W => eq_tx2 _ _ W
        clear hcla hclb
        obtain ⟨X, HX⟩ : ∃ C : Array Value, Hid ((tcl ta[i]).toArray = C) := ⟨_, hid rfl⟩
        obtain ⟨Y, HY⟩ : ∃ C : Array Value, Hid ((tcl tb[i]).toArray = C) := ⟨_, hid rfl⟩
        rw [txv_tcl, HX.out] at l1 eqt
        rw [txv_tcl, HY.out] at l2 eqt
        by_cases hxy : ta[i] = tb[i]
        · rw [decide_eq_true hxy] at eqt
          go_wp2_with fail
          go_quiet (fail)
          go_wp2
          go_roundw
          case rel =>
            refine ⟨i + 1, by omega, by go_num, hid (fun j h h2 hj => ?_), _, rfl⟩
            by_cases hji : j < i
            · exact HB.out j h h2 hji
            · obtain rfl : j = i := by omega
              exact hxy
          case measure => simp [intOf]; omega
        · rw [decide_eq_false hxy] at eqt
          go_wp2_with fail
          go_quiet (fail)
          go_wp2
          go_ret
          have e : ans = false := by
            rw [← HAN.out]
            exact sameK_no (fun e => by injection e with _ _ _ _ e; subst e; exact hxy rfl)
          subst e
          exact ⟨rfl, below_drewN (below_drewN hb0 _) _⟩
      · obtain rfl : i = LA := by omega
        go_wp2
        go_ret
        have e : ans = true := by
          rw [← HAN.out]
          refine sameK_iff.2 ?_
          have hp : pa = pb := of_decide_eq_true HQ.out
          have ht : ta = tb := List.ext_getElem (by rw [HLA.out, HLB.out]) fun j h h2 => HB.out j h h2 (by have := HLA.out; omega)
          rw [hp, ht]
        subst e
        exact ⟨rfl, below_drewN hb0 n⟩
end Go.Proofs.YtghophbabbaleaaGreatDoor
namespace Go.Proofs.YtghophbabbaleaaGreatDoor
set_option maxRecDepth 20000
open Go.RowKit
attribute [local go_sem ↓] exec_load_tx exec_load_bk exec_build_bk
def lightK (b : BkM) : Prop := ∀ t ∈ b.txs, t.key.length ≤ 1000000 ∧ t.val.length ≤ 1000000
theorem mayK_no {b : BkM} (hs : sameK b bkZ = false) {i : Nat} (hi : i < b.txs.length) (h : mayT b.txs[i] = false) : mayK b = false := by
  have ha : b.txs.all mayT = false := by
    rw [List.all_eq_false]
    exact ⟨_, List.getElem_mem hi, by simp [h]⟩
  unfold mayK
  rw [hs, ha]
  rfl
theorem mayK_rest {b : BkM} (hs : sameK b bkZ = false) (h : ∀ j (hj : j < b.txs.length), mayT b.txs[j] = true) : mayK b = numsK b := by
  have ha : b.txs.all mayT = true := by
    rw [List.all_eq_true]
    intro t ht
    obtain ⟨j, hj, rfl⟩ := List.getElem_of_mem ht
    exact h j hj
  unfold mayK
  rw [hs, ha]
  rfl
set_option maxHeartbeats 1600000 in
theorem refMay7_any (v : Value) (b : BkM) (w : World) (hv : BkV w v b) (hlk : lightK b) :
    Calls Tryz.prog 64 #[v] w fun e w' => e = .returned (.bool (mayK b)) ∧ Below w.heap.size w w' := by
  have HV := hid hv
  obtain ⟨s, rfl, hp, ht⟩ := hv
  have hb0 : Below w.heap.size w (w.alloc (.cells (bkc b s) 47)) := (Below.refl _ _).alloc (Nat.le_refl _) _
  have hA := BoxK.new w b s
  have ht0 := ht.below hb0
  obtain ⟨A, c, rfl⟩ := ht.shape
  obtain ⟨C, HC⟩ : ∃ C : Array Value, Hid (bkc b (.slice A b.txs.length c) = C) := ⟨_, hid rfl⟩
  have HSM : Hid (∀ W, Below w.heap.size w W → Calls Tryz.prog 100 #[.agg C, .agg (bkc bkZ (.slice none 0 0))] W fun e w' => e = .returned (.bool (sameK b bkZ)) ∧ Below W.heap.size W w') := hid (fun W h => by
    have := HV.out.below h
    rw [HC.out] at this
    exact refSame7_any _ _ b bkZ W this ⟨_, rfl, bkZ_par, Txs.nil W⟩)
  obtain ⟨Z, HZ⟩ : ∃ C : Array Value, Hid (bkc bkZ (.slice none 0 0) = C) := ⟨_, hid rfl⟩
  obtain ⟨ans, HAN⟩ : ∃ q : Bool, Hid (mayK b = q) := ⟨_, hid rfl⟩
  obtain ⟨sm, HS⟩ : ∃ q : Bool, Hid (sameK b bkZ = q) := ⟨_, hid rfl⟩
  rw [HZ.out, HS.out] at HSM
  have HLD : Hid (∀ W : World, BoxK W w.heap.size b (.slice A b.txs.length c) → loadK (.pointer (some ⟨w.heap.size, 0, none⟩)) W = .ok (.value (.agg C)) W) := hid (fun W h => by
    have := loadK_eq h hp
    rw [HC.out] at this
    exact this)
  have hbz : ∀ W, buildK W = .ok (.value (.agg Z)) W := fun W => by rw [← HZ.out]; exact buildK_eq W
  rw [HAN.out, HC.out]
  rw [HC.out] at hA hb0 ht0
  clear ht HV
  go_enter Tryz.func64, Tryz.ntmps64
  go_upto_region 1 with (fail)
  generalize (w.alloc (.cells C 47)) = w0 at *
  have hl0 := hA.lt
  have l0 := HLD.out w0 hA
  go_wp2_with fail
  refine (HSM.out w0 hb0).mono ?_
  rintro e w1 ⟨rfl, hb1⟩
  clear l0 hbz HZ HSM
  have hB1 := hb0.trans (hb1.mono hb0.size)
  have hA1 := hA.below hb1 hl0
  have ht1 := ht0.below hb1
  clear hA ht0
  cases sm with
  | true =>
    go_wp2_with fail
    go_ret
    have e : ans = true := by
      rw [← HAN.out]
      unfold mayK
      rw [HS.out]
      rfl
    subst e
    exact ⟨rfl, hB1⟩
  | false =>
    go_wp2_with fail
    obtain ⟨L, HL⟩ : ∃ n : Nat, Hid (b.txs.length = n) := ⟨_, hid rfl⟩
    have HA1 := hid hA1
    have HT1 := hid ht1
    have hlen := ht1.len
    rw [HL.out] at hlen
    unfold maxLen at hlen
    have hl1 := hA1.lt
    clear hA1 ht1 hl0
    rw [HL.out] at HA1 HT1
    go_loopw [3] (fun si wr => ∃ i : Nat, i ≤ L ∧ si = .int .i64 i ∧ Hid (∀ j (h : j < b.txs.length), j < i → mayT b.txs[j] = true) ∧ Below w1.heap.size w1 wr) (fun si _ => L - (intOf si).toNat)
    case atStart => exact ⟨0, Nat.zero_le _, rfl, hid (fun j _ h => absurd h (by omega)), Below.refl _ _⟩
    case round =>
      obtain ⟨i, hi, rfl, HB, hbr⟩ := hrel
      have hBr := hB1.trans (hbr.mono hB1.size)
      have hAr := HA1.out.below hbr hl1
      obtain ⟨k1, k2, k3, k4⟩ := hAr.cells hp
      clear hAr
      by_cases hlt : i < L
      · have hil : i < b.txs.length := by rw [HL.out]; exact hlt
        obtain ⟨_, hc1, hc2, hra⟩ := (HT1.out.below hbr).at_
        obtain ⟨ba, oa, rfl, hba, hcla⟩ := hra (by omega)
        have hI : (i : Int) < (L : Int) := by omega
        have l1 : loadTx (.pointer (some ⟨ba, oa + i * 7, none⟩)) wr = .ok (.value (txv b.txs[i])) wr := loadTx_mid (hcla i hil)
        have hkl := hlk _ (List.getElem_mem hil)
        have HMT : Hid (∀ W, Calls Tryz.prog 101 #[txv b.txs[i]] W fun e w' => e = .returned (.bool (mayT b.txs[i])) ∧ Below W.heap.size W w') := hid (fun W => refMay_any _ W hkl.1 hkl.2)
        obtain ⟨X, HX⟩ : ∃ C : Array Value, Hid ((tcl b.txs[i]).toArray = C) := ⟨_, hid rfl⟩
        obtain ⟨m, HM⟩ : ∃ q : Bool, Hid (mayT b.txs[i] = q) := ⟨_, hid rfl⟩
        rw [txv_tcl, HX.out] at l1
        rw [txv_tcl, HX.out, HM.out] at HMT
        clear hcla hkl hc1 hc2 k1 k2 k3
        go_wp2_with fail
        refine (HMT.out wr).mono ?_
        rintro e w2 ⟨rfl, hb2⟩
        have hbr2 := hbr.trans (hb2.mono hbr.size)
        have hB2 := hBr.trans (hb2.mono hBr.size)
        clear l1 k4
        cases m with
        | false =>
          go_wp2_with fail
          go_ret
          have e : ans = false := by
            rw [← HAN.out]
            exact mayK_no HS.out hil HM.out
          subst e
          exact ⟨rfl, hB2⟩
        | true =>
          go_wp2_with fail
          go_roundw
          case rel =>
            refine ⟨i + 1, by omega, by go_num, hid (fun j h hj => ?_), hbr2⟩
            by_cases hji : j < i
            · exact HB.out j h hji
            · obtain rfl : j = i := by omega
              exact HM.out
          case measure => simp [intOf]; omega
      · obtain rfl : i = L := by omega
        have HNK : Hid (ans = numsK b) := hid (by
          rw [← HAN.out]
          exact mayK_rest HS.out (fun j hj => HB.out j hj (by have := HL.out; omega)))
        clear HB
        obtain ⟨par, vi, he, bo, txs⟩ := b
        simp only at k1 k2 k3 HL
        go_wp2_with fail
        all_goals
          go_ret
          refine ⟨?_, hBr⟩
          refine congrArg (fun b => Ending.returned (Value.bool b)) ?_
          rw [HNK.out]
          unfold numsK
          simp only [HL.out]
        all_goals grind
end Go.Proofs.YtghophbabbaleaaGreatDoor
namespace Go.Proofs.YtghophbabbaleaaGreatDoor
set_option maxRecDepth 20000
open Go.RowKit
attribute [local go_sem ↓] exec_load_tx
theorem flat_snoc (L : List TxM) (i : Nat) (h : i < L.length) : ((L.take (i + 1)).map bytesT).flatten = ((L.take i).map bytesT).flatten ++ bytesT L[i] := by
  rw [List.take_succ_eq_append_getElem h]
  simp only [List.map_append, List.map_cons, List.map_nil, List.flatten_append, List.flatten_cons, List.flatten_nil, List.append_nil]
theorem flat_len (L : List TxM) (hm : ∀ t ∈ L, mayT t = true) : (L.map bytesT).flatten.length ≤ L.length * 300 := by
  induction L with
  | nil => simp
  | cons t L ih =>
    have h1 := bytesT_len (hm t (by simp))
    have h2 := ih (fun u hu => hm u (List.mem_cons_of_mem _ hu))
    simp only [List.map_cons, List.flatten_cons, List.length_append, List.length_cons]
    omega
set_option maxHeartbeats 3200000 in
theorem refPut7_any (v : Value) (b : BkM) (w : World) (hv : BkV w v b) (hm : mayK b = true) :
    Calls Tryz.prog 106 #[v] w fun e w' => ∃ x, e = .returned x ∧ Own w.heap.size w' x (bytesK b) ∧ Below w.heap.size w w' := by
  obtain ⟨s, rfl, hp, ht⟩ := hv
  obtain ⟨hall, h1, h2, h3, h4, h5, h6, h7⟩ := mayK_all hm
  have HALL := hid hall
  clear hall hm
  have hb0 : Below w.heap.size w (w.alloc (.cells (bkc b s) 47)) := (Below.refl _ _).alloc (Nat.le_refl _) _
  have hA := BoxK.new w b s
  have ht0 := ht.below hb0
  obtain ⟨A, c, rfl⟩ := ht.shape
  obtain ⟨L, HL⟩ : ∃ n : Nat, Hid (b.txs.length = n) := ⟨_, hid rfl⟩
  rw [HL.out] at h7
  obtain ⟨C, HC⟩ : ∃ C : Array Value, Hid (bkc b (.slice A b.txs.length c) = C) := ⟨_, hid rfl⟩
  obtain ⟨O, HO⟩ : ∃ O : List UInt8, Hid (bytesK b = O) := ⟨_, hid rfl⟩
  rw [HO.out]
  rw [HC.out] at hA hb0 ht0 ⊢
  rw [HL.out] at hA ht0 HC
  obtain ⟨par, vi, he, bo, txs⟩ := b
  simp only at h1 h2 h3 h4 h5 h6 hp HL HALL ht0
  obtain ⟨p, rfl⟩ := nat_of (i := vi) h1
  obtain ⟨q, rfl⟩ := nat_of (i := he) h3
  obtain ⟨o, rfl⟩ := nat_of (i := bo) h5
  have hp1 : IntKind.u64.wrap (p : Int) = (p : Int) := wrap_u64 _ (by omega) (by omega)
  have hq1 : IntKind.u64.wrap (q : Int) = (q : Int) := wrap_u64 _ (by omega) (by omega)
  have ho1 : IntKind.u8.wrap (o : Int) = (o : Int) := by rw [IntKind.wrap_u8']; omega
  have hL1 : IntKind.u8.wrap (L : Int) = (L : Int) := by rw [IntKind.wrap_u8']; omega
  have HNP := hid (fun w => refnum_any (p : Int) w (by omega) (by omega))
  have HNQ := hid (fun w => refnum_any (q : Int) w (by omega) (by omega))
  have HLP := hid (dg_len10 (n := p) (by omega))
  have HLQ := hid (dg_len10 (n := q) (by omega))
  have HDO : Hid (dg o = [UInt8.ofNat o]) := hid (dg_small (by omega))
  have HDL : Hid (dg L = [UInt8.ofNat L]) := hid (dg_small (by omega))
  have HYO : Hid ((o : Int) = ((UInt8.ofNat o).toNat : Int)) := hid (by rw [UInt8.toNat_ofNat']; omega)
  have HYL : Hid ((L : Int) = ((UInt8.ofNat L).toNat : Int)) := hid (by rw [UInt8.toNat_ofNat']; omega)
  have HBH := hid (fun w => refBytes7_any par w hp)
  have HPL := hid hp
  clear ht
  go_enter Tryz.func106, Tryz.ntmps106
  go_upto_region 1 with (fail)
  generalize (w.alloc (.cells C 47)) = w0 at *
  have hl0 := hA.lt
  have HX : Hid (∀ W : World, Below w0.heap.size w0 W → W.rangeAt w.heap.size 0 (bcells par) ∧ W.cell? ⟨w.heap.size, 32, none⟩ = some (.int .i64 (p : Int)) ∧ W.cell? ⟨w.heap.size, 33, none⟩ = some (.int .i64 (q : Int)) ∧ W.cell? ⟨w.heap.size, 34, none⟩ = some (.int .i64 (o : Int)) ∧ W.cell? ⟨w.heap.size, 35, none⟩ = some (.slice A L c) ∧ Txs W (.slice A L c) txs) := hid (fun W h => by
    have hW := hA.below h hl0
    exact ⟨hW.range, (hW.cells HPL.out).1, (hW.cells HPL.out).2.1, (hW.cells HPL.out).2.2.1, (hW.cells HPL.out).2.2.2, ht0.below h⟩)
  have hbd : Below w0.heap.size w0 w0.drew := (Below.refl _ _).drew
  have hu := under_hash
  have hsz : (Tryz.prog.info? 38).map (·.size) = some (bcells par).length := by rw [size_hash, bcells_length, hp]
  have hs0 := hb0.size
  clear hA ht0 hp
  go_region_held3 (fun W => W.rangeAt w.heap.size 0 (bcells par) ∧ W.cell? ⟨w.heap.size, 32, none⟩ = some (.int .i64 (p : Int)))
    (first
      | (refine ⟨(HX.out _ hbd).1, (HX.out _ hbd).2.1⟩)
      | (refine ⟨(HX.out _ hb5).1, (HX.out _ hb5).2.1⟩)
      | (refine ⟨(HX.out _ hb4).1, (HX.out _ hb4).2.1⟩)
      | (refine ⟨(HX.out _ hb3).1, (HX.out _ hb3).2.1⟩)
      | fail)
    (first
      | (refine step_append_byt (by rfl) (.tmp 7) (.tmp 11) (by rfl) (by rfl) (by rfl) (ho3.below hb4') ho4.byt (by have := HLP.out; have := HPL.out; rw [Int.toNat_natCast]; omega) hb4.size ?_; intro v5 w5 ho5 hg5 _; have hb5 := hb4.grown hg5 hb4.size (fun q hq => (World.ownsRow.lt ho3 q hq).1); clear hg5)
      | (go_at_call 129; (with_reducible refine (HNP.out w3).mono ?_); rintro e w4 ⟨v4, rfl, ho4, hb4'⟩; have hb4 := hb3.trans (hb4'.mono hb3.size))
      | (go_at_call 87; refine (HBH.out w0.drew).mono ?_; rintro e w3 ⟨v3, rfl, ho3, hb3'⟩; have hb3 := hbd.trans hb3')
      | fail)
  rw [Int.toNat_natCast] at ho4 ho5
  have ho5' : Own w0.heap.size w5 v5 (par ++ dg p) := ho5
  have HL5 := hid (show (par ++ dg p).length ≤ 42 by rw [List.length_append]; have := HLP.out; have := HPL.out; omega)
  clear ho3 ho4 ho5 hb3 hb4 hb3' hb4' HNP HBH hu hsz hbd hp1
  have k5 := (HX.out w5 hb5).2.2.1
  go_wp2_with fail
  refine (HNQ.out w5).mono ?_
  rintro e w6 ⟨v6, rfl, ho6, hb6'⟩
  rw [Int.toNat_natCast] at ho6
  have hb6 := hb5.trans (hb6'.mono hb5.size)
  have ho56 := ho5'.below hb6'
  clear k5 ho5' hb6' hq1
  have hl7 : (par ++ dg p).length + (dg q).length ≤ 140737488355328 := by have := HL5.out; have := HLQ.out; omega
  have HL7 := hid (show (par ++ dg p ++ dg q).length ≤ 52 by rw [List.length_append]; have := HL5.out; have := HLQ.out; omega)
  have HBY := hid (fun w => byt_pair w (o : Int) (L : Int) (UInt8.ofNat o) (UInt8.ofNat L) HYO.out HYL.out)
  have hl8 : (par ++ dg p ++ dg q).length + [UInt8.ofNat o, UInt8.ofNat L].length ≤ 140737488355328 := by have := HL7.out; simp only [List.length_cons, List.length_nil]; omega
  go_wp2_with (first
    | (at_builtin; refine wpList_append_byt rfl (.tmp 13) (.tmp 17) rfl rfl rfl ho56 ho6.byt hl7 hb6.size ?_; intro v7 w7 ho7 hg7 hv7; have hb7 := hb6.grown hg7 hb6.size (fun q hq => (World.ownsRow.lt ho56 q hq).1); have m3 := (HX.out w7 hb7).2.2.2.1; have m4 := (HX.out w7 hb7).2.2.2.2.1; clear hg7 hv7)
    | (at_builtin; refine wpList_append_byt rfl (.tmp 19) (.tmp 27) rfl rfl rfl (ho7.alloc _) (HBY.out w7) hl8 (Nat.le_trans hb7.size (al_le w7 _)) ?_; intro v8 w8 ho8 hg8 hv8; have hb8 := (hb7.alloc hb7.size _).grown hg8 (Nat.le_trans hb7.size (al_le w7 _)) (fun q hq => (World.ownsRow.lt ho7 q hq).1); clear hg8 hv8))
  clear ho6 ho56 hl7 hb5 hb6
  obtain ⟨P, HP⟩ : ∃ P : List UInt8, Hid (par ++ dg p ++ dg q ++ [UInt8.ofNat o, UInt8.ofNat L] = P) := ⟨_, hid rfl⟩
  rw [HP.out] at ho8
  have HPL2 : Hid (P.length ≤ 54) := hid (by rw [← HP.out, List.length_append]; have := HL7.out; simp only [List.length_cons, List.length_nil]; omega)
  clear ho7 hb7 m3 m4 HBY hl8 ho1 hL1
  have HTL : Hid ((txs.map bytesT).flatten.length ≤ L * 300) := hid (by have := flat_len txs HALL.out; rw [HL.out] at this; exact this)
  have HTK : Hid (∀ i, i ≤ L → ((txs.take i).map bytesT).flatten.length ≤ i * 300) := hid (fun i hi => by
    have := flat_len (txs.take i) (fun t ht => HALL.out t (List.mem_of_mem_take ht))
    rw [List.length_take, HL.out, Nat.min_eq_left hi] at this
    exact this)
  go_loopw [3, 4] (fun out si wr => ∃ i : Nat, i ≤ L ∧ si = .int .i64 i ∧ Own w0.heap.size wr out (P ++ ((txs.take i).map bytesT).flatten) ∧ Below w0.heap.size w0 wr) (fun _ si _ => L - (intOf si).toNat)
  case atStart => exact ⟨0, by omega, rfl, by rw [List.take_zero, List.map_nil, List.flatten_nil, List.append_nil]; exact ho8, hb8⟩
  case round =>
    obtain ⟨i, hi, rfl, hown, hB⟩ := hrel
    clear ho8 hb8
    obtain ⟨_, _, _, _, m4, m5⟩ := HX.out wr hB
    by_cases hlt : i < L
    · have hih : i < txs.length := by rw [HL.out]; exact hlt
      obtain ⟨ba, oa, rfl, hba, hcla⟩ := m5.at_.2.2.2 (by omega)
      have hI : (i : Int) < (L : Int) := by omega
      have l1 : loadTx (.pointer (some ⟨ba, oa + i * 7, none⟩)) wr = .ok (.value (txv txs[i])) wr := loadTx_mid (hcla i hih)
      have HBT : Hid (∀ W, Calls Tryz.prog 147 #[txv txs[i]] W fun e w' => ∃ x, e = .returned x ∧ Own W.heap.size w' x (bytesT txs[i]) ∧ Below W.heap.size W w') := hid (fun W => refBytes_any _ W (HALL.out _ (List.getElem_mem hih)))
      have hbl := bytesT_len (HALL.out _ (List.getElem_mem hih))
      obtain ⟨X, HX1⟩ : ∃ C : Array Value, Hid ((tcl txs[i]).toArray = C) := ⟨_, hid rfl⟩
      rw [txv_tcl, HX1.out] at l1 HBT
      have hfl := HTK.out i hi
      have hlen : (P ++ ((txs.take i).map bytesT).flatten).length + (bytesT txs[i]).length ≤ 140737488355328 := by rw [List.length_append]; have := HPL2.out; omega
      have HNEW := hid (flat_snoc txs i hih)
      clear hcla m5 hbl hfl
      go_wp2_with fail
      refine (HBT.out wr).mono ?_
      rintro e w9 ⟨v9, rfl, ho9, hb9'⟩
      have hb9 := hB.trans (hb9'.mono hB.size)
      have hown9 := hown.below hb9'
      clear l1 m4
      go_wp2_with (at_builtin; refine wpList_append_byt rfl (.tmp 36) (.tmp 42) rfl rfl rfl hown9 ho9.byt hlen hb9.size ?_; intro v10 w10 ho10 hg10 hv10; have hb10 := hb9.grown hg10 hb9.size (fun q hq => (World.ownsRow.lt hown9 q hq).1); clear hg10 hv10)
      rw [List.append_assoc, ← HNEW.out] at ho10
      go_roundw
      case rel => exact ⟨i + 1, by omega, by go_num, ho10, hb10⟩
      case measure => simp [intOf]; omega
    · obtain rfl : i = L := by omega
      clear m5
      go_wp2
      go_ret
      rw [List.take_of_length_le (by rw [HL.out]; exact Nat.le_refl _)] at hown
      refine ⟨_, rfl, ?_, hb0.trans (hB.mono hs0)⟩
      have e : P ++ (txs.map bytesT).flatten = O := by
        rw [← HO.out, ← HP.out]
        unfold bytesK
        simp only [Int.toNat_natCast, HDO.out, HL.out, HDL.out, List.append_assoc, List.cons_append, List.nil_append]
      rw [e] at hown
      exact hown.more hs0
end Go.Proofs.YtghophbabbaleaaGreatDoor
namespace Go.Proofs.YtghophbabbaleaaGreatDoor
set_option maxRecDepth 20000
open Go.RowKit
attribute [local go_sem ↓] exec_load_bk
def wordK : List UInt8 := [98, 108, 111, 99, 107]
theorem word_byt (w : World) : Byt (w.alloc (.cells #[.int .u8 98, .int .u8 108, .int .u8 111, .int .u8 99, .int .u8 107] 5 (5, 6))) (.slice (some ⟨w.heap.size, 0, none⟩) 5 5) wordK :=
  byt_row (l := wordK) (heap_alloc_new w _) (by decide)
theorem cells_byt {w : World} {a : Addr} {n c : Nat} {l : List UInt8} (h : Byt w (.slice (some a) n c) l) : ∀ j u, (bcells l)[j]? = some u → w.cell? (a.add j) = some u := fun j u hu => by
  obtain ⟨hj, rfl⟩ := bcells_get l j u hu
  obtain ⟨b, off, e, _, hc⟩ := h.at_.2.2.2 (by omega)
  injection e with e
  subst e
  rw [addr_add]
  exact hc j hj
noncomputable def hashK (b : BkM) (j : Nat) : UInt8 := if mayK b = true ∧ b.vi ≠ 0 then sumS (wordK ++ bytesK b) j else 0
theorem bytesK_len {b : BkM} (hp : b.par.length = 32) (hm : mayK b = true) : (bytesK b).length ≤ 3000 := by
  obtain ⟨hall, h1, h2, h3, h4, h5, h6, h7⟩ := mayK_all hm
  have hf := flat_len b.txs hall
  have e1 := dg_len10 (n := b.vi.toNat) (by omega)
  have e2 := dg_len10 (n := b.he.toNat) (by omega)
  have e3 := dg_len10 (n := b.bo.toNat) (by omega)
  have e4 := dg_len10 (n := b.txs.length) (by omega)
  unfold bytesK
  simp only [List.length_append]
  omega
theorem bytesK_pos {b : BkM} (hp : b.par.length = 32) : 0 < (bytesK b).length := by
  unfold bytesK
  simp only [List.length_append]
  omega
set_option maxHeartbeats 3200000 in
theorem refHash7_any (v : Value) (b : BkM) (w : World) (hv : BkV w v b) (hlk : lightK b) (hK : Kst 0 w) :
    Calls Tryz.prog 66 #[v] w fun e w' => e = .returned (.agg (fcells 32 fun j => bcell (hashK b j))) ∧ Below w.heap.size w w' := by
  have HV := hid hv
  obtain ⟨s, rfl, hp, ht⟩ := hv
  obtain ⟨A, c, rfl⟩ := ht.shape
  obtain ⟨C, HC⟩ : ∃ C : Array Value, Hid (bkc b (.slice A b.txs.length c) = C) := ⟨_, hid rfl⟩
  obtain ⟨D, HD⟩ : ∃ D : Nat → Value, Hid ((fun j => bcell (hashK b j)) = D) := ⟨_, hid rfl⟩
  have hD1 : ∀ i, i < 32 → (D i).oneCell' = true := by rw [← HD.out]; intro i _; rfl
  have hr0 := heap1 w (.cells C 47) (.cells (fcells 32 fun _ => bcell 0) 38)
  have hH0 : Blk ((w.alloc (.cells C 47)).alloc (.cells (fcells 32 fun _ => bcell 0) 38)) (w.heap.size + 1) 32 (fun _ => bcell 0) 38 := heap2 w (.cells C 47) _
  have hb0 : Below w.heap.size w ((w.alloc (.cells C 47)).alloc (.cells (fcells 32 fun _ => bcell 0) 38)) := ((Below.refl _ _).alloc (Nat.le_refl _) _).alloc (by simp) _
  have HKB := hid (fun W (h : Below w.heap.size w W) => (show Kst 0 W from hK.below h))
  have HMA : Hid (∀ W, Below w.heap.size w W → Calls Tryz.prog 64 #[.agg C] W fun e w' => e = .returned (.bool (mayK b)) ∧ Below W.heap.size W w') := hid (fun W h => by
    have := HV.out.below h
    rw [HC.out] at this
    exact refMay7_any _ b W this hlk)
  have HPT : Hid (mayK b = true → ∀ W, Below w.heap.size w W → Calls Tryz.prog 106 #[.agg C] W fun e w' => ∃ x, e = .returned x ∧ Own W.heap.size w' x (bytesK b) ∧ Below W.heap.size W w') := hid (fun hm W h => by
    have := HV.out.below h
    rw [HC.out] at this
    exact refPut7_any _ b W this hm)
  have HBX : Hid (∀ W : World, W.heap[w.heap.size]? = some (.cells C 47 (0, 0)) → W.cell? ⟨w.heap.size, 32, none⟩ = some (.int .i64 b.vi) ∧ loadK (.pointer (some ⟨w.heap.size, 0, none⟩)) W = .ok (.value (.agg C)) W) := hid (fun W h => by
    rw [← HC.out] at h ⊢
    exact ⟨(BoxK.cells (g := w.heap.size) (b := b) (s := .slice A b.txs.length c) h hp).1, loadK_eq h hp⟩)
  have HBL : Hid (mayK b = true → (bytesK b).length ≤ 3000) := hid (fun hm => bytesK_len hp hm)
  obtain ⟨m, HM⟩ : ∃ m : Bool, Hid (mayK b = m) := ⟨_, hid rfl⟩
  rw [HM.out] at HMA
  have HWO := hid word_byt
  have HPP := hid (bytesK_pos hp)
  rw [HC.out, HD.out]
  obtain ⟨n, HN⟩ : ∃ n : Int, Hid (b.vi = n) := ⟨_, hid rfl⟩
  rw [HN.out] at HBX
  clear HV ht hK hlk
  go_enter Tryz.func66, Tryz.ntmps66
  go_upto_region 1 with (refine wpList_alloc_arr arrH rfl rfl ?_)
  generalize ((w.alloc (.cells C 47)).alloc (.cells (fcells 32 fun _ => bcell 0) 38)) = w0 at *
  have hl0 := lt_of_block hr0
  have HR0 := hid hr0
  have l0 := (HBX.out w0 hr0).2
  clear hr0
  go_wp2_with fail
  refine (HMA.out w0 hb0).mono ?_
  rintro e w1 ⟨rfl, hb1⟩
  have hH1 := hH0.keep hb1
  have hB1 := hb0.trans (hb1.mono hb0.size)
  obtain ⟨k1, l1⟩ := HBX.out w1 ((hb1.block _ hl0).trans HR0.out)
  clear l0 hH0
  by_cases hgo : m = true ∧ n ≠ 0
  · obtain ⟨rfl, hn⟩ := hgo
    have hn0 : (n == 0) = false := by simpa using hn
    have HDM : Hid (D = fun j => bcell (sumS (wordK ++ bytesK b) j)) := hid (by
      rw [← HD.out]
      funext j
      unfold hashK
      rw [if_pos ⟨HM.out, by rw [HN.out]; exact hn⟩])
    clear hn
    have how := HWO.out w1
    have hb1w : Below w1.heap.size w1 (w1.alloc (.cells #[.int .u8 98, .int .u8 108, .int .u8 111, .int .u8 99, .int .u8 107] 5 (5, 6))) := (Below.refl _ _).alloc (Nat.le_refl _) _
    have l2 := (HBX.out _ ((hb1w.block _ (Nat.lt_of_lt_of_le hl0 hb1.size)).trans ((hb1.block _ hl0).trans HR0.out))).2
    have hcv := Go.Lib.run_convert_bytes_const (P := Tryz.prog) w1 29 5 #[.int .u8 98, .int .u8 108, .int .u8 111, .int .u8 99, .int .u8 107] 5 5 under_bytes Tryz.underlying5
    go_wp2_with fail
    have hBw := hB1.trans (hb1w.mono hB1.size)
    refine (HPT.out HM.out _ hBw).mono ?_
    rintro e w2 ⟨x, rfl, ho2, hb2⟩
    have hb2' := hb1w.trans (hb2.mono hb1w.size)
    have hB2 := hB1.trans (hb2'.mono hB1.size)
    have hH2 := hH1.keep hb2'
    have hlen : wordK.length + (bytesK b).length ≤ 140737488355328 := by have := HBL.out HM.out; simp only [wordK, List.length_cons, List.length_nil]; omega
    have hby2 := ho2.byt
    obtain ⟨A2, c2, rfl⟩ := hby2.shape
    obtain ⟨b2, o2, rfl, _, _⟩ := hby2.at_.2.2.2 HPP.out
    have HCO := hid (cells_byt (how.below hb2))
    have HCN := hid (cells_byt hby2)
    obtain ⟨O, HO⟩ : ∃ O : List UInt8, Hid (bytesK b = O) := ⟨_, hid rfl⟩
    have HOL : Hid (O.length ≤ 3000) := hid (by rw [← HO.out]; exact HBL.out HM.out)
    have HOP : Hid (0 < O.length) := hid (by rw [← HO.out]; exact HPP.out)
    rw [HO.out] at HCN HDM ⊢
    obtain ⟨xl, HXL⟩ : ∃ n : Nat, Hid (O.length = n) := ⟨_, hid rfl⟩
    have HB2 := hid hB2
    have HH2 := hid hH2
    have HLE := hid hb2'.size
    have HL1 := hid hb1.size
    have HL0 := hid hb0.size
    obtain ⟨i0, hi, hz0, hz1, hz2⟩ := info_parts info_u8
    rw [HXL.out]
    clear l1 l2 k1 hb2 how hb1w hBw hH1 hn0 hcv hlen hby2 ho2 hH2 hB2 hb2' hB1 hb1 hb0
    go_wp2_with (at_builtin; refine wpList_append_grows w2 rfl (.tmp 13) (.tmp 15) 29 rfl 5 i0 (.int .u8 0) 1 1 under_bytes hi hz0 hz1 hz2 rfl (by decide) (some ⟨w1.heap.size, 0, none⟩) 5 5 (bcells wordK) rfl (by simp) rfl (fun b hb => by injection hb with hb; subst hb; exact HCO.out) ⟨b2, o2, none⟩ xl c2 (bcells O) rfl (by rw [bcells_length, HXL.out, Nat.mul_one]) HCN.out (bcells_one _) (by have := HOP.out; have := HXL.out; omega) (by have := HOL.out; have := HXL.out; unfold maxLen; omega) (by have := HOL.out; have := HXL.out; omega) ?_; intro v3 w3 hown3 hg3)
    have hown : Own w2.heap.size w3 v3 (wordK ++ O) := by
      unfold Own
      rw [bcells_append, List.length_append, HXL.out]
      exact hown3
    have hb3 : Below w.heap.size w w3 := HB2.out.grown hg3 HB2.out.size (fun k hk => by cases hk)
    have hR3 := HH2.out.grown hg3 (fun e => by cases e)
    have hK3 := HKB.out _ hb3
    clear hown3 hg3 hi hz0 hz1 hz2
    refine (refOf_any v3 _ w3 hown.byt (by rw [List.length_append]; have := HOL.out; simp only [wordK, List.length_cons, List.length_nil]; omega) hK3).mono ?_
    rintro e w4 ⟨rfl, hb4⟩
    have hR4 := hR3.keep hb4
    have hb4' := hb3.trans (hb4.mono hb3.size)
    clear hown hb3 hR3 hK3 hb4
    go_wp2_with (refine wpList_store_arr arrH rfl _ _ rfl rfl rfl hR4 (fun _ _ => rfl) ?_; intro w9 hg9 hA9 hs9)
    refine bodyPost_ret (arrH.result rfl _ _ rfl hA9) rfl ⟨by rw [HDM.out], ?_⟩
    exact below_into hb4' (Nat.le_succ _) hg9 hb4'.size
  · have HDM : Hid (D = fun _ => bcell 0) := hid (by
      rw [← HD.out]
      funext j
      unfold hashK
      rw [if_neg (by rw [HM.out, HN.out]; exact hgo)])
    have hway : m = false ∨ (m = true ∧ n = 0) := by
      cases m
      · exact .inl rfl
      · right
        refine ⟨rfl, ?_⟩
        by_cases h : n = 0
        · exact h
        · exact absurd ⟨rfl, h⟩ hgo
    clear hgo l1
    obtain rfl | ⟨rfl, rfl⟩ := hway
    · go_wp2_with (first
        | (refine wpList_zero_arr arrH rfl rfl ?_)
        | (refine wpList_store_arr arrH rfl _ _ rfl rfl rfl hH1 (fun _ _ => rfl) ?_; intro wA hgA hAA hsA))
      refine bodyPost_ret (arrH.result rfl _ _ rfl hAA) rfl ⟨by rw [HDM.out], ?_⟩
      exact below_into hB1 (Nat.le_succ _) hgA hB1.size
    · go_wp2_with (first
        | (refine wpList_zero_arr arrH rfl rfl ?_)
        | (refine wpList_store_arr arrH rfl _ _ rfl rfl rfl hH1 (fun _ _ => rfl) ?_; intro wA hgA hAA hsA))
      refine bodyPost_ret (arrH.result rfl _ _ rfl hAA) rfl ⟨by rw [HDM.out], ?_⟩
      exact below_into hB1 (Nat.le_succ _) hgA hB1.size
end Go.Proofs.YtghophbabbaleaaGreatDoor
namespace Go.Proofs.YtghophbabbaleaaGreatDoor
set_option maxRecDepth 20000
open Go.RowKit
noncomputable def allocK (w : World) : Result Next := Sem.run Tryz.prog (execOp (fun _ => undef) { dst := none, op := .alloc 47, type := 0, pos := "", after := #[], guard := none }) w
theorem exec_alloc_bk (r : Operand → Value) (dst : Option Tmp) (ty : TypeId) (pos : String) (after : Array Edge) (guard : Option (Nat × Bool)) (w : World) :
    Sem.run Tryz.prog (execOp r { dst := dst, op := .alloc 47, type := ty, pos := pos, after := after, guard := guard }) w = allocK w := rfl
theorem allocK_eq (w : World) : allocK w = .ok (.value (.pointer (some ⟨w.heap.size, 0, none⟩))) (w.alloc (.cells (bkc bkZ (.slice none 0 0)) 47)) := by
  unfold allocK execOp
  simp only [Sem.run_bind, Instr.alloc, run_zero_bk, newVar, newRow, run_newObj_alloc, Sem.run_pure, Result.andThen_ok, Value.cells]
noncomputable def storeK (p v : Value) (w : World) : Result Next := Sem.run Tryz.prog (execOp (fun x => match x with
  | .tmp 0 => p
  | _ => v) { dst := none, op := .store 47 (.tmp 0) (.tmp 1), type := 0, pos := "", after := #[], guard := none }) w
theorem exec_store_bk (r : Operand → Value) (x y : Operand) (dst : Option Tmp) (ty : TypeId) (pos : String) (after : Array Edge) (guard : Option (Nat × Bool)) (w : World) :
    Sem.run Tryz.prog (execOp r { dst := dst, op := .store 47 x y, type := ty, pos := pos, after := after, guard := guard }) w = storeK (r x) (r y) w := rfl
def setK (w : World) (g : Nat) (C : Array Value) : World := w.setRow g C
theorem bkc_one {w : World} {b : BkM} {s : Value} (h : Txs w s b.txs) : (bkc b s).all (·.oneCell') = true := by
  obtain ⟨A, c, rfl, _⟩ := h
  unfold bkc
  refine all_oneCell_toArray ?_
  intro u hu
  rcases List.mem_append.1 hu with hu | hu
  · exact bcells_one _ u hu
  · simp only [List.mem_cons, List.not_mem_nil, or_false] at hu
    obtain rfl | rfl | rfl | rfl := hu <;> rfl
theorem storeK_eq {w : World} {g : Nat} {t : TypeId} {C0 C : Array Value} (hg : w.heap[g]? = some (.cells C0 t (0, 0))) (h0 : C0.size = 36) (hC : C.size = 36) (h1 : C.all (·.oneCell') = true) :
    storeK (.pointer (some ⟨g, 0, none⟩)) (.agg C) w = .ok .skip (setK w g C) := by
  have := run_storeVar_row (P := Tryz.prog) w g t 47 C0 C hg (by rw [size_bk, hC]) (by rw [h0, hC]) h1
  unfold storeK execOp
  simp only [Instr.storeAt, Instr.sureAddr, Sem.run_bind, Sem.run_pure, Result.andThen_ok, this]
  rfl
theorem setK_self {w : World} {g : Nat} {t : TypeId} {C : Array Value} {fr : Nat × Nat} (hg : w.heap[g]? = some (.cells C t fr)) : setK w g C = w := by
  have e : ∀ f : Obj → Obj, f (.cells C t fr) = .cells C t fr → w.heap.modify g f = w.heap := by
    intro f hf
    apply Array.ext_getElem?
    intro k
    rw [Array.getElem?_modify]
    by_cases h : g = k
    · subst h
      rw [if_pos rfl, hg]
      simp [hf]
    · rw [if_neg h]
  unfold setK World.setRow
  rw [e _ rfl]
end Go.Proofs.YtghophbabbaleaaGreatDoor
namespace Go.Proofs.YtghophbabbaleaaGreatDoor
set_option maxRecDepth 20000
open Go.RowKit
attribute [local go_sem ↓] exec_load_tx
def litK (b : BkM) : Bool := decide (b.txs.length ≤ 20) && b.txs.all litT
theorem litK_len {b : BkM} (h : litK b = true) : b.txs.length ≤ 20 := by
  unfold litK at h
  rw [Bool.and_eq_true] at h
  exact of_decide_eq_true h.1
theorem litK_light {b : BkM} (h : litK b = true) : ∀ t ∈ b.txs, t.key.length ≤ 100 ∧ t.val.length ≤ 400 := by
  unfold litK at h
  rw [Bool.and_eq_true] at h
  intro t ht
  have := List.all_eq_true.1 h.2 t ht
  unfold litT at this
  simpa using this
theorem lightK_of {b : BkM} (h : litK b = true) : lightK b := fun t ht => by
  have := litK_light h t ht
  omega
def BkCheckOk : Prop := ∀ (v : Value) (b : BkM) (w : World), BkV w v b → lightK b → Calls Tryz.prog 59 #[v] w fun e w' => e = .returned (.int .i64 (if mayK b = true then 0 else 1)) ∧ Below w.heap.size w w'
def BkHashOk : Prop := ∀ (v : Value) (b : BkM) (w : World), BkV w v b → lightK b → Kst 1 w → Calls Tryz.prog 63 #[v] w fun e w' => e = .returned (.agg (fcells 32 fun j => bcell (hashK b j))) ∧ Below w.heap.size w w'
def BkFirstOk : Prop := ∀ (w : World), Calls Tryz.prog 61 #[] w fun e w' => ∃ x, e = .returned x ∧ BkV w' x bkZ ∧ Below w.heap.size w w'
def BkSameOk : Prop := ∀ (va vb : Value) (a b : BkM) (w : World), BkV w va a → BkV w vb b → Calls Tryz.prog 60 #[va, vb] w fun e w' => e = .returned (.bool (sameK a b)) ∧ Below w.heap.size w w'
set_option maxHeartbeats 1600000 in
theorem light7_any (v : Value) (b : BkM) (w : World) (hv : BkV w v b) (hlk : ∀ t ∈ b.txs, t.key.length ≤ maxLen ∧ t.val.length ≤ maxLen) :
    Calls Tryz.prog 32 #[v] w fun e w' => e = .returned (.bool (litK b)) ∧ Below w.heap.size w w' := by
  obtain ⟨s, rfl, hp, ht⟩ := hv
  have hb0 : Below w.heap.size w (w.alloc (.cells (bkc b s) 47)) := (Below.refl _ _).alloc (Nat.le_refl _) _
  have hA := BoxK.new w b s
  have ht0 := ht.below hb0
  obtain ⟨A, c, rfl⟩ := ht.shape
  obtain ⟨C, HC⟩ : ∃ C : Array Value, Hid (bkc b (.slice A b.txs.length c) = C) := ⟨_, hid rfl⟩
  obtain ⟨L, HL⟩ : ∃ n : Nat, Hid (b.txs.length = n) := ⟨_, hid rfl⟩
  obtain ⟨ans, HAN⟩ : ∃ q : Bool, Hid (litK b = q) := ⟨_, hid rfl⟩
  have hlen := ht.len
  rw [HL.out] at hlen
  unfold maxLen at hlen
  rw [HAN.out, HC.out]
  rw [HC.out] at hA hb0 ht0
  rw [HL.out] at hA ht0
  have HLK := hid hlk
  clear ht hlk
  go_enter Tryz.func32, Tryz.ntmps32
  go_upto_region 1 with (fail)
  generalize (w.alloc (.cells C 47)) = w0 at *
  have HA := hid hA
  have HT := hid ht0
  have hl0 := hA.lt
  clear hA ht0
  go_wp2_with fail
  go_loopw [3] (fun si wr => ∃ i : Nat, i ≤ L ∧ i ≤ 21 ∧ si = .int .i64 i ∧ Hid (∀ j (h : j < b.txs.length), j < i → litT b.txs[j] = true) ∧ Below w0.heap.size w0 wr) (fun si _ => L - (intOf si).toNat)
  case atStart => exact ⟨0, Nat.zero_le _, Nat.zero_le _, rfl, hid (fun j _ h => absurd h (by omega)), Below.refl _ _⟩
  case round =>
    obtain ⟨i, hi, hi21, rfl, HB, hbr⟩ := hrel
    have hBr := hb0.trans (hbr.mono hb0.size)
    have k4 := ((HA.out.below hbr hl0).cells hp).2.2.2
    by_cases hlt : i < L ∧ i ≤ 20
    · obtain ⟨hlt, h20⟩ := hlt
      have hil : i < b.txs.length := by rw [HL.out]; exact hlt
      obtain ⟨ba, oa, rfl, hba, hcla⟩ := (HT.out.below hbr).at_.2.2.2 (by omega)
      have hI : (i : Int) < (L : Int) := by omega
      have hJ : (i : Int) ≤ 20 := by omega
      have l1 : loadTx (.pointer (some ⟨ba, oa + i * 7, none⟩)) wr = .ok (.value (txv b.txs[i])) wr := loadTx_mid (hcla i hil)
      have HMT : Hid (∀ W, Calls Tryz.prog 54 #[txv b.txs[i]] W fun e w' => e = .returned (.bool (litT b.txs[i])) ∧ Below W.heap.size W w') := hid (fun W => light6_any _ W (HLK.out _ (List.getElem_mem hil)).1 (HLK.out _ (List.getElem_mem hil)).2)
      obtain ⟨X, HX⟩ : ∃ C : Array Value, Hid ((tcl b.txs[i]).toArray = C) := ⟨_, hid rfl⟩
      obtain ⟨m, HM⟩ : ∃ q : Bool, Hid (litT b.txs[i] = q) := ⟨_, hid rfl⟩
      rw [txv_tcl, HX.out] at l1
      rw [txv_tcl, HX.out, HM.out] at HMT
      clear hcla
      go_wp2_with fail
      refine (HMT.out wr).mono ?_
      rintro e w2 ⟨rfl, hb2⟩
      have hbr2 := hbr.trans (hb2.mono hbr.size)
      have hB2 := hBr.trans (hb2.mono hBr.size)
      clear l1 k4
      cases m with
      | false =>
        go_wp2_with fail
        go_ret
        have e : ans = false := by
          rw [← HAN.out]
          unfold litK
          have : b.txs.all litT = false := by
            rw [List.all_eq_false]
            exact ⟨_, List.getElem_mem hil, by simp [HM.out]⟩
          rw [this, Bool.and_false]
        subst e
        exact ⟨rfl, hB2⟩
      | true =>
        go_wp2_with fail
        go_roundw
        case rel =>
          refine ⟨i + 1, by omega, by omega, by go_num, hid (fun j h hj => ?_), hbr2⟩
          by_cases hji : j < i
          · exact HB.out j h hji
          · obtain rfl : j = i := by omega
            exact HM.out
        case measure => simp [intOf]; omega
    · have HE : Hid (ans = decide ((L : Int) ≤ 20)) := hid (by
        rw [← HAN.out]
        unfold litK
        rw [HL.out]
        by_cases h20 : L ≤ 20
        · have hiL : i = L := by omega
          have : b.txs.all litT = true := by
            rw [List.all_eq_true]
            intro t ht
            obtain ⟨j, hj, rfl⟩ := List.getElem_of_mem ht
            exact HB.out j hj (by have := HL.out; omega)
          rw [this, decide_eq_true h20, decide_eq_true (by omega)]
          rfl
        · rw [decide_eq_false h20, decide_eq_false (by omega)]
          rfl)
      clear HB
      by_cases hI : (i : Int) < (L : Int)
      · have hJ : ¬ (i : Int) ≤ 20 := by omega
        have h20 : ¬ (L : Int) ≤ 20 := by omega
        obtain rfl : ans = false := by rw [HE.out]; exact decide_eq_false h20
        clear hlt
        go_wp2_with fail
        go_ret
        exact ⟨rfl, hBr⟩
      · clear hlt
        by_cases h20 : (L : Int) ≤ 20
        · obtain rfl : ans = true := by rw [HE.out]; exact decide_eq_true h20
          go_wp2_with fail
          go_ret
          exact ⟨rfl, hBr⟩
        · obtain rfl : ans = false := by rw [HE.out]; exact decide_eq_false h20
          go_wp2_with fail
          go_ret
          exact ⟨rfl, hBr⟩
end Go.Proofs.YtghophbabbaleaaGreatDoor
namespace Go.Proofs.YtghophbabbaleaaGreatDoor
set_option maxRecDepth 20000
open Go.RowKit
attribute [local go_sem ↓] exec_load_tx exec_load_hash
set_option maxHeartbeats 1600000 in
theorem equalT_any (va vb : Value) (ta tb : List TxM) (w0 : World) (hta : Txs w0 va ta) (htb : Txs w0 vb tb) :
    Calls Tryz.prog 94 #[va, vb] w0 fun e w' => e = .returned (.bool (decide (ta = tb))) ∧ Below w0.heap.size w0 w' := by
  obtain ⟨ans, HAN⟩ : ∃ q : Bool, Hid (decide (ta = tb) = q) := ⟨_, hid rfl⟩
  rw [HAN.out]
  obtain ⟨AA, ca, rfl⟩ := hta.shape
  obtain ⟨AB, cb, rfl⟩ := htb.shape
  obtain ⟨LA, HLA⟩ : ∃ n : Nat, Hid (ta.length = n) := ⟨_, hid rfl⟩
  obtain ⟨LB, HLB⟩ : ∃ n : Nat, Hid (tb.length = n) := ⟨_, hid rfl⟩
  have hlena := hta.len
  have hlenb := htb.len
  rw [HLA.out] at hta hlena ⊢
  rw [HLB.out] at htb hlenb ⊢
  unfold maxLen at hlena hlenb
  by_cases e4 : LA = LB
  · subst e4
    have t4 : ((LA : Int) != (LA : Int)) = false := by simp
    obtain ⟨_, hca1, hca2, hra⟩ := hta.at_
    obtain ⟨_, hcb1, hcb2, hrb⟩ := htb.at_
    rw [HLA.out] at hca1
    rw [HLB.out] at hcb1
    unfold maxLen at hca2 hcb2
    have HRA := hid hra
    have HRB := hid hrb
    clear hra hrb hta htb
    go_enter Tryz.func94, Tryz.ntmps94
    go_wp2_with fail
    clear t4
    go_loopw [13] (fun si wr => ∃ i : Nat, i ≤ LA ∧ si = .int .i64 i ∧ Hid (∀ j (h : j < ta.length) (h2 : j < tb.length), j < i → ta[j] = tb[j]) ∧ ∃ n, wr = w0.drewN n) (fun si _ => LA - (intOf si).toNat)
    case atStart => exact ⟨0, Nat.zero_le _, rfl, hid (fun j _ _ h => absurd h (by omega)), 0, rfl⟩
    case round =>
      obtain ⟨i, hi, rfl, HB, n, rfl⟩ := hrel
      by_cases hlt : i < LA
      · have hil : i < ta.length := by rw [HLA.out]; exact hlt
        have him : i < tb.length := by rw [HLB.out]; exact hlt
        obtain ⟨ba, oa', rfl, hba, hcla⟩ := HRA.out (by omega)
        obtain ⟨bb, ob', rfl, hbb, hclb⟩ := HRB.out (by omega)
        have l1 : ∀ k, loadTx (.pointer (some ⟨ba, oa' + i * 7, none⟩)) (w0.drewN k) = .ok (.value (txv ta[i])) (w0.drewN k) := fun k => loadTx_mid (hcla i hil)
        have l2 : ∀ k, loadTx (.pointer (some ⟨bb, ob' + i * 7, none⟩)) (w0.drewN k) = .ok (.value (txv tb[i])) (w0.drewN k) := fun k => loadTx_mid (hclb i him)
        have hI : (i : Int) < (LA : Int) := by omega
        have eqt : ∀ W, (Op.equalIn 10000 102 (txv ta[i]) (txv tb[i])).run Tryz.prog W = .ok (decide (ta[i] = tb[i])) W := fun W => eq_tx2 _ _ W
        clear hcla hclb
        obtain ⟨X, HX⟩ : ∃ C : Array Value, Hid ((tcl ta[i]).toArray = C) := ⟨_, hid rfl⟩
        obtain ⟨Y, HY⟩ : ∃ C : Array Value, Hid ((tcl tb[i]).toArray = C) := ⟨_, hid rfl⟩
        rw [txv_tcl, HX.out] at l1 eqt
        rw [txv_tcl, HY.out] at l2 eqt
        by_cases hxy : ta[i] = tb[i]
        · rw [decide_eq_true hxy] at eqt
          go_wp2_with fail
          go_quiet (fail)
          go_wp2
          go_roundw
          case rel =>
            refine ⟨i + 1, by omega, by go_num, hid (fun j h h2 hj => ?_), _, rfl⟩
            by_cases hji : j < i
            · exact HB.out j h h2 hji
            · obtain rfl : j = i := by omega
              exact hxy
          case measure => simp [intOf]; omega
        · rw [decide_eq_false hxy] at eqt
          go_wp2_with fail
          go_quiet (fail)
          go_wp2
          go_ret
          have e : ans = false := by
            rw [← HAN.out]
            exact decide_eq_false (fun e => by subst e; exact hxy rfl)
          subst e
          exact ⟨rfl, below_drewN (below_drewN (Below.refl _ _) _) _⟩
      · obtain rfl : i = LA := by omega
        go_wp2
        go_ret
        have e : ans = true := by
          rw [← HAN.out]
          exact decide_eq_true (List.ext_getElem (by rw [HLA.out, HLB.out]) fun j h h2 => HB.out j h h2 (by have := HLA.out; omega))
        subst e
        exact ⟨rfl, below_drewN (Below.refl _ _) n⟩
  · have t4 : ((LA : Int) != (LB : Int)) = true := by simp; omega
    obtain rfl : ans = false := by
      rw [← HAN.out]
      exact decide_eq_false (fun e => by rw [e] at HLA; exact e4 (HLA.out.symm.trans HLB.out))
    clear e4 hta htb
    go_enter Tryz.func94, Tryz.ntmps94
    go_wp2_with fail
    go_ret
    exact ⟨rfl, Below.refl _ _⟩
set_option maxHeartbeats 1600000 in
theorem bkSame_ok : BkSameOk := by
  intro va vb a b w hva hvb
  obtain ⟨sa, rfl, hpa, hta⟩ := hva
  obtain ⟨sb, rfl, hpb, htb⟩ := hvb
  have hb0 : Below w.heap.size w ((w.alloc (.cells (bkc a sa) 47)).alloc (.cells (bkc b sb) 47)) := ((Below.refl _ _).alloc (Nat.le_refl _) _).alloc (by simp) _
  have hA : BoxK ((w.alloc (.cells (bkc a sa) 47)).alloc (.cells (bkc b sb) 47)) w.heap.size a sa := (Below.heap_alloc _ _ _ (by simp)).trans (heap_alloc_new w _)
  have hB : BoxK ((w.alloc (.cells (bkc a sa) 47)).alloc (.cells (bkc b sb) 47)) (w.heap.size + 1) b sb := BoxK.two w _ b sb
  have hta0 := hta.below hb0
  have htb0 := htb.below hb0
  obtain ⟨CA, HCA⟩ : ∃ C : Array Value, Hid (bkc a sa = C) := ⟨_, hid rfl⟩
  obtain ⟨CB, HCB⟩ : ∃ C : Array Value, Hid (bkc b sb = C) := ⟨_, hid rfl⟩
  rw [HCA.out, HCB.out] at hA hB hb0 hta0 htb0 ⊢
  obtain ⟨ans, HAN⟩ : ∃ q : Bool, Hid (sameK a b = q) := ⟨_, hid rfl⟩
  rw [HAN.out]
  go_enter Tryz.func60, Tryz.ntmps60
  go_upto_region 1 with (fail)
  generalize ((w.alloc (.cells CA 47)).alloc (.cells CB 47)) = w0 at *
  clear HCA HCB hta htb
  obtain ⟨a1, a2, a3, a4⟩ := hA.cells hpa
  obtain ⟨b1, b2, b3, b4⟩ := hB.cells hpb
  have la := loadH_mid hA.range hpa
  have lb := loadH_mid hB.range hpb
  have heq := eq_hash a.par b.par hpa hpb w0
  clear hA hB
  obtain ⟨q, HQ⟩ : ∃ q : Bool, Hid (decide (a.par = b.par) = q) := ⟨_, hid rfl⟩
  rw [HQ.out] at heq
  obtain ⟨HA, HHA⟩ : ∃ C : Array Value, Hid (hcells a.par = C) := ⟨_, hid rfl⟩
  obtain ⟨HB, HHB⟩ : ∃ C : Array Value, Hid (hcells b.par = C) := ⟨_, hid rfl⟩
  rw [HHA.out] at la heq
  rw [HHB.out] at lb heq
  clear HHA HHB
  obtain ⟨pa, va, ha, oa, ta⟩ := a
  obtain ⟨pb, vb, hh, ob, tb⟩ := b
  simp only at a1 a2 a3 a4 b1 b2 b3 b4 hta0 htb0 HQ hpa hpb
  have hway : (q = false) ∨ (q = true ∧ va ≠ vb) ∨ (q = true ∧ va = vb ∧ ha ≠ hh) ∨ (q = true ∧ va = vb ∧ ha = hh ∧ oa ≠ ob) ∨ (q = true ∧ va = vb ∧ ha = hh ∧ oa = ob) := by
    cases q
    · exact .inl rfl
    · right
      by_cases e1 : va = vb
      · right
        by_cases e2 : ha = hh
        · right
          by_cases e3 : oa = ob
          · exact .inr ⟨rfl, e1, e2, e3⟩
          · exact .inl ⟨rfl, e1, e2, e3⟩
        · exact .inl ⟨rfl, e1, e2⟩
      · exact .inl ⟨rfl, e1⟩
  obtain rfl | ⟨rfl, e1⟩ | ⟨rfl, rfl, e2⟩ | ⟨rfl, rfl, rfl, e3⟩ | ⟨rfl, rfl, rfl, rfl⟩ := hway
  · obtain rfl : ans = false := by
      rw [← HAN.out]
      exact sameK_no (fun e => by injection e with e _; exact of_decide_eq_false HQ.out e)
    go_wp2_with fail
    go_ret
    exact ⟨rfl, hb0⟩
  · obtain rfl : ans = false := by
      rw [← HAN.out]
      exact sameK_no (fun e => by injection e with _ e _; exact e1 e)
    have t1 : (va == vb) = false := by simpa using e1
    clear e1
    go_wp2_with fail
    go_ret
    exact ⟨rfl, hb0⟩
  · obtain rfl : ans = false := by
      rw [← HAN.out]
      exact sameK_no (fun e => by injection e with _ _ e _; exact e2 e)
    have t1 : (va == va) = true := by simp
    have t2 : (ha == hh) = false := by simpa using e2
    clear e2
    go_wp2_with fail
    go_ret
    exact ⟨rfl, hb0⟩
  · obtain rfl : ans = false := by
      rw [← HAN.out]
      exact sameK_no (fun e => by injection e with _ _ _ e _; exact e3 e)
    have t1 : (va == va) = true := by simp
    have t2 : (ha == ha) = true := by simp
    have t3 : (oa == ob) = false := by simpa using e3
    clear e3
    go_wp2_with fail
    go_ret
    exact ⟨rfl, hb0⟩
  · have t1 : (va == va) = true := by simp
    have t2 : (ha == ha) = true := by simp
    have t3 : (oa == oa) = true := by simp
    obtain ⟨A, c, rfl⟩ := hta0.shape
    obtain ⟨A', c', rfl⟩ := htb0.shape
    go_wp2_with fail
    refine (equalT_any _ _ ta tb w0 hta0 htb0).mono ?_
    rintro e w1 ⟨rfl, hb1⟩
    clear t1 t2 t3 heq la lb a1 a2 a3 a4 b1 b2 b3 b4
    have e : decide (ta = tb) = ans := by
      rw [← HAN.out]
      have hp : pa = pb := of_decide_eq_true HQ.out
      subst hp
      by_cases h : ta = tb
      · subst h
        rw [sameK_self]
        exact decide_eq_true rfl
      · rw [sameK_no (fun e => by injection e with _ _ _ _ e; exact h e)]
        exact decide_eq_false h
    rw [e]
    go_wp2_with fail
    go_ret
    exact ⟨rfl, hb0.trans (hb1.mono hb0.size)⟩
theorem results_k1 {fn : Func} {p : Tmp} (h : fn.results = #[.cell p 47]) (tmps : Array Value) (w : World) (g : Nat) (t : TypeId) (xs : Array Value)
    (hp : tmps.getD p undef = .pointer (some ⟨g, 0, none⟩)) (h1 : w.heap[g]? = some (.cells xs t (0, 0))) (hx : xs.size = 36) : (results fn tmps).run Tryz.prog w = .ok (.agg xs) w :=
  results_cell_row h tmps w g t xs (0, 0) _ hp h1 under_bk rfl (by rw [size_bk, hx])
attribute [local go_sem ↓] exec_load_bk exec_build_bk exec_alloc_bk exec_store_bk
set_option maxHeartbeats 1600000 in
theorem bkFirst_ok : BkFirstOk := by
  intro w
  obtain ⟨Z, HZ⟩ : ∃ C : Array Value, Hid (bkc bkZ (.slice none 0 0) = C) := ⟨_, hid rfl⟩
  have hbz : ∀ W, buildK W = .ok (.value (.agg Z)) W := fun W => by rw [← HZ.out]; exact buildK_eq W
  have hal : ∀ W, allocK W = .ok (.value (.pointer (some ⟨W.heap.size, 0, none⟩))) (W.alloc (.cells Z 47)) := fun W => by rw [← HZ.out]; exact allocK_eq W
  have hsz : Z.size = 36 := by rw [← HZ.out]; exact bkc_size _ bkZ_par
  have hz1 : Z.all (·.oneCell') = true := by rw [← HZ.out]; exact bkc_one (w := w) (b := bkZ) (Txs.nil w)
  have hg := heap_alloc_new w (.cells Z 47)
  have hs0 : storeK (.pointer (some ⟨w.heap.size, 0, none⟩)) (.agg Z) (w.alloc (.cells Z 47)) = .ok .skip (w.alloc (.cells Z 47)) := by
    rw [storeK_eq hg hsz hsz hz1, setK_self hg]
  have HG := hid hg
  have HSZ := hid hsz
  clear hg hsz hz1
  go_enter Tryz.func61, Tryz.ntmps61
  go_wp2_with fail
  refine bodyPost_ret (results_k1 rfl _ _ _ _ _ rfl HG.out HSZ.out) rfl ⟨_, rfl, ?_, (Below.refl _ _).alloc (Nat.le_refl _) _⟩
  exact ⟨.slice none 0 0, by rw [HZ.out], bkZ_par, Txs.nil _⟩
set_option maxHeartbeats 1600000 in
theorem bkIsFirst_ok (v : Value) (b : BkM) (w : World) (hv : BkV w v b) :
    Calls Tryz.prog 92 #[v] w fun e w' => e = .returned (.bool (sameK b bkZ)) ∧ Below w.heap.size w w' := by
  have HV := hid (fun W (h : Below w.heap.size w W) => hv.below h)
  obtain ⟨s, rfl, hp, ht⟩ := hv
  obtain ⟨C, HC⟩ : ∃ C : Array Value, Hid (bkc b s = C) := ⟨_, hid rfl⟩
  rw [HC.out] at HV ⊢
  have HSZ : Hid (C.size = 36) := hid (by rw [← HC.out]; exact bkc_size _ hp)
  have hr0 := heap_alloc_new w (.cells C 47)
  have hb0 : Below w.heap.size w (w.alloc (.cells C 47)) := (Below.refl _ _).alloc (Nat.le_refl _) _
  have hldA : ∀ W : World, W.heap[w.heap.size]? = some (.cells C 47 (0, 0)) → loadK (.pointer (some ⟨w.heap.size, 0, none⟩)) W = .ok (.value (.agg C)) W := fun W h => loadK_row h HSZ.out
  obtain ⟨ans, HAN⟩ : ∃ q : Bool, Hid (sameK b bkZ = q) := ⟨_, hid rfl⟩
  have HSM : Hid (∀ x W, Below w.heap.size w W → BkV W x bkZ → Calls Tryz.prog 60 #[.agg C, x] W fun e w' => e = .returned (.bool ans) ∧ Below W.heap.size W w') := hid (fun x W h hx => by
    have := bkSame_ok _ x b bkZ W (HV.out W h) hx
    rw [HAN.out] at this
    exact this)
  rw [HAN.out]
  have HFI : Hid (∀ W : World, Calls Tryz.prog 61 #[] W fun e w' => ∃ x, e = .returned x ∧ BkV w' x bkZ ∧ Below W.heap.size W w') := hid (fun W => bkFirst_ok W)
  clear ht
  go_enter Tryz.func92, Tryz.ntmps92
  go_upto_region 1 with (fail)
  generalize (w.alloc (.cells C 47)) = w0 at *
  have hl0 := lt_of_block hr0
  have hbd : Below w0.heap.size w0 w0.drew := (Below.refl _ _).drew
  have HR : Hid (∀ W : World, Below w0.heap.size w0 W → W.heap[w.heap.size]? = some (.cells C 47 (0, 0))) := hid (fun W h => (h.block _ hl0).trans hr0)
  have HB : Hid (∀ W : World, Below w0.heap.size w0 W → Below w.heap.size w W) := hid (fun W h => hb0.trans (h.mono hb0.size))
  clear hr0 hl0
  go_region_held3 (fun W => W.heap[w.heap.size]? = some (.cells C 47 (0, 0)))
    (first
      | (refine HR.out _ hbd)
      | (refine HR.out _ hb2)
      | (refine HR.out _ hb1)
      | fail)
    (first
      | (go_at_call 60; (with_reducible refine (HSM.out x1 _ (HB.out _ hb1) hx1).mono ?_); rintro e w2 ⟨rfl, hb2'⟩; have hb2 := hb1.trans (hb2'.mono hb1.size))
      | (go_at_call 61; (with_reducible refine (HFI.out _).mono ?_); rintro e w1 ⟨x1, rfl, hx1, hb1'⟩; have hb1 := hbd.trans (hb1'.mono hbd.size))
      | fail)
  go_wp2_with fail
  go_ret
  exact ⟨rfl, HB.out _ hb2⟩
end Go.Proofs.YtghophbabbaleaaGreatDoor
