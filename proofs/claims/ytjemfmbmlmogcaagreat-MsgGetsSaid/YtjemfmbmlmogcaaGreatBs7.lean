/-
  HashMid HashZero BkWords BkSame BkMay BkPut BkOwn: what each of them says stands at its head.
-/
import Derived.Deep.RegionHeld3
import Derived.Test.YtjemfmbmlmogcaaGreatBs6
import Derived.Test.YtjemfmbmlmogcaaGreatBs3
import Derived.Test.YtjemfmbmlmogcaaGreatBs2
import Derived.Test.YtjemfmbmlmogcaaGreatBs4
import Derived.BigQuiet
import Derived.Deep.DeepCutAuto
import Derived.Deep.QuietTactic
import Derived.LoopTactic
import Derived.Outline
namespace Go.Proofs.YtjemfmbmlmogcaaGreat
set_option maxRecDepth 20000
open Go.RowKit
theorem loadH_mid {w : World} {g o : Nat} {h : List UInt8} (hr : w.rangeAt g o (bcells h)) (hl : h.length = 32) : loadH (.pointer (some ⟨g, o, none⟩)) w = .ok (.value (.agg (hcells h))) w := by
  have := run_loadAt_mid (P := Tryz.prog) w g o 23 (bcells h) _ hr under_hash rfl (by rw [size_hash, bcells_length, hl])
  unfold loadH execOp
  simp only [Sem.run_bind, this, Result.andThen_ok, Sem.run_pure]
  rfl
def putAt (C : Array Value) (o : Nat) : List Value → Array Value
  | [] => C
  | v :: r => putAt (C.setIfInBounds o v) (o + 1) r
theorem setCells_row {g : Nat} {t : TypeId} : ∀ (vs : List Value) (o : Nat) (w : World) (C : Array Value), w.heap[g]? = some (.cells C t (0, 0)) → (w.setCells g o vs).heap[g]? = some (.cells (putAt C o vs) t (0, 0))
  | [], _, _, _, h => h
  | v :: r, o, w, C, h => setCells_row r (o + 1) (w.setCell ⟨g, o, none⟩ v) (C.setIfInBounds o v) (set_blk h o v)
theorem putAt_mid : ∀ (vs pre old post : List Value), old.length = vs.length → putAt (pre ++ (old ++ post)).toArray pre.length vs = (pre ++ (vs ++ post)).toArray
  | [], pre, old, post, h => by
    obtain rfl : old = [] := List.eq_nil_of_length_eq_zero h
    rfl
  | v :: r, pre, o :: old, post, h => by
    have e : (pre ++ (o :: old ++ post)).toArray.setIfInBounds pre.length v = ((pre ++ [v]) ++ (old ++ post)).toArray := by
      simp
    have e2 : pre.length + 1 = (pre ++ [v]).length := by simp
    unfold putAt
    rw [e, e2, putAt_mid r (pre ++ [v]) old post (by simpa using h)]
    simp
  | _ :: _, _, [], _, h => by cases h
theorem wpList_store_midh {ops : Array Oper} {rest : List Oper} {o : Oper} {a : Act} {w : World} {Q : Exit → Act → World → Prop} (hgd : o.guard = none) (x y : Operand) (ho : o.op = .store 23 x y)
    {g k : Nat} {t : TypeId} {pre old post : List Value} {h : List UInt8} (hx : a.eval x = .pointer (some ⟨g, k, none⟩)) (hy : a.eval y = .agg (hcells h)) (hg : w.heap[g]? = some (.cells (pre ++ (old ++ post)).toArray t (0, 0))) (hk : k = pre.length) (hold : old.length = 32) (hl : h.length = 32)
    (hh : ∀ w', w.grownBy w' (some g) → w'.heap[g]? = some (.cells (pre ++ (bcells h ++ post)).toArray t (0, 0)) → w'.heap.size = w.heap.size → wpList Tryz.prog ops Q rest (a.put o.dst undef) w') : wpList Tryz.prog ops Q (o :: rest) a w := by
  subst hk
  refine wpList_store_mid hgd _ x y ho (b := g) (o := pre.length) (cells := hcells h) hx hy (fun j hj => ⟨?_, free_blk hg _⟩) (by rw [size_hash, hcells_size, hl]) (hcells_one _) ?_
  · rw [hcells_size, hl] at hj
    rw [cell_blk hg, List.getElem?_toArray, List.getElem?_append_right (by omega), Nat.add_sub_cancel_left, List.getElem?_append_left (by omega), List.getElem?_eq_getElem (by omega)]
    rfl
  · rw [hcells_list]
    refine hh _ (grown_setCells g _ _ _) ?_ (setCells_size g _ _ _)
    have := setCells_row (bcells h) pre.length w _ hg
    rw [putAt_mid (bcells h) pre old post (by rw [bcells_length, hl, hold])] at this
    exact this
end Go.Proofs.YtjemfmbmlmogcaaGreat
namespace Go.Proofs.YtjemfmbmlmogcaaGreat
set_option maxRecDepth 20000
open Go.RowKit
noncomputable def buildH (w : World) : Result Next := Sem.run Tryz.prog (execOp (fun _ => undef) { dst := none, op := .build 23 #[], type := 0, pos := "", after := #[], guard := none }) w
theorem exec_build_hash (r : Operand → Value) (dst : Option Tmp) (ty : TypeId) (pos : String) (after : Array Edge) (guard : Option (Nat × Bool)) (w : World) :
    Sem.run Tryz.prog (execOp r { dst := dst, op := .build 23 #[], type := ty, pos := pos, after := after, guard := guard }) w = buildH w := by
  unfold buildH execOp
  simp
theorem buildH_eq (w : World) : buildH w = .ok (.value (.agg (fcells 32 fun _ => bcell 0))) w := by
  unfold buildH
  go_simp
  rfl
theorem fcells_nought : fcells 32 (fun _ => bcell 0) = hcells (List.replicate 32 0) := by kernel_rfl
end Go.Proofs.YtjemfmbmlmogcaaGreat
namespace Go.Proofs.YtjemfmbmlmogcaaGreat
set_option maxRecDepth 20000
open Go.RowKit
def tcl (t : TxM) : List Value := [.int .i64 t.fr, .int .i64 t.no, .int .i64 t.ki, .int .i64 t.to, .int .i64 t.am, .string (sb t.key), .string (sb t.val)]
theorem txv_tcl (t : TxM) : txv t = .agg (tcl t).toArray := rfl
theorem tcl_length (t : TxM) : (tcl t).length = 7 := rfl
def TxsA (w : World) (A : Option Addr) (L : List TxM) : Prop :=
  0 < L.length → ∃ b off, A = some ⟨b, off, none⟩ ∧ b < w.heap.size ∧ ∀ j (h : j < L.length), w.rangeAt b (off + j * 7) (tcl L[j])
def Txs (w : World) (v : Value) (L : List TxM) : Prop := ∃ A c, v = .slice A L.length c ∧ L.length ≤ c ∧ c ≤ maxLen ∧ TxsA w A L
section
variable {w w' : World} {A : Option Addr} {v : Value} {L : List TxM}
theorem range_keep {b o : Nat} {l : List Value} (h : w.rangeAt b o l) (hk : w'.heap[b]? = w.heap[b]?) : w'.rangeAt b o l := fun j u hu => (World.cell?_of_block hk).trans (h j u hu)
theorem TxsA.nil (w : World) (A : Option Addr) : TxsA w A [] := fun h => absurd h (by simp)
theorem TxsA.below (h : TxsA w A L) (hb : Below w.heap.size w w') : TxsA w' A L := fun hl => by
  obtain ⟨b, off, e, hlt, hc⟩ := h hl
  exact ⟨b, off, e, Nat.lt_of_lt_of_le hlt hb.size, fun j hj => range_keep (hc j hj) (hb.block b hlt)⟩
theorem Txs.nil (w : World) : Txs w (.slice none 0 0) [] := ⟨none, 0, rfl, Nat.le_refl _, Nat.zero_le _, TxsA.nil _ _⟩
theorem Txs.below (h : Txs w v L) (hb : Below w.heap.size w w') : Txs w' v L := by
  obtain ⟨A, c, rfl, h1, h2, h3⟩ := h
  exact ⟨A, c, rfl, h1, h2, h3.below hb⟩
theorem Txs.len (h : Txs w v L) : L.length ≤ maxLen := by
  obtain ⟨_, _, _, h1, h2, _⟩ := h
  omega
theorem Txs.shape (h : Txs w v L) : ∃ A c, v = .slice A L.length c := by
  obtain ⟨A, c, e, _⟩ := h
  exact ⟨A, c, e⟩
theorem Txs.at_ {n c : Nat} (h : Txs w (.slice A n c) L) : n = L.length ∧ L.length ≤ c ∧ c ≤ maxLen ∧ TxsA w A L := by
  obtain ⟨A', c', e, h1, h2, h3⟩ := h
  injection e with e1 e2 e3
  subst e1 e2 e3
  exact ⟨rfl, h1, h2, h3⟩
end
def bkc (b : BkM) (s : Value) : Array Value := (bcells b.par ++ [.int .i64 b.vi, .int .i64 b.he, .int .i64 b.bo, s]).toArray
theorem bkc_size {b : BkM} (s : Value) (h : b.par.length = 32) : (bkc b s).size = 36 := by simp [bkc, bcells, h]
def BkV (w : World) (v : Value) (b : BkM) : Prop := ∃ s, v = .agg (bkc b s) ∧ b.par.length = 32 ∧ Txs w s b.txs
theorem BkV.below {w w' : World} {v : Value} {b : BkM} (h : BkV w v b) (hb : Below w.heap.size w w') : BkV w' v b := by
  obtain ⟨s, rfl, h1, h2⟩ := h
  exact ⟨s, rfl, h1, h2.below hb⟩
def BoxK (w : World) (g : Nat) (b : BkM) (s : Value) : Prop := w.heap[g]? = some (.cells (bkc b s) 34 (0, 0))
section
variable {w w' : World} {g : Nat} {b : BkM} {s : Value}
theorem BoxK.new (w : World) (b : BkM) (s : Value) : BoxK (w.alloc (.cells (bkc b s) 34)) w.heap.size b s := heap_alloc_new w _
theorem BoxK.two (w : World) (o : Obj) (b : BkM) (s : Value) : BoxK ((w.alloc o).alloc (.cells (bkc b s) 34)) (w.heap.size + 1) b s := by
  have := BoxK.new (w.alloc o) b s
  rwa [show (w.alloc o).heap.size = w.heap.size + 1 from by simp] at this
theorem BoxK.lt (h : BoxK w g b s) : g < w.heap.size := lt_of_block h
theorem BoxK.keep (h : BoxK w g b s) (hk : w'.heap[g]? = w.heap[g]?) : BoxK w' g b s := hk.trans h
theorem BoxK.below {B : Nat} (h : BoxK w g b s) (hb : Below B w w') (hg : g < B) : BoxK w' g b s := (hb.block g hg).trans h
theorem bkc_tail (h : b.par.length = 32) : (bkc b s)[32]? = some (.int .i64 b.vi) ∧ (bkc b s)[33]? = some (.int .i64 b.he) ∧ (bkc b s)[34]? = some (.int .i64 b.bo) ∧ (bkc b s)[35]? = some s := by
  have hb : (bcells b.par).length = 32 := by rw [bcells_length, h]
  unfold bkc
  simp only [List.getElem?_toArray]
  refine ⟨?_, ?_, ?_, ?_⟩ <;> rw [List.getElem?_append_right (by omega), hb] <;> rfl
theorem BoxK.cells (h : BoxK w g b s) (h32 : b.par.length = 32) : w.cell? ⟨g, 32, none⟩ = some (.int .i64 b.vi) ∧ w.cell? ⟨g, 33, none⟩ = some (.int .i64 b.he) ∧ w.cell? ⟨g, 34, none⟩ = some (.int .i64 b.bo) ∧ w.cell? ⟨g, 35, none⟩ = some s := by
  obtain ⟨k1, k2, k3, k4⟩ := bkc_tail (s := s) h32
  exact ⟨(cell_of_row w g 32 _ _ (0, 0) h).trans k1, (cell_of_row w g 33 _ _ (0, 0) h).trans k2, (cell_of_row w g 34 _ _ (0, 0) h).trans k3, (cell_of_row w g 35 _ _ (0, 0) h).trans k4⟩
theorem BoxK.free (h : BoxK w g b s) (i : Nat) : w.frozen? ⟨g, i, none⟩ = false := by
  unfold BoxK at h
  simp [World.frozen?, h]
theorem BoxK.range (h : BoxK w g b s) : w.rangeAt g 0 (bcells b.par) := fun j u hu => by
  rw [Nat.zero_add, cell_of_row w g j _ _ (0, 0) h]
  unfold bkc
  rw [List.getElem?_toArray, List.getElem?_append_left (List.getElem?_eq_some_iff.1 hu).1]
  exact hu
end
theorem loadTx_mid {w : World} {g o : Nat} {t : TxM} (hr : w.rangeAt g o (tcl t)) : loadTx (.pointer (some ⟨g, o, none⟩)) w = .ok (.value (txv t)) w := by
  have := run_loadAt_mid (P := Tryz.prog) w g o 36 (tcl t) _ hr under_txs rfl (by rw [show (Tryz.prog.info? 36).map (·.size) = some 7 from by kernel_rfl, tcl_length])
  unfold loadTx execOp
  simp only [Sem.run_bind, this, Result.andThen_ok, Sem.run_pure]
  rfl
noncomputable def loadK (v : Value) (w : World) : Result Next := Sem.run Tryz.prog (execOp (fun _ => v) { dst := none, op := .load 34 (.tmp 0), type := 0, pos := "", after := #[], guard := none }) w
theorem exec_load_bk (r : Operand → Value) (x : Operand) (dst : Option Tmp) (ty : TypeId) (pos : String) (after : Array Edge) (guard : Option (Nat × Bool)) (w : World) :
    Sem.run Tryz.prog (execOp r { dst := dst, op := .load 34 x, type := ty, pos := pos, after := after, guard := guard }) w = loadK (r x) w := rfl
theorem under_bk : Tryz.prog.underlying 34 = some (.struct (Tryz.prog.fieldsOf 34)) := by kernel_rfl
theorem size_bk : (Tryz.prog.info? 34).map (·.size) = some 36 := by kernel_rfl
theorem loadK_row {w : World} {g : Nat} {C : Array Value} {T : TypeId} (h : w.heap[g]? = some (.cells C T (0, 0))) (hs : C.size = 36) : loadK (.pointer (some ⟨g, 0, none⟩)) w = .ok (.value (.agg C)) w := by
  have := run_loadAt_mid (P := Tryz.prog) w g 0 34 C.toList _ (fun j v hj => by rw [Nat.zero_add, cell_blk h j]; simpa using hj) under_bk rfl (by rw [size_bk]; simp [hs])
  simp only [Array.toArray_toList] at this
  unfold loadK execOp
  simp only [Sem.run_bind, this, Result.andThen_ok, Sem.run_pure]
theorem loadK_eq {w : World} {g : Nat} {b : BkM} {s : Value} (h : BoxK w g b s) (h32 : b.par.length = 32) : loadK (.pointer (some ⟨g, 0, none⟩)) w = .ok (.value (.agg (bkc b s))) w := loadK_row h (bkc_size s h32)
noncomputable def buildK (w : World) : Result Next := Sem.run Tryz.prog (execOp (fun _ => undef) { dst := none, op := .build 34 #[], type := 0, pos := "", after := #[], guard := none }) w
theorem exec_build_bk (r : Operand → Value) (dst : Option Tmp) (ty : TypeId) (pos : String) (after : Array Edge) (guard : Option (Nat × Bool)) (w : World) :
    Sem.run Tryz.prog (execOp r { dst := dst, op := .build 34 #[], type := ty, pos := pos, after := after, guard := guard }) w = buildK w := by
  unfold buildK execOp
  simp
theorem zero_bk : (Tryz.prog.info? 34).bind (·.zero) = some (.agg (bkc bkZ (.slice none 0 0))) := by kernel_rfl
theorem run_zero_bk (w : World) : (zeroValue 34).run Tryz.prog w = .ok (.agg (bkc bkZ (.slice none 0 0))) w := by
  have h := zero_bk
  cases hq : Tryz.prog.info? 34 with
  | none => rw [hq] at h; cases h
  | some i =>
    rw [hq] at h
    have hz : i.zero = some (.agg (bkc bkZ (.slice none 0 0))) := h
    simp [zeroValue, typeInfo, hq, hz]
theorem buildK_eq (w : World) : buildK w = .ok (.value (.agg (bkc bkZ (.slice none 0 0)))) w := by
  unfold buildK
  go_simp
  rfl
theorem bkZ_par : bkZ.par.length = 32 := by simp [bkZ]
theorem eq_tx2 (a b : TxM) (w : World) : (Op.equalIn 10000 36 (txv a) (txv b)).run Tryz.prog w = .ok (decide (a = b)) w := by
  obtain ⟨a1, a2, a3, a4, a5, a6, a7⟩ := a
  obtain ⟨b1, b2, b3, b4, b5, b6, b7⟩ := b
  unfold txv
  go_simp
  simp only [sb_toList]
  (repeat' split) <;> simp_all
end Go.Proofs.YtjemfmbmlmogcaaGreat
namespace Go.Proofs.YtjemfmbmlmogcaaGreat
set_option maxRecDepth 20000
open Go.RowKit
attribute [local go_sem ↓] exec_load_tx exec_load_hash
set_option maxHeartbeats 1600000 in
theorem refSame7_any (va vb : Value) (a b : BkM) (w : World) (hva : BkV w va a) (hvb : BkV w vb b) :
    Calls Tryz.prog 34 #[va, vb] w fun e w' => e = .returned (.bool (sameK a b)) ∧ Below w.heap.size w w' := by
  obtain ⟨sa, rfl, hpa, hta⟩ := hva
  obtain ⟨sb, rfl, hpb, htb⟩ := hvb
  have hb0 : Below w.heap.size w ((w.alloc (.cells (bkc a sa) 34)).alloc (.cells (bkc b sb) 34)) := ((Below.refl _ _).alloc (Nat.le_refl _) _).alloc (by simp) _
  have hA : BoxK ((w.alloc (.cells (bkc a sa) 34)).alloc (.cells (bkc b sb) 34)) w.heap.size a sa := (Below.heap_alloc _ _ _ (by simp)).trans (heap_alloc_new w _)
  have hB : BoxK ((w.alloc (.cells (bkc a sa) 34)).alloc (.cells (bkc b sb) 34)) (w.heap.size + 1) b sb := BoxK.two w _ b sb
  have hta0 := hta.below hb0
  have htb0 := htb.below hb0
  obtain ⟨AA, ca, rfl⟩ := hta.shape
  obtain ⟨AB, cb, rfl⟩ := htb.shape
  obtain ⟨CA, HCA⟩ : ∃ C : Array Value, Hid (bkc a (.slice AA a.txs.length ca) = C) := ⟨_, hid rfl⟩
  obtain ⟨CB, HCB⟩ : ∃ C : Array Value, Hid (bkc b (.slice AB b.txs.length cb) = C) := ⟨_, hid rfl⟩
  rw [HCA.out, HCB.out] at hA hB hb0 hta0 htb0 ⊢
  obtain ⟨ans, HAN⟩ : ∃ q : Bool, Hid (sameK a b = q) := ⟨_, hid rfl⟩
  rw [HAN.out]
  go_enter Tryz.func34, Tryz.ntmps34
  go_upto_region 1 with (fail)
  generalize ((w.alloc (.cells CA 34)).alloc (.cells CB 34)) = w0 at *
  clear HCA HCB hta htb
  obtain ⟨a1, a2, a3, a4⟩ := hA.cells hpa
  obtain ⟨b1, b2, b3, b4⟩ := hB.cells hpb
  have la := loadH_mid hA.range hpa
  have lb := loadH_mid hB.range hpb
  have heq := eq_hash a.par b.par hpa hpb w0
  clear hA hB
  obtain ⟨q, HQ⟩ : ∃ q : Bool, Hid (decide (a.par = b.par) = q) := ⟨_, hid rfl⟩
  rw [HQ.out] at heq
  obtain ⟨HA, HHA⟩ : ∃ C : Array Value, Hid (hcells a.par = C) := ⟨_, hid rfl⟩
  obtain ⟨HB, HHB⟩ : ∃ C : Array Value, Hid (hcells b.par = C) := ⟨_, hid rfl⟩
  rw [HHA.out] at la heq
  rw [HHB.out] at lb heq
  clear HHA HHB
  obtain ⟨LA, HLA⟩ : ∃ n : Nat, Hid (a.txs.length = n) := ⟨_, hid rfl⟩
  obtain ⟨LB, HLB⟩ : ∃ n : Nat, Hid (b.txs.length = n) := ⟨_, hid rfl⟩
  rw [HLA.out] at a4 hta0
  rw [HLB.out] at b4 htb0
  have hlena := hta0.len
  have hlenb := htb0.len
  rw [HLA.out] at hlena
  rw [HLB.out] at hlenb
  unfold maxLen at hlena hlenb
  obtain ⟨pa, va, ha, oa, ta⟩ := a
  obtain ⟨pb, vb, hh, ob, tb⟩ := b
  simp only at a1 a2 a3 a4 b1 b2 b3 b4 hta0 htb0 HQ HLA HLB hpa hpb
  have hway : (q = false) ∨ (q = true ∧ va ≠ vb) ∨ (q = true ∧ va = vb ∧ ha ≠ hh) ∨ (q = true ∧ va = vb ∧ ha = hh ∧ oa ≠ ob) ∨ (q = true ∧ va = vb ∧ ha = hh ∧ oa = ob ∧ LA ≠ LB) ∨ (q = true ∧ va = vb ∧ ha = hh ∧ oa = ob ∧ LA = LB) := by
    cases q
    · exact .inl rfl
    · right
      by_cases e1 : va = vb
      · right
        by_cases e2 : ha = hh
        · right
          by_cases e3 : oa = ob
          · right
            by_cases e4 : LA = LB
            · exact .inr ⟨rfl, e1, e2, e3, e4⟩
            · exact .inl ⟨rfl, e1, e2, e3, e4⟩
          · exact .inl ⟨rfl, e1, e2, e3⟩
        · exact .inl ⟨rfl, e1, e2⟩
      · exact .inl ⟨rfl, e1⟩
  obtain rfl | ⟨rfl, e1⟩ | ⟨rfl, rfl, e2⟩ | ⟨rfl, rfl, rfl, e3⟩ | ⟨rfl, rfl, rfl, rfl, e4⟩ | ⟨rfl, rfl, rfl, rfl, rfl⟩ := hway
  · obtain rfl : ans = false := by
      rw [← HAN.out]
      exact sameK_no (fun e => by injection e with e _; exact of_decide_eq_false HQ.out e)
    go_wp2_with fail
    go_ret
    exact ⟨rfl, hb0⟩
  · obtain rfl : ans = false := by
      rw [← HAN.out]
      exact sameK_no (fun e => by injection e with _ e _; exact e1 e)
    have t1 : (va != vb) = true := by simpa using e1
    clear e1
    go_wp2_with fail
    go_ret
    exact ⟨rfl, hb0⟩
  · obtain rfl : ans = false := by
      rw [← HAN.out]
      exact sameK_no (fun e => by injection e with _ _ e _; exact e2 e)
    have t1 : (va != va) = false := by simp
    have t2 : (ha != hh) = true := by simpa using e2
    clear e2
    go_wp2_with fail
    go_ret
    exact ⟨rfl, hb0⟩
  · obtain rfl : ans = false := by
      rw [← HAN.out]
      exact sameK_no (fun e => by injection e with _ _ _ e _; exact e3 e)
    have t1 : (va != va) = false := by simp
    have t2 : (ha != ha) = false := by simp
    have t3 : (oa != ob) = true := by simpa using e3
    clear e3
    go_wp2_with fail
    go_ret
    exact ⟨rfl, hb0⟩
  · obtain rfl : ans = false := by
      rw [← HAN.out]
      exact sameK_no (fun e => by injection e with _ _ _ _ e; rw [e] at HLA; exact e4 (HLA.out.symm.trans HLB.out))
    have t1 : (va != va) = false := by simp
    have t2 : (ha != ha) = false := by simp
    have t3 : (oa != oa) = false := by simp
    have t4 : ((LA : Int) != (LB : Int)) = true := by simp; omega
    clear e4
    go_wp2_with fail
    go_ret
    exact ⟨rfl, hb0⟩
  · have t1 : (va != va) = false := by simp
    have t2 : (ha != ha) = false := by simp
    have t3 : (oa != oa) = false := by simp
    have t4 : ((LA : Int) != (LA : Int)) = false := by simp
    go_wp2_with fail
    clear t1 t2 t3 t4 heq la lb a1 a2 a3 b1 b2 b3
    obtain ⟨_, hca1, hca2, hra⟩ := hta0.at_
    obtain ⟨_, hcb1, hcb2, hrb⟩ := htb0.at_
    rw [HLA.out] at hca1
    rw [HLB.out] at hcb1
    unfold maxLen at hca2 hcb2
    have HRA := hid hra
    have HRB := hid hrb
    clear hra hrb hta0 htb0
    go_loopw [5] (fun si wr => ∃ i : Nat, i ≤ LA ∧ si = .int .i64 i ∧ Hid (∀ j (h : j < ta.length) (h2 : j < tb.length), j < i → ta[j] = tb[j]) ∧ ∃ n, wr = w0.drewN n) (fun si _ => LA - (intOf si).toNat)
    case atStart => exact ⟨0, Nat.zero_le _, rfl, hid (fun j _ _ h => absurd h (by omega)), 0, rfl⟩
    case round =>
      obtain ⟨i, hi, rfl, HB, n, rfl⟩ := hrel
      by_cases hlt : i < LA
      · have hil : i < ta.length := by rw [HLA.out]; exact hlt
        have him : i < tb.length := by rw [HLB.out]; exact hlt
        obtain ⟨ba, oa', rfl, hba, hcla⟩ := HRA.out (by omega)
        obtain ⟨bb, ob', rfl, hbb, hclb⟩ := HRB.out (by omega)
        have l1 : ∀ k, loadTx (.pointer (some ⟨ba, oa' + i * 7, none⟩)) (w0.drewN k) = .ok (.value (txv ta[i])) (w0.drewN k) := fun k => loadTx_mid (hcla i hil)
        have l2 : ∀ k, loadTx (.pointer (some ⟨bb, ob' + i * 7, none⟩)) (w0.drewN k) = .ok (.value (txv tb[i])) (w0.drewN k) := fun k => loadTx_mid (hclb i him)
        have hI : (i : Int) < (LA : Int) := by omega
        have eqt : ∀ W, (Op.equalIn 10000 36 (txv ta[i]) (txv tb[i])).run Tryz.prog W = .ok (decide (ta[i] = tb[i])) W := fun W => eq_tx2 _ _ W
        clear hcla hclb
        obtain ⟨X, HX⟩ : ∃ C : Array Value, Hid ((tcl ta[i]).toArray = C) := ⟨_, hid rfl⟩
        obtain ⟨Y, HY⟩ : ∃ C : Array Value, Hid ((tcl tb[i]).toArray = C) := ⟨_, hid rfl⟩
        rw [txv_tcl, HX.out] at l1 eqt
        rw [txv_tcl, HY.out] at l2 eqt
        by_cases hxy : ta[i] = tb[i]
        · rw [decide_eq_true hxy] at eqt
          go_wp2_with fail
          go_quiet (fail)
          go_wp2
          go_roundw
          case rel =>
            refine ⟨i + 1, by omega, by go_num, hid (fun j h h2 hj => ?_), _, rfl⟩
            by_cases hji : j < i
            · exact HB.out j h h2 hji
            · obtain rfl : j = i := by omega
              exact hxy
          case measure => simp [intOf]; omega
        · rw [decide_eq_false hxy] at eqt
          go_wp2_with fail
          go_quiet (fail)
          go_wp2
          go_ret
          have e : ans = false := by
            rw [← HAN.out]
            exact sameK_no (fun e => by injection e with _ _ _ _ e; subst e; exact hxy rfl)
          subst e
          exact ⟨rfl, below_drewN (below_drewN hb0 _) _⟩
      · obtain rfl : i = LA := by omega
        go_wp2
        go_ret
        have e : ans = true := by
          rw [← HAN.out]
          refine sameK_iff.2 ?_
          have hp : pa = pb := of_decide_eq_true HQ.out
          have ht : ta = tb := List.ext_getElem (by rw [HLA.out, HLB.out]) fun j h h2 => HB.out j h h2 (by have := HLA.out; omega)
          rw [hp, ht]
        subst e
        exact ⟨rfl, below_drewN hb0 n⟩
end Go.Proofs.YtjemfmbmlmogcaaGreat
namespace Go.Proofs.YtjemfmbmlmogcaaGreat
set_option maxRecDepth 20000
open Go.RowKit
attribute [local go_sem ↓] exec_load_tx exec_load_bk exec_build_bk
def lightK (b : BkM) : Prop := ∀ t ∈ b.txs, t.key.length ≤ 1000000 ∧ t.val.length ≤ 1000000
theorem mayK_no {b : BkM} (hs : sameK b bkZ = false) {i : Nat} (hi : i < b.txs.length) (h : mayT b.txs[i] = false) : mayK b = false := by
  have ha : b.txs.all mayT = false := by
    rw [List.all_eq_false]
    exact ⟨_, List.getElem_mem hi, by simp [h]⟩
  unfold mayK
  rw [hs, ha]
  rfl
theorem mayK_rest {b : BkM} (hs : sameK b bkZ = false) (h : ∀ j (hj : j < b.txs.length), mayT b.txs[j] = true) : mayK b = numsK b := by
  have ha : b.txs.all mayT = true := by
    rw [List.all_eq_true]
    intro t ht
    obtain ⟨j, hj, rfl⟩ := List.getElem_of_mem ht
    exact h j hj
  unfold mayK
  rw [hs, ha]
  rfl
set_option maxHeartbeats 1600000 in
theorem refMay7_any (v : Value) (b : BkM) (w : World) (hv : BkV w v b) (hlk : lightK b) :
    Calls Tryz.prog 22 #[v] w fun e w' => e = .returned (.bool (mayK b)) ∧ Below w.heap.size w w' := by
  have HV := hid hv
  obtain ⟨s, rfl, hp, ht⟩ := hv
  have hb0 : Below w.heap.size w (w.alloc (.cells (bkc b s) 34)) := (Below.refl _ _).alloc (Nat.le_refl _) _
  have hA := BoxK.new w b s
  have ht0 := ht.below hb0
  obtain ⟨A, c, rfl⟩ := ht.shape
  obtain ⟨C, HC⟩ : ∃ C : Array Value, Hid (bkc b (.slice A b.txs.length c) = C) := ⟨_, hid rfl⟩
  have HSM : Hid (∀ W, Below w.heap.size w W → Calls Tryz.prog 34 #[.agg C, .agg (bkc bkZ (.slice none 0 0))] W fun e w' => e = .returned (.bool (sameK b bkZ)) ∧ Below W.heap.size W w') := hid (fun W h => by
    have := HV.out.below h
    rw [HC.out] at this
    exact refSame7_any _ _ b bkZ W this ⟨_, rfl, bkZ_par, Txs.nil W⟩)
  obtain ⟨Z, HZ⟩ : ∃ C : Array Value, Hid (bkc bkZ (.slice none 0 0) = C) := ⟨_, hid rfl⟩
  obtain ⟨ans, HAN⟩ : ∃ q : Bool, Hid (mayK b = q) := ⟨_, hid rfl⟩
  obtain ⟨sm, HS⟩ : ∃ q : Bool, Hid (sameK b bkZ = q) := ⟨_, hid rfl⟩
  rw [HZ.out, HS.out] at HSM
  have HLD : Hid (∀ W : World, BoxK W w.heap.size b (.slice A b.txs.length c) → loadK (.pointer (some ⟨w.heap.size, 0, none⟩)) W = .ok (.value (.agg C)) W) := hid (fun W h => by
    have := loadK_eq h hp
    rw [HC.out] at this
    exact this)
  have hbz : ∀ W, buildK W = .ok (.value (.agg Z)) W := fun W => by rw [← HZ.out]; exact buildK_eq W
  rw [HAN.out, HC.out]
  rw [HC.out] at hA hb0 ht0
  clear ht HV
  go_enter Tryz.func22, Tryz.ntmps22
  go_upto_region 1 with (fail)
  generalize (w.alloc (.cells C 34)) = w0 at *
  have hl0 := hA.lt
  have l0 := HLD.out w0 hA
  go_wp2_with fail
  refine (HSM.out w0 hb0).mono ?_
  rintro e w1 ⟨rfl, hb1⟩
  clear l0 hbz HZ HSM
  have hB1 := hb0.trans (hb1.mono hb0.size)
  have hA1 := hA.below hb1 hl0
  have ht1 := ht0.below hb1
  clear hA ht0
  cases sm with
  | true =>
    go_wp2_with fail
    go_ret
    have e : ans = true := by
      rw [← HAN.out]
      unfold mayK
      rw [HS.out]
      rfl
    subst e
    exact ⟨rfl, hB1⟩
  | false =>
    go_wp2_with fail
    obtain ⟨L, HL⟩ : ∃ n : Nat, Hid (b.txs.length = n) := ⟨_, hid rfl⟩
    have HA1 := hid hA1
    have HT1 := hid ht1
    have hlen := ht1.len
    rw [HL.out] at hlen
    unfold maxLen at hlen
    have hl1 := hA1.lt
    clear hA1 ht1 hl0
    rw [HL.out] at HA1 HT1
    go_loopw [3] (fun si wr => ∃ i : Nat, i ≤ L ∧ si = .int .i64 i ∧ Hid (∀ j (h : j < b.txs.length), j < i → mayT b.txs[j] = true) ∧ Below w1.heap.size w1 wr) (fun si _ => L - (intOf si).toNat)
    case atStart => exact ⟨0, Nat.zero_le _, rfl, hid (fun j _ h => absurd h (by omega)), Below.refl _ _⟩
    case round =>
      obtain ⟨i, hi, rfl, HB, hbr⟩ := hrel
      have hBr := hB1.trans (hbr.mono hB1.size)
      have hAr := HA1.out.below hbr hl1
      obtain ⟨k1, k2, k3, k4⟩ := hAr.cells hp
      clear hAr
      by_cases hlt : i < L
      · have hil : i < b.txs.length := by rw [HL.out]; exact hlt
        obtain ⟨_, hc1, hc2, hra⟩ := (HT1.out.below hbr).at_
        obtain ⟨ba, oa, rfl, hba, hcla⟩ := hra (by omega)
        have hI : (i : Int) < (L : Int) := by omega
        have l1 : loadTx (.pointer (some ⟨ba, oa + i * 7, none⟩)) wr = .ok (.value (txv b.txs[i])) wr := loadTx_mid (hcla i hil)
        have hkl := hlk _ (List.getElem_mem hil)
        have HMT : Hid (∀ W, Calls Tryz.prog 25 #[txv b.txs[i]] W fun e w' => e = .returned (.bool (mayT b.txs[i])) ∧ Below W.heap.size W w') := hid (fun W => refMay_any _ W hkl.1 hkl.2)
        obtain ⟨X, HX⟩ : ∃ C : Array Value, Hid ((tcl b.txs[i]).toArray = C) := ⟨_, hid rfl⟩
        obtain ⟨m, HM⟩ : ∃ q : Bool, Hid (mayT b.txs[i] = q) := ⟨_, hid rfl⟩
        rw [txv_tcl, HX.out] at l1
        rw [txv_tcl, HX.out, HM.out] at HMT
        clear hcla hkl hc1 hc2 k1 k2 k3
        go_wp2_with fail
        refine (HMT.out wr).mono ?_
        rintro e w2 ⟨rfl, hb2⟩
        have hbr2 := hbr.trans (hb2.mono hbr.size)
        have hB2 := hBr.trans (hb2.mono hBr.size)
        clear l1 k4
        cases m with
        | false =>
          go_wp2_with fail
          go_ret
          have e : ans = false := by
            rw [← HAN.out]
            exact mayK_no HS.out hil HM.out
          subst e
          exact ⟨rfl, hB2⟩
        | true =>
          go_wp2_with fail
          go_roundw
          case rel =>
            refine ⟨i + 1, by omega, by go_num, hid (fun j h hj => ?_), hbr2⟩
            by_cases hji : j < i
            · exact HB.out j h hji
            · obtain rfl : j = i := by omega
              exact HM.out
          case measure => simp [intOf]; omega
      · obtain rfl : i = L := by omega
        have HNK : Hid (ans = numsK b) := hid (by
          rw [← HAN.out]
          exact mayK_rest HS.out (fun j hj => HB.out j hj (by have := HL.out; omega)))
        clear HB
        obtain ⟨par, vi, he, bo, txs⟩ := b
        simp only at k1 k2 k3 HL
        go_wp2_with fail
        all_goals
          go_ret
          refine ⟨?_, hBr⟩
          refine congrArg (fun b => Ending.returned (Value.bool b)) ?_
          rw [HNK.out]
          unfold numsK
          simp only [HL.out]
        all_goals grind
end Go.Proofs.YtjemfmbmlmogcaaGreat
namespace Go.Proofs.YtjemfmbmlmogcaaGreat
set_option maxRecDepth 20000
open Go.RowKit
attribute [local go_sem ↓] exec_load_tx
theorem flat_snoc (L : List TxM) (i : Nat) (h : i < L.length) : ((L.take (i + 1)).map bytesT).flatten = ((L.take i).map bytesT).flatten ++ bytesT L[i] := by
  rw [List.take_succ_eq_append_getElem h]
  simp only [List.map_append, List.map_cons, List.map_nil, List.flatten_append, List.flatten_cons, List.flatten_nil, List.append_nil]
theorem flat_len (L : List TxM) (hm : ∀ t ∈ L, mayT t = true) : (L.map bytesT).flatten.length ≤ L.length * 300 := by
  induction L with
  | nil => simp
  | cons t L ih =>
    have h1 := bytesT_len (hm t (by simp))
    have h2 := ih (fun u hu => hm u (List.mem_cons_of_mem _ hu))
    simp only [List.map_cons, List.flatten_cons, List.length_append, List.length_cons]
    omega
set_option maxHeartbeats 3200000 in
theorem refPut7_any (v : Value) (b : BkM) (w : World) (hv : BkV w v b) (hm : mayK b = true) :
    Calls Tryz.prog 44 #[v] w fun e w' => ∃ x, e = .returned x ∧ Own w.heap.size w' x (bytesK b) ∧ Below w.heap.size w w' := by
  obtain ⟨s, rfl, hp, ht⟩ := hv
  obtain ⟨hall, h1, h2, h3, h4, h5, h6, h7⟩ := mayK_all hm
  have HALL := hid hall
  clear hall hm
  have hb0 : Below w.heap.size w (w.alloc (.cells (bkc b s) 34)) := (Below.refl _ _).alloc (Nat.le_refl _) _
  have hA := BoxK.new w b s
  have ht0 := ht.below hb0
  obtain ⟨A, c, rfl⟩ := ht.shape
  obtain ⟨L, HL⟩ : ∃ n : Nat, Hid (b.txs.length = n) := ⟨_, hid rfl⟩
  rw [HL.out] at h7
  obtain ⟨C, HC⟩ : ∃ C : Array Value, Hid (bkc b (.slice A b.txs.length c) = C) := ⟨_, hid rfl⟩
  obtain ⟨O, HO⟩ : ∃ O : List UInt8, Hid (bytesK b = O) := ⟨_, hid rfl⟩
  rw [HO.out]
  rw [HC.out] at hA hb0 ht0 ⊢
  rw [HL.out] at hA ht0 HC
  obtain ⟨par, vi, he, bo, txs⟩ := b
  simp only at h1 h2 h3 h4 h5 h6 hp HL HALL ht0
  obtain ⟨p, rfl⟩ := nat_of (i := vi) h1
  obtain ⟨q, rfl⟩ := nat_of (i := he) h3
  obtain ⟨o, rfl⟩ := nat_of (i := bo) h5
  have hp1 : IntKind.u64.wrap (p : Int) = (p : Int) := wrap_u64 _ (by omega) (by omega)
  have hq1 : IntKind.u64.wrap (q : Int) = (q : Int) := wrap_u64 _ (by omega) (by omega)
  have ho1 : IntKind.u8.wrap (o : Int) = (o : Int) := by rw [IntKind.wrap_u8']; omega
  have hL1 : IntKind.u8.wrap (L : Int) = (L : Int) := by rw [IntKind.wrap_u8']; omega
  have HNP := hid (fun w => refnum_any (p : Int) w (by omega) (by omega))
  have HNQ := hid (fun w => refnum_any (q : Int) w (by omega) (by omega))
  have HLP := hid (dg_len10 (n := p) (by omega))
  have HLQ := hid (dg_len10 (n := q) (by omega))
  have HDO : Hid (dg o = [UInt8.ofNat o]) := hid (dg_small (by omega))
  have HDL : Hid (dg L = [UInt8.ofNat L]) := hid (dg_small (by omega))
  have HYO : Hid ((o : Int) = ((UInt8.ofNat o).toNat : Int)) := hid (by rw [UInt8.toNat_ofNat']; omega)
  have HYL : Hid ((L : Int) = ((UInt8.ofNat L).toNat : Int)) := hid (by rw [UInt8.toNat_ofNat']; omega)
  have HBH := hid (fun w => refBytes7_any par w hp)
  have HPL := hid hp
  clear ht
  go_enter Tryz.func44, Tryz.ntmps44
  go_upto_region 1 with (fail)
  generalize (w.alloc (.cells C 34)) = w0 at *
  have hl0 := hA.lt
  have HX : Hid (∀ W : World, Below w0.heap.size w0 W → W.rangeAt w.heap.size 0 (bcells par) ∧ W.cell? ⟨w.heap.size, 32, none⟩ = some (.int .i64 (p : Int)) ∧ W.cell? ⟨w.heap.size, 33, none⟩ = some (.int .i64 (q : Int)) ∧ W.cell? ⟨w.heap.size, 34, none⟩ = some (.int .i64 (o : Int)) ∧ W.cell? ⟨w.heap.size, 35, none⟩ = some (.slice A L c) ∧ Txs W (.slice A L c) txs) := hid (fun W h => by
    have hW := hA.below h hl0
    exact ⟨hW.range, (hW.cells HPL.out).1, (hW.cells HPL.out).2.1, (hW.cells HPL.out).2.2.1, (hW.cells HPL.out).2.2.2, ht0.below h⟩)
  have hbd : Below w0.heap.size w0 w0.drew := (Below.refl _ _).drew
  have hu := under_hash
  have hsz : (Tryz.prog.info? 23).map (·.size) = some (bcells par).length := by rw [size_hash, bcells_length, hp]
  have hs0 := hb0.size
  clear hA ht0 hp
  go_region_held3 (fun W => W.rangeAt w.heap.size 0 (bcells par) ∧ W.cell? ⟨w.heap.size, 32, none⟩ = some (.int .i64 (p : Int)))
    (first
      | (refine ⟨(HX.out _ hbd).1, (HX.out _ hbd).2.1⟩)
      | (refine ⟨(HX.out _ hb5).1, (HX.out _ hb5).2.1⟩)
      | (refine ⟨(HX.out _ hb4).1, (HX.out _ hb4).2.1⟩)
      | (refine ⟨(HX.out _ hb3).1, (HX.out _ hb3).2.1⟩)
      | fail)
    (first
      | (refine step_append_byt (by rfl) (.tmp 7) (.tmp 11) (by rfl) (by rfl) (by rfl) (ho3.below hb4') ho4.byt (by have := HLP.out; have := HPL.out; rw [Int.toNat_natCast]; omega) hb4.size ?_; intro v5 w5 ho5 hg5 _; have hb5 := hb4.grown hg5 hb4.size (fun q hq => (World.ownsRow.lt ho3 q hq).1); clear hg5)
      | (go_at_call 84; (with_reducible refine (HNP.out w3).mono ?_); rintro e w4 ⟨v4, rfl, ho4, hb4'⟩; have hb4 := hb3.trans (hb4'.mono hb3.size))
      | (go_at_call 40; refine (HBH.out w0.drew).mono ?_; rintro e w3 ⟨v3, rfl, ho3, hb3'⟩; have hb3 := hbd.trans hb3')
      | fail)
  rw [Int.toNat_natCast] at ho4 ho5
  have ho5' : Own w0.heap.size w5 v5 (par ++ dg p) := ho5
  have HL5 := hid (show (par ++ dg p).length ≤ 42 by rw [List.length_append]; have := HLP.out; have := HPL.out; omega)
  clear ho3 ho4 ho5 hb3 hb4 hb3' hb4' HNP HBH hu hsz hbd hp1
  have k5 := (HX.out w5 hb5).2.2.1
  go_wp2_with fail
  refine (HNQ.out w5).mono ?_
  rintro e w6 ⟨v6, rfl, ho6, hb6'⟩
  rw [Int.toNat_natCast] at ho6
  have hb6 := hb5.trans (hb6'.mono hb5.size)
  have ho56 := ho5'.below hb6'
  clear k5 ho5' hb6' hq1
  have hl7 : (par ++ dg p).length + (dg q).length ≤ 140737488355328 := by have := HL5.out; have := HLQ.out; omega
  have HL7 := hid (show (par ++ dg p ++ dg q).length ≤ 52 by rw [List.length_append]; have := HL5.out; have := HLQ.out; omega)
  have HBY := hid (fun w => byt_pair w (o : Int) (L : Int) (UInt8.ofNat o) (UInt8.ofNat L) HYO.out HYL.out)
  have hl8 : (par ++ dg p ++ dg q).length + [UInt8.ofNat o, UInt8.ofNat L].length ≤ 140737488355328 := by have := HL7.out; simp only [List.length_cons, List.length_nil]; omega
  go_wp2_with (first
    | (at_builtin; refine wpList_append_byt rfl (.tmp 13) (.tmp 17) rfl rfl rfl ho56 ho6.byt hl7 hb6.size ?_; intro v7 w7 ho7 hg7 hv7; have hb7 := hb6.grown hg7 hb6.size (fun q hq => (World.ownsRow.lt ho56 q hq).1); have m3 := (HX.out w7 hb7).2.2.2.1; have m4 := (HX.out w7 hb7).2.2.2.2.1; clear hg7 hv7)
    | (at_builtin; refine wpList_append_byt rfl (.tmp 19) (.tmp 27) rfl rfl rfl (ho7.alloc _) (HBY.out w7) hl8 (Nat.le_trans hb7.size (al_le w7 _)) ?_; intro v8 w8 ho8 hg8 hv8; have hb8 := (hb7.alloc hb7.size _).grown hg8 (Nat.le_trans hb7.size (al_le w7 _)) (fun q hq => (World.ownsRow.lt ho7 q hq).1); clear hg8 hv8))
  clear ho6 ho56 hl7 hb5 hb6
  obtain ⟨P, HP⟩ : ∃ P : List UInt8, Hid (par ++ dg p ++ dg q ++ [UInt8.ofNat o, UInt8.ofNat L] = P) := ⟨_, hid rfl⟩
  rw [HP.out] at ho8
  have HPL2 : Hid (P.length ≤ 54) := hid (by rw [← HP.out, List.length_append]; have := HL7.out; simp only [List.length_cons, List.length_nil]; omega)
  clear ho7 hb7 m3 m4 HBY hl8 ho1 hL1
  have HTL : Hid ((txs.map bytesT).flatten.length ≤ L * 300) := hid (by have := flat_len txs HALL.out; rw [HL.out] at this; exact this)
  have HTK : Hid (∀ i, i ≤ L → ((txs.take i).map bytesT).flatten.length ≤ i * 300) := hid (fun i hi => by
    have := flat_len (txs.take i) (fun t ht => HALL.out t (List.mem_of_mem_take ht))
    rw [List.length_take, HL.out, Nat.min_eq_left hi] at this
    exact this)
  go_loopw [3, 4] (fun out si wr => ∃ i : Nat, i ≤ L ∧ si = .int .i64 i ∧ Own w0.heap.size wr out (P ++ ((txs.take i).map bytesT).flatten) ∧ Below w0.heap.size w0 wr) (fun _ si _ => L - (intOf si).toNat)
  case atStart => exact ⟨0, by omega, rfl, by rw [List.take_zero, List.map_nil, List.flatten_nil, List.append_nil]; exact ho8, hb8⟩
  case round =>
    obtain ⟨i, hi, rfl, hown, hB⟩ := hrel
    clear ho8 hb8
    obtain ⟨_, _, _, _, m4, m5⟩ := HX.out wr hB
    by_cases hlt : i < L
    · have hih : i < txs.length := by rw [HL.out]; exact hlt
      obtain ⟨ba, oa, rfl, hba, hcla⟩ := m5.at_.2.2.2 (by omega)
      have hI : (i : Int) < (L : Int) := by omega
      have l1 : loadTx (.pointer (some ⟨ba, oa + i * 7, none⟩)) wr = .ok (.value (txv txs[i])) wr := loadTx_mid (hcla i hih)
      have HBT : Hid (∀ W, Calls Tryz.prog 41 #[txv txs[i]] W fun e w' => ∃ x, e = .returned x ∧ Own W.heap.size w' x (bytesT txs[i]) ∧ Below W.heap.size W w') := hid (fun W => refBytes_any _ W (HALL.out _ (List.getElem_mem hih)))
      have hbl := bytesT_len (HALL.out _ (List.getElem_mem hih))
      obtain ⟨X, HX1⟩ : ∃ C : Array Value, Hid ((tcl txs[i]).toArray = C) := ⟨_, hid rfl⟩
      rw [txv_tcl, HX1.out] at l1 HBT
      have hfl := HTK.out i hi
      have hlen : (P ++ ((txs.take i).map bytesT).flatten).length + (bytesT txs[i]).length ≤ 140737488355328 := by rw [List.length_append]; have := HPL2.out; omega
      have HNEW := hid (flat_snoc txs i hih)
      clear hcla m5 hbl hfl
      go_wp2_with fail
      refine (HBT.out wr).mono ?_
      rintro e w9 ⟨v9, rfl, ho9, hb9'⟩
      have hb9 := hB.trans (hb9'.mono hB.size)
      have hown9 := hown.below hb9'
      clear l1 m4
      go_wp2_with (at_builtin; refine wpList_append_byt rfl (.tmp 36) (.tmp 42) rfl rfl rfl hown9 ho9.byt hlen hb9.size ?_; intro v10 w10 ho10 hg10 hv10; have hb10 := hb9.grown hg10 hb9.size (fun q hq => (World.ownsRow.lt hown9 q hq).1); clear hg10 hv10)
      rw [List.append_assoc, ← HNEW.out] at ho10
      go_roundw
      case rel => exact ⟨i + 1, by omega, by go_num, ho10, hb10⟩
      case measure => simp [intOf]; omega
    · obtain rfl : i = L := by omega
      clear m5
      go_wp2
      go_ret
      rw [List.take_of_length_le (by rw [HL.out]; exact Nat.le_refl _)] at hown
      refine ⟨_, rfl, ?_, hb0.trans (hB.mono hs0)⟩
      have e : P ++ (txs.map bytesT).flatten = O := by
        rw [← HO.out, ← HP.out]
        unfold bytesK
        simp only [Int.toNat_natCast, HDO.out, HL.out, HDL.out, List.append_assoc, List.cons_append, List.nil_append]
      rw [e] at hown
      exact hown.more hs0
end Go.Proofs.YtjemfmbmlmogcaaGreat
namespace Go.Proofs.YtjemfmbmlmogcaaGreat
set_option maxRecDepth 20000
open Go.RowKit
def tcls (L : List TxM) : List Value := (L.map tcl).flatten
theorem tcls_length (L : List TxM) : (tcls L).length = L.length * 7 := by
  induction L with
  | nil => rfl
  | cons t L ih =>
    unfold tcls at ih ⊢
    simp only [List.map_cons, List.flatten_cons, List.length_append, List.length_cons, ih, tcl_length]
    omega
theorem tcls_append (L M : List TxM) : tcls (L ++ M) = tcls L ++ tcls M := by simp [tcls]
theorem tcl_one (t : TxM) : ∀ u ∈ tcl t, u.oneCell' = true := by
  intro u hu
  unfold tcl at hu
  simp only [List.mem_cons, List.not_mem_nil, or_false] at hu
  obtain rfl | rfl | rfl | rfl | rfl | rfl | rfl := hu <;> rfl
theorem tcls_one (L : List TxM) : ∀ u ∈ tcls L, u.oneCell' = true := by
  intro u hu
  obtain ⟨l, hl, hu⟩ := List.mem_flatten.1 hu
  obtain ⟨t, _, rfl⟩ := List.mem_map.1 hl
  exact tcl_one t u hu
theorem tcls_at (L : List TxM) (j : Nat) (hj : j < L.length) (k : Nat) (hk : k < 7) : (tcls L)[j * 7 + k]? = (tcl L[j])[k]? := by
  induction L generalizing j with
  | nil => simp at hj
  | cons t L ih =>
    have e : tcls (t :: L) = tcl t ++ tcls L := by simp [tcls]
    rw [e]
    cases j with
    | zero =>
      rw [Nat.zero_mul, Nat.zero_add, List.getElem?_append_left (by rw [tcl_length]; exact hk)]
      rfl
    | succ j =>
      rw [List.getElem?_append_right (by rw [tcl_length]; omega), tcl_length, show (j + 1) * 7 + k - 7 = j * 7 + k from by omega]
      exact ih j (by simpa using hj)
theorem tcls_get (L : List TxM) (i : Nat) (u : Value) (h : (tcls L)[i]? = some u) : ∃ (hj : i / 7 < L.length), (tcl L[i / 7])[i % 7]? = some u := by
  have hi := (List.getElem?_eq_some_iff.1 h).1
  rw [tcls_length] at hi
  have hj : i / 7 < L.length := by omega
  refine ⟨hj, ?_⟩
  have := tcls_at L (i / 7) hj (i % 7) (Nat.mod_lt _ (by omega))
  rw [show i / 7 * 7 + i % 7 = i from by omega, h] at this
  exact this.symm
def OwnT (B : Nat) (w : World) (v : Value) (L : List TxM) : Prop := w.ownsRow B 36 7 v L.length (tcls L)
section
variable {w w' : World} {v : Value} {L : List TxM} {B : Nat}
theorem OwnT.nil (B : Nat) (w : World) : OwnT B w (.slice none 0 0) [] := World.ownsRow_nil _ _ _ _
theorem OwnT.txs (h : OwnT B w v L) : Txs w v L := by
  rcases h.2 with ⟨rfl, h0⟩ | ⟨g, cap, cur, rfl, _, hh, hn, hm, hs, ht⟩
  · have : L = [] := List.eq_nil_of_length_eq_zero h0
    subst this
    exact Txs.nil w
  · refine ⟨_, cap, rfl, hn, hm, fun _ => ⟨g, 0, rfl, lt_of_block hh, fun j hj k u hu => ?_⟩⟩
    have hk : k < 7 := by have := (List.getElem?_eq_some_iff.1 hu).1; rw [tcl_length] at this; exact this
    rw [Nat.zero_add, cell_of_row w g _ _ _ (0, 0) hh, ← Array.getElem?_toList]
    have e := tcls_at L j hj k hk
    rw [hu, ← ht, List.getElem?_take_of_lt (by omega)] at e
    exact e
theorem OwnT.more (h : OwnT B w v L) {B' : Nat} (hB : B' ≤ B) : OwnT B' w v L := by
  refine ⟨h.1, ?_⟩
  rcases h.2 with h0 | ⟨g, cap, cur, e, hg, r⟩
  · exact .inl h0
  · exact .inr ⟨g, cap, cur, e, by omega, r⟩
theorem OwnT.keep (h : OwnT B w v L) (hk : ∀ b, b < w.heap.size → v.ownBlock = some b → w'.heap[b]? = w.heap[b]?) : OwnT B w' v L := by
  refine ⟨h.1, ?_⟩
  rcases h.2 with h0 | ⟨g, cap, cur, rfl, hg, hh, r⟩
  · exact .inl h0
  · exact .inr ⟨g, cap, cur, rfl, hg, (hk g (lt_of_block hh) rfl).trans hh, r⟩
theorem OwnT.below (h : OwnT B w v L) (hb : Below w.heap.size w w') : OwnT B w' v L := h.keep fun b hlt _ => hb.block b hlt
theorem OwnT.far (h : OwnT B w v L) {g : Nat} (hg : w.grownBy w' (some g)) (hB : g < B) : OwnT B w' v L := h.keep fun b hlt e => hg.block b hlt (fun e' => by
  have := (World.ownsRow.lt h b e).1
  injection e' with e'
  omega)
theorem OwnT.set (h : OwnT B w v L) {g : Nat} (hB : g < B) (i : Nat) (u : Value) : OwnT B (w.setCell ⟨g, i, none⟩ u) v L := h.keep fun b _ e => Below.heap_setCell w _ u b (fun e' => by
  have := (World.ownsRow.lt h b e).1
  simp only at e'
  omega)
end
theorem txs_one (w : World) (t : TxM) (C : Array Value) (h : (tcl t).toArray = C) : Txs (w.alloc (.cells C 36)) (.slice (some ⟨w.heap.size, 0, none⟩) 1 1) [t] := by
  subst h
  refine ⟨_, 1, rfl, Nat.le_refl _, by unfold maxLen; omega, fun _ => ⟨w.heap.size, 0, rfl, by simp, fun j hj k u hu => ?_⟩⟩
  obtain rfl : j = 0 := by simpa using hj
  rw [Nat.zero_mul, Nat.zero_add, cell_blk (heap_alloc_new w _) k]
  simpa using hu
theorem info_tx7 : (Tryz.prog.info? 36).map (fun i => (i.zero, i.size, i.bytes)) = some (some (.agg #[.int .i64 0, .int .i64 0, .int .i64 0, .int .i64 0, .int .i64 0, .string ⟨#[]⟩, .string ⟨#[]⟩]), 7, 72) := by kernel_rfl
theorem under_txsl : Tryz.prog.underlying 32 = some (.slice 36) := by kernel_rfl
theorem run_append_tx {w : World} {B : Nat} {v x : Value} {l m : List TxM} (ty : TypeId) (hv : OwnT B w v l) (hx : Txs w x m) (hs : l.length + m.length ≤ 1000000000) (hB : B ≤ w.heap.size) :
    ∃ v' w', (Builtin.append_ #[32, 32] ty #[v, x]).run Tryz.prog w = .ok v' w' ∧ OwnT B w' v' (l ++ m) ∧ w.grownBy w' v.ownBlock ∧ (v'.ownBlock = v.ownBlock ∨ v'.ownBlock = some w.heap.size) := by
  obtain ⟨i0, hi, hz0, hz1, hz2⟩ := info_parts info_tx7
  obtain ⟨A, c, rfl, hmc, hcm, hr⟩ := hx
  have hlm : (l ++ m).length = l.length + m.length := by simp
  rcases A with _ | ad
  · have h0 : m = [] := by
      rcases m with _ | ⟨x, m⟩
      · rfl
      · obtain ⟨_, _, h, _⟩ := hr (by simp)
        cases h
    subst h0
    refine ⟨v, w, ?_, by rw [List.append_nil]; exact hv, World.grownBy.refl w _, .inl rfl⟩
    rcases hv.2 with ⟨rfl, h0⟩ | ⟨g, cap, cur, rfl, _, _, hnc, _⟩
    · simp [Builtin.append_, run_underlying under_txsl, sizeOf, typeInfo, hi, Builtin.lenOf, Builtin.firstCells]
    · simp [Builtin.append_, run_underlying under_txsl, sizeOf, typeInfo, hi, Builtin.lenOf, Builtin.firstCells, hnc, storeCells]
  · have hcells : ∀ j u, (tcls m)[j]? = some u → w.cell? (ad.add j) = some u := by
      intro j u hu
      obtain ⟨hj, hu'⟩ := tcls_get m j u hu
      obtain ⟨b, off, e, _, hc⟩ := hr (by omega)
      injection e with e
      subst e
      rw [addr_add]
      have := hc (j / 7) hj (j % 7) u hu'
      rw [show off + j / 7 * 7 + j % 7 = off + j from by omega] at this
      exact this
    obtain ⟨v', w', hrun, h2, h3, _, h5⟩ := run_append_own_at (P := Tryz.prog) w B 32 ty 36 i0 _ 7 72 under_txsl hi hz0 hz1 hz2 rfl (by omega) v l.length (tcls l) hv ad m.length c (tcls m) (tcls_length m) hcells (tcls_one m) (by unfold maxLen; omega) (by omega) hB
    refine ⟨v', w', hrun, ?_, h3, h5⟩
    unfold OwnT
    rw [hlm, tcls_append]
    exact h2
theorem wp_append_tx {o : Oper} {a : Act} {K : Act → World → Prop} {Q : Exit → Act → World → Prop} {w : World} (s y : Operand)
    (ho : o.op = .call { callee := .builtin .append, args := #[s, y], argTypes := #[32, 32] })
    {B : Nat} {v x : Value} {l m : List TxM} (hes : a.eval s = v) (hey : a.eval y = x) (hv : OwnT B w v l) (hx : Txs w x m) (hs : l.length + m.length ≤ 1000000000) (hB : B ≤ w.heap.size)
    (h : ∀ v' w', OwnT B w' v' (l ++ m) → w.grownBy w' v.ownBlock → (v'.ownBlock = v.ownBlock ∨ v'.ownBlock = some w.heap.size) → K (a.put o.dst v') w') : o.wp Tryz.prog a w K Q := by
  obtain ⟨v', w', hrun, h2, h3, h4⟩ := run_append_tx (w := w) o.type hv hx hs hB
  unfold Oper.wp execOp
  simp only [ho, resolve, invoke, builtin, Sem.run_bind, Sem.run_pure, Result.andThen_ok, List.map_toArray, List.map_cons, List.map_nil, hes, hey, hrun]
  exact h v' w' h2 h3 h4
theorem wpList_append_tx {ops : Array Oper} {rest : List Oper} {o : Oper} {a : Act} {Q : Exit → Act → World → Prop} {w : World} (hgd : o.guard = none) (s y : Operand)
    (ho : o.op = .call { callee := .builtin .append, args := #[s, y], argTypes := #[32, 32] })
    {B : Nat} {v x : Value} {l m : List TxM} (hes : a.eval s = v) (hey : a.eval y = x) (hv : OwnT B w v l) (hx : Txs w x m) (hs : l.length + m.length ≤ 1000000000) (hB : B ≤ w.heap.size)
    (h : ∀ v' w', OwnT B w' v' (l ++ m) → w.grownBy w' v.ownBlock → (v'.ownBlock = v.ownBlock ∨ v'.ownBlock = some w.heap.size) → wpList Tryz.prog ops Q rest (a.put o.dst v') w') : wpList Tryz.prog ops Q (o :: rest) a w :=
  wpList_plain hgd fun _ hK => wp_append_tx s y ho hes hey hv hx hs hB fun v' w' h2 h3 h4 => hK _ _ (h v' w' h2 h3 h4)
end Go.Proofs.YtjemfmbmlmogcaaGreat
