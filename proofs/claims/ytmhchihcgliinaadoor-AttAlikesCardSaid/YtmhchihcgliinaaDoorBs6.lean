/-
  Take AtTag AtSign AtRight TxKey TxMay TxRd AtRd AtRead AtEq Check: what each of them says stands at its head.
-/
import Derived.Test.YtmhchihcgliinaaDoorBs1
import Derived.Deep.RegionHeld3
import Derived.Test.YtmhchihcgliinaaDoorBs3
import Derived.Test.YtmhchihcgliinaaDoorBs5
import Derived.LoopTactic
import Derived.Outline
import Derived.Test.YtmhchihcgliinaaDoorBs2
/-
  A region that draws its order, walked by hand, one operation after the other: for regions with many operations behind guards that say no. No function of the program.
-/
namespace Go.Proofs.YtmhchihcgliinaaDoor
set_option maxRecDepth 20000
open Go.RowKit

/-- An operation of a region is taken first: one that is not wanted; one that yields in every world that meets S. -/
theorem take_off {P : Program} {md : Region.Mode} {l : List Oper} {Q : Exit → Act → World → Prop} {S : World → Prop} {i : Nat} {oi : Oper} {fuel : Nat} {listed : Array Bool} {a : Act} {w : World} (hi : l[i]? = some oi)
    (hs : Region.noSelect l.toArray = true) (hf : Region.free md l.toArray listed i = true) (hr : (Region.ready md l.toArray listed).contains i = true) (hQ : ∀ c a w, Q (.panic c) (a.put oi.dst undef) w → Q (.panic c) a w)
    (hw : Region.wanted oi (yielded l.toArray a.tmps) = false) (hS : S w) (h : wpAnyH P md l.toArray Q S fuel (listed.setIfInBounds i true) (a.put oi.dst undef) w) : wpAnyH P md l.toArray Q S (fuel + 1) listed a w :=
  wpAnyH_take (by simpa using hi) hs hf hr hQ (Or.inr ⟨hw, rfl⟩) hS h
theorem take_on {P : Program} {md : Region.Mode} {l : List Oper} {Q : Exit → Act → World → Prop} {S : World → Prop} {i : Nat} {oi : Oper} {v : Value} {fuel : Nat} {listed : Array Bool} {a : Act} {w : World} (hi : l[i]? = some oi)
    (hs : Region.noSelect l.toArray = true) (hf : Region.free md l.toArray listed i = true) (hr : (Region.ready md l.toArray listed).contains i = true) (hQ : ∀ c a w, Q (.panic c) (a.put oi.dst v) w → Q (.panic c) a w)
    (hw : Region.wanted oi (yielded l.toArray a.tmps) = true) (hv : ∀ w, S w → (execOp a.eval oi).run P w = .ok (.value v) w) (hS : S w) (h : wpAnyH P md l.toArray Q S fuel (listed.setIfInBounds i true) (a.put oi.dst v) w) : wpAnyH P md l.toArray Q S (fuel + 1) listed a w :=
  wpAnyH_take (by simpa using hi) hs hf hr hQ (Or.inl ⟨hw, hv⟩) hS h
theorem call_on {P : Program} {md : Region.Mode} {l : List Oper} {Q : Exit → Act → World → Prop} {S : World → Prop} {i : Nat} {oi : Oper} {fuel : Nat} {listed : Array Bool} {a : Act} {w : World} (hi : l[i]? = some oi)
    (hr : Region.ready md l.toArray listed = [i]) (hw : Region.wanted oi (yielded l.toArray a.tmps) = true)
    (h : ∀ K' : Act → World → Prop, Shut (∀ a w, S w → (S w → wpAnyH P md l.toArray Q S fuel (listed.setIfInBounds i true) a w) → K' a w) → Oper.wp P oi a w K' Q) : wpAnyH P md l.toArray Q S (fuel + 1) listed a w :=
  wpAnyH_ready hr (by simp) (AllReadyH.cons (by simpa using hi) (fun K hK => by rw [if_pos hw]; exact h K hK) AllReadyH.nil)
/-- Two operations may come next. -/
theorem pair_on {P : Program} {md : Region.Mode} {l : List Oper} {Q : Exit → Act → World → Prop} {S : World → Prop} {i j : Nat} {oi oj : Oper} {fuel : Nat} {listed : Array Bool} {a : Act} {w : World} (hi : l[i]? = some oi) (hj : l[j]? = some oj)
    (hr : Region.ready md l.toArray listed = [i, j]) (hw : Region.wanted oi (yielded l.toArray a.tmps) = true) (hv : Region.wanted oj (yielded l.toArray a.tmps) = true)
    (h : ∀ K' : Act → World → Prop, Shut (∀ a w, S w → (S w → wpAnyH P md l.toArray Q S fuel (listed.setIfInBounds i true) a w) → K' a w) → Oper.wp P oi a w K' Q)
    (k : ∀ K' : Act → World → Prop, Shut (∀ a w, S w → (S w → wpAnyH P md l.toArray Q S fuel (listed.setIfInBounds j true) a w) → K' a w) → Oper.wp P oj a w K' Q) : wpAnyH P md l.toArray Q S (fuel + 1) listed a w :=
  wpAnyH_ready hr (by simp) (AllReadyH.cons (by simpa using hi) (fun K hK => by rw [if_pos hw]; exact h K hK) (AllReadyH.cons (by simpa using hj) (fun K hK => by rw [if_pos hv]; exact k K hK) AllReadyH.nil))
end Go.Proofs.YtmhchihcgliinaaDoor

/-
  The document's answer for an attestation's right tag, and one signed: tithingref08.Tag, tithingref08.Sign.
-/
namespace Go.Proofs.YtmhchihcgliinaaDoor
set_option maxRecDepth 20000
open Go.RowKit
attribute [local go_sem ↓] exec_load_hash exec_load_att exec_alloc_att exec_store_att

/-- The right tag. -/
def tagA (a : AtM) : List UInt8 := hl 32 (tagF a.bo 1 (taggedA a))
theorem tagA_len (a : AtM) : (tagA a).length = 32 := hl_length _ _
/-- .. laid. -/
def signA (a : AtM) : AtM := { a with tg := tagA a }
theorem signA_ok {a : AtM} (h : a.Ok) : (signA a).Ok := ⟨h.ha, h.pa, tagA_len a⟩

/-- A store of a hash into a variable, in a region walked by hand. -/
theorem wp_store_arrH {op : Oper} {a : Act} {w : World} {K : Act → World → Prop} {Q : Exit → Act → World → Prop} (x y : Operand) (ho : op.op = .store 23 x y) {g : Nat} {t : TypeId} {f f' : Nat → Value}
    (hx : a.eval x = .pointer (some ⟨g, 0, none⟩)) (hy : a.eval y = .agg (fcells 32 f')) (hg : Blk w g 32 f t) (h1 : ∀ i, i < 32 → (f' i).oneCell' = true)
    (hh : ∀ w', w.grownBy w' (some g) → Blk w' g 32 f' t → w'.heap.size = w.heap.size → K (a.put op.dst undef) w') : op.wp Tryd.prog a w K Q := by
  obtain ⟨w', hrun, hgr, hb, hs⟩ := arrH.store_mid (o := 0) (f' := f') hg (by omega) h1
  unfold Oper.wp execOp
  simp only [ho, hx, hy, Sem.run_bind, hrun, Result.andThen_ok, Sem.run_pure]
  exact hh w' hgr (hb.congr fun i hi => by rw [if_pos ⟨Nat.zero_le _, by omega⟩, Nat.sub_zero]) hs

end Go.Proofs.YtmhchihcgliinaaDoor

/-
  The document's answer for an attestation that is signed, and whether one is right: tithingref08.Sign, tithingref08.Right.
-/
namespace Go.Proofs.YtmhchihcgliinaaDoor
set_option maxRecDepth 20000
open Go.RowKit
attribute [local go_sem ↓] exec_load_att exec_alloc_att exec_store_att

end Go.Proofs.YtmhchihcgliinaaDoor

/-
  The document's answer for whether an attestation is right: tithingref08.Right.
-/
namespace Go.Proofs.YtmhchihcgliinaaDoor
set_option maxRecDepth 20000
open Go.RowKit
attribute [local go_sem ↓] exec_load_att exec_load_hash

/-- Is it right? -/
def rightA (a : AtM) : Bool := mayA a && decide (a.tg = tagA a)

end Go.Proofs.YtmhchihcgliinaaDoor

/-
  tithingref06.Key and tithingref06.May: which keys and transactions there may be.
-/
namespace Go.Proofs.YtmhchihcgliinaaDoor
set_option maxRecDepth 20000
open Go.RowKit

theorem keyB_cases (c : UInt8) (y : Int) (hy : ((c.toNat : Nat) : Int) = y) : (keyCh c = true ∧ 97 ≤ y ∧ y ≤ 122) ∨ (keyCh c = true ∧ ¬ 97 ≤ y ∧ 48 ≤ y ∧ y ≤ 57) ∨ (keyCh c = false ∧ 122 < y) ∨ (keyCh c = false ∧ ¬ 97 ≤ y ∧ 57 < y) ∨ (keyCh c = false ∧ y < 48) := by
  subst hy
  unfold keyCh
  by_cases h1 : 97 ≤ c.toNat
  · by_cases h2 : c.toNat ≤ 122
    · exact .inl ⟨by simp [h1, h2], by omega, by omega⟩
    · exact .inr (.inr (.inl ⟨by simp [h2]; omega, by omega⟩))
  · by_cases h3 : 48 ≤ c.toNat
    · by_cases h4 : c.toNat ≤ 57
      · exact .inr (.inl ⟨by simp [h3, h4], by omega, by omega, by omega⟩)
      · exact .inr (.inr (.inr (.inl ⟨by simp [h1, h4], by omega, by omega⟩)))
    · exact .inr (.inr (.inr (.inr ⟨by simp [h1, h3], by omega⟩)))
theorem keyOk_no {l : List UInt8} {j : Nat} (hj : j < l.length) (h : keyCh (l.getD j 0) = false) : keyOk l = false := by
  unfold keyOk
  have hm : l.getD j 0 ∈ l := by rw [List.getD_eq_getElem?_getD, List.getElem?_eq_getElem hj]; exact List.getElem_mem hj
  have : l.all keyCh = false := by
    rw [Bool.eq_false_iff]
    intro ha
    rw [List.all_eq_true.1 ha _ hm] at h
    cases h
  rw [this, Bool.false_and]
theorem keyOk_yes {l : List UInt8} (h : ∀ j, j < l.length → keyCh (l.getD j 0) = true) : keyOk l = (decide (1 ≤ l.length) && decide (l.length ≤ 16)) := by
  unfold keyOk
  have : l.all keyCh = true := by
    rw [List.all_eq_true]
    intro c hc
    obtain ⟨j, hj, rfl⟩ := List.getElem_of_mem hc
    have := h j hj
    rwa [List.getD_eq_getElem?_getD, List.getElem?_eq_getElem hj] at this
  rw [this, Bool.true_and]

end Go.Proofs.YtmhchihcgliinaaDoor

/-
  tithingref06.May: which transactions there may be.
-/
namespace Go.Proofs.YtmhchihcgliinaaDoor
set_option maxRecDepth 20000
open Go.RowKit

end Go.Proofs.YtmhchihcgliinaaDoor

/-
  What tithingref06.Read has in memory while it reads: the reader, the results, the transaction.
-/
namespace Go.Proofs.YtmhchihcgliinaaDoor
set_option maxRecDepth 20000
open Go.RowKit

theorem blk_other {w : World} {g b i : Nat} {o : Obj} (h : w.heap[g]? = some o) (u : Value) (hne : g ≠ b) : (w.setCell ⟨b, i, none⟩ u).heap[g]? = some o := by
  rw [Below.heap_setCell w _ u g (fun e => hne e)]
  exact h
def zeroTx : Array Value := #[.int .i64 0, .int .i64 0, .int .i64 0, .int .i64 0, .int .i64 0, .string { data := #[] }, .string { data := #[] }]
theorem rdNum_pl {m : Nat} {l : List UInt8} {p : Nat} {r : Bool} (hp : p ≤ l.length) : (rdNum m l p r).2.1 ≤ l.length := by
  cases r with
  | false => rw [rdNum_bad]; exact hp
  | true =>
    cases hf : frst (l.drop p) with
    | none => rw [rdNum_no hf]; exact hp
    | some k =>
      by_cases hk : k ≤ m
      · rw [rdNum_yes hf hk]
        obtain ⟨_, x, hx⟩ := frst_some hf
        have := drop_len hx.symm (dg_pos k)
        simp only
        omega
      · rw [rdNum_big hf hk]; exact hp
theorem rdUpto_pl {m : Int} {l : List UInt8} {p : Nat} {r : Bool} (hp : p ≤ l.length) : (rdUpto m l p r).2.1 ≤ l.length := by
  unfold rdUpto
  split
  · exact hp
  · exact rdNum_pl hp
theorem rdUpto_le {m : Nat} {l : List UInt8} {p : Nat} {r : Bool} : (rdUpto (m : Int) l p r).1 ≤ m := by
  unfold rdUpto
  split
  · exact Nat.zero_le _
  · exact rdNum_le
theorem rdText_pl {l : List UInt8} {p : Nat} {r : Bool} (hp : p ≤ l.length) : (rdText l p r).2.1 ≤ l.length ∧ (rdText l p r).1.length ≤ 65536 := by
  cases r with
  | false => rw [rdText_bad]; exact ⟨hp, by simp⟩
  | true =>
    cases hf : frst (l.drop p) with
    | none => rw [rdText_no hf]; exact ⟨hp, by simp⟩
    | some k =>
      by_cases hk : k ≤ 65536 ∧ p + (dg k).length + k ≤ l.length
      · rw [rdText_yes hf hk.1 hk.2]
        refine ⟨hk.2, ?_⟩
        simp only [List.length_take]
        omega
      · rw [rdText_big hf hk]; exact ⟨hp, by simp⟩
end Go.Proofs.YtmhchihcgliinaaDoor

/-
  What tithingref08.Read has in memory while it reads: the reader, the results yet nought, the attestation.
-/
namespace Go.Proofs.YtmhchihcgliinaaDoor
set_option maxRecDepth 20000
open Go.RowKit

theorem atl_ha (a : AtM) : atl a = [.int .i64 a.bo, .int .i64 a.ki, .int .i64 a.vi, .int .i64 a.ph] ++ (bcells a.ha ++ ([.int .i64 a.pv] ++ (bcells a.pa ++ bcells a.tg))) := rfl
theorem atl_pa (a : AtM) : atl a = ([.int .i64 a.bo, .int .i64 a.ki, .int .i64 a.vi, .int .i64 a.ph] ++ (bcells a.ha ++ [.int .i64 a.pv])) ++ (bcells a.pa ++ bcells a.tg) := by
  unfold atl
  simp only [List.append_assoc]
theorem atl_pv (a : AtM) : atl a = ([.int .i64 a.bo, .int .i64 a.ki, .int .i64 a.vi, .int .i64 a.ph] ++ bcells a.ha) ++ (.int .i64 a.pv :: (bcells a.pa ++ bcells a.tg)) := by
  unfold atl
  simp only [List.cons_append, List.nil_append]
theorem atc_pv {a : AtM} (h : a.Ok) (n : Int) : (atc a).setIfInBounds 36 (.int .i64 n) = atc { a with pv := n } := by
  have hl : ([.int .i64 a.bo, .int .i64 a.ki, .int .i64 a.vi, .int .i64 a.ph] ++ bcells a.ha : List Value).length = 36 := by simp only [List.length_append, bcells_length, h.ha, List.length_cons, List.length_nil]
  unfold atc
  rw [List.setIfInBounds_toArray, atl_pv, atl_pv, List.set_append_right _ _ (by omega), hl]
  rfl
section
variable {ops : Array Oper} {rest : List Oper} {o : Oper} {ac : Act} {w : World} {Q : Exit → Act → World → Prop}
theorem wpList_store_ha (hgd : o.guard = none) (x y : Operand) (ho : o.op = .store 23 x y)
    {g : Nat} {a : AtM} {h : List UInt8} (hx : ac.eval x = .pointer (some ⟨g, 4, none⟩)) (hy : ac.eval y = .agg (hcells h)) (hg : BoxA w g a) (hok : a.Ok) (hl : h.length = 32)
    (hh : ∀ w', w.grownBy w' (some g) → BoxA w' g { a with ha := h } → w'.heap.size = w.heap.size → wpList Tryd.prog ops Q rest (ac.put o.dst undef) w') : wpList Tryd.prog ops Q (o :: rest) ac w := by
  unfold BoxA atc at hg
  rw [atl_ha] at hg
  refine wpList_store_midh hgd x y ho hx hy hg rfl (by rw [bcells_length, hok.ha]) hl (fun w' h1 h2 h3 => hh w' h1 ?_ h3)
  unfold BoxA atc
  rw [atl_ha]
  exact h2
theorem wpList_store_pa (hgd : o.guard = none) (x y : Operand) (ho : o.op = .store 23 x y)
    {g : Nat} {a : AtM} {h : List UInt8} (hx : ac.eval x = .pointer (some ⟨g, 37, none⟩)) (hy : ac.eval y = .agg (hcells h)) (hg : BoxA w g a) (hok : a.Ok) (hl : h.length = 32)
    (hh : ∀ w', w.grownBy w' (some g) → BoxA w' g { a with pa := h } → w'.heap.size = w.heap.size → wpList Tryd.prog ops Q rest (ac.put o.dst undef) w') : wpList Tryd.prog ops Q (o :: rest) ac w := by
  unfold BoxA atc at hg
  rw [atl_pa] at hg
  refine wpList_store_midh hgd x y ho hx hy hg (by simp only [List.length_append, bcells_length, hok.ha, List.length_cons, List.length_nil]) (by rw [bcells_length, hok.pa]) hl (fun w' h1 h2 h3 => hh w' h1 ?_ h3)
  unfold BoxA atc
  rw [atl_pa]
  exact h2
end

/-- Blocks B .. B + 3: the reader, the results yet nought, the attestation. -/
structure AtSt (w0 w : World) (x0 x1 x2 : Value) (a : AtM) : Prop where
  bel : Below w0.heap.size w0 w
  b0 : w.heap[w0.heap.size]? = some (.cells #[x0, x1, x2] 39 (0, 0))
  b1 : w.heap[w0.heap.size + 1]? = some (.cells #[.slice none 0 0, .int .i64 0, .bool false] 39 (0, 0))
  b2 : BoxA w (w0.heap.size + 1 + 1) atZ
  b3 : BoxA w (w0.heap.size + 1 + 1 + 1) a
section
variable {w0 w w' : World} {x0 x1 x2 : Value} {a : AtM}
theorem AtSt.lt (h : AtSt w0 w x0 x1 x2 a) : w0.heap.size + 1 + 1 + 1 < w.heap.size := lt_of_block h.b3
theorem AtSt.below (h : AtSt w0 w x0 x1 x2 a) (hb : Below w.heap.size w w') : AtSt w0 w' x0 x1 x2 a := by
  have hlt := h.lt
  exact ⟨h.bel.trans (hb.mono h.bel.size), (hb.block _ (by omega)).trans h.b0, (hb.block _ (by omega)).trans h.b1, (hb.block _ (by omega)).trans h.b2, (hb.block _ hlt).trans h.b3⟩
theorem AtSt.new (w : World) (x0 x1 x2 : Value) :
    AtSt w ((((w.alloc (.cells #[x0, x1, x2] 39)).alloc (.cells #[.slice none 0 0, .int .i64 0, .bool false] 39)).alloc (.cells (atc atZ) 25)).alloc (.cells (atc atZ) 25)) x0 x1 x2 atZ :=
  ⟨four_below _ _ _ _ _, four_0 _ _ _ _ _, four_1 _ _ _ _ _, four_2 _ _ _ _ _, four_3 _ _ _ _ _⟩
theorem AtSt.put (h : AtSt w0 w x0 x1 x2 a) (y0 y1 y2 : Value) :
    AtSt w0 (((w.setCell ⟨w0.heap.size, 0, none⟩ y0).setCell ⟨w0.heap.size, 1, none⟩ y1).setCell ⟨w0.heap.size, 2, none⟩ y2) y0 y1 y2 a := by
  refine ⟨((h.bel.setCell (Nat.le_refl _) _).setCell (Nat.le_refl _) _).setCell (Nat.le_refl _) _, ?_, ?_, ?_, ?_⟩
  · exact set_blk (set_blk (set_blk h.b0 0 y0) 1 y1) 2 y2
  · exact blk_other (blk_other (blk_other h.b1 y0 (by omega)) y1 (by omega)) y2 (by omega)
  · exact blk_other (blk_other (blk_other h.b2 y0 (by omega)) y1 (by omega)) y2 (by omega)
  · exact blk_other (blk_other (blk_other h.b3 y0 (by omega)) y1 (by omega)) y2 (by omega)
theorem AtSt.cell (h : AtSt w0 w x0 x1 x2 a) {b : AtM} {v : Value} (i : Nat) (e : (atc a).setIfInBounds i v = atc b) : AtSt w0 (w.setCell ⟨w0.heap.size + 1 + 1 + 1, i, none⟩ v) x0 x1 x2 b := by
  refine ⟨h.bel.setCell (by simp only; omega) _, blk_other h.b0 _ (by omega), blk_other h.b1 _ (by omega), blk_other h.b2 _ (by omega), ?_⟩
  have := set_blk h.b3 i v
  rw [e] at this
  exact this
theorem AtSt.att (h : AtSt w0 w x0 x1 x2 a) {b : AtM} (hg : w.grownBy w' (some (w0.heap.size + 1 + 1 + 1))) (hb : BoxA w' (w0.heap.size + 1 + 1 + 1) b) : AtSt w0 w' x0 x1 x2 b := by
  have hlt := h.lt
  refine ⟨h.bel.grown hg h.bel.size (fun k hk => by injection hk with hk; omega), ?_, ?_, ?_, hb⟩
  · exact (hg.block _ (by omega) (fun e => by injection e with e; omega)).trans h.b0
  · exact (hg.block _ (by omega) (fun e => by injection e with e; omega)).trans h.b1
  · exact (hg.block _ (by omega) (fun e => by injection e with e; omega)).trans h.b2
/-- The cells, and that none is fixed. -/
theorem AtSt.cells (h : AtSt w0 w x0 x1 x2 a) (ho : a.Ok) :
    (w.cell? ⟨w0.heap.size, 0, none⟩ = some x0 ∧ w.cell? ⟨w0.heap.size, 1, none⟩ = some x1 ∧ w.cell? ⟨w0.heap.size, 2, none⟩ = some x2) ∧
    (w.cell? ⟨w0.heap.size + 1 + 1 + 1, 0, none⟩ = some (.int .i64 a.bo) ∧ w.cell? ⟨w0.heap.size + 1 + 1 + 1, 1, none⟩ = some (.int .i64 a.ki) ∧ w.cell? ⟨w0.heap.size + 1 + 1 + 1, 2, none⟩ = some (.int .i64 a.vi) ∧ w.cell? ⟨w0.heap.size + 1 + 1 + 1, 3, none⟩ = some (.int .i64 a.ph) ∧ w.cell? ⟨w0.heap.size + 1 + 1 + 1, 36, none⟩ = some (.int .i64 a.pv)) ∧
    (∀ i, w.frozen? ⟨w0.heap.size, i, none⟩ = false) ∧ (∀ i, w.frozen? ⟨w0.heap.size + 1 + 1 + 1, i, none⟩ = false) :=
  ⟨⟨cell_blk h.b0 0, cell_blk h.b0 1, cell_blk h.b0 2⟩, ⟨h.b3.cells.1, h.b3.cells.2.1, h.b3.cells.2.2.1, h.b3.cells.2.2.2, h.b3.pv ho⟩, free_blk h.b0, h.b3.free⟩
end
end Go.Proofs.YtmhchihcgliinaaDoor

/-
  tithingref08.Read: the attestation that bytes begin with.
-/
namespace Go.Proofs.YtmhchihcgliinaaDoor
set_option maxRecDepth 20000
open Go.RowKit
attribute [local go_sem ↓] exec_load_att exec_alloc_att exec_store_att exec_build_att

theorem rdHash_pl8 {l : List UInt8} {p : Nat} {r : Bool} (hp : p ≤ l.length) : (rdHash l p r).2.1 ≤ l.length := by
  unfold rdHash
  split
  · exact hp
  · split
    · assumption
    · exact hp
theorem setAtt_self {w : World} {g : Nat} {t : TypeId} {C : Array Value} {fr : Nat × Nat} (hg : w.heap[g]? = some (.cells C t fr)) : setAtt w g C = w := by
  have e : ∀ f : Obj → Obj, f (.cells C t fr) = .cells C t fr → w.heap.modify g f = w.heap := by
    intro f hf
    apply Array.ext_getElem?
    intro k
    rw [Array.getElem?_modify]
    by_cases h : g = k
    · subst h
      rw [if_pos rfl, hg]
      simp [hf]
    · rw [if_neg h]
  unfold setAtt World.setRow
  rw [e _ rfl]

/-- A store of a whole value into its variable, in a region walked by hand. -/
theorem wp_store_whole {op : Oper} {ac : Act} {w : World} {K : Act → World → Prop} {Q : Exit → Act → World → Prop} {T : TypeId} (x y : Operand) (ho : op.op = .store T x y) {g : Nat} {t : TypeId} {C0 C : Array Value}
    (hx : ac.eval x = .pointer (some ⟨g, 0, none⟩)) (hy : ac.eval y = .agg C) (hg : w.heap[g]? = some (.cells C0 t (0, 0))) (hi : (Tryd.prog.info? T).map (·.size) = some C.size) (hs : C0.size = C.size) (h1 : C.all (·.oneCell') = true)
    (hh : ∀ w', w.grownBy w' (some g) → w'.heap[g]? = some (.cells C t (0, 0)) → w'.heap.size = w.heap.size → K (ac.put op.dst undef) w') : op.wp Tryd.prog ac w K Q := by
  refine wp_store_mid T x y ho g 0 C hx hy (fun j hj => ⟨?_, free_blk hg _⟩) hi h1 ?_
  · rw [cell_blk hg, Nat.zero_add, Array.getElem?_eq_getElem (by omega)]
    rfl
  · refine hh _ (grown_setCells g _ _ _) ?_ (setCells_size g _ _ _)
    have := setCells_row C.toList 0 w C0 hg
    have e := putAt_mid C.toList [] C0.toList [] (by rw [Array.length_toList, Array.length_toList, hs])
    simp only [List.nil_append, List.append_nil, List.length_nil, Array.toArray_toList] at e
    rw [e] at this
    exact this
/-- Two results that lie in memory, and one that doesn't. -/
theorem results_ra {fn : Func} {p q s : Tmp} (h : fn.results = #[.cell p 39, .cell q 25, .tmp s]) (tmps : Array Value) (w : World) (g1 g2 : Nat) (t1 t2 : TypeId) (xs ys : Array Value) (v : Value)
    (hp : tmps.getD p undef = .pointer (some ⟨g1, 0, none⟩)) (hq : tmps.getD q undef = .pointer (some ⟨g2, 0, none⟩)) (hv : tmps.getD s undef = v) (h1 : w.heap[g1]? = some (.cells xs t1 (0, 0))) (h2 : w.heap[g2]? = some (.cells ys t2 (0, 0))) (hx : xs.size = 3) (hy : ys.size = 101) :
    (results fn tmps).run Tryd.prog w = .ok (.tuple #[.agg xs, .agg ys, v]) w := by
  have hp' : tmps[p]?.getD undef = .pointer (some ⟨g1, 0, none⟩) := by simpa using hp
  have hq' : tmps[q]?.getD undef = .pointer (some ⟨g2, 0, none⟩) := by simpa using hq
  have hv' : tmps[s]?.getD undef = v := by simpa using hv
  have r1 := run_loadVar_row (P := Tryd.prog) w g1 t1 39 xs (0, 0) _ h1 under_ref rfl (by rw [size_ref, hx])
  have r2 := run_loadVar_row (P := Tryd.prog) w g2 t2 25 ys (0, 0) _ h2 under_att rfl (by rw [size_att, hy])
  simp [results, h, hp', hq', hv', asAddr, r1, r2]

set_option maxHeartbeats 6400000 in
theorem refRead8_any (A : Option Addr) (c p : Nat) (r : Bool) (l : List UInt8) (w : World) (hv : Byt w (.slice A l.length c) l) (hp : p ≤ l.length) (hl : l.length ≤ 1000000) :
    Calls Tryd.prog 14 #[rv A l.length c p (!r)] w fun e w' => e = .returned (.tuple #[rv A l.length c (rawA l p r).2.1 (!(rawA l p r).2.2), .agg (atc (atOf l p r)), .bool (atIs l p r)]) ∧ Below w.heap.size w w' := by
  have HH := hid (fun p r (hp : p ≤ l.length) (w' : World) (hb : Below w.heap.size w w') => refHash_any A c p r l w' (hv.below hb) hp (by omega))
  have HU := hid (fun p r (hp : p ≤ l.length) m (h1 : -9223372036854775808 ≤ m) (h2 : m ≤ 9223372036854775807) (w' : World) (hb : Below w.heap.size w w') => refUpto_any A c p r l m w' (hv.below hb) hp (by omega) h1 h2)
  obtain ⟨Z, HZ⟩ : ∃ C : Array Value, Hid (atc atZ = C) := ⟨_, hid rfl⟩
  have hbz : ∀ W, buildAtt W = .ok (.value (.agg Z)) W := fun W => by rw [← HZ.out]; exact buildAtt_eq W
  have hal : ∀ W, allocAtt W = .ok (.value (.pointer (some ⟨W.heap.size, 0, none⟩))) (W.alloc (.cells Z 25)) := fun W => by rw [← HZ.out]; exact allocAtt_eq W
  have hsz : Z.size = 101 := by rw [← HZ.out]; exact atc_size atZ_ok
  have hz1 : Z.all (·.oneCell') = true := by rw [← HZ.out]; exact atc_one _
  have hst0 := AtSt.new w (.slice A l.length c) (.int .i64 (p : Int)) (.bool (!r))
  rw [HZ.out] at hst0
  have hs0 : storeAtt (.pointer (some ⟨w.heap.size + 1 + 1 + 1, 0, none⟩)) (.agg Z) ((((w.alloc (.cells #[.slice A l.length c, .int .i64 (p : Int), .bool (!r)] 39)).alloc (.cells #[.slice none 0 0, .int .i64 0, .bool false] 39)).alloc (.cells Z 25)).alloc (.cells Z 25)) = .ok .skip ((((w.alloc (.cells #[.slice A l.length c, .int .i64 (p : Int), .bool (!r)] 39)).alloc (.cells #[.slice none 0 0, .int .i64 0, .bool false] 39)).alloc (.cells Z 25)).alloc (.cells Z 25)) := by
    have hg := hst0.b3
    unfold BoxA at hg
    rw [HZ.out] at hg
    rw [storeAtt_eq hg hsz hsz hz1, setAtt_self hg]
  have HSZ := hid hsz
  have HZ1 := hid hz1
  have HBZ := hid hbz
  clear hv hsz hz1
  unfold rv
  go_enter Tryd.func14, Tryd.ntmps14
  go_wp2_with fail
  obtain ⟨a1, p1, r1, HA1⟩ : ∃ x q s, Hid (rdUpto 21 l p r = (x, q, s)) := ⟨_, _, _, hid rfl⟩
  have hp1 : p1 ≤ l.length := by have := rdUpto_pl (m := 21) (r := r) hp; rw [HA1.out] at this; exact this
  have C := HU.out p r hp 21 (by omega) (by omega) _ (hst0).bel
  rw [HA1.out] at C
  refine C.mono ?_
  clear C
  rintro e w1 ⟨rfl, hb⟩
  have hst : AtSt w w1 (.slice A l.length c) (.int .i64 (p : Int)) (.bool (!r)) ⟨0, 0, 0, 0, z32, 0, z32, z32⟩ := (hst0).below hb
  clear hb hst0 hs0 hbz hal
  obtain ⟨⟨c0, c1, c2⟩, ⟨k0, k1, k2, k3, k5⟩, g0, g3⟩ := hst.cells ⟨rfl, rfl, rfl⟩
  have HST := hid hst
  clear hst
  unfold rv
  go_wp2_with fail
  obtain ⟨a2, p2, r2, HA2⟩ : ∃ x q s, Hid (rdUpto 3 l p1 r1 = (x, q, s)) := ⟨_, _, _, hid rfl⟩
  have hp2 : p2 ≤ l.length := by have := rdUpto_pl (m := 3) (r := r1) hp1; rw [HA2.out] at this; exact this
  have C := HU.out p1 r1 hp1 3 (by omega) (by omega) _ (((HST.out.put (.slice A l.length c) (.int .i64 (p1 : Int)) (.bool (!r1))).cell (b := ⟨(a1 : Int), 0, 0, 0, z32, 0, z32, z32⟩) (v := .int .i64 (a1 : Int)) 0 rfl)).bel
  rw [HA2.out] at C
  refine C.mono ?_
  clear C
  rintro e w2 ⟨rfl, hb⟩
  have hst : AtSt w w2 (.slice A l.length c) (.int .i64 (p1 : Int)) (.bool (!r1)) ⟨(a1 : Int), 0, 0, 0, z32, 0, z32, z32⟩ := (((HST.out.put (.slice A l.length c) (.int .i64 (p1 : Int)) (.bool (!r1))).cell (b := ⟨(a1 : Int), 0, 0, 0, z32, 0, z32, z32⟩) (v := .int .i64 (a1 : Int)) 0 rfl)).below hb
  clear hb HST c0 c1 c2 k0 k1 k2 k3 k5 g0 g3
  obtain ⟨⟨c0, c1, c2⟩, ⟨k0, k1, k2, k3, k5⟩, g0, g3⟩ := hst.cells ⟨rfl, rfl, rfl⟩
  have HST := hid hst
  clear hst
  unfold rv
  go_wp2_with fail
  obtain ⟨a3, p3, r3, HA3⟩ : ∃ x q s, Hid (rdUpto 1099511627776 l p2 r2 = (x, q, s)) := ⟨_, _, _, hid rfl⟩
  have hp3 : p3 ≤ l.length := by have := rdUpto_pl (m := 1099511627776) (r := r2) hp2; rw [HA3.out] at this; exact this
  have C := HU.out p2 r2 hp2 1099511627776 (by omega) (by omega) _ (((HST.out.put (.slice A l.length c) (.int .i64 (p2 : Int)) (.bool (!r2))).cell (b := ⟨(a1 : Int), (a2 : Int), 0, 0, z32, 0, z32, z32⟩) (v := .int .i64 (a2 : Int)) 1 rfl)).bel
  rw [HA3.out] at C
  refine C.mono ?_
  clear C
  rintro e w3 ⟨rfl, hb⟩
  have hst : AtSt w w3 (.slice A l.length c) (.int .i64 (p2 : Int)) (.bool (!r2)) ⟨(a1 : Int), (a2 : Int), 0, 0, z32, 0, z32, z32⟩ := (((HST.out.put (.slice A l.length c) (.int .i64 (p2 : Int)) (.bool (!r2))).cell (b := ⟨(a1 : Int), (a2 : Int), 0, 0, z32, 0, z32, z32⟩) (v := .int .i64 (a2 : Int)) 1 rfl)).below hb
  clear hb HST c0 c1 c2 k0 k1 k2 k3 k5 g0 g3
  obtain ⟨⟨c0, c1, c2⟩, ⟨k0, k1, k2, k3, k5⟩, g0, g3⟩ := hst.cells ⟨rfl, rfl, rfl⟩
  have HST := hid hst
  clear hst
  unfold rv
  go_wp2_with fail
  obtain ⟨a4, p4, r4, HA4⟩ : ∃ x q s, Hid (rdUpto 3 l p3 r3 = (x, q, s)) := ⟨_, _, _, hid rfl⟩
  have hp4 : p4 ≤ l.length := by have := rdUpto_pl (m := 3) (r := r3) hp3; rw [HA4.out] at this; exact this
  have C := HU.out p3 r3 hp3 3 (by omega) (by omega) _ (((HST.out.put (.slice A l.length c) (.int .i64 (p3 : Int)) (.bool (!r3))).cell (b := ⟨(a1 : Int), (a2 : Int), (a3 : Int), 0, z32, 0, z32, z32⟩) (v := .int .i64 (a3 : Int)) 2 rfl)).bel
  rw [HA4.out] at C
  refine C.mono ?_
  clear C
  rintro e w4 ⟨rfl, hb⟩
  have hst : AtSt w w4 (.slice A l.length c) (.int .i64 (p3 : Int)) (.bool (!r3)) ⟨(a1 : Int), (a2 : Int), (a3 : Int), 0, z32, 0, z32, z32⟩ := (((HST.out.put (.slice A l.length c) (.int .i64 (p3 : Int)) (.bool (!r3))).cell (b := ⟨(a1 : Int), (a2 : Int), (a3 : Int), 0, z32, 0, z32, z32⟩) (v := .int .i64 (a3 : Int)) 2 rfl)).below hb
  clear hb HST c0 c1 c2 k0 k1 k2 k3 k5 g0 g3
  obtain ⟨⟨c0, c1, c2⟩, ⟨k0, k1, k2, k3, k5⟩, g0, g3⟩ := hst.cells ⟨rfl, rfl, rfl⟩
  have HST := hid hst
  clear hst
  unfold rv
  go_wp2_with fail
  obtain ⟨h5, p5, r5, HA5⟩ : ∃ x q s, Hid (rdHash l p4 r4 = (x, q, s)) := ⟨_, _, _, hid rfl⟩
  have hp5 : p5 ≤ l.length := by have := rdHash_pl8 (l := l) (p := p4) (r := r4) hp4; rw [HA5.out] at this; exact this
  have HL5 : Hid (h5.length = 32) := hid (by have := rdHash_32 l p4 r4; rw [HA5.out] at this; exact this)
  have C := HH.out p4 r4 hp4 _ (((HST.out.put (.slice A l.length c) (.int .i64 (p4 : Int)) (.bool (!r4))).cell (b := ⟨(a1 : Int), (a2 : Int), (a3 : Int), (a4 : Int), z32, 0, z32, z32⟩) (v := .int .i64 (a4 : Int)) 3 rfl)).bel
  rw [HA5.out] at C
  refine C.mono ?_
  clear C
  rintro e w5 ⟨rfl, hb⟩
  have hst : AtSt w w5 (.slice A l.length c) (.int .i64 (p4 : Int)) (.bool (!r4)) ⟨(a1 : Int), (a2 : Int), (a3 : Int), (a4 : Int), z32, 0, z32, z32⟩ := (((HST.out.put (.slice A l.length c) (.int .i64 (p4 : Int)) (.bool (!r4))).cell (b := ⟨(a1 : Int), (a2 : Int), (a3 : Int), (a4 : Int), z32, 0, z32, z32⟩) (v := .int .i64 (a4 : Int)) 3 rfl)).below hb
  clear hb HST c0 c1 c2 k0 k1 k2 k3 k5 g0 g3
  obtain ⟨⟨c0, c1, c2⟩, ⟨k0, k1, k2, k3, k5⟩, g0, g3⟩ := hst.cells ⟨rfl, rfl, rfl⟩
  have HST := hid hst
  clear hst
  unfold rv
  go_wp2_with (refine wpList_store_ha rfl _ _ rfl rfl rfl (HST.out.put (.slice A l.length c) (.int .i64 (p5 : Int)) (.bool (!r5))).b3 ⟨rfl, rfl, rfl⟩ HL5.out ?_; intro wP hgP hbP hsP; have HSP : Hid (AtSt w wP (.slice A l.length c) (.int .i64 (p5 : Int)) (.bool (!r5)) ⟨(a1 : Int), (a2 : Int), (a3 : Int), (a4 : Int), h5, 0, z32, z32⟩) := hid ((HST.out.put (.slice A l.length c) (.int .i64 (p5 : Int)) (.bool (!r5))).att hgP hbP); obtain ⟨⟨d0, d1, d2⟩, ⟨e0, e1, e2, e3, e5⟩, f0, f3⟩ := HSP.out.cells ⟨HL5.out, rfl, rfl⟩; clear hgP hbP hsP)
  clear HST c0 c1 c2 k0 k1 k2 k3 k5 g0 g3
  obtain ⟨a6, p6, r6, HA6⟩ : ∃ x q s, Hid (rdUpto 1099511627776 l p5 r5 = (x, q, s)) := ⟨_, _, _, hid rfl⟩
  have hp6 : p6 ≤ l.length := by have := rdUpto_pl (m := 1099511627776) (r := r5) hp5; rw [HA6.out] at this; exact this
  have C := HU.out p5 r5 hp5 1099511627776 (by omega) (by omega) _ (HSP.out).bel
  rw [HA6.out] at C
  refine C.mono ?_
  clear C
  rintro e w6 ⟨rfl, hb⟩
  have hst : AtSt w w6 (.slice A l.length c) (.int .i64 (p5 : Int)) (.bool (!r5)) ⟨(a1 : Int), (a2 : Int), (a3 : Int), (a4 : Int), h5, 0, z32, z32⟩ := (HSP.out).below hb
  clear hb HSP d0 d1 d2 e0 e1 e2 e3 e5 f0 f3
  obtain ⟨⟨c0, c1, c2⟩, ⟨k0, k1, k2, k3, k5⟩, g0, g3⟩ := hst.cells ⟨HL5.out, rfl, rfl⟩
  have HST := hid hst
  clear hst
  unfold rv
  go_wp2_with fail
  obtain ⟨h7, p7, r7, HA7⟩ : ∃ x q s, Hid (rdHash l p6 r6 = (x, q, s)) := ⟨_, _, _, hid rfl⟩
  have hp7 : p7 ≤ l.length := by have := rdHash_pl8 (l := l) (p := p6) (r := r6) hp6; rw [HA7.out] at this; exact this
  have HL7 : Hid (h7.length = 32) := hid (by have := rdHash_32 l p6 r6; rw [HA7.out] at this; exact this)
  have C := HH.out p6 r6 hp6 _ (((HST.out.put (.slice A l.length c) (.int .i64 (p6 : Int)) (.bool (!r6))).cell (b := ⟨(a1 : Int), (a2 : Int), (a3 : Int), (a4 : Int), h5, (a6 : Int), z32, z32⟩) (v := .int .i64 (a6 : Int)) 36 (atc_pv ⟨HL5.out, rfl, rfl⟩ _))).bel
  rw [HA7.out] at C
  refine C.mono ?_
  clear C
  rintro e w7 ⟨rfl, hb⟩
  have hst : AtSt w w7 (.slice A l.length c) (.int .i64 (p6 : Int)) (.bool (!r6)) ⟨(a1 : Int), (a2 : Int), (a3 : Int), (a4 : Int), h5, (a6 : Int), z32, z32⟩ := (((HST.out.put (.slice A l.length c) (.int .i64 (p6 : Int)) (.bool (!r6))).cell (b := ⟨(a1 : Int), (a2 : Int), (a3 : Int), (a4 : Int), h5, (a6 : Int), z32, z32⟩) (v := .int .i64 (a6 : Int)) 36 (atc_pv ⟨HL5.out, rfl, rfl⟩ _))).below hb
  clear hb HST c0 c1 c2 k0 k1 k2 k3 k5 g0 g3
  obtain ⟨⟨c0, c1, c2⟩, ⟨k0, k1, k2, k3, k5⟩, g0, g3⟩ := hst.cells ⟨HL5.out, rfl, rfl⟩
  have HST := hid hst
  clear hst
  unfold rv
  go_wp2_with (refine wpList_store_pa rfl _ _ rfl rfl rfl (HST.out.put (.slice A l.length c) (.int .i64 (p7 : Int)) (.bool (!r7))).b3 ⟨HL5.out, rfl, rfl⟩ HL7.out ?_; intro wP hgP hbP hsP; have HSP : Hid (AtSt w wP (.slice A l.length c) (.int .i64 (p7 : Int)) (.bool (!r7)) ⟨(a1 : Int), (a2 : Int), (a3 : Int), (a4 : Int), h5, (a6 : Int), h7, z32⟩) := hid ((HST.out.put (.slice A l.length c) (.int .i64 (p7 : Int)) (.bool (!r7))).att hgP hbP); obtain ⟨⟨d0, d1, d2⟩, ⟨e0, e1, e2, e3, e5⟩, f0, f3⟩ := HSP.out.cells ⟨HL5.out, HL7.out, rfl⟩; clear hgP hbP hsP)
  clear HST c0 c1 c2 k0 k1 k2 k3 k5 g0 g3
  obtain ⟨h8, p8, r8, HA8⟩ : ∃ x q s, Hid (rdHash l p7 r7 = (x, q, s)) := ⟨_, _, _, hid rfl⟩
  have hp8 : p8 ≤ l.length := by have := rdHash_pl8 (l := l) (p := p7) (r := r7) hp7; rw [HA8.out] at this; exact this
  have HL8 : Hid (h8.length = 32) := hid (by have := rdHash_32 l p7 r7; rw [HA8.out] at this; exact this)
  have C := HH.out p7 r7 hp7 _ (HSP.out).bel
  rw [HA8.out] at C
  refine C.mono ?_
  clear C
  rintro e w8 ⟨rfl, hb⟩
  have hst : AtSt w w8 (.slice A l.length c) (.int .i64 (p7 : Int)) (.bool (!r7)) ⟨(a1 : Int), (a2 : Int), (a3 : Int), (a4 : Int), h5, (a6 : Int), h7, z32⟩ := (HSP.out).below hb
  clear hb HSP d0 d1 d2 e0 e1 e2 e3 e5 f0 f3
  obtain ⟨⟨c0, c1, c2⟩, ⟨k0, k1, k2, k3, k5⟩, g0, g3⟩ := hst.cells ⟨HL5.out, HL7.out, rfl⟩
  have HST := hid hst
  clear hst
  unfold rv
  obtain ⟨a, HAT⟩ : ∃ a : AtM, Hid ((⟨(a1 : Int), (a2 : Int), (a3 : Int), (a4 : Int), h5, (a6 : Int), h7, h8⟩ : AtM) = a) := ⟨_, hid rfl⟩
  have HOK : Hid a.Ok := hid (by rw [← HAT.out]; exact ⟨HL5.out, HL7.out, HL8.out⟩)
  have HRAW : Hid (rawA l p r = (a, p8, r8)) := hid (by rw [← HAT.out]; unfold rawA; simp only [HA1.out, HA2.out, HA3.out, HA4.out, HA5.out, HA6.out, HA7.out, HA8.out])
  go_upto_region 10 with (refine wpList_store_tag rfl _ _ rfl rfl rfl (HST.out.put (.slice A l.length c) (.int .i64 (p8 : Int)) (.bool (!r8))).b3 ⟨HL5.out, HL7.out, rfl⟩ HL8.out ?_; intro wP hgP hbP hsP; have HSP : Hid (AtSt w wP (.slice A l.length c) (.int .i64 (p8 : Int)) (.bool (!r8)) ⟨(a1 : Int), (a2 : Int), (a3 : Int), (a4 : Int), h5, (a6 : Int), h7, h8⟩) := hid ((HST.out.put (.slice A l.length c) (.int .i64 (p8 : Int)) (.bool (!r8))).att hgP hbP); clear hgP hbP hsP)
  rw [HAT.out] at HSP
  clear HST c0 c1 c2 k0 k1 k2 k3 k5 g0 g3 HA1 HA2 HA3 HA4 HA5 HA6 HA7 HA8 HAT
  cases r8 with
  | false =>
    have hI : atIs l p r = false := by unfold atIs; rw [HRAW.out]; rfl
    have HI := hid hI
    clear hI
    have hbz := HBZ.out
    have i0 := cell_blk HSP.out.b1 0
    have i1 := cell_blk HSP.out.b1 1
    have i2 := cell_blk HSP.out.b1 2
    have j1 := free_blk HSP.out.b1
    simp at i0 i1 i2
    obtain ⟨⟨d0, d1, d2⟩, _, _, _⟩ := HSP.out.cells HOK.out
    have hfin : (((wP.setCell ⟨w.heap.size + 1, 0, none⟩ (.slice A l.length c)).setCell ⟨w.heap.size + 1, 1, none⟩ (.int .i64 (p8 : Int))).setCell ⟨w.heap.size + 1, 2, none⟩ (.bool true)).heap[w.heap.size + 1]? = some (.cells #[.slice A l.length c, .int .i64 (p8 : Int), .bool true] 39 (0, 0)) := set_blk (set_blk (set_blk HSP.out.b1 0 _) 1 _) 2 _
    have hfin2 : (((wP.setCell ⟨w.heap.size + 1, 0, none⟩ (.slice A l.length c)).setCell ⟨w.heap.size + 1, 1, none⟩ (.int .i64 (p8 : Int))).setCell ⟨w.heap.size + 1, 2, none⟩ (.bool true)).heap[w.heap.size + 1 + 1]? = some (.cells Z 25 (0, 0)) := by
      have hg := HSP.out.b2
      unfold BoxA at hg
      rw [HZ.out] at hg
      exact blk_other (blk_other (blk_other hg _ (by omega)) _ (by omega)) _ (by omega)
    have hfb : Below w.heap.size w (((wP.setCell ⟨w.heap.size + 1, 0, none⟩ (.slice A l.length c)).setCell ⟨w.heap.size + 1, 1, none⟩ (.int .i64 (p8 : Int))).setCell ⟨w.heap.size + 1, 2, none⟩ (.bool true)) := ((HSP.out.bel.setCell (Nat.le_succ _) _).setCell (Nat.le_succ _) _).setCell (Nat.le_succ _) _
    have hs : storeAtt (.pointer (some ⟨w.heap.size + 1 + 1, 0, none⟩)) (.agg Z) (((wP.setCell ⟨w.heap.size + 1, 0, none⟩ (.slice A l.length c)).setCell ⟨w.heap.size + 1, 1, none⟩ (.int .i64 (p8 : Int))).setCell ⟨w.heap.size + 1, 2, none⟩ (.bool true)) = .ok .skip (((wP.setCell ⟨w.heap.size + 1, 0, none⟩ (.slice A l.length c)).setCell ⟨w.heap.size + 1, 1, none⟩ (.int .i64 (p8 : Int))).setCell ⟨w.heap.size + 1, 2, none⟩ (.bool true)) := by
      rw [storeAtt_eq hfin2 HSZ.out HSZ.out HZ1.out, setAtt_self hfin2]
    have HF1 := hid hfin
    have HF2 := hid hfin2
    have HFB := hid hfb
    clear hfin hfin2 hfb
    go_wp2_with fail
    refine bodyPost_ret (results_ra rfl _ _ _ _ _ _ _ _ _ rfl rfl rfl HF1.out HF2.out rfl HSZ.out) rfl ⟨?_, HFB.out⟩
    rw [HRAW.out]
    unfold atOf
    rw [HI.out, if_neg (by decide), ← HZ.out]
    rfl
  | true =>
    obtain ⟨CA, HCA⟩ : ∃ C : Array Value, Hid (atc a = C) := ⟨_, hid rfl⟩
    obtain ⟨m, HM⟩ : ∃ q : Bool, Hid (mayA a = q) := ⟨_, hid rfl⟩
    have HMA : Hid (∀ W, Calls Tryd.prog 8 #[.agg CA] W fun e w' => e = .returned (.bool m) ∧ Below W.heap.size W w') := hid (fun W => by
      have := refMay8_any a W HOK.out
      rw [HCA.out, HM.out] at this
      exact this)
    have HLD : Hid (∀ W, BoxA W (w.heap.size + 1 + 1 + 1) a → loadAtt (.pointer (some ⟨w.heap.size + 1 + 1 + 1, 0, none⟩)) W = .ok (.value (.agg CA)) W) := hid (fun W h => by
      have := loadAtt_eq h HOK.out
      rw [HCA.out] at this
      exact this)
    have hI : atIs l p r = m := by unfold atIs; rw [HRAW.out]; exact HM.out
    have HI := hid hI
    have l0 := HLD.out wP HSP.out.b3
    obtain ⟨⟨d0, d1, d2⟩, _, _, _⟩ := HSP.out.cells HOK.out
    clear hI
    go_wp2_with fail
    refine (HMA.out wP).mono ?_
    rintro e w9 ⟨rfl, hb9⟩
    have HS9 := hid (HSP.out.below hb9)
    clear l0 d0 d1 d2
    cases m with
    | false =>
      have hbz := HBZ.out
      have i0 := cell_blk HS9.out.b1 0
      have i1 := cell_blk HS9.out.b1 1
      have i2 := cell_blk HS9.out.b1 2
      have j1 := free_blk HS9.out.b1
      simp at i0 i1 i2
      obtain ⟨⟨d0, d1, d2⟩, _, _, _⟩ := HS9.out.cells HOK.out
      have hfin : (((w9.setCell ⟨w.heap.size + 1, 0, none⟩ (.slice A l.length c)).setCell ⟨w.heap.size + 1, 1, none⟩ (.int .i64 (p8 : Int))).setCell ⟨w.heap.size + 1, 2, none⟩ (.bool false)).heap[w.heap.size + 1]? = some (.cells #[.slice A l.length c, .int .i64 (p8 : Int), .bool false] 39 (0, 0)) := set_blk (set_blk (set_blk HS9.out.b1 0 _) 1 _) 2 _
      have hfin2 : (((w9.setCell ⟨w.heap.size + 1, 0, none⟩ (.slice A l.length c)).setCell ⟨w.heap.size + 1, 1, none⟩ (.int .i64 (p8 : Int))).setCell ⟨w.heap.size + 1, 2, none⟩ (.bool false)).heap[w.heap.size + 1 + 1]? = some (.cells Z 25 (0, 0)) := by
        have hg := HS9.out.b2
        unfold BoxA at hg
        rw [HZ.out] at hg
        exact blk_other (blk_other (blk_other hg _ (by omega)) _ (by omega)) _ (by omega)
      have hfb : Below w.heap.size w (((w9.setCell ⟨w.heap.size + 1, 0, none⟩ (.slice A l.length c)).setCell ⟨w.heap.size + 1, 1, none⟩ (.int .i64 (p8 : Int))).setCell ⟨w.heap.size + 1, 2, none⟩ (.bool false)) := ((HS9.out.bel.setCell (Nat.le_succ _) _).setCell (Nat.le_succ _) _).setCell (Nat.le_succ _) _
      have hs : storeAtt (.pointer (some ⟨w.heap.size + 1 + 1, 0, none⟩)) (.agg Z) (((w9.setCell ⟨w.heap.size + 1, 0, none⟩ (.slice A l.length c)).setCell ⟨w.heap.size + 1, 1, none⟩ (.int .i64 (p8 : Int))).setCell ⟨w.heap.size + 1, 2, none⟩ (.bool false)) = .ok .skip (((w9.setCell ⟨w.heap.size + 1, 0, none⟩ (.slice A l.length c)).setCell ⟨w.heap.size + 1, 1, none⟩ (.int .i64 (p8 : Int))).setCell ⟨w.heap.size + 1, 2, none⟩ (.bool false)) := by
        rw [storeAtt_eq hfin2 HSZ.out HSZ.out HZ1.out, setAtt_self hfin2]
      have HF1 := hid hfin
      have HF2 := hid hfin2
      have HFB := hid hfb
      clear hfin hfin2 hfb
      go_wp2_with fail
      refine bodyPost_ret (results_ra rfl _ _ _ _ _ _ _ _ _ rfl rfl rfl HF1.out HF2.out rfl HSZ.out) rfl ⟨?_, HFB.out⟩
      rw [HRAW.out]
      unfold atOf
      rw [HI.out, if_neg (by decide), ← HZ.out]
      rfl
    | true =>
      go_upto_region 12 with (fail)
      have HXR : Hid (∀ W : World, W.heap[w.heap.size]? = some (.cells #[.slice A l.length c, .int .i64 (p8 : Int), .bool false] 39 (0, 0)) → BoxA W (w.heap.size + 1 + 1 + 1) a → W.cell? ⟨w.heap.size, 0, none⟩ = some (.slice A l.length c) ∧ W.cell? ⟨w.heap.size, 1, none⟩ = some (.int .i64 (p8 : Int)) ∧ W.cell? ⟨w.heap.size, 2, none⟩ = some (.bool false) ∧ loadAtt (.pointer (some ⟨w.heap.size + 1 + 1 + 1, 0, none⟩)) W = .ok (.value (.agg CA)) W) := hid (fun W h k => ⟨cell_blk h 0, cell_blk h 1, cell_blk h 2, HLD.out W k⟩)
      have HCS : Hid (CA.size = 101 ∧ CA.all (·.oneCell') = true) := hid (by rw [← HCA.out]; exact ⟨atc_size HOK.out, atc_one _⟩)
      have hb0 : w9.heap[w.heap.size]? = some (.cells #[.slice A l.length c, .int .i64 (p8 : Int), .bool false] 39 (0, 0)) := HS9.out.b0
      have hb2 := HS9.out.b2
      unfold BoxA at hb2
      rw [HZ.out] at hb2
      refine wp_region_held_drew (S := fun W => W.cell? ⟨w.heap.size, 0, none⟩ = some (.slice A l.length c) ∧ W.cell? ⟨w.heap.size, 1, none⟩ = some (.int .i64 (p8 : Int)) ∧ W.cell? ⟨w.heap.size, 2, none⟩ = some (.bool false) ∧ loadAtt (.pointer (some ⟨w.heap.size + 1 + 1 + 1, 0, none⟩)) W = .ok (.value (.agg CA)) W) (by kernel_rfl) (HXR.out w9.drew hb0 HS9.out.b3) (fun hHeld => ?_)
      refine' take_on (i := 0) (v := _) rfl (by kernel_rfl) (by kernel_rfl) (by kernel_rfl) (fun _ _ _ h => h) (by rfl) ?_ (by assumption) ?_
      rotate_left
      · (intro W hW; (try dsimp only at hW); obtain ⟨hW1, hW2, hW3, _⟩ := hW; go_simp; first | done | with_reducible rfl)
      try simp only [Act.put, List.setIfInBounds_toArray, List.set_cons_zero, List.set_cons_succ]
      refine' take_on (i := 1) (v := _) rfl (by kernel_rfl) (by kernel_rfl) (by kernel_rfl) (fun _ _ _ h => h) (by rfl) (fun W hW => hW.2.2.2) (by assumption) ?_
      try simp only [Act.put, List.setIfInBounds_toArray, List.set_cons_zero, List.set_cons_succ]
      have hR3 : (#[.slice A l.length c, .int .i64 (p8 : Int), .bool false] : Array Value).all (·.oneCell') = true := all_oneCell_toArray (by intro u hu; simp only [List.mem_cons, List.not_mem_nil, or_false] at hu; obtain rfl | rfl | rfl := hu <;> rfl)
      have HIS : Hid (atIs l p r = true) := hid HI.out
      have hlt := HS9.out.lt
      have HB1 := hid HS9.out.b1
      have HB0 := hid hb0
      have HB2 := hid hb2
      have HB3 := hid HS9.out.b3
      have HBL := hid HS9.out.bel
      clear hb0 hb2
      refine call_on (i := 2) rfl (by kernel_rfl) (by rfl) (fun K hK => ?_)
      refine wp_store_whole (w := w9.drew) (C := #[.slice A l.length c, .int .i64 (p8 : Int), .bool false]) _ _ rfl rfl rfl HB1.out size_ref rfl hR3 ?_
      intro wa hga hra hsa
      have h0 := (hga.block _ (by show _ < w9.heap.size; omega) (fun e => by injection e with e; omega)).trans HB0.out
      have h2 := (hga.block _ (by show _ < w9.heap.size; omega) (fun e => by injection e with e; omega)).trans HB2.out
      have h3 : BoxA wa (w.heap.size + 1 + 1 + 1) a := (hga.block _ (by show _ < w9.heap.size; omega) (fun e => by injection e with e; omega)).trans HB3.out
      refine hK.out _ _ (HXR.out wa h0 h3) (fun hHeld => ?_)
      clear hK K
      refine call_on (i := 3) rfl (by kernel_rfl) (by rfl) (fun K hK => ?_)
      refine wp_store_whole (w := wa) (C := CA) _ _ rfl rfl rfl h2 (by rw [size_att, HCS.out.1]) (by rw [HSZ.out, HCS.out.1]) HCS.out.2 ?_
      intro wb hgb hrb hsb
      have i0 := (hgb.block _ (lt_of_block h0) (fun e => by injection e with e; omega)).trans h0
      have i3 : BoxA wb (w.heap.size + 1 + 1 + 1) a := (hgb.block _ h3.lt (fun e => by injection e with e; omega)).trans h3
      have hra2 := (hgb.block _ (lt_of_block hra) (fun e => by injection e with e; omega)).trans hra
      have hlt0 := lt_of_block h0
      have hlti := lt_of_block i0
      have hBB : Below w.heap.size w wb := below_into (below_into (HBL.out.drew) (Nat.le_succ _) hga (by show _ ≤ w9.heap.size; omega)) (by omega) hgb (by omega)
      refine hK.out _ _ (HXR.out wb i0 i3) (fun hHeld => ?_)
      clear hK K
      refine' take_on (i := 4) (v := _) rfl (by kernel_rfl) (by kernel_rfl) (by kernel_rfl) (fun _ _ _ h => h) (by rfl) ?_ (by assumption) ?_
      rotate_left
      · (intro W hW; (try dsimp only at hW); go_simp; first | done | with_reducible rfl)
      try simp only [Act.put, List.setIfInBounds_toArray, List.set_cons_zero, List.set_cons_succ]
      refine wpAnyH_done (by kernel_rfl) ?_ _
      go_wp2_with fail
      refine bodyPost_ret (results_ra rfl _ _ _ _ _ _ _ _ _ rfl rfl rfl hra2 hrb rfl HCS.out.1) rfl ⟨?_, hBB⟩
      rw [HRAW.out]
      unfold atOf
      rw [HIS.out, if_pos rfl, HRAW.out, HCA.out]
      rfl
end Go.Proofs.YtmhchihcgliinaaDoor

/-
  '==' of whole attestations.
-/
namespace Go.Proofs.YtmhchihcgliinaaDoor
set_option maxRecDepth 20000
open Go.RowKit

/-- Two hashes are the same where all their bytes are: at any depth. -/
theorem eq_hash_at (d : Nat) (a b : List UInt8) (ha : a.length = 32) (hb : b.length = 32) (w : World) : (Op.equalIn (d + 2) 23 (.agg (hcells a)) (.agg (hcells b))).run Tryd.prog w = .ok (decide (a = b)) w := by
  obtain ⟨i0, hi, _⟩ := info_parts info_u8
  rw [run_equalIn_array w (d + 1) (hcells a) (hcells b) under_hash hi, eqItems_bytes d a b w _ (fun i h => by have := List.mem_range.1 h; omega)]
  congr 1
  rw [Bool.eq_iff_iff]
  simp only [List.all_eq_true, List.mem_range, decide_eq_true_eq]
  constructor
  · intro h
    apply List.ext_getElem?
    intro i
    by_cases h32 : i < 32
    · exact h i h32
    · rw [List.getElem?_eq_none (by omega), List.getElem?_eq_none (by omega)]
  · rintro rfl i _
    rfl

/-- What '==' looks at, field by field: type, place, and whether it is passed over. -/
def eqF (d : Nat) (xs ys : Array Value) : List (TypeId × Nat × Bool) → Sem Bool
  | [] => pure true
  | (t, o, s) :: fs =>
    if s = true then eqF d xs ys fs
    else do
      let a ← Go.part t xs o
      let b ← Go.part t ys o
      let r ← Op.equalIn d t a b
      if (!r) = true then pure false else eqF d xs ys fs
theorem eqF_of (d : Nat) (xs ys : Array Value) : ∀ fs : List Field, Op.eqFields d xs ys fs = eqF d xs ys (fs.map fun f => (f.type, f.offset, f.name == "_"))
  | [] => rfl
  | f :: fs => by
    unfold Op.eqFields
    rw [eqF_of d xs ys fs, List.map_cons]
    conv => rhs; unfold eqF
    by_cases h : f.name = "_" <;> simp [h]
theorem eqF_step {P : Program} {d : Nat} {xs ys : Array Value} {t : TypeId} {o : Nat} {fs : List (TypeId × Nat × Bool)} {w : World} {u v : Value} {r : Bool} (h1 : (Go.part t xs o).run P w = .ok u w) (h2 : (Go.part t ys o).run P w = .ok v w)
    (h3 : (Op.equalIn d t u v).run P w = .ok r w) : (eqF d xs ys ((t, o, false) :: fs)).run P w = if r = true then (eqF d xs ys fs).run P w else .ok false w := by
  conv => lhs; unfold eqF
  simp only [Bool.false_eq_true, if_false, Sem.run_bind, h1, h2, h3, Result.andThen_ok]
  cases r <;> rfl

theorem fields_att : (Tryd.prog.fieldsOf 25).toList.map (fun f => (f.type, f.offset, f.name == "_")) =
    [(3, 0, false), (3, 1, false), (3, 2, false), (3, 3, false), (23, 4, false), (3, 36, false), (23, 37, false), (23, 69, false)] := by kernel_rfl
theorem under_att_int : Tryd.prog.underlying 3 = some (.int .i64) := by kernel_rfl

theorem part_att_hash {w : World} {C : Array Value} {o : Nat} {l : List UInt8} (h : (C.toList.drop o).take 32 = bcells l) : (Go.part 23 C o).run Tryd.prog w = .ok (.agg (hcells l)) w := by
  have hz := size_hash
  obtain ⟨i, hi, hs⟩ := Option.map_eq_some_iff.1 hz
  have hc : Tryd.prog.cellsOf 23 = 32 := by kernel_rfl
  have e : C.extract o (o + 32) = hcells l := by
    apply Array.ext'
    rw [hcells_list, ← h, Array.toList_extract, List.extract_eq_take_drop]
    simp
  unfold Go.part
  simp only [Sem.run_bind, isAgg, run_underlying under_hash, Result.andThen_ok, run_sizeOf w hi, hc, e, Sem.run_pure, if_true]
theorem part_att_int {w : World} {C : Array Value} {o : Nat} {v : Value} (h : C[o]? = some v) : (Go.part 3 C o).run Tryd.prog w = .ok v w := run_part_plain (P := Tryd.prog) w (by kernel_rfl) h

theorem drop_at {α : Type} {l pre m post : List α} {o : Nat} (e : l = pre ++ (m ++ post)) (ho : pre.length = o) (hm : m.length = 32) : (l.drop o).take 32 = m := by
  subst e ho
  rw [List.drop_left, ← hm, List.take_left]

set_option maxHeartbeats 1600000 in
theorem eq_att (a b : AtM) (ho : a.Ok) (hp : b.Ok) (w : World) : (Op.equalIn 10000 25 (.agg (atc a)) (.agg (atc b))).run Tryd.prog w = .ok (decide (a = b)) w := by
  have K : ∀ c : AtM, c.Ok → (atc c)[0]? = some (.int .i64 c.bo) ∧ (atc c)[1]? = some (.int .i64 c.ki) ∧ (atc c)[2]? = some (.int .i64 c.vi) ∧ (atc c)[3]? = some (.int .i64 c.ph) ∧ (atc c)[36]? = some (.int .i64 c.pv)
      ∧ ((atc c).toList.drop 4).take 32 = bcells c.ha ∧ ((atc c).toList.drop 37).take 32 = bcells c.pa ∧ ((atc c).toList.drop 69).take 32 = bcells c.tg := by
    intro c hc
    refine ⟨rfl, rfl, rfl, rfl, ?_, ?_, ?_, ?_⟩
    · unfold atc atl
      rw [List.getElem?_toArray, List.getElem?_append_right (by simp), List.getElem?_append_right (by simp [bcells_length, hc.ha])]
      simp [bcells_length, hc.ha]
    · exact drop_at (pre := [.int .i64 c.bo, .int .i64 c.ki, .int .i64 c.vi, .int .i64 c.ph]) (m := bcells c.ha) (post := [.int .i64 c.pv] ++ (bcells c.pa ++ bcells c.tg)) rfl rfl (by rw [bcells_length, hc.ha])
    · exact drop_at (pre := [.int .i64 c.bo, .int .i64 c.ki, .int .i64 c.vi, .int .i64 c.ph] ++ (bcells c.ha ++ [.int .i64 c.pv])) (m := bcells c.pa) (post := bcells c.tg) (by show atl c = _; unfold atl; simp only [List.append_assoc]) (by simp [bcells_length, hc.ha]) (by rw [bcells_length, hc.pa])
    · exact drop_at (pre := [.int .i64 c.bo, .int .i64 c.ki, .int .i64 c.vi, .int .i64 c.ph] ++ (bcells c.ha ++ ([.int .i64 c.pv] ++ bcells c.pa))) (m := bcells c.tg) (post := []) (by show atl c = _; unfold atl; simp only [List.append_assoc, List.append_nil]) (by simp [bcells_length, hc.ha, hc.pa]) (by rw [bcells_length, hc.tg])
  obtain ⟨a0, a1, a2, a3, a4, a5, a6, a7⟩ := K a ho
  obtain ⟨b0, b1, b2, b3, b4, b5, b6, b7⟩ := K b hp
  have EI : ∀ x y : Int, (Op.equalIn 9999 3 (.int .i64 x) (.int .i64 y)).run Tryd.prog w = .ok (x == y) w := fun x y => run_equalIn_int (P := Tryd.prog) w 9998 3 .i64 .i64 x y under_att_int
  rw [run_equalIn_struct w 9999 _ _ _ under_att (by kernel_rfl), eqF_of, fields_att]
  rw [eqF_step (part_att_int a0) (part_att_int b0) (EI _ _), eqF_step (part_att_int a1) (part_att_int b1) (EI _ _), eqF_step (part_att_int a2) (part_att_int b2) (EI _ _), eqF_step (part_att_int a3) (part_att_int b3) (EI _ _),
    eqF_step (part_att_hash a5) (part_att_hash b5) (eq_hash_at 9997 _ _ ho.ha hp.ha w), eqF_step (part_att_int a4) (part_att_int b4) (EI _ _),
    eqF_step (part_att_hash a6) (part_att_hash b6) (eq_hash_at 9997 _ _ ho.pa hp.pa w), eqF_step (part_att_hash a7) (part_att_hash b7) (eq_hash_at 9997 _ _ ho.tg hp.tg w)]
  obtain ⟨p1, p2, p3, p4, p5, p6, p7, p8⟩ := a
  obtain ⟨q1, q2, q3, q4, q5, q6, q7, q8⟩ := b
  simp only [eqF, Sem.run_pure, AtM.mk.injEq, beq_iff_eq, decide_eq_true_eq]
  (repeat' split) <;> simp_all
end Go.Proofs.YtmhchihcgliinaaDoor

/-
  The sum of a given text, by the kernel: words and states behind each round are laid as tables (sumgen.py), and checked.
-/
namespace Go.Proofs.YtmhchihcgliinaaDoor
set_option maxRecDepth 20000

def ckNone : St := ⟨0, 0, 0, 0, 0, 0, 0, 0⟩
def ckSame (v u : St) : Bool := v.a == u.a && v.b == u.b && v.c == u.c && v.d == u.d && v.e == u.e && v.f == u.f && v.g == u.g && v.h == u.h
theorem ck_of_same {v u : St} (h : ckSame v u = true) : v = u := by
  simp only [ckSame, Bool.and_eq_true, beq_iff_eq] at h
  obtain ⟨⟨⟨⟨⟨⟨⟨h1, h2⟩, h3⟩, h4⟩, h5⟩, h6⟩, h7⟩, h8⟩ := h
  cases v; cases u
  simp_all
def ckWords (b : Nat → UInt8) (W : List UInt32) : Bool := (List.range 64).all fun i => W.getD i 0 == if i < 16 then wordB b i else sm1 (W.getD (i - 2) 0) + W.getD (i - 7) 0 + sm0 (W.getD (i - 15) 0) + W.getD (i - 16) 0
def ckRnds (W : List UInt32) (V : List St) : Bool := (List.range 64).all fun i => ckSame (V.getD (i + 1) ckNone) (rnd (kc i) (W.getD i 0) (V.getD i ckNone))
theorem ck_wd {b : Nat → UInt8} {W : List UInt32} (h : ckWords b W = true) (i : Nat) (hi : i < 64) : wd b i = W.getD i 0 := by
  have all : ∀ i, i < 64 → W.getD i 0 = if i < 16 then wordB b i else sm1 (W.getD (i - 2) 0) + W.getD (i - 7) 0 + sm0 (W.getD (i - 15) 0) + W.getD (i - 16) 0 := fun i hi => by
    have := List.all_eq_true.1 h i (List.mem_range.2 hi)
    exact eq_of_beq this
  induction i using Nat.strongRecOn with
  | _ i ih =>
    by_cases h16 : i < 16
    · rw [wd_low _ h16, all i hi, if_pos h16]
    · rw [wd_high _ (by omega) hi, all i hi, if_neg h16, ih _ (by omega) (by omega), ih _ (by omega) (by omega), ih _ (by omega) (by omega), ih _ (by omega) (by omega)]
theorem ck_states {b : Nat → UInt8} {s : Nat → UInt32} {W : List UInt32} {V : List St} (hw : ckWords b W = true) (hr : ckRnds W V = true) (h0 : ckSame (St.of s) (V.getD 0 ckNone) = true) : ∀ n, n ≤ 64 → rnds (wd b) n (St.of s) = V.getD n ckNone
  | 0, _ => ck_of_same h0
  | n + 1, h => by
    unfold rnds
    rw [ck_states hw hr h0 n (by omega), ck_wd hw n (by omega)]
    exact (ck_of_same (List.all_eq_true.1 hr n (List.mem_range.2 (by omega)))).symm
/-- A block's words as a function. -/
def ckAt (S : List UInt32) (i : Nat) : UInt32 := S.getD i 0
def ckByte (B : List UInt8) (j : Nat) : UInt8 := B.getD j 0
/-- What a table of a block must show: its words, its states, the words behind it. -/
def ckBlock (S : List UInt32) (B : List UInt8) (W : List UInt32) (V : List St) (S' : List UInt32) : Bool :=
  ckWords (ckByte B) W && ckRnds W V && ckSame (St.of (ckAt S)) (V.getD 0 ckNone) && (List.range 8).all fun i => ckAt S i + (V.getD 64 ckNone).at_ i == ckAt S' i
theorem ck_step {l : List UInt8} {k : Nat} {S : List UInt32} {B : List UInt8} {W : List UInt32} {V : List St} {S' : List UInt32} (h : ckBlock S B W V S' = true) (hB : (l.drop (64 * k)).take 64 = B) (hS : ∀ i, i < 8 → absb l k i = ckAt S i) :
    ∀ i, i < 8 → absb l (k + 1) i = ckAt S' i := fun i hi => by
  simp only [ckBlock, Bool.and_eq_true] at h
  obtain ⟨⟨⟨hw, hr⟩, h0⟩, hs⟩ := h
  have e1 : absb l (k + 1) i = turnS (absb l k) (fun j => l.getD (64 * k + j) 0) i := rfl
  have e2 : turnS (absb l k) (fun j => l.getD (64 * k + j) 0) i = turnS (ckAt S) (ckByte B) i := turnS_congr hS (fun j hj => by
    unfold ckByte
    rw [← hB, List.getD_eq_getElem?_getD, List.getD_eq_getElem?_getD, List.getElem?_take_of_lt hj, List.getElem?_drop]) i hi
  rw [e1, e2]
  have e3 : turnS (ckAt S) (ckByte B) i = ckAt S i + (rnds (wd (ckByte B)) 64 (St.of (ckAt S))).at_ i := rfl
  rw [e3, ck_states hw hr h0 64 (by omega)]
  exact eq_of_beq (List.all_eq_true.1 hs i (List.mem_range.2 hi))
theorem ck_start : ∀ (l : List UInt8) i, i < 8 → absb l 0 i = ckAt sl i := fun _ _ _ => rfl
/-- The sum's bytes out of the last words. -/
def ckOut (S : List UInt32) : List UInt8 := (List.range 32).map fun i => byteOf (ckAt S (i / 4)) (i % 4)
theorem ck_sum {x f : List UInt8} {n : Nat} {S : List UInt32} {H : List UInt8} (hf : fillS x = f) (hn : f.length / 64 = n) (hS : ∀ i, i < 8 → absb f n i = ckAt S i) (hH : ckOut S = H) : hl 32 (sumS x) = H := by
  rw [← hH]
  unfold hl ckOut
  apply List.map_congr_left
  intro i hi
  have hi2 := List.mem_range.1 hi
  unfold sumS
  rw [hf, hn, hS (i / 4) (by omega)]
end Go.Proofs.YtmhchihcgliinaaDoor
