/-
  What Make has in memory while it makes a certificate: the result yet nought, the certificate. A certificate with an attestation, a signature with its parts: built whole.
-/
import Derived.Test.YtnancafpecfcjaaDoorBs11
import Derived.Test.YtnancafpecfcjaaDoorBs7
namespace Go.Proofs.YtnancafpecfcjaaDoor
set_option maxRecDepth 20000
open Go.RowKit

/-- A certificate that has an attestation alone. -/
noncomputable def buildCtA (v : Value) (w : World) : Result Next := Sem.run Tryd.prog (execOp (fun _ => v) { dst := none, op := .build 30 #[(0, .tmp 0)], type := 0, pos := "", after := #[], guard := none }) w
theorem exec_build_cta (r : Operand → Value) (x : Operand) (dst : Option Tmp) (ty : TypeId) (pos : String) (after : Array Edge) (guard : Option (Nat × Bool)) (w : World) :
    Sem.run Tryd.prog (execOp r { dst := dst, op := .build 30 #[(0, x)], type := ty, pos := pos, after := after, guard := guard }) w = buildCtA (r x) w := by
  unfold buildCtA execOp
  simp
theorem buildCtA_eq (a : AtM) (ho : a.Ok) (w : World) : buildCtA (.agg (atc a)) w = .ok (.value (.agg (ctc ⟨a, []⟩ (.slice none 0 0)))) w := by
  have hsz : (atc a).size = 101 := atc_size ho
  have e0 : (atc a).zipIdx = ((atl a).zipIdx).toArray := by unfold atc; simp
  unfold buildCtA
  go_simp
  have e := putAt_mid (atl a) [] (atl atZ) [.slice none 0 0] (by rw [atl_length ho, atl_length atZ_ok])
  simp only [List.nil_append, List.length_nil] at e
  rw [← fold_putSg] at e
  exact e
/-- A signature of its parts. -/
noncomputable def buildSg2 (u v : Value) (w : World) : Result Next := Sem.run Tryd.prog (execOp (fun x => match x with
  | .tmp 0 => u
  | _ => v) { dst := none, op := .build 63 #[(0, .tmp 0), (1, .tmp 1)], type := 0, pos := "", after := #[], guard := none }) w
theorem exec_build_sg2 (r : Operand → Value) (x y : Operand) (dst : Option Tmp) (ty : TypeId) (pos : String) (after : Array Edge) (guard : Option (Nat × Bool)) (w : World) :
    Sem.run Tryd.prog (execOp r { dst := dst, op := .build 63 #[(0, x), (1, y)], type := ty, pos := pos, after := after, guard := guard }) w = buildSg2 (r x) (r y) w := by
  unfold buildSg2 execOp
  simp
theorem buildSg2_eq (n : Int) (t : List UInt8) (ht : t.length = 32) (w : World) : buildSg2 (.int .i64 n) (.agg (hcells t)) w = .ok (.value (.agg (sgc ⟨n, t⟩))) w := by
  have hsz : (hcells t).size = 32 := by rw [hcells_size, ht]
  have e0 : (hcells t).zipIdx = ((bcells t).zipIdx).toArray := by simp [hcells]
  unfold buildSg2
  go_simp
  have e := putAt_mid (bcells t) [.int .i64 n] (bcells z32) [] (by rw [bcells_length, bcells_length, ht]; rfl)
  simp only [List.append_nil, List.length_cons, List.length_nil] at e
  exact (fold_putSgO (bcells t) 0 1 _).trans e

/-- The tag is stored into a certificate's variable. -/
theorem atl_tgs (a : AtM) (s : Value) : atl a ++ [s] = ([.int .i64 a.bo, .int .i64 a.ki, .int .i64 a.vi, .int .i64 a.ph] ++ (bcells a.ha ++ ([.int .i64 a.pv] ++ bcells a.pa))) ++ (bcells a.tg ++ [s]) := by
  unfold atl
  simp only [List.append_assoc]
theorem wpList_store_ctg {ops : Array Oper} {rest : List Oper} {o : Oper} {ac : Act} {w : World} {Q : Exit → Act → World → Prop} (hgd : o.guard = none) (x y : Operand) (ho : o.op = .store 25 x y)
    {g : Nat} {a : AtM} {s : Value} {h : List UInt8} (hx : ac.eval x = .pointer (some ⟨g, 69, none⟩)) (hy : ac.eval y = .agg (hcells h)) (hg : BoxC w g ⟨a, []⟩ s) (hok : a.Ok) (hl : h.length = 32)
    (hh : ∀ w', w.grownBy w' (some g) → BoxC w' g ⟨{ a with tg := h }, []⟩ s → w'.heap.size = w.heap.size → wpList Tryd.prog ops Q rest (ac.put o.dst undef) w') : wpList Tryd.prog ops Q (o :: rest) ac w := by
  unfold BoxC ctc at hg
  rw [atl_tgs] at hg
  refine wpList_store_midh hgd x y ho hx hy hg (by simp only [List.length_append, bcells_length, hok.ha, hok.pa, List.length_cons, List.length_nil]) (by rw [bcells_length, hok.tg]) hl (fun w' h1 h2 h3 => hh w' h1 ?_ h3)
  unfold BoxC ctc
  rw [atl_tgs]
  exact h2

/-- Block B: the result yet nought; block g: the certificate. -/
structure MkSt (w0 w : World) (g : Nat) (a : AtM) (s : Value) : Prop where
  bel : Below w0.heap.size w0 w
  b0 : BoxC w w0.heap.size ctZ (.slice none 0 0)
  lt : w0.heap.size < g
  b1 : BoxC w g ⟨a, []⟩ s
section
variable {w0 w w' : World} {g : Nat} {a : AtM} {s : Value}
theorem MkSt.below (h : MkSt w0 w g a s) (hb : Below w.heap.size w w') : MkSt w0 w' g a s :=
  ⟨h.bel.trans (hb.mono h.bel.size), (hb.block _ h.b0.lt).trans h.b0, h.lt, (hb.block _ h.b1.lt).trans h.b1⟩
theorem MkSt.app (h : MkSt w0 w g a s) {T : TypeId} {L : List SgM} (ho : OwnE scl 33 T (g + 1) w s L) (hg : w.grownBy w' s.ownBlock) : MkSt w0 w' g a s := by
  have hlt := h.lt
  have hne : ∀ k, k ≤ g → some k ≠ s.ownBlock := fun k hk e => by
    have := (World.ownsRow.lt ho k e.symm).1
    omega
  refine ⟨h.bel.grown hg h.bel.size (fun k hk => by have := (World.ownsRow.lt ho k hk).1; omega), (hg.block _ h.b0.lt (hne _ (by omega))).trans h.b0, hlt, (hg.block _ h.b1.lt (hne _ (Nat.le_refl _))).trans h.b1⟩
theorem MkSt.sig (h : MkSt w0 w g a s) (ho : a.Ok) (v : Value) : MkSt w0 (w.setCell ⟨g, 101, none⟩ v) g a v := by
  have hlt := h.lt
  refine ⟨h.bel.setCell (by simp only; omega) _, blk_other h.b0 _ (by omega), hlt, ?_⟩
  have := set_blk h.b1 101 v
  unfold ctc at this
  rw [List.setIfInBounds_toArray, List.set_append_right _ _ (by rw [atl_length ho]; omega), atl_length ho] at this
  exact this
theorem MkSt.sigs (h : MkSt w0 w g a s) (ho : a.Ok) : w.cell? ⟨g, 101, none⟩ = some s ∧ (∀ i, w.frozen? ⟨g, i, none⟩ = false) := ⟨h.b1.sigs ho, h.b1.free⟩
end
/-- One result that lies in memory, and one that doesn't. -/
theorem results_cb {fn : Func} {q s : Tmp} (h : fn.results = #[.cell q 30, .tmp s]) (tmps : Array Value) (w : World) (g2 : Nat) (t2 : TypeId) (ys : Array Value) (v : Value)
    (hq : tmps.getD q undef = .pointer (some ⟨g2, 0, none⟩)) (hv : tmps.getD s undef = v) (h2 : w.heap[g2]? = some (.cells ys t2 (0, 0))) (hy : ys.size = 102) :
    (results fn tmps).run Tryd.prog w = .ok (.tuple #[.agg ys, v]) w := by
  have hq' : tmps[q]?.getD undef = .pointer (some ⟨g2, 0, none⟩) := by simpa using hq
  have hv' : tmps[s]?.getD undef = v := by simpa using hv
  have r2 := run_loadVar_row (P := Tryd.prog) w g2 t2 30 ys (0, 0) _ h2 under_ct rfl (by rw [size_ct, hy])
  simp [results, h, hq', hv', asAddr, r2]

-- what is made, case by case
section
variable {n : Int} {l r : List AtM} {a0 : AtM} {q : Nat}
theorem makeC_arg (h : quoS n = 0 ∨ l = []) : makeC n l = (ctZ, 1) := by
  cases l with
  | nil => rfl
  | cons a0 r =>
    obtain h | h := h
    · unfold makeC
      simp only
      rw [if_pos h]
    · cases h
theorem makeC_tag (hq : quoS n ≠ 0) (hl : l = a0 :: r) (h : (l.all fun a => rightA a && decide (a.bo ≤ n)) = false) : makeC n l = (ctZ, 7) := by
  subst hl
  unfold makeC
  simp only
  rw [if_neg hq, if_pos h]
theorem makeC_alike (hq : quoS n ≠ 0) (hl : l = a0 :: r) (h : (l.all fun a => rightA a && decide (a.bo ≤ n)) = true) (h2 : (l.all fun a => alikeA a a0) = false) : makeC n l = (ctZ, 1) := by
  subst hl
  unfold makeC
  simp only
  rw [if_neg hq, if_neg (by rw [h]; decide), if_pos h2]
theorem makeC_few (hq : quoS n ≠ 0) (hl : l = a0 :: r) (h : (l.all fun a => rightA a && decide (a.bo ≤ n)) = true) (h2 : (l.all fun a => alikeA a a0) = true) (h3 : (sigsC l (quoS n) n.toNat).length < quoS n) : makeC n l = (ctZ, 3) := by
  subst hl
  unfold makeC
  simp only
  rw [if_neg hq, if_neg (by rw [h]; decide), if_neg (by rw [h2]; decide), if_pos h3]
theorem makeC_done (hq : quoS n ≠ 0) (hl : l = a0 :: r) (h : (l.all fun a => rightA a && decide (a.bo ≤ n)) = true) (h2 : (l.all fun a => alikeA a a0) = true) (h3 : ¬ (sigsC l (quoS n) n.toNat).length < quoS n) :
    makeC n l = (⟨withC a0 ⟨0, z32⟩, sigsC l (quoS n) n.toNat⟩, 0) := by
  subst hl
  unfold makeC
  simp only
  rw [if_neg hq, if_neg (by rw [h]; decide), if_neg (by rw [h2]; decide), if_neg h3]
theorem sigsC_full {k : Nat} (h : ¬ (sigsC l q k).length < q) : ∀ m, k ≤ m → sigsC l q m = sigsC l q k := by
  intro m hm
  induction m with
  | zero => rw [show k = 0 from by omega]
  | succ m ih =>
    by_cases e : k = m + 1
    · rw [e]
    · have := ih (by omega)
      rw [← this] at h ⊢
      conv => lhs; unfold sigsC
      rw [if_neg h]
theorem sigsC_found {k i : Nat} (h : (sigsC l q k).length < q) (hi : i < l.length) (hb : l[i].bo = ((k + 1 : Nat) : Int)) (hn : ∀ j (hj : j < l.length), j < i → l[j].bo ≠ ((k + 1 : Nat) : Int)) :
    sigsC l q (k + 1) = sigsC l q k ++ [⟨((k + 1 : Nat) : Int), l[i].tg⟩] := by
  have hf : l.find? (fun a => decide (a.bo = ((k + 1 : Nat) : Int))) = some l[i] := by
    rw [List.find?_eq_some_iff_getElem]
    exact ⟨decide_eq_true hb, i, hi, rfl, fun j hj => by simpa using hn j (by omega) hj⟩
  conv => lhs; unfold sigsC
  rw [if_pos h, hf]
theorem sigsC_lack {k : Nat} (hn : ∀ j (hj : j < l.length), l[j].bo ≠ ((k + 1 : Nat) : Int)) : sigsC l q (k + 1) = sigsC l q k := by
  have hf : l.find? (fun a => decide (a.bo = ((k + 1 : Nat) : Int))) = none := by
    rw [List.find?_eq_none]
    intro a ha
    obtain ⟨j, hj, rfl⟩ := List.getElem_of_mem ha
    simpa using hn j hj
  conv => lhs; unfold sigsC
  rw [hf]
  simp
end
/-- What Make tells. -/
def MkPost (n : Int) (l : List AtM) (w : World) (e : Ending) (w' : World) : Prop := ∃ x, e = .returned (.tuple #[x, .int .i64 (makeC n l).2]) ∧ CtV w' x (makeC n l).1 ∧ Below w.heap.size w w'
theorem mkPost_no {n : Int} {l : List AtM} {w w' : World} {k : Int} (h : makeC n l = (ctZ, k)) (hb : Below w.heap.size w w') : MkPost n l w (.returned (.tuple #[.agg (ctc ctZ (.slice none 0 0)), .int .i64 k])) w' := by
  unfold MkPost
  rw [h]
  exact ⟨_, rfl, ⟨_, rfl, ctZ_ok, Els.nil w'⟩, hb⟩
theorem mkPost_yes {n : Int} {l : List AtM} {w w' : World} {c : CtM} {s : Value} (h : makeC n l = (c, 0)) (ho : c.Ok) (hs : Els scl 33 w' s c.sg) (hb : Below w.heap.size w w') : MkPost n l w (.returned (.tuple #[.agg (ctc c s), .int .i64 0])) w' := by
  unfold MkPost
  rw [h]
  exact ⟨_, rfl, ⟨_, rfl, ho, hs⟩, hb⟩
end Go.Proofs.YtnancafpecfcjaaDoor
