/-
  Els EltAt AtTwo EltIc CtWords CtWith CtBare: what each of them says stands at its head.
-/
import Derived.Deep.MidRow
import Derived.Maps.AppendAt
import Derived.Test.YtjemfmbmlmogcaaGreatBs1
import Derived.Test.YtjemfmbmlmogcaaGreatBs12
import Derived.Test.YtjemfmbmlmogcaaGreatBs15
import Derived.BigQuiet
import Derived.Deep.DeepCutAuto
import Derived.Deep.QuietTactic
import Derived.LoopTactic
import Derived.Outline
import Derived.Test.YtjemfmbmlmogcaaGreatBs7
import Derived.Test.YtjemfmbmlmogcaaGreatBs4
namespace Go.Proofs.YtjemfmbmlmogcaaGreat
set_option maxRecDepth 20000
open Go.RowKit
structure Elt {α : Type} (ec : α → List Value) (P : α → Prop) (n : Nat) (T SL : TypeId) : Prop where
  pos : 0 < n
  len : ∀ a, P a → (ec a).length = n
  one : ∀ a, ∀ u ∈ ec a, u.oneCell' = true
  under : Tryz.prog.underlying SL = some (.slice T)
  cells : Tryz.prog.cellsOf T = n
  info : ∃ i z, Tryz.prog.info? T = some i ∧ i.zero = some z ∧ i.size = n ∧ i.bytes ≤ 100000 ∧ z.cells.size = n
section
variable {α : Type} (ec : α → List Value) (n : Nat)
def ElsA (w : World) (A : Option Addr) (L : List α) : Prop :=
  0 < L.length → ∃ b off, A = some ⟨b, off, none⟩ ∧ b < w.heap.size ∧ ∀ j (h : j < L.length), w.rangeAt b (off + j * n) (ec L[j])
def Els (w : World) (v : Value) (L : List α) : Prop := ∃ A c, v = .slice A L.length c ∧ L.length ≤ c ∧ c ≤ maxLen ∧ ElsA ec n w A L
def OwnE (T : TypeId) (B : Nat) (w : World) (v : Value) (L : List α) : Prop := w.ownsRow B T n v L.length (L.map ec).flatten
end
theorem range_kept {w w' : World} {b o : Nat} {l : List Value} (h : w.rangeAt b o l) (hk : w'.heap[b]? = w.heap[b]?) : w'.rangeAt b o l := fun j u hu => (World.cell?_of_block hk).trans (h j u hu)
section
variable {α : Type} {ec : α → List Value} {n : Nat} {w w' : World} {A : Option Addr} {v : Value} {L : List α}
theorem ElsA.nil (w : World) (A : Option Addr) : ElsA ec n w A [] := fun h => absurd h (by simp)
theorem ElsA.below (h : ElsA ec n w A L) (hb : Below w.heap.size w w') : ElsA ec n w' A L := fun hl => by
  obtain ⟨b, off, e, hlt, hc⟩ := h hl
  exact ⟨b, off, e, Nat.lt_of_lt_of_le hlt hb.size, fun j hj => range_kept (hc j hj) (hb.block b hlt)⟩
theorem Els.nil (w : World) : Els ec n w (.slice none 0 0) [] := ⟨none, 0, rfl, Nat.le_refl _, Nat.zero_le _, ElsA.nil _ _⟩
theorem Els.below (h : Els ec n w v L) (hb : Below w.heap.size w w') : Els ec n w' v L := by
  obtain ⟨A, c, rfl, h1, h2, h3⟩ := h
  exact ⟨A, c, rfl, h1, h2, h3.below hb⟩
theorem Els.len (h : Els ec n w v L) : L.length ≤ maxLen := by
  obtain ⟨_, _, _, h1, h2, _⟩ := h
  omega
theorem Els.shape (h : Els ec n w v L) : ∃ A c, v = .slice A L.length c := by
  obtain ⟨A, c, e, _⟩ := h
  exact ⟨A, c, e⟩
theorem Els.at_ {k c : Nat} (h : Els ec n w (.slice A k c) L) : k = L.length ∧ L.length ≤ c ∧ c ≤ maxLen ∧ ElsA ec n w A L := by
  obtain ⟨A', c', e, h1, h2, h3⟩ := h
  injection e with e1 e2 e3
  subst e1 e2 e3
  exact ⟨rfl, h1, h2, h3⟩
end
section
variable {α : Type} {ec : α → List Value} {P : α → Prop} {n : Nat} {T SL : TypeId} {w w' : World} {v : Value} {L : List α} {B : Nat}
theorem Elt.ecs_length (E : Elt ec P n T SL) (hL : ∀ a ∈ L, P a) : (L.map ec).flatten.length = L.length * n := by
  induction L with
  | nil => simp
  | cons a L ih =>
    rw [List.map_cons, List.flatten_cons, List.length_append, ih (fun x hx => hL x (List.mem_cons_of_mem _ hx)), E.len a (hL a (by simp)), List.length_cons, Nat.succ_mul, Nat.add_comm]
theorem Elt.ecs_at (E : Elt ec P n T SL) (hL : ∀ a ∈ L, P a) {j : Nat} (hj : j < L.length) {k : Nat} (hk : k < n) : (L.map ec).flatten[j * n + k]? = (ec L[j])[k]? := by
  induction L generalizing j with
  | nil => simp at hj
  | cons a L ih =>
    have ha := E.len a (hL a (by simp))
    rw [List.map_cons, List.flatten_cons]
    cases j with
    | zero =>
      rw [Nat.zero_mul, Nat.zero_add, List.getElem?_append_left (by rw [ha]; exact hk)]
      rfl
    | succ j =>
      rw [List.getElem?_append_right (by rw [ha, Nat.succ_mul]; omega), ha, show (j + 1) * n + k - n = j * n + k from by rw [Nat.succ_mul]; omega]
      exact ih (fun x hx => hL x (List.mem_cons_of_mem _ hx)) (by simpa using hj)
theorem Elt.ecs_get (E : Elt ec P n T SL) (hL : ∀ a ∈ L, P a) {i : Nat} {u : Value} (h : (L.map ec).flatten[i]? = some u) : ∃ (hj : i / n < L.length), (ec L[i / n])[i % n]? = some u := by
  have hi := (List.getElem?_eq_some_iff.1 h).1
  rw [E.ecs_length hL] at hi
  have hj : i / n < L.length := (Nat.div_lt_iff_lt_mul E.pos).2 hi
  refine ⟨hj, ?_⟩
  have := E.ecs_at hL hj (Nat.mod_lt i E.pos)
  rw [Nat.div_add_mod' i n, h] at this
  exact this.symm
theorem Elt.ecs_one (E : Elt ec P n T SL) (L : List α) : ∀ u ∈ (L.map ec).flatten, u.oneCell' = true := by
  intro u hu
  obtain ⟨l, hl, hu⟩ := List.mem_flatten.1 hu
  obtain ⟨a, _, rfl⟩ := List.mem_map.1 hl
  exact E.one a u hu
theorem OwnE.nil (B : Nat) (w : World) : OwnE ec n T B w (.slice none 0 0) [] := World.ownsRow_nil _ _ _ _
theorem OwnE.els (h : OwnE ec n T B w v L) (E : Elt ec P n T SL) (hL : ∀ a ∈ L, P a) : Els ec n w v L := by
  rcases h.2 with ⟨rfl, h0⟩ | ⟨g, cap, cur, rfl, _, hh, hn, hm, hs, ht⟩
  · have : L = [] := List.eq_nil_of_length_eq_zero h0
    subst this
    exact Els.nil w
  · refine ⟨_, cap, rfl, hn, hm, fun _ => ⟨g, 0, rfl, lt_of_block hh, fun j hj k u hu => ?_⟩⟩
    have hk : k < n := by
      have := (List.getElem?_eq_some_iff.1 hu).1
      rw [E.len _ (hL _ (List.getElem_mem hj))] at this
      exact this
    have hlt : j * n + k < L.length * n := Nat.lt_of_lt_of_le (show j * n + k < (j + 1) * n by rw [Nat.succ_mul]; omega) (Nat.mul_le_mul_right n hj)
    rw [Nat.zero_add, cell_of_row w g _ _ _ (0, 0) hh, ← Array.getElem?_toList]
    have e := E.ecs_at hL hj hk
    rw [hu, ← ht, List.getElem?_take_of_lt hlt] at e
    exact e
theorem OwnE.more (h : OwnE ec n T B w v L) {B' : Nat} (hB : B' ≤ B) : OwnE ec n T B' w v L := by
  refine ⟨h.1, ?_⟩
  rcases h.2 with h0 | ⟨g, cap, cur, e, hg, r⟩
  · exact .inl h0
  · exact .inr ⟨g, cap, cur, e, by omega, r⟩
theorem OwnE.keep (h : OwnE ec n T B w v L) (hk : ∀ b, b < w.heap.size → v.ownBlock = some b → w'.heap[b]? = w.heap[b]?) : OwnE ec n T B w' v L := by
  refine ⟨h.1, ?_⟩
  rcases h.2 with h0 | ⟨g, cap, cur, rfl, hg, hh, r⟩
  · exact .inl h0
  · exact .inr ⟨g, cap, cur, rfl, hg, (hk g (lt_of_block hh) rfl).trans hh, r⟩
theorem OwnE.below (h : OwnE ec n T B w v L) (hb : Below w.heap.size w w') : OwnE ec n T B w' v L := h.keep fun b hlt _ => hb.block b hlt
theorem OwnE.alloc (h : OwnE ec n T B w v L) (o : Obj) : OwnE ec n T B (w.alloc o) v L := h.below ((Below.refl _ _).alloc (Nat.le_refl _) o)
theorem OwnE.far (h : OwnE ec n T B w v L) {g : Nat} (hg : w.grownBy w' (some g)) (hB : g < B) : OwnE ec n T B w' v L := h.keep fun b hlt e => hg.block b hlt (fun e' => by
  have := (World.ownsRow.lt h b e).1
  injection e' with e'
  omega)
theorem OwnE.set (h : OwnE ec n T B w v L) {g : Nat} (hB : g < B) (i : Nat) (u : Value) : OwnE ec n T B (w.setCell ⟨g, i, none⟩ u) v L := h.keep fun b _ e => Below.heap_setCell w _ u b (fun e' => by
  have := (World.ownsRow.lt h b e).1
  simp only at e'
  omega)
theorem OwnE.row (h : OwnE ec n T B w v L) {g : Nat} {C : Array Value} (hB : g < B) : OwnE ec n T B (w.setRow g C) v L := h.keep fun b _ e => setRow_other w g b _ (fun e' => by
  have := (World.ownsRow.lt h b e).1
  omega)
theorem OwnE.shape (h : OwnE ec n T B w v L) : ∃ A c, v = .slice A L.length c := by
  rcases h.2 with ⟨rfl, h0⟩ | ⟨g, cap, cur, rfl, _⟩
  · exact ⟨none, 0, by rw [h0]⟩
  · exact ⟨_, cap, rfl⟩
theorem els_one (w : World) (a : α) (C : Array Value) (T : TypeId) (h : (ec a).toArray = C) : Els ec n (w.alloc (.cells C T)) (.slice (some ⟨w.heap.size, 0, none⟩) 1 1) [a] := by
  subst h
  refine ⟨_, 1, rfl, Nat.le_refl _, by unfold maxLen; omega, fun _ => ⟨w.heap.size, 0, rfl, by simp, fun j hj k u hu => ?_⟩⟩
  obtain rfl : j = 0 := by simpa using hj
  rw [Nat.zero_mul, Nat.zero_add, cell_blk (heap_alloc_new w _) k]
  simpa using hu
theorem Elt.run_append (E : Elt ec P n T SL) {x : Value} {l m : List α} (ty : TypeId) (hm : ∀ a ∈ m, P a) (hv : OwnE ec n T B w v l) (hx : Els ec n w x m) (hs : l.length + m.length ≤ 1000000) (hB : B ≤ w.heap.size) :
    ∃ v' w', (Builtin.append_ #[SL, SL] ty #[v, x]).run Tryz.prog w = .ok v' w' ∧ OwnE ec n T B w' v' (l ++ m) ∧ w.grownBy w' v.ownBlock ∧ (v'.ownBlock = v.ownBlock ∨ v'.ownBlock = some w.heap.size) := by
  obtain ⟨i0, z, hi, hz0, hz1, hz2, hzc⟩ := E.info
  obtain ⟨A, c, rfl, hmc, hcm, hr⟩ := hx
  have hlm : (l ++ m).length = l.length + m.length := by simp
  rcases A with _ | ad
  · have h0 : m = [] := by
      rcases m with _ | ⟨x, m⟩
      · rfl
      · obtain ⟨_, _, h, _⟩ := hr (by simp)
        cases h
    subst h0
    refine ⟨v, w, ?_, by rw [List.append_nil]; exact hv, World.grownBy.refl w _, .inl rfl⟩
    rcases hv.2 with ⟨rfl, h0⟩ | ⟨g, cap, cur, rfl, _, _, hnc, _⟩
    · simp [Builtin.append_, run_underlying E.under, sizeOf, typeInfo, hi, Builtin.lenOf, Builtin.firstCells]
    · simp [Builtin.append_, run_underlying E.under, sizeOf, typeInfo, hi, Builtin.lenOf, Builtin.firstCells, hnc, storeCells]
  · have hcells : ∀ j u, (m.map ec).flatten[j]? = some u → w.cell? (ad.add j) = some u := by
      intro j u hu
      obtain ⟨hj, hu'⟩ := E.ecs_get hm hu
      obtain ⟨b, off, e, _, hc⟩ := hr (Nat.lt_of_le_of_lt (Nat.zero_le _) hj)
      injection e with e
      subst e
      rw [addr_add]
      have := hc (j / n) hj (j % n) u hu'
      rw [show off + j / n * n + j % n = off + j from by rw [Nat.add_assoc, Nat.div_add_mod' j n]] at this
      exact this
    have hby : (l.length + m.length) * i0.bytes ≤ 140737488355328 := Nat.le_trans (Nat.mul_le_mul hs hz2) (by decide)
    obtain ⟨v', w', hrun, h2, h3, _, h5⟩ := run_append_own_at (P := Tryz.prog) w B SL ty T i0 z n i0.bytes E.under hi hz0 hz1 rfl hzc E.pos v l.length (l.map ec).flatten hv ad m.length c (m.map ec).flatten (E.ecs_length hm) hcells (E.ecs_one m) (by unfold maxLen; omega) hby hB
    refine ⟨v', w', hrun, ?_, h3, h5⟩
    unfold OwnE
    rw [hlm, List.map_append, List.flatten_append]
    exact h2
theorem Elt.wp_append (E : Elt ec P n T SL) {o : Oper} {a : Act} {K : Act → World → Prop} {Q : Exit → Act → World → Prop} (s y : Operand) (ho : o.op = .call { callee := .builtin .append, args := #[s, y], argTypes := #[SL, SL] })
    {x : Value} {l m : List α} (hes : a.eval s = v) (hey : a.eval y = x) (hm : ∀ a ∈ m, P a) (hv : OwnE ec n T B w v l) (hx : Els ec n w x m) (hs : l.length + m.length ≤ 1000000) (hB : B ≤ w.heap.size)
    (h : ∀ v' w', OwnE ec n T B w' v' (l ++ m) → w.grownBy w' v.ownBlock → (v'.ownBlock = v.ownBlock ∨ v'.ownBlock = some w.heap.size) → K (a.put o.dst v') w') : o.wp Tryz.prog a w K Q := by
  obtain ⟨v', w', hrun, h2, h3, h4⟩ := E.run_append (w := w) o.type hm hv hx hs hB
  unfold Oper.wp execOp
  simp only [ho, resolve, invoke, builtin, Sem.run_bind, Sem.run_pure, Result.andThen_ok, List.map_toArray, List.map_cons, List.map_nil, hes, hey, hrun]
  exact h v' w' h2 h3 h4
theorem Elt.wpList_append (E : Elt ec P n T SL) {ops : Array Oper} {rest : List Oper} {o : Oper} {a : Act} {Q : Exit → Act → World → Prop} (hgd : o.guard = none) (s y : Operand) (ho : o.op = .call { callee := .builtin .append, args := #[s, y], argTypes := #[SL, SL] })
    {x : Value} {l m : List α} (hes : a.eval s = v) (hey : a.eval y = x) (hm : ∀ a ∈ m, P a) (hv : OwnE ec n T B w v l) (hx : Els ec n w x m) (hs : l.length + m.length ≤ 1000000) (hB : B ≤ w.heap.size)
    (h : ∀ v' w', OwnE ec n T B w' v' (l ++ m) → w.grownBy w' v.ownBlock → (v'.ownBlock = v.ownBlock ∨ v'.ownBlock = some w.heap.size) → wpList Tryz.prog ops Q rest (a.put o.dst v') w') : wpList Tryz.prog ops Q (o :: rest) a w :=
  wpList_plain hgd fun _ hK => E.wp_append s y ho hes hey hm hv hx hs hB fun v' w' h2 h3 h4 => hK _ _ (h v' w' h2 h3 h4)
end
end Go.Proofs.YtjemfmbmlmogcaaGreat
namespace Go.Proofs.YtjemfmbmlmogcaaGreat
set_option maxRecDepth 20000
open Go.RowKit
theorem loadAtt_in {w : World} {g o : Nat} {a : AtM} (hr : w.rangeAt g o (atl a)) (ho : a.Ok) : loadAtt (.pointer (some ⟨g, o, none⟩)) w = .ok (.value (.agg (atc a))) w := by
  have := run_loadAt_mid (P := Tryz.prog) w g o 25 (atl a) _ hr under_att rfl (by rw [size_att, atl_length ho])
  unfold loadAtt execOp
  simp only [Sem.run_bind, this, Result.andThen_ok, Sem.run_pure]
  rfl
end Go.Proofs.YtjemfmbmlmogcaaGreat
namespace Go.Proofs.YtjemfmbmlmogcaaGreat
set_option maxRecDepth 20000
open Go.RowKit
theorem fold_putSg : ∀ (vs : List Value) (k : Nat) (C : Array Value), (vs.zipIdx k).foldl (fun cs x => cs.setIfInBounds x.2 x.1) C = putAt C k vs
  | [], _, _ => rfl
  | v :: r, k, C => by
    simp only [List.zipIdx_cons, List.foldl_cons]
    exact fold_putSg r (k + 1) _
theorem fold_putSgO : ∀ (vs : List Value) (k o : Nat) (C : Array Value), (vs.zipIdx k).foldl (fun cs x => cs.setIfInBounds (o + x.2) x.1) C = putAt C (o + k) vs
  | [], _, _, _ => rfl
  | v :: r, k, o, C => by
    simp only [List.zipIdx_cons, List.foldl_cons]
    rw [fold_putSgO r (k + 1) o]
    rfl
end Go.Proofs.YtjemfmbmlmogcaaGreat
namespace Go.Proofs.YtjemfmbmlmogcaaGreat
set_option maxRecDepth 20000
open Go.RowKit
def icl (n : Int) : List Value := [.int .i64 n]
theorem info_int : (Tryz.prog.info? 3).map (fun i => (i.zero, i.size, decide (i.bytes ≤ 100000))) = some (some (.int .i64 0), 1, true) := by kernel_rfl
theorem eltIc : Elt icl (fun _ => True) 1 3 29 := by
  refine ⟨by omega, fun _ _ => rfl, fun a u hu => by obtain rfl := List.mem_singleton.1 hu; rfl, by kernel_rfl, by kernel_rfl, ?_⟩
  obtain ⟨i, hi, h⟩ := Option.map_eq_some_iff.1 info_int
  injection h with h1 h
  injection h with h2 h3
  exact ⟨i, _, hi, h1, h2, of_decide_eq_true h3, rfl⟩
end Go.Proofs.YtjemfmbmlmogcaaGreat
namespace Go.Proofs.YtjemfmbmlmogcaaGreat
set_option maxRecDepth 20000
open Go.RowKit
def scl (s : SgM) : List Value := .int .i64 s.bo :: bcells s.tg
def sgc (s : SgM) : Array Value := (scl s).toArray
theorem scl_length {s : SgM} (h : s.Ok) : (scl s).length = 33 := by
  unfold scl
  rw [List.length_cons, bcells_length, h]
theorem sgc_size {s : SgM} (h : s.Ok) : (sgc s).size = 33 := by
  unfold sgc
  rw [List.size_toArray, scl_length h]
theorem scl_one (s : SgM) : ∀ u ∈ scl s, u.oneCell' = true := by
  intro u hu
  rcases List.mem_cons.1 hu with rfl | hu
  · rfl
  · exact bcells_one _ u hu
theorem sgc_one (s : SgM) : (sgc s).all (·.oneCell') = true := all_oneCell_toArray (scl_one s)
def sgZ : SgM := ⟨0, z32⟩
theorem sgZ_ok : sgZ.Ok := rfl
theorem under_sg : Tryz.prog.underlying 111 = some (.struct (Tryz.prog.fieldsOf 111)) := by kernel_rfl
theorem size_sg : (Tryz.prog.info? 111).map (·.size) = some 33 := by kernel_rfl
theorem info_sg : (Tryz.prog.info? 111).map (fun i => (i.zero, i.size, decide (i.bytes ≤ 100000))) = some (some (.agg (sgc sgZ)), 33, true) := by kernel_rfl
theorem eltSg : Elt scl SgM.Ok 33 111 26 := by
  refine ⟨by omega, fun _ h => scl_length h, scl_one, by kernel_rfl, by kernel_rfl, ?_⟩
  obtain ⟨i, hi, h⟩ := Option.map_eq_some_iff.1 info_sg
  injection h with h1 h
  injection h with h2 h3
  exact ⟨i, _, hi, h1, h2, of_decide_eq_true h3, by show (sgc sgZ).size = 33; exact sgc_size sgZ_ok⟩
noncomputable def loadSg (v : Value) (w : World) : Result Next := Sem.run Tryz.prog (execOp (fun _ => v) { dst := none, op := .load 111 (.tmp 0), type := 0, pos := "", after := #[], guard := none }) w
theorem exec_load_sg (r : Operand → Value) (x : Operand) (dst : Option Tmp) (ty : TypeId) (pos : String) (after : Array Edge) (guard : Option (Nat × Bool)) (w : World) :
    Sem.run Tryz.prog (execOp r { dst := dst, op := .load 111 x, type := ty, pos := pos, after := after, guard := guard }) w = loadSg (r x) w := rfl
theorem loadSg_mid {w : World} {g o : Nat} {s : SgM} (hr : w.rangeAt g o (scl s)) (ho : s.Ok) : loadSg (.pointer (some ⟨g, o, none⟩)) w = .ok (.value (.agg (sgc s))) w := by
  have := run_loadAt_mid (P := Tryz.prog) w g o 111 (scl s) _ hr under_sg rfl (by rw [size_sg, scl_length ho])
  unfold loadSg execOp
  simp only [Sem.run_bind, this, Result.andThen_ok, Sem.run_pure]
  rfl
theorem sg_range {w : World} {g o : Nat} {s : SgM} (hr : w.rangeAt g o (scl s)) : w.cell? ⟨g, o, none⟩ = some (.int .i64 s.bo) ∧ w.rangeAt g (o + 1) (bcells s.tg) := by
  refine ⟨hr 0 _ rfl, fun j u hu => ?_⟩
  rw [show o + 1 + j = o + (j + 1) from by omega]
  exact hr (j + 1) u hu
def ctc (c : CtM) (s : Value) : Array Value := (atl c.att ++ [s]).toArray
theorem ctc_size {c : CtM} (s : Value) (h : c.att.Ok) : (ctc c s).size = 102 := by simp [ctc, atl_length h]
def CtV (w : World) (v : Value) (c : CtM) : Prop := ∃ s, v = .agg (ctc c s) ∧ c.Ok ∧ Els scl 33 w s c.sg
theorem CtV.below {w w' : World} {v : Value} {c : CtM} (h : CtV w v c) (hb : Below w.heap.size w w') : CtV w' v c := by
  obtain ⟨s, rfl, h1, h2⟩ := h
  exact ⟨s, rfl, h1, h2.below hb⟩
def BoxC (w : World) (g : Nat) (c : CtM) (s : Value) : Prop := w.heap[g]? = some (.cells (ctc c s) 28 (0, 0))
section
variable {w w' : World} {g : Nat} {c : CtM} {s : Value}
theorem BoxC.new (w : World) (c : CtM) (s : Value) : BoxC (w.alloc (.cells (ctc c s) 28)) w.heap.size c s := heap_alloc_new w _
theorem BoxC.lt (h : BoxC w g c s) : g < w.heap.size := lt_of_block h
theorem BoxC.below {B : Nat} (h : BoxC w g c s) (hb : Below B w w') (hg : g < B) : BoxC w' g c s := (hb.block g hg).trans h
theorem BoxC.free (h : BoxC w g c s) (i : Nat) : w.frozen? ⟨g, i, none⟩ = false := free_blk h i
theorem BoxC.cell (h : BoxC w g c s) (i : Nat) : w.cell? ⟨g, i, none⟩ = (atl c.att ++ [s])[i]? := by
  rw [cell_blk h i]
  unfold ctc
  rw [List.getElem?_toArray]
theorem BoxC.att (h : BoxC w g c s) : w.rangeAt g 0 (atl c.att) := fun j u hu => by
  rw [Nat.zero_add, h.cell, List.getElem?_append_left (List.getElem?_eq_some_iff.1 hu).1]
  exact hu
theorem BoxC.sigs (h : BoxC w g c s) (ho : c.att.Ok) : w.cell? ⟨g, 101, none⟩ = some s := by
  rw [h.cell, List.getElem?_append_right (by rw [atl_length ho]; omega), atl_length ho]
  rfl
theorem BoxC.bo (h : BoxC w g c s) : w.cell? ⟨g, 0, none⟩ = some (.int .i64 c.att.bo) := h.att 0 _ rfl
theorem BoxC.tag (h : BoxC w g c s) (ho : c.att.Ok) : w.rangeAt g 69 (bcells c.att.tg) := fun j u hu => by
  have e := h.att (69 + j) u (by
    rw [atl_tag, List.append_nil, List.getElem?_append_right (by simp only [List.length_append, bcells_length, ho.ha, ho.pa, List.length_cons, List.length_nil]; omega)]
    simp only [List.length_append, bcells_length, ho.ha, ho.pa, List.length_cons, List.length_nil]
    rw [show 69 + j - (0 + 1 + 1 + 1 + 1 + (32 + (0 + 1 + 32))) = j from by omega]
    exact hu)
  rwa [Nat.zero_add] at e
end
noncomputable def loadCt (v : Value) (w : World) : Result Next := Sem.run Tryz.prog (execOp (fun _ => v) { dst := none, op := .load 28 (.tmp 0), type := 0, pos := "", after := #[], guard := none }) w
theorem exec_load_ct (r : Operand → Value) (x : Operand) (dst : Option Tmp) (ty : TypeId) (pos : String) (after : Array Edge) (guard : Option (Nat × Bool)) (w : World) :
    Sem.run Tryz.prog (execOp r { dst := dst, op := .load 28 x, type := ty, pos := pos, after := after, guard := guard }) w = loadCt (r x) w := rfl
theorem under_ct : Tryz.prog.underlying 28 = some (.struct (Tryz.prog.fieldsOf 28)) := by kernel_rfl
theorem size_ct : (Tryz.prog.info? 28).map (·.size) = some 102 := by kernel_rfl
theorem loadCt_row {w : World} {g : Nat} {C : Array Value} {T : TypeId} (h : w.heap[g]? = some (.cells C T (0, 0))) (hs : C.size = 102) : loadCt (.pointer (some ⟨g, 0, none⟩)) w = .ok (.value (.agg C)) w := by
  have := run_loadAt_mid (P := Tryz.prog) w g 0 28 C.toList _ (fun j v hj => by rw [Nat.zero_add, cell_blk h j]; simpa using hj) under_ct rfl (by rw [size_ct]; simp [hs])
  simp only [Array.toArray_toList] at this
  unfold loadCt execOp
  simp only [Sem.run_bind, this, Result.andThen_ok, Sem.run_pure]
theorem ctc_one {w : World} {c : CtM} {s : Value} (h : Els scl 33 w s c.sg) : (ctc c s).all (·.oneCell') = true := by
  obtain ⟨A, k, rfl, _⟩ := h
  unfold ctc
  refine all_oneCell_toArray ?_
  intro u hu
  rcases List.mem_append.1 hu with hu | hu
  · exact atl_one _ u hu
  · obtain rfl := List.mem_singleton.1 hu
    rfl
theorem zero_ct : (Tryz.prog.info? 28).bind (·.zero) = some (.agg (ctc ctZ (.slice none 0 0))) := by kernel_rfl
theorem run_zero_ct (w : World) : (zeroValue 28).run Tryz.prog w = .ok (.agg (ctc ctZ (.slice none 0 0))) w := by
  have h := zero_ct
  cases hq : Tryz.prog.info? 28 with
  | none => rw [hq] at h; cases h
  | some i =>
    rw [hq] at h
    have hz : i.zero = some (.agg (ctc ctZ (.slice none 0 0))) := h
    simp [zeroValue, typeInfo, hq, hz]
noncomputable def buildCt (w : World) : Result Next := Sem.run Tryz.prog (execOp (fun _ => undef) { dst := none, op := .build 28 #[], type := 0, pos := "", after := #[], guard := none }) w
theorem exec_build_ct (r : Operand → Value) (dst : Option Tmp) (ty : TypeId) (pos : String) (after : Array Edge) (guard : Option (Nat × Bool)) (w : World) :
    Sem.run Tryz.prog (execOp r { dst := dst, op := .build 28 #[], type := ty, pos := pos, after := after, guard := guard }) w = buildCt w := by
  unfold buildCt execOp
  simp
theorem buildCt_eq (w : World) : buildCt w = .ok (.value (.agg (ctc ctZ (.slice none 0 0)))) w := by
  unfold buildCt
  go_simp
  rfl
noncomputable def allocCt (w : World) : Result Next := Sem.run Tryz.prog (execOp (fun _ => undef) { dst := none, op := .alloc 28, type := 0, pos := "", after := #[], guard := none }) w
theorem exec_alloc_ct (r : Operand → Value) (dst : Option Tmp) (ty : TypeId) (pos : String) (after : Array Edge) (guard : Option (Nat × Bool)) (w : World) :
    Sem.run Tryz.prog (execOp r { dst := dst, op := .alloc 28, type := ty, pos := pos, after := after, guard := guard }) w = allocCt w := rfl
theorem allocCt_eq (w : World) : allocCt w = .ok (.value (.pointer (some ⟨w.heap.size, 0, none⟩))) (w.alloc (.cells (ctc ctZ (.slice none 0 0)) 28)) := by
  unfold allocCt execOp
  simp only [Sem.run_bind, Instr.alloc, run_zero_ct, newVar, newRow, run_newObj_alloc, Sem.run_pure, Result.andThen_ok, Value.cells]
noncomputable def storeCt (p v : Value) (w : World) : Result Next := Sem.run Tryz.prog (execOp (fun x => match x with
  | .tmp 0 => p
  | _ => v) { dst := none, op := .store 28 (.tmp 0) (.tmp 1), type := 0, pos := "", after := #[], guard := none }) w
theorem exec_store_ct (r : Operand → Value) (x y : Operand) (dst : Option Tmp) (ty : TypeId) (pos : String) (after : Array Edge) (guard : Option (Nat × Bool)) (w : World) :
    Sem.run Tryz.prog (execOp r { dst := dst, op := .store 28 x y, type := ty, pos := pos, after := after, guard := guard }) w = storeCt (r x) (r y) w := rfl
def setCt (w : World) (g : Nat) (C : Array Value) : World := w.setRow g C
theorem storeCt_eq {w : World} {g : Nat} {t : TypeId} {C0 C : Array Value} (hg : w.heap[g]? = some (.cells C0 t (0, 0))) (h0 : C0.size = 102) (hC : C.size = 102) (h1 : C.all (·.oneCell') = true) :
    storeCt (.pointer (some ⟨g, 0, none⟩)) (.agg C) w = .ok .skip (setCt w g C) := by
  have := run_storeVar_row (P := Tryz.prog) w g t 28 C0 C hg (by rw [size_ct, hC]) (by rw [h0, hC]) h1
  unfold storeCt execOp
  simp only [Instr.storeAt, Instr.sureAddr, Sem.run_bind, Sem.run_pure, Result.andThen_ok, this]
  rfl
theorem setCt_other (w : World) {g k : Nat} (C : Array Value) (hk : k ≠ g) : (setCt w g C).heap[k]? = w.heap[k]? := setRow_other w g k _ hk
theorem setCt_same {w : World} {g : Nat} {t : TypeId} {C0 C : Array Value} (hg : w.heap[g]? = some (.cells C0 t (0, 0))) : (setCt w g C).heap[g]? = some (.cells C t (0, 0)) := setRow_heap w g _ _ t _ hg
theorem setCt_self {w : World} {g : Nat} {t : TypeId} {C : Array Value} {fr : Nat × Nat} (hg : w.heap[g]? = some (.cells C t fr)) : setCt w g C = w := by
  have e : ∀ f : Obj → Obj, f (.cells C t fr) = .cells C t fr → w.heap.modify g f = w.heap := by
    intro f hf
    apply Array.ext_getElem?
    intro k
    rw [Array.getElem?_modify]
    by_cases h : g = k
    · subst h
      rw [if_pos rfl, hg]
      simp [hf]
    · rw [if_neg h]
  unfold setCt World.setRow
  rw [e _ rfl]
theorem setCt_alloc (w : World) (T : TypeId) (C0 C : Array Value) : setCt (w.alloc (.cells C0 T)) w.heap.size C = w.alloc (.cells C T) := by
  have hm : ∀ (a : Array Obj) (x : Obj) (f : Obj → Obj), (a.push x).modify a.size f = a.push (f x) := by
    intro a x f
    apply Array.ext_getElem?
    intro k
    rw [Array.getElem?_modify]
    by_cases h : a.size = k
    · subst h
      simp
    · rw [if_neg h, Array.getElem?_push, Array.getElem?_push]
      rw [if_neg (fun e => h e.symm), if_neg (fun e => h e.symm)]
  unfold setCt World.setRow World.alloc
  simp only [hm]
theorem fields_sg : (Tryz.prog.fieldsOf 111).toList.map (fun f => (f.type, f.offset, f.name == "_")) = [(3, 0, false), (23, 1, false)] := by kernel_rfl
set_option maxHeartbeats 1600000 in
theorem eq_sg (a b : SgM) (ho : a.Ok) (hp : b.Ok) (w : World) : (Op.equalIn 10000 111 (.agg (sgc a)) (.agg (sgc b))).run Tryz.prog w = .ok (decide (a = b)) w := by
  have K : ∀ c : SgM, c.Ok → (sgc c)[0]? = some (.int .i64 c.bo) ∧ ((sgc c).toList.drop 1).take 32 = bcells c.tg := fun c hc =>
    ⟨rfl, drop_at (pre := [.int .i64 c.bo]) (m := bcells c.tg) (post := []) (by show scl c = _; unfold scl; simp) rfl (by rw [bcells_length]; exact hc)⟩
  obtain ⟨a0, a1⟩ := K a ho
  obtain ⟨b0, b1⟩ := K b hp
  have EI : ∀ x y : Int, (Op.equalIn 9999 3 (.int .i64 x) (.int .i64 y)).run Tryz.prog w = .ok (x == y) w := fun x y => run_equalIn_int (P := Tryz.prog) w 9998 3 .i64 .i64 x y under_att_int
  rw [run_equalIn_struct w 9999 _ _ _ under_sg (by kernel_rfl), eqF_of, fields_sg]
  rw [eqF_step (part_att_int a0) (part_att_int b0) (EI _ _), eqF_step (part_att_hash a1) (part_att_hash b1) (eq_hash_at 9997 _ _ ho hp w)]
  obtain ⟨p1, p2⟩ := a
  obtain ⟨q1, q2⟩ := b
  simp only [eqF, Sem.run_pure, SgM.mk.injEq, beq_iff_eq, decide_eq_true_eq]
  (repeat' split) <;> simp_all
theorem atc_by (a : AtM) (n : Int) : (atc a).setIfInBounds 0 (.int .i64 n) = atc { a with bo := n } := by
  unfold atc atl
  rw [List.setIfInBounds_toArray]
  rfl
end Go.Proofs.YtjemfmbmlmogcaaGreat
namespace Go.Proofs.YtjemfmbmlmogcaaGreat
set_option maxRecDepth 20000
open Go.RowKit
attribute [local go_sem ↓] exec_load_att exec_alloc_att exec_store_att exec_load_hash exec_build_hash
set_option maxHeartbeats 800000 in
theorem refWith9_any (a : AtM) (s : SgM) (w : World) (ha : a.Ok) (hs : s.Ok) :
    Calls Tryz.prog 63 #[.agg (atc a), .agg (sgc s)] w fun e w' => e = .returned (.agg (atc (withC a s))) ∧ Below w.heap.size w w' := by
  obtain ⟨C, HC⟩ : ∃ C : Array Value, Hid (atc a = C) := ⟨_, hid rfl⟩
  obtain ⟨G, HG⟩ : ∃ C : Array Value, Hid (sgc s = C) := ⟨_, hid rfl⟩
  obtain ⟨D, HD⟩ : ∃ C : Array Value, Hid (atc (withC a s) = C) := ⟨_, hid rfl⟩
  obtain ⟨Z, HZ⟩ : ∃ C : Array Value, Hid (atc atZ = C) := ⟨_, hid rfl⟩
  have hal : ∀ W, allocAtt W = .ok (.value (.pointer (some ⟨W.heap.size, 0, none⟩))) (W.alloc (.cells Z 25)) := fun W => by rw [← HZ.out]; exact allocAtt_eq W
  have HZS : Hid (Z.size = 101) := hid (by rw [← HZ.out]; exact atc_size atZ_ok)
  have HDS : Hid (D.size = 101 ∧ D.all (·.oneCell') = true) := hid (by rw [← HD.out]; exact ⟨atc_size (withC_ok ha hs), atc_one _⟩)
  have hb0 : Below w.heap.size w (((w.alloc (.cells C 25)).alloc (.cells G 111)).alloc (.cells Z 25)) := (((Below.refl _ _).alloc (Nat.le_refl _) _).alloc (by simp) _).alloc (by simp; omega) _
  have hr0 : (((w.alloc (.cells C 25)).alloc (.cells G 111)).alloc (.cells Z 25)).heap[w.heap.size]? = some (.cells C 25 (0, 0)) := (Below.heap_alloc _ _ _ (by simp; omega)).trans (heap1 w _ _)
  have hr1 : (((w.alloc (.cells C 25)).alloc (.cells G 111)).alloc (.cells Z 25)).heap[w.heap.size + 1]? = some (.cells G 111 (0, 0)) := (Below.heap_alloc _ _ _ (by simp)).trans (heap2 w _ _)
  have hr2 : (((w.alloc (.cells C 25)).alloc (.cells G 111)).alloc (.cells Z 25)).heap[w.heap.size + 1 + 1]? = some (.cells Z 25 (0, 0)) := by
    have := heap2 (w.alloc (.cells C 25)) (.cells G 111) (.cells Z 25)
    rwa [show (w.alloc (.cells C 25)).heap.size = w.heap.size + 1 from by simp] at this
  obtain ⟨T, HT⟩ : ∃ C : Array Value, Hid (hcells s.tg = C) := ⟨_, hid rfl⟩
  have HSG : Hid (∀ W : World, W.heap[w.heap.size + 1]? = some (.cells G 111 (0, 0)) → W.cell? ⟨w.heap.size + 1, 0, none⟩ = some (.int .i64 s.bo) ∧ loadH (.pointer (some ⟨w.heap.size + 1, 1, none⟩)) W = .ok (.value (.agg T)) W) := hid (fun W h => by
    rw [← HG.out] at h
    have hr : W.rangeAt (w.heap.size + 1) 0 (scl s) := fun j u hu => by
      rw [Nat.zero_add, cell_blk h j]
      unfold sgc
      rw [List.getElem?_toArray]
      exact hu
    obtain ⟨h1, h2⟩ := sg_range hr
    rw [← HT.out]
    exact ⟨h1, loadH_mid h2 hs⟩)
  have HLD : Hid (∀ W : World, BoxA W w.heap.size { { a with bo := s.bo } with tg := s.tg } → loadAtt (.pointer (some ⟨w.heap.size, 0, none⟩)) W = .ok (.value (.agg D)) W) := hid (fun W h => by
    rw [← HD.out]
    exact loadAtt_eq h (withC_ok ha hs))
  have HOA : Hid ({ a with bo := s.bo } : AtM).Ok := hid ⟨ha.ha, ha.pa, ha.tg⟩
  have HS := hid hs
  rw [HD.out, HC.out, HG.out]
  go_enter Tryz.func63, Tryz.ntmps63
  go_upto_region 1 with (fail)
  generalize (((w.alloc (.cells C 25)).alloc (.cells G 111)).alloc (.cells Z 25)) = w0 at *
  have hA : BoxA w0 w.heap.size a := by unfold BoxA; rw [HC.out]; exact hr0
  have c0 := hA.cells.1
  have f0 := hA.free 0
  have c1 := (HSG.out w0 hr1).1
  have hA1 : BoxA (w0.setCell ⟨w.heap.size, 0, none⟩ (.int .i64 s.bo)) w.heap.size { a with bo := s.bo } := by
    have := set_blk hA 0 (.int .i64 s.bo)
    rw [atc_by] at this
    exact this
  have hr11 := blk_other hr1 (.int .i64 s.bo) (i := 0) (b := w.heap.size) (by omega)
  have hr21 := blk_other hr2 (.int .i64 s.bo) (i := 0) (b := w.heap.size) (by omega)
  have hb1 : Below w.heap.size w (w0.setCell ⟨w.heap.size, 0, none⟩ (.int .i64 s.bo)) := hb0.setCell (by simp) _
  have l1 := (HSG.out _ hr11).2
  have HA1 := hid hA1
  have HR21 := hid hr21
  have HB1 := hid hb1
  clear hA hA1 hr0 hr1 hr2 hr11 hr21 hb0 hb1 hal ha hs
  go_wp2_with (refine wpList_store_tag (h := s.tg) (a := { a with bo := s.bo }) rfl _ _ rfl rfl (by rw [HT.out]; rfl) HA1.out HOA.out HS.out ?_; intro w2 hg2 hB2 hs2; have l2 := HLD.out w2 hB2; have hr2 := (hg2.block _ (lt_of_block HR21.out) (fun e => by injection e with e; omega)).trans HR21.out; have hst := storeAtt_eq hr2 HZS.out HDS.out.1 HDS.out.2; have HR3 := hid hr2; have HG2 := hid hg2; clear hg2 hs2 hr2)
  refine bodyPost_ret (results_cell_row rfl _ _ _ _ _ (0, 0) _ rfl (setAtt_same HR3.out) under_att rfl (by rw [size_att, HDS.out.1])) rfl ⟨rfl, ?_⟩
  exact setAtt_below (below_into HB1.out (Nat.le_refl _) HG2.out HB1.out.size) (by omega)
end Go.Proofs.YtjemfmbmlmogcaaGreat
namespace Go.Proofs.YtjemfmbmlmogcaaGreat
set_option maxRecDepth 20000
open Go.RowKit
attribute [local go_sem ↓] exec_load_att exec_alloc_att exec_store_att exec_load_hash exec_build_hash
set_option maxHeartbeats 800000 in
theorem refBare9_any (v : Value) (c : CtM) (w : World) (hv : CtV w v c) :
    Calls Tryz.prog 62 #[v] w fun e w' => e = .returned (.bool (bareC c)) ∧ Below w.heap.size w w' := by
  obtain ⟨s, rfl, ho, _⟩ := hv
  have hb0 : Below w.heap.size w (w.alloc (.cells (ctc c s) 28)) := (Below.refl _ _).alloc (Nat.le_refl _) _
  have hA := BoxC.new w c s
  obtain ⟨C, HC⟩ : ∃ C : Array Value, Hid (ctc c s = C) := ⟨_, hid rfl⟩
  obtain ⟨q, HQ⟩ : ∃ q : Bool, Hid (bareC c = q) := ⟨_, hid rfl⟩
  rw [HC.out] at hb0 hA ⊢
  rw [HQ.out]
  have heq := fun W => eq_hash c.att.tg z32 ho.att.tg rfl W
  obtain ⟨q1, HQ1⟩ : ∃ q : Bool, Hid (decide (c.att.tg = z32) = q) := ⟨_, hid rfl⟩
  obtain ⟨T, HT⟩ : ∃ C : Array Value, Hid (hcells c.att.tg = C) := ⟨_, hid rfl⟩
  obtain ⟨O, HO⟩ : ∃ C : Array Value, Hid (hcells z32 = C) := ⟨_, hid rfl⟩
  rw [HQ1.out, HT.out, HO.out] at heq
  have hbz : ∀ W, buildH W = .ok (.value (.agg O)) W := fun W => by rw [← HO.out, buildH_eq, fcells_nought]; rfl
  go_enter Tryz.func62, Tryz.ntmps62
  go_upto_region 1 with (fail)
  generalize (w.alloc (.cells C 28)) = w0 at *
  have k0 := hA.bo
  have l1 := loadH_mid (hA.tag ho.att) ho.att.tg
  rw [HT.out] at l1
  obtain ⟨n, HN⟩ : ∃ n : Int, Hid (c.att.bo = n) := ⟨_, hid rfl⟩
  have HB : Hid (q = (decide (n = 0) && q1)) := hid (by rw [← HQ.out, ← HQ1.out, ← HN.out]; rfl)
  rw [HN.out] at k0
  clear hA ho HC
  by_cases h0 : n = 0
  · subst h0
    obtain rfl : q = q1 := by rw [HB.out]; simp
    go_wp2_with fail
    go_ret
    exact ⟨rfl, hb0⟩
  · have h1 : (n == 0) = false := by simpa using h0
    obtain rfl : q = false := by rw [HB.out, decide_eq_false h0]; rfl
    clear h0
    go_wp2_with fail
    go_ret
    exact ⟨rfl, hb0⟩
end Go.Proofs.YtjemfmbmlmogcaaGreat
