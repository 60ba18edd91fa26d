/-
  Els EltAt EltIc ElsArg CtPure CtWords CtWith CtBare CtRises CtMay CtRd CtOk CtCodeWith: what each of them says stands at its head.
-/
import Derived.Test.YtghophbabbaleaaGreatDoorCs9
import Derived.Test.YtghophbabbaleaaGreatDoorCs10
namespace Go.Proofs.YtghophbabbaleaaGreatDoor
set_option maxRecDepth 20000
open Go.RowKit
structure Elt {α : Type} (ec : α → List Value) (P : α → Prop) (n : Nat) (T SL : TypeId) : Prop where
  pos : 0 < n
  len : ∀ a, P a → (ec a).length = n
  one : ∀ a, ∀ u ∈ ec a, u.oneCell' = true
  under : Tryz.prog.underlying SL = some (.slice T)
  cells : Tryz.prog.cellsOf T = n
  info : ∃ i z, Tryz.prog.info? T = some i ∧ i.zero = some z ∧ i.size = n ∧ i.bytes ≤ 100000 ∧ z.cells.size = n
section
variable {α : Type} (ec : α → List Value) (n : Nat)
def ElsA (w : World) (A : Option Addr) (L : List α) : Prop :=
  0 < L.length → ∃ b off, A = some ⟨b, off, none⟩ ∧ b < w.heap.size ∧ ∀ j (h : j < L.length), w.rangeAt b (off + j * n) (ec L[j])
def Els (w : World) (v : Value) (L : List α) : Prop := ∃ A c, v = .slice A L.length c ∧ L.length ≤ c ∧ c ≤ maxLen ∧ ElsA ec n w A L
def OwnE (T : TypeId) (B : Nat) (w : World) (v : Value) (L : List α) : Prop := w.ownsRow B T n v L.length (L.map ec).flatten
end
theorem range_kept {w w' : World} {b o : Nat} {l : List Value} (h : w.rangeAt b o l) (hk : w'.heap[b]? = w.heap[b]?) : w'.rangeAt b o l := fun j u hu => (World.cell?_of_block hk).trans (h j u hu)
section
variable {α : Type} {ec : α → List Value} {n : Nat} {w w' : World} {A : Option Addr} {v : Value} {L : List α}
theorem ElsA.nil (w : World) (A : Option Addr) : ElsA ec n w A [] := fun h => absurd h (by simp)
theorem ElsA.below (h : ElsA ec n w A L) (hb : Below w.heap.size w w') : ElsA ec n w' A L := fun hl => by
  obtain ⟨b, off, e, hlt, hc⟩ := h hl
  exact ⟨b, off, e, Nat.lt_of_lt_of_le hlt hb.size, fun j hj => range_kept (hc j hj) (hb.block b hlt)⟩
theorem Els.nil (w : World) : Els ec n w (.slice none 0 0) [] := ⟨none, 0, rfl, Nat.le_refl _, Nat.zero_le _, ElsA.nil _ _⟩
theorem Els.below (h : Els ec n w v L) (hb : Below w.heap.size w w') : Els ec n w' v L := by
  obtain ⟨A, c, rfl, h1, h2, h3⟩ := h
  exact ⟨A, c, rfl, h1, h2, h3.below hb⟩
theorem Els.len (h : Els ec n w v L) : L.length ≤ maxLen := by
  obtain ⟨_, _, _, h1, h2, _⟩ := h
  omega
theorem Els.shape (h : Els ec n w v L) : ∃ A c, v = .slice A L.length c := by
  obtain ⟨A, c, e, _⟩ := h
  exact ⟨A, c, e⟩
theorem Els.at_ {k c : Nat} (h : Els ec n w (.slice A k c) L) : k = L.length ∧ L.length ≤ c ∧ c ≤ maxLen ∧ ElsA ec n w A L := by
  obtain ⟨A', c', e, h1, h2, h3⟩ := h
  injection e with e1 e2 e3
  subst e1 e2 e3
  exact ⟨rfl, h1, h2, h3⟩
end
section
variable {α : Type} {ec : α → List Value} {P : α → Prop} {n : Nat} {T SL : TypeId} {w w' : World} {v : Value} {L : List α} {B : Nat}
theorem Elt.ecs_at (E : Elt ec P n T SL) (hL : ∀ a ∈ L, P a) {j : Nat} (hj : j < L.length) {k : Nat} (hk : k < n) : (L.map ec).flatten[j * n + k]? = (ec L[j])[k]? := by
  induction L generalizing j with
  | nil => simp at hj
  | cons a L ih =>
    have ha := E.len a (hL a (by simp))
    rw [List.map_cons, List.flatten_cons]
    cases j with
    | zero =>
      rw [Nat.zero_mul, Nat.zero_add, List.getElem?_append_left (by rw [ha]; exact hk)]
      rfl
    | succ j =>
      rw [List.getElem?_append_right (by rw [ha, Nat.succ_mul]; omega), ha, show (j + 1) * n + k - n = j * n + k from by rw [Nat.succ_mul]; omega]
      exact ih (fun x hx => hL x (List.mem_cons_of_mem _ hx)) (by simpa using hj)
theorem Elt.ecs_one (E : Elt ec P n T SL) (L : List α) : ∀ u ∈ (L.map ec).flatten, u.oneCell' = true := by
  intro u hu
  obtain ⟨l, hl, hu⟩ := List.mem_flatten.1 hu
  obtain ⟨a, _, rfl⟩ := List.mem_map.1 hl
  exact E.one a u hu
theorem OwnE.nil (B : Nat) (w : World) : OwnE ec n T B w (.slice none 0 0) [] := World.ownsRow_nil _ _ _ _
theorem OwnE.els (h : OwnE ec n T B w v L) (E : Elt ec P n T SL) (hL : ∀ a ∈ L, P a) : Els ec n w v L := by
  rcases h.2 with ⟨rfl, h0⟩ | ⟨g, cap, cur, rfl, _, hh, hn, hm, hs, ht⟩
  · have : L = [] := List.eq_nil_of_length_eq_zero h0
    subst this
    exact Els.nil w
  · refine ⟨_, cap, rfl, hn, hm, fun _ => ⟨g, 0, rfl, lt_of_block hh, fun j hj k u hu => ?_⟩⟩
    have hk : k < n := by
      have := (List.getElem?_eq_some_iff.1 hu).1
      rw [E.len _ (hL _ (List.getElem_mem hj))] at this
      exact this
    have hlt : j * n + k < L.length * n := Nat.lt_of_lt_of_le (show j * n + k < (j + 1) * n by rw [Nat.succ_mul]; omega) (Nat.mul_le_mul_right n hj)
    rw [Nat.zero_add, cell_of_row w g _ _ _ (0, 0) hh, ← Array.getElem?_toList]
    have e := E.ecs_at hL hj hk
    rw [hu, ← ht, List.getElem?_take_of_lt hlt] at e
    exact e
theorem OwnE.more (h : OwnE ec n T B w v L) {B' : Nat} (hB : B' ≤ B) : OwnE ec n T B' w v L := by
  refine ⟨h.1, ?_⟩
  rcases h.2 with h0 | ⟨g, cap, cur, e, hg, r⟩
  · exact .inl h0
  · exact .inr ⟨g, cap, cur, e, by omega, r⟩
theorem OwnE.keep (h : OwnE ec n T B w v L) (hk : ∀ b, b < w.heap.size → v.ownBlock = some b → w'.heap[b]? = w.heap[b]?) : OwnE ec n T B w' v L := by
  refine ⟨h.1, ?_⟩
  rcases h.2 with h0 | ⟨g, cap, cur, rfl, hg, hh, r⟩
  · exact .inl h0
  · exact .inr ⟨g, cap, cur, rfl, hg, (hk g (lt_of_block hh) rfl).trans hh, r⟩
theorem OwnE.below (h : OwnE ec n T B w v L) (hb : Below w.heap.size w w') : OwnE ec n T B w' v L := h.keep fun b hlt _ => hb.block b hlt
theorem OwnE.alloc (h : OwnE ec n T B w v L) (o : Obj) : OwnE ec n T B (w.alloc o) v L := h.below ((Below.refl _ _).alloc (Nat.le_refl _) o)
theorem OwnE.set (h : OwnE ec n T B w v L) {g : Nat} (hB : g < B) (i : Nat) (u : Value) : OwnE ec n T B (w.setCell ⟨g, i, none⟩ u) v L := h.keep fun b _ e => Below.heap_setCell w _ u b (fun e' => by
  have := (World.ownsRow.lt h b e).1
  simp only at e'
  omega)
theorem OwnE.shape (h : OwnE ec n T B w v L) : ∃ A c, v = .slice A L.length c := by
  rcases h.2 with ⟨rfl, h0⟩ | ⟨g, cap, cur, rfl, _⟩
  · exact ⟨none, 0, by rw [h0]⟩
  · exact ⟨_, cap, rfl⟩
theorem els_one (w : World) (a : α) (C : Array Value) (T : TypeId) (h : (ec a).toArray = C) : Els ec n (w.alloc (.cells C T)) (.slice (some ⟨w.heap.size, 0, none⟩) 1 1) [a] := by
  subst h
  refine ⟨_, 1, rfl, Nat.le_refl _, by unfold maxLen; omega, fun _ => ⟨w.heap.size, 0, rfl, by simp, fun j hj k u hu => ?_⟩⟩
  obtain rfl : j = 0 := by simpa using hj
  rw [Nat.zero_mul, Nat.zero_add, cell_blk (heap_alloc_new w _) k]
  simpa using hu
end
end Go.Proofs.YtghophbabbaleaaGreatDoor
namespace Go.Proofs.YtghophbabbaleaaGreatDoor
set_option maxRecDepth 20000
open Go.RowKit
theorem loadAtt_in {w : World} {g o : Nat} {a : AtM} (hr : w.rangeAt g o (atl a)) (ho : a.Ok) : loadAtt (.pointer (some ⟨g, o, none⟩)) w = .ok (.value (.agg (atc a))) w := by
  have := run_loadAt_mid (P := Tryz.prog) w g o 52 (atl a) _ hr under_att rfl (by rw [size_att, atl_length ho])
  unfold loadAtt execOp
  simp only [Sem.run_bind, this, Result.andThen_ok, Sem.run_pure]
  rfl
end Go.Proofs.YtghophbabbaleaaGreatDoor
namespace Go.Proofs.YtghophbabbaleaaGreatDoor
set_option maxRecDepth 20000
open Go.RowKit
def icl (n : Int) : List Value := [.int .i64 n]
theorem info_int : (Tryz.prog.info? 3).map (fun i => (i.zero, i.size, decide (i.bytes ≤ 100000))) = some (some (.int .i64 0), 1, true) := by kernel_rfl
theorem eltIc : Elt icl (fun _ => True) 1 3 48 := by
  refine ⟨by omega, fun _ _ => rfl, fun a u hu => by obtain rfl := List.mem_singleton.1 hu; rfl, by kernel_rfl, by kernel_rfl, ?_⟩
  obtain ⟨i, hi, h⟩ := Option.map_eq_some_iff.1 info_int
  injection h with h1 h
  injection h with h2 h3
  exact ⟨i, _, hi, h1, h2, of_decide_eq_true h3, rfl⟩
end Go.Proofs.YtghophbabbaleaaGreatDoor
namespace Go.Proofs.YtghophbabbaleaaGreatDoor
set_option maxRecDepth 20000
open Go.ChangeShapes Go.WideShapes Go.ChangeAt Go.RowKit Go.Deep
section
variable {H : Type} {enc : TypeId × Value → H} {w : World} {base : Nat} {spare : Nat → Bool} {held : Bool} {fuel : Nat} {cs : List Value} {x : DataW H × List MemPlace}
theorem Elt.trod {α : Type} {ec : α → List Value} {P : α → Prop} {n : Nat} {T SL : TypeId} (E : Elt ec P n T SL) (a0 : α) (h0 : P a0)
    (el : ∀ {fuel : Nat} {cs : List Value} {x : DataW H × List MemPlace}, DataW.trod enc Tryz.prog w base spare held fuel T cs = some x → ∃ a, P a ∧ cs = ec a)
    (h : DataW.trod enc Tryz.prog w base spare held fuel SL cs = some x) : ∃ v L, cs = [v] ∧ Els ec n w v L ∧ ∀ a ∈ L, P a := by
  rcases open_slice E.under h with ⟨rfl, _⟩ | ⟨a, len, cap, m, k, D, Pl, rfl, _, hl, hm, hmm, _, hi⟩
  · exact ⟨_, [], rfl, ⟨none, 0, rfl, Nat.le_refl _, Nat.zero_le _, ElsA.nil _ _⟩, fun t ht => by cases ht⟩
  · have hlm : len ≤ m := by rw [hmm]; split <;> omega
    rw [E.cells] at hi
    have hex : ∀ i, ∃ t : α, P t ∧ (i < len → ∀ j u, (ec t)[j]? = some u → w.cell? (a.add (i * n + j)) = some u) := by
      intro i
      by_cases hil : i < len
      · obtain ⟨cs', hcs, ht⟩ := hi i (by omega)
        obtain ⟨t, hb, rfl⟩ := el ht
        obtain ⟨_, hlen', hat⟩ := World.cells?_some hcs
        refine ⟨t, hb, fun _ j u hu => ?_⟩
        have hj : j < n := by
          have := (List.getElem?_eq_some_iff.1 hu).1
          rw [E.len t hb] at this
          exact this
        rw [← Go.Deep.add_add, hat j hj]
        exact hu
      · exact ⟨a0, h0, fun h => absurd h hil⟩
    refine ⟨_, (List.range len).map fun i => (hex i).choose, rfl, ⟨some a, cap, by simp, by simpa using hl, hm, fun h0' => ?_⟩, fun t ht => ?_⟩
    · have h1 : 0 < len := by simpa using h0'
      have hpos := E.pos
      obtain ⟨b, off, spot⟩ := a
      have hl0 : 0 < (ec (hex 0).choose).length := by rw [E.len _ (hex 0).choose_spec.1]; exact hpos
      have hsp := (hex 0).choose_spec.2 h1 0 _ (List.getElem?_eq_getElem hl0)
      have hspot : spot = none := by simpa [Addr.add] using World.cell?_spot hsp
      subst hspot
      refine ⟨b, off, rfl, ?_, fun i hil => ?_⟩
      · have := World.block_lt_of_cell? w _ hsp
        rw [addr_add] at this
        exact this
      · have hil' : i < len := by simpa using hil
        simp only [List.getElem_map, List.getElem_range]
        intro j u hu
        have := (hex i).choose_spec.2 hil' j u hu
        rw [addr_add] at this
        rw [← this, Nat.add_assoc]
    · obtain ⟨i, _, rfl⟩ := List.mem_map.1 ht
      exact (hex i).choose_spec.1
end
end Go.Proofs.YtghophbabbaleaaGreatDoor
namespace Go.Proofs.YtghophbabbaleaaGreatDoor
set_option maxRecDepth 20000
structure SgM where
  bo : Int
  tg : List UInt8
  deriving DecidableEq
def SgM.Ok (s : SgM) : Prop := s.tg.length = 32
structure CtM where
  att : AtM
  sg : List SgM
  deriving DecidableEq
structure CtM.Ok (c : CtM) : Prop where
  att : c.att.Ok
  sg : ∀ s ∈ c.sg, s.Ok
def withC (a : AtM) (s : SgM) : AtM := { a with bo := s.bo, tg := s.tg }
theorem withC_ok {a : AtM} {s : SgM} (ha : a.Ok) (hs : s.Ok) : (withC a s).Ok := ⟨ha.ha, ha.pa, hs⟩
def risesB (top : Int) : Int → List SgM → Bool
  | _, [] => true
  | last, s :: r => (decide (last < s.bo) && decide (s.bo ≤ top)) && risesB top s.bo r
theorem risesB_mem {top : Int} : ∀ {l : List SgM} {last : Int}, risesB top last l = true → ∀ s ∈ l, last < s.bo ∧ s.bo ≤ top
  | [], _, _, s, hs => by cases hs
  | x :: r, last, h, s, hs => by
    unfold risesB at h
    simp only [Bool.and_eq_true, decide_eq_true_eq] at h
    obtain ⟨⟨h1, h2⟩, h3⟩ := h
    rcases List.mem_cons.1 hs with rfl | hs
    · exact ⟨h1, h2⟩
    · have := risesB_mem h3 s hs
      omega
theorem risesB_top {top k : Int} : ∀ {l : List SgM} {last : Int}, risesB k last l = true → k ≤ top → risesB top last l = true
  | [], _, _, _ => rfl
  | x :: r, last, h, h1 => by
    unfold risesB at h ⊢
    simp only [Bool.and_eq_true, decide_eq_true_eq] at h ⊢
    exact ⟨⟨h.1.1, by omega⟩, risesB_top h.2 h1⟩
def bareC (c : CtM) : Bool := decide (c.att.bo = 0) && decide (c.att.tg = z32)
def rightC (n : Int) (c : CtM) : Bool := decide (quoS n ≠ 0) && (decide (c.sg.length = quoS n) && (risesB n 0 c.sg && (bareC c && c.sg.all fun s => rightA (withC c.att s))))
def mayC (c : CtM) : Bool := bareC c && (mayA (withC c.att ⟨1, z32⟩) && (decide (0 < c.sg.length) && risesB 21 0 c.sg))
theorem quoS_top {n : Int} (h : quoS n ≠ 0) : 1 ≤ n ∧ n ≤ 21 ∧ 0 < quoS n ∧ n < 2 * (quoS n : Int) := by
  unfold quoS at h ⊢
  split at h
  · rename_i hc
    rw [if_pos hc]
    omega
  · exact absurd rfl h
end Go.Proofs.YtghophbabbaleaaGreatDoor
namespace Go.Proofs.YtghophbabbaleaaGreatDoor
set_option maxRecDepth 20000
open Go.RowKit
def scl (s : SgM) : List Value := .int .i64 s.bo :: bcells s.tg
def sgc (s : SgM) : Array Value := (scl s).toArray
theorem scl_length {s : SgM} (h : s.Ok) : (scl s).length = 33 := by
  unfold scl
  rw [List.length_cons, bcells_length, h]
theorem sgc_size {s : SgM} (h : s.Ok) : (sgc s).size = 33 := by
  unfold sgc
  rw [List.size_toArray, scl_length h]
theorem scl_one (s : SgM) : ∀ u ∈ scl s, u.oneCell' = true := by
  intro u hu
  rcases List.mem_cons.1 hu with rfl | hu
  · rfl
  · exact bcells_one _ u hu
theorem sgc_one (s : SgM) : (sgc s).all (·.oneCell') = true := all_oneCell_toArray (scl_one s)
def sgZ : SgM := ⟨0, z32⟩
theorem sgZ_ok : sgZ.Ok := rfl
theorem under_sg : Tryz.prog.underlying 151 = some (.struct (Tryz.prog.fieldsOf 151)) := by kernel_rfl
theorem size_sg : (Tryz.prog.info? 151).map (·.size) = some 33 := by kernel_rfl
theorem info_sg : (Tryz.prog.info? 151).map (fun i => (i.zero, i.size, decide (i.bytes ≤ 100000))) = some (some (.agg (sgc sgZ)), 33, true) := by kernel_rfl
theorem eltSg : Elt scl SgM.Ok 33 151 53 := by
  refine ⟨by omega, fun _ h => scl_length h, scl_one, by kernel_rfl, by kernel_rfl, ?_⟩
  obtain ⟨i, hi, h⟩ := Option.map_eq_some_iff.1 info_sg
  injection h with h1 h
  injection h with h2 h3
  exact ⟨i, _, hi, h1, h2, of_decide_eq_true h3, by show (sgc sgZ).size = 33; exact sgc_size sgZ_ok⟩
noncomputable def loadSg (v : Value) (w : World) : Result Next := Sem.run Tryz.prog (execOp (fun _ => v) { dst := none, op := .load 151 (.tmp 0), type := 0, pos := "", after := #[], guard := none }) w
theorem exec_load_sg (r : Operand → Value) (x : Operand) (dst : Option Tmp) (ty : TypeId) (pos : String) (after : Array Edge) (guard : Option (Nat × Bool)) (w : World) :
    Sem.run Tryz.prog (execOp r { dst := dst, op := .load 151 x, type := ty, pos := pos, after := after, guard := guard }) w = loadSg (r x) w := rfl
theorem loadSg_mid {w : World} {g o : Nat} {s : SgM} (hr : w.rangeAt g o (scl s)) (ho : s.Ok) : loadSg (.pointer (some ⟨g, o, none⟩)) w = .ok (.value (.agg (sgc s))) w := by
  have := run_loadAt_mid (P := Tryz.prog) w g o 151 (scl s) _ hr under_sg rfl (by rw [size_sg, scl_length ho])
  unfold loadSg execOp
  simp only [Sem.run_bind, this, Result.andThen_ok, Sem.run_pure]
  rfl
theorem sg_range {w : World} {g o : Nat} {s : SgM} (hr : w.rangeAt g o (scl s)) : w.cell? ⟨g, o, none⟩ = some (.int .i64 s.bo) ∧ w.rangeAt g (o + 1) (bcells s.tg) := by
  refine ⟨hr 0 _ rfl, fun j u hu => ?_⟩
  rw [show o + 1 + j = o + (j + 1) from by omega]
  exact hr (j + 1) u hu
def ctc (c : CtM) (s : Value) : Array Value := (atl c.att ++ [s]).toArray
theorem ctc_size {c : CtM} (s : Value) (h : c.att.Ok) : (ctc c s).size = 102 := by simp [ctc, atl_length h]
def CtV (w : World) (v : Value) (c : CtM) : Prop := ∃ s, v = .agg (ctc c s) ∧ c.Ok ∧ Els scl 33 w s c.sg
theorem CtV.below {w w' : World} {v : Value} {c : CtM} (h : CtV w v c) (hb : Below w.heap.size w w') : CtV w' v c := by
  obtain ⟨s, rfl, h1, h2⟩ := h
  exact ⟨s, rfl, h1, h2.below hb⟩
def BoxC (w : World) (g : Nat) (c : CtM) (s : Value) : Prop := w.heap[g]? = some (.cells (ctc c s) 55 (0, 0))
section
variable {w w' : World} {g : Nat} {c : CtM} {s : Value}
theorem BoxC.new (w : World) (c : CtM) (s : Value) : BoxC (w.alloc (.cells (ctc c s) 55)) w.heap.size c s := heap_alloc_new w _
theorem BoxC.lt (h : BoxC w g c s) : g < w.heap.size := lt_of_block h
theorem BoxC.below {B : Nat} (h : BoxC w g c s) (hb : Below B w w') (hg : g < B) : BoxC w' g c s := (hb.block g hg).trans h
theorem BoxC.free (h : BoxC w g c s) (i : Nat) : w.frozen? ⟨g, i, none⟩ = false := free_blk h i
theorem BoxC.cell (h : BoxC w g c s) (i : Nat) : w.cell? ⟨g, i, none⟩ = (atl c.att ++ [s])[i]? := by
  rw [cell_blk h i]
  unfold ctc
  rw [List.getElem?_toArray]
theorem BoxC.att (h : BoxC w g c s) : w.rangeAt g 0 (atl c.att) := fun j u hu => by
  rw [Nat.zero_add, h.cell, List.getElem?_append_left (List.getElem?_eq_some_iff.1 hu).1]
  exact hu
theorem BoxC.sigs (h : BoxC w g c s) (ho : c.att.Ok) : w.cell? ⟨g, 101, none⟩ = some s := by
  rw [h.cell, List.getElem?_append_right (by rw [atl_length ho]; omega), atl_length ho]
  rfl
theorem BoxC.bo (h : BoxC w g c s) : w.cell? ⟨g, 0, none⟩ = some (.int .i64 c.att.bo) := h.att 0 _ rfl
theorem BoxC.tag (h : BoxC w g c s) (ho : c.att.Ok) : w.rangeAt g 69 (bcells c.att.tg) := fun j u hu => by
  have e := h.att (69 + j) u (by
    rw [atl_tag, List.append_nil, List.getElem?_append_right (by simp only [List.length_append, bcells_length, ho.ha, ho.pa, List.length_cons, List.length_nil]; omega)]
    simp only [List.length_append, bcells_length, ho.ha, ho.pa, List.length_cons, List.length_nil]
    rw [show 69 + j - (0 + 1 + 1 + 1 + 1 + (32 + (0 + 1 + 32))) = j from by omega]
    exact hu)
  rwa [Nat.zero_add] at e
end
noncomputable def loadCt (v : Value) (w : World) : Result Next := Sem.run Tryz.prog (execOp (fun _ => v) { dst := none, op := .load 55 (.tmp 0), type := 0, pos := "", after := #[], guard := none }) w
theorem exec_load_ct (r : Operand → Value) (x : Operand) (dst : Option Tmp) (ty : TypeId) (pos : String) (after : Array Edge) (guard : Option (Nat × Bool)) (w : World) :
    Sem.run Tryz.prog (execOp r { dst := dst, op := .load 55 x, type := ty, pos := pos, after := after, guard := guard }) w = loadCt (r x) w := rfl
theorem under_ct : Tryz.prog.underlying 55 = some (.struct (Tryz.prog.fieldsOf 55)) := by kernel_rfl
theorem size_ct : (Tryz.prog.info? 55).map (·.size) = some 102 := by kernel_rfl
theorem loadCt_row {w : World} {g : Nat} {C : Array Value} {T : TypeId} (h : w.heap[g]? = some (.cells C T (0, 0))) (hs : C.size = 102) : loadCt (.pointer (some ⟨g, 0, none⟩)) w = .ok (.value (.agg C)) w := by
  have := run_loadAt_mid (P := Tryz.prog) w g 0 55 C.toList _ (fun j v hj => by rw [Nat.zero_add, cell_blk h j]; simpa using hj) under_ct rfl (by rw [size_ct]; simp [hs])
  simp only [Array.toArray_toList] at this
  unfold loadCt execOp
  simp only [Sem.run_bind, this, Result.andThen_ok, Sem.run_pure]
def setCt (w : World) (g : Nat) (C : Array Value) : World := w.setRow g C
theorem setCt_alloc (w : World) (T : TypeId) (C0 C : Array Value) : setCt (w.alloc (.cells C0 T)) w.heap.size C = w.alloc (.cells C T) := by
  have hm : ∀ (a : Array Obj) (x : Obj) (f : Obj → Obj), (a.push x).modify a.size f = a.push (f x) := by
    intro a x f
    apply Array.ext_getElem?
    intro k
    rw [Array.getElem?_modify]
    by_cases h : a.size = k
    · subst h
      simp
    · rw [if_neg h, Array.getElem?_push, Array.getElem?_push]
      rw [if_neg (fun e => h e.symm), if_neg (fun e => h e.symm)]
  unfold setCt World.setRow World.alloc
  simp only [hm]
theorem atc_by (a : AtM) (n : Int) : (atc a).setIfInBounds 0 (.int .i64 n) = atc { a with bo := n } := by
  unfold atc atl
  rw [List.setIfInBounds_toArray]
  rfl
end Go.Proofs.YtghophbabbaleaaGreatDoor
namespace Go.Proofs.YtghophbabbaleaaGreatDoor
set_option maxRecDepth 20000
open Go.RowKit
attribute [local go_sem ↓] exec_load_att exec_alloc_att exec_store_att exec_load_hash exec_build_hash
set_option maxHeartbeats 800000 in
theorem refWith9_any (a : AtM) (s : SgM) (w : World) (ha : a.Ok) (hs : s.Ok) :
    Calls Tryz.prog 113 #[.agg (atc a), .agg (sgc s)] w fun e w' => e = .returned (.agg (atc (withC a s))) ∧ Below w.heap.size w w' := by
  obtain ⟨C, HC⟩ : ∃ C : Array Value, Hid (atc a = C) := ⟨_, hid rfl⟩
  obtain ⟨G, HG⟩ : ∃ C : Array Value, Hid (sgc s = C) := ⟨_, hid rfl⟩
  obtain ⟨D, HD⟩ : ∃ C : Array Value, Hid (atc (withC a s) = C) := ⟨_, hid rfl⟩
  obtain ⟨Z, HZ⟩ : ∃ C : Array Value, Hid (atc atZ = C) := ⟨_, hid rfl⟩
  have hal : ∀ W, allocAtt W = .ok (.value (.pointer (some ⟨W.heap.size, 0, none⟩))) (W.alloc (.cells Z 52)) := fun W => by rw [← HZ.out]; exact allocAtt_eq W
  have HZS : Hid (Z.size = 101) := hid (by rw [← HZ.out]; exact atc_size atZ_ok)
  have HDS : Hid (D.size = 101 ∧ D.all (·.oneCell') = true) := hid (by rw [← HD.out]; exact ⟨atc_size (withC_ok ha hs), atc_one _⟩)
  have hb0 : Below w.heap.size w (((w.alloc (.cells C 52)).alloc (.cells G 151)).alloc (.cells Z 52)) := (((Below.refl _ _).alloc (Nat.le_refl _) _).alloc (by simp) _).alloc (by simp; omega) _
  have hr0 : (((w.alloc (.cells C 52)).alloc (.cells G 151)).alloc (.cells Z 52)).heap[w.heap.size]? = some (.cells C 52 (0, 0)) := (Below.heap_alloc _ _ _ (by simp; omega)).trans (heap1 w _ _)
  have hr1 : (((w.alloc (.cells C 52)).alloc (.cells G 151)).alloc (.cells Z 52)).heap[w.heap.size + 1]? = some (.cells G 151 (0, 0)) := (Below.heap_alloc _ _ _ (by simp)).trans (heap2 w _ _)
  have hr2 : (((w.alloc (.cells C 52)).alloc (.cells G 151)).alloc (.cells Z 52)).heap[w.heap.size + 1 + 1]? = some (.cells Z 52 (0, 0)) := by
    have := heap2 (w.alloc (.cells C 52)) (.cells G 151) (.cells Z 52)
    rwa [show (w.alloc (.cells C 52)).heap.size = w.heap.size + 1 from by simp] at this
  obtain ⟨T, HT⟩ : ∃ C : Array Value, Hid (hcells s.tg = C) := ⟨_, hid rfl⟩
  have HSG : Hid (∀ W : World, W.heap[w.heap.size + 1]? = some (.cells G 151 (0, 0)) → W.cell? ⟨w.heap.size + 1, 0, none⟩ = some (.int .i64 s.bo) ∧ loadH (.pointer (some ⟨w.heap.size + 1, 1, none⟩)) W = .ok (.value (.agg T)) W) := hid (fun W h => by
    rw [← HG.out] at h
    have hr : W.rangeAt (w.heap.size + 1) 0 (scl s) := fun j u hu => by
      rw [Nat.zero_add, cell_blk h j]
      unfold sgc
      rw [List.getElem?_toArray]
      exact hu
    obtain ⟨h1, h2⟩ := sg_range hr
    rw [← HT.out]
    exact ⟨h1, loadH_mid h2 hs⟩)
  have HLD : Hid (∀ W : World, BoxA W w.heap.size { { a with bo := s.bo } with tg := s.tg } → loadAtt (.pointer (some ⟨w.heap.size, 0, none⟩)) W = .ok (.value (.agg D)) W) := hid (fun W h => by
    rw [← HD.out]
    exact loadAtt_eq h (withC_ok ha hs))
  have HOA : Hid ({ a with bo := s.bo } : AtM).Ok := hid ⟨ha.ha, ha.pa, ha.tg⟩
  have HS := hid hs
  rw [HD.out, HC.out, HG.out]
  go_enter Tryz.func113, Tryz.ntmps113
  go_upto_region 1 with (fail)
  generalize (((w.alloc (.cells C 52)).alloc (.cells G 151)).alloc (.cells Z 52)) = w0 at *
  have hA : BoxA w0 w.heap.size a := by unfold BoxA; rw [HC.out]; exact hr0
  have c0 := hA.cells.1
  have f0 := hA.free 0
  have c1 := (HSG.out w0 hr1).1
  have hA1 : BoxA (w0.setCell ⟨w.heap.size, 0, none⟩ (.int .i64 s.bo)) w.heap.size { a with bo := s.bo } := by
    have := set_blk hA 0 (.int .i64 s.bo)
    rw [atc_by] at this
    exact this
  have hr11 := blk_other hr1 (.int .i64 s.bo) (i := 0) (b := w.heap.size) (by omega)
  have hr21 := blk_other hr2 (.int .i64 s.bo) (i := 0) (b := w.heap.size) (by omega)
  have hb1 : Below w.heap.size w (w0.setCell ⟨w.heap.size, 0, none⟩ (.int .i64 s.bo)) := hb0.setCell (by simp) _
  have l1 := (HSG.out _ hr11).2
  have HA1 := hid hA1
  have HR21 := hid hr21
  have HB1 := hid hb1
  clear hA hA1 hr0 hr1 hr2 hr11 hr21 hb0 hb1 hal ha hs
  go_wp2_with (refine wpList_store_tag (h := s.tg) (a := { a with bo := s.bo }) rfl _ _ rfl rfl (by rw [HT.out]; rfl) HA1.out HOA.out HS.out ?_; intro w2 hg2 hB2 hs2; have l2 := HLD.out w2 hB2; have hr2 := (hg2.block _ (lt_of_block HR21.out) (fun e => by injection e with e; omega)).trans HR21.out; have hst := storeAtt_eq hr2 HZS.out HDS.out.1 HDS.out.2; have HR3 := hid hr2; have HG2 := hid hg2; clear hg2 hs2 hr2)
  refine bodyPost_ret (results_cell_row rfl _ _ _ _ _ (0, 0) _ rfl (setAtt_same HR3.out) under_att rfl (by rw [size_att, HDS.out.1])) rfl ⟨rfl, ?_⟩
  exact setAtt_below (below_into HB1.out (Nat.le_refl _) HG2.out HB1.out.size) (by omega)
end Go.Proofs.YtghophbabbaleaaGreatDoor
namespace Go.Proofs.YtghophbabbaleaaGreatDoor
set_option maxRecDepth 20000
open Go.RowKit
attribute [local go_sem ↓] exec_load_att exec_alloc_att exec_store_att exec_load_hash exec_build_hash
set_option maxHeartbeats 800000 in
theorem refBare9_any (v : Value) (c : CtM) (w : World) (hv : CtV w v c) :
    Calls Tryz.prog 111 #[v] w fun e w' => e = .returned (.bool (bareC c)) ∧ Below w.heap.size w w' := by
  obtain ⟨s, rfl, ho, _⟩ := hv
  have hb0 : Below w.heap.size w (w.alloc (.cells (ctc c s) 55)) := (Below.refl _ _).alloc (Nat.le_refl _) _
  have hA := BoxC.new w c s
  obtain ⟨C, HC⟩ : ∃ C : Array Value, Hid (ctc c s = C) := ⟨_, hid rfl⟩
  obtain ⟨q, HQ⟩ : ∃ q : Bool, Hid (bareC c = q) := ⟨_, hid rfl⟩
  rw [HC.out] at hb0 hA ⊢
  rw [HQ.out]
  have heq := fun W => eq_hash c.att.tg z32 ho.att.tg rfl W
  obtain ⟨q1, HQ1⟩ : ∃ q : Bool, Hid (decide (c.att.tg = z32) = q) := ⟨_, hid rfl⟩
  obtain ⟨T, HT⟩ : ∃ C : Array Value, Hid (hcells c.att.tg = C) := ⟨_, hid rfl⟩
  obtain ⟨O, HO⟩ : ∃ C : Array Value, Hid (hcells z32 = C) := ⟨_, hid rfl⟩
  rw [HQ1.out, HT.out, HO.out] at heq
  have hbz : ∀ W, buildH W = .ok (.value (.agg O)) W := fun W => by rw [← HO.out, buildH_eq, fcells_nought]; rfl
  go_enter Tryz.func111, Tryz.ntmps111
  go_upto_region 1 with (fail)
  generalize (w.alloc (.cells C 55)) = w0 at *
  have k0 := hA.bo
  have l1 := loadH_mid (hA.tag ho.att) ho.att.tg
  rw [HT.out] at l1
  obtain ⟨n, HN⟩ : ∃ n : Int, Hid (c.att.bo = n) := ⟨_, hid rfl⟩
  have HB : Hid (q = (decide (n = 0) && q1)) := hid (by rw [← HQ.out, ← HQ1.out, ← HN.out]; rfl)
  rw [HN.out] at k0
  clear hA ho HC
  by_cases h0 : n = 0
  · subst h0
    obtain rfl : q = q1 := by rw [HB.out]; simp
    go_wp2_with fail
    go_ret
    exact ⟨rfl, hb0⟩
  · have h1 : (n == 0) = false := by simpa using h0
    obtain rfl : q = false := by rw [HB.out, decide_eq_false h0]; rfl
    clear h0
    go_wp2_with fail
    go_ret
    exact ⟨rfl, hb0⟩
end Go.Proofs.YtghophbabbaleaaGreatDoor
namespace Go.Proofs.YtghophbabbaleaaGreatDoor
set_option maxRecDepth 20000
open Go.RowKit
set_option maxHeartbeats 3200000 in
theorem refRises9_any (v : Value) (l : List SgM) (top : Int) (w : World) (hv : Els scl 33 w v l) :
    Calls Tryz.prog 110 #[v, .int .i64 top] w fun e w' => e = .returned (.bool (risesB top 0 l)) ∧ Below w.heap.size w w' := by
  obtain ⟨A, c, rfl⟩ := hv.shape
  obtain ⟨L, HL⟩ : ∃ n : Nat, Hid (l.length = n) := ⟨_, hid rfl⟩
  obtain ⟨ans, HAN⟩ : ∃ q : Bool, Hid (risesB top 0 l = q) := ⟨_, hid rfl⟩
  have hlen := hv.len
  unfold maxLen at hlen
  have hc1 := hv.at_.2.1
  have hc2 := hv.at_.2.2.1
  rw [HL.out] at hv hlen hc1 ⊢
  rw [HAN.out]
  unfold maxLen at hc2
  have HV := hid (fun W (h : Below w.heap.size w W) => hv.below h)
  clear hv
  go_enter Tryz.func110, Tryz.ntmps110
  go_wp2_with fail
  go_loopw [5] (fun si wr => ∃ (i : Nat) (last : Int), i ≤ L ∧ si = .int .i64 i ∧ 0 ≤ last ∧ Hid (ans = risesB top last (l.drop i)) ∧ ((i = 0 ∧ last = 0) ∨ (∃ k, i = k + 1 ∧ ∃ h : k < l.length, l[k].bo = last)) ∧ Below w.heap.size w wr) (fun si _ => L - (intOf si).toNat)
  case atStart => exact ⟨0, 0, Nat.zero_le _, rfl, Int.le_refl _, hid (by rw [List.drop_zero]; exact HAN.out.symm), .inl ⟨rfl, rfl⟩, Below.refl _ _⟩
  case round =>
    obtain ⟨i, last, hi, rfl, hlast, HR, hpre, hbr⟩ := hrel
    by_cases hlt : i < L
    · have hil : i < l.length := by rw [HL.out]; exact hlt
      obtain ⟨g, o, rfl, hg, hcl⟩ := (HV.out wr hbr).at_.2.2.2 (by omega)
      have HST : Hid (ans = ((decide (last < l[i].bo) && decide (l[i].bo ≤ top)) && risesB top l[i].bo (l.drop (i + 1)))) := hid (by
        rw [HR.out, List.drop_eq_getElem_cons hil]
        rfl)
      obtain ⟨b, HBB⟩ : ∃ b : Int, Hid (l[i].bo = b) := ⟨_, hid rfl⟩
      have hc : wr.drew.cell? ⟨g, o + i * 33, none⟩ = some (.int .i64 b) := by rw [← HBB.out]; exact (sg_range (hcl i hil)).1
      rw [HBB.out] at HST
      have hI : (i : Int) < (L : Int) := by omega
      have hbd := hbr.drew
      by_cases h1 : b < 1
      · obtain rfl : ans = false := by rw [HST.out, decide_eq_false (by omega)]; rfl
        clear hcl
        go_upto_region 4 with (fail)
        refine wp_region_held_drew (S := fun W => W.cell? ⟨g, o + i * 33, none⟩ = some (.int .i64 b)) (by kernel_rfl) hc (fun hHeld => ?_)
        refine' tk (i := 0) (v := _) rfl ?_ ?_
        rotate_left
        · (intro W hW; (try dsimp only at hW); go_simp; first | done | with_reducible rfl)
        try simp only [lay]
        refine' tk (i := 1) (v := _) rfl ?_ ?_
        rotate_left
        · (intro W hW; (try dsimp only at hW); go_simp; first | done | with_reducible rfl)
        try simp only [lay]
        refine' tk (i := 2) (v := _) rfl ?_ ?_
        rotate_left
        · (intro W hW; (try dsimp only at hW); go_simp; first | done | with_reducible rfl)
        try simp only [lay]
        refine' tk (i := 3) (v := _) rfl ?_ ?_
        rotate_left
        · (intro W hW; (try dsimp only at hW); go_simp; first | done | with_reducible rfl)
        try simp only [lay]
        refine' tk (i := 4) (v := _) rfl ?_ ?_
        rotate_left
        · (intro W hW; (try dsimp only at hW); go_simp; first | done | with_reducible rfl)
        try simp only [lay]
        refine' tk (i := 5) (v := _) rfl ?_ ?_
        rotate_left
        · (intro W hW; (try dsimp only at hW); go_simp; first | done | with_reducible rfl)
        try simp only [lay]
        refine' tk (i := 6) (v := _) rfl ?_ ?_
        rotate_left
        · (intro W hW; (try dsimp only at hW); go_simp; first | done | with_reducible rfl)
        try simp only [lay]
        refine tf (i := 7) rfl ?_
        try simp only [lay]
        refine tf (i := 8) rfl ?_
        try simp only [lay]
        refine tf (i := 9) rfl ?_
        try simp only [lay]
        refine tf (i := 10) rfl ?_
        try simp only [lay]
        refine tf (i := 11) rfl ?_
        try simp only [lay]
        refine tf (i := 12) rfl ?_
        try simp only [lay]
        refine tf (i := 13) rfl ?_
        try simp only [lay]
        refine' tk (i := 14) (v := _) rfl ?_ ?_
        rotate_left
        · (intro W hW; (try dsimp only at hW); go_simp; first | done | with_reducible rfl)
        try simp only [lay]
        refine' tk (i := 15) (v := _) rfl ?_ ?_
        rotate_left
        · (intro W hW; (try dsimp only at hW); go_simp; first | done | with_reducible rfl)
        try simp only [lay]
        refine tf (i := 16) rfl ?_
        try simp only [lay]
        refine tf (i := 17) rfl ?_
        try simp only [lay]
        refine tf (i := 18) rfl ?_
        try simp only [lay]
        refine tf (i := 19) rfl ?_
        try simp only [lay]
        refine tf (i := 20) rfl ?_
        try simp only [lay]
        refine tf (i := 21) rfl ?_
        try simp only [lay]
        refine tf (i := 22) rfl ?_
        try simp only [lay]
        refine tf (i := 23) rfl ?_
        try simp only [lay]
        refine tf (i := 24) rfl ?_
        try simp only [lay]
        refine tf (i := 25) rfl ?_
        try simp only [lay]
        refine tf (i := 26) rfl ?_
        try simp only [lay]
        refine tf (i := 27) rfl ?_
        try simp only [lay]
        refine tf (i := 28) rfl ?_
        try simp only [lay]
        refine tf (i := 29) rfl ?_
        try simp only [lay]
        refine tf (i := 30) rfl ?_
        try simp only [lay]
        refine tf (i := 31) rfl ?_
        try simp only [lay]
        refine' tk (i := 32) (v := _) rfl ?_ ?_
        rotate_left
        · (intro W hW; (try dsimp only at hW); go_simp; first | done | with_reducible rfl)
        try simp only [lay]
        refine wpAnyH_done (by kernel_rfl) ?_ _
        go_wp2_with fail
        go_ret
        exact ⟨rfl, hbd⟩
      · by_cases h2 : top < b
        · obtain rfl : ans = false := by rw [HST.out, decide_eq_false (show ¬ b ≤ top by omega), Bool.and_false]; rfl
          clear hcl
          go_upto_region 4 with (fail)
          refine wp_region_held_drew (S := fun W => W.cell? ⟨g, o + i * 33, none⟩ = some (.int .i64 b)) (by kernel_rfl) hc (fun hHeld => ?_)
          refine' tk (i := 0) (v := _) rfl ?_ ?_
          rotate_left
          · (intro W hW; (try dsimp only at hW); go_simp; first | done | with_reducible rfl)
          try simp only [lay]
          refine' tk (i := 1) (v := _) rfl ?_ ?_
          rotate_left
          · (intro W hW; (try dsimp only at hW); go_simp; first | done | with_reducible rfl)
          try simp only [lay]
          refine' tk (i := 2) (v := _) rfl ?_ ?_
          rotate_left
          · (intro W hW; (try dsimp only at hW); go_simp; first | done | with_reducible rfl)
          try simp only [lay]
          refine' tk (i := 3) (v := _) rfl ?_ ?_
          rotate_left
          · (intro W hW; (try dsimp only at hW); go_simp; first | done | with_reducible rfl)
          try simp only [lay]
          refine' tk (i := 4) (v := _) rfl ?_ ?_
          rotate_left
          · (intro W hW; (try dsimp only at hW); go_simp; first | done | with_reducible rfl)
          try simp only [lay]
          refine' tk (i := 5) (v := _) rfl ?_ ?_
          rotate_left
          · (intro W hW; (try dsimp only at hW); go_simp; first | done | with_reducible rfl)
          try simp only [lay]
          refine' tk (i := 6) (v := _) rfl ?_ ?_
          rotate_left
          · (intro W hW; (try dsimp only at hW); go_simp; first | done | with_reducible rfl)
          try simp only [lay]
          refine' tk (i := 7) (v := _) rfl ?_ ?_
          rotate_left
          · (intro W hW; (try dsimp only at hW); go_simp; first | done | with_reducible rfl)
          try simp only [lay]
          refine' tk (i := 8) (v := _) rfl ?_ ?_
          rotate_left
          · (intro W hW; (try dsimp only at hW); go_simp; first | done | with_reducible rfl)
          try simp only [lay]
          refine' tk (i := 9) (v := _) rfl ?_ ?_
          rotate_left
          · (intro W hW; (try dsimp only at hW); go_simp; first | done | with_reducible rfl)
          try simp only [lay]
          refine' tk (i := 10) (v := _) rfl ?_ ?_
          rotate_left
          · (intro W hW; (try dsimp only at hW); go_simp; first | done | with_reducible rfl)
          try simp only [lay]
          refine' tk (i := 11) (v := _) rfl ?_ ?_
          rotate_left
          · (intro W hW; (try dsimp only at hW); go_simp; first | done | with_reducible rfl)
          try simp only [lay]
          refine' tk (i := 12) (v := _) rfl ?_ ?_
          rotate_left
          · (intro W hW; (try dsimp only at hW); go_simp; first | done | with_reducible rfl)
          try simp only [lay]
          refine' tk (i := 13) (v := _) rfl ?_ ?_
          rotate_left
          · (intro W hW; (try dsimp only at hW); go_simp; first | done | with_reducible rfl)
          try simp only [lay]
          refine' tk (i := 14) (v := _) rfl ?_ ?_
          rotate_left
          · (intro W hW; (try dsimp only at hW); go_simp; first | done | with_reducible rfl)
          try simp only [lay]
          refine' tk (i := 15) (v := _) rfl ?_ ?_
          rotate_left
          · (intro W hW; (try dsimp only at hW); go_simp; first | done | with_reducible rfl)
          try simp only [lay]
          refine tf (i := 16) rfl ?_
          try simp only [lay]
          refine tf (i := 17) rfl ?_
          try simp only [lay]
          refine tf (i := 18) rfl ?_
          try simp only [lay]
          refine tf (i := 19) rfl ?_
          try simp only [lay]
          refine tf (i := 20) rfl ?_
          try simp only [lay]
          refine tf (i := 21) rfl ?_
          try simp only [lay]
          refine tf (i := 22) rfl ?_
          try simp only [lay]
          refine tf (i := 23) rfl ?_
          try simp only [lay]
          refine tf (i := 24) rfl ?_
          try simp only [lay]
          refine tf (i := 25) rfl ?_
          try simp only [lay]
          refine tf (i := 26) rfl ?_
          try simp only [lay]
          refine tf (i := 27) rfl ?_
          try simp only [lay]
          refine tf (i := 28) rfl ?_
          try simp only [lay]
          refine tf (i := 29) rfl ?_
          try simp only [lay]
          refine tf (i := 30) rfl ?_
          try simp only [lay]
          refine tf (i := 31) rfl ?_
          try simp only [lay]
          refine' tk (i := 32) (v := _) rfl ?_ ?_
          rotate_left
          · (intro W hW; (try dsimp only at hW); go_simp; first | done | with_reducible rfl)
          try simp only [lay]
          refine wpAnyH_done (by kernel_rfl) ?_ _
          go_wp2_with fail
          go_ret
          exact ⟨rfl, hbd⟩
        · rcases hpre with ⟨rfl, rfl⟩ | ⟨k, rfl, hk, rfl⟩
          · clear hcl
            rw [Nat.zero_mul, Nat.add_zero] at hc
            go_upto_region 4 with (fail)
            refine wp_region_held_drew (S := fun W => W.cell? ⟨g, o, none⟩ = some (.int .i64 b)) (by kernel_rfl) hc (fun hHeld => ?_)
            refine' tk (i := 0) (v := _) rfl ?_ ?_
            rotate_left
            · (intro W hW; (try dsimp only at hW); go_simp; first | done | with_reducible rfl)
            try simp only [lay]
            refine' tk (i := 1) (v := _) rfl ?_ ?_
            rotate_left
            · (intro W hW; (try dsimp only at hW); go_simp; first | done | with_reducible rfl)
            try simp only [lay]
            refine' tk (i := 2) (v := _) rfl ?_ ?_
            rotate_left
            · (intro W hW; (try dsimp only at hW); go_simp; first | done | with_reducible rfl)
            try simp only [lay]
            refine' tk (i := 3) (v := _) rfl ?_ ?_
            rotate_left
            · (intro W hW; (try dsimp only at hW); go_simp; first | done | with_reducible rfl)
            try simp only [lay]
            refine' tk (i := 4) (v := _) rfl ?_ ?_
            rotate_left
            · (intro W hW; (try dsimp only at hW); go_simp; first | done | with_reducible rfl)
            try simp only [lay]
            refine' tk (i := 5) (v := _) rfl ?_ ?_
            rotate_left
            · (intro W hW; (try dsimp only at hW); go_simp; first | done | with_reducible rfl)
            try simp only [lay]
            refine' tk (i := 6) (v := _) rfl ?_ ?_
            rotate_left
            · (intro W hW; (try dsimp only at hW); go_simp; first | done | with_reducible rfl)
            try simp only [lay]
            refine' tk (i := 7) (v := _) rfl ?_ ?_
            rotate_left
            · (intro W hW; (try dsimp only at hW); go_simp; first | done | with_reducible rfl)
            try simp only [lay]
            refine' tk (i := 8) (v := _) rfl ?_ ?_
            rotate_left
            · (intro W hW; (try dsimp only at hW); go_simp; first | done | with_reducible rfl)
            try simp only [lay]
            refine' tk (i := 9) (v := _) rfl ?_ ?_
            rotate_left
            · (intro W hW; (try dsimp only at hW); go_simp; first | done | with_reducible rfl)
            try simp only [lay]
            refine' tk (i := 10) (v := _) rfl ?_ ?_
            rotate_left
            · (intro W hW; (try dsimp only at hW); go_simp; first | done | with_reducible rfl)
            try simp only [lay]
            refine' tk (i := 11) (v := _) rfl ?_ ?_
            rotate_left
            · (intro W hW; (try dsimp only at hW); go_simp; first | done | with_reducible rfl)
            try simp only [lay]
            refine' tk (i := 12) (v := _) rfl ?_ ?_
            rotate_left
            · (intro W hW; (try dsimp only at hW); go_simp; first | done | with_reducible rfl)
            try simp only [lay]
            refine' tk (i := 13) (v := _) rfl ?_ ?_
            rotate_left
            · (intro W hW; (try dsimp only at hW); go_simp; first | done | with_reducible rfl)
            try simp only [lay]
            refine' tk (i := 14) (v := _) rfl ?_ ?_
            rotate_left
            · (intro W hW; (try dsimp only at hW); go_simp; first | done | with_reducible rfl)
            try simp only [lay]
            refine' tk (i := 15) (v := _) rfl ?_ ?_
            rotate_left
            · (intro W hW; (try dsimp only at hW); go_simp; first | done | with_reducible rfl)
            try simp only [lay]
            refine' tk (i := 16) (v := _) rfl ?_ ?_
            rotate_left
            · (intro W hW; (try dsimp only at hW); go_simp; first | done | with_reducible rfl)
            try simp only [lay]
            refine' tk (i := 17) (v := _) rfl ?_ ?_
            rotate_left
            · (intro W hW; (try dsimp only at hW); go_simp; first | done | with_reducible rfl)
            try simp only [lay]
            refine' tk (i := 18) (v := _) rfl ?_ ?_
            rotate_left
            · (intro W hW; (try dsimp only at hW); go_simp; first | done | with_reducible rfl)
            try simp only [lay]
            refine tf (i := 19) rfl ?_
            try simp only [lay]
            refine tf (i := 20) rfl ?_
            try simp only [lay]
            refine tf (i := 21) rfl ?_
            try simp only [lay]
            refine tf (i := 22) rfl ?_
            try simp only [lay]
            refine tf (i := 23) rfl ?_
            try simp only [lay]
            refine tf (i := 24) rfl ?_
            try simp only [lay]
            refine tf (i := 25) rfl ?_
            try simp only [lay]
            refine tf (i := 26) rfl ?_
            try simp only [lay]
            refine tf (i := 27) rfl ?_
            try simp only [lay]
            refine tf (i := 28) rfl ?_
            try simp only [lay]
            refine tf (i := 29) rfl ?_
            try simp only [lay]
            refine tf (i := 30) rfl ?_
            try simp only [lay]
            refine' tk (i := 31) (v := _) rfl ?_ ?_
            rotate_left
            · (intro W hW; (try dsimp only at hW); go_simp; first | done | with_reducible rfl)
            try simp only [lay]
            refine' tk (i := 32) (v := _) rfl ?_ ?_
            rotate_left
            · (intro W hW; (try dsimp only at hW); go_simp; first | done | with_reducible rfl)
            try simp only [lay]
            refine wpAnyH_done (by kernel_rfl) ?_ _
            go_wp2_with fail
            go_roundw
            case rel => exact ⟨0 + 1, b, by omega, by go_num, by omega, hid (by rw [HST.out, decide_eq_true (by omega), decide_eq_true (by omega)]; simp), .inr ⟨0, rfl, hil, HBB.out⟩, hbd⟩
            case measure => simp [intOf]; omega
          · obtain ⟨p, HPP⟩ : ∃ p : Int, Hid (l[k].bo = p) := ⟨_, hid rfl⟩
            have hd : wr.drew.cell? ⟨g, o + k * 33, none⟩ = some (.int .i64 p) := by rw [← HPP.out]; exact (sg_range (hcl k hk)).1
            rw [HPP.out] at HST hlast
            have hkL : (k : Int) < (L : Int) := by omega
            have hk1 : (0 : Int) < ((k + 1 : Nat) : Int) := by omega
            have hwk : IntKind.i64.wrap (((k + 1 : Nat) : Int) - 1) = (k : Int) := by rw [IntKind.wrap_i64]; omega
            have hk2 : (0 : Int) < (k : Int) + 1 := by omega
            have hk0 : (0 : Int) ≤ (k : Int) + 1 := by omega
            have hI2 : (k : Int) + 1 < (L : Int) := by omega
            have hwk2 : IntKind.i64.wrap ((k : Int) + 1 - 1) = (k : Int) := by rw [IntKind.wrap_i64]; omega
            have hwk3 : IntKind.i64.wrap (k : Int) = (k : Int) := by rw [IntKind.wrap_i64]; omega
            by_cases h3 : p < b
            · have h3' : ¬ b ≤ p := by omega
              clear hcl
              go_upto_region 4 with (fail)
              refine wp_region_held_drew (S := fun W => W.cell? ⟨g, o + (k + 1) * 33, none⟩ = some (.int .i64 b) ∧ W.cell? ⟨g, o + k * 33, none⟩ = some (.int .i64 p)) (by kernel_rfl) ⟨hc, hd⟩ (fun hHeld => ?_)
              refine' tk (i := 0) (v := _) rfl ?_ ?_
              rotate_left
              · (intro W hW; (try dsimp only at hW); go_simp; first | done | with_reducible rfl)
              try simp only [lay]
              refine' tk (i := 1) (v := _) rfl ?_ ?_
              rotate_left
              · (intro W hW; (try dsimp only at hW); go_simp; first | done | with_reducible rfl)
              try simp only [lay]
              refine' tk (i := 2) (v := _) rfl ?_ ?_
              rotate_left
              · (intro W hW; (try dsimp only at hW); go_simp; first | done | with_reducible rfl)
              try simp only [lay]
              refine' tk (i := 3) (v := _) rfl ?_ ?_
              rotate_left
              · (intro W hW; (try dsimp only at hW); go_simp; first | done | with_reducible rfl)
              try simp only [lay]
              refine' tk (i := 4) (v := _) rfl ?_ ?_
              rotate_left
              · (intro W hW; (try dsimp only at hW); go_simp; first | done | with_reducible rfl)
              try simp only [lay]
              refine' tk (i := 5) (v := _) rfl ?_ ?_
              rotate_left
              · (intro W hW; (try dsimp only at hW); go_simp; first | done | with_reducible rfl)
              try simp only [lay]
              refine' tk (i := 6) (v := _) rfl ?_ ?_
              rotate_left
              · (intro W hW; (try dsimp only at hW); go_simp; first | done | with_reducible rfl)
              try simp only [lay]
              refine' tk (i := 7) (v := _) rfl ?_ ?_
              rotate_left
              · (intro W hW; (try dsimp only at hW); go_simp; first | done | with_reducible rfl)
              try simp only [lay]
              refine' tk (i := 8) (v := _) rfl ?_ ?_
              rotate_left
              · (intro W hW; (try dsimp only at hW); go_simp; first | done | with_reducible rfl)
              try simp only [lay]
              refine' tk (i := 9) (v := _) rfl ?_ ?_
              rotate_left
              · (intro W hW; (try dsimp only at hW); go_simp; first | done | with_reducible rfl)
              try simp only [lay]
              refine' tk (i := 10) (v := _) rfl ?_ ?_
              rotate_left
              · (intro W hW; (try dsimp only at hW); go_simp; first | done | with_reducible rfl)
              try simp only [lay]
              refine' tk (i := 11) (v := _) rfl ?_ ?_
              rotate_left
              · (intro W hW; (try dsimp only at hW); go_simp; first | done | with_reducible rfl)
              try simp only [lay]
              refine' tk (i := 12) (v := _) rfl ?_ ?_
              rotate_left
              · (intro W hW; (try dsimp only at hW); go_simp; first | done | with_reducible rfl)
              try simp only [lay]
              refine' tk (i := 13) (v := _) rfl ?_ ?_
              rotate_left
              · (intro W hW; (try dsimp only at hW); go_simp; first | done | with_reducible rfl)
              try simp only [lay]
              refine' tk (i := 14) (v := _) rfl ?_ ?_
              rotate_left
              · (intro W hW; (try dsimp only at hW); go_simp; first | done | with_reducible rfl)
              try simp only [lay]
              refine' tk (i := 15) (v := _) rfl ?_ ?_
              rotate_left
              · (intro W hW; (try dsimp only at hW); go_simp; first | done | with_reducible rfl)
              try simp only [lay]
              refine' tk (i := 16) (v := _) rfl ?_ ?_
              rotate_left
              · (intro W hW; (try dsimp only at hW); go_simp; first | done | with_reducible rfl)
              try simp only [lay]
              refine' tk (i := 17) (v := _) rfl ?_ ?_
              rotate_left
              · (intro W hW; (try dsimp only at hW); go_simp; first | done | with_reducible rfl)
              try simp only [lay]
              refine' tk (i := 18) (v := _) rfl ?_ ?_
              rotate_left
              · (intro W hW; (try dsimp only at hW); go_simp; first | done | with_reducible rfl)
              try simp only [lay]
              refine' tk (i := 19) (v := _) rfl ?_ ?_
              rotate_left
              · (intro W hW; (try dsimp only at hW); go_simp; first | done | with_reducible rfl)
              try simp only [lay]
              refine' tk (i := 20) (v := _) rfl ?_ ?_
              rotate_left
              · (intro W hW; (try dsimp only at hW); go_simp; first | done | with_reducible rfl)
              try simp only [lay]
              refine' tk (i := 21) (v := _) rfl ?_ ?_
              rotate_left
              · (intro W hW; (try dsimp only at hW); go_simp; first | done | with_reducible rfl)
              try simp only [lay]
              refine' tk (i := 22) (v := _) rfl ?_ ?_
              rotate_left
              · (intro W hW; (try dsimp only at hW); go_simp; first | done | with_reducible rfl)
              try simp only [lay]
              refine' tk (i := 23) (v := _) rfl ?_ ?_
              rotate_left
              · (intro W hW; (try dsimp only at hW); go_simp; first | done | with_reducible rfl)
              try simp only [lay]
              refine' tk (i := 24) (v := _) rfl ?_ ?_
              rotate_left
              · (intro W hW; (try dsimp only at hW); go_simp; first | done | with_reducible rfl)
              try simp only [lay]
              refine' tk (i := 25) (v := _) rfl ?_ ?_
              rotate_left
              · (intro W hW; (try dsimp only at hW); go_simp; first | done | with_reducible rfl)
              try simp only [lay]
              refine' tk (i := 26) (v := _) rfl ?_ ?_
              rotate_left
              · (intro W hW; (try dsimp only at hW); go_simp; first | done | with_reducible rfl)
              try simp only [lay]
              refine' tk (i := 27) (v := _) rfl ?_ ?_
              rotate_left
              · (intro W hW; (try dsimp only at hW); go_simp; first | done | with_reducible rfl)
              try simp only [lay]
              refine' tk (i := 28) (v := _) rfl ?_ ?_
              rotate_left
              · (intro W hW; (try dsimp only at hW); go_simp; first | done | with_reducible rfl)
              try simp only [lay]
              refine' tk (i := 29) (v := _) rfl ?_ ?_
              rotate_left
              · (intro W hW; (try dsimp only at hW); go_simp; first | done | with_reducible rfl)
              try simp only [lay]
              refine' tk (i := 30) (v := _) rfl ?_ ?_
              rotate_left
              · (intro W hW; (try dsimp only at hW); go_simp; first | done | with_reducible rfl)
              try simp only [lay]
              refine' tk (i := 31) (v := _) rfl ?_ ?_
              rotate_left
              · (intro W hW; (try dsimp only at hW); go_simp; first | done | with_reducible rfl)
              try simp only [lay]
              refine' tk (i := 32) (v := _) rfl ?_ ?_
              rotate_left
              · (intro W hW; (try dsimp only at hW); go_simp; first | done | with_reducible rfl)
              try simp only [lay]
              refine wpAnyH_done (by kernel_rfl) ?_ _
              go_wp2_with fail
              go_roundw
              case rel => exact ⟨k + 1 + 1, b, by omega, by go_num, by omega, hid (by rw [HST.out, decide_eq_true h3, decide_eq_true (by omega)]; simp), .inr ⟨k + 1, rfl, hil, HBB.out⟩, hbd⟩
              case measure => simp [intOf]; omega
            · have h3' : b ≤ p := by omega
              obtain rfl : ans = false := by rw [HST.out, decide_eq_false h3]; rfl
              clear hcl
              go_upto_region 4 with (fail)
              refine wp_region_held_drew (S := fun W => W.cell? ⟨g, o + (k + 1) * 33, none⟩ = some (.int .i64 b) ∧ W.cell? ⟨g, o + k * 33, none⟩ = some (.int .i64 p)) (by kernel_rfl) ⟨hc, hd⟩ (fun hHeld => ?_)
              refine' tk (i := 0) (v := _) rfl ?_ ?_
              rotate_left
              · (intro W hW; (try dsimp only at hW); go_simp; first | done | with_reducible rfl)
              try simp only [lay]
              refine' tk (i := 1) (v := _) rfl ?_ ?_
              rotate_left
              · (intro W hW; (try dsimp only at hW); go_simp; first | done | with_reducible rfl)
              try simp only [lay]
              refine' tk (i := 2) (v := _) rfl ?_ ?_
              rotate_left
              · (intro W hW; (try dsimp only at hW); go_simp; first | done | with_reducible rfl)
              try simp only [lay]
              refine' tk (i := 3) (v := _) rfl ?_ ?_
              rotate_left
              · (intro W hW; (try dsimp only at hW); go_simp; first | done | with_reducible rfl)
              try simp only [lay]
              refine' tk (i := 4) (v := _) rfl ?_ ?_
              rotate_left
              · (intro W hW; (try dsimp only at hW); go_simp; first | done | with_reducible rfl)
              try simp only [lay]
              refine' tk (i := 5) (v := _) rfl ?_ ?_
              rotate_left
              · (intro W hW; (try dsimp only at hW); go_simp; first | done | with_reducible rfl)
              try simp only [lay]
              refine' tk (i := 6) (v := _) rfl ?_ ?_
              rotate_left
              · (intro W hW; (try dsimp only at hW); go_simp; first | done | with_reducible rfl)
              try simp only [lay]
              refine' tk (i := 7) (v := _) rfl ?_ ?_
              rotate_left
              · (intro W hW; (try dsimp only at hW); go_simp; first | done | with_reducible rfl)
              try simp only [lay]
              refine' tk (i := 8) (v := _) rfl ?_ ?_
              rotate_left
              · (intro W hW; (try dsimp only at hW); go_simp; first | done | with_reducible rfl)
              try simp only [lay]
              refine' tk (i := 9) (v := _) rfl ?_ ?_
              rotate_left
              · (intro W hW; (try dsimp only at hW); go_simp; first | done | with_reducible rfl)
              try simp only [lay]
              refine' tk (i := 10) (v := _) rfl ?_ ?_
              rotate_left
              · (intro W hW; (try dsimp only at hW); go_simp; first | done | with_reducible rfl)
              try simp only [lay]
              refine' tk (i := 11) (v := _) rfl ?_ ?_
              rotate_left
              · (intro W hW; (try dsimp only at hW); go_simp; first | done | with_reducible rfl)
              try simp only [lay]
              refine' tk (i := 12) (v := _) rfl ?_ ?_
              rotate_left
              · (intro W hW; (try dsimp only at hW); go_simp; first | done | with_reducible rfl)
              try simp only [lay]
              refine' tk (i := 13) (v := _) rfl ?_ ?_
              rotate_left
              · (intro W hW; (try dsimp only at hW); go_simp; first | done | with_reducible rfl)
              try simp only [lay]
              refine' tk (i := 14) (v := _) rfl ?_ ?_
              rotate_left
              · (intro W hW; (try dsimp only at hW); go_simp; first | done | with_reducible rfl)
              try simp only [lay]
              refine' tk (i := 15) (v := _) rfl ?_ ?_
              rotate_left
              · (intro W hW; (try dsimp only at hW); go_simp; first | done | with_reducible rfl)
              try simp only [lay]
              refine' tk (i := 16) (v := _) rfl ?_ ?_
              rotate_left
              · (intro W hW; (try dsimp only at hW); go_simp; first | done | with_reducible rfl)
              try simp only [lay]
              refine' tk (i := 17) (v := _) rfl ?_ ?_
              rotate_left
              · (intro W hW; (try dsimp only at hW); go_simp; first | done | with_reducible rfl)
              try simp only [lay]
              refine' tk (i := 18) (v := _) rfl ?_ ?_
              rotate_left
              · (intro W hW; (try dsimp only at hW); go_simp; first | done | with_reducible rfl)
              try simp only [lay]
              refine' tk (i := 19) (v := _) rfl ?_ ?_
              rotate_left
              · (intro W hW; (try dsimp only at hW); go_simp; first | done | with_reducible rfl)
              try simp only [lay]
              refine' tk (i := 20) (v := _) rfl ?_ ?_
              rotate_left
              · (intro W hW; (try dsimp only at hW); go_simp; first | done | with_reducible rfl)
              try simp only [lay]
              refine' tk (i := 21) (v := _) rfl ?_ ?_
              rotate_left
              · (intro W hW; (try dsimp only at hW); go_simp; first | done | with_reducible rfl)
              try simp only [lay]
              refine' tk (i := 22) (v := _) rfl ?_ ?_
              rotate_left
              · (intro W hW; (try dsimp only at hW); go_simp; first | done | with_reducible rfl)
              try simp only [lay]
              refine' tk (i := 23) (v := _) rfl ?_ ?_
              rotate_left
              · (intro W hW; (try dsimp only at hW); go_simp; first | done | with_reducible rfl)
              try simp only [lay]
              refine' tk (i := 24) (v := _) rfl ?_ ?_
              rotate_left
              · (intro W hW; (try dsimp only at hW); go_simp; first | done | with_reducible rfl)
              try simp only [lay]
              refine' tk (i := 25) (v := _) rfl ?_ ?_
              rotate_left
              · (intro W hW; (try dsimp only at hW); go_simp; first | done | with_reducible rfl)
              try simp only [lay]
              refine' tk (i := 26) (v := _) rfl ?_ ?_
              rotate_left
              · (intro W hW; (try dsimp only at hW); go_simp; first | done | with_reducible rfl)
              try simp only [lay]
              refine' tk (i := 27) (v := _) rfl ?_ ?_
              rotate_left
              · (intro W hW; (try dsimp only at hW); go_simp; first | done | with_reducible rfl)
              try simp only [lay]
              refine' tk (i := 28) (v := _) rfl ?_ ?_
              rotate_left
              · (intro W hW; (try dsimp only at hW); go_simp; first | done | with_reducible rfl)
              try simp only [lay]
              refine' tk (i := 29) (v := _) rfl ?_ ?_
              rotate_left
              · (intro W hW; (try dsimp only at hW); go_simp; first | done | with_reducible rfl)
              try simp only [lay]
              refine' tk (i := 30) (v := _) rfl ?_ ?_
              rotate_left
              · (intro W hW; (try dsimp only at hW); go_simp; first | done | with_reducible rfl)
              try simp only [lay]
              refine' tk (i := 31) (v := _) rfl ?_ ?_
              rotate_left
              · (intro W hW; (try dsimp only at hW); go_simp; first | done | with_reducible rfl)
              try simp only [lay]
              refine' tk (i := 32) (v := _) rfl ?_ ?_
              rotate_left
              · (intro W hW; (try dsimp only at hW); go_simp; first | done | with_reducible rfl)
              try simp only [lay]
              refine wpAnyH_done (by kernel_rfl) ?_ _
              go_wp2_with fail
              go_ret
              exact ⟨rfl, hbd⟩
    · obtain rfl : i = L := by omega
      obtain rfl : ans = true := by rw [HR.out, List.drop_eq_nil_of_le (by rw [HL.out]; exact Nat.le_refl _)]; rfl
      go_wp2
      go_ret
      exact ⟨rfl, hbr⟩
end Go.Proofs.YtghophbabbaleaaGreatDoor
namespace Go.Proofs.YtghophbabbaleaaGreatDoor
set_option maxRecDepth 20000
open Go.RowKit
theorem buildSg1_run (w : World) : (Instr.build 151 #[(0, .int .i64 1)]).run Tryz.prog w = .ok (.agg (sgc ⟨1, z32⟩)) w := by
  go_simp
  rfl
theorem exec_build_sg1 (a : Act) (dst : Option Tmp) (ty : TypeId) (pos : String) (after : Array Edge) (guard : Option (Nat × Bool)) (w : World) :
    Sem.run Tryz.prog (execOp a.eval { dst := dst, op := .build 151 #[(0, .const (.int .i64 1))], type := ty, pos := pos, after := after, guard := guard }) w = .ok (.value (.agg (sgc ⟨1, z32⟩))) w := by
  unfold execOp
  simp [Act.eval, buildSg1_run]
attribute [local go_sem ↓] exec_load_att exec_load_ct exec_build_sg1 exec_load_sg
end Go.Proofs.YtghophbabbaleaaGreatDoor
namespace Go.Proofs.YtghophbabbaleaaGreatDoor
set_option maxRecDepth 20000
open Go.RowKit
noncomputable def allocSg (w : World) : Result Next := Sem.run Tryz.prog (execOp (fun _ => undef) { dst := none, op := .alloc 151, type := 0, pos := "", after := #[], guard := none }) w
theorem exec_alloc_sg (r : Operand → Value) (dst : Option Tmp) (ty : TypeId) (pos : String) (after : Array Edge) (guard : Option (Nat × Bool)) (w : World) :
    Sem.run Tryz.prog (execOp r { dst := dst, op := .alloc 151, type := ty, pos := pos, after := after, guard := guard }) w = allocSg w := rfl
theorem zero_sg : (Tryz.prog.info? 151).bind (·.zero) = some (.agg (sgc sgZ)) := by kernel_rfl
theorem run_zero_sg (w : World) : (zeroValue 151).run Tryz.prog w = .ok (.agg (sgc sgZ)) w := by
  have h := zero_sg
  cases hq : Tryz.prog.info? 151 with
  | none => rw [hq] at h; cases h
  | some i =>
    rw [hq] at h
    have hz : i.zero = some (.agg (sgc sgZ)) := h
    simp [zeroValue, typeInfo, hq, hz]
theorem allocSg_eq (w : World) : allocSg w = .ok (.value (.pointer (some ⟨w.heap.size, 0, none⟩))) (w.alloc (.cells (sgc sgZ) 151)) := by
  unfold allocSg execOp
  simp only [Sem.run_bind, Instr.alloc, run_zero_sg, newVar, newRow, run_newObj_alloc, Sem.run_pure, Result.andThen_ok, Value.cells]
noncomputable def storeSg (p v : Value) (w : World) : Result Next := Sem.run Tryz.prog (execOp (fun x => match x with
  | .tmp 0 => p
  | _ => v) { dst := none, op := .store 151 (.tmp 0) (.tmp 1), type := 0, pos := "", after := #[], guard := none }) w
theorem exec_store_sg (r : Operand → Value) (x y : Operand) (dst : Option Tmp) (ty : TypeId) (pos : String) (after : Array Edge) (guard : Option (Nat × Bool)) (w : World) :
    Sem.run Tryz.prog (execOp r { dst := dst, op := .store 151 x y, type := ty, pos := pos, after := after, guard := guard }) w = storeSg (r x) (r y) w := rfl
theorem sg_var (w : World) {Z S : Array Value} (hZ : Z.size = 33) (hS : S.size = 33) (h1 : S.all (·.oneCell') = true) :
    storeSg (.pointer (some ⟨w.heap.size, 0, none⟩)) (.agg S) (w.alloc (.cells Z 151)) = .ok .skip (w.alloc (.cells S 151)) := by
  have := run_storeVar_row (P := Tryz.prog) (w.alloc (.cells Z 151)) w.heap.size 151 151 Z S (heap_alloc_new w _) (by rw [size_sg, hS]) (by rw [hZ, hS]) h1
  unfold storeSg execOp
  simp only [Instr.storeAt, Instr.sureAddr, Sem.run_bind, Sem.run_pure, Result.andThen_ok, this]
  rw [show (w.alloc (.cells Z 151)).setRow w.heap.size S = w.alloc (.cells S 151) from setCt_alloc w _ Z S]
end Go.Proofs.YtghophbabbaleaaGreatDoor
namespace Go.Proofs.YtghophbabbaleaaGreatDoor
set_option maxRecDepth 20000
open Go.RowKit
def CtRightOk : Prop := ∀ (n : Int) (v : Value) (c : CtM) (w : World), (Lit.int .i64 n).wf = true → CtV w v c → c.sg.length ≤ 1000 → Kst 1 w →
  Calls Tryz.prog 67 #[.int .i64 n, v] w fun e w' => e = .returned (.bool (rightC n c)) ∧ Below w.heap.size w w'
end Go.Proofs.YtghophbabbaleaaGreatDoor
namespace Go.Proofs.YtghophbabbaleaaGreatDoor
set_option maxRecDepth 20000
open Go.RowKit
attribute [local go_sem ↓] exec_load_att exec_alloc_att exec_store_att exec_load_hash
set_option maxHeartbeats 1600000 in
theorem ctWith_any (a : AtM) (s : SgM) (w : World) (ha : a.Ok) (hs : s.Ok) :
    Calls Tryz.prog 109 #[.agg (atc a), .agg (sgc s)] w fun e w' => e = .returned (.agg (atc (withC a s))) ∧ Below w.heap.size w w' := by
  obtain ⟨C, HC⟩ : ∃ C : Array Value, Hid (atc a = C) := ⟨_, hid rfl⟩
  obtain ⟨G, HG⟩ : ∃ C : Array Value, Hid (sgc s = C) := ⟨_, hid rfl⟩
  obtain ⟨D, HD⟩ : ∃ C : Array Value, Hid (atc (withC a s) = C) := ⟨_, hid rfl⟩
  obtain ⟨Z, HZ⟩ : ∃ C : Array Value, Hid (atc atZ = C) := ⟨_, hid rfl⟩
  have hal : ∀ W, allocAtt W = .ok (.value (.pointer (some ⟨W.heap.size, 0, none⟩))) (W.alloc (.cells Z 52)) := fun W => by rw [← HZ.out]; exact allocAtt_eq W
  have HZS : Hid (Z.size = 101) := hid (by rw [← HZ.out]; exact atc_size atZ_ok)
  have HDS : Hid (D.size = 101 ∧ D.all (·.oneCell') = true) := hid (by rw [← HD.out]; exact ⟨atc_size (withC_ok ha hs), atc_one _⟩)
  have hb0 : Below w.heap.size w (((w.alloc (.cells C 52)).alloc (.cells G 151)).alloc (.cells Z 52)) := (((Below.refl _ _).alloc (Nat.le_refl _) _).alloc (by simp) _).alloc (by simp; omega) _
  have hr0 : (((w.alloc (.cells C 52)).alloc (.cells G 151)).alloc (.cells Z 52)).heap[w.heap.size]? = some (.cells C 52 (0, 0)) := (Below.heap_alloc _ _ _ (by simp; omega)).trans (heap1 w _ _)
  have hr1 : (((w.alloc (.cells C 52)).alloc (.cells G 151)).alloc (.cells Z 52)).heap[w.heap.size + 1]? = some (.cells G 151 (0, 0)) := (Below.heap_alloc _ _ _ (by simp)).trans (heap2 w _ _)
  have hr2 : (((w.alloc (.cells C 52)).alloc (.cells G 151)).alloc (.cells Z 52)).heap[w.heap.size + 1 + 1]? = some (.cells Z 52 (0, 0)) := by
    have := heap2 (w.alloc (.cells C 52)) (.cells G 151) (.cells Z 52)
    rwa [show (w.alloc (.cells C 52)).heap.size = w.heap.size + 1 from by simp] at this
  obtain ⟨T, HT⟩ : ∃ C : Array Value, Hid (hcells s.tg = C) := ⟨_, hid rfl⟩
  have HSG : Hid (∀ W : World, W.heap[w.heap.size + 1]? = some (.cells G 151 (0, 0)) → W.cell? ⟨w.heap.size + 1, 0, none⟩ = some (.int .i64 s.bo) ∧ loadH (.pointer (some ⟨w.heap.size + 1, 1, none⟩)) W = .ok (.value (.agg T)) W) := hid (fun W h => by
    rw [← HG.out] at h
    have hr : W.rangeAt (w.heap.size + 1) 0 (scl s) := fun j u hu => by
      rw [Nat.zero_add, cell_blk h j]
      unfold sgc
      rw [List.getElem?_toArray]
      exact hu
    obtain ⟨h1, h2⟩ := sg_range hr
    rw [← HT.out]
    exact ⟨h1, loadH_mid h2 hs⟩)
  have HLD : Hid (∀ W : World, BoxA W w.heap.size { { a with bo := s.bo } with tg := s.tg } → loadAtt (.pointer (some ⟨w.heap.size, 0, none⟩)) W = .ok (.value (.agg D)) W) := hid (fun W h => by
    rw [← HD.out]
    exact loadAtt_eq h (withC_ok ha hs))
  have HOA : Hid ({ a with bo := s.bo } : AtM).Ok := hid ⟨ha.ha, ha.pa, ha.tg⟩
  have HS := hid hs
  rw [HD.out, HC.out, HG.out]
  go_enter Tryz.func109, Tryz.ntmps109
  go_upto_region 1 with (fail)
  generalize (((w.alloc (.cells C 52)).alloc (.cells G 151)).alloc (.cells Z 52)) = w0 at *
  have HA : Hid (BoxA w0 w.heap.size a) := hid (by unfold BoxA; rw [HC.out]; exact hr0)
  have hbd : Below w0.heap.size w0 w0.drew := (Below.refl _ _).drew
  have HB0 := hid hb0
  have HR1 := hid hr1
  have HR2 := hid hr2
  clear hr0 hr1 hr2 hb0 hal ha hs
  refine wp_region_held_drew (S := fun W => W.cell? ⟨w.heap.size + 1, 0, none⟩ = some (.int .i64 s.bo) ∧ loadH (.pointer (some ⟨w.heap.size + 1, 1, none⟩)) W = .ok (.value (.agg T)) W) (by kernel_rfl) (HSG.out _ ((hbd.block _ (lt_of_block HR1.out)).trans HR1.out)) (fun hHeld => ?_)
  refine' tk (i := 0) (v := _) rfl ?_ ?_
  rotate_left
  · (intro W hW; (try dsimp only at hW); go_simp; first | done | with_reducible rfl)
  try simp only [lay]
  refine' tk (i := 1) (v := _) rfl ?_ ?_
  rotate_left
  · (intro W hW; (try dsimp only at hW); obtain ⟨hW1, hW2⟩ := hW; go_simp; first | done | with_reducible rfl)
  try simp only [lay]
  refine' tk (i := 2) (v := _) rfl ?_ ?_
  rotate_left
  · (intro W hW; (try dsimp only at hW); go_simp; first | done | with_reducible rfl)
  try simp only [lay]
  refine' tk (i := 3) (v := _) rfl (fun W hW => hW.2) ?_
  try simp only [lay]
  refine' tk (i := 4) (v := _) rfl ?_ ?_
  rotate_left
  · (intro W hW; (try dsimp only at hW); go_simp; first | done | with_reducible rfl)
  try simp only [lay]
  have k1 := HA.out.free 0
  have k2 := HA.out.cells.1
  have hA2 : BoxA ((w0.setCell ⟨w.heap.size, 0, none⟩ (.int .i64 s.bo)).drew) w.heap.size { a with bo := s.bo } := by
    have := set_blk HA.out 0 (.int .i64 s.bo)
    rw [atc_by] at this
    exact this
  have hR12 : ((w0.setCell ⟨w.heap.size, 0, none⟩ (.int .i64 s.bo)).drew).heap[w.heap.size + 1]? = some (.cells G 151 (0, 0)) := blk_other HR1.out _ (by omega)
  have hR22 : ((w0.setCell ⟨w.heap.size, 0, none⟩ (.int .i64 s.bo)).drew).heap[w.heap.size + 1 + 1]? = some (.cells Z 52 (0, 0)) := blk_other HR2.out _ (by omega)
  have hb2 : Below w.heap.size w ((w0.setCell ⟨w.heap.size, 0, none⟩ (.int .i64 s.bo)).drew) := (HB0.out.setCell (Nat.le_refl _) _).drew
  refine call_on (i := 5) rfl (by kernel_rfl) (by rfl) (fun K hK => ?_)
  go_simp
  refine hK.out _ _ (HSG.out _ hR12) (fun hHeld => ?_)
  clear hK K
  try simp only [lay]
  clear k1 k2
  generalize ((w0.setCell ⟨w.heap.size, 0, none⟩ (.int .i64 s.bo)).drew) = w2 at *
  refine' tk (i := 6) (v := _) rfl ?_ ?_
  rotate_left
  · (intro W hW; (try dsimp only at hW); go_simp; first | done | with_reducible rfl)
  try simp only [lay]
  refine call_on (i := 7) rfl (by kernel_rfl) (by rfl) (fun K hK => ?_)
  refine wp_store_tag (h := s.tg) (a := { a with bo := s.bo }) _ _ rfl rfl (by rw [HT.out]; rfl) hA2 HOA.out HS.out ?_
  intro w3 hg3 hA3 hs3
  have hR13 := (hg3.block _ (lt_of_block hR12) (fun e => by injection e with e; omega)).trans hR12
  have hR23 := (hg3.block _ (lt_of_block hR22) (fun e => by injection e with e; omega)).trans hR22
  have hb3 : Below w.heap.size w w3 := below_into hb2 (Nat.le_refl _) hg3 hb2.size
  refine hK.out _ _ (HSG.out _ hR13) (fun hHeld => ?_)
  clear hK K
  try simp only [Act.put]
  refine wpAnyH_done (by kernel_rfl) ?_ _
  have l3 := HLD.out w3 hA3
  have hst := storeAtt_eq hR23 HZS.out HDS.out.1 HDS.out.2
  have HR23 := hid hR23
  have HB3 := hid hb3
  clear hHeld hR23 hR22 hR13 hR12 hb3 hb2
  go_wp2_with fail
  refine bodyPost_ret (results_cell_row rfl _ _ _ _ _ (0, 0) _ rfl (setAtt_same HR23.out) under_att rfl (by rw [size_att, HDS.out.1])) rfl ⟨rfl, ?_⟩
  exact setAtt_below HB3.out (by omega)
end Go.Proofs.YtghophbabbaleaaGreatDoor
