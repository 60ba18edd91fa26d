/-
  A gatherer in memory, as the code has it: two cells and a map by places; what is looked up, laid and dropped.
-/
import Derived.Maps.RangeRun
import Derived.Test.YtpnejoglkmfleaaGreatDoorGaNeed
import Derived.Test.YtpnejoglkmfleaaGreatDoorGaPure
import Derived.Test.YtpnejoglkmfleaaGreatDoorMapGen
namespace Go.Proofs.YtpnejoglkmfleaaGreatDoor
set_option maxRecDepth 20000
open Go.RowKit
def kv (v k b : Int) : Value := .agg #[.int .i64 v, .int .i64 k, .int .i64 b]
theorem kv_inj {v k b v' k' b' : Int} : kv v k b = kv v' k' b' ↔ v = v' ∧ k = k' ∧ b = b' := by
  unfold kv
  constructor
  · intro h
    simpa using h
  · rintro ⟨rfl, rfl, rfl⟩
    rfl
noncomputable def eqQ (k u : Value) : Bool := @decide (k = u) (Classical.propDecidable _)
theorem eqQ_iff {k u : Value} : eqQ k u = true ↔ k = u := by
  unfold eqQ
  exact @decide_eq_true_iff _ (Classical.propDecidable _)
theorem under_pl : Tryz.prog.underlying 59 = some (.struct (Tryz.prog.fieldsOf 59)) := by kernel_rfl
theorem under_gm : Tryz.prog.underlying 53 = some (.map 59 36) := by kernel_rfl
theorem fields_pl : (Tryz.prog.fieldsOf 59).toList.map (fun f => (f.type, f.offset, f.name == "_")) = [(3, 0, false), (3, 1, false), (3, 2, false)] := by kernel_rfl
theorem part_pl_int {w : World} {C : Array Value} {o : Nat} {v : Value} (h : C[o]? = some v) : (Go.part 3 C o).run Tryz.prog w = .ok v w := run_part_plain (P := Tryz.prog) w (by kernel_rfl) h
theorem under_pl_int : Tryz.prog.underlying 3 = some (.int .i64) := by kernel_rfl
set_option maxHeartbeats 800000 in
theorem equal_kv (v k b v' k' b' : Int) (w : World) : (Op.equal 59 (kv v k b) (kv v' k' b')).run Tryz.prog w = .ok (eqQ (kv v k b) (kv v' k' b')) w := by
  have e : eqQ (kv v k b) (kv v' k' b') = if v = v' then (if k = k' then decide (b = b') else false) else false := by
    rw [Bool.eq_iff_iff, eqQ_iff, kv_inj]
    by_cases h1 : v = v' <;> by_cases h2 : k = k' <;> simp [h1, h2]
  rw [e]
  unfold Op.equal kv
  have hst : Tryz.prog.stoodInHeld 59 = false := by kernel_rfl
  show (Op.equalIn (9999 + 1) _ _ _).run _ _ = _
  rw [run_equalIn_struct w 9999 _ _ _ under_pl hst, eqF_of, fields_pl]
  have hi : ∀ x y : Int, (Op.equalIn 9999 3 (.int .i64 x) (.int .i64 y)).run Tryz.prog w = .ok (x == y) w := fun x y => run_equalIn_int w 9998 _ _ _ _ _ under_pl_int
  rw [eqF_step (part_pl_int rfl) (part_pl_int rfl) (hi v v')]
  by_cases h1 : v = v'
  · rw [if_pos h1, if_pos (by simp [h1]), eqF_step (part_pl_int rfl) (part_pl_int rfl) (hi k k')]
    by_cases h2 : k = k'
    · rw [if_pos h2, if_pos (by simp [h2]), eqF_step (part_pl_int rfl) (part_pl_int rfl) (hi b b')]
      by_cases h3 : b = b'
      · rw [if_pos (by simp [h3])]
        simp [h3, eqF]
      · rw [if_neg (by simp [h3])]
        simp [h3]
    · rw [if_neg h2, if_neg (by simp [h2])]
  · rw [if_neg h1, if_neg (by simp [h1])]
theorem run_checkKey_ints {P : Program} {t : TypeId} {cs : Array Value} (b : Bool) (n : Nat) (w : World) (ht : P.underlying t = some (.struct (P.fieldsOf t))) (h : ∀ f ∈ (P.fieldsOf t).toList, ∃ v u, (Go.part f.type cs f.offset).run P w = .ok v w ∧ P.underlying f.type = some (.int u)) :
    (Instr.checkKey b (n + 2) t (.agg cs)).run P w = .ok () w := by
  unfold Instr.checkKey
  simp only [Sem.run_bind, run_underlying ht, Result.andThen_ok]
  rw [← Array.forIn_toList]
  generalize (P.fieldsOf t).toList = fs at h
  clear ht
  induction fs with
  | nil => simp
  | cons f fs ih =>
    obtain ⟨v, u, h1, h2⟩ := h f (by simp)
    have ih' := ih (fun g hg => h g (List.mem_cons_of_mem _ hg))
    have hk : (Instr.checkKey b (n + 1) f.type v).run P w = .ok () w := by
      unfold Instr.checkKey
      simp [run_underlying h2]
    simp only [List.forIn_cons, Sem.run_bind, Sem.run_ite]
    split
    · simp only [h1, hk, Result.andThen_ok, Sem.run_pure]
      exact ih'
    · simp only [Sem.run_pure, Result.andThen_ok]
      exact ih'
theorem check_kv (v k y : Int) (b : Bool) (w : World) : (Instr.checkKey b 10000 59 (kv v k y)).run Tryz.prog w = .ok () w := by
  refine run_checkKey_ints b 9998 w under_pl (fun f hf => ?_)
  have hm : (f.type, f.offset, f.name == "_") ∈ (Tryz.prog.fieldsOf 59).toList.map (fun f => (f.type, f.offset, f.name == "_")) := List.mem_map_of_mem hf
  rw [fields_pl] at hm
  simp only [List.mem_cons, Prod.mk.injEq, List.not_mem_nil, or_false] at hm
  rcases hm with ⟨e1, e2, _⟩ | ⟨e1, e2, _⟩ | ⟨e1, e2, _⟩
  · rw [e1, e2]
    exact ⟨_, _, part_pl_int rfl, under_pl_int⟩
  · rw [e1, e2]
    exact ⟨_, _, part_pl_int rfl, under_pl_int⟩
  · rw [e1, e2]
    exact ⟨_, _, part_pl_int rfl, under_pl_int⟩
theorem same_kv (v k y : Int) (fs : Array Field) (u : Value) : Instr.sameNow (.struct fs) (kv v k y) u = none := rfl
def entG (p : AtM × Nat) : MapEntry := { key := kv p.1.vi p.1.ki p.1.bo, val := .agg (atc p.1), born := p.2 }
abbrev mapG (P : List (AtM × Nat)) (c : Nat) : Obj := .map (P.map entG).toArray c
theorem mapG_equal (v k y : Int) (P : List (AtM × Nat)) : ∀ e ∈ (P.map entG).toArray.toList, ∀ W, (Op.equal 59 (kv v k y) e.key).run Tryz.prog W = .ok (eqQ (kv v k y) e.key) W := by
  intro e he W
  rw [List.toList_toArray] at he
  obtain ⟨p, _, rfl⟩ := List.mem_map.1 he
  exact equal_kv ..
def getG (L : List AtM) (v k y : Int) : Option AtM := L.find? (fun a => decide (a.vi = v) && (decide (a.ki = k) && decide (a.bo = y)))
theorem getG_some {L : List AtM} {v k y : Int} {a : AtM} (h : getG L v k y = some a) : a ∈ L ∧ a.vi = v ∧ a.ki = k ∧ a.bo = y := by
  unfold getG at h
  have h2 := List.find?_some h
  simp only [Bool.and_eq_true, decide_eq_true_eq] at h2
  exact ⟨List.mem_of_find?_eq_some h, h2⟩
theorem getG_none {L : List AtM} {v k y : Int} : getG L v k y = none ↔ ∀ a ∈ L, ¬ (a.vi = v ∧ a.ki = k ∧ a.bo = y) := by
  unfold getG
  rw [List.find?_eq_none]
  simp only [Bool.and_eq_true, decide_eq_true_eq]
theorem getG_mem {L : List AtM} {a : AtM} (hs : SortG L) (ha : a ∈ L) : getG L a.vi a.ki a.bo = some a := by
  cases hg : getG L a.vi a.ki a.bo with
  | none => exact absurd ⟨rfl, rfl, rfl⟩ (getG_none.1 hg a ha)
  | some b =>
    obtain ⟨h1, h2, h3, h4⟩ := getG_some hg
    rw [sortG_key hs h1 ha (keyA_iff.2 ⟨h4, h3, h2⟩)]
theorem snd_at {P : List (AtM × Nat)} (h : (P.map (·.2)).Nodup) {i j : Nat} (hi : i < P.length) (hj : j < P.length) (e : P[i].2 = P[j].2) : i = j := by
  have h2 := List.pairwise_iff_getElem.1 h
  rcases Nat.lt_trichotomy i j with c | c | c
  · exact absurd (by rw [List.getElem_map, List.getElem_map]; exact e) (h2 i j (by simpa using hi) (by simpa using hj) c)
  · exact c
  · exact absurd (by rw [List.getElem_map, List.getElem_map]; exact e.symm) (h2 j i (by simpa using hj) (by simpa using hi) c)
theorem snd_inj {P : List (AtM × Nat)} (h : (P.map (·.2)).Nodup) {p q : AtM × Nat} (hp : p ∈ P) (hq : q ∈ P) (e : p.2 = q.2) : p = q := by
  obtain ⟨i, hi, rfl⟩ := List.getElem_of_mem hp
  obtain ⟨j, hj, rfl⟩ := List.getElem_of_mem hq
  have := snd_at h hi hj e
  subst this
  rfl
structure GthE (w : World) (b m : Nat) (n : Int) (P : List (AtM × Nat)) (c : Nat) : Prop where
  p : w.heap[b]? = some (.cells #[.int .i64 n, .map (some m)] 55 (0, 0))
  q : w.heap[m]? = some (mapG P c)
  nd : (P.map (·.2)).Nodup
  lt : ∀ p ∈ P, p.2 < c
def Gth (w : World) (b m : Nat) (n : Int) (L : List AtM) : Prop := ∃ P c, GthE w b m n P c ∧ (P.map (·.1)).Perm L
structure OkG (n : Int) (L : List AtM) : Prop where
  quo : quoS n ≠ 0
  sort : SortG L
  len : L.length ≤ 200
  ok : ∀ a ∈ L, a.Ok
  good : ∀ a ∈ L, okG n a = true
theorem OkG.nil {n : Int} (h : quoS n ≠ 0) : OkG n [] := ⟨h, List.Pairwise.nil, Nat.zero_le _, fun a h => absurd h (by simp), fun a h => absurd h (by simp)⟩
theorem OkG.add {n : Int} {L : List AtM} {a : AtM} (h : OkG n L) (ha : a.Ok) : OkG n (addG n L a).1 :=
  ⟨h.quo, addG_sort h.sort, addG_len h.len, fun x hx => by
    rcases addG_mem hx with hx | ⟨rfl, _⟩
    · exact h.ok x hx
    · exact ha, fun x hx => by
    rcases addG_mem hx with hx | ⟨rfl, e⟩
    · exact h.good x hx
    · exact e⟩
theorem OkG.drop {n : Int} {L : List AtM} (h : OkG n L) (v : Int) : OkG n (dropG L v) :=
  ⟨h.quo, dropG_sort h.sort v, Nat.le_trans (List.length_filter_le _ _) h.len, fun x hx => h.ok x (List.mem_filter.1 hx).1, fun x hx => h.good x (List.mem_filter.1 hx).1⟩
theorem quoS_range {n : Int} (h : quoS n ≠ 0) : 1 ≤ n ∧ n ≤ 21 ∧ n % 2 = 1 := by
  unfold quoS at h
  by_cases hn : 1 ≤ n ∧ n ≤ 21 ∧ n % 2 = 1
  · exact hn
  · rw [if_neg hn] at h
    exact absurd rfl h
section
variable {w w' : World} {b m : Nat} {n : Int} {P : List (AtM × Nat)} {c : Nat} {L : List AtM}
theorem GthE.lb (h : GthE w b m n P c) : b < w.heap.size := (Array.getElem?_eq_some_iff.1 h.p).1
theorem GthE.lm (h : GthE w b m n P c) : m < w.heap.size := (Array.getElem?_eq_some_iff.1 h.q).1
theorem GthE.bm (h : GthE w b m n P c) : b ≠ m := by
  rintro rfl
  have := h.p.symm.trans h.q
  injection this with e
  cases e
theorem GthE.below (h : GthE w b m n P c) (hb : Below w.heap.size w w') : GthE w' b m n P c := ⟨(hb.block b h.lb).trans h.p, (hb.block m h.lm).trans h.q, h.nd, h.lt⟩
theorem Gth.below (h : Gth w b m n L) (hb : Below w.heap.size w w') : Gth w' b m n L := by
  obtain ⟨P, c, h, hp⟩ := h
  exact ⟨P, c, h.below hb, hp⟩
theorem GthE.far {m2 : Nat} (h : GthE w b m n P c) (hb : w.grownBy w' (some m2)) (h1 : b ≠ m2) (h2 : m ≠ m2) : GthE w' b m n P c :=
  ⟨(hb.block b h.lb (fun e => h1 (by injection e))).trans h.p, (hb.block m h.lm (fun e => h2 (by injection e))).trans h.q, h.nd, h.lt⟩
theorem GthE.cells (h : GthE w b m n P c) : w.cell? ⟨b, 0, none⟩ = some (.int .i64 n) ∧ w.cell? ⟨b, 1, none⟩ = some (.map (some m)) := by
  exact ⟨cell_blk h.p 0, cell_blk h.p 1⟩
theorem run_zero_att2 (w : World) : (zeroValue 36).run Tryz.prog w = .ok (.agg (atc atZ)) w := run_zero_att w
theorem mem_perm (hp : (P.map (·.1)).Perm L) {p : AtM × Nat} (h : p ∈ P) : p.1 ∈ L := hp.subset (List.mem_map_of_mem h)
def lookV (o : Option AtM) : Value := match o with
  | some a => .tuple #[.agg (atc a), .bool true]
  | none => .tuple #[.agg (atc atZ), .bool false]
theorem find_kv (hp : (P.map (·.1)).Perm L) (hs : SortG L) (v k y : Int) :
    (getG L v k y = none ∧ findQ (eqQ (kv v k y)) (P.map entG) 0 = none) ∨ ∃ a j u, getG L v k y = some a ∧ findQ (eqQ (kv v k y)) (P.map entG) 0 = some (j, .agg (atc a)) ∧ P[j]? = some (a, u) := by
  cases hf : findQ (eqQ (kv v k y)) (P.map entG) 0 with
  | none =>
    refine .inl ⟨getG_none.2 (fun a ha e => ?_), rfl⟩
    obtain ⟨p, hpm, rfl⟩ := List.mem_map.1 (hp.symm.subset ha)
    have := findQ_none.1 hf (entG p) (List.mem_map_of_mem hpm)
    rw [Bool.eq_false_iff] at this
    refine this (eqQ_iff.2 ?_)
    show _ = kv _ _ _
    rw [e.1, e.2.1, e.2.2]
  | some q =>
    obtain ⟨j, u⟩ := q
    obtain ⟨i, hj, hi, hq, hv⟩ := findQ_some hf
    have hi' : i < P.length := by simpa using hi
    obtain rfl : j = i := by omega
    rw [List.getElem_map] at hq hv
    have hk := eqQ_iff.1 hq
    obtain ⟨e1, e2, e3⟩ := kv_inj.1 hk
    refine .inr ⟨P[j].1, j, P[j].2, ?_, ?_, by rw [List.getElem?_eq_getElem hi']⟩
    · rw [e1, e2, e3]
      exact getG_mem hs (mem_perm hp (List.getElem_mem hi'))
    · rw [← hv]
      rfl
theorem gaLook_any (h : GthE w b m n P c) (hp : (P.map (·.1)).Perm L) (hs : SortG L) (v k y : Int) : (Instr.lookup 53 (.map (some m)) (kv v k y) true).run Tryz.prog w = .ok (lookV (getG L v k y)) w := by
  rw [run_lookup_q under_gm under_pl (same_kv v k y _) (fun b W => check_kv v k y b W) run_zero_att2 h.q (mapG_equal v k y P)]
  rw [List.toList_toArray]
  rcases find_kv hp hs v k y with ⟨e1, e2⟩ | ⟨a, j, u, e1, e2, _⟩
  · rw [e1, e2]
    rfl
  · rw [e1, e2]
    rfl
def setG (w : World) (m : Nat) (P : List (AtM × Nat)) (c : Nat) : World := { w with heap := w.heap.setIfInBounds m (mapG P c) }
theorem setG_grown (w : World) (m : Nat) (P : List (AtM × Nat)) (c : Nat) : w.grownBy (setG w m P c) (some m) :=
  ⟨rfl, rfl, rfl, by simp [setG], fun k _ hk => by
    show (w.heap.setIfInBounds m _)[k]? = _
    rw [Array.getElem?_setIfInBounds, if_neg (fun e => hk (by rw [e]))]⟩
theorem setG_at {P' : List (AtM × Nat)} {c' : Nat} (h : GthE w b m n P c) (hn : (P'.map (·.2)).Nodup) (hl : ∀ p ∈ P', p.2 < c') : GthE (setG w m P' c') b m n P' c' :=
  ⟨((setG_grown w m P' c').block b h.lb (fun e => h.bm (by injection e))).trans h.p, by
    show (w.heap.setIfInBounds m _)[m]? = _
    rw [Array.getElem?_setIfInBounds, if_pos rfl, if_pos h.lm], hn, hl⟩
theorem gaPut_any (h : GthE w b m n P c) (hp : (P.map (·.1)).Perm L) (hs : SortG L) (a : AtM) (h0 : getG L a.vi a.ki a.bo = none) :
    (Instr.mapUpdate 53 (.map (some m)) (kv a.vi a.ki a.bo) (.agg (atc a))).run Tryz.prog w = .ok () (setG w m (P ++ [(a, c)]) (c + 1)) := by
  have hf : findQ (eqQ (kv a.vi a.ki a.bo)) (P.map entG).toArray.toList 0 = none := by
    rw [List.toList_toArray]
    rcases find_kv hp hs a.vi a.ki a.bo with ⟨_, e⟩ | ⟨_, _, _, e, _⟩
    · exact e
    · rw [h0] at e
      cases e
  rw [run_mapUpdate_q under_gm under_pl (same_kv _ _ _ _) (fun b W => check_kv _ _ _ b W) h.q (mapG_equal _ _ _ P) hf]
  unfold setG mapG
  simp [entG]
theorem GthE.push (h : GthE w b m n P c) (a : AtM) : GthE (setG w m (P ++ [(a, c)]) (c + 1)) b m n (P ++ [(a, c)]) (c + 1) := by
  refine setG_at h ?_ (fun p hp => ?_)
  · rw [List.map_append, List.nodup_append]
    refine ⟨h.nd, by simp, fun x hx y hy => ?_⟩
    obtain ⟨p, hp, rfl⟩ := List.mem_map.1 hx
    obtain rfl : y = c := by simpa using hy
    have := h.lt p hp
    omega
  · rcases List.mem_append.1 hp with hp | hp
    · have := h.lt p hp
      omega
    · obtain rfl := List.mem_singleton.1 hp
      show c < c + 1
      omega
theorem gaLen_any (h : GthE w b m n P c) (ty : TypeId) : (Builtin.len_ #[53] ty #[.map (some m)]).run Tryz.prog w = .ok (.int .i64 P.length) w := by
  simp [Builtin.len_, run_underlying under_gm, MapKept.run_getObj_map h.q, goInt, Result.andThen]
theorem erase_entG (P : List (AtM × Nat)) (j : Nat) : (P.map entG).toArray.eraseIdxIfInBounds j = ((P.eraseIdx j).map entG).toArray := by
  unfold Array.eraseIdxIfInBounds
  by_cases hj : j < P.length
  · rw [dif_pos (by simpa using hj)]
    apply Array.ext'
    simp [ChangeMaps.map_eraseIdx]
  · rw [dif_neg (by simpa using hj), List.eraseIdx_of_length_le (by omega)]
theorem gaDel_any (h : GthE w b m n P c) (hu : ∀ p ∈ P, ∀ q ∈ P, keyA p.1 q.1 = true → p = q) {p : AtM × Nat} (hp : p ∈ P) (T : TypeId) :
    ∃ P', (Builtin.delete_ #[53, 59] T #[.map (some m), kv p.1.vi p.1.ki p.1.bo]).run Tryz.prog w = .ok (.tuple #[]) (setG w m P' c) ∧ P'.Sublist P ∧ p ∉ P' ∧ (∀ q ∈ P, q ≠ p → q ∈ P') := by
  obtain ⟨j, hj, hrun⟩ : ∃ j, P[j]? = some p ∧ ∃ u, findQ (eqQ (kv p.1.vi p.1.ki p.1.bo)) (P.map entG).toArray.toList 0 = some (j, u) := by
    rw [List.toList_toArray]
    cases hf : findQ (eqQ (kv p.1.vi p.1.ki p.1.bo)) (P.map entG) 0 with
    | none =>
      have := findQ_none.1 hf (entG p) (List.mem_map_of_mem hp)
      rw [Bool.eq_false_iff] at this
      exact absurd (eqQ_iff.2 rfl) this
    | some q =>
      obtain ⟨j, u⟩ := q
      obtain ⟨i, hj, hi, hq, hv⟩ := findQ_some hf
      have hi' : i < P.length := by simpa using hi
      obtain rfl : j = i := by omega
      rw [List.getElem_map] at hq
      obtain ⟨e1, e2, e3⟩ := kv_inj.1 (eqQ_iff.1 hq)
      refine ⟨j, ?_, u, rfl⟩
      rw [List.getElem?_eq_getElem hi', hu p hp P[j] (List.getElem_mem hi') (keyA_iff.2 ⟨e3, e2, e1⟩)]
  obtain ⟨u, hrun⟩ := hrun
  obtain ⟨hj', hje⟩ := List.getElem?_eq_some_iff.1 hj
  refine ⟨P.eraseIdx j, ?_, List.eraseIdx_sublist P j, fun hm => ?_, fun q hq hne => ?_⟩
  · rw [run_delete_q under_gm under_pl (same_kv _ _ _ _) (fun b W => check_kv _ _ _ b W) #[53, 59] rfl T h.q (mapG_equal _ _ _ P), hrun]
    unfold setG mapG
    simp only [erase_entG]
  · obtain ⟨i, hi, hne, he⟩ := List.mem_eraseIdx_iff_getElem.1 hm
    exact hne (snd_at h.nd hi hj' (by rw [he, hje]))
  · obtain ⟨i, hi, he⟩ := List.getElem_of_mem hq
    exact List.mem_eraseIdx_iff_getElem.2 ⟨i, hi, fun e => by subst e; exact hne (he.symm.trans hje), he⟩
end
def NoGth (w : World) (v : Value) : Prop := v = .pointer none ∨ ∃ b, v = .pointer (some ⟨b, 0, none⟩) ∧ w.heap[b]? = some (.cells #[.int .i64 0, .map none] 55 (0, 0))
theorem NoGth.below {w w' : World} {v : Value} (h : NoGth w v) (hb : Below w.heap.size w w') : NoGth w' v := by
  rcases h with h | ⟨b, h, hc⟩
  · exact .inl h
  · exact .inr ⟨b, h, (hb.block b (lt_of_block hc)).trans hc⟩
end Go.Proofs.YtpnejoglkmfleaaGreatDoor
