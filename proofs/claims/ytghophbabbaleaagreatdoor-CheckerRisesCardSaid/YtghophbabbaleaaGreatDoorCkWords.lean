/-
  Seals and attestations that are told together: builds, results, variables.
-/
import Derived.Test.YtghophbabbaleaaGreatDoorCkNeed
import Derived.Test.YtghophbabbaleaaGreatDoorCkPure
namespace Go.Proofs.YtghophbabbaleaaGreatDoor
set_option maxRecDepth 20000
open Go.RowKit
def tldV (t : TldM) : Value := .tuple #[.agg (sec t.s), .agg (atc t.a), .int .i64 t.e]
def TlPost (t : TldM) (w : World) (e : Ending) (w' : World) : Prop := e = .returned (tldV t) ∧ Below w.heap.size w w'
theorem results_ck {fn : Func} {p q s : Tmp} (h : fn.results = #[.cell p 40, .cell q 52, .tmp s]) (tmps : Array Value) (w : World) (g1 g2 : Nat) (t1 t2 : TypeId) (xs ys : Array Value) (v : Value)
    (hp : tmps.getD p undef = .pointer (some ⟨g1, 0, none⟩)) (hq : tmps.getD q undef = .pointer (some ⟨g2, 0, none⟩)) (hv : tmps.getD s undef = v) (h1 : w.heap[g1]? = some (.cells xs t1 (0, 0))) (h2 : w.heap[g2]? = some (.cells ys t2 (0, 0))) (hx : xs.size = 35) (hy : ys.size = 101) :
    (results fn tmps).run Tryz.prog w = .ok (.tuple #[.agg xs, .agg ys, v]) w := by
  have hp' : tmps[p]?.getD undef = .pointer (some ⟨g1, 0, none⟩) := by simpa using hp
  have hq' : tmps[q]?.getD undef = .pointer (some ⟨g2, 0, none⟩) := by simpa using hq
  have hv' : tmps[s]?.getD undef = v := by simpa using hv
  have r1 := run_loadVar_row (P := Tryz.prog) w g1 t1 40 xs (0, 0) _ h1 under_se rfl (by rw [size_se, hx])
  have r2 := run_loadVar_row (P := Tryz.prog) w g2 t2 52 ys (0, 0) _ h2 under_att rfl (by rw [size_att, hy])
  simp [results, h, hp', hq', hv', asAddr, r1, r2]
theorem results_ck4 {fn : Func} {p q s r : Tmp} (h : fn.results = #[.cell p 40, .cell q 52, .tmp s, .tmp r]) (tmps : Array Value) (w : World) (g1 g2 : Nat) (t1 t2 : TypeId) (xs ys : Array Value) (v u : Value)
    (hp : tmps.getD p undef = .pointer (some ⟨g1, 0, none⟩)) (hq : tmps.getD q undef = .pointer (some ⟨g2, 0, none⟩)) (hv : tmps.getD s undef = v) (hu : tmps.getD r undef = u) (h1 : w.heap[g1]? = some (.cells xs t1 (0, 0))) (h2 : w.heap[g2]? = some (.cells ys t2 (0, 0))) (hx : xs.size = 35) (hy : ys.size = 101) :
    (results fn tmps).run Tryz.prog w = .ok (.tuple #[.agg xs, .agg ys, v, u]) w := by
  have hp' : tmps[p]?.getD undef = .pointer (some ⟨g1, 0, none⟩) := by simpa using hp
  have hq' : tmps[q]?.getD undef = .pointer (some ⟨g2, 0, none⟩) := by simpa using hq
  have hv' : tmps[s]?.getD undef = v := by simpa using hv
  have hu' : tmps[r]?.getD undef = u := by simpa using hu
  have r1 := run_loadVar_row (P := Tryz.prog) w g1 t1 40 xs (0, 0) _ h1 under_se rfl (by rw [size_se, hx])
  have r2 := run_loadVar_row (P := Tryz.prog) w g2 t2 52 ys (0, 0) _ h2 under_att rfl (by rw [size_att, hy])
  simp [results, h, hp', hq', hv', hu', asAddr, r1, r2]
theorem atc_ha (a : AtM) (ho : a.Ok) (h : List UInt8) (hl : h.length = 32) : putAt (atc a) 4 (bcells h) = atc { a with ha := h } :=
  putAt_mid (bcells h) [.int .i64 a.bo, .int .i64 a.ki, .int .i64 a.vi, .int .i64 a.ph] (bcells a.ha) (Value.int .i64 a.pv :: (bcells a.pa ++ bcells a.tg)) (by rw [bcells_length, bcells_length, ho.ha, hl])
theorem atc_pa (a : AtM) (ho : a.Ok) (h : List UInt8) (hl : h.length = 32) : putAt (atc a) 37 (bcells h) = atc { a with pa := h } := by
  have e := putAt_mid (bcells h) ([.int .i64 a.bo, .int .i64 a.ki, .int .i64 a.vi, .int .i64 a.ph] ++ (bcells a.ha ++ [.int .i64 a.pv])) (bcells a.pa) (bcells a.tg) (by rw [bcells_length, bcells_length, ho.pa, hl])
  have hp : ([.int .i64 a.bo, .int .i64 a.ki, .int .i64 a.vi, .int .i64 a.ph] ++ (bcells a.ha ++ [.int .i64 a.pv]) : List Value).length = 37 := by simp only [List.length_append, bcells_length, ho.ha, List.length_cons, List.length_nil]
  rw [hp] at e
  unfold atc
  rw [atl_pa, atl_pa]
  exact e
theorem sec_pa (s : SeM) (ho : s.Ok) (h : List UInt8) (hl : h.length = 32) : putAt (sec s) 3 (bcells h) = sec { s with pa := h } := by
  have e := putAt_mid (bcells h) [.int .i64 s.vi, .int .i64 s.ph, .int .i64 s.pv] (bcells s.pa) [] (by rw [bcells_length, bcells_length, hl]; exact ho.symm ▸ rfl)
  simp only [List.append_nil] at e
  exact e
theorem sec_vi (s : SeM) (n : Int) : (sec s).setIfInBounds 0 (.int .i64 n) = sec { s with vi := n } := rfl
theorem sec_ph (s : SeM) (n : Int) : (sec s).setIfInBounds 1 (.int .i64 n) = sec { s with ph := n } := rfl
theorem sec_pv (s : SeM) (n : Int) : (sec s).setIfInBounds 2 (.int .i64 n) = sec { s with pv := n } := rfl
theorem atc_ki (a : AtM) (n : Int) : (atc a).setIfInBounds 1 (.int .i64 n) = atc { a with ki := n } := rfl
theorem atc_vi (a : AtM) (n : Int) : (atc a).setIfInBounds 2 (.int .i64 n) = atc { a with vi := n } := rfl
theorem atc_ph (a : AtM) (n : Int) : (atc a).setIfInBounds 3 (.int .i64 n) = atc { a with ph := n } := rfl
noncomputable def buildSe4 (u v x y : Value) (w : World) : Result Next := Sem.run Tryz.prog (execOp (fun z => match z with
  | .tmp 0 => u
  | .tmp 1 => v
  | .tmp 2 => x
  | _ => y) { dst := none, op := .build 40 #[(0, .tmp 0), (1, .tmp 1), (2, .tmp 2), (3, .tmp 3)], type := 0, pos := "", after := #[], guard := none }) w
theorem exec_build_se4 (r : Operand → Value) (x0 x1 x2 x3 : Operand) (dst : Option Tmp) (ty : TypeId) (pos : String) (after : Array Edge) (guard : Option (Nat × Bool)) (w : World) :
    Sem.run Tryz.prog (execOp r { dst := dst, op := .build 40 #[(0, x0), (1, x1), (2, x2), (3, x3)], type := ty, pos := pos, after := after, guard := guard }) w = buildSe4 (r x0) (r x1) (r x2) (r x3) w := by
  unfold buildSe4 execOp
  simp
theorem buildSe4_eq (v p q : Int) (h : List UInt8) (hl : h.length = 32) (w : World) : buildSe4 (.int .i64 v) (.int .i64 p) (.int .i64 q) (.agg (hcells h)) w = .ok (.value (.agg (sec ⟨v, p, q, h⟩))) w := by
  have hsz : (hcells h).size = 32 := by rw [hcells_size, hl]
  have e0 : (hcells h).zipIdx = ((bcells h).zipIdx).toArray := by simp [hcells]
  unfold buildSe4
  go_simp
  exact (fold_putSgO (bcells h) 0 3 _).trans (sec_pa ⟨v, p, q, z32⟩ rfl h hl)
noncomputable def buildAt2 (u v : Value) (w : World) : Result Next := Sem.run Tryz.prog (execOp (fun z => match z with
  | .tmp 0 => u
  | _ => v) { dst := none, op := .build 52 #[(5, .tmp 0), (6, .tmp 1)], type := 0, pos := "", after := #[], guard := none }) w
theorem exec_build_at2 (r : Operand → Value) (x0 x1 : Operand) (dst : Option Tmp) (ty : TypeId) (pos : String) (after : Array Edge) (guard : Option (Nat × Bool)) (w : World) :
    Sem.run Tryz.prog (execOp r { dst := dst, op := .build 52 #[(5, x0), (6, x1)], type := ty, pos := pos, after := after, guard := guard }) w = buildAt2 (r x0) (r x1) w := by
  unfold buildAt2 execOp
  simp
theorem buildAt2_eq (q : Int) (h : List UInt8) (hl : h.length = 32) (w : World) : buildAt2 (.int .i64 q) (.agg (hcells h)) w = .ok (.value (.agg (atc ⟨0, 0, 0, 0, z32, q, h, z32⟩))) w := by
  have hsz : (hcells h).size = 32 := by rw [hcells_size, hl]
  have e0 : (hcells h).zipIdx = ((bcells h).zipIdx).toArray := by simp [hcells]
  unfold buildAt2
  go_simp
  have e : List.foldl (fun (cs : Array Value) (x : Value × Nat) => cs.setIfInBounds (37 + x.2) x.1) (Tryz.zeroCells52.setIfInBounds 36 (Value.int .i64 q)) (bcells h).zipIdx = atc ⟨0, 0, 0, 0, z32, q, h, z32⟩ := (fold_putSgO (bcells h) 0 37 _).trans (atc_pa ⟨0, 0, 0, 0, z32, q, z32, z32⟩ ⟨rfl, rfl, rfl⟩ h hl)
  rw [e]
noncomputable def buildAt3 (x u v : Value) (w : World) : Result Next := Sem.run Tryz.prog (execOp (fun z => match z with
  | .tmp 0 => x
  | .tmp 1 => u
  | _ => v) { dst := none, op := .build 52 #[(4, .tmp 0), (5, .tmp 1), (6, .tmp 2)], type := 0, pos := "", after := #[], guard := none }) w
theorem exec_build_at3 (r : Operand → Value) (x0 x1 x2 : Operand) (dst : Option Tmp) (ty : TypeId) (pos : String) (after : Array Edge) (guard : Option (Nat × Bool)) (w : World) :
    Sem.run Tryz.prog (execOp r { dst := dst, op := .build 52 #[(4, x0), (5, x1), (6, x2)], type := ty, pos := pos, after := after, guard := guard }) w = buildAt3 (r x0) (r x1) (r x2) w := by
  unfold buildAt3 execOp
  simp
theorem att_four (b k v p q : Int) (g h : List UInt8) (hg : g.length = 32) (hl : h.length = 32) : List.foldl (fun (cs : Array Value) (x : Value × Nat) => cs.setIfInBounds (37 + x.2) x.1) ((List.foldl (fun (cs : Array Value) (x : Value × Nat) => cs.setIfInBounds (4 + x.2) x.1) (atc ⟨b, k, v, p, z32, 0, z32, z32⟩) (bcells g).zipIdx).setIfInBounds 36 (Value.int .i64 q)) (bcells h).zipIdx = atc ⟨b, k, v, p, g, q, h, z32⟩ := by
  have e1 := (fold_putSgO (bcells g) 0 4 _).trans (atc_ha ⟨b, k, v, p, z32, 0, z32, z32⟩ ⟨rfl, rfl, rfl⟩ g hg)
  have e2 := (fold_putSgO (bcells h) 0 37 _).trans (atc_pa ⟨b, k, v, p, g, q, z32, z32⟩ ⟨hg, rfl, rfl⟩ h hl)
  have e3 := atc_pv (a := ⟨b, k, v, p, g, 0, z32, z32⟩) ⟨hg, rfl, rfl⟩ q
  rw [e1, e3]
  exact e2
theorem buildAt3_eq (q : Int) (g h : List UInt8) (hg : g.length = 32) (hl : h.length = 32) (w : World) : buildAt3 (.agg (hcells g)) (.int .i64 q) (.agg (hcells h)) w = .ok (.value (.agg (atc ⟨0, 0, 0, 0, g, q, h, z32⟩))) w := by
  have hsz : (hcells h).size = 32 := by rw [hcells_size, hl]
  have e0 : (hcells h).zipIdx = ((bcells h).zipIdx).toArray := by simp [hcells]
  have hsy : (hcells g).size = 32 := by rw [hcells_size, hg]
  have f0 : (hcells g).zipIdx = ((bcells g).zipIdx).toArray := by simp [hcells]
  unfold buildAt3
  go_simp
  have e : List.foldl (fun (cs : Array Value) (x : Value × Nat) => cs.setIfInBounds (37 + x.2) x.1) ((List.foldl (fun (cs : Array Value) (x : Value × Nat) => cs.setIfInBounds (4 + x.2) x.1) Tryz.zeroCells52 (bcells g).zipIdx).setIfInBounds 36 (Value.int .i64 q)) (bcells h).zipIdx = atc ⟨0, 0, 0, 0, g, q, h, z32⟩ := att_four 0 0 0 0 q g h hg hl
  rw [e]
  have s1 : (List.foldl (fun (cs : Array Value) (x : Value × Nat) => cs.setIfInBounds (4 + x.2) x.1) Tryz.zeroCells52 (bcells g).zipIdx).size = 101 := by
    have e1 : List.foldl (fun (cs : Array Value) (x : Value × Nat) => cs.setIfInBounds (4 + x.2) x.1) Tryz.zeroCells52 (bcells g).zipIdx = atc ⟨0, 0, 0, 0, g, 0, z32, z32⟩ := (fold_putSgO (bcells g) 0 4 _).trans (atc_ha ⟨0, 0, 0, 0, z32, 0, z32, z32⟩ ⟨rfl, rfl, rfl⟩ g hg)
    rw [e1]
    exact atc_size ⟨hg, rfl, rfl⟩
  rw [if_neg (by rw [s1]; omega), if_neg (by rw [s1]; omega)]
  rfl
noncomputable def buildAt5 (k v p u x : Value) (w : World) : Result Next := Sem.run Tryz.prog (execOp (fun z => match z with
  | .tmp 0 => k
  | .tmp 1 => v
  | .tmp 2 => p
  | .tmp 3 => u
  | _ => x) { dst := none, op := .build 52 #[(1, .tmp 0), (2, .tmp 1), (3, .tmp 2), (5, .tmp 3), (6, .tmp 4)], type := 0, pos := "", after := #[], guard := none }) w
theorem exec_build_at5 (r : Operand → Value) (x0 x1 x2 x3 x4 : Operand) (dst : Option Tmp) (ty : TypeId) (pos : String) (after : Array Edge) (guard : Option (Nat × Bool)) (w : World) :
    Sem.run Tryz.prog (execOp r { dst := dst, op := .build 52 #[(1, x0), (2, x1), (3, x2), (5, x3), (6, x4)], type := ty, pos := pos, after := after, guard := guard }) w = buildAt5 (r x0) (r x1) (r x2) (r x3) (r x4) w := by
  unfold buildAt5 execOp
  simp
theorem buildAt5_eq (k v p q : Int) (h : List UInt8) (hl : h.length = 32) (w : World) : buildAt5 (.int .i64 k) (.int .i64 v) (.int .i64 p) (.int .i64 q) (.agg (hcells h)) w = .ok (.value (.agg (atc ⟨0, k, v, p, z32, q, h, z32⟩))) w := by
  have hsz : (hcells h).size = 32 := by rw [hcells_size, hl]
  have e0 : (hcells h).zipIdx = ((bcells h).zipIdx).toArray := by simp [hcells]
  unfold buildAt5
  go_simp
  have e : List.foldl (fun (cs : Array Value) (x : Value × Nat) => cs.setIfInBounds (37 + x.2) x.1) ((((Tryz.zeroCells52.setIfInBounds 1 (Value.int .i64 k)).setIfInBounds 2 (Value.int .i64 v)).setIfInBounds 3 (Value.int .i64 p)).setIfInBounds 36 (Value.int .i64 q)) (bcells h).zipIdx = atc ⟨0, k, v, p, z32, q, h, z32⟩ := (fold_putSgO (bcells h) 0 37 _).trans (atc_pa ⟨0, k, v, p, z32, q, z32, z32⟩ ⟨rfl, rfl, rfl⟩ h hl)
  rw [e]
noncomputable def buildAt6 (k v p g u x : Value) (w : World) : Result Next := Sem.run Tryz.prog (execOp (fun z => match z with
  | .tmp 0 => k
  | .tmp 1 => v
  | .tmp 2 => p
  | .tmp 3 => g
  | .tmp 4 => u
  | _ => x) { dst := none, op := .build 52 #[(1, .tmp 0), (2, .tmp 1), (3, .tmp 2), (4, .tmp 3), (5, .tmp 4), (6, .tmp 5)], type := 0, pos := "", after := #[], guard := none }) w
theorem exec_build_at6 (r : Operand → Value) (x0 x1 x2 x3 x4 x5 : Operand) (dst : Option Tmp) (ty : TypeId) (pos : String) (after : Array Edge) (guard : Option (Nat × Bool)) (w : World) :
    Sem.run Tryz.prog (execOp r { dst := dst, op := .build 52 #[(1, x0), (2, x1), (3, x2), (4, x3), (5, x4), (6, x5)], type := ty, pos := pos, after := after, guard := guard }) w = buildAt6 (r x0) (r x1) (r x2) (r x3) (r x4) (r x5) w := by
  unfold buildAt6 execOp
  simp
theorem buildAt6_eq (k v p q : Int) (g h : List UInt8) (hg : g.length = 32) (hl : h.length = 32) (w : World) : buildAt6 (.int .i64 k) (.int .i64 v) (.int .i64 p) (.agg (hcells g)) (.int .i64 q) (.agg (hcells h)) w = .ok (.value (.agg (atc ⟨0, k, v, p, g, q, h, z32⟩))) w := by
  have hsz : (hcells h).size = 32 := by rw [hcells_size, hl]
  have e0 : (hcells h).zipIdx = ((bcells h).zipIdx).toArray := by simp [hcells]
  have hsy : (hcells g).size = 32 := by rw [hcells_size, hg]
  have f0 : (hcells g).zipIdx = ((bcells g).zipIdx).toArray := by simp [hcells]
  unfold buildAt6
  go_simp
  have e : List.foldl (fun (cs : Array Value) (x : Value × Nat) => cs.setIfInBounds (37 + x.2) x.1) ((List.foldl (fun (cs : Array Value) (x : Value × Nat) => cs.setIfInBounds (4 + x.2) x.1) (((Tryz.zeroCells52.setIfInBounds 1 (Value.int .i64 k)).setIfInBounds 2 (Value.int .i64 v)).setIfInBounds 3 (Value.int .i64 p)) (bcells g).zipIdx).setIfInBounds 36 (Value.int .i64 q)) (bcells h).zipIdx = atc ⟨0, k, v, p, g, q, h, z32⟩ := att_four 0 k v p q g h hg hl
  rw [e]
  have s1 : (List.foldl (fun (cs : Array Value) (x : Value × Nat) => cs.setIfInBounds (4 + x.2) x.1) (((Tryz.zeroCells52.setIfInBounds 1 (Value.int .i64 k)).setIfInBounds 2 (Value.int .i64 v)).setIfInBounds 3 (Value.int .i64 p)) (bcells g).zipIdx).size = 101 := by
    have e1 : List.foldl (fun (cs : Array Value) (x : Value × Nat) => cs.setIfInBounds (4 + x.2) x.1) (((Tryz.zeroCells52.setIfInBounds 1 (Value.int .i64 k)).setIfInBounds 2 (Value.int .i64 v)).setIfInBounds 3 (Value.int .i64 p)) (bcells g).zipIdx = atc ⟨0, k, v, p, g, 0, z32, z32⟩ := (fold_putSgO (bcells g) 0 4 _).trans (atc_ha ⟨0, k, v, p, z32, 0, z32, z32⟩ ⟨rfl, rfl, rfl⟩ g hg)
    rw [e1]
    exact atc_size ⟨hg, rfl, rfl⟩
  rw [if_neg (by rw [s1]; omega), if_neg (by rw [s1]; omega)]
  rfl
theorem rows_two (w : World) (a b : Obj) : ((w.alloc a).alloc b).heap[w.heap.size]? = some a ∧ ((w.alloc a).alloc b).heap[w.heap.size + 1]? = some b := by
  have e : (w.alloc a).heap.size = w.heap.size + 1 := by simp
  have h := heap_alloc_new (w.alloc a) b
  rw [e] at h
  exact ⟨(Below.heap_alloc _ _ _ (by rw [e]; omega)).trans (heap_alloc_new w a), h⟩
theorem rows_three (w : World) (a b c : Obj) : (((w.alloc a).alloc b).alloc c).heap[w.heap.size]? = some a ∧ (((w.alloc a).alloc b).alloc c).heap[w.heap.size + 1]? = some b ∧ (((w.alloc a).alloc b).alloc c).heap[w.heap.size + 2]? = some c := by
  have e : ((w.alloc a).alloc b).heap.size = w.heap.size + 2 := by simp
  have h := heap_alloc_new ((w.alloc a).alloc b) c
  rw [e] at h
  obtain ⟨h1, h2⟩ := rows_two w a b
  exact ⟨(Below.heap_alloc _ _ _ (by rw [e]; omega)).trans h1, (Below.heap_alloc _ _ _ (by rw [e]; omega)).trans h2, h⟩
theorem rows_four (w : World) (a b c d : Obj) : ((((w.alloc a).alloc b).alloc c).alloc d).heap[w.heap.size]? = some a ∧ ((((w.alloc a).alloc b).alloc c).alloc d).heap[w.heap.size + 1]? = some b ∧ ((((w.alloc a).alloc b).alloc c).alloc d).heap[w.heap.size + 2]? = some c ∧ ((((w.alloc a).alloc b).alloc c).alloc d).heap[w.heap.size + 3]? = some d := by
  have e : (((w.alloc a).alloc b).alloc c).heap.size = w.heap.size + 3 := by simp
  have h := heap_alloc_new (((w.alloc a).alloc b).alloc c) d
  rw [e] at h
  obtain ⟨h1, h2, h3⟩ := rows_three w a b c
  exact ⟨(Below.heap_alloc _ _ _ (by rw [e]; omega)).trans h1, (Below.heap_alloc _ _ _ (by rw [e]; omega)).trans h2, (Below.heap_alloc _ _ _ (by rw [e]; omega)).trans h3, h⟩
theorem rows_five (w : World) (a b c d f : Obj) : (((((w.alloc a).alloc b).alloc c).alloc d).alloc f).heap[w.heap.size]? = some a ∧ (((((w.alloc a).alloc b).alloc c).alloc d).alloc f).heap[w.heap.size + 1]? = some b ∧ (((((w.alloc a).alloc b).alloc c).alloc d).alloc f).heap[w.heap.size + 2]? = some c ∧ (((((w.alloc a).alloc b).alloc c).alloc d).alloc f).heap[w.heap.size + 3]? = some d ∧ (((((w.alloc a).alloc b).alloc c).alloc d).alloc f).heap[w.heap.size + 4]? = some f := by
  have e : ((((w.alloc a).alloc b).alloc c).alloc d).heap.size = w.heap.size + 4 := by simp
  have h := heap_alloc_new ((((w.alloc a).alloc b).alloc c).alloc d) f
  rw [e] at h
  obtain ⟨h1, h2, h3, h4⟩ := rows_four w a b c d
  exact ⟨(Below.heap_alloc _ _ _ (by rw [e]; omega)).trans h1, (Below.heap_alloc _ _ _ (by rw [e]; omega)).trans h2, (Below.heap_alloc _ _ _ (by rw [e]; omega)).trans h3, (Below.heap_alloc _ _ _ (by rw [e]; omega)).trans h4, h⟩
theorem tyb_ne {w : World} {b a : Nat} {C D : Array Value} {T U : TypeId} (h : w.heap[b]? = some (.cells C T (0, 0))) (k : w.heap[a]? = some (.cells D U (0, 0))) (hT : T ≠ U) : b ≠ a := by
  rintro rfl
  have := h.symm.trans k
  injection this with e
  injection e with _ e _
  exact hT e
theorem heap_setIn (w : World) {g : Nat} {C : Array Value} {T : TypeId} (h : w.heap[g]? = some (.cells C T (0, 0))) (i : Nat) (u : Value) : (w.setCell ⟨g, i, none⟩ u).heap[g]? = some (.cells (C.setIfInBounds i u) T (0, 0)) := by
  simp [World.setCell, Array.getElem?_modify, h]
theorem loadSe_in {w : World} {g o : Nat} {s : SeM} (hr : w.rangeAt g o (sel s)) (hs : s.Ok) : loadSe (.pointer (some ⟨g, o, none⟩)) w = .ok (.value (.agg (sec s))) w := by
  have := run_loadAt_mid (P := Tryz.prog) w g o 40 (sel s) _ hr under_se rfl (by rw [size_se, sel_length hs])
  unfold loadSe execOp
  simp only [Sem.run_bind, this, Result.andThen_ok, Sem.run_pure]
  rfl
structure Tws (b a : Nat) (w w' : World) : Prop where
  os : w'.os = w.os
  tape : w'.tape = w.tape
  output : w'.output = w.output
  size : w.heap.size ≤ w'.heap.size
  block : ∀ k, k < w.heap.size → k ≠ b → k ≠ a → w'.heap[k]? = w.heap[k]?
theorem Tws.refl (b a : Nat) (w : World) : Tws b a w w := ⟨rfl, rfl, rfl, Nat.le_refl _, fun _ _ _ _ => rfl⟩
theorem Tws.trans {b a : Nat} {x y z : World} (h : Tws b a x y) (k : Tws b a y z) : Tws b a x z :=
  ⟨k.os.trans h.os, k.tape.trans h.tape, k.output.trans h.output, Nat.le_trans h.size k.size, fun i h1 h2 h3 => (k.block i (Nat.lt_of_lt_of_le h1 h.size) h2 h3).trans (h.block i h1 h2 h3)⟩
theorem Tws.of {b a : Nat} {w w' : World} (h : Below w.heap.size w w') : Tws b a w w' := ⟨h.os, h.tape, h.output, h.size, fun k hk _ _ => h.block k hk⟩
theorem Tws.then {b a : Nat} {w w' w2 : World} (h : Tws b a w w') (k : Below w'.heap.size w' w2) : Tws b a w w2 := h.trans (Tws.of k)
structure ResSt (w W : World) (p q : Nat) (Z Y : Array Value) : Prop where
  s : W.heap[p]? = some (.cells Z 40 (0, 0))
  a : W.heap[q]? = some (.cells Y 52 (0, 0))
  hp : w.heap.size ≤ p
  hq : w.heap.size ≤ q
  bel : Below w.heap.size w W
  zs : Z.size = 35
  za : Y.size = 101
theorem ResSt.below {w W W' : World} {p q : Nat} {Z Y : Array Value} (h : ResSt w W p q Z Y) (hb : Below W.heap.size W W') : ResSt w W' p q Z Y := ⟨(hb.block _ (lt_of_block h.s)).trans h.s, (hb.block _ (lt_of_block h.a)).trans h.a, h.hp, h.hq, h.bel.trans (hb.mono h.bel.size), h.zs, h.za⟩
theorem ResSt.cell {w W : World} {p q : Nat} {Z Y : Array Value} (h : ResSt w W p q Z Y) {g : Nat} (h1 : p ≠ g) (h2 : q ≠ g) (h3 : w.heap.size ≤ g) (i : Nat) (u : Value) : ResSt w (W.setCell ⟨g, i, none⟩ u) p q Z Y :=
  ⟨(Below.heap_setCell _ _ _ _ h1).trans h.s, (Below.heap_setCell _ _ _ _ h2).trans h.a, h.hp, h.hq, h.bel.setCell h3 _, h.zs, h.za⟩
theorem Tws.setS {w W : World} {p q : Nat} (h : Tws p q w W) (C : Array Value) : Tws p q w (setSe W p C) := by
  have hb := setSe_below (C := C) (Below.refl 0 W) (Nat.zero_le p)
  exact ⟨hb.os.trans h.os, hb.tape.trans h.tape, hb.output.trans h.output, Nat.le_trans h.size hb.size, fun k h1 h2 h3 => (setSe_other W _ h2).trans (h.block k h1 h2 h3)⟩
theorem Tws.setY {w W : World} {p q : Nat} (h : Tws p q w W) (C : Array Value) : Tws p q w (setAtt W q C) := by
  have hb := setAtt_below (C := C) (Below.refl 0 W) (Nat.zero_le q)
  exact ⟨hb.os.trans h.os, hb.tape.trans h.tape, hb.output.trans h.output, Nat.le_trans h.size hb.size, fun k h1 h2 h3 => (setAtt_other W _ h3).trans (h.block k h1 h2 h3)⟩
structure ResEnd (w W : World) (p q : Nat) (S A : Array Value) : Prop where
  st : storeSe (.pointer (some ⟨p, 0, none⟩)) (.agg S) W = .ok .skip (setSe W p S)
  sa : storeAtt (.pointer (some ⟨q, 0, none⟩)) (.agg A) (setSe W p S) = .ok .skip (setAtt (setSe W p S) q A)
  rs : (setAtt (setSe W p S) q A).heap[p]? = some (.cells S 40 (0, 0))
  ra : (setAtt (setSe W p S) q A).heap[q]? = some (.cells A 52 (0, 0))
  bel : Below w.heap.size w (setAtt (setSe W p S) q A)
  zs : S.size = 35
  za : A.size = 101
theorem ResSt.fin {w W : World} {p q : Nat} {Z Y : Array Value} (h : ResSt w W p q Z Y) {t : TldM} (ho : t.Ok) : ResEnd w W p q (sec t.s) (atc t.a) := by
  have hne : p ≠ q := tyb_ne h.s h.a (by decide)
  have ha2 : (setSe W p (sec t.s)).heap[q]? = some (.cells Y 52 (0, 0)) := (setSe_other W _ hne.symm).trans h.a
  refine ⟨storeSe_eq h.s h.zs (sec_size ho.s) (sec_one _), storeAtt_eq ha2 h.za (atc_size ho.a) (atc_one _), ?_, setAtt_same ha2, setAtt_below (setSe_below h.bel h.hp) h.hq, sec_size ho.s, atc_size ho.a⟩
  exact (setAtt_other _ _ hne).trans (setSe_same h.s)
end Go.Proofs.YtghophbabbaleaaGreatDoor
