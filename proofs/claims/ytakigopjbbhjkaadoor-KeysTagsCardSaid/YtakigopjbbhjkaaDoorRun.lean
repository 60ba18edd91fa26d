/-
  A sum under way, in memory; sha's put goes on with bytes.
-/
import Derived.Test.YtakigopjbbhjkaaDoorTurn
namespace Go.Proofs.YtakigopjbbhjkaaDoor
open Go.RowKit

/-- The cells of a sum under way: the state, the block, how many bytes there were. -/
def runf (s : Nat → UInt32) (b : Nat → UInt8) (n : Nat) (j : Nat) : Value := if j < 8 then wc (s j) else if j < 72 then bcell (b (j - 8)) else .int .u64 (n : Int)

/-- Block g is the sum under way of the bytes l. -/
def Run (w : World) (g : Nat) (l : List UInt8) : Prop :=
  ∃ b : Nat → UInt8, Blk w g 73 (runf (absb l (l.length / 64)) b l.length) 53 ∧ ∀ j, j < l.length % 64 → b j = l.getD (64 * (l.length / 64) + j) 0

theorem Run.lt {w : World} {g : Nat} {l : List UInt8} (h : Run w g l) : g < w.heap.size := by
  obtain ⟨b, hb, _⟩ := h
  exact hb.lt
theorem Run.grown {w w' : World} {g : Nat} {l : List UInt8} (h : Run w g l) {row : Option Nat} (hg : w.grownBy w' row) (hr : row ≠ some g) : Run w' g l := by
  obtain ⟨b, hb, h2⟩ := h
  exact ⟨b, hb.grown hg hr, h2⟩
theorem Run.keep {w w' : World} {g : Nat} {l : List UInt8} (h : Run w g l) (hb : Below w.heap.size w w') : Run w' g l := h.grown (grown_below hb none) (by simp)

theorem Byt.cut {w : World} {A : Option Addr} {l : List UInt8} {c p : Nat} (h : Byt w (.slice A l.length c) l) (hp : p ≤ l.length) :
    Byt w (.slice (if c = p then A else A.map (·.add p)) (l.length - p) (c - p)) (l.drop p) := by
  obtain ⟨_, h1, h2, h3⟩ := h.at_
  refine ⟨_, c - p, by rw [List.length_drop], by rw [List.length_drop]; omega, by omega, fun hl => ?_⟩
  rw [List.length_drop] at hl
  obtain ⟨b, off, rfl, hb, hc⟩ := h3 (by omega)
  rw [if_neg (by omega)]
  refine ⟨b, off + p, by rw [Option.map_some, addr_add], hb, fun j hj => ?_⟩
  rw [List.length_drop] at hj
  rw [Nat.add_assoc, hc (p + j) (by omega), List.getElem_drop]
/-- Where a cut slice lies. -/
theorem cut_own {A : Option Addr} {n c m d p : Nat} : (Value.slice (if c = p then A else A.map (·.add p)) m d).ownBlock = (Value.slice A n c).ownBlock ∨ (Value.slice (if c = p then A else A.map (·.add p)) m d).ownBlock = none := by
  by_cases h : c = p
  · rw [if_pos h]
    cases A <;> simp [Value.ownBlock]
  · rw [if_neg h]
    rcases A with _ | ⟨b, o, sp⟩
    · simp [Value.ownBlock]
    · cases sp <;> (simp [Value.ownBlock, Addr.add]; split <;> rfl)

/-- 'b[k:]' at bytes. -/
theorem wpList_cut {ops : Array Oper} {rest : List Oper} {o : Oper} {a : Act} {w : World} {Q : Exit → Act → World → Prop} (hgd : o.guard = none) (x y : Operand) (ho : o.op = .slice 26 x (some y) none none)
    {A : Option Addr} {c k : Nat} {l : List UInt8} (hx : a.eval x = .slice A l.length c) (hy : a.eval y = .int .i64 (k : Int)) (hv : Byt w (.slice A l.length c) l) (hk : k ≤ l.length)
    (h : ∀ A' c', Byt w (.slice A' (l.length - k) c') (l.drop k) → (∀ g, (Value.slice A l.length c).ownBlock ≠ some g → (Value.slice A' (l.length - k) c').ownBlock ≠ some g) → wpList Tryd.prog ops Q rest (a.put o.dst (.slice A' (l.length - k) c')) w) :
    wpList Tryd.prog ops Q (o :: rest) a w := by
  obtain ⟨i0, hi, hz0, hz1, hz2⟩ := info_parts info_u8
  have hrun : (Instr.sliceAt 26 (.slice A l.length c) (some (.int .i64 (k : Int))) none none).run Tryd.prog w = .ok (.slice (if c = k then A else A.map (·.add k)) (l.length - k) (c - k)) w := by
    have hk2 : (k : Int) ≤ (l.length : Int) := by omega
    simp [Instr.sliceAt, Instr.slice, run_underlying under_bytes, Instr.sliceBounds, Instr.sliceBound, asIntOf, sizeOf, typeInfo, hi, hz1, hk]
  refine wpList_plain hgd fun _ hK => ?_
  unfold Oper.wp execOp
  simp only [ho, Option.map_some, Option.map_none, hx, hy, Sem.run_bind, hrun, Result.andThen_ok, Sem.run_pure]
  refine hK _ _ (h _ _ (hv.cut hk) fun g hg => ?_)
  rcases cut_own (A := A) (n := l.length) (c := c) (m := l.length - k) (d := c - k) (p := k) with e | e
  · rw [e]; exact hg
  · rw [e]; simp

/-- copy of bytes into a block that is known whole: as an equation of runs. -/
theorem run_copy_blk {w : World} {v : Value} {m : List UInt8} (ty : TypeId) (hv : Byt w v m) {g off N dLen dCap : Nat} {F : Nat → Value} {t : TypeId} (hg : Blk w g N F t) {k : Nat} (hk : k = Nat.min m.length dLen) (h0 : 0 < k) (hfit : off + k ≤ N) :
    ∃ w', (Builtin.copy_ #[26, 26] ty #[.slice (some ⟨g, off, none⟩) dLen dCap, v]).run Tryd.prog w = .ok (.int .i64 (k : Int)) w' ∧ w.grownBy w' (some g) ∧ Blk w' g N (fun j => if off ≤ j ∧ j < off + k then bcell (m.getD (j - off) 0) else F j) t ∧ w'.heap.size = w.heap.size := by
  obtain ⟨A, c, rfl, h1, h2, hr⟩ := hv
  have hsz : (Tryd.prog.info? 5).map (·.size) = some 1 := by kernel_rfl
  have hkm : k ≤ m.length := by rw [hk]; exact Nat.min_le_left _ _
  obtain ⟨b, off2, rfl, hb, hc⟩ := hr (by omega)
  have hlen : (bcells (m.take k)).length = k := by simp [bcells]; omega
  have hrun := run_copy_row (P := Tryd.prog) w 26 26 ty 5 g off dLen dCap ⟨b, off2, none⟩ m.length c (fcells N F) t (bcells (m.take k)) under_bytes hsz hg (by rw [hlen, hk]) (fun j u hu => by
    obtain ⟨hj, rfl⟩ := bcells_get _ j u hu
    rw [addr_add]
    have hjm : j < m.length := by simp at hj; omega
    rw [hc j hjm, List.getElem_take]) (by rw [hlen, fcells_size]; exact hfit) (bcells_one _)
  have hrow : ((fcells N F).toList.take off ++ bcells (m.take k) ++ (fcells N F).toList.drop (off + (bcells (m.take k)).length)).toArray = fcells N (fun j => if off ≤ j ∧ j < off + k then bcell (m.getD (j - off) 0) else F j) := by
    apply Array.ext_getElem?
    intro j
    rw [hlen, List.getElem?_toArray]
    have ht : ((fcells N F).toList.take off).length = off := by rw [List.length_take, Array.length_toList, fcells_size]; omega
    by_cases hj : j < N
    · rw [fcells_get _ hj]
      by_cases h3 : j < off
      · rw [if_neg (by omega), List.append_assoc, List.getElem?_append_left (by omega), List.getElem?_take_of_lt h3, fcells_list, if_pos hj]
      · by_cases h4 : j < off + k
        · rw [if_pos (by omega), List.append_assoc, List.getElem?_append_right (by omega), ht, List.getElem?_append_left (by omega)]
          have hjm : j - off < m.length := by omega
          simp [bcells, List.getElem?_take_of_lt (show j - off < k by omega), hjm]
        · rw [if_neg (by omega), List.getElem?_append_right (by rw [List.length_append, ht, hlen]; omega), List.length_append, ht, hlen, List.getElem?_drop, fcells_list, if_pos (by omega)]
          rw [show off + k + (j - (off + k)) = j from by omega]
    · rw [fcells_out _ hj, List.getElem?_eq_none]
      simp [fcells_size, bcells]
      omega
  rw [hrow, hlen] at hrun
  exact ⟨_, hrun, ⟨rfl, rfl, rfl, by simp, fun q _ hq => setRow_other w g q _ (fun e => hq (by simp [e]))⟩, setRow_heap w g _ _ t _ hg, by simp⟩

theorem wpList_copy_blk {ops : Array Oper} {rest : List Oper} {o : Oper} {a : Act} {w : World} {Q : Exit → Act → World → Prop} (hgd : o.guard = none) (d s : Operand)
    (ho : o.op = .call { callee := .builtin .copy, args := #[d, s], argTypes := #[26, 26] })
    {g off N dLen dCap : Nat} {v : Value} {m : List UInt8} {F : Nat → Value} {t : TypeId} (hd : a.eval d = .slice (some ⟨g, off, none⟩) dLen dCap) (hs : a.eval s = v) (hv : Byt w v m) (hg : Blk w g N F t)
    {k : Nat} (hk : k = Nat.min m.length dLen) (h0 : 0 < k) (hfit : off + k ≤ N)
    (h : ∀ w', w.grownBy w' (some g) → Blk w' g N (fun j => if off ≤ j ∧ j < off + k then bcell (m.getD (j - off) 0) else F j) t → w'.heap.size = w.heap.size → wpList Tryd.prog ops Q rest (a.put o.dst (.int .i64 (k : Int))) w') :
    wpList Tryd.prog ops Q (o :: rest) a w := by
  obtain ⟨w', hrun, h1, h2, h3⟩ := run_copy_blk o.type (dLen := dLen) (dCap := dCap) hv hg hk h0 hfit
  refine wpList_plain hgd fun _ hK => ?_
  unfold Oper.wp
  simp [execOp, ho, resolve, invoke, builtin, hd, hs, hrun, Result.andThen]
  exact hK _ _ (h w' h1 h2 h3)

/-- What k bytes more in the block are. -/
def more (b : Nat → UInt8) (r : List UInt8) (q k j : Nat) : UInt8 := if q ≤ j ∧ j < q + k then r.getD (j - q) 0 else b j
theorem more_eq {b : Nat → UInt8} {l r : List UInt8} {T q k : Nat} (hT : l.length = T) (hq : T % 64 = q) (hb : ∀ j, j < q → b j = l.getD (64 * (T / 64) + j) 0) (j : Nat) (hj : j < q + k) :
    more b r q k j = (l ++ r.take k).getD (64 * (T / 64) + j) 0 := by
  unfold more
  by_cases h : j < q
  · rw [if_neg (by omega), hb j h, getD_left (by omega)]
  · rw [if_pos (by omega), show 64 * (T / 64) + j = l.length + (j - q) from by omega, getD_right]
    simp only [List.getD_eq_getElem?_getD]
    rw [List.getElem?_take_of_lt (by omega)]
theorem run_part {w : World} {g T q k : Nat} {b : Nat → UInt8} {l r : List UInt8} (hT : l.length = T) (hq : T % 64 = q) (hk : k ≤ r.length) (hb : ∀ j, j < q → b j = l.getD (64 * (T / 64) + j) 0) (hqk : q + k < 64)
    (hB : Blk w g 73 (runf (absb l (T / 64)) (more b r q k) (T + k)) 53) : Run w g (l ++ r.take k) := by
  have hl : (l ++ r.take k).length = T + k := by rw [List.length_append, List.length_take, hT]; omega
  have hd : (T + k) / 64 = T / 64 := by omega
  have hm : (T + k) % 64 = q + k := by omega
  refine ⟨more b r q k, ?_, fun j hj => ?_⟩
  · rw [hl, hd]
    refine hB.congr fun i _ => ?_
    unfold runf
    by_cases h8 : i < 8
    · rw [if_pos h8, if_pos h8, absb_left (by omega) i h8]
    · rw [if_neg h8, if_neg h8]
  · rw [hl, hm] at hj
    rw [hl, hd]
    exact more_eq hT hq hb j hj
theorem run_full {w : World} {g T q k : Nat} {b : Nat → UInt8} {l r : List UInt8} (hT : l.length = T) (hq : T % 64 = q) (hk : k ≤ r.length) (hb : ∀ j, j < q → b j = l.getD (64 * (T / 64) + j) 0) (hqk : q + k = 64)
    (hB : Blk w g 73 (runf (turnS (absb l (T / 64)) (more b r q k)) (more b r q k) (T + k)) 53) : Run w g (l ++ r.take k) := by
  have hl : (l ++ r.take k).length = T + k := by rw [List.length_append, List.length_take, hT]; omega
  have hd : (T + k) / 64 = T / 64 + 1 := by omega
  have hm : (T + k) % 64 = 0 := by omega
  refine ⟨more b r q k, ?_, fun j hj => ?_⟩
  · rw [hl, hd]
    refine hB.congr fun i _ => ?_
    unfold runf
    by_cases h8 : i < 8
    · rw [if_pos h8, if_pos h8]
      congr 1
      refine turnS_congr (fun i hi => (absb_left (by omega) i hi).symm) (fun j hj => more_eq hT hq hb j (by omega)) i h8
    · rw [if_neg h8, if_neg h8]
  · rw [hl, hm] at hj
    omega

theorem wp_load_arr {T E : TypeId} {n : Nat} {z : Value} (H : ArrT T E n z) {o : Oper} {a : Act} {w : World} {K : Act → World → Prop} {Q : Exit → Act → World → Prop} (x : Operand) (ho : o.op = .load T x)
    {g N off : Nat} {f f' : Nat → Value} {t : TypeId} (hx : a.eval x = .pointer (some ⟨g, off, none⟩)) (hg : Blk w g N f t) (hN : off + n ≤ N) (e : ∀ j, j < n → f (off + j) = f' j)
    (h : K (a.put o.dst (.agg (fcells n f'))) w) : o.wp Tryd.prog a w K Q := by
  unfold Oper.wp execOp
  simp only [ho, hx, Sem.run_bind, H.load_mid hg hN e, Sem.run_pure, Result.andThen_ok]
  exact h
/-- Bytes that are there lie in a block that is there. -/
theorem byt_block {w : World} {v : Value} {l : List UInt8} (h : Byt w v l) (h0 : 0 < l.length) {g : Nat} (hg : w.heap.size ≤ g) : v.ownBlock ≠ some g := by
  obtain ⟨A, c, rfl, _, _, hr⟩ := h
  obtain ⟨b, off, rfl, hb, _⟩ := hr h0
  intro e
  have : b = g := by simpa [Value.ownBlock] using e
  omega
theorem wpList_load_arr_mid {T E : TypeId} {n : Nat} {z : Value} (H : ArrT T E n z) {ops : Array Oper} {rest : List Oper} {o : Oper} {a : Act} {w : World} {Q : Exit → Act → World → Prop} (hgd : o.guard = none) (x : Operand) (ho : o.op = .load T x)
    {g N off : Nat} {f f' : Nat → Value} {t : TypeId} (hx : a.eval x = .pointer (some ⟨g, off, none⟩)) (hg : Blk w g N f t) (hN : off + n ≤ N) (e : ∀ j, j < n → f (off + j) = f' j)
    (h : wpList Tryd.prog ops Q rest (a.put o.dst (.agg (fcells n f'))) w) : wpList Tryd.prog ops Q (o :: rest) a w :=
  wpList_plain hgd fun _ hK => wp_load_arr H x ho hx hg hN e (hK _ _ h)
/-- A new variable of a type whose zero value is known. -/
theorem wpList_alloc_cells {T : TypeId} {cs : Array Value} (hz : (Tryd.prog.info? T).bind (·.zero) = some (.agg cs)) {ops : Array Oper} {rest : List Oper} {o : Oper} {a : Act} {w : World} {Q : Exit → Act → World → Prop} (hgd : o.guard = none) (ho : o.op = .alloc T)
    (h : wpList Tryd.prog ops Q rest (a.put o.dst (.pointer (some ⟨w.heap.size, 0, none⟩))) (w.alloc (.cells cs T))) : wpList Tryd.prog ops Q (o :: rest) a w :=
  wpList_plain hgd fun _ hK => by
    have hr : (zeroValue T).run Tryd.prog w = .ok (.agg cs) w := by
      cases hq : Tryd.prog.info? T with
      | none => rw [hq] at hz; cases hz
      | some i =>
        rw [hq] at hz
        have hz' : i.zero = some (.agg cs) := hz
        simp [zeroValue, typeInfo, hq, hz']
    unfold Oper.wp execOp
    simp only [ho, Sem.run_bind, Instr.alloc, hr, newVar, newRow, run_newObj_alloc, Sem.run_pure, Result.andThen_ok, Value.cells]
    exact hK _ _ h

/-- What a load of an array, a store comes to: kept whole. -/
noncomputable def loadA (T : TypeId) (v : Value) (w : World) : Result Next := Sem.run Tryd.prog (execOp (fun _ => v) { dst := none, op := .load T (.tmp 0), type := 0, pos := "", after := #[], guard := none }) w
noncomputable def storeA (T : TypeId) (p v : Value) (w : World) : Result Next := Sem.run Tryd.prog (execOp (fun x => match x with
  | .tmp 0 => p
  | _ => v) { dst := none, op := .store T (.tmp 0) (.tmp 1), type := 0, pos := "", after := #[], guard := none }) w
theorem exec_load_S (r : Operand → Value) (x : Operand) (dst : Option Tmp) (ty : TypeId) (pos : String) (after : Array Edge) (guard : Option (Nat × Bool)) (w : World) :
    Sem.run Tryd.prog (execOp r { dst := dst, op := .load 49 x, type := ty, pos := pos, after := after, guard := guard }) w = loadA 49 (r x) w := rfl
theorem exec_load_B (r : Operand → Value) (x : Operand) (dst : Option Tmp) (ty : TypeId) (pos : String) (after : Array Edge) (guard : Option (Nat × Bool)) (w : World) :
    Sem.run Tryd.prog (execOp r { dst := dst, op := .load 45 x, type := ty, pos := pos, after := after, guard := guard }) w = loadA 45 (r x) w := rfl
theorem exec_load_H (r : Operand → Value) (x : Operand) (dst : Option Tmp) (ty : TypeId) (pos : String) (after : Array Edge) (guard : Option (Nat × Bool)) (w : World) :
    Sem.run Tryd.prog (execOp r { dst := dst, op := .load 23 x, type := ty, pos := pos, after := after, guard := guard }) w = loadA 23 (r x) w := rfl
theorem exec_load_W (r : Operand → Value) (x : Operand) (dst : Option Tmp) (ty : TypeId) (pos : String) (after : Array Edge) (guard : Option (Nat × Bool)) (w : World) :
    Sem.run Tryd.prog (execOp r { dst := dst, op := .load 60 x, type := ty, pos := pos, after := after, guard := guard }) w = loadA 60 (r x) w := rfl
theorem exec_store_S (r : Operand → Value) (x y : Operand) (dst : Option Tmp) (ty : TypeId) (pos : String) (after : Array Edge) (guard : Option (Nat × Bool)) (w : World) :
    Sem.run Tryd.prog (execOp r { dst := dst, op := .store 49 x y, type := ty, pos := pos, after := after, guard := guard }) w = storeA 49 (r x) (r y) w := rfl
theorem exec_store_H (r : Operand → Value) (x y : Operand) (dst : Option Tmp) (ty : TypeId) (pos : String) (after : Array Edge) (guard : Option (Nat × Bool)) (w : World) :
    Sem.run Tryd.prog (execOp r { dst := dst, op := .store 23 x y, type := ty, pos := pos, after := after, guard := guard }) w = storeA 23 (r x) (r y) w := rfl
theorem loadA_eq {T E : TypeId} {n : Nat} {z : Value} (H : ArrT T E n z) {w : World} {g N o : Nat} {f f' : Nat → Value} {t : TypeId} (hg : Blk w g N f t) (ho : o + n ≤ N) (e : ∀ j, j < n → f (o + j) = f' j) :
    loadA T (.pointer (some ⟨g, o, none⟩)) w = .ok (.value (.agg (fcells n f'))) w := by
  have := H.load_mid hg ho e
  unfold loadA execOp
  simp only [Sem.run_bind, this, Result.andThen_ok, Sem.run_pure]
theorem storeA_eq {T E : TypeId} {n : Nat} {z : Value} (H : ArrT T E n z) {w : World} {g N o : Nat} {f f' : Nat → Value} {t : TypeId} (hg : Blk w g N f t) (ho : o + n ≤ N) (h1 : ∀ i, i < n → (f' i).oneCell' = true) :
    ∃ w', storeA T (.pointer (some ⟨g, o, none⟩)) (.agg (fcells n f')) w = .ok .skip w' ∧ w.grownBy w' (some g) ∧ Blk w' g N (fun j => if o ≤ j ∧ j < o + n then f' (j - o) else f j) t ∧ w'.heap.size = w.heap.size := by
  obtain ⟨w', hr, h2, h3, h4⟩ := H.store_mid hg ho h1
  refine ⟨w', ?_, h2, h3, h4⟩
  unfold storeA execOp
  simp only [Sem.run_bind, hr, Result.andThen_ok, Sem.run_pure]
theorem wpList_store_mid_arr {T E : TypeId} {n : Nat} {z : Value} (H : ArrT T E n z) {ops : Array Oper} {rest : List Oper} {o : Oper} {a : Act} {w : World} {Q : Exit → Act → World → Prop} (hgd : o.guard = none) (x y : Operand) (ho : o.op = .store T x y)
    {g N off : Nat} {t : TypeId} {f f' : Nat → Value} (hx : a.eval x = .pointer (some ⟨g, off, none⟩)) (hy : a.eval y = .agg (fcells n f')) (hg : Blk w g N f t) (hN : off + n ≤ N) (h1 : ∀ i, i < n → (f' i).oneCell' = true)
    (hh : ∀ w', w.grownBy w' (some g) → Blk w' g N (fun j => if off ≤ j ∧ j < off + n then f' (j - off) else f j) t → w'.heap.size = w.heap.size → wpList Tryd.prog ops Q rest (a.put o.dst undef) w') : wpList Tryd.prog ops Q (o :: rest) a w := by
  obtain ⟨w', hr, h2, h3, h4⟩ := H.store_mid hg hN h1
  refine wpList_plain hgd fun _ hK => ?_
  unfold Oper.wp execOp
  simp only [ho, hx, hy, Sem.run_bind, hr, Result.andThen_ok, Sem.run_pure]
  exact hK _ _ (hh w' h2 h3 h4)
end Go.Proofs.YtakigopjbbhjkaaDoor
