/-
  AcWords AcMay AcRd: what each of them says stands at its head.
-/
import Derived.Test.YtjemfmbmlmogcaaGreatBs15
import Derived.Test.YtjemfmbmlmogcaaGreatBs12
import Derived.Test.YtjemfmbmlmogcaaGreatBs16
import Derived.Deep.DeepCutAuto
import Derived.LoopTactic
import Derived.Outline
import Derived.Test.YtjemfmbmlmogcaaGreatBs3
import Derived.Test.YtjemfmbmlmogcaaGreatBs13
namespace Go.Proofs.YtjemfmbmlmogcaaGreat
set_option maxRecDepth 20000
open Go.RowKit
def axl (a : AcM) (s : Value) : List Value := [.int .i64 a.bo, .int .i64 a.vi, .int .i64 a.pv] ++ (bcells a.pa ++ (s :: bcells a.tg))
def axc (a : AcM) (s : Value) : Array Value := (axl a s).toArray
theorem axl_length {a : AcM} (s : Value) (h : a.Ok) : (axl a s).length = 68 := by simp [axl, bcells_length, h.pa, h.tg]
theorem axc_size {a : AcM} (s : Value) (h : a.Ok) : (axc a s).size = 68 := by simp [axc, axl_length s h]
theorem axl_pre (a : AcM) (s : Value) : axl a s = [.int .i64 a.bo, .int .i64 a.vi, .int .i64 a.pv] ++ (bcells a.pa ++ ([s] ++ bcells a.tg)) := rfl
theorem axl_tag (a : AcM) (s : Value) : axl a s = ([.int .i64 a.bo, .int .i64 a.vi, .int .i64 a.pv] ++ (bcells a.pa ++ [s])) ++ (bcells a.tg ++ []) := by
  unfold axl
  simp only [List.append_assoc, List.append_nil, List.cons_append, List.nil_append]
def AcV (w : World) (v : Value) (a : AcM) : Prop := ∃ s, v = .agg (axc a s) ∧ a.Ok ∧ Els icl 1 w s a.fr
theorem AcV.below {w w' : World} {v : Value} {a : AcM} (h : AcV w v a) (hb : Below w.heap.size w w') : AcV w' v a := by
  obtain ⟨s, rfl, h1, h2⟩ := h
  exact ⟨s, rfl, h1, h2.below hb⟩
def BoxX (w : World) (g : Nat) (a : AcM) (s : Value) : Prop := w.heap[g]? = some (.cells (axc a s) 31 (0, 0))
section
variable {w w' : World} {g : Nat} {a : AcM} {s : Value}
theorem BoxX.new (w : World) (a : AcM) (s : Value) : BoxX (w.alloc (.cells (axc a s) 31)) w.heap.size a s := heap_alloc_new w _
theorem BoxX.lt (h : BoxX w g a s) : g < w.heap.size := lt_of_block h
theorem BoxX.below {B : Nat} (h : BoxX w g a s) (hb : Below B w w') (hg : g < B) : BoxX w' g a s := (hb.block g hg).trans h
theorem BoxX.free (h : BoxX w g a s) (i : Nat) : w.frozen? ⟨g, i, none⟩ = false := free_blk h i
theorem BoxX.cell (h : BoxX w g a s) (i : Nat) : w.cell? ⟨g, i, none⟩ = (axl a s)[i]? := by
  rw [cell_blk h i]
  unfold axc
  rw [List.getElem?_toArray]
theorem BoxX.ints (h : BoxX w g a s) : w.cell? ⟨g, 0, none⟩ = some (.int .i64 a.bo) ∧ w.cell? ⟨g, 1, none⟩ = some (.int .i64 a.vi) ∧ w.cell? ⟨g, 2, none⟩ = some (.int .i64 a.pv) :=
  ⟨h.cell 0, h.cell 1, h.cell 2⟩
theorem BoxX.fr (h : BoxX w g a s) (ho : a.Ok) : w.cell? ⟨g, 35, none⟩ = some s := by
  rw [h.cell, axl_pre, List.getElem?_append_right (by simp), List.getElem?_append_right (by rw [bcells_length, ho.pa]; simp)]
  rw [bcells_length, ho.pa]
  rfl
theorem BoxX.pa (h : BoxX w g a s) : w.rangeAt g 3 (bcells a.pa) := fun j u hu => by
  rw [h.cell, axl_pre, List.getElem?_append_right (by simp)]
  simp only [List.length_cons, List.length_nil]
  rw [show 3 + j - (0 + 1 + 1 + 1) = j from by omega, List.getElem?_append_left (List.getElem?_eq_some_iff.1 hu).1]
  exact hu
theorem BoxX.tg (h : BoxX w g a s) (ho : a.Ok) : w.rangeAt g 36 (bcells a.tg) := fun j u hu => by
  rw [h.cell, axl_tag, List.append_nil, List.getElem?_append_right (by simp only [List.length_append, bcells_length, ho.pa, List.length_cons, List.length_nil]; omega)]
  simp only [List.length_append, bcells_length, ho.pa, List.length_cons, List.length_nil]
  rw [show 36 + j - (0 + 1 + 1 + 1 + (32 + (0 + 1))) = j from by omega]
  exact hu
end
theorem axc_fr (a : AcM) (s v : Value) (ho : a.Ok) : (axc a s).setIfInBounds 35 v = axc a v := by
  unfold axc
  rw [List.setIfInBounds_toArray]
  congr 1
  unfold axl
  rw [List.set_append_right _ _ (by simp), List.set_append_right _ _ (by rw [bcells_length, ho.pa]; simp)]
  rw [bcells_length, ho.pa]
  rfl
section
variable {ops : Array Oper} {rest : List Oper} {o : Oper} {ac : Act} {w : World} {Q : Exit → Act → World → Prop}
theorem wpList_store_xpa (hgd : o.guard = none) (x y : Operand) (ho : o.op = .store 23 x y)
    {g : Nat} {a : AcM} {s : Value} {h : List UInt8} (hx : ac.eval x = .pointer (some ⟨g, 3, none⟩)) (hy : ac.eval y = .agg (hcells h)) (hg : BoxX w g a s) (hok : a.Ok) (hl : h.length = 32)
    (hh : ∀ w', w.grownBy w' (some g) → BoxX w' g { a with pa := h } s → w'.heap.size = w.heap.size → wpList Tryz.prog ops Q rest (ac.put o.dst undef) w') : wpList Tryz.prog ops Q (o :: rest) ac w := by
  unfold BoxX axc at hg
  rw [axl_pre] at hg
  refine wpList_store_midh hgd x y ho hx hy hg rfl (by rw [bcells_length, hok.pa]) hl (fun w' h1 h2 h3 => hh w' h1 ?_ h3)
  unfold BoxX axc
  rw [axl_pre]
  exact h2
theorem wpList_store_xtg (hgd : o.guard = none) (x y : Operand) (ho : o.op = .store 23 x y)
    {g : Nat} {a : AcM} {s : Value} {h : List UInt8} (hx : ac.eval x = .pointer (some ⟨g, 36, none⟩)) (hy : ac.eval y = .agg (hcells h)) (hg : BoxX w g a s) (hok : a.Ok) (hl : h.length = 32)
    (hh : ∀ w', w.grownBy w' (some g) → BoxX w' g { a with tg := h } s → w'.heap.size = w.heap.size → wpList Tryz.prog ops Q rest (ac.put o.dst undef) w') : wpList Tryz.prog ops Q (o :: rest) ac w := by
  unfold BoxX axc at hg
  rw [axl_tag] at hg
  refine wpList_store_midh hgd x y ho hx hy hg (by simp only [List.length_append, bcells_length, hok.pa, List.length_cons, List.length_nil]) (by rw [bcells_length, hok.tg]) hl (fun w' h1 h2 h3 => hh w' h1 ?_ h3)
  unfold BoxX axc
  rw [axl_tag]
  exact h2
end
noncomputable def loadAx (v : Value) (w : World) : Result Next := Sem.run Tryz.prog (execOp (fun _ => v) { dst := none, op := .load 31 (.tmp 0), type := 0, pos := "", after := #[], guard := none }) w
theorem exec_load_ax (r : Operand → Value) (x : Operand) (dst : Option Tmp) (ty : TypeId) (pos : String) (after : Array Edge) (guard : Option (Nat × Bool)) (w : World) :
    Sem.run Tryz.prog (execOp r { dst := dst, op := .load 31 x, type := ty, pos := pos, after := after, guard := guard }) w = loadAx (r x) w := rfl
theorem under_ax : Tryz.prog.underlying 31 = some (.struct (Tryz.prog.fieldsOf 31)) := by kernel_rfl
theorem size_ax : (Tryz.prog.info? 31).map (·.size) = some 68 := by kernel_rfl
theorem loadAx_row {w : World} {g : Nat} {C : Array Value} {T : TypeId} (h : w.heap[g]? = some (.cells C T (0, 0))) (hs : C.size = 68) : loadAx (.pointer (some ⟨g, 0, none⟩)) w = .ok (.value (.agg C)) w := by
  have := run_loadAt_mid (P := Tryz.prog) w g 0 31 C.toList _ (fun j v hj => by rw [Nat.zero_add, cell_blk h j]; simpa using hj) under_ax rfl (by rw [size_ax]; simp [hs])
  simp only [Array.toArray_toList] at this
  unfold loadAx execOp
  simp only [Sem.run_bind, this, Result.andThen_ok, Sem.run_pure]
theorem axc_one {w : World} {a : AcM} {s : Value} (h : Els icl 1 w s a.fr) : (axc a s).all (·.oneCell') = true := by
  obtain ⟨A, k, rfl, _⟩ := h
  unfold axc
  refine all_oneCell_toArray ?_
  intro u hu
  unfold axl at hu
  rcases List.mem_append.1 hu with hu | hu
  · simp only [List.mem_cons, List.not_mem_nil, or_false] at hu
    obtain rfl | rfl | rfl := hu <;> rfl
  · rcases List.mem_append.1 hu with hu | hu
    · exact bcells_one _ u hu
    · rcases List.mem_cons.1 hu with rfl | hu
      · rfl
      · exact bcells_one _ u hu
theorem zero_ax : (Tryz.prog.info? 31).bind (·.zero) = some (.agg (axc acZ (.slice none 0 0))) := by kernel_rfl
theorem run_zero_ax (w : World) : (zeroValue 31).run Tryz.prog w = .ok (.agg (axc acZ (.slice none 0 0))) w := by
  have h := zero_ax
  cases hq : Tryz.prog.info? 31 with
  | none => rw [hq] at h; cases h
  | some i =>
    rw [hq] at h
    have hz : i.zero = some (.agg (axc acZ (.slice none 0 0))) := h
    simp [zeroValue, typeInfo, hq, hz]
noncomputable def buildAx (w : World) : Result Next := Sem.run Tryz.prog (execOp (fun _ => undef) { dst := none, op := .build 31 #[], type := 0, pos := "", after := #[], guard := none }) w
theorem exec_build_ax (r : Operand → Value) (dst : Option Tmp) (ty : TypeId) (pos : String) (after : Array Edge) (guard : Option (Nat × Bool)) (w : World) :
    Sem.run Tryz.prog (execOp r { dst := dst, op := .build 31 #[], type := ty, pos := pos, after := after, guard := guard }) w = buildAx w := by
  unfold buildAx execOp
  simp
theorem buildAx_eq (w : World) : buildAx w = .ok (.value (.agg (axc acZ (.slice none 0 0)))) w := by
  unfold buildAx
  go_simp
  rfl
noncomputable def allocAx (w : World) : Result Next := Sem.run Tryz.prog (execOp (fun _ => undef) { dst := none, op := .alloc 31, type := 0, pos := "", after := #[], guard := none }) w
theorem exec_alloc_ax (r : Operand → Value) (dst : Option Tmp) (ty : TypeId) (pos : String) (after : Array Edge) (guard : Option (Nat × Bool)) (w : World) :
    Sem.run Tryz.prog (execOp r { dst := dst, op := .alloc 31, type := ty, pos := pos, after := after, guard := guard }) w = allocAx w := rfl
theorem allocAx_eq (w : World) : allocAx w = .ok (.value (.pointer (some ⟨w.heap.size, 0, none⟩))) (w.alloc (.cells (axc acZ (.slice none 0 0)) 31)) := by
  unfold allocAx execOp
  simp only [Sem.run_bind, Instr.alloc, run_zero_ax, newVar, newRow, run_newObj_alloc, Sem.run_pure, Result.andThen_ok, Value.cells]
noncomputable def storeAx (p v : Value) (w : World) : Result Next := Sem.run Tryz.prog (execOp (fun x => match x with
  | .tmp 0 => p
  | _ => v) { dst := none, op := .store 31 (.tmp 0) (.tmp 1), type := 0, pos := "", after := #[], guard := none }) w
theorem exec_store_ax (r : Operand → Value) (x y : Operand) (dst : Option Tmp) (ty : TypeId) (pos : String) (after : Array Edge) (guard : Option (Nat × Bool)) (w : World) :
    Sem.run Tryz.prog (execOp r { dst := dst, op := .store 31 x y, type := ty, pos := pos, after := after, guard := guard }) w = storeAx (r x) (r y) w := rfl
def setAx (w : World) (g : Nat) (C : Array Value) : World := w.setRow g C
theorem storeAx_eq {w : World} {g : Nat} {t : TypeId} {C0 C : Array Value} (hg : w.heap[g]? = some (.cells C0 t (0, 0))) (h0 : C0.size = 68) (hC : C.size = 68) (h1 : C.all (·.oneCell') = true) :
    storeAx (.pointer (some ⟨g, 0, none⟩)) (.agg C) w = .ok .skip (setAx w g C) := by
  have := run_storeVar_row (P := Tryz.prog) w g t 31 C0 C hg (by rw [size_ax, hC]) (by rw [h0, hC]) h1
  unfold storeAx execOp
  simp only [Instr.storeAt, Instr.sureAddr, Sem.run_bind, Sem.run_pure, Result.andThen_ok, this]
  rfl
theorem setAx_other (w : World) {g k : Nat} (C : Array Value) (hk : k ≠ g) : (setAx w g C).heap[k]? = w.heap[k]? := setRow_other w g k _ hk
theorem setAx_same {w : World} {g : Nat} {t : TypeId} {C0 C : Array Value} (hg : w.heap[g]? = some (.cells C0 t (0, 0))) : (setAx w g C).heap[g]? = some (.cells C t (0, 0)) := setRow_heap w g _ _ t _ hg
theorem setAx_self {w : World} {g : Nat} {t : TypeId} {C : Array Value} {fr : Nat × Nat} (hg : w.heap[g]? = some (.cells C t fr)) : setAx w g C = w := by
  have e : ∀ f : Obj → Obj, f (.cells C t fr) = .cells C t fr → w.heap.modify g f = w.heap := by
    intro f hf
    apply Array.ext_getElem?
    intro k
    rw [Array.getElem?_modify]
    by_cases h : g = k
    · subst h
      rw [if_pos rfl, hg]
      simp [hf]
    · rw [if_neg h]
  unfold setAx World.setRow
  rw [e _ rfl]
theorem setAx_alloc (w : World) (T : TypeId) (C0 C : Array Value) : setAx (w.alloc (.cells C0 T)) w.heap.size C = w.alloc (.cells C T) := by
  have hm : ∀ (a : Array Obj) (x : Obj) (f : Obj → Obj), (a.push x).modify a.size f = a.push (f x) := by
    intro a x f
    apply Array.ext_getElem?
    intro k
    rw [Array.getElem?_modify]
    by_cases h : a.size = k
    · subst h
      simp
    · rw [if_neg h, Array.getElem?_push, Array.getElem?_push]
      rw [if_neg (fun e => h e.symm), if_neg (fun e => h e.symm)]
  unfold setAx World.setRow World.alloc
  simp only [hm]
end Go.Proofs.YtjemfmbmlmogcaaGreat
namespace Go.Proofs.YtjemfmbmlmogcaaGreat
set_option maxRecDepth 20000
open Go.RowKit
set_option maxHeartbeats 3200000 in
theorem refMay10_any (v : Value) (a : AcM) (w : World) (hv : AcV w v a) :
    Calls Tryz.prog 23 #[v] w fun e w' => e = .returned (.bool (mayX a)) ∧ Below w.heap.size w w' := by
  obtain ⟨s, rfl, ho, he⟩ := hv
  obtain ⟨A, c, rfl⟩ := he.shape
  obtain ⟨l, HFR⟩ : ∃ l : List Int, Hid (a.fr = l) := ⟨_, hid rfl⟩
  rw [HFR.out] at he ⊢
  obtain ⟨L, HL⟩ : ∃ n : Nat, Hid (l.length = n) := ⟨_, hid rfl⟩
  obtain ⟨ans, HAN⟩ : ∃ q : Bool, Hid (risesI 21 0 l = q) := ⟨_, hid rfl⟩
  obtain ⟨m, HMX⟩ : ∃ q : Bool, Hid (mayX a = q) := ⟨_, hid rfl⟩
  have HMA : Hid (m = (ans && decide (1 ≤ a.bo ∧ a.bo ≤ 21 ∧ 1 ≤ a.vi ∧ a.vi ≤ 1099511627776 ∧ 0 ≤ a.pv ∧ a.pv < a.vi ∧ 1 ≤ L))) := hid (by rw [← HMX.out, ← HAN.out, ← HL.out, ← HFR.out]; rfl)
  have hb0 : Below w.heap.size w (w.alloc (.cells (axc a (.slice A l.length c)) 31)) := (Below.refl _ _).alloc (Nat.le_refl _) _
  have hX := BoxX.new w a (.slice A l.length c)
  have hlen := he.len
  unfold maxLen at hlen
  have hc1 := he.at_.2.1
  have hc2 := he.at_.2.2.1
  have HV := hid (fun W (h : Below w.heap.size w W) => he.below h)
  rw [HL.out] at hlen hc1 hX hb0 HV ⊢
  rw [HMX.out]
  unfold maxLen at hc2
  obtain ⟨C, HC⟩ : ∃ C : Array Value, Hid (axc a (.slice A L c) = C) := ⟨_, hid rfl⟩
  rw [HC.out] at hX hb0 ⊢
  clear he
  go_enter Tryz.func23, Tryz.ntmps23
  go_upto_region 1 with (fail)
  generalize (w.alloc (.cells C 31)) = w0 at *
  have hl0 := hX.lt
  have HB0 := hid hb0
  have HX : Hid (∀ W, Below w0.heap.size w0 W → W.cell? ⟨w.heap.size, 35, none⟩ = some (.slice A L c) ∧ W.cell? ⟨w.heap.size, 0, none⟩ = some (.int .i64 a.bo) ∧ W.cell? ⟨w.heap.size, 1, none⟩ = some (.int .i64 a.vi) ∧ W.cell? ⟨w.heap.size, 2, none⟩ = some (.int .i64 a.pv)) := hid (fun W h => by
    have := hX.below h hl0
    exact ⟨this.fr ho, this.ints⟩)
  clear hX hl0 hb0 HC ho
  go_wp2_with fail
  go_loopw [3] (fun si wr => ∃ (i : Nat) (last : Int), i ≤ L ∧ si = .int .i64 i ∧ 0 ≤ last ∧ Hid (ans = risesI 21 last (l.drop i)) ∧ ((i = 0 ∧ last = 0) ∨ (∃ k, i = k + 1 ∧ ∃ h : k < l.length, l[k] = last)) ∧ Below w0.heap.size w0 wr) (fun si _ => L - (intOf si).toNat)
  case atStart => exact ⟨0, 0, Nat.zero_le _, rfl, Int.le_refl _, hid (by rw [List.drop_zero]; exact HAN.out.symm), .inl ⟨rfl, rfl⟩, Below.refl _ _⟩
  case round =>
    obtain ⟨i, last, hi, rfl, hlast, HR, hpre, hbr⟩ := hrel
    have hBR := HB0.out.trans (hbr.mono HB0.out.size)
    by_cases hlt : i < L
    · have hil : i < l.length := by rw [HL.out]; exact hlt
      obtain ⟨g, o, rfl, hg, hcl⟩ := (HV.out wr hBR).at_.2.2.2 (by omega)
      have HST : Hid (ans = ((decide (last < l[i]) && decide (l[i] ≤ 21)) && risesI 21 l[i] (l.drop (i + 1)))) := hid (by
        rw [HR.out, List.drop_eq_getElem_cons hil]
        rfl)
      obtain ⟨b, HBB⟩ : ∃ b : Int, Hid (l[i] = b) := ⟨_, hid rfl⟩
      have K : ∀ k (h : k < l.length), wr.drew.cell? ⟨g, o + k, none⟩ = some (.int .i64 l[k]) := fun k h => by
        have := hcl k h 0 _ rfl
        rwa [Nat.mul_one, Nat.add_zero] at this
      have hc : wr.drew.cell? ⟨g, o + i, none⟩ = some (.int .i64 b) := by rw [← HBB.out]; exact K i hil
      have k4 := (HX.out wr hbr).1
      have k4d := (HX.out wr.drew hbr.drew).1
      rw [HBB.out] at HST
      have hI : (i : Int) < (L : Int) := by omega
      have hbd := hBR.drew
      have hbw := hbr.drew
      by_cases h1 : b < 1
      · obtain rfl : ans = false := by rw [HST.out, decide_eq_false (by omega)]; rfl
        obtain rfl : m = false := HMA.out
        clear hcl K
        go_upto_region 4 with (fail)
        refine wp_region_held_drew (S := fun W => W.cell? ⟨w.heap.size, 35, none⟩ = some (.slice (some ⟨g, o, none⟩) L c) ∧ W.cell? ⟨g, o + i, none⟩ = some (.int .i64 b)) (by kernel_rfl) ⟨k4d, hc⟩ (fun hHeld => ?_)
        refine' tk (i := 0) (v := _) rfl ?_ ?_
        rotate_left
        · (intro W hW; (try dsimp only at hW); obtain ⟨hW1, hW2⟩ := hW; go_simp; first | done | with_reducible rfl)
        try simp only [lay]
        refine' tk (i := 1) (v := _) rfl ?_ ?_
        rotate_left
        · (intro W hW; (try dsimp only at hW); obtain ⟨hW1, hW2⟩ := hW; go_simp; first | done | with_reducible rfl)
        try simp only [lay]
        refine' tk (i := 2) (v := _) rfl ?_ ?_
        rotate_left
        · (intro W hW; (try dsimp only at hW); obtain ⟨hW1, hW2⟩ := hW; go_simp; first | done | with_reducible rfl)
        try simp only [lay]
        refine' tk (i := 3) (v := _) rfl ?_ ?_
        rotate_left
        · (intro W hW; (try dsimp only at hW); obtain ⟨hW1, hW2⟩ := hW; go_simp; first | done | with_reducible rfl)
        try simp only [lay]
        refine' tk (i := 4) (v := _) rfl ?_ ?_
        rotate_left
        · (intro W hW; (try dsimp only at hW); obtain ⟨hW1, hW2⟩ := hW; go_simp; first | done | with_reducible rfl)
        try simp only [lay]
        refine' tk (i := 5) (v := _) rfl ?_ ?_
        rotate_left
        · (intro W hW; (try dsimp only at hW); obtain ⟨hW1, hW2⟩ := hW; go_simp; first | done | with_reducible rfl)
        try simp only [lay]
        refine' tk (i := 6) (v := _) rfl ?_ ?_
        rotate_left
        · (intro W hW; (try dsimp only at hW); obtain ⟨hW1, hW2⟩ := hW; go_simp; first | done | with_reducible rfl)
        try simp only [lay]
        refine tf (i := 7) rfl ?_
        try simp only [lay]
        refine tf (i := 8) rfl ?_
        try simp only [lay]
        refine tf (i := 9) rfl ?_
        try simp only [lay]
        refine tf (i := 10) rfl ?_
        try simp only [lay]
        refine tf (i := 11) rfl ?_
        try simp only [lay]
        refine tf (i := 12) rfl ?_
        try simp only [lay]
        refine' tk (i := 13) (v := _) rfl ?_ ?_
        rotate_left
        · (intro W hW; (try dsimp only at hW); obtain ⟨hW1, hW2⟩ := hW; go_simp; first | done | with_reducible rfl)
        try simp only [lay]
        refine' tk (i := 14) (v := _) rfl ?_ ?_
        rotate_left
        · (intro W hW; (try dsimp only at hW); obtain ⟨hW1, hW2⟩ := hW; go_simp; first | done | with_reducible rfl)
        try simp only [lay]
        refine tf (i := 15) rfl ?_
        try simp only [lay]
        refine tf (i := 16) rfl ?_
        try simp only [lay]
        refine tf (i := 17) rfl ?_
        try simp only [lay]
        refine tf (i := 18) rfl ?_
        try simp only [lay]
        refine tf (i := 19) rfl ?_
        try simp only [lay]
        refine tf (i := 20) rfl ?_
        try simp only [lay]
        refine tf (i := 21) rfl ?_
        try simp only [lay]
        refine tf (i := 22) rfl ?_
        try simp only [lay]
        refine tf (i := 23) rfl ?_
        try simp only [lay]
        refine tf (i := 24) rfl ?_
        try simp only [lay]
        refine tf (i := 25) rfl ?_
        try simp only [lay]
        refine tf (i := 26) rfl ?_
        try simp only [lay]
        refine tf (i := 27) rfl ?_
        try simp only [lay]
        refine tf (i := 28) rfl ?_
        try simp only [lay]
        refine tf (i := 29) rfl ?_
        try simp only [lay]
        refine tf (i := 30) rfl ?_
        try simp only [lay]
        refine' tk (i := 31) (v := _) rfl ?_ ?_
        rotate_left
        · (intro W hW; (try dsimp only at hW); obtain ⟨hW1, hW2⟩ := hW; go_simp; first | done | with_reducible rfl)
        try simp only [lay]
        refine wpAnyH_done (by kernel_rfl) ?_ _
        go_wp2_with fail
        go_ret
        exact ⟨rfl, hbd⟩
      · by_cases h2 : 21 < b
        · obtain rfl : ans = false := by rw [HST.out, decide_eq_false (show ¬ b ≤ 21 by omega), Bool.and_false]; rfl
          obtain rfl : m = false := HMA.out
          clear hcl K
          go_upto_region 4 with (fail)
          refine wp_region_held_drew (S := fun W => W.cell? ⟨w.heap.size, 35, none⟩ = some (.slice (some ⟨g, o, none⟩) L c) ∧ W.cell? ⟨g, o + i, none⟩ = some (.int .i64 b)) (by kernel_rfl) ⟨k4d, hc⟩ (fun hHeld => ?_)
          refine' tk (i := 0) (v := _) rfl ?_ ?_
          rotate_left
          · (intro W hW; (try dsimp only at hW); obtain ⟨hW1, hW2⟩ := hW; go_simp; first | done | with_reducible rfl)
          try simp only [lay]
          refine' tk (i := 1) (v := _) rfl ?_ ?_
          rotate_left
          · (intro W hW; (try dsimp only at hW); obtain ⟨hW1, hW2⟩ := hW; go_simp; first | done | with_reducible rfl)
          try simp only [lay]
          refine' tk (i := 2) (v := _) rfl ?_ ?_
          rotate_left
          · (intro W hW; (try dsimp only at hW); obtain ⟨hW1, hW2⟩ := hW; go_simp; first | done | with_reducible rfl)
          try simp only [lay]
          refine' tk (i := 3) (v := _) rfl ?_ ?_
          rotate_left
          · (intro W hW; (try dsimp only at hW); obtain ⟨hW1, hW2⟩ := hW; go_simp; first | done | with_reducible rfl)
          try simp only [lay]
          refine' tk (i := 4) (v := _) rfl ?_ ?_
          rotate_left
          · (intro W hW; (try dsimp only at hW); obtain ⟨hW1, hW2⟩ := hW; go_simp; first | done | with_reducible rfl)
          try simp only [lay]
          refine' tk (i := 5) (v := _) rfl ?_ ?_
          rotate_left
          · (intro W hW; (try dsimp only at hW); obtain ⟨hW1, hW2⟩ := hW; go_simp; first | done | with_reducible rfl)
          try simp only [lay]
          refine' tk (i := 6) (v := _) rfl ?_ ?_
          rotate_left
          · (intro W hW; (try dsimp only at hW); obtain ⟨hW1, hW2⟩ := hW; go_simp; first | done | with_reducible rfl)
          try simp only [lay]
          refine' tk (i := 7) (v := _) rfl ?_ ?_
          rotate_left
          · (intro W hW; (try dsimp only at hW); obtain ⟨hW1, hW2⟩ := hW; go_simp; first | done | with_reducible rfl)
          try simp only [lay]
          refine' tk (i := 8) (v := _) rfl ?_ ?_
          rotate_left
          · (intro W hW; (try dsimp only at hW); obtain ⟨hW1, hW2⟩ := hW; go_simp; first | done | with_reducible rfl)
          try simp only [lay]
          refine' tk (i := 9) (v := _) rfl ?_ ?_
          rotate_left
          · (intro W hW; (try dsimp only at hW); obtain ⟨hW1, hW2⟩ := hW; go_simp; first | done | with_reducible rfl)
          try simp only [lay]
          refine' tk (i := 10) (v := _) rfl ?_ ?_
          rotate_left
          · (intro W hW; (try dsimp only at hW); obtain ⟨hW1, hW2⟩ := hW; go_simp; first | done | with_reducible rfl)
          try simp only [lay]
          refine' tk (i := 11) (v := _) rfl ?_ ?_
          rotate_left
          · (intro W hW; (try dsimp only at hW); obtain ⟨hW1, hW2⟩ := hW; go_simp; first | done | with_reducible rfl)
          try simp only [lay]
          refine' tk (i := 12) (v := _) rfl ?_ ?_
          rotate_left
          · (intro W hW; (try dsimp only at hW); obtain ⟨hW1, hW2⟩ := hW; go_simp; first | done | with_reducible rfl)
          try simp only [lay]
          refine' tk (i := 13) (v := _) rfl ?_ ?_
          rotate_left
          · (intro W hW; (try dsimp only at hW); obtain ⟨hW1, hW2⟩ := hW; go_simp; first | done | with_reducible rfl)
          try simp only [lay]
          refine' tk (i := 14) (v := _) rfl ?_ ?_
          rotate_left
          · (intro W hW; (try dsimp only at hW); obtain ⟨hW1, hW2⟩ := hW; go_simp; first | done | with_reducible rfl)
          try simp only [lay]
          refine tf (i := 15) rfl ?_
          try simp only [lay]
          refine tf (i := 16) rfl ?_
          try simp only [lay]
          refine tf (i := 17) rfl ?_
          try simp only [lay]
          refine tf (i := 18) rfl ?_
          try simp only [lay]
          refine tf (i := 19) rfl ?_
          try simp only [lay]
          refine tf (i := 20) rfl ?_
          try simp only [lay]
          refine tf (i := 21) rfl ?_
          try simp only [lay]
          refine tf (i := 22) rfl ?_
          try simp only [lay]
          refine tf (i := 23) rfl ?_
          try simp only [lay]
          refine tf (i := 24) rfl ?_
          try simp only [lay]
          refine tf (i := 25) rfl ?_
          try simp only [lay]
          refine tf (i := 26) rfl ?_
          try simp only [lay]
          refine tf (i := 27) rfl ?_
          try simp only [lay]
          refine tf (i := 28) rfl ?_
          try simp only [lay]
          refine tf (i := 29) rfl ?_
          try simp only [lay]
          refine tf (i := 30) rfl ?_
          try simp only [lay]
          refine' tk (i := 31) (v := _) rfl ?_ ?_
          rotate_left
          · (intro W hW; (try dsimp only at hW); obtain ⟨hW1, hW2⟩ := hW; go_simp; first | done | with_reducible rfl)
          try simp only [lay]
          refine wpAnyH_done (by kernel_rfl) ?_ _
          go_wp2_with fail
          go_ret
          exact ⟨rfl, hbd⟩
        · rcases hpre with ⟨rfl, rfl⟩ | ⟨k, rfl, hk, rfl⟩
          · clear hcl K
            rw [Nat.add_zero] at hc
            go_upto_region 4 with (fail)
            refine wp_region_held_drew (S := fun W => W.cell? ⟨w.heap.size, 35, none⟩ = some (.slice (some ⟨g, o, none⟩) L c) ∧ W.cell? ⟨g, o, none⟩ = some (.int .i64 b)) (by kernel_rfl) ⟨k4d, hc⟩ (fun hHeld => ?_)
            refine' tk (i := 0) (v := _) rfl ?_ ?_
            rotate_left
            · (intro W hW; (try dsimp only at hW); obtain ⟨hW1, hW2⟩ := hW; go_simp; first | done | with_reducible rfl)
            try simp only [lay]
            refine' tk (i := 1) (v := _) rfl ?_ ?_
            rotate_left
            · (intro W hW; (try dsimp only at hW); obtain ⟨hW1, hW2⟩ := hW; go_simp; first | done | with_reducible rfl)
            try simp only [lay]
            refine' tk (i := 2) (v := _) rfl ?_ ?_
            rotate_left
            · (intro W hW; (try dsimp only at hW); obtain ⟨hW1, hW2⟩ := hW; go_simp; first | done | with_reducible rfl)
            try simp only [lay]
            refine' tk (i := 3) (v := _) rfl ?_ ?_
            rotate_left
            · (intro W hW; (try dsimp only at hW); obtain ⟨hW1, hW2⟩ := hW; go_simp; first | done | with_reducible rfl)
            try simp only [lay]
            refine' tk (i := 4) (v := _) rfl ?_ ?_
            rotate_left
            · (intro W hW; (try dsimp only at hW); obtain ⟨hW1, hW2⟩ := hW; go_simp; first | done | with_reducible rfl)
            try simp only [lay]
            refine' tk (i := 5) (v := _) rfl ?_ ?_
            rotate_left
            · (intro W hW; (try dsimp only at hW); obtain ⟨hW1, hW2⟩ := hW; go_simp; first | done | with_reducible rfl)
            try simp only [lay]
            refine' tk (i := 6) (v := _) rfl ?_ ?_
            rotate_left
            · (intro W hW; (try dsimp only at hW); obtain ⟨hW1, hW2⟩ := hW; go_simp; first | done | with_reducible rfl)
            try simp only [lay]
            refine' tk (i := 7) (v := _) rfl ?_ ?_
            rotate_left
            · (intro W hW; (try dsimp only at hW); obtain ⟨hW1, hW2⟩ := hW; go_simp; first | done | with_reducible rfl)
            try simp only [lay]
            refine' tk (i := 8) (v := _) rfl ?_ ?_
            rotate_left
            · (intro W hW; (try dsimp only at hW); obtain ⟨hW1, hW2⟩ := hW; go_simp; first | done | with_reducible rfl)
            try simp only [lay]
            refine' tk (i := 9) (v := _) rfl ?_ ?_
            rotate_left
            · (intro W hW; (try dsimp only at hW); obtain ⟨hW1, hW2⟩ := hW; go_simp; first | done | with_reducible rfl)
            try simp only [lay]
            refine' tk (i := 10) (v := _) rfl ?_ ?_
            rotate_left
            · (intro W hW; (try dsimp only at hW); obtain ⟨hW1, hW2⟩ := hW; go_simp; first | done | with_reducible rfl)
            try simp only [lay]
            refine' tk (i := 11) (v := _) rfl ?_ ?_
            rotate_left
            · (intro W hW; (try dsimp only at hW); obtain ⟨hW1, hW2⟩ := hW; go_simp; first | done | with_reducible rfl)
            try simp only [lay]
            refine' tk (i := 12) (v := _) rfl ?_ ?_
            rotate_left
            · (intro W hW; (try dsimp only at hW); obtain ⟨hW1, hW2⟩ := hW; go_simp; first | done | with_reducible rfl)
            try simp only [lay]
            refine' tk (i := 13) (v := _) rfl ?_ ?_
            rotate_left
            · (intro W hW; (try dsimp only at hW); obtain ⟨hW1, hW2⟩ := hW; go_simp; first | done | with_reducible rfl)
            try simp only [lay]
            refine' tk (i := 14) (v := _) rfl ?_ ?_
            rotate_left
            · (intro W hW; (try dsimp only at hW); obtain ⟨hW1, hW2⟩ := hW; go_simp; first | done | with_reducible rfl)
            try simp only [lay]
            refine' tk (i := 15) (v := _) rfl ?_ ?_
            rotate_left
            · (intro W hW; (try dsimp only at hW); obtain ⟨hW1, hW2⟩ := hW; go_simp; first | done | with_reducible rfl)
            try simp only [lay]
            refine' tk (i := 16) (v := _) rfl ?_ ?_
            rotate_left
            · (intro W hW; (try dsimp only at hW); obtain ⟨hW1, hW2⟩ := hW; go_simp; first | done | with_reducible rfl)
            try simp only [lay]
            refine' tk (i := 17) (v := _) rfl ?_ ?_
            rotate_left
            · (intro W hW; (try dsimp only at hW); obtain ⟨hW1, hW2⟩ := hW; go_simp; first | done | with_reducible rfl)
            try simp only [lay]
            refine tf (i := 18) rfl ?_
            try simp only [lay]
            refine tf (i := 19) rfl ?_
            try simp only [lay]
            refine tf (i := 20) rfl ?_
            try simp only [lay]
            refine tf (i := 21) rfl ?_
            try simp only [lay]
            refine tf (i := 22) rfl ?_
            try simp only [lay]
            refine tf (i := 23) rfl ?_
            try simp only [lay]
            refine tf (i := 24) rfl ?_
            try simp only [lay]
            refine tf (i := 25) rfl ?_
            try simp only [lay]
            refine tf (i := 26) rfl ?_
            try simp only [lay]
            refine tf (i := 27) rfl ?_
            try simp only [lay]
            refine tf (i := 28) rfl ?_
            try simp only [lay]
            refine tf (i := 29) rfl ?_
            try simp only [lay]
            refine' tk (i := 30) (v := _) rfl ?_ ?_
            rotate_left
            · (intro W hW; (try dsimp only at hW); obtain ⟨hW1, hW2⟩ := hW; go_simp; first | done | with_reducible rfl)
            try simp only [lay]
            refine' tk (i := 31) (v := _) rfl ?_ ?_
            rotate_left
            · (intro W hW; (try dsimp only at hW); obtain ⟨hW1, hW2⟩ := hW; go_simp; first | done | with_reducible rfl)
            try simp only [lay]
            refine wpAnyH_done (by kernel_rfl) ?_ _
            go_wp2_with fail
            go_roundw
            case rel => exact ⟨0 + 1, b, by omega, by go_num, by omega, hid (by rw [HST.out, decide_eq_true (by omega), decide_eq_true (by omega)]; simp), .inr ⟨0, rfl, hil, HBB.out⟩, hbw⟩
            case measure => simp [intOf]; omega
          · obtain ⟨p, HPP⟩ : ∃ p : Int, Hid (l[k] = p) := ⟨_, hid rfl⟩
            have hd : wr.drew.cell? ⟨g, o + k, none⟩ = some (.int .i64 p) := by rw [← HPP.out]; exact K k hk
            rw [HPP.out] at HST hlast
            have hkL : (k : Int) < (L : Int) := by omega
            have hk1 : (0 : Int) < ((k + 1 : Nat) : Int) := by omega
            have hwk : IntKind.i64.wrap (((k + 1 : Nat) : Int) - 1) = (k : Int) := by rw [IntKind.wrap_i64]; omega
            have hk2 : (0 : Int) < (k : Int) + 1 := by omega
            have hk0 : (0 : Int) ≤ (k : Int) + 1 := by omega
            have hI2 : (k : Int) + 1 < (L : Int) := by omega
            have hwk2 : IntKind.i64.wrap ((k : Int) + 1 - 1) = (k : Int) := by rw [IntKind.wrap_i64]; omega
            have hwk3 : IntKind.i64.wrap (k : Int) = (k : Int) := by rw [IntKind.wrap_i64]; omega
            by_cases h3 : p < b
            · have h3' : ¬ b ≤ p := by omega
              clear hcl K
              go_upto_region 4 with (fail)
              refine wp_region_held_drew (S := fun W => W.cell? ⟨w.heap.size, 35, none⟩ = some (.slice (some ⟨g, o, none⟩) L c) ∧ W.cell? ⟨g, o + (k + 1), none⟩ = some (.int .i64 b) ∧ W.cell? ⟨g, o + k, none⟩ = some (.int .i64 p)) (by kernel_rfl) ⟨k4d, hc, hd⟩ (fun hHeld => ?_)
              refine' tk (i := 0) (v := _) rfl ?_ ?_
              rotate_left
              · (intro W hW; (try dsimp only at hW); obtain ⟨hW1, hW2, hW3⟩ := hW; go_simp; first | done | with_reducible rfl)
              try simp only [lay]
              refine' tk (i := 1) (v := _) rfl ?_ ?_
              rotate_left
              · (intro W hW; (try dsimp only at hW); obtain ⟨hW1, hW2, hW3⟩ := hW; go_simp; first | done | with_reducible rfl)
              try simp only [lay]
              refine' tk (i := 2) (v := _) rfl ?_ ?_
              rotate_left
              · (intro W hW; (try dsimp only at hW); obtain ⟨hW1, hW2, hW3⟩ := hW; go_simp; first | done | with_reducible rfl)
              try simp only [lay]
              refine' tk (i := 3) (v := _) rfl ?_ ?_
              rotate_left
              · (intro W hW; (try dsimp only at hW); obtain ⟨hW1, hW2, hW3⟩ := hW; go_simp; first | done | with_reducible rfl)
              try simp only [lay]
              refine' tk (i := 4) (v := _) rfl ?_ ?_
              rotate_left
              · (intro W hW; (try dsimp only at hW); obtain ⟨hW1, hW2, hW3⟩ := hW; go_simp; first | done | with_reducible rfl)
              try simp only [lay]
              refine' tk (i := 5) (v := _) rfl ?_ ?_
              rotate_left
              · (intro W hW; (try dsimp only at hW); obtain ⟨hW1, hW2, hW3⟩ := hW; go_simp; first | done | with_reducible rfl)
              try simp only [lay]
              refine' tk (i := 6) (v := _) rfl ?_ ?_
              rotate_left
              · (intro W hW; (try dsimp only at hW); obtain ⟨hW1, hW2, hW3⟩ := hW; go_simp; first | done | with_reducible rfl)
              try simp only [lay]
              refine' tk (i := 7) (v := _) rfl ?_ ?_
              rotate_left
              · (intro W hW; (try dsimp only at hW); obtain ⟨hW1, hW2, hW3⟩ := hW; go_simp; first | done | with_reducible rfl)
              try simp only [lay]
              refine' tk (i := 8) (v := _) rfl ?_ ?_
              rotate_left
              · (intro W hW; (try dsimp only at hW); obtain ⟨hW1, hW2, hW3⟩ := hW; go_simp; first | done | with_reducible rfl)
              try simp only [lay]
              refine' tk (i := 9) (v := _) rfl ?_ ?_
              rotate_left
              · (intro W hW; (try dsimp only at hW); obtain ⟨hW1, hW2, hW3⟩ := hW; go_simp; first | done | with_reducible rfl)
              try simp only [lay]
              refine' tk (i := 10) (v := _) rfl ?_ ?_
              rotate_left
              · (intro W hW; (try dsimp only at hW); obtain ⟨hW1, hW2, hW3⟩ := hW; go_simp; first | done | with_reducible rfl)
              try simp only [lay]
              refine' tk (i := 11) (v := _) rfl ?_ ?_
              rotate_left
              · (intro W hW; (try dsimp only at hW); obtain ⟨hW1, hW2, hW3⟩ := hW; go_simp; first | done | with_reducible rfl)
              try simp only [lay]
              refine' tk (i := 12) (v := _) rfl ?_ ?_
              rotate_left
              · (intro W hW; (try dsimp only at hW); obtain ⟨hW1, hW2, hW3⟩ := hW; go_simp; first | done | with_reducible rfl)
              try simp only [lay]
              refine' tk (i := 13) (v := _) rfl ?_ ?_
              rotate_left
              · (intro W hW; (try dsimp only at hW); obtain ⟨hW1, hW2, hW3⟩ := hW; go_simp; first | done | with_reducible rfl)
              try simp only [lay]
              refine' tk (i := 14) (v := _) rfl ?_ ?_
              rotate_left
              · (intro W hW; (try dsimp only at hW); obtain ⟨hW1, hW2, hW3⟩ := hW; go_simp; first | done | with_reducible rfl)
              try simp only [lay]
              refine' tk (i := 15) (v := _) rfl ?_ ?_
              rotate_left
              · (intro W hW; (try dsimp only at hW); obtain ⟨hW1, hW2, hW3⟩ := hW; go_simp; first | done | with_reducible rfl)
              try simp only [lay]
              refine' tk (i := 16) (v := _) rfl ?_ ?_
              rotate_left
              · (intro W hW; (try dsimp only at hW); obtain ⟨hW1, hW2, hW3⟩ := hW; go_simp; first | done | with_reducible rfl)
              try simp only [lay]
              refine' tk (i := 17) (v := _) rfl ?_ ?_
              rotate_left
              · (intro W hW; (try dsimp only at hW); obtain ⟨hW1, hW2, hW3⟩ := hW; go_simp; first | done | with_reducible rfl)
              try simp only [lay]
              refine' tk (i := 18) (v := _) rfl ?_ ?_
              rotate_left
              · (intro W hW; (try dsimp only at hW); obtain ⟨hW1, hW2, hW3⟩ := hW; go_simp; first | done | with_reducible rfl)
              try simp only [lay]
              refine' tk (i := 19) (v := _) rfl ?_ ?_
              rotate_left
              · (intro W hW; (try dsimp only at hW); obtain ⟨hW1, hW2, hW3⟩ := hW; go_simp; first | done | with_reducible rfl)
              try simp only [lay]
              refine' tk (i := 20) (v := _) rfl ?_ ?_
              rotate_left
              · (intro W hW; (try dsimp only at hW); obtain ⟨hW1, hW2, hW3⟩ := hW; go_simp; first | done | with_reducible rfl)
              try simp only [lay]
              refine' tk (i := 21) (v := _) rfl ?_ ?_
              rotate_left
              · (intro W hW; (try dsimp only at hW); obtain ⟨hW1, hW2, hW3⟩ := hW; go_simp; first | done | with_reducible rfl)
              try simp only [lay]
              refine' tk (i := 22) (v := _) rfl ?_ ?_
              rotate_left
              · (intro W hW; (try dsimp only at hW); obtain ⟨hW1, hW2, hW3⟩ := hW; go_simp; first | done | with_reducible rfl)
              try simp only [lay]
              refine' tk (i := 23) (v := _) rfl ?_ ?_
              rotate_left
              · (intro W hW; (try dsimp only at hW); obtain ⟨hW1, hW2, hW3⟩ := hW; go_simp; first | done | with_reducible rfl)
              try simp only [lay]
              refine' tk (i := 24) (v := _) rfl ?_ ?_
              rotate_left
              · (intro W hW; (try dsimp only at hW); obtain ⟨hW1, hW2, hW3⟩ := hW; go_simp; first | done | with_reducible rfl)
              try simp only [lay]
              refine' tk (i := 25) (v := _) rfl ?_ ?_
              rotate_left
              · (intro W hW; (try dsimp only at hW); obtain ⟨hW1, hW2, hW3⟩ := hW; go_simp; first | done | with_reducible rfl)
              try simp only [lay]
              refine' tk (i := 26) (v := _) rfl ?_ ?_
              rotate_left
              · (intro W hW; (try dsimp only at hW); obtain ⟨hW1, hW2, hW3⟩ := hW; go_simp; first | done | with_reducible rfl)
              try simp only [lay]
              refine' tk (i := 27) (v := _) rfl ?_ ?_
              rotate_left
              · (intro W hW; (try dsimp only at hW); obtain ⟨hW1, hW2, hW3⟩ := hW; go_simp; first | done | with_reducible rfl)
              try simp only [lay]
              refine' tk (i := 28) (v := _) rfl ?_ ?_
              rotate_left
              · (intro W hW; (try dsimp only at hW); obtain ⟨hW1, hW2, hW3⟩ := hW; go_simp; first | done | with_reducible rfl)
              try simp only [lay]
              refine' tk (i := 29) (v := _) rfl ?_ ?_
              rotate_left
              · (intro W hW; (try dsimp only at hW); obtain ⟨hW1, hW2, hW3⟩ := hW; go_simp; first | done | with_reducible rfl)
              try simp only [lay]
              refine' tk (i := 30) (v := _) rfl ?_ ?_
              rotate_left
              · (intro W hW; (try dsimp only at hW); obtain ⟨hW1, hW2, hW3⟩ := hW; go_simp; first | done | with_reducible rfl)
              try simp only [lay]
              refine' tk (i := 31) (v := _) rfl ?_ ?_
              rotate_left
              · (intro W hW; (try dsimp only at hW); obtain ⟨hW1, hW2, hW3⟩ := hW; go_simp; first | done | with_reducible rfl)
              try simp only [lay]
              refine wpAnyH_done (by kernel_rfl) ?_ _
              go_wp2_with fail
              go_roundw
              case rel => exact ⟨k + 1 + 1, b, by omega, by go_num, by omega, hid (by rw [HST.out, decide_eq_true h3, decide_eq_true (by omega)]; simp), .inr ⟨k + 1, rfl, hil, HBB.out⟩, hbw⟩
              case measure => simp [intOf]; omega
            · have h3' : b ≤ p := by omega
              obtain rfl : ans = false := by rw [HST.out, decide_eq_false h3]; rfl
              obtain rfl : m = false := HMA.out
              clear hcl K
              go_upto_region 4 with (fail)
              refine wp_region_held_drew (S := fun W => W.cell? ⟨w.heap.size, 35, none⟩ = some (.slice (some ⟨g, o, none⟩) L c) ∧ W.cell? ⟨g, o + (k + 1), none⟩ = some (.int .i64 b) ∧ W.cell? ⟨g, o + k, none⟩ = some (.int .i64 p)) (by kernel_rfl) ⟨k4d, hc, hd⟩ (fun hHeld => ?_)
              refine' tk (i := 0) (v := _) rfl ?_ ?_
              rotate_left
              · (intro W hW; (try dsimp only at hW); obtain ⟨hW1, hW2, hW3⟩ := hW; go_simp; first | done | with_reducible rfl)
              try simp only [lay]
              refine' tk (i := 1) (v := _) rfl ?_ ?_
              rotate_left
              · (intro W hW; (try dsimp only at hW); obtain ⟨hW1, hW2, hW3⟩ := hW; go_simp; first | done | with_reducible rfl)
              try simp only [lay]
              refine' tk (i := 2) (v := _) rfl ?_ ?_
              rotate_left
              · (intro W hW; (try dsimp only at hW); obtain ⟨hW1, hW2, hW3⟩ := hW; go_simp; first | done | with_reducible rfl)
              try simp only [lay]
              refine' tk (i := 3) (v := _) rfl ?_ ?_
              rotate_left
              · (intro W hW; (try dsimp only at hW); obtain ⟨hW1, hW2, hW3⟩ := hW; go_simp; first | done | with_reducible rfl)
              try simp only [lay]
              refine' tk (i := 4) (v := _) rfl ?_ ?_
              rotate_left
              · (intro W hW; (try dsimp only at hW); obtain ⟨hW1, hW2, hW3⟩ := hW; go_simp; first | done | with_reducible rfl)
              try simp only [lay]
              refine' tk (i := 5) (v := _) rfl ?_ ?_
              rotate_left
              · (intro W hW; (try dsimp only at hW); obtain ⟨hW1, hW2, hW3⟩ := hW; go_simp; first | done | with_reducible rfl)
              try simp only [lay]
              refine' tk (i := 6) (v := _) rfl ?_ ?_
              rotate_left
              · (intro W hW; (try dsimp only at hW); obtain ⟨hW1, hW2, hW3⟩ := hW; go_simp; first | done | with_reducible rfl)
              try simp only [lay]
              refine' tk (i := 7) (v := _) rfl ?_ ?_
              rotate_left
              · (intro W hW; (try dsimp only at hW); obtain ⟨hW1, hW2, hW3⟩ := hW; go_simp; first | done | with_reducible rfl)
              try simp only [lay]
              refine' tk (i := 8) (v := _) rfl ?_ ?_
              rotate_left
              · (intro W hW; (try dsimp only at hW); obtain ⟨hW1, hW2, hW3⟩ := hW; go_simp; first | done | with_reducible rfl)
              try simp only [lay]
              refine' tk (i := 9) (v := _) rfl ?_ ?_
              rotate_left
              · (intro W hW; (try dsimp only at hW); obtain ⟨hW1, hW2, hW3⟩ := hW; go_simp; first | done | with_reducible rfl)
              try simp only [lay]
              refine' tk (i := 10) (v := _) rfl ?_ ?_
              rotate_left
              · (intro W hW; (try dsimp only at hW); obtain ⟨hW1, hW2, hW3⟩ := hW; go_simp; first | done | with_reducible rfl)
              try simp only [lay]
              refine' tk (i := 11) (v := _) rfl ?_ ?_
              rotate_left
              · (intro W hW; (try dsimp only at hW); obtain ⟨hW1, hW2, hW3⟩ := hW; go_simp; first | done | with_reducible rfl)
              try simp only [lay]
              refine' tk (i := 12) (v := _) rfl ?_ ?_
              rotate_left
              · (intro W hW; (try dsimp only at hW); obtain ⟨hW1, hW2, hW3⟩ := hW; go_simp; first | done | with_reducible rfl)
              try simp only [lay]
              refine' tk (i := 13) (v := _) rfl ?_ ?_
              rotate_left
              · (intro W hW; (try dsimp only at hW); obtain ⟨hW1, hW2, hW3⟩ := hW; go_simp; first | done | with_reducible rfl)
              try simp only [lay]
              refine' tk (i := 14) (v := _) rfl ?_ ?_
              rotate_left
              · (intro W hW; (try dsimp only at hW); obtain ⟨hW1, hW2, hW3⟩ := hW; go_simp; first | done | with_reducible rfl)
              try simp only [lay]
              refine' tk (i := 15) (v := _) rfl ?_ ?_
              rotate_left
              · (intro W hW; (try dsimp only at hW); obtain ⟨hW1, hW2, hW3⟩ := hW; go_simp; first | done | with_reducible rfl)
              try simp only [lay]
              refine' tk (i := 16) (v := _) rfl ?_ ?_
              rotate_left
              · (intro W hW; (try dsimp only at hW); obtain ⟨hW1, hW2, hW3⟩ := hW; go_simp; first | done | with_reducible rfl)
              try simp only [lay]
              refine' tk (i := 17) (v := _) rfl ?_ ?_
              rotate_left
              · (intro W hW; (try dsimp only at hW); obtain ⟨hW1, hW2, hW3⟩ := hW; go_simp; first | done | with_reducible rfl)
              try simp only [lay]
              refine' tk (i := 18) (v := _) rfl ?_ ?_
              rotate_left
              · (intro W hW; (try dsimp only at hW); obtain ⟨hW1, hW2, hW3⟩ := hW; go_simp; first | done | with_reducible rfl)
              try simp only [lay]
              refine' tk (i := 19) (v := _) rfl ?_ ?_
              rotate_left
              · (intro W hW; (try dsimp only at hW); obtain ⟨hW1, hW2, hW3⟩ := hW; go_simp; first | done | with_reducible rfl)
              try simp only [lay]
              refine' tk (i := 20) (v := _) rfl ?_ ?_
              rotate_left
              · (intro W hW; (try dsimp only at hW); obtain ⟨hW1, hW2, hW3⟩ := hW; go_simp; first | done | with_reducible rfl)
              try simp only [lay]
              refine' tk (i := 21) (v := _) rfl ?_ ?_
              rotate_left
              · (intro W hW; (try dsimp only at hW); obtain ⟨hW1, hW2, hW3⟩ := hW; go_simp; first | done | with_reducible rfl)
              try simp only [lay]
              refine' tk (i := 22) (v := _) rfl ?_ ?_
              rotate_left
              · (intro W hW; (try dsimp only at hW); obtain ⟨hW1, hW2, hW3⟩ := hW; go_simp; first | done | with_reducible rfl)
              try simp only [lay]
              refine' tk (i := 23) (v := _) rfl ?_ ?_
              rotate_left
              · (intro W hW; (try dsimp only at hW); obtain ⟨hW1, hW2, hW3⟩ := hW; go_simp; first | done | with_reducible rfl)
              try simp only [lay]
              refine' tk (i := 24) (v := _) rfl ?_ ?_
              rotate_left
              · (intro W hW; (try dsimp only at hW); obtain ⟨hW1, hW2, hW3⟩ := hW; go_simp; first | done | with_reducible rfl)
              try simp only [lay]
              refine' tk (i := 25) (v := _) rfl ?_ ?_
              rotate_left
              · (intro W hW; (try dsimp only at hW); obtain ⟨hW1, hW2, hW3⟩ := hW; go_simp; first | done | with_reducible rfl)
              try simp only [lay]
              refine' tk (i := 26) (v := _) rfl ?_ ?_
              rotate_left
              · (intro W hW; (try dsimp only at hW); obtain ⟨hW1, hW2, hW3⟩ := hW; go_simp; first | done | with_reducible rfl)
              try simp only [lay]
              refine' tk (i := 27) (v := _) rfl ?_ ?_
              rotate_left
              · (intro W hW; (try dsimp only at hW); obtain ⟨hW1, hW2, hW3⟩ := hW; go_simp; first | done | with_reducible rfl)
              try simp only [lay]
              refine' tk (i := 28) (v := _) rfl ?_ ?_
              rotate_left
              · (intro W hW; (try dsimp only at hW); obtain ⟨hW1, hW2, hW3⟩ := hW; go_simp; first | done | with_reducible rfl)
              try simp only [lay]
              refine' tk (i := 29) (v := _) rfl ?_ ?_
              rotate_left
              · (intro W hW; (try dsimp only at hW); obtain ⟨hW1, hW2, hW3⟩ := hW; go_simp; first | done | with_reducible rfl)
              try simp only [lay]
              refine' tk (i := 30) (v := _) rfl ?_ ?_
              rotate_left
              · (intro W hW; (try dsimp only at hW); obtain ⟨hW1, hW2, hW3⟩ := hW; go_simp; first | done | with_reducible rfl)
              try simp only [lay]
              refine' tk (i := 31) (v := _) rfl ?_ ?_
              rotate_left
              · (intro W hW; (try dsimp only at hW); obtain ⟨hW1, hW2, hW3⟩ := hW; go_simp; first | done | with_reducible rfl)
              try simp only [lay]
              refine wpAnyH_done (by kernel_rfl) ?_ _
              go_wp2_with fail
              go_ret
              exact ⟨rfl, hbd⟩
    · obtain rfl : i = L := by omega
      obtain rfl : ans = true := by rw [HR.out, List.drop_eq_nil_of_le (by rw [HL.out]; exact Nat.le_refl _)]; rfl
      obtain ⟨k4, k0, k1, k2⟩ := HX.out wr hbr
      have hI : ¬ (i : Int) < (i : Int) := by omega
      obtain ⟨bo, vi, pv, pa, fr, tg⟩ := a
      simp only at k0 k1 k2 HMA
      clear hpre hlast HR hlen hc1 hc2
      go_wp2_with fail
      all_goals
        go_ret
        refine ⟨?_, hBR⟩
        refine congrArg (fun b => Ending.returned (Value.bool b)) ?_
        rw [HMA.out]
        simp only [Bool.true_and]
      all_goals grind
end Go.Proofs.YtjemfmbmlmogcaaGreat
namespace Go.Proofs.YtjemfmbmlmogcaaGreat
set_option maxRecDepth 20000
open Go.RowKit
structure AxSt (w0 w : World) (x0 x1 x2 : Value) (a : AcM) (s : Value) : Prop where
  bel : Below w0.heap.size w0 w
  b0 : w.heap[w0.heap.size]? = some (.cells #[x0, x1, x2] 83 (0, 0))
  b1 : w.heap[w0.heap.size + 1]? = some (.cells #[.slice none 0 0, .int .i64 0, .bool false] 83 (0, 0))
  b2 : BoxX w (w0.heap.size + 1 + 1) acZ (.slice none 0 0)
  b3 : BoxX w (w0.heap.size + 1 + 1 + 1) a s
section
variable {w0 w w' : World} {x0 x1 x2 s : Value} {a : AcM}
theorem AxSt.lt (h : AxSt w0 w x0 x1 x2 a s) : w0.heap.size + 1 + 1 + 1 < w.heap.size := lt_of_block h.b3
theorem AxSt.below (h : AxSt w0 w x0 x1 x2 a s) (hb : Below w.heap.size w w') : AxSt w0 w' x0 x1 x2 a s := by
  have hlt := h.lt
  exact ⟨h.bel.trans (hb.mono h.bel.size), (hb.block _ (by omega)).trans h.b0, (hb.block _ (by omega)).trans h.b1, (hb.block _ (by omega)).trans h.b2, (hb.block _ hlt).trans h.b3⟩
theorem AxSt.new (w : World) (x0 x1 x2 : Value) :
    AxSt w ((((w.alloc (.cells #[x0, x1, x2] 83)).alloc (.cells #[.slice none 0 0, .int .i64 0, .bool false] 83)).alloc (.cells (axc acZ (.slice none 0 0)) 31)).alloc (.cells (axc acZ (.slice none 0 0)) 31)) x0 x1 x2 acZ (.slice none 0 0) :=
  ⟨four_below _ _ _ _ _, four_0 _ _ _ _ _, four_1 _ _ _ _ _, four_2 _ _ _ _ _, four_3 _ _ _ _ _⟩
theorem AxSt.put (h : AxSt w0 w x0 x1 x2 a s) (y0 y1 y2 : Value) :
    AxSt w0 (((w.setCell ⟨w0.heap.size, 0, none⟩ y0).setCell ⟨w0.heap.size, 1, none⟩ y1).setCell ⟨w0.heap.size, 2, none⟩ y2) y0 y1 y2 a s := by
  refine ⟨((h.bel.setCell (Nat.le_refl _) _).setCell (Nat.le_refl _) _).setCell (Nat.le_refl _) _, ?_, ?_, ?_, ?_⟩
  · exact set_blk (set_blk (set_blk h.b0 0 y0) 1 y1) 2 y2
  · exact blk_other (blk_other (blk_other h.b1 y0 (by omega)) y1 (by omega)) y2 (by omega)
  · exact blk_other (blk_other (blk_other h.b2 y0 (by omega)) y1 (by omega)) y2 (by omega)
  · exact blk_other (blk_other (blk_other h.b3 y0 (by omega)) y1 (by omega)) y2 (by omega)
theorem AxSt.cell (h : AxSt w0 w x0 x1 x2 a s) {b : AcM} {v t : Value} (i : Nat) (e : (axc a s).setIfInBounds i v = axc b t) : AxSt w0 (w.setCell ⟨w0.heap.size + 1 + 1 + 1, i, none⟩ v) x0 x1 x2 b t := by
  refine ⟨h.bel.setCell (by simp only; omega) _, blk_other h.b0 _ (by omega), blk_other h.b1 _ (by omega), blk_other h.b2 _ (by omega), ?_⟩
  have := set_blk h.b3 i v
  rw [e] at this
  exact this
theorem AxSt.far (h : AxSt w0 w x0 x1 x2 a s) {g : Nat} (hg : w0.heap.size + 1 + 1 + 1 < g) (i : Nat) (v : Value) : AxSt w0 (w.setCell ⟨g, i, none⟩ v) x0 x1 x2 a s :=
  ⟨h.bel.setCell (by simp only; omega) _, blk_other h.b0 _ (by omega), blk_other h.b1 _ (by omega), blk_other h.b2 _ (by omega), blk_other h.b3 _ (by omega)⟩
theorem AxSt.grown (h : AxSt w0 w x0 x1 x2 a s) {g : Option Nat} (hg : w.grownBy w' g) (hB : ∀ k, g = some k → w0.heap.size + 1 + 1 + 1 < k) : AxSt w0 w' x0 x1 x2 a s := by
  have hlt := h.lt
  refine ⟨h.bel.grown hg h.bel.size (fun k hk => by have := hB k hk; omega), ?_, ?_, ?_, ?_⟩
  · exact (hg.block _ (by omega) (fun e => by have := hB _ e.symm; omega)).trans h.b0
  · exact (hg.block _ (by omega) (fun e => by have := hB _ e.symm; omega)).trans h.b1
  · exact (hg.block _ (by omega) (fun e => by have := hB _ e.symm; omega)).trans h.b2
  · exact (hg.block _ hlt (fun e => by have := hB _ e.symm; omega)).trans h.b3
theorem AxSt.att (h : AxSt w0 w x0 x1 x2 a s) {b : AcM} {v : Value} (hg : w.grownBy w' (some (w0.heap.size + 1 + 1 + 1))) (hb : BoxX w' (w0.heap.size + 1 + 1 + 1) b v) : AxSt w0 w' x0 x1 x2 b v := by
  have hlt := h.lt
  refine ⟨h.bel.grown hg h.bel.size (fun k hk => by injection hk with hk; omega), ?_, ?_, ?_, hb⟩
  · exact (hg.block _ (by omega) (fun e => by injection e with e; omega)).trans h.b0
  · exact (hg.block _ (by omega) (fun e => by injection e with e; omega)).trans h.b1
  · exact (hg.block _ (by omega) (fun e => by injection e with e; omega)).trans h.b2
theorem AxSt.cells (h : AxSt w0 w x0 x1 x2 a s) (ho : a.Ok) :
    (w.cell? ⟨w0.heap.size, 0, none⟩ = some x0 ∧ w.cell? ⟨w0.heap.size, 1, none⟩ = some x1 ∧ w.cell? ⟨w0.heap.size, 2, none⟩ = some x2) ∧
    (w.cell? ⟨w0.heap.size + 1 + 1 + 1, 0, none⟩ = some (.int .i64 a.bo) ∧ w.cell? ⟨w0.heap.size + 1 + 1 + 1, 1, none⟩ = some (.int .i64 a.vi) ∧ w.cell? ⟨w0.heap.size + 1 + 1 + 1, 2, none⟩ = some (.int .i64 a.pv) ∧ w.cell? ⟨w0.heap.size + 1 + 1 + 1, 35, none⟩ = some s) ∧
    (∀ i, w.frozen? ⟨w0.heap.size, i, none⟩ = false) ∧ (∀ i, w.frozen? ⟨w0.heap.size + 1 + 1 + 1, i, none⟩ = false) :=
  ⟨⟨cell_blk h.b0 0, cell_blk h.b0 1, cell_blk h.b0 2⟩, ⟨h.b3.ints.1, h.b3.ints.2.1, h.b3.ints.2.2, h.b3.fr ho⟩, free_blk h.b0, h.b3.free⟩
end
end Go.Proofs.YtjemfmbmlmogcaaGreat
