/-
  AtWords AtEq AtTagged AtTag AtCodeSign AtCodeRight AtArg SeEq SeMay SeCodeMay SeCodeTagged SeTagged SePut: what each of them says stands at its head.
-/
import Derived.Test.YtghophbabbaleaaGreatDoorBs10
namespace Go.Proofs.YtghophbabbaleaaGreatDoor
set_option maxRecDepth 20000
open Go.RowKit
noncomputable def loadAtt (v : Value) (w : World) : Result Next := Sem.run Tryz.prog (execOp (fun _ => v) { dst := none, op := .load 52 (.tmp 0), type := 0, pos := "", after := #[], guard := none }) w
theorem exec_load_att (r : Operand → Value) (x : Operand) (dst : Option Tmp) (ty : TypeId) (pos : String) (after : Array Edge) (guard : Option (Nat × Bool)) (w : World) :
    Sem.run Tryz.prog (execOp r { dst := dst, op := .load 52 x, type := ty, pos := pos, after := after, guard := guard }) w = loadAtt (r x) w := rfl
noncomputable def allocAtt (w : World) : Result Next := Sem.run Tryz.prog (execOp (fun _ => undef) { dst := none, op := .alloc 52, type := 0, pos := "", after := #[], guard := none }) w
theorem exec_alloc_att (r : Operand → Value) (dst : Option Tmp) (ty : TypeId) (pos : String) (after : Array Edge) (guard : Option (Nat × Bool)) (w : World) :
    Sem.run Tryz.prog (execOp r { dst := dst, op := .alloc 52, type := ty, pos := pos, after := after, guard := guard }) w = allocAtt w := rfl
noncomputable def storeAtt (p v : Value) (w : World) : Result Next := Sem.run Tryz.prog (execOp (fun x => match x with
  | .tmp 0 => p
  | _ => v) { dst := none, op := .store 52 (.tmp 0) (.tmp 1), type := 0, pos := "", after := #[], guard := none }) w
theorem exec_store_att (r : Operand → Value) (x y : Operand) (dst : Option Tmp) (ty : TypeId) (pos : String) (after : Array Edge) (guard : Option (Nat × Bool)) (w : World) :
    Sem.run Tryz.prog (execOp r { dst := dst, op := .store 52 x y, type := ty, pos := pos, after := after, guard := guard }) w = storeAtt (r x) (r y) w := rfl
end Go.Proofs.YtghophbabbaleaaGreatDoor
namespace Go.Proofs.YtghophbabbaleaaGreatDoor
set_option maxRecDepth 20000
open Go.RowKit
theorem eq_hash_at (d : Nat) (a b : List UInt8) (ha : a.length = 32) (hb : b.length = 32) (w : World) : (Op.equalIn (d + 2) 38 (.agg (hcells a)) (.agg (hcells b))).run Tryz.prog w = .ok (decide (a = b)) w := by
  obtain ⟨i0, hi, _⟩ := info_parts info_u8
  rw [run_equalIn_array w (d + 1) (hcells a) (hcells b) under_hash hi, eqItems_bytes d a b w _ (fun i h => by have := List.mem_range.1 h; omega)]
  congr 1
  rw [Bool.eq_iff_iff]
  simp only [List.all_eq_true, List.mem_range, decide_eq_true_eq]
  constructor
  · intro h
    apply List.ext_getElem?
    intro i
    by_cases h32 : i < 32
    · exact h i h32
    · rw [List.getElem?_eq_none (by omega), List.getElem?_eq_none (by omega)]
  · rintro rfl i _
    rfl
def eqF (d : Nat) (xs ys : Array Value) : List (TypeId × Nat × Bool) → Sem Bool
  | [] => pure true
  | (t, o, s) :: fs =>
    if s = true then eqF d xs ys fs
    else do
      let a ← Go.part t xs o
      let b ← Go.part t ys o
      let r ← Op.equalIn d t a b
      if (!r) = true then pure false else eqF d xs ys fs
theorem eqF_of (d : Nat) (xs ys : Array Value) : ∀ fs : List Field, Op.eqFields d xs ys fs = eqF d xs ys (fs.map fun f => (f.type, f.offset, f.name == "_"))
  | [] => rfl
  | f :: fs => by
    unfold Op.eqFields
    rw [eqF_of d xs ys fs, List.map_cons]
    conv => rhs; unfold eqF
    by_cases h : f.name = "_" <;> simp [h]
theorem eqF_step {P : Program} {d : Nat} {xs ys : Array Value} {t : TypeId} {o : Nat} {fs : List (TypeId × Nat × Bool)} {w : World} {u v : Value} {r : Bool} (h1 : (Go.part t xs o).run P w = .ok u w) (h2 : (Go.part t ys o).run P w = .ok v w)
    (h3 : (Op.equalIn d t u v).run P w = .ok r w) : (eqF d xs ys ((t, o, false) :: fs)).run P w = if r = true then (eqF d xs ys fs).run P w else .ok false w := by
  conv => lhs; unfold eqF
  simp only [Bool.false_eq_true, if_false, Sem.run_bind, h1, h2, h3, Result.andThen_ok]
  cases r <;> rfl
theorem under_att_int : Tryz.prog.underlying 3 = some (.int .i64) := by kernel_rfl
theorem part_att_hash {w : World} {C : Array Value} {o : Nat} {l : List UInt8} (h : (C.toList.drop o).take 32 = bcells l) : (Go.part 38 C o).run Tryz.prog w = .ok (.agg (hcells l)) w := by
  have hz := size_hash
  obtain ⟨i, hi, hs⟩ := Option.map_eq_some_iff.1 hz
  have hc : Tryz.prog.cellsOf 38 = 32 := by kernel_rfl
  have e : C.extract o (o + 32) = hcells l := by
    apply Array.ext'
    rw [hcells_list, ← h, Array.toList_extract, List.extract_eq_take_drop]
    simp
  unfold Go.part
  simp only [Sem.run_bind, isAgg, run_underlying under_hash, Result.andThen_ok, run_sizeOf w hi, hc, e, Sem.run_pure, if_true]
theorem part_att_int {w : World} {C : Array Value} {o : Nat} {v : Value} (h : C[o]? = some v) : (Go.part 3 C o).run Tryz.prog w = .ok v w := run_part_plain (P := Tryz.prog) w (by kernel_rfl) h
theorem drop_at {α : Type} {l pre m post : List α} {o : Nat} (e : l = pre ++ (m ++ post)) (ho : pre.length = o) (hm : m.length = 32) : (l.drop o).take 32 = m := by
  subst e ho
  rw [List.drop_left, ← hm, List.take_left]
end Go.Proofs.YtghophbabbaleaaGreatDoor
namespace Go.Proofs.YtghophbabbaleaaGreatDoor
set_option maxRecDepth 20000
open Go.RowKit
attribute [local go_sem ↓] exec_load_hash
theorem one_own (w : World) (n : Nat) (h : n < 256) : Own w.heap.size (w.alloc (.cells #[.int .u8 (n : Int)] 5)) (.slice (some ⟨w.heap.size, 0, none⟩) 1 1) [UInt8.ofNat n] :=
  own_of_blk (l := [UInt8.ofNat n]) (by
    have e : (n : Int) = ((UInt8.ofNat n).toNat : Int) := by rw [UInt8.toNat_ofNat']; omega
    rw [e]
    exact heap_alloc_new w _) (Nat.le_refl _) rfl (by unfold maxLen; omega)
end Go.Proofs.YtghophbabbaleaaGreatDoor
namespace Go.Proofs.YtghophbabbaleaaGreatDoor
set_option maxRecDepth 20000
open Go.RowKit
attribute [local go_sem ↓] exec_load_hash exec_load_att exec_alloc_att exec_store_att
theorem wp_store_arrH {op : Oper} {a : Act} {w : World} {K : Act → World → Prop} {Q : Exit → Act → World → Prop} (x y : Operand) (ho : op.op = .store 38 x y) {g : Nat} {t : TypeId} {f f' : Nat → Value}
    (hx : a.eval x = .pointer (some ⟨g, 0, none⟩)) (hy : a.eval y = .agg (fcells 32 f')) (hg : Blk w g 32 f t) (h1 : ∀ i, i < 32 → (f' i).oneCell' = true)
    (hh : ∀ w', w.grownBy w' (some g) → Blk w' g 32 f' t → w'.heap.size = w.heap.size → K (a.put op.dst undef) w') : op.wp Tryz.prog a w K Q := by
  obtain ⟨w', hrun, hgr, hb, hs⟩ := arrH.store_mid (o := 0) (f' := f') hg (by omega) h1
  unfold Oper.wp execOp
  simp only [ho, hx, hy, Sem.run_bind, hrun, Result.andThen_ok, Sem.run_pure]
  exact hh w' hgr (hb.congr fun i hi => by rw [if_pos ⟨Nat.zero_le _, by omega⟩, Nat.sub_zero]) hs
end Go.Proofs.YtghophbabbaleaaGreatDoor
namespace Go.Proofs.YtghophbabbaleaaGreatDoor
set_option maxRecDepth 20000
open Go.RowKit
attribute [local go_sem ↓] exec_load_att exec_alloc_att exec_store_att exec_build_hash
theorem tag_one (i : Int) (d : UInt8) (v0 : Value) (l0 : List UInt8) (gp c : Nat) (w : World) (hg : gp < w.heap.size) (h0 : w.cell? ⟨gp, 0, none⟩ = some v0) (b0 : Byt w v0 l0) (hl : l0.length ≤ 1000000) (hK : Kst 1 w) :
    Calls Tryz.prog 74 #[.int .i64 i, .int .u8 (d.toNat : Int), .slice (some ⟨gp, 0, none⟩) 1 c] w fun e w' => e = .returned (.agg (hcells (Go.Proofs.YtghophbabbaleaaGreatDoor.hl 32 (tagF i d l0)))) ∧ Below w.heap.size w w' := by
  have h := tag_any i d [l0] (fun _ => v0) gp 1 c w rfl hg (fun j hj => by
    match j, hj with
    | 0, _ => exact h0) (fun j hj => by
    match j, hj with
    | 0, _ => exact b0) (by simpa using hl) (by omega) hK
  have e : ([l0] : List (List UInt8)).flatten = l0 := by simp
  rw [e, fcells_hl] at h
  exact h
theorem alloc_cell0 (w : World) (x : Value) (T : TypeId) : (w.alloc (.cells #[x] T)).cell? ⟨w.heap.size, 0, none⟩ = some x := by simp
end Go.Proofs.YtghophbabbaleaaGreatDoor
namespace Go.Proofs.YtghophbabbaleaaGreatDoor
set_option maxRecDepth 20000
open Go.RowKit
attribute [local go_sem ↓] exec_load_att exec_load_hash
theorem check_hash (i : Int) (d : UInt8) (t : List UInt8) (ht : t.length = 32) (v0 : Value) (l0 : List UInt8) (gp c : Nat) (w : World) (hg : gp < w.heap.size) (h0 : w.cell? ⟨gp, 0, none⟩ = some v0) (b0 : Byt w v0 l0) (hl0 : l0.length ≤ 1000000) (hK : Kst 1 w) :
    Calls Tryz.prog 84 #[.int .i64 i, .int .u8 (d.toNat : Int), .agg (hcells t), .slice (some ⟨gp, 0, none⟩) 1 c] w fun e w' => e = .returned (.bool (nodeB i && decide (t = hl 32 (tagF i d l0)))) ∧ Below w.heap.size w w' := by
  have e : ([l0] : List (List UInt8)).flatten = l0 := by simp
  have h := check_any i d (fun j => t.getD j 0) [l0] (fun _ => v0) gp 1 c w rfl hg (fun j hj => by
    obtain rfl : j = 0 := by omega
    exact h0) (fun j hj => by
    have hj2 : j < 1 := hj
    obtain rfl : j = 0 := by omega
    exact b0) (by rw [e]; omega) (by omega) hK
  have et : hl 32 (fun j => t.getD j 0) = t := by
    apply List.ext_getElem
    · rw [hl_length, ht]
    · intro j h1 h2
      rw [hl_get]
      simp [List.getD, h2]
  rw [e, fcells_hl, et] at h
  unfold checkB sameB at h
  rw [et] at h
  exact h
end Go.Proofs.YtghophbabbaleaaGreatDoor
namespace Go.Proofs.YtghophbabbaleaaGreatDoor
set_option maxRecDepth 20000
open Go.ChangeShapes Go.WideShapes Go.ChangeAt Go.RowKit Go.Deep
theorem drop_part {α : Type} {cs l : List α} {o k : Nat} (h : (cs.drop o).take k = l) : cs.drop o = l ++ cs.drop (o + k) := by
  conv => lhs; rw [← List.take_append_drop k (cs.drop o), List.drop_drop, h]
end Go.Proofs.YtghophbabbaleaaGreatDoor
namespace Go.Proofs.YtghophbabbaleaaGreatDoor
set_option maxRecDepth 20000
open Go.RowKit
theorem fields_se : (Tryz.prog.fieldsOf 40).toList.map (fun f => (f.type, f.offset, f.name == "_")) =
    [(3, 0, false), (3, 1, false), (3, 2, false), (38, 3, false)] := by kernel_rfl
set_option maxHeartbeats 1600000 in
theorem eq_se (a b : SeM) (ho : a.Ok) (hp : b.Ok) (w : World) : (Op.equalIn 10000 40 (.agg (sec a)) (.agg (sec b))).run Tryz.prog w = .ok (decide (a = b)) w := by
  have K : ∀ c : SeM, c.Ok → (sec c)[0]? = some (.int .i64 c.vi) ∧ (sec c)[1]? = some (.int .i64 c.ph) ∧ (sec c)[2]? = some (.int .i64 c.pv) ∧ ((sec c).toList.drop 3).take 32 = bcells c.pa := by
    intro c hc
    refine ⟨rfl, rfl, rfl, ?_⟩
    exact drop_at (pre := [.int .i64 c.vi, .int .i64 c.ph, .int .i64 c.pv]) (m := bcells c.pa) (post := []) (by show sel c = _; rw [List.append_nil]; rfl) rfl (by rw [bcells_length]; exact hc)
  obtain ⟨a0, a1, a2, a3⟩ := K a ho
  obtain ⟨b0, b1, b2, b3⟩ := K b hp
  have EI : ∀ x y : Int, (Op.equalIn 9999 3 (.int .i64 x) (.int .i64 y)).run Tryz.prog w = .ok (x == y) w := fun x y => run_equalIn_int (P := Tryz.prog) w 9998 3 .i64 .i64 x y under_att_int
  rw [run_equalIn_struct w 9999 _ _ _ under_se (by kernel_rfl), eqF_of, fields_se]
  rw [eqF_step (part_att_int a0) (part_att_int b0) (EI _ _), eqF_step (part_att_int a1) (part_att_int b1) (EI _ _), eqF_step (part_att_int a2) (part_att_int b2) (EI _ _), eqF_step (part_att_hash a3) (part_att_hash b3) (eq_hash_at 9997 _ _ ho hp w)]
  obtain ⟨p1, p2, p3, p4⟩ := a
  obtain ⟨q1, q2, q3, q4⟩ := b
  simp only [eqF, Sem.run_pure, SeM.mk.injEq, beq_iff_eq, decide_eq_true_eq]
  (repeat' split) <;> simp_all
noncomputable def eqSe (u v : Value) (w : World) : Result Next := Sem.run Tryz.prog (execOp (fun x => match x with
  | .tmp 0 => u
  | _ => v) { dst := none, op := .binOp .eql 40 (.tmp 0) (.tmp 1) 40, type := 0, pos := "", after := #[], guard := none }) w
theorem exec_eq_se (r : Operand → Value) (i j : Tmp) (dst : Option Tmp) (ty : TypeId) (pos : String) (after : Array Edge) (guard : Option (Nat × Bool)) (w : World) :
    Sem.run Tryz.prog (execOp r { dst := dst, op := .binOp .eql 40 (.tmp i) (.tmp j) 40, type := ty, pos := pos, after := after, guard := guard }) w = eqSe (r (.tmp i)) (r (.tmp j)) w := rfl
theorem eqSe_eq (a b : SeM) (ho : a.Ok) (hp : b.Ok) (w : World) : eqSe (.agg (sec a)) (.agg (sec b)) w = .ok (.value (.bool (decide (a = b)))) w := by
  have heq := fun W => eq_se a b ho hp W
  obtain ⟨q, HQ⟩ : ∃ q : Bool, Hid (decide (a = b) = q) := ⟨_, hid rfl⟩
  obtain ⟨C, HC⟩ : ∃ C : Array Value, Hid (sec a = C) := ⟨_, hid rfl⟩
  obtain ⟨D, HD⟩ : ∃ C : Array Value, Hid (sec b = C) := ⟨_, hid rfl⟩
  rw [HQ.out, HC.out, HD.out] at heq
  rw [HQ.out, HC.out, HD.out]
  unfold eqSe
  go_simp
end Go.Proofs.YtghophbabbaleaaGreatDoor
namespace Go.Proofs.YtghophbabbaleaaGreatDoor
set_option maxRecDepth 20000
open Go.RowKit
attribute [local go_sem ↓] exec_load_se exec_build_se exec_eq_se
set_option maxHeartbeats 3200000 in
theorem refMay13_any (s : SeM) (w : World) (ho : s.Ok) :
    Calls Tryz.prog 15 #[.agg (sec s)] w fun e w' => e = .returned (.bool (mayS s)) ∧ Below w.heap.size w w' := by
  have hb0 : Below w.heap.size w (w.alloc (.cells (sec s) 40)) := (Below.refl _ _).alloc (Nat.le_refl _) _
  have hA := BoxSe.new w s
  have heq : ∀ W, eqSe (.agg (sec s)) (.agg (sec seZ)) W = .ok (.value (.bool (decide (s = seZ)))) W := fun W => eqSe_eq s seZ ho seZ_ok W
  have hbz := buildSe_eq
  have hl0 := loadSe_eq hA ho
  obtain ⟨C, HC⟩ : ∃ C : Array Value, Hid (sec s = C) := ⟨_, hid rfl⟩
  obtain ⟨Z, HZ⟩ : ∃ C : Array Value, Hid (sec seZ = C) := ⟨_, hid rfl⟩
  obtain ⟨q, HQ⟩ : ∃ q : Bool, Hid (mayS s = q) := ⟨_, hid rfl⟩
  obtain ⟨d, HD⟩ : ∃ q : Bool, Hid (decide (s = seZ) = q) := ⟨_, hid rfl⟩
  rw [HC.out] at hb0 hA hl0 heq ⊢
  rw [HZ.out] at hbz heq
  rw [HD.out] at heq
  rw [HQ.out]
  go_enter Tryz.func15, Tryz.ntmps15
  go_upto_region 1 with (fail)
  generalize (w.alloc (.cells C 40)) = w0 at *
  obtain ⟨k0, k1, k2⟩ := hA.cells
  have HM : Hid (q = if s.vi = 0 then d else if s.vi < 0 ∨ 1099511627776 < s.vi ∨ s.ph < 1 ∨ 3 < s.ph ∨ s.pv < 0 then false else decide (s.pv < s.vi) || (decide (s.pv = s.vi) && decide (s.ph = 3))) := hid (by rw [← HQ.out, ← HD.out]; rfl)
  clear hA HC HZ HQ HD ho
  obtain ⟨vi, ph, pv, pa⟩ := s
  simp only at k0 k1 k2 HM
  go_wp2_with fail
  all_goals
    go_ret
    refine ⟨?_, hb0⟩
    refine congrArg (fun b => Ending.returned (Value.bool b)) ?_
    rw [HM.out]
  all_goals grind
end Go.Proofs.YtghophbabbaleaaGreatDoor
namespace Go.Proofs.YtghophbabbaleaaGreatDoor
set_option maxRecDepth 20000
open Go.RowKit
attribute [local go_sem ↓] exec_load_se exec_build_se exec_eq_se
def highS (s : SeM) : Int := if s.ph = 3 then s.vi else s.vi - 1
def laterS (s : SeM) : Bool := if s.vi < 1 ∨ 1099511627776 < s.vi ∨ s.ph < 1 ∨ 3 < s.ph then false else decide (0 ≤ s.pv) && decide (s.pv ≤ highS s)
theorem mayS_later (s : SeM) : mayS s = (decide (s = seZ) || laterS s) := by
  by_cases h0 : s = seZ
  · subst h0
    decide
  · unfold mayS laterS highS
    simp only [h0, decide_false, Bool.false_or]
    obtain ⟨vi, ph, pv, pa⟩ := s
    simp only
    by_cases h : vi = 0
    · subst h
      rw [if_pos rfl, if_pos (by omega)]
    · rw [if_neg h]
      by_cases h1 : vi < 1 ∨ 1099511627776 < vi ∨ ph < 1 ∨ 3 < ph
      · rw [if_pos h1, if_pos (by omega)]
      · rw [if_neg h1]
        by_cases h2 : pv < 0
        · rw [if_pos (by omega), decide_eq_false (show ¬ 0 ≤ pv by omega)]
          rfl
        · rw [if_neg (by omega), decide_eq_true (show 0 ≤ pv by omega), Bool.true_and, Bool.eq_iff_iff]
          by_cases h3 : ph = 3
          · rw [if_pos h3]
            simp only [Bool.or_eq_true, Bool.and_eq_true, decide_eq_true_eq]
            omega
          · rw [if_neg h3]
            simp only [Bool.or_eq_true, Bool.and_eq_true, decide_eq_true_eq]
            omega
set_option maxHeartbeats 1600000 in
theorem seHigh_any (s : SeM) (w : World) (h1 : 1 ≤ s.vi) (h2 : s.vi ≤ 1099511627776) :
    Calls Tryz.prog 114 #[.agg (sec s)] w fun e w' => e = .returned (.int .i64 (highS s)) ∧ Below w.heap.size w w' := by
  have hb0 : Below w.heap.size w (w.alloc (.cells (sec s) 40)) := (Below.refl _ _).alloc (Nat.le_refl _) _
  have hA := BoxSe.new w s
  obtain ⟨C, HC⟩ : ∃ C : Array Value, Hid (sec s = C) := ⟨_, hid rfl⟩
  obtain ⟨q, HQ⟩ : ∃ q : Int, Hid (highS s = q) := ⟨_, hid rfl⟩
  rw [HC.out] at hb0 hA ⊢
  rw [HQ.out]
  go_enter Tryz.func114, Tryz.ntmps114
  go_upto_region 1 with (fail)
  generalize (w.alloc (.cells C 40)) = w0 at *
  obtain ⟨k0, k1, k2⟩ := hA.cells
  clear hA HC
  obtain ⟨vi, ph, pv, pa⟩ := s
  simp only at k0 k1 k2 h1 h2
  have hw : IntKind.i64.wrap (vi - 1) = vi - 1 := by rw [IntKind.wrap_i64]; omega
  have HH := hid (show 1 ≤ vi ∧ vi ≤ 1099511627776 from ⟨h1, h2⟩)
  clear h1 h2
  by_cases h3 : ph = 3
  all_goals
    go_wp2_with fail
    go_ret
    refine ⟨?_, hb0⟩
    refine congrArg (fun b => Ending.returned (Value.int IntKind.i64 b)) ?_
    rw [← HQ.out]
    unfold highS
    simp [h3]
set_option maxHeartbeats 3200000 in
theorem seLater_any (s : SeM) (w : World) (ho : s.Ok) :
    Calls Tryz.prog 69 #[.agg (sec s)] w fun e w' => e = .returned (.bool (laterS s)) ∧ Below w.heap.size w w' := by
  have hb0 : Below w.heap.size w (w.alloc (.cells (sec s) 40)) := (Below.refl _ _).alloc (Nat.le_refl _) _
  have hA := BoxSe.new w s
  have HHI : Hid (1 ≤ s.vi → s.vi ≤ 1099511627776 → ∀ W, Calls Tryz.prog 114 #[.agg (sec s)] W fun e w' => e = .returned (.int .i64 (highS s)) ∧ Below W.heap.size W w') := hid (fun h1 h2 W => seHigh_any s W h1 h2)
  obtain ⟨C, HC⟩ : ∃ C : Array Value, Hid (sec s = C) := ⟨_, hid rfl⟩
  obtain ⟨q, HQ⟩ : ∃ q : Bool, Hid (laterS s = q) := ⟨_, hid rfl⟩
  obtain ⟨hi, HHA⟩ : ∃ q : Int, Hid (highS s = q) := ⟨_, hid rfl⟩
  have HLD0 : Hid (∀ W, BoxSe W w.heap.size s → loadSe (.pointer (some ⟨w.heap.size, 0, none⟩)) W = .ok (.value (.agg C)) W) := hid (fun W h => by
    have := loadSe_eq h ho
    rw [HC.out] at this
    exact this)
  rw [HC.out] at hb0 hA HHI ⊢
  rw [HHA.out] at HHI
  rw [HQ.out]
  have HM : Hid (q = if s.vi < 1 ∨ 1099511627776 < s.vi ∨ s.ph < 1 ∨ 3 < s.ph then false else decide (0 ≤ s.pv) && decide (s.pv ≤ hi)) := hid (by rw [← HQ.out, ← HHA.out]; rfl)
  go_enter Tryz.func69, Tryz.ntmps69
  go_upto_region 1 with (fail)
  generalize (w.alloc (.cells C 40)) = w0 at *
  have HX : Hid (∀ W : World, Below w0.heap.size w0 W → W.cell? ⟨w.heap.size, 2, none⟩ = some (.int .i64 s.pv) ∧ loadSe (.pointer (some ⟨w.heap.size, 0, none⟩)) W = .ok (.value (.agg C)) W) := hid (fun W h => ⟨(hA.keep h).cells.2.2, HLD0.out W (hA.keep h)⟩)
  obtain ⟨k0, k1, k2⟩ := hA.cells
  clear hA HC ho HQ HHA HLD0
  obtain ⟨vi, ph, pv, pa⟩ := s
  simp only at k0 k1 k2 HX HHI HM
  have hd1 : ∀ a : Int, (1099511627776 < a) = (1099511627776 < a) := fun _ => rfl
  clear hd1
  by_cases h1 : vi < 1
  · go_wp2_with fail
    go_ret
    exact ⟨by rw [HM.out, if_pos (.inl h1)]; rfl, hb0⟩
  by_cases h2 : 1099511627776 < vi
  · go_wp2_with fail
    go_ret
    exact ⟨by rw [HM.out, if_pos (.inr (.inl h2))]; rfl, hb0⟩
  by_cases h3 : ph < 1
  · go_wp2_with fail
    go_ret
    exact ⟨by rw [HM.out, if_pos (.inr (.inr (.inl h3)))]; rfl, hb0⟩
  by_cases h4 : 3 < ph
  · go_wp2_with fail
    go_ret
    exact ⟨by rw [HM.out, if_pos (.inr (.inr (.inr h4)))]; rfl, hb0⟩
  have HI := hid (HHI.out (by omega) (by omega))
  have HM3 : Hid (q = (decide (0 ≤ pv) && decide (pv ≤ hi))) := hid (by rw [HM.out, if_neg (by omega)])
  clear HHI HM
  go_upto_region 3 with (fail)
  clear k0 k1 k2 h1 h2 h3 h4
  have hbd : Below w0.heap.size w0 w0.drew := (Below.refl _ _).drew
  refine wp_region_held_drew (S := fun W => W.cell? ⟨w.heap.size, 2, none⟩ = some (.int .i64 pv) ∧ loadSe (.pointer (some ⟨w.heap.size, 0, none⟩)) W = .ok (.value (.agg C)) W) (by kernel_rfl) (HX.out _ hbd) (fun hHeld => ?_)
  obtain ⟨d0, HD0⟩ : ∃ d : Bool, Hid (decide (0 ≤ pv) = d) := ⟨_, hid rfl⟩
  obtain ⟨d1, HD1⟩ : ∃ d : Bool, Hid (decide (pv ≤ hi) = d) := ⟨_, hid rfl⟩
  refine' tk (i := 0) (v := _) rfl ?_ ?_
  rotate_left
  · (intro W hW; (try dsimp only at hW); go_simp; first | done | with_reducible rfl)
  try simp only [lay]
  refine' tk (i := 1) (v := _) rfl ?_ ?_
  rotate_left
  · (intro W hW; (try dsimp only at hW); have hW1 := hW.1; clear hW; go_simp; first | done | with_reducible rfl)
  try simp only [lay]
  refine' tk (i := 2) (v := _) rfl ?_ ?_
  rotate_left
  · (intro W hW; (try dsimp only at hW); go_simp; first | done | with_reducible rfl)
  try simp only [lay]
  rw [HD0.out]
  refine' tk (i := 3) (v := _) rfl ?_ ?_
  rotate_left
  · (intro W hW; (try dsimp only at hW); go_simp; first | done | with_reducible rfl)
  try simp only [lay]
  cases d0 with
  | false =>
    refine tf (i := 4) rfl ?_
    try simp only [lay]
    refine tf (i := 5) rfl ?_
    try simp only [lay]
    refine tf (i := 6) rfl ?_
    try simp only [lay]
    refine tf (i := 7) rfl ?_
    try simp only [lay]
    refine tf (i := 8) rfl ?_
    try simp only [lay]
    refine' tk (i := 9) (v := _) rfl ?_ ?_
    rotate_left
    · (intro W hW; (try dsimp only at hW); go_simp; first | done | with_reducible rfl)
    try simp only [lay]
    refine' tk (i := 10) (v := _) rfl ?_ ?_
    rotate_left
    · (intro W hW; (try dsimp only at hW); go_simp; first | done | with_reducible rfl)
    try simp only [lay]
    refine wpAnyH_done (by kernel_rfl) ?_ _
    go_wp2_with fail
    go_ret
    exact ⟨by rw [HM3.out, HD0.out]; rfl, hb0.trans (hbd.mono hb0.size)⟩
  | true =>
    refine' tk (i := 4) (v := _) rfl ?_ ?_
    rotate_left
    · (intro W hW; (try dsimp only at hW); go_simp; first | done | with_reducible rfl)
    try simp only [lay]
    refine' tk (i := 5) (v := _) rfl ?_ ?_
    rotate_left
    · (intro W hW; (try dsimp only at hW); have hW1 := hW.1; clear hW; go_simp; first | done | with_reducible rfl)
    try simp only [lay]
    refine' tk (i := 6) (v := _) rfl (fun W hW => hW.2) ?_
    try simp only [lay]
    refine call_on (i := 7) rfl (by kernel_rfl) (by rfl) (fun K hK => ?_)
    go_simp
    refine (HI.out _).mono ?_
    rintro e w2 ⟨rfl, hb2'⟩
    have hb2 := hbd.trans (hb2'.mono hbd.size)
    refine hK.out _ _ (HX.out _ hb2) (fun hHeld => ?_)
    clear hK K
    try simp only [lay]
    refine' tk (i := 8) (v := _) rfl ?_ ?_
    rotate_left
    · (intro W hW; (try dsimp only at hW); go_simp; first | done | with_reducible rfl)
    try simp only [lay]
    rw [HD1.out]
    refine' tk (i := 9) (v := _) rfl ?_ ?_
    rotate_left
    · (intro W hW; (try dsimp only at hW); go_simp; first | done | with_reducible rfl)
    try simp only [lay]
    refine' tk (i := 10) (v := _) rfl ?_ ?_
    rotate_left
    · (intro W hW; (try dsimp only at hW); go_simp; first | done | with_reducible rfl)
    try simp only [lay]
    refine wpAnyH_done (by kernel_rfl) ?_ _
    go_wp2_with fail
    go_ret
    exact ⟨by rw [HM3.out, HD0.out, HD1.out]; cases d1 <;> rfl, hb0.trans (hb2.mono hb0.size)⟩
set_option maxHeartbeats 3200000 in
theorem seCheck_ok : SeCheckOk := by
  intro s w ho
  have hb0 : Below w.heap.size w (w.alloc (.cells (sec s) 40)) := (Below.refl _ _).alloc (Nat.le_refl _) _
  have hA := BoxSe.new w s
  have l0 := loadSe_eq hA ho
  have HLA : Hid (∀ W, Calls Tryz.prog 69 #[.agg (sec s)] W fun e w' => e = .returned (.bool (laterS s)) ∧ Below W.heap.size W w') := hid (fun W => seLater_any s W ho)
  have heq : ∀ W, eqSe (.agg (sec s)) (.agg (sec seZ)) W = .ok (.value (.bool (decide (s = seZ)))) W := fun W => eqSe_eq s seZ ho seZ_ok W
  have hbz := buildSe_eq
  have hml := mayS_later s
  obtain ⟨C, HC⟩ : ∃ C : Array Value, Hid (sec s = C) := ⟨_, hid rfl⟩
  obtain ⟨Z, HZ⟩ : ∃ C : Array Value, Hid (sec seZ = C) := ⟨_, hid rfl⟩
  obtain ⟨d, HD⟩ : ∃ q : Bool, Hid (decide (s = seZ) = q) := ⟨_, hid rfl⟩
  obtain ⟨la, HL⟩ : ∃ q : Bool, Hid (laterS s = q) := ⟨_, hid rfl⟩
  obtain ⟨q, HQ⟩ : ∃ q : Int, Hid ((if mayS s = true then (0 : Int) else 1) = q) := ⟨_, hid rfl⟩
  rw [HD.out, HL.out] at hml
  have HML := hid hml
  rw [HC.out] at hb0 hA l0 heq HLA ⊢
  rw [HZ.out] at hbz heq
  rw [HD.out] at heq
  rw [HL.out] at HLA
  rw [HQ.out]
  go_enter Tryz.func40, Tryz.ntmps40
  go_upto_region 1 with (fail)
  generalize (w.alloc (.cells C 40)) = w0 at *
  clear hA HC HZ HD HL ho hml
  cases d with
  | true =>
    go_wp2_with fail
    go_ret
    exact ⟨by rw [← HQ.out, HML.out]; rfl, hb0⟩
  | false =>
    go_wp2_with fail
    refine (HLA.out w0).mono ?_
    rintro e w1 ⟨rfl, hb1⟩
    clear l0 heq hbz
    cases la with
    | true =>
      go_wp2_with fail
      go_ret
      exact ⟨by rw [← HQ.out, HML.out]; rfl, hb0.trans (hb1.mono hb0.size)⟩
    | false =>
      go_wp2_with fail
      go_ret
      exact ⟨by rw [← HQ.out, HML.out]; rfl, hb0.trans (hb1.mono hb0.size)⟩
end Go.Proofs.YtghophbabbaleaaGreatDoor
namespace Go.Proofs.YtghophbabbaleaaGreatDoor
set_option maxRecDepth 20000
open Go.RowKit
attribute [local go_sem ↓] exec_load_hash
theorem seVers_any (n : Int) (w : World) : Calls Tryz.prog 72 #[.int .i64 n] w fun e w' => e = .returned (.bool (versB n)) ∧ w = w' := by
  obtain ⟨q, HQ⟩ : ∃ q : Bool, Hid (versB n = q) := ⟨_, hid rfl⟩
  rw [HQ.out]
  go_enter Tryz.func72, Tryz.ntmps72
  go_wp2_with fail
  all_goals
    go_ret
    refine ⟨?_, rfl⟩
    refine congrArg (fun b => Ending.returned (Value.bool b)) ?_
    rw [← HQ.out]
    unfold versB
  all_goals grind
def numS (n : Int) (s : SeM) (i : Nat) : Int := [n, s.vi, s.ph, s.pv].getD i 0
def preS (n : Int) (s : SeM) (i : Nat) : List UInt8 := (([n, s.vi, s.ph, s.pv].take i).map fun n => dg n.toNat).flatten
theorem preS_more (n : Int) (s : SeM) (i : Nat) (h : i < 4) : preS n s (i + 1) = preS n s i ++ dg (numS n s i).toNat := by
  unfold preS numS
  have : i = 0 ∨ i = 1 ∨ i = 2 ∨ i = 3 := by omega
  rcases this with rfl | rfl | rfl | rfl <;> simp
theorem numS_le {n : Int} {s : SeM} (hn : versB n = true) (hm : mayS s = true) (i : Nat) : 0 ≤ numS n s i ∧ numS n s i ≤ 1099511627776 := by
  obtain ⟨h1, h2, h3, h4, h5, h6⟩ := mayS_iff hm
  unfold versB at hn
  rw [decide_eq_true_eq] at hn
  unfold numS
  match i with
  | 0 => simp; omega
  | 1 => simp; omega
  | 2 => simp; omega
  | 3 => simp; omega
  | k + 4 => simp
theorem preS_len {n : Int} {s : SeM} (hn : versB n = true) (hm : mayS s = true) (i : Nat) : (preS n s i).length ≤ 40 := by
  obtain ⟨h1, h2, h3, h4, h5, h6⟩ := mayS_iff hm
  unfold versB at hn
  rw [decide_eq_true_eq] at hn
  have e0 := dg_len10 (n := n.toNat) (by omega)
  have e1 := dg_len10 (n := s.vi.toNat) (by omega)
  have e2 := dg_len10 (n := s.ph.toNat) (by omega)
  have e3 := dg_len10 (n := s.pv.toNat) (by omega)
  unfold preS
  match i with
  | 0 => simp
  | 1 => simp; omega
  | 2 => simp; omega
  | 3 => simp; omega
  | k + 4 => simp; omega
theorem preS_all (n : Int) (s : SeM) : preS n s 4 ++ s.pa = taggedS n s := by
  unfold preS taggedS
  simp
theorem arr4 : ArrT 157 3 4 (.int .i64 0) := ⟨by kernel_rfl, by kernel_rfl, by kernel_rfl, by kernel_rfl, by kernel_rfl, by kernel_rfl, rfl⟩
theorem wpList_build_four {ops : Array Oper} {rest : List Oper} {o : Oper} {a : Act} {w : World} {Q : Exit → Act → World → Prop} (hgd : o.guard = none) {x0 x1 x2 x3 : Operand} (ho : o.op = .build 157 #[(0, x0), (1, x1), (2, x2), (3, x3)])
    (v0 v1 v2 v3 : Int) (h0 : a.eval x0 = .int .i64 v0) (h1 : a.eval x1 = .int .i64 v1) (h2 : a.eval x2 = .int .i64 v2) (h3 : a.eval x3 = .int .i64 v3)
    (h : wpList Tryz.prog ops Q rest (a.put o.dst (.agg #[.int .i64 v0, .int .i64 v1, .int .i64 v2, .int .i64 v3])) w) : wpList Tryz.prog ops Q (o :: rest) a w :=
  wpList_plain hgd fun _ hK => by
    have e : (Instr.build 157 #[(0, .int .i64 v0), (1, .int .i64 v1), (2, .int .i64 v2), (3, .int .i64 v3)]).run Tryz.prog w = .ok (.agg #[.int .i64 v0, .int .i64 v1, .int .i64 v2, .int .i64 v3]) w := by
      have e2 : fcells 4 (fun _ => (.int .i64 0 : Value)) = #[.int .i64 0, .int .i64 0, .int .i64 0, .int .i64 0] := by kernel_rfl
      simp [Instr.build, Sem.run_bind, arr4.run_zero, run_underlying arr4.under, arr4.run_esize, Instr.fill, Value.cells, e2]
    unfold Oper.wp execOp
    simp only [ho, Sem.run_bind, List.map_toArray, List.map_cons, List.map_nil, h0, h1, h2, h3, e, Sem.run_pure, Result.andThen_ok]
    exact hK _ _ h
theorem four_index (a b c d : Int) (i : Nat) (hi : i < 4) (w : World) : (Instr.index 157 (.agg #[.int .i64 a, .int .i64 b, .int .i64 c, .int .i64 d]) (.int .i64 (i : Int))).run Tryz.prog w = .ok (.int .i64 ([a, b, c, d].getD i 0)) w := by
  have e2 : (#[.int .i64 a, .int .i64 b, .int .i64 c, .int .i64 d] : Array Value) = fcells 4 (fun j => .int .i64 ([a, b, c, d].getD j 0)) := rfl
  rw [e2, arr4.run_index _ hi]
set_option maxHeartbeats 3200000 in
theorem setagged_any (n : Int) (s : SeM) (w : World) (ho : s.Ok) (hn : versB n = true) (hm : mayS s = true) :
    Calls Tryz.prog 73 #[.int .i64 n, .agg (sec s)] w fun e w' => ∃ x, e = .returned x ∧ Own w.heap.size w' x (taggedS n s) ∧ Below w.heap.size w w' := by
  have hb0 : Below w.heap.size w (w.alloc (.cells (sec s) 40)) := (Below.refl _ _).alloc (Nat.le_refl _) _
  have hA := BoxSe.new w s
  have HN : Hid (∀ i, 0 ≤ numS n s i ∧ numS n s i ≤ 1099511627776) := hid (fun i => numS_le hn hm i)
  have HPS : Hid (∀ i, (preS n s i).length ≤ 40) := hid (fun i => preS_len hn hm i)
  have HALL := hid (preS_all n s)
  have HMORE := hid (fun i h => preS_more n s i h)
  obtain ⟨C, HC⟩ : ∃ C : Array Value, Hid (sec s = C) := ⟨_, hid rfl⟩
  obtain ⟨O, HO⟩ : ∃ O : List UInt8, Hid (taggedS n s = O) := ⟨_, hid rfl⟩
  rw [HO.out] at HALL
  have HP0 : Hid (preS n s 0 = []) := hid rfl
  have HIX0 := hid (fun i hi w => four_index n s.vi s.ph s.pv i hi w)
  have HIX : Hid (∀ i : Nat, i < 4 → ∀ w, (Instr.index 157 (.agg #[.int .i64 n, .int .i64 s.vi, .int .i64 s.ph, .int .i64 s.pv]) (.int .i64 (i : Int))).run Tryz.prog w = .ok (.int .i64 (numS n s i)) w) := hid (fun i hi w => HIX0.out i hi w)
  obtain ⟨N, HNF⟩ : ∃ f : Nat → Int, Hid (numS n s = f) := ⟨_, hid rfl⟩
  obtain ⟨P, HPF⟩ : ∃ f : Nat → List UInt8, Hid (preS n s = f) := ⟨_, hid rfl⟩
  rw [HNF.out] at HN HIX
  rw [HNF.out, HPF.out] at HMORE
  rw [HPF.out] at HPS HALL HP0
  rw [HC.out] at hb0 hA ⊢
  rw [HO.out]
  have hpl : s.pa.length = 32 := ho
  have HPL := hid hpl
  have HA := hid hA
  have hlA := hA.lt
  clear hA hpl ho HC hn hm HIX0 HNF HPF HO
  obtain ⟨vi, ph, pv, pa⟩ := s
  simp only at HALL HPL HIX
  go_enter Tryz.func73, Tryz.ntmps73
  go_upto_region 1 with (fail)
  generalize (w.alloc (.cells C 40)) = w0 at *
  obtain ⟨k0, k1, k2⟩ := HA.out.cells
  simp only at k0 k1 k2
  have HLH : Hid (∀ W, Below w0.heap.size w0 W → loadH (.pointer (some ⟨w.heap.size, 3, none⟩)) W = .ok (.value (.agg (hcells pa))) W) := hid (fun W h => loadH_mid (HA.out.below h hlA).hash HPL.out)
  have HB0 := hid hb0
  obtain ⟨D, HD⟩ : ∃ D : Array Value, Hid (#[.int .i64 n, .int .i64 vi, .int .i64 ph, .int .i64 pv] = D) := ⟨_, hid rfl⟩
  rw [HD.out] at HIX
  clear HA hlA hb0
  go_wp2_with (refine wpList_build_four rfl rfl _ _ _ _ rfl rfl rfl rfl ?_)
  rw [HD.out]
  clear k0 k1 k2
  go_loopw [5, 16] (fun out si wr => ∃ i : Nat, i ≤ 4 ∧ si = .int .i64 i ∧ Byt wr out (P i) ∧ Below w0.heap.size w0 wr) (fun _ si _ => 4 - (intOf si).toNat)
  case atStart => exact ⟨0, by omega, rfl, by rw [HP0.out]; exact Byt.nil _, Below.refl _ _⟩
  case round =>
    obtain ⟨i, hi, rfl, hbt, hbr⟩ := hrel
    have HBT := hid hbt
    have HBR := hid hbr
    have HPI := hid (HPS.out i)
    clear hbt hbr
    by_cases hlt : i < 4
    · have i0 := HIX.out i hlt
      have HX0 := hid (HN.out i)
      have HNX := hid (HMORE.out i hlt)
      obtain ⟨x, HXV⟩ : ∃ n : Int, Hid (N i = n) := ⟨_, hid rfl⟩
      rw [HXV.out] at i0 HX0 HNX
      have C := num_any _ (P i) x wr HBT.out (by have := HX0.out; omega) (by have := HX0.out; omega) (by have := HPI.out; omega)
      rw [← HNX.out] at C
      have HC := hid C
      have hwx : IntKind.u64.wrap x = x := by have := HX0.out; exact wrap_u64 x (by omega) (by omega)
      have hlt' : (i : Int) < 4 := by omega
      have HLT := hid hlt
      clear C hi
      go_wp2_with fail
      refine HC.out.mono ?_
      rintro e w2 ⟨x2, rfl, hx2, hb2⟩
      have HX2 := hid hx2.byt
      have HB2 := hid (HBR.out.trans (hb2.mono HBR.out.size))
      clear hx2 hb2 hwx i0
      go_wp2_with fail
      go_roundw
      case rel => exact ⟨i + 1, by have := HLT.out; omega, by go_num, HX2.out, HB2.out⟩
      case measure => have := HLT.out; simp [intOf]; omega
    · obtain rfl : i = 4 := by omega
      have hn4 : ¬ ((4 : Int) < 4) := by omega
      have l4 := HLH.out wr HBR.out
      clear hlt hi
      go_wp2_with fail
      refine (hash_any _ (P 4) pa wr HBT.out (by have := HPI.out; omega) HPL.out).mono ?_
      rintro e w3 ⟨v3, rfl, ho3, hb3⟩
      rw [HALL.out] at ho3
      clear l4
      go_wp2_with fail
      go_ret
      have hs := HBR.out.size
      have hs0 := HB0.out.size
      exact ⟨v3, rfl, ho3.more (by omega), HB0.out.trans ((HBR.out.trans (hb3.mono HBR.out.size)).mono HB0.out.size)⟩
end Go.Proofs.YtghophbabbaleaaGreatDoor
namespace Go.Proofs.YtghophbabbaleaaGreatDoor
set_option maxRecDepth 20000
open Go.RowKit
attribute [local go_sem ↓] exec_load_hash
set_option maxHeartbeats 6400000 in
theorem refTagged13_any (n : Int) (s : SeM) (w : World) (ho : s.Ok) (hn : versB n = true) (hm : mayS s = true) :
    Calls Tryz.prog 86 #[.int .i64 n, .agg (sec s)] w fun e w' => ∃ x, e = .returned x ∧ Own w.heap.size w' x (taggedS n s) ∧ Below w.heap.size w w' := by
  obtain ⟨h1, h2, h3, h4, h5, h6⟩ := mayS_iff hm
  unfold versB at hn
  rw [decide_eq_true_eq] at hn
  have hb0 : Below w.heap.size w (w.alloc (.cells (sec s) 40)) := (Below.refl _ _).alloc (Nat.le_refl _) _
  have hA := BoxSe.new w s
  obtain ⟨C, HC⟩ : ∃ C : Array Value, Hid (sec s = C) := ⟨_, hid rfl⟩
  obtain ⟨O, HO⟩ : ∃ O : List UInt8, Hid (taggedS n s = O) := ⟨_, hid rfl⟩
  rw [HC.out] at hb0 hA ⊢
  rw [HO.out]
  have HA := hid hA
  have hlA := hA.lt
  have hpl : s.pa.length = 32 := ho
  have HPL := hid hpl
  clear hA hpl ho HC hm
  obtain ⟨vi, ph, pv, pa⟩ := s
  simp only at h1 h2 h3 h4 h5 h6 HPL
  obtain ⟨z, rfl⟩ := nat_of (i := n) (by omega)
  obtain ⟨v, rfl⟩ := nat_of (i := vi) (by omega)
  obtain ⟨p, rfl⟩ := nat_of (i := ph) (by omega)
  obtain ⟨q, rfl⟩ := nat_of (i := pv) (by omega)
  have hp1 : IntKind.u8.wrap (p : Int) = (p : Int) := by rw [IntKind.wrap_u8']; omega
  have hz1 : IntKind.u64.wrap (z : Int) = (z : Int) := wrap_u64 _ (by omega) (by omega)
  have hv1 : IntKind.u64.wrap (v : Int) = (v : Int) := wrap_u64 _ (by omega) (by omega)
  have hq1 : IntKind.u64.wrap (q : Int) = (q : Int) := wrap_u64 _ (by omega) (by omega)
  have HNZ := hid (fun w => refnum_any (z : Int) w (by omega) (by omega))
  have HNV := hid (fun w => refnum_any (v : Int) w (by omega) (by omega))
  have HNQ := hid (fun w => refnum_any (q : Int) w (by omega) (by omega))
  rw [Int.toNat_natCast] at HNZ HNV HNQ
  have HLZ := hid (dg_len10 (n := z) (by omega))
  have HLV := hid (dg_len10 (n := v) (by omega))
  have HLQ := hid (dg_len10 (n := q) (by omega))
  have HDP : Hid (dg p = [UInt8.ofNat p]) := hid (dg_small (by omega))
  have HYP := hid (fun w => one_own w p (by omega))
  have HBP := hid (fun w => refBytes7_any pa w HPL.out)
  have HO2 : Hid (O = dg z ++ (dg v ++ (dg p ++ (dg q ++ pa)))) := hid (by rw [← HO.out]; unfold taggedS; simp only [Int.toNat_natCast])
  clear h1 h2 h3 h4 h5 h6 hn HO
  go_enter Tryz.func86, Tryz.ntmps86
  go_upto_region 1 with (fail)
  generalize (w.alloc (.cells C 40)) = w0 at *
  have HX : Hid (∀ W : World, Below w0.heap.size w0 W → W.cell? ⟨w.heap.size, 0, none⟩ = some (.int .i64 (v : Int)) ∧ W.cell? ⟨w.heap.size, 1, none⟩ = some (.int .i64 (p : Int)) ∧ W.cell? ⟨w.heap.size, 2, none⟩ = some (.int .i64 (q : Int)) ∧ W.rangeAt w.heap.size 3 (bcells pa)) := hid (fun W h => by
    have hW := HA.out.below h hlA
    exact ⟨hW.cells.1, hW.cells.2.1, hW.cells.2.2, hW.hash⟩)
  have hbd : Below w0.heap.size w0 w0.drew := (Below.refl _ _).drew
  have hs0 := hb0.size
  have HB0 := hid hb0
  clear HA hlA hb0
  refine wp_region_held_drew (S := fun W => W.cell? ⟨w.heap.size, 0, none⟩ = some (.int .i64 (v : Int)) ∧ W.cell? ⟨w.heap.size, 1, none⟩ = some (.int .i64 (p : Int)) ∧ W.cell? ⟨w.heap.size, 2, none⟩ = some (.int .i64 (q : Int)) ∧ W.rangeAt w.heap.size 3 (bcells pa)) (by kernel_rfl) (HX.out _ hbd) (fun hHeld => ?_)
  refine' tk (i := 0) (v := _) rfl ?_ ?_
  rotate_left
  · (intro W hW; (try dsimp only at hW); go_simp; first | done | with_reducible rfl)
  try simp only [lay]
  refine' tk (i := 1) (v := _) rfl ?_ ?_
  rotate_left
  · (intro W hW; (try dsimp only at hW); go_simp; first | done | with_reducible rfl)
  try simp only [lay]
  refine' tk (i := 3) (v := _) rfl ?_ ?_
  rotate_left
  · (intro W hW; (try dsimp only at hW); go_simp; first | done | with_reducible rfl)
  try simp only [lay]
  refine' tk (i := 4) (v := _) rfl ?_ ?_
  rotate_left
  · (intro W hW; (try dsimp only at hW); have hW1 := hW.1; have hW2 := hW.2.1; have hW3 := hW.2.2.1; clear hW; go_simp; first | done | with_reducible rfl)
  try simp only [lay]
  refine' tk (i := 5) (v := _) rfl ?_ ?_
  rotate_left
  · (intro W hW; (try dsimp only at hW); go_simp; first | done | with_reducible rfl)
  try simp only [lay]
  refine call_on (i := 2) rfl (by kernel_rfl) (by rfl) (fun K hK => ?_)
  go_simp
  refine (HNZ.out w0.drew).mono ?_
  rintro e w1 ⟨v1, rfl, ho1, hb1'⟩
  have hb1 := hbd.trans hb1'
  refine hK.out _ _ (HX.out _ hb1) (fun hHeld => ?_)
  clear hK K
  try simp only [lay]
  refine call_on (i := 6) rfl (by kernel_rfl) (by rfl) (fun K hK => ?_)
  go_simp
  refine (HNV.out w1).mono ?_
  rintro e w2 ⟨v2, rfl, ho2, hb2'⟩
  have hb2 := hb1.trans (hb2'.mono hb1.size)
  refine hK.out _ _ (HX.out _ hb2) (fun hHeld => ?_)
  clear hK K
  try simp only [lay]
  refine call_on (i := 7) rfl (by kernel_rfl) (by rfl) (fun K hK => ?_)
  refine wp_append_byt (.tmp 8) (.tmp 12) rfl rfl rfl (ho1.below hb2') ho2.byt (by have := HLZ.out; have := HLV.out; omega) hb2.size ?_
  intro v3 w3 ho3 hg3 _
  have hb3 := hb2.grown hg3 hb2.size (fun q hq => (World.ownsRow.lt (ho1.below hb2') q hq).1)
  refine hK.out _ _ (HX.out _ hb3) (fun hHeld => ?_)
  clear hK K
  try simp only [lay]
  refine' tk (i := 8) (v := _) rfl ?_ ?_
  rotate_left
  · (intro W hW; (try dsimp only at hW); go_simp; first | done | with_reducible rfl)
  try simp only [lay]
  refine wpAnyH_done (by kernel_rfl) ?_ _
  obtain ⟨T1, HT1⟩ : ∃ O : List UInt8, Hid (dg z ++ dg v = O) := ⟨_, hid rfl⟩
  have HT1L : Hid (T1.length ≤ 20) := hid (by rw [← HT1.out, List.length_append]; have := HLZ.out; have := HLV.out; omega)
  have ho4 : Own w0.heap.size w3 v3 T1 := by rw [← HT1.out]; exact ho3
  clear hHeld ho1 ho2 ho3 hb1 hb1' hb2 hb2' hg3 hz1 hv1 hbd
  go_upto_region 2 with (fail)
  have hbd : Below w0.heap.size w0 w3.drew := hb3.drew
  have hbA : Below w0.heap.size w0 (w3.drew.alloc (.cells #[.int .u8 (p : Int)] 5)) := hbd.alloc hbd.size _
  have hy5 : Byt (w3.drew.alloc (.cells #[.int .u8 (p : Int)] 5)) (.slice (some ⟨w3.heap.size, 0, none⟩) 1 1) [UInt8.ofNat p] := (HYP.out w3.drew).byt
  have ho5 : Own w0.heap.size (w3.drew.alloc (.cells #[.int .u8 (p : Int)] 5)) v3 T1 := (ho4.drewN 1).alloc _
  refine wp_region_held_drew (S := fun W => W.cell? ⟨w.heap.size, 0, none⟩ = some (.int .i64 (v : Int)) ∧ W.cell? ⟨w.heap.size, 1, none⟩ = some (.int .i64 (p : Int)) ∧ W.cell? ⟨w.heap.size, 2, none⟩ = some (.int .i64 (q : Int)) ∧ W.rangeAt w.heap.size 3 (bcells pa)) (by kernel_rfl) (HX.out _ hbd) (fun hHeld => ?_)
  refine' tk (i := 0) (v := _) rfl ?_ ?_
  rotate_left
  · (intro W hW; (try dsimp only at hW); go_simp; first | done | with_reducible rfl)
  try simp only [lay]
  refine' tk (i := 1) (v := _) rfl ?_ ?_
  rotate_left
  · (intro W hW; (try dsimp only at hW); go_simp; first | done | with_reducible rfl)
  try simp only [lay]
  refine' tk (i := 2) (v := _) rfl ?_ ?_
  rotate_left
  · (intro W hW; (try dsimp only at hW); have hW1 := hW.1; have hW2 := hW.2.1; have hW3 := hW.2.2.1; clear hW; go_simp; first | done | with_reducible rfl)
  try simp only [lay]
  refine' tk (i := 3) (v := _) rfl ?_ ?_
  rotate_left
  · (intro W hW; (try dsimp only at hW); go_simp; first | done | with_reducible rfl)
  try simp only [lay]
  refine' tk (i := 6) (v := _) rfl ?_ ?_
  rotate_left
  · (intro W hW; (try dsimp only at hW); go_simp; first | done | with_reducible rfl)
  try simp only [lay]
  refine' tk (i := 7) (v := _) rfl ?_ ?_
  rotate_left
  · (intro W hW; (try dsimp only at hW); have hW1 := hW.1; have hW2 := hW.2.1; have hW3 := hW.2.2.1; clear hW; go_simp; first | done | with_reducible rfl)
  try simp only [lay]
  refine' tk (i := 8) (v := _) rfl ?_ ?_
  rotate_left
  · (intro W hW; (try dsimp only at hW); go_simp; first | done | with_reducible rfl)
  try simp only [lay]
  refine call_on (i := 4) rfl (by kernel_rfl) (by rfl) (fun K hK => ?_)
  go_simp
  refine hK.out _ _ (HX.out _ hbA) (fun hHeld => ?_)
  clear hK K
  try simp only [lay]
  refine call_on (i := 5) rfl (by kernel_rfl) (by rfl) (fun K hK => ?_)
  refine wp_append_byt (.tmp 14) (.tmp 18) rfl rfl rfl ho5 hy5 (by have := HT1L.out; simp only [List.length_cons, List.length_nil]; omega) hbA.size ?_
  intro v6 w6 ho6 hg6 _
  have hb6 := hbA.grown hg6 hbA.size (fun q hq => (World.ownsRow.lt ho5 q hq).1)
  refine hK.out _ _ (HX.out _ hb6) (fun hHeld => ?_)
  clear hK K
  try simp only [lay]
  refine call_on (i := 9) rfl (by kernel_rfl) (by rfl) (fun K hK => ?_)
  go_simp
  refine (HNQ.out w6).mono ?_
  rintro e w7 ⟨v7, rfl, ho7, hb7'⟩
  have hb7 := hb6.trans (hb7'.mono hb6.size)
  refine hK.out _ _ (HX.out _ hb7) (fun hHeld => ?_)
  clear hK K
  try simp only [lay]
  refine call_on (i := 10) rfl (by kernel_rfl) (by rfl) (fun K hK => ?_)
  refine wp_append_byt (.tmp 19) (.tmp 23) rfl rfl rfl (ho6.below hb7') ho7.byt (by rw [List.length_append]; have := HT1L.out; have := HLQ.out; simp only [List.length_cons, List.length_nil]; omega) hb7.size ?_
  intro v8 w8 ho8 hg8 _
  have hb8 := hb7.grown hg8 hb7.size (fun q hq => (World.ownsRow.lt (ho6.below hb7') q hq).1)
  refine hK.out _ _ (HX.out _ hb8) (fun hHeld => ?_)
  clear hK K
  try simp only [lay]
  refine' tk (i := 11) (v := _) rfl ?_ ?_
  rotate_left
  · (intro W hW; (try dsimp only at hW); go_simp; first | done | with_reducible rfl)
  try simp only [lay]
  refine wpAnyH_done (by kernel_rfl) ?_ _
  obtain ⟨T2, HT2⟩ : ∃ O : List UInt8, Hid (T1 ++ [UInt8.ofNat p] ++ dg q = O) := ⟨_, hid rfl⟩
  have HT2L : Hid (T2.length ≤ 40) := hid (by rw [← HT2.out]; simp only [List.length_append, List.length_cons, List.length_nil]; have := HT1L.out; have := HLQ.out; omega)
  have ho9 : Own w0.heap.size w8 v8 T2 := by rw [← HT2.out]; exact ho8
  have l9 := loadH_mid (HX.out _ hb8).2.2.2 HPL.out
  clear hHeld ho4 ho5 hy5 ho6 ho7 ho8 hb3 hbd hbA hb6 hb7 hb7' hg6 hg8
  go_wp2_with fail
  refine (HBP.out w8).mono ?_
  rintro e w10 ⟨v10, rfl, ho10, hb10'⟩
  have hb10 := hb8.trans (hb10'.mono hb8.size)
  have ho11 := ho9.below hb10'
  have hl11 : T2.length + pa.length ≤ 140737488355328 := by have := HT2L.out; have := HPL.out; omega
  clear l9
  go_wp2_with (at_builtin; refine wpList_append_byt rfl (.tmp 25) (.tmp 28) rfl rfl rfl ho11 ho10.byt hl11 hb10.size ?_; intro v12 w12 ho12 hg12 hv12; have hb12 := hb10.grown hg12 hb10.size (fun q hq => (World.ownsRow.lt ho11 q hq).1); clear hg12 hv12)
  go_ret
  refine ⟨v12, rfl, ?_, HB0.out.trans (hb12.mono hs0)⟩
  have e : T2 ++ pa = O := by
    rw [HO2.out, ← HT2.out, ← HT1.out, HDP.out]
    simp only [List.append_assoc]
  rw [e] at ho12
  exact ho12.more hs0
end Go.Proofs.YtghophbabbaleaaGreatDoor
namespace Go.Proofs.YtghophbabbaleaaGreatDoor
set_option maxRecDepth 20000
open Go.RowKit
attribute [local go_sem ↓] exec_load_se
theorem blobS_len {i n : Int} {s : SeM} (ho : s.Ok) (hn : versB n = true) (hm : mayS s = true) : (blobS i n s).length ≤ 104 := by
  have := taggedS_len ho hn hm
  unfold blobS
  rw [List.length_append, tagS_len]
  omega
set_option maxHeartbeats 3200000 in
theorem refPut13_any (i n : Int) (s : SeM) (w : World) (ho : s.Ok) (hn : versB n = true) (hm : mayS s = true) (hK : Kst 0 w) :
    Calls Tryz.prog 50 #[.int .i64 i, .int .i64 n, .agg (sec s)] w fun e w' => ∃ x, e = .returned x ∧ Own w.heap.size w' x (blobS i n s) ∧ Below w.heap.size w w' := by
  have hlen := taggedS_len ho hn hm
  have HTD : Hid (∀ W, Calls Tryz.prog 86 #[.int .i64 n, .agg (sec s)] W fun e w' => ∃ x, e = .returned x ∧ Own W.heap.size w' x (taggedS n s) ∧ Below W.heap.size W w') := hid (fun W => refTagged13_any n s W ho hn hm)
  have HKB := hid (fun W (h : Below w.heap.size w W) => (show Kst 0 W from hK.below h))
  have HTG : Hid (∀ v W, Below w.heap.size w W → Byt W v (taggedS n s) → Calls Tryz.prog 88 #[.int .i64 i, .int .u8 3, v] W fun e w' => e = .returned (.agg (hcells (tagS i n s))) ∧ Below W.heap.size W w') := hid (fun v W h hv => by
    have := refTag_any i 3 v (taggedS n s) W hv (by omega) (HKB.out W h)
    rw [fcells_hl] at this
    exact this)
  have HBB := hid (fun w => refBytes7_any (tagS i n s) w (tagS_len i n s))
  have hb0 : Below w.heap.size w (w.alloc (.cells (sec s) 40)) := (Below.refl _ _).alloc (Nat.le_refl _) _
  have hA := BoxSe.new w s
  have l0 := loadSe_eq hA ho
  obtain ⟨C, HC⟩ : ∃ C : Array Value, Hid (sec s = C) := ⟨_, hid rfl⟩
  obtain ⟨M, HM⟩ : ∃ O : List UInt8, Hid (taggedS n s = O) := ⟨_, hid rfl⟩
  obtain ⟨T, HT⟩ : ∃ C : List UInt8, Hid (tagS i n s = C) := ⟨_, hid rfl⟩
  obtain ⟨TC, HTC⟩ : ∃ C : Array Value, Hid (hcells T = C) := ⟨_, hid rfl⟩
  have HTL : Hid (T.length = 32) := hid (by rw [← HT.out]; exact tagS_len i n s)
  have HML : Hid (M.length ≤ 72) := hid (by rw [← HM.out]; exact hlen)
  unfold blobS
  rw [HC.out, HM.out] at HTD
  rw [HM.out, HT.out, HTC.out] at HTG
  rw [HT.out, HTC.out] at HBB
  rw [HC.out] at hb0 hA l0 ⊢
  rw [HM.out, HT.out]
  clear hlen ho hn hm hK hA
  go_enter Tryz.func50, Tryz.ntmps50
  go_upto_region 1 with (fail)
  generalize (w.alloc (.cells C 40)) = w0 at *
  have HB0 := hid hb0
  clear hb0
  go_wp2_with fail
  refine (HTD.out w0).mono ?_
  rintro e w1 ⟨v1, rfl, ho1, hb1⟩
  have HB1 := hid (HB0.out.trans (hb1.mono HB0.out.size))
  have hy1 := ho1.byt
  clear l0
  go_wp2_with fail
  refine (HTG.out v1 w1 HB1.out hy1).mono ?_
  rintro e w2 ⟨rfl, hb2'⟩
  have hb2 := hb1.trans (hb2'.mono hb1.size)
  go_wp2_with fail
  refine (HBB.out w2).mono ?_
  rintro e w3 ⟨v3, rfl, ho3, hb3'⟩
  have hb3 := hb2.trans (hb3'.mono hb2.size)
  have ho4 := (ho1.below hb2').below hb3'
  have hl4 : M.length + T.length ≤ 140737488355328 := by have := HML.out; have := HTL.out; omega
  clear hy1 ho1 hb2'
  go_wp2_with (at_builtin; refine wpList_append_byt rfl (.tmp 11) (.tmp 15) rfl rfl rfl ho4 ho3.byt hl4 hb3.size ?_; intro v5 w5 ho5 hg5 hv5; have hb5 := hb3.grown hg5 hb3.size (fun q hq => (World.ownsRow.lt ho4 q hq).1); clear hg5 hv5)
  go_ret
  exact ⟨v5, rfl, ho5.more HB0.out.size, HB0.out.trans (hb5.mono HB0.out.size)⟩
end Go.Proofs.YtghophbabbaleaaGreatDoor
