/-
  Acts on vaults as plain data, in memory, as they came in; which are not too great: tithinglaw14.Light.
-/
import Derived.Test.YtghophbabbaleaaGreatDoorBs12
import Derived.Test.YtghophbabbaleaaGreatDoorVaEq
namespace Go.Proofs.YtghophbabbaleaaGreatDoor
set_option maxRecDepth 20000
open Go.ChangeShapes Go.WideShapes Go.ChangeAt Go.RowKit Go.Deep
structure ActM where
  act : Int
  s : SeM
  n : Int
  m : Int
  k : Int
  bA : Option Addr
  bc : Nat
  bl : List UInt8
def ActM.b (a : ActM) : Value := .slice a.bA a.bl.length a.bc
def acl (a : ActM) : List Value := [.int .i64 a.act] ++ (sel a.s ++ [.int .i64 a.n, .int .i64 a.m, .int .i64 a.k, a.b])
def acc (a : ActM) : Array Value := (acl a).toArray
def actZ : ActM := ⟨0, seZ, 0, 0, 0, none, 0, []⟩
def ActOk (w : World) (a : ActM) : Prop := a.s.Ok ∧ ((Lit.int .i64 a.n).wf = true ∧ (Lit.int .i64 a.m).wf = true ∧ (Lit.int .i64 a.k).wf = true) ∧ Byt w a.b a.bl
theorem actZ_ok (w : World) : ActOk w actZ := ⟨seZ_ok, ⟨by decide, by decide, by decide⟩, Byt.nil w⟩
theorem acl_length {a : ActM} (h : a.s.Ok) : (acl a).length = 40 := by
  unfold acl
  simp only [List.length_append, sel_length h, List.length_cons, List.length_nil]
theorem acc_size {a : ActM} (h : a.s.Ok) : (acc a).size = 40 := by
  unfold acc
  rw [List.size_toArray, acl_length h]
theorem acl_one (a : ActM) : ∀ u ∈ acl a, u.oneCell' = true := by
  intro u hu
  unfold acl at hu
  simp only [List.mem_append, List.mem_cons, List.not_mem_nil, or_false] at hu
  rcases hu with rfl | hu | rfl | rfl | rfl | rfl
  · rfl
  · exact sel_one _ u hu
  · rfl
  · rfl
  · rfl
  · rfl
theorem acc_one (a : ActM) : (acc a).all (·.oneCell') = true := all_oneCell_toArray (acl_one a)
theorem acl_do (a : ActM) : (acl a)[0]? = some (.int .i64 a.act) := rfl
theorem acl_tail {a : ActM} (h : a.s.Ok) : (acl a)[36]? = some (.int .i64 a.n) ∧ (acl a)[37]? = some (.int .i64 a.m) ∧ (acl a)[38]? = some (.int .i64 a.k) ∧ (acl a)[39]? = some a.b := by
  have hl := sel_length h
  unfold acl
  refine ⟨?_, ?_, ?_, ?_⟩ <;>
  · rw [List.getElem?_append_right (by simp), List.getElem?_append_right (by simp only [List.length_cons, List.length_nil, hl]; omega)]
    simp only [List.length_cons, List.length_nil, hl]
    rfl
theorem acl_seal (a : ActM) (j : Nat) (u : Value) (h : (sel a.s)[j]? = some u) : (acl a)[1 + j]? = some u := by
  unfold acl
  rw [List.getElem?_append_right (by simp), List.getElem?_append_left (by simpa using (List.getElem?_eq_some_iff.1 h).1)]
  simpa using h
def BoxAc (w : World) (g : Nat) (a : ActM) : Prop := w.heap[g]? = some (.cells (acc a) 42 (0, 0))
section
variable {w w' : World} {g : Nat} {a : ActM}
theorem BoxAc.below {B : Nat} (h : BoxAc w g a) (hb : Below B w w') (hg : g < B) : BoxAc w' g a := (hb.block g hg).trans h
theorem BoxAc.cell (h : BoxAc w g a) (i : Nat) : w.cell? ⟨g, i, none⟩ = (acl a)[i]? := by
  rw [cell_blk h i]
  unfold acc
  rw [List.getElem?_toArray]
theorem BoxAc.cells (h : BoxAc w g a) (ho : a.s.Ok) : w.cell? ⟨g, 0, none⟩ = some (.int .i64 a.act) ∧ w.cell? ⟨g, 36, none⟩ = some (.int .i64 a.n) ∧ w.cell? ⟨g, 37, none⟩ = some (.int .i64 a.m) ∧ w.cell? ⟨g, 38, none⟩ = some (.int .i64 a.k) ∧ w.cell? ⟨g, 39, none⟩ = some a.b := by
  obtain ⟨h1, h2, h3, h4⟩ := acl_tail ho
  exact ⟨(h.cell 0).trans (acl_do a), (h.cell 36).trans h1, (h.cell 37).trans h2, (h.cell 38).trans h3, (h.cell 39).trans h4⟩
theorem loadSe_mid {g o : Nat} {s : SeM} (hr : w.rangeAt g o (sel s)) (hs : s.Ok) : loadSe (.pointer (some ⟨g, o, none⟩)) w = .ok (.value (.agg (sec s))) w := by
  have := run_loadAt_mid (P := Tryz.prog) w g o 40 (sel s) _ hr under_se rfl (by rw [size_se, sel_length hs])
  unfold loadSe execOp
  simp only [Sem.run_bind, this, Result.andThen_ok, Sem.run_pure]
  rfl
theorem BoxAc.sealed (h : BoxAc w g a) (ho : a.s.Ok) : loadSe (.pointer (some ⟨g, 1, none⟩)) w = .ok (.value (.agg (sec a.s))) w :=
  loadSe_mid (fun j u hu => by rw [h.cell]; exact acl_seal a j u hu) ho
end
noncomputable def loadAc (v : Value) (w : World) : Result Next := Sem.run Tryz.prog (execOp (fun _ => v) { dst := none, op := .load 42 (.tmp 0), type := 0, pos := "", after := #[], guard := none }) w
theorem exec_load_ac (r : Operand → Value) (x : Operand) (dst : Option Tmp) (ty : TypeId) (pos : String) (after : Array Edge) (guard : Option (Nat × Bool)) (w : World) :
    Sem.run Tryz.prog (execOp r { dst := dst, op := .load 42 x, type := ty, pos := pos, after := after, guard := guard }) w = loadAc (r x) w := rfl
theorem under_act : Tryz.prog.underlying 42 = some (.struct (Tryz.prog.fieldsOf 42)) := by kernel_rfl
theorem size_act : (Tryz.prog.info? 42).map (·.size) = some 40 := by kernel_rfl
theorem loadAc_mid {w : World} {g o : Nat} {a : ActM} (hr : w.rangeAt g o (acl a)) (ho : a.s.Ok) : loadAc (.pointer (some ⟨g, o, none⟩)) w = .ok (.value (.agg (acc a))) w := by
  have := run_loadAt_mid (P := Tryz.prog) w g o 42 (acl a) _ hr under_act rfl (by rw [size_act, acl_length ho])
  unfold loadAc execOp
  simp only [Sem.run_bind, this, Result.andThen_ok, Sem.run_pure]
  rfl
theorem zero_act : (Tryz.prog.info? 42).bind (·.zero) = some (.agg (acc actZ)) := by kernel_rfl
theorem run_zero_act (w : World) : (zeroValue 42).run Tryz.prog w = .ok (.agg (acc actZ)) w := by
  have h := zero_act
  cases hq : Tryz.prog.info? 42 with
  | none => rw [hq] at h; cases h
  | some i =>
    rw [hq] at h
    have hz : i.zero = some (.agg (acc actZ)) := h
    simp [zeroValue, typeInfo, hq, hz]
noncomputable def allocAc (w : World) : Result Next := Sem.run Tryz.prog (execOp (fun _ => undef) { dst := none, op := .alloc 42, type := 0, pos := "", after := #[], guard := none }) w
theorem exec_alloc_ac (r : Operand → Value) (dst : Option Tmp) (ty : TypeId) (pos : String) (after : Array Edge) (guard : Option (Nat × Bool)) (w : World) :
    Sem.run Tryz.prog (execOp r { dst := dst, op := .alloc 42, type := ty, pos := pos, after := after, guard := guard }) w = allocAc w := rfl
theorem allocAc_eq (w : World) : allocAc w = .ok (.value (.pointer (some ⟨w.heap.size, 0, none⟩))) (w.alloc (.cells (acc actZ) 42)) := by
  unfold allocAc execOp
  simp only [Sem.run_bind, Instr.alloc, run_zero_act, newVar, newRow, run_newObj_alloc, Sem.run_pure, Result.andThen_ok, Value.cells]
noncomputable def storeAc (p v : Value) (w : World) : Result Next := Sem.run Tryz.prog (execOp (fun x => match x with
  | .tmp 0 => p
  | _ => v) { dst := none, op := .store 42 (.tmp 0) (.tmp 1), type := 0, pos := "", after := #[], guard := none }) w
theorem exec_store_ac (r : Operand → Value) (x y : Operand) (dst : Option Tmp) (ty : TypeId) (pos : String) (after : Array Edge) (guard : Option (Nat × Bool)) (w : World) :
    Sem.run Tryz.prog (execOp r { dst := dst, op := .store 42 x y, type := ty, pos := pos, after := after, guard := guard }) w = storeAc (r x) (r y) w := rfl
theorem ac_var (w : World) {Z S : Array Value} (hZ : Z.size = 40) (hS : S.size = 40) (h1 : S.all (·.oneCell') = true) :
    storeAc (.pointer (some ⟨w.heap.size, 0, none⟩)) (.agg S) (w.alloc (.cells Z 42)) = .ok .skip (w.alloc (.cells S 42)) := by
  have := run_storeVar_row (P := Tryz.prog) (w.alloc (.cells Z 42)) w.heap.size _ 42 Z S (heap_alloc_new w _) (by rw [size_act, hS]) (by rw [hZ, hS]) h1
  have e : (w.alloc (.cells Z 42)).setRow w.heap.size S = w.alloc (.cells S 42) := setSe_alloc w _ Z S
  rw [e] at this
  unfold storeAc execOp
  simp only [Instr.storeAt, Instr.sureAddr, Sem.run_bind, Sem.run_pure, Result.andThen_ok, this]
theorem info_act : (Tryz.prog.info? 42).map (fun i => (i.zero, i.size, decide (i.bytes ≤ 100000))) = some (some (.agg (acc actZ)), 40, true) := by kernel_rfl
theorem eltAc (w : World) : Elt acl (ActOk w) 40 42 22 := by
  refine ⟨by omega, fun _ h => acl_length h.1, acl_one, by kernel_rfl, by kernel_rfl, ?_⟩
  obtain ⟨i, hi, h⟩ := Option.map_eq_some_iff.1 info_act
  injection h with h1 h
  injection h with h2 h3
  exact ⟨i, _, hi, h1, h2, of_decide_eq_true h3, by show (acc actZ).size = 40; exact acc_size seZ_ok⟩
section
variable {H : Type} {enc : TypeId × Value → H} {w : World} {base : Nat} {spare : Nat → Bool} {held : Bool} {fuel : Nat} {cs : List Value} {x : DataW H × List MemPlace}
theorem fields_act : ∃ f0 f1 f2 f3 f4 f5 : Field, Tryz.prog.underlying 42 = some (.struct #[f0, f1, f2, f3, f4, f5]) ∧ (f0.type, f0.offset) = (3, 0) ∧ (f1.type, f1.offset) = (40, 1) ∧ (f2.type, f2.offset) = (3, 36)
    ∧ (f3.type, f3.offset) = (3, 37) ∧ (f4.type, f4.offset) = (3, 38) ∧ (f5.type, f5.offset) = (29, 39) :=
  ⟨_, _, _, _, _, _, Tryz.underlying42, rfl, rfl, rfl, rfl, rfl, rfl⟩
theorem trod_act (h : DataW.trod enc Tryz.prog w base spare held fuel 42 cs = some x) : ∃ a, ActOk w a ∧ cs = acl a := by
  obtain ⟨f0, f1, f2, f3, f4, f5, hu, e0, e1, e2, e3, e4, e5⟩ := fields_act
  injection e0 with t0 o0
  injection e1 with t1 o1
  injection e2 with t2 o2
  injection e3 with t3 o3
  injection e4 with t4 o4
  injection e5 with t5 o5
  obtain ⟨xs, m, _, _, hlen, hxl, hf⟩ := DataW.trod_struct hu h
  have hc : Tryz.prog.cellsOf 42 = 40 := by kernel_rfl
  have hci : Tryz.prog.cellsOf 3 = 1 := by kernel_rfl
  have hch : Tryz.prog.cellsOf 40 = 35 := by kernel_rfl
  have hcb : Tryz.prog.cellsOf 29 = 1 := by kernel_rfl
  rw [hc] at hlen
  have hx : xs.length = 6 := hxl
  have g0 := hf 0 f0 rfl
  have g1 := hf 1 f1 rfl
  have g2 := hf 2 f2 rfl
  have g3 := hf 3 f3 rfl
  have g4 := hf 4 f4 rfl
  have g5 := hf 5 f5 rfl
  rw [t0, o0, hci, List.getElem?_eq_getElem (by omega)] at g0
  rw [t1, o1, hch, List.getElem?_eq_getElem (by omega)] at g1
  rw [t2, o2, hci, List.getElem?_eq_getElem (by omega)] at g2
  rw [t3, o3, hci, List.getElem?_eq_getElem (by omega)] at g3
  rw [t4, o4, hci, List.getElem?_eq_getElem (by omega)] at g4
  rw [t5, o5, hcb, List.getElem?_eq_getElem (by omega)] at g5
  obtain ⟨n0, c0, _, _⟩ := DataW.trod_int Tryz.underlying3 g0
  obtain ⟨s1, hs1, c1⟩ := trod_se g1
  obtain ⟨n2, c2, _, w2⟩ := DataW.trod_int Tryz.underlying3 g2
  obtain ⟨n3, c3, _, w3⟩ := DataW.trod_int Tryz.underlying3 g3
  obtain ⟨n4, c4, _, w4⟩ := DataW.trod_int Tryz.underlying3 g4
  obtain ⟨v5, l5, c5, b5⟩ := trod_bytes g5
  obtain ⟨A5, d5, rfl⟩ := b5.shape
  refine ⟨⟨n0, s1, n2, n3, n4, A5, d5, l5⟩, ⟨hs1, ⟨w2, w3, w4⟩, b5⟩, ?_⟩
  have e : cs = cs.drop 0 := rfl
  rw [e, drop_part c0, drop_part c1, drop_part c2, drop_part c3, drop_part c4, drop_part c5, List.drop_eq_nil_of_le (by omega)]
  unfold acl ActM.b
  simp only [List.append_nil, List.cons_append, List.nil_append]
theorem trod_acts (h : DataW.trod enc Tryz.prog w base spare held fuel 22 cs = some x) : ∃ v L, cs = [v] ∧ Els acl 40 w v L ∧ ∀ a ∈ L, ActOk w a :=
  (eltAc w).trod actZ (actZ_ok w) (fun h => trod_act h) h
end
def LitAc (L : List ActM) : Prop := L.length ≤ 40 ∧ ∀ j (h : j < L.length), L[j].bl.length ≤ 1200
def LtPost (L : List ActM) (w : World) (e : Ending) (w' : World) : Prop := ∃ q, e = .returned (.bool q) ∧ (q = true → LitAc L) ∧ w = w'
set_option maxHeartbeats 1600000 in
theorem light14_any (v : Value) (L : List ActM) (w : World) (hv : Els acl 40 w v L) (ho : ∀ a ∈ L, ActOk w a) :
    Calls Tryz.prog 6 #[v] w (LtPost L w) := by
  obtain ⟨A, c, rfl⟩ := hv.shape
  have hr := hv.at_.2.2.2
  have HR := hid hr
  obtain ⟨N, HN⟩ : ∃ q : Nat, Hid (L.length = q) := ⟨_, hid rfl⟩
  have HCEL : Hid (∀ k (h : k < L.length), ∃ b off, A = some ⟨b, off, none⟩ ∧ b < w.heap.size ∧ w.cell? ⟨b, off + k * 40 + 39, none⟩ = some L[k].b) := hid (fun k hk => by
    obtain ⟨b, off, e, hb, hc⟩ := hr (by omega)
    refine ⟨b, off, e, hb, ?_⟩
    exact hc k hk 39 _ (acl_tail (ho _ (List.getElem_mem hk)).1).2.2.2)
  rw [HN.out]
  clear hv ho hr HR
  go_enter Tryz.func6, Tryz.ntmps6
  go_wp2
  go_loopw [3] (fun si wr => ∃ k : Nat, k ≤ N ∧ k ≤ 41 ∧ si = .int .i64 k ∧ Hid (∀ j (h : j < L.length), j < k → L[j].bl.length ≤ 1200) ∧ wr = w) (fun si _ => N - (intOf si).toNat)
  case atStart => exact ⟨0, Nat.zero_le _, Nat.zero_le _, rfl, hid (fun _ _ h => absurd h (Nat.not_lt_zero _)), rfl⟩
  case round =>
    obtain ⟨k, hk, hk1, rfl, HB, rfl⟩ := hrel
    by_cases hlt : k < N
    · have hlt' : (k : Int) < (N : Int) := by omega
      by_cases h40 : k ≤ 40
      · have h40' : (k : Int) ≤ 40 := by omega
        have hkL : k < L.length := by rw [HN.out]; exact hlt
        obtain ⟨b, off, rfl, hb, hc⟩ := HCEL.out k hkL
        obtain ⟨M, HM⟩ : ∃ q : Nat, Hid (L[k].bl.length = q) := ⟨_, hid rfl⟩
        unfold ActM.b at hc
        rw [HM.out] at hc
        have HLT := hid hlt
        have HK1 := hid hk1
        by_cases hM : (1200 : Int) < (M : Int)
        · go_wp2
          go_ret
          exact ⟨_, rfl, (fun h => by cases h), rfl⟩
        · have HMM := hid hM
          go_wp2
          go_round
          case rel => exact ⟨k + 1, by omega, by omega, by go_num, hid (fun j hj hjk => by
            by_cases e : j = k
            · subst e
              have := HMM.out
              have := HM.out
              omega
            · exact HB.out j hj (by omega)), by trivial⟩
          case measure => simp [intOf]; omega
      · have h40' : ¬ (k : Int) ≤ 40 := by omega
        have hN : ¬ (N : Int) ≤ 40 := by omega
        clear hk hk1
        go_wp2
        go_ret
        exact ⟨_, rfl, (fun h => by cases h), rfl⟩
    · have hlt' : ¬ (k : Int) < (N : Int) := by omega
      obtain rfl : k = N := by omega
      by_cases h40 : (k : Int) ≤ 40
      · go_wp2
        go_ret
        exact ⟨_, rfl, (fun _ => ⟨by have := HN.out; omega, fun j hj => HB.out j hj (by have := HN.out; omega)⟩), rfl⟩
      · go_wp2
        go_ret
        exact ⟨_, rfl, (fun h => by cases h), rfl⟩
end Go.Proofs.YtghophbabbaleaaGreatDoor
