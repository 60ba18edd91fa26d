/-
  Which hash digits are: sha.worth, sha.Unhex.
-/
import Derived.Test.YtoeemiknbogdpaaDoorOf
import Derived.Test.YtoeemiknbogdpaaDoorHexs
namespace Go.Proofs.YtoeemiknbogdpaaDoor
open Go.RowKit

/-- What a digit is worth, and whether it is one. -/
def dv (y : Int) : Int := if 48 ≤ y ∧ y ≤ 57 then y - 48 else if 97 ≤ y ∧ y ≤ 102 then y - 87 else 0
def dk (y : Int) : Bool := decide (48 ≤ y ∧ y ≤ 57) || decide (97 ≤ y ∧ y ≤ 102)
theorem dv_lt (y : Int) : 0 ≤ dv y ∧ dv y ≤ 15 := by
  unfold dv
  split
  · omega
  · split <;> omega
theorem ret_u8b {a b : Int} {p q : Bool} (h : a = b) (h2 : p = q) : Ending.returned (.tuple #[.int .u8 a, .bool p]) = .returned (.tuple #[.int .u8 b, .bool q]) := by rw [h, h2]

theorem worth_any (y : Int) (w : World) (h0 : 0 ≤ y) (h1 : y ≤ 255) : Calls Tryd.prog 33 #[.int .u8 y] w fun e w' => e = .returned (.tuple #[.int .u8 (dv y), .bool (dk y)]) ∧ w = w' := by
  by_cases ha : 48 ≤ y
  · by_cases hb : y ≤ 57
    · go_enter Tryd.func33, Tryd.ntmps33
      go_wp2
      go_ret2
      exact ⟨ret_u8b (by unfold dv; rw [if_pos ⟨ha, hb⟩]) (by unfold dk; rw [decide_eq_true ⟨ha, hb⟩]; rfl), rfl⟩
    · by_cases hc : 97 ≤ y
      · by_cases hd : y ≤ 102
        · go_enter Tryd.func33, Tryd.ntmps33
          go_wp2
          go_ret2
          refine ⟨ret_u8b (by unfold dv; rw [if_neg (by omega), if_pos ⟨hc, hd⟩]; omega) (by unfold dk; rw [decide_eq_true (p := 97 ≤ y ∧ y ≤ 102) ⟨hc, hd⟩, Bool.or_true]), rfl⟩
        · go_enter Tryd.func33, Tryd.ntmps33
          go_wp2
          go_ret2
          refine ⟨ret_u8b (by unfold dv; rw [if_neg (by omega), if_neg (by omega)]) (by unfold dk; rw [decide_eq_false (by omega), decide_eq_false (by omega)]; rfl), rfl⟩
      · go_enter Tryd.func33, Tryd.ntmps33
        go_wp2
        go_ret2
        refine ⟨ret_u8b (by unfold dv; rw [if_neg (by omega), if_neg (by omega)]) (by unfold dk; rw [decide_eq_false (by omega), decide_eq_false (by omega)]; rfl), rfl⟩
  · have hc : ¬ 97 ≤ y := by omega
    go_enter Tryd.func33, Tryd.ntmps33
    go_wp2
    go_ret2
    refine ⟨ret_u8b (by unfold dv; rw [if_neg (by omega), if_neg (by omega)]) (by unfold dk; rw [decide_eq_false (by omega), decide_eq_false (by omega)]; rfl), rfl⟩

/-- Which hash a text is. -/
def okB (l : List UInt8) : Bool := decide (l.length = 64) && l.all fun c => dk (c.toNat : Int)
def unh (l : List UInt8) (i : Nat) : UInt8 := if okB l = true then UInt8.ofNat ((dv ((l.getD (2 * i) 0).toNat : Int)).toNat * 16 + (dv ((l.getD (2 * i + 1) 0).toNat : Int)).toNat) else 0
theorem u8_ext {a b : Int} (h : a = b) : Value.int .u8 a = .int .u8 b := by rw [h]
/-- Two results: a hash that lies in memory, and a bool. -/
theorem result_pair {fn : Func} {p q : Tmp} (h : fn.results = #[.cell p 26, .tmp q]) (tmps : Array Value) (w : World) {g : Nat} {t : TypeId} {f : Nat → Value} {v : Value}
    (hp : tmps.getD p undef = .pointer (some ⟨g, 0, none⟩)) (hq : tmps.getD q undef = v) (hg : Blk w g 32 f t) : (results fn tmps).run Tryd.prog w = .ok (.tuple #[.agg (fcells 32 f), v]) w := by
  have hp' : tmps[p]?.getD undef = .pointer (some ⟨g, 0, none⟩) := by simpa using hp
  have hq' : tmps[q]?.getD undef = v := by simpa using hq
  have r1 := run_loadVar_row (P := Tryd.prog) w g t 26 (fcells 32 f) (0, 0) _ hg arrH.under rfl (by rw [arrH.size, fcells_size])
  simp [results, h, hp', hq', asAddr, r1]

def yv (l : List UInt8) (j : Nat) : Int := ((l.getD j 0).toNat : Int)
theorem yv_lt (l : List UInt8) (j : Nat) : 0 ≤ yv l j ∧ yv l j ≤ 255 := byte_lt _
def val2 (l : List UInt8) (i : Nat) : UInt8 := UInt8.ofNat ((dv (yv l (2 * i))).toNat * 16 + (dv (yv l (2 * i + 1))).toNat)
theorem unh_ok {l : List UInt8} (h : okB l = true) (i : Nat) : unh l i = val2 l i := if_pos h
theorem unh_no {l : List UInt8} (h : okB l = false) (i : Nat) : unh l i = 0 := if_neg (by rw [h]; decide)
theorem okB_no {l : List UInt8} {j : Nat} (hj : j < l.length) (h : dk (yv l j) = false) : okB l = false := by
  unfold okB
  rw [Bool.and_eq_false_iff]
  refine .inr (Bool.eq_false_iff.2 fun hall => ?_)
  have := List.all_eq_true.1 hall l[j] (List.getElem_mem hj)
  have e : yv l j = (l[j].toNat : Int) := by
    unfold yv
    rw [List.getD_eq_getElem?_getD, List.getElem?_eq_getElem hj]
    rfl
  rw [e] at h
  rw [h] at this
  cases this
theorem okB_yes {l : List UInt8} (hl : l.length = 64) (h : ∀ j, j < 64 → dk (yv l j) = true) : okB l = true := by
  unfold okB
  rw [Bool.and_eq_true]
  refine ⟨decide_eq_true hl, List.all_eq_true.2 fun c hc => ?_⟩
  obtain ⟨j, hj, rfl⟩ := List.getElem_of_mem hc
  have := h j (by omega)
  unfold yv at this
  rw [List.getD_eq_getElem?_getD, List.getElem?_eq_getElem hj] at this
  exact this
theorem ret_pair {f g : Nat → Value} {p q : Bool} (h : ∀ j, j < 32 → f j = g j) (h2 : p = q) : Ending.returned (.tuple #[.agg (fcells 32 f), .bool p]) = .returned (.tuple #[.agg (fcells 32 g), .bool q]) := by rw [fcells_congr h, h2]
theorem or_dig (a b : Int) (h0 : 0 ≤ a) (h1 : a ≤ 15) (h2 : 0 ≤ b) (h3 : b ≤ 15) : bits BinOp.or IntKind.u8 (a * 16) b = a * 16 + b := by
  obtain ⟨m, rfl⟩ := Int.eq_ofNat_of_zero_le h0
  obtain ⟨n, rfl⟩ := Int.eq_ofNat_of_zero_le h2
  have h : ∀ m : Fin 16, ∀ n : Fin 16, bits BinOp.or IntKind.u8 (((m.val : Nat) : Int) * 16) ((n.val : Nat) : Int) = ((m.val : Nat) : Int) * 16 + ((n.val : Nat) : Int) := by decide +kernel
  exact h ⟨m, by omega⟩ ⟨n, by omega⟩

set_option maxHeartbeats 1600000 in
theorem unhex_any (s : ByteArray) (w : World) (_hs : s.size ≤ 1000000) :
    Calls Tryd.prog 18 #[.string s] w fun e w' => e = .returned (.tuple #[.agg (fcells 32 fun j => bcell (unh s.data.toList j)), .bool (okB s.data.toList)]) ∧ Below w.heap.size w w' := by
  obtain ⟨l, Hl⟩ : ∃ l : List UInt8, Hid (s.data.toList = l) := ⟨_, hid rfl⟩
  have hsz : s.size = l.length := by rw [← Hl.out]; simp
  have hget : ∀ j, j < l.length → s[j]? = some (l.getD j 0) := fun j hj => by
    have hj2 : j < s.size := by omega
    rw [← Hl.out]
    simp [List.getD_eq_getElem?_getD, hj2]
    rfl
  rw [Hl.out]
  have hb0 : Below w.heap.size w ((w.alloc (.cells (fcells 32 fun _ => bcell 0) 26)).alloc (.cells (fcells 32 fun _ => bcell 0) 26)) := ((Below.refl _ _).alloc (Nat.le_refl _) _).alloc (by simp) _
  have hR0 : Blk ((w.alloc (.cells (fcells 32 fun _ => bcell 0) 26)).alloc (.cells (fcells 32 fun _ => bcell 0) 26)) w.heap.size 32 (fun _ => bcell 0) 26 := (Blk.new w _ _ _).alloc _
  have hH0 : Blk ((w.alloc (.cells (fcells 32 fun _ => bcell 0) 26)).alloc (.cells (fcells 32 fun _ => bcell 0) 26)) (w.heap.size + 1) 32 (fun _ => bcell 0) 26 := heap_alloc2_new w _ _
  obtain ⟨L, HL⟩ : ∃ L : Nat, Hid (l.length = L) := ⟨_, hid rfl⟩
  by_cases h64 : L = 64
  · have hL : l.length = 64 := HL.out.trans h64
    have hne : ((s.size : Int) != 64) = false := by rw [bne_eq_false_iff_eq]; omega
    have hLh := hid hL
    clear hL hsz
    have HG := hid hget
    clear hget
    go_enter Tryd.func18, Tryd.ntmps18
    go_wp2_with (refine wpList_alloc_arr arrH rfl rfl ?_)
    generalize ((w.alloc (.cells (fcells 32 fun _ => bcell 0) 26)).alloc (.cells (fcells 32 fun _ => bcell 0) 26)) = w0 at *
    go_loopw [14] (fun si wr => ∃ i : Nat, i ≤ 32 ∧ si = .int .i64 i ∧ Below w.heap.size w wr ∧ Blk wr w.heap.size 32 (fun _ => bcell 0) 26 ∧ Blk wr (w.heap.size + 1) 32 (partB (val2 l) i) 26 ∧ Hid (∀ j, j < 2 * i → dk (yv l j) = true)) (fun si _ => 32 - (intOf si).toNat)
    case atStart => exact ⟨0, by omega, rfl, hb0, hR0, hH0.congr fun i _ => by simp [partB], hid (fun j hj => by omega)⟩
    case round =>
      clear hb0 hR0 hH0
      obtain ⟨i, hi, rfl, hbw, hR, hH, HD⟩ := hrel
      by_cases hlt : i < 32
      · have hi32 : (i : Int) < 32 := by omega
        obtain ⟨y0, hy0, hy0', Y0⟩ : ∃ y : Int, 0 ≤ y ∧ y ≤ 255 ∧ Hid (yv l (2 * i) = y) := ⟨_, (yv_lt _ _).1, (yv_lt _ _).2, hid rfl⟩
        obtain ⟨y1, hy1, hy1', Y1⟩ : ∃ y : Int, 0 ≤ y ∧ y ≤ 255 ∧ Hid (yv l (2 * i + 1) = y) := ⟨_, (yv_lt _ _).1, (yv_lt _ _).2, hid rfl⟩
        have i0 : ∀ w : World, (Instr.index 9 (.string s) (.int .i64 (2 * (i : Int)))).run Tryd.prog w = .ok (.int .u8 y0) w := fun w => by
          have h := HG.out (2 * i) (by have := hLh.out; omega)
          have e : (2 * (i : Int)).toNat = 2 * i := by omega
          have e2 : 0 ≤ 2 * (i : Int) := by omega
          simp only [Instr.index, asIntOf, Sem.run_bind, run_underlying under_str, Sem.run_pure, Result.andThen_ok, e2, ↓reduceIte, e, h]
          exact congrArg (fun v => Result.ok v w) (u8_ext Y0.out)
        have i1 : ∀ w : World, (Instr.index 9 (.string s) (.int .i64 (2 * (i : Int) + 1))).run Tryd.prog w = .ok (.int .u8 y1) w := fun w => by
          have h := HG.out (2 * i + 1) (by have := hLh.out; omega)
          have e : (2 * (i : Int) + 1).toNat = 2 * i + 1 := by omega
          have e2 : 0 ≤ 2 * (i : Int) + 1 := by omega
          simp only [Instr.index, asIntOf, Sem.run_bind, run_underlying under_str, Sem.run_pure, Result.andThen_ok, e2, ↓reduceIte, e, h]
          exact congrArg (fun v => Result.ok v w) (u8_ext Y1.out)
        obtain ⟨d0, D0⟩ : ∃ d : Int, Hid (dv y0 = d) := ⟨_, hid rfl⟩
        obtain ⟨d1, D1⟩ : ∃ d : Int, Hid (dv y1 = d) := ⟨_, hid rfl⟩
        obtain ⟨p0, P0⟩ : ∃ p : Bool, Hid (dk y0 = p) := ⟨_, hid rfl⟩
        obtain ⟨p1, P1⟩ : ∃ p : Bool, Hid (dk y1 = p) := ⟨_, hid rfl⟩
        have d0b := dv_lt y0
        have d1b := dv_lt y1
        have W0 := worth_any y0
        have W1 := worth_any y1
        rw [D0.out] at d0b W0
        rw [D1.out] at d1b W1
        rw [P0.out] at W0
        rw [P1.out] at W1
        obtain ⟨d00, d01⟩ := d0b
        obtain ⟨d10, d11⟩ := d1b
        have W0h := hid W0
        have W1h := hid W1
        clear W0 W1
        have kc := hH.cell (i := i) (by omega)
        have fc := hH.free i
        have hltH := hH.lt
        cases p0 with
        | false =>
          have hno : okB l = false := okB_no (j := 2 * i) (by have := hLh.out; omega) (by rw [Y0.out]; exact P0.out)
          have HNO := hid hno
          clear hno
          go_wp2_with (first
            | (go_at_call 33; ((with_reducible refine (W0h.out _ hy0 hy0').mono ?_); rintro e w' ⟨rfl, rfl⟩))
            | (go_at_call 33; ((with_reducible refine (W1h.out _ hy1 hy1').mono ?_); rintro e w' ⟨rfl, rfl⟩))
            | (refine wpList_zero_arr arrH rfl rfl ?_)
            | (refine wpList_store_arr arrH rfl _ _ rfl rfl rfl hR (fun _ _ => rfl) ?_; intro w9 hg9 hA9 hs9))
          refine bodyPost_ret (result_pair rfl _ _ rfl rfl hA9) rfl ⟨ret_pair (fun j _ => by rw [unh_no HNO.out]) HNO.out.symm, below_into hbw (Nat.le_refl _) hg9 hbw.size⟩
        | true =>
          cases p1 with
          | false =>
            have hno : okB l = false := okB_no (j := 2 * i + 1) (by have := hLh.out; omega) (by rw [Y1.out]; exact P1.out)
            have HNO := hid hno
            clear hno
            go_wp2_with (first
              | (go_at_call 33; ((with_reducible refine (W0h.out _ hy0 hy0').mono ?_); rintro e w' ⟨rfl, rfl⟩))
              | (go_at_call 33; ((with_reducible refine (W1h.out _ hy1 hy1').mono ?_); rintro e w' ⟨rfl, rfl⟩))
              | (refine wpList_zero_arr arrH rfl rfl ?_)
              | (refine wpList_store_arr arrH rfl _ _ rfl rfl rfl hR (fun _ _ => rfl) ?_; intro w9 hg9 hA9 hs9))
            refine bodyPost_ret (result_pair rfl _ _ rfl rfl hA9) rfl ⟨ret_pair (fun j _ => by rw [unh_no HNO.out]) HNO.out.symm, below_into hbw (Nat.le_refl _) hg9 hbw.size⟩
          | true =>
            have hor := or_dig d0 d1 d00 d01 d10 d11
            go_wp2_with (first
              | (go_at_call 33; ((with_reducible refine (W0h.out _ hy0 hy0').mono ?_); rintro e w' ⟨rfl, rfl⟩))
              | (go_at_call 33; ((with_reducible refine (W1h.out _ hy1 hy1').mono ?_); rintro e w' ⟨rfl, rfl⟩)))
            go_roundw
            case rel =>
              refine ⟨i + 1, by omega, by go_num, below_set hbw (g := w.heap.size + 1) (by omega) _ _, hR.apart _ _ (by simp), (hH.set (i := i) (by omega) _).congr fun q _ => ?_, hid (fun j hj => ?_)⟩
              · rw [← partB_set]
                by_cases hq : q = i
                · subst hq
                  rw [if_pos rfl, if_pos rfl]
                  refine u8_ext ?_
                  unfold val2
                  rw [u8_ofNat, Y0.out, Y1.out, D0.out, D1.out]
                  omega
                · rw [if_neg hq, if_neg hq]
              · by_cases hj2 : j < 2 * i
                · exact HD.out j hj2
                · by_cases hj3 : j = 2 * i
                  · rw [hj3, Y0.out]; exact P0.out
                  · rw [show j = 2 * i + 1 from by omega, Y1.out]; exact P1.out
            case measure => simp [intOf]; omega
      · have hi32 : ¬ (i : Int) < 32 := by omega
        have hyes : okB l = true := okB_yes hLh.out (fun j hj => HD.out j (by omega))
        have HY := hid hyes
        clear hyes
        have hH2 : Blk wr (w.heap.size + 1) 32 (fun j => bcell (val2 l j)) 26 := hH.congr fun q hq => if_pos (by omega)
        go_wp2_with (first
          | (refine wpList_load_arr arrH rfl _ rfl rfl hH2 ?_)
          | (refine wpList_store_arr arrH rfl _ _ rfl rfl rfl hR (fun _ _ => rfl) ?_; intro w9 hg9 hA9 hs9))
        refine bodyPost_ret (result_pair rfl _ _ rfl rfl hA9) rfl ⟨ret_pair (fun j _ => by rw [unh_ok HY.out]) HY.out.symm, below_into hbw (Nat.le_refl _) hg9 hbw.size⟩
  · have hno : okB l = false := by
      unfold okB
      rw [decide_eq_false (by have := HL.out; omega)]
      rfl
    have HNO := hid hno
    have hne : ((s.size : Int) != 64) = true := by rw [bne_iff_ne]; have := HL.out; omega
    clear hno hget hsz
    go_enter Tryd.func18, Tryd.ntmps18
    go_wp2_with (first
      | (refine wpList_alloc_arr arrH rfl rfl ?_)
      | (refine wpList_zero_arr arrH rfl rfl ?_)
      | (refine wpList_store_arr arrH rfl _ _ rfl rfl rfl hR0 (fun _ _ => rfl) ?_; intro w9 hg9 hA9 hs9))
    refine bodyPost_ret (result_pair rfl _ _ rfl rfl hA9) rfl ⟨ret_pair (fun j _ => by rw [unh_no HNO.out]) HNO.out.symm, below_into hb0 (Nat.le_refl _) hg9 hb0.size⟩
end Go.Proofs.YtoeemiknbogdpaaDoor
