/-
  TxKey TxMay Arr Refs Same Text RefRead: what each of them says stands at its head.
-/
import Derived.Test.YtefngncieagobaaDoorMg2
import Derived.LoopTactic
import Derived.Outline
import Derived.Test.YtefngncieagobaaDoorMg1
import Derived.Laws.Rows
import Derived.Laws.Tables
import Derived.Laws.CopyOwn
import Derived.Deep.MidRow
import Derived.ChangeKeysEq
import Derived.Laws.StructEq
import Derived.Deep.QuietTactic
import Derived.BigQuiet
import Derived.StillTailTactics
import Derived.Deep.RegionHeld3
import Derived.Handy
/-
  tithingref06.Key and tithingref06.May: which keys and transactions there may be.
-/
namespace Go.Proofs.YtefngncieagobaaDoor
open Go.RowKit

theorem keyB_cases (c : UInt8) (y : Int) (hy : ((c.toNat : Nat) : Int) = y) : (keyB c = true ∧ 97 ≤ y ∧ y ≤ 122) ∨ (keyB c = true ∧ ¬ 97 ≤ y ∧ 48 ≤ y ∧ y ≤ 57) ∨ (keyB c = false ∧ 122 < y) ∨ (keyB c = false ∧ ¬ 97 ≤ y ∧ 57 < y) ∨ (keyB c = false ∧ y < 48) := by
  subst hy
  unfold keyB
  by_cases h1 : 97 ≤ c.toNat
  · by_cases h2 : c.toNat ≤ 122
    · exact .inl ⟨by simp [h1, h2], by omega, by omega⟩
    · exact .inr (.inr (.inl ⟨by simp [h2]; omega, by omega⟩))
  · by_cases h3 : 48 ≤ c.toNat
    · by_cases h4 : c.toNat ≤ 57
      · exact .inr (.inl ⟨by simp [h3, h4], by omega, by omega, by omega⟩)
      · exact .inr (.inr (.inr (.inl ⟨by simp [h1, h4], by omega, by omega⟩)))
    · exact .inr (.inr (.inr (.inr ⟨by simp [h1, h3], by omega⟩)))
theorem keyOk_no {l : List UInt8} {j : Nat} (hj : j < l.length) (h : keyB (l.getD j 0) = false) : keyOk l = false := by
  unfold keyOk
  have hm : l.getD j 0 ∈ l := by rw [List.getD_eq_getElem?_getD, List.getElem?_eq_getElem hj]; exact List.getElem_mem hj
  have : l.all keyB = false := by
    rw [Bool.eq_false_iff]
    intro ha
    rw [List.all_eq_true.1 ha _ hm] at h
    cases h
  rw [this, Bool.false_and]
theorem keyOk_yes {l : List UInt8} (h : ∀ j, j < l.length → keyB (l.getD j 0) = true) : keyOk l = (decide (1 ≤ l.length) && decide (l.length ≤ 16)) := by
  unfold keyOk
  have : l.all keyB = true := by
    rw [List.all_eq_true]
    intro c hc
    obtain ⟨j, hj, rfl⟩ := List.getElem_of_mem hc
    have := h j hj
    rwa [List.getD_eq_getElem?_getD, List.getElem?_eq_getElem hj] at this
  rw [this, Bool.true_and]

set_option maxHeartbeats 1600000 in
theorem refKey6_any (l : List UInt8) (w : World) (hs : l.length ≤ 1000000) :
    Calls Tryd.prog 16 #[.string (sb l)] w fun e w' => e = .returned (.bool (keyOk l)) ∧ w = w' := by
  have hsz := sb_size l
  obtain ⟨L, HL⟩ : ∃ L : Nat, Hid (l.length = L) := ⟨_, hid rfl⟩
  rw [HL.out] at hsz hs
  obtain ⟨s, HS⟩ : ∃ s : ByteArray, Hid (sb l = s) := ⟨_, hid rfl⟩
  rw [HS.out] at hsz ⊢
  go_enter Tryd.func16, Tryd.ntmps16
  go_wp2_with fail
  go_loopw [3] (fun si wr => ∃ i : Nat, i ≤ L ∧ si = .int .i64 (i : Int) ∧ Hid (∀ j, j < i → keyB (l.getD j 0) = true) ∧ Hid (w = wr)) (fun si _ => L - (intOf si).toNat)
  case atStart => exact ⟨0, Nat.zero_le _, rfl, hid (fun j hj => absurd hj (Nat.not_lt_zero _)), hid rfl⟩
  case round =>
    obtain ⟨i, hi, rfl, HD, HW⟩ := hrel
    obtain rfl := HW.out
    clear HW
    by_cases hlt : i < L
    · have hiL : (i : Int) < (L : Int) := by omega
      have hil : i < l.length := by rw [HL.out]; exact hlt
      obtain ⟨y, HY⟩ : ∃ y : Int, Hid (((l.getD i 0).toNat : Int) = y) := ⟨_, hid rfl⟩
      have i0 : ∀ w : World, (Instr.index 9 (.string s) (.int .i64 (i : Int))).run Tryd.prog w = .ok (.int .u8 y) w := fun w => by
        rw [← HS.out]
        exact str_index l i hil _ rfl HY.out w
      have hr : 0 ≤ y ∧ y ≤ 255 := by have := byte_lt (l.getD i 0); rw [HY.out] at this; exact this
      have HNO : ∀ (_ : keyB (l.getD i 0) = false), Hid (keyOk l = false) := fun h => hid (keyOk_no hil h)
      have HYES : ∀ (_ : keyB (l.getD i 0) = true), Hid (∀ j, j < i + 1 → keyB (l.getD j 0) = true) := fun h => hid (fun j hj => by
        rcases Nat.lt_or_ge j i with h2 | h2
        · exact HD.out j h2
        · obtain rfl : j = i := by omega
          exact h)
      obtain ⟨hk, h1, h2⟩ | ⟨hk, h1, h2, h3⟩ | ⟨hk, h1⟩ | ⟨hk, h1, h2⟩ | ⟨hk, h1⟩ := keyB_cases (l.getD i 0) y HY.out
      · have HY2 := HYES hk
        clear HNO HYES hk HD
        go_wp2_with fail
        go_roundw
        case rel => exact ⟨i + 1, by omega, by go_num, HY2, (by first | exact hid rfl | exact hid trivial)⟩
        case measure => simp [intOf]; omega
      · have HY2 := HYES hk
        clear HNO HYES hk HD
        go_wp2_with fail
        go_roundw
        case rel => exact ⟨i + 1, by omega, by go_num, HY2, (by first | exact hid rfl | exact hid trivial)⟩
        case measure => simp [intOf]; omega
      · have HN2 := HNO hk
        clear HNO HYES hk HD
        have h2 : 97 ≤ y := by omega
        have h3 : 48 ≤ y := by omega
        have h4 : ¬ y ≤ 57 := by omega
        have h5 : ¬ y ≤ 122 := by omega
        go_wp2_with fail
        go_ret
        exact ⟨by rw [HN2.out]; rfl, rfl⟩
      · have HN2 := HNO hk
        clear HNO HYES hk HD
        have h3 : 48 ≤ y := by omega
        have h4 : ¬ y ≤ 57 := by omega
        go_wp2_with fail
        go_ret
        exact ⟨by rw [HN2.out]; rfl, rfl⟩
      · have HN2 := HNO hk
        clear HNO HYES hk HD
        have h2 : ¬ 97 ≤ y := by omega
        have h3 : ¬ 48 ≤ y := by omega
        go_wp2_with fail
        go_ret
        exact ⟨by rw [HN2.out]; rfl, rfl⟩
    · have hiL : ¬ (i : Int) < (L : Int) := by omega
      obtain rfl : i = L := by omega
      have HK := hid (keyOk_yes (l := l) (by rw [HL.out]; exact HD.out))
      clear HD
      by_cases h1 : 1 ≤ i
      · have h1i : 1 ≤ (i : Int) := by omega
        by_cases h2 : i ≤ 16
        · have h2i : (i : Int) ≤ 16 := by omega
          go_wp2_with fail
          go_ret
          exact ⟨by rw [HK.out, HL.out, decide_eq_true h1, decide_eq_true h2]; rfl, rfl⟩
        · have h2i : ¬ (i : Int) ≤ 16 := by omega
          go_wp2_with fail
          go_ret
          exact ⟨by rw [HK.out, HL.out, decide_eq_true h1, decide_eq_false h2]; rfl, rfl⟩
      · have h1i : ¬ 1 ≤ (i : Int) := by omega
        go_wp2_with fail
        go_ret
        exact ⟨by rw [HK.out, HL.out, decide_eq_false h1]; rfl, rfl⟩
end Go.Proofs.YtefngncieagobaaDoor

/-
  tithingref06.May: which transactions there may be.
-/
namespace Go.Proofs.YtefngncieagobaaDoor
open Go.RowKit

set_option maxHeartbeats 6400000 in
theorem refMay_any (t : TxM) (w : World) (hk : t.key.length ≤ 1000000) (hv : t.val.length ≤ 1000000) :
    Calls Tryd.prog 6 #[txv t] w fun e w' => e = .returned (.bool (mayT t)) ∧ Below w.heap.size w w' := by
  obtain ⟨fr, no, ki, to, am, key, val⟩ := t
  simp only at hk hv
  have HK := hid hk
  have hvs := sb_size val
  have hke := sb_empty key
  have hve := sb_empty val
  clear hk hv
  unfold txv
  simp only
  obtain ⟨s, HS⟩ : ∃ s : ByteArray, Hid (sb key = s) := ⟨_, hid rfl⟩
  obtain ⟨u, HU⟩ : ∃ s : ByteArray, Hid (sb val = s) := ⟨_, hid rfl⟩
  obtain ⟨n, HN⟩ : ∃ n : Nat, Hid (val.length = n) := ⟨_, hid rfl⟩
  rw [HS.out] at hke ⊢
  rw [HU.out] at hve hvs ⊢
  rw [HN.out] at hvs
  obtain ⟨m, HM⟩ : ∃ m : Bool, Hid (mayT ⟨fr, no, ki, to, am, key, val⟩ = m) := ⟨_, hid rfl⟩
  rw [HM.out]
  obtain ⟨ke, HKE⟩ : ∃ b : Bool, Hid (decide (key = []) = b) := ⟨_, hid rfl⟩
  obtain ⟨ve, HVE⟩ : ∃ b : Bool, Hid (decide (val = []) = b) := ⟨_, hid rfl⟩
  rw [HKE.out] at hke
  rw [HVE.out] at hve
  go_enter Tryd.func6, Tryd.ntmps6
  go_wp2_with fail
  all_goals first
    | (have C := fun w => refKey6_any key w HK.out
       rw [HS.out] at C
       refine (C _).mono ?_
       clear C
       rintro e w1 ⟨rfl, rfl⟩
       obtain ⟨ko, HKO⟩ : ∃ b : Bool, Hid (keyOk key = b) := ⟨_, hid rfl⟩
       rw [HKO.out]
       have hko := HKO.out
       go_wp2_with fail)
    | skip
  all_goals
    go_ret
    refine ⟨?_, (Below.refl _ _).alloc (Nat.le_refl _) _⟩
    refine congrArg (fun b => Ending.returned (Value.bool b)) ?_
    rw [← HM.out]
    clear HM HS HU HK
    unfold mayT
    simp only [HKE.out, HVE.out, HN.out]
  all_goals grind
end Go.Proofs.YtefngncieagobaaDoor

/-
  A hash is an array of 32 bytes: how such a variable is laid, read and written whole; how bytes are copied into a row. Laws for the walk.
-/
namespace Go.Proofs.YtefngncieagobaaDoor
open Go.RowKit

/-- A hash's cells. -/
def hcells (h : List UInt8) : Array Value := (bcells h).toArray
/-- Noughts. -/
def nought : List UInt8 := List.replicate 32 0
theorem nought_length : nought.length = 32 := by simp [nought]
theorem hcells_size (h : List UInt8) : (hcells h).size = h.length := by simp [hcells, bcells]
theorem hcells_list (h : List UInt8) : (hcells h).toList = bcells h := by simp [hcells]
theorem hcells_one (h : List UInt8) : (hcells h).all (·.oneCell') = true := all_oneCell_toArray (bcells_one h)

theorem zero_hash : (Tryd.prog.info? 31).bind (·.zero) = some (.agg (hcells nought)) := by kernel_rfl
theorem size_hash : (Tryd.prog.info? 31).map (·.size) = some 32 := by kernel_rfl
theorem under_hash : Tryd.prog.underlying 31 = some (.array 32 5) := by kernel_rfl

theorem run_zero_hash (w : World) : (zeroValue 31).run Tryd.prog w = .ok (.agg (hcells nought)) w := by
  have h := zero_hash
  cases hq : Tryd.prog.info? 31 with
  | none => rw [hq] at h; cases h
  | some i =>
    rw [hq] at h
    have hz : i.zero = some (.agg (hcells nought)) := h
    simp [zeroValue, typeInfo, hq, hz]

theorem wpList_alloc_hash {ops : Array Oper} {rest : List Oper} {o : Oper} {a : Act} {w : World} {Q : Exit → Act → World → Prop} (hgd : o.guard = none) (ho : o.op = .alloc 31)
    (h : wpList Tryd.prog ops Q rest (a.put o.dst (.pointer (some ⟨w.heap.size, 0, none⟩))) (w.alloc (.cells (hcells nought) 31))) : wpList Tryd.prog ops Q (o :: rest) a w :=
  wpList_plain hgd fun _ hK => by
    unfold Oper.wp execOp
    simp only [ho, Sem.run_bind, Instr.alloc, run_zero_hash, newVar, newRow, run_newObj_alloc, Sem.run_pure, Result.andThen_ok, Value.cells]
    exact hK _ _ h

theorem wpList_load_hash {ops : Array Oper} {rest : List Oper} {o : Oper} {a : Act} {w : World} {Q : Exit → Act → World → Prop} (hgd : o.guard = none) (x : Operand) (ho : o.op = .load 31 x)
    {g : Nat} {t : TypeId} {h : List UInt8} (hx : a.eval x = .pointer (some ⟨g, 0, none⟩)) (hg : w.heap[g]? = some (.cells (hcells h) t (0, 0))) (hl : h.length = 32)
    (hh : wpList Tryd.prog ops Q rest (a.put o.dst (.agg (hcells h))) w) : wpList Tryd.prog ops Q (o :: rest) a w :=
  wpList_load_row hgd _ x ho g hx t (hcells h) (0, 0) _ hg under_hash rfl (by rw [size_hash, hcells_size, hl]) hh

theorem wpList_store_hash {ops : Array Oper} {rest : List Oper} {o : Oper} {a : Act} {w : World} {Q : Exit → Act → World → Prop} (hgd : o.guard = none) (x y : Operand) (ho : o.op = .store 31 x y)
    {g : Nat} {t : TypeId} {h h' : List UInt8} (hx : a.eval x = .pointer (some ⟨g, 0, none⟩)) (hy : a.eval y = .agg (hcells h')) (hg : w.heap[g]? = some (.cells (hcells h) t (0, 0))) (hl : h.length = 32) (hl' : h'.length = 32)
    (hh : ∀ w', w.grownBy w' (some g) → Hid (w'.heap[g]? = some (.cells (hcells h') t (0, 0))) → w'.heap.size = w.heap.size → wpList Tryd.prog ops Q rest (a.put o.dst undef) w') : wpList Tryd.prog ops Q (o :: rest) a w :=
  wpList_store_row hgd _ x y ho g (hcells h') hx hy t (hcells h) hg (by rw [size_hash, hcells_size, hl']) (by rw [hcells_size, hcells_size, hl, hl']) (hcells_one _)
    (hh _ ⟨rfl, rfl, rfl, by simp, fun k _ hk => setRow_other w g k _ (fun e => hk (by simp [e]))⟩ (setRow_heap w g _ _ t _ hg) (by simp))

/-- copy of bytes into a row that is known whole. -/
theorem wpList_copy_byt {ops : Array Oper} {rest : List Oper} {o : Oper} {a : Act} {w : World} {Q : Exit → Act → World → Prop} (hgd : o.guard = none) (d s : Operand)
    (ho : o.op = .call { callee := .builtin .copy, args := #[d, s], argTypes := #[24, 24] })
    {dp : Option Addr} {dLen dCap : Nat} {v : Value} {m : List UInt8} (hd : a.eval d = .slice dp dLen dCap) (hs : a.eval s = v) (hv : Byt w v m)
    {g off : Nat} {cur : List UInt8} {t : TypeId} (hg : w.heap[g]? = some (.cells (hcells cur) t (0, 0))) {k : Nat} (hk : k = Nat.min m.length dLen)
    (hdp : 0 < k → dp = some ⟨g, off, none⟩) (hfit : off + k ≤ cur.length)
    (h : ∀ w', w.grownBy w' (some g) → Hid (w'.heap[g]? = some (.cells (hcells (splice cur off (m.take k))) t (0, 0))) → w'.heap.size = w.heap.size → wpList Tryd.prog ops Q rest (a.put o.dst (goInt k)) w') :
    wpList Tryd.prog ops Q (o :: rest) a w := by
  obtain ⟨A, c, rfl, h1, h2, hr⟩ := hv
  have hsz : (Tryd.prog.info? 5).map (·.size) = some 1 := by kernel_rfl
  have hkm : k ≤ m.length := by rw [hk]; exact Nat.min_le_left _ _
  by_cases h0 : k = 0
  · subst h0
    refine wpList_copy_nothing hgd d s _ _ ho 5 under_bytes hsz dp A dLen dCap m.length c hd hs (by omega) ?_
    refine h w (World.grownBy.refl _ _) ?_ rfl
    have e : splice cur off (m.take 0) = cur := by simp [splice]
    rw [e]
    exact hid hg
  · obtain rfl := hdp (by omega)
    obtain ⟨b, off2, rfl, hb, hc⟩ := hr (by omega)
    have hlen : (bcells (m.take k)).length = k := by simp [bcells]; omega
    have hrow : (hcells cur).toList.take off ++ (bcells (m.take k) ++ (hcells cur).toList.drop (off + (bcells (m.take k)).length)) = bcells (splice cur off (m.take k)) := by
      rw [hlen, hcells_list]
      have : (m.take k).length = k := by simp; omega
      simp [splice, bcells, List.map_take, List.map_drop, this]
    refine wpList_copy_own hgd d s _ _ ho 5 under_bytes hsz g off dLen dCap ⟨b, off2, none⟩ m.length c hd hs (hcells cur) t hg (bcells (m.take k)) (by rw [hlen, hk]) ?_ (by rw [hlen, hcells_size]; exact hfit) (bcells_one _) ?_
    · intro j u hu
      obtain ⟨hj, rfl⟩ := bcells_get _ j u hu
      rw [addr_add]
      have hjm : j < m.length := by simp at hj; omega
      rw [hc j hjm, List.getElem_take]
    · rw [hrow, hlen]
      exact h _ ⟨rfl, rfl, rfl, by simp, fun q _ hq => setRow_other w g q _ (fun e => hq (by simp [e]))⟩ (setRow_heap w g _ _ t _ hg) (by simp)

theorem hcells_get (h : List UInt8) (i : Nat) (hi : i < h.length) : (hcells h)[i]? = some (bcell h[i]) := by simp [hcells, bcells, hi]

/-- Two hashes are the same where all their bytes are. -/
theorem eqItems_bytes (d : Nat) (a b : List UInt8) (w : World) : ∀ is : List Nat, (∀ i ∈ is, i < a.length ∧ i < b.length) →
    (Op.eqItems (d + 1) 5 (Tryd.prog.cellsOf 5) (hcells a) (hcells b) is).run Tryd.prog w = .ok (is.all fun i => decide (a[i]? = b[i]?)) w := by
  have hc : Tryd.prog.cellsOf 5 = 1 := by kernel_rfl
  have hp : Tryd.prog.plainKey 5 = true := by kernel_rfl
  have hu : Tryd.prog.underlying 5 = some (.int .u8) := by kernel_rfl
  rw [hc]
  intro is
  induction is with
  | nil => intro _; simp [Op.eqItems]
  | cons i is ih =>
    intro h
    obtain ⟨hi, hj⟩ := h i (by simp)
    have ih' := ih (fun j hj => h j (List.mem_cons_of_mem _ hj))
    have pa := run_part_plain (P := Tryd.prog) w hp (hcells_get a i hi)
    have pb := run_part_plain (P := Tryd.prog) w hp (hcells_get b i hj)
    have pe := run_equalIn_int (P := Tryd.prog) w d 5 .u8 .u8 (a[i].toNat : Int) (b[i].toNat : Int) hu
    unfold bcell at pa pb
    simp only [Op.eqItems, Sem.run_bind, Nat.mul_one, pa, pb, pe, Result.andThen_ok]
    by_cases e : a[i] = b[i]
    · simp [ih', hi, hj, e]
    · have e1 : ((a[i].toNat : Int) == (b[i].toNat : Int)) = false := by
        rw [beq_eq_false_iff_ne]
        intro h
        exact e (UInt8.toNat_inj.1 (by omega))
      simp [e1, hi, hj, e]
theorem eq_hash (a b : List UInt8) (ha : a.length = 32) (hb : b.length = 32) (w : World) : (Op.equalIn 10000 31 (.agg (hcells a)) (.agg (hcells b))).run Tryd.prog w = .ok (decide (a = b)) w := by
  obtain ⟨i0, hi, _⟩ := info_parts info_u8
  rw [run_equalIn_array w 9999 (hcells a) (hcells b) under_hash hi, eqItems_bytes 9998 a b w _ (fun i h => by have := List.mem_range.1 h; omega)]
  congr 1
  rw [Bool.eq_iff_iff]
  simp only [List.all_eq_true, List.mem_range, decide_eq_true_eq]
  constructor
  · intro h
    apply List.ext_getElem?
    intro i
    by_cases h32 : i < 32
    · exact h i h32
    · rw [List.getElem?_eq_none (by omega), List.getElem?_eq_none (by omega)]
  · rintro rfl i _
    rfl

/-- A row of the call's own that has no spare room is a block that is known whole. -/
theorem own_full {B n : Nat} {w : World} {A : Option Addr} {l : List UInt8} (h : Own B w (.slice A n n) l) (hn : 0 < n) : ∃ g, A = some ⟨g, 0, none⟩ ∧ B ≤ g ∧ w.heap[g]? = some (.cells (hcells l) 5 (0, 0)) := by
  rcases h.2 with ⟨e, _⟩ | ⟨g, cap, cur, e, hg, hh, hnc, _, hs, ht⟩
  · injection e with _ e; omega
  · injection e with e1 e2 e3
    refine ⟨g, e1, hg, ?_⟩
    rw [hh]
    have hl : cur.toList = bcells l := by
      rw [← ht, List.take_of_length_le]
      rw [Array.length_toList, hs]
      omega
    have : cur = hcells l := by
      apply Array.ext'
      rw [hl, hcells_list]
    rw [this]
/-- A block of bytes is a row of the call's own. -/
theorem own_of_blk {B g n : Nat} {w : World} {l : List UInt8} (hg : w.heap[g]? = some (.cells (hcells l) 5 (0, 0))) (hB : B ≤ g) (hn : n = l.length) (hm : n ≤ maxLen) : Own B w (.slice (some ⟨g, 0, none⟩) n n) l := by
  subst hn
  refine ⟨by simp [bcells], .inr ⟨g, l.length, hcells l, rfl, hB, hg, Nat.le_refl _, hm, by rw [hcells_size, Nat.mul_one], ?_⟩⟩
  rw [hcells_list, Nat.mul_one, List.take_of_length_le (by simp [bcells])]
/-- .. and reads as those bytes, whatever its type. -/
theorem byt_of_blk {g n : Nat} {w : World} {l : List UInt8} {t : TypeId} (hg : w.heap[g]? = some (.cells (hcells l) t (0, 0))) (hn : n = l.length) (hm : n ≤ maxLen) : Byt w (.slice (some ⟨g, 0, none⟩) n n) l := by
  subst hn
  refine ⟨_, _, rfl, Nat.le_refl _, hm, fun _ => ⟨g, 0, rfl, lt_of_block hg, fun j hj => ?_⟩⟩
  rw [Nat.zero_add, cell_of_row w g j _ t (0, 0) hg, hcells_get l j hj]
theorem splice_head (Z l : List UInt8) : splice Z 0 l = l ++ Z.drop l.length := by simp [splice]
theorem splice_two (Z l m : List UInt8) (h : Z.length = l.length + m.length) : splice (splice Z 0 l) l.length m = l ++ m := by
  have e : (Z.drop l.length).drop m.length = [] := by rw [List.drop_drop]; exact List.drop_eq_nil_of_le (by omega)
  rw [splice_head Z l]
  simp only [splice, List.take_left', List.drop_append]
  rw [List.drop_eq_nil_of_le (by omega), List.nil_append, show l.length + m.length - l.length = m.length from by omega, e, List.append_nil]

/-- copy of bytes into a row that is known whole: as an equation of runs. -/
theorem run_copy_byt {w : World} {dp : Option Addr} {dLen dCap : Nat} {v : Value} {m : List UInt8} (ty : TypeId) (hv : Byt w v m)
    {g off : Nat} {cur : List UInt8} {t : TypeId} (hg : w.heap[g]? = some (.cells (hcells cur) t (0, 0))) {k : Nat} (hk : k = Nat.min m.length dLen) (h0 : 0 < k)
    (hdp : dp = some ⟨g, off, none⟩) (hfit : off + k ≤ cur.length) :
    ∃ w', (Builtin.copy_ #[24, 24] ty #[.slice dp dLen dCap, v]).run Tryd.prog w = .ok (.int .i64 (k : Int)) w' ∧ w.grownBy w' (some g) ∧ w'.heap[g]? = some (.cells (hcells (splice cur off (m.take k))) t (0, 0)) ∧ w'.heap.size = w.heap.size := by
  obtain ⟨A, c, rfl, h1, h2, hr⟩ := hv
  have hsz : (Tryd.prog.info? 5).map (·.size) = some 1 := by kernel_rfl
  have hkm : k ≤ m.length := by rw [hk]; exact Nat.min_le_left _ _
  subst hdp
  obtain ⟨b, off2, rfl, hb, hc⟩ := hr (by omega)
  have hlen : (bcells (m.take k)).length = k := by simp [bcells]; omega
  have hrow : (hcells cur).toList.take off ++ bcells (m.take k) ++ (hcells cur).toList.drop (off + (bcells (m.take k)).length) = bcells (splice cur off (m.take k)) := by
    rw [hlen, hcells_list]
    have : (m.take k).length = k := by simp; omega
    simp [splice, bcells, List.map_take, List.map_drop, this]
  have hrun := run_copy_row (P := Tryd.prog) w 24 24 ty 5 g off dLen dCap ⟨b, off2, none⟩ m.length c (hcells cur) t (bcells (m.take k)) under_bytes hsz hg (by rw [hlen, hk]) (fun j u hu => by
    obtain ⟨hj, rfl⟩ := bcells_get _ j u hu
    rw [addr_add]
    have hjm : j < m.length := by simp at hj; omega
    rw [hc j hjm, List.getElem_take]) (by rw [hlen, hcells_size]; exact hfit) (bcells_one _)
  rw [hrow, hlen] at hrun
  exact ⟨_, hrun, ⟨rfl, rfl, rfl, by simp, fun q _ hq => setRow_other w g q _ (fun e => hq (by simp [e]))⟩, setRow_heap w g _ _ t _ hg, by simp⟩
end Go.Proofs.YtefngncieagobaaDoor

/-
  The document's answers for numbers and texts as bytes: tithingref01.Num, Text.
-/
namespace Go.Proofs.YtefngncieagobaaDoor
open Go.RowKit

theorem refnum_to (k : Nat) : ∀ (n : Int) (w : World), 0 ≤ n → n < 18446744073709551616 → n.toNat ≤ k →
    Calls Tryd.prog 23 #[.int .u64 n] w fun e w' => ∃ v, e = .returned v ∧ Own w.heap.size w' v (dg n.toNat) ∧ Below w.heap.size w w' := by
  induction k with
  | zero =>
    intro n w h0 h1 hk
    obtain rfl : n = 0 := by omega
    go_enter Tryd.func23, Tryd.ntmps23
    go_wp2_with fail
    go_ret
    rw [show (0 : Int).toNat = 0 from rfl, dg_small (by omega)]
    exact ⟨_, rfl, own_of_blk (heap_alloc_new w _) (Nat.le_refl _) rfl (by unfold maxLen; omega), (Below.refl _ _).alloc (Nat.le_refl _) _⟩
  | succ k ih =>
    intro n w h0 h1 hk
    by_cases hlt : n < 128
    · have hq : n = ((UInt8.ofNat n.toNat).toNat : Int) := by rw [UInt8.toNat_ofNat']; omega
      have HQ := hid hq
      clear hq
      go_enter Tryd.func23, Tryd.ntmps23
      go_wp2_with fail
      go_ret
      rw [dg_small (by omega)]
      have hb : (w.alloc (.cells #[.int .u8 n] 5)).heap[w.heap.size]? = some (.cells (hcells [UInt8.ofNat n.toNat]) 5 (0, 0)) := by
        rw [heap_alloc_new]
        simp only [hcells, bcells, bcell, List.map_cons, List.map_nil]
        rw [← HQ.out]
      exact ⟨_, rfl, own_of_blk hb (Nat.le_refl _) rfl (by unfold maxLen; omega), (Below.refl _ _).alloc (Nat.le_refl _) _⟩
    · have hq : 128 + n % 128 = ((UInt8.ofNat (128 + n.toNat % 128)).toNat : Int) := by rw [UInt8.toNat_ofNat']; omega
      have hL := dg_len10 (n := n.toNat) (by omega)
      have hbig : dg n.toNat = UInt8.ofNat (128 + n.toNat % 128) :: dg (n / 128).toNat := by
        rw [dg_big (by omega)]
        congr 2
        omega
      have HQ := hid hq
      have HB := hid hbig
      have hL2 : (dg (n / 128).toNat).length ≤ 10 := dg_len10 (by omega)
      clear hq hbig hL
      have IH := hid ih
      clear ih
      go_enter Tryd.func23, Tryd.ntmps23
      go_wp2_with fail
      refine (IH.out (n / 128) _ (by omega) (by omega) (by omega)).mono ?_
      rintro e w1 ⟨v1, rfl, hown1, hb1⟩
      have hb : (w.alloc (.cells #[.int .u8 (128 + n % 128)] 5)).heap[w.heap.size]? = some (.cells (hcells [UInt8.ofNat (128 + n.toNat % 128)]) 5 (0, 0)) := by
        rw [heap_alloc_new]
        simp only [hcells, bcells, bcell, List.map_cons, List.map_nil]
        rw [← HQ.out]
      have hown0 : Own w.heap.size w1 (.slice (some ⟨w.heap.size, 0, none⟩) 1 1) [UInt8.ofNat (128 + n.toNat % 128)] := (own_of_blk (n := 1) hb (Nat.le_refl _) rfl (by unfold maxLen; omega)).below hb1
      have hb2 : Below w.heap.size w w1 := ((Below.refl _ _).alloc (Nat.le_refl _) _).trans (hb1.mono (by simp))
      have hbs := hb2.size
      clear hb
      go_wp2_with (at_builtin; refine wpList_append_byt rfl (.tmp 12) (.tmp 15) rfl rfl rfl hown0 hown1.byt (by rw [List.length_singleton]; omega) hbs ?_; intro v2 w2 hown2 hg2 _)
      go_ret
      rw [HB.out]
      exact ⟨_, rfl, hown2, hb2.grown hg2 hbs (fun q hq => (World.ownsRow.lt hown0 q hq).1)⟩

theorem refnum_any (n : Int) (w : World) (h0 : 0 ≤ n) (h1 : n < 18446744073709551616) :
    Calls Tryd.prog 23 #[.int .u64 n] w fun e w' => ∃ v, e = .returned v ∧ Own w.heap.size w' v (dg n.toNat) ∧ Below w.heap.size w w' := refnum_to n.toNat n w h0 h1 (Nat.le_refl _)

theorem reftext_any (v : Value) (t : List UInt8) (w : World) (hv : Byt w v t) (ht : t.length ≤ 1099511627776) :
    Calls Tryd.prog 24 #[v] w fun e w' => ∃ x, e = .returned x ∧ Own w.heap.size w' x (tx t) ∧ Below w.heap.size w w' := by
  obtain ⟨A, c, rfl⟩ := hv.shape
  have hL := dg_len10 (n := t.length) (by omega)
  go_enter Tryd.func24, Tryd.ntmps24
  go_wp2_with fail
  refine (refnum_any (t.length : Int) w (by omega) (by omega)).mono ?_
  rintro e w1 ⟨v1, rfl, hown1, hb1⟩
  rw [Int.toNat_natCast] at hown1
  have hbs := hb1.size
  have hv1 := hv.below hb1
  go_wp2_with (at_builtin; refine wpList_append_byt rfl (.tmp 6) (.tmp 7) rfl rfl rfl hown1 hv1 (by omega) hbs ?_; intro v2 w2 hown2 hg2 _)
  go_ret
  exact ⟨_, rfl, hown2, hb1.grown hg2 hbs (fun k hk => (World.ownsRow.lt hown1 k hk).1)⟩
end Go.Proofs.YtefngncieagobaaDoor

/-
  tithingref01.Same tells whether bytes are the same.
-/
namespace Go.Proofs.YtefngncieagobaaDoor
open Go.RowKit

set_option maxHeartbeats 1600000 in
theorem same_any (u v : Value) (l m : List UInt8) (w : World) (hu : Byt w u l) (hv : Byt w v m) :
    Calls Tryd.prog 11 #[u, v] w fun e w' => e = .returned (.bool (decide (l = m))) ∧ ∃ n, w' = w.drewN n := by
  obtain ⟨A, c, rfl⟩ := hu.shape
  obtain ⟨B, d, rfl⟩ := hv.shape
  obtain ⟨_, hc1, hc2, hr⟩ := hu.at_
  obtain ⟨_, hd1, hd2, hs⟩ := hv.at_
  unfold maxLen at hc2 hd2
  obtain ⟨L, HL⟩ : ∃ L : Nat, Hid (l.length = L) := ⟨_, rfl⟩
  obtain ⟨M, HM⟩ : ∃ M : Nat, Hid (m.length = M) := ⟨_, rfl⟩
  rw [HL.out] at hc1 ⊢
  rw [HM.out] at hd1 ⊢
  by_cases hne : L = M
  · subst hne
    have hb0 : ((L : Int) != (L : Int)) = false := by simp
    by_cases h0 : L = 0
    · subst h0
      have e : decide (l = m) = true := by
        have h1 : l = [] := List.eq_nil_of_length_eq_zero HL.out
        have h2 : m = [] := List.eq_nil_of_length_eq_zero HM.out
        simp [h1, h2]
      rw [e]
      clear e
      go_enter Tryd.func11, Tryd.ntmps11
      go_wp2
      refine wp_loop_rounds 1 ?_
      rw [rounds_succ]
      go_wp2
      go_ret
      exact ⟨rfl, 0, rfl⟩
    · obtain ⟨b, off, rfl, hb, hcl⟩ := hr (by have := HL.out; omega)
      obtain ⟨b2, off2, rfl, hb2, hcm⟩ := hs (by have := HM.out; omega)
      obtain ⟨ans, HA⟩ : ∃ ans : Bool, Hid (decide (l = m) = ans) := ⟨_, rfl⟩
      rw [HA.out]
      go_enter Tryd.func11, Tryd.ntmps11
      go_wp2
      go_loopw [5] (fun si wr => ∃ i : Nat, i ≤ L ∧ si = .int .i64 i ∧ Hid (∀ j (h : j < l.length) (h2 : j < m.length), j < i → l[j] = m[j]) ∧ ∃ n, wr = w.drewN n) (fun si _ => L - (intOf si).toNat)
      case atStart => exact ⟨0, Nat.zero_le _, rfl, hid (fun j _ _ h => absurd h (by omega)), 0, rfl⟩
      case round =>
        obtain ⟨i, hi, rfl, HB, n, rfl⟩ := hrel
        by_cases hlt : i < L
        · have hil : i < l.length := by rw [HL.out]; exact hlt
          have him : i < m.length := by rw [HM.out]; exact hlt
          have c1 : w.cell? ⟨b, off + i, none⟩ = some (bcell l[i]) := hcl i hil
          have c2 : w.cell? ⟨b2, off2 + i, none⟩ = some (bcell m[i]) := hcm i him
          obtain ⟨x, hx0, hx1, HX⟩ : ∃ x : Int, 0 ≤ x ∧ x ≤ 255 ∧ Hid ((l[i].toNat : Int) = x) := ⟨_, (byte_lt l[i]).1, (byte_lt l[i]).2, rfl⟩
          obtain ⟨y, hy0, hy1, HY⟩ : ∃ y : Int, 0 ≤ y ∧ y ≤ 255 ∧ Hid ((m[i].toNat : Int) = y) := ⟨_, (byte_lt m[i]).1, (byte_lt m[i]).2, rfl⟩
          unfold bcell at c1 c2
          rw [HX.out] at c1
          rw [HY.out] at c2
          have hI : (i : Int) < (L : Int) := by omega
          clear hcl hcm
          by_cases hxy : x = y
          · subst hxy
            have hb1 : (x != x) = false := by simp
            go_wp2_with fail
            go_quiet (fail)
            go_wp2
            go_roundw
            case rel =>
              refine ⟨i + 1, by omega, by go_num, hid (fun j h h2 hj => ?_), _, rfl⟩
              by_cases hji : j < i
              · exact HB.out j h h2 hji
              · obtain rfl : j = i := by omega
                exact UInt8.toNat_inj.1 (by have := HX.out; have := HY.out; omega)
            case measure => simp [intOf]; omega
          · have hb1 : (x != y) = true := by simpa using hxy
            go_wp2_with fail
            go_quiet (fail)
            go_wp2
            go_ret
            have e : ans = false := by
              rw [← HA.out]
              refine decide_eq_false fun e => hxy ?_
              subst e
              rw [← HX.out, ← HY.out]
            subst e
            exact ⟨rfl, _, World.drewN_drewN _ _ _⟩
        · obtain rfl : i = L := by omega
          go_wp2
          go_ret
          have e : ans = true := by
            rw [← HA.out]
            refine decide_eq_true (List.ext_getElem (by rw [HL.out, HM.out]) fun j h h2 => HB.out j h h2 (by have := HL.out; omega))
          subst e
          exact ⟨rfl, n, rfl⟩
  · have hb0 : ((L : Int) != (M : Int)) = true := by simp; omega
    have e : decide (l = m) = false := decide_eq_false fun e => hne (by rw [← HL.out, ← HM.out, e])
    rw [e]
    clear e
    go_enter Tryd.func11, Tryd.ntmps11
    go_wp2
    go_ret
    exact ⟨rfl, 0, rfl⟩
theorem same_yes (u v : Value) (l : List UInt8) (w : World) (hu : Byt w u l) (hv : Byt w v l) :
    Calls Tryd.prog 11 #[u, v] w fun e w' => e = .returned (.bool true) ∧ ∃ n, w' = w.drewN n := by
  have h := same_any u v l l w hu hv
  rw [decide_eq_true rfl] at h
  exact h

end Go.Proofs.YtefngncieagobaaDoor

/-
  What octet's readers read of a text.
-/
namespace Go.Proofs.YtefngncieagobaaDoor
open Go.RowKit

theorem Byt.mid {w : World} {A : Option Addr} {l : List UInt8} {c q n : Nat} (h : Byt w (.slice A l.length c) l) (hq : q + n ≤ l.length) :
    Byt w (.slice (if c = q then A else A.map (·.add q)) n (c - q)) ((l.drop q).take n) := by
  obtain ⟨_, h1, h2, h3⟩ := h.at_
  have hlen : ((l.drop q).take n).length = n := by rw [List.length_take, List.length_drop]; omega
  refine ⟨_, c - q, by rw [hlen], by rw [hlen]; omega, by omega, fun hl => ?_⟩
  rw [hlen] at hl
  obtain ⟨b, off, rfl, hb, hc⟩ := h3 (by omega)
  rw [if_neg (by omega)]
  refine ⟨b, off + q, by rw [Option.map_some, addr_add], hb, fun j hj => ?_⟩
  rw [hlen] at hj
  rw [Nat.add_assoc, hc (q + j) (by omega), List.getElem_take, List.getElem_drop]

theorem rtext_nil (w : World) : Calls Tryd.prog 27 #[.pointer none] w fun e w' => e = .returned (.slice none 0 0) ∧ w = w' := by
  go_enter Tryd.func27, Tryd.ntmps27
  go_wp2_with fail
  refine (wrong_nil w).mono ?_
  rintro e w' ⟨rfl, rfl⟩
  go_wp2_with fail
  go_ret
  exact ⟨rfl, rfl⟩

/-- What a reading of a text leaves. -/
def TextRead (w : World) (g : Nat) (l : List UInt8) (res : List UInt8 × Nat × Bool) (e : Ending) (w' : World) : Prop :=
  ∃ v, e = .returned v ∧ Own w.heap.size w' v res.1 ∧ Rdr w' g l res.2.1 res.2.2 ∧ w.grownBy w' (some g)

theorem textRead_none {w w' : World} {g p : Nat} {l : List UInt8} (hr : Rdr w' g l p false) (hg : w.grownBy w' (some g)) : TextRead w g l ([], p, false) (.returned (.slice none 0 0)) w' :=
  ⟨_, rfl, Own.nil _ _, hr, hg⟩

set_option maxHeartbeats 3200000 in
theorem rtext_any (g : Nat) (l : List UInt8) (p : Nat) (r : Bool) (w : World) (hr : Rdr w g l p r) (hl : l.length ≤ 1099511627776) :
    Calls Tryd.prog 27 #[.pointer (some ⟨g, 0, none⟩)] w (TextRead w g l (rdText l p r)) := by
  cases r with
  | false =>
    rw [rdText_bad]
    go_enter Tryd.func27, Tryd.ntmps27
    go_wp2_with fail
    refine (wrong_any g l p false w hr).mono ?_
    rintro e w' ⟨rfl, rfl⟩
    go_wp2_with fail
    go_ret
    exact textRead_none hr (World.grownBy.refl _ _)
  | true =>
    obtain ⟨A, c, h1, h2⟩ := hr.ex
    have hp := hr.le
    have hby := (Own.byt h1).cut hp
    have c0 := cell_blk h2 0
    have c1 := cell_blk h2 1
    have f1 := free_blk h2 1
    simp at c0 c1
    cases hf : frst (l.drop p) with
    | none =>
      rw [rdText_no hf]
      have hno := frst_none hf
      clear hf
      go_enter Tryd.func27, Tryd.ntmps27
      go_wp2_with fail
      refine (wrong_any g l p true w hr).mono ?_
      rintro e w' ⟨rfl, rfl⟩
      go_wp2_with fail
      go_quiet ((go_at_call 40; exact Calls.quiet_of_same ((first_no _ _ _ (hby.drewN _) hno).mono fun _ _ h => ⟨h.1, h.2.symm⟩)))
      go_wp2_with fail
      all_goals
        refine (fail_any g l p true _ (hr.drewN _)).mono ?_
        rintro e w' ⟨rfl, rfl⟩
        go_wp2_with fail
        go_ret
        exact textRead_none (hr.drewN _).spoil ((grown_drewN (World.grownBy.refl _ _) _).trans (grown_set _ g 2 _))
    | some n =>
      obtain ⟨hn, hpre⟩ := frst_some hf
      have hk := dg_len10 hn
      have hk1 := dg_pos n
      have hpl := hpre.length_le
      rw [List.length_drop] at hpl
      have hz : (((dg n).length : Int) == 0) = false := by rw [beq_eq_false_iff_ne]; omega
      have hlc := (Own.byt h1).at_.2.1
      have hcm := (Own.byt h1).at_.2.2.1
      have hcp : ¬ c = p := by omega
      rw [if_neg hcp] at hby
      by_cases hle : n ≤ 65536
      · by_cases hfit : p + (dg n).length + n ≤ l.length
        · rw [rdText_yes hf hle hfit]
          clear hf
          have ht : ¬ ((l.length : Int) - (p : Int) - ((dg n).length : Int) < (n : Int)) := by omega
          go_enter Tryd.func27, Tryd.ntmps27
          go_wp2_with fail
          refine (wrong_any g l p true w hr).mono ?_
          rintro e w' ⟨rfl, rfl⟩
          go_wp2_with fail
          go_quiet ((go_at_call 40; exact Calls.quiet_of_same ((first_yes _ _ n _ (hby.drewN _) hn hpre).mono fun _ _ h => ⟨h.1, h.2.symm⟩)))
          go_wp2_with fail
          all_goals
            refine (left_any g l p true _ (hr.drewN _) hl).mono ?_
            rintro e w' ⟨rfl, m, rfl⟩
            go_wp2_with fail
          have hR := (hr.drewN (nq + m)).turn (p + (dg n).length + n) hfit
          have hG := (grown_drewN (World.grownBy.refl w (some g)) (nq + m)).trans (grown_set _ g 1 (.int .i64 ((p + (dg n).length + n : Nat) : Int)))
          have h1' := own_turn (w := w.drewN (nq + m)) h1 h2 1 (.int .i64 ((p + (dg n).length + n : Nat) : Int))
          have h2' := set_blk (w := w.drewN (nq + m)) h2 1 (.int .i64 ((p + (dg n).length + n : Nat) : Int))
          rw [Int.natCast_add, Int.natCast_add] at hR hG h1' h2'
          generalize (w.drewN (nq + m)).setCell ⟨g, 1, none⟩ (.int .i64 ((p : Int) + ((dg n).length : Int) + (n : Int))) = w2 at *
          have d0 := cell_blk h2' 0
          have d1 := cell_blk h2' 1
          simp at d0 d1
          have hmid := h1'.byt.mid (q := p + (dg n).length) (n := n) hfit
          have hfl : ((l.drop (p + (dg n).length)).take n).length ≤ 1099511627776 := by rw [List.length_take]; omega
          obtain ⟨X, HX⟩ : ∃ X, Hid ((if c = p + (dg n).length then A else Option.map (fun x => x.add (p + (dg n).length)) A) = X) := ⟨_, rfl⟩
          rw [HX.out] at hmid
          have eX := HX.out
          have s1 : 0 ≤ (p : Int) + ((dg n).length : Int) + (n : Int) := by omega
          have s2 : (p : Int) + ((dg n).length : Int) + (n : Int) ≤ (c : Int) := by omega
          have s3 : 0 ≤ (p : Int) + ((dg n).length : Int) := by omega
          have s4 : (p : Int) + ((dg n).length : Int) ≤ (p : Int) + ((dg n).length : Int) + (n : Int) := by omega
          have s5 : ((p : Int) + ((dg n).length : Int)).toNat = p + (dg n).length := by omega
          have s6 : ((p : Int) + ((dg n).length : Int) + (n : Int)).toNat = p + (dg n).length + n := by omega
          have hg2 := hR.lt
          have hgs := hG.size
          clear c0 c1 h1' h2'
          go_still_tail 10, (by kernel_rfl)
          clear s1 s2 s3 s4 s5 s6 eX
          change wpList _ _ _ _ _ w2.drew
          have hmid' : Byt w2.drew _ _ := hmid
          have hR' : Rdr w2.drew g _ _ _ := hR.drewN 1
          have hG' : w.grownBy w2.drew (some g) := grown_drewN hG 1
          have hgs' : w.heap.size ≤ w2.drew.heap.size := hgs
          generalize w2.drew = w3 at *
          go_wp2_with fail
          refine (join1 _ _ w3.heap.size 1 (w3.alloc (.cells #[.slice X n (c - (p + (dg n).length))] 24)) (by simp) (by simp) (hmid'.alloc _) hfl).mono ?_
          rintro e w4 ⟨v4, rfl, hown4, hb4⟩
          go_wp2_with fail
          go_ret
          have hb5 : Below w3.heap.size w3 w4 := (Below.alloc (Below.refl _ _) (Nat.le_refl _) _).trans (hb4.mono (by simp))
          refine ⟨v4, rfl, hown4.more (by simp; omega), ?_, ?_⟩
          · exact hR'.below hb5
          · exact hG'.trans ⟨hb5.os, hb5.tape, hb5.output, hb5.size, fun k hk _ => hb5.block k hk⟩
        · rw [rdText_big hf (fun h => hfit h.2)]
          clear hf
          have ht : (l.length : Int) - (p : Int) - ((dg n).length : Int) < (n : Int) := by omega
          go_enter Tryd.func27, Tryd.ntmps27
          go_wp2_with fail
          refine (wrong_any g l p true w hr).mono ?_
          rintro e w' ⟨rfl, rfl⟩
          go_wp2_with fail
          go_quiet ((go_at_call 40; exact Calls.quiet_of_same ((first_yes _ _ n _ (hby.drewN _) hn hpre).mono fun _ _ h => ⟨h.1, h.2.symm⟩)))
          go_wp2_with fail
          all_goals
            refine (left_any g l p true _ (hr.drewN _) hl).mono ?_
            rintro e w' ⟨rfl, m, rfl⟩
            go_wp2_with fail
            refine (fail_any g l p true _ (hr.drewN _)).mono ?_
            rintro e w' ⟨rfl, rfl⟩
            go_wp2_with fail
            go_ret
            exact textRead_none (hr.drewN _).spoil ((grown_drewN (World.grownBy.refl _ _) _).trans (grown_set _ g 2 _))
      · rw [rdText_big hf (fun h => hle h.1)]
        clear hf
        have ht : (65536 : Int) < (n : Int) := by omega
        go_enter Tryd.func27, Tryd.ntmps27
        go_wp2_with fail
        refine (wrong_any g l p true w hr).mono ?_
        rintro e w' ⟨rfl, rfl⟩
        go_wp2_with fail
        go_quiet ((go_at_call 40; exact Calls.quiet_of_same ((first_yes _ _ n _ (hby.drewN _) hn hpre).mono fun _ _ h => ⟨h.1, h.2.symm⟩)))
        go_wp2_with fail
        all_goals
          refine (fail_any g l p true _ (hr.drewN _)).mono ?_
          rintro e w' ⟨rfl, rfl⟩
          go_wp2_with fail
          go_ret
          exact textRead_none (hr.drewN _).spoil ((grown_drewN (World.grownBy.refl _ _) _).trans (grown_set _ g 2 _))
end Go.Proofs.YtefngncieagobaaDoor

/-
  The document's answer for what is read of a number: tithingref01.ReadNum.
-/
namespace Go.Proofs.YtefngncieagobaaDoor
open Go.RowKit

theorem u64_range (x : Int) : 0 ≤ IntKind.u64.wrap x ∧ IntKind.u64.wrap x < 18446744073709551616 := by
  simp [IntKind.wrap, IntKind.signed, IntKind.bits]
  omega

/-- The document's reader by value. -/
def rv (A : Option Addr) (n c : Nat) (p : Nat) (wrong : Bool) : Value := .agg #[.slice A n c, .int .i64 (p : Int), .bool wrong]

/-- What is said of a reading of a number. -/
def RefNum (w : World) (A : Option Addr) (c : Nat) (l : List UInt8) (res : Nat × Nat × Bool) (e : Ending) (w' : World) : Prop :=
  e = .returned (.tuple #[rv A l.length c res.2.1 (!res.2.2), .int .u64 (res.1 : Int)]) ∧ Below w.heap.size w w'

/-- Powers of 128, kept whole. -/
def p128 (i : Nat) : Nat := 128 ^ i
theorem p128_zero : p128 0 = 1 := rfl
theorem p128_le {i : Nat} (h : i ≤ 8) : p128 i ≤ 72057594037927936 := by
  have e8 : (128 : Nat) ^ 8 = 72057594037927936 := by decide
  unfold p128
  rw [← e8]
  exact Nat.pow_le_pow_right (by omega) h
theorem p128_step {i : Nat} (h : i ≤ 8) : IntKind.u64.wrap ((p128 i : Int) * 128) = (p128 (i + 1) : Int) := by
  have h1 := p128_le h
  have e : p128 (i + 1) = p128 i * 128 := by simp [p128, Nat.pow_succ]
  rw [wrap_u64 _ (by omega) (by omega), e]
  omega
theorem sum_step (n i : Nat) (x : Int) (hn : n < 18446744073709551616) (hx : x % 128 = ((n / 128 ^ i % 128 : Nat) : Int)) :
    IntKind.u64.wrap ((low n i : Int) + IntKind.u64.wrap (x % 128 * (p128 i : Int))) = (low n (i + 1) : Int) := by
  have hle : low n i + n / 128 ^ i % 128 * 128 ^ i ≤ n := by
    rw [← low_succ]
    exact Nat.mod_le _ _
  rw [hx, low_succ]
  unfold p128
  generalize n / 128 ^ i % 128 = d at *
  have e : (d : Int) * ((128 ^ i : Nat) : Int) = ((d * 128 ^ i : Nat) : Int) := by rw [Int.natCast_mul]
  rw [e, wrap_u64 ((d * 128 ^ i : Nat) : Int) (by omega) (by omega), wrap_u64 _ (by omega) (by omega)]
  omega

theorem same_no (u v : Value) (l m : List UInt8) (w : World) (hu : Byt w u l) (hv : Byt w v m) (hne : l ≠ m) :
    Calls Tryd.prog 11 #[u, v] w fun e w' => e = .returned (.bool false) ∧ ∃ n, w' = w.drewN n := by
  have h := same_any u v l m w hu hv
  rw [decide_eq_false hne] at h
  exact h

end Go.Proofs.YtefngncieagobaaDoor
