/-
  Cut Arr Refs Same Text RefRead RefUpto RefText: what each of them says stands at its head.
-/
import Derived.Test.YtghophbabbaleaaGreatDoorBs1
import Derived.ChangeKeysEq
import Derived.Deep.MidRow
import Derived.Laws.CopyOwn
import Derived.Laws.Rows
import Derived.Laws.StructEq
import Derived.Laws.Tables
import Derived.StillTailTactics
import Derived.Deep.RegionHeld3
import Derived.Handy
namespace Go.Proofs.YtghophbabbaleaaGreatDoor
set_option maxRecDepth 20000
open Go.RowKit
noncomputable def cutH (v h : Value) (w : World) : Result Next := Sem.run Tryz.prog (execOp (fun o => match o with | .tmp 0 => v | _ => h) { dst := none, op := .slice 29 (.tmp 0) none (some (.tmp 1)) none, type := 0, pos := "", after := #[], guard := none }) w
noncomputable def cutL (v l : Value) (w : World) : Result Next := Sem.run Tryz.prog (execOp (fun o => match o with | .tmp 0 => v | _ => l) { dst := none, op := .slice 29 (.tmp 0) (some (.tmp 1)) none none, type := 0, pos := "", after := #[], guard := none }) w
theorem exec_cutH (r : Operand → Value) (x h : Operand) (dst : Option Tmp) (ty : TypeId) (pos : String) (after : Array Edge) (guard : Option (Nat × Bool)) (w : World) :
    Sem.run Tryz.prog (execOp r { dst := dst, op := .slice 29 x none (some h) none, type := ty, pos := pos, after := after, guard := guard }) w = cutH (r x) (r h) w := rfl
theorem exec_cutL (r : Operand → Value) (x l : Operand) (dst : Option Tmp) (ty : TypeId) (pos : String) (after : Array Edge) (guard : Option (Nat × Bool)) (w : World) :
    Sem.run Tryz.prog (execOp r { dst := dst, op := .slice 29 x (some l) none none, type := ty, pos := pos, after := after, guard := guard }) w = cutL (r x) (r l) w := rfl
theorem RdB.sub {w : World} {A : Option Addr} {l : List UInt8} (h : RdB w A l) (i k c : Nat) (hik : i ≤ k) (hk : k ≤ l.length) (hc : l.length ≤ c) : RdB w (if c = i then A else A.map (·.add i)) ((l.drop i).take (k - i)) := fun h0 => by
  rw [List.length_take, List.length_drop] at h0
  obtain ⟨b, off, rfl, hb, hcl⟩ := h (by omega)
  rw [if_neg (by omega)]
  refine ⟨b, off + i, by rw [Option.map_some, addr_add], hb, fun j hj => ?_⟩
  rw [List.length_take, List.length_drop] at hj
  rw [Nat.add_assoc, hcl (i + j) (by omega), List.getElem_take, List.getElem_drop]
theorem sub_length {l : List UInt8} {i k : Nat} (hk : k ≤ l.length) : ((l.drop i).take (k - i)).length = k - i := by
  rw [List.length_take, List.length_drop]
  omega
theorem cut_h (A : Option Addr) (c L k : Nat) (hk : k ≤ L) (hc : L ≤ c) : ∃ A' c', (∀ w, cutH (.slice A L c) (.int .i64 (k : Int)) w = .ok (.value (.slice A' k c')) w) ∧ ∀ w l, l.length = L → Byt w (.slice A L c) l → Byt w (.slice A' k c') (l.take k) := by
  refine ⟨if c = 0 then A else A.map (·.add 0), c, fun w => ?_, fun w l hl hv => ?_⟩
  · obtain ⟨i0, hi, hz0, hz1, hz2⟩ := info_parts info_u8
    have hk4 : k ≤ c := by omega
    unfold cutH execOp
    simp [Instr.sliceAt, Instr.slice, run_underlying under_bytes, Instr.sliceBounds, Instr.sliceBound, asIntOf, sizeOf, typeInfo, hi, hk4, Sem.run_bind]
  · obtain ⟨_, h1, h2, h3⟩ := hv.at_
    have hs := sub_length (l := l) (i := 0) (k := k) (by omega)
    have h4 := h3.sub 0 k c (Nat.zero_le _) (by omega) (by omega)
    rw [List.drop_zero, Nat.sub_zero] at h4 hs
    exact ⟨_, _, by rw [hs], by omega, by omega, h4⟩
theorem cut_l (A : Option Addr) (c L i : Nat) (hi : i ≤ L) (hc : L ≤ c) : ∃ A' c', (∀ w, cutL (.slice A L c) (.int .i64 (i : Int)) w = .ok (.value (.slice A' (L - i) c')) w) ∧ ∀ w l, l.length = L → Byt w (.slice A L c) l → Byt w (.slice A' (L - i) c') (l.drop i) := by
  refine ⟨if c = i then A else A.map (·.add i), c - i, fun w => ?_, fun w l hl hv => ?_⟩
  · obtain ⟨i0, hi0, hz0, hz1, hz2⟩ := info_parts info_u8
    unfold cutL execOp
    simp [Instr.sliceAt, Instr.slice, run_underlying under_bytes, Instr.sliceBounds, Instr.sliceBound, asIntOf, sizeOf, typeInfo, hi0, hz1, hi, Sem.run_bind]
  · obtain ⟨_, h1, h2, h3⟩ := hv.at_
    have hs := sub_length (l := l) (i := i) (k := l.length) (by omega)
    have h4 := h3.sub i l.length c (by omega) (by omega) (by omega)
    have e : (l.drop i).take (l.length - i) = l.drop i := List.take_of_length_le (by rw [List.length_drop]; omega)
    rw [e] at h4 hs
    exact ⟨_, _, by rw [hs, hl], by omega, by omega, h4⟩
theorem new_cell (w : World) (C : Array Value) (T : TypeId) (i : Nat) (v : Value) (h : C[i]? = some v) : (w.alloc (.cells C T)).cell? ⟨w.heap.size, i, none⟩ = some v := by
  rw [cell_of_row _ _ _ _ _ (0, 0) (heap_alloc_new w _)]
  exact h
theorem new_cell_drew (w : World) (C : Array Value) (T : TypeId) (i : Nat) (v : Value) (h : C[i]? = some v) : (w.alloc (.cells C T)).drew.cell? ⟨w.heap.size, i, none⟩ = some v := new_cell w C T i v h
end Go.Proofs.YtghophbabbaleaaGreatDoor
namespace Go.Proofs.YtghophbabbaleaaGreatDoor
set_option maxRecDepth 20000
open Go.RowKit
def hcells (h : List UInt8) : Array Value := (bcells h).toArray
def nought : List UInt8 := List.replicate 32 0
theorem nought_length : nought.length = 32 := by simp [nought]
theorem hcells_size (h : List UInt8) : (hcells h).size = h.length := by simp [hcells, bcells]
theorem hcells_list (h : List UInt8) : (hcells h).toList = bcells h := by simp [hcells]
theorem hcells_one (h : List UInt8) : (hcells h).all (·.oneCell') = true := all_oneCell_toArray (bcells_one h)
theorem zero_hash : (Tryz.prog.info? 38).bind (·.zero) = some (.agg (hcells nought)) := by kernel_rfl
theorem size_hash : (Tryz.prog.info? 38).map (·.size) = some 32 := by kernel_rfl
theorem under_hash : Tryz.prog.underlying 38 = some (.array 32 5) := by kernel_rfl
theorem run_zero_hash (w : World) : (zeroValue 38).run Tryz.prog w = .ok (.agg (hcells nought)) w := by
  have h := zero_hash
  cases hq : Tryz.prog.info? 38 with
  | none => rw [hq] at h; cases h
  | some i =>
    rw [hq] at h
    have hz : i.zero = some (.agg (hcells nought)) := h
    simp [zeroValue, typeInfo, hq, hz]
theorem wpList_alloc_hash {ops : Array Oper} {rest : List Oper} {o : Oper} {a : Act} {w : World} {Q : Exit → Act → World → Prop} (hgd : o.guard = none) (ho : o.op = .alloc 38)
    (h : wpList Tryz.prog ops Q rest (a.put o.dst (.pointer (some ⟨w.heap.size, 0, none⟩))) (w.alloc (.cells (hcells nought) 38))) : wpList Tryz.prog ops Q (o :: rest) a w :=
  wpList_plain hgd fun _ hK => by
    unfold Oper.wp execOp
    simp only [ho, Sem.run_bind, Instr.alloc, run_zero_hash, newVar, newRow, run_newObj_alloc, Sem.run_pure, Result.andThen_ok, Value.cells]
    exact hK _ _ h
theorem wpList_load_hash {ops : Array Oper} {rest : List Oper} {o : Oper} {a : Act} {w : World} {Q : Exit → Act → World → Prop} (hgd : o.guard = none) (x : Operand) (ho : o.op = .load 38 x)
    {g : Nat} {t : TypeId} {h : List UInt8} (hx : a.eval x = .pointer (some ⟨g, 0, none⟩)) (hg : w.heap[g]? = some (.cells (hcells h) t (0, 0))) (hl : h.length = 32)
    (hh : wpList Tryz.prog ops Q rest (a.put o.dst (.agg (hcells h))) w) : wpList Tryz.prog ops Q (o :: rest) a w :=
  wpList_load_row hgd _ x ho g hx t (hcells h) (0, 0) _ hg under_hash rfl (by rw [size_hash, hcells_size, hl]) hh
theorem wpList_store_hash {ops : Array Oper} {rest : List Oper} {o : Oper} {a : Act} {w : World} {Q : Exit → Act → World → Prop} (hgd : o.guard = none) (x y : Operand) (ho : o.op = .store 38 x y)
    {g : Nat} {t : TypeId} {h h' : List UInt8} (hx : a.eval x = .pointer (some ⟨g, 0, none⟩)) (hy : a.eval y = .agg (hcells h')) (hg : w.heap[g]? = some (.cells (hcells h) t (0, 0))) (hl : h.length = 32) (hl' : h'.length = 32)
    (hh : ∀ w', w.grownBy w' (some g) → Hid (w'.heap[g]? = some (.cells (hcells h') t (0, 0))) → w'.heap.size = w.heap.size → wpList Tryz.prog ops Q rest (a.put o.dst undef) w') : wpList Tryz.prog ops Q (o :: rest) a w :=
  wpList_store_row hgd _ x y ho g (hcells h') hx hy t (hcells h) hg (by rw [size_hash, hcells_size, hl']) (by rw [hcells_size, hcells_size, hl, hl']) (hcells_one _)
    (hh _ ⟨rfl, rfl, rfl, by simp, fun k _ hk => setRow_other w g k _ (fun e => hk (by simp [e]))⟩ (setRow_heap w g _ _ t _ hg) (by simp))
theorem wpList_copy_byt {ops : Array Oper} {rest : List Oper} {o : Oper} {a : Act} {w : World} {Q : Exit → Act → World → Prop} (hgd : o.guard = none) (d s : Operand)
    (ho : o.op = .call { callee := .builtin .copy, args := #[d, s], argTypes := #[29, 29] })
    {dp : Option Addr} {dLen dCap : Nat} {v : Value} {m : List UInt8} (hd : a.eval d = .slice dp dLen dCap) (hs : a.eval s = v) (hv : Byt w v m)
    {g off : Nat} {cur : List UInt8} {t : TypeId} (hg : w.heap[g]? = some (.cells (hcells cur) t (0, 0))) {k : Nat} (hk : k = Nat.min m.length dLen)
    (hdp : 0 < k → dp = some ⟨g, off, none⟩) (hfit : off + k ≤ cur.length)
    (h : ∀ w', w.grownBy w' (some g) → Hid (w'.heap[g]? = some (.cells (hcells (splice cur off (m.take k))) t (0, 0))) → w'.heap.size = w.heap.size → wpList Tryz.prog ops Q rest (a.put o.dst (goInt k)) w') :
    wpList Tryz.prog ops Q (o :: rest) a w := by
  obtain ⟨A, c, rfl, h1, h2, hr⟩ := hv
  have hsz : (Tryz.prog.info? 5).map (·.size) = some 1 := by kernel_rfl
  have hkm : k ≤ m.length := by rw [hk]; exact Nat.min_le_left _ _
  by_cases h0 : k = 0
  · subst h0
    refine wpList_copy_nothing hgd d s _ _ ho 5 under_bytes hsz dp A dLen dCap m.length c hd hs (by omega) ?_
    refine h w (World.grownBy.refl _ _) ?_ rfl
    have e : splice cur off (m.take 0) = cur := by simp [splice]
    rw [e]
    exact hid hg
  · obtain rfl := hdp (by omega)
    obtain ⟨b, off2, rfl, hb, hc⟩ := hr (by omega)
    have hlen : (bcells (m.take k)).length = k := by simp [bcells]; omega
    have hrow : (hcells cur).toList.take off ++ (bcells (m.take k) ++ (hcells cur).toList.drop (off + (bcells (m.take k)).length)) = bcells (splice cur off (m.take k)) := by
      rw [hlen, hcells_list]
      have : (m.take k).length = k := by simp; omega
      simp [splice, bcells, List.map_take, List.map_drop, this]
    refine wpList_copy_own hgd d s _ _ ho 5 under_bytes hsz g off dLen dCap ⟨b, off2, none⟩ m.length c hd hs (hcells cur) t hg (bcells (m.take k)) (by rw [hlen, hk]) ?_ (by rw [hlen, hcells_size]; exact hfit) (bcells_one _) ?_
    · intro j u hu
      obtain ⟨hj, rfl⟩ := bcells_get _ j u hu
      rw [addr_add]
      have hjm : j < m.length := by simp at hj; omega
      rw [hc j hjm, List.getElem_take]
    · rw [hrow, hlen]
      exact h _ ⟨rfl, rfl, rfl, by simp, fun q _ hq => setRow_other w g q _ (fun e => hq (by simp [e]))⟩ (setRow_heap w g _ _ t _ hg) (by simp)
theorem hcells_get (h : List UInt8) (i : Nat) (hi : i < h.length) : (hcells h)[i]? = some (bcell h[i]) := by simp [hcells, bcells, hi]
theorem eqItems_bytes (d : Nat) (a b : List UInt8) (w : World) : ∀ is : List Nat, (∀ i ∈ is, i < a.length ∧ i < b.length) →
    (Op.eqItems (d + 1) 5 (Tryz.prog.cellsOf 5) (hcells a) (hcells b) is).run Tryz.prog w = .ok (is.all fun i => decide (a[i]? = b[i]?)) w := by
  have hc : Tryz.prog.cellsOf 5 = 1 := by kernel_rfl
  have hp : Tryz.prog.plainKey 5 = true := by kernel_rfl
  have hu : Tryz.prog.underlying 5 = some (.int .u8) := by kernel_rfl
  rw [hc]
  intro is
  induction is with
  | nil => intro _; simp [Op.eqItems]
  | cons i is ih =>
    intro h
    obtain ⟨hi, hj⟩ := h i (by simp)
    have ih' := ih (fun j hj => h j (List.mem_cons_of_mem _ hj))
    have pa := run_part_plain (P := Tryz.prog) w hp (hcells_get a i hi)
    have pb := run_part_plain (P := Tryz.prog) w hp (hcells_get b i hj)
    have pe := run_equalIn_int (P := Tryz.prog) w d 5 .u8 .u8 (a[i].toNat : Int) (b[i].toNat : Int) hu
    unfold bcell at pa pb
    simp only [Op.eqItems, Sem.run_bind, Nat.mul_one, pa, pb, pe, Result.andThen_ok]
    by_cases e : a[i] = b[i]
    · simp [ih', hi, hj, e]
    · have e1 : ((a[i].toNat : Int) == (b[i].toNat : Int)) = false := by
        rw [beq_eq_false_iff_ne]
        intro h
        exact e (UInt8.toNat_inj.1 (by omega))
      simp [e1, hi, hj, e]
theorem own_full {B n : Nat} {w : World} {A : Option Addr} {l : List UInt8} (h : Own B w (.slice A n n) l) (hn : 0 < n) : ∃ g, A = some ⟨g, 0, none⟩ ∧ B ≤ g ∧ w.heap[g]? = some (.cells (hcells l) 5 (0, 0)) := by
  rcases h.2 with ⟨e, _⟩ | ⟨g, cap, cur, e, hg, hh, hnc, _, hs, ht⟩
  · injection e with _ e; omega
  · injection e with e1 e2 e3
    refine ⟨g, e1, hg, ?_⟩
    rw [hh]
    have hl : cur.toList = bcells l := by
      rw [← ht, List.take_of_length_le]
      rw [Array.length_toList, hs]
      omega
    have : cur = hcells l := by
      apply Array.ext'
      rw [hl, hcells_list]
    rw [this]
theorem own_of_blk {B g n : Nat} {w : World} {l : List UInt8} (hg : w.heap[g]? = some (.cells (hcells l) 5 (0, 0))) (hB : B ≤ g) (hn : n = l.length) (hm : n ≤ maxLen) : Own B w (.slice (some ⟨g, 0, none⟩) n n) l := by
  subst hn
  refine ⟨by simp [bcells], .inr ⟨g, l.length, hcells l, rfl, hB, hg, Nat.le_refl _, hm, by rw [hcells_size, Nat.mul_one], ?_⟩⟩
  rw [hcells_list, Nat.mul_one, List.take_of_length_le (by simp [bcells])]
theorem byt_of_blk {g n : Nat} {w : World} {l : List UInt8} {t : TypeId} (hg : w.heap[g]? = some (.cells (hcells l) t (0, 0))) (hn : n = l.length) (hm : n ≤ maxLen) : Byt w (.slice (some ⟨g, 0, none⟩) n n) l := by
  subst hn
  refine ⟨_, _, rfl, Nat.le_refl _, hm, fun _ => ⟨g, 0, rfl, lt_of_block hg, fun j hj => ?_⟩⟩
  rw [Nat.zero_add, cell_of_row w g j _ t (0, 0) hg, hcells_get l j hj]
theorem splice_head (Z l : List UInt8) : splice Z 0 l = l ++ Z.drop l.length := by simp [splice]
theorem splice_two (Z l m : List UInt8) (h : Z.length = l.length + m.length) : splice (splice Z 0 l) l.length m = l ++ m := by
  have e : (Z.drop l.length).drop m.length = [] := by rw [List.drop_drop]; exact List.drop_eq_nil_of_le (by omega)
  rw [splice_head Z l]
  simp only [splice, List.take_left', List.drop_append]
  rw [List.drop_eq_nil_of_le (by omega), List.nil_append, show l.length + m.length - l.length = m.length from by omega, e, List.append_nil]
theorem run_copy_byt {w : World} {dp : Option Addr} {dLen dCap : Nat} {v : Value} {m : List UInt8} (ty : TypeId) (hv : Byt w v m)
    {g off : Nat} {cur : List UInt8} {t : TypeId} (hg : w.heap[g]? = some (.cells (hcells cur) t (0, 0))) {k : Nat} (hk : k = Nat.min m.length dLen) (h0 : 0 < k)
    (hdp : dp = some ⟨g, off, none⟩) (hfit : off + k ≤ cur.length) :
    ∃ w', (Builtin.copy_ #[29, 29] ty #[.slice dp dLen dCap, v]).run Tryz.prog w = .ok (.int .i64 (k : Int)) w' ∧ w.grownBy w' (some g) ∧ w'.heap[g]? = some (.cells (hcells (splice cur off (m.take k))) t (0, 0)) ∧ w'.heap.size = w.heap.size := by
  obtain ⟨A, c, rfl, h1, h2, hr⟩ := hv
  have hsz : (Tryz.prog.info? 5).map (·.size) = some 1 := by kernel_rfl
  have hkm : k ≤ m.length := by rw [hk]; exact Nat.min_le_left _ _
  subst hdp
  obtain ⟨b, off2, rfl, hb, hc⟩ := hr (by omega)
  have hlen : (bcells (m.take k)).length = k := by simp [bcells]; omega
  have hrow : (hcells cur).toList.take off ++ bcells (m.take k) ++ (hcells cur).toList.drop (off + (bcells (m.take k)).length) = bcells (splice cur off (m.take k)) := by
    rw [hlen, hcells_list]
    have : (m.take k).length = k := by simp; omega
    simp [splice, bcells, List.map_take, List.map_drop, this]
  have hrun := run_copy_row (P := Tryz.prog) w 29 29 ty 5 g off dLen dCap ⟨b, off2, none⟩ m.length c (hcells cur) t (bcells (m.take k)) under_bytes hsz hg (by rw [hlen, hk]) (fun j u hu => by
    obtain ⟨hj, rfl⟩ := bcells_get _ j u hu
    rw [addr_add]
    have hjm : j < m.length := by simp at hj; omega
    rw [hc j hjm, List.getElem_take]) (by rw [hlen, hcells_size]; exact hfit) (bcells_one _)
  rw [hrow, hlen] at hrun
  exact ⟨_, hrun, ⟨rfl, rfl, rfl, by simp, fun q _ hq => setRow_other w g q _ (fun e => hq (by simp [e]))⟩, setRow_heap w g _ _ t _ hg, by simp⟩
end Go.Proofs.YtghophbabbaleaaGreatDoor
namespace Go.Proofs.YtghophbabbaleaaGreatDoor
set_option maxRecDepth 20000
open Go.RowKit
theorem refnum_to (k : Nat) : ∀ (n : Int) (w : World), 0 ≤ n → n < 18446744073709551616 → n.toNat ≤ k →
    Calls Tryz.prog 129 #[.int .u64 n] w fun e w' => ∃ v, e = .returned v ∧ Own w.heap.size w' v (dg n.toNat) ∧ Below w.heap.size w w' := by
  induction k with
  | zero =>
    intro n w h0 h1 hk
    obtain rfl : n = 0 := by omega
    go_enter Tryz.func129, Tryz.ntmps129
    go_wp2_with fail
    go_ret
    rw [show (0 : Int).toNat = 0 from rfl, dg_small (by omega)]
    exact ⟨_, rfl, own_of_blk (heap_alloc_new w _) (Nat.le_refl _) rfl (by unfold maxLen; omega), (Below.refl _ _).alloc (Nat.le_refl _) _⟩
  | succ k ih =>
    intro n w h0 h1 hk
    by_cases hlt : n < 128
    · have hq : n = ((UInt8.ofNat n.toNat).toNat : Int) := by rw [UInt8.toNat_ofNat']; omega
      have HQ := hid hq
      clear hq
      go_enter Tryz.func129, Tryz.ntmps129
      go_wp2_with fail
      go_ret
      rw [dg_small (by omega)]
      have hb : (w.alloc (.cells #[.int .u8 n] 5)).heap[w.heap.size]? = some (.cells (hcells [UInt8.ofNat n.toNat]) 5 (0, 0)) := by
        rw [heap_alloc_new]
        simp only [hcells, bcells, bcell, List.map_cons, List.map_nil]
        rw [← HQ.out]
      exact ⟨_, rfl, own_of_blk hb (Nat.le_refl _) rfl (by unfold maxLen; omega), (Below.refl _ _).alloc (Nat.le_refl _) _⟩
    · have hq : 128 + n % 128 = ((UInt8.ofNat (128 + n.toNat % 128)).toNat : Int) := by rw [UInt8.toNat_ofNat']; omega
      have hL := dg_len10 (n := n.toNat) (by omega)
      have hbig : dg n.toNat = UInt8.ofNat (128 + n.toNat % 128) :: dg (n / 128).toNat := by
        rw [dg_big (by omega)]
        congr 2
        omega
      have HQ := hid hq
      have HB := hid hbig
      have hL2 : (dg (n / 128).toNat).length ≤ 10 := dg_len10 (by omega)
      clear hq hbig hL
      have IH := hid ih
      clear ih
      go_enter Tryz.func129, Tryz.ntmps129
      go_wp2_with fail
      refine (IH.out (n / 128) _ (by omega) (by omega) (by omega)).mono ?_
      rintro e w1 ⟨v1, rfl, hown1, hb1⟩
      have hb : (w.alloc (.cells #[.int .u8 (128 + n % 128)] 5)).heap[w.heap.size]? = some (.cells (hcells [UInt8.ofNat (128 + n.toNat % 128)]) 5 (0, 0)) := by
        rw [heap_alloc_new]
        simp only [hcells, bcells, bcell, List.map_cons, List.map_nil]
        rw [← HQ.out]
      have hown0 : Own w.heap.size w1 (.slice (some ⟨w.heap.size, 0, none⟩) 1 1) [UInt8.ofNat (128 + n.toNat % 128)] := (own_of_blk (n := 1) hb (Nat.le_refl _) rfl (by unfold maxLen; omega)).below hb1
      have hb2 : Below w.heap.size w w1 := ((Below.refl _ _).alloc (Nat.le_refl _) _).trans (hb1.mono (by simp))
      have hbs := hb2.size
      clear hb
      go_wp2_with (at_builtin; refine wpList_append_byt rfl (.tmp 12) (.tmp 15) rfl rfl rfl hown0 hown1.byt (by rw [List.length_singleton]; omega) hbs ?_; intro v2 w2 hown2 hg2 _)
      go_ret
      rw [HB.out]
      exact ⟨_, rfl, hown2, hb2.grown hg2 hbs (fun q hq => (World.ownsRow.lt hown0 q hq).1)⟩
theorem refnum_any (n : Int) (w : World) (h0 : 0 ≤ n) (h1 : n < 18446744073709551616) :
    Calls Tryz.prog 129 #[.int .u64 n] w fun e w' => ∃ v, e = .returned v ∧ Own w.heap.size w' v (dg n.toNat) ∧ Below w.heap.size w w' := refnum_to n.toNat n w h0 h1 (Nat.le_refl _)
end Go.Proofs.YtghophbabbaleaaGreatDoor
namespace Go.Proofs.YtghophbabbaleaaGreatDoor
set_option maxRecDepth 20000
open Go.RowKit
set_option maxHeartbeats 1600000 in
theorem same_any (u v : Value) (l m : List UInt8) (w : World) (hu : Byt w u l) (hv : Byt w v m) :
    Calls Tryz.prog 31 #[u, v] w fun e w' => e = .returned (.bool (decide (l = m))) ∧ ∃ n, w' = w.drewN n := by
  obtain ⟨A, c, rfl⟩ := hu.shape
  obtain ⟨B, d, rfl⟩ := hv.shape
  obtain ⟨_, hc1, hc2, hr⟩ := hu.at_
  obtain ⟨_, hd1, hd2, hs⟩ := hv.at_
  unfold maxLen at hc2 hd2
  obtain ⟨L, HL⟩ : ∃ L : Nat, Hid (l.length = L) := ⟨_, rfl⟩
  obtain ⟨M, HM⟩ : ∃ M : Nat, Hid (m.length = M) := ⟨_, rfl⟩
  rw [HL.out] at hc1 ⊢
  rw [HM.out] at hd1 ⊢
  by_cases hne : L = M
  · subst hne
    have hb0 : ((L : Int) != (L : Int)) = false := by simp
    by_cases h0 : L = 0
    · subst h0
      have e : decide (l = m) = true := by
        have h1 : l = [] := List.eq_nil_of_length_eq_zero HL.out
        have h2 : m = [] := List.eq_nil_of_length_eq_zero HM.out
        simp [h1, h2]
      rw [e]
      clear e
      go_enter Tryz.func31, Tryz.ntmps31
      go_wp2
      refine wp_loop_rounds 1 ?_
      rw [rounds_succ]
      go_wp2
      go_ret
      exact ⟨rfl, 0, rfl⟩
    · obtain ⟨b, off, rfl, hb, hcl⟩ := hr (by have := HL.out; omega)
      obtain ⟨b2, off2, rfl, hb2, hcm⟩ := hs (by have := HM.out; omega)
      obtain ⟨ans, HA⟩ : ∃ ans : Bool, Hid (decide (l = m) = ans) := ⟨_, rfl⟩
      rw [HA.out]
      go_enter Tryz.func31, Tryz.ntmps31
      go_wp2
      go_loopw [5] (fun si wr => ∃ i : Nat, i ≤ L ∧ si = .int .i64 i ∧ Hid (∀ j (h : j < l.length) (h2 : j < m.length), j < i → l[j] = m[j]) ∧ ∃ n, wr = w.drewN n) (fun si _ => L - (intOf si).toNat)
      case atStart => exact ⟨0, Nat.zero_le _, rfl, hid (fun j _ _ h => absurd h (by omega)), 0, rfl⟩
      case round =>
        obtain ⟨i, hi, rfl, HB, n, rfl⟩ := hrel
        by_cases hlt : i < L
        · have hil : i < l.length := by rw [HL.out]; exact hlt
          have him : i < m.length := by rw [HM.out]; exact hlt
          have c1 : w.cell? ⟨b, off + i, none⟩ = some (bcell l[i]) := hcl i hil
          have c2 : w.cell? ⟨b2, off2 + i, none⟩ = some (bcell m[i]) := hcm i him
          obtain ⟨x, hx0, hx1, HX⟩ : ∃ x : Int, 0 ≤ x ∧ x ≤ 255 ∧ Hid ((l[i].toNat : Int) = x) := ⟨_, (byte_lt l[i]).1, (byte_lt l[i]).2, rfl⟩
          obtain ⟨y, hy0, hy1, HY⟩ : ∃ y : Int, 0 ≤ y ∧ y ≤ 255 ∧ Hid ((m[i].toNat : Int) = y) := ⟨_, (byte_lt m[i]).1, (byte_lt m[i]).2, rfl⟩
          unfold bcell at c1 c2
          rw [HX.out] at c1
          rw [HY.out] at c2
          have hI : (i : Int) < (L : Int) := by omega
          clear hcl hcm
          by_cases hxy : x = y
          · subst hxy
            have hb1 : (x != x) = false := by simp
            go_wp2_with fail
            go_quiet (fail)
            go_wp2
            go_roundw
            case rel =>
              refine ⟨i + 1, by omega, by go_num, hid (fun j h h2 hj => ?_), _, rfl⟩
              by_cases hji : j < i
              · exact HB.out j h h2 hji
              · obtain rfl : j = i := by omega
                exact UInt8.toNat_inj.1 (by have := HX.out; have := HY.out; omega)
            case measure => simp [intOf]; omega
          · have hb1 : (x != y) = true := by simpa using hxy
            go_wp2_with fail
            go_quiet (fail)
            go_wp2
            go_ret
            have e : ans = false := by
              rw [← HA.out]
              refine decide_eq_false fun e => hxy ?_
              subst e
              rw [← HX.out, ← HY.out]
            subst e
            exact ⟨rfl, _, World.drewN_drewN _ _ _⟩
        · obtain rfl : i = L := by omega
          go_wp2
          go_ret
          have e : ans = true := by
            rw [← HA.out]
            refine decide_eq_true (List.ext_getElem (by rw [HL.out, HM.out]) fun j h h2 => HB.out j h h2 (by have := HL.out; omega))
          subst e
          exact ⟨rfl, n, rfl⟩
  · have hb0 : ((L : Int) != (M : Int)) = true := by simp; omega
    have e : decide (l = m) = false := decide_eq_false fun e => hne (by rw [← HL.out, ← HM.out, e])
    rw [e]
    clear e
    go_enter Tryz.func31, Tryz.ntmps31
    go_wp2
    go_ret
    exact ⟨rfl, 0, rfl⟩
theorem same_yes (u v : Value) (l : List UInt8) (w : World) (hu : Byt w u l) (hv : Byt w v l) :
    Calls Tryz.prog 31 #[u, v] w fun e w' => e = .returned (.bool true) ∧ ∃ n, w' = w.drewN n := by
  have h := same_any u v l l w hu hv
  rw [decide_eq_true rfl] at h
  exact h
end Go.Proofs.YtghophbabbaleaaGreatDoor
namespace Go.Proofs.YtghophbabbaleaaGreatDoor
set_option maxRecDepth 20000
open Go.RowKit
theorem Byt.mid {w : World} {A : Option Addr} {l : List UInt8} {c q n : Nat} (h : Byt w (.slice A l.length c) l) (hq : q + n ≤ l.length) :
    Byt w (.slice (if c = q then A else A.map (·.add q)) n (c - q)) ((l.drop q).take n) := by
  obtain ⟨_, h1, h2, h3⟩ := h.at_
  have hlen : ((l.drop q).take n).length = n := by rw [List.length_take, List.length_drop]; omega
  refine ⟨_, c - q, by rw [hlen], by rw [hlen]; omega, by omega, fun hl => ?_⟩
  rw [hlen] at hl
  obtain ⟨b, off, rfl, hb, hc⟩ := h3 (by omega)
  rw [if_neg (by omega)]
  refine ⟨b, off + q, by rw [Option.map_some, addr_add], hb, fun j hj => ?_⟩
  rw [hlen] at hj
  rw [Nat.add_assoc, hc (q + j) (by omega), List.getElem_take, List.getElem_drop]
end Go.Proofs.YtghophbabbaleaaGreatDoor
namespace Go.Proofs.YtghophbabbaleaaGreatDoor
set_option maxRecDepth 20000
open Go.RowKit
theorem u64_range (x : Int) : 0 ≤ IntKind.u64.wrap x ∧ IntKind.u64.wrap x < 18446744073709551616 := by
  simp [IntKind.wrap, IntKind.signed, IntKind.bits]
  omega
def rv (A : Option Addr) (n c : Nat) (p : Nat) (wrong : Bool) : Value := .agg #[.slice A n c, .int .i64 (p : Int), .bool wrong]
def RefNum (w : World) (A : Option Addr) (c : Nat) (l : List UInt8) (res : Nat × Nat × Bool) (e : Ending) (w' : World) : Prop :=
  e = .returned (.tuple #[rv A l.length c res.2.1 (!res.2.2), .int .u64 (res.1 : Int)]) ∧ Below w.heap.size w w'
set_option maxHeartbeats 3200000 in
theorem refReadNum_bad (A : Option Addr) (c p : Nat) (l : List UInt8) (w : World) :
    Calls Tryz.prog 132 #[.agg #[.slice A l.length c, .int .i64 (p : Int), .bool true]] w (RefNum w A c l (0, p, false)) := by
  go_enter Tryz.func132, Tryz.ntmps132
  go_wp2_with fail
  refine bodyPost_ret (v := .tuple #[.agg #[.slice A l.length c, .int .i64 (p : Int), .bool true], .int .u64 0]) (by simp [results, Tryz.results132, go_sem]) rfl ⟨rfl, ?_⟩
  go_grown
def p128 (i : Nat) : Nat := 128 ^ i
theorem p128_le {i : Nat} (h : i ≤ 8) : p128 i ≤ 72057594037927936 := by
  have e8 : (128 : Nat) ^ 8 = 72057594037927936 := by decide
  unfold p128
  rw [← e8]
  exact Nat.pow_le_pow_right (by omega) h
theorem p128_step {i : Nat} (h : i ≤ 8) : IntKind.u64.wrap ((p128 i : Int) * 128) = (p128 (i + 1) : Int) := by
  have h1 := p128_le h
  have e : p128 (i + 1) = p128 i * 128 := by simp [p128, Nat.pow_succ]
  rw [wrap_u64 _ (by omega) (by omega), e]
  omega
theorem sum_step (n i : Nat) (x : Int) (hn : n < 18446744073709551616) (hx : x % 128 = ((n / 128 ^ i % 128 : Nat) : Int)) :
    IntKind.u64.wrap ((low n i : Int) + IntKind.u64.wrap (x % 128 * (p128 i : Int))) = (low n (i + 1) : Int) := by
  have hle : low n i + n / 128 ^ i % 128 * 128 ^ i ≤ n := by
    rw [← low_succ]
    exact Nat.mod_le _ _
  rw [hx, low_succ]
  unfold p128
  generalize n / 128 ^ i % 128 = d at *
  have e : (d : Int) * ((128 ^ i : Nat) : Int) = ((d * 128 ^ i : Nat) : Int) := by rw [Int.natCast_mul]
  rw [e, wrap_u64 ((d * 128 ^ i : Nat) : Int) (by omega) (by omega), wrap_u64 _ (by omega) (by omega)]
  omega
set_option maxHeartbeats 3200000 in
theorem refReadNum_yes (A : Option Addr) (c p n : Nat) (l : List UInt8) (w : World) (hv : Byt w (.slice A l.length c) l) (hp : p ≤ l.length) (hl : l.length ≤ 1099511627776) (hf : frst (l.drop p) = some n) :
    Calls Tryz.prog 132 #[.agg #[.slice A l.length c, .int .i64 (p : Int), .bool false]] w (RefNum w A c l (n, p + (dg n).length, true)) := by
  obtain ⟨hn, hpre⟩ := frst_some hf
  have hk := dg_len10 hn
  have hkp := dg_pos n
  have hkl := hpre.length_le
  rw [List.length_drop] at hkl
  obtain ⟨_, hlc, hcm, hr⟩ := hv.at_
  unfold maxLen at hcm
  obtain ⟨b, off, rfl, hb, hcell⟩ := hr (by omega)
  obtain ⟨k, HK⟩ : ∃ k : Nat, Hid ((dg n).length = k) := ⟨_, hid rfl⟩
  rw [HK.out] at hk hkp hkl ⊢
  have hget : ∀ i (h : i < k), (i + 1 < k → (l[p + i]'(by omega)).toNat = 128 + n / 128 ^ i % 128) ∧ (i + 1 = k → (l[p + i]'(by omega)).toNat = n / 128 ^ i ∧ n / 128 ^ i < 128) := by
    intro i h
    have hik : i < (dg n).length := by rw [HK.out]; exact h
    have e : l[p + i]'(by omega) = (dg n)[i] := by
      rw [hpre.getElem hik, List.getElem_drop]
    have := dg_get n i hik
    rw [HK.out] at this
    rw [e]
    exact ⟨this.1, fun h => ⟨(this.2 h).1, (this.2 h).2.1⟩⟩
  have HG := hid hget
  have HC := hid hcell
  have HP := hid hpre
  have HF := hid hf
  have HV := hid hv
  clear hget hcell hpre hf hr hv
  go_enter Tryz.func132, Tryz.ntmps132
  go_wp2_with fail
  go_loop [4, 5, 6] (fun sa su si => ∃ i : Nat, i < k ∧ si = .int .i64 i ∧ sa = .int .u64 (low n i : Int) ∧ su = .int .u64 (p128 i : Int)) (fun _ _ si => 10 - (intOf si).toNat)
  case atStart => exact ⟨0, by omega, rfl, by rw [low_zero]; rfl, rfl⟩
  case round =>
    obtain ⟨i, hi, rfl, rfl, rfl⟩ := hrel
    have hil : p + i < l.length := by omega
    have hcl := HC.out (p + i) hil
    have hx := HG.out i hi
    obtain ⟨x, hx0, hx1, HX⟩ : ∃ x : Int, 0 ≤ x ∧ x ≤ 255 ∧ Hid ((l[p + i].toNat : Int) = x) := ⟨_, (byte_lt l[p + i]).1, (byte_lt l[p + i]).2, hid rfl⟩
    unfold bcell at hcl
    rw [HX.out] at hcl
    have hi10 : (i : Int) < 10 := by omega
    have hpi : (p : Int) + (i : Int) < (l.length : Int) := by omega
    by_cases hlast : i + 1 < k
    · have hx2 := hx.1 hlast
      have hx3 : 128 ≤ x := by rw [← HX.out]; omega
      have HS := hid (sum_step n i x hn (by rw [← HX.out]; omega))
      have HU := hid (p128_step (i := i) (by omega))
      clear hx hx2
      go_wp2_with fail
      go_round
      case rel => exact ⟨i + 1, hlast, by go_num, by rw [HS.out], by rw [HU.out]⟩
      case measure => simp [intOf]; omega
    · obtain ⟨hx2, hx5⟩ := hx.2 (by omega)
      have hx3 : x < 128 := by rw [← HX.out]; omega
      have hik : i + 1 = k := by omega
      have hlow : low n k = n := by
        refine low_all n k ?_
        rw [← hik, Nat.pow_succ, Nat.mul_comm]
        have := Nat.pow_pos (n := i) (show 0 < 128 by omega)
        exact (Nat.div_lt_iff_lt_mul this).1 hx5
      have hsum := sum_step n i x hn (by rw [← HX.out]; omega)
      rw [hik, hlow] at hsum
      have HS := hid hsum
      have HIK := hid hik
      have W1 : IntKind.i64.wrap ((p : Int) + (i : Int)) = (p : Int) + (i : Int) := IntWalk.i64_in _ (by omega)
      have W2 : IntKind.i64.wrap ((p : Int) + (i : Int) + 1) = (p : Int) + (i : Int) + 1 := IntWalk.i64_in _ (by omega)
      have T1 : ((p : Int) + (i : Int) + 1).toNat = p + i + 1 := by omega
      have s1 : 0 ≤ (p : Int) + (i : Int) + 1 := by omega
      have s2 : (p : Int) + (i : Int) + 1 ≤ (c : Int) := by omega
      have s3 : (p : Int) ≤ (p : Int) + (i : Int) + 1 := by omega
      have hcp : ¬ c = p := by omega
      have hR := u64_range ((low n i : Int) + IntKind.u64.wrap (x % 128 * (p128 i : Int)))
      have hcut : dg n = (l.drop p).take k := by
        have := List.prefix_iff_eq_take.1 HP.out
        rw [HK.out] at this
        exact this
      have HD := hid hcut
      have HBY : Hid (∀ w' : World, Below w.heap.size w w' → Byt w' (.slice (some ⟨b, off + p, none⟩) (p + i + 1 - p) (c - p)) ((l.drop p).take k)) := hid (fun w' hb' => by
        have := (HV.out.below hb').mid (q := p) (n := k) (by omega)
        rw [if_neg hcp, Option.map_some, addr_add] at this
        rw [show p + i + 1 - p = k from by omega]
        exact this)
      clear hx hx2 hx5 hlow hsum hik hcut
      go_wp2_with fail
      obtain ⟨N, HN⟩ : ∃ N : Int, Hid (IntKind.u64.wrap ((low n i : Int) + IntKind.u64.wrap (x % 128 * (p128 i : Int))) = N) := ⟨_, hid rfl⟩
      rw [HN.out] at hR ⊢
      have hNn : Hid (N = (n : Int)) := hid (HN.out.symm.trans HS.out)
      have hbw : Below w.heap.size w ((w.alloc (.cells #[.slice (some ⟨b, off, none⟩) l.length c, .int .i64 (p : Int), .bool false] 137)).alloc (.cells #[.slice none 0 0, .int .i64 0, .bool false] 137)) := ((Below.refl _ _).alloc (Nat.le_refl _) _).alloc (by simp) _
      have hX0 := heap_alloc2_old w (.cells #[.slice (some ⟨b, off, none⟩) l.length c, .int .i64 (p : Int), .bool false] 137) (.cells #[.slice none 0 0, .int .i64 0, .bool false] 137)
      have hX1 := heap_alloc2_new w (.cells #[.slice (some ⟨b, off, none⟩) l.length c, .int .i64 (p : Int), .bool false] 137) (.cells #[.slice none 0 0, .int .i64 0, .bool false] 137)
      generalize ((w.alloc (.cells #[.slice (some ⟨b, off, none⟩) l.length c, .int .i64 (p : Int), .bool false] 137)).alloc (.cells #[.slice none 0 0, .int .i64 0, .bool false] 137)) = w0 at *
      have k0 := cell_blk hX0 0
      have k1 := cell_blk hX0 1
      simp at k0 k1
      have hlt0 := lt_of_block hX0
      have H0 := hid hX0
      have H1 := hid hX1
      clear hX0 hX1
      have hd0 : Below w0.heap.size w0 w0.drew := (Below.refl _ _).drew
      go_region_held3 (fun w' => w'.cell? ⟨w.heap.size, 0, none⟩ = some (.slice (some ⟨b, off, none⟩) l.length c) ∧ w'.cell? ⟨w.heap.size, 1, none⟩ = some (.int .i64 (p : Int)))
        (first
          | (refine ⟨k0, k1⟩)
          | (refine ⟨(hB4.cell (p := ⟨w.heap.size, 0, none⟩) hlt0).trans k0, (hB4.cell (p := ⟨w.heap.size, 1, none⟩) hlt0).trans k1⟩)
          | (refine ⟨(hB3.cell (p := ⟨w.heap.size, 0, none⟩) hlt0).trans k0, (hB3.cell (p := ⟨w.heap.size, 1, none⟩) hlt0).trans k1⟩)
          | fail)
        (first
          | (go_at_call 129; refine (refnum_any N _ hR.1 hR.2).mono ?_; rintro e w3 ⟨v3, rfl, hown3, hb3⟩; rw [hNn.out, Int.toNat_natCast, HD.out] at hown3; have hB3 : Below w0.heap.size w0 w3 := hd0.trans hb3)
          | (go_at_call 31; refine (same_yes _ _ _ _ hown3.byt (HBY.out _ (hbw.trans (hB3.mono hbw.size)))).mono ?_; rintro e w' ⟨rfl, n5, rfl⟩; have hB4 : Below w0.heap.size w0 (w3.drewN n5) := below_drewN hB3 n5)
          | fail)
      have G0 := (hB4.block _ hlt0).trans H0.out
      have hlt1 := lt_of_block H1.out
      have G1 := (hB4.block _ hlt1).trans H1.out
      have hbw4 : Below w.heap.size w (w3.drewN n5) := hbw.trans (hB4.mono hbw.size)
      generalize w3.drewN n5 = w5 at *
      have j0 := cell_blk G0 0
      have j1 := cell_blk G0 1
      have j2 := cell_blk G0 2
      have f1 := free_blk G0 1
      have i0 := cell_blk G1 0
      have i1 := cell_blk G1 1
      have i2 := cell_blk G1 2
      have g0 := free_blk G1 0
      have g1 := free_blk G1 1
      have g2 := free_blk G1 2
      simp at j0 j1 j2 i0 i1 i2
      clear k0 k1 hB3 hB4 hown3 hb3 G0 G1
      go_wp2_with fail
      refine bodyPost_ret (v := .tuple #[.agg #[.slice (some ⟨b, off, none⟩) l.length c, .int .i64 ((p : Int) + (i : Int) + 1), .bool false], .int .u64 N]) (by simp [results, Tryz.results132, go_sem, i0, i1, i2]) rfl ⟨?_, ?_⟩
      · rw [hNn.out, ← HIK.out]
        unfold rv
        simp only [Bool.not_true, Int.natCast_add, Int.natCast_one, Int.add_assoc]
      · go_grown
theorem same_no (u v : Value) (l m : List UInt8) (w : World) (hu : Byt w u l) (hv : Byt w v m) (hne : l ≠ m) :
    Calls Tryz.prog 31 #[u, v] w fun e w' => e = .returned (.bool false) ∧ ∃ n, w' = w.drewN n := by
  have h := same_any u v l m w hu hv
  rw [decide_eq_false hne] at h
  exact h
set_option maxHeartbeats 3200000 in
theorem refReadNum_no (A : Option Addr) (c p : Nat) (l : List UInt8) (w : World) (hv : Byt w (.slice A l.length c) l) (hp : p ≤ l.length) (hl : l.length ≤ 1099511627776) (hf : frst (l.drop p) = none) :
    Calls Tryz.prog 132 #[.agg #[.slice A l.length c, .int .i64 (p : Int), .bool false]] w (RefNum w A c l (0, p, false)) := by
  have hno := frst_none hf
  obtain ⟨_, hlc, hcm, hr⟩ := hv.at_
  unfold maxLen at hcm
  have HR := hid hr
  have HN0 := hid hno
  have HV := hid hv
  have hbw : Below w.heap.size w ((w.alloc (.cells #[.slice A l.length c, .int .i64 (p : Int), .bool false] 137)).alloc (.cells #[.slice none 0 0, .int .i64 0, .bool false] 137)) := ((Below.refl _ _).alloc (Nat.le_refl _) _).alloc (by simp) _
  have hX0 := heap_alloc2_old w (.cells #[.slice A l.length c, .int .i64 (p : Int), .bool false] 137) (.cells #[.slice none 0 0, .int .i64 0, .bool false] 137)
  have hX1 := heap_alloc2_new w (.cells #[.slice A l.length c, .int .i64 (p : Int), .bool false] 137) (.cells #[.slice none 0 0, .int .i64 0, .bool false] 137)
  have Hbw := hid hbw
  have HX0 := hid hX0
  have HX1 := hid hX1
  clear hno hf hr hv hbw hX0 hX1
  go_enter Tryz.func132, Tryz.ntmps132
  go_wp2_with fail
  go_loop [4, 5, 6] (fun sa su si => ∃ (i : Nat) (a u : Int), i ≤ 10 ∧ p + i ≤ l.length ∧ si = .int .i64 i ∧ sa = .int .u64 a ∧ su = .int .u64 u) (fun _ _ si => 10 - (intOf si).toNat)
  case atStart => exact ⟨0, 0, 1, by omega, by omega, rfl, rfl, rfl⟩
  case round =>
    obtain ⟨i, a, u, hi, hpi, rfl, rfl, rfl⟩ := hrel
    by_cases hin : i < 10 ∧ p + i < l.length
    · obtain ⟨hi10', hil⟩ := hin
      obtain ⟨b, off, rfl, hb, hcell⟩ := HR.out (by omega)
      have hcl := hcell (p + i) hil
      obtain ⟨x, hx0, hx1, HX⟩ : ∃ x : Int, 0 ≤ x ∧ x ≤ 255 ∧ Hid ((l[p + i].toNat : Int) = x) := ⟨_, (byte_lt l[p + i]).1, (byte_lt l[p + i]).2, hid rfl⟩
      unfold bcell at hcl
      rw [HX.out] at hcl
      have hi10 : (i : Int) < 10 := by omega
      have hpi2 : (p : Int) + (i : Int) < (l.length : Int) := by omega
      clear hcell
      by_cases hbig : 128 ≤ x
      · go_wp2_with fail
        go_round
        case rel => exact ⟨i + 1, _, _, by omega, by omega, by go_num, rfl, rfl⟩
        case measure => simp [intOf]; omega
      · have hx3 : x < 128 := by omega
        have W1 : IntKind.i64.wrap ((p : Int) + (i : Int)) = (p : Int) + (i : Int) := IntWalk.i64_in _ (by omega)
        have W2 : IntKind.i64.wrap ((p : Int) + (i : Int) + 1) = (p : Int) + (i : Int) + 1 := IntWalk.i64_in _ (by omega)
        have T1 : ((p : Int) + (i : Int) + 1).toNat = p + i + 1 := by omega
        have s1 : 0 ≤ (p : Int) + (i : Int) + 1 := by omega
        have s2 : (p : Int) + (i : Int) + 1 ≤ (c : Int) := by omega
        have s3 : (p : Int) ≤ (p : Int) + (i : Int) + 1 := by omega
        have hcp : ¬ c = p := by omega
        have hR := u64_range (a + IntKind.u64.wrap (x % 128 * u))
        have HBY : Hid (∀ w' : World, Below w.heap.size w w' → Byt w' (.slice (some ⟨b, off + p, none⟩) (p + i + 1 - p) (c - p)) ((l.drop p).take (i + 1))) := hid (fun w' hb' => by
          have := (HV.out.below hb').mid (q := p) (n := i + 1) (by omega)
          rw [if_neg hcp, Option.map_some, addr_add] at this
          rw [show p + i + 1 - p = i + 1 from by omega]
          exact this)
        go_wp2_with fail
        obtain ⟨N, HN⟩ : ∃ N : Int, Hid (IntKind.u64.wrap (a + IntKind.u64.wrap (x % 128 * u)) = N) := ⟨_, hid rfl⟩
        rw [HN.out] at hR ⊢
        have HNE : Hid (dg N.toNat ≠ (l.drop p).take (i + 1)) := hid (fun e => HN0.out N.toNat (by omega) (by rw [e]; exact List.take_prefix _ _))
        have hbw := Hbw.out
        have hX0 := HX0.out
        have hX1 := HX1.out
        generalize ((w.alloc (.cells #[.slice (some ⟨b, off, none⟩) l.length c, .int .i64 (p : Int), .bool false] 137)).alloc (.cells #[.slice none 0 0, .int .i64 0, .bool false] 137)) = w0 at *
        have k0 := cell_blk hX0 0
        have k1 := cell_blk hX0 1
        simp at k0 k1
        have hlt0 := lt_of_block hX0
        have H0 := hid hX0
        have H1 := hid hX1
        clear hX0 hX1 HX0 HX1 Hbw
        have hd0 : Below w0.heap.size w0 w0.drew := (Below.refl _ _).drew
        go_region_held3 (fun w' => w'.cell? ⟨w.heap.size, 0, none⟩ = some (.slice (some ⟨b, off, none⟩) l.length c) ∧ w'.cell? ⟨w.heap.size, 1, none⟩ = some (.int .i64 (p : Int)))
          (first
            | (refine ⟨k0, k1⟩)
            | (refine ⟨(hB4.cell (p := ⟨w.heap.size, 0, none⟩) hlt0).trans k0, (hB4.cell (p := ⟨w.heap.size, 1, none⟩) hlt0).trans k1⟩)
            | (refine ⟨(hB3.cell (p := ⟨w.heap.size, 0, none⟩) hlt0).trans k0, (hB3.cell (p := ⟨w.heap.size, 1, none⟩) hlt0).trans k1⟩)
            | fail)
          (first
            | (go_at_call 129; refine (refnum_any N _ hR.1 hR.2).mono ?_; rintro e w3 ⟨v3, rfl, hown3, hb3⟩; have hB3 : Below w0.heap.size w0 w3 := hd0.trans hb3)
            | (go_at_call 31; refine (same_no _ _ _ _ _ hown3.byt (HBY.out _ (hbw.trans (hB3.mono hbw.size))) HNE.out).mono ?_; rintro e w' ⟨rfl, n5, rfl⟩; have hB4 : Below w0.heap.size w0 (w3.drewN n5) := below_drewN hB3 n5)
            | fail)
        have G0 := (hB4.block _ hlt0).trans H0.out
        have hlt1 := lt_of_block H1.out
        have G1 := (hB4.block _ hlt1).trans H1.out
        have hbw4 : Below w.heap.size w (w3.drewN n5) := hbw.trans (hB4.mono hbw.size)
        generalize w3.drewN n5 = w5 at *
        have j0 := cell_blk G0 0
        have j1 := cell_blk G0 1
        have j2 := cell_blk G0 2
        have f2 := free_blk G0 2
        have i0 := cell_blk G1 0
        have i1 := cell_blk G1 1
        have i2 := cell_blk G1 2
        have g0 := free_blk G1 0
        have g1 := free_blk G1 1
        have g2 := free_blk G1 2
        simp at j0 j1 j2 i0 i1 i2
        clear k0 k1 hB3 hB4 hown3 hb3 G0 G1
        go_wp2_with fail
        refine bodyPost_ret (v := .tuple #[.agg #[.slice (some ⟨b, off, none⟩) l.length c, .int .i64 (p : Int), .bool true], .int .u64 0]) (by simp [results, Tryz.results132, go_sem, i0, i1, i2]) rfl ⟨rfl, ?_⟩
        go_grown
    · have hbw := Hbw.out
      by_cases hi10 : i < 10
      · have hpe : ¬ (p : Int) + (i : Int) < (l.length : Int) := by omega
        go_wp2_with fail
        refine bodyPost_ret (v := .tuple #[.agg #[.slice A l.length c, .int .i64 (p : Int), .bool true], .int .u64 0]) (by simp [results, Tryz.results132, go_sem]) rfl ⟨rfl, ?_⟩
        go_grown
      · obtain rfl : i = 10 := by omega
        go_wp2_with fail
        refine bodyPost_ret (v := .tuple #[.agg #[.slice A l.length c, .int .i64 (p : Int), .bool true], .int .u64 0]) (by simp [results, Tryz.results132, go_sem]) rfl ⟨rfl, ?_⟩
        go_grown
theorem refReadNum_any (A : Option Addr) (c p : Nat) (r : Bool) (l : List UInt8) (w : World) (hv : Byt w (.slice A l.length c) l) (hp : p ≤ l.length) (hl : l.length ≤ 1099511627776) :
    Calls Tryz.prog 132 #[.agg #[.slice A l.length c, .int .i64 (p : Int), .bool (!r)]] w (RefNum w A c l (rdNum 18446744073709551615 l p r)) := by
  cases r with
  | false => rw [rdNum_bad]; exact refReadNum_bad A c p l w
  | true =>
    cases hf : frst (l.drop p) with
    | none => rw [rdNum_no hf]; exact refReadNum_no A c p l w hv hp hl hf
    | some n => rw [rdNum_yes hf (by have := (frst_some hf).1; omega)]; exact refReadNum_yes A c p n l w hv hp hl hf
end Go.Proofs.YtghophbabbaleaaGreatDoor
namespace Go.Proofs.YtghophbabbaleaaGreatDoor
set_option maxRecDepth 20000
open Go.RowKit
def RefUpto (w : World) (A : Option Addr) (c : Nat) (l : List UInt8) (res : Nat × Nat × Bool) (e : Ending) (w' : World) : Prop :=
  e = .returned (.tuple #[rv A l.length c res.2.1 (!res.2.2), .int .i64 (res.1 : Int)]) ∧ Below w.heap.size w w'
set_option maxHeartbeats 3200000 in
theorem refUpto_bad (A : Option Addr) (c p : Nat) (r : Bool) (l : List UInt8) (most : Int) (w : World) (hv : Byt w (.slice A l.length c) l) (hp : p ≤ l.length) (hl : l.length ≤ 1099511627776)
    (n p' : Nat) (r' : Bool) (hrd : rdNum 18446744073709551615 l p r = (n, p', r')) (hm0 : -9223372036854775808 ≤ most) (hm1 : most ≤ 9223372036854775807)
    (hbad : r' = false ∨ (r' = true ∧ most < 0) ∨ (r' = true ∧ 0 ≤ most ∧ most < (n : Int))) (_hn : n < 18446744073709551616) :
    Calls Tryz.prog 89 #[.agg #[.slice A l.length c, .int .i64 (p : Int), .bool (!r)], .int .i64 most] w (RefUpto w A c l (0, p, false)) := by
  have HRD := hid hrd
  have hbw : Below w.heap.size w ((w.alloc (.cells #[.slice A l.length c, .int .i64 (p : Int), .bool (!r)] 137)).alloc (.cells #[.slice none 0 0, .int .i64 0, .bool false] 137)) := ((Below.refl _ _).alloc (Nat.le_refl _) _).alloc (by simp) _
  have hX0 := heap_alloc2_old w (.cells #[.slice A l.length c, .int .i64 (p : Int), .bool (!r)] 137) (.cells #[.slice none 0 0, .int .i64 0, .bool false] 137)
  have hX1 := heap_alloc2_new w (.cells #[.slice A l.length c, .int .i64 (p : Int), .bool (!r)] 137) (.cells #[.slice none 0 0, .int .i64 0, .bool false] 137)
  have hv0 := hv.below hbw
  have hlt : w.heap.size + 1 < ((w.alloc (.cells #[.slice A l.length c, .int .i64 (p : Int), .bool (!r)] 137)).alloc (.cells #[.slice none 0 0, .int .i64 0, .bool false] 137)).heap.size := by simp
  have Hbw := hid hbw
  have HX0 := hid hX0
  have HX1 := hid hX1
  clear hrd hX0 hX1 hbw
  go_enter Tryz.func89, Tryz.ntmps89
  go_wp2_with fail
  generalize ((w.alloc (.cells #[.slice A l.length c, .int .i64 (p : Int), .bool (!r)] 137)).alloc (.cells #[.slice none 0 0, .int .i64 0, .bool false] 137)) = w0 at *
  have C := refReadNum_any A c p r l w0 hv0 hp hl
  rw [HRD.out] at C
  refine C.mono ?_
  clear C
  rintro e w1 ⟨rfl, hb1⟩
  unfold rv
  have G0 := (hb1.block _ (by omega)).trans HX0.out
  have G1 := (hb1.block _ (by omega)).trans HX1.out
  have hbw1 : Below w.heap.size w w1 := Hbw.out.trans (hb1.mono (by omega))
  have hs1 := hb1.size
  have j0 := cell_blk G0 0
  have j1 := cell_blk G0 1
  have j2 := cell_blk G0 2
  have f2 := free_blk G0 2
  have i0 := cell_blk G1 0
  have i1 := cell_blk G1 1
  have i2 := cell_blk G1 2
  have g0 := free_blk G1 0
  have g1 := free_blk G1 1
  have g2 := free_blk G1 2
  simp at j0 j1 j2 i0 i1 i2
  have hl0 : w.heap.size < w1.heap.size := by omega
  have hl1 : w.heap.size + 1 < w1.heap.size := by omega
  clear G0 G1 hb1 hv0 HX0 HX1 Hbw hv
  rcases hbad with hb | ⟨rfl, hneg⟩ | ⟨rfl, hpos, hbig⟩
  · subst hb
    go_wp2_with fail
    refine bodyPost_ret (v := .tuple #[.agg #[.slice A l.length c, .int .i64 (p : Int), .bool true], .int .i64 0]) (by simp [results, Tryz.results89, go_sem, i0, i1, i2, hl1]) rfl ⟨rfl, ?_⟩
    go_grown
  · go_wp2_with fail
    refine bodyPost_ret (v := .tuple #[.agg #[.slice A l.length c, .int .i64 (p : Int), .bool true], .int .i64 0]) (by simp [results, Tryz.results89, go_sem, i0, i1, i2, hl1]) rfl ⟨rfl, ?_⟩
    go_grown
  · have hnn : ¬ most < 0 := by omega
    go_wp2_with fail
    refine bodyPost_ret (v := .tuple #[.agg #[.slice A l.length c, .int .i64 (p : Int), .bool true], .int .i64 0]) (by simp [results, Tryz.results89, go_sem, i0, i1, i2, hl1]) rfl ⟨rfl, ?_⟩
    go_grown
set_option maxHeartbeats 3200000 in
theorem refUpto_yes (A : Option Addr) (c p : Nat) (r : Bool) (l : List UInt8) (most : Int) (w : World) (hv : Byt w (.slice A l.length c) l) (hp : p ≤ l.length) (hl : l.length ≤ 1099511627776)
    (n p' : Nat) (hrd : rdNum 18446744073709551615 l p r = (n, p', true)) (hm1 : most ≤ 9223372036854775807) (hle : (n : Int) ≤ most) :
    Calls Tryz.prog 89 #[.agg #[.slice A l.length c, .int .i64 (p : Int), .bool (!r)], .int .i64 most] w (RefUpto w A c l (n, p', true)) := by
  have HRD := hid hrd
  have hbw : Below w.heap.size w ((w.alloc (.cells #[.slice A l.length c, .int .i64 (p : Int), .bool (!r)] 137)).alloc (.cells #[.slice none 0 0, .int .i64 0, .bool false] 137)) := ((Below.refl _ _).alloc (Nat.le_refl _) _).alloc (by simp) _
  have hX1 := heap_alloc2_new w (.cells #[.slice A l.length c, .int .i64 (p : Int), .bool (!r)] 137) (.cells #[.slice none 0 0, .int .i64 0, .bool false] 137)
  have hv0 := hv.below hbw
  have hlt : w.heap.size + 1 < ((w.alloc (.cells #[.slice A l.length c, .int .i64 (p : Int), .bool (!r)] 137)).alloc (.cells #[.slice none 0 0, .int .i64 0, .bool false] 137)).heap.size := by simp
  have Hbw := hid hbw
  have HX1 := hid hX1
  have h0 : 0 ≤ most := by omega
  clear hrd hX1 hbw
  go_enter Tryz.func89, Tryz.ntmps89
  go_wp2_with fail
  generalize ((w.alloc (.cells #[.slice A l.length c, .int .i64 (p : Int), .bool (!r)] 137)).alloc (.cells #[.slice none 0 0, .int .i64 0, .bool false] 137)) = w0 at *
  have C := refReadNum_any A c p r l w0 hv0 hp hl
  rw [HRD.out] at C
  refine C.mono ?_
  clear C
  rintro e w1 ⟨rfl, hb1⟩
  unfold rv
  have G1 := (hb1.block _ (by omega)).trans HX1.out
  have hbw1 : Below w.heap.size w w1 := Hbw.out.trans (hb1.mono (by omega))
  have hs1 := hb1.size
  have i0 := cell_blk G1 0
  have i1 := cell_blk G1 1
  have i2 := cell_blk G1 2
  have g0 := free_blk G1 0
  have g1 := free_blk G1 1
  have g2 := free_blk G1 2
  simp at i0 i1 i2
  have hl1 : w.heap.size + 1 < w1.heap.size := by omega
  have hnn : ¬ most < 0 := by omega
  have hnb : ¬ most < (n : Int) := by omega
  clear G1 hb1 hv0 HX1 Hbw hv
  go_wp2_with fail
  refine bodyPost_ret (v := .tuple #[.agg #[.slice A l.length c, .int .i64 (p' : Int), .bool false], .int .i64 (n : Int)]) (by simp [results, Tryz.results89, go_sem, i0, i1, i2, hl1]) rfl ⟨rfl, ?_⟩
  go_grown
theorem refUpto_any (A : Option Addr) (c p : Nat) (r : Bool) (l : List UInt8) (most : Int) (w : World) (hv : Byt w (.slice A l.length c) l) (hp : p ≤ l.length) (hl : l.length ≤ 1099511627776)
    (hm0 : -9223372036854775808 ≤ most) (hm1 : most ≤ 9223372036854775807) :
    Calls Tryz.prog 89 #[.agg #[.slice A l.length c, .int .i64 (p : Int), .bool (!r)], .int .i64 most] w (RefUpto w A c l (rdUpto most l p r)) := by
  cases r with
  | false =>
    have e : rdUpto most l p false = (0, p, false) := by unfold rdUpto; split; rfl; exact rdNum_bad _ _ _
    rw [e]
    exact refUpto_bad A c p false l most w hv hp hl 0 p false (rdNum_bad _ _ _) hm0 hm1 (.inl rfl) (by omega)
  | true =>
    cases hf : frst (l.drop p) with
    | none =>
      have e : rdUpto most l p true = (0, p, false) := by unfold rdUpto; split; rfl; exact rdNum_no hf
      rw [e]
      exact refUpto_bad A c p true l most w hv hp hl 0 p false (rdNum_no hf) hm0 hm1 (.inl rfl) (by omega)
    | some n =>
      have hn := (frst_some hf).1
      have hrd : rdNum 18446744073709551615 l p true = (n, p + (dg n).length, true) := rdNum_yes hf (by omega)
      by_cases hneg : most < 0
      · have e : rdUpto most l p true = (0, p, false) := by unfold rdUpto; rw [if_pos hneg]
        rw [e]
        exact refUpto_bad A c p true l most w hv hp hl n _ true hrd hm0 hm1 (.inr (.inl ⟨rfl, hneg⟩)) hn
      · by_cases hle : n ≤ most.toNat
        · have e : rdUpto most l p true = (n, p + (dg n).length, true) := by unfold rdUpto; rw [if_neg hneg, rdNum_yes hf hle]
          rw [e]
          exact refUpto_yes A c p true l most w hv hp hl n _ hrd hm1 (by omega)
        · have e : rdUpto most l p true = (0, p, false) := by unfold rdUpto; rw [if_neg hneg, rdNum_big hf hle]
          rw [e]
          exact refUpto_bad A c p true l most w hv hp hl n _ true hrd hm0 hm1 (.inr (.inr ⟨rfl, by omega, by omega⟩)) hn
end Go.Proofs.YtghophbabbaleaaGreatDoor
namespace Go.Proofs.YtghophbabbaleaaGreatDoor
set_option maxRecDepth 20000
open Go.RowKit
theorem Own.set {B g : Nat} {w : World} {v : Value} {l : List UInt8} (h : Own B w v l) (hne : v.ownBlock ≠ some g) (i : Nat) (u : Value) : Own B (w.setCell ⟨g, i, none⟩ u) v l := ownsRow_setCell_other h hne u
end Go.Proofs.YtghophbabbaleaaGreatDoor
