/-
  A hash is an array of 32 bytes: how such a variable is laid, read and written whole; how bytes are copied into a row. Laws for the walk.
-/
import Derived.Test.YtefngncieagobaaAppend
import Derived.Laws.Rows
import Derived.Laws.Tables
import Derived.Laws.CopyOwn
import Derived.Deep.MidRow
import Derived.ChangeKeysEq
import Derived.Laws.StructEq
namespace Go.Proofs.Ytefngncieagobaa
open Go.RowKit

/-- A hash's cells. -/
def hcells (h : List UInt8) : Array Value := (bcells h).toArray
/-- Noughts. -/
def nought : List UInt8 := List.replicate 32 0
theorem nought_length : nought.length = 32 := by simp [nought]
theorem hcells_size (h : List UInt8) : (hcells h).size = h.length := by simp [hcells, bcells]
theorem hcells_list (h : List UInt8) : (hcells h).toList = bcells h := by simp [hcells]
theorem hcells_one (h : List UInt8) : (hcells h).all (·.oneCell') = true := all_oneCell_toArray (bcells_one h)

/-- copy of bytes into a row that is known whole. -/
theorem wpList_copy_byt {ops : Array Oper} {rest : List Oper} {o : Oper} {a : Act} {w : World} {Q : Exit → Act → World → Prop} (hgd : o.guard = none) (d s : Operand)
    (ho : o.op = .call { callee := .builtin .copy, args := #[d, s], argTypes := #[22, 22] })
    {dp : Option Addr} {dLen dCap : Nat} {v : Value} {m : List UInt8} (hd : a.eval d = .slice dp dLen dCap) (hs : a.eval s = v) (hv : Byt w v m)
    {g off : Nat} {cur : List UInt8} {t : TypeId} (hg : w.heap[g]? = some (.cells (hcells cur) t (0, 0))) {k : Nat} (hk : k = Nat.min m.length dLen)
    (hdp : 0 < k → dp = some ⟨g, off, none⟩) (hfit : off + k ≤ cur.length)
    (h : ∀ w', w.grownBy w' (some g) → Hid (w'.heap[g]? = some (.cells (hcells (splice cur off (m.take k))) t (0, 0))) → w'.heap.size = w.heap.size → wpList Try.prog ops Q rest (a.put o.dst (goInt k)) w') :
    wpList Try.prog ops Q (o :: rest) a w := by
  obtain ⟨A, c, rfl, h1, h2, hr⟩ := hv
  have hsz : (Try.prog.info? 5).map (·.size) = some 1 := by kernel_rfl
  have hkm : k ≤ m.length := by rw [hk]; exact Nat.min_le_left _ _
  by_cases h0 : k = 0
  · subst h0
    refine wpList_copy_nothing hgd d s _ _ ho 5 under_bytes hsz dp A dLen dCap m.length c hd hs (by omega) ?_
    refine h w (World.grownBy.refl _ _) ?_ rfl
    have e : splice cur off (m.take 0) = cur := by simp [splice]
    rw [e]
    exact hid hg
  · obtain rfl := hdp (by omega)
    obtain ⟨b, off2, rfl, hb, hc⟩ := hr (by omega)
    have hlen : (bcells (m.take k)).length = k := by simp [bcells]; omega
    have hrow : (hcells cur).toList.take off ++ (bcells (m.take k) ++ (hcells cur).toList.drop (off + (bcells (m.take k)).length)) = bcells (splice cur off (m.take k)) := by
      rw [hlen, hcells_list]
      have : (m.take k).length = k := by simp; omega
      simp [splice, bcells, List.map_take, List.map_drop, this]
    refine wpList_copy_own hgd d s _ _ ho 5 under_bytes hsz g off dLen dCap ⟨b, off2, none⟩ m.length c hd hs (hcells cur) t hg (bcells (m.take k)) (by rw [hlen, hk]) ?_ (by rw [hlen, hcells_size]; exact hfit) (bcells_one _) ?_
    · intro j u hu
      obtain ⟨hj, rfl⟩ := bcells_get _ j u hu
      rw [addr_add]
      have hjm : j < m.length := by simp at hj; omega
      rw [hc j hjm, List.getElem_take]
    · rw [hrow, hlen]
      exact h _ ⟨rfl, rfl, rfl, by simp, fun q _ hq => setRow_other w g q _ (fun e => hq (by simp [e]))⟩ (setRow_heap w g _ _ t _ hg) (by simp)

theorem hcells_get (h : List UInt8) (i : Nat) (hi : i < h.length) : (hcells h)[i]? = some (bcell h[i]) := by simp [hcells, bcells, hi]

/-- Two hashes are the same where all their bytes are. -/
theorem eqItems_bytes (d : Nat) (a b : List UInt8) (w : World) : ∀ is : List Nat, (∀ i ∈ is, i < a.length ∧ i < b.length) →
    (Op.eqItems (d + 1) 5 (Try.prog.cellsOf 5) (hcells a) (hcells b) is).run Try.prog w = .ok (is.all fun i => decide (a[i]? = b[i]?)) w := by
  have hc : Try.prog.cellsOf 5 = 1 := by kernel_rfl
  have hp : Try.prog.plainKey 5 = true := by kernel_rfl
  have hu : Try.prog.underlying 5 = some (.int .u8) := by kernel_rfl
  rw [hc]
  intro is
  induction is with
  | nil => intro _; simp [Op.eqItems]
  | cons i is ih =>
    intro h
    obtain ⟨hi, hj⟩ := h i (by simp)
    have ih' := ih (fun j hj => h j (List.mem_cons_of_mem _ hj))
    have pa := run_part_plain (P := Try.prog) w hp (hcells_get a i hi)
    have pb := run_part_plain (P := Try.prog) w hp (hcells_get b i hj)
    have pe := run_equalIn_int (P := Try.prog) w d 5 .u8 .u8 (a[i].toNat : Int) (b[i].toNat : Int) hu
    unfold bcell at pa pb
    simp only [Op.eqItems, Sem.run_bind, Nat.mul_one, pa, pb, pe, Result.andThen_ok]
    by_cases e : a[i] = b[i]
    · simp [ih', hi, hj, e]
    · have e1 : ((a[i].toNat : Int) == (b[i].toNat : Int)) = false := by
        rw [beq_eq_false_iff_ne]
        intro h
        exact e (UInt8.toNat_inj.1 (by omega))
      simp [e1, hi, hj, e]
/-- A row of the call's own that has no spare room is a block that is known whole. -/
theorem own_full {B n : Nat} {w : World} {A : Option Addr} {l : List UInt8} (h : Own B w (.slice A n n) l) (hn : 0 < n) : ∃ g, A = some ⟨g, 0, none⟩ ∧ B ≤ g ∧ w.heap[g]? = some (.cells (hcells l) 5 (0, 0)) := by
  rcases h.2 with ⟨e, _⟩ | ⟨g, cap, cur, e, hg, hh, hnc, _, hs, ht⟩
  · injection e with _ e; omega
  · injection e with e1 e2 e3
    refine ⟨g, e1, hg, ?_⟩
    rw [hh]
    have hl : cur.toList = bcells l := by
      rw [← ht, List.take_of_length_le]
      rw [Array.length_toList, hs]
      omega
    have : cur = hcells l := by
      apply Array.ext'
      rw [hl, hcells_list]
    rw [this]
/-- A block of bytes is a row of the call's own. -/
theorem own_of_blk {B g n : Nat} {w : World} {l : List UInt8} (hg : w.heap[g]? = some (.cells (hcells l) 5 (0, 0))) (hB : B ≤ g) (hn : n = l.length) (hm : n ≤ maxLen) : Own B w (.slice (some ⟨g, 0, none⟩) n n) l := by
  subst hn
  refine ⟨by simp [bcells], .inr ⟨g, l.length, hcells l, rfl, hB, hg, Nat.le_refl _, hm, by rw [hcells_size, Nat.mul_one], ?_⟩⟩
  rw [hcells_list, Nat.mul_one, List.take_of_length_le (by simp [bcells])]
/-- .. and reads as those bytes, whatever its type. -/
theorem byt_of_blk {g n : Nat} {w : World} {l : List UInt8} {t : TypeId} (hg : w.heap[g]? = some (.cells (hcells l) t (0, 0))) (hn : n = l.length) (hm : n ≤ maxLen) : Byt w (.slice (some ⟨g, 0, none⟩) n n) l := by
  subst hn
  refine ⟨_, _, rfl, Nat.le_refl _, hm, fun _ => ⟨g, 0, rfl, lt_of_block hg, fun j hj => ?_⟩⟩
  rw [Nat.zero_add, cell_of_row w g j _ t (0, 0) hg, hcells_get l j hj]
theorem splice_head (Z l : List UInt8) : splice Z 0 l = l ++ Z.drop l.length := by simp [splice]
theorem splice_two (Z l m : List UInt8) (h : Z.length = l.length + m.length) : splice (splice Z 0 l) l.length m = l ++ m := by
  have e : (Z.drop l.length).drop m.length = [] := by rw [List.drop_drop]; exact List.drop_eq_nil_of_le (by omega)
  rw [splice_head Z l]
  simp only [splice, List.take_left', List.drop_append]
  rw [List.drop_eq_nil_of_le (by omega), List.nil_append, show l.length + m.length - l.length = m.length from by omega, e, List.append_nil]

/-- copy of bytes into a row that is known whole: as an equation of runs. -/
theorem run_copy_byt {w : World} {dp : Option Addr} {dLen dCap : Nat} {v : Value} {m : List UInt8} (ty : TypeId) (hv : Byt w v m)
    {g off : Nat} {cur : List UInt8} {t : TypeId} (hg : w.heap[g]? = some (.cells (hcells cur) t (0, 0))) {k : Nat} (hk : k = Nat.min m.length dLen) (h0 : 0 < k)
    (hdp : dp = some ⟨g, off, none⟩) (hfit : off + k ≤ cur.length) :
    ∃ w', (Builtin.copy_ #[22, 22] ty #[.slice dp dLen dCap, v]).run Try.prog w = .ok (.int .i64 (k : Int)) w' ∧ w.grownBy w' (some g) ∧ w'.heap[g]? = some (.cells (hcells (splice cur off (m.take k))) t (0, 0)) ∧ w'.heap.size = w.heap.size := by
  obtain ⟨A, c, rfl, h1, h2, hr⟩ := hv
  have hsz : (Try.prog.info? 5).map (·.size) = some 1 := by kernel_rfl
  have hkm : k ≤ m.length := by rw [hk]; exact Nat.min_le_left _ _
  subst hdp
  obtain ⟨b, off2, rfl, hb, hc⟩ := hr (by omega)
  have hlen : (bcells (m.take k)).length = k := by simp [bcells]; omega
  have hrow : (hcells cur).toList.take off ++ bcells (m.take k) ++ (hcells cur).toList.drop (off + (bcells (m.take k)).length) = bcells (splice cur off (m.take k)) := by
    rw [hlen, hcells_list]
    have : (m.take k).length = k := by simp; omega
    simp [splice, bcells, List.map_take, List.map_drop, this]
  have hrun := run_copy_row (P := Try.prog) w 22 22 ty 5 g off dLen dCap ⟨b, off2, none⟩ m.length c (hcells cur) t (bcells (m.take k)) under_bytes hsz hg (by rw [hlen, hk]) (fun j u hu => by
    obtain ⟨hj, rfl⟩ := bcells_get _ j u hu
    rw [addr_add]
    have hjm : j < m.length := by simp at hj; omega
    rw [hc j hjm, List.getElem_take]) (by rw [hlen, hcells_size]; exact hfit) (bcells_one _)
  rw [hrow, hlen] at hrun
  exact ⟨_, hrun, ⟨rfl, rfl, rfl, by simp, fun q _ hq => setRow_other w g q _ (fun e => hq (by simp [e]))⟩, setRow_heap w g _ _ t _ hg, by simp⟩
end Go.Proofs.Ytefngncieagobaa
