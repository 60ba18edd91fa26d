/-
  Quorum Node AtRd AtRead AtOk AtCodeAlike AtCodeMay AtCodeTagged AtCodePut: what each of them says stands at its head.
-/
import Derived.Test.YtjemfmbmlmogcaaGreatRows
import Derived.Deep.RegionWith
import Derived.LoopTactic
import Derived.Test.YtjemfmbmlmogcaaGreatBs6
import Derived.ArgAppend
import Derived.BigQuiet
import Derived.Deep.DeepCutAuto
import Derived.Deep.QuietTactic
import Derived.Deep.RegionHeld3
import Derived.Laws.IdiomCopy
import Derived.Outline
import Derived.StillTailTactics
import Derived.Test.YtjemfmbmlmogcaaGreatBs2
import Derived.Test.YtjemfmbmlmogcaaGreatBs12
import Derived.Test.YtjemfmbmlmogcaaGreatBs8
import Derived.Test.YtjemfmbmlmogcaaGreatBs3
import Derived.Test.YtjemfmbmlmogcaaGreatBs4
import Derived.Test.YtjemfmbmlmogcaaGreatBs1
import Derived.Test.YtjemfmbmlmogcaaGreatBs9
namespace Go.Proofs.YtjemfmbmlmogcaaGreat
set_option maxRecDepth 20000
theorem unlike_le : ∀ (n : Nat) (l : List Int), l.Nodup → (∀ x ∈ l, 1 ≤ x ∧ x ≤ (n : Int)) → l.length ≤ n
  | 0, l, _, h => by
    rcases l with _ | ⟨x, l⟩
    · exact Nat.le_refl _
    · have := h x (by simp)
      omega
  | n + 1, l, hd, h => by
    by_cases hm : ((n + 1 : Nat) : Int) ∈ l
    · have hl := List.length_erase_of_mem hm
      have ih := unlike_le n (l.erase ((n + 1 : Nat) : Int)) (hd.erase _) (fun x hx => by
        have h1 := h x (List.mem_of_mem_erase hx)
        have h2 : x ≠ ((n + 1 : Nat) : Int) := fun e => by
          rw [e] at hx
          exact (List.Nodup.not_mem_erase hd) hx
        omega)
      have hp : 0 < l.length := List.length_pos_of_mem hm
      omega
    · have ih := unlike_le n l hd (fun x hx => by
        have h1 := h x hx
        have h2 : x ≠ ((n + 1 : Nat) : Int) := fun e => hm (by rw [← e]; exact hx)
        omega)
      omega
end Go.Proofs.YtjemfmbmlmogcaaGreat
namespace Go.Proofs.YtjemfmbmlmogcaaGreat
set_option maxRecDepth 20000
open Go.RowKit
def nodeB (i : Int) : Bool := decide (1 ≤ i ∧ i ≤ 21)
theorem ret_boolK {a b : Bool} (h : a = b) : Ending.returned (.bool a) = .returned (.bool b) := by rw [h]
theorem node_any (i : Int) (w : World) : Calls Tryz.prog 97 #[.int .i64 i] w fun e w' => e = .returned (.bool (nodeB i)) ∧ w = w' := by
  by_cases h1 : 1 ≤ i
  · go_enter Tryz.func97, Tryz.ntmps97
    go_wp2
    go_ret
    exact ⟨ret_boolK (by unfold nodeB; rw [Bool.eq_iff_iff]; simp; omega), rfl⟩
  · go_enter Tryz.func97, Tryz.ntmps97
    go_wp2
    go_ret
    exact ⟨ret_boolK (by unfold nodeB; rw [eq_comm, decide_eq_false_iff_not]; omega), rfl⟩
end Go.Proofs.YtjemfmbmlmogcaaGreat
namespace Go.Proofs.YtjemfmbmlmogcaaGreat
set_option maxRecDepth 20000
open Go.RowKit
theorem atl_ha (a : AtM) : atl a = [.int .i64 a.bo, .int .i64 a.ki, .int .i64 a.vi, .int .i64 a.ph] ++ (bcells a.ha ++ ([.int .i64 a.pv] ++ (bcells a.pa ++ bcells a.tg))) := rfl
theorem atl_pa (a : AtM) : atl a = ([.int .i64 a.bo, .int .i64 a.ki, .int .i64 a.vi, .int .i64 a.ph] ++ (bcells a.ha ++ [.int .i64 a.pv])) ++ (bcells a.pa ++ bcells a.tg) := by
  unfold atl
  simp only [List.append_assoc]
theorem atl_pv (a : AtM) : atl a = ([.int .i64 a.bo, .int .i64 a.ki, .int .i64 a.vi, .int .i64 a.ph] ++ bcells a.ha) ++ (.int .i64 a.pv :: (bcells a.pa ++ bcells a.tg)) := by
  unfold atl
  simp only [List.cons_append, List.nil_append]
theorem atc_pv {a : AtM} (h : a.Ok) (n : Int) : (atc a).setIfInBounds 36 (.int .i64 n) = atc { a with pv := n } := by
  have hl : ([.int .i64 a.bo, .int .i64 a.ki, .int .i64 a.vi, .int .i64 a.ph] ++ bcells a.ha : List Value).length = 36 := by simp only [List.length_append, bcells_length, h.ha, List.length_cons, List.length_nil]
  unfold atc
  rw [List.setIfInBounds_toArray, atl_pv, atl_pv, List.set_append_right _ _ (by omega), hl]
  rfl
section
variable {ops : Array Oper} {rest : List Oper} {o : Oper} {ac : Act} {w : World} {Q : Exit → Act → World → Prop}
theorem wpList_store_ha (hgd : o.guard = none) (x y : Operand) (ho : o.op = .store 23 x y)
    {g : Nat} {a : AtM} {h : List UInt8} (hx : ac.eval x = .pointer (some ⟨g, 4, none⟩)) (hy : ac.eval y = .agg (hcells h)) (hg : BoxA w g a) (hok : a.Ok) (hl : h.length = 32)
    (hh : ∀ w', w.grownBy w' (some g) → BoxA w' g { a with ha := h } → w'.heap.size = w.heap.size → wpList Tryz.prog ops Q rest (ac.put o.dst undef) w') : wpList Tryz.prog ops Q (o :: rest) ac w := by
  unfold BoxA atc at hg
  rw [atl_ha] at hg
  refine wpList_store_midh hgd x y ho hx hy hg rfl (by rw [bcells_length, hok.ha]) hl (fun w' h1 h2 h3 => hh w' h1 ?_ h3)
  unfold BoxA atc
  rw [atl_ha]
  exact h2
theorem wpList_store_pa (hgd : o.guard = none) (x y : Operand) (ho : o.op = .store 23 x y)
    {g : Nat} {a : AtM} {h : List UInt8} (hx : ac.eval x = .pointer (some ⟨g, 37, none⟩)) (hy : ac.eval y = .agg (hcells h)) (hg : BoxA w g a) (hok : a.Ok) (hl : h.length = 32)
    (hh : ∀ w', w.grownBy w' (some g) → BoxA w' g { a with pa := h } → w'.heap.size = w.heap.size → wpList Tryz.prog ops Q rest (ac.put o.dst undef) w') : wpList Tryz.prog ops Q (o :: rest) ac w := by
  unfold BoxA atc at hg
  rw [atl_pa] at hg
  refine wpList_store_midh hgd x y ho hx hy hg (by simp only [List.length_append, bcells_length, hok.ha, List.length_cons, List.length_nil]) (by rw [bcells_length, hok.pa]) hl (fun w' h1 h2 h3 => hh w' h1 ?_ h3)
  unfold BoxA atc
  rw [atl_pa]
  exact h2
end
structure AtSt (w0 w : World) (x0 x1 x2 : Value) (a : AtM) : Prop where
  bel : Below w0.heap.size w0 w
  b0 : w.heap[w0.heap.size]? = some (.cells #[x0, x1, x2] 83 (0, 0))
  b1 : w.heap[w0.heap.size + 1]? = some (.cells #[.slice none 0 0, .int .i64 0, .bool false] 83 (0, 0))
  b2 : BoxA w (w0.heap.size + 1 + 1) atZ
  b3 : BoxA w (w0.heap.size + 1 + 1 + 1) a
section
variable {w0 w w' : World} {x0 x1 x2 : Value} {a : AtM}
theorem AtSt.lt (h : AtSt w0 w x0 x1 x2 a) : w0.heap.size + 1 + 1 + 1 < w.heap.size := lt_of_block h.b3
theorem AtSt.below (h : AtSt w0 w x0 x1 x2 a) (hb : Below w.heap.size w w') : AtSt w0 w' x0 x1 x2 a := by
  have hlt := h.lt
  exact ⟨h.bel.trans (hb.mono h.bel.size), (hb.block _ (by omega)).trans h.b0, (hb.block _ (by omega)).trans h.b1, (hb.block _ (by omega)).trans h.b2, (hb.block _ hlt).trans h.b3⟩
theorem AtSt.new (w : World) (x0 x1 x2 : Value) :
    AtSt w ((((w.alloc (.cells #[x0, x1, x2] 83)).alloc (.cells #[.slice none 0 0, .int .i64 0, .bool false] 83)).alloc (.cells (atc atZ) 25)).alloc (.cells (atc atZ) 25)) x0 x1 x2 atZ :=
  ⟨four_below _ _ _ _ _, four_0 _ _ _ _ _, four_1 _ _ _ _ _, four_2 _ _ _ _ _, four_3 _ _ _ _ _⟩
theorem AtSt.put (h : AtSt w0 w x0 x1 x2 a) (y0 y1 y2 : Value) :
    AtSt w0 (((w.setCell ⟨w0.heap.size, 0, none⟩ y0).setCell ⟨w0.heap.size, 1, none⟩ y1).setCell ⟨w0.heap.size, 2, none⟩ y2) y0 y1 y2 a := by
  refine ⟨((h.bel.setCell (Nat.le_refl _) _).setCell (Nat.le_refl _) _).setCell (Nat.le_refl _) _, ?_, ?_, ?_, ?_⟩
  · exact set_blk (set_blk (set_blk h.b0 0 y0) 1 y1) 2 y2
  · exact blk_other (blk_other (blk_other h.b1 y0 (by omega)) y1 (by omega)) y2 (by omega)
  · exact blk_other (blk_other (blk_other h.b2 y0 (by omega)) y1 (by omega)) y2 (by omega)
  · exact blk_other (blk_other (blk_other h.b3 y0 (by omega)) y1 (by omega)) y2 (by omega)
theorem AtSt.cell (h : AtSt w0 w x0 x1 x2 a) {b : AtM} {v : Value} (i : Nat) (e : (atc a).setIfInBounds i v = atc b) : AtSt w0 (w.setCell ⟨w0.heap.size + 1 + 1 + 1, i, none⟩ v) x0 x1 x2 b := by
  refine ⟨h.bel.setCell (by simp only; omega) _, blk_other h.b0 _ (by omega), blk_other h.b1 _ (by omega), blk_other h.b2 _ (by omega), ?_⟩
  have := set_blk h.b3 i v
  rw [e] at this
  exact this
theorem AtSt.att (h : AtSt w0 w x0 x1 x2 a) {b : AtM} (hg : w.grownBy w' (some (w0.heap.size + 1 + 1 + 1))) (hb : BoxA w' (w0.heap.size + 1 + 1 + 1) b) : AtSt w0 w' x0 x1 x2 b := by
  have hlt := h.lt
  refine ⟨h.bel.grown hg h.bel.size (fun k hk => by injection hk with hk; omega), ?_, ?_, ?_, hb⟩
  · exact (hg.block _ (by omega) (fun e => by injection e with e; omega)).trans h.b0
  · exact (hg.block _ (by omega) (fun e => by injection e with e; omega)).trans h.b1
  · exact (hg.block _ (by omega) (fun e => by injection e with e; omega)).trans h.b2
theorem AtSt.cells (h : AtSt w0 w x0 x1 x2 a) (ho : a.Ok) :
    (w.cell? ⟨w0.heap.size, 0, none⟩ = some x0 ∧ w.cell? ⟨w0.heap.size, 1, none⟩ = some x1 ∧ w.cell? ⟨w0.heap.size, 2, none⟩ = some x2) ∧
    (w.cell? ⟨w0.heap.size + 1 + 1 + 1, 0, none⟩ = some (.int .i64 a.bo) ∧ w.cell? ⟨w0.heap.size + 1 + 1 + 1, 1, none⟩ = some (.int .i64 a.ki) ∧ w.cell? ⟨w0.heap.size + 1 + 1 + 1, 2, none⟩ = some (.int .i64 a.vi) ∧ w.cell? ⟨w0.heap.size + 1 + 1 + 1, 3, none⟩ = some (.int .i64 a.ph) ∧ w.cell? ⟨w0.heap.size + 1 + 1 + 1, 36, none⟩ = some (.int .i64 a.pv)) ∧
    (∀ i, w.frozen? ⟨w0.heap.size, i, none⟩ = false) ∧ (∀ i, w.frozen? ⟨w0.heap.size + 1 + 1 + 1, i, none⟩ = false) :=
  ⟨⟨cell_blk h.b0 0, cell_blk h.b0 1, cell_blk h.b0 2⟩, ⟨h.b3.cells.1, h.b3.cells.2.1, h.b3.cells.2.2.1, h.b3.cells.2.2.2, h.b3.pv ho⟩, free_blk h.b0, h.b3.free⟩
end
end Go.Proofs.YtjemfmbmlmogcaaGreat
namespace Go.Proofs.YtjemfmbmlmogcaaGreat
set_option maxRecDepth 20000
open Go.RowKit
attribute [local go_sem ↓] exec_load_att exec_alloc_att exec_store_att exec_build_att
theorem rdHash_pl8 {l : List UInt8} {p : Nat} {r : Bool} (hp : p ≤ l.length) : (rdHash l p r).2.1 ≤ l.length := by
  unfold rdHash
  split
  · exact hp
  · split
    · assumption
    · exact hp
theorem setAtt_self {w : World} {g : Nat} {t : TypeId} {C : Array Value} {fr : Nat × Nat} (hg : w.heap[g]? = some (.cells C t fr)) : setAtt w g C = w := by
  have e : ∀ f : Obj → Obj, f (.cells C t fr) = .cells C t fr → w.heap.modify g f = w.heap := by
    intro f hf
    apply Array.ext_getElem?
    intro k
    rw [Array.getElem?_modify]
    by_cases h : g = k
    · subst h
      rw [if_pos rfl, hg]
      simp [hf]
    · rw [if_neg h]
  unfold setAtt World.setRow
  rw [e _ rfl]
theorem wp_store_whole {op : Oper} {ac : Act} {w : World} {K : Act → World → Prop} {Q : Exit → Act → World → Prop} {T : TypeId} (x y : Operand) (ho : op.op = .store T x y) {g : Nat} {t : TypeId} {C0 C : Array Value}
    (hx : ac.eval x = .pointer (some ⟨g, 0, none⟩)) (hy : ac.eval y = .agg C) (hg : w.heap[g]? = some (.cells C0 t (0, 0))) (hi : (Tryz.prog.info? T).map (·.size) = some C.size) (hs : C0.size = C.size) (h1 : C.all (·.oneCell') = true)
    (hh : ∀ w', w.grownBy w' (some g) → w'.heap[g]? = some (.cells C t (0, 0)) → w'.heap.size = w.heap.size → K (ac.put op.dst undef) w') : op.wp Tryz.prog ac w K Q := by
  refine wp_store_mid T x y ho g 0 C hx hy (fun j hj => ⟨?_, free_blk hg _⟩) hi h1 ?_
  · rw [cell_blk hg, Nat.zero_add, Array.getElem?_eq_getElem (by omega)]
    rfl
  · refine hh _ (grown_setCells g _ _ _) ?_ (setCells_size g _ _ _)
    have := setCells_row C.toList 0 w C0 hg
    have e := putAt_mid C.toList [] C0.toList [] (by rw [Array.length_toList, Array.length_toList, hs])
    simp only [List.nil_append, List.append_nil, List.length_nil, Array.toArray_toList] at e
    rw [e] at this
    exact this
theorem results_ra {fn : Func} {p q s : Tmp} (h : fn.results = #[.cell p 83, .cell q 25, .tmp s]) (tmps : Array Value) (w : World) (g1 g2 : Nat) (t1 t2 : TypeId) (xs ys : Array Value) (v : Value)
    (hp : tmps.getD p undef = .pointer (some ⟨g1, 0, none⟩)) (hq : tmps.getD q undef = .pointer (some ⟨g2, 0, none⟩)) (hv : tmps.getD s undef = v) (h1 : w.heap[g1]? = some (.cells xs t1 (0, 0))) (h2 : w.heap[g2]? = some (.cells ys t2 (0, 0))) (hx : xs.size = 3) (hy : ys.size = 101) :
    (results fn tmps).run Tryz.prog w = .ok (.tuple #[.agg xs, .agg ys, v]) w := by
  have hp' : tmps[p]?.getD undef = .pointer (some ⟨g1, 0, none⟩) := by simpa using hp
  have hq' : tmps[q]?.getD undef = .pointer (some ⟨g2, 0, none⟩) := by simpa using hq
  have hv' : tmps[s]?.getD undef = v := by simpa using hv
  have r1 := run_loadVar_row (P := Tryz.prog) w g1 t1 83 xs (0, 0) _ h1 under_ref rfl (by rw [size_ref, hx])
  have r2 := run_loadVar_row (P := Tryz.prog) w g2 t2 25 ys (0, 0) _ h2 under_att rfl (by rw [size_att, hy])
  simp [results, h, hp', hq', hv', asAddr, r1, r2]
set_option maxHeartbeats 6400000 in
theorem refRead8_any (A : Option Addr) (c p : Nat) (r : Bool) (l : List UInt8) (w : World) (hv : Byt w (.slice A l.length c) l) (hp : p ≤ l.length) (hl : l.length ≤ 1000000) :
    Calls Tryz.prog 46 #[rv A l.length c p (!r)] w fun e w' => e = .returned (.tuple #[rv A l.length c (rawA l p r).2.1 (!(rawA l p r).2.2), .agg (atc (atOf l p r)), .bool (atIs l p r)]) ∧ Below w.heap.size w w' := by
  have HH := hid (fun p r (hp : p ≤ l.length) (w' : World) (hb : Below w.heap.size w w') => refHash_any A c p r l w' (hv.below hb) hp (by omega))
  have HU := hid (fun p r (hp : p ≤ l.length) m (h1 : -9223372036854775808 ≤ m) (h2 : m ≤ 9223372036854775807) (w' : World) (hb : Below w.heap.size w w') => refUpto_any A c p r l m w' (hv.below hb) hp (by omega) h1 h2)
  obtain ⟨Z, HZ⟩ : ∃ C : Array Value, Hid (atc atZ = C) := ⟨_, hid rfl⟩
  have hbz : ∀ W, buildAtt W = .ok (.value (.agg Z)) W := fun W => by rw [← HZ.out]; exact buildAtt_eq W
  have hal : ∀ W, allocAtt W = .ok (.value (.pointer (some ⟨W.heap.size, 0, none⟩))) (W.alloc (.cells Z 25)) := fun W => by rw [← HZ.out]; exact allocAtt_eq W
  have hsz : Z.size = 101 := by rw [← HZ.out]; exact atc_size atZ_ok
  have hz1 : Z.all (·.oneCell') = true := by rw [← HZ.out]; exact atc_one _
  have hst0 := AtSt.new w (.slice A l.length c) (.int .i64 (p : Int)) (.bool (!r))
  rw [HZ.out] at hst0
  have hs0 : storeAtt (.pointer (some ⟨w.heap.size + 1 + 1 + 1, 0, none⟩)) (.agg Z) ((((w.alloc (.cells #[.slice A l.length c, .int .i64 (p : Int), .bool (!r)] 83)).alloc (.cells #[.slice none 0 0, .int .i64 0, .bool false] 83)).alloc (.cells Z 25)).alloc (.cells Z 25)) = .ok .skip ((((w.alloc (.cells #[.slice A l.length c, .int .i64 (p : Int), .bool (!r)] 83)).alloc (.cells #[.slice none 0 0, .int .i64 0, .bool false] 83)).alloc (.cells Z 25)).alloc (.cells Z 25)) := by
    have hg := hst0.b3
    unfold BoxA at hg
    rw [HZ.out] at hg
    rw [storeAtt_eq hg hsz hsz hz1, setAtt_self hg]
  have HSZ := hid hsz
  have HZ1 := hid hz1
  have HBZ := hid hbz
  clear hv hsz hz1
  unfold rv
  go_enter Tryz.func46, Tryz.ntmps46
  go_wp2_with fail
  obtain ⟨a1, p1, r1, HA1⟩ : ∃ x q s, Hid (rdUpto 21 l p r = (x, q, s)) := ⟨_, _, _, hid rfl⟩
  have hp1 : p1 ≤ l.length := by have := rdUpto_pl (m := 21) (r := r) hp; rw [HA1.out] at this; exact this
  have C := HU.out p r hp 21 (by omega) (by omega) _ (hst0).bel
  rw [HA1.out] at C
  refine C.mono ?_
  clear C
  rintro e w1 ⟨rfl, hb⟩
  have hst : AtSt w w1 (.slice A l.length c) (.int .i64 (p : Int)) (.bool (!r)) ⟨0, 0, 0, 0, z32, 0, z32, z32⟩ := (hst0).below hb
  clear hb hst0 hs0 hbz hal
  obtain ⟨⟨c0, c1, c2⟩, ⟨k0, k1, k2, k3, k5⟩, g0, g3⟩ := hst.cells ⟨rfl, rfl, rfl⟩
  have HST := hid hst
  clear hst
  unfold rv
  go_wp2_with fail
  obtain ⟨a2, p2, r2, HA2⟩ : ∃ x q s, Hid (rdUpto 3 l p1 r1 = (x, q, s)) := ⟨_, _, _, hid rfl⟩
  have hp2 : p2 ≤ l.length := by have := rdUpto_pl (m := 3) (r := r1) hp1; rw [HA2.out] at this; exact this
  have C := HU.out p1 r1 hp1 3 (by omega) (by omega) _ (((HST.out.put (.slice A l.length c) (.int .i64 (p1 : Int)) (.bool (!r1))).cell (b := ⟨(a1 : Int), 0, 0, 0, z32, 0, z32, z32⟩) (v := .int .i64 (a1 : Int)) 0 rfl)).bel
  rw [HA2.out] at C
  refine C.mono ?_
  clear C
  rintro e w2 ⟨rfl, hb⟩
  have hst : AtSt w w2 (.slice A l.length c) (.int .i64 (p1 : Int)) (.bool (!r1)) ⟨(a1 : Int), 0, 0, 0, z32, 0, z32, z32⟩ := (((HST.out.put (.slice A l.length c) (.int .i64 (p1 : Int)) (.bool (!r1))).cell (b := ⟨(a1 : Int), 0, 0, 0, z32, 0, z32, z32⟩) (v := .int .i64 (a1 : Int)) 0 rfl)).below hb
  clear hb HST c0 c1 c2 k0 k1 k2 k3 k5 g0 g3
  obtain ⟨⟨c0, c1, c2⟩, ⟨k0, k1, k2, k3, k5⟩, g0, g3⟩ := hst.cells ⟨rfl, rfl, rfl⟩
  have HST := hid hst
  clear hst
  unfold rv
  go_wp2_with fail
  obtain ⟨a3, p3, r3, HA3⟩ : ∃ x q s, Hid (rdUpto 1099511627776 l p2 r2 = (x, q, s)) := ⟨_, _, _, hid rfl⟩
  have hp3 : p3 ≤ l.length := by have := rdUpto_pl (m := 1099511627776) (r := r2) hp2; rw [HA3.out] at this; exact this
  have C := HU.out p2 r2 hp2 1099511627776 (by omega) (by omega) _ (((HST.out.put (.slice A l.length c) (.int .i64 (p2 : Int)) (.bool (!r2))).cell (b := ⟨(a1 : Int), (a2 : Int), 0, 0, z32, 0, z32, z32⟩) (v := .int .i64 (a2 : Int)) 1 rfl)).bel
  rw [HA3.out] at C
  refine C.mono ?_
  clear C
  rintro e w3 ⟨rfl, hb⟩
  have hst : AtSt w w3 (.slice A l.length c) (.int .i64 (p2 : Int)) (.bool (!r2)) ⟨(a1 : Int), (a2 : Int), 0, 0, z32, 0, z32, z32⟩ := (((HST.out.put (.slice A l.length c) (.int .i64 (p2 : Int)) (.bool (!r2))).cell (b := ⟨(a1 : Int), (a2 : Int), 0, 0, z32, 0, z32, z32⟩) (v := .int .i64 (a2 : Int)) 1 rfl)).below hb
  clear hb HST c0 c1 c2 k0 k1 k2 k3 k5 g0 g3
  obtain ⟨⟨c0, c1, c2⟩, ⟨k0, k1, k2, k3, k5⟩, g0, g3⟩ := hst.cells ⟨rfl, rfl, rfl⟩
  have HST := hid hst
  clear hst
  unfold rv
  go_wp2_with fail
  obtain ⟨a4, p4, r4, HA4⟩ : ∃ x q s, Hid (rdUpto 3 l p3 r3 = (x, q, s)) := ⟨_, _, _, hid rfl⟩
  have hp4 : p4 ≤ l.length := by have := rdUpto_pl (m := 3) (r := r3) hp3; rw [HA4.out] at this; exact this
  have C := HU.out p3 r3 hp3 3 (by omega) (by omega) _ (((HST.out.put (.slice A l.length c) (.int .i64 (p3 : Int)) (.bool (!r3))).cell (b := ⟨(a1 : Int), (a2 : Int), (a3 : Int), 0, z32, 0, z32, z32⟩) (v := .int .i64 (a3 : Int)) 2 rfl)).bel
  rw [HA4.out] at C
  refine C.mono ?_
  clear C
  rintro e w4 ⟨rfl, hb⟩
  have hst : AtSt w w4 (.slice A l.length c) (.int .i64 (p3 : Int)) (.bool (!r3)) ⟨(a1 : Int), (a2 : Int), (a3 : Int), 0, z32, 0, z32, z32⟩ := (((HST.out.put (.slice A l.length c) (.int .i64 (p3 : Int)) (.bool (!r3))).cell (b := ⟨(a1 : Int), (a2 : Int), (a3 : Int), 0, z32, 0, z32, z32⟩) (v := .int .i64 (a3 : Int)) 2 rfl)).below hb
  clear hb HST c0 c1 c2 k0 k1 k2 k3 k5 g0 g3
  obtain ⟨⟨c0, c1, c2⟩, ⟨k0, k1, k2, k3, k5⟩, g0, g3⟩ := hst.cells ⟨rfl, rfl, rfl⟩
  have HST := hid hst
  clear hst
  unfold rv
  go_wp2_with fail
  obtain ⟨h5, p5, r5, HA5⟩ : ∃ x q s, Hid (rdHash l p4 r4 = (x, q, s)) := ⟨_, _, _, hid rfl⟩
  have hp5 : p5 ≤ l.length := by have := rdHash_pl8 (l := l) (p := p4) (r := r4) hp4; rw [HA5.out] at this; exact this
  have HL5 : Hid (h5.length = 32) := hid (by have := rdHash_32 l p4 r4; rw [HA5.out] at this; exact this)
  have C := HH.out p4 r4 hp4 _ (((HST.out.put (.slice A l.length c) (.int .i64 (p4 : Int)) (.bool (!r4))).cell (b := ⟨(a1 : Int), (a2 : Int), (a3 : Int), (a4 : Int), z32, 0, z32, z32⟩) (v := .int .i64 (a4 : Int)) 3 rfl)).bel
  rw [HA5.out] at C
  refine C.mono ?_
  clear C
  rintro e w5 ⟨rfl, hb⟩
  have hst : AtSt w w5 (.slice A l.length c) (.int .i64 (p4 : Int)) (.bool (!r4)) ⟨(a1 : Int), (a2 : Int), (a3 : Int), (a4 : Int), z32, 0, z32, z32⟩ := (((HST.out.put (.slice A l.length c) (.int .i64 (p4 : Int)) (.bool (!r4))).cell (b := ⟨(a1 : Int), (a2 : Int), (a3 : Int), (a4 : Int), z32, 0, z32, z32⟩) (v := .int .i64 (a4 : Int)) 3 rfl)).below hb
  clear hb HST c0 c1 c2 k0 k1 k2 k3 k5 g0 g3
  obtain ⟨⟨c0, c1, c2⟩, ⟨k0, k1, k2, k3, k5⟩, g0, g3⟩ := hst.cells ⟨rfl, rfl, rfl⟩
  have HST := hid hst
  clear hst
  unfold rv
  go_wp2_with (refine wpList_store_ha rfl _ _ rfl rfl rfl (HST.out.put (.slice A l.length c) (.int .i64 (p5 : Int)) (.bool (!r5))).b3 ⟨rfl, rfl, rfl⟩ HL5.out ?_; intro wP hgP hbP hsP; have HSP : Hid (AtSt w wP (.slice A l.length c) (.int .i64 (p5 : Int)) (.bool (!r5)) ⟨(a1 : Int), (a2 : Int), (a3 : Int), (a4 : Int), h5, 0, z32, z32⟩) := hid ((HST.out.put (.slice A l.length c) (.int .i64 (p5 : Int)) (.bool (!r5))).att hgP hbP); obtain ⟨⟨d0, d1, d2⟩, ⟨e0, e1, e2, e3, e5⟩, f0, f3⟩ := HSP.out.cells ⟨HL5.out, rfl, rfl⟩; clear hgP hbP hsP)
  clear HST c0 c1 c2 k0 k1 k2 k3 k5 g0 g3
  obtain ⟨a6, p6, r6, HA6⟩ : ∃ x q s, Hid (rdUpto 1099511627776 l p5 r5 = (x, q, s)) := ⟨_, _, _, hid rfl⟩
  have hp6 : p6 ≤ l.length := by have := rdUpto_pl (m := 1099511627776) (r := r5) hp5; rw [HA6.out] at this; exact this
  have C := HU.out p5 r5 hp5 1099511627776 (by omega) (by omega) _ (HSP.out).bel
  rw [HA6.out] at C
  refine C.mono ?_
  clear C
  rintro e w6 ⟨rfl, hb⟩
  have hst : AtSt w w6 (.slice A l.length c) (.int .i64 (p5 : Int)) (.bool (!r5)) ⟨(a1 : Int), (a2 : Int), (a3 : Int), (a4 : Int), h5, 0, z32, z32⟩ := (HSP.out).below hb
  clear hb HSP d0 d1 d2 e0 e1 e2 e3 e5 f0 f3
  obtain ⟨⟨c0, c1, c2⟩, ⟨k0, k1, k2, k3, k5⟩, g0, g3⟩ := hst.cells ⟨HL5.out, rfl, rfl⟩
  have HST := hid hst
  clear hst
  unfold rv
  go_wp2_with fail
  obtain ⟨h7, p7, r7, HA7⟩ : ∃ x q s, Hid (rdHash l p6 r6 = (x, q, s)) := ⟨_, _, _, hid rfl⟩
  have hp7 : p7 ≤ l.length := by have := rdHash_pl8 (l := l) (p := p6) (r := r6) hp6; rw [HA7.out] at this; exact this
  have HL7 : Hid (h7.length = 32) := hid (by have := rdHash_32 l p6 r6; rw [HA7.out] at this; exact this)
  have C := HH.out p6 r6 hp6 _ (((HST.out.put (.slice A l.length c) (.int .i64 (p6 : Int)) (.bool (!r6))).cell (b := ⟨(a1 : Int), (a2 : Int), (a3 : Int), (a4 : Int), h5, (a6 : Int), z32, z32⟩) (v := .int .i64 (a6 : Int)) 36 (atc_pv ⟨HL5.out, rfl, rfl⟩ _))).bel
  rw [HA7.out] at C
  refine C.mono ?_
  clear C
  rintro e w7 ⟨rfl, hb⟩
  have hst : AtSt w w7 (.slice A l.length c) (.int .i64 (p6 : Int)) (.bool (!r6)) ⟨(a1 : Int), (a2 : Int), (a3 : Int), (a4 : Int), h5, (a6 : Int), z32, z32⟩ := (((HST.out.put (.slice A l.length c) (.int .i64 (p6 : Int)) (.bool (!r6))).cell (b := ⟨(a1 : Int), (a2 : Int), (a3 : Int), (a4 : Int), h5, (a6 : Int), z32, z32⟩) (v := .int .i64 (a6 : Int)) 36 (atc_pv ⟨HL5.out, rfl, rfl⟩ _))).below hb
  clear hb HST c0 c1 c2 k0 k1 k2 k3 k5 g0 g3
  obtain ⟨⟨c0, c1, c2⟩, ⟨k0, k1, k2, k3, k5⟩, g0, g3⟩ := hst.cells ⟨HL5.out, rfl, rfl⟩
  have HST := hid hst
  clear hst
  unfold rv
  go_wp2_with (refine wpList_store_pa rfl _ _ rfl rfl rfl (HST.out.put (.slice A l.length c) (.int .i64 (p7 : Int)) (.bool (!r7))).b3 ⟨HL5.out, rfl, rfl⟩ HL7.out ?_; intro wP hgP hbP hsP; have HSP : Hid (AtSt w wP (.slice A l.length c) (.int .i64 (p7 : Int)) (.bool (!r7)) ⟨(a1 : Int), (a2 : Int), (a3 : Int), (a4 : Int), h5, (a6 : Int), h7, z32⟩) := hid ((HST.out.put (.slice A l.length c) (.int .i64 (p7 : Int)) (.bool (!r7))).att hgP hbP); obtain ⟨⟨d0, d1, d2⟩, ⟨e0, e1, e2, e3, e5⟩, f0, f3⟩ := HSP.out.cells ⟨HL5.out, HL7.out, rfl⟩; clear hgP hbP hsP)
  clear HST c0 c1 c2 k0 k1 k2 k3 k5 g0 g3
  obtain ⟨h8, p8, r8, HA8⟩ : ∃ x q s, Hid (rdHash l p7 r7 = (x, q, s)) := ⟨_, _, _, hid rfl⟩
  have hp8 : p8 ≤ l.length := by have := rdHash_pl8 (l := l) (p := p7) (r := r7) hp7; rw [HA8.out] at this; exact this
  have HL8 : Hid (h8.length = 32) := hid (by have := rdHash_32 l p7 r7; rw [HA8.out] at this; exact this)
  have C := HH.out p7 r7 hp7 _ (HSP.out).bel
  rw [HA8.out] at C
  refine C.mono ?_
  clear C
  rintro e w8 ⟨rfl, hb⟩
  have hst : AtSt w w8 (.slice A l.length c) (.int .i64 (p7 : Int)) (.bool (!r7)) ⟨(a1 : Int), (a2 : Int), (a3 : Int), (a4 : Int), h5, (a6 : Int), h7, z32⟩ := (HSP.out).below hb
  clear hb HSP d0 d1 d2 e0 e1 e2 e3 e5 f0 f3
  obtain ⟨⟨c0, c1, c2⟩, ⟨k0, k1, k2, k3, k5⟩, g0, g3⟩ := hst.cells ⟨HL5.out, HL7.out, rfl⟩
  have HST := hid hst
  clear hst
  unfold rv
  obtain ⟨a, HAT⟩ : ∃ a : AtM, Hid ((⟨(a1 : Int), (a2 : Int), (a3 : Int), (a4 : Int), h5, (a6 : Int), h7, h8⟩ : AtM) = a) := ⟨_, hid rfl⟩
  have HOK : Hid a.Ok := hid (by rw [← HAT.out]; exact ⟨HL5.out, HL7.out, HL8.out⟩)
  have HRAW : Hid (rawA l p r = (a, p8, r8)) := hid (by rw [← HAT.out]; unfold rawA; simp only [HA1.out, HA2.out, HA3.out, HA4.out, HA5.out, HA6.out, HA7.out, HA8.out])
  go_upto_region 10 with (refine wpList_store_tag rfl _ _ rfl rfl rfl (HST.out.put (.slice A l.length c) (.int .i64 (p8 : Int)) (.bool (!r8))).b3 ⟨HL5.out, HL7.out, rfl⟩ HL8.out ?_; intro wP hgP hbP hsP; have HSP : Hid (AtSt w wP (.slice A l.length c) (.int .i64 (p8 : Int)) (.bool (!r8)) ⟨(a1 : Int), (a2 : Int), (a3 : Int), (a4 : Int), h5, (a6 : Int), h7, h8⟩) := hid ((HST.out.put (.slice A l.length c) (.int .i64 (p8 : Int)) (.bool (!r8))).att hgP hbP); clear hgP hbP hsP)
  rw [HAT.out] at HSP
  clear HST c0 c1 c2 k0 k1 k2 k3 k5 g0 g3 HA1 HA2 HA3 HA4 HA5 HA6 HA7 HA8 HAT
  cases r8 with
  | false =>
    have hI : atIs l p r = false := by unfold atIs; rw [HRAW.out]; rfl
    have HI := hid hI
    clear hI
    have hbz := HBZ.out
    have i0 := cell_blk HSP.out.b1 0
    have i1 := cell_blk HSP.out.b1 1
    have i2 := cell_blk HSP.out.b1 2
    have j1 := free_blk HSP.out.b1
    simp at i0 i1 i2
    obtain ⟨⟨d0, d1, d2⟩, _, _, _⟩ := HSP.out.cells HOK.out
    have hfin : (((wP.setCell ⟨w.heap.size + 1, 0, none⟩ (.slice A l.length c)).setCell ⟨w.heap.size + 1, 1, none⟩ (.int .i64 (p8 : Int))).setCell ⟨w.heap.size + 1, 2, none⟩ (.bool true)).heap[w.heap.size + 1]? = some (.cells #[.slice A l.length c, .int .i64 (p8 : Int), .bool true] 83 (0, 0)) := set_blk (set_blk (set_blk HSP.out.b1 0 _) 1 _) 2 _
    have hfin2 : (((wP.setCell ⟨w.heap.size + 1, 0, none⟩ (.slice A l.length c)).setCell ⟨w.heap.size + 1, 1, none⟩ (.int .i64 (p8 : Int))).setCell ⟨w.heap.size + 1, 2, none⟩ (.bool true)).heap[w.heap.size + 1 + 1]? = some (.cells Z 25 (0, 0)) := by
      have hg := HSP.out.b2
      unfold BoxA at hg
      rw [HZ.out] at hg
      exact blk_other (blk_other (blk_other hg _ (by omega)) _ (by omega)) _ (by omega)
    have hfb : Below w.heap.size w (((wP.setCell ⟨w.heap.size + 1, 0, none⟩ (.slice A l.length c)).setCell ⟨w.heap.size + 1, 1, none⟩ (.int .i64 (p8 : Int))).setCell ⟨w.heap.size + 1, 2, none⟩ (.bool true)) := ((HSP.out.bel.setCell (Nat.le_succ _) _).setCell (Nat.le_succ _) _).setCell (Nat.le_succ _) _
    have hs : storeAtt (.pointer (some ⟨w.heap.size + 1 + 1, 0, none⟩)) (.agg Z) (((wP.setCell ⟨w.heap.size + 1, 0, none⟩ (.slice A l.length c)).setCell ⟨w.heap.size + 1, 1, none⟩ (.int .i64 (p8 : Int))).setCell ⟨w.heap.size + 1, 2, none⟩ (.bool true)) = .ok .skip (((wP.setCell ⟨w.heap.size + 1, 0, none⟩ (.slice A l.length c)).setCell ⟨w.heap.size + 1, 1, none⟩ (.int .i64 (p8 : Int))).setCell ⟨w.heap.size + 1, 2, none⟩ (.bool true)) := by
      rw [storeAtt_eq hfin2 HSZ.out HSZ.out HZ1.out, setAtt_self hfin2]
    have HF1 := hid hfin
    have HF2 := hid hfin2
    have HFB := hid hfb
    clear hfin hfin2 hfb
    go_wp2_with fail
    refine bodyPost_ret (results_ra rfl _ _ _ _ _ _ _ _ _ rfl rfl rfl HF1.out HF2.out rfl HSZ.out) rfl ⟨?_, HFB.out⟩
    rw [HRAW.out]
    unfold atOf
    rw [HI.out, if_neg (by decide), ← HZ.out]
    rfl
  | true =>
    obtain ⟨CA, HCA⟩ : ∃ C : Array Value, Hid (atc a = C) := ⟨_, hid rfl⟩
    obtain ⟨m, HM⟩ : ∃ q : Bool, Hid (mayA a = q) := ⟨_, hid rfl⟩
    have HMA : Hid (∀ W, Calls Tryz.prog 21 #[.agg CA] W fun e w' => e = .returned (.bool m) ∧ Below W.heap.size W w') := hid (fun W => by
      have := refMay8_any a W HOK.out
      rw [HCA.out, HM.out] at this
      exact this)
    have HLD : Hid (∀ W, BoxA W (w.heap.size + 1 + 1 + 1) a → loadAtt (.pointer (some ⟨w.heap.size + 1 + 1 + 1, 0, none⟩)) W = .ok (.value (.agg CA)) W) := hid (fun W h => by
      have := loadAtt_eq h HOK.out
      rw [HCA.out] at this
      exact this)
    have hI : atIs l p r = m := by unfold atIs; rw [HRAW.out]; exact HM.out
    have HI := hid hI
    have l0 := HLD.out wP HSP.out.b3
    obtain ⟨⟨d0, d1, d2⟩, _, _, _⟩ := HSP.out.cells HOK.out
    clear hI
    go_wp2_with fail
    refine (HMA.out wP).mono ?_
    rintro e w9 ⟨rfl, hb9⟩
    have HS9 := hid (HSP.out.below hb9)
    clear l0 d0 d1 d2
    cases m with
    | false =>
      have hbz := HBZ.out
      have i0 := cell_blk HS9.out.b1 0
      have i1 := cell_blk HS9.out.b1 1
      have i2 := cell_blk HS9.out.b1 2
      have j1 := free_blk HS9.out.b1
      simp at i0 i1 i2
      obtain ⟨⟨d0, d1, d2⟩, _, _, _⟩ := HS9.out.cells HOK.out
      have hfin : (((w9.setCell ⟨w.heap.size + 1, 0, none⟩ (.slice A l.length c)).setCell ⟨w.heap.size + 1, 1, none⟩ (.int .i64 (p8 : Int))).setCell ⟨w.heap.size + 1, 2, none⟩ (.bool false)).heap[w.heap.size + 1]? = some (.cells #[.slice A l.length c, .int .i64 (p8 : Int), .bool false] 83 (0, 0)) := set_blk (set_blk (set_blk HS9.out.b1 0 _) 1 _) 2 _
      have hfin2 : (((w9.setCell ⟨w.heap.size + 1, 0, none⟩ (.slice A l.length c)).setCell ⟨w.heap.size + 1, 1, none⟩ (.int .i64 (p8 : Int))).setCell ⟨w.heap.size + 1, 2, none⟩ (.bool false)).heap[w.heap.size + 1 + 1]? = some (.cells Z 25 (0, 0)) := by
        have hg := HS9.out.b2
        unfold BoxA at hg
        rw [HZ.out] at hg
        exact blk_other (blk_other (blk_other hg _ (by omega)) _ (by omega)) _ (by omega)
      have hfb : Below w.heap.size w (((w9.setCell ⟨w.heap.size + 1, 0, none⟩ (.slice A l.length c)).setCell ⟨w.heap.size + 1, 1, none⟩ (.int .i64 (p8 : Int))).setCell ⟨w.heap.size + 1, 2, none⟩ (.bool false)) := ((HS9.out.bel.setCell (Nat.le_succ _) _).setCell (Nat.le_succ _) _).setCell (Nat.le_succ _) _
      have hs : storeAtt (.pointer (some ⟨w.heap.size + 1 + 1, 0, none⟩)) (.agg Z) (((w9.setCell ⟨w.heap.size + 1, 0, none⟩ (.slice A l.length c)).setCell ⟨w.heap.size + 1, 1, none⟩ (.int .i64 (p8 : Int))).setCell ⟨w.heap.size + 1, 2, none⟩ (.bool false)) = .ok .skip (((w9.setCell ⟨w.heap.size + 1, 0, none⟩ (.slice A l.length c)).setCell ⟨w.heap.size + 1, 1, none⟩ (.int .i64 (p8 : Int))).setCell ⟨w.heap.size + 1, 2, none⟩ (.bool false)) := by
        rw [storeAtt_eq hfin2 HSZ.out HSZ.out HZ1.out, setAtt_self hfin2]
      have HF1 := hid hfin
      have HF2 := hid hfin2
      have HFB := hid hfb
      clear hfin hfin2 hfb
      go_wp2_with fail
      refine bodyPost_ret (results_ra rfl _ _ _ _ _ _ _ _ _ rfl rfl rfl HF1.out HF2.out rfl HSZ.out) rfl ⟨?_, HFB.out⟩
      rw [HRAW.out]
      unfold atOf
      rw [HI.out, if_neg (by decide), ← HZ.out]
      rfl
    | true =>
      go_upto_region 12 with (fail)
      have HXR : Hid (∀ W : World, W.heap[w.heap.size]? = some (.cells #[.slice A l.length c, .int .i64 (p8 : Int), .bool false] 83 (0, 0)) → BoxA W (w.heap.size + 1 + 1 + 1) a → W.cell? ⟨w.heap.size, 0, none⟩ = some (.slice A l.length c) ∧ W.cell? ⟨w.heap.size, 1, none⟩ = some (.int .i64 (p8 : Int)) ∧ W.cell? ⟨w.heap.size, 2, none⟩ = some (.bool false) ∧ loadAtt (.pointer (some ⟨w.heap.size + 1 + 1 + 1, 0, none⟩)) W = .ok (.value (.agg CA)) W) := hid (fun W h k => ⟨cell_blk h 0, cell_blk h 1, cell_blk h 2, HLD.out W k⟩)
      have HCS : Hid (CA.size = 101 ∧ CA.all (·.oneCell') = true) := hid (by rw [← HCA.out]; exact ⟨atc_size HOK.out, atc_one _⟩)
      have hb0 : w9.heap[w.heap.size]? = some (.cells #[.slice A l.length c, .int .i64 (p8 : Int), .bool false] 83 (0, 0)) := HS9.out.b0
      have hb2 := HS9.out.b2
      unfold BoxA at hb2
      rw [HZ.out] at hb2
      refine wp_region_held_drew (S := fun W => W.cell? ⟨w.heap.size, 0, none⟩ = some (.slice A l.length c) ∧ W.cell? ⟨w.heap.size, 1, none⟩ = some (.int .i64 (p8 : Int)) ∧ W.cell? ⟨w.heap.size, 2, none⟩ = some (.bool false) ∧ loadAtt (.pointer (some ⟨w.heap.size + 1 + 1 + 1, 0, none⟩)) W = .ok (.value (.agg CA)) W) (by kernel_rfl) (HXR.out w9.drew hb0 HS9.out.b3) (fun hHeld => ?_)
      refine' tk (i := 0) (v := _) rfl ?_ ?_
      rotate_left
      · (intro W hW; (try dsimp only at hW); obtain ⟨hW1, hW2, hW3, _⟩ := hW; go_simp; first | done | with_reducible rfl)
      try simp only [lay]
      refine' tk (i := 1) (v := _) rfl (fun W hW => hW.2.2.2) ?_
      try simp only [lay]
      have hR3 : (#[.slice A l.length c, .int .i64 (p8 : Int), .bool false] : Array Value).all (·.oneCell') = true := all_oneCell_toArray (by intro u hu; simp only [List.mem_cons, List.not_mem_nil, or_false] at hu; obtain rfl | rfl | rfl := hu <;> rfl)
      have HIS : Hid (atIs l p r = true) := hid HI.out
      have hlt := HS9.out.lt
      have HB1 := hid HS9.out.b1
      have HB0 := hid hb0
      have HB2 := hid hb2
      have HB3 := hid HS9.out.b3
      have HBL := hid HS9.out.bel
      clear hb0 hb2
      refine call_on (i := 2) rfl (by kernel_rfl) (by rfl) (fun K hK => ?_)
      refine wp_store_whole (w := w9.drew) (C := #[.slice A l.length c, .int .i64 (p8 : Int), .bool false]) _ _ rfl rfl rfl HB1.out size_ref rfl hR3 ?_
      intro wa hga hra hsa
      have h0 := (hga.block _ (by show _ < w9.heap.size; omega) (fun e => by injection e with e; omega)).trans HB0.out
      have h2 := (hga.block _ (by show _ < w9.heap.size; omega) (fun e => by injection e with e; omega)).trans HB2.out
      have h3 : BoxA wa (w.heap.size + 1 + 1 + 1) a := (hga.block _ (by show _ < w9.heap.size; omega) (fun e => by injection e with e; omega)).trans HB3.out
      refine hK.out _ _ (HXR.out wa h0 h3) (fun hHeld => ?_)
      clear hK K
      refine call_on (i := 3) rfl (by kernel_rfl) (by rfl) (fun K hK => ?_)
      refine wp_store_whole (w := wa) (C := CA) _ _ rfl rfl rfl h2 (by rw [size_att, HCS.out.1]) (by rw [HSZ.out, HCS.out.1]) HCS.out.2 ?_
      intro wb hgb hrb hsb
      have i0 := (hgb.block _ (lt_of_block h0) (fun e => by injection e with e; omega)).trans h0
      have i3 : BoxA wb (w.heap.size + 1 + 1 + 1) a := (hgb.block _ h3.lt (fun e => by injection e with e; omega)).trans h3
      have hra2 := (hgb.block _ (lt_of_block hra) (fun e => by injection e with e; omega)).trans hra
      have hlt0 := lt_of_block h0
      have hlti := lt_of_block i0
      have hBB : Below w.heap.size w wb := below_into (below_into (HBL.out.drew) (Nat.le_succ _) hga (by show _ ≤ w9.heap.size; omega)) (by omega) hgb (by omega)
      refine hK.out _ _ (HXR.out wb i0 i3) (fun hHeld => ?_)
      clear hK K
      refine' tk (i := 4) (v := _) rfl ?_ ?_
      rotate_left
      · (intro W hW; (try dsimp only at hW); go_simp; first | done | with_reducible rfl)
      try simp only [lay]
      refine wpAnyH_done (by kernel_rfl) ?_ _
      go_wp2_with fail
      refine bodyPost_ret (results_ra rfl _ _ _ _ _ _ _ _ _ rfl rfl rfl hra2 hrb rfl HCS.out.1) rfl ⟨?_, hBB⟩
      rw [HRAW.out]
      unfold atOf
      rw [HIS.out, if_pos rfl, HRAW.out, HCA.out]
      rfl
end Go.Proofs.YtjemfmbmlmogcaaGreat
namespace Go.Proofs.YtjemfmbmlmogcaaGreat
set_option maxRecDepth 20000
open Go.RowKit
def AtCheckOk : Prop := ∀ (a : AtM) (w : World), a.Ok → Calls Tryz.prog 66 #[.agg (atc a)] w fun e w' => e = .returned (.int .i64 (if mayA a = true then 0 else 1)) ∧ Below w.heap.size w w'
def putA (l : List UInt8) (a : AtM) : List UInt8 := if mayA a = true then l ++ bytesA a else l
def AtPutOk : Prop := ∀ (v : Value) (l : List UInt8) (a : AtM) (w : World), Byt w v l → l.length ≤ 1000000 → a.Ok → Calls Tryz.prog 55 #[v, .agg (atc a)] w fun e w' => ∃ x, e = .returned x ∧ Byt w' x (putA l a) ∧ Below w.heap.size w w'
def AtReadOk : Prop := ∀ (g : Nat) (l : List UInt8) (p : Nat) (r : Bool) (w : World), Rdr w g l p r → l.length ≤ 1000000 →
  Calls Tryz.prog 74 #[.pointer (some ⟨g, 0, none⟩)] w fun e w' => e = .returned (.tuple #[.agg (atc (atOf l p r)), .bool (atIs l p r)]) ∧ (∃ p' r', Rdr w' g l p' r' ∧ (atIs l p r = true → p' = (rawA l p r).2.1 ∧ r' = true)) ∧ w.grownBy w' (some g)
theorem wp_store_tag {op : Oper} {ac : Act} {w : World} {K : Act → World → Prop} {Q : Exit → Act → World → Prop} (x y : Operand) (ho : op.op = .store 23 x y)
    {g : Nat} {a : AtM} {h : List UInt8} (hx : ac.eval x = .pointer (some ⟨g, 69, none⟩)) (hy : ac.eval y = .agg (hcells h)) (hg : BoxA w g a) (hok : a.Ok) (hl : h.length = 32)
    (hh : ∀ w', w.grownBy w' (some g) → BoxA w' g { a with tg := h } → w'.heap.size = w.heap.size → K (ac.put op.dst undef) w') : op.wp Tryz.prog ac w K Q := by
  have hpre : ([.int .i64 a.bo, .int .i64 a.ki, .int .i64 a.vi, .int .i64 a.ph] ++ (bcells a.ha ++ ([.int .i64 a.pv] ++ bcells a.pa)) : List Value).length = 69 := by simp only [List.length_append, bcells_length, hok.ha, hok.pa, List.length_cons, List.length_nil]
  refine wp_store_mid _ x y ho g 69 (hcells h) hx hy (fun j hj => ⟨?_, hg.free _⟩) (by rw [size_hash, hcells_size, hl]) (hcells_one _) ?_
  · rw [hcells_size, hl] at hj
    rw [hg.cell, List.getElem?_eq_getElem (by rw [atl_length hok]; omega)]
    rfl
  · rw [hcells_list]
    refine hh _ (grown_setCells g _ _ _) ?_ (setCells_size g _ _ _)
    unfold BoxA atc at hg ⊢
    rw [atl_tag] at hg ⊢
    have := setCells_row (bcells h) 69 w _ hg
    rw [← hpre, putAt_mid (bcells h) _ (bcells a.tg) [] (by rw [bcells_length, bcells_length, hl, hok.tg])] at this
    rw [← hpre]
    exact this
end Go.Proofs.YtjemfmbmlmogcaaGreat
namespace Go.Proofs.YtjemfmbmlmogcaaGreat
set_option maxRecDepth 20000
open Go.RowKit
noncomputable def eqAtt (u v : Value) (w : World) : Result Next := Sem.run Tryz.prog (execOp (fun x => match x with
  | .tmp 0 => u
  | _ => v) { dst := none, op := .binOp .eql 25 (.tmp 0) (.tmp 1) 25, type := 0, pos := "", after := #[], guard := none }) w
theorem exec_eq_att (r : Operand → Value) (i j : Tmp) (dst : Option Tmp) (ty : TypeId) (pos : String) (after : Array Edge) (guard : Option (Nat × Bool)) (w : World) :
    Sem.run Tryz.prog (execOp r { dst := dst, op := .binOp .eql 25 (.tmp i) (.tmp j) 25, type := ty, pos := pos, after := after, guard := guard }) w = eqAtt (r (.tmp i)) (r (.tmp j)) w := rfl
theorem eqAtt_eq {C D : Array Value} {q : Bool} (heq : ∀ W, (Op.equalIn 10000 25 (.agg C) (.agg D)).run Tryz.prog W = .ok q W) (w : World) : eqAtt (.agg C) (.agg D) w = .ok (.value (.bool q)) w := by
  unfold eqAtt
  go_simp
attribute [local go_sem ↓] exec_load_att exec_load_hash exec_eq_att
end Go.Proofs.YtjemfmbmlmogcaaGreat
namespace Go.Proofs.YtjemfmbmlmogcaaGreat
set_option maxRecDepth 20000
open Go.RowKit
attribute [local go_sem ↓] exec_load_att
def highA (a : AtM) : Int := if a.ki = 3 then a.vi else a.vi - 1
set_option maxHeartbeats 1600000 in
theorem atHigh_any (a : AtM) (w : World) (h1 : 1 ≤ a.vi) (h2 : a.vi ≤ 1099511627776) :
    Calls Tryz.prog 98 #[.agg (atc a)] w fun e w' => e = .returned (.int .i64 (highA a)) ∧ Below w.heap.size w w' := by
  have hb0 : Below w.heap.size w (w.alloc (.cells (atc a) 25)) := (Below.refl _ _).alloc (Nat.le_refl _) _
  have hA := BoxA.new w a
  obtain ⟨C, HC⟩ : ∃ C : Array Value, Hid (atc a = C) := ⟨_, hid rfl⟩
  obtain ⟨q, HQ⟩ : ∃ q : Int, Hid (highA a = q) := ⟨_, hid rfl⟩
  rw [HC.out] at hb0 hA ⊢
  rw [HQ.out]
  go_enter Tryz.func98, Tryz.ntmps98
  go_upto_region 1 with (fail)
  generalize (w.alloc (.cells C 25)) = w0 at *
  obtain ⟨k0, k1, k2, k3⟩ := hA.cells
  clear hA HC
  obtain ⟨bo, ki, vi, ph, ha, pv, pa, tg⟩ := a
  simp only at k0 k1 k2 k3 h1 h2
  have hw : IntKind.i64.wrap (vi - 1) = vi - 1 := by rw [IntKind.wrap_i64]; omega
  have HH := hid (show 1 ≤ vi ∧ vi ≤ 1099511627776 from ⟨h1, h2⟩)
  clear h1 h2
  by_cases h3 : ki = 3
  all_goals
    go_wp2_with fail
    go_ret
    refine ⟨?_, hb0⟩
    refine congrArg (fun b => Ending.returned (Value.int IntKind.i64 b)) ?_
    rw [← HQ.out]
    unfold highA
    simp [h3]
set_option maxHeartbeats 3200000 in
theorem atCheck_ok : AtCheckOk := by
  intro a w ho
  have hb0 : Below w.heap.size w (w.alloc (.cells (atc a) 25)) := (Below.refl _ _).alloc (Nat.le_refl _) _
  have hA := BoxA.new w a
  have HHI : Hid (1 ≤ a.vi → a.vi ≤ 1099511627776 → ∀ W, Calls Tryz.prog 98 #[.agg (atc a)] W fun e w' => e = .returned (.int .i64 (highA a)) ∧ Below W.heap.size W w') := hid (fun h1 h2 W => atHigh_any a W h1 h2)
  obtain ⟨C, HC⟩ : ∃ C : Array Value, Hid (atc a = C) := ⟨_, hid rfl⟩
  obtain ⟨q, HQ⟩ : ∃ q : Int, Hid ((if mayA a = true then (0 : Int) else 1) = q) := ⟨_, hid rfl⟩
  obtain ⟨hi, HHA⟩ : ∃ q : Int, Hid (highA a = q) := ⟨_, hid rfl⟩
  rw [HC.out] at hb0 hA HHI ⊢
  rw [HHA.out] at HHI
  rw [HQ.out]
  go_enter Tryz.func66, Tryz.ntmps66
  go_upto_region 1 with (fail)
  generalize (w.alloc (.cells C 25)) = w0 at *
  have HX : Hid (∀ W : World, Below w0.heap.size w0 W → W.cell? ⟨w.heap.size, 2, none⟩ = some (.int .i64 a.vi) ∧ W.cell? ⟨w.heap.size, 36, none⟩ = some (.int .i64 a.pv) ∧ loadAtt (.pointer (some ⟨w.heap.size, 0, none⟩)) W = .ok (.value (.agg C)) W) := hid (fun W h => by
    have hW := hA.keep h
    have h1 := loadAtt_eq hW ho
    rw [HC.out] at h1
    exact ⟨hW.cells.2.2.1, hW.pv ho, h1⟩)
  obtain ⟨k0, k1, k2, k3⟩ := hA.cells
  have k5 := hA.pv ho
  clear hA HC ho
  obtain ⟨bo, ki, vi, ph, ha, pv, pa, tg⟩ := a
  simp only at k0 k1 k2 k3 k5 HX HHI
  have HM : Hid (q = if nodeB bo = true ∧ ¬ ki < 1 ∧ ¬ 3 < ki ∧ ph = ki ∧ ¬ vi < 1 ∧ ¬ 1099511627776 < vi ∧ ¬ pv < 0 ∧ ¬ hi < pv then 0 else 1) := hid (by
    rw [← HQ.out, ← HHA.out]
    unfold mayA highA nodeB
    grind)
  clear HQ HHA
  go_wp2_with fail
  refine (node_any bo w0).mono ?_
  rintro e w1 ⟨rfl, rfl⟩
  obtain ⟨nb, HN⟩ : ∃ q : Bool, Hid (nodeB bo = q) := ⟨_, hid rfl⟩
  rw [HN.out] at HM ⊢
  clear HN
  cases nb with
  | false =>
    go_wp2_with fail
    go_ret
    exact ⟨by rw [HM.out]; rfl, hb0⟩
  | true =>
    by_cases h1 : ki < 1
    · go_wp2_with fail
      go_ret
      exact ⟨by rw [HM.out, if_neg (by rintro ⟨_, h, _⟩; omega)]; rfl, hb0⟩
    by_cases h2 : 3 < ki
    · go_wp2_with fail
      go_ret
      exact ⟨by rw [HM.out, if_neg (by rintro ⟨_, _, h, _⟩; omega)]; rfl, hb0⟩
    by_cases h3' : ¬ ph = ki
    · have hd : (ph != ki) = true := by simp [h3']
      go_wp2_with fail
      all_goals first
        | (go_ret; exact ⟨by rw [HM.out, if_neg (by rintro ⟨_, _, _, h, _⟩; omega)]; rfl, hb0⟩)
        | skip
    have h3 : ph = ki := Decidable.not_not.1 h3'
    clear h3'
    have HM2 : Hid (q = if ¬ vi < 1 ∧ ¬ 1099511627776 < vi ∧ ¬ pv < 0 ∧ ¬ hi < pv then 0 else 1) := hid (by rw [HM.out]; simp only [true_and, eq_self]; split <;> split <;> first | rfl | (exfalso; omega))
    clear HM
    go_upto_region 3 with (fail)
    clear k0 k1 k3 h1 h2 h3
    by_cases h4 : vi < 1
    · have hd : decide (vi < 1) = true := decide_eq_true h4
      go_quiet (fail)
      go_wp2_with fail
      go_ret
      exact ⟨by rw [HM2.out, if_neg (by rintro ⟨h, _⟩; omega)]; rfl, below_drewN hb0 _⟩
    have hd4 : decide (vi < 1) = false := decide_eq_false h4
    by_cases h5 : 1099511627776 < vi
    · have hd : decide (1099511627776 < vi) = true := decide_eq_true h5
      go_quiet (fail)
      go_wp2_with fail
      go_ret
      exact ⟨by rw [HM2.out, if_neg (by rintro ⟨_, h, _⟩; omega)]; rfl, below_drewN hb0 _⟩
    have hd5 : decide (1099511627776 < vi) = false := decide_eq_false h5
    by_cases h6 : pv < 0
    · have hd : decide (pv < 0) = true := decide_eq_true h6
      go_quiet (fail)
      go_wp2_with fail
      go_ret
      exact ⟨by rw [HM2.out, if_neg (by rintro ⟨_, _, h, _⟩; omega)]; rfl, below_drewN hb0 _⟩
    have hd6 : decide (pv < 0) = false := decide_eq_false h6
    have HI := hid (HHI.out (by omega) (by omega))
    have HM3 : Hid (q = if ¬ hi < pv then 0 else 1) := hid (by rw [HM2.out]; split <;> split <;> first | rfl | (exfalso; omega))
    have hbd : Below w0.heap.size w0 w0.drew := (Below.refl _ _).drew
    clear HM2 HHI k2 k5
    go_region_held3 (fun W => W.cell? ⟨w.heap.size, 2, none⟩ = some (.int .i64 vi) ∧ W.cell? ⟨w.heap.size, 36, none⟩ = some (.int .i64 pv) ∧ loadAtt (.pointer (some ⟨w.heap.size, 0, none⟩)) W = .ok (.value (.agg C)) W)
      (first | (refine HX.out _ hbd) | (refine HX.out _ hb2) | fail)
      (first
        | (go_at_call 98; (with_reducible refine (HI.out _).mono ?_); rintro e w2 ⟨rfl, hb2'⟩; have hb2 : Below w0.heap.size w0 w2 := hbd.trans hb2')
        | fail)
    all_goals
      by_cases h7 : hi < pv
      all_goals
        go_wp2_with fail
        go_ret
        exact ⟨by rw [HM3.out]; simp [h7], hb0.trans (hb2.mono hb0.size)⟩
end Go.Proofs.YtjemfmbmlmogcaaGreat
namespace Go.Proofs.YtjemfmbmlmogcaaGreat
set_option maxRecDepth 20000
open Go.RowKit
attribute [local go_sem ↓] exec_load_hash
theorem atnum_any (v : Value) (l : List UInt8) (n : Int) (w : World) (hv : Byt w v l) (h0 : 0 ≤ n) (h1 : n < 9223372036854775808) (hs : l.length ≤ 1099511627000) :
    Calls Tryz.prog 88 #[v, .int .i64 n] w fun e w' => ∃ x, e = .returned x ∧ Own w.heap.size w' x (l ++ dg n.toNat) ∧ Below w.heap.size w w' := by
  have hw : IntKind.u64.wrap n = n := wrap_u64 _ (by omega) (by omega)
  go_enter Tryz.func88, Tryz.ntmps88
  go_wp2_with fail
  refine (num_any v l n w hv h0 (by omega) hs).mono ?_
  rintro e w1 ⟨v1, rfl, ho1, hb1⟩
  go_wp2_with fail
  go_ret
  exact ⟨_, rfl, ho1, hb1⟩
set_option maxHeartbeats 3200000 in
theorem attagged_any (a : AtM) (w : World) (ho : a.Ok) (hm : mayA a = true) :
    Calls Tryz.prog 89 #[.agg (atc a)] w fun e w' => ∃ x, e = .returned x ∧ Own w.heap.size w' x (taggedA a) ∧ Below w.heap.size w w' := by
  obtain ⟨h1, h2, h3, h4, h5, h6, h7, h8, h9⟩ := mayA_iff hm
  have hb0 : Below w.heap.size w (w.alloc (.cells (atc a) 25)) := (Below.refl _ _).alloc (Nat.le_refl _) _
  have hA := BoxA.new w a
  obtain ⟨C, HC⟩ : ∃ C : Array Value, Hid (atc a = C) := ⟨_, hid rfl⟩
  obtain ⟨O, HO⟩ : ∃ O : List UInt8, Hid (taggedA a = O) := ⟨_, hid rfl⟩
  rw [HC.out] at hb0 hA ⊢
  rw [HO.out]
  have HOK := hid ho
  have HA := hid hA
  clear hA HC hm ho
  obtain ⟨bo, ki, vi, ph, ha, pv, pa, tg⟩ := a
  simp only at h1 h2 h3 h4 h5 h6 h7 h8 h9
  obtain ⟨k, rfl⟩ := nat_of (i := ki) (by omega)
  obtain ⟨v, rfl⟩ := nat_of (i := vi) (by omega)
  obtain ⟨p, rfl⟩ := nat_of (i := ph) (by omega)
  obtain ⟨q, rfl⟩ := nat_of (i := pv) (by omega)
  have HLK := hid (dg_len10 (n := k) (by omega))
  have HLV := hid (dg_len10 (n := v) (by omega))
  have HLP := hid (dg_len10 (n := p) (by omega))
  have HLQ := hid (dg_len10 (n := q) (by omega))
  have HB : Hid (k < 9223372036854775808 ∧ v < 9223372036854775808 ∧ p < 9223372036854775808 ∧ q < 9223372036854775808) := hid (by omega)
  have hha : ha.length = 32 := HOK.out.ha
  have hpa : pa.length = 32 := HOK.out.pa
  have HHL := hid (show ha.length = 32 ∧ pa.length = 32 from ⟨hha, hpa⟩)
  have HO2 : Hid (O = dg k ++ (dg v ++ (dg p ++ (ha ++ (dg q ++ pa))))) := hid (by rw [← HO.out]; unfold taggedA; simp)
  clear h1 h2 h3 h4 h5 h6 h7 h8 h9 hha hpa HO
  go_enter Tryz.func89, Tryz.ntmps89
  go_upto_region 1 with (fail)
  generalize (w.alloc (.cells C 25)) = w0 at *
  have HX : Hid (∀ W : World, Below w0.heap.size w0 W → W.cell? ⟨w.heap.size, 1, none⟩ = some (.int .i64 (k : Int)) ∧ W.cell? ⟨w.heap.size, 2, none⟩ = some (.int .i64 (v : Int)) ∧ W.cell? ⟨w.heap.size, 3, none⟩ = some (.int .i64 (p : Int)) ∧ W.cell? ⟨w.heap.size, 36, none⟩ = some (.int .i64 (q : Int)) ∧ loadH (.pointer (some ⟨w.heap.size, 4, none⟩)) W = .ok (.value (.agg (hcells ha))) W ∧ loadH (.pointer (some ⟨w.heap.size, 37, none⟩)) W = .ok (.value (.agg (hcells pa))) W) := hid (fun W h => by
    have hW := HA.out.keep h
    exact ⟨hW.cells.2.1, hW.cells.2.2.1, hW.cells.2.2.2, hW.pv HOK.out, loadH_mid hW.hash HOK.out.ha, loadH_mid (hW.phash HOK.out) HOK.out.pa⟩)
  have HB0 := hid hb0
  have d1 := (HX.out w0 (Below.refl _ _)).1
  clear HA hb0
  go_wp2_with fail
  refine (atnum_any _ [] (k : Int) w0 (Byt.nil _) (by omega) (by have := HB.out; omega) (by decide)).mono ?_
  rintro e w1 ⟨v1, rfl, ho1, hb1⟩
  rw [Int.toNat_natCast, List.nil_append] at ho1
  have d2 := (HX.out w1 hb1).2.1
  clear d1
  go_wp2_with fail
  refine (atnum_any _ _ (v : Int) w1 ho1.byt (by omega) (by have := HB.out; omega) (by have := HLK.out; omega)).mono ?_
  rintro e w2 ⟨v2, rfl, ho2, hb2'⟩
  have hb2 := hb1.trans (hb2'.mono hb1.size)
  rw [Int.toNat_natCast] at ho2
  have d3 := (HX.out w2 hb2).2.2.1
  clear d2 hb2'
  go_wp2_with fail
  refine (atnum_any _ _ (p : Int) w2 ho2.byt (by omega) (by have := HB.out; omega) (by rw [List.length_append]; have := HLK.out; have := HLV.out; omega)).mono ?_
  rintro e w3 ⟨v3, rfl, ho3, hb3'⟩
  have hb3 := hb2.trans (hb3'.mono hb2.size)
  rw [Int.toNat_natCast] at ho3
  have d4 := (HX.out w3 hb3).2.2.2.2.1
  clear d3 hb3'
  go_wp2_with fail
  refine (hash_any _ _ ha w3 ho3.byt (by simp only [List.length_append]; have := HLK.out; have := HLV.out; have := HLP.out; omega) HHL.out.1).mono ?_
  rintro e w4 ⟨v4, rfl, ho4, hb4'⟩
  have hb4 := hb3.trans (hb4'.mono hb3.size)
  have d5 := (HX.out w4 hb4).2.2.2.1
  clear d4 hb4'
  go_wp2_with fail
  refine (atnum_any _ _ (q : Int) w4 ho4.byt (by omega) (by have := HB.out; omega) (by simp only [List.length_append]; have := HLK.out; have := HLV.out; have := HLP.out; have := HHL.out.1; omega)).mono ?_
  rintro e w5 ⟨v5, rfl, ho5, hb5'⟩
  have hb5 := hb4.trans (hb5'.mono hb4.size)
  rw [Int.toNat_natCast] at ho5
  have d6 := (HX.out w5 hb5).2.2.2.2.2
  clear d5 hb5'
  go_wp2_with fail
  refine (hash_any _ _ pa w5 ho5.byt (by simp only [List.length_append]; have := HLK.out; have := HLV.out; have := HLP.out; have := HLQ.out; have := HHL.out.1; omega) HHL.out.2).mono ?_
  rintro e w6 ⟨v6, rfl, ho6, hb6'⟩
  have hb6 := hb5.trans (hb6'.mono hb5.size)
  clear d6
  go_wp2_with fail
  go_ret
  refine ⟨v6, rfl, ?_, HB0.out.trans (hb6.mono HB0.out.size)⟩
  rw [HO2.out]
  simp only [List.append_assoc] at ho6
  exact ho6.more (by have := HB0.out.size; have := hb5.size; omega)
end Go.Proofs.YtjemfmbmlmogcaaGreat
namespace Go.Proofs.YtjemfmbmlmogcaaGreat
set_option maxRecDepth 20000
open Go.RowKit
attribute [local go_sem ↓] exec_load_att
theorem concat4 (u v x y : Value) (l m n o : List UInt8) (g c : Nat) (w : World) (hg : g < w.heap.size) (c0 : w.cell? ⟨g, 0, none⟩ = some u) (c1 : w.cell? ⟨g, 1, none⟩ = some v) (c2 : w.cell? ⟨g, 2, none⟩ = some x) (c3 : w.cell? ⟨g, 3, none⟩ = some y)
    (hu : Byt w u l) (hv : Byt w v m) (hx : Byt w x n) (hy : Byt w y o) {L : List UInt8} (hL : l ++ (m ++ (n ++ o)) = L) (hs : L.length ≤ 1099511627776) :
    Calls Tryz.prog 87 #[.slice (some ⟨g, 0, none⟩) 4 c] w fun e w' => ∃ x, e = .returned x ∧ Own w.heap.size w' x L ∧ Below w.heap.size w w' := by
  have e : ([l, m, n, o] : List (List UInt8)).flatten = L := by rw [← hL]; simp
  have h := concat_any [l, m, n, o] (fun j => if j = 0 then u else if j = 1 then v else if j = 2 then x else y) g 4 c w rfl hg (fun j hj => by
    match j, hj with
    | 0, _ => exact c0
    | 1, _ => exact c1
    | 2, _ => exact c2
    | 3, _ => exact c3) (fun j hj => by
    match j, hj with
    | 0, _ => exact hu
    | 1, _ => exact hv
    | 2, _ => exact hx
    | 3, _ => exact hy) (by rw [e]; exact hs) (by omega)
  rw [e] at h
  exact h
theorem byt_range {w : World} {g o n : Nat} {l : List UInt8} (h : w.rangeAt g o (bcells l)) (hg : g < w.heap.size) (hn : l.length = n) (hm : n ≤ maxLen) : Byt w (.slice (some ⟨g, o, none⟩) n n) l := by
  subst hn
  refine ⟨_, _, rfl, Nat.le_refl _, hm, fun _ => ⟨g, o, rfl, hg, fun j hj => ?_⟩⟩
  exact h j _ (by simp [bcells, hj])
set_option maxHeartbeats 3200000 in
theorem atPut_ok : AtPutOk := by
  intro v l a w hv hl ho
  obtain ⟨m, HM⟩ : ∃ m : Bool, Hid (mayA a = m) := ⟨_, hid rfl⟩
  have HPT : Hid (putA l a = if m = true then l ++ bytesA a else l) := hid (by unfold putA; rw [HM.out])
  have HMA : Hid (∀ W, Calls Tryz.prog 66 #[.agg (atc a)] W fun e w' => e = .returned (.int .i64 (if m = true then 0 else 1)) ∧ Below W.heap.size W w') := hid (fun W => by
    have := atCheck_ok a W ho
    rw [HM.out] at this
    exact this)
  have HTD : Hid (m = true → ∀ W, Calls Tryz.prog 89 #[.agg (atc a)] W fun e w' => ∃ x, e = .returned x ∧ Own W.heap.size w' x (taggedA a) ∧ Below W.heap.size W w') := hid (fun h W => attagged_any a W ho (HM.out.trans h))
  have HNU : Hid (m = true → ∀ W, Calls Tryz.prog 88 #[.slice none 0 0, .int .i64 a.bo] W fun e w' => ∃ x, e = .returned x ∧ Own W.heap.size w' x (dg a.bo.toNat) ∧ Below W.heap.size W w') := hid (fun h W => by
    obtain ⟨j1, j2, _⟩ := mayA_iff (HM.out.trans h)
    have := atnum_any (.slice none 0 0) [] a.bo W (Byt.nil _) (by omega) (by omega) (by decide)
    simpa using this)
  have HLEN : Hid (m = true → (bytesA a).length ≤ 150) := hid (fun h => bytesA_len ho (HM.out.trans h))
  obtain ⟨L, HL⟩ : ∃ x : List UInt8, Hid (taggedA a = x) := ⟨_, hid rfl⟩
  obtain ⟨U, HU⟩ : ∃ x : List UInt8, Hid (dg a.bo.toNat = x) := ⟨_, hid rfl⟩
  have HBY : Hid (bytesA a = U ++ (L ++ a.tg)) := hid (by unfold bytesA; rw [HL.out, HU.out])
  have hb0 : Below w.heap.size w (w.alloc (.cells (atc a) 25)) := (Below.refl _ _).alloc (Nat.le_refl _) _
  have hA := BoxA.new w a
  obtain ⟨C, HC⟩ : ∃ C : Array Value, Hid (atc a = C) := ⟨_, hid rfl⟩
  rw [HL.out, HC.out] at HTD
  rw [HU.out] at HNU
  rw [HC.out] at HMA hb0 hA
  rw [HC.out]
  have HTL : Hid (a.tg.length = 32) := hid ho.tg
  have HX : Hid (∀ W : World, BoxA W w.heap.size a → W.cell? ⟨w.heap.size, 0, none⟩ = some (.int .i64 a.bo) ∧ loadAtt (.pointer (some ⟨w.heap.size, 0, none⟩)) W = .ok (.value (.agg C)) W) := hid (fun W h => by
    have h1 := loadAtt_eq h ho
    rw [HC.out] at h1
    exact ⟨h.cells.1, h1⟩)
  have HTG : Hid (∀ W : World, BoxA W w.heap.size a → W.rangeAt w.heap.size 69 (bcells a.tg)) := hid (fun W h => h.tag ho)
  have hv0 := hv.below hb0
  have HL0 := hid hl
  clear ho HL HU hv hl
  go_enter Tryz.func55, Tryz.ntmps55
  go_upto_region 1 with (fail)
  generalize (w.alloc (.cells C 25)) = w0 at *
  have l0 := (HX.out w0 hA).2
  have HA := hid hA
  have HV := hid hv0
  clear hA hv0
  go_wp2_with fail
  refine (HMA.out w0).mono ?_
  rintro e w1 ⟨rfl, hb1⟩
  have hv1 := HV.out.below hb1
  have HA1 := hid (HA.out.keep hb1)
  have HB1 := hid (hb0.trans (hb1.mono hb0.size))
  obtain ⟨A, c, rfl⟩ := hv1.shape
  clear l0 HA HV hb0 hb1
  cases m with
  | false =>
    simp only [Bool.false_eq_true, if_false]
    go_wp2_with fail
    refine (concat1 _ l w1.heap.size _ (w1.alloc (.cells #[.slice A l.length c] 41)) (by simp) (by simp) (hv1.alloc _) (by have := HL0.out; omega)).mono ?_
    rintro e w2 ⟨x, rfl, ho2, hb2⟩
    go_wp2_with fail
    go_ret
    refine ⟨x, rfl, by rw [HPT.out]; exact ho2.byt, ?_⟩
    exact (HB1.out.alloc HB1.out.size _).trans (hb2.mono (by have := HB1.out.size; simp; omega))
  | true =>
    simp only [if_true]
    go_upto_region 3 with (fail)
    have HXW : Hid (∀ W, Below w1.heap.size w1 W → W.cell? ⟨w.heap.size, 0, none⟩ = some (.int .i64 a.bo) ∧ loadAtt (.pointer (some ⟨w.heap.size, 0, none⟩)) W = .ok (.value (.agg C)) W) := hid (fun W h => HX.out W (HA1.out.keep h))
    have hbd : Below w1.heap.size w1 w1.drew := (Below.refl _ _).drew
    refine wp_region_held_drew (S := fun W => W.cell? ⟨w.heap.size, 0, none⟩ = some (.int .i64 a.bo) ∧ loadAtt (.pointer (some ⟨w.heap.size, 0, none⟩)) W = .ok (.value (.agg C)) W) (by kernel_rfl) (HXW.out _ hbd) (fun hHeld => ?_)
    refine' tk (i := 0) (v := _) rfl ?_ ?_
    rotate_left
    · (intro W hW; (try dsimp only at hW); go_simp; first | done | with_reducible rfl)
    try simp only [lay]
    refine' tk (i := 1) (v := _) rfl ?_ ?_
    rotate_left
    · (intro W hW; (try dsimp only at hW); go_simp; first | done | with_reducible rfl)
    try simp only [lay]
    refine' tk (i := 2) (v := _) rfl ?_ ?_
    rotate_left
    · (intro W hW; (try dsimp only at hW); obtain ⟨hW1, hW2⟩ := hW; go_simp; first | done | with_reducible rfl)
    try simp only [lay]
    refine' tk (i := 4) (v := _) rfl (fun W hW => hW.2) ?_
    try simp only [lay]
    refine' tk (i := 6) (v := _) rfl ?_ ?_
    rotate_left
    · (intro W hW; (try dsimp only at hW); go_simp; first | done | with_reducible rfl)
    try simp only [lay]
    refine' tk (i := 7) (v := _) rfl ?_ ?_
    rotate_left
    · (intro W hW; (try dsimp only at hW); go_simp; first | done | with_reducible rfl)
    try simp only [lay]
    refine call_on (i := 3) rfl (by kernel_rfl) (by rfl) (fun K hK => ?_)
    go_simp
    refine (HNU.out rfl w1.drew).mono ?_
    rintro e w2 ⟨v2, rfl, ho2, hb2'⟩
    have hb2 := hbd.trans hb2'
    obtain ⟨A2, c2, rfl⟩ := ho2.byt.shape
    refine hK.out _ _ (HXW.out _ hb2) (fun hHeld => ?_)
    clear hK K
    try simp only [lay]
    refine call_on (i := 5) rfl (by kernel_rfl) (by rfl) (fun K hK => ?_)
    go_simp
    refine (HTD.out rfl w2).mono ?_
    rintro e w3 ⟨v3, rfl, ho3, hb3'⟩
    have hb3 := hb2.trans (hb3'.mono hb2.size)
    have hv3 := ho3.byt
    obtain ⟨A3, c3, rfl⟩ := hv3.shape
    have hu3 := ho2.byt.below hb3'
    have hl3 := hv1.below hb3
    have hg3 := byt_range (HTG.out w3 (HA1.out.keep hb3)) (HA1.out.keep hb3).lt HTL.out (by unfold maxLen; omega)
    refine hK.out _ _ (HXW.out _ hb3) (fun hHeld => ?_)
    clear hK K
    try simp only [lay]
    have hb4 : Below w1.heap.size w1 (w3.alloc (.cells #[.slice A l.length c, .slice A2 U.length c2, .slice A3 L.length c3, .slice (some ⟨w.heap.size, 69, none⟩) 32 32] 41)) := hb3.alloc hb3.size _
    refine call_on (i := 8) rfl (by kernel_rfl) (by rfl) (fun K hK => ?_)
    go_simp
    refine hK.out _ _ (HXW.out _ hb4) (fun hHeld => ?_)
    clear hK K
    try simp only [lay]
    refine call_on (i := 9) rfl (by kernel_rfl) (by rfl) (fun K hK => ?_)
    go_simp
    refine (concat4 _ _ _ _ l U L a.tg w3.heap.size 4 (w3.alloc (.cells #[.slice A l.length c, .slice A2 U.length c2, .slice A3 L.length c3, .slice (some ⟨w.heap.size, 69, none⟩) 32 32] 41)) (by simp) (by simp) (by simp) (by simp) (by simp) (hl3.alloc _) (hu3.alloc _) (hv3.alloc _) (hg3.alloc _) (L := l ++ bytesA a) (by rw [HBY.out]) (by have := HL0.out; have := HLEN.out rfl; rw [List.length_append]; omega)).mono ?_
    rintro e w5 ⟨x5, rfl, ho5, hb5'⟩
    have hb5 := hb4.trans (hb5'.mono hb4.size)
    refine hK.out _ _ (HXW.out _ hb5) (fun hHeld => ?_)
    clear hK K
    try simp only [lay]
    refine' tk (i := 10) (v := _) rfl ?_ ?_
    rotate_left
    · (intro W hW; (try dsimp only at hW); go_simp; first | done | with_reducible rfl)
    try simp only [lay]
    refine wpAnyH_done (by kernel_rfl) ?_ _
    go_wp2_with fail
    go_ret
    exact ⟨x5, rfl, by rw [HPT.out]; exact ho5.byt, HB1.out.trans (hb5.mono HB1.out.size)⟩
end Go.Proofs.YtjemfmbmlmogcaaGreat
