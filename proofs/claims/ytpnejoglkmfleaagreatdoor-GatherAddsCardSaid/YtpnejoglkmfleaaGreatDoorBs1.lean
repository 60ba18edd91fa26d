/-
  Words Plain Append First Join Digits Put Reader Arr Refs RefText Hash RefHash Cut Take: what each of them says stands at its head.
-/
import Derived.Below
import Derived.Deep.AppendLies
import Derived.Deep.Draws
import Derived.Laws.AppendOwnNone
import Derived.Laws.OwnMore
import Derived.Maps.AppendAt
import Derived.OwnWalk
import Derived.Test.YtpnejoglkmfleaaGreatDoorRows
import Derived.WalkKit
import Derived.WalkSpells
import Derived.Deep.RegionLaw
import Derived.RegionTactic
import Derived.Laws.Bits64
import Derived.Laws.BitsAllLaws
import Derived.LoopTactic
import Derived.Outline
import Derived.WalkLawsBesides
import Derived.BigQuiet
import Derived.Deep.QuietTactic
import Derived.LaidEqlPtr
import Derived.ChangeKeysEq
import Derived.Deep.MidRow
import Derived.Laws.CopyOwn
import Derived.Laws.Rows
import Derived.Laws.StructEq
import Derived.Laws.Tables
import Derived.Deep.RegionHeld3
import Derived.Handy
import Derived.StillTailTactics
import Derived.BigRegion
import Derived.Great.BuildSlice
namespace Go.Proofs.YtpnejoglkmfleaaGreatDoor
set_option maxRecDepth 20000
open Go.RowKit
theorem hid {p : Prop} (h : p) : Hid p := h
def bcell (c : UInt8) : Value := .int .u8 (c.toNat : Int)
def bcells (l : List UInt8) : List Value := l.map bcell
theorem bcells_length (l : List UInt8) : (bcells l).length = l.length := by simp [bcells]
theorem bcells_append (l m : List UInt8) : bcells (l ++ m) = bcells l ++ bcells m := by simp [bcells]
theorem bcells_one (l : List UInt8) : ∀ u ∈ bcells l, u.oneCell' = true := by
  intro u hu
  obtain ⟨c, _, rfl⟩ := List.mem_map.1 hu
  rfl
theorem bcells_get (l : List UInt8) (j : Nat) (u : Value) (h : (bcells l)[j]? = some u) : ∃ hj : j < l.length, u = bcell l[j] := by
  have hj : j < l.length := by
    have := (List.getElem?_eq_some_iff.1 h).1
    simpa [bcells] using this
  refine ⟨hj, ?_⟩
  simp [bcells, hj] at h
  exact h.symm
theorem byte_lt (c : UInt8) : (0 : Int) ≤ (c.toNat : Int) ∧ (c.toNat : Int) ≤ 255 := by
  have := c.toNat_lt
  omega
def RdB (w : World) (A : Option Addr) (l : List UInt8) : Prop :=
  0 < l.length → ∃ b off, A = some ⟨b, off, none⟩ ∧ b < w.heap.size ∧ ∀ j (h : j < l.length), w.cell? ⟨b, off + j, none⟩ = some (bcell l[j])
def Byt (w : World) (v : Value) (l : List UInt8) : Prop := ∃ A c, v = .slice A l.length c ∧ l.length ≤ c ∧ c ≤ maxLen ∧ RdB w A l
def Own (B : Nat) (w : World) (v : Value) (l : List UInt8) : Prop := w.ownsRow B 5 1 v l.length (bcells l)
section
variable {w w' : World} {A : Option Addr} {v : Value} {l : List UInt8} {B : Nat}
theorem RdB.nil (w : World) (A : Option Addr) : RdB w A [] := fun h => absurd h (by simp)
theorem RdB.keep (h : RdB w A l) (hs : w.heap.size ≤ w'.heap.size) (hk : ∀ b off, A = some ⟨b, off, none⟩ → b < w.heap.size → w'.heap[b]? = w.heap[b]?) : RdB w' A l := fun hl => by
  obtain ⟨b, off, e, hb, hc⟩ := h hl
  exact ⟨b, off, e, by omega, fun j hj => (World.cell?_of_block (hk b off e hb)).trans (hc j hj)⟩
theorem RdB.below (h : RdB w A l) (hb : Below w.heap.size w w') : RdB w' A l := h.keep hb.size fun b _ _ hlt => hb.block b hlt
theorem Byt.keep (h : Byt w v l) (hs : w.heap.size ≤ w'.heap.size) (hk : ∀ b, b < w.heap.size → v.ownBlock = some b → w'.heap[b]? = w.heap[b]?) : Byt w' v l := by
  obtain ⟨A, c, rfl, h1, h2, h3⟩ := h
  exact ⟨A, c, rfl, h1, h2, h3.keep hs fun b off e hlt => hk b hlt (by subst e; rfl)⟩
theorem Byt.below (h : Byt w v l) (hb : Below w.heap.size w w') : Byt w' v l := h.keep hb.size fun b hlt _ => hb.block b hlt
theorem Byt.nil (w : World) : Byt w (.slice none 0 0) [] := ⟨none, 0, rfl, Nat.le_refl _, Nat.zero_le _, RdB.nil _ _⟩
theorem Byt.len (h : Byt w v l) : l.length ≤ maxLen := by
  obtain ⟨_, _, _, h1, h2, _⟩ := h
  omega
theorem Own.nil (B : Nat) (w : World) : Own B w (.slice none 0 0) [] := World.ownsRow_nil _ _ _ _
theorem Own.byt (h : Own B w v l) : Byt w v l := by
  rcases h.2 with ⟨rfl, h0⟩ | ⟨g, cap, cur, rfl, _, hh, hn, hm, hs, ht⟩
  · have : l = [] := List.eq_nil_of_length_eq_zero h0
    subst this
    exact Byt.nil w
  · refine ⟨_, cap, rfl, hn, hm, fun _ => ⟨g, 0, rfl, lt_of_block hh, fun j hj => ?_⟩⟩
    rw [Nat.zero_add, World.ownsRow.cellAt h j (by omega)]
    simp [bcells, hj]
theorem Own.more (h : Own B w v l) {B' : Nat} (hB : B' ≤ B) : Own B' w v l := by
  refine ⟨h.1, ?_⟩
  rcases h.2 with h0 | ⟨g, cap, cur, e, hg, r⟩
  · exact .inl h0
  · exact .inr ⟨g, cap, cur, e, by omega, r⟩
theorem Own.keep (h : Own B w v l) (hk : ∀ b, b < w.heap.size → v.ownBlock = some b → w'.heap[b]? = w.heap[b]?) : Own B w' v l := by
  refine ⟨h.1, ?_⟩
  rcases h.2 with h0 | ⟨g, cap, cur, rfl, hg, hh, r⟩
  · exact .inl h0
  · exact .inr ⟨g, cap, cur, rfl, hg, (hk g (lt_of_block hh) rfl).trans hh, r⟩
theorem Own.below (h : Own B w v l) (hb : Below w.heap.size w w') : Own B w' v l := h.keep fun b hlt _ => hb.block b hlt
end
theorem Byt.shape {w : World} {v : Value} {l : List UInt8} (h : Byt w v l) : ∃ A c, v = .slice A l.length c := by
  obtain ⟨A, c, e, _⟩ := h
  exact ⟨A, c, e⟩
theorem Byt.at_ {w : World} {A : Option Addr} {n c : Nat} {l : List UInt8} (h : Byt w (.slice A n c) l) : n = l.length ∧ l.length ≤ c ∧ c ≤ maxLen ∧ RdB w A l := by
  obtain ⟨A', c', e, h1, h2, h3⟩ := h
  injection e with e1 e2 e3
  subst e1 e2 e3
  exact ⟨rfl, h1, h2, h3⟩
theorem Byt.alloc {w : World} {v : Value} {l : List UInt8} (h : Byt w v l) (o : Obj) : Byt (w.alloc o) v l := h.below ((Below.refl _ _).alloc (Nat.le_refl _) o)
theorem Byt.drewN {w : World} {v : Value} {l : List UInt8} (h : Byt w v l) (n : Nat) : Byt (w.drewN n) v l := h
theorem below_drewN {B : Nat} {a w : World} (h : Below B a w) (n : Nat) : Below B a (w.drewN n) := ⟨h.os, h.tape, h.output, h.size, h.block⟩
end Go.Proofs.YtpnejoglkmfleaaGreatDoor
namespace Go.Proofs.YtpnejoglkmfleaaGreatDoor
set_option maxRecDepth 20000
def dg (n : Nat) : List UInt8 := if n < 128 then [UInt8.ofNat n] else UInt8.ofNat (128 + n % 128) :: dg (n / 128)
termination_by n
decreasing_by omega
theorem dg_small {n : Nat} (h : n < 128) : dg n = [UInt8.ofNat n] := by rw [dg, if_pos h]
theorem dg_big {n : Nat} (h : ¬ n < 128) : dg n = UInt8.ofNat (128 + n % 128) :: dg (n / 128) := by rw [dg, if_neg h]
theorem dg_len (k : Nat) : ∀ n, n < 128 ^ (k + 1) → (dg n).length ≤ k + 1 := by
  induction k with
  | zero =>
    intro n h
    rw [dg_small (by simpa using h)]
    simp
  | succ k ih =>
    intro n h
    by_cases h1 : n < 128
    · rw [dg_small h1]; simp
    · rw [dg_big h1]
      have := ih (n / 128) (by rw [Nat.pow_succ] at h; exact Nat.div_lt_of_lt_mul (by rw [Nat.mul_comm]; exact h))
      simp
      omega
theorem dg_len10 {n : Nat} (h : n < 18446744073709551616) : (dg n).length ≤ 10 := dg_len 9 n (by omega)
theorem dg_pos (n : Nat) : 0 < (dg n).length := by
  by_cases h : n < 128
  · rw [dg_small h]; simp
  · rw [dg_big h]; simp
def val : List UInt8 → Nat
  | [] => 0
  | c :: l => c.toNat % 128 + 128 * val l
end Go.Proofs.YtpnejoglkmfleaaGreatDoor
namespace Go.Proofs.YtpnejoglkmfleaaGreatDoor
set_option maxRecDepth 20000
open Go.RowKit
theorem info_u8 : (Tryz.prog.info? 5).map (fun i => (i.zero, i.size, i.bytes)) = some (some (.int .u8 0), 1, 1) := by kernel_rfl
theorem under_bytes : Tryz.prog.underlying 73 = some (.slice 5) := by kernel_rfl
theorem addr_add (b off j : Nat) : (⟨b, off, none⟩ : Addr).add j = ⟨b, off + j, none⟩ := by
  unfold Addr.add
  split <;> simp_all
theorem run_append_byt {w : World} {B : Nat} {v x : Value} {l m : List UInt8} (ty : TypeId) (hv : Own B w v l) (hx : Byt w x m) (hs : l.length + m.length ≤ 140737488355328) (hB : B ≤ w.heap.size) :
    ∃ v' w', (Builtin.append_ #[73, 73] ty #[v, x]).run Tryz.prog w = .ok v' w' ∧ Own B w' v' (l ++ m) ∧ w.grownBy w' v.ownBlock ∧ (v'.ownBlock = v.ownBlock ∨ v'.ownBlock = some w.heap.size) := by
  obtain ⟨i0, hi, hz0, hz1, hz2⟩ := info_parts info_u8
  obtain ⟨A, c, rfl, hmc, hcm, hr⟩ := hx
  have hlm : (l ++ m).length = l.length + m.length := by simp
  rcases A with _ | ad
  · have h0 : m = [] := by
      rcases m with _ | ⟨x, m⟩
      · rfl
      · obtain ⟨_, _, h, _⟩ := hr (by simp)
        cases h
    subst h0
    refine ⟨v, w, ?_, by rw [List.append_nil]; exact hv, World.grownBy.refl w _, .inl rfl⟩
    rcases hv.2 with ⟨rfl, h0⟩ | ⟨g, cap, cur, rfl, _, _, hnc, _⟩
    · simp [Builtin.append_, run_underlying under_bytes, sizeOf, typeInfo, hi, Builtin.lenOf, Builtin.firstCells]
    · simp [Builtin.append_, run_underlying under_bytes, sizeOf, typeInfo, hi, Builtin.lenOf, Builtin.firstCells, hnc, storeCells]
  · have hcells : ∀ j u, (bcells m)[j]? = some u → w.cell? (ad.add j) = some u := by
      intro j u hu
      obtain ⟨hj, rfl⟩ := bcells_get m j u hu
      obtain ⟨b, off, e, _, hc⟩ := hr (by omega)
      injection e with e
      subst e
      rw [addr_add]
      exact hc j hj
    obtain ⟨v', w', hrun, h2, h3, _, h5⟩ := run_append_own_at (P := Tryz.prog) w B 73 ty 5 i0 (.int .u8 0) 1 1 under_bytes hi hz0 hz1 hz2 rfl (by omega) v l.length (bcells l) hv ad m.length c (bcells m) (by simp [bcells]) hcells (bcells_one m) (by unfold maxLen; omega) (by omega) hB
    refine ⟨v', w', hrun, ?_, h3, h5⟩
    unfold Own
    rw [hlm, bcells_append]
    exact h2
theorem wp_append_byt {o : Oper} {a : Act} {K : Act → World → Prop} {Q : Exit → Act → World → Prop} {w : World} (s y : Operand)
    (ho : o.op = .call { callee := .builtin .append, args := #[s, y], argTypes := #[73, 73] })
    {B : Nat} {v x : Value} {l m : List UInt8} (hes : a.eval s = v) (hey : a.eval y = x) (hv : Own B w v l) (hx : Byt w x m) (hs : l.length + m.length ≤ 140737488355328) (hB : B ≤ w.heap.size)
    (h : ∀ v' w', Own B w' v' (l ++ m) → w.grownBy w' v.ownBlock → (v'.ownBlock = v.ownBlock ∨ v'.ownBlock = some w.heap.size) → K (a.put o.dst v') w') : o.wp Tryz.prog a w K Q := by
  obtain ⟨v', w', hrun, h2, h3, h4⟩ := run_append_byt o.type hv hx hs hB
  unfold Oper.wp execOp
  simp only [ho, resolve, invoke, builtin, Sem.run_bind, Sem.run_pure, Result.andThen_ok, List.map_toArray, List.map_cons, List.map_nil, hes, hey, hrun]
  exact h v' w' h2 h3 h4
theorem wpList_append_byt {ops : Array Oper} {rest : List Oper} {o : Oper} {a : Act} {Q : Exit → Act → World → Prop} {w : World} (hgd : o.guard = none) (s y : Operand)
    (ho : o.op = .call { callee := .builtin .append, args := #[s, y], argTypes := #[73, 73] })
    {B : Nat} {v x : Value} {l m : List UInt8} (hes : a.eval s = v) (hey : a.eval y = x) (hv : Own B w v l) (hx : Byt w x m) (hs : l.length + m.length ≤ 140737488355328) (hB : B ≤ w.heap.size)
    (h : ∀ v' w', Own B w' v' (l ++ m) → w.grownBy w' v.ownBlock → (v'.ownBlock = v.ownBlock ∨ v'.ownBlock = some w.heap.size) → wpList Tryz.prog ops Q rest (a.put o.dst v') w') :
    wpList Tryz.prog ops Q (o :: rest) a w :=
  wpList_plain hgd fun _ hK => wp_append_byt s y ho hes hey hv hx hs hB fun v' w' h2 h3 h4 => hK _ _ (h v' w' h2 h3 h4)
theorem step_append_byt {ops : Array Oper} {o : Oper} {a : Act} {K : Act → World → Prop} {Q : Exit → Act → World → Prop} {E : Prop} {w : World} (hgd : o.guard = none) (s y : Operand)
    (ho : o.op = .call { callee := .builtin .append, args := #[s, y], argTypes := #[73, 73] })
    {B : Nat} {v x : Value} {l m : List UInt8} (hes : a.eval s = v) (hey : a.eval y = x) (hv : Own B w v l) (hx : Byt w x m) (hs : l.length + m.length ≤ 140737488355328) (hB : B ≤ w.heap.size)
    (h : ∀ v' w', Own B w' v' (l ++ m) → w.grownBy w' v.ownBlock → (v'.ownBlock = v.ownBlock ∨ v'.ownBlock = some w.heap.size) → K (a.put o.dst v') w') :
    if Region.wanted o (yielded ops a.tmps) = true then Oper.wp Tryz.prog o a w K Q else E := by
  have hw : Region.wanted o (yielded ops a.tmps) = true := by simp [Region.wanted, hgd]
  rw [if_pos hw]
  exact wp_append_byt s y ho hes hey hv hx hs hB h
theorem byt_one (w : World) (x : Int) (c : UInt8) (hx : x = (c.toNat : Int)) : Byt (w.alloc (.cells #[.int .u8 x] 5)) (.slice (some ⟨w.heap.size, 0, none⟩) 1 1) [c] := by
  subst hx
  refine ⟨_, 1, rfl, Nat.le_refl _, by unfold maxLen; omega, fun _ => ⟨w.heap.size, 0, rfl, by simp, fun j hj => ?_⟩⟩
  obtain rfl : j = 0 := by simpa using hj
  have := cell_one_new w (.int .u8 (c.toNat : Int)) 5 0 _ rfl
  rw [addr_add] at this
  exact this
theorem Own.alloc {w : World} {B : Nat} {v : Value} {l : List UInt8} (h : Own B w v l) (o : Obj) : Own B (w.alloc o) v l := World.ownsRow.alloc h o
theorem Own.drewN {w : World} {B : Nat} {v : Value} {l : List UInt8} (h : Own B w v l) (n : Nat) : Own B (w.drewN n) v l := h
end Go.Proofs.YtpnejoglkmfleaaGreatDoor
namespace Go.Proofs.YtpnejoglkmfleaaGreatDoor
set_option maxRecDepth 20000
open Go.RowKit
theorem wrap_u64 (x : Int) (h0 : 0 ≤ x) (h1 : x < 18446744073709551616) : IntKind.u64.wrap x = x := by
  simp [IntKind.wrap, IntKind.signed, IntKind.bits]
  omega
end Go.Proofs.YtpnejoglkmfleaaGreatDoor
namespace Go.Proofs.YtpnejoglkmfleaaGreatDoor
set_option maxRecDepth 20000
open Go.RowKit
def tot (ls : List (List UInt8)) (k : Nat) : Nat := (ls.take k).flatten.length
theorem tot_zero (ls : List (List UInt8)) : tot ls 0 = 0 := by simp [tot]
theorem tot_succ (ls : List (List UInt8)) (k : Nat) (h : k < ls.length) : tot ls (k + 1) = tot ls k + ls[k].length := by
  unfold tot
  rw [List.take_succ_eq_append_getElem h, List.flatten_append, List.length_append]
  simp
theorem take_flat (ls : List (List UInt8)) (k : Nat) (h : k < ls.length) : (ls.take k).flatten ++ ls[k] = (ls.take (k + 1)).flatten := by
  rw [List.take_succ_eq_append_getElem h, List.flatten_append, List.flatten_singleton]
theorem tot_le (ls : List (List UInt8)) (k : Nat) : tot ls k ≤ ls.flatten.length := by
  unfold tot
  have := congrArg (fun l => l.flatten.length) (List.take_append_drop k ls)
  simp only [List.flatten_append, List.length_append] at this
  omega
set_option maxHeartbeats 1600000 in
theorem join_any (ls : List (List UInt8)) (vs : Nat → Value) (g n c : Nat) (w : World) (hn : ls.length = n) (hg : g < w.heap.size) (hc : ∀ j, j < n → w.cell? ⟨g, j, none⟩ = some (vs j))
    (hv : ∀ j (h : j < ls.length), Byt w (vs j) ls[j]) (hs : ls.flatten.length ≤ 1099511627776) (hn2 : n ≤ 1000) :
    Calls Tryz.prog 82 #[.slice (some ⟨g, 0, none⟩) n c] w fun e w' => ∃ v, e = .returned v ∧ Own w.heap.size w' v ls.flatten ∧ Below w.heap.size w w' := by
  obtain ⟨i0, hi, hz0, hz1, hz2⟩ := info_parts info_u8
  go_enter Tryz.func82, Tryz.ntmps82
  have Hn := hid hn
  clear hn
  go_wp2
  go_loop [3, 11] (fun sz ix => ∃ k : Nat, k ≤ n ∧ ix = .int .i64 k ∧ sz = .int .i64 (tot ls k)) (fun _ ix => n - (intOf ix).toNat)
  case atStart => exact ⟨0, Nat.zero_le _, rfl, by rw [tot_zero]; rfl⟩
  case round =>
    obtain ⟨k, hk, rfl, rfl⟩ := hrel
    have htk := tot_le ls k
    by_cases hlt : k < n
    · have hlt' : k < ls.length := by rw [Hn.out]; exact hlt
      have hck := hc k hlt
      obtain ⟨A, cp, hvk, _⟩ := hv k hlt'
      have hts := tot_succ ls k hlt'
      have htk1 := tot_le ls (k + 1)
      have hb : tot ls k + ls[k].length ≤ 1099511627776 := by omega
      rw [hvk] at hck
      have HT := hid hts
      clear hts hvk hc hv
      go_wp2
      go_round
      case rel => exact ⟨k + 1, by omega, by go_num, by rw [HT.out]; go_num⟩
      case measure => simp [intOf]; omega
    · obtain rfl : k = n := by omega
      have hb2 : i0.bytes * tot ls k ≤ 281474976710656 := by rw [hz2]; omega
      have hb3 : tot ls k ≤ maxLen := by unfold maxLen; omega
      go_wp2_with (at_make; refine wpList_make_own _ rfl _ _ 73 rfl w.heap.size 5 i0 (.int .u8 0) 1 under_bytes hi hz0 hz1 _ _ _ (tot ls k) rfl rfl rfl hb2 hb3 (Nat.le_refl _) ?_)
      intro w0 hown0 hgrow0
      have hb0 : Below w.heap.size w w0 := (Below.refl _ _).grown hgrow0 (Nat.le_refl _) (fun k h => by cases h)
      have hv0 : Own w.heap.size w0 (.slice (some ⟨w.heap.size, 0, none⟩) 0 (tot ls k)) [] := hown0
      clear hown0 hgrow0
      go_wp2
      go_loopw [6, 24] (fun out ix wr => ∃ j : Nat, j ≤ k ∧ ix = .int .i64 j ∧ Own w.heap.size wr out (ls.take j).flatten ∧ Below w.heap.size w wr) (fun _ ix _ => k - (intOf ix).toNat)
      case atStart => exact ⟨0, Nat.zero_le _, rfl, by simpa using hv0, hb0⟩
      case round =>
        obtain ⟨j, hj, rfl, hown, hbw⟩ := hrel
        by_cases hlt2 : j < k
        · have hlt' : j < ls.length := by rw [Hn.out]; exact hlt2
          have hcj : wr.cell? ⟨g, j, none⟩ = some (vs j) := (hbw.cell (p := ⟨g, j, none⟩) hg).trans (hc j hlt2)
          have hvj := (hv j hlt').below hbw
          have hsum : (ls.take j).flatten.length + ls[j].length ≤ 140737488355328 := by
            have := tot_succ ls j hlt'
            have := tot_le ls (j + 1)
            unfold tot at *
            omega
          have hbs := hbw.size
          go_wp2_with (at_builtin; refine wpList_append_byt rfl (.tmp 28) (.tmp 29) rfl rfl rfl hown hvj hsum hbs ?_; intro v1 w1 hown1 hg1 _)
          have hfl : (ls.take j).flatten ++ ls[j] = (ls.take (j + 1)).flatten := take_flat ls j hlt'
          have hb1 : Below w.heap.size w w1 := hbw.grown hg1 hbs (fun k hk => (World.ownsRow.lt hown k hk).1)
          rw [hfl] at hown1
          clear hfl hg1
          go_roundw
          case rel => exact ⟨j + 1, by omega, by go_num, hown1, hb1⟩
          case measure => simp [intOf]; omega
        · obtain rfl : j = k := by omega
          go_wp2
          go_ret
          refine ⟨_, rfl, ?_, hbw⟩
          have e : ls.take j = ls := by rw [← Hn.out]; exact List.take_length
          rw [e] at hown
          exact hown
end Go.Proofs.YtpnejoglkmfleaaGreatDoor
namespace Go.Proofs.YtpnejoglkmfleaaGreatDoor
set_option maxRecDepth 20000
open Go.RowKit
theorem or128 (k : Int) (h0 : 0 ≤ k) (h1 : k < 256) : bits BinOp.or IntKind.u8 k 128 = 128 + k % 128 := by
  obtain ⟨n, rfl⟩ := Int.eq_ofNat_of_zero_le h0
  have h : ∀ n : Fin 256, bits BinOp.or IntKind.u8 ((n.val : Nat) : Int) 128 = 128 + ((n.val : Nat) : Int) % 128 := by decide +kernel
  exact h ⟨n, by omega⟩
set_option maxHeartbeats 800000 in
theorem digits_any (n : Int) (w : World) (h0 : 0 ≤ n) (h1 : n < 18446744073709551616) :
    Calls Tryz.prog 83 #[.int .u64 n] w fun e w' => ∃ v, e = .returned v ∧ Own w.heap.size w' v (dg n.toNat) ∧ Below w.heap.size w w' := by
  obtain ⟨i0, hi, hz0, hz1, hz2⟩ := info_parts info_u8
  have hL := dg_len10 (n := n.toNat) (by omega)
  go_enter Tryz.func83, Tryz.ntmps83
  go_wp2_with (at_make; refine wpList_make_own _ rfl _ _ 73 rfl w.heap.size 5 i0 (.int .u8 0) 1 under_bytes hi hz0 hz1 _ _ _ 10 rfl rfl (by omega) ?b2 ?b3 (Nat.le_refl _) ?_)
  case b2 => rw [hz2]; omega
  case b3 => unfold maxLen; omega
  intro w0 hown0 hgrow0
  have hb0 : Below w.heap.size w w0 := (Below.refl _ _).grown hgrow0 (Nat.le_refl _) (fun k h => by cases h)
  have hv0 : Own w.heap.size w0 (.slice (some ⟨w.heap.size, 0, none⟩) 0 10) [] := hown0
  clear hown0 hgrow0
  go_wp2
  go_loopw [0, 3] (fun sn out wr => ∃ (m : Int) (acc : List UInt8), 0 ≤ m ∧ m < 18446744073709551616 ∧ sn = .int .u64 m ∧ Own w.heap.size wr out acc ∧ Hid (acc ++ dg m.toNat = dg n.toNat) ∧ acc.length ≤ 10 ∧ Below w.heap.size w wr)
    (fun sn _ _ => (intOf sn).toNat)
  case atStart => exact ⟨n, [], h0, h1, rfl, hv0, by simp [Hid], by simp, hb0⟩
  case round =>
    obtain ⟨m, acc, hm0, hm1, rfl, hown, heq, hal, hb⟩ := hrel
    by_cases hlt : m < 128
    · have hq : m = ((UInt8.ofNat m.toNat).toNat : Int) := by rw [UInt8.toNat_ofNat']; omega
      have hql : acc.length + [UInt8.ofNat m.toNat].length ≤ 140737488355328 := by simp; omega
      have hbs := hb.size
      have HQ := hid hq
      clear hq
      go_wp2_with (at_builtin; refine wpList_append_byt rfl (.tmp 15) (.tmp 18) rfl rfl rfl (hown.alloc _) (byt_one _ _ (UInt8.ofNat m.toNat) HQ.out) hql (by simp; omega) ?_; intro v1 w1 hown1 hg1 _)
      go_ret
      rw [dg_small (by omega)] at heq
      rw [heq.out] at hown1
      exact ⟨v1, rfl, hown1, (hb.alloc hbs _).grown hg1 (by simp; omega) (fun k hk => (World.ownsRow.lt hown k hk).1)⟩
    · have hq : bits BinOp.or IntKind.u8 (m % 256) 128 = ((UInt8.ofNat (128 + m.toNat % 128)).toNat : Int) := by
        rw [or128 _ (by omega) (by omega), UInt8.toNat_ofNat']; omega
      have hql : acc.length + [UInt8.ofNat (128 + m.toNat % 128)].length ≤ 140737488355328 := by simp; omega
      have hbs := hb.size
      have HQ := hid hq
      clear hq
      have hge : 128 ≤ m := by omega
      go_wp2_with (at_builtin; refine wpList_append_byt rfl (.tmp 7) (.tmp 11) rfl rfl rfl (hown.alloc _) (byt_one _ _ (UInt8.ofNat (128 + m.toNat % 128)) HQ.out) hql (by simp; omega) ?_; intro v1 w1 hown1 hg1 _)
      have hlen : (acc ++ [UInt8.ofNat (128 + m.toNat % 128)]).length ≤ 10 ∧ acc ++ [UInt8.ofNat (128 + m.toNat % 128)] ++ dg (m / 128).toNat = dg n.toNat := by
        have h2 := heq.out
        rw [dg_big (n := m.toNat) (by omega)] at h2
        have e : m.toNat / 128 = (m / 128).toNat := by omega
        rw [e] at h2
        have h3 := congrArg List.length h2
        have h4 := dg_pos (m / 128).toNat
        simp at h3
        exact ⟨by simp; omega, by simpa using h2⟩
      go_roundw
      case rel => exact ⟨m / 128, _, by omega, by omega, rfl, hown1, hid hlen.2, hlen.1, (hb.alloc hbs _).grown hg1 (by simp; omega) (fun k hk => (World.ownsRow.lt hown k hk).1)⟩
      case measure => simp [intOf]; omega
end Go.Proofs.YtpnejoglkmfleaaGreatDoor
namespace Go.Proofs.YtpnejoglkmfleaaGreatDoor
set_option maxRecDepth 20000
open Go.RowKit
theorem join2 (u v : Value) (l m : List UInt8) (g c : Nat) (w : World) (hg : g < w.heap.size) (c0 : w.cell? ⟨g, 0, none⟩ = some u) (c1 : w.cell? ⟨g, 1, none⟩ = some v) (hu : Byt w u l) (hv : Byt w v m) (hs : l.length + m.length ≤ 1099511627776) :
    Calls Tryz.prog 82 #[.slice (some ⟨g, 0, none⟩) 2 c] w fun e w' => ∃ x, e = .returned x ∧ Own w.heap.size w' x (l ++ m) ∧ Below w.heap.size w w' := by
  have h := join_any [l, m] (fun j => if j = 0 then u else v) g 2 c w rfl hg (fun j hj => by
    match j, hj with
    | 0, _ => exact c0
    | 1, _ => exact c1) (fun j hj => by
    match j, hj with
    | 0, _ => exact hu
    | 1, _ => exact hv) (by simpa using hs) (by omega)
  simpa using h
set_option maxHeartbeats 800000 in
theorem num_any (v : Value) (l : List UInt8) (n : Int) (w : World) (hv : Byt w v l) (h0 : 0 ≤ n) (h1 : n < 18446744073709551616) (hs : l.length ≤ 1099511627000) :
    Calls Tryz.prog 64 #[v, .int .u64 n] w fun e w' => ∃ x, e = .returned x ∧ Own w.heap.size w' x (l ++ dg n.toNat) ∧ Below w.heap.size w w' := by
  have hL := dg_len10 (n := n.toNat) (by omega)
  obtain ⟨A, c, rfl⟩ := hv.shape
  go_enter Tryz.func64, Tryz.ntmps64
  go_wp2_with fail
  refine (digits_any n w h0 h1).mono ?_
  rintro e w1 ⟨v1, rfl, hown1, hb1⟩
  have hbs := hb1.size
  obtain ⟨A1, c1, rfl⟩ := hown1.byt.shape
  go_wp2_with fail
  refine (join2 _ _ l (dg n.toNat) w1.heap.size 2 (w1.alloc (.cells #[.slice A l.length c, .slice A1 (dg n.toNat).length c1] 73)) (by simp) (by simp) (by simp) ((hv.below hb1).alloc _) (hown1.byt.alloc _) (by omega)).mono ?_
  rintro e w2 ⟨x, rfl, hown2, hb2⟩
  go_wp2_with fail
  go_ret
  exact ⟨x, rfl, hown2.more (by simp; omega), hb1.trans ((Below.alloc (Below.refl _ _) hbs _).trans (hb2.mono (by simp; omega)))⟩
end Go.Proofs.YtpnejoglkmfleaaGreatDoor
namespace Go.Proofs.YtpnejoglkmfleaaGreatDoor
set_option maxRecDepth 20000
open Go.RowKit
theorem cell_blk {w : World} {g : Nat} {cs : Array Value} {t : TypeId} (h : w.heap[g]? = some (.cells cs t (0, 0))) (i : Nat) : w.cell? ⟨g, i, none⟩ = cs[i]? := cell_of_row w g i cs t (0, 0) h
theorem free_blk {w : World} {g : Nat} {cs : Array Value} {t : TypeId} (h : w.heap[g]? = some (.cells cs t (0, 0))) (i : Nat) : w.frozen? ⟨g, i, none⟩ = false := by simp [World.frozen?, h]
theorem set_blk {w : World} {g : Nat} {cs : Array Value} {t : TypeId} (h : w.heap[g]? = some (.cells cs t (0, 0))) (i : Nat) (u : Value) : (w.setCell ⟨g, i, none⟩ u).heap[g]? = some (.cells (cs.setIfInBounds i u) t (0, 0)) := by
  simp [World.setCell, Array.getElem?_modify, h]
end Go.Proofs.YtpnejoglkmfleaaGreatDoor
namespace Go.Proofs.YtpnejoglkmfleaaGreatDoor
set_option maxRecDepth 20000
open Go.RowKit
def hcells (h : List UInt8) : Array Value := (bcells h).toArray
theorem hcells_size (h : List UInt8) : (hcells h).size = h.length := by simp [hcells, bcells]
theorem hcells_list (h : List UInt8) : (hcells h).toList = bcells h := by simp [hcells]
theorem hcells_one (h : List UInt8) : (hcells h).all (·.oneCell') = true := all_oneCell_toArray (bcells_one h)
theorem size_hash : (Tryz.prog.info? 34).map (·.size) = some 32 := by kernel_rfl
theorem under_hash : Tryz.prog.underlying 34 = some (.array 32 5) := by kernel_rfl
theorem wpList_copy_byt {ops : Array Oper} {rest : List Oper} {o : Oper} {a : Act} {w : World} {Q : Exit → Act → World → Prop} (hgd : o.guard = none) (d s : Operand)
    (ho : o.op = .call { callee := .builtin .copy, args := #[d, s], argTypes := #[73, 73] })
    {dp : Option Addr} {dLen dCap : Nat} {v : Value} {m : List UInt8} (hd : a.eval d = .slice dp dLen dCap) (hs : a.eval s = v) (hv : Byt w v m)
    {g off : Nat} {cur : List UInt8} {t : TypeId} (hg : w.heap[g]? = some (.cells (hcells cur) t (0, 0))) {k : Nat} (hk : k = Nat.min m.length dLen)
    (hdp : 0 < k → dp = some ⟨g, off, none⟩) (hfit : off + k ≤ cur.length)
    (h : ∀ w', w.grownBy w' (some g) → Hid (w'.heap[g]? = some (.cells (hcells (splice cur off (m.take k))) t (0, 0))) → w'.heap.size = w.heap.size → wpList Tryz.prog ops Q rest (a.put o.dst (goInt k)) w') :
    wpList Tryz.prog ops Q (o :: rest) a w := by
  obtain ⟨A, c, rfl, h1, h2, hr⟩ := hv
  have hsz : (Tryz.prog.info? 5).map (·.size) = some 1 := by kernel_rfl
  have hkm : k ≤ m.length := by rw [hk]; exact Nat.min_le_left _ _
  by_cases h0 : k = 0
  · subst h0
    refine wpList_copy_nothing hgd d s _ _ ho 5 under_bytes hsz dp A dLen dCap m.length c hd hs (by omega) ?_
    refine h w (World.grownBy.refl _ _) ?_ rfl
    have e : splice cur off (m.take 0) = cur := by simp [splice]
    rw [e]
    exact hid hg
  · obtain rfl := hdp (by omega)
    obtain ⟨b, off2, rfl, hb, hc⟩ := hr (by omega)
    have hlen : (bcells (m.take k)).length = k := by simp [bcells]; omega
    have hrow : (hcells cur).toList.take off ++ (bcells (m.take k) ++ (hcells cur).toList.drop (off + (bcells (m.take k)).length)) = bcells (splice cur off (m.take k)) := by
      rw [hlen, hcells_list]
      have : (m.take k).length = k := by simp; omega
      simp [splice, bcells, List.map_take, List.map_drop, this]
    refine wpList_copy_own hgd d s _ _ ho 5 under_bytes hsz g off dLen dCap ⟨b, off2, none⟩ m.length c hd hs (hcells cur) t hg (bcells (m.take k)) (by rw [hlen, hk]) ?_ (by rw [hlen, hcells_size]; exact hfit) (bcells_one _) ?_
    · intro j u hu
      obtain ⟨hj, rfl⟩ := bcells_get _ j u hu
      rw [addr_add]
      have hjm : j < m.length := by simp at hj; omega
      rw [hc j hjm, List.getElem_take]
    · rw [hrow, hlen]
      exact h _ ⟨rfl, rfl, rfl, by simp, fun q _ hq => setRow_other w g q _ (fun e => hq (by simp [e]))⟩ (setRow_heap w g _ _ t _ hg) (by simp)
theorem hcells_get (h : List UInt8) (i : Nat) (hi : i < h.length) : (hcells h)[i]? = some (bcell h[i]) := by simp [hcells, bcells, hi]
theorem eqItems_bytes (d : Nat) (a b : List UInt8) (w : World) : ∀ is : List Nat, (∀ i ∈ is, i < a.length ∧ i < b.length) →
    (Op.eqItems (d + 1) 5 (Tryz.prog.cellsOf 5) (hcells a) (hcells b) is).run Tryz.prog w = .ok (is.all fun i => decide (a[i]? = b[i]?)) w := by
  have hc : Tryz.prog.cellsOf 5 = 1 := by kernel_rfl
  have hp : Tryz.prog.plainKey 5 = true := by kernel_rfl
  have hu : Tryz.prog.underlying 5 = some (.int .u8) := by kernel_rfl
  rw [hc]
  intro is
  induction is with
  | nil => intro _; simp [Op.eqItems]
  | cons i is ih =>
    intro h
    obtain ⟨hi, hj⟩ := h i (by simp)
    have ih' := ih (fun j hj => h j (List.mem_cons_of_mem _ hj))
    have pa := run_part_plain (P := Tryz.prog) w hp (hcells_get a i hi)
    have pb := run_part_plain (P := Tryz.prog) w hp (hcells_get b i hj)
    have pe := run_equalIn_int (P := Tryz.prog) w d 5 .u8 .u8 (a[i].toNat : Int) (b[i].toNat : Int) hu
    unfold bcell at pa pb
    simp only [Op.eqItems, Sem.run_bind, Nat.mul_one, pa, pb, pe, Result.andThen_ok]
    by_cases e : a[i] = b[i]
    · simp [ih', hi, hj, e]
    · have e1 : ((a[i].toNat : Int) == (b[i].toNat : Int)) = false := by
        rw [beq_eq_false_iff_ne]
        intro h
        exact e (UInt8.toNat_inj.1 (by omega))
      simp [e1, hi, hj, e]
theorem eq_hash (a b : List UInt8) (ha : a.length = 32) (hb : b.length = 32) (w : World) : (Op.equalIn 10000 34 (.agg (hcells a)) (.agg (hcells b))).run Tryz.prog w = .ok (decide (a = b)) w := by
  obtain ⟨i0, hi, _⟩ := info_parts info_u8
  rw [run_equalIn_array w 9999 (hcells a) (hcells b) under_hash hi, eqItems_bytes 9998 a b w _ (fun i h => by have := List.mem_range.1 h; omega)]
  congr 1
  rw [Bool.eq_iff_iff]
  simp only [List.all_eq_true, List.mem_range, decide_eq_true_eq]
  constructor
  · intro h
    apply List.ext_getElem?
    intro i
    by_cases h32 : i < 32
    · exact h i h32
    · rw [List.getElem?_eq_none (by omega), List.getElem?_eq_none (by omega)]
  · rintro rfl i _
    rfl
theorem own_full {B n : Nat} {w : World} {A : Option Addr} {l : List UInt8} (h : Own B w (.slice A n n) l) (hn : 0 < n) : ∃ g, A = some ⟨g, 0, none⟩ ∧ B ≤ g ∧ w.heap[g]? = some (.cells (hcells l) 5 (0, 0)) := by
  rcases h.2 with ⟨e, _⟩ | ⟨g, cap, cur, e, hg, hh, hnc, _, hs, ht⟩
  · injection e with _ e; omega
  · injection e with e1 e2 e3
    refine ⟨g, e1, hg, ?_⟩
    rw [hh]
    have hl : cur.toList = bcells l := by
      rw [← ht, List.take_of_length_le]
      rw [Array.length_toList, hs]
      omega
    have : cur = hcells l := by
      apply Array.ext'
      rw [hl, hcells_list]
    rw [this]
theorem own_of_blk {B g n : Nat} {w : World} {l : List UInt8} (hg : w.heap[g]? = some (.cells (hcells l) 5 (0, 0))) (hB : B ≤ g) (hn : n = l.length) (hm : n ≤ maxLen) : Own B w (.slice (some ⟨g, 0, none⟩) n n) l := by
  subst hn
  refine ⟨by simp [bcells], .inr ⟨g, l.length, hcells l, rfl, hB, hg, Nat.le_refl _, hm, by rw [hcells_size, Nat.mul_one], ?_⟩⟩
  rw [hcells_list, Nat.mul_one, List.take_of_length_le (by simp [bcells])]
theorem byt_of_blk {g n : Nat} {w : World} {l : List UInt8} {t : TypeId} (hg : w.heap[g]? = some (.cells (hcells l) t (0, 0))) (hn : n = l.length) (hm : n ≤ maxLen) : Byt w (.slice (some ⟨g, 0, none⟩) n n) l := by
  subst hn
  refine ⟨_, _, rfl, Nat.le_refl _, hm, fun _ => ⟨g, 0, rfl, lt_of_block hg, fun j hj => ?_⟩⟩
  rw [Nat.zero_add, cell_of_row w g j _ t (0, 0) hg, hcells_get l j hj]
theorem splice_head (Z l : List UInt8) : splice Z 0 l = l ++ Z.drop l.length := by simp [splice]
theorem splice_two (Z l m : List UInt8) (h : Z.length = l.length + m.length) : splice (splice Z 0 l) l.length m = l ++ m := by
  have e : (Z.drop l.length).drop m.length = [] := by rw [List.drop_drop]; exact List.drop_eq_nil_of_le (by omega)
  rw [splice_head Z l]
  simp only [splice, List.take_left', List.drop_append]
  rw [List.drop_eq_nil_of_le (by omega), List.nil_append, show l.length + m.length - l.length = m.length from by omega, e, List.append_nil]
end Go.Proofs.YtpnejoglkmfleaaGreatDoor
namespace Go.Proofs.YtpnejoglkmfleaaGreatDoor
set_option maxRecDepth 20000
open Go.RowKit
theorem refnum_to (k : Nat) : ∀ (n : Int) (w : World), 0 ≤ n → n < 18446744073709551616 → n.toNat ≤ k →
    Calls Tryz.prog 67 #[.int .u64 n] w fun e w' => ∃ v, e = .returned v ∧ Own w.heap.size w' v (dg n.toNat) ∧ Below w.heap.size w w' := by
  induction k with
  | zero =>
    intro n w h0 h1 hk
    obtain rfl : n = 0 := by omega
    go_enter Tryz.func67, Tryz.ntmps67
    go_wp2_with fail
    go_ret
    rw [show (0 : Int).toNat = 0 from rfl, dg_small (by omega)]
    exact ⟨_, rfl, own_of_blk (heap_alloc_new w _) (Nat.le_refl _) rfl (by unfold maxLen; omega), (Below.refl _ _).alloc (Nat.le_refl _) _⟩
  | succ k ih =>
    intro n w h0 h1 hk
    by_cases hlt : n < 128
    · have hq : n = ((UInt8.ofNat n.toNat).toNat : Int) := by rw [UInt8.toNat_ofNat']; omega
      have HQ := hid hq
      clear hq
      go_enter Tryz.func67, Tryz.ntmps67
      go_wp2_with fail
      go_ret
      rw [dg_small (by omega)]
      have hb : (w.alloc (.cells #[.int .u8 n] 5)).heap[w.heap.size]? = some (.cells (hcells [UInt8.ofNat n.toNat]) 5 (0, 0)) := by
        rw [heap_alloc_new]
        simp only [hcells, bcells, bcell, List.map_cons, List.map_nil]
        rw [← HQ.out]
      exact ⟨_, rfl, own_of_blk hb (Nat.le_refl _) rfl (by unfold maxLen; omega), (Below.refl _ _).alloc (Nat.le_refl _) _⟩
    · have hq : 128 + n % 128 = ((UInt8.ofNat (128 + n.toNat % 128)).toNat : Int) := by rw [UInt8.toNat_ofNat']; omega
      have hL := dg_len10 (n := n.toNat) (by omega)
      have hbig : dg n.toNat = UInt8.ofNat (128 + n.toNat % 128) :: dg (n / 128).toNat := by
        rw [dg_big (by omega)]
        congr 2
        omega
      have HQ := hid hq
      have HB := hid hbig
      have hL2 : (dg (n / 128).toNat).length ≤ 10 := dg_len10 (by omega)
      clear hq hbig hL
      have IH := hid ih
      clear ih
      go_enter Tryz.func67, Tryz.ntmps67
      go_wp2_with fail
      refine (IH.out (n / 128) _ (by omega) (by omega) (by omega)).mono ?_
      rintro e w1 ⟨v1, rfl, hown1, hb1⟩
      have hb : (w.alloc (.cells #[.int .u8 (128 + n % 128)] 5)).heap[w.heap.size]? = some (.cells (hcells [UInt8.ofNat (128 + n.toNat % 128)]) 5 (0, 0)) := by
        rw [heap_alloc_new]
        simp only [hcells, bcells, bcell, List.map_cons, List.map_nil]
        rw [← HQ.out]
      have hown0 : Own w.heap.size w1 (.slice (some ⟨w.heap.size, 0, none⟩) 1 1) [UInt8.ofNat (128 + n.toNat % 128)] := (own_of_blk (n := 1) hb (Nat.le_refl _) rfl (by unfold maxLen; omega)).below hb1
      have hb2 : Below w.heap.size w w1 := ((Below.refl _ _).alloc (Nat.le_refl _) _).trans (hb1.mono (by simp))
      have hbs := hb2.size
      clear hb
      go_wp2_with (at_builtin; refine wpList_append_byt rfl (.tmp 12) (.tmp 15) rfl rfl rfl hown0 hown1.byt (by rw [List.length_singleton]; omega) hbs ?_; intro v2 w2 hown2 hg2 _)
      go_ret
      rw [HB.out]
      exact ⟨_, rfl, hown2, hb2.grown hg2 hbs (fun q hq => (World.ownsRow.lt hown0 q hq).1)⟩
theorem refnum_any (n : Int) (w : World) (h0 : 0 ≤ n) (h1 : n < 18446744073709551616) :
    Calls Tryz.prog 67 #[.int .u64 n] w fun e w' => ∃ v, e = .returned v ∧ Own w.heap.size w' v (dg n.toNat) ∧ Below w.heap.size w w' := refnum_to n.toNat n w h0 h1 (Nat.le_refl _)
end Go.Proofs.YtpnejoglkmfleaaGreatDoor
namespace Go.Proofs.YtpnejoglkmfleaaGreatDoor
set_option maxRecDepth 20000
open Go.RowKit
theorem Own.set {B g : Nat} {w : World} {v : Value} {l : List UInt8} (h : Own B w v l) (hne : v.ownBlock ≠ some g) (i : Nat) (u : Value) : Own B (w.setCell ⟨g, i, none⟩ u) v l := ownsRow_setCell_other h hne u
end Go.Proofs.YtpnejoglkmfleaaGreatDoor
namespace Go.Proofs.YtpnejoglkmfleaaGreatDoor
set_option maxRecDepth 20000
open Go.RowKit
set_option maxHeartbeats 1600000 in
theorem hash_any (v : Value) (l h : List UInt8) (w : World) (hv : Byt w v l) (hs : l.length ≤ 1099511000000) (hh : h.length = 32) :
    Calls Tryz.prog 51 #[v, .agg (hcells h)] w fun e w' => ∃ x, e = .returned x ∧ Own w.heap.size w' x (l ++ h) ∧ Below w.heap.size w w' := by
  obtain ⟨i0, hi, hz0, hz1, hz2⟩ := info_parts info_u8
  obtain ⟨A, c, rfl⟩ := hv.shape
  have hb2 : i0.bytes * (l.length + 32) ≤ 281474976710656 := by rw [hz2]; omega
  have hb3 : l.length + 32 ≤ maxLen := by unfold maxLen; omega
  go_enter Tryz.func51, Tryz.ntmps51
  go_wp2_with (at_make; refine wpList_make_full _ rfl _ _ 73 rfl w.heap.size 5 i0 (.int .u8 0) 1 under_bytes hi hz0 hz1 _ _ _ _ (l.length + 32) rfl rfl (by simp) (by simp) hb2 hb3 (by simp) ?_)
  intro w1 hown1 hg1
  have hz : (madeCells #[Value.int IntKind.u8 0] (l.length + 32)).toList = bcells (List.replicate (l.length + 32) 0) := by
    rw [toList_madeCells_one]
    simp [bcells, bcell]
  have hown : Own (w.heap.size + 1) w1 (.slice (some ⟨w.heap.size + 1, 0, none⟩) (l.length + 32) (l.length + 32)) (List.replicate (l.length + 32) 0) := by
    unfold Own
    rw [List.length_replicate, ← hz]
    refine ⟨hown1.1, ?_⟩
    rcases hown1.2 with ⟨e, _⟩ | ⟨g, cap, cur, e, _, r⟩
    · injection e with e; cases e
    · refine .inr ⟨g, cap, cur, e, ?_, r⟩
      injection e with e
      injection e with e
      injection e with e
      omega
  obtain ⟨g, eg, _, hG⟩ := own_full hown (by omega)
  injection eg with eg
  injection eg with eg
  subst eg
  have hH : w1.heap[w.heap.size]? = some (.cells (hcells h) 34 (0, 0)) := (hg1.block _ (by simp) (by simp)).trans (heap_alloc_new w _)
  have hbw1 : Below w.heap.size w w1 := ((Below.refl _ _).alloc (Nat.le_refl _) _).grown hg1 (by simp) (fun k hk => by cases hk)
  have hv1 := hv.below hbw1
  have hmin := hid (show l.length = Nat.min l.length (l.length + 32) from (Nat.min_eq_left (by omega)).symm)
  clear hz hown hown1 hg1
  go_wp2_with (refine wpList_copy_byt rfl (.tmp 10) (.tmp 11) rfl rfl rfl hv1 hG hmin.out (fun _ => rfl) (by simp) ?_)
  intro w2 hg2 H2 hs2
  have hH2 : w2.heap[w.heap.size]? = some (.cells (hcells h) 34 (0, 0)) := (hg2.block _ (lt_of_block hH) (by simp)).trans hH
  have hbw2 : Below w.heap.size w w2 := hbw1.grown hg2 hbw1.size (fun k hk => by injection hk; omega)
  have hby : Byt w2 (.slice (some ⟨w.heap.size, 0, none⟩) 32 32) h := byt_of_blk hH2 hh.symm (by unfold maxLen; omega)
  have hmin2 := hid (show 32 = Nat.min h.length 32 by rw [hh]; rfl)
  have hne : ¬ (l.length + 32 = l.length) := by omega
  have q1 : (l.length : Int) ≤ (l.length : Int) + 32 := by omega
  clear hmin hv1 hG hH hg2
  go_wp2_with fail
  go_still_tail 5, (by kernel_rfl)
  change wpList _ _ _ _ _ w2.drew
  have H3 : Hid (w2.drew.heap[w.heap.size + 1]? = _) := H2
  have hby3 : Byt w2.drew _ _ := hby
  have hbw3 : Below w.heap.size w w2.drew := hbw2.drew
  have hs3 : w2.drew.heap.size = w1.heap.size := hs2
  generalize w2.drew = w3 at *
  go_wp2_with (refine wpList_copy_byt rfl (.tmp 16) (.tmp 17) rfl rfl rfl hby3 H3.out hmin2.out (fun _ => rfl) (by simp [splice]) ?_)
  intro w4 hg4 H4 hs4
  have hbw4 : Below w.heap.size w w4 := hbw3.grown hg4 hbw3.size (fun k hk => by injection hk; omega)
  go_wp2_with fail
  go_ret
  have hrow : splice (splice (List.replicate (l.length + 32) 0) 0 l) l.length (h.take 32) = l ++ h := by
    rw [List.take_of_length_le (by omega), splice_two _ l h (by simp; omega)]
  refine ⟨_, rfl, ?_, hbw4⟩
  have H5 := H4.out
  first
    | rw [hrow] at H5
    | (rw [show splice (splice (List.replicate (l.length + 32) 0) 0 l) l.length h = l ++ h from by rw [splice_two _ l h (by simp; omega)]] at H5)
  exact own_of_blk H5 (by omega) (by simp; omega) (by unfold maxLen; omega)
end Go.Proofs.YtpnejoglkmfleaaGreatDoor
namespace Go.Proofs.YtpnejoglkmfleaaGreatDoor
set_option maxRecDepth 20000
open Go.RowKit
noncomputable def loadH (v : Value) (w : World) : Result Next := Sem.run Tryz.prog (execOp (fun _ => v) { dst := none, op := .load 34 (.tmp 0), type := 0, pos := "", after := #[], guard := none }) w
theorem exec_load_hash (r : Operand → Value) (x : Operand) (dst : Option Tmp) (ty : TypeId) (pos : String) (after : Array Edge) (guard : Option (Nat × Bool)) (w : World) :
    Sem.run Tryz.prog (execOp r { dst := dst, op := .load 34 x, type := ty, pos := pos, after := after, guard := guard }) w = loadH (r x) w := rfl
attribute [local go_sem ↓] exec_load_hash
end Go.Proofs.YtpnejoglkmfleaaGreatDoor
namespace Go.Proofs.YtpnejoglkmfleaaGreatDoor
set_option maxRecDepth 20000
open Go.RowKit
noncomputable def cutH (v h : Value) (w : World) : Result Next := Sem.run Tryz.prog (execOp (fun o => match o with | .tmp 0 => v | _ => h) { dst := none, op := .slice 73 (.tmp 0) none (some (.tmp 1)) none, type := 0, pos := "", after := #[], guard := none }) w
noncomputable def cutL (v l : Value) (w : World) : Result Next := Sem.run Tryz.prog (execOp (fun o => match o with | .tmp 0 => v | _ => l) { dst := none, op := .slice 73 (.tmp 0) (some (.tmp 1)) none none, type := 0, pos := "", after := #[], guard := none }) w
theorem exec_cutH (r : Operand → Value) (x h : Operand) (dst : Option Tmp) (ty : TypeId) (pos : String) (after : Array Edge) (guard : Option (Nat × Bool)) (w : World) :
    Sem.run Tryz.prog (execOp r { dst := dst, op := .slice 73 x none (some h) none, type := ty, pos := pos, after := after, guard := guard }) w = cutH (r x) (r h) w := rfl
theorem exec_cutL (r : Operand → Value) (x l : Operand) (dst : Option Tmp) (ty : TypeId) (pos : String) (after : Array Edge) (guard : Option (Nat × Bool)) (w : World) :
    Sem.run Tryz.prog (execOp r { dst := dst, op := .slice 73 x (some l) none none, type := ty, pos := pos, after := after, guard := guard }) w = cutL (r x) (r l) w := rfl
theorem RdB.sub {w : World} {A : Option Addr} {l : List UInt8} (h : RdB w A l) (i k c : Nat) (hik : i ≤ k) (hk : k ≤ l.length) (hc : l.length ≤ c) : RdB w (if c = i then A else A.map (·.add i)) ((l.drop i).take (k - i)) := fun h0 => by
  rw [List.length_take, List.length_drop] at h0
  obtain ⟨b, off, rfl, hb, hcl⟩ := h (by omega)
  rw [if_neg (by omega)]
  refine ⟨b, off + i, by rw [Option.map_some, addr_add], hb, fun j hj => ?_⟩
  rw [List.length_take, List.length_drop] at hj
  rw [Nat.add_assoc, hcl (i + j) (by omega), List.getElem_take, List.getElem_drop]
theorem sub_length {l : List UInt8} {i k : Nat} (hk : k ≤ l.length) : ((l.drop i).take (k - i)).length = k - i := by
  rw [List.length_take, List.length_drop]
  omega
theorem cut_h (A : Option Addr) (c L k : Nat) (hk : k ≤ L) (hc : L ≤ c) : ∃ A' c', (∀ w, cutH (.slice A L c) (.int .i64 (k : Int)) w = .ok (.value (.slice A' k c')) w) ∧ ∀ w l, l.length = L → Byt w (.slice A L c) l → Byt w (.slice A' k c') (l.take k) := by
  refine ⟨if c = 0 then A else A.map (·.add 0), c, fun w => ?_, fun w l hl hv => ?_⟩
  · obtain ⟨i0, hi, hz0, hz1, hz2⟩ := info_parts info_u8
    have hk4 : k ≤ c := by omega
    unfold cutH execOp
    simp [Instr.sliceAt, Instr.slice, run_underlying under_bytes, Instr.sliceBounds, Instr.sliceBound, asIntOf, sizeOf, typeInfo, hi, hk4, Sem.run_bind]
  · obtain ⟨_, h1, h2, h3⟩ := hv.at_
    have hs := sub_length (l := l) (i := 0) (k := k) (by omega)
    have h4 := h3.sub 0 k c (Nat.zero_le _) (by omega) (by omega)
    rw [List.drop_zero, Nat.sub_zero] at h4 hs
    exact ⟨_, _, by rw [hs], by omega, by omega, h4⟩
theorem cut_l (A : Option Addr) (c L i : Nat) (hi : i ≤ L) (hc : L ≤ c) : ∃ A' c', (∀ w, cutL (.slice A L c) (.int .i64 (i : Int)) w = .ok (.value (.slice A' (L - i) c')) w) ∧ ∀ w l, l.length = L → Byt w (.slice A L c) l → Byt w (.slice A' (L - i) c') (l.drop i) := by
  refine ⟨if c = i then A else A.map (·.add i), c - i, fun w => ?_, fun w l hl hv => ?_⟩
  · obtain ⟨i0, hi0, hz0, hz1, hz2⟩ := info_parts info_u8
    unfold cutL execOp
    simp [Instr.sliceAt, Instr.slice, run_underlying under_bytes, Instr.sliceBounds, Instr.sliceBound, asIntOf, sizeOf, typeInfo, hi0, hz1, hi, Sem.run_bind]
  · obtain ⟨_, h1, h2, h3⟩ := hv.at_
    have hs := sub_length (l := l) (i := i) (k := l.length) (by omega)
    have h4 := h3.sub i l.length c (by omega) (by omega) (by omega)
    have e : (l.drop i).take (l.length - i) = l.drop i := List.take_of_length_le (by rw [List.length_drop]; omega)
    rw [e] at h4 hs
    exact ⟨_, _, by rw [hs, hl], by omega, by omega, h4⟩
theorem new_cell (w : World) (C : Array Value) (T : TypeId) (i : Nat) (v : Value) (h : C[i]? = some v) : (w.alloc (.cells C T)).cell? ⟨w.heap.size, i, none⟩ = some v := by
  rw [cell_of_row _ _ _ _ _ (0, 0) (heap_alloc_new w _)]
  exact h
theorem new_cell_drew (w : World) (C : Array Value) (T : TypeId) (i : Nat) (v : Value) (h : C[i]? = some v) : (w.alloc (.cells C T)).drew.cell? ⟨w.heap.size, i, none⟩ = some v := new_cell w C T i v h
end Go.Proofs.YtpnejoglkmfleaaGreatDoor
namespace Go.Proofs.YtpnejoglkmfleaaGreatDoor
set_option maxRecDepth 20000
open Go.RowKit
theorem take_off {P : Program} {md : Region.Mode} {l : List Oper} {Q : Exit → Act → World → Prop} {S : World → Prop} {i : Nat} {oi : Oper} {fuel : Nat} {listed : Array Bool} {a : Act} {w : World} (hi : l[i]? = some oi)
    (hs : Region.noSelect l.toArray = true) (hf : Region.free md l.toArray listed i = true) (hr : (Region.ready md l.toArray listed).contains i = true) (hQ : ∀ c a w, Q (.panic c) (a.put oi.dst undef) w → Q (.panic c) a w)
    (hw : Region.wanted oi (yielded l.toArray a.tmps) = false) (hS : S w) (h : wpAnyH P md l.toArray Q S fuel (listed.setIfInBounds i true) (a.put oi.dst undef) w) : wpAnyH P md l.toArray Q S (fuel + 1) listed a w :=
  wpAnyH_take (by simpa using hi) hs hf hr hQ (Or.inr ⟨hw, rfl⟩) hS h
theorem take_on {P : Program} {md : Region.Mode} {l : List Oper} {Q : Exit → Act → World → Prop} {S : World → Prop} {i : Nat} {oi : Oper} {v : Value} {fuel : Nat} {listed : Array Bool} {a : Act} {w : World} (hi : l[i]? = some oi)
    (hs : Region.noSelect l.toArray = true) (hf : Region.free md l.toArray listed i = true) (hr : (Region.ready md l.toArray listed).contains i = true) (hQ : ∀ c a w, Q (.panic c) (a.put oi.dst v) w → Q (.panic c) a w)
    (hw : Region.wanted oi (yielded l.toArray a.tmps) = true) (hv : ∀ w, S w → (execOp a.eval oi).run P w = .ok (.value v) w) (hS : S w) (h : wpAnyH P md l.toArray Q S fuel (listed.setIfInBounds i true) (a.put oi.dst v) w) : wpAnyH P md l.toArray Q S (fuel + 1) listed a w :=
  wpAnyH_take (by simpa using hi) hs hf hr hQ (Or.inl ⟨hw, hv⟩) hS h
theorem call_on {P : Program} {md : Region.Mode} {l : List Oper} {Q : Exit → Act → World → Prop} {S : World → Prop} {i : Nat} {oi : Oper} {fuel : Nat} {listed : Array Bool} {a : Act} {w : World} (hi : l[i]? = some oi)
    (hr : Region.ready md l.toArray listed = [i]) (hw : Region.wanted oi (yielded l.toArray a.tmps) = true)
    (h : ∀ K' : Act → World → Prop, Shut (∀ a w, S w → (S w → wpAnyH P md l.toArray Q S fuel (listed.setIfInBounds i true) a w) → K' a w) → Oper.wp P oi a w K' Q) : wpAnyH P md l.toArray Q S (fuel + 1) listed a w :=
  wpAnyH_ready hr (by simp) (AllReadyH.cons (by simpa using hi) (fun K hK => by rw [if_pos hw]; exact h K hK) AllReadyH.nil)
theorem tk {P : Program} {md : Region.Mode} {l : List Oper} {Q : Exit → Act → World → Prop} {S : World → Prop} {i : Nat} {oi : Oper} {v : Value} {fuel : Nat} {listed : Array Bool} {a : Act} {w : World} (hi : l[i]? = some oi)
    (hv : ∀ w, S w → (execOp a.eval oi).run P w = .ok (.value v) w) (h : wpAnyH P md l.toArray Q S fuel (listed.setIfInBounds i true) (a.put oi.dst v) w) (hS : S w := by assumption)
    (hs : Region.noSelect l.toArray = true := by kernel_rfl) (hf : Region.free md l.toArray listed i = true := by kernel_rfl) (hr : (Region.ready md l.toArray listed).contains i = true := by kernel_rfl) (hQ : ∀ c a w, Q (.panic c) (a.put oi.dst v) w → Q (.panic c) a w := by exact fun _ _ _ h => h)
    (hw : Region.wanted oi (yielded l.toArray a.tmps) = true := by rfl) : wpAnyH P md l.toArray Q S (fuel + 1) listed a w := take_on hi hs hf hr hQ hw hv hS h
theorem tf {P : Program} {md : Region.Mode} {l : List Oper} {Q : Exit → Act → World → Prop} {S : World → Prop} {i : Nat} {oi : Oper} {fuel : Nat} {listed : Array Bool} {a : Act} {w : World} (hi : l[i]? = some oi)
    (h : wpAnyH P md l.toArray Q S fuel (listed.setIfInBounds i true) (a.put oi.dst undef) w) (hS : S w := by assumption)
    (hs : Region.noSelect l.toArray = true := by kernel_rfl) (hf : Region.free md l.toArray listed i = true := by kernel_rfl) (hr : (Region.ready md l.toArray listed).contains i = true := by kernel_rfl) (hQ : ∀ c a w, Q (.panic c) (a.put oi.dst undef) w → Q (.panic c) a w := by exact fun _ _ _ h => h)
    (hw : Region.wanted oi (yielded l.toArray a.tmps) = false := by rfl) : wpAnyH P md l.toArray Q S (fuel + 1) listed a w := take_off hi hs hf hr hQ hw hS h
theorem lay : (∀ (a : Act) (v : Value), a.put none v = a) ∧ (∀ (a : Act) (t : Tmp) (v : Value), a.put (some t) v = { a with tmps := a.tmps.setIfInBounds t v }) ∧ (∀ (l : List Value) (i : Nat) (v : Value), l.toArray.setIfInBounds i v = (l.set i v).toArray) ∧ (∀ (l : List Bool) (i : Nat) (v : Bool), l.toArray.setIfInBounds i v = (l.set i v).toArray)
    ∧ (∀ (a b : Value) (l : List Value), (a :: l).set 0 b = b :: l) ∧ (∀ (a b : Bool) (l : List Bool), (a :: l).set 0 b = b :: l) ∧ (∀ (a b : Value) (l : List Value) (i : Nat), (a :: l).set (i + 1) b = a :: l.set i b) ∧ (∀ (a b : Bool) (l : List Bool) (i : Nat), (a :: l).set (i + 1) b = a :: l.set i b) :=
  ⟨fun _ _ => rfl, fun _ _ _ => rfl, fun _ _ _ => List.setIfInBounds_toArray .., fun _ _ _ => List.setIfInBounds_toArray .., fun _ _ _ => rfl, fun _ _ _ => rfl, fun _ _ _ _ => rfl, fun _ _ _ _ => rfl⟩
theorem pair_on {P : Program} {md : Region.Mode} {l : List Oper} {Q : Exit → Act → World → Prop} {S : World → Prop} {i j : Nat} {oi oj : Oper} {fuel : Nat} {listed : Array Bool} {a : Act} {w : World} (hi : l[i]? = some oi) (hj : l[j]? = some oj)
    (hr : Region.ready md l.toArray listed = [i, j]) (hw : Region.wanted oi (yielded l.toArray a.tmps) = true) (hv : Region.wanted oj (yielded l.toArray a.tmps) = true)
    (h : ∀ K' : Act → World → Prop, Shut (∀ a w, S w → (S w → wpAnyH P md l.toArray Q S fuel (listed.setIfInBounds i true) a w) → K' a w) → Oper.wp P oi a w K' Q)
    (k : ∀ K' : Act → World → Prop, Shut (∀ a w, S w → (S w → wpAnyH P md l.toArray Q S fuel (listed.setIfInBounds j true) a w) → K' a w) → Oper.wp P oj a w K' Q) : wpAnyH P md l.toArray Q S (fuel + 1) listed a w :=
  wpAnyH_ready hr (by simp) (AllReadyH.cons (by simpa using hi) (fun K hK => by rw [if_pos hw]; exact h K hK) (AllReadyH.cons (by simpa using hj) (fun K hK => by rw [if_pos hv]; exact k K hK) AllReadyH.nil))
end Go.Proofs.YtpnejoglkmfleaaGreatDoor
