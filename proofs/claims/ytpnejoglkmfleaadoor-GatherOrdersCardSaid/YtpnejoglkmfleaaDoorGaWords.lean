/-
  A gatherer as the document has it: its two cells, loads and stores of a whole one; '!=' of attestations; parts of filtered lists.
-/
import Derived.Test.YtpnejoglkmfleaaDoorGaNeed
import Derived.Test.YtpnejoglkmfleaaDoorGaPure
namespace Go.Proofs.YtpnejoglkmfleaaDoor
set_option maxRecDepth 20000
open Go.RowKit
noncomputable def neAtt (u v : Value) (w : World) : Result Next := Sem.run Tryd.prog (execOp (fun x => match x with
  | .tmp 0 => u
  | _ => v) { dst := none, op := .binOp .neq 29 (.tmp 0) (.tmp 1) 29, type := 0, pos := "", after := #[], guard := none }) w
theorem exec_ne_att (r : Operand → Value) (i j : Tmp) (dst : Option Tmp) (ty : TypeId) (pos : String) (after : Array Edge) (guard : Option (Nat × Bool)) (w : World) :
    Sem.run Tryd.prog (execOp r { dst := dst, op := .binOp .neq 29 (.tmp i) (.tmp j) 29, type := ty, pos := pos, after := after, guard := guard }) w = neAtt (r (.tmp i)) (r (.tmp j)) w := rfl
theorem neAtt_eq (a b : AtM) (ho : a.Ok) (hp : b.Ok) (w : World) : neAtt (.agg (atc a)) (.agg (atc b)) w = .ok (.value (.bool (!decide (a = b)))) w := by
  have heq := fun W => eq_att a b ho hp W
  obtain ⟨q, HQ⟩ : ∃ q : Bool, Hid (decide (a = b) = q) := ⟨_, hid rfl⟩
  obtain ⟨C, HC⟩ : ∃ C : Array Value, Hid (atc a = C) := ⟨_, hid rfl⟩
  obtain ⟨D, HD⟩ : ∃ C : Array Value, Hid (atc b = C) := ⟨_, hid rfl⟩
  rw [HQ.out, HC.out, HD.out] at heq
  rw [HQ.out, HC.out, HD.out]
  unfold neAtt
  go_simp
def gvZ : Array Value := #[.int .i64 0, .slice none 0 0]
theorem gv_one (n : Int) (A : Option Addr) (m c : Nat) : (#[.int .i64 n, .slice A m c] : Array Value).all (·.oneCell') = true :=
  all_oneCell_toArray (cs := [_, _]) (fun u hu => by
    simp only [List.mem_cons, List.not_mem_nil, or_false] at hu
    rcases hu with rfl | rfl <;> rfl)
theorem filter_take_yes {α : Type} {L : List α} {i : Nat} (p : α → Bool) (h : i < L.length) (hp : p L[i] = true) : (L.take (i + 1)).filter p = (L.take i).filter p ++ [L[i]] := by
  rw [List.take_succ_eq_append_getElem h, List.filter_append]
  simp [hp]
theorem filter_take_no {α : Type} {L : List α} {i : Nat} (p : α → Bool) (h : i < L.length) (hp : p L[i] = false) : (L.take (i + 1)).filter p = (L.take i).filter p := by
  rw [List.take_succ_eq_append_getElem h, List.filter_append]
  simp [hp]
theorem filter_take_len {α : Type} (L : List α) (i : Nat) (p : α → Bool) : ((L.take i).filter p).length ≤ i := Nat.le_trans (List.length_filter_le _ _) (by rw [List.length_take]; omega)
structure ElG (W : World) (b o : Nat) (a : AtM) : Prop where
  bo : W.cell? ⟨b, o, none⟩ = some (.int .i64 a.bo)
  ki : W.cell? ⟨b, o + 1, none⟩ = some (.int .i64 a.ki)
  vi : W.cell? ⟨b, o + 2, none⟩ = some (.int .i64 a.vi)
  ld : loadAtt (.pointer (some ⟨b, o, none⟩)) W = .ok (.value (.agg (atc a))) W
theorem elG_of {W : World} {b o : Nat} {a : AtM} (h : W.rangeAt b o (atl a)) (ho : a.Ok) : ElG W b o a := ⟨h 0 _ rfl, h 1 _ rfl, h 2 _ rfl, loadAtt_in h ho⟩
theorem elG_at {w : World} {A : Option Addr} {m c : Nat} {L : List AtM} (h : Els atl 101 w (.slice A m c) L) (ho : ∀ a ∈ L, a.Ok) {j : Nat} (hj : j < L.length) :
    ∃ b off, A = some ⟨b, off, none⟩ ∧ ∀ W, Below w.heap.size w W → ElG W b (off + j * 101) L[j] := by
  obtain ⟨b, off, e, hb, hc⟩ := h.at_.2.2.2 (Nat.lt_of_le_of_lt (Nat.zero_le _) hj)
  exact ⟨b, off, e, fun W hW => elG_of (range_kept (hc j hj) (hW.block b hb)) (ho _ (List.getElem_mem hj))⟩
structure FlSt (wz W : World) (x : Value) (M : List AtM) : Prop where
  own : OwnE atl 101 29 wz.heap.size W x M
  bel : Below wz.heap.size wz W
theorem FlSt.below {wz W W' : World} {x : Value} {M : List AtM} (h : FlSt wz W x M) (hb : Below W.heap.size W W') : FlSt wz W' x M := ⟨h.own.below hb, h.bel.trans (hb.mono h.bel.size)⟩
theorem FlSt.fresh (w : World) : FlSt w (w.alloc (.cells #[] 29)) (.slice (some ⟨w.heap.size, 0, none⟩) 0 0) [] :=
  ⟨World.ownsRow_made w #[] 0 (Nat.le_refl _) (Nat.zero_le _) rfl, (Below.refl _ _).alloc (Nat.le_refl _) _⟩
theorem FlSt.app {wz W W' : World} {x x' : Value} {M M' : List AtM} (h : FlSt wz W x M) (ho : OwnE atl 101 29 wz.heap.size W' x' M') (hg : W.grownBy W' x.ownBlock) : FlSt wz W' x' M' :=
  ⟨ho, h.bel.grown hg h.bel.size (fun k hk => (World.ownsRow.lt h.own k hk).1)⟩
theorem ga_setIn (w : World) {g : Nat} {C : Array Value} {T : TypeId} (h : w.heap[g]? = some (.cells C T (0, 0))) (i : Nat) (u : Value) : (w.setCell ⟨g, i, none⟩ u).heap[g]? = some (.cells (C.setIfInBounds i u) T (0, 0)) := by
  simp [World.setCell, Array.getElem?_modify, h]
theorem ga_meas {N k : Nat} (h : k < N) (hw : wrap64 ((k : Int) + 1) = (k : Int) + 1) : N - (intOf (Value.int IntKind.i64 (wrap64 ((k : Int) + 1)))).toNat < N - (intOf (Value.int IntKind.i64 (k : Int))).toNat := by
  rw [hw]
  simp only [intOf]
  omega
end Go.Proofs.YtpnejoglkmfleaaDoor
