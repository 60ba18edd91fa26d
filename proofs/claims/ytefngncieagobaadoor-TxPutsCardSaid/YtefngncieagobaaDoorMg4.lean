/-
  RefUpto RefText TxRd TxOk TxCodeKey Zeros Concat StrBytes: what each of them says stands at its head.
-/
import Derived.Test.YtefngncieagobaaDoorMg3
import Derived.Test.YtefngncieagobaaDoorMg2
import Derived.Deep.MidRow
import Derived.Test.YtefngncieagobaaDoorMg1
import Derived.Lib.AppendZerosOnto
import Derived.Laws.IdiomStrings
/-
  The document's answers for what is read of a number up to a most, and of a text.
-/
namespace Go.Proofs.YtefngncieagobaaDoor
open Go.RowKit

/-- What is said of a reading of a number up to a most. -/
def RefUpto (w : World) (A : Option Addr) (c : Nat) (l : List UInt8) (res : Nat × Nat × Bool) (e : Ending) (w' : World) : Prop :=
  e = .returned (.tuple #[rv A l.length c res.2.1 (!res.2.2), .int .i64 (res.1 : Int)]) ∧ Below w.heap.size w w'

end Go.Proofs.YtefngncieagobaaDoor

/-
  The document's answer for what is read of a text: tithingref01.ReadText.
-/
namespace Go.Proofs.YtefngncieagobaaDoor
open Go.RowKit

theorem Own.set {B g : Nat} {w : World} {v : Value} {l : List UInt8} (h : Own B w v l) (hne : v.ownBlock ≠ some g) (i : Nat) (u : Value) : Own B (w.setCell ⟨g, i, none⟩ u) v l := ownsRow_setCell_other h hne u

/-- What is said of a reading of a text. -/
def RefText (w : World) (A : Option Addr) (c : Nat) (l : List UInt8) (res : List UInt8 × Nat × Bool) (e : Ending) (w' : World) : Prop :=
  ∃ v, e = .returned (.tuple #[rv A l.length c res.2.1 (!res.2.2), v]) ∧ Own w.heap.size w' v res.1 ∧ Below w.heap.size w w'

end Go.Proofs.YtefngncieagobaaDoor

/-
  What tithingref06.Read has in memory while it reads: the reader, the results, the transaction.
-/
namespace Go.Proofs.YtefngncieagobaaDoor
open Go.RowKit

theorem blk_other {w : World} {g b i : Nat} {o : Obj} (h : w.heap[g]? = some o) (u : Value) (hne : g ≠ b) : (w.setCell ⟨b, i, none⟩ u).heap[g]? = some o := by
  rw [Below.heap_setCell w _ u g (fun e => hne e)]
  exact h
def zeroTx : Array Value := #[.int .i64 0, .int .i64 0, .int .i64 0, .int .i64 0, .int .i64 0, .string { data := #[] }, .string { data := #[] }]
theorem rdNum_pl {m : Nat} {l : List UInt8} {p : Nat} {r : Bool} (hp : p ≤ l.length) : (rdNum m l p r).2.1 ≤ l.length := by
  cases r with
  | false => rw [rdNum_bad]; exact hp
  | true =>
    cases hf : frst (l.drop p) with
    | none => rw [rdNum_no hf]; exact hp
    | some k =>
      by_cases hk : k ≤ m
      · rw [rdNum_yes hf hk]
        obtain ⟨_, x, hx⟩ := frst_some hf
        have := drop_len hx.symm (dg_pos k)
        simp only
        omega
      · rw [rdNum_big hf hk]; exact hp
theorem rdUpto_pl {m : Int} {l : List UInt8} {p : Nat} {r : Bool} (hp : p ≤ l.length) : (rdUpto m l p r).2.1 ≤ l.length := by
  unfold rdUpto
  split
  · exact hp
  · exact rdNum_pl hp
theorem rdUpto_le {m : Nat} {l : List UInt8} {p : Nat} {r : Bool} : (rdUpto (m : Int) l p r).1 ≤ m := by
  unfold rdUpto
  split
  · exact Nat.zero_le _
  · exact rdNum_le
theorem rdText_pl {l : List UInt8} {p : Nat} {r : Bool} (hp : p ≤ l.length) : (rdText l p r).2.1 ≤ l.length ∧ (rdText l p r).1.length ≤ 65536 := by
  cases r with
  | false => rw [rdText_bad]; exact ⟨hp, by simp⟩
  | true =>
    cases hf : frst (l.drop p) with
    | none => rw [rdText_no hf]; exact ⟨hp, by simp⟩
    | some k =>
      by_cases hk : k ≤ 65536 ∧ p + (dg k).length + k ≤ l.length
      · rw [rdText_yes hf hk.1 hk.2]
        refine ⟨hk.2, ?_⟩
        simp only [List.length_take]
        omega
      · rw [rdText_big hf hk]; exact ⟨hp, by simp⟩
end Go.Proofs.YtefngncieagobaaDoor

/-
  What tx's functions must tell, and the law's small example.
-/
namespace Go.Proofs.YtefngncieagobaaDoor
open Go.RowKit

/-- A load of a whole transaction: kept whole. -/
noncomputable def loadTx (v : Value) (w : World) : Result Next := Sem.run Tryd.prog (execOp (fun _ => v) { dst := none, op := .load 23 (.tmp 0), type := 0, pos := "", after := #[], guard := none }) w
theorem exec_load_tx (r : Operand → Value) (x : Operand) (dst : Option Tmp) (ty : TypeId) (pos : String) (after : Array Edge) (guard : Option (Nat × Bool)) (w : World) :
    Sem.run Tryd.prog (execOp r { dst := dst, op := .load 23 x, type := ty, pos := pos, after := after, guard := guard }) w = loadTx (r x) w := rfl
theorem under_txs : Tryd.prog.underlying 23 = some (.struct (Tryd.prog.fieldsOf 23)) := by kernel_rfl
theorem loadTx_eq {w : World} {b : Nat} {C : Array Value} {T : TypeId} (h : w.heap[b]? = some (.cells C T (0, 0))) (hs : C.size = 7) : loadTx (.pointer (some ⟨b, 0, none⟩)) w = .ok (.value (.agg C)) w := by
  have := run_loadAt_mid (P := Tryd.prog) w b 0 23 C.toList _ (fun j v hj => by rw [Nat.zero_add, cell_blk h j]; simpa using hj) under_txs rfl (by rw [show (Tryd.prog.info? 23).map (·.size) = some 7 from by kernel_rfl]; simp [hs])
  simp only [Array.toArray_toList] at this
  unfold loadTx execOp
  simp only [Sem.run_bind, this, Result.andThen_ok, Sem.run_pure]

def lessT (a b : TxM) : Bool := decide (a.fr < b.fr) || (decide (a.fr = b.fr) && decide (a.no < b.no))
def lightT (t : TxM) : Prop := t.key.length ≤ 70000 ∧ t.val.length ≤ 70000
def putT (l : List UInt8) (t : TxM) : List UInt8 := if mayT t = true then l ++ bytesT t else l
def TxPutOk : Prop := ∀ (v : Value) (l : List UInt8) (t : TxM) (w : World), Byt w v l → l.length ≤ 1000000 → lightT t →
  Calls Tryd.prog 7 #[v, txv t] w fun e w' => ∃ x, e = .returned x ∧ Byt w' x (putT l t) ∧ Below w.heap.size w w'
def TxReadOk : Prop := ∀ (g : Nat) (l : List UInt8) (p : Nat) (r : Bool) (w : World), Rdr w g l p r → l.length ≤ 1000000 →
  Calls Tryd.prog 14 #[.pointer (some ⟨g, 0, none⟩)] w fun e w' => e = .returned (.tuple #[txv (rdTx l p r), .bool (rdIs l p r)]) ∧ (∃ p' r', Rdr w' g l p' r' ∧ (rdIs l p r = true → p' = (rdRaw l p r).2.1 ∧ r' = true)) ∧ w.grownBy w' (some g)

/-- The small example's transaction. -/
def exT : TxM := ⟨3, 1, 2, 0, 0, [97], []⟩
theorem exT_bytes : bytesT exT = [3, 1, 2, 1, 97, 0] := by decide +kernel
theorem exT_may : mayT exT = true := by decide +kernel
theorem exT_put : putT [] exT = [3, 1, 2, 1, 97, 0] := by unfold putT; rw [if_pos exT_may, exT_bytes]; rfl
theorem exT_read : rdIs [3, 1, 2, 1, 97, 0] 0 true = true ∧ rdTx [3, 1, 2, 1, 97, 0] 0 true = exT := by
  have h := rdTx_back (t := exT) (L := [3, 1, 2, 1, 97, 0]) (r := []) (p := 0) exT_may (by rw [exT_bytes]; rfl)
  exact ⟨h.1, h.2.1⟩

set_option maxHeartbeats 1600000 in
theorem txAwake_any (hPut : TxPutOk) (hRead : TxReadOk) (w : World) : Calls Tryd.prog 5 #[] w fun e w' => e = .returned (.bool true) ∧ Below w.heap.size w w' := by
  have HPT := hid hPut
  have HRD := hid hRead
  clear hPut hRead
  go_enter Tryd.func5, Tryd.ntmps5
  go_wp2_with fail
  have C := HPT.out (.slice none 0 0) [] exT w (Byt.nil w) (by decide) (by unfold lightT; decide)
  rw [exT_put] at C
  refine C.mono ?_
  clear C
  rintro e w1 ⟨v1, rfl, hb1, hw1⟩
  obtain ⟨A1, c1, rfl⟩ := hb1.shape
  go_wp2_with fail
  refine (read_any _ _ w1 hb1 (by decide)).mono ?_
  rintro e w2 ⟨g, rfl, hg, hr2, hw2⟩
  go_wp2_with fail
  have C := HRD.out g _ 0 true w2 hr2 (by decide)
  rw [exT_read.1, exT_read.2] at C
  refine C.mono ?_
  clear C
  rintro e w3 ⟨rfl, _, hw3⟩
  have hb3 : Below w.heap.size w w3 := (hw1.trans (hw2.mono hw1.size)).grown hw3 (Nat.le_trans hw1.size hw2.size) (fun k hk => by
    injection hk with hk
    have := hw1.size
    omega)
  have hex : txv exT = .agg #[.int .i64 3, .int .i64 1, .int .i64 2, .int .i64 0, .int .i64 0, .string (sb [97]), .string (sb [])] := rfl
  rw [hex]
  clear hex hb1 hw1 hw2 hr2 hg hw3
  go_wp2_with fail
  go_ret
  exact ⟨congrArg (fun b => Ending.returned (Value.bool b)) (show ((sb [97]).toList == [97]) = true by rw [sb_toList]; rfl), hb3.alloc hb3.size _⟩
end Go.Proofs.YtefngncieagobaaDoor

/-
  tx.account, tx.key, tx.ofKind, tx.Check, tx.Less: which transactions there may be, which is ahead.
-/
namespace Go.Proofs.YtefngncieagobaaDoor
open Go.RowKit

theorem account_any (n : Int) (w : World) : Calls Tryd.prog 19 #[.int .i64 n] w fun e w' => e = .returned (.bool (decide (1 ≤ n) && decide (n ≤ 40))) ∧ w = w' := by
  go_enter Tryd.func19, Tryd.ntmps19
  go_wp2_with fail
  all_goals
    go_ret
    refine ⟨congrArg (fun b => Ending.returned (Value.bool b)) ?_, rfl⟩
  all_goals grind

set_option maxHeartbeats 1600000 in
theorem key_any (l : List UInt8) (w : World) (hs : l.length ≤ 1000000) :
    Calls Tryd.prog 32 #[.string (sb l)] w fun e w' => e = .returned (.bool (keyOk l)) ∧ w = w' := by
  have hsz := sb_size l
  obtain ⟨L, HL⟩ : ∃ L : Nat, Hid (l.length = L) := ⟨_, hid rfl⟩
  rw [HL.out] at hsz hs
  obtain ⟨s, HS⟩ : ∃ s : ByteArray, Hid (sb l = s) := ⟨_, hid rfl⟩
  rw [HS.out] at hsz ⊢
  by_cases h1 : 1 ≤ L
  · by_cases h2 : L ≤ 16
    · have h1i : ¬ (L : Int) < 1 := by omega
      have h2i : ¬ (16 : Int) < (L : Int) := by omega
      go_enter Tryd.func32, Tryd.ntmps32
      go_wp2_with fail
      go_loop [15, 3, 4] (fun si _ _ => ∃ i : Nat, i ≤ L ∧ si = .int .i64 (i : Int) ∧ Hid (∀ j, j < i → keyB (l.getD j 0) = true)) (fun si _ _ => L - (intOf si).toNat)
      case atStart => exact ⟨0, Nat.zero_le _, rfl, hid (fun j hj => absurd hj (Nat.not_lt_zero _))⟩
      case round =>
        obtain ⟨i, hi, rfl, HD⟩ := hrel
        by_cases hlt : i < L
        · have hiL : (i : Int) < (L : Int) := by omega
          have hil : i < l.length := by rw [HL.out]; exact hlt
          obtain ⟨y, HY⟩ : ∃ y : Int, Hid (((l.getD i 0).toNat : Int) = y) := ⟨_, hid rfl⟩
          have i0 : ∀ w : World, (Instr.index 9 (.string s) (.int .i64 (i : Int))).run Tryd.prog w = .ok (.int .u8 y) w := fun w => by
            rw [← HS.out]
            exact str_index l i hil _ rfl HY.out w
          have hr : 0 ≤ y ∧ y ≤ 255 := by have := byte_lt (l.getD i 0); rw [HY.out] at this; exact this
          have HNO : ∀ (_ : keyB (l.getD i 0) = false), Hid (keyOk l = false) := fun h => hid (keyOk_no hil h)
          have HYES : ∀ (_ : keyB (l.getD i 0) = true), Hid (∀ j, j < i + 1 → keyB (l.getD j 0) = true) := fun h => hid (fun j hj => by
            rcases Nat.lt_or_ge j i with h2 | h2
            · exact HD.out j h2
            · obtain rfl : j = i := by omega
              exact h)
          obtain ⟨hk, g1, g2⟩ | ⟨hk, g1, g2, g3⟩ | ⟨hk, g1⟩ | ⟨hk, g1, g2⟩ | ⟨hk, g1⟩ := keyB_cases (l.getD i 0) y HY.out
          · have HY2 := HYES hk
            have k1 : ¬ y < 97 := by omega
            have k2 : ¬ 122 < y := by omega
            clear HNO HYES hk HD
            go_wp2_with fail
            go_round
            case rel => exact ⟨i + 1, by omega, by go_num, HY2⟩
            case measure => simp [intOf]; omega
          · have HY2 := HYES hk
            have k1 : y < 97 := by omega
            have k3 : ¬ y < 48 := by omega
            have k4 : ¬ 57 < y := by omega
            clear HNO HYES hk HD
            go_wp2_with fail
            go_round
            case rel => exact ⟨i + 1, by omega, by go_num, HY2⟩
            case measure => simp [intOf]; omega
          · have HN2 := HNO hk
            clear HNO HYES hk HD
            have k1 : ¬ y < 97 := by omega
            have k2 : 122 < y := by omega
            have k3 : ¬ y < 48 := by omega
            have k4 : 57 < y := by omega
            go_wp2_with fail
            go_ret
            exact ⟨by rw [HN2.out]; rfl, rfl⟩
          · have HN2 := HNO hk
            clear HNO HYES hk HD
            have k1 : y < 97 := by omega
            have k3 : ¬ y < 48 := by omega
            go_wp2_with fail
            go_ret
            exact ⟨by rw [HN2.out]; rfl, rfl⟩
          · have HN2 := HNO hk
            clear HNO HYES hk HD
            have k1 : y < 97 := by omega
            go_wp2_with fail
            go_ret
            exact ⟨by rw [HN2.out]; rfl, rfl⟩
        · have hiL : ¬ (i : Int) < (L : Int) := by omega
          obtain rfl : i = L := by omega
          have HK := hid (keyOk_yes (l := l) (by rw [HL.out]; exact HD.out))
          clear HD
          go_wp2_with fail
          go_ret
          exact ⟨by rw [HK.out, HL.out, decide_eq_true h1, decide_eq_true h2]; rfl, rfl⟩
    · have h1i : ¬ (L : Int) < 1 := by omega
      have h2i : (16 : Int) < (L : Int) := by omega
      have HN : Hid (keyOk l = false) := hid (by unfold keyOk; rw [HL.out, decide_eq_false h2, Bool.and_false, Bool.and_false])
      go_enter Tryd.func32, Tryd.ntmps32
      go_wp2_with fail
      go_ret
      exact ⟨by rw [HN.out]; rfl, rfl⟩
  · have h1i : (L : Int) < 1 := by omega
    have HN : Hid (keyOk l = false) := hid (by unfold keyOk; rw [HL.out, decide_eq_false h1, Bool.false_and, Bool.and_false])
    go_enter Tryd.func32, Tryd.ntmps32
    go_wp2_with fail
    go_ret
    exact ⟨by rw [HN.out]; rfl, rfl⟩

/-- What a kind names, and nothing else. -/
def kindT (t : TxM) : Bool :=
  if t.ki = 1 then decide (1 ≤ t.to) && decide (t.to ≤ 40) && decide (0 ≤ t.am) && decide (t.am ≤ 1099511627776) && decide (t.key = []) && decide (t.val = []) else
  if t.ki = 2 then decide (t.to = 0) && decide (t.am = 0) && keyOk t.key && decide (t.val.length ≤ 200) else
  if t.ki = 3 then decide (t.to = 0) && decide (t.am = 0) && keyOk t.key && decide (t.val = []) else false

set_option maxHeartbeats 6400000 in
theorem ofKind_any (t : TxM) (w : World) (hk : t.key.length ≤ 1000000) (hv : t.val.length ≤ 1000000) :
    Calls Tryd.prog 20 #[txv t] w fun e w' => e = .returned (.bool (kindT t)) ∧ Below w.heap.size w w' := by
  obtain ⟨fr, no, ki, to, am, key, val⟩ := t
  simp only at hk hv
  have HK := hid hk
  have hvs := sb_size val
  have hke := sb_empty key
  have hve := sb_empty val
  clear hk hv
  unfold txv
  simp only
  obtain ⟨s, HS⟩ : ∃ s : ByteArray, Hid (sb key = s) := ⟨_, hid rfl⟩
  obtain ⟨u, HU⟩ : ∃ s : ByteArray, Hid (sb val = s) := ⟨_, hid rfl⟩
  obtain ⟨n, HN⟩ : ∃ n : Nat, Hid (val.length = n) := ⟨_, hid rfl⟩
  rw [HS.out] at hke ⊢
  rw [HU.out] at hve hvs ⊢
  rw [HN.out] at hvs
  obtain ⟨m, HM⟩ : ∃ m : Bool, Hid (kindT ⟨fr, no, ki, to, am, key, val⟩ = m) := ⟨_, hid rfl⟩
  rw [HM.out]
  obtain ⟨ke, HKE⟩ : ∃ b : Bool, Hid (decide (key = []) = b) := ⟨_, hid rfl⟩
  obtain ⟨ve, HVE⟩ : ∃ b : Bool, Hid (decide (val = []) = b) := ⟨_, hid rfl⟩
  rw [HKE.out] at hke
  rw [HVE.out] at hve
  go_enter Tryd.func20, Tryd.ntmps20
  go_wp2_with fail
  all_goals first
    | (have C := fun w => key_any key w HK.out
       rw [HS.out] at C
       refine (C _).mono ?_
       clear C
       rintro e w1 ⟨rfl, rfl⟩
       obtain ⟨ko, HKO⟩ : ∃ b : Bool, Hid (keyOk key = b) := ⟨_, hid rfl⟩
       rw [HKO.out]
       have hko := HKO.out
       go_wp2_with fail)
    | (refine (account_any to _).mono ?_
       rintro e w1 ⟨rfl, rfl⟩
       obtain ⟨ao, HAO⟩ : ∃ b : Bool, Hid ((decide (1 ≤ to) && decide (to ≤ 40)) = b) := ⟨_, hid rfl⟩
       rw [HAO.out]
       have hao := HAO.out
       go_wp2_with fail)
    | skip
  all_goals
    go_ret
    refine ⟨?_, (Below.refl _ _).alloc (Nat.le_refl _) _⟩
    refine congrArg (fun b => Ending.returned (Value.bool b)) ?_
    rw [← HM.out]
    clear HM HS HU HK
    unfold kindT
    simp only [HKE.out, HVE.out, HN.out]
  all_goals grind

end Go.Proofs.YtefngncieagobaaDoor

/-
  'append(b, make([]byte, k)...)' onto a row of the call's own: as laws for the walk.
-/
namespace Go.Proofs.YtefngncieagobaaDoor
open Go.RowKit

theorem zeros_cells (v : Value) (n : Nat) : Builtin.zeroCells #[v] n = (List.replicate n v).toArray := by
  apply Array.ext
  · simp [Builtin.zeroCells]
  · intro i h1 h2
    simp [Builtin.zeroCells, Nat.mod_one]
theorem bcells_zeros (n : Nat) : bcells (List.replicate n 0) = List.replicate n (.int .u8 0) := by
  simp [bcells, bcell]
theorem wrap0 : IntKind.i64.wrap 0 = 0 := rfl
theorem under_int : Tryd.prog.underlying 3 = some (.int .i64) := by kernel_rfl

theorem run_append_zeros_byt {w : World} {B : Nat} {v : Value} {l : List UInt8} (k : Nat) (ty : TypeId) (hv : Own B w v l) (hs : l.length + k ≤ 140737488355328) (hB : B ≤ w.heap.size) :
    ∃ v' w', (Builtin.append_ #[24, 3] ty #[v, .int .i64 (k : Int)]).run Tryd.prog w = .ok v' w' ∧ Own B w' v' (l ++ List.replicate k 0) ∧ w.grownBy w' v.ownBlock ∧ (v'.ownBlock = v.ownBlock ∨ v'.ownBlock = some w.heap.size) := by
  obtain ⟨i0, hi, hz0, hz1, hz2⟩ := info_parts info_u8
  have hlk : (l ++ List.replicate k 0).length = l.length + k := by simp
  have hw : IntKind.i64.wrap (k : Int) = k := by rw [IntKind.wrap_i64]; omega
  have hneg : ¬ ((k : Int) < 0) := by omega
  have h48k : ¬ (281474976710656 < (k : Int)) := by omega
  have fresh : ∀ (old k : Nat) {l : List UInt8}, l.length + k ≤ 140737488355328 → 0 < k → ∀ row : Option Nat,
      Own B (w.drew.alloc (.cells ((bcells l).toArray ++ Builtin.zeroCells (Value.int IntKind.u8 0).cells k ++ Builtin.zeroCells (Value.int IntKind.u8 0).cells (grownCap w (l.length + k) old 5 - (l.length + k))) 5)) (.slice (some ⟨w.heap.size, 0, none⟩) (l.length + k) (grownCap w (l.length + k) old 5)) (l ++ List.replicate k 0) ∧
      w.grownBy (w.drew.alloc (.cells ((bcells l).toArray ++ Builtin.zeroCells (Value.int IntKind.u8 0).cells k ++ Builtin.zeroCells (Value.int IntKind.u8 0).cells (grownCap w (l.length + k) old 5 - (l.length + k))) 5)) row := by
    intro old k l hlk2 hk row
    have hge := grownCap_ge w (l.length + k) old 5
    have hcm : grownCap w (l.length + k) old 5 ≤ maxLen := grownCap_le_maxLen w (l.length + k) old 5 (by unfold maxLen; omega)
    have hz : (Value.int IntKind.u8 0).cells = #[.int .u8 0] := rfl
    have hl2 : (l ++ List.replicate k 0 : List UInt8).length = l.length + k := by simp
    refine ⟨⟨by rw [bcells_length, Nat.mul_one], .inr ⟨w.heap.size, _, _, by rw [hl2], hB, heap_alloc_new w.drew _, by rw [hl2]; exact hge, hcm, ?_, ?_⟩⟩, ⟨rfl, rfl, rfl, by simp, fun q hq _ => Below.heap_alloc w.drew _ q hq⟩⟩
    · rw [hz, zeros_cells, zeros_cells]
      simp [bcells]
      omega
    · rw [hz, zeros_cells, zeros_cells, hl2, bcells_append, bcells_zeros]
      simp only [Array.toList_append, Nat.mul_one]
      apply List.take_left'
      simp [bcells]
  rcases hv.2 with ⟨rfl, h0⟩ | ⟨g, cap, cur, rfl, hbg, hg, hnc, hcm, hcs, htake⟩
  · have hl : l = [] := List.eq_nil_of_length_eq_zero h0
    subst hl
    by_cases hk : k = 0
    · subst hk
      refine ⟨.slice none 0 0, w, ?_, Own.nil B w, World.grownBy.refl w _, .inl rfl⟩
      simp [Builtin.append_, run_underlying under_bytes, run_underlying under_int, sizeOf, typeInfo, hi, asInt, asIntOf, wrap0]
    · have hr := Lib.run_append_nil_zeros (P := Tryd.prog) w 24 3 ty 5 i0 (.int .u8 0) .i64 .i64 under_bytes under_int hi hz0 k (by omega) (by omega) (by omega) (by rw [hz2]; omega)
      obtain ⟨h1, h2⟩ := fresh 0 k (by simp; omega) (by omega) (Value.slice none 0 0).ownBlock (l := [])
      have e : (bcells ([] : List UInt8)).toArray = #[] := rfl
      rw [e] at h1 h2
      simp only [List.length_nil, Nat.zero_add, Array.empty_append] at h1 h2
      exact ⟨_, _, hr, h1, h2, .inr rfl⟩
  · by_cases hk : k = 0
    · subst hk
      refine ⟨_, w, ?_, by rw [List.replicate_zero, List.append_nil]; exact hv, World.grownBy.refl w _, .inl rfl⟩
      simp [Builtin.append_, run_underlying under_bytes, run_underlying under_int, sizeOf, typeInfo, hi, asInt, asIntOf, wrap0, hnc, storeCells]
    · by_cases hroom : l.length + k ≤ cap
      · have hfit : l.length + 0 + (List.replicate k (Value.int IntKind.u8 0)).length ≤ cur.size := by
          rw [List.length_replicate, hcs]
          omega
        have hst := run_storeCells_at Tryd.prog g l.length 5 (List.replicate k (Value.int IntKind.u8 0)) 0 cur w hg hfit (fun u hu => by rw [List.eq_of_mem_replicate hu]; rfl)
        simp only [Nat.add_zero] at hst
        rw [List.length_replicate] at hst
        obtain ⟨N, hN⟩ : ∃ N : Array Value, (cur.toList.take l.length ++ List.replicate k (Value.int IntKind.u8 0) ++ cur.toList.drop (l.length + k)).toArray = N := ⟨_, rfl⟩
        rw [hN] at hst
        have hrun : (Builtin.append_ #[24, 3] ty #[.slice (some ⟨g, 0, none⟩) l.length cap, .int .i64 (k : Int)]).run Tryd.prog w = .ok (.slice (some ⟨g, 0, none⟩) (l.length + k) cap) (w.setRow g N) := by
          simp [Builtin.append_, run_underlying under_bytes, run_underlying under_int, sizeOf, typeInfo, zeroValue, hi, hz0, hz1, hz2, asInt, asIntOf, hw, hneg, hk, h48k, hroom, Value.cells, zeros_cells, Addr.add_lit, hst]
        refine ⟨_, _, hrun, ⟨by rw [bcells_length, Nat.mul_one], .inr ⟨g, cap, N, by rw [hlk], hbg, setRow_heap w g cur N 5 _ hg, by rw [hlk]; exact hroom, hcm, ?_, ?_⟩⟩, ⟨rfl, rfl, rfl, by simp, fun q _ hq => setRow_other w g q _ (fun e => hq (by simp [Value.ownBlock, e]))⟩, .inl rfl⟩
        · rw [← hN]
          simp
          omega
        · have ht : cur.toList.take l.length = bcells l := by rw [← htake, Nat.mul_one]
          rw [← hN, hlk, bcells_append, bcells_zeros, ht]
          simp only [Nat.mul_one]
          apply List.take_left'
          simp [bcells]
      · have hold : (Builtin.firstCells i0.size l.length (.slice (some ⟨g, 0, none⟩) l.length cap)).run Tryd.prog w.drew = .ok (bcells l).toArray w.drew := by
          rw [hz1]
          exact run_firstCells_some (P := Tryd.prog) w.drew 1 l.length ⟨g, 0, none⟩ l.length cap (bcells l) (by simp [bcells]) (fun j u hu => World.ownsRow.cells hv (g := g) rfl j u hu)
        have hr := Lib.run_append_grow_zeros (P := Tryd.prog) w 24 3 ty 5 i0 (.int .u8 0) .i64 .i64 under_bytes under_int hi hz0 (some ⟨g, 0, none⟩) l.length cap (bcells l) hold k (by omega) (by omega) (by omega) (by omega) (by rw [hz2]; omega) (by rw [hz2]; exact growslice_fits (by omega) (by omega))
        obtain ⟨h1, h2⟩ := fresh cap k (by omega) (by omega) (Value.slice (some ⟨g, 0, none⟩) l.length cap).ownBlock (l := l)
        exact ⟨_, _, hr, h1, h2, .inr rfl⟩

theorem step_append_zeros {ops : Array Oper} {o : Oper} {a : Act} {K : Act → World → Prop} {Q : Exit → Act → World → Prop} {E : Prop} {w : World} (hgd : o.guard = none) (s y : Operand)
    (ho : o.op = .call { callee := .builtin .append, args := #[s, y], argTypes := #[24, 3] })
    {B : Nat} {v : Value} {l : List UInt8} {k : Nat} (hes : a.eval s = v) (hey : a.eval y = .int .i64 (k : Int)) (hv : Own B w v l) (hs : l.length + k ≤ 140737488355328) (hB : B ≤ w.heap.size)
    (h : ∀ v' w', Own B w' v' (l ++ List.replicate k 0) → w.grownBy w' v.ownBlock → (v'.ownBlock = v.ownBlock ∨ v'.ownBlock = some w.heap.size) → K (a.put o.dst v') w') :
    if Region.wanted o (yielded ops a.tmps) = true then Oper.wp Tryd.prog o a w K Q else E := by
  have hw : Region.wanted o (yielded ops a.tmps) = true := by simp [Region.wanted, hgd]
  rw [if_pos hw]
  obtain ⟨v', w', hrun, h2, h3, h4⟩ := run_append_zeros_byt k o.type hv hs hB
  exact Lib.wp_append_run w s y _ _ ho _ _ hes hey v' w' hrun (h v' w' h2 h3 h4)
end Go.Proofs.YtefngncieagobaaDoor

/-
  slices.Grow of nothing, slices.Concat of bytes: the parts' bytes, one behind the other, in a row of their own.
-/
namespace Go.Proofs.YtefngncieagobaaDoor
open Go.RowKit

theorem own_none {B : Nat} {w : World} {v : Value} {l : List UInt8} (h : Own B w v l) (A : Option Addr) (n c : Nat) (e : v = .slice A n c) : Own B w (.slice A 0 c) [] := by
  subst e
  refine ⟨rfl, ?_⟩
  rcases h.2 with ⟨e, _⟩ | ⟨g, cap, cur, e, hg, hh, hn, hm, hs, ht⟩
  · cases e
    exact .inl ⟨rfl, rfl⟩
  · cases e
    exact .inr ⟨g, c, cur, rfl, hg, hh, Nat.zero_le _, hm, hs, by simp [bcells]⟩

theorem wpList_append_zeros {ops : Array Oper} {rest : List Oper} {o : Oper} {a : Act} {Q : Exit → Act → World → Prop} {w : World} (hgd : o.guard = none) (s y : Operand)
    (ho : o.op = .call { callee := .builtin .append, args := #[s, y], argTypes := #[24, 3] })
    {B : Nat} {v : Value} {l : List UInt8} {k : Nat} (hes : a.eval s = v) (hey : a.eval y = .int .i64 (k : Int)) (hv : Own B w v l) (hs : l.length + k ≤ 140737488355328) (hB : B ≤ w.heap.size)
    (h : ∀ A c w', Own B w' (.slice A (l.length + k) c) (l ++ List.replicate k 0) → w.grownBy w' v.ownBlock → wpList Tryd.prog ops Q rest (a.put o.dst (.slice A (l.length + k) c)) w') :
    wpList Tryd.prog ops Q (o :: rest) a w := by
  obtain ⟨v', w', hrun, h2, h3, _⟩ := run_append_zeros_byt k o.type hv hs hB
  obtain ⟨A, c, rfl⟩ := h2.byt.shape
  have e : (l ++ List.replicate k (0 : UInt8)).length = l.length + k := by simp
  rw [e] at h2 hrun
  exact wpList_plain hgd fun _ hK => Lib.wp_append_run w s y _ _ ho _ _ hes hey _ w' hrun (hK _ _ (h A c w' h2 h3))

set_option maxHeartbeats 1600000 in
theorem grow_any (n : Nat) (w : World) (hn : n ≤ 140737488355328) :
    Calls Tryd.prog 29 #[.slice none 0 0, .int .i64 (n : Int)] w fun e w' => ∃ v, e = .returned v ∧ Own w.heap.size w' v [] ∧ Below w.heap.size w w' := by
  by_cases h0 : n = 0
  · subst h0
    go_enter Tryd.func29, Tryd.ntmps29
    go_wp2_with fail
    go_ret
    exact ⟨_, rfl, Own.nil _ _, Below.refl _ _⟩
  · have h1 : (0 : Int) < (n : Int) := by omega
    have h2 : ¬ (n : Int) < 0 := by omega
    have hn2 : ([] : List UInt8).length + n ≤ 140737488355328 := by simpa using hn
    go_enter Tryd.func29, Tryd.ntmps29
    go_wp2_with (at_builtin; refine wpList_append_zeros rfl (.tmp 20) (.tmp 21) rfl rfl rfl (Own.nil w.heap.size w) hn2 (Nat.le_refl _) ?_; intro A1 c1 w1 ho1 hg1; have hm1 := ho1.byt.at_.2.2.1; unfold maxLen at hm1)
    go_ret
    exact ⟨_, rfl, own_none ho1 _ _ _ rfl, (Below.refl _ _).grown hg1 (Nat.le_refl _) (fun k hk => by cases hk)⟩

set_option maxHeartbeats 1600000 in
theorem concat_any (ls : List (List UInt8)) (vs : Nat → Value) (g n c : Nat) (w : World) (hn : ls.length = n) (hg : g < w.heap.size) (hc : ∀ j, j < n → w.cell? ⟨g, j, none⟩ = some (vs j))
    (hv : ∀ j (h : j < ls.length), Byt w (vs j) ls[j]) (hs : ls.flatten.length ≤ 1099511627776) (hn2 : n ≤ 1000) :
    Calls Tryd.prog 17 #[.slice (some ⟨g, 0, none⟩) n c] w fun e w' => ∃ v, e = .returned v ∧ Own w.heap.size w' v ls.flatten ∧ Below w.heap.size w w' := by
  go_enter Tryd.func17, Tryd.ntmps17
  have Hn := hid hn
  clear hn
  go_wp2
  go_loop [3, 11] (fun sz ix => ∃ k : Nat, k ≤ n ∧ ix = .int .i64 k ∧ sz = .int .i64 (tot ls k)) (fun _ ix => n - (intOf ix).toNat)
  case atStart => exact ⟨0, Nat.zero_le _, rfl, by rw [tot_zero]; rfl⟩
  case round =>
    obtain ⟨k, hk, rfl, rfl⟩ := hrel
    have htk := tot_le ls k
    by_cases hlt : k < n
    · have hlt' : k < ls.length := by rw [Hn.out]; exact hlt
      have hck := hc k hlt
      obtain ⟨A, cp, hvk, _⟩ := hv k hlt'
      have hts := tot_succ ls k hlt'
      have htk1 := tot_le ls (k + 1)
      have hb : tot ls k + ls[k].length ≤ 1099511627776 := by omega
      have hnn : ¬ ((tot ls k : Int) + (ls[k].length : Int) < 0) := by omega
      rw [hvk] at hck
      have HT := hid hts
      clear hts hvk hc hv
      go_wp2
      go_round
      case rel => exact ⟨k + 1, by omega, by go_num, by rw [HT.out]; go_num⟩
      case measure => simp [intOf]; omega
    · obtain rfl : k = n := by omega
      have hb3 : tot ls k ≤ 140737488355328 := by omega
      go_wp2_with fail
      refine (grow_any _ w hb3).mono ?_
      rintro e w0 ⟨v0, rfl, hv0, hb0⟩
      go_wp2
      go_loopw [6, 27] (fun out ix wr => ∃ j : Nat, j ≤ k ∧ ix = .int .i64 j ∧ Own w.heap.size wr out (ls.take j).flatten ∧ Below w.heap.size w wr) (fun _ ix _ => k - (intOf ix).toNat)
      case atStart => exact ⟨0, Nat.zero_le _, rfl, by simpa using hv0, hb0⟩
      case round =>
        obtain ⟨j, hj, rfl, hown, hbw⟩ := hrel
        by_cases hlt2 : j < k
        · have hlt' : j < ls.length := by rw [Hn.out]; exact hlt2
          have hcj : wr.cell? ⟨g, j, none⟩ = some (vs j) := (hbw.cell (p := ⟨g, j, none⟩) hg).trans (hc j hlt2)
          have hvj := (hv j hlt').below hbw
          have hsum : (ls.take j).flatten.length + ls[j].length ≤ 140737488355328 := by
            have := tot_succ ls j hlt'
            have := tot_le ls (j + 1)
            unfold tot at *
            omega
          have hbs := hbw.size
          go_wp2_with (at_builtin; refine wpList_append_byt rfl (.tmp 31) (.tmp 32) rfl rfl rfl hown hvj hsum hbs ?_; intro v1 w1 hown1 hg1 _)
          have hfl : (ls.take j).flatten ++ ls[j] = (ls.take (j + 1)).flatten := take_flat ls j hlt'
          have hb1 : Below w.heap.size w w1 := hbw.grown hg1 hbs (fun k hk => (World.ownsRow.lt hown k hk).1)
          rw [hfl] at hown1
          clear hfl hg1
          go_roundw
          case rel => exact ⟨j + 1, by omega, by go_num, hown1, hb1⟩
          case measure => simp [intOf]; omega
        · obtain rfl : j = k := by omega
          go_wp2
          go_ret
          refine ⟨_, rfl, ?_, hbw⟩
          have e : ls.take j = ls := by rw [← Hn.out]; exact List.take_length
          rw [e] at hown
          exact hown

theorem concat1 (u : Value) (l : List UInt8) (g c : Nat) (w : World) (hg : g < w.heap.size) (c0 : w.cell? ⟨g, 0, none⟩ = some u) (hu : Byt w u l) (hs : l.length ≤ 1099511627776) :
    Calls Tryd.prog 17 #[.slice (some ⟨g, 0, none⟩) 1 c] w fun e w' => ∃ v, e = .returned v ∧ Own w.heap.size w' v l ∧ Below w.heap.size w w' := by
  have h := concat_any [l] (fun _ => u) g 1 c w rfl hg (fun j hj => by
    match j, hj with
    | 0, _ => exact c0) (fun j hj => by
    match j, hj with
    | 0, _ => exact hu) (by simpa using hs) (by omega)
  simpa using h
theorem concat2 (u v : Value) (l m : List UInt8) (g c : Nat) (w : World) (hg : g < w.heap.size) (c0 : w.cell? ⟨g, 0, none⟩ = some u) (c1 : w.cell? ⟨g, 1, none⟩ = some v) (hu : Byt w u l) (hv : Byt w v m) (hs : l.length + m.length ≤ 1099511627776) :
    Calls Tryd.prog 17 #[.slice (some ⟨g, 0, none⟩) 2 c] w fun e w' => ∃ x, e = .returned x ∧ Own w.heap.size w' x (l ++ m) ∧ Below w.heap.size w w' := by
  have h := concat_any [l, m] (fun j => if j = 0 then u else v) g 2 c w rfl hg (fun j hj => by
    match j, hj with
    | 0, _ => exact c0
    | 1, _ => exact c1) (fun j hj => by
    match j, hj with
    | 0, _ => exact hu
    | 1, _ => exact hv) (by simpa using hs) (by omega)
  simpa using h
end Go.Proofs.YtefngncieagobaaDoor

/-
  A text's bytes in new memory: the conversion of a string. No function of the program.
-/
namespace Go.Proofs.YtefngncieagobaaDoor
open Go.RowKit

theorem al_le (w : World) (o : Obj) : w.heap.size ≤ (w.alloc o).heap.size := by simp
/-- An empty row in a new block. -/
theorem fresh0_own (w : World) : Own w.heap.size (w.alloc (.cells #[] 5)) (.slice (some ⟨w.heap.size, 0, none⟩) 0 0) [] := World.ownsRow_made w #[] 0 (Nat.le_refl _) (Nat.zero_le _) rfl
theorem fresh0_below {w w2 : World} (hg : (w.alloc (.cells #[] 5)).grownBy w2 (Value.slice (some ⟨w.heap.size, 0, none⟩) 0 0).ownBlock) : Below w.heap.size w w2 :=
  ((Below.refl _ _).alloc (Nat.le_refl _) _).grown hg (by simp) (fun k hk => (World.ownsRow.lt (fresh0_own w) k hk).1)
theorem run_bs (l : List UInt8) (w : World) (hl : l.length ≤ maxLen) : ∃ v w', (convert 9 24 (.string (sb l))).run Tryd.prog w = .ok v w' ∧ Byt w' v l ∧ Below w.heap.size w w' := by
  refine ⟨_, _, run_bytes_of_string w 9 24 5 (sb l) under_string under_bytes (by kernel_rfl), ?_, ((Below.refl _ _).drew).alloc (Nat.le_refl _) _⟩
  rw [sb_size]
  refine ⟨_, _, rfl, grownCap_ge _ _ _ _, grownCap_le_maxLen _ _ _ _ hl, fun h0 => ⟨w.heap.size, 0, rfl, by simp, fun j hj => ?_⟩⟩
  have hb := heap_alloc_new w.drew (.cells (bytesRow (sb l) (grownCap w l.length 0 5)) 5 ((bytesRow (sb l) (grownCap w l.length 0 5)).size, (bytesRow (sb l) (grownCap w l.length 0 5)).size + 1))
  rw [Nat.zero_add]
  refine (cell_of_row _ _ _ _ _ _ hb).trans ?_
  unfold bytesRow
  rw [Array.getElem?_append_left (by simp [sb]; exact hj)]
  simp [sb, hj, bcell]
end Go.Proofs.YtefngncieagobaaDoor
