/-
  SeEq SeArg Concat AtCodePut: what each of them says stands at its head.
-/
import Derived.Test.YtifkkpfiejiojaaDoorBs9
namespace Go.Proofs.YtifkkpfiejiojaaDoor
set_option maxRecDepth 20000
open Go.RowKit
theorem fields_se : (Tryd.prog.fieldsOf 25).toList.map (fun f => (f.type, f.offset, f.name == "_")) =
    [(3, 0, false), (3, 1, false), (3, 2, false), (23, 3, false)] := by kernel_rfl
set_option maxHeartbeats 1600000 in
theorem eq_se (a b : SeM) (ho : a.Ok) (hp : b.Ok) (w : World) : (Op.equalIn 10000 25 (.agg (sec a)) (.agg (sec b))).run Tryd.prog w = .ok (decide (a = b)) w := by
  have K : ∀ c : SeM, c.Ok → (sec c)[0]? = some (.int .i64 c.vi) ∧ (sec c)[1]? = some (.int .i64 c.ph) ∧ (sec c)[2]? = some (.int .i64 c.pv) ∧ ((sec c).toList.drop 3).take 32 = bcells c.pa := by
    intro c hc
    refine ⟨rfl, rfl, rfl, ?_⟩
    exact drop_at (pre := [.int .i64 c.vi, .int .i64 c.ph, .int .i64 c.pv]) (m := bcells c.pa) (post := []) (by show sel c = _; rw [List.append_nil]; rfl) rfl (by rw [bcells_length]; exact hc)
  obtain ⟨a0, a1, a2, a3⟩ := K a ho
  obtain ⟨b0, b1, b2, b3⟩ := K b hp
  have EI : ∀ x y : Int, (Op.equalIn 9999 3 (.int .i64 x) (.int .i64 y)).run Tryd.prog w = .ok (x == y) w := fun x y => run_equalIn_int (P := Tryd.prog) w 9998 3 .i64 .i64 x y under_att_int
  rw [run_equalIn_struct w 9999 _ _ _ under_se (by kernel_rfl), eqF_of, fields_se]
  rw [eqF_step (part_att_int a0) (part_att_int b0) (EI _ _), eqF_step (part_att_int a1) (part_att_int b1) (EI _ _), eqF_step (part_att_int a2) (part_att_int b2) (EI _ _), eqF_step (part_att_hash a3) (part_att_hash b3) (eq_hash_at 9997 _ _ ho hp w)]
  obtain ⟨p1, p2, p3, p4⟩ := a
  obtain ⟨q1, q2, q3, q4⟩ := b
  simp only [eqF, Sem.run_pure, SeM.mk.injEq, beq_iff_eq, decide_eq_true_eq]
  (repeat' split) <;> simp_all
noncomputable def eqSe (u v : Value) (w : World) : Result Next := Sem.run Tryd.prog (execOp (fun x => match x with
  | .tmp 0 => u
  | _ => v) { dst := none, op := .binOp .eql 25 (.tmp 0) (.tmp 1) 25, type := 0, pos := "", after := #[], guard := none }) w
theorem exec_eq_se (r : Operand → Value) (i j : Tmp) (dst : Option Tmp) (ty : TypeId) (pos : String) (after : Array Edge) (guard : Option (Nat × Bool)) (w : World) :
    Sem.run Tryd.prog (execOp r { dst := dst, op := .binOp .eql 25 (.tmp i) (.tmp j) 25, type := ty, pos := pos, after := after, guard := guard }) w = eqSe (r (.tmp i)) (r (.tmp j)) w := rfl
theorem eqSe_eq (a b : SeM) (ho : a.Ok) (hp : b.Ok) (w : World) : eqSe (.agg (sec a)) (.agg (sec b)) w = .ok (.value (.bool (decide (a = b)))) w := by
  have heq := fun W => eq_se a b ho hp W
  obtain ⟨q, HQ⟩ : ∃ q : Bool, Hid (decide (a = b) = q) := ⟨_, hid rfl⟩
  obtain ⟨C, HC⟩ : ∃ C : Array Value, Hid (sec a = C) := ⟨_, hid rfl⟩
  obtain ⟨D, HD⟩ : ∃ C : Array Value, Hid (sec b = C) := ⟨_, hid rfl⟩
  rw [HQ.out, HC.out, HD.out] at heq
  rw [HQ.out, HC.out, HD.out]
  unfold eqSe
  go_simp
end Go.Proofs.YtifkkpfiejiojaaDoor
namespace Go.Proofs.YtifkkpfiejiojaaDoor
set_option maxRecDepth 20000
open Go.ChangeShapes Go.WideShapes Go.ChangeAt Go.RowKit Go.Deep
def se2c (a b : SeM) : Array Value := (sel a ++ sel b).toArray
theorem under_se2 : Tryd.prog.underlying 26 = some (.array 2 25) := by kernel_rfl
section
variable {H : Type} {enc : TypeId × Value → H} {w : World} {base : Nat} {spare : Nat → Bool} {held : Bool} {fuel : Nat} {cs : List Value} {x : DataW H × List MemPlace}
theorem fields_se4 : ∃ f0 f1 f2 f3 : Field, Tryd.prog.underlying 25 = some (.struct #[f0, f1, f2, f3]) ∧ (f0.type, f0.offset) = (3, 0) ∧ (f1.type, f1.offset) = (3, 1) ∧ (f2.type, f2.offset) = (3, 2) ∧ (f3.type, f3.offset) = (23, 3) :=
  ⟨_, _, _, _, Tryd.underlying25, rfl, rfl, rfl, rfl⟩
theorem trod_se (h : DataW.trod enc Tryd.prog w base spare held fuel 25 cs = some x) : ∃ a : SeM, a.Ok ∧ cs = sel a := by
  obtain ⟨f0, f1, f2, f3, hu, e0, e1, e2, e3⟩ := fields_se4
  injection e0 with t0 o0
  injection e1 with t1 o1
  injection e2 with t2 o2
  injection e3 with t3 o3
  obtain ⟨xs, m, _, _, hlen, hxl, hf⟩ := DataW.trod_struct hu h
  have hc : Tryd.prog.cellsOf 25 = 35 := by kernel_rfl
  have hci : Tryd.prog.cellsOf 3 = 1 := by kernel_rfl
  have hch : Tryd.prog.cellsOf 23 = 32 := by kernel_rfl
  rw [hc] at hlen
  have hx : xs.length = 4 := hxl
  have g0 := hf 0 f0 rfl
  have g1 := hf 1 f1 rfl
  have g2 := hf 2 f2 rfl
  have g3 := hf 3 f3 rfl
  rw [t0, o0, hci, List.getElem?_eq_getElem (by omega)] at g0
  rw [t1, o1, hci, List.getElem?_eq_getElem (by omega)] at g1
  rw [t2, o2, hci, List.getElem?_eq_getElem (by omega)] at g2
  rw [t3, o3, hch, List.getElem?_eq_getElem (by omega)] at g3
  obtain ⟨n0, c0, _, _⟩ := DataW.trod_int Tryd.underlying3 g0
  obtain ⟨n1, c1, _, _⟩ := DataW.trod_int Tryd.underlying3 g1
  obtain ⟨n2, c2, _, _⟩ := DataW.trod_int Tryd.underlying3 g2
  obtain ⟨pa, h3, c3⟩ := trod_hash g3
  refine ⟨⟨n0, n1, n2, pa⟩, h3, ?_⟩
  have e : cs = cs.drop 0 := rfl
  rw [e, drop_part c0, drop_part c1, drop_part c2, drop_part c3, List.drop_eq_nil_of_le (by omega)]
  unfold sel
  simp only [List.append_nil, List.cons_append, List.nil_append]
theorem trod_se2 (h : DataW.trod enc Tryd.prog w base spare held fuel 26 cs = some x) : ∃ a b : SeM, (a.Ok ∧ b.Ok) ∧ cs = (se2c a b).toList := by
  obtain ⟨xs, m, _, _, hl, hn, hel⟩ := DataW.trod_array under_se2 h
  have hct : Tryd.prog.cellsOf 26 = 70 := by kernel_rfl
  have hce : Tryd.prog.cellsOf 25 = 35 := by kernel_rfl
  rw [hct] at hl
  have g0 := hel 0 (by omega)
  have g1 := hel 1 (by omega)
  rw [hce, List.getElem?_eq_getElem (by omega)] at g0 g1
  obtain ⟨a, oa, e0⟩ := trod_se g0
  obtain ⟨b, ob, e1⟩ := trod_se g1
  refine ⟨a, b, ⟨oa, ob⟩, ?_⟩
  have e : cs = cs.drop (0 * 35) := rfl
  rw [e, drop_part e0, show 0 * 35 + 35 = 1 * 35 from rfl, drop_part e1, List.drop_eq_nil_of_le (by omega)]
  unfold se2c
  simp only [List.append_nil]
end
end Go.Proofs.YtifkkpfiejiojaaDoor
namespace Go.Proofs.YtifkkpfiejiojaaDoor
set_option maxRecDepth 20000
open Go.RowKit
theorem own_none {B : Nat} {w : World} {v : Value} {l : List UInt8} (h : Own B w v l) (A : Option Addr) (n c : Nat) (e : v = .slice A n c) : Own B w (.slice A 0 c) [] := by
  subst e
  refine ⟨rfl, ?_⟩
  rcases h.2 with ⟨e, _⟩ | ⟨g, cap, cur, e, hg, hh, hn, hm, hs, ht⟩
  · cases e
    exact .inl ⟨rfl, rfl⟩
  · cases e
    exact .inr ⟨g, c, cur, rfl, hg, hh, Nat.zero_le _, hm, hs, by simp [bcells]⟩
theorem wpList_append_zeros {ops : Array Oper} {rest : List Oper} {o : Oper} {a : Act} {Q : Exit → Act → World → Prop} {w : World} (hgd : o.guard = none) (s y : Operand)
    (ho : o.op = .call { callee := .builtin .append, args := #[s, y], argTypes := #[27, 3] })
    {B : Nat} {v : Value} {l : List UInt8} {k : Nat} (hes : a.eval s = v) (hey : a.eval y = .int .i64 (k : Int)) (hv : Own B w v l) (hs : l.length + k ≤ 140737488355328) (hB : B ≤ w.heap.size)
    (h : ∀ A c w', Own B w' (.slice A (l.length + k) c) (l ++ List.replicate k 0) → w.grownBy w' v.ownBlock → wpList Tryd.prog ops Q rest (a.put o.dst (.slice A (l.length + k) c)) w') :
    wpList Tryd.prog ops Q (o :: rest) a w := by
  obtain ⟨v', w', hrun, h2, h3, _⟩ := run_append_zeros_byt k o.type hv hs hB
  obtain ⟨A, c, rfl⟩ := h2.byt.shape
  have e : (l ++ List.replicate k (0 : UInt8)).length = l.length + k := by simp
  rw [e] at h2 hrun
  exact wpList_plain hgd fun _ hK => Lib.wp_append_run w s y _ _ ho _ _ hes hey _ w' hrun (hK _ _ (h A c w' h2 h3))
set_option maxHeartbeats 1600000 in
theorem grow_any (n : Nat) (w : World) (hn : n ≤ 140737488355328) :
    Calls Tryd.prog 36 #[.slice none 0 0, .int .i64 (n : Int)] w fun e w' => ∃ v, e = .returned v ∧ Own w.heap.size w' v [] ∧ Below w.heap.size w w' := by
  by_cases h0 : n = 0
  · subst h0
    go_enter Tryd.func36, Tryd.ntmps36
    go_wp2_with fail
    go_ret
    exact ⟨_, rfl, Own.nil _ _, Below.refl _ _⟩
  · have h1 : (0 : Int) < (n : Int) := by omega
    have h2 : ¬ (n : Int) < 0 := by omega
    have hn2 : ([] : List UInt8).length + n ≤ 140737488355328 := by simpa using hn
    go_enter Tryd.func36, Tryd.ntmps36
    go_wp2_with (at_builtin; refine wpList_append_zeros rfl (.tmp 20) (.tmp 21) rfl rfl rfl (Own.nil w.heap.size w) hn2 (Nat.le_refl _) ?_; intro A1 c1 w1 ho1 hg1; have hm1 := ho1.byt.at_.2.2.1; unfold maxLen at hm1)
    go_ret
    exact ⟨_, rfl, own_none ho1 _ _ _ rfl, (Below.refl _ _).grown hg1 (Nat.le_refl _) (fun k hk => by cases hk)⟩
set_option maxHeartbeats 1600000 in
theorem concat_any (ls : List (List UInt8)) (vs : Nat → Value) (g n c : Nat) (w : World) (hn : ls.length = n) (hg : g < w.heap.size) (hc : ∀ j, j < n → w.cell? ⟨g, j, none⟩ = some (vs j))
    (hv : ∀ j (h : j < ls.length), Byt w (vs j) ls[j]) (hs : ls.flatten.length ≤ 1099511627776) (hn2 : n ≤ 1000) :
    Calls Tryd.prog 19 #[.slice (some ⟨g, 0, none⟩) n c] w fun e w' => ∃ v, e = .returned v ∧ Own w.heap.size w' v ls.flatten ∧ Below w.heap.size w w' := by
  go_enter Tryd.func19, Tryd.ntmps19
  have Hn := hid hn
  clear hn
  go_wp2
  go_loop [3, 11] (fun sz ix => ∃ k : Nat, k ≤ n ∧ ix = .int .i64 k ∧ sz = .int .i64 (tot ls k)) (fun _ ix => n - (intOf ix).toNat)
  case atStart => exact ⟨0, Nat.zero_le _, rfl, by rw [tot_zero]; rfl⟩
  case round =>
    obtain ⟨k, hk, rfl, rfl⟩ := hrel
    have htk := tot_le ls k
    by_cases hlt : k < n
    · have hlt' : k < ls.length := by rw [Hn.out]; exact hlt
      have hck := hc k hlt
      obtain ⟨A, cp, hvk, _⟩ := hv k hlt'
      have hts := tot_succ ls k hlt'
      have htk1 := tot_le ls (k + 1)
      have hb : tot ls k + ls[k].length ≤ 1099511627776 := by omega
      have hnn : ¬ ((tot ls k : Int) + (ls[k].length : Int) < 0) := by omega
      rw [hvk] at hck
      have HT := hid hts
      clear hts hvk hc hv
      go_wp2
      go_round
      case rel => exact ⟨k + 1, by omega, by go_num, by rw [HT.out]; go_num⟩
      case measure => simp [intOf]; omega
    · obtain rfl : k = n := by omega
      have hb3 : tot ls k ≤ 140737488355328 := by omega
      go_wp2_with fail
      refine (grow_any _ w hb3).mono ?_
      rintro e w0 ⟨v0, rfl, hv0, hb0⟩
      go_wp2
      go_loopw [6, 27] (fun out ix wr => ∃ j : Nat, j ≤ k ∧ ix = .int .i64 j ∧ Own w.heap.size wr out (ls.take j).flatten ∧ Below w.heap.size w wr) (fun _ ix _ => k - (intOf ix).toNat)
      case atStart => exact ⟨0, Nat.zero_le _, rfl, by simpa using hv0, hb0⟩
      case round =>
        obtain ⟨j, hj, rfl, hown, hbw⟩ := hrel
        by_cases hlt2 : j < k
        · have hlt' : j < ls.length := by rw [Hn.out]; exact hlt2
          have hcj : wr.cell? ⟨g, j, none⟩ = some (vs j) := (hbw.cell (p := ⟨g, j, none⟩) hg).trans (hc j hlt2)
          have hvj := (hv j hlt').below hbw
          have hsum : (ls.take j).flatten.length + ls[j].length ≤ 140737488355328 := by
            have := tot_succ ls j hlt'
            have := tot_le ls (j + 1)
            unfold tot at *
            omega
          have hbs := hbw.size
          go_wp2_with (at_builtin; refine wpList_append_byt rfl (.tmp 31) (.tmp 32) rfl rfl rfl hown hvj hsum hbs ?_; intro v1 w1 hown1 hg1 _)
          have hfl : (ls.take j).flatten ++ ls[j] = (ls.take (j + 1)).flatten := take_flat ls j hlt'
          have hb1 : Below w.heap.size w w1 := hbw.grown hg1 hbs (fun k hk => (World.ownsRow.lt hown k hk).1)
          rw [hfl] at hown1
          clear hfl hg1
          go_roundw
          case rel => exact ⟨j + 1, by omega, by go_num, hown1, hb1⟩
          case measure => simp [intOf]; omega
        · obtain rfl : j = k := by omega
          go_wp2
          go_ret
          refine ⟨_, rfl, ?_, hbw⟩
          have e : ls.take j = ls := by rw [← Hn.out]; exact List.take_length
          rw [e] at hown
          exact hown
theorem concat2 (u v : Value) (l m : List UInt8) (g c : Nat) (w : World) (hg : g < w.heap.size) (c0 : w.cell? ⟨g, 0, none⟩ = some u) (c1 : w.cell? ⟨g, 1, none⟩ = some v) (hu : Byt w u l) (hv : Byt w v m) (hs : l.length + m.length ≤ 1099511627776) :
    Calls Tryd.prog 19 #[.slice (some ⟨g, 0, none⟩) 2 c] w fun e w' => ∃ x, e = .returned x ∧ Own w.heap.size w' x (l ++ m) ∧ Below w.heap.size w w' := by
  have h := concat_any [l, m] (fun j => if j = 0 then u else v) g 2 c w rfl hg (fun j hj => by
    match j, hj with
    | 0, _ => exact c0
    | 1, _ => exact c1) (fun j hj => by
    match j, hj with
    | 0, _ => exact hu
    | 1, _ => exact hv) (by simpa using hs) (by omega)
  simpa using h
end Go.Proofs.YtifkkpfiejiojaaDoor
namespace Go.Proofs.YtifkkpfiejiojaaDoor
set_option maxRecDepth 20000
open Go.RowKit
theorem byt_range {w : World} {g o n : Nat} {l : List UInt8} (h : w.rangeAt g o (bcells l)) (hg : g < w.heap.size) (hn : l.length = n) (hm : n ≤ maxLen) : Byt w (.slice (some ⟨g, o, none⟩) n n) l := by
  subst hn
  refine ⟨_, _, rfl, Nat.le_refl _, hm, fun _ => ⟨g, o, rfl, hg, fun j hj => ?_⟩⟩
  exact h j _ (by simp [bcells, hj])
end Go.Proofs.YtifkkpfiejiojaaDoor
