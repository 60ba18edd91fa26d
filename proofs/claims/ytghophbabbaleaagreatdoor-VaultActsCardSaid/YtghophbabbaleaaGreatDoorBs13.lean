/-
  Concat AtCodePut SeCodePut: what each of them says stands at its head.
-/
import Derived.Test.YtghophbabbaleaaGreatDoorBs11
namespace Go.Proofs.YtghophbabbaleaaGreatDoor
set_option maxRecDepth 20000
open Go.RowKit
theorem own_none {B : Nat} {w : World} {v : Value} {l : List UInt8} (h : Own B w v l) (A : Option Addr) (n c : Nat) (e : v = .slice A n c) : Own B w (.slice A 0 c) [] := by
  subst e
  refine ⟨rfl, ?_⟩
  rcases h.2 with ⟨e, _⟩ | ⟨g, cap, cur, e, hg, hh, hn, hm, hs, ht⟩
  · cases e
    exact .inl ⟨rfl, rfl⟩
  · cases e
    exact .inr ⟨g, c, cur, rfl, hg, hh, Nat.zero_le _, hm, hs, by simp [bcells]⟩
theorem wpList_append_zeros {ops : Array Oper} {rest : List Oper} {o : Oper} {a : Act} {Q : Exit → Act → World → Prop} {w : World} (hgd : o.guard = none) (s y : Operand)
    (ho : o.op = .call { callee := .builtin .append, args := #[s, y], argTypes := #[29, 3] })
    {B : Nat} {v : Value} {l : List UInt8} {k : Nat} (hes : a.eval s = v) (hey : a.eval y = .int .i64 (k : Int)) (hv : Own B w v l) (hs : l.length + k ≤ 140737488355328) (hB : B ≤ w.heap.size)
    (h : ∀ A c w', Own B w' (.slice A (l.length + k) c) (l ++ List.replicate k 0) → w.grownBy w' v.ownBlock → wpList Tryz.prog ops Q rest (a.put o.dst (.slice A (l.length + k) c)) w') :
    wpList Tryz.prog ops Q (o :: rest) a w := by
  obtain ⟨v', w', hrun, h2, h3, _⟩ := run_append_zeros_byt k o.type hv hs hB
  obtain ⟨A, c, rfl⟩ := h2.byt.shape
  have e : (l ++ List.replicate k (0 : UInt8)).length = l.length + k := by simp
  rw [e] at h2 hrun
  exact wpList_plain hgd fun _ hK => Lib.wp_append_run w s y _ _ ho _ _ hes hey _ w' hrun (hK _ _ (h A c w' h2 h3))
set_option maxHeartbeats 1600000 in
theorem grow_any (n : Nat) (w : World) (hn : n ≤ 140737488355328) :
    Calls Tryz.prog 120 #[.slice none 0 0, .int .i64 (n : Int)] w fun e w' => ∃ v, e = .returned v ∧ Own w.heap.size w' v [] ∧ Below w.heap.size w w' := by
  by_cases h0 : n = 0
  · subst h0
    go_enter Tryz.func120, Tryz.ntmps120
    go_wp2_with fail
    go_ret
    exact ⟨_, rfl, Own.nil _ _, Below.refl _ _⟩
  · have h1 : (0 : Int) < (n : Int) := by omega
    have h2 : ¬ (n : Int) < 0 := by omega
    have hn2 : ([] : List UInt8).length + n ≤ 140737488355328 := by simpa using hn
    go_enter Tryz.func120, Tryz.ntmps120
    go_wp2_with (at_builtin; refine wpList_append_zeros rfl (.tmp 20) (.tmp 21) rfl rfl rfl (Own.nil w.heap.size w) hn2 (Nat.le_refl _) ?_; intro A1 c1 w1 ho1 hg1; have hm1 := ho1.byt.at_.2.2.1; unfold maxLen at hm1)
    go_ret
    exact ⟨_, rfl, own_none ho1 _ _ _ rfl, (Below.refl _ _).grown hg1 (Nat.le_refl _) (fun k hk => by cases hk)⟩
set_option maxHeartbeats 1600000 in
theorem concat_any (ls : List (List UInt8)) (vs : Nat → Value) (g n c : Nat) (w : World) (hn : ls.length = n) (hg : g < w.heap.size) (hc : ∀ j, j < n → w.cell? ⟨g, j, none⟩ = some (vs j))
    (hv : ∀ j (h : j < ls.length), Byt w (vs j) ls[j]) (hs : ls.flatten.length ≤ 1099511627776) (hn2 : n ≤ 1000) :
    Calls Tryz.prog 75 #[.slice (some ⟨g, 0, none⟩) n c] w fun e w' => ∃ v, e = .returned v ∧ Own w.heap.size w' v ls.flatten ∧ Below w.heap.size w w' := by
  go_enter Tryz.func75, Tryz.ntmps75
  have Hn := hid hn
  clear hn
  go_wp2
  go_loop [3, 11] (fun sz ix => ∃ k : Nat, k ≤ n ∧ ix = .int .i64 k ∧ sz = .int .i64 (tot ls k)) (fun _ ix => n - (intOf ix).toNat)
  case atStart => exact ⟨0, Nat.zero_le _, rfl, by rw [tot_zero]; rfl⟩
  case round =>
    obtain ⟨k, hk, rfl, rfl⟩ := hrel
    have htk := tot_le ls k
    by_cases hlt : k < n
    · have hlt' : k < ls.length := by rw [Hn.out]; exact hlt
      have hck := hc k hlt
      obtain ⟨A, cp, hvk, _⟩ := hv k hlt'
      have hts := tot_succ ls k hlt'
      have htk1 := tot_le ls (k + 1)
      have hb : tot ls k + ls[k].length ≤ 1099511627776 := by omega
      have hnn : ¬ ((tot ls k : Int) + (ls[k].length : Int) < 0) := by omega
      rw [hvk] at hck
      have HT := hid hts
      clear hts hvk hc hv
      go_wp2
      go_round
      case rel => exact ⟨k + 1, by omega, by go_num, by rw [HT.out]; go_num⟩
      case measure => simp [intOf]; omega
    · obtain rfl : k = n := by omega
      have hb3 : tot ls k ≤ 140737488355328 := by omega
      go_wp2_with fail
      refine (grow_any _ w hb3).mono ?_
      rintro e w0 ⟨v0, rfl, hv0, hb0⟩
      go_wp2
      go_loopw [6, 27] (fun out ix wr => ∃ j : Nat, j ≤ k ∧ ix = .int .i64 j ∧ Own w.heap.size wr out (ls.take j).flatten ∧ Below w.heap.size w wr) (fun _ ix _ => k - (intOf ix).toNat)
      case atStart => exact ⟨0, Nat.zero_le _, rfl, by simpa using hv0, hb0⟩
      case round =>
        obtain ⟨j, hj, rfl, hown, hbw⟩ := hrel
        by_cases hlt2 : j < k
        · have hlt' : j < ls.length := by rw [Hn.out]; exact hlt2
          have hcj : wr.cell? ⟨g, j, none⟩ = some (vs j) := (hbw.cell (p := ⟨g, j, none⟩) hg).trans (hc j hlt2)
          have hvj := (hv j hlt').below hbw
          have hsum : (ls.take j).flatten.length + ls[j].length ≤ 140737488355328 := by
            have := tot_succ ls j hlt'
            have := tot_le ls (j + 1)
            unfold tot at *
            omega
          have hbs := hbw.size
          go_wp2_with (at_builtin; refine wpList_append_byt rfl (.tmp 31) (.tmp 32) rfl rfl rfl hown hvj hsum hbs ?_; intro v1 w1 hown1 hg1 _)
          have hfl : (ls.take j).flatten ++ ls[j] = (ls.take (j + 1)).flatten := take_flat ls j hlt'
          have hb1 : Below w.heap.size w w1 := hbw.grown hg1 hbs (fun k hk => (World.ownsRow.lt hown k hk).1)
          rw [hfl] at hown1
          clear hfl hg1
          go_roundw
          case rel => exact ⟨j + 1, by omega, by go_num, hown1, hb1⟩
          case measure => simp [intOf]; omega
        · obtain rfl : j = k := by omega
          go_wp2
          go_ret
          refine ⟨_, rfl, ?_, hbw⟩
          have e : ls.take j = ls := by rw [← Hn.out]; exact List.take_length
          rw [e] at hown
          exact hown
theorem concat2 (u v : Value) (l m : List UInt8) (g c : Nat) (w : World) (hg : g < w.heap.size) (c0 : w.cell? ⟨g, 0, none⟩ = some u) (c1 : w.cell? ⟨g, 1, none⟩ = some v) (hu : Byt w u l) (hv : Byt w v m) (hs : l.length + m.length ≤ 1099511627776) :
    Calls Tryz.prog 75 #[.slice (some ⟨g, 0, none⟩) 2 c] w fun e w' => ∃ x, e = .returned x ∧ Own w.heap.size w' x (l ++ m) ∧ Below w.heap.size w w' := by
  have h := concat_any [l, m] (fun j => if j = 0 then u else v) g 2 c w rfl hg (fun j hj => by
    match j, hj with
    | 0, _ => exact c0
    | 1, _ => exact c1) (fun j hj => by
    match j, hj with
    | 0, _ => exact hu
    | 1, _ => exact hv) (by simpa using hs) (by omega)
  simpa using h
end Go.Proofs.YtghophbabbaleaaGreatDoor
namespace Go.Proofs.YtghophbabbaleaaGreatDoor
set_option maxRecDepth 20000
open Go.RowKit
attribute [local go_sem ↓] exec_load_att
theorem byt_range {w : World} {g o n : Nat} {l : List UInt8} (h : w.rangeAt g o (bcells l)) (hg : g < w.heap.size) (hn : l.length = n) (hm : n ≤ maxLen) : Byt w (.slice (some ⟨g, o, none⟩) n n) l := by
  subst hn
  refine ⟨_, _, rfl, Nat.le_refl _, hm, fun _ => ⟨g, o, rfl, hg, fun j hj => ?_⟩⟩
  exact h j _ (by simp [bcells, hj])
end Go.Proofs.YtghophbabbaleaaGreatDoor
namespace Go.Proofs.YtghophbabbaleaaGreatDoor
set_option maxRecDepth 20000
open Go.RowKit
attribute [local go_sem ↓] exec_load_se
def SePutOwn : Prop := ∀ (i n : Int) (s : SeM) (w : World), (Lit.int .i64 i).wf = true → (Lit.int .i64 n).wf = true → s.Ok → Kst 1 w →
  Calls Tryz.prog 42 #[.int .i64 i, .int .i64 n, .agg (sec s)] w fun e w' => ∃ x, e = .returned (.tuple #[x, .int .i64 (if putOkS i n s = true then 0 else 1)]) ∧ Own w.heap.size w' x (if putOkS i n s = true then blobS i n s else []) ∧ Below w.heap.size w w'
set_option maxHeartbeats 3200000 in
theorem sePut_own : SePutOwn := by
  intro i n s w hi hn ho hK
  have hb0 : Below w.heap.size w (w.alloc (.cells (sec s) 40)) := (Below.refl _ _).alloc (Nat.le_refl _) _
  have hA := BoxSe.new w s
  obtain ⟨C, HC⟩ : ∃ C : Array Value, Hid (sec s = C) := ⟨_, hid rfl⟩
  obtain ⟨m, HM⟩ : ∃ q : Bool, Hid (mayS s = q) := ⟨_, hid rfl⟩
  obtain ⟨nd, HND⟩ : ∃ q : Bool, Hid (nodeB i = q) := ⟨_, hid rfl⟩
  obtain ⟨vs, HVS⟩ : ∃ q : Bool, Hid (versB n = q) := ⟨_, hid rfl⟩
  obtain ⟨L, HL⟩ : ∃ x : List UInt8, Hid (taggedS n s = x) := ⟨_, hid rfl⟩
  obtain ⟨T, HT⟩ : ∃ x : List UInt8, Hid (tagS i n s = x) := ⟨_, hid rfl⟩
  obtain ⟨er, HER⟩ : ∃ x : Int, Hid ((if putOkS i n s = true then (0 : Int) else 1) = x) := ⟨_, hid rfl⟩
  obtain ⟨OL, HOL⟩ : ∃ x : List UInt8, Hid ((if putOkS i n s = true then blobS i n s else []) = x) := ⟨_, hid rfl⟩
  have HP : Hid (putOkS i n s = (nd && (vs && m))) := hid (by rw [← HND.out, ← HVS.out, ← HM.out]; rfl)
  have HTL : Hid (T.length = 32) := hid (by rw [← HT.out]; exact tagS_len i n s)
  have HCK : Hid (∀ W, Calls Tryz.prog 40 #[.agg C] W fun e w' => e = .returned (.int .i64 (if m = true then 0 else 1)) ∧ Below W.heap.size W w') := hid (fun W => by
    have := seCheck_ok s W ho
    rw [HM.out, HC.out] at this
    exact this)
  have HLL : Hid (vs = true → m = true → L.length ≤ 72) := hid (fun h1 h2 => by rw [← HL.out]; exact taggedS_len ho (HVS.out.trans h1) (HM.out.trans h2))
  have HTD : Hid (vs = true → m = true → ∀ W, Calls Tryz.prog 73 #[.int .i64 n, .agg C] W fun e w' => ∃ x, e = .returned x ∧ Own W.heap.size w' x L ∧ Below W.heap.size W w') := hid (fun h1 h2 W => by
    have := setagged_any n s W ho (HVS.out.trans h1) (HM.out.trans h2)
    rw [HL.out, HC.out] at this
    exact this)
  have HTG : Hid (∀ v gp c W, Below w.heap.size w W → gp < W.heap.size → W.cell? ⟨gp, 0, none⟩ = some v → Byt W v L → L.length ≤ 1000000 → Calls Tryz.prog 74 #[.int .i64 i, .int .u8 3, .slice (some ⟨gp, 0, none⟩) 1 c] W fun e w' => e = .returned (.agg (hcells T)) ∧ Below W.heap.size W w') := hid (fun v gp c W h h1 h2 h3 h4 => by
    have := tag_one i 3 v L gp c W h1 h2 h3 h4 (hK.below h)
    rw [← HT.out]
    unfold tagS
    rw [HL.out]
    exact this)
  have HOY : Hid (nd = true → vs = true → m = true → OL = L ++ T) := hid (fun h1 h2 h3 => by
    rw [← HOL.out, HP.out, h1, h2, h3]
    show blobS i n s = _
    unfold blobS
    rw [HL.out, HT.out])
  have HLD0 := hid (fun (W : World) (h : BoxSe W w.heap.size s) => loadSe_eq h ho)
  rw [HC.out] at HLD0 hb0 hA ⊢
  rw [HER.out, HOL.out]
  clear hi hn hK ho
  go_enter Tryz.func42, Tryz.ntmps42
  go_upto_region 1 with (fail)
  generalize (w.alloc (.cells C 40)) = w0 at *
  have HLD : Hid (∀ W, Below w0.heap.size w0 W → loadSe (.pointer (some ⟨w.heap.size, 0, none⟩)) W = .ok (.value (.agg C)) W) := hid (fun W h => HLD0.out W (hA.keep h))
  have HB0 := hid hb0
  have l0 := HLD.out w0 (Below.refl _ _)
  clear hA hb0 HLD0
  go_wp2_with fail
  refine (HCK.out w0).mono ?_
  rintro e w1 ⟨rfl, hb1⟩
  have HB1 := hid hb1
  clear l0 hb1
  cases m with
  | false =>
    obtain rfl : er = 1 := by rw [← HER.out, HP.out]; cases nd <;> cases vs <;> rfl
    obtain rfl : OL = [] := by rw [← HOL.out, HP.out]; cases nd <;> cases vs <;> rfl
    simp only [Bool.false_eq_true, if_false]
    go_wp2_with fail
    go_ret2
    exact ⟨_, rfl, Own.nil _ _, HB0.out.trans (HB1.out.mono HB0.out.size)⟩
  | true =>
    have HTD1 := hid (fun h => HTD.out h rfl)
    have HLL1 := hid (fun h => HLL.out h rfl)
    have HOY1 := hid (fun h1 h2 => HOY.out h1 h2 rfl)
    simp only [if_true]
    go_wp2_with fail
    refine (node_any i w1).mono ?_
    rintro e w2 ⟨rfl, rfl⟩
    rw [HND.out]
    cases nd with
    | false =>
      obtain rfl : er = 1 := by rw [← HER.out, HP.out]; rfl
      obtain rfl : OL = [] := by rw [← HOL.out, HP.out]; rfl
      go_wp2_with fail
      go_ret2
      exact ⟨_, rfl, Own.nil _ _, HB0.out.trans (HB1.out.mono HB0.out.size)⟩
    | true =>
      have HOY2 := hid (fun h2 => HOY1.out rfl h2)
      go_wp2_with fail
      refine (seVers_any n w1).mono ?_
      rintro e w2 ⟨rfl, rfl⟩
      rw [HVS.out]
      cases vs with
      | false =>
        obtain rfl : er = 1 := by rw [← HER.out, HP.out]; rfl
        obtain rfl : OL = [] := by rw [← HOL.out, HP.out]; rfl
        go_wp2_with fail
        go_ret2
        exact ⟨_, rfl, Own.nil _ _, HB0.out.trans (HB1.out.mono HB0.out.size)⟩
      | true =>
        obtain rfl : er = 0 := by rw [← HER.out, HP.out]; rfl
        obtain rfl : OL = L ++ T := HOY2.out rfl
        have l1 := HLD.out w1 HB1.out
        have HL72 := hid (HLL1.out rfl)
        have HTD2 := hid (HTD1.out rfl)
        go_wp2_with fail
        refine (HTD2.out w1).mono ?_
        rintro e w3 ⟨v3, rfl, ho3, hb3'⟩
        have hb3 := HB1.out.trans (hb3'.mono HB1.out.size)
        have hv3 := ho3.byt
        obtain ⟨A3, c3, rfl⟩ := hv3.shape
        obtain ⟨n3, HN3⟩ : ∃ k : Nat, Hid (L.length = k) := ⟨_, hid rfl⟩
        rw [HN3.out] at hv3 ⊢
        have hb4 : Below w0.heap.size w0 (w3.alloc (.cells #[.slice A3 n3 c3] 29)) := hb3.alloc hb3.size _
        have hv4 := hv3.alloc (.cells #[.slice A3 n3 c3] 29)
        clear l1 ho3 hb3'
        go_wp2_with fail
        refine (HTG.out (.slice A3 n3 c3) w3.heap.size 1 (w3.alloc (.cells #[.slice A3 n3 c3] 29)) (HB0.out.trans (hb4.mono HB0.out.size)) (by simp) (alloc_cell0 _ _ _) hv4 (by have := HL72.out; omega)).mono ?_
        rintro e w5 ⟨rfl, hb5'⟩
        have hb5 := hb4.trans (hb5'.mono hb4.size)
        have hv5 := hv4.below hb5'
        have hr5 := heap_alloc_new w5 (.cells (hcells nought) 38)
        obtain ⟨TC, HTC⟩ : ∃ x : Array Value, Hid (hcells T = x) := ⟨_, hid rfl⟩
        rw [HTC.out]
        clear hb3 hv3 hb4 hv4 hb5'
        go_upto_region 5 with (first
          | (refine wpList_alloc_hash rfl rfl ?_)
          | (refine wpList_store_hash (h' := T) rfl _ _ rfl rfl (by rw [HTC.out]; rfl) hr5 nought_length HTL.out ?_; intro w7 hg7 hr7 hs7; have hb57 : Below w5.heap.size w5 w7 := below_into ((Below.refl _ _).alloc (Nat.le_refl _) _) (Nat.le_refl _) hg7 (al_le _ _); have hb7 := hb5.trans (hb57.mono hb5.size); have hv7 := hv5.below hb57))
        clear hb57 hv5 hr5 hb5
        obtain ⟨gt, HGT⟩ : ∃ g : Nat, Hid (w5.heap.size = g) := ⟨_, hid rfl⟩
        rw [HGT.out] at hr7 ⊢
        have hlt7 := lt_of_block hr7.out
        have hy7 : Byt w7 (.slice (some ⟨gt, 0, none⟩) 32 32) T := byt_range (fun j u hu => by rw [Nat.zero_add, cell_blk hr7.out j]; simpa [hcells] using hu) hlt7 HTL.out (by unfold maxLen; omega)
        have HY7 := hid hy7
        have HV7 := hid hv7
        have HB7 := hid hb7
        clear hg7 hs7 hr7 hy7 hv7 hb7
        go_wp2_with fail
        refine (concat2 (.slice A3 n3 c3) (.slice (some ⟨gt, 0, none⟩) 32 32) L T w7.heap.size 2 (w7.alloc (.cells #[.slice A3 n3 c3, .slice (some ⟨gt, 0, none⟩) 32 32] 29)) (by simp) (by simp) (by simp) (HV7.out.alloc _) (HY7.out.alloc _) (by have := HL72.out; have := HTL.out; omega)).mono ?_
        rintro e w8 ⟨v8, rfl, ho8, hb8'⟩
        have hb8 := (HB7.out.alloc HB7.out.size (.cells #[.slice A3 n3 c3, .slice (some ⟨gt, 0, none⟩) 32 32] 29)).trans (hb8'.mono (by have := HB7.out.size; simp; omega))
        go_wp2_with fail
        go_ret2
        exact ⟨_, rfl, ho8.more (by have := HB7.out.size; have := HB0.out.size; simp; omega), HB0.out.trans (hb8.mono HB0.out.size)⟩
theorem sePut_ok : SePutOk := fun i n s w hi hn ho hK => (sePut_own i n s w hi hn ho hK).mono fun _ _ ⟨x, he, hx, hb⟩ => ⟨x, he, hx.byt, hb⟩
end Go.Proofs.YtghophbabbaleaaGreatDoor
