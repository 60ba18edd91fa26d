/-
  Concat TxPutsWalk TxCodePut: what each of them says stands at its head.
-/
import Derived.Test.YtghophbabbaleaaGreatDoorCs6
namespace Go.Proofs.YtghophbabbaleaaGreatDoor
set_option maxRecDepth 20000
open Go.RowKit
theorem own_none {B : Nat} {w : World} {v : Value} {l : List UInt8} (h : Own B w v l) (A : Option Addr) (n c : Nat) (e : v = .slice A n c) : Own B w (.slice A 0 c) [] := by
  subst e
  refine ⟨rfl, ?_⟩
  rcases h.2 with ⟨e, _⟩ | ⟨g, cap, cur, e, hg, hh, hn, hm, hs, ht⟩
  · cases e
    exact .inl ⟨rfl, rfl⟩
  · cases e
    exact .inr ⟨g, c, cur, rfl, hg, hh, Nat.zero_le _, hm, hs, by simp [bcells]⟩
theorem wpList_append_zeros {ops : Array Oper} {rest : List Oper} {o : Oper} {a : Act} {Q : Exit → Act → World → Prop} {w : World} (hgd : o.guard = none) (s y : Operand)
    (ho : o.op = .call { callee := .builtin .append, args := #[s, y], argTypes := #[29, 3] })
    {B : Nat} {v : Value} {l : List UInt8} {k : Nat} (hes : a.eval s = v) (hey : a.eval y = .int .i64 (k : Int)) (hv : Own B w v l) (hs : l.length + k ≤ 140737488355328) (hB : B ≤ w.heap.size)
    (h : ∀ A c w', Own B w' (.slice A (l.length + k) c) (l ++ List.replicate k 0) → w.grownBy w' v.ownBlock → wpList Tryz.prog ops Q rest (a.put o.dst (.slice A (l.length + k) c)) w') :
    wpList Tryz.prog ops Q (o :: rest) a w := by
  obtain ⟨v', w', hrun, h2, h3, _⟩ := run_append_zeros_byt k o.type hv hs hB
  obtain ⟨A, c, rfl⟩ := h2.byt.shape
  have e : (l ++ List.replicate k (0 : UInt8)).length = l.length + k := by simp
  rw [e] at h2 hrun
  exact wpList_plain hgd fun _ hK => Lib.wp_append_run w s y _ _ ho _ _ hes hey _ w' hrun (hK _ _ (h A c w' h2 h3))
set_option maxHeartbeats 1600000 in
theorem grow_any (n : Nat) (w : World) (hn : n ≤ 140737488355328) :
    Calls Tryz.prog 120 #[.slice none 0 0, .int .i64 (n : Int)] w fun e w' => ∃ v, e = .returned v ∧ Own w.heap.size w' v [] ∧ Below w.heap.size w w' := by
  by_cases h0 : n = 0
  · subst h0
    go_enter Tryz.func120, Tryz.ntmps120
    go_wp2_with fail
    go_ret
    exact ⟨_, rfl, Own.nil _ _, Below.refl _ _⟩
  · have h1 : (0 : Int) < (n : Int) := by omega
    have h2 : ¬ (n : Int) < 0 := by omega
    have hn2 : ([] : List UInt8).length + n ≤ 140737488355328 := by simpa using hn
    go_enter Tryz.func120, Tryz.ntmps120
    go_wp2_with (at_builtin; refine wpList_append_zeros rfl (.tmp 20) (.tmp 21) rfl rfl rfl (Own.nil w.heap.size w) hn2 (Nat.le_refl _) ?_; intro A1 c1 w1 ho1 hg1; have hm1 := ho1.byt.at_.2.2.1; unfold maxLen at hm1)
    go_ret
    exact ⟨_, rfl, own_none ho1 _ _ _ rfl, (Below.refl _ _).grown hg1 (Nat.le_refl _) (fun k hk => by cases hk)⟩
set_option maxHeartbeats 1600000 in
theorem concat_any (ls : List (List UInt8)) (vs : Nat → Value) (g n c : Nat) (w : World) (hn : ls.length = n) (hg : g < w.heap.size) (hc : ∀ j, j < n → w.cell? ⟨g, j, none⟩ = some (vs j))
    (hv : ∀ j (h : j < ls.length), Byt w (vs j) ls[j]) (hs : ls.flatten.length ≤ 1099511627776) (hn2 : n ≤ 1000) :
    Calls Tryz.prog 75 #[.slice (some ⟨g, 0, none⟩) n c] w fun e w' => ∃ v, e = .returned v ∧ Own w.heap.size w' v ls.flatten ∧ Below w.heap.size w w' := by
  go_enter Tryz.func75, Tryz.ntmps75
  have Hn := hid hn
  clear hn
  go_wp2
  go_loop [3, 11] (fun sz ix => ∃ k : Nat, k ≤ n ∧ ix = .int .i64 k ∧ sz = .int .i64 (tot ls k)) (fun _ ix => n - (intOf ix).toNat)
  case atStart => exact ⟨0, Nat.zero_le _, rfl, by rw [tot_zero]; rfl⟩
  case round =>
    obtain ⟨k, hk, rfl, rfl⟩ := hrel
    have htk := tot_le ls k
    by_cases hlt : k < n
    · have hlt' : k < ls.length := by rw [Hn.out]; exact hlt
      have hck := hc k hlt
      obtain ⟨A, cp, hvk, _⟩ := hv k hlt'
      have hts := tot_succ ls k hlt'
      have htk1 := tot_le ls (k + 1)
      have hb : tot ls k + ls[k].length ≤ 1099511627776 := by omega
      have hnn : ¬ ((tot ls k : Int) + (ls[k].length : Int) < 0) := by omega
      rw [hvk] at hck
      have HT := hid hts
      clear hts hvk hc hv
      go_wp2
      go_round
      case rel => exact ⟨k + 1, by omega, by go_num, by rw [HT.out]; go_num⟩
      case measure => simp [intOf]; omega
    · obtain rfl : k = n := by omega
      have hb3 : tot ls k ≤ 140737488355328 := by omega
      go_wp2_with fail
      refine (grow_any _ w hb3).mono ?_
      rintro e w0 ⟨v0, rfl, hv0, hb0⟩
      go_wp2
      go_loopw [6, 27] (fun out ix wr => ∃ j : Nat, j ≤ k ∧ ix = .int .i64 j ∧ Own w.heap.size wr out (ls.take j).flatten ∧ Below w.heap.size w wr) (fun _ ix _ => k - (intOf ix).toNat)
      case atStart => exact ⟨0, Nat.zero_le _, rfl, by simpa using hv0, hb0⟩
      case round =>
        obtain ⟨j, hj, rfl, hown, hbw⟩ := hrel
        by_cases hlt2 : j < k
        · have hlt' : j < ls.length := by rw [Hn.out]; exact hlt2
          have hcj : wr.cell? ⟨g, j, none⟩ = some (vs j) := (hbw.cell (p := ⟨g, j, none⟩) hg).trans (hc j hlt2)
          have hvj := (hv j hlt').below hbw
          have hsum : (ls.take j).flatten.length + ls[j].length ≤ 140737488355328 := by
            have := tot_succ ls j hlt'
            have := tot_le ls (j + 1)
            unfold tot at *
            omega
          have hbs := hbw.size
          go_wp2_with (at_builtin; refine wpList_append_byt rfl (.tmp 31) (.tmp 32) rfl rfl rfl hown hvj hsum hbs ?_; intro v1 w1 hown1 hg1 _)
          have hfl : (ls.take j).flatten ++ ls[j] = (ls.take (j + 1)).flatten := take_flat ls j hlt'
          have hb1 : Below w.heap.size w w1 := hbw.grown hg1 hbs (fun k hk => (World.ownsRow.lt hown k hk).1)
          rw [hfl] at hown1
          clear hfl hg1
          go_roundw
          case rel => exact ⟨j + 1, by omega, by go_num, hown1, hb1⟩
          case measure => simp [intOf]; omega
        · obtain rfl : j = k := by omega
          go_wp2
          go_ret
          refine ⟨_, rfl, ?_, hbw⟩
          have e : ls.take j = ls := by rw [← Hn.out]; exact List.take_length
          rw [e] at hown
          exact hown
theorem concat1 (u : Value) (l : List UInt8) (g c : Nat) (w : World) (hg : g < w.heap.size) (c0 : w.cell? ⟨g, 0, none⟩ = some u) (hu : Byt w u l) (hs : l.length ≤ 1099511627776) :
    Calls Tryz.prog 75 #[.slice (some ⟨g, 0, none⟩) 1 c] w fun e w' => ∃ v, e = .returned v ∧ Own w.heap.size w' v l ∧ Below w.heap.size w w' := by
  have h := concat_any [l] (fun _ => u) g 1 c w rfl hg (fun j hj => by
    match j, hj with
    | 0, _ => exact c0) (fun j hj => by
    match j, hj with
    | 0, _ => exact hu) (by simpa using hs) (by omega)
  simpa using h
theorem concat2 (u v : Value) (l m : List UInt8) (g c : Nat) (w : World) (hg : g < w.heap.size) (c0 : w.cell? ⟨g, 0, none⟩ = some u) (c1 : w.cell? ⟨g, 1, none⟩ = some v) (hu : Byt w u l) (hv : Byt w v m) (hs : l.length + m.length ≤ 1099511627776) :
    Calls Tryz.prog 75 #[.slice (some ⟨g, 0, none⟩) 2 c] w fun e w' => ∃ x, e = .returned x ∧ Own w.heap.size w' x (l ++ m) ∧ Below w.heap.size w w' := by
  have h := concat_any [l, m] (fun j => if j = 0 then u else v) g 2 c w rfl hg (fun j hj => by
    match j, hj with
    | 0, _ => exact c0
    | 1, _ => exact c1) (fun j hj => by
    match j, hj with
    | 0, _ => exact hu
    | 1, _ => exact hv) (by simpa using hs) (by omega)
  simpa using h
end Go.Proofs.YtghophbabbaleaaGreatDoor
namespace Go.Proofs.YtghophbabbaleaaGreatDoor
set_option maxRecDepth 20000
open Go.RowKit
attribute [local go_sem ↓] exec_load_tx
def litT (t : TxM) : Bool := decide (t.key.length ≤ 100) && decide (t.val.length ≤ 400)
set_option maxHeartbeats 1600000 in
theorem light6_any (t : TxM) (w : World) (hk : t.key.length ≤ maxLen) (hv : t.val.length ≤ maxLen) :
    Calls Tryz.prog 54 #[txv t] w fun e w' => e = .returned (.bool (litT t)) ∧ Below w.heap.size w w' := by
  obtain ⟨fr, no, ki, tu, am, key, val⟩ := t
  simp only at hk hv
  unfold maxLen at hk hv
  have hks := sb_size key
  have hvs := sb_size val
  unfold txv
  simp only
  obtain ⟨s, HS⟩ : ∃ s : ByteArray, Hid (sb key = s) := ⟨_, hid rfl⟩
  obtain ⟨u, HU⟩ : ∃ s : ByteArray, Hid (sb val = s) := ⟨_, hid rfl⟩
  obtain ⟨n, HN⟩ : ∃ n : Nat, Hid (key.length = n) := ⟨_, hid rfl⟩
  obtain ⟨m, HM⟩ : ∃ n : Nat, Hid (val.length = n) := ⟨_, hid rfl⟩
  rw [HS.out] at hks ⊢
  rw [HU.out] at hvs ⊢
  rw [HN.out] at hks hk
  rw [HM.out] at hvs hv
  obtain ⟨q, HQ⟩ : ∃ b : Bool, Hid (litT ⟨fr, no, ki, tu, am, key, val⟩ = b) := ⟨_, hid rfl⟩
  rw [HQ.out]
  go_enter Tryz.func54, Tryz.ntmps54
  go_wp2_with fail
  all_goals
    go_ret
    refine ⟨?_, (Below.refl _ _).alloc (Nat.le_refl _) _⟩
    refine congrArg (fun b => Ending.returned (Value.bool b)) ?_
    rw [← HQ.out]
    unfold litT
    simp only [HN.out, HM.out]
  all_goals grind
end Go.Proofs.YtghophbabbaleaaGreatDoor
namespace Go.Proofs.YtghophbabbaleaaGreatDoor
set_option maxRecDepth 20000
open Go.RowKit
attribute [local go_sem ↓] exec_load_tx
theorem mayT_parts (t : TxM) : mayT t = ((decide (1 ≤ t.fr) && decide (t.fr ≤ 40)) && decide (1 ≤ t.no) && decide (t.no ≤ 1099511627776) && kindT t) := by
  unfold mayT kindT
  grind
set_option maxHeartbeats 3200000 in
theorem txCheck_any (t : TxM) (w : World) (hk : t.key.length ≤ 1000000) (hv : t.val.length ≤ 1000000) :
    Calls Tryz.prog 159 #[txv t] w fun e w' => e = .returned (.int .i64 (if mayT t = true then 0 else 1)) ∧ Below w.heap.size w w' := by
  have HOF := hid (fun w => ofKind_any t w hk hv)
  clear hk hv
  obtain ⟨m, HM⟩ : ∃ m : Bool, Hid (mayT t = m) := ⟨_, hid rfl⟩
  have HMP := hid (mayT_parts t)
  rw [HM.out] at *
  obtain ⟨ko, HKO⟩ : ∃ b : Bool, Hid (kindT t = b) := ⟨_, hid rfl⟩
  have hr0 := heap_alloc_new w (.cells #[.int .i64 t.fr, .int .i64 t.no, .int .i64 t.ki, .int .i64 t.to, .int .i64 t.am, .string (sb t.key), .string (sb t.val)] 102)
  have hb0 : Below w.heap.size w (w.alloc (.cells #[.int .i64 t.fr, .int .i64 t.no, .int .i64 t.ki, .int .i64 t.to, .int .i64 t.am, .string (sb t.key), .string (sb t.val)] 102)) := (Below.refl _ _).alloc (Nat.le_refl _) _
  have hld := fun W h => loadTx_eq (w := W) (b := w.heap.size) (C := #[.int .i64 t.fr, .int .i64 t.no, .int .i64 t.ki, .int .i64 t.to, .int .i64 t.am, .string (sb t.key), .string (sb t.val)]) (T := 102) h rfl
  have l0 := hld _ hr0
  clear hld
  have HB0 := hid hb0
  have HC : Hid (_ ∧ _) := hid ⟨cell_blk hr0 0, cell_blk hr0 1⟩
  clear hb0 hr0
  unfold txv
  go_enter Tryz.func159, Tryz.ntmps159
  go_upto_region 1 with (fail)
  generalize (w.alloc (.cells #[.int .i64 t.fr, .int .i64 t.no, .int .i64 t.ki, .int .i64 t.to, .int .i64 t.am, .string (sb t.key), .string (sb t.val)] 102)) = w0 at *
  obtain ⟨c0, c1⟩ := HC.out
  go_wp2_with fail
  refine (account_any t.fr w0).mono ?_
  rintro e w1 ⟨rfl, rfl⟩
  obtain ⟨ao, HAO⟩ : ∃ b : Bool, Hid ((decide (1 ≤ t.fr) && decide (t.fr ≤ 40)) = b) := ⟨_, hid rfl⟩
  rw [HAO.out]
  have hao := HAO.out
  clear hao
  go_wp2_with fail
  all_goals first
    | (refine (HOF.out w0).mono ?_
       rintro e w1 ⟨rfl, hb1⟩
       rw [HKO.out]
       go_wp2_with fail)
    | skip
  all_goals
    go_ret
    refine ⟨?_, ?_⟩
    · refine congrArg (fun b => Ending.returned (Value.int IntKind.i64 b)) ?_
      have HX := HMP.out
      have h1 := HAO.out
      have h2 := HKO.out
      clear HMP HAO HKO HM HOF HB0 l0
      grind
    · first
        | exact HB0.out
        | exact HB0.out.trans (hb1.mono HB0.out.size)
theorem txnum_any (v : Value) (l : List UInt8) (n : Int) (w : World) (hv : Byt w v l) (h0 : 0 ≤ n) (h1 : n < 9223372036854775808) (hs : l.length ≤ 1099511627000) :
    Calls Tryz.prog 175 #[v, .int .i64 n] w fun e w' => ∃ x, e = .returned x ∧ Own w.heap.size w' x (l ++ dg n.toNat) ∧ Below w.heap.size w w' := by
  have hw : IntKind.u64.wrap n = n := wrap_u64 _ (by omega) (by omega)
  go_enter Tryz.func175, Tryz.ntmps175
  go_wp2_with fail
  refine (num_any v l n w hv h0 (by omega) hs).mono ?_
  rintro e w1 ⟨v1, rfl, ho1, hb1⟩
  go_wp2_with fail
  go_ret
  exact ⟨_, rfl, ho1, hb1⟩
set_option maxHeartbeats 3200000 in
theorem txown_any (t : TxM) (w : World) (hm : mayT t = true) :
    Calls Tryz.prog 161 #[txv t] w fun e w' => ∃ x, e = .returned x ∧ Own w.heap.size w' x (bytesT t) ∧ Below w.heap.size w w' := by
  obtain ⟨h1, h2, h3⟩ := mayT_iff hm
  obtain ⟨fr, no, ki, tu, am, key, val⟩ := t
  simp only at h1 h2 h3
  obtain ⟨a, rfl⟩ := nat_of (i := fr) (by omega)
  obtain ⟨b, rfl⟩ := nat_of (i := no) (by omega)
  obtain ⟨c, rfl⟩ := nat_of (i := ki) (by omega)
  have hc : c < 128 := by omega
  have hab : a < 9223372036854775808 ∧ b < 9223372036854775808 := by omega
  unfold txv
  simp only
  have hrow := fun (C : Array Value) => heap_alloc_new w (.cells C 102)
  have hnew := fun (C : Array Value) => (Below.refl w.heap.size w).alloc (Nat.le_refl _) (.cells C 102)
  have HLA := hid (dg_len10 (n := a) (by omega))
  have HLB := hid (dg_len10 (n := b) (by omega))
  have HLC := hid (dg_len10 (n := c) (by omega))
  obtain ⟨s, HS⟩ : ∃ s : ByteArray, Hid (sb key = s) := ⟨_, hid rfl⟩
  obtain ⟨u, HU⟩ : ∃ s : ByteArray, Hid (sb val = s) := ⟨_, hid rfl⟩
  rw [HS.out, HU.out]
  have hr0 := hrow #[.int .i64 (a : Int), .int .i64 (b : Int), .int .i64 (c : Int), .int .i64 tu, .int .i64 am, .string s, .string u]
  have hn0 := hnew #[.int .i64 (a : Int), .int .i64 (b : Int), .int .i64 (c : Int), .int .i64 tu, .int .i64 am, .string s, .string u]
  clear hrow hnew
  have H3 := hid h3
  have HAB := hid hab
  have HCC := hid hc
  clear h1 h2 h3 hab hc
  go_enter Tryz.func161, Tryz.ntmps161
  go_wp2_with fail
  have hsz0 : (w.alloc (.cells #[.int .i64 (a : Int), .int .i64 (b : Int), .int .i64 (c : Int), .int .i64 tu, .int .i64 am, .string s, .string u] 102)).heap.size = w.heap.size + 1 := by simp
  generalize (w.alloc (.cells #[.int .i64 (a : Int), .int .i64 (b : Int), .int .i64 (c : Int), .int .i64 tu, .int .i64 am, .string s, .string u] 102)) = w0 at *
  have hl0 := lt_of_block hr0
  have HC : Hid (∀ W : World, Below w0.heap.size w0 W → ∀ i, W.cell? ⟨w.heap.size, i, none⟩ = #[Value.int .i64 (a : Int), .int .i64 (b : Int), .int .i64 (c : Int), .int .i64 tu, .int .i64 am, .string s, .string u][i]?) := hid (fun W h i => cell_blk ((h.block _ hl0).trans hr0) i)
  clear hr0 hl0
  have HW : Hid (w0.heap.size = w.heap.size + 1) := hid hsz0
  clear hsz0
  refine (txnum_any _ [] (a : Int) w0 (Byt.nil _) (by omega) (by have := HAB.out; omega) (by decide)).mono ?_
  rintro e w1 ⟨v1, rfl, ho1, hb1⟩
  rw [Int.toNat_natCast, List.nil_append] at ho1
  have d1 := HC.out w1 hb1 1
  simp at d1
  go_wp2_with fail
  refine (txnum_any _ _ (b : Int) w1 ho1.byt (by omega) (by have := HAB.out; omega) (by have := HLA.out; omega)).mono ?_
  rintro e w2 ⟨v2, rfl, ho2, hb2'⟩
  have hb2 := hb1.trans (hb2'.mono hb1.size)
  rw [Int.toNat_natCast] at ho2
  have d2 := HC.out w2 hb2 2
  simp at d2
  clear d1
  go_wp2_with fail
  refine (txnum_any _ _ (c : Int) w2 ho2.byt (by omega) (by have := HCC.out; omega) (by rw [List.length_append]; have := HLA.out; have := HLB.out; omega)).mono ?_
  rintro e w3 ⟨v3, rfl, ho3, hb3'⟩
  have hb3 := hb2.trans (hb3'.mono hb2.size)
  rw [Int.toNat_natCast, List.append_assoc] at ho3
  have d2 := HC.out w3 hb3 2
  have d3 := HC.out w3 hb3 3
  have d5 := HC.out w3 hb3 5
  simp at d2 d3 d5
  obtain ⟨P, HP⟩ : ∃ P : List UInt8, Hid (dg a ++ (dg b ++ dg c) = P) := ⟨_, hid rfl⟩
  have HPL : Hid (P.length ≤ 30) := hid (by rw [← HP.out, List.length_append, List.length_append]; have := HLA.out; have := HLB.out; have := HLC.out; omega)
  rw [HP.out] at ho3
  have hv3 := ho3.byt
  clear ho1 ho2 ho3 hb2' hb3' hb1 hb2
  obtain ⟨hk, hto, ham, rfl, rfl⟩ | ⟨hk, rfl, rfl, hky, hvl⟩ | ⟨hk, rfl, rfl, hky, rfl⟩ := H3.out
  · obtain ⟨d, rfl⟩ := nat_of (i := tu) (by omega)
    obtain ⟨f, rfl⟩ := nat_of (i := am) (by omega)
    obtain rfl : c = 1 := by omega
    have hdf : d < 9223372036854775808 ∧ f < 9223372036854775808 := by omega
    have HDF := hid hdf
    have HLD := hid (dg_len10 (n := d) (by omega))
    clear hk hto ham hdf
    go_wp2_with fail
    refine (txnum_any _ _ (d : Int) w3 hv3 (by omega) (by have := HDF.out; omega) (by have := HPL.out; omega)).mono ?_
    rintro e w4 ⟨v4, rfl, ho4, hb4'⟩
    have hb4 := hb3.trans (hb4'.mono hb3.size)
    rw [Int.toNat_natCast] at ho4
    have e4 := HC.out w4 hb4 4
    simp at e4
    clear d2 d3 d5
    go_wp2_with fail
    refine (txnum_any _ _ (f : Int) w4 ho4.byt (by omega) (by have := HDF.out; omega) (by rw [List.length_append]; have := HPL.out; have := HLD.out; omega)).mono ?_
    rintro e w5 ⟨v5, rfl, ho5, hb5'⟩
    have hb5 := hb4.trans (hb5'.mono hb4.size)
    rw [Int.toNat_natCast] at ho5
    clear e4
    go_wp2_with fail
    go_ret
    refine ⟨v5, rfl, ?_, hn0.trans (hb5.mono hn0.size)⟩
    rw [bytesT_one]
    rw [← HP.out] at ho5
    simp only [List.append_assoc] at ho5
    exact ho5.more (by have := HW.out; have := hb4.size; omega)
  · have HKM := hid (show key.length ≤ maxLen by have := keyOk_len hky; unfold maxLen; omega)
    have HVM := hid (show val.length ≤ maxLen by unfold maxLen; omega)
    have HKL := hid (show key.length ≤ 16 by have := keyOk_len hky; omega)
    have HVL := hid hvl
    obtain rfl : c = 2 := by omega
    clear hk hky hvl
    obtain ⟨v4, w4, hcv4, hby4, hb4'⟩ := run_bs key w3 HKM.out
    rw [HS.out] at hcv4
    have hb4 := hb3.trans (hb4'.mono hb3.size)
    have hv34 := hv3.below hb4'
    go_wp2_with fail
    refine (text_any v3 v4 P key w4 hv34 hby4 (by have := HPL.out; omega) (by have := HKL.out; omega)).mono ?_
    rintro e w5 ⟨v5, rfl, ho5, hb5'⟩
    have hb5 := hb4.trans (hb5'.mono hb4.size)
    have e6 := HC.out w5 hb5 6
    simp at e6
    obtain ⟨v6, w6, hcv6, hby6, hb6'⟩ := run_bs val w5 HVM.out
    rw [HU.out] at hcv6
    have hb6 := hb5.trans (hb6'.mono hb5.size)
    have hv56 := ho5.byt.below hb6'
    clear hcv4 d2 d3 d5
    go_wp2_with fail
    refine (text_any v5 v6 (P ++ tx key) val w6 hv56 hby6 (by rw [List.length_append, tx_len]; have := HPL.out; have := HKL.out; have := dg_len10 (n := key.length) (by omega); omega) (by have := HVL.out; omega)).mono ?_
    rintro e w7 ⟨v7, rfl, ho7, hb7'⟩
    have hb7 := hb6.trans (hb7'.mono hb6.size)
    clear hcv6 e6
    go_wp2_with fail
    go_ret
    refine ⟨v7, rfl, ?_, hn0.trans (hb7.mono hn0.size)⟩
    rw [bytesT_two]
    rw [← HP.out] at ho7
    simp only [List.append_assoc] at ho7
    exact ho7.more (by have := HW.out; have := hb6.size; omega)
  · have HKM := hid (show key.length ≤ maxLen by have := keyOk_len hky; unfold maxLen; omega)
    have HKL := hid (show key.length ≤ 16 by have := keyOk_len hky; omega)
    obtain rfl : c = 3 := by omega
    clear hk hky
    obtain ⟨v4, w4, hcv4, hby4, hb4'⟩ := run_bs key w3 HKM.out
    rw [HS.out] at hcv4
    have hb4 := hb3.trans (hb4'.mono hb3.size)
    have hv34 := hv3.below hb4'
    go_wp2_with fail
    refine (text_any v3 v4 P key w4 hv34 hby4 (by have := HPL.out; omega) (by have := HKL.out; omega)).mono ?_
    rintro e w5 ⟨v5, rfl, ho5, hb5'⟩
    have hb5 := hb4.trans (hb5'.mono hb4.size)
    clear hcv4 d2 d3 d5
    go_wp2_with fail
    go_ret
    refine ⟨v5, rfl, ?_, hn0.trans (hb5.mono hn0.size)⟩
    rw [bytesT_three]
    rw [← HP.out] at ho5
    simp only [List.append_assoc] at ho5
    exact ho5.more (by have := HW.out; have := hb4.size; omega)
set_option maxHeartbeats 3200000 in
theorem txPut_ok : TxPutOk := by
  intro v l t w hv hl ht
  obtain ⟨hk, hw⟩ := ht
  have HCK := hid (fun w => txCheck_any t w (by omega) (by omega))
  obtain ⟨m, HM⟩ : ∃ m : Bool, Hid (mayT t = m) := ⟨_, hid rfl⟩
  have HOW := hid (fun w (h : mayT t = true) => txown_any t w h)
  have HL := hid hl
  clear hk hw hl
  have hr0 := heap_alloc_new w (.cells #[.int .i64 t.fr, .int .i64 t.no, .int .i64 t.ki, .int .i64 t.to, .int .i64 t.am, .string (sb t.key), .string (sb t.val)] 102)
  have hb0 : Below w.heap.size w (w.alloc (.cells #[.int .i64 t.fr, .int .i64 t.no, .int .i64 t.ki, .int .i64 t.to, .int .i64 t.am, .string (sb t.key), .string (sb t.val)] 102)) := (Below.refl _ _).alloc (Nat.le_refl _) _
  have HPT : Hid (putT l t = if m = true then l ++ bytesT t else l) := hid (by unfold putT; rw [HM.out])
  unfold txv
  go_enter Tryz.func142, Tryz.ntmps142
  go_upto_region 1 with (fail)
  generalize (w.alloc (.cells #[.int .i64 t.fr, .int .i64 t.no, .int .i64 t.ki, .int .i64 t.to, .int .i64 t.am, .string (sb t.key), .string (sb t.val)] 102)) = w0 at *
  have hl0 := lt_of_block hr0
  have HLD : Hid (∀ W : World, Below w0.heap.size w0 W → loadTx (.pointer (some ⟨w.heap.size, 0, none⟩)) W = .ok (.value (.agg #[.int .i64 t.fr, .int .i64 t.no, .int .i64 t.ki, .int .i64 t.to, .int .i64 t.am, .string (sb t.key), .string (sb t.val)])) W) := hid (fun W h => loadTx_eq ((h.block _ hl0).trans hr0) rfl)
  have l0 := HLD.out w0 (Below.refl _ _)
  clear hr0 hl0
  have hv0 := hv.below hb0
  have HB0 := hid hb0
  clear hb0 hv
  go_wp2_with fail
  refine (HCK.out w0).mono ?_
  rintro e w1 ⟨rfl, hb1⟩
  rw [HM.out]
  have hB1 := HB0.out.trans (hb1.mono HB0.out.size)
  have hv1 := hv0.below hb1
  cases m with
  | false =>
    obtain ⟨A, c, rfl⟩ := hv1.shape
    clear l0
    go_wp2_with fail
    refine (concat1 _ l w1.heap.size _ (w1.alloc (.cells #[.slice A l.length c] 29)) (by simp) (by simp) (hv1.alloc _) (by have := HL.out; omega)).mono ?_
    rintro e w2 ⟨x, rfl, ho2, hb2⟩
    go_wp2_with fail
    go_ret
    refine ⟨x, rfl, by rw [HPT.out]; exact ho2.byt, ?_⟩
    exact (hB1.alloc hB1.size _).trans (hb2.mono (by have := hB1.size; simp; omega))
  | true =>
    have l1 := HLD.out w1 hb1
    clear l0
    go_wp2_with fail
    refine (HOW.out w1 HM.out).mono ?_
    rintro e w2 ⟨x, rfl, ho2, hb2⟩
    have hB2 := hB1.trans (hb2.mono hB1.size)
    have hv2 := hv1.below hb2
    have hx2 := ho2.byt
    obtain ⟨A, c, rfl⟩ := hv2.shape
    obtain ⟨A2, c2, rfl⟩ := hx2.shape
    clear l1
    go_wp2_with fail
    have hlen : (bytesT t).length ≤ 1000000 := Nat.le_trans (bytesT_len HM.out) (by decide)
    refine (concat2 _ _ l (bytesT t) w2.heap.size _ (w2.alloc (.cells #[.slice A l.length c, .slice A2 (bytesT t).length c2] 29)) (by simp) (by simp) (by simp) (hv2.alloc _) (hx2.alloc _) (by have := HL.out; omega)).mono ?_
    rintro e w3 ⟨y, rfl, ho3, hb3⟩
    go_wp2_with fail
    go_ret
    refine ⟨y, rfl, by rw [HPT.out]; exact ho3.byt, ?_⟩
    exact (hB2.alloc hB2.size _).trans (hb3.mono (by have := hB2.size; simp; omega))
end Go.Proofs.YtghophbabbaleaaGreatDoor
