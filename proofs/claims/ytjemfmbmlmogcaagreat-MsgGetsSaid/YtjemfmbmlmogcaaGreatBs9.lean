/-
  TxPutsWalk Concat TxCodePut TxCodeRead: what each of them says stands at its head.
-/
import Derived.Deep.DeepCutAuto
import Derived.Deep.RegionHeld3
import Derived.Deep.RegionWith
import Derived.Test.YtjemfmbmlmogcaaGreatBs1
import Derived.Test.YtjemfmbmlmogcaaGreatBs8
import Derived.Test.YtjemfmbmlmogcaaGreatBs6
import Derived.Test.YtjemfmbmlmogcaaGreatBs2
import Derived.Test.YtjemfmbmlmogcaaGreatBs4
import Derived.Test.YtjemfmbmlmogcaaGreatBs5
namespace Go.Proofs.YtjemfmbmlmogcaaGreat
set_option maxRecDepth 20000
open Go.RowKit
attribute [local go_sem ↓] exec_load_tx
def litT (t : TxM) : Bool := decide (t.key.length ≤ 100) && decide (t.val.length ≤ 400)
set_option maxHeartbeats 1600000 in
theorem light6_any (t : TxM) (w : World) (hk : t.key.length ≤ maxLen) (hv : t.val.length ≤ maxLen) :
    Calls Tryz.prog 17 #[txv t] w fun e w' => e = .returned (.bool (litT t)) ∧ Below w.heap.size w w' := by
  obtain ⟨fr, no, ki, tu, am, key, val⟩ := t
  simp only at hk hv
  unfold maxLen at hk hv
  have hks := sb_size key
  have hvs := sb_size val
  unfold txv
  simp only
  obtain ⟨s, HS⟩ : ∃ s : ByteArray, Hid (sb key = s) := ⟨_, hid rfl⟩
  obtain ⟨u, HU⟩ : ∃ s : ByteArray, Hid (sb val = s) := ⟨_, hid rfl⟩
  obtain ⟨n, HN⟩ : ∃ n : Nat, Hid (key.length = n) := ⟨_, hid rfl⟩
  obtain ⟨m, HM⟩ : ∃ n : Nat, Hid (val.length = n) := ⟨_, hid rfl⟩
  rw [HS.out] at hks ⊢
  rw [HU.out] at hvs ⊢
  rw [HN.out] at hks hk
  rw [HM.out] at hvs hv
  obtain ⟨q, HQ⟩ : ∃ b : Bool, Hid (litT ⟨fr, no, ki, tu, am, key, val⟩ = b) := ⟨_, hid rfl⟩
  rw [HQ.out]
  go_enter Tryz.func17, Tryz.ntmps17
  go_wp2_with fail
  all_goals
    go_ret
    refine ⟨?_, (Below.refl _ _).alloc (Nat.le_refl _) _⟩
    refine congrArg (fun b => Ending.returned (Value.bool b)) ?_
    rw [← HQ.out]
    unfold litT
    simp only [HN.out, HM.out]
  all_goals grind
end Go.Proofs.YtjemfmbmlmogcaaGreat
namespace Go.Proofs.YtjemfmbmlmogcaaGreat
set_option maxRecDepth 20000
open Go.RowKit
theorem own_none {B : Nat} {w : World} {v : Value} {l : List UInt8} (h : Own B w v l) (A : Option Addr) (n c : Nat) (e : v = .slice A n c) : Own B w (.slice A 0 c) [] := by
  subst e
  refine ⟨rfl, ?_⟩
  rcases h.2 with ⟨e, _⟩ | ⟨g, cap, cur, e, hg, hh, hn, hm, hs, ht⟩
  · cases e
    exact .inl ⟨rfl, rfl⟩
  · cases e
    exact .inr ⟨g, c, cur, rfl, hg, hh, Nat.zero_le _, hm, hs, by simp [bcells]⟩
theorem wpList_append_zeros {ops : Array Oper} {rest : List Oper} {o : Oper} {a : Act} {Q : Exit → Act → World → Prop} {w : World} (hgd : o.guard = none) (s y : Operand)
    (ho : o.op = .call { callee := .builtin .append, args := #[s, y], argTypes := #[41, 3] })
    {B : Nat} {v : Value} {l : List UInt8} {k : Nat} (hes : a.eval s = v) (hey : a.eval y = .int .i64 (k : Int)) (hv : Own B w v l) (hs : l.length + k ≤ 140737488355328) (hB : B ≤ w.heap.size)
    (h : ∀ A c w', Own B w' (.slice A (l.length + k) c) (l ++ List.replicate k 0) → w.grownBy w' v.ownBlock → wpList Tryz.prog ops Q rest (a.put o.dst (.slice A (l.length + k) c)) w') :
    wpList Tryz.prog ops Q (o :: rest) a w := by
  obtain ⟨v', w', hrun, h2, h3, _⟩ := run_append_zeros_byt k o.type hv hs hB
  obtain ⟨A, c, rfl⟩ := h2.byt.shape
  have e : (l ++ List.replicate k (0 : UInt8)).length = l.length + k := by simp
  rw [e] at h2 hrun
  exact wpList_plain hgd fun _ hK => Lib.wp_append_run w s y _ _ ho _ _ hes hey _ w' hrun (hK _ _ (h A c w' h2 h3))
set_option maxHeartbeats 1600000 in
theorem grow_any (n : Nat) (w : World) (hn : n ≤ 140737488355328) :
    Calls Tryz.prog 107 #[.slice none 0 0, .int .i64 (n : Int)] w fun e w' => ∃ v, e = .returned v ∧ Own w.heap.size w' v [] ∧ Below w.heap.size w w' := by
  by_cases h0 : n = 0
  · subst h0
    go_enter Tryz.func107, Tryz.ntmps107
    go_wp2_with fail
    go_ret
    exact ⟨_, rfl, Own.nil _ _, Below.refl _ _⟩
  · have h1 : (0 : Int) < (n : Int) := by omega
    have h2 : ¬ (n : Int) < 0 := by omega
    have hn2 : ([] : List UInt8).length + n ≤ 140737488355328 := by simpa using hn
    go_enter Tryz.func107, Tryz.ntmps107
    go_wp2_with (at_builtin; refine wpList_append_zeros rfl (.tmp 20) (.tmp 21) rfl rfl rfl (Own.nil w.heap.size w) hn2 (Nat.le_refl _) ?_; intro A1 c1 w1 ho1 hg1; have hm1 := ho1.byt.at_.2.2.1; unfold maxLen at hm1)
    go_ret
    exact ⟨_, rfl, own_none ho1 _ _ _ rfl, (Below.refl _ _).grown hg1 (Nat.le_refl _) (fun k hk => by cases hk)⟩
set_option maxHeartbeats 1600000 in
theorem concat_any (ls : List (List UInt8)) (vs : Nat → Value) (g n c : Nat) (w : World) (hn : ls.length = n) (hg : g < w.heap.size) (hc : ∀ j, j < n → w.cell? ⟨g, j, none⟩ = some (vs j))
    (hv : ∀ j (h : j < ls.length), Byt w (vs j) ls[j]) (hs : ls.flatten.length ≤ 1099511627776) (hn2 : n ≤ 1000) :
    Calls Tryz.prog 87 #[.slice (some ⟨g, 0, none⟩) n c] w fun e w' => ∃ v, e = .returned v ∧ Own w.heap.size w' v ls.flatten ∧ Below w.heap.size w w' := by
  go_enter Tryz.func87, Tryz.ntmps87
  have Hn := hid hn
  clear hn
  go_wp2
  go_loop [3, 11] (fun sz ix => ∃ k : Nat, k ≤ n ∧ ix = .int .i64 k ∧ sz = .int .i64 (tot ls k)) (fun _ ix => n - (intOf ix).toNat)
  case atStart => exact ⟨0, Nat.zero_le _, rfl, by rw [tot_zero]; rfl⟩
  case round =>
    obtain ⟨k, hk, rfl, rfl⟩ := hrel
    have htk := tot_le ls k
    by_cases hlt : k < n
    · have hlt' : k < ls.length := by rw [Hn.out]; exact hlt
      have hck := hc k hlt
      obtain ⟨A, cp, hvk, _⟩ := hv k hlt'
      have hts := tot_succ ls k hlt'
      have htk1 := tot_le ls (k + 1)
      have hb : tot ls k + ls[k].length ≤ 1099511627776 := by omega
      have hnn : ¬ ((tot ls k : Int) + (ls[k].length : Int) < 0) := by omega
      rw [hvk] at hck
      have HT := hid hts
      clear hts hvk hc hv
      go_wp2
      go_round
      case rel => exact ⟨k + 1, by omega, by go_num, by rw [HT.out]; go_num⟩
      case measure => simp [intOf]; omega
    · obtain rfl : k = n := by omega
      have hb3 : tot ls k ≤ 140737488355328 := by omega
      go_wp2_with fail
      refine (grow_any _ w hb3).mono ?_
      rintro e w0 ⟨v0, rfl, hv0, hb0⟩
      go_wp2
      go_loopw [6, 27] (fun out ix wr => ∃ j : Nat, j ≤ k ∧ ix = .int .i64 j ∧ Own w.heap.size wr out (ls.take j).flatten ∧ Below w.heap.size w wr) (fun _ ix _ => k - (intOf ix).toNat)
      case atStart => exact ⟨0, Nat.zero_le _, rfl, by simpa using hv0, hb0⟩
      case round =>
        obtain ⟨j, hj, rfl, hown, hbw⟩ := hrel
        by_cases hlt2 : j < k
        · have hlt' : j < ls.length := by rw [Hn.out]; exact hlt2
          have hcj : wr.cell? ⟨g, j, none⟩ = some (vs j) := (hbw.cell (p := ⟨g, j, none⟩) hg).trans (hc j hlt2)
          have hvj := (hv j hlt').below hbw
          have hsum : (ls.take j).flatten.length + ls[j].length ≤ 140737488355328 := by
            have := tot_succ ls j hlt'
            have := tot_le ls (j + 1)
            unfold tot at *
            omega
          have hbs := hbw.size
          go_wp2_with (at_builtin; refine wpList_append_byt rfl (.tmp 31) (.tmp 32) rfl rfl rfl hown hvj hsum hbs ?_; intro v1 w1 hown1 hg1 _)
          have hfl : (ls.take j).flatten ++ ls[j] = (ls.take (j + 1)).flatten := take_flat ls j hlt'
          have hb1 : Below w.heap.size w w1 := hbw.grown hg1 hbs (fun k hk => (World.ownsRow.lt hown k hk).1)
          rw [hfl] at hown1
          clear hfl hg1
          go_roundw
          case rel => exact ⟨j + 1, by omega, by go_num, hown1, hb1⟩
          case measure => simp [intOf]; omega
        · obtain rfl : j = k := by omega
          go_wp2
          go_ret
          refine ⟨_, rfl, ?_, hbw⟩
          have e : ls.take j = ls := by rw [← Hn.out]; exact List.take_length
          rw [e] at hown
          exact hown
theorem concat1 (u : Value) (l : List UInt8) (g c : Nat) (w : World) (hg : g < w.heap.size) (c0 : w.cell? ⟨g, 0, none⟩ = some u) (hu : Byt w u l) (hs : l.length ≤ 1099511627776) :
    Calls Tryz.prog 87 #[.slice (some ⟨g, 0, none⟩) 1 c] w fun e w' => ∃ v, e = .returned v ∧ Own w.heap.size w' v l ∧ Below w.heap.size w w' := by
  have h := concat_any [l] (fun _ => u) g 1 c w rfl hg (fun j hj => by
    match j, hj with
    | 0, _ => exact c0) (fun j hj => by
    match j, hj with
    | 0, _ => exact hu) (by simpa using hs) (by omega)
  simpa using h
theorem concat2 (u v : Value) (l m : List UInt8) (g c : Nat) (w : World) (hg : g < w.heap.size) (c0 : w.cell? ⟨g, 0, none⟩ = some u) (c1 : w.cell? ⟨g, 1, none⟩ = some v) (hu : Byt w u l) (hv : Byt w v m) (hs : l.length + m.length ≤ 1099511627776) :
    Calls Tryz.prog 87 #[.slice (some ⟨g, 0, none⟩) 2 c] w fun e w' => ∃ x, e = .returned x ∧ Own w.heap.size w' x (l ++ m) ∧ Below w.heap.size w w' := by
  have h := concat_any [l, m] (fun j => if j = 0 then u else v) g 2 c w rfl hg (fun j hj => by
    match j, hj with
    | 0, _ => exact c0
    | 1, _ => exact c1) (fun j hj => by
    match j, hj with
    | 0, _ => exact hu
    | 1, _ => exact hv) (by simpa using hs) (by omega)
  simpa using h
end Go.Proofs.YtjemfmbmlmogcaaGreat
namespace Go.Proofs.YtjemfmbmlmogcaaGreat
set_option maxRecDepth 20000
open Go.RowKit
attribute [local go_sem ↓] exec_load_tx
theorem mayT_parts (t : TxM) : mayT t = ((decide (1 ≤ t.fr) && decide (t.fr ≤ 40)) && decide (1 ≤ t.no) && decide (t.no ≤ 1099511627776) && kindT t) := by
  unfold mayT kindT
  grind
set_option maxHeartbeats 3200000 in
theorem txCheck_any (t : TxM) (w : World) (hk : t.key.length ≤ 1000000) (hv : t.val.length ≤ 1000000) :
    Calls Tryz.prog 69 #[txv t] w fun e w' => e = .returned (.int .i64 (if mayT t = true then 0 else 1)) ∧ Below w.heap.size w w' := by
  have HOF := hid (fun w => ofKind_any t w hk hv)
  clear hk hv
  obtain ⟨m, HM⟩ : ∃ m : Bool, Hid (mayT t = m) := ⟨_, hid rfl⟩
  have HMP := hid (mayT_parts t)
  rw [HM.out] at *
  obtain ⟨ko, HKO⟩ : ∃ b : Bool, Hid (kindT t = b) := ⟨_, hid rfl⟩
  have hr0 := heap_alloc_new w (.cells #[.int .i64 t.fr, .int .i64 t.no, .int .i64 t.ki, .int .i64 t.to, .int .i64 t.am, .string (sb t.key), .string (sb t.val)] 36)
  have hb0 : Below w.heap.size w (w.alloc (.cells #[.int .i64 t.fr, .int .i64 t.no, .int .i64 t.ki, .int .i64 t.to, .int .i64 t.am, .string (sb t.key), .string (sb t.val)] 36)) := (Below.refl _ _).alloc (Nat.le_refl _) _
  have hld := fun W h => loadTx_eq (w := W) (b := w.heap.size) (C := #[.int .i64 t.fr, .int .i64 t.no, .int .i64 t.ki, .int .i64 t.to, .int .i64 t.am, .string (sb t.key), .string (sb t.val)]) (T := 36) h rfl
  have l0 := hld _ hr0
  clear hld
  have HB0 := hid hb0
  have HC : Hid (_ ∧ _) := hid ⟨cell_blk hr0 0, cell_blk hr0 1⟩
  clear hb0 hr0
  unfold txv
  go_enter Tryz.func69, Tryz.ntmps69
  go_upto_region 1 with (fail)
  generalize (w.alloc (.cells #[.int .i64 t.fr, .int .i64 t.no, .int .i64 t.ki, .int .i64 t.to, .int .i64 t.am, .string (sb t.key), .string (sb t.val)] 36)) = w0 at *
  obtain ⟨c0, c1⟩ := HC.out
  go_wp2_with fail
  refine (account_any t.fr w0).mono ?_
  rintro e w1 ⟨rfl, rfl⟩
  obtain ⟨ao, HAO⟩ : ∃ b : Bool, Hid ((decide (1 ≤ t.fr) && decide (t.fr ≤ 40)) = b) := ⟨_, hid rfl⟩
  rw [HAO.out]
  have hao := HAO.out
  clear hao
  go_wp2_with fail
  all_goals first
    | (refine (HOF.out w0).mono ?_
       rintro e w1 ⟨rfl, hb1⟩
       rw [HKO.out]
       go_wp2_with fail)
    | skip
  all_goals
    go_ret
    refine ⟨?_, ?_⟩
    · refine congrArg (fun b => Ending.returned (Value.int IntKind.i64 b)) ?_
      have HX := HMP.out
      have h1 := HAO.out
      have h2 := HKO.out
      clear HMP HAO HKO HM HOF HB0 l0
      grind
    · first
        | exact HB0.out
        | exact HB0.out.trans (hb1.mono HB0.out.size)
theorem txnum_any (v : Value) (l : List UInt8) (n : Int) (w : World) (hv : Byt w v l) (h0 : 0 ≤ n) (h1 : n < 9223372036854775808) (hs : l.length ≤ 1099511627000) :
    Calls Tryz.prog 113 #[v, .int .i64 n] w fun e w' => ∃ x, e = .returned x ∧ Own w.heap.size w' x (l ++ dg n.toNat) ∧ Below w.heap.size w w' := by
  have hw : IntKind.u64.wrap n = n := wrap_u64 _ (by omega) (by omega)
  go_enter Tryz.func113, Tryz.ntmps113
  go_wp2_with fail
  refine (num_any v l n w hv h0 (by omega) hs).mono ?_
  rintro e w1 ⟨v1, rfl, ho1, hb1⟩
  go_wp2_with fail
  go_ret
  exact ⟨_, rfl, ho1, hb1⟩
set_option maxHeartbeats 3200000 in
theorem txown_any (t : TxM) (w : World) (hm : mayT t = true) :
    Calls Tryz.prog 96 #[txv t] w fun e w' => ∃ x, e = .returned x ∧ Own w.heap.size w' x (bytesT t) ∧ Below w.heap.size w w' := by
  obtain ⟨h1, h2, h3⟩ := mayT_iff hm
  obtain ⟨fr, no, ki, tu, am, key, val⟩ := t
  simp only at h1 h2 h3
  obtain ⟨a, rfl⟩ := nat_of (i := fr) (by omega)
  obtain ⟨b, rfl⟩ := nat_of (i := no) (by omega)
  obtain ⟨c, rfl⟩ := nat_of (i := ki) (by omega)
  have hc : c < 128 := by omega
  have hab : a < 9223372036854775808 ∧ b < 9223372036854775808 := by omega
  unfold txv
  simp only
  have hrow := fun (C : Array Value) => heap_alloc_new w (.cells C 36)
  have hnew := fun (C : Array Value) => (Below.refl w.heap.size w).alloc (Nat.le_refl _) (.cells C 36)
  have HLA := hid (dg_len10 (n := a) (by omega))
  have HLB := hid (dg_len10 (n := b) (by omega))
  have HLC := hid (dg_len10 (n := c) (by omega))
  obtain ⟨s, HS⟩ : ∃ s : ByteArray, Hid (sb key = s) := ⟨_, hid rfl⟩
  obtain ⟨u, HU⟩ : ∃ s : ByteArray, Hid (sb val = s) := ⟨_, hid rfl⟩
  rw [HS.out, HU.out]
  have hr0 := hrow #[.int .i64 (a : Int), .int .i64 (b : Int), .int .i64 (c : Int), .int .i64 tu, .int .i64 am, .string s, .string u]
  have hn0 := hnew #[.int .i64 (a : Int), .int .i64 (b : Int), .int .i64 (c : Int), .int .i64 tu, .int .i64 am, .string s, .string u]
  clear hrow hnew
  have H3 := hid h3
  have HAB := hid hab
  have HCC := hid hc
  clear h1 h2 h3 hab hc
  go_enter Tryz.func96, Tryz.ntmps96
  go_wp2_with fail
  have hsz0 : (w.alloc (.cells #[.int .i64 (a : Int), .int .i64 (b : Int), .int .i64 (c : Int), .int .i64 tu, .int .i64 am, .string s, .string u] 36)).heap.size = w.heap.size + 1 := by simp
  generalize (w.alloc (.cells #[.int .i64 (a : Int), .int .i64 (b : Int), .int .i64 (c : Int), .int .i64 tu, .int .i64 am, .string s, .string u] 36)) = w0 at *
  have hl0 := lt_of_block hr0
  have HC : Hid (∀ W : World, Below w0.heap.size w0 W → ∀ i, W.cell? ⟨w.heap.size, i, none⟩ = #[Value.int .i64 (a : Int), .int .i64 (b : Int), .int .i64 (c : Int), .int .i64 tu, .int .i64 am, .string s, .string u][i]?) := hid (fun W h i => cell_blk ((h.block _ hl0).trans hr0) i)
  clear hr0 hl0
  have HW : Hid (w0.heap.size = w.heap.size + 1) := hid hsz0
  clear hsz0
  refine (txnum_any _ [] (a : Int) w0 (Byt.nil _) (by omega) (by have := HAB.out; omega) (by decide)).mono ?_
  rintro e w1 ⟨v1, rfl, ho1, hb1⟩
  rw [Int.toNat_natCast, List.nil_append] at ho1
  have d1 := HC.out w1 hb1 1
  simp at d1
  go_wp2_with fail
  refine (txnum_any _ _ (b : Int) w1 ho1.byt (by omega) (by have := HAB.out; omega) (by have := HLA.out; omega)).mono ?_
  rintro e w2 ⟨v2, rfl, ho2, hb2'⟩
  have hb2 := hb1.trans (hb2'.mono hb1.size)
  rw [Int.toNat_natCast] at ho2
  have d2 := HC.out w2 hb2 2
  simp at d2
  clear d1
  go_wp2_with fail
  refine (txnum_any _ _ (c : Int) w2 ho2.byt (by omega) (by have := HCC.out; omega) (by rw [List.length_append]; have := HLA.out; have := HLB.out; omega)).mono ?_
  rintro e w3 ⟨v3, rfl, ho3, hb3'⟩
  have hb3 := hb2.trans (hb3'.mono hb2.size)
  rw [Int.toNat_natCast, List.append_assoc] at ho3
  have d2 := HC.out w3 hb3 2
  have d3 := HC.out w3 hb3 3
  have d5 := HC.out w3 hb3 5
  simp at d2 d3 d5
  obtain ⟨P, HP⟩ : ∃ P : List UInt8, Hid (dg a ++ (dg b ++ dg c) = P) := ⟨_, hid rfl⟩
  have HPL : Hid (P.length ≤ 30) := hid (by rw [← HP.out, List.length_append, List.length_append]; have := HLA.out; have := HLB.out; have := HLC.out; omega)
  rw [HP.out] at ho3
  have hv3 := ho3.byt
  clear ho1 ho2 ho3 hb2' hb3' hb1 hb2
  obtain ⟨hk, hto, ham, rfl, rfl⟩ | ⟨hk, rfl, rfl, hky, hvl⟩ | ⟨hk, rfl, rfl, hky, rfl⟩ := H3.out
  · obtain ⟨d, rfl⟩ := nat_of (i := tu) (by omega)
    obtain ⟨f, rfl⟩ := nat_of (i := am) (by omega)
    obtain rfl : c = 1 := by omega
    have hdf : d < 9223372036854775808 ∧ f < 9223372036854775808 := by omega
    have HDF := hid hdf
    have HLD := hid (dg_len10 (n := d) (by omega))
    clear hk hto ham hdf
    go_wp2_with fail
    refine (txnum_any _ _ (d : Int) w3 hv3 (by omega) (by have := HDF.out; omega) (by have := HPL.out; omega)).mono ?_
    rintro e w4 ⟨v4, rfl, ho4, hb4'⟩
    have hb4 := hb3.trans (hb4'.mono hb3.size)
    rw [Int.toNat_natCast] at ho4
    have e4 := HC.out w4 hb4 4
    simp at e4
    clear d2 d3 d5
    go_wp2_with fail
    refine (txnum_any _ _ (f : Int) w4 ho4.byt (by omega) (by have := HDF.out; omega) (by rw [List.length_append]; have := HPL.out; have := HLD.out; omega)).mono ?_
    rintro e w5 ⟨v5, rfl, ho5, hb5'⟩
    have hb5 := hb4.trans (hb5'.mono hb4.size)
    rw [Int.toNat_natCast] at ho5
    clear e4
    go_wp2_with fail
    go_ret
    refine ⟨v5, rfl, ?_, hn0.trans (hb5.mono hn0.size)⟩
    rw [bytesT_one]
    rw [← HP.out] at ho5
    simp only [List.append_assoc] at ho5
    exact ho5.more (by have := HW.out; have := hb4.size; omega)
  · have HKM := hid (show key.length ≤ maxLen by have := keyOk_len hky; unfold maxLen; omega)
    have HVM := hid (show val.length ≤ maxLen by unfold maxLen; omega)
    have HKL := hid (show key.length ≤ 16 by have := keyOk_len hky; omega)
    have HVL := hid hvl
    obtain rfl : c = 2 := by omega
    clear hk hky hvl
    obtain ⟨v4, w4, hcv4, hby4, hb4'⟩ := run_bs key w3 HKM.out
    rw [HS.out] at hcv4
    have hb4 := hb3.trans (hb4'.mono hb3.size)
    have hv34 := hv3.below hb4'
    go_wp2_with fail
    refine (text_any v3 v4 P key w4 hv34 hby4 (by have := HPL.out; omega) (by have := HKL.out; omega)).mono ?_
    rintro e w5 ⟨v5, rfl, ho5, hb5'⟩
    have hb5 := hb4.trans (hb5'.mono hb4.size)
    have e6 := HC.out w5 hb5 6
    simp at e6
    obtain ⟨v6, w6, hcv6, hby6, hb6'⟩ := run_bs val w5 HVM.out
    rw [HU.out] at hcv6
    have hb6 := hb5.trans (hb6'.mono hb5.size)
    have hv56 := ho5.byt.below hb6'
    clear hcv4 d2 d3 d5
    go_wp2_with fail
    refine (text_any v5 v6 (P ++ tx key) val w6 hv56 hby6 (by rw [List.length_append, tx_len]; have := HPL.out; have := HKL.out; have := dg_len10 (n := key.length) (by omega); omega) (by have := HVL.out; omega)).mono ?_
    rintro e w7 ⟨v7, rfl, ho7, hb7'⟩
    have hb7 := hb6.trans (hb7'.mono hb6.size)
    clear hcv6 e6
    go_wp2_with fail
    go_ret
    refine ⟨v7, rfl, ?_, hn0.trans (hb7.mono hn0.size)⟩
    rw [bytesT_two]
    rw [← HP.out] at ho7
    simp only [List.append_assoc] at ho7
    exact ho7.more (by have := HW.out; have := hb6.size; omega)
  · have HKM := hid (show key.length ≤ maxLen by have := keyOk_len hky; unfold maxLen; omega)
    have HKL := hid (show key.length ≤ 16 by have := keyOk_len hky; omega)
    obtain rfl : c = 3 := by omega
    clear hk hky
    obtain ⟨v4, w4, hcv4, hby4, hb4'⟩ := run_bs key w3 HKM.out
    rw [HS.out] at hcv4
    have hb4 := hb3.trans (hb4'.mono hb3.size)
    have hv34 := hv3.below hb4'
    go_wp2_with fail
    refine (text_any v3 v4 P key w4 hv34 hby4 (by have := HPL.out; omega) (by have := HKL.out; omega)).mono ?_
    rintro e w5 ⟨v5, rfl, ho5, hb5'⟩
    have hb5 := hb4.trans (hb5'.mono hb4.size)
    clear hcv4 d2 d3 d5
    go_wp2_with fail
    go_ret
    refine ⟨v5, rfl, ?_, hn0.trans (hb5.mono hn0.size)⟩
    rw [bytesT_three]
    rw [← HP.out] at ho5
    simp only [List.append_assoc] at ho5
    exact ho5.more (by have := HW.out; have := hb4.size; omega)
set_option maxHeartbeats 3200000 in
theorem txPut_ok : TxPutOk := by
  intro v l t w hv hl ht
  obtain ⟨hk, hw⟩ := ht
  have HCK := hid (fun w => txCheck_any t w (by omega) (by omega))
  obtain ⟨m, HM⟩ : ∃ m : Bool, Hid (mayT t = m) := ⟨_, hid rfl⟩
  have HOW := hid (fun w (h : mayT t = true) => txown_any t w h)
  have HL := hid hl
  clear hk hw hl
  have hr0 := heap_alloc_new w (.cells #[.int .i64 t.fr, .int .i64 t.no, .int .i64 t.ki, .int .i64 t.to, .int .i64 t.am, .string (sb t.key), .string (sb t.val)] 36)
  have hb0 : Below w.heap.size w (w.alloc (.cells #[.int .i64 t.fr, .int .i64 t.no, .int .i64 t.ki, .int .i64 t.to, .int .i64 t.am, .string (sb t.key), .string (sb t.val)] 36)) := (Below.refl _ _).alloc (Nat.le_refl _) _
  have HPT : Hid (putT l t = if m = true then l ++ bytesT t else l) := hid (by unfold putT; rw [HM.out])
  unfold txv
  go_enter Tryz.func61, Tryz.ntmps61
  go_upto_region 1 with (fail)
  generalize (w.alloc (.cells #[.int .i64 t.fr, .int .i64 t.no, .int .i64 t.ki, .int .i64 t.to, .int .i64 t.am, .string (sb t.key), .string (sb t.val)] 36)) = w0 at *
  have hl0 := lt_of_block hr0
  have HLD : Hid (∀ W : World, Below w0.heap.size w0 W → loadTx (.pointer (some ⟨w.heap.size, 0, none⟩)) W = .ok (.value (.agg #[.int .i64 t.fr, .int .i64 t.no, .int .i64 t.ki, .int .i64 t.to, .int .i64 t.am, .string (sb t.key), .string (sb t.val)])) W) := hid (fun W h => loadTx_eq ((h.block _ hl0).trans hr0) rfl)
  have l0 := HLD.out w0 (Below.refl _ _)
  clear hr0 hl0
  have hv0 := hv.below hb0
  have HB0 := hid hb0
  clear hb0 hv
  go_wp2_with fail
  refine (HCK.out w0).mono ?_
  rintro e w1 ⟨rfl, hb1⟩
  rw [HM.out]
  have hB1 := HB0.out.trans (hb1.mono HB0.out.size)
  have hv1 := hv0.below hb1
  cases m with
  | false =>
    obtain ⟨A, c, rfl⟩ := hv1.shape
    clear l0
    go_wp2_with fail
    refine (concat1 _ l w1.heap.size _ (w1.alloc (.cells #[.slice A l.length c] 41)) (by simp) (by simp) (hv1.alloc _) (by have := HL.out; omega)).mono ?_
    rintro e w2 ⟨x, rfl, ho2, hb2⟩
    go_wp2_with fail
    go_ret
    refine ⟨x, rfl, by rw [HPT.out]; exact ho2.byt, ?_⟩
    exact (hB1.alloc hB1.size _).trans (hb2.mono (by have := hB1.size; simp; omega))
  | true =>
    have l1 := HLD.out w1 hb1
    clear l0
    go_wp2_with fail
    refine (HOW.out w1 HM.out).mono ?_
    rintro e w2 ⟨x, rfl, ho2, hb2⟩
    have hB2 := hB1.trans (hb2.mono hB1.size)
    have hv2 := hv1.below hb2
    have hx2 := ho2.byt
    obtain ⟨A, c, rfl⟩ := hv2.shape
    obtain ⟨A2, c2, rfl⟩ := hx2.shape
    clear l1
    go_wp2_with fail
    have hlen : (bytesT t).length ≤ 1000000 := Nat.le_trans (bytesT_len HM.out) (by decide)
    refine (concat2 _ _ l (bytesT t) w2.heap.size _ (w2.alloc (.cells #[.slice A l.length c, .slice A2 (bytesT t).length c2] 41)) (by simp) (by simp) (by simp) (hv2.alloc _) (hx2.alloc _) (by have := HL.out; omega)).mono ?_
    rintro e w3 ⟨y, rfl, ho3, hb3⟩
    go_wp2_with fail
    go_ret
    refine ⟨y, rfl, by rw [HPT.out]; exact ho3.byt, ?_⟩
    exact (hB2.alloc hB2.size _).trans (hb3.mono (by have := hB2.size; simp; omega))
end Go.Proofs.YtjemfmbmlmogcaaGreat
namespace Go.Proofs.YtjemfmbmlmogcaaGreat
set_option maxRecDepth 20000
open Go.RowKit
theorem grown_setNew {w0 w : World} {row : Option Nat} (h : w0.grownBy w row) (a : Addr) (u : Value) (ha : w0.heap.size ≤ a.block) : w0.grownBy (w.setCell a u) row :=
  ⟨h.os, h.tape, h.output, by simpa using h.size, fun k hk hr => (Below.heap_setCell w a u k (fun e => by omega)).trans (h.block k hk hr)⟩
theorem results_tb {fn : Func} {q s : Tmp} (h : fn.results = #[.cell q 36, .tmp s]) (tmps : Array Value) (w : World) (g2 : Nat) (t2 : TypeId) (ys : Array Value) (v : Value)
    (hq : tmps.getD q undef = .pointer (some ⟨g2, 0, none⟩)) (hv : tmps.getD s undef = v) (h2 : w.heap[g2]? = some (.cells ys t2 (0, 0))) (hy : ys.size = 7) :
    (results fn tmps).run Tryz.prog w = .ok (.tuple #[.agg ys, v]) w := by
  have hq' : tmps[q]?.getD undef = .pointer (some ⟨g2, 0, none⟩) := by simpa using hq
  have hv' : tmps[s]?.getD undef = v := by simpa using hv
  have r2 := run_loadVar_row (P := Tryz.prog) w g2 t2 36 ys (0, 0) _ h2 under_tx rfl (by rw [size_tx, hy])
  simp [results, h, hq', hv', asAddr, r2]
structure QSt (w0 w : World) (g : Nat) (l : List UInt8) (p : Nat) (r : Bool) (t : Array Value) : Prop where
  lt : g < w0.heap.size
  gr : w0.grownBy w (some g)
  rd : Rdr w g l p r
  b0 : w.heap[w0.heap.size]? = some (.cells zeroTx 36 (0, 0))
  b1 : w.heap[w0.heap.size + 1]? = some (.cells t 36 (0, 0))
section
variable {w0 w w' : World} {g : Nat} {l : List UInt8} {p : Nat} {r : Bool} {t : Array Value}
theorem QSt.new (h : Rdr w0 g l p r) : QSt w0 ((w0.alloc (.cells zeroTx 36)).alloc (.cells zeroTx 36)) g l p r zeroTx := by
  have hb : Below w0.heap.size w0 ((w0.alloc (.cells zeroTx 36)).alloc (.cells zeroTx 36)) := ((Below.refl _ _).alloc (Nat.le_refl _) _).alloc (by simp) _
  exact ⟨h.lt, grown_of_below hb _, h.below hb, heap1 w0 _ _, heap_alloc2_new w0 _ _⟩
theorem QSt.grow (h : QSt w0 w g l p r t) {p' : Nat} {r' : Bool} (hr : Rdr w' g l p' r') (hg : w.grownBy w' (some g)) : QSt w0 w' g l p' r' t := by
  have h0 := lt_of_block h.b0
  have h1 := lt_of_block h.b1
  have hlt := h.lt
  exact ⟨hlt, h.gr.trans hg, hr, (hg.block _ h0 (fun e => by injection e with e; omega)).trans h.b0, (hg.block _ h1 (fun e => by injection e with e; omega)).trans h.b1⟩
theorem QSt.below (h : QSt w0 w g l p r t) (hb : Below w.heap.size w w') : QSt w0 w' g l p r t := h.grow (h.rd.below hb) (grown_of_below hb _)
theorem QSt.set (h : QSt w0 w g l p r t) (i : Nat) (u : Value) : QSt w0 (w.setCell ⟨w0.heap.size + 1, i, none⟩ u) g l p r (t.setIfInBounds i u) := by
  have hlt := h.lt
  exact ⟨hlt, grown_setNew h.gr _ _ (Nat.le_succ _), h.rd.apart (grown_set _ _ _ _) h.b1 (by decide) (by omega), blk_other h.b0 u (by omega), set_blk h.b1 i u⟩
theorem QSt.cells {t0 t1 t2 t3 t4 t5 t6 : Value} (h : QSt w0 w g l p r #[t0, t1, t2, t3, t4, t5, t6]) :
    (w.cell? ⟨w0.heap.size + 1, 0, none⟩ = some t0 ∧ w.cell? ⟨w0.heap.size + 1, 1, none⟩ = some t1 ∧ w.cell? ⟨w0.heap.size + 1, 2, none⟩ = some t2 ∧ w.cell? ⟨w0.heap.size + 1, 3, none⟩ = some t3 ∧ w.cell? ⟨w0.heap.size + 1, 4, none⟩ = some t4 ∧ w.cell? ⟨w0.heap.size + 1, 5, none⟩ = some t5 ∧ w.cell? ⟨w0.heap.size + 1, 6, none⟩ = some t6) ∧
    (∀ i, w.frozen? ⟨w0.heap.size, i, none⟩ = false) ∧ (∀ i, w.frozen? ⟨w0.heap.size + 1, i, none⟩ = false) :=
  ⟨⟨cell_blk h.b1 0, cell_blk h.b1 1, cell_blk h.b1 2, cell_blk h.b1 3, cell_blk h.b1 4, cell_blk h.b1 5, cell_blk h.b1 6⟩, free_blk h.b0, free_blk h.b1⟩
theorem QSt.cells2 (h : QSt w0 w g l p r t) : w.cell? ⟨w0.heap.size, 0, none⟩ = some (.int .i64 0) ∧ w.cell? ⟨w0.heap.size, 1, none⟩ = some (.int .i64 0) ∧ w.cell? ⟨w0.heap.size, 2, none⟩ = some (.int .i64 0) ∧ w.cell? ⟨w0.heap.size, 3, none⟩ = some (.int .i64 0) ∧ w.cell? ⟨w0.heap.size, 4, none⟩ = some (.int .i64 0) ∧ w.cell? ⟨w0.heap.size, 5, none⟩ = some (.string { data := #[] }) ∧ w.cell? ⟨w0.heap.size, 6, none⟩ = some (.string { data := #[] }) :=
  ⟨cell_blk h.b0 0, cell_blk h.b0 1, cell_blk h.b0 2, cell_blk h.b0 3, cell_blk h.b0 4, cell_blk h.b0 5, cell_blk h.b0 6⟩
theorem QSt.fin (h : QSt w0 w g l p r t) (u0 u1 u2 u3 u4 u5 u6 : Value) :
    (((((((w.setCell ⟨w0.heap.size, 0, none⟩ u0).setCell ⟨w0.heap.size, 1, none⟩ u1).setCell ⟨w0.heap.size, 2, none⟩ u2).setCell ⟨w0.heap.size, 3, none⟩ u3).setCell ⟨w0.heap.size, 4, none⟩ u4).setCell ⟨w0.heap.size, 5, none⟩ u5).setCell ⟨w0.heap.size, 6, none⟩ u6).heap[w0.heap.size]? = some (.cells #[u0, u1, u2, u3, u4, u5, u6] 36 (0, 0)) ∧
    Rdr (((((((w.setCell ⟨w0.heap.size, 0, none⟩ u0).setCell ⟨w0.heap.size, 1, none⟩ u1).setCell ⟨w0.heap.size, 2, none⟩ u2).setCell ⟨w0.heap.size, 3, none⟩ u3).setCell ⟨w0.heap.size, 4, none⟩ u4).setCell ⟨w0.heap.size, 5, none⟩ u5).setCell ⟨w0.heap.size, 6, none⟩ u6) g l p r ∧
    w0.grownBy (((((((w.setCell ⟨w0.heap.size, 0, none⟩ u0).setCell ⟨w0.heap.size, 1, none⟩ u1).setCell ⟨w0.heap.size, 2, none⟩ u2).setCell ⟨w0.heap.size, 3, none⟩ u3).setCell ⟨w0.heap.size, 4, none⟩ u4).setCell ⟨w0.heap.size, 5, none⟩ u5).setCell ⟨w0.heap.size, 6, none⟩ u6) (some g) := by
  have hlt := h.lt
  have k := fun (W : World) (C : Array Value) (hW : W.heap[w0.heap.size]? = some (.cells C 36 (0, 0))) (hR : Rdr W g l p r) (hG : w0.grownBy W (some g)) (i : Nat) (u : Value) =>
    (show (W.setCell ⟨w0.heap.size, i, none⟩ u).heap[w0.heap.size]? = some (.cells (C.setIfInBounds i u) 36 (0, 0)) ∧ Rdr (W.setCell ⟨w0.heap.size, i, none⟩ u) g l p r ∧ w0.grownBy (W.setCell ⟨w0.heap.size, i, none⟩ u) (some g) from
      ⟨set_blk hW i u, hR.apart (grown_set _ _ _ _) hW (by decide) (by omega), grown_setNew hG _ _ (Nat.le_refl _)⟩)
  obtain ⟨a1, a2, a3⟩ := k w zeroTx h.b0 h.rd h.gr 0 u0
  obtain ⟨a1, a2, a3⟩ := k _ _ a1 a2 a3 1 u1
  obtain ⟨a1, a2, a3⟩ := k _ _ a1 a2 a3 2 u2
  obtain ⟨a1, a2, a3⟩ := k _ _ a1 a2 a3 3 u3
  obtain ⟨a1, a2, a3⟩ := k _ _ a1 a2 a3 4 u4
  obtain ⟨a1, a2, a3⟩ := k _ _ a1 a2 a3 5 u5
  exact k _ _ a1 a2 a3 6 u6
end
set_option maxHeartbeats 6400000 in
theorem txRead_ok : TxReadOk := by
  intro g l p r w hr hl
  have HU := hid (fun p r W (h : Rdr W g l p r) m (h1 : -9223372036854775808 ≤ m) (h2 : m ≤ 9223372036854775807) => upto_any g l p r m W h (by omega) h1 h2)
  have HT := hid (fun p r W (h : Rdr W g l p r) => rtext_any g l p r W h (by omega))
  have HWR := hid (fun p r W (h : Rdr W g l p r) => wrong_any g l p r W h)
  have hst0 := QSt.new hr
  unfold zeroTx at hst0
  clear hr hl
  go_enter Tryz.func80, Tryz.ntmps80
  go_wp2_with fail
  obtain ⟨a1, p1, r1, HA1⟩ : ∃ x q s, Hid (rdUpto 40 l p r = (x, q, s)) := ⟨_, _, _, hid rfl⟩
  have hm1 : a1 ≤ 40 := by have := rdUpto_le (m := 40) (l := l) (p := p) (r := r); rw [show ((40 : Nat) : Int) = 40 from rfl, HA1.out] at this; exact this
  have C := HU.out p r _ (hst0).rd 40 (by omega) (by omega)
  rw [HA1.out] at C
  refine C.mono ?_
  clear C
  rintro e w1 ⟨rfl, hrd, hgr⟩
  have hst : QSt w w1 g l p1 r1 #[.int .i64 0, .int .i64 0, .int .i64 0, .int .i64 0, .int .i64 0, .string { data := #[] }, .string { data := #[] }] := (hst0).grow hrd hgr
  clear hrd hgr hst0
  obtain ⟨⟨c0, c1, c2, c3, c4, c5, c6⟩, g0, g1⟩ := hst.cells
  have HST := hid hst
  clear hst
  go_wp2_with fail
  obtain ⟨a2, p2, r2, HA2⟩ : ∃ x q s, Hid (rdUpto 1099511627776 l p1 r1 = (x, q, s)) := ⟨_, _, _, hid rfl⟩
  have hm2 : a2 ≤ 1099511627776 := by have := rdUpto_le (m := 1099511627776) (l := l) (p := p1) (r := r1); rw [show ((1099511627776 : Nat) : Int) = 1099511627776 from rfl, HA2.out] at this; exact this
  have C := HU.out p1 r1 _ (HST.out.set 0 (.int .i64 (a1 : Int))).rd 1099511627776 (by omega) (by omega)
  rw [HA2.out] at C
  refine C.mono ?_
  clear C
  rintro e w2 ⟨rfl, hrd, hgr⟩
  have hst : QSt w w2 g l p2 r2 #[.int .i64 (a1 : Int), .int .i64 0, .int .i64 0, .int .i64 0, .int .i64 0, .string { data := #[] }, .string { data := #[] }] := (HST.out.set 0 (.int .i64 (a1 : Int))).grow hrd hgr
  clear hrd hgr HST c0 c1 c2 c3 c4 c5 c6 g0 g1
  obtain ⟨⟨c0, c1, c2, c3, c4, c5, c6⟩, g0, g1⟩ := hst.cells
  have HST := hid hst
  clear hst
  go_wp2_with fail
  obtain ⟨a3, p3, r3, HA3⟩ : ∃ x q s, Hid (rdUpto 3 l p2 r2 = (x, q, s)) := ⟨_, _, _, hid rfl⟩
  have hm3 : a3 ≤ 3 := by have := rdUpto_le (m := 3) (l := l) (p := p2) (r := r2); rw [show ((3 : Nat) : Int) = 3 from rfl, HA3.out] at this; exact this
  have C := HU.out p2 r2 _ (HST.out.set 1 (.int .i64 (a2 : Int))).rd 3 (by omega) (by omega)
  rw [HA3.out] at C
  refine C.mono ?_
  clear C
  rintro e w3 ⟨rfl, hrd, hgr⟩
  have hst : QSt w w3 g l p3 r3 #[.int .i64 (a1 : Int), .int .i64 (a2 : Int), .int .i64 0, .int .i64 0, .int .i64 0, .string { data := #[] }, .string { data := #[] }] := (HST.out.set 1 (.int .i64 (a2 : Int))).grow hrd hgr
  clear hrd hgr HST c0 c1 c2 c3 c4 c5 c6 g0 g1
  obtain ⟨⟨c0, c1, c2, c3, c4, c5, c6⟩, g0, g1⟩ := hst.cells
  have HST := hid hst
  clear hst
  have HPp3 : Hid (p3 ≤ l.length) := hid HST.out.rd.le
  obtain ha3 | ha3 | ha3 | ha3 : a3 = 0 ∨ a3 = 1 ∨ a3 = 2 ∨ a3 = 3 := by omega
  all_goals subst ha3
  · clear hm3
    have HRAW : Hid (rdRaw l p r = (⟨(a1 : Int), (a2 : Int), 0, 0, 0, [], []⟩, p3, r3)) := hid (by unfold rdRaw rdTail; simp [HA1.out, HA2.out, HA3.out])
    go_upto_region 14 with (fail)
    have hst : QSt w (w3.setCell ⟨w.heap.size + 1, 2, none⟩ (.int .i64 0)) g l p3 r3 #[.int .i64 (a1 : Int), .int .i64 (a2 : Int), .int .i64 0, .int .i64 0, .int .i64 0, .string { data := #[] }, .string { data := #[] }] := HST.out.set 2 (.int .i64 0)
    generalize (w3.setCell ⟨w.heap.size + 1, 2, none⟩ (.int .i64 0)) = wz at hst ⊢
    clear HST c0 c1 c2 c3 c4 c5 c6 g0 g1
    obtain ⟨⟨c0, c1, c2, c3, c4, c5, c6⟩, g0, g1⟩ := hst.cells
    have HST := hid hst
    clear hst
    have hz := HST.out.cells2
    obtain ⟨z0, z1, z2, z3, z4, z5, z6⟩ := hz
    go_wp2_with fail
    refine (HWR.out p3 r3 wz HST.out.rd).mono ?_
    rintro e wy ⟨rfl, rfl⟩
    cases r3 with
    | false =>
      have hI : rdIs l p r = false := by unfold rdIs; rw [HRAW.out]; rfl
      go_wp2_with fail
      have hfin := HST.out.fin (.int .i64 0) (.int .i64 0) (.int .i64 0) (.int .i64 0) (.int .i64 0) (.string { data := #[] }) (.string { data := #[] })
      refine bodyPost_ret (results_tb rfl _ _ _ _ _ _ rfl rfl hfin.1 rfl) rfl ⟨?_, ⟨_, _, hfin.2.1, ?_⟩, hfin.2.2⟩
      · unfold rdTx
        rw [hI, if_neg (by decide)]
        rfl
      · rw [hI]
        intro h
        cases h
    | true =>
      go_wp2_with fail
      refine (txCheck_any ⟨(a1 : Int), (a2 : Int), 0, 0, 0, [], []⟩ wz (Nat.zero_le _) (Nat.zero_le _)).mono ?_
      rintro e wy ⟨rfl, hb⟩
      have hst := HST.out.below hb
      clear hb HST c0 c1 c2 c3 c4 c5 c6 g0 g1 z0 z1 z2 z3 z4 z5 z6
      obtain ⟨⟨c0, c1, c2, c3, c4, c5, c6⟩, g0, g1⟩ := hst.cells
      have HST := hid hst
      clear hst
      have hz := HST.out.cells2
      obtain ⟨z0, z1, z2, z3, z4, z5, z6⟩ := hz
      obtain ⟨m, HM⟩ : ∃ m : Bool, Hid (mayT ⟨(a1 : Int), (a2 : Int), 0, 0, 0, [], []⟩ = m) := ⟨_, hid rfl⟩
      rw [HM.out]
      have hI : rdIs l p r = m := by unfold rdIs; rw [HRAW.out]; exact HM.out
      cases m with
      | false =>
        go_wp2_with fail
        have hfin := HST.out.fin (.int .i64 0) (.int .i64 0) (.int .i64 0) (.int .i64 0) (.int .i64 0) (.string { data := #[] }) (.string { data := #[] })
        refine bodyPost_ret (results_tb rfl _ _ _ _ _ _ rfl rfl hfin.1 rfl) rfl ⟨?_, ⟨_, _, hfin.2.1, ?_⟩, hfin.2.2⟩
        · unfold rdTx
          rw [hI, if_neg (by decide)]
          rfl
        · rw [hI]
          intro h
          cases h
      | true =>
        go_wp2_with fail
        have hfin := HST.out.fin (.int .i64 (a1 : Int)) (.int .i64 (a2 : Int)) (.int .i64 0) (.int .i64 0) (.int .i64 0) (.string { data := #[] }) (.string { data := #[] })
        refine bodyPost_ret (results_tb rfl _ _ _ _ _ _ rfl rfl hfin.1 rfl) rfl ⟨?_, ⟨_, _, hfin.2.1, ?_⟩, hfin.2.2⟩
        · unfold rdTx
          rw [hI, if_pos rfl, HRAW.out]
          rfl
        · rw [HRAW.out]
          intro _
          exact ⟨rfl, rfl⟩
  · clear hm3
    go_wp2_with fail
    obtain ⟨a4, p4, r4, HA4⟩ : ∃ x q s, Hid (rdUpto 40 l p3 r3 = (x, q, s)) := ⟨_, _, _, hid rfl⟩
    have hm4 : a4 ≤ 40 := by have := rdUpto_le (m := 40) (l := l) (p := p3) (r := r3); rw [show ((40 : Nat) : Int) = 40 from rfl, HA4.out] at this; exact this
    have C := HU.out p3 r3 _ (HST.out.set 2 (.int .i64 1)).rd 40 (by omega) (by omega)
    rw [HA4.out] at C
    refine C.mono ?_
    clear C
    rintro e w4 ⟨rfl, hrd, hgr⟩
    have hst : QSt w w4 g l p4 r4 #[.int .i64 (a1 : Int), .int .i64 (a2 : Int), .int .i64 1, .int .i64 0, .int .i64 0, .string { data := #[] }, .string { data := #[] }] := (HST.out.set 2 (.int .i64 1)).grow hrd hgr
    clear hrd hgr HST c0 c1 c2 c3 c4 c5 c6 g0 g1
    obtain ⟨⟨c0, c1, c2, c3, c4, c5, c6⟩, g0, g1⟩ := hst.cells
    have HST := hid hst
    clear hst
    go_wp2_with fail
    obtain ⟨a5, p5, r5, HA5⟩ : ∃ x q s, Hid (rdUpto 1099511627776 l p4 r4 = (x, q, s)) := ⟨_, _, _, hid rfl⟩
    have hm5 : a5 ≤ 1099511627776 := by have := rdUpto_le (m := 1099511627776) (l := l) (p := p4) (r := r4); rw [show ((1099511627776 : Nat) : Int) = 1099511627776 from rfl, HA5.out] at this; exact this
    have C := HU.out p4 r4 _ (HST.out.set 3 (.int .i64 (a4 : Int))).rd 1099511627776 (by omega) (by omega)
    rw [HA5.out] at C
    refine C.mono ?_
    clear C
    rintro e w5 ⟨rfl, hrd, hgr⟩
    have hst : QSt w w5 g l p5 r5 #[.int .i64 (a1 : Int), .int .i64 (a2 : Int), .int .i64 1, .int .i64 (a4 : Int), .int .i64 0, .string { data := #[] }, .string { data := #[] }] := (HST.out.set 3 (.int .i64 (a4 : Int))).grow hrd hgr
    clear hrd hgr HST c0 c1 c2 c3 c4 c5 c6 g0 g1
    obtain ⟨⟨c0, c1, c2, c3, c4, c5, c6⟩, g0, g1⟩ := hst.cells
    have HST := hid hst
    clear hst
    have HRAW : Hid (rdRaw l p r = (⟨(a1 : Int), (a2 : Int), 1, (a4 : Int), (a5 : Int), [], []⟩, p5, r5)) := hid (by unfold rdRaw rdTail; simp [HA1.out, HA2.out, HA3.out, HA4.out, HA5.out])
    go_upto_region 14 with (fail)
    have hst : QSt w (w5.setCell ⟨w.heap.size + 1, 4, none⟩ (.int .i64 (a5 : Int))) g l p5 r5 #[.int .i64 (a1 : Int), .int .i64 (a2 : Int), .int .i64 1, .int .i64 (a4 : Int), .int .i64 (a5 : Int), .string { data := #[] }, .string { data := #[] }] := HST.out.set 4 (.int .i64 (a5 : Int))
    generalize (w5.setCell ⟨w.heap.size + 1, 4, none⟩ (.int .i64 (a5 : Int))) = wz at hst ⊢
    clear HST c0 c1 c2 c3 c4 c5 c6 g0 g1
    obtain ⟨⟨c0, c1, c2, c3, c4, c5, c6⟩, g0, g1⟩ := hst.cells
    have HST := hid hst
    clear hst
    have hz := HST.out.cells2
    obtain ⟨z0, z1, z2, z3, z4, z5, z6⟩ := hz
    go_wp2_with fail
    refine (HWR.out p5 r5 wz HST.out.rd).mono ?_
    rintro e wy ⟨rfl, rfl⟩
    cases r5 with
    | false =>
      have hI : rdIs l p r = false := by unfold rdIs; rw [HRAW.out]; rfl
      go_wp2_with fail
      have hfin := HST.out.fin (.int .i64 0) (.int .i64 0) (.int .i64 0) (.int .i64 0) (.int .i64 0) (.string { data := #[] }) (.string { data := #[] })
      refine bodyPost_ret (results_tb rfl _ _ _ _ _ _ rfl rfl hfin.1 rfl) rfl ⟨?_, ⟨_, _, hfin.2.1, ?_⟩, hfin.2.2⟩
      · unfold rdTx
        rw [hI, if_neg (by decide)]
        rfl
      · rw [hI]
        intro h
        cases h
    | true =>
      go_wp2_with fail
      refine (txCheck_any ⟨(a1 : Int), (a2 : Int), 1, (a4 : Int), (a5 : Int), [], []⟩ wz (Nat.zero_le _) (Nat.zero_le _)).mono ?_
      rintro e wy ⟨rfl, hb⟩
      have hst := HST.out.below hb
      clear hb HST c0 c1 c2 c3 c4 c5 c6 g0 g1 z0 z1 z2 z3 z4 z5 z6
      obtain ⟨⟨c0, c1, c2, c3, c4, c5, c6⟩, g0, g1⟩ := hst.cells
      have HST := hid hst
      clear hst
      have hz := HST.out.cells2
      obtain ⟨z0, z1, z2, z3, z4, z5, z6⟩ := hz
      obtain ⟨m, HM⟩ : ∃ m : Bool, Hid (mayT ⟨(a1 : Int), (a2 : Int), 1, (a4 : Int), (a5 : Int), [], []⟩ = m) := ⟨_, hid rfl⟩
      rw [HM.out]
      have hI : rdIs l p r = m := by unfold rdIs; rw [HRAW.out]; exact HM.out
      cases m with
      | false =>
        go_wp2_with fail
        have hfin := HST.out.fin (.int .i64 0) (.int .i64 0) (.int .i64 0) (.int .i64 0) (.int .i64 0) (.string { data := #[] }) (.string { data := #[] })
        refine bodyPost_ret (results_tb rfl _ _ _ _ _ _ rfl rfl hfin.1 rfl) rfl ⟨?_, ⟨_, _, hfin.2.1, ?_⟩, hfin.2.2⟩
        · unfold rdTx
          rw [hI, if_neg (by decide)]
          rfl
        · rw [hI]
          intro h
          cases h
      | true =>
        go_wp2_with fail
        have hfin := HST.out.fin (.int .i64 (a1 : Int)) (.int .i64 (a2 : Int)) (.int .i64 1) (.int .i64 (a4 : Int)) (.int .i64 (a5 : Int)) (.string { data := #[] }) (.string { data := #[] })
        refine bodyPost_ret (results_tb rfl _ _ _ _ _ _ rfl rfl hfin.1 rfl) rfl ⟨?_, ⟨_, _, hfin.2.1, ?_⟩, hfin.2.2⟩
        · unfold rdTx
          rw [hI, if_pos rfl, HRAW.out]
          rfl
        · rw [HRAW.out]
          intro _
          exact ⟨rfl, rfl⟩
  · clear hm3
    go_wp2_with fail
    obtain ⟨k4, p4, r4, HA4⟩ : ∃ x q s, Hid (rdText l p3 r3 = (x, q, s)) := ⟨_, _, _, hid rfl⟩
    have hm4 : k4.length ≤ 65536 := by have := (rdText_pl (l := l) (r := r3) HPp3.out).2; rw [HA4.out] at this; exact this
    have HPp4 : Hid (p4 ≤ l.length) := hid (by have := (rdText_pl (l := l) (r := r3) HPp3.out).1; rw [HA4.out] at this; exact this)
    have C := HT.out p3 r3 _ (HST.out.set 2 (.int .i64 2)).rd
    rw [HA4.out] at C
    refine C.mono ?_
    clear C
    rintro e w4 ⟨v4, rfl, ho, hrd, hgr⟩
    have hcv4 := run_sb ho.byt
    simp only at hcv4
    have hst : QSt w w4 g l p4 r4 #[.int .i64 (a1 : Int), .int .i64 (a2 : Int), .int .i64 2, .int .i64 0, .int .i64 0, .string { data := #[] }, .string { data := #[] }] := (HST.out.set 2 (.int .i64 2)).grow hrd hgr
    clear ho hrd hgr HST c0 c1 c2 c3 c4 c5 c6 g0 g1
    obtain ⟨⟨c0, c1, c2, c3, c4, c5, c6⟩, g0, g1⟩ := hst.cells
    have HST := hid hst
    clear hst
    go_wp2_with fail
    obtain ⟨k5, p5, r5, HA5⟩ : ∃ x q s, Hid (rdText l p4 r4 = (x, q, s)) := ⟨_, _, _, hid rfl⟩
    have hm5 : k5.length ≤ 65536 := by have := (rdText_pl (l := l) (r := r4) HPp4.out).2; rw [HA5.out] at this; exact this
    have HPp5 : Hid (p5 ≤ l.length) := hid (by have := (rdText_pl (l := l) (r := r4) HPp4.out).1; rw [HA5.out] at this; exact this)
    have C := HT.out p4 r4 _ (HST.out.set 5 (.string (sb k4))).rd
    rw [HA5.out] at C
    refine C.mono ?_
    clear C
    rintro e w5 ⟨v5, rfl, ho, hrd, hgr⟩
    have hcv5 := run_sb ho.byt
    simp only at hcv5
    have hst : QSt w w5 g l p5 r5 #[.int .i64 (a1 : Int), .int .i64 (a2 : Int), .int .i64 2, .int .i64 0, .int .i64 0, .string (sb k4), .string { data := #[] }] := (HST.out.set 5 (.string (sb k4))).grow hrd hgr
    clear ho hrd hgr HST c0 c1 c2 c3 c4 c5 c6 g0 g1
    obtain ⟨⟨c0, c1, c2, c3, c4, c5, c6⟩, g0, g1⟩ := hst.cells
    have HST := hid hst
    clear hst
    clear hcv4
    have HRAW : Hid (rdRaw l p r = (⟨(a1 : Int), (a2 : Int), 2, 0, 0, k4, k5⟩, p5, r5)) := hid (by unfold rdRaw rdTail; simp [HA1.out, HA2.out, HA3.out, HA4.out, HA5.out])
    go_upto_region 14 with (fail)
    have hst : QSt w (w5.setCell ⟨w.heap.size + 1, 6, none⟩ (.string (sb k5))) g l p5 r5 #[.int .i64 (a1 : Int), .int .i64 (a2 : Int), .int .i64 2, .int .i64 0, .int .i64 0, .string (sb k4), .string (sb k5)] := HST.out.set 6 (.string (sb k5))
    generalize (w5.setCell ⟨w.heap.size + 1, 6, none⟩ (.string (sb k5))) = wz at hst ⊢
    clear HST c0 c1 c2 c3 c4 c5 c6 g0 g1
    obtain ⟨⟨c0, c1, c2, c3, c4, c5, c6⟩, g0, g1⟩ := hst.cells
    have HST := hid hst
    clear hst
    have hz := HST.out.cells2
    obtain ⟨z0, z1, z2, z3, z4, z5, z6⟩ := hz
    go_wp2_with fail
    refine (HWR.out p5 r5 wz HST.out.rd).mono ?_
    rintro e wy ⟨rfl, rfl⟩
    cases r5 with
    | false =>
      have hI : rdIs l p r = false := by unfold rdIs; rw [HRAW.out]; rfl
      go_wp2_with fail
      have hfin := HST.out.fin (.int .i64 0) (.int .i64 0) (.int .i64 0) (.int .i64 0) (.int .i64 0) (.string { data := #[] }) (.string { data := #[] })
      refine bodyPost_ret (results_tb rfl _ _ _ _ _ _ rfl rfl hfin.1 rfl) rfl ⟨?_, ⟨_, _, hfin.2.1, ?_⟩, hfin.2.2⟩
      · unfold rdTx
        rw [hI, if_neg (by decide)]
        rfl
      · rw [hI]
        intro h
        cases h
    | true =>
      go_wp2_with fail
      refine (txCheck_any ⟨(a1 : Int), (a2 : Int), 2, 0, 0, k4, k5⟩ wz (show k4.length ≤ 1000000 by omega) (show k5.length ≤ 1000000 by omega)).mono ?_
      rintro e wy ⟨rfl, hb⟩
      have hst := HST.out.below hb
      clear hb HST c0 c1 c2 c3 c4 c5 c6 g0 g1 z0 z1 z2 z3 z4 z5 z6
      obtain ⟨⟨c0, c1, c2, c3, c4, c5, c6⟩, g0, g1⟩ := hst.cells
      have HST := hid hst
      clear hst
      have hz := HST.out.cells2
      obtain ⟨z0, z1, z2, z3, z4, z5, z6⟩ := hz
      obtain ⟨m, HM⟩ : ∃ m : Bool, Hid (mayT ⟨(a1 : Int), (a2 : Int), 2, 0, 0, k4, k5⟩ = m) := ⟨_, hid rfl⟩
      rw [HM.out]
      have hI : rdIs l p r = m := by unfold rdIs; rw [HRAW.out]; exact HM.out
      cases m with
      | false =>
        go_wp2_with fail
        have hfin := HST.out.fin (.int .i64 0) (.int .i64 0) (.int .i64 0) (.int .i64 0) (.int .i64 0) (.string { data := #[] }) (.string { data := #[] })
        refine bodyPost_ret (results_tb rfl _ _ _ _ _ _ rfl rfl hfin.1 rfl) rfl ⟨?_, ⟨_, _, hfin.2.1, ?_⟩, hfin.2.2⟩
        · unfold rdTx
          rw [hI, if_neg (by decide)]
          rfl
        · rw [hI]
          intro h
          cases h
      | true =>
        go_wp2_with fail
        have hfin := HST.out.fin (.int .i64 (a1 : Int)) (.int .i64 (a2 : Int)) (.int .i64 2) (.int .i64 0) (.int .i64 0) (.string (sb k4)) (.string (sb k5))
        refine bodyPost_ret (results_tb rfl _ _ _ _ _ _ rfl rfl hfin.1 rfl) rfl ⟨?_, ⟨_, _, hfin.2.1, ?_⟩, hfin.2.2⟩
        · unfold rdTx
          rw [hI, if_pos rfl, HRAW.out]
          rfl
        · rw [HRAW.out]
          intro _
          exact ⟨rfl, rfl⟩
  · clear hm3
    go_wp2_with fail
    obtain ⟨k4, p4, r4, HA4⟩ : ∃ x q s, Hid (rdText l p3 r3 = (x, q, s)) := ⟨_, _, _, hid rfl⟩
    have hm4 : k4.length ≤ 65536 := by have := (rdText_pl (l := l) (r := r3) HPp3.out).2; rw [HA4.out] at this; exact this
    have HPp4 : Hid (p4 ≤ l.length) := hid (by have := (rdText_pl (l := l) (r := r3) HPp3.out).1; rw [HA4.out] at this; exact this)
    have C := HT.out p3 r3 _ (HST.out.set 2 (.int .i64 3)).rd
    rw [HA4.out] at C
    refine C.mono ?_
    clear C
    rintro e w4 ⟨v4, rfl, ho, hrd, hgr⟩
    have hcv4 := run_sb ho.byt
    simp only at hcv4
    have hst : QSt w w4 g l p4 r4 #[.int .i64 (a1 : Int), .int .i64 (a2 : Int), .int .i64 3, .int .i64 0, .int .i64 0, .string { data := #[] }, .string { data := #[] }] := (HST.out.set 2 (.int .i64 3)).grow hrd hgr
    clear ho hrd hgr HST c0 c1 c2 c3 c4 c5 c6 g0 g1
    obtain ⟨⟨c0, c1, c2, c3, c4, c5, c6⟩, g0, g1⟩ := hst.cells
    have HST := hid hst
    clear hst
    have HRAW : Hid (rdRaw l p r = (⟨(a1 : Int), (a2 : Int), 3, 0, 0, k4, []⟩, p4, r4)) := hid (by unfold rdRaw rdTail; simp [HA1.out, HA2.out, HA3.out, HA4.out])
    go_upto_region 14 with (fail)
    have hst : QSt w (w4.setCell ⟨w.heap.size + 1, 5, none⟩ (.string (sb k4))) g l p4 r4 #[.int .i64 (a1 : Int), .int .i64 (a2 : Int), .int .i64 3, .int .i64 0, .int .i64 0, .string (sb k4), .string { data := #[] }] := HST.out.set 5 (.string (sb k4))
    generalize (w4.setCell ⟨w.heap.size + 1, 5, none⟩ (.string (sb k4))) = wz at hst ⊢
    clear HST c0 c1 c2 c3 c4 c5 c6 g0 g1
    obtain ⟨⟨c0, c1, c2, c3, c4, c5, c6⟩, g0, g1⟩ := hst.cells
    have HST := hid hst
    clear hst
    have hz := HST.out.cells2
    obtain ⟨z0, z1, z2, z3, z4, z5, z6⟩ := hz
    go_wp2_with fail
    refine (HWR.out p4 r4 wz HST.out.rd).mono ?_
    rintro e wy ⟨rfl, rfl⟩
    cases r4 with
    | false =>
      have hI : rdIs l p r = false := by unfold rdIs; rw [HRAW.out]; rfl
      go_wp2_with fail
      have hfin := HST.out.fin (.int .i64 0) (.int .i64 0) (.int .i64 0) (.int .i64 0) (.int .i64 0) (.string { data := #[] }) (.string { data := #[] })
      refine bodyPost_ret (results_tb rfl _ _ _ _ _ _ rfl rfl hfin.1 rfl) rfl ⟨?_, ⟨_, _, hfin.2.1, ?_⟩, hfin.2.2⟩
      · unfold rdTx
        rw [hI, if_neg (by decide)]
        rfl
      · rw [hI]
        intro h
        cases h
    | true =>
      go_wp2_with fail
      refine (txCheck_any ⟨(a1 : Int), (a2 : Int), 3, 0, 0, k4, []⟩ wz (show k4.length ≤ 1000000 by omega) (Nat.zero_le _)).mono ?_
      rintro e wy ⟨rfl, hb⟩
      have hst := HST.out.below hb
      clear hb HST c0 c1 c2 c3 c4 c5 c6 g0 g1 z0 z1 z2 z3 z4 z5 z6
      obtain ⟨⟨c0, c1, c2, c3, c4, c5, c6⟩, g0, g1⟩ := hst.cells
      have HST := hid hst
      clear hst
      have hz := HST.out.cells2
      obtain ⟨z0, z1, z2, z3, z4, z5, z6⟩ := hz
      obtain ⟨m, HM⟩ : ∃ m : Bool, Hid (mayT ⟨(a1 : Int), (a2 : Int), 3, 0, 0, k4, []⟩ = m) := ⟨_, hid rfl⟩
      rw [HM.out]
      have hI : rdIs l p r = m := by unfold rdIs; rw [HRAW.out]; exact HM.out
      cases m with
      | false =>
        go_wp2_with fail
        have hfin := HST.out.fin (.int .i64 0) (.int .i64 0) (.int .i64 0) (.int .i64 0) (.int .i64 0) (.string { data := #[] }) (.string { data := #[] })
        refine bodyPost_ret (results_tb rfl _ _ _ _ _ _ rfl rfl hfin.1 rfl) rfl ⟨?_, ⟨_, _, hfin.2.1, ?_⟩, hfin.2.2⟩
        · unfold rdTx
          rw [hI, if_neg (by decide)]
          rfl
        · rw [hI]
          intro h
          cases h
      | true =>
        go_wp2_with fail
        have hfin := HST.out.fin (.int .i64 (a1 : Int)) (.int .i64 (a2 : Int)) (.int .i64 3) (.int .i64 0) (.int .i64 0) (.string (sb k4)) (.string { data := #[] })
        refine bodyPost_ret (results_tb rfl _ _ _ _ _ _ rfl rfl hfin.1 rfl) rfl ⟨?_, ⟨_, _, hfin.2.1, ?_⟩, hfin.2.2⟩
        · unfold rdTx
          rw [hI, if_pos rfl, HRAW.out]
          rfl
        · rw [HRAW.out]
          intro _
          exact ⟨rfl, rfl⟩
end Go.Proofs.YtjemfmbmlmogcaaGreat
