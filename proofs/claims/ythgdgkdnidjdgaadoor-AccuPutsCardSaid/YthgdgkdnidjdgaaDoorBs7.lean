/-
  Concat KCheck AtCodeMay AtCodeTagged HashZero AtCodeSign AtCodeRight AtCodePut AtCodeRead AtCodeAlike AtCode Check: what each of them says stands at its head.
-/
import Derived.Test.YthgdgkdnidjdgaaDoorBs1
import Derived.Test.YthgdgkdnidjdgaaDoorBs6
import Derived.Deep.RegionHeld3
import Derived.Deep.QuietTactic
import Derived.BigQuiet
import Derived.Test.YthgdgkdnidjdgaaDoorBs2
import Derived.Test.YthgdgkdnidjdgaaDoorBs3
import Derived.Test.YthgdgkdnidjdgaaDoorBs4
/-
  slices.Grow of nothing, slices.Concat of bytes: the parts' bytes, one behind the other, in a row of their own.
-/
namespace Go.Proofs.YthgdgkdnidjdgaaDoor
set_option maxRecDepth 20000
open Go.RowKit

theorem own_none {B : Nat} {w : World} {v : Value} {l : List UInt8} (h : Own B w v l) (A : Option Addr) (n c : Nat) (e : v = .slice A n c) : Own B w (.slice A 0 c) [] := by
  subst e
  refine ⟨rfl, ?_⟩
  rcases h.2 with ⟨e, _⟩ | ⟨g, cap, cur, e, hg, hh, hn, hm, hs, ht⟩
  · cases e
    exact .inl ⟨rfl, rfl⟩
  · cases e
    exact .inr ⟨g, c, cur, rfl, hg, hh, Nat.zero_le _, hm, hs, by simp [bcells]⟩

theorem wpList_append_zeros {ops : Array Oper} {rest : List Oper} {o : Oper} {a : Act} {Q : Exit → Act → World → Prop} {w : World} (hgd : o.guard = none) (s y : Operand)
    (ho : o.op = .call { callee := .builtin .append, args := #[s, y], argTypes := #[40, 3] })
    {B : Nat} {v : Value} {l : List UInt8} {k : Nat} (hes : a.eval s = v) (hey : a.eval y = .int .i64 (k : Int)) (hv : Own B w v l) (hs : l.length + k ≤ 140737488355328) (hB : B ≤ w.heap.size)
    (h : ∀ A c w', Own B w' (.slice A (l.length + k) c) (l ++ List.replicate k 0) → w.grownBy w' v.ownBlock → wpList Tryd.prog ops Q rest (a.put o.dst (.slice A (l.length + k) c)) w') :
    wpList Tryd.prog ops Q (o :: rest) a w := by
  obtain ⟨v', w', hrun, h2, h3, _⟩ := run_append_zeros_byt k o.type hv hs hB
  obtain ⟨A, c, rfl⟩ := h2.byt.shape
  have e : (l ++ List.replicate k (0 : UInt8)).length = l.length + k := by simp
  rw [e] at h2 hrun
  exact wpList_plain hgd fun _ hK => Lib.wp_append_run w s y _ _ ho _ _ hes hey _ w' hrun (hK _ _ (h A c w' h2 h3))

set_option maxHeartbeats 1600000 in
theorem grow_any (n : Nat) (w : World) (hn : n ≤ 140737488355328) :
    Calls Tryd.prog 63 #[.slice none 0 0, .int .i64 (n : Int)] w fun e w' => ∃ v, e = .returned v ∧ Own w.heap.size w' v [] ∧ Below w.heap.size w w' := by
  by_cases h0 : n = 0
  · subst h0
    go_enter Tryd.func63, Tryd.ntmps63
    go_wp2_with fail
    go_ret
    exact ⟨_, rfl, Own.nil _ _, Below.refl _ _⟩
  · have h1 : (0 : Int) < (n : Int) := by omega
    have h2 : ¬ (n : Int) < 0 := by omega
    have hn2 : ([] : List UInt8).length + n ≤ 140737488355328 := by simpa using hn
    go_enter Tryd.func63, Tryd.ntmps63
    go_wp2_with (at_builtin; refine wpList_append_zeros rfl (.tmp 20) (.tmp 21) rfl rfl rfl (Own.nil w.heap.size w) hn2 (Nat.le_refl _) ?_; intro A1 c1 w1 ho1 hg1; have hm1 := ho1.byt.at_.2.2.1; unfold maxLen at hm1)
    go_ret
    exact ⟨_, rfl, own_none ho1 _ _ _ rfl, (Below.refl _ _).grown hg1 (Nat.le_refl _) (fun k hk => by cases hk)⟩

set_option maxHeartbeats 1600000 in
theorem concat_any (ls : List (List UInt8)) (vs : Nat → Value) (g n c : Nat) (w : World) (hn : ls.length = n) (hg : g < w.heap.size) (hc : ∀ j, j < n → w.cell? ⟨g, j, none⟩ = some (vs j))
    (hv : ∀ j (h : j < ls.length), Byt w (vs j) ls[j]) (hs : ls.flatten.length ≤ 1099511627776) (hn2 : n ≤ 1000) :
    Calls Tryd.prog 42 #[.slice (some ⟨g, 0, none⟩) n c] w fun e w' => ∃ v, e = .returned v ∧ Own w.heap.size w' v ls.flatten ∧ Below w.heap.size w w' := by
  go_enter Tryd.func42, Tryd.ntmps42
  have Hn := hid hn
  clear hn
  go_wp2
  go_loop [3, 11] (fun sz ix => ∃ k : Nat, k ≤ n ∧ ix = .int .i64 k ∧ sz = .int .i64 (tot ls k)) (fun _ ix => n - (intOf ix).toNat)
  case atStart => exact ⟨0, Nat.zero_le _, rfl, by rw [tot_zero]; rfl⟩
  case round =>
    obtain ⟨k, hk, rfl, rfl⟩ := hrel
    have htk := tot_le ls k
    by_cases hlt : k < n
    · have hlt' : k < ls.length := by rw [Hn.out]; exact hlt
      have hck := hc k hlt
      obtain ⟨A, cp, hvk, _⟩ := hv k hlt'
      have hts := tot_succ ls k hlt'
      have htk1 := tot_le ls (k + 1)
      have hb : tot ls k + ls[k].length ≤ 1099511627776 := by omega
      have hnn : ¬ ((tot ls k : Int) + (ls[k].length : Int) < 0) := by omega
      rw [hvk] at hck
      have HT := hid hts
      clear hts hvk hc hv
      go_wp2
      go_round
      case rel => exact ⟨k + 1, by omega, by go_num, by rw [HT.out]; go_num⟩
      case measure => simp [intOf]; omega
    · obtain rfl : k = n := by omega
      have hb3 : tot ls k ≤ 140737488355328 := by omega
      go_wp2_with fail
      refine (grow_any _ w hb3).mono ?_
      rintro e w0 ⟨v0, rfl, hv0, hb0⟩
      go_wp2
      go_loopw [6, 27] (fun out ix wr => ∃ j : Nat, j ≤ k ∧ ix = .int .i64 j ∧ Own w.heap.size wr out (ls.take j).flatten ∧ Below w.heap.size w wr) (fun _ ix _ => k - (intOf ix).toNat)
      case atStart => exact ⟨0, Nat.zero_le _, rfl, by simpa using hv0, hb0⟩
      case round =>
        obtain ⟨j, hj, rfl, hown, hbw⟩ := hrel
        by_cases hlt2 : j < k
        · have hlt' : j < ls.length := by rw [Hn.out]; exact hlt2
          have hcj : wr.cell? ⟨g, j, none⟩ = some (vs j) := (hbw.cell (p := ⟨g, j, none⟩) hg).trans (hc j hlt2)
          have hvj := (hv j hlt').below hbw
          have hsum : (ls.take j).flatten.length + ls[j].length ≤ 140737488355328 := by
            have := tot_succ ls j hlt'
            have := tot_le ls (j + 1)
            unfold tot at *
            omega
          have hbs := hbw.size
          go_wp2_with (at_builtin; refine wpList_append_byt rfl (.tmp 31) (.tmp 32) rfl rfl rfl hown hvj hsum hbs ?_; intro v1 w1 hown1 hg1 _)
          have hfl : (ls.take j).flatten ++ ls[j] = (ls.take (j + 1)).flatten := take_flat ls j hlt'
          have hb1 : Below w.heap.size w w1 := hbw.grown hg1 hbs (fun k hk => (World.ownsRow.lt hown k hk).1)
          rw [hfl] at hown1
          clear hfl hg1
          go_roundw
          case rel => exact ⟨j + 1, by omega, by go_num, hown1, hb1⟩
          case measure => simp [intOf]; omega
        · obtain rfl : j = k := by omega
          go_wp2
          go_ret
          refine ⟨_, rfl, ?_, hbw⟩
          have e : ls.take j = ls := by rw [← Hn.out]; exact List.take_length
          rw [e] at hown
          exact hown

theorem concat1 (u : Value) (l : List UInt8) (g c : Nat) (w : World) (hg : g < w.heap.size) (c0 : w.cell? ⟨g, 0, none⟩ = some u) (hu : Byt w u l) (hs : l.length ≤ 1099511627776) :
    Calls Tryd.prog 42 #[.slice (some ⟨g, 0, none⟩) 1 c] w fun e w' => ∃ v, e = .returned v ∧ Own w.heap.size w' v l ∧ Below w.heap.size w w' := by
  have h := concat_any [l] (fun _ => u) g 1 c w rfl hg (fun j hj => by
    match j, hj with
    | 0, _ => exact c0) (fun j hj => by
    match j, hj with
    | 0, _ => exact hu) (by simpa using hs) (by omega)
  simpa using h
theorem concat2 (u v : Value) (l m : List UInt8) (g c : Nat) (w : World) (hg : g < w.heap.size) (c0 : w.cell? ⟨g, 0, none⟩ = some u) (c1 : w.cell? ⟨g, 1, none⟩ = some v) (hu : Byt w u l) (hv : Byt w v m) (hs : l.length + m.length ≤ 1099511627776) :
    Calls Tryd.prog 42 #[.slice (some ⟨g, 0, none⟩) 2 c] w fun e w' => ∃ x, e = .returned x ∧ Own w.heap.size w' x (l ++ m) ∧ Below w.heap.size w w' := by
  have h := concat_any [l, m] (fun j => if j = 0 then u else v) g 2 c w rfl hg (fun j hj => by
    match j, hj with
    | 0, _ => exact c0
    | 1, _ => exact c1) (fun j hj => by
    match j, hj with
    | 0, _ => exact hu
    | 1, _ => exact hv) (by simpa using hs) (by omega)
  simpa using h
end Go.Proofs.YthgdgkdnidjdgaaDoor

/-
  keys.Check tells whether a tag is a part's.
-/
namespace Go.Proofs.YthgdgkdnidjdgaaDoor
set_option maxRecDepth 20000
open Go.RowKit

/-- Is a hash a part's tag? -/
def checkB (i : Int) (d : UInt8) (f : Nat → UInt8) (text : List UInt8) : Bool := nodeB i && sameB f (tagF i d text)

attribute [local go_sem ↓] exec_load_hide

set_option maxHeartbeats 3200000 in
theorem check_any (i : Int) (d : UInt8) (f : Nat → UInt8) (ls : List (List UInt8)) (vs : Nat → Value) (gp n c : Nat) (w : World) (hn : ls.length = n) (hg : gp < w.heap.size)
    (hc : ∀ j, j < n → w.cell? ⟨gp, j, none⟩ = some (vs j)) (hvs : ∀ j (h : j < ls.length), Byt w (vs j) ls[j]) (hls : ls.flatten.length ≤ 1000000) (hn2 : n ≤ 800) (hK : Kst 0 w) :
    Calls Tryd.prog 34 #[.int .i64 i, .int .u8 (d.toNat : Int), .agg (fcells 32 fun j => bcell (f j)), .slice (some ⟨gp, 0, none⟩) n c] w fun e w' => e = .returned (.bool (checkB i d f ls.flatten)) ∧ Below w.heap.size w w' := by
  have hb0 : Below w.heap.size w (w.alloc (.cells (fcells 32 fun j => bcell (f j)) 27)) := (Below.refl _ _).alloc (Nat.le_refl _) _
  have hA0 : Blk (w.alloc (.cells (fcells 32 fun j => bcell (f j)) 27)) w.heap.size 32 (fun j => bcell (f j)) 27 := Blk.new w _ _ _
  have hb1 := hb0.drew
  have CT := tag_any i d ls vs gp n c (w.alloc (.cells (fcells 32 fun j => bcell (f j)) 27)).drew hn (Nat.lt_of_lt_of_le hg hb1.size) (fun j hj => (hb1.cell (p := ⟨gp, j, none⟩) hg).trans (hc j hj)) (fun j hj => (hvs j hj).below hb1) hls hn2 (hK.below hb1)
  have HA0 := hid hA0
  have HG := hid hg
  clear hA0 hn hc hvs hls hg
  cases hnode : nodeB i
  · have C := fun w => node_any i w
    rw [hnode] at C
    have HC : Hid (∀ w, Calls Tryd.prog 48 #[.int .i64 i] w fun e w' => e = .returned (.bool false) ∧ w' = w) := hid fun w => (C w).mono fun _ _ ⟨h1, h2⟩ => ⟨h1, h2.symm⟩
    have HR : Hid (checkB i d f ls.flatten = false) := hid (by unfold checkB; rw [hnode]; rfl)
    clear C CT
    rw [HR.out]
    go_enter Tryd.func34, Tryd.ntmps34
    go_wp2_with fail
    generalize w.alloc (.cells (fcells 32 fun j => bcell (f j)) 27) = w0 at *
    go_quiet ((go_at_call 48; exact Calls.quiet_of_same (HC.out _)))
    go_wp2_with fail
    go_ret
    exact ⟨rfl, below_drewN hb0 _⟩
  · have C := fun w => node_any i w
    rw [hnode] at C
    have HC := hid C
    have HR : Hid (checkB i d f ls.flatten = sameB f (tagF i d ls.flatten)) := hid (by unfold checkB; rw [hnode]; rfl)
    clear C
    obtain ⟨τ, HT⟩ : ∃ t : Nat → UInt8, Hid (tagF i d ls.flatten = t) := ⟨_, hid rfl⟩
    rw [HT.out] at CT HR
    have CS := macSame_any f τ
    obtain ⟨DA, HDA⟩ : ∃ D : Array Value, Hid (fcells 32 (fun j => bcell (f j)) = D) := ⟨_, hid rfl⟩
    obtain ⟨DT, HDT⟩ : ∃ D : Array Value, Hid (fcells 32 (fun j => bcell (τ j)) = D) := ⟨_, hid rfl⟩
    obtain ⟨sb, HSB⟩ : ∃ b : Bool, Hid (sameB f τ = b) := ⟨_, hid rfl⟩
    rw [HSB.out] at HR CS
    rw [HDA.out, HDT.out] at CS
    rw [HDT.out] at CT
    rw [HR.out]
    have HCT := hid CT
    have HCS := hid CS
    clear CT CS
    obtain ⟨x, HX⟩ : ∃ x : Int, Hid ((d.toNat : Int) = x) := ⟨_, hid rfl⟩
    rw [HX.out] at HCT ⊢
    go_enter Tryd.func34, Tryd.ntmps34
    go_wp2_with fail
    generalize w.alloc (.cells (fcells 32 fun j => bcell (f j)) 27) = w0 at *
    obtain ⟨T, HTT⟩ : ∃ T : TypeId, Hid (T = 27) := ⟨_, hid rfl⟩
    have hL := tyHide_load HTT.out
    simp only [hL]
    clear hL
    obtain ⟨G, HGG⟩ : ∃ G : Nat, Hid (w.heap.size = G) := ⟨_, hid rfl⟩
    have hA0 := HA0.out
    rw [HGG.out] at hA0 ⊢
    have hlA : ∀ w' : World, Blk w' G 32 (fun j => bcell (f j)) 27 → loadA (tyHide T 27) (.pointer (some ⟨G, 0, none⟩)) w' = .ok (.value (.agg DA)) w' := fun w' h => by
      rw [← HDA.out]
      exact loadA_hide (o := 0) HTT.out arrH h (by omega) (fun j _ => by rw [Nat.zero_add])
    go_region_held3 (fun w' => Blk w' G 32 (fun j => bcell (f j)) 27)
      (first | (refine hA0) | (refine (Blk.keep (w := w0.drew) hA0 hb2).keep hb3) | (refine Blk.keep (w := w0.drew) hA0 hb2) | fail)
      (first
        | (go_at_call 59; (with_reducible refine (HCS.out _).mono ?_); rintro e w3 ⟨rfl, hb3⟩; have hB3 : Below w.heap.size w w3 := hB2.trans (hb3.mono hB2.size))
        | (go_at_call 28; (with_reducible refine HCT.out.mono ?_); rintro e w2 ⟨rfl, hb2⟩; have hB2 : Below w.heap.size w w2 := hb1.trans (hb2.mono hb1.size))
        | (go_at_call 48; refine (HC.out _).mono ?_; rintro e w1 ⟨rfl, rfl⟩)
        | fail)
    all_goals
      go_wp2_with fail
      go_ret
      exact ⟨rfl, hB3⟩
end Go.Proofs.YthgdgkdnidjdgaaDoor

/-
  att.Check: which attestations may be.
-/
namespace Go.Proofs.YthgdgkdnidjdgaaDoor
set_option maxRecDepth 20000
open Go.RowKit
attribute [local go_sem ↓] exec_load_att

/-- Of which view the last prepared block can be at most. -/
def highA (a : AtM) : Int := if a.ki = 3 then a.vi else a.vi - 1

set_option maxHeartbeats 1600000 in
theorem atHigh_any (a : AtM) (w : World) (h1 : 1 ≤ a.vi) (h2 : a.vi ≤ 1099511627776) :
    Calls Tryd.prog 66 #[.agg (atc a)] w fun e w' => e = .returned (.int .i64 (highA a)) ∧ Below w.heap.size w w' := by
  have hb0 : Below w.heap.size w (w.alloc (.cells (atc a) 36)) := (Below.refl _ _).alloc (Nat.le_refl _) _
  have hA := BoxA.new w a
  obtain ⟨C, HC⟩ : ∃ C : Array Value, Hid (atc a = C) := ⟨_, hid rfl⟩
  obtain ⟨q, HQ⟩ : ∃ q : Int, Hid (highA a = q) := ⟨_, hid rfl⟩
  rw [HC.out] at hb0 hA ⊢
  rw [HQ.out]
  go_enter Tryd.func66, Tryd.ntmps66
  go_upto_region 1 with (fail)
  generalize (w.alloc (.cells C 36)) = w0 at *
  obtain ⟨k0, k1, k2, k3⟩ := hA.cells
  clear hA HC
  obtain ⟨bo, ki, vi, ph, ha, pv, pa, tg⟩ := a
  simp only at k0 k1 k2 k3 h1 h2
  have hw : IntKind.i64.wrap (vi - 1) = vi - 1 := by rw [IntKind.wrap_i64]; omega
  have HH := hid (show 1 ≤ vi ∧ vi ≤ 1099511627776 from ⟨h1, h2⟩)
  clear h1 h2
  by_cases h3 : ki = 3
  all_goals
    go_wp2_with fail
    go_ret
    refine ⟨?_, hb0⟩
    refine congrArg (fun b => Ending.returned (Value.int IntKind.i64 b)) ?_
    rw [← HQ.out]
    unfold highA
    simp [h3]

set_option maxHeartbeats 3200000 in
theorem atCheck_ok : AtCheckOk := by
  intro a w ho
  have hb0 : Below w.heap.size w (w.alloc (.cells (atc a) 36)) := (Below.refl _ _).alloc (Nat.le_refl _) _
  have hA := BoxA.new w a
  have HHI : Hid (1 ≤ a.vi → a.vi ≤ 1099511627776 → ∀ W, Calls Tryd.prog 66 #[.agg (atc a)] W fun e w' => e = .returned (.int .i64 (highA a)) ∧ Below W.heap.size W w') := hid (fun h1 h2 W => atHigh_any a W h1 h2)
  obtain ⟨C, HC⟩ : ∃ C : Array Value, Hid (atc a = C) := ⟨_, hid rfl⟩
  obtain ⟨q, HQ⟩ : ∃ q : Int, Hid ((if mayA a = true then (0 : Int) else 1) = q) := ⟨_, hid rfl⟩
  obtain ⟨hi, HHA⟩ : ∃ q : Int, Hid (highA a = q) := ⟨_, hid rfl⟩
  rw [HC.out] at hb0 hA HHI ⊢
  rw [HHA.out] at HHI
  rw [HQ.out]
  go_enter Tryd.func46, Tryd.ntmps46
  go_upto_region 1 with (fail)
  generalize (w.alloc (.cells C 36)) = w0 at *
  have HX : Hid (∀ W : World, Below w0.heap.size w0 W → W.cell? ⟨w.heap.size, 2, none⟩ = some (.int .i64 a.vi) ∧ W.cell? ⟨w.heap.size, 36, none⟩ = some (.int .i64 a.pv) ∧ loadAtt (.pointer (some ⟨w.heap.size, 0, none⟩)) W = .ok (.value (.agg C)) W) := hid (fun W h => by
    have hW := hA.keep h
    have h1 := loadAtt_eq hW ho
    rw [HC.out] at h1
    exact ⟨hW.cells.2.2.1, hW.pv ho, h1⟩)
  obtain ⟨k0, k1, k2, k3⟩ := hA.cells
  have k5 := hA.pv ho
  clear hA HC ho
  obtain ⟨bo, ki, vi, ph, ha, pv, pa, tg⟩ := a
  simp only at k0 k1 k2 k3 k5 HX HHI
  have HM : Hid (q = if nodeB bo = true ∧ ¬ ki < 1 ∧ ¬ 3 < ki ∧ ph = ki ∧ ¬ vi < 1 ∧ ¬ 1099511627776 < vi ∧ ¬ pv < 0 ∧ ¬ hi < pv then 0 else 1) := hid (by
    rw [← HQ.out, ← HHA.out]
    unfold mayA highA nodeB
    grind)
  clear HQ HHA
  go_wp2_with fail
  refine (node_any bo w0).mono ?_
  rintro e w1 ⟨rfl, rfl⟩
  obtain ⟨nb, HN⟩ : ∃ q : Bool, Hid (nodeB bo = q) := ⟨_, hid rfl⟩
  rw [HN.out] at HM ⊢
  clear HN
  cases nb with
  | false =>
    go_wp2_with fail
    go_ret
    exact ⟨by rw [HM.out]; rfl, hb0⟩
  | true =>
    by_cases h1 : ki < 1
    · go_wp2_with fail
      go_ret
      exact ⟨by rw [HM.out, if_neg (by rintro ⟨_, h, _⟩; omega)]; rfl, hb0⟩
    by_cases h2 : 3 < ki
    · go_wp2_with fail
      go_ret
      exact ⟨by rw [HM.out, if_neg (by rintro ⟨_, _, h, _⟩; omega)]; rfl, hb0⟩
    by_cases h3' : ¬ ph = ki
    · have hd : (ph != ki) = true := by simp [h3']
      go_wp2_with fail
      all_goals first
        | (go_ret; exact ⟨by rw [HM.out, if_neg (by rintro ⟨_, _, _, h, _⟩; omega)]; rfl, hb0⟩)
        | skip
    have h3 : ph = ki := Decidable.not_not.1 h3'
    clear h3'
    have HM2 : Hid (q = if ¬ vi < 1 ∧ ¬ 1099511627776 < vi ∧ ¬ pv < 0 ∧ ¬ hi < pv then 0 else 1) := hid (by rw [HM.out]; simp only [true_and, eq_self]; split <;> split <;> first | rfl | (exfalso; omega))
    clear HM
    go_upto_region 3 with (fail)
    clear k0 k1 k3 h1 h2 h3
    by_cases h4 : vi < 1
    · have hd : decide (vi < 1) = true := decide_eq_true h4
      go_quiet (fail)
      go_wp2_with fail
      go_ret
      exact ⟨by rw [HM2.out, if_neg (by rintro ⟨h, _⟩; omega)]; rfl, below_drewN hb0 _⟩
    have hd4 : decide (vi < 1) = false := decide_eq_false h4
    by_cases h5 : 1099511627776 < vi
    · have hd : decide (1099511627776 < vi) = true := decide_eq_true h5
      go_quiet (fail)
      go_wp2_with fail
      go_ret
      exact ⟨by rw [HM2.out, if_neg (by rintro ⟨_, h, _⟩; omega)]; rfl, below_drewN hb0 _⟩
    have hd5 : decide (1099511627776 < vi) = false := decide_eq_false h5
    by_cases h6 : pv < 0
    · have hd : decide (pv < 0) = true := decide_eq_true h6
      go_quiet (fail)
      go_wp2_with fail
      go_ret
      exact ⟨by rw [HM2.out, if_neg (by rintro ⟨_, _, h, _⟩; omega)]; rfl, below_drewN hb0 _⟩
    have hd6 : decide (pv < 0) = false := decide_eq_false h6
    have HI := hid (HHI.out (by omega) (by omega))
    have HM3 : Hid (q = if ¬ hi < pv then 0 else 1) := hid (by rw [HM2.out]; split <;> split <;> first | rfl | (exfalso; omega))
    have hbd : Below w0.heap.size w0 w0.drew := (Below.refl _ _).drew
    clear HM2 HHI k2 k5
    go_region_held3 (fun W => W.cell? ⟨w.heap.size, 2, none⟩ = some (.int .i64 vi) ∧ W.cell? ⟨w.heap.size, 36, none⟩ = some (.int .i64 pv) ∧ loadAtt (.pointer (some ⟨w.heap.size, 0, none⟩)) W = .ok (.value (.agg C)) W)
      (first | (refine HX.out _ hbd) | (refine HX.out _ hb2) | fail)
      (first
        | (go_at_call 66; (with_reducible refine (HI.out _).mono ?_); rintro e w2 ⟨rfl, hb2'⟩; have hb2 : Below w0.heap.size w0 w2 := hbd.trans hb2')
        | fail)
    all_goals
      by_cases h7 : hi < pv
      all_goals
        go_wp2_with fail
        go_ret
        exact ⟨by rw [HM3.out]; simp [h7], hb0.trans (hb2.mono hb0.size)⟩
end Go.Proofs.YthgdgkdnidjdgaaDoor

/-
  att.number, att.tagged: what is tagged.
-/
namespace Go.Proofs.YthgdgkdnidjdgaaDoor
set_option maxRecDepth 20000
open Go.RowKit
attribute [local go_sem ↓] exec_load_hash

theorem atnum_any (v : Value) (l : List UInt8) (n : Int) (w : World) (hv : Byt w v l) (h0 : 0 ≤ n) (h1 : n < 9223372036854775808) (hs : l.length ≤ 1099511627000) :
    Calls Tryd.prog 67 #[v, .int .i64 n] w fun e w' => ∃ x, e = .returned x ∧ Own w.heap.size w' x (l ++ dg n.toNat) ∧ Below w.heap.size w w' := by
  have hw : IntKind.u64.wrap n = n := wrap_u64 _ (by omega) (by omega)
  go_enter Tryd.func67, Tryd.ntmps67
  go_wp2_with fail
  refine (num_any v l n w hv h0 (by omega) hs).mono ?_
  rintro e w1 ⟨v1, rfl, ho1, hb1⟩
  go_wp2_with fail
  go_ret
  exact ⟨_, rfl, ho1, hb1⟩

set_option maxHeartbeats 3200000 in
theorem attagged_any (a : AtM) (w : World) (ho : a.Ok) (hm : mayA a = true) :
    Calls Tryd.prog 47 #[.agg (atc a)] w fun e w' => ∃ x, e = .returned x ∧ Own w.heap.size w' x (taggedA a) ∧ Below w.heap.size w w' := by
  obtain ⟨h1, h2, h3, h4, h5, h6, h7, h8, h9⟩ := mayA_iff hm
  have hb0 : Below w.heap.size w (w.alloc (.cells (atc a) 36)) := (Below.refl _ _).alloc (Nat.le_refl _) _
  have hA := BoxA.new w a
  obtain ⟨C, HC⟩ : ∃ C : Array Value, Hid (atc a = C) := ⟨_, hid rfl⟩
  obtain ⟨O, HO⟩ : ∃ O : List UInt8, Hid (taggedA a = O) := ⟨_, hid rfl⟩
  rw [HC.out] at hb0 hA ⊢
  rw [HO.out]
  have HOK := hid ho
  have HA := hid hA
  clear hA HC hm ho
  obtain ⟨bo, ki, vi, ph, ha, pv, pa, tg⟩ := a
  simp only at h1 h2 h3 h4 h5 h6 h7 h8 h9
  obtain ⟨k, rfl⟩ := nat_of (i := ki) (by omega)
  obtain ⟨v, rfl⟩ := nat_of (i := vi) (by omega)
  obtain ⟨p, rfl⟩ := nat_of (i := ph) (by omega)
  obtain ⟨q, rfl⟩ := nat_of (i := pv) (by omega)
  have HLK := hid (dg_len10 (n := k) (by omega))
  have HLV := hid (dg_len10 (n := v) (by omega))
  have HLP := hid (dg_len10 (n := p) (by omega))
  have HLQ := hid (dg_len10 (n := q) (by omega))
  have HB : Hid (k < 9223372036854775808 ∧ v < 9223372036854775808 ∧ p < 9223372036854775808 ∧ q < 9223372036854775808) := hid (by omega)
  have hha : ha.length = 32 := HOK.out.ha
  have hpa : pa.length = 32 := HOK.out.pa
  have HHL := hid (show ha.length = 32 ∧ pa.length = 32 from ⟨hha, hpa⟩)
  have HO2 : Hid (O = dg k ++ (dg v ++ (dg p ++ (ha ++ (dg q ++ pa))))) := hid (by rw [← HO.out]; unfold taggedA; simp)
  clear h1 h2 h3 h4 h5 h6 h7 h8 h9 hha hpa HO
  go_enter Tryd.func47, Tryd.ntmps47
  go_upto_region 1 with (fail)
  generalize (w.alloc (.cells C 36)) = w0 at *
  have HX : Hid (∀ W : World, Below w0.heap.size w0 W → W.cell? ⟨w.heap.size, 1, none⟩ = some (.int .i64 (k : Int)) ∧ W.cell? ⟨w.heap.size, 2, none⟩ = some (.int .i64 (v : Int)) ∧ W.cell? ⟨w.heap.size, 3, none⟩ = some (.int .i64 (p : Int)) ∧ W.cell? ⟨w.heap.size, 36, none⟩ = some (.int .i64 (q : Int)) ∧ loadH (.pointer (some ⟨w.heap.size, 4, none⟩)) W = .ok (.value (.agg (hcells ha))) W ∧ loadH (.pointer (some ⟨w.heap.size, 37, none⟩)) W = .ok (.value (.agg (hcells pa))) W) := hid (fun W h => by
    have hW := HA.out.keep h
    exact ⟨hW.cells.2.1, hW.cells.2.2.1, hW.cells.2.2.2, hW.pv HOK.out, loadH_mid hW.hash HOK.out.ha, loadH_mid (hW.phash HOK.out) HOK.out.pa⟩)
  have HB0 := hid hb0
  have d1 := (HX.out w0 (Below.refl _ _)).1
  clear HA hb0
  go_wp2_with fail
  refine (atnum_any _ [] (k : Int) w0 (Byt.nil _) (by omega) (by have := HB.out; omega) (by decide)).mono ?_
  rintro e w1 ⟨v1, rfl, ho1, hb1⟩
  rw [Int.toNat_natCast, List.nil_append] at ho1
  have d2 := (HX.out w1 hb1).2.1
  clear d1
  go_wp2_with fail
  refine (atnum_any _ _ (v : Int) w1 ho1.byt (by omega) (by have := HB.out; omega) (by have := HLK.out; omega)).mono ?_
  rintro e w2 ⟨v2, rfl, ho2, hb2'⟩
  have hb2 := hb1.trans (hb2'.mono hb1.size)
  rw [Int.toNat_natCast] at ho2
  have d3 := (HX.out w2 hb2).2.2.1
  clear d2 hb2'
  go_wp2_with fail
  refine (atnum_any _ _ (p : Int) w2 ho2.byt (by omega) (by have := HB.out; omega) (by rw [List.length_append]; have := HLK.out; have := HLV.out; omega)).mono ?_
  rintro e w3 ⟨v3, rfl, ho3, hb3'⟩
  have hb3 := hb2.trans (hb3'.mono hb2.size)
  rw [Int.toNat_natCast] at ho3
  have d4 := (HX.out w3 hb3).2.2.2.2.1
  clear d3 hb3'
  go_wp2_with fail
  refine (hash_any _ _ ha w3 ho3.byt (by simp only [List.length_append]; have := HLK.out; have := HLV.out; have := HLP.out; omega) HHL.out.1).mono ?_
  rintro e w4 ⟨v4, rfl, ho4, hb4'⟩
  have hb4 := hb3.trans (hb4'.mono hb3.size)
  have d5 := (HX.out w4 hb4).2.2.2.1
  clear d4 hb4'
  go_wp2_with fail
  refine (atnum_any _ _ (q : Int) w4 ho4.byt (by omega) (by have := HB.out; omega) (by simp only [List.length_append]; have := HLK.out; have := HLV.out; have := HLP.out; have := HHL.out.1; omega)).mono ?_
  rintro e w5 ⟨v5, rfl, ho5, hb5'⟩
  have hb5 := hb4.trans (hb5'.mono hb4.size)
  rw [Int.toNat_natCast] at ho5
  have d6 := (HX.out w5 hb5).2.2.2.2.2
  clear d5 hb5'
  go_wp2_with fail
  refine (hash_any _ _ pa w5 ho5.byt (by simp only [List.length_append]; have := HLK.out; have := HLV.out; have := HLP.out; have := HLQ.out; have := HHL.out.1; omega) HHL.out.2).mono ?_
  rintro e w6 ⟨v6, rfl, ho6, hb6'⟩
  have hb6 := hb5.trans (hb6'.mono hb5.size)
  clear d6
  go_wp2_with fail
  go_ret
  refine ⟨v6, rfl, ?_, HB0.out.trans (hb6.mono HB0.out.size)⟩
  rw [HO2.out]
  simp only [List.append_assoc] at ho6
  exact ho6.more (by have := HB0.out.size; have := hb5.size; omega)
end Go.Proofs.YthgdgkdnidjdgaaDoor

/-
  The hash that is nought, built: kept whole.
-/
namespace Go.Proofs.YthgdgkdnidjdgaaDoor
set_option maxRecDepth 20000
open Go.RowKit

/-- The hash that is nought. -/
noncomputable def buildH (w : World) : Result Next := Sem.run Tryd.prog (execOp (fun _ => undef) { dst := none, op := .build 27 #[], type := 0, pos := "", after := #[], guard := none }) w
theorem exec_build_hash (r : Operand → Value) (dst : Option Tmp) (ty : TypeId) (pos : String) (after : Array Edge) (guard : Option (Nat × Bool)) (w : World) :
    Sem.run Tryd.prog (execOp r { dst := dst, op := .build 27 #[], type := ty, pos := pos, after := after, guard := guard }) w = buildH w := by
  unfold buildH execOp
  simp
theorem buildH_eq (w : World) : buildH w = .ok (.value (.agg (fcells 32 fun _ => bcell 0))) w := by
  unfold buildH
  go_simp
  rfl
theorem fcells_nought : fcells 32 (fun _ => bcell 0) = hcells (List.replicate 32 0) := by kernel_rfl
end Go.Proofs.YthgdgkdnidjdgaaDoor

/-
  att.Sign: an attestation that may be, with the right tag.
-/
namespace Go.Proofs.YthgdgkdnidjdgaaDoor
set_option maxRecDepth 20000
open Go.RowKit
attribute [local go_sem ↓] exec_load_att exec_alloc_att exec_store_att exec_build_hash

theorem tag_one (i : Int) (d : UInt8) (v0 : Value) (l0 : List UInt8) (gp c : Nat) (w : World) (hg : gp < w.heap.size) (h0 : w.cell? ⟨gp, 0, none⟩ = some v0) (b0 : Byt w v0 l0) (hl : l0.length ≤ 1000000) (hK : Kst 0 w) :
    Calls Tryd.prog 28 #[.int .i64 i, .int .u8 (d.toNat : Int), .slice (some ⟨gp, 0, none⟩) 1 c] w fun e w' => e = .returned (.agg (hcells (Go.Proofs.YthgdgkdnidjdgaaDoor.hl 32 (tagF i d l0)))) ∧ Below w.heap.size w w' := by
  have h := tag_any i d [l0] (fun _ => v0) gp 1 c w rfl hg (fun j hj => by
    match j, hj with
    | 0, _ => exact h0) (fun j hj => by
    match j, hj with
    | 0, _ => exact b0) (by simpa using hl) (by omega) hK
  have e : ([l0] : List (List UInt8)).flatten = l0 := by simp
  rw [e, fcells_hl] at h
  exact h
theorem mayA_tag (a : AtM) (t : List UInt8) : mayA { a with tg := t } = mayA a := rfl
theorem alloc_cell0 (w : World) (x : Value) (T : TypeId) : (w.alloc (.cells #[x] T)).cell? ⟨w.heap.size, 0, none⟩ = some x := by simp

set_option maxHeartbeats 3200000 in
theorem atSign_ok : AtSignOk := by
  intro a w ho hm hK
  obtain ⟨a0, HA0⟩ : ∃ x : AtM, Hid ({ a with tg := z32 } = x) := ⟨_, hid rfl⟩
  have hok0 : a0.Ok := by rw [← HA0.out]; exact ⟨ho.ha, ho.pa, rfl⟩
  have hm0 : mayA a0 = true := by rw [← HA0.out]; exact hm
  have HBO : Hid (a0.bo = a.bo) := hid (by rw [← HA0.out])
  have HTE : Hid (taggedA a0 = taggedA a) := hid (by rw [← HA0.out]; rfl)
  have HSE : Hid ({ a0 with tg := tagA a } = signA a) := hid (by rw [← HA0.out]; rfl)
  have hlen := taggedA_len ho hm
  have HCK : Hid (∀ W, Calls Tryd.prog 46 #[.agg (atc a0)] W fun e w' => e = .returned (.int .i64 0) ∧ Below W.heap.size W w') := hid (fun W => by
    have := atCheck_ok a0 W hok0
    rw [if_pos hm0] at this
    exact this)
  have HTD : Hid (∀ W, Calls Tryd.prog 47 #[.agg (atc a0)] W fun e w' => ∃ x, e = .returned x ∧ Own W.heap.size w' x (taggedA a) ∧ Below W.heap.size W w') := hid (fun W => by
    have := attagged_any a0 W hok0 hm0
    rw [HTE.out] at this
    exact this)
  obtain ⟨C, HC⟩ : ∃ C : Array Value, Hid (atc a = C) := ⟨_, hid rfl⟩
  obtain ⟨C0, HC0⟩ : ∃ C : Array Value, Hid (atc a0 = C) := ⟨_, hid rfl⟩
  obtain ⟨D, HD⟩ : ∃ C : Array Value, Hid (atc (signA a) = C) := ⟨_, hid rfl⟩
  obtain ⟨Z, HZ⟩ : ∃ C : Array Value, Hid (atc atZ = C) := ⟨_, hid rfl⟩
  obtain ⟨N, HN⟩ : ∃ C : Array Value, Hid (hcells z32 = C) := ⟨_, hid rfl⟩
  obtain ⟨T, HT⟩ : ∃ C : Array Value, Hid (hcells (tagA a) = C) := ⟨_, hid rfl⟩
  obtain ⟨L, HL⟩ : ∃ l : List UInt8, Hid (taggedA a = l) := ⟨_, hid rfl⟩
  have HTG : Hid (∀ v gp c W, Below w.heap.size w W → gp < W.heap.size → W.cell? ⟨gp, 0, none⟩ = some v → Byt W v L → Calls Tryd.prog 28 #[.int .i64 a0.bo, .int .u8 1, .slice (some ⟨gp, 0, none⟩) 1 c] W fun e w' => e = .returned (.agg T) ∧ Below W.heap.size W w') := hid (fun v gp c W h h1 h2 h3 => by
    have := tag_one a.bo 1 v L gp c W h1 h2 h3 (by rw [← HL.out]; omega) (hK.below h)
    rw [HBO.out, ← HT.out]
    unfold tagA
    rw [HL.out]
    exact this)
  rw [HC0.out] at HCK HTD
  rw [HL.out] at HTD
  rw [HC.out, HD.out]
  have hbz : ∀ W, buildH W = .ok (.value (.agg N)) W := fun W => by rw [buildH_eq, fcells_nought, ← HN.out]; rfl
  have hal : ∀ W, allocAtt W = .ok (.value (.pointer (some ⟨W.heap.size, 0, none⟩))) (W.alloc (.cells Z 36)) := fun W => by rw [← HZ.out]; exact allocAtt_eq W
  have hr1 := heap2 w (.cells C 36) (.cells Z 36)
  have hb0 : Below w.heap.size w ((w.alloc (.cells C 36)).alloc (.cells Z 36)) := ((Below.refl _ _).alloc (Nat.le_refl _) _).alloc (by simp) _
  have hA : BoxA ((w.alloc (.cells C 36)).alloc (.cells Z 36)) w.heap.size a := by
    unfold BoxA
    rw [HC.out]
    exact heap1 w (.cells C 36) (.cells Z 36)
  have HDS : Hid (D.size = 101 ∧ D.all (·.oneCell') = true) := hid (by rw [← HD.out]; exact ⟨atc_size (signA_ok ho), atc_one _⟩)
  have HZS : Hid (Z.size = 101) := hid (by rw [← HZ.out]; exact atc_size atZ_ok)
  have HTL : Hid ((tagA a).length = 32) := hid (tagA_len a)
  have HO := hid ho
  have HO0 := hid hok0
  have HR1 := hid hr1
  have HA := hid hA
  have HB0 := hid hb0
  have HX : Hid (∀ W : World, BoxA W w.heap.size a0 → W.cell? ⟨w.heap.size, 0, none⟩ = some (.int .i64 a0.bo) ∧ loadAtt (.pointer (some ⟨w.heap.size, 0, none⟩)) W = .ok (.value (.agg C0)) W) := hid (fun W h => by
    refine ⟨h.cells.1, ?_⟩
    have := loadAtt_eq h HO0.out
    rw [HC0.out] at this
    exact this)
  have HLD : Hid (∀ W : World, BoxA W w.heap.size { a0 with tg := tagA a } → loadAtt (.pointer (some ⟨w.heap.size, 0, none⟩)) W = .ok (.value (.agg D)) W) := hid (fun W h => by
    rw [HSE.out] at h
    have := loadAtt_eq h (signA_ok HO.out)
    rw [HD.out] at this
    exact this)
  clear hK ho hm hok0 hm0 hr1 hA hb0 hlen
  go_enter Tryd.func21, Tryd.ntmps21
  go_upto_region 1 with (fail)
  generalize ((w.alloc (.cells C 36)).alloc (.cells Z 36)) = w0 at *
  clear hal
  go_upto_region 2 with (refine wpList_store_tag rfl _ _ rfl rfl (by rw [HN.out]; rfl) HA.out HO.out (show z32.length = 32 from rfl) ?_; intro w1 hg1 hB1 hs1)
  rw [HA0.out] at hB1
  have hr1 := (hg1.block _ (lt_of_block HR1.out) (fun e => by injection e with e; omega)).trans HR1.out
  have hb1 : Below w.heap.size w w1 := below_into HB0.out (Nat.le_refl _) hg1 HB0.out.size
  have HR2 := hid hr1
  have HB1 := hid hb1
  have HA1 := hid hB1
  have l1 := (HX.out w1 hB1).2
  clear hbz hg1 hs1 hB1 hr1 hb1 HB0 HA HR1
  go_wp2_with fail
  refine (HCK.out w1).mono ?_
  rintro e w2 ⟨rfl, hb2'⟩
  have HB2 := hid (HB1.out.trans (hb2'.mono HB1.out.size))
  have HA2 := hid (HA1.out.keep hb2')
  have HR3 := hid ((hb2'.block _ (lt_of_block HR2.out)).trans HR2.out)
  clear l1 hb2'
  go_upto_region 3 with (fail)
  have hbd : Below w2.heap.size w2 w2.drew := (Below.refl _ _).drew
  have HXC : Hid (∀ W, Below w2.heap.size w2 W → W.cell? ⟨w.heap.size, 0, none⟩ = some (.int .i64 a0.bo)) := hid (fun W h => (HX.out W (HA2.out.keep h)).1)
  have l2 := (HX.out w2.drew (HA2.out.keep hbd)).2
  refine wp_region_held_drew (S := fun W => W.cell? ⟨w.heap.size, 0, none⟩ = some (.int .i64 a0.bo)) (by kernel_rfl) (HXC.out _ hbd) (fun hHeld => ?_)
  refine' take_on (i := 0) (v := _) rfl (by kernel_rfl) (by kernel_rfl) (by kernel_rfl) (fun _ _ _ h => h) (by rfl) ?_ (by assumption) ?_
  rotate_left
  · (intro W hW; (try dsimp only at hW); go_simp; first | done | with_reducible rfl)
  try simp only [Act.put, List.setIfInBounds_toArray, List.set_cons_zero, List.set_cons_succ]
  refine' take_on (i := 1) (v := _) rfl (by kernel_rfl) (by kernel_rfl) (by kernel_rfl) (fun _ _ _ h => h) (by rfl) ?_ (by assumption) ?_
  rotate_left
  · (intro W hW; (try dsimp only at hW); go_simp; first | done | with_reducible rfl)
  try simp only [Act.put, List.setIfInBounds_toArray, List.set_cons_zero, List.set_cons_succ]
  refine call_on (i := 2) rfl (by kernel_rfl) (by rfl) (fun K hK => ?_)
  go_simp
  refine hK.out _ _ (HXC.out _ hbd) (fun hHeld => ?_)
  clear hK K
  try simp only [Act.put, List.setIfInBounds_toArray, List.set_cons_zero, List.set_cons_succ]
  clear l2
  refine call_on (i := 3) rfl (by kernel_rfl) (by rfl) (fun K hK => ?_)
  go_simp
  refine (HTD.out w2.drew).mono ?_
  rintro e w3 ⟨v3, rfl, ho3, hb3'⟩
  have hb3 := hbd.trans hb3'
  have hv3 := ho3.byt
  obtain ⟨A3, c3, rfl⟩ := hv3.shape
  refine hK.out _ _ (HXC.out _ hb3) (fun hHeld => ?_)
  clear hK K
  try simp only [Act.put, List.setIfInBounds_toArray, List.set_cons_zero, List.set_cons_succ]
  have hb4 : Below w2.heap.size w2 (w3.alloc (.cells #[.slice A3 L.length c3] 40)) := hb3.alloc hb3.size _
  refine call_on (i := 4) rfl (by kernel_rfl) (by rfl) (fun K hK => ?_)
  go_simp
  refine hK.out _ _ (HXC.out _ hb4) (fun hHeld => ?_)
  clear hK K
  try simp only [Act.put, List.setIfInBounds_toArray, List.set_cons_zero, List.set_cons_succ]
  refine call_on (i := 5) rfl (by kernel_rfl) (by rfl) (fun K hK => ?_)
  go_simp
  refine (HTG.out (.slice A3 L.length c3) w3.heap.size 1 (w3.alloc (.cells #[.slice A3 L.length c3] 40)) (HB2.out.trans (hb4.mono HB2.out.size)) (by simp) (alloc_cell0 _ _ _) (hv3.alloc _)).mono ?_
  rintro e w5 ⟨rfl, hb5'⟩
  have hb5 := hb4.trans (hb5'.mono hb4.size)
  refine hK.out _ _ (HXC.out _ hb5) (fun hHeld => ?_)
  clear hK K
  try simp only [Act.put, List.setIfInBounds_toArray, List.set_cons_zero, List.set_cons_succ]
  refine' take_on (i := 6) (v := _) rfl (by kernel_rfl) (by kernel_rfl) (by kernel_rfl) (fun _ _ _ h => h) (by rfl) ?_ (by assumption) ?_
  rotate_left
  · (intro W hW; (try dsimp only at hW); go_simp; first | done | with_reducible rfl)
  try simp only [Act.put, List.setIfInBounds_toArray, List.set_cons_zero, List.set_cons_succ]
  refine call_on (i := 7) rfl (by kernel_rfl) (by rfl) (fun K hK => ?_)
  refine wp_store_tag _ _ rfl rfl (by rw [HT.out]; rfl) (HA2.out.keep hb5) HO0.out HTL.out ?_
  intro w6 hg6 hA6 hs6
  have hB5 := HB2.out.trans (hb5.mono HB2.out.size)
  have hr6 := (hg6.block _ (Nat.lt_of_lt_of_le (lt_of_block HR3.out) hb5.size) (fun e => by injection e with e; omega)).trans ((hb5.block _ (lt_of_block HR3.out)).trans HR3.out)
  have hB6 : Below w.heap.size w w6 := below_into hB5 (Nat.le_refl _) hg6 hB5.size
  refine hK.out _ _ hA6.cells.1 (fun hHeld => ?_)
  clear hK K
  try simp only [Act.put]
  refine wpAnyH_done (by kernel_rfl) ?_ _
  have l6 := HLD.out w6 hA6
  have hs := storeAtt_eq hr6 HZS.out HDS.out.1 HDS.out.2
  have hlt6 := lt_of_block hr6
  go_wp2_with fail
  refine bodyPost_ret (results_cell_row rfl _ _ _ _ _ (0, 0) _ rfl (setAtt_same hr6) under_att rfl (by rw [size_att, HDS.out.1])) rfl ⟨rfl, ?_⟩
  exact setAtt_below hB6 (Nat.le_succ _)
end Go.Proofs.YthgdgkdnidjdgaaDoor

/-
  att.Right: whether an attestation is right.
-/
namespace Go.Proofs.YthgdgkdnidjdgaaDoor
set_option maxRecDepth 20000
open Go.RowKit
attribute [local go_sem ↓] exec_load_att exec_load_hash

theorem check_hash (i : Int) (d : UInt8) (t : List UInt8) (ht : t.length = 32) (v0 : Value) (l0 : List UInt8) (gp c : Nat) (w : World) (hg : gp < w.heap.size) (h0 : w.cell? ⟨gp, 0, none⟩ = some v0) (b0 : Byt w v0 l0) (hl0 : l0.length ≤ 1000000) (hK : Kst 0 w) :
    Calls Tryd.prog 34 #[.int .i64 i, .int .u8 (d.toNat : Int), .agg (hcells t), .slice (some ⟨gp, 0, none⟩) 1 c] w fun e w' => e = .returned (.bool (nodeB i && decide (t = hl 32 (tagF i d l0)))) ∧ Below w.heap.size w w' := by
  have e : ([l0] : List (List UInt8)).flatten = l0 := by simp
  have h := check_any i d (fun j => t.getD j 0) [l0] (fun _ => v0) gp 1 c w rfl hg (fun j hj => by
    obtain rfl : j = 0 := by omega
    exact h0) (fun j hj => by
    have hj2 : j < 1 := hj
    obtain rfl : j = 0 := by omega
    exact b0) (by rw [e]; omega) (by omega) hK
  have et : hl 32 (fun j => t.getD j 0) = t := by
    apply List.ext_getElem
    · rw [hl_length, ht]
    · intro j h1 h2
      rw [hl_get]
      simp [List.getD, h2]
  rw [e, fcells_hl, et] at h
  unfold checkB sameB at h
  rw [et] at h
  exact h

set_option maxHeartbeats 3200000 in
theorem atRight_ok : AtRightOk := by
  intro a w ho hK
  obtain ⟨m, HM⟩ : ∃ m : Bool, Hid (mayA a = m) := ⟨_, hid rfl⟩
  obtain ⟨q, HQ⟩ : ∃ q : Bool, Hid (decide (a.tg = tagA a) = q) := ⟨_, hid rfl⟩
  have HR : Hid (rightA a = (m && q)) := hid (by unfold rightA; rw [HM.out, HQ.out])
  have HMA : Hid (∀ W, Calls Tryd.prog 46 #[.agg (atc a)] W fun e w' => e = .returned (.int .i64 (if m = true then 0 else 1)) ∧ Below W.heap.size W w') := hid (fun W => by
    have := atCheck_ok a W ho
    rw [HM.out] at this
    exact this)
  have HTD : Hid (m = true → ∀ W, Calls Tryd.prog 47 #[.agg (atc a)] W fun e w' => ∃ x, e = .returned x ∧ Own W.heap.size w' x (taggedA a) ∧ Below W.heap.size W w') := hid (fun h W => attagged_any a W ho (HM.out.trans h))
  obtain ⟨L, HL⟩ : ∃ l : List UInt8, Hid (taggedA a = l) := ⟨_, hid rfl⟩
  have HKC : Hid (m = true → ∀ v gp c W, Below w.heap.size w W → gp < W.heap.size → W.cell? ⟨gp, 0, none⟩ = some v → Byt W v L → Calls Tryd.prog 34 #[.int .i64 a.bo, .int .u8 1, .agg (hcells a.tg), .slice (some ⟨gp, 0, none⟩) 1 c] W fun e w' => e = .returned (.bool q) ∧ Below W.heap.size W w') := hid (fun h v gp c W hb h1 h2 h3 => by
    have hm : mayA a = true := HM.out.trans h
    have hlen := taggedA_len ho hm
    have hn : nodeB a.bo = true := by
      obtain ⟨j1, j2, _⟩ := mayA_iff hm
      unfold nodeB
      exact decide_eq_true ⟨j1, j2⟩
    have := check_hash a.bo 1 a.tg ho.tg v L gp c W h1 h2 h3 (by rw [← HL.out]; omega) (hK.below hb)
    rw [hn, Bool.true_and, ← HL.out] at this
    rw [← HQ.out]
    exact this)
  have hb0 : Below w.heap.size w (w.alloc (.cells (atc a) 36)) := (Below.refl _ _).alloc (Nat.le_refl _) _
  have hA := BoxA.new w a
  obtain ⟨C, HC⟩ : ∃ C : Array Value, Hid (atc a = C) := ⟨_, hid rfl⟩
  obtain ⟨G, HG⟩ : ∃ C : Array Value, Hid (hcells a.tg = C) := ⟨_, hid rfl⟩
  rw [HL.out, HC.out] at HTD
  rw [HC.out] at HMA hb0 hA
  rw [HG.out] at HKC
  rw [HR.out, HC.out]
  have HX : Hid (∀ W : World, BoxA W w.heap.size a → W.cell? ⟨w.heap.size, 0, none⟩ = some (.int .i64 a.bo) ∧ loadAtt (.pointer (some ⟨w.heap.size, 0, none⟩)) W = .ok (.value (.agg C)) W ∧ loadH (.pointer (some ⟨w.heap.size, 69, none⟩)) W = .ok (.value (.agg G)) W) := hid (fun W h => by
    have h1 := loadAtt_eq h ho
    have h2 := loadH_mid (h.tag ho) ho.tg
    rw [HC.out] at h1
    rw [HG.out] at h2
    exact ⟨h.cells.1, h1, h2⟩)
  clear hK ho HL HQ HR
  go_enter Tryd.func49, Tryd.ntmps49
  go_upto_region 1 with (fail)
  generalize (w.alloc (.cells C 36)) = w0 at *
  have HXW := hid (fun W (h : Below w0.heap.size w0 W) => HX.out W (hA.keep h))
  have hbd : Below w0.heap.size w0 w0.drew := (Below.refl _ _).drew
  clear hA
  refine wp_region_held_drew (S := fun W => W.cell? ⟨w.heap.size, 0, none⟩ = some (.int .i64 a.bo) ∧ loadAtt (.pointer (some ⟨w.heap.size, 0, none⟩)) W = .ok (.value (.agg C)) W ∧ loadH (.pointer (some ⟨w.heap.size, 69, none⟩)) W = .ok (.value (.agg G)) W) (by kernel_rfl) (HXW.out _ hbd) (fun hHeld => ?_)
  refine' take_on (i := 0) (v := _) rfl (by kernel_rfl) (by kernel_rfl) (by kernel_rfl) (fun _ _ _ h => h) (by rfl) (fun W hW => hW.2.1) (by assumption) ?_
  try simp only [Act.put, List.setIfInBounds_toArray, List.set_cons_zero, List.set_cons_succ]
  refine call_on (i := 1) rfl (by kernel_rfl) (by rfl) (fun K hK => ?_)
  go_simp
  refine (HMA.out w0.drew).mono ?_
  rintro e w2 ⟨rfl, hb2'⟩
  have hb2 := hbd.trans hb2'
  refine hK.out _ _ (HXW.out _ hb2) (fun hHeld => ?_)
  clear hK K
  try simp only [Act.put, List.setIfInBounds_toArray, List.set_cons_zero, List.set_cons_succ]
  cases m with
  | false =>
    simp only [Bool.false_eq_true, if_false]
    refine' take_on (i := 2) (v := _) rfl (by kernel_rfl) (by kernel_rfl) (by kernel_rfl) (fun _ _ _ h => h) (by rfl) ?_ (by assumption) ?_
    rotate_left
    · (intro W hW; (try dsimp only at hW); go_simp; first | done | with_reducible rfl)
    try simp only [Act.put, List.setIfInBounds_toArray, List.set_cons_zero, List.set_cons_succ]
    refine' take_on (i := 3) (v := _) rfl (by kernel_rfl) (by kernel_rfl) (by kernel_rfl) (fun _ _ _ h => h) (by rfl) ?_ (by assumption) ?_
    rotate_left
    · (intro W hW; (try dsimp only at hW); go_simp; first | done | with_reducible rfl)
    try simp only [Act.put, List.setIfInBounds_toArray, List.set_cons_zero, List.set_cons_succ]
    refine take_off (i := 4) rfl (by kernel_rfl) (by kernel_rfl) (by kernel_rfl) (fun _ _ _ h => h) (by rfl) (by assumption) ?_
    try simp only [Act.put, List.setIfInBounds_toArray, List.set_cons_zero, List.set_cons_succ]
    refine take_off (i := 5) rfl (by kernel_rfl) (by kernel_rfl) (by kernel_rfl) (fun _ _ _ h => h) (by rfl) (by assumption) ?_
    try simp only [Act.put, List.setIfInBounds_toArray, List.set_cons_zero, List.set_cons_succ]
    refine take_off (i := 6) rfl (by kernel_rfl) (by kernel_rfl) (by kernel_rfl) (fun _ _ _ h => h) (by rfl) (by assumption) ?_
    try simp only [Act.put, List.setIfInBounds_toArray, List.set_cons_zero, List.set_cons_succ]
    refine take_off (i := 7) rfl (by kernel_rfl) (by kernel_rfl) (by kernel_rfl) (fun _ _ _ h => h) (by rfl) (by assumption) ?_
    try simp only [Act.put, List.setIfInBounds_toArray, List.set_cons_zero, List.set_cons_succ]
    refine take_off (i := 8) rfl (by kernel_rfl) (by kernel_rfl) (by kernel_rfl) (fun _ _ _ h => h) (by rfl) (by assumption) ?_
    try simp only [Act.put, List.setIfInBounds_toArray, List.set_cons_zero, List.set_cons_succ]
    refine take_off (i := 9) rfl (by kernel_rfl) (by kernel_rfl) (by kernel_rfl) (fun _ _ _ h => h) (by rfl) (by assumption) ?_
    try simp only [Act.put, List.setIfInBounds_toArray, List.set_cons_zero, List.set_cons_succ]
    refine take_off (i := 10) rfl (by kernel_rfl) (by kernel_rfl) (by kernel_rfl) (fun _ _ _ h => h) (by rfl) (by assumption) ?_
    try simp only [Act.put, List.setIfInBounds_toArray, List.set_cons_zero, List.set_cons_succ]
    refine take_off (i := 11) rfl (by kernel_rfl) (by kernel_rfl) (by kernel_rfl) (fun _ _ _ h => h) (by rfl) (by assumption) ?_
    try simp only [Act.put, List.setIfInBounds_toArray, List.set_cons_zero, List.set_cons_succ]
    refine' take_on (i := 12) (v := _) rfl (by kernel_rfl) (by kernel_rfl) (by kernel_rfl) (fun _ _ _ h => h) (by rfl) ?_ (by assumption) ?_
    rotate_left
    · (intro W hW; (try dsimp only at hW); go_simp; first | done | with_reducible rfl)
    try simp only [Act.put, List.setIfInBounds_toArray, List.set_cons_zero, List.set_cons_succ]
    refine' take_on (i := 13) (v := _) rfl (by kernel_rfl) (by kernel_rfl) (by kernel_rfl) (fun _ _ _ h => h) (by rfl) ?_ (by assumption) ?_
    rotate_left
    · (intro W hW; (try dsimp only at hW); go_simp; first | done | with_reducible rfl)
    try simp only [Act.put, List.setIfInBounds_toArray, List.set_cons_zero, List.set_cons_succ]
    refine wpAnyH_done (by kernel_rfl) ?_ _
    go_wp2_with fail
    go_ret
    exact ⟨rfl, hb0.trans (hb2.mono hb0.size)⟩
  | true =>
    simp only [if_true]
    refine' take_on (i := 2) (v := _) rfl (by kernel_rfl) (by kernel_rfl) (by kernel_rfl) (fun _ _ _ h => h) (by rfl) ?_ (by assumption) ?_
    rotate_left
    · (intro W hW; (try dsimp only at hW); go_simp; first | done | with_reducible rfl)
    try simp only [Act.put, List.setIfInBounds_toArray, List.set_cons_zero, List.set_cons_succ]
    refine' take_on (i := 3) (v := _) rfl (by kernel_rfl) (by kernel_rfl) (by kernel_rfl) (fun _ _ _ h => h) (by rfl) ?_ (by assumption) ?_
    rotate_left
    · (intro W hW; (try dsimp only at hW); go_simp; first | done | with_reducible rfl)
    try simp only [Act.put, List.setIfInBounds_toArray, List.set_cons_zero, List.set_cons_succ]
    refine' take_on (i := 4) (v := _) rfl (by kernel_rfl) (by kernel_rfl) (by kernel_rfl) (fun _ _ _ h => h) (by rfl) ?_ (by assumption) ?_
    rotate_left
    · (intro W hW; (try dsimp only at hW); go_simp; first | done | with_reducible rfl)
    try simp only [Act.put, List.setIfInBounds_toArray, List.set_cons_zero, List.set_cons_succ]
    refine' take_on (i := 5) (v := _) rfl (by kernel_rfl) (by kernel_rfl) (by kernel_rfl) (fun _ _ _ h => h) (by rfl) ?_ (by assumption) ?_
    rotate_left
    · (intro W hW; (try dsimp only at hW); obtain ⟨hW1, _⟩ := hW; go_simp; first | done | with_reducible rfl)
    try simp only [Act.put, List.setIfInBounds_toArray, List.set_cons_zero, List.set_cons_succ]
    refine' take_on (i := 6) (v := _) rfl (by kernel_rfl) (by kernel_rfl) (by kernel_rfl) (fun _ _ _ h => h) (by rfl) ?_ (by assumption) ?_
    rotate_left
    · (intro W hW; (try dsimp only at hW); go_simp; first | done | with_reducible rfl)
    try simp only [Act.put, List.setIfInBounds_toArray, List.set_cons_zero, List.set_cons_succ]
    refine' take_on (i := 7) (v := _) rfl (by kernel_rfl) (by kernel_rfl) (by kernel_rfl) (fun _ _ _ h => h) (by rfl) (fun W hW => hW.2.2) (by assumption) ?_
    try simp only [Act.put, List.setIfInBounds_toArray, List.set_cons_zero, List.set_cons_succ]
    refine' take_on (i := 8) (v := _) rfl (by kernel_rfl) (by kernel_rfl) (by kernel_rfl) (fun _ _ _ h => h) (by rfl) (fun W hW => hW.2.1) (by assumption) ?_
    try simp only [Act.put, List.setIfInBounds_toArray, List.set_cons_zero, List.set_cons_succ]
    refine call_on (i := 9) rfl (by kernel_rfl) (by rfl) (fun K hK => ?_)
    go_simp
    refine (HTD.out rfl w2).mono ?_
    rintro e w3 ⟨v3, rfl, ho3, hb3'⟩
    have hb3 := hb2.trans (hb3'.mono hb2.size)
    have hv3 := ho3.byt
    obtain ⟨A3, c3, rfl⟩ := hv3.shape
    refine hK.out _ _ (HXW.out _ hb3) (fun hHeld => ?_)
    clear hK K
    try simp only [Act.put, List.setIfInBounds_toArray, List.set_cons_zero, List.set_cons_succ]
    have hb4 : Below w0.heap.size w0 (w3.alloc (.cells #[.slice A3 L.length c3] 40)) := hb3.alloc hb3.size _
    refine call_on (i := 10) rfl (by kernel_rfl) (by rfl) (fun K hK => ?_)
    go_simp
    refine hK.out _ _ (HXW.out _ hb4) (fun hHeld => ?_)
    clear hK K
    try simp only [Act.put, List.setIfInBounds_toArray, List.set_cons_zero, List.set_cons_succ]
    refine call_on (i := 11) rfl (by kernel_rfl) (by rfl) (fun K hK => ?_)
    go_simp
    refine (HKC.out rfl (.slice A3 L.length c3) w3.heap.size 1 (w3.alloc (.cells #[.slice A3 L.length c3] 40)) (hb0.trans (hb4.mono hb0.size)) (by simp) (by simp) (hv3.alloc _)).mono ?_
    rintro e w5 ⟨rfl, hb5'⟩
    have hb5 := hb4.trans (hb5'.mono hb4.size)
    refine hK.out _ _ (HXW.out _ hb5) (fun hHeld => ?_)
    clear hK K
    try simp only [Act.put, List.setIfInBounds_toArray, List.set_cons_zero, List.set_cons_succ]
    refine' take_on (i := 12) (v := _) rfl (by kernel_rfl) (by kernel_rfl) (by kernel_rfl) (fun _ _ _ h => h) (by rfl) ?_ (by assumption) ?_
    rotate_left
    · (intro W hW; (try dsimp only at hW); go_simp; first | done | with_reducible rfl)
    try simp only [Act.put, List.setIfInBounds_toArray, List.set_cons_zero, List.set_cons_succ]
    refine' take_on (i := 13) (v := _) rfl (by kernel_rfl) (by kernel_rfl) (by kernel_rfl) (fun _ _ _ h => h) (by rfl) ?_ (by assumption) ?_
    rotate_left
    · (intro W hW; (try dsimp only at hW); go_simp; first | done | with_reducible rfl)
    try simp only [Act.put, List.setIfInBounds_toArray, List.set_cons_zero, List.set_cons_succ]
    refine wpAnyH_done (by kernel_rfl) ?_ _
    go_wp2_with fail
    go_ret
    exact ⟨rfl, hb0.trans (hb5.mono hb0.size)⟩
end Go.Proofs.YthgdgkdnidjdgaaDoor

/-
  att.Put: bytes with an attestation's behind.
-/
namespace Go.Proofs.YthgdgkdnidjdgaaDoor
set_option maxRecDepth 20000
open Go.RowKit
attribute [local go_sem ↓] exec_load_att

theorem concat4 (u v x y : Value) (l m n o : List UInt8) (g c : Nat) (w : World) (hg : g < w.heap.size) (c0 : w.cell? ⟨g, 0, none⟩ = some u) (c1 : w.cell? ⟨g, 1, none⟩ = some v) (c2 : w.cell? ⟨g, 2, none⟩ = some x) (c3 : w.cell? ⟨g, 3, none⟩ = some y)
    (hu : Byt w u l) (hv : Byt w v m) (hx : Byt w x n) (hy : Byt w y o) {L : List UInt8} (hL : l ++ (m ++ (n ++ o)) = L) (hs : L.length ≤ 1099511627776) :
    Calls Tryd.prog 42 #[.slice (some ⟨g, 0, none⟩) 4 c] w fun e w' => ∃ x, e = .returned x ∧ Own w.heap.size w' x L ∧ Below w.heap.size w w' := by
  have e : ([l, m, n, o] : List (List UInt8)).flatten = L := by rw [← hL]; simp
  have h := concat_any [l, m, n, o] (fun j => if j = 0 then u else if j = 1 then v else if j = 2 then x else y) g 4 c w rfl hg (fun j hj => by
    match j, hj with
    | 0, _ => exact c0
    | 1, _ => exact c1
    | 2, _ => exact c2
    | 3, _ => exact c3) (fun j hj => by
    match j, hj with
    | 0, _ => exact hu
    | 1, _ => exact hv
    | 2, _ => exact hx
    | 3, _ => exact hy) (by rw [e]; exact hs) (by omega)
  rw [e] at h
  exact h
theorem byt_range {w : World} {g o n : Nat} {l : List UInt8} (h : w.rangeAt g o (bcells l)) (hg : g < w.heap.size) (hn : l.length = n) (hm : n ≤ maxLen) : Byt w (.slice (some ⟨g, o, none⟩) n n) l := by
  subst hn
  refine ⟨_, _, rfl, Nat.le_refl _, hm, fun _ => ⟨g, o, rfl, hg, fun j hj => ?_⟩⟩
  exact h j _ (by simp [bcells, hj])

end Go.Proofs.YthgdgkdnidjdgaaDoor

/-
  att.Read: the attestation whose bytes are read next. Printed with gencoderead.py.
-/
namespace Go.Proofs.YthgdgkdnidjdgaaDoor
set_option maxRecDepth 20000
open Go.RowKit
attribute [local go_sem ↓] exec_load_att exec_alloc_att exec_store_att exec_build_att exec_load_hash

/-- Blocks B, B + 1: the result yet nought, the attestation a; block g: the reader. -/
structure RaSt (w0 w : World) (g : Nat) (l : List UInt8) (p : Nat) (r : Bool) (a : AtM) : Prop where
  lt : g < w0.heap.size
  gr : w0.grownBy w (some g)
  rd : Rdr w g l p r
  b0 : BoxA w w0.heap.size atZ
  b1 : BoxA w (w0.heap.size + 1) a
section
variable {w0 w w' : World} {g : Nat} {l : List UInt8} {p : Nat} {r : Bool} {a : AtM}
theorem raGrown_set {w0 w : World} {row : Option Nat} (h : w0.grownBy w row) (a : Addr) (u : Value) (ha : w0.heap.size ≤ a.block) : w0.grownBy (w.setCell a u) row :=
  ⟨h.os, h.tape, h.output, by simpa using h.size, fun k hk hr => (Below.heap_setCell w a u k (fun e => by omega)).trans (h.block k hk hr)⟩
theorem raGrown_past {w0 w w' : World} {row : Option Nat} {k : Nat} (h : w0.grownBy w row) (hg : w.grownBy w' (some k)) (hk : w0.heap.size ≤ k) : w0.grownBy w' row :=
  ⟨hg.os.trans h.os, hg.tape.trans h.tape, hg.output.trans h.output, Nat.le_trans h.size hg.size, fun j hj hne => (hg.block j (Nat.lt_of_lt_of_le hj h.size) (fun e => by injection e with e; omega)).trans (h.block j hj hne)⟩
theorem RaSt.new (h : Rdr w0 g l p r) : RaSt w0 ((w0.alloc (.cells (atc atZ) 36)).alloc (.cells (atc atZ) 36)) g l p r atZ := by
  have hb : Below w0.heap.size w0 ((w0.alloc (.cells (atc atZ) 36)).alloc (.cells (atc atZ) 36)) := ((Below.refl _ _).alloc (Nat.le_refl _) _).alloc (by simp) _
  exact ⟨h.lt, grown_of_below hb _, h.below hb, heap1 w0 _ _, heap_alloc2_new w0 _ _⟩
theorem RaSt.grow (h : RaSt w0 w g l p r a) {p' : Nat} {r' : Bool} (hr : Rdr w' g l p' r') (hg : w.grownBy w' (some g)) : RaSt w0 w' g l p' r' a := by
  have h0 := h.b0.lt
  have h1 := h.b1.lt
  have hlt := h.lt
  exact ⟨hlt, h.gr.trans hg, hr, (hg.block _ h0 (fun e => by injection e with e; omega)).trans h.b0, (hg.block _ h1 (fun e => by injection e with e; omega)).trans h.b1⟩
theorem RaSt.below (h : RaSt w0 w g l p r a) (hb : Below w.heap.size w w') : RaSt w0 w' g l p r a := h.grow (h.rd.below hb) (grown_of_below hb _)
theorem RaSt.cell (h : RaSt w0 w g l p r a) {b : AtM} {v : Value} (i : Nat) (e : (atc a).setIfInBounds i v = atc b) : RaSt w0 (w.setCell ⟨w0.heap.size + 1, i, none⟩ v) g l p r b := by
  have hlt := h.lt
  refine ⟨hlt, raGrown_set h.gr _ _ (Nat.le_succ _), h.rd.apart (grown_set _ _ _ _) h.b1 (by decide) (by omega), blk_other h.b0 _ (by omega), ?_⟩
  have := set_blk h.b1 i v
  rw [e] at this
  exact this
theorem RaSt.att (h : RaSt w0 w g l p r a) {b : AtM} (hg : w.grownBy w' (some (w0.heap.size + 1))) (hb : BoxA w' (w0.heap.size + 1) b) : RaSt w0 w' g l p r b := by
  have hlt := h.lt
  exact ⟨hlt, raGrown_past h.gr hg (Nat.le_succ _), h.rd.apart hg h.b1 (by decide) (by omega), (hg.block _ h.b0.lt (fun e => by injection e with e; omega)).trans h.b0, hb⟩
theorem RaSt.cells (h : RaSt w0 w g l p r a) (ho : a.Ok) :
    (w.cell? ⟨w0.heap.size + 1, 0, none⟩ = some (.int .i64 a.bo) ∧ w.cell? ⟨w0.heap.size + 1, 1, none⟩ = some (.int .i64 a.ki) ∧ w.cell? ⟨w0.heap.size + 1, 2, none⟩ = some (.int .i64 a.vi) ∧ w.cell? ⟨w0.heap.size + 1, 3, none⟩ = some (.int .i64 a.ph) ∧ w.cell? ⟨w0.heap.size + 1, 36, none⟩ = some (.int .i64 a.pv)) ∧
    (∀ i, w.frozen? ⟨w0.heap.size + 1, i, none⟩ = false) :=
  ⟨⟨h.b1.cells.1, h.b1.cells.2.1, h.b1.cells.2.2.1, h.b1.cells.2.2.2, h.b1.pv ho⟩, h.b1.free⟩
/-- One result that lies in memory, and one that doesn't. -/
theorem results_ab {fn : Func} {q s : Tmp} (h : fn.results = #[.cell q 36, .tmp s]) (tmps : Array Value) (w : World) (g2 : Nat) (t2 : TypeId) (ys : Array Value) (v : Value)
    (hq : tmps.getD q undef = .pointer (some ⟨g2, 0, none⟩)) (hv : tmps.getD s undef = v) (h2 : w.heap[g2]? = some (.cells ys t2 (0, 0))) (hy : ys.size = 101) :
    (results fn tmps).run Tryd.prog w = .ok (.tuple #[.agg ys, v]) w := by
  have hq' : tmps[q]?.getD undef = .pointer (some ⟨g2, 0, none⟩) := by simpa using hq
  have hv' : tmps[s]?.getD undef = v := by simpa using hv
  have r2 := run_loadVar_row (P := Tryd.prog) w g2 t2 36 ys (0, 0) _ h2 under_att rfl (by rw [size_att, hy])
  simp [results, h, hq', hv', asAddr, r2]
/-- The result is stored. -/
theorem RaSt.fin (h : RaSt w0 w g l p r a) (C : Array Value) : (setAtt w w0.heap.size C).heap[w0.heap.size]? = some (.cells C 36 (0, 0)) ∧ Rdr (setAtt w w0.heap.size C) g l p r ∧ w0.grownBy (setAtt w w0.heap.size C) (some g) := by
  have hlt := h.lt
  have hg : w.grownBy (setAtt w w0.heap.size C) (some w0.heap.size) := by
    refine ⟨rfl, rfl, rfl, ?_, fun k hk hne => setAtt_other w C (fun e => hne (by rw [e]))⟩
    unfold setAtt
    simp
  exact ⟨setAtt_same h.b0, h.rd.apart hg h.b0 (by decide) (by omega), raGrown_past h.gr hg (Nat.le_refl _)⟩
end

/-- What Read tells. -/
def RaPost (w : World) (g : Nat) (l : List UInt8) (p : Nat) (r : Bool) (e : Ending) (w' : World) : Prop :=
  e = .returned (.tuple #[.agg (atc (atOf l p r)), .bool (atIs l p r)]) ∧ (∃ p' r', Rdr w' g l p' r' ∧ (atIs l p r = true → p' = (rawA l p r).2.1 ∧ r' = true)) ∧ w.grownBy w' (some g)
theorem raPost_no {w w' : World} {g p q : Nat} {l : List UInt8} {r s : Bool} (h : atIs l p r = false) (hr : Rdr w' g l q s) (hg : w.grownBy w' (some g)) : RaPost w g l p r (.returned (.tuple #[.agg (atc atZ), .bool false])) w' := by
  refine ⟨?_, ⟨_, _, hr, fun h2 => ?_⟩, hg⟩
  · unfold atOf
    rw [h, if_neg (by decide)]
  · rw [h] at h2
    cases h2
theorem raPost_yes {w w' : World} {g p q : Nat} {l : List UInt8} {r : Bool} {a : AtM} (h : atIs l p r = true) (e : rawA l p r = (a, q, true)) (hr : Rdr w' g l q true) (hg : w.grownBy w' (some g)) : RaPost w g l p r (.returned (.tuple #[.agg (atc a), .bool true])) w' := by
  refine ⟨?_, ⟨_, _, hr, fun _ => ?_⟩, hg⟩
  · unfold atOf
    rw [h, if_pos rfl, e]
  · rw [e]
    exact ⟨rfl, rfl⟩

end Go.Proofs.YthgdgkdnidjdgaaDoor

/-
  att.Alike: whether all but who, and the tag, is the same.
-/
namespace Go.Proofs.YthgdgkdnidjdgaaDoor
set_option maxRecDepth 20000
open Go.RowKit
/-- '==' of whole attestations: kept whole. -/
noncomputable def eqAtt (u v : Value) (w : World) : Result Next := Sem.run Tryd.prog (execOp (fun x => match x with
  | .tmp 0 => u
  | _ => v) { dst := none, op := .binOp .eql 36 (.tmp 0) (.tmp 1) 36, type := 0, pos := "", after := #[], guard := none }) w
theorem exec_eq_att (r : Operand → Value) (i j : Tmp) (dst : Option Tmp) (ty : TypeId) (pos : String) (after : Array Edge) (guard : Option (Nat × Bool)) (w : World) :
    Sem.run Tryd.prog (execOp r { dst := dst, op := .binOp .eql 36 (.tmp i) (.tmp j) 36, type := ty, pos := pos, after := after, guard := guard }) w = eqAtt (r (.tmp i)) (r (.tmp j)) w := rfl
theorem eqAtt_eq {C D : Array Value} {q : Bool} (heq : ∀ W, (Op.equalIn 10000 36 (.agg C) (.agg D)).run Tryd.prog W = .ok q W) (w : World) : eqAtt (.agg C) (.agg D) w = .ok (.value (.bool q)) w := by
  unfold eqAtt
  go_simp
attribute [local go_sem ↓] exec_load_att exec_load_hash exec_eq_att

end Go.Proofs.YthgdgkdnidjdgaaDoor

/-
  What att's functions tell.
-/
namespace Go.Proofs.YthgdgkdnidjdgaaDoor
end Go.Proofs.YthgdgkdnidjdgaaDoor

/-
  The sum of a given text, by the kernel: words and states behind each round are laid as tables (sumgen.py), and checked.
-/
namespace Go.Proofs.YthgdgkdnidjdgaaDoor
set_option maxRecDepth 20000

def ckNone : St := ⟨0, 0, 0, 0, 0, 0, 0, 0⟩
def ckSame (v u : St) : Bool := v.a == u.a && v.b == u.b && v.c == u.c && v.d == u.d && v.e == u.e && v.f == u.f && v.g == u.g && v.h == u.h
theorem ck_of_same {v u : St} (h : ckSame v u = true) : v = u := by
  simp only [ckSame, Bool.and_eq_true, beq_iff_eq] at h
  obtain ⟨⟨⟨⟨⟨⟨⟨h1, h2⟩, h3⟩, h4⟩, h5⟩, h6⟩, h7⟩, h8⟩ := h
  cases v; cases u
  simp_all
def ckWords (b : Nat → UInt8) (W : List UInt32) : Bool := (List.range 64).all fun i => W.getD i 0 == if i < 16 then wordB b i else sm1 (W.getD (i - 2) 0) + W.getD (i - 7) 0 + sm0 (W.getD (i - 15) 0) + W.getD (i - 16) 0
def ckRnds (W : List UInt32) (V : List St) : Bool := (List.range 64).all fun i => ckSame (V.getD (i + 1) ckNone) (rnd (kc i) (W.getD i 0) (V.getD i ckNone))
theorem ck_wd {b : Nat → UInt8} {W : List UInt32} (h : ckWords b W = true) (i : Nat) (hi : i < 64) : wd b i = W.getD i 0 := by
  have all : ∀ i, i < 64 → W.getD i 0 = if i < 16 then wordB b i else sm1 (W.getD (i - 2) 0) + W.getD (i - 7) 0 + sm0 (W.getD (i - 15) 0) + W.getD (i - 16) 0 := fun i hi => by
    have := List.all_eq_true.1 h i (List.mem_range.2 hi)
    exact eq_of_beq this
  induction i using Nat.strongRecOn with
  | _ i ih =>
    by_cases h16 : i < 16
    · rw [wd_low _ h16, all i hi, if_pos h16]
    · rw [wd_high _ (by omega) hi, all i hi, if_neg h16, ih _ (by omega) (by omega), ih _ (by omega) (by omega), ih _ (by omega) (by omega), ih _ (by omega) (by omega)]
theorem ck_states {b : Nat → UInt8} {s : Nat → UInt32} {W : List UInt32} {V : List St} (hw : ckWords b W = true) (hr : ckRnds W V = true) (h0 : ckSame (St.of s) (V.getD 0 ckNone) = true) : ∀ n, n ≤ 64 → rnds (wd b) n (St.of s) = V.getD n ckNone
  | 0, _ => ck_of_same h0
  | n + 1, h => by
    unfold rnds
    rw [ck_states hw hr h0 n (by omega), ck_wd hw n (by omega)]
    exact (ck_of_same (List.all_eq_true.1 hr n (List.mem_range.2 (by omega)))).symm
/-- A block's words as a function. -/
def ckAt (S : List UInt32) (i : Nat) : UInt32 := S.getD i 0
def ckByte (B : List UInt8) (j : Nat) : UInt8 := B.getD j 0
/-- What a table of a block must show: its words, its states, the words behind it. -/
def ckBlock (S : List UInt32) (B : List UInt8) (W : List UInt32) (V : List St) (S' : List UInt32) : Bool :=
  ckWords (ckByte B) W && ckRnds W V && ckSame (St.of (ckAt S)) (V.getD 0 ckNone) && (List.range 8).all fun i => ckAt S i + (V.getD 64 ckNone).at_ i == ckAt S' i
theorem ck_step {l : List UInt8} {k : Nat} {S : List UInt32} {B : List UInt8} {W : List UInt32} {V : List St} {S' : List UInt32} (h : ckBlock S B W V S' = true) (hB : (l.drop (64 * k)).take 64 = B) (hS : ∀ i, i < 8 → absb l k i = ckAt S i) :
    ∀ i, i < 8 → absb l (k + 1) i = ckAt S' i := fun i hi => by
  simp only [ckBlock, Bool.and_eq_true] at h
  obtain ⟨⟨⟨hw, hr⟩, h0⟩, hs⟩ := h
  have e1 : absb l (k + 1) i = turnS (absb l k) (fun j => l.getD (64 * k + j) 0) i := rfl
  have e2 : turnS (absb l k) (fun j => l.getD (64 * k + j) 0) i = turnS (ckAt S) (ckByte B) i := turnS_congr hS (fun j hj => by
    unfold ckByte
    rw [← hB, List.getD_eq_getElem?_getD, List.getD_eq_getElem?_getD, List.getElem?_take_of_lt hj, List.getElem?_drop]) i hi
  rw [e1, e2]
  have e3 : turnS (ckAt S) (ckByte B) i = ckAt S i + (rnds (wd (ckByte B)) 64 (St.of (ckAt S))).at_ i := rfl
  rw [e3, ck_states hw hr h0 64 (by omega)]
  exact eq_of_beq (List.all_eq_true.1 hs i (List.mem_range.2 hi))
theorem ck_start : ∀ (l : List UInt8) i, i < 8 → absb l 0 i = ckAt sl i := fun _ _ _ => rfl
/-- The sum's bytes out of the last words. -/
def ckOut (S : List UInt32) : List UInt8 := (List.range 32).map fun i => byteOf (ckAt S (i / 4)) (i % 4)
theorem ck_sum {x f : List UInt8} {n : Nat} {S : List UInt32} {H : List UInt8} (hf : fillS x = f) (hn : f.length / 64 = n) (hS : ∀ i, i < 8 → absb f n i = ckAt S i) (hH : ckOut S = H) : hl 32 (sumS x) = H := by
  rw [← hH]
  unfold hl ckOut
  apply List.map_congr_left
  intro i hi
  have hi2 := List.mem_range.1 hi
  unfold sumS
  rw [hf, hn, hS (i / 4) (by omega)]
end Go.Proofs.YthgdgkdnidjdgaaDoor
