/-
  BkArg BkLaws Tables Args BlockCopies BlockGets BlockPuts: what each of them says stands at its head.
-/
import Derived.Test.YtekfkfpfnhoblaaDoorMg5
import Derived.Test.YtekfkfpfnhoblaaDoorMg16
import Derived.Test.YtekfkfpfnhoblaaDoorMg15
import Derived.Test.YtekfkfpfnhoblaaDoorMg7
import Derived.Lib.LaidTab
import Derived.MakeChecks
import Derived.LaidMore
import Derived.Stop.Joined
import Derived.OpenShut
import Derived.Stop.LaidErr
import Derived.Test.YtekfkfpfnhoblaaDoorTie
import Derived.Test.YtekfkfpfnhoblaaDoorCards
import Derived.SevenTiedAt
/-
  A block, as it came in by value.
-/
namespace Go.Proofs.YtekfkfpfnhoblaaDoor
set_option maxRecDepth 20000
open Go.ChangeShapes Go.WideShapes Go.ChangeAt Go.RowKit Go.Deep

/-- No text is longer than any text. -/
def sizedK (b : BkM) : Prop := ∀ t ∈ b.txs, t.key.length ≤ maxLen ∧ t.val.length ≤ maxLen
section
variable {H : Type} {enc : TypeId × Value → H} {w : World} {base : Nat} {spare : Nat → Bool} {held : Bool} {fuel : Nat} {cs : List Value} {x : DataW H × List MemPlace}
theorem trod_txs (h : DataW.trod enc Tryd.prog w base spare held fuel 24 cs = some x) : ∃ v L, cs = [v] ∧ Txs w v L ∧ ∀ t ∈ L, t.key.length ≤ maxLen ∧ t.val.length ≤ maxLen := by
  have hc : Tryd.prog.cellsOf 45 = 7 := by kernel_rfl
  rcases open_slice Tryd.underlying24 h with ⟨rfl, _⟩ | ⟨a, len, cap, m, n, D, Pl, rfl, _, hl, hm, hmm, _, hi⟩
  · exact ⟨_, [], rfl, ⟨none, 0, rfl, Nat.le_refl _, Nat.zero_le _, TxsA.nil _ _⟩, fun t ht => by cases ht⟩
  · have hlm : len ≤ m := by rw [hmm]; split <;> omega
    rw [hc] at hi
    have hex : ∀ i, ∃ t : TxM, (t.key.length ≤ maxLen ∧ t.val.length ≤ maxLen) ∧ (i < len → ∀ j u, (tcl t)[j]? = some u → w.cell? (a.add (i * 7 + j)) = some u) := by
      intro i
      by_cases hil : i < len
      · obtain ⟨cs', hcs, ht⟩ := hi i (by omega)
        obtain ⟨t, hb, rfl⟩ := trod_tx ht
        obtain ⟨_, hlen', hat⟩ := World.cells?_some hcs
        refine ⟨t, hb, fun _ j u hu => ?_⟩
        have hj : j < 7 := by
          have := (List.getElem?_eq_some_iff.1 hu).1
          rw [tcl_length] at this
          exact this
        rw [← Go.Deep.add_add, hat j hj]
        exact hu
      · exact ⟨txZ, ⟨Nat.zero_le _, Nat.zero_le _⟩, fun h => absurd h hil⟩
    refine ⟨_, (List.range len).map fun i => (hex i).choose, rfl, ⟨some a, cap, by simp, by simpa using hl, hm, fun h0 => ?_⟩, fun t ht => ?_⟩
    · have h0' : 0 < len := by simpa using h0
      obtain ⟨b, off, spot⟩ := a
      have hsp := (hex 0).choose_spec.2 h0' 0 _ rfl
      have hspot : spot = none := by simpa [Addr.add] using World.cell?_spot hsp
      subst hspot
      refine ⟨b, off, rfl, ?_, fun i hil => ?_⟩
      · have := World.block_lt_of_cell? w _ hsp
        rw [addr_add] at this
        exact this
      · have hil' : i < len := by simpa using hil
        simp only [List.getElem_map, List.getElem_range]
        intro j u hu
        have := (hex i).choose_spec.2 hil' j u hu
        rw [addr_add] at this
        rw [← this, Nat.add_assoc]
    · obtain ⟨i, _, rfl⟩ := List.mem_map.1 ht
      exact (hex i).choose_spec.1

theorem fields_bk : ∃ f0 f1 f2 f3 f4 : Field, Tryd.prog.underlying 26 = some (.struct #[f0, f1, f2, f3, f4]) ∧ (f0.type, f0.offset) = (23, 0) ∧ (f1.type, f1.offset) = (3, 32) ∧ (f2.type, f2.offset) = (3, 33)
    ∧ (f3.type, f3.offset) = (3, 34) ∧ (f4.type, f4.offset) = (24, 35) :=
  ⟨_, _, _, _, _, Tryd.underlying26, rfl, rfl, rfl, rfl, rfl⟩

theorem trod_bk (h : DataW.trod enc Tryd.prog w base spare held fuel 26 cs = some x) : ∃ b : BkM, BkV w (.agg cs.toArray) b ∧ sizedK b := by
  obtain ⟨f0, f1, f2, f3, f4, hu, e0, e1, e2, e3, e4⟩ := fields_bk
  injection e0 with t0 o0
  injection e1 with t1 o1
  injection e2 with t2 o2
  injection e3 with t3 o3
  injection e4 with t4 o4
  obtain ⟨xs, m, _, _, hlen, hxl, hf⟩ := DataW.trod_struct hu h
  have hc : Tryd.prog.cellsOf 26 = 36 := by kernel_rfl
  have hci : Tryd.prog.cellsOf 3 = 1 := by kernel_rfl
  have hch : Tryd.prog.cellsOf 23 = 32 := by kernel_rfl
  have hcs : Tryd.prog.cellsOf 24 = 1 := by kernel_rfl
  rw [hc] at hlen
  have hx : xs.length = 5 := hxl
  have g0 := hf 0 f0 rfl
  have g1 := hf 1 f1 rfl
  have g2 := hf 2 f2 rfl
  have g3 := hf 3 f3 rfl
  have g4 := hf 4 f4 rfl
  rw [t0, o0, hch, List.getElem?_eq_getElem (by omega)] at g0
  rw [t1, o1, hci, List.getElem?_eq_getElem (by omega)] at g1
  rw [t2, o2, hci, List.getElem?_eq_getElem (by omega)] at g2
  rw [t3, o3, hci, List.getElem?_eq_getElem (by omega)] at g3
  rw [t4, o4, hcs, List.getElem?_eq_getElem (by omega)] at g4
  obtain ⟨p, hp, c0⟩ := trod_hash g0
  obtain ⟨n1, c1, _, _⟩ := DataW.trod_int Tryd.underlying3 g1
  obtain ⟨n2, c2, _, _⟩ := DataW.trod_int Tryd.underlying3 g2
  obtain ⟨n3, c3, _, _⟩ := DataW.trod_int Tryd.underlying3 g3
  obtain ⟨v, L, c4, hL, hb⟩ := trod_txs g4
  refine ⟨⟨p, n1, n2, n3, L⟩, ⟨v, ?_, hp, hL⟩, hb⟩
  have d1 := cell_of_part c1
  have d2 := cell_of_part c2
  have d3 := cell_of_part c3
  have d4 := cell_of_part c4
  rw [List.drop_zero] at c0
  have e : cs = bcells p ++ [.int .i64 n1, .int .i64 n2, .int .i64 n3, v] := by
    apply List.ext_getElem?
    intro i
    by_cases h32 : i < 32
    · rw [List.getElem?_append_left (by rw [bcells_length, hp]; exact h32), ← c0, List.getElem?_take_of_lt h32]
    · rw [List.getElem?_append_right (by rw [bcells_length, hp]; omega), bcells_length, hp]
      match i, h32 with
      | 32, _ => exact d1
      | 33, _ => exact d2
      | 34, _ => exact d3
      | 35, _ => exact d4
      | i + 36, _ => rw [List.getElem?_eq_none (by omega), List.getElem?_eq_none (by simp <;> omega)]
  unfold bkc
  rw [e]
end
end Go.Proofs.YtekfkfpfnhoblaaDoor

/-
  Blocks' laws, from what block's functions tell (XBkCode).
-/
namespace Go.Proofs.YtekfkfpfnhoblaaDoor
set_option maxRecDepth 20000
open Go.RowKit

theorem bkAwake_all (w : World) (hK : Kst 1 w) : Calls Tryd.prog 7 #[] w fun e w' => e = .returned (.bool true) ∧ Below w.heap.size w w' := bkAwake_any bkFirst_ok bkPut_ok bkGet_ok bkHash_ok w hK
theorem lawBlockPuts_all (va : Value) (a : BkM) (vb : Value) (b : BkM) (w : World) (hva : BkV w va a) (hla : sizedK a) (hvb : BkV w vb b) (hlb : sizedK b) (hK1 : Kst 1 w) (hK0 : Kst 0 w) :
    Calls Tryd.prog 3 #[va, vb] w fun e w' => e = .returned (.bool true) ∧ Below w.heap.size w w' :=
  lawBlockPuts_any bkCheck_ok bkPut_ok bkGet_ok bkHash_ok bkSame_ok bkCopy_ok bkAwake_all va vb a b w hva hvb hla hlb hK1 hK0
theorem lawBlockGets_all (v : Value) (l : List UInt8) (w : World) (hv : Byt w v l) (hK : Kst 1 w) :
    Calls Tryd.prog 4 #[v] w fun e w' => e = .returned (.bool true) ∧ Below w.heap.size w w' :=
  lawBlockGets_any bkPut_ok bkGet_ok bkAwake_all v l w hv hK
theorem lawBlockCopies_all (va : Value) (a : BkM) (vb : Value) (b : BkM) (n : Nat) (w : World) (hva : BkV w va a) (hla : sizedK a) (hvb : BkV w vb b) (hlb : sizedK b) (hn : n ≤ 255) (hK1 : Kst 1 w) (hK0 : Kst 0 w) :
    Calls Tryd.prog 5 #[va, vb, .int .u8 (n : Int)] w fun e w' => e = .returned (.bool true) ∧ Below w.heap.size w w' :=
  lawBlockCopies_any bkHash_ok bkSame_ok bkCopy_ok bkAwake_all va vb a b n w hva hvb hla hlb hn hK1 hK0
end Go.Proofs.YtekfkfpfnhoblaaDoor

/-
  What the listed variables hold when the call begins: the constants.
-/
namespace Go.Proofs.YtekfkfpfnhoblaaDoor
set_option maxRecDepth 20000
open Go.ChangeShapes Go.WideShapes Go.ChangeAt Go.RowKit

def kz : List Int := kl.map wv
theorem laid_sha : (Rows.laid_tithing_sha_constants : DataW Unit) = Lib.tabData .u32 kz := by kernel_rfl
theorem kz_at {i : Nat} (h : i < 64) : kz.getD i 0 = wv (kc i) := by
  have hl : kl.length = 64 := rfl
  unfold kz kc
  simp [List.getD_eq_getElem?_getD, hl, h]
theorem gSha : Tryd.prog.globalNamed "tithing/sha.constants" = some 1 := by kernel_rfl
theorem tSha : (Tryd.prog.globals[1]?).map (·.type) = some 103 := by kernel_rfl
theorem gRef : Tryd.prog.globalNamed "tithing/tithingref02.constants" = some 0 := by kernel_rfl
theorem tRef : (Tryd.prog.globals[0]?).map (·.type) = some 103 := by kernel_rfl
theorem kst_of {name : String} {g : Nat} {W : World} {rest : List (String × DataW Unit)} (hg : Tryd.prog.globalNamed name = some g) (ht : (Tryd.prog.globals[g]?).map (·.type) = some 103)
    (h : laidMet Tryd.prog ((name, Lib.tabData .u32 kz) :: rest) W) : Kst g W := by
  have hT := Lib.tabIs_of_head hg ht Tryd.underlying103 Tryd.underlying76 (by kernel_rfl) (by kernel_rfl) h
  have hc : ∀ j, j < 64 → W.cell? ⟨g, j, none⟩ = some (.int .u32 (wv (kc j))) := fun j hj => by
    rw [hT.cell hg j (by simp [kz]; exact hj), kz_at hj]
  exact ⟨World.block_lt_of_cell? W _ (hc 0 (by omega)), hc⟩
theorem one_met {W : World} (h : laidMetH Tryd.prog [("tithing/sha.constants", Rows.laid_tithing_sha_constants)] W) : Kst 1 W := by
  rw [MakeChecks.laidMetH_plain _ _ _ (by kernel_rfl), laid_sha] at h
  exact kst_of gSha tSha h
theorem door_one (os : Os) (args : Array Value) : laidMetH Tryd.prog [("tithing/sha.constants", Rows.laid_tithing_sha_constants)] ((World.doorLaid Tryd.prog 400 os).forCall (fun _ _ => 0) ⟨#[], args, []⟩).memory :=
  laidMetH_of_parts3 (fuel := 8) (laidMet_of_run' 8 (by kernel_rfl) (by kernel_rfl)) (by kernel_rfl) (by kernel_rfl)
end Go.Proofs.YtekfkfpfnhoblaaDoor

/-
  Arrays that came in by value: what is known of their cells.
-/
namespace Go.Proofs.YtekfkfpfnhoblaaDoor
set_option maxRecDepth 20000
open Go.ChangeShapes Go.WideShapes Go.ChangeAt Go.RowKit

theorem laid_ref : (Rows.laid_tithing_tithingref02_constants : DataW Unit) = Lib.tabData .u32 kz := by kernel_rfl
theorem okWide_arr' {P : Program} {w : World} {r : Reach} {base : Nat} {v : Value} {t e : TypeId} {n : Nat} (ht : P.underlying t = some (.array n e)) (h : Value.okWide P w r base t v) : ∃ cs, v = .agg cs ∧ cs.size = P.cellsOf t := by
  cases v <;> simp [Value.okWide, ht] at h
  exact ⟨_, rfl, h.1⟩

theorem open_arr {H : Type} {enc : TypeId × Value → H} {w : World} {base : Nat} {spare : Nat → Bool} {held : Bool} {fuel : Nat} {t e : TypeId} {n : Nat} {k : IntKind} {cs : List Value} {x : DataW H × List MemPlace}
    (ht : Tryd.prog.underlying t = some (.array n e)) (he : Tryd.prog.underlying e = some (.int k)) (hce : Tryd.prog.cellsOf e = 1) (hct : Tryd.prog.cellsOf t = n)
    (h : DataW.trod enc Tryd.prog w base spare held fuel t cs = some x) : cs.length = n ∧ ∀ i, i < n → ∃ z, cs[i]? = some (.int k z) ∧ (Lit.int k z).wf = true := by
  obtain ⟨xs, m, _, _, hl, hn, hel⟩ := DataW.trod_array ht h
  rw [hct] at hl
  refine ⟨hl, fun i hi => ?_⟩
  have h1 := hel i hi
  rw [hce, Nat.mul_one, List.getElem?_eq_getElem (by omega : i < xs.length)] at h1
  obtain ⟨z, e1, e2, e3⟩ := DataW.trod_int he h1
  refine ⟨z, ?_, ?_⟩
  · have hi2 : i < cs.length := by omega
    have : (cs.drop i).take 1 = [cs[i]] := by
      rw [List.drop_eq_getElem_cons hi2]
      rfl
    rw [this] at e1
    rw [List.getElem?_eq_getElem hi2]
    injection e1 with e1 _
    rw [e1]
  · exact e3

def zof : Option Value → Nat
  | some (.int _ z) => z.toNat
  | _ => 0
theorem bytes_of {cs : List Value} {n : Nat} (hl : cs.length = n) (h : ∀ i, i < n → ∃ z, cs[i]? = some (.int .u8 z) ∧ (Lit.int .u8 z).wf = true) : ∃ f : Nat → UInt8, cs = (fcells n fun j => bcell (f j)).toList := by
  refine ⟨fun i => UInt8.ofNat (zof cs[i]?), ?_⟩
  apply List.ext_getElem?
  intro i
  rw [fcells_list]
  by_cases hi : i < n
  · obtain ⟨z, e, hw⟩ := h i hi
    have hr : 0 ≤ z ∧ z ≤ 255 := by simpa [Lit.wf, IntKind.min, IntKind.max, IntKind.signed, IntKind.bits] using hw
    rw [if_pos hi, e]
    have ez : zof cs[i]? = z.toNat := by rw [e]; rfl
    show some (Value.int .u8 z) = some (.int .u8 ((UInt8.ofNat (zof cs[i]?)).toNat : Int))
    rw [ez, UInt8.toNat_ofNat', show ((z.toNat % 2 ^ 8 : Nat) : Int) = z from by omega]
  · rw [if_neg hi, List.getElem?_eq_none (by omega)]
theorem words_of {cs : List Value} {n : Nat} (hl : cs.length = n) (h : ∀ i, i < n → ∃ z, cs[i]? = some (.int .u32 z) ∧ (Lit.int .u32 z).wf = true) : ∃ f : Nat → UInt32, cs = (fcells n fun j => wc (f j)).toList := by
  refine ⟨fun i => UInt32.ofNat (zof cs[i]?), ?_⟩
  apply List.ext_getElem?
  intro i
  rw [fcells_list]
  by_cases hi : i < n
  · obtain ⟨z, e, hw⟩ := h i hi
    have hr : 0 ≤ z ∧ z ≤ 4294967295 := by simpa [Lit.wf, IntKind.min, IntKind.max, IntKind.signed, IntKind.bits] using hw
    rw [if_pos hi, e]
    have ez : zof cs[i]? = z.toNat := by rw [e]; rfl
    show some (Value.int .u32 z) = some (.int .u32 (wv (UInt32.ofNat (zof cs[i]?))))
    rw [ez, wv_of _ (by omega), show ((z.toNat : Nat) : Int) = z from by omega]
  · rw [if_neg hi, List.getElem?_eq_none (by omega)]
theorem laid_tail {P : Program} {x : String × DataW Unit} {r : List (String × DataW Unit)} {w : World} (h : laidMet P (x :: r) w) : laidMet P r w := laidMet.tail h
theorem two_met {W : World} (h : laidMetH Tryd.prog [("tithing/sha.constants", Rows.laid_tithing_sha_constants), ("tithing/tithingref02.constants", Rows.laid_tithing_tithingref02_constants)] W) : Kst 1 W ∧ Kst 0 W := by
  rw [MakeChecks.laidMetH_plain _ _ _ (by kernel_rfl), laid_sha, laid_ref] at h
  exact ⟨kst_of gSha tSha h, kst_of gRef tRef (laid_tail h)⟩
theorem door_two (os : Os) (args : Array Value) : laidMetH Tryd.prog [("tithing/sha.constants", Rows.laid_tithing_sha_constants), ("tithing/tithingref02.constants", Rows.laid_tithing_tithingref02_constants)] ((World.doorLaid Tryd.prog 400 os).forCall (fun _ _ => 0) ⟨#[], args, []⟩).memory :=
  laidMetH_of_parts3 (fuel := 8) (laidMet_of_run' 8 (by kernel_rfl) (by kernel_rfl)) (by kernel_rfl) (by kernel_rfl)
end Go.Proofs.YtekfkfpfnhoblaaDoor

/-
  'tithinglaw07.BlockCopies' returns true whatever comes in, and leaves it as it was, where the package's constants are as the program's text lays them. No other condition.
-/
namespace Go.Proofs.YtekfkfpfnhoblaaDoor
set_option maxRecDepth 20000
open Go.ChangeShapes Go.WideShapes Go.ChangeAt Go.RowKit

set_option maxRecDepth 100000 in
theorem blockCopies_lifted (os : Os) (started : os.Started) (H : Type) (enc : TypeId × Value → H) :
    ReturnsInHanded {} Tryd.checked os 5 .any (fun w args => (Rows.blockCopiesSpec.pre enc Tryd.prog Tryd.f5 [] false w args ∧ laidMetH Tryd.prog [("tithing/sha.constants", Rows.laid_tithing_sha_constants), ("tithing/tithingref02.constants", Rows.laid_tithing_tithingref02_constants)] w) ∧ sizedMet enc Tryd.prog Tryd.f5 (OpenSpec.ofChange Rows.blockCopiesSpec) false w args)
      (Rows.blockCopiesSpec.post enc Tryd.prog Tryd.f5 false true false false) := by
  refine returnsInHanded_of_change_and (C := Tryd.checked) (X := fun w _ => laidMetH Tryd.prog [("tithing/sha.constants", Rows.laid_tithing_sha_constants), ("tithing/tithingref02.constants", Rows.laid_tithing_tithingref02_constants)] w) (fun _ _ _ hh h => h.of_heap hh) ownKnob_none started (by kernel_rfl) Tryd.func5
    (ChangeSpec.witness_shaped (enc := enc) (C := Tryd.checked) (os := os) (X := fun w _ => laidMetH Tryd.prog [("tithing/sha.constants", Rows.laid_tithing_sha_constants), ("tithing/tithingref02.constants", Rows.laid_tithing_tithingref02_constants)] w) false (World.doorLaid Tryd.prog 400 os) #[.agg (bkc bkZ (.slice none 0 0)), .agg (bkc bkZ (.slice none 0 0)), .int .u8 0] 8 rfl (World.shaped_of_RefB (by kernel_rfl) (by kernel_rfl)) (by kernel_rfl) (by kernel_rfl) (by kernel_rfl) (door_two os _)) ?_
  intro W base args ds gs before hval0 hW _ _ hL _
  have hval : ∀ (j : Nat) t v, Tryd.f5.params[j]? = some t → args[j]? = some v → Value.okWide Tryd.prog W .any base t v := hval0
  have hW' := hW
  obtain ⟨p, q, hA0, hV, rfl, hfz, hnd⟩ := hW
  have hA : DataW.TrodAll enc Tryd.prog W 0 (fun _ => true) true Tryd.f5.params.toList args.toList ds p := hA0
  rw [Tryd.params5] at hA hval
  obtain ⟨v0, vs0, d0, ds0, p0, q0, hargs, rfl, rfl, h0, r0⟩ := trodAll_cons hA
  obtain ⟨v1, vs1, d1, ds1, p1, q1, rfl, rfl, rfl, h1, r1⟩ := trodAll_cons r0
  obtain ⟨v2, vs2, d2, ds2, p2, q2, rfl, rfl, rfl, h2, r2⟩ := trodAll_cons r1
  obtain ⟨rfl, rfl, rfl⟩ := trodAll_nil r2
  obtain rfl : args = #[v0, v1, v2] := by cases args; simp_all
  obtain ⟨rfl, rfl⟩ := trodVars_none hV
  obtain ⟨cs0, rfl, _⟩ := okWide_struct Tryd.underlying26 (hval 0 26 v0 rfl rfl)
  have k0 := h0
  have lt0 : ∀ x ∈ p0, x.block < W.heap.size := by obtain ⟨m, hm⟩ := k0; exact DataW.trod_lt m _ _ _ hm
  obtain ⟨b0, hv0, hl0⟩ : ∃ b : BkM, BkV W (.agg cs0) b ∧ sizedK b := by
    obtain ⟨fuel, hf⟩ := h0
    have := trod_bk hf
    simpa [Value.cells] using this
  obtain ⟨cs1, rfl, _⟩ := okWide_struct Tryd.underlying26 (hval 1 26 v1 rfl rfl)
  have k1 := h1
  have lt1 : ∀ x ∈ p1, x.block < W.heap.size := by obtain ⟨m, hm⟩ := k1; exact DataW.trod_lt m _ _ _ hm
  obtain ⟨b1, hv1, hl1⟩ : ∃ b : BkM, BkV W (.agg cs1) b ∧ sizedK b := by
    obtain ⟨fuel, hf⟩ := h1
    have := trod_bk hf
    simpa [Value.cells] using this
  have k2 := h2
  have lt2 : ∀ x ∈ p2, x.block < W.heap.size := by obtain ⟨m, hm⟩ := k2; exact DataW.trod_lt m _ _ _ hm
  obtain ⟨n2, rfl, rfl, rfl, hw2⟩ := open_int Tryd.underlying5 (hval 2 5 v2 rfl rfl) h2
  have hr2 : 0 ≤ n2 ∧ n2 ≤ 255 := by simpa [Lit.wf, IntKind.min, IntKind.max, IntKind.signed, IntKind.bits] using hw2
  obtain ⟨m2, rfl⟩ : ∃ m : Nat, n2 = (m : Int) := ⟨n2.toNat, by omega⟩
  clear hA0 hval0
  refine (lawBlockCopies_all _ b0 _ b1 m2 W hv0 hl0 hv1 hl1 (by omega) (two_met hL).1 (two_met hL).2).mono fun e W' ⟨he, bel⟩ => ?_
  subst he
  exact ⟨_, rfl, _, _, _, [], _, [], hW', trodAll_mk1 (shut_bool Tryd.underlying4 _), (trodAll_cons_mk (Below.trod laidOut (by kernel_rfl) (of_decide_eq_true (by kernel_rfl)) k0 bel lt0) (trodAll_cons_mk (Below.trod laidOut (by kernel_rfl) (of_decide_eq_true (by kernel_rfl)) k1 bel lt1) (trodAll_cons_mk (Below.trod laidOut (by kernel_rfl) (of_decide_eq_true (by kernel_rfl)) k2 bel lt2) trodAll_mk0))), rfl, bel.frame _, fun h => by cases h⟩

theorem blockCopies_over : Rows.BlockCopiesSaid :=
  OpenClaim.holds_of_wide 5 Tryd.f5 rfl rfl rfl rfl rfl rfl rfl ⟨rfl, rfl, rfl, rfl, rfl⟩ rfl rfl rfl rfl rfl (by kernel_rfl) Tryd.func5 (by kernel_rfl)
    (of_decide_eq_true (by kernel_rfl)) (by unfold Func.isWrapper; first | (rw [if_pos (by decide +kernel)]; kernel_rfl) | (rw [if_neg (by decide +kernel)]; exact ⟨rfl, rfl⟩))
    (fun os started H enc _ => blockCopies_lifted os started H enc)

theorem blockCopies_holds : Rows.BlockCopiesCardSaid :=
  Claim7.holds_tied_plain_at .later [] [.data, .data] true Rows.blockCopiesCard.stood.harness false
    blockCopies_over (fun _ h => by cases h) (by kernel_rfl) (fun _ h => by cases h) blockCopies_row_tie rfl ⟨rfl, rfl⟩ (by kernel_rfl) rfl
    (fun f fn hf hfn => by
      obtain rfl : f = 5 := Option.some.inj ((show Tryd.prog.funcNamed "tithing/tithinglaw07.BlockCopies" = some 5 by kernel_rfl).symm.trans hf) |>.symm
      obtain rfl : fn = Tryd.f5 := (Option.some.inj (Tryd.func5.symm.trans hfn)).symm
      exact ⟨by kernel_rfl, fun j t ht => by
        rw [Tryd.params5] at ht
        have hm : t ∈ [26, 26, 5] := by simpa using Array.mem_of_getElem? ht
        have hall : ([26, 26, 5].all fun u => !Tryd.prog.wantsStandIn u) = true := by kernel_rfl
        exact (show Tryd.prog.wantsStandIn t = false by simpa using List.all_eq_true.1 hall t hm)⟩)
    (by kernel_rfl)
#print axioms blockCopies_holds
end Go.Proofs.YtekfkfpfnhoblaaDoor

/-
  'tithinglaw07.BlockGets' returns true whatever comes in, and leaves it as it was, where the package's constants are as the program's text lays them. No other condition.
-/
namespace Go.Proofs.YtekfkfpfnhoblaaDoor
set_option maxRecDepth 20000
open Go.ChangeShapes Go.WideShapes Go.ChangeAt Go.RowKit

set_option maxRecDepth 100000 in
theorem blockGets_lifted (os : Os) (started : os.Started) (H : Type) (enc : TypeId × Value → H) :
    ReturnsInHanded {} Tryd.checked os 4 .any (fun w args => (Rows.blockGetsSpec.pre enc Tryd.prog Tryd.f4 [] false w args ∧ laidMetH Tryd.prog [("tithing/sha.constants", Rows.laid_tithing_sha_constants)] w) ∧ sizedMet enc Tryd.prog Tryd.f4 (OpenSpec.ofChange Rows.blockGetsSpec) false w args)
      (Rows.blockGetsSpec.post enc Tryd.prog Tryd.f4 false true false false) := by
  refine returnsInHanded_of_change_and (C := Tryd.checked) (X := fun w _ => laidMetH Tryd.prog [("tithing/sha.constants", Rows.laid_tithing_sha_constants)] w) (fun _ _ _ hh h => h.of_heap hh) ownKnob_none started (by kernel_rfl) Tryd.func4
    (ChangeSpec.witness_shaped (enc := enc) (C := Tryd.checked) (os := os) (X := fun w _ => laidMetH Tryd.prog [("tithing/sha.constants", Rows.laid_tithing_sha_constants)] w) false (World.doorLaid Tryd.prog 400 os) #[.slice none 0 0] 8 rfl (World.shaped_of_RefB (by kernel_rfl) (by kernel_rfl)) (by kernel_rfl) (by kernel_rfl) (by kernel_rfl) (door_one os _)) ?_
  intro W base args ds gs before hval0 hW _ _ hL _
  have hval : ∀ (j : Nat) t v, Tryd.f4.params[j]? = some t → args[j]? = some v → Value.okWide Tryd.prog W .any base t v := hval0
  have hW' := hW
  obtain ⟨p, q, hA0, hV, rfl, hfz, hnd⟩ := hW
  have hA : DataW.TrodAll enc Tryd.prog W 0 (fun _ => true) true Tryd.f4.params.toList args.toList ds p := hA0
  rw [Tryd.params4] at hA hval
  obtain ⟨v0, vs0, d0, ds0, p0, q0, hargs, rfl, rfl, h0, r0⟩ := trodAll_cons hA
  obtain ⟨rfl, rfl, rfl⟩ := trodAll_nil r0
  obtain rfl : args = #[v0] := by cases args; simp_all
  obtain ⟨rfl, rfl⟩ := trodVars_none hV
  obtain ⟨a0, len0, cap0, rfl⟩ := okWide_slice Tryd.underlying29 (hval 0 29 v0 rfl rfl)
  have k0 := h0
  have lt0 : ∀ x ∈ p0, x.block < W.heap.size := by obtain ⟨m, hm⟩ := k0; exact DataW.trod_lt m _ _ _ hm
  obtain ⟨z0, w0⟩ : ∃ zs, IsRow .u8 W a0 len0 cap0 zs := by
    obtain ⟨fuel, hf⟩ := h0
    rcases open_ints Tryd.underlying29 Tryd.underlying5 (by kernel_rfl) hf with ⟨hcs, _⟩ | ⟨x, l, c, zs, hcs, _, hl, hm, hz, _, hcell, hwz⟩
    · simp [Value.cells] at hcs
      obtain ⟨rfl, rfl, rfl⟩ := hcs
      exact ⟨[], .inl ⟨rfl, rfl, rfl, rfl⟩⟩
    · simp [Value.cells] at hcs
      obtain ⟨rfl, rfl, rfl⟩ := hcs
      exact ⟨zs, .inr ⟨_, rfl, hl, hm, by simpa using hz, hcell, hwz⟩⟩
  obtain ⟨l0, _, b0⟩ := row_byt w0
  clear hA0 hval0
  refine (lawBlockGets_all _ l0 W b0 (one_met hL)).mono fun e W' ⟨he, bel⟩ => ?_
  subst he
  exact ⟨_, rfl, _, _, _, [], _, [], hW', trodAll_mk1 (shut_bool Tryd.underlying4 _), (trodAll_cons_mk (Below.trod laidOut (by kernel_rfl) (of_decide_eq_true (by kernel_rfl)) k0 bel lt0) trodAll_mk0), rfl, bel.frame _, fun h => by cases h⟩

theorem blockGets_over : Rows.BlockGetsSaid :=
  OpenClaim.holds_of_wide 4 Tryd.f4 rfl rfl rfl rfl rfl rfl rfl ⟨rfl, rfl, rfl, rfl, rfl⟩ rfl rfl rfl rfl rfl (by kernel_rfl) Tryd.func4 (by kernel_rfl)
    (of_decide_eq_true (by kernel_rfl)) (by unfold Func.isWrapper; first | (rw [if_pos (by decide +kernel)]; kernel_rfl) | (rw [if_neg (by decide +kernel)]; exact ⟨rfl, rfl⟩))
    (fun os started H enc _ => blockGets_lifted os started H enc)

theorem blockGets_holds : Rows.BlockGetsCardSaid :=
  Claim7.holds_tied_plain_at .later [] [.data] true Rows.blockGetsCard.stood.harness false
    blockGets_over (fun _ h => by cases h) (by kernel_rfl) (fun _ h => by cases h) blockGets_row_tie rfl ⟨rfl, rfl⟩ (by kernel_rfl) rfl
    (fun f fn hf hfn => by
      obtain rfl : f = 4 := Option.some.inj ((show Tryd.prog.funcNamed "tithing/tithinglaw07.BlockGets" = some 4 by kernel_rfl).symm.trans hf) |>.symm
      obtain rfl : fn = Tryd.f4 := (Option.some.inj (Tryd.func4.symm.trans hfn)).symm
      exact ⟨by kernel_rfl, fun j t ht => by
        rw [Tryd.params4] at ht
        have hm : t ∈ [29] := by simpa using Array.mem_of_getElem? ht
        have hall : ([29].all fun u => !Tryd.prog.wantsStandIn u) = true := by kernel_rfl
        exact (show Tryd.prog.wantsStandIn t = false by simpa using List.all_eq_true.1 hall t hm)⟩)
    (by kernel_rfl)
#print axioms blockGets_holds
end Go.Proofs.YtekfkfpfnhoblaaDoor

/-
  'tithinglaw07.BlockPuts' returns true whatever comes in, and leaves it as it was, where the package's constants are as the program's text lays them. No other condition.
-/
namespace Go.Proofs.YtekfkfpfnhoblaaDoor
set_option maxRecDepth 20000
open Go.ChangeShapes Go.WideShapes Go.ChangeAt Go.RowKit

set_option maxRecDepth 100000 in
theorem blockPuts_lifted (os : Os) (started : os.Started) (H : Type) (enc : TypeId × Value → H) :
    ReturnsInHanded {} Tryd.checked os 3 .any (fun w args => (Rows.blockPutsSpec.pre enc Tryd.prog Tryd.f3 [] false w args ∧ laidMetH Tryd.prog [("tithing/sha.constants", Rows.laid_tithing_sha_constants), ("tithing/tithingref02.constants", Rows.laid_tithing_tithingref02_constants)] w) ∧ sizedMet enc Tryd.prog Tryd.f3 (OpenSpec.ofChange Rows.blockPutsSpec) false w args)
      (Rows.blockPutsSpec.post enc Tryd.prog Tryd.f3 false true false false) := by
  refine returnsInHanded_of_change_and (C := Tryd.checked) (X := fun w _ => laidMetH Tryd.prog [("tithing/sha.constants", Rows.laid_tithing_sha_constants), ("tithing/tithingref02.constants", Rows.laid_tithing_tithingref02_constants)] w) (fun _ _ _ hh h => h.of_heap hh) ownKnob_none started (by kernel_rfl) Tryd.func3
    (ChangeSpec.witness_shaped (enc := enc) (C := Tryd.checked) (os := os) (X := fun w _ => laidMetH Tryd.prog [("tithing/sha.constants", Rows.laid_tithing_sha_constants), ("tithing/tithingref02.constants", Rows.laid_tithing_tithingref02_constants)] w) false (World.doorLaid Tryd.prog 400 os) #[.agg (bkc bkZ (.slice none 0 0)), .agg (bkc bkZ (.slice none 0 0))] 8 rfl (World.shaped_of_RefB (by kernel_rfl) (by kernel_rfl)) (by kernel_rfl) (by kernel_rfl) (by kernel_rfl) (door_two os _)) ?_
  intro W base args ds gs before hval0 hW _ _ hL _
  have hval : ∀ (j : Nat) t v, Tryd.f3.params[j]? = some t → args[j]? = some v → Value.okWide Tryd.prog W .any base t v := hval0
  have hW' := hW
  obtain ⟨p, q, hA0, hV, rfl, hfz, hnd⟩ := hW
  have hA : DataW.TrodAll enc Tryd.prog W 0 (fun _ => true) true Tryd.f3.params.toList args.toList ds p := hA0
  rw [Tryd.params3] at hA hval
  obtain ⟨v0, vs0, d0, ds0, p0, q0, hargs, rfl, rfl, h0, r0⟩ := trodAll_cons hA
  obtain ⟨v1, vs1, d1, ds1, p1, q1, rfl, rfl, rfl, h1, r1⟩ := trodAll_cons r0
  obtain ⟨rfl, rfl, rfl⟩ := trodAll_nil r1
  obtain rfl : args = #[v0, v1] := by cases args; simp_all
  obtain ⟨rfl, rfl⟩ := trodVars_none hV
  obtain ⟨cs0, rfl, _⟩ := okWide_struct Tryd.underlying26 (hval 0 26 v0 rfl rfl)
  have k0 := h0
  have lt0 : ∀ x ∈ p0, x.block < W.heap.size := by obtain ⟨m, hm⟩ := k0; exact DataW.trod_lt m _ _ _ hm
  obtain ⟨b0, hv0, hl0⟩ : ∃ b : BkM, BkV W (.agg cs0) b ∧ sizedK b := by
    obtain ⟨fuel, hf⟩ := h0
    have := trod_bk hf
    simpa [Value.cells] using this
  obtain ⟨cs1, rfl, _⟩ := okWide_struct Tryd.underlying26 (hval 1 26 v1 rfl rfl)
  have k1 := h1
  have lt1 : ∀ x ∈ p1, x.block < W.heap.size := by obtain ⟨m, hm⟩ := k1; exact DataW.trod_lt m _ _ _ hm
  obtain ⟨b1, hv1, hl1⟩ : ∃ b : BkM, BkV W (.agg cs1) b ∧ sizedK b := by
    obtain ⟨fuel, hf⟩ := h1
    have := trod_bk hf
    simpa [Value.cells] using this
  clear hA0 hval0
  refine (lawBlockPuts_all _ b0 _ b1 W hv0 hl0 hv1 hl1 (two_met hL).1 (two_met hL).2).mono fun e W' ⟨he, bel⟩ => ?_
  subst he
  exact ⟨_, rfl, _, _, _, [], _, [], hW', trodAll_mk1 (shut_bool Tryd.underlying4 _), (trodAll_cons_mk (Below.trod laidOut (by kernel_rfl) (of_decide_eq_true (by kernel_rfl)) k0 bel lt0) (trodAll_cons_mk (Below.trod laidOut (by kernel_rfl) (of_decide_eq_true (by kernel_rfl)) k1 bel lt1) trodAll_mk0)), rfl, bel.frame _, fun h => by cases h⟩

theorem blockPuts_over : Rows.BlockPutsSaid :=
  OpenClaim.holds_of_wide 3 Tryd.f3 rfl rfl rfl rfl rfl rfl rfl ⟨rfl, rfl, rfl, rfl, rfl⟩ rfl rfl rfl rfl rfl (by kernel_rfl) Tryd.func3 (by kernel_rfl)
    (of_decide_eq_true (by kernel_rfl)) (by unfold Func.isWrapper; first | (rw [if_pos (by decide +kernel)]; kernel_rfl) | (rw [if_neg (by decide +kernel)]; exact ⟨rfl, rfl⟩))
    (fun os started H enc _ => blockPuts_lifted os started H enc)

theorem blockPuts_holds : Rows.BlockPutsCardSaid :=
  Claim7.holds_tied_plain_at .later [] [.data, .data] true Rows.blockPutsCard.stood.harness false
    blockPuts_over (fun _ h => by cases h) (by kernel_rfl) (fun _ h => by cases h) blockPuts_row_tie rfl ⟨rfl, rfl⟩ (by kernel_rfl) rfl
    (fun f fn hf hfn => by
      obtain rfl : f = 3 := Option.some.inj ((show Tryd.prog.funcNamed "tithing/tithinglaw07.BlockPuts" = some 3 by kernel_rfl).symm.trans hf) |>.symm
      obtain rfl : fn = Tryd.f3 := (Option.some.inj (Tryd.func3.symm.trans hfn)).symm
      exact ⟨by kernel_rfl, fun j t ht => by
        rw [Tryd.params3] at ht
        have hm : t ∈ [26, 26] := by simpa using Array.mem_of_getElem? ht
        have hall : ([26, 26].all fun u => !Tryd.prog.wantsStandIn u) = true := by kernel_rfl
        exact (show Tryd.prog.wantsStandIn t = false by simpa using List.all_eq_true.1 hall t hm)⟩)
    (by kernel_rfl)
#print axioms blockPuts_holds
end Go.Proofs.YtekfkfpfnhoblaaDoor
