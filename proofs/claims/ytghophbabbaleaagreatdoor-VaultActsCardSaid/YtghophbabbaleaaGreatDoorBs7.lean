/-
  Args MacSpec Consts Masked KeyBlock Pair MacOf RefKey: what each of them says stands at its head.
-/
import Derived.Stop.LaidErr
import Derived.Test.YtghophbabbaleaaGreatDoorBs6
import Derived.Lib.SlBytesConst
import Derived.Laws.IdiomCopy
namespace Go.Proofs.YtghophbabbaleaaGreatDoor
set_option maxRecDepth 20000
open Go.ChangeShapes Go.WideShapes Go.ChangeAt Go.RowKit
theorem laid_ref : (Rows.laid_tithing_tithingref02_constants : DataW Unit) = Lib.tabData .u32 kz := by kernel_rfl
theorem okWide_arr' {P : Program} {w : World} {r : Reach} {base : Nat} {v : Value} {t e : TypeId} {n : Nat} (ht : P.underlying t = some (.array n e)) (h : Value.okWide P w r base t v) : ∃ cs, v = .agg cs ∧ cs.size = P.cellsOf t := by
  cases v <;> simp [Value.okWide, ht] at h
  exact ⟨_, rfl, h.1⟩
theorem open_arr {H : Type} {enc : TypeId × Value → H} {w : World} {base : Nat} {spare : Nat → Bool} {held : Bool} {fuel : Nat} {t e : TypeId} {n : Nat} {k : IntKind} {cs : List Value} {x : DataW H × List MemPlace}
    (ht : Tryz.prog.underlying t = some (.array n e)) (he : Tryz.prog.underlying e = some (.int k)) (hce : Tryz.prog.cellsOf e = 1) (hct : Tryz.prog.cellsOf t = n)
    (h : DataW.trod enc Tryz.prog w base spare held fuel t cs = some x) : cs.length = n ∧ ∀ i, i < n → ∃ z, cs[i]? = some (.int k z) ∧ (Lit.int k z).wf = true := by
  obtain ⟨xs, m, _, _, hl, hn, hel⟩ := DataW.trod_array ht h
  rw [hct] at hl
  refine ⟨hl, fun i hi => ?_⟩
  have h1 := hel i hi
  rw [hce, Nat.mul_one, List.getElem?_eq_getElem (by omega : i < xs.length)] at h1
  obtain ⟨z, e1, e2, e3⟩ := DataW.trod_int he h1
  refine ⟨z, ?_, ?_⟩
  · have hi2 : i < cs.length := by omega
    have : (cs.drop i).take 1 = [cs[i]] := by
      rw [List.drop_eq_getElem_cons hi2]
      rfl
    rw [this] at e1
    rw [List.getElem?_eq_getElem hi2]
    injection e1 with e1 _
    rw [e1]
  · exact e3
def zof : Option Value → Nat
  | some (.int _ z) => z.toNat
  | _ => 0
theorem bytes_of {cs : List Value} {n : Nat} (hl : cs.length = n) (h : ∀ i, i < n → ∃ z, cs[i]? = some (.int .u8 z) ∧ (Lit.int .u8 z).wf = true) : ∃ f : Nat → UInt8, cs = (fcells n fun j => bcell (f j)).toList := by
  refine ⟨fun i => UInt8.ofNat (zof cs[i]?), ?_⟩
  apply List.ext_getElem?
  intro i
  rw [fcells_list]
  by_cases hi : i < n
  · obtain ⟨z, e, hw⟩ := h i hi
    have hr : 0 ≤ z ∧ z ≤ 255 := by simpa [Lit.wf, IntKind.min, IntKind.max, IntKind.signed, IntKind.bits] using hw
    rw [if_pos hi, e]
    have ez : zof cs[i]? = z.toNat := by rw [e]; rfl
    show some (Value.int .u8 z) = some (.int .u8 ((UInt8.ofNat (zof cs[i]?)).toNat : Int))
    rw [ez, UInt8.toNat_ofNat', show ((z.toNat % 2 ^ 8 : Nat) : Int) = z from by omega]
  · rw [if_neg hi, List.getElem?_eq_none (by omega)]
theorem laid_tail {P : Program} {x : String × DataW Unit} {r : List (String × DataW Unit)} {w : World} (h : laidMet P (x :: r) w) : laidMet P r w := laidMet.tail h
theorem two_met {W : World} (h : laidMetH Tryz.prog [("tithing/sha.constants", Rows.laid_tithing_sha_constants), ("tithing/tithingref02.constants", Rows.laid_tithing_tithingref02_constants)] W) : Kst 1 W ∧ Kst 0 W := by
  rw [MakeChecks.laidMetH_plain _ _ _ (by kernel_rfl), laid_sha, laid_ref] at h
  exact ⟨kst_of gSha tSha h, kst_of gRef tRef (laid_tail h)⟩
theorem door_two (os : Os) (args : Array Value) : laidMetH Tryz.prog [("tithing/sha.constants", Rows.laid_tithing_sha_constants), ("tithing/tithingref02.constants", Rows.laid_tithing_tithingref02_constants)] ((World.doorLaid Tryz.prog 400 os).forCall (fun _ _ => 0) ⟨#[], args, []⟩).memory :=
  laidMetH_of_parts3 (fuel := 8) (laidMet_of_run' 8 (by kernel_rfl) (by kernel_rfl)) (by kernel_rfl) (by kernel_rfl)
end Go.Proofs.YtghophbabbaleaaGreatDoor
namespace Go.Proofs.YtghophbabbaleaaGreatDoor
set_option maxRecDepth 20000
def hl (n : Nat) (f : Nat → UInt8) : List UInt8 := (List.range n).map f
theorem hl_length (n : Nat) (f : Nat → UInt8) : (hl n f).length = n := by simp [hl]
theorem hl_get (n : Nat) (f : Nat → UInt8) (j : Nat) (h : j < (hl n f).length) : (hl n f)[j] = f j := by simp [hl]
theorem hl_getD (n : Nat) (f : Nat → UInt8) {j : Nat} (h : j < n) : (hl n f).getD j 0 = f j := by
  rw [List.getD_eq_getElem?_getD, List.getElem?_eq_getElem (by rw [hl_length]; exact h), Option.getD_some, hl_get]
theorem hl_succ (n : Nat) (f : Nat → UInt8) : hl (n + 1) f = hl n f ++ [f n] := by simp [hl, List.range_succ]
theorem hl_congr {n : Nat} {f g : Nat → UInt8} (h : ∀ j, j < n → f j = g j) : hl n f = hl n g := by
  unfold hl
  apply List.map_congr_left
  intro j hj
  exact h j (List.mem_range.1 hj)
theorem byt_blk {w : World} {g n : Nat} {f : Nat → UInt8} {t : TypeId} (h : Blk w g n (fun j => bcell (f j)) t) (hn : n ≤ maxLen) : Byt w (.slice (some ⟨g, 0, none⟩) n n) (hl n f) :=
  ⟨_, n, by rw [hl_length], by rw [hl_length]; exact Nat.le_refl _, hn, fun _ => ⟨g, 0, rfl, h.lt, fun j hj => by
    rw [hl_length] at hj
    rw [Nat.zero_add, h.cell hj, hl_get]⟩⟩
def keyB (key : List UInt8) (j : Nat) : UInt8 := if 64 < key.length then (if j < 32 then sumS key j else 0) else key.getD j 0
def padL (b : Nat → UInt8) (x : UInt8) : List UInt8 := hl 64 fun j => b j ^^^ x
def macS (key text : List UInt8) : Nat → UInt8 := sumS (padL (keyB key) 92 ++ hl 32 (sumS (padL (keyB key) 54 ++ text)))
theorem bv_xor (x y : UInt8) : bits BinOp.xor IntKind.u8 (x.toNat : Int) (y.toNat : Int) = ((x ^^^ y).toNat : Int) := by
  have := x.toNat_lt
  have := y.toNat_lt
  rw [u8_xor_nat _ _ (by omega) (by omega), UInt8.toNat_xor]
theorem bv_or (x y : UInt8) : bits BinOp.or IntKind.u8 (x.toNat : Int) (y.toNat : Int) = ((x ||| y).toNat : Int) := by
  have := x.toNat_lt
  have := y.toNat_lt
  rw [u8_or_nat _ _ (by omega) (by omega), UInt8.toNat_or]
end Go.Proofs.YtghophbabbaleaaGreatDoor
namespace Go.Proofs.YtghophbabbaleaaGreatDoor
set_option maxRecDepth 20000
open Go.RowKit
theorem conv1 (w : World) (C : Array Value) (n c : Nat) : (convert 29 29 (.slice (some ⟨w.heap.size, 0, none⟩) n c)).run Tryz.prog (w.alloc (.cells C 5)) = .ok (.slice (some ⟨w.heap.size, 0, none⟩) n c) (w.alloc (.cells C 5 (C.size, C.size + 1))) :=
  Lib.run_convert_bytes_const (P := Tryz.prog) w 29 5 C n c under_bytes (by kernel_rfl)
theorem byt_row {w : World} {g : Nat} {l : List UInt8} {T : TypeId} {m : Nat × Nat} (h : w.heap[g]? = some (.cells (bcells l).toArray T m)) (hm : l.length ≤ maxLen) : Byt w (.slice (some ⟨g, 0, none⟩) l.length l.length) l :=
  ⟨_, l.length, rfl, Nat.le_refl _, hm, fun _ => ⟨g, 0, rfl, lt_of_block h, fun j hj => by
    rw [Nat.zero_add, cell_of_row _ _ _ _ _ _ h]
    simp [bcells, hj]⟩⟩
theorem heap1 (w : World) (o o2 : Obj) : ((w.alloc o).alloc o2).heap[w.heap.size]? = some o := by
  rw [Below.heap_alloc _ _ _ (by simp)]
  exact heap_alloc_new w o
theorem heap2 (w : World) (o o2 : Obj) : ((w.alloc o).alloc o2).heap[w.heap.size + 1]? = some o2 := by
  have := heap_alloc_new (w.alloc o) o2
  rw [show (w.alloc o).heap.size = w.heap.size + 1 from by simp] at this
  exact this
end Go.Proofs.YtghophbabbaleaaGreatDoor
namespace Go.Proofs.YtghophbabbaleaaGreatDoor
set_option maxRecDepth 20000
open Go.RowKit
set_option maxHeartbeats 1600000 in
theorem masked_any (b : Nat → UInt8) (x : UInt8) (z : Int) (hz : z = (x.toNat : Int)) (w : World) :
    Calls Tryz.prog 154 #[.agg (fcells 64 fun j => bcell (b j)), .int .u8 z] w fun e w' => e = .returned (.agg (fcells 64 fun j => bcell (b j ^^^ x))) ∧ Below w.heap.size w w' := by
  have HZ := hid hz
  clear hz
  have hA0 : Blk ((w.alloc (.cells (fcells 64 fun j => bcell (b j)) 181)).alloc (.cells (fcells 64 fun _ => bcell 0) 181)) w.heap.size 64 (fun j => bcell (b j)) 181 := (Blk.new w _ _ _).alloc _
  have hR0 : Blk ((w.alloc (.cells (fcells 64 fun j => bcell (b j)) 181)).alloc (.cells (fcells 64 fun _ => bcell 0) 181)) (w.heap.size + 1) 64 (fun _ => bcell 0) 181 := by
    have := Blk.new (w.alloc (.cells (fcells 64 fun j => bcell (b j)) 181)) 64 (fun _ => bcell 0) 181
    simpa using this
  have hb0 : Below w.heap.size w ((w.alloc (.cells (fcells 64 fun j => bcell (b j)) 181)).alloc (.cells (fcells 64 fun _ => bcell 0) 181)) := ((Below.refl _ _).alloc (Nat.le_refl _) _).alloc (by simp) _
  have HA0 := hid hA0
  have HR0 := hid hR0
  clear hA0 hR0
  go_enter Tryz.func154, Tryz.ntmps154
  go_wp2_with (refine wpList_alloc_arr arrB rfl rfl ?_)
  generalize (w.alloc (.cells (fcells 64 fun j => bcell (b j)) 181)).alloc (.cells (fcells 64 fun _ => bcell 0) 181) = w0 at *
  obtain ⟨G, HG⟩ : ∃ g : Nat, Hid (w.heap.size = g) := ⟨_, hid rfl⟩
  have hA0 := HA0.out
  have hR0 := HR0.out
  rw [HG.out] at hA0 hR0 hb0 ⊢
  go_loopw [6] (fun si wr => ∃ i : Nat, i ≤ 64 ∧ si = .int .i64 (i : Int) ∧ Below G w wr ∧ Blk wr (G + 1) 64 (fun _ => bcell 0) 181 ∧ Blk wr G 64 (fun j => bcell (if j < i then b j ^^^ x else b j)) 181) (fun si _ => 64 - (intOf si).toNat)
  case atStart => exact ⟨0, Nat.zero_le _, rfl, hb0, hR0, hA0.congr fun j _ => by rw [if_neg (by omega)]⟩
  case round =>
    clear hA0 hR0 hb0
    obtain ⟨i, hi, rfl, hbw, hR, hA⟩ := hrel
    by_cases hlt : i < 64
    · have hi64 : (i : Int) < 64 := by omega
      have k1 := hA.cell (i := i) hlt
      have f1 := hA.free i
      rw [if_neg (show ¬ i < i by omega)] at k1
      unfold bcell at k1
      obtain ⟨y, HY⟩ : ∃ y : Int, Hid (((b i).toNat : Int) = y) := ⟨_, hid rfl⟩
      obtain ⟨r, HR⟩ : ∃ r : Int, Hid (((b i ^^^ x).toNat : Int) = r) := ⟨_, hid rfl⟩
      have hx := bv_xor (b i) x
      rw [HY.out, ← HZ.out, HR.out] at hx
      rw [HY.out] at k1
      go_wp2_with fail
      go_roundw
      case rel =>
        refine ⟨i + 1, by omega, by go_num, below_set hbw (g := G) (Nat.le_refl _) _ _, hR.apart _ _ (by omega), (hA.set (i := i) hlt _).congr fun j _ => ?_⟩
        by_cases e : j = i
        · subst e
          rw [if_pos rfl, if_pos (by omega), ← HR.out]
          rfl
        · rw [if_neg e]
          by_cases h : j < i
          · rw [if_pos h, if_pos (by omega)]
          · rw [if_neg h, if_neg (by omega)]
      case measure => simp [intOf]; omega
    · have hi64 : ¬ (i : Int) < 64 := by omega
      have hA2 : Blk wr G 64 (fun j => bcell (b j ^^^ x)) 181 := hA.congr fun j hj => by rw [if_pos (by omega)]
      clear hA
      go_wp2_with (first
        | (refine wpList_load_arr arrB rfl _ rfl rfl hA2 ?_)
        | (refine wpList_store_arr arrB rfl _ _ rfl rfl rfl hR (fun _ _ => rfl) ?_; intro w9 hg9 hA9 hs9))
      refine bodyPost_ret (arrB.result rfl _ _ rfl hA9) rfl ⟨rfl, ?_⟩
      rw [HG.out]
      exact below_into hbw (g := G + 1) (by omega) hg9 (by have := hbw.size; have := HG.out; omega)
end Go.Proofs.YtghophbabbaleaaGreatDoor
namespace Go.Proofs.YtghophbabbaleaaGreatDoor
set_option maxRecDepth 20000
open Go.RowKit
theorem keyB_long {key : List UInt8} (h : 64 < key.length) (j : Nat) : keyB key j = if j < 32 then sumS key j else 0 := if_pos h
theorem keyB_short {key : List UInt8} (h : ¬ 64 < key.length) (j : Nat) : keyB key j = key.getD j 0 := if_neg h
theorem keyB_cells {key : List UInt8} (h : ¬ 64 < key.length) {w : World} {g : Nat} {t : TypeId} (hB : Blk w g 64 (fun j => if 0 ≤ j ∧ j < 0 + key.length then bcell (key.getD (j - 0) 0) else bcell 0) t) : Blk w g 64 (fun j => bcell (keyB key j)) t := hB.congr fun j _ => by
  rw [keyB_short h]
  by_cases h : j < key.length
  · rw [if_pos (by omega), Nat.sub_zero]
  · rw [if_neg (by omega), List.getD_eq_getElem?_getD, List.getElem?_eq_none (by omega)]
    rfl
theorem wpList_copy_none {ops : Array Oper} {rest : List Oper} {o : Oper} {a : Act} {w : World} {Q : Exit → Act → World → Prop} (hgd : o.guard = none) (d s : Operand)
    (ho : o.op = .call { callee := .builtin .copy, args := #[d, s], argTypes := #[29, 29] })
    {D A : Option Addr} {dLen dCap n c : Nat} (hd : a.eval d = .slice D dLen dCap) (hs : a.eval s = .slice A n c) (hn : Nat.min n dLen = 0)
    (h : wpList Tryz.prog ops Q rest (a.put o.dst (goInt 0)) w) : wpList Tryz.prog ops Q (o :: rest) a w := by
  have hrun := run_copy_none (P := Tryz.prog) w 29 29 o.type 5 D A dLen dCap n c under_bytes (by kernel_rfl) hn
  refine wpList_plain hgd fun _ hK => ?_
  unfold Oper.wp
  simp [execOp, ho, resolve, invoke, builtin, hd, hs, hrun, Result.andThen]
  exact hK _ _ h
set_option maxHeartbeats 1600000 in
theorem keyBlock_any (v : Value) (key : List UInt8) (w : World) (hv : Byt w v key) (hs : key.length ≤ 1000000) (hK : Kst 1 w) :
    Calls Tryz.prog 153 #[v] w fun e w' => e = .returned (.agg (fcells 64 fun j => bcell (keyB key j))) ∧ Below w.heap.size w w' := by
  obtain ⟨A, c, rfl⟩ := hv.shape
  have hcc := hv.at_.2.1
  have hcm := hv.at_.2.2.1
  unfold maxLen at hcm
  have hR0 : Blk ((w.alloc (.cells (fcells 64 fun _ => bcell 0) 181)).alloc (.cells (fcells 64 fun _ => bcell 0) 181)) w.heap.size 64 (fun _ => bcell 0) 181 := (Blk.new w _ _ _).alloc _
  have hB0 : Blk ((w.alloc (.cells (fcells 64 fun _ => bcell 0) 181)).alloc (.cells (fcells 64 fun _ => bcell 0) 181)) (w.heap.size + 1) 64 (fun _ => bcell 0) 181 := by
    have := Blk.new (w.alloc (.cells (fcells 64 fun _ => bcell 0) 181)) 64 (fun _ => bcell 0) 181
    simpa using this
  have hb0 : Below w.heap.size w ((w.alloc (.cells (fcells 64 fun _ => bcell 0) 181)).alloc (.cells (fcells 64 fun _ => bcell 0) 181)) := ((Below.refl _ _).alloc (Nat.le_refl _) _).alloc (by simp) _
  have HZ0 := hid (show ((w.alloc (.cells (fcells 64 fun _ => bcell 0) 181)).alloc (.cells (fcells 64 fun _ => bcell 0) 181)).heap.size = w.heap.size + 1 + 1 by simp)
  have HR0 := hid hR0
  have HB0 := hid hB0
  have HKE := hid hs
  clear hR0 hB0
  by_cases hlong : 64 < key.length
  · have hq : (64 : Int) < (key.length : Int) := by omega
    go_enter Tryz.func153, Tryz.ntmps153
    go_wp2_with (refine wpList_alloc_arr arrB rfl rfl ?_)
    generalize (w.alloc (.cells (fcells 64 fun _ => bcell 0) 181)).alloc (.cells (fcells 64 fun _ => bcell 0) 181) = w0 at *
    have hb1 : Below w.heap.size w (w0.alloc (.cells #[.slice A key.length c] 29)) := hb0.alloc hb0.size _
    have hnc := new_cell w0 #[.slice A key.length c] 29 0 _ rfl
    rw [HZ0.out] at hnc
    refine (of_one (.slice A key.length c) key (w.heap.size + 1 + 1) 1 _ (by simp [HZ0.out]) hnc (hv.below hb1) HKE.out (hK.below hb1)).mono ?_
    rintro e w1 ⟨rfl, hb2⟩
    have hR1 : Blk w1 w.heap.size 64 (fun _ => bcell 0) 181 := Blk.keep (HR0.out.alloc _) hb2
    have hB1 : Blk w1 (w.heap.size + 1) 64 (fun _ => bcell 0) 181 := Blk.keep (HB0.out.alloc _) hb2
    have hb1' := hb1.trans (hb2.mono hb1.size)
    clear hb1 hb2 hb0 HR0 HB0 hnc HZ0
    go_wp2_with (first
      | (refine wpList_alloc_arr arrH rfl rfl ?_)
      | (refine wpList_store_arr arrH rfl _ _ rfl rfl rfl (Blk.new w1 32 (fun _ => bcell 0) 38) (fun _ _ => rfl) ?_; intro w2 hg2 hH2 hs2))
    have hR2 := (hR1.alloc (.cells (fcells 32 fun _ => bcell 0) 38)).grown hg2 (fun e => by have := Option.some.inj e; have := hR1.lt; omega)
    have hB2 := (hB1.alloc (.cells (fcells 32 fun _ => bcell 0) 38)).grown hg2 (fun e => by have := Option.some.inj e; have := hB1.lt; omega)
    have hb2' := (hb1'.alloc hb1'.size (.cells (fcells 32 fun _ => bcell 0) 38)).grown hg2 (by have := hb1'.size; simp; omega) (fun k hk => by injection hk; have := hb1'.size; omega)
    have hv2 := byt_blk hH2 (by unfold maxLen; omega)
    obtain ⟨H, HH⟩ : ∃ H : Nat, Hid (w1.heap.size = H) := ⟨_, hid rfl⟩
    rw [HH.out] at hv2 ⊢
    clear hR1 hB1 hb1' hg2 hH2 hs2
    go_still_tail 2, (by kernel_rfl)
    change wpList _ _ _ _ _ w2.drew
    refine wpList_copy_blk (k := 32) rfl (.tmp 11) (.tmp 12) rfl rfl rfl (w := w2.drew) hv2 hB2.drew (by rw [hl_length]; rfl) (by omega) (by omega) ?_
    intro w4 hg4 hB4 hs4
    have hB5 : Blk w4 (w.heap.size + 1) 64 (fun j => bcell (keyB key j)) 181 := hB4.congr fun j hj => by
      rw [keyB_long hlong]
      by_cases h : j < 32
      · rw [if_pos (by omega), if_pos h, Nat.sub_zero, hl_getD _ _ h]
      · rw [if_neg (by omega), if_neg h]
    have hR4 : Blk w4 w.heap.size 64 (fun _ => bcell 0) 181 := Blk.grown (w := w2.drew) hR2 hg4 (fun e => by have := Option.some.inj e; omega)
    have hb4' : Below w.heap.size w w4 := below_into (w := w2.drew) hb2'.drew (g := w.heap.size + 1) (by omega) hg4 hb2'.size
    clear hB4 hg4 hs4 hR2 hB2 hb2' hv2
    go_wp2_with (first
      | (refine wpList_load_arr arrB rfl _ rfl rfl hB5 ?_)
      | (refine wpList_store_arr arrB rfl _ _ rfl rfl rfl hR4 (fun _ _ => rfl) ?_; intro w9 hg9 hA9 hs9))
    refine bodyPost_ret (arrB.result rfl _ _ rfl hA9) rfl ⟨rfl, ?_⟩
    exact below_into hb4' (g := w.heap.size) (by omega) hg9 hb4'.size
  · have hq : ¬ (64 : Int) < (key.length : Int) := by omega
    by_cases h0 : key.length = 0
    · have hnil : key = [] := List.eq_nil_of_length_eq_zero h0
      have HN := hid hnil
      have hB5 : Blk ((w.alloc (.cells (fcells 64 fun _ => bcell 0) 181)).alloc (.cells (fcells 64 fun _ => bcell 0) 181)) (w.heap.size + 1) 64 (fun j => bcell (keyB key j)) 181 := HB0.out.congr fun j hj => by
        rw [keyB_short hlong, hnil]
        rfl
      have HB5 := hid hB5
      have hmin : Nat.min key.length 64 = 0 := by rw [h0]; rfl
      have HM := hid hmin
      clear hnil hB5 hmin h0 hq hlong
      have hq : ¬ (64 : Int) < (key.length : Int) := by rw [HN.out]; decide
      go_enter Tryz.func153, Tryz.ntmps153
      go_wp2_with (first
        | (refine wpList_alloc_arr arrB rfl rfl ?_)
        | (refine wpList_copy_none rfl (.tmp 15) (.tmp 16) rfl rfl rfl HM.out ?_)
        | (refine wpList_load_arr arrB rfl _ rfl rfl HB5.out ?_)
        | (refine wpList_store_arr arrB rfl _ _ rfl rfl rfl HR0.out (fun _ _ => rfl) ?_; intro w9 hg9 hA9 hs9))
      refine bodyPost_ret (arrB.result rfl _ _ rfl hA9) rfl ⟨rfl, ?_⟩
      exact below_into hb0 (g := w.heap.size) (by omega) hg9 hb0.size
    · have hm : key.length ≤ 64 := by omega
      have hmin : key.length = Nat.min key.length 64 := (Nat.min_eq_left hm).symm
      have HM := hid hmin
      have HP := hid (show 0 < key.length by omega)
      have HL := hid hm
      have HV := hid (hv.below hb0)
      have HQ := hid hlong
      clear hmin hm h0 hv hlong
      go_enter Tryz.func153, Tryz.ntmps153
      go_wp2_with (first
        | (refine wpList_alloc_arr arrB rfl rfl ?_)
        | (refine wpList_copy_blk (k := key.length) rfl (.tmp 15) (.tmp 16) rfl rfl rfl HV.out HB0.out HM.out HP.out (by have := HL.out; omega) ?_; intro w4 hg4 hB4 hs4; have hB5 := keyB_cells HQ.out hB4; have hR4 := HR0.out.grown hg4 (fun e => by have := Option.some.inj e; omega))
        | (refine wpList_load_arr arrB rfl _ rfl rfl hB5 ?_)
        | (refine wpList_store_arr arrB rfl _ _ rfl rfl rfl hR4 (fun _ _ => rfl) ?_; intro w9 hg9 hA9 hs9))
      have hb4' := below_into hb0 (g := w.heap.size + 1) (by omega) hg4 hb0.size
      refine bodyPost_ret (arrB.result rfl _ _ rfl hA9) rfl ⟨rfl, ?_⟩
      exact below_into hb4' (g := w.heap.size) (by omega) hg9 hb4'.size
end Go.Proofs.YtghophbabbaleaaGreatDoor
namespace Go.Proofs.YtghophbabbaleaaGreatDoor
set_option maxRecDepth 20000
open Go.RowKit
theorem exec_alloc_B (r : Operand → Value) (dst : Option Tmp) (ty : TypeId) (pos : String) (after : Array Edge) (guard : Option (Nat × Bool)) (w : World) :
    Sem.run Tryz.prog (execOp r { dst := dst, op := .alloc 181, type := ty, pos := pos, after := after, guard := guard }) w = .ok (.value (.pointer (some ⟨w.heap.size, 0, none⟩))) (w.alloc (.cells (fcells 64 fun _ => bcell 0) 181)) := by
  unfold execOp
  simp only [Sem.run_bind, Instr.alloc, arrB.run_zero, newVar, newRow, run_newObj_alloc, Sem.run_pure, Result.andThen_ok, Value.cells]
theorem exec_store_hide (T : TypeId) (k : Nat) (r : Operand → Value) (x y : Operand) (dst : Option Tmp) (ty : TypeId) (pos : String) (after : Array Edge) (guard : Option (Nat × Bool)) (w : World) :
    Sem.run Tryz.prog (execOp r { dst := dst, op := .store (tyHide T k) x y, type := ty, pos := pos, after := after, guard := guard }) w = storeA (tyHide T k) (r x) (r y) w := rfl
theorem tyHide_store {T : TypeId} {k : Nat} (h : T = k) (x y : Operand) : Op.store k x y = Op.store (tyHide T k) x y := by
  unfold tyHide
  rw [h]
theorem size_drew (W : World) : W.drew.heap.size = W.heap.size := rfl
theorem size_alloc (W : World) (o : Obj) : (W.alloc o).heap.size = W.heap.size + 1 := by simp
def Has (W : World) (g : Nat) : Prop := ∃ f, Blk W g 64 f 181
theorem Has.alloc (W : World) (o : Obj) (g : Nat) (h : Has W g) : Has (W.alloc o) g := by
  obtain ⟨f, h⟩ := h
  exact ⟨f, h.alloc o⟩
theorem Has.drew (W : World) (g : Nat) (h : Has W g) : Has W.drew g := h
theorem Has.new (W : World) : Has (W.alloc (.cells (fcells 64 fun _ => bcell 0) 181)) W.heap.size := ⟨_, Blk.new W _ _ _⟩
theorem Has.new2 (W : World) (o : Obj) : Has ((W.alloc o).alloc (.cells (fcells 64 fun _ => bcell 0) 181)) (W.heap.size + 1) := by
  have := Has.new (W.alloc o)
  rw [show (W.alloc o).heap.size = W.heap.size + 1 from by simp] at this
  exact this
theorem Has.keep {W W' : World} (hb : Below W.heap.size W W') (g : Nat) (h : Has W g) : Has W' g := by
  obtain ⟨f, h⟩ := h
  exact ⟨f, h.keep hb⟩
theorem Has.set (W : World) (k g : Nat) (f : Nat → Value) (h : Has W g) : Has (W.setRow k (fcells 64 f)) g := by
  obtain ⟨f0, h⟩ := h
  by_cases e : g = k
  · subst e
    exact ⟨f, setRow_heap W g _ _ _ _ h⟩
  · exact ⟨f0, (setRow_other W k g _ e).trans h⟩
theorem Has.newOld (W : World) (o : Obj) : Has ((W.alloc (.cells (fcells 64 fun _ => bcell 0) 181)).alloc o) W.heap.size := Has.alloc _ o _ (Has.new W)
theorem Has.setAlloc (W : World) (o : Obj) (k g : Nat) (f : Nat → Value) (h : Has W g) : Has ((W.alloc o).setRow k (fcells 64 f)) g := Has.set _ k g f (Has.alloc W o g h)
theorem Has.setNewOld (W : World) (o : Obj) (k : Nat) (f : Nat → Value) : Has (((W.alloc (.cells (fcells 64 fun _ => bcell 0) 181)).alloc o).setRow k (fcells 64 f)) W.heap.size := Has.set _ k _ f (Has.newOld W o)
theorem Has.setNew2 (W : World) (o : Obj) (k : Nat) (f : Nat → Value) : Has (((W.alloc o).alloc (.cells (fcells 64 fun _ => bcell 0) 181)).setRow k (fcells 64 f)) (W.heap.size + 1) := Has.set _ k _ f (Has.new2 W o)
theorem Has.setNew (W : World) (k : Nat) (f : Nat → Value) : Has ((W.alloc (.cells (fcells 64 fun _ => bcell 0) 181)).setRow k (fcells 64 f)) W.heap.size := Has.set _ k _ f (Has.new W)
theorem store_has {T : TypeId} (hT : T = 181) (f : Nat → Value) (h1 : ∀ i, i < 64 → (f i).oneCell' = true) (W : World) (g : Nat) (h : Has W g) :
    storeA (tyHide T 181) (.pointer (some ⟨g, 0, none⟩)) (.agg (fcells 64 f)) W = .ok .skip (W.setRow g (fcells 64 f)) := by
  obtain ⟨f0, hg⟩ := h
  have hr := run_storeVar_row (P := Tryz.prog) W g 181 181 (fcells 64 f0) (fcells 64 f) hg (by rw [arrB.size, fcells_size]) (by rw [fcells_size, fcells_size]) (fcells_one h1)
  unfold tyHide
  rw [hT]
  unfold storeA execOp
  simp only [Instr.storeAt, Instr.sureAddr, Sem.run_bind, Sem.run_pure, Result.andThen_ok, hr]
theorem pair_of {W : World} {I O : Nat} {fi fo : Nat → Value} (hI : Has W I) (hO : Has W O) (hne : I ≠ O) :
    Blk ((W.setRow I (fcells 64 fi)).setRow O (fcells 64 fo)) I 64 fi 181 ∧ Blk ((W.setRow I (fcells 64 fi)).setRow O (fcells 64 fo)) O 64 fo 181 := by
  obtain ⟨f1, h1⟩ := hI
  obtain ⟨f2, h2⟩ := hO
  exact ⟨(setRow_other _ _ _ _ hne).trans (setRow_heap W I _ _ _ _ h1), setRow_heap _ O _ _ _ _ ((setRow_other W I O _ (fun e => hne e.symm)).trans h2)⟩
def Ok (w : World) (R B : Nat) (b : Nat → UInt8) (W : World) : Prop := R < B ∧ B < W.heap.size ∧ Blk W R 32 (fun _ => bcell 0) 38 ∧ Blk W B 64 (fun j => bcell (b j)) 181 ∧ Below R w W
section
variable {w : World} {R B : Nat} {b : Nat → UInt8}
theorem Ok.alloc (W : World) (o : Obj) (h : Ok w R B b W) : Ok w R B b (W.alloc o) := ⟨h.1, by have := h.2.1; simp; omega, h.2.2.1.alloc o, h.2.2.2.1.alloc o, h.2.2.2.2.alloc (by have := h.1; have := h.2.1; omega) o⟩
theorem Ok.drew (W : World) (h : Ok w R B b W) : Ok w R B b W.drew := ⟨h.1, h.2.1, h.2.2.1, h.2.2.2.1, h.2.2.2.2.drew⟩
theorem Ok.keep {W W' : World} (hb : Below W.heap.size W W') (h : Ok w R B b W) : Ok w R B b W' := ⟨h.1, Nat.lt_of_lt_of_le h.2.1 hb.size, h.2.2.1.keep hb, h.2.2.2.1.keep hb, h.2.2.2.2.trans (hb.mono (by have := h.1; have := h.2.1; omega))⟩
theorem Ok.set (W : World) (g : Nat) (f : Nat → Value) (hg : B < g) (h : Ok w R B b W) : Ok w R B b (W.setRow g (fcells 64 f)) :=
  ⟨h.1, by have := h.2.1; simp; omega, (setRow_other W g R _ (by have := h.1; omega)).trans h.2.2.1, (setRow_other W g B _ (by omega)).trans h.2.2.2.1, below_into h.2.2.2.2 (g := g) (by have := h.1; omega) ⟨rfl, rfl, rfl, by simp, fun k _ hk => setRow_other W g k _ (fun e => hk (by simp [e]))⟩ (by have := h.1; have := h.2.1; omega)⟩
end
def InOut (w : World) (R B : Nat) (b : Nat → UInt8) (fi fo : Nat → Value) (v6 v7 : Value) (W : World) : Prop :=
  ∃ I O, v6 = .pointer (some ⟨I, 0, none⟩) ∧ v7 = .pointer (some ⟨O, 0, none⟩) ∧ R < I ∧ R < O ∧ Blk W I 64 fi 181 ∧ Blk W O 64 fo 181 ∧ Ok w R B b W
theorem InOut.of {w : World} {R B I O : Nat} {b : Nat → UInt8} {fi fo : Nat → Value} {W : World} (hI : Has W I) (hO : Has W O) (hne : I ≠ O) (hRI : R < I) (hRO : R < O) (hok : Ok w R B b ((W.setRow I (fcells 64 fi)).setRow O (fcells 64 fo))) :
    InOut w R B b fi fo (.pointer (some ⟨I, 0, none⟩)) (.pointer (some ⟨O, 0, none⟩)) ((W.setRow I (fcells 64 fi)).setRow O (fcells 64 fo)) :=
  ⟨I, O, rfl, rfl, hRI, hRO, (pair_of hI hO hne).1, (pair_of hI hO hne).2, hok⟩
end Go.Proofs.YtghophbabbaleaaGreatDoor
namespace Go.Proofs.YtghophbabbaleaaGreatDoor
set_option maxRecDepth 20000
open Go.RowKit
theorem info_bs : (Tryz.prog.info? 29).map (fun i => (i.zero, i.size, i.bytes)) = some (some (.slice none 0 0), 1, 24) := by kernel_rfl
theorem under_bs : Tryz.prog.underlying 161 = some (.slice 29) := by kernel_rfl
theorem one_val (w : World) (x : Value) (T : TypeId) : ∀ j u, ([x] : List Value)[j]? = some u → (w.alloc (.cells #[x] T)).cell? ((⟨w.heap.size, 0, none⟩ : Addr).add j) = some u := fun j u h => by
  have hj : j < 1 := (List.getElem?_eq_some_iff.1 h).1
  obtain rfl : j = 0 := by omega
  have e := cell_one_new w x T 0 u (by simpa using h)
  exact e
theorem vals_at {w w' : World} {gp n B : Nat} {vs : Nat → Value} (hc : ∀ j, j < n → w.cell? ⟨gp, j, none⟩ = some (vs j)) (hb : Below B w w') (hg : gp < B) : ∀ j u, ((List.range n).map vs)[j]? = some u → w'.cell? ((⟨gp, 0, none⟩ : Addr).add j) = some u := fun j u h => by
  have hj : j < n := by
    have := (List.getElem?_eq_some_iff.1 h).1
    simpa using this
  have e : u = vs j := by
    rw [List.getElem?_map, List.getElem?_range hj] at h
    simpa using h.symm
  rw [addr_add, Nat.zero_add, e]
  exact (hb.cell (p := ⟨gp, j, none⟩) hg).trans (hc j hj)
theorem byt_one' {w : World} {v : Value} {l : List UInt8} (h : Byt w v l) : v.oneCell' = true := by
  obtain ⟨A, c, rfl, _⟩ := h
  rfl
attribute [local go_sem ↓] exec_load_hide exec_store_hide exec_alloc_B
set_option maxRecDepth 100000 in
set_option maxHeartbeats 3200000 in
theorem macOf_any (v : Value) (key : List UInt8) (ls : List (List UInt8)) (vs : Nat → Value) (gp n c : Nat) (w : World) (hv : Byt w v key) (hs : key.length ≤ 1000000) (hn : ls.length = n) (hg : gp < w.heap.size)
    (hc : ∀ j, j < n → w.cell? ⟨gp, j, none⟩ = some (vs j)) (hvs : ∀ j (h : j < ls.length), Byt w (vs j) ls[j]) (hls : ls.flatten.length ≤ 100000000) (hn2 : n ≤ 900) (hK : Kst 1 w) :
    Calls Tryz.prog 119 #[v, .slice (some ⟨gp, 0, none⟩) n c] w fun e w' => e = .returned (.agg (fcells 32 fun j => bcell (macS key ls.flatten j))) ∧ Below w.heap.size w w' := by
  have HN := hid hn
  have HC := hid hc
  have HVS := hid hvs
  clear hn hc hvs
  go_enter Tryz.func119, Tryz.ntmps119
  go_wp2_with (refine wpList_alloc_arr arrH rfl rfl ?_)
  have hb0 : Below w.heap.size w (w.alloc (.cells (fcells 32 fun _ => bcell 0) 38)) := (Below.refl _ _).alloc (Nat.le_refl _) _
  have hH0 : Blk (w.alloc (.cells (fcells 32 fun _ => bcell 0) 38)) w.heap.size 32 (fun _ => bcell 0) 38 := Blk.new w _ _ _
  generalize w.alloc (.cells (fcells 32 fun _ => bcell 0) 38) = w0 at *
  refine (keyBlock_any _ key w0 (hv.below hb0) hs (hK.below hb0)).mono ?_
  rintro e w1 ⟨rfl, hb1⟩
  have hb1' := hb0.trans (hb1.mono hb0.size)
  have hH1 := hH0.keep hb1
  clear hb0 hH0 hb1
  go_wp2_with (first
    | (refine wpList_alloc_arr arrB rfl rfl ?_)
    | (refine wpList_store_arr arrB rfl _ _ rfl rfl rfl (Blk.new w1 64 (fun _ => bcell 0) 181) (fun _ _ => rfl) ?_; intro w2 hg2 hB2 hs2))
  have hok2 : Ok w w.heap.size w1.heap.size (keyB key) w2 := by
    refine ⟨hH1.lt, hB2.lt, (hH1.alloc (.cells (fcells 64 fun _ => bcell 0) 181)).grown hg2 (fun e => by have := Option.some.inj e; have := hH1.lt; omega), hB2, ?_⟩
    exact (hb1'.alloc hb1'.size (.cells (fcells 64 fun _ => bcell 0) 181)).grown hg2 (by have := hb1'.size; simp; omega) (fun k hk => by injection hk; have := hb1'.size; omega)
  clear hg2 hB2 hs2 hH1 hb1'
  obtain ⟨B, HB⟩ : ∃ B : Nat, Hid (w1.heap.size = B) := ⟨_, hid rfl⟩
  obtain ⟨R, HR⟩ : ∃ R : Nat, Hid (w.heap.size = R) := ⟨_, hid rfl⟩
  rw [HB.out, HR.out] at hok2 ⊢
  try go_frame
  go_cut [6, 7] (fun s6 s7 wx => InOut w R B (keyB key) (fun j => bcell (keyB key j ^^^ 54)) (fun j => bcell (keyB key j ^^^ 92)) s6 s7 wx)
  case first =>
    have hlt := hok2.2.1
    have hlt2 : B < w2.heap.size + 1 := by omega
    obtain ⟨T, HT⟩ : ∃ T : TypeId, Hid (T = 181) := ⟨_, hid rfl⟩
    have hL := tyHide_load HT.out
    have hLS := tyHide_store HT.out
    simp only [hL, hLS]
    clear hL hLS
    obtain ⟨D, HD⟩ : ∃ D : Array Value, Hid (fcells 64 (fun j => bcell (keyB key j)) = D) := ⟨_, hid rfl⟩
    have MI := masked_any (keyB key) 54 54 rfl
    have MO := masked_any (keyB key) 92 92 rfl
    rw [HD.out] at MI MO
    have HMI := hid MI
    have HMO := hid MO
    clear MI MO
    have hld : ∀ w' : World, Ok w R B (keyB key) w' → loadA (tyHide T 181) (.pointer (some ⟨B, 0, none⟩)) w' = .ok (.value (.agg D)) w' := fun w' h => by
      rw [← HD.out]
      exact loadA_hide (o := 0) HT.out arrB h.2.2.2.1 (by omega) (fun j _ => by rw [Nat.zero_add])
    have hst := fun x => store_has HT.out (fun j => bcell (keyB key j ^^^ x)) (fun _ _ => rfl)
    have r1 := Has.alloc
    have r2 := Has.new
    have r3 := Has.new2
    have r4 := Has.drew
    have r5 := Has.set
    have r6 := Has.newOld
    have r7 := Has.setAlloc
    have r8 := Has.setNewOld
    have r9 := Has.setNew2
    have r10 := Has.setNew
    have o1 := fun W o => Ok.alloc (w := w) (R := R) (B := B) (b := keyB key) W o
    have o2 := fun W => Ok.drew (w := w) (R := R) (B := B) (b := keyB key) W
    have o3 := fun W g f => Ok.set (w := w) (R := R) (B := B) (b := keyB key) W g f
    go_region_held3 (fun w' => Ok w R B (keyB key) w')
      (first | assumption | (exact o2 _ (o1 _ _ hok2)) | (exact o2 _ (o1 _ _ (o1 _ _ hok2))) | (simp only [*]; done))
      (first
        | (go_at_call 154; (with_reducible refine (HMI.out _).mono ?_); rintro e w3 ⟨rfl, hb3⟩; have ho3 := Ok.keep (w := w) (R := R) (B := B) (b := keyB key) hb3; have hr3 := Has.keep hb3; (try have hp3 := hr3 w2.heap.size (by first | exact r4 _ _ (r2 _) | exact r4 _ _ (r6 _ _) | exact r4 _ _ (r3 _ _))); (try have hp3' := hr3 (w2.heap.size + 1) (by first | exact r4 _ _ (r2 _) | exact r4 _ _ (r6 _ _) | exact r4 _ _ (r3 _ _))); have hok3 := ho3 (by assumption); have hl3 : B < w3.heap.size := hok3.2.1; have hm3 : B < w3.heap.size + 1 := by omega)
        | (go_at_call 154; (with_reducible refine (HMO.out _).mono ?_); rintro e w4 ⟨rfl, hb4⟩; have ho4 := Ok.keep (w := w) (R := R) (B := B) (b := keyB key) hb4; have hr4 := Has.keep hb4; (try have hp4 := hr4 w2.heap.size (by first | assumption | exact r2 _ | exact r6 _ _ | exact r3 _ _ | exact r1 _ _ _ (by assumption) | exact r1 _ _ _ (r1 _ _ _ (by assumption)))); (try have hp4' := hr4 (w2.heap.size + 1) (by first | assumption | exact r2 _ | exact r6 _ _ | exact r3 _ _ | exact r1 _ _ _ (by assumption) | exact r1 _ _ _ (r1 _ _ _ (by assumption)))); (try have hp5 := hr4 w3.heap.size (by first | assumption | exact r2 _ | exact r6 _ _ | exact r3 _ _ | exact r1 _ _ _ (by assumption) | exact r1 _ _ _ (r1 _ _ _ (by assumption)))); (try have hp5' := hr4 (w3.heap.size + 1) (by first | assumption | exact r2 _ | exact r6 _ _ | exact r3 _ _ | exact r1 _ _ _ (by assumption) | exact r1 _ _ _ (r1 _ _ _ (by assumption)))); have hok4 := ho4 (by assumption); have hl4 : B < w4.heap.size := hok4.2.1; have hm4 : B < w4.heap.size + 1 := by omega)
        | fail)
    all_goals
      have hz3 := hb3.size
      have hz4 := hb4.size
      have hRB := hok2.1
      try simp only [size_drew, size_alloc] at hz3
      try simp only [size_alloc] at hz4
      clear hld hst r4 r5 r7 r8 r9 r10 o1 o2 o3 ho3 ho4 hr3 hr4
      go_wp2_with fail
      go_meet
      case rel => exact InOut.of (by first | assumption | exact r2 _ | exact r6 _ _ | exact r3 _ _ | exact r1 _ _ _ (by assumption) | exact r1 _ _ _ (r1 _ _ _ (by assumption))) (by first | assumption | exact r2 _ | exact r6 _ _ | exact r3 _ _ | exact r1 _ _ _ (by assumption) | exact r1 _ _ _ (r1 _ _ _ (by assumption))) (by omega) (by omega) (by omega) (by assumption)
  case rest =>
    obtain ⟨I, O, rfl, rfl, hRI, hRO, hI, hO, hok⟩ := hcut
    clear hok2
    obtain ⟨i0, hi, hz0, hz1, hz2⟩ := info_parts info_bs
    have hRB := hok.1
    have hBw := hok.2.1
    have hb2 : i0.bytes * (n + 1) ≤ 281474976710656 := by rw [hz2]; omega
    have hb3 : n + 1 ≤ maxLen := by unfold maxLen; omega
    have hbw := hok.2.2.2.2
    have hnb : (1 + n) * 24 ≤ 140737488355328 := by omega
    have hnm : 1 + n ≤ maxLen := by unfold maxLen; omega
    have hvo : ∀ u ∈ (List.range n).map vs, u.oneCell' = true := fun u hu => by
      obtain ⟨j, hj, rfl⟩ := List.mem_map.1 hu
      have hj2 := List.mem_range.1 hj
      exact byt_one' (HVS.out j (by rw [HN.out]; exact hj2))
    have HVO := hid hvo
    have hgR : gp < R := by rw [← HR.out]; exact hg
    clear hvo
    go_wp2_with (first
      | (at_make; refine wpList_make_own _ rfl _ _ 161 rfl wc.heap.size 29 i0 (.slice none 0 0) 1 under_bs hi hz0 hz1 _ _ _ (n + 1) rfl rfl (by simp) hb2 hb3 (Nat.le_refl _) ?_; intro w3 hown3 hg3; have hs3 := hg3.size; have hbc3 : Below wc.heap.size wc w3 := (Below.refl _ _).grown hg3 (Nat.le_refl _) (fun k h => by cases h))
      | (at_builtin; refine wpList_append_own _ rfl (.tmp 20) (.tmp 22) 161 rfl wc.heap.size 29 i0 (.slice none 0 0) 1 24 under_bs hi hz0 hz1 hz2 rfl (by decide) _ _ _ rfl (hown3.alloc (.cells #[.slice (some ⟨I, 0, none⟩) 64 64] 29)) ⟨w3.heap.size, 0, none⟩ 1 1 [.slice (some ⟨I, 0, none⟩) 64 64] rfl rfl (one_val w3 _ _) (by simp [Value.oneCell']) (by unfold maxLen; omega) (by omega) (by simp; omega) ?_; intro v4 w4 hown4 hg4 _; simp only [Nat.zero_add, List.nil_append] at hown4; have hs4 := hg4.size; simp only [size_alloc] at hs4; have hbc4 : Below wc.heap.size wc w4 := (hbc3.alloc hs3 _).grown hg4 (by simp; omega) (fun k hk => (World.ownsRow.lt hown3 k hk).1))
      | (at_builtin; refine wpList_append_own _ rfl (.tmp 24) (.tmp 25) 161 rfl wc.heap.size 29 i0 (.slice none 0 0) 1 24 under_bs hi hz0 hz1 hz2 rfl (by decide) _ _ _ rfl hown4 ⟨gp, 0, none⟩ n c ((List.range n).map vs) rfl (by simp) (vals_at HC.out (hbw.trans (hbc4.mono (by omega))) hgR) HVO.out hnm hnb (by omega) ?_; intro v5 w5 hown5 hg5 _; have hs5 := hg5.size; have hbc5 : Below wc.heap.size wc w5 := hbc4.grown hg5 (by omega) (fun k hk => (World.ownsRow.lt hown4 k hk).1)))
    have hI5 := hI.keep hbc5
    have hO5 := hO.keep hbc5
    have hR5 := hok.2.2.1.keep hbc5
    have hbw5 : Below R w w5 := hbw.trans (hbc5.mono (by omega))
    have hbw5' : Below w.heap.size w w5 := by rw [HR.out]; exact hbw5
    have hK5 := hK.below hbw5'
    obtain ⟨g5, c5, hg5', hv5, hc5⟩ : ∃ g c, g < w5.heap.size ∧ v5 = .slice (some ⟨g, 0, none⟩) (1 + n) c ∧ ∀ j, j < 1 + n → w5.cell? ⟨g, j, none⟩ = ([.slice (some ⟨I, 0, none⟩) 64 64] ++ (List.range n).map vs)[j]? := by
      rcases hown5.2 with ⟨_, h0⟩ | ⟨g, cap, cur, rfl, _, hh, _⟩
      · omega
      · exact ⟨g, cap, lt_of_block hh, rfl, fun j hj => World.ownsRow.cellAt hown5 j (by omega)⟩
    subst hv5
    have hs5' : wc.heap.size ≤ w5.heap.size := hbc5.size
    clear hown5 hown4 hown3 hg3 hg4 hg5 hs3 hs4 hs5 hbc3 hbc4 hbc5 hI hO hok hbw hi hz0 hz1 hz2 hb2 hb3 hnb hnm
    have hfl : (padL (keyB key) 54 :: ls).flatten = padL (keyB key) 54 ++ ls.flatten := rfl
    have hpl : (padL (keyB key) 54).length = 64 := hl_length _ _
    have C := of_any (padL (keyB key) 54 :: ls) (fun j => if j = 0 then .slice (some ⟨I, 0, none⟩) 64 64 else vs (j - 1)) g5 (1 + n) c5 w5 (by rw [List.length_cons, HN.out, Nat.add_comm]) hg5' (fun j hj => by
      rw [hc5 j hj]
      rcases j with _ | j
      · rfl
      · show ((List.range n).map vs)[j]? = some (vs (j + 1 - 1))
        rw [List.getElem?_map, List.getElem?_range (by omega)]
        rfl) (fun j hj => by
      rcases j with _ | j
      · exact byt_blk hI5 (by unfold maxLen; omega)
      · have hj2 : j < ls.length := by simpa using hj
        exact (HVS.out j hj2).below hbw5') (by rw [hfl, List.length_append, hpl]; omega) (by omega) hK5
    rw [hfl] at C
    refine C.mono ?_
    clear C hc5 hfl hpl
    rintro e w6 ⟨rfl, hb6⟩
    have hO6 := hO5.keep hb6
    have hR6 := hR5.keep hb6
    have hbw6 := hbw5.trans (hb6.mono (by omega))
    have hs6 : wc.heap.size ≤ w6.heap.size := by have := hb6.size; omega
    clear hI5 hO5 hR5 hbw5 hbw5' hK5 hb6
    go_wp2_with (first
      | (refine wpList_alloc_arr arrH rfl rfl ?_)
      | (refine wpList_store_arr arrH rfl _ _ rfl rfl rfl (Blk.new w6 32 (fun _ => bcell 0) 38) (fun _ _ => rfl) ?_; intro w7 hg7 hH7 hs7))
    have hO7 := (hO6.alloc (.cells (fcells 32 fun _ => bcell 0) 38)).grown hg7 (fun e => by have := Option.some.inj e; have := hO6.lt; omega)
    have hR7 := (hR6.alloc (.cells (fcells 32 fun _ => bcell 0) 38)).grown hg7 (fun e => by have := Option.some.inj e; have := hR6.lt; omega)
    have hbw7 : Below R w w7 := (hbw6.alloc (by omega) (.cells (fcells 32 fun _ => bcell 0) 38)).grown hg7 (by simp; omega) (fun k hk => by injection hk; omega)
    have hs7' : wc.heap.size ≤ w7.heap.size := by rw [hs7]; simp; omega
    obtain ⟨H, HH⟩ : ∃ H : Nat, Hid (w6.heap.size = H) := ⟨_, hid rfl⟩
    rw [HH.out] at hH7 ⊢
    clear hO6 hR6 hbw6 hg7 hs7
    go_still_tail 2, (by kernel_rfl)
    change wpList _ _ _ _ _ w7.drew
    go_wp2_with fail
    have hbz : Below w7.heap.size w7 (w7.alloc (.cells #[.slice (some ⟨O, 0, none⟩) 64 64, .slice (some ⟨H, 0, none⟩) 32 32] 29)).drew := ((Below.refl _ _).alloc (Nat.le_refl _) _).drew
    have hbz7 := hbw7.trans (hbz.mono (by omega))
    have hlen : (padL (keyB key) 92 ++ hl 32 (sumS (padL (keyB key) 54 ++ ls.flatten))).length ≤ 1000000 := by
      rw [List.length_append, hl_length, show (padL (keyB key) 92).length = 64 from hl_length _ _]
      omega
    refine (of_two (.slice (some ⟨O, 0, none⟩) 64 64) (.slice (some ⟨H, 0, none⟩) 32 32) (padL (keyB key) 92) (hl 32 (sumS (padL (keyB key) 54 ++ ls.flatten))) w7.heap.size 2 _ (by simp) (new_cell_drew w7 _ _ 0 _ rfl) (new_cell_drew w7 _ _ 1 _ rfl) ((byt_blk hO7 (by unfold maxLen; omega)).below hbz) ((byt_blk hH7 (by unfold maxLen; omega)).below hbz) rfl hlen (hK.below (by rw [HR.out]; exact hbz7))).mono ?_
    rintro e w8 ⟨rfl, hb8⟩
    have hR8 := (hR7.keep hbz).keep hb8
    have hbw8 := hbz7.trans (hb8.mono (by simp; omega))
    clear hO7 hR7 hH7 hbw7 hbz hbz7 hlen hb8
    go_wp2_with (refine wpList_store_arr arrH rfl _ _ rfl rfl rfl hR8 (fun _ _ => rfl) ?_; intro w9 hg9 hA9 hs9)
    refine bodyPost_ret (arrH.result rfl _ _ rfl hA9) rfl ⟨rfl, ?_⟩
    rw [HR.out]
    exact below_into hbw8 (g := R) (Nat.le_refl _) hg9 (by have := hbw8.size; have := HR.out; omega)
end Go.Proofs.YtghophbabbaleaaGreatDoor
namespace Go.Proofs.YtghophbabbaleaaGreatDoor
set_option maxRecDepth 20000
open Go.RowKit
theorem upto_set (f : Nat → UInt8) (i j : Nat) (v : Value) (hv : v = bcell (f i)) : (if j = i then v else bcell (if j < i then f j else 0)) = bcell (if j < i + 1 then f j else 0) := by
  by_cases e : j = i
  · subst e
    rw [if_pos rfl, if_pos (by omega), hv]
  · rw [if_neg e]
    by_cases h : j < i
    · rw [if_pos h, if_pos (by omega)]
    · rw [if_neg h, if_neg (by omega)]
theorem two_blocks {w w1 : World}
    (hg1 : ((w.alloc (.cells (fcells 64 fun _ => bcell 0) 181)).alloc (.cells (fcells 64 fun _ => bcell 0) 181)).grownBy w1 (some (w.alloc (.cells (fcells 64 fun _ => bcell 0) 181)).heap.size))
    (hB1 : Blk w1 (w.alloc (.cells (fcells 64 fun _ => bcell 0) 181)).heap.size 64 (fun _ => bcell 0) 181)
    (hs1 : w1.heap.size = ((w.alloc (.cells (fcells 64 fun _ => bcell 0) 181)).alloc (.cells (fcells 64 fun _ => bcell 0) 181)).heap.size) :
    Blk w1 w.heap.size 64 (fun _ => bcell 0) 181 ∧ Blk w1 (w.heap.size + 1) 64 (fun _ => bcell 0) 181 ∧ Below w.heap.size w w1 ∧ w1.heap.size = w.heap.size + 1 + 1 := by
  have e : (w.alloc (.cells (fcells 64 fun _ => bcell 0) 181)).heap.size = w.heap.size + 1 := by simp
  rw [e] at hg1 hB1
  refine ⟨((Blk.new w _ _ _).alloc _).grown hg1 (fun e => by have := Option.some.inj e; omega), hB1, ?_, by rw [hs1]; simp⟩
  exact below_into (((Below.refl _ _).alloc (Nat.le_refl _) _).alloc (by simp) _) (g := w.heap.size + 1) (by omega) hg1 (by simp; omega)
set_option maxHeartbeats 3200000 in
theorem refKey_any (v : Value) (key : List UInt8) (w : World) (hv : Byt w v key) (hs : key.length ≤ 1000000) (hK : Kst 0 w) :
    Calls Tryz.prog 157 #[v] w fun e w' => e = .returned (.agg (fcells 64 fun j => bcell (keyB key j))) ∧ Below w.heap.size w w' := by
  obtain ⟨A, c, rfl⟩ := hv.shape
  have hcc := hv.at_.2.1
  have hcm := hv.at_.2.2.1
  unfold maxLen at hcm
  have HKE := hid hs
  go_enter Tryz.func157, Tryz.ntmps157
  by_cases hlong : 64 < key.length
  · have hq : (64 : Int) < (key.length : Int) := by omega
    go_wp2_with (first
      | (refine wpList_alloc_arr arrB rfl rfl ?_)
      | (refine wpList_zero_arr arrB rfl rfl ?_)
      | (refine wpList_store_arr arrB rfl _ _ rfl rfl rfl (Blk.new _ 64 (fun _ => bcell 0) 181) (fun _ _ => rfl) ?_; intro w1 hg1 hB1 hs1))
    obtain ⟨hR, hB, hb, hz⟩ := two_blocks hg1 hB1 hs1
    clear hg1 hB1 hs1
    have HZ := hid hz
    clear hz
    refine (refOf_any _ key w1 (hv.below hb) HKE.out (hK.below hb)).mono ?_
    rintro e w2 ⟨rfl, hb2⟩
    have hR2 := hR.keep hb2
    have hB2 := hB.keep hb2
    have hb2' := hb.trans (hb2.mono hb.size)
    clear hR hB hb hb2
    go_wp2_with (first
      | (refine wpList_alloc_arr arrH rfl rfl ?_)
      | (refine wpList_store_arr arrH rfl _ _ rfl rfl rfl (Blk.new w2 32 (fun _ => bcell 0) 38) (fun _ _ => rfl) ?_; intro w3 hg3 hH3 hs3))
    have hR3 := (hR2.alloc (.cells (fcells 32 fun _ => bcell 0) 38)).grown hg3 (fun e => by have := Option.some.inj e; have := hR2.lt; omega)
    have hB3 := (hB2.alloc (.cells (fcells 32 fun _ => bcell 0) 38)).grown hg3 (fun e => by have := Option.some.inj e; have := hB2.lt; omega)
    have hb3 := (hb2'.alloc hb2'.size (.cells (fcells 32 fun _ => bcell 0) 38)).grown hg3 (by have := hb2'.size; simp; omega) (fun k hk => by injection hk; have := hb2'.size; omega)
    have hBlt := hB2.lt
    obtain ⟨H, HH⟩ : ∃ H : Nat, Hid (w2.heap.size = H) := ⟨_, hid rfl⟩
    obtain ⟨G, HG⟩ : ∃ G : Nat, Hid (w.heap.size = G) := ⟨_, hid rfl⟩
    rw [HH.out] at hH3 hBlt ⊢
    rw [HG.out] at hR3 hB3 hb3 hBlt ⊢
    have hs4 := hb3.size
    have hB4 : Blk w3 (G + 1) 64 (fun j => bcell (if j < 0 then keyB key j else 0)) 181 := hB3.congr fun j _ => by rw [if_neg (by omega)]
    clear hR2 hB2 hb2' hg3 hs3 hB3
    go_wp2_with fail
    go_loopw [5] (fun si wr => ∃ i : Nat, i ≤ 32 ∧ si = .int .i64 (i : Int) ∧ Below G w wr ∧ Blk wr H 32 (fun j => bcell (sumS key j)) 38 ∧ Blk wr G 64 (fun _ => bcell 0) 181 ∧ Blk wr (G + 1) 64 (fun j => bcell (if j < i then keyB key j else 0)) 181) (fun si _ => 32 - (intOf si).toNat)
    case atStart => exact ⟨0, Nat.zero_le _, rfl, hb3, hH3, hR3, hB4⟩
    case round =>
      clear hb3 hH3 hR3 hB4
      obtain ⟨i, hi, rfl, hbw, hH, hR, hB⟩ := hrel
      by_cases hlt : i < 32
      · have hi32 : (i : Int) < 32 := by omega
        have hi64 : (i : Int) < 64 := by omega
        have k1 := hH.cell (i := i) hlt
        have k2 := hB.cell (i := i) (by omega)
        have f2 := hB.free i
        have ek : bcell (sumS key i) = bcell (keyB key i) := by rw [keyB_long hlong, if_pos hlt]
        unfold bcell at k1
        have EK := hid ek
        clear ek
        go_wp2_with fail
        go_roundw
        case rel =>
          refine ⟨i + 1, by omega, by go_num, below_set hbw (g := G + 1) (by omega) _ _, hH.apart _ _ (by omega), hR.apart _ _ (by omega), (hB.set (i := i) (by omega) _).congr fun j _ => ?_⟩
          exact upto_set (keyB key) i j _ EK.out
        case measure => simp [intOf]; omega
      · have hi32 : ¬ (i : Int) < 32 := by omega
        have hB2 : Blk wr (G + 1) 64 (fun j => bcell (keyB key j)) 181 := hB.congr fun j hj => by
          by_cases h : j < i
          · rw [if_pos h]
          · rw [if_neg h, keyB_long hlong, if_neg (by omega)]
        clear hB
        go_wp2_with (first
          | (refine wpList_load_arr arrB rfl _ rfl rfl hB2 ?_)
          | (refine wpList_store_arr arrB rfl _ _ rfl rfl rfl hR (fun _ _ => rfl) ?_; intro w9 hg9 hA9 hs9))
        refine bodyPost_ret (arrB.result rfl _ _ rfl hA9) rfl ⟨rfl, ?_⟩
        rw [HG.out]
        exact below_into hbw (g := G) (by omega) hg9 (by have := hbw.size; have := HG.out; omega)
  · have hq : ¬ (64 : Int) < (key.length : Int) := by omega
    obtain ⟨L, HL⟩ : ∃ L : Nat, Hid (key.length = L) := ⟨_, hid rfl⟩
    rw [HL.out] at hq hcc hv ⊢
    have hL64 : L ≤ 64 := by omega
    go_wp2_with (first
      | (refine wpList_alloc_arr arrB rfl rfl ?_)
      | (refine wpList_zero_arr arrB rfl rfl ?_)
      | (refine wpList_store_arr arrB rfl _ _ rfl rfl rfl (Blk.new _ 64 (fun _ => bcell 0) 181) (fun _ _ => rfl) ?_; intro w1 hg1 hB1 hs1))
    obtain ⟨hR, hB, hb, hz⟩ := two_blocks hg1 hB1 hs1
    clear hg1 hB1 hs1
    have HZ := hid hz
    clear hz
    obtain ⟨G, HG⟩ : ∃ G : Nat, Hid (w.heap.size = G) := ⟨_, hid rfl⟩
    have HV := hid hv
    rw [HG.out] at hR hB hb ⊢
    have hB4 : Blk w1 (G + 1) 64 (fun j => bcell (if j < 0 then keyB key j else 0)) 181 := hB.congr fun j _ => by rw [if_neg (by omega)]
    clear hB hv
    go_wp2_with fail
    go_loopw [6] (fun si wr => ∃ i : Nat, i ≤ L ∧ si = .int .i64 (i : Int) ∧ Below G w wr ∧ Blk wr G 64 (fun _ => bcell 0) 181 ∧ Blk wr (G + 1) 64 (fun j => bcell (if j < i then keyB key j else 0)) 181) (fun si _ => L - (intOf si).toNat)
    case atStart => exact ⟨0, Nat.zero_le _, rfl, hb, hR, hB4⟩
    case round =>
      clear hb hR hB4
      obtain ⟨i, hi, rfl, hbw, hR, hB⟩ := hrel
      by_cases hlt : i < L
      · have hi64 : (i : Int) < 64 := by omega
        have hiL : (i : Int) < (L : Int) := by omega
        have hv2 : Byt wr (.slice A L c) key := HV.out.below (by rw [HG.out]; exact hbw)
        obtain ⟨b, off, rfl, hbl, hcl⟩ := hv2.at_.2.2.2 (by have := HL.out; omega)
        have hiL2 : i < key.length := by have := HL.out; omega
        have k1 := hcl i hiL2
        have k2 := hB.cell (i := i) (by omega)
        have f2 := hB.free i
        have ek : bcell key[i] = bcell (keyB key i) := by rw [keyB_short hlong, List.getD_eq_getElem?_getD, List.getElem?_eq_getElem hiL2]; rfl
        unfold bcell at k1
        have EK := hid ek
        clear ek hcl
        go_wp2_with fail
        go_roundw
        case rel =>
          refine ⟨i + 1, by omega, by go_num, below_set hbw (g := G + 1) (by omega) _ _, hR.apart _ _ (by omega), (hB.set (i := i) (by omega) _).congr fun j _ => ?_⟩
          exact upto_set (keyB key) i j _ EK.out
        case measure => simp [intOf]; omega
      · have hiL : ¬ (i : Int) < (L : Int) := by omega
        have hB2 : Blk wr (G + 1) 64 (fun j => bcell (keyB key j)) 181 := hB.congr fun j hj => by
          by_cases h : j < i
          · rw [if_pos h]
          · rw [if_neg h, keyB_short hlong, List.getD_eq_getElem?_getD, List.getElem?_eq_none (by have := HL.out; omega)]
            rfl
        clear hB
        go_wp2_with (first
          | (refine wpList_load_arr arrB rfl _ rfl rfl hB2 ?_)
          | (refine wpList_store_arr arrB rfl _ _ rfl rfl rfl hR (fun _ _ => rfl) ?_; intro w9 hg9 hA9 hs9))
        refine bodyPost_ret (arrB.result rfl _ _ rfl hA9) rfl ⟨rfl, ?_⟩
        rw [HG.out]
        exact below_into hbw (g := G) (by omega) hg9 (by have := hbw.size; have := HG.out; omega)
end Go.Proofs.YtghophbabbaleaaGreatDoor
