/-
  TxCodePut TxRefRead Consts: what each of them says stands at its head.
-/
import Derived.Test.YtefngncieagobaaDoorMg4
import Derived.Deep.RegionHeld3
import Derived.Deep.DeepCutAuto
import Derived.BigRegion
import Derived.Test.YtefngncieagobaaDoorMg1
import Derived.Lib.SlBytesConst
/-
  tx.Check, tx.own, tx.Put.
-/
namespace Go.Proofs.YtefngncieagobaaDoor
open Go.RowKit
attribute [local go_sem ↓] exec_load_tx

theorem mayT_parts (t : TxM) : mayT t = ((decide (1 ≤ t.fr) && decide (t.fr ≤ 40)) && decide (1 ≤ t.no) && decide (t.no ≤ 1099511627776) && kindT t) := by
  unfold mayT kindT
  grind

set_option maxHeartbeats 3200000 in
theorem txCheck_any (t : TxM) (w : World) (hk : t.key.length ≤ 1000000) (hv : t.val.length ≤ 1000000) :
    Calls Tryd.prog 8 #[txv t] w fun e w' => e = .returned (.int .i64 (if mayT t = true then 0 else 1)) ∧ Below w.heap.size w w' := by
  have HOF := hid (fun w => ofKind_any t w hk hv)
  clear hk hv
  obtain ⟨m, HM⟩ : ∃ m : Bool, Hid (mayT t = m) := ⟨_, hid rfl⟩
  have HMP := hid (mayT_parts t)
  rw [HM.out] at *
  obtain ⟨ko, HKO⟩ : ∃ b : Bool, Hid (kindT t = b) := ⟨_, hid rfl⟩
  have hr0 := heap_alloc_new w (.cells #[.int .i64 t.fr, .int .i64 t.no, .int .i64 t.ki, .int .i64 t.to, .int .i64 t.am, .string (sb t.key), .string (sb t.val)] 23)
  have hb0 : Below w.heap.size w (w.alloc (.cells #[.int .i64 t.fr, .int .i64 t.no, .int .i64 t.ki, .int .i64 t.to, .int .i64 t.am, .string (sb t.key), .string (sb t.val)] 23)) := (Below.refl _ _).alloc (Nat.le_refl _) _
  have hld := fun W h => loadTx_eq (w := W) (b := w.heap.size) (C := #[.int .i64 t.fr, .int .i64 t.no, .int .i64 t.ki, .int .i64 t.to, .int .i64 t.am, .string (sb t.key), .string (sb t.val)]) (T := 23) h rfl
  have l0 := hld _ hr0
  clear hld
  have HB0 := hid hb0
  have HC : Hid (_ ∧ _) := hid ⟨cell_blk hr0 0, cell_blk hr0 1⟩
  clear hb0 hr0
  unfold txv
  go_enter Tryd.func8, Tryd.ntmps8
  go_upto_region 1 with (fail)
  generalize (w.alloc (.cells #[.int .i64 t.fr, .int .i64 t.no, .int .i64 t.ki, .int .i64 t.to, .int .i64 t.am, .string (sb t.key), .string (sb t.val)] 23)) = w0 at *
  obtain ⟨c0, c1⟩ := HC.out
  go_wp2_with fail
  refine (account_any t.fr w0).mono ?_
  rintro e w1 ⟨rfl, rfl⟩
  obtain ⟨ao, HAO⟩ : ∃ b : Bool, Hid ((decide (1 ≤ t.fr) && decide (t.fr ≤ 40)) = b) := ⟨_, hid rfl⟩
  rw [HAO.out]
  have hao := HAO.out
  clear hao
  go_wp2_with fail
  all_goals first
    | (refine (HOF.out w0).mono ?_
       rintro e w1 ⟨rfl, hb1⟩
       rw [HKO.out]
       go_wp2_with fail)
    | skip
  all_goals
    go_ret
    refine ⟨?_, ?_⟩
    · refine congrArg (fun b => Ending.returned (Value.int IntKind.i64 b)) ?_
      have HX := HMP.out
      have h1 := HAO.out
      have h2 := HKO.out
      clear HMP HAO HKO HM HOF HB0 l0
      grind
    · first
        | exact HB0.out
        | exact HB0.out.trans (hb1.mono HB0.out.size)

theorem txnum_any (v : Value) (l : List UInt8) (n : Int) (w : World) (hv : Byt w v l) (h0 : 0 ≤ n) (h1 : n < 9223372036854775808) (hs : l.length ≤ 1099511627000) :
    Calls Tryd.prog 30 #[v, .int .i64 n] w fun e w' => ∃ x, e = .returned x ∧ Own w.heap.size w' x (l ++ dg n.toNat) ∧ Below w.heap.size w w' := by
  have hw : IntKind.u64.wrap n = n := wrap_u64 _ (by omega) (by omega)
  go_enter Tryd.func30, Tryd.ntmps30
  go_wp2_with fail
  refine (num_any v l n w hv h0 (by omega) hs).mono ?_
  rintro e w1 ⟨v1, rfl, ho1, hb1⟩
  go_wp2_with fail
  go_ret
  exact ⟨_, rfl, ho1, hb1⟩

set_option maxHeartbeats 3200000 in
theorem txown_any (t : TxM) (w : World) (hm : mayT t = true) :
    Calls Tryd.prog 18 #[txv t] w fun e w' => ∃ x, e = .returned x ∧ Own w.heap.size w' x (bytesT t) ∧ Below w.heap.size w w' := by
  obtain ⟨h1, h2, h3⟩ := mayT_iff hm
  obtain ⟨fr, no, ki, tu, am, key, val⟩ := t
  simp only at h1 h2 h3
  obtain ⟨a, rfl⟩ := nat_of (i := fr) (by omega)
  obtain ⟨b, rfl⟩ := nat_of (i := no) (by omega)
  obtain ⟨c, rfl⟩ := nat_of (i := ki) (by omega)
  have hc : c < 128 := by omega
  have hab : a < 9223372036854775808 ∧ b < 9223372036854775808 := by omega
  unfold txv
  simp only
  have hrow := fun (C : Array Value) => heap_alloc_new w (.cells C 23)
  have hnew := fun (C : Array Value) => (Below.refl w.heap.size w).alloc (Nat.le_refl _) (.cells C 23)
  have HLA := hid (dg_len10 (n := a) (by omega))
  have HLB := hid (dg_len10 (n := b) (by omega))
  have HLC := hid (dg_len10 (n := c) (by omega))
  obtain ⟨s, HS⟩ : ∃ s : ByteArray, Hid (sb key = s) := ⟨_, hid rfl⟩
  obtain ⟨u, HU⟩ : ∃ s : ByteArray, Hid (sb val = s) := ⟨_, hid rfl⟩
  rw [HS.out, HU.out]
  have hr0 := hrow #[.int .i64 (a : Int), .int .i64 (b : Int), .int .i64 (c : Int), .int .i64 tu, .int .i64 am, .string s, .string u]
  have hn0 := hnew #[.int .i64 (a : Int), .int .i64 (b : Int), .int .i64 (c : Int), .int .i64 tu, .int .i64 am, .string s, .string u]
  clear hrow hnew
  have H3 := hid h3
  have HAB := hid hab
  have HCC := hid hc
  clear h1 h2 h3 hab hc
  go_enter Tryd.func18, Tryd.ntmps18
  go_wp2_with fail
  have hsz0 : (w.alloc (.cells #[.int .i64 (a : Int), .int .i64 (b : Int), .int .i64 (c : Int), .int .i64 tu, .int .i64 am, .string s, .string u] 23)).heap.size = w.heap.size + 1 := by simp
  generalize (w.alloc (.cells #[.int .i64 (a : Int), .int .i64 (b : Int), .int .i64 (c : Int), .int .i64 tu, .int .i64 am, .string s, .string u] 23)) = w0 at *
  have hl0 := lt_of_block hr0
  have HC : Hid (∀ W : World, Below w0.heap.size w0 W → ∀ i, W.cell? ⟨w.heap.size, i, none⟩ = #[Value.int .i64 (a : Int), .int .i64 (b : Int), .int .i64 (c : Int), .int .i64 tu, .int .i64 am, .string s, .string u][i]?) := hid (fun W h i => cell_blk ((h.block _ hl0).trans hr0) i)
  clear hr0 hl0
  have HW : Hid (w0.heap.size = w.heap.size + 1) := hid hsz0
  clear hsz0
  refine (txnum_any _ [] (a : Int) w0 (Byt.nil _) (by omega) (by have := HAB.out; omega) (by decide)).mono ?_
  rintro e w1 ⟨v1, rfl, ho1, hb1⟩
  rw [Int.toNat_natCast, List.nil_append] at ho1
  have d1 := HC.out w1 hb1 1
  simp at d1
  go_wp2_with fail
  refine (txnum_any _ _ (b : Int) w1 ho1.byt (by omega) (by have := HAB.out; omega) (by have := HLA.out; omega)).mono ?_
  rintro e w2 ⟨v2, rfl, ho2, hb2'⟩
  have hb2 := hb1.trans (hb2'.mono hb1.size)
  rw [Int.toNat_natCast] at ho2
  have d2 := HC.out w2 hb2 2
  simp at d2
  clear d1
  go_wp2_with fail
  refine (txnum_any _ _ (c : Int) w2 ho2.byt (by omega) (by have := HCC.out; omega) (by rw [List.length_append]; have := HLA.out; have := HLB.out; omega)).mono ?_
  rintro e w3 ⟨v3, rfl, ho3, hb3'⟩
  have hb3 := hb2.trans (hb3'.mono hb2.size)
  rw [Int.toNat_natCast, List.append_assoc] at ho3
  have d2 := HC.out w3 hb3 2
  have d3 := HC.out w3 hb3 3
  have d5 := HC.out w3 hb3 5
  simp at d2 d3 d5
  obtain ⟨P, HP⟩ : ∃ P : List UInt8, Hid (dg a ++ (dg b ++ dg c) = P) := ⟨_, hid rfl⟩
  have HPL : Hid (P.length ≤ 30) := hid (by rw [← HP.out, List.length_append, List.length_append]; have := HLA.out; have := HLB.out; have := HLC.out; omega)
  rw [HP.out] at ho3
  have hv3 := ho3.byt
  clear ho1 ho2 ho3 hb2' hb3' hb1 hb2
  obtain ⟨hk, hto, ham, rfl, rfl⟩ | ⟨hk, rfl, rfl, hky, hvl⟩ | ⟨hk, rfl, rfl, hky, rfl⟩ := H3.out
  · obtain ⟨d, rfl⟩ := nat_of (i := tu) (by omega)
    obtain ⟨f, rfl⟩ := nat_of (i := am) (by omega)
    obtain rfl : c = 1 := by omega
    have hdf : d < 9223372036854775808 ∧ f < 9223372036854775808 := by omega
    have HDF := hid hdf
    have HLD := hid (dg_len10 (n := d) (by omega))
    clear hk hto ham hdf
    go_wp2_with fail
    refine (txnum_any _ _ (d : Int) w3 hv3 (by omega) (by have := HDF.out; omega) (by have := HPL.out; omega)).mono ?_
    rintro e w4 ⟨v4, rfl, ho4, hb4'⟩
    have hb4 := hb3.trans (hb4'.mono hb3.size)
    rw [Int.toNat_natCast] at ho4
    have e4 := HC.out w4 hb4 4
    simp at e4
    clear d2 d3 d5
    go_wp2_with fail
    refine (txnum_any _ _ (f : Int) w4 ho4.byt (by omega) (by have := HDF.out; omega) (by rw [List.length_append]; have := HPL.out; have := HLD.out; omega)).mono ?_
    rintro e w5 ⟨v5, rfl, ho5, hb5'⟩
    have hb5 := hb4.trans (hb5'.mono hb4.size)
    rw [Int.toNat_natCast] at ho5
    clear e4
    go_wp2_with fail
    go_ret
    refine ⟨v5, rfl, ?_, hn0.trans (hb5.mono hn0.size)⟩
    rw [bytesT_one]
    rw [← HP.out] at ho5
    simp only [List.append_assoc] at ho5
    exact ho5.more (by have := HW.out; have := hb4.size; omega)
  · have HKM := hid (show key.length ≤ maxLen by have := keyOk_len hky; unfold maxLen; omega)
    have HVM := hid (show val.length ≤ maxLen by unfold maxLen; omega)
    have HKL := hid (show key.length ≤ 16 by have := keyOk_len hky; omega)
    have HVL := hid hvl
    obtain rfl : c = 2 := by omega
    clear hk hky hvl
    obtain ⟨v4, w4, hcv4, hby4, hb4'⟩ := run_bs key w3 HKM.out
    rw [HS.out] at hcv4
    have hb4 := hb3.trans (hb4'.mono hb3.size)
    have hv34 := hv3.below hb4'
    go_wp2_with fail
    refine (text_any v3 v4 P key w4 hv34 hby4 (by have := HPL.out; omega) (by have := HKL.out; omega)).mono ?_
    rintro e w5 ⟨v5, rfl, ho5, hb5'⟩
    have hb5 := hb4.trans (hb5'.mono hb4.size)
    have e6 := HC.out w5 hb5 6
    simp at e6
    obtain ⟨v6, w6, hcv6, hby6, hb6'⟩ := run_bs val w5 HVM.out
    rw [HU.out] at hcv6
    have hb6 := hb5.trans (hb6'.mono hb5.size)
    have hv56 := ho5.byt.below hb6'
    clear hcv4 d2 d3 d5
    go_wp2_with fail
    refine (text_any v5 v6 (P ++ tx key) val w6 hv56 hby6 (by rw [List.length_append, tx_len]; have := HPL.out; have := HKL.out; have := dg_len10 (n := key.length) (by omega); omega) (by have := HVL.out; omega)).mono ?_
    rintro e w7 ⟨v7, rfl, ho7, hb7'⟩
    have hb7 := hb6.trans (hb7'.mono hb6.size)
    clear hcv6 e6
    go_wp2_with fail
    go_ret
    refine ⟨v7, rfl, ?_, hn0.trans (hb7.mono hn0.size)⟩
    rw [bytesT_two]
    rw [← HP.out] at ho7
    simp only [List.append_assoc] at ho7
    exact ho7.more (by have := HW.out; have := hb6.size; omega)
  · have HKM := hid (show key.length ≤ maxLen by have := keyOk_len hky; unfold maxLen; omega)
    have HKL := hid (show key.length ≤ 16 by have := keyOk_len hky; omega)
    obtain rfl : c = 3 := by omega
    clear hk hky
    obtain ⟨v4, w4, hcv4, hby4, hb4'⟩ := run_bs key w3 HKM.out
    rw [HS.out] at hcv4
    have hb4 := hb3.trans (hb4'.mono hb3.size)
    have hv34 := hv3.below hb4'
    go_wp2_with fail
    refine (text_any v3 v4 P key w4 hv34 hby4 (by have := HPL.out; omega) (by have := HKL.out; omega)).mono ?_
    rintro e w5 ⟨v5, rfl, ho5, hb5'⟩
    have hb5 := hb4.trans (hb5'.mono hb4.size)
    clear hcv4 d2 d3 d5
    go_wp2_with fail
    go_ret
    refine ⟨v5, rfl, ?_, hn0.trans (hb5.mono hn0.size)⟩
    rw [bytesT_three]
    rw [← HP.out] at ho5
    simp only [List.append_assoc] at ho5
    exact ho5.more (by have := HW.out; have := hb4.size; omega)

set_option maxHeartbeats 3200000 in
theorem txPut_ok : TxPutOk := by
  intro v l t w hv hl ht
  obtain ⟨hk, hw⟩ := ht
  have HCK := hid (fun w => txCheck_any t w (by omega) (by omega))
  obtain ⟨m, HM⟩ : ∃ m : Bool, Hid (mayT t = m) := ⟨_, hid rfl⟩
  have HOW := hid (fun w (h : mayT t = true) => txown_any t w h)
  have HL := hid hl
  clear hk hw hl
  have hr0 := heap_alloc_new w (.cells #[.int .i64 t.fr, .int .i64 t.no, .int .i64 t.ki, .int .i64 t.to, .int .i64 t.am, .string (sb t.key), .string (sb t.val)] 23)
  have hb0 : Below w.heap.size w (w.alloc (.cells #[.int .i64 t.fr, .int .i64 t.no, .int .i64 t.ki, .int .i64 t.to, .int .i64 t.am, .string (sb t.key), .string (sb t.val)] 23)) := (Below.refl _ _).alloc (Nat.le_refl _) _
  have HPT : Hid (putT l t = if m = true then l ++ bytesT t else l) := hid (by unfold putT; rw [HM.out])
  unfold txv
  go_enter Tryd.func7, Tryd.ntmps7
  go_upto_region 1 with (fail)
  generalize (w.alloc (.cells #[.int .i64 t.fr, .int .i64 t.no, .int .i64 t.ki, .int .i64 t.to, .int .i64 t.am, .string (sb t.key), .string (sb t.val)] 23)) = w0 at *
  have hl0 := lt_of_block hr0
  have HLD : Hid (∀ W : World, Below w0.heap.size w0 W → loadTx (.pointer (some ⟨w.heap.size, 0, none⟩)) W = .ok (.value (.agg #[.int .i64 t.fr, .int .i64 t.no, .int .i64 t.ki, .int .i64 t.to, .int .i64 t.am, .string (sb t.key), .string (sb t.val)])) W) := hid (fun W h => loadTx_eq ((h.block _ hl0).trans hr0) rfl)
  have l0 := HLD.out w0 (Below.refl _ _)
  clear hr0 hl0
  have hv0 := hv.below hb0
  have HB0 := hid hb0
  clear hb0 hv
  go_wp2_with fail
  refine (HCK.out w0).mono ?_
  rintro e w1 ⟨rfl, hb1⟩
  rw [HM.out]
  have hB1 := HB0.out.trans (hb1.mono HB0.out.size)
  have hv1 := hv0.below hb1
  cases m with
  | false =>
    obtain ⟨A, c, rfl⟩ := hv1.shape
    clear l0
    go_wp2_with fail
    refine (concat1 _ l w1.heap.size _ (w1.alloc (.cells #[.slice A l.length c] 24)) (by simp) (by simp) (hv1.alloc _) (by have := HL.out; omega)).mono ?_
    rintro e w2 ⟨x, rfl, ho2, hb2⟩
    go_wp2_with fail
    go_ret
    refine ⟨x, rfl, by rw [HPT.out]; exact ho2.byt, ?_⟩
    exact (hB1.alloc hB1.size _).trans (hb2.mono (by have := hB1.size; simp; omega))
  | true =>
    have l1 := HLD.out w1 hb1
    clear l0
    go_wp2_with fail
    refine (HOW.out w1 HM.out).mono ?_
    rintro e w2 ⟨x, rfl, ho2, hb2⟩
    have hB2 := hB1.trans (hb2.mono hB1.size)
    have hv2 := hv1.below hb2
    have hx2 := ho2.byt
    obtain ⟨A, c, rfl⟩ := hv2.shape
    obtain ⟨A2, c2, rfl⟩ := hx2.shape
    clear l1
    go_wp2_with fail
    have hlen : (bytesT t).length ≤ 1000000 := Nat.le_trans (bytesT_len HM.out) (by decide)
    refine (concat2 _ _ l (bytesT t) w2.heap.size _ (w2.alloc (.cells #[.slice A l.length c, .slice A2 (bytesT t).length c2] 24)) (by simp) (by simp) (by simp) (hv2.alloc _) (hx2.alloc _) (by have := HL.out; omega)).mono ?_
    rintro e w3 ⟨y, rfl, ho3, hb3⟩
    go_wp2_with fail
    go_ret
    refine ⟨y, rfl, by rw [HPT.out]; exact ho3.byt, ?_⟩
    exact (hB2.alloc hB2.size _).trans (hb3.mono (by have := hB2.size; simp; omega))
end Go.Proofs.YtefngncieagobaaDoor

/-
  tithingref06.Read: the transaction that bytes begin with.
-/
namespace Go.Proofs.YtefngncieagobaaDoor
open Go.RowKit

theorem under_tx : Tryd.prog.underlying 23 = some (.struct (Tryd.prog.fieldsOf 23)) := by kernel_rfl
theorem size_tx : (Tryd.prog.info? 23).map (·.size) = some 7 := by kernel_rfl
theorem run_sb {w : World} {v : Value} {l : List UInt8} (hv : Byt w v l) : (convert 24 9 v).run Tryd.prog w = .ok (.string (sb l)) w := by
  obtain ⟨A, c, rfl, h1, h2, hr⟩ := hv
  by_cases h0 : 0 < l.length
  · obtain ⟨b, off, rfl, _, hc⟩ := hr h0
    exact run_convert_bytes_back w _ _ 5 _ _ l under_bytes (by kernel_rfl) under_string (fun j hj => by rw [addr_add]; exact hc j hj)
  · obtain rfl : l = [] := List.eq_nil_of_length_eq_zero (by omega)
    rw [run_convert_bytes_string w _ _ 5 _ _ _ under_bytes (by kernel_rfl) under_string]
    cases A <;> simp [Conv.bytesToString, loadCells] <;> rfl
theorem drew_at {w : World} {i : Nat} {o : Option Obj} (h : w.heap[i]? = o) : w.drew.heap[i]? = o := h
theorem own_far {B g : Nat} {w : World} {v : Value} {l : List UInt8} (h : Own B w v l) (hg : g < B) : v.ownBlock ≠ some g := fun e => by
  have := (World.ownsRow.lt h g e).1
  omega
end Go.Proofs.YtefngncieagobaaDoor

/-
  Constant texts as bytes: '[]byte("..")' one behind the other, and what lies in such a block.
-/
namespace Go.Proofs.YtefngncieagobaaDoor
open Go.RowKit

theorem conv1 (w : World) (C : Array Value) (n c : Nat) : (convert 24 24 (.slice (some ⟨w.heap.size, 0, none⟩) n c)).run Tryd.prog (w.alloc (.cells C 5)) = .ok (.slice (some ⟨w.heap.size, 0, none⟩) n c) (w.alloc (.cells C 5 (C.size, C.size + 1))) :=
  Lib.run_convert_bytes_const (P := Tryd.prog) w 24 5 C n c under_bytes (by kernel_rfl)
theorem conv2 (w : World) (o : Obj) (C : Array Value) (n c : Nat) : (convert 24 24 (.slice (some ⟨w.heap.size + 1, 0, none⟩) n c)).run Tryd.prog ((w.alloc o).alloc (.cells C 5)) = .ok (.slice (some ⟨w.heap.size + 1, 0, none⟩) n c) ((w.alloc o).alloc (.cells C 5 (C.size, C.size + 1))) := by
  have := conv1 (w.alloc o) C n c
  rw [show (w.alloc o).heap.size = w.heap.size + 1 from by simp] at this
  exact this
theorem conv3 (w : World) (o o2 : Obj) (C : Array Value) (n c : Nat) : (convert 24 24 (.slice (some ⟨w.heap.size + 1 + 1, 0, none⟩) n c)).run Tryd.prog (((w.alloc o).alloc o2).alloc (.cells C 5)) = .ok (.slice (some ⟨w.heap.size + 1 + 1, 0, none⟩) n c) (((w.alloc o).alloc o2).alloc (.cells C 5 (C.size, C.size + 1))) := by
  have := conv1 ((w.alloc o).alloc o2) C n c
  rw [show ((w.alloc o).alloc o2).heap.size = w.heap.size + 1 + 1 from by simp] at this
  exact this
/-- A block that holds bytes reads as them. -/
theorem byt_row {w : World} {g : Nat} {l : List UInt8} {T : TypeId} {m : Nat × Nat} (h : w.heap[g]? = some (.cells (bcells l).toArray T m)) (hm : l.length ≤ maxLen) : Byt w (.slice (some ⟨g, 0, none⟩) l.length l.length) l :=
  ⟨_, l.length, rfl, Nat.le_refl _, hm, fun _ => ⟨g, 0, rfl, lt_of_block h, fun j hj => by
    rw [Nat.zero_add, cell_of_row _ _ _ _ _ _ h]
    simp [bcells, hj]⟩⟩
theorem heap1 (w : World) (o o2 : Obj) : ((w.alloc o).alloc o2).heap[w.heap.size]? = some o := by
  rw [Below.heap_alloc _ _ _ (by simp)]
  exact heap_alloc_new w o
theorem heap2 (w : World) (o o2 : Obj) : ((w.alloc o).alloc o2).heap[w.heap.size + 1]? = some o2 := by
  have := heap_alloc_new (w.alloc o) o2
  rw [show (w.alloc o).heap.size = w.heap.size + 1 from by simp] at this
  exact this
end Go.Proofs.YtefngncieagobaaDoor
