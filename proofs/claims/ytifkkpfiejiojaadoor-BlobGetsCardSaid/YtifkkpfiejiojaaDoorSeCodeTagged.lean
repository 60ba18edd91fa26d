/-
  blob.isVersion, blob.tagged: what is tagged. Printed with gense.py.
-/
import Derived.Test.YtifkkpfiejiojaaDoorBs9
namespace Go.Proofs.YtifkkpfiejiojaaDoor
set_option maxRecDepth 20000
open Go.RowKit
attribute [local go_sem ↓] exec_load_hash
theorem seVers_any (n : Int) (w : World) : Calls Tryd.prog 16 #[.int .i64 n] w fun e w' => e = .returned (.bool (versB n)) ∧ w = w' := by
  obtain ⟨q, HQ⟩ : ∃ q : Bool, Hid (versB n = q) := ⟨_, hid rfl⟩
  rw [HQ.out]
  go_enter Tryd.func16, Tryd.ntmps16
  go_wp2_with fail
  all_goals
    go_ret
    refine ⟨?_, rfl⟩
    refine congrArg (fun b => Ending.returned (Value.bool b)) ?_
    rw [← HQ.out]
    unfold versB
  all_goals grind
def numS (n : Int) (s : SeM) (i : Nat) : Int := [n, s.vi, s.ph, s.pv].getD i 0
def preS (n : Int) (s : SeM) (i : Nat) : List UInt8 := (([n, s.vi, s.ph, s.pv].take i).map fun n => dg n.toNat).flatten
theorem preS_more (n : Int) (s : SeM) (i : Nat) (h : i < 4) : preS n s (i + 1) = preS n s i ++ dg (numS n s i).toNat := by
  unfold preS numS
  have : i = 0 ∨ i = 1 ∨ i = 2 ∨ i = 3 := by omega
  rcases this with rfl | rfl | rfl | rfl <;> simp
theorem numS_le {n : Int} {s : SeM} (hn : versB n = true) (hm : mayS s = true) (i : Nat) : 0 ≤ numS n s i ∧ numS n s i ≤ 1099511627776 := by
  obtain ⟨h1, h2, h3, h4, h5, h6⟩ := mayS_iff hm
  unfold versB at hn
  rw [decide_eq_true_eq] at hn
  unfold numS
  match i with
  | 0 => simp; omega
  | 1 => simp; omega
  | 2 => simp; omega
  | 3 => simp; omega
  | k + 4 => simp
theorem preS_len {n : Int} {s : SeM} (hn : versB n = true) (hm : mayS s = true) (i : Nat) : (preS n s i).length ≤ 40 := by
  obtain ⟨h1, h2, h3, h4, h5, h6⟩ := mayS_iff hm
  unfold versB at hn
  rw [decide_eq_true_eq] at hn
  have e0 := dg_len10 (n := n.toNat) (by omega)
  have e1 := dg_len10 (n := s.vi.toNat) (by omega)
  have e2 := dg_len10 (n := s.ph.toNat) (by omega)
  have e3 := dg_len10 (n := s.pv.toNat) (by omega)
  unfold preS
  match i with
  | 0 => simp
  | 1 => simp; omega
  | 2 => simp; omega
  | 3 => simp; omega
  | k + 4 => simp; omega
theorem preS_all (n : Int) (s : SeM) : preS n s 4 ++ s.pa = taggedS n s := by
  unfold preS taggedS
  simp
theorem arr4 : ArrT 59 3 4 (.int .i64 0) := ⟨by kernel_rfl, by kernel_rfl, by kernel_rfl, by kernel_rfl, by kernel_rfl, by kernel_rfl, rfl⟩
theorem wpList_build_four {ops : Array Oper} {rest : List Oper} {o : Oper} {a : Act} {w : World} {Q : Exit → Act → World → Prop} (hgd : o.guard = none) {x0 x1 x2 x3 : Operand} (ho : o.op = .build 59 #[(0, x0), (1, x1), (2, x2), (3, x3)])
    (v0 v1 v2 v3 : Int) (h0 : a.eval x0 = .int .i64 v0) (h1 : a.eval x1 = .int .i64 v1) (h2 : a.eval x2 = .int .i64 v2) (h3 : a.eval x3 = .int .i64 v3)
    (h : wpList Tryd.prog ops Q rest (a.put o.dst (.agg #[.int .i64 v0, .int .i64 v1, .int .i64 v2, .int .i64 v3])) w) : wpList Tryd.prog ops Q (o :: rest) a w :=
  wpList_plain hgd fun _ hK => by
    have e : (Instr.build 59 #[(0, .int .i64 v0), (1, .int .i64 v1), (2, .int .i64 v2), (3, .int .i64 v3)]).run Tryd.prog w = .ok (.agg #[.int .i64 v0, .int .i64 v1, .int .i64 v2, .int .i64 v3]) w := by
      have e2 : fcells 4 (fun _ => (.int .i64 0 : Value)) = #[.int .i64 0, .int .i64 0, .int .i64 0, .int .i64 0] := by kernel_rfl
      simp [Instr.build, Sem.run_bind, arr4.run_zero, run_underlying arr4.under, arr4.run_esize, Instr.fill, Value.cells, e2]
    unfold Oper.wp execOp
    simp only [ho, Sem.run_bind, List.map_toArray, List.map_cons, List.map_nil, h0, h1, h2, h3, e, Sem.run_pure, Result.andThen_ok]
    exact hK _ _ h
theorem four_index (a b c d : Int) (i : Nat) (hi : i < 4) (w : World) : (Instr.index 59 (.agg #[.int .i64 a, .int .i64 b, .int .i64 c, .int .i64 d]) (.int .i64 (i : Int))).run Tryd.prog w = .ok (.int .i64 ([a, b, c, d].getD i 0)) w := by
  have e2 : (#[.int .i64 a, .int .i64 b, .int .i64 c, .int .i64 d] : Array Value) = fcells 4 (fun j => .int .i64 ([a, b, c, d].getD j 0)) := rfl
  rw [e2, arr4.run_index _ hi]
set_option maxHeartbeats 3200000 in
theorem setagged_any (n : Int) (s : SeM) (w : World) (ho : s.Ok) (hn : versB n = true) (hm : mayS s = true) :
    Calls Tryd.prog 17 #[.int .i64 n, .agg (sec s)] w fun e w' => ∃ x, e = .returned x ∧ Own w.heap.size w' x (taggedS n s) ∧ Below w.heap.size w w' := by
  have hb0 : Below w.heap.size w (w.alloc (.cells (sec s) 25)) := (Below.refl _ _).alloc (Nat.le_refl _) _
  have hA := BoxSe.new w s
  have HN : Hid (∀ i, 0 ≤ numS n s i ∧ numS n s i ≤ 1099511627776) := hid (fun i => numS_le hn hm i)
  have HPS : Hid (∀ i, (preS n s i).length ≤ 40) := hid (fun i => preS_len hn hm i)
  have HALL := hid (preS_all n s)
  have HMORE := hid (fun i h => preS_more n s i h)
  obtain ⟨C, HC⟩ : ∃ C : Array Value, Hid (sec s = C) := ⟨_, hid rfl⟩
  obtain ⟨O, HO⟩ : ∃ O : List UInt8, Hid (taggedS n s = O) := ⟨_, hid rfl⟩
  rw [HO.out] at HALL
  have HP0 : Hid (preS n s 0 = []) := hid rfl
  have HIX0 := hid (fun i hi w => four_index n s.vi s.ph s.pv i hi w)
  have HIX : Hid (∀ i : Nat, i < 4 → ∀ w, (Instr.index 59 (.agg #[.int .i64 n, .int .i64 s.vi, .int .i64 s.ph, .int .i64 s.pv]) (.int .i64 (i : Int))).run Tryd.prog w = .ok (.int .i64 (numS n s i)) w) := hid (fun i hi w => HIX0.out i hi w)
  obtain ⟨N, HNF⟩ : ∃ f : Nat → Int, Hid (numS n s = f) := ⟨_, hid rfl⟩
  obtain ⟨P, HPF⟩ : ∃ f : Nat → List UInt8, Hid (preS n s = f) := ⟨_, hid rfl⟩
  rw [HNF.out] at HN HIX
  rw [HNF.out, HPF.out] at HMORE
  rw [HPF.out] at HPS HALL HP0
  rw [HC.out] at hb0 hA ⊢
  rw [HO.out]
  have hpl : s.pa.length = 32 := ho
  have HPL := hid hpl
  have HA := hid hA
  have hlA := hA.lt
  clear hA hpl ho HC hn hm HIX0 HNF HPF HO
  obtain ⟨vi, ph, pv, pa⟩ := s
  simp only at HALL HPL HIX
  go_enter Tryd.func17, Tryd.ntmps17
  go_upto_region 1 with (fail)
  generalize (w.alloc (.cells C 25)) = w0 at *
  obtain ⟨k0, k1, k2⟩ := HA.out.cells
  simp only at k0 k1 k2
  have HLH : Hid (∀ W, Below w0.heap.size w0 W → loadH (.pointer (some ⟨w.heap.size, 3, none⟩)) W = .ok (.value (.agg (hcells pa))) W) := hid (fun W h => loadH_mid (HA.out.below h hlA).hash HPL.out)
  have HB0 := hid hb0
  obtain ⟨D, HD⟩ : ∃ D : Array Value, Hid (#[.int .i64 n, .int .i64 vi, .int .i64 ph, .int .i64 pv] = D) := ⟨_, hid rfl⟩
  rw [HD.out] at HIX
  clear HA hlA hb0
  go_wp2_with (refine wpList_build_four rfl rfl _ _ _ _ rfl rfl rfl rfl ?_)
  rw [HD.out]
  clear k0 k1 k2
  go_loopw [5, 16] (fun out si wr => ∃ i : Nat, i ≤ 4 ∧ si = .int .i64 i ∧ Byt wr out (P i) ∧ Below w0.heap.size w0 wr) (fun _ si _ => 4 - (intOf si).toNat)
  case atStart => exact ⟨0, by omega, rfl, by rw [HP0.out]; exact Byt.nil _, Below.refl _ _⟩
  case round =>
    obtain ⟨i, hi, rfl, hbt, hbr⟩ := hrel
    have HBT := hid hbt
    have HBR := hid hbr
    have HPI := hid (HPS.out i)
    clear hbt hbr
    by_cases hlt : i < 4
    · have i0 := HIX.out i hlt
      have HX0 := hid (HN.out i)
      have HNX := hid (HMORE.out i hlt)
      obtain ⟨x, HXV⟩ : ∃ n : Int, Hid (N i = n) := ⟨_, hid rfl⟩
      rw [HXV.out] at i0 HX0 HNX
      have C := num_any _ (P i) x wr HBT.out (by have := HX0.out; omega) (by have := HX0.out; omega) (by have := HPI.out; omega)
      rw [← HNX.out] at C
      have HC := hid C
      have hwx : IntKind.u64.wrap x = x := by have := HX0.out; exact wrap_u64 x (by omega) (by omega)
      have hlt' : (i : Int) < 4 := by omega
      have HLT := hid hlt
      clear C hi
      go_wp2_with fail
      refine HC.out.mono ?_
      rintro e w2 ⟨x2, rfl, hx2, hb2⟩
      have HX2 := hid hx2.byt
      have HB2 := hid (HBR.out.trans (hb2.mono HBR.out.size))
      clear hx2 hb2 hwx i0
      go_wp2_with fail
      go_roundw
      case rel => exact ⟨i + 1, by have := HLT.out; omega, by go_num, HX2.out, HB2.out⟩
      case measure => have := HLT.out; simp [intOf]; omega
    · obtain rfl : i = 4 := by omega
      have hn4 : ¬ ((4 : Int) < 4) := by omega
      have l4 := HLH.out wr HBR.out
      clear hlt hi
      go_wp2_with fail
      refine (hash_any _ (P 4) pa wr HBT.out (by have := HPI.out; omega) HPL.out).mono ?_
      rintro e w3 ⟨v3, rfl, ho3, hb3⟩
      rw [HALL.out] at ho3
      clear l4
      go_wp2_with fail
      go_ret
      have hs := HBR.out.size
      have hs0 := HB0.out.size
      exact ⟨v3, rfl, ho3.more (by omega), HB0.out.trans ((HBR.out.trans (hb3.mono HBR.out.size)).mono HB0.out.size)⟩
end Go.Proofs.YtifkkpfiejiojaaDoor
