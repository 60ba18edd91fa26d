/-
  A message, as it came in by value.
-/
import Derived.Test.YtjemfmbmlmogcaaGreatAcArg
import Derived.Test.YtjemfmbmlmogcaaGreatAtArg
import Derived.Test.YtjemfmbmlmogcaaGreatBkArg
import Derived.Test.YtjemfmbmlmogcaaGreatCtArg
import Derived.Test.YtjemfmbmlmogcaaGreatMgLight
import Derived.Test.YtjemfmbmlmogcaaGreatBs25
import Derived.Test.YtjemfmbmlmogcaaGreatBs3
import Derived.Test.YtjemfmbmlmogcaaGreatTxArg
namespace Go.Proofs.YtjemfmbmlmogcaaGreat
set_option maxRecDepth 20000
open Go.ChangeShapes Go.WideShapes Go.ChangeAt Go.RowKit Go.Deep
section
variable {H : Type} {enc : TypeId × Value → H} {w : World} {base : Nat} {spare : Nat → Bool} {held : Bool} {fuel : Nat} {cs : List Value} {x : DataW H × List MemPlace}
theorem fields_mg : ∃ f0 f1 f2 f3 f4 f5 f6 f7 f8 : Field, Tryz.prog.underlying 38 = some (.struct #[f0, f1, f2, f3, f4, f5, f6, f7, f8]) ∧ (f0.type, f0.offset) = (3, 0) ∧ (f1.type, f1.offset) = (3, 1) ∧ (f2.type, f2.offset) = (3, 2) ∧ (f3.type, f3.offset) = (25, 3) ∧ (f4.type, f4.offset) = (28, 104) ∧ (f5.type, f5.offset) = (31, 206) ∧ (f6.type, f6.offset) = (34, 274) ∧ (f7.type, f7.offset) = (23, 310) ∧ (f8.type, f8.offset) = (36, 342) :=
  ⟨_, _, _, _, _, _, _, _, _, Tryz.underlying38, rfl, rfl, rfl, rfl, rfl, rfl, rfl, rfl, rfl⟩
theorem trod_mg (h : DataW.trod enc Tryz.prog w base spare held fuel 38 cs = some x) : ∃ m : MgM, MgV w (.agg cs.toArray) m ∧ sizedM m := by
  obtain ⟨f0, f1, f2, f3, f4, f5, f6, f7, f8, hu, e0, e1, e2, e3, e4, e5, e6, e7, e8⟩ := fields_mg
  injection e0 with t0 o0
  injection e1 with t1 o1
  injection e2 with t2 o2
  injection e3 with t3 o3
  injection e4 with t4 o4
  injection e5 with t5 o5
  injection e6 with t6 o6
  injection e7 with t7 o7
  injection e8 with t8 o8
  obtain ⟨xs, m, _, _, hlen, hxl, hf⟩ := DataW.trod_struct hu h
  have hc : Tryz.prog.cellsOf 38 = 349 := by kernel_rfl
  have hc_int : Tryz.prog.cellsOf 3 = 1 := by kernel_rfl
  have hc_Att : Tryz.prog.cellsOf 25 = 101 := by kernel_rfl
  have hc_Cert : Tryz.prog.cellsOf 28 = 102 := by kernel_rfl
  have hc_Accu : Tryz.prog.cellsOf 31 = 68 := by kernel_rfl
  have hc_Block : Tryz.prog.cellsOf 34 = 36 := by kernel_rfl
  have hc_Hash : Tryz.prog.cellsOf 23 = 32 := by kernel_rfl
  have hc_Tx : Tryz.prog.cellsOf 36 = 7 := by kernel_rfl
  rw [hc] at hlen
  have hx : xs.length = 9 := hxl
  have g0 := hf 0 f0 rfl
  have g1 := hf 1 f1 rfl
  have g2 := hf 2 f2 rfl
  have g3 := hf 3 f3 rfl
  have g4 := hf 4 f4 rfl
  have g5 := hf 5 f5 rfl
  have g6 := hf 6 f6 rfl
  have g7 := hf 7 f7 rfl
  have g8 := hf 8 f8 rfl
  rw [t0, o0, hc_int, List.getElem?_eq_getElem (by omega)] at g0
  rw [t1, o1, hc_int, List.getElem?_eq_getElem (by omega)] at g1
  rw [t2, o2, hc_int, List.getElem?_eq_getElem (by omega)] at g2
  rw [t3, o3, hc_Att, List.getElem?_eq_getElem (by omega)] at g3
  rw [t4, o4, hc_Cert, List.getElem?_eq_getElem (by omega)] at g4
  rw [t5, o5, hc_Accu, List.getElem?_eq_getElem (by omega)] at g5
  rw [t6, o6, hc_Block, List.getElem?_eq_getElem (by omega)] at g6
  rw [t7, o7, hc_Hash, List.getElem?_eq_getElem (by omega)] at g7
  rw [t8, o8, hc_Tx, List.getElem?_eq_getElem (by omega)] at g8
  obtain ⟨n0, c0, _, _⟩ := DataW.trod_int Tryz.underlying3 g0
  obtain ⟨n1, c1, _, _⟩ := DataW.trod_int Tryz.underlying3 g1
  obtain ⟨n2, c2, _, _⟩ := DataW.trod_int Tryz.underlying3 g2
  obtain ⟨a, ha, c3⟩ := trod_at g3
  obtain ⟨c, s1, u4, hc4, h4⟩ := trod_ct g4
  obtain ⟨y, s2, u5, hc5, h5⟩ := trod_ac g5
  obtain ⟨b, ⟨s3, u6, hc6, h6⟩, z6⟩ := trod_bk g6
  obtain ⟨k, hk, c7⟩ := trod_hash g7
  obtain ⟨t, hz, c8⟩ := trod_tx g8
  have c4 : (cs.drop 104).take 102 = ctl c s1 := by
    injection u4 with u4
    have := congrArg Array.toList u4
    simpa [ctc, ctl] using this
  have c5 : (cs.drop 206).take 68 = axl y s2 := by
    injection u5 with u5
    have := congrArg Array.toList u5
    simpa [axc] using this
  have c6 : (cs.drop 274).take 36 = bkl b s3 := by
    injection u6 with u6
    have := congrArg Array.toList u6
    simpa [bkc, bkl] using this
  have c8' : (cs.drop 342).take 7 = tcl t := c8
  refine ⟨⟨n0, n1, n2, a, c, y, b, k, t⟩, ⟨s1, s2, s3, ?_, ⟨ha, hc4, hc5, hc6, hk⟩, h4, h5, h6⟩, z6, hz.1, hz.2⟩
  have e : cs = cs.drop 0 := rfl
  unfold mgc mgl
  rw [e, drop_part c0, drop_part c1, drop_part c2, drop_part c3, drop_part c4, drop_part c5, drop_part c6, drop_part c7, drop_part c8', List.drop_eq_nil_of_le (by omega)]
  simp only [List.append_nil, List.cons_append, List.nil_append]
end
end Go.Proofs.YtjemfmbmlmogcaaGreat
