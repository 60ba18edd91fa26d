/-
  The document's answer for a blob: tithingref13.Put. Printed with gense.py.
-/
import Derived.Test.YtifkkpfiejiojaaDoorSeTagged
namespace Go.Proofs.YtifkkpfiejiojaaDoor
set_option maxRecDepth 20000
open Go.RowKit
attribute [local go_sem ↓] exec_load_se
theorem blobS_len {i n : Int} {s : SeM} (ho : s.Ok) (hn : versB n = true) (hm : mayS s = true) : (blobS i n s).length ≤ 104 := by
  have := taggedS_len ho hn hm
  unfold blobS
  rw [List.length_append, tagS_len]
  omega
set_option maxHeartbeats 3200000 in
theorem refPut13_any (i n : Int) (s : SeM) (w : World) (ho : s.Ok) (hn : versB n = true) (hm : mayS s = true) (hK : Kst 0 w) :
    Calls Tryd.prog 13 #[.int .i64 i, .int .i64 n, .agg (sec s)] w fun e w' => ∃ x, e = .returned x ∧ Own w.heap.size w' x (blobS i n s) ∧ Below w.heap.size w w' := by
  have hlen := taggedS_len ho hn hm
  have HTD : Hid (∀ W, Calls Tryd.prog 27 #[.int .i64 n, .agg (sec s)] W fun e w' => ∃ x, e = .returned x ∧ Own W.heap.size w' x (taggedS n s) ∧ Below W.heap.size W w') := hid (fun W => refTagged13_any n s W ho hn hm)
  have HKB := hid (fun W (h : Below w.heap.size w W) => (show Kst 0 W from hK.below h))
  have HTG : Hid (∀ v W, Below w.heap.size w W → Byt W v (taggedS n s) → Calls Tryd.prog 29 #[.int .i64 i, .int .u8 3, v] W fun e w' => e = .returned (.agg (hcells (tagS i n s))) ∧ Below W.heap.size W w') := hid (fun v W h hv => by
    have := refTag_any i 3 v (taggedS n s) W hv (by omega) (HKB.out W h)
    rw [fcells_hl] at this
    exact this)
  have HBB := hid (fun w => refBytes7_any (tagS i n s) w (tagS_len i n s))
  have hb0 : Below w.heap.size w (w.alloc (.cells (sec s) 25)) := (Below.refl _ _).alloc (Nat.le_refl _) _
  have hA := BoxSe.new w s
  have l0 := loadSe_eq hA ho
  obtain ⟨C, HC⟩ : ∃ C : Array Value, Hid (sec s = C) := ⟨_, hid rfl⟩
  obtain ⟨M, HM⟩ : ∃ O : List UInt8, Hid (taggedS n s = O) := ⟨_, hid rfl⟩
  obtain ⟨T, HT⟩ : ∃ C : List UInt8, Hid (tagS i n s = C) := ⟨_, hid rfl⟩
  obtain ⟨TC, HTC⟩ : ∃ C : Array Value, Hid (hcells T = C) := ⟨_, hid rfl⟩
  have HTL : Hid (T.length = 32) := hid (by rw [← HT.out]; exact tagS_len i n s)
  have HML : Hid (M.length ≤ 72) := hid (by rw [← HM.out]; exact hlen)
  unfold blobS
  rw [HC.out, HM.out] at HTD
  rw [HM.out, HT.out, HTC.out] at HTG
  rw [HT.out, HTC.out] at HBB
  rw [HC.out] at hb0 hA l0 ⊢
  rw [HM.out, HT.out]
  clear hlen ho hn hm hK hA
  go_enter Tryd.func13, Tryd.ntmps13
  go_upto_region 1 with (fail)
  generalize (w.alloc (.cells C 25)) = w0 at *
  have HB0 := hid hb0
  clear hb0
  go_wp2_with fail
  refine (HTD.out w0).mono ?_
  rintro e w1 ⟨v1, rfl, ho1, hb1⟩
  have HB1 := hid (HB0.out.trans (hb1.mono HB0.out.size))
  have hy1 := ho1.byt
  clear l0
  go_wp2_with fail
  refine (HTG.out v1 w1 HB1.out hy1).mono ?_
  rintro e w2 ⟨rfl, hb2'⟩
  have hb2 := hb1.trans (hb2'.mono hb1.size)
  go_wp2_with fail
  refine (HBB.out w2).mono ?_
  rintro e w3 ⟨v3, rfl, ho3, hb3'⟩
  have hb3 := hb2.trans (hb3'.mono hb2.size)
  have ho4 := (ho1.below hb2').below hb3'
  have hl4 : M.length + T.length ≤ 140737488355328 := by have := HML.out; have := HTL.out; omega
  clear hy1 ho1 hb2'
  go_wp2_with (at_builtin; refine wpList_append_byt rfl (.tmp 11) (.tmp 15) rfl rfl rfl ho4 ho3.byt hl4 hb3.size ?_; intro v5 w5 ho5 hg5 hv5; have hb5 := hb3.grown hg5 hb3.size (fun q hq => (World.ownsRow.lt ho4 q hq).1); clear hg5 hv5)
  go_ret
  exact ⟨v5, rfl, ho5.more HB0.out.size, HB0.out.trans (hb5.mono HB0.out.size)⟩
end Go.Proofs.YtifkkpfiejiojaaDoor
