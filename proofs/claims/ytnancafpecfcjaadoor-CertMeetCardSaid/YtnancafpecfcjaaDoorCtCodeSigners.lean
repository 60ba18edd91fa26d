/-
  cert.Signers: who signed.
-/
import Derived.Test.YtnancafpecfcjaaDoorBs11
import Derived.Test.YtnancafpecfcjaaDoorBs10
import Derived.LoopTactic
import Derived.Outline
import Derived.Deep.QuietTactic
import Derived.BigQuiet
import Derived.Deep.DeepCutAuto
namespace Go.Proofs.YtnancafpecfcjaaDoor
set_option maxRecDepth 20000
open Go.RowKit
attribute [local go_sem ↓] exec_load_sg exec_alloc_sg exec_store_sg

set_option maxHeartbeats 1600000 in
theorem ctSigners_ok : CtSignersOk := by
  intro v c w hv hlen
  obtain ⟨s, rfl, ho, ht⟩ := hv
  have hb0 : Below w.heap.size w (w.alloc (.cells (ctc c s) 30)) := (Below.refl _ _).alloc (Nat.le_refl _) _
  have hr0 := heap_alloc_new w (.cells (ctc c s) 30)
  obtain ⟨A, k, rfl⟩ := ht.shape
  have HT := hid (fun W (h : Below w.heap.size w W) => ht.below h)
  have HSO := hid ho.sg
  obtain ⟨L, HL⟩ : ∃ n : Nat, Hid (c.sg.length = n) := ⟨_, hid rfl⟩
  have HLEN := hid hlen
  rw [HL.out] at hr0 hb0 HT HLEN ⊢
  have c0 : (w.alloc (.cells (ctc c (.slice A L k)) 30)).cell? ⟨w.heap.size, 101, none⟩ = some (.slice A L k) := BoxC.sigs (BoxC.new w c (.slice A L k)) ho.att
  obtain ⟨C, HC⟩ : ∃ C : Array Value, Hid (ctc c (.slice A L k) = C) := ⟨_, hid rfl⟩
  rw [HC.out] at hr0 hb0 c0 ⊢
  obtain ⟨Z, HZ⟩ : ∃ C : Array Value, Hid (sgc sgZ = C) := ⟨_, hid rfl⟩
  have HZS : Hid (Z.size = 33) := hid (by rw [← HZ.out]; exact sgc_size sgZ_ok)
  have hal : ∀ W, allocSg W = .ok (.value (.pointer (some ⟨W.heap.size, 0, none⟩))) (W.alloc (.cells Z 63)) := fun W => by rw [← HZ.out]; exact allocSg_eq W
  clear ho ht hlen
  go_enter Tryd.func12, Tryd.ntmps12
  go_upto_region 1 with (fail)
  generalize (w.alloc (.cells C 30)) = w0 at *
  have HB0 := hid hb0
  clear hr0 hb0
  go_wp2_with fail
  clear c0
  go_loopw [3, 9] (fun out si wr => ∃ i : Nat, i ≤ L ∧ si = .int .i64 i ∧ OwnE icl 1 3 w0.heap.size wr out ((c.sg.take i).map (·.bo)) ∧ Below w0.heap.size w0 wr) (fun _ si _ => L - (intOf si).toNat)
  case atStart => exact ⟨0, Nat.zero_le _, rfl, OwnE.nil _ _, Below.refl _ _⟩
  case round =>
    obtain ⟨i, hi, rfl, how, hbr⟩ := hrel
    have HBR := hid (HB0.out.trans (hbr.mono HB0.out.size))
    by_cases hlt : i < L
    · have hil : i < c.sg.length := by rw [HL.out]; exact hlt
      obtain ⟨g, o, rfl, _, hcl⟩ := (HT.out wr HBR.out).at_.2.2.2 (by omega)
      have hI : (i : Int) < (L : Int) := by omega
      have hoi := HSO.out _ (List.getElem_mem hil)
      have l1 : loadSg (.pointer (some ⟨g, o + i * 33, none⟩)) wr = .ok (.value (.agg (sgc c.sg[i]))) wr := loadSg_mid (hcl i hil) hoi
      have HXS : Hid ((sgc c.sg[i]).size = 33 ∧ (sgc c.sg[i]).all (·.oneCell') = true) := hid ⟨sgc_size hoi, sgc_one _⟩
      have HC0 : Hid (∀ (W : World) (g : Nat), W.heap[g]? = some (.cells (sgc c.sg[i]) 63 (0, 0)) → W.cell? ⟨g, 0, none⟩ = some (.int .i64 c.sg[i].bo)) := hid (fun W g h => cell_blk h 0)
      have HNEW : Hid ((c.sg.take (i + 1)).map (·.bo) = (c.sg.take i).map (·.bo) ++ [c.sg[i].bo]) := hid (by rw [List.take_succ_eq_append_getElem hil, List.map_append]; rfl)
      have HPL : Hid (((c.sg.take i).map (·.bo)).length ≤ 1000) := hid (by rw [List.length_map, List.length_take]; have := HLEN.out; omega)
      obtain ⟨P, HP⟩ : ∃ P : List Int, Hid ((c.sg.take i).map (·.bo) = P) := ⟨_, hid rfl⟩
      obtain ⟨X, HX⟩ : ∃ C : Array Value, Hid (sgc c.sg[i] = C) := ⟨_, hid rfl⟩
      obtain ⟨bo, HBO⟩ : ∃ x : Int, Hid (c.sg[i].bo = x) := ⟨_, hid rfl⟩
      rw [HX.out] at l1 HXS HC0
      rw [HBO.out] at HC0 HNEW
      rw [HP.out] at how HNEW HPL
      have hst := sg_var wr HZS.out HXS.out.1 HXS.out.2
      have hal1 := hal wr
      clear hcl hoi
      go_upto_region 5 with (fail)
      have hr1 := heap_alloc_new wr (.cells X 63)
      have hb1 : Below w0.heap.size w0 (wr.alloc (.cells X 63)) := hbr.alloc hbr.size _
      have c0 := HC0.out _ _ hr1
      have how1 := how.alloc (.cells X 63)
      clear l1 hst hr1 hal1 how
      generalize (wr.alloc (.cells X 63)) = w1 at *
      have HOW := hid how1
      have HB1 := hid hb1
      have hsz := hb1.size
      have HLT := hid hlt
      clear how1
      go_wp2_with (at_builtin; go_loud (refine eltIc.wpList_append (x := .slice (some ⟨w1.heap.size, 0, none⟩) 1 1) (m := [bo]) rfl (.tmp 13) (.tmp 16) rfl rfl rfl (fun _ _ => trivial) (HOW.out.alloc (.cells #[.int .i64 bo] 3)) (els_one w1 bo #[.int .i64 bo] 3 rfl) (by have := HPL.out; simp only [List.length_cons, List.length_nil]; omega) (by simp; omega) ?_; intro v4 w4 ho4 hg4 hv4))
      have ho4' : OwnE icl 1 3 w0.heap.size w4 v4 ((c.sg.take (i + 1)).map (·.bo)) := by rw [HNEW.out]; exact ho4
      have hb4 : Below w0.heap.size w0 w4 := (HB1.out.alloc HB1.out.size _).grown hg4 (by have := HB1.out.size; simp; omega) (fun j hj => (World.ownsRow.lt (HOW.out.alloc (.cells #[.int .i64 bo] 3)) j hj).1)
      clear ho4 hg4 hv4
      have HWI : Hid (wrap64 ((i : Int) + 1) = ((i + 1 : Nat) : Int)) := hid (by have h1 := HLT.out; have h2 := HLEN.out; unfold wrap64; omega)
      go_roundw
      case rel => exact ⟨i + 1, by have := HLT.out; omega, by rw [HWI.out], ho4', hb4⟩
      case measure =>
        have h1 := HLT.out
        have hw := HWI.out
        simp only [hw]; simp [intOf]; omega
    · obtain rfl : i = L := by omega
      have htk : c.sg.take i = c.sg := List.take_of_length_le (by rw [HL.out]; exact Nat.le_refl _)
      rw [htk] at how
      clear htk
      go_wp2_with fail
      go_ret
      exact ⟨_, rfl, how.els eltIc (fun _ _ => trivial), HBR.out⟩
end Go.Proofs.YtnancafpecfcjaaDoor
