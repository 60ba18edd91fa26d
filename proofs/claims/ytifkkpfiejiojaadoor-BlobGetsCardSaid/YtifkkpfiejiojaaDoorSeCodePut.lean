/-
  blob.Put: the blob of a seal. Printed with gensecode.py.
-/
import Derived.Test.YtifkkpfiejiojaaDoorSeCodeMay
import Derived.Test.YtifkkpfiejiojaaDoorSeCodeTagged
import Derived.Test.YtifkkpfiejiojaaDoorSePut
namespace Go.Proofs.YtifkkpfiejiojaaDoor
set_option maxRecDepth 20000
open Go.RowKit
attribute [local go_sem ↓] exec_load_se
set_option maxHeartbeats 3200000 in
theorem sePut_ok : SePutOk := by
  intro i n s w hi hn ho hK
  have hb0 : Below w.heap.size w (w.alloc (.cells (sec s) 25)) := (Below.refl _ _).alloc (Nat.le_refl _) _
  have hA := BoxSe.new w s
  obtain ⟨C, HC⟩ : ∃ C : Array Value, Hid (sec s = C) := ⟨_, hid rfl⟩
  obtain ⟨m, HM⟩ : ∃ q : Bool, Hid (mayS s = q) := ⟨_, hid rfl⟩
  obtain ⟨nd, HND⟩ : ∃ q : Bool, Hid (nodeB i = q) := ⟨_, hid rfl⟩
  obtain ⟨vs, HVS⟩ : ∃ q : Bool, Hid (versB n = q) := ⟨_, hid rfl⟩
  obtain ⟨L, HL⟩ : ∃ x : List UInt8, Hid (taggedS n s = x) := ⟨_, hid rfl⟩
  obtain ⟨T, HT⟩ : ∃ x : List UInt8, Hid (tagS i n s = x) := ⟨_, hid rfl⟩
  obtain ⟨er, HER⟩ : ∃ x : Int, Hid ((if putOkS i n s = true then (0 : Int) else 1) = x) := ⟨_, hid rfl⟩
  obtain ⟨OL, HOL⟩ : ∃ x : List UInt8, Hid ((if putOkS i n s = true then blobS i n s else []) = x) := ⟨_, hid rfl⟩
  have HP : Hid (putOkS i n s = (nd && (vs && m))) := hid (by rw [← HND.out, ← HVS.out, ← HM.out]; rfl)
  have HTL : Hid (T.length = 32) := hid (by rw [← HT.out]; exact tagS_len i n s)
  have HCK : Hid (∀ W, Calls Tryd.prog 7 #[.agg C] W fun e w' => e = .returned (.int .i64 (if m = true then 0 else 1)) ∧ Below W.heap.size W w') := hid (fun W => by
    have := seCheck_ok s W ho
    rw [HM.out, HC.out] at this
    exact this)
  have HLL : Hid (vs = true → m = true → L.length ≤ 72) := hid (fun h1 h2 => by rw [← HL.out]; exact taggedS_len ho (HVS.out.trans h1) (HM.out.trans h2))
  have HTD : Hid (vs = true → m = true → ∀ W, Calls Tryd.prog 17 #[.int .i64 n, .agg C] W fun e w' => ∃ x, e = .returned x ∧ Own W.heap.size w' x L ∧ Below W.heap.size W w') := hid (fun h1 h2 W => by
    have := setagged_any n s W ho (HVS.out.trans h1) (HM.out.trans h2)
    rw [HL.out, HC.out] at this
    exact this)
  have HTG : Hid (∀ v gp c W, Below w.heap.size w W → gp < W.heap.size → W.cell? ⟨gp, 0, none⟩ = some v → Byt W v L → L.length ≤ 1000000 → Calls Tryd.prog 18 #[.int .i64 i, .int .u8 3, .slice (some ⟨gp, 0, none⟩) 1 c] W fun e w' => e = .returned (.agg (hcells T)) ∧ Below W.heap.size W w') := hid (fun v gp c W h h1 h2 h3 h4 => by
    have := tag_one i 3 v L gp c W h1 h2 h3 h4 (hK.below h)
    rw [← HT.out]
    unfold tagS
    rw [HL.out]
    exact this)
  have HOY : Hid (nd = true → vs = true → m = true → OL = L ++ T) := hid (fun h1 h2 h3 => by
    rw [← HOL.out, HP.out, h1, h2, h3]
    show blobS i n s = _
    unfold blobS
    rw [HL.out, HT.out])
  have HLD0 := hid (fun (W : World) (h : BoxSe W w.heap.size s) => loadSe_eq h ho)
  rw [HC.out] at HLD0 hb0 hA ⊢
  rw [HER.out, HOL.out]
  clear hi hn hK ho
  go_enter Tryd.func5, Tryd.ntmps5
  go_upto_region 1 with (fail)
  generalize (w.alloc (.cells C 25)) = w0 at *
  have HLD : Hid (∀ W, Below w0.heap.size w0 W → loadSe (.pointer (some ⟨w.heap.size, 0, none⟩)) W = .ok (.value (.agg C)) W) := hid (fun W h => HLD0.out W (hA.keep h))
  have HB0 := hid hb0
  have l0 := HLD.out w0 (Below.refl _ _)
  clear hA hb0 HLD0
  go_wp2_with fail
  refine (HCK.out w0).mono ?_
  rintro e w1 ⟨rfl, hb1⟩
  have HB1 := hid hb1
  clear l0 hb1
  cases m with
  | false =>
    obtain rfl : er = 1 := by rw [← HER.out, HP.out]; cases nd <;> cases vs <;> rfl
    obtain rfl : OL = [] := by rw [← HOL.out, HP.out]; cases nd <;> cases vs <;> rfl
    simp only [Bool.false_eq_true, if_false]
    go_wp2_with fail
    go_ret2
    exact ⟨_, rfl, Byt.nil _, HB0.out.trans (HB1.out.mono HB0.out.size)⟩
  | true =>
    have HTD1 := hid (fun h => HTD.out h rfl)
    have HLL1 := hid (fun h => HLL.out h rfl)
    have HOY1 := hid (fun h1 h2 => HOY.out h1 h2 rfl)
    simp only [if_true]
    go_wp2_with fail
    refine (node_any i w1).mono ?_
    rintro e w2 ⟨rfl, rfl⟩
    rw [HND.out]
    cases nd with
    | false =>
      obtain rfl : er = 1 := by rw [← HER.out, HP.out]; rfl
      obtain rfl : OL = [] := by rw [← HOL.out, HP.out]; rfl
      go_wp2_with fail
      go_ret2
      exact ⟨_, rfl, Byt.nil _, HB0.out.trans (HB1.out.mono HB0.out.size)⟩
    | true =>
      have HOY2 := hid (fun h2 => HOY1.out rfl h2)
      go_wp2_with fail
      refine (seVers_any n w1).mono ?_
      rintro e w2 ⟨rfl, rfl⟩
      rw [HVS.out]
      cases vs with
      | false =>
        obtain rfl : er = 1 := by rw [← HER.out, HP.out]; rfl
        obtain rfl : OL = [] := by rw [← HOL.out, HP.out]; rfl
        go_wp2_with fail
        go_ret2
        exact ⟨_, rfl, Byt.nil _, HB0.out.trans (HB1.out.mono HB0.out.size)⟩
      | true =>
        obtain rfl : er = 0 := by rw [← HER.out, HP.out]; rfl
        obtain rfl : OL = L ++ T := HOY2.out rfl
        have l1 := HLD.out w1 HB1.out
        have HL72 := hid (HLL1.out rfl)
        have HTD2 := hid (HTD1.out rfl)
        go_wp2_with fail
        refine (HTD2.out w1).mono ?_
        rintro e w3 ⟨v3, rfl, ho3, hb3'⟩
        have hb3 := HB1.out.trans (hb3'.mono HB1.out.size)
        have hv3 := ho3.byt
        obtain ⟨A3, c3, rfl⟩ := hv3.shape
        obtain ⟨n3, HN3⟩ : ∃ k : Nat, Hid (L.length = k) := ⟨_, hid rfl⟩
        rw [HN3.out] at hv3 ⊢
        have hb4 : Below w0.heap.size w0 (w3.alloc (.cells #[.slice A3 n3 c3] 27)) := hb3.alloc hb3.size _
        have hv4 := hv3.alloc (.cells #[.slice A3 n3 c3] 27)
        clear l1 ho3 hb3'
        go_wp2_with fail
        refine (HTG.out (.slice A3 n3 c3) w3.heap.size 1 (w3.alloc (.cells #[.slice A3 n3 c3] 27)) (HB0.out.trans (hb4.mono HB0.out.size)) (by simp) (alloc_cell0 _ _ _) hv4 (by have := HL72.out; omega)).mono ?_
        rintro e w5 ⟨rfl, hb5'⟩
        have hb5 := hb4.trans (hb5'.mono hb4.size)
        have hv5 := hv4.below hb5'
        have hr5 := heap_alloc_new w5 (.cells (hcells nought) 23)
        obtain ⟨TC, HTC⟩ : ∃ x : Array Value, Hid (hcells T = x) := ⟨_, hid rfl⟩
        rw [HTC.out]
        clear hb3 hv3 hb4 hv4 hb5'
        go_upto_region 5 with (first
          | (refine wpList_alloc_hash rfl rfl ?_)
          | (refine wpList_store_hash (h' := T) rfl _ _ rfl rfl (by rw [HTC.out]; rfl) hr5 nought_length HTL.out ?_; intro w7 hg7 hr7 hs7; have hb57 : Below w5.heap.size w5 w7 := below_into ((Below.refl _ _).alloc (Nat.le_refl _) _) (Nat.le_refl _) hg7 (al_le _ _); have hb7 := hb5.trans (hb57.mono hb5.size); have hv7 := hv5.below hb57))
        clear hb57 hv5 hr5 hb5
        obtain ⟨gt, HGT⟩ : ∃ g : Nat, Hid (w5.heap.size = g) := ⟨_, hid rfl⟩
        rw [HGT.out] at hr7 ⊢
        have hlt7 := lt_of_block hr7.out
        have hy7 : Byt w7 (.slice (some ⟨gt, 0, none⟩) 32 32) T := byt_range (fun j u hu => by rw [Nat.zero_add, cell_blk hr7.out j]; simpa [hcells] using hu) hlt7 HTL.out (by unfold maxLen; omega)
        have HY7 := hid hy7
        have HV7 := hid hv7
        have HB7 := hid hb7
        clear hg7 hs7 hr7 hy7 hv7 hb7
        go_wp2_with fail
        refine (concat2 (.slice A3 n3 c3) (.slice (some ⟨gt, 0, none⟩) 32 32) L T w7.heap.size 2 (w7.alloc (.cells #[.slice A3 n3 c3, .slice (some ⟨gt, 0, none⟩) 32 32] 27)) (by simp) (by simp) (by simp) (HV7.out.alloc _) (HY7.out.alloc _) (by have := HL72.out; have := HTL.out; omega)).mono ?_
        rintro e w8 ⟨v8, rfl, ho8, hb8'⟩
        have hb8 := (HB7.out.alloc HB7.out.size (.cells #[.slice A3 n3 c3, .slice (some ⟨gt, 0, none⟩) 32 32] 27)).trans (hb8'.mono (by have := HB7.out.size; simp; omega))
        go_wp2_with fail
        go_ret2
        exact ⟨_, rfl, ho8.byt, HB0.out.trans (hb8.mono HB0.out.size)⟩
end Go.Proofs.YtifkkpfiejiojaaDoor
