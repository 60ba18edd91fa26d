/-
  CtCodeWith CtCodeRise CtCodeFits CtCodePut: what each of them says stands at its head.
-/
import Derived.BigQuiet
import Derived.Deep.DeepCutAuto
import Derived.Deep.QuietTactic
import Derived.Deep.RegionHeld3
import Derived.Laws.IdiomCopy
import Derived.LoopTactic
import Derived.Outline
import Derived.StillTailTactics
import Derived.Test.YtjemfmbmlmogcaaGreatBs2
import Derived.Test.YtjemfmbmlmogcaaGreatBs13
import Derived.Test.YtjemfmbmlmogcaaGreatBs14
import Derived.Test.YtjemfmbmlmogcaaGreatBs9
import Derived.Test.YtjemfmbmlmogcaaGreatBs8
import Derived.Test.YtjemfmbmlmogcaaGreatBs18
import Derived.Test.YtjemfmbmlmogcaaGreatBs7
import Derived.Test.YtjemfmbmlmogcaaGreatBs1
import Derived.Test.YtjemfmbmlmogcaaGreatBs3
import Derived.Test.YtjemfmbmlmogcaaGreatBs17
namespace Go.Proofs.YtjemfmbmlmogcaaGreat
set_option maxRecDepth 20000
open Go.RowKit
attribute [local go_sem ↓] exec_load_att exec_alloc_att exec_store_att exec_load_hash
theorem ctnum_any (v : Value) (l : List UInt8) (n : Int) (w : World) (hv : Byt w v l) (h0 : 0 ≤ n) (h1 : n < 9223372036854775808) (hs : l.length ≤ 1099511627000) :
    Calls Tryz.prog 110 #[v, .int .i64 n] w fun e w' => ∃ x, e = .returned x ∧ Own w.heap.size w' x (l ++ dg n.toNat) ∧ Below w.heap.size w w' := by
  have hw : IntKind.u64.wrap n = n := wrap_u64 _ (by omega) (by omega)
  go_enter Tryz.func110, Tryz.ntmps110
  go_wp2_with fail
  refine (num_any v l n w hv h0 (by omega) hs).mono ?_
  rintro e w1 ⟨v1, rfl, ho1, hb1⟩
  go_wp2_with fail
  go_ret
  exact ⟨_, rfl, ho1, hb1⟩
set_option maxHeartbeats 1600000 in
theorem ctWith_any (a : AtM) (s : SgM) (w : World) (ha : a.Ok) (hs : s.Ok) :
    Calls Tryz.prog 108 #[.agg (atc a), .agg (sgc s)] w fun e w' => e = .returned (.agg (atc (withC a s))) ∧ Below w.heap.size w w' := by
  obtain ⟨C, HC⟩ : ∃ C : Array Value, Hid (atc a = C) := ⟨_, hid rfl⟩
  obtain ⟨G, HG⟩ : ∃ C : Array Value, Hid (sgc s = C) := ⟨_, hid rfl⟩
  obtain ⟨D, HD⟩ : ∃ C : Array Value, Hid (atc (withC a s) = C) := ⟨_, hid rfl⟩
  obtain ⟨Z, HZ⟩ : ∃ C : Array Value, Hid (atc atZ = C) := ⟨_, hid rfl⟩
  have hal : ∀ W, allocAtt W = .ok (.value (.pointer (some ⟨W.heap.size, 0, none⟩))) (W.alloc (.cells Z 25)) := fun W => by rw [← HZ.out]; exact allocAtt_eq W
  have HZS : Hid (Z.size = 101) := hid (by rw [← HZ.out]; exact atc_size atZ_ok)
  have HDS : Hid (D.size = 101 ∧ D.all (·.oneCell') = true) := hid (by rw [← HD.out]; exact ⟨atc_size (withC_ok ha hs), atc_one _⟩)
  have hb0 : Below w.heap.size w (((w.alloc (.cells C 25)).alloc (.cells G 111)).alloc (.cells Z 25)) := (((Below.refl _ _).alloc (Nat.le_refl _) _).alloc (by simp) _).alloc (by simp; omega) _
  have hr0 : (((w.alloc (.cells C 25)).alloc (.cells G 111)).alloc (.cells Z 25)).heap[w.heap.size]? = some (.cells C 25 (0, 0)) := (Below.heap_alloc _ _ _ (by simp; omega)).trans (heap1 w _ _)
  have hr1 : (((w.alloc (.cells C 25)).alloc (.cells G 111)).alloc (.cells Z 25)).heap[w.heap.size + 1]? = some (.cells G 111 (0, 0)) := (Below.heap_alloc _ _ _ (by simp)).trans (heap2 w _ _)
  have hr2 : (((w.alloc (.cells C 25)).alloc (.cells G 111)).alloc (.cells Z 25)).heap[w.heap.size + 1 + 1]? = some (.cells Z 25 (0, 0)) := by
    have := heap2 (w.alloc (.cells C 25)) (.cells G 111) (.cells Z 25)
    rwa [show (w.alloc (.cells C 25)).heap.size = w.heap.size + 1 from by simp] at this
  obtain ⟨T, HT⟩ : ∃ C : Array Value, Hid (hcells s.tg = C) := ⟨_, hid rfl⟩
  have HSG : Hid (∀ W : World, W.heap[w.heap.size + 1]? = some (.cells G 111 (0, 0)) → W.cell? ⟨w.heap.size + 1, 0, none⟩ = some (.int .i64 s.bo) ∧ loadH (.pointer (some ⟨w.heap.size + 1, 1, none⟩)) W = .ok (.value (.agg T)) W) := hid (fun W h => by
    rw [← HG.out] at h
    have hr : W.rangeAt (w.heap.size + 1) 0 (scl s) := fun j u hu => by
      rw [Nat.zero_add, cell_blk h j]
      unfold sgc
      rw [List.getElem?_toArray]
      exact hu
    obtain ⟨h1, h2⟩ := sg_range hr
    rw [← HT.out]
    exact ⟨h1, loadH_mid h2 hs⟩)
  have HLD : Hid (∀ W : World, BoxA W w.heap.size { { a with bo := s.bo } with tg := s.tg } → loadAtt (.pointer (some ⟨w.heap.size, 0, none⟩)) W = .ok (.value (.agg D)) W) := hid (fun W h => by
    rw [← HD.out]
    exact loadAtt_eq h (withC_ok ha hs))
  have HOA : Hid ({ a with bo := s.bo } : AtM).Ok := hid ⟨ha.ha, ha.pa, ha.tg⟩
  have HS := hid hs
  rw [HD.out, HC.out, HG.out]
  go_enter Tryz.func108, Tryz.ntmps108
  go_upto_region 1 with (fail)
  generalize (((w.alloc (.cells C 25)).alloc (.cells G 111)).alloc (.cells Z 25)) = w0 at *
  have HA : Hid (BoxA w0 w.heap.size a) := hid (by unfold BoxA; rw [HC.out]; exact hr0)
  have hbd : Below w0.heap.size w0 w0.drew := (Below.refl _ _).drew
  have HB0 := hid hb0
  have HR1 := hid hr1
  have HR2 := hid hr2
  clear hr0 hr1 hr2 hb0 hal ha hs
  refine wp_region_held_drew (S := fun W => W.cell? ⟨w.heap.size + 1, 0, none⟩ = some (.int .i64 s.bo) ∧ loadH (.pointer (some ⟨w.heap.size + 1, 1, none⟩)) W = .ok (.value (.agg T)) W) (by kernel_rfl) (HSG.out _ ((hbd.block _ (lt_of_block HR1.out)).trans HR1.out)) (fun hHeld => ?_)
  refine' tk (i := 0) (v := _) rfl ?_ ?_
  rotate_left
  · (intro W hW; (try dsimp only at hW); go_simp; first | done | with_reducible rfl)
  try simp only [lay]
  refine' tk (i := 1) (v := _) rfl ?_ ?_
  rotate_left
  · (intro W hW; (try dsimp only at hW); obtain ⟨hW1, hW2⟩ := hW; go_simp; first | done | with_reducible rfl)
  try simp only [lay]
  refine' tk (i := 2) (v := _) rfl ?_ ?_
  rotate_left
  · (intro W hW; (try dsimp only at hW); go_simp; first | done | with_reducible rfl)
  try simp only [lay]
  refine' tk (i := 3) (v := _) rfl (fun W hW => hW.2) ?_
  try simp only [lay]
  refine' tk (i := 4) (v := _) rfl ?_ ?_
  rotate_left
  · (intro W hW; (try dsimp only at hW); go_simp; first | done | with_reducible rfl)
  try simp only [lay]
  have k1 := HA.out.free 0
  have k2 := HA.out.cells.1
  have hA2 : BoxA ((w0.setCell ⟨w.heap.size, 0, none⟩ (.int .i64 s.bo)).drew) w.heap.size { a with bo := s.bo } := by
    have := set_blk HA.out 0 (.int .i64 s.bo)
    rw [atc_by] at this
    exact this
  have hR12 : ((w0.setCell ⟨w.heap.size, 0, none⟩ (.int .i64 s.bo)).drew).heap[w.heap.size + 1]? = some (.cells G 111 (0, 0)) := blk_other HR1.out _ (by omega)
  have hR22 : ((w0.setCell ⟨w.heap.size, 0, none⟩ (.int .i64 s.bo)).drew).heap[w.heap.size + 1 + 1]? = some (.cells Z 25 (0, 0)) := blk_other HR2.out _ (by omega)
  have hb2 : Below w.heap.size w ((w0.setCell ⟨w.heap.size, 0, none⟩ (.int .i64 s.bo)).drew) := (HB0.out.setCell (Nat.le_refl _) _).drew
  refine call_on (i := 5) rfl (by kernel_rfl) (by rfl) (fun K hK => ?_)
  go_simp
  refine hK.out _ _ (HSG.out _ hR12) (fun hHeld => ?_)
  clear hK K
  try simp only [lay]
  clear k1 k2
  generalize ((w0.setCell ⟨w.heap.size, 0, none⟩ (.int .i64 s.bo)).drew) = w2 at *
  refine' tk (i := 6) (v := _) rfl ?_ ?_
  rotate_left
  · (intro W hW; (try dsimp only at hW); go_simp; first | done | with_reducible rfl)
  try simp only [lay]
  refine call_on (i := 7) rfl (by kernel_rfl) (by rfl) (fun K hK => ?_)
  refine wp_store_tag (h := s.tg) (a := { a with bo := s.bo }) _ _ rfl rfl (by rw [HT.out]; rfl) hA2 HOA.out HS.out ?_
  intro w3 hg3 hA3 hs3
  have hR13 := (hg3.block _ (lt_of_block hR12) (fun e => by injection e with e; omega)).trans hR12
  have hR23 := (hg3.block _ (lt_of_block hR22) (fun e => by injection e with e; omega)).trans hR22
  have hb3 : Below w.heap.size w w3 := below_into hb2 (Nat.le_refl _) hg3 hb2.size
  refine hK.out _ _ (HSG.out _ hR13) (fun hHeld => ?_)
  clear hK K
  try simp only [Act.put]
  refine wpAnyH_done (by kernel_rfl) ?_ _
  have l3 := HLD.out w3 hA3
  have hst := storeAtt_eq hR23 HZS.out HDS.out.1 HDS.out.2
  have HR23 := hid hR23
  have HB3 := hid hb3
  clear hHeld hR23 hR22 hR13 hR12 hb3 hb2
  go_wp2_with fail
  refine bodyPost_ret (results_cell_row rfl _ _ _ _ _ (0, 0) _ rfl (setAtt_same HR23.out) under_att rfl (by rw [size_att, HDS.out.1])) rfl ⟨rfl, ?_⟩
  exact setAtt_below HB3.out (by omega)
end Go.Proofs.YtjemfmbmlmogcaaGreat
namespace Go.Proofs.YtjemfmbmlmogcaaGreat
set_option maxRecDepth 20000
open Go.RowKit
attribute [local go_sem ↓] exec_load_sg exec_alloc_sg exec_store_sg
def lastO : Int → List SgM → Int
  | last, [] => last
  | _, s :: r => lastO s.bo r
theorem lastO_snoc (s : SgM) : ∀ (l : List SgM) (last : Int), lastO last (l ++ [s]) = s.bo
  | [], _ => rfl
  | x :: r, _ => lastO_snoc s r x.bo
theorem risesB_snoc (top : Int) (s : SgM) : ∀ (l : List SgM) (last : Int), risesB top last (l ++ [s]) = (risesB top last l && (decide (lastO last l < s.bo) && decide (s.bo ≤ top)))
  | [], last => by
    show ((decide (last < s.bo) && decide (s.bo ≤ top)) && true) = (true && (decide (last < s.bo) && decide (s.bo ≤ top)))
    rw [Bool.and_true, Bool.true_and]
  | x :: r, last => by
    have := risesB_snoc top s r x.bo
    simp only [List.cons_append, risesB, lastO, this, Bool.and_assoc]
    rfl
theorem risesB_pre (top : Int) (m : List SgM) : ∀ (l : List SgM) (last : Int), risesB top last (l ++ m) = true → risesB top last l = true
  | [], _, _ => rfl
  | x :: r, last, h => by
    simp only [List.cons_append, risesB, Bool.and_eq_true] at h ⊢
    exact ⟨h.1, risesB_pre top m r x.bo h.2⟩
theorem lastO_ge (top : Int) : ∀ (l : List SgM) (last : Int), risesB top last l = true → last ≤ lastO last l
  | [], _, _ => Int.le_refl _
  | x :: r, last, h => by
    simp only [risesB, Bool.and_eq_true, decide_eq_true_eq] at h
    have := lastO_ge top r x.bo h.2
    show last ≤ lastO x.bo r
    omega
theorem lastO_pos {top : Int} {l : List SgM} (h : risesB top 0 l = true) : decide (0 < lastO 0 l) = decide (0 < l.length) := by
  cases l with
  | nil => rfl
  | cons x r =>
    simp only [risesB, Bool.and_eq_true, decide_eq_true_eq] at h
    have := lastO_ge top r x.bo h.2
    have h1 : 0 < lastO 0 (x :: r) := by
      show 0 < lastO x.bo r
      omega
    rw [decide_eq_true h1]
    exact (decide_eq_true (by simp)).symm
theorem take_one (l : List SgM) (i : Nat) (h : i < l.length) : l.take (i + 1) = l.take i ++ [l[i]] := List.take_succ_eq_append_getElem h
theorem rises_more {l : List SgM} {i : Nat} (h : i < l.length) (hr : risesB 21 0 (l.take i) = true) (h1 : ¬ l[i].bo ≤ lastO 0 (l.take i)) (h2 : nodeB l[i].bo = true) : risesB 21 0 (l.take (i + 1)) = true := by
  unfold nodeB at h2
  rw [decide_eq_true_eq] at h2
  rw [take_one l i h, risesB_snoc, hr, decide_eq_true (by omega), decide_eq_true (by omega)]
  rfl
theorem rises_not {l : List SgM} {i : Nat} (h : i < l.length) (hr : risesB 21 0 (l.take i) = true) (h1 : l[i].bo ≤ lastO 0 (l.take i) ∨ nodeB l[i].bo = false) : risesB 21 0 l = false := by
  cases hq : risesB 21 0 l with
  | false => rfl
  | true =>
    exfalso
    rw [← List.take_append_drop (i + 1) l] at hq
    have := risesB_pre _ _ _ _ hq
    rw [take_one l i h, risesB_snoc] at this
    simp only [Bool.and_eq_true, decide_eq_true_eq] at this
    have h0 := lastO_ge _ _ _ hr
    rcases h1 with h1 | h1
    · omega
    · unfold nodeB at h1
      rw [decide_eq_false_iff_not] at h1
      omega
set_option maxHeartbeats 1600000 in
theorem ctRise_any (v : Value) (l : List SgM) (w0 : World) (hv : Els scl 33 w0 v l) (ho : ∀ s ∈ l, s.Ok) (hl : l.length ≤ 1000) :
    Calls Tryz.prog 109 #[v] w0 fun e w' => e = .returned (.bool (decide (0 < l.length) && risesB 21 0 l)) ∧ Below w0.heap.size w0 w' := by
  obtain ⟨A, c, rfl⟩ := hv.shape
  obtain ⟨n, HN⟩ : ∃ n : Nat, Hid (l.length = n) := ⟨_, hid rfl⟩
  rw [HN.out] at hv hl ⊢
  have HT := hid hv
  have HO := hid ho
  obtain ⟨ans, HAN⟩ : ∃ q : Bool, Hid ((decide (0 < n) && risesB 21 0 l) = q) := ⟨_, hid rfl⟩
  rw [HAN.out]
  obtain ⟨Z, HZ⟩ : ∃ C : Array Value, Hid (sgc sgZ = C) := ⟨_, hid rfl⟩
  have HZS : Hid (Z.size = 33) := hid (by rw [← HZ.out]; exact sgc_size sgZ_ok)
  have hal : ∀ W, allocSg W = .ok (.value (.pointer (some ⟨W.heap.size, 0, none⟩))) (W.alloc (.cells Z 111)) := fun W => by rw [← HZ.out]; exact allocSg_eq W
  clear hv ho
  go_enter Tryz.func109, Tryz.ntmps109
  go_wp2_with fail
  go_loopw [3, 8] (fun la si wr => ∃ i : Nat, i ≤ n ∧ si = .int .i64 i ∧ la = .int .i64 (lastO 0 (l.take i)) ∧ Hid (risesB 21 0 (l.take i) = true) ∧ Below w0.heap.size w0 wr) (fun _ si _ => n - (intOf si).toNat)
  case atStart => exact ⟨0, Nat.zero_le _, rfl, rfl, hid rfl, Below.refl _ _⟩
  case round =>
    obtain ⟨i, hi, rfl, rfl, HR, hbr⟩ := hrel
    by_cases hlt : i < n
    · have hil : i < l.length := by rw [HN.out]; exact hlt
      obtain ⟨b, o, rfl, hg, hcl⟩ := (HT.out.below hbr).at_.2.2.2 (by omega)
      have hI : (i : Int) < (n : Int) := by omega
      have hoi := HO.out _ (List.getElem_mem hil)
      have l1 : loadSg (.pointer (some ⟨b, o + i * 33, none⟩)) wr = .ok (.value (.agg (sgc l[i]))) wr := loadSg_mid (hcl i hil) hoi
      have HXS : Hid ((sgc l[i]).size = 33 ∧ (sgc l[i]).all (·.oneCell') = true) := hid ⟨sgc_size hoi, sgc_one _⟩
      have HMORE : Hid (¬ l[i].bo ≤ lastO 0 (l.take i) → nodeB l[i].bo = true → risesB 21 0 (l.take (i + 1)) = true) := hid (rises_more hil HR.out)
      have HNOT : Hid ((l[i].bo ≤ lastO 0 (l.take i) ∨ nodeB l[i].bo = false) → ans = false) := hid (fun h => by rw [← HAN.out, rises_not hil HR.out h, Bool.and_false])
      have HLAST : Hid (lastO 0 (l.take (i + 1)) = l[i].bo) := hid (by rw [take_one l i hil, lastO_snoc])
      have HC0 : Hid (∀ (W : World) (g : Nat), W.heap[g]? = some (.cells (sgc l[i]) 111 (0, 0)) → W.cell? ⟨g, 0, none⟩ = some (.int .i64 l[i].bo)) := hid (fun W g h => cell_blk h 0)
      obtain ⟨X, HX⟩ : ∃ C : Array Value, Hid (sgc l[i] = C) := ⟨_, hid rfl⟩
      obtain ⟨bo, HBO⟩ : ∃ x : Int, Hid (l[i].bo = x) := ⟨_, hid rfl⟩
      obtain ⟨la, HLA⟩ : ∃ x : Int, Hid (lastO 0 (l.take i) = x) := ⟨_, hid rfl⟩
      rw [HX.out] at l1 HXS HC0
      rw [HBO.out] at HMORE HNOT HLAST HC0
      rw [HLA.out] at HMORE HNOT ⊢
      have hst := sg_var wr HZS.out HXS.out.1 HXS.out.2
      have hal1 := hal wr
      clear hcl hoi hg
      go_upto_region 5 with (fail)
      have hr1 := heap_alloc_new wr (.cells X 111)
      have hb1 : Below w0.heap.size w0 (wr.alloc (.cells X 111)) := hbr.alloc hbr.size _
      have c0 := HC0.out _ _ hr1
      clear l1 hst hr1
      generalize (wr.alloc (.cells X 111)) = w1 at *
      by_cases h1 : bo ≤ la
      · obtain rfl : ans = false := HNOT.out (.inl h1)
        go_wp2_with fail
        go_ret
        exact ⟨rfl, hb1⟩
      · obtain ⟨nb, HNB⟩ : ∃ q : Bool, Hid (nodeB bo = q) := ⟨_, hid rfl⟩
        have HCN := hid (fun W => node_any bo W)
        rw [HNB.out] at HCN HMORE HNOT
        have HH1 := hid h1
        go_wp2_with fail
        refine (HCN.out w1).mono ?_
        rintro e w2 ⟨rfl, rfl⟩
        cases nb with
        | false =>
          obtain rfl : ans = false := HNOT.out (.inr rfl)
          go_wp2_with fail
          go_ret
          exact ⟨rfl, hb1⟩
        | true =>
          have HM2 := hid (HMORE.out HH1.out rfl)
          clear HMORE HNOT
          go_wp2_with fail
          go_roundw
          case rel => exact ⟨i + 1, by omega, by go_num, by rw [HLAST.out], hid HM2.out, hb1⟩
          case measure => simp [intOf]; omega
    · obtain rfl : i = n := by omega
      have htk : l.take i = l := List.take_of_length_le (by rw [HN.out]; exact Nat.le_refl _)
      have HANS : Hid (ans = decide (0 < lastO 0 (l.take i))) := hid (by
        have h := HR.out
        rw [htk] at h ⊢
        rw [← HAN.out, h, Bool.and_true, lastO_pos h, HN.out])
      obtain ⟨la, HLA⟩ : ∃ x : Int, Hid (lastO 0 (l.take i) = x) := ⟨_, hid rfl⟩
      rw [HLA.out] at HANS ⊢
      clear htk
      by_cases h1 : 0 < la
      · obtain rfl : ans = true := by rw [HANS.out, decide_eq_true h1]
        go_wp2_with fail
        go_ret
        exact ⟨rfl, hbr⟩
      · obtain rfl : ans = false := by rw [HANS.out, decide_eq_false h1]
        go_wp2_with fail
        go_ret
        exact ⟨rfl, hbr⟩
end Go.Proofs.YtjemfmbmlmogcaaGreat
namespace Go.Proofs.YtjemfmbmlmogcaaGreat
set_option maxRecDepth 20000
open Go.RowKit
attribute [local go_sem ↓] exec_load_att exec_load_ct exec_build_sg1 exec_load_hash exec_build_hash
set_option maxHeartbeats 1600000 in
theorem ctFits_any (v : Value) (c : CtM) (w : World) (hv : CtV w v c) (hl : c.sg.length ≤ 1000) :
    Calls Tryz.prog 90 #[v] w fun e w' => e = .returned (.bool (mayC c)) ∧ Below w.heap.size w w' := by
  obtain ⟨s, rfl, ho, ht⟩ := hv
  have hb0 : Below w.heap.size w (w.alloc (.cells (ctc c s) 28)) := (Below.refl _ _).alloc (Nat.le_refl _) _
  have hr0 := heap_alloc_new w (.cells (ctc c s) 28)
  obtain ⟨A, k, rfl⟩ := ht.shape
  have HT := hid (fun W (h : Below w.heap.size w W) => ht.below h)
  have HLL := hid hl
  have HSO := hid ho.sg
  obtain ⟨L, HL⟩ : ∃ n : Nat, Hid (c.sg.length = n) := ⟨_, hid rfl⟩
  rw [HL.out] at hr0 hb0 HT ⊢
  obtain ⟨C, HC⟩ : ∃ C : Array Value, Hid (ctc c (.slice A L k) = C) := ⟨_, hid rfl⟩
  rw [HC.out] at hr0 hb0 ⊢
  obtain ⟨ans, HAN⟩ : ∃ q : Bool, Hid (mayC c = q) := ⟨_, hid rfl⟩
  obtain ⟨n, HN⟩ : ∃ n : Int, Hid (c.att.bo = n) := ⟨_, hid rfl⟩
  obtain ⟨q1, HQ1⟩ : ∃ q : Bool, Hid (decide (c.att.tg = z32) = q) := ⟨_, hid rfl⟩
  obtain ⟨m, HM⟩ : ∃ q : Bool, Hid (mayA (withC c.att ⟨1, z32⟩) = q) := ⟨_, hid rfl⟩
  obtain ⟨r, HR⟩ : ∃ q : Bool, Hid ((decide (0 < c.sg.length) && risesB 21 0 c.sg) = q) := ⟨_, hid rfl⟩
  have HMC : Hid (ans = ((decide (n = 0) && q1) && (m && r))) := hid (by rw [← HAN.out]; unfold mayC bareC; rw [HN.out, HQ1.out, HM.out, HR.out])
  rw [HAN.out]
  have hw1 : (withC c.att ⟨1, z32⟩).Ok := withC_ok ho.att rfl
  have HWI : Hid (∀ W, Calls Tryz.prog 108 #[.agg (atc c.att), .agg (sgc ⟨1, z32⟩)] W fun e w' => e = .returned (.agg (atc (withC c.att ⟨1, z32⟩))) ∧ Below W.heap.size W w') := hid (fun W => ctWith_any c.att ⟨1, z32⟩ W ho.att rfl)
  have HMA : Hid (∀ W, Calls Tryz.prog 66 #[.agg (atc (withC c.att ⟨1, z32⟩))] W fun e w' => e = .returned (.int .i64 (if m = true then 0 else 1)) ∧ Below W.heap.size W w') := hid (fun W => by
    have := atCheck_ok _ W hw1
    rw [HM.out] at this
    exact this)
  have HRI : Hid (∀ W, Below w.heap.size w W → Calls Tryz.prog 109 #[.slice A L k] W fun e w' => e = .returned (.bool r) ∧ Below W.heap.size W w') := hid (fun W h => by
    have := ctRise_any (.slice A L k) c.sg W (HT.out W h) HSO.out HLL.out
    rw [HR.out] at this
    exact this)
  obtain ⟨G, HG⟩ : ∃ C : Array Value, Hid (atc c.att = C) := ⟨_, hid rfl⟩
  obtain ⟨S, HS⟩ : ∃ C : Array Value, Hid (sgc ⟨1, z32⟩ = C) := ⟨_, hid rfl⟩
  obtain ⟨X, HX⟩ : ∃ C : Array Value, Hid (atc (withC c.att ⟨1, z32⟩) = C) := ⟨_, hid rfl⟩
  rw [HG.out, HS.out, HX.out] at HWI
  rw [HX.out] at HMA
  obtain ⟨T, HTT⟩ : ∃ C : Array Value, Hid (hcells c.att.tg = C) := ⟨_, hid rfl⟩
  obtain ⟨O, HO⟩ : ∃ C : Array Value, Hid (hcells z32 = C) := ⟨_, hid rfl⟩
  have HLD : Hid (∀ W : World, W.heap[w.heap.size]? = some (.cells C 28 (0, 0)) → (W.cell? ⟨w.heap.size, 0, none⟩ = some (.int .i64 n) ∧ loadH (.pointer (some ⟨w.heap.size, 69, none⟩)) W = .ok (.value (.agg T)) W) ∧ loadAtt (.pointer (some ⟨w.heap.size, 0, none⟩)) W = .ok (.value (.agg G)) W ∧ W.cell? ⟨w.heap.size, 101, none⟩ = some (.slice A L k)) := hid (fun W h => by
    rw [← HC.out] at h
    have hBC : BoxC W w.heap.size c (.slice A L k) := h
    have k0 := hBC.bo
    have k1 := loadH_mid (hBC.tag ho.att) ho.att.tg
    rw [HN.out] at k0
    rw [HTT.out] at k1
    refine ⟨⟨k0, k1⟩, ?_, hBC.sigs ho.att⟩
    rw [← HG.out]
    exact loadAtt_in hBC.att ho.att)
  have heq := fun W => eq_hash c.att.tg z32 ho.att.tg rfl W
  rw [HQ1.out, HTT.out, HO.out] at heq
  have hbz : ∀ W, buildH W = .ok (.value (.agg O)) W := fun W => by rw [← HO.out, buildH_eq, fcells_nought]; rfl
  clear ho ht hw1 hl
  go_enter Tryz.func90, Tryz.ntmps90
  go_upto_region 1 with (fail)
  generalize (w.alloc (.cells C 28)) = w0 at *
  have hl0 := lt_of_block hr0
  have HF := hid (fun W (h : Below w0.heap.size w0 W) => HLD.out W ((h.block _ hl0).trans hr0))
  obtain ⟨⟨k0, k1⟩, la, c0⟩ := HF.out w0 (Below.refl _ _)
  clear hr0 hl0
  by_cases h0 : n = 0
  · subst h0
    cases q1 with
    | false =>
      obtain rfl : ans = false := by rw [HMC.out]; rfl
      clear la c0
      go_wp2_with fail
      go_ret
      exact ⟨rfl, hb0⟩
    | true =>
      have HMC2 : Hid (ans = (m && r)) := hid (by rw [HMC.out]; rfl)
      go_upto_region 3 with (fail)
      clear k0 k1 c0 heq hbz
      go_wp2_with fail
      rw [HS.out]
      refine (HWI.out w0).mono ?_
      rintro e w2 ⟨rfl, hb2⟩
      have hB2 := hb0.trans (hb2.mono hb0.size)
      clear la
      go_wp2_with fail
      refine (HMA.out w2).mono ?_
      rintro e w3 ⟨rfl, hb3'⟩
      have hb3 := hb2.trans (hb3'.mono hb2.size)
      have hB3 := hB2.trans (hb3'.mono hB2.size)
      clear hb2 hb3' hB2
      cases m with
      | false =>
        obtain rfl : ans = false := HMC2.out
        simp only [Bool.false_eq_true, if_false]
        go_wp2_with fail
        go_ret
        exact ⟨rfl, hB3⟩
      | true =>
        have c3 := (HF.out w3 hb3).2.2
        simp only [if_true]
        go_wp2_with fail
        refine (HRI.out w3 hB3).mono ?_
        rintro e w4 ⟨rfl, hb4⟩
        have hB4 := hB3.trans (hb4.mono hB3.size)
        obtain rfl : ans = r := HMC2.out
        clear c3
        go_wp2_with fail
        go_ret
        exact ⟨rfl, hB4⟩
  · have h1 : (n != 0) = true := by simpa using h0
    obtain rfl : ans = false := by rw [HMC.out, decide_eq_false h0]; rfl
    clear h0 k1 la c0 heq hbz
    go_wp2_with fail
    go_ret
    exact ⟨rfl, hb0⟩
end Go.Proofs.YtjemfmbmlmogcaaGreat
namespace Go.Proofs.YtjemfmbmlmogcaaGreat
set_option maxRecDepth 20000
open Go.RowKit
attribute [local go_sem ↓] exec_load_hash exec_load_ct exec_load_sg exec_alloc_sg exec_store_sg
set_option maxHeartbeats 12800000 in
theorem ctOwn_any (v : Value) (c : CtM) (w : World) (hv : CtV w v c) (hm : mayC c = true) :
    Calls Tryz.prog 91 #[v] w fun e w' => ∃ x, e = .returned x ∧ Own w.heap.size w' x (bytesC c) ∧ Below w.heap.size w w' := by
  obtain ⟨s, rfl, ho, ht⟩ := hv
  obtain ⟨_, hat, _, hl21, hsg⟩ := mayC_all hm
  have HAL : Hid (∀ s ∈ c.sg, s.Ok ∧ (1 : Int) ≤ s.bo ∧ s.bo ≤ 21) := hid (fun s hs => ⟨ho.sg s hs, hsg s hs⟩)
  have hb0 : Below w.heap.size w (w.alloc (.cells (ctc c s) 28)) := (Below.refl _ _).alloc (Nat.le_refl _) _
  have hr0 := heap_alloc_new w (.cells (ctc c s) 28)
  have ht0 := ht.below hb0
  obtain ⟨A, k, rfl⟩ := ht.shape
  obtain ⟨L, HL⟩ : ∃ n : Nat, Hid (c.sg.length = n) := ⟨_, hid rfl⟩
  rw [HL.out] at hr0 hb0 ht0 hl21 ⊢
  obtain ⟨C, HC⟩ : ∃ C : Array Value, Hid (ctc c (.slice A L k) = C) := ⟨_, hid rfl⟩
  obtain ⟨O, HO⟩ : ∃ O : List UInt8, Hid (bytesC c = O) := ⟨_, hid rfl⟩
  rw [HC.out] at hr0 hb0 ht0 ⊢
  rw [HO.out]
  have HL21 := hid hl21
  have HAO := hid ho.att
  obtain ⟨h3, h4, h5, h6, h7, h8, h9⟩ := hat
  obtain ⟨⟨bo, ki, vi, ph, ha, pv, pa, tg⟩, sg⟩ := c
  simp only at h3 h4 h5 h6 h7 h8 h9 HL HAL ht0 HAO
  obtain ⟨kn, rfl⟩ := nat_of (i := ki) (by omega)
  obtain ⟨vn, rfl⟩ := nat_of (i := vi) (by omega)
  obtain ⟨pn, rfl⟩ := nat_of (i := ph) (by omega)
  obtain ⟨qn, rfl⟩ := nat_of (i := pv) (by omega)
  have HLK := hid (dg_len10 (n := kn) (by omega))
  have HLV := hid (dg_len10 (n := vn) (by omega))
  have HLP := hid (dg_len10 (n := pn) (by omega))
  have HLQ := hid (dg_len10 (n := qn) (by omega))
  have HLN := hid (dg_len10 (n := L) (by omega))
  have HB : Hid (kn < 9223372036854775808 ∧ vn < 9223372036854775808 ∧ pn < 9223372036854775808 ∧ qn < 9223372036854775808) := hid (by omega)
  have hha : ha.length = 32 := HAO.out.ha
  have hpa : pa.length = 32 := HAO.out.pa
  have HHL := hid (show ha.length = 32 ∧ pa.length = 32 from ⟨hha, hpa⟩)
  have HO2 : Hid (O = dg kn ++ (dg vn ++ (dg pn ++ (ha ++ (dg qn ++ (pa ++ (dg L ++ (sg.map bytesG).flatten))))))) := hid (by rw [← HO.out]; unfold bytesC taggedA; simp only [Int.toNat_natCast, List.append_assoc, HL.out])
  have HLD : Hid (∀ W : World, W.heap[w.heap.size]? = some (.cells C 28 (0, 0)) → W.cell? ⟨w.heap.size, 1, none⟩ = some (.int .i64 (kn : Int)) ∧ W.cell? ⟨w.heap.size, 2, none⟩ = some (.int .i64 (vn : Int)) ∧ W.cell? ⟨w.heap.size, 3, none⟩ = some (.int .i64 (pn : Int)) ∧ loadH (.pointer (some ⟨w.heap.size, 4, none⟩)) W = .ok (.value (.agg (hcells ha))) W ∧ W.cell? ⟨w.heap.size, 36, none⟩ = some (.int .i64 (qn : Int)) ∧ loadH (.pointer (some ⟨w.heap.size, 37, none⟩)) W = .ok (.value (.agg (hcells pa))) W ∧ W.cell? ⟨w.heap.size, 101, none⟩ = some (.slice A L k)) := hid (fun W h => by
    rw [← HC.out] at h
    have hBC : BoxC W w.heap.size _ (.slice A L k) := h
    have hr := hBC.att
    have e : ∀ i u, (atl (⟨bo, (kn : Int), (vn : Int), (pn : Int), ha, (qn : Int), pa, tg⟩ : AtM))[i]? = some u → W.cell? ⟨w.heap.size, i, none⟩ = some u := fun i u hu => by
      have := hr i u hu
      rwa [Nat.zero_add] at this
    refine ⟨e 1 _ rfl, e 2 _ rfl, e 3 _ rfl, loadH_mid (fun j u hu => ?_) hha, ?_, loadH_mid (fun j u hu => ?_) hpa, hBC.sigs HAO.out⟩
    · refine e (4 + j) u ?_
      rw [atl_ha, List.getElem?_append_right (by simp only [List.length_cons, List.length_nil]; omega), List.getElem?_append_left (by simp only [List.length_cons, List.length_nil]; have := (List.getElem?_eq_some_iff.1 hu).1; omega)]
      simp only [List.length_cons, List.length_nil]
      rw [show 4 + j - (0 + 1 + 1 + 1 + 1) = j from by omega]
      exact hu
    · refine e 36 _ ?_
      rw [atl_pv, List.getElem?_append_right (by simp only [List.length_append, bcells_length, hha, List.length_cons, List.length_nil]; omega)]
      simp only [List.length_append, bcells_length, hha, List.length_cons, List.length_nil]
      rfl
    · refine e (37 + j) u ?_
      rw [atl_pa, List.getElem?_append_right (by simp only [List.length_append, bcells_length, hha, List.length_cons, List.length_nil]; omega), List.getElem?_append_left (by simp only [List.length_append, bcells_length, hha, List.length_cons, List.length_nil]; have := (List.getElem?_eq_some_iff.1 hu).1; simp only [bcells_length] at this; omega)]
      simp only [List.length_append, bcells_length, hha, List.length_cons, List.length_nil]
      rw [show 37 + j - (0 + 1 + 1 + 1 + 1 + (32 + (0 + 1))) = j from by omega]
      exact hu)
  obtain ⟨Z, HZ⟩ : ∃ C : Array Value, Hid (sgc sgZ = C) := ⟨_, hid rfl⟩
  have HZS : Hid (Z.size = 33) := hid (by rw [← HZ.out]; exact sgc_size sgZ_ok)
  have HALS : Hid (∀ W, allocSg W = .ok (.value (.pointer (some ⟨W.heap.size, 0, none⟩))) (W.alloc (.cells Z 111))) := hid (fun W => by rw [← HZ.out]; exact allocSg_eq W)
  clear ho ht hm hl21 hsg h3 h4 h5 h6 h7 h8 h9 hha hpa HO HC
  go_enter Tryz.func91, Tryz.ntmps91
  go_upto_region 1 with (fail)
  generalize (w.alloc (.cells C 28)) = w0 at *
  have hlr := lt_of_block hr0
  have HX := hid (fun W (h : Below w0.heap.size w0 W) => HLD.out W ((h.block _ hlr).trans hr0))
  have HTX := hid (fun W (h : Below w0.heap.size w0 W) => ht0.below h)
  have HB0 := hid hb0
  clear hr0 hlr ht0 hb0
  have d1 := (HX.out w0 (Below.refl _ _)).1
  go_wp2_with fail
  refine (ctnum_any _ [] (kn : Int) w0 (Byt.nil _) (by omega) (by have := HB.out; omega) (by decide)).mono ?_
  rintro e w1 ⟨v1, rfl, ho1, hb1⟩
  rw [Int.toNat_natCast, List.nil_append] at ho1
  have d2 := (HX.out w1 hb1).2.1
  clear d1
  go_wp2_with fail
  refine (ctnum_any _ _ (vn : Int) w1 ho1.byt (by omega) (by have := HB.out; omega) (by have := HLK.out; omega)).mono ?_
  rintro e w2 ⟨v2, rfl, ho2, hb2'⟩
  have hb2 := hb1.trans (hb2'.mono hb1.size)
  rw [Int.toNat_natCast] at ho2
  have d3 := (HX.out w2 hb2).2.2.1
  clear d2 hb2'
  go_wp2_with fail
  refine (ctnum_any _ _ (pn : Int) w2 ho2.byt (by omega) (by have := HB.out; omega) (by rw [List.length_append]; have := HLK.out; have := HLV.out; omega)).mono ?_
  rintro e w3 ⟨v3, rfl, ho3, hb3'⟩
  have hb3 := hb2.trans (hb3'.mono hb2.size)
  rw [Int.toNat_natCast] at ho3
  have d4 := (HX.out w3 hb3).2.2.2.1
  clear d3 hb3'
  go_wp2_with fail
  refine (hash_any _ _ ha w3 ho3.byt (by simp only [List.length_append]; have := HLK.out; have := HLV.out; have := HLP.out; omega) HHL.out.1).mono ?_
  rintro e w4 ⟨v4, rfl, ho4, hb4'⟩
  have hb4 := hb3.trans (hb4'.mono hb3.size)
  have d5 := (HX.out w4 hb4).2.2.2.2.1
  clear d4 hb4'
  go_wp2_with fail
  refine (ctnum_any _ _ (qn : Int) w4 ho4.byt (by omega) (by have := HB.out; omega) (by simp only [List.length_append]; have := HLK.out; have := HLV.out; have := HLP.out; have := HHL.out.1; omega)).mono ?_
  rintro e w5 ⟨v5, rfl, ho5, hb5'⟩
  have hb5 := hb4.trans (hb5'.mono hb4.size)
  rw [Int.toNat_natCast] at ho5
  have d6 := (HX.out w5 hb5).2.2.2.2.2.1
  clear d5 hb5'
  go_wp2_with fail
  refine (hash_any _ _ pa w5 ho5.byt (by simp only [List.length_append]; have := HLK.out; have := HLV.out; have := HLP.out; have := HLQ.out; have := HHL.out.1; omega) HHL.out.2).mono ?_
  rintro e w6 ⟨v6, rfl, ho6, hb6'⟩
  have hb6 := hb5.trans (hb6'.mono hb5.size)
  have d7 := (HX.out w6 hb6).2.2.2.2.2.2
  clear d6 hb6'
  go_wp2_with fail
  refine (ctnum_any _ _ (L : Int) w6 ho6.byt (by omega) (by have := HL21.out; omega) (by simp only [List.length_append]; have := HLK.out; have := HLV.out; have := HLP.out; have := HLQ.out; have := HHL.out.1; have := HHL.out.2; omega)).mono ?_
  rintro e w7 ⟨v7, rfl, ho7, hb7'⟩
  have hb7 := hb6.trans (hb7'.mono hb6.size)
  rw [Int.toNat_natCast] at ho7
  have d8 := (HX.out w7 hb7).2.2.2.2.2.2
  have HZB := hid hb6.size
  clear d7 hb7' ho1 ho2 ho3 ho4 ho5 ho6 hb1 hb2 hb3 hb4 hb5 hb6
  obtain ⟨P, HP⟩ : ∃ P : List UInt8, Hid (dg kn ++ dg vn ++ dg pn ++ ha ++ dg qn ++ pa ++ dg L = P) := ⟨_, hid rfl⟩
  have HPL : Hid (P.length ≤ 150) := hid (by rw [← HP.out]; simp only [List.length_append]; have := HLK.out; have := HLV.out; have := HLP.out; have := HLQ.out; have := HLN.out; have := HHL.out.1; have := HHL.out.2; omega)
  rw [HP.out] at ho7
  have ho7' := ho7.more HZB.out
  clear ho7
  go_wp2_with fail
  clear d8
  go_loopw [3, 43] (fun out si wr => ∃ i : Nat, i ≤ L ∧ si = .int .i64 i ∧ Own w0.heap.size wr out (P ++ ((sg.take i).map bytesG).flatten) ∧ Below w0.heap.size w0 wr) (fun _ si _ => L - (intOf si).toNat)
  case atStart => exact ⟨0, Nat.zero_le _, rfl, by rw [List.take_zero, List.map_nil, List.flatten_nil, List.append_nil]; exact ho7', hb7⟩
  case round =>
    obtain ⟨i, hi, rfl, hown, hB⟩ := hrel
    clear ho7' hb7
    by_cases hlt : i < L
    · have hil : i < sg.length := by rw [HL.out]; exact hlt
      obtain ⟨g, o, rfl, hg, hcl⟩ := (HTX.out wr hB).at_.2.2.2 (by omega)
      have hsi := HAL.out _ (List.getElem_mem hil)
      have HNEW := hid (flatG_snoc sg i hil)
      have HFL : Hid (((sg.take i).map bytesG).flatten.length ≤ 693) := hid (by
        have := flatG_len (sg.take i) (fun s hs => HAL.out s (List.mem_of_mem_take hs))
        rw [List.length_take] at this
        have := HL21.out
        omega)
      have l1 : loadSg (.pointer (some ⟨g, o + i * 33, none⟩)) wr = .ok (.value (.agg (sgc sg[i]))) wr := loadSg_mid (hcl i hil) hsi.1
      have HXS : Hid ((sgc sg[i]).size = 33 ∧ (sgc sg[i]).all (·.oneCell') = true) := hid ⟨sgc_size hsi.1, sgc_one _⟩
      have HC0 : Hid (∀ (W : World) (g : Nat), W.heap[g]? = some (.cells (sgc sg[i]) 111 (0, 0)) → W.cell? ⟨g, 0, none⟩ = some (.int .i64 sg[i].bo) ∧ loadH (.pointer (some ⟨g, 1, none⟩)) W = .ok (.value (.agg (hcells sg[i].tg))) W) := hid (fun W g h => by
        have hr : W.rangeAt g 0 (scl sg[i]) := fun j u hu => by
          rw [Nat.zero_add, cell_blk h j]
          unfold sgc
          rw [List.getElem?_toArray]
          exact hu
        obtain ⟨h1, h2⟩ := sg_range hr
        exact ⟨h1, loadH_mid h2 hsi.1⟩)
      obtain ⟨X, HX2⟩ : ∃ C : Array Value, Hid (sgc sg[i] = C) := ⟨_, hid rfl⟩
      rw [HX2.out] at l1 HXS HC0
      obtain ⟨⟨b, t⟩, HSI⟩ : ∃ s, Hid (sg[i] = s) := ⟨_, hid rfl⟩
      rw [HSI.out] at hsi HNEW HC0
      obtain ⟨hs1, hs2, hs3⟩ := hsi
      simp only at hs2 hs3
      have HG32 : Hid (t.length = 32) := hid hs1
      obtain ⟨n, rfl⟩ := nat_of (i := b) (by omega)
      have HN21 : Hid (n ≤ 21) := hid (by omega)
      have HNL := hid (dg_len10 (n := n) (by omega))
      have HBG : Hid (bytesG ⟨(n : Int), t⟩ = dg n ++ t) := hid (by unfold bytesG; rw [Int.toNat_natCast])
      obtain ⟨TC, HTC⟩ : ∃ C : Array Value, Hid (hcells t = C) := ⟨_, hid rfl⟩
      simp only at HC0
      rw [HTC.out] at HC0
      obtain ⟨Q, HQ⟩ : ∃ Q : List UInt8, Hid (P ++ ((sg.take i).map bytesG).flatten = Q) := ⟨_, hid rfl⟩
      have HQL : Hid (Q.length ≤ 1000) := hid (by rw [← HQ.out, List.length_append]; have := HPL.out; have := HFL.out; omega)
      rw [HQ.out] at hown
      have hI : (i : Int) < (L : Int) := by omega
      have hst := sg_var wr HZS.out HXS.out.1 HXS.out.2
      have hal1 := HALS.out wr
      clear hcl hs1 hs2 hs3 hg
      go_upto_region 11 with (fail)
      have hr1 := heap_alloc_new wr (.cells X 111)
      have hb1 : Below w0.heap.size w0 (wr.alloc (.cells X 111)) := hB.alloc hB.size _
      have how1 := hown.below ((Below.refl wr.heap.size wr).alloc (Nat.le_refl _) (.cells X 111))
      obtain ⟨vb, HVB⟩ : ∃ k : Nat, Hid (wr.heap.size = k) := ⟨_, hid rfl⟩
      rw [HVB.out] at hr1 ⊢
      clear l1 hst hal1 hown
      generalize (wr.alloc (.cells X 111)) = w1 at *
      have HX1 : Hid (∀ W, Below w1.heap.size w1 W → W.cell? ⟨vb, 0, none⟩ = some (.int .i64 (n : Int)) ∧ loadH (.pointer (some ⟨vb, 1, none⟩)) W = .ok (.value (.agg TC)) W) := hid (fun W h => HC0.out W vb ((h.block _ (lt_of_block hr1)).trans hr1))
      have hbd : Below w1.heap.size w1 w1.drew := (Below.refl _ _).drew
      have hown := how1.below hbd
      obtain ⟨QA, QC, rfl⟩ := hown.byt.shape
      refine wp_region_held_drew (S := fun W => W.cell? ⟨vb, 0, none⟩ = some (.int .i64 (n : Int)) ∧ loadH (.pointer (some ⟨vb, 1, none⟩)) W = .ok (.value (.agg TC)) W) (by kernel_rfl) (HX1.out _ hbd) (fun hHeld => ?_)
      refine' tk (i := 0) (v := _) rfl ?_ ?_
      rotate_left
      · (intro W hW; (try dsimp only at hW); go_simp; first | done | with_reducible rfl)
      try simp only [lay]
      refine' tk (i := 1) (v := _) rfl ?_ ?_
      rotate_left
      · (intro W hW; (try dsimp only at hW); go_simp; first | done | with_reducible rfl)
      try simp only [lay]
      refine' tk (i := 2) (v := _) rfl ?_ ?_
      rotate_left
      · (intro W hW; (try dsimp only at hW); obtain ⟨hW1, hW2⟩ := hW; go_simp; first | done | with_reducible rfl)
      try simp only [lay]
      refine' tk (i := 4) (v := _) rfl ?_ ?_
      rotate_left
      · (intro W hW; (try dsimp only at hW); go_simp; first | done | with_reducible rfl)
      try simp only [lay]
      refine' tk (i := 5) (v := _) rfl (fun W hW => hW.2) ?_
      try simp only [lay]
      refine call_on (i := 3) rfl (by kernel_rfl) (by rfl) (fun K hK => ?_)
      go_simp
      refine (ctnum_any _ Q (n : Int) w1.drew hown.byt (by omega) (by have := HN21.out; omega) (by have := HQL.out; omega)).mono ?_
      rintro e w2 ⟨v2, rfl, ho2, hb2'⟩
      have hb2 := hbd.trans hb2'
      rw [Int.toNat_natCast] at ho2
      obtain ⟨A2, n2, c2, rfl⟩ : ∃ A n c, v2 = .slice A n c := (by obtain ⟨A, c, e⟩ := ho2.byt.shape; exact ⟨_, _, _, e⟩)
      refine hK.out _ _ (HX1.out _ hb2) (fun hHeld => ?_)
      clear hK K
      try simp only [lay]
      refine call_on (i := 6) rfl (by kernel_rfl) (by rfl) (fun K hK => ?_)
      go_simp
      rw [← HTC.out]
      refine (hash_any (.slice A2 n2 c2) (Q ++ dg n) t w2 ho2.byt (by rw [List.length_append]; have := HQL.out; have := HNL.out; omega) HG32.out).mono ?_
      rintro e w3 ⟨v3, rfl, ho3, hb3'⟩
      have hb3 := hb2.trans (hb3'.mono hb2.size)
      obtain ⟨A3, n3, c3, rfl⟩ : ∃ A n c, v3 = .slice A n c := (by obtain ⟨A, c, e⟩ := ho3.byt.shape; exact ⟨_, _, _, e⟩)
      refine hK.out _ _ (HX1.out _ hb3) (fun hHeld => ?_)
      clear hK K
      try simp only [lay]
      refine' tk (i := 7) (v := _) rfl ?_ ?_
      rotate_left
      · (intro W hW; (try dsimp only at hW); go_simp; first | done | with_reducible rfl)
      try simp only [lay]
      refine wpAnyH_done (by kernel_rfl) ?_ _
      have HB3 := hid (hb1.trans (hb3.mono hb1.size))
      have HO3 : Hid (Own w0.heap.size w3 (.slice A3 n3 c3) (P ++ ((sg.take (i + 1)).map bytesG).flatten)) := hid (by
        rw [HNEW.out, HBG.out, ← List.append_assoc, HQ.out, ← List.append_assoc]
        exact ho3.more (by have := hb1.size; have := hb2.size; omega))
      have HLT : Hid (i < L) := hid hlt
      have HWI : Hid (wrap64 ((i : Int) + 1) = ((i + 1 : Nat) : Int)) := hid (by have h1 := HLT.out; have h2 := HL21.out; unfold wrap64; omega)
      clear hHeld ho3 ho2 hb2 hb2' hb3 hb3' hbd hown how1 hr1 hb1
      go_wp2_with fail
      go_roundw
      case rel => exact ⟨i + 1, by have := HLT.out; omega, by rw [HWI.out], HO3.out, HB3.out⟩
      case measure =>
        have h1 := HLT.out
        have hw := HWI.out
        simp only [hw]; simp [intOf]; omega
    · obtain rfl : i = L := by omega
      have htk : sg.take i = sg := List.take_of_length_le (by rw [HL.out]; exact Nat.le_refl _)
      rw [htk, ← HP.out] at hown
      simp only [List.append_assoc] at hown
      rw [← HO2.out] at hown
      clear htk
      go_wp2_with fail
      go_ret
      exact ⟨_, rfl, hown.more HB0.out.size, HB0.out.trans (hB.mono HB0.out.size)⟩
set_option maxHeartbeats 1600000 in
theorem ctPut_ok : CtPutOk := by
  intro v u l c w hv hl hu hlc
  have HU := hid (fun W (h : Below w.heap.size w W) => hu.below h)
  have HLC := hid hlc
  obtain ⟨m, HM⟩ : ∃ m : Bool, Hid (mayC c = m) := ⟨_, hid rfl⟩
  have HPT : Hid (putC l c = if m = true then l ++ bytesC c else l) := hid (by unfold putC; rw [HM.out])
  obtain ⟨s, rfl, ho, ht⟩ := hu
  have hb0 : Below w.heap.size w (w.alloc (.cells (ctc c s) 28)) := (Below.refl _ _).alloc (Nat.le_refl _) _
  have hr0 := heap_alloc_new w (.cells (ctc c s) 28)
  have HCS := hid (ctc_size s ho.att)
  have HLEN : Hid (m = true → (bytesC c).length ≤ 1000) := hid (fun h => bytesC_len ho (HM.out.trans h))
  obtain ⟨C, HC⟩ : ∃ C : Array Value, Hid (ctc c s = C) := ⟨_, hid rfl⟩
  rw [HC.out] at hb0 hr0 HU HCS ⊢
  obtain ⟨O, HO⟩ : ∃ O : List UInt8, Hid (bytesC c = O) := ⟨_, hid rfl⟩
  rw [HO.out] at HPT HLEN
  have HFI : Hid (∀ W, Below w.heap.size w W → Calls Tryz.prog 90 #[.agg C] W fun e w' => e = .returned (.bool m) ∧ Below W.heap.size W w') := hid (fun W h => by
    have := ctFits_any _ c W (HU.out W h) HLC.out
    rw [HM.out] at this
    exact this)
  have HOW : Hid (m = true → ∀ W, Below w.heap.size w W → Calls Tryz.prog 91 #[.agg C] W fun e w' => ∃ x, e = .returned x ∧ Own W.heap.size w' x O ∧ Below W.heap.size W w') := hid (fun hm W h => by
    have := ctOwn_any _ c W (HU.out W h) (HM.out.trans hm)
    rw [HO.out] at this
    exact this)
  have HV := hid (fun W (h : Below w.heap.size w W) => hv.below h)
  obtain ⟨A, k, rfl⟩ := hv.shape
  have HL0 := hid hl
  clear ho ht hl hlc hv HC HO
  go_enter Tryz.func56, Tryz.ntmps56
  go_upto_region 1 with (fail)
  generalize (w.alloc (.cells C 28)) = w0 at *
  have l0 := loadCt_row hr0 HCS.out
  have HR0 := hid hr0
  have HB0 := hid hb0
  clear hr0 hb0
  go_wp2_with fail
  refine (HFI.out w0 HB0.out).mono ?_
  rintro e w1 ⟨rfl, hb1⟩
  have HB1 := hid (HB0.out.trans (hb1.mono HB0.out.size))
  have hr1 := (hb1.block _ (lt_of_block HR0.out)).trans HR0.out
  have hv1 := HV.out w1 HB1.out
  clear l0 hb1
  cases m with
  | false =>
    simp only [Bool.false_eq_true, if_false] at HPT
    clear hr1 HOW HLEN
    go_wp2_with fail
    refine (concat1 _ l w1.heap.size _ (w1.alloc (.cells #[.slice A l.length k] 41)) (by simp) (by simp) (hv1.alloc _) (by have := HL0.out; omega)).mono ?_
    rintro e w2 ⟨x, rfl, ho2, hb2⟩
    go_wp2_with fail
    go_ret
    refine ⟨x, rfl, by rw [HPT.out]; exact ho2.byt, ?_⟩
    exact (HB1.out.alloc HB1.out.size _).trans (hb2.mono (by have := HB1.out.size; simp; omega))
  | true =>
    have HOW2 := hid (HOW.out rfl w1 HB1.out)
    have HLEN3 := hid (HLEN.out rfl)
    simp only [if_true] at HPT
    have l1 := loadCt_row hr1 HCS.out
    clear HOW HLEN
    go_wp2_with fail
    refine HOW2.out.mono ?_
    rintro e w2 ⟨x2, rfl, ho2, hb2⟩
    have HB2 := hid (HB1.out.trans (hb2.mono HB1.out.size))
    have hv2 := HV.out w2 HB2.out
    have hy2 := ho2.byt
    obtain ⟨A2, c2, rfl⟩ := hy2.shape
    clear l1 hr1 hv1 hb2
    go_wp2_with fail
    refine (concat2 _ _ l O w2.heap.size _ (w2.alloc (.cells #[.slice A l.length k, .slice A2 O.length c2] 41)) (by simp) (by simp) (by simp) (hv2.alloc _) (hy2.alloc _) (by have := HL0.out; have := HLEN3.out; omega)).mono ?_
    rintro e w3 ⟨x, rfl, ho3, hb3⟩
    go_wp2_with fail
    go_ret
    refine ⟨x, rfl, by rw [HPT.out]; exact ho3.byt, ?_⟩
    exact (HB2.out.alloc HB2.out.size _).trans (hb3.mono (by have := HB2.out.size; simp; omega))
end Go.Proofs.YtjemfmbmlmogcaaGreat
