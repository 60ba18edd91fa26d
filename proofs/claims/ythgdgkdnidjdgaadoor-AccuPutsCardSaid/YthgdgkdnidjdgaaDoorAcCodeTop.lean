/-
  accu.froms, accu.highest: who attests; the first attestation of the greatest prepared view, of some. What they are as plain functions.
-/
import Derived.Test.YthgdgkdnidjdgaaDoorAcOk
import Derived.Test.YthgdgkdnidjdgaaDoorAcMk
import Derived.Test.YthgdgkdnidjdgaaDoorBs10
import Derived.Test.YthgdgkdnidjdgaaDoorBs6
import Derived.LoopTactic
import Derived.Outline
import Derived.Deep.QuietTactic
import Derived.BigQuiet
import Derived.Deep.DeepCutAuto
namespace Go.Proofs.YthgdgkdnidjdgaaDoor
set_option maxRecDepth 20000
open Go.RowKit
attribute [local go_sem ↓] exec_load_att exec_alloc_att exec_store_att

/-- The attestations of the first ones, by their By. -/
def firstA (l : List AtM) (q : Nat) : Nat → List AtM
  | 0 => []
  | k + 1 => if (firstA l q k).length < q then match l.find? (fun a => decide (a.bo = ((k + 1 : Nat) : Int))) with
    | some a => firstA l q k ++ [a]
    | none => firstA l q k
    else firstA l q k
def topF (t a : AtM) : AtM := if t.pv < a.pv then a else t
def topA (l : List AtM) : AtM := match l with
  | [] => atZ
  | a :: r => (a :: r).foldl topF a
theorem topA_snoc {l : List AtM} (h : l ≠ []) (a : AtM) : topA (l ++ [a]) = topF (topA l) a := by
  cases l with
  | nil => exact absurd rfl h
  | cons x r =>
    show ((x :: r) ++ [a]).foldl topF x = topF ((x :: r).foldl topF x) a
    rw [List.foldl_append]
    rfl
theorem topF_self (a : AtM) : topF a a = a := by
  unfold topF
  split <;> rfl
theorem firstA_frX (l : List AtM) (q : Nat) : ∀ k, (frX l q k).1 = (firstA l q k).map (·.bo) ∧ (firstA l q k ≠ [] → (frX l q k).2 = ((topA (firstA l q k)).pv, (topA (firstA l q k)).pa)) ∧ (∀ a ∈ firstA l q k, a ∈ l)
  | 0 => ⟨rfl, fun h => absurd rfl h, fun a h => by cases h⟩
  | k + 1 => by
    obtain ⟨h1, h2, h3⟩ := firstA_frX l q k
    have hlen : (frX l q k).1.length = (firstA l q k).length := by rw [h1, List.length_map]
    unfold frX firstA
    rw [hlen]
    by_cases hq : (firstA l q k).length < q
    · rw [if_pos hq, if_pos hq]
      cases hf : l.find? (fun a => decide (a.bo = ((k + 1 : Nat) : Int))) with
      | none => exact ⟨h1, h2, h3⟩
      | some a =>
        have hm := List.mem_of_find?_eq_some hf
        have hb : a.bo = ((k + 1 : Nat) : Int) := by have := List.find?_some hf; exact of_decide_eq_true this
        have h3' : ∀ x ∈ firstA l q k ++ [a], x ∈ l := fun x hx => by
          rcases List.mem_append.1 hx with hx | hx
          · exact h3 x hx
          · obtain rfl := List.mem_singleton.1 hx
            exact hm
        have hmap : (frX l q k).1 ++ [((k + 1 : Nat) : Int)] = (firstA l q k ++ [a]).map (·.bo) := by
          rw [List.map_append, h1, List.map_cons, List.map_nil, hb]
        simp only
        by_cases hn : firstA l q k = []
        · have hn' : (frX l q k).1 = [] := by rw [h1, hn]; rfl
          rw [if_pos (.inl hn')]
          refine ⟨hmap, fun _ => ?_, h3'⟩
          rw [hn]
          show (a.pv, a.pa) = ((topF a a).pv, (topF a a).pa)
          rw [topF_self]
        · have hn' : ¬ (frX l q k).1 = [] := by
            rw [h1]
            intro e
            exact hn (List.map_eq_nil_iff.1 e)
          have e2 := h2 hn
          have e3 : (frX l q k).2.1 = (topA (firstA l q k)).pv := by rw [e2]
          rw [e3]
          by_cases hp : (topA (firstA l q k)).pv < a.pv
          · rw [if_pos (.inr hp)]
            refine ⟨hmap, fun _ => ?_, h3'⟩
            rw [topA_snoc hn]
            unfold topF
            rw [if_pos hp]
          · rw [if_neg (by rintro (h | h); exact hn' h; exact hp h)]
            refine ⟨hmap, fun _ => ?_, h3'⟩
            rw [topA_snoc hn]
            unfold topF
            rw [if_neg hp]
            exact e2
    · rw [if_neg hq, if_neg hq]
      exact ⟨h1, h2, h3⟩
theorem firstA_len (l : List AtM) (q k : Nat) : (firstA l q k).length ≤ q := by
  have h := frX_len l q k
  rw [(firstA_frX l q k).1, List.length_map] at h
  exact h
theorem topA_mem : ∀ {l : List AtM}, l ≠ [] → topA l ∈ l := by
  have H : ∀ (l : List AtM) (t : AtM), l.foldl topF t = t ∨ l.foldl topF t ∈ l := by
    intro l
    induction l with
    | nil => exact fun t => .inl rfl
    | cons a r ih =>
      intro t
      rw [List.foldl_cons]
      rcases ih (topF t a) with h | h
      · rw [h]
        unfold topF
        split
        · exact .inr (by simp)
        · exact .inl rfl
      · exact .inr (List.mem_cons_of_mem _ h)
  intro l h
  cases l with
  | nil => exact absurd rfl h
  | cons a r =>
    rcases H (a :: r) a with e | e
    · show (a :: r).foldl topF a ∈ a :: r
      rw [e]
      simp
    · exact e
theorem firstA_full {l : List AtM} {q k : Nat} (h : ¬ (firstA l q k).length < q) : ∀ m, k ≤ m → firstA l q m = firstA l q k := by
  intro m hm
  induction m with
  | zero => rw [show k = 0 from by omega]
  | succ m ih =>
    by_cases e : k = m + 1
    · rw [e]
    · have := ih (by omega)
      rw [← this] at h ⊢
      conv => lhs; unfold firstA
      rw [if_neg h]
theorem firstA_found {l : List AtM} {q k i : Nat} (h : (firstA l q k).length < q) (hi : i < l.length) (hb : l[i].bo = ((k + 1 : Nat) : Int)) (hn : ∀ j (hj : j < l.length), j < i → l[j].bo ≠ ((k + 1 : Nat) : Int)) :
    firstA l q (k + 1) = firstA l q k ++ [l[i]] := by
  have hf : l.find? (fun a => decide (a.bo = ((k + 1 : Nat) : Int))) = some l[i] := by
    rw [List.find?_eq_some_iff_getElem]
    exact ⟨decide_eq_true hb, i, hi, rfl, fun j hj => by simpa using hn j (by omega) hj⟩
  conv => lhs; unfold firstA
  rw [if_pos h, hf]
theorem firstA_lack {l : List AtM} {q k : Nat} (hn : ∀ j (hj : j < l.length), l[j].bo ≠ ((k + 1 : Nat) : Int)) : firstA l q (k + 1) = firstA l q k := by
  have hf : l.find? (fun a => decide (a.bo = ((k + 1 : Nat) : Int))) = none := by
    rw [List.find?_eq_none]
    intro a ha
    obtain ⟨j, hj, rfl⟩ := List.getElem_of_mem ha
    simpa using hn j hj
  conv => lhs; unfold firstA
  rw [hf]
  simp
theorem firstA_cap {l : List AtM} {q N : Nat} (h : ∀ a ∈ l, a.bo ≤ (N : Int)) : ∀ m, N ≤ m → firstA l q m = firstA l q N := by
  intro m hm
  induction m with
  | zero => rw [show N = 0 from by omega]
  | succ m ih =>
    by_cases e : N = m + 1
    · rw [e]
    · rw [firstA_lack (fun j hj => by have := h _ (List.getElem_mem hj); omega)]
      exact ih (by omega)

set_option maxHeartbeats 1600000 in
theorem acFroms_any (v : Value) (l : List AtM) (w0 : World) (hv : Els atl 101 w0 v l) (ho : ∀ a ∈ l, a.Ok) (hl : l.length ≤ 1000) :
    Calls Tryd.prog 27 #[v] w0 fun e w' => ∃ x, e = .returned x ∧ OwnE icl 1 3 w0.heap.size w' x (l.map (·.bo)) ∧ Below w0.heap.size w0 w' := by
  obtain ⟨A, c, rfl⟩ := hv.shape
  obtain ⟨L, HL⟩ : ∃ n : Nat, Hid (l.length = n) := ⟨_, hid rfl⟩
  rw [HL.out] at hv hl ⊢
  have HT := hid (fun W (h : Below w0.heap.size w0 W) => hv.below h)
  have HO := hid ho
  have HLEN := hid hl
  obtain ⟨Z, HZ⟩ : ∃ C : Array Value, Hid (atc atZ = C) := ⟨_, hid rfl⟩
  have HZS : Hid (Z.size = 101) := hid (by rw [← HZ.out]; exact atc_size atZ_ok)
  have hal : ∀ W, allocAtt W = .ok (.value (.pointer (some ⟨W.heap.size, 0, none⟩))) (W.alloc (.cells Z 36)) := fun W => by rw [← HZ.out]; exact allocAtt_eq W
  clear hv ho hl
  go_enter Tryd.func27, Tryd.ntmps27
  go_wp2_with fail
  go_loopw [3, 8] (fun out si wr => ∃ i : Nat, i ≤ L ∧ si = .int .i64 i ∧ OwnE icl 1 3 w0.heap.size wr out ((l.take i).map (·.bo)) ∧ Below w0.heap.size w0 wr) (fun _ si _ => L - (intOf si).toNat)
  case atStart => exact ⟨0, Nat.zero_le _, rfl, OwnE.nil _ _, Below.refl _ _⟩
  case round =>
    obtain ⟨i, hi, rfl, how, hbr⟩ := hrel
    by_cases hlt : i < L
    · have hil : i < l.length := by rw [HL.out]; exact hlt
      obtain ⟨g, o, rfl, _, hcl⟩ := (HT.out wr hbr).at_.2.2.2 (by omega)
      have hI : (i : Int) < (L : Int) := by omega
      have hoi := HO.out _ (List.getElem_mem hil)
      have l1 : loadAtt (.pointer (some ⟨g, o + i * 101, none⟩)) wr = .ok (.value (.agg (atc l[i]))) wr := loadAtt_in (hcl i hil) hoi
      have HXS : Hid ((atc l[i]).size = 101 ∧ (atc l[i]).all (·.oneCell') = true) := hid ⟨atc_size hoi, atc_one _⟩
      have HC0 : Hid (∀ (W : World) (g : Nat), W.heap[g]? = some (.cells (atc l[i]) 36 (0, 0)) → W.cell? ⟨g, 0, none⟩ = some (.int .i64 l[i].bo)) := hid (fun W g h => cell_blk h 0)
      have HNEW : Hid ((l.take (i + 1)).map (·.bo) = (l.take i).map (·.bo) ++ [l[i].bo]) := hid (by rw [List.take_succ_eq_append_getElem hil, List.map_append]; rfl)
      have HPL : Hid (((l.take i).map (·.bo)).length ≤ 1000) := hid (by rw [List.length_map, List.length_take]; have := HLEN.out; omega)
      obtain ⟨P, HP⟩ : ∃ P : List Int, Hid ((l.take i).map (·.bo) = P) := ⟨_, hid rfl⟩
      obtain ⟨X, HX⟩ : ∃ C : Array Value, Hid (atc l[i] = C) := ⟨_, hid rfl⟩
      obtain ⟨bo, HBO⟩ : ∃ x : Int, Hid (l[i].bo = x) := ⟨_, hid rfl⟩
      rw [HX.out] at l1 HXS HC0
      rw [HBO.out] at HC0 HNEW
      rw [HP.out] at how HNEW HPL
      have hst := att_var wr HZS.out HXS.out.1 HXS.out.2
      have hal1 := hal wr
      clear hcl hoi
      go_upto_region 5 with (fail)
      have hr1 := heap_alloc_new wr (.cells X 36)
      have hb1 : Below w0.heap.size w0 (wr.alloc (.cells X 36)) := hbr.alloc hbr.size _
      have c0 := HC0.out _ _ hr1
      have how1 := how.alloc (.cells X 36)
      clear l1 hst hr1 hal1 how
      generalize (wr.alloc (.cells X 36)) = w1 at *
      have HOW := hid how1
      have HB1 := hid hb1
      have hsz := hb1.size
      have HLT := hid hlt
      clear how1
      go_wp2_with (at_builtin; go_loud (refine eltIc.wpList_append (x := .slice (some ⟨w1.heap.size, 0, none⟩) 1 1) (m := [bo]) rfl (.tmp 12) (.tmp 15) rfl rfl rfl (fun _ _ => trivial) (HOW.out.alloc (.cells #[.int .i64 bo] 3)) (els_one w1 bo #[.int .i64 bo] 3 rfl) (by have := HPL.out; simp only [List.length_cons, List.length_nil]; omega) (by simp; omega) ?_; intro v4 w4 ho4 hg4 hv4))
      have ho4' : OwnE icl 1 3 w0.heap.size w4 v4 ((l.take (i + 1)).map (·.bo)) := by rw [HNEW.out]; exact ho4
      have hb4 : Below w0.heap.size w0 w4 := (HB1.out.alloc HB1.out.size _).grown hg4 (by have := HB1.out.size; simp; omega) (fun j hj => (World.ownsRow.lt (HOW.out.alloc (.cells #[.int .i64 bo] 3)) j hj).1)
      clear ho4 hg4 hv4
      have HWI : Hid (wrap64 ((i : Int) + 1) = ((i + 1 : Nat) : Int)) := hid (by have h1 := HLT.out; have h2 := HLEN.out; unfold wrap64; omega)
      go_roundw
      case rel => exact ⟨i + 1, by have := HLT.out; omega, by rw [HWI.out], ho4', hb4⟩
      case measure =>
        have h1 := HLT.out
        have hw := HWI.out
        simp only [hw]; simp [intOf]; omega
    · obtain rfl : i = L := by omega
      have htk : l.take i = l := List.take_of_length_le (by rw [HL.out]; exact Nat.le_refl _)
      rw [htk] at how
      clear htk
      go_wp2_with fail
      go_ret
      exact ⟨_, rfl, how, hbr⟩

/-- Block B: the result yet nought; block B + 1: the top yet. -/
structure HiSt (w0 w : World) (Z T : Array Value) : Prop where
  bel : Below w0.heap.size w0 w
  b0 : w.heap[w0.heap.size]? = some (.cells Z 36 (0, 0))
  b1 : w.heap[w0.heap.size + 1]? = some (.cells T 36 (0, 0))
section
variable {w0 w w' : World} {Z T : Array Value}
theorem HiSt.alloc (h : HiSt w0 w Z T) (o : Obj) : HiSt w0 (w.alloc o) Z T :=
  ⟨h.bel.alloc h.bel.size _, (Below.heap_alloc _ _ _ (lt_of_block h.b0)).trans h.b0, (Below.heap_alloc _ _ _ (lt_of_block h.b1)).trans h.b1⟩
theorem HiSt.set (h : HiSt w0 w Z T) (X : Array Value) : HiSt w0 (setAtt w (w0.heap.size + 1) X) Z X :=
  ⟨setAtt_below h.bel (by omega), (setAtt_other w X (by omega)).trans h.b0, setAtt_same h.b1⟩
end

set_option maxHeartbeats 3200000 in
theorem acHighest_any (v : Value) (l : List AtM) (w : World) (hv : Els atl 101 w v l) (ho : ∀ a ∈ l, a.Ok) (hp : 0 < l.length) (hl : l.length ≤ 1000) :
    Calls Tryd.prog 26 #[v] w fun e w' => e = .returned (.agg (atc (topA l))) ∧ Below w.heap.size w w' := by
  obtain ⟨A, c, rfl⟩ := hv.shape
  obtain ⟨L, HL⟩ : ∃ n : Nat, Hid (l.length = n) := ⟨_, hid rfl⟩
  have HLP := hid hp
  rw [HL.out] at hv hl hp ⊢
  have HO := hid ho
  have HLEN := hid hl
  obtain ⟨g, og, rfl, hg, hcl⟩ := hv.at_.2.2.2 HLP.out
  have HE : Hid (∀ j (h : j < l.length) W, Below w.heap.size w W → loadAtt (.pointer (some ⟨g, og + j * 101, none⟩)) W = .ok (.value (.agg (atc l[j]))) W) := hid (fun j h W hb => loadAtt_in (range_kept (hcl j h) (hb.block g hg)) (HO.out _ (List.getElem_mem h)))
  obtain ⟨a0, HA0⟩ : ∃ a : AtM, Hid (l[0]'HLP.out = a) := ⟨_, hid rfl⟩
  have HO0 : Hid a0.Ok := hid (by rw [← HA0.out]; exact HO.out _ (List.getElem_mem _))
  have HTO : Hid (topA l = l.foldl topF a0) := hid (by
    have := HA0.out
    have hp := HLP.out
    cases hl : l with
    | nil => rw [hl] at hp; simp at hp
    | cons a r =>
      subst hl
      simp only [List.getElem_cons_zero] at this
      subst this
      rfl)
  obtain ⟨X0, HX0⟩ : ∃ C : Array Value, Hid (atc a0 = C) := ⟨_, hid rfl⟩
  have hE0 : loadAtt (.pointer (some ⟨g, og, none⟩)) (w.alloc (.cells (atc atZ) 36)) = .ok (.value (.agg X0)) (w.alloc (.cells (atc atZ) 36)) := by
    have h2 := HE.out 0 HLP.out _ ((Below.refl _ _).alloc (Nat.le_refl _) (.cells (atc atZ) 36))
    rw [HA0.out, Nat.zero_mul, Nat.add_zero, HX0.out] at h2
    exact h2
  obtain ⟨Z, HZ⟩ : ∃ C : Array Value, Hid (atc atZ = C) := ⟨_, hid rfl⟩
  rw [HZ.out] at hE0
  have HZS : Hid (Z.size = 101) := hid (by rw [← HZ.out]; exact atc_size atZ_ok)
  have hal : ∀ W, allocAtt W = .ok (.value (.pointer (some ⟨W.heap.size, 0, none⟩))) (W.alloc (.cells Z 36)) := fun W => by rw [← HZ.out]; exact allocAtt_eq W
  have HAL := hid hal
  have HX0S : Hid (X0.size = 101 ∧ X0.all (·.oneCell') = true) := hid (by rw [← HX0.out]; exact ⟨atc_size HO0.out, atc_one _⟩)
  have hst0 : storeAtt (.pointer (some ⟨w.heap.size + 1, 0, none⟩)) (.agg X0) ((w.alloc (.cells Z 36)).alloc (.cells Z 36)) = .ok .skip ((w.alloc (.cells Z 36)).alloc (.cells X0 36)) := by
    have := att_var (w.alloc (.cells Z 36)) HZS.out HX0S.out.1 HX0S.out.2
    rwa [show (w.alloc (.cells Z 36)).heap.size = w.heap.size + 1 from by simp] at this
  have HST0 : Hid (HiSt w ((w.alloc (.cells Z 36)).alloc (.cells X0 36)) Z X0) := hid ⟨((Below.refl _ _).alloc (Nat.le_refl _) _).alloc (by simp) _, heap1 w _ _, heap2 w _ _⟩
  have hI0 : (0 : Int) < (L : Int) := by omega
  have hI1 : 0 < L := hp
  clear hcl hg hv ho hl hp
  go_enter Tryd.func26, Tryd.ntmps26
  go_upto_region 2 with (fail)
  generalize ((w.alloc (.cells Z 36)).alloc (.cells X0 36)) = w1 at *
  try rw [show (w.alloc (.cells Z 36)).heap.size = w.heap.size + 1 from by simp]
  clear hE0 hst0 hal hI0 hI1
  go_wp2_with fail
  go_loopw [11] (fun si wr => ∃ (i : Nat) (t : AtM), i ≤ L ∧ si = .int .i64 i ∧ Hid (t = (l.take i).foldl topF a0 ∧ t.Ok) ∧ HiSt w wr Z (atc t)) (fun si _ => L - (intOf si).toNat)
  case atStart => exact ⟨0, a0, Nat.zero_le _, rfl, hid ⟨rfl, HO0.out⟩, by rw [HX0.out]; exact HST0.out⟩
  case round =>
    clear HST0
    obtain ⟨i, t, hi, rfl, HTT, hst⟩ := hrel
    obtain ⟨TC, HTC⟩ : ∃ C : Array Value, Hid (atc t = C) := ⟨_, hid rfl⟩
    rw [HTC.out] at hst
    have HST := hid hst
    clear hst
    by_cases hlt : i < L
    · have hil : i < l.length := by rw [HL.out]; exact hlt
      have hI : (i : Int) < (L : Int) := by omega
      have hoi := HO.out _ (List.getElem_mem hil)
      have l1 := HE.out i hil wr HST.out.bel
      have HNX : Hid ((l.take (i + 1)).foldl topF a0 = topF t l[i]) := hid (by rw [List.take_succ_eq_append_getElem hil, List.foldl_append, ← HTT.out.1]; rfl)
      have HOI := hid hoi
      obtain ⟨x, HXX⟩ : ∃ x : AtM, Hid (l[i] = x) := ⟨_, hid rfl⟩
      rw [HXX.out] at l1 HNX HOI
      obtain ⟨X, HX⟩ : ∃ C : Array Value, Hid (atc x = C) := ⟨_, hid rfl⟩
      have HXS : Hid (X.size = 101 ∧ X.all (·.oneCell') = true) := hid (by rw [← HX.out]; exact ⟨atc_size HOI.out, atc_one _⟩)
      have HTS : Hid (TC.size = 101) := hid (by rw [← HTC.out]; exact atc_size HTT.out.2)
      have HPX : Hid (∀ (W : World) (k : Nat), W.heap[k]? = some (.cells X 36 (0, 0)) → W.cell? ⟨k, 36, none⟩ = some (.int .i64 x.pv)) := hid (fun W k h => by
        rw [← HX.out] at h
        exact BoxA.pv (a := x) h HOI.out)
      have HPT : Hid (∀ (W : World) (k : Nat), W.heap[k]? = some (.cells TC 36 (0, 0)) → W.cell? ⟨k, 36, none⟩ = some (.int .i64 t.pv)) := hid (fun W k h => by
        rw [← HTC.out] at h
        exact BoxA.pv (a := t) h HTT.out.2)
      rw [HX.out] at l1
      have hst := att_var wr HZS.out HXS.out.1 HXS.out.2
      have hal1 := HAL.out wr
      clear hoi
      go_upto_region 5 with (fail)
      have hr1 := heap_alloc_new wr (.cells X 36)
      have HS1 := hid (HST.out.alloc (.cells X 36))
      obtain ⟨vb, HVB⟩ : ∃ k : Nat, Hid (wr.heap.size = k) := ⟨_, hid rfl⟩
      rw [HVB.out] at hr1 ⊢
      clear l1 hst hal1
      generalize (wr.alloc (.cells X 36)) = w2 at *
      have c1 := HPX.out w2 vb hr1
      have c2 := HPT.out w2 _ HS1.out.b1
      obtain ⟨xp, HXP⟩ : ∃ n : Int, Hid (x.pv = n) := ⟨_, hid rfl⟩
      obtain ⟨tp, HTP⟩ : ∃ n : Int, Hid (t.pv = n) := ⟨_, hid rfl⟩
      rw [HXP.out] at c1
      rw [HTP.out] at c2
      by_cases hgt : tp < xp
      · have l2 := loadAtt_row hr1 HXS.out.1
        have s2 := storeAtt_eq HS1.out.b1 HTS.out HXS.out.1 HXS.out.2
        have HS2 := hid (HS1.out.set X)
        have HN2 : Hid (x = (l.take (i + 1)).foldl topF a0 ∧ x.Ok) := hid ⟨by rw [HNX.out]; unfold topF; rw [HXP.out, HTP.out, if_pos hgt], HOI.out⟩
        have HLT := hid hlt
        have HWI : Hid (wrap64 ((i : Int) + 1) = ((i + 1 : Nat) : Int)) := hid (by have h1 := HLT.out; have h2 := HLEN.out; unfold wrap64; omega)
        clear hr1
        go_wp2_with fail
        go_roundw
        case rel => exact ⟨i + 1, x, by have := HLT.out; omega, by rw [HWI.out], hid HN2.out, by rw [HX.out]; exact HS2.out⟩
        case measure =>
          have h1 := HLT.out
          have hw := HWI.out
          simp only [hw]; simp [intOf]; omega
      · have HN2 : Hid (t = (l.take (i + 1)).foldl topF a0 ∧ t.Ok) := hid ⟨by rw [HNX.out]; unfold topF; rw [HXP.out, HTP.out, if_neg hgt], HTT.out.2⟩
        have HLT := hid hlt
        have HWI : Hid (wrap64 ((i : Int) + 1) = ((i + 1 : Nat) : Int)) := hid (by have h1 := HLT.out; have h2 := HLEN.out; unfold wrap64; omega)
        clear hr1
        go_wp2_with fail
        go_roundw
        case rel => exact ⟨i + 1, t, by have := HLT.out; omega, by rw [HWI.out], hid HN2.out, by rw [HTC.out]; exact HS1.out⟩
        case measure =>
          have h1 := HLT.out
          have hw := HWI.out
          simp only [hw]; simp [intOf]; omega
    · obtain rfl : i = L := by omega
      have HTL : Hid (t = topA l ∧ t.Ok) := hid ⟨by rw [HTO.out, HTT.out.1, List.take_of_length_le (by rw [HL.out]; exact Nat.le_refl _)], HTT.out.2⟩
      have HTS : Hid (TC.size = 101 ∧ TC.all (·.oneCell') = true) := hid (by rw [← HTC.out]; exact ⟨atc_size HTT.out.2, atc_one _⟩)
      have l3 := loadAtt_row HST.out.b1 HTS.out.1
      have s3 := storeAtt_eq HST.out.b0 HZS.out HTS.out.1 HTS.out.2
      go_wp2_with fail
      refine bodyPost_ret (results_cell_row rfl _ _ _ _ _ (0, 0) _ rfl (setAtt_same HST.out.b0) under_att rfl (by rw [size_att, HTS.out.1])) rfl ⟨?_, setAtt_below HST.out.bel (Nat.le_refl _)⟩
      rw [← HTL.out.1, HTC.out]
end Go.Proofs.YthgdgkdnidjdgaaDoor
