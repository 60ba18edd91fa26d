/-
  Take BkCopiesWalk Row Puts TxArg: what each of them says stands at its head.
-/
import Derived.Test.YtekfkfpfnhoblaaDoorMg1
import Derived.Deep.RegionHeld3
import Derived.Test.YtekfkfpfnhoblaaDoorMg15
import Derived.StillTailTactics
import Derived.IntWalk
import Derived.ProofKit
import Derived.OpenShut
import Derived.ShutString
import Derived.ChangeOld
import Derived.Test.YtekfkfpfnhoblaaDoorMg2
import Derived.Deep.Slices
import Derived.ChangeArms
/-
  A region that draws its order, walked by hand, one operation after the other: for regions with many operations behind guards that say no. No function of the program.
-/
namespace Go.Proofs.YtekfkfpfnhoblaaDoor
set_option maxRecDepth 20000
open Go.RowKit

/-- An operation of a region is taken first: one that is not wanted; one that yields in every world that meets S. -/
theorem take_off {P : Program} {md : Region.Mode} {l : List Oper} {Q : Exit → Act → World → Prop} {S : World → Prop} {i : Nat} {oi : Oper} {fuel : Nat} {listed : Array Bool} {a : Act} {w : World} (hi : l[i]? = some oi)
    (hs : Region.noSelect l.toArray = true) (hf : Region.free md l.toArray listed i = true) (hr : (Region.ready md l.toArray listed).contains i = true) (hQ : ∀ c a w, Q (.panic c) (a.put oi.dst undef) w → Q (.panic c) a w)
    (hw : Region.wanted oi (yielded l.toArray a.tmps) = false) (hS : S w) (h : wpAnyH P md l.toArray Q S fuel (listed.setIfInBounds i true) (a.put oi.dst undef) w) : wpAnyH P md l.toArray Q S (fuel + 1) listed a w :=
  wpAnyH_take (by simpa using hi) hs hf hr hQ (Or.inr ⟨hw, rfl⟩) hS h
theorem take_on {P : Program} {md : Region.Mode} {l : List Oper} {Q : Exit → Act → World → Prop} {S : World → Prop} {i : Nat} {oi : Oper} {v : Value} {fuel : Nat} {listed : Array Bool} {a : Act} {w : World} (hi : l[i]? = some oi)
    (hs : Region.noSelect l.toArray = true) (hf : Region.free md l.toArray listed i = true) (hr : (Region.ready md l.toArray listed).contains i = true) (hQ : ∀ c a w, Q (.panic c) (a.put oi.dst v) w → Q (.panic c) a w)
    (hw : Region.wanted oi (yielded l.toArray a.tmps) = true) (hv : ∀ w, S w → (execOp a.eval oi).run P w = .ok (.value v) w) (hS : S w) (h : wpAnyH P md l.toArray Q S fuel (listed.setIfInBounds i true) (a.put oi.dst v) w) : wpAnyH P md l.toArray Q S (fuel + 1) listed a w :=
  wpAnyH_take (by simpa using hi) hs hf hr hQ (Or.inl ⟨hw, hv⟩) hS h
theorem call_on {P : Program} {md : Region.Mode} {l : List Oper} {Q : Exit → Act → World → Prop} {S : World → Prop} {i : Nat} {oi : Oper} {fuel : Nat} {listed : Array Bool} {a : Act} {w : World} (hi : l[i]? = some oi)
    (hr : Region.ready md l.toArray listed = [i]) (hw : Region.wanted oi (yielded l.toArray a.tmps) = true)
    (h : ∀ K' : Act → World → Prop, Shut (∀ a w, S w → (S w → wpAnyH P md l.toArray Q S fuel (listed.setIfInBounds i true) a w) → K' a w) → Oper.wp P oi a w K' Q) : wpAnyH P md l.toArray Q S (fuel + 1) listed a w :=
  wpAnyH_ready hr (by simp) (AllReadyH.cons (by simpa using hi) (fun K hK => by rw [if_pos hw]; exact h K hK) AllReadyH.nil)
/-- Two operations may come next. -/
theorem pair_on {P : Program} {md : Region.Mode} {l : List Oper} {Q : Exit → Act → World → Prop} {S : World → Prop} {i j : Nat} {oi oj : Oper} {fuel : Nat} {listed : Array Bool} {a : Act} {w : World} (hi : l[i]? = some oi) (hj : l[j]? = some oj)
    (hr : Region.ready md l.toArray listed = [i, j]) (hw : Region.wanted oi (yielded l.toArray a.tmps) = true) (hv : Region.wanted oj (yielded l.toArray a.tmps) = true)
    (h : ∀ K' : Act → World → Prop, Shut (∀ a w, S w → (S w → wpAnyH P md l.toArray Q S fuel (listed.setIfInBounds i true) a w) → K' a w) → Oper.wp P oi a w K' Q)
    (k : ∀ K' : Act → World → Prop, Shut (∀ a w, S w → (S w → wpAnyH P md l.toArray Q S fuel (listed.setIfInBounds j true) a w) → K' a w) → Oper.wp P oj a w K' Q) : wpAnyH P md l.toArray Q S (fuel + 1) listed a w :=
  wpAnyH_ready hr (by simp) (AllReadyH.cons (by simpa using hi) (fun K hK => by rw [if_pos hw]; exact h K hK) (AllReadyH.cons (by simpa using hj) (fun K hK => by rw [if_pos hv]; exact k K hK) AllReadyH.nil))
end Go.Proofs.YtekfkfpfnhoblaaDoor

/-
  BlockCopies: a copy has its own memory, and is alike; alike goes either way: the law's walk, from what block's functions tell.
-/
namespace Go.Proofs.YtekfkfpfnhoblaaDoor
set_option maxRecDepth 20000
open Go.RowKit
attribute [local go_sem ↓] exec_load_bk exec_alloc_bk exec_store_bk

theorem off_index (n : Nat) (b : Bool) (d : Option Tmp) (ty : TypeId) (pos : String) (af : Array Edge) (t : TypeId) (x y : Operand) : (⟨d, .indexAddr t x y, ty, pos, af, some (n, b)⟩ : Oper) = ⟨d, opOff (.indexAddr t x y) 0, ty, pos, af, some (n, b)⟩ := rfl
theorem sameK_comm (a b : BkM) : sameK a b = sameK b a := by
  by_cases h : a = b
  · rw [h]
  · rw [sameK_no h, sameK_no (fun e => h e.symm)]
/-- One transaction's nonce turned. -/
def turnT (L : List TxM) (k : Nat) (z : Int) : List TxM := L.modify k fun t => { t with no := z }
theorem turnT_len (L : List TxM) (k : Nat) (z : Int) : (turnT L k z).length = L.length := by simp [turnT]
theorem turnT_get {L : List TxM} {k : Nat} {z : Int} {j : Nat} (hj : j < (turnT L k z).length) (hj2 : j < L.length) : (turnT L k z)[j] = if k = j then { L[j] with no := z } else L[j] := by
  simp only [turnT, List.getElem_modify]
theorem turnT_same {L : List TxM} {k : Nat} {z : Int} (hk : k < L.length) (h : L[k].no = z) : turnT L k z = L := by
  apply List.ext_getElem (turnT_len _ _ _)
  intro j h1 h2
  rw [turnT_get h1 h2]
  split
  · rename_i e
    subst e
    rw [← h]
  · rfl
theorem turnT_other {L : List TxM} {k : Nat} {z : Int} (hk : k < L.length) (h : L[k].no ≠ z) : turnT L k z ≠ L := fun e => by
  have h1 := turnT_get (L := L) (k := k) (z := z) (j := k) (by rw [turnT_len]; exact hk) hk
  rw [if_pos rfl] at h1
  have h2 : (turnT L k z)[k]'(by rw [turnT_len]; exact hk) = L[k] := by simp only [e]
  rw [h1] at h2
  exact h (by rw [← h2])
theorem txs_turn {B : Nat} {w : World} {g n c : Nat} {L : List TxM} (h : OwnT B w (.slice (some ⟨g, 0, none⟩) n c) L) {k : Nat} (hk : k < L.length) (z : Int) :
    Txs (w.setCell ⟨g, k * 7 + 1, none⟩ (.int .i64 z)) (.slice (some ⟨g, 0, none⟩) n c) (turnT L k z) := by
  obtain ⟨hn, h1, h2, h3⟩ := h.txs.at_
  obtain ⟨b, off, e, hb, hc⟩ := h3 (by omega)
  injection e with e
  injection e with e1 e2 _
  subst e1 e2
  refine ⟨_, c, by rw [turnT_len, hn], by rw [turnT_len]; exact h1, h2, fun _ => ⟨g, 0, rfl, by simpa using hb, fun j hj i u hu => ?_⟩⟩
  have hj2 : j < L.length := by rw [turnT_len] at hj; exact hj
  have hi : i < 7 := by have := (List.getElem?_eq_some_iff.1 hu).1; rw [tcl_length] at this; exact this
  rw [turnT_get hj hj2] at hu
  by_cases hkj : k = j ∧ i = 1
  · obtain ⟨rfl, rfl⟩ := hkj
    rw [if_pos rfl] at hu
    have h0 := hc k hk 1 (.int .i64 L[k].no) rfl
    rw [Nat.zero_add] at h0 ⊢
    rw [World.cell?_setCell_same' w ⟨g, k * 7 + 1, none⟩ _ (by rw [h0]; rfl)]
    exact hu
  · rw [World.cell?_setCell_other w ⟨g, k * 7 + 1, none⟩ ⟨g, 0 + j * 7 + i, none⟩ _ (fun e => by
      injection e with _ e _
      apply hkj
      omega)]
    refine hc j hj2 i u ?_
    split at hu
    · rename_i e
      have hi1 : i ≠ 1 := fun h => hkj ⟨e, h⟩
      rw [← hu]
      unfold tcl
      match i, hi1, hi with
      | 0, _, _ => rfl
      | 2, _, _ => rfl
      | 3, _, _ => rfl
      | 4, _, _ => rfl
      | 5, _, _ => rfl
      | 6, _, _ => rfl
    · exact hu

theorem OwnT.addr {B : Nat} {w : World} {A : Option Addr} {n c : Nat} {L : List TxM} (h : OwnT B w (.slice A n c) L) (h0 : 0 < L.length) : ∃ g, A = some ⟨g, 0, none⟩ ∧ B ≤ g ∧ g < w.heap.size ∧ ∀ i, w.frozen? ⟨g, i, none⟩ = false := by
  rcases h.2 with ⟨_, h1⟩ | ⟨g, cap, cur, e, hg, hh, _⟩
  · omega
  · injection e with e1 e2 e3
    exact ⟨g, e1, hg, lt_of_block hh, free_blk hh⟩
/-- Two boxed blocks, and a block's variable. -/
def Three (g h : Nat) (CA CB X : Array Value) (W : World) : Prop := Two g CA CB W ∧ W.heap[h]? = some (.cells X 26 (0, 0))

set_option maxHeartbeats 6400000 in
theorem lawBlockCopies_any (hH : BkHashOk) (hS : BkSameOk) (hY : BkCopyOk) (hA : ∀ w, Kst 1 w → Calls Tryd.prog 7 #[] w fun e w' => e = .returned (.bool true) ∧ Below w.heap.size w w')
    (va vb : Value) (a b : BkM) (at_ : Nat) (w : World) (hva : BkV w va a) (hvb : BkV w vb b) (hla : ∀ t ∈ a.txs, t.key.length ≤ maxLen ∧ t.val.length ≤ maxLen) (hlb : ∀ t ∈ b.txs, t.key.length ≤ maxLen ∧ t.val.length ≤ maxLen) (hat : at_ ≤ 255) (hK1 : Kst 1 w) (hK0 : Kst 0 w) :
    Calls Tryd.prog 5 #[va, vb, .int .u8 (at_ : Int)] w fun e w' => e = .returned (.bool true) ∧ Below w.heap.size w w' := by
  have HA : Hid (∀ W, Below w.heap.size w W → Calls Tryd.prog 7 #[] W fun e w' => e = .returned (.bool true) ∧ Below W.heap.size W w') := hid (fun W h => hA W (hK1.below h))
  have HVA := hid (fun W (h : Below w.heap.size w W) => hva.below h)
  have HVB := hid (fun W (h : Below w.heap.size w W) => hvb.below h)
  have HKA := hid (fun W (h : Below w.heap.size w W) => (show Kst 0 W from hK0.below h))
  have HKB := hid (fun W (h : Below w.heap.size w W) => (show Kst 1 W from hK1.below h))
  obtain ⟨sa, ea, hpa, hta⟩ := hva
  obtain ⟨sb, eb, hpb, htb⟩ := hvb
  obtain ⟨SA, sc, rfl⟩ := hta.shape
  have hlen := hta.len
  unfold maxLen at hlen
  obtain ⟨L, HL⟩ : ∃ n : Nat, Hid (a.txs.length = n) := ⟨_, hid rfl⟩
  rw [HL.out] at hlen ea hta
  have HTA := hid (fun W (h : Below w.heap.size w W) => hta.below h)
  obtain ⟨CA, HCA⟩ : ∃ C : Array Value, Hid (bkc a (.slice SA L sc) = C) := ⟨_, hid rfl⟩
  obtain ⟨CB, HCB⟩ : ∃ C : Array Value, Hid (bkc b sb = C) := ⟨_, hid rfl⟩
  have HA35 : Hid (CA[35]? = some (.slice SA L sc)) := hid (by rw [← HCA.out]; exact (bkc_tail hpa).2.2.2)
  rw [HCA.out] at ea
  rw [HCB.out] at eb
  subst ea eb
  have HSA : Hid (CA.size = 36) := hid (by rw [← HCA.out]; exact bkc_size _ hpa)
  have HSB : Hid (CB.size = 36) := hid (by rw [← HCB.out]; exact bkc_size _ hpb)
  have HLA : Hid (∀ W, Below w.heap.size w W → Calls Tryd.prog 6 #[.agg CA] W fun e w' => e = .returned (.bool (litK a)) ∧ Below W.heap.size W w') := hid (fun W h => light7_any _ a W (HVA.out W h) hla)
  have HLB : Hid (∀ W, Below w.heap.size w W → Calls Tryd.prog 6 #[.agg CB] W fun e w' => e = .returned (.bool (litK b)) ∧ Below W.heap.size W w') := hid (fun W h => light7_any _ b W (HVB.out W h) hlb)
  obtain ⟨qa, HQA⟩ : ∃ q : Bool, Hid (litK a = q) := ⟨_, hid rfl⟩
  obtain ⟨qb, HQB⟩ : ∃ q : Bool, Hid (litK b = q) := ⟨_, hid rfl⟩
  rw [HQA.out] at HLA
  rw [HQB.out] at HLB
  have hr0 := heap1 w (.cells CA 26) (.cells CB 26)
  have hr1 := heap2 w (.cells CA 26) (.cells CB 26)
  have hb0 : Below w.heap.size w ((w.alloc (.cells CA 26)).alloc (.cells CB 26)) := ((Below.refl _ _).alloc (Nat.le_refl _) _).alloc (by simp) _
  have HAT := hid hat
  clear hla hlb hta htb hK0 hK1 hA HCA HCB hat
  go_enter Tryd.func5, Tryd.ntmps5
  go_upto_region 1 with (fail)
  generalize ((w.alloc (.cells CA 26)).alloc (.cells CB 26)) = w0 at *
  have hl1 := lt_of_block hr1
  have HTW : Hid (∀ W, Below w0.heap.size w0 W → Two w.heap.size CA CB W) := hid (fun W h => ⟨(h.block _ (by omega)).trans hr0, (h.block _ hl1).trans hr1⟩)
  have HDA : Hid (∀ W : World, Two w.heap.size CA CB W → loadK (.pointer (some ⟨w.heap.size, 0, none⟩)) W = .ok (.value (.agg CA)) W) := hid (fun W h => loadK_row h.1 HSA.out)
  have HDB : Hid (∀ W : World, Two w.heap.size CA CB W → loadK (.pointer (some ⟨w.heap.size + 1, 0, none⟩)) W = .ok (.value (.agg CB)) W) := hid (fun W h => loadK_row h.2 HSB.out)
  have la := HDA.out w0 (HTW.out w0 (Below.refl _ _))
  have HL1 := hid hl1
  clear hr0 hr1 hl1
  go_wp2_with fail
  refine (HLA.out w0 hb0).mono ?_
  rintro e w1 ⟨rfl, hb1⟩
  have hB1 := hb0.trans (hb1.mono hb0.size)
  clear la
  cases qa with
  | false =>
    go_wp2_with fail
    refine (HA.out w1 hB1).mono ?_
    rintro e w2 ⟨rfl, hb2⟩
    go_wp2_with fail
    go_ret
    exact ⟨rfl, hB1.trans (hb2.mono hB1.size)⟩
  | true =>
    have lb := HDB.out w1 (HTW.out w1 hb1)
    go_wp2_with fail
    refine (HLB.out w1 hB1).mono ?_
    rintro e w2 ⟨rfl, hb2'⟩
    have hB2 := hB1.trans (hb2'.mono hB1.size)
    have hb2 := hb1.trans (hb2'.mono hb1.size)
    have HB20 := hid hb2.size
    clear lb hb1 hb2'
    cases qb with
    | false =>
      go_wp2_with fail
      refine (HA.out w2 hB2).mono ?_
      rintro e w3 ⟨rfl, hb3⟩
      go_wp2_with fail
      go_ret
      exact ⟨rfl, hB2.trans (hb3.mono hB2.size)⟩
    | true =>
      have HLK := hid (lightK_of HQA.out)
      obtain ⟨D, HD⟩ : ∃ D : Array Value, Hid (fcells 32 (fun j => bcell (hashK a j)) = D) := ⟨_, hid rfl⟩
      have HHC : Hid (∀ W, Below w.heap.size w W → Calls Tryd.prog 11 #[.agg CA] W fun e w' => e = .returned (.agg D) ∧ Below W.heap.size W w') := hid (fun W h => by
        have := hH _ a W (HVA.out W h) HLK.out (HKB.out W h)
        rw [HD.out] at this
        exact this)
      have HHR : Hid (∀ W, Below w.heap.size w W → Calls Tryd.prog 12 #[.agg CA] W fun e w' => e = .returned (.agg D) ∧ Below W.heap.size W w') := hid (fun W h => by
        have := refHash7_any _ a W (HVA.out W h) HLK.out (HKA.out W h)
        rw [HD.out] at this
        exact this)
      obtain ⟨sm, HSM⟩ : ∃ m : Bool, Hid (sameK a b = m) := ⟨_, hid rfl⟩
      have HSC : Hid (∀ W, Below w.heap.size w W → Calls Tryd.prog 13 #[.agg CA, .agg CB] W fun e w' => e = .returned (.bool sm) ∧ Below W.heap.size W w') := hid (fun W h => by
        have := hS _ _ a b W (HVA.out W h) (HVB.out W h)
        rw [HSM.out] at this
        exact this)
      have HSD : Hid (∀ W, Below w.heap.size w W → Calls Tryd.prog 13 #[.agg CB, .agg CA] W fun e w' => e = .returned (.bool sm) ∧ Below W.heap.size W w') := hid (fun W h => by
        have := hS _ _ b a W (HVB.out W h) (HVA.out W h)
        rw [← sameK_comm, HSM.out] at this
        exact this)
      have HSX : Hid (∀ x c W, Below w.heap.size w W → BkV W x c → Calls Tryd.prog 13 #[.agg CA, x] W fun e w' => e = .returned (.bool (sameK a c)) ∧ Below W.heap.size W w') := hid (fun x c W h hx => hS _ x a c W (HVA.out W h) hx)
      have heq := hash_same D (hashK a) HD.out
      have HEQ := hid heq
      have HCP : Hid (∀ W, Below w.heap.size w W → Calls Tryd.prog 15 #[.agg CA] W fun e w' => ∃ x, e = .returned x ∧ BkNew W.heap.size w' x a ∧ Below W.heap.size W w') := hid (fun W h => hY _ a W (HVA.out W h) (Nat.le_trans (litK_len HQA.out) (by decide)))
      have la := HDA.out w2 (HTW.out w2 hb2)
      clear hH hS hY heq
      go_wp2_with fail
      refine (HCP.out w2 hB2).mono ?_
      rintro e w3 ⟨x3, rfl, hx3, hb3'⟩
      have hB3 := hB2.trans (hb3'.mono hB2.size)
      have hb3 := hb2.trans (hb3'.mono hb2.size)
      clear la hb2 HCP
      obtain ⟨s3, rfl, _, ht3, ho3⟩ := hx3
      have hrow3 := BoxK.new w3 a s3
      obtain ⟨A3, c3, rfl⟩ := ht3.shape
      rw [HL.out] at hrow3 ht3 ho3 ⊢
      have h36 := bkc_size (b := a) (.slice A3 L c3) hpa
      have hone := bkc_one ht3
      obtain ⟨X, HX⟩ : ∃ C : Array Value, Hid (bkc a (.slice A3 L c3) = C) := ⟨_, hid rfl⟩
      have HX35 : Hid (X[35]? = some (.slice A3 L c3)) := hid (by rw [← HX.out]; exact (bkc_tail hpa).2.2.2)
      have hbn : Below w3.heap.size w3 (w3.alloc (.cells (bkc a (.slice A3 L c3)) 26)) := (Below.refl _ _).alloc (Nat.le_refl _) _
      have ht4 := ht3.below hbn
      have ho4 : 0 < L → OwnT w2.heap.size (w3.alloc (.cells (bkc a (.slice A3 L c3)) 26)) (.slice A3 L c3) a.txs := fun h => (ho3 h).below hbn
      unfold BoxK at hrow3
      rw [HX.out] at hrow3 hbn ht4 ho4 h36 hone ⊢
      have HX36 := hid h36
      have hB4 := hB3.trans (hbn.mono hB3.size)
      have hb4 := hb3.trans (hbn.mono hb3.size)
      obtain ⟨Z, HZ⟩ : ∃ C : Array Value, Hid (bkc bkZ (.slice none 0 0) = C) := ⟨_, hid rfl⟩
      have hal : ∀ W, allocK W = .ok (.value (.pointer (some ⟨W.heap.size, 0, none⟩))) (W.alloc (.cells Z 26)) := fun W => by rw [← HZ.out]; exact allocK_eq W
      have hs3 : storeK (.pointer (some ⟨w3.heap.size, 0, none⟩)) (.agg X) (w3.alloc (.cells Z 26)) = .ok .skip (w3.alloc (.cells X 26)) := by
        rw [storeK_eq (heap_alloc_new w3 _) (by rw [← HZ.out]; exact bkc_size _ bkZ_par) h36 hone, setK_alloc]
      have hl2 := hB2.size
      have hlt2 : w2.heap.size ≤ w3.heap.size := hb3'.size
      have HG3 : Hid (0 < L → ∃ g, A3 = some ⟨g, 0, none⟩ ∧ w2.heap.size ≤ g ∧ g < w3.heap.size) := hid (fun h => by
        obtain ⟨g, e, h1, h2, _⟩ := (ho3 h).addr (by rw [HL.out]; exact h)
        exact ⟨g, e, h1, h2⟩)
      clear ht3 ho3 hone h36 hbn hb3 hb3'
      go_upto_region 4 with (fail)
      generalize w3.alloc (.cells X 26) = w4 at *
      have la4 := HDA.out w4 (HTW.out w4 hb4)
      have HR3 := hid hrow3
      have HL2 : Hid (w.heap.size + 1 < w2.heap.size) := hid (by have := HL1.out; have := HB20.out; omega)
      have hlt4 := lt_of_block hrow3
      have hH5 : ∀ W : World, Blk (W.alloc (.cells (fcells 32 fun _ => bcell 0) 23)) W.heap.size 32 (fun _ => bcell 0) 23 := fun W => Blk.new W _ _ _
      have HH5 := hid hH5
      clear hs3 hal hH5 hrow3
      go_wp2_with fail
      refine (HHR.out w4 hB4).mono ?_
      rintro e w5 ⟨rfl, hb5'⟩
      have hB5 := hB4.trans (hb5'.mono hB4.size)
      have hb5 := hb4.trans (hb5'.mono hb4.size)
      have hlt5 := hb5'.size
      have HL5 : Hid (w3.heap.size < w5.heap.size) := hid (by have := hlt4; omega)
      have HT4 := hid ht4
      have HO4 := hid ho4
      clear la4 ht4 ho4
      rw [← HD.out]
      go_wp2_with (first
        | (refine wpList_alloc_arr arrH rfl rfl ?_)
        | (refine wpList_store_arr arrH rfl _ _ rfl rfl rfl (HH5.out w5) (fun _ _ => rfl) ?_; intro w6 hg6 hH6 hs6; have HG6 := hid hg6; have HH6 := hid hH6; clear hg6 hH6 hs6))
      have hb6' : Below w4.heap.size w4 w6 := (hb5'.alloc hb5'.size _).grown HG6.out (by simp; omega) (fun k hk => by injection hk with hk; omega)
      have hB6 := hB4.trans (hb6'.mono hB4.size)
      have hb6 := hb4.trans (hb6'.mono hb4.size)
      have HQ : Hid (∀ W, Below w6.heap.size w6 W → Three w.heap.size w3.heap.size CA CB X W ∧ Blk W w5.heap.size 32 (fun j => bcell (hashK a j)) 23) := hid (fun W h =>
        ⟨⟨HTW.out W (hb6.trans (h.mono hb6.size)), ((hb6'.trans (h.mono hb6'.size)).block _ hlt4).trans HR3.out⟩, HH6.out.keep h⟩)
      have HBW : Hid (∀ W, Below w6.heap.size w6 W → Below w.heap.size w W) := hid (fun W h => hB6.trans (h.mono hB6.size))
      have HVX : Hid (∀ W, Below w6.heap.size w6 W → BkV W (.agg X) a) := hid (fun W h => ⟨_, by rw [← HX.out], hpa, by have := HT4.out.below (hb6'.trans (h.mono hb6'.size)); exact this⟩)
      have HO6 : Hid (0 < L → OwnT w2.heap.size w6 (.slice A3 L c3) a.txs) := hid (fun h => (HO4.out h).below hb6')
      have HT6 := hid (HT4.out.below hb6')
      have HL23 : Hid (w.heap.size ≤ w2.heap.size ∧ w2.heap.size ≤ w3.heap.size ∧ w3.heap.size < w6.heap.size) := hid (by have := hb6'.size; omega)
      have HSXX : Hid (∀ W, Below w6.heap.size w6 W → Calls Tryd.prog 13 #[.agg CA, .agg X] W fun e w' => e = .returned (.bool true) ∧ Below W.heap.size W w') := hid (fun W h => by
        have := HSX.out (.agg X) a W (HBW.out W h) (HVX.out W h)
        rw [sameK_self] at this
        exact this)
      have hldA : ∀ W : World, Three w.heap.size w3.heap.size CA CB X W → loadK (.pointer (some ⟨w.heap.size, 0, none⟩)) W = .ok (.value (.agg CA)) W := fun W h => HDA.out W h.1
      have hldB : ∀ W : World, Three w.heap.size w3.heap.size CA CB X W → loadK (.pointer (some ⟨w.heap.size + 1, 0, none⟩)) W = .ok (.value (.agg CB)) W := fun W h => HDB.out W h.1
      have hldX : ∀ W : World, Three w.heap.size w3.heap.size CA CB X W → loadK (.pointer (some ⟨w3.heap.size, 0, none⟩)) W = .ok (.value (.agg X)) W := fun W h => loadK_row h.2 HX36.out
      obtain ⟨DL, HDL⟩ : ∃ l : List Value, Hid (D.toList = l) := ⟨_, hid rfl⟩
      have HDL32 : Hid (DL.length = 32) := hid (by rw [← HDL.out, ← HD.out, Array.length_toList, fcells_size])
      have HRD : Hid (∀ W : World, Blk W w5.heap.size 32 (fun j => bcell (hashK a j)) 23 → W.rangeAt w5.heap.size 0 DL) := hid (fun W h => by
        rw [← HDL.out, ← HD.out]
        exact h.range (o := 0) (m := 32) (by omega) (fun j _ => by rw [Nat.zero_add]))
      have HLDA := hid hldA
      have HLDX := hid hldX
      have hbd : Below w6.heap.size w6 w6.drew := (Below.refl _ _).drew
      clear hb0 hB1 hb4 hB4 hb5' hB5 hb5 hb6' hB6 hb6 hl2 hlt2 hlt4 hlt5 HH6 HG6 HH5 HT4 HO4 HR3 HHR HTW
      cases sm
      all_goals
        go_region_held3 (fun W => Three w.heap.size w3.heap.size CA CB X W)
          (first
            | (refine (HQ.out _ hbd).1)
            | (refine (HQ.out _ hb9).1)
            | (refine (HQ.out _ hb8).1)
            | (refine (HQ.out _ hb7).1)
            | fail)
          (first
            | (go_at_call 13; (with_reducible refine (HSD.out _ (HBW.out _ hb8)).mono ?_); rintro e w9 ⟨rfl, hb9'⟩; have hb9 := hb8.trans (hb9'.mono hb8.size))
            | (go_at_call 13; (with_reducible refine (HSC.out _ (HBW.out _ hb7)).mono ?_); rintro e w8 ⟨rfl, hb8'⟩; have hb8 := hb7.trans (hb8'.mono hb7.size))
            | (go_at_call 13; (with_reducible refine (HSXX.out _ hbd).mono ?_); rintro e w7 ⟨rfl, hb7'⟩; have hb7 := hbd.trans (hb7'.mono hbd.size))
            | fail)
        have k9 : w9.cell? ⟨w3.heap.size, 35, none⟩ = some (.slice A3 L c3) := (cell_blk (HQ.out _ hb9).1.2 35).trans HX35.out
        clear hldA hldB hldX hbd hb7 hb7' hb8 hb8' hb9'
        by_cases hL0 : 0 < L
        · obtain ⟨g3, rfl, hg2, hg3⟩ := HG3.out hL0
          have ho9 := (HO6.out hL0).below hb9
          obtain ⟨k, HKk⟩ : ∃ k : Nat, Hid (at_ % L = k) := ⟨_, hid rfl⟩
          have hkL : k < L := by rw [← HKk.out]; exact Nat.mod_lt _ hL0
          have hka : k < a.txs.length := by rw [HL.out]; exact hkL
          have hat := HAT.out
          obtain ⟨ga, oa, rfl, hga, hca⟩ := (HTA.out w (Below.refl _ _)).at_.2.2.2 (by rw [HL.out]; exact hL0)
          have HTN : Hid (∀ W, Below w.heap.size w W → W.cell? ⟨ga, oa + k * 7 + 1, none⟩ = some (.int .i64 a.txs[k].no)) := hid (fun W h => by
            obtain ⟨g', o', e', _, hc'⟩ := (HTA.out W h).at_.2.2.2 (by rw [HL.out]; exact hL0)
            injection e' with e'
            injection e' with e1 e2 _
            subst e1 e2
            exact hc' k hka 1 _ rfl)
          obtain ⟨z, HZN⟩ : ∃ z : Int, Hid (a.txs[k].no = z) := ⟨_, hid rfl⟩
          rw [HZN.out] at HTN
          have kn9 : w9.cell? ⟨g3, k * 7 + 1, none⟩ = some (.int .i64 z) := by
            obtain ⟨g', o', e', _, hc'⟩ := ho9.txs.at_.2.2.2 (by rw [HL.out]; exact hL0)
            injection e' with e'
            injection e' with e1 e2 _
            subst e1 e2
            have := hc' k hka 1 _ rfl
            rw [Nat.zero_add, HZN.out] at this
            exact this
          have kf9 := ((ho9.addr (by rw [HL.out]; exact hL0)).choose_spec).2.2.2 (k * 7 + 1)
          have kg9 : w9.frozen? ⟨g3, k * 7 + 1, none⟩ = false := by
            obtain ⟨g', e', _, _, hf⟩ := ho9.addr (by rw [HL.out]; exact hL0)
            injection e' with e'
            injection e' with e1 _ _
            subst e1
            exact hf _
          have q1 : IntKind.i64.wrap (at_ : Int) = (at_ : Int) := IntWalk.i64_in _ (by omega)
          have q2 : (at_ : Int).tmod (L : Int) = (k : Int) := by
            rw [Int.tmod_eq_emod_of_nonneg (by omega), ← HKk.out]
            exact (Int.natCast_emod at_ L).symm
          have q3 : (at_ : Int) % (L : Int) = (k : Int) := by
            rw [← HKk.out]
            exact (Int.natCast_emod at_ L).symm
          have q4 : (L : Int) ≠ 0 := by omega
          have q5 : 0 < (L : Int) := by omega
          have q8 : IntKind.i64.wrap (k : Int) = (k : Int) := IntWalk.i64_in _ (by omega)
          have q9 : ((L : Int) == 0) = false := by simp; omega
          have q10 : (k : Int) < (L : Int) := by omega
          have q6 : ¬ L = 0 := by omega
          clear kf9 hca
          go_wp2_with fail
          go_still_tail 10, (by kernel_rfl)
          change wpList _ _ _ _ _ w9.drew
          have hb9d : Below w6.heap.size w6 w9.drew := hb9.drew
          have kn9d : w9.drew.cell? ⟨g3, k * 7 + 1, none⟩ = some (.int .i64 z) := kn9
          have kg9d : w9.drew.frozen? ⟨g3, k * 7 + 1, none⟩ = false := kg9
          have ho9d := ho9.below ((Below.refl w9.heap.size w9).drew)
          clear kn9 kg9 k9 ho9 hb9 q1 q2 q3 q4 q5 q6 q8 q9 q10
          generalize w9.drew = w9 at *
          go_upto_region 9 with (fail)
          have hB10 : Below w.heap.size w (w9.setCell ⟨g3, k * 7 + 1, none⟩ (.int .i64 (-7))) := (HBW.out w9 hb9d).setCell (by have := HL2.out; simp only; omega) _
          have HQ10 : Hid (Three w.heap.size w3.heap.size CA CB X (w9.setCell ⟨g3, k * 7 + 1, none⟩ (.int .i64 (-7))) ∧ Blk (w9.setCell ⟨g3, k * 7 + 1, none⟩ (.int .i64 (-7))) w5.heap.size 32 (fun j => bcell (hashK a j)) 23) := hid (by
            obtain ⟨⟨⟨t1, t2⟩, t3⟩, t4⟩ := HQ.out w9 hb9d
            have h2 := HL2.out
            have h5 := HL5.out
            exact ⟨⟨⟨(Below.heap_setCell _ _ _ _ (by simp only; omega)).trans t1, (Below.heap_setCell _ _ _ _ (by simp only; omega)).trans t2⟩, (Below.heap_setCell _ _ _ _ (by simp only; omega)).trans t3⟩, (Below.heap_setCell _ _ _ _ (by simp only; omega)).trans t4⟩)
          have hty := txs_turn ho9d hka (-7)
          have HTY := hid hty
          clear hty ho9d kn9d kg9d hb9d
          generalize (w9.setCell ⟨g3, k * 7 + 1, none⟩ (.int .i64 (-7))) = w10 at *
          have hz5 := HQ10.out.2.lt
          have HQW : Hid (∀ W, Below w10.heap.size w10 W → Three w.heap.size w3.heap.size CA CB X W ∧ W.cell? ⟨w.heap.size, 35, none⟩ = some (.slice (some ⟨ga, oa, none⟩) L sc) ∧ W.cell? ⟨ga, oa + k * 7 + 1, none⟩ = some (.int .i64 z) ∧ W.rangeAt w5.heap.size 0 DL) := hid (fun W h => by
            obtain ⟨⟨⟨t1, t2⟩, t3⟩, t4⟩ := HQ10.out
            have e1 := (h.block _ (lt_of_block t1)).trans t1
            exact ⟨⟨⟨e1, (h.block _ (lt_of_block t2)).trans t2⟩, (h.block _ (lt_of_block t3)).trans t3⟩, (cell_blk e1 35).trans HA35.out, HTN.out W (hB10.trans (h.mono hB10.size)), HRD.out W (t4.keep h)⟩)
          have HBX : Hid (∀ W, Below w10.heap.size w10 W → Below w.heap.size w W) := hid (fun W h => hB10.trans (h.mono hB10.size))
          obtain ⟨sy, HSY⟩ : ∃ q : Bool, Hid (sameK a { a with txs := turnT a.txs k (-7) } = q) := ⟨_, hid rfl⟩
          have HSZ : Hid (∀ W, Below w.heap.size w W → Below w10.heap.size w10 W → Calls Tryd.prog 13 #[.agg CA, .agg X] W fun e w' => e = .returned (.bool sy) ∧ Below W.heap.size W w') := hid (fun W h h2 => by
            have := HSX.out (.agg X) { a with txs := turnT a.txs k (-7) } W h ⟨_, by rw [← HX.out]; rfl, hpa, HTY.out.below h2⟩
            rw [HSY.out] at this
            exact this)
          have hldA := HLDA.out
          have hldX := HLDX.out
          have hu := under_hash
          have hsz : (Tryd.prog.info? 23).map (·.size) = some DL.length := by rw [size_hash, HDL32.out]
          have heq : ∀ W, (Op.equalIn 10000 23 (.agg D) (.agg DL.toArray)).run Tryd.prog W = .ok true W := fun W => by rw [← HDL.out, Array.toArray_toList]; exact HEQ.out W
          have hbd : Below w10.heap.size w10 w10.drew := (Below.refl _ _).drew
          have q1 : IntKind.i64.wrap (at_ : Int) = (at_ : Int) := IntWalk.i64_in _ (by omega)
          have q2 : (at_ : Int).tmod (L : Int) = (k : Int) := by
            rw [Int.tmod_eq_emod_of_nonneg (by omega), ← HKk.out]
            exact (Int.natCast_emod at_ L).symm
          have q3 : (at_ : Int) % (L : Int) = (k : Int) := by
            rw [← HKk.out]
            exact (Int.natCast_emod at_ L).symm
          have q4 : (L : Int) ≠ 0 := by omega
          have q5 : 0 < (L : Int) := by omega
          have q8 : IntKind.i64.wrap (k : Int) = (k : Int) := IntWalk.i64_in _ (by omega)
          have q9 : ((L : Int) == 0) = false := by simp; omega
          have q10 : (k : Int) < (L : Int) := by omega
          have q6 : ¬ L = 0 := by omega
          by_cases hz : z = -7
          · have q7 : (z == -7) = true := by simpa using hz
            clear hz
            simp only [off_load 23 false, off_call 23 false, off_un 23 false]
            go_region_held3 (fun W => Three w.heap.size w3.heap.size CA CB X W ∧ W.cell? ⟨w.heap.size, 35, none⟩ = some (.slice (some ⟨ga, oa, none⟩) L sc) ∧ W.cell? ⟨ga, oa + k * 7 + 1, none⟩ = some (.int .i64 z) ∧ W.rangeAt w5.heap.size 0 DL)
              (first
                | (refine HQW.out _ hbd)
                | (refine HQW.out _ hb13)
                | (refine HQW.out _ hb11)
                | fail)
              (first
                | (go_at_call 7; (with_reducible refine (HA.out _ (HBX.out _ hb11)).mono ?_); rintro e w13 ⟨rfl, hb13'⟩; have hb13 := hb11.trans (hb13'.mono hb11.size))
                | (go_at_call 11; (with_reducible refine (HHC.out _ (HBX.out _ hbd)).mono ?_); rintro e w11 ⟨rfl, hb11'⟩; have hb11 := hbd.trans hb11')
                | fail)
            all_goals
              go_wp2_with fail
              go_ret
              exact ⟨rfl, HBX.out _ hb13⟩
          · obtain rfl : sy = false := by
              rw [← HSY.out]
              refine sameK_no (fun e => ?_)
              have e2 := congrArg BkM.txs e
              exact turnT_other hka (by rw [HZN.out]; exact hz) e2.symm
            have q7 : (z == -7) = false := by simpa using hz
            clear hz
            go_region_held3 (fun W => Three w.heap.size w3.heap.size CA CB X W ∧ W.cell? ⟨w.heap.size, 35, none⟩ = some (.slice (some ⟨ga, oa, none⟩) L sc) ∧ W.cell? ⟨ga, oa + k * 7 + 1, none⟩ = some (.int .i64 z) ∧ W.rangeAt w5.heap.size 0 DL)
              (first
                | (refine HQW.out _ hbd)
                | (refine HQW.out _ hb13)
                | (refine HQW.out _ hb12)
                | (refine HQW.out _ hb11)
                | fail)
              (first
                | (go_at_call 7; (with_reducible refine (HA.out _ (HBX.out _ hb12)).mono ?_); rintro e w13 ⟨rfl, hb13'⟩; have hb13 := hb12.trans (hb13'.mono hb12.size))
                | (go_at_call 13; (with_reducible refine (HSZ.out _ (HBX.out _ hb11) hb11).mono ?_); rintro e w12 ⟨rfl, hb12'⟩; have hb12 := hb11.trans (hb12'.mono hb11.size))
                | (go_at_call 11; (with_reducible refine (HHC.out _ (HBX.out _ hbd)).mono ?_); rintro e w11 ⟨rfl, hb11'⟩; have hb11 := hbd.trans hb11')
                | fail)
            go_wp2_with fail
            go_ret
            exact ⟨rfl, HBX.out _ hb13⟩
        · obtain rfl : L = 0 := by omega
          have hB10 := HBW.out w9 hb9
          have HQ9 := HQ.out w9 hb9
          have HQW : Hid (∀ W, Below w9.heap.size w9 W → Three w.heap.size w3.heap.size CA CB X W ∧ W.cell? ⟨w.heap.size, 35, none⟩ = some (.slice SA 0 sc) ∧ Blk W w5.heap.size 32 (fun j => bcell (hashK a j)) 23) := hid (fun W h => by
            obtain ⟨⟨⟨t1, t2⟩, t3⟩, t4⟩ := HQ9
            have e1 := (h.block _ (lt_of_block t1)).trans t1
            exact ⟨⟨⟨e1, (h.block _ (lt_of_block t2)).trans t2⟩, (h.block _ (lt_of_block t3)).trans t3⟩, (cell_blk e1 35).trans HA35.out, t4.keep h⟩)
          have HBX : Hid (∀ W, Below w9.heap.size w9 W → Below w.heap.size w W) := hid (fun W h => hB10.trans (h.mono hB10.size))
          clear HQ9
          go_upto_region 9 with (fail)
          have hldA := HLDA.out
          have hldH : ∀ W : World, Blk W w5.heap.size 32 (fun j => bcell (hashK a j)) 23 → loadH (.pointer (some ⟨w5.heap.size, 0, none⟩)) W = .ok (.value (.agg D)) W := fun W h => by
            rw [← HD.out]
            have := run_loadVar_row (P := Tryd.prog) W w5.heap.size 23 23 (fcells 32 fun j => bcell (hashK a j)) (0, 0) _ h under_hash rfl (by rw [size_hash, fcells_size])
            unfold loadH execOp
            simp only [Instr.loadAt, Instr.sureAddr, Sem.run_bind, Sem.run_pure, Result.andThen_ok, this]
          have HLH := hid hldH
          have heq := HEQ.out
          have hbd : Below w9.heap.size w9 w9.drew := (Below.refl _ _).drew
          clear hL0 k9 hldH
          refine wp_region_held_drew (S := fun W => Three w.heap.size w3.heap.size CA CB X W ∧ W.cell? ⟨w.heap.size, 35, none⟩ = some (.slice SA 0 sc) ∧ Blk W w5.heap.size 32 (fun j => bcell (hashK a j)) 23) (by kernel_rfl) (HQW.out _ hbd) (fun hHeld => ?_)
          refine' take_on (i := 0) (v := _) rfl (by kernel_rfl) (by kernel_rfl) (by kernel_rfl) (fun _ _ _ h => h) (by rfl) ?_ (by assumption) ?_
          rotate_left
          · (intro W hW; (try dsimp only at hW); go_simp; first | done | with_reducible rfl)
          try simp only [Act.put, List.setIfInBounds_toArray, List.set_cons_zero, List.set_cons_succ]
          refine' take_on (i := 2) (v := _) rfl (by kernel_rfl) (by kernel_rfl) (by kernel_rfl) (fun _ _ _ h => h) (by rfl) (fun W hW => HLH.out W hW.2.2) (by assumption) ?_
          try simp only [Act.put, List.setIfInBounds_toArray, List.set_cons_zero, List.set_cons_succ]
          refine call_on (i := 1) rfl (by kernel_rfl) (by rfl) (fun K hK => ?_)
          go_simp; refine (HHC.out _ (HBX.out _ hbd)).mono ?_; rintro e w11 ⟨rfl, hb11'⟩; have hb11 := hbd.trans hb11'
          refine hK.out _ _ (HQW.out _ hb11) (fun hHeld => ?_)
          clear hK K
          try simp only [Act.put, List.setIfInBounds_toArray, List.set_cons_zero, List.set_cons_succ]
          refine' take_on (i := 3) (v := _) rfl (by kernel_rfl) (by kernel_rfl) (by kernel_rfl) (fun _ _ _ h => h) (by rfl) ?_ (by assumption) ?_
          rotate_left
          · (intro W hW; (try dsimp only at hW); go_simp; first | done | with_reducible rfl)
          try simp only [Act.put, List.setIfInBounds_toArray, List.set_cons_zero, List.set_cons_succ]
          refine' take_on (i := 4) (v := _) rfl (by kernel_rfl) (by kernel_rfl) (by kernel_rfl) (fun _ _ _ h => h) (by rfl) ?_ (by assumption) ?_
          rotate_left
          · (intro W hW; (try dsimp only at hW); go_simp; first | done | with_reducible rfl)
          try simp only [Act.put, List.setIfInBounds_toArray, List.set_cons_zero, List.set_cons_succ]
          refine' take_on (i := 5) (v := _) rfl (by kernel_rfl) (by kernel_rfl) (by kernel_rfl) (fun _ _ _ h => h) (by rfl) ?_ (by assumption) ?_
          rotate_left
          · (intro W hW; (try dsimp only at hW); go_simp; first | done | with_reducible rfl)
          try simp only [Act.put, List.setIfInBounds_toArray, List.set_cons_zero, List.set_cons_succ]
          refine' take_on (i := 6) (v := _) rfl (by kernel_rfl) (by kernel_rfl) (by kernel_rfl) (fun _ _ _ h => h) (by rfl) ?_ (by assumption) ?_
          rotate_left
          · (intro W hW; (try dsimp only at hW); go_simp; first | done | with_reducible rfl)
          try simp only [Act.put, List.setIfInBounds_toArray, List.set_cons_zero, List.set_cons_succ]
          refine' take_on (i := 7) (v := _) rfl (by kernel_rfl) (by kernel_rfl) (by kernel_rfl) (fun _ _ _ h => h) (by rfl) ?_ (by assumption) ?_
          rotate_left
          · (intro W hW; (try dsimp only at hW); go_simp; first | done | with_reducible rfl)
          try simp only [Act.put, List.setIfInBounds_toArray, List.set_cons_zero, List.set_cons_succ]
          refine' take_on (i := 8) (v := _) rfl (by kernel_rfl) (by kernel_rfl) (by kernel_rfl) (fun _ _ _ h => h) (by rfl) ?_ (by assumption) ?_
          rotate_left
          · (intro W hW; (try dsimp only at hW); go_simp; first | done | with_reducible rfl)
          try simp only [Act.put, List.setIfInBounds_toArray, List.set_cons_zero, List.set_cons_succ]
          refine' take_on (i := 9) (v := _) rfl (by kernel_rfl) (by kernel_rfl) (by kernel_rfl) (fun _ _ _ h => h) (by rfl) ?_ (by assumption) ?_
          rotate_left
          · (intro W hW; (try dsimp only at hW); go_simp; first | done | with_reducible rfl)
          try simp only [Act.put, List.setIfInBounds_toArray, List.set_cons_zero, List.set_cons_succ]
          refine take_off (i := 10) rfl (by kernel_rfl) (by kernel_rfl) (by kernel_rfl) (fun _ _ _ h => h) (by rfl) (by assumption) ?_
          try simp only [Act.put, List.setIfInBounds_toArray, List.set_cons_zero, List.set_cons_succ]
          refine take_off (i := 11) rfl (by kernel_rfl) (by kernel_rfl) (by kernel_rfl) (fun _ _ _ h => h) (by rfl) (by assumption) ?_
          try simp only [Act.put, List.setIfInBounds_toArray, List.set_cons_zero, List.set_cons_succ]
          refine take_off (i := 12) rfl (by kernel_rfl) (by kernel_rfl) (by kernel_rfl) (fun _ _ _ h => h) (by rfl) (by assumption) ?_
          try simp only [Act.put, List.setIfInBounds_toArray, List.set_cons_zero, List.set_cons_succ]
          refine take_off (i := 13) rfl (by kernel_rfl) (by kernel_rfl) (by kernel_rfl) (fun _ _ _ h => h) (by rfl) (by assumption) ?_
          try simp only [Act.put, List.setIfInBounds_toArray, List.set_cons_zero, List.set_cons_succ]
          refine take_off (i := 14) rfl (by kernel_rfl) (by kernel_rfl) (by kernel_rfl) (fun _ _ _ h => h) (by rfl) (by assumption) ?_
          try simp only [Act.put, List.setIfInBounds_toArray, List.set_cons_zero, List.set_cons_succ]
          refine take_off (i := 15) rfl (by kernel_rfl) (by kernel_rfl) (by kernel_rfl) (fun _ _ _ h => h) (by rfl) (by assumption) ?_
          try simp only [Act.put, List.setIfInBounds_toArray, List.set_cons_zero, List.set_cons_succ]
          refine take_off (i := 16) rfl (by kernel_rfl) (by kernel_rfl) (by kernel_rfl) (fun _ _ _ h => h) (by rfl) (by assumption) ?_
          try simp only [Act.put, List.setIfInBounds_toArray, List.set_cons_zero, List.set_cons_succ]
          refine take_off (i := 17) rfl (by kernel_rfl) (by kernel_rfl) (by kernel_rfl) (fun _ _ _ h => h) (by rfl) (by assumption) ?_
          try simp only [Act.put, List.setIfInBounds_toArray, List.set_cons_zero, List.set_cons_succ]
          refine take_off (i := 18) rfl (by kernel_rfl) (by kernel_rfl) (by kernel_rfl) (fun _ _ _ h => h) (by rfl) (by assumption) ?_
          try simp only [Act.put, List.setIfInBounds_toArray, List.set_cons_zero, List.set_cons_succ]
          refine take_off (i := 19) rfl (by kernel_rfl) (by kernel_rfl) (by kernel_rfl) (fun _ _ _ h => h) (by rfl) (by assumption) ?_
          try simp only [Act.put, List.setIfInBounds_toArray, List.set_cons_zero, List.set_cons_succ]
          refine take_off (i := 20) rfl (by kernel_rfl) (by kernel_rfl) (by kernel_rfl) (fun _ _ _ h => h) (by rfl) (by assumption) ?_
          try simp only [Act.put, List.setIfInBounds_toArray, List.set_cons_zero, List.set_cons_succ]
          refine take_off (i := 21) rfl (by kernel_rfl) (by kernel_rfl) (by kernel_rfl) (fun _ _ _ h => h) (by rfl) (by assumption) ?_
          try simp only [Act.put, List.setIfInBounds_toArray, List.set_cons_zero, List.set_cons_succ]
          refine' take_on (i := 22) (v := _) rfl (by kernel_rfl) (by kernel_rfl) (by kernel_rfl) (fun _ _ _ h => h) (by rfl) ?_ (by assumption) ?_
          rotate_left
          · (intro W hW; (try dsimp only at hW); go_simp; first | done | with_reducible rfl)
          try simp only [Act.put, List.setIfInBounds_toArray, List.set_cons_zero, List.set_cons_succ]
          refine' take_on (i := 23) (v := _) rfl (by kernel_rfl) (by kernel_rfl) (by kernel_rfl) (fun _ _ _ h => h) (by rfl) ?_ (by assumption) ?_
          rotate_left
          · (intro W hW; (try dsimp only at hW); go_simp; first | done | with_reducible rfl)
          try simp only [Act.put, List.setIfInBounds_toArray, List.set_cons_zero, List.set_cons_succ]
          refine take_off (i := 24) rfl (by kernel_rfl) (by kernel_rfl) (by kernel_rfl) (fun _ _ _ h => h) (by rfl) (by assumption) ?_
          try simp only [Act.put, List.setIfInBounds_toArray, List.set_cons_zero, List.set_cons_succ]
          refine take_off (i := 25) rfl (by kernel_rfl) (by kernel_rfl) (by kernel_rfl) (fun _ _ _ h => h) (by rfl) (by assumption) ?_
          try simp only [Act.put, List.setIfInBounds_toArray, List.set_cons_zero, List.set_cons_succ]
          refine take_off (i := 26) rfl (by kernel_rfl) (by kernel_rfl) (by kernel_rfl) (fun _ _ _ h => h) (by rfl) (by assumption) ?_
          try simp only [Act.put, List.setIfInBounds_toArray, List.set_cons_zero, List.set_cons_succ]
          refine take_off (i := 27) rfl (by kernel_rfl) (by kernel_rfl) (by kernel_rfl) (fun _ _ _ h => h) (by rfl) (by assumption) ?_
          try simp only [Act.put, List.setIfInBounds_toArray, List.set_cons_zero, List.set_cons_succ]
          refine' take_on (i := 28) (v := _) rfl (by kernel_rfl) (by kernel_rfl) (by kernel_rfl) (fun _ _ _ h => h) (by rfl) ?_ (by assumption) ?_
          rotate_left
          · (intro W hW; (try dsimp only at hW); go_simp; first | done | with_reducible rfl)
          try simp only [Act.put, List.setIfInBounds_toArray, List.set_cons_zero, List.set_cons_succ]
          refine' take_on (i := 29) (v := _) rfl (by kernel_rfl) (by kernel_rfl) (by kernel_rfl) (fun _ _ _ h => h) (by rfl) ?_ (by assumption) ?_
          rotate_left
          · (intro W hW; (try dsimp only at hW); go_simp; first | done | with_reducible rfl)
          try simp only [Act.put, List.setIfInBounds_toArray, List.set_cons_zero, List.set_cons_succ]
          refine' take_on (i := 30) (v := _) rfl (by kernel_rfl) (by kernel_rfl) (by kernel_rfl) (fun _ _ _ h => h) (by rfl) ?_ (by assumption) ?_
          rotate_left
          · (intro W hW; (try dsimp only at hW); go_simp; first | done | with_reducible rfl)
          try simp only [Act.put, List.setIfInBounds_toArray, List.set_cons_zero, List.set_cons_succ]
          refine call_on (i := 31) rfl (by kernel_rfl) (by rfl) (fun K hK => ?_)
          go_simp; refine (HA.out _ (HBX.out _ hb11)).mono ?_; rintro e w13 ⟨rfl, hb13'⟩; have hb13 := hb11.trans (hb13'.mono hb11.size)
          refine hK.out _ _ (HQW.out _ hb13) (fun hHeld => ?_)
          clear hK K
          try simp only [Act.put, List.setIfInBounds_toArray, List.set_cons_zero, List.set_cons_succ]
          refine' take_on (i := 32) (v := _) rfl (by kernel_rfl) (by kernel_rfl) (by kernel_rfl) (fun _ _ _ h => h) (by rfl) ?_ (by assumption) ?_
          rotate_left
          · (intro W hW; (try dsimp only at hW); go_simp; first | done | with_reducible rfl)
          try simp only [Act.put, List.setIfInBounds_toArray, List.set_cons_zero, List.set_cons_succ]
          refine' take_on (i := 33) (v := _) rfl (by kernel_rfl) (by kernel_rfl) (by kernel_rfl) (fun _ _ _ h => h) (by rfl) ?_ (by assumption) ?_
          rotate_left
          · (intro W hW; (try dsimp only at hW); go_simp; first | done | with_reducible rfl)
          try simp only [Act.put, List.setIfInBounds_toArray, List.set_cons_zero, List.set_cons_succ]
          refine wpAnyH_done (by kernel_rfl) ?_ _
          go_wp2_with fail
          go_ret
          exact ⟨rfl, HBX.out _ hb13⟩
end Go.Proofs.YtekfkfpfnhoblaaDoor

/-
  A slice of bytes that came in reads as bytes.
-/
namespace Go.Proofs.YtekfkfpfnhoblaaDoor
set_option maxRecDepth 20000
open Go.ChangeShapes Go.WideShapes Go.ChangeAt Go.RowKit

theorem ownKnob_none : ownKnob Tryd.prog.godebug = none := by kernel_rfl
theorem laidOut : laidOutB Tryd.prog = true := by kernel_rfl

/-- What is known of a slice of integers that came in. -/
def IsRow (k : IntKind) (w : World) (a : Option Addr) (len cap : Nat) (zs : List Int) : Prop :=
  (a = none ∧ len = 0 ∧ cap = 0 ∧ zs = []) ∨
  ∃ x, a = some x ∧ len ≤ cap ∧ cap ≤ maxLen ∧ zs.length = cap ∧ (∀ i, i < zs.length → w.cell? (x.add i) = some (.int k (zs.getD i 0))) ∧ ∀ n ∈ zs, (Lit.int k n).wf = true

theorem row_byt {w : World} {a : Option Addr} {len cap : Nat} {zs : List Int} (h : IsRow .u8 w a len cap zs) : ∃ l : List UInt8, l.length = len ∧ Byt w (.slice a len cap) l := by
  rcases h with ⟨rfl, rfl, rfl, rfl⟩ | ⟨x, rfl, hl, hm, hz, hcell, hwz⟩
  · exact ⟨[], rfl, Byt.nil w⟩
  · have hlen : ((zs.take len).map fun n => UInt8.ofNat n.toNat).length = len := by simp; omega
    refine ⟨(zs.take len).map fun n => UInt8.ofNat n.toNat, hlen, some x, cap, by rw [hlen], by omega, hm, fun h0 => ?_⟩
    rw [hlen] at h0
    obtain ⟨b, off, spot⟩ := x
    have hc := hcell 0 (by omega)
    have hspot : spot = none := by simpa [Addr.add] using World.cell?_spot hc
    subst hspot
    refine ⟨b, off, rfl, ?_, fun j hj => ?_⟩
    · have := World.block_lt_of_cell? w _ hc
      rw [addr_add] at this
      exact this
    · rw [hlen] at hj
      have hjz : j < zs.length := by omega
      have := hcell j hjz
      rw [addr_add] at this
      rw [this]
      have hw := hwz zs[j] (List.getElem_mem hjz)
      have hr : 0 ≤ zs[j] ∧ zs[j] ≤ 255 := by simpa [Lit.wf, IntKind.min, IntKind.max, IntKind.signed, IntKind.bits] using hw
      have e : zs.getD j 0 = zs[j] := by simp [hjz]
      rw [e]
      unfold bcell
      congr 2
      simp only [List.getElem_map, List.getElem_take]
      rw [UInt8.toNat_ofNat']
      omega
end Go.Proofs.YtekfkfpfnhoblaaDoor

/-
  How arguments of the law's own struct type read: a number, a text, a hash; one by value, or a slice of them.
-/
namespace Go.Proofs.YtekfkfpfnhoblaaDoor
set_option maxRecDepth 20000
open Go.ChangeShapes Go.WideShapes Go.ChangeAt Go.RowKit Go.Deep

section
variable {H : Type} {enc : TypeId × Value → H} {w : World} {base : Nat} {spare : Nat → Bool} {held : Bool} {fuel : Nat} {cs : List Value} {x : DataW H × List MemPlace}

theorem trod_bytes (h : DataW.trod enc Tryd.prog w base spare held fuel 29 cs = some x) : ∃ v l, cs = [v] ∧ Byt w v l := by
  rcases open_ints Tryd.underlying29 Tryd.underlying5 (by kernel_rfl) h with ⟨rfl, _⟩ | ⟨a, len, cap, zs, rfl, _, hl, hm, hz, _, hcell, hwz⟩
  · exact ⟨_, [], rfl, Byt.nil w⟩
  · have hlz : len ≤ zs.length := by rw [hz]; split <;> omega
    have hlen : ((zs.take len).map fun n => UInt8.ofNat n.toNat).length = len := by simp; omega
    refine ⟨_, (zs.take len).map fun n => UInt8.ofNat n.toNat, rfl, some a, cap, by rw [hlen], by omega, hm, fun h0 => ?_⟩
    rw [hlen] at h0
    obtain ⟨b, off, spot⟩ := a
    have hc := hcell 0 (by omega)
    have hspot : spot = none := by simpa [Addr.add] using World.cell?_spot hc
    subst hspot
    refine ⟨b, off, rfl, ?_, fun j hj => ?_⟩
    · have := World.block_lt_of_cell? w _ hc
      rw [addr_add] at this
      exact this
    · rw [hlen] at hj
      have hjz : j < zs.length := by omega
      have := hcell j hjz
      rw [addr_add] at this
      rw [this]
      have hw := hwz zs[j] (List.getElem_mem hjz)
      have hr : 0 ≤ zs[j] ∧ zs[j] ≤ 255 := by simpa [Lit.wf, IntKind.min, IntKind.max, IntKind.signed, IntKind.bits] using hw
      have e : zs.getD j 0 = zs[j] := by simp [hjz]
      rw [e]
      unfold bcell
      congr 2
      simp only [List.getElem_map, List.getElem_take]
      rw [UInt8.toNat_ofNat']
      omega

theorem trod_byte (h : DataW.trod enc Tryd.prog w base spare held fuel 5 cs = some x) : ∃ c : UInt8, cs = [bcell c] := by
  obtain ⟨n, rfl, _, hw⟩ := DataW.trod_int Tryd.underlying5 h
  have hr : 0 ≤ n ∧ n ≤ 255 := by simpa [Lit.wf, IntKind.min, IntKind.max, IntKind.signed, IntKind.bits] using hw
  refine ⟨UInt8.ofNat n.toNat, ?_⟩
  unfold bcell
  rw [UInt8.toNat_ofNat']
  congr 2
  omega

theorem trod_hash (h : DataW.trod enc Tryd.prog w base spare held fuel 23 cs = some x) : ∃ l : List UInt8, l.length = 32 ∧ cs = bcells l := by
  have hc : Tryd.prog.cellsOf 5 = 1 := by kernel_rfl
  have hc2 : Tryd.prog.cellsOf 23 = 32 := by kernel_rfl
  obtain ⟨xs, m, _, _, hlen, hxl, hi⟩ := DataW.trod_array under_hash h
  rw [hc2] at hlen
  rw [hc] at hi
  have hb : ∀ i, i < 32 → ∃ c : UInt8, cs[i]? = some (bcell c) := by
    intro i hi32
    have h1 := hi i hi32
    rw [List.getElem?_eq_getElem (by omega)] at h1
    obtain ⟨c, hcs⟩ := trod_byte h1
    refine ⟨c, ?_⟩
    have h2 := congrArg (fun l => l[0]?) hcs
    simpa [List.getElem?_take, List.getElem?_drop] using h2
  refine ⟨cs.map fun v => match v with | .int _ n => UInt8.ofNat n.toNat | _ => 0, by simpa using hlen, ?_⟩
  apply List.ext_getElem?
  intro i
  by_cases h32 : i < 32
  · obtain ⟨c, hci⟩ := hb i h32
    have hlt : i < cs.length := by omega
    rw [hci]
    rw [List.getElem?_eq_getElem hlt] at hci
    injection hci with hci
    simp only [bcells, List.map_map, List.getElem?_map, List.getElem?_eq_getElem hlt, Option.map_some, hci, Function.comp]
    simp [bcell]
  · rw [List.getElem?_eq_none (by omega), List.getElem?_eq_none (by simp [bcells]; omega)]

/-- What is known of a number, a text and a hash that came in together. -/
structure PutD where
  n : Nat
  v : Value
  t : List UInt8
  h : List UInt8
/-- The cells of one. -/
def PutD.cells (d : PutD) : List Value := .int .u64 (d.n : Int) :: d.v :: bcells d.h
/-- .. that can be read. -/
structure PutD.Ok (d : PutD) (w : World) : Prop where
  n : d.n < 18446744073709551616
  v : Byt w d.v d.t
  h : d.h.length = 32

/-- A slice of such things that came in. -/
def Puts (w : World) (v : Value) (ps : List PutD) : Prop :=
  ∃ A c, v = .slice A ps.length c ∧ ps.length ≤ c ∧ c ≤ maxLen ∧
    (0 < ps.length → ∃ b off, A = some ⟨b, off, none⟩ ∧ b < w.heap.size ∧ ∀ i (h : i < ps.length), ps[i].Ok w ∧ w.rangeAt b (off + i * 34) ps[i].cells)

end

/-- The bytes of one. -/
def PutD.enc (d : PutD) : List UInt8 := dg d.n ++ (tx d.t ++ d.h)
/-- The bytes of several, one behind the other. -/
def encs (ps : List PutD) : List UInt8 := (ps.map PutD.enc).flatten
theorem encs_succ (ps : List PutD) (i : Nat) (h : i < ps.length) : encs (ps.take (i + 1)) = encs (ps.take i) ++ ps[i].enc := by
  unfold encs
  rw [List.take_succ_eq_append_getElem h, List.map_append, List.flatten_append]
  simp
theorem encs_drop (ps : List PutD) (i : Nat) (h : i < ps.length) : (encs ps).drop (encs (ps.take i)).length = ps[i].enc ++ encs (ps.drop (i + 1)) := by
  have e : encs ps = encs (ps.take i) ++ (ps[i].enc ++ encs (ps.drop (i + 1))) := by
    unfold encs
    have h1 : ps = ps.take i ++ (ps[i] :: ps.drop (i + 1)) := by rw [← List.drop_eq_getElem_cons h, List.take_append_drop]
    have h2 : (ps.map PutD.enc).flatten = ((ps.take i ++ (ps[i] :: ps.drop (i + 1))).map PutD.enc).flatten := by rw [← h1]
    rw [h2, List.map_append, List.flatten_append, List.map_cons, List.flatten_cons]
  rw [e, List.drop_left]
theorem enc_len {d : PutD} (hn : d.n < 18446744073709551616) (hh : d.h.length = 32) (ht : d.t.length ≤ 300) : d.enc.length ≤ 400 := by
  have h1 := dg_len10 hn
  have h2 := dg_len10 (n := d.t.length) (by omega)
  unfold PutD.enc
  simp only [List.length_append, tx_len]
  omega
theorem Puts.keep {w w' : World} {v : Value} {ps : List PutD} (h : Puts w v ps) (hb : Below w.heap.size w w') : Puts w' v ps := by
  obtain ⟨A, c, e, h1, h2, h3⟩ := h
  refine ⟨A, c, e, h1, h2, fun h0 => ?_⟩
  obtain ⟨b, off, ea, hlt, hc⟩ := h3 h0
  refine ⟨b, off, ea, Nat.lt_of_lt_of_le hlt hb.size, fun i hi => ?_⟩
  obtain ⟨ok, hr⟩ := hc i hi
  exact ⟨⟨ok.n, ok.v.below hb, ok.h⟩, fun j u hu => (hb.cell (p := ⟨b, off + i * 34 + j, none⟩) hlt).trans (hr j u hu)⟩
theorem PutD.at_ {d : PutD} {w : World} {b o : Nat} (h : w.rangeAt b o d.cells) : w.cell? ⟨b, o, none⟩ = some (.int .u64 (d.n : Int)) ∧ w.cell? ⟨b, o + 1, none⟩ = some d.v ∧ w.rangeAt b (o + 2) (bcells d.h) :=
  ⟨h 0 _ rfl, h 1 _ rfl, fun j u hu => by
    have := h (j + 2) u (by rw [← hu]; rfl)
    rw [← this]
    congr 2
    omega⟩
theorem range_below {w w' : World} {B b o : Nat} {l : List Value} (h : w.rangeAt b o l) (hb : Below B w w') (hlt : b < B) : w'.rangeAt b o l := fun j u hu => (hb.cell (p := ⟨b, o + j, none⟩) hlt).trans (h j u hu)
end Go.Proofs.YtekfkfpfnhoblaaDoor

/-
  A transaction, as it came in by value.
-/
namespace Go.Proofs.YtekfkfpfnhoblaaDoor
set_option maxRecDepth 20000
open Go.ChangeShapes Go.WideShapes Go.ChangeAt Go.RowKit

theorem fields_tx : ∃ f0 f1 f2 f3 f4 f5 f6 : Field, Tryd.prog.underlying 45 = some (.struct #[f0, f1, f2, f3, f4, f5, f6]) ∧ (f0.type, f0.offset) = (3, 0) ∧ (f1.type, f1.offset) = (3, 1) ∧ (f2.type, f2.offset) = (3, 2)
    ∧ (f3.type, f3.offset) = (3, 3) ∧ (f4.type, f4.offset) = (3, 4) ∧ (f5.type, f5.offset) = (9, 5) ∧ (f6.type, f6.offset) = (9, 6) :=
  ⟨_, _, _, _, _, _, _, Tryd.underlying45, rfl, rfl, rfl, rfl, rfl, rfl, rfl⟩
theorem cell_of_part {cs : List Value} {o : Nat} {v : Value} (e : (cs.drop o).take 1 = [v]) : cs[o]? = some v := by
  have h1 := congrArg (fun l => l[0]?) e
  simp only [List.getElem?_take_of_lt (show 0 < 1 by omega), List.getElem?_drop, Nat.add_zero] at h1
  exact h1

theorem trod_tx {H : Type} {enc : TypeId × Value → H} {w : World} {base : Nat} {spare : Nat → Bool} {held : Bool} {fuel : Nat} {cs : List Value} {x : DataW H × List MemPlace}
    (h : DataW.trod enc Tryd.prog w base spare held fuel 45 cs = some x) : ∃ t : TxM, (t.key.length ≤ maxLen ∧ t.val.length ≤ maxLen) ∧ cs = (#[.int .i64 t.fr, .int .i64 t.no, .int .i64 t.ki, .int .i64 t.to, .int .i64 t.am, .string (sb t.key), .string (sb t.val)] : Array Value).toList := by
  obtain ⟨f0, f1, f2, f3, f4, f5, f6, hu, e0, e1, e2, e3, e4, e5, e6⟩ := fields_tx
  injection e0 with t0 o0
  injection e1 with t1 o1
  injection e2 with t2 o2
  injection e3 with t3 o3
  injection e4 with t4 o4
  injection e5 with t5 o5
  injection e6 with t6 o6
  obtain ⟨xs, m, _, _, hlen, hxl, hf⟩ := DataW.trod_struct hu h
  have hc : Tryd.prog.cellsOf 45 = 7 := by kernel_rfl
  have hci : Tryd.prog.cellsOf 3 = 1 := by kernel_rfl
  have hcs : Tryd.prog.cellsOf 9 = 1 := by kernel_rfl
  rw [hc] at hlen
  have hx : xs.length = 7 := hxl
  have g0 := hf 0 f0 rfl
  have g1 := hf 1 f1 rfl
  have g2 := hf 2 f2 rfl
  have g3 := hf 3 f3 rfl
  have g4 := hf 4 f4 rfl
  have g5 := hf 5 f5 rfl
  have g6 := hf 6 f6 rfl
  rw [t0, o0, hci, List.getElem?_eq_getElem (by omega)] at g0
  rw [t1, o1, hci, List.getElem?_eq_getElem (by omega)] at g1
  rw [t2, o2, hci, List.getElem?_eq_getElem (by omega)] at g2
  rw [t3, o3, hci, List.getElem?_eq_getElem (by omega)] at g3
  rw [t4, o4, hci, List.getElem?_eq_getElem (by omega)] at g4
  rw [t5, o5, hcs, List.getElem?_eq_getElem (by omega)] at g5
  rw [t6, o6, hcs, List.getElem?_eq_getElem (by omega)] at g6
  obtain ⟨n0, c0, _, _⟩ := DataW.trod_int Tryd.underlying3 g0
  obtain ⟨n1, c1, _, _⟩ := DataW.trod_int Tryd.underlying3 g1
  obtain ⟨n2, c2, _, _⟩ := DataW.trod_int Tryd.underlying3 g2
  obtain ⟨n3, c3, _, _⟩ := DataW.trod_int Tryd.underlying3 g3
  obtain ⟨n4, c4, _, _⟩ := DataW.trod_int Tryd.underlying3 g4
  obtain ⟨s5, c5, _, h5⟩ := DataW.trod_string Tryd.underlying9 g5
  obtain ⟨s6, c6, _, h6⟩ := DataW.trod_string Tryd.underlying9 g6
  refine ⟨⟨n0, n1, n2, n3, n4, bs s5, bs s6⟩, ⟨by simpa [bs] using h5, by simpa [bs] using h6⟩, ?_⟩
  have d0 := cell_of_part c0
  have d1 := cell_of_part c1
  have d2 := cell_of_part c2
  have d3 := cell_of_part c3
  have d4 := cell_of_part c4
  have d5 := cell_of_part c5
  have d6 := cell_of_part c6
  rw [sb_bs, sb_bs]
  apply List.ext_getElem?
  intro i
  match i with
  | 0 => exact d0
  | 1 => exact d1
  | 2 => exact d2
  | 3 => exact d3
  | 4 => exact d4
  | 5 => exact d5
  | 6 => exact d6
  | i + 7 => rw [List.getElem?_eq_none (by omega)]; rfl
end Go.Proofs.YtekfkfpfnhoblaaDoor
