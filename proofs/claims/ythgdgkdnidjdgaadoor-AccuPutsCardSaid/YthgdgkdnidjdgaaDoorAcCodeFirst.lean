/-
  accu.firstOnes: the attestations of the first ones, by their By.
-/
import Derived.Test.YthgdgkdnidjdgaaDoorAcCodeTop
import Derived.Test.YthgdgkdnidjdgaaDoorBs10
import Derived.Test.YthgdgkdnidjdgaaDoorBs6
import Derived.LoopTactic
import Derived.Outline
import Derived.Deep.QuietTactic
import Derived.BigQuiet
import Derived.Deep.DeepCutAuto
namespace Go.Proofs.YthgdgkdnidjdgaaDoor
set_option maxRecDepth 20000
open Go.RowKit

/-- A slice of one attestation: kept whole. -/
noncomputable def sliceAt1 (v : Value) (w : World) : Result Next := Sem.run Tryd.prog (execOp (fun _ => v) { dst := none, op := .buildSlice 24 1 #[(0, .tmp 0)], type := 0, pos := "", after := #[], guard := none }) w
theorem exec_slice_at1 (r : Operand → Value) (x : Operand) (dst : Option Tmp) (ty : TypeId) (pos : String) (after : Array Edge) (guard : Option (Nat × Bool)) (w : World) :
    Sem.run Tryd.prog (execOp r { dst := dst, op := .buildSlice 24 1 #[(0, x)], type := ty, pos := pos, after := after, guard := guard }) w = sliceAt1 (r x) w := by
  unfold sliceAt1 execOp
  simp
theorem sliceAt1_eq (a : AtM) (ha : a.Ok) (w : World) : sliceAt1 (.agg (atc a)) w = .ok (.value (.slice (some ⟨w.heap.size, 0, none⟩) 1 1)) (w.alloc (.cells (atc a) 36)) := by
  have hsz : (atc a).size = 101 := atc_size ha
  have e0 : (atc a).zipIdx = ((atl a).zipIdx).toArray := by unfold atc; simp
  unfold sliceAt1
  go_simp
  have e := putAt_mid (atl a) [] (atl atZ) [] (by rw [atl_length ha, atl_length atZ_ok])
  simp only [List.nil_append, List.append_nil, List.length_nil] at e
  rw [← fold_putSg] at e
  exact congrArg (fun C => w.alloc (.cells C 36)) e
attribute [local go_sem ↓] exec_load_att exec_load_hash exec_slice_at1

theorem ownA_ne {B g : Nat} {w : World} {T t : TypeId} {v : Value} {m : List AtM} {cs : Array Value} (h : OwnE atl 101 T B w v m) (hg : w.heap[g]? = some (.cells cs t (0, 0))) (ht : T ≠ t) : v.ownBlock ≠ some g := by
  rcases h.2 with ⟨rfl, _⟩ | ⟨g', cap, cur, rfl, _, hh, _⟩
  · simp [Value.ownBlock]
  · intro he
    obtain rfl : g' = g := by simpa [Value.ownBlock] using he
    rw [hh] at hg
    injection hg with hg
    injection hg with _ h2
    exact ht h2
/-- Where the first one of a part is: -1 if there is none. -/
def FoundX (l : List AtM) (b k : Int) : Prop := (k = -1 ∧ ∀ j (h : j < l.length), l[j].bo ≠ b) ∨ ∃ i, ∃ h : i < l.length, k = (i : Int) ∧ l[i].bo = b ∧ ∀ j (_ : j < l.length), j < i → l[j].bo ≠ b

set_option maxHeartbeats 800000 in
theorem acHas_any (a : AtM) (g : Nat) (b : Int) (w : World) (hg : w.heap[g]? = some (.cells #[.int .i64 b] 3 (0, 0))) :
    Calls Tryd.prog 51 #[.agg (atc a), .pointer (some ⟨g, 0, none⟩)] w fun e w' => e = .returned (.bool (decide (a.bo = b))) ∧ Below w.heap.size w w' := by
  have hb0 : Below w.heap.size w (w.alloc (.cells (atc a) 36)) := (Below.refl _ _).alloc (Nat.le_refl _) _
  have hA := BoxA.new w a
  have hg0 := (hb0.block _ (lt_of_block hg)).trans hg
  obtain ⟨C, HC⟩ : ∃ C : Array Value, Hid (atc a = C) := ⟨_, hid rfl⟩
  rw [HC.out] at hb0 hA hg0 ⊢
  clear hg
  go_enter Tryd.func51, Tryd.ntmps51
  go_upto_region 1 with (fail)
  generalize (w.alloc (.cells C 36)) = w0 at *
  have k0 := hA.cells.1
  have k1 := cell_of_one hg0
  clear hA hg0
  go_wp2_with fail
  go_ret
  exact ⟨ret_boolK (by first | rfl | simp), hb0⟩

set_option maxHeartbeats 1600000 in
theorem acIndex_any (v : Value) (l : List AtM) (g : Nat) (b : Int) (w0 : World) (hv : Els atl 101 w0 v l) (ho : ∀ a ∈ l, a.Ok) (hl : l.length ≤ 1000) (hg : w0.heap[g]? = some (.cells #[.int .i64 b] 3 (0, 0))) :
    Calls Tryd.prog 50 #[v, .func (.func 51) #[] #[.pointer (some ⟨g, 0, none⟩)]] w0 fun e w' => ∃ k : Int, e = .returned (.int .i64 k) ∧ FoundX l b k ∧ Below w0.heap.size w0 w' := by
  obtain ⟨A, c, rfl⟩ := hv.shape
  obtain ⟨n, HN⟩ : ∃ n : Nat, Hid (l.length = n) := ⟨_, hid rfl⟩
  rw [HN.out] at hv hl ⊢
  have HT := hid hv
  have HO := hid ho
  have HG := hid hg
  clear hv ho hg
  go_enter Tryd.func50, Tryd.ntmps50
  go_wp2_with fail
  go_loopw [8] (fun si wr => ∃ i : Nat, i ≤ n ∧ si = .int .i64 i ∧ Hid (∀ j (h : j < l.length), j < i → l[j].bo ≠ b) ∧ Below w0.heap.size w0 wr) (fun si _ => n - (intOf si).toNat)
  case atStart => exact ⟨0, Nat.zero_le _, rfl, hid (fun j _ h => absurd h (by omega)), Below.refl _ _⟩
  case round =>
    obtain ⟨i, hi, rfl, HB, hbr⟩ := hrel
    by_cases hlt : i < n
    · have hil : i < l.length := by rw [HN.out]; exact hlt
      obtain ⟨ba, oa, rfl, hba, hcla⟩ := (HT.out.below hbr).at_.2.2.2 (by omega)
      have hI : (i : Int) < (n : Int) := by omega
      have l1 : loadAtt (.pointer (some ⟨ba, oa + i * 101, none⟩)) wr = .ok (.value (.agg (atc l[i]))) wr := loadAtt_in (hcla i hil) (HO.out _ (List.getElem_mem hil))
      have HW := hid (acHas_any l[i] g b wr ((hbr.block _ (lt_of_block HG.out)).trans HG.out))
      obtain ⟨X, HX⟩ : ∃ C : Array Value, Hid (atc l[i] = C) := ⟨_, hid rfl⟩
      obtain ⟨m, HM⟩ : ∃ q : Bool, Hid (decide (l[i].bo = b) = q) := ⟨_, hid rfl⟩
      rw [HX.out] at l1
      rw [HX.out, HM.out] at HW
      clear hcla hba
      go_wp2_with fail
      refine HW.out.mono ?_
      rintro e w2 ⟨rfl, hb2⟩
      have hbr2 := hbr.trans (hb2.mono hbr.size)
      clear l1
      cases m with
      | false =>
        go_wp2_with fail
        go_roundw
        case rel =>
          refine ⟨i + 1, by omega, by go_num, hid (fun j h hj => ?_), hbr2⟩
          by_cases hji : j < i
          · exact HB.out j h hji
          · obtain rfl : j = i := by omega
            exact of_decide_eq_false HM.out
        case measure => simp [intOf]; omega
      | true =>
        go_wp2_with fail
        go_ret
        exact ⟨_, rfl, .inr ⟨i, hil, rfl, of_decide_eq_true HM.out, HB.out⟩, hbr2⟩
    · obtain rfl : i = n := by omega
      go_wp2_with fail
      go_ret
      exact ⟨_, rfl, .inl ⟨rfl, fun j h => HB.out j h (by have := HN.out; omega)⟩, hbr⟩

/-- Block g: the By that is looked for; the value s: the attestations yet. -/
structure FoSt (w0 w : World) (g : Nat) (b : Int) (s : Value) (L : List AtM) : Prop where
  bel : Below w0.heap.size w0 w
  lt : w0.heap.size ≤ g
  one : w.heap[g]? = some (.cells #[.int .i64 b] 3 (0, 0))
  own : OwnE atl 101 36 w0.heap.size w s L
section
variable {w0 w w' : World} {g : Nat} {b : Int} {s : Value} {L : List AtM}
theorem FoSt.below (h : FoSt w0 w g b s L) (hb : Below w.heap.size w w') : FoSt w0 w' g b s L :=
  ⟨h.bel.trans (hb.mono h.bel.size), h.lt, (hb.block _ (lt_of_block h.one)).trans h.one, h.own.below hb⟩
theorem FoSt.app (h : FoSt w0 w g b s L) {s' : Value} {L' : List AtM} (ho : OwnE atl 101 36 w0.heap.size w' s' L') (hg : w.grownBy w' s.ownBlock) : FoSt w0 w' g b s' L' := by
  have hne := ownA_ne h.own h.one (by decide)
  exact ⟨h.bel.grown hg h.bel.size (fun j hj => (World.ownsRow.lt h.own j hj).1), h.lt, (hg.block _ (lt_of_block h.one) (fun e => hne e.symm)).trans h.one, ho⟩
/-- The next one: its By is in a new variable. -/
theorem FoSt.next (h : FoSt w0 w g b s L) (b' : Int) : FoSt w0 (w.alloc (.cells #[.int .i64 b'] 3)) w.heap.size b' s L :=
  ⟨h.bel.alloc h.bel.size _, h.bel.size, heap_alloc_new w _, h.own.alloc _⟩
end
/-- The number that a variable has. -/
def acAt (p : Value) (w : World) : Nat := match p with
  | .pointer (some a) => match w.cell? a with
    | some v => (intOf v).toNat
    | none => 0
  | _ => 0
theorem acAt_eq {g : Nat} {b : Int} {w : World} (h : w.heap[g]? = some (.cells #[.int .i64 b] 3 (0, 0))) : acAt (.pointer (some ⟨g, 0, none⟩)) w = b.toNat := by
  unfold acAt
  simp only [cell_of_one h]
  simp [intOf]


set_option maxHeartbeats 6400000 in
theorem acFirst_any (v : Value) (l : List AtM) (q : Nat) (w : World) (hv : Els atl 101 w v l) (hok : ∀ a ∈ l, a.Ok) (hlen : l.length ≤ 1000) (hq : q ≤ 21) :
    Calls Tryd.prog 25 #[v, .int .i64 (q : Int)] w fun e w' => ∃ x, e = .returned x ∧ OwnE atl 101 36 w.heap.size w' x (firstA l q 21) ∧ Below w.heap.size w w' := by
  have hmf : ∀ (fn : Fn) (first cap : Array Value) (w : World), (Instr.makeFunc fn first cap).run Tryd.prog w = .ok (.func fn first cap) w := fun _ _ _ _ => rfl
  have HV := hid (fun W (h : Below w.heap.size w W) => hv.below h)
  have HOK := hid hok
  have HIX := hid (fun g b W (h : Below w.heap.size w W) hg => acIndex_any v l g b W (hv.below h) hok hlen hg)
  obtain ⟨A, kk, rfl⟩ := hv.shape
  obtain ⟨L, HL⟩ : ∃ n : Nat, Hid (l.length = n) := ⟨_, hid rfl⟩
  rw [HL.out] at HV HIX hlen ⊢
  have HQ21 := hid hq
  have HLEN := hid hlen
  have HST0 : Hid (FoSt w (w.alloc (.cells #[.int .i64 1] 3)) w.heap.size (((0 : Nat) : Int) + 1) (.slice none 0 0) []) := hid
    ⟨(Below.refl _ _).alloc (Nat.le_refl _) _, Nat.le_refl _, heap_alloc_new w _, OwnE.nil _ _⟩
  clear hv hok hlen
  go_enter Tryd.func25, Tryd.ntmps25
  go_wp2_with fail
  go_loopw [5, 6] (fun s p wr => ∃ (k g : Nat), k ≤ 21 ∧ p = .pointer (some ⟨g, 0, none⟩) ∧ FoSt w wr g ((k : Int) + 1) s (firstA l q k)) (fun _ p wr => 22 - acAt p wr)
  case atStart => exact ⟨0, _, Nat.zero_le _, rfl, HST0.out⟩
  case round =>
    obtain ⟨k, g, hk, rfl, hst⟩ := hrel
    clear HST0
    have HSG : Hid (∀ x ∈ firstA l q k, x.Ok) := hid (fun x hx => HOK.out x ((firstA_frX l q k).2.2 x hx))
    obtain ⟨SL, HSL⟩ : ∃ x : List AtM, Hid (firstA l q k = x) := ⟨_, hid rfl⟩
    have HQL : Hid (SL.length ≤ q) := hid (by rw [← HSL.out]; exact firstA_len l q k)
    rw [HSL.out] at hst HSG
    obtain ⟨SA, SC, rfl⟩ := hst.own.shape
    obtain ⟨sn, HSN⟩ : ∃ x : Nat, Hid (SL.length = x) := ⟨_, hid rfl⟩
    rw [HSN.out] at hst ⊢
    have HST := hid hst
    have c1 := cell_of_one hst.one
    have HCT := hid (acAt_eq hst.one)
    clear hst
    by_cases hle : k < 21
    · have hle1 : (k : Int) + 1 ≤ 21 := by omega
      by_cases hlq : sn < q
      · have hlq1 : (sn : Int) < (q : Int) := by omega
        have HLQ := hid hlq
        have HLE := hid hle
        clear hlq hle
        go_wp2_with fail
        refine (HIX.out g _ wr HST.out.bel HST.out.one).mono ?_
        rintro e w2 ⟨kx, rfl, hf, hb2⟩
        have HS2 := hid (HST.out.below hb2)
        have c2 := cell_of_one HS2.out.one
        clear c1 hb2
        rcases hf with ⟨rfl, hno⟩ | ⟨j, hil, rfl, hbo, hno⟩
        · have HFD : Hid (firstA l q (k + 1) = SL) := hid (by rw [← HSL.out]; exact firstA_lack hno)
          have HN := hid (HS2.out.next ((k : Int) + 1 + 1))
          clear hno
          go_wp2_with fail
          go_roundw
          case rel =>
            refine ⟨k + 1, _, by have := HLE.out; omega, rfl, ?_⟩
            rw [HFD.out]
            exact HN.out
          case measure => rw [HCT.out, acAt_eq HN.out.one]; have := HLE.out; omega
        · obtain ⟨x, HXX⟩ : ∃ x : AtM, Hid (l[j] = x) := ⟨_, hid rfl⟩
          have HXO : Hid x.Ok := hid (by rw [← HXX.out]; exact HOK.out _ (List.getElem_mem hil))
          have HFD : Hid (firstA l q (k + 1) = SL ++ [x]) := hid (by
            rw [← HSL.out, ← HXX.out]
            exact firstA_found (by rw [HSL.out, HSN.out]; exact HLQ.out) hil hbo hno)
          obtain ⟨G, HG⟩ : ∃ C : Array Value, Hid (atc x = C) := ⟨_, hid rfl⟩
          have hsl : ∀ W, sliceAt1 (.agg G) W = .ok (.value (.slice (some ⟨W.heap.size, 0, none⟩) 1 1)) (W.alloc (.cells G 36)) := fun W => by rw [← HG.out]; exact sliceAt1_eq x HXO.out W
          have HSGK : Hid (∀ u ∈ [x], u.Ok) := hid (fun u hu => by obtain rfl := List.mem_singleton.1 hu; exact HXO.out)
          have hjl : j < L := by have := HL.out; omega
          have hJ : (j : Int) < (L : Int) := by omega
          have hJ0 : (0 : Int) ≤ (j : Int) := by omega
          obtain ⟨ba, oa, rfl, _, _⟩ := (HV.out w2 HS2.out.bel).at_.2.2.2 (by have := HL.out; omega)
          have HLT : Hid (∀ W, Below w.heap.size w W → loadAtt (.pointer (some ⟨ba, oa + j * 101, none⟩)) W = .ok (.value (.agg G)) W) := hid (fun W h => by
            obtain ⟨ba', oa', e, _, hcl⟩ := (HV.out W h).at_.2.2.2 (by have := HL.out; omega)
            injection e with e
            injection e with e1 e2 _
            subst e1 e2
            have := loadAtt_in (hcl j hil) (HOK.out _ (List.getElem_mem hil))
            rw [HXX.out, HG.out] at this
            exact this)
          have l2 := HLT.out w2 HS2.out.bel
          have HS4 := hid (HS2.out.below ((Below.refl _ _).alloc (Nat.le_refl _) (.cells G 36)))
          have HEL : Hid (Els atl 101 (w2.alloc (.cells G 36)) (.slice (some ⟨w2.heap.size, 0, none⟩) 1 1) [x]) := hid (els_one w2 x G 36 HG.out)
          clear hno hbo
          go_upto_region 7 with (fail)
          clear c2
          go_wp2_with (at_builtin; go_loud (refine eltAt.wpList_append rfl (.tmp 23) (.tmp 28) rfl rfl rfl HSGK.out HS4.out.own HEL.out (by have := HSN.out; have := HQL.out; have := HQ21.out; simp only [List.length_cons, List.length_nil]; omega) HS4.out.bel.size ?_; intro v5 w5 ho5 hg5 hv5; have hs5 := HS4.out.app ho5 hg5; have HS5 := hid hs5; have c5' := cell_of_one hs5.one; have HN := hid (hs5.next ((k : Int) + 1 + 1)); clear hs5 ho5 hg5 hv5 l2))
          go_roundw
          case rel =>
            refine ⟨k + 1, _, by have := HLE.out; omega, rfl, ?_⟩
            rw [HFD.out]
            exact HN.out
          case measure => rw [HCT.out, acAt_eq HN.out.one]; have := HLE.out; omega
      · have hlq1 : ¬ (sn : Int) < (q : Int) := by omega
        have HFI : Hid (firstA l q 21 = SL) := hid (by rw [← HSL.out]; exact firstA_full (by rw [HSL.out, HSN.out]; exact hlq) 21 hk)
        clear hlq
        go_wp2_with fail
        go_ret
        exact ⟨_, rfl, by rw [HFI.out]; exact HST.out.own, HST.out.bel⟩
    · obtain rfl : k = 21 := by omega
      have hle1 : ¬ ((21 : Nat) : Int) + 1 ≤ 21 := by decide
      clear hle
      go_wp2_with fail
      go_ret
      exact ⟨_, rfl, by rw [HSL.out]; exact HST.out.own, HST.out.bel⟩
end Go.Proofs.YthgdgkdnidjdgaaDoor
