/-
  GatherOrders: in which order attestations come does not matter: the law's walk. Printed with gengo.py.
-/
import Derived.Test.YtpnejoglkmfleaaDoorAtCut
import Derived.Test.YtpnejoglkmfleaaDoorGaAwake
import Derived.Test.YtpnejoglkmfleaaDoorGaSame
namespace Go.Proofs.YtpnejoglkmfleaaDoor
set_option maxRecDepth 20000
open Go.RowKit
attribute [local go_sem ↓] exec_load_att exec_alloc_att exec_store_att exec_load_ct exec_alloc_ct exec_store_ct exec_ne_att exec_cut_ath exec_cut_atl
def OneAt (L : List AtM) (i k : Nat) : Prop := ∀ a b, L[i]? = some a → L[k]? = some b → keyA a b = true → a = b
theorem oneG_at {L : List AtM} (h : ∀ i, i < L.length → ∀ k, k < i → OneAt L i k) : OneG L := oneG_of (fun i hi k hk e => h i hi k hk _ _ (List.getElem?_eq_getElem hi) (List.getElem?_eq_getElem (Nat.lt_trans hk hi)) e)
structure OdSt (w W : World) (b1 m1 b2 m2 : Nat) (n : Int) (R1 R2 : List AtM) : Prop where
  g1 : Gth W b1 m1 n R1
  g2 : Gth W b2 m2 n R2
  k1 : OkG n R1
  k2 : OkG n R2
  ne : m1 ≠ m2
  h1 : w.heap.size ≤ m1
  h2 : w.heap.size ≤ m2
  bel : Below w.heap.size w W
section
variable {w W W' : World} {b m b1 m1 b2 m2 : Nat} {n : Int} {R1 R2 R L : List AtM} {a : AtM} {v : Value} {B : Nat}
theorem Gth.far (h : Gth W b m n L) (h2 : Gth W b2 m2 n R) (hg : W.grownBy W' (some m2)) (hne : m ≠ m2) : Gth W' b m n L := by
  obtain ⟨P, c, h, hp⟩ := h
  exact ⟨P, c, h.far hg (h2.ne h.p) hne, hp⟩
theorem OdSt.below (h : OdSt w W b1 m1 b2 m2 n R1 R2) (hb : Below W.heap.size W W') : OdSt w W' b1 m1 b2 m2 n R1 R2 :=
  ⟨h.g1.below hb, h.g2.below hb, h.k1, h.k2, h.ne, h.h1, h.h2, h.bel.trans (hb.mono h.bel.size)⟩
theorem OdSt.add1 (h : OdSt w W b1 m1 b2 m2 n R1 R2) (ha : a.Ok) (hg : Gth W' b1 m1 n (addG n R1 a).1) (hw : W.grownBy W' (some m1)) : OdSt w W' b1 m1 b2 m2 n (addG n R1 a).1 R2 :=
  ⟨hg, h.g2.far h.g1 hw h.ne.symm, h.k1.add ha, h.k2, h.ne, h.h1, h.h2, h.bel.grown hw h.bel.size (fun k e => by injection e with e; rw [← e]; exact h.h1)⟩
theorem OdSt.add2 (h : OdSt w W b1 m1 b2 m2 n R1 R2) (ha : a.Ok) (hg : Gth W' b2 m2 n (addG n R2 a).1) (hw : W.grownBy W' (some m2)) : OdSt w W' b1 m1 b2 m2 n R1 (addG n R2 a).1 :=
  ⟨h.g1.far h.g2 hw h.ne, hg, h.k1, h.k2.add ha, h.ne, h.h1, h.h2, h.bel.grown hw h.bel.size (fun k e => by injection e with e; rw [← e]; exact h.h2)⟩
theorem OwnE.turn (ho : OwnE atl 101 29 B W v L) (h : Gth W b m n R) (hg : W.grownBy W' (some m)) : OwnE atl 101 29 B W' v L :=
  ho.keep (fun k hk e => hg.block k hk (fun e2 => by
    rcases ho.2 with ⟨rfl, _⟩ | ⟨g, cap, cur, rfl, _, hh, _⟩
    · cases e
    · obtain rfl : g = k := by injection e
      injection e2 with e2
      exact h.ne hh e2))
end
def CeAt (w0 : World) (c : CtM × Bool) (s t : Value) (W : World) : Prop := ∃ g C, s = .pointer (some ⟨g, 0, none⟩) ∧ t = .bool c.2 ∧ W.heap[g]? = some (.cells C 37 (0, 0)) ∧ C.size = 102 ∧ CtV W (.agg C) c.1 ∧ Below w0.heap.size w0 W
theorem ctc_own {B : Nat} {w : World} {s : Value} {c : CtM} (h1 : c.Ok) (h2 : OwnE scl 33 59 B w s c.sg) : (ctc c s).size = 102 ∧ (ctc c s).all (·.oneCell') = true := ⟨ctc_size _ h1.att, ctc_one (c := c) (h2.els eltSg h1.sg)⟩
theorem ceAt_mk {B g : Nat} {w0 w : World} {s : Value} {c : CtM × Bool} (h1 : c.1.Ok) (h2 : OwnE scl 33 59 B w s c.1.sg) (h3 : w.heap[g]? = some (.cells (ctc c.1 s) 37 (0, 0))) (h4 : Below w0.heap.size w0 w) : CeAt w0 c (.pointer (some ⟨g, 0, none⟩)) (.bool c.2) w :=
  ⟨g, _, rfl, rfl, h3, ctc_size _ h1.att, ⟨s, rfl, h1, h2.els eltSg h1.sg⟩, h4⟩
structure LpSt (w W : World) (b1 m1 b2 m2 : Nat) (n : Int) (L m left : List AtM) (i B : Nat) (v : Value) : Prop where
  od : OdSt w W b1 m1 b2 m2 n (resG n [] (L.take i)) (resG n [] m)
  or : OrG L m left i
  own : OwnE atl 101 29 B W v left
  sz : B ≤ W.heap.size
  lok : ∀ x ∈ left, x.Ok
  wB : w.heap.size ≤ B
theorem od_len1 {left : List AtM} {q : Nat} (k : Nat) (h : left.length = q) (h2 : q ≤ 30) : ([] : List AtM).length + (left.take k).length ≤ 1000000 := by
  rw [List.length_take, List.length_nil]
  omega
theorem od_len3 {left : List AtM} {q : Nat} (k : Nat) (h : left.length = q) (h2 : q ≤ 30) : ([] ++ left.take k : List AtM).length + (left.drop (k + 1)).length ≤ 1000000 := by
  rw [List.nil_append, List.length_take, List.length_drop]
  omega
theorem od_wrap {k q : Nat} (h : k < q) (h2 : q ≤ 30) : IntKind.i64.wrap ((k : Int) + 1) = (k : Int) + 1 := by
  rw [IntKind.wrap_i64]
  omega
theorem od_rem (t : UInt8) (q : Nat) : (wrap64 (t.toNat : Int)).tmod (q : Int) = ((t.toNat % q : Nat) : Int) := by
  have h := t.toNat_lt
  rw [show wrap64 (t.toNat : Int) = (t.toNat : Int) from by unfold wrap64; omega, Int.ofNat_tmod]
theorem resG_take {n : Int} {L : List AtM} {i : Nat} (h : i < L.length) : resG n [] (L.take (i + 1)) = (addG n (resG n [] (L.take i)) L[i]).1 := by
  rw [List.take_succ_eq_append_getElem h, resG_snoc]
set_option maxHeartbeats 51200000 in
theorem lawGatherOrders_all (n : Int) (v : Value) (L : List AtM) (vt : Value) (T : List UInt8) (w : World) (hn : (Lit.int .i64 n).wf = true) (hv : Els atl 101 w v L) (ho : ∀ x ∈ L, x.Ok) (ht : Byt w vt T) (hK : Kst 1 w) :
    Calls Tryd.prog 3 #[.int .i64 n, v, vt] w fun e w' => e = .returned (.bool true) ∧ Below w.heap.size w w' := by
  have HAW : Hid (∀ W, Below w.heap.size w W → Calls Tryd.prog 6 #[] W fun e w' => e = .returned (.bool true) ∧ Below w.heap.size w w') := hid (fun W hb => (gaAwake_any W (hK.below hb)).mono fun _ _ ⟨h1, h2⟩ => ⟨h1, hb.trans (h2.mono hb.size)⟩)
  have HKB := hid (fun W (h : Below w.heap.size w W) => (show Kst 1 W from hK.below h))
  have HWN := hid hn
  have HV := hid hv
  have HOL := hid ho
  obtain ⟨A, c, rfl⟩ := hv.shape
  have HBT := hid ht
  obtain ⟨At, ct, rfl⟩ := ht.shape
  have HEL : Hid (∀ j (h : j < L.length), ∃ b off, A = some ⟨b, off, none⟩ ∧ ∀ W, Below w.heap.size w W → ElG W b (off + j * 101) L[j]) := hid (fun j h => elG_at hv ho h)
  have HQU : Hid (∀ W, Calls Tryd.prog 5 #[.int .i64 n] W fun e w' => e = .returned (.int .i64 (quoS n : Int)) ∧ W = w') := hid (refQuorum_any n)
  obtain ⟨N, HN⟩ : ∃ q : Nat, Hid (L.length = q) := ⟨_, hid rfl⟩
  obtain ⟨NT, HNT⟩ : ∃ q : Nat, Hid (T.length = q) := ⟨_, hid rfl⟩
  obtain ⟨qn, HQN⟩ : ∃ q : Nat, Hid (quoS n = q) := ⟨_, hid rfl⟩
  rw [HN.out] at HV ⊢
  rw [HNT.out] at HBT ⊢
  rw [HQN.out] at HQU
  have HREF := hid (Below.refl w.heap.size w)
  clear hn hv ho ht hK
  go_enter Tryd.func3, Tryd.ntmps3
  by_cases h1 : 30 < N
  · have h1' : (30 : Int) < (N : Int) := by omega
    clear h1
    go_wp2_with fail
    refine (HAW.out w HREF.out).mono ?_
    rintro e w1 ⟨rfl, hb1⟩
    have HB1 := hid hb1
    clear hb1
    go_wp2_with fail
    go_ret
    exact ⟨rfl, HB1.out⟩
  have HN30 : Hid (N ≤ 30) := hid (by omega)
  have h1' : ¬ (30 : Int) < (N : Int) := by omega
  by_cases h2 : 60 < NT
  · have h2' : (60 : Int) < (NT : Int) := by omega
    clear h1 h2
    go_wp2_with fail
    refine (HAW.out w HREF.out).mono ?_
    rintro e w1 ⟨rfl, hb1⟩
    have HB1 := hid hb1
    clear hb1
    go_wp2_with fail
    go_ret
    exact ⟨rfl, HB1.out⟩
  have HT60 : Hid (NT ≤ 60) := hid (by omega)
  have h2' : ¬ (60 : Int) < (NT : Int) := by omega
  by_cases h3 : qn = 0
  · subst h3
    clear h1 h2
    go_wp2_with fail
    refine (HQU.out w).mono ?_
    rintro e w1 ⟨rfl, rfl⟩
    go_wp2_with fail
    refine (HAW.out w HREF.out).mono ?_
    rintro e w1 ⟨rfl, hb1⟩
    have HB1 := hid hb1
    clear hb1
    go_wp2_with fail
    go_ret
    exact ⟨rfl, HB1.out⟩
  have HQ0 : Hid (quoS n ≠ 0) := hid (by rw [HQN.out]; exact h3)
  have h3' : ¬ (qn : Int) = 0 := by omega
  clear h1 h2 h3
  go_wp2_with fail
  refine (HQU.out w).mono ?_
  rintro e w1 ⟨rfl, rfl⟩
  go_wp2_with fail
  clear h1' h2' h3'
  go_loopw [7] (fun s7 wr => ∃ i : Nat, i ≤ N ∧ s7 = .int .i64 i ∧ Hid ((∀ j, j < i → ∀ k, k < j → OneAt L j k) ∧ Below w.heap.size w wr)) (fun s7 _ => N - (intOf s7).toNat)
  case atStart => exact ⟨0, Nat.zero_le _, rfl, hid ⟨fun j h => absurd h (by omega), Below.refl _ _⟩⟩
  case round =>
    obtain ⟨i, hi, rfl, HO⟩ := hrel
    obtain ⟨wo, rfl⟩ : ∃ q : World, q = wr := ⟨wr, rfl⟩
    by_cases hlt : i < N
    · have hlt' : (i : Int) < (N : Int) := by omega
      have hiL : i < L.length := by rw [HN.out]; exact hlt
      obtain ⟨b1, o1, rfl, h1⟩ := HEL.out i hiL
      have H1 := hid h1
      have HXO := hid (HOL.out _ (List.getElem_mem hiL))
      have HXI : Hid (L[i]? = some L[i]) := hid (List.getElem?_eq_getElem hiL)
      generalize L[i] = x at *
      have HHI := hid (show i < N from hlt)
      have HWI : Hid (wrap64 ((i : Int) + 1) = (i : Int) + 1) := hid (by have := HN30.out; unfold wrap64; omega)
      clear h1 hiL hlt hi
      go_wp2_with fail
      go_loopw [8] (fun s8 wr => ∃ k : Nat, k ≤ i ∧ s8 = .int .i64 k ∧ Hid ((∀ j, j < k → OneAt L i j) ∧ Below w.heap.size w wr)) (fun s8 _ => i - (intOf s8).toNat)
      case atStart => exact ⟨0, Nat.zero_le _, rfl, hid ⟨fun j h => absurd h (by omega), HO.out.2⟩⟩
      case round =>
        obtain ⟨k, hk, rfl, HK⟩ := hrel
        by_cases hlt2 : k < i
        · have hlt2' : (k : Int) < (i : Int) := by omega
          have hkN : (k : Int) < (N : Int) := by have := HHI.out; omega
          have hkL : k < L.length := by rw [HN.out]; have := HHI.out; omega
          have h2 : ∀ W, Below w.heap.size w W → ElG W b1 (o1 + k * 101) L[k] := fun W hW => by
            obtain ⟨b', o', e, h⟩ := HEL.out k hkL
            injection e with e
            injection e with e1 e2 _
            subst e1 e2
            exact h W hW
          have H2 := hid h2
          have HYO := hid (HOL.out _ (List.getElem_mem hkL))
          have HYI : Hid (L[k]? = some L[k]) := hid (List.getElem?_eq_getElem hkL)
          generalize L[k] = y at *
          have HHK := hid (show k < i from hlt2)
          have HWK : Hid (wrap64 ((k : Int) + 1) = (k : Int) + 1) := hid (by have := HN30.out; have := HHI.out; have := hlt2; unfold wrap64; omega)
          obtain ⟨F, HFX⟩ : ∃ C : Array Value, Hid (atc x = C) := ⟨_, hid rfl⟩
          obtain ⟨G, HGY⟩ : ∃ C : Array Value, Hid (atc y = C) := ⟨_, hid rfl⟩
          obtain ⟨xb, HXB⟩ : ∃ q : Int, Hid (x.bo = q) := ⟨_, hid rfl⟩
          obtain ⟨xk, HXK⟩ : ∃ q : Int, Hid (x.ki = q) := ⟨_, hid rfl⟩
          obtain ⟨xv, HXV⟩ : ∃ q : Int, Hid (x.vi = q) := ⟨_, hid rfl⟩
          obtain ⟨yb, HYB⟩ : ∃ q : Int, Hid (y.bo = q) := ⟨_, hid rfl⟩
          obtain ⟨yk, HYK⟩ : ∃ q : Int, Hid (y.ki = q) := ⟨_, hid rfl⟩
          obtain ⟨yv, HYV⟩ : ∃ q : Int, Hid (y.vi = q) := ⟨_, hid rfl⟩
          have HE : Hid (∀ W, Below w.heap.size w W → ((W.cell? ⟨b1, o1 + i * 101, none⟩ = some (.int .i64 xb) ∧ W.cell? ⟨b1, o1 + i * 101 + 1, none⟩ = some (.int .i64 xk) ∧ W.cell? ⟨b1, o1 + i * 101 + 2, none⟩ = some (.int .i64 xv)) ∧ W.cell? ⟨b1, o1 + k * 101, none⟩ = some (.int .i64 yb) ∧ W.cell? ⟨b1, o1 + k * 101 + 1, none⟩ = some (.int .i64 yk) ∧ W.cell? ⟨b1, o1 + k * 101 + 2, none⟩ = some (.int .i64 yv)) ∧ loadAtt (.pointer (some ⟨b1, o1 + i * 101, none⟩)) W = .ok (.value (.agg F)) W ∧ loadAtt (.pointer (some ⟨b1, o1 + k * 101, none⟩)) W = .ok (.value (.agg G)) W) := hid (fun W h => by
            obtain ⟨e1, e2, e3, e4⟩ := H1.out W h
            obtain ⟨f1, f2, f3, f4⟩ := H2.out W h
            rw [HXB.out] at e1
            rw [HXK.out] at e2
            rw [HXV.out] at e3
            rw [HFX.out] at e4
            rw [HYB.out] at f1
            rw [HYK.out] at f2
            rw [HYV.out] at f3
            rw [HGY.out] at f4
            exact ⟨⟨⟨e1, e2, e3⟩, f1, f2, f3⟩, e4, f4⟩)
          have hne : ∀ W, neAtt (.agg F) (.agg G) W = .ok (.value (.bool (!decide (x = y)))) W := fun W => by rw [← HFX.out, ← HGY.out]; exact neAtt_eq x y HXO.out HYO.out W
          obtain ⟨qe, HQE⟩ : ∃ q : Bool, Hid ((!decide (x = y)) = q) := ⟨_, hid rfl⟩
          rw [HQE.out] at hne
          have HKEY : Hid (keyA x y = (decide (xb = yb) && (decide (xk = yk) && decide (xv = yv)))) := hid (by rw [← HXB.out, ← HXK.out, ← HXV.out, ← HYB.out, ← HYK.out, ← HYV.out]; rfl)
          have HNX : Hid ((keyA x y && qe) = false → ∀ j, j < k + 1 → OneAt L i j) := hid (fun e j hj => by
            by_cases hjk : j = k
            · subst hjk
              intro a b ha hb hab
              rw [HXI.out] at ha
              rw [HYI.out] at hb
              injection ha with ha
              injection hb with hb
              subst ha hb
              rw [hab, Bool.true_and] at e
              rw [e] at HQE
              have := HQE.out
              simpa using this
            · exact HK.out.1 j (by omega))
          have HBD := hid (HK.out.2.drew)
          have HBK := hid HK.out.2
          clear h2 hkL hlt2 hk HK
          go_upto_region 9 with (fail)
          go_cut [93] (fun s93 wy => s93 = .bool ((decide (xb = yb) && (decide (xk = yk) && decide (xv = yv))) && qe) ∧ wy = wr.drew)
          case first =>
            refine wp_region_held_drew (S := fun W => Below w.heap.size w W) (by kernel_rfl) HBD.out (fun hHeld => ?_)
            refine' tk (i := 0) (v := _) rfl ?_ ?_
            rotate_left
            · (intro W hW; (try dsimp only at hW); go_simp; first | done | with_reducible rfl)
            try simp only [lay]
            refine' tk (i := 1) (v := _) rfl ?_ ?_
            rotate_left
            · (intro W hW; (try dsimp only at hW); go_simp; first | done | with_reducible rfl)
            try simp only [lay]
            refine' tk (i := 2) (v := _) rfl ?_ ?_
            rotate_left
            · (intro W hW; (try dsimp only at hW); go_simp; first | done | with_reducible rfl)
            try simp only [lay]
            refine' tk (i := 3) (v := _) rfl ?_ ?_
            rotate_left
            · (intro W hW; (try dsimp only at hW); go_simp; first | done | with_reducible rfl)
            try simp only [lay]
            refine' tk (i := 4) (v := _) rfl ?_ ?_
            rotate_left
            · (intro W hW; (try dsimp only at hW); have hq := HE.out W hW; obtain ⟨⟨⟨e1, e2, e3⟩, f1, f2, f3⟩, e4, f4⟩ := hq; go_simp; first | done | with_reducible rfl)
            try simp only [lay]
            refine' tk (i := 5) (v := _) rfl ?_ ?_
            rotate_left
            · (intro W hW; (try dsimp only at hW); go_simp; first | done | with_reducible rfl)
            try simp only [lay]
            refine' tk (i := 6) (v := _) rfl ?_ ?_
            rotate_left
            · (intro W hW; (try dsimp only at hW); go_simp; first | done | with_reducible rfl)
            try simp only [lay]
            refine' tk (i := 7) (v := _) rfl ?_ ?_
            rotate_left
            · (intro W hW; (try dsimp only at hW); go_simp; first | done | with_reducible rfl)
            try simp only [lay]
            refine' tk (i := 8) (v := _) rfl ?_ ?_
            rotate_left
            · (intro W hW; (try dsimp only at hW); go_simp; first | done | with_reducible rfl)
            try simp only [lay]
            refine' tk (i := 9) (v := _) rfl ?_ ?_
            rotate_left
            · (intro W hW; (try dsimp only at hW); have hq := HE.out W hW; obtain ⟨⟨⟨e1, e2, e3⟩, f1, f2, f3⟩, e4, f4⟩ := hq; go_simp; first | done | with_reducible rfl)
            try simp only [lay]
            by_cases d1 : xb = yb
            · have z1 : (xb == yb) = true := by simp [d1]
              refine' tk (i := 10) (v := _) rfl ?_ ?_
              rotate_left
              · (intro W hW; (try dsimp only at hW); go_simp; first | done | with_reducible rfl)
              try simp only [lay]
              refine' tk (i := 11) (v := _) rfl ?_ ?_
              rotate_left
              · (intro W hW; (try dsimp only at hW); go_simp; first | done | with_reducible rfl)
              try simp only [lay]
              refine' tk (i := 12) (v := _) rfl ?_ ?_
              rotate_left
              · (intro W hW; (try dsimp only at hW); go_simp; first | done | with_reducible rfl)
              try simp only [lay]
              refine' tk (i := 13) (v := _) rfl ?_ ?_
              rotate_left
              · (intro W hW; (try dsimp only at hW); go_simp; first | done | with_reducible rfl)
              try simp only [lay]
              refine' tk (i := 14) (v := _) rfl ?_ ?_
              rotate_left
              · (intro W hW; (try dsimp only at hW); go_simp; first | done | with_reducible rfl)
              try simp only [lay]
              refine' tk (i := 15) (v := _) rfl ?_ ?_
              rotate_left
              · (intro W hW; (try dsimp only at hW); go_simp; first | done | with_reducible rfl)
              try simp only [lay]
              refine' tk (i := 16) (v := _) rfl ?_ ?_
              rotate_left
              · (intro W hW; (try dsimp only at hW); have hq := HE.out W hW; obtain ⟨⟨⟨e1, e2, e3⟩, f1, f2, f3⟩, e4, f4⟩ := hq; go_simp; first | done | with_reducible rfl)
              try simp only [lay]
              refine' tk (i := 17) (v := _) rfl ?_ ?_
              rotate_left
              · (intro W hW; (try dsimp only at hW); go_simp; first | done | with_reducible rfl)
              try simp only [lay]
              refine' tk (i := 18) (v := _) rfl ?_ ?_
              rotate_left
              · (intro W hW; (try dsimp only at hW); go_simp; first | done | with_reducible rfl)
              try simp only [lay]
              refine' tk (i := 19) (v := _) rfl ?_ ?_
              rotate_left
              · (intro W hW; (try dsimp only at hW); go_simp; first | done | with_reducible rfl)
              try simp only [lay]
              refine' tk (i := 20) (v := _) rfl ?_ ?_
              rotate_left
              · (intro W hW; (try dsimp only at hW); go_simp; first | done | with_reducible rfl)
              try simp only [lay]
              refine' tk (i := 21) (v := _) rfl ?_ ?_
              rotate_left
              · (intro W hW; (try dsimp only at hW); have hq := HE.out W hW; obtain ⟨⟨⟨e1, e2, e3⟩, f1, f2, f3⟩, e4, f4⟩ := hq; go_simp; first | done | with_reducible rfl)
              try simp only [lay]
              by_cases d2 : xk = yk
              · have z2 : (xk == yk) = true := by simp [d2]
                refine' tk (i := 22) (v := _) rfl ?_ ?_
                rotate_left
                · (intro W hW; (try dsimp only at hW); go_simp; first | done | with_reducible rfl)
                try simp only [lay]
                refine' tk (i := 23) (v := _) rfl ?_ ?_
                rotate_left
                · (intro W hW; (try dsimp only at hW); go_simp; first | done | with_reducible rfl)
                try simp only [lay]
                refine' tk (i := 24) (v := _) rfl ?_ ?_
                rotate_left
                · (intro W hW; (try dsimp only at hW); go_simp; first | done | with_reducible rfl)
                try simp only [lay]
                refine' tk (i := 25) (v := _) rfl ?_ ?_
                rotate_left
                · (intro W hW; (try dsimp only at hW); go_simp; first | done | with_reducible rfl)
                try simp only [lay]
                refine' tk (i := 26) (v := _) rfl ?_ ?_
                rotate_left
                · (intro W hW; (try dsimp only at hW); go_simp; first | done | with_reducible rfl)
                try simp only [lay]
                refine' tk (i := 27) (v := _) rfl ?_ ?_
                rotate_left
                · (intro W hW; (try dsimp only at hW); go_simp; first | done | with_reducible rfl)
                try simp only [lay]
                refine' tk (i := 28) (v := _) rfl ?_ ?_
                rotate_left
                · (intro W hW; (try dsimp only at hW); go_simp; first | done | with_reducible rfl)
                try simp only [lay]
                refine' tk (i := 29) (v := _) rfl ?_ ?_
                rotate_left
                · (intro W hW; (try dsimp only at hW); have hq := HE.out W hW; obtain ⟨⟨⟨e1, e2, e3⟩, f1, f2, f3⟩, e4, f4⟩ := hq; go_simp; first | done | with_reducible rfl)
                try simp only [lay]
                refine' tk (i := 30) (v := _) rfl ?_ ?_
                rotate_left
                · (intro W hW; (try dsimp only at hW); go_simp; first | done | with_reducible rfl)
                try simp only [lay]
                refine' tk (i := 31) (v := _) rfl ?_ ?_
                rotate_left
                · (intro W hW; (try dsimp only at hW); go_simp; first | done | with_reducible rfl)
                try simp only [lay]
                refine' tk (i := 32) (v := _) rfl ?_ ?_
                rotate_left
                · (intro W hW; (try dsimp only at hW); go_simp; first | done | with_reducible rfl)
                try simp only [lay]
                refine' tk (i := 33) (v := _) rfl ?_ ?_
                rotate_left
                · (intro W hW; (try dsimp only at hW); go_simp; first | done | with_reducible rfl)
                try simp only [lay]
                refine' tk (i := 34) (v := _) rfl ?_ ?_
                rotate_left
                · (intro W hW; (try dsimp only at hW); have hq := HE.out W hW; obtain ⟨⟨⟨e1, e2, e3⟩, f1, f2, f3⟩, e4, f4⟩ := hq; go_simp; first | done | with_reducible rfl)
                try simp only [lay]
                by_cases d3 : xv = yv
                · have z3 : (xv == yv) = true := by simp [d3]
                  refine' tk (i := 35) (v := _) rfl ?_ ?_
                  rotate_left
                  · (intro W hW; (try dsimp only at hW); go_simp; first | done | with_reducible rfl)
                  try simp only [lay]
                  refine' tk (i := 36) (v := _) rfl ?_ ?_
                  rotate_left
                  · (intro W hW; (try dsimp only at hW); go_simp; first | done | with_reducible rfl)
                  try simp only [lay]
                  refine' tk (i := 37) (v := _) rfl ?_ ?_
                  rotate_left
                  · (intro W hW; (try dsimp only at hW); go_simp; first | done | with_reducible rfl)
                  try simp only [lay]
                  refine' tk (i := 38) (v := _) rfl ?_ ?_
                  rotate_left
                  · (intro W hW; (try dsimp only at hW); go_simp; first | done | with_reducible rfl)
                  try simp only [lay]
                  refine' tk (i := 39) (v := _) rfl ?_ ?_
                  rotate_left
                  · (intro W hW; (try dsimp only at hW); go_simp; first | done | with_reducible rfl)
                  try simp only [lay]
                  refine' tk (i := 40) (v := _) rfl ?_ ?_
                  rotate_left
                  · (intro W hW; (try dsimp only at hW); go_simp; first | done | with_reducible rfl)
                  try simp only [lay]
                  refine' tk (i := 41) (v := _) rfl ?_ ?_
                  rotate_left
                  · (intro W hW; (try dsimp only at hW); have hq := HE.out W hW; obtain ⟨⟨⟨e1, e2, e3⟩, f1, f2, f3⟩, e4, f4⟩ := hq; go_simp; first | done | with_reducible rfl)
                  try simp only [lay]
                  refine' tk (i := 42) (v := _) rfl ?_ ?_
                  rotate_left
                  · (intro W hW; (try dsimp only at hW); go_simp; first | done | with_reducible rfl)
                  try simp only [lay]
                  refine' tk (i := 43) (v := _) rfl ?_ ?_
                  rotate_left
                  · (intro W hW; (try dsimp only at hW); go_simp; first | done | with_reducible rfl)
                  try simp only [lay]
                  refine' tk (i := 44) (v := _) rfl ?_ ?_
                  rotate_left
                  · (intro W hW; (try dsimp only at hW); go_simp; first | done | with_reducible rfl)
                  try simp only [lay]
                  refine' tk (i := 45) (v := _) rfl ?_ ?_
                  rotate_left
                  · (intro W hW; (try dsimp only at hW); have hq := HE.out W hW; obtain ⟨⟨⟨e1, e2, e3⟩, f1, f2, f3⟩, e4, f4⟩ := hq; go_simp; first | done | with_reducible rfl)
                  try simp only [lay]
                  refine' tk (i := 46) (v := _) rfl ?_ ?_
                  rotate_left
                  · (intro W hW; (try dsimp only at hW); go_simp; first | done | with_reducible rfl)
                  try simp only [lay]
                  refine' tk (i := 47) (v := _) rfl ?_ ?_
                  rotate_left
                  · (intro W hW; (try dsimp only at hW); go_simp; first | done | with_reducible rfl)
                  try simp only [lay]
                  refine wpAnyH_done (by kernel_rfl) ?_ _
                  clear hHeld
                  go_wp2_with fail
                  go_meet
                  case rel => exact ⟨by first | (simp [d1, d2, d3]; done) | (simp [d1, d2, d3]; rfl), rfl⟩
                · have z3 : (xv == yv) = false := by simp [d3]
                  refine' tk (i := 35) (v := _) rfl ?_ ?_
                  rotate_left
                  · (intro W hW; (try dsimp only at hW); go_simp; first | done | with_reducible rfl)
                  try simp only [lay]
                  refine' tk (i := 36) (v := _) rfl ?_ ?_
                  rotate_left
                  · (intro W hW; (try dsimp only at hW); go_simp; first | done | with_reducible rfl)
                  try simp only [lay]
                  refine' tk (i := 37) (v := _) rfl ?_ ?_
                  rotate_left
                  · (intro W hW; (try dsimp only at hW); go_simp; first | done | with_reducible rfl)
                  try simp only [lay]
                  refine tf (i := 38) rfl ?_
                  try simp only [lay]
                  refine tf (i := 39) rfl ?_
                  try simp only [lay]
                  refine tf (i := 40) rfl ?_
                  try simp only [lay]
                  refine tf (i := 41) rfl ?_
                  try simp only [lay]
                  refine tf (i := 42) rfl ?_
                  try simp only [lay]
                  refine tf (i := 43) rfl ?_
                  try simp only [lay]
                  refine tf (i := 44) rfl ?_
                  try simp only [lay]
                  refine tf (i := 45) rfl ?_
                  try simp only [lay]
                  refine tf (i := 46) rfl ?_
                  try simp only [lay]
                  refine' tk (i := 47) (v := _) rfl ?_ ?_
                  rotate_left
                  · (intro W hW; (try dsimp only at hW); go_simp; first | done | with_reducible rfl)
                  try simp only [lay]
                  refine wpAnyH_done (by kernel_rfl) ?_ _
                  clear hHeld
                  go_wp2_with fail
                  go_meet
                  case rel => exact ⟨by simp [d1, d2, d3], rfl⟩
              · have z2 : (xk == yk) = false := by simp [d2]
                refine' tk (i := 22) (v := _) rfl ?_ ?_
                rotate_left
                · (intro W hW; (try dsimp only at hW); go_simp; first | done | with_reducible rfl)
                try simp only [lay]
                refine' tk (i := 23) (v := _) rfl ?_ ?_
                rotate_left
                · (intro W hW; (try dsimp only at hW); go_simp; first | done | with_reducible rfl)
                try simp only [lay]
                refine' tk (i := 24) (v := _) rfl ?_ ?_
                rotate_left
                · (intro W hW; (try dsimp only at hW); go_simp; first | done | with_reducible rfl)
                try simp only [lay]
                refine tf (i := 25) rfl ?_
                try simp only [lay]
                refine tf (i := 26) rfl ?_
                try simp only [lay]
                refine tf (i := 27) rfl ?_
                try simp only [lay]
                refine tf (i := 28) rfl ?_
                try simp only [lay]
                refine tf (i := 29) rfl ?_
                try simp only [lay]
                refine tf (i := 30) rfl ?_
                try simp only [lay]
                refine tf (i := 31) rfl ?_
                try simp only [lay]
                refine tf (i := 32) rfl ?_
                try simp only [lay]
                refine tf (i := 33) rfl ?_
                try simp only [lay]
                refine tf (i := 34) rfl ?_
                try simp only [lay]
                refine tf (i := 35) rfl ?_
                try simp only [lay]
                refine' tk (i := 36) (v := _) rfl ?_ ?_
                rotate_left
                · (intro W hW; (try dsimp only at hW); go_simp; first | done | with_reducible rfl)
                try simp only [lay]
                refine' tk (i := 37) (v := _) rfl ?_ ?_
                rotate_left
                · (intro W hW; (try dsimp only at hW); go_simp; first | done | with_reducible rfl)
                try simp only [lay]
                refine tf (i := 38) rfl ?_
                try simp only [lay]
                refine tf (i := 39) rfl ?_
                try simp only [lay]
                refine tf (i := 40) rfl ?_
                try simp only [lay]
                refine tf (i := 41) rfl ?_
                try simp only [lay]
                refine tf (i := 42) rfl ?_
                try simp only [lay]
                refine tf (i := 43) rfl ?_
                try simp only [lay]
                refine tf (i := 44) rfl ?_
                try simp only [lay]
                refine tf (i := 45) rfl ?_
                try simp only [lay]
                refine tf (i := 46) rfl ?_
                try simp only [lay]
                refine' tk (i := 47) (v := _) rfl ?_ ?_
                rotate_left
                · (intro W hW; (try dsimp only at hW); go_simp; first | done | with_reducible rfl)
                try simp only [lay]
                refine wpAnyH_done (by kernel_rfl) ?_ _
                clear hHeld
                go_wp2_with fail
                go_meet
                case rel => exact ⟨by simp [d1, d2], rfl⟩
            · have z1 : (xb == yb) = false := by simp [d1]
              refine' tk (i := 10) (v := _) rfl ?_ ?_
              rotate_left
              · (intro W hW; (try dsimp only at hW); go_simp; first | done | with_reducible rfl)
              try simp only [lay]
              refine' tk (i := 11) (v := _) rfl ?_ ?_
              rotate_left
              · (intro W hW; (try dsimp only at hW); go_simp; first | done | with_reducible rfl)
              try simp only [lay]
              refine tf (i := 12) rfl ?_
              try simp only [lay]
              refine tf (i := 13) rfl ?_
              try simp only [lay]
              refine tf (i := 14) rfl ?_
              try simp only [lay]
              refine tf (i := 15) rfl ?_
              try simp only [lay]
              refine tf (i := 16) rfl ?_
              try simp only [lay]
              refine tf (i := 17) rfl ?_
              try simp only [lay]
              refine tf (i := 18) rfl ?_
              try simp only [lay]
              refine tf (i := 19) rfl ?_
              try simp only [lay]
              refine tf (i := 20) rfl ?_
              try simp only [lay]
              refine tf (i := 21) rfl ?_
              try simp only [lay]
              refine tf (i := 22) rfl ?_
              try simp only [lay]
              refine' tk (i := 23) (v := _) rfl ?_ ?_
              rotate_left
              · (intro W hW; (try dsimp only at hW); go_simp; first | done | with_reducible rfl)
              try simp only [lay]
              refine' tk (i := 24) (v := _) rfl ?_ ?_
              rotate_left
              · (intro W hW; (try dsimp only at hW); go_simp; first | done | with_reducible rfl)
              try simp only [lay]
              refine tf (i := 25) rfl ?_
              try simp only [lay]
              refine tf (i := 26) rfl ?_
              try simp only [lay]
              refine tf (i := 27) rfl ?_
              try simp only [lay]
              refine tf (i := 28) rfl ?_
              try simp only [lay]
              refine tf (i := 29) rfl ?_
              try simp only [lay]
              refine tf (i := 30) rfl ?_
              try simp only [lay]
              refine tf (i := 31) rfl ?_
              try simp only [lay]
              refine tf (i := 32) rfl ?_
              try simp only [lay]
              refine tf (i := 33) rfl ?_
              try simp only [lay]
              refine tf (i := 34) rfl ?_
              try simp only [lay]
              refine tf (i := 35) rfl ?_
              try simp only [lay]
              refine' tk (i := 36) (v := _) rfl ?_ ?_
              rotate_left
              · (intro W hW; (try dsimp only at hW); go_simp; first | done | with_reducible rfl)
              try simp only [lay]
              refine' tk (i := 37) (v := _) rfl ?_ ?_
              rotate_left
              · (intro W hW; (try dsimp only at hW); go_simp; first | done | with_reducible rfl)
              try simp only [lay]
              refine tf (i := 38) rfl ?_
              try simp only [lay]
              refine tf (i := 39) rfl ?_
              try simp only [lay]
              refine tf (i := 40) rfl ?_
              try simp only [lay]
              refine tf (i := 41) rfl ?_
              try simp only [lay]
              refine tf (i := 42) rfl ?_
              try simp only [lay]
              refine tf (i := 43) rfl ?_
              try simp only [lay]
              refine tf (i := 44) rfl ?_
              try simp only [lay]
              refine tf (i := 45) rfl ?_
              try simp only [lay]
              refine tf (i := 46) rfl ?_
              try simp only [lay]
              refine' tk (i := 47) (v := _) rfl ?_ ?_
              rotate_left
              · (intro W hW; (try dsimp only at hW); go_simp; first | done | with_reducible rfl)
              try simp only [lay]
              refine wpAnyH_done (by kernel_rfl) ?_ _
              clear hHeld
              go_wp2_with fail
              go_meet
              case rel => exact ⟨by simp [d1], rfl⟩
          case rest =>
            obtain ⟨rfl, hw⟩ := hcut
            rw [← HKEY.out]
            have HBC : Hid (Below w.heap.size w wc) := hid (by rw [hw]; exact HBD.out)
            clear hw hne
            obtain ⟨q, HQK⟩ : ∃ q : Bool, Hid ((keyA x y && qe) = q) := ⟨_, hid rfl⟩
            rw [HQK.out] at HNX ⊢
            cases q with
            | true =>
              go_wp2_with fail
              refine (HAW.out wc HBC.out).mono ?_
              rintro e w1 ⟨rfl, hb1⟩
              have HB1 := hid hb1
              clear hb1
              go_wp2_with fail
              go_ret
              exact ⟨rfl, HB1.out⟩
            | false =>
              have HX2 := hid (And.intro (HNX.out rfl) HBC.out)
              have hwi := HWK.out
              go_wp2_with fail
              go_roundw
              case rel => exact ⟨k + 1, HHK.out, by first | go_num | (rw [HWK.out]; rfl), HX2⟩
              case measure => exact ga_meas HHK.out hwi
        · have hlt2' : ¬ (k : Int) < (i : Int) := by omega
          have HX3 : Hid ((∀ j, j < i + 1 → ∀ k, k < j → OneAt L j k) ∧ Below w.heap.size w wr) := hid ⟨fun j hj k2 hk2 => by
            by_cases hji : j = i
            · subst hji
              exact HK.out.1 k2 (by omega)
            · exact HO.out.1 j (by omega) k2 hk2, HK.out.2⟩
          have hwi := HWI.out
          clear hlt2 hk HK
          go_wp2_with fail
          go_roundw
          case rel => exact ⟨i + 1, HHI.out, by first | go_num | (rw [HWI.out]; rfl), HX3⟩
          case measure => exact ga_meas HHI.out hwi
    · have hlt' : ¬ (i : Int) < (N : Int) := by omega
      have HONE : Hid (OneG L) := hid (oneG_at (fun j hj k hk => HO.out.1 j (by rw [HN.out] at hj; omega) k hk))
      have HBO := hid HO.out.2
      clear hlt hi HO
      go_wp2_with fail
      clear hlt'
      have HNG := hid (gNew_yes n wo HWN.out HQ0.out)
      go_wp2_with fail
      refine HNG.out.mono ?_
      rintro e w1 ⟨b1, m1, rfl, hg1, hb1, _, hm1⟩
      have HG1 := hid hg1
      have HB1 := hid (HBO.out.trans (hb1.mono HBO.out.size))
      have HM1 : Hid (w.heap.size ≤ m1) := hid (Nat.le_trans HBO.out.size hm1)
      have HNH := hid (gNew_yes n w1 HWN.out HQ0.out)
      clear hg1 hb1 hm1
      go_wp2_with fail
      refine HNH.out.mono ?_
      rintro e w2 ⟨b2, m2, rfl, hg2, hb2, _, hm2⟩
      have HOD : Hid (OdSt w w2 b1 m1 b2 m2 n [] []) := hid ⟨HG1.out.below hb2, hg2, OkG.nil HQ0.out, OkG.nil HQ0.out, fun e => by
        obtain ⟨P, c, h, _⟩ := HG1.out
        have := h.lm
        omega, HM1.out, Nat.le_trans HB1.out.size hm2, HB1.out.trans (hb2.mono HB1.out.size)⟩
      clear hg2 hb2 hm2
      go_upto_region 15 with (fail)
      have HF0 := hid (FlSt.fresh w2)
      have HV2 : Hid (Els atl 101 (w2.alloc (.cells #[] 29)) (.slice A N c) L) := hid (HV.out.below (HOD.out.bel.trans (((Below.refl w2.heap.size w2).alloc (Nat.le_refl _) (.cells #[] 29)).mono HOD.out.bel.size)))
      have HLN : Hid (([] : List AtM).length + L.length ≤ 1000000) := hid (by have := HN30.out; have := HN.out; simp only [List.length_nil]; omega)
      go_wp2_with (at_builtin; go_loud (refine eltAt.wpList_append rfl (.tmp 119) (.tmp 120) rfl rfl rfl HOL.out HF0.out.own HV2.out HLN.out HF0.out.bel.size ?_; intro v5 w5 ho5 hg5 hv5; have HS5 := hid (HF0.out.app ho5 hg5); obtain ⟨A5, n5, c5, rfl⟩ : ∃ A n c, v5 = .slice A n c := (by obtain ⟨A, c, e⟩ := ho5.shape; exact ⟨_, _, _, e⟩); clear ho5 hg5 hv5))
      rw [List.nil_append] at HS5
      have HLP : Hid (LpSt w w5 b1 m1 b2 m2 n L [] L 0 w2.heap.size (.slice A5 n5 c5)) := hid ⟨HOD.out.below HS5.out.bel, OrG.start L, HS5.out.own, HS5.out.bel.size, HOL.out, HOD.out.bel.size⟩
      generalize w2.heap.size = B at HLP
      clear HS5 HV2 HF0
      go_loopw [13, 14] (fun s13 s14 wr => ∃ (i : Nat) (A7 : Option Addr) (n7 c7 : Nat), i ≤ N ∧ s14 = .int .i64 i ∧ s13 = .slice A7 n7 c7 ∧ Hid (∃ m left, LpSt w wr b1 m1 b2 m2 n L m left i B (.slice A7 n7 c7))) (fun _ s14 _ => N - (intOf s14).toNat)
      case atStart => exact ⟨0, _, _, _, Nat.zero_le _, rfl, rfl, hid ⟨_, _, HLP.out⟩⟩
      case round =>
        obtain ⟨i, A7, n7, c7, hi, rfl, rfl, HLR⟩ := hrel
        obtain ⟨m, left, hlp⟩ := HLR.out
        have HL := hid hlp
        clear HLR hlp
        obtain ⟨wo, rfl⟩ : ∃ q : World, q = wr := ⟨wr, rfl⟩
        by_cases hlt : i < N
        · have hlt' : (i : Int) < (N : Int) := by omega
          have hiL : i < L.length := by rw [HN.out]; exact hlt
          have HLL : Hid (left.length = n7) := hid (by
            obtain ⟨A', c', e⟩ := HL.out.own.shape
            injection e with _ e _
            exact e.symm)
          have HN7 : Hid (0 < n7) := hid (by
            have h1 := HL.out.or.lf
            have h2 := HLL.out
            omega)
          have HN7N : Hid (n7 ≤ 30) := hid (by
            have h1 := HL.out.or.lf
            have h2 := HLL.out
            have h3 := HN30.out
            have h4 := HN.out
            omega)
          obtain ⟨b1x, o1x, rfl, h1⟩ := HEL.out i hiL
          have H1 := hid h1
          have HXO := hid (HOL.out _ (List.getElem_mem hiL))
          have HRT := hid (resG_take (n := n) hiL)
          generalize L[i] = x at *
          have HHI := hid (show i < N from hlt)
          have HWI : Hid (wrap64 ((i : Int) + 1) = (i : Int) + 1) := hid (by have := HN30.out; unfold wrap64; omega)
          have HBY := hid (HBT.out.below HL.out.od.bel)
          clear h1 hiL hlt hi
          go_upto_if 131 with (fail)
          go_cut [15] (fun s15 wx => (∃ k : Nat, k < n7 ∧ s15 = .int .i64 (k : Int)) ∧ wx = wo)
          case first =>
            have hn7 : ¬ (n7 : Int) = 0 := by have := HN7.out; omega
            by_cases hT : i < NT
            · have hT' : (i : Int) < (NT : Int) := by omega
              have hiT : i < T.length := by rw [HNT.out]; exact hT
              obtain ⟨bt, ot, rfl, _, hct⟩ := HBY.out.at_.2.2.2 (by omega)
              have hcti := hct i hiT
              unfold bcell at hcti
              generalize T[i] = t at *
              clear hct hiT hT
              go_wp2_with fail
              go_meet
              case rel => exact ⟨⟨t.toNat % n7, Nat.mod_lt _ HN7.out, by rw [od_rem]⟩, rfl⟩
            · have hT' : ¬ (i : Int) < (NT : Int) := by omega
              clear hT
              go_wp2_with fail
              go_meet
              case rel => exact ⟨⟨0, HN7.out, rfl⟩, rfl⟩
          case rest =>
            obtain ⟨⟨k, hk, rfl⟩, rfl⟩ := hcut
            have HK := hid hk
            have hkI : (k : Int) < (n7 : Int) := by omega
            have HKL : Hid (k < left.length) := hid (by rw [HLL.out]; exact hk)
            have l1 := (H1.out _ HL.out.od.bel).ld
            have HD1 := hid (gAdd_any HL.out.od.g1 HL.out.od.k1 x HXO.out (HKB.out _ HL.out.od.bel))
            obtain ⟨X, HX⟩ : ∃ C : Array Value, Hid (atc x = C) := ⟨_, hid rfl⟩
            rw [HX.out] at l1 HD1
            clear hk
            go_wp2_with fail
            refine HD1.out.mono ?_
            rintro e w6 ⟨rfl, hg6, hw6⟩
            have HO6 := hid (HL.out.od.add1 HXO.out hg6 hw6)
            have HW6 := hid (HL.out.own.turn HL.out.od.g1 hw6)
            have HZ6 := hid (Nat.le_trans HL.out.sz hw6.size)
            have HYO := hid (HL.out.lok _ (List.getElem_mem HKL.out))
            obtain ⟨bl, ol, rfl, _, hcl⟩ := (HW6.out.els eltAt HL.out.lok).at_.2.2.2 (Nat.lt_of_le_of_lt (Nat.zero_le _) HKL.out)
            have l2 : loadAtt (.pointer (some ⟨bl, ol + k * 101, none⟩)) w6 = .ok (.value (.agg (atc left[k]))) w6 := loadAtt_in (hcl k HKL.out) HYO.out
            have HD2 := hid (gAdd_any HO6.out.g2 HO6.out.k2 (left[k]'HKL.out) HYO.out (HKB.out _ HO6.out.bel))
            have HST := hid (HL.out.or.step HKL.out)
            have HRM := hid (resG_snoc n [] m (left[k]'HKL.out))
            generalize (left[k]'HKL.out) = y at *
            obtain ⟨Y, HY⟩ : ∃ C : Array Value, Hid (atc y = C) := ⟨_, hid rfl⟩
            rw [HY.out] at l2 HD2
            clear hg6 hw6 hcl l1
            go_wp2_with fail
            refine HD2.out.mono ?_
            rintro e w7 ⟨rfl, hg7, hw7⟩
            have HO7 := hid (HO6.out.add2 HYO.out hg7 hw7)
            have HW7 := hid (HW6.out.turn HO6.out.g2 hw7)
            have HZ7 := hid (Nat.le_trans HZ6.out hw7.size)
            clear hg7 hw7 l2
            go_upto_region 24 with (fail)
            have hwk : IntKind.i64.wrap ((k : Int) + 1) = (k : Int) + 1 := od_wrap HK.out HN7N.out
            have HE7 := hid (HW7.out.els eltAt HL.out.lok)
            obtain ⟨hn7, hcap, _⟩ := HE7.out.at_
            obtain ⟨A1, c1, hcut1, hels1⟩ := cut_ath (some ⟨bl, ol, none⟩) c7 n7 k (Nat.le_of_lt HK.out) (by rw [hn7]; exact hcap)
            obtain ⟨A2, c2, hcut2, hels2⟩ := cut_atl (some ⟨bl, ol, none⟩) c7 n7 (k + 1) HK.out (by rw [hn7]; exact hcap)
            rw [show ((k + 1 : Nat) : Int) = (k : Int) + 1 from by omega] at hcut2
            have HF0 := hid (FlSt.fresh w7.drew)
            have HBE : Hid (Below w7.heap.size w7 (w7.drew.alloc (.cells #[] 29))) := hid (((Below.refl w7.heap.size w7).drew).alloc (Nat.le_refl _) _)
            have HEL1 := hid (fun W (h : Below w7.heap.size w7 W) => hels1 W left HLL.out (HE7.out.below h))
            have HEL2 := hid (fun W (h : Below w7.heap.size w7 W) => hels2 W left HLL.out (HE7.out.below h))
            have HT1 : Hid (∀ a ∈ left.take k, a.Ok) := hid (fun a ha => HL.out.lok a (List.mem_of_mem_take ha))
            have HT2 : Hid (∀ a ∈ left.drop (k + 1), a.Ok) := hid (fun a ha => HL.out.lok a (List.mem_of_mem_drop ha))
            have HLN1 : Hid (([] : List AtM).length + (left.take k).length ≤ 1000000) := hid (od_len1 k HLL.out HN7N.out)
            have HLN3 : Hid (([] ++ left.take k : List AtM).length + (left.drop (k + 1)).length ≤ 1000000) := hid (od_len3 k HLL.out HN7N.out)
            clear hn7 hcap hels1 hels2
            refine wp_region_held_drew (S := fun _ => True) (by kernel_rfl) True.intro (fun hHeld => ?_)
            refine' tk (i := 1) (v := _) rfl ?_ ?_
            rotate_left
            · (intro W hW; (try dsimp only at hW); go_simp; first | done | with_reducible rfl)
            try simp only [lay]
            refine' tk (i := 2) (v := _) rfl ?_ ?_
            rotate_left
            · (intro W hW; (try dsimp only at hW); go_simp; first | done | with_reducible rfl)
            try simp only [lay]
            refine' tk (i := 3) (v := _) rfl ?_ ?_
            rotate_left
            · (intro W hW; (try dsimp only at hW); go_simp; first | done | with_reducible rfl)
            try simp only [lay]
            refine' tk (i := 5) (v := _) rfl ?_ ?_
            rotate_left
            · (intro W hW; (try dsimp only at hW); go_simp; first | done | with_reducible rfl)
            try simp only [lay]
            refine' tk (i := 6) (v := _) rfl ?_ ?_
            rotate_left
            · (intro W hW; (try dsimp only at hW); go_simp; first | done | with_reducible rfl)
            try simp only [lay]
            refine' tk (i := 7) (v := _) rfl ?_ ?_
            rotate_left
            · (intro W hW; (try dsimp only at hW); go_simp; first | done | with_reducible rfl)
            try simp only [lay]
            refine' tk (i := 8) (v := _) rfl ?_ ?_
            rotate_left
            · (intro W hW; (try dsimp only at hW); go_simp; first | done | with_reducible rfl)
            try simp only [lay]
            refine call_on (i := 0) rfl (by kernel_rfl) (by rfl) (fun K hK => ?_)
            go_simp
            refine hK.out _ _ True.intro (fun hHeld => ?_)
            clear hK K
            try simp only [lay]
            refine call_on (i := 4) rfl (by kernel_rfl) (by rfl) (fun K hK => ?_)
            refine eltAt.wp_append (.tmp 152) (.tmp 155) rfl rfl rfl HT1.out HF0.out.own (HEL1.out _ HBE.out) HLN1.out HF0.out.bel.size ?_
            intro v8 w8 ho8 hg8 _
            have HS8 := hid (HF0.out.app ho8 hg8)
            obtain ⟨A8, n8, c8, rfl⟩ : ∃ A n c, v8 = .slice A n c := (by obtain ⟨A, c, e⟩ := ho8.shape; exact ⟨_, _, _, e⟩)
            refine hK.out _ _ True.intro (fun hHeld => ?_)
            clear hK K ho8 hg8
            try simp only [lay]
            have HB8 : Hid (Below w7.heap.size w7 w8) := hid (((Below.refl w7.heap.size w7).drew).trans HS8.out.bel)
            refine call_on (i := 9) rfl (by kernel_rfl) (by rfl) (fun K hK => ?_)
            refine eltAt.wp_append (.tmp 156) (.tmp 160) rfl rfl rfl HT2.out HS8.out.own (HEL2.out _ HB8.out) HLN3.out HS8.out.bel.size ?_
            intro v9 w9 ho9 hg9 _
            have HS9 := hid (HS8.out.app ho9 hg9)
            obtain ⟨A9, n9, c9, rfl⟩ : ∃ A n c, v9 = .slice A n c := (by obtain ⟨A, c, e⟩ := ho9.shape; exact ⟨_, _, _, e⟩)
            refine hK.out _ _ True.intro (fun hHeld => ?_)
            clear hK K ho9 hg9
            try simp only [lay]
            refine' tk (i := 10) (v := _) rfl ?_ ?_
            rotate_left
            · (intro W hW; (try dsimp only at hW); go_simp; first | done | with_reducible rfl)
            try simp only [lay]
            refine wpAnyH_done (by kernel_rfl) ?_ _
            clear hHeld
            rw [List.nil_append] at HS9
            have HB9 : Hid (Below w7.heap.size w7 w9) := hid (((Below.refl w7.heap.size w7).drew).trans HS9.out.bel)
            have HLN9 : Hid (LpSt w w9 b1 m1 b2 m2 n L (m ++ [y]) (left.take k ++ left.drop (k + 1)) (i + 1) B (.slice A9 n9 c9)) := hid ⟨by rw [HRT.out, HRM.out]; exact HO7.out.below HB9.out, HST.out, HS9.out.own.more HZ7.out, Nat.le_trans HZ7.out HB9.out.size, fun a ha => by
              rcases List.mem_append.1 ha with ha | ha
              · exact HT1.out a ha
              · exact HT2.out a ha, HL.out.wB⟩
            have hwi := HWI.out
            go_wp2_with fail
            go_roundw
            case rel => exact ⟨i + 1, _, _, _, HHI.out, by first | go_num | (rw [HWI.out]; rfl), rfl, hid ⟨_, _, HLN9.out⟩⟩
            case measure => exact ga_meas HHI.out hwi
        · have hlt' : ¬ (i : Int) < (N : Int) := by omega
          have HIN : Hid (i = L.length) := hid (by rw [HN.out]; omega)
          have HR : Hid (∃ R, OdSt w wo b1 m1 b2 m2 n R R) := hid (by
            have h1 := HL.out.od
            have h2 := HL.out.or
            rw [HIN.out] at h1 h2
            rw [List.take_length, ← h2.fin (n := n) (by have := HN30.out; have := HN.out; omega) HONE.out] at h1
            exact ⟨_, h1⟩)
          obtain ⟨R, hod⟩ := HR.out
          have HOD2 := hid hod
          clear HR hod HL hlt hi HIN HOD HLP
          go_wp2_with fail
          clear hlt'
          go_loopw [16] (fun s16 wr => ∃ i : Nat, i ≤ N ∧ s16 = .int .i64 i ∧ Hid (OdSt w wr b1 m1 b2 m2 n R R)) (fun s16 _ => N - (intOf s16).toNat)
          case atStart => exact ⟨0, Nat.zero_le _, rfl, HOD2⟩
          case round =>
            clear HOD2
            obtain ⟨i, hi, rfl, HOD⟩ := hrel
            by_cases hlt : i < N
            · have hlt' : (i : Int) < (N : Int) := by omega
              have hiL : i < L.length := by rw [HN.out]; exact hlt
              obtain ⟨b1x, o1x, rfl, h1⟩ := HEL.out i hiL
              have H1 := hid h1
              generalize L[i] = x at *
              have HHI := hid (show i < N from hlt)
              have HWI : Hid (wrap64 ((i : Int) + 1) = (i : Int) + 1) := hid (by have := HN30.out; unfold wrap64; omega)
              obtain ⟨xk, HXK⟩ : ∃ q : Int, Hid (x.ki = q) := ⟨_, hid rfl⟩
              obtain ⟨xv, HXV⟩ : ∃ q : Int, Hid (x.vi = q) := ⟨_, hid rfl⟩
              have HE : Hid (∀ W, Below w.heap.size w W → W.cell? ⟨b1x, o1x + i * 101 + 1, none⟩ = some (.int .i64 xk) ∧ W.cell? ⟨b1x, o1x + i * 101 + 2, none⟩ = some (.int .i64 xv)) := hid (fun W h => by
                obtain ⟨_, e2, e3, _⟩ := H1.out W h
                rw [HXK.out] at e2
                rw [HXV.out] at e3
                exact ⟨e2, e3⟩)
              obtain ⟨cg, HCG⟩ : ∃ q : CtM × Bool, Hid (certG n R xk xv = q) := ⟨_, hid rfl⟩
              have HC1 : Hid (∀ W, Below wr.heap.size wr W → Calls Tryd.prog 9 #[.pointer (some ⟨b1, 0, none⟩), .int .i64 xk, .int .i64 xv] W fun e w' => ∃ s, e = .returned (.tuple #[.agg (ctc cg.1 s), .bool cg.2]) ∧ cg.1.Ok ∧ OwnE scl 33 59 W.heap.size w' s cg.1.sg ∧ Below W.heap.size W w') := hid (fun W h => by
                rw [← HCG.out]
                have ho := HOD.out.below h
                exact gCert_new ho.g1 ho.k1 xk xv (HKB.out _ ho.bel))
              have HC2 : Hid (∀ W, Below wr.heap.size wr W → Calls Tryd.prog 9 #[.pointer (some ⟨b2, 0, none⟩), .int .i64 xk, .int .i64 xv] W fun e w' => ∃ s, e = .returned (.tuple #[.agg (ctc cg.1 s), .bool cg.2]) ∧ cg.1.Ok ∧ OwnE scl 33 59 W.heap.size w' s cg.1.sg ∧ Below W.heap.size W w') := hid (fun W h => by
                rw [← HCG.out]
                have ho := HOD.out.below h
                exact gCert_new ho.g2 ho.k2 xk xv (HKB.out _ ho.bel))
              obtain ⟨ZC, HZC⟩ : ∃ C : Array Value, Hid (ctc ctZ (.slice none 0 0) = C) := ⟨_, hid rfl⟩
              have HAC : Hid (∀ W, allocCt W = .ok (.value (.pointer (some ⟨W.heap.size, 0, none⟩))) (W.alloc (.cells ZC 37))) := hid (fun W => by rw [← HZC.out]; exact allocCt_eq W)
              have HZCS : Hid (ZC.size = 102) := hid (by rw [← HZC.out]; exact ctc_size _ ctZ_ok.att)
              have HBX : Hid (∀ W, Below wr.heap.size wr W → Below w.heap.size w W) := hid (fun W h => HOD.out.bel.trans (h.mono HOD.out.bel.size))
              clear h1 hiL hlt hi HXK HXV H1
              go_upto_region 28 with (fail)
              go_cut [17, 18] (fun s17 s18 wx => CeAt wr cg s17 s18 wx)
              case first =>
                refine wp_region_held_drew (S := fun W => Below wr.heap.size wr W) (by kernel_rfl) ((Below.refl _ _).drew) (fun hHeld => ?_)
                refine' tk (i := 0) (v := _) rfl ?_ ?_
                rotate_left
                · (intro W hW; (try dsimp only at hW); go_simp; first | done | with_reducible rfl)
                try simp only [lay]
                refine' tk (i := 1) (v := _) rfl ?_ ?_
                rotate_left
                · (intro W hW; (try dsimp only at hW); go_simp; first | done | with_reducible rfl)
                try simp only [lay]
                refine' tk (i := 2) (v := _) rfl ?_ ?_
                rotate_left
                · (intro W hW; (try dsimp only at hW); go_simp; first | done | with_reducible rfl)
                try simp only [lay]
                refine' tk (i := 3) (v := _) rfl ?_ ?_
                rotate_left
                · (intro W hW; (try dsimp only at hW); go_simp; first | done | with_reducible rfl)
                try simp only [lay]
                refine' tk (i := 4) (v := _) rfl ?_ ?_
                rotate_left
                · (intro W hW; (try dsimp only at hW); go_simp; first | done | with_reducible rfl)
                try simp only [lay]
                refine' tk (i := 5) (v := _) rfl ?_ ?_
                rotate_left
                · (intro W hW; (try dsimp only at hW); have hq := HE.out W (HBX.out W hW); obtain ⟨e2, e3⟩ := hq; go_simp; first | done | with_reducible rfl)
                try simp only [lay]
                refine' tk (i := 6) (v := _) rfl ?_ ?_
                rotate_left
                · (intro W hW; (try dsimp only at hW); go_simp; first | done | with_reducible rfl)
                try simp only [lay]
                refine' tk (i := 7) (v := _) rfl ?_ ?_
                rotate_left
                · (intro W hW; (try dsimp only at hW); go_simp; first | done | with_reducible rfl)
                try simp only [lay]
                refine' tk (i := 8) (v := _) rfl ?_ ?_
                rotate_left
                · (intro W hW; (try dsimp only at hW); go_simp; first | done | with_reducible rfl)
                try simp only [lay]
                refine' tk (i := 9) (v := _) rfl ?_ ?_
                rotate_left
                · (intro W hW; (try dsimp only at hW); go_simp; first | done | with_reducible rfl)
                try simp only [lay]
                refine' tk (i := 10) (v := _) rfl ?_ ?_
                rotate_left
                · (intro W hW; (try dsimp only at hW); have hq := HE.out W (HBX.out W hW); obtain ⟨e2, e3⟩ := hq; go_simp; first | done | with_reducible rfl)
                try simp only [lay]
                have hbd : Below wr.heap.size wr wr.drew := (Below.refl _ _).drew
                refine pair_on (i := 11) (j := 15) rfl rfl (by kernel_rfl) (by rfl) (by rfl) (fun K hK => ?_) (fun K hK => ?_)
                · go_simp
                  refine (HC1.out _ (hbd)).mono ?_
                  rintro e w6 ⟨s6, rfl, hk6, ho6, hb6⟩
                  have HB6 := hid (hbd.trans (hb6.mono hbd.size))
                  have HO6 := hid ho6
                  have HK6 := hid hk6
                  obtain ⟨hy1, hy2⟩ := ctc_own hk6 ho6
                  refine hK.out _ _ (HB6.out) (fun hHeld => ?_)
                  clear hK K hb6 hk6 ho6
                  try simp only [lay]
                  refine' tk (i := 12) (v := _) rfl ?_ ?_
                  rotate_left
                  · (intro W hW; (try dsimp only at hW); go_simp; first | done | with_reducible rfl)
                  try simp only [lay]
                  refine' tk (i := 13) (v := _) rfl ?_ ?_
                  rotate_left
                  · (intro W hW; (try dsimp only at hW); go_simp; first | done | with_reducible rfl)
                  try simp only [lay]
                  refine' tk (i := 14) (v := _) rfl ?_ ?_
                  rotate_left
                  · (intro W hW; (try dsimp only at hW); go_simp; first | done | with_reducible rfl)
                  try simp only [lay]
                  have hac := HAC.out w6
                  have hst := ct_var w6 HZCS.out hy1 hy2
                  refine call_on (i := 15) rfl (by kernel_rfl) (by rfl) (fun K hK => ?_)
                  go_simp
                  refine hK.out _ _ (HB6.out.alloc HB6.out.size _) (fun hHeld => ?_)
                  clear hK K
                  try simp only [lay]
                  refine call_on (i := 16) rfl (by kernel_rfl) (by rfl) (fun K hK => ?_)
                  go_simp
                  have HB8 := hid (HB6.out.alloc HB6.out.size (.cells (ctc cg.1 s6) 37))
                  have HC8 := hid (ceAt_mk HK6.out (HO6.out.below ((Below.refl w6.heap.size w6).alloc (Nat.le_refl _) (.cells (ctc cg.1 s6) 37))) (heap_alloc_new w6 (.cells (ctc cg.1 s6) 37)) HB8.out)
                  refine hK.out _ _ (HB8.out) (fun hHeld => ?_)
                  clear hK K hac hst
                  try simp only [lay]
                  refine' tk (i := 17) (v := _) rfl ?_ ?_
                  rotate_left
                  · (intro W hW; (try dsimp only at hW); go_simp; first | done | with_reducible rfl)
                  try simp only [lay]
                  refine wpAnyH_done (by kernel_rfl) ?_ _
                  clear hHeld
                  go_wp2_with fail
                  go_meet
                  case rel => exact HC8.out
                · have hac := HAC.out wr.drew
                  go_simp
                  have hbe := hbd.alloc hbd.size (.cells ZC 37)
                  have HRZ := hid (heap_alloc_new wr.drew (.cells ZC 37))
                  refine hK.out _ _ hbe (fun hHeld => ?_)
                  clear hK K hac
                  try simp only [lay]
                  refine call_on (i := 11) rfl (by kernel_rfl) (by rfl) (fun K hK => ?_)
                  go_simp
                  refine (HC1.out _ (hbe)).mono ?_
                  rintro e w6 ⟨s6, rfl, hk6, ho6, hb6⟩
                  have HB6 := hid (hbe.trans (hb6.mono hbe.size))
                  have HO6 := hid ho6
                  have HK6 := hid hk6
                  have HR6 := hid ((hb6.block _ (lt_of_block HRZ.out)).trans HRZ.out)
                  obtain ⟨hy1, hy2⟩ := ctc_own hk6 ho6
                  refine hK.out _ _ (HB6.out) (fun hHeld => ?_)
                  clear hK K hb6 hk6 ho6
                  try simp only [lay]
                  refine' tk (i := 12) (v := _) rfl ?_ ?_
                  rotate_left
                  · (intro W hW; (try dsimp only at hW); go_simp; first | done | with_reducible rfl)
                  try simp only [lay]
                  refine' tk (i := 13) (v := _) rfl ?_ ?_
                  rotate_left
                  · (intro W hW; (try dsimp only at hW); go_simp; first | done | with_reducible rfl)
                  try simp only [lay]
                  refine' tk (i := 14) (v := _) rfl ?_ ?_
                  rotate_left
                  · (intro W hW; (try dsimp only at hW); go_simp; first | done | with_reducible rfl)
                  try simp only [lay]
                  have hst : storeCt (.pointer (some ⟨wr.heap.size, 0, none⟩)) (.agg (ctc cg.1 s6)) w6 = .ok .skip (setCt w6 wr.heap.size (ctc cg.1 s6)) := storeCt_eq HR6.out HZCS.out hy1 hy2
                  refine call_on (i := 16) rfl (by kernel_rfl) (by rfl) (fun K hK => ?_)
                  go_simp
                  have HB8 := hid (setCt_below (C := ctc cg.1 s6) HB6.out (Nat.le_refl _))
                  have HC8 := hid (ceAt_mk HK6.out (HO6.out.row (g := wr.drew.heap.size) (C := ctc cg.1 s6) (lt_of_block HRZ.out)) (setCt_same (C := ctc cg.1 s6) HR6.out) HB8.out)
                  refine hK.out _ _ (HB8.out) (fun hHeld => ?_)
                  clear hK K hst
                  try simp only [lay]
                  refine' tk (i := 17) (v := _) rfl ?_ ?_
                  rotate_left
                  · (intro W hW; (try dsimp only at hW); go_simp; first | done | with_reducible rfl)
                  try simp only [lay]
                  refine wpAnyH_done (by kernel_rfl) ?_ _
                  clear hHeld
                  go_wp2_with fail
                  go_meet
                  case rel => exact HC8.out
              case rest =>
                obtain ⟨p17, C17, rfl, rfl, hr17, hs17, hv17, hb17⟩ := hcut
                have HR17 := hid hr17
                have HS17 := hid hs17
                have HV17 := hid hv17
                have HB17 := hid hb17
                clear hr17 hs17 hv17 hb17
                go_upto_region 29 with (fail)
                go_cut [19, 20] (fun s19 s20 wx => CeAt wc cg s19 s20 wx)
                case first =>
                  refine wp_region_held_drew (S := fun W => Below wc.heap.size wc W) (by kernel_rfl) ((Below.refl _ _).drew) (fun hHeld => ?_)
                  refine' tk (i := 0) (v := _) rfl ?_ ?_
                  rotate_left
                  · (intro W hW; (try dsimp only at hW); go_simp; first | done | with_reducible rfl)
                  try simp only [lay]
                  refine' tk (i := 1) (v := _) rfl ?_ ?_
                  rotate_left
                  · (intro W hW; (try dsimp only at hW); go_simp; first | done | with_reducible rfl)
                  try simp only [lay]
                  refine' tk (i := 2) (v := _) rfl ?_ ?_
                  rotate_left
                  · (intro W hW; (try dsimp only at hW); go_simp; first | done | with_reducible rfl)
                  try simp only [lay]
                  refine' tk (i := 3) (v := _) rfl ?_ ?_
                  rotate_left
                  · (intro W hW; (try dsimp only at hW); go_simp; first | done | with_reducible rfl)
                  try simp only [lay]
                  refine' tk (i := 4) (v := _) rfl ?_ ?_
                  rotate_left
                  · (intro W hW; (try dsimp only at hW); go_simp; first | done | with_reducible rfl)
                  try simp only [lay]
                  refine' tk (i := 5) (v := _) rfl ?_ ?_
                  rotate_left
                  · (intro W hW; (try dsimp only at hW); have hq := HE.out W (HBX.out W (HB17.out.trans (hW.mono HB17.out.size))); obtain ⟨e2, e3⟩ := hq; go_simp; first | done | with_reducible rfl)
                  try simp only [lay]
                  refine' tk (i := 6) (v := _) rfl ?_ ?_
                  rotate_left
                  · (intro W hW; (try dsimp only at hW); go_simp; first | done | with_reducible rfl)
                  try simp only [lay]
                  refine' tk (i := 7) (v := _) rfl ?_ ?_
                  rotate_left
                  · (intro W hW; (try dsimp only at hW); go_simp; first | done | with_reducible rfl)
                  try simp only [lay]
                  refine' tk (i := 8) (v := _) rfl ?_ ?_
                  rotate_left
                  · (intro W hW; (try dsimp only at hW); go_simp; first | done | with_reducible rfl)
                  try simp only [lay]
                  refine' tk (i := 9) (v := _) rfl ?_ ?_
                  rotate_left
                  · (intro W hW; (try dsimp only at hW); go_simp; first | done | with_reducible rfl)
                  try simp only [lay]
                  refine' tk (i := 10) (v := _) rfl ?_ ?_
                  rotate_left
                  · (intro W hW; (try dsimp only at hW); have hq := HE.out W (HBX.out W (HB17.out.trans (hW.mono HB17.out.size))); obtain ⟨e2, e3⟩ := hq; go_simp; first | done | with_reducible rfl)
                  try simp only [lay]
                  have hbd : Below wc.heap.size wc wc.drew := (Below.refl _ _).drew
                  refine pair_on (i := 11) (j := 15) rfl rfl (by kernel_rfl) (by rfl) (by rfl) (fun K hK => ?_) (fun K hK => ?_)
                  · go_simp
                    refine (HC2.out _ (HB17.out.trans (Below.mono (hbd) HB17.out.size))).mono ?_
                    rintro e w6 ⟨s6, rfl, hk6, ho6, hb6⟩
                    have HB6 := hid (hbd.trans (hb6.mono hbd.size))
                    have HO6 := hid ho6
                    have HK6 := hid hk6
                    obtain ⟨hy1, hy2⟩ := ctc_own hk6 ho6
                    refine hK.out _ _ (HB6.out) (fun hHeld => ?_)
                    clear hK K hb6 hk6 ho6
                    try simp only [lay]
                    refine' tk (i := 12) (v := _) rfl ?_ ?_
                    rotate_left
                    · (intro W hW; (try dsimp only at hW); go_simp; first | done | with_reducible rfl)
                    try simp only [lay]
                    refine' tk (i := 13) (v := _) rfl ?_ ?_
                    rotate_left
                    · (intro W hW; (try dsimp only at hW); go_simp; first | done | with_reducible rfl)
                    try simp only [lay]
                    refine' tk (i := 14) (v := _) rfl ?_ ?_
                    rotate_left
                    · (intro W hW; (try dsimp only at hW); go_simp; first | done | with_reducible rfl)
                    try simp only [lay]
                    have hac := HAC.out w6
                    have hst := ct_var w6 HZCS.out hy1 hy2
                    refine call_on (i := 15) rfl (by kernel_rfl) (by rfl) (fun K hK => ?_)
                    go_simp
                    refine hK.out _ _ (HB6.out.alloc HB6.out.size _) (fun hHeld => ?_)
                    clear hK K
                    try simp only [lay]
                    refine call_on (i := 16) rfl (by kernel_rfl) (by rfl) (fun K hK => ?_)
                    go_simp
                    have HB8 := hid (HB6.out.alloc HB6.out.size (.cells (ctc cg.1 s6) 37))
                    have HC8 := hid (ceAt_mk HK6.out (HO6.out.below ((Below.refl w6.heap.size w6).alloc (Nat.le_refl _) (.cells (ctc cg.1 s6) 37))) (heap_alloc_new w6 (.cells (ctc cg.1 s6) 37)) HB8.out)
                    refine hK.out _ _ (HB8.out) (fun hHeld => ?_)
                    clear hK K hac hst
                    try simp only [lay]
                    refine' tk (i := 17) (v := _) rfl ?_ ?_
                    rotate_left
                    · (intro W hW; (try dsimp only at hW); go_simp; first | done | with_reducible rfl)
                    try simp only [lay]
                    refine wpAnyH_done (by kernel_rfl) ?_ _
                    clear hHeld
                    go_wp2_with fail
                    go_meet
                    case rel => exact HC8.out
                  · have hac := HAC.out wc.drew
                    go_simp
                    have hbe := hbd.alloc hbd.size (.cells ZC 37)
                    have HRZ := hid (heap_alloc_new wc.drew (.cells ZC 37))
                    refine hK.out _ _ hbe (fun hHeld => ?_)
                    clear hK K hac
                    try simp only [lay]
                    refine call_on (i := 11) rfl (by kernel_rfl) (by rfl) (fun K hK => ?_)
                    go_simp
                    refine (HC2.out _ (HB17.out.trans (Below.mono (hbe) HB17.out.size))).mono ?_
                    rintro e w6 ⟨s6, rfl, hk6, ho6, hb6⟩
                    have HB6 := hid (hbe.trans (hb6.mono hbe.size))
                    have HO6 := hid ho6
                    have HK6 := hid hk6
                    have HR6 := hid ((hb6.block _ (lt_of_block HRZ.out)).trans HRZ.out)
                    obtain ⟨hy1, hy2⟩ := ctc_own hk6 ho6
                    refine hK.out _ _ (HB6.out) (fun hHeld => ?_)
                    clear hK K hb6 hk6 ho6
                    try simp only [lay]
                    refine' tk (i := 12) (v := _) rfl ?_ ?_
                    rotate_left
                    · (intro W hW; (try dsimp only at hW); go_simp; first | done | with_reducible rfl)
                    try simp only [lay]
                    refine' tk (i := 13) (v := _) rfl ?_ ?_
                    rotate_left
                    · (intro W hW; (try dsimp only at hW); go_simp; first | done | with_reducible rfl)
                    try simp only [lay]
                    refine' tk (i := 14) (v := _) rfl ?_ ?_
                    rotate_left
                    · (intro W hW; (try dsimp only at hW); go_simp; first | done | with_reducible rfl)
                    try simp only [lay]
                    have hst : storeCt (.pointer (some ⟨wc.heap.size, 0, none⟩)) (.agg (ctc cg.1 s6)) w6 = .ok .skip (setCt w6 wc.heap.size (ctc cg.1 s6)) := storeCt_eq HR6.out HZCS.out hy1 hy2
                    refine call_on (i := 16) rfl (by kernel_rfl) (by rfl) (fun K hK => ?_)
                    go_simp
                    have HB8 := hid (setCt_below (C := ctc cg.1 s6) HB6.out (Nat.le_refl _))
                    have HC8 := hid (ceAt_mk HK6.out (HO6.out.row (g := wc.drew.heap.size) (C := ctc cg.1 s6) (lt_of_block HRZ.out)) (setCt_same (C := ctc cg.1 s6) HR6.out) HB8.out)
                    refine hK.out _ _ (HB8.out) (fun hHeld => ?_)
                    clear hK K hst
                    try simp only [lay]
                    refine' tk (i := 17) (v := _) rfl ?_ ?_
                    rotate_left
                    · (intro W hW; (try dsimp only at hW); go_simp; first | done | with_reducible rfl)
                    try simp only [lay]
                    refine wpAnyH_done (by kernel_rfl) ?_ _
                    clear hHeld
                    go_wp2_with fail
                    go_meet
                    case rel => exact HC8.out
                case rest =>
                  obtain ⟨p19, C19, rfl, rfl, hr19, hs19, hv19, hb19⟩ := hcut
                  have HR17B := hid ((hb19.block _ (lt_of_block HR17.out)).trans HR17.out)
                  have HV17B := hid (HV17.out.below hb19)
                  have HB19 := hid (HB17.out.trans (hb19.mono HB17.out.size))
                  have l17 := loadCt_row HR17B.out HS17.out
                  have l19 := loadCt_row hr19 hs19
                  have HSM := hid (refSame9_any _ _ _ _ _ HV17B.out hv19)
                  rw [show decide (cg.1 = cg.1) = true from decide_eq_true rfl] at HSM
                  have hbb : (cg.2 != cg.2) = false := by simp
                  clear hr19 hs19 hv19 hb19
                  go_wp2_with fail
                  refine HSM.out.mono ?_
                  rintro e w9 ⟨rfl, hb9⟩
                  have HOD9 := hid (HOD.out.below (HB19.out.trans (hb9.mono HB19.out.size)))
                  have hwi := HWI.out
                  clear l17 l19 hb9
                  go_wp2_with fail
                  go_roundw
                  case rel => exact ⟨i + 1, HHI.out, by first | go_num | (rw [HWI.out]; rfl), HOD9⟩
                  case measure => exact ga_meas HHI.out hwi
            · have hlt' : ¬ (i : Int) < (N : Int) := by omega
              have HA1 := hid (gAll_any HOD.out.g1 HOD.out.k1)
              clear hlt hi
              go_wp2_with fail
              refine HA1.out.mono ?_
              rintro e w3 ⟨x3, rfl, ho3, hb3⟩
              have HOD3 := hid (HOD.out.below hb3)
              have HE3 := hid (ho3.els eltAt HOD.out.k1.ok)
              have HA2 := hid (gAll_any HOD3.out.g2 HOD3.out.k2)
              obtain ⟨A3, c3, rfl⟩ := ho3.shape
              clear ho3 hb3
              go_wp2_with fail
              refine HA2.out.mono ?_
              rintro e w4 ⟨x4, rfl, ho4, hb4⟩
              have HOD4 := hid (HOD3.out.below hb4)
              have HS4 := hid (refSame16_any _ _ R R w4 (HE3.out.below hb4) (ho4.els eltAt HOD.out.k1.ok) HOD.out.k1.ok HOD.out.k1.ok)
              rw [show decide (R = R) = true from decide_eq_true rfl] at HS4
              obtain ⟨A4, c4, rfl⟩ := ho4.shape
              clear ho4 hb4
              go_wp2_with fail
              refine HS4.out.mono ?_
              rintro e w5 ⟨rfl, hb5⟩
              have HB5 := hid (HOD4.out.bel.trans (hb5.mono HOD4.out.bel.size))
              clear hb5
              go_wp2_with fail
              refine (HAW.out w5 HB5.out).mono ?_
              rintro e w6 ⟨rfl, hb6⟩
              have HB6 := hid hb6
              clear hb6
              go_wp2_with fail
              go_ret
              exact ⟨rfl, HB6.out⟩
end Go.Proofs.YtpnejoglkmfleaaDoor
