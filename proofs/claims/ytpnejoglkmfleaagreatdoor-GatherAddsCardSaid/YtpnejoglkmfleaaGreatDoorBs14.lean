/-
  CtCodeFirst CtCodeMake: what each of them says stands at its head.
-/
import Derived.Test.YtpnejoglkmfleaaGreatDoorBs13
namespace Go.Proofs.YtpnejoglkmfleaaGreatDoor
set_option maxRecDepth 20000
open Go.RowKit
attribute [local go_sem ↓] exec_load_att exec_load_hash exec_build_sg2 exec_slice_sg
theorem ownE_ne {B g : Nat} {w : World} {T t : TypeId} {v : Value} {m : List SgM} {cs : Array Value} (h : OwnE scl 33 T B w v m) (hg : w.heap[g]? = some (.cells cs t (0, 0))) (ht : T ≠ t) : v.ownBlock ≠ some g := by
  rcases h.2 with ⟨rfl, _⟩ | ⟨g', cap, cur, rfl, _, hh, _⟩
  · simp [Value.ownBlock]
  · intro he
    obtain rfl : g' = g := by simpa [Value.ownBlock] using he
    rw [hh] at hg
    injection hg with hg
    injection hg with _ h2
    exact ht h2
def FoundA (l : List AtM) (b k : Int) : Prop := (k = -1 ∧ ∀ j (h : j < l.length), l[j].bo ≠ b) ∨ ∃ i, ∃ h : i < l.length, k = (i : Int) ∧ l[i].bo = b ∧ ∀ j (_ : j < l.length), j < i → l[j].bo ≠ b
set_option maxHeartbeats 800000 in
theorem ctHas_any (a : AtM) (g : Nat) (b : Int) (w : World) (hg : w.heap[g]? = some (.cells #[.int .i64 b] 3 (0, 0))) :
    Calls Tryz.prog 56 #[.agg (atc a), .pointer (some ⟨g, 0, none⟩)] w fun e w' => e = .returned (.bool (decide (a.bo = b))) ∧ Below w.heap.size w w' := by
  have hb0 : Below w.heap.size w (w.alloc (.cells (atc a) 36)) := (Below.refl _ _).alloc (Nat.le_refl _) _
  have hA := BoxA.new w a
  have hg0 := (hb0.block _ (lt_of_block hg)).trans hg
  obtain ⟨C, HC⟩ : ∃ C : Array Value, Hid (atc a = C) := ⟨_, hid rfl⟩
  rw [HC.out] at hb0 hA hg0 ⊢
  clear hg
  go_enter Tryz.func56, Tryz.ntmps56
  go_upto_region 1 with (fail)
  generalize (w.alloc (.cells C 36)) = w0 at *
  have k0 := hA.cells.1
  have k1 := cell_of_one hg0
  clear hA hg0
  go_wp2_with fail
  go_ret
  exact ⟨ret_boolK (by first | rfl | simp), hb0⟩
set_option maxHeartbeats 1600000 in
theorem ctIndex_any (v : Value) (l : List AtM) (g : Nat) (b : Int) (w0 : World) (hv : Els atl 101 w0 v l) (ho : ∀ a ∈ l, a.Ok) (hl : l.length ≤ 1000) (hg : w0.heap[g]? = some (.cells #[.int .i64 b] 3 (0, 0))) :
    Calls Tryz.prog 55 #[v, .func (.func 56) #[] #[.pointer (some ⟨g, 0, none⟩)]] w0 fun e w' => ∃ k : Int, e = .returned (.int .i64 k) ∧ FoundA l b k ∧ Below w0.heap.size w0 w' := by
  obtain ⟨A, c, rfl⟩ := hv.shape
  obtain ⟨n, HN⟩ : ∃ n : Nat, Hid (l.length = n) := ⟨_, hid rfl⟩
  rw [HN.out] at hv hl ⊢
  have HT := hid hv
  have HO := hid ho
  have HG := hid hg
  clear hv ho hg
  go_enter Tryz.func55, Tryz.ntmps55
  go_wp2_with fail
  go_loopw [8] (fun si wr => ∃ i : Nat, i ≤ n ∧ si = .int .i64 i ∧ Hid (∀ j (h : j < l.length), j < i → l[j].bo ≠ b) ∧ Below w0.heap.size w0 wr) (fun si _ => n - (intOf si).toNat)
  case atStart => exact ⟨0, Nat.zero_le _, rfl, hid (fun j _ h => absurd h (by omega)), Below.refl _ _⟩
  case round =>
    obtain ⟨i, hi, rfl, HB, hbr⟩ := hrel
    by_cases hlt : i < n
    · have hil : i < l.length := by rw [HN.out]; exact hlt
      obtain ⟨ba, oa, rfl, hba, hcla⟩ := (HT.out.below hbr).at_.2.2.2 (by omega)
      have hI : (i : Int) < (n : Int) := by omega
      have l1 : loadAtt (.pointer (some ⟨ba, oa + i * 101, none⟩)) wr = .ok (.value (.agg (atc l[i]))) wr := loadAtt_in (hcla i hil) (HO.out _ (List.getElem_mem hil))
      have HW := hid (ctHas_any l[i] g b wr ((hbr.block _ (lt_of_block HG.out)).trans HG.out))
      obtain ⟨X, HX⟩ : ∃ C : Array Value, Hid (atc l[i] = C) := ⟨_, hid rfl⟩
      obtain ⟨m, HM⟩ : ∃ q : Bool, Hid (decide (l[i].bo = b) = q) := ⟨_, hid rfl⟩
      rw [HX.out] at l1
      rw [HX.out, HM.out] at HW
      clear hcla hba
      go_wp2_with fail
      refine HW.out.mono ?_
      rintro e w2 ⟨rfl, hb2⟩
      have hbr2 := hbr.trans (hb2.mono hbr.size)
      clear l1
      cases m with
      | false =>
        go_wp2_with fail
        go_roundw
        case rel =>
          refine ⟨i + 1, by omega, by go_num, hid (fun j h hj => ?_), hbr2⟩
          by_cases hji : j < i
          · exact HB.out j h hji
          · obtain rfl : j = i := by omega
            exact of_decide_eq_false HM.out
        case measure => simp [intOf]; omega
      | true =>
        go_wp2_with fail
        go_ret
        exact ⟨_, rfl, .inr ⟨i, hil, rfl, of_decide_eq_true HM.out, HB.out⟩, hbr2⟩
    · obtain rfl : i = n := by omega
      go_wp2_with fail
      go_ret
      exact ⟨_, rfl, .inl ⟨rfl, fun j h => HB.out j h (by have := HN.out; omega)⟩, hbr⟩
structure FsSt (w0 w : World) (g : Nat) (b : Int) (s : Value) (L : List SgM) : Prop where
  bel : Below w0.heap.size w0 w
  lt : w0.heap.size ≤ g
  one : w.heap[g]? = some (.cells #[.int .i64 b] 3 (0, 0))
  own : OwnE scl 33 66 w0.heap.size w s L
section
variable {w0 w w' : World} {g : Nat} {b : Int} {s : Value} {L : List SgM}
theorem FsSt.below (h : FsSt w0 w g b s L) (hb : Below w.heap.size w w') : FsSt w0 w' g b s L :=
  ⟨h.bel.trans (hb.mono h.bel.size), h.lt, (hb.block _ (lt_of_block h.one)).trans h.one, h.own.below hb⟩
theorem FsSt.app (h : FsSt w0 w g b s L) {s' : Value} {L' : List SgM} (ho : OwnE scl 33 66 w0.heap.size w' s' L') (hg : w.grownBy w' s.ownBlock) : FsSt w0 w' g b s' L' := by
  have hne := ownE_ne h.own h.one (by decide)
  exact ⟨h.bel.grown hg h.bel.size (fun j hj => (World.ownsRow.lt h.own j hj).1), h.lt, (hg.block _ (lt_of_block h.one) (fun e => hne e.symm)).trans h.one, ho⟩
theorem FsSt.next (h : FsSt w0 w g b s L) (b' : Int) : FsSt w0 (w.alloc (.cells #[.int .i64 b'] 3)) w.heap.size b' s L :=
  ⟨h.bel.alloc h.bel.size _, h.bel.size, heap_alloc_new w _, h.own.alloc _⟩
end
def ctAt (p : Value) (w : World) : Nat := match p with
  | .pointer (some a) => match w.cell? a with
    | some v => (intOf v).toNat
    | none => 0
  | _ => 0
theorem ctAt_eq {g : Nat} {b : Int} {w : World} (h : w.heap[g]? = some (.cells #[.int .i64 b] 3 (0, 0))) : ctAt (.pointer (some ⟨g, 0, none⟩)) w = b.toNat := by
  unfold ctAt
  simp only [cell_of_one h]
  simp [intOf]
set_option maxHeartbeats 6400000 in
theorem ctFirst_any (v : Value) (l : List AtM) (q : Nat) (w : World) (hv : Els atl 101 w v l) (hok : ∀ a ∈ l, a.Ok) (hlen : l.length ≤ 1000) (hq : q ≤ 21) :
    Calls Tryz.prog 40 #[v, .int .i64 (q : Int)] w fun e w' => ∃ x, e = .returned x ∧ OwnE scl 33 66 w.heap.size w' x (sigsC l q 21) ∧ Below w.heap.size w w' := by
  have hmf : ∀ (fn : Fn) (first cap : Array Value) (w : World), (Instr.makeFunc fn first cap).run Tryz.prog w = .ok (.func fn first cap) w := fun _ _ _ _ => rfl
  have HV := hid (fun W (h : Below w.heap.size w W) => hv.below h)
  have HOK := hid hok
  have HIX := hid (fun g b W (h : Below w.heap.size w W) hg => ctIndex_any v l g b W (hv.below h) hok hlen hg)
  obtain ⟨A, kk, rfl⟩ := hv.shape
  obtain ⟨L, HL⟩ : ∃ n : Nat, Hid (l.length = n) := ⟨_, hid rfl⟩
  rw [HL.out] at HV HIX hlen ⊢
  have HQ21 := hid hq
  have HLEN := hid hlen
  have HST0 : Hid (FsSt w (w.alloc (.cells #[.int .i64 1] 3)) w.heap.size (((0 : Nat) : Int) + 1) (.slice none 0 0) []) := hid
    ⟨(Below.refl _ _).alloc (Nat.le_refl _) _, Nat.le_refl _, heap_alloc_new w _, OwnE.nil _ _⟩
  clear hv hok hlen
  go_enter Tryz.func40, Tryz.ntmps40
  go_wp2_with fail
  go_loopw [5, 6] (fun s p wr => ∃ (k g : Nat), k ≤ 21 ∧ p = .pointer (some ⟨g, 0, none⟩) ∧ FsSt w wr g ((k : Int) + 1) s (sigsC l q k)) (fun _ p wr => 22 - ctAt p wr)
  case atStart => exact ⟨0, _, Nat.zero_le _, rfl, HST0.out⟩
  case round =>
    obtain ⟨k, g, hk, rfl, hst⟩ := hrel
    clear HST0
    have HSG : Hid (∀ x ∈ sigsC l q k, x.Ok) := hid (fun x hx => by
      obtain ⟨a, ha, _, e⟩ := sigsC_mem _ _ _ x hx
      show x.tg.length = 32
      rw [← e]
      exact (HOK.out a ha).tg)
    obtain ⟨SL, HSL⟩ : ∃ x : List SgM, Hid (sigsC l q k = x) := ⟨_, hid rfl⟩
    have HQL : Hid (SL.length ≤ q) := hid (by rw [← HSL.out]; exact sigsC_len l q k)
    rw [HSL.out] at hst HSG
    obtain ⟨SA, SC, rfl⟩ := hst.own.shape
    obtain ⟨sn, HSN⟩ : ∃ x : Nat, Hid (SL.length = x) := ⟨_, hid rfl⟩
    rw [HSN.out] at hst ⊢
    have HST := hid hst
    have c1 := cell_of_one hst.one
    have HCT := hid (ctAt_eq hst.one)
    clear hst
    by_cases hle : k < 21
    · have hle1 : (k : Int) + 1 ≤ 21 := by omega
      by_cases hlq : sn < q
      · have hlq1 : (sn : Int) < (q : Int) := by omega
        have HLQ := hid hlq
        have HLE := hid hle
        clear hlq hle
        go_wp2_with fail
        refine (HIX.out g _ wr HST.out.bel HST.out.one).mono ?_
        rintro e w2 ⟨kx, rfl, hf, hb2⟩
        have HS2 := hid (HST.out.below hb2)
        have c2 := cell_of_one HS2.out.one
        clear c1 hb2
        rcases hf with ⟨rfl, hno⟩ | ⟨j, hil, rfl, hbo, hno⟩
        · have HFD : Hid (sigsC l q (k + 1) = SL) := hid (by rw [← HSL.out]; exact sigsC_lack hno)
          have HN := hid (HS2.out.next ((k : Int) + 1 + 1))
          clear hno
          go_wp2_with fail
          go_roundw
          case rel =>
            refine ⟨k + 1, _, by have := HLE.out; omega, rfl, ?_⟩
            rw [HFD.out]
            exact HN.out
          case measure => rw [HCT.out, ctAt_eq HN.out.one]; have := HLE.out; omega
        · obtain ⟨t, HTT⟩ : ∃ t : List UInt8, Hid (l[j].tg = t) := ⟨_, hid rfl⟩
          have HTL : Hid (t.length = 32) := hid (by rw [← HTT.out]; exact (HOK.out _ (List.getElem_mem hil)).tg)
          have HFD : Hid (sigsC l q (k + 1) = SL ++ [⟨((k + 1 : Nat) : Int), t⟩]) := hid (by
            rw [← HSL.out, ← HTT.out]
            exact sigsC_found (by rw [HSL.out, HSN.out]; exact HLQ.out) hil hbo hno)
          obtain ⟨TC, HTC⟩ : ∃ C : Array Value, Hid (hcells t = C) := ⟨_, hid rfl⟩
          obtain ⟨G, HG⟩ : ∃ C : Array Value, Hid (sgc ⟨((k + 1 : Nat) : Int), t⟩ = C) := ⟨_, hid rfl⟩
          have hbs : ∀ W, buildSg2 (.int .i64 ((k : Int) + 1)) (.agg TC) W = .ok (.value (.agg G)) W := fun W => by rw [← HG.out, ← HTC.out]; exact buildSg2_eq ((k + 1 : Nat) : Int) t HTL.out W
          have hsl : ∀ W, sliceSg (.agg G) W = .ok (.value (.slice (some ⟨W.heap.size, 0, none⟩) 1 1)) (W.alloc (.cells G 66)) := fun W => by rw [← HG.out]; exact sliceSg_eq ⟨((k + 1 : Nat) : Int), t⟩ HTL.out W
          have HSGK : Hid (∀ u ∈ [(⟨((k + 1 : Nat) : Int), t⟩ : SgM)], u.Ok) := hid (fun u hu => by obtain rfl := List.mem_singleton.1 hu; exact HTL.out)
          have hjl : j < L := by have := HL.out; omega
          have hJ : (j : Int) < (L : Int) := by omega
          have hJ0 : (0 : Int) ≤ (j : Int) := by omega
          obtain ⟨ba, oa, rfl, _, _⟩ := (HV.out w2 HS2.out.bel).at_.2.2.2 (by have := HL.out; omega)
          have HLT : Hid (∀ W, Below w.heap.size w W → W.heap[g]? = some (.cells #[.int .i64 ((k : Int) + 1)] 3 (0, 0)) → W.cell? ⟨g, 0, none⟩ = some (.int .i64 ((k : Int) + 1)) ∧ loadH (.pointer (some ⟨ba, oa + j * 101 + 69, none⟩)) W = .ok (.value (.agg TC)) W) := hid (fun W h h1 => by
            refine ⟨cell_of_one h1, ?_⟩
            obtain ⟨ba', oa', e, _, hcl⟩ := (HV.out W h).at_.2.2.2 (by have := HL.out; omega)
            injection e with e
            injection e with e1 e2 _
            subst e1 e2
            have ho := HOK.out _ (List.getElem_mem hil)
            rw [← HTC.out]
            refine loadH_mid (fun i u hu => ?_) HTL.out
            rw [Nat.add_assoc]
            refine hcl j hil (69 + i) u ?_
            rw [atl_tag, List.append_nil, List.getElem?_append_right (by simp only [List.length_append, bcells_length, ho.ha, ho.pa, List.length_cons, List.length_nil]; omega)]
            simp only [List.length_append, bcells_length, ho.ha, ho.pa, List.length_cons, List.length_nil]
            rw [show 69 + i - (0 + 1 + 1 + 1 + 1 + (32 + (0 + 1 + 32))) = i from by omega, HTT.out]
            exact hu)
          clear hno hbo
          go_upto_region 7 with (fail)
          clear c2
          have hbd : Below w2.heap.size w2 w2.drew := (Below.refl _ _).drew
          have HS3 := hid (HS2.out.below hbd)
          have hbA : Below w2.heap.size w2 (w2.alloc (.cells G 66)).drew := ((Below.refl _ _).alloc (Nat.le_refl _) _).drew
          have HS4 := hid (HS2.out.below hbA)
          have HEL : Hid (Els scl 33 (w2.alloc (.cells G 66)).drew (.slice (some ⟨w2.heap.size, 0, none⟩) 1 1) [(⟨((k + 1 : Nat) : Int), t⟩ : SgM)]) := hid ((els_one w2 (⟨((k + 1 : Nat) : Int), t⟩ : SgM) G 66 HG.out).below ((Below.refl _ _).drew))
          refine wp_region_held_drew (S := fun W => W.cell? ⟨g, 0, none⟩ = some (.int .i64 ((k : Int) + 1)) ∧ loadH (.pointer (some ⟨ba, oa + j * 101 + 69, none⟩)) W = .ok (.value (.agg TC)) W) (by kernel_rfl) (HLT.out _ HS3.out.bel HS3.out.one) (fun hHeld => ?_)
          refine' tk (i := 0) (v := _) rfl ?_ ?_
          rotate_left
          · (intro W hW; (try dsimp only at hW); go_simp; first | done | with_reducible rfl)
          try simp only [lay]
          refine' tk (i := 1) (v := _) rfl ?_ ?_
          rotate_left
          · (intro W hW; (try dsimp only at hW); obtain ⟨hW1, hW2⟩ := hW; go_simp; first | done | with_reducible rfl)
          try simp only [lay]
          refine' tk (i := 2) (v := _) rfl ?_ ?_
          rotate_left
          · (intro W hW; (try dsimp only at hW); go_simp; first | done | with_reducible rfl)
          try simp only [lay]
          refine' tk (i := 3) (v := _) rfl ?_ ?_
          rotate_left
          · (intro W hW; (try dsimp only at hW); go_simp; first | done | with_reducible rfl)
          try simp only [lay]
          refine' tk (i := 4) (v := _) rfl ?_ ?_
          rotate_left
          · (intro W hW; (try dsimp only at hW); go_simp; first | done | with_reducible rfl)
          try simp only [lay]
          refine' tk (i := 5) (v := _) rfl ?_ ?_
          rotate_left
          · (intro W hW; (try dsimp only at hW); go_simp; first | done | with_reducible rfl)
          try simp only [lay]
          refine' tk (i := 6) (v := _) rfl (fun W hW => hW.2) ?_
          try simp only [lay]
          refine' tk (i := 7) (v := _) rfl ?_ ?_
          rotate_left
          · (intro W hW; (try dsimp only at hW); go_simp; first | done | with_reducible rfl)
          try simp only [lay]
          refine call_on (i := 8) rfl (by kernel_rfl) (by rfl) (fun K hK => ?_)
          go_simp
          refine hK.out _ _ (HLT.out _ HS4.out.bel HS4.out.one) (fun hHeld => ?_)
          clear hK K
          try simp only [lay]
          refine call_on (i := 9) rfl (by kernel_rfl) (by rfl) (fun K hK => ?_)
          refine eltSg.wp_append (.tmp 23) (.tmp 31) rfl rfl rfl HSGK.out HS4.out.own HEL.out (by have := HSN.out; have := HQL.out; have := HQ21.out; simp only [List.length_cons, List.length_nil]; omega) HS4.out.bel.size ?_
          intro v5 w5 ho5 hg5 hv5
          have hs5 := HS4.out.app ho5 hg5
          obtain ⟨A5, n5, c5, rfl⟩ : ∃ A n c, v5 = .slice A n c := (by obtain ⟨A, c, e⟩ := ho5.shape; exact ⟨_, _, _, e⟩)
          refine hK.out _ _ (HLT.out _ hs5.bel hs5.one) (fun hHeld => ?_)
          clear hK K
          try simp only [lay]
          refine' tk (i := 10) (v := _) rfl ?_ ?_
          rotate_left
          · (intro W hW; (try dsimp only at hW); go_simp; first | done | with_reducible rfl)
          try simp only [lay]
          refine wpAnyH_done (by kernel_rfl) ?_ _
          have HS5 := hid hs5
          have c5' := cell_of_one hs5.one
          have HN := hid (hs5.next ((k : Int) + 1 + 1))
          clear hHeld hs5 ho5 hg5 hv5 hbA hbd
          go_wp2_with fail
          go_roundw
          case rel =>
            refine ⟨k + 1, _, by have := HLE.out; omega, rfl, ?_⟩
            rw [HFD.out]
            exact HN.out
          case measure => rw [HCT.out, ctAt_eq HN.out.one]; have := HLE.out; omega
      · have hlq1 : ¬ (sn : Int) < (q : Int) := by omega
        have HFI : Hid (sigsC l q 21 = SL) := hid (by rw [← HSL.out]; exact sigsC_full (by rw [HSL.out, HSN.out]; exact hlq) 21 hk)
        clear hlq
        go_wp2_with fail
        go_ret
        exact ⟨_, rfl, by rw [HFI.out]; exact HST.out.own, HST.out.bel⟩
    · obtain rfl : k = 21 := by omega
      have hle1 : ¬ ((21 : Nat) : Int) + 1 ≤ 21 := by decide
      clear hle
      go_wp2_with fail
      go_ret
      exact ⟨_, rfl, by rw [HSL.out]; exact HST.out.own, HST.out.bel⟩
end Go.Proofs.YtpnejoglkmfleaaGreatDoor
namespace Go.Proofs.YtpnejoglkmfleaaGreatDoor
set_option maxRecDepth 20000
open Go.RowKit
noncomputable def buildCt2 (u v : Value) (w : World) : Result Next := Sem.run Tryz.prog (execOp (fun x => match x with
  | .tmp 0 => u
  | _ => v) { dst := none, op := .build 40 #[(0, .tmp 0), (1, .tmp 1)], type := 0, pos := "", after := #[], guard := none }) w
theorem exec_build_ct2 (r : Operand → Value) (x y : Operand) (dst : Option Tmp) (ty : TypeId) (pos : String) (after : Array Edge) (guard : Option (Nat × Bool)) (w : World) :
    Sem.run Tryz.prog (execOp r { dst := dst, op := .build 40 #[(0, x), (1, y)], type := ty, pos := pos, after := after, guard := guard }) w = buildCt2 (r x) (r y) w := by
  unfold buildCt2 execOp
  simp
theorem buildCt2_eq (a : AtM) (ho : a.Ok) (A : Option Addr) (n c : Nat) (w : World) : buildCt2 (.agg (atc a)) (.slice A n c) w = .ok (.value (.agg (ctc ⟨a, []⟩ (.slice A n c)))) w := by
  have hsz : (atc a).size = 101 := atc_size ho
  have e0 : (atc a).zipIdx = ((atl a).zipIdx).toArray := by unfold atc; simp
  unfold buildCt2
  go_simp
  have e := putAt_mid (atl a) [] (atl atZ) [.slice none 0 0] (by rw [atl_length ho, atl_length atZ_ok])
  simp only [List.nil_append, List.length_nil] at e
  rw [← fold_putSg] at e
  have e' : List.foldl (fun (cs : Array Value) (x : Value × Nat) => cs.setIfInBounds x.2 x.1) Tryz.zeroCells40 (atl a).zipIdx = (atl a ++ [Value.slice none 0 0]).toArray := e
  rw [e', if_neg (by simp [atl_length ho])]
  simp only [Sem.run_pure, Result.andThen_ok]
  unfold ctc
  rw [List.setIfInBounds_toArray, List.set_append_right _ _ (by rw [atl_length ho]; omega), atl_length ho]
  rfl
theorem ctAtt_var (w : World) {Z S : Array Value} (hZ : Z.size = 101) (hS : S.size = 101) (h1 : S.all (·.oneCell') = true) :
    storeAtt (.pointer (some ⟨w.heap.size, 0, none⟩)) (.agg S) (w.alloc (.cells Z 36)) = .ok .skip (w.alloc (.cells S 36)) := by
  rw [storeAtt_eq (heap_alloc_new w _) hZ hS h1]
  exact congrArg (fun W => Result.ok Next.skip W) (setCt_alloc w _ Z S)
theorem sigsC_cap {l : List AtM} {q N : Nat} (h : ∀ a ∈ l, a.bo ≤ (N : Int)) : ∀ m, N ≤ m → sigsC l q m = sigsC l q N := by
  intro m hm
  induction m with
  | zero => rw [show N = 0 from by omega]
  | succ m ih =>
    by_cases e : N = m + 1
    · rw [e]
    · rw [sigsC_lack (fun j hj => by have := h _ (List.getElem_mem hj); omega)]
      exact ih (by omega)
attribute [local go_sem ↓] exec_load_att exec_alloc_att exec_store_att exec_alloc_ct exec_store_ct exec_build_ct exec_build_ct2 exec_build_sg
set_option maxHeartbeats 12800000 in
theorem ctMake_new (n : Int) (v : Value) (l : List AtM) (w : World) (hwn : (Lit.int .i64 n).wf = true) (hv : Els atl 101 w v l) (hok : ∀ a ∈ l, a.Ok) (hlen : l.length ≤ 1000) (hK : Kst 0 w) :
    Calls Tryz.prog 26 #[.int .i64 n, v] w (MkPostN n l w) := by
  have HFS := hid (fun q W (h : Below w.heap.size w W) hq => ctFirst_any v l q W (hv.below h) hok hlen hq)
  obtain ⟨A, kk, rfl⟩ := hv.shape
  obtain ⟨L, HL⟩ : ∃ n : Nat, Hid (l.length = n) := ⟨_, hid rfl⟩
  obtain ⟨q, HQ⟩ : ∃ q : Nat, Hid (quoS n = q) := ⟨_, hid rfl⟩
  rw [HL.out] at hv hlen HFS ⊢
  have HV := hid hv
  have HOK := hid hok
  have HKB := hid (fun W (h : Below w.heap.size w W) => (show Kst 0 W from hK.below h))
  have HQU : Hid (∀ W, Calls Tryz.prog 19 #[.int .i64 n] W fun e w' => e = .returned (.int .i64 (q : Int)) ∧ W = w') := hid (fun W => by
    have := quorum_any n W hwn
    rw [HQ.out] at this
    exact this)
  have HRT : Hid (∀ a ∈ l, ∀ W, Below w.heap.size w W → Calls Tryz.prog 23 #[.agg (atc a)] W fun e w' => e = .returned (.bool (rightA a)) ∧ Below W.heap.size W w') := hid (fun a ha W h => atRight_ok a W (HOK.out a ha) (HKB.out W h))
  have HAL : Hid (∀ a ∈ l, ∀ b ∈ l, ∀ W, Calls Tryz.prog 39 #[.agg (atc a), .agg (atc b)] W fun e w' => e = .returned (.bool (alikeA a b)) ∧ Below W.heap.size W w') := hid (fun a ha b hb W => atAlike_ok a b W (HOK.out a ha) (HOK.out b hb))
  obtain ⟨Z, HZ⟩ : ∃ C : Array Value, Hid (ctc ctZ (.slice none 0 0) = C) := ⟨_, hid rfl⟩
  obtain ⟨ZA, HZA⟩ : ∃ C : Array Value, Hid (atc atZ = C) := ⟨_, hid rfl⟩
  have hbz : ∀ W, buildCt W = .ok (.value (.agg Z)) W := fun W => by rw [← HZ.out]; exact buildCt_eq W
  have hal : ∀ W, allocCt W = .ok (.value (.pointer (some ⟨W.heap.size, 0, none⟩))) (W.alloc (.cells Z 40)) := fun W => by rw [← HZ.out]; exact allocCt_eq W
  have HALA : Hid (∀ W, allocAtt W = .ok (.value (.pointer (some ⟨W.heap.size, 0, none⟩))) (W.alloc (.cells ZA 36))) := hid (fun W => by rw [← HZA.out]; exact allocAtt_eq W)
  have HSZA : Hid (ZA.size = 101) := hid (by rw [← HZA.out]; exact atc_size atZ_ok)
  have HSZ : Hid (Z.size = 102) := hid (by rw [← HZ.out]; exact ctc_size _ atZ_ok)
  have HZ1 : Hid (Z.all (·.oneCell') = true) := hid (by rw [← HZ.out]; exact ctc_one (w := w) (c := ctZ) (Els.nil w))
  have hb0 : Below w.heap.size w (w.alloc (.cells Z 40)) := (Below.refl _ _).alloc (Nat.le_refl _) _
  have hr0 := heap_alloc_new w (.cells Z 40)
  have HZF : Hid (∀ W : World, W.heap[w.heap.size]? = some (.cells Z 40 (0, 0)) → storeCt (.pointer (some ⟨w.heap.size, 0, none⟩)) (.agg Z) W = .ok .skip W) := hid (fun W h => by rw [storeCt_eq h HSZ.out HSZ.out HZ1.out, setCt_self h])
  clear hv hok hK hwn
  go_enter Tryz.func26, Tryz.ntmps26
  go_upto_region 1 with (fail)
  generalize (w.alloc (.cells Z 40)) = w0 at *
  have HR0 := hid hr0
  have HB0 := hid hb0
  have hz0 := HZF.out w0 hr0
  clear hr0 hb0 hal
  go_wp2_with fail
  refine (HQU.out w0).mono ?_
  rintro e w1 ⟨rfl, rfl⟩
  by_cases hq : q = 0
  · subst hq
    have HM := hid (makeC_arg (l := l) (.inl HQ.out))
    go_wp2_with fail
    refine bodyPost_ret (results_cb rfl _ _ _ _ _ _ rfl rfl HR0.out HSZ.out) rfl ?_
    rw [← HZ.out]
    exact mkPostN_no HM.out HB0.out
  have hq1 : ((q : Int) == 0) = false := by simpa using hq
  by_cases hL : L = 0
  · subst hL
    have HM := hid (makeC_arg (n := n) (l := l) (.inr (List.eq_nil_of_length_eq_zero HL.out)))
    go_wp2_with fail
    refine bodyPost_ret (results_cb rfl _ _ _ _ _ _ rfl rfl HR0.out HSZ.out) rfl ?_
    rw [← HZ.out]
    exact mkPostN_no HM.out HB0.out
  have hL1 : ((L : Int) == 0) = false := by simpa using hL
  have HLP : Hid (0 < l.length) := hid (by rw [HL.out]; omega)
  have HQN : Hid (quoS n ≠ 0) := hid (by rw [HQ.out]; exact hq)
  obtain ⟨g, og, rfl, hg, hcl⟩ := HV.out.at_.2.2.2 HLP.out
  have HE : Hid (∀ j (h : j < l.length) W, Below w.heap.size w W → loadAtt (.pointer (some ⟨g, og + j * 101, none⟩)) W = .ok (.value (.agg (atc l[j]))) W) := hid (fun j h W hb => loadAtt_in (range_kept (hcl j h) (hb.block g hg)) (HOK.out _ (List.getElem_mem h)))
  obtain ⟨a0, HA0⟩ : ∃ a : AtM, Hid (l[0]'HLP.out = a) := ⟨_, hid rfl⟩
  have HM0 : Hid (a0 ∈ l) := hid (by rw [← HA0.out]; exact List.getElem_mem _)
  have HCO : Hid (l = a0 :: l.tail) := hid (by
    have := HA0.out
    have hp := HLP.out
    cases hl : l with
    | nil => rw [hl] at hp; simp at hp
    | cons a r => subst hl; simp only [List.getElem_cons_zero] at this; rw [this]; rfl)
  have HO0 := hid (HOK.out a0 HM0.out)
  obtain ⟨X0, HX0⟩ : ∃ C : Array Value, Hid (atc a0 = C) := ⟨_, hid rfl⟩
  have HE0 : Hid (∀ W, Below w.heap.size w W → loadAtt (.pointer (some ⟨g, og, none⟩)) W = .ok (.value (.agg X0)) W) := hid (fun W h => by
    have h2 := HE.out 0 HLP.out W h
    rw [HA0.out, Nat.zero_mul, Nat.add_zero, HX0.out] at h2
    exact h2)
  clear hcl hg HV
  go_wp2_with fail
  clear hz0 hq1 hL1
  go_loopw [24] (fun si wr => ∃ i : Nat, i ≤ L ∧ si = .int .i64 i ∧ Hid (∀ j (h : j < l.length), j < i → (rightA l[j] && decide (l[j].bo ≤ n)) = true) ∧ Below w0.heap.size w0 wr) (fun si _ => L - (intOf si).toNat)
  case atStart => exact ⟨0, Nat.zero_le _, rfl, hid (fun j _ h => absurd h (by omega)), Below.refl _ _⟩
  case round =>
    obtain ⟨i, hi, rfl, HD, hbr⟩ := hrel
    have HBR := hid (HB0.out.trans (hbr.mono HB0.out.size))
    have HRR := hid ((hbr.block _ (lt_of_block HR0.out)).trans HR0.out)
    by_cases hlt : i < L
    · have hil : i < l.length := by rw [HL.out]; exact hlt
      have hI : (i : Int) < (L : Int) := by omega
      have hM := List.getElem_mem hil
      obtain ⟨X, HX⟩ : ∃ C : Array Value, Hid (atc l[i] = C) := ⟨_, hid rfl⟩
      obtain ⟨m, HMM⟩ : ∃ m : Bool, Hid (rightA l[i] = m) := ⟨_, hid rfl⟩
      obtain ⟨bo, HBO⟩ : ∃ b : Int, Hid (l[i].bo = b) := ⟨_, hid rfl⟩
      have HR2 : Hid (∀ W, Below w.heap.size w W → Calls Tryz.prog 23 #[.agg X] W fun e w' => e = .returned (.bool m) ∧ Below W.heap.size W w') := hid (fun W h => by
        have := HRT.out _ hM W h
        rw [HX.out, HMM.out] at this
        exact this)
      have HXS : Hid (X.size = 101 ∧ X.all (·.oneCell') = true) := hid (by rw [← HX.out]; exact ⟨atc_size (HOK.out _ hM), atc_one _⟩)
      have HC0 : Hid (∀ (W : World) (g : Nat), W.heap[g]? = some (.cells X 36 (0, 0)) → W.cell? ⟨g, 0, none⟩ = some (.int .i64 bo) ∧ loadAtt (.pointer (some ⟨g, 0, none⟩)) W = .ok (.value (.agg X)) W) := hid (fun W g h => by
        refine ⟨?_, loadAtt_row h HXS.out.1⟩
        rw [← HX.out] at h
        rw [← HBO.out]
        exact BoxA.cell (a := l[i]) h 0)
      have HYES : Hid (bo ≤ n → m = true → ∀ j (h : j < l.length), j < i + 1 → (rightA l[j] && decide (l[j].bo ≤ n)) = true) := hid (fun h1 h2 j h hj => by
        by_cases hji : j < i
        · exact HD.out j h hji
        · obtain rfl : j = i := by omega
          rw [HMM.out, HBO.out, h2, decide_eq_true h1]
          rfl)
      have HNO : Hid (n < bo ∨ m = false → makeC n l = (ctZ, 7)) := hid (fun h => makeC_tag HQN.out HCO.out (by
        rw [List.all_eq_false]
        refine ⟨_, hM, ?_⟩
        rw [HMM.out, HBO.out]
        rcases h with h | h
        · rw [decide_eq_false (by omega), Bool.and_false]
          decide
        · rw [h, Bool.false_and]
          decide))
      have l1 := HE.out i hil wr HBR.out
      rw [HX.out] at l1
      have hst := ctAtt_var wr HSZA.out HXS.out.1 HXS.out.2
      have hal1 := HALA.out wr
      clear hM
      go_upto_region 7 with (fail)
      have hr1 := heap_alloc_new wr (.cells X 36)
      have hba : Below wr.heap.size wr (wr.alloc (.cells X 36)) := (Below.refl _ _).alloc (Nat.le_refl _) _
      have hb1 := hbr.trans (hba.mono hbr.size)
      obtain ⟨c1, l2⟩ := HC0.out _ _ hr1
      have HR1 := hid ((hba.block _ (lt_of_block HRR.out)).trans HRR.out)
      clear l1 hst hr1 hal1 hba
      generalize (wr.alloc (.cells X 36)) = w1 at *
      have HB1 := hid (HB0.out.trans (hb1.mono HB0.out.size))
      by_cases h1 : n < bo
      · have HM := hid (HNO.out (.inl h1))
        have hz1 := HZF.out w1 HR1.out
        clear l2
        go_wp2_with fail
        refine bodyPost_ret (results_cb rfl _ _ _ _ _ _ rfl rfl HR1.out HSZ.out) rfl ?_
        rw [← HZ.out]
        exact mkPostN_no HM.out HB1.out
      · have HH1 := hid (show bo ≤ n by omega)
        go_wp2_with fail
        refine (HR2.out w1 HB1.out).mono ?_
        rintro e w2 ⟨rfl, hb2⟩
        have HB2 := hid (HB1.out.trans (hb2.mono HB1.out.size))
        have HB20 := hid (hb1.trans (hb2.mono hb1.size))
        have HR22 := hid ((hb2.block _ (lt_of_block HR1.out)).trans HR1.out)
        clear l2 c1 hb2 hb1
        cases m with
        | false =>
          have HM := hid (HNO.out (.inr rfl))
          have hz2 := HZF.out w2 HR22.out
          go_wp2_with fail
          refine bodyPost_ret (results_cb rfl _ _ _ _ _ _ rfl rfl HR22.out HSZ.out) rfl ?_
          rw [← HZ.out]
          exact mkPostN_no HM.out HB2.out
        | true =>
          have HM2 := hid (HYES.out HH1.out rfl)
          clear HYES HNO
          go_wp2_with fail
          go_roundw
          case rel => exact ⟨i + 1, by omega, by go_num, hid HM2.out, HB20.out⟩
          case measure => simp [intOf]; omega
    · have HIL := hid (show i = L by omega)
      have hI : ¬ (i : Int) < (L : Int) := by omega
      have HALL : Hid ((l.all fun a => rightA a && decide (a.bo ≤ n)) = true) := hid (by
        rw [List.all_eq_true]
        intro a ha
        obtain ⟨j, hj, rfl⟩ := List.getElem_of_mem ha
        exact HD.out j hj (by have := HL.out; have := HIL.out; omega))
      clear HD hlt
      go_wp2_with fail
      clear hI
      go_loopw [41] (fun si wr => ∃ i : Nat, i ≤ L ∧ si = .int .i64 i ∧ Hid (∀ j (h : j < l.length), j < i → alikeA l[j] a0 = true) ∧ Below w0.heap.size w0 wr) (fun si _ => L - (intOf si).toNat)
      case atStart => exact ⟨0, Nat.zero_le _, rfl, hid (fun j _ h => absurd h (by omega)), hbr⟩
      case round =>
        clear hbr HBR HRR HIL
        obtain ⟨i, hi, rfl, HD, hbr⟩ := hrel
        have HBR := hid (HB0.out.trans (hbr.mono HB0.out.size))
        have HRR := hid ((hbr.block _ (lt_of_block HR0.out)).trans HR0.out)
        by_cases hlt : i < L
        · have hil : i < l.length := by rw [HL.out]; exact hlt
          have hI : (i : Int) < (L : Int) := by omega
          have hM := List.getElem_mem hil
          obtain ⟨X, HX⟩ : ∃ C : Array Value, Hid (atc l[i] = C) := ⟨_, hid rfl⟩
          obtain ⟨m, HMM⟩ : ∃ m : Bool, Hid (alikeA l[i] a0 = m) := ⟨_, hid rfl⟩
          have HA3 : Hid (∀ W, Calls Tryz.prog 39 #[.agg X, .agg X0] W fun e w' => e = .returned (.bool m) ∧ Below W.heap.size W w') := hid (fun W => by
            have := HAL.out _ hM _ HM0.out W
            rw [HX.out, HX0.out, HMM.out] at this
            exact this)
          have HXS : Hid (X.size = 101 ∧ X.all (·.oneCell') = true) := hid (by rw [← HX.out]; exact ⟨atc_size (HOK.out _ hM), atc_one _⟩)
          have HYES : Hid (m = true → ∀ j (h : j < l.length), j < i + 1 → alikeA l[j] a0 = true) := hid (fun h2 j h hj => by
            by_cases hji : j < i
            · exact HD.out j h hji
            · obtain rfl : j = i := by omega
              rw [HMM.out, h2])
          have HNO : Hid (m = false → makeC n l = (ctZ, 1)) := hid (fun h => makeC_alike HQN.out HCO.out HALL.out (by
            rw [List.all_eq_false]
            exact ⟨_, hM, by rw [HMM.out, h]; decide⟩))
          have l1 := HE.out i hil wr HBR.out
          rw [HX.out] at l1
          have hst := ctAtt_var wr HSZA.out HXS.out.1 HXS.out.2
          have hal1 := HALA.out wr
          clear hM
          go_upto_region 13 with (fail)
          have hr1 := heap_alloc_new wr (.cells X 36)
          have hba : Below wr.heap.size wr (wr.alloc (.cells X 36)) := (Below.refl _ _).alloc (Nat.le_refl _) _
          have hb1 := hbr.trans (hba.mono hbr.size)
          have HR1 := hid ((hba.block _ (lt_of_block HRR.out)).trans HRR.out)
          obtain ⟨vb, HVB⟩ : ∃ k : Nat, Hid (wr.heap.size = k) := ⟨_, hid rfl⟩
          rw [HVB.out] at hr1 ⊢
          clear l1 hst hal1 hba
          generalize (wr.alloc (.cells X 36)) = w1 at *
          have HB1 := hid (HB0.out.trans (hb1.mono HB0.out.size))
          have HX1 : Hid (∀ W, Below w1.heap.size w1 W → loadAtt (.pointer (some ⟨vb, 0, none⟩)) W = .ok (.value (.agg X)) W ∧ loadAtt (.pointer (some ⟨g, og, none⟩)) W = .ok (.value (.agg X0)) W) := hid (fun W h => ⟨loadAtt_row ((h.block _ (lt_of_block hr1)).trans hr1) HXS.out.1, HE0.out W (HB1.out.trans (h.mono HB1.out.size))⟩)
          have h0L : (0 : Int) < (L : Int) := by omega
          have h0N : 0 < L := by omega
          have hbd : Below w1.heap.size w1 w1.drew := (Below.refl _ _).drew
          refine wp_region_held_drew (S := fun W => loadAtt (.pointer (some ⟨vb, 0, none⟩)) W = .ok (.value (.agg X)) W ∧ loadAtt (.pointer (some ⟨g, og, none⟩)) W = .ok (.value (.agg X0)) W) (by kernel_rfl) (HX1.out _ hbd) (fun hHeld => ?_)
          refine' tk (i := 0) (v := _) rfl (fun W hW => hW.1) ?_
          try simp only [lay]
          refine' tk (i := 1) (v := _) rfl ?_ ?_
          rotate_left
          · (intro W hW; (try dsimp only at hW); go_simp; first | done | with_reducible rfl)
          try simp only [lay]
          refine' tk (i := 2) (v := _) rfl ?_ ?_
          rotate_left
          · (intro W hW; (try dsimp only at hW); go_simp; first | done | with_reducible rfl)
          try simp only [lay]
          refine' tk (i := 3) (v := _) rfl (fun W hW => hW.2) ?_
          try simp only [lay]
          refine call_on (i := 4) rfl (by kernel_rfl) (by rfl) (fun K hK => ?_)
          go_simp
          refine (HA3.out w1.drew).mono ?_
          rintro e w6 ⟨rfl, hb6'⟩
          have hb6 := hbd.trans hb6'
          refine hK.out _ _ (HX1.out _ hb6) (fun hHeld => ?_)
          clear hK K
          try simp only [lay]
          refine' tk (i := 5) (v := _) rfl ?_ ?_
          rotate_left
          · (intro W hW; (try dsimp only at hW); go_simp; first | done | with_reducible rfl)
          try simp only [lay]
          refine wpAnyH_done (by kernel_rfl) ?_ _
          have HB6 := hid (HB1.out.trans (hb6.mono HB1.out.size))
          have HB60 := hid (hb1.trans (hb6.mono hb1.size))
          have HR6 := hid ((hb6.block _ (lt_of_block HR1.out)).trans HR1.out)
          clear hHeld hb6 hb6' hbd hb1 hr1
          cases m with
          | false =>
            have HM := hid (HNO.out rfl)
            have hz6 := HZF.out w6 HR6.out
            go_wp2_with fail
            refine bodyPost_ret (results_cb rfl _ _ _ _ _ _ rfl rfl HR6.out HSZ.out) rfl ?_
            rw [← HZ.out]
            exact mkPostN_no HM.out HB6.out
          | true =>
            have HM2 := hid (HYES.out rfl)
            clear HYES HNO
            go_wp2_with fail
            go_roundw
            case rel => exact ⟨i + 1, by omega, by go_num, hid HM2.out, HB60.out⟩
            case measure => simp [intOf]; omega
        · have HIL := hid (show i = L by omega)
          have hI : ¬ (i : Int) < (L : Int) := by omega
          have HAL2 : Hid ((l.all fun a => alikeA a a0) = true) := hid (by
            rw [List.all_eq_true]
            intro a ha
            obtain ⟨j, hj, rfl⟩ := List.getElem_of_mem ha
            exact HD.out j hj (by have := HL.out; have := HIL.out; omega))
          have HQ21 : Hid (q ≤ 21) := hid (by
            have h := quoS_top HQN.out
            rw [← HQ.out]
            unfold quoS
            split <;> omega)
          have HCAP : Hid (sigsC l (quoS n) n.toNat = sigsC l q 21) := hid (by
            have h := quoS_top HQN.out
            rw [HQ.out]
            refine (sigsC_cap (N := n.toNat) (fun a ha => ?_) 21 (by omega)).symm
            have := List.all_eq_true.1 HALL.out a ha
            rw [Bool.and_eq_true, decide_eq_true_eq] at this
            omega)
          clear HD hlt
          go_wp2_with fail
          refine (HFS.out q wr HBR.out HQ21.out).mono ?_
          rintro e w7 ⟨x7, rfl, how, hb7⟩
          clear hI
          have HB7 := hid (HBR.out.trans (hb7.mono HBR.out.size))
          have HR7 := hid ((hb7.block _ (lt_of_block HRR.out)).trans HRR.out)
          have HLT := hid (lt_of_block HRR.out)
          have HSG : Hid (∀ x ∈ sigsC l q 21, x.Ok) := hid (fun x hx => by
            obtain ⟨a, ha, _, e⟩ := sigsC_mem _ _ _ x hx
            show x.tg.length = 32
            rw [← e]
            exact (HOK.out a ha).tg)
          obtain ⟨SL, HSL⟩ : ∃ x : List SgM, Hid (sigsC l q 21 = x) := ⟨_, hid rfl⟩
          rw [HSL.out] at how HSG HCAP
          obtain ⟨SA, SC, rfl⟩ := how.shape
          obtain ⟨sn, HSN⟩ : ∃ x : Nat, Hid (SL.length = x) := ⟨_, hid rfl⟩
          rw [HSN.out] at how ⊢
          have HOW := hid how
          clear how hb7
          by_cases hfew : sn < q
          · have HM := hid (makeC_few HQN.out HCO.out HALL.out HAL2.out (by rw [HCAP.out, HQ.out, HSN.out]; exact hfew))
            have hz7 := HZF.out w7 HR7.out
            have hf2 : (sn : Int) < (q : Int) := by omega
            clear hfew
            go_wp2_with fail
            refine bodyPost_ret (results_cb rfl _ _ _ _ _ _ rfl rfl HR7.out HSZ.out) rfl ?_
            rw [← HZ.out]
            exact mkPostN_no HM.out HB7.out
          · have HM := hid (makeC_done HQN.out HCO.out HALL.out HAL2.out (by rw [HCAP.out, HQ.out, HSN.out]; exact hfew))
            have hf2 : ¬ (sn : Int) < (q : Int) := by omega
            obtain ⟨a2, HA2⟩ : ∃ a : AtM, Hid (withC a0 ⟨0, z32⟩ = a) := ⟨_, hid rfl⟩
            have HO2 : Hid a2.Ok := hid (by rw [← HA2.out]; exact withC_ok HO0.out (by show z32.length = 32; simp [z32]))
            have HWI := hid (fun W => ctWith_any a0 sgZ W HO0.out sgZ_ok)
            obtain ⟨S0, HS0⟩ : ∃ C : Array Value, Hid (sgc sgZ = C) := ⟨_, hid rfl⟩
            obtain ⟨X2, HX2⟩ : ∃ C : Array Value, Hid (atc a2 = C) := ⟨_, hid rfl⟩
            rw [show withC a0 sgZ = withC a0 ⟨0, z32⟩ from rfl, HA2.out, HX2.out, HX0.out, HS0.out] at HWI
            obtain ⟨CC, HCC⟩ : ∃ C : Array Value, Hid (ctc ⟨a2, []⟩ (.slice SA sn SC) = C) := ⟨_, hid rfl⟩
            have hbs : ∀ W, buildSg W = .ok (.value (.agg S0)) W := fun W => by rw [← HS0.out]; exact buildSg_eq W
            have hb2 : ∀ W, buildCt2 (.agg X2) (.slice SA sn SC) W = .ok (.value (.agg CC)) W := fun W => by rw [← HX2.out, ← HCC.out]; exact buildCt2_eq a2 HO2.out SA sn SC W
            have HC2S : Hid (CC.size = 102 ∧ CC.all (·.oneCell') = true) := hid (by
              rw [← HCC.out]
              refine ⟨ctc_size (c := ⟨a2, []⟩) _ HO2.out, ?_⟩
              have h := HOW.out.els eltSg HSG.out
              exact ctc_one (c := ⟨a2, SL⟩) h)
            have l7 := HE0.out w7 HB7.out
            have h0L : (0 : Int) < (L : Int) := by omega
            have h0N : 0 < L := by omega
            clear hfew
            go_upto_region 19 with (fail)
            go_wp2_with fail
            refine (HWI.out w7).mono ?_
            rintro e w8 ⟨rfl, hb8⟩
            have hr8 := (hb8.block _ (lt_of_block HR7.out)).trans HR7.out
            have HB8 := hid (HB7.out.trans (hb8.mono HB7.out.size))
            have hsr := storeCt_eq hr8 HSZ.out HC2S.out.1 HC2S.out.2
            have HSS := hid (setCt_same (C := CC) hr8)
            have HOW2 := hid ((HOW.out.below hb8).row (g := w.heap.size) (C := CC) HLT.out)
            have HBF := hid (setCt_below (C := CC) HB8.out (Nat.le_refl w.heap.size))
            clear l7 hb8 hr8 hf2
            go_wp2_with fail
            refine bodyPost_ret (results_cb rfl _ _ _ _ _ _ rfl rfl HSS.out HC2S.out.1) rfl ?_
            rw [← HCC.out] at HOW2 HBF ⊢
            rw [HA2.out, HCAP.out] at HM
            exact mkPostN_yes (c := ⟨a2, SL⟩) HM.out ⟨HO2.out, HSG.out⟩ (HOW2.out.more (Nat.le_of_lt HLT.out)) HBF.out
theorem ctMake_any (n : Int) (v : Value) (l : List AtM) (w : World) (hwn : (Lit.int .i64 n).wf = true) (hv : Els atl 101 w v l) (hok : ∀ a ∈ l, a.Ok) (hlen : l.length ≤ 1000) (hK : Kst 0 w) :
    Calls Tryz.prog 26 #[.int .i64 n, v] w (MkPost n l w) := (ctMake_new n v l w hwn hv hok hlen hK).mono fun _ _ h => h.v
theorem ctMake_ok : CtMakeOk := fun n v l w hn hv ho hl hK => ctMake_any n v l w hn hv ho hl hK
end Go.Proofs.YtpnejoglkmfleaaGreatDoor
