/-
  AttAlikes: whatever attestations are alike are so either way, and through a third one; who attests, and the tag, count not: the law's walk, from what att's functions tell. Printed with genalikes.py.
-/
import Derived.Test.YtmhchihcgliinaaDoorAtAwake
import Derived.Test.YtmhchihcgliinaaDoorAtArg3
import Derived.Test.YtmhchihcgliinaaDoorBs6
namespace Go.Proofs.YtmhchihcgliinaaDoor
set_option maxRecDepth 20000
open Go.RowKit
attribute [local go_sem ↓] exec_load_att exec_alloc_att exec_store_att exec_load_hash

/-- Three operations may come next. -/
theorem triple_on {P : Program} {md : Region.Mode} {l : List Oper} {Q : Exit → Act → World → Prop} {S : World → Prop} {i j k : Nat} {oi oj ok : Oper} {fuel : Nat} {listed : Array Bool} {a : Act} {w : World} (hi : l[i]? = some oi) (hj : l[j]? = some oj) (hk : l[k]? = some ok)
    (hr : Region.ready md l.toArray listed = [i, j, k]) (hwi : Region.wanted oi (yielded l.toArray a.tmps) = true) (hwj : Region.wanted oj (yielded l.toArray a.tmps) = true) (hwk : Region.wanted ok (yielded l.toArray a.tmps) = true)
    (h1 : ∀ K' : Act → World → Prop, Shut (∀ a w, S w → (S w → wpAnyH P md l.toArray Q S fuel (listed.setIfInBounds i true) a w) → K' a w) → Oper.wp P oi a w K' Q)
    (h2 : ∀ K' : Act → World → Prop, Shut (∀ a w, S w → (S w → wpAnyH P md l.toArray Q S fuel (listed.setIfInBounds j true) a w) → K' a w) → Oper.wp P oj a w K' Q)
    (h3 : ∀ K' : Act → World → Prop, Shut (∀ a w, S w → (S w → wpAnyH P md l.toArray Q S fuel (listed.setIfInBounds k true) a w) → K' a w) → Oper.wp P ok a w K' Q) : wpAnyH P md l.toArray Q S (fuel + 1) listed a w :=
  wpAnyH_ready hr (by simp) (AllReadyH.cons (by simpa using hi) (fun K hK => by rw [if_pos hwi]; exact h1 K hK) (AllReadyH.cons (by simpa using hj) (fun K hK => by rw [if_pos hwj]; exact h2 K hK) (AllReadyH.cons (by simpa using hk) (fun K hK => by rw [if_pos hwk]; exact h3 K hK) AllReadyH.nil)))
theorem wp_alloc_att {op : Oper} {ac : Act} {w : World} {K : Act → World → Prop} {Q : Exit → Act → World → Prop} (ho : op.op = .alloc 25) {n : Nat} (hn : w.heap.size = n) {Z : Array Value} (hZ : atc atZ = Z)
    (h : K (ac.put op.dst (.pointer (some ⟨n, 0, none⟩))) (w.alloc (.cells Z 25))) : op.wp Tryd.prog ac w K Q := by
  subst hn hZ
  unfold Oper.wp execOp
  simp only [ho, Sem.run_bind, Instr.alloc, run_zero_att, newVar, newRow, run_newObj_alloc, Sem.run_pure, Result.andThen_ok, Value.cells]
  exact h
theorem loadAtt_mid {w : World} {g o : Nat} {a : AtM} (hr : w.rangeAt g o (atl a)) (ho : a.Ok) : loadAtt (.pointer (some ⟨g, o, none⟩)) w = .ok (.value (.agg (atc a))) w := by
  have := run_loadAt_mid (P := Tryd.prog) w g o 25 (atl a) _ hr under_att rfl (by rw [size_att, atl_length ho])
  unfold loadAtt execOp
  simp only [Sem.run_bind, this, Result.andThen_ok, Sem.run_pure]
  rfl
theorem at3_ranges {w : World} {g : Nat} {a b c : AtM} {T : TypeId} (h : w.heap[g]? = some (.cells (at3c a b c) T (0, 0))) (ha : a.Ok) (hb : b.Ok) : w.rangeAt g 0 (atl a) ∧ w.rangeAt g 101 (atl b) ∧ w.rangeAt g 202 (atl c) := by
  have la := atl_length ha
  have lb := atl_length hb
  refine ⟨fun j u hu => ?_, fun j u hu => ?_, fun j u hu => ?_⟩
  all_goals
    have hj := (List.getElem?_eq_some_iff.1 hu).1
    rw [cell_blk h]
    unfold at3c
    rw [List.getElem?_toArray]
  · rw [Nat.zero_add, List.getElem?_append_left hj]
    exact hu
  · rw [List.getElem?_append_right (by omega), la, List.getElem?_append_left (by omega), show 101 + j - 101 = j from by omega]
    exact hu
  · rw [List.getElem?_append_right (by omega), la, List.getElem?_append_right (by omega), lb, show 202 + j - 101 - 101 = j from by omega]
    exact hu
/-- Three attestations' variables. -/
def TriAt (w0 : World) (CA CB CC : Array Value) (s7 s8 s9 : Value) (wx : World) : Prop := ∃ p7 p8 p9, s7 = .pointer (some ⟨p7, 0, none⟩) ∧ s8 = .pointer (some ⟨p8, 0, none⟩) ∧ s9 = .pointer (some ⟨p9, 0, none⟩) ∧
  wx.heap[p7]? = some (.cells CA 25 (0, 0)) ∧ wx.heap[p8]? = some (.cells CB 25 (0, 0)) ∧ wx.heap[p9]? = some (.cells CC 25 (0, 0)) ∧ Below w0.heap.size w0 wx

set_option maxHeartbeats 6400000 in
theorem lawAttAlikes_any (hS : AtSignOk) (hR : AtRightOk) (hL : AtAlikeOk) (a b c : AtM) (by_ : Int) (f : Nat → UInt8) (w : World) (ho : a.Ok ∧ b.Ok ∧ c.Ok) (hK : Kst 0 w) :
    Calls Tryd.prog 5 #[.agg (at3c a b c), .int .i64 by_, .agg (fcells 32 fun j => bcell (f j))] w fun e w' => e = .returned (.bool true) ∧ Below w.heap.size w w' := by
  obtain ⟨ha, hb, hc⟩ := ho
  have HA : Hid (∀ W, Below w.heap.size w W → Calls Tryd.prog 6 #[] W fun e w' => e = .returned (.bool true) ∧ Below W.heap.size W w') := hid (fun W h => atAwake_any hS hR hL W (hK.below h))
  obtain ⟨t, HTL, HTF⟩ : ∃ t : List UInt8, Hid (t.length = 32) ∧ Hid (fcells 32 (fun j => bcell (f j)) = hcells t) := ⟨hl 32 f, hid (hl_length _ _), hid (fcells_hl 32 f)⟩
  rw [HTF.out]
  obtain ⟨x, HXX⟩ : ∃ x : AtM, Hid ({ { a with bo := by_ } with tg := t } = x) := ⟨_, hid rfl⟩
  have hx : x.Ok := by rw [← HXX.out]; exact ⟨ha.ha, ha.pa, HTL.out⟩
  obtain ⟨qab, HQ1⟩ : ∃ q : Bool, Hid (alikeA a b = q) := ⟨_, hid rfl⟩
  obtain ⟨qbc, HQ2⟩ : ∃ q : Bool, Hid (alikeA b c = q) := ⟨_, hid rfl⟩
  obtain ⟨qac, HQ3⟩ : ∃ q : Bool, Hid (alikeA a c = q) := ⟨_, hid rfl⟩
  have HTR : Hid (qab = true → qbc = true → qac = true) := hid (fun h1 h2 => by rw [← HQ3.out]; exact alikeA_trans (HQ1.out.trans h1) (HQ2.out.trans h2))
  have HAX : Hid (∀ W, Calls Tryd.prog 15 #[.agg (atc a), .agg (atc x)] W fun e w' => e = .returned (.bool true) ∧ Below W.heap.size W w') := hid (fun W => by
    have := hL a x W ha hx
    rw [show alikeA a x = true from alikeA_iff.2 (by rw [← HXX.out]; exact ⟨rfl, rfl, rfl, rfl, rfl, rfl⟩)] at this
    exact this)
  have HAB : Hid (∀ W, Calls Tryd.prog 15 #[.agg (atc a), .agg (atc b)] W fun e w' => e = .returned (.bool qab) ∧ Below W.heap.size W w') := hid (fun W => by
    have := hL a b W ha hb
    rw [HQ1.out] at this
    exact this)
  have HBA : Hid (∀ W, Calls Tryd.prog 15 #[.agg (atc b), .agg (atc a)] W fun e w' => e = .returned (.bool qab) ∧ Below W.heap.size W w') := hid (fun W => by
    have := hL b a W hb ha
    rw [alikeA_comm, HQ1.out] at this
    exact this)
  have HBC : Hid (∀ W, Calls Tryd.prog 15 #[.agg (atc b), .agg (atc c)] W fun e w' => e = .returned (.bool qbc) ∧ Below W.heap.size W w') := hid (fun W => by
    have := hL b c W hb hc
    rw [HQ2.out] at this
    exact this)
  have HAC : Hid (∀ W, Calls Tryd.prog 15 #[.agg (atc a), .agg (atc c)] W fun e w' => e = .returned (.bool qac) ∧ Below W.heap.size W w') := hid (fun W => by
    have := hL a c W ha hc
    rw [HQ3.out] at this
    exact this)
  have HOA := hid ha
  obtain ⟨CA, HCA⟩ : ∃ C : Array Value, Hid (atc a = C) := ⟨_, hid rfl⟩
  obtain ⟨CB, HCB⟩ : ∃ C : Array Value, Hid (atc b = C) := ⟨_, hid rfl⟩
  obtain ⟨CC, HCC⟩ : ∃ C : Array Value, Hid (atc c = C) := ⟨_, hid rfl⟩
  obtain ⟨CX, HCX⟩ : ∃ C : Array Value, Hid (atc x = C) := ⟨_, hid rfl⟩
  obtain ⟨Z, HZ⟩ : ∃ C : Array Value, Hid (atc atZ = C) := ⟨_, hid rfl⟩
  obtain ⟨D, HD⟩ : ∃ C : Array Value, Hid (at3c a b c = C) := ⟨_, hid rfl⟩
  obtain ⟨G, HG⟩ : ∃ C : Array Value, Hid (hcells t = C) := ⟨_, hid rfl⟩
  rw [HCA.out] at HAX HAB HBA HAC
  rw [HCB.out] at HAB HBA HBC
  rw [HCC.out] at HBC HAC
  rw [HCX.out] at HAX
  have HSA : Hid (CA.size = 101 ∧ CA.all (·.oneCell') = true) := hid (by rw [← HCA.out]; exact ⟨atc_size ha, atc_one _⟩)
  have HSB : Hid (CB.size = 101 ∧ CB.all (·.oneCell') = true) := hid (by rw [← HCB.out]; exact ⟨atc_size hb, atc_one _⟩)
  have HSC : Hid (CC.size = 101 ∧ CC.all (·.oneCell') = true) := hid (by rw [← HCC.out]; exact ⟨atc_size hc, atc_one _⟩)
  have HSX : Hid (CX.size = 101) := hid (by rw [← HCX.out]; exact atc_size hx)
  have HZS : Hid (Z.size = 101) := hid (by rw [← HZ.out]; exact atc_size atZ_ok)
  have HAL : Hid (∀ W, allocAtt W = .ok (.value (.pointer (some ⟨W.heap.size, 0, none⟩))) (W.alloc (.cells Z 25))) := hid (fun W => by rw [← HZ.out]; exact allocAtt_eq W)
  have HLDS : Hid (∀ W : World, W.heap[w.heap.size]? = some (.cells D 43 (0, 0)) → loadAtt (.pointer (some ⟨w.heap.size, 0, none⟩)) W = .ok (.value (.agg CA)) W ∧ loadAtt (.pointer (some ⟨w.heap.size, 101, none⟩)) W = .ok (.value (.agg CB)) W ∧ loadAtt (.pointer (some ⟨w.heap.size, 202, none⟩)) W = .ok (.value (.agg CC)) W) := hid (fun W h => by
    rw [← HD.out] at h
    obtain ⟨r1, r2, r3⟩ := at3_ranges h ha hb
    rw [← HCA.out, ← HCB.out, ← HCC.out]
    exact ⟨loadAtt_mid r1 ha, loadAtt_mid r2 hb, loadAtt_mid r3 hc⟩)
  have hr0 := heap1 w (.cells D 43) (.cells G 23)
  have hr1 := heap2 w (.cells D 43) (.cells G 23)
  have hb0 : Below w.heap.size w ((w.alloc (.cells D 43)).alloc (.cells G 23)) := ((Below.refl _ _).alloc (Nat.le_refl _) _).alloc (by simp) _
  rw [HD.out, HG.out]
  clear ha hb hc hx hS hR hL hK
  go_enter Tryd.func5, Tryd.ntmps5
  go_upto_region 1 with (fail)
  generalize ((w.alloc (.cells D 43)).alloc (.cells G 23)) = w0 at *
  have hl1 := lt_of_block hr1
  have HX : Hid (∀ W : World, Below w0.heap.size w0 W → W.heap[w.heap.size]? = some (.cells D 43 (0, 0))) := hid (fun W h => (h.block _ (by omega)).trans hr0)
  have HG1 : Hid (∀ W : World, Below w0.heap.size w0 W → loadH (.pointer (some ⟨w.heap.size + 1, 0, none⟩)) W = .ok (.value (.agg G)) W) := hid (fun W h => by
    have hr := (h.block _ hl1).trans hr1
    rw [← HG.out] at hr ⊢
    exact loadH_mid (fun j u hu => by
      rw [Nat.zero_add, cell_blk hr j]
      unfold hcells
      rw [List.getElem?_toArray]
      exact hu) HTL.out)
  have HB0 := hid hb0
  clear hr0 hr1 hl1 hb0
  go_cut [7, 8, 9] (fun s7 s8 s9 wx => TriAt w0 CA CB CC s7 s8 s9 wx)
  case first =>
    have hbd : Below w0.heap.size w0 w0.drew := (Below.refl _ _).drew
    have ha1 : Below w0.heap.size w0 (w0.drew.alloc (.cells Z 25)) := hbd.alloc (Nat.le_refl _) _
    have ha2 : Below w0.heap.size w0 ((w0.drew.alloc (.cells Z 25)).alloc (.cells Z 25)) := ha1.alloc ha1.size _
    have ha3 : Below w0.heap.size w0 (((w0.drew.alloc (.cells Z 25)).alloc (.cells Z 25)).alloc (.cells Z 25)) := ha2.alloc ha2.size _
    have z0 : (((w0.drew.alloc (.cells Z 25)).alloc (.cells Z 25)).alloc (.cells Z 25)).heap[w0.heap.size]? = some (.cells Z 25 (0, 0)) := (Below.heap_alloc _ _ _ (by simp; omega)).trans (heap1 w0.drew _ _)
    have z1 : (((w0.drew.alloc (.cells Z 25)).alloc (.cells Z 25)).alloc (.cells Z 25)).heap[w0.heap.size + 1]? = some (.cells Z 25 (0, 0)) := (Below.heap_alloc _ _ _ (by simp)).trans (heap2 w0.drew _ _)
    have z2 : (((w0.drew.alloc (.cells Z 25)).alloc (.cells Z 25)).alloc (.cells Z 25)).heap[w0.heap.size + 1 + 1]? = some (.cells Z 25 (0, 0)) := by
      have := heap2 (w0.drew.alloc (.cells Z 25)) (.cells Z 25) (.cells Z 25)
      rwa [show (w0.drew.alloc (.cells Z 25)).heap.size = w0.heap.size + 1 from by simp] at this
    have HZ0 := hid z0
    have HZ1 := hid z1
    have HZ2 := hid z2
    clear z0 z1 z2
    refine wp_region_held_drew (S := fun W => W.heap[w.heap.size]? = some (.cells D 43 (0, 0))) (by kernel_rfl) (HX.out _ hbd) (fun hHeld => ?_)
    refine' take_on (i := 0) (v := _) rfl (by kernel_rfl) (by kernel_rfl) (by kernel_rfl) (fun _ _ _ h => h) (by rfl) ?_ (by assumption) ?_
    rotate_left
    · (intro W hW; (try dsimp only at hW); go_simp; first | done | with_reducible rfl)
    try simp only [Act.put, List.setIfInBounds_toArray, List.set_cons_zero, List.set_cons_succ]
    refine' take_on (i := 1) (v := _) rfl (by kernel_rfl) (by kernel_rfl) (by kernel_rfl) (fun _ _ _ h => h) (by rfl) (fun W hW => (HLDS.out W hW).1) (by assumption) ?_
    try simp only [Act.put, List.setIfInBounds_toArray, List.set_cons_zero, List.set_cons_succ]
    refine' take_on (i := 2) (v := _) rfl (by kernel_rfl) (by kernel_rfl) (by kernel_rfl) (fun _ _ _ h => h) (by rfl) ?_ (by assumption) ?_
    rotate_left
    · (intro W hW; (try dsimp only at hW); go_simp; first | done | with_reducible rfl)
    try simp only [Act.put, List.setIfInBounds_toArray, List.set_cons_zero, List.set_cons_succ]
    refine' take_on (i := 3) (v := _) rfl (by kernel_rfl) (by kernel_rfl) (by kernel_rfl) (fun _ _ _ h => h) (by rfl) (fun W hW => (HLDS.out W hW).2.1) (by assumption) ?_
    try simp only [Act.put, List.setIfInBounds_toArray, List.set_cons_zero, List.set_cons_succ]
    refine' take_on (i := 4) (v := _) rfl (by kernel_rfl) (by kernel_rfl) (by kernel_rfl) (fun _ _ _ h => h) (by rfl) ?_ (by assumption) ?_
    rotate_left
    · (intro W hW; (try dsimp only at hW); go_simp; first | done | with_reducible rfl)
    try simp only [Act.put, List.setIfInBounds_toArray, List.set_cons_zero, List.set_cons_succ]
    refine' take_on (i := 5) (v := _) rfl (by kernel_rfl) (by kernel_rfl) (by kernel_rfl) (fun _ _ _ h => h) (by rfl) (fun W hW => (HLDS.out W hW).2.2) (by assumption) ?_
    try simp only [Act.put, List.setIfInBounds_toArray, List.set_cons_zero, List.set_cons_succ]
    refine triple_on (i := 6) (j := 7) (k := 8) rfl rfl rfl (by kernel_rfl) (by rfl) (by rfl) (by rfl) (fun K hK => ?_) (fun K hK => ?_) (fun K hK => ?_)
    · refine wp_alloc_att rfl (n := w0.heap.size) rfl HZ.out ?_
      refine hK.out _ _ (HX.out _ ha1) (fun hHeld => ?_)
      clear hK K
      try simp only [Act.put, List.setIfInBounds_toArray, List.set_cons_zero, List.set_cons_succ]
      refine pair_on (i := 7) (j := 8) rfl rfl (by kernel_rfl) (by rfl) (by rfl) (fun K hK => ?_) (fun K hK => ?_)
      · refine wp_alloc_att rfl (n := w0.heap.size + 1) (by simp) HZ.out ?_
        refine hK.out _ _ (HX.out _ ha2) (fun hHeld => ?_)
        clear hK K
        try simp only [Act.put, List.setIfInBounds_toArray, List.set_cons_zero, List.set_cons_succ]
        refine call_on (i := 8) rfl (by kernel_rfl) (by rfl) (fun K hK => ?_)
        refine wp_alloc_att rfl (n := w0.heap.size + 1 + 1) (by simp) HZ.out ?_
        refine hK.out _ _ (HX.out _ ha3) (fun hHeld => ?_)
        clear hK K
        try simp only [Act.put, List.setIfInBounds_toArray, List.set_cons_zero, List.set_cons_succ]
        refine call_on (i := 9) rfl (by kernel_rfl) (by rfl) (fun K hK => ?_)
        refine wp_store_whole (.tmp 7) (.tmp 12) rfl (g := w0.heap.size) rfl rfl (HZ0.out) (by rw [size_att, HSA.out.1]) (by rw [HZS.out, HSA.out.1]) HSA.out.2 ?_
        intro x1 hg7 hr7 hz7
        have hbe7 := (ha3).grown hg7 (ha3).size (fun k hk => by injection hk with hk; omega)
        have hk78 := (hg7.block _ (lt_of_block (HZ1.out)) (fun e => by injection e with e; omega)).trans (HZ1.out)
        have hk79 := (hg7.block _ (lt_of_block (HZ2.out)) (fun e => by injection e with e; omega)).trans (HZ2.out)
        refine hK.out _ _ (HX.out _ hbe7) (fun hHeld => ?_)
        clear hK K
        try simp only [Act.put]
        refine call_on (i := 10) rfl (by kernel_rfl) (by rfl) (fun K hK => ?_)
        refine wp_store_whole (.tmp 8) (.tmp 14) rfl (g := w0.heap.size + 1) rfl rfl (hk78) (by rw [size_att, HSB.out.1]) (by rw [HZS.out, HSB.out.1]) HSB.out.2 ?_
        intro x2 hg8 hr8 hz8
        have hbe8 := (hbe7).grown hg8 (hbe7).size (fun k hk => by injection hk with hk; omega)
        have hk87 := (hg8.block _ (lt_of_block (hr7)) (fun e => by injection e with e; omega)).trans (hr7)
        have hk89 := (hg8.block _ (lt_of_block (hk79)) (fun e => by injection e with e; omega)).trans (hk79)
        refine hK.out _ _ (HX.out _ hbe8) (fun hHeld => ?_)
        clear hK K
        try simp only [Act.put]
        refine call_on (i := 11) rfl (by kernel_rfl) (by rfl) (fun K hK => ?_)
        refine wp_store_whole (.tmp 9) (.tmp 16) rfl (g := w0.heap.size + 1 + 1) rfl rfl (hk89) (by rw [size_att, HSC.out.1]) (by rw [HZS.out, HSC.out.1]) HSC.out.2 ?_
        intro x3 hg9 hr9 hz9
        have hbe9 := (hbe8).grown hg9 (hbe8).size (fun k hk => by injection hk with hk; omega)
        have hk97 := (hg9.block _ (lt_of_block (hk87)) (fun e => by injection e with e; omega)).trans (hk87)
        have hk98 := (hg9.block _ (lt_of_block (hr8)) (fun e => by injection e with e; omega)).trans (hr8)
        refine hK.out _ _ (HX.out _ hbe9) (fun hHeld => ?_)
        clear hK K
        try simp only [Act.put]
        refine wpAnyH_done (by kernel_rfl) ?_ _
        have HF : Hid (_ ∧ _ ∧ _ ∧ _) := hid ⟨hk97, hk98, hr9, hbe9⟩
        clear hr7 hr8 hr9 hz7 hz8 hz9 hg7 hg8 hg9 hbe7 hbe8 hbe9 hk78 hk79 hk87 hk89 hk97 hk98 ha1 ha2 ha3 hbd hHeld
        go_wp2_with fail
        go_meet
        case rel => exact ⟨_, _, _, rfl, rfl, rfl, HF.out.1, HF.out.2.1, HF.out.2.2.1, HF.out.2.2.2⟩
      · refine wp_alloc_att rfl (n := w0.heap.size + 1) (by simp) HZ.out ?_
        refine hK.out _ _ (HX.out _ ha2) (fun hHeld => ?_)
        clear hK K
        try simp only [Act.put, List.setIfInBounds_toArray, List.set_cons_zero, List.set_cons_succ]
        refine call_on (i := 7) rfl (by kernel_rfl) (by rfl) (fun K hK => ?_)
        refine wp_alloc_att rfl (n := w0.heap.size + 1 + 1) (by simp) HZ.out ?_
        refine hK.out _ _ (HX.out _ ha3) (fun hHeld => ?_)
        clear hK K
        try simp only [Act.put, List.setIfInBounds_toArray, List.set_cons_zero, List.set_cons_succ]
        refine call_on (i := 9) rfl (by kernel_rfl) (by rfl) (fun K hK => ?_)
        refine wp_store_whole (.tmp 7) (.tmp 12) rfl (g := w0.heap.size) rfl rfl (HZ0.out) (by rw [size_att, HSA.out.1]) (by rw [HZS.out, HSA.out.1]) HSA.out.2 ?_
        intro x1 hg7 hr7 hz7
        have hbe7 := (ha3).grown hg7 (ha3).size (fun k hk => by injection hk with hk; omega)
        have hk78 := (hg7.block _ (lt_of_block (HZ2.out)) (fun e => by injection e with e; omega)).trans (HZ2.out)
        have hk79 := (hg7.block _ (lt_of_block (HZ1.out)) (fun e => by injection e with e; omega)).trans (HZ1.out)
        refine hK.out _ _ (HX.out _ hbe7) (fun hHeld => ?_)
        clear hK K
        try simp only [Act.put]
        refine call_on (i := 10) rfl (by kernel_rfl) (by rfl) (fun K hK => ?_)
        refine wp_store_whole (.tmp 8) (.tmp 14) rfl (g := w0.heap.size + 1 + 1) rfl rfl (hk78) (by rw [size_att, HSB.out.1]) (by rw [HZS.out, HSB.out.1]) HSB.out.2 ?_
        intro x2 hg8 hr8 hz8
        have hbe8 := (hbe7).grown hg8 (hbe7).size (fun k hk => by injection hk with hk; omega)
        have hk87 := (hg8.block _ (lt_of_block (hr7)) (fun e => by injection e with e; omega)).trans (hr7)
        have hk89 := (hg8.block _ (lt_of_block (hk79)) (fun e => by injection e with e; omega)).trans (hk79)
        refine hK.out _ _ (HX.out _ hbe8) (fun hHeld => ?_)
        clear hK K
        try simp only [Act.put]
        refine call_on (i := 11) rfl (by kernel_rfl) (by rfl) (fun K hK => ?_)
        refine wp_store_whole (.tmp 9) (.tmp 16) rfl (g := w0.heap.size + 1) rfl rfl (hk89) (by rw [size_att, HSC.out.1]) (by rw [HZS.out, HSC.out.1]) HSC.out.2 ?_
        intro x3 hg9 hr9 hz9
        have hbe9 := (hbe8).grown hg9 (hbe8).size (fun k hk => by injection hk with hk; omega)
        have hk97 := (hg9.block _ (lt_of_block (hk87)) (fun e => by injection e with e; omega)).trans (hk87)
        have hk98 := (hg9.block _ (lt_of_block (hr8)) (fun e => by injection e with e; omega)).trans (hr8)
        refine hK.out _ _ (HX.out _ hbe9) (fun hHeld => ?_)
        clear hK K
        try simp only [Act.put]
        refine wpAnyH_done (by kernel_rfl) ?_ _
        have HF : Hid (_ ∧ _ ∧ _ ∧ _) := hid ⟨hk97, hk98, hr9, hbe9⟩
        clear hr7 hr8 hr9 hz7 hz8 hz9 hg7 hg8 hg9 hbe7 hbe8 hbe9 hk78 hk79 hk87 hk89 hk97 hk98 ha1 ha2 ha3 hbd hHeld
        go_wp2_with fail
        go_meet
        case rel => exact ⟨_, _, _, rfl, rfl, rfl, HF.out.1, HF.out.2.1, HF.out.2.2.1, HF.out.2.2.2⟩
    · refine wp_alloc_att rfl (n := w0.heap.size) rfl HZ.out ?_
      refine hK.out _ _ (HX.out _ ha1) (fun hHeld => ?_)
      clear hK K
      try simp only [Act.put, List.setIfInBounds_toArray, List.set_cons_zero, List.set_cons_succ]
      refine pair_on (i := 6) (j := 8) rfl rfl (by kernel_rfl) (by rfl) (by rfl) (fun K hK => ?_) (fun K hK => ?_)
      · refine wp_alloc_att rfl (n := w0.heap.size + 1) (by simp) HZ.out ?_
        refine hK.out _ _ (HX.out _ ha2) (fun hHeld => ?_)
        clear hK K
        try simp only [Act.put, List.setIfInBounds_toArray, List.set_cons_zero, List.set_cons_succ]
        refine call_on (i := 8) rfl (by kernel_rfl) (by rfl) (fun K hK => ?_)
        refine wp_alloc_att rfl (n := w0.heap.size + 1 + 1) (by simp) HZ.out ?_
        refine hK.out _ _ (HX.out _ ha3) (fun hHeld => ?_)
        clear hK K
        try simp only [Act.put, List.setIfInBounds_toArray, List.set_cons_zero, List.set_cons_succ]
        refine call_on (i := 9) rfl (by kernel_rfl) (by rfl) (fun K hK => ?_)
        refine wp_store_whole (.tmp 7) (.tmp 12) rfl (g := w0.heap.size + 1) rfl rfl (HZ1.out) (by rw [size_att, HSA.out.1]) (by rw [HZS.out, HSA.out.1]) HSA.out.2 ?_
        intro x1 hg7 hr7 hz7
        have hbe7 := (ha3).grown hg7 (ha3).size (fun k hk => by injection hk with hk; omega)
        have hk78 := (hg7.block _ (lt_of_block (HZ0.out)) (fun e => by injection e with e; omega)).trans (HZ0.out)
        have hk79 := (hg7.block _ (lt_of_block (HZ2.out)) (fun e => by injection e with e; omega)).trans (HZ2.out)
        refine hK.out _ _ (HX.out _ hbe7) (fun hHeld => ?_)
        clear hK K
        try simp only [Act.put]
        refine call_on (i := 10) rfl (by kernel_rfl) (by rfl) (fun K hK => ?_)
        refine wp_store_whole (.tmp 8) (.tmp 14) rfl (g := w0.heap.size) rfl rfl (hk78) (by rw [size_att, HSB.out.1]) (by rw [HZS.out, HSB.out.1]) HSB.out.2 ?_
        intro x2 hg8 hr8 hz8
        have hbe8 := (hbe7).grown hg8 (hbe7).size (fun k hk => by injection hk with hk; omega)
        have hk87 := (hg8.block _ (lt_of_block (hr7)) (fun e => by injection e with e; omega)).trans (hr7)
        have hk89 := (hg8.block _ (lt_of_block (hk79)) (fun e => by injection e with e; omega)).trans (hk79)
        refine hK.out _ _ (HX.out _ hbe8) (fun hHeld => ?_)
        clear hK K
        try simp only [Act.put]
        refine call_on (i := 11) rfl (by kernel_rfl) (by rfl) (fun K hK => ?_)
        refine wp_store_whole (.tmp 9) (.tmp 16) rfl (g := w0.heap.size + 1 + 1) rfl rfl (hk89) (by rw [size_att, HSC.out.1]) (by rw [HZS.out, HSC.out.1]) HSC.out.2 ?_
        intro x3 hg9 hr9 hz9
        have hbe9 := (hbe8).grown hg9 (hbe8).size (fun k hk => by injection hk with hk; omega)
        have hk97 := (hg9.block _ (lt_of_block (hk87)) (fun e => by injection e with e; omega)).trans (hk87)
        have hk98 := (hg9.block _ (lt_of_block (hr8)) (fun e => by injection e with e; omega)).trans (hr8)
        refine hK.out _ _ (HX.out _ hbe9) (fun hHeld => ?_)
        clear hK K
        try simp only [Act.put]
        refine wpAnyH_done (by kernel_rfl) ?_ _
        have HF : Hid (_ ∧ _ ∧ _ ∧ _) := hid ⟨hk97, hk98, hr9, hbe9⟩
        clear hr7 hr8 hr9 hz7 hz8 hz9 hg7 hg8 hg9 hbe7 hbe8 hbe9 hk78 hk79 hk87 hk89 hk97 hk98 ha1 ha2 ha3 hbd hHeld
        go_wp2_with fail
        go_meet
        case rel => exact ⟨_, _, _, rfl, rfl, rfl, HF.out.1, HF.out.2.1, HF.out.2.2.1, HF.out.2.2.2⟩
      · refine wp_alloc_att rfl (n := w0.heap.size + 1) (by simp) HZ.out ?_
        refine hK.out _ _ (HX.out _ ha2) (fun hHeld => ?_)
        clear hK K
        try simp only [Act.put, List.setIfInBounds_toArray, List.set_cons_zero, List.set_cons_succ]
        refine call_on (i := 6) rfl (by kernel_rfl) (by rfl) (fun K hK => ?_)
        refine wp_alloc_att rfl (n := w0.heap.size + 1 + 1) (by simp) HZ.out ?_
        refine hK.out _ _ (HX.out _ ha3) (fun hHeld => ?_)
        clear hK K
        try simp only [Act.put, List.setIfInBounds_toArray, List.set_cons_zero, List.set_cons_succ]
        refine call_on (i := 9) rfl (by kernel_rfl) (by rfl) (fun K hK => ?_)
        refine wp_store_whole (.tmp 7) (.tmp 12) rfl (g := w0.heap.size + 1 + 1) rfl rfl (HZ2.out) (by rw [size_att, HSA.out.1]) (by rw [HZS.out, HSA.out.1]) HSA.out.2 ?_
        intro x1 hg7 hr7 hz7
        have hbe7 := (ha3).grown hg7 (ha3).size (fun k hk => by injection hk with hk; omega)
        have hk78 := (hg7.block _ (lt_of_block (HZ0.out)) (fun e => by injection e with e; omega)).trans (HZ0.out)
        have hk79 := (hg7.block _ (lt_of_block (HZ1.out)) (fun e => by injection e with e; omega)).trans (HZ1.out)
        refine hK.out _ _ (HX.out _ hbe7) (fun hHeld => ?_)
        clear hK K
        try simp only [Act.put]
        refine call_on (i := 10) rfl (by kernel_rfl) (by rfl) (fun K hK => ?_)
        refine wp_store_whole (.tmp 8) (.tmp 14) rfl (g := w0.heap.size) rfl rfl (hk78) (by rw [size_att, HSB.out.1]) (by rw [HZS.out, HSB.out.1]) HSB.out.2 ?_
        intro x2 hg8 hr8 hz8
        have hbe8 := (hbe7).grown hg8 (hbe7).size (fun k hk => by injection hk with hk; omega)
        have hk87 := (hg8.block _ (lt_of_block (hr7)) (fun e => by injection e with e; omega)).trans (hr7)
        have hk89 := (hg8.block _ (lt_of_block (hk79)) (fun e => by injection e with e; omega)).trans (hk79)
        refine hK.out _ _ (HX.out _ hbe8) (fun hHeld => ?_)
        clear hK K
        try simp only [Act.put]
        refine call_on (i := 11) rfl (by kernel_rfl) (by rfl) (fun K hK => ?_)
        refine wp_store_whole (.tmp 9) (.tmp 16) rfl (g := w0.heap.size + 1) rfl rfl (hk89) (by rw [size_att, HSC.out.1]) (by rw [HZS.out, HSC.out.1]) HSC.out.2 ?_
        intro x3 hg9 hr9 hz9
        have hbe9 := (hbe8).grown hg9 (hbe8).size (fun k hk => by injection hk with hk; omega)
        have hk97 := (hg9.block _ (lt_of_block (hk87)) (fun e => by injection e with e; omega)).trans (hk87)
        have hk98 := (hg9.block _ (lt_of_block (hr8)) (fun e => by injection e with e; omega)).trans (hr8)
        refine hK.out _ _ (HX.out _ hbe9) (fun hHeld => ?_)
        clear hK K
        try simp only [Act.put]
        refine wpAnyH_done (by kernel_rfl) ?_ _
        have HF : Hid (_ ∧ _ ∧ _ ∧ _) := hid ⟨hk97, hk98, hr9, hbe9⟩
        clear hr7 hr8 hr9 hz7 hz8 hz9 hg7 hg8 hg9 hbe7 hbe8 hbe9 hk78 hk79 hk87 hk89 hk97 hk98 ha1 ha2 ha3 hbd hHeld
        go_wp2_with fail
        go_meet
        case rel => exact ⟨_, _, _, rfl, rfl, rfl, HF.out.1, HF.out.2.1, HF.out.2.2.1, HF.out.2.2.2⟩
    · refine wp_alloc_att rfl (n := w0.heap.size) rfl HZ.out ?_
      refine hK.out _ _ (HX.out _ ha1) (fun hHeld => ?_)
      clear hK K
      try simp only [Act.put, List.setIfInBounds_toArray, List.set_cons_zero, List.set_cons_succ]
      refine pair_on (i := 6) (j := 7) rfl rfl (by kernel_rfl) (by rfl) (by rfl) (fun K hK => ?_) (fun K hK => ?_)
      · refine wp_alloc_att rfl (n := w0.heap.size + 1) (by simp) HZ.out ?_
        refine hK.out _ _ (HX.out _ ha2) (fun hHeld => ?_)
        clear hK K
        try simp only [Act.put, List.setIfInBounds_toArray, List.set_cons_zero, List.set_cons_succ]
        refine call_on (i := 7) rfl (by kernel_rfl) (by rfl) (fun K hK => ?_)
        refine wp_alloc_att rfl (n := w0.heap.size + 1 + 1) (by simp) HZ.out ?_
        refine hK.out _ _ (HX.out _ ha3) (fun hHeld => ?_)
        clear hK K
        try simp only [Act.put, List.setIfInBounds_toArray, List.set_cons_zero, List.set_cons_succ]
        refine call_on (i := 9) rfl (by kernel_rfl) (by rfl) (fun K hK => ?_)
        refine wp_store_whole (.tmp 7) (.tmp 12) rfl (g := w0.heap.size + 1) rfl rfl (HZ1.out) (by rw [size_att, HSA.out.1]) (by rw [HZS.out, HSA.out.1]) HSA.out.2 ?_
        intro x1 hg7 hr7 hz7
        have hbe7 := (ha3).grown hg7 (ha3).size (fun k hk => by injection hk with hk; omega)
        have hk78 := (hg7.block _ (lt_of_block (HZ2.out)) (fun e => by injection e with e; omega)).trans (HZ2.out)
        have hk79 := (hg7.block _ (lt_of_block (HZ0.out)) (fun e => by injection e with e; omega)).trans (HZ0.out)
        refine hK.out _ _ (HX.out _ hbe7) (fun hHeld => ?_)
        clear hK K
        try simp only [Act.put]
        refine call_on (i := 10) rfl (by kernel_rfl) (by rfl) (fun K hK => ?_)
        refine wp_store_whole (.tmp 8) (.tmp 14) rfl (g := w0.heap.size + 1 + 1) rfl rfl (hk78) (by rw [size_att, HSB.out.1]) (by rw [HZS.out, HSB.out.1]) HSB.out.2 ?_
        intro x2 hg8 hr8 hz8
        have hbe8 := (hbe7).grown hg8 (hbe7).size (fun k hk => by injection hk with hk; omega)
        have hk87 := (hg8.block _ (lt_of_block (hr7)) (fun e => by injection e with e; omega)).trans (hr7)
        have hk89 := (hg8.block _ (lt_of_block (hk79)) (fun e => by injection e with e; omega)).trans (hk79)
        refine hK.out _ _ (HX.out _ hbe8) (fun hHeld => ?_)
        clear hK K
        try simp only [Act.put]
        refine call_on (i := 11) rfl (by kernel_rfl) (by rfl) (fun K hK => ?_)
        refine wp_store_whole (.tmp 9) (.tmp 16) rfl (g := w0.heap.size) rfl rfl (hk89) (by rw [size_att, HSC.out.1]) (by rw [HZS.out, HSC.out.1]) HSC.out.2 ?_
        intro x3 hg9 hr9 hz9
        have hbe9 := (hbe8).grown hg9 (hbe8).size (fun k hk => by injection hk with hk; omega)
        have hk97 := (hg9.block _ (lt_of_block (hk87)) (fun e => by injection e with e; omega)).trans (hk87)
        have hk98 := (hg9.block _ (lt_of_block (hr8)) (fun e => by injection e with e; omega)).trans (hr8)
        refine hK.out _ _ (HX.out _ hbe9) (fun hHeld => ?_)
        clear hK K
        try simp only [Act.put]
        refine wpAnyH_done (by kernel_rfl) ?_ _
        have HF : Hid (_ ∧ _ ∧ _ ∧ _) := hid ⟨hk97, hk98, hr9, hbe9⟩
        clear hr7 hr8 hr9 hz7 hz8 hz9 hg7 hg8 hg9 hbe7 hbe8 hbe9 hk78 hk79 hk87 hk89 hk97 hk98 ha1 ha2 ha3 hbd hHeld
        go_wp2_with fail
        go_meet
        case rel => exact ⟨_, _, _, rfl, rfl, rfl, HF.out.1, HF.out.2.1, HF.out.2.2.1, HF.out.2.2.2⟩
      · refine wp_alloc_att rfl (n := w0.heap.size + 1) (by simp) HZ.out ?_
        refine hK.out _ _ (HX.out _ ha2) (fun hHeld => ?_)
        clear hK K
        try simp only [Act.put, List.setIfInBounds_toArray, List.set_cons_zero, List.set_cons_succ]
        refine call_on (i := 6) rfl (by kernel_rfl) (by rfl) (fun K hK => ?_)
        refine wp_alloc_att rfl (n := w0.heap.size + 1 + 1) (by simp) HZ.out ?_
        refine hK.out _ _ (HX.out _ ha3) (fun hHeld => ?_)
        clear hK K
        try simp only [Act.put, List.setIfInBounds_toArray, List.set_cons_zero, List.set_cons_succ]
        refine call_on (i := 9) rfl (by kernel_rfl) (by rfl) (fun K hK => ?_)
        refine wp_store_whole (.tmp 7) (.tmp 12) rfl (g := w0.heap.size + 1 + 1) rfl rfl (HZ2.out) (by rw [size_att, HSA.out.1]) (by rw [HZS.out, HSA.out.1]) HSA.out.2 ?_
        intro x1 hg7 hr7 hz7
        have hbe7 := (ha3).grown hg7 (ha3).size (fun k hk => by injection hk with hk; omega)
        have hk78 := (hg7.block _ (lt_of_block (HZ1.out)) (fun e => by injection e with e; omega)).trans (HZ1.out)
        have hk79 := (hg7.block _ (lt_of_block (HZ0.out)) (fun e => by injection e with e; omega)).trans (HZ0.out)
        refine hK.out _ _ (HX.out _ hbe7) (fun hHeld => ?_)
        clear hK K
        try simp only [Act.put]
        refine call_on (i := 10) rfl (by kernel_rfl) (by rfl) (fun K hK => ?_)
        refine wp_store_whole (.tmp 8) (.tmp 14) rfl (g := w0.heap.size + 1) rfl rfl (hk78) (by rw [size_att, HSB.out.1]) (by rw [HZS.out, HSB.out.1]) HSB.out.2 ?_
        intro x2 hg8 hr8 hz8
        have hbe8 := (hbe7).grown hg8 (hbe7).size (fun k hk => by injection hk with hk; omega)
        have hk87 := (hg8.block _ (lt_of_block (hr7)) (fun e => by injection e with e; omega)).trans (hr7)
        have hk89 := (hg8.block _ (lt_of_block (hk79)) (fun e => by injection e with e; omega)).trans (hk79)
        refine hK.out _ _ (HX.out _ hbe8) (fun hHeld => ?_)
        clear hK K
        try simp only [Act.put]
        refine call_on (i := 11) rfl (by kernel_rfl) (by rfl) (fun K hK => ?_)
        refine wp_store_whole (.tmp 9) (.tmp 16) rfl (g := w0.heap.size) rfl rfl (hk89) (by rw [size_att, HSC.out.1]) (by rw [HZS.out, HSC.out.1]) HSC.out.2 ?_
        intro x3 hg9 hr9 hz9
        have hbe9 := (hbe8).grown hg9 (hbe8).size (fun k hk => by injection hk with hk; omega)
        have hk97 := (hg9.block _ (lt_of_block (hk87)) (fun e => by injection e with e; omega)).trans (hk87)
        have hk98 := (hg9.block _ (lt_of_block (hr8)) (fun e => by injection e with e; omega)).trans (hr8)
        refine hK.out _ _ (HX.out _ hbe9) (fun hHeld => ?_)
        clear hK K
        try simp only [Act.put]
        refine wpAnyH_done (by kernel_rfl) ?_ _
        have HF : Hid (_ ∧ _ ∧ _ ∧ _) := hid ⟨hk97, hk98, hr9, hbe9⟩
        clear hr7 hr8 hr9 hz7 hz8 hz9 hg7 hg8 hg9 hbe7 hbe8 hbe9 hk78 hk79 hk87 hk89 hk97 hk98 ha1 ha2 ha3 hbd hHeld
        go_wp2_with fail
        go_meet
        case rel => exact ⟨_, _, _, rfl, rfl, rfl, HF.out.1, HF.out.2.1, HF.out.2.2.1, HF.out.2.2.2⟩
  case rest =>
    obtain ⟨p7, p8, p9, rfl, rfl, rfl, h7, h8, h9, hbc⟩ := hcut
    have l7 := loadAtt_row h7 HSA.out.1
    have hal := HAL.out
    have hs10 := att_var wc HZS.out HSA.out.1 HSA.out.2
    have hr10 := heap_alloc_new wc (.cells CA 25)
    have hbn : Below wc.heap.size wc (wc.alloc (.cells CA 25)) := (Below.refl _ _).alloc (Nat.le_refl _) _
    have hb10 := hbc.trans (hbn.mono hbc.size)
    have h7' := (hbn.block _ (lt_of_block h7)).trans h7
    have h8' := (hbn.block _ (lt_of_block h8)).trans h8
    have h9' := (hbn.block _ (lt_of_block h9)).trans h9
    have hlt7 := lt_of_block h7
    have hlt8 := lt_of_block h8
    have hlt9 := lt_of_block h9
    have hszc := hbc.size
    obtain ⟨N, HN⟩ : ∃ n : Nat, Hid (wc.heap.size = n) := ⟨_, hid rfl⟩
    clear h7 h8 h9 hbn
    go_upto_region 3 with (fail)
    clear hs10 l7 hal hbc
    generalize wc.alloc (.cells CA 25) = w1 at *
    rw [HN.out] at hr10 hlt7 hlt8 hlt9 hszc ⊢
    have hlN := lt_of_block hr10
    have hbd : Below w0.heap.size w0 w1.drew := hb10.drew
    have hA1 : BoxA w1.drew N a := by unfold BoxA; rw [HCA.out]; exact hr10
    have d7 : w1.drew.heap[p7]? = some (.cells CA 25 (0, 0)) := h7'
    have d8 : w1.drew.heap[p8]? = some (.cells CB 25 (0, 0)) := h8'
    have d9 : w1.drew.heap[p9]? = some (.cells CC 25 (0, 0)) := h9'
    clear h7' h8' h9' hr10 hb10
    go_cut [6] (fun s6 wx => s6 = .bool false ∧ BoxA wx N x ∧ wx.heap[p7]? = some (.cells CA 25 (0, 0)) ∧ wx.heap[p8]? = some (.cells CB 25 (0, 0)) ∧ wx.heap[p9]? = some (.cells CC 25 (0, 0)) ∧ Below w0.heap.size w0 wx)
    case first =>
      refine wp_region_held_drew (S := fun W => loadH (.pointer (some ⟨w.heap.size + 1, 0, none⟩)) W = .ok (.value (.agg G)) W) (by kernel_rfl) (HG1.out _ hbd) (fun hHeld => ?_)
      refine' take_on (i := 0) (v := _) rfl (by kernel_rfl) (by kernel_rfl) (by kernel_rfl) (fun _ _ _ h => h) (by rfl) ?_ (by assumption) ?_
      rotate_left
      · (intro W hW; (try dsimp only at hW); go_simp; first | done | with_reducible rfl)
      try simp only [Act.put, List.setIfInBounds_toArray, List.set_cons_zero, List.set_cons_succ]
      refine' take_on (i := 1) (v := _) rfl (by kernel_rfl) (by kernel_rfl) (by kernel_rfl) (fun _ _ _ h => h) (by rfl) (fun W hW => hW) (by assumption) ?_
      try simp only [Act.put, List.setIfInBounds_toArray, List.set_cons_zero, List.set_cons_succ]
      refine' take_on (i := 2) (v := _) rfl (by kernel_rfl) (by kernel_rfl) (by kernel_rfl) (fun _ _ _ h => h) (by rfl) ?_ (by assumption) ?_
      rotate_left
      · (intro W hW; (try dsimp only at hW); go_simp; first | done | with_reducible rfl)
      try simp only [Act.put, List.setIfInBounds_toArray, List.set_cons_zero, List.set_cons_succ]
      refine call_on (i := 3) rfl (by kernel_rfl) (by rfl) (fun K hK => ?_)
      have c0 := hA1.cells.1
      have f0 := hA1.free 0
      go_simp
      clear c0 f0
      have hA2 : BoxA (w1.drew.setCell ⟨N, 0, none⟩ (.int .i64 by_)) N { a with bo := by_ } := by
        have := set_blk hA1 0 (.int .i64 by_)
        rw [atc_bo] at this
        exact this
      have e7 := blk_other d7 (.int .i64 by_) (i := 0) (b := N) (by omega)
      have e8 := blk_other d8 (.int .i64 by_) (i := 0) (b := N) (by omega)
      have e9 := blk_other d9 (.int .i64 by_) (i := 0) (b := N) (by omega)
      have hb2 : Below w0.heap.size w0 (w1.drew.setCell ⟨N, 0, none⟩ (.int .i64 by_)) := hbd.setCell (by simp only; omega) _
      refine hK.out _ _ (HG1.out _ hb2) (fun hHeld => ?_)
      clear hK K hA1 d7 d8 d9 hbd
      try simp only [Act.put]
      refine' take_on (i := 4) (v := _) rfl (by kernel_rfl) (by kernel_rfl) (by kernel_rfl) (fun _ _ _ h => h) (by rfl) ?_ (by assumption) ?_
      rotate_left
      · (intro W hW; (try dsimp only at hW); go_simp; first | done | with_reducible rfl)
      try simp only [Act.put, List.setIfInBounds_toArray, List.set_cons_zero, List.set_cons_succ]
      refine call_on (i := 5) rfl (by kernel_rfl) (by rfl) (fun K hK => ?_)
      refine wp_store_tag (.tmp 21) (.tmp 19) rfl (g := N) (h := t) rfl (by rw [HG.out]; rfl) hA2 ⟨HOA.out.ha, HOA.out.pa, HOA.out.tg⟩ HTL.out ?_
      intro w2 hg2 hA3 hz2
      rw [HXX.out] at hA3
      have k7 := (hg2.block _ (lt_of_block e7) (fun e => by injection e with e; omega)).trans e7
      have k8 := (hg2.block _ (lt_of_block e8) (fun e => by injection e with e; omega)).trans e8
      have k9 := (hg2.block _ (lt_of_block e9) (fun e => by injection e with e; omega)).trans e9
      have hb3 := hb2.grown hg2 hb2.size (fun k hk => by injection hk with hk; omega)
      refine hK.out _ _ (HG1.out _ hb3) (fun hHeld => ?_)
      clear hK K
      try simp only [Act.put]
      refine wpAnyH_done (by kernel_rfl) ?_ _
      have HF := hid (⟨hA3, k7, k8, k9, hb3⟩ : BoxA w2 N x ∧ w2.heap[p7]? = some (.cells CA 25 (0, 0)) ∧ w2.heap[p8]? = some (.cells CB 25 (0, 0)) ∧ w2.heap[p9]? = some (.cells CC 25 (0, 0)) ∧ Below w0.heap.size w0 w2)
      clear hA2 hA3 e7 e8 e9 k7 k8 k9 hb2 hb3 hg2 hz2 hHeld
      go_wp2_with fail
      go_meet
      case rel => exact ⟨rfl, HF.out⟩
    case rest =>
      clear hA1 d7 d8 d9 hbd
      obtain ⟨rfl, h10, h7, h8, h9, hbe⟩ := hcut
      unfold BoxA at h10
      rw [HCX.out] at h10
      have hl7 := lt_of_block h7
      have hl8 := lt_of_block h8
      have hl9 := lt_of_block h9
      have hl10 := lt_of_block h10
      have HX4 : Hid (∀ W, Below wc.heap.size wc W → (W.heap[p7]? = some (.cells CA 25 (0, 0)) ∧ W.heap[p8]? = some (.cells CB 25 (0, 0)) ∧ W.heap[p9]? = some (.cells CC 25 (0, 0)) ∧ W.heap[N]? = some (.cells CX 25 (0, 0)))) := hid (fun W h =>
        ⟨(h.block _ hl7).trans h7, (h.block _ hl8).trans h8, (h.block _ hl9).trans h9, (h.block _ hl10).trans h10⟩)
      have HBE := hid (fun W (h : Below wc.heap.size wc W) => HB0.out.trans ((hbe.trans (h.mono hbe.size)).mono HB0.out.size))
      have hld7 : ∀ W : World, (W.heap[p7]? = some (.cells CA 25 (0, 0)) ∧ W.heap[p8]? = some (.cells CB 25 (0, 0)) ∧ W.heap[p9]? = some (.cells CC 25 (0, 0)) ∧ W.heap[N]? = some (.cells CX 25 (0, 0))) → loadAtt (.pointer (some ⟨p7, 0, none⟩)) W = .ok (.value (.agg CA)) W := fun W h => loadAtt_row h.1 HSA.out.1
      have hld8 : ∀ W : World, (W.heap[p7]? = some (.cells CA 25 (0, 0)) ∧ W.heap[p8]? = some (.cells CB 25 (0, 0)) ∧ W.heap[p9]? = some (.cells CC 25 (0, 0)) ∧ W.heap[N]? = some (.cells CX 25 (0, 0))) → loadAtt (.pointer (some ⟨p8, 0, none⟩)) W = .ok (.value (.agg CB)) W := fun W h => loadAtt_row h.2.1 HSB.out.1
      have hld10 : ∀ W : World, (W.heap[p7]? = some (.cells CA 25 (0, 0)) ∧ W.heap[p8]? = some (.cells CB 25 (0, 0)) ∧ W.heap[p9]? = some (.cells CC 25 (0, 0)) ∧ W.heap[N]? = some (.cells CX 25 (0, 0))) → loadAtt (.pointer (some ⟨N, 0, none⟩)) W = .ok (.value (.agg CX)) W := fun W h => loadAtt_row h.2.2.2 HSX.out
      have HL7 := hid hld7
      have HL8 := hid hld8
      have HL9 : Hid (∀ W : World, W.heap[p9]? = some (.cells CC 25 (0, 0)) → loadAtt (.pointer (some ⟨p9, 0, none⟩)) W = .ok (.value (.agg CC)) W) := hid (fun W h => loadAtt_row h HSC.out.1)
      have hbd : Below wc.heap.size wc wc.drew := (Below.refl _ _).drew
      clear h7 h8 h9 h10 hl7 hl8 hl9 hl10 hbe
      go_upto_region 4 with (fail)
      cases qab with
      | false =>
        go_region_held3 (fun W => W.heap[p7]? = some (.cells CA 25 (0, 0)) ∧ W.heap[p8]? = some (.cells CB 25 (0, 0)) ∧ W.heap[p9]? = some (.cells CC 25 (0, 0)) ∧ W.heap[N]? = some (.cells CX 25 (0, 0)))
          (first
            | (refine HX4.out _ hbd)
            | (refine HX4.out _ hb6)
            | (refine HX4.out _ hb5)
            | (refine HX4.out _ hb4)
            | fail)
          (first
            | (go_at_call 15; (with_reducible refine (HBA.out _).mono ?_); rintro e w6 ⟨rfl, hb6'⟩; have hb6 := hb5.trans (hb6'.mono hb5.size))
            | (go_at_call 15; (with_reducible refine (HAB.out _).mono ?_); rintro e w5 ⟨rfl, hb5'⟩; have hb5 := hb4.trans (hb5'.mono hb4.size))
            | (go_at_call 15; (with_reducible refine (HAX.out _).mono ?_); rintro e w4 ⟨rfl, hb4'⟩; have hb4 := hbd.trans (hb4'.mono hbd.size))
            | fail)
        clear hld7 hld8 hld10 hbd hb4 hb5 hb4' hb5' hb6'
        have hS6 := HX4.out w6 hb6
        have l7 := HL7.out w6 hS6
        have l8 := HL8.out w6 hS6
        clear hS6
        go_wp2_with fail
        refine (HAB.out w6).mono ?_
        rintro e w7 ⟨rfl, hb7'⟩
        have hb7 := hb6.trans (hb7'.mono hb6.size)
        clear l7 l8 hb6 hb7'
        go_wp2_with fail
        refine (HA.out _ (HBE.out _ hb7)).mono ?_
        rintro e wz ⟨rfl, hbz⟩
        have hBz := (HBE.out _ hb7).trans (hbz.mono (HBE.out _ hb7).size)
        go_wp2_with fail
        go_ret
        exact ⟨rfl, hBz⟩
      | true =>
        have HTR2 := hid (HTR.out rfl)
        go_region_held3 (fun W => W.heap[p7]? = some (.cells CA 25 (0, 0)) ∧ W.heap[p8]? = some (.cells CB 25 (0, 0)) ∧ W.heap[p9]? = some (.cells CC 25 (0, 0)) ∧ W.heap[N]? = some (.cells CX 25 (0, 0)))
          (first
            | (refine HX4.out _ hbd)
            | (refine HX4.out _ hb6)
            | (refine HX4.out _ hb5)
            | (refine HX4.out _ hb4)
            | fail)
          (first
            | (go_at_call 15; (with_reducible refine (HBA.out _).mono ?_); rintro e w6 ⟨rfl, hb6'⟩; have hb6 := hb5.trans (hb6'.mono hb5.size))
            | (go_at_call 15; (with_reducible refine (HAB.out _).mono ?_); rintro e w5 ⟨rfl, hb5'⟩; have hb5 := hb4.trans (hb5'.mono hb4.size))
            | (go_at_call 15; (with_reducible refine (HAX.out _).mono ?_); rintro e w4 ⟨rfl, hb4'⟩; have hb4 := hbd.trans (hb4'.mono hbd.size))
            | fail)
        clear hld7 hld8 hld10 hbd hb4 hb5 hb4' hb5' hb6'
        have hS6 := HX4.out w6 hb6
        have l7 := HL7.out w6 hS6
        have l8 := HL8.out w6 hS6
        clear hS6
        go_wp2_with fail
        refine (HAB.out w6).mono ?_
        rintro e w7 ⟨rfl, hb7'⟩
        have hb7 := hb6.trans (hb7'.mono hb6.size)
        clear l7 l8 hb6 hb7'
        have hS7 := HX4.out w7 hb7
        have l8 := HL8.out w7 hS7
        have l9 := HL9.out w7 hS7.2.2.1
        clear hS7
        go_wp2_with fail
        refine (HBC.out w7).mono ?_
        rintro e w8 ⟨rfl, hb8'⟩
        have hb8 := hb7.trans (hb8'.mono hb7.size)
        clear l8 l9 hb7 hb8'
        cases qbc with
        | false =>
          go_wp2_with fail
          refine (HA.out _ (HBE.out _ hb8)).mono ?_
          rintro e wz ⟨rfl, hbz⟩
          have hBz := (HBE.out _ hb8).trans (hbz.mono (HBE.out _ hb8).size)
          go_wp2_with fail
          go_ret
          exact ⟨rfl, hBz⟩
        | true =>
          obtain rfl := HTR2.out rfl
          have hS8 := HX4.out w8 hb8
          have l7 := HL7.out w8 hS8
          have l9 := HL9.out w8 hS8.2.2.1
          clear hS8
          go_wp2_with fail
          refine (HAC.out w8).mono ?_
          rintro e w9 ⟨rfl, hb9'⟩
          have hb9 := hb8.trans (hb9'.mono hb8.size)
          clear l7 l9 hb8 hb9'
          go_wp2_with fail
          refine (HA.out _ (HBE.out _ hb9)).mono ?_
          rintro e wz ⟨rfl, hbz⟩
          have hBz := (HBE.out _ hb9).trans (hbz.mono (HBE.out _ hb9).size)
          go_wp2_with fail
          go_ret
          exact ⟨rfl, hBz⟩
end Go.Proofs.YtmhchihcgliinaaDoor
