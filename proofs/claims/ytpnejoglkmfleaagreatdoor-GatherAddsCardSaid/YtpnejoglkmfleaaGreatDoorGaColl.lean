/-
  slices.Collect of a gatherer's map's values: a slice of the call's own, the attestations in some order.
-/
import Derived.RangeFuncBox
import Derived.Test.YtpnejoglkmfleaaGreatDoorGaVals
namespace Go.Proofs.YtpnejoglkmfleaaGreatDoor
set_option maxRecDepth 20000
open Go.RowKit Go.Shelf
theorem semAt_slice_at1 (R : Option Nat) (r : Operand → Value) (x : Operand) (dst : Option Tmp) (ty : TypeId) (pos : String) (after : Array Edge) (guard : Option (Nat × Bool)) (w : World) :
    Sem.run Tryz.prog (Oper.semAt R r { dst := dst, op := .buildSlice 22 1 #[(0, x)], type := ty, pos := pos, after := after, guard := guard }) w = sliceAt1 (r x) w := by cases R <;> exact exec_slice_at1 r x dst ty pos after guard w
attribute [local go_sem ↓] semAt_load_att semAt_alloc_att semAt_store_att semAt_slice_at1
attribute [local go_sem] Oper.semAt_some
theorem gaWpListIn_append {F : Fence} {d : Nat} {B : Nat} {w : World} {v : Value} {ops : Array Oper} {rest : List Oper} {o : Oper} {a : Act} {Q : Exit → Act → World → Prop} (hgd : o.guard = none) (s y : Operand) (ho : o.op = .call { callee := .builtin .append, args := #[s, y], argTypes := #[22, 22] })
    {x : Value} {l m : List AtM} (hes : a.eval s = v) (hey : a.eval y = x) (hm : ∀ a ∈ m, a.Ok) (hv : OwnE atl 101 36 B w v l) (hx : Els atl 101 w x m) (hs : l.length + m.length ≤ 1000000) (hB : B ≤ w.heap.size)
    (h : ∀ v' w', OwnE atl 101 36 B w' v' (l ++ m) → w.grownBy w' v.ownBlock → wpListIn F d Tryz.prog ops Q rest (a.put o.dst v') w') : wpListIn F d Tryz.prog ops Q (o :: rest) a w := by
  refine wpListIn_plain hgd fun K hK' => ?_
  obtain ⟨v', w', hrun, h2, h3, _⟩ := eltAt.run_append (w := w) o.type hm hv hx hs hB
  unfold Oper.wpIn
  refine ⟨?_, ?_⟩
  · simp [Oper.about, ho, resolve, Target.leads, Sem.run_pure]
  · rw [Oper.semAt_plain F _ _ (by rw [ho]; intro c hc'; cases hc')]
    unfold execOp
    simp only [ho, resolve, invoke, builtin, Sem.run_bind, Sem.run_pure, Result.andThen_ok, List.map_toArray, List.map_cons, List.map_nil, hes, hey, hrun]
    exact hK' _ _ (h v' w' h2 h3)
abbrev valsF : Nat := 44
theorem gaVals_stops (F : Fence) (n : Nat) (hf : F.fn valsF) (hro : F.round = none) (hn : 1 ≤ n) (Bm m c : Nat) (P : List (AtM × Nat)) (w : World) (hok : ∀ p ∈ P, p.1.Ok) (hnd : (P.map (·.2)).Nodup) (hlt : ∀ p ∈ P, p.2 < c)
    (hBm : Bm < w.heap.size) (hm : w.cell? ⟨Bm, 0, none⟩ = some (.map (some m))) (hq : w.heap[m]? = some (mapG P c)) :
    SeqStopsK F n Tryz.prog valsF #[.pointer (some ⟨Bm, 0, none⟩)] (fun x : AtM => #[.agg (atc (nrmA x))]) KeepsWalks (fun xs => xs.Perm (P.map (·.1))) (fun _ => True) P.length w := by
  intro l J Jx W hW hJ hJx hY h0
  have hlm : m < w.heap.size := (Array.getElem?_eq_some_iff.1 hq).1
  refine (gaVals1_in F n hf hro hn l Bm m c P J Jx hok hnd hlt hY W hJ ((hW.cell (p := ⟨Bm, 0, none⟩) hBm).trans hm) ((hW.block m hlm).trans hq) h0).mono ?_
  rintro e W' ⟨he, h | ⟨pre, h⟩⟩
  · exact ⟨he, .inl h⟩
  · exact ⟨he, .inr ⟨pre, trivial, h⟩⟩
set_option maxRecDepth 100000 in
set_option maxHeartbeats 3200000 in
theorem gaAppendSeq_in (F : Fence) (n : Nat) (hf : F.fn 57) (hg : F.fn valsF) (hro : F.round = none) (hn : 3 ≤ n) (Bm m c : Nat) (P : List (AtM × Nat)) (hok : ∀ p ∈ P, p.1.Ok) (hnd : (P.map (·.2)).Nodup) (hlt : ∀ p ∈ P, p.2 < c) (hN : P.length ≤ 1000) (w : World)
    (hBm : Bm < w.heap.size) (hm : w.cell? ⟨Bm, 0, none⟩ = some (.map (some m))) (hq : w.heap[m]? = some (mapG P c)) :
    CallsIn F n Tryz.prog 57 #[.slice none 0 0, .func (.func valsF) #[] #[.pointer (some ⟨Bm, 0, none⟩)]] w fun e w' => ∃ (v : Value) (M : List AtM), e = .returned v ∧ M.Perm (P.map (·.1)) ∧ OwnE atl 101 36 w.heap.size w' v M ∧ Below w.heap.size w w' := by
  have h1 : 1 ≤ n := by omega
  have hlm : m < w.heap.size := (Array.getElem?_eq_some_iff.1 hq).1
  refine callsIn_of_wp_marks Tryz.func57 rfl hf ?_ hro
  simp only [Tryz.ntmps57, List.size_toArray, List.length_cons, List.length_nil, Nat.reduceAdd, Nat.reduceSub, Array.replicate_succ, Array.replicate_zero, List.push_toArray, List.append_toArray, List.nil_append, List.cons_append]
  gi_wp2
  have bO := Boxed.new w 22 (.slice none 0 0)
  have hB0 : Below w.heap.size w (w.alloc (.cells #[.slice none 0 0] 22)) := (Below.refl _ w).alloc (Nat.le_refl _) _
  refine wpIn_rangeFunc_ownH hro h1 (gf := valsF) (lb := #[.pointer (some ⟨Bm, 0, none⟩)]) rfl hg (enters_of Tryz.func44 (by kernel_rfl) rfl)
    (gaVals_stops F (n - 1) hg hro (by omega) Bm m c P _ hok hnd hlt (by first | (simp; done) | (simp; omega)) ((hB0.cell (p := ⟨Bm, 0, none⟩) hBm).trans hm) ((hB0.block m hlm).trans hq)) walksK_t walksK_b (Below.refl _ _) (fun _ => rfl)
    (fun pre W => (∃ v, Boxed W w.heap.size 22 v ∧ W.ownsRow w.heap.size 36 101 v (pre.map nrmA).length ((pre.map nrmA).map atl).flatten ∧ True) ∧ Below w.heap.size w W)
    (fun _ _ _ => False)
    (OwnFrom.and (Own.from (holdsRow_own w.heap.size w.heap.size 22 36 101 (fun pre : List AtM => (pre.map nrmA).length) (fun pre : List AtM => ((pre.map nrmA).map atl).flatten) (fun _ _ => True)) _) (ownFrom_below (Nat.le_refl _) (by first | (simp; done) | (simp; omega))))
    (fun _ _ _ _ _ hs _ _ => hs)
    ⟨⟨_, bO, World.ownsRow_nil _ _ _ _, trivial⟩, hB0⟩
    (fun x a' W => ∃ Bx, w.heap.size < Bx ∧ W.heap[Bx]? = some (.cells (atc (nrmA x)) 36 (0, 0)) ∧ a' = { tmps := #[.slice none 0 0, .func (.func valsF) #[] #[.pointer (some ⟨Bm, 0, none⟩)], .pointer (some ⟨w.heap.size, 0, none⟩), undef, .slice none 0 0, .pointer (some ⟨Bx, 0, none⟩), .func (.func valsF) #[] #[.pointer (some ⟨Bm, 0, none⟩)], .agg (atc (nrmA x)), undef, undef, undef, undef, undef], defers := [] })
    ?hAx ?assign ?body ?done ?stop
  case hAx =>
    rintro x a' s X Y row ⟨Bx, h1, h2, h3⟩ hg2 hrow
    refine ⟨Bx, h1, (hg2.block Bx (lt_of_block h2) (fun e => ?_)).trans h2, h3⟩
    obtain ⟨_, o, ho, hc⟩ := hrow Bx e.symm
    rw [h2] at ho
    cases ho
    cases hc
  case assign =>
    rintro l pre x W K ⟨⟨v, hv, hrow, _⟩, hB⟩ hK
    have hcs : (atc (nrmA x)).size = 101 := atc_size (nrmA_ok x)
    have hc1 : (atc (nrmA x)).all (·.oneCell') = true := atc_one _
    have hal := allocAtt_eq W
    have hst := attVar_eq W hcs hc1
    have HK := hid (fun a' W' => hK a' W')
    have hba : Below W.heap.size W (W.alloc (.cells (atc (nrmA x)) 36)) := (Below.refl _ _).alloc (Nat.le_refl _) _
    have hlt := hv.lt
    gi_wp2
    refine HK.out _ _ ((KeepsOthers.alloc _ _).from _) (KeepsWalks.alloc _ _) ⟨⟨v, hv.alloc _, hrow.alloc _, trivial⟩, hB.trans (hba.mono hB.size)⟩ ⟨W.heap.size, hlt, heap_alloc_new W _, rfl⟩
  case body =>
    rintro l pre x a' W hl ⟨r, hr⟩ ⟨⟨v, hv, hrow, _⟩, hB⟩ ⟨Bx, hBx, hx, rfl⟩ hlt
    have hc := hv.cell
    have hcs : (atc (nrmA x)).size = 101 := atc_size (nrmA_ok x)
    have hld : loadAtt (.pointer (some ⟨Bx, 0, none⟩)) W = .ok (.value (.agg (atc (nrmA x)))) W := loadAtt_row hx hcs
    have hsl := sliceAt1_eq (nrmA x) (nrmA_ok x) W
    have HEL := hid (els_one (ec := atl) (n := 101) W (nrmA x) (atc (nrmA x)) 36 rfl)
    have HOW : Hid (OwnE atl 101 36 w.heap.size W v (pre.map nrmA)) := hid hrow
    have HBS := hid hB.size
    gi_wp2_with (gi_at_builtin; refine gaWpListIn_append rfl (.tmp 8) (.tmp 10) rfl rfl rfl (fun u hu => by obtain rfl := List.mem_singleton.1 hu; exact nrmA_ok x) (HOW.out.alloc _) HEL.out (by simp only [List.length_map, List.length_cons, List.length_nil]; omega) (by have := HBS.out; simp; omega) ?_; intro v' w1 hown' hgrow; obtain ⟨g', cap', rfl⟩ := ownsRow_succ (k := pre.length) (by have := hown'; unfold OwnE at this; simpa only [List.length_append, List.length_map, List.length_cons, List.length_nil] using this); obtain ⟨hv1, hv2, hr2, hk2, hb2⟩ := hv.appended (by decide) hrow hB.size (Nat.le_refl _) hown' hgrow; have hc1 := hv1.cell; have hf1 := hv1.frozen)
    exact ⟨hk2.from _, ⟨hk2.size, fun k o h hw => hk2.same k o h (Obj.not_cells_of_walk hw)⟩, ⟨_, hv2, by simpa only [List.map_append, List.map_cons, List.map_nil] using hr2, trivial⟩, hB.trans hb2⟩
  case done =>
    rintro D ys W hD hp ⟨⟨v, hv, hrow, _⟩, hB⟩ hK
    have hc := hv.cell
    gi_wp2
    refine ⟨by simp, .inl ⟨_, _, rfl, run_takeDeferred hK, ?_⟩⟩
    have he : ys.map nrmA = ys := by
      have : ys.map nrmA = ys.map id := List.map_congr_left (fun x hx => by
        obtain ⟨p, hpm, rfl⟩ := List.mem_map.1 (hp.subset hx)
        exact nrmA_of (hok p hpm))
      rw [this, List.map_id]
    rw [he] at hrow
    exact ⟨_, results_tmp rfl _ _ _, v, ys, rfl, hp, ownsRow_putObj hrow _ hK rfl, hB.trans (belowK_b (w := w) (Nat.le_refl _) W D _ _ (by simp at hD; omega) hK rfl rfl)⟩
  case stop =>
    rintro D c pre W _ _ h _
    exact h.elim
set_option maxHeartbeats 1600000 in
theorem gaCollect_in (F : Fence) (n : Nat) (hf : F.fn 42) (ha : F.fn 57) (hg : F.fn valsF) (hro : F.round = none) (hn : 4 ≤ n) (Bm m c : Nat) (P : List (AtM × Nat)) (hok : ∀ p ∈ P, p.1.Ok) (hnd : (P.map (·.2)).Nodup) (hlt : ∀ p ∈ P, p.2 < c) (hN : P.length ≤ 1000) (w : World)
    (hBm : Bm < w.heap.size) (hm : w.cell? ⟨Bm, 0, none⟩ = some (.map (some m))) (hq : w.heap[m]? = some (mapG P c)) :
    CallsIn F n Tryz.prog 42 #[.func (.func valsF) #[] #[.pointer (some ⟨Bm, 0, none⟩)]] w fun e w' => ∃ (v : Value) (M : List AtM), e = .returned v ∧ M.Perm (P.map (·.1)) ∧ OwnE atl 101 36 w.heap.size w' v M ∧ Below w.heap.size w w' := by
  have HA := hid (gaAppendSeq_in F (n - 1) ha hg hro (by omega) Bm m c P hok hnd hlt hN w hBm hm hq)
  have h1 : 1 ≤ n := by omega
  clear hm hq hnd hlt hok
  refine callsIn_of_wp Tryz.func42 rfl hf ?_ hro
  simp only [Tryz.ntmps42, List.size_toArray, List.length_cons, List.length_nil, Nat.reduceAdd, Nat.reduceSub, Array.replicate_succ, Array.replicate_zero, List.push_toArray, List.append_toArray, List.nil_append, List.cons_append]
  gi_wp2_with (gi_at_call 57; refine HA.out.mono ?_; rintro e w' ⟨v, M, rfl, hp, ho, hb⟩)
  go_ret
  exact ⟨v, M, rfl, hp, ho, hb⟩
theorem gaCollect_any (Bm m c : Nat) (P : List (AtM × Nat)) (hok : ∀ p ∈ P, p.1.Ok) (hnd : (P.map (·.2)).Nodup) (hlt : ∀ p ∈ P, p.2 < c) (hN : P.length ≤ 1000) (w : World)
    (hBm : Bm < w.heap.size) (hm : w.cell? ⟨Bm, 0, none⟩ = some (.map (some m))) (hq : w.heap[m]? = some (mapG P c)) :
    Calls Tryz.prog 42 #[.func (.func valsF) #[] #[.pointer (some ⟨Bm, 0, none⟩)]] w fun e w' => ∃ (v : Value) (M : List AtM), e = .returned v ∧ M.Perm (P.map (·.1)) ∧ OwnE atl 101 36 w.heap.size w' v M ∧ Below w.heap.size w w' :=
  (callsIn_wide (n := 4)).1 (gaCollect_in Fence.wide 4 trivial trivial trivial rfl (by omega) Bm m c P hok hnd hlt hN w hBm hm hq)
theorem gaValues_any (m : Nat) (w : World) : Calls Tryz.prog 30 #[.map (some m)] w fun e w' => e = .returned (.func (.func valsF) #[] #[.pointer (some ⟨w.heap.size, 0, none⟩)]) ∧ w' = w.alloc (.cells #[.map (some m)] 53) := by
  go_enter Tryz.func30, Tryz.ntmps30
  go_wp2
  go_ret
  exact ⟨rfl, rfl⟩
end Go.Proofs.YtpnejoglkmfleaaGreatDoor
