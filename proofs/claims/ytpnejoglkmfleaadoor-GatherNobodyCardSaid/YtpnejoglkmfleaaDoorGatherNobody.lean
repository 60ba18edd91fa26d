/-
  'tithinglaw16.GatherNobody' returns true whatever comes in, and leaves it as it was, where the package's constants are as the program's text lays them. No other condition.
-/
import Derived.Test.YtpnejoglkmfleaaDoorCards
import Derived.Test.YtpnejoglkmfleaaDoorTie
import Derived.Test.YtpnejoglkmfleaaDoorGaNobodyWalk
namespace Go.Proofs.YtpnejoglkmfleaaDoor
set_option maxRecDepth 20000
open Go.ChangeShapes Go.WideShapes Go.ChangeAt Go.RowKit
set_option maxRecDepth 100000 in
theorem gatherNobody_lifted (os : Os) (started : os.Started) (H : Type) (enc : TypeId × Value → H) :
    ReturnsInHanded {} Tryd.checked os 4 .any (fun w args => (Rows.gatherNobodySpec.pre enc Tryd.prog Tryd.f4 [] false w args ∧ laidMetH Tryd.prog [("tithing/sha.constants", Rows.laid_tithing_sha_constants), ("tithing/tithingref02.constants", Rows.laid_tithing_tithingref02_constants)] w) ∧ sizedMet enc Tryd.prog Tryd.f4 (OpenSpec.ofChange Rows.gatherNobodySpec) false w args)
      (Rows.gatherNobodySpec.post enc Tryd.prog Tryd.f4 false true false false) := by
  refine returnsInHanded_of_change_and (C := Tryd.checked) (X := fun w _ => laidMetH Tryd.prog [("tithing/sha.constants", Rows.laid_tithing_sha_constants), ("tithing/tithingref02.constants", Rows.laid_tithing_tithingref02_constants)] w) (fun _ _ _ hh h => h.of_heap hh) ownKnob_none started (by kernel_rfl) Tryd.func4
    (ChangeSpec.witness_shaped (enc := enc) (C := Tryd.checked) (os := os) (X := fun w _ => laidMetH Tryd.prog [("tithing/sha.constants", Rows.laid_tithing_sha_constants), ("tithing/tithingref02.constants", Rows.laid_tithing_tithingref02_constants)] w) false (World.doorLaid Tryd.prog 400 os) #[.agg (atc atZ)] 8 rfl (World.shaped_of_RefB (by kernel_rfl) (by kernel_rfl)) (by kernel_rfl) (by kernel_rfl) (by kernel_rfl) (door_two os _)) ?_
  intro W base args ds gs before hval0 hW _ _ hL _
  have hval : ∀ (j : Nat) t v, Tryd.f4.params[j]? = some t → args[j]? = some v → Value.okWide Tryd.prog W .any base t v := hval0
  have hW' := hW
  obtain ⟨p, q, hA0, hV, rfl, hfz, hnd⟩ := hW
  have hA : DataW.TrodAll enc Tryd.prog W 0 (fun _ => true) true Tryd.f4.params.toList args.toList ds p := hA0
  rw [Tryd.params4] at hA hval
  obtain ⟨v0, vs0, d0, ds0, p0, q0, hargs, rfl, rfl, h0, r0⟩ := trodAll_cons hA
  obtain ⟨rfl, rfl, rfl⟩ := trodAll_nil r0
  obtain rfl : args = #[v0] := by cases args; simp_all
  obtain ⟨rfl, rfl⟩ := trodVars_none hV
  obtain ⟨cs0, rfl, _⟩ := okWide_struct Tryd.underlying29 (hval 0 29 v0 rfl rfl)
  have k0 := h0
  have lt0 : ∀ x ∈ p0, x.block < W.heap.size := by obtain ⟨m, hm⟩ := k0; exact DataW.trod_lt m _ _ _ hm
  obtain ⟨a0, ho0, e0⟩ : ∃ a : AtM, a.Ok ∧ cs0 = atc a := by
    obtain ⟨fuel, hf⟩ := h0
    obtain ⟨a0, ho0, e⟩ := trod_att hf
    exact ⟨a0, ho0, Array.ext' (by simpa [Value.cells] using e)⟩
  subst e0
  clear hA0 hval0
  refine (lawGatherNobody_all a0 W ho0 (two_met hL).1 (two_met hL).2).mono fun e W' ⟨he, bel⟩ => ?_
  subst he
  exact ⟨_, rfl, _, _, _, [], _, [], hW', trodAll_mk1 (shut_bool Tryd.underlying4 _), (trodAll_cons_mk (Below.trod laidOut (by kernel_rfl) (of_decide_eq_true (by kernel_rfl)) k0 bel lt0) trodAll_mk0), rfl, bel.frame _, fun h => by cases h⟩
theorem gatherNobody_over : Rows.GatherNobodySaid :=
  OpenClaim.holds_of_wide 4 Tryd.f4 rfl rfl rfl rfl rfl rfl rfl ⟨rfl, rfl, rfl, rfl, rfl⟩ rfl rfl rfl rfl rfl (by kernel_rfl) Tryd.func4 (by kernel_rfl)
    (of_decide_eq_true (by kernel_rfl)) (by unfold Func.isWrapper; first | (rw [if_pos (by decide +kernel)]; kernel_rfl) | (rw [if_neg (by decide +kernel)]; exact ⟨rfl, rfl⟩))
    (fun os started H enc _ => gatherNobody_lifted os started H enc)
theorem gatherNobody_holds : Rows.GatherNobodyCardSaid :=
  Claim7.holds_tied_plain_at .later [] [.data, .data] true Rows.gatherNobodyCard.stood.harness false
    gatherNobody_over (fun _ h => by cases h) (by kernel_rfl) (fun _ h => by cases h) gatherNobody_row_tie rfl ⟨rfl, rfl⟩ (by kernel_rfl) rfl
    (fun f fn hf hfn => by
      obtain rfl : f = 4 := Option.some.inj ((show Tryd.prog.funcNamed "tithing/tithinglaw16.GatherNobody" = some 4 by kernel_rfl).symm.trans hf) |>.symm
      obtain rfl : fn = Tryd.f4 := (Option.some.inj (Tryd.func4.symm.trans hfn)).symm
      exact ⟨by kernel_rfl, fun j t ht => by
        rw [Tryd.params4] at ht
        have hm : t ∈ [29] := by simpa using Array.mem_of_getElem? ht
        have hall : ([29].all fun u => !Tryd.prog.wantsStandIn u) = true := by kernel_rfl
        exact (show Tryd.prog.wantsStandIn t = false by simpa using List.all_eq_true.1 hall t hm)⟩)
    (by kernel_rfl)
#print axioms gatherNobody_holds
end Go.Proofs.YtpnejoglkmfleaaDoor
