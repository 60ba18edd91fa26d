/-
  'tithinglaw08.AttAlikes' returns true whatever comes in, and leaves it as it was, where the package's constants are as the program's text lays them. No other condition.
-/
import Derived.Test.YtmhchihcgliinaaDoorAtLaws
import Derived.Test.YtmhchihcgliinaaDoorArgs
import Derived.Test.YtmhchihcgliinaaDoorTie
import Derived.Test.YtmhchihcgliinaaDoorCards
import Derived.SevenTiedAt
namespace Go.Proofs.YtmhchihcgliinaaDoor
set_option maxRecDepth 20000
open Go.ChangeShapes Go.WideShapes Go.ChangeAt Go.RowKit

set_option maxRecDepth 100000 in
theorem attAlikes_lifted (os : Os) (started : os.Started) (H : Type) (enc : TypeId × Value → H) :
    ReturnsInHanded {} Tryd.checked os 5 .any (fun w args => (Rows.attAlikesSpec.pre enc Tryd.prog Tryd.f5 [] false w args ∧ laidMetH Tryd.prog [("tithing/sha.constants", Rows.laid_tithing_sha_constants)] w) ∧ sizedMet enc Tryd.prog Tryd.f5 (OpenSpec.ofChange Rows.attAlikesSpec) false w args)
      (Rows.attAlikesSpec.post enc Tryd.prog Tryd.f5 false true false false) := by
  refine returnsInHanded_of_change_and (C := Tryd.checked) (X := fun w _ => laidMetH Tryd.prog [("tithing/sha.constants", Rows.laid_tithing_sha_constants)] w) (fun _ _ _ hh h => h.of_heap hh) ownKnob_none started (by kernel_rfl) Tryd.func5
    (ChangeSpec.witness_shaped (enc := enc) (C := Tryd.checked) (os := os) (X := fun w _ => laidMetH Tryd.prog [("tithing/sha.constants", Rows.laid_tithing_sha_constants)] w) false (World.doorLaid Tryd.prog 400 os) #[.agg (at3c atZ atZ atZ), .int .i64 0, .agg (fcells 32 fun _ => bcell 0)] 8 rfl (World.shaped_of_RefB (by kernel_rfl) (by kernel_rfl)) (by kernel_rfl) (by kernel_rfl) (by kernel_rfl) (door_one os _)) ?_
  intro W base args ds gs before hval0 hW _ _ hL _
  have hval : ∀ (j : Nat) t v, Tryd.f5.params[j]? = some t → args[j]? = some v → Value.okWide Tryd.prog W .any base t v := hval0
  have hW' := hW
  obtain ⟨p, q, hA0, hV, rfl, hfz, hnd⟩ := hW
  have hA : DataW.TrodAll enc Tryd.prog W 0 (fun _ => true) true Tryd.f5.params.toList args.toList ds p := hA0
  rw [Tryd.params5] at hA hval
  obtain ⟨v0, vs0, d0, ds0, p0, q0, hargs, rfl, rfl, h0, r0⟩ := trodAll_cons hA
  obtain ⟨v1, vs1, d1, ds1, p1, q1, rfl, rfl, rfl, h1, r1⟩ := trodAll_cons r0
  obtain ⟨v2, vs2, d2, ds2, p2, q2, rfl, rfl, rfl, h2, r2⟩ := trodAll_cons r1
  obtain ⟨rfl, rfl, rfl⟩ := trodAll_nil r2
  obtain rfl : args = #[v0, v1, v2] := by cases args; simp_all
  obtain ⟨rfl, rfl⟩ := trodVars_none hV
  obtain ⟨cs0, rfl, _⟩ := okWide_arr' under_at3 (hval 0 43 v0 rfl rfl)
  have k0 := h0
  have lt0 : ∀ x ∈ p0, x.block < W.heap.size := by obtain ⟨m, hm⟩ := k0; exact DataW.trod_lt m _ _ _ hm
  obtain ⟨a0, b0, c0, ho0, e0⟩ : ∃ a b c : AtM, (a.Ok ∧ b.Ok ∧ c.Ok) ∧ cs0 = at3c a b c := by
    obtain ⟨fuel, hf⟩ := h0
    obtain ⟨a0, b0, c0, ho0, e⟩ := trod_at3 hf
    exact ⟨a0, b0, c0, ho0, Array.ext' (by simpa [Value.cells] using e)⟩
  subst e0
  have k1 := h1
  have lt1 : ∀ x ∈ p1, x.block < W.heap.size := by obtain ⟨m, hm⟩ := k1; exact DataW.trod_lt m _ _ _ hm
  obtain ⟨n1, rfl, rfl, rfl, hw1⟩ := open_int Tryd.underlying3 (hval 1 3 v1 rfl rfl) h1
  obtain ⟨cs2, rfl, _⟩ := okWide_arr' arrH.under (hval 2 23 v2 rfl rfl)
  have k2 := h2
  have lt2 : ∀ x ∈ p2, x.block < W.heap.size := by obtain ⟨m, hm⟩ := k2; exact DataW.trod_lt m _ _ _ hm
  obtain ⟨f2, e2⟩ : ∃ f : Nat → UInt8, cs2 = fcells 32 fun j => bcell (f j) := by
    obtain ⟨fuel, hf⟩ := h2
    obtain ⟨hl, hc⟩ := open_arr arrH.under Tryd.underlying5 arrH.ecells (by kernel_rfl) hf
    obtain ⟨f, e⟩ := bytes_of hl hc
    exact ⟨f, Array.ext' (by simpa [Value.cells] using e)⟩
  subst e2
  clear hA0 hval0
  refine (lawAttAlikes_all a0 b0 c0 n1 f2 W ho0 hw1 (one_met hL)).mono fun e W' ⟨he, bel⟩ => ?_
  subst he
  exact ⟨_, rfl, _, _, _, [], _, [], hW', trodAll_mk1 (shut_bool Tryd.underlying4 _), (trodAll_cons_mk (Below.trod laidOut (by kernel_rfl) (of_decide_eq_true (by kernel_rfl)) k0 bel lt0) (trodAll_cons_mk (Below.trod laidOut (by kernel_rfl) (of_decide_eq_true (by kernel_rfl)) k1 bel lt1) (trodAll_cons_mk (Below.trod laidOut (by kernel_rfl) (of_decide_eq_true (by kernel_rfl)) k2 bel lt2) trodAll_mk0))), rfl, bel.frame _, fun h => by cases h⟩

theorem attAlikes_over : Rows.AttAlikesSaid :=
  OpenClaim.holds_of_wide 5 Tryd.f5 rfl rfl rfl rfl rfl rfl rfl ⟨rfl, rfl, rfl, rfl, rfl⟩ rfl rfl rfl rfl rfl (by kernel_rfl) Tryd.func5 (by kernel_rfl)
    (of_decide_eq_true (by kernel_rfl)) (by unfold Func.isWrapper; first | (rw [if_pos (by decide +kernel)]; kernel_rfl) | (rw [if_neg (by decide +kernel)]; exact ⟨rfl, rfl⟩))
    (fun os started H enc _ => attAlikes_lifted os started H enc)

theorem attAlikes_holds : Rows.AttAlikesCardSaid :=
  Claim7.holds_tied_plain_at .later [] [.data] true Rows.attAlikesCard.stood.harness false
    attAlikes_over (fun _ h => by cases h) (by kernel_rfl) (fun _ h => by cases h) attAlikes_row_tie rfl ⟨rfl, rfl⟩ (by kernel_rfl) rfl
    (fun f fn hf hfn => by
      obtain rfl : f = 5 := Option.some.inj ((show Tryd.prog.funcNamed "tithing/tithinglaw08.AttAlikes" = some 5 by kernel_rfl).symm.trans hf) |>.symm
      obtain rfl : fn = Tryd.f5 := (Option.some.inj (Tryd.func5.symm.trans hfn)).symm
      exact ⟨by kernel_rfl, fun j t ht => by
        rw [Tryd.params5] at ht
        have hm : t ∈ [43, 3, 23] := by simpa using Array.mem_of_getElem? ht
        have hall : ([43, 3, 23].all fun u => !Tryd.prog.wantsStandIn u) = true := by kernel_rfl
        exact (show Tryd.prog.wantsStandIn t = false by simpa using List.all_eq_true.1 hall t hm)⟩)
    (by kernel_rfl)
#print axioms attAlikes_holds
end Go.Proofs.YtmhchihcgliinaaDoor
