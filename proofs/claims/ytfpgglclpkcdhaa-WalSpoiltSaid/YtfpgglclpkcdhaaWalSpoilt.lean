/-
  'tithinglaw19.WalSpoilt' returns true whatever comes in, and leaves it as it was. No condition.
-/
import Derived.Test.YtfpgglclpkcdhaaWaLawS
namespace Go.Proofs.Ytfpgglclpkcdhaa
set_option maxRecDepth 20000
open Go.ChangeShapes Go.WideShapes Go.ChangeAt Go.RowKit
set_option maxRecDepth 100000 in
theorem walSpoilt_lifted (os:Os) (started:os.Started) (H:Type) (enc:TypeId × Value→H):
  ReturnsInHanded {} Try.checked os 5 .any (Rows.walSpoiltSpec.pre6 enc Try.prog Try.f5 Rows.walSpoiltRow.domain false) (Rows.walSpoiltSpec.post enc Try.prog Try.f5 false true false false):=by
 refine returnsInHanded_of_change (C:=Try.checked) ownKnob_none started (by kernel_rfl) Try.func5
  (ChangeSpec.witness6 (enc:=enc) (C:=Try.checked) false ⟨#[],#[.slice none 0 0,.agg (tnc tnZ)],[]⟩ 8 (by kernel_rfl) (by kernel_rfl) (by kernel_rfl) (by kernel_rfl)) ?_
 intro W base args ds gs before hval0 hW hcnd _
 have hval:∀ (j:Nat) t v,Try.f5.params[j]?=some t→args[j]?=some v→Value.okWide Try.prog W .any base t v:=hval0
 have hW':=hW
 obtain ⟨p,q,hA0,hV,rfl,hfz,hnd⟩:=hW
 have hA:DataW.TrodAll enc Try.prog W 0 (fun _=>true) true Try.f5.params.toList args.toList ds p:=hA0
 rw [Try.params5] at hA hval
 obtain ⟨v0,vs0,d0,ds0,p0,q0,hargs,rfl,rfl,h0,r0⟩:=trodAll_cons hA
 obtain ⟨v1,vs1,d1,ds1,p1,q1,rfl,rfl,rfl,h1,r1⟩:=trodAll_cons r0
 obtain ⟨rfl,rfl,rfl⟩:=trodAll_nil r1
 obtain rfl:args=#[v0,v1]:=by cases args;simp_all
 obtain ⟨rfl,rfl⟩:=trodVars_none hV
 obtain ⟨a0,len0,cap0,rfl⟩:=okWide_slice Try.underlying30 (hval 0 30 v0 rfl rfl)
 have k0:=h0
 have lt0:∀ x ∈ p0,x.block < W.heap.size:=by obtain ⟨m,hm⟩:=k0;exact DataW.trod_lt m _ _ _ hm
 obtain ⟨l0,hv0,hb0⟩:∃ l:List BtM,Els btl 1 W (.slice a0 len0 cap0) l∧Bts W l:=by
  obtain ⟨fuel,hf⟩:=h0
  obtain ⟨v,L,e,hv,hL⟩:=trod_bts hf
  simp [Value.cells] at e
  subst e
  exact ⟨L,hv,hL⟩
 obtain ⟨cs1,rfl,_⟩:=okWide_struct Try.underlying60 (hval 1 60 v1 rfl rfl)
 have k1:=h1
 have lt1:∀ x ∈ p1,x.block < W.heap.size:=by obtain ⟨m,hm⟩:=k1;exact DataW.trod_lt m _ _ _ hm
 obtain ⟨x1,ho1,e1⟩:∃ x:TnM,TnOk x∧cs1=tnc x:=by
  obtain ⟨fuel,hf⟩:=h1
  obtain ⟨x1,ho1,e⟩:=trod_tn hf
  exact ⟨x1,ho1,Array.ext' (by simpa [Value.cells] using e)⟩
 subst e1
 clear hA0 hval0
 refine (lawWalSpoilt_all _ l0 x1 W hv0 hb0 ho1).mono fun e W' ⟨he,bel⟩=>?_
 subst he
 exact ⟨_,rfl,_,_,_,[],_,[],hW',trodAll_mk1 (shut_bool Try.underlying4 _),(trodAll_cons_mk (Below.trod laidOut (by kernel_rfl) (of_decide_eq_true (by kernel_rfl)) k0 bel lt0) (trodAll_cons_mk (Below.trod laidOut (by kernel_rfl) (of_decide_eq_true (by kernel_rfl)) k1 bel lt1) trodAll_mk0)),rfl,bel.frame _,fun h=>by cases h⟩
theorem walSpoilt_over:Rows.walSpoiltRow.holds Try.pinned (OpenSpec.ofChange Rows.walSpoiltSpec):=
 OpenClaim.holds_of_wide 5 Try.f5 rfl rfl rfl rfl rfl rfl rfl ⟨rfl,rfl,rfl,rfl,rfl⟩ rfl rfl rfl rfl rfl (by kernel_rfl) Try.func5 (by kernel_rfl)
  (of_decide_eq_true (by kernel_rfl)) (by unfold Func.isWrapper;first | (rw [if_pos (by decide +kernel)];kernel_rfl) | (rw [if_neg (by decide +kernel)];exact ⟨rfl,rfl⟩))
  (fun os started H enc _=>walSpoilt_lifted os started H enc)
theorem walSpoilt_holds:Rows.WalSpoiltSaid:=walSpoilt_over
#print axioms walSpoilt_holds
end Go.Proofs.Ytfpgglclpkcdhaa
