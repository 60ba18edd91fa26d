/-
  octet.Hash puts a hash's bytes behind others; octet's readers read a hash.
-/
import Derived.Test.YtggonealcpbonaaNumber
import Derived.Test.YtggonealcpbonaaArr
import Derived.StillTailTactics
namespace Go.Proofs.Ytggonealcpbonaa
open Go.RowKit

set_option maxHeartbeats 1600000 in
theorem rhash_nil (w : World) : Calls Try.prog 19 #[.pointer none] w fun e w' => e = .returned (.agg (hcells nought)) ∧ Below w.heap.size w w' := by
  go_enter Try.func19, Try.ntmps19
  go_wp2_with (refine wpList_alloc_hash rfl rfl ?_)
  refine (wrong_nil _).mono ?_
  rintro e w' ⟨rfl, rfl⟩
  go_wp2_with (first
    | (refine wpList_load_hash rfl _ rfl rfl (heap_alloc2_new _ _ _) nought_length ?_)
    | (refine wpList_store_hash rfl _ _ rfl rfl rfl (heap_alloc2_old _ _ _) nought_length nought_length ?_; intro w2 hg2 H2 hs2))
  refine bodyPost_ret (results_cell_row rfl _ _ w.heap.size _ (hcells nought) (0, 0) _ rfl H2.out under_hash rfl (by rw [size_hash, hcells_size, nought_length])) rfl ⟨rfl, ?_⟩
  exact (((Below.refl _ _).alloc (Nat.le_refl _) _).alloc (by simp) _).grown hg2 (by simp; omega) (fun k hk => by injection hk; omega)
end Go.Proofs.Ytggonealcpbonaa
