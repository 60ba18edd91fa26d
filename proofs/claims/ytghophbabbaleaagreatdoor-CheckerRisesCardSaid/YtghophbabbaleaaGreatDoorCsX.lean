/-
  What the groups lack.
-/
import Derived.Test.YtghophbabbaleaaGreatDoorCs1
import Derived.Test.YtghophbabbaleaaGreatDoorCs2
import Derived.Test.YtghophbabbaleaaGreatDoorCs3
import Derived.Test.YtghophbabbaleaaGreatDoorCs4
import Derived.Test.YtghophbabbaleaaGreatDoorCs5
import Derived.Test.YtghophbabbaleaaGreatDoorCs6
import Derived.Test.YtghophbabbaleaaGreatDoorCs7
import Derived.Test.YtghophbabbaleaaGreatDoorCs8
import Derived.Test.YtghophbabbaleaaGreatDoorCs9
import Derived.Test.YtghophbabbaleaaGreatDoorCs10
import Derived.Test.YtghophbabbaleaaGreatDoorCs11
import Derived.Test.YtghophbabbaleaaGreatDoorCs12
import Derived.Test.YtghophbabbaleaaGreatDoorCs13
import Derived.Test.YtghophbabbaleaaGreatDoorCs14
import Derived.Test.YtghophbabbaleaaGreatDoorCs15
import Derived.Test.YtghophbabbaleaaGreatDoorCs16
import Derived.Test.YtghophbabbaleaaGreatDoorCs17
import Derived.Test.YtghophbabbaleaaGreatDoorCs18
import Derived.BigRegion
import Derived.RegionTactic
import Derived.Great.BuildSlice
import Derived.OpenShut
import Derived.Stop.LaidErr
namespace Go.Proofs.YtghophbabbaleaaGreatDoor
set_option maxRecDepth 20000
open Go.RowKit
noncomputable def storeH (p v : Value) (w : World) : Result Next := Sem.run Tryz.prog (execOp (fun x => match x with
  | .tmp 0 => p
  | _ => v) { dst := none, op := .store 38 (.tmp 0) (.tmp 1), type := 0, pos := "", after := #[], guard := none }) w
theorem exec_store_hash (r : Operand → Value) (x y : Operand) (dst : Option Tmp) (ty : TypeId) (pos : String) (after : Array Edge) (guard : Option (Nat × Bool)) (w : World) :
    Sem.run Tryz.prog (execOp r { dst := dst, op := .store 38 x y, type := ty, pos := pos, after := after, guard := guard }) w = storeH (r x) (r y) w := rfl
attribute [local go_sem ↓] exec_load_hash exec_store_hash
end Go.Proofs.YtghophbabbaleaaGreatDoor
namespace Go.Proofs.YtghophbabbaleaaGreatDoor
set_option maxRecDepth 20000
open Go.ChangeShapes Go.WideShapes Go.ChangeAt Go.RowKit
theorem door_two (os : Os) (args : Array Value) : laidMetH Tryz.prog [("tithing/sha.constants", Rows.laid_tithing_sha_constants), ("tithing/tithingref02.constants", Rows.laid_tithing_tithingref02_constants)] ((World.doorLaid Tryz.prog 400 os).forCall (fun _ _ => 0) ⟨#[], args, []⟩).memory :=
  laidMetH_of_parts3 (fuel := 8) (laidMet_of_run' 8 (by kernel_rfl) (by kernel_rfl)) (by kernel_rfl) (by kernel_rfl)
end Go.Proofs.YtghophbabbaleaaGreatDoor
namespace Go.Proofs.YtghophbabbaleaaGreatDoor
set_option maxRecDepth 20000
open Go.RowKit
theorem atl_ha (a : AtM) : atl a = [.int .i64 a.bo, .int .i64 a.ki, .int .i64 a.vi, .int .i64 a.ph] ++ (bcells a.ha ++ ([.int .i64 a.pv] ++ (bcells a.pa ++ bcells a.tg))) := rfl
theorem atl_pa (a : AtM) : atl a = ([.int .i64 a.bo, .int .i64 a.ki, .int .i64 a.vi, .int .i64 a.ph] ++ (bcells a.ha ++ [.int .i64 a.pv])) ++ (bcells a.pa ++ bcells a.tg) := by
  unfold atl
  simp only [List.append_assoc]
theorem atl_pv (a : AtM) : atl a = ([.int .i64 a.bo, .int .i64 a.ki, .int .i64 a.vi, .int .i64 a.ph] ++ bcells a.ha) ++ (.int .i64 a.pv :: (bcells a.pa ++ bcells a.tg)) := by
  unfold atl
  simp only [List.cons_append, List.nil_append]
theorem atc_pv {a : AtM} (h : a.Ok) (n : Int) : (atc a).setIfInBounds 36 (.int .i64 n) = atc { a with pv := n } := by
  have hl : ([.int .i64 a.bo, .int .i64 a.ki, .int .i64 a.vi, .int .i64 a.ph] ++ bcells a.ha : List Value).length = 36 := by simp only [List.length_append, bcells_length, h.ha, List.length_cons, List.length_nil]
  unfold atc
  rw [List.setIfInBounds_toArray, atl_pv, atl_pv, List.set_append_right _ _ (by omega), hl]
  rfl
end Go.Proofs.YtghophbabbaleaaGreatDoor
namespace Go.Proofs.YtghophbabbaleaaGreatDoor
set_option maxRecDepth 20000
open Go.RowKit
theorem fold_putSgO : ∀ (vs : List Value) (k o : Nat) (C : Array Value), (vs.zipIdx k).foldl (fun cs x => cs.setIfInBounds (o + x.2) x.1) C = putAt C (o + k) vs
  | [], _, _, _ => rfl
  | v :: r, k, o, C => by
    simp only [List.zipIdx_cons, List.foldl_cons]
    rw [fold_putSgO r (k + 1) o]
    rfl
end Go.Proofs.YtghophbabbaleaaGreatDoor
namespace Go.Proofs.YtghophbabbaleaaGreatDoor
set_option maxRecDepth 20000
def ctZ : CtM := ⟨atZ, []⟩
theorem ctZ_ok : ctZ.Ok := ⟨atZ_ok, fun s hs => absurd hs (by simp [ctZ])⟩
end Go.Proofs.YtghophbabbaleaaGreatDoor
namespace Go.Proofs.YtghophbabbaleaaGreatDoor
set_option maxRecDepth 20000
def acZ : AcM := ⟨0, 0, 0, z32, [], z32⟩
theorem acZ_ok : acZ.Ok := ⟨rfl, rfl⟩
end Go.Proofs.YtghophbabbaleaaGreatDoor
namespace Go.Proofs.YtghophbabbaleaaGreatDoor
set_option maxRecDepth 20000
open Go.RowKit
theorem axc_35 {a : AcM} (s : Value) (ho : a.Ok) : (axc a s)[35]? = some s := by
  unfold axc
  rw [List.getElem?_toArray, axl_pre, List.getElem?_append_right (by simp), List.getElem?_append_right (by rw [bcells_length, ho.pa]; simp)]
  rw [bcells_length, ho.pa]
  rfl
end Go.Proofs.YtghophbabbaleaaGreatDoor
