/-
  slices.SortFunc by place: a slice of the call's own holds then its attestations in order.
-/
import Derived.Shelf.SlSortCmp.NoneTotal
import Derived.Test.YtpnejoglkmfleaaGreatDoorGaBy
import Derived.Test.YtpnejoglkmfleaaGreatDoorGaMem
import Derived.Test.YtpnejoglkmfleaaGreatDoorGaSortLay
namespace Go.Proofs.YtpnejoglkmfleaaGreatDoor
set_option maxRecDepth 20000
open Go.RowKit Go.Sort Go.Shelf
noncomputable def nrmA (a : AtM) : AtM := @ite _ a.Ok (Classical.propDecidable _) a atZ
theorem nrmA_ok (a : AtM) : (nrmA a).Ok := by
  unfold nrmA
  split
  · assumption
  · exact atZ_ok
theorem nrmA_of {a : AtM} (h : a.Ok) : nrmA a = a := by
  unfold nrmA
  exact if_pos h
noncomputable def encA (a : AtM) : List Value := atl (nrmA a)
noncomputable def cfA (a b : AtM) : Int := cmpA (nrmA a) (nrmA b)
theorem ltOf_cfA (a b : AtM) : ltOf cfA a b = aheadA (nrmA a) (nrmA b) := cmpA_ahead _ _
theorem swoA : SWO (ltOf cfA) where
  irrefl x := by rw [ltOf_cfA]; exact aheadA_irr _
  trans x y z h1 h2 := by
    rw [ltOf_cfA] at *
    exact aheadA_trans h1 h2
  ntrans x y z h1 h2 := by
    rw [ltOf_cfA, Bool.eq_false_iff, Ne, aheadA_iff] at *
    omega
instance inhAtM : Inhabited AtM := ⟨atZ⟩
theorem encA_len (a : AtM) : (encA a).length = 101 := atl_length (nrmA_ok a)
theorem laysA (blk off size : Nat) (w : World) : CmpLays Tryz.prog 31 #[] encA 101 cfA blk off size w := fun _ _ _ _ x y => gaBy_any (nrmA x) (nrmA y) _
theorem flatA {L : List AtM} (ho : ∀ a ∈ L, a.Ok) : (flatK encA 101 L.toArray).toList = (L.map atl).flatten := by
  have hl := eltAt.ecs_length ho
  apply List.ext_getElem?
  intro t
  by_cases ht : t < L.length * 101
  · have hj : t / 101 < L.length := (Nat.div_lt_iff_lt_mul (by omega)).2 ht
    have e := eltAt.ecs_at ho hj (Nat.mod_lt t (by omega : 101 > 0))
    rw [Nat.div_add_mod' t 101] at e
    have hok := ho _ (List.getElem_mem hj)
    have hm : t % 101 < (atl L[t / 101]).length := by rw [atl_length hok]; exact Nat.mod_lt t (by omega)
    rw [e, List.getElem?_eq_getElem hm, Array.getElem?_toList]
    unfold flatK
    rw [Array.getElem?_map, Array.getElem?_range]
    rw [if_pos (by simpa using ht)]
    simp only [Option.map_some]
    congr 1
    have e1 : L.toArray[t / 101]! = L[t / 101] := by simp [hj]
    rw [e1]
    unfold encA
    rw [nrmA_of hok]
    exact getElem!_pos (atl L[t / 101]) (t % 101) hm
  · rw [List.getElem?_eq_none (by rw [Array.length_toList, size_flatK]; simpa using ht), List.getElem?_eq_none (by rw [hl]; omega)]
theorem holdsA {w : World} {g : Nat} {cur : Array Value} {L : List AtM} (ho : ∀ a ∈ L, a.Ok) (hb : w.heap[g]? = some (.cells cur 36 (0, 0))) (ht : cur.toList.take (L.length * 101) = (L.map atl).flatten) : HoldsK encA 101 w g 0 L.toArray := by
  intro j hj
  have hj' : j < L.length * 101 := by simpa [size_flatK] using hj
  refine ⟨?_, by simp [World.frozen?, hb]⟩
  have h1 : (flatK encA 101 L.toArray).toList[j]? = cur[j]? := by
    rw [flatA ho, ← ht, List.getElem?_take_of_lt hj', Array.getElem?_toList]
  rw [Nat.zero_add, cell_blk hb j, ← h1, Array.getElem?_toList, Array.getElem?_eq_getElem hj]
  congr 1
  exact (getElem!_pos (flatK encA 101 L.toArray) j hj).symm
theorem heapA_sorted {w : World} {g n : Nat} {os : Array Obj} {cur : Array Value} {e : TypeId} {fr : Nat × Nat} (d : Array Value) (hb : w.heap[g]? = some (.cells cur e fr)) :
    (grow (putRow id (Sort.ahead w n) g 0 d) os).heap[g]? = some (.cells (putCells id 0 d cur) e fr) := by
  have hg : g < w.heap.size := (Array.getElem?_eq_some_iff.1 hb).1
  rw [heap_grow_old _ _ (by simpa using hg)]
  simp [putRow, mapBlock, Sort.ahead, Array.getElem?_modify, hb, onCells]
theorem grownA_sorted {w : World} {g n : Nat} {os : Array Obj} (d : Array Value) : w.grownBy (grow (putRow id (Sort.ahead w n) g 0 d) os) (some g) := by
  refine ⟨rfl, rfl, rfl, by simp, fun k hk hne => ?_⟩
  rw [heap_grow_old _ _ (by simpa using hk)]
  have : g ≠ k := fun e => hne (by rw [e])
  simp [putRow, mapBlock, Sort.ahead, Array.getElem?_modify, this]
theorem take_putA (cur F : Array Value) (h : F.size ≤ cur.size) : (putCells id 0 F cur).toList.take F.size = F.toList := by
  apply List.ext_getElem?
  intro j
  by_cases hj : j < F.size
  · rw [List.getElem?_take_of_lt hj, Array.getElem?_toList, Array.getElem?_toList]
    simp [putCells, hj, show j < cur.size by omega]
  · rw [List.getElem?_take_eq_none (by omega), List.getElem?_eq_none (by simp; omega)]
theorem sorted_is {L M : List AtM} {d : Array AtM} (hs : SortG L) (hp : M.Perm L) (ho : ∀ a ∈ L, a.Ok) (h1 : PermIn 0 M.toArray.size M.toArray d) (h2 : SortedIn (ltOf cfA) 0 M.toArray.size d) : d.toList = L := by
  obtain ⟨e1, _, e3⟩ := h1
  have hq : d.toList.Perm L := by
    have a1 : d.extract 0 M.toArray.size = d := by rw [← e1]; exact Array.extract_size
    have a2 : M.toArray.extract 0 M.toArray.size = M.toArray := Array.extract_size
    rw [a1, a2] at e3
    exact e3.trans hp
  have hk : L.Pairwise (fun a b => keyA a b = false) := hs.imp (fun h => key_ahead h)
  have hk2 : d.toList.Pairwise (fun a b => keyA a b = false) := hk.perm hq.symm (fun h => by rw [keyA_comm]; exact h)
  refine sortG_ext ?_ hs (fun x => hq.mem_iff)
  rw [SortG, List.pairwise_iff_getElem]
  intro i j hi hj hij
  have hk3 := List.pairwise_iff_getElem.1 hk2 i j hi hj hij
  have hsz : M.toArray.size = d.toList.length := by rw [Array.length_toList, e1]
  have h3 := h2 i j (Nat.zero_le _) hij (by rw [hsz]; exact hj)
  rw [ltOf_cfA] at h3
  have hi' : i < d.size := by simpa using hi
  have hj' : j < d.size := by simpa using hj
  rw [getElem!_pos d i hi', getElem!_pos d j hj'] at h3
  have o1 : d[i].Ok := ho _ (hq.subset (by simp))
  have o2 : d[j].Ok := ho _ (hq.subset (by simp))
  rw [nrmA_of o1, nrmA_of o2] at h3
  rw [Array.getElem_toList, Array.getElem_toList] at hk3 ⊢
  exact (aheadA_total hk3).resolve_right (by rw [h3]; decide)
set_option maxHeartbeats 1600000 in
theorem gaSort_any {B : Nat} {w : World} {v : Value} {L M : List AtM} (hv : OwnE atl 101 36 B w v M) (hs : SortG L) (hp : M.Perm L) (ho : ∀ a ∈ L, a.Ok) (hl : L.length ≤ 1000) :
    Calls Tryz.prog 43 #[v, .func (.func 31) #[] #[]] w fun e w' => e = .returned (.tuple #[]) ∧ OwnE atl 101 36 B w' v L ∧ w.grownBy w' v.ownBlock := by
  have hoM : ∀ a ∈ M, a.Ok := fun a h => ho a (hp.subset h)
  rcases hv.2 with ⟨rfl, h0⟩ | ⟨g, cap, cur, rfl, hB, hb, hn, hm, hsz, ht⟩
  · have hM : M = [] := List.eq_nil_of_length_eq_zero h0
    subst hM
    have hL : L = [] := hp.nil_eq.symm
    subst hL
    refine (AnyF.slices_SortFunc_none gaSortLaid none 0 _ w).mono ?_
    rintro e w' ⟨rfl, rfl⟩
    exact ⟨rfl, hv, World.grownBy.refl _ _⟩
  · have eg : ∀ args w, (callFunc 31 args).run Tryz.prog w = .ok (.enter 31 args) w := enters_of Tryz.func31 (by kernel_rfl) rfl
    have hc := AnyQ.slices_SortFunc gaSortLaid 101 Tryz.isAgg36 Tryz.sizeOf36 encA encA_len (fun x v hv => atl_one _ v hv) cfA swoA 31 #[] g 0 cap M.toArray w eg (laysA g 0 _ w) (holdsA hoM hb ht) (lt_of_block hb) (by have := hp.length_eq; simp only [List.size_toArray]; omega)
    simp only [List.size_toArray] at hc
    refine hc.mono ?_
    rintro e w' ⟨rfl, d, n, os, h1, h2, rfl⟩
    have hd := sorted_is hs hp ho (by simpa using h1) (by simpa using h2)
    have hd2 : d = L.toArray := by rw [← hd]
    subst hd2
    refine ⟨rfl, ⟨?_, .inr ⟨g, cap, _, ?_, hB, heapA_sorted _ hb, ?_, hm, ?_, ?_⟩⟩, grownA_sorted _⟩
    · exact eltAt.ecs_length ho
    · rw [hp.length_eq]
    · rw [← hp.length_eq]; exact hn
    · simp [putCells, hsz]
    · have hz : (flatK encA 101 L.toArray).size = L.length * 101 := by rw [size_flatK]; simp
      rw [← hz, take_putA _ _ (by rw [hz, hsz, ← hp.length_eq]; exact Nat.mul_le_mul_right _ hn), flatA ho]
end Go.Proofs.YtpnejoglkmfleaaGreatDoor
