/-
  maps.Values over a gatherer's map: its iterator, for every loop body.
-/
import Derived.LoopIn
import Derived.LoopNIn
import Derived.OwnWalkIn
import Derived.RangeFuncBound
import Derived.RangeFuncCalls
import Derived.RangeFuncLeaves
import Derived.RangeFuncNested
import Derived.Shelf.Abstract
import Derived.TacticsInMore
import Derived.Test.YtpnejoglkmfleaaGreatDoorGaNext
import Derived.Test.YtpnejoglkmfleaaGreatDoorGaSort
namespace Go.Proofs.YtpnejoglkmfleaaGreatDoor
set_option maxRecDepth 20000
open Go.RowKit Go.Shelf
theorem semAt_load_att (R : Option Nat) (r : Operand → Value) (x : Operand) (dst : Option Tmp) (ty : TypeId) (pos : String) (after : Array Edge) (guard : Option (Nat × Bool)) (w : World) :
    Sem.run Tryz.prog (Oper.semAt R r { dst := dst, op := .load 36 x, type := ty, pos := pos, after := after, guard := guard }) w = loadAtt (r x) w := by cases R <;> rfl
theorem semAt_alloc_att (R : Option Nat) (r : Operand → Value) (dst : Option Tmp) (ty : TypeId) (pos : String) (after : Array Edge) (guard : Option (Nat × Bool)) (w : World) :
    Sem.run Tryz.prog (Oper.semAt R r { dst := dst, op := .alloc 36, type := ty, pos := pos, after := after, guard := guard }) w = allocAtt w := by cases R <;> rfl
theorem semAt_store_att (R : Option Nat) (r : Operand → Value) (x y : Operand) (dst : Option Tmp) (ty : TypeId) (pos : String) (after : Array Edge) (guard : Option (Nat × Bool)) (w : World) :
    Sem.run Tryz.prog (Oper.semAt R r { dst := dst, op := .store 36 x y, type := ty, pos := pos, after := after, guard := guard }) w = storeAtt (r x) (r y) w := by cases R <;> rfl
attribute [local go_sem ↓] semAt_load_att semAt_alloc_att semAt_store_att
def seenG (w : World) (r : Nat) : Nat := match w.heap[r]? with
  | some (.mapIter _ _ seen _) => seen.size
  | _ => 0
theorem attVar_eq (w : World) {C : Array Value} (hC : C.size = 101) (h1 : C.all (·.oneCell') = true) :
    storeAtt (.pointer (some ⟨w.heap.size, 0, none⟩)) (.agg C) (w.alloc (.cells (atc atZ) 36)) = .ok .skip (w.alloc (.cells C 36)) := by
  rw [storeAtt_eq (heap_alloc_new w _) (atc_size atZ_ok) hC h1]
  exact congrArg (fun W => Result.ok Next.skip W) (setCt_alloc w _ _ C)
theorem nodup_of_snd {P : List (AtM × Nat)} (h : (P.map (·.2)).Nodup) : P.Nodup := by
  unfold List.Nodup at h ⊢
  rw [List.pairwise_map] at h
  exact h.imp (fun h e => h (by rw [e]))
structure SeenG (P ps : List (AtM × Nat)) (seen : Array Nat) : Prop where
  marks : seen.toList = ps.map (·.2)
  sub : ∀ p ∈ ps, p ∈ P
  nd : (ps.map (·.2)).Nodup
theorem SeenG.start (P : List (AtM × Nat)) : SeenG P [] #[] := ⟨rfl, fun p h => absurd h (by simp), by simp⟩
theorem SeenG.step {P ps : List (AtM × Nat)} {seen : Array Nat} (h : SeenG P ps seen) {p : AtM × Nat} (hp : p ∈ P) (hn : p.2 ∉ seen) : SeenG P (ps ++ [p]) (seen.push p.2) := by
  refine ⟨by rw [Array.toList_push, h.marks, List.map_append]; rfl, fun q hq => ?_, ?_⟩
  · rcases List.mem_append.1 hq with hq | hq
    · exact h.sub q hq
    · obtain rfl := List.mem_singleton.1 hq
      exact hp
  · rw [List.map_append, List.nodup_append]
    refine ⟨h.nd, by simp, fun x hx y hy => ?_⟩
    obtain rfl : y = p.2 := by simpa using hy
    rintro rfl
    exact hn (by rw [← Array.mem_toList_iff, h.marks]; exact hx)
theorem SeenG.le {P ps : List (AtM × Nat)} {seen : Array Nat} (h : SeenG P ps seen) : ps.length ≤ P.length := List.Nodup.length_le_of_subset (nodup_of_snd h.nd) h.sub
theorem SeenG.size {P ps : List (AtM × Nat)} {seen : Array Nat} (h : SeenG P ps seen) : seen.size = ps.length := by
  rw [← Array.length_toList, h.marks, List.length_map]
theorem SeenG.all {P ps : List (AtM × Nat)} {seen : Array Nat} (h : SeenG P ps seen) (hnd : (P.map (·.2)).Nodup) (ha : ∀ p ∈ P, p.2 ∈ seen) : ps.Perm P := by
  rw [List.perm_ext_iff_of_nodup (nodup_of_snd h.nd) (nodup_of_snd hnd)]
  refine fun p => ⟨h.sub p, fun hp => ?_⟩
  have := ha p hp
  rw [← Array.mem_toList_iff, h.marks] at this
  obtain ⟨q, hq, e⟩ := List.mem_map.1 this
  rw [← snd_inj hnd (h.sub q hq) hp e]
  exact hq
set_option maxHeartbeats 3200000 in
theorem gaVals1_in (F : Fence) (n : Nat) (hf : F.fn 44) (hro : F.round = none) (hn : 1 ≤ n) (l Bm m c : Nat) (P : List (AtM × Nat)) (J Jx : List AtM → World → Prop)
    (hok : ∀ p ∈ P, p.1.Ok) (hnd : (P.map (·.2)).Nodup) (hlt : ∀ p ∈ P, p.2 < c)
    (hY : ∀ pre x W, J pre W → pre.length < P.length → YieldAt F (n - 1) Tryz.prog l #[.agg (atc (nrmA x))] W fun e W' => (e = .returned (.bool true) ∧ J (pre ++ [x]) W' ∧ KeepsWalks W W') ∨ (e = .returned (.bool false) ∧ Jx (pre ++ [x]) W'))
    (W : World) (hJ : AbidesFrom W.heap.size J) (hm : W.cell? ⟨Bm, 0, none⟩ = some (.map (some m))) (hq : W.heap[m]? = some (mapG P c)) (h0 : J [] W) :
    CallsIn F n Tryz.prog 44 #[.func (.yield l) #[] #[], .pointer (some ⟨Bm, 0, none⟩)] W fun e W' => (∃ v, e = .returned v) ∧ ((∃ xs : List AtM, xs.Perm (P.map (·.1)) ∧ J xs W') ∨ ∃ pre, Jx pre W') := by
  refine callsIn_of_wp Tryz.func44 rfl hf ?_ hro
  simp only [Tryz.ntmps44, List.size_toArray, List.length_cons, List.length_nil, Nat.reduceAdd, Nat.reduceSub, Array.replicate_succ, Array.replicate_zero, List.push_toArray, List.append_toArray, List.nil_append, List.cons_append]
  have hrange := range_any hq
  have HP := hid (And.intro hok (And.intro hnd hlt))
  have HI0 : Hid ((W.alloc (.mapIter (some m) c #[] c)).heap[W.heap.size]? = some (.mapIter (some m) c #[] c)) := hid (heap_alloc_new W _)
  have HM0 : Hid ((W.alloc (.mapIter (some m) c #[] c)).heap[m]? = some (mapG P c)) := hid ((Below.heap_alloc W _ m (Array.getElem?_eq_some_iff.1 hq).1).trans hq)
  have HJ0 : Hid (J [] (W.alloc (.mapIter (some m) c #[] c))) := hid (hJ [] W _ none h0 (World.grownBy_alloc W _ none) (fun r e => by cases e))
  clear hq hok hnd hlt h0
  gi_wp2
  gi_loopw [4] (fun _ wr => Hid (∃ (ps : List (AtM × Nat)) (seen : Array Nat), wr.heap[W.heap.size]? = some (.mapIter (some m) c seen c) ∧ wr.heap[m]? = some (mapG P c) ∧ SeenG P ps seen ∧ J (ps.map (·.1)) wr ∧ W.heap.size ≤ wr.heap.size))
    (fun _ wr => P.length - seenG wr W.heap.size)
  case atStart => exact hid ⟨[], #[], HI0.out, HM0.out, SeenG.start P, HJ0.out, by simp⟩
  case round =>
    obtain ⟨ps, seen, hi, hm2, hse, hJs, hsz⟩ := hrel.out
    clear hrel
    have HSE := hid hse
    have HSZ := hid hsz
    rcases next_any hi hm2 HP.out.2.1 HP.out.2.2 with ⟨hall, hrun⟩ | ⟨p, hp, hns, w2, hrun, hi2, hm3, hg2, hs2, hen⟩
    · have HALL : Hid (ps.Perm P) := hid (hse.all HP.out.2.1 hall)
      have HJS := hid hJs
      clear hall hi hm2 hJs hse hsz
      gi_wp2
      go_end0
      exact ⟨⟨_, rfl⟩, .inl ⟨_, HALL.out.map _, HJS.out⟩⟩
    · have hJ2 : J (ps.map (·.1)) w2 := hJ _ wr w2 (some W.heap.size) hJs hg2 (fun r e => by cases e; exact ⟨Nat.le_refl _, _, hi, rfl⟩)
      have HX := hid (HP.out.1 p hp)
      have HSN := hid (hse.step hp hns)
      have HLT : Hid (ps.length < P.length) := hid (by
        have h1 := (hse.step hp hns).le
        simp only [List.length_append, List.length_cons, List.length_nil] at h1
        omega)
      have hcs : (atc p.1).size = 101 := atc_size HX.out
      have hc1 : (atc p.1).all (·.oneCell') = true := atc_one _
      have HJ3 : Hid (J (ps.map (·.1)) (w2.alloc (.cells (atc p.1) 36))) := hid (hJ _ w2 _ none hJ2 (World.grownBy_alloc w2 _ none) (fun r e => by cases e))
      have HI3 : Hid ((w2.alloc (.cells (atc p.1) 36)).heap[W.heap.size]? = some (.mapIter (some m) c (seen.push p.2) c)) := hid ((Below.heap_alloc w2 _ _ (Array.getElem?_eq_some_iff.1 hi2).1).trans hi2)
      have HM3 : Hid ((w2.alloc (.cells (atc p.1) 36)).heap[m]? = some (mapG P c)) := hid ((Below.heap_alloc w2 _ _ (Array.getElem?_eq_some_iff.1 hm3).1).trans hm3)
      have HB3 : Hid ((w2.alloc (.cells (atc p.1) 36)).heap[w2.heap.size]? = some (.cells (atc p.1) 36 (0, 0))) := hid (heap_alloc_new w2 _)
      have HSZ3 : Hid (W.heap.size ≤ (w2.alloc (.cells (atc p.1) 36)).heap.size) := hid (by simp; omega)
      have hal := allocAtt_eq w2
      have hst := attVar_eq w2 hcs hc1
      obtain ⟨fn, tmps, assign, body, hy, hR⟩ := hY (ps.map (·.1)) p.1 _ HJ3.out (by rw [List.length_map]; exact HLT.out)
      rw [nrmA_of HX.out] at hy
      have HR := hid hR
      have hld : loadAtt (.pointer (some ⟨w2.heap.size, 0, none⟩)) (w2.alloc (.cells (atc p.1) 36)) = .ok (.value (.agg (atc p.1))) (w2.alloc (.cells (atc p.1) 36)) := loadAtt_row HB3.out hcs
      have HSI := HSE.out.size
      have HM : Hid (seenG wr W.heap.size = ps.length) := hid (by unfold seenG; rw [hi]; exact hse.size)
      clear hi hm2 hJs hJ2 hse hsz hns hp hm3 hi2 hg2 hs2 hR HSI
      obtain ⟨C, HC⟩ : ∃ C : Array Value, Hid (atc p.1 = C) := ⟨_, hid rfl⟩
      rw [HC.out] at hrun hen hcs hc1 hst hld HI3 HM3 HB3 HSZ3 HJ3 hy HR
      gi_wp2
      refine HR.out.mono ?_
      rintro e W3 (⟨rfl, hJ4, hk3⟩ | ⟨rfl, hJ4⟩)
      · have HI4 := hid (hk3.same _ _ HI3.out rfl)
        have HM4 := hid (hk3.same _ _ HM3.out rfl)
        have HJ4 := hid hJ4
        have HSZ4 : Hid (W.heap.size ≤ W3.heap.size) := hid (Nat.le_trans HSZ3.out hk3.size)
        clear hJ4 hk3 hrun hen hal hst hld hy
        gi_wp2
        go_roundw
        case rel => exact hid ⟨ps ++ [p], seen.push p.2, HI4.out, HM4.out, HSN.out, by rw [List.map_append]; exact HJ4.out, HSZ4.out⟩
        case measure =>
          have h1 : seenG W3 W.heap.size = ps.length + 1 := by
            unfold seenG
            rw [HI4.out]
            simp only [Array.size_push]
            rw [HSE.out.size]
          rw [h1, HM.out]
          have := HLT.out
          omega
      · have HJ4 := hid hJ4
        clear hJ4 hrun hen hal hst hld hy
        gi_wp2
        refine bodyPost_ret (results_none rfl _ _ _) rfl ?_
        exact ⟨⟨_, rfl⟩, .inr ⟨_, HJ4.out⟩⟩
end Go.Proofs.YtpnejoglkmfleaaGreatDoor
